/- labels.Least. -/
import Derived.Test.YtablaacddbkeiaaGreatDoorLbI
namespace Go.Proofs.YtablaacddbkeiaaGreatDoor
open Go.RowKit

theorem one_only {l : List Nat} {a : Nat} (hn : l.Nodup) (ha : a ∈ l) : l.length = 1 ↔ ∀ b ∈ l, b = a := by
  constructor
  · intro h b hb
    obtain ⟨x, rfl⟩ := List.length_eq_one_iff.1 h
    simp at ha hb
    omega
  · intro h
    have h1 := sub_len (l2 := [a]) hn fun x hx => by rw [h x hx]; simp
    have h2 := List.length_pos_of_mem ha
    simp at h1
    omega
/-- Of the labels of the list at or below one that is of it: one alone, if it is a least one. -/
theorem pop_least {ns : List ByteArray} {up : List UInt8} {ls : List Nat} (hg : GL ns up ls) {a : Nat} (ha : a ∈ ls) : decide (pop (bt ls &&& dnN up a) = 1) = leB up ls a := by
  have hn : up.length ≤ 8 := by have := hg.good.most; have := hg.good.len; omega
  have hal := hg.all a ha
  have hm : ∀ b, b ∈ lbl (bt ls &&& dnN up a) ↔ b ∈ ls ∧ le up b a = true := fun b => by
    rw [mem_lbl, Nat.testBit_and, bt_bit, Bool.and_eq_true, decide_eq_true_iff]
    constructor
    · rintro ⟨_, h1, h2⟩
      have hd := dnN_bit hal (hg.all b h1) hn
      unfold bB at hd
      exact ⟨h1, by rw [← hd]; exact h2⟩
    · rintro ⟨h1, h2⟩
      have hd := dnN_bit hal (hg.all b h1) hn
      unfold bB at hd
      exact ⟨hg.all8 b h1, h1, by rw [hd]; exact h2⟩
  rw [Bool.eq_iff_iff, decide_eq_true_iff, leB_iff]
  unfold pop
  rw [one_only (a := a) (lbl_nodup _) ((hm a).2 ⟨ha, hg.good.ords.1.refl a hal⟩)]
  constructor
  · intro h
    refine ⟨ha, fun b hb => ?_⟩
    cases e : le up b a
    · exact .inr rfl
    · exact .inl (h b ((hm b).2 ⟨hb, e⟩))
  · rintro ⟨_, h⟩ b hb
    obtain ⟨h1, h2⟩ := (hm b).1 hb
    rcases h b h1 with e | e
    · exact e
    · rw [e] at h2; cases h2
/-- The least ones among the first k. -/
def lsF (up : List UInt8) (ls l : List Nat) (k : Nat) : List Nat := (l.take k).filter (leB up ls)
theorem lsF_yes {up : List UInt8} {ls l : List Nat} {k : Nat} (h : k < l.length) (hb : leB up ls l[k] = true) : bt (lsF up ls l (k + 1)) = bt (lsF up ls l k) ||| 2 ^ l[k] := by
  unfold lsF; rw [List.take_succ_eq_append_getElem h, List.filter_append, List.filter_cons, if_pos hb, List.filter_nil, bt_snoc]
theorem lsF_no {up : List UInt8} {ls l : List Nat} {k : Nat} (h : k < l.length) (hb : leB up ls l[k] = false) : bt (lsF up ls l (k + 1)) = bt (lsF up ls l k) := by
  unfold lsF; rw [List.take_succ_eq_append_getElem h, List.filter_append, List.filter_cons, if_neg (by rw [hb]; decide), List.filter_nil, List.append_nil]
theorem lsF_all {ns : List ByteArray} {up : List UInt8} {ls l : List Nat} (hg : GL ns up ls) (hm : ∀ a, a ∈ l ↔ a ∈ ls) (b : Nat) : b ∈ lbl (bt (lsF up ls l l.length)) ↔ b < up.length ∧ leB up ls b = true := by
  have h8 : ∀ a ∈ lsF up ls l l.length, a < 8 := fun a ha => by
    unfold lsF at ha
    rw [List.take_of_length_le (Nat.le_refl _)] at ha
    exact hg.all8 a ((hm a).1 (List.mem_filter.1 ha).1)
  rw [lbl_bt h8]
  unfold lsF
  rw [List.take_of_length_le (Nat.le_refl _), List.mem_filter, hm]
  constructor
  · rintro ⟨h1, h2⟩; exact ⟨hg.all b h1, h2⟩
  · rintro ⟨_, h2⟩; exact ⟨(leB_iff.1 h2).1, h2⟩

set_option maxRecDepth 100000 in
set_option maxHeartbeats 4000000 in
theorem lleast_ok (v u : Value) (ns : List ByteArray) (up : List UInt8) (ls : List Nat) (w : World) (hv : RdL w.heap.size w v ns up) (hz : RdN w.heap.size w u ls) (hg : GL ns up ls) :
    Calls Tryz.prog 21 #[v, u] w (SoT up (leB up ls) w) := by
  have HL := Lib.hid hv
  obtain ⟨⟨vn, vu, rfl, hS, hB⟩, hsz⟩ := hv
  obtain ⟨q1, cap, rfl, hc, hc2, h⟩ := hS
  obtain ⟨q, cap', rfl, hc', hc2', h'⟩ := hB
  clear h h' hsz
  have HZ := Lib.hid hz
  obtain ⟨a, c, rfl, hl, hl2, h⟩ := hz
  clear h
  have HI := Lib.hid (Bx.new HL.out)
  have HG := Lib.hid hg
  have HT : Hid (∀ x, x ∈ ls → decide (pop (bt ls &&& dnN up x) = 1) = leB up ls x) := fun x hx => pop_least hg hx
  have HM : Hid (∀ b, b ∈ lbl (bt ls) ↔ b ∈ ls) := lbl_bt hg.all8
  have hdl := bt_lt ls hg.all8
  have HD : Hid (∀ W, RdN W.heap.size W (.slice a ls.length c) ls → Calls Tryz.prog 42 #[.slice a ls.length c] W fun e w' => e = .returned (.int .u8 (bt ls)) ∧ W = w') := fun W hW => setOf_any _ ls W hW HG.out.all8
  generalize bt ls = d at hdl HT HM HD
  clear hg
  go_enter Tryz.func21, Tryz.ntmps21
  go_wp2_with (first
    | (go_at_call 22; refine (lcheck_ok _ _ ns up ls _ HI.out.rd (HZ.out.next HI.out.bel) HG.out).mono ?_; rintro e w1 ⟨rfl, hbn⟩; have HI2 := Lib.hid (HI.out.next hbn); clear HI hbn; have HI := HI2; clear HI2)
    | (go_at_call 42; refine (HD.out _ (HZ.out.next HI.out.bel)).mono ?_; rintro e wn ⟨rfl, rfl⟩)
    | (go_at_call 43; refine (labels_any d _ hdl).mono ?_; rintro e w2 ⟨lu, rfl, hown, hbn⟩; have HI2 := Lib.hid (HI.out.next hbn); clear HI hbn; have HI := HI2; clear HI2; have HR := Lib.hid (Own.rd hown); obtain ⟨la, lc, rfl, hlc, hlc2, V1⟩ := Own.rd hown; clear V1 hown))
  have hl8 : (lbl d).length ≤ 8 := pop_le d
  have HD8 : Hid (∀ x ∈ lbl d, x < 8) := fun x hx => lbl_lt hx
  generalize lbl d = l at HM HR hlc hl8 HD8
  go_loopg [9, 27] l.length (fun g s i wr => ∃ k t : Nat, k + g = l.length ∧ i = .int .i64 k ∧ s = .int .u8 t ∧ t < 256 ∧ Bx w (.slice q1 ns.length cap) (.slice q up.length cap') ns up wr ∧ RdN wr.heap.size wr (.slice la l.length lc) l ∧ Hid (bt (lsF up ls l k) = t))
  case atStart => exact ⟨0, 0, by omega, rfl, rfl, by decide, HI.out, HR.out, rfl⟩
  case round =>
    clear HI HR
    obtain ⟨k, t, hkg, rfl, rfl, ht, hix, hrd, hq⟩ := hrel
    have HI := Lib.hid hix
    have HR := Lib.hid hrd
    have hx0 := hix.x0
    have hx1 := hix.x1
    cases gk with
    | zero =>
      have hkz : ¬ ((k : Int) < (l.length : Int)) := by omega
      have HF : Hid (∀ b, b ∈ lbl t ↔ b < up.length ∧ leB up ls b = true) := by
        have := hq.out
        rw [show k = l.length by omega] at this
        unfold Hid
        rw [← this]
        exact lsF_all HG.out HM.out
      clear hq hix hrd
      go_wp2_with (go_at_call 39; refine (sorted_any _ ns up t _ _ HI.out.rd HG.out.good ht HF.out).mono ?_; rintro e wn ⟨ra, rc, rfl, hrd, hbn⟩; clear hx0 hx1; have HE := Lib.hid (And.intro hrd (HI.out.next hbn)); clear hrd hbn)
      go_ret2
      exact ⟨ra, rc, rfl, HE.out.1, HE.out.2.bel⟩
    | succ g =>
      have hlt : (k : Int) < (l.length : Int) := by omega
      have hk : k < l.length := by omega
      obtain ⟨b0, off, rfl, hlt0, hx⟩ := hrd.at k hk
      have hmem : l[k] ∈ ls := (HM.out _).1 (List.getElem_mem hk)
      have hlk := HG.out.all _ hmem
      have hlk8 := HG.out.all8 _ hmem
      have HTk := Lib.hid (HT.out _ hmem)
      clear hix hrd hmem
      have HDn : Hid (∀ W, RdL W.heap.size W (.agg #[.slice q1 ns.length cap, .slice q up.length cap']) ns up → Calls Tryz.prog 40 #[.agg #[.slice q1 ns.length cap, .slice q up.length cap'], .int .i64 (l[k] : Nat)] W fun e w' => e = .returned (.int .u8 (dnN up l[k])) ∧ Below W.heap.size W w') := fun W hW => downSet_any _ ns up _ W hW HG.out.good hlk
      have hx9 := dnN_lt up l[k]
      generalize dnN up l[k] = x at HTk HDn hx9
      have han := and_n8 d x hdl hx9
      have hml : d &&& x < 256 := Nat.lt_of_le_of_lt Nat.and_le_left hdl
      have hpl : pop (d &&& x) ≤ 8 := pop_le _
      generalize d &&& x = m at HTk han hml hpl
      have HP : Hid (∀ W, Calls Tryz.prog 46 #[.int .u8 m] W fun e w' => e = .returned (.int .i64 (pop m)) ∧ W = w') := fun W => size_any m W hml
      have h0 : (((pop m : Nat) : Int) == 1) = decide (pop m = 1) := by
        rw [Bool.eq_iff_iff]; simp only [beq_iff_eq, decide_eq_true_eq]; omega
      generalize pop m = pm at HTk HP h0 hpl
      cases c1 : leB up ls l[k] with
      | true =>
        have c0 : ((pm : Int) == 1) = true := by rw [h0, HTk.out, c1]
        have HQ : Hid (bt (lsF up ls l (k + 1)) = t ||| 2 ^ l[k]) := by unfold Hid; rw [lsF_yes hk c1, hq.out]
        have htn := or_pow_lt (k := 8) ht hlk8
        clear h0 c1
        go_wp2_with (first
          | (go_at_call 40; refine (HDn.out _ HI.out.rd).mono ?_; rintro e wn ⟨rfl, hbn⟩; clear hx0 hx1 hx; have HE := Lib.hid (And.intro (HI.out.next hbn) (HR.out.next hbn)); clear hbn)
          | (go_at_call 46; refine (HP.out _).mono ?_; rintro e wz ⟨rfl, rfl⟩)
          | (go_at_call 47; refine (with_any _ _ _ ht hlk8).mono ?_; rintro e wz ⟨rfl, rfl⟩))
        go_roundg g
        case measure => omega
        case rel => exact ⟨k + 1, _, by omega, by go_num, rfl, htn, HE.out.1, HE.out.2, HQ⟩
      | false =>
        have c0 : ((pm : Int) == 1) = false := by rw [h0, HTk.out, c1]
        have HQ : Hid (bt (lsF up ls l (k + 1)) = t) := by unfold Hid; rw [lsF_no hk c1, hq.out]
        clear h0 c1
        go_wp2_with (first
          | (go_at_call 40; refine (HDn.out _ HI.out.rd).mono ?_; rintro e wn ⟨rfl, hbn⟩; clear hx0 hx1 hx; have HE := Lib.hid (And.intro (HI.out.next hbn) (HR.out.next hbn)); clear hbn)
          | (go_at_call 46; refine (HP.out _).mono ?_; rintro e wz ⟨rfl, rfl⟩))
        go_roundg g
        case measure => omega
        case rel => exact ⟨k + 1, t, by omega, by go_num, rfl, ht, HE.out.1, HE.out.2, HQ⟩
end Go.Proofs.YtablaacddbkeiaaGreatDoor
