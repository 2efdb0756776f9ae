/- labels.Chain, Least. -/
import Derived.Test.YtablaacddbkeiaaGreatDoorLbH
namespace Go.Proofs.YtablaacddbkeiaaGreatDoor
open Go.RowKit

theorem or_n8 (x y : Nat) (hx : x < 256) (hy : y < 256) : bits BinOp.or IntKind.u8 (x : Int) (y : Int) = ((x ||| y : Nat) : Int) := (bits_nat .u8 8 (by decide) wraps_u8 x y hx hy).2
theorem and_n8 (x y : Nat) (hx : x < 256) (hy : y < 256) : bits BinOp.and IntKind.u8 (x : Int) (y : Int) = ((x &&& y : Nat) : Int) := (bits_nat .u8 8 (by decide) wraps_u8 x y hx hy).1
def andN (a b : Nat) : Nat := (BitVec.ofNat 8 a &&& ~~~BitVec.ofNat 8 b).toNat
theorem andN_eq (a b : Nat) : bits BinOp.andNot IntKind.u8 (a : Int) (b : Int) = ((andN a b : Nat) : Int) := by
  unfold andN
  simp only [bits, BitVec.ofInt_natCast]
  exact wraps_u8 _ (Int.natCast_nonneg _) (by exact_mod_cast (BitVec.isLt _))
theorem andN_lt (a b : Nat) : andN a b < 256 := BitVec.isLt _
theorem andN_bit (a b i : Nat) (h : i < 8) : (andN a b).testBit i = (a.testBit i && !b.testBit i) := by
  unfold andN
  rw [BitVec.testBit_toNat, BitVec.getLsbD_and, BitVec.getLsbD_not, BitVec.getLsbD_ofNat, BitVec.getLsbD_ofNat]
  simp [h]
theorem andN_0 (a b : Nat) : andN a b = 0 ↔ ∀ i, i < 8 → a.testBit i = true → b.testBit i = true := by
  constructor
  · intro h i hi h1
    have := andN_bit a b i hi
    rw [h, h1] at this
    simpa using this.symm
  · intro h
    refine Nat.eq_of_testBit_eq fun i => ?_
    rw [Nat.zero_testBit]
    by_cases hi : i < 8
    · rw [andN_bit a b i hi]
      cases h1 : a.testBit i
      · rfl
      · rw [h i hi h1]; rfl
    · exact Nat.testBit_lt_two_pow (Nat.lt_of_lt_of_le (andN_lt a b) (Nat.pow_le_pow_right (n := 2) (i := 8) (by decide) (by omega)))
/-- Whether a label may be compared with all of a list. -/
def rwB (up : List UInt8) (ls : List Nat) (a : Nat) : Bool := ls.all (cmpB up a)
theorem rw_test {up : List UInt8} {ls : List Nat} {a : Nat} (hn : up.length ≤ 8) (hl : ∀ b ∈ ls, b < up.length) (ha : a < up.length) : rwB up ls a = decide (andN (bt ls) (dnN up a ||| upN up a) = 0) := by
  rw [Bool.eq_iff_iff, decide_eq_true_iff, andN_0]
  unfold rwB
  rw [List.all_eq_true]
  have hb : ∀ b, b < up.length → ((dnN up a ||| upN up a).testBit b = cmpB up a b) := fun b hb => by
    rw [Nat.testBit_or]
    have h1 := dnN_bit ha hb hn
    unfold bB at h1
    rw [h1]; rfl
  constructor
  · intro h i hi h1
    rw [bt_bit, decide_eq_true_iff] at h1
    rw [hb i (hl i h1)]; exact h i h1
  · intro h b hm
    rw [← hb b (hl b hm)]
    have := hl b hm
    exact h b (by omega) (by rw [bt_bit, decide_eq_true hm])
def nrB (up : List UInt8) (ls : List Nat) (l : List Nat) (k : Nat) : Bool := !rwB up ls (l.getD k 0)
theorem nrB_get {up : List UInt8} {ls l : List Nat} {k : Nat} (h : k < l.length) : nrB up ls l k = !rwB up ls l[k] := by unfold nrB; rw [List.getD_eq_getElem?_getD, List.getElem?_eq_getElem h]; rfl
theorem chB_all {up : List UInt8} {ls l : List Nat} (hm : ∀ a, a ∈ l ↔ a ∈ ls) (h : (List.range l.length).any (nrB up ls l) = false) : chB up ls = true := by
  have h1 := range_any_false h
  show ls.all (rwB up ls) = true
  rw [List.all_eq_true]
  intro a ha
  obtain ⟨i, hi, rfl⟩ := List.getElem_of_mem ((hm a).2 ha)
  have := h1 i hi
  rw [nrB_get hi] at this
  simpa using this
theorem chB_no {up : List UInt8} {ls : List Nat} {a : Nat} (ha : a ∈ ls) (h : rwB up ls a = false) : chB up ls = false := by
  show ls.all (rwB up ls) = false
  rw [← Bool.not_eq_true, List.all_eq_true]
  intro h2
  rw [h2 a ha] at h; cases h

set_option maxRecDepth 100000 in
set_option maxHeartbeats 4000000 in
theorem lchain_ok (v u : Value) (ns : List ByteArray) (up : List UInt8) (ls : List Nat) (w : World) (hv : RdL w.heap.size w v ns up) (hz : RdN w.heap.size w u ls) (hg : GL ns up ls) :
    Calls Tryz.prog 17 #[v, u] w fun e w' => e = .returned (.tuple #[.bool (chB up ls), .int .i64 0]) ∧ Below w.heap.size w w' := by
  have HL := Lib.hid hv
  obtain ⟨⟨vn, vu, rfl, hS, hB⟩, hsz⟩ := hv
  obtain ⟨q1, cap, rfl, hc, hc2, h⟩ := hS
  obtain ⟨q, cap', rfl, hc', hc2', h'⟩ := hB
  clear h h' hsz
  have HZ := Lib.hid hz
  obtain ⟨a, c, rfl, hl, hl2, h⟩ := hz
  clear h
  have HI := Lib.hid (Bx.new HL.out)
  have HG := Lib.hid hg
  have hu8 : up.length ≤ 8 := by have := hg.good.most; have := hg.good.len; omega
  have HT : Hid (∀ x, x < up.length → rwB up ls x = decide (andN (bt ls) (dnN up x ||| upN up x) = 0)) := fun x hx => rw_test hu8 hg.all hx
  have HM : Hid (∀ b, b ∈ lbl (bt ls) ↔ b ∈ ls) := lbl_bt hg.all8
  have hdl := bt_lt ls hg.all8
  have HD : Hid (∀ W, RdN W.heap.size W (.slice a ls.length c) ls → Calls Tryz.prog 42 #[.slice a ls.length c] W fun e w' => e = .returned (.int .u8 (bt ls)) ∧ W = w') := fun W hW => setOf_any _ ls W hW HG.out.all8
  generalize bt ls = d at hdl HT HM HD
  clear hg
  go_enter Tryz.func17, Tryz.ntmps17
  go_wp2_with (first
    | (go_at_call 22; refine (lcheck_ok _ _ ns up ls _ HI.out.rd (HZ.out.next HI.out.bel) HG.out).mono ?_; rintro e w1 ⟨rfl, hbn⟩; have HI2 := Lib.hid (HI.out.next hbn); clear HI hbn; have HI := HI2; clear HI2)
    | (go_at_call 42; refine (HD.out _ (HZ.out.next HI.out.bel)).mono ?_; rintro e wn ⟨rfl, rfl⟩)
    | (go_at_call 43; refine (labels_any d _ hdl).mono ?_; rintro e w2 ⟨lu, rfl, hown, hbn⟩; have HI2 := Lib.hid (HI.out.next hbn); clear HI hbn; have HI := HI2; clear HI2; have HR := Lib.hid (Own.rd hown); obtain ⟨la, lc, rfl, hlc, hlc2, V1⟩ := Own.rd hown; clear V1 hown))
  have hl8 : (lbl d).length ≤ 8 := pop_le d
  have HD8 : Hid (∀ x ∈ lbl d, x < 8) := fun x hx => lbl_lt hx
  generalize lbl d = l at HM HR hlc hl8 HD8
  go_loopg [25] l.length (fun g i wr => ∃ k : Nat, k + g = l.length ∧ i = .int .i64 k ∧ Bx w (.slice q1 ns.length cap) (.slice q up.length cap') ns up wr ∧ RdN wr.heap.size wr (.slice la l.length lc) l ∧ Hid ((List.range k).any (nrB up ls l) = false))
  case atStart => exact ⟨0, by omega, rfl, HI.out, HR.out, rfl⟩
  case round =>
    clear HI HR
    obtain ⟨k, hkg, rfl, hix, hrd, hq⟩ := hrel
    have HI := Lib.hid hix
    have HR := Lib.hid hrd
    cases gk with
    | zero =>
      have hkz : ¬ ((k : Int) < (l.length : Int)) := by omega
      have HF : Hid (chB up ls = true) := chB_all HM.out (by
        have := hq.out
        rwa [show k = l.length by omega] at this)
      clear hq hix hrd
      go_wp2_with fail
      go_ret2
      exact ⟨ret_two (by rw [HF.out]; rfl) rfl, HI.out.bel⟩
    | succ g =>
      have hlt : (k : Int) < (l.length : Int) := by omega
      have hk : k < l.length := by omega
      obtain ⟨b0, off, rfl, hlt0, hx⟩ := hrd.at k hk
      have hmem : l[k] ∈ ls := (HM.out _).1 (List.getElem_mem hk)
      have hlk := HG.out.all _ hmem
      have HN : Hid (nrB up ls l k = !rwB up ls l[k]) := nrB_get hk
      have HTk := Lib.hid (HT.out _ hlk)
      have HMe := Lib.hid hmem
      clear hix hrd hmem
      have HDn : Hid (∀ W, RdL W.heap.size W (.agg #[.slice q1 ns.length cap, .slice q up.length cap']) ns up → Calls Tryz.prog 40 #[.agg #[.slice q1 ns.length cap, .slice q up.length cap'], .int .i64 (l[k] : Nat)] W fun e w' => e = .returned (.int .u8 (dnN up l[k])) ∧ Below W.heap.size W w') := fun W hW => downSet_any _ ns up _ W hW HG.out.good hlk
      have HUp : Hid (∀ W, RdL W.heap.size W (.agg #[.slice q1 ns.length cap, .slice q up.length cap']) ns up → Calls Tryz.prog 41 #[.agg #[.slice q1 ns.length cap, .slice q up.length cap'], .int .i64 (l[k] : Nat)] W fun e w' => e = .returned (.int .u8 (upN up l[k])) ∧ Below W.heap.size W w') := fun W hW => upSet_any _ ns up _ W hW hlk
      have hx1 := dnN_lt up l[k]
      have hx2 := upN_lt up l[k]
      generalize dnN up l[k] = x at HTk HDn hx1
      generalize upN up l[k] = y at HTk HUp hx2
      have hor := or_n8 x y hx1 hx2
      have han := andN_eq d (x ||| y)
      have h0 : (((andN d (x ||| y) : Nat) : Int) != 0) = !decide (andN d (x ||| y) = 0) := by
        rw [Bool.eq_iff_iff]; simp
      generalize andN d (x ||| y) = m at HTk han h0
      generalize x ||| y = o at hor han
      have hS : Kl w (.slice q1 ns.length cap) (.slice q up.length cap') (.slice (some ⟨b0, off, none⟩) l.length lc) ns up l wr := ⟨HI.out, HR.out⟩
      clear HI HR
      cases c1 : rwB up ls l[k] with
      | true =>
        have c0 : ((m : Int) != 0) = false := by rw [h0, ← HTk.out, c1]; rfl
        have HQ := Lib.hid (any_succ hq.out (by rw [HN.out, c1]; rfl))
        clear h0 c1
        go_wp2_with fail
        clear hx
        go_region_held3 (fun W => Kl w (.slice q1 ns.length cap) (.slice q up.length cap') (.slice (some ⟨b0, off, none⟩) l.length lc) ns up l W ∧ W.cell? ⟨w.heap.size, 0, none⟩ = some (.slice q1 ns.length cap) ∧ W.cell? ⟨w.heap.size, 1, none⟩ = some (.slice q up.length cap'))
          ((first | exact kl3n (by assumption) hbn | exact kl3d hS))
          (first
            | (go_at_call 40; refine (HDn.out _ (by assumption : Kl _ _ _ _ _ _ _ _ ∧ _ ∧ _).1.1.rd).mono ?_; rintro e wn ⟨rfl, hbn⟩)
            | (go_at_call 41; refine (HUp.out _ (by assumption : Kl _ _ _ _ _ _ _ _ ∧ _ ∧ _).1.1.rd).mono ?_; rintro e wn ⟨rfl, hbn⟩))
        have HE := Lib.hid (by assumption : Kl _ _ _ _ _ _ _ _ ∧ _ ∧ _).1
        go_wp2_with fail
        go_roundg g
        case measure => omega
        case rel => exact ⟨k + 1, by omega, by go_num, HE.out.1, HE.out.2, HQ⟩
      | false =>
        have c0 : ((m : Int) != 0) = true := by rw [h0, ← HTk.out, c1]; rfl
        have HF : Hid (chB up ls = false) := chB_no HMe.out c1
        clear h0 c1
        go_wp2_with fail
        clear hx
        go_region_held3 (fun W => Kl w (.slice q1 ns.length cap) (.slice q up.length cap') (.slice (some ⟨b0, off, none⟩) l.length lc) ns up l W ∧ W.cell? ⟨w.heap.size, 0, none⟩ = some (.slice q1 ns.length cap) ∧ W.cell? ⟨w.heap.size, 1, none⟩ = some (.slice q up.length cap'))
          ((first | exact kl3n (by assumption) hbn | exact kl3d hS))
          (first
            | (go_at_call 40; refine (HDn.out _ (by assumption : Kl _ _ _ _ _ _ _ _ ∧ _ ∧ _).1.1.rd).mono ?_; rintro e wn ⟨rfl, hbn⟩)
            | (go_at_call 41; refine (HUp.out _ (by assumption : Kl _ _ _ _ _ _ _ _ ∧ _ ∧ _).1.1.rd).mono ?_; rintro e wn ⟨rfl, hbn⟩))
        have HE := Lib.hid (by assumption : Kl _ _ _ _ _ _ _ _ ∧ _ ∧ _).1
        go_wp2_with fail
        go_ret2
        exact ⟨ret_two (by rw [HF.out]; rfl) rfl, HE.out.1.bel⟩
end Go.Proofs.YtablaacddbkeiaaGreatDoor
