/- Join: pure facts; words.Join. -/
import Derived.Test.YtocmnobcccjenaaDoorWaO
import Derived.Test.YtocmnobcccjenaaDoorJoA
import Derived.Test.YtocmnobcccjenaaDoorQuB
import Derived.Test.YtocmnobcccjenaaDoorWaP
import Derived.Test.YtocmnobcccjenaaDoorSpA
import Derived.Deep.LoopGhost
import Derived.Deep.QuietTactic
namespace Go.Proofs.YtocmnobcccjenaaDoor
open Go.RowKit

theorem below_drewN {B : Nat} {a w : World} (h : Below B a w) (n : Nat) : Below B a (w.drewN n) := ⟨h.os, h.tape, h.output, h.size, h.block⟩
/-- The text of a field; whether it has one. -/
def ptF (f : Fd) : List UInt8 := if f.2 = true then quoF f.1 else f.1
def okF (f : Fd) : Bool := f.2 || brB f.1
def jL (l : List Fd) : List UInt8 := Lib.join (l.map ptF) [32]
def jE (l : List Fd) : Int := if tooB l = true then 3 else if l.all okF = false then 6 else if 8192 < (jL l).length then 3 else 0
def jV (l : List Fd) : List UInt8 := if jE l = 0 then jL l else []
theorem jE_too {l : List Fd} (h : tooB l = true) : jE l = 3 := if_pos h
theorem jE_form {l : List Fd} (h : tooB l = false) (h2 : l.all okF = false) : jE l = 6 := by unfold jE; rw [if_neg (by rw [h]; decide), if_pos h2]
theorem jE_long {l : List Fd} (h : tooB l = false) (h2 : l.all okF = true) (h3 : 8192 < (jL l).length) : jE l = 3 := by
  unfold jE; rw [if_neg (by rw [h]; decide), if_neg (by rw [h2]; decide), if_pos h3]
theorem jE_ok {l : List Fd} (h : tooB l = false) (h2 : l.all okF = true) (h3 : ¬ 8192 < (jL l).length) : jE l = 0 := by
  unfold jE; rw [if_neg (by rw [h]; decide), if_neg (by rw [h2]; decide), if_neg h3]
theorem jV_no {l : List Fd} {x : Int} (h : jE l = x) (hx : x ≠ 0) : jV l = [] := by unfold jV; rw [if_neg (by rw [h]; exact hx)]
theorem jV_ok {l : List Fd} (h : jE l = 0) : jV l = jL l := if_pos h
theorem too_no {l : List Fd} (h : tooB l = false) : l.length ≤ 64 ∧ ∀ f ∈ l, f.1.length ≤ 2000 := by
  unfold tooB at h
  rw [Bool.or_eq_false_iff] at h
  refine ⟨by have := h.2; simp at this; omega, fun f hf => ?_⟩
  have h1 := h.1
  unfold longB at h1
  rw [List.any_eq_false] at h1
  have := h1 f hf
  simp at this
  omega
theorem quo_len (l : List UInt8) : (quoF l).length ≤ 4 * l.length + 2 := by
  have := flat_len l
  unfold quoF
  simp only [List.length_cons, List.length_append, List.length_nil]
  omega
theorem pt_len {f : Fd} (h : f.1.length ≤ 2000) : (ptF f).length ≤ 8002 := by
  unfold ptF
  have := quo_len f.1
  split <;> omega
theorem all_snocF {l : List Fd} {k : Nat} (h : k < l.length) (h1 : (l.take k).all okF = true) (h2 : okF l[k] = true) : (l.take (k + 1)).all okF = true := by
  rw [List.take_succ_eq_append_getElem h, List.all_append, h1]; simp [h2]
theorem all_noF {l : List Fd} {k : Nat} (h : k < l.length) (h2 : okF l[k] = false) : l.all okF = false := by
  rw [Bool.eq_false_iff]
  intro e
  have := (List.all_eq_true.1 e) l[k] (List.getElem_mem h)
  rw [h2] at this; cases this
theorem map_snocF {l : List Fd} {k : Nat} (h : k < l.length) : (l.take (k + 1)).map ptF = (l.take k).map ptF ++ [ptF l[k]] := by
  rw [List.take_succ_eq_append_getElem h, List.map_append]; rfl
theorem strs_snoc {w : World} {base : Nat} {v : Value} {l : List (List UInt8)} {x : List UInt8} (h : w.ownsRow base 9 1 v (l.length + 1) (l.map (fun c => Value.string ⟨c.toArray⟩) ++ [.string ⟨x.toArray⟩])) : Strs w base v (l ++ [x]) := by
  unfold Strs; rw [List.length_append, List.map_append]; exact h
theorem br_full {S : ByteArray} (h : brB (byt S) = true) : 0 < S.size ∧ bw (byt S) = S.size := by
  unfold brB at h
  rw [Bool.and_eq_true] at h
  have h1 : byt S ≠ [] := by intro e; rw [e] at h; simp at h
  refine ⟨by rw [← byt_len]; exact List.length_pos_iff.2 h1, ?_⟩
  exact bw_eq _ _ (by rw [byt_len]; exact Nat.le_refl _) (by rw [List.take_of_length_le (by rw [byt_len]; exact Nat.le_refl _)]; exact h.1) (fun h' => absurd h' (by rw [byt_len]; omega))
theorem br_not {S : ByteArray} (h : brB (byt S) = false) (h0 : 0 < S.size) : bw (byt S) ≠ S.size := by
  intro e
  have h1 := bw_all (byt S)
  rw [e, List.take_of_length_le (by rw [byt_len]; exact Nat.le_refl _)] at h1
  unfold brB at h
  rw [h1] at h
  have h2 : (byt S).isEmpty = false := by
    cases hb : byt S with
    | nil => have := byt_len S; rw [hb] at this; simp at this; omega
    | cons _ _ => rfl
  rw [h2] at h; cases h
theorem empty_toList {S : ByteArray} (h : S.size = 0) : S.toList = [] := by
  rw [byt_eq]
  exact List.eq_nil_of_length_eq_zero (by rw [byt_len]; exact h)

set_option maxRecDepth 100000 in
set_option maxHeartbeats 8000000 in
theorem join_any (v : Value) (l : List Fd) (w : World) (hw : Lay w) (hv : FldB w.heap.size w v l) (hln : l.length ≤ 1000) :
    Calls Tryd.prog 7 #[v] w fun e w' => e = .returned (.tuple #[.string ⟨(jV l).toArray⟩, .int .i64 (jE l)]) ∧ Below w.heap.size w w' := by
  have HV := Lib.hid hv
  have HW := Lib.hid hw
  obtain ⟨i0, hi, hz0, hz1, hz2⟩ := info_parts info9
  obtain ⟨a, cap, rfl, hcap, hcell⟩ := hv
  cases e0 : tooB l with
  | true =>
    have HE := Lib.hid (jE_too e0)
    have HVn : Hid (jV l = []) := jV_no HE.out (by decide)
    clear hcell
    go_enter Tryd.func7, Tryd.ntmps7
    go_wp2_with (go_at_call 15; refine (tooLong_any _ l _ HV.out (by omega)).mono ?_; rintro e w' ⟨rfl, hbn⟩)
    go_ret2
    exact ⟨by rw [HE.out, HVn.out]; rfl, hbn⟩
  | false =>
    obtain ⟨h64, hmx⟩ := too_no e0
    have HT := Lib.hid e0
    have HM := Lib.hid hmx
    have HC := Lib.hid hcell
    clear hmx hcell e0
    have HT2 : Hid (tooB l = false) := HT.out
    go_enter Tryd.func7, Tryd.ntmps7
    go_wp2_with (first
      | (go_at_call 15; refine (tooLong_any _ l _ HV.out (by omega)).mono ?_; rw [HT.out]; rintro e w1 ⟨rfl, hb1⟩; have hs1 := hb1.size)
      | (at_make; refine wpList_make_own _ rfl _ _ 39 rfl w.heap.size 9 i0 (.string ByteArray.empty) 1 Tryd.underlying39 hi hz0 hz1 .i64 .i64 _ l.length rfl rfl (by omega) (by rw [hz2]; omega) (by unfold maxLen; omega) hs1 ?_; intro w2 hown2 hgrow2))
    have hb2 : Below w.heap.size w w2 := hb1.grown hgrow2 hs1 (fun j e => by cases e)
    have hO2 : Strs w2 w.heap.size (.slice (some ⟨w1.heap.size, 0, none⟩) 0 l.length) ((l.take 0).map ptF) := hown2
    clear hown2 hgrow2
    go_loopg [4, 15] l.length (fun g v i wr => ∃ k : Nat, k + g = l.length ∧ i = .int .i64 k ∧ Strs wr w.heap.size v ((l.take k).map ptF) ∧ Below w.heap.size w wr ∧ Hid ((l.take k).all okF = true))
    case atStart => exact ⟨0, by omega, rfl, hO2, hb2, rfl⟩
    case round =>
      clear hO2 hb2 hb1 hs1
      obtain ⟨k, hkg, rfl, hown, hbl, hok⟩ := hrel
      have hszw := hbl.size
      have hLr := Lib.hid (HW.out.next hbl)
      cases gk with
      | zero =>
        have hkz : ¬ ((k : Int) < (l.length : Int)) := by omega
        have hok2 : l.all okF = true := by
          have := hok.out
          rwa [List.take_of_length_le (by omega)] at this
        rw [List.take_of_length_le (by omega)] at hown
        have hjl := join_len (l.map ptF) [32] 8002 (fun x hx => by
          obtain ⟨f, hf, rfl⟩ := List.mem_map.1 hx
          exact pt_len (HM.out f hf))
        rw [List.length_map] at hjl
        have hjl2 : (jL l).length ≤ 64 * 8003 := Nat.le_trans hjl (Nat.mul_le_mul h64 (by decide))
        have HJ : Hid (Calls Tryd.prog 18 #[u4, .string ⟨#[32]⟩] wr fun e w' => e = .returned (.string ⟨(jL l).toArray⟩) ∧ Below wr.heap.size wr w') := join_own _ _ (l.map ptF) [32] wr hown (by rw [List.length_map]; omega) (by show (jL l).length ≤ _; omega)
        have hsj : (⟨(jL l).toArray⟩ : ByteArray).size = (jL l).length := rfl
        by_cases h8 : 8192 < (jL l).length
        · have HE : Hid (jE l = 3) := jE_long HT.out hok2 h8
          have HVn : Hid (jV l = []) := jV_no HE.out (by decide)
          have h8i : (8192 : Int) < ((jL l).length : Int) := by omega
          clear hok hok2 hown hjl
          go_wp2_with (go_at_call 18; refine (HJ.out).mono ?_; rintro e w' ⟨rfl, hb3⟩)
          go_ret2
          exact ⟨by rw [HE.out, HVn.out]; rfl, hbl.trans (hb3.mono hszw)⟩
        · have HE : Hid (jE l = 0) := jE_ok HT.out hok2 h8
          have HVn : Hid (jV l = jL l) := jV_ok HE.out
          have h8i : ¬ (8192 : Int) < ((jL l).length : Int) := by omega
          clear hok hok2 hown hjl
          go_wp2_with (first
            | (go_at_call 18; refine (HJ.out).mono ?_; rintro e w' ⟨rfl, hb3⟩)
            | (go_at_call 19; refine (clone_any _ _ (by rw [hsj]; omega)).mono ?_; rintro e w'' ⟨rfl, hb5⟩))
          go_ret2
          exact ⟨by rw [HE.out, HVn.out]; rfl, (hbl.trans (hb3.mono hszw)).trans (hb5.mono (Nat.le_trans hszw hb3.size))⟩
      | succ g =>
        have hklt : (k : Int) < (l.length : Int) := by omega
        have hk : k < l.length := by omega
        obtain ⟨b, off, rfl, hbB, hc⟩ := HC.out (by intro e; rw [e] at hk; simp at hk)
        obtain ⟨hc1, hc2⟩ := hc k hk
        have hd1 : wr.cell? ⟨b, off + k * 2, none⟩ = some (.string ⟨l[k].1.toArray⟩) := (hbl.cell (p := ⟨b, off + k * 2, none⟩) hbB).trans hc1
        have hd2 : wr.cell? ⟨b, off + k * 2 + 1, none⟩ = some (.bool l[k].2) := (hbl.cell (p := ⟨b, off + k * 2 + 1, none⟩) hbB).trans hc2
        have HA : Hid (okF l[k] = true → (l.take (k + 1)).all okF = true) := fun h => all_snocF hk hok.out h
        have HN : Hid (okF l[k] = false → l.all okF = false) := all_noF hk
        have HMs : Hid ((l.take (k + 1)).map ptF = (l.take k).map ptF ++ [ptF l[k]]) := map_snocF hk
        have hmk := HM.out l[k] (List.getElem_mem hk)
        have hll : ((l.take k).map ptF).length ≤ 64 := by rw [List.length_map, List.length_take]; omega
        clear hc hc1 hc2 hok
        generalize l[k] = f at hd1 hd2 HA HN HMs hmk
        obtain ⟨xs, q⟩ := f
        obtain ⟨X, rfl⟩ : ∃ X : ByteArray, xs = byt X := ⟨⟨xs.toArray⟩, (byt_mk xs).symm⟩
        simp only [mk_byt] at hd1 hd2 hmk
        rw [byt_len] at hmk
        generalize (l.take k).map ptF = L at hown HMs hll
        cases q with
        | true =>
          have HA2 := Lib.hid (HA.out rfl)
          have hql := quo_len (byt X)
          rw [byt_len] at hql
          clear HA HN
          go_wp2_with (first
            | (go_at_call 16; refine (quote_any X _ (hLr.out.alloc _) (by omega)).mono ?_; rintro e w3 ⟨rfl, hb3⟩; have hown3 := own_below (World.ownsRow.alloc hown _) hb3; have hs3 : wr.heap.size ≤ w3.heap.size := Nat.le_trans (by simp) hb3.size; have hbr : Below w.heap.size w w3 := (hbl.alloc hszw _).trans (hb3.mono (by simp; omega)))
            | (at_builtin; refine wpList_append_own _ rfl _ _ 39 rfl w.heap.size 9 i0 (.string ByteArray.empty) 1 16 Tryd.underlying39 hi hz0 hz1 hz2 rfl (by decide) _ _ _ rfl (World.ownsRow.alloc hown3 _) ⟨w3.heap.size, 0, none⟩ 1 1 [.string ⟨(quoF (byt X)).toArray⟩] rfl rfl ?c1 ?c2 ?c3 ?c4 ?c5 ?_; rotate_left 5; intro v4 w4 hown4 hgrow4 _))
          case c1 => exact cell_one_new _ _ _
          case c2 => simp [Value.oneCell']
          case c3 => unfold maxLen; omega
          case c4 => omega
          case c5 => simp; omega
          go_roundg g
          case measure => omega
          case rel => exact ⟨k + 1, by omega, by go_num, by rw [HMs.out]; exact strs_snoc hown4, (hbr.alloc (by omega) _).grown hgrow4 (by simp; omega) (fun j e => (World.ownsRow.lt hown3 j e).1), HA2⟩
        | false =>
          have hbe : okF (byt X, false) = brB (byt X) := rfl
          cases c1 : brB (byt X) with
          | true =>
            have HA2 := Lib.hid (HA.out (hbe.trans c1))
            obtain ⟨hx0, hbw⟩ := br_full c1
            have hne := ne_nil_of_size X hx0
            have hne2 := not_empty_of_size X hx0
            have hxs : ((bw (byt X) : Int) == (X.size : Int)) = true := by rw [beq_iff_eq, hbw]
            have HBw : Hid (∀ W, Calls Tryd.prog 17 #[.string X] W fun e w' => e = .returned (.int .i64 (bw (byt X))) ∧ w' = W) := fun W => (bareWidth_any X W (by omega)).mono fun e w' h => ⟨h.1, h.2.symm⟩
            clear HA HN hbe c1 hbw
            generalize bw (byt X) = bx at hxs HBw
            go_wp2_with fail
            go_quiet ((go_at_call 17; exact Calls.quiet_of_same (HBw.out _)))
            have hown5 : (((wr.alloc (.cells #[.string X, .bool false] 30)).drewN nq)).ownsRow w.heap.size 9 1 u4 L.length (L.map fun c => Value.string ⟨c.toArray⟩) := own_below (World.ownsRow.alloc hown (.cells #[.string X, .bool false] 30)) (below_drewN (Below.refl _ _) nq)
            go_wp2_with (at_builtin; refine wpList_append_own _ rfl _ _ 39 rfl w.heap.size 9 i0 (.string ByteArray.empty) 1 16 Tryd.underlying39 hi hz0 hz1 hz2 rfl (by decide) _ _ _ rfl (World.ownsRow.alloc hown5 _) ⟨_, 0, none⟩ 1 1 [.string X] rfl rfl ?c1 ?c2 ?c3 ?c4 ?c5 ?_; rotate_left 5; intro v4 w4 hown4 hgrow4 _)
            case c1 =>
              have h := cell_one_new ((wr.alloc (.cells #[.string X, .bool false] 30)).drewN nq) (.string X) 9
              rw [show ((wr.alloc (.cells #[.string X, .bool false] 30)).drewN nq).heap.size = wr.heap.size + 1 by simp] at h
              exact h
            case c2 => simp [Value.oneCell']
            case c3 => unfold maxLen; omega
            case c4 => omega
            case c5 => simp; omega
            have hbr : Below w.heap.size w ((wr.alloc (.cells #[.string X, .bool false] 30)).drewN nq) := below_drewN (hbl.alloc hszw _) nq
            go_roundg g
            case measure => omega
            case rel => exact ⟨k + 1, by omega, by go_num, by rw [HMs.out]; exact strs_snoc (by show w4.ownsRow _ _ _ _ _ (L.map _ ++ [Value.string ⟨(byt X).toArray⟩]); rw [mk_byt]; exact hown4), (hbr.alloc (by simp; omega) _).grown hgrow4 (by simp; omega) (fun j e => (World.ownsRow.lt hown5 j e).1), HA2⟩
          | false =>
            have HE : Hid (jE l = 6) := jE_form HT2.out (HN.out (hbe.trans c1))
            have HVn : Hid (jV l = []) := jV_no HE.out (by decide)
            by_cases hx0 : 0 < X.size
            · have hne := ne_nil_of_size X hx0
              have hne2 := not_empty_of_size X hx0
              have hnq := br_not c1 hx0
              have hxs : ((bw (byt X) : Int) == (X.size : Int)) = false := by rw [beq_eq_false_iff_ne]; omega
              have HBw : Hid (∀ W, Calls Tryd.prog 17 #[.string X] W fun e w' => e = .returned (.int .i64 (bw (byt X))) ∧ w' = W) := fun W => (bareWidth_any X W (by omega)).mono fun e w' h => ⟨h.1, h.2.symm⟩
              clear HA HN hbe c1 hnq
              generalize bw (byt X) = bx at hxs HBw
              go_wp2_with fail
              go_quiet ((go_at_call 17; exact Calls.quiet_of_same (HBw.out _)))
              go_wp2_with fail
              go_ret2
              exact ⟨by rw [HE.out, HVn.out]; rfl, below_drewN (hbl.alloc hszw _) nq⟩
            · have hnil := empty_toList (S := X) (by omega)
              clear HA HN hbe c1
              go_wp2_with fail
              go_quiet (fail)
              go_wp2_with fail
              go_ret2
              exact ⟨by rw [HE.out, HVn.out]; rfl, below_drewN (hbl.alloc hszw _) nq⟩
end Go.Proofs.YtocmnobcccjenaaDoor
