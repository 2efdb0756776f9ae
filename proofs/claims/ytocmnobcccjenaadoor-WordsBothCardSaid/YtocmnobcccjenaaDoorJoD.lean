/- The law WordsJoins. -/
import Derived.Test.YtocmnobcccjenaaDoorJoC
import Derived.Test.YtocmnobcccjenaaDoorWaU
namespace Go.Proofs.YtocmnobcccjenaaDoor
open Go.RowKit

theorem FldB.below {B : Nat} {w w' : World} {v : Value} {l : List Fd} (h : FldB B w v l) (hb : Below B w w') : FldB B w' v l := by
  obtain ⟨a, cap, hv, hc, h⟩ := h
  refine ⟨a, cap, hv, hc, fun hn => ?_⟩
  obtain ⟨b, off, ha, hlt, hcell⟩ := h hn
  exact ⟨b, off, ha, hlt, fun j hj => ⟨(hb.cell (p := ⟨b, off + j * 2, none⟩) hlt).trans (hcell j hj).1, (hb.cell (p := ⟨b, off + j * 2 + 1, none⟩) hlt).trans (hcell j hj).2⟩⟩
theorem FldB.mono {B B' : Nat} {w : World} {v : Value} {l : List Fd} (h : FldB B w v l) (hB : B ≤ B') : FldB B' w v l := by
  obtain ⟨a, cap, hv, hc, h⟩ := h
  refine ⟨a, cap, hv, hc, fun hn => ?_⟩
  obtain ⟨b, off, ha, hlt, hcell⟩ := h hn
  exact ⟨b, off, ha, Nat.lt_of_lt_of_le hlt hB, hcell⟩
theorem FldB.next {w w' : World} {v : Value} {l : List Fd} (h : FldB w.heap.size w v l) (hb : Below w.heap.size w w') : FldB w'.heap.size w' v l := (h.below hb).mono hb.size
theorem far_no {l : List Fd} (h : farB l = false) : l.length ≤ 70 := by
  unfold farB at h
  rw [Bool.or_eq_false_iff, Bool.or_eq_false_iff] at h
  have := h.1.1
  simp at this
  omega

set_option maxRecDepth 100000 in
set_option maxHeartbeats 4000000 in
theorem lawJoins_any (v : Value) (l : List Fd) (w : World) (hw : Lay w) (hv : FldB w.heap.size w v l) :
    Calls Tryd.prog 3 #[v] w fun e w' => e = .returned (.bool true) ∧ Below w.heap.size w w' := by
  have HV := Lib.hid hv
  have HW := Lib.hid hw
  obtain ⟨a, cap, rfl, hcap, hcell⟩ := hv
  clear hcell
  cases e0 : farB l with
  | true =>
    go_enter Tryd.func3, Tryd.ntmps3
    go_wp2_with fail
    refine (far_any _ l _ HV.out).mono ?_
    rw [e0]
    rintro e w1 ⟨rfl, hb1⟩
    go_wp2_with fail
    refine (shown_any _ (HW.out.next hb1)).mono ?_
    rintro e w2 ⟨rfl, hb2⟩
    go_wp2_with fail
    go_ret
    exact ⟨rfl, hb1.trans (hb2.mono hb1.size)⟩
  | false =>
    have h70 := far_no e0
    go_enter Tryd.func3, Tryd.ntmps3
    go_wp2_with fail
    refine (far_any _ l _ HV.out).mono ?_
    rw [e0]
    rintro e w1 ⟨rfl, hb1⟩
    have HL1 := Lib.hid (HW.out.next hb1)
    have HV1 := Lib.hid (HV.out.next hb1)
    go_wp2_with fail
    refine (join_any _ l _ HL1.out HV1.out (by omega)).mono ?_
    rintro e w2 ⟨rfl, hb2⟩
    have HL2 := Lib.hid (HL1.out.next hb2)
    have HV2 := Lib.hid (HV1.out.next hb2)
    go_wp2_with fail
    refine (rjoin_any _ l _ HV2.out).mono ?_
    rintro e w3 ⟨rfl, hb3⟩
    have HL3 := Lib.hid (HL2.out.next hb3)
    have HB : Hid (Below w.heap.size w w3) := (hb1.trans (hb2.mono hb1.size)).trans (hb3.mono (Nat.le_trans hb1.size hb2.size))
    generalize jV l = J
    generalize jE l = E
    clear hb1 hb2 hb3
    go_wp2_with fail
    refine (shown_any _ HL3.out).mono ?_
    rintro e w4 ⟨rfl, hb4⟩
    go_wp2_with fail
    go_ret
    exact ⟨rfl, HB.out.trans (hb4.mono HB.out.size)⟩
end Go.Proofs.YtocmnobcccjenaaDoor
