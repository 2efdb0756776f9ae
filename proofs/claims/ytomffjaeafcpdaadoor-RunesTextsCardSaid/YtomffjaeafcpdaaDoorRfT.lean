/- The reference's stands. -/
import Derived.Test.YtomffjaeafcpdaaDoorRfS
namespace Go.Proofs.YtomffjaeafcpdaaDoor
open Go.RowKit

set_option maxRecDepth 100000 in
set_option maxHeartbeats 2000000 in
theorem stands_any (v : Value) (l : List UInt8) (w : World) (hv : RdB w.heap.size w v l) (h1 : l ≠ []) (h4 : l.length ≤ 4) :
    Calls Tryd.prog 31 #[v] w fun e w' => e = .returned (.tuple #[.int .i64 (stV l), .bool (stB l)]) ∧ Below w.heap.size w w' := by
  obtain ⟨r, hr⟩ : ∃ r, r = numV l := ⟨_, rfl⟩
  have HN : Hid (Calls Tryd.prog 42 #[v] w fun e w' => e = .returned (.int .i64 r) ∧ Below w.heap.size w w') := by rw [hr]; exact number_any v l w hv h1 h4
  have HV := Lib.hid hv
  cases h : isR r
  · have hs : stV l = 0 ∧ stB l = false := by unfold stV stB; rw [← hr, h]; exact ⟨rfl, rfl⟩
    rw [hs.1, hs.2]
    have HI := fun W => rIs_any r W
    rw [h] at HI
    clear h1 h4 h hs hr hv HV
    go_enter Tryd.func31, Tryd.ntmps31
    go_wp2_with (first
      | (go_at_call 35; refine (HI _).mono ?_; rintro e w' ⟨rfl, rfl⟩)
      | (go_at_call 42; refine HN.out.mono ?_; rintro e w' ⟨rfl, hb⟩; have HB := Lib.hid hb; clear hb))
    go_ret2
    exact ⟨rfl, HB.out⟩
  · have hs : stV l = r ∧ stB l = (l == enc r.toNat) := by unfold stV stB; rw [← hr, h]; exact ⟨rfl, Bool.true_and _⟩
    rw [hs.1, hs.2]
    have HI := fun W => rIs_any r W
    rw [h] at HI
    have HE := Lib.hid (fun W => by have := refEncode_any r W; rwa [encE_ok r h, encB_ok r h] at this)
    generalize enc r.toNat = m at HE ⊢
    clear h1 h4 h hs hr hv
    go_enter Tryd.func31, Tryd.ntmps31
    go_wp2_with (first
      | (go_at_call 10; refine (HE.out _).mono ?_; rintro e w2 ⟨c, rfl, hC, hb⟩; have HB2 := Lib.hid (HB.out.trans (hb.mono HB.out.size)); have hV := HV.out.next HB2.out; have HC := Lib.hid hC; clear hb hC HB)
      | (go_at_call 35; refine (HI _).mono ?_; rintro e w' ⟨rfl, rfl⟩)
      | (go_at_call 42; refine HN.out.mono ?_; rintro e w' ⟨rfl, hb⟩; have HB := Lib.hid hb; clear hb))
    have cC := fun n => conv_bys (own_below HC.out (below_drewN (Below.refl w2.heap.size w2) n))
    have cV := fun n => conv_rd (hV.below (below_drewN (Below.refl w2.heap.size w2) n))
    clear hV
    go_quiet (fail)
    go_wp2
    go_ret2
    exact ⟨rfl, below_drewN HB2.out _⟩
end Go.Proofs.YtomffjaeafcpdaaDoor
