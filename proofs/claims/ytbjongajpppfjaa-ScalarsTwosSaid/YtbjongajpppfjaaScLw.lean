/- The law ScalarsTwos. -/
import Derived.Test.YtbjongajpppfjaaScJ
import Derived.Deep.DeepCutAuto
namespace Go.Proofs.Ytbjongajpppfjaa
open Go.RowKit

set_option maxRecDepth 100000 in
set_option maxHeartbeats 8000000 in
theorem lawTwos_any (p x y : Int) (w : World) (ix : inr x = true) (iy : inr y = true) :
    Calls Try.prog 4 #[.int .i64 p, .int .i64 x, .int .i64 y] w fun e w' => e = .returned (.bool true) ∧ Below w.heap.size w w' := by
  have HB := Lib.hid (Below.refl w.heap.size w)
  have HC : Hid (∀ k W, Calls Try.prog 18 #[.int .i64 k, .int .i64 x, .int .i64 y] W fun e w' => e = .returned (.tuple #[.int .i64 (twoV k x y).1, .int .i64 (twoV k x y).2]) ∧ Below W.heap.size W w') := fun k W => two_any k x y W (inr_lo ix) (inr_hi ix) (inr_lo iy) (inr_hi iy)
  have HD : Hid (∀ k W, Calls Try.prog 19 #[.int .i64 k, .int .i64 x, .int .i64 y] W fun e w' => e = .returned (.tuple #[.int .i64 (twoV k x y).1, .int .i64 (twoV k x y).2]) ∧ Below W.heap.size W w') := fun k W => rtwo_any k x y W (inr_lo ix) (inr_hi ix) (inr_lo iy) (inr_hi iy)
  clear ix iy
  go_enter Try.func4, Try.ntmps4
  go_wp2_with (first
      | (go_at_call 17; (with_reducible refine (awake9_any _).mono ?_); rintro e wz ⟨rfl, hb⟩; have HB2 := Lib.hid (HB.out.trans (hb.mono HB.out.size)); clear HB hb; have HB := HB2; clear HB2)
      | (go_at_call 18; (with_reducible refine (HC.out _ _).mono ?_); rintro e wz ⟨rfl, hb⟩; have HB2 := Lib.hid (HB.out.trans (hb.mono HB.out.size)); clear HB hb; have HB := HB2; clear HB2)
      | (go_at_call 19; (with_reducible refine (HD.out _ _).mono ?_); rintro e wz ⟨rfl, hb⟩; have HB2 := Lib.hid (HB.out.trans (hb.mono HB.out.size)); clear HB hb; have HB := HB2; clear HB2)
      | fail)
  go_loopg [11] 18 (fun g i wr => ∃ k : Int, 15 ≤ k ∧ k + g = 33 ∧ i = .int .i64 k ∧ Below w.heap.size w wr)
  case atStart => exact ⟨15, by omega, by omega, rfl, HB.out⟩
  case round =>
    clear HB
    obtain ⟨k, hk, hkg, rfl, hB⟩ := hrel
    have HB := Lib.hid hB
    clear hB
    cases gk with
    | zero =>
      have hj : decide (k ≤ 32) = false := decide_eq_false (by omega)
      go_wp2_with (first
      | (go_at_call 17; (with_reducible refine (awake9_any _).mono ?_); rintro e wz ⟨rfl, hb⟩; have HB2 := Lib.hid (HB.out.trans (hb.mono HB.out.size)); clear HB hb; have HB := HB2; clear HB2)
      | (go_at_call 18; (with_reducible refine (HC.out _ _).mono ?_); rintro e wz ⟨rfl, hb⟩; have HB2 := Lib.hid (HB.out.trans (hb.mono HB.out.size)); clear HB hb; have HB := HB2; clear HB2)
      | (go_at_call 19; (with_reducible refine (HD.out _ _).mono ?_); rintro e wz ⟨rfl, hb⟩; have HB2 := Lib.hid (HB.out.trans (hb.mono HB.out.size)); clear HB hb; have HB := HB2; clear HB2)
      | fail)
      go_ret
      exact ⟨rfl, HB.out⟩
    | succ g =>
      have hj : decide (k ≤ 32) = true := decide_eq_true (by omega)
      have hw : wrap64 (k + 1) = k + 1 := by unfold wrap64; omega
      go_wp2_with (first
      | (go_at_call 17; (with_reducible refine (awake9_any _).mono ?_); rintro e wz ⟨rfl, hb⟩; have HB2 := Lib.hid (HB.out.trans (hb.mono HB.out.size)); clear HB hb; have HB := HB2; clear HB2)
      | (go_at_call 18; (with_reducible refine (HC.out _ _).mono ?_); rintro e wz ⟨rfl, hb⟩; have HB2 := Lib.hid (HB.out.trans (hb.mono HB.out.size)); clear HB hb; have HB := HB2; clear HB2)
      | (go_at_call 19; (with_reducible refine (HD.out _ _).mono ?_); rintro e wz ⟨rfl, hb⟩; have HB2 := Lib.hid (HB.out.trans (hb.mono HB.out.size)); clear HB hb; have HB := HB2; clear HB2)
      | fail)
      go_roundg g
      case measure => omega
      case rel => exact ⟨k + 1, by omega, by omega, by go_num, HB.out⟩
end Go.Proofs.Ytbjongajpppfjaa
