/- The law's two, is, awake. -/
import Derived.Test.YtbjongajpppfjaaScH
namespace Go.Proofs.Ytbjongajpppfjaa
open Go.RowKit

set_option maxHeartbeats 4000000 in
theorem ltwo_any (p x y : Int) (w : World) (x0 : -9223372036854775808 ≤ x) (x1 : x ≤ 9223372036854775807) (y0 : -9223372036854775808 ≤ y) (y1 : y ≤ 9223372036854775807) :
    Calls Try.prog 20 #[.int .i64 p, .int .i64 x, .int .i64 y] w fun e w' => e = .returned (.tuple #[.int .i64 (twoV p x y).1, .bool ((twoV p x y).2 == 0)]) ∧ Below w.heap.size w w' := by
  go_enter Try.func20, Try.ntmps20
  go_wp2_with (go_at_call 18; refine (two_any _ _ _ _ x0 x1 y0 y1).mono ?_; rintro e w1 ⟨rfl, hb⟩)
  go_ret2
  exact ⟨rfl, hb⟩
set_option maxHeartbeats 4000000 in
theorem lis_any (p x y z : Int) (w : World) (x0 : -9223372036854775808 ≤ x) (x1 : x ≤ 9223372036854775807) (y0 : -9223372036854775808 ≤ y) (y1 : y ≤ 9223372036854775807) :
    Calls Try.prog 21 #[.int .i64 p, .int .i64 x, .int .i64 y, .int .i64 z] w fun e w' => e = .returned (.bool ((twoV p x y).1 == z && (twoV p x y).2 == 0)) ∧ Below w.heap.size w w' := by
  have HC : Hid (∀ W, Calls Try.prog 18 #[.int .i64 p, .int .i64 x, .int .i64 y] W fun e w' => e = .returned (.tuple #[.int .i64 (twoV p x y).1, .int .i64 (twoV p x y).2]) ∧ Below W.heap.size W w') := fun W => two_any p x y W x0 x1 y0 y1
  generalize (twoV p x y).1 = a at HC ⊢
  generalize (twoV p x y).2 = b at HC ⊢
  cases h : (a == z) <;> (go_enter Try.func21, Try.ntmps21; go_wp2_with (go_at_call 18; refine (HC.out _).mono ?_; rintro e w1 ⟨rfl, hb⟩)) <;> (go_ret; exact ⟨rfl, hb⟩)
theorem lis_true (p x y z : Int) (w : World) (h : twoV p x y = (z, 0)) (x0 : -9223372036854775808 ≤ x) (x1 : x ≤ 9223372036854775807) (y0 : -9223372036854775808 ≤ y) (y1 : y ≤ 9223372036854775807) :
    Calls Try.prog 21 #[.int .i64 p, .int .i64 x, .int .i64 y, .int .i64 z] w fun e w' => e = .returned (.bool true) ∧ Below w.heap.size w w' := by
  have := lis_any p x y z w x0 x1 y0 y1
  rw [h] at this
  simpa using this
set_option maxRecDepth 100000 in
set_option maxHeartbeats 8000000 in
theorem awake9_any (w : World) : Calls Try.prog 17 #[] w fun e w' => e = .returned (.bool true) ∧ Below w.heap.size w w' := by
  have HB := Lib.hid (Below.refl w.heap.size w)
  have z1 : twoV 18 (-9223372036854775808) (-1) = (0, 12) := by decide
  have z2 : twoV 17 4294967296 2147483648 = (0, 12) := by decide
  have z3 : twoV 18 1 0 = (0, 13) := by decide
  have z4 : oneV 1 (-9223372036854775808) = (0, 12) := by decide
  have z5 : oneV 3 3 = (0, 0) := by decide
  go_enter Try.func17, Try.ntmps17
  go_wp2_with (first
    | (go_at_call 21; refine (lis_true _ _ _ _ _ (by decide) (by decide) (by decide) (by decide) (by decide)).mono ?_; rintro e w1 ⟨rfl, hb⟩; have HB2 := Lib.hid (HB.out.trans (hb.mono HB.out.size)); clear HB hb; have HB := HB2; clear HB2)
    | (go_at_call 18; refine (two_any _ _ _ _ (by decide) (by decide) (by decide) (by decide)).mono ?_; rintro e w1 ⟨rfl, hb⟩; have HB2 := Lib.hid (HB.out.trans (hb.mono HB.out.size)); clear HB hb; have HB := HB2; clear HB2)
    | (go_at_call 15; refine (one_any _ _ _ (by decide) (by decide)).mono ?_; rintro e w1 ⟨rfl, hb⟩; have HB2 := Lib.hid (HB.out.trans (hb.mono HB.out.size)); clear HB hb; have HB := HB2; clear HB2))
  go_ret
  exact ⟨rfl, HB.out⟩
end Go.Proofs.Ytbjongajpppfjaa
