/- The law ScalarsOnes. -/
import Derived.Test.YtbjongajpppfjaaScJ
import Derived.Deep.DeepCutAuto
namespace Go.Proofs.Ytbjongajpppfjaa
open Go.RowKit

set_option maxRecDepth 100000 in
set_option maxHeartbeats 8000000 in
theorem lawOnes_any (p x : Int) (w : World) (ix : inr x = true) :
    Calls Try.prog 3 #[.int .i64 p, .int .i64 x] w fun e w' => e = .returned (.bool true) ∧ Below w.heap.size w w' := by
  have HB := Lib.hid (Below.refl w.heap.size w)
  have HC1 : Hid (∀ W, Calls Try.prog 11 #[.int .i64 p] W fun e w' => e = .returned (.tuple #[.int .i64 (arV p), .int .i64 (arE p)]) ∧ Below W.heap.size W w') := fun W => arity_any p W
  have HD1 : Hid (∀ W, Calls Try.prog 12 #[.int .i64 p] W fun e w' => e = .returned (.tuple #[.int .i64 (arV p), .int .i64 (arE p)]) ∧ W = w') := fun W => rarity_any p W
  have HC2 : Hid (∀ W, Calls Try.prog 13 #[.int .i64 p] W fun e w' => e = .returned (.tuple #[.bool (ovV p && arE p == 0), .int .i64 (arE p)]) ∧ Below W.heap.size W w') := fun W => over_any p W
  have HD2 : Hid (∀ W, Calls Try.prog 14 #[.int .i64 p] W fun e w' => e = .returned (.tuple #[.bool (ovV p && arE p == 0), .int .i64 (arE p)]) ∧ W = w') := fun W => rover_any p W
  have HC3 : Hid (∀ W, Calls Try.prog 15 #[.int .i64 p, .int .i64 x] W fun e w' => e = .returned (.tuple #[.int .i64 (oneV p x).1, .int .i64 (oneV p x).2]) ∧ Below W.heap.size W w') := fun W => one_any p x W (inr_lo ix) (inr_hi ix)
  have HD3 : Hid (∀ W, Calls Try.prog 16 #[.int .i64 p, .int .i64 x] W fun e w' => e = .returned (.tuple #[.int .i64 (oneV p x).1, .int .i64 (oneV p x).2]) ∧ W = w') := fun W => rone_any p x W (inr_lo ix) (inr_hi ix)
  generalize (oneV p x).1 = v1 at HC3 HD3
  generalize (oneV p x).2 = v2 at HC3 HD3
  generalize arV p = v3 at HC1 HD1
  generalize (ovV p && arE p == 0) = v4 at HC2 HD2
  generalize arE p = v5 at HC1 HD1 HC2 HD2
  go_enter Try.func3, Try.ntmps3
  go_wp2_with (first
      | (go_at_call 17; (with_reducible refine (awake9_any _).mono ?_); rintro e wz ⟨rfl, hb⟩; have HB2 := Lib.hid (HB.out.trans (hb.mono HB.out.size)); clear HB hb; have HB := HB2; clear HB2)
      | (go_at_call 11; (with_reducible refine (HC1.out _).mono ?_); rintro e wz ⟨rfl, hb⟩; have HB2 := Lib.hid (HB.out.trans (hb.mono HB.out.size)); clear HB hb; have HB := HB2; clear HB2)
      | (go_at_call 13; (with_reducible refine (HC2.out _).mono ?_); rintro e wz ⟨rfl, hb⟩; have HB2 := Lib.hid (HB.out.trans (hb.mono HB.out.size)); clear HB hb; have HB := HB2; clear HB2)
      | (go_at_call 15; (with_reducible refine (HC3.out _).mono ?_); rintro e wz ⟨rfl, hb⟩; have HB2 := Lib.hid (HB.out.trans (hb.mono HB.out.size)); clear HB hb; have HB := HB2; clear HB2)
      | (go_at_call 12; (with_reducible refine (HD1.out _).mono ?_); rintro e wz ⟨rfl, rfl⟩)
      | (go_at_call 14; (with_reducible refine (HD2.out _).mono ?_); rintro e wz ⟨rfl, rfl⟩)
      | (go_at_call 16; (with_reducible refine (HD3.out _).mono ?_); rintro e wz ⟨rfl, rfl⟩)
      | fail)
  go_ret
  exact ⟨ret_bool (by first | rfl | simp), HB.out⟩
end Go.Proofs.Ytbjongajpppfjaa
