/- The law ScalarsTruth. -/
import Derived.Test.YtbjongajpppfjaaScJ
import Derived.Deep.DeepCutAuto
namespace Go.Proofs.Ytbjongajpppfjaa
open Go.RowKit

set_option maxRecDepth 100000 in
set_option maxHeartbeats 8000000 in
theorem lawTruth_any (x y z : Int) (w : World) (ix : inr x = true) (iy : inr y = true) (iz : inr z = true) :
    Calls Try.prog 9 #[.int .i64 x, .int .i64 y, .int .i64 z] w fun e w' => e = .returned (.bool true) ∧ Below w.heap.size w w' := by
  have HB := Lib.hid (Below.refl w.heap.size w)
  by_cases hx : x = 0
  · subst hx
    by_cases hy : y = 0
    · subst hy
      by_cases hz : z = 0
      · subst hz
        have C0 : CO 3 0 1 0 := co_of (by decide) (by show (tr _, _) = _; simp [tr, *])
        have C1 : CO 3 1 0 0 := co_of (by decide) (by show (tr _, _) = _; simp [tr, *])
        have C2 : CT 29 0 0 0 true := ct_ok (by decide) (by decide) (by show (tr _, _) = _; simp [tr, *])
        have C3 : CT 30 0 0 0 true := ct_ok (by decide) (by decide) (by show (tr _, _) = _; simp [tr, *])
        have C4 : CI 30 1 1 1 := ci_of (by decide) (by decide) (by show (tr _, _) = _; simp [tr, *])
        have C5 : CI 29 0 0 0 := ci_of (by decide) (by decide) (by show (tr _, _) = _; simp [tr, *])
        have C6 : CI 30 0 0 0 := ci_of (by decide) (by decide) (by show (tr _, _) = _; simp [tr, *])
        have C7 : CI 30 0 1 1 := ci_of (by decide) (by decide) (by show (tr _, _) = _; simp [tr, *])
        as_aux_lemma =>
          go_enter Try.func9, Try.ntmps9
          go_wp2_with (first
      | (go_at_call 15; (with_reducible refine (C0.out _).mono ?_); rintro e wz ⟨rfl, hb⟩; have HB2 := Lib.hid (HB.out.trans (hb.mono HB.out.size)); clear HB hb; have HB := HB2; clear HB2)
      | (go_at_call 15; (with_reducible refine (C1.out _).mono ?_); rintro e wz ⟨rfl, hb⟩; have HB2 := Lib.hid (HB.out.trans (hb.mono HB.out.size)); clear HB hb; have HB := HB2; clear HB2)
      | (go_at_call 20; (with_reducible refine (C2.out _).mono ?_); rintro e wz ⟨rfl, hb⟩; have HB2 := Lib.hid (HB.out.trans (hb.mono HB.out.size)); clear HB hb; have HB := HB2; clear HB2)
      | (go_at_call 20; (with_reducible refine (C3.out _).mono ?_); rintro e wz ⟨rfl, hb⟩; have HB2 := Lib.hid (HB.out.trans (hb.mono HB.out.size)); clear HB hb; have HB := HB2; clear HB2)
      | (go_at_call 21; (with_reducible refine (C4.out _).mono ?_); rintro e wz ⟨rfl, hb⟩; have HB2 := Lib.hid (HB.out.trans (hb.mono HB.out.size)); clear HB hb; have HB := HB2; clear HB2)
      | (go_at_call 21; (with_reducible refine (C5.out _).mono ?_); rintro e wz ⟨rfl, hb⟩; have HB2 := Lib.hid (HB.out.trans (hb.mono HB.out.size)); clear HB hb; have HB := HB2; clear HB2)
      | (go_at_call 21; (with_reducible refine (C6.out _).mono ?_); rintro e wz ⟨rfl, hb⟩; have HB2 := Lib.hid (HB.out.trans (hb.mono HB.out.size)); clear HB hb; have HB := HB2; clear HB2)
      | (go_at_call 21; (with_reducible refine (C7.out _).mono ?_); rintro e wz ⟨rfl, hb⟩; have HB2 := Lib.hid (HB.out.trans (hb.mono HB.out.size)); clear HB hb; have HB := HB2; clear HB2)
      | (go_at_call 17; (with_reducible refine (awake9_any _).mono ?_); rintro e wz ⟨rfl, hb⟩; have HB2 := Lib.hid (HB.out.trans (hb.mono HB.out.size)); clear HB hb; have HB := HB2; clear HB2)
      | fail)
          go_ret
          exact ⟨rfl, HB.out⟩
      · skip
        have nz : (z != 0) = true := bne_iff_ne.2 hz
        have ez : (z == 0) = false := beq_eq_false_iff_ne.2 hz
        have C0 : CO 3 0 1 0 := co_of (by decide) (by show (tr _, _) = _; simp [tr, *])
        have C1 : CO 3 1 0 0 := co_of (by decide) (by show (tr _, _) = _; simp [tr, *])
        have C2 : CT 29 0 0 0 true := ct_ok (by decide) (by decide) (by show (tr _, _) = _; simp [tr, *])
        have C3 : CT 30 0 0 0 true := ct_ok (by decide) (by decide) (by show (tr _, _) = _; simp [tr, *])
        have C4 : CT 29 0 z 0 true := ct_ok (by decide) iz (by show (tr _, _) = _; simp [tr, *])
        have C5 : CI 30 1 1 1 := ci_of (by decide) (by decide) (by show (tr _, _) = _; simp [tr, *])
        have C6 : CI 29 0 0 0 := ci_of (by decide) (by decide) (by show (tr _, _) = _; simp [tr, *])
        have C7 : CI 30 0 0 0 := ci_of (by decide) (by decide) (by show (tr _, _) = _; simp [tr, *])
        have C8 : CI 30 0 1 1 := ci_of (by decide) (by decide) (by show (tr _, _) = _; simp [tr, *])
        clear iz hz
        as_aux_lemma =>
          go_enter Try.func9, Try.ntmps9
          go_wp2_with (first
      | (go_at_call 15; (with_reducible refine (C0.out _).mono ?_); rintro e wz ⟨rfl, hb⟩; have HB2 := Lib.hid (HB.out.trans (hb.mono HB.out.size)); clear HB hb; have HB := HB2; clear HB2)
      | (go_at_call 15; (with_reducible refine (C1.out _).mono ?_); rintro e wz ⟨rfl, hb⟩; have HB2 := Lib.hid (HB.out.trans (hb.mono HB.out.size)); clear HB hb; have HB := HB2; clear HB2)
      | (go_at_call 20; (with_reducible refine (C2.out _).mono ?_); rintro e wz ⟨rfl, hb⟩; have HB2 := Lib.hid (HB.out.trans (hb.mono HB.out.size)); clear HB hb; have HB := HB2; clear HB2)
      | (go_at_call 20; (with_reducible refine (C3.out _).mono ?_); rintro e wz ⟨rfl, hb⟩; have HB2 := Lib.hid (HB.out.trans (hb.mono HB.out.size)); clear HB hb; have HB := HB2; clear HB2)
      | (go_at_call 20; (with_reducible refine (C4.out _).mono ?_); rintro e wz ⟨rfl, hb⟩; have HB2 := Lib.hid (HB.out.trans (hb.mono HB.out.size)); clear HB hb; have HB := HB2; clear HB2)
      | (go_at_call 21; (with_reducible refine (C5.out _).mono ?_); rintro e wz ⟨rfl, hb⟩; have HB2 := Lib.hid (HB.out.trans (hb.mono HB.out.size)); clear HB hb; have HB := HB2; clear HB2)
      | (go_at_call 21; (with_reducible refine (C6.out _).mono ?_); rintro e wz ⟨rfl, hb⟩; have HB2 := Lib.hid (HB.out.trans (hb.mono HB.out.size)); clear HB hb; have HB := HB2; clear HB2)
      | (go_at_call 21; (with_reducible refine (C7.out _).mono ?_); rintro e wz ⟨rfl, hb⟩; have HB2 := Lib.hid (HB.out.trans (hb.mono HB.out.size)); clear HB hb; have HB := HB2; clear HB2)
      | (go_at_call 21; (with_reducible refine (C8.out _).mono ?_); rintro e wz ⟨rfl, hb⟩; have HB2 := Lib.hid (HB.out.trans (hb.mono HB.out.size)); clear HB hb; have HB := HB2; clear HB2)
      | (go_at_call 17; (with_reducible refine (awake9_any _).mono ?_); rintro e wz ⟨rfl, hb⟩; have HB2 := Lib.hid (HB.out.trans (hb.mono HB.out.size)); clear HB hb; have HB := HB2; clear HB2)
      | fail)
          go_ret
          exact ⟨rfl, HB.out⟩
    · skip
      by_cases hz : z = 0
      · subst hz
        have ny : (y != 0) = true := bne_iff_ne.2 hy
        have ey : (y == 0) = false := beq_eq_false_iff_ne.2 hy
        have C0 : CO 3 0 1 0 := co_of (by decide) (by show (tr _, _) = _; simp [tr, *])
        have C1 : CO 3 y 0 0 := co_of iy (by show (tr _, _) = _; simp [tr, *])
        have C2 : CO 3 1 0 0 := co_of (by decide) (by show (tr _, _) = _; simp [tr, *])
        have C3 : CT 29 0 y 0 true := ct_ok (by decide) iy (by show (tr _, _) = _; simp [tr, *])
        have C4 : CT 30 0 y 1 true := ct_ok (by decide) iy (by show (tr _, _) = _; simp [tr, *])
        have C5 : CT 29 0 0 0 true := ct_ok (by decide) (by decide) (by show (tr _, _) = _; simp [tr, *])
        have C6 : CT 29 y 0 0 true := ct_ok iy (by decide) (by show (tr _, _) = _; simp [tr, *])
        have C7 : CI 30 1 0 1 := ci_of (by decide) (by decide) (by show (tr _, _) = _; simp [tr, *])
        have C8 : CI 29 y 0 0 := ci_of iy (by decide) (by show (tr _, _) = _; simp [tr, *])
        have C9 : CI 30 y 0 1 := ci_of iy (by decide) (by show (tr _, _) = _; simp [tr, *])
        have C10 : CI 29 0 0 0 := ci_of (by decide) (by decide) (by show (tr _, _) = _; simp [tr, *])
        have C11 : CI 30 0 1 1 := ci_of (by decide) (by decide) (by show (tr _, _) = _; simp [tr, *])
        clear iy hy
        as_aux_lemma =>
          go_enter Try.func9, Try.ntmps9
          go_wp2_with (first
      | (go_at_call 15; (with_reducible refine (C0.out _).mono ?_); rintro e wz ⟨rfl, hb⟩; have HB2 := Lib.hid (HB.out.trans (hb.mono HB.out.size)); clear HB hb; have HB := HB2; clear HB2)
      | (go_at_call 15; (with_reducible refine (C1.out _).mono ?_); rintro e wz ⟨rfl, hb⟩; have HB2 := Lib.hid (HB.out.trans (hb.mono HB.out.size)); clear HB hb; have HB := HB2; clear HB2)
      | (go_at_call 15; (with_reducible refine (C2.out _).mono ?_); rintro e wz ⟨rfl, hb⟩; have HB2 := Lib.hid (HB.out.trans (hb.mono HB.out.size)); clear HB hb; have HB := HB2; clear HB2)
      | (go_at_call 20; (with_reducible refine (C3.out _).mono ?_); rintro e wz ⟨rfl, hb⟩; have HB2 := Lib.hid (HB.out.trans (hb.mono HB.out.size)); clear HB hb; have HB := HB2; clear HB2)
      | (go_at_call 20; (with_reducible refine (C4.out _).mono ?_); rintro e wz ⟨rfl, hb⟩; have HB2 := Lib.hid (HB.out.trans (hb.mono HB.out.size)); clear HB hb; have HB := HB2; clear HB2)
      | (go_at_call 20; (with_reducible refine (C5.out _).mono ?_); rintro e wz ⟨rfl, hb⟩; have HB2 := Lib.hid (HB.out.trans (hb.mono HB.out.size)); clear HB hb; have HB := HB2; clear HB2)
      | (go_at_call 20; (with_reducible refine (C6.out _).mono ?_); rintro e wz ⟨rfl, hb⟩; have HB2 := Lib.hid (HB.out.trans (hb.mono HB.out.size)); clear HB hb; have HB := HB2; clear HB2)
      | (go_at_call 21; (with_reducible refine (C7.out _).mono ?_); rintro e wz ⟨rfl, hb⟩; have HB2 := Lib.hid (HB.out.trans (hb.mono HB.out.size)); clear HB hb; have HB := HB2; clear HB2)
      | (go_at_call 21; (with_reducible refine (C8.out _).mono ?_); rintro e wz ⟨rfl, hb⟩; have HB2 := Lib.hid (HB.out.trans (hb.mono HB.out.size)); clear HB hb; have HB := HB2; clear HB2)
      | (go_at_call 21; (with_reducible refine (C9.out _).mono ?_); rintro e wz ⟨rfl, hb⟩; have HB2 := Lib.hid (HB.out.trans (hb.mono HB.out.size)); clear HB hb; have HB := HB2; clear HB2)
      | (go_at_call 21; (with_reducible refine (C10.out _).mono ?_); rintro e wz ⟨rfl, hb⟩; have HB2 := Lib.hid (HB.out.trans (hb.mono HB.out.size)); clear HB hb; have HB := HB2; clear HB2)
      | (go_at_call 21; (with_reducible refine (C11.out _).mono ?_); rintro e wz ⟨rfl, hb⟩; have HB2 := Lib.hid (HB.out.trans (hb.mono HB.out.size)); clear HB hb; have HB := HB2; clear HB2)
      | (go_at_call 17; (with_reducible refine (awake9_any _).mono ?_); rintro e wz ⟨rfl, hb⟩; have HB2 := Lib.hid (HB.out.trans (hb.mono HB.out.size)); clear HB hb; have HB := HB2; clear HB2)
      | fail)
          go_ret
          exact ⟨rfl, HB.out⟩
      · skip
        have ny : (y != 0) = true := bne_iff_ne.2 hy
        have ey : (y == 0) = false := beq_eq_false_iff_ne.2 hy
        have nz : (z != 0) = true := bne_iff_ne.2 hz
        have ez : (z == 0) = false := beq_eq_false_iff_ne.2 hz
        have C0 : CO 3 0 1 0 := co_of (by decide) (by show (tr _, _) = _; simp [tr, *])
        have C1 : CO 3 y 0 0 := co_of iy (by show (tr _, _) = _; simp [tr, *])
        have C2 : CO 3 1 0 0 := co_of (by decide) (by show (tr _, _) = _; simp [tr, *])
        have C3 : CT 29 0 y 0 true := ct_ok (by decide) iy (by show (tr _, _) = _; simp [tr, *])
        have C4 : CT 30 0 y 1 true := ct_ok (by decide) iy (by show (tr _, _) = _; simp [tr, *])
        have C5 : CT 29 0 z 0 true := ct_ok (by decide) iz (by show (tr _, _) = _; simp [tr, *])
        have C6 : CT 29 y z 1 true := ct_ok iy iz (by show (tr _, _) = _; simp [tr, *])
        have C7 : CT 29 0 1 0 true := ct_ok (by decide) (by decide) (by show (tr _, _) = _; simp [tr, *])
        have C8 : CI 30 1 0 1 := ci_of (by decide) (by decide) (by show (tr _, _) = _; simp [tr, *])
        have C9 : CI 29 y 0 0 := ci_of iy (by decide) (by show (tr _, _) = _; simp [tr, *])
        have C10 : CI 30 y 0 1 := ci_of iy (by decide) (by show (tr _, _) = _; simp [tr, *])
        have C11 : CI 29 0 0 0 := ci_of (by decide) (by decide) (by show (tr _, _) = _; simp [tr, *])
        have C12 : CI 30 0 1 1 := ci_of (by decide) (by decide) (by show (tr _, _) = _; simp [tr, *])
        clear iy hy iz hz
        as_aux_lemma =>
          go_enter Try.func9, Try.ntmps9
          go_wp2_with (first
      | (go_at_call 15; (with_reducible refine (C0.out _).mono ?_); rintro e wz ⟨rfl, hb⟩; have HB2 := Lib.hid (HB.out.trans (hb.mono HB.out.size)); clear HB hb; have HB := HB2; clear HB2)
      | (go_at_call 15; (with_reducible refine (C1.out _).mono ?_); rintro e wz ⟨rfl, hb⟩; have HB2 := Lib.hid (HB.out.trans (hb.mono HB.out.size)); clear HB hb; have HB := HB2; clear HB2)
      | (go_at_call 15; (with_reducible refine (C2.out _).mono ?_); rintro e wz ⟨rfl, hb⟩; have HB2 := Lib.hid (HB.out.trans (hb.mono HB.out.size)); clear HB hb; have HB := HB2; clear HB2)
      | (go_at_call 20; (with_reducible refine (C3.out _).mono ?_); rintro e wz ⟨rfl, hb⟩; have HB2 := Lib.hid (HB.out.trans (hb.mono HB.out.size)); clear HB hb; have HB := HB2; clear HB2)
      | (go_at_call 20; (with_reducible refine (C4.out _).mono ?_); rintro e wz ⟨rfl, hb⟩; have HB2 := Lib.hid (HB.out.trans (hb.mono HB.out.size)); clear HB hb; have HB := HB2; clear HB2)
      | (go_at_call 20; (with_reducible refine (C5.out _).mono ?_); rintro e wz ⟨rfl, hb⟩; have HB2 := Lib.hid (HB.out.trans (hb.mono HB.out.size)); clear HB hb; have HB := HB2; clear HB2)
      | (go_at_call 20; (with_reducible refine (C6.out _).mono ?_); rintro e wz ⟨rfl, hb⟩; have HB2 := Lib.hid (HB.out.trans (hb.mono HB.out.size)); clear HB hb; have HB := HB2; clear HB2)
      | (go_at_call 20; (with_reducible refine (C7.out _).mono ?_); rintro e wz ⟨rfl, hb⟩; have HB2 := Lib.hid (HB.out.trans (hb.mono HB.out.size)); clear HB hb; have HB := HB2; clear HB2)
      | (go_at_call 21; (with_reducible refine (C8.out _).mono ?_); rintro e wz ⟨rfl, hb⟩; have HB2 := Lib.hid (HB.out.trans (hb.mono HB.out.size)); clear HB hb; have HB := HB2; clear HB2)
      | (go_at_call 21; (with_reducible refine (C9.out _).mono ?_); rintro e wz ⟨rfl, hb⟩; have HB2 := Lib.hid (HB.out.trans (hb.mono HB.out.size)); clear HB hb; have HB := HB2; clear HB2)
      | (go_at_call 21; (with_reducible refine (C10.out _).mono ?_); rintro e wz ⟨rfl, hb⟩; have HB2 := Lib.hid (HB.out.trans (hb.mono HB.out.size)); clear HB hb; have HB := HB2; clear HB2)
      | (go_at_call 21; (with_reducible refine (C11.out _).mono ?_); rintro e wz ⟨rfl, hb⟩; have HB2 := Lib.hid (HB.out.trans (hb.mono HB.out.size)); clear HB hb; have HB := HB2; clear HB2)
      | (go_at_call 21; (with_reducible refine (C12.out _).mono ?_); rintro e wz ⟨rfl, hb⟩; have HB2 := Lib.hid (HB.out.trans (hb.mono HB.out.size)); clear HB hb; have HB := HB2; clear HB2)
      | (go_at_call 17; (with_reducible refine (awake9_any _).mono ?_); rintro e wz ⟨rfl, hb⟩; have HB2 := Lib.hid (HB.out.trans (hb.mono HB.out.size)); clear HB hb; have HB := HB2; clear HB2)
      | fail)
          go_ret
          exact ⟨rfl, HB.out⟩
  · skip
    by_cases hy : y = 0
    · subst hy
      by_cases hz : z = 0
      · subst hz
        have nx : (x != 0) = true := bne_iff_ne.2 hx
        have ex : (x == 0) = false := beq_eq_false_iff_ne.2 hx
        have C0 : CO 3 x 0 0 := co_of ix (by show (tr _, _) = _; simp [tr, *])
        have C1 : CO 3 0 1 0 := co_of (by decide) (by show (tr _, _) = _; simp [tr, *])
        have C2 : CT 29 x 0 0 true := ct_ok ix (by decide) (by show (tr _, _) = _; simp [tr, *])
        have C3 : CT 30 x 0 1 true := ct_ok ix (by decide) (by show (tr _, _) = _; simp [tr, *])
        have C4 : CT 29 0 0 0 true := ct_ok (by decide) (by decide) (by show (tr _, _) = _; simp [tr, *])
        have C5 : CI 30 0 1 1 := ci_of (by decide) (by decide) (by show (tr _, _) = _; simp [tr, *])
        have C6 : CI 29 0 x 0 := ci_of (by decide) ix (by show (tr _, _) = _; simp [tr, *])
        have C7 : CI 30 0 x 1 := ci_of (by decide) ix (by show (tr _, _) = _; simp [tr, *])
        have C8 : CI 29 x x 1 := ci_of ix ix (by show (tr _, _) = _; simp [tr, *])
        have C9 : CI 30 x 0 1 := ci_of ix (by decide) (by show (tr _, _) = _; simp [tr, *])
        clear ix hx
        as_aux_lemma =>
          go_enter Try.func9, Try.ntmps9
          go_wp2_with (first
      | (go_at_call 15; (with_reducible refine (C0.out _).mono ?_); rintro e wz ⟨rfl, hb⟩; have HB2 := Lib.hid (HB.out.trans (hb.mono HB.out.size)); clear HB hb; have HB := HB2; clear HB2)
      | (go_at_call 15; (with_reducible refine (C1.out _).mono ?_); rintro e wz ⟨rfl, hb⟩; have HB2 := Lib.hid (HB.out.trans (hb.mono HB.out.size)); clear HB hb; have HB := HB2; clear HB2)
      | (go_at_call 20; (with_reducible refine (C2.out _).mono ?_); rintro e wz ⟨rfl, hb⟩; have HB2 := Lib.hid (HB.out.trans (hb.mono HB.out.size)); clear HB hb; have HB := HB2; clear HB2)
      | (go_at_call 20; (with_reducible refine (C3.out _).mono ?_); rintro e wz ⟨rfl, hb⟩; have HB2 := Lib.hid (HB.out.trans (hb.mono HB.out.size)); clear HB hb; have HB := HB2; clear HB2)
      | (go_at_call 20; (with_reducible refine (C4.out _).mono ?_); rintro e wz ⟨rfl, hb⟩; have HB2 := Lib.hid (HB.out.trans (hb.mono HB.out.size)); clear HB hb; have HB := HB2; clear HB2)
      | (go_at_call 21; (with_reducible refine (C5.out _).mono ?_); rintro e wz ⟨rfl, hb⟩; have HB2 := Lib.hid (HB.out.trans (hb.mono HB.out.size)); clear HB hb; have HB := HB2; clear HB2)
      | (go_at_call 21; (with_reducible refine (C6.out _).mono ?_); rintro e wz ⟨rfl, hb⟩; have HB2 := Lib.hid (HB.out.trans (hb.mono HB.out.size)); clear HB hb; have HB := HB2; clear HB2)
      | (go_at_call 21; (with_reducible refine (C7.out _).mono ?_); rintro e wz ⟨rfl, hb⟩; have HB2 := Lib.hid (HB.out.trans (hb.mono HB.out.size)); clear HB hb; have HB := HB2; clear HB2)
      | (go_at_call 21; (with_reducible refine (C8.out _).mono ?_); rintro e wz ⟨rfl, hb⟩; have HB2 := Lib.hid (HB.out.trans (hb.mono HB.out.size)); clear HB hb; have HB := HB2; clear HB2)
      | (go_at_call 21; (with_reducible refine (C9.out _).mono ?_); rintro e wz ⟨rfl, hb⟩; have HB2 := Lib.hid (HB.out.trans (hb.mono HB.out.size)); clear HB hb; have HB := HB2; clear HB2)
      | (go_at_call 17; (with_reducible refine (awake9_any _).mono ?_); rintro e wz ⟨rfl, hb⟩; have HB2 := Lib.hid (HB.out.trans (hb.mono HB.out.size)); clear HB hb; have HB := HB2; clear HB2)
      | fail)
          go_ret
          exact ⟨rfl, HB.out⟩
      · skip
        have nx : (x != 0) = true := bne_iff_ne.2 hx
        have ex : (x == 0) = false := beq_eq_false_iff_ne.2 hx
        have nz : (z != 0) = true := bne_iff_ne.2 hz
        have ez : (z == 0) = false := beq_eq_false_iff_ne.2 hz
        have C0 : CO 3 x 0 0 := co_of ix (by show (tr _, _) = _; simp [tr, *])
        have C1 : CO 3 0 1 0 := co_of (by decide) (by show (tr _, _) = _; simp [tr, *])
        have C2 : CT 29 x 0 0 true := ct_ok ix (by decide) (by show (tr _, _) = _; simp [tr, *])
        have C3 : CT 30 x 0 1 true := ct_ok ix (by decide) (by show (tr _, _) = _; simp [tr, *])
        have C4 : CT 29 0 z 0 true := ct_ok (by decide) iz (by show (tr _, _) = _; simp [tr, *])
        have C5 : CI 30 0 1 1 := ci_of (by decide) (by decide) (by show (tr _, _) = _; simp [tr, *])
        have C6 : CI 29 0 x 0 := ci_of (by decide) ix (by show (tr _, _) = _; simp [tr, *])
        have C7 : CI 30 0 x 1 := ci_of (by decide) ix (by show (tr _, _) = _; simp [tr, *])
        have C8 : CI 29 x x 1 := ci_of ix ix (by show (tr _, _) = _; simp [tr, *])
        have C9 : CI 30 x 0 1 := ci_of ix (by decide) (by show (tr _, _) = _; simp [tr, *])
        clear ix hx iz hz
        as_aux_lemma =>
          go_enter Try.func9, Try.ntmps9
          go_wp2_with (first
      | (go_at_call 15; (with_reducible refine (C0.out _).mono ?_); rintro e wz ⟨rfl, hb⟩; have HB2 := Lib.hid (HB.out.trans (hb.mono HB.out.size)); clear HB hb; have HB := HB2; clear HB2)
      | (go_at_call 15; (with_reducible refine (C1.out _).mono ?_); rintro e wz ⟨rfl, hb⟩; have HB2 := Lib.hid (HB.out.trans (hb.mono HB.out.size)); clear HB hb; have HB := HB2; clear HB2)
      | (go_at_call 20; (with_reducible refine (C2.out _).mono ?_); rintro e wz ⟨rfl, hb⟩; have HB2 := Lib.hid (HB.out.trans (hb.mono HB.out.size)); clear HB hb; have HB := HB2; clear HB2)
      | (go_at_call 20; (with_reducible refine (C3.out _).mono ?_); rintro e wz ⟨rfl, hb⟩; have HB2 := Lib.hid (HB.out.trans (hb.mono HB.out.size)); clear HB hb; have HB := HB2; clear HB2)
      | (go_at_call 20; (with_reducible refine (C4.out _).mono ?_); rintro e wz ⟨rfl, hb⟩; have HB2 := Lib.hid (HB.out.trans (hb.mono HB.out.size)); clear HB hb; have HB := HB2; clear HB2)
      | (go_at_call 21; (with_reducible refine (C5.out _).mono ?_); rintro e wz ⟨rfl, hb⟩; have HB2 := Lib.hid (HB.out.trans (hb.mono HB.out.size)); clear HB hb; have HB := HB2; clear HB2)
      | (go_at_call 21; (with_reducible refine (C6.out _).mono ?_); rintro e wz ⟨rfl, hb⟩; have HB2 := Lib.hid (HB.out.trans (hb.mono HB.out.size)); clear HB hb; have HB := HB2; clear HB2)
      | (go_at_call 21; (with_reducible refine (C7.out _).mono ?_); rintro e wz ⟨rfl, hb⟩; have HB2 := Lib.hid (HB.out.trans (hb.mono HB.out.size)); clear HB hb; have HB := HB2; clear HB2)
      | (go_at_call 21; (with_reducible refine (C8.out _).mono ?_); rintro e wz ⟨rfl, hb⟩; have HB2 := Lib.hid (HB.out.trans (hb.mono HB.out.size)); clear HB hb; have HB := HB2; clear HB2)
      | (go_at_call 21; (with_reducible refine (C9.out _).mono ?_); rintro e wz ⟨rfl, hb⟩; have HB2 := Lib.hid (HB.out.trans (hb.mono HB.out.size)); clear HB hb; have HB := HB2; clear HB2)
      | (go_at_call 17; (with_reducible refine (awake9_any _).mono ?_); rintro e wz ⟨rfl, hb⟩; have HB2 := Lib.hid (HB.out.trans (hb.mono HB.out.size)); clear HB hb; have HB := HB2; clear HB2)
      | fail)
          go_ret
          exact ⟨rfl, HB.out⟩
    · skip
      by_cases hz : z = 0
      · subst hz
        have nx : (x != 0) = true := bne_iff_ne.2 hx
        have ex : (x == 0) = false := beq_eq_false_iff_ne.2 hx
        have ny : (y != 0) = true := bne_iff_ne.2 hy
        have ey : (y == 0) = false := beq_eq_false_iff_ne.2 hy
        have C0 : CO 3 x 0 0 := co_of ix (by show (tr _, _) = _; simp [tr, *])
        have C1 : CO 3 y 0 0 := co_of iy (by show (tr _, _) = _; simp [tr, *])
        have C2 : CO 3 0 1 0 := co_of (by decide) (by show (tr _, _) = _; simp [tr, *])
        have C3 : CT 29 x y 1 true := ct_ok ix iy (by show (tr _, _) = _; simp [tr, *])
        have C4 : CT 30 x y 1 true := ct_ok ix iy (by show (tr _, _) = _; simp [tr, *])
        have C5 : CO 3 1 0 0 := co_of (by decide) (by show (tr _, _) = _; simp [tr, *])
        have C6 : CT 29 1 0 0 true := ct_ok (by decide) (by decide) (by show (tr _, _) = _; simp [tr, *])
        have C7 : CT 29 y 0 0 true := ct_ok iy (by decide) (by show (tr _, _) = _; simp [tr, *])
        have C8 : CT 29 x 0 0 true := ct_ok ix (by decide) (by show (tr _, _) = _; simp [tr, *])
        have C9 : CI 30 0 0 0 := ci_of (by decide) (by decide) (by show (tr _, _) = _; simp [tr, *])
        have C10 : CI 29 y x 1 := ci_of iy ix (by show (tr _, _) = _; simp [tr, *])
        have C11 : CI 30 y x 1 := ci_of iy ix (by show (tr _, _) = _; simp [tr, *])
        have C12 : CI 29 x x 1 := ci_of ix ix (by show (tr _, _) = _; simp [tr, *])
        have C13 : CI 30 x 0 1 := ci_of ix (by decide) (by show (tr _, _) = _; simp [tr, *])
        clear ix hx iy hy
        as_aux_lemma =>
          go_enter Try.func9, Try.ntmps9
          go_wp2_with (first
      | (go_at_call 15; (with_reducible refine (C0.out _).mono ?_); rintro e wz ⟨rfl, hb⟩; have HB2 := Lib.hid (HB.out.trans (hb.mono HB.out.size)); clear HB hb; have HB := HB2; clear HB2)
      | (go_at_call 15; (with_reducible refine (C1.out _).mono ?_); rintro e wz ⟨rfl, hb⟩; have HB2 := Lib.hid (HB.out.trans (hb.mono HB.out.size)); clear HB hb; have HB := HB2; clear HB2)
      | (go_at_call 15; (with_reducible refine (C2.out _).mono ?_); rintro e wz ⟨rfl, hb⟩; have HB2 := Lib.hid (HB.out.trans (hb.mono HB.out.size)); clear HB hb; have HB := HB2; clear HB2)
      | (go_at_call 20; (with_reducible refine (C3.out _).mono ?_); rintro e wz ⟨rfl, hb⟩; have HB2 := Lib.hid (HB.out.trans (hb.mono HB.out.size)); clear HB hb; have HB := HB2; clear HB2)
      | (go_at_call 20; (with_reducible refine (C4.out _).mono ?_); rintro e wz ⟨rfl, hb⟩; have HB2 := Lib.hid (HB.out.trans (hb.mono HB.out.size)); clear HB hb; have HB := HB2; clear HB2)
      | (go_at_call 15; (with_reducible refine (C5.out _).mono ?_); rintro e wz ⟨rfl, hb⟩; have HB2 := Lib.hid (HB.out.trans (hb.mono HB.out.size)); clear HB hb; have HB := HB2; clear HB2)
      | (go_at_call 20; (with_reducible refine (C6.out _).mono ?_); rintro e wz ⟨rfl, hb⟩; have HB2 := Lib.hid (HB.out.trans (hb.mono HB.out.size)); clear HB hb; have HB := HB2; clear HB2)
      | (go_at_call 20; (with_reducible refine (C7.out _).mono ?_); rintro e wz ⟨rfl, hb⟩; have HB2 := Lib.hid (HB.out.trans (hb.mono HB.out.size)); clear HB hb; have HB := HB2; clear HB2)
      | (go_at_call 20; (with_reducible refine (C8.out _).mono ?_); rintro e wz ⟨rfl, hb⟩; have HB2 := Lib.hid (HB.out.trans (hb.mono HB.out.size)); clear HB hb; have HB := HB2; clear HB2)
      | (go_at_call 21; (with_reducible refine (C9.out _).mono ?_); rintro e wz ⟨rfl, hb⟩; have HB2 := Lib.hid (HB.out.trans (hb.mono HB.out.size)); clear HB hb; have HB := HB2; clear HB2)
      | (go_at_call 21; (with_reducible refine (C10.out _).mono ?_); rintro e wz ⟨rfl, hb⟩; have HB2 := Lib.hid (HB.out.trans (hb.mono HB.out.size)); clear HB hb; have HB := HB2; clear HB2)
      | (go_at_call 21; (with_reducible refine (C11.out _).mono ?_); rintro e wz ⟨rfl, hb⟩; have HB2 := Lib.hid (HB.out.trans (hb.mono HB.out.size)); clear HB hb; have HB := HB2; clear HB2)
      | (go_at_call 21; (with_reducible refine (C12.out _).mono ?_); rintro e wz ⟨rfl, hb⟩; have HB2 := Lib.hid (HB.out.trans (hb.mono HB.out.size)); clear HB hb; have HB := HB2; clear HB2)
      | (go_at_call 21; (with_reducible refine (C13.out _).mono ?_); rintro e wz ⟨rfl, hb⟩; have HB2 := Lib.hid (HB.out.trans (hb.mono HB.out.size)); clear HB hb; have HB := HB2; clear HB2)
      | (go_at_call 17; (with_reducible refine (awake9_any _).mono ?_); rintro e wz ⟨rfl, hb⟩; have HB2 := Lib.hid (HB.out.trans (hb.mono HB.out.size)); clear HB hb; have HB := HB2; clear HB2)
      | fail)
          go_ret
          exact ⟨rfl, HB.out⟩
      · skip
        have nx : (x != 0) = true := bne_iff_ne.2 hx
        have ex : (x == 0) = false := beq_eq_false_iff_ne.2 hx
        have ny : (y != 0) = true := bne_iff_ne.2 hy
        have ey : (y == 0) = false := beq_eq_false_iff_ne.2 hy
        have nz : (z != 0) = true := bne_iff_ne.2 hz
        have ez : (z == 0) = false := beq_eq_false_iff_ne.2 hz
        have C0 : CO 3 x 0 0 := co_of ix (by show (tr _, _) = _; simp [tr, *])
        have C1 : CO 3 y 0 0 := co_of iy (by show (tr _, _) = _; simp [tr, *])
        have C2 : CO 3 0 1 0 := co_of (by decide) (by show (tr _, _) = _; simp [tr, *])
        have C3 : CT 29 x y 1 true := ct_ok ix iy (by show (tr _, _) = _; simp [tr, *])
        have C4 : CT 30 x y 1 true := ct_ok ix iy (by show (tr _, _) = _; simp [tr, *])
        have C5 : CO 3 1 0 0 := co_of (by decide) (by show (tr _, _) = _; simp [tr, *])
        have C6 : CT 29 1 z 1 true := ct_ok (by decide) iz (by show (tr _, _) = _; simp [tr, *])
        have C7 : CT 29 y z 1 true := ct_ok iy iz (by show (tr _, _) = _; simp [tr, *])
        have C8 : CT 29 x 1 1 true := ct_ok ix (by decide) (by show (tr _, _) = _; simp [tr, *])
        have C9 : CI 30 0 0 0 := ci_of (by decide) (by decide) (by show (tr _, _) = _; simp [tr, *])
        have C10 : CI 29 y x 1 := ci_of iy ix (by show (tr _, _) = _; simp [tr, *])
        have C11 : CI 30 y x 1 := ci_of iy ix (by show (tr _, _) = _; simp [tr, *])
        have C12 : CI 29 x x 1 := ci_of ix ix (by show (tr _, _) = _; simp [tr, *])
        have C13 : CI 30 x 0 1 := ci_of ix (by decide) (by show (tr _, _) = _; simp [tr, *])
        clear ix hx iy hy iz hz
        as_aux_lemma =>
          go_enter Try.func9, Try.ntmps9
          go_wp2_with (first
      | (go_at_call 15; (with_reducible refine (C0.out _).mono ?_); rintro e wz ⟨rfl, hb⟩; have HB2 := Lib.hid (HB.out.trans (hb.mono HB.out.size)); clear HB hb; have HB := HB2; clear HB2)
      | (go_at_call 15; (with_reducible refine (C1.out _).mono ?_); rintro e wz ⟨rfl, hb⟩; have HB2 := Lib.hid (HB.out.trans (hb.mono HB.out.size)); clear HB hb; have HB := HB2; clear HB2)
      | (go_at_call 15; (with_reducible refine (C2.out _).mono ?_); rintro e wz ⟨rfl, hb⟩; have HB2 := Lib.hid (HB.out.trans (hb.mono HB.out.size)); clear HB hb; have HB := HB2; clear HB2)
      | (go_at_call 20; (with_reducible refine (C3.out _).mono ?_); rintro e wz ⟨rfl, hb⟩; have HB2 := Lib.hid (HB.out.trans (hb.mono HB.out.size)); clear HB hb; have HB := HB2; clear HB2)
      | (go_at_call 20; (with_reducible refine (C4.out _).mono ?_); rintro e wz ⟨rfl, hb⟩; have HB2 := Lib.hid (HB.out.trans (hb.mono HB.out.size)); clear HB hb; have HB := HB2; clear HB2)
      | (go_at_call 15; (with_reducible refine (C5.out _).mono ?_); rintro e wz ⟨rfl, hb⟩; have HB2 := Lib.hid (HB.out.trans (hb.mono HB.out.size)); clear HB hb; have HB := HB2; clear HB2)
      | (go_at_call 20; (with_reducible refine (C6.out _).mono ?_); rintro e wz ⟨rfl, hb⟩; have HB2 := Lib.hid (HB.out.trans (hb.mono HB.out.size)); clear HB hb; have HB := HB2; clear HB2)
      | (go_at_call 20; (with_reducible refine (C7.out _).mono ?_); rintro e wz ⟨rfl, hb⟩; have HB2 := Lib.hid (HB.out.trans (hb.mono HB.out.size)); clear HB hb; have HB := HB2; clear HB2)
      | (go_at_call 20; (with_reducible refine (C8.out _).mono ?_); rintro e wz ⟨rfl, hb⟩; have HB2 := Lib.hid (HB.out.trans (hb.mono HB.out.size)); clear HB hb; have HB := HB2; clear HB2)
      | (go_at_call 21; (with_reducible refine (C9.out _).mono ?_); rintro e wz ⟨rfl, hb⟩; have HB2 := Lib.hid (HB.out.trans (hb.mono HB.out.size)); clear HB hb; have HB := HB2; clear HB2)
      | (go_at_call 21; (with_reducible refine (C10.out _).mono ?_); rintro e wz ⟨rfl, hb⟩; have HB2 := Lib.hid (HB.out.trans (hb.mono HB.out.size)); clear HB hb; have HB := HB2; clear HB2)
      | (go_at_call 21; (with_reducible refine (C11.out _).mono ?_); rintro e wz ⟨rfl, hb⟩; have HB2 := Lib.hid (HB.out.trans (hb.mono HB.out.size)); clear HB hb; have HB := HB2; clear HB2)
      | (go_at_call 21; (with_reducible refine (C12.out _).mono ?_); rintro e wz ⟨rfl, hb⟩; have HB2 := Lib.hid (HB.out.trans (hb.mono HB.out.size)); clear HB hb; have HB := HB2; clear HB2)
      | (go_at_call 21; (with_reducible refine (C13.out _).mono ?_); rintro e wz ⟨rfl, hb⟩; have HB2 := Lib.hid (HB.out.trans (hb.mono HB.out.size)); clear HB hb; have HB := HB2; clear HB2)
      | (go_at_call 17; (with_reducible refine (awake9_any _).mono ?_); rintro e wz ⟨rfl, hb⟩; have HB2 := Lib.hid (HB.out.trans (hb.mono HB.out.size)); clear HB hb; have HB := HB2; clear HB2)
      | fail)
          go_ret
          exact ⟨rfl, HB.out⟩
end Go.Proofs.Ytbjongajpppfjaa
