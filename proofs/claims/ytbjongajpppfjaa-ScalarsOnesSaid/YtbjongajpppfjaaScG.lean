/- The reference's Two: its parts. -/
import Derived.Test.YtbjongajpppfjaaScF
import Derived.Deep.QuietTactic
import Derived.WalkSmall
namespace Go.Proofs.Ytbjongajpppfjaa
open Go.RowKit

theorem i64_wrap (n : Int) : IntKind.i64.wrap n = wrap64 n := by rw [IntKind.wrap_i64, wrap64]
set_option maxHeartbeats 4000000 in
theorem rsum_in (x y : Int) (w : World) (x0 : -9223372036854775808 ≤ x) (x1 : x ≤ 9223372036854775807) (y0 : -9223372036854775808 ≤ y) (y1 : y ≤ 9223372036854775807) (h : inr (x + y) = true) : Calls Try.prog 50 #[.int .i64 x, .int .i64 y] w fun e w' => e = .returned (.tuple #[.int .i64 (x + y), .bool true]) ∧ Below w.heap.size w w' := by
  have hi := inr_iff.1 h
  have hw : wrap64 (x + y) = x + y := by unfold wrap64; omega
  have h1 : 0 < y → wrap64 (9223372036854775807 - y) = 9223372036854775807 - y := by intro _; unfold wrap64; omega
  have h2 : y < 0 → wrap64 (-9223372036854775808 - y) = -9223372036854775808 - y := by intro _; unfold wrap64; omega
  clear h
  rcases (show y < 0 ∨ y = 0 ∨ 0 < y by omega) with k | rfl | k
  · have h2 := h2 k
    have hx : decide (x < -9223372036854775808 - y) = false := decide_eq_false (by omega)
    clear h1 hi
    go_enter Try.func50, Try.ntmps50
    go_wp2
    all_goals (go_ret2; exact ⟨ret_two (iv (by first | rfl | exact hw | omega)) rfl, Below.refl _ _⟩)
  · clear h1 h2
    go_enter Try.func50, Try.ntmps50
    go_wp2
    all_goals (go_ret2; exact ⟨ret_two (iv (by first | rfl | exact hw | omega)) rfl, Below.refl _ _⟩)
  · have h1 := h1 k
    have hx : decide (9223372036854775807 - y < x) = false := decide_eq_false (by omega)
    clear h2 hi
    go_enter Try.func50, Try.ntmps50
    go_wp2
    all_goals (go_ret2; exact ⟨ret_two (iv (by first | rfl | exact hw | omega)) rfl, Below.refl _ _⟩)
set_option maxHeartbeats 4000000 in
theorem rsum_out (x y : Int) (w : World) (x0 : -9223372036854775808 ≤ x) (x1 : x ≤ 9223372036854775807) (y0 : -9223372036854775808 ≤ y) (y1 : y ≤ 9223372036854775807) (h : inr (x + y) = false) : Calls Try.prog 50 #[.int .i64 x, .int .i64 y] w fun e w' => e = .returned (.tuple #[.int .i64 (0), .bool false]) ∧ Below w.heap.size w w' := by
  have hi := inr_not.1 h
  have h1 : 0 < y → wrap64 (9223372036854775807 - y) = 9223372036854775807 - y := by intro _; unfold wrap64; omega
  have h2 : y < 0 → wrap64 (-9223372036854775808 - y) = -9223372036854775808 - y := by intro _; unfold wrap64; omega
  clear h
  rcases (show y < 0 ∨ 0 < y by omega) with k | k
  · have h2 := h2 k
    have hx : decide (x < -9223372036854775808 - y) = true := decide_eq_true (by omega)
    clear h1 hi
    go_enter Try.func50, Try.ntmps50
    go_wp2
    all_goals (go_ret2; exact ⟨rfl, Below.refl _ _⟩)
  · have h1 := h1 k
    have hx : decide (9223372036854775807 - y < x) = true := decide_eq_true (by omega)
    clear h2 hi
    go_enter Try.func50, Try.ntmps50
    go_wp2
    all_goals (go_ret2; exact ⟨rfl, Below.refl _ _⟩)
set_option maxHeartbeats 4000000 in
theorem rprod_z (x y : Int) (w : World) (h : x = 0 ∨ y = 0) : Calls Try.prog 51 #[.int .i64 x, .int .i64 y] w fun e w' => e = .returned (.tuple #[.int .i64 (0), .bool true]) ∧ Below w.heap.size w w' := by
  rcases h with rfl | rfl <;> (go_enter Try.func51, Try.ntmps51; go_wp2) <;> (go_ret2; exact ⟨rfl, Below.refl _ _⟩)
set_option maxHeartbeats 4000000 in
theorem rprod_nz (x y : Int) (w : World) (x0 : -9223372036854775808 ≤ x) (x1 : x ≤ 9223372036854775807) (hx : x ≠ 0) (hy : y ≠ 0) (h : inr (x * y) = true) : Calls Try.prog 51 #[.int .i64 x, .int .i64 y] w fun e w' => e = .returned (.tuple #[.int .i64 (x * y), .bool true]) ∧ Below w.heap.size w w' := by
  have a1 : (x == 0) = false := by simpa using hx
  have a2 : (y == 0) = false := by simpa using hy
  have hi := inr_iff.1 h
  have hw : wrap64 (x * y) = x * y := by unfold wrap64; omega
  have hd : (x * y).tdiv y = x := Int.mul_tdiv_cancel x hy
  have hv : IntKind.i64.wrap x = x := by rw [i64_wrap]; unfold wrap64; omega
  have k1 : (x == -9223372036854775808 && y == -1) = false := by
    cases hq : (x == -9223372036854775808 && y == -1) with
    | false => rfl
    | true => simp at hq; rw [hq.1, hq.2] at hi; omega
  have k2 : (y == -9223372036854775808 && x == -1) = false := by
    cases hq : (y == -9223372036854775808 && x == -1) with
    | false => rfl
    | true => simp at hq; rw [hq.1, hq.2] at hi; omega
  clear h hi
  cases b1 : (x == -9223372036854775808) <;> cases b2 : (y == -9223372036854775808) <;> rw [b1] at k1 <;> rw [b2] at k2 <;> simp only [Bool.true_and, Bool.false_and] at k1 k2 <;>
  (go_enter Try.func51, Try.ntmps51; go_wp2_with fail; go_quiet (fail); go_wp2_with fail; go_ret2; exact ⟨rfl, below_drewN (Below.refl _ _) _⟩)
set_option maxHeartbeats 4000000 in
theorem rprod_out (x y : Int) (w : World) (x0 : -9223372036854775808 ≤ x) (x1 : x ≤ 9223372036854775807) (y0 : -9223372036854775808 ≤ y) (y1 : y ≤ 9223372036854775807) (hx : x ≠ 0) (hy : y ≠ 0) (h : inr (x * y) = false) : Calls Try.prog 51 #[.int .i64 x, .int .i64 y] w fun e w' => ∃ v, e = .returned (.tuple #[.int .i64 v, .bool false]) ∧ Below w.heap.size w w' := by
  have a1 : (x == 0) = false := by simpa using hx
  have a2 : (y == 0) = false := by simpa using hy
  by_cases hs : (x = -9223372036854775808 ∧ y = -1) ∨ (y = -9223372036854775808 ∧ x = -1)
  · rcases hs with ⟨rfl, rfl⟩ | ⟨rfl, rfl⟩ <;> (go_enter Try.func51, Try.ntmps51; go_wp2) <;> (go_ret2; exact ⟨_, rfl, Below.refl _ _⟩)
  · have hq : (IntKind.i64.wrap ((wrap64 (x * y)).tdiv y) == x) = false := by
      rw [i64_wrap]
      rw [beq_eq_false_iff_ne]
      intro k
      by_cases hy1 : y = -1
      · subst hy1
        have : x * -1 = -x := by omega
        rw [this, inr_not] at h
        omega
      · have hb := tdiv_bd (wrap64 (x * y)) y hy hy1 (by unfold wrap64; omega) (by unfold wrap64; omega)
        rw [show wrap64 ((wrap64 (x * y)).tdiv y) = (wrap64 (x * y)).tdiv y by clear k; generalize (wrap64 (x * y)).tdiv y = q at hb ⊢; unfold wrap64; omega] at k
        rw [mul_back x y hy y0 y1 k] at h
        cases h
    have k1 : (x == -9223372036854775808 && y == -1) = false := by
      cases hq : (x == -9223372036854775808 && y == -1) with
      | false => rfl
      | true => simp at hq; exact absurd (.inl hq) hs
    have k2 : (y == -9223372036854775808 && x == -1) = false := by
      cases hq : (y == -9223372036854775808 && x == -1) with
      | false => rfl
      | true => simp at hq; exact absurd (.inr hq) hs
    clear hs h
    cases b1 : (x == -9223372036854775808) <;> cases b2 : (y == -9223372036854775808) <;> rw [b1] at k1 <;> rw [b2] at k2 <;> simp only [Bool.true_and, Bool.false_and] at k1 k2 <;>
    (go_enter Try.func51, Try.ntmps51; go_wp2_with fail; go_quiet (fail); go_wp2_with fail; go_ret2; exact ⟨_, rfl, below_drewN (Below.refl _ _) _⟩)
theorem rprod_in (x y : Int) (w : World) (x0 : -9223372036854775808 ≤ x) (x1 : x ≤ 9223372036854775807) (h : inr (x * y) = true) : Calls Try.prog 51 #[.int .i64 x, .int .i64 y] w fun e w' => e = .returned (.tuple #[.int .i64 (x * y), .bool true]) ∧ Below w.heap.size w w' := by
  by_cases hz : x = 0 ∨ y = 0
  · rw [show x * y = 0 by rcases hz with rfl | rfl <;> simp]
    exact rprod_z x y w hz
  · exact rprod_nz x y w x0 x1 (fun k => hz (.inl k)) (fun k => hz (.inr k)) h
theorem inr_zero : inr 0 = true := by decide
theorem rprod_no (x y : Int) (w : World) (x0 : -9223372036854775808 ≤ x) (x1 : x ≤ 9223372036854775807) (y0 : -9223372036854775808 ≤ y) (y1 : y ≤ 9223372036854775807) (h : inr (x * y) = false) : Calls Try.prog 51 #[.int .i64 x, .int .i64 y] w fun e w' => ∃ v, e = .returned (.tuple #[.int .i64 v, .bool false]) ∧ Below w.heap.size w w' := by
  refine rprod_out x y w x0 x1 y0 y1 ?_ ?_ h
  · rintro rfl; rw [Int.zero_mul, inr_zero] at h; cases h
  · rintro rfl; rw [Int.mul_zero, inr_zero] at h; cases h
set_option maxHeartbeats 4000000 in
theorem rquo_in (x y : Int) (w : World) (x0 : -9223372036854775808 ≤ x) (x1 : x ≤ 9223372036854775807) (hy : y ≠ 0) (h : inr (x.fdiv y) = true) : Calls Try.prog 52 #[.int .i64 x, .int .i64 y] w fun e w' => e = .returned (.tuple #[.int .i64 (x.fdiv y), .bool true]) ∧ Below w.heap.size w w' := by
  have hz : (y == 0) = false := by simpa using hy
  have hf := fdiv_of x y hy
  have hn : ¬ (x = -9223372036854775808 ∧ y = -1) := by
    rintro ⟨rfl, rfl⟩
    exact absurd h (by decide)
  have hb : -9223372036854775808 ≤ x.tdiv y ∧ x.tdiv y ≤ 9223372036854775807 ∧ (x.tmod y ≠ 0 → -9223372036854775807 ≤ x.tdiv y) := by
    by_cases hy1 : y = -1
    · subst hy1; simp; omega
    · exact tdiv_bd x y hy hy1 x0 x1
  have hw : wrap64 (x.tdiv y) = x.tdiv y := by unfold wrap64; omega
  have hw1 : x.tmod y ≠ 0 → wrap64 (x.tdiv y - 1) = x.tdiv y - 1 := by intro k; unfold wrap64; omega
  have k1 : (x == -9223372036854775808 && y == -1) = false := by
    cases hq : (x == -9223372036854775808 && y == -1) with
    | false => rfl
    | true => simp at hq; exact absurd hq hn
  clear hb hn h
  have HF := Lib.hid hf
  have HW := Lib.hid hw1
  clear hf hw1
  cases b1 : (x == -9223372036854775808) <;> rw [b1] at k1 <;> simp only [Bool.true_and, Bool.false_and] at k1 <;>
  (go_enter Try.func52, Try.ntmps52; go_wp2) <;>
  (go_ret2; exact ⟨ret_two (iv (by rw [HF.out]; have k2 := HW.out; clear HF HW; simp_all)) rfl, Below.refl _ _⟩)
set_option maxHeartbeats 4000000 in
theorem rquo_out (x y : Int) (w : World) (x0 : -9223372036854775808 ≤ x) (x1 : x ≤ 9223372036854775807) (hy : y ≠ 0) (h : inr (x.fdiv y) = false) : Calls Try.prog 52 #[.int .i64 x, .int .i64 y] w fun e w' => e = .returned (.tuple #[.int .i64 (0), .bool false]) ∧ Below w.heap.size w w' := by
  have hn : x = -9223372036854775808 ∧ y = -1 := by
    by_cases hy1 : y = -1
    · subst hy1
      rw [show x.fdiv (-1) = -x by rw [fdiv_of x (-1) (by decide)]; simp, inr_not] at h
      omega
    · rw [fdiv_in x y hy hy1 x0 x1] at h; cases h
  obtain ⟨rfl, rfl⟩ := hn
  go_enter Try.func52, Try.ntmps52
  go_wp2
  go_ret2
  exact ⟨rfl, Below.refl _ _⟩
set_option maxHeartbeats 4000000 in
theorem rrest_any (x y : Int) (w : World) (x0 : -9223372036854775808 ≤ x) (x1 : x ≤ 9223372036854775807) (y0 : -9223372036854775808 ≤ y) (y1 : y ≤ 9223372036854775807) (hy : y ≠ 0) : Calls Try.prog 48 #[.int .i64 x, .int .i64 y] w fun e w' => e = .returned (.int .i64 (x.fmod y)) ∧ Below w.heap.size w w' := by
  by_cases hy1 : y = -1
  · subst hy1
    go_enter Try.func48, Try.ntmps48
    go_wp2
    go_ret
    exact ⟨by rw [fmod_of x (-1) (by decide)]; simp, Below.refl _ _⟩
  · have hz : (y == 0) = false := by simpa using hy
    have hm : (y == -1) = false := by simpa using hy1
    have HB := Lib.hid (tmod_bd x y hy)
    have HF := Lib.hid (fmod_of x y hy)
    go_enter Try.func48, Try.ntmps48
    go_wp2
    all_goals (go_ret; refine ⟨?_, Below.refl _ _⟩; rw [HF.out]; have k1 := HB.out; clear HF HB; generalize x.tmod y = r at *; simp_all <;> (try unfold wrap64) <;> (try intro _) <;> omega)
set_option maxHeartbeats 4000000 in
theorem rcalc_15 (x y : Int) (w : World) (x0 : -9223372036854775808 ≤ x) (x1 : x ≤ 9223372036854775807) (y0 : -9223372036854775808 ≤ y) (y1 : y ≤ 9223372036854775807) (h : inr (x + y) = true) : Calls Try.prog 26 #[.int .i64 15, .int .i64 x, .int .i64 y] w fun e w' => e = .returned (.tuple #[.int .i64 (x + y), .bool true]) ∧ Below w.heap.size w w' := by
  go_enter Try.func26, Try.ntmps26
  go_wp2_with (go_at_call 50; refine (rsum_in _ _ _ x0 x1 y0 y1 h).mono ?_; rintro e w1 ⟨rfl, hb⟩)
  go_ret2
  exact ⟨rfl, hb⟩
set_option maxHeartbeats 4000000 in
theorem rcalc_15o (x y : Int) (w : World) (x0 : -9223372036854775808 ≤ x) (x1 : x ≤ 9223372036854775807) (y0 : -9223372036854775808 ≤ y) (y1 : y ≤ 9223372036854775807) (h : inr (x + y) = false) : Calls Try.prog 26 #[.int .i64 15, .int .i64 x, .int .i64 y] w fun e w' => ∃ v, e = .returned (.tuple #[.int .i64 v, .bool false]) ∧ Below w.heap.size w w' := by
  go_enter Try.func26, Try.ntmps26
  go_wp2_with (go_at_call 50; refine (rsum_out _ _ _ x0 x1 y0 y1 h).mono ?_; rintro e w1 ⟨rfl, hb⟩)
  go_ret2
  exact ⟨_, rfl, hb⟩
set_option maxHeartbeats 4000000 in
theorem rcalc_17 (x y : Int) (w : World) (x0 : -9223372036854775808 ≤ x) (x1 : x ≤ 9223372036854775807) (h : inr (x * y) = true) : Calls Try.prog 26 #[.int .i64 17, .int .i64 x, .int .i64 y] w fun e w' => e = .returned (.tuple #[.int .i64 (x * y), .bool true]) ∧ Below w.heap.size w w' := by
  go_enter Try.func26, Try.ntmps26
  go_wp2_with (go_at_call 51; refine (rprod_in _ _ _ x0 x1 h).mono ?_; rintro e w1 ⟨rfl, hb⟩)
  go_ret2
  exact ⟨rfl, hb⟩
set_option maxHeartbeats 4000000 in
theorem rcalc_17o (x y : Int) (w : World) (x0 : -9223372036854775808 ≤ x) (x1 : x ≤ 9223372036854775807) (y0 : -9223372036854775808 ≤ y) (y1 : y ≤ 9223372036854775807) (h : inr (x * y) = false) : Calls Try.prog 26 #[.int .i64 17, .int .i64 x, .int .i64 y] w fun e w' => ∃ v, e = .returned (.tuple #[.int .i64 v, .bool false]) ∧ Below w.heap.size w w' := by
  go_enter Try.func26, Try.ntmps26
  go_wp2_with (go_at_call 51; refine (rprod_no _ _ _ x0 x1 y0 y1 h).mono ?_; rintro e w1 ⟨v, rfl, hb⟩)
  go_ret2
  exact ⟨_, rfl, hb⟩
set_option maxHeartbeats 4000000 in
theorem rcalc_18 (x y : Int) (w : World) (x0 : -9223372036854775808 ≤ x) (x1 : x ≤ 9223372036854775807) (hy : y ≠ 0) (h : inr (x.fdiv y) = true) : Calls Try.prog 26 #[.int .i64 18, .int .i64 x, .int .i64 y] w fun e w' => e = .returned (.tuple #[.int .i64 (x.fdiv y), .bool true]) ∧ Below w.heap.size w w' := by
  go_enter Try.func26, Try.ntmps26
  go_wp2_with (go_at_call 52; refine (rquo_in _ _ _ x0 x1 hy h).mono ?_; rintro e w1 ⟨rfl, hb⟩)
  go_ret2
  exact ⟨rfl, hb⟩
set_option maxHeartbeats 4000000 in
theorem rcalc_18o (x y : Int) (w : World) (x0 : -9223372036854775808 ≤ x) (x1 : x ≤ 9223372036854775807) (hy : y ≠ 0) (h : inr (x.fdiv y) = false) : Calls Try.prog 26 #[.int .i64 18, .int .i64 x, .int .i64 y] w fun e w' => ∃ v, e = .returned (.tuple #[.int .i64 v, .bool false]) ∧ Below w.heap.size w w' := by
  go_enter Try.func26, Try.ntmps26
  go_wp2_with (go_at_call 52; refine (rquo_out _ _ _ x0 x1 hy h).mono ?_; rintro e w1 ⟨rfl, hb⟩)
  go_ret2
  exact ⟨_, rfl, hb⟩
set_option maxHeartbeats 4000000 in
theorem rcalc_16 (x y : Int) (w : World) (x0 : -9223372036854775808 ≤ x) (x1 : x ≤ 9223372036854775807) (y0 : -9223372036854775808 ≤ y) (y1 : y ≤ 9223372036854775807) (h : inr (x - y) = true) : Calls Try.prog 26 #[.int .i64 16, .int .i64 x, .int .i64 y] w fun e w' => e = .returned (.tuple #[.int .i64 (x - y), .bool true]) ∧ Below w.heap.size w w' := by
  by_cases hy : y = -9223372036854775808
  · subst hy
    rw [inr_iff] at h
    have k1 : decide (0 ≤ x) = false := decide_eq_false (by omega)
    have hw : wrap64 (wrap64 (x + 1) + 9223372036854775807) = x - -9223372036854775808 := by unfold wrap64; omega
    clear h
    go_enter Try.func26, Try.ntmps26
    go_wp2
    all_goals (go_ret2; exact ⟨ret_two (iv (by first | rfl | omega | exact hw)) rfl, Below.refl _ _⟩)
  · have k1 : (y == -9223372036854775808) = false := by simpa using hy
    have hw : wrap64 (-y) = -y := by unfold wrap64; omega
    rw [show x - y = x + -y by omega] at h ⊢
    go_enter Try.func26, Try.ntmps26
    go_wp2_with (go_at_call 50; refine (rsum_in _ _ _ x0 x1 (by omega) (by omega) h).mono ?_; rintro e w1 ⟨rfl, hb⟩)
    go_ret2
    exact ⟨rfl, hb⟩
set_option maxHeartbeats 4000000 in
theorem rcalc_16o (x y : Int) (w : World) (x0 : -9223372036854775808 ≤ x) (x1 : x ≤ 9223372036854775807) (y0 : -9223372036854775808 ≤ y) (y1 : y ≤ 9223372036854775807) (h : inr (x - y) = false) : Calls Try.prog 26 #[.int .i64 16, .int .i64 x, .int .i64 y] w fun e w' => ∃ v, e = .returned (.tuple #[.int .i64 v, .bool false]) ∧ Below w.heap.size w w' := by
  by_cases hy : y = -9223372036854775808
  · subst hy
    rw [inr_not] at h
    have k1 : decide (0 ≤ x) = true := decide_eq_true (by omega)
    clear h
    go_enter Try.func26, Try.ntmps26
    go_wp2
    go_ret2
    exact ⟨_, rfl, Below.refl _ _⟩
  · have k1 : (y == -9223372036854775808) = false := by simpa using hy
    have hw : wrap64 (-y) = -y := by unfold wrap64; omega
    rw [show x - y = x + -y by omega] at h
    go_enter Try.func26, Try.ntmps26
    go_wp2_with (go_at_call 50; refine (rsum_out _ _ _ x0 x1 (by omega) (by omega) h).mono ?_; rintro e w1 ⟨rfl, hb⟩)
    go_ret2
    exact ⟨_, rfl, hb⟩
end Go.Proofs.Ytbjongajpppfjaa
