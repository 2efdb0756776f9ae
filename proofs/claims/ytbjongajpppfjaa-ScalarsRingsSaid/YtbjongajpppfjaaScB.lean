/- Contracts of the methods of number. -/
import Derived.Test.YtbjongajpppfjaaScA
import Derived.Lib.Hide
namespace Go.Proofs.Ytbjongajpppfjaa
open Go.RowKit
set_option maxHeartbeats 1000000 in
theorem neg_any (x : Int) (w : World) (x0 : -9223372036854775808 ≤ x) (x1 : x ≤ 9223372036854775807) :
    Calls Try.prog 27 #[.int .i64 x] w fun e w' => e = .returned (.tuple #[.int .i64 (fit (-x)), .int .i64 (fitE (-x))]) ∧ w = w' := by
  go_enter Try.func27, Try.ntmps27
  go_wp2
  all_goals (go_ret2; exact ⟨ret_two (iv (by (first | rfl | omega | ((try unfold fit); (try unfold fitE); (try unfold tr); (try unfold inr); (try unfold wrap64); (try unfold wrap64 at *); simp_all <;> omega)))) (iv (by (first | rfl | omega | ((try unfold fit); (try unfold fitE); (try unfold tr); (try unfold inr); (try unfold wrap64); (try unfold wrap64 at *); simp_all <;> omega)))), rfl⟩)
set_option maxHeartbeats 1000000 in
theorem abs_lo (x : Int) (w : World) (x0 : -9223372036854775808 ≤ x) (x1 : x ≤ 9223372036854775807) (h : x < 0) :
    Calls Try.prog 28 #[.int .i64 x] w fun e w' => e = .returned (.tuple #[.int .i64 (fit (-x)), .int .i64 (fitE (-x))]) ∧ w = w' := by
  go_enter Try.func28, Try.ntmps28
  go_wp2
  all_goals (go_ret2; exact ⟨ret_two (iv (by (first | rfl | omega | ((try unfold fit); (try unfold fitE); (try unfold tr); (try unfold inr); (try unfold wrap64); (try unfold wrap64 at *); simp_all <;> omega)))) (iv (by (first | rfl | omega | ((try unfold fit); (try unfold fitE); (try unfold tr); (try unfold inr); (try unfold wrap64); (try unfold wrap64 at *); simp_all <;> omega)))), rfl⟩)
set_option maxHeartbeats 1000000 in
theorem abs_hi (x : Int) (w : World) (x0 : -9223372036854775808 ≤ x) (x1 : x ≤ 9223372036854775807) (h : 0 ≤ x) :
    Calls Try.prog 28 #[.int .i64 x] w fun e w' => e = .returned (.tuple #[.int .i64 (x), .int .i64 (0)]) ∧ w = w' := by
  go_enter Try.func28, Try.ntmps28
  go_wp2
  all_goals (go_ret2; exact ⟨ret_two (iv (by (first | rfl | omega | ((try unfold fit); (try unfold fitE); (try unfold tr); (try unfold inr); (try unfold wrap64); (try unfold wrap64 at *); simp_all <;> omega)))) (iv (by (first | rfl | omega | ((try unfold fit); (try unfold fitE); (try unfold tr); (try unfold inr); (try unfold wrap64); (try unfold wrap64 at *); simp_all <;> omega)))), rfl⟩)
set_option maxHeartbeats 1000000 in
theorem not_any (x : Int) (w : World)  :
    Calls Try.prog 29 #[.int .i64 x] w fun e w' => e = .returned (.tuple #[.int .i64 (tr (x == 0)), .int .i64 (0)]) ∧ w = w' := by
  go_enter Try.func29, Try.ntmps29
  go_wp2
  all_goals (go_ret2; exact ⟨ret_two (iv (by (first | rfl | omega | ((try unfold fit); (try unfold fitE); (try unfold tr); (try unfold inr); (try unfold wrap64); (try unfold wrap64 at *); simp_all <;> omega)))) (iv (by (first | rfl | omega | ((try unfold fit); (try unfold fitE); (try unfold tr); (try unfold inr); (try unfold wrap64); (try unfold wrap64 at *); simp_all <;> omega)))), rfl⟩)
set_option maxHeartbeats 1000000 in
theorem add_any (x y : Int) (w : World) (x0 : -9223372036854775808 ≤ x) (x1 : x ≤ 9223372036854775807) (y0 : -9223372036854775808 ≤ y) (y1 : y ≤ 9223372036854775807) :
    Calls Try.prog 30 #[.int .i64 x, .int .i64 y] w fun e w' => e = .returned (.tuple #[.int .i64 (fit (x + y)), .int .i64 (fitE (x + y))]) ∧ w = w' := by
  go_enter Try.func30, Try.ntmps30
  go_wp2
  all_goals (go_ret2; exact ⟨ret_two (iv (by (first | rfl | omega | ((try unfold fit); (try unfold fitE); (try unfold tr); (try unfold inr); (try unfold wrap64); (try unfold wrap64 at *); simp_all <;> omega)))) (iv (by (first | rfl | omega | ((try unfold fit); (try unfold fitE); (try unfold tr); (try unfold inr); (try unfold wrap64); (try unfold wrap64 at *); simp_all <;> omega)))), rfl⟩)
set_option maxHeartbeats 1000000 in
theorem sub_any (x y : Int) (w : World) (x0 : -9223372036854775808 ≤ x) (x1 : x ≤ 9223372036854775807) (y0 : -9223372036854775808 ≤ y) (y1 : y ≤ 9223372036854775807) :
    Calls Try.prog 31 #[.int .i64 x, .int .i64 y] w fun e w' => e = .returned (.tuple #[.int .i64 (fit (x - y)), .int .i64 (fitE (x - y))]) ∧ w = w' := by
  go_enter Try.func31, Try.ntmps31
  go_wp2
  all_goals (go_ret2; exact ⟨ret_two (iv (by (first | rfl | omega | ((try unfold fit); (try unfold fitE); (try unfold tr); (try unfold inr); (try unfold wrap64); (try unfold wrap64 at *); simp_all <;> omega)))) (iv (by (first | rfl | omega | ((try unfold fit); (try unfold fitE); (try unfold tr); (try unfold inr); (try unfold wrap64); (try unfold wrap64 at *); simp_all <;> omega)))), rfl⟩)
set_option maxHeartbeats 1000000 in
theorem eq_any (x y : Int) (w : World)  :
    Calls Try.prog 38 #[.int .i64 x, .int .i64 y] w fun e w' => e = .returned (.tuple #[.int .i64 (tr (x == y)), .int .i64 (0)]) ∧ w = w' := by
  go_enter Try.func38, Try.ntmps38
  go_wp2
  all_goals (go_ret2; exact ⟨ret_two (iv (by (first | rfl | omega | ((try unfold fit); (try unfold fitE); (try unfold tr); (try unfold inr); (try unfold wrap64); (try unfold wrap64 at *); simp_all <;> omega)))) (iv (by (first | rfl | omega | ((try unfold fit); (try unfold fitE); (try unfold tr); (try unfold inr); (try unfold wrap64); (try unfold wrap64 at *); simp_all <;> omega)))), rfl⟩)
set_option maxHeartbeats 1000000 in
theorem ne_any (x y : Int) (w : World)  :
    Calls Try.prog 39 #[.int .i64 x, .int .i64 y] w fun e w' => e = .returned (.tuple #[.int .i64 (tr (x != y)), .int .i64 (0)]) ∧ w = w' := by
  go_enter Try.func39, Try.ntmps39
  go_wp2
  all_goals (go_ret2; exact ⟨ret_two (iv (by (first | rfl | omega | ((try unfold fit); (try unfold fitE); (try unfold tr); (try unfold inr); (try unfold wrap64); (try unfold wrap64 at *); simp_all <;> omega)))) (iv (by (first | rfl | omega | ((try unfold fit); (try unfold fitE); (try unfold tr); (try unfold inr); (try unfold wrap64); (try unfold wrap64 at *); simp_all <;> omega)))), rfl⟩)
set_option maxHeartbeats 1000000 in
theorem lt_any (x y : Int) (w : World)  :
    Calls Try.prog 40 #[.int .i64 x, .int .i64 y] w fun e w' => e = .returned (.tuple #[.int .i64 (tr (decide (x < y))), .int .i64 (0)]) ∧ w = w' := by
  go_enter Try.func40, Try.ntmps40
  go_wp2
  all_goals (go_ret2; exact ⟨ret_two (iv (by (first | rfl | omega | ((try unfold fit); (try unfold fitE); (try unfold tr); (try unfold inr); (try unfold wrap64); (try unfold wrap64 at *); simp_all <;> omega)))) (iv (by (first | rfl | omega | ((try unfold fit); (try unfold fitE); (try unfold tr); (try unfold inr); (try unfold wrap64); (try unfold wrap64 at *); simp_all <;> omega)))), rfl⟩)
set_option maxHeartbeats 1000000 in
theorem le_any (x y : Int) (w : World)  :
    Calls Try.prog 41 #[.int .i64 x, .int .i64 y] w fun e w' => e = .returned (.tuple #[.int .i64 (tr (decide (x ≤ y))), .int .i64 (0)]) ∧ w = w' := by
  go_enter Try.func41, Try.ntmps41
  go_wp2
  all_goals (go_ret2; exact ⟨ret_two (iv (by (first | rfl | omega | ((try unfold fit); (try unfold fitE); (try unfold tr); (try unfold inr); (try unfold wrap64); (try unfold wrap64 at *); simp_all <;> omega)))) (iv (by (first | rfl | omega | ((try unfold fit); (try unfold fitE); (try unfold tr); (try unfold inr); (try unfold wrap64); (try unfold wrap64 at *); simp_all <;> omega)))), rfl⟩)
set_option maxHeartbeats 1000000 in
theorem gt_any (x y : Int) (w : World)  :
    Calls Try.prog 42 #[.int .i64 x, .int .i64 y] w fun e w' => e = .returned (.tuple #[.int .i64 (tr (decide (y < x))), .int .i64 (0)]) ∧ w = w' := by
  go_enter Try.func42, Try.ntmps42
  go_wp2
  all_goals (go_ret2; exact ⟨ret_two (iv (by (first | rfl | omega | ((try unfold fit); (try unfold fitE); (try unfold tr); (try unfold inr); (try unfold wrap64); (try unfold wrap64 at *); simp_all <;> omega)))) (iv (by (first | rfl | omega | ((try unfold fit); (try unfold fitE); (try unfold tr); (try unfold inr); (try unfold wrap64); (try unfold wrap64 at *); simp_all <;> omega)))), rfl⟩)
set_option maxHeartbeats 1000000 in
theorem ge_any (x y : Int) (w : World)  :
    Calls Try.prog 43 #[.int .i64 x, .int .i64 y] w fun e w' => e = .returned (.tuple #[.int .i64 (tr (decide (y ≤ x))), .int .i64 (0)]) ∧ w = w' := by
  go_enter Try.func43, Try.ntmps43
  go_wp2
  all_goals (go_ret2; exact ⟨ret_two (iv (by (first | rfl | omega | ((try unfold fit); (try unfold fitE); (try unfold tr); (try unfold inr); (try unfold wrap64); (try unfold wrap64 at *); simp_all <;> omega)))) (iv (by (first | rfl | omega | ((try unfold fit); (try unfold fitE); (try unfold tr); (try unfold inr); (try unfold wrap64); (try unfold wrap64 at *); simp_all <;> omega)))), rfl⟩)
set_option maxHeartbeats 1000000 in
theorem and_any (x y : Int) (w : World)  :
    Calls Try.prog 44 #[.int .i64 x, .int .i64 y] w fun e w' => e = .returned (.tuple #[.int .i64 (tr (x != 0 && y != 0)), .int .i64 (0)]) ∧ w = w' := by
  go_enter Try.func44, Try.ntmps44
  go_wp2
  all_goals (go_ret2; exact ⟨ret_two (iv (by (first | rfl | omega | ((try unfold fit); (try unfold fitE); (try unfold tr); (try unfold inr); (try unfold wrap64); (try unfold wrap64 at *); simp_all <;> omega)))) (iv (by (first | rfl | omega | ((try unfold fit); (try unfold fitE); (try unfold tr); (try unfold inr); (try unfold wrap64); (try unfold wrap64 at *); simp_all <;> omega)))), rfl⟩)
set_option maxHeartbeats 1000000 in
theorem or_any (x y : Int) (w : World)  :
    Calls Try.prog 45 #[.int .i64 x, .int .i64 y] w fun e w' => e = .returned (.tuple #[.int .i64 (tr (x != 0 || y != 0)), .int .i64 (0)]) ∧ w = w' := by
  go_enter Try.func45, Try.ntmps45
  go_wp2
  all_goals (go_ret2; exact ⟨ret_two (iv (by (first | rfl | omega | ((try unfold fit); (try unfold fitE); (try unfold tr); (try unfold inr); (try unfold wrap64); (try unfold wrap64 at *); simp_all <;> omega)))) (iv (by (first | rfl | omega | ((try unfold fit); (try unfold fitE); (try unfold tr); (try unfold inr); (try unfold wrap64); (try unfold wrap64 at *); simp_all <;> omega)))), rfl⟩)
set_option maxHeartbeats 1000000 in
theorem min_any (x y : Int) (w : World)  :
    Calls Try.prog 46 #[.int .i64 x, .int .i64 y] w fun e w' => e = .returned (.tuple #[.int .i64 (min x y), .int .i64 (0)]) ∧ w = w' := by
  go_enter Try.func46, Try.ntmps46
  go_wp2
  all_goals (go_ret2; exact ⟨ret_two (iv (by (first | rfl | omega | ((try unfold fit); (try unfold fitE); (try unfold tr); (try unfold inr); (try unfold wrap64); (try unfold wrap64 at *); simp_all <;> omega)))) (iv (by (first | rfl | omega | ((try unfold fit); (try unfold fitE); (try unfold tr); (try unfold inr); (try unfold wrap64); (try unfold wrap64 at *); simp_all <;> omega)))), rfl⟩)
set_option maxHeartbeats 1000000 in
theorem max_any (x y : Int) (w : World)  :
    Calls Try.prog 47 #[.int .i64 x, .int .i64 y] w fun e w' => e = .returned (.tuple #[.int .i64 (max x y), .int .i64 (0)]) ∧ w = w' := by
  go_enter Try.func47, Try.ntmps47
  go_wp2
  all_goals (go_ret2; exact ⟨ret_two (iv (by (first | rfl | omega | ((try unfold fit); (try unfold fitE); (try unfold tr); (try unfold inr); (try unfold wrap64); (try unfold wrap64 at *); simp_all <;> omega)))) (iv (by (first | rfl | omega | ((try unfold fit); (try unfold fitE); (try unfold tr); (try unfold inr); (try unfold wrap64); (try unfold wrap64 at *); simp_all <;> omega)))), rfl⟩)
set_option maxHeartbeats 1000000 in
theorem mul_z (x y : Int) (w : World)  (hy : y = 0) :
    Calls Try.prog 32 #[.int .i64 x, .int .i64 y] w fun e w' => e = .returned (.tuple #[.int .i64 (0), .int .i64 (0)]) ∧ w = w' := by
  subst hy
  go_enter Try.func32, Try.ntmps32
  go_wp2
  all_goals (go_ret2; exact ⟨ret_two (iv (by (first | rfl | omega | ((try unfold fit); (try unfold fitE); (try unfold tr); (try unfold inr); (try unfold wrap64); (try unfold wrap64 at *); simp_all <;> omega)))) (iv (by (first | rfl | omega | ((try unfold fit); (try unfold fitE); (try unfold tr); (try unfold inr); (try unfold wrap64); (try unfold wrap64 at *); simp_all <;> omega)))), rfl⟩)
set_option maxHeartbeats 1000000 in
theorem mul_n (x y : Int) (w : World) (x0 : -9223372036854775808 ≤ x) (x1 : x ≤ 9223372036854775807) (hy : y = -1) :
    Calls Try.prog 32 #[.int .i64 x, .int .i64 y] w fun e w' => e = .returned (.tuple #[.int .i64 (fit (-x)), .int .i64 (fitE (-x))]) ∧ w = w' := by
  subst hy
  go_enter Try.func32, Try.ntmps32
  go_wp2
  all_goals (go_ret2; exact ⟨ret_two (iv (by (first | rfl | omega | ((try unfold fit); (try unfold fitE); (try unfold tr); (try unfold inr); (try unfold wrap64); (try unfold wrap64 at *); simp_all <;> omega)))) (iv (by (first | rfl | omega | ((try unfold fit); (try unfold fitE); (try unfold tr); (try unfold inr); (try unfold wrap64); (try unfold wrap64 at *); simp_all <;> omega)))), rfl⟩)
set_option maxHeartbeats 1000000 in
theorem mul_in (x y : Int) (w : World) (x0 : -9223372036854775808 ≤ x) (x1 : x ≤ 9223372036854775807) (hy : y ≠ 0) (hy1 : y ≠ -1) (h : inr (x * y) = true) :
    Calls Try.prog 32 #[.int .i64 x, .int .i64 y] w fun e w' => e = .returned (.tuple #[.int .i64 (x * y), .int .i64 (0)]) ∧ w = w' := by
  have hz : (y == 0) = false := by simpa using hy
  have hm : (y == -1) = false := by simpa using hy1
  have hw : wrap64 (x * y) = x * y := by rw [inr_iff] at h; unfold wrap64; omega
  have hd : (x * y).tdiv y = x := Int.mul_tdiv_cancel x hy
  have hx : wrap64 x = x := by unfold wrap64; omega
  go_enter Try.func32, Try.ntmps32
  go_wp2
  all_goals (go_ret2; exact ⟨ret_two (iv (by (first | rfl | omega | ((try unfold fit); (try unfold fitE); (try unfold tr); (try unfold inr); (try unfold wrap64); (try unfold wrap64 at *); simp_all <;> omega)))) (iv (by (first | rfl | omega | ((try unfold fit); (try unfold fitE); (try unfold tr); (try unfold inr); (try unfold wrap64); (try unfold wrap64 at *); simp_all <;> omega)))), rfl⟩)
set_option maxHeartbeats 1000000 in
theorem mul_out (x y : Int) (w : World)  (y0 : -9223372036854775808 ≤ y) (y1 : y ≤ 9223372036854775807) (hy : y ≠ 0) (hy1 : y ≠ -1) (h : inr (x * y) = false) :
    Calls Try.prog 32 #[.int .i64 x, .int .i64 y] w fun e w' => e = .returned (.tuple #[.int .i64 (0), .int .i64 (12)]) ∧ w = w' := by
  have hz : (y == 0) = false := by simpa using hy
  have hm : (y == -1) = false := by simpa using hy1
  have hq : (wrap64 ((wrap64 (x * y)).tdiv y) != x) = true := by
    rw [bne_iff_ne]
    intro k
    have hb := tdiv_bd (wrap64 (x * y)) y hy hy1 (by unfold wrap64; omega) (by unfold wrap64; omega)
    rw [show wrap64 ((wrap64 (x * y)).tdiv y) = (wrap64 (x * y)).tdiv y by clear k; generalize (wrap64 (x * y)).tdiv y = q at hb ⊢; unfold wrap64; omega] at k
    rw [mul_back x y hy y0 y1 k] at h
    cases h
  go_enter Try.func32, Try.ntmps32
  go_wp2
  all_goals (go_ret2; exact ⟨ret_two (iv (by (first | rfl | omega | ((try unfold fit); (try unfold fitE); (try unfold tr); (try unfold inr); (try unfold wrap64); (try unfold wrap64 at *); simp_all <;> omega)))) (iv (by (first | rfl | omega | ((try unfold fit); (try unfold fitE); (try unfold tr); (try unfold inr); (try unfold wrap64); (try unfold wrap64 at *); simp_all <;> omega)))), rfl⟩)
set_option maxHeartbeats 1000000 in
theorem div_z (x y : Int) (w : World)  (hy : y = 0) :
    Calls Try.prog 33 #[.int .i64 x, .int .i64 y] w fun e w' => e = .returned (.tuple #[.int .i64 (0), .int .i64 (13)]) ∧ w = w' := by
  subst hy
  go_enter Try.func33, Try.ntmps33
  go_wp2
  all_goals (go_ret2; exact ⟨ret_two (iv (by (first | rfl | omega | ((try unfold fit); (try unfold fitE); (try unfold tr); (try unfold inr); (try unfold wrap64); (try unfold wrap64 at *); simp_all <;> omega)))) (iv (by (first | rfl | omega | ((try unfold fit); (try unfold fitE); (try unfold tr); (try unfold inr); (try unfold wrap64); (try unfold wrap64 at *); simp_all <;> omega)))), rfl⟩)
set_option maxHeartbeats 1000000 in
theorem div_n (x y : Int) (w : World) (x0 : -9223372036854775808 ≤ x) (x1 : x ≤ 9223372036854775807) (hy : y = -1) :
    Calls Try.prog 33 #[.int .i64 x, .int .i64 y] w fun e w' => e = .returned (.tuple #[.int .i64 (fit (-x)), .int .i64 (fitE (-x))]) ∧ w = w' := by
  subst hy
  go_enter Try.func33, Try.ntmps33
  go_wp2
  all_goals (go_ret2; exact ⟨ret_two (iv (by (first | rfl | omega | ((try unfold fit); (try unfold fitE); (try unfold tr); (try unfold inr); (try unfold wrap64); (try unfold wrap64 at *); simp_all <;> omega)))) (iv (by (first | rfl | omega | ((try unfold fit); (try unfold fitE); (try unfold tr); (try unfold inr); (try unfold wrap64); (try unfold wrap64 at *); simp_all <;> omega)))), rfl⟩)
set_option maxHeartbeats 1000000 in
theorem div_any (x y : Int) (w : World) (x0 : -9223372036854775808 ≤ x) (x1 : x ≤ 9223372036854775807) (hy : y ≠ 0) (hy1 : y ≠ -1) :
    Calls Try.prog 33 #[.int .i64 x, .int .i64 y] w fun e w' => e = .returned (.tuple #[.int .i64 (x.fdiv y), .int .i64 (0)]) ∧ w = w' := by
  have hz : (y == 0) = false := by simpa using hy
  have hm : (y == -1) = false := by simpa using hy1
  have hb := tdiv_bd x y hy hy1 x0 x1
  have hf := fdiv_of x y hy
  have hw : wrap64 (x.tdiv y) = x.tdiv y := by unfold wrap64; omega
  have hw1 : x.tmod y ≠ 0 → wrap64 (x.tdiv y - 1) = x.tdiv y - 1 := by intro k; unfold wrap64; omega
  clear hb
  have HF := Lib.hid hf
  have HW := Lib.hid hw1
  clear hf hw1
  go_enter Try.func33, Try.ntmps33
  go_wp2
  all_goals (go_ret2; exact ⟨ret_two (iv (by rw [HF.out]; have k1 := HW.out; clear HF HW; simp_all)) (iv rfl), rfl⟩)
set_option maxHeartbeats 1000000 in
theorem mod_z (x y : Int) (w : World)  (hy : y = 0) :
    Calls Try.prog 34 #[.int .i64 x, .int .i64 y] w fun e w' => e = .returned (.tuple #[.int .i64 (0), .int .i64 (13)]) ∧ w = w' := by
  subst hy
  go_enter Try.func34, Try.ntmps34
  go_wp2
  all_goals (go_ret2; exact ⟨ret_two (iv (by (first | rfl | omega | ((try unfold fit); (try unfold fitE); (try unfold tr); (try unfold inr); (try unfold wrap64); (try unfold wrap64 at *); simp_all <;> omega)))) (iv (by (first | rfl | omega | ((try unfold fit); (try unfold fitE); (try unfold tr); (try unfold inr); (try unfold wrap64); (try unfold wrap64 at *); simp_all <;> omega)))), rfl⟩)
set_option maxHeartbeats 1000000 in
theorem mod_any (x y : Int) (w : World) (x0 : -9223372036854775808 ≤ x) (x1 : x ≤ 9223372036854775807) (y0 : -9223372036854775808 ≤ y) (y1 : y ≤ 9223372036854775807) (hy : y ≠ 0) :
    Calls Try.prog 34 #[.int .i64 x, .int .i64 y] w fun e w' => e = .returned (.tuple #[.int .i64 (x.fmod y), .int .i64 (0)]) ∧ w = w' := by
  have hz : (y == 0) = false := by simpa using hy
  have HB := Lib.hid (tmod_bd x y hy)
  have HF := Lib.hid (fmod_of x y hy)
  go_enter Try.func34, Try.ntmps34
  go_wp2
  all_goals (go_ret2; exact ⟨ret_two (iv (by rw [HF.out]; have k1 := HB.out; clear HF HB; generalize x.tmod y = r at *; simp_all <;> (unfold wrap64; omega))) (iv rfl), rfl⟩)
theorem mul_any (x y : Int) (w : World) (x0 : -9223372036854775808 ≤ x) (x1 : x ≤ 9223372036854775807) (y0 : -9223372036854775808 ≤ y) (y1 : y ≤ 9223372036854775807) :
    Calls Try.prog 32 #[.int .i64 x, .int .i64 y] w fun e w' => e = .returned (.tuple #[.int .i64 (fit (x * y)), .int .i64 (fitE (x * y))]) ∧ w = w' := by
  by_cases hy : y = 0
  · subst hy; rw [Int.mul_zero]; exact mul_z x 0 w rfl
  · by_cases hy1 : y = -1
    · subst hy1; rw [show x * -1 = -x by omega]; exact mul_n x (-1) w x0 x1 rfl
    · cases h : inr (x * y) with
      | true => rw [(fit_in h).1, (fit_in h).2]; exact mul_in x y w x0 x1 hy hy1 h
      | false => rw [(fit_out h).1, (fit_out h).2]; exact mul_out x y w y0 y1 hy hy1 h
theorem div_two (x y : Int) (w : World) (x0 : -9223372036854775808 ≤ x) (x1 : x ≤ 9223372036854775807) (hy : y ≠ 0) :
    Calls Try.prog 33 #[.int .i64 x, .int .i64 y] w fun e w' => e = .returned (.tuple #[.int .i64 (fit (x.fdiv y)), .int .i64 (fitE (x.fdiv y))]) ∧ w = w' := by
  by_cases hy1 : y = -1
  · subst hy1; rw [show x.fdiv (-1) = -x by rw [fdiv_of x (-1) (by decide)]; simp]; exact div_n x (-1) w x0 x1 rfl
  · have h := fdiv_in x y hy hy1 x0 x1
    rw [(fit_in h).1, (fit_in h).2]; exact div_any x y w x0 x1 hy hy1
theorem orEnd_ok (n : Int) (b : Bool) (w : World) :
    Calls Try.prog 54 #[.int .i64 n, .int .i64 0, .bool b] w fun e w' => e = .returned (.tuple #[.int .i64 n, .int .i64 0]) ∧ w = w' := by
  go_enter Try.func54, Try.ntmps54
  go_wp2
  all_goals (go_ret2; exact ⟨rfl, rfl⟩)
theorem orEnd_bad (n : Int) (b : Bool) (w : World) :
    Calls Try.prog 54 #[.int .i64 n, .int .i64 12, .bool b] w fun e w' => e = .returned (.tuple #[.int .i64 (if b = true then -9223372036854775808 else 9223372036854775807), .int .i64 0]) ∧ w = w' := by
  cases b <;> (go_enter Try.func54, Try.ntmps54; go_wp2; go_ret2; exact ⟨rfl, rfl⟩)
set_option maxHeartbeats 1000000 in
theorem plus_any (x y : Int) (w : World) (x0 : -9223372036854775808 ≤ x) (x1 : x ≤ 9223372036854775807) (y0 : -9223372036854775808 ≤ y) (y1 : y ≤ 9223372036854775807) :
    Calls Try.prog 35 #[.int .i64 x, .int .i64 y] w fun e w' => e = .returned (.tuple #[.int .i64 (clp (x + y)), .int .i64 (0)]) ∧ w = w' := by
  have HC : Hid (∀ W, Calls Try.prog 30 #[.int .i64 x, .int .i64 y] W fun e w' => e = .returned (.tuple #[.int .i64 (fit (x + y)), .int .i64 (fitE (x + y))]) ∧ W = w') := fun W => add_any x y W x0 x1 y0 y1
  cases h : inr (x + y) with
  | true =>
    rw [(fit_in h).1, (fit_in h).2] at HC
    have HI := Lib.hid (inr_iff.1 h)
    clear h
    go_enter Try.func35, Try.ntmps35
    go_wp2_with (first | (go_at_call 54; refine (orEnd_ok _ _ _).mono ?_; rintro e w' ⟨rfl, rfl⟩) | (go_at_call 30; refine (HC.out _).mono ?_; rintro e w' ⟨rfl, rfl⟩))
    all_goals (go_ret2; exact ⟨ret_two (iv (by have hi := HI.out; clear HI HC; unfold clp; split <;> (try split) <;> (try split) <;> (try simp_all) <;> omega)) (iv rfl), rfl⟩)
  | false =>
    rw [(fit_out h).1, (fit_out h).2] at HC
    have HI := Lib.hid (inr_not.1 h)
    clear h
    go_enter Try.func35, Try.ntmps35
    go_wp2_with (first | (go_at_call 54; refine (orEnd_bad _ _ _).mono ?_; rintro e w' ⟨rfl, rfl⟩) | (go_at_call 30; refine (HC.out _).mono ?_; rintro e w' ⟨rfl, rfl⟩))
    all_goals (go_ret2; exact ⟨ret_two (iv (by have hi := HI.out; clear HI HC; unfold clp; split <;> (try split) <;> (try split) <;> (try simp_all) <;> omega)) (iv rfl), rfl⟩)
set_option maxHeartbeats 1000000 in
theorem minus_any (x y : Int) (w : World) (x0 : -9223372036854775808 ≤ x) (x1 : x ≤ 9223372036854775807) (y0 : -9223372036854775808 ≤ y) (y1 : y ≤ 9223372036854775807) :
    Calls Try.prog 36 #[.int .i64 x, .int .i64 y] w fun e w' => e = .returned (.tuple #[.int .i64 (clp (x - y)), .int .i64 (0)]) ∧ w = w' := by
  have HC : Hid (∀ W, Calls Try.prog 31 #[.int .i64 x, .int .i64 y] W fun e w' => e = .returned (.tuple #[.int .i64 (fit (x - y)), .int .i64 (fitE (x - y))]) ∧ W = w') := fun W => sub_any x y W x0 x1 y0 y1
  cases h : inr (x - y) with
  | true =>
    rw [(fit_in h).1, (fit_in h).2] at HC
    have HI := Lib.hid (inr_iff.1 h)
    clear h
    go_enter Try.func36, Try.ntmps36
    go_wp2_with (first | (go_at_call 54; refine (orEnd_ok _ _ _).mono ?_; rintro e w' ⟨rfl, rfl⟩) | (go_at_call 31; refine (HC.out _).mono ?_; rintro e w' ⟨rfl, rfl⟩))
    all_goals (go_ret2; exact ⟨ret_two (iv (by have hi := HI.out; clear HI HC; unfold clp; split <;> (try split) <;> (try split) <;> (try simp_all) <;> omega)) (iv rfl), rfl⟩)
  | false =>
    rw [(fit_out h).1, (fit_out h).2] at HC
    have HI := Lib.hid (inr_not.1 h)
    clear h
    go_enter Try.func36, Try.ntmps36
    go_wp2_with (first | (go_at_call 54; refine (orEnd_bad _ _ _).mono ?_; rintro e w' ⟨rfl, rfl⟩) | (go_at_call 31; refine (HC.out _).mono ?_; rintro e w' ⟨rfl, rfl⟩))
    all_goals (go_ret2; exact ⟨ret_two (iv (by have hi := HI.out; clear HI HC; unfold clp; split <;> (try split) <;> (try split) <;> (try simp_all) <;> omega)) (iv rfl), rfl⟩)
set_option maxHeartbeats 1000000 in
theorem times_any (x y : Int) (w : World) (x0 : -9223372036854775808 ≤ x) (x1 : x ≤ 9223372036854775807) (y0 : -9223372036854775808 ≤ y) (y1 : y ≤ 9223372036854775807) :
    Calls Try.prog 37 #[.int .i64 x, .int .i64 y] w fun e w' => e = .returned (.tuple #[.int .i64 (clp (x * y)), .int .i64 (0)]) ∧ w = w' := by
  have HC : Hid (∀ W, Calls Try.prog 32 #[.int .i64 x, .int .i64 y] W fun e w' => e = .returned (.tuple #[.int .i64 (fit (x * y)), .int .i64 (fitE (x * y))]) ∧ W = w') := fun W => mul_any x y W x0 x1 y0 y1
  have HS : Hid ((x < 0 → y < 0 → 0 ≤ x * y) ∧ (0 ≤ x → 0 ≤ y → 0 ≤ x * y) ∧ (x < 0 → 0 ≤ y → x * y ≤ 0) ∧ (0 ≤ x → y < 0 → x * y ≤ 0)) := ⟨fun a b => Int.mul_nonneg_of_nonpos_of_nonpos (by omega) (by omega), fun a b => Int.mul_nonneg a b, fun a b => Int.mul_nonpos_of_nonpos_of_nonneg (by omega) b, fun a b => Int.mul_nonpos_of_nonneg_of_nonpos a (by omega)⟩
  generalize x * y = m at HC HS ⊢
  cases h : inr (m) with
  | true =>
    rw [(fit_in h).1, (fit_in h).2] at HC
    have HI := Lib.hid (inr_iff.1 h)
    clear h
    go_enter Try.func37, Try.ntmps37
    go_wp2_with (first | (go_at_call 54; refine (orEnd_ok _ _ _).mono ?_; rintro e w' ⟨rfl, rfl⟩) | (go_at_call 32; refine (HC.out _).mono ?_; rintro e w' ⟨rfl, rfl⟩))
    all_goals (go_ret2; exact ⟨ret_two (iv (by have hi := HI.out; clear HI HC ; have hs := HS.out; clear HS; unfold clp; split <;> (try split) <;> (try split) <;> (try simp_all) <;> omega)) (iv rfl), rfl⟩)
  | false =>
    rw [(fit_out h).1, (fit_out h).2] at HC
    have HI := Lib.hid (inr_not.1 h)
    clear h
    go_enter Try.func37, Try.ntmps37
    go_wp2_with (first | (go_at_call 54; refine (orEnd_bad _ _ _).mono ?_; rintro e w' ⟨rfl, rfl⟩) | (go_at_call 32; refine (HC.out _).mono ?_; rintro e w' ⟨rfl, rfl⟩))
    all_goals (go_ret2; exact ⟨ret_two (iv (by have hi := HI.out; clear HI HC ; have hs := HS.out; clear HS; unfold clp; split <;> (try split) <;> (try split) <;> (try simp_all) <;> omega)) (iv rfl), rfl⟩)
end Go.Proofs.Ytbjongajpppfjaa
