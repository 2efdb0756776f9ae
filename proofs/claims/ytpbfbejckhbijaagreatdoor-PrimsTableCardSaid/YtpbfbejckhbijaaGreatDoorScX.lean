/- Several texts as one (a claim has at most 60 files): ScA, ScB, ScC, ScD, ScE. -/
import Derived.Test.YtpbfbejckhbijaaGreatDoorRows
import Derived.WalkKit
import Derived.WalkSpells
import Derived.WalkLawsBesides
import Derived.Lib.Hide
import Derived.Laws.EntriesVeiled
import Derived.Deep.Cut
namespace Go.Proofs.YtpbfbejckhbijaaGreatDoor.Sc
open Go.RowKit

/-- A number of 64 bits. -/
def inr (z : Int) : Bool := decide (-9223372036854775808 ≤ z ∧ z ≤ 9223372036854775807)
def fit (z : Int) : Int := if inr z = true then z else 0
def fitE (z : Int) : Int := if inr z = true then 0 else 12
def clp (z : Int) : Int := if z < -9223372036854775808 then -9223372036854775808 else if 9223372036854775807 < z then 9223372036854775807 else z
def tr (b : Bool) : Int := if b = true then 1 else 0
theorem inr_iff {z : Int} : inr z = true ↔ -9223372036854775808 ≤ z ∧ z ≤ 9223372036854775807 := by simp [inr]
theorem inr_not {z : Int} : inr z = false ↔ ¬ (-9223372036854775808 ≤ z ∧ z ≤ 9223372036854775807) := by simp [inr]
theorem fit_in {z : Int} (h : inr z = true) : fit z = z ∧ fitE z = 0 := by simp [fit, fitE, h]
theorem fit_out {z : Int} (h : inr z = false) : fit z = 0 ∧ fitE z = 12 := by simp [fit, fitE, h]
theorem ret_two {a b c d : Value} (h : a = c) (k : b = d) : Ending.returned (.tuple #[a, b]) = .returned (.tuple #[c, d]) := by rw [h, k]
theorem iv {k : IntKind} {a b : Int} (h : a = b) : Value.int k a = Value.int k b := by rw [h]
theorem ret_bool {a b : Bool} (h : a = b) : Ending.returned (.bool a) = .returned (.bool b) := by rw [h]

/-- What wraps, divided again, tells whether a product is a number. -/
theorem mul_back (x y : Int) (hy : y ≠ 0) (y0 : -9223372036854775808 ≤ y) (y1 : y ≤ 9223372036854775807) :
    (wrap64 (x * y)).tdiv y = x → inr (x * y) = true := by
  intro h
  have h1 := Int.mul_tdiv_add_tmod (wrap64 (x * y)) y
  have h2 : -(y.natAbs : Int) < (wrap64 (x * y)).tmod y ∧ (wrap64 (x * y)).tmod y < (y.natAbs : Int) := by
    have := Int.natAbs_tmod (wrap64 (x * y)) y
    have := Nat.mod_lt (wrap64 (x * y)).natAbs (show 0 < y.natAbs by omega)
    omega
  rw [h] at h1
  have h3 : y * x = x * y := Int.mul_comm y x
  rw [h3] at h1
  rw [inr_iff]
  generalize x * y = m at h1 h2 ⊢
  generalize (wrap64 m).tmod y = r at h1 h2
  unfold wrap64 at h1
  omega
theorem mul_fore (x y : Int) (hy : y ≠ 0) (h : inr (x * y) = true) : (wrap64 (x * y)).tdiv y = x := by
  rw [inr_iff] at h
  rw [show wrap64 (x * y) = x * y by unfold wrap64; omega]
  exact Int.mul_tdiv_cancel x hy
/-- Floor division out of Go's. -/
theorem fdiv_of (x y : Int) (hy : y ≠ 0) : x.fdiv y = if (x.tmod y != 0 && (decide (x < 0) != decide (y < 0))) = true then x.tdiv y - 1 else x.tdiv y := by
  rw [Int.fdiv_eq_tdiv]
  by_cases h : y ∣ x
  · have h0 := Int.dvd_iff_tmod_eq_zero.1 h
    simp [h, h0]
  · have h0 : x.tmod y ≠ 0 := fun k => h (Int.dvd_iff_tmod_eq_zero.2 k)
    simp only [h, if_false]
    have h1 : (x.tmod y != 0) = true := by simpa using h0
    rw [h1, Bool.true_and]
    have hs : 0 < y → y.sign = 1 := Int.sign_eq_one_of_pos
    have ht : y < 0 → y.sign = -1 := Int.sign_eq_neg_one_of_neg
    by_cases hx : x < 0 <;> by_cases hz : y < 0
    · rw [if_neg (by omega : ¬ 0 ≤ x), if_neg (by omega : ¬ 0 ≤ y), ht hz]; simp [hx, hz]
    · rw [if_neg (by omega : ¬ 0 ≤ x), if_pos (by omega : 0 ≤ y), hs (by omega)]; simp [hx, hz]
    · rw [if_pos (by omega : 0 ≤ x), if_neg (by omega : ¬ 0 ≤ y)]; simp [hx, hz]
    · rw [if_pos (by omega : 0 ≤ x), if_pos (by omega : 0 ≤ y)]; simp [hx, hz]
theorem fmod_of (x y : Int) (_hy : y ≠ 0) : x.fmod y = if (x.tmod y != 0 && (decide (x < 0) != decide (y < 0))) = true then x.tmod y + y else x.tmod y := by
  rw [Int.fmod_eq_tmod]
  by_cases h : y ∣ x
  · have h0 := Int.dvd_iff_tmod_eq_zero.1 h
    simp [h, h0]
  · have h0 : x.tmod y ≠ 0 := fun k => h (Int.dvd_iff_tmod_eq_zero.2 k)
    simp only [h, if_false]
    have h1 : (x.tmod y != 0) = true := by simpa using h0
    rw [h1, Bool.true_and]
    by_cases hx : x < 0 <;> by_cases hz : y < 0
    · rw [if_neg (by omega : ¬ 0 ≤ x), if_neg (by omega : ¬ 0 ≤ y)]; simp [hx, hz]; omega
    · rw [if_neg (by omega : ¬ 0 ≤ x), if_pos (by omega : 0 ≤ y)]; simp [hx, hz]; omega
    · rw [if_pos (by omega : 0 ≤ x), if_neg (by omega : ¬ 0 ≤ y)]; simp [hx, hz]
    · rw [if_pos (by omega : 0 ≤ x), if_pos (by omega : 0 ≤ y)]; simp [hx, hz]
/-- The quotient is a number but in one case. -/
theorem tdiv_bd (x y : Int) (hy : y ≠ 0) (hy1 : y ≠ -1) (x0 : -9223372036854775808 ≤ x) (x1 : x ≤ 9223372036854775807) :
    -9223372036854775808 ≤ x.tdiv y ∧ x.tdiv y ≤ 9223372036854775807 ∧ (x.tmod y ≠ 0 → -9223372036854775807 ≤ x.tdiv y) := by
  have h1 := Int.natAbs_tdiv x y
  by_cases h : y = 1
  · subst h; simp; omega
  · have h2 : x.natAbs.div y.natAbs ≤ x.natAbs / 2 := Nat.div_le_div_left (by omega) (by omega)
    have h3 : (x.tdiv y).natAbs ≤ x.natAbs / 2 := by rw [h1]; exact h2
    omega
theorem tmod_bd (x y : Int) (hy : y ≠ 0) : -(y.natAbs : Int) < x.tmod y ∧ x.tmod y < (y.natAbs : Int) ∧ (0 ≤ x → 0 ≤ x.tmod y) ∧ (x < 0 → x.tmod y ≤ 0) := by
  have := Int.natAbs_tmod x y
  have := Nat.mod_lt x.natAbs (show 0 < y.natAbs by omega)
  refine ⟨by omega, by omega, fun h => Int.tmod_nonneg _ h, fun h => ?_⟩
  have := Int.tmod_nonneg y (show 0 ≤ -x by omega)
  rw [Int.neg_tmod] at this
  omega
theorem fmod_bd (x y : Int) (hy : y ≠ 0) : (0 < y → 0 ≤ x.fmod y ∧ x.fmod y < y) ∧ (y < 0 → y < x.fmod y ∧ x.fmod y ≤ 0) := by
  have h := tmod_bd x y hy
  rw [fmod_of x y hy]
  split
  · rename_i k; simp at k; omega
  · rename_i k; simp at k; omega
theorem fdiv_in (x y : Int) (hy : y ≠ 0) (hy1 : y ≠ -1) (x0 : -9223372036854775808 ≤ x) (x1 : x ≤ 9223372036854775807) : inr (x.fdiv y) = true := by
  have hb := tdiv_bd x y hy hy1 x0 x1
  rw [fdiv_of x y hy, inr_iff]
  split
  · rename_i k; simp at k; omega
  · omega
end Go.Proofs.YtpbfbejckhbijaaGreatDoor.Sc
namespace Go.Proofs.YtpbfbejckhbijaaGreatDoor.Sc
open Go.RowKit
set_option maxHeartbeats 1000000 in
theorem neg_any (x : Int) (w : World) (x0 : -9223372036854775808 ≤ x) (x1 : x ≤ 9223372036854775807) :
    Calls Tryz.prog 156 #[.int .i64 x] w fun e w' => e = .returned (.tuple #[.int .i64 (fit (-x)), .int .i64 (fitE (-x))]) ∧ w = w' := by
  go_enter Tryz.func156, Tryz.ntmps156
  go_wp2
  all_goals (go_ret2; exact ⟨ret_two (iv (by (first | rfl | omega | ((try unfold fit); (try unfold fitE); (try unfold tr); (try unfold inr); (try unfold wrap64); (try unfold wrap64 at *); simp_all <;> omega)))) (iv (by (first | rfl | omega | ((try unfold fit); (try unfold fitE); (try unfold tr); (try unfold inr); (try unfold wrap64); (try unfold wrap64 at *); simp_all <;> omega)))), rfl⟩)
set_option maxHeartbeats 1000000 in
theorem abs_lo (x : Int) (w : World) (x0 : -9223372036854775808 ≤ x) (x1 : x ≤ 9223372036854775807) (h : x < 0) :
    Calls Tryz.prog 157 #[.int .i64 x] w fun e w' => e = .returned (.tuple #[.int .i64 (fit (-x)), .int .i64 (fitE (-x))]) ∧ w = w' := by
  go_enter Tryz.func157, Tryz.ntmps157
  go_wp2
  all_goals (go_ret2; exact ⟨ret_two (iv (by (first | rfl | omega | ((try unfold fit); (try unfold fitE); (try unfold tr); (try unfold inr); (try unfold wrap64); (try unfold wrap64 at *); simp_all <;> omega)))) (iv (by (first | rfl | omega | ((try unfold fit); (try unfold fitE); (try unfold tr); (try unfold inr); (try unfold wrap64); (try unfold wrap64 at *); simp_all <;> omega)))), rfl⟩)
set_option maxHeartbeats 1000000 in
theorem abs_hi (x : Int) (w : World) (x0 : -9223372036854775808 ≤ x) (x1 : x ≤ 9223372036854775807) (h : 0 ≤ x) :
    Calls Tryz.prog 157 #[.int .i64 x] w fun e w' => e = .returned (.tuple #[.int .i64 (x), .int .i64 (0)]) ∧ w = w' := by
  go_enter Tryz.func157, Tryz.ntmps157
  go_wp2
  all_goals (go_ret2; exact ⟨ret_two (iv (by (first | rfl | omega | ((try unfold fit); (try unfold fitE); (try unfold tr); (try unfold inr); (try unfold wrap64); (try unfold wrap64 at *); simp_all <;> omega)))) (iv (by (first | rfl | omega | ((try unfold fit); (try unfold fitE); (try unfold tr); (try unfold inr); (try unfold wrap64); (try unfold wrap64 at *); simp_all <;> omega)))), rfl⟩)
set_option maxHeartbeats 1000000 in
theorem not_any (x : Int) (w : World)  :
    Calls Tryz.prog 158 #[.int .i64 x] w fun e w' => e = .returned (.tuple #[.int .i64 (tr (x == 0)), .int .i64 (0)]) ∧ w = w' := by
  go_enter Tryz.func158, Tryz.ntmps158
  go_wp2
  all_goals (go_ret2; exact ⟨ret_two (iv (by (first | rfl | omega | ((try unfold fit); (try unfold fitE); (try unfold tr); (try unfold inr); (try unfold wrap64); (try unfold wrap64 at *); simp_all <;> omega)))) (iv (by (first | rfl | omega | ((try unfold fit); (try unfold fitE); (try unfold tr); (try unfold inr); (try unfold wrap64); (try unfold wrap64 at *); simp_all <;> omega)))), rfl⟩)
set_option maxHeartbeats 1000000 in
theorem add_any (x y : Int) (w : World) (x0 : -9223372036854775808 ≤ x) (x1 : x ≤ 9223372036854775807) (y0 : -9223372036854775808 ≤ y) (y1 : y ≤ 9223372036854775807) :
    Calls Tryz.prog 159 #[.int .i64 x, .int .i64 y] w fun e w' => e = .returned (.tuple #[.int .i64 (fit (x + y)), .int .i64 (fitE (x + y))]) ∧ w = w' := by
  go_enter Tryz.func159, Tryz.ntmps159
  go_wp2
  all_goals (go_ret2; exact ⟨ret_two (iv (by (first | rfl | omega | ((try unfold fit); (try unfold fitE); (try unfold tr); (try unfold inr); (try unfold wrap64); (try unfold wrap64 at *); simp_all <;> omega)))) (iv (by (first | rfl | omega | ((try unfold fit); (try unfold fitE); (try unfold tr); (try unfold inr); (try unfold wrap64); (try unfold wrap64 at *); simp_all <;> omega)))), rfl⟩)
set_option maxHeartbeats 1000000 in
theorem sub_any (x y : Int) (w : World) (x0 : -9223372036854775808 ≤ x) (x1 : x ≤ 9223372036854775807) (y0 : -9223372036854775808 ≤ y) (y1 : y ≤ 9223372036854775807) :
    Calls Tryz.prog 160 #[.int .i64 x, .int .i64 y] w fun e w' => e = .returned (.tuple #[.int .i64 (fit (x - y)), .int .i64 (fitE (x - y))]) ∧ w = w' := by
  go_enter Tryz.func160, Tryz.ntmps160
  go_wp2
  all_goals (go_ret2; exact ⟨ret_two (iv (by (first | rfl | omega | ((try unfold fit); (try unfold fitE); (try unfold tr); (try unfold inr); (try unfold wrap64); (try unfold wrap64 at *); simp_all <;> omega)))) (iv (by (first | rfl | omega | ((try unfold fit); (try unfold fitE); (try unfold tr); (try unfold inr); (try unfold wrap64); (try unfold wrap64 at *); simp_all <;> omega)))), rfl⟩)
set_option maxHeartbeats 1000000 in
theorem eq_any (x y : Int) (w : World)  :
    Calls Tryz.prog 167 #[.int .i64 x, .int .i64 y] w fun e w' => e = .returned (.tuple #[.int .i64 (tr (x == y)), .int .i64 (0)]) ∧ w = w' := by
  go_enter Tryz.func167, Tryz.ntmps167
  go_wp2
  all_goals (go_ret2; exact ⟨ret_two (iv (by (first | rfl | omega | ((try unfold fit); (try unfold fitE); (try unfold tr); (try unfold inr); (try unfold wrap64); (try unfold wrap64 at *); simp_all <;> omega)))) (iv (by (first | rfl | omega | ((try unfold fit); (try unfold fitE); (try unfold tr); (try unfold inr); (try unfold wrap64); (try unfold wrap64 at *); simp_all <;> omega)))), rfl⟩)
set_option maxHeartbeats 1000000 in
theorem ne_any (x y : Int) (w : World)  :
    Calls Tryz.prog 168 #[.int .i64 x, .int .i64 y] w fun e w' => e = .returned (.tuple #[.int .i64 (tr (x != y)), .int .i64 (0)]) ∧ w = w' := by
  go_enter Tryz.func168, Tryz.ntmps168
  go_wp2
  all_goals (go_ret2; exact ⟨ret_two (iv (by (first | rfl | omega | ((try unfold fit); (try unfold fitE); (try unfold tr); (try unfold inr); (try unfold wrap64); (try unfold wrap64 at *); simp_all <;> omega)))) (iv (by (first | rfl | omega | ((try unfold fit); (try unfold fitE); (try unfold tr); (try unfold inr); (try unfold wrap64); (try unfold wrap64 at *); simp_all <;> omega)))), rfl⟩)
set_option maxHeartbeats 1000000 in
theorem lt_any (x y : Int) (w : World)  :
    Calls Tryz.prog 169 #[.int .i64 x, .int .i64 y] w fun e w' => e = .returned (.tuple #[.int .i64 (tr (decide (x < y))), .int .i64 (0)]) ∧ w = w' := by
  go_enter Tryz.func169, Tryz.ntmps169
  go_wp2
  all_goals (go_ret2; exact ⟨ret_two (iv (by (first | rfl | omega | ((try unfold fit); (try unfold fitE); (try unfold tr); (try unfold inr); (try unfold wrap64); (try unfold wrap64 at *); simp_all <;> omega)))) (iv (by (first | rfl | omega | ((try unfold fit); (try unfold fitE); (try unfold tr); (try unfold inr); (try unfold wrap64); (try unfold wrap64 at *); simp_all <;> omega)))), rfl⟩)
set_option maxHeartbeats 1000000 in
theorem le_any (x y : Int) (w : World)  :
    Calls Tryz.prog 170 #[.int .i64 x, .int .i64 y] w fun e w' => e = .returned (.tuple #[.int .i64 (tr (decide (x ≤ y))), .int .i64 (0)]) ∧ w = w' := by
  go_enter Tryz.func170, Tryz.ntmps170
  go_wp2
  all_goals (go_ret2; exact ⟨ret_two (iv (by (first | rfl | omega | ((try unfold fit); (try unfold fitE); (try unfold tr); (try unfold inr); (try unfold wrap64); (try unfold wrap64 at *); simp_all <;> omega)))) (iv (by (first | rfl | omega | ((try unfold fit); (try unfold fitE); (try unfold tr); (try unfold inr); (try unfold wrap64); (try unfold wrap64 at *); simp_all <;> omega)))), rfl⟩)
set_option maxHeartbeats 1000000 in
theorem gt_any (x y : Int) (w : World)  :
    Calls Tryz.prog 171 #[.int .i64 x, .int .i64 y] w fun e w' => e = .returned (.tuple #[.int .i64 (tr (decide (y < x))), .int .i64 (0)]) ∧ w = w' := by
  go_enter Tryz.func171, Tryz.ntmps171
  go_wp2
  all_goals (go_ret2; exact ⟨ret_two (iv (by (first | rfl | omega | ((try unfold fit); (try unfold fitE); (try unfold tr); (try unfold inr); (try unfold wrap64); (try unfold wrap64 at *); simp_all <;> omega)))) (iv (by (first | rfl | omega | ((try unfold fit); (try unfold fitE); (try unfold tr); (try unfold inr); (try unfold wrap64); (try unfold wrap64 at *); simp_all <;> omega)))), rfl⟩)
set_option maxHeartbeats 1000000 in
theorem ge_any (x y : Int) (w : World)  :
    Calls Tryz.prog 172 #[.int .i64 x, .int .i64 y] w fun e w' => e = .returned (.tuple #[.int .i64 (tr (decide (y ≤ x))), .int .i64 (0)]) ∧ w = w' := by
  go_enter Tryz.func172, Tryz.ntmps172
  go_wp2
  all_goals (go_ret2; exact ⟨ret_two (iv (by (first | rfl | omega | ((try unfold fit); (try unfold fitE); (try unfold tr); (try unfold inr); (try unfold wrap64); (try unfold wrap64 at *); simp_all <;> omega)))) (iv (by (first | rfl | omega | ((try unfold fit); (try unfold fitE); (try unfold tr); (try unfold inr); (try unfold wrap64); (try unfold wrap64 at *); simp_all <;> omega)))), rfl⟩)
set_option maxHeartbeats 1000000 in
theorem and_any (x y : Int) (w : World)  :
    Calls Tryz.prog 173 #[.int .i64 x, .int .i64 y] w fun e w' => e = .returned (.tuple #[.int .i64 (tr (x != 0 && y != 0)), .int .i64 (0)]) ∧ w = w' := by
  go_enter Tryz.func173, Tryz.ntmps173
  go_wp2
  all_goals (go_ret2; exact ⟨ret_two (iv (by (first | rfl | omega | ((try unfold fit); (try unfold fitE); (try unfold tr); (try unfold inr); (try unfold wrap64); (try unfold wrap64 at *); simp_all <;> omega)))) (iv (by (first | rfl | omega | ((try unfold fit); (try unfold fitE); (try unfold tr); (try unfold inr); (try unfold wrap64); (try unfold wrap64 at *); simp_all <;> omega)))), rfl⟩)
set_option maxHeartbeats 1000000 in
theorem sor_any (x y : Int) (w : World)  :
    Calls Tryz.prog 174 #[.int .i64 x, .int .i64 y] w fun e w' => e = .returned (.tuple #[.int .i64 (tr (x != 0 || y != 0)), .int .i64 (0)]) ∧ w = w' := by
  go_enter Tryz.func174, Tryz.ntmps174
  go_wp2
  all_goals (go_ret2; exact ⟨ret_two (iv (by (first | rfl | omega | ((try unfold fit); (try unfold fitE); (try unfold tr); (try unfold inr); (try unfold wrap64); (try unfold wrap64 at *); simp_all <;> omega)))) (iv (by (first | rfl | omega | ((try unfold fit); (try unfold fitE); (try unfold tr); (try unfold inr); (try unfold wrap64); (try unfold wrap64 at *); simp_all <;> omega)))), rfl⟩)
set_option maxHeartbeats 1000000 in
theorem smin_any (x y : Int) (w : World)  :
    Calls Tryz.prog 175 #[.int .i64 x, .int .i64 y] w fun e w' => e = .returned (.tuple #[.int .i64 (min x y), .int .i64 (0)]) ∧ w = w' := by
  go_enter Tryz.func175, Tryz.ntmps175
  go_wp2
  all_goals (go_ret2; exact ⟨ret_two (iv (by (first | rfl | omega | ((try unfold fit); (try unfold fitE); (try unfold tr); (try unfold inr); (try unfold wrap64); (try unfold wrap64 at *); simp_all <;> omega)))) (iv (by (first | rfl | omega | ((try unfold fit); (try unfold fitE); (try unfold tr); (try unfold inr); (try unfold wrap64); (try unfold wrap64 at *); simp_all <;> omega)))), rfl⟩)
set_option maxHeartbeats 1000000 in
theorem smax_any (x y : Int) (w : World)  :
    Calls Tryz.prog 176 #[.int .i64 x, .int .i64 y] w fun e w' => e = .returned (.tuple #[.int .i64 (max x y), .int .i64 (0)]) ∧ w = w' := by
  go_enter Tryz.func176, Tryz.ntmps176
  go_wp2
  all_goals (go_ret2; exact ⟨ret_two (iv (by (first | rfl | omega | ((try unfold fit); (try unfold fitE); (try unfold tr); (try unfold inr); (try unfold wrap64); (try unfold wrap64 at *); simp_all <;> omega)))) (iv (by (first | rfl | omega | ((try unfold fit); (try unfold fitE); (try unfold tr); (try unfold inr); (try unfold wrap64); (try unfold wrap64 at *); simp_all <;> omega)))), rfl⟩)
set_option maxHeartbeats 1000000 in
theorem mul_z (x y : Int) (w : World)  (hy : y = 0) :
    Calls Tryz.prog 161 #[.int .i64 x, .int .i64 y] w fun e w' => e = .returned (.tuple #[.int .i64 (0), .int .i64 (0)]) ∧ w = w' := by
  subst hy
  go_enter Tryz.func161, Tryz.ntmps161
  go_wp2
  all_goals (go_ret2; exact ⟨ret_two (iv (by (first | rfl | omega | ((try unfold fit); (try unfold fitE); (try unfold tr); (try unfold inr); (try unfold wrap64); (try unfold wrap64 at *); simp_all <;> omega)))) (iv (by (first | rfl | omega | ((try unfold fit); (try unfold fitE); (try unfold tr); (try unfold inr); (try unfold wrap64); (try unfold wrap64 at *); simp_all <;> omega)))), rfl⟩)
set_option maxHeartbeats 1000000 in
theorem mul_n (x y : Int) (w : World) (x0 : -9223372036854775808 ≤ x) (x1 : x ≤ 9223372036854775807) (hy : y = -1) :
    Calls Tryz.prog 161 #[.int .i64 x, .int .i64 y] w fun e w' => e = .returned (.tuple #[.int .i64 (fit (-x)), .int .i64 (fitE (-x))]) ∧ w = w' := by
  subst hy
  go_enter Tryz.func161, Tryz.ntmps161
  go_wp2
  all_goals (go_ret2; exact ⟨ret_two (iv (by (first | rfl | omega | ((try unfold fit); (try unfold fitE); (try unfold tr); (try unfold inr); (try unfold wrap64); (try unfold wrap64 at *); simp_all <;> omega)))) (iv (by (first | rfl | omega | ((try unfold fit); (try unfold fitE); (try unfold tr); (try unfold inr); (try unfold wrap64); (try unfold wrap64 at *); simp_all <;> omega)))), rfl⟩)
set_option maxHeartbeats 1000000 in
theorem mul_in (x y : Int) (w : World) (x0 : -9223372036854775808 ≤ x) (x1 : x ≤ 9223372036854775807) (hy : y ≠ 0) (hy1 : y ≠ -1) (h : inr (x * y) = true) :
    Calls Tryz.prog 161 #[.int .i64 x, .int .i64 y] w fun e w' => e = .returned (.tuple #[.int .i64 (x * y), .int .i64 (0)]) ∧ w = w' := by
  have hz : (y == 0) = false := by simpa using hy
  have hm : (y == -1) = false := by simpa using hy1
  have hw : wrap64 (x * y) = x * y := by rw [inr_iff] at h; unfold wrap64; omega
  have hd : (x * y).tdiv y = x := Int.mul_tdiv_cancel x hy
  have hx : wrap64 x = x := by unfold wrap64; omega
  go_enter Tryz.func161, Tryz.ntmps161
  go_wp2
  all_goals (go_ret2; exact ⟨ret_two (iv (by (first | rfl | omega | ((try unfold fit); (try unfold fitE); (try unfold tr); (try unfold inr); (try unfold wrap64); (try unfold wrap64 at *); simp_all <;> omega)))) (iv (by (first | rfl | omega | ((try unfold fit); (try unfold fitE); (try unfold tr); (try unfold inr); (try unfold wrap64); (try unfold wrap64 at *); simp_all <;> omega)))), rfl⟩)
set_option maxHeartbeats 1000000 in
theorem mul_out (x y : Int) (w : World)  (y0 : -9223372036854775808 ≤ y) (y1 : y ≤ 9223372036854775807) (hy : y ≠ 0) (hy1 : y ≠ -1) (h : inr (x * y) = false) :
    Calls Tryz.prog 161 #[.int .i64 x, .int .i64 y] w fun e w' => e = .returned (.tuple #[.int .i64 (0), .int .i64 (12)]) ∧ w = w' := by
  have hz : (y == 0) = false := by simpa using hy
  have hm : (y == -1) = false := by simpa using hy1
  have hq : (wrap64 ((wrap64 (x * y)).tdiv y) != x) = true := by
    rw [bne_iff_ne]
    intro k
    have hb := tdiv_bd (wrap64 (x * y)) y hy hy1 (by unfold wrap64; omega) (by unfold wrap64; omega)
    rw [show wrap64 ((wrap64 (x * y)).tdiv y) = (wrap64 (x * y)).tdiv y by clear k; generalize (wrap64 (x * y)).tdiv y = q at hb ⊢; unfold wrap64; omega] at k
    rw [mul_back x y hy y0 y1 k] at h
    cases h
  go_enter Tryz.func161, Tryz.ntmps161
  go_wp2
  all_goals (go_ret2; exact ⟨ret_two (iv (by (first | rfl | omega | ((try unfold fit); (try unfold fitE); (try unfold tr); (try unfold inr); (try unfold wrap64); (try unfold wrap64 at *); simp_all <;> omega)))) (iv (by (first | rfl | omega | ((try unfold fit); (try unfold fitE); (try unfold tr); (try unfold inr); (try unfold wrap64); (try unfold wrap64 at *); simp_all <;> omega)))), rfl⟩)
set_option maxHeartbeats 1000000 in
theorem div_z (x y : Int) (w : World)  (hy : y = 0) :
    Calls Tryz.prog 162 #[.int .i64 x, .int .i64 y] w fun e w' => e = .returned (.tuple #[.int .i64 (0), .int .i64 (13)]) ∧ w = w' := by
  subst hy
  go_enter Tryz.func162, Tryz.ntmps162
  go_wp2
  all_goals (go_ret2; exact ⟨ret_two (iv (by (first | rfl | omega | ((try unfold fit); (try unfold fitE); (try unfold tr); (try unfold inr); (try unfold wrap64); (try unfold wrap64 at *); simp_all <;> omega)))) (iv (by (first | rfl | omega | ((try unfold fit); (try unfold fitE); (try unfold tr); (try unfold inr); (try unfold wrap64); (try unfold wrap64 at *); simp_all <;> omega)))), rfl⟩)
set_option maxHeartbeats 1000000 in
theorem div_n (x y : Int) (w : World) (x0 : -9223372036854775808 ≤ x) (x1 : x ≤ 9223372036854775807) (hy : y = -1) :
    Calls Tryz.prog 162 #[.int .i64 x, .int .i64 y] w fun e w' => e = .returned (.tuple #[.int .i64 (fit (-x)), .int .i64 (fitE (-x))]) ∧ w = w' := by
  subst hy
  go_enter Tryz.func162, Tryz.ntmps162
  go_wp2
  all_goals (go_ret2; exact ⟨ret_two (iv (by (first | rfl | omega | ((try unfold fit); (try unfold fitE); (try unfold tr); (try unfold inr); (try unfold wrap64); (try unfold wrap64 at *); simp_all <;> omega)))) (iv (by (first | rfl | omega | ((try unfold fit); (try unfold fitE); (try unfold tr); (try unfold inr); (try unfold wrap64); (try unfold wrap64 at *); simp_all <;> omega)))), rfl⟩)
set_option maxHeartbeats 1000000 in
theorem div_any (x y : Int) (w : World) (x0 : -9223372036854775808 ≤ x) (x1 : x ≤ 9223372036854775807) (hy : y ≠ 0) (hy1 : y ≠ -1) :
    Calls Tryz.prog 162 #[.int .i64 x, .int .i64 y] w fun e w' => e = .returned (.tuple #[.int .i64 (x.fdiv y), .int .i64 (0)]) ∧ w = w' := by
  have hz : (y == 0) = false := by simpa using hy
  have hm : (y == -1) = false := by simpa using hy1
  have hb := tdiv_bd x y hy hy1 x0 x1
  have hf := fdiv_of x y hy
  have hw : wrap64 (x.tdiv y) = x.tdiv y := by unfold wrap64; omega
  have hw1 : x.tmod y ≠ 0 → wrap64 (x.tdiv y - 1) = x.tdiv y - 1 := by intro k; unfold wrap64; omega
  clear hb
  have HF := Lib.hid hf
  have HW := Lib.hid hw1
  clear hf hw1
  go_enter Tryz.func162, Tryz.ntmps162
  go_wp2
  all_goals (go_ret2; exact ⟨ret_two (iv (by rw [HF.out]; have k1 := HW.out; clear HF HW; simp_all)) (iv rfl), rfl⟩)
set_option maxHeartbeats 1000000 in
theorem mod_z (x y : Int) (w : World)  (hy : y = 0) :
    Calls Tryz.prog 163 #[.int .i64 x, .int .i64 y] w fun e w' => e = .returned (.tuple #[.int .i64 (0), .int .i64 (13)]) ∧ w = w' := by
  subst hy
  go_enter Tryz.func163, Tryz.ntmps163
  go_wp2
  all_goals (go_ret2; exact ⟨ret_two (iv (by (first | rfl | omega | ((try unfold fit); (try unfold fitE); (try unfold tr); (try unfold inr); (try unfold wrap64); (try unfold wrap64 at *); simp_all <;> omega)))) (iv (by (first | rfl | omega | ((try unfold fit); (try unfold fitE); (try unfold tr); (try unfold inr); (try unfold wrap64); (try unfold wrap64 at *); simp_all <;> omega)))), rfl⟩)
set_option maxHeartbeats 1000000 in
theorem mod_any (x y : Int) (w : World) (x0 : -9223372036854775808 ≤ x) (x1 : x ≤ 9223372036854775807) (y0 : -9223372036854775808 ≤ y) (y1 : y ≤ 9223372036854775807) (hy : y ≠ 0) :
    Calls Tryz.prog 163 #[.int .i64 x, .int .i64 y] w fun e w' => e = .returned (.tuple #[.int .i64 (x.fmod y), .int .i64 (0)]) ∧ w = w' := by
  have hz : (y == 0) = false := by simpa using hy
  have HB := Lib.hid (tmod_bd x y hy)
  have HF := Lib.hid (fmod_of x y hy)
  go_enter Tryz.func163, Tryz.ntmps163
  go_wp2
  all_goals (go_ret2; exact ⟨ret_two (iv (by rw [HF.out]; have k1 := HB.out; clear HF HB; generalize x.tmod y = r at *; simp_all <;> (unfold wrap64; omega))) (iv rfl), rfl⟩)
theorem mul_any (x y : Int) (w : World) (x0 : -9223372036854775808 ≤ x) (x1 : x ≤ 9223372036854775807) (y0 : -9223372036854775808 ≤ y) (y1 : y ≤ 9223372036854775807) :
    Calls Tryz.prog 161 #[.int .i64 x, .int .i64 y] w fun e w' => e = .returned (.tuple #[.int .i64 (fit (x * y)), .int .i64 (fitE (x * y))]) ∧ w = w' := by
  by_cases hy : y = 0
  · subst hy; rw [Int.mul_zero]; exact mul_z x 0 w rfl
  · by_cases hy1 : y = -1
    · subst hy1; rw [show x * -1 = -x by omega]; exact mul_n x (-1) w x0 x1 rfl
    · cases h : inr (x * y) with
      | true => rw [(fit_in h).1, (fit_in h).2]; exact mul_in x y w x0 x1 hy hy1 h
      | false => rw [(fit_out h).1, (fit_out h).2]; exact mul_out x y w y0 y1 hy hy1 h
theorem div_two (x y : Int) (w : World) (x0 : -9223372036854775808 ≤ x) (x1 : x ≤ 9223372036854775807) (hy : y ≠ 0) :
    Calls Tryz.prog 162 #[.int .i64 x, .int .i64 y] w fun e w' => e = .returned (.tuple #[.int .i64 (fit (x.fdiv y)), .int .i64 (fitE (x.fdiv y))]) ∧ w = w' := by
  by_cases hy1 : y = -1
  · subst hy1; rw [show x.fdiv (-1) = -x by rw [fdiv_of x (-1) (by decide)]; simp]; exact div_n x (-1) w x0 x1 rfl
  · have h := fdiv_in x y hy hy1 x0 x1
    rw [(fit_in h).1, (fit_in h).2]; exact div_any x y w x0 x1 hy hy1
theorem orEnd_ok (n : Int) (b : Bool) (w : World) :
    Calls Tryz.prog 190 #[.int .i64 n, .int .i64 0, .bool b] w fun e w' => e = .returned (.tuple #[.int .i64 n, .int .i64 0]) ∧ w = w' := by
  go_enter Tryz.func190, Tryz.ntmps190
  go_wp2
  all_goals (go_ret2; exact ⟨rfl, rfl⟩)
theorem orEnd_bad (n : Int) (b : Bool) (w : World) :
    Calls Tryz.prog 190 #[.int .i64 n, .int .i64 12, .bool b] w fun e w' => e = .returned (.tuple #[.int .i64 (if b = true then -9223372036854775808 else 9223372036854775807), .int .i64 0]) ∧ w = w' := by
  cases b <;> (go_enter Tryz.func190, Tryz.ntmps190; go_wp2; go_ret2; exact ⟨rfl, rfl⟩)
set_option maxHeartbeats 1000000 in
theorem plus_any (x y : Int) (w : World) (x0 : -9223372036854775808 ≤ x) (x1 : x ≤ 9223372036854775807) (y0 : -9223372036854775808 ≤ y) (y1 : y ≤ 9223372036854775807) :
    Calls Tryz.prog 164 #[.int .i64 x, .int .i64 y] w fun e w' => e = .returned (.tuple #[.int .i64 (clp (x + y)), .int .i64 (0)]) ∧ w = w' := by
  have HC : Hid (∀ W, Calls Tryz.prog 159 #[.int .i64 x, .int .i64 y] W fun e w' => e = .returned (.tuple #[.int .i64 (fit (x + y)), .int .i64 (fitE (x + y))]) ∧ W = w') := fun W => add_any x y W x0 x1 y0 y1
  cases h : inr (x + y) with
  | true =>
    rw [(fit_in h).1, (fit_in h).2] at HC
    have HI := Lib.hid (inr_iff.1 h)
    clear h
    go_enter Tryz.func164, Tryz.ntmps164
    go_wp2_with (first | (go_at_call 190; refine (orEnd_ok _ _ _).mono ?_; rintro e w' ⟨rfl, rfl⟩) | (go_at_call 159; refine (HC.out _).mono ?_; rintro e w' ⟨rfl, rfl⟩))
    all_goals (go_ret2; exact ⟨ret_two (iv (by have hi := HI.out; clear HI HC; unfold clp; split <;> (try split) <;> (try split) <;> (try simp_all) <;> omega)) (iv rfl), rfl⟩)
  | false =>
    rw [(fit_out h).1, (fit_out h).2] at HC
    have HI := Lib.hid (inr_not.1 h)
    clear h
    go_enter Tryz.func164, Tryz.ntmps164
    go_wp2_with (first | (go_at_call 190; refine (orEnd_bad _ _ _).mono ?_; rintro e w' ⟨rfl, rfl⟩) | (go_at_call 159; refine (HC.out _).mono ?_; rintro e w' ⟨rfl, rfl⟩))
    all_goals (go_ret2; exact ⟨ret_two (iv (by have hi := HI.out; clear HI HC; unfold clp; split <;> (try split) <;> (try split) <;> (try simp_all) <;> omega)) (iv rfl), rfl⟩)
set_option maxHeartbeats 1000000 in
theorem minus_any (x y : Int) (w : World) (x0 : -9223372036854775808 ≤ x) (x1 : x ≤ 9223372036854775807) (y0 : -9223372036854775808 ≤ y) (y1 : y ≤ 9223372036854775807) :
    Calls Tryz.prog 165 #[.int .i64 x, .int .i64 y] w fun e w' => e = .returned (.tuple #[.int .i64 (clp (x - y)), .int .i64 (0)]) ∧ w = w' := by
  have HC : Hid (∀ W, Calls Tryz.prog 160 #[.int .i64 x, .int .i64 y] W fun e w' => e = .returned (.tuple #[.int .i64 (fit (x - y)), .int .i64 (fitE (x - y))]) ∧ W = w') := fun W => sub_any x y W x0 x1 y0 y1
  cases h : inr (x - y) with
  | true =>
    rw [(fit_in h).1, (fit_in h).2] at HC
    have HI := Lib.hid (inr_iff.1 h)
    clear h
    go_enter Tryz.func165, Tryz.ntmps165
    go_wp2_with (first | (go_at_call 190; refine (orEnd_ok _ _ _).mono ?_; rintro e w' ⟨rfl, rfl⟩) | (go_at_call 160; refine (HC.out _).mono ?_; rintro e w' ⟨rfl, rfl⟩))
    all_goals (go_ret2; exact ⟨ret_two (iv (by have hi := HI.out; clear HI HC; unfold clp; split <;> (try split) <;> (try split) <;> (try simp_all) <;> omega)) (iv rfl), rfl⟩)
  | false =>
    rw [(fit_out h).1, (fit_out h).2] at HC
    have HI := Lib.hid (inr_not.1 h)
    clear h
    go_enter Tryz.func165, Tryz.ntmps165
    go_wp2_with (first | (go_at_call 190; refine (orEnd_bad _ _ _).mono ?_; rintro e w' ⟨rfl, rfl⟩) | (go_at_call 160; refine (HC.out _).mono ?_; rintro e w' ⟨rfl, rfl⟩))
    all_goals (go_ret2; exact ⟨ret_two (iv (by have hi := HI.out; clear HI HC; unfold clp; split <;> (try split) <;> (try split) <;> (try simp_all) <;> omega)) (iv rfl), rfl⟩)
set_option maxHeartbeats 1000000 in
theorem times_any (x y : Int) (w : World) (x0 : -9223372036854775808 ≤ x) (x1 : x ≤ 9223372036854775807) (y0 : -9223372036854775808 ≤ y) (y1 : y ≤ 9223372036854775807) :
    Calls Tryz.prog 166 #[.int .i64 x, .int .i64 y] w fun e w' => e = .returned (.tuple #[.int .i64 (clp (x * y)), .int .i64 (0)]) ∧ w = w' := by
  have HC : Hid (∀ W, Calls Tryz.prog 161 #[.int .i64 x, .int .i64 y] W fun e w' => e = .returned (.tuple #[.int .i64 (fit (x * y)), .int .i64 (fitE (x * y))]) ∧ W = w') := fun W => mul_any x y W x0 x1 y0 y1
  have HS : Hid ((x < 0 → y < 0 → 0 ≤ x * y) ∧ (0 ≤ x → 0 ≤ y → 0 ≤ x * y) ∧ (x < 0 → 0 ≤ y → x * y ≤ 0) ∧ (0 ≤ x → y < 0 → x * y ≤ 0)) := ⟨fun a b => Int.mul_nonneg_of_nonpos_of_nonpos (by omega) (by omega), fun a b => Int.mul_nonneg a b, fun a b => Int.mul_nonpos_of_nonpos_of_nonneg (by omega) b, fun a b => Int.mul_nonpos_of_nonneg_of_nonpos a (by omega)⟩
  generalize x * y = m at HC HS ⊢
  cases h : inr (m) with
  | true =>
    rw [(fit_in h).1, (fit_in h).2] at HC
    have HI := Lib.hid (inr_iff.1 h)
    clear h
    go_enter Tryz.func166, Tryz.ntmps166
    go_wp2_with (first | (go_at_call 190; refine (orEnd_ok _ _ _).mono ?_; rintro e w' ⟨rfl, rfl⟩) | (go_at_call 161; refine (HC.out _).mono ?_; rintro e w' ⟨rfl, rfl⟩))
    all_goals (go_ret2; exact ⟨ret_two (iv (by have hi := HI.out; clear HI HC ; have hs := HS.out; clear HS; unfold clp; split <;> (try split) <;> (try split) <;> (try simp_all) <;> omega)) (iv rfl), rfl⟩)
  | false =>
    rw [(fit_out h).1, (fit_out h).2] at HC
    have HI := Lib.hid (inr_not.1 h)
    clear h
    go_enter Tryz.func166, Tryz.ntmps166
    go_wp2_with (first | (go_at_call 190; refine (orEnd_bad _ _ _).mono ?_; rintro e w' ⟨rfl, rfl⟩) | (go_at_call 161; refine (HC.out _).mono ?_; rintro e w' ⟨rfl, rfl⟩))
    all_goals (go_ret2; exact ⟨ret_two (iv (by have hi := HI.out; clear HI HC ; have hs := HS.out; clear HS; unfold clp; split <;> (try split) <;> (try split) <;> (try simp_all) <;> omega)) (iv rfl), rfl⟩)
end Go.Proofs.YtpbfbejckhbijaaGreatDoor.Sc
namespace Go.Proofs.YtpbfbejckhbijaaGreatDoor.Sc
open Go.RowKit

theorem heap_new (w : World) (o : Obj) : (w.alloc o).heap[w.heap.size]? = some o := by
  unfold World.alloc; simp
theorem setRow_new (w : World) (a b : Array Value) (t : TypeId) : (w.alloc (.cells a t)).setRow w.heap.size b = w.alloc (.cells b t) := by
  unfold World.setRow World.alloc
  congr 1
  apply Array.ext
  · simp
  · intro k h1 h2
    simp only [Array.getElem_modify, Array.getElem_push]
    split
    · rename_i hk; subst hk; simp
    · rename_i hk
      have : k < w.heap.size := by simp at h1; omega
      simp [this]
def tbl1 : Array Value := #[.nilFunc, .func (.func 156) #[] #[], .func (.func 157) #[] #[], .func (.func 158) #[] #[]]
theorem tbl1_size : tbl1.size = 4 := rfl
theorem tbl1_one : tbl1.all (·.oneCell') = true := by kernel_rfl
set_option maxRecDepth 100000 in
set_option maxHeartbeats 4000000 in
theorem ofOne_lo (p : Int) (w : World) (h : p < 0) :
    Calls Tryz.prog 126 #[.int .i64 p] w fun e w' => e = .returned .nilFunc ∧ Below w.heap.size w w' := by
  have HB := Lib.hid ((Below.refl w.heap.size w).alloc (Nat.le_refl _) (.cells tbl1 163))
  go_enter Tryz.func126, Tryz.ntmps126
  go_upto_region 1 with fail
  go_step
  go_step
  go_step
  go_step
  go_step
  go_step
  go_step
  refine wpList_store_row (P := Tryz.prog) rfl 163 (.tmp 3) (.tmp 4) rfl w.heap.size tbl1 rfl rfl 163 (Array.replicate 4 .nilFunc) (heap_new w _) rfl rfl tbl1_one ?_
  rw [setRow_new]
  go_wp2
  go_ret
  exact ⟨rfl, HB.out⟩
set_option maxRecDepth 100000 in
set_option maxHeartbeats 4000000 in
theorem ofOne_hi (p : Int) (w : World) (h : 4 ≤ p) :
    Calls Tryz.prog 126 #[.int .i64 p] w fun e w' => e = .returned .nilFunc ∧ Below w.heap.size w w' := by
  have HB := Lib.hid ((Below.refl w.heap.size w).alloc (Nat.le_refl _) (.cells tbl1 163))
  have h0 : decide (p < 0) = false := decide_eq_false (by omega)
  go_enter Tryz.func126, Tryz.ntmps126
  go_upto_region 1 with fail
  go_step
  go_step
  go_step
  go_step
  go_step
  go_step
  go_step
  refine wpList_store_row (P := Tryz.prog) rfl 163 (.tmp 3) (.tmp 4) rfl w.heap.size tbl1 rfl rfl 163 (Array.replicate 4 .nilFunc) (heap_new w _) rfl rfl tbl1_one ?_
  rw [setRow_new]
  go_wp2
  go_ret
  exact ⟨rfl, HB.out⟩
set_option maxRecDepth 100000 in
set_option maxHeartbeats 4000000 in
theorem ofOne_in (k : Nat) (v : Value) (w : World) (h : k < 4) (hv : tbl1[k]? = some v) :
    Calls Tryz.prog 126 #[.int .i64 k] w fun e w' => e = .returned v ∧ Below w.heap.size w w' := by
  have HB := Lib.hid ((Below.refl w.heap.size w).alloc (Nat.le_refl _) (.cells tbl1 163))
  have h0 : decide ((k : Int) < 0) = false := decide_eq_false (by omega)
  have h1 : decide ((4 : Int) ≤ (k : Int)) = false := decide_eq_false (by omega)
  have h2 : (k : Int) < 4 := by omega
  go_enter Tryz.func126, Tryz.ntmps126
  go_upto_region 1 with fail
  go_step
  go_step
  go_step
  go_step
  go_step
  go_step
  go_step
  refine wpList_store_row (P := Tryz.prog) rfl 163 (.tmp 3) (.tmp 4) rfl w.heap.size tbl1 rfl rfl 163 (Array.replicate 4 .nilFunc) (heap_new w _) rfl rfl tbl1_one ?_
  rw [setRow_new]
  go_wp2
  go_ret
  exact ⟨rfl, HB.out⟩
def tbl2 : Array Value := #[.nilFunc, .nilFunc, .nilFunc, .nilFunc, .nilFunc, .nilFunc, .nilFunc, .nilFunc, .nilFunc, .nilFunc, .nilFunc, .nilFunc, .nilFunc, .nilFunc, .nilFunc, .func (.func 159) #[] #[], .func (.func 160) #[] #[], .func (.func 161) #[] #[], .func (.func 162) #[] #[], .func (.func 163) #[] #[], .func (.func 164) #[] #[], .func (.func 165) #[] #[], .func (.func 166) #[] #[], .func (.func 167) #[] #[], .func (.func 168) #[] #[], .func (.func 169) #[] #[], .func (.func 170) #[] #[], .func (.func 171) #[] #[], .func (.func 172) #[] #[], .func (.func 173) #[] #[], .func (.func 174) #[] #[], .func (.func 175) #[] #[], .func (.func 176) #[] #[]]
theorem tbl2_size : tbl2.size = 33 := rfl
theorem tbl2_one : tbl2.all (·.oneCell') = true := by kernel_rfl
set_option maxRecDepth 100000 in
set_option maxHeartbeats 4000000 in
theorem ofTwo_lo (p : Int) (w : World) (h : p < 0) :
    Calls Tryz.prog 127 #[.int .i64 p] w fun e w' => e = .returned .nilFunc ∧ Below w.heap.size w w' := by
  have HB := Lib.hid ((Below.refl w.heap.size w).alloc (Nat.le_refl _) (.cells tbl2 164))
  go_enter Tryz.func127, Tryz.ntmps127
  go_upto_region 1 with fail
  go_step
  go_step
  go_step
  go_step
  go_step
  go_step
  go_step
  refine wpList_store_row (P := Tryz.prog) rfl 164 (.tmp 3) (.tmp 4) rfl w.heap.size tbl2 rfl rfl 164 (Array.replicate 33 .nilFunc) (heap_new w _) rfl rfl tbl2_one ?_
  rw [setRow_new]
  go_wp2
  go_ret
  exact ⟨rfl, HB.out⟩
set_option maxRecDepth 100000 in
set_option maxHeartbeats 4000000 in
theorem ofTwo_hi (p : Int) (w : World) (h : 33 ≤ p) :
    Calls Tryz.prog 127 #[.int .i64 p] w fun e w' => e = .returned .nilFunc ∧ Below w.heap.size w w' := by
  have HB := Lib.hid ((Below.refl w.heap.size w).alloc (Nat.le_refl _) (.cells tbl2 164))
  have h0 : decide (p < 0) = false := decide_eq_false (by omega)
  go_enter Tryz.func127, Tryz.ntmps127
  go_upto_region 1 with fail
  go_step
  go_step
  go_step
  go_step
  go_step
  go_step
  go_step
  refine wpList_store_row (P := Tryz.prog) rfl 164 (.tmp 3) (.tmp 4) rfl w.heap.size tbl2 rfl rfl 164 (Array.replicate 33 .nilFunc) (heap_new w _) rfl rfl tbl2_one ?_
  rw [setRow_new]
  go_wp2
  go_ret
  exact ⟨rfl, HB.out⟩
set_option maxRecDepth 100000 in
set_option maxHeartbeats 4000000 in
theorem ofTwo_in (k : Nat) (v : Value) (w : World) (h : k < 33) (hv : tbl2[k]? = some v) :
    Calls Tryz.prog 127 #[.int .i64 k] w fun e w' => e = .returned v ∧ Below w.heap.size w w' := by
  have HB := Lib.hid ((Below.refl w.heap.size w).alloc (Nat.le_refl _) (.cells tbl2 164))
  have h0 : decide ((k : Int) < 0) = false := decide_eq_false (by omega)
  have h1 : decide ((33 : Int) ≤ (k : Int)) = false := decide_eq_false (by omega)
  have h2 : (k : Int) < 33 := by omega
  go_enter Tryz.func127, Tryz.ntmps127
  go_upto_region 1 with fail
  go_step
  go_step
  go_step
  go_step
  go_step
  go_step
  go_step
  refine wpList_store_row (P := Tryz.prog) rfl 164 (.tmp 3) (.tmp 4) rfl w.heap.size tbl2 rfl rfl 164 (Array.replicate 33 .nilFunc) (heap_new w _) rfl rfl tbl2_one ?_
  rw [setRow_new]
  go_wp2
  go_ret
  exact ⟨rfl, HB.out⟩
end Go.Proofs.YtpbfbejckhbijaaGreatDoor.Sc
namespace Go.Proofs.YtpbfbejckhbijaaGreatDoor.Sc
open Go.RowKit

/-- What a primitive of two numbers returns: its number, its error. -/
def twoV (p x y : Int) : Int × Int :=
  if p = 15 then (fit (x + y), fitE (x + y)) else
  if p = 16 then (fit (x - y), fitE (x - y)) else
  if p = 17 then (fit (x * y), fitE (x * y)) else
  if p = 18 then (if y = 0 then (0, 13) else (fit (x.fdiv y), fitE (x.fdiv y))) else
  if p = 19 then (if y = 0 then (0, 13) else (x.fmod y, 0)) else
  if p = 20 then (clp (x + y), 0) else
  if p = 21 then (clp (x - y), 0) else
  if p = 22 then (clp (x * y), 0) else
  if p = 23 then (tr (x == y), 0) else
  if p = 24 then (tr (x != y), 0) else
  if p = 25 then (tr (decide (x < y)), 0) else
  if p = 26 then (tr (decide (x ≤ y)), 0) else
  if p = 27 then (tr (decide (y < x)), 0) else
  if p = 28 then (tr (decide (y ≤ x)), 0) else
  if p = 29 then (tr (x != 0 && y != 0), 0) else
  if p = 30 then (tr (x != 0 || y != 0), 0) else
  if p = 31 then (min x y, 0) else
  if p = 32 then (max x y, 0) else
  (0, 2)
def oneV (p x : Int) : Int × Int :=
  if p = 1 then (fit (-x), fitE (-x)) else
  if p = 2 then (if x < 0 then (fit (-x), fitE (-x)) else (x, 0)) else
  if p = 3 then (tr (x == 0), 0) else (0, 2)
/-- Of how many numbers a primitive is. -/
def arV (p : Int) : Int := if 1 ≤ p ∧ p ≤ 3 then 1 else if 15 ≤ p ∧ p ≤ 32 then 2 else 0
def arE (p : Int) : Int := if (1 ≤ p ∧ p ≤ 3) ∨ (15 ≤ p ∧ p ≤ 32) then 0 else 2
def ovV (p : Int) : Bool := decide (p = 1 ∨ p = 2 ∨ (15 ≤ p ∧ p ≤ 19))
set_option maxRecDepth 100000 in
theorem e_nil2 (w : World) : (Go.binOp .eql 134 .nilFunc .nilFunc).run Tryz.prog w = .ok (.bool true) w := rfl
set_option maxRecDepth 100000 in
theorem e_fun2 (k : FuncId) (w : World) : (Go.binOp .eql 134 (.func (.func k) #[] #[]) .nilFunc).run Tryz.prog w = .ok (.bool false) w := rfl
set_option maxRecDepth 100000 in
theorem e_nil1 (w : World) : (Go.binOp .eql 131 .nilFunc .nilFunc).run Tryz.prog w = .ok (.bool true) w := rfl
set_option maxRecDepth 100000 in
theorem e_fun1 (k : FuncId) (w : World) : (Go.binOp .eql 131 (.func (.func k) #[] #[]) .nilFunc).run Tryz.prog w = .ok (.bool false) w := rfl
set_option maxRecDepth 100000 in
theorem n_nil2 (w : World) : (Go.binOp .neq 134 .nilFunc .nilFunc).run Tryz.prog w = .ok (.bool false) w := rfl
set_option maxRecDepth 100000 in
theorem n_fun2 (k : FuncId) (w : World) : (Go.binOp .neq 134 (.func (.func k) #[] #[]) .nilFunc).run Tryz.prog w = .ok (.bool true) w := rfl
set_option maxRecDepth 100000 in
theorem n_nil1 (w : World) : (Go.binOp .neq 131 .nilFunc .nilFunc).run Tryz.prog w = .ok (.bool false) w := rfl
set_option maxRecDepth 100000 in
theorem n_fun1 (k : FuncId) (w : World) : (Go.binOp .neq 131 (.func (.func k) #[] #[]) .nilFunc).run Tryz.prog w = .ok (.bool true) w := rfl
theorem Below.step1 {n : Nat} {w w' : World} (h : Below n w w') : Below n w w' := h
set_option maxRecDepth 100000 in
set_option maxHeartbeats 4000000 in
theorem two_lo (p x y : Int) (w : World) (h : p < 0) :
    Calls Tryz.prog 78 #[.int .i64 p, .int .i64 x, .int .i64 y] w fun e w' => e = .returned (.tuple #[.int .i64 (0), .int .i64 (2)]) ∧ Below w.heap.size w w' := by
  have E0 := e_nil2
  have E1 := e_fun2
  go_enter Tryz.func78, Tryz.ntmps78
  go_wp2_with (first | (go_at_call 127; refine (ofTwo_lo p _ h).mono ?_; rintro e w' ⟨rfl, hb⟩))
  go_ret2
  exact ⟨rfl, hb⟩
set_option maxRecDepth 100000 in
set_option maxHeartbeats 4000000 in
theorem two_hi (p x y : Int) (w : World) (h : 33 ≤ p) :
    Calls Tryz.prog 78 #[.int .i64 p, .int .i64 x, .int .i64 y] w fun e w' => e = .returned (.tuple #[.int .i64 (0), .int .i64 (2)]) ∧ Below w.heap.size w w' := by
  have E0 := e_nil2
  have E1 := e_fun2
  go_enter Tryz.func78, Tryz.ntmps78
  go_wp2_with (first | (go_at_call 127; refine (ofTwo_hi p _ h).mono ?_; rintro e w' ⟨rfl, hb⟩))
  go_ret2
  exact ⟨rfl, hb⟩
set_option maxRecDepth 100000 in
set_option maxHeartbeats 4000000 in
theorem two_n0 (x y : Int) (w : World)  :
    Calls Tryz.prog 78 #[.int .i64 0, .int .i64 x, .int .i64 y] w fun e w' => e = .returned (.tuple #[.int .i64 (0), .int .i64 (2)]) ∧ Below w.heap.size w w' := by
  have E0 := e_nil2
  have E1 := e_fun2
  go_enter Tryz.func78, Tryz.ntmps78
  go_wp2_with (first | (go_at_call 127; refine (ofTwo_in 0 .nilFunc _ (by decide) rfl).mono ?_; rintro e w' ⟨rfl, hb⟩))
  go_ret2
  exact ⟨rfl, hb⟩
set_option maxRecDepth 100000 in
set_option maxHeartbeats 4000000 in
theorem two_n1 (x y : Int) (w : World)  :
    Calls Tryz.prog 78 #[.int .i64 1, .int .i64 x, .int .i64 y] w fun e w' => e = .returned (.tuple #[.int .i64 (0), .int .i64 (2)]) ∧ Below w.heap.size w w' := by
  have E0 := e_nil2
  have E1 := e_fun2
  go_enter Tryz.func78, Tryz.ntmps78
  go_wp2_with (first | (go_at_call 127; refine (ofTwo_in 1 .nilFunc _ (by decide) rfl).mono ?_; rintro e w' ⟨rfl, hb⟩))
  go_ret2
  exact ⟨rfl, hb⟩
set_option maxRecDepth 100000 in
set_option maxHeartbeats 4000000 in
theorem two_n2 (x y : Int) (w : World)  :
    Calls Tryz.prog 78 #[.int .i64 2, .int .i64 x, .int .i64 y] w fun e w' => e = .returned (.tuple #[.int .i64 (0), .int .i64 (2)]) ∧ Below w.heap.size w w' := by
  have E0 := e_nil2
  have E1 := e_fun2
  go_enter Tryz.func78, Tryz.ntmps78
  go_wp2_with (first | (go_at_call 127; refine (ofTwo_in 2 .nilFunc _ (by decide) rfl).mono ?_; rintro e w' ⟨rfl, hb⟩))
  go_ret2
  exact ⟨rfl, hb⟩
set_option maxRecDepth 100000 in
set_option maxHeartbeats 4000000 in
theorem two_n3 (x y : Int) (w : World)  :
    Calls Tryz.prog 78 #[.int .i64 3, .int .i64 x, .int .i64 y] w fun e w' => e = .returned (.tuple #[.int .i64 (0), .int .i64 (2)]) ∧ Below w.heap.size w w' := by
  have E0 := e_nil2
  have E1 := e_fun2
  go_enter Tryz.func78, Tryz.ntmps78
  go_wp2_with (first | (go_at_call 127; refine (ofTwo_in 3 .nilFunc _ (by decide) rfl).mono ?_; rintro e w' ⟨rfl, hb⟩))
  go_ret2
  exact ⟨rfl, hb⟩
set_option maxRecDepth 100000 in
set_option maxHeartbeats 4000000 in
theorem two_n4 (x y : Int) (w : World)  :
    Calls Tryz.prog 78 #[.int .i64 4, .int .i64 x, .int .i64 y] w fun e w' => e = .returned (.tuple #[.int .i64 (0), .int .i64 (2)]) ∧ Below w.heap.size w w' := by
  have E0 := e_nil2
  have E1 := e_fun2
  go_enter Tryz.func78, Tryz.ntmps78
  go_wp2_with (first | (go_at_call 127; refine (ofTwo_in 4 .nilFunc _ (by decide) rfl).mono ?_; rintro e w' ⟨rfl, hb⟩))
  go_ret2
  exact ⟨rfl, hb⟩
set_option maxRecDepth 100000 in
set_option maxHeartbeats 4000000 in
theorem two_n5 (x y : Int) (w : World)  :
    Calls Tryz.prog 78 #[.int .i64 5, .int .i64 x, .int .i64 y] w fun e w' => e = .returned (.tuple #[.int .i64 (0), .int .i64 (2)]) ∧ Below w.heap.size w w' := by
  have E0 := e_nil2
  have E1 := e_fun2
  go_enter Tryz.func78, Tryz.ntmps78
  go_wp2_with (first | (go_at_call 127; refine (ofTwo_in 5 .nilFunc _ (by decide) rfl).mono ?_; rintro e w' ⟨rfl, hb⟩))
  go_ret2
  exact ⟨rfl, hb⟩
set_option maxRecDepth 100000 in
set_option maxHeartbeats 4000000 in
theorem two_n6 (x y : Int) (w : World)  :
    Calls Tryz.prog 78 #[.int .i64 6, .int .i64 x, .int .i64 y] w fun e w' => e = .returned (.tuple #[.int .i64 (0), .int .i64 (2)]) ∧ Below w.heap.size w w' := by
  have E0 := e_nil2
  have E1 := e_fun2
  go_enter Tryz.func78, Tryz.ntmps78
  go_wp2_with (first | (go_at_call 127; refine (ofTwo_in 6 .nilFunc _ (by decide) rfl).mono ?_; rintro e w' ⟨rfl, hb⟩))
  go_ret2
  exact ⟨rfl, hb⟩
set_option maxRecDepth 100000 in
set_option maxHeartbeats 4000000 in
theorem two_n7 (x y : Int) (w : World)  :
    Calls Tryz.prog 78 #[.int .i64 7, .int .i64 x, .int .i64 y] w fun e w' => e = .returned (.tuple #[.int .i64 (0), .int .i64 (2)]) ∧ Below w.heap.size w w' := by
  have E0 := e_nil2
  have E1 := e_fun2
  go_enter Tryz.func78, Tryz.ntmps78
  go_wp2_with (first | (go_at_call 127; refine (ofTwo_in 7 .nilFunc _ (by decide) rfl).mono ?_; rintro e w' ⟨rfl, hb⟩))
  go_ret2
  exact ⟨rfl, hb⟩
set_option maxRecDepth 100000 in
set_option maxHeartbeats 4000000 in
theorem two_n8 (x y : Int) (w : World)  :
    Calls Tryz.prog 78 #[.int .i64 8, .int .i64 x, .int .i64 y] w fun e w' => e = .returned (.tuple #[.int .i64 (0), .int .i64 (2)]) ∧ Below w.heap.size w w' := by
  have E0 := e_nil2
  have E1 := e_fun2
  go_enter Tryz.func78, Tryz.ntmps78
  go_wp2_with (first | (go_at_call 127; refine (ofTwo_in 8 .nilFunc _ (by decide) rfl).mono ?_; rintro e w' ⟨rfl, hb⟩))
  go_ret2
  exact ⟨rfl, hb⟩
set_option maxRecDepth 100000 in
set_option maxHeartbeats 4000000 in
theorem two_n9 (x y : Int) (w : World)  :
    Calls Tryz.prog 78 #[.int .i64 9, .int .i64 x, .int .i64 y] w fun e w' => e = .returned (.tuple #[.int .i64 (0), .int .i64 (2)]) ∧ Below w.heap.size w w' := by
  have E0 := e_nil2
  have E1 := e_fun2
  go_enter Tryz.func78, Tryz.ntmps78
  go_wp2_with (first | (go_at_call 127; refine (ofTwo_in 9 .nilFunc _ (by decide) rfl).mono ?_; rintro e w' ⟨rfl, hb⟩))
  go_ret2
  exact ⟨rfl, hb⟩
set_option maxRecDepth 100000 in
set_option maxHeartbeats 4000000 in
theorem two_n10 (x y : Int) (w : World)  :
    Calls Tryz.prog 78 #[.int .i64 10, .int .i64 x, .int .i64 y] w fun e w' => e = .returned (.tuple #[.int .i64 (0), .int .i64 (2)]) ∧ Below w.heap.size w w' := by
  have E0 := e_nil2
  have E1 := e_fun2
  go_enter Tryz.func78, Tryz.ntmps78
  go_wp2_with (first | (go_at_call 127; refine (ofTwo_in 10 .nilFunc _ (by decide) rfl).mono ?_; rintro e w' ⟨rfl, hb⟩))
  go_ret2
  exact ⟨rfl, hb⟩
set_option maxRecDepth 100000 in
set_option maxHeartbeats 4000000 in
theorem two_n11 (x y : Int) (w : World)  :
    Calls Tryz.prog 78 #[.int .i64 11, .int .i64 x, .int .i64 y] w fun e w' => e = .returned (.tuple #[.int .i64 (0), .int .i64 (2)]) ∧ Below w.heap.size w w' := by
  have E0 := e_nil2
  have E1 := e_fun2
  go_enter Tryz.func78, Tryz.ntmps78
  go_wp2_with (first | (go_at_call 127; refine (ofTwo_in 11 .nilFunc _ (by decide) rfl).mono ?_; rintro e w' ⟨rfl, hb⟩))
  go_ret2
  exact ⟨rfl, hb⟩
set_option maxRecDepth 100000 in
set_option maxHeartbeats 4000000 in
theorem two_n12 (x y : Int) (w : World)  :
    Calls Tryz.prog 78 #[.int .i64 12, .int .i64 x, .int .i64 y] w fun e w' => e = .returned (.tuple #[.int .i64 (0), .int .i64 (2)]) ∧ Below w.heap.size w w' := by
  have E0 := e_nil2
  have E1 := e_fun2
  go_enter Tryz.func78, Tryz.ntmps78
  go_wp2_with (first | (go_at_call 127; refine (ofTwo_in 12 .nilFunc _ (by decide) rfl).mono ?_; rintro e w' ⟨rfl, hb⟩))
  go_ret2
  exact ⟨rfl, hb⟩
set_option maxRecDepth 100000 in
set_option maxHeartbeats 4000000 in
theorem two_n13 (x y : Int) (w : World)  :
    Calls Tryz.prog 78 #[.int .i64 13, .int .i64 x, .int .i64 y] w fun e w' => e = .returned (.tuple #[.int .i64 (0), .int .i64 (2)]) ∧ Below w.heap.size w w' := by
  have E0 := e_nil2
  have E1 := e_fun2
  go_enter Tryz.func78, Tryz.ntmps78
  go_wp2_with (first | (go_at_call 127; refine (ofTwo_in 13 .nilFunc _ (by decide) rfl).mono ?_; rintro e w' ⟨rfl, hb⟩))
  go_ret2
  exact ⟨rfl, hb⟩
set_option maxRecDepth 100000 in
set_option maxHeartbeats 4000000 in
theorem two_n14 (x y : Int) (w : World)  :
    Calls Tryz.prog 78 #[.int .i64 14, .int .i64 x, .int .i64 y] w fun e w' => e = .returned (.tuple #[.int .i64 (0), .int .i64 (2)]) ∧ Below w.heap.size w w' := by
  have E0 := e_nil2
  have E1 := e_fun2
  go_enter Tryz.func78, Tryz.ntmps78
  go_wp2_with (first | (go_at_call 127; refine (ofTwo_in 14 .nilFunc _ (by decide) rfl).mono ?_; rintro e w' ⟨rfl, hb⟩))
  go_ret2
  exact ⟨rfl, hb⟩
set_option maxRecDepth 100000 in
set_option maxHeartbeats 4000000 in
theorem two_15 (x y : Int) (w : World) (x0 : -9223372036854775808 ≤ x) (x1 : x ≤ 9223372036854775807) (y0 : -9223372036854775808 ≤ y) (y1 : y ≤ 9223372036854775807) :
    Calls Tryz.prog 78 #[.int .i64 15, .int .i64 x, .int .i64 y] w fun e w' => e = .returned (.tuple #[.int .i64 (fit (x + y)), .int .i64 (fitE (x + y))]) ∧ Below w.heap.size w w' := by
  have E0 := e_nil2
  have E1 := e_fun2
  go_enter Tryz.func78, Tryz.ntmps78
  go_wp2_with (first | (go_at_call 127; refine (ofTwo_in 15 (.func (.func 159) #[] #[]) _ (by decide) rfl).mono ?_; rintro e w' ⟨rfl, hb⟩) | (go_at_call 159; refine (add_any _ _ _ x0 x1 y0 y1).mono ?_; rintro e w'' ⟨rfl, rfl⟩))
  go_ret2
  exact ⟨rfl, hb⟩
set_option maxRecDepth 100000 in
set_option maxHeartbeats 4000000 in
theorem two_16 (x y : Int) (w : World) (x0 : -9223372036854775808 ≤ x) (x1 : x ≤ 9223372036854775807) (y0 : -9223372036854775808 ≤ y) (y1 : y ≤ 9223372036854775807) :
    Calls Tryz.prog 78 #[.int .i64 16, .int .i64 x, .int .i64 y] w fun e w' => e = .returned (.tuple #[.int .i64 (fit (x - y)), .int .i64 (fitE (x - y))]) ∧ Below w.heap.size w w' := by
  have E0 := e_nil2
  have E1 := e_fun2
  go_enter Tryz.func78, Tryz.ntmps78
  go_wp2_with (first | (go_at_call 127; refine (ofTwo_in 16 (.func (.func 160) #[] #[]) _ (by decide) rfl).mono ?_; rintro e w' ⟨rfl, hb⟩) | (go_at_call 160; refine (sub_any _ _ _ x0 x1 y0 y1).mono ?_; rintro e w'' ⟨rfl, rfl⟩))
  go_ret2
  exact ⟨rfl, hb⟩
set_option maxRecDepth 100000 in
set_option maxHeartbeats 4000000 in
theorem two_17 (x y : Int) (w : World) (x0 : -9223372036854775808 ≤ x) (x1 : x ≤ 9223372036854775807) (y0 : -9223372036854775808 ≤ y) (y1 : y ≤ 9223372036854775807) :
    Calls Tryz.prog 78 #[.int .i64 17, .int .i64 x, .int .i64 y] w fun e w' => e = .returned (.tuple #[.int .i64 (fit (x * y)), .int .i64 (fitE (x * y))]) ∧ Below w.heap.size w w' := by
  have E0 := e_nil2
  have E1 := e_fun2
  go_enter Tryz.func78, Tryz.ntmps78
  go_wp2_with (first | (go_at_call 127; refine (ofTwo_in 17 (.func (.func 161) #[] #[]) _ (by decide) rfl).mono ?_; rintro e w' ⟨rfl, hb⟩) | (go_at_call 161; refine (mul_any _ _ _ x0 x1 y0 y1).mono ?_; rintro e w'' ⟨rfl, rfl⟩))
  go_ret2
  exact ⟨rfl, hb⟩
set_option maxRecDepth 100000 in
set_option maxHeartbeats 4000000 in
theorem two_18 (x y : Int) (w : World) (x0 : -9223372036854775808 ≤ x) (x1 : x ≤ 9223372036854775807) (hy : y ≠ 0) :
    Calls Tryz.prog 78 #[.int .i64 18, .int .i64 x, .int .i64 y] w fun e w' => e = .returned (.tuple #[.int .i64 (fit (x.fdiv y)), .int .i64 (fitE (x.fdiv y))]) ∧ Below w.heap.size w w' := by
  have E0 := e_nil2
  have E1 := e_fun2
  go_enter Tryz.func78, Tryz.ntmps78
  go_wp2_with (first | (go_at_call 127; refine (ofTwo_in 18 (.func (.func 162) #[] #[]) _ (by decide) rfl).mono ?_; rintro e w' ⟨rfl, hb⟩) | (go_at_call 162; refine (div_two _ _ _ x0 x1 hy).mono ?_; rintro e w'' ⟨rfl, rfl⟩))
  go_ret2
  exact ⟨rfl, hb⟩
set_option maxRecDepth 100000 in
set_option maxHeartbeats 4000000 in
theorem two_19 (x y : Int) (w : World) (x0 : -9223372036854775808 ≤ x) (x1 : x ≤ 9223372036854775807) (y0 : -9223372036854775808 ≤ y) (y1 : y ≤ 9223372036854775807) (hy : y ≠ 0) :
    Calls Tryz.prog 78 #[.int .i64 19, .int .i64 x, .int .i64 y] w fun e w' => e = .returned (.tuple #[.int .i64 (x.fmod y), .int .i64 (0)]) ∧ Below w.heap.size w w' := by
  have E0 := e_nil2
  have E1 := e_fun2
  go_enter Tryz.func78, Tryz.ntmps78
  go_wp2_with (first | (go_at_call 127; refine (ofTwo_in 19 (.func (.func 163) #[] #[]) _ (by decide) rfl).mono ?_; rintro e w' ⟨rfl, hb⟩) | (go_at_call 163; refine (mod_any _ _ _ x0 x1 y0 y1 hy).mono ?_; rintro e w'' ⟨rfl, rfl⟩))
  go_ret2
  exact ⟨rfl, hb⟩
set_option maxRecDepth 100000 in
set_option maxHeartbeats 4000000 in
theorem two_20 (x y : Int) (w : World) (x0 : -9223372036854775808 ≤ x) (x1 : x ≤ 9223372036854775807) (y0 : -9223372036854775808 ≤ y) (y1 : y ≤ 9223372036854775807) :
    Calls Tryz.prog 78 #[.int .i64 20, .int .i64 x, .int .i64 y] w fun e w' => e = .returned (.tuple #[.int .i64 (clp (x + y)), .int .i64 (0)]) ∧ Below w.heap.size w w' := by
  have E0 := e_nil2
  have E1 := e_fun2
  go_enter Tryz.func78, Tryz.ntmps78
  go_wp2_with (first | (go_at_call 127; refine (ofTwo_in 20 (.func (.func 164) #[] #[]) _ (by decide) rfl).mono ?_; rintro e w' ⟨rfl, hb⟩) | (go_at_call 164; refine (plus_any _ _ _ x0 x1 y0 y1).mono ?_; rintro e w'' ⟨rfl, rfl⟩))
  go_ret2
  exact ⟨rfl, hb⟩
set_option maxRecDepth 100000 in
set_option maxHeartbeats 4000000 in
theorem two_21 (x y : Int) (w : World) (x0 : -9223372036854775808 ≤ x) (x1 : x ≤ 9223372036854775807) (y0 : -9223372036854775808 ≤ y) (y1 : y ≤ 9223372036854775807) :
    Calls Tryz.prog 78 #[.int .i64 21, .int .i64 x, .int .i64 y] w fun e w' => e = .returned (.tuple #[.int .i64 (clp (x - y)), .int .i64 (0)]) ∧ Below w.heap.size w w' := by
  have E0 := e_nil2
  have E1 := e_fun2
  go_enter Tryz.func78, Tryz.ntmps78
  go_wp2_with (first | (go_at_call 127; refine (ofTwo_in 21 (.func (.func 165) #[] #[]) _ (by decide) rfl).mono ?_; rintro e w' ⟨rfl, hb⟩) | (go_at_call 165; refine (minus_any _ _ _ x0 x1 y0 y1).mono ?_; rintro e w'' ⟨rfl, rfl⟩))
  go_ret2
  exact ⟨rfl, hb⟩
set_option maxRecDepth 100000 in
set_option maxHeartbeats 4000000 in
theorem two_22 (x y : Int) (w : World) (x0 : -9223372036854775808 ≤ x) (x1 : x ≤ 9223372036854775807) (y0 : -9223372036854775808 ≤ y) (y1 : y ≤ 9223372036854775807) :
    Calls Tryz.prog 78 #[.int .i64 22, .int .i64 x, .int .i64 y] w fun e w' => e = .returned (.tuple #[.int .i64 (clp (x * y)), .int .i64 (0)]) ∧ Below w.heap.size w w' := by
  have E0 := e_nil2
  have E1 := e_fun2
  go_enter Tryz.func78, Tryz.ntmps78
  go_wp2_with (first | (go_at_call 127; refine (ofTwo_in 22 (.func (.func 166) #[] #[]) _ (by decide) rfl).mono ?_; rintro e w' ⟨rfl, hb⟩) | (go_at_call 166; refine (times_any _ _ _ x0 x1 y0 y1).mono ?_; rintro e w'' ⟨rfl, rfl⟩))
  go_ret2
  exact ⟨rfl, hb⟩
set_option maxRecDepth 100000 in
set_option maxHeartbeats 4000000 in
theorem two_23 (x y : Int) (w : World)  :
    Calls Tryz.prog 78 #[.int .i64 23, .int .i64 x, .int .i64 y] w fun e w' => e = .returned (.tuple #[.int .i64 (tr (x == y)), .int .i64 (0)]) ∧ Below w.heap.size w w' := by
  have E0 := e_nil2
  have E1 := e_fun2
  go_enter Tryz.func78, Tryz.ntmps78
  go_wp2_with (first | (go_at_call 127; refine (ofTwo_in 23 (.func (.func 167) #[] #[]) _ (by decide) rfl).mono ?_; rintro e w' ⟨rfl, hb⟩) | (go_at_call 167; refine (eq_any _ _ _).mono ?_; rintro e w'' ⟨rfl, rfl⟩))
  go_ret2
  exact ⟨rfl, hb⟩
set_option maxRecDepth 100000 in
set_option maxHeartbeats 4000000 in
theorem two_24 (x y : Int) (w : World)  :
    Calls Tryz.prog 78 #[.int .i64 24, .int .i64 x, .int .i64 y] w fun e w' => e = .returned (.tuple #[.int .i64 (tr (x != y)), .int .i64 (0)]) ∧ Below w.heap.size w w' := by
  have E0 := e_nil2
  have E1 := e_fun2
  go_enter Tryz.func78, Tryz.ntmps78
  go_wp2_with (first | (go_at_call 127; refine (ofTwo_in 24 (.func (.func 168) #[] #[]) _ (by decide) rfl).mono ?_; rintro e w' ⟨rfl, hb⟩) | (go_at_call 168; refine (ne_any _ _ _).mono ?_; rintro e w'' ⟨rfl, rfl⟩))
  go_ret2
  exact ⟨rfl, hb⟩
set_option maxRecDepth 100000 in
set_option maxHeartbeats 4000000 in
theorem two_25 (x y : Int) (w : World)  :
    Calls Tryz.prog 78 #[.int .i64 25, .int .i64 x, .int .i64 y] w fun e w' => e = .returned (.tuple #[.int .i64 (tr (decide (x < y))), .int .i64 (0)]) ∧ Below w.heap.size w w' := by
  have E0 := e_nil2
  have E1 := e_fun2
  go_enter Tryz.func78, Tryz.ntmps78
  go_wp2_with (first | (go_at_call 127; refine (ofTwo_in 25 (.func (.func 169) #[] #[]) _ (by decide) rfl).mono ?_; rintro e w' ⟨rfl, hb⟩) | (go_at_call 169; refine (lt_any _ _ _).mono ?_; rintro e w'' ⟨rfl, rfl⟩))
  go_ret2
  exact ⟨rfl, hb⟩
set_option maxRecDepth 100000 in
set_option maxHeartbeats 4000000 in
theorem two_26 (x y : Int) (w : World)  :
    Calls Tryz.prog 78 #[.int .i64 26, .int .i64 x, .int .i64 y] w fun e w' => e = .returned (.tuple #[.int .i64 (tr (decide (x ≤ y))), .int .i64 (0)]) ∧ Below w.heap.size w w' := by
  have E0 := e_nil2
  have E1 := e_fun2
  go_enter Tryz.func78, Tryz.ntmps78
  go_wp2_with (first | (go_at_call 127; refine (ofTwo_in 26 (.func (.func 170) #[] #[]) _ (by decide) rfl).mono ?_; rintro e w' ⟨rfl, hb⟩) | (go_at_call 170; refine (le_any _ _ _).mono ?_; rintro e w'' ⟨rfl, rfl⟩))
  go_ret2
  exact ⟨rfl, hb⟩
set_option maxRecDepth 100000 in
set_option maxHeartbeats 4000000 in
theorem two_27 (x y : Int) (w : World)  :
    Calls Tryz.prog 78 #[.int .i64 27, .int .i64 x, .int .i64 y] w fun e w' => e = .returned (.tuple #[.int .i64 (tr (decide (y < x))), .int .i64 (0)]) ∧ Below w.heap.size w w' := by
  have E0 := e_nil2
  have E1 := e_fun2
  go_enter Tryz.func78, Tryz.ntmps78
  go_wp2_with (first | (go_at_call 127; refine (ofTwo_in 27 (.func (.func 171) #[] #[]) _ (by decide) rfl).mono ?_; rintro e w' ⟨rfl, hb⟩) | (go_at_call 171; refine (gt_any _ _ _).mono ?_; rintro e w'' ⟨rfl, rfl⟩))
  go_ret2
  exact ⟨rfl, hb⟩
set_option maxRecDepth 100000 in
set_option maxHeartbeats 4000000 in
theorem two_28 (x y : Int) (w : World)  :
    Calls Tryz.prog 78 #[.int .i64 28, .int .i64 x, .int .i64 y] w fun e w' => e = .returned (.tuple #[.int .i64 (tr (decide (y ≤ x))), .int .i64 (0)]) ∧ Below w.heap.size w w' := by
  have E0 := e_nil2
  have E1 := e_fun2
  go_enter Tryz.func78, Tryz.ntmps78
  go_wp2_with (first | (go_at_call 127; refine (ofTwo_in 28 (.func (.func 172) #[] #[]) _ (by decide) rfl).mono ?_; rintro e w' ⟨rfl, hb⟩) | (go_at_call 172; refine (ge_any _ _ _).mono ?_; rintro e w'' ⟨rfl, rfl⟩))
  go_ret2
  exact ⟨rfl, hb⟩
set_option maxRecDepth 100000 in
set_option maxHeartbeats 4000000 in
theorem two_29 (x y : Int) (w : World)  :
    Calls Tryz.prog 78 #[.int .i64 29, .int .i64 x, .int .i64 y] w fun e w' => e = .returned (.tuple #[.int .i64 (tr (x != 0 && y != 0)), .int .i64 (0)]) ∧ Below w.heap.size w w' := by
  have E0 := e_nil2
  have E1 := e_fun2
  go_enter Tryz.func78, Tryz.ntmps78
  go_wp2_with (first | (go_at_call 127; refine (ofTwo_in 29 (.func (.func 173) #[] #[]) _ (by decide) rfl).mono ?_; rintro e w' ⟨rfl, hb⟩) | (go_at_call 173; refine (and_any _ _ _).mono ?_; rintro e w'' ⟨rfl, rfl⟩))
  go_ret2
  exact ⟨rfl, hb⟩
set_option maxRecDepth 100000 in
set_option maxHeartbeats 4000000 in
theorem two_30 (x y : Int) (w : World)  :
    Calls Tryz.prog 78 #[.int .i64 30, .int .i64 x, .int .i64 y] w fun e w' => e = .returned (.tuple #[.int .i64 (tr (x != 0 || y != 0)), .int .i64 (0)]) ∧ Below w.heap.size w w' := by
  have E0 := e_nil2
  have E1 := e_fun2
  go_enter Tryz.func78, Tryz.ntmps78
  go_wp2_with (first | (go_at_call 127; refine (ofTwo_in 30 (.func (.func 174) #[] #[]) _ (by decide) rfl).mono ?_; rintro e w' ⟨rfl, hb⟩) | (go_at_call 174; refine (sor_any _ _ _).mono ?_; rintro e w'' ⟨rfl, rfl⟩))
  go_ret2
  exact ⟨rfl, hb⟩
set_option maxRecDepth 100000 in
set_option maxHeartbeats 4000000 in
theorem two_31 (x y : Int) (w : World)  :
    Calls Tryz.prog 78 #[.int .i64 31, .int .i64 x, .int .i64 y] w fun e w' => e = .returned (.tuple #[.int .i64 (min x y), .int .i64 (0)]) ∧ Below w.heap.size w w' := by
  have E0 := e_nil2
  have E1 := e_fun2
  go_enter Tryz.func78, Tryz.ntmps78
  go_wp2_with (first | (go_at_call 127; refine (ofTwo_in 31 (.func (.func 175) #[] #[]) _ (by decide) rfl).mono ?_; rintro e w' ⟨rfl, hb⟩) | (go_at_call 175; refine (smin_any _ _ _).mono ?_; rintro e w'' ⟨rfl, rfl⟩))
  go_ret2
  exact ⟨rfl, hb⟩
set_option maxRecDepth 100000 in
set_option maxHeartbeats 4000000 in
theorem two_32 (x y : Int) (w : World)  :
    Calls Tryz.prog 78 #[.int .i64 32, .int .i64 x, .int .i64 y] w fun e w' => e = .returned (.tuple #[.int .i64 (max x y), .int .i64 (0)]) ∧ Below w.heap.size w w' := by
  have E0 := e_nil2
  have E1 := e_fun2
  go_enter Tryz.func78, Tryz.ntmps78
  go_wp2_with (first | (go_at_call 127; refine (ofTwo_in 32 (.func (.func 176) #[] #[]) _ (by decide) rfl).mono ?_; rintro e w' ⟨rfl, hb⟩) | (go_at_call 176; refine (smax_any _ _ _).mono ?_; rintro e w'' ⟨rfl, rfl⟩))
  go_ret2
  exact ⟨rfl, hb⟩
set_option maxRecDepth 100000 in
set_option maxHeartbeats 4000000 in
theorem two_18z (x : Int) (w : World) :
    Calls Tryz.prog 78 #[.int .i64 18, .int .i64 x, .int .i64 0] w fun e w' => e = .returned (.tuple #[.int .i64 0, .int .i64 13]) ∧ Below w.heap.size w w' := by
  have E0 := e_nil2
  have E1 := e_fun2
  go_enter Tryz.func78, Tryz.ntmps78
  go_wp2_with (first | (go_at_call 127; refine (ofTwo_in 18 (.func (.func 162) #[] #[]) _ (by decide) rfl).mono ?_; rintro e w' ⟨rfl, hb⟩) | (go_at_call 162; refine (div_z _ 0 _ rfl).mono ?_; rintro e w'' ⟨rfl, rfl⟩))
  go_ret2
  exact ⟨rfl, hb⟩
set_option maxRecDepth 100000 in
set_option maxHeartbeats 4000000 in
theorem two_19z (x : Int) (w : World) :
    Calls Tryz.prog 78 #[.int .i64 19, .int .i64 x, .int .i64 0] w fun e w' => e = .returned (.tuple #[.int .i64 0, .int .i64 13]) ∧ Below w.heap.size w w' := by
  have E0 := e_nil2
  have E1 := e_fun2
  go_enter Tryz.func78, Tryz.ntmps78
  go_wp2_with (first | (go_at_call 127; refine (ofTwo_in 19 (.func (.func 163) #[] #[]) _ (by decide) rfl).mono ?_; rintro e w' ⟨rfl, hb⟩) | (go_at_call 163; refine (mod_z _ 0 _ rfl).mono ?_; rintro e w'' ⟨rfl, rfl⟩))
  go_ret2
  exact ⟨rfl, hb⟩
theorem stwo_any (p x y : Int) (w : World) (x0 : -9223372036854775808 ≤ x) (x1 : x ≤ 9223372036854775807) (y0 : -9223372036854775808 ≤ y) (y1 : y ≤ 9223372036854775807) :
    Calls Tryz.prog 78 #[.int .i64 p, .int .i64 x, .int .i64 y] w fun e w' => e = .returned (.tuple #[.int .i64 (twoV p x y).1, .int .i64 (twoV p x y).2]) ∧ Below w.heap.size w w' := by
  by_cases hl : p < 0
  · rw [show twoV p x y = (0, 2) by unfold twoV; repeat rw [if_neg (by omega)]]
    exact two_lo p x y w hl
  by_cases hh : 33 ≤ p
  · rw [show twoV p x y = (0, 2) by unfold twoV; repeat rw [if_neg (by omega)]]
    exact two_hi p x y w hh
  rcases (show p = 0 ∨ p = 1 ∨ p = 2 ∨ p = 3 ∨ p = 4 ∨ p = 5 ∨ p = 6 ∨ p = 7 ∨ p = 8 ∨ p = 9 ∨ p = 10 ∨ p = 11 ∨ p = 12 ∨ p = 13 ∨ p = 14 ∨ p = 15 ∨ p = 16 ∨ p = 17 ∨ p = 18 ∨ p = 19 ∨ p = 20 ∨ p = 21 ∨ p = 22 ∨ p = 23 ∨ p = 24 ∨ p = 25 ∨ p = 26 ∨ p = 27 ∨ p = 28 ∨ p = 29 ∨ p = 30 ∨ p = 31 ∨ p = 32 by omega) with rfl | rfl | rfl | rfl | rfl | rfl | rfl | rfl | rfl | rfl | rfl | rfl | rfl | rfl | rfl | rfl | rfl | rfl | rfl | rfl | rfl | rfl | rfl | rfl | rfl | rfl | rfl | rfl | rfl | rfl | rfl | rfl | rfl
  · exact two_n0 x y w
  · exact two_n1 x y w
  · exact two_n2 x y w
  · exact two_n3 x y w
  · exact two_n4 x y w
  · exact two_n5 x y w
  · exact two_n6 x y w
  · exact two_n7 x y w
  · exact two_n8 x y w
  · exact two_n9 x y w
  · exact two_n10 x y w
  · exact two_n11 x y w
  · exact two_n12 x y w
  · exact two_n13 x y w
  · exact two_n14 x y w
  · exact two_15 x y w x0 x1 y0 y1
  · exact two_16 x y w x0 x1 y0 y1
  · exact two_17 x y w x0 x1 y0 y1
  · by_cases hy : y = 0
    · subst hy
      exact two_18z x w
    · rw [show twoV 18 x y = (fit (x.fdiv y), fitE (x.fdiv y)) by simp [twoV, hy]]
      exact two_18 x y w x0 x1 hy
  · by_cases hy : y = 0
    · subst hy
      exact two_19z x w
    · rw [show twoV 19 x y = (x.fmod y, 0) by simp [twoV, hy]]
      exact two_19 x y w x0 x1 y0 y1 hy
  · exact two_20 x y w x0 x1 y0 y1
  · exact two_21 x y w x0 x1 y0 y1
  · exact two_22 x y w x0 x1 y0 y1
  · exact two_23 x y w 
  · exact two_24 x y w 
  · exact two_25 x y w 
  · exact two_26 x y w 
  · exact two_27 x y w 
  · exact two_28 x y w 
  · exact two_29 x y w 
  · exact two_30 x y w 
  · exact two_31 x y w 
  · exact two_32 x y w 
set_option maxRecDepth 100000 in
set_option maxHeartbeats 4000000 in
theorem one_lo (p x : Int) (w : World) (h : p < 0) :
    Calls Tryz.prog 73 #[.int .i64 p, .int .i64 x] w fun e w' => e = .returned (.tuple #[.int .i64 (0), .int .i64 (2)]) ∧ Below w.heap.size w w' := by
  have E0 := e_nil1
  have E1 := e_fun1
  go_enter Tryz.func73, Tryz.ntmps73
  go_wp2_with (first | (go_at_call 126; refine (ofOne_lo p _ h).mono ?_; rintro e w' ⟨rfl, hb⟩))
  go_ret2
  exact ⟨rfl, hb⟩
set_option maxRecDepth 100000 in
set_option maxHeartbeats 4000000 in
theorem one_hi (p x : Int) (w : World) (h : 4 ≤ p) :
    Calls Tryz.prog 73 #[.int .i64 p, .int .i64 x] w fun e w' => e = .returned (.tuple #[.int .i64 (0), .int .i64 (2)]) ∧ Below w.heap.size w w' := by
  have E0 := e_nil1
  have E1 := e_fun1
  go_enter Tryz.func73, Tryz.ntmps73
  go_wp2_with (first | (go_at_call 126; refine (ofOne_hi p _ h).mono ?_; rintro e w' ⟨rfl, hb⟩))
  go_ret2
  exact ⟨rfl, hb⟩
set_option maxRecDepth 100000 in
set_option maxHeartbeats 4000000 in
theorem one_0 (x : Int) (w : World)  :
    Calls Tryz.prog 73 #[.int .i64 0, .int .i64 x] w fun e w' => e = .returned (.tuple #[.int .i64 (0), .int .i64 (2)]) ∧ Below w.heap.size w w' := by
  have E0 := e_nil1
  have E1 := e_fun1
  go_enter Tryz.func73, Tryz.ntmps73
  go_wp2_with (first | (go_at_call 126; refine (ofOne_in 0 .nilFunc _ (by decide) rfl).mono ?_; rintro e w' ⟨rfl, hb⟩))
  go_ret2
  exact ⟨rfl, hb⟩
set_option maxRecDepth 100000 in
set_option maxHeartbeats 4000000 in
theorem one_1 (x : Int) (w : World) (x0 : -9223372036854775808 ≤ x) (x1 : x ≤ 9223372036854775807) :
    Calls Tryz.prog 73 #[.int .i64 1, .int .i64 x] w fun e w' => e = .returned (.tuple #[.int .i64 (fit (-x)), .int .i64 (fitE (-x))]) ∧ Below w.heap.size w w' := by
  have E0 := e_nil1
  have E1 := e_fun1
  go_enter Tryz.func73, Tryz.ntmps73
  go_wp2_with (first | (go_at_call 126; refine (ofOne_in 1 (.func (.func 156) #[] #[]) _ (by decide) rfl).mono ?_; rintro e w' ⟨rfl, hb⟩) | (go_at_call 156; refine (neg_any _ _ x0 x1).mono ?_; rintro e w'' ⟨rfl, rfl⟩))
  go_ret2
  exact ⟨rfl, hb⟩
set_option maxRecDepth 100000 in
set_option maxHeartbeats 4000000 in
theorem one_2l (x : Int) (w : World) (x0 : -9223372036854775808 ≤ x) (x1 : x ≤ 9223372036854775807) (h : x < 0) :
    Calls Tryz.prog 73 #[.int .i64 2, .int .i64 x] w fun e w' => e = .returned (.tuple #[.int .i64 (fit (-x)), .int .i64 (fitE (-x))]) ∧ Below w.heap.size w w' := by
  have E0 := e_nil1
  have E1 := e_fun1
  go_enter Tryz.func73, Tryz.ntmps73
  go_wp2_with (first | (go_at_call 126; refine (ofOne_in 2 (.func (.func 157) #[] #[]) _ (by decide) rfl).mono ?_; rintro e w' ⟨rfl, hb⟩) | (go_at_call 157; refine (abs_lo _ _ x0 x1 h).mono ?_; rintro e w'' ⟨rfl, rfl⟩))
  go_ret2
  exact ⟨rfl, hb⟩
set_option maxRecDepth 100000 in
set_option maxHeartbeats 4000000 in
theorem one_2h (x : Int) (w : World) (x0 : -9223372036854775808 ≤ x) (x1 : x ≤ 9223372036854775807) (h : 0 ≤ x) :
    Calls Tryz.prog 73 #[.int .i64 2, .int .i64 x] w fun e w' => e = .returned (.tuple #[.int .i64 (x), .int .i64 (0)]) ∧ Below w.heap.size w w' := by
  have E0 := e_nil1
  have E1 := e_fun1
  go_enter Tryz.func73, Tryz.ntmps73
  go_wp2_with (first | (go_at_call 126; refine (ofOne_in 2 (.func (.func 157) #[] #[]) _ (by decide) rfl).mono ?_; rintro e w' ⟨rfl, hb⟩) | (go_at_call 157; refine (abs_hi _ _ x0 x1 h).mono ?_; rintro e w'' ⟨rfl, rfl⟩))
  go_ret2
  exact ⟨rfl, hb⟩
set_option maxRecDepth 100000 in
set_option maxHeartbeats 4000000 in
theorem one_3 (x : Int) (w : World)  :
    Calls Tryz.prog 73 #[.int .i64 3, .int .i64 x] w fun e w' => e = .returned (.tuple #[.int .i64 (tr (x == 0)), .int .i64 (0)]) ∧ Below w.heap.size w w' := by
  have E0 := e_nil1
  have E1 := e_fun1
  go_enter Tryz.func73, Tryz.ntmps73
  go_wp2_with (first | (go_at_call 126; refine (ofOne_in 3 (.func (.func 158) #[] #[]) _ (by decide) rfl).mono ?_; rintro e w' ⟨rfl, hb⟩) | (go_at_call 158; refine (not_any _ _).mono ?_; rintro e w'' ⟨rfl, rfl⟩))
  go_ret2
  exact ⟨rfl, hb⟩
theorem sone_any (p x : Int) (w : World) (x0 : -9223372036854775808 ≤ x) (x1 : x ≤ 9223372036854775807) :
    Calls Tryz.prog 73 #[.int .i64 p, .int .i64 x] w fun e w' => e = .returned (.tuple #[.int .i64 (oneV p x).1, .int .i64 (oneV p x).2]) ∧ Below w.heap.size w w' := by
  by_cases hl : p < 0
  · rw [show oneV p x = (0, 2) by unfold oneV; repeat rw [if_neg (by omega)]]
    exact one_lo p x w hl
  by_cases hh : 4 ≤ p
  · rw [show oneV p x = (0, 2) by unfold oneV; repeat rw [if_neg (by omega)]]
    exact one_hi p x w hh
  rcases (show p = 0 ∨ p = 1 ∨ p = 2 ∨ p = 3 by omega) with rfl | rfl | rfl | rfl
  · exact one_0 x w
  · exact one_1 x w x0 x1
  · by_cases h : x < 0
    · rw [show oneV 2 x = (fit (-x), fitE (-x)) by simp [oneV, h]]
      exact one_2l x w x0 x1 h
    · rw [show oneV 2 x = (x, 0) by simp [oneV, h]]
      exact one_2h x w x0 x1 (by omega)
  · exact one_3 x w
end Go.Proofs.YtpbfbejckhbijaaGreatDoor.Sc
namespace Go.Proofs.YtpbfbejckhbijaaGreatDoor.Sc
open Go.RowKit

theorem ofTwo_nil (p : Int) (w : World) (h : p < 15 ∨ 32 < p) : Calls Tryz.prog 127 #[.int .i64 p] w fun e w' => e = .returned .nilFunc ∧ Below w.heap.size w w' := by
  by_cases hl : p < 0
  · exact ofTwo_lo p w hl
  by_cases hh : 33 ≤ p
  · exact ofTwo_hi p w hh
  rcases (show p = 0 ∨ p = 1 ∨ p = 2 ∨ p = 3 ∨ p = 4 ∨ p = 5 ∨ p = 6 ∨ p = 7 ∨ p = 8 ∨ p = 9 ∨ p = 10 ∨ p = 11 ∨ p = 12 ∨ p = 13 ∨ p = 14 by omega) with rfl | rfl | rfl | rfl | rfl | rfl | rfl | rfl | rfl | rfl | rfl | rfl | rfl | rfl | rfl
  · exact ofTwo_in 0 .nilFunc w (by decide) rfl
  · exact ofTwo_in 1 .nilFunc w (by decide) rfl
  · exact ofTwo_in 2 .nilFunc w (by decide) rfl
  · exact ofTwo_in 3 .nilFunc w (by decide) rfl
  · exact ofTwo_in 4 .nilFunc w (by decide) rfl
  · exact ofTwo_in 5 .nilFunc w (by decide) rfl
  · exact ofTwo_in 6 .nilFunc w (by decide) rfl
  · exact ofTwo_in 7 .nilFunc w (by decide) rfl
  · exact ofTwo_in 8 .nilFunc w (by decide) rfl
  · exact ofTwo_in 9 .nilFunc w (by decide) rfl
  · exact ofTwo_in 10 .nilFunc w (by decide) rfl
  · exact ofTwo_in 11 .nilFunc w (by decide) rfl
  · exact ofTwo_in 12 .nilFunc w (by decide) rfl
  · exact ofTwo_in 13 .nilFunc w (by decide) rfl
  · exact ofTwo_in 14 .nilFunc w (by decide) rfl
theorem ofTwo_fun (p : Int) (w : World) (h : 15 ≤ p) (h' : p ≤ 32) : Calls Tryz.prog 127 #[.int .i64 p] w fun e w' => ∃ f, e = .returned (.func (.func f) #[] #[]) ∧ Below w.heap.size w w' := by
  rcases (show p = 15 ∨ p = 16 ∨ p = 17 ∨ p = 18 ∨ p = 19 ∨ p = 20 ∨ p = 21 ∨ p = 22 ∨ p = 23 ∨ p = 24 ∨ p = 25 ∨ p = 26 ∨ p = 27 ∨ p = 28 ∨ p = 29 ∨ p = 30 ∨ p = 31 ∨ p = 32 by omega) with rfl | rfl | rfl | rfl | rfl | rfl | rfl | rfl | rfl | rfl | rfl | rfl | rfl | rfl | rfl | rfl | rfl | rfl
  · exact (ofTwo_in 15 _ w (by decide) rfl).mono fun e w' k => ⟨_, k.1, k.2⟩
  · exact (ofTwo_in 16 _ w (by decide) rfl).mono fun e w' k => ⟨_, k.1, k.2⟩
  · exact (ofTwo_in 17 _ w (by decide) rfl).mono fun e w' k => ⟨_, k.1, k.2⟩
  · exact (ofTwo_in 18 _ w (by decide) rfl).mono fun e w' k => ⟨_, k.1, k.2⟩
  · exact (ofTwo_in 19 _ w (by decide) rfl).mono fun e w' k => ⟨_, k.1, k.2⟩
  · exact (ofTwo_in 20 _ w (by decide) rfl).mono fun e w' k => ⟨_, k.1, k.2⟩
  · exact (ofTwo_in 21 _ w (by decide) rfl).mono fun e w' k => ⟨_, k.1, k.2⟩
  · exact (ofTwo_in 22 _ w (by decide) rfl).mono fun e w' k => ⟨_, k.1, k.2⟩
  · exact (ofTwo_in 23 _ w (by decide) rfl).mono fun e w' k => ⟨_, k.1, k.2⟩
  · exact (ofTwo_in 24 _ w (by decide) rfl).mono fun e w' k => ⟨_, k.1, k.2⟩
  · exact (ofTwo_in 25 _ w (by decide) rfl).mono fun e w' k => ⟨_, k.1, k.2⟩
  · exact (ofTwo_in 26 _ w (by decide) rfl).mono fun e w' k => ⟨_, k.1, k.2⟩
  · exact (ofTwo_in 27 _ w (by decide) rfl).mono fun e w' k => ⟨_, k.1, k.2⟩
  · exact (ofTwo_in 28 _ w (by decide) rfl).mono fun e w' k => ⟨_, k.1, k.2⟩
  · exact (ofTwo_in 29 _ w (by decide) rfl).mono fun e w' k => ⟨_, k.1, k.2⟩
  · exact (ofTwo_in 30 _ w (by decide) rfl).mono fun e w' k => ⟨_, k.1, k.2⟩
  · exact (ofTwo_in 31 _ w (by decide) rfl).mono fun e w' k => ⟨_, k.1, k.2⟩
  · exact (ofTwo_in 32 _ w (by decide) rfl).mono fun e w' k => ⟨_, k.1, k.2⟩
theorem ofOne_nil (p : Int) (w : World) (h : p < 1 ∨ 3 < p) : Calls Tryz.prog 126 #[.int .i64 p] w fun e w' => e = .returned .nilFunc ∧ Below w.heap.size w w' := by
  by_cases hl : p < 0
  · exact ofOne_lo p w hl
  by_cases hh : 4 ≤ p
  · exact ofOne_hi p w hh
  obtain rfl : p = 0 := by omega
  exact ofOne_in 0 .nilFunc w (by decide) rfl
theorem ofOne_fun (p : Int) (w : World) (h : 1 ≤ p) (h' : p ≤ 3) : Calls Tryz.prog 126 #[.int .i64 p] w fun e w' => ∃ f, e = .returned (.func (.func f) #[] #[]) ∧ Below w.heap.size w w' := by
  rcases (show p = 1 ∨ p = 2 ∨ p = 3 by omega) with rfl | rfl | rfl
  · exact (ofOne_in 1 _ w (by decide) rfl).mono fun e w' k => ⟨_, k.1, k.2⟩
  · exact (ofOne_in 2 _ w (by decide) rfl).mono fun e w' k => ⟨_, k.1, k.2⟩
  · exact (ofOne_in 3 _ w (by decide) rfl).mono fun e w' k => ⟨_, k.1, k.2⟩
set_option maxRecDepth 100000 in
set_option maxHeartbeats 4000000 in
theorem arity_1 (p : Int) (w : World) (h : 1 ≤ p) (h1 : p ≤ 3) : Calls Tryz.prog 69 #[.int .i64 p] w fun e w' => e = .returned (.tuple #[.int .i64 1, .int .i64 0]) ∧ Below w.heap.size w w' := by
  have E0 := n_nil2
  have E1 := n_fun2
  have E2 := n_nil1
  have E3 := n_fun1
  go_enter Tryz.func69, Tryz.ntmps69
  go_wp2_with (first | (go_at_call 126; refine (ofOne_fun p _ (by omega) (by omega)).mono ?_; rintro e w1 ⟨f, rfl, hb⟩))
  go_ret2
  exact ⟨rfl, hb⟩
set_option maxRecDepth 100000 in
set_option maxHeartbeats 4000000 in
theorem arity_2 (p : Int) (w : World) (h : 15 ≤ p) (h1 : p ≤ 32) : Calls Tryz.prog 69 #[.int .i64 p] w fun e w' => e = .returned (.tuple #[.int .i64 2, .int .i64 0]) ∧ Below w.heap.size w w' := by
  have E0 := n_nil2
  have E1 := n_fun2
  have E2 := n_nil1
  have E3 := n_fun1
  go_enter Tryz.func69, Tryz.ntmps69
  go_wp2_with (first | (go_at_call 126; refine (ofOne_nil p _ (by omega)).mono ?_; rintro e w1 ⟨rfl, hb⟩) | (go_at_call 127; refine (ofTwo_fun p _ (by omega) (by omega)).mono ?_; rintro e w2 ⟨f, rfl, hb2⟩))
  go_ret2
  exact ⟨rfl, hb.trans (hb2.mono hb.size)⟩
set_option maxRecDepth 100000 in
set_option maxHeartbeats 4000000 in
theorem arity_0 (p : Int) (w : World) (h : p < 1 ∨ 3 < p) (h1 : p < 15 ∨ 32 < p) : Calls Tryz.prog 69 #[.int .i64 p] w fun e w' => e = .returned (.tuple #[.int .i64 0, .int .i64 2]) ∧ Below w.heap.size w w' := by
  have E0 := n_nil2
  have E1 := n_fun2
  have E2 := n_nil1
  have E3 := n_fun1
  go_enter Tryz.func69, Tryz.ntmps69
  go_wp2_with (first | (go_at_call 126; refine (ofOne_nil p _ (by omega)).mono ?_; rintro e w1 ⟨rfl, hb⟩) | (go_at_call 127; refine (ofTwo_nil p _ (by omega)).mono ?_; rintro e w2 ⟨rfl, hb2⟩))
  go_ret2
  exact ⟨rfl, hb.trans (hb2.mono hb.size)⟩
theorem arity_any (p : Int) (w : World) : Calls Tryz.prog 69 #[.int .i64 p] w fun e w' => e = .returned (.tuple #[.int .i64 (arV p), .int .i64 (arE p)]) ∧ Below w.heap.size w w' := by
  unfold arV arE
  by_cases h1 : 1 ≤ p ∧ p ≤ 3
  · rw [if_pos h1, if_pos (.inl h1)]; exact arity_1 p w h1.1 h1.2
  · by_cases h2 : 15 ≤ p ∧ p ≤ 32
    · rw [if_neg h1, if_pos h2, if_pos (.inr h2)]; exact arity_2 p w h2.1 h2.2
    · rw [if_neg h1, if_neg h2, if_neg (by omega)]; exact arity_0 p w (by omega) (by omega)
end Go.Proofs.YtpbfbejckhbijaaGreatDoor.Sc
