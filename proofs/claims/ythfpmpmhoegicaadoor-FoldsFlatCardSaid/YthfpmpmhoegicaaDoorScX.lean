/- Several texts as one (a claim has at most 60 files): ScA, ScB, ScC, ScD, ScE. -/
import Derived.Test.YthfpmpmhoegicaaDoorRows
import Derived.WalkKit
import Derived.WalkSpells
import Derived.WalkLawsBesides
import Derived.Lib.Hide
import Derived.Laws.EntriesVeiled
import Derived.Deep.Cut
namespace Go.Proofs.YthfpmpmhoegicaaDoor.Sc
open Go.RowKit

/-- A number of 64 bits. -/
def inr (z : Int) : Bool := decide (-9223372036854775808 ≤ z ∧ z ≤ 9223372036854775807)
def fit (z : Int) : Int := if inr z = true then z else 0
def fitE (z : Int) : Int := if inr z = true then 0 else 12
def clp (z : Int) : Int := if z < -9223372036854775808 then -9223372036854775808 else if 9223372036854775807 < z then 9223372036854775807 else z
def tr (b : Bool) : Int := if b = true then 1 else 0
theorem inr_iff {z : Int} : inr z = true ↔ -9223372036854775808 ≤ z ∧ z ≤ 9223372036854775807 := by simp [inr]
theorem inr_not {z : Int} : inr z = false ↔ ¬ (-9223372036854775808 ≤ z ∧ z ≤ 9223372036854775807) := by simp [inr]
theorem fit_in {z : Int} (h : inr z = true) : fit z = z ∧ fitE z = 0 := by simp [fit, fitE, h]
theorem fit_out {z : Int} (h : inr z = false) : fit z = 0 ∧ fitE z = 12 := by simp [fit, fitE, h]
theorem ret_two {a b c d : Value} (h : a = c) (k : b = d) : Ending.returned (.tuple #[a, b]) = .returned (.tuple #[c, d]) := by rw [h, k]
theorem iv {k : IntKind} {a b : Int} (h : a = b) : Value.int k a = Value.int k b := by rw [h]
theorem ret_bool {a b : Bool} (h : a = b) : Ending.returned (.bool a) = .returned (.bool b) := by rw [h]

/-- What wraps, divided again, tells whether a product is a number. -/
theorem mul_back (x y : Int) (hy : y ≠ 0) (y0 : -9223372036854775808 ≤ y) (y1 : y ≤ 9223372036854775807) :
    (wrap64 (x * y)).tdiv y = x → inr (x * y) = true := by
  intro h
  have h1 := Int.mul_tdiv_add_tmod (wrap64 (x * y)) y
  have h2 : -(y.natAbs : Int) < (wrap64 (x * y)).tmod y ∧ (wrap64 (x * y)).tmod y < (y.natAbs : Int) := by
    have := Int.natAbs_tmod (wrap64 (x * y)) y
    have := Nat.mod_lt (wrap64 (x * y)).natAbs (show 0 < y.natAbs by omega)
    omega
  rw [h] at h1
  have h3 : y * x = x * y := Int.mul_comm y x
  rw [h3] at h1
  rw [inr_iff]
  generalize x * y = m at h1 h2 ⊢
  generalize (wrap64 m).tmod y = r at h1 h2
  unfold wrap64 at h1
  omega
theorem mul_fore (x y : Int) (hy : y ≠ 0) (h : inr (x * y) = true) : (wrap64 (x * y)).tdiv y = x := by
  rw [inr_iff] at h
  rw [show wrap64 (x * y) = x * y by unfold wrap64; omega]
  exact Int.mul_tdiv_cancel x hy
/-- Floor division out of Go's. -/
theorem fdiv_of (x y : Int) (hy : y ≠ 0) : x.fdiv y = if (x.tmod y != 0 && (decide (x < 0) != decide (y < 0))) = true then x.tdiv y - 1 else x.tdiv y := by
  rw [Int.fdiv_eq_tdiv]
  by_cases h : y ∣ x
  · have h0 := Int.dvd_iff_tmod_eq_zero.1 h
    simp [h, h0]
  · have h0 : x.tmod y ≠ 0 := fun k => h (Int.dvd_iff_tmod_eq_zero.2 k)
    simp only [h, if_false]
    have h1 : (x.tmod y != 0) = true := by simpa using h0
    rw [h1, Bool.true_and]
    have hs : 0 < y → y.sign = 1 := Int.sign_eq_one_of_pos
    have ht : y < 0 → y.sign = -1 := Int.sign_eq_neg_one_of_neg
    by_cases hx : x < 0 <;> by_cases hz : y < 0
    · rw [if_neg (by omega : ¬ 0 ≤ x), if_neg (by omega : ¬ 0 ≤ y), ht hz]; simp [hx, hz]
    · rw [if_neg (by omega : ¬ 0 ≤ x), if_pos (by omega : 0 ≤ y), hs (by omega)]; simp [hx, hz]
    · rw [if_pos (by omega : 0 ≤ x), if_neg (by omega : ¬ 0 ≤ y)]; simp [hx, hz]
    · rw [if_pos (by omega : 0 ≤ x), if_pos (by omega : 0 ≤ y)]; simp [hx, hz]
theorem fmod_of (x y : Int) (_hy : y ≠ 0) : x.fmod y = if (x.tmod y != 0 && (decide (x < 0) != decide (y < 0))) = true then x.tmod y + y else x.tmod y := by
  rw [Int.fmod_eq_tmod]
  by_cases h : y ∣ x
  · have h0 := Int.dvd_iff_tmod_eq_zero.1 h
    simp [h, h0]
  · have h0 : x.tmod y ≠ 0 := fun k => h (Int.dvd_iff_tmod_eq_zero.2 k)
    simp only [h, if_false]
    have h1 : (x.tmod y != 0) = true := by simpa using h0
    rw [h1, Bool.true_and]
    by_cases hx : x < 0 <;> by_cases hz : y < 0
    · rw [if_neg (by omega : ¬ 0 ≤ x), if_neg (by omega : ¬ 0 ≤ y)]; simp [hx, hz]; omega
    · rw [if_neg (by omega : ¬ 0 ≤ x), if_pos (by omega : 0 ≤ y)]; simp [hx, hz]; omega
    · rw [if_pos (by omega : 0 ≤ x), if_neg (by omega : ¬ 0 ≤ y)]; simp [hx, hz]
    · rw [if_pos (by omega : 0 ≤ x), if_pos (by omega : 0 ≤ y)]; simp [hx, hz]
/-- The quotient is a number but in one case. -/
theorem tdiv_bd (x y : Int) (hy : y ≠ 0) (hy1 : y ≠ -1) (x0 : -9223372036854775808 ≤ x) (x1 : x ≤ 9223372036854775807) :
    -9223372036854775808 ≤ x.tdiv y ∧ x.tdiv y ≤ 9223372036854775807 ∧ (x.tmod y ≠ 0 → -9223372036854775807 ≤ x.tdiv y) := by
  have h1 := Int.natAbs_tdiv x y
  by_cases h : y = 1
  · subst h; simp; omega
  · have h2 : x.natAbs.div y.natAbs ≤ x.natAbs / 2 := Nat.div_le_div_left (by omega) (by omega)
    have h3 : (x.tdiv y).natAbs ≤ x.natAbs / 2 := by rw [h1]; exact h2
    omega
theorem tmod_bd (x y : Int) (hy : y ≠ 0) : -(y.natAbs : Int) < x.tmod y ∧ x.tmod y < (y.natAbs : Int) ∧ (0 ≤ x → 0 ≤ x.tmod y) ∧ (x < 0 → x.tmod y ≤ 0) := by
  have := Int.natAbs_tmod x y
  have := Nat.mod_lt x.natAbs (show 0 < y.natAbs by omega)
  refine ⟨by omega, by omega, fun h => Int.tmod_nonneg _ h, fun h => ?_⟩
  have := Int.tmod_nonneg y (show 0 ≤ -x by omega)
  rw [Int.neg_tmod] at this
  omega
theorem fmod_bd (x y : Int) (hy : y ≠ 0) : (0 < y → 0 ≤ x.fmod y ∧ x.fmod y < y) ∧ (y < 0 → y < x.fmod y ∧ x.fmod y ≤ 0) := by
  have h := tmod_bd x y hy
  rw [fmod_of x y hy]
  split
  · rename_i k; simp at k; omega
  · rename_i k; simp at k; omega
theorem fdiv_in (x y : Int) (hy : y ≠ 0) (hy1 : y ≠ -1) (x0 : -9223372036854775808 ≤ x) (x1 : x ≤ 9223372036854775807) : inr (x.fdiv y) = true := by
  have hb := tdiv_bd x y hy hy1 x0 x1
  rw [fdiv_of x y hy, inr_iff]
  split
  · rename_i k; simp at k; omega
  · omega
end Go.Proofs.YthfpmpmhoegicaaDoor.Sc
namespace Go.Proofs.YthfpmpmhoegicaaDoor.Sc
open Go.RowKit
set_option maxHeartbeats 1000000 in
theorem neg_any (x : Int) (w : World) (x0 : -9223372036854775808 ≤ x) (x1 : x ≤ 9223372036854775807) :
    Calls Tryd.prog 118 #[.int .i64 x] w fun e w' => e = .returned (.tuple #[.int .i64 (fit (-x)), .int .i64 (fitE (-x))]) ∧ w = w' := by
  go_enter Tryd.func118, Tryd.ntmps118
  go_wp2
  all_goals (go_ret2; exact ⟨ret_two (iv (by (first | rfl | omega | ((try unfold fit); (try unfold fitE); (try unfold tr); (try unfold inr); (try unfold wrap64); (try unfold wrap64 at *); simp_all <;> omega)))) (iv (by (first | rfl | omega | ((try unfold fit); (try unfold fitE); (try unfold tr); (try unfold inr); (try unfold wrap64); (try unfold wrap64 at *); simp_all <;> omega)))), rfl⟩)
set_option maxHeartbeats 1000000 in
theorem add_any (x y : Int) (w : World) (x0 : -9223372036854775808 ≤ x) (x1 : x ≤ 9223372036854775807) (y0 : -9223372036854775808 ≤ y) (y1 : y ≤ 9223372036854775807) :
    Calls Tryd.prog 93 #[.int .i64 x, .int .i64 y] w fun e w' => e = .returned (.tuple #[.int .i64 (fit (x + y)), .int .i64 (fitE (x + y))]) ∧ w = w' := by
  go_enter Tryd.func93, Tryd.ntmps93
  go_wp2
  all_goals (go_ret2; exact ⟨ret_two (iv (by (first | rfl | omega | ((try unfold fit); (try unfold fitE); (try unfold tr); (try unfold inr); (try unfold wrap64); (try unfold wrap64 at *); simp_all <;> omega)))) (iv (by (first | rfl | omega | ((try unfold fit); (try unfold fitE); (try unfold tr); (try unfold inr); (try unfold wrap64); (try unfold wrap64 at *); simp_all <;> omega)))), rfl⟩)
set_option maxHeartbeats 1000000 in
theorem sub_any (x y : Int) (w : World) (x0 : -9223372036854775808 ≤ x) (x1 : x ≤ 9223372036854775807) (y0 : -9223372036854775808 ≤ y) (y1 : y ≤ 9223372036854775807) :
    Calls Tryd.prog 94 #[.int .i64 x, .int .i64 y] w fun e w' => e = .returned (.tuple #[.int .i64 (fit (x - y)), .int .i64 (fitE (x - y))]) ∧ w = w' := by
  go_enter Tryd.func94, Tryd.ntmps94
  go_wp2
  all_goals (go_ret2; exact ⟨ret_two (iv (by (first | rfl | omega | ((try unfold fit); (try unfold fitE); (try unfold tr); (try unfold inr); (try unfold wrap64); (try unfold wrap64 at *); simp_all <;> omega)))) (iv (by (first | rfl | omega | ((try unfold fit); (try unfold fitE); (try unfold tr); (try unfold inr); (try unfold wrap64); (try unfold wrap64 at *); simp_all <;> omega)))), rfl⟩)
set_option maxHeartbeats 1000000 in
theorem eq_any (x y : Int) (w : World)  :
    Calls Tryd.prog 101 #[.int .i64 x, .int .i64 y] w fun e w' => e = .returned (.tuple #[.int .i64 (tr (x == y)), .int .i64 (0)]) ∧ w = w' := by
  go_enter Tryd.func101, Tryd.ntmps101
  go_wp2
  all_goals (go_ret2; exact ⟨ret_two (iv (by (first | rfl | omega | ((try unfold fit); (try unfold fitE); (try unfold tr); (try unfold inr); (try unfold wrap64); (try unfold wrap64 at *); simp_all <;> omega)))) (iv (by (first | rfl | omega | ((try unfold fit); (try unfold fitE); (try unfold tr); (try unfold inr); (try unfold wrap64); (try unfold wrap64 at *); simp_all <;> omega)))), rfl⟩)
set_option maxHeartbeats 1000000 in
theorem ne_any (x y : Int) (w : World)  :
    Calls Tryd.prog 102 #[.int .i64 x, .int .i64 y] w fun e w' => e = .returned (.tuple #[.int .i64 (tr (x != y)), .int .i64 (0)]) ∧ w = w' := by
  go_enter Tryd.func102, Tryd.ntmps102
  go_wp2
  all_goals (go_ret2; exact ⟨ret_two (iv (by (first | rfl | omega | ((try unfold fit); (try unfold fitE); (try unfold tr); (try unfold inr); (try unfold wrap64); (try unfold wrap64 at *); simp_all <;> omega)))) (iv (by (first | rfl | omega | ((try unfold fit); (try unfold fitE); (try unfold tr); (try unfold inr); (try unfold wrap64); (try unfold wrap64 at *); simp_all <;> omega)))), rfl⟩)
set_option maxHeartbeats 1000000 in
theorem lt_any (x y : Int) (w : World)  :
    Calls Tryd.prog 103 #[.int .i64 x, .int .i64 y] w fun e w' => e = .returned (.tuple #[.int .i64 (tr (decide (x < y))), .int .i64 (0)]) ∧ w = w' := by
  go_enter Tryd.func103, Tryd.ntmps103
  go_wp2
  all_goals (go_ret2; exact ⟨ret_two (iv (by (first | rfl | omega | ((try unfold fit); (try unfold fitE); (try unfold tr); (try unfold inr); (try unfold wrap64); (try unfold wrap64 at *); simp_all <;> omega)))) (iv (by (first | rfl | omega | ((try unfold fit); (try unfold fitE); (try unfold tr); (try unfold inr); (try unfold wrap64); (try unfold wrap64 at *); simp_all <;> omega)))), rfl⟩)
set_option maxHeartbeats 1000000 in
theorem le_any (x y : Int) (w : World)  :
    Calls Tryd.prog 104 #[.int .i64 x, .int .i64 y] w fun e w' => e = .returned (.tuple #[.int .i64 (tr (decide (x ≤ y))), .int .i64 (0)]) ∧ w = w' := by
  go_enter Tryd.func104, Tryd.ntmps104
  go_wp2
  all_goals (go_ret2; exact ⟨ret_two (iv (by (first | rfl | omega | ((try unfold fit); (try unfold fitE); (try unfold tr); (try unfold inr); (try unfold wrap64); (try unfold wrap64 at *); simp_all <;> omega)))) (iv (by (first | rfl | omega | ((try unfold fit); (try unfold fitE); (try unfold tr); (try unfold inr); (try unfold wrap64); (try unfold wrap64 at *); simp_all <;> omega)))), rfl⟩)
set_option maxHeartbeats 1000000 in
theorem gt_any (x y : Int) (w : World)  :
    Calls Tryd.prog 105 #[.int .i64 x, .int .i64 y] w fun e w' => e = .returned (.tuple #[.int .i64 (tr (decide (y < x))), .int .i64 (0)]) ∧ w = w' := by
  go_enter Tryd.func105, Tryd.ntmps105
  go_wp2
  all_goals (go_ret2; exact ⟨ret_two (iv (by (first | rfl | omega | ((try unfold fit); (try unfold fitE); (try unfold tr); (try unfold inr); (try unfold wrap64); (try unfold wrap64 at *); simp_all <;> omega)))) (iv (by (first | rfl | omega | ((try unfold fit); (try unfold fitE); (try unfold tr); (try unfold inr); (try unfold wrap64); (try unfold wrap64 at *); simp_all <;> omega)))), rfl⟩)
set_option maxHeartbeats 1000000 in
theorem ge_any (x y : Int) (w : World)  :
    Calls Tryd.prog 106 #[.int .i64 x, .int .i64 y] w fun e w' => e = .returned (.tuple #[.int .i64 (tr (decide (y ≤ x))), .int .i64 (0)]) ∧ w = w' := by
  go_enter Tryd.func106, Tryd.ntmps106
  go_wp2
  all_goals (go_ret2; exact ⟨ret_two (iv (by (first | rfl | omega | ((try unfold fit); (try unfold fitE); (try unfold tr); (try unfold inr); (try unfold wrap64); (try unfold wrap64 at *); simp_all <;> omega)))) (iv (by (first | rfl | omega | ((try unfold fit); (try unfold fitE); (try unfold tr); (try unfold inr); (try unfold wrap64); (try unfold wrap64 at *); simp_all <;> omega)))), rfl⟩)
set_option maxHeartbeats 1000000 in
theorem and_any (x y : Int) (w : World)  :
    Calls Tryd.prog 107 #[.int .i64 x, .int .i64 y] w fun e w' => e = .returned (.tuple #[.int .i64 (tr (x != 0 && y != 0)), .int .i64 (0)]) ∧ w = w' := by
  go_enter Tryd.func107, Tryd.ntmps107
  go_wp2
  all_goals (go_ret2; exact ⟨ret_two (iv (by (first | rfl | omega | ((try unfold fit); (try unfold fitE); (try unfold tr); (try unfold inr); (try unfold wrap64); (try unfold wrap64 at *); simp_all <;> omega)))) (iv (by (first | rfl | omega | ((try unfold fit); (try unfold fitE); (try unfold tr); (try unfold inr); (try unfold wrap64); (try unfold wrap64 at *); simp_all <;> omega)))), rfl⟩)
set_option maxHeartbeats 1000000 in
theorem sor_any (x y : Int) (w : World)  :
    Calls Tryd.prog 108 #[.int .i64 x, .int .i64 y] w fun e w' => e = .returned (.tuple #[.int .i64 (tr (x != 0 || y != 0)), .int .i64 (0)]) ∧ w = w' := by
  go_enter Tryd.func108, Tryd.ntmps108
  go_wp2
  all_goals (go_ret2; exact ⟨ret_two (iv (by (first | rfl | omega | ((try unfold fit); (try unfold fitE); (try unfold tr); (try unfold inr); (try unfold wrap64); (try unfold wrap64 at *); simp_all <;> omega)))) (iv (by (first | rfl | omega | ((try unfold fit); (try unfold fitE); (try unfold tr); (try unfold inr); (try unfold wrap64); (try unfold wrap64 at *); simp_all <;> omega)))), rfl⟩)
set_option maxHeartbeats 1000000 in
theorem smin_any (x y : Int) (w : World)  :
    Calls Tryd.prog 109 #[.int .i64 x, .int .i64 y] w fun e w' => e = .returned (.tuple #[.int .i64 (min x y), .int .i64 (0)]) ∧ w = w' := by
  go_enter Tryd.func109, Tryd.ntmps109
  go_wp2
  all_goals (go_ret2; exact ⟨ret_two (iv (by (first | rfl | omega | ((try unfold fit); (try unfold fitE); (try unfold tr); (try unfold inr); (try unfold wrap64); (try unfold wrap64 at *); simp_all <;> omega)))) (iv (by (first | rfl | omega | ((try unfold fit); (try unfold fitE); (try unfold tr); (try unfold inr); (try unfold wrap64); (try unfold wrap64 at *); simp_all <;> omega)))), rfl⟩)
set_option maxHeartbeats 1000000 in
theorem smax_any (x y : Int) (w : World)  :
    Calls Tryd.prog 110 #[.int .i64 x, .int .i64 y] w fun e w' => e = .returned (.tuple #[.int .i64 (max x y), .int .i64 (0)]) ∧ w = w' := by
  go_enter Tryd.func110, Tryd.ntmps110
  go_wp2
  all_goals (go_ret2; exact ⟨ret_two (iv (by (first | rfl | omega | ((try unfold fit); (try unfold fitE); (try unfold tr); (try unfold inr); (try unfold wrap64); (try unfold wrap64 at *); simp_all <;> omega)))) (iv (by (first | rfl | omega | ((try unfold fit); (try unfold fitE); (try unfold tr); (try unfold inr); (try unfold wrap64); (try unfold wrap64 at *); simp_all <;> omega)))), rfl⟩)
set_option maxHeartbeats 1000000 in
theorem mul_z (x y : Int) (w : World)  (hy : y = 0) :
    Calls Tryd.prog 95 #[.int .i64 x, .int .i64 y] w fun e w' => e = .returned (.tuple #[.int .i64 (0), .int .i64 (0)]) ∧ w = w' := by
  subst hy
  go_enter Tryd.func95, Tryd.ntmps95
  go_wp2
  all_goals (go_ret2; exact ⟨ret_two (iv (by (first | rfl | omega | ((try unfold fit); (try unfold fitE); (try unfold tr); (try unfold inr); (try unfold wrap64); (try unfold wrap64 at *); simp_all <;> omega)))) (iv (by (first | rfl | omega | ((try unfold fit); (try unfold fitE); (try unfold tr); (try unfold inr); (try unfold wrap64); (try unfold wrap64 at *); simp_all <;> omega)))), rfl⟩)
set_option maxHeartbeats 1000000 in
theorem mul_n (x y : Int) (w : World) (x0 : -9223372036854775808 ≤ x) (x1 : x ≤ 9223372036854775807) (hy : y = -1) :
    Calls Tryd.prog 95 #[.int .i64 x, .int .i64 y] w fun e w' => e = .returned (.tuple #[.int .i64 (fit (-x)), .int .i64 (fitE (-x))]) ∧ w = w' := by
  subst hy
  go_enter Tryd.func95, Tryd.ntmps95
  go_wp2
  all_goals (go_ret2; exact ⟨ret_two (iv (by (first | rfl | omega | ((try unfold fit); (try unfold fitE); (try unfold tr); (try unfold inr); (try unfold wrap64); (try unfold wrap64 at *); simp_all <;> omega)))) (iv (by (first | rfl | omega | ((try unfold fit); (try unfold fitE); (try unfold tr); (try unfold inr); (try unfold wrap64); (try unfold wrap64 at *); simp_all <;> omega)))), rfl⟩)
set_option maxHeartbeats 1000000 in
theorem mul_in (x y : Int) (w : World) (x0 : -9223372036854775808 ≤ x) (x1 : x ≤ 9223372036854775807) (hy : y ≠ 0) (hy1 : y ≠ -1) (h : inr (x * y) = true) :
    Calls Tryd.prog 95 #[.int .i64 x, .int .i64 y] w fun e w' => e = .returned (.tuple #[.int .i64 (x * y), .int .i64 (0)]) ∧ w = w' := by
  have hz : (y == 0) = false := by simpa using hy
  have hm : (y == -1) = false := by simpa using hy1
  have hw : wrap64 (x * y) = x * y := by rw [inr_iff] at h; unfold wrap64; omega
  have hd : (x * y).tdiv y = x := Int.mul_tdiv_cancel x hy
  have hx : wrap64 x = x := by unfold wrap64; omega
  go_enter Tryd.func95, Tryd.ntmps95
  go_wp2
  all_goals (go_ret2; exact ⟨ret_two (iv (by (first | rfl | omega | ((try unfold fit); (try unfold fitE); (try unfold tr); (try unfold inr); (try unfold wrap64); (try unfold wrap64 at *); simp_all <;> omega)))) (iv (by (first | rfl | omega | ((try unfold fit); (try unfold fitE); (try unfold tr); (try unfold inr); (try unfold wrap64); (try unfold wrap64 at *); simp_all <;> omega)))), rfl⟩)
set_option maxHeartbeats 1000000 in
theorem mul_out (x y : Int) (w : World)  (y0 : -9223372036854775808 ≤ y) (y1 : y ≤ 9223372036854775807) (hy : y ≠ 0) (hy1 : y ≠ -1) (h : inr (x * y) = false) :
    Calls Tryd.prog 95 #[.int .i64 x, .int .i64 y] w fun e w' => e = .returned (.tuple #[.int .i64 (0), .int .i64 (12)]) ∧ w = w' := by
  have hz : (y == 0) = false := by simpa using hy
  have hm : (y == -1) = false := by simpa using hy1
  have hq : (wrap64 ((wrap64 (x * y)).tdiv y) != x) = true := by
    rw [bne_iff_ne]
    intro k
    have hb := tdiv_bd (wrap64 (x * y)) y hy hy1 (by unfold wrap64; omega) (by unfold wrap64; omega)
    rw [show wrap64 ((wrap64 (x * y)).tdiv y) = (wrap64 (x * y)).tdiv y by clear k; generalize (wrap64 (x * y)).tdiv y = q at hb ⊢; unfold wrap64; omega] at k
    rw [mul_back x y hy y0 y1 k] at h
    cases h
  go_enter Tryd.func95, Tryd.ntmps95
  go_wp2
  all_goals (go_ret2; exact ⟨ret_two (iv (by (first | rfl | omega | ((try unfold fit); (try unfold fitE); (try unfold tr); (try unfold inr); (try unfold wrap64); (try unfold wrap64 at *); simp_all <;> omega)))) (iv (by (first | rfl | omega | ((try unfold fit); (try unfold fitE); (try unfold tr); (try unfold inr); (try unfold wrap64); (try unfold wrap64 at *); simp_all <;> omega)))), rfl⟩)
set_option maxHeartbeats 1000000 in
theorem div_z (x y : Int) (w : World)  (hy : y = 0) :
    Calls Tryd.prog 96 #[.int .i64 x, .int .i64 y] w fun e w' => e = .returned (.tuple #[.int .i64 (0), .int .i64 (13)]) ∧ w = w' := by
  subst hy
  go_enter Tryd.func96, Tryd.ntmps96
  go_wp2
  all_goals (go_ret2; exact ⟨ret_two (iv (by (first | rfl | omega | ((try unfold fit); (try unfold fitE); (try unfold tr); (try unfold inr); (try unfold wrap64); (try unfold wrap64 at *); simp_all <;> omega)))) (iv (by (first | rfl | omega | ((try unfold fit); (try unfold fitE); (try unfold tr); (try unfold inr); (try unfold wrap64); (try unfold wrap64 at *); simp_all <;> omega)))), rfl⟩)
set_option maxHeartbeats 1000000 in
theorem div_n (x y : Int) (w : World) (x0 : -9223372036854775808 ≤ x) (x1 : x ≤ 9223372036854775807) (hy : y = -1) :
    Calls Tryd.prog 96 #[.int .i64 x, .int .i64 y] w fun e w' => e = .returned (.tuple #[.int .i64 (fit (-x)), .int .i64 (fitE (-x))]) ∧ w = w' := by
  subst hy
  go_enter Tryd.func96, Tryd.ntmps96
  go_wp2
  all_goals (go_ret2; exact ⟨ret_two (iv (by (first | rfl | omega | ((try unfold fit); (try unfold fitE); (try unfold tr); (try unfold inr); (try unfold wrap64); (try unfold wrap64 at *); simp_all <;> omega)))) (iv (by (first | rfl | omega | ((try unfold fit); (try unfold fitE); (try unfold tr); (try unfold inr); (try unfold wrap64); (try unfold wrap64 at *); simp_all <;> omega)))), rfl⟩)
set_option maxHeartbeats 1000000 in
theorem div_any (x y : Int) (w : World) (x0 : -9223372036854775808 ≤ x) (x1 : x ≤ 9223372036854775807) (hy : y ≠ 0) (hy1 : y ≠ -1) :
    Calls Tryd.prog 96 #[.int .i64 x, .int .i64 y] w fun e w' => e = .returned (.tuple #[.int .i64 (x.fdiv y), .int .i64 (0)]) ∧ w = w' := by
  have hz : (y == 0) = false := by simpa using hy
  have hm : (y == -1) = false := by simpa using hy1
  have hb := tdiv_bd x y hy hy1 x0 x1
  have hf := fdiv_of x y hy
  have hw : wrap64 (x.tdiv y) = x.tdiv y := by unfold wrap64; omega
  have hw1 : x.tmod y ≠ 0 → wrap64 (x.tdiv y - 1) = x.tdiv y - 1 := by intro k; unfold wrap64; omega
  clear hb
  have HF := Lib.hid hf
  have HW := Lib.hid hw1
  clear hf hw1
  go_enter Tryd.func96, Tryd.ntmps96
  go_wp2
  all_goals (go_ret2; exact ⟨ret_two (iv (by rw [HF.out]; have k1 := HW.out; clear HF HW; simp_all)) (iv rfl), rfl⟩)
set_option maxHeartbeats 1000000 in
theorem mod_z (x y : Int) (w : World)  (hy : y = 0) :
    Calls Tryd.prog 97 #[.int .i64 x, .int .i64 y] w fun e w' => e = .returned (.tuple #[.int .i64 (0), .int .i64 (13)]) ∧ w = w' := by
  subst hy
  go_enter Tryd.func97, Tryd.ntmps97
  go_wp2
  all_goals (go_ret2; exact ⟨ret_two (iv (by (first | rfl | omega | ((try unfold fit); (try unfold fitE); (try unfold tr); (try unfold inr); (try unfold wrap64); (try unfold wrap64 at *); simp_all <;> omega)))) (iv (by (first | rfl | omega | ((try unfold fit); (try unfold fitE); (try unfold tr); (try unfold inr); (try unfold wrap64); (try unfold wrap64 at *); simp_all <;> omega)))), rfl⟩)
set_option maxHeartbeats 1000000 in
theorem mod_any (x y : Int) (w : World) (x0 : -9223372036854775808 ≤ x) (x1 : x ≤ 9223372036854775807) (y0 : -9223372036854775808 ≤ y) (y1 : y ≤ 9223372036854775807) (hy : y ≠ 0) :
    Calls Tryd.prog 97 #[.int .i64 x, .int .i64 y] w fun e w' => e = .returned (.tuple #[.int .i64 (x.fmod y), .int .i64 (0)]) ∧ w = w' := by
  have hz : (y == 0) = false := by simpa using hy
  have HB := Lib.hid (tmod_bd x y hy)
  have HF := Lib.hid (fmod_of x y hy)
  go_enter Tryd.func97, Tryd.ntmps97
  go_wp2
  all_goals (go_ret2; exact ⟨ret_two (iv (by rw [HF.out]; have k1 := HB.out; clear HF HB; generalize x.tmod y = r at *; simp_all <;> (unfold wrap64; omega))) (iv rfl), rfl⟩)
theorem mul_any (x y : Int) (w : World) (x0 : -9223372036854775808 ≤ x) (x1 : x ≤ 9223372036854775807) (y0 : -9223372036854775808 ≤ y) (y1 : y ≤ 9223372036854775807) :
    Calls Tryd.prog 95 #[.int .i64 x, .int .i64 y] w fun e w' => e = .returned (.tuple #[.int .i64 (fit (x * y)), .int .i64 (fitE (x * y))]) ∧ w = w' := by
  by_cases hy : y = 0
  · subst hy; rw [Int.mul_zero]; exact mul_z x 0 w rfl
  · by_cases hy1 : y = -1
    · subst hy1; rw [show x * -1 = -x by omega]; exact mul_n x (-1) w x0 x1 rfl
    · cases h : inr (x * y) with
      | true => rw [(fit_in h).1, (fit_in h).2]; exact mul_in x y w x0 x1 hy hy1 h
      | false => rw [(fit_out h).1, (fit_out h).2]; exact mul_out x y w y0 y1 hy hy1 h
theorem div_two (x y : Int) (w : World) (x0 : -9223372036854775808 ≤ x) (x1 : x ≤ 9223372036854775807) (hy : y ≠ 0) :
    Calls Tryd.prog 96 #[.int .i64 x, .int .i64 y] w fun e w' => e = .returned (.tuple #[.int .i64 (fit (x.fdiv y)), .int .i64 (fitE (x.fdiv y))]) ∧ w = w' := by
  by_cases hy1 : y = -1
  · subst hy1; rw [show x.fdiv (-1) = -x by rw [fdiv_of x (-1) (by decide)]; simp]; exact div_n x (-1) w x0 x1 rfl
  · have h := fdiv_in x y hy hy1 x0 x1
    rw [(fit_in h).1, (fit_in h).2]; exact div_any x y w x0 x1 hy hy1
theorem orEnd_ok (n : Int) (b : Bool) (w : World) :
    Calls Tryd.prog 119 #[.int .i64 n, .int .i64 0, .bool b] w fun e w' => e = .returned (.tuple #[.int .i64 n, .int .i64 0]) ∧ w = w' := by
  go_enter Tryd.func119, Tryd.ntmps119
  go_wp2
  all_goals (go_ret2; exact ⟨rfl, rfl⟩)
theorem orEnd_bad (n : Int) (b : Bool) (w : World) :
    Calls Tryd.prog 119 #[.int .i64 n, .int .i64 12, .bool b] w fun e w' => e = .returned (.tuple #[.int .i64 (if b = true then -9223372036854775808 else 9223372036854775807), .int .i64 0]) ∧ w = w' := by
  cases b <;> (go_enter Tryd.func119, Tryd.ntmps119; go_wp2; go_ret2; exact ⟨rfl, rfl⟩)
set_option maxHeartbeats 1000000 in
theorem plus_any (x y : Int) (w : World) (x0 : -9223372036854775808 ≤ x) (x1 : x ≤ 9223372036854775807) (y0 : -9223372036854775808 ≤ y) (y1 : y ≤ 9223372036854775807) :
    Calls Tryd.prog 98 #[.int .i64 x, .int .i64 y] w fun e w' => e = .returned (.tuple #[.int .i64 (clp (x + y)), .int .i64 (0)]) ∧ w = w' := by
  have HC : Hid (∀ W, Calls Tryd.prog 93 #[.int .i64 x, .int .i64 y] W fun e w' => e = .returned (.tuple #[.int .i64 (fit (x + y)), .int .i64 (fitE (x + y))]) ∧ W = w') := fun W => add_any x y W x0 x1 y0 y1
  cases h : inr (x + y) with
  | true =>
    rw [(fit_in h).1, (fit_in h).2] at HC
    have HI := Lib.hid (inr_iff.1 h)
    clear h
    go_enter Tryd.func98, Tryd.ntmps98
    go_wp2_with (first | (go_at_call 119; refine (orEnd_ok _ _ _).mono ?_; rintro e w' ⟨rfl, rfl⟩) | (go_at_call 93; refine (HC.out _).mono ?_; rintro e w' ⟨rfl, rfl⟩))
    all_goals (go_ret2; exact ⟨ret_two (iv (by have hi := HI.out; clear HI HC; unfold clp; split <;> (try split) <;> (try split) <;> (try simp_all) <;> omega)) (iv rfl), rfl⟩)
  | false =>
    rw [(fit_out h).1, (fit_out h).2] at HC
    have HI := Lib.hid (inr_not.1 h)
    clear h
    go_enter Tryd.func98, Tryd.ntmps98
    go_wp2_with (first | (go_at_call 119; refine (orEnd_bad _ _ _).mono ?_; rintro e w' ⟨rfl, rfl⟩) | (go_at_call 93; refine (HC.out _).mono ?_; rintro e w' ⟨rfl, rfl⟩))
    all_goals (go_ret2; exact ⟨ret_two (iv (by have hi := HI.out; clear HI HC; unfold clp; split <;> (try split) <;> (try split) <;> (try simp_all) <;> omega)) (iv rfl), rfl⟩)
set_option maxHeartbeats 1000000 in
theorem minus_any (x y : Int) (w : World) (x0 : -9223372036854775808 ≤ x) (x1 : x ≤ 9223372036854775807) (y0 : -9223372036854775808 ≤ y) (y1 : y ≤ 9223372036854775807) :
    Calls Tryd.prog 99 #[.int .i64 x, .int .i64 y] w fun e w' => e = .returned (.tuple #[.int .i64 (clp (x - y)), .int .i64 (0)]) ∧ w = w' := by
  have HC : Hid (∀ W, Calls Tryd.prog 94 #[.int .i64 x, .int .i64 y] W fun e w' => e = .returned (.tuple #[.int .i64 (fit (x - y)), .int .i64 (fitE (x - y))]) ∧ W = w') := fun W => sub_any x y W x0 x1 y0 y1
  cases h : inr (x - y) with
  | true =>
    rw [(fit_in h).1, (fit_in h).2] at HC
    have HI := Lib.hid (inr_iff.1 h)
    clear h
    go_enter Tryd.func99, Tryd.ntmps99
    go_wp2_with (first | (go_at_call 119; refine (orEnd_ok _ _ _).mono ?_; rintro e w' ⟨rfl, rfl⟩) | (go_at_call 94; refine (HC.out _).mono ?_; rintro e w' ⟨rfl, rfl⟩))
    all_goals (go_ret2; exact ⟨ret_two (iv (by have hi := HI.out; clear HI HC; unfold clp; split <;> (try split) <;> (try split) <;> (try simp_all) <;> omega)) (iv rfl), rfl⟩)
  | false =>
    rw [(fit_out h).1, (fit_out h).2] at HC
    have HI := Lib.hid (inr_not.1 h)
    clear h
    go_enter Tryd.func99, Tryd.ntmps99
    go_wp2_with (first | (go_at_call 119; refine (orEnd_bad _ _ _).mono ?_; rintro e w' ⟨rfl, rfl⟩) | (go_at_call 94; refine (HC.out _).mono ?_; rintro e w' ⟨rfl, rfl⟩))
    all_goals (go_ret2; exact ⟨ret_two (iv (by have hi := HI.out; clear HI HC; unfold clp; split <;> (try split) <;> (try split) <;> (try simp_all) <;> omega)) (iv rfl), rfl⟩)
set_option maxHeartbeats 1000000 in
theorem times_any (x y : Int) (w : World) (x0 : -9223372036854775808 ≤ x) (x1 : x ≤ 9223372036854775807) (y0 : -9223372036854775808 ≤ y) (y1 : y ≤ 9223372036854775807) :
    Calls Tryd.prog 100 #[.int .i64 x, .int .i64 y] w fun e w' => e = .returned (.tuple #[.int .i64 (clp (x * y)), .int .i64 (0)]) ∧ w = w' := by
  have HC : Hid (∀ W, Calls Tryd.prog 95 #[.int .i64 x, .int .i64 y] W fun e w' => e = .returned (.tuple #[.int .i64 (fit (x * y)), .int .i64 (fitE (x * y))]) ∧ W = w') := fun W => mul_any x y W x0 x1 y0 y1
  have HS : Hid ((x < 0 → y < 0 → 0 ≤ x * y) ∧ (0 ≤ x → 0 ≤ y → 0 ≤ x * y) ∧ (x < 0 → 0 ≤ y → x * y ≤ 0) ∧ (0 ≤ x → y < 0 → x * y ≤ 0)) := ⟨fun a b => Int.mul_nonneg_of_nonpos_of_nonpos (by omega) (by omega), fun a b => Int.mul_nonneg a b, fun a b => Int.mul_nonpos_of_nonpos_of_nonneg (by omega) b, fun a b => Int.mul_nonpos_of_nonneg_of_nonpos a (by omega)⟩
  generalize x * y = m at HC HS ⊢
  cases h : inr (m) with
  | true =>
    rw [(fit_in h).1, (fit_in h).2] at HC
    have HI := Lib.hid (inr_iff.1 h)
    clear h
    go_enter Tryd.func100, Tryd.ntmps100
    go_wp2_with (first | (go_at_call 119; refine (orEnd_ok _ _ _).mono ?_; rintro e w' ⟨rfl, rfl⟩) | (go_at_call 95; refine (HC.out _).mono ?_; rintro e w' ⟨rfl, rfl⟩))
    all_goals (go_ret2; exact ⟨ret_two (iv (by have hi := HI.out; clear HI HC ; have hs := HS.out; clear HS; unfold clp; split <;> (try split) <;> (try split) <;> (try simp_all) <;> omega)) (iv rfl), rfl⟩)
  | false =>
    rw [(fit_out h).1, (fit_out h).2] at HC
    have HI := Lib.hid (inr_not.1 h)
    clear h
    go_enter Tryd.func100, Tryd.ntmps100
    go_wp2_with (first | (go_at_call 119; refine (orEnd_bad _ _ _).mono ?_; rintro e w' ⟨rfl, rfl⟩) | (go_at_call 95; refine (HC.out _).mono ?_; rintro e w' ⟨rfl, rfl⟩))
    all_goals (go_ret2; exact ⟨ret_two (iv (by have hi := HI.out; clear HI HC ; have hs := HS.out; clear HS; unfold clp; split <;> (try split) <;> (try split) <;> (try simp_all) <;> omega)) (iv rfl), rfl⟩)
end Go.Proofs.YthfpmpmhoegicaaDoor.Sc
namespace Go.Proofs.YthfpmpmhoegicaaDoor.Sc
open Go.RowKit

theorem heap_new (w : World) (o : Obj) : (w.alloc o).heap[w.heap.size]? = some o := by
  unfold World.alloc; simp
theorem setRow_new (w : World) (a b : Array Value) (t : TypeId) : (w.alloc (.cells a t)).setRow w.heap.size b = w.alloc (.cells b t) := by
  unfold World.setRow World.alloc
  congr 1
  apply Array.ext
  · simp
  · intro k h1 h2
    simp only [Array.getElem_modify, Array.getElem_push]
    split
    · rename_i hk; subst hk; simp
    · rename_i hk
      have : k < w.heap.size := by simp at h1; omega
      simp [this]
def tbl2 : Array Value := #[.nilFunc, .nilFunc, .nilFunc, .nilFunc, .nilFunc, .nilFunc, .nilFunc, .nilFunc, .nilFunc, .nilFunc, .nilFunc, .nilFunc, .nilFunc, .nilFunc, .nilFunc, .func (.func 93) #[] #[], .func (.func 94) #[] #[], .func (.func 95) #[] #[], .func (.func 96) #[] #[], .func (.func 97) #[] #[], .func (.func 98) #[] #[], .func (.func 99) #[] #[], .func (.func 100) #[] #[], .func (.func 101) #[] #[], .func (.func 102) #[] #[], .func (.func 103) #[] #[], .func (.func 104) #[] #[], .func (.func 105) #[] #[], .func (.func 106) #[] #[], .func (.func 107) #[] #[], .func (.func 108) #[] #[], .func (.func 109) #[] #[], .func (.func 110) #[] #[]]
theorem tbl2_size : tbl2.size = 33 := rfl
theorem tbl2_one : tbl2.all (·.oneCell') = true := by kernel_rfl
set_option maxRecDepth 100000 in
set_option maxHeartbeats 4000000 in
theorem ofTwo_lo (p : Int) (w : World) (h : p < 0) :
    Calls Tryd.prog 83 #[.int .i64 p] w fun e w' => e = .returned .nilFunc ∧ Below w.heap.size w w' := by
  have HB := Lib.hid ((Below.refl w.heap.size w).alloc (Nat.le_refl _) (.cells tbl2 105))
  go_enter Tryd.func83, Tryd.ntmps83
  go_upto_region 1 with fail
  go_step
  go_step
  go_step
  go_step
  go_step
  go_step
  go_step
  refine wpList_store_row (P := Tryd.prog) rfl 105 (.tmp 3) (.tmp 4) rfl w.heap.size tbl2 rfl rfl 105 (Array.replicate 33 .nilFunc) (heap_new w _) rfl rfl tbl2_one ?_
  rw [setRow_new]
  go_wp2
  go_ret
  exact ⟨rfl, HB.out⟩
set_option maxRecDepth 100000 in
set_option maxHeartbeats 4000000 in
theorem ofTwo_hi (p : Int) (w : World) (h : 33 ≤ p) :
    Calls Tryd.prog 83 #[.int .i64 p] w fun e w' => e = .returned .nilFunc ∧ Below w.heap.size w w' := by
  have HB := Lib.hid ((Below.refl w.heap.size w).alloc (Nat.le_refl _) (.cells tbl2 105))
  have h0 : decide (p < 0) = false := decide_eq_false (by omega)
  go_enter Tryd.func83, Tryd.ntmps83
  go_upto_region 1 with fail
  go_step
  go_step
  go_step
  go_step
  go_step
  go_step
  go_step
  refine wpList_store_row (P := Tryd.prog) rfl 105 (.tmp 3) (.tmp 4) rfl w.heap.size tbl2 rfl rfl 105 (Array.replicate 33 .nilFunc) (heap_new w _) rfl rfl tbl2_one ?_
  rw [setRow_new]
  go_wp2
  go_ret
  exact ⟨rfl, HB.out⟩
set_option maxRecDepth 100000 in
set_option maxHeartbeats 4000000 in
theorem ofTwo_in (k : Nat) (v : Value) (w : World) (h : k < 33) (hv : tbl2[k]? = some v) :
    Calls Tryd.prog 83 #[.int .i64 k] w fun e w' => e = .returned v ∧ Below w.heap.size w w' := by
  have HB := Lib.hid ((Below.refl w.heap.size w).alloc (Nat.le_refl _) (.cells tbl2 105))
  have h0 : decide ((k : Int) < 0) = false := decide_eq_false (by omega)
  have h1 : decide ((33 : Int) ≤ (k : Int)) = false := decide_eq_false (by omega)
  have h2 : (k : Int) < 33 := by omega
  go_enter Tryd.func83, Tryd.ntmps83
  go_upto_region 1 with fail
  go_step
  go_step
  go_step
  go_step
  go_step
  go_step
  go_step
  refine wpList_store_row (P := Tryd.prog) rfl 105 (.tmp 3) (.tmp 4) rfl w.heap.size tbl2 rfl rfl 105 (Array.replicate 33 .nilFunc) (heap_new w _) rfl rfl tbl2_one ?_
  rw [setRow_new]
  go_wp2
  go_ret
  exact ⟨rfl, HB.out⟩
end Go.Proofs.YthfpmpmhoegicaaDoor.Sc
namespace Go.Proofs.YthfpmpmhoegicaaDoor.Sc
open Go.RowKit

/-- What a primitive of two numbers returns: its number, its error. -/
def twoV (p x y : Int) : Int × Int :=
  if p = 15 then (fit (x + y), fitE (x + y)) else
  if p = 16 then (fit (x - y), fitE (x - y)) else
  if p = 17 then (fit (x * y), fitE (x * y)) else
  if p = 18 then (if y = 0 then (0, 13) else (fit (x.fdiv y), fitE (x.fdiv y))) else
  if p = 19 then (if y = 0 then (0, 13) else (x.fmod y, 0)) else
  if p = 20 then (clp (x + y), 0) else
  if p = 21 then (clp (x - y), 0) else
  if p = 22 then (clp (x * y), 0) else
  if p = 23 then (tr (x == y), 0) else
  if p = 24 then (tr (x != y), 0) else
  if p = 25 then (tr (decide (x < y)), 0) else
  if p = 26 then (tr (decide (x ≤ y)), 0) else
  if p = 27 then (tr (decide (y < x)), 0) else
  if p = 28 then (tr (decide (y ≤ x)), 0) else
  if p = 29 then (tr (x != 0 && y != 0), 0) else
  if p = 30 then (tr (x != 0 || y != 0), 0) else
  if p = 31 then (min x y, 0) else
  if p = 32 then (max x y, 0) else
  (0, 2)
def oneV (p x : Int) : Int × Int :=
  if p = 1 then (fit (-x), fitE (-x)) else
  if p = 2 then (if x < 0 then (fit (-x), fitE (-x)) else (x, 0)) else
  if p = 3 then (tr (x == 0), 0) else (0, 2)
/-- Of how many numbers a primitive is. -/
def arV (p : Int) : Int := if 1 ≤ p ∧ p ≤ 3 then 1 else if 15 ≤ p ∧ p ≤ 32 then 2 else 0
def arE (p : Int) : Int := if (1 ≤ p ∧ p ≤ 3) ∨ (15 ≤ p ∧ p ≤ 32) then 0 else 2
def ovV (p : Int) : Bool := decide (p = 1 ∨ p = 2 ∨ (15 ≤ p ∧ p ≤ 19))
set_option maxRecDepth 100000 in
theorem e_nil2 (w : World) : (Go.binOp .eql 94 .nilFunc .nilFunc).run Tryd.prog w = .ok (.bool true) w := rfl
set_option maxRecDepth 100000 in
theorem e_fun2 (k : FuncId) (w : World) : (Go.binOp .eql 94 (.func (.func k) #[] #[]) .nilFunc).run Tryd.prog w = .ok (.bool false) w := rfl
set_option maxRecDepth 100000 in
theorem n_nil2 (w : World) : (Go.binOp .neq 94 .nilFunc .nilFunc).run Tryd.prog w = .ok (.bool false) w := rfl
set_option maxRecDepth 100000 in
theorem n_fun2 (k : FuncId) (w : World) : (Go.binOp .neq 94 (.func (.func k) #[] #[]) .nilFunc).run Tryd.prog w = .ok (.bool true) w := rfl
theorem Below.step1 {n : Nat} {w w' : World} (h : Below n w w') : Below n w w' := h
set_option maxRecDepth 100000 in
set_option maxHeartbeats 4000000 in
theorem two_lo (p x y : Int) (w : World) (h : p < 0) :
    Calls Tryd.prog 73 #[.int .i64 p, .int .i64 x, .int .i64 y] w fun e w' => e = .returned (.tuple #[.int .i64 (0), .int .i64 (2)]) ∧ Below w.heap.size w w' := by
  have E0 := e_nil2
  have E1 := e_fun2
  go_enter Tryd.func73, Tryd.ntmps73
  go_wp2_with (first | (go_at_call 83; refine (ofTwo_lo p _ h).mono ?_; rintro e w' ⟨rfl, hb⟩))
  go_ret2
  exact ⟨rfl, hb⟩
set_option maxRecDepth 100000 in
set_option maxHeartbeats 4000000 in
theorem two_hi (p x y : Int) (w : World) (h : 33 ≤ p) :
    Calls Tryd.prog 73 #[.int .i64 p, .int .i64 x, .int .i64 y] w fun e w' => e = .returned (.tuple #[.int .i64 (0), .int .i64 (2)]) ∧ Below w.heap.size w w' := by
  have E0 := e_nil2
  have E1 := e_fun2
  go_enter Tryd.func73, Tryd.ntmps73
  go_wp2_with (first | (go_at_call 83; refine (ofTwo_hi p _ h).mono ?_; rintro e w' ⟨rfl, hb⟩))
  go_ret2
  exact ⟨rfl, hb⟩
set_option maxRecDepth 100000 in
set_option maxHeartbeats 4000000 in
theorem two_n0 (x y : Int) (w : World)  :
    Calls Tryd.prog 73 #[.int .i64 0, .int .i64 x, .int .i64 y] w fun e w' => e = .returned (.tuple #[.int .i64 (0), .int .i64 (2)]) ∧ Below w.heap.size w w' := by
  have E0 := e_nil2
  have E1 := e_fun2
  go_enter Tryd.func73, Tryd.ntmps73
  go_wp2_with (first | (go_at_call 83; refine (ofTwo_in 0 .nilFunc _ (by decide) rfl).mono ?_; rintro e w' ⟨rfl, hb⟩))
  go_ret2
  exact ⟨rfl, hb⟩
set_option maxRecDepth 100000 in
set_option maxHeartbeats 4000000 in
theorem two_n1 (x y : Int) (w : World)  :
    Calls Tryd.prog 73 #[.int .i64 1, .int .i64 x, .int .i64 y] w fun e w' => e = .returned (.tuple #[.int .i64 (0), .int .i64 (2)]) ∧ Below w.heap.size w w' := by
  have E0 := e_nil2
  have E1 := e_fun2
  go_enter Tryd.func73, Tryd.ntmps73
  go_wp2_with (first | (go_at_call 83; refine (ofTwo_in 1 .nilFunc _ (by decide) rfl).mono ?_; rintro e w' ⟨rfl, hb⟩))
  go_ret2
  exact ⟨rfl, hb⟩
set_option maxRecDepth 100000 in
set_option maxHeartbeats 4000000 in
theorem two_n2 (x y : Int) (w : World)  :
    Calls Tryd.prog 73 #[.int .i64 2, .int .i64 x, .int .i64 y] w fun e w' => e = .returned (.tuple #[.int .i64 (0), .int .i64 (2)]) ∧ Below w.heap.size w w' := by
  have E0 := e_nil2
  have E1 := e_fun2
  go_enter Tryd.func73, Tryd.ntmps73
  go_wp2_with (first | (go_at_call 83; refine (ofTwo_in 2 .nilFunc _ (by decide) rfl).mono ?_; rintro e w' ⟨rfl, hb⟩))
  go_ret2
  exact ⟨rfl, hb⟩
set_option maxRecDepth 100000 in
set_option maxHeartbeats 4000000 in
theorem two_n3 (x y : Int) (w : World)  :
    Calls Tryd.prog 73 #[.int .i64 3, .int .i64 x, .int .i64 y] w fun e w' => e = .returned (.tuple #[.int .i64 (0), .int .i64 (2)]) ∧ Below w.heap.size w w' := by
  have E0 := e_nil2
  have E1 := e_fun2
  go_enter Tryd.func73, Tryd.ntmps73
  go_wp2_with (first | (go_at_call 83; refine (ofTwo_in 3 .nilFunc _ (by decide) rfl).mono ?_; rintro e w' ⟨rfl, hb⟩))
  go_ret2
  exact ⟨rfl, hb⟩
set_option maxRecDepth 100000 in
set_option maxHeartbeats 4000000 in
theorem two_n4 (x y : Int) (w : World)  :
    Calls Tryd.prog 73 #[.int .i64 4, .int .i64 x, .int .i64 y] w fun e w' => e = .returned (.tuple #[.int .i64 (0), .int .i64 (2)]) ∧ Below w.heap.size w w' := by
  have E0 := e_nil2
  have E1 := e_fun2
  go_enter Tryd.func73, Tryd.ntmps73
  go_wp2_with (first | (go_at_call 83; refine (ofTwo_in 4 .nilFunc _ (by decide) rfl).mono ?_; rintro e w' ⟨rfl, hb⟩))
  go_ret2
  exact ⟨rfl, hb⟩
set_option maxRecDepth 100000 in
set_option maxHeartbeats 4000000 in
theorem two_n5 (x y : Int) (w : World)  :
    Calls Tryd.prog 73 #[.int .i64 5, .int .i64 x, .int .i64 y] w fun e w' => e = .returned (.tuple #[.int .i64 (0), .int .i64 (2)]) ∧ Below w.heap.size w w' := by
  have E0 := e_nil2
  have E1 := e_fun2
  go_enter Tryd.func73, Tryd.ntmps73
  go_wp2_with (first | (go_at_call 83; refine (ofTwo_in 5 .nilFunc _ (by decide) rfl).mono ?_; rintro e w' ⟨rfl, hb⟩))
  go_ret2
  exact ⟨rfl, hb⟩
set_option maxRecDepth 100000 in
set_option maxHeartbeats 4000000 in
theorem two_n6 (x y : Int) (w : World)  :
    Calls Tryd.prog 73 #[.int .i64 6, .int .i64 x, .int .i64 y] w fun e w' => e = .returned (.tuple #[.int .i64 (0), .int .i64 (2)]) ∧ Below w.heap.size w w' := by
  have E0 := e_nil2
  have E1 := e_fun2
  go_enter Tryd.func73, Tryd.ntmps73
  go_wp2_with (first | (go_at_call 83; refine (ofTwo_in 6 .nilFunc _ (by decide) rfl).mono ?_; rintro e w' ⟨rfl, hb⟩))
  go_ret2
  exact ⟨rfl, hb⟩
set_option maxRecDepth 100000 in
set_option maxHeartbeats 4000000 in
theorem two_n7 (x y : Int) (w : World)  :
    Calls Tryd.prog 73 #[.int .i64 7, .int .i64 x, .int .i64 y] w fun e w' => e = .returned (.tuple #[.int .i64 (0), .int .i64 (2)]) ∧ Below w.heap.size w w' := by
  have E0 := e_nil2
  have E1 := e_fun2
  go_enter Tryd.func73, Tryd.ntmps73
  go_wp2_with (first | (go_at_call 83; refine (ofTwo_in 7 .nilFunc _ (by decide) rfl).mono ?_; rintro e w' ⟨rfl, hb⟩))
  go_ret2
  exact ⟨rfl, hb⟩
set_option maxRecDepth 100000 in
set_option maxHeartbeats 4000000 in
theorem two_n8 (x y : Int) (w : World)  :
    Calls Tryd.prog 73 #[.int .i64 8, .int .i64 x, .int .i64 y] w fun e w' => e = .returned (.tuple #[.int .i64 (0), .int .i64 (2)]) ∧ Below w.heap.size w w' := by
  have E0 := e_nil2
  have E1 := e_fun2
  go_enter Tryd.func73, Tryd.ntmps73
  go_wp2_with (first | (go_at_call 83; refine (ofTwo_in 8 .nilFunc _ (by decide) rfl).mono ?_; rintro e w' ⟨rfl, hb⟩))
  go_ret2
  exact ⟨rfl, hb⟩
set_option maxRecDepth 100000 in
set_option maxHeartbeats 4000000 in
theorem two_n9 (x y : Int) (w : World)  :
    Calls Tryd.prog 73 #[.int .i64 9, .int .i64 x, .int .i64 y] w fun e w' => e = .returned (.tuple #[.int .i64 (0), .int .i64 (2)]) ∧ Below w.heap.size w w' := by
  have E0 := e_nil2
  have E1 := e_fun2
  go_enter Tryd.func73, Tryd.ntmps73
  go_wp2_with (first | (go_at_call 83; refine (ofTwo_in 9 .nilFunc _ (by decide) rfl).mono ?_; rintro e w' ⟨rfl, hb⟩))
  go_ret2
  exact ⟨rfl, hb⟩
set_option maxRecDepth 100000 in
set_option maxHeartbeats 4000000 in
theorem two_n10 (x y : Int) (w : World)  :
    Calls Tryd.prog 73 #[.int .i64 10, .int .i64 x, .int .i64 y] w fun e w' => e = .returned (.tuple #[.int .i64 (0), .int .i64 (2)]) ∧ Below w.heap.size w w' := by
  have E0 := e_nil2
  have E1 := e_fun2
  go_enter Tryd.func73, Tryd.ntmps73
  go_wp2_with (first | (go_at_call 83; refine (ofTwo_in 10 .nilFunc _ (by decide) rfl).mono ?_; rintro e w' ⟨rfl, hb⟩))
  go_ret2
  exact ⟨rfl, hb⟩
set_option maxRecDepth 100000 in
set_option maxHeartbeats 4000000 in
theorem two_n11 (x y : Int) (w : World)  :
    Calls Tryd.prog 73 #[.int .i64 11, .int .i64 x, .int .i64 y] w fun e w' => e = .returned (.tuple #[.int .i64 (0), .int .i64 (2)]) ∧ Below w.heap.size w w' := by
  have E0 := e_nil2
  have E1 := e_fun2
  go_enter Tryd.func73, Tryd.ntmps73
  go_wp2_with (first | (go_at_call 83; refine (ofTwo_in 11 .nilFunc _ (by decide) rfl).mono ?_; rintro e w' ⟨rfl, hb⟩))
  go_ret2
  exact ⟨rfl, hb⟩
set_option maxRecDepth 100000 in
set_option maxHeartbeats 4000000 in
theorem two_n12 (x y : Int) (w : World)  :
    Calls Tryd.prog 73 #[.int .i64 12, .int .i64 x, .int .i64 y] w fun e w' => e = .returned (.tuple #[.int .i64 (0), .int .i64 (2)]) ∧ Below w.heap.size w w' := by
  have E0 := e_nil2
  have E1 := e_fun2
  go_enter Tryd.func73, Tryd.ntmps73
  go_wp2_with (first | (go_at_call 83; refine (ofTwo_in 12 .nilFunc _ (by decide) rfl).mono ?_; rintro e w' ⟨rfl, hb⟩))
  go_ret2
  exact ⟨rfl, hb⟩
set_option maxRecDepth 100000 in
set_option maxHeartbeats 4000000 in
theorem two_n13 (x y : Int) (w : World)  :
    Calls Tryd.prog 73 #[.int .i64 13, .int .i64 x, .int .i64 y] w fun e w' => e = .returned (.tuple #[.int .i64 (0), .int .i64 (2)]) ∧ Below w.heap.size w w' := by
  have E0 := e_nil2
  have E1 := e_fun2
  go_enter Tryd.func73, Tryd.ntmps73
  go_wp2_with (first | (go_at_call 83; refine (ofTwo_in 13 .nilFunc _ (by decide) rfl).mono ?_; rintro e w' ⟨rfl, hb⟩))
  go_ret2
  exact ⟨rfl, hb⟩
set_option maxRecDepth 100000 in
set_option maxHeartbeats 4000000 in
theorem two_n14 (x y : Int) (w : World)  :
    Calls Tryd.prog 73 #[.int .i64 14, .int .i64 x, .int .i64 y] w fun e w' => e = .returned (.tuple #[.int .i64 (0), .int .i64 (2)]) ∧ Below w.heap.size w w' := by
  have E0 := e_nil2
  have E1 := e_fun2
  go_enter Tryd.func73, Tryd.ntmps73
  go_wp2_with (first | (go_at_call 83; refine (ofTwo_in 14 .nilFunc _ (by decide) rfl).mono ?_; rintro e w' ⟨rfl, hb⟩))
  go_ret2
  exact ⟨rfl, hb⟩
set_option maxRecDepth 100000 in
set_option maxHeartbeats 4000000 in
theorem two_15 (x y : Int) (w : World) (x0 : -9223372036854775808 ≤ x) (x1 : x ≤ 9223372036854775807) (y0 : -9223372036854775808 ≤ y) (y1 : y ≤ 9223372036854775807) :
    Calls Tryd.prog 73 #[.int .i64 15, .int .i64 x, .int .i64 y] w fun e w' => e = .returned (.tuple #[.int .i64 (fit (x + y)), .int .i64 (fitE (x + y))]) ∧ Below w.heap.size w w' := by
  have E0 := e_nil2
  have E1 := e_fun2
  go_enter Tryd.func73, Tryd.ntmps73
  go_wp2_with (first | (go_at_call 83; refine (ofTwo_in 15 (.func (.func 93) #[] #[]) _ (by decide) rfl).mono ?_; rintro e w' ⟨rfl, hb⟩) | (go_at_call 93; refine (add_any _ _ _ x0 x1 y0 y1).mono ?_; rintro e w'' ⟨rfl, rfl⟩))
  go_ret2
  exact ⟨rfl, hb⟩
set_option maxRecDepth 100000 in
set_option maxHeartbeats 4000000 in
theorem two_16 (x y : Int) (w : World) (x0 : -9223372036854775808 ≤ x) (x1 : x ≤ 9223372036854775807) (y0 : -9223372036854775808 ≤ y) (y1 : y ≤ 9223372036854775807) :
    Calls Tryd.prog 73 #[.int .i64 16, .int .i64 x, .int .i64 y] w fun e w' => e = .returned (.tuple #[.int .i64 (fit (x - y)), .int .i64 (fitE (x - y))]) ∧ Below w.heap.size w w' := by
  have E0 := e_nil2
  have E1 := e_fun2
  go_enter Tryd.func73, Tryd.ntmps73
  go_wp2_with (first | (go_at_call 83; refine (ofTwo_in 16 (.func (.func 94) #[] #[]) _ (by decide) rfl).mono ?_; rintro e w' ⟨rfl, hb⟩) | (go_at_call 94; refine (sub_any _ _ _ x0 x1 y0 y1).mono ?_; rintro e w'' ⟨rfl, rfl⟩))
  go_ret2
  exact ⟨rfl, hb⟩
set_option maxRecDepth 100000 in
set_option maxHeartbeats 4000000 in
theorem two_17 (x y : Int) (w : World) (x0 : -9223372036854775808 ≤ x) (x1 : x ≤ 9223372036854775807) (y0 : -9223372036854775808 ≤ y) (y1 : y ≤ 9223372036854775807) :
    Calls Tryd.prog 73 #[.int .i64 17, .int .i64 x, .int .i64 y] w fun e w' => e = .returned (.tuple #[.int .i64 (fit (x * y)), .int .i64 (fitE (x * y))]) ∧ Below w.heap.size w w' := by
  have E0 := e_nil2
  have E1 := e_fun2
  go_enter Tryd.func73, Tryd.ntmps73
  go_wp2_with (first | (go_at_call 83; refine (ofTwo_in 17 (.func (.func 95) #[] #[]) _ (by decide) rfl).mono ?_; rintro e w' ⟨rfl, hb⟩) | (go_at_call 95; refine (mul_any _ _ _ x0 x1 y0 y1).mono ?_; rintro e w'' ⟨rfl, rfl⟩))
  go_ret2
  exact ⟨rfl, hb⟩
set_option maxRecDepth 100000 in
set_option maxHeartbeats 4000000 in
theorem two_18 (x y : Int) (w : World) (x0 : -9223372036854775808 ≤ x) (x1 : x ≤ 9223372036854775807) (hy : y ≠ 0) :
    Calls Tryd.prog 73 #[.int .i64 18, .int .i64 x, .int .i64 y] w fun e w' => e = .returned (.tuple #[.int .i64 (fit (x.fdiv y)), .int .i64 (fitE (x.fdiv y))]) ∧ Below w.heap.size w w' := by
  have E0 := e_nil2
  have E1 := e_fun2
  go_enter Tryd.func73, Tryd.ntmps73
  go_wp2_with (first | (go_at_call 83; refine (ofTwo_in 18 (.func (.func 96) #[] #[]) _ (by decide) rfl).mono ?_; rintro e w' ⟨rfl, hb⟩) | (go_at_call 96; refine (div_two _ _ _ x0 x1 hy).mono ?_; rintro e w'' ⟨rfl, rfl⟩))
  go_ret2
  exact ⟨rfl, hb⟩
set_option maxRecDepth 100000 in
set_option maxHeartbeats 4000000 in
theorem two_19 (x y : Int) (w : World) (x0 : -9223372036854775808 ≤ x) (x1 : x ≤ 9223372036854775807) (y0 : -9223372036854775808 ≤ y) (y1 : y ≤ 9223372036854775807) (hy : y ≠ 0) :
    Calls Tryd.prog 73 #[.int .i64 19, .int .i64 x, .int .i64 y] w fun e w' => e = .returned (.tuple #[.int .i64 (x.fmod y), .int .i64 (0)]) ∧ Below w.heap.size w w' := by
  have E0 := e_nil2
  have E1 := e_fun2
  go_enter Tryd.func73, Tryd.ntmps73
  go_wp2_with (first | (go_at_call 83; refine (ofTwo_in 19 (.func (.func 97) #[] #[]) _ (by decide) rfl).mono ?_; rintro e w' ⟨rfl, hb⟩) | (go_at_call 97; refine (mod_any _ _ _ x0 x1 y0 y1 hy).mono ?_; rintro e w'' ⟨rfl, rfl⟩))
  go_ret2
  exact ⟨rfl, hb⟩
set_option maxRecDepth 100000 in
set_option maxHeartbeats 4000000 in
theorem two_20 (x y : Int) (w : World) (x0 : -9223372036854775808 ≤ x) (x1 : x ≤ 9223372036854775807) (y0 : -9223372036854775808 ≤ y) (y1 : y ≤ 9223372036854775807) :
    Calls Tryd.prog 73 #[.int .i64 20, .int .i64 x, .int .i64 y] w fun e w' => e = .returned (.tuple #[.int .i64 (clp (x + y)), .int .i64 (0)]) ∧ Below w.heap.size w w' := by
  have E0 := e_nil2
  have E1 := e_fun2
  go_enter Tryd.func73, Tryd.ntmps73
  go_wp2_with (first | (go_at_call 83; refine (ofTwo_in 20 (.func (.func 98) #[] #[]) _ (by decide) rfl).mono ?_; rintro e w' ⟨rfl, hb⟩) | (go_at_call 98; refine (plus_any _ _ _ x0 x1 y0 y1).mono ?_; rintro e w'' ⟨rfl, rfl⟩))
  go_ret2
  exact ⟨rfl, hb⟩
set_option maxRecDepth 100000 in
set_option maxHeartbeats 4000000 in
theorem two_21 (x y : Int) (w : World) (x0 : -9223372036854775808 ≤ x) (x1 : x ≤ 9223372036854775807) (y0 : -9223372036854775808 ≤ y) (y1 : y ≤ 9223372036854775807) :
    Calls Tryd.prog 73 #[.int .i64 21, .int .i64 x, .int .i64 y] w fun e w' => e = .returned (.tuple #[.int .i64 (clp (x - y)), .int .i64 (0)]) ∧ Below w.heap.size w w' := by
  have E0 := e_nil2
  have E1 := e_fun2
  go_enter Tryd.func73, Tryd.ntmps73
  go_wp2_with (first | (go_at_call 83; refine (ofTwo_in 21 (.func (.func 99) #[] #[]) _ (by decide) rfl).mono ?_; rintro e w' ⟨rfl, hb⟩) | (go_at_call 99; refine (minus_any _ _ _ x0 x1 y0 y1).mono ?_; rintro e w'' ⟨rfl, rfl⟩))
  go_ret2
  exact ⟨rfl, hb⟩
set_option maxRecDepth 100000 in
set_option maxHeartbeats 4000000 in
theorem two_22 (x y : Int) (w : World) (x0 : -9223372036854775808 ≤ x) (x1 : x ≤ 9223372036854775807) (y0 : -9223372036854775808 ≤ y) (y1 : y ≤ 9223372036854775807) :
    Calls Tryd.prog 73 #[.int .i64 22, .int .i64 x, .int .i64 y] w fun e w' => e = .returned (.tuple #[.int .i64 (clp (x * y)), .int .i64 (0)]) ∧ Below w.heap.size w w' := by
  have E0 := e_nil2
  have E1 := e_fun2
  go_enter Tryd.func73, Tryd.ntmps73
  go_wp2_with (first | (go_at_call 83; refine (ofTwo_in 22 (.func (.func 100) #[] #[]) _ (by decide) rfl).mono ?_; rintro e w' ⟨rfl, hb⟩) | (go_at_call 100; refine (times_any _ _ _ x0 x1 y0 y1).mono ?_; rintro e w'' ⟨rfl, rfl⟩))
  go_ret2
  exact ⟨rfl, hb⟩
set_option maxRecDepth 100000 in
set_option maxHeartbeats 4000000 in
theorem two_23 (x y : Int) (w : World)  :
    Calls Tryd.prog 73 #[.int .i64 23, .int .i64 x, .int .i64 y] w fun e w' => e = .returned (.tuple #[.int .i64 (tr (x == y)), .int .i64 (0)]) ∧ Below w.heap.size w w' := by
  have E0 := e_nil2
  have E1 := e_fun2
  go_enter Tryd.func73, Tryd.ntmps73
  go_wp2_with (first | (go_at_call 83; refine (ofTwo_in 23 (.func (.func 101) #[] #[]) _ (by decide) rfl).mono ?_; rintro e w' ⟨rfl, hb⟩) | (go_at_call 101; refine (eq_any _ _ _).mono ?_; rintro e w'' ⟨rfl, rfl⟩))
  go_ret2
  exact ⟨rfl, hb⟩
set_option maxRecDepth 100000 in
set_option maxHeartbeats 4000000 in
theorem two_24 (x y : Int) (w : World)  :
    Calls Tryd.prog 73 #[.int .i64 24, .int .i64 x, .int .i64 y] w fun e w' => e = .returned (.tuple #[.int .i64 (tr (x != y)), .int .i64 (0)]) ∧ Below w.heap.size w w' := by
  have E0 := e_nil2
  have E1 := e_fun2
  go_enter Tryd.func73, Tryd.ntmps73
  go_wp2_with (first | (go_at_call 83; refine (ofTwo_in 24 (.func (.func 102) #[] #[]) _ (by decide) rfl).mono ?_; rintro e w' ⟨rfl, hb⟩) | (go_at_call 102; refine (ne_any _ _ _).mono ?_; rintro e w'' ⟨rfl, rfl⟩))
  go_ret2
  exact ⟨rfl, hb⟩
set_option maxRecDepth 100000 in
set_option maxHeartbeats 4000000 in
theorem two_25 (x y : Int) (w : World)  :
    Calls Tryd.prog 73 #[.int .i64 25, .int .i64 x, .int .i64 y] w fun e w' => e = .returned (.tuple #[.int .i64 (tr (decide (x < y))), .int .i64 (0)]) ∧ Below w.heap.size w w' := by
  have E0 := e_nil2
  have E1 := e_fun2
  go_enter Tryd.func73, Tryd.ntmps73
  go_wp2_with (first | (go_at_call 83; refine (ofTwo_in 25 (.func (.func 103) #[] #[]) _ (by decide) rfl).mono ?_; rintro e w' ⟨rfl, hb⟩) | (go_at_call 103; refine (lt_any _ _ _).mono ?_; rintro e w'' ⟨rfl, rfl⟩))
  go_ret2
  exact ⟨rfl, hb⟩
set_option maxRecDepth 100000 in
set_option maxHeartbeats 4000000 in
theorem two_26 (x y : Int) (w : World)  :
    Calls Tryd.prog 73 #[.int .i64 26, .int .i64 x, .int .i64 y] w fun e w' => e = .returned (.tuple #[.int .i64 (tr (decide (x ≤ y))), .int .i64 (0)]) ∧ Below w.heap.size w w' := by
  have E0 := e_nil2
  have E1 := e_fun2
  go_enter Tryd.func73, Tryd.ntmps73
  go_wp2_with (first | (go_at_call 83; refine (ofTwo_in 26 (.func (.func 104) #[] #[]) _ (by decide) rfl).mono ?_; rintro e w' ⟨rfl, hb⟩) | (go_at_call 104; refine (le_any _ _ _).mono ?_; rintro e w'' ⟨rfl, rfl⟩))
  go_ret2
  exact ⟨rfl, hb⟩
set_option maxRecDepth 100000 in
set_option maxHeartbeats 4000000 in
theorem two_27 (x y : Int) (w : World)  :
    Calls Tryd.prog 73 #[.int .i64 27, .int .i64 x, .int .i64 y] w fun e w' => e = .returned (.tuple #[.int .i64 (tr (decide (y < x))), .int .i64 (0)]) ∧ Below w.heap.size w w' := by
  have E0 := e_nil2
  have E1 := e_fun2
  go_enter Tryd.func73, Tryd.ntmps73
  go_wp2_with (first | (go_at_call 83; refine (ofTwo_in 27 (.func (.func 105) #[] #[]) _ (by decide) rfl).mono ?_; rintro e w' ⟨rfl, hb⟩) | (go_at_call 105; refine (gt_any _ _ _).mono ?_; rintro e w'' ⟨rfl, rfl⟩))
  go_ret2
  exact ⟨rfl, hb⟩
set_option maxRecDepth 100000 in
set_option maxHeartbeats 4000000 in
theorem two_28 (x y : Int) (w : World)  :
    Calls Tryd.prog 73 #[.int .i64 28, .int .i64 x, .int .i64 y] w fun e w' => e = .returned (.tuple #[.int .i64 (tr (decide (y ≤ x))), .int .i64 (0)]) ∧ Below w.heap.size w w' := by
  have E0 := e_nil2
  have E1 := e_fun2
  go_enter Tryd.func73, Tryd.ntmps73
  go_wp2_with (first | (go_at_call 83; refine (ofTwo_in 28 (.func (.func 106) #[] #[]) _ (by decide) rfl).mono ?_; rintro e w' ⟨rfl, hb⟩) | (go_at_call 106; refine (ge_any _ _ _).mono ?_; rintro e w'' ⟨rfl, rfl⟩))
  go_ret2
  exact ⟨rfl, hb⟩
set_option maxRecDepth 100000 in
set_option maxHeartbeats 4000000 in
theorem two_29 (x y : Int) (w : World)  :
    Calls Tryd.prog 73 #[.int .i64 29, .int .i64 x, .int .i64 y] w fun e w' => e = .returned (.tuple #[.int .i64 (tr (x != 0 && y != 0)), .int .i64 (0)]) ∧ Below w.heap.size w w' := by
  have E0 := e_nil2
  have E1 := e_fun2
  go_enter Tryd.func73, Tryd.ntmps73
  go_wp2_with (first | (go_at_call 83; refine (ofTwo_in 29 (.func (.func 107) #[] #[]) _ (by decide) rfl).mono ?_; rintro e w' ⟨rfl, hb⟩) | (go_at_call 107; refine (and_any _ _ _).mono ?_; rintro e w'' ⟨rfl, rfl⟩))
  go_ret2
  exact ⟨rfl, hb⟩
set_option maxRecDepth 100000 in
set_option maxHeartbeats 4000000 in
theorem two_30 (x y : Int) (w : World)  :
    Calls Tryd.prog 73 #[.int .i64 30, .int .i64 x, .int .i64 y] w fun e w' => e = .returned (.tuple #[.int .i64 (tr (x != 0 || y != 0)), .int .i64 (0)]) ∧ Below w.heap.size w w' := by
  have E0 := e_nil2
  have E1 := e_fun2
  go_enter Tryd.func73, Tryd.ntmps73
  go_wp2_with (first | (go_at_call 83; refine (ofTwo_in 30 (.func (.func 108) #[] #[]) _ (by decide) rfl).mono ?_; rintro e w' ⟨rfl, hb⟩) | (go_at_call 108; refine (sor_any _ _ _).mono ?_; rintro e w'' ⟨rfl, rfl⟩))
  go_ret2
  exact ⟨rfl, hb⟩
set_option maxRecDepth 100000 in
set_option maxHeartbeats 4000000 in
theorem two_31 (x y : Int) (w : World)  :
    Calls Tryd.prog 73 #[.int .i64 31, .int .i64 x, .int .i64 y] w fun e w' => e = .returned (.tuple #[.int .i64 (min x y), .int .i64 (0)]) ∧ Below w.heap.size w w' := by
  have E0 := e_nil2
  have E1 := e_fun2
  go_enter Tryd.func73, Tryd.ntmps73
  go_wp2_with (first | (go_at_call 83; refine (ofTwo_in 31 (.func (.func 109) #[] #[]) _ (by decide) rfl).mono ?_; rintro e w' ⟨rfl, hb⟩) | (go_at_call 109; refine (smin_any _ _ _).mono ?_; rintro e w'' ⟨rfl, rfl⟩))
  go_ret2
  exact ⟨rfl, hb⟩
set_option maxRecDepth 100000 in
set_option maxHeartbeats 4000000 in
theorem two_32 (x y : Int) (w : World)  :
    Calls Tryd.prog 73 #[.int .i64 32, .int .i64 x, .int .i64 y] w fun e w' => e = .returned (.tuple #[.int .i64 (max x y), .int .i64 (0)]) ∧ Below w.heap.size w w' := by
  have E0 := e_nil2
  have E1 := e_fun2
  go_enter Tryd.func73, Tryd.ntmps73
  go_wp2_with (first | (go_at_call 83; refine (ofTwo_in 32 (.func (.func 110) #[] #[]) _ (by decide) rfl).mono ?_; rintro e w' ⟨rfl, hb⟩) | (go_at_call 110; refine (smax_any _ _ _).mono ?_; rintro e w'' ⟨rfl, rfl⟩))
  go_ret2
  exact ⟨rfl, hb⟩
set_option maxRecDepth 100000 in
set_option maxHeartbeats 4000000 in
theorem two_18z (x : Int) (w : World) :
    Calls Tryd.prog 73 #[.int .i64 18, .int .i64 x, .int .i64 0] w fun e w' => e = .returned (.tuple #[.int .i64 0, .int .i64 13]) ∧ Below w.heap.size w w' := by
  have E0 := e_nil2
  have E1 := e_fun2
  go_enter Tryd.func73, Tryd.ntmps73
  go_wp2_with (first | (go_at_call 83; refine (ofTwo_in 18 (.func (.func 96) #[] #[]) _ (by decide) rfl).mono ?_; rintro e w' ⟨rfl, hb⟩) | (go_at_call 96; refine (div_z _ 0 _ rfl).mono ?_; rintro e w'' ⟨rfl, rfl⟩))
  go_ret2
  exact ⟨rfl, hb⟩
set_option maxRecDepth 100000 in
set_option maxHeartbeats 4000000 in
theorem two_19z (x : Int) (w : World) :
    Calls Tryd.prog 73 #[.int .i64 19, .int .i64 x, .int .i64 0] w fun e w' => e = .returned (.tuple #[.int .i64 0, .int .i64 13]) ∧ Below w.heap.size w w' := by
  have E0 := e_nil2
  have E1 := e_fun2
  go_enter Tryd.func73, Tryd.ntmps73
  go_wp2_with (first | (go_at_call 83; refine (ofTwo_in 19 (.func (.func 97) #[] #[]) _ (by decide) rfl).mono ?_; rintro e w' ⟨rfl, hb⟩) | (go_at_call 97; refine (mod_z _ 0 _ rfl).mono ?_; rintro e w'' ⟨rfl, rfl⟩))
  go_ret2
  exact ⟨rfl, hb⟩
theorem stwo_any (p x y : Int) (w : World) (x0 : -9223372036854775808 ≤ x) (x1 : x ≤ 9223372036854775807) (y0 : -9223372036854775808 ≤ y) (y1 : y ≤ 9223372036854775807) :
    Calls Tryd.prog 73 #[.int .i64 p, .int .i64 x, .int .i64 y] w fun e w' => e = .returned (.tuple #[.int .i64 (twoV p x y).1, .int .i64 (twoV p x y).2]) ∧ Below w.heap.size w w' := by
  by_cases hl : p < 0
  · rw [show twoV p x y = (0, 2) by unfold twoV; repeat rw [if_neg (by omega)]]
    exact two_lo p x y w hl
  by_cases hh : 33 ≤ p
  · rw [show twoV p x y = (0, 2) by unfold twoV; repeat rw [if_neg (by omega)]]
    exact two_hi p x y w hh
  rcases (show p = 0 ∨ p = 1 ∨ p = 2 ∨ p = 3 ∨ p = 4 ∨ p = 5 ∨ p = 6 ∨ p = 7 ∨ p = 8 ∨ p = 9 ∨ p = 10 ∨ p = 11 ∨ p = 12 ∨ p = 13 ∨ p = 14 ∨ p = 15 ∨ p = 16 ∨ p = 17 ∨ p = 18 ∨ p = 19 ∨ p = 20 ∨ p = 21 ∨ p = 22 ∨ p = 23 ∨ p = 24 ∨ p = 25 ∨ p = 26 ∨ p = 27 ∨ p = 28 ∨ p = 29 ∨ p = 30 ∨ p = 31 ∨ p = 32 by omega) with rfl | rfl | rfl | rfl | rfl | rfl | rfl | rfl | rfl | rfl | rfl | rfl | rfl | rfl | rfl | rfl | rfl | rfl | rfl | rfl | rfl | rfl | rfl | rfl | rfl | rfl | rfl | rfl | rfl | rfl | rfl | rfl | rfl
  · exact two_n0 x y w
  · exact two_n1 x y w
  · exact two_n2 x y w
  · exact two_n3 x y w
  · exact two_n4 x y w
  · exact two_n5 x y w
  · exact two_n6 x y w
  · exact two_n7 x y w
  · exact two_n8 x y w
  · exact two_n9 x y w
  · exact two_n10 x y w
  · exact two_n11 x y w
  · exact two_n12 x y w
  · exact two_n13 x y w
  · exact two_n14 x y w
  · exact two_15 x y w x0 x1 y0 y1
  · exact two_16 x y w x0 x1 y0 y1
  · exact two_17 x y w x0 x1 y0 y1
  · by_cases hy : y = 0
    · subst hy
      exact two_18z x w
    · rw [show twoV 18 x y = (fit (x.fdiv y), fitE (x.fdiv y)) by simp [twoV, hy]]
      exact two_18 x y w x0 x1 hy
  · by_cases hy : y = 0
    · subst hy
      exact two_19z x w
    · rw [show twoV 19 x y = (x.fmod y, 0) by simp [twoV, hy]]
      exact two_19 x y w x0 x1 y0 y1 hy
  · exact two_20 x y w x0 x1 y0 y1
  · exact two_21 x y w x0 x1 y0 y1
  · exact two_22 x y w x0 x1 y0 y1
  · exact two_23 x y w 
  · exact two_24 x y w 
  · exact two_25 x y w 
  · exact two_26 x y w 
  · exact two_27 x y w 
  · exact two_28 x y w 
  · exact two_29 x y w 
  · exact two_30 x y w 
  · exact two_31 x y w 
  · exact two_32 x y w 
end Go.Proofs.YthfpmpmhoegicaaDoor.Sc
namespace Go.Proofs.YthfpmpmhoegicaaDoor.Sc
open Go.RowKit

theorem ofTwo_nil (p : Int) (w : World) (h : p < 15 ∨ 32 < p) : Calls Tryd.prog 83 #[.int .i64 p] w fun e w' => e = .returned .nilFunc ∧ Below w.heap.size w w' := by
  by_cases hl : p < 0
  · exact ofTwo_lo p w hl
  by_cases hh : 33 ≤ p
  · exact ofTwo_hi p w hh
  rcases (show p = 0 ∨ p = 1 ∨ p = 2 ∨ p = 3 ∨ p = 4 ∨ p = 5 ∨ p = 6 ∨ p = 7 ∨ p = 8 ∨ p = 9 ∨ p = 10 ∨ p = 11 ∨ p = 12 ∨ p = 13 ∨ p = 14 by omega) with rfl | rfl | rfl | rfl | rfl | rfl | rfl | rfl | rfl | rfl | rfl | rfl | rfl | rfl | rfl
  · exact ofTwo_in 0 .nilFunc w (by decide) rfl
  · exact ofTwo_in 1 .nilFunc w (by decide) rfl
  · exact ofTwo_in 2 .nilFunc w (by decide) rfl
  · exact ofTwo_in 3 .nilFunc w (by decide) rfl
  · exact ofTwo_in 4 .nilFunc w (by decide) rfl
  · exact ofTwo_in 5 .nilFunc w (by decide) rfl
  · exact ofTwo_in 6 .nilFunc w (by decide) rfl
  · exact ofTwo_in 7 .nilFunc w (by decide) rfl
  · exact ofTwo_in 8 .nilFunc w (by decide) rfl
  · exact ofTwo_in 9 .nilFunc w (by decide) rfl
  · exact ofTwo_in 10 .nilFunc w (by decide) rfl
  · exact ofTwo_in 11 .nilFunc w (by decide) rfl
  · exact ofTwo_in 12 .nilFunc w (by decide) rfl
  · exact ofTwo_in 13 .nilFunc w (by decide) rfl
  · exact ofTwo_in 14 .nilFunc w (by decide) rfl
theorem ofTwo_fun (p : Int) (w : World) (h : 15 ≤ p) (h' : p ≤ 32) : Calls Tryd.prog 83 #[.int .i64 p] w fun e w' => ∃ f, e = .returned (.func (.func f) #[] #[]) ∧ Below w.heap.size w w' := by
  rcases (show p = 15 ∨ p = 16 ∨ p = 17 ∨ p = 18 ∨ p = 19 ∨ p = 20 ∨ p = 21 ∨ p = 22 ∨ p = 23 ∨ p = 24 ∨ p = 25 ∨ p = 26 ∨ p = 27 ∨ p = 28 ∨ p = 29 ∨ p = 30 ∨ p = 31 ∨ p = 32 by omega) with rfl | rfl | rfl | rfl | rfl | rfl | rfl | rfl | rfl | rfl | rfl | rfl | rfl | rfl | rfl | rfl | rfl | rfl
  · exact (ofTwo_in 15 _ w (by decide) rfl).mono fun e w' k => ⟨_, k.1, k.2⟩
  · exact (ofTwo_in 16 _ w (by decide) rfl).mono fun e w' k => ⟨_, k.1, k.2⟩
  · exact (ofTwo_in 17 _ w (by decide) rfl).mono fun e w' k => ⟨_, k.1, k.2⟩
  · exact (ofTwo_in 18 _ w (by decide) rfl).mono fun e w' k => ⟨_, k.1, k.2⟩
  · exact (ofTwo_in 19 _ w (by decide) rfl).mono fun e w' k => ⟨_, k.1, k.2⟩
  · exact (ofTwo_in 20 _ w (by decide) rfl).mono fun e w' k => ⟨_, k.1, k.2⟩
  · exact (ofTwo_in 21 _ w (by decide) rfl).mono fun e w' k => ⟨_, k.1, k.2⟩
  · exact (ofTwo_in 22 _ w (by decide) rfl).mono fun e w' k => ⟨_, k.1, k.2⟩
  · exact (ofTwo_in 23 _ w (by decide) rfl).mono fun e w' k => ⟨_, k.1, k.2⟩
  · exact (ofTwo_in 24 _ w (by decide) rfl).mono fun e w' k => ⟨_, k.1, k.2⟩
  · exact (ofTwo_in 25 _ w (by decide) rfl).mono fun e w' k => ⟨_, k.1, k.2⟩
  · exact (ofTwo_in 26 _ w (by decide) rfl).mono fun e w' k => ⟨_, k.1, k.2⟩
  · exact (ofTwo_in 27 _ w (by decide) rfl).mono fun e w' k => ⟨_, k.1, k.2⟩
  · exact (ofTwo_in 28 _ w (by decide) rfl).mono fun e w' k => ⟨_, k.1, k.2⟩
  · exact (ofTwo_in 29 _ w (by decide) rfl).mono fun e w' k => ⟨_, k.1, k.2⟩
  · exact (ofTwo_in 30 _ w (by decide) rfl).mono fun e w' k => ⟨_, k.1, k.2⟩
  · exact (ofTwo_in 31 _ w (by decide) rfl).mono fun e w' k => ⟨_, k.1, k.2⟩
  · exact (ofTwo_in 32 _ w (by decide) rfl).mono fun e w' k => ⟨_, k.1, k.2⟩
end Go.Proofs.YthfpmpmhoegicaaDoor.Sc
