/- Several texts as one (a claim has at most 60 files): ScA, ScB, ScC, ScD, ScE. -/
import Derived.Test.YtpbfbejckhbijaaDoorRows
import Derived.WalkKit
import Derived.WalkSpells
import Derived.WalkLawsBesides
import Derived.Lib.Hide
import Derived.Laws.EntriesVeiled
import Derived.Deep.Cut
namespace Go.Proofs.YtpbfbejckhbijaaDoor.Sc
open Go.RowKit

/-- A number of 64 bits. -/
def inr (z : Int) : Bool := decide (-9223372036854775808 ≤ z ∧ z ≤ 9223372036854775807)
def fit (z : Int) : Int := if inr z = true then z else 0
def fitE (z : Int) : Int := if inr z = true then 0 else 12
def clp (z : Int) : Int := if z < -9223372036854775808 then -9223372036854775808 else if 9223372036854775807 < z then 9223372036854775807 else z
def tr (b : Bool) : Int := if b = true then 1 else 0
theorem inr_iff {z : Int} : inr z = true ↔ -9223372036854775808 ≤ z ∧ z ≤ 9223372036854775807 := by simp [inr]
theorem inr_not {z : Int} : inr z = false ↔ ¬ (-9223372036854775808 ≤ z ∧ z ≤ 9223372036854775807) := by simp [inr]
theorem fit_in {z : Int} (h : inr z = true) : fit z = z ∧ fitE z = 0 := by simp [fit, fitE, h]
theorem fit_out {z : Int} (h : inr z = false) : fit z = 0 ∧ fitE z = 12 := by simp [fit, fitE, h]
theorem ret_two {a b c d : Value} (h : a = c) (k : b = d) : Ending.returned (.tuple #[a, b]) = .returned (.tuple #[c, d]) := by rw [h, k]
theorem iv {k : IntKind} {a b : Int} (h : a = b) : Value.int k a = Value.int k b := by rw [h]
theorem ret_bool {a b : Bool} (h : a = b) : Ending.returned (.bool a) = .returned (.bool b) := by rw [h]

/-- What wraps, divided again, tells whether a product is a number. -/
theorem mul_back (x y : Int) (hy : y ≠ 0) (y0 : -9223372036854775808 ≤ y) (y1 : y ≤ 9223372036854775807) :
    (wrap64 (x * y)).tdiv y = x → inr (x * y) = true := by
  intro h
  have h1 := Int.mul_tdiv_add_tmod (wrap64 (x * y)) y
  have h2 : -(y.natAbs : Int) < (wrap64 (x * y)).tmod y ∧ (wrap64 (x * y)).tmod y < (y.natAbs : Int) := by
    have := Int.natAbs_tmod (wrap64 (x * y)) y
    have := Nat.mod_lt (wrap64 (x * y)).natAbs (show 0 < y.natAbs by omega)
    omega
  rw [h] at h1
  have h3 : y * x = x * y := Int.mul_comm y x
  rw [h3] at h1
  rw [inr_iff]
  generalize x * y = m at h1 h2 ⊢
  generalize (wrap64 m).tmod y = r at h1 h2
  unfold wrap64 at h1
  omega
theorem mul_fore (x y : Int) (hy : y ≠ 0) (h : inr (x * y) = true) : (wrap64 (x * y)).tdiv y = x := by
  rw [inr_iff] at h
  rw [show wrap64 (x * y) = x * y by unfold wrap64; omega]
  exact Int.mul_tdiv_cancel x hy
/-- Floor division out of Go's. -/
theorem fdiv_of (x y : Int) (hy : y ≠ 0) : x.fdiv y = if (x.tmod y != 0 && (decide (x < 0) != decide (y < 0))) = true then x.tdiv y - 1 else x.tdiv y := by
  rw [Int.fdiv_eq_tdiv]
  by_cases h : y ∣ x
  · have h0 := Int.dvd_iff_tmod_eq_zero.1 h
    simp [h, h0]
  · have h0 : x.tmod y ≠ 0 := fun k => h (Int.dvd_iff_tmod_eq_zero.2 k)
    simp only [h, if_false]
    have h1 : (x.tmod y != 0) = true := by simpa using h0
    rw [h1, Bool.true_and]
    have hs : 0 < y → y.sign = 1 := Int.sign_eq_one_of_pos
    have ht : y < 0 → y.sign = -1 := Int.sign_eq_neg_one_of_neg
    by_cases hx : x < 0 <;> by_cases hz : y < 0
    · rw [if_neg (by omega : ¬ 0 ≤ x), if_neg (by omega : ¬ 0 ≤ y), ht hz]; simp [hx, hz]
    · rw [if_neg (by omega : ¬ 0 ≤ x), if_pos (by omega : 0 ≤ y), hs (by omega)]; simp [hx, hz]
    · rw [if_pos (by omega : 0 ≤ x), if_neg (by omega : ¬ 0 ≤ y)]; simp [hx, hz]
    · rw [if_pos (by omega : 0 ≤ x), if_pos (by omega : 0 ≤ y)]; simp [hx, hz]
theorem fmod_of (x y : Int) (_hy : y ≠ 0) : x.fmod y = if (x.tmod y != 0 && (decide (x < 0) != decide (y < 0))) = true then x.tmod y + y else x.tmod y := by
  rw [Int.fmod_eq_tmod]
  by_cases h : y ∣ x
  · have h0 := Int.dvd_iff_tmod_eq_zero.1 h
    simp [h, h0]
  · have h0 : x.tmod y ≠ 0 := fun k => h (Int.dvd_iff_tmod_eq_zero.2 k)
    simp only [h, if_false]
    have h1 : (x.tmod y != 0) = true := by simpa using h0
    rw [h1, Bool.true_and]
    by_cases hx : x < 0 <;> by_cases hz : y < 0
    · rw [if_neg (by omega : ¬ 0 ≤ x), if_neg (by omega : ¬ 0 ≤ y)]; simp [hx, hz]; omega
    · rw [if_neg (by omega : ¬ 0 ≤ x), if_pos (by omega : 0 ≤ y)]; simp [hx, hz]; omega
    · rw [if_pos (by omega : 0 ≤ x), if_neg (by omega : ¬ 0 ≤ y)]; simp [hx, hz]
    · rw [if_pos (by omega : 0 ≤ x), if_pos (by omega : 0 ≤ y)]; simp [hx, hz]
/-- The quotient is a number but in one case. -/
theorem tdiv_bd (x y : Int) (hy : y ≠ 0) (hy1 : y ≠ -1) (x0 : -9223372036854775808 ≤ x) (x1 : x ≤ 9223372036854775807) :
    -9223372036854775808 ≤ x.tdiv y ∧ x.tdiv y ≤ 9223372036854775807 ∧ (x.tmod y ≠ 0 → -9223372036854775807 ≤ x.tdiv y) := by
  have h1 := Int.natAbs_tdiv x y
  by_cases h : y = 1
  · subst h; simp; omega
  · have h2 : x.natAbs.div y.natAbs ≤ x.natAbs / 2 := Nat.div_le_div_left (by omega) (by omega)
    have h3 : (x.tdiv y).natAbs ≤ x.natAbs / 2 := by rw [h1]; exact h2
    omega
theorem tmod_bd (x y : Int) (hy : y ≠ 0) : -(y.natAbs : Int) < x.tmod y ∧ x.tmod y < (y.natAbs : Int) ∧ (0 ≤ x → 0 ≤ x.tmod y) ∧ (x < 0 → x.tmod y ≤ 0) := by
  have := Int.natAbs_tmod x y
  have := Nat.mod_lt x.natAbs (show 0 < y.natAbs by omega)
  refine ⟨by omega, by omega, fun h => Int.tmod_nonneg _ h, fun h => ?_⟩
  have := Int.tmod_nonneg y (show 0 ≤ -x by omega)
  rw [Int.neg_tmod] at this
  omega
theorem fmod_bd (x y : Int) (hy : y ≠ 0) : (0 < y → 0 ≤ x.fmod y ∧ x.fmod y < y) ∧ (y < 0 → y < x.fmod y ∧ x.fmod y ≤ 0) := by
  have h := tmod_bd x y hy
  rw [fmod_of x y hy]
  split
  · rename_i k; simp at k; omega
  · rename_i k; simp at k; omega
theorem fdiv_in (x y : Int) (hy : y ≠ 0) (hy1 : y ≠ -1) (x0 : -9223372036854775808 ≤ x) (x1 : x ≤ 9223372036854775807) : inr (x.fdiv y) = true := by
  have hb := tdiv_bd x y hy hy1 x0 x1
  rw [fdiv_of x y hy, inr_iff]
  split
  · rename_i k; simp at k; omega
  · omega
end Go.Proofs.YtpbfbejckhbijaaDoor.Sc
namespace Go.Proofs.YtpbfbejckhbijaaDoor.Sc
open Go.RowKit
end Go.Proofs.YtpbfbejckhbijaaDoor.Sc
namespace Go.Proofs.YtpbfbejckhbijaaDoor.Sc
open Go.RowKit

theorem heap_new (w : World) (o : Obj) : (w.alloc o).heap[w.heap.size]? = some o := by
  unfold World.alloc; simp
theorem setRow_new (w : World) (a b : Array Value) (t : TypeId) : (w.alloc (.cells a t)).setRow w.heap.size b = w.alloc (.cells b t) := by
  unfold World.setRow World.alloc
  congr 1
  apply Array.ext
  · simp
  · intro k h1 h2
    simp only [Array.getElem_modify, Array.getElem_push]
    split
    · rename_i hk; subst hk; simp
    · rename_i hk
      have : k < w.heap.size := by simp at h1; omega
      simp [this]
end Go.Proofs.YtpbfbejckhbijaaDoor.Sc
namespace Go.Proofs.YtpbfbejckhbijaaDoor.Sc
open Go.RowKit

/-- What a primitive of two numbers returns: its number, its error. -/
def twoV (p x y : Int) : Int × Int :=
  if p = 15 then (fit (x + y), fitE (x + y)) else
  if p = 16 then (fit (x - y), fitE (x - y)) else
  if p = 17 then (fit (x * y), fitE (x * y)) else
  if p = 18 then (if y = 0 then (0, 13) else (fit (x.fdiv y), fitE (x.fdiv y))) else
  if p = 19 then (if y = 0 then (0, 13) else (x.fmod y, 0)) else
  if p = 20 then (clp (x + y), 0) else
  if p = 21 then (clp (x - y), 0) else
  if p = 22 then (clp (x * y), 0) else
  if p = 23 then (tr (x == y), 0) else
  if p = 24 then (tr (x != y), 0) else
  if p = 25 then (tr (decide (x < y)), 0) else
  if p = 26 then (tr (decide (x ≤ y)), 0) else
  if p = 27 then (tr (decide (y < x)), 0) else
  if p = 28 then (tr (decide (y ≤ x)), 0) else
  if p = 29 then (tr (x != 0 && y != 0), 0) else
  if p = 30 then (tr (x != 0 || y != 0), 0) else
  if p = 31 then (min x y, 0) else
  if p = 32 then (max x y, 0) else
  (0, 2)
def oneV (p x : Int) : Int × Int :=
  if p = 1 then (fit (-x), fitE (-x)) else
  if p = 2 then (if x < 0 then (fit (-x), fitE (-x)) else (x, 0)) else
  if p = 3 then (tr (x == 0), 0) else (0, 2)
/-- Of how many numbers a primitive is. -/
def arV (p : Int) : Int := if 1 ≤ p ∧ p ≤ 3 then 1 else if 15 ≤ p ∧ p ≤ 32 then 2 else 0
def arE (p : Int) : Int := if (1 ≤ p ∧ p ≤ 3) ∨ (15 ≤ p ∧ p ≤ 32) then 0 else 2
def ovV (p : Int) : Bool := decide (p = 1 ∨ p = 2 ∨ (15 ≤ p ∧ p ≤ 19))
theorem Below.step1 {n : Nat} {w w' : World} (h : Below n w w') : Below n w w' := h
end Go.Proofs.YtpbfbejckhbijaaDoor.Sc
namespace Go.Proofs.YtpbfbejckhbijaaDoor.Sc
open Go.RowKit

end Go.Proofs.YtpbfbejckhbijaaDoor.Sc
