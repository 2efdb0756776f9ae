/- Plain facts on shapes. -/
import Derived.Test.YtdbampgbbghfkaaDoorWaA2
namespace Go.Proofs.YtdbampgbbghfkaaDoor
open Go.RowKit

/-- How many cells a shape has whose lengths are known. -/
def cn (r a b : Int) : Int := if r = 0 then 1 else if r = 1 then a else a * b
/-- The first fault of a shape. -/
def ckS (r a b : Int) : Int :=
  if r < 0 ∨ 2 < r ∨ (1 ≤ r ∧ a < 0) ∨ (2 ≤ r ∧ b < 0) then 7 else
  if (r = 0 ∧ a ≠ 0) ∨ (r ≤ 1 ∧ b ≠ 0) then 6 else
  if 400 < a ∨ 400 < b ∨ 400 < cn r a b then 15 else 0
/-- The shapes that there are. -/
inductive Sh : Int → Int → Int → Prop
  | s0 : Sh 0 0 0
  | s1 (a : Int) (h0 : 0 ≤ a) (h1 : a ≤ 400) : Sh 1 a 0
  | s2 (a b : Int) (h0 : 0 ≤ a) (h1 : a ≤ 400) (h2 : 0 ≤ b) (h3 : b ≤ 400) (h4 : a * b ≤ 400) : Sh 2 a b
theorem sh_ok {r a b : Int} (h : Sh r a b) : ckS r a b = 0 := by
  cases h with
  | s0 => decide
  | s1 h0 h1 => unfold ckS cn; rw [if_neg (by omega), if_neg (by omega), if_neg (by simp; omega)]
  | s2 h0 h1 h2 h3 h4 => unfold ckS cn; rw [if_neg (by omega), if_neg (by omega), if_neg (by simp; omega)]
theorem ok_sh {r a b : Int} (h : ckS r a b = 0) : Sh r a b := by
  unfold ckS at h
  split at h
  · exact absurd h (by decide)
  · split at h
    · exact absurd h (by decide)
    · split at h
      · exact absurd h (by decide)
      · rename_i h1 h2 h3
        have hr : r = 0 ∨ r = 1 ∨ r = 2 := by omega
        rcases hr with rfl | rfl | rfl
        · obtain rfl : a = 0 := by omega
          obtain rfl : b = 0 := by omega
          exact .s0
        · obtain rfl : b = 0 := by omega
          exact .s1 a (by omega) (by omega)
        · have h4 : ¬ 400 < a * b := fun k => h3 (.inr (.inr (by simpa [cn] using k)))
          exact .s2 a b (by omega) (by omega) (by omega) (by omega) (by omega)
theorem sh_dec (r a b : Int) : (ckS r a b = 0 ∧ Sh r a b) ∨ (ckS r a b ≠ 0 ∧ ¬ Sh r a b) := by
  by_cases h : ckS r a b = 0
  · exact .inl ⟨h, ok_sh h⟩
  · exact .inr ⟨h, fun k => h (sh_ok k)⟩
end Go.Proofs.YtdbampgbbghfkaaDoor
