/- Several texts as one (a claim has at most 60 files): ScF, ScG, ScH, ScI, ScJ. -/
import Derived.Test.YthfpmpmhoegicaaDoorScX
import Derived.Deep.QuietTactic
import Derived.WalkSmall
import Derived.Deep.Cut
namespace Go.Proofs.YthfpmpmhoegicaaDoor.Sc
open Go.RowKit

theorem ar_cases (p : Int) : ((1 ≤ p ∧ p ≤ 3) ∧ arV p = 1 ∧ arE p = 0) ∨ ((15 ≤ p ∧ p ≤ 32) ∧ arV p = 2 ∧ arE p = 0) ∨ ((¬ (1 ≤ p ∧ p ≤ 3) ∧ ¬ (15 ≤ p ∧ p ≤ 32)) ∧ arV p = 0 ∧ arE p = 2) := by
  unfold arV arE
  by_cases h1 : 1 ≤ p ∧ p ≤ 3
  · exact .inl ⟨h1, by rw [if_pos h1], by rw [if_pos (.inl h1)]⟩
  · by_cases h2 : 15 ≤ p ∧ p ≤ 32
    · exact .inr (.inl ⟨h2, by rw [if_neg h1, if_pos h2], by rw [if_pos (.inr h2)]⟩)
    · exact .inr (.inr ⟨⟨h1, h2⟩, by rw [if_neg h1, if_neg h2], by rw [if_neg (by omega)]⟩)
end Go.Proofs.YthfpmpmhoegicaaDoor.Sc
namespace Go.Proofs.YthfpmpmhoegicaaDoor.Sc
open Go.RowKit

theorem i64_wrap (n : Int) : IntKind.i64.wrap n = wrap64 n := by rw [IntKind.wrap_i64, wrap64]
theorem inr_zero : inr 0 = true := by decide
end Go.Proofs.YthfpmpmhoegicaaDoor.Sc
namespace Go.Proofs.YthfpmpmhoegicaaDoor.Sc
open Go.RowKit

theorem ret_int {k : IntKind} {a b : Int} (h : a = b) : Ending.returned (.int k a) = .returned (.int k b) := by rw [h]
theorem clp_in {z : Int} (h : inr z = true) : clp z = z := by rw [inr_iff] at h; unfold clp; rw [if_neg (by omega), if_neg (by omega)]
end Go.Proofs.YthfpmpmhoegicaaDoor.Sc
namespace Go.Proofs.YthfpmpmhoegicaaDoor.Sc
open Go.RowKit

end Go.Proofs.YthfpmpmhoegicaaDoor.Sc
namespace Go.Proofs.YthfpmpmhoegicaaDoor.Sc
open Go.RowKit

/-- Two at p, x, y returns v and e. -/
abbrev CW (p x y v e : Int) : Prop := Hid (∀ W, Calls Tryd.prog 73 #[.int .i64 p, .int .i64 x, .int .i64 y] W fun e' w' => e' = .returned (.tuple #[.int .i64 v, .int .i64 e]) ∧ Below W.heap.size W w')
theorem inr_lo {z : Int} (h : inr z = true) : -9223372036854775808 ≤ z := (inr_iff.1 h).1
theorem inr_hi {z : Int} (h : inr z = true) : z ≤ 9223372036854775807 := (inr_iff.1 h).2
theorem cw_of {p x y v e : Int} (ix : inr x = true) (iy : inr y = true) (h : twoV p x y = (v, e)) : CW p x y v e := by
  intro W
  have := stwo_any p x y W (inr_lo ix) (inr_hi ix) (inr_lo iy) (inr_hi iy)
  rwa [h] at this
theorem t15 {a b z : Int} (h : a + b = z) (hz : inr z = true) : twoV 15 a b = (z, 0) := by subst h; show (fit _, fitE _) = _; rw [(fit_in hz).1, (fit_in hz).2]
theorem t16 {a b z : Int} (h : a - b = z) (hz : inr z = true) : twoV 16 a b = (z, 0) := by subst h; show (fit _, fitE _) = _; rw [(fit_in hz).1, (fit_in hz).2]
theorem t17 {a b z : Int} (h : a * b = z) (hz : inr z = true) : twoV 17 a b = (z, 0) := by subst h; show (fit _, fitE _) = _; rw [(fit_in hz).1, (fit_in hz).2]
theorem t18 {a b z : Int} (hb : b ≠ 0) (h : a.fdiv b = z) (hz : inr z = true) : twoV 18 a b = (z, 0) := by subst h; show (if b = 0 then _ else (fit _, fitE _)) = _; rw [if_neg hb, (fit_in hz).1, (fit_in hz).2]
theorem t19 {a b z : Int} (hb : b ≠ 0) (h : a.fmod b = z) : twoV 19 a b = (z, 0) := by subst h; show (if b = 0 then _ else _) = _; rw [if_neg hb]
theorem t15o {a b : Int} (hz : inr (a + b) = false) : twoV 15 a b = (0, 12) := by show (fit _, fitE _) = _; rw [(fit_out hz).1, (fit_out hz).2]
theorem t16o {a b : Int} (hz : inr (a - b) = false) : twoV 16 a b = (0, 12) := by show (fit _, fitE _) = _; rw [(fit_out hz).1, (fit_out hz).2]
theorem t17o {a b : Int} (hz : inr (a * b) = false) : twoV 17 a b = (0, 12) := by show (fit _, fitE _) = _; rw [(fit_out hz).1, (fit_out hz).2]
theorem t18o {a b : Int} (hb : b ≠ 0) (hz : inr (a.fdiv b) = false) : twoV 18 a b = (0, 12) := by show (if b = 0 then _ else (fit _, fitE _)) = _; rw [if_neg hb, (fit_out hz).1, (fit_out hz).2]
theorem t18z (a : Int) : twoV 18 a 0 = (0, 13) := rfl
theorem t19z (a : Int) : twoV 19 a 0 = (0, 13) := rfl
theorem t20 {a b z : Int} (h : clp (a + b) = z) : twoV 20 a b = (z, 0) := by subst h; rfl
theorem t21 {a b z : Int} (h : clp (a - b) = z) : twoV 21 a b = (z, 0) := by subst h; rfl
theorem t22 {a b z : Int} (h : clp (a * b) = z) : twoV 22 a b = (z, 0) := by subst h; rfl

theorem fdiv_small (x y : Int) (ix : inr x = true) (hy : y ≠ 0) (h : inr (x.fdiv y) = false) : x = -9223372036854775808 ∧ y = -1 := by
  have x0 := inr_lo ix
  have x1 := inr_hi ix
  by_cases hy1 : y = -1
  · subst hy1
    rw [show x.fdiv (-1) = -x by rw [fdiv_of x (-1) (by decide)]; simp, inr_not] at h
    omega
  · rw [fdiv_in x y hy hy1 x0 x1] at h; cases h
theorem inr_fmod {x y : Int} (hy : y ≠ 0) (iy : inr y = true) : inr (x.fmod y) = true := by
  have := fmod_bd x y hy
  have y0 := inr_lo iy
  have y1 := inr_hi iy
  rw [inr_iff]
  omega
theorem mul_fdiv (x y : Int) (hy : y ≠ 0) : (x * y).fdiv y = x := Int.mul_fdiv_cancel x hy
theorem mul_fmod (x y : Int) : (x * y).fmod y = 0 := Int.mul_fmod_left x y
theorem div_mod (x y : Int) : y * x.fdiv y + x.fmod y = x := Int.mul_fdiv_add_fmod x y
end Go.Proofs.YthfpmpmhoegicaaDoor.Sc
