/- What the laws of scalars use: results of primitives whose true results are known. -/
import Derived.Test.YtbjongajpppfjaaScI
import Derived.Deep.Cut
namespace Go.Proofs.Ytbjongajpppfjaa
open Go.RowKit

/-- The law's two at p, x, y returns v and b. -/
abbrev CT (p x y v : Int) (b : Bool) : Prop := Hid (∀ W, Calls Try.prog 20 #[.int .i64 p, .int .i64 x, .int .i64 y] W fun e w' => e = .returned (.tuple #[.int .i64 v, .bool b]) ∧ Below W.heap.size W w')
/-- The law's is at p, x, y, z returns true. -/
abbrev CI (p x y z : Int) : Prop := Hid (∀ W, Calls Try.prog 21 #[.int .i64 p, .int .i64 x, .int .i64 y, .int .i64 z] W fun e w' => e = .returned (.bool true) ∧ Below W.heap.size W w')
/-- Two at p, x, y returns v and e. -/
abbrev CW (p x y v e : Int) : Prop := Hid (∀ W, Calls Try.prog 18 #[.int .i64 p, .int .i64 x, .int .i64 y] W fun e' w' => e' = .returned (.tuple #[.int .i64 v, .int .i64 e]) ∧ Below W.heap.size W w')
/-- One at p, x returns v and e. -/
abbrev CO (p x v e : Int) : Prop := Hid (∀ W, Calls Try.prog 15 #[.int .i64 p, .int .i64 x] W fun e' w' => e' = .returned (.tuple #[.int .i64 v, .int .i64 e]) ∧ Below W.heap.size W w')
theorem inr_lo {z : Int} (h : inr z = true) : -9223372036854775808 ≤ z := (inr_iff.1 h).1
theorem inr_hi {z : Int} (h : inr z = true) : z ≤ 9223372036854775807 := (inr_iff.1 h).2
theorem ct_of {p x y v e : Int} (ix : inr x = true) (iy : inr y = true) (h : twoV p x y = (v, e)) : CT p x y v (e == 0) := by
  intro W
  have := ltwo_any p x y W (inr_lo ix) (inr_hi ix) (inr_lo iy) (inr_hi iy)
  rwa [h] at this
theorem ct_ok {p x y v : Int} (ix : inr x = true) (iy : inr y = true) (h : twoV p x y = (v, 0)) : CT p x y v true := ct_of ix iy h
theorem ci_of {p x y z : Int} (ix : inr x = true) (iy : inr y = true) (h : twoV p x y = (z, 0)) : CI p x y z :=
  fun W => lis_true p x y z W h (inr_lo ix) (inr_hi ix) (inr_lo iy) (inr_hi iy)
theorem cw_of {p x y v e : Int} (ix : inr x = true) (iy : inr y = true) (h : twoV p x y = (v, e)) : CW p x y v e := by
  intro W
  have := two_any p x y W (inr_lo ix) (inr_hi ix) (inr_lo iy) (inr_hi iy)
  rwa [h] at this
theorem co_of {p x v e : Int} (ix : inr x = true) (h : oneV p x = (v, e)) : CO p x v e := by
  intro W
  have := one_any p x W (inr_lo ix) (inr_hi ix)
  rwa [h] at this

theorem t15 {a b z : Int} (h : a + b = z) (hz : inr z = true) : twoV 15 a b = (z, 0) := by subst h; show (fit _, fitE _) = _; rw [(fit_in hz).1, (fit_in hz).2]
theorem t16 {a b z : Int} (h : a - b = z) (hz : inr z = true) : twoV 16 a b = (z, 0) := by subst h; show (fit _, fitE _) = _; rw [(fit_in hz).1, (fit_in hz).2]
theorem t17 {a b z : Int} (h : a * b = z) (hz : inr z = true) : twoV 17 a b = (z, 0) := by subst h; show (fit _, fitE _) = _; rw [(fit_in hz).1, (fit_in hz).2]
theorem t18 {a b z : Int} (hb : b ≠ 0) (h : a.fdiv b = z) (hz : inr z = true) : twoV 18 a b = (z, 0) := by subst h; show (if b = 0 then _ else (fit _, fitE _)) = _; rw [if_neg hb, (fit_in hz).1, (fit_in hz).2]
theorem t19 {a b z : Int} (hb : b ≠ 0) (h : a.fmod b = z) : twoV 19 a b = (z, 0) := by subst h; show (if b = 0 then _ else _) = _; rw [if_neg hb]
theorem t15o {a b : Int} (hz : inr (a + b) = false) : twoV 15 a b = (0, 12) := by show (fit _, fitE _) = _; rw [(fit_out hz).1, (fit_out hz).2]
theorem t16o {a b : Int} (hz : inr (a - b) = false) : twoV 16 a b = (0, 12) := by show (fit _, fitE _) = _; rw [(fit_out hz).1, (fit_out hz).2]
theorem t17o {a b : Int} (hz : inr (a * b) = false) : twoV 17 a b = (0, 12) := by show (fit _, fitE _) = _; rw [(fit_out hz).1, (fit_out hz).2]
theorem t18o {a b : Int} (hb : b ≠ 0) (hz : inr (a.fdiv b) = false) : twoV 18 a b = (0, 12) := by show (if b = 0 then _ else (fit _, fitE _)) = _; rw [if_neg hb, (fit_out hz).1, (fit_out hz).2]
theorem t18z (a : Int) : twoV 18 a 0 = (0, 13) := rfl
theorem t19z (a : Int) : twoV 19 a 0 = (0, 13) := rfl
theorem t20 {a b z : Int} (h : clp (a + b) = z) : twoV 20 a b = (z, 0) := by subst h; rfl
theorem t21 {a b z : Int} (h : clp (a - b) = z) : twoV 21 a b = (z, 0) := by subst h; rfl
theorem t22 {a b z : Int} (h : clp (a * b) = z) : twoV 22 a b = (z, 0) := by subst h; rfl

theorem b_add (x y : Int) (ix : inr x = true) (iy : inr y = true) : ∃ s b, CT 15 x y s b ∧ (b = true → x + y = s ∧ inr s = true) ∧ (b = false → inr (x + y) = false) ∧ inr s = true := by
  cases h : inr (x + y) with
  | true => exact ⟨x + y, true, ct_of ix iy (t15 rfl h), fun _ => ⟨rfl, h⟩, fun k => (by cases k), h⟩
  | false => exact ⟨0, false, ct_of ix iy (t15o h), fun k => (by cases k), fun _ => rfl, inr_zero⟩
theorem b_sub (x y : Int) (ix : inr x = true) (iy : inr y = true) : ∃ s b, CT 16 x y s b ∧ (b = true → x - y = s ∧ inr s = true) ∧ (b = false → inr (x - y) = false) ∧ inr s = true := by
  cases h : inr (x - y) with
  | true => exact ⟨x - y, true, ct_of ix iy (t16 rfl h), fun _ => ⟨rfl, h⟩, fun k => (by cases k), h⟩
  | false => exact ⟨0, false, ct_of ix iy (t16o h), fun k => (by cases k), fun _ => rfl, inr_zero⟩
theorem b_mul (x y : Int) (ix : inr x = true) (iy : inr y = true) : ∃ s b, CT 17 x y s b ∧ (b = true → x * y = s ∧ inr s = true) ∧ (b = false → inr (x * y) = false) ∧ inr s = true := by
  cases h : inr (x * y) with
  | true => exact ⟨x * y, true, ct_of ix iy (t17 rfl h), fun _ => ⟨rfl, h⟩, fun k => (by cases k), h⟩
  | false => exact ⟨0, false, ct_of ix iy (t17o h), fun k => (by cases k), fun _ => rfl, inr_zero⟩
theorem fdiv_small (x y : Int) (ix : inr x = true) (hy : y ≠ 0) (h : inr (x.fdiv y) = false) : x = -9223372036854775808 ∧ y = -1 := by
  have x0 := inr_lo ix
  have x1 := inr_hi ix
  by_cases hy1 : y = -1
  · subst hy1
    rw [show x.fdiv (-1) = -x by rw [fdiv_of x (-1) (by decide)]; simp, inr_not] at h
    omega
  · rw [fdiv_in x y hy hy1 x0 x1] at h; cases h
theorem b_div (x y : Int) (ix : inr x = true) (iy : inr y = true) : ∃ s b, CT 18 x y s b ∧ (b = true → y ≠ 0 ∧ x.fdiv y = s ∧ inr s = true) ∧ (b = false → y = 0 ∨ (x = -9223372036854775808 ∧ y = -1)) := by
  by_cases hy : y = 0
  · subst hy; exact ⟨0, false, ct_of ix iy (t18z x), fun k => (by cases k), fun _ => .inl rfl⟩
  cases h : inr (x.fdiv y) with
  | true => exact ⟨x.fdiv y, true, ct_of ix iy (t18 hy rfl h), fun _ => ⟨hy, rfl, h⟩, fun k => (by cases k)⟩
  | false => exact ⟨0, false, ct_of ix iy (t18o hy h), fun k => (by cases k), fun _ => .inr (fdiv_small x y ix hy h)⟩
theorem inr_fmod {x y : Int} (hy : y ≠ 0) (iy : inr y = true) : inr (x.fmod y) = true := by
  have := fmod_bd x y hy
  have y0 := inr_lo iy
  have y1 := inr_hi iy
  rw [inr_iff]
  omega
theorem b_mod (x y : Int) (ix : inr x = true) (iy : inr y = true) : ∃ s b, CT 19 x y s b ∧ (b = true → y ≠ 0 ∧ x.fmod y = s) ∧ (b = false → y = 0) ∧ inr s = true := by
  by_cases hy : y = 0
  · subst hy; exact ⟨0, false, ct_of ix iy (t19z x), fun k => (by cases k), fun _ => rfl, inr_zero⟩
  · exact ⟨x.fmod y, true, ct_of ix iy (t19 hy rfl), fun _ => ⟨hy, rfl⟩, fun k => (by cases k), inr_fmod hy iy⟩
theorem mul_fdiv (x y : Int) (hy : y ≠ 0) : (x * y).fdiv y = x := Int.mul_fdiv_cancel x hy
theorem mul_fmod (x y : Int) : (x * y).fmod y = 0 := Int.mul_fmod_left x y
theorem div_mod (x y : Int) : y * x.fdiv y + x.fmod y = x := Int.mul_fdiv_add_fmod x y
end Go.Proofs.Ytbjongajpppfjaa
