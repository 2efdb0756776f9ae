/- Several texts as one (a claim has at most 60 files): ScF, ScG, ScH, ScI, ScJ. -/
import Derived.Test.YtpbfbejckhbijaaGreatDoorScX
import Derived.Deep.QuietTactic
import Derived.WalkSmall
import Derived.Deep.Cut
namespace Go.Proofs.YtpbfbejckhbijaaGreatDoor.Sc
open Go.RowKit

set_option maxHeartbeats 4000000 in
theorem rarity_any (p : Int) (w : World) : Calls Tryz.prog 34 #[.int .i64 p] w fun e w' => e = .returned (.tuple #[.int .i64 (arV p), .int .i64 (arE p)]) ∧ w = w' := by
  go_enter Tryz.func34, Tryz.ntmps34
  go_wp2
  all_goals (go_ret2; refine ⟨ret_two (iv ?_) (iv ?_), rfl⟩ <;> (first | unfold arV | unfold arE) <;> (simp at *) <;> (repeat' split) <;> omega)
theorem truth_any (b : Bool) (w : World) : Calls Tryz.prog 177 #[.bool b] w fun e w' => e = .returned (.int .i64 (tr b)) ∧ w = w' := by
  cases b <;> (go_enter Tryz.func177, Tryz.ntmps177; go_wp2; go_ret; exact ⟨rfl, rfl⟩)
set_option maxHeartbeats 4000000 in
theorem rone_1 (x : Int) (w : World) (x0 : -9223372036854775808 ≤ x) (x1 : x ≤ 9223372036854775807) : Calls Tryz.prog 137 #[.int .i64 1, .int .i64 x] w fun e w' => e = .returned (.tuple #[.int .i64 (fit (-x)), .int .i64 (fitE (-x))]) ∧ w = w' := by
  have HC : Hid (∀ W, Calls Tryz.prog 34 #[.int .i64 1] W fun e w' => e = .returned (.tuple #[.int .i64 1, .int .i64 0]) ∧ W = w') := fun W => by have := rarity_any (1) W; rwa [show arV 1 = 1 by decide, show arE 1 = 0 by decide] at this
  go_enter Tryz.func137, Tryz.ntmps137
  go_wp2_with (first | (go_at_call 34; refine (HC.out _).mono ?_; rintro e w1 ⟨rfl, rfl⟩; clear HC) | (go_at_call 177; refine (truth_any _ _).mono ?_; rintro e w1 ⟨rfl, rfl⟩))
  all_goals (go_ret2; exact ⟨ret_two (iv (by (first | rfl | omega | ((try unfold fit); (try unfold fitE); (try unfold tr); (try unfold inr); (try unfold wrap64); (try unfold wrap64 at *); (try simp_all) <;> omega)))) (iv (by (first | rfl | omega | ((try unfold fit); (try unfold fitE); (try unfold tr); (try unfold inr); (try unfold wrap64); (try unfold wrap64 at *); (try simp_all) <;> omega)))), rfl⟩)
set_option maxHeartbeats 4000000 in
theorem rone_2l (x : Int) (w : World) (x0 : -9223372036854775808 ≤ x) (x1 : x ≤ 9223372036854775807) (h : x < 0) : Calls Tryz.prog 137 #[.int .i64 2, .int .i64 x] w fun e w' => e = .returned (.tuple #[.int .i64 (fit (-x)), .int .i64 (fitE (-x))]) ∧ w = w' := by
  have HC : Hid (∀ W, Calls Tryz.prog 34 #[.int .i64 2] W fun e w' => e = .returned (.tuple #[.int .i64 1, .int .i64 0]) ∧ W = w') := fun W => by have := rarity_any (2) W; rwa [show arV 2 = 1 by decide, show arE 2 = 0 by decide] at this
  go_enter Tryz.func137, Tryz.ntmps137
  go_wp2_with (first | (go_at_call 34; refine (HC.out _).mono ?_; rintro e w1 ⟨rfl, rfl⟩; clear HC) | (go_at_call 177; refine (truth_any _ _).mono ?_; rintro e w1 ⟨rfl, rfl⟩))
  all_goals (go_ret2; exact ⟨ret_two (iv (by (first | rfl | omega | ((try unfold fit); (try unfold fitE); (try unfold tr); (try unfold inr); (try unfold wrap64); (try unfold wrap64 at *); (try simp_all) <;> omega)))) (iv (by (first | rfl | omega | ((try unfold fit); (try unfold fitE); (try unfold tr); (try unfold inr); (try unfold wrap64); (try unfold wrap64 at *); (try simp_all) <;> omega)))), rfl⟩)
set_option maxHeartbeats 4000000 in
theorem rone_2h (x : Int) (w : World) (x0 : -9223372036854775808 ≤ x) (x1 : x ≤ 9223372036854775807) (h : 0 ≤ x) : Calls Tryz.prog 137 #[.int .i64 2, .int .i64 x] w fun e w' => e = .returned (.tuple #[.int .i64 (x), .int .i64 (0)]) ∧ w = w' := by
  have HC : Hid (∀ W, Calls Tryz.prog 34 #[.int .i64 2] W fun e w' => e = .returned (.tuple #[.int .i64 1, .int .i64 0]) ∧ W = w') := fun W => by have := rarity_any (2) W; rwa [show arV 2 = 1 by decide, show arE 2 = 0 by decide] at this
  go_enter Tryz.func137, Tryz.ntmps137
  go_wp2_with (first | (go_at_call 34; refine (HC.out _).mono ?_; rintro e w1 ⟨rfl, rfl⟩; clear HC) | (go_at_call 177; refine (truth_any _ _).mono ?_; rintro e w1 ⟨rfl, rfl⟩))
  all_goals (go_ret2; exact ⟨ret_two (iv (by (first | rfl | omega | ((try unfold fit); (try unfold fitE); (try unfold tr); (try unfold inr); (try unfold wrap64); (try unfold wrap64 at *); (try simp_all) <;> omega)))) (iv (by (first | rfl | omega | ((try unfold fit); (try unfold fitE); (try unfold tr); (try unfold inr); (try unfold wrap64); (try unfold wrap64 at *); (try simp_all) <;> omega)))), rfl⟩)
set_option maxHeartbeats 4000000 in
theorem rone_3 (x : Int) (w : World)  : Calls Tryz.prog 137 #[.int .i64 3, .int .i64 x] w fun e w' => e = .returned (.tuple #[.int .i64 (tr (x == 0)), .int .i64 (0)]) ∧ w = w' := by
  have HC : Hid (∀ W, Calls Tryz.prog 34 #[.int .i64 3] W fun e w' => e = .returned (.tuple #[.int .i64 1, .int .i64 0]) ∧ W = w') := fun W => by have := rarity_any (3) W; rwa [show arV 3 = 1 by decide, show arE 3 = 0 by decide] at this
  go_enter Tryz.func137, Tryz.ntmps137
  go_wp2_with (first | (go_at_call 34; refine (HC.out _).mono ?_; rintro e w1 ⟨rfl, rfl⟩; clear HC) | (go_at_call 177; refine (truth_any _ _).mono ?_; rintro e w1 ⟨rfl, rfl⟩))
  all_goals (go_ret2; exact ⟨ret_two (iv (by (first | rfl | omega | ((try unfold fit); (try unfold fitE); (try unfold tr); (try unfold inr); (try unfold wrap64); (try unfold wrap64 at *); (try simp_all) <;> omega)))) (iv (by (first | rfl | omega | ((try unfold fit); (try unfold fitE); (try unfold tr); (try unfold inr); (try unfold wrap64); (try unfold wrap64 at *); (try simp_all) <;> omega)))), rfl⟩)
set_option maxHeartbeats 4000000 in
theorem rone_b2 (p x : Int) (w : World) (h : arE p = 0) (k : arV p = 2) : Calls Tryz.prog 137 #[.int .i64 p, .int .i64 x] w fun e w' => e = .returned (.tuple #[.int .i64 (0), .int .i64 (2)]) ∧ w = w' := by
  have HC : Hid (∀ W, Calls Tryz.prog 34 #[.int .i64 p] W fun e w' => e = .returned (.tuple #[.int .i64 2, .int .i64 0]) ∧ W = w') := fun W => by have := rarity_any (p) W; rwa [show arV p = 2 by assumption, show arE p = 0 by assumption] at this
  clear h k; go_enter Tryz.func137, Tryz.ntmps137
  go_wp2_with (first | (go_at_call 34; refine (HC.out _).mono ?_; rintro e w1 ⟨rfl, rfl⟩; clear HC) | (go_at_call 177; refine (truth_any _ _).mono ?_; rintro e w1 ⟨rfl, rfl⟩))
  all_goals (go_ret2; exact ⟨ret_two (iv (by (first | rfl | omega | ((try unfold fit); (try unfold fitE); (try unfold tr); (try unfold inr); (try unfold wrap64); (try unfold wrap64 at *); (try simp_all) <;> omega)))) (iv (by (first | rfl | omega | ((try unfold fit); (try unfold fitE); (try unfold tr); (try unfold inr); (try unfold wrap64); (try unfold wrap64 at *); (try simp_all) <;> omega)))), rfl⟩)
set_option maxHeartbeats 4000000 in
theorem rone_b0 (p x : Int) (w : World) (h : arE p = 2) (k : arV p = 0) : Calls Tryz.prog 137 #[.int .i64 p, .int .i64 x] w fun e w' => e = .returned (.tuple #[.int .i64 (0), .int .i64 (2)]) ∧ w = w' := by
  have HC : Hid (∀ W, Calls Tryz.prog 34 #[.int .i64 p] W fun e w' => e = .returned (.tuple #[.int .i64 0, .int .i64 2]) ∧ W = w') := fun W => by have := rarity_any (p) W; rwa [show arV p = 0 by assumption, show arE p = 2 by assumption] at this
  clear h k; go_enter Tryz.func137, Tryz.ntmps137
  go_wp2_with (first | (go_at_call 34; refine (HC.out _).mono ?_; rintro e w1 ⟨rfl, rfl⟩; clear HC) | (go_at_call 177; refine (truth_any _ _).mono ?_; rintro e w1 ⟨rfl, rfl⟩))
  all_goals (go_ret2; exact ⟨ret_two (iv (by (first | rfl | omega | ((try unfold fit); (try unfold fitE); (try unfold tr); (try unfold inr); (try unfold wrap64); (try unfold wrap64 at *); (try simp_all) <;> omega)))) (iv (by (first | rfl | omega | ((try unfold fit); (try unfold fitE); (try unfold tr); (try unfold inr); (try unfold wrap64); (try unfold wrap64 at *); (try simp_all) <;> omega)))), rfl⟩)
theorem ar_cases (p : Int) : ((1 ≤ p ∧ p ≤ 3) ∧ arV p = 1 ∧ arE p = 0) ∨ ((15 ≤ p ∧ p ≤ 32) ∧ arV p = 2 ∧ arE p = 0) ∨ ((¬ (1 ≤ p ∧ p ≤ 3) ∧ ¬ (15 ≤ p ∧ p ≤ 32)) ∧ arV p = 0 ∧ arE p = 2) := by
  unfold arV arE
  by_cases h1 : 1 ≤ p ∧ p ≤ 3
  · exact .inl ⟨h1, by rw [if_pos h1], by rw [if_pos (.inl h1)]⟩
  · by_cases h2 : 15 ≤ p ∧ p ≤ 32
    · exact .inr (.inl ⟨h2, by rw [if_neg h1, if_pos h2], by rw [if_pos (.inr h2)]⟩)
    · exact .inr (.inr ⟨⟨h1, h2⟩, by rw [if_neg h1, if_neg h2], by rw [if_neg (by omega)]⟩)
theorem rone_any (p x : Int) (w : World) (x0 : -9223372036854775808 ≤ x) (x1 : x ≤ 9223372036854775807) :
    Calls Tryz.prog 137 #[.int .i64 p, .int .i64 x] w fun e w' => e = .returned (.tuple #[.int .i64 (oneV p x).1, .int .i64 (oneV p x).2]) ∧ w = w' := by
  rcases ar_cases p with ⟨h, h1, h2⟩ | ⟨h, h1, h2⟩ | ⟨h, h1, h2⟩
  · rcases (show p = 1 ∨ p = 2 ∨ p = 3 by omega) with rfl | rfl | rfl
    · exact rone_1 x w x0 x1
    · by_cases h : x < 0
      · rw [show oneV 2 x = (fit (-x), fitE (-x)) by simp [oneV, h]]
        exact rone_2l x w x0 x1 h
      · rw [show oneV 2 x = (x, 0) by simp [oneV, h]]
        exact rone_2h x w x0 x1 (by omega)
    · exact rone_3 x w
  · rw [show oneV p x = (0, 2) by unfold oneV; repeat rw [if_neg (by omega)]]
    exact rone_b2 p x w h2 h1
  · rw [show oneV p x = (0, 2) by unfold oneV; repeat rw [if_neg (by omega)]]
    exact rone_b0 p x w h2 h1
end Go.Proofs.YtpbfbejckhbijaaGreatDoor.Sc
namespace Go.Proofs.YtpbfbejckhbijaaGreatDoor.Sc
open Go.RowKit

theorem i64_wrap (n : Int) : IntKind.i64.wrap n = wrap64 n := by rw [IntKind.wrap_i64, wrap64]
set_option maxHeartbeats 4000000 in
theorem rsum_in (x y : Int) (w : World) (x0 : -9223372036854775808 ≤ x) (x1 : x ≤ 9223372036854775807) (y0 : -9223372036854775808 ≤ y) (y1 : y ≤ 9223372036854775807) (h : inr (x + y) = true) : Calls Tryz.prog 193 #[.int .i64 x, .int .i64 y] w fun e w' => e = .returned (.tuple #[.int .i64 (x + y), .bool true]) ∧ Below w.heap.size w w' := by
  have hi := inr_iff.1 h
  have hw : wrap64 (x + y) = x + y := by unfold wrap64; omega
  have h1 : 0 < y → wrap64 (9223372036854775807 - y) = 9223372036854775807 - y := by intro _; unfold wrap64; omega
  have h2 : y < 0 → wrap64 (-9223372036854775808 - y) = -9223372036854775808 - y := by intro _; unfold wrap64; omega
  clear h
  rcases (show y < 0 ∨ y = 0 ∨ 0 < y by omega) with k | rfl | k
  · have h2 := h2 k
    have hx : decide (x < -9223372036854775808 - y) = false := decide_eq_false (by omega)
    clear h1 hi
    go_enter Tryz.func193, Tryz.ntmps193
    go_wp2
    all_goals (go_ret2; exact ⟨ret_two (iv (by first | rfl | exact hw | omega)) rfl, Below.refl _ _⟩)
  · clear h1 h2
    go_enter Tryz.func193, Tryz.ntmps193
    go_wp2
    all_goals (go_ret2; exact ⟨ret_two (iv (by first | rfl | exact hw | omega)) rfl, Below.refl _ _⟩)
  · have h1 := h1 k
    have hx : decide (9223372036854775807 - y < x) = false := decide_eq_false (by omega)
    clear h2 hi
    go_enter Tryz.func193, Tryz.ntmps193
    go_wp2
    all_goals (go_ret2; exact ⟨ret_two (iv (by first | rfl | exact hw | omega)) rfl, Below.refl _ _⟩)
set_option maxHeartbeats 4000000 in
theorem rsum_out (x y : Int) (w : World) (x0 : -9223372036854775808 ≤ x) (x1 : x ≤ 9223372036854775807) (y0 : -9223372036854775808 ≤ y) (y1 : y ≤ 9223372036854775807) (h : inr (x + y) = false) : Calls Tryz.prog 193 #[.int .i64 x, .int .i64 y] w fun e w' => e = .returned (.tuple #[.int .i64 (0), .bool false]) ∧ Below w.heap.size w w' := by
  have hi := inr_not.1 h
  have h1 : 0 < y → wrap64 (9223372036854775807 - y) = 9223372036854775807 - y := by intro _; unfold wrap64; omega
  have h2 : y < 0 → wrap64 (-9223372036854775808 - y) = -9223372036854775808 - y := by intro _; unfold wrap64; omega
  clear h
  rcases (show y < 0 ∨ 0 < y by omega) with k | k
  · have h2 := h2 k
    have hx : decide (x < -9223372036854775808 - y) = true := decide_eq_true (by omega)
    clear h1 hi
    go_enter Tryz.func193, Tryz.ntmps193
    go_wp2
    all_goals (go_ret2; exact ⟨rfl, Below.refl _ _⟩)
  · have h1 := h1 k
    have hx : decide (9223372036854775807 - y < x) = true := decide_eq_true (by omega)
    clear h2 hi
    go_enter Tryz.func193, Tryz.ntmps193
    go_wp2
    all_goals (go_ret2; exact ⟨rfl, Below.refl _ _⟩)
set_option maxHeartbeats 4000000 in
theorem rprod_z (x y : Int) (w : World) (h : x = 0 ∨ y = 0) : Calls Tryz.prog 194 #[.int .i64 x, .int .i64 y] w fun e w' => e = .returned (.tuple #[.int .i64 (0), .bool true]) ∧ Below w.heap.size w w' := by
  rcases h with rfl | rfl <;> (go_enter Tryz.func194, Tryz.ntmps194; go_wp2) <;> (go_ret2; exact ⟨rfl, Below.refl _ _⟩)
set_option maxHeartbeats 4000000 in
theorem rprod_nz (x y : Int) (w : World) (x0 : -9223372036854775808 ≤ x) (x1 : x ≤ 9223372036854775807) (hx : x ≠ 0) (hy : y ≠ 0) (h : inr (x * y) = true) : Calls Tryz.prog 194 #[.int .i64 x, .int .i64 y] w fun e w' => e = .returned (.tuple #[.int .i64 (x * y), .bool true]) ∧ Below w.heap.size w w' := by
  have a1 : (x == 0) = false := by simpa using hx
  have a2 : (y == 0) = false := by simpa using hy
  have hi := inr_iff.1 h
  have hw : wrap64 (x * y) = x * y := by unfold wrap64; omega
  have hd : (x * y).tdiv y = x := Int.mul_tdiv_cancel x hy
  have hv : IntKind.i64.wrap x = x := by rw [i64_wrap]; unfold wrap64; omega
  have k1 : (x == -9223372036854775808 && y == -1) = false := by
    cases hq : (x == -9223372036854775808 && y == -1) with
    | false => rfl
    | true => simp at hq; rw [hq.1, hq.2] at hi; omega
  have k2 : (y == -9223372036854775808 && x == -1) = false := by
    cases hq : (y == -9223372036854775808 && x == -1) with
    | false => rfl
    | true => simp at hq; rw [hq.1, hq.2] at hi; omega
  clear h hi
  cases b1 : (x == -9223372036854775808) <;> cases b2 : (y == -9223372036854775808) <;> rw [b1] at k1 <;> rw [b2] at k2 <;> simp only [Bool.true_and, Bool.false_and] at k1 k2 <;>
  (go_enter Tryz.func194, Tryz.ntmps194; go_wp2_with fail; go_quiet (fail); go_wp2_with fail; go_ret2; exact ⟨rfl, below_drewN (Below.refl _ _) _⟩)
set_option maxHeartbeats 4000000 in
theorem rprod_out (x y : Int) (w : World) (x0 : -9223372036854775808 ≤ x) (x1 : x ≤ 9223372036854775807) (y0 : -9223372036854775808 ≤ y) (y1 : y ≤ 9223372036854775807) (hx : x ≠ 0) (hy : y ≠ 0) (h : inr (x * y) = false) : Calls Tryz.prog 194 #[.int .i64 x, .int .i64 y] w fun e w' => ∃ v, e = .returned (.tuple #[.int .i64 v, .bool false]) ∧ Below w.heap.size w w' := by
  have a1 : (x == 0) = false := by simpa using hx
  have a2 : (y == 0) = false := by simpa using hy
  by_cases hs : (x = -9223372036854775808 ∧ y = -1) ∨ (y = -9223372036854775808 ∧ x = -1)
  · rcases hs with ⟨rfl, rfl⟩ | ⟨rfl, rfl⟩ <;> (go_enter Tryz.func194, Tryz.ntmps194; go_wp2) <;> (go_ret2; exact ⟨_, rfl, Below.refl _ _⟩)
  · have hq : (IntKind.i64.wrap ((wrap64 (x * y)).tdiv y) == x) = false := by
      rw [i64_wrap]
      rw [beq_eq_false_iff_ne]
      intro k
      by_cases hy1 : y = -1
      · subst hy1
        have : x * -1 = -x := by omega
        rw [this, inr_not] at h
        omega
      · have hb := tdiv_bd (wrap64 (x * y)) y hy hy1 (by unfold wrap64; omega) (by unfold wrap64; omega)
        rw [show wrap64 ((wrap64 (x * y)).tdiv y) = (wrap64 (x * y)).tdiv y by clear k; generalize (wrap64 (x * y)).tdiv y = q at hb ⊢; unfold wrap64; omega] at k
        rw [mul_back x y hy y0 y1 k] at h
        cases h
    have k1 : (x == -9223372036854775808 && y == -1) = false := by
      cases hq : (x == -9223372036854775808 && y == -1) with
      | false => rfl
      | true => simp at hq; exact absurd (.inl hq) hs
    have k2 : (y == -9223372036854775808 && x == -1) = false := by
      cases hq : (y == -9223372036854775808 && x == -1) with
      | false => rfl
      | true => simp at hq; exact absurd (.inr hq) hs
    clear hs h
    cases b1 : (x == -9223372036854775808) <;> cases b2 : (y == -9223372036854775808) <;> rw [b1] at k1 <;> rw [b2] at k2 <;> simp only [Bool.true_and, Bool.false_and] at k1 k2 <;>
    (go_enter Tryz.func194, Tryz.ntmps194; go_wp2_with fail; go_quiet (fail); go_wp2_with fail; go_ret2; exact ⟨_, rfl, below_drewN (Below.refl _ _) _⟩)
theorem rprod_in (x y : Int) (w : World) (x0 : -9223372036854775808 ≤ x) (x1 : x ≤ 9223372036854775807) (h : inr (x * y) = true) : Calls Tryz.prog 194 #[.int .i64 x, .int .i64 y] w fun e w' => e = .returned (.tuple #[.int .i64 (x * y), .bool true]) ∧ Below w.heap.size w w' := by
  by_cases hz : x = 0 ∨ y = 0
  · rw [show x * y = 0 by rcases hz with rfl | rfl <;> simp]
    exact rprod_z x y w hz
  · exact rprod_nz x y w x0 x1 (fun k => hz (.inl k)) (fun k => hz (.inr k)) h
theorem inr_zero : inr 0 = true := by decide
theorem rprod_no (x y : Int) (w : World) (x0 : -9223372036854775808 ≤ x) (x1 : x ≤ 9223372036854775807) (y0 : -9223372036854775808 ≤ y) (y1 : y ≤ 9223372036854775807) (h : inr (x * y) = false) : Calls Tryz.prog 194 #[.int .i64 x, .int .i64 y] w fun e w' => ∃ v, e = .returned (.tuple #[.int .i64 v, .bool false]) ∧ Below w.heap.size w w' := by
  refine rprod_out x y w x0 x1 y0 y1 ?_ ?_ h
  · rintro rfl; rw [Int.zero_mul, inr_zero] at h; cases h
  · rintro rfl; rw [Int.mul_zero, inr_zero] at h; cases h
set_option maxHeartbeats 4000000 in
theorem rquo_in (x y : Int) (w : World) (x0 : -9223372036854775808 ≤ x) (x1 : x ≤ 9223372036854775807) (hy : y ≠ 0) (h : inr (x.fdiv y) = true) : Calls Tryz.prog 195 #[.int .i64 x, .int .i64 y] w fun e w' => e = .returned (.tuple #[.int .i64 (x.fdiv y), .bool true]) ∧ Below w.heap.size w w' := by
  have hz : (y == 0) = false := by simpa using hy
  have hf := fdiv_of x y hy
  have hn : ¬ (x = -9223372036854775808 ∧ y = -1) := by
    rintro ⟨rfl, rfl⟩
    exact absurd h (by decide)
  have hb : -9223372036854775808 ≤ x.tdiv y ∧ x.tdiv y ≤ 9223372036854775807 ∧ (x.tmod y ≠ 0 → -9223372036854775807 ≤ x.tdiv y) := by
    by_cases hy1 : y = -1
    · subst hy1; simp; omega
    · exact tdiv_bd x y hy hy1 x0 x1
  have hw : wrap64 (x.tdiv y) = x.tdiv y := by unfold wrap64; omega
  have hw1 : x.tmod y ≠ 0 → wrap64 (x.tdiv y - 1) = x.tdiv y - 1 := by intro k; unfold wrap64; omega
  have k1 : (x == -9223372036854775808 && y == -1) = false := by
    cases hq : (x == -9223372036854775808 && y == -1) with
    | false => rfl
    | true => simp at hq; exact absurd hq hn
  clear hb hn h
  have HF := Lib.hid hf
  have HW := Lib.hid hw1
  clear hf hw1
  cases b1 : (x == -9223372036854775808) <;> rw [b1] at k1 <;> simp only [Bool.true_and, Bool.false_and] at k1 <;>
  (go_enter Tryz.func195, Tryz.ntmps195; go_wp2) <;>
  (go_ret2; exact ⟨ret_two (iv (by rw [HF.out]; have k2 := HW.out; clear HF HW; simp_all)) rfl, Below.refl _ _⟩)
set_option maxHeartbeats 4000000 in
theorem rquo_out (x y : Int) (w : World) (x0 : -9223372036854775808 ≤ x) (x1 : x ≤ 9223372036854775807) (hy : y ≠ 0) (h : inr (x.fdiv y) = false) : Calls Tryz.prog 195 #[.int .i64 x, .int .i64 y] w fun e w' => e = .returned (.tuple #[.int .i64 (0), .bool false]) ∧ Below w.heap.size w w' := by
  have hn : x = -9223372036854775808 ∧ y = -1 := by
    by_cases hy1 : y = -1
    · subst hy1
      rw [show x.fdiv (-1) = -x by rw [fdiv_of x (-1) (by decide)]; simp, inr_not] at h
      omega
    · rw [fdiv_in x y hy hy1 x0 x1] at h; cases h
  obtain ⟨rfl, rfl⟩ := hn
  go_enter Tryz.func195, Tryz.ntmps195
  go_wp2
  go_ret2
  exact ⟨rfl, Below.refl _ _⟩
set_option maxHeartbeats 4000000 in
theorem rrest_any (x y : Int) (w : World) (x0 : -9223372036854775808 ≤ x) (x1 : x ≤ 9223372036854775807) (y0 : -9223372036854775808 ≤ y) (y1 : y ≤ 9223372036854775807) (hy : y ≠ 0) : Calls Tryz.prog 191 #[.int .i64 x, .int .i64 y] w fun e w' => e = .returned (.int .i64 (x.fmod y)) ∧ Below w.heap.size w w' := by
  by_cases hy1 : y = -1
  · subst hy1
    go_enter Tryz.func191, Tryz.ntmps191
    go_wp2
    go_ret
    exact ⟨by rw [fmod_of x (-1) (by decide)]; simp, Below.refl _ _⟩
  · have hz : (y == 0) = false := by simpa using hy
    have hm : (y == -1) = false := by simpa using hy1
    have HB := Lib.hid (tmod_bd x y hy)
    have HF := Lib.hid (fmod_of x y hy)
    go_enter Tryz.func191, Tryz.ntmps191
    go_wp2
    all_goals (go_ret; refine ⟨?_, Below.refl _ _⟩; rw [HF.out]; have k1 := HB.out; clear HF HB; generalize x.tmod y = r at *; simp_all <;> (try unfold wrap64) <;> (try intro _) <;> omega)
set_option maxHeartbeats 4000000 in
theorem rcalc_15 (x y : Int) (w : World) (x0 : -9223372036854775808 ≤ x) (x1 : x ≤ 9223372036854775807) (y0 : -9223372036854775808 ≤ y) (y1 : y ≤ 9223372036854775807) (h : inr (x + y) = true) : Calls Tryz.prog 179 #[.int .i64 15, .int .i64 x, .int .i64 y] w fun e w' => e = .returned (.tuple #[.int .i64 (x + y), .bool true]) ∧ Below w.heap.size w w' := by
  go_enter Tryz.func179, Tryz.ntmps179
  go_wp2_with (go_at_call 193; refine (rsum_in _ _ _ x0 x1 y0 y1 h).mono ?_; rintro e w1 ⟨rfl, hb⟩)
  go_ret2
  exact ⟨rfl, hb⟩
set_option maxHeartbeats 4000000 in
theorem rcalc_15o (x y : Int) (w : World) (x0 : -9223372036854775808 ≤ x) (x1 : x ≤ 9223372036854775807) (y0 : -9223372036854775808 ≤ y) (y1 : y ≤ 9223372036854775807) (h : inr (x + y) = false) : Calls Tryz.prog 179 #[.int .i64 15, .int .i64 x, .int .i64 y] w fun e w' => ∃ v, e = .returned (.tuple #[.int .i64 v, .bool false]) ∧ Below w.heap.size w w' := by
  go_enter Tryz.func179, Tryz.ntmps179
  go_wp2_with (go_at_call 193; refine (rsum_out _ _ _ x0 x1 y0 y1 h).mono ?_; rintro e w1 ⟨rfl, hb⟩)
  go_ret2
  exact ⟨_, rfl, hb⟩
set_option maxHeartbeats 4000000 in
theorem rcalc_17 (x y : Int) (w : World) (x0 : -9223372036854775808 ≤ x) (x1 : x ≤ 9223372036854775807) (h : inr (x * y) = true) : Calls Tryz.prog 179 #[.int .i64 17, .int .i64 x, .int .i64 y] w fun e w' => e = .returned (.tuple #[.int .i64 (x * y), .bool true]) ∧ Below w.heap.size w w' := by
  go_enter Tryz.func179, Tryz.ntmps179
  go_wp2_with (go_at_call 194; refine (rprod_in _ _ _ x0 x1 h).mono ?_; rintro e w1 ⟨rfl, hb⟩)
  go_ret2
  exact ⟨rfl, hb⟩
set_option maxHeartbeats 4000000 in
theorem rcalc_17o (x y : Int) (w : World) (x0 : -9223372036854775808 ≤ x) (x1 : x ≤ 9223372036854775807) (y0 : -9223372036854775808 ≤ y) (y1 : y ≤ 9223372036854775807) (h : inr (x * y) = false) : Calls Tryz.prog 179 #[.int .i64 17, .int .i64 x, .int .i64 y] w fun e w' => ∃ v, e = .returned (.tuple #[.int .i64 v, .bool false]) ∧ Below w.heap.size w w' := by
  go_enter Tryz.func179, Tryz.ntmps179
  go_wp2_with (go_at_call 194; refine (rprod_no _ _ _ x0 x1 y0 y1 h).mono ?_; rintro e w1 ⟨v, rfl, hb⟩)
  go_ret2
  exact ⟨_, rfl, hb⟩
set_option maxHeartbeats 4000000 in
theorem rcalc_18 (x y : Int) (w : World) (x0 : -9223372036854775808 ≤ x) (x1 : x ≤ 9223372036854775807) (hy : y ≠ 0) (h : inr (x.fdiv y) = true) : Calls Tryz.prog 179 #[.int .i64 18, .int .i64 x, .int .i64 y] w fun e w' => e = .returned (.tuple #[.int .i64 (x.fdiv y), .bool true]) ∧ Below w.heap.size w w' := by
  go_enter Tryz.func179, Tryz.ntmps179
  go_wp2_with (go_at_call 195; refine (rquo_in _ _ _ x0 x1 hy h).mono ?_; rintro e w1 ⟨rfl, hb⟩)
  go_ret2
  exact ⟨rfl, hb⟩
set_option maxHeartbeats 4000000 in
theorem rcalc_18o (x y : Int) (w : World) (x0 : -9223372036854775808 ≤ x) (x1 : x ≤ 9223372036854775807) (hy : y ≠ 0) (h : inr (x.fdiv y) = false) : Calls Tryz.prog 179 #[.int .i64 18, .int .i64 x, .int .i64 y] w fun e w' => ∃ v, e = .returned (.tuple #[.int .i64 v, .bool false]) ∧ Below w.heap.size w w' := by
  go_enter Tryz.func179, Tryz.ntmps179
  go_wp2_with (go_at_call 195; refine (rquo_out _ _ _ x0 x1 hy h).mono ?_; rintro e w1 ⟨rfl, hb⟩)
  go_ret2
  exact ⟨_, rfl, hb⟩
set_option maxHeartbeats 4000000 in
theorem rcalc_16 (x y : Int) (w : World) (x0 : -9223372036854775808 ≤ x) (x1 : x ≤ 9223372036854775807) (y0 : -9223372036854775808 ≤ y) (y1 : y ≤ 9223372036854775807) (h : inr (x - y) = true) : Calls Tryz.prog 179 #[.int .i64 16, .int .i64 x, .int .i64 y] w fun e w' => e = .returned (.tuple #[.int .i64 (x - y), .bool true]) ∧ Below w.heap.size w w' := by
  by_cases hy : y = -9223372036854775808
  · subst hy
    rw [inr_iff] at h
    have k1 : decide (0 ≤ x) = false := decide_eq_false (by omega)
    have hw : wrap64 (wrap64 (x + 1) + 9223372036854775807) = x - -9223372036854775808 := by unfold wrap64; omega
    clear h
    go_enter Tryz.func179, Tryz.ntmps179
    go_wp2
    all_goals (go_ret2; exact ⟨ret_two (iv (by first | rfl | omega | exact hw)) rfl, Below.refl _ _⟩)
  · have k1 : (y == -9223372036854775808) = false := by simpa using hy
    have hw : wrap64 (-y) = -y := by unfold wrap64; omega
    rw [show x - y = x + -y by omega] at h ⊢
    go_enter Tryz.func179, Tryz.ntmps179
    go_wp2_with (go_at_call 193; refine (rsum_in _ _ _ x0 x1 (by omega) (by omega) h).mono ?_; rintro e w1 ⟨rfl, hb⟩)
    go_ret2
    exact ⟨rfl, hb⟩
set_option maxHeartbeats 4000000 in
theorem rcalc_16o (x y : Int) (w : World) (x0 : -9223372036854775808 ≤ x) (x1 : x ≤ 9223372036854775807) (y0 : -9223372036854775808 ≤ y) (y1 : y ≤ 9223372036854775807) (h : inr (x - y) = false) : Calls Tryz.prog 179 #[.int .i64 16, .int .i64 x, .int .i64 y] w fun e w' => ∃ v, e = .returned (.tuple #[.int .i64 v, .bool false]) ∧ Below w.heap.size w w' := by
  by_cases hy : y = -9223372036854775808
  · subst hy
    rw [inr_not] at h
    have k1 : decide (0 ≤ x) = true := decide_eq_true (by omega)
    clear h
    go_enter Tryz.func179, Tryz.ntmps179
    go_wp2
    go_ret2
    exact ⟨_, rfl, Below.refl _ _⟩
  · have k1 : (y == -9223372036854775808) = false := by simpa using hy
    have hw : wrap64 (-y) = -y := by unfold wrap64; omega
    rw [show x - y = x + -y by omega] at h
    go_enter Tryz.func179, Tryz.ntmps179
    go_wp2_with (go_at_call 193; refine (rsum_out _ _ _ x0 x1 (by omega) (by omega) h).mono ?_; rintro e w1 ⟨rfl, hb⟩)
    go_ret2
    exact ⟨_, rfl, hb⟩
end Go.Proofs.YtpbfbejckhbijaaGreatDoor.Sc
namespace Go.Proofs.YtpbfbejckhbijaaGreatDoor.Sc
open Go.RowKit

theorem ret_int {k : IntKind} {a b : Int} (h : a = b) : Ending.returned (.int k a) = .returned (.int k b) := by rw [h]
theorem clp_in {z : Int} (h : inr z = true) : clp z = z := by rw [inr_iff] at h; unfold clp; rw [if_neg (by omega), if_neg (by omega)]
set_option maxHeartbeats 4000000 in
theorem rlim_20 (x y : Int) (w : World) (x0 : -9223372036854775808 ≤ x) (x1 : x ≤ 9223372036854775807) (y0 : -9223372036854775808 ≤ y) (y1 : y ≤ 9223372036854775807) : Calls Tryz.prog 192 #[.int .i64 20, .int .i64 x, .int .i64 y] w fun e w' => e = .returned (.int .i64 (clp (x + y))) ∧ Below w.heap.size w w' := by
  cases h : inr (x + y) with
  | true =>
    rw [clp_in h]
    go_enter Tryz.func192, Tryz.ntmps192
    go_wp2_with (go_at_call 179; refine (rcalc_15 _ _ _ x0 x1 y0 y1 h).mono ?_; rintro e w1 ⟨rfl, hb⟩)
    go_ret
    exact ⟨rfl, hb⟩
  | false =>
    have HC : Hid (∀ W, Calls Tryz.prog 179 #[.int .i64 15, .int .i64 x, .int .i64 y] W fun e w' => ∃ v, e = .returned (.tuple #[.int .i64 v, .bool false]) ∧ Below W.heap.size W w') := fun W => rcalc_15o _ _ _ x0 x1 y0 y1 h
    have HO := Lib.hid (inr_not.1 h)
    clear h
    go_enter Tryz.func192, Tryz.ntmps192
    go_wp2_with (go_at_call 179; refine (HC.out _).mono ?_; rintro e w1 ⟨v, rfl, hb⟩)
    all_goals (go_ret; refine ⟨ret_int ?_, hb⟩; have ho := HO.out; clear HO HC; unfold clp; (repeat' split) <;> (try simp_all) <;> omega)
set_option maxHeartbeats 4000000 in
theorem rlim_21 (x y : Int) (w : World) (x0 : -9223372036854775808 ≤ x) (x1 : x ≤ 9223372036854775807) (y0 : -9223372036854775808 ≤ y) (y1 : y ≤ 9223372036854775807) : Calls Tryz.prog 192 #[.int .i64 21, .int .i64 x, .int .i64 y] w fun e w' => e = .returned (.int .i64 (clp (x - y))) ∧ Below w.heap.size w w' := by
  cases h : inr (x - y) with
  | true =>
    rw [clp_in h]
    go_enter Tryz.func192, Tryz.ntmps192
    go_wp2_with (go_at_call 179; refine (rcalc_16 _ _ _ x0 x1 y0 y1 h).mono ?_; rintro e w1 ⟨rfl, hb⟩)
    go_ret
    exact ⟨rfl, hb⟩
  | false =>
    have HC : Hid (∀ W, Calls Tryz.prog 179 #[.int .i64 16, .int .i64 x, .int .i64 y] W fun e w' => ∃ v, e = .returned (.tuple #[.int .i64 v, .bool false]) ∧ Below W.heap.size W w') := fun W => rcalc_16o _ _ _ x0 x1 y0 y1 h
    have HO := Lib.hid (inr_not.1 h)
    clear h
    go_enter Tryz.func192, Tryz.ntmps192
    go_wp2_with (go_at_call 179; refine (HC.out _).mono ?_; rintro e w1 ⟨v, rfl, hb⟩)
    all_goals (go_ret; refine ⟨ret_int ?_, hb⟩; have ho := HO.out; clear HO HC; unfold clp; (repeat' split) <;> (try simp_all) <;> omega)
set_option maxHeartbeats 4000000 in
theorem rlim_22 (x y : Int) (w : World) (x0 : -9223372036854775808 ≤ x) (x1 : x ≤ 9223372036854775807) (y0 : -9223372036854775808 ≤ y) (y1 : y ≤ 9223372036854775807) : Calls Tryz.prog 192 #[.int .i64 22, .int .i64 x, .int .i64 y] w fun e w' => e = .returned (.int .i64 (clp (x * y))) ∧ Below w.heap.size w w' := by
  cases h : inr (x * y) with
  | true =>
    rw [clp_in h]
    go_enter Tryz.func192, Tryz.ntmps192
    go_wp2_with (go_at_call 179; refine (rcalc_17 _ _ _ x0 x1 h).mono ?_; rintro e w1 ⟨rfl, hb⟩)
    go_ret
    exact ⟨rfl, hb⟩
  | false =>
    have HC : Hid (∀ W, Calls Tryz.prog 179 #[.int .i64 17, .int .i64 x, .int .i64 y] W fun e w' => ∃ v, e = .returned (.tuple #[.int .i64 v, .bool false]) ∧ Below W.heap.size W w') := fun W => rcalc_17o _ _ _ x0 x1 y0 y1 h
    have HO := Lib.hid (inr_not.1 h)
    have HS : Hid ((x < 0 → y < 0 → 0 ≤ x * y) ∧ (0 ≤ x → 0 ≤ y → 0 ≤ x * y) ∧ (x < 0 → 0 ≤ y → x * y ≤ 0) ∧ (0 ≤ x → y < 0 → x * y ≤ 0)) := ⟨fun a b => Int.mul_nonneg_of_nonpos_of_nonpos (by omega) (by omega), fun a b => Int.mul_nonneg a b, fun a b => Int.mul_nonpos_of_nonpos_of_nonneg (by omega) b, fun a b => Int.mul_nonpos_of_nonneg_of_nonpos a (by omega)⟩
    clear h
    generalize x * y = m at HC HS HO ⊢
    have h : True := trivial
    clear h
    go_enter Tryz.func192, Tryz.ntmps192
    go_wp2_with (go_at_call 179; refine (HC.out _).mono ?_; rintro e w1 ⟨v, rfl, hb⟩)
    all_goals (go_ret; refine ⟨ret_int ?_, hb⟩; have ho := HO.out; clear HO HC; have hs := HS.out; clear HS; unfold clp; (repeat' split) <;> (try simp_all) <;> omega)
set_option maxHeartbeats 4000000 in
theorem rj_19 (x y : Int) (w : World) (x0 : -9223372036854775808 ≤ x) (x1 : x ≤ 9223372036854775807) (y0 : -9223372036854775808 ≤ y) (y1 : y ≤ 9223372036854775807) (hy : y ≠ 0) : Calls Tryz.prog 178 #[.int .i64 19, .int .i64 x, .int .i64 y] w fun e w' => e = .returned (.int .i64 (x.fmod y)) ∧ Below w.heap.size w w' := by
  go_enter Tryz.func178, Tryz.ntmps178
  go_wp2_with (go_at_call 191; refine (rrest_any _ _ _ x0 x1 y0 y1 hy).mono ?_; rintro e w1 ⟨rfl, hb⟩)
  all_goals (go_ret; first | exact ⟨rfl, hb⟩ | exact ⟨rfl, Below.refl _ _⟩ | (refine ⟨ret_int ?_, Below.refl _ _⟩; omega))
set_option maxHeartbeats 4000000 in
theorem rj_20 (x y : Int) (w : World) (x0 : -9223372036854775808 ≤ x) (x1 : x ≤ 9223372036854775807) (y0 : -9223372036854775808 ≤ y) (y1 : y ≤ 9223372036854775807) : Calls Tryz.prog 178 #[.int .i64 20, .int .i64 x, .int .i64 y] w fun e w' => e = .returned (.int .i64 (clp (x + y))) ∧ Below w.heap.size w w' := by
  go_enter Tryz.func178, Tryz.ntmps178
  go_wp2_with (go_at_call 192; refine (rlim_20 _ _ _ x0 x1 y0 y1).mono ?_; rintro e w1 ⟨rfl, hb⟩)
  all_goals (go_ret; first | exact ⟨rfl, hb⟩ | exact ⟨rfl, Below.refl _ _⟩ | (refine ⟨ret_int ?_, Below.refl _ _⟩; omega))
set_option maxHeartbeats 4000000 in
theorem rj_21 (x y : Int) (w : World) (x0 : -9223372036854775808 ≤ x) (x1 : x ≤ 9223372036854775807) (y0 : -9223372036854775808 ≤ y) (y1 : y ≤ 9223372036854775807) : Calls Tryz.prog 178 #[.int .i64 21, .int .i64 x, .int .i64 y] w fun e w' => e = .returned (.int .i64 (clp (x - y))) ∧ Below w.heap.size w w' := by
  go_enter Tryz.func178, Tryz.ntmps178
  go_wp2_with (go_at_call 192; refine (rlim_21 _ _ _ x0 x1 y0 y1).mono ?_; rintro e w1 ⟨rfl, hb⟩)
  all_goals (go_ret; first | exact ⟨rfl, hb⟩ | exact ⟨rfl, Below.refl _ _⟩ | (refine ⟨ret_int ?_, Below.refl _ _⟩; omega))
set_option maxHeartbeats 4000000 in
theorem rj_22 (x y : Int) (w : World) (x0 : -9223372036854775808 ≤ x) (x1 : x ≤ 9223372036854775807) (y0 : -9223372036854775808 ≤ y) (y1 : y ≤ 9223372036854775807) : Calls Tryz.prog 178 #[.int .i64 22, .int .i64 x, .int .i64 y] w fun e w' => e = .returned (.int .i64 (clp (x * y))) ∧ Below w.heap.size w w' := by
  go_enter Tryz.func178, Tryz.ntmps178
  go_wp2_with (go_at_call 192; refine (rlim_22 _ _ _ x0 x1 y0 y1).mono ?_; rintro e w1 ⟨rfl, hb⟩)
  all_goals (go_ret; first | exact ⟨rfl, hb⟩ | exact ⟨rfl, Below.refl _ _⟩ | (refine ⟨ret_int ?_, Below.refl _ _⟩; omega))
set_option maxHeartbeats 4000000 in
theorem rj_23 (x y : Int) (w : World)  : Calls Tryz.prog 178 #[.int .i64 23, .int .i64 x, .int .i64 y] w fun e w' => e = .returned (.int .i64 (tr (x == y))) ∧ Below w.heap.size w w' := by
  go_enter Tryz.func178, Tryz.ntmps178
  go_wp2_with (go_at_call 177; refine (truth_any _ _).mono ?_; rintro e w1 ⟨rfl, rfl⟩)
  all_goals (go_ret; first | exact ⟨rfl, hb⟩ | exact ⟨rfl, Below.refl _ _⟩ | (refine ⟨ret_int ?_, Below.refl _ _⟩; omega))
set_option maxHeartbeats 4000000 in
theorem rj_24 (x y : Int) (w : World)  : Calls Tryz.prog 178 #[.int .i64 24, .int .i64 x, .int .i64 y] w fun e w' => e = .returned (.int .i64 (tr (x != y))) ∧ Below w.heap.size w w' := by
  go_enter Tryz.func178, Tryz.ntmps178
  go_wp2_with (go_at_call 177; refine (truth_any _ _).mono ?_; rintro e w1 ⟨rfl, rfl⟩)
  all_goals (go_ret; first | exact ⟨rfl, hb⟩ | exact ⟨rfl, Below.refl _ _⟩ | (refine ⟨ret_int ?_, Below.refl _ _⟩; omega))
set_option maxHeartbeats 4000000 in
theorem rj_25 (x y : Int) (w : World)  : Calls Tryz.prog 178 #[.int .i64 25, .int .i64 x, .int .i64 y] w fun e w' => e = .returned (.int .i64 (tr (decide (x < y)))) ∧ Below w.heap.size w w' := by
  go_enter Tryz.func178, Tryz.ntmps178
  go_wp2_with (go_at_call 177; refine (truth_any _ _).mono ?_; rintro e w1 ⟨rfl, rfl⟩)
  all_goals (go_ret; first | exact ⟨rfl, hb⟩ | exact ⟨rfl, Below.refl _ _⟩ | (refine ⟨ret_int ?_, Below.refl _ _⟩; omega))
set_option maxHeartbeats 4000000 in
theorem rj_26 (x y : Int) (w : World)  : Calls Tryz.prog 178 #[.int .i64 26, .int .i64 x, .int .i64 y] w fun e w' => e = .returned (.int .i64 (tr (decide (x ≤ y)))) ∧ Below w.heap.size w w' := by
  go_enter Tryz.func178, Tryz.ntmps178
  go_wp2_with (go_at_call 177; refine (truth_any _ _).mono ?_; rintro e w1 ⟨rfl, rfl⟩)
  all_goals (go_ret; first | exact ⟨rfl, hb⟩ | exact ⟨rfl, Below.refl _ _⟩ | (refine ⟨ret_int ?_, Below.refl _ _⟩; omega))
set_option maxHeartbeats 4000000 in
theorem rj_27 (x y : Int) (w : World)  : Calls Tryz.prog 178 #[.int .i64 27, .int .i64 x, .int .i64 y] w fun e w' => e = .returned (.int .i64 (tr (decide (y < x)))) ∧ Below w.heap.size w w' := by
  go_enter Tryz.func178, Tryz.ntmps178
  go_wp2_with (go_at_call 177; refine (truth_any _ _).mono ?_; rintro e w1 ⟨rfl, rfl⟩)
  all_goals (go_ret; first | exact ⟨rfl, hb⟩ | exact ⟨rfl, Below.refl _ _⟩ | (refine ⟨ret_int ?_, Below.refl _ _⟩; omega))
set_option maxHeartbeats 4000000 in
theorem rj_28 (x y : Int) (w : World)  : Calls Tryz.prog 178 #[.int .i64 28, .int .i64 x, .int .i64 y] w fun e w' => e = .returned (.int .i64 (tr (decide (y ≤ x)))) ∧ Below w.heap.size w w' := by
  go_enter Tryz.func178, Tryz.ntmps178
  go_wp2_with (go_at_call 177; refine (truth_any _ _).mono ?_; rintro e w1 ⟨rfl, rfl⟩)
  all_goals (go_ret; first | exact ⟨rfl, hb⟩ | exact ⟨rfl, Below.refl _ _⟩ | (refine ⟨ret_int ?_, Below.refl _ _⟩; omega))
set_option maxHeartbeats 4000000 in
theorem rj_29 (x y : Int) (w : World) : Calls Tryz.prog 178 #[.int .i64 29, .int .i64 x, .int .i64 y] w fun e w' => e = .returned (.int .i64 (tr (x != 0 && y != 0))) ∧ Below w.heap.size w w' := by
  have HT : Hid (∀ b W, Calls Tryz.prog 177 #[.bool b] W fun e w' => e = .returned (.int .i64 (tr b)) ∧ W = w') := fun b W => truth_any b W
  cases a : (x != 0) <;> cases b : (y != 0) <;> (go_enter Tryz.func178, Tryz.ntmps178; go_wp2_with (go_at_call 177; refine (HT.out _ _).mono ?_; rintro e w1 ⟨rfl, rfl⟩)) <;> (go_ret; exact ⟨rfl, Below.refl _ _⟩)
set_option maxHeartbeats 4000000 in
theorem rj_30 (x y : Int) (w : World) : Calls Tryz.prog 178 #[.int .i64 30, .int .i64 x, .int .i64 y] w fun e w' => e = .returned (.int .i64 (tr (x != 0 || y != 0))) ∧ Below w.heap.size w w' := by
  have HT : Hid (∀ b W, Calls Tryz.prog 177 #[.bool b] W fun e w' => e = .returned (.int .i64 (tr b)) ∧ W = w') := fun b W => truth_any b W
  cases a : (x != 0) <;> cases b : (y != 0) <;> (go_enter Tryz.func178, Tryz.ntmps178; go_wp2_with (go_at_call 177; refine (HT.out _ _).mono ?_; rintro e w1 ⟨rfl, rfl⟩)) <;> (go_ret; exact ⟨rfl, Below.refl _ _⟩)
set_option maxHeartbeats 4000000 in
theorem rj_31 (x y : Int) (w : World)  : Calls Tryz.prog 178 #[.int .i64 31, .int .i64 x, .int .i64 y] w fun e w' => e = .returned (.int .i64 (min x y)) ∧ Below w.heap.size w w' := by
  go_enter Tryz.func178, Tryz.ntmps178
  go_wp2_with (fail)
  all_goals (go_ret; first | exact ⟨rfl, hb⟩ | exact ⟨rfl, Below.refl _ _⟩ | (refine ⟨ret_int ?_, Below.refl _ _⟩; omega))
set_option maxHeartbeats 4000000 in
theorem rj_32 (x y : Int) (w : World)  : Calls Tryz.prog 178 #[.int .i64 32, .int .i64 x, .int .i64 y] w fun e w' => e = .returned (.int .i64 (max x y)) ∧ Below w.heap.size w w' := by
  go_enter Tryz.func178, Tryz.ntmps178
  go_wp2_with (fail)
  all_goals (go_ret; first | exact ⟨rfl, hb⟩ | exact ⟨rfl, Below.refl _ _⟩ | (refine ⟨ret_int ?_, Below.refl _ _⟩; omega))
set_option maxHeartbeats 4000000 in
theorem rtwo_15 (x y : Int) (w : World) (x0 : -9223372036854775808 ≤ x) (x1 : x ≤ 9223372036854775807) (y0 : -9223372036854775808 ≤ y) (y1 : y ≤ 9223372036854775807) : Calls Tryz.prog 144 #[.int .i64 15, .int .i64 x, .int .i64 y] w fun e w' => e = .returned (.tuple #[.int .i64 (fit (x + y)), .int .i64 (fitE (x + y))]) ∧ Below w.heap.size w w' := by
  have A1 : arV 15 = 2 := by decide
  have A2 : arE 15 = 0 := by decide
  have HA : Hid (∀ W, Calls Tryz.prog 34 #[.int .i64 15] W fun e w' => e = .returned (.tuple #[.int .i64 2, .int .i64 0]) ∧ W = w') := fun W => by have := rarity_any 15 W; rwa [A1, A2] at this
  clear A1 A2
  cases h : inr (x + y) with
  | true =>
    rw [(fit_in h).1, (fit_in h).2]
    go_enter Tryz.func144, Tryz.ntmps144
    go_wp2_with (first | (go_at_call 34; refine (HA.out _).mono ?_; rintro e wa ⟨rfl, rfl⟩) | (go_at_call 179; refine (rcalc_15 _ _ _ x0 x1 y0 y1 h).mono ?_; rintro e w1 ⟨rfl, hb⟩))
    go_ret2
    exact ⟨rfl, hb⟩
  | false =>
    rw [(fit_out h).1, (fit_out h).2]
    go_enter Tryz.func144, Tryz.ntmps144
    go_wp2_with (first | (go_at_call 34; refine (HA.out _).mono ?_; rintro e wa ⟨rfl, rfl⟩) | (go_at_call 179; refine (rcalc_15o _ _ _ x0 x1 y0 y1 h).mono ?_; rintro e w1 ⟨v, rfl, hb⟩))
    go_ret2
    exact ⟨rfl, hb⟩
set_option maxHeartbeats 4000000 in
theorem rtwo_16 (x y : Int) (w : World) (x0 : -9223372036854775808 ≤ x) (x1 : x ≤ 9223372036854775807) (y0 : -9223372036854775808 ≤ y) (y1 : y ≤ 9223372036854775807) : Calls Tryz.prog 144 #[.int .i64 16, .int .i64 x, .int .i64 y] w fun e w' => e = .returned (.tuple #[.int .i64 (fit (x - y)), .int .i64 (fitE (x - y))]) ∧ Below w.heap.size w w' := by
  have A1 : arV 16 = 2 := by decide
  have A2 : arE 16 = 0 := by decide
  have HA : Hid (∀ W, Calls Tryz.prog 34 #[.int .i64 16] W fun e w' => e = .returned (.tuple #[.int .i64 2, .int .i64 0]) ∧ W = w') := fun W => by have := rarity_any 16 W; rwa [A1, A2] at this
  clear A1 A2
  cases h : inr (x - y) with
  | true =>
    rw [(fit_in h).1, (fit_in h).2]
    go_enter Tryz.func144, Tryz.ntmps144
    go_wp2_with (first | (go_at_call 34; refine (HA.out _).mono ?_; rintro e wa ⟨rfl, rfl⟩) | (go_at_call 179; refine (rcalc_16 _ _ _ x0 x1 y0 y1 h).mono ?_; rintro e w1 ⟨rfl, hb⟩))
    go_ret2
    exact ⟨rfl, hb⟩
  | false =>
    rw [(fit_out h).1, (fit_out h).2]
    go_enter Tryz.func144, Tryz.ntmps144
    go_wp2_with (first | (go_at_call 34; refine (HA.out _).mono ?_; rintro e wa ⟨rfl, rfl⟩) | (go_at_call 179; refine (rcalc_16o _ _ _ x0 x1 y0 y1 h).mono ?_; rintro e w1 ⟨v, rfl, hb⟩))
    go_ret2
    exact ⟨rfl, hb⟩
set_option maxHeartbeats 4000000 in
theorem rtwo_17 (x y : Int) (w : World) (x0 : -9223372036854775808 ≤ x) (x1 : x ≤ 9223372036854775807) (y0 : -9223372036854775808 ≤ y) (y1 : y ≤ 9223372036854775807) : Calls Tryz.prog 144 #[.int .i64 17, .int .i64 x, .int .i64 y] w fun e w' => e = .returned (.tuple #[.int .i64 (fit (x * y)), .int .i64 (fitE (x * y))]) ∧ Below w.heap.size w w' := by
  have A1 : arV 17 = 2 := by decide
  have A2 : arE 17 = 0 := by decide
  have HA : Hid (∀ W, Calls Tryz.prog 34 #[.int .i64 17] W fun e w' => e = .returned (.tuple #[.int .i64 2, .int .i64 0]) ∧ W = w') := fun W => by have := rarity_any 17 W; rwa [A1, A2] at this
  clear A1 A2
  cases h : inr (x * y) with
  | true =>
    rw [(fit_in h).1, (fit_in h).2]
    go_enter Tryz.func144, Tryz.ntmps144
    go_wp2_with (first | (go_at_call 34; refine (HA.out _).mono ?_; rintro e wa ⟨rfl, rfl⟩) | (go_at_call 179; refine (rcalc_17 _ _ _ x0 x1 h).mono ?_; rintro e w1 ⟨rfl, hb⟩))
    go_ret2
    exact ⟨rfl, hb⟩
  | false =>
    rw [(fit_out h).1, (fit_out h).2]
    go_enter Tryz.func144, Tryz.ntmps144
    go_wp2_with (first | (go_at_call 34; refine (HA.out _).mono ?_; rintro e wa ⟨rfl, rfl⟩) | (go_at_call 179; refine (rcalc_17o _ _ _ x0 x1 y0 y1 h).mono ?_; rintro e w1 ⟨v, rfl, hb⟩))
    go_ret2
    exact ⟨rfl, hb⟩
set_option maxHeartbeats 4000000 in
theorem rtwo_18 (x y : Int) (w : World) (x0 : -9223372036854775808 ≤ x) (x1 : x ≤ 9223372036854775807) (hy : y ≠ 0) : Calls Tryz.prog 144 #[.int .i64 18, .int .i64 x, .int .i64 y] w fun e w' => e = .returned (.tuple #[.int .i64 (fit (x.fdiv y)), .int .i64 (fitE (x.fdiv y))]) ∧ Below w.heap.size w w' := by
  have A1 : arV 18 = 2 := by decide
  have A2 : arE 18 = 0 := by decide
  have hz : (y == 0) = false := by simpa using hy
  have HA : Hid (∀ W, Calls Tryz.prog 34 #[.int .i64 18] W fun e w' => e = .returned (.tuple #[.int .i64 2, .int .i64 0]) ∧ W = w') := fun W => by have := rarity_any 18 W; rwa [A1, A2] at this
  clear A1 A2
  cases h : inr (x.fdiv y) with
  | true =>
    rw [(fit_in h).1, (fit_in h).2]
    go_enter Tryz.func144, Tryz.ntmps144
    go_wp2_with (first | (go_at_call 34; refine (HA.out _).mono ?_; rintro e wa ⟨rfl, rfl⟩) | (go_at_call 179; refine (rcalc_18 _ _ _ x0 x1 hy h).mono ?_; rintro e w1 ⟨rfl, hb⟩))
    go_ret2
    exact ⟨rfl, hb⟩
  | false =>
    rw [(fit_out h).1, (fit_out h).2]
    go_enter Tryz.func144, Tryz.ntmps144
    go_wp2_with (first | (go_at_call 34; refine (HA.out _).mono ?_; rintro e wa ⟨rfl, rfl⟩) | (go_at_call 179; refine (rcalc_18o _ _ _ x0 x1 hy h).mono ?_; rintro e w1 ⟨v, rfl, hb⟩))
    go_ret2
    exact ⟨rfl, hb⟩
set_option maxHeartbeats 4000000 in
theorem rtwo_19 (x y : Int) (w : World) (x0 : -9223372036854775808 ≤ x) (x1 : x ≤ 9223372036854775807) (y0 : -9223372036854775808 ≤ y) (y1 : y ≤ 9223372036854775807) (hy : y ≠ 0) : Calls Tryz.prog 144 #[.int .i64 19, .int .i64 x, .int .i64 y] w fun e w' => e = .returned (.tuple #[.int .i64 (x.fmod y), .int .i64 (0)]) ∧ Below w.heap.size w w' := by
  have A1 : arV 19 = 2 := by decide
  have A2 : arE 19 = 0 := by decide
  have hz : (y == 0) = false := by simpa using hy
  have HA : Hid (∀ W, Calls Tryz.prog 34 #[.int .i64 19] W fun e w' => e = .returned (.tuple #[.int .i64 2, .int .i64 0]) ∧ W = w') := fun W => by have := rarity_any 19 W; rwa [A1, A2] at this
  clear A1 A2
  go_enter Tryz.func144, Tryz.ntmps144
  go_wp2_with (first | (go_at_call 34; refine (HA.out _).mono ?_; rintro e wa ⟨rfl, rfl⟩) | (go_at_call 178; refine (rj_19 _ _ _ x0 x1 y0 y1 hy).mono ?_; rintro e w1 ⟨rfl, hb⟩))
  go_ret2
  exact ⟨rfl, hb⟩
set_option maxHeartbeats 4000000 in
theorem rtwo_20 (x y : Int) (w : World) (x0 : -9223372036854775808 ≤ x) (x1 : x ≤ 9223372036854775807) (y0 : -9223372036854775808 ≤ y) (y1 : y ≤ 9223372036854775807) : Calls Tryz.prog 144 #[.int .i64 20, .int .i64 x, .int .i64 y] w fun e w' => e = .returned (.tuple #[.int .i64 (clp (x + y)), .int .i64 (0)]) ∧ Below w.heap.size w w' := by
  have A1 : arV 20 = 2 := by decide
  have A2 : arE 20 = 0 := by decide
  have HA : Hid (∀ W, Calls Tryz.prog 34 #[.int .i64 20] W fun e w' => e = .returned (.tuple #[.int .i64 2, .int .i64 0]) ∧ W = w') := fun W => by have := rarity_any 20 W; rwa [A1, A2] at this
  clear A1 A2
  go_enter Tryz.func144, Tryz.ntmps144
  go_wp2_with (first | (go_at_call 34; refine (HA.out _).mono ?_; rintro e wa ⟨rfl, rfl⟩) | (go_at_call 178; refine (rj_20 _ _ _ x0 x1 y0 y1).mono ?_; rintro e w1 ⟨rfl, hb⟩))
  go_ret2
  exact ⟨rfl, hb⟩
set_option maxHeartbeats 4000000 in
theorem rtwo_21 (x y : Int) (w : World) (x0 : -9223372036854775808 ≤ x) (x1 : x ≤ 9223372036854775807) (y0 : -9223372036854775808 ≤ y) (y1 : y ≤ 9223372036854775807) : Calls Tryz.prog 144 #[.int .i64 21, .int .i64 x, .int .i64 y] w fun e w' => e = .returned (.tuple #[.int .i64 (clp (x - y)), .int .i64 (0)]) ∧ Below w.heap.size w w' := by
  have A1 : arV 21 = 2 := by decide
  have A2 : arE 21 = 0 := by decide
  have HA : Hid (∀ W, Calls Tryz.prog 34 #[.int .i64 21] W fun e w' => e = .returned (.tuple #[.int .i64 2, .int .i64 0]) ∧ W = w') := fun W => by have := rarity_any 21 W; rwa [A1, A2] at this
  clear A1 A2
  go_enter Tryz.func144, Tryz.ntmps144
  go_wp2_with (first | (go_at_call 34; refine (HA.out _).mono ?_; rintro e wa ⟨rfl, rfl⟩) | (go_at_call 178; refine (rj_21 _ _ _ x0 x1 y0 y1).mono ?_; rintro e w1 ⟨rfl, hb⟩))
  go_ret2
  exact ⟨rfl, hb⟩
set_option maxHeartbeats 4000000 in
theorem rtwo_22 (x y : Int) (w : World) (x0 : -9223372036854775808 ≤ x) (x1 : x ≤ 9223372036854775807) (y0 : -9223372036854775808 ≤ y) (y1 : y ≤ 9223372036854775807) : Calls Tryz.prog 144 #[.int .i64 22, .int .i64 x, .int .i64 y] w fun e w' => e = .returned (.tuple #[.int .i64 (clp (x * y)), .int .i64 (0)]) ∧ Below w.heap.size w w' := by
  have A1 : arV 22 = 2 := by decide
  have A2 : arE 22 = 0 := by decide
  have HA : Hid (∀ W, Calls Tryz.prog 34 #[.int .i64 22] W fun e w' => e = .returned (.tuple #[.int .i64 2, .int .i64 0]) ∧ W = w') := fun W => by have := rarity_any 22 W; rwa [A1, A2] at this
  clear A1 A2
  go_enter Tryz.func144, Tryz.ntmps144
  go_wp2_with (first | (go_at_call 34; refine (HA.out _).mono ?_; rintro e wa ⟨rfl, rfl⟩) | (go_at_call 178; refine (rj_22 _ _ _ x0 x1 y0 y1).mono ?_; rintro e w1 ⟨rfl, hb⟩))
  go_ret2
  exact ⟨rfl, hb⟩
set_option maxHeartbeats 4000000 in
theorem rtwo_23 (x y : Int) (w : World)  : Calls Tryz.prog 144 #[.int .i64 23, .int .i64 x, .int .i64 y] w fun e w' => e = .returned (.tuple #[.int .i64 (tr (x == y)), .int .i64 (0)]) ∧ Below w.heap.size w w' := by
  have A1 : arV 23 = 2 := by decide
  have A2 : arE 23 = 0 := by decide
  have HA : Hid (∀ W, Calls Tryz.prog 34 #[.int .i64 23] W fun e w' => e = .returned (.tuple #[.int .i64 2, .int .i64 0]) ∧ W = w') := fun W => by have := rarity_any 23 W; rwa [A1, A2] at this
  clear A1 A2
  go_enter Tryz.func144, Tryz.ntmps144
  go_wp2_with (first | (go_at_call 34; refine (HA.out _).mono ?_; rintro e wa ⟨rfl, rfl⟩) | (go_at_call 178; refine (rj_23 _ _ _).mono ?_; rintro e w1 ⟨rfl, hb⟩))
  go_ret2
  exact ⟨rfl, hb⟩
set_option maxHeartbeats 4000000 in
theorem rtwo_24 (x y : Int) (w : World)  : Calls Tryz.prog 144 #[.int .i64 24, .int .i64 x, .int .i64 y] w fun e w' => e = .returned (.tuple #[.int .i64 (tr (x != y)), .int .i64 (0)]) ∧ Below w.heap.size w w' := by
  have A1 : arV 24 = 2 := by decide
  have A2 : arE 24 = 0 := by decide
  have HA : Hid (∀ W, Calls Tryz.prog 34 #[.int .i64 24] W fun e w' => e = .returned (.tuple #[.int .i64 2, .int .i64 0]) ∧ W = w') := fun W => by have := rarity_any 24 W; rwa [A1, A2] at this
  clear A1 A2
  go_enter Tryz.func144, Tryz.ntmps144
  go_wp2_with (first | (go_at_call 34; refine (HA.out _).mono ?_; rintro e wa ⟨rfl, rfl⟩) | (go_at_call 178; refine (rj_24 _ _ _).mono ?_; rintro e w1 ⟨rfl, hb⟩))
  go_ret2
  exact ⟨rfl, hb⟩
set_option maxHeartbeats 4000000 in
theorem rtwo_25 (x y : Int) (w : World)  : Calls Tryz.prog 144 #[.int .i64 25, .int .i64 x, .int .i64 y] w fun e w' => e = .returned (.tuple #[.int .i64 (tr (decide (x < y))), .int .i64 (0)]) ∧ Below w.heap.size w w' := by
  have A1 : arV 25 = 2 := by decide
  have A2 : arE 25 = 0 := by decide
  have HA : Hid (∀ W, Calls Tryz.prog 34 #[.int .i64 25] W fun e w' => e = .returned (.tuple #[.int .i64 2, .int .i64 0]) ∧ W = w') := fun W => by have := rarity_any 25 W; rwa [A1, A2] at this
  clear A1 A2
  go_enter Tryz.func144, Tryz.ntmps144
  go_wp2_with (first | (go_at_call 34; refine (HA.out _).mono ?_; rintro e wa ⟨rfl, rfl⟩) | (go_at_call 178; refine (rj_25 _ _ _).mono ?_; rintro e w1 ⟨rfl, hb⟩))
  go_ret2
  exact ⟨rfl, hb⟩
set_option maxHeartbeats 4000000 in
theorem rtwo_26 (x y : Int) (w : World)  : Calls Tryz.prog 144 #[.int .i64 26, .int .i64 x, .int .i64 y] w fun e w' => e = .returned (.tuple #[.int .i64 (tr (decide (x ≤ y))), .int .i64 (0)]) ∧ Below w.heap.size w w' := by
  have A1 : arV 26 = 2 := by decide
  have A2 : arE 26 = 0 := by decide
  have HA : Hid (∀ W, Calls Tryz.prog 34 #[.int .i64 26] W fun e w' => e = .returned (.tuple #[.int .i64 2, .int .i64 0]) ∧ W = w') := fun W => by have := rarity_any 26 W; rwa [A1, A2] at this
  clear A1 A2
  go_enter Tryz.func144, Tryz.ntmps144
  go_wp2_with (first | (go_at_call 34; refine (HA.out _).mono ?_; rintro e wa ⟨rfl, rfl⟩) | (go_at_call 178; refine (rj_26 _ _ _).mono ?_; rintro e w1 ⟨rfl, hb⟩))
  go_ret2
  exact ⟨rfl, hb⟩
set_option maxHeartbeats 4000000 in
theorem rtwo_27 (x y : Int) (w : World)  : Calls Tryz.prog 144 #[.int .i64 27, .int .i64 x, .int .i64 y] w fun e w' => e = .returned (.tuple #[.int .i64 (tr (decide (y < x))), .int .i64 (0)]) ∧ Below w.heap.size w w' := by
  have A1 : arV 27 = 2 := by decide
  have A2 : arE 27 = 0 := by decide
  have HA : Hid (∀ W, Calls Tryz.prog 34 #[.int .i64 27] W fun e w' => e = .returned (.tuple #[.int .i64 2, .int .i64 0]) ∧ W = w') := fun W => by have := rarity_any 27 W; rwa [A1, A2] at this
  clear A1 A2
  go_enter Tryz.func144, Tryz.ntmps144
  go_wp2_with (first | (go_at_call 34; refine (HA.out _).mono ?_; rintro e wa ⟨rfl, rfl⟩) | (go_at_call 178; refine (rj_27 _ _ _).mono ?_; rintro e w1 ⟨rfl, hb⟩))
  go_ret2
  exact ⟨rfl, hb⟩
set_option maxHeartbeats 4000000 in
theorem rtwo_28 (x y : Int) (w : World)  : Calls Tryz.prog 144 #[.int .i64 28, .int .i64 x, .int .i64 y] w fun e w' => e = .returned (.tuple #[.int .i64 (tr (decide (y ≤ x))), .int .i64 (0)]) ∧ Below w.heap.size w w' := by
  have A1 : arV 28 = 2 := by decide
  have A2 : arE 28 = 0 := by decide
  have HA : Hid (∀ W, Calls Tryz.prog 34 #[.int .i64 28] W fun e w' => e = .returned (.tuple #[.int .i64 2, .int .i64 0]) ∧ W = w') := fun W => by have := rarity_any 28 W; rwa [A1, A2] at this
  clear A1 A2
  go_enter Tryz.func144, Tryz.ntmps144
  go_wp2_with (first | (go_at_call 34; refine (HA.out _).mono ?_; rintro e wa ⟨rfl, rfl⟩) | (go_at_call 178; refine (rj_28 _ _ _).mono ?_; rintro e w1 ⟨rfl, hb⟩))
  go_ret2
  exact ⟨rfl, hb⟩
set_option maxHeartbeats 4000000 in
theorem rtwo_29 (x y : Int) (w : World)  : Calls Tryz.prog 144 #[.int .i64 29, .int .i64 x, .int .i64 y] w fun e w' => e = .returned (.tuple #[.int .i64 (tr (x != 0 && y != 0)), .int .i64 (0)]) ∧ Below w.heap.size w w' := by
  have A1 : arV 29 = 2 := by decide
  have A2 : arE 29 = 0 := by decide
  have HA : Hid (∀ W, Calls Tryz.prog 34 #[.int .i64 29] W fun e w' => e = .returned (.tuple #[.int .i64 2, .int .i64 0]) ∧ W = w') := fun W => by have := rarity_any 29 W; rwa [A1, A2] at this
  clear A1 A2
  go_enter Tryz.func144, Tryz.ntmps144
  go_wp2_with (first | (go_at_call 34; refine (HA.out _).mono ?_; rintro e wa ⟨rfl, rfl⟩) | (go_at_call 178; refine (rj_29 _ _ _).mono ?_; rintro e w1 ⟨rfl, hb⟩))
  go_ret2
  exact ⟨rfl, hb⟩
set_option maxHeartbeats 4000000 in
theorem rtwo_30 (x y : Int) (w : World)  : Calls Tryz.prog 144 #[.int .i64 30, .int .i64 x, .int .i64 y] w fun e w' => e = .returned (.tuple #[.int .i64 (tr (x != 0 || y != 0)), .int .i64 (0)]) ∧ Below w.heap.size w w' := by
  have A1 : arV 30 = 2 := by decide
  have A2 : arE 30 = 0 := by decide
  have HA : Hid (∀ W, Calls Tryz.prog 34 #[.int .i64 30] W fun e w' => e = .returned (.tuple #[.int .i64 2, .int .i64 0]) ∧ W = w') := fun W => by have := rarity_any 30 W; rwa [A1, A2] at this
  clear A1 A2
  go_enter Tryz.func144, Tryz.ntmps144
  go_wp2_with (first | (go_at_call 34; refine (HA.out _).mono ?_; rintro e wa ⟨rfl, rfl⟩) | (go_at_call 178; refine (rj_30 _ _ _).mono ?_; rintro e w1 ⟨rfl, hb⟩))
  go_ret2
  exact ⟨rfl, hb⟩
set_option maxHeartbeats 4000000 in
theorem rtwo_31 (x y : Int) (w : World)  : Calls Tryz.prog 144 #[.int .i64 31, .int .i64 x, .int .i64 y] w fun e w' => e = .returned (.tuple #[.int .i64 (min x y), .int .i64 (0)]) ∧ Below w.heap.size w w' := by
  have A1 : arV 31 = 2 := by decide
  have A2 : arE 31 = 0 := by decide
  have HA : Hid (∀ W, Calls Tryz.prog 34 #[.int .i64 31] W fun e w' => e = .returned (.tuple #[.int .i64 2, .int .i64 0]) ∧ W = w') := fun W => by have := rarity_any 31 W; rwa [A1, A2] at this
  clear A1 A2
  go_enter Tryz.func144, Tryz.ntmps144
  go_wp2_with (first | (go_at_call 34; refine (HA.out _).mono ?_; rintro e wa ⟨rfl, rfl⟩) | (go_at_call 178; refine (rj_31 _ _ _).mono ?_; rintro e w1 ⟨rfl, hb⟩))
  go_ret2
  exact ⟨rfl, hb⟩
set_option maxHeartbeats 4000000 in
theorem rtwo_32 (x y : Int) (w : World)  : Calls Tryz.prog 144 #[.int .i64 32, .int .i64 x, .int .i64 y] w fun e w' => e = .returned (.tuple #[.int .i64 (max x y), .int .i64 (0)]) ∧ Below w.heap.size w w' := by
  have A1 : arV 32 = 2 := by decide
  have A2 : arE 32 = 0 := by decide
  have HA : Hid (∀ W, Calls Tryz.prog 34 #[.int .i64 32] W fun e w' => e = .returned (.tuple #[.int .i64 2, .int .i64 0]) ∧ W = w') := fun W => by have := rarity_any 32 W; rwa [A1, A2] at this
  clear A1 A2
  go_enter Tryz.func144, Tryz.ntmps144
  go_wp2_with (first | (go_at_call 34; refine (HA.out _).mono ?_; rintro e wa ⟨rfl, rfl⟩) | (go_at_call 178; refine (rj_32 _ _ _).mono ?_; rintro e w1 ⟨rfl, hb⟩))
  go_ret2
  exact ⟨rfl, hb⟩
set_option maxHeartbeats 4000000 in
theorem rtwo_18z (x : Int) (w : World) : Calls Tryz.prog 144 #[.int .i64 18, .int .i64 x, .int .i64 0] w fun e w' => e = .returned (.tuple #[.int .i64 0, .int .i64 13]) ∧ Below w.heap.size w w' := by
  go_enter Tryz.func144, Tryz.ntmps144
  go_wp2
  go_ret2
  exact ⟨rfl, Below.refl _ _⟩
set_option maxHeartbeats 4000000 in
theorem rtwo_19z (x : Int) (w : World) : Calls Tryz.prog 144 #[.int .i64 19, .int .i64 x, .int .i64 0] w fun e w' => e = .returned (.tuple #[.int .i64 0, .int .i64 13]) ∧ Below w.heap.size w w' := by
  go_enter Tryz.func144, Tryz.ntmps144
  go_wp2
  go_ret2
  exact ⟨rfl, Below.refl _ _⟩
set_option maxHeartbeats 4000000 in
theorem rtwo_b1 (p x y : Int) (w : World) (h : arE p = 0) (k : arV p = 1) : Calls Tryz.prog 144 #[.int .i64 p, .int .i64 x, .int .i64 y] w fun e w' => e = .returned (.tuple #[.int .i64 0, .int .i64 2]) ∧ Below w.heap.size w w' := by
  have HA : Hid (∀ W, Calls Tryz.prog 34 #[.int .i64 p] W fun e w' => e = .returned (.tuple #[.int .i64 1, .int .i64 0]) ∧ W = w') := fun W => by have := rarity_any p W; rwa [h, k] at this
  clear h k
  go_enter Tryz.func144, Tryz.ntmps144
  go_wp2_with (first | (go_at_call 34; refine (HA.out _).mono ?_; rintro e wa ⟨rfl, rfl⟩))
  all_goals (go_ret2; exact ⟨rfl, Below.refl _ _⟩)
set_option maxHeartbeats 4000000 in
theorem rtwo_b0 (p x y : Int) (w : World) (h : arE p = 2) (k : arV p = 0) : Calls Tryz.prog 144 #[.int .i64 p, .int .i64 x, .int .i64 y] w fun e w' => e = .returned (.tuple #[.int .i64 0, .int .i64 2]) ∧ Below w.heap.size w w' := by
  have HA : Hid (∀ W, Calls Tryz.prog 34 #[.int .i64 p] W fun e w' => e = .returned (.tuple #[.int .i64 0, .int .i64 2]) ∧ W = w') := fun W => by have := rarity_any p W; rwa [h, k] at this
  clear h k
  go_enter Tryz.func144, Tryz.ntmps144
  go_wp2_with (first | (go_at_call 34; refine (HA.out _).mono ?_; rintro e wa ⟨rfl, rfl⟩))
  all_goals (go_ret2; exact ⟨rfl, Below.refl _ _⟩)
theorem rtwo_any (p x y : Int) (w : World) (x0 : -9223372036854775808 ≤ x) (x1 : x ≤ 9223372036854775807) (y0 : -9223372036854775808 ≤ y) (y1 : y ≤ 9223372036854775807) :
    Calls Tryz.prog 144 #[.int .i64 p, .int .i64 x, .int .i64 y] w fun e w' => e = .returned (.tuple #[.int .i64 (twoV p x y).1, .int .i64 (twoV p x y).2]) ∧ Below w.heap.size w w' := by
  rcases ar_cases p with ⟨h, h1, h2⟩ | ⟨h, h1, h2⟩ | ⟨h, h1, h2⟩
  · rw [show twoV p x y = (0, 2) by unfold twoV; repeat rw [if_neg (by omega)]]
    exact rtwo_b1 p x y w h2 h1
  · clear h1 h2
    rcases (show p = 15 ∨ p = 16 ∨ p = 17 ∨ p = 18 ∨ p = 19 ∨ p = 20 ∨ p = 21 ∨ p = 22 ∨ p = 23 ∨ p = 24 ∨ p = 25 ∨ p = 26 ∨ p = 27 ∨ p = 28 ∨ p = 29 ∨ p = 30 ∨ p = 31 ∨ p = 32 by omega) with rfl | rfl | rfl | rfl | rfl | rfl | rfl | rfl | rfl | rfl | rfl | rfl | rfl | rfl | rfl | rfl | rfl | rfl
    · exact rtwo_15 x y w x0 x1 y0 y1
    · exact rtwo_16 x y w x0 x1 y0 y1
    · exact rtwo_17 x y w x0 x1 y0 y1
    · by_cases hy : y = 0
      · subst hy
        exact rtwo_18z x w
      · rw [show twoV 18 x y = (fit (x.fdiv y), fitE (x.fdiv y)) by simp [twoV, hy]]
        exact rtwo_18 x y w x0 x1 hy
    · by_cases hy : y = 0
      · subst hy
        exact rtwo_19z x w
      · rw [show twoV 19 x y = (x.fmod y, 0) by simp [twoV, hy]]
        exact rtwo_19 x y w x0 x1 y0 y1 hy
    · exact rtwo_20 x y w x0 x1 y0 y1
    · exact rtwo_21 x y w x0 x1 y0 y1
    · exact rtwo_22 x y w x0 x1 y0 y1
    · exact rtwo_23 x y w 
    · exact rtwo_24 x y w 
    · exact rtwo_25 x y w 
    · exact rtwo_26 x y w 
    · exact rtwo_27 x y w 
    · exact rtwo_28 x y w 
    · exact rtwo_29 x y w 
    · exact rtwo_30 x y w 
    · exact rtwo_31 x y w 
    · exact rtwo_32 x y w 
  · rw [show twoV p x y = (0, 2) by unfold twoV; repeat rw [if_neg (by omega)]]
    exact rtwo_b0 p x y w h2 h1
end Go.Proofs.YtpbfbejckhbijaaGreatDoor.Sc
namespace Go.Proofs.YtpbfbejckhbijaaGreatDoor.Sc
open Go.RowKit

end Go.Proofs.YtpbfbejckhbijaaGreatDoor.Sc
namespace Go.Proofs.YtpbfbejckhbijaaGreatDoor.Sc
open Go.RowKit

/-- Two at p, x, y returns v and e. -/
abbrev CW (p x y v e : Int) : Prop := Hid (∀ W, Calls Tryz.prog 78 #[.int .i64 p, .int .i64 x, .int .i64 y] W fun e' w' => e' = .returned (.tuple #[.int .i64 v, .int .i64 e]) ∧ Below W.heap.size W w')
/-- One at p, x returns v and e. -/
abbrev CO (p x v e : Int) : Prop := Hid (∀ W, Calls Tryz.prog 73 #[.int .i64 p, .int .i64 x] W fun e' w' => e' = .returned (.tuple #[.int .i64 v, .int .i64 e]) ∧ Below W.heap.size W w')
theorem inr_lo {z : Int} (h : inr z = true) : -9223372036854775808 ≤ z := (inr_iff.1 h).1
theorem inr_hi {z : Int} (h : inr z = true) : z ≤ 9223372036854775807 := (inr_iff.1 h).2
theorem cw_of {p x y v e : Int} (ix : inr x = true) (iy : inr y = true) (h : twoV p x y = (v, e)) : CW p x y v e := by
  intro W
  have := stwo_any p x y W (inr_lo ix) (inr_hi ix) (inr_lo iy) (inr_hi iy)
  rwa [h] at this
theorem co_of {p x v e : Int} (ix : inr x = true) (h : oneV p x = (v, e)) : CO p x v e := by
  intro W
  have := sone_any p x W (inr_lo ix) (inr_hi ix)
  rwa [h] at this

theorem t15 {a b z : Int} (h : a + b = z) (hz : inr z = true) : twoV 15 a b = (z, 0) := by subst h; show (fit _, fitE _) = _; rw [(fit_in hz).1, (fit_in hz).2]
theorem t16 {a b z : Int} (h : a - b = z) (hz : inr z = true) : twoV 16 a b = (z, 0) := by subst h; show (fit _, fitE _) = _; rw [(fit_in hz).1, (fit_in hz).2]
theorem t17 {a b z : Int} (h : a * b = z) (hz : inr z = true) : twoV 17 a b = (z, 0) := by subst h; show (fit _, fitE _) = _; rw [(fit_in hz).1, (fit_in hz).2]
theorem t18 {a b z : Int} (hb : b ≠ 0) (h : a.fdiv b = z) (hz : inr z = true) : twoV 18 a b = (z, 0) := by subst h; show (if b = 0 then _ else (fit _, fitE _)) = _; rw [if_neg hb, (fit_in hz).1, (fit_in hz).2]
theorem t19 {a b z : Int} (hb : b ≠ 0) (h : a.fmod b = z) : twoV 19 a b = (z, 0) := by subst h; show (if b = 0 then _ else _) = _; rw [if_neg hb]
theorem t15o {a b : Int} (hz : inr (a + b) = false) : twoV 15 a b = (0, 12) := by show (fit _, fitE _) = _; rw [(fit_out hz).1, (fit_out hz).2]
theorem t16o {a b : Int} (hz : inr (a - b) = false) : twoV 16 a b = (0, 12) := by show (fit _, fitE _) = _; rw [(fit_out hz).1, (fit_out hz).2]
theorem t17o {a b : Int} (hz : inr (a * b) = false) : twoV 17 a b = (0, 12) := by show (fit _, fitE _) = _; rw [(fit_out hz).1, (fit_out hz).2]
theorem t18o {a b : Int} (hb : b ≠ 0) (hz : inr (a.fdiv b) = false) : twoV 18 a b = (0, 12) := by show (if b = 0 then _ else (fit _, fitE _)) = _; rw [if_neg hb, (fit_out hz).1, (fit_out hz).2]
theorem t18z (a : Int) : twoV 18 a 0 = (0, 13) := rfl
theorem t19z (a : Int) : twoV 19 a 0 = (0, 13) := rfl
theorem t20 {a b z : Int} (h : clp (a + b) = z) : twoV 20 a b = (z, 0) := by subst h; rfl
theorem t21 {a b z : Int} (h : clp (a - b) = z) : twoV 21 a b = (z, 0) := by subst h; rfl
theorem t22 {a b z : Int} (h : clp (a * b) = z) : twoV 22 a b = (z, 0) := by subst h; rfl

theorem fdiv_small (x y : Int) (ix : inr x = true) (hy : y ≠ 0) (h : inr (x.fdiv y) = false) : x = -9223372036854775808 ∧ y = -1 := by
  have x0 := inr_lo ix
  have x1 := inr_hi ix
  by_cases hy1 : y = -1
  · subst hy1
    rw [show x.fdiv (-1) = -x by rw [fdiv_of x (-1) (by decide)]; simp, inr_not] at h
    omega
  · rw [fdiv_in x y hy hy1 x0 x1] at h; cases h
theorem inr_fmod {x y : Int} (hy : y ≠ 0) (iy : inr y = true) : inr (x.fmod y) = true := by
  have := fmod_bd x y hy
  have y0 := inr_lo iy
  have y1 := inr_hi iy
  rw [inr_iff]
  omega
theorem mul_fdiv (x y : Int) (hy : y ≠ 0) : (x * y).fdiv y = x := Int.mul_fdiv_cancel x hy
theorem mul_fmod (x y : Int) : (x * y).fmod y = 0 := Int.mul_fmod_left x y
theorem div_mod (x y : Int) : y * x.fdiv y + x.fmod y = x := Int.mul_fdiv_add_fmod x y
end Go.Proofs.YtpbfbejckhbijaaGreatDoor.Sc
