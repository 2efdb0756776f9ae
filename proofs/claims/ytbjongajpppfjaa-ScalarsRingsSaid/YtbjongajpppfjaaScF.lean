/- The reference's Arity, Overflows, One, Two. -/
import Derived.Test.YtbjongajpppfjaaScE
namespace Go.Proofs.Ytbjongajpppfjaa
open Go.RowKit

set_option maxHeartbeats 4000000 in
theorem rarity_any (p : Int) (w : World) : Calls Try.prog 12 #[.int .i64 p] w fun e w' => e = .returned (.tuple #[.int .i64 (arV p), .int .i64 (arE p)]) ∧ w = w' := by
  go_enter Try.func12, Try.ntmps12
  go_wp2
  all_goals (go_ret2; refine ⟨ret_two (iv ?_) (iv ?_), rfl⟩ <;> (first | unfold arV | unfold arE) <;> (simp at *) <;> (repeat' split) <;> omega)
set_option maxHeartbeats 4000000 in
theorem rover_no (p : Int) (w : World) (h : arE p = 2) : Calls Try.prog 14 #[.int .i64 p] w fun e w' => e = .returned (.tuple #[.bool false, .int .i64 2]) ∧ w = w' := by
  have HC : Hid (∀ W, Calls Try.prog 12 #[.int .i64 p] W fun e w' => e = .returned (.tuple #[.int .i64 (arV p), .int .i64 2]) ∧ W = w') := fun W => by have := rarity_any p W; rwa [h] at this
  clear h
  go_enter Try.func14, Try.ntmps14
  go_wp2_with (first | (go_at_call 12; refine (HC.out _).mono ?_; rintro e w1 ⟨rfl, rfl⟩; clear HC))
  all_goals (go_ret2; exact ⟨rfl, rfl⟩)
set_option maxHeartbeats 4000000 in
theorem rover_is (p : Int) (w : World) (h : arE p = 0) : Calls Try.prog 14 #[.int .i64 p] w fun e w' => e = .returned (.tuple #[.bool (ovV p), .int .i64 0]) ∧ w = w' := by
  have HC : Hid (∀ W, Calls Try.prog 12 #[.int .i64 p] W fun e w' => e = .returned (.tuple #[.int .i64 (arV p), .int .i64 0]) ∧ W = w') := fun W => by have := rarity_any p W; rwa [h] at this
  have HQ : Hid (p < 15 → p ≤ 3) := by unfold Hid arE at *; split at h <;> omega
  clear h
  go_enter Try.func14, Try.ntmps14
  go_wp2_with (first | (go_at_call 12; refine (HC.out _).mono ?_; rintro e w1 ⟨rfl, rfl⟩; clear HC))
  all_goals (go_ret2; refine ⟨ret_two (congrArg Value.bool ?_) rfl, rfl⟩; have hq := HQ.out; clear HQ; rw [Bool.eq_iff_iff]; simp [ovV] at *; try omega)
theorem rover_any (p : Int) (w : World) : Calls Try.prog 14 #[.int .i64 p] w fun e w' => e = .returned (.tuple #[.bool (ovV p && arE p == 0), .int .i64 (arE p)]) ∧ w = w' := by
  by_cases h : arE p = 0
  · rw [h]; simpa using rover_is p w h
  · have h2 : arE p = 2 := by unfold arE at *; split at h <;> simp_all
    rw [h2]; simpa using rover_no p w h2
theorem truth_any (b : Bool) (w : World) : Calls Try.prog 24 #[.bool b] w fun e w' => e = .returned (.int .i64 (tr b)) ∧ w = w' := by
  cases b <;> (go_enter Try.func24, Try.ntmps24; go_wp2; go_ret; exact ⟨rfl, rfl⟩)
set_option maxHeartbeats 4000000 in
theorem rone_1 (x : Int) (w : World) (x0 : -9223372036854775808 ≤ x) (x1 : x ≤ 9223372036854775807) : Calls Try.prog 16 #[.int .i64 1, .int .i64 x] w fun e w' => e = .returned (.tuple #[.int .i64 (fit (-x)), .int .i64 (fitE (-x))]) ∧ w = w' := by
  have HC : Hid (∀ W, Calls Try.prog 12 #[.int .i64 1] W fun e w' => e = .returned (.tuple #[.int .i64 1, .int .i64 0]) ∧ W = w') := fun W => by have := rarity_any (1) W; rwa [show arV 1 = 1 by decide, show arE 1 = 0 by decide] at this
  go_enter Try.func16, Try.ntmps16
  go_wp2_with (first | (go_at_call 12; refine (HC.out _).mono ?_; rintro e w1 ⟨rfl, rfl⟩; clear HC) | (go_at_call 24; refine (truth_any _ _).mono ?_; rintro e w1 ⟨rfl, rfl⟩))
  all_goals (go_ret2; exact ⟨ret_two (iv (by (first | rfl | omega | ((try unfold fit); (try unfold fitE); (try unfold tr); (try unfold inr); (try unfold wrap64); (try unfold wrap64 at *); (try simp_all) <;> omega)))) (iv (by (first | rfl | omega | ((try unfold fit); (try unfold fitE); (try unfold tr); (try unfold inr); (try unfold wrap64); (try unfold wrap64 at *); (try simp_all) <;> omega)))), rfl⟩)
set_option maxHeartbeats 4000000 in
theorem rone_2l (x : Int) (w : World) (x0 : -9223372036854775808 ≤ x) (x1 : x ≤ 9223372036854775807) (h : x < 0) : Calls Try.prog 16 #[.int .i64 2, .int .i64 x] w fun e w' => e = .returned (.tuple #[.int .i64 (fit (-x)), .int .i64 (fitE (-x))]) ∧ w = w' := by
  have HC : Hid (∀ W, Calls Try.prog 12 #[.int .i64 2] W fun e w' => e = .returned (.tuple #[.int .i64 1, .int .i64 0]) ∧ W = w') := fun W => by have := rarity_any (2) W; rwa [show arV 2 = 1 by decide, show arE 2 = 0 by decide] at this
  go_enter Try.func16, Try.ntmps16
  go_wp2_with (first | (go_at_call 12; refine (HC.out _).mono ?_; rintro e w1 ⟨rfl, rfl⟩; clear HC) | (go_at_call 24; refine (truth_any _ _).mono ?_; rintro e w1 ⟨rfl, rfl⟩))
  all_goals (go_ret2; exact ⟨ret_two (iv (by (first | rfl | omega | ((try unfold fit); (try unfold fitE); (try unfold tr); (try unfold inr); (try unfold wrap64); (try unfold wrap64 at *); (try simp_all) <;> omega)))) (iv (by (first | rfl | omega | ((try unfold fit); (try unfold fitE); (try unfold tr); (try unfold inr); (try unfold wrap64); (try unfold wrap64 at *); (try simp_all) <;> omega)))), rfl⟩)
set_option maxHeartbeats 4000000 in
theorem rone_2h (x : Int) (w : World) (x0 : -9223372036854775808 ≤ x) (x1 : x ≤ 9223372036854775807) (h : 0 ≤ x) : Calls Try.prog 16 #[.int .i64 2, .int .i64 x] w fun e w' => e = .returned (.tuple #[.int .i64 (x), .int .i64 (0)]) ∧ w = w' := by
  have HC : Hid (∀ W, Calls Try.prog 12 #[.int .i64 2] W fun e w' => e = .returned (.tuple #[.int .i64 1, .int .i64 0]) ∧ W = w') := fun W => by have := rarity_any (2) W; rwa [show arV 2 = 1 by decide, show arE 2 = 0 by decide] at this
  go_enter Try.func16, Try.ntmps16
  go_wp2_with (first | (go_at_call 12; refine (HC.out _).mono ?_; rintro e w1 ⟨rfl, rfl⟩; clear HC) | (go_at_call 24; refine (truth_any _ _).mono ?_; rintro e w1 ⟨rfl, rfl⟩))
  all_goals (go_ret2; exact ⟨ret_two (iv (by (first | rfl | omega | ((try unfold fit); (try unfold fitE); (try unfold tr); (try unfold inr); (try unfold wrap64); (try unfold wrap64 at *); (try simp_all) <;> omega)))) (iv (by (first | rfl | omega | ((try unfold fit); (try unfold fitE); (try unfold tr); (try unfold inr); (try unfold wrap64); (try unfold wrap64 at *); (try simp_all) <;> omega)))), rfl⟩)
set_option maxHeartbeats 4000000 in
theorem rone_3 (x : Int) (w : World)  : Calls Try.prog 16 #[.int .i64 3, .int .i64 x] w fun e w' => e = .returned (.tuple #[.int .i64 (tr (x == 0)), .int .i64 (0)]) ∧ w = w' := by
  have HC : Hid (∀ W, Calls Try.prog 12 #[.int .i64 3] W fun e w' => e = .returned (.tuple #[.int .i64 1, .int .i64 0]) ∧ W = w') := fun W => by have := rarity_any (3) W; rwa [show arV 3 = 1 by decide, show arE 3 = 0 by decide] at this
  go_enter Try.func16, Try.ntmps16
  go_wp2_with (first | (go_at_call 12; refine (HC.out _).mono ?_; rintro e w1 ⟨rfl, rfl⟩; clear HC) | (go_at_call 24; refine (truth_any _ _).mono ?_; rintro e w1 ⟨rfl, rfl⟩))
  all_goals (go_ret2; exact ⟨ret_two (iv (by (first | rfl | omega | ((try unfold fit); (try unfold fitE); (try unfold tr); (try unfold inr); (try unfold wrap64); (try unfold wrap64 at *); (try simp_all) <;> omega)))) (iv (by (first | rfl | omega | ((try unfold fit); (try unfold fitE); (try unfold tr); (try unfold inr); (try unfold wrap64); (try unfold wrap64 at *); (try simp_all) <;> omega)))), rfl⟩)
set_option maxHeartbeats 4000000 in
theorem rone_b2 (p x : Int) (w : World) (h : arE p = 0) (k : arV p = 2) : Calls Try.prog 16 #[.int .i64 p, .int .i64 x] w fun e w' => e = .returned (.tuple #[.int .i64 (0), .int .i64 (2)]) ∧ w = w' := by
  have HC : Hid (∀ W, Calls Try.prog 12 #[.int .i64 p] W fun e w' => e = .returned (.tuple #[.int .i64 2, .int .i64 0]) ∧ W = w') := fun W => by have := rarity_any (p) W; rwa [show arV p = 2 by assumption, show arE p = 0 by assumption] at this
  clear h k; go_enter Try.func16, Try.ntmps16
  go_wp2_with (first | (go_at_call 12; refine (HC.out _).mono ?_; rintro e w1 ⟨rfl, rfl⟩; clear HC) | (go_at_call 24; refine (truth_any _ _).mono ?_; rintro e w1 ⟨rfl, rfl⟩))
  all_goals (go_ret2; exact ⟨ret_two (iv (by (first | rfl | omega | ((try unfold fit); (try unfold fitE); (try unfold tr); (try unfold inr); (try unfold wrap64); (try unfold wrap64 at *); (try simp_all) <;> omega)))) (iv (by (first | rfl | omega | ((try unfold fit); (try unfold fitE); (try unfold tr); (try unfold inr); (try unfold wrap64); (try unfold wrap64 at *); (try simp_all) <;> omega)))), rfl⟩)
set_option maxHeartbeats 4000000 in
theorem rone_b0 (p x : Int) (w : World) (h : arE p = 2) (k : arV p = 0) : Calls Try.prog 16 #[.int .i64 p, .int .i64 x] w fun e w' => e = .returned (.tuple #[.int .i64 (0), .int .i64 (2)]) ∧ w = w' := by
  have HC : Hid (∀ W, Calls Try.prog 12 #[.int .i64 p] W fun e w' => e = .returned (.tuple #[.int .i64 0, .int .i64 2]) ∧ W = w') := fun W => by have := rarity_any (p) W; rwa [show arV p = 0 by assumption, show arE p = 2 by assumption] at this
  clear h k; go_enter Try.func16, Try.ntmps16
  go_wp2_with (first | (go_at_call 12; refine (HC.out _).mono ?_; rintro e w1 ⟨rfl, rfl⟩; clear HC) | (go_at_call 24; refine (truth_any _ _).mono ?_; rintro e w1 ⟨rfl, rfl⟩))
  all_goals (go_ret2; exact ⟨ret_two (iv (by (first | rfl | omega | ((try unfold fit); (try unfold fitE); (try unfold tr); (try unfold inr); (try unfold wrap64); (try unfold wrap64 at *); (try simp_all) <;> omega)))) (iv (by (first | rfl | omega | ((try unfold fit); (try unfold fitE); (try unfold tr); (try unfold inr); (try unfold wrap64); (try unfold wrap64 at *); (try simp_all) <;> omega)))), rfl⟩)
theorem ar_cases (p : Int) : ((1 ≤ p ∧ p ≤ 3) ∧ arV p = 1 ∧ arE p = 0) ∨ ((15 ≤ p ∧ p ≤ 32) ∧ arV p = 2 ∧ arE p = 0) ∨ ((¬ (1 ≤ p ∧ p ≤ 3) ∧ ¬ (15 ≤ p ∧ p ≤ 32)) ∧ arV p = 0 ∧ arE p = 2) := by
  unfold arV arE
  by_cases h1 : 1 ≤ p ∧ p ≤ 3
  · exact .inl ⟨h1, by rw [if_pos h1], by rw [if_pos (.inl h1)]⟩
  · by_cases h2 : 15 ≤ p ∧ p ≤ 32
    · exact .inr (.inl ⟨h2, by rw [if_neg h1, if_pos h2], by rw [if_pos (.inr h2)]⟩)
    · exact .inr (.inr ⟨⟨h1, h2⟩, by rw [if_neg h1, if_neg h2], by rw [if_neg (by omega)]⟩)
theorem rone_any (p x : Int) (w : World) (x0 : -9223372036854775808 ≤ x) (x1 : x ≤ 9223372036854775807) :
    Calls Try.prog 16 #[.int .i64 p, .int .i64 x] w fun e w' => e = .returned (.tuple #[.int .i64 (oneV p x).1, .int .i64 (oneV p x).2]) ∧ w = w' := by
  rcases ar_cases p with ⟨h, h1, h2⟩ | ⟨h, h1, h2⟩ | ⟨h, h1, h2⟩
  · rcases (show p = 1 ∨ p = 2 ∨ p = 3 by omega) with rfl | rfl | rfl
    · exact rone_1 x w x0 x1
    · by_cases h : x < 0
      · rw [show oneV 2 x = (fit (-x), fitE (-x)) by simp [oneV, h]]
        exact rone_2l x w x0 x1 h
      · rw [show oneV 2 x = (x, 0) by simp [oneV, h]]
        exact rone_2h x w x0 x1 (by omega)
    · exact rone_3 x w
  · rw [show oneV p x = (0, 2) by unfold oneV; repeat rw [if_neg (by omega)]]
    exact rone_b2 p x w h2 h1
  · rw [show oneV p x = (0, 2) by unfold oneV; repeat rw [if_neg (by omega)]]
    exact rone_b0 p x w h2 h1
end Go.Proofs.Ytbjongajpppfjaa
