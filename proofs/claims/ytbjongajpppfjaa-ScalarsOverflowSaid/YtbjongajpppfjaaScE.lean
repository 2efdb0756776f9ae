/- Arity and Overflows of the code. -/
import Derived.Test.YtbjongajpppfjaaScD
namespace Go.Proofs.Ytbjongajpppfjaa
open Go.RowKit

theorem ofTwo_nil (p : Int) (w : World) (h : p < 15 ∨ 32 < p) : Calls Try.prog 23 #[.int .i64 p] w fun e w' => e = .returned .nilFunc ∧ Below w.heap.size w w' := by
  by_cases hl : p < 0
  · exact ofTwo_lo p w hl
  by_cases hh : 33 ≤ p
  · exact ofTwo_hi p w hh
  rcases (show p = 0 ∨ p = 1 ∨ p = 2 ∨ p = 3 ∨ p = 4 ∨ p = 5 ∨ p = 6 ∨ p = 7 ∨ p = 8 ∨ p = 9 ∨ p = 10 ∨ p = 11 ∨ p = 12 ∨ p = 13 ∨ p = 14 by omega) with rfl | rfl | rfl | rfl | rfl | rfl | rfl | rfl | rfl | rfl | rfl | rfl | rfl | rfl | rfl
  · exact ofTwo_in 0 .nilFunc w (by decide) rfl
  · exact ofTwo_in 1 .nilFunc w (by decide) rfl
  · exact ofTwo_in 2 .nilFunc w (by decide) rfl
  · exact ofTwo_in 3 .nilFunc w (by decide) rfl
  · exact ofTwo_in 4 .nilFunc w (by decide) rfl
  · exact ofTwo_in 5 .nilFunc w (by decide) rfl
  · exact ofTwo_in 6 .nilFunc w (by decide) rfl
  · exact ofTwo_in 7 .nilFunc w (by decide) rfl
  · exact ofTwo_in 8 .nilFunc w (by decide) rfl
  · exact ofTwo_in 9 .nilFunc w (by decide) rfl
  · exact ofTwo_in 10 .nilFunc w (by decide) rfl
  · exact ofTwo_in 11 .nilFunc w (by decide) rfl
  · exact ofTwo_in 12 .nilFunc w (by decide) rfl
  · exact ofTwo_in 13 .nilFunc w (by decide) rfl
  · exact ofTwo_in 14 .nilFunc w (by decide) rfl
theorem ofTwo_fun (p : Int) (w : World) (h : 15 ≤ p) (h' : p ≤ 32) : Calls Try.prog 23 #[.int .i64 p] w fun e w' => ∃ f, e = .returned (.func (.func f) #[] #[]) ∧ Below w.heap.size w w' := by
  rcases (show p = 15 ∨ p = 16 ∨ p = 17 ∨ p = 18 ∨ p = 19 ∨ p = 20 ∨ p = 21 ∨ p = 22 ∨ p = 23 ∨ p = 24 ∨ p = 25 ∨ p = 26 ∨ p = 27 ∨ p = 28 ∨ p = 29 ∨ p = 30 ∨ p = 31 ∨ p = 32 by omega) with rfl | rfl | rfl | rfl | rfl | rfl | rfl | rfl | rfl | rfl | rfl | rfl | rfl | rfl | rfl | rfl | rfl | rfl
  · exact (ofTwo_in 15 _ w (by decide) rfl).mono fun e w' k => ⟨_, k.1, k.2⟩
  · exact (ofTwo_in 16 _ w (by decide) rfl).mono fun e w' k => ⟨_, k.1, k.2⟩
  · exact (ofTwo_in 17 _ w (by decide) rfl).mono fun e w' k => ⟨_, k.1, k.2⟩
  · exact (ofTwo_in 18 _ w (by decide) rfl).mono fun e w' k => ⟨_, k.1, k.2⟩
  · exact (ofTwo_in 19 _ w (by decide) rfl).mono fun e w' k => ⟨_, k.1, k.2⟩
  · exact (ofTwo_in 20 _ w (by decide) rfl).mono fun e w' k => ⟨_, k.1, k.2⟩
  · exact (ofTwo_in 21 _ w (by decide) rfl).mono fun e w' k => ⟨_, k.1, k.2⟩
  · exact (ofTwo_in 22 _ w (by decide) rfl).mono fun e w' k => ⟨_, k.1, k.2⟩
  · exact (ofTwo_in 23 _ w (by decide) rfl).mono fun e w' k => ⟨_, k.1, k.2⟩
  · exact (ofTwo_in 24 _ w (by decide) rfl).mono fun e w' k => ⟨_, k.1, k.2⟩
  · exact (ofTwo_in 25 _ w (by decide) rfl).mono fun e w' k => ⟨_, k.1, k.2⟩
  · exact (ofTwo_in 26 _ w (by decide) rfl).mono fun e w' k => ⟨_, k.1, k.2⟩
  · exact (ofTwo_in 27 _ w (by decide) rfl).mono fun e w' k => ⟨_, k.1, k.2⟩
  · exact (ofTwo_in 28 _ w (by decide) rfl).mono fun e w' k => ⟨_, k.1, k.2⟩
  · exact (ofTwo_in 29 _ w (by decide) rfl).mono fun e w' k => ⟨_, k.1, k.2⟩
  · exact (ofTwo_in 30 _ w (by decide) rfl).mono fun e w' k => ⟨_, k.1, k.2⟩
  · exact (ofTwo_in 31 _ w (by decide) rfl).mono fun e w' k => ⟨_, k.1, k.2⟩
  · exact (ofTwo_in 32 _ w (by decide) rfl).mono fun e w' k => ⟨_, k.1, k.2⟩
theorem ofOne_nil (p : Int) (w : World) (h : p < 1 ∨ 3 < p) : Calls Try.prog 22 #[.int .i64 p] w fun e w' => e = .returned .nilFunc ∧ Below w.heap.size w w' := by
  by_cases hl : p < 0
  · exact ofOne_lo p w hl
  by_cases hh : 4 ≤ p
  · exact ofOne_hi p w hh
  obtain rfl : p = 0 := by omega
  exact ofOne_in 0 .nilFunc w (by decide) rfl
theorem ofOne_fun (p : Int) (w : World) (h : 1 ≤ p) (h' : p ≤ 3) : Calls Try.prog 22 #[.int .i64 p] w fun e w' => ∃ f, e = .returned (.func (.func f) #[] #[]) ∧ Below w.heap.size w w' := by
  rcases (show p = 1 ∨ p = 2 ∨ p = 3 by omega) with rfl | rfl | rfl
  · exact (ofOne_in 1 _ w (by decide) rfl).mono fun e w' k => ⟨_, k.1, k.2⟩
  · exact (ofOne_in 2 _ w (by decide) rfl).mono fun e w' k => ⟨_, k.1, k.2⟩
  · exact (ofOne_in 3 _ w (by decide) rfl).mono fun e w' k => ⟨_, k.1, k.2⟩
set_option maxRecDepth 100000 in
set_option maxHeartbeats 4000000 in
theorem arity_1 (p : Int) (w : World) (h : 1 ≤ p) (h1 : p ≤ 3) : Calls Try.prog 11 #[.int .i64 p] w fun e w' => e = .returned (.tuple #[.int .i64 1, .int .i64 0]) ∧ Below w.heap.size w w' := by
  have E0 := n_nil2
  have E1 := n_fun2
  have E2 := n_nil1
  have E3 := n_fun1
  go_enter Try.func11, Try.ntmps11
  go_wp2_with (first | (go_at_call 22; refine (ofOne_fun p _ (by omega) (by omega)).mono ?_; rintro e w1 ⟨f, rfl, hb⟩))
  go_ret2
  exact ⟨rfl, hb⟩
set_option maxRecDepth 100000 in
set_option maxHeartbeats 4000000 in
theorem arity_2 (p : Int) (w : World) (h : 15 ≤ p) (h1 : p ≤ 32) : Calls Try.prog 11 #[.int .i64 p] w fun e w' => e = .returned (.tuple #[.int .i64 2, .int .i64 0]) ∧ Below w.heap.size w w' := by
  have E0 := n_nil2
  have E1 := n_fun2
  have E2 := n_nil1
  have E3 := n_fun1
  go_enter Try.func11, Try.ntmps11
  go_wp2_with (first | (go_at_call 22; refine (ofOne_nil p _ (by omega)).mono ?_; rintro e w1 ⟨rfl, hb⟩) | (go_at_call 23; refine (ofTwo_fun p _ (by omega) (by omega)).mono ?_; rintro e w2 ⟨f, rfl, hb2⟩))
  go_ret2
  exact ⟨rfl, hb.trans (hb2.mono hb.size)⟩
set_option maxRecDepth 100000 in
set_option maxHeartbeats 4000000 in
theorem arity_0 (p : Int) (w : World) (h : p < 1 ∨ 3 < p) (h1 : p < 15 ∨ 32 < p) : Calls Try.prog 11 #[.int .i64 p] w fun e w' => e = .returned (.tuple #[.int .i64 0, .int .i64 2]) ∧ Below w.heap.size w w' := by
  have E0 := n_nil2
  have E1 := n_fun2
  have E2 := n_nil1
  have E3 := n_fun1
  go_enter Try.func11, Try.ntmps11
  go_wp2_with (first | (go_at_call 22; refine (ofOne_nil p _ (by omega)).mono ?_; rintro e w1 ⟨rfl, hb⟩) | (go_at_call 23; refine (ofTwo_nil p _ (by omega)).mono ?_; rintro e w2 ⟨rfl, hb2⟩))
  go_ret2
  exact ⟨rfl, hb.trans (hb2.mono hb.size)⟩
theorem arity_any (p : Int) (w : World) : Calls Try.prog 11 #[.int .i64 p] w fun e w' => e = .returned (.tuple #[.int .i64 (arV p), .int .i64 (arE p)]) ∧ Below w.heap.size w w' := by
  unfold arV arE
  by_cases h1 : 1 ≤ p ∧ p ≤ 3
  · rw [if_pos h1, if_pos (.inl h1)]; exact arity_1 p w h1.1 h1.2
  · by_cases h2 : 15 ≤ p ∧ p ≤ 32
    · rw [if_neg h1, if_pos h2, if_pos (.inr h2)]; exact arity_2 p w h2.1 h2.2
    · rw [if_neg h1, if_neg h2, if_neg (by omega)]; exact arity_0 p w (by omega) (by omega)
set_option maxRecDepth 100000 in
set_option maxHeartbeats 4000000 in
theorem over_no (p : Int) (w : World) (h : arE p = 2) : Calls Try.prog 13 #[.int .i64 p] w fun e w' => e = .returned (.tuple #[.bool false, .int .i64 2]) ∧ Below w.heap.size w w' := by
  have HC : Hid (∀ W, Calls Try.prog 11 #[.int .i64 p] W fun e w' => e = .returned (.tuple #[.int .i64 (arV p), .int .i64 2]) ∧ Below W.heap.size W w') := fun W => by have := arity_any p W; rwa [h] at this
  go_enter Try.func13, Try.ntmps13
  go_wp2_with (first | (go_at_call 11; refine (HC.out _).mono ?_; rintro e w1 ⟨rfl, hb⟩))
  go_ret2
  exact ⟨rfl, hb⟩
set_option maxRecDepth 100000 in
set_option maxHeartbeats 4000000 in
theorem over_is (p : Int) (w : World) (h : arE p = 0) : Calls Try.prog 13 #[.int .i64 p] w fun e w' => e = .returned (.tuple #[.bool (ovV p), .int .i64 0]) ∧ Below w.heap.size w w' := by
  have HC : Hid (∀ W, Calls Try.prog 11 #[.int .i64 p] W fun e w' => e = .returned (.tuple #[.int .i64 (arV p), .int .i64 0]) ∧ Below W.heap.size W w') := fun W => by have := arity_any p W; rwa [h] at this
  clear h
  go_enter Try.func13, Try.ntmps13
  go_wp2_with (first | (go_at_call 11; refine (HC.out _).mono ?_; rintro e w1 ⟨rfl, hb⟩; clear HC))
  all_goals (go_ret2; refine ⟨ret_two (congrArg Value.bool ?_) rfl, hb⟩; simp_all [ovV])
  all_goals omega
theorem over_any (p : Int) (w : World) : Calls Try.prog 13 #[.int .i64 p] w fun e w' => e = .returned (.tuple #[.bool (ovV p && arE p == 0), .int .i64 (arE p)]) ∧ Below w.heap.size w w' := by
  by_cases h : arE p = 0
  · rw [h]; simpa using over_is p w h
  · have h2 : arE p = 2 := by unfold arE at *; split at h <;> simp_all
    rw [h2]; simpa using over_no p w h2
end Go.Proofs.Ytbjongajpppfjaa
