/- The reference's Two; the law's two, is, awake. -/
import Derived.Test.YtbjongajpppfjaaScG
namespace Go.Proofs.Ytbjongajpppfjaa
open Go.RowKit

theorem ret_int {k : IntKind} {a b : Int} (h : a = b) : Ending.returned (.int k a) = .returned (.int k b) := by rw [h]
theorem clp_in {z : Int} (h : inr z = true) : clp z = z := by rw [inr_iff] at h; unfold clp; rw [if_neg (by omega), if_neg (by omega)]
set_option maxHeartbeats 4000000 in
theorem rlim_20 (x y : Int) (w : World) (x0 : -9223372036854775808 ≤ x) (x1 : x ≤ 9223372036854775807) (y0 : -9223372036854775808 ≤ y) (y1 : y ≤ 9223372036854775807) : Calls Try.prog 49 #[.int .i64 20, .int .i64 x, .int .i64 y] w fun e w' => e = .returned (.int .i64 (clp (x + y))) ∧ Below w.heap.size w w' := by
  cases h : inr (x + y) with
  | true =>
    rw [clp_in h]
    go_enter Try.func49, Try.ntmps49
    go_wp2_with (go_at_call 26; refine (rcalc_15 _ _ _ x0 x1 y0 y1 h).mono ?_; rintro e w1 ⟨rfl, hb⟩)
    go_ret
    exact ⟨rfl, hb⟩
  | false =>
    have HC : Hid (∀ W, Calls Try.prog 26 #[.int .i64 15, .int .i64 x, .int .i64 y] W fun e w' => ∃ v, e = .returned (.tuple #[.int .i64 v, .bool false]) ∧ Below W.heap.size W w') := fun W => rcalc_15o _ _ _ x0 x1 y0 y1 h
    have HO := Lib.hid (inr_not.1 h)
    clear h
    go_enter Try.func49, Try.ntmps49
    go_wp2_with (go_at_call 26; refine (HC.out _).mono ?_; rintro e w1 ⟨v, rfl, hb⟩)
    all_goals (go_ret; refine ⟨ret_int ?_, hb⟩; have ho := HO.out; clear HO HC; unfold clp; (repeat' split) <;> (try simp_all) <;> omega)
set_option maxHeartbeats 4000000 in
theorem rlim_21 (x y : Int) (w : World) (x0 : -9223372036854775808 ≤ x) (x1 : x ≤ 9223372036854775807) (y0 : -9223372036854775808 ≤ y) (y1 : y ≤ 9223372036854775807) : Calls Try.prog 49 #[.int .i64 21, .int .i64 x, .int .i64 y] w fun e w' => e = .returned (.int .i64 (clp (x - y))) ∧ Below w.heap.size w w' := by
  cases h : inr (x - y) with
  | true =>
    rw [clp_in h]
    go_enter Try.func49, Try.ntmps49
    go_wp2_with (go_at_call 26; refine (rcalc_16 _ _ _ x0 x1 y0 y1 h).mono ?_; rintro e w1 ⟨rfl, hb⟩)
    go_ret
    exact ⟨rfl, hb⟩
  | false =>
    have HC : Hid (∀ W, Calls Try.prog 26 #[.int .i64 16, .int .i64 x, .int .i64 y] W fun e w' => ∃ v, e = .returned (.tuple #[.int .i64 v, .bool false]) ∧ Below W.heap.size W w') := fun W => rcalc_16o _ _ _ x0 x1 y0 y1 h
    have HO := Lib.hid (inr_not.1 h)
    clear h
    go_enter Try.func49, Try.ntmps49
    go_wp2_with (go_at_call 26; refine (HC.out _).mono ?_; rintro e w1 ⟨v, rfl, hb⟩)
    all_goals (go_ret; refine ⟨ret_int ?_, hb⟩; have ho := HO.out; clear HO HC; unfold clp; (repeat' split) <;> (try simp_all) <;> omega)
set_option maxHeartbeats 4000000 in
theorem rlim_22 (x y : Int) (w : World) (x0 : -9223372036854775808 ≤ x) (x1 : x ≤ 9223372036854775807) (y0 : -9223372036854775808 ≤ y) (y1 : y ≤ 9223372036854775807) : Calls Try.prog 49 #[.int .i64 22, .int .i64 x, .int .i64 y] w fun e w' => e = .returned (.int .i64 (clp (x * y))) ∧ Below w.heap.size w w' := by
  cases h : inr (x * y) with
  | true =>
    rw [clp_in h]
    go_enter Try.func49, Try.ntmps49
    go_wp2_with (go_at_call 26; refine (rcalc_17 _ _ _ x0 x1 h).mono ?_; rintro e w1 ⟨rfl, hb⟩)
    go_ret
    exact ⟨rfl, hb⟩
  | false =>
    have HC : Hid (∀ W, Calls Try.prog 26 #[.int .i64 17, .int .i64 x, .int .i64 y] W fun e w' => ∃ v, e = .returned (.tuple #[.int .i64 v, .bool false]) ∧ Below W.heap.size W w') := fun W => rcalc_17o _ _ _ x0 x1 y0 y1 h
    have HO := Lib.hid (inr_not.1 h)
    have HS : Hid ((x < 0 → y < 0 → 0 ≤ x * y) ∧ (0 ≤ x → 0 ≤ y → 0 ≤ x * y) ∧ (x < 0 → 0 ≤ y → x * y ≤ 0) ∧ (0 ≤ x → y < 0 → x * y ≤ 0)) := ⟨fun a b => Int.mul_nonneg_of_nonpos_of_nonpos (by omega) (by omega), fun a b => Int.mul_nonneg a b, fun a b => Int.mul_nonpos_of_nonpos_of_nonneg (by omega) b, fun a b => Int.mul_nonpos_of_nonneg_of_nonpos a (by omega)⟩
    clear h
    generalize x * y = m at HC HS HO ⊢
    have h : True := trivial
    clear h
    go_enter Try.func49, Try.ntmps49
    go_wp2_with (go_at_call 26; refine (HC.out _).mono ?_; rintro e w1 ⟨v, rfl, hb⟩)
    all_goals (go_ret; refine ⟨ret_int ?_, hb⟩; have ho := HO.out; clear HO HC; have hs := HS.out; clear HS; unfold clp; (repeat' split) <;> (try simp_all) <;> omega)
set_option maxHeartbeats 4000000 in
theorem rj_19 (x y : Int) (w : World) (x0 : -9223372036854775808 ≤ x) (x1 : x ≤ 9223372036854775807) (y0 : -9223372036854775808 ≤ y) (y1 : y ≤ 9223372036854775807) (hy : y ≠ 0) : Calls Try.prog 25 #[.int .i64 19, .int .i64 x, .int .i64 y] w fun e w' => e = .returned (.int .i64 (x.fmod y)) ∧ Below w.heap.size w w' := by
  go_enter Try.func25, Try.ntmps25
  go_wp2_with (go_at_call 48; refine (rrest_any _ _ _ x0 x1 y0 y1 hy).mono ?_; rintro e w1 ⟨rfl, hb⟩)
  all_goals (go_ret; first | exact ⟨rfl, hb⟩ | exact ⟨rfl, Below.refl _ _⟩ | (refine ⟨ret_int ?_, Below.refl _ _⟩; omega))
set_option maxHeartbeats 4000000 in
theorem rj_20 (x y : Int) (w : World) (x0 : -9223372036854775808 ≤ x) (x1 : x ≤ 9223372036854775807) (y0 : -9223372036854775808 ≤ y) (y1 : y ≤ 9223372036854775807) : Calls Try.prog 25 #[.int .i64 20, .int .i64 x, .int .i64 y] w fun e w' => e = .returned (.int .i64 (clp (x + y))) ∧ Below w.heap.size w w' := by
  go_enter Try.func25, Try.ntmps25
  go_wp2_with (go_at_call 49; refine (rlim_20 _ _ _ x0 x1 y0 y1).mono ?_; rintro e w1 ⟨rfl, hb⟩)
  all_goals (go_ret; first | exact ⟨rfl, hb⟩ | exact ⟨rfl, Below.refl _ _⟩ | (refine ⟨ret_int ?_, Below.refl _ _⟩; omega))
set_option maxHeartbeats 4000000 in
theorem rj_21 (x y : Int) (w : World) (x0 : -9223372036854775808 ≤ x) (x1 : x ≤ 9223372036854775807) (y0 : -9223372036854775808 ≤ y) (y1 : y ≤ 9223372036854775807) : Calls Try.prog 25 #[.int .i64 21, .int .i64 x, .int .i64 y] w fun e w' => e = .returned (.int .i64 (clp (x - y))) ∧ Below w.heap.size w w' := by
  go_enter Try.func25, Try.ntmps25
  go_wp2_with (go_at_call 49; refine (rlim_21 _ _ _ x0 x1 y0 y1).mono ?_; rintro e w1 ⟨rfl, hb⟩)
  all_goals (go_ret; first | exact ⟨rfl, hb⟩ | exact ⟨rfl, Below.refl _ _⟩ | (refine ⟨ret_int ?_, Below.refl _ _⟩; omega))
set_option maxHeartbeats 4000000 in
theorem rj_22 (x y : Int) (w : World) (x0 : -9223372036854775808 ≤ x) (x1 : x ≤ 9223372036854775807) (y0 : -9223372036854775808 ≤ y) (y1 : y ≤ 9223372036854775807) : Calls Try.prog 25 #[.int .i64 22, .int .i64 x, .int .i64 y] w fun e w' => e = .returned (.int .i64 (clp (x * y))) ∧ Below w.heap.size w w' := by
  go_enter Try.func25, Try.ntmps25
  go_wp2_with (go_at_call 49; refine (rlim_22 _ _ _ x0 x1 y0 y1).mono ?_; rintro e w1 ⟨rfl, hb⟩)
  all_goals (go_ret; first | exact ⟨rfl, hb⟩ | exact ⟨rfl, Below.refl _ _⟩ | (refine ⟨ret_int ?_, Below.refl _ _⟩; omega))
set_option maxHeartbeats 4000000 in
theorem rj_23 (x y : Int) (w : World)  : Calls Try.prog 25 #[.int .i64 23, .int .i64 x, .int .i64 y] w fun e w' => e = .returned (.int .i64 (tr (x == y))) ∧ Below w.heap.size w w' := by
  go_enter Try.func25, Try.ntmps25
  go_wp2_with (go_at_call 24; refine (truth_any _ _).mono ?_; rintro e w1 ⟨rfl, rfl⟩)
  all_goals (go_ret; first | exact ⟨rfl, hb⟩ | exact ⟨rfl, Below.refl _ _⟩ | (refine ⟨ret_int ?_, Below.refl _ _⟩; omega))
set_option maxHeartbeats 4000000 in
theorem rj_24 (x y : Int) (w : World)  : Calls Try.prog 25 #[.int .i64 24, .int .i64 x, .int .i64 y] w fun e w' => e = .returned (.int .i64 (tr (x != y))) ∧ Below w.heap.size w w' := by
  go_enter Try.func25, Try.ntmps25
  go_wp2_with (go_at_call 24; refine (truth_any _ _).mono ?_; rintro e w1 ⟨rfl, rfl⟩)
  all_goals (go_ret; first | exact ⟨rfl, hb⟩ | exact ⟨rfl, Below.refl _ _⟩ | (refine ⟨ret_int ?_, Below.refl _ _⟩; omega))
set_option maxHeartbeats 4000000 in
theorem rj_25 (x y : Int) (w : World)  : Calls Try.prog 25 #[.int .i64 25, .int .i64 x, .int .i64 y] w fun e w' => e = .returned (.int .i64 (tr (decide (x < y)))) ∧ Below w.heap.size w w' := by
  go_enter Try.func25, Try.ntmps25
  go_wp2_with (go_at_call 24; refine (truth_any _ _).mono ?_; rintro e w1 ⟨rfl, rfl⟩)
  all_goals (go_ret; first | exact ⟨rfl, hb⟩ | exact ⟨rfl, Below.refl _ _⟩ | (refine ⟨ret_int ?_, Below.refl _ _⟩; omega))
set_option maxHeartbeats 4000000 in
theorem rj_26 (x y : Int) (w : World)  : Calls Try.prog 25 #[.int .i64 26, .int .i64 x, .int .i64 y] w fun e w' => e = .returned (.int .i64 (tr (decide (x ≤ y)))) ∧ Below w.heap.size w w' := by
  go_enter Try.func25, Try.ntmps25
  go_wp2_with (go_at_call 24; refine (truth_any _ _).mono ?_; rintro e w1 ⟨rfl, rfl⟩)
  all_goals (go_ret; first | exact ⟨rfl, hb⟩ | exact ⟨rfl, Below.refl _ _⟩ | (refine ⟨ret_int ?_, Below.refl _ _⟩; omega))
set_option maxHeartbeats 4000000 in
theorem rj_27 (x y : Int) (w : World)  : Calls Try.prog 25 #[.int .i64 27, .int .i64 x, .int .i64 y] w fun e w' => e = .returned (.int .i64 (tr (decide (y < x)))) ∧ Below w.heap.size w w' := by
  go_enter Try.func25, Try.ntmps25
  go_wp2_with (go_at_call 24; refine (truth_any _ _).mono ?_; rintro e w1 ⟨rfl, rfl⟩)
  all_goals (go_ret; first | exact ⟨rfl, hb⟩ | exact ⟨rfl, Below.refl _ _⟩ | (refine ⟨ret_int ?_, Below.refl _ _⟩; omega))
set_option maxHeartbeats 4000000 in
theorem rj_28 (x y : Int) (w : World)  : Calls Try.prog 25 #[.int .i64 28, .int .i64 x, .int .i64 y] w fun e w' => e = .returned (.int .i64 (tr (decide (y ≤ x)))) ∧ Below w.heap.size w w' := by
  go_enter Try.func25, Try.ntmps25
  go_wp2_with (go_at_call 24; refine (truth_any _ _).mono ?_; rintro e w1 ⟨rfl, rfl⟩)
  all_goals (go_ret; first | exact ⟨rfl, hb⟩ | exact ⟨rfl, Below.refl _ _⟩ | (refine ⟨ret_int ?_, Below.refl _ _⟩; omega))
set_option maxHeartbeats 4000000 in
theorem rj_29 (x y : Int) (w : World) : Calls Try.prog 25 #[.int .i64 29, .int .i64 x, .int .i64 y] w fun e w' => e = .returned (.int .i64 (tr (x != 0 && y != 0))) ∧ Below w.heap.size w w' := by
  have HT : Hid (∀ b W, Calls Try.prog 24 #[.bool b] W fun e w' => e = .returned (.int .i64 (tr b)) ∧ W = w') := fun b W => truth_any b W
  cases a : (x != 0) <;> cases b : (y != 0) <;> (go_enter Try.func25, Try.ntmps25; go_wp2_with (go_at_call 24; refine (HT.out _ _).mono ?_; rintro e w1 ⟨rfl, rfl⟩)) <;> (go_ret; exact ⟨rfl, Below.refl _ _⟩)
set_option maxHeartbeats 4000000 in
theorem rj_30 (x y : Int) (w : World) : Calls Try.prog 25 #[.int .i64 30, .int .i64 x, .int .i64 y] w fun e w' => e = .returned (.int .i64 (tr (x != 0 || y != 0))) ∧ Below w.heap.size w w' := by
  have HT : Hid (∀ b W, Calls Try.prog 24 #[.bool b] W fun e w' => e = .returned (.int .i64 (tr b)) ∧ W = w') := fun b W => truth_any b W
  cases a : (x != 0) <;> cases b : (y != 0) <;> (go_enter Try.func25, Try.ntmps25; go_wp2_with (go_at_call 24; refine (HT.out _ _).mono ?_; rintro e w1 ⟨rfl, rfl⟩)) <;> (go_ret; exact ⟨rfl, Below.refl _ _⟩)
set_option maxHeartbeats 4000000 in
theorem rj_31 (x y : Int) (w : World)  : Calls Try.prog 25 #[.int .i64 31, .int .i64 x, .int .i64 y] w fun e w' => e = .returned (.int .i64 (min x y)) ∧ Below w.heap.size w w' := by
  go_enter Try.func25, Try.ntmps25
  go_wp2_with (fail)
  all_goals (go_ret; first | exact ⟨rfl, hb⟩ | exact ⟨rfl, Below.refl _ _⟩ | (refine ⟨ret_int ?_, Below.refl _ _⟩; omega))
set_option maxHeartbeats 4000000 in
theorem rj_32 (x y : Int) (w : World)  : Calls Try.prog 25 #[.int .i64 32, .int .i64 x, .int .i64 y] w fun e w' => e = .returned (.int .i64 (max x y)) ∧ Below w.heap.size w w' := by
  go_enter Try.func25, Try.ntmps25
  go_wp2_with (fail)
  all_goals (go_ret; first | exact ⟨rfl, hb⟩ | exact ⟨rfl, Below.refl _ _⟩ | (refine ⟨ret_int ?_, Below.refl _ _⟩; omega))
set_option maxHeartbeats 4000000 in
theorem rtwo_15 (x y : Int) (w : World) (x0 : -9223372036854775808 ≤ x) (x1 : x ≤ 9223372036854775807) (y0 : -9223372036854775808 ≤ y) (y1 : y ≤ 9223372036854775807) : Calls Try.prog 19 #[.int .i64 15, .int .i64 x, .int .i64 y] w fun e w' => e = .returned (.tuple #[.int .i64 (fit (x + y)), .int .i64 (fitE (x + y))]) ∧ Below w.heap.size w w' := by
  have A1 : arV 15 = 2 := by decide
  have A2 : arE 15 = 0 := by decide
  have HA : Hid (∀ W, Calls Try.prog 12 #[.int .i64 15] W fun e w' => e = .returned (.tuple #[.int .i64 2, .int .i64 0]) ∧ W = w') := fun W => by have := rarity_any 15 W; rwa [A1, A2] at this
  clear A1 A2
  cases h : inr (x + y) with
  | true =>
    rw [(fit_in h).1, (fit_in h).2]
    go_enter Try.func19, Try.ntmps19
    go_wp2_with (first | (go_at_call 12; refine (HA.out _).mono ?_; rintro e wa ⟨rfl, rfl⟩) | (go_at_call 26; refine (rcalc_15 _ _ _ x0 x1 y0 y1 h).mono ?_; rintro e w1 ⟨rfl, hb⟩))
    go_ret2
    exact ⟨rfl, hb⟩
  | false =>
    rw [(fit_out h).1, (fit_out h).2]
    go_enter Try.func19, Try.ntmps19
    go_wp2_with (first | (go_at_call 12; refine (HA.out _).mono ?_; rintro e wa ⟨rfl, rfl⟩) | (go_at_call 26; refine (rcalc_15o _ _ _ x0 x1 y0 y1 h).mono ?_; rintro e w1 ⟨v, rfl, hb⟩))
    go_ret2
    exact ⟨rfl, hb⟩
set_option maxHeartbeats 4000000 in
theorem rtwo_16 (x y : Int) (w : World) (x0 : -9223372036854775808 ≤ x) (x1 : x ≤ 9223372036854775807) (y0 : -9223372036854775808 ≤ y) (y1 : y ≤ 9223372036854775807) : Calls Try.prog 19 #[.int .i64 16, .int .i64 x, .int .i64 y] w fun e w' => e = .returned (.tuple #[.int .i64 (fit (x - y)), .int .i64 (fitE (x - y))]) ∧ Below w.heap.size w w' := by
  have A1 : arV 16 = 2 := by decide
  have A2 : arE 16 = 0 := by decide
  have HA : Hid (∀ W, Calls Try.prog 12 #[.int .i64 16] W fun e w' => e = .returned (.tuple #[.int .i64 2, .int .i64 0]) ∧ W = w') := fun W => by have := rarity_any 16 W; rwa [A1, A2] at this
  clear A1 A2
  cases h : inr (x - y) with
  | true =>
    rw [(fit_in h).1, (fit_in h).2]
    go_enter Try.func19, Try.ntmps19
    go_wp2_with (first | (go_at_call 12; refine (HA.out _).mono ?_; rintro e wa ⟨rfl, rfl⟩) | (go_at_call 26; refine (rcalc_16 _ _ _ x0 x1 y0 y1 h).mono ?_; rintro e w1 ⟨rfl, hb⟩))
    go_ret2
    exact ⟨rfl, hb⟩
  | false =>
    rw [(fit_out h).1, (fit_out h).2]
    go_enter Try.func19, Try.ntmps19
    go_wp2_with (first | (go_at_call 12; refine (HA.out _).mono ?_; rintro e wa ⟨rfl, rfl⟩) | (go_at_call 26; refine (rcalc_16o _ _ _ x0 x1 y0 y1 h).mono ?_; rintro e w1 ⟨v, rfl, hb⟩))
    go_ret2
    exact ⟨rfl, hb⟩
set_option maxHeartbeats 4000000 in
theorem rtwo_17 (x y : Int) (w : World) (x0 : -9223372036854775808 ≤ x) (x1 : x ≤ 9223372036854775807) (y0 : -9223372036854775808 ≤ y) (y1 : y ≤ 9223372036854775807) : Calls Try.prog 19 #[.int .i64 17, .int .i64 x, .int .i64 y] w fun e w' => e = .returned (.tuple #[.int .i64 (fit (x * y)), .int .i64 (fitE (x * y))]) ∧ Below w.heap.size w w' := by
  have A1 : arV 17 = 2 := by decide
  have A2 : arE 17 = 0 := by decide
  have HA : Hid (∀ W, Calls Try.prog 12 #[.int .i64 17] W fun e w' => e = .returned (.tuple #[.int .i64 2, .int .i64 0]) ∧ W = w') := fun W => by have := rarity_any 17 W; rwa [A1, A2] at this
  clear A1 A2
  cases h : inr (x * y) with
  | true =>
    rw [(fit_in h).1, (fit_in h).2]
    go_enter Try.func19, Try.ntmps19
    go_wp2_with (first | (go_at_call 12; refine (HA.out _).mono ?_; rintro e wa ⟨rfl, rfl⟩) | (go_at_call 26; refine (rcalc_17 _ _ _ x0 x1 h).mono ?_; rintro e w1 ⟨rfl, hb⟩))
    go_ret2
    exact ⟨rfl, hb⟩
  | false =>
    rw [(fit_out h).1, (fit_out h).2]
    go_enter Try.func19, Try.ntmps19
    go_wp2_with (first | (go_at_call 12; refine (HA.out _).mono ?_; rintro e wa ⟨rfl, rfl⟩) | (go_at_call 26; refine (rcalc_17o _ _ _ x0 x1 y0 y1 h).mono ?_; rintro e w1 ⟨v, rfl, hb⟩))
    go_ret2
    exact ⟨rfl, hb⟩
set_option maxHeartbeats 4000000 in
theorem rtwo_18 (x y : Int) (w : World) (x0 : -9223372036854775808 ≤ x) (x1 : x ≤ 9223372036854775807) (hy : y ≠ 0) : Calls Try.prog 19 #[.int .i64 18, .int .i64 x, .int .i64 y] w fun e w' => e = .returned (.tuple #[.int .i64 (fit (x.fdiv y)), .int .i64 (fitE (x.fdiv y))]) ∧ Below w.heap.size w w' := by
  have A1 : arV 18 = 2 := by decide
  have A2 : arE 18 = 0 := by decide
  have hz : (y == 0) = false := by simpa using hy
  have HA : Hid (∀ W, Calls Try.prog 12 #[.int .i64 18] W fun e w' => e = .returned (.tuple #[.int .i64 2, .int .i64 0]) ∧ W = w') := fun W => by have := rarity_any 18 W; rwa [A1, A2] at this
  clear A1 A2
  cases h : inr (x.fdiv y) with
  | true =>
    rw [(fit_in h).1, (fit_in h).2]
    go_enter Try.func19, Try.ntmps19
    go_wp2_with (first | (go_at_call 12; refine (HA.out _).mono ?_; rintro e wa ⟨rfl, rfl⟩) | (go_at_call 26; refine (rcalc_18 _ _ _ x0 x1 hy h).mono ?_; rintro e w1 ⟨rfl, hb⟩))
    go_ret2
    exact ⟨rfl, hb⟩
  | false =>
    rw [(fit_out h).1, (fit_out h).2]
    go_enter Try.func19, Try.ntmps19
    go_wp2_with (first | (go_at_call 12; refine (HA.out _).mono ?_; rintro e wa ⟨rfl, rfl⟩) | (go_at_call 26; refine (rcalc_18o _ _ _ x0 x1 hy h).mono ?_; rintro e w1 ⟨v, rfl, hb⟩))
    go_ret2
    exact ⟨rfl, hb⟩
set_option maxHeartbeats 4000000 in
theorem rtwo_19 (x y : Int) (w : World) (x0 : -9223372036854775808 ≤ x) (x1 : x ≤ 9223372036854775807) (y0 : -9223372036854775808 ≤ y) (y1 : y ≤ 9223372036854775807) (hy : y ≠ 0) : Calls Try.prog 19 #[.int .i64 19, .int .i64 x, .int .i64 y] w fun e w' => e = .returned (.tuple #[.int .i64 (x.fmod y), .int .i64 (0)]) ∧ Below w.heap.size w w' := by
  have A1 : arV 19 = 2 := by decide
  have A2 : arE 19 = 0 := by decide
  have hz : (y == 0) = false := by simpa using hy
  have HA : Hid (∀ W, Calls Try.prog 12 #[.int .i64 19] W fun e w' => e = .returned (.tuple #[.int .i64 2, .int .i64 0]) ∧ W = w') := fun W => by have := rarity_any 19 W; rwa [A1, A2] at this
  clear A1 A2
  go_enter Try.func19, Try.ntmps19
  go_wp2_with (first | (go_at_call 12; refine (HA.out _).mono ?_; rintro e wa ⟨rfl, rfl⟩) | (go_at_call 25; refine (rj_19 _ _ _ x0 x1 y0 y1 hy).mono ?_; rintro e w1 ⟨rfl, hb⟩))
  go_ret2
  exact ⟨rfl, hb⟩
set_option maxHeartbeats 4000000 in
theorem rtwo_20 (x y : Int) (w : World) (x0 : -9223372036854775808 ≤ x) (x1 : x ≤ 9223372036854775807) (y0 : -9223372036854775808 ≤ y) (y1 : y ≤ 9223372036854775807) : Calls Try.prog 19 #[.int .i64 20, .int .i64 x, .int .i64 y] w fun e w' => e = .returned (.tuple #[.int .i64 (clp (x + y)), .int .i64 (0)]) ∧ Below w.heap.size w w' := by
  have A1 : arV 20 = 2 := by decide
  have A2 : arE 20 = 0 := by decide
  have HA : Hid (∀ W, Calls Try.prog 12 #[.int .i64 20] W fun e w' => e = .returned (.tuple #[.int .i64 2, .int .i64 0]) ∧ W = w') := fun W => by have := rarity_any 20 W; rwa [A1, A2] at this
  clear A1 A2
  go_enter Try.func19, Try.ntmps19
  go_wp2_with (first | (go_at_call 12; refine (HA.out _).mono ?_; rintro e wa ⟨rfl, rfl⟩) | (go_at_call 25; refine (rj_20 _ _ _ x0 x1 y0 y1).mono ?_; rintro e w1 ⟨rfl, hb⟩))
  go_ret2
  exact ⟨rfl, hb⟩
set_option maxHeartbeats 4000000 in
theorem rtwo_21 (x y : Int) (w : World) (x0 : -9223372036854775808 ≤ x) (x1 : x ≤ 9223372036854775807) (y0 : -9223372036854775808 ≤ y) (y1 : y ≤ 9223372036854775807) : Calls Try.prog 19 #[.int .i64 21, .int .i64 x, .int .i64 y] w fun e w' => e = .returned (.tuple #[.int .i64 (clp (x - y)), .int .i64 (0)]) ∧ Below w.heap.size w w' := by
  have A1 : arV 21 = 2 := by decide
  have A2 : arE 21 = 0 := by decide
  have HA : Hid (∀ W, Calls Try.prog 12 #[.int .i64 21] W fun e w' => e = .returned (.tuple #[.int .i64 2, .int .i64 0]) ∧ W = w') := fun W => by have := rarity_any 21 W; rwa [A1, A2] at this
  clear A1 A2
  go_enter Try.func19, Try.ntmps19
  go_wp2_with (first | (go_at_call 12; refine (HA.out _).mono ?_; rintro e wa ⟨rfl, rfl⟩) | (go_at_call 25; refine (rj_21 _ _ _ x0 x1 y0 y1).mono ?_; rintro e w1 ⟨rfl, hb⟩))
  go_ret2
  exact ⟨rfl, hb⟩
set_option maxHeartbeats 4000000 in
theorem rtwo_22 (x y : Int) (w : World) (x0 : -9223372036854775808 ≤ x) (x1 : x ≤ 9223372036854775807) (y0 : -9223372036854775808 ≤ y) (y1 : y ≤ 9223372036854775807) : Calls Try.prog 19 #[.int .i64 22, .int .i64 x, .int .i64 y] w fun e w' => e = .returned (.tuple #[.int .i64 (clp (x * y)), .int .i64 (0)]) ∧ Below w.heap.size w w' := by
  have A1 : arV 22 = 2 := by decide
  have A2 : arE 22 = 0 := by decide
  have HA : Hid (∀ W, Calls Try.prog 12 #[.int .i64 22] W fun e w' => e = .returned (.tuple #[.int .i64 2, .int .i64 0]) ∧ W = w') := fun W => by have := rarity_any 22 W; rwa [A1, A2] at this
  clear A1 A2
  go_enter Try.func19, Try.ntmps19
  go_wp2_with (first | (go_at_call 12; refine (HA.out _).mono ?_; rintro e wa ⟨rfl, rfl⟩) | (go_at_call 25; refine (rj_22 _ _ _ x0 x1 y0 y1).mono ?_; rintro e w1 ⟨rfl, hb⟩))
  go_ret2
  exact ⟨rfl, hb⟩
set_option maxHeartbeats 4000000 in
theorem rtwo_23 (x y : Int) (w : World)  : Calls Try.prog 19 #[.int .i64 23, .int .i64 x, .int .i64 y] w fun e w' => e = .returned (.tuple #[.int .i64 (tr (x == y)), .int .i64 (0)]) ∧ Below w.heap.size w w' := by
  have A1 : arV 23 = 2 := by decide
  have A2 : arE 23 = 0 := by decide
  have HA : Hid (∀ W, Calls Try.prog 12 #[.int .i64 23] W fun e w' => e = .returned (.tuple #[.int .i64 2, .int .i64 0]) ∧ W = w') := fun W => by have := rarity_any 23 W; rwa [A1, A2] at this
  clear A1 A2
  go_enter Try.func19, Try.ntmps19
  go_wp2_with (first | (go_at_call 12; refine (HA.out _).mono ?_; rintro e wa ⟨rfl, rfl⟩) | (go_at_call 25; refine (rj_23 _ _ _).mono ?_; rintro e w1 ⟨rfl, hb⟩))
  go_ret2
  exact ⟨rfl, hb⟩
set_option maxHeartbeats 4000000 in
theorem rtwo_24 (x y : Int) (w : World)  : Calls Try.prog 19 #[.int .i64 24, .int .i64 x, .int .i64 y] w fun e w' => e = .returned (.tuple #[.int .i64 (tr (x != y)), .int .i64 (0)]) ∧ Below w.heap.size w w' := by
  have A1 : arV 24 = 2 := by decide
  have A2 : arE 24 = 0 := by decide
  have HA : Hid (∀ W, Calls Try.prog 12 #[.int .i64 24] W fun e w' => e = .returned (.tuple #[.int .i64 2, .int .i64 0]) ∧ W = w') := fun W => by have := rarity_any 24 W; rwa [A1, A2] at this
  clear A1 A2
  go_enter Try.func19, Try.ntmps19
  go_wp2_with (first | (go_at_call 12; refine (HA.out _).mono ?_; rintro e wa ⟨rfl, rfl⟩) | (go_at_call 25; refine (rj_24 _ _ _).mono ?_; rintro e w1 ⟨rfl, hb⟩))
  go_ret2
  exact ⟨rfl, hb⟩
set_option maxHeartbeats 4000000 in
theorem rtwo_25 (x y : Int) (w : World)  : Calls Try.prog 19 #[.int .i64 25, .int .i64 x, .int .i64 y] w fun e w' => e = .returned (.tuple #[.int .i64 (tr (decide (x < y))), .int .i64 (0)]) ∧ Below w.heap.size w w' := by
  have A1 : arV 25 = 2 := by decide
  have A2 : arE 25 = 0 := by decide
  have HA : Hid (∀ W, Calls Try.prog 12 #[.int .i64 25] W fun e w' => e = .returned (.tuple #[.int .i64 2, .int .i64 0]) ∧ W = w') := fun W => by have := rarity_any 25 W; rwa [A1, A2] at this
  clear A1 A2
  go_enter Try.func19, Try.ntmps19
  go_wp2_with (first | (go_at_call 12; refine (HA.out _).mono ?_; rintro e wa ⟨rfl, rfl⟩) | (go_at_call 25; refine (rj_25 _ _ _).mono ?_; rintro e w1 ⟨rfl, hb⟩))
  go_ret2
  exact ⟨rfl, hb⟩
set_option maxHeartbeats 4000000 in
theorem rtwo_26 (x y : Int) (w : World)  : Calls Try.prog 19 #[.int .i64 26, .int .i64 x, .int .i64 y] w fun e w' => e = .returned (.tuple #[.int .i64 (tr (decide (x ≤ y))), .int .i64 (0)]) ∧ Below w.heap.size w w' := by
  have A1 : arV 26 = 2 := by decide
  have A2 : arE 26 = 0 := by decide
  have HA : Hid (∀ W, Calls Try.prog 12 #[.int .i64 26] W fun e w' => e = .returned (.tuple #[.int .i64 2, .int .i64 0]) ∧ W = w') := fun W => by have := rarity_any 26 W; rwa [A1, A2] at this
  clear A1 A2
  go_enter Try.func19, Try.ntmps19
  go_wp2_with (first | (go_at_call 12; refine (HA.out _).mono ?_; rintro e wa ⟨rfl, rfl⟩) | (go_at_call 25; refine (rj_26 _ _ _).mono ?_; rintro e w1 ⟨rfl, hb⟩))
  go_ret2
  exact ⟨rfl, hb⟩
set_option maxHeartbeats 4000000 in
theorem rtwo_27 (x y : Int) (w : World)  : Calls Try.prog 19 #[.int .i64 27, .int .i64 x, .int .i64 y] w fun e w' => e = .returned (.tuple #[.int .i64 (tr (decide (y < x))), .int .i64 (0)]) ∧ Below w.heap.size w w' := by
  have A1 : arV 27 = 2 := by decide
  have A2 : arE 27 = 0 := by decide
  have HA : Hid (∀ W, Calls Try.prog 12 #[.int .i64 27] W fun e w' => e = .returned (.tuple #[.int .i64 2, .int .i64 0]) ∧ W = w') := fun W => by have := rarity_any 27 W; rwa [A1, A2] at this
  clear A1 A2
  go_enter Try.func19, Try.ntmps19
  go_wp2_with (first | (go_at_call 12; refine (HA.out _).mono ?_; rintro e wa ⟨rfl, rfl⟩) | (go_at_call 25; refine (rj_27 _ _ _).mono ?_; rintro e w1 ⟨rfl, hb⟩))
  go_ret2
  exact ⟨rfl, hb⟩
set_option maxHeartbeats 4000000 in
theorem rtwo_28 (x y : Int) (w : World)  : Calls Try.prog 19 #[.int .i64 28, .int .i64 x, .int .i64 y] w fun e w' => e = .returned (.tuple #[.int .i64 (tr (decide (y ≤ x))), .int .i64 (0)]) ∧ Below w.heap.size w w' := by
  have A1 : arV 28 = 2 := by decide
  have A2 : arE 28 = 0 := by decide
  have HA : Hid (∀ W, Calls Try.prog 12 #[.int .i64 28] W fun e w' => e = .returned (.tuple #[.int .i64 2, .int .i64 0]) ∧ W = w') := fun W => by have := rarity_any 28 W; rwa [A1, A2] at this
  clear A1 A2
  go_enter Try.func19, Try.ntmps19
  go_wp2_with (first | (go_at_call 12; refine (HA.out _).mono ?_; rintro e wa ⟨rfl, rfl⟩) | (go_at_call 25; refine (rj_28 _ _ _).mono ?_; rintro e w1 ⟨rfl, hb⟩))
  go_ret2
  exact ⟨rfl, hb⟩
set_option maxHeartbeats 4000000 in
theorem rtwo_29 (x y : Int) (w : World)  : Calls Try.prog 19 #[.int .i64 29, .int .i64 x, .int .i64 y] w fun e w' => e = .returned (.tuple #[.int .i64 (tr (x != 0 && y != 0)), .int .i64 (0)]) ∧ Below w.heap.size w w' := by
  have A1 : arV 29 = 2 := by decide
  have A2 : arE 29 = 0 := by decide
  have HA : Hid (∀ W, Calls Try.prog 12 #[.int .i64 29] W fun e w' => e = .returned (.tuple #[.int .i64 2, .int .i64 0]) ∧ W = w') := fun W => by have := rarity_any 29 W; rwa [A1, A2] at this
  clear A1 A2
  go_enter Try.func19, Try.ntmps19
  go_wp2_with (first | (go_at_call 12; refine (HA.out _).mono ?_; rintro e wa ⟨rfl, rfl⟩) | (go_at_call 25; refine (rj_29 _ _ _).mono ?_; rintro e w1 ⟨rfl, hb⟩))
  go_ret2
  exact ⟨rfl, hb⟩
set_option maxHeartbeats 4000000 in
theorem rtwo_30 (x y : Int) (w : World)  : Calls Try.prog 19 #[.int .i64 30, .int .i64 x, .int .i64 y] w fun e w' => e = .returned (.tuple #[.int .i64 (tr (x != 0 || y != 0)), .int .i64 (0)]) ∧ Below w.heap.size w w' := by
  have A1 : arV 30 = 2 := by decide
  have A2 : arE 30 = 0 := by decide
  have HA : Hid (∀ W, Calls Try.prog 12 #[.int .i64 30] W fun e w' => e = .returned (.tuple #[.int .i64 2, .int .i64 0]) ∧ W = w') := fun W => by have := rarity_any 30 W; rwa [A1, A2] at this
  clear A1 A2
  go_enter Try.func19, Try.ntmps19
  go_wp2_with (first | (go_at_call 12; refine (HA.out _).mono ?_; rintro e wa ⟨rfl, rfl⟩) | (go_at_call 25; refine (rj_30 _ _ _).mono ?_; rintro e w1 ⟨rfl, hb⟩))
  go_ret2
  exact ⟨rfl, hb⟩
set_option maxHeartbeats 4000000 in
theorem rtwo_31 (x y : Int) (w : World)  : Calls Try.prog 19 #[.int .i64 31, .int .i64 x, .int .i64 y] w fun e w' => e = .returned (.tuple #[.int .i64 (min x y), .int .i64 (0)]) ∧ Below w.heap.size w w' := by
  have A1 : arV 31 = 2 := by decide
  have A2 : arE 31 = 0 := by decide
  have HA : Hid (∀ W, Calls Try.prog 12 #[.int .i64 31] W fun e w' => e = .returned (.tuple #[.int .i64 2, .int .i64 0]) ∧ W = w') := fun W => by have := rarity_any 31 W; rwa [A1, A2] at this
  clear A1 A2
  go_enter Try.func19, Try.ntmps19
  go_wp2_with (first | (go_at_call 12; refine (HA.out _).mono ?_; rintro e wa ⟨rfl, rfl⟩) | (go_at_call 25; refine (rj_31 _ _ _).mono ?_; rintro e w1 ⟨rfl, hb⟩))
  go_ret2
  exact ⟨rfl, hb⟩
set_option maxHeartbeats 4000000 in
theorem rtwo_32 (x y : Int) (w : World)  : Calls Try.prog 19 #[.int .i64 32, .int .i64 x, .int .i64 y] w fun e w' => e = .returned (.tuple #[.int .i64 (max x y), .int .i64 (0)]) ∧ Below w.heap.size w w' := by
  have A1 : arV 32 = 2 := by decide
  have A2 : arE 32 = 0 := by decide
  have HA : Hid (∀ W, Calls Try.prog 12 #[.int .i64 32] W fun e w' => e = .returned (.tuple #[.int .i64 2, .int .i64 0]) ∧ W = w') := fun W => by have := rarity_any 32 W; rwa [A1, A2] at this
  clear A1 A2
  go_enter Try.func19, Try.ntmps19
  go_wp2_with (first | (go_at_call 12; refine (HA.out _).mono ?_; rintro e wa ⟨rfl, rfl⟩) | (go_at_call 25; refine (rj_32 _ _ _).mono ?_; rintro e w1 ⟨rfl, hb⟩))
  go_ret2
  exact ⟨rfl, hb⟩
set_option maxHeartbeats 4000000 in
theorem rtwo_18z (x : Int) (w : World) : Calls Try.prog 19 #[.int .i64 18, .int .i64 x, .int .i64 0] w fun e w' => e = .returned (.tuple #[.int .i64 0, .int .i64 13]) ∧ Below w.heap.size w w' := by
  go_enter Try.func19, Try.ntmps19
  go_wp2
  go_ret2
  exact ⟨rfl, Below.refl _ _⟩
set_option maxHeartbeats 4000000 in
theorem rtwo_19z (x : Int) (w : World) : Calls Try.prog 19 #[.int .i64 19, .int .i64 x, .int .i64 0] w fun e w' => e = .returned (.tuple #[.int .i64 0, .int .i64 13]) ∧ Below w.heap.size w w' := by
  go_enter Try.func19, Try.ntmps19
  go_wp2
  go_ret2
  exact ⟨rfl, Below.refl _ _⟩
set_option maxHeartbeats 4000000 in
theorem rtwo_b1 (p x y : Int) (w : World) (h : arE p = 0) (k : arV p = 1) : Calls Try.prog 19 #[.int .i64 p, .int .i64 x, .int .i64 y] w fun e w' => e = .returned (.tuple #[.int .i64 0, .int .i64 2]) ∧ Below w.heap.size w w' := by
  have HA : Hid (∀ W, Calls Try.prog 12 #[.int .i64 p] W fun e w' => e = .returned (.tuple #[.int .i64 1, .int .i64 0]) ∧ W = w') := fun W => by have := rarity_any p W; rwa [h, k] at this
  clear h k
  go_enter Try.func19, Try.ntmps19
  go_wp2_with (first | (go_at_call 12; refine (HA.out _).mono ?_; rintro e wa ⟨rfl, rfl⟩))
  all_goals (go_ret2; exact ⟨rfl, Below.refl _ _⟩)
set_option maxHeartbeats 4000000 in
theorem rtwo_b0 (p x y : Int) (w : World) (h : arE p = 2) (k : arV p = 0) : Calls Try.prog 19 #[.int .i64 p, .int .i64 x, .int .i64 y] w fun e w' => e = .returned (.tuple #[.int .i64 0, .int .i64 2]) ∧ Below w.heap.size w w' := by
  have HA : Hid (∀ W, Calls Try.prog 12 #[.int .i64 p] W fun e w' => e = .returned (.tuple #[.int .i64 0, .int .i64 2]) ∧ W = w') := fun W => by have := rarity_any p W; rwa [h, k] at this
  clear h k
  go_enter Try.func19, Try.ntmps19
  go_wp2_with (first | (go_at_call 12; refine (HA.out _).mono ?_; rintro e wa ⟨rfl, rfl⟩))
  all_goals (go_ret2; exact ⟨rfl, Below.refl _ _⟩)
theorem rtwo_any (p x y : Int) (w : World) (x0 : -9223372036854775808 ≤ x) (x1 : x ≤ 9223372036854775807) (y0 : -9223372036854775808 ≤ y) (y1 : y ≤ 9223372036854775807) :
    Calls Try.prog 19 #[.int .i64 p, .int .i64 x, .int .i64 y] w fun e w' => e = .returned (.tuple #[.int .i64 (twoV p x y).1, .int .i64 (twoV p x y).2]) ∧ Below w.heap.size w w' := by
  rcases ar_cases p with ⟨h, h1, h2⟩ | ⟨h, h1, h2⟩ | ⟨h, h1, h2⟩
  · rw [show twoV p x y = (0, 2) by unfold twoV; repeat rw [if_neg (by omega)]]
    exact rtwo_b1 p x y w h2 h1
  · clear h1 h2
    rcases (show p = 15 ∨ p = 16 ∨ p = 17 ∨ p = 18 ∨ p = 19 ∨ p = 20 ∨ p = 21 ∨ p = 22 ∨ p = 23 ∨ p = 24 ∨ p = 25 ∨ p = 26 ∨ p = 27 ∨ p = 28 ∨ p = 29 ∨ p = 30 ∨ p = 31 ∨ p = 32 by omega) with rfl | rfl | rfl | rfl | rfl | rfl | rfl | rfl | rfl | rfl | rfl | rfl | rfl | rfl | rfl | rfl | rfl | rfl
    · exact rtwo_15 x y w x0 x1 y0 y1
    · exact rtwo_16 x y w x0 x1 y0 y1
    · exact rtwo_17 x y w x0 x1 y0 y1
    · by_cases hy : y = 0
      · subst hy
        exact rtwo_18z x w
      · rw [show twoV 18 x y = (fit (x.fdiv y), fitE (x.fdiv y)) by simp [twoV, hy]]
        exact rtwo_18 x y w x0 x1 hy
    · by_cases hy : y = 0
      · subst hy
        exact rtwo_19z x w
      · rw [show twoV 19 x y = (x.fmod y, 0) by simp [twoV, hy]]
        exact rtwo_19 x y w x0 x1 y0 y1 hy
    · exact rtwo_20 x y w x0 x1 y0 y1
    · exact rtwo_21 x y w x0 x1 y0 y1
    · exact rtwo_22 x y w x0 x1 y0 y1
    · exact rtwo_23 x y w 
    · exact rtwo_24 x y w 
    · exact rtwo_25 x y w 
    · exact rtwo_26 x y w 
    · exact rtwo_27 x y w 
    · exact rtwo_28 x y w 
    · exact rtwo_29 x y w 
    · exact rtwo_30 x y w 
    · exact rtwo_31 x y w 
    · exact rtwo_32 x y w 
  · rw [show twoV p x y = (0, 2) by unfold twoV; repeat rw [if_neg (by omega)]]
    exact rtwo_b0 p x y w h2 h1
end Go.Proofs.Ytbjongajpppfjaa
