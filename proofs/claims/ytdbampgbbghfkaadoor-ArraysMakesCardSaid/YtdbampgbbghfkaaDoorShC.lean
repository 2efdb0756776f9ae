/- Check of shapes. -/
import Derived.Test.YtdbampgbbghfkaaDoorShB
namespace Go.Proofs.YtdbampgbbghfkaaDoor
open Go.RowKit

theorem prt0 (a b : Int) (w : World) : (part 3 #[.int .i64 a, .int .i64 b] 0).run Tryd.prog w = .ok (.int .i64 a) w := by kernel_rfl
theorem prt1 (a b : Int) (w : World) : (part 3 #[.int .i64 a, .int .i64 b] 1).run Tryd.prog w = .ok (.int .i64 b) w := by kernel_rfl
theorem c3 : Tryd.prog.cellsOf 3 = 1 := by kernel_rfl
theorem eq2 (a b c d : Int) (w : World) : (Op.equalIn 10000 25 (P2 a b) (P2 c d)).run Tryd.prog w = .ok (decide (a = c ∧ b = d)) w := by
  obtain ⟨i0, hi⟩ : ∃ i, Tryd.prog.info? 3 = some i := by
    cases h : Tryd.prog.info? 3 with
    | none => exact absurd h (by decide +kernel)
    | some i => exact ⟨i, rfl⟩
  have h2 := run_equalIn_array (P := Tryd.prog) (w := w) 9999 (#[.int .i64 a, .int .i64 b]) (#[.int .i64 c, .int .i64 d]) Tryd.underlying25 hi
  refine h2.trans ?_
  have e1 := fun x y => run_equalIn_int (P := Tryd.prog) w 9998 3 .i64 .i64 x y Tryd.underlying3
  by_cases hac : a = c
  · subst hac
    simp [List.range, List.range.loop, Op.eqItems, Sem.run_bind, c3, prt0, prt1, e1, Result.andThen_ok]
    by_cases hbd : b = d <;> simp [hbd]
  · simp [List.range, List.range.loop, Op.eqItems, Sem.run_bind, c3, prt0, prt1, e1, Result.andThen_ok, hac]
/-- What a walk keeps: below w's size all is as it was, and two cells lie in the block behind it. -/
structure Kp (w : World) (x y : Value) (w' : World) : Prop where
  bel : Below w.heap.size w w'
  lt : w.heap.size < w'.heap.size
  x0 : w'.cell? ⟨w.heap.size, 0, none⟩ = some x
  x1 : w'.cell? ⟨w.heap.size, 1, none⟩ = some y
theorem Kp.new (w : World) (x y : Value) (t : TypeId) : Kp w x y (w.alloc (.cells #[x, y] t)) :=
  ⟨(Below.refl _ _).alloc (Nat.le_refl _) _, by simp, by simp [World.cell?_alloc_new], by simp [World.cell?_alloc_new]⟩
theorem Kp.next {w w' w'' : World} {x y : Value} (h : Kp w x y w') (hb : Below w'.heap.size w' w'') : Kp w x y w'' :=
  ⟨h.bel.trans (hb.mono (Nat.le_of_lt h.lt)), Nat.lt_of_lt_of_le h.lt hb.size, (hb.cell (p := ⟨w.heap.size, 0, none⟩) h.lt).trans h.x0, (hb.cell (p := ⟨w.heap.size, 1, none⟩) h.lt).trans h.x1⟩
theorem Kp.alloc {w w' : World} {x y : Value} (h : Kp w x y w') (o : Obj) : Kp w x y (w'.alloc o) := h.next ((Below.refl _ _).alloc (Nat.le_refl _) _)
theorem isNeg0 (bk : Nat) (w : World) : Calls Tryd.prog 61 #[.slice (some ⟨bk, 0, none⟩) 0 2] w fun e w' => e = .returned (.bool false) ∧ w = w' :=
  isNegative_any bk 2 [] w (by simp) (fun j h => absurd h (by simp))
theorem isNeg1 (bk : Nat) (a : Int) (w : World) (h : w.cell? ⟨bk, 0, none⟩ = some (.int .i64 a)) : Calls Tryd.prog 61 #[.slice (some ⟨bk, 0, none⟩) 1 2] w fun e w' => e = .returned (.bool (decide (a < 0))) ∧ w = w' :=
  (isNegative_any bk 2 [a] w (by simp) (fun j hj => by (obtain rfl : j = 0 := by simpa using hj); exact h)).mono fun e w' ⟨he, hw⟩ => ⟨he.trans (ret_bool (by simp)), hw⟩
theorem isNeg2 (bk : Nat) (a b : Int) (w : World) (h : w.cell? ⟨bk, 0, none⟩ = some (.int .i64 a)) (h1 : w.cell? ⟨bk, 1, none⟩ = some (.int .i64 b)) : Calls Tryd.prog 61 #[.slice (some ⟨bk, 0, none⟩) 2 2] w fun e w' => e = .returned (.bool (decide (a < 0) || decide (b < 0))) ∧ w = w' :=
  (isNegative_any bk 2 [a, b] w (by simp) (fun j hj => by
    match j, hj with
    | 0, _ => exact h
    | 1, _ => exact h1)).mono fun e w' ⟨he, hw⟩ => ⟨he.trans (ret_bool (by simp)), hw⟩

theorem mul_bd (a b : Int) (h0 : 0 ≤ a) (h1 : a ≤ 400) (h2 : 0 ≤ b) (h3 : b ≤ 400) : 0 ≤ a * b ∧ a * b ≤ 160000 :=
  ⟨Int.mul_nonneg h0 h2, Int.le_trans (Int.mul_le_mul h1 h3 h2 (by decide)) (by decide)⟩
theorem ret_i {a b : Int} (h : a = b) : Ending.returned (.int .i64 a) = .returned (.int .i64 b) := by rw [h]
set_option maxHeartbeats 1000000 in
theorem check_r (r a b : Int) (w : World) (h : r < 0 ∨ 2 < r) : Calls Tryd.prog 49 #[.int .i64 r, P2 a b] w fun e w' => e = .returned (.int .i64 (ckS r a b)) ∧ Below w.heap.size w w' := by
  have HE : Hid (ckS r a b = 7) := by unfold ckS; exact if_pos (by omega)
  rw [HE.out]
  have hd : decide (0 ≤ r ∧ r ≤ 2) = false := by simp; omega
  clear h
  go_enter Tryd.func49, Tryd.ntmps49
  go_wp2_with (go_at_call 48; refine (isRank_any r _).mono ?_; rintro e w' ⟨rfl, rfl⟩)
  go_ret
  exact ⟨rfl, (Below.refl _ _).alloc (Nat.le_refl _) _⟩
set_option maxHeartbeats 2000000 in
theorem check_0 (a b : Int) (w : World) : Calls Tryd.prog 49 #[.int .i64 0, P2 a b] w fun e w' => e = .returned (.int .i64 (ckS 0 a b)) ∧ Below w.heap.size w w' := by
  have HQ := fun x y W => eq2 x y 0 0 W
  have HK := Lib.hid (Kp.new w (.int .i64 a) (.int .i64 b) 25)
  have x0 := HK.out.x0
  have x1 := HK.out.x1
  by_cases h : a = 0 ∧ b = 0
  · obtain ⟨rfl, rfl⟩ := h
    have HE : Hid (ckS 0 0 0 = 0) := by unfold Hid; decide
    have HC : Hid (∀ W, Calls Tryd.prog 55 #[.int .i64 0, P2 0 0] W fun e w' => e = .returned (.int .i64 (cn 0 0 0)) ∧ Below W.heap.size W w') := fun W => count_any 0 0 0 W (by decide) (by decide) (by unfold cn; simp; try omega) (by unfold cn; simp; try omega)
    have hcn : cn 0 0 0 = 1 := by decide
    go_enter Tryd.func49, Tryd.ntmps49
    go_wp2_with (first
      | (go_at_call 48; refine (isRank_any _ _).mono ?_; rintro e w' ⟨rfl, rfl⟩)
      | (go_at_call 61; refine (isNeg0 _ _).mono ?_; rintro e w' ⟨rfl, rfl⟩)
      | (go_at_call 62; refine (beyond_any _ _ _ _ (by decide) (by decide)).mono ?_; rintro e w' ⟨rfl, hb⟩; have HK2 := Lib.hid (HK.out.next hb); clear HK hb x0 x1; have HK := HK2; clear HK2; have x0 := HK.out.x0; have x1 := HK.out.x1)
      | (go_at_call 55; refine (HC.out _).mono ?_; rintro e w' ⟨rfl, hb⟩; have HK2 := Lib.hid (HK.out.next hb); clear HK hb x0 x1; have HK := HK2; clear HK2; have x0 := HK.out.x0; have x1 := HK.out.x1))
    go_ret
    exact ⟨ret_i HE.out.symm, HK.out.bel⟩
  · have HE : Hid (ckS 0 a b = 6) := by unfold Hid ckS; rw [if_neg (by omega), if_pos (by omega)]
    have hd : decide (a = 0 ∧ b = 0) = false := by simpa using h
    have HC : Hid True := trivial
    clear h
    go_enter Tryd.func49, Tryd.ntmps49
    go_wp2_with (first
      | (go_at_call 48; refine (isRank_any _ _).mono ?_; rintro e w' ⟨rfl, rfl⟩)
      | (go_at_call 61; refine (isNeg0 _ _).mono ?_; rintro e w' ⟨rfl, rfl⟩)
      | (go_at_call 62; refine (beyond_any _ _ _ _ (by decide) (by decide)).mono ?_; rintro e w' ⟨rfl, hb⟩; have HK2 := Lib.hid (HK.out.next hb); clear HK hb x0 x1; have HK := HK2; clear HK2; have x0 := HK.out.x0; have x1 := HK.out.x1)
      | (go_at_call 55; refine (HC.out _).mono ?_; rintro e w' ⟨rfl, hb⟩; have HK2 := Lib.hid (HK.out.next hb); clear HK hb x0 x1; have HK := HK2; clear HK2; have x0 := HK.out.x0; have x1 := HK.out.x1))
    go_ret
    exact ⟨ret_i HE.out.symm, HK.out.bel⟩
set_option maxHeartbeats 2000000 in
theorem check_1 (a b : Int) (w : World) : Calls Tryd.prog 49 #[.int .i64 1, P2 a b] w fun e w' => e = .returned (.int .i64 (ckS 1 a b)) ∧ Below w.heap.size w w' := by
  have HQ := fun x y W => eq2 x y 0 0 W
  have HK := Lib.hid (Kp.new w (.int .i64 a) (.int .i64 b) 25)
  have x0 := HK.out.x0
  have x1 := HK.out.x1
  by_cases ha : a < 0
  · have HE : Hid (ckS 1 a b = 7) := by unfold Hid ckS; rw [if_pos (by omega)]
    have hd : decide (a < 0) = true := by simpa using ha
    have HC : Hid True := trivial
    go_enter Tryd.func49, Tryd.ntmps49
    go_wp2_with (first
      | (go_at_call 48; refine (isRank_any _ _).mono ?_; rintro e w' ⟨rfl, rfl⟩)
      | (go_at_call 61; refine (isNeg1 _ _ _ x0).mono ?_; rintro e w' ⟨rfl, rfl⟩)
      | (go_at_call 62; refine (beyond_any _ _ _ _ (by decide) (by decide)).mono ?_; rintro e w' ⟨rfl, hb⟩; have HK2 := Lib.hid (HK.out.next hb); clear HK hb x0 x1; have HK := HK2; clear HK2; have x0 := HK.out.x0; have x1 := HK.out.x1)
      | (go_at_call 55; refine (HC.out _).mono ?_; rintro e w' ⟨rfl, hb⟩; have HK2 := Lib.hid (HK.out.next hb); clear HK hb x0 x1; have HK := HK2; clear HK2; have x0 := HK.out.x0; have x1 := HK.out.x1))
    go_ret
    exact ⟨ret_i HE.out.symm, HK.out.bel⟩
  · have hd : decide (a < 0) = false := by simpa using ha
    by_cases hb0 : b = 0
    · subst hb0
      by_cases hl : 400 < a
      · have HE : Hid (ckS 1 a 0 = 15) := by unfold Hid ckS; rw [if_neg (by omega), if_neg (by omega), if_pos (by omega)]
        have HC : Hid True := trivial
        go_enter Tryd.func49, Tryd.ntmps49
        go_wp2_with (first
          | (go_at_call 48; refine (isRank_any _ _).mono ?_; rintro e w' ⟨rfl, rfl⟩)
          | (go_at_call 61; refine (isNeg1 _ _ _ x0).mono ?_; rintro e w' ⟨rfl, rfl⟩)
          | (go_at_call 62; refine (beyond_any _ _ _ _ (by decide) (by decide)).mono ?_; rintro e w' ⟨rfl, hb⟩; have HK2 := Lib.hid (HK.out.next hb); clear HK hb x0 x1; have HK := HK2; clear HK2; have x0 := HK.out.x0; have x1 := HK.out.x1)
          | (go_at_call 55; refine (HC.out _).mono ?_; rintro e w' ⟨rfl, hb⟩; have HK2 := Lib.hid (HK.out.next hb); clear HK hb x0 x1; have HK := HK2; clear HK2; have x0 := HK.out.x0; have x1 := HK.out.x1))
        go_ret
        exact ⟨ret_i HE.out.symm, HK.out.bel⟩
      · have HE : Hid (ckS 1 a 0 = 0) := by unfold Hid; exact sh_ok (.s1 a (by omega) (by omega))
        have HC : Hid (∀ W, Calls Tryd.prog 55 #[.int .i64 1, P2 a 0] W fun e w' => e = .returned (.int .i64 (cn 1 a 0)) ∧ Below W.heap.size W w') := fun W => count_any 1 a 0 W (by decide) (by decide) (by unfold cn; simp; try omega) (by unfold cn; simp; try omega)
        have hcn : cn 1 a 0 = a := by unfold cn; simp
        go_enter Tryd.func49, Tryd.ntmps49
        go_wp2_with (first
          | (go_at_call 48; refine (isRank_any _ _).mono ?_; rintro e w' ⟨rfl, rfl⟩)
          | (go_at_call 61; refine (isNeg1 _ _ _ x0).mono ?_; rintro e w' ⟨rfl, rfl⟩)
          | (go_at_call 62; refine (beyond_any _ _ _ _ (by decide) (by decide)).mono ?_; rintro e w' ⟨rfl, hb⟩; have HK2 := Lib.hid (HK.out.next hb); clear HK hb x0 x1; have HK := HK2; clear HK2; have x0 := HK.out.x0; have x1 := HK.out.x1)
          | (go_at_call 55; refine (HC.out _).mono ?_; rintro e w' ⟨rfl, hb⟩; have HK2 := Lib.hid (HK.out.next hb); clear HK hb x0 x1; have HK := HK2; clear HK2; have x0 := HK.out.x0; have x1 := HK.out.x1))
        go_ret
        exact ⟨ret_i HE.out.symm, HK.out.bel⟩
    · have HE : Hid (ckS 1 a b = 6) := by unfold Hid ckS; rw [if_neg (by omega), if_pos (by omega)]
      have hd2 : decide (b = 0) = false := by simpa using hb0
      have HC : Hid True := trivial
      clear hb0
      go_enter Tryd.func49, Tryd.ntmps49
      go_wp2_with (first
        | (go_at_call 48; refine (isRank_any _ _).mono ?_; rintro e w' ⟨rfl, rfl⟩)
        | (go_at_call 61; refine (isNeg1 _ _ _ x0).mono ?_; rintro e w' ⟨rfl, rfl⟩)
        | (go_at_call 62; refine (beyond_any _ _ _ _ (by decide) (by decide)).mono ?_; rintro e w' ⟨rfl, hb⟩; have HK2 := Lib.hid (HK.out.next hb); clear HK hb x0 x1; have HK := HK2; clear HK2; have x0 := HK.out.x0; have x1 := HK.out.x1)
        | (go_at_call 55; refine (HC.out _).mono ?_; rintro e w' ⟨rfl, hb⟩; have HK2 := Lib.hid (HK.out.next hb); clear HK hb x0 x1; have HK := HK2; clear HK2; have x0 := HK.out.x0; have x1 := HK.out.x1))
      go_ret
      exact ⟨ret_i HE.out.symm, HK.out.bel⟩
set_option maxHeartbeats 2000000 in
theorem check_2 (a b : Int) (w : World) : Calls Tryd.prog 49 #[.int .i64 2, P2 a b] w fun e w' => e = .returned (.int .i64 (ckS 2 a b)) ∧ Below w.heap.size w w' := by
  have HQ := fun x y W => eq2 x y 0 0 W
  have HK := Lib.hid (Kp.new w (.int .i64 a) (.int .i64 b) 25)
  have x0 := HK.out.x0
  have x1 := HK.out.x1
  by_cases ha : a < 0
  · have HE : Hid (ckS 2 a b = 7) := by unfold Hid ckS; rw [if_pos (by omega)]
    have hd : decide (a < 0) = true := by simpa using ha
    have HC : Hid True := trivial
    go_enter Tryd.func49, Tryd.ntmps49
    go_wp2_with (first
      | (go_at_call 48; refine (isRank_any _ _).mono ?_; rintro e w' ⟨rfl, rfl⟩)
      | (go_at_call 61; refine (isNeg2 _ _ _ _ x0 x1).mono ?_; rintro e w' ⟨rfl, rfl⟩)
      | (go_at_call 62; refine (beyond_any _ _ _ _ (by decide) (by decide)).mono ?_; rintro e w' ⟨rfl, hb⟩; have HK2 := Lib.hid (HK.out.next hb); clear HK hb x0 x1; have HK := HK2; clear HK2; have x0 := HK.out.x0; have x1 := HK.out.x1)
      | (go_at_call 55; refine (HC.out _).mono ?_; rintro e w' ⟨rfl, hb⟩; have HK2 := Lib.hid (HK.out.next hb); clear HK hb x0 x1; have HK := HK2; clear HK2; have x0 := HK.out.x0; have x1 := HK.out.x1))
    go_ret
    exact ⟨ret_i HE.out.symm, HK.out.bel⟩
  · have hd : decide (a < 0) = false := by simpa using ha
    by_cases hb1 : b < 0
    · have HE : Hid (ckS 2 a b = 7) := by unfold Hid ckS; rw [if_pos (by omega)]
      have hd2 : decide (b < 0) = true := by simpa using hb1
      have HC : Hid True := trivial
      go_enter Tryd.func49, Tryd.ntmps49
      go_wp2_with (first
        | (go_at_call 48; refine (isRank_any _ _).mono ?_; rintro e w' ⟨rfl, rfl⟩)
        | (go_at_call 61; refine (isNeg2 _ _ _ _ x0 x1).mono ?_; rintro e w' ⟨rfl, rfl⟩)
        | (go_at_call 62; refine (beyond_any _ _ _ _ (by decide) (by decide)).mono ?_; rintro e w' ⟨rfl, hb⟩; have HK2 := Lib.hid (HK.out.next hb); clear HK hb x0 x1; have HK := HK2; clear HK2; have x0 := HK.out.x0; have x1 := HK.out.x1)
        | (go_at_call 55; refine (HC.out _).mono ?_; rintro e w' ⟨rfl, hb⟩; have HK2 := Lib.hid (HK.out.next hb); clear HK hb x0 x1; have HK := HK2; clear HK2; have x0 := HK.out.x0; have x1 := HK.out.x1))
      go_ret
      exact ⟨ret_i HE.out.symm, HK.out.bel⟩
    · have hd2 : decide (b < 0) = false := by simpa using hb1
      by_cases hl : 400 < a
      · have HE : Hid (ckS 2 a b = 15) := by unfold Hid ckS; rw [if_neg (by omega), if_neg (by omega), if_pos (by omega)]
        have HC : Hid True := trivial
        go_enter Tryd.func49, Tryd.ntmps49
        go_wp2_with (first
          | (go_at_call 48; refine (isRank_any _ _).mono ?_; rintro e w' ⟨rfl, rfl⟩)
          | (go_at_call 61; refine (isNeg2 _ _ _ _ x0 x1).mono ?_; rintro e w' ⟨rfl, rfl⟩)
          | (go_at_call 62; refine (beyond_any _ _ _ _ (by decide) (by decide)).mono ?_; rintro e w' ⟨rfl, hb⟩; have HK2 := Lib.hid (HK.out.next hb); clear HK hb x0 x1; have HK := HK2; clear HK2; have x0 := HK.out.x0; have x1 := HK.out.x1)
          | (go_at_call 55; refine (HC.out _).mono ?_; rintro e w' ⟨rfl, hb⟩; have HK2 := Lib.hid (HK.out.next hb); clear HK hb x0 x1; have HK := HK2; clear HK2; have x0 := HK.out.x0; have x1 := HK.out.x1))
        go_ret
        exact ⟨ret_i HE.out.symm, HK.out.bel⟩
      · by_cases hl2 : 400 < b
        · have HE : Hid (ckS 2 a b = 15) := by unfold Hid ckS; rw [if_neg (by omega), if_neg (by omega), if_pos (by omega)]
          have HC : Hid True := trivial
          go_enter Tryd.func49, Tryd.ntmps49
          go_wp2_with (first
            | (go_at_call 48; refine (isRank_any _ _).mono ?_; rintro e w' ⟨rfl, rfl⟩)
            | (go_at_call 61; refine (isNeg2 _ _ _ _ x0 x1).mono ?_; rintro e w' ⟨rfl, rfl⟩)
            | (go_at_call 62; refine (beyond_any _ _ _ _ (by decide) (by decide)).mono ?_; rintro e w' ⟨rfl, hb⟩; have HK2 := Lib.hid (HK.out.next hb); clear HK hb x0 x1; have HK := HK2; clear HK2; have x0 := HK.out.x0; have x1 := HK.out.x1)
            | (go_at_call 55; refine (HC.out _).mono ?_; rintro e w' ⟨rfl, hb⟩; have HK2 := Lib.hid (HK.out.next hb); clear HK hb x0 x1; have HK := HK2; clear HK2; have x0 := HK.out.x0; have x1 := HK.out.x1))
          go_ret
          exact ⟨ret_i HE.out.symm, HK.out.bel⟩
        · obtain ⟨m0, m1⟩ := mul_bd a b (by omega) (by omega) (by omega) (by omega)
          have hcn : cn 2 a b = a * b := by unfold cn; simp
          have HC : Hid (∀ W, Calls Tryd.prog 55 #[.int .i64 2, P2 a b] W fun e w' => e = .returned (.int .i64 (a * b)) ∧ Below W.heap.size W w') := fun W => by rw [← hcn]; exact count_any 2 a b W (by decide) (by decide) (by rw [hcn]; exact m0) (by rw [hcn]; exact m1)
          by_cases hp : 400 < a * b
          · have HE : Hid (ckS 2 a b = 15) := by unfold Hid ckS; rw [if_neg (by omega), if_neg (by omega), if_pos (.inr (.inr (by rw [hcn]; exact hp)))]
            clear hcn
            go_enter Tryd.func49, Tryd.ntmps49
            go_wp2_with (first
              | (go_at_call 48; refine (isRank_any _ _).mono ?_; rintro e w' ⟨rfl, rfl⟩)
              | (go_at_call 61; refine (isNeg2 _ _ _ _ x0 x1).mono ?_; rintro e w' ⟨rfl, rfl⟩)
              | (go_at_call 62; refine (beyond_any _ _ _ _ (by decide) (by decide)).mono ?_; rintro e w' ⟨rfl, hb⟩; have HK2 := Lib.hid (HK.out.next hb); clear HK hb x0 x1; have HK := HK2; clear HK2; have x0 := HK.out.x0; have x1 := HK.out.x1)
              | (go_at_call 55; refine (HC.out _).mono ?_; rintro e w' ⟨rfl, hb⟩; have HK2 := Lib.hid (HK.out.next hb); clear HK hb x0 x1; have HK := HK2; clear HK2; have x0 := HK.out.x0; have x1 := HK.out.x1))
            go_ret
            exact ⟨ret_i HE.out.symm, HK.out.bel⟩
          · have HE : Hid (ckS 2 a b = 0) := by unfold Hid; exact sh_ok (.s2 a b (by omega) (by omega) (by omega) (by omega) (by omega))
            clear hcn
            go_enter Tryd.func49, Tryd.ntmps49
            go_wp2_with (first
              | (go_at_call 48; refine (isRank_any _ _).mono ?_; rintro e w' ⟨rfl, rfl⟩)
              | (go_at_call 61; refine (isNeg2 _ _ _ _ x0 x1).mono ?_; rintro e w' ⟨rfl, rfl⟩)
              | (go_at_call 62; refine (beyond_any _ _ _ _ (by decide) (by decide)).mono ?_; rintro e w' ⟨rfl, hb⟩; have HK2 := Lib.hid (HK.out.next hb); clear HK hb x0 x1; have HK := HK2; clear HK2; have x0 := HK.out.x0; have x1 := HK.out.x1)
              | (go_at_call 55; refine (HC.out _).mono ?_; rintro e w' ⟨rfl, hb⟩; have HK2 := Lib.hid (HK.out.next hb); clear HK hb x0 x1; have HK := HK2; clear HK2; have x0 := HK.out.x0; have x1 := HK.out.x1))
            go_ret
            exact ⟨ret_i HE.out.symm, HK.out.bel⟩

theorem check_any (r a b : Int) (w : World) : Calls Tryd.prog 49 #[.int .i64 r, P2 a b] w fun e w' => e = .returned (.int .i64 (ckS r a b)) ∧ Below w.heap.size w w' := by
  by_cases h : r < 0 ∨ 2 < r
  · exact check_r r a b w h
  · have hr : r = 0 ∨ r = 1 ∨ r = 2 := by omega
    rcases hr with rfl | rfl | rfl
    · exact check_0 a b w
    · exact check_1 a b w
    · exact check_2 a b w
end Go.Proofs.YtdbampgbbghfkaaDoor
