/- The reference's Many and Check of shapes. -/
import Derived.Test.YtdbampgbbghfkaaDoorShC
import Derived.LoopN
namespace Go.Proofs.YtdbampgbbghfkaaDoor
open Go.RowKit

set_option maxHeartbeats 1000000 in
theorem many_0 (a b : Int) (w : World) : Calls Tryd.prog 57 #[.int .i64 0, P2 a b] w fun e w' => e = .returned (.int .i64 (cn 0 a b)) ∧ Below w.heap.size w w' := by
  have HE : Hid (cn 0 a b = 1) := by unfold Hid cn; simp
  rw [HE.out]
  have HK := Lib.hid (Kp.new w (.int .i64 a) (.int .i64 b) 25)
  have x0 := HK.out.x0
  have x1 := HK.out.x1
  go_enter Tryd.func57, Tryd.ntmps57
  go_wp2
  refine wp_loop_rounds 4 ?_
  rw [rounds_succ]
  go_wp2
  go_ret
  exact ⟨ret_i (by omega), HK.out.bel⟩
set_option maxHeartbeats 1000000 in
theorem many_1 (a b : Int) (w : World) (h0 : 0 ≤ a) (h1 : a ≤ 400) : Calls Tryd.prog 57 #[.int .i64 1, P2 a b] w fun e w' => e = .returned (.int .i64 (cn 1 a b)) ∧ Below w.heap.size w w' := by
  have HE : Hid (cn 1 a b = a) := by unfold Hid cn; simp
  rw [HE.out]
  have HK := Lib.hid (Kp.new w (.int .i64 a) (.int .i64 b) 25)
  have x0 := HK.out.x0
  have x1 := HK.out.x1
  go_enter Tryd.func57, Tryd.ntmps57
  go_wp2
  refine wp_loop_rounds 4 ?_
  rw [rounds_succ]
  go_wp2
  rw [rounds_succ]
  go_wp2
  go_ret
  exact ⟨ret_i (by omega), HK.out.bel⟩
set_option maxHeartbeats 1000000 in
theorem many_2 (a b : Int) (w : World) (h0 : 0 ≤ a) (h1 : a ≤ 400) (m0 : 0 ≤ a * b) (m1 : a * b ≤ 160000) : Calls Tryd.prog 57 #[.int .i64 2, P2 a b] w fun e w' => e = .returned (.int .i64 (cn 2 a b)) ∧ Below w.heap.size w w' := by
  have HE : Hid (cn 2 a b = a * b) := by unfold Hid cn; simp
  rw [HE.out]
  have HK := Lib.hid (Kp.new w (.int .i64 a) (.int .i64 b) 25)
  have x0 := HK.out.x0
  have x1 := HK.out.x1
  go_enter Tryd.func57, Tryd.ntmps57
  go_wp2
  refine wp_loop_rounds 4 ?_
  rw [rounds_succ]
  go_wp2
  rw [rounds_succ]
  go_wp2
  rw [rounds_succ]
  go_wp2
  go_ret
  exact ⟨ret_i (by omega), HK.out.bel⟩
set_option maxHeartbeats 1000000 in
theorem rcheck_r (r a b : Int) (w : World) (h : r < 0 ∨ 2 < r) : Calls Tryd.prog 56 #[.int .i64 r, P2 a b] w fun e w' => e = .returned (.int .i64 (ckS r a b)) ∧ Below w.heap.size w w' := by
  have HE : Hid (ckS r a b = 7) := by unfold ckS; exact if_pos (by omega)
  rw [HE.out]
  rcases h with h | h
  all_goals
    go_enter Tryd.func56, Tryd.ntmps56
    go_wp2
    go_ret
    exact ⟨rfl, (Below.refl _ _).alloc (Nat.le_refl _) _⟩
set_option maxHeartbeats 2000000 in
theorem rcheck_0 (a b : Int) (w : World) : Calls Tryd.prog 56 #[.int .i64 0, P2 a b] w fun e w' => e = .returned (.int .i64 (ckS 0 a b)) ∧ Below w.heap.size w w' := by
  have HK := Lib.hid (Kp.new w (.int .i64 a) (.int .i64 b) 25)
  have x0 := HK.out.x0
  have x1 := HK.out.x1
  by_cases ha : a = 0
  · subst ha
    by_cases hb0 : b = 0
    · subst hb0
      have HE : Hid (ckS 0 0 0 = 0) := by unfold Hid; decide
      have hcn : cn 0 0 0 = 1 := by decide
      have HC : Hid (∀ W, Calls Tryd.prog 57 #[.int .i64 0, P2 0 0] W fun e w' => e = .returned (.int .i64 (cn 0 0 0)) ∧ Below W.heap.size W w') := fun W => many_0 0 0 W
      go_enter Tryd.func56, Tryd.ntmps56
      go_wp2
      refine wp_loop_rounds 4 ?_
      rw [rounds_succ]
      go_wp2
      refine wp_loop_rounds 4 ?_
      rw [rounds_succ]
      go_wp2
      rw [rounds_succ]
      go_wp2
      rw [rounds_succ]
      go_wp2_with (go_at_call 57; refine (HC.out _).mono ?_; rintro e w' ⟨rfl, hb⟩; have HK2 := Lib.hid (HK.out.next hb); clear HK hb x0 x1; have HK := HK2; clear HK2; have x0 := HK.out.x0; have x1 := HK.out.x1)
      go_ret
      exact ⟨ret_i HE.out.symm, HK.out.bel⟩
    · have HE : Hid (ckS 0 0 b = 6) := by unfold Hid ckS; rw [if_neg (by omega), if_pos (by omega)]
      have HC : Hid True := trivial
      go_enter Tryd.func56, Tryd.ntmps56
      go_wp2
      refine wp_loop_rounds 4 ?_
      rw [rounds_succ]
      go_wp2
      refine wp_loop_rounds 4 ?_
      rw [rounds_succ]
      go_wp2
      rw [rounds_succ]
      go_wp2
      go_ret
      exact ⟨ret_i HE.out.symm, HK.out.bel⟩
  · have HE : Hid (ckS 0 a b = 6) := by unfold Hid ckS; rw [if_neg (by omega), if_pos (by omega)]
    go_enter Tryd.func56, Tryd.ntmps56
    go_wp2
    refine wp_loop_rounds 4 ?_
    rw [rounds_succ]
    go_wp2
    refine wp_loop_rounds 4 ?_
    rw [rounds_succ]
    go_wp2
    go_ret
    exact ⟨ret_i HE.out.symm, HK.out.bel⟩
set_option maxHeartbeats 2000000 in
theorem rcheck_1 (a b : Int) (w : World) : Calls Tryd.prog 56 #[.int .i64 1, P2 a b] w fun e w' => e = .returned (.int .i64 (ckS 1 a b)) ∧ Below w.heap.size w w' := by
  have HK := Lib.hid (Kp.new w (.int .i64 a) (.int .i64 b) 25)
  have x0 := HK.out.x0
  have x1 := HK.out.x1
  by_cases ha : a < 0
  · have HE : Hid (ckS 1 a b = 7) := by unfold Hid ckS; rw [if_pos (by omega)]
    go_enter Tryd.func56, Tryd.ntmps56
    go_wp2
    refine wp_loop_rounds 4 ?_
    rw [rounds_succ]
    go_wp2
    go_ret
    exact ⟨ret_i HE.out.symm, HK.out.bel⟩
  · by_cases hb0 : b = 0
    · subst hb0
      by_cases hl : 400 < a
      · have HE : Hid (ckS 1 a 0 = 15) := by unfold Hid ckS; rw [if_neg (by omega), if_neg (by omega), if_pos (by omega)]
        go_enter Tryd.func56, Tryd.ntmps56
        go_wp2
        refine wp_loop_rounds 4 ?_
        rw [rounds_succ]
        go_wp2
        rw [rounds_succ]
        go_wp2
        refine wp_loop_rounds 4 ?_
        rw [rounds_succ]
        go_wp2
        rw [rounds_succ]
        go_wp2
        go_ret
        exact ⟨ret_i HE.out.symm, HK.out.bel⟩
      · have HE : Hid (ckS 1 a 0 = 0) := by unfold Hid; exact sh_ok (.s1 a (by omega) (by omega))
        have hcn : cn 1 a 0 = a := by unfold cn; simp
        have HC : Hid (∀ W, Calls Tryd.prog 57 #[.int .i64 1, P2 a 0] W fun e w' => e = .returned (.int .i64 (cn 1 a 0)) ∧ Below W.heap.size W w') := fun W => many_1 a 0 W (by omega) (by omega)
        go_enter Tryd.func56, Tryd.ntmps56
        go_wp2
        refine wp_loop_rounds 4 ?_
        rw [rounds_succ]
        go_wp2
        rw [rounds_succ]
        go_wp2
        refine wp_loop_rounds 4 ?_
        rw [rounds_succ]
        go_wp2
        rw [rounds_succ]
        go_wp2_with (go_at_call 57; refine (HC.out _).mono ?_; rintro e w' ⟨rfl, hb⟩; have HK2 := Lib.hid (HK.out.next hb); clear HK hb x0 x1; have HK := HK2; clear HK2; have x0 := HK.out.x0; have x1 := HK.out.x1)
        go_ret
        exact ⟨ret_i HE.out.symm, HK.out.bel⟩
    · have HE : Hid (ckS 1 a b = 6) := by unfold Hid ckS; rw [if_neg (by omega), if_pos (by omega)]
      go_enter Tryd.func56, Tryd.ntmps56
      go_wp2
      refine wp_loop_rounds 4 ?_
      rw [rounds_succ]
      go_wp2
      rw [rounds_succ]
      go_wp2
      refine wp_loop_rounds 4 ?_
      rw [rounds_succ]
      go_wp2
      go_ret
      exact ⟨ret_i HE.out.symm, HK.out.bel⟩
set_option maxHeartbeats 2000000 in
theorem rcheck_2 (a b : Int) (w : World) : Calls Tryd.prog 56 #[.int .i64 2, P2 a b] w fun e w' => e = .returned (.int .i64 (ckS 2 a b)) ∧ Below w.heap.size w w' := by
  have HK := Lib.hid (Kp.new w (.int .i64 a) (.int .i64 b) 25)
  have x0 := HK.out.x0
  have x1 := HK.out.x1
  by_cases ha : a < 0
  · have HE : Hid (ckS 2 a b = 7) := by unfold Hid ckS; rw [if_pos (by omega)]
    go_enter Tryd.func56, Tryd.ntmps56
    go_wp2
    refine wp_loop_rounds 4 ?_
    rw [rounds_succ]
    go_wp2
    go_ret
    exact ⟨ret_i HE.out.symm, HK.out.bel⟩
  · by_cases hb1 : b < 0
    · have HE : Hid (ckS 2 a b = 7) := by unfold Hid ckS; rw [if_pos (by omega)]
      go_enter Tryd.func56, Tryd.ntmps56
      go_wp2
      refine wp_loop_rounds 4 ?_
      rw [rounds_succ]
      go_wp2
      rw [rounds_succ]
      go_wp2
      go_ret
      exact ⟨ret_i HE.out.symm, HK.out.bel⟩
    · by_cases hl : 400 < a
      · have HE : Hid (ckS 2 a b = 15) := by unfold Hid ckS; rw [if_neg (by omega), if_neg (by omega), if_pos (by omega)]
        go_enter Tryd.func56, Tryd.ntmps56
        go_wp2
        refine wp_loop_rounds 4 ?_
        rw [rounds_succ]
        go_wp2
        rw [rounds_succ]
        go_wp2
        rw [rounds_succ]
        go_wp2
        refine wp_loop_rounds 4 ?_
        rw [rounds_succ]
        go_wp2
        go_ret
        exact ⟨ret_i HE.out.symm, HK.out.bel⟩
      · by_cases hl2 : 400 < b
        · have HE : Hid (ckS 2 a b = 15) := by unfold Hid ckS; rw [if_neg (by omega), if_neg (by omega), if_pos (by omega)]
          go_enter Tryd.func56, Tryd.ntmps56
          go_wp2
          refine wp_loop_rounds 4 ?_
          rw [rounds_succ]
          go_wp2
          rw [rounds_succ]
          go_wp2
          rw [rounds_succ]
          go_wp2
          refine wp_loop_rounds 4 ?_
          rw [rounds_succ]
          go_wp2
          go_ret
          exact ⟨ret_i HE.out.symm, HK.out.bel⟩
        · obtain ⟨m0, m1⟩ := mul_bd a b (by omega) (by omega) (by omega) (by omega)
          have hcn : cn 2 a b = a * b := by unfold cn; simp
          have HC : Hid (∀ W, Calls Tryd.prog 57 #[.int .i64 2, P2 a b] W fun e w' => e = .returned (.int .i64 (a * b)) ∧ Below W.heap.size W w') := fun W => by rw [← hcn]; exact many_2 a b W (by omega) (by omega) m0 m1
          by_cases hp : 400 < a * b
          · have HE : Hid (ckS 2 a b = 15) := by unfold Hid ckS; rw [if_neg (by omega), if_neg (by omega), if_pos (.inr (.inr (by rw [hcn]; exact hp)))]
            clear hcn
            go_enter Tryd.func56, Tryd.ntmps56
            go_wp2
            refine wp_loop_rounds 4 ?_
            rw [rounds_succ]
            go_wp2
            rw [rounds_succ]
            go_wp2
            rw [rounds_succ]
            go_wp2
            refine wp_loop_rounds 4 ?_
            rw [rounds_succ]
            go_wp2_with (go_at_call 57; refine (HC.out _).mono ?_; rintro e w' ⟨rfl, hb⟩; have HK2 := Lib.hid (HK.out.next hb); clear HK hb x0 x1; have HK := HK2; clear HK2; have x0 := HK.out.x0; have x1 := HK.out.x1)
            go_ret
            exact ⟨ret_i HE.out.symm, HK.out.bel⟩
          · have HE : Hid (ckS 2 a b = 0) := by unfold Hid; exact sh_ok (.s2 a b (by omega) (by omega) (by omega) (by omega) (by omega))
            clear hcn
            go_enter Tryd.func56, Tryd.ntmps56
            go_wp2
            refine wp_loop_rounds 4 ?_
            rw [rounds_succ]
            go_wp2
            rw [rounds_succ]
            go_wp2
            rw [rounds_succ]
            go_wp2
            refine wp_loop_rounds 4 ?_
            rw [rounds_succ]
            go_wp2_with (go_at_call 57; refine (HC.out _).mono ?_; rintro e w' ⟨rfl, hb⟩; have HK2 := Lib.hid (HK.out.next hb); clear HK hb x0 x1; have HK := HK2; clear HK2; have x0 := HK.out.x0; have x1 := HK.out.x1)
            go_ret
            exact ⟨ret_i HE.out.symm, HK.out.bel⟩

theorem rcheck_any (r a b : Int) (w : World) : Calls Tryd.prog 56 #[.int .i64 r, P2 a b] w fun e w' => e = .returned (.int .i64 (ckS r a b)) ∧ Below w.heap.size w w' := by
  by_cases h : r < 0 ∨ 2 < r
  · exact rcheck_r r a b w h
  · have hr : r = 0 ∨ r = 1 ∨ r = 2 := by omega
    rcases hr with rfl | rfl | rfl
    · exact rcheck_0 a b w
    · exact rcheck_1 a b w
    · exact rcheck_2 a b w
end Go.Proofs.YtdbampgbbghfkaaDoor
