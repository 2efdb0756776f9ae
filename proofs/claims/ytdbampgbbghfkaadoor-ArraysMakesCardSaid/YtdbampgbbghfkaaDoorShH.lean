/- Rows and Index of shapes, of the code and of the reference. -/
import Derived.Test.YtdbampgbbghfkaaDoorShG
import Derived.IntWalk
namespace Go.Proofs.YtdbampgbbghfkaaDoor
open Go.RowKit

theorem below_drewN {B : Nat} {a w : World} (h : Below B a w) (n : Nat) : Below B a (w.drewN n) := ⟨h.os, h.tape, h.output, h.size, h.block⟩
theorem drewN_below (w : World) (n : Nat) : Below w.heap.size w (w.drewN n) := below_drewN (Below.refl _ _) n
theorem ret_three {a b c d e f : Value} (h : a = d) (k : b = e) (l : c = f) : Ending.returned (.tuple #[a, b, c]) = .returned (.tuple #[d, e, f]) := by rw [h, k, l]
set_option maxHeartbeats 2000000 in
theorem rows_any (r a b : Int) (w : World) : Calls Tryd.prog 35 #[.int .i64 r, P2 a b] w fun e w' => e = .returned (.tuple #[.int .i64 (rw0 r a b), .int .i64 (rw1 r a b), .int .i64 (ckS r a b)]) ∧ Below w.heap.size w w' := by
  have HK := Lib.hid (K1.new w a b)
  have x0 := HK.out.r0.c0; have x1 := HK.out.r0.c1
  rcases sh_dec r a b with ⟨hk, hs⟩ | ⟨hk, hs⟩
  · obtain ⟨h0, h1, h2, h3, h4, h5, h6, h7⟩ := hs.bd
    have HE : Hid (ckS r a b = 0) := hk
    have HCk : Hid (∀ W, Calls Tryd.prog 49 #[.int .i64 r, P2 a b] W fun e w' => e = .returned (.int .i64 0) ∧ Below W.heap.size W w') := fun W => by have := check_any r a b W; rwa [hk] at this
    have HC : Hid (∀ W, Calls Tryd.prog 55 #[.int .i64 r, P2 a b] W fun e w' => e = .returned (.int .i64 (cn r a b)) ∧ Below W.heap.size W w') := fun W => count_any r a b W h0 h1 h2 (by omega)
    by_cases hr : r = 2
    · have HV : Hid (rw0 r a b = a ∧ rw1 r a b = b) := by unfold Hid rw0 rw1; rw [if_pos hk, if_pos hr, if_pos hk, if_pos hr]; exact ⟨rfl, rfl⟩
      have hr1 : (r != 2) = false := by simpa using hr
      have hr2 : (r == 2) = true := by simpa using hr
      clear hk hs hr
      go_enter Tryd.func35, Tryd.ntmps35
      go_wp2_with (first | (go_at_call 49; refine (HCk.out _).mono ?_; rintro e w' ⟨rfl, hb⟩; have HK2 := Lib.hid (HK.out.next hb); clear HK hb x0 x1; have HK := HK2; clear HK2; have x0 := HK.out.r0.c0; have x1 := HK.out.r0.c1) | (go_at_call 55; refine (HC.out _).mono ?_; rintro e w' ⟨rfl, hb⟩; have HK2 := Lib.hid (HK.out.next hb); clear HK hb x0 x1; have HK := HK2; clear HK2; have x0 := HK.out.r0.c0; have x1 := HK.out.r0.c1))
      go_quiet (fail)
      go_wp2
      go_ret3
      exact ⟨ret_three (iv HV.out.1) (iv HV.out.2) (iv HE.out), below_drewN HK.out.bel _⟩
    · have HV : Hid (rw0 r a b = 1 ∧ rw1 r a b = cn r a b) := by unfold Hid rw0 rw1; rw [if_pos hk, if_neg hr, if_pos hk, if_neg hr]; exact ⟨rfl, rfl⟩
      have hr1 : (r != 2) = true := by simpa using hr
      have hr2 : (r == 2) = false := by simpa using hr
      clear hk hs hr
      go_enter Tryd.func35, Tryd.ntmps35
      go_wp2_with (first | (go_at_call 49; refine (HCk.out _).mono ?_; rintro e w' ⟨rfl, hb⟩; have HK2 := Lib.hid (HK.out.next hb); clear HK hb x0 x1; have HK := HK2; clear HK2; have x0 := HK.out.r0.c0; have x1 := HK.out.r0.c1) | (go_at_call 55; refine (HC.out _).mono ?_; rintro e w' ⟨rfl, hb⟩; have HK2 := Lib.hid (HK.out.next hb); clear HK hb x0 x1; have HK := HK2; clear HK2; have x0 := HK.out.r0.c0; have x1 := HK.out.r0.c1))
      go_ret3
      exact ⟨ret_three (iv HV.out.1) (iv HV.out.2) (iv HE.out), HK.out.bel⟩
  · obtain ⟨k, hkk⟩ : ∃ k, k = ckS r a b := ⟨_, rfl⟩
    have HCk : Hid (∀ W, Calls Tryd.prog 49 #[.int .i64 r, P2 a b] W fun e w' => e = .returned (.int .i64 k) ∧ Below W.heap.size W w') := fun W => by rw [hkk]; exact check_any r a b W
    have HV : Hid (rw0 r a b = 0 ∧ rw1 r a b = 0) := by unfold Hid rw0 rw1; rw [if_neg hk, if_neg hk]; exact ⟨rfl, rfl⟩
    rw [← hkk] at hk
    have HKK := Lib.hid hkk.symm
    have k1 : (k != 0) = true := by simpa using hk
    have k2 : (k == 0) = false := by simpa using hk
    clear hk hkk hs
    go_enter Tryd.func35, Tryd.ntmps35
    go_wp2_with (first | (go_at_call 49; refine (HCk.out _).mono ?_; rintro e w' ⟨rfl, hb⟩; have HK2 := Lib.hid (HK.out.next hb); clear HK hb x0 x1; have HK := HK2; clear HK2; have x0 := HK.out.r0.c0; have x1 := HK.out.r0.c1))
    go_ret3
    exact ⟨ret_three (iv HV.out.1) (iv HV.out.2) (iv HKK.out), HK.out.bel⟩
set_option maxHeartbeats 2000000 in
theorem rindex_any (r a b n : Int) (w : World) (n0 : -9223372036854775808 ≤ n) (n1 : n ≤ 9223372036854775807) : Calls Tryd.prog 19 #[.int .i64 r, P2 a b, .int .i64 n] w fun e w' => e = .returned (.tuple #[P2 (ix0 r a b n) (ix1 r a b n), .int .i64 (ixE r a b n)]) ∧ Below w.heap.size w w' := by
  have HK := Lib.hid (K2.new w a b 0 0)
  have x0 := HK.out.r0.c0; have x1 := HK.out.r0.c1; have z0 := HK.out.r1.c0; have z1 := HK.out.r1.c1; have f0 := HK.out.r1.f0; have f1 := HK.out.r1.f1
  rcases sh_dec r a b with ⟨hk, hs⟩ | ⟨hk, hs⟩
  · obtain ⟨h0, h1, h2, h3, h4, h5, h6, h7⟩ := hs.bd
    have HE : Hid (ckS r a b = 0) := hk
    have HCk : Hid (∀ W, Calls Tryd.prog 56 #[.int .i64 r, P2 a b] W fun e w' => e = .returned (.int .i64 0) ∧ Below W.heap.size W w') := fun W => by have := rcheck_any r a b W; rwa [hk] at this
    have HCe : Hid (∀ W, Calls Tryd.prog 37 #[.int .i64 r, P2 a b] W fun e w' => e = .returned (.tuple #[.int .i64 (cn r a b), .int .i64 0]) ∧ Below W.heap.size W w') := fun W => by have := rcells_any r a b W; unfold cV at this; rwa [if_pos hk, hk] at this
    obtain ⟨y, hy⟩ : ∃ y, y = mxb r b := ⟨_, rfl⟩
    by_cases hn : n < 0 ∨ cn r a b ≤ n
    · have HV : Hid (ixE r a b n = 4 ∧ ix0 r a b n = 0 ∧ ix1 r a b n = 0) := by
        have e : ixE r a b n = 4 := by unfold ixE; rw [if_pos hk, if_neg (by omega)]
        unfold Hid ix0 ix1; rw [e]; exact ⟨rfl, rfl, rfl⟩
      clear hk hs
      rcases hn with hn | hn
      all_goals
        go_enter Tryd.func19, Tryd.ntmps19
        go_wp2_with (first | (go_at_call 37; refine (HCe.out _).mono ?_; rintro e w' ⟨rfl, hb⟩; have HK2 := Lib.hid (HK.out.next hb); clear HK hb x0 x1 z0 z1 f0 f1; have HK := HK2; clear HK2; have x0 := HK.out.r0.c0; have x1 := HK.out.r0.c1; have z0 := HK.out.r1.c0; have z1 := HK.out.r1.c1; have f0 := HK.out.r1.f0; have f1 := HK.out.r1.f1))
        exact bodyPost_ret (v := .tuple #[P2 0 0, .int .i64 4]) (by simp [results, Tryd.results19, go_sem, HK.out.r1.s0, HK.out.r1.s1]) rfl ⟨ret_two (pv HV.out.2.1 HV.out.2.2) (iv HV.out.1), (HK.out.bel.setCell (by simp) _).setCell (by simp) _⟩
    · have HV : Hid (ixE r a b n = 0 ∧ ix0 r a b n = n / y ∧ ix1 r a b n = n % y) := by
        have e : ixE r a b n = 0 := by unfold ixE; rw [if_pos hk, if_pos (by omega)]
        unfold Hid ix0 ix1; rw [e, hy]; exact ⟨rfl, rfl, rfl⟩
      have hn2 : 0 ≤ n := by omega
      have hn3 : n < cn r a b := by omega
      have n2 : decide (n < 0) = false := by simp; omega
      clear hn
      cases hs with
      | s0 =>
        have hn4 : n = 0 := by have : cn 0 0 0 = 1 := by decide
                               omega
        have HV2 : Hid (ixE 0 0 0 n = 0 ∧ ix0 0 0 0 n = n ∧ ix1 0 0 0 n = 0) := by
          have := HV.out; rw [hy, hn4] at this; rw [hn4]; exact this
        clear hk hy hn4 hn2
        go_enter Tryd.func19, Tryd.ntmps19
        go_wp2_with (first | (go_at_call 37; refine (HCe.out _).mono ?_; rintro e w' ⟨rfl, hb⟩; have HK2 := Lib.hid (HK.out.next hb); clear HK hb x0 x1 z0 z1 f0 f1; have HK := HK2; clear HK2; have x0 := HK.out.r0.c0; have x1 := HK.out.r0.c1; have z0 := HK.out.r1.c0; have z1 := HK.out.r1.c1; have f0 := HK.out.r1.f0; have f1 := HK.out.r1.f1))
        exact bodyPost_ret (v := .tuple #[P2 n 0, .int .i64 0]) (by simp [results, Tryd.results19, go_sem, HK.out.r1.s0, HK.out.r1.s1]) rfl ⟨ret_two (pv HV2.out.2.1 HV2.out.2.2) (iv HV2.out.1), (HK.out.bel.setCell (by simp) _).setCell (by simp) _⟩
      | s1 _ g0 g1 =>
        have HV2 : Hid (ixE 1 a 0 n = 0 ∧ ix0 1 a 0 n = n ∧ ix1 1 a 0 n = 0) := by
          have h := HV.out
          have hm : mxb 1 0 = 1 := by decide
          rw [hy, hm, Int.ediv_one, Int.emod_one] at h; exact h
        clear hk hy hn2
        go_enter Tryd.func19, Tryd.ntmps19
        go_wp2_with (first | (go_at_call 37; refine (HCe.out _).mono ?_; rintro e w' ⟨rfl, hb⟩; have HK2 := Lib.hid (HK.out.next hb); clear HK hb x0 x1 z0 z1 f0 f1; have HK := HK2; clear HK2; have x0 := HK.out.r0.c0; have x1 := HK.out.r0.c1; have z0 := HK.out.r1.c0; have z1 := HK.out.r1.c1; have f0 := HK.out.r1.f0; have f1 := HK.out.r1.f1))
        exact bodyPost_ret (v := .tuple #[P2 n 0, .int .i64 0]) (by simp [results, Tryd.results19, go_sem, HK.out.r1.s0, HK.out.r1.s1]) rfl ⟨ret_two (pv HV2.out.2.1 HV2.out.2.2) (iv HV2.out.1), (HK.out.bel.setCell (by simp) _).setCell (by simp) _⟩
      | s2 _ _ g0 g1 g2 g3 g4 =>
        have hb0 : 1 ≤ b := by
          have e : cn 2 a b = a * b := by unfold cn; simp
          rw [e] at hn3
          by_cases e0 : b = 0
          · rw [e0] at hn3; simp at hn3; omega
          · omega
        have hyb : y = b := by rw [hy]; unfold mxb; simp
        subst hyb
        have hy0 : ¬ y = 0 := by omega
        have hy1 : (y == 0) = false := by simpa using hy0
        have hw6 : wrap64 (n / y) = n / y := by
          have := Int.ediv_le_self y hn2
          have := Int.ediv_nonneg hn2 (show 0 ≤ y by omega)
          exact IntWalk.wrap64_in _ (by omega)
        clear hk hy
        go_enter Tryd.func19, Tryd.ntmps19
        go_wp2_with (first | (go_at_call 37; refine (HCe.out _).mono ?_; rintro e w' ⟨rfl, hb⟩; have HK2 := Lib.hid (HK.out.next hb); clear HK hb x0 x1 z0 z1 f0 f1; have HK := HK2; clear HK2; have x0 := HK.out.r0.c0; have x1 := HK.out.r0.c1; have z0 := HK.out.r1.c0; have z1 := HK.out.r1.c1; have f0 := HK.out.r1.f0; have f1 := HK.out.r1.f1))
        go_region
        all_goals
          go_wp2
          exact bodyPost_ret (v := .tuple #[P2 (n / y) (n % y), .int .i64 0]) (by simp [results, Tryd.results19, go_sem, HK.out.r1.s0, HK.out.r1.s1]) rfl ⟨ret_two (pv HV.out.2.1 HV.out.2.2) (iv HV.out.1), ((HK.out.bel.setCell (by simp) _).setCell (by simp) _).drew⟩
  · obtain ⟨k, hkk⟩ : ∃ k, k = ckS r a b := ⟨_, rfl⟩
    have HCk : Hid (∀ W, Calls Tryd.prog 56 #[.int .i64 r, P2 a b] W fun e w' => e = .returned (.int .i64 k) ∧ Below W.heap.size W w') := fun W => by rw [hkk]; exact rcheck_any r a b W
    have HV : Hid (ixE r a b n = k ∧ ix0 r a b n = 0 ∧ ix1 r a b n = 0) := by
      have e : ixE r a b n = k := by unfold ixE; rw [if_neg hk]; exact hkk.symm
      unfold Hid ix0 ix1; rw [e, hkk, if_neg hk]; exact ⟨rfl, rfl, if_neg hk⟩
    have HCe : Hid (∀ W, Calls Tryd.prog 37 #[.int .i64 r, P2 a b] W fun e w' => e = .returned (.tuple #[.int .i64 0, .int .i64 k]) ∧ Below W.heap.size W w') := fun W => by have := rcells_any r a b W; unfold cV at this; rwa [if_neg hk, ← hkk] at this
    rw [← hkk] at hk
    have HKK := Lib.hid hkk.symm
    have k1 : (k != 0) = true := by simpa using hk
    have k2 : (k == 0) = false := by simpa using hk
    clear hk hkk hs
    go_enter Tryd.func19, Tryd.ntmps19
    go_wp2_with (first | (go_at_call 37; refine (HCe.out _).mono ?_; rintro e w' ⟨rfl, hb⟩; have HK2 := Lib.hid (HK.out.next hb); clear HK hb x0 x1 z0 z1 f0 f1; have HK := HK2; clear HK2; have x0 := HK.out.r0.c0; have x1 := HK.out.r0.c1; have z0 := HK.out.r1.c0; have z1 := HK.out.r1.c1; have f0 := HK.out.r1.f0; have f1 := HK.out.r1.f1))
    exact bodyPost_ret (v := .tuple #[P2 0 0, .int .i64 k]) (by simp [results, Tryd.results19, go_sem, HK.out.r1.s0, HK.out.r1.s1]) rfl ⟨ret_two (pv HV.out.2.1 HV.out.2.2) (iv HV.out.1), (HK.out.bel.setCell (by simp) _).setCell (by simp) _⟩
end Go.Proofs.YtdbampgbbghfkaaDoor
