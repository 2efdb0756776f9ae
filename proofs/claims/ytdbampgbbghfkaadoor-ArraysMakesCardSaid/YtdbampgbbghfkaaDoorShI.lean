/- Place of shapes, of the code and of the reference. -/
import Derived.Test.YtdbampgbbghfkaaDoorShH
namespace Go.Proofs.YtdbampgbbghfkaaDoor
open Go.RowKit

set_option maxHeartbeats 2000000 in
theorem place_any (r a b p q : Int) (w : World) : Calls Tryd.prog 58 #[.int .i64 r, P2 a b, P2 p q] w fun e w' => e = .returned (.tuple #[.int .i64 (plV r a b p q), .int .i64 (plE r a b p q)]) ∧ Below w.heap.size w w' := by
  have HK := Lib.hid (K2.new w a b p q)
  have x0 := HK.out.r0.c0; have x1 := HK.out.r0.c1; have z0 := HK.out.r1.c0; have z1 := HK.out.r1.c1; have f0 := HK.out.r1.f0; have f1 := HK.out.r1.f1
  have hi0 : ∀ w, (Instr.index 25 (P2 p q) (.int .i64 0)).run Tryd.prog w = .ok (.int .i64 p) w := fun _ => by kernel_rfl
  have hi1 : ∀ w, (Instr.index 25 (P2 p q) (.int .i64 1)).run Tryd.prog w = .ok (.int .i64 q) w := fun _ => by kernel_rfl
  rcases sh_dec r a b with ⟨hk, hs⟩ | ⟨hk, hs⟩
  · obtain ⟨h0, h1, h2, h3, h4, h5, h6, h7⟩ := hs.bd
    have HE : Hid (ckS r a b = 0) := hk
    have HCk : Hid (∀ W, Calls Tryd.prog 49 #[.int .i64 r, P2 a b] W fun e w' => e = .returned (.int .i64 0) ∧ Below W.heap.size W w') := fun W => by have := check_any r a b W; rwa [hk] at this
    obtain ⟨m0, m1, m2, m3, m4⟩ := hs.mx
    obtain ⟨y, hy⟩ : ∃ y, y = mxb r b := ⟨_, rfl⟩
    obtain ⟨x, hx⟩ : ∃ x, x = mxa r a := ⟨_, rfl⟩
    have HM : Hid (∀ W, Calls Tryd.prog 65 #[.int .i64 r, P2 a b] W fun e w' => e = .returned (P2 x y) ∧ Below W.heap.size W w') := fun W => by rw [hx, hy]; exact matrix_any r a b W h0 h1
    by_cases c1 : p < 0
    · have HV : Hid (plE r a b p q = 4 ∧ plV r a b p q = 0) := by
        have e : plE r a b p q = 4 := by unfold plE; rw [if_pos hk, if_neg (by omega)]
        unfold Hid plV; rw [e]; exact ⟨rfl, rfl⟩
      clear hk hs hx hy m0 m1 m2 m3 m4
      go_enter Tryd.func58, Tryd.ntmps58
      go_wp2_with (first | (go_at_call 49; refine (HCk.out _).mono ?_; rintro e w' ⟨rfl, hb⟩; have HK2 := Lib.hid (HK.out.next hb); clear HK hb x0 x1 z0 z1 f0 f1; have HK := HK2; clear HK2; have x0 := HK.out.r0.c0; have x1 := HK.out.r0.c1; have z0 := HK.out.r1.c0; have z1 := HK.out.r1.c1; have f0 := HK.out.r1.f0; have f1 := HK.out.r1.f1) | (go_at_call 65; refine (HM.out _).mono ?_; rintro e w' ⟨rfl, hb⟩; have HK2 := Lib.hid (HK.out.next hb); clear HK hb x0 x1 z0 z1 f0 f1; have HK := HK2; clear HK2; have x0 := HK.out.r0.c0; have x1 := HK.out.r0.c1; have z0 := HK.out.r1.c0; have z1 := HK.out.r1.c1; have f0 := HK.out.r1.f0; have f1 := HK.out.r1.f1; have y0 := (HK.out.r1.alloc (.cells #[.int .i64 x, .int .i64 y] 25)).c0; have y1 := (HK.out.r1.alloc (.cells #[.int .i64 x, .int .i64 y] 25)).c1))
      refine wp_loop_rounds 4 ?_
      rw [rounds_succ]
      go_wp2
      go_ret2
      exact ⟨ret_two (iv HV.out.2) (iv HV.out.1), HK.out.bel.alloc (by have := HK.out.r0.lt; omega) _⟩
    · by_cases c2 : x ≤ p
      · have HV : Hid (plE r a b p q = 4 ∧ plV r a b p q = 0) := by
          have e : plE r a b p q = 4 := by unfold plE; rw [if_pos hk, if_neg (by omega)]
          unfold Hid plV; rw [e]; exact ⟨rfl, rfl⟩
        clear hk hs hx hy m0 m1 m2 m3 m4
        go_enter Tryd.func58, Tryd.ntmps58
        go_wp2_with (first | (go_at_call 49; refine (HCk.out _).mono ?_; rintro e w' ⟨rfl, hb⟩; have HK2 := Lib.hid (HK.out.next hb); clear HK hb x0 x1 z0 z1 f0 f1; have HK := HK2; clear HK2; have x0 := HK.out.r0.c0; have x1 := HK.out.r0.c1; have z0 := HK.out.r1.c0; have z1 := HK.out.r1.c1; have f0 := HK.out.r1.f0; have f1 := HK.out.r1.f1) | (go_at_call 65; refine (HM.out _).mono ?_; rintro e w' ⟨rfl, hb⟩; have HK2 := Lib.hid (HK.out.next hb); clear HK hb x0 x1 z0 z1 f0 f1; have HK := HK2; clear HK2; have x0 := HK.out.r0.c0; have x1 := HK.out.r0.c1; have z0 := HK.out.r1.c0; have z1 := HK.out.r1.c1; have f0 := HK.out.r1.f0; have f1 := HK.out.r1.f1; have y0 := (HK.out.r1.alloc (.cells #[.int .i64 x, .int .i64 y] 25)).c0; have y1 := (HK.out.r1.alloc (.cells #[.int .i64 x, .int .i64 y] 25)).c1))
        refine wp_loop_rounds 4 ?_
        rw [rounds_succ]
        go_wp2
        go_ret2
        exact ⟨ret_two (iv HV.out.2) (iv HV.out.1), HK.out.bel.alloc (by have := HK.out.r0.lt; omega) _⟩
      · by_cases c3 : q < 0
        · have HV : Hid (plE r a b p q = 4 ∧ plV r a b p q = 0) := by
            have e : plE r a b p q = 4 := by unfold plE; rw [if_pos hk, if_neg (by omega)]
            unfold Hid plV; rw [e]; exact ⟨rfl, rfl⟩
          clear hk hs hx hy m0 m1 m2 m3 m4
          go_enter Tryd.func58, Tryd.ntmps58
          go_wp2_with (first | (go_at_call 49; refine (HCk.out _).mono ?_; rintro e w' ⟨rfl, hb⟩; have HK2 := Lib.hid (HK.out.next hb); clear HK hb x0 x1 z0 z1 f0 f1; have HK := HK2; clear HK2; have x0 := HK.out.r0.c0; have x1 := HK.out.r0.c1; have z0 := HK.out.r1.c0; have z1 := HK.out.r1.c1; have f0 := HK.out.r1.f0; have f1 := HK.out.r1.f1) | (go_at_call 65; refine (HM.out _).mono ?_; rintro e w' ⟨rfl, hb⟩; have HK2 := Lib.hid (HK.out.next hb); clear HK hb x0 x1 z0 z1 f0 f1; have HK := HK2; clear HK2; have x0 := HK.out.r0.c0; have x1 := HK.out.r0.c1; have z0 := HK.out.r1.c0; have z1 := HK.out.r1.c1; have f0 := HK.out.r1.f0; have f1 := HK.out.r1.f1; have y0 := (HK.out.r1.alloc (.cells #[.int .i64 x, .int .i64 y] 25)).c0; have y1 := (HK.out.r1.alloc (.cells #[.int .i64 x, .int .i64 y] 25)).c1))
          refine wp_loop_rounds 4 ?_
          rw [rounds_succ]
          go_wp2
          rw [rounds_succ]
          go_wp2
          go_ret2
          exact ⟨ret_two (iv HV.out.2) (iv HV.out.1), HK.out.bel.alloc (by have := HK.out.r0.lt; omega) _⟩
        · by_cases c4 : y ≤ q
          · have HV : Hid (plE r a b p q = 4 ∧ plV r a b p q = 0) := by
              have e : plE r a b p q = 4 := by unfold plE; rw [if_pos hk, if_neg (by omega)]
              unfold Hid plV; rw [e]; exact ⟨rfl, rfl⟩
            clear hk hs hx hy m0 m1 m2 m3 m4
            go_enter Tryd.func58, Tryd.ntmps58
            go_wp2_with (first | (go_at_call 49; refine (HCk.out _).mono ?_; rintro e w' ⟨rfl, hb⟩; have HK2 := Lib.hid (HK.out.next hb); clear HK hb x0 x1 z0 z1 f0 f1; have HK := HK2; clear HK2; have x0 := HK.out.r0.c0; have x1 := HK.out.r0.c1; have z0 := HK.out.r1.c0; have z1 := HK.out.r1.c1; have f0 := HK.out.r1.f0; have f1 := HK.out.r1.f1) | (go_at_call 65; refine (HM.out _).mono ?_; rintro e w' ⟨rfl, hb⟩; have HK2 := Lib.hid (HK.out.next hb); clear HK hb x0 x1 z0 z1 f0 f1; have HK := HK2; clear HK2; have x0 := HK.out.r0.c0; have x1 := HK.out.r0.c1; have z0 := HK.out.r1.c0; have z1 := HK.out.r1.c1; have f0 := HK.out.r1.f0; have f1 := HK.out.r1.f1; have y0 := (HK.out.r1.alloc (.cells #[.int .i64 x, .int .i64 y] 25)).c0; have y1 := (HK.out.r1.alloc (.cells #[.int .i64 x, .int .i64 y] 25)).c1))
            refine wp_loop_rounds 4 ?_
            rw [rounds_succ]
            go_wp2
            rw [rounds_succ]
            go_wp2
            go_ret2
            exact ⟨ret_two (iv HV.out.2) (iv HV.out.1), HK.out.bel.alloc (by have := HK.out.r0.lt; omega) _⟩
          · have HV : Hid (plE r a b p q = 0 ∧ plV r a b p q = p * y + q) := by
              have e : plE r a b p q = 0 := by unfold plE; rw [if_pos hk, if_pos (by omega)]
              unfold Hid plV; rw [e]; exact ⟨rfl, by rw [if_pos rfl, hy]⟩
            obtain ⟨g0, g1⟩ : 0 ≤ p * y ∧ p * y ≤ 400 := ⟨Int.mul_nonneg (by omega) (by omega), Int.le_trans (Int.mul_le_mul_of_nonneg_right (show p ≤ x by omega) (by omega)) (by rw [hx, hy]; exact m4)⟩
            have g2 : q ≤ 400 := by omega
            clear hk hs hx hy m0 m1 m2 m3 m4
            go_enter Tryd.func58, Tryd.ntmps58
            go_wp2_with (first | (go_at_call 49; refine (HCk.out _).mono ?_; rintro e w' ⟨rfl, hb⟩; have HK2 := Lib.hid (HK.out.next hb); clear HK hb x0 x1 z0 z1 f0 f1; have HK := HK2; clear HK2; have x0 := HK.out.r0.c0; have x1 := HK.out.r0.c1; have z0 := HK.out.r1.c0; have z1 := HK.out.r1.c1; have f0 := HK.out.r1.f0; have f1 := HK.out.r1.f1) | (go_at_call 65; refine (HM.out _).mono ?_; rintro e w' ⟨rfl, hb⟩; have HK2 := Lib.hid (HK.out.next hb); clear HK hb x0 x1 z0 z1 f0 f1; have HK := HK2; clear HK2; have x0 := HK.out.r0.c0; have x1 := HK.out.r0.c1; have z0 := HK.out.r1.c0; have z1 := HK.out.r1.c1; have f0 := HK.out.r1.f0; have f1 := HK.out.r1.f1; have y0 := (HK.out.r1.alloc (.cells #[.int .i64 x, .int .i64 y] 25)).c0; have y1 := (HK.out.r1.alloc (.cells #[.int .i64 x, .int .i64 y] 25)).c1))
            refine wp_loop_rounds 4 ?_
            rw [rounds_succ]
            go_wp2
            rw [rounds_succ]
            go_wp2
            rw [rounds_succ]
            go_wp2
            go_ret2
            exact ⟨ret_two (iv HV.out.2) (iv HV.out.1), HK.out.bel.alloc (by have := HK.out.r0.lt; omega) _⟩
  · obtain ⟨k, hkk⟩ : ∃ k, k = ckS r a b := ⟨_, rfl⟩
    have HCk : Hid (∀ W, Calls Tryd.prog 49 #[.int .i64 r, P2 a b] W fun e w' => e = .returned (.int .i64 k) ∧ Below W.heap.size W w') := fun W => by rw [hkk]; exact check_any r a b W
    have HV : Hid (plE r a b p q = k ∧ plV r a b p q = 0) := by
      have e : plE r a b p q = k := by unfold plE; rw [if_neg hk]; exact hkk.symm
      unfold Hid plV; rw [e, hkk, if_neg hk]; exact ⟨rfl, rfl⟩
    rw [← hkk] at hk
    have HKK := Lib.hid hkk.symm
    have k1 : (k != 0) = true := by simpa using hk
    have k2 : (k == 0) = false := by simpa using hk
    clear hk hkk hs
    go_enter Tryd.func58, Tryd.ntmps58
    go_wp2_with (first | (go_at_call 49; refine (HCk.out _).mono ?_; rintro e w' ⟨rfl, hb⟩; have HK2 := Lib.hid (HK.out.next hb); clear HK hb x0 x1 z0 z1 f0 f1; have HK := HK2; clear HK2; have x0 := HK.out.r0.c0; have x1 := HK.out.r0.c1; have z0 := HK.out.r1.c0; have z1 := HK.out.r1.c1; have f0 := HK.out.r1.f0; have f1 := HK.out.r1.f1))
    go_ret2
    exact ⟨ret_two (iv HV.out.2) (iv HV.out.1), HK.out.bel⟩
end Go.Proofs.YtdbampgbbghfkaaDoor
