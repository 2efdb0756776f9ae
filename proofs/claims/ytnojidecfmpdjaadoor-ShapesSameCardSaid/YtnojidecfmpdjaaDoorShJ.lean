/- Fits of shapes, of the code and of the reference. -/
import Derived.Test.YtnojidecfmpdjaaDoorShH
namespace Go.Proofs.YtnojidecfmpdjaaDoor
open Go.RowKit

theorem K3.set {w w' : World} {x y z u s t : Int} (h : K3 w x y z u s t w') (p q : Value) : Below w.heap.size w ((w'.setCell ⟨w.heap.size + 2, 0, none⟩ p).setCell ⟨w.heap.size + 2, 1, none⟩ q) :=
  (h.bel.setCell (by show w.heap.size ≤ w.heap.size + 2; omega) _).setCell (by show w.heap.size ≤ w.heap.size + 2; omega) _
set_option maxHeartbeats 4000000 in
theorem fits_any (r a b s c d : Int) (w : World) : Calls Tryd.prog 28 #[.int .i64 r, P2 a b, .int .i64 s, P2 c d] w fun e w' => e = .returned (.tuple #[.int .i64 (ftR r a b s c d), P2 (ft0 r a b s c d) (ft1 r a b s c d), .int .i64 (ftE r a b s c d)]) ∧ Below w.heap.size w w' := by
  have HK := Lib.hid (K3.new w a b c d 0 0)
  have x0 := HK.out.r0.c0; have x1 := HK.out.r0.c1; have y0 := HK.out.r1.c0; have y1 := HK.out.r1.c1; have z0 := HK.out.r2.c0; have z1 := HK.out.r2.c1; have f0 := HK.out.r2.f0; have f1 := HK.out.r2.f1
  rcases sh_dec r a b with ⟨hk, hs⟩ | ⟨hk, hs⟩
  · have HC1 : Hid (∀ W, Calls Tryd.prog 15 #[.int .i64 r, P2 a b] W fun e w' => e = .returned (.int .i64 0) ∧ Below W.heap.size W w') := fun W => by have := check_any r a b W; rwa [hk] at this
    rcases sh_dec s c d with ⟨hl, ht⟩ | ⟨hl, ht⟩
    · have HC2 : Hid (∀ W, Calls Tryd.prog 15 #[.int .i64 s, P2 c d] W fun e w' => e = .returned (.int .i64 0) ∧ Below W.heap.size W w') := fun W => by have := check_any s c d W; rwa [hl] at this
      have hr0 := hs.bd.1
      have hsb0 := ht.bd.1
      have HQ := fun W => eq2 a b c d W
      by_cases e1 : s = 0
      · have HV : Hid (ftR r a b s c d = r ∧ (ft0 r a b s c d = a ∧ ft1 r a b s c d = b) ∧ ftE r a b s c d = 0) := by
          have e : ftE r a b s c d = 0 := by unfold ftE; rw [if_pos hk, if_pos hl, if_pos (by omega)]
          unfold Hid ftR ft0 ft1; rw [e]; rw [if_pos e1, if_pos e1, if_pos e1]; exact ⟨rfl, ⟨rfl, rfl⟩, rfl⟩
        have b1 : (s == 0) = true := by simp; omega
        have b2 : (s != 0) = false := by simp; omega
        clear hk hs hl ht hr0 hsb0 e1
        go_enter Tryd.func28, Tryd.ntmps28
        go_wp2_with (first | (go_at_call 15; with_reducible refine (HC1.out _).mono ?_; rintro e w' ⟨rfl, hb⟩; have HK2 := Lib.hid (HK.out.next hb); clear HK hb x0 x1 y0 y1 z0 z1 f0 f1; have HK := HK2; clear HK2; have x0 := HK.out.r0.c0; have x1 := HK.out.r0.c1; have y0 := HK.out.r1.c0; have y1 := HK.out.r1.c1; have z0 := HK.out.r2.c0; have z1 := HK.out.r2.c1; have f0 := HK.out.r2.f0; have f1 := HK.out.r2.f1) | (go_at_call 15; with_reducible refine (HC2.out _).mono ?_; rintro e w' ⟨rfl, hb⟩; have HK2 := Lib.hid (HK.out.next hb); clear HK hb x0 x1 y0 y1 z0 z1 f0 f1; have HK := HK2; clear HK2; have x0 := HK.out.r0.c0; have x1 := HK.out.r0.c1; have y0 := HK.out.r1.c0; have y1 := HK.out.r1.c1; have z0 := HK.out.r2.c0; have z1 := HK.out.r2.c1; have f0 := HK.out.r2.f0; have f1 := HK.out.r2.f1))
        go_region
        all_goals
          go_wp2
          exact bodyPost_ret (v := .tuple #[.int .i64 r, P2 a b, .int .i64 0]) (by simp [results, Tryd.results28, go_sem, HK.out.r2.s0, HK.out.r2.s1]) rfl ⟨ret_three (iv HV.out.1) (pv HV.out.2.1.1 HV.out.2.1.2) (iv HV.out.2.2), (HK.out.set _ _).drew⟩
      · by_cases e2 : r = 0
        · have HV : Hid (ftR r a b s c d = s ∧ (ft0 r a b s c d = c ∧ ft1 r a b s c d = d) ∧ ftE r a b s c d = 0) := by
            have e : ftE r a b s c d = 0 := by unfold ftE; rw [if_pos hk, if_pos hl, if_pos (by omega)]
            unfold Hid ftR ft0 ft1; rw [e]; rw [if_neg e1, if_neg e1, if_neg e1]; exact ⟨rfl, ⟨rfl, rfl⟩, rfl⟩
          have b1 : (s == 0) = false := by simp; omega
          have b2 : (s != 0) = true := by simp; omega
          have c1 : (r == 0) = true := by simp; omega
          have c2 : (r != 0) = false := by simp; omega
          have b3 : (r == s) = false := by simp; omega
          have b4 : (r != s) = true := by simp; omega
          have b6 : decide (s ≤ r) = false := by simp; omega
          clear hk hs hl ht hr0 hsb0 e1 e2
          go_enter Tryd.func28, Tryd.ntmps28
          go_wp2_with (first | (go_at_call 15; with_reducible refine (HC1.out _).mono ?_; rintro e w' ⟨rfl, hb⟩; have HK2 := Lib.hid (HK.out.next hb); clear HK hb x0 x1 y0 y1 z0 z1 f0 f1; have HK := HK2; clear HK2; have x0 := HK.out.r0.c0; have x1 := HK.out.r0.c1; have y0 := HK.out.r1.c0; have y1 := HK.out.r1.c1; have z0 := HK.out.r2.c0; have z1 := HK.out.r2.c1; have f0 := HK.out.r2.f0; have f1 := HK.out.r2.f1) | (go_at_call 15; with_reducible refine (HC2.out _).mono ?_; rintro e w' ⟨rfl, hb⟩; have HK2 := Lib.hid (HK.out.next hb); clear HK hb x0 x1 y0 y1 z0 z1 f0 f1; have HK := HK2; clear HK2; have x0 := HK.out.r0.c0; have x1 := HK.out.r0.c1; have y0 := HK.out.r1.c0; have y1 := HK.out.r1.c1; have z0 := HK.out.r2.c0; have z1 := HK.out.r2.c1; have f0 := HK.out.r2.f0; have f1 := HK.out.r2.f1))
          go_region
          all_goals
            go_wp2
            exact bodyPost_ret (v := .tuple #[.int .i64 s, P2 c d, .int .i64 0]) (by simp [results, Tryd.results28, go_sem, HK.out.r2.s0, HK.out.r2.s1]) rfl ⟨ret_three (iv HV.out.1) (pv HV.out.2.1.1 HV.out.2.1.2) (iv HV.out.2.2), (HK.out.set _ _).drew⟩
        · by_cases e3 : r = s
          · by_cases e4 : a = c ∧ b = d
            · have HV : Hid (ftR r a b s c d = r ∧ (ft0 r a b s c d = a ∧ ft1 r a b s c d = b) ∧ ftE r a b s c d = 0) := by
                have e : ftE r a b s c d = 0 := by unfold ftE; rw [if_pos hk, if_pos hl, if_neg (by omega), if_pos e3, if_pos e4]
                unfold Hid ftR ft0 ft1; rw [e]; rw [if_neg e1, if_neg e1, if_neg e1]; exact ⟨e3.symm, ⟨e4.1.symm, e4.2.symm⟩, rfl⟩
              have b1 : (s == 0) = false := by simp; omega
              have b2 : (s != 0) = true := by simp; omega
              have c1 : (r == 0) = false := by simp; omega
              have c2 : (r != 0) = true := by simp; omega
              have b3 : (r == s) = true := by simp; omega
              have b4 : (r != s) = false := by simp; omega
              have b5 : decide (a = c ∧ b = d) = true := decide_eq_true e4
              have b6 : decide (s ≤ r) = true := by simp; omega
              clear hk hs hl ht hr0 hsb0 e1 e2 e3 e4
              go_enter Tryd.func28, Tryd.ntmps28
              go_wp2_with (first | (go_at_call 15; with_reducible refine (HC1.out _).mono ?_; rintro e w' ⟨rfl, hb⟩; have HK2 := Lib.hid (HK.out.next hb); clear HK hb x0 x1 y0 y1 z0 z1 f0 f1; have HK := HK2; clear HK2; have x0 := HK.out.r0.c0; have x1 := HK.out.r0.c1; have y0 := HK.out.r1.c0; have y1 := HK.out.r1.c1; have z0 := HK.out.r2.c0; have z1 := HK.out.r2.c1; have f0 := HK.out.r2.f0; have f1 := HK.out.r2.f1) | (go_at_call 15; with_reducible refine (HC2.out _).mono ?_; rintro e w' ⟨rfl, hb⟩; have HK2 := Lib.hid (HK.out.next hb); clear HK hb x0 x1 y0 y1 z0 z1 f0 f1; have HK := HK2; clear HK2; have x0 := HK.out.r0.c0; have x1 := HK.out.r0.c1; have y0 := HK.out.r1.c0; have y1 := HK.out.r1.c1; have z0 := HK.out.r2.c0; have z1 := HK.out.r2.c1; have f0 := HK.out.r2.f0; have f1 := HK.out.r2.f1))
              go_region
              all_goals
                go_wp2
                exact bodyPost_ret (v := .tuple #[.int .i64 r, P2 a b, .int .i64 0]) (by simp [results, Tryd.results28, go_sem, HK.out.r2.s0, HK.out.r2.s1]) rfl ⟨ret_three (iv HV.out.1) (pv HV.out.2.1.1 HV.out.2.1.2) (iv HV.out.2.2), (HK.out.set _ _).drew⟩
            · have HV : Hid (ftR r a b s c d = 0 ∧ (ft0 r a b s c d = 0 ∧ ft1 r a b s c d = 0) ∧ ftE r a b s c d = 11) := by
                have e : ftE r a b s c d = 11 := by unfold ftE; rw [if_pos hk, if_pos hl, if_neg (by omega), if_pos e3, if_neg e4]
                unfold Hid ftR ft0 ft1; rw [e]; exact ⟨rfl, ⟨rfl, rfl⟩, rfl⟩
              have b1 : (s == 0) = false := by simp; omega
              have b2 : (s != 0) = true := by simp; omega
              have c1 : (r == 0) = false := by simp; omega
              have c2 : (r != 0) = true := by simp; omega
              have b3 : (r == s) = true := by simp; omega
              have b4 : (r != s) = false := by simp; omega
              have b5 : decide (a = c ∧ b = d) = false := decide_eq_false e4
              clear hk hs hl ht hr0 hsb0 e1 e2 e3 e4
              go_enter Tryd.func28, Tryd.ntmps28
              go_wp2_with (first | (go_at_call 15; with_reducible refine (HC1.out _).mono ?_; rintro e w' ⟨rfl, hb⟩; have HK2 := Lib.hid (HK.out.next hb); clear HK hb x0 x1 y0 y1 z0 z1 f0 f1; have HK := HK2; clear HK2; have x0 := HK.out.r0.c0; have x1 := HK.out.r0.c1; have y0 := HK.out.r1.c0; have y1 := HK.out.r1.c1; have z0 := HK.out.r2.c0; have z1 := HK.out.r2.c1; have f0 := HK.out.r2.f0; have f1 := HK.out.r2.f1) | (go_at_call 15; with_reducible refine (HC2.out _).mono ?_; rintro e w' ⟨rfl, hb⟩; have HK2 := Lib.hid (HK.out.next hb); clear HK hb x0 x1 y0 y1 z0 z1 f0 f1; have HK := HK2; clear HK2; have x0 := HK.out.r0.c0; have x1 := HK.out.r0.c1; have y0 := HK.out.r1.c0; have y1 := HK.out.r1.c1; have z0 := HK.out.r2.c0; have z1 := HK.out.r2.c1; have f0 := HK.out.r2.f0; have f1 := HK.out.r2.f1))
              exact bodyPost_ret (v := .tuple #[.int .i64 0, P2 0 0, .int .i64 11]) (by simp [results, Tryd.results28, go_sem, HK.out.r2.s0, HK.out.r2.s1]) rfl ⟨ret_three (iv HV.out.1) (pv HV.out.2.1.1 HV.out.2.1.2) (iv HV.out.2.2), HK.out.set _ _⟩
          · have HV : Hid (ftR r a b s c d = 0 ∧ (ft0 r a b s c d = 0 ∧ ft1 r a b s c d = 0) ∧ ftE r a b s c d = 6) := by
              have e : ftE r a b s c d = 6 := by unfold ftE; rw [if_pos hk, if_pos hl, if_neg (by omega), if_neg e3]
              unfold Hid ftR ft0 ft1; rw [e]; exact ⟨rfl, ⟨rfl, rfl⟩, rfl⟩
            have b1 : (s == 0) = false := by simp; omega
            have b2 : (s != 0) = true := by simp; omega
            have c1 : (r == 0) = false := by simp; omega
            have c2 : (r != 0) = true := by simp; omega
            have b3 : (r == s) = false := by simp; omega
            have b4 : (r != s) = true := by simp; omega
            clear hk hs hl ht hr0 hsb0 e1 e2 e3
            go_enter Tryd.func28, Tryd.ntmps28
            go_wp2_with (first | (go_at_call 15; with_reducible refine (HC1.out _).mono ?_; rintro e w' ⟨rfl, hb⟩; have HK2 := Lib.hid (HK.out.next hb); clear HK hb x0 x1 y0 y1 z0 z1 f0 f1; have HK := HK2; clear HK2; have x0 := HK.out.r0.c0; have x1 := HK.out.r0.c1; have y0 := HK.out.r1.c0; have y1 := HK.out.r1.c1; have z0 := HK.out.r2.c0; have z1 := HK.out.r2.c1; have f0 := HK.out.r2.f0; have f1 := HK.out.r2.f1) | (go_at_call 15; with_reducible refine (HC2.out _).mono ?_; rintro e w' ⟨rfl, hb⟩; have HK2 := Lib.hid (HK.out.next hb); clear HK hb x0 x1 y0 y1 z0 z1 f0 f1; have HK := HK2; clear HK2; have x0 := HK.out.r0.c0; have x1 := HK.out.r0.c1; have y0 := HK.out.r1.c0; have y1 := HK.out.r1.c1; have z0 := HK.out.r2.c0; have z1 := HK.out.r2.c1; have f0 := HK.out.r2.f0; have f1 := HK.out.r2.f1))
            exact bodyPost_ret (v := .tuple #[.int .i64 0, P2 0 0, .int .i64 6]) (by simp [results, Tryd.results28, go_sem, HK.out.r2.s0, HK.out.r2.s1]) rfl ⟨ret_three (iv HV.out.1) (pv HV.out.2.1.1 HV.out.2.1.2) (iv HV.out.2.2), HK.out.set _ _⟩
    · obtain ⟨k, hkk⟩ : ∃ k, k = ckS s c d := ⟨_, rfl⟩
      have HC2 : Hid (∀ W, Calls Tryd.prog 15 #[.int .i64 s, P2 c d] W fun e w' => e = .returned (.int .i64 k) ∧ Below W.heap.size W w') := fun W => by rw [hkk]; exact check_any s c d W
      have HV : Hid (ftR r a b s c d = 0 ∧ (ft0 r a b s c d = 0 ∧ ft1 r a b s c d = 0) ∧ ftE r a b s c d = k) := by
        have e : ftE r a b s c d = k := by unfold ftE; rw [if_pos hk, if_neg hl]; exact hkk.symm
        unfold Hid ftR ft0 ft1; rw [e]; rw [hkk, if_neg hl, if_neg hl, if_neg hl]; exact ⟨rfl, ⟨rfl, rfl⟩, rfl⟩
      rw [← hkk] at hl
      have k1 : (k != 0) = true := by simpa using hl
      have k2 : (k == 0) = false := by simpa using hl
      clear hk hs hl ht hkk
      go_enter Tryd.func28, Tryd.ntmps28
      go_wp2_with (first | (go_at_call 15; with_reducible refine (HC1.out _).mono ?_; rintro e w' ⟨rfl, hb⟩; have HK2 := Lib.hid (HK.out.next hb); clear HK hb x0 x1 y0 y1 z0 z1 f0 f1; have HK := HK2; clear HK2; have x0 := HK.out.r0.c0; have x1 := HK.out.r0.c1; have y0 := HK.out.r1.c0; have y1 := HK.out.r1.c1; have z0 := HK.out.r2.c0; have z1 := HK.out.r2.c1; have f0 := HK.out.r2.f0; have f1 := HK.out.r2.f1) | (go_at_call 15; with_reducible refine (HC2.out _).mono ?_; rintro e w' ⟨rfl, hb⟩; have HK2 := Lib.hid (HK.out.next hb); clear HK hb x0 x1 y0 y1 z0 z1 f0 f1; have HK := HK2; clear HK2; have x0 := HK.out.r0.c0; have x1 := HK.out.r0.c1; have y0 := HK.out.r1.c0; have y1 := HK.out.r1.c1; have z0 := HK.out.r2.c0; have z1 := HK.out.r2.c1; have f0 := HK.out.r2.f0; have f1 := HK.out.r2.f1))
      exact bodyPost_ret (v := .tuple #[.int .i64 0, P2 0 0, .int .i64 k]) (by simp [results, Tryd.results28, go_sem, HK.out.r2.s0, HK.out.r2.s1]) rfl ⟨ret_three (iv HV.out.1) (pv HV.out.2.1.1 HV.out.2.1.2) (iv HV.out.2.2), HK.out.set _ _⟩
  · obtain ⟨k, hkk⟩ : ∃ k, k = ckS r a b := ⟨_, rfl⟩
    have HC1 : Hid (∀ W, Calls Tryd.prog 15 #[.int .i64 r, P2 a b] W fun e w' => e = .returned (.int .i64 k) ∧ Below W.heap.size W w') := fun W => by rw [hkk]; exact check_any r a b W
    have HC2 : Hid True := trivial
    have HV : Hid (ftR r a b s c d = 0 ∧ (ft0 r a b s c d = 0 ∧ ft1 r a b s c d = 0) ∧ ftE r a b s c d = k) := by
      have e : ftE r a b s c d = k := by unfold ftE; rw [if_neg hk]; exact hkk.symm
      unfold Hid ftR ft0 ft1; rw [e]; rw [hkk, if_neg hk, if_neg hk, if_neg hk]; exact ⟨rfl, ⟨rfl, rfl⟩, rfl⟩
    rw [← hkk] at hk
    have k1 : (k != 0) = true := by simpa using hk
    have k2 : (k == 0) = false := by simpa using hk
    clear hk hs hkk
    go_enter Tryd.func28, Tryd.ntmps28
    go_wp2_with (first | (go_at_call 15; with_reducible refine (HC1.out _).mono ?_; rintro e w' ⟨rfl, hb⟩; have HK2 := Lib.hid (HK.out.next hb); clear HK hb x0 x1 y0 y1 z0 z1 f0 f1; have HK := HK2; clear HK2; have x0 := HK.out.r0.c0; have x1 := HK.out.r0.c1; have y0 := HK.out.r1.c0; have y1 := HK.out.r1.c1; have z0 := HK.out.r2.c0; have z1 := HK.out.r2.c1; have f0 := HK.out.r2.f0; have f1 := HK.out.r2.f1))
    exact bodyPost_ret (v := .tuple #[.int .i64 0, P2 0 0, .int .i64 k]) (by simp [results, Tryd.results28, go_sem, HK.out.r2.s0, HK.out.r2.s1]) rfl ⟨ret_three (iv HV.out.1) (pv HV.out.2.1.1 HV.out.2.1.2) (iv HV.out.2.2), HK.out.set _ _⟩
set_option maxHeartbeats 4000000 in
theorem rfits_any (r a b s c d : Int) (w : World) : Calls Tryd.prog 29 #[.int .i64 r, P2 a b, .int .i64 s, P2 c d] w fun e w' => e = .returned (.tuple #[.int .i64 (ftR r a b s c d), P2 (ft0 r a b s c d) (ft1 r a b s c d), .int .i64 (ftE r a b s c d)]) ∧ Below w.heap.size w w' := by
  have HK := Lib.hid (K3.new w a b c d 0 0)
  have x0 := HK.out.r0.c0; have x1 := HK.out.r0.c1; have y0 := HK.out.r1.c0; have y1 := HK.out.r1.c1; have z0 := HK.out.r2.c0; have z1 := HK.out.r2.c1; have f0 := HK.out.r2.f0; have f1 := HK.out.r2.f1
  rcases sh_dec r a b with ⟨hk, hs⟩ | ⟨hk, hs⟩
  · have HC1 : Hid (∀ W, Calls Tryd.prog 16 #[.int .i64 r, P2 a b] W fun e w' => e = .returned (.int .i64 0) ∧ Below W.heap.size W w') := fun W => by have := rcheck_any r a b W; rwa [hk] at this
    rcases sh_dec s c d with ⟨hl, ht⟩ | ⟨hl, ht⟩
    · have HC2 : Hid (∀ W, Calls Tryd.prog 16 #[.int .i64 s, P2 c d] W fun e w' => e = .returned (.int .i64 0) ∧ Below W.heap.size W w') := fun W => by have := rcheck_any s c d W; rwa [hl] at this
      have hr0 := hs.bd.1
      have hsb0 := ht.bd.1
      have HQ := fun W => eq2 a b c d W
      by_cases e1 : s = 0
      · by_cases e2 : r = 0
        · have e5 : a = c ∧ b = d := by
            cases hs <;> cases ht <;> first | exact ⟨rfl, rfl⟩ | omega
          have HV : Hid (ftR r a b s c d = r ∧ (ft0 r a b s c d = a ∧ ft1 r a b s c d = b) ∧ ftE r a b s c d = 0) := by
            have e : ftE r a b s c d = 0 := by unfold ftE; rw [if_pos hk, if_pos hl, if_pos (by omega)]
            unfold Hid ftR ft0 ft1; rw [e]; rw [if_pos e1, if_pos e1, if_pos e1]; exact ⟨rfl, ⟨rfl, rfl⟩, rfl⟩
          have b1 : (s == 0) = true := by simp; omega
          have b2 : (s != 0) = false := by simp; omega
          have b3 : (r == s) = true := by simp; omega
          have b4 : (r != s) = false := by simp; omega
          have b5 : decide (a = c ∧ b = d) = true := decide_eq_true e5
          have b6 : decide (s ≤ r) = true := by simp; omega
          clear hk hs hl ht hr0 hsb0 e1 e2 e5
          go_enter Tryd.func29, Tryd.ntmps29
          go_wp2_with (first | (go_at_call 16; with_reducible refine (HC1.out _).mono ?_; rintro e w' ⟨rfl, hb⟩; have HK2 := Lib.hid (HK.out.next hb); clear HK hb x0 x1 y0 y1 z0 z1 f0 f1; have HK := HK2; clear HK2; have x0 := HK.out.r0.c0; have x1 := HK.out.r0.c1; have y0 := HK.out.r1.c0; have y1 := HK.out.r1.c1; have z0 := HK.out.r2.c0; have z1 := HK.out.r2.c1; have f0 := HK.out.r2.f0; have f1 := HK.out.r2.f1) | (go_at_call 16; with_reducible refine (HC2.out _).mono ?_; rintro e w' ⟨rfl, hb⟩; have HK2 := Lib.hid (HK.out.next hb); clear HK hb x0 x1 y0 y1 z0 z1 f0 f1; have HK := HK2; clear HK2; have x0 := HK.out.r0.c0; have x1 := HK.out.r0.c1; have y0 := HK.out.r1.c0; have y1 := HK.out.r1.c1; have z0 := HK.out.r2.c0; have z1 := HK.out.r2.c1; have f0 := HK.out.r2.f0; have f1 := HK.out.r2.f1))
          go_region
          all_goals
            go_wp2
            exact bodyPost_ret (v := .tuple #[.int .i64 r, P2 a b, .int .i64 0]) (by simp [results, Tryd.results29, go_sem, HK.out.r2.s0, HK.out.r2.s1]) rfl ⟨ret_three (iv HV.out.1) (pv HV.out.2.1.1 HV.out.2.1.2) (iv HV.out.2.2), (HK.out.set _ _).drew⟩
        · have HV : Hid (ftR r a b s c d = r ∧ (ft0 r a b s c d = a ∧ ft1 r a b s c d = b) ∧ ftE r a b s c d = 0) := by
            have e : ftE r a b s c d = 0 := by unfold ftE; rw [if_pos hk, if_pos hl, if_pos (by omega)]
            unfold Hid ftR ft0 ft1; rw [e]; rw [if_pos e1, if_pos e1, if_pos e1]; exact ⟨rfl, ⟨rfl, rfl⟩, rfl⟩
          have b1 : (s == 0) = true := by simp; omega
          have b2 : (s != 0) = false := by simp; omega
          have b3 : (r == s) = false := by simp; omega
          have b4 : (r != s) = true := by simp; omega
          have b7 : (r != 0) = true := by simp; omega
          have b6 : decide (s ≤ r) = true := by simp; omega
          clear hk hs hl ht hr0 hsb0 e1 e2
          go_enter Tryd.func29, Tryd.ntmps29
          go_wp2_with (first | (go_at_call 16; with_reducible refine (HC1.out _).mono ?_; rintro e w' ⟨rfl, hb⟩; have HK2 := Lib.hid (HK.out.next hb); clear HK hb x0 x1 y0 y1 z0 z1 f0 f1; have HK := HK2; clear HK2; have x0 := HK.out.r0.c0; have x1 := HK.out.r0.c1; have y0 := HK.out.r1.c0; have y1 := HK.out.r1.c1; have z0 := HK.out.r2.c0; have z1 := HK.out.r2.c1; have f0 := HK.out.r2.f0; have f1 := HK.out.r2.f1) | (go_at_call 16; with_reducible refine (HC2.out _).mono ?_; rintro e w' ⟨rfl, hb⟩; have HK2 := Lib.hid (HK.out.next hb); clear HK hb x0 x1 y0 y1 z0 z1 f0 f1; have HK := HK2; clear HK2; have x0 := HK.out.r0.c0; have x1 := HK.out.r0.c1; have y0 := HK.out.r1.c0; have y1 := HK.out.r1.c1; have z0 := HK.out.r2.c0; have z1 := HK.out.r2.c1; have f0 := HK.out.r2.f0; have f1 := HK.out.r2.f1))
          go_region
          all_goals
            go_wp2
            exact bodyPost_ret (v := .tuple #[.int .i64 r, P2 a b, .int .i64 0]) (by simp [results, Tryd.results29, go_sem, HK.out.r2.s0, HK.out.r2.s1]) rfl ⟨ret_three (iv HV.out.1) (pv HV.out.2.1.1 HV.out.2.1.2) (iv HV.out.2.2), (HK.out.set _ _).drew⟩
      · by_cases e2 : r = 0
        · have HV : Hid (ftR r a b s c d = s ∧ (ft0 r a b s c d = c ∧ ft1 r a b s c d = d) ∧ ftE r a b s c d = 0) := by
            have e : ftE r a b s c d = 0 := by unfold ftE; rw [if_pos hk, if_pos hl, if_pos (by omega)]
            unfold Hid ftR ft0 ft1; rw [e]; rw [if_neg e1, if_neg e1, if_neg e1]; exact ⟨rfl, ⟨rfl, rfl⟩, rfl⟩
          have b1 : (s == 0) = false := by simp; omega
          have b2 : (s != 0) = true := by simp; omega
          have c1 : (r == 0) = true := by simp; omega
          have c2 : (r != 0) = false := by simp; omega
          have b3 : (r == s) = false := by simp; omega
          have b4 : (r != s) = true := by simp; omega
          have b6 : decide (s ≤ r) = false := by simp; omega
          clear hk hs hl ht hr0 hsb0 e1 e2
          go_enter Tryd.func29, Tryd.ntmps29
          go_wp2_with (first | (go_at_call 16; with_reducible refine (HC1.out _).mono ?_; rintro e w' ⟨rfl, hb⟩; have HK2 := Lib.hid (HK.out.next hb); clear HK hb x0 x1 y0 y1 z0 z1 f0 f1; have HK := HK2; clear HK2; have x0 := HK.out.r0.c0; have x1 := HK.out.r0.c1; have y0 := HK.out.r1.c0; have y1 := HK.out.r1.c1; have z0 := HK.out.r2.c0; have z1 := HK.out.r2.c1; have f0 := HK.out.r2.f0; have f1 := HK.out.r2.f1) | (go_at_call 16; with_reducible refine (HC2.out _).mono ?_; rintro e w' ⟨rfl, hb⟩; have HK2 := Lib.hid (HK.out.next hb); clear HK hb x0 x1 y0 y1 z0 z1 f0 f1; have HK := HK2; clear HK2; have x0 := HK.out.r0.c0; have x1 := HK.out.r0.c1; have y0 := HK.out.r1.c0; have y1 := HK.out.r1.c1; have z0 := HK.out.r2.c0; have z1 := HK.out.r2.c1; have f0 := HK.out.r2.f0; have f1 := HK.out.r2.f1))
          go_region
          all_goals
            go_wp2
            exact bodyPost_ret (v := .tuple #[.int .i64 s, P2 c d, .int .i64 0]) (by simp [results, Tryd.results29, go_sem, HK.out.r2.s0, HK.out.r2.s1]) rfl ⟨ret_three (iv HV.out.1) (pv HV.out.2.1.1 HV.out.2.1.2) (iv HV.out.2.2), (HK.out.set _ _).drew⟩
        · by_cases e3 : r = s
          · by_cases e4 : a = c ∧ b = d
            · have HV : Hid (ftR r a b s c d = r ∧ (ft0 r a b s c d = a ∧ ft1 r a b s c d = b) ∧ ftE r a b s c d = 0) := by
                have e : ftE r a b s c d = 0 := by unfold ftE; rw [if_pos hk, if_pos hl, if_neg (by omega), if_pos e3, if_pos e4]
                unfold Hid ftR ft0 ft1; rw [e]; rw [if_neg e1, if_neg e1, if_neg e1]; exact ⟨e3.symm, ⟨e4.1.symm, e4.2.symm⟩, rfl⟩
              have b1 : (s == 0) = false := by simp; omega
              have b2 : (s != 0) = true := by simp; omega
              have c1 : (r == 0) = false := by simp; omega
              have c2 : (r != 0) = true := by simp; omega
              have b3 : (r == s) = true := by simp; omega
              have b4 : (r != s) = false := by simp; omega
              have b5 : decide (a = c ∧ b = d) = true := decide_eq_true e4
              have b6 : decide (s ≤ r) = true := by simp; omega
              clear hk hs hl ht hr0 hsb0 e1 e2 e3 e4
              go_enter Tryd.func29, Tryd.ntmps29
              go_wp2_with (first | (go_at_call 16; with_reducible refine (HC1.out _).mono ?_; rintro e w' ⟨rfl, hb⟩; have HK2 := Lib.hid (HK.out.next hb); clear HK hb x0 x1 y0 y1 z0 z1 f0 f1; have HK := HK2; clear HK2; have x0 := HK.out.r0.c0; have x1 := HK.out.r0.c1; have y0 := HK.out.r1.c0; have y1 := HK.out.r1.c1; have z0 := HK.out.r2.c0; have z1 := HK.out.r2.c1; have f0 := HK.out.r2.f0; have f1 := HK.out.r2.f1) | (go_at_call 16; with_reducible refine (HC2.out _).mono ?_; rintro e w' ⟨rfl, hb⟩; have HK2 := Lib.hid (HK.out.next hb); clear HK hb x0 x1 y0 y1 z0 z1 f0 f1; have HK := HK2; clear HK2; have x0 := HK.out.r0.c0; have x1 := HK.out.r0.c1; have y0 := HK.out.r1.c0; have y1 := HK.out.r1.c1; have z0 := HK.out.r2.c0; have z1 := HK.out.r2.c1; have f0 := HK.out.r2.f0; have f1 := HK.out.r2.f1))
              go_region
              all_goals
                go_wp2
                exact bodyPost_ret (v := .tuple #[.int .i64 r, P2 a b, .int .i64 0]) (by simp [results, Tryd.results29, go_sem, HK.out.r2.s0, HK.out.r2.s1]) rfl ⟨ret_three (iv HV.out.1) (pv HV.out.2.1.1 HV.out.2.1.2) (iv HV.out.2.2), (HK.out.set _ _).drew⟩
            · have HV : Hid (ftR r a b s c d = 0 ∧ (ft0 r a b s c d = 0 ∧ ft1 r a b s c d = 0) ∧ ftE r a b s c d = 11) := by
                have e : ftE r a b s c d = 11 := by unfold ftE; rw [if_pos hk, if_pos hl, if_neg (by omega), if_pos e3, if_neg e4]
                unfold Hid ftR ft0 ft1; rw [e]; exact ⟨rfl, ⟨rfl, rfl⟩, rfl⟩
              have b1 : (s == 0) = false := by simp; omega
              have b2 : (s != 0) = true := by simp; omega
              have c1 : (r == 0) = false := by simp; omega
              have c2 : (r != 0) = true := by simp; omega
              have b3 : (r == s) = true := by simp; omega
              have b4 : (r != s) = false := by simp; omega
              have b5 : decide (a = c ∧ b = d) = false := decide_eq_false e4
              clear hk hs hl ht hr0 hsb0 e1 e2 e3 e4
              go_enter Tryd.func29, Tryd.ntmps29
              go_wp2_with (first | (go_at_call 16; with_reducible refine (HC1.out _).mono ?_; rintro e w' ⟨rfl, hb⟩; have HK2 := Lib.hid (HK.out.next hb); clear HK hb x0 x1 y0 y1 z0 z1 f0 f1; have HK := HK2; clear HK2; have x0 := HK.out.r0.c0; have x1 := HK.out.r0.c1; have y0 := HK.out.r1.c0; have y1 := HK.out.r1.c1; have z0 := HK.out.r2.c0; have z1 := HK.out.r2.c1; have f0 := HK.out.r2.f0; have f1 := HK.out.r2.f1) | (go_at_call 16; with_reducible refine (HC2.out _).mono ?_; rintro e w' ⟨rfl, hb⟩; have HK2 := Lib.hid (HK.out.next hb); clear HK hb x0 x1 y0 y1 z0 z1 f0 f1; have HK := HK2; clear HK2; have x0 := HK.out.r0.c0; have x1 := HK.out.r0.c1; have y0 := HK.out.r1.c0; have y1 := HK.out.r1.c1; have z0 := HK.out.r2.c0; have z1 := HK.out.r2.c1; have f0 := HK.out.r2.f0; have f1 := HK.out.r2.f1))
              exact bodyPost_ret (v := .tuple #[.int .i64 0, P2 0 0, .int .i64 11]) (by simp [results, Tryd.results29, go_sem, HK.out.r2.s0, HK.out.r2.s1]) rfl ⟨ret_three (iv HV.out.1) (pv HV.out.2.1.1 HV.out.2.1.2) (iv HV.out.2.2), HK.out.set _ _⟩
          · have HV : Hid (ftR r a b s c d = 0 ∧ (ft0 r a b s c d = 0 ∧ ft1 r a b s c d = 0) ∧ ftE r a b s c d = 6) := by
              have e : ftE r a b s c d = 6 := by unfold ftE; rw [if_pos hk, if_pos hl, if_neg (by omega), if_neg e3]
              unfold Hid ftR ft0 ft1; rw [e]; exact ⟨rfl, ⟨rfl, rfl⟩, rfl⟩
            have b1 : (s == 0) = false := by simp; omega
            have b2 : (s != 0) = true := by simp; omega
            have c1 : (r == 0) = false := by simp; omega
            have c2 : (r != 0) = true := by simp; omega
            have b3 : (r == s) = false := by simp; omega
            have b4 : (r != s) = true := by simp; omega
            clear hk hs hl ht hr0 hsb0 e1 e2 e3
            go_enter Tryd.func29, Tryd.ntmps29
            go_wp2_with (first | (go_at_call 16; with_reducible refine (HC1.out _).mono ?_; rintro e w' ⟨rfl, hb⟩; have HK2 := Lib.hid (HK.out.next hb); clear HK hb x0 x1 y0 y1 z0 z1 f0 f1; have HK := HK2; clear HK2; have x0 := HK.out.r0.c0; have x1 := HK.out.r0.c1; have y0 := HK.out.r1.c0; have y1 := HK.out.r1.c1; have z0 := HK.out.r2.c0; have z1 := HK.out.r2.c1; have f0 := HK.out.r2.f0; have f1 := HK.out.r2.f1) | (go_at_call 16; with_reducible refine (HC2.out _).mono ?_; rintro e w' ⟨rfl, hb⟩; have HK2 := Lib.hid (HK.out.next hb); clear HK hb x0 x1 y0 y1 z0 z1 f0 f1; have HK := HK2; clear HK2; have x0 := HK.out.r0.c0; have x1 := HK.out.r0.c1; have y0 := HK.out.r1.c0; have y1 := HK.out.r1.c1; have z0 := HK.out.r2.c0; have z1 := HK.out.r2.c1; have f0 := HK.out.r2.f0; have f1 := HK.out.r2.f1))
            exact bodyPost_ret (v := .tuple #[.int .i64 0, P2 0 0, .int .i64 6]) (by simp [results, Tryd.results29, go_sem, HK.out.r2.s0, HK.out.r2.s1]) rfl ⟨ret_three (iv HV.out.1) (pv HV.out.2.1.1 HV.out.2.1.2) (iv HV.out.2.2), HK.out.set _ _⟩
    · obtain ⟨k, hkk⟩ : ∃ k, k = ckS s c d := ⟨_, rfl⟩
      have HC2 : Hid (∀ W, Calls Tryd.prog 16 #[.int .i64 s, P2 c d] W fun e w' => e = .returned (.int .i64 k) ∧ Below W.heap.size W w') := fun W => by rw [hkk]; exact rcheck_any s c d W
      have HV : Hid (ftR r a b s c d = 0 ∧ (ft0 r a b s c d = 0 ∧ ft1 r a b s c d = 0) ∧ ftE r a b s c d = k) := by
        have e : ftE r a b s c d = k := by unfold ftE; rw [if_pos hk, if_neg hl]; exact hkk.symm
        unfold Hid ftR ft0 ft1; rw [e]; rw [hkk, if_neg hl, if_neg hl, if_neg hl]; exact ⟨rfl, ⟨rfl, rfl⟩, rfl⟩
      rw [← hkk] at hl
      have k1 : (k != 0) = true := by simpa using hl
      have k2 : (k == 0) = false := by simpa using hl
      clear hk hs hl ht hkk
      go_enter Tryd.func29, Tryd.ntmps29
      go_wp2_with (first | (go_at_call 16; with_reducible refine (HC1.out _).mono ?_; rintro e w' ⟨rfl, hb⟩; have HK2 := Lib.hid (HK.out.next hb); clear HK hb x0 x1 y0 y1 z0 z1 f0 f1; have HK := HK2; clear HK2; have x0 := HK.out.r0.c0; have x1 := HK.out.r0.c1; have y0 := HK.out.r1.c0; have y1 := HK.out.r1.c1; have z0 := HK.out.r2.c0; have z1 := HK.out.r2.c1; have f0 := HK.out.r2.f0; have f1 := HK.out.r2.f1) | (go_at_call 16; with_reducible refine (HC2.out _).mono ?_; rintro e w' ⟨rfl, hb⟩; have HK2 := Lib.hid (HK.out.next hb); clear HK hb x0 x1 y0 y1 z0 z1 f0 f1; have HK := HK2; clear HK2; have x0 := HK.out.r0.c0; have x1 := HK.out.r0.c1; have y0 := HK.out.r1.c0; have y1 := HK.out.r1.c1; have z0 := HK.out.r2.c0; have z1 := HK.out.r2.c1; have f0 := HK.out.r2.f0; have f1 := HK.out.r2.f1))
      exact bodyPost_ret (v := .tuple #[.int .i64 0, P2 0 0, .int .i64 k]) (by simp [results, Tryd.results29, go_sem, HK.out.r2.s0, HK.out.r2.s1]) rfl ⟨ret_three (iv HV.out.1) (pv HV.out.2.1.1 HV.out.2.1.2) (iv HV.out.2.2), HK.out.set _ _⟩
  · obtain ⟨k, hkk⟩ : ∃ k, k = ckS r a b := ⟨_, rfl⟩
    have HC1 : Hid (∀ W, Calls Tryd.prog 16 #[.int .i64 r, P2 a b] W fun e w' => e = .returned (.int .i64 k) ∧ Below W.heap.size W w') := fun W => by rw [hkk]; exact rcheck_any r a b W
    have HC2 : Hid True := trivial
    have HV : Hid (ftR r a b s c d = 0 ∧ (ft0 r a b s c d = 0 ∧ ft1 r a b s c d = 0) ∧ ftE r a b s c d = k) := by
      have e : ftE r a b s c d = k := by unfold ftE; rw [if_neg hk]; exact hkk.symm
      unfold Hid ftR ft0 ft1; rw [e]; rw [hkk, if_neg hk, if_neg hk, if_neg hk]; exact ⟨rfl, ⟨rfl, rfl⟩, rfl⟩
    rw [← hkk] at hk
    have k1 : (k != 0) = true := by simpa using hk
    have k2 : (k == 0) = false := by simpa using hk
    clear hk hs hkk
    go_enter Tryd.func29, Tryd.ntmps29
    go_wp2_with (first | (go_at_call 16; with_reducible refine (HC1.out _).mono ?_; rintro e w' ⟨rfl, hb⟩; have HK2 := Lib.hid (HK.out.next hb); clear HK hb x0 x1 y0 y1 z0 z1 f0 f1; have HK := HK2; clear HK2; have x0 := HK.out.r0.c0; have x1 := HK.out.r0.c1; have y0 := HK.out.r1.c0; have y1 := HK.out.r1.c1; have z0 := HK.out.r2.c0; have z1 := HK.out.r2.c1; have f0 := HK.out.r2.f0; have f1 := HK.out.r2.f1))
    exact bodyPost_ret (v := .tuple #[.int .i64 0, P2 0 0, .int .i64 k]) (by simp [results, Tryd.results29, go_sem, HK.out.r2.s0, HK.out.r2.s1]) rfl ⟨ret_three (iv HV.out.1) (pv HV.out.2.1.1 HV.out.2.1.2) (iv HV.out.2.2), HK.out.set _ _⟩
end Go.Proofs.YtnojidecfmpdjaaDoor
