/- Cells and Flip of shapes, of the code and of the reference. -/
import Derived.Test.YtnojidecfmpdjaaDoorShE
import Derived.Test.YtnojidecfmpdjaaDoorShF
namespace Go.Proofs.YtnojidecfmpdjaaDoor
open Go.RowKit

theorem iv {a b : Int} (h : a = b) : Value.int .i64 b = Value.int .i64 a := by rw [h]
theorem pv {a b c d : Int} (h : a = b) (k : c = d) : P2 b d = P2 a c := by rw [h, k]
theorem many_any {r a b : Int} (h : Sh r a b) (w : World) : Calls Tryd.prog 31 #[.int .i64 r, P2 a b] w fun e w' => e = .returned (.int .i64 (cn r a b)) ∧ Below w.heap.size w w' := by
  cases h with
  | s0 => exact many_0 0 0 w
  | s1 _ h0 h1 => exact many_1 _ 0 w h0 h1
  | s2 _ _ h0 h1 h2 h3 h4 => exact many_2 _ _ w h0 h1 (mul_bd _ _ h0 h1 h2 h3).1 (mul_bd _ _ h0 h1 h2 h3).2
set_option maxHeartbeats 2000000 in
theorem cells_any (r a b : Int) (w : World) : Calls Tryd.prog 11 #[.int .i64 r, P2 a b] w fun e w' => e = .returned (.tuple #[.int .i64 (cV r a b), .int .i64 (ckS r a b)]) ∧ Below w.heap.size w w' := by
  have HK := Lib.hid (K1.new w a b)
  have x0 := HK.out.r0.c0; have x1 := HK.out.r0.c1
  rcases sh_dec r a b with ⟨hk, hs⟩ | ⟨hk, hs⟩
  · obtain ⟨h0, h1, h2, h3, h4, h5, h6, h7⟩ := hs.bd
    have HE : Hid (ckS r a b = 0) := hk
    have HCk : Hid (∀ W, Calls Tryd.prog 15 #[.int .i64 r, P2 a b] W fun e w' => e = .returned (.int .i64 0) ∧ Below W.heap.size W w') := fun W => by have := check_any r a b W; rwa [hk] at this
    have HC : Hid (∀ W, Calls Tryd.prog 30 #[.int .i64 r, P2 a b] W fun e w' => e = .returned (.int .i64 (cn r a b)) ∧ Below W.heap.size W w') := fun W => count_any r a b W h0 h1 h2 (by omega)
    have HV : Hid (cV r a b = cn r a b) := by unfold Hid cV; rw [if_pos hk]
    clear hk hs
    go_enter Tryd.func11, Tryd.ntmps11
    go_wp2_with (first | (go_at_call 15; refine (HCk.out _).mono ?_; rintro e w' ⟨rfl, hb⟩; have HK2 := Lib.hid (HK.out.next hb); clear HK hb x0 x1; have HK := HK2; clear HK2; have x0 := HK.out.r0.c0; have x1 := HK.out.r0.c1) | (go_at_call 30; refine (HC.out _).mono ?_; rintro e w' ⟨rfl, hb⟩; have HK2 := Lib.hid (HK.out.next hb); clear HK hb x0 x1; have HK := HK2; clear HK2; have x0 := HK.out.r0.c0; have x1 := HK.out.r0.c1))
    go_ret2
    exact ⟨ret_two (iv HV.out) (iv HE.out), HK.out.bel⟩
  · obtain ⟨k, hkk⟩ : ∃ k, k = ckS r a b := ⟨_, rfl⟩
    have HCk : Hid (∀ W, Calls Tryd.prog 15 #[.int .i64 r, P2 a b] W fun e w' => e = .returned (.int .i64 k) ∧ Below W.heap.size W w') := fun W => by rw [hkk]; exact check_any r a b W
    have HV : Hid (cV r a b = 0) := by unfold Hid cV; rw [if_neg hk]
    rw [← hkk] at hk
    have HKK := Lib.hid hkk.symm
    have k1 : (k != 0) = true := by simpa using hk
    have k2 : (k == 0) = false := by simpa using hk
    clear hk hkk hs
    go_enter Tryd.func11, Tryd.ntmps11
    go_wp2_with (first | (go_at_call 15; refine (HCk.out _).mono ?_; rintro e w' ⟨rfl, hb⟩; have HK2 := Lib.hid (HK.out.next hb); clear HK hb x0 x1; have HK := HK2; clear HK2; have x0 := HK.out.r0.c0; have x1 := HK.out.r0.c1))
    go_ret2
    exact ⟨ret_two (iv HV.out) (iv HKK.out), HK.out.bel⟩
set_option maxHeartbeats 2000000 in
theorem flip_any (r a b : Int) (w : World) : Calls Tryd.prog 26 #[.int .i64 r, P2 a b] w fun e w' => e = .returned (.tuple #[P2 (fp0 r a b) (fp1 r a b), .int .i64 (fpE r a b)]) ∧ Below w.heap.size w w' := by
  have HK := Lib.hid (K2.new w a b 0 0)
  have x0 := HK.out.r0.c0; have x1 := HK.out.r0.c1; have z0 := HK.out.r1.c0; have z1 := HK.out.r1.c1; have f0 := HK.out.r1.f0; have f1 := HK.out.r1.f1
  rcases sh_dec r a b with ⟨hk, hs⟩ | ⟨hk, hs⟩
  · obtain ⟨h0, h1, h2, h3, h4, h5, h6, h7⟩ := hs.bd
    have HE : Hid (ckS r a b = 0) := hk
    have HCk : Hid (∀ W, Calls Tryd.prog 15 #[.int .i64 r, P2 a b] W fun e w' => e = .returned (.int .i64 0) ∧ Below W.heap.size W w') := fun W => by have := check_any r a b W; rwa [hk] at this
    by_cases hr : r = 2
    · have HV : Hid (fpE r a b = 0 ∧ fp0 r a b = b ∧ fp1 r a b = a) := by
        have e : fpE r a b = 0 := by unfold fpE; rw [if_pos hk, if_pos hr]
        unfold Hid fp0 fp1; rw [e]; exact ⟨rfl, rfl, rfl⟩
      have hr1 : (r != 2) = false := by simpa using hr
      have hr2 : (r == 2) = true := by simpa using hr
      clear hk hs hr
      go_enter Tryd.func26, Tryd.ntmps26
      go_wp2_with (first | (go_at_call 15; refine (HCk.out _).mono ?_; rintro e w' ⟨rfl, hb⟩; have HK2 := Lib.hid (HK.out.next hb); clear HK hb x0 x1 z0 z1 f0 f1; have HK := HK2; clear HK2; have x0 := HK.out.r0.c0; have x1 := HK.out.r0.c1; have z0 := HK.out.r1.c0; have z1 := HK.out.r1.c1; have f0 := HK.out.r1.f0; have f1 := HK.out.r1.f1))
      exact bodyPost_ret (v := .tuple #[P2 b a, .int .i64 0]) (by simp [results, Tryd.results26, go_sem, HK.out.r1.s0, HK.out.r1.s1]) rfl ⟨ret_two (pv HV.out.2.1 HV.out.2.2) (iv HV.out.1), (HK.out.bel.setCell (by simp) _).setCell (by simp) _⟩
    · have HV : Hid (fpE r a b = 6 ∧ fp0 r a b = 0 ∧ fp1 r a b = 0) := by
        have e : fpE r a b = 6 := by unfold fpE; rw [if_pos hk, if_neg hr]
        unfold Hid fp0 fp1; rw [e]; exact ⟨rfl, rfl, rfl⟩
      have hr1 : (r != 2) = true := by simpa using hr
      have hr2 : (r == 2) = false := by simpa using hr
      clear hk hs hr
      go_enter Tryd.func26, Tryd.ntmps26
      go_wp2_with (first | (go_at_call 15; refine (HCk.out _).mono ?_; rintro e w' ⟨rfl, hb⟩; have HK2 := Lib.hid (HK.out.next hb); clear HK hb x0 x1 z0 z1 f0 f1; have HK := HK2; clear HK2; have x0 := HK.out.r0.c0; have x1 := HK.out.r0.c1; have z0 := HK.out.r1.c0; have z1 := HK.out.r1.c1; have f0 := HK.out.r1.f0; have f1 := HK.out.r1.f1))
      exact bodyPost_ret (v := .tuple #[P2 0 0, .int .i64 6]) (by simp [results, Tryd.results26, go_sem, HK.out.r1.s0, HK.out.r1.s1]) rfl ⟨ret_two (pv HV.out.2.1 HV.out.2.2) (iv HV.out.1), (HK.out.bel.setCell (by simp) _).setCell (by simp) _⟩
  · obtain ⟨k, hkk⟩ : ∃ k, k = ckS r a b := ⟨_, rfl⟩
    have HCk : Hid (∀ W, Calls Tryd.prog 15 #[.int .i64 r, P2 a b] W fun e w' => e = .returned (.int .i64 k) ∧ Below W.heap.size W w') := fun W => by rw [hkk]; exact check_any r a b W
    have HV : Hid (fpE r a b = k ∧ fp0 r a b = 0 ∧ fp1 r a b = 0) := by
      have e : fpE r a b = k := by unfold fpE; rw [if_neg hk]; exact hkk.symm
      unfold Hid fp0 fp1; rw [e, hkk, if_neg hk]; exact ⟨rfl, rfl, if_neg hk⟩
    rw [← hkk] at hk
    have HKK := Lib.hid hkk.symm
    have k1 : (k != 0) = true := by simpa using hk
    have k2 : (k == 0) = false := by simpa using hk
    clear hk hkk hs
    go_enter Tryd.func26, Tryd.ntmps26
    go_wp2_with (first | (go_at_call 15; refine (HCk.out _).mono ?_; rintro e w' ⟨rfl, hb⟩; have HK2 := Lib.hid (HK.out.next hb); clear HK hb x0 x1 z0 z1 f0 f1; have HK := HK2; clear HK2; have x0 := HK.out.r0.c0; have x1 := HK.out.r0.c1; have z0 := HK.out.r1.c0; have z1 := HK.out.r1.c1; have f0 := HK.out.r1.f0; have f1 := HK.out.r1.f1))
    exact bodyPost_ret (v := .tuple #[P2 0 0, .int .i64 k]) (by simp [results, Tryd.results26, go_sem, HK.out.r1.s0, HK.out.r1.s1]) rfl ⟨ret_two (pv HV.out.2.1 HV.out.2.2) (iv HV.out.1), (HK.out.bel.setCell (by simp) _).setCell (by simp) _⟩
set_option maxHeartbeats 2000000 in
theorem rcells_any (r a b : Int) (w : World) : Calls Tryd.prog 12 #[.int .i64 r, P2 a b] w fun e w' => e = .returned (.tuple #[.int .i64 (cV r a b), .int .i64 (ckS r a b)]) ∧ Below w.heap.size w w' := by
  have HK := Lib.hid (K1.new w a b)
  have x0 := HK.out.r0.c0; have x1 := HK.out.r0.c1
  rcases sh_dec r a b with ⟨hk, hs⟩ | ⟨hk, hs⟩
  · obtain ⟨h0, h1, h2, h3, h4, h5, h6, h7⟩ := hs.bd
    have HE : Hid (ckS r a b = 0) := hk
    have HCk : Hid (∀ W, Calls Tryd.prog 16 #[.int .i64 r, P2 a b] W fun e w' => e = .returned (.int .i64 0) ∧ Below W.heap.size W w') := fun W => by have := rcheck_any r a b W; rwa [hk] at this
    have HC : Hid (∀ W, Calls Tryd.prog 31 #[.int .i64 r, P2 a b] W fun e w' => e = .returned (.int .i64 (cn r a b)) ∧ Below W.heap.size W w') := fun W => many_any hs W
    have HV : Hid (cV r a b = cn r a b) := by unfold Hid cV; rw [if_pos hk]
    clear hk hs
    go_enter Tryd.func12, Tryd.ntmps12
    go_wp2_with (first | (go_at_call 16; refine (HCk.out _).mono ?_; rintro e w' ⟨rfl, hb⟩; have HK2 := Lib.hid (HK.out.next hb); clear HK hb x0 x1; have HK := HK2; clear HK2; have x0 := HK.out.r0.c0; have x1 := HK.out.r0.c1) | (go_at_call 31; refine (HC.out _).mono ?_; rintro e w' ⟨rfl, hb⟩; have HK2 := Lib.hid (HK.out.next hb); clear HK hb x0 x1; have HK := HK2; clear HK2; have x0 := HK.out.r0.c0; have x1 := HK.out.r0.c1))
    go_ret2
    exact ⟨ret_two (iv HV.out) (iv HE.out), HK.out.bel⟩
  · obtain ⟨k, hkk⟩ : ∃ k, k = ckS r a b := ⟨_, rfl⟩
    have HCk : Hid (∀ W, Calls Tryd.prog 16 #[.int .i64 r, P2 a b] W fun e w' => e = .returned (.int .i64 k) ∧ Below W.heap.size W w') := fun W => by rw [hkk]; exact rcheck_any r a b W
    have HV : Hid (cV r a b = 0) := by unfold Hid cV; rw [if_neg hk]
    rw [← hkk] at hk
    have HKK := Lib.hid hkk.symm
    have k1 : (k != 0) = true := by simpa using hk
    have k2 : (k == 0) = false := by simpa using hk
    clear hk hkk hs
    go_enter Tryd.func12, Tryd.ntmps12
    go_wp2_with (first | (go_at_call 16; refine (HCk.out _).mono ?_; rintro e w' ⟨rfl, hb⟩; have HK2 := Lib.hid (HK.out.next hb); clear HK hb x0 x1; have HK := HK2; clear HK2; have x0 := HK.out.r0.c0; have x1 := HK.out.r0.c1))
    go_ret2
    exact ⟨ret_two (iv HV.out) (iv HKK.out), HK.out.bel⟩
set_option maxHeartbeats 2000000 in
theorem rflip_any (r a b : Int) (w : World) : Calls Tryd.prog 27 #[.int .i64 r, P2 a b] w fun e w' => e = .returned (.tuple #[P2 (fp0 r a b) (fp1 r a b), .int .i64 (fpE r a b)]) ∧ Below w.heap.size w w' := by
  have HK := Lib.hid (K2.new w a b 0 0)
  have x0 := HK.out.r0.c0; have x1 := HK.out.r0.c1; have z0 := HK.out.r1.c0; have z1 := HK.out.r1.c1; have f0 := HK.out.r1.f0; have f1 := HK.out.r1.f1
  rcases sh_dec r a b with ⟨hk, hs⟩ | ⟨hk, hs⟩
  · obtain ⟨h0, h1, h2, h3, h4, h5, h6, h7⟩ := hs.bd
    have HE : Hid (ckS r a b = 0) := hk
    have HCk : Hid (∀ W, Calls Tryd.prog 16 #[.int .i64 r, P2 a b] W fun e w' => e = .returned (.int .i64 0) ∧ Below W.heap.size W w') := fun W => by have := rcheck_any r a b W; rwa [hk] at this
    by_cases hr : r = 2
    · have HV : Hid (fpE r a b = 0 ∧ fp0 r a b = b ∧ fp1 r a b = a) := by
        have e : fpE r a b = 0 := by unfold fpE; rw [if_pos hk, if_pos hr]
        unfold Hid fp0 fp1; rw [e]; exact ⟨rfl, rfl, rfl⟩
      have hr1 : (r != 2) = false := by simpa using hr
      have hr2 : (r == 2) = true := by simpa using hr
      clear hk hs hr
      go_enter Tryd.func27, Tryd.ntmps27
      go_wp2_with (first | (go_at_call 16; refine (HCk.out _).mono ?_; rintro e w' ⟨rfl, hb⟩; have HK2 := Lib.hid (HK.out.next hb); clear HK hb x0 x1 z0 z1 f0 f1; have HK := HK2; clear HK2; have x0 := HK.out.r0.c0; have x1 := HK.out.r0.c1; have z0 := HK.out.r1.c0; have z1 := HK.out.r1.c1; have f0 := HK.out.r1.f0; have f1 := HK.out.r1.f1))
      exact bodyPost_ret (v := .tuple #[P2 b a, .int .i64 0]) (by simp [results, Tryd.results27, go_sem, HK.out.r1.s0, HK.out.r1.s1]) rfl ⟨ret_two (pv HV.out.2.1 HV.out.2.2) (iv HV.out.1), (HK.out.bel.setCell (by simp) _).setCell (by simp) _⟩
    · have HV : Hid (fpE r a b = 6 ∧ fp0 r a b = 0 ∧ fp1 r a b = 0) := by
        have e : fpE r a b = 6 := by unfold fpE; rw [if_pos hk, if_neg hr]
        unfold Hid fp0 fp1; rw [e]; exact ⟨rfl, rfl, rfl⟩
      have hr1 : (r != 2) = true := by simpa using hr
      have hr2 : (r == 2) = false := by simpa using hr
      clear hk hs hr
      go_enter Tryd.func27, Tryd.ntmps27
      go_wp2_with (first | (go_at_call 16; refine (HCk.out _).mono ?_; rintro e w' ⟨rfl, hb⟩; have HK2 := Lib.hid (HK.out.next hb); clear HK hb x0 x1 z0 z1 f0 f1; have HK := HK2; clear HK2; have x0 := HK.out.r0.c0; have x1 := HK.out.r0.c1; have z0 := HK.out.r1.c0; have z1 := HK.out.r1.c1; have f0 := HK.out.r1.f0; have f1 := HK.out.r1.f1))
      exact bodyPost_ret (v := .tuple #[P2 0 0, .int .i64 6]) (by simp [results, Tryd.results27, go_sem, HK.out.r1.s0, HK.out.r1.s1]) rfl ⟨ret_two (pv HV.out.2.1 HV.out.2.2) (iv HV.out.1), (HK.out.bel.setCell (by simp) _).setCell (by simp) _⟩
  · obtain ⟨k, hkk⟩ : ∃ k, k = ckS r a b := ⟨_, rfl⟩
    have HCk : Hid (∀ W, Calls Tryd.prog 16 #[.int .i64 r, P2 a b] W fun e w' => e = .returned (.int .i64 k) ∧ Below W.heap.size W w') := fun W => by rw [hkk]; exact rcheck_any r a b W
    have HV : Hid (fpE r a b = k ∧ fp0 r a b = 0 ∧ fp1 r a b = 0) := by
      have e : fpE r a b = k := by unfold fpE; rw [if_neg hk]; exact hkk.symm
      unfold Hid fp0 fp1; rw [e, hkk, if_neg hk]; exact ⟨rfl, rfl, if_neg hk⟩
    rw [← hkk] at hk
    have HKK := Lib.hid hkk.symm
    have k1 : (k != 0) = true := by simpa using hk
    have k2 : (k == 0) = false := by simpa using hk
    clear hk hkk hs
    go_enter Tryd.func27, Tryd.ntmps27
    go_wp2_with (first | (go_at_call 16; refine (HCk.out _).mono ?_; rintro e w' ⟨rfl, hb⟩; have HK2 := Lib.hid (HK.out.next hb); clear HK hb x0 x1 z0 z1 f0 f1; have HK := HK2; clear HK2; have x0 := HK.out.r0.c0; have x1 := HK.out.r0.c1; have z0 := HK.out.r1.c0; have z1 := HK.out.r1.c1; have f0 := HK.out.r1.f0; have f1 := HK.out.r1.f1))
    exact bodyPost_ret (v := .tuple #[P2 0 0, .int .i64 k]) (by simp [results, Tryd.results27, go_sem, HK.out.r1.s0, HK.out.r1.s1]) rfl ⟨ret_two (pv HV.out.2.1 HV.out.2.2) (iv HV.out.1), (HK.out.bel.setCell (by simp) _).setCell (by simp) _⟩
end Go.Proofs.YtnojidecfmpdjaaDoor
