/- Cells and Flip of shapes, of the code and of the reference. -/
import Derived.Test.YtdbampgbbghfkaaDoorShE
import Derived.Test.YtdbampgbbghfkaaDoorShF
namespace Go.Proofs.YtdbampgbbghfkaaDoor
open Go.RowKit

theorem iv {a b : Int} (h : a = b) : Value.int .i64 b = Value.int .i64 a := by rw [h]
theorem pv {a b c d : Int} (h : a = b) (k : c = d) : P2 b d = P2 a c := by rw [h, k]
theorem many_any {r a b : Int} (h : Sh r a b) (w : World) : Calls Tryd.prog 57 #[.int .i64 r, P2 a b] w fun e w' => e = .returned (.int .i64 (cn r a b)) ∧ Below w.heap.size w w' := by
  cases h with
  | s0 => exact many_0 0 0 w
  | s1 _ h0 h1 => exact many_1 _ 0 w h0 h1
  | s2 _ _ h0 h1 h2 h3 h4 => exact many_2 _ _ w h0 h1 (mul_bd _ _ h0 h1 h2 h3).1 (mul_bd _ _ h0 h1 h2 h3).2
set_option maxHeartbeats 2000000 in
theorem cells_any (r a b : Int) (w : World) : Calls Tryd.prog 34 #[.int .i64 r, P2 a b] w fun e w' => e = .returned (.tuple #[.int .i64 (cV r a b), .int .i64 (ckS r a b)]) ∧ Below w.heap.size w w' := by
  have HK := Lib.hid (K1.new w a b)
  have x0 := HK.out.r0.c0; have x1 := HK.out.r0.c1
  rcases sh_dec r a b with ⟨hk, hs⟩ | ⟨hk, hs⟩
  · obtain ⟨h0, h1, h2, h3, h4, h5, h6, h7⟩ := hs.bd
    have HE : Hid (ckS r a b = 0) := hk
    have HCk : Hid (∀ W, Calls Tryd.prog 49 #[.int .i64 r, P2 a b] W fun e w' => e = .returned (.int .i64 0) ∧ Below W.heap.size W w') := fun W => by have := check_any r a b W; rwa [hk] at this
    have HC : Hid (∀ W, Calls Tryd.prog 55 #[.int .i64 r, P2 a b] W fun e w' => e = .returned (.int .i64 (cn r a b)) ∧ Below W.heap.size W w') := fun W => count_any r a b W h0 h1 h2 (by omega)
    have HV : Hid (cV r a b = cn r a b) := by unfold Hid cV; rw [if_pos hk]
    clear hk hs
    go_enter Tryd.func34, Tryd.ntmps34
    go_wp2_with (first | (go_at_call 49; refine (HCk.out _).mono ?_; rintro e w' ⟨rfl, hb⟩; have HK2 := Lib.hid (HK.out.next hb); clear HK hb x0 x1; have HK := HK2; clear HK2; have x0 := HK.out.r0.c0; have x1 := HK.out.r0.c1) | (go_at_call 55; refine (HC.out _).mono ?_; rintro e w' ⟨rfl, hb⟩; have HK2 := Lib.hid (HK.out.next hb); clear HK hb x0 x1; have HK := HK2; clear HK2; have x0 := HK.out.r0.c0; have x1 := HK.out.r0.c1))
    go_ret2
    exact ⟨ret_two (iv HV.out) (iv HE.out), HK.out.bel⟩
  · obtain ⟨k, hkk⟩ : ∃ k, k = ckS r a b := ⟨_, rfl⟩
    have HCk : Hid (∀ W, Calls Tryd.prog 49 #[.int .i64 r, P2 a b] W fun e w' => e = .returned (.int .i64 k) ∧ Below W.heap.size W w') := fun W => by rw [hkk]; exact check_any r a b W
    have HV : Hid (cV r a b = 0) := by unfold Hid cV; rw [if_neg hk]
    rw [← hkk] at hk
    have HKK := Lib.hid hkk.symm
    have k1 : (k != 0) = true := by simpa using hk
    have k2 : (k == 0) = false := by simpa using hk
    clear hk hkk hs
    go_enter Tryd.func34, Tryd.ntmps34
    go_wp2_with (first | (go_at_call 49; refine (HCk.out _).mono ?_; rintro e w' ⟨rfl, hb⟩; have HK2 := Lib.hid (HK.out.next hb); clear HK hb x0 x1; have HK := HK2; clear HK2; have x0 := HK.out.r0.c0; have x1 := HK.out.r0.c1))
    go_ret2
    exact ⟨ret_two (iv HV.out) (iv HKK.out), HK.out.bel⟩
set_option maxHeartbeats 2000000 in
theorem rcells_any (r a b : Int) (w : World) : Calls Tryd.prog 37 #[.int .i64 r, P2 a b] w fun e w' => e = .returned (.tuple #[.int .i64 (cV r a b), .int .i64 (ckS r a b)]) ∧ Below w.heap.size w w' := by
  have HK := Lib.hid (K1.new w a b)
  have x0 := HK.out.r0.c0; have x1 := HK.out.r0.c1
  rcases sh_dec r a b with ⟨hk, hs⟩ | ⟨hk, hs⟩
  · obtain ⟨h0, h1, h2, h3, h4, h5, h6, h7⟩ := hs.bd
    have HE : Hid (ckS r a b = 0) := hk
    have HCk : Hid (∀ W, Calls Tryd.prog 56 #[.int .i64 r, P2 a b] W fun e w' => e = .returned (.int .i64 0) ∧ Below W.heap.size W w') := fun W => by have := rcheck_any r a b W; rwa [hk] at this
    have HC : Hid (∀ W, Calls Tryd.prog 57 #[.int .i64 r, P2 a b] W fun e w' => e = .returned (.int .i64 (cn r a b)) ∧ Below W.heap.size W w') := fun W => many_any hs W
    have HV : Hid (cV r a b = cn r a b) := by unfold Hid cV; rw [if_pos hk]
    clear hk hs
    go_enter Tryd.func37, Tryd.ntmps37
    go_wp2_with (first | (go_at_call 56; refine (HCk.out _).mono ?_; rintro e w' ⟨rfl, hb⟩; have HK2 := Lib.hid (HK.out.next hb); clear HK hb x0 x1; have HK := HK2; clear HK2; have x0 := HK.out.r0.c0; have x1 := HK.out.r0.c1) | (go_at_call 57; refine (HC.out _).mono ?_; rintro e w' ⟨rfl, hb⟩; have HK2 := Lib.hid (HK.out.next hb); clear HK hb x0 x1; have HK := HK2; clear HK2; have x0 := HK.out.r0.c0; have x1 := HK.out.r0.c1))
    go_ret2
    exact ⟨ret_two (iv HV.out) (iv HE.out), HK.out.bel⟩
  · obtain ⟨k, hkk⟩ : ∃ k, k = ckS r a b := ⟨_, rfl⟩
    have HCk : Hid (∀ W, Calls Tryd.prog 56 #[.int .i64 r, P2 a b] W fun e w' => e = .returned (.int .i64 k) ∧ Below W.heap.size W w') := fun W => by rw [hkk]; exact rcheck_any r a b W
    have HV : Hid (cV r a b = 0) := by unfold Hid cV; rw [if_neg hk]
    rw [← hkk] at hk
    have HKK := Lib.hid hkk.symm
    have k1 : (k != 0) = true := by simpa using hk
    have k2 : (k == 0) = false := by simpa using hk
    clear hk hkk hs
    go_enter Tryd.func37, Tryd.ntmps37
    go_wp2_with (first | (go_at_call 56; refine (HCk.out _).mono ?_; rintro e w' ⟨rfl, hb⟩; have HK2 := Lib.hid (HK.out.next hb); clear HK hb x0 x1; have HK := HK2; clear HK2; have x0 := HK.out.r0.c0; have x1 := HK.out.r0.c1))
    go_ret2
    exact ⟨ret_two (iv HV.out) (iv HKK.out), HK.out.bel⟩
end Go.Proofs.YtdbampgbbghfkaaDoor
