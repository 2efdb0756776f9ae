/- isRank, isNegative, beyond, matrix, count, Check. -/
import Derived.Test.YtdbampgbbghfkaaDoorShA
import Derived.Outline
import Derived.ChangeKeysEq
import Derived.Deep.WholeRow
import Derived.Deep.LoopGhost
namespace Go.Proofs.YtdbampgbbghfkaaDoor
open Go.RowKit

theorem bkc {W w1 : World} (hb : Below W.heap.size W w1) : (∀ b o, b < W.heap.size → w1.cell? ⟨b, o, none⟩ = W.cell? ⟨b, o, none⟩) ∧ (∀ b o, b < W.heap.size → w1.frozen? ⟨b, o, none⟩ = W.frozen? ⟨b, o, none⟩) :=
  ⟨fun b o h => hb.cell (p := ⟨b, o, none⟩) h, fun b o h => hb.frozen (p := ⟨b, o, none⟩) h⟩
/-- Two numbers, as an array. -/
abbrev P2 (a b : Int) : Value := .agg #[.int .i64 a, .int .i64 b]

set_option maxHeartbeats 400000 in
theorem isRank_any (r : Int) (w : World) : Calls Tryd.prog 48 #[.int .i64 r] w fun e w' => e = .returned (.bool (decide (0 ≤ r ∧ r ≤ 2))) ∧ w = w' := by
  go_enter Tryd.func48, Tryd.ntmps48
  go_wp2
  all_goals (go_ret; exact ⟨ret_bool (by rw [Bool.eq_iff_iff]; simp; try omega), rfl⟩)

set_option maxHeartbeats 400000 in
theorem beyond_any (r a b : Int) (w : World) (h0 : 0 ≤ r) (h2 : r ≤ 2) : Calls Tryd.prog 62 #[.int .i64 r, P2 a b] w fun e w' => e = .returned (P2 (if 1 ≤ r then 0 else a) (if 2 ≤ r then 0 else b)) ∧ Below w.heap.size w w' := by
  have hr : r = 0 ∨ r = 1 ∨ r = 2 := by omega
  clear h0 h2
  rcases hr with rfl | rfl | rfl
  all_goals
    go_enter Tryd.func62, Tryd.ntmps62
    go_wp2
    exact bodyPost_ret (v := P2 _ _) (by simp [results, Tryd.results62, go_sem]) rfl ⟨rfl, (((Below.refl _ _).alloc (Nat.le_refl _) _).alloc (by simp) _)⟩

/-- The sides of the matrix that has the same places. -/
def mxa (r a : Int) : Int := if r = 0 then 1 else a
def mxb (r b : Int) : Int := if r ≤ 1 then 1 else b
theorem mx_cn (r a b : Int) (h0 : 0 ≤ r) : mxa r a * mxb r b = cn r a b := by
  unfold mxa mxb cn
  by_cases h : r = 0
  · rw [if_pos h, if_pos h, if_pos (by omega)]; rfl
  · rw [if_neg h, if_neg h]
    by_cases k : r = 1
    · rw [if_pos k, if_pos (by omega)]; omega
    · rw [if_neg k, if_neg (by omega)]

set_option maxHeartbeats 400000 in
theorem matrix_any (r a b : Int) (w : World) (h0 : 0 ≤ r) (h2 : r ≤ 2) : Calls Tryd.prog 65 #[.int .i64 r, P2 a b] w fun e w' => e = .returned (P2 (mxa r a) (mxb r b)) ∧ Below w.heap.size w w' := by
  have hr : r = 0 ∨ r = 1 ∨ r = 2 := by omega
  clear h0 h2
  rcases hr with rfl | rfl | rfl
  all_goals
    go_enter Tryd.func65, Tryd.ntmps65
    go_wp2
    exact bodyPost_ret (v := P2 _ _) (by simp [results, Tryd.results65, go_sem, mxa, mxb]) rfl ⟨rfl, (((Below.refl _ _).alloc (Nat.le_refl _) _).alloc (by simp) _)⟩

set_option maxHeartbeats 400000 in
theorem count_any (r a b : Int) (w : World) (h0 : 0 ≤ r) (h2 : r ≤ 2) (c0 : 0 ≤ cn r a b) (c1 : cn r a b ≤ 160000) : Calls Tryd.prog 55 #[.int .i64 r, P2 a b] w fun e w' => e = .returned (.int .i64 (cn r a b)) ∧ Below w.heap.size w w' := by
  have HE := Lib.hid (mx_cn r a b h0)
  obtain ⟨x, hx⟩ : ∃ x, x = mxa r a := ⟨_, rfl⟩
  obtain ⟨y, hy⟩ : ∃ y, y = mxb r b := ⟨_, rfl⟩
  have HM : Hid (∀ W, Calls Tryd.prog 65 #[.int .i64 r, P2 a b] W fun e w' => e = .returned (P2 x y) ∧ Below W.heap.size W w') := fun W => by rw [hx, hy]; exact matrix_any r a b W h0 h2
  have hw : IntKind.i64.wrap (x * y) = x * y := by rw [IntKind.wrap_i64, hx, hy, HE.out]; omega
  rw [← HE.out, ← hx, ← hy]
  clear c0 c1 HE hx hy
  go_enter Tryd.func55, Tryd.ntmps55
  go_wp2_with (go_at_call 65; refine (HM.out _).mono ?_; rintro e w' ⟨rfl, hb⟩)
  go_ret
  exact ⟨rfl, ((((Below.refl _ _).alloc (Nat.le_refl _) _).trans (hb.mono (by simp))).alloc (by have := hb.size; simp at this; omega) _)⟩

set_option maxHeartbeats 400000 in
theorem isNegative_any (bk cap : Nat) (zs : List Int) (w : World) (hz : zs.length ≤ 2) (hc : ∀ j (h : j < zs.length), w.cell? ⟨bk, j, none⟩ = some (.int .i64 zs[j])) :
    Calls Tryd.prog 61 #[.slice (some ⟨bk, 0, none⟩) zs.length cap] w fun e w' => e = .returned (.bool (zs.any (· < 0))) ∧ w = w' := by
  have HC := Lib.hid hc
  clear hc
  go_enter Tryd.func61, Tryd.ntmps61
  go_wp2
  go_loopg [7] zs.length (fun g i wr => wr = w ∧ ∃ k : Nat, k + g = zs.length ∧ i = .int .i64 k ∧ ∀ j (h : j < zs.length), j < k → 0 ≤ zs[j])
  case atStart => exact ⟨rfl, 0, by omega, rfl, fun j _ h => absurd h (by omega)⟩
  case round =>
    obtain ⟨rfl, k, hkg, rfl, hall⟩ := hrel
    have HA := Lib.hid hall
    clear hall
    cases gk with
    | zero =>
      have hkz : ¬ ((k : Int) < (zs.length : Int)) := by omega
      go_wp2
      go_ret
      refine ⟨ret_bool (Eq.symm ?_), rfl⟩
      rw [List.any_eq_false]
      intro x hx
      obtain ⟨j, hj, rfl⟩ := List.getElem_of_mem hx
      have := HA.out j hj (by omega)
      simp; omega
    | succ g =>
      have hkl : (k : Int) < (zs.length : Int) := by omega
      have hx := HC.out k (by omega)
      obtain ⟨x, hxe⟩ : ∃ x, x = zs[k] := ⟨_, rfl⟩
      rw [← hxe] at hx
      have HX := Lib.hid hxe
      clear hxe
      by_cases hn : x < 0
      · go_wp2
        go_ret
        refine ⟨ret_bool (Eq.symm ?_), rfl⟩
        rw [List.any_eq_true]
        exact ⟨x, by rw [HX.out]; exact List.getElem_mem _, by simpa using hn⟩
      · go_wp2
        go_roundg g
        case measure => omega
        case rel => exact ⟨rfl, k + 1, by omega, by go_num, fun j h hjk => by
          by_cases e : j = k
          · subst e; rw [← HX.out]; omega
          · exact HA.out j h (by omega)⟩
end Go.Proofs.YtdbampgbbghfkaaDoor
