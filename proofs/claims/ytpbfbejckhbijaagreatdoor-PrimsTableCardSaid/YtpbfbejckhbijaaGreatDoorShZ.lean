/- Several texts as one (a claim has at most 60 files): ShA, ShB, ShC, ShE, ShF, ShG, ShH, ShI, ShL. -/
import Derived.Test.YtpbfbejckhbijaaGreatDoorWaA2
import Derived.Outline
import Derived.ChangeKeysEq
import Derived.Deep.WholeRow
import Derived.Deep.LoopGhost
import Derived.LoopN
import Derived.Deep.QuietTactic
import Derived.BigQuiet
import Derived.RegionTactic
import Derived.Lib.ItoaNum
import Derived.IntWalk
import Derived.Laws.CopyOwn
import Derived.Laws.IdiomCopy
namespace Go.Proofs.YtpbfbejckhbijaaGreatDoor
open Go.RowKit

/-- How many cells a shape has whose lengths are known. -/
def cn (r a b : Int) : Int := if r = 0 then 1 else if r = 1 then a else a * b
/-- The first fault of a shape. -/
def ckS (r a b : Int) : Int :=
  if r < 0 ∨ 2 < r ∨ (1 ≤ r ∧ a < 0) ∨ (2 ≤ r ∧ b < 0) then 7 else
  if (r = 0 ∧ a ≠ 0) ∨ (r ≤ 1 ∧ b ≠ 0) then 6 else
  if 400 < a ∨ 400 < b ∨ 400 < cn r a b then 15 else 0
/-- The shapes that there are. -/
inductive Sh : Int → Int → Int → Prop
  | s0 : Sh 0 0 0
  | s1 (a : Int) (h0 : 0 ≤ a) (h1 : a ≤ 400) : Sh 1 a 0
  | s2 (a b : Int) (h0 : 0 ≤ a) (h1 : a ≤ 400) (h2 : 0 ≤ b) (h3 : b ≤ 400) (h4 : a * b ≤ 400) : Sh 2 a b
theorem sh_ok {r a b : Int} (h : Sh r a b) : ckS r a b = 0 := by
  cases h with
  | s0 => decide
  | s1 h0 h1 => unfold ckS cn; rw [if_neg (by omega), if_neg (by omega), if_neg (by simp; omega)]
  | s2 h0 h1 h2 h3 h4 => unfold ckS cn; rw [if_neg (by omega), if_neg (by omega), if_neg (by simp; omega)]
theorem ok_sh {r a b : Int} (h : ckS r a b = 0) : Sh r a b := by
  unfold ckS at h
  split at h
  · exact absurd h (by decide)
  · split at h
    · exact absurd h (by decide)
    · split at h
      · exact absurd h (by decide)
      · rename_i h1 h2 h3
        have hr : r = 0 ∨ r = 1 ∨ r = 2 := by omega
        rcases hr with rfl | rfl | rfl
        · obtain rfl : a = 0 := by omega
          obtain rfl : b = 0 := by omega
          exact .s0
        · obtain rfl : b = 0 := by omega
          exact .s1 a (by omega) (by omega)
        · have h4 : ¬ 400 < a * b := fun k => h3 (.inr (.inr (by simpa [cn] using k)))
          exact .s2 a b (by omega) (by omega) (by omega) (by omega) (by omega)
theorem sh_dec (r a b : Int) : (ckS r a b = 0 ∧ Sh r a b) ∨ (ckS r a b ≠ 0 ∧ ¬ Sh r a b) := by
  by_cases h : ckS r a b = 0
  · exact .inl ⟨h, ok_sh h⟩
  · exact .inr ⟨h, fun k => h (sh_ok k)⟩
end Go.Proofs.YtpbfbejckhbijaaGreatDoor
namespace Go.Proofs.YtpbfbejckhbijaaGreatDoor
open Go.RowKit

theorem bkc {W w1 : World} (hb : Below W.heap.size W w1) : (∀ b o, b < W.heap.size → w1.cell? ⟨b, o, none⟩ = W.cell? ⟨b, o, none⟩) ∧ (∀ b o, b < W.heap.size → w1.frozen? ⟨b, o, none⟩ = W.frozen? ⟨b, o, none⟩) :=
  ⟨fun b o h => hb.cell (p := ⟨b, o, none⟩) h, fun b o h => hb.frozen (p := ⟨b, o, none⟩) h⟩
/-- Two numbers, as an array. -/
abbrev P2 (a b : Int) : Value := .agg #[.int .i64 a, .int .i64 b]

set_option maxHeartbeats 400000 in
theorem isRank_any (r : Int) (w : World) : Calls Tryz.prog 196 #[.int .i64 r] w fun e w' => e = .returned (.bool (decide (0 ≤ r ∧ r ≤ 2))) ∧ w = w' := by
  go_enter Tryz.func196, Tryz.ntmps196
  go_wp2
  all_goals (go_ret; exact ⟨ret_bool (by rw [Bool.eq_iff_iff]; simp; try omega), rfl⟩)

set_option maxHeartbeats 400000 in
theorem beyond_any (r a b : Int) (w : World) (h0 : 0 ≤ r) (h2 : r ≤ 2) : Calls Tryz.prog 198 #[.int .i64 r, P2 a b] w fun e w' => e = .returned (P2 (if 1 ≤ r then 0 else a) (if 2 ≤ r then 0 else b)) ∧ Below w.heap.size w w' := by
  have hr : r = 0 ∨ r = 1 ∨ r = 2 := by omega
  clear h0 h2
  rcases hr with rfl | rfl | rfl
  all_goals
    go_enter Tryz.func198, Tryz.ntmps198
    go_wp2
    exact bodyPost_ret (v := P2 _ _) (by simp [results, Tryz.results198, go_sem]) rfl ⟨rfl, (((Below.refl _ _).alloc (Nat.le_refl _) _).alloc (by simp) _)⟩

/-- The sides of the matrix that has the same places. -/
def mxa (r a : Int) : Int := if r = 0 then 1 else a
def mxb (r b : Int) : Int := if r ≤ 1 then 1 else b
theorem mx_cn (r a b : Int) (h0 : 0 ≤ r) : mxa r a * mxb r b = cn r a b := by
  unfold mxa mxb cn
  by_cases h : r = 0
  · rw [if_pos h, if_pos h, if_pos (by omega)]; rfl
  · rw [if_neg h, if_neg h]
    by_cases k : r = 1
    · rw [if_pos k, if_pos (by omega)]; omega
    · rw [if_neg k, if_neg (by omega)]

set_option maxHeartbeats 400000 in
theorem matrix_any (r a b : Int) (w : World) (h0 : 0 ≤ r) (h2 : r ≤ 2) : Calls Tryz.prog 199 #[.int .i64 r, P2 a b] w fun e w' => e = .returned (P2 (mxa r a) (mxb r b)) ∧ Below w.heap.size w w' := by
  have hr : r = 0 ∨ r = 1 ∨ r = 2 := by omega
  clear h0 h2
  rcases hr with rfl | rfl | rfl
  all_goals
    go_enter Tryz.func199, Tryz.ntmps199
    go_wp2
    exact bodyPost_ret (v := P2 _ _) (by simp [results, Tryz.results199, go_sem, mxa, mxb]) rfl ⟨rfl, (((Below.refl _ _).alloc (Nat.le_refl _) _).alloc (by simp) _)⟩

set_option maxHeartbeats 400000 in
theorem count_any (r a b : Int) (w : World) (h0 : 0 ≤ r) (h2 : r ≤ 2) (c0 : 0 ≤ cn r a b) (c1 : cn r a b ≤ 160000) : Calls Tryz.prog 181 #[.int .i64 r, P2 a b] w fun e w' => e = .returned (.int .i64 (cn r a b)) ∧ Below w.heap.size w w' := by
  have HE := Lib.hid (mx_cn r a b h0)
  obtain ⟨x, hx⟩ : ∃ x, x = mxa r a := ⟨_, rfl⟩
  obtain ⟨y, hy⟩ : ∃ y, y = mxb r b := ⟨_, rfl⟩
  have HM : Hid (∀ W, Calls Tryz.prog 199 #[.int .i64 r, P2 a b] W fun e w' => e = .returned (P2 x y) ∧ Below W.heap.size W w') := fun W => by rw [hx, hy]; exact matrix_any r a b W h0 h2
  have hw : IntKind.i64.wrap (x * y) = x * y := by rw [IntKind.wrap_i64, hx, hy, HE.out]; omega
  rw [← HE.out, ← hx, ← hy]
  clear c0 c1 HE hx hy
  go_enter Tryz.func181, Tryz.ntmps181
  go_wp2_with (go_at_call 199; refine (HM.out _).mono ?_; rintro e w' ⟨rfl, hb⟩)
  go_ret
  exact ⟨rfl, ((((Below.refl _ _).alloc (Nat.le_refl _) _).trans (hb.mono (by simp))).alloc (by have := hb.size; simp at this; omega) _)⟩

set_option maxHeartbeats 400000 in
theorem isNegative_any (bk cap : Nat) (zs : List Int) (w : World) (hz : zs.length ≤ 2) (hc : ∀ j (h : j < zs.length), w.cell? ⟨bk, j, none⟩ = some (.int .i64 zs[j])) :
    Calls Tryz.prog 197 #[.slice (some ⟨bk, 0, none⟩) zs.length cap] w fun e w' => e = .returned (.bool (zs.any (· < 0))) ∧ w = w' := by
  have HC := Lib.hid hc
  clear hc
  go_enter Tryz.func197, Tryz.ntmps197
  go_wp2
  go_loopg [7] zs.length (fun g i wr => wr = w ∧ ∃ k : Nat, k + g = zs.length ∧ i = .int .i64 k ∧ ∀ j (h : j < zs.length), j < k → 0 ≤ zs[j])
  case atStart => exact ⟨rfl, 0, by omega, rfl, fun j _ h => absurd h (by omega)⟩
  case round =>
    obtain ⟨rfl, k, hkg, rfl, hall⟩ := hrel
    have HA := Lib.hid hall
    clear hall
    cases gk with
    | zero =>
      have hkz : ¬ ((k : Int) < (zs.length : Int)) := by omega
      go_wp2
      go_ret
      refine ⟨ret_bool (Eq.symm ?_), rfl⟩
      rw [List.any_eq_false]
      intro x hx
      obtain ⟨j, hj, rfl⟩ := List.getElem_of_mem hx
      have := HA.out j hj (by omega)
      simp; omega
    | succ g =>
      have hkl : (k : Int) < (zs.length : Int) := by omega
      have hx := HC.out k (by omega)
      obtain ⟨x, hxe⟩ : ∃ x, x = zs[k] := ⟨_, rfl⟩
      rw [← hxe] at hx
      have HX := Lib.hid hxe
      clear hxe
      by_cases hn : x < 0
      · go_wp2
        go_ret
        refine ⟨ret_bool (Eq.symm ?_), rfl⟩
        rw [List.any_eq_true]
        exact ⟨x, by rw [HX.out]; exact List.getElem_mem _, by simpa using hn⟩
      · go_wp2
        go_roundg g
        case measure => omega
        case rel => exact ⟨rfl, k + 1, by omega, by go_num, fun j h hjk => by
          by_cases e : j = k
          · subst e; rw [← HX.out]; omega
          · exact HA.out j h (by omega)⟩
end Go.Proofs.YtpbfbejckhbijaaGreatDoor
namespace Go.Proofs.YtpbfbejckhbijaaGreatDoor
open Go.RowKit

theorem prt0 (a b : Int) (w : World) : (part 3 #[.int .i64 a, .int .i64 b] 0).run Tryz.prog w = .ok (.int .i64 a) w := by kernel_rfl
theorem prt1 (a b : Int) (w : World) : (part 3 #[.int .i64 a, .int .i64 b] 1).run Tryz.prog w = .ok (.int .i64 b) w := by kernel_rfl
theorem c3 : Tryz.prog.cellsOf 3 = 1 := by kernel_rfl
theorem eq2 (a b c d : Int) (w : World) : (Op.equalIn 10000 40 (P2 a b) (P2 c d)).run Tryz.prog w = .ok (decide (a = c ∧ b = d)) w := by
  obtain ⟨i0, hi⟩ : ∃ i, Tryz.prog.info? 3 = some i := by
    cases h : Tryz.prog.info? 3 with
    | none => exact absurd h (by decide +kernel)
    | some i => exact ⟨i, rfl⟩
  have h2 := run_equalIn_array (P := Tryz.prog) (w := w) 9999 (#[.int .i64 a, .int .i64 b]) (#[.int .i64 c, .int .i64 d]) Tryz.underlying40 hi
  refine h2.trans ?_
  have e1 := fun x y => run_equalIn_int (P := Tryz.prog) w 9998 3 .i64 .i64 x y Tryz.underlying3
  by_cases hac : a = c
  · subst hac
    simp [List.range, List.range.loop, Op.eqItems, Sem.run_bind, c3, prt0, prt1, e1, Result.andThen_ok]
    by_cases hbd : b = d <;> simp [hbd]
  · simp [List.range, List.range.loop, Op.eqItems, Sem.run_bind, c3, prt0, prt1, e1, Result.andThen_ok, hac]
/-- What a walk keeps: below w's size all is as it was, and two cells lie in the block behind it. -/
structure Kp (w : World) (x y : Value) (w' : World) : Prop where
  bel : Below w.heap.size w w'
  lt : w.heap.size < w'.heap.size
  x0 : w'.cell? ⟨w.heap.size, 0, none⟩ = some x
  x1 : w'.cell? ⟨w.heap.size, 1, none⟩ = some y
theorem Kp.new (w : World) (x y : Value) (t : TypeId) : Kp w x y (w.alloc (.cells #[x, y] t)) :=
  ⟨(Below.refl _ _).alloc (Nat.le_refl _) _, by simp, by simp [World.cell?_alloc_new], by simp [World.cell?_alloc_new]⟩
theorem Kp.next {w w' w'' : World} {x y : Value} (h : Kp w x y w') (hb : Below w'.heap.size w' w'') : Kp w x y w'' :=
  ⟨h.bel.trans (hb.mono (Nat.le_of_lt h.lt)), Nat.lt_of_lt_of_le h.lt hb.size, (hb.cell (p := ⟨w.heap.size, 0, none⟩) h.lt).trans h.x0, (hb.cell (p := ⟨w.heap.size, 1, none⟩) h.lt).trans h.x1⟩
theorem Kp.alloc {w w' : World} {x y : Value} (h : Kp w x y w') (o : Obj) : Kp w x y (w'.alloc o) := h.next ((Below.refl _ _).alloc (Nat.le_refl _) _)
theorem isNeg0 (bk : Nat) (w : World) : Calls Tryz.prog 197 #[.slice (some ⟨bk, 0, none⟩) 0 2] w fun e w' => e = .returned (.bool false) ∧ w = w' :=
  isNegative_any bk 2 [] w (by simp) (fun j h => absurd h (by simp))
theorem isNeg1 (bk : Nat) (a : Int) (w : World) (h : w.cell? ⟨bk, 0, none⟩ = some (.int .i64 a)) : Calls Tryz.prog 197 #[.slice (some ⟨bk, 0, none⟩) 1 2] w fun e w' => e = .returned (.bool (decide (a < 0))) ∧ w = w' :=
  (isNegative_any bk 2 [a] w (by simp) (fun j hj => by (obtain rfl : j = 0 := by simpa using hj); exact h)).mono fun e w' ⟨he, hw⟩ => ⟨he.trans (ret_bool (by simp)), hw⟩
theorem isNeg2 (bk : Nat) (a b : Int) (w : World) (h : w.cell? ⟨bk, 0, none⟩ = some (.int .i64 a)) (h1 : w.cell? ⟨bk, 1, none⟩ = some (.int .i64 b)) : Calls Tryz.prog 197 #[.slice (some ⟨bk, 0, none⟩) 2 2] w fun e w' => e = .returned (.bool (decide (a < 0) || decide (b < 0))) ∧ w = w' :=
  (isNegative_any bk 2 [a, b] w (by simp) (fun j hj => by
    match j, hj with
    | 0, _ => exact h
    | 1, _ => exact h1)).mono fun e w' ⟨he, hw⟩ => ⟨he.trans (ret_bool (by simp)), hw⟩

theorem mul_bd (a b : Int) (h0 : 0 ≤ a) (h1 : a ≤ 400) (h2 : 0 ≤ b) (h3 : b ≤ 400) : 0 ≤ a * b ∧ a * b ≤ 160000 :=
  ⟨Int.mul_nonneg h0 h2, Int.le_trans (Int.mul_le_mul h1 h3 h2 (by decide)) (by decide)⟩
theorem ret_i {a b : Int} (h : a = b) : Ending.returned (.int .i64 a) = .returned (.int .i64 b) := by rw [h]
set_option maxHeartbeats 1000000 in
theorem check_r (r a b : Int) (w : World) (h : r < 0 ∨ 2 < r) : Calls Tryz.prog 180 #[.int .i64 r, P2 a b] w fun e w' => e = .returned (.int .i64 (ckS r a b)) ∧ Below w.heap.size w w' := by
  have HE : Hid (ckS r a b = 7) := by unfold ckS; exact if_pos (by omega)
  rw [HE.out]
  have hd : decide (0 ≤ r ∧ r ≤ 2) = false := by simp; omega
  clear h
  go_enter Tryz.func180, Tryz.ntmps180
  go_wp2_with (go_at_call 196; refine (isRank_any r _).mono ?_; rintro e w' ⟨rfl, rfl⟩)
  go_ret
  exact ⟨rfl, (Below.refl _ _).alloc (Nat.le_refl _) _⟩
set_option maxHeartbeats 2000000 in
theorem check_0 (a b : Int) (w : World) : Calls Tryz.prog 180 #[.int .i64 0, P2 a b] w fun e w' => e = .returned (.int .i64 (ckS 0 a b)) ∧ Below w.heap.size w w' := by
  have HQ := fun x y W => eq2 x y 0 0 W
  have HK := Lib.hid (Kp.new w (.int .i64 a) (.int .i64 b) 40)
  have x0 := HK.out.x0
  have x1 := HK.out.x1
  by_cases h : a = 0 ∧ b = 0
  · obtain ⟨rfl, rfl⟩ := h
    have HE : Hid (ckS 0 0 0 = 0) := by unfold Hid; decide
    have HC : Hid (∀ W, Calls Tryz.prog 181 #[.int .i64 0, P2 0 0] W fun e w' => e = .returned (.int .i64 (cn 0 0 0)) ∧ Below W.heap.size W w') := fun W => count_any 0 0 0 W (by decide) (by decide) (by unfold cn; simp; try omega) (by unfold cn; simp; try omega)
    have hcn : cn 0 0 0 = 1 := by decide
    go_enter Tryz.func180, Tryz.ntmps180
    go_wp2_with (first
      | (go_at_call 196; refine (isRank_any _ _).mono ?_; rintro e w' ⟨rfl, rfl⟩)
      | (go_at_call 197; refine (isNeg0 _ _).mono ?_; rintro e w' ⟨rfl, rfl⟩)
      | (go_at_call 198; refine (beyond_any _ _ _ _ (by decide) (by decide)).mono ?_; rintro e w' ⟨rfl, hb⟩; have HK2 := Lib.hid (HK.out.next hb); clear HK hb x0 x1; have HK := HK2; clear HK2; have x0 := HK.out.x0; have x1 := HK.out.x1)
      | (go_at_call 181; refine (HC.out _).mono ?_; rintro e w' ⟨rfl, hb⟩; have HK2 := Lib.hid (HK.out.next hb); clear HK hb x0 x1; have HK := HK2; clear HK2; have x0 := HK.out.x0; have x1 := HK.out.x1))
    go_ret
    exact ⟨ret_i HE.out.symm, HK.out.bel⟩
  · have HE : Hid (ckS 0 a b = 6) := by unfold Hid ckS; rw [if_neg (by omega), if_pos (by omega)]
    have hd : decide (a = 0 ∧ b = 0) = false := by simpa using h
    have HC : Hid True := trivial
    clear h
    go_enter Tryz.func180, Tryz.ntmps180
    go_wp2_with (first
      | (go_at_call 196; refine (isRank_any _ _).mono ?_; rintro e w' ⟨rfl, rfl⟩)
      | (go_at_call 197; refine (isNeg0 _ _).mono ?_; rintro e w' ⟨rfl, rfl⟩)
      | (go_at_call 198; refine (beyond_any _ _ _ _ (by decide) (by decide)).mono ?_; rintro e w' ⟨rfl, hb⟩; have HK2 := Lib.hid (HK.out.next hb); clear HK hb x0 x1; have HK := HK2; clear HK2; have x0 := HK.out.x0; have x1 := HK.out.x1)
      | (go_at_call 181; refine (HC.out _).mono ?_; rintro e w' ⟨rfl, hb⟩; have HK2 := Lib.hid (HK.out.next hb); clear HK hb x0 x1; have HK := HK2; clear HK2; have x0 := HK.out.x0; have x1 := HK.out.x1))
    go_ret
    exact ⟨ret_i HE.out.symm, HK.out.bel⟩
set_option maxHeartbeats 2000000 in
theorem check_1 (a b : Int) (w : World) : Calls Tryz.prog 180 #[.int .i64 1, P2 a b] w fun e w' => e = .returned (.int .i64 (ckS 1 a b)) ∧ Below w.heap.size w w' := by
  have HQ := fun x y W => eq2 x y 0 0 W
  have HK := Lib.hid (Kp.new w (.int .i64 a) (.int .i64 b) 40)
  have x0 := HK.out.x0
  have x1 := HK.out.x1
  by_cases ha : a < 0
  · have HE : Hid (ckS 1 a b = 7) := by unfold Hid ckS; rw [if_pos (by omega)]
    have hd : decide (a < 0) = true := by simpa using ha
    have HC : Hid True := trivial
    go_enter Tryz.func180, Tryz.ntmps180
    go_wp2_with (first
      | (go_at_call 196; refine (isRank_any _ _).mono ?_; rintro e w' ⟨rfl, rfl⟩)
      | (go_at_call 197; refine (isNeg1 _ _ _ x0).mono ?_; rintro e w' ⟨rfl, rfl⟩)
      | (go_at_call 198; refine (beyond_any _ _ _ _ (by decide) (by decide)).mono ?_; rintro e w' ⟨rfl, hb⟩; have HK2 := Lib.hid (HK.out.next hb); clear HK hb x0 x1; have HK := HK2; clear HK2; have x0 := HK.out.x0; have x1 := HK.out.x1)
      | (go_at_call 181; refine (HC.out _).mono ?_; rintro e w' ⟨rfl, hb⟩; have HK2 := Lib.hid (HK.out.next hb); clear HK hb x0 x1; have HK := HK2; clear HK2; have x0 := HK.out.x0; have x1 := HK.out.x1))
    go_ret
    exact ⟨ret_i HE.out.symm, HK.out.bel⟩
  · have hd : decide (a < 0) = false := by simpa using ha
    by_cases hb0 : b = 0
    · subst hb0
      by_cases hl : 400 < a
      · have HE : Hid (ckS 1 a 0 = 15) := by unfold Hid ckS; rw [if_neg (by omega), if_neg (by omega), if_pos (by omega)]
        have HC : Hid True := trivial
        go_enter Tryz.func180, Tryz.ntmps180
        go_wp2_with (first
          | (go_at_call 196; refine (isRank_any _ _).mono ?_; rintro e w' ⟨rfl, rfl⟩)
          | (go_at_call 197; refine (isNeg1 _ _ _ x0).mono ?_; rintro e w' ⟨rfl, rfl⟩)
          | (go_at_call 198; refine (beyond_any _ _ _ _ (by decide) (by decide)).mono ?_; rintro e w' ⟨rfl, hb⟩; have HK2 := Lib.hid (HK.out.next hb); clear HK hb x0 x1; have HK := HK2; clear HK2; have x0 := HK.out.x0; have x1 := HK.out.x1)
          | (go_at_call 181; refine (HC.out _).mono ?_; rintro e w' ⟨rfl, hb⟩; have HK2 := Lib.hid (HK.out.next hb); clear HK hb x0 x1; have HK := HK2; clear HK2; have x0 := HK.out.x0; have x1 := HK.out.x1))
        go_ret
        exact ⟨ret_i HE.out.symm, HK.out.bel⟩
      · have HE : Hid (ckS 1 a 0 = 0) := by unfold Hid; exact sh_ok (.s1 a (by omega) (by omega))
        have HC : Hid (∀ W, Calls Tryz.prog 181 #[.int .i64 1, P2 a 0] W fun e w' => e = .returned (.int .i64 (cn 1 a 0)) ∧ Below W.heap.size W w') := fun W => count_any 1 a 0 W (by decide) (by decide) (by unfold cn; simp; try omega) (by unfold cn; simp; try omega)
        have hcn : cn 1 a 0 = a := by unfold cn; simp
        go_enter Tryz.func180, Tryz.ntmps180
        go_wp2_with (first
          | (go_at_call 196; refine (isRank_any _ _).mono ?_; rintro e w' ⟨rfl, rfl⟩)
          | (go_at_call 197; refine (isNeg1 _ _ _ x0).mono ?_; rintro e w' ⟨rfl, rfl⟩)
          | (go_at_call 198; refine (beyond_any _ _ _ _ (by decide) (by decide)).mono ?_; rintro e w' ⟨rfl, hb⟩; have HK2 := Lib.hid (HK.out.next hb); clear HK hb x0 x1; have HK := HK2; clear HK2; have x0 := HK.out.x0; have x1 := HK.out.x1)
          | (go_at_call 181; refine (HC.out _).mono ?_; rintro e w' ⟨rfl, hb⟩; have HK2 := Lib.hid (HK.out.next hb); clear HK hb x0 x1; have HK := HK2; clear HK2; have x0 := HK.out.x0; have x1 := HK.out.x1))
        go_ret
        exact ⟨ret_i HE.out.symm, HK.out.bel⟩
    · have HE : Hid (ckS 1 a b = 6) := by unfold Hid ckS; rw [if_neg (by omega), if_pos (by omega)]
      have hd2 : decide (b = 0) = false := by simpa using hb0
      have HC : Hid True := trivial
      clear hb0
      go_enter Tryz.func180, Tryz.ntmps180
      go_wp2_with (first
        | (go_at_call 196; refine (isRank_any _ _).mono ?_; rintro e w' ⟨rfl, rfl⟩)
        | (go_at_call 197; refine (isNeg1 _ _ _ x0).mono ?_; rintro e w' ⟨rfl, rfl⟩)
        | (go_at_call 198; refine (beyond_any _ _ _ _ (by decide) (by decide)).mono ?_; rintro e w' ⟨rfl, hb⟩; have HK2 := Lib.hid (HK.out.next hb); clear HK hb x0 x1; have HK := HK2; clear HK2; have x0 := HK.out.x0; have x1 := HK.out.x1)
        | (go_at_call 181; refine (HC.out _).mono ?_; rintro e w' ⟨rfl, hb⟩; have HK2 := Lib.hid (HK.out.next hb); clear HK hb x0 x1; have HK := HK2; clear HK2; have x0 := HK.out.x0; have x1 := HK.out.x1))
      go_ret
      exact ⟨ret_i HE.out.symm, HK.out.bel⟩
set_option maxHeartbeats 2000000 in
theorem check_2 (a b : Int) (w : World) : Calls Tryz.prog 180 #[.int .i64 2, P2 a b] w fun e w' => e = .returned (.int .i64 (ckS 2 a b)) ∧ Below w.heap.size w w' := by
  have HQ := fun x y W => eq2 x y 0 0 W
  have HK := Lib.hid (Kp.new w (.int .i64 a) (.int .i64 b) 40)
  have x0 := HK.out.x0
  have x1 := HK.out.x1
  by_cases ha : a < 0
  · have HE : Hid (ckS 2 a b = 7) := by unfold Hid ckS; rw [if_pos (by omega)]
    have hd : decide (a < 0) = true := by simpa using ha
    have HC : Hid True := trivial
    go_enter Tryz.func180, Tryz.ntmps180
    go_wp2_with (first
      | (go_at_call 196; refine (isRank_any _ _).mono ?_; rintro e w' ⟨rfl, rfl⟩)
      | (go_at_call 197; refine (isNeg2 _ _ _ _ x0 x1).mono ?_; rintro e w' ⟨rfl, rfl⟩)
      | (go_at_call 198; refine (beyond_any _ _ _ _ (by decide) (by decide)).mono ?_; rintro e w' ⟨rfl, hb⟩; have HK2 := Lib.hid (HK.out.next hb); clear HK hb x0 x1; have HK := HK2; clear HK2; have x0 := HK.out.x0; have x1 := HK.out.x1)
      | (go_at_call 181; refine (HC.out _).mono ?_; rintro e w' ⟨rfl, hb⟩; have HK2 := Lib.hid (HK.out.next hb); clear HK hb x0 x1; have HK := HK2; clear HK2; have x0 := HK.out.x0; have x1 := HK.out.x1))
    go_ret
    exact ⟨ret_i HE.out.symm, HK.out.bel⟩
  · have hd : decide (a < 0) = false := by simpa using ha
    by_cases hb1 : b < 0
    · have HE : Hid (ckS 2 a b = 7) := by unfold Hid ckS; rw [if_pos (by omega)]
      have hd2 : decide (b < 0) = true := by simpa using hb1
      have HC : Hid True := trivial
      go_enter Tryz.func180, Tryz.ntmps180
      go_wp2_with (first
        | (go_at_call 196; refine (isRank_any _ _).mono ?_; rintro e w' ⟨rfl, rfl⟩)
        | (go_at_call 197; refine (isNeg2 _ _ _ _ x0 x1).mono ?_; rintro e w' ⟨rfl, rfl⟩)
        | (go_at_call 198; refine (beyond_any _ _ _ _ (by decide) (by decide)).mono ?_; rintro e w' ⟨rfl, hb⟩; have HK2 := Lib.hid (HK.out.next hb); clear HK hb x0 x1; have HK := HK2; clear HK2; have x0 := HK.out.x0; have x1 := HK.out.x1)
        | (go_at_call 181; refine (HC.out _).mono ?_; rintro e w' ⟨rfl, hb⟩; have HK2 := Lib.hid (HK.out.next hb); clear HK hb x0 x1; have HK := HK2; clear HK2; have x0 := HK.out.x0; have x1 := HK.out.x1))
      go_ret
      exact ⟨ret_i HE.out.symm, HK.out.bel⟩
    · have hd2 : decide (b < 0) = false := by simpa using hb1
      by_cases hl : 400 < a
      · have HE : Hid (ckS 2 a b = 15) := by unfold Hid ckS; rw [if_neg (by omega), if_neg (by omega), if_pos (by omega)]
        have HC : Hid True := trivial
        go_enter Tryz.func180, Tryz.ntmps180
        go_wp2_with (first
          | (go_at_call 196; refine (isRank_any _ _).mono ?_; rintro e w' ⟨rfl, rfl⟩)
          | (go_at_call 197; refine (isNeg2 _ _ _ _ x0 x1).mono ?_; rintro e w' ⟨rfl, rfl⟩)
          | (go_at_call 198; refine (beyond_any _ _ _ _ (by decide) (by decide)).mono ?_; rintro e w' ⟨rfl, hb⟩; have HK2 := Lib.hid (HK.out.next hb); clear HK hb x0 x1; have HK := HK2; clear HK2; have x0 := HK.out.x0; have x1 := HK.out.x1)
          | (go_at_call 181; refine (HC.out _).mono ?_; rintro e w' ⟨rfl, hb⟩; have HK2 := Lib.hid (HK.out.next hb); clear HK hb x0 x1; have HK := HK2; clear HK2; have x0 := HK.out.x0; have x1 := HK.out.x1))
        go_ret
        exact ⟨ret_i HE.out.symm, HK.out.bel⟩
      · by_cases hl2 : 400 < b
        · have HE : Hid (ckS 2 a b = 15) := by unfold Hid ckS; rw [if_neg (by omega), if_neg (by omega), if_pos (by omega)]
          have HC : Hid True := trivial
          go_enter Tryz.func180, Tryz.ntmps180
          go_wp2_with (first
            | (go_at_call 196; refine (isRank_any _ _).mono ?_; rintro e w' ⟨rfl, rfl⟩)
            | (go_at_call 197; refine (isNeg2 _ _ _ _ x0 x1).mono ?_; rintro e w' ⟨rfl, rfl⟩)
            | (go_at_call 198; refine (beyond_any _ _ _ _ (by decide) (by decide)).mono ?_; rintro e w' ⟨rfl, hb⟩; have HK2 := Lib.hid (HK.out.next hb); clear HK hb x0 x1; have HK := HK2; clear HK2; have x0 := HK.out.x0; have x1 := HK.out.x1)
            | (go_at_call 181; refine (HC.out _).mono ?_; rintro e w' ⟨rfl, hb⟩; have HK2 := Lib.hid (HK.out.next hb); clear HK hb x0 x1; have HK := HK2; clear HK2; have x0 := HK.out.x0; have x1 := HK.out.x1))
          go_ret
          exact ⟨ret_i HE.out.symm, HK.out.bel⟩
        · obtain ⟨m0, m1⟩ := mul_bd a b (by omega) (by omega) (by omega) (by omega)
          have hcn : cn 2 a b = a * b := by unfold cn; simp
          have HC : Hid (∀ W, Calls Tryz.prog 181 #[.int .i64 2, P2 a b] W fun e w' => e = .returned (.int .i64 (a * b)) ∧ Below W.heap.size W w') := fun W => by rw [← hcn]; exact count_any 2 a b W (by decide) (by decide) (by rw [hcn]; exact m0) (by rw [hcn]; exact m1)
          by_cases hp : 400 < a * b
          · have HE : Hid (ckS 2 a b = 15) := by unfold Hid ckS; rw [if_neg (by omega), if_neg (by omega), if_pos (.inr (.inr (by rw [hcn]; exact hp)))]
            clear hcn
            go_enter Tryz.func180, Tryz.ntmps180
            go_wp2_with (first
              | (go_at_call 196; refine (isRank_any _ _).mono ?_; rintro e w' ⟨rfl, rfl⟩)
              | (go_at_call 197; refine (isNeg2 _ _ _ _ x0 x1).mono ?_; rintro e w' ⟨rfl, rfl⟩)
              | (go_at_call 198; refine (beyond_any _ _ _ _ (by decide) (by decide)).mono ?_; rintro e w' ⟨rfl, hb⟩; have HK2 := Lib.hid (HK.out.next hb); clear HK hb x0 x1; have HK := HK2; clear HK2; have x0 := HK.out.x0; have x1 := HK.out.x1)
              | (go_at_call 181; refine (HC.out _).mono ?_; rintro e w' ⟨rfl, hb⟩; have HK2 := Lib.hid (HK.out.next hb); clear HK hb x0 x1; have HK := HK2; clear HK2; have x0 := HK.out.x0; have x1 := HK.out.x1))
            go_ret
            exact ⟨ret_i HE.out.symm, HK.out.bel⟩
          · have HE : Hid (ckS 2 a b = 0) := by unfold Hid; exact sh_ok (.s2 a b (by omega) (by omega) (by omega) (by omega) (by omega))
            clear hcn
            go_enter Tryz.func180, Tryz.ntmps180
            go_wp2_with (first
              | (go_at_call 196; refine (isRank_any _ _).mono ?_; rintro e w' ⟨rfl, rfl⟩)
              | (go_at_call 197; refine (isNeg2 _ _ _ _ x0 x1).mono ?_; rintro e w' ⟨rfl, rfl⟩)
              | (go_at_call 198; refine (beyond_any _ _ _ _ (by decide) (by decide)).mono ?_; rintro e w' ⟨rfl, hb⟩; have HK2 := Lib.hid (HK.out.next hb); clear HK hb x0 x1; have HK := HK2; clear HK2; have x0 := HK.out.x0; have x1 := HK.out.x1)
              | (go_at_call 181; refine (HC.out _).mono ?_; rintro e w' ⟨rfl, hb⟩; have HK2 := Lib.hid (HK.out.next hb); clear HK hb x0 x1; have HK := HK2; clear HK2; have x0 := HK.out.x0; have x1 := HK.out.x1))
            go_ret
            exact ⟨ret_i HE.out.symm, HK.out.bel⟩

theorem check_any (r a b : Int) (w : World) : Calls Tryz.prog 180 #[.int .i64 r, P2 a b] w fun e w' => e = .returned (.int .i64 (ckS r a b)) ∧ Below w.heap.size w w' := by
  by_cases h : r < 0 ∨ 2 < r
  · exact check_r r a b w h
  · have hr : r = 0 ∨ r = 1 ∨ r = 2 := by omega
    rcases hr with rfl | rfl | rfl
    · exact check_0 a b w
    · exact check_1 a b w
    · exact check_2 a b w
end Go.Proofs.YtpbfbejckhbijaaGreatDoor
namespace Go.Proofs.YtpbfbejckhbijaaGreatDoor
open Go.RowKit

set_option maxHeartbeats 1000000 in
theorem many_0 (a b : Int) (w : World) : Calls Tryz.prog 102 #[.int .i64 0, P2 a b] w fun e w' => e = .returned (.int .i64 (cn 0 a b)) ∧ Below w.heap.size w w' := by
  have HE : Hid (cn 0 a b = 1) := by unfold Hid cn; simp
  rw [HE.out]
  have HK := Lib.hid (Kp.new w (.int .i64 a) (.int .i64 b) 40)
  have x0 := HK.out.x0
  have x1 := HK.out.x1
  go_enter Tryz.func102, Tryz.ntmps102
  go_wp2
  refine wp_loop_rounds 4 ?_
  rw [rounds_succ]
  go_wp2
  go_ret
  exact ⟨ret_i (by omega), HK.out.bel⟩
set_option maxHeartbeats 1000000 in
theorem many_1 (a b : Int) (w : World) (h0 : 0 ≤ a) (h1 : a ≤ 400) : Calls Tryz.prog 102 #[.int .i64 1, P2 a b] w fun e w' => e = .returned (.int .i64 (cn 1 a b)) ∧ Below w.heap.size w w' := by
  have HE : Hid (cn 1 a b = a) := by unfold Hid cn; simp
  rw [HE.out]
  have HK := Lib.hid (Kp.new w (.int .i64 a) (.int .i64 b) 40)
  have x0 := HK.out.x0
  have x1 := HK.out.x1
  go_enter Tryz.func102, Tryz.ntmps102
  go_wp2
  refine wp_loop_rounds 4 ?_
  rw [rounds_succ]
  go_wp2
  rw [rounds_succ]
  go_wp2
  go_ret
  exact ⟨ret_i (by omega), HK.out.bel⟩
set_option maxHeartbeats 1000000 in
theorem many_2 (a b : Int) (w : World) (h0 : 0 ≤ a) (h1 : a ≤ 400) (m0 : 0 ≤ a * b) (m1 : a * b ≤ 160000) : Calls Tryz.prog 102 #[.int .i64 2, P2 a b] w fun e w' => e = .returned (.int .i64 (cn 2 a b)) ∧ Below w.heap.size w w' := by
  have HE : Hid (cn 2 a b = a * b) := by unfold Hid cn; simp
  rw [HE.out]
  have HK := Lib.hid (Kp.new w (.int .i64 a) (.int .i64 b) 40)
  have x0 := HK.out.x0
  have x1 := HK.out.x1
  go_enter Tryz.func102, Tryz.ntmps102
  go_wp2
  refine wp_loop_rounds 4 ?_
  rw [rounds_succ]
  go_wp2
  rw [rounds_succ]
  go_wp2
  rw [rounds_succ]
  go_wp2
  go_ret
  exact ⟨ret_i (by omega), HK.out.bel⟩
set_option maxHeartbeats 1000000 in
theorem rcheck_r (r a b : Int) (w : World) (h : r < 0 ∨ 2 < r) : Calls Tryz.prog 101 #[.int .i64 r, P2 a b] w fun e w' => e = .returned (.int .i64 (ckS r a b)) ∧ Below w.heap.size w w' := by
  have HE : Hid (ckS r a b = 7) := by unfold ckS; exact if_pos (by omega)
  rw [HE.out]
  rcases h with h | h
  all_goals
    go_enter Tryz.func101, Tryz.ntmps101
    go_wp2
    go_ret
    exact ⟨rfl, (Below.refl _ _).alloc (Nat.le_refl _) _⟩
set_option maxHeartbeats 2000000 in
theorem rcheck_0 (a b : Int) (w : World) : Calls Tryz.prog 101 #[.int .i64 0, P2 a b] w fun e w' => e = .returned (.int .i64 (ckS 0 a b)) ∧ Below w.heap.size w w' := by
  have HK := Lib.hid (Kp.new w (.int .i64 a) (.int .i64 b) 40)
  have x0 := HK.out.x0
  have x1 := HK.out.x1
  by_cases ha : a = 0
  · subst ha
    by_cases hb0 : b = 0
    · subst hb0
      have HE : Hid (ckS 0 0 0 = 0) := by unfold Hid; decide
      have hcn : cn 0 0 0 = 1 := by decide
      have HC : Hid (∀ W, Calls Tryz.prog 102 #[.int .i64 0, P2 0 0] W fun e w' => e = .returned (.int .i64 (cn 0 0 0)) ∧ Below W.heap.size W w') := fun W => many_0 0 0 W
      go_enter Tryz.func101, Tryz.ntmps101
      go_wp2
      refine wp_loop_rounds 4 ?_
      rw [rounds_succ]
      go_wp2
      refine wp_loop_rounds 4 ?_
      rw [rounds_succ]
      go_wp2
      rw [rounds_succ]
      go_wp2
      rw [rounds_succ]
      go_wp2_with (go_at_call 102; refine (HC.out _).mono ?_; rintro e w' ⟨rfl, hb⟩; have HK2 := Lib.hid (HK.out.next hb); clear HK hb x0 x1; have HK := HK2; clear HK2; have x0 := HK.out.x0; have x1 := HK.out.x1)
      go_ret
      exact ⟨ret_i HE.out.symm, HK.out.bel⟩
    · have HE : Hid (ckS 0 0 b = 6) := by unfold Hid ckS; rw [if_neg (by omega), if_pos (by omega)]
      have HC : Hid True := trivial
      go_enter Tryz.func101, Tryz.ntmps101
      go_wp2
      refine wp_loop_rounds 4 ?_
      rw [rounds_succ]
      go_wp2
      refine wp_loop_rounds 4 ?_
      rw [rounds_succ]
      go_wp2
      rw [rounds_succ]
      go_wp2
      go_ret
      exact ⟨ret_i HE.out.symm, HK.out.bel⟩
  · have HE : Hid (ckS 0 a b = 6) := by unfold Hid ckS; rw [if_neg (by omega), if_pos (by omega)]
    go_enter Tryz.func101, Tryz.ntmps101
    go_wp2
    refine wp_loop_rounds 4 ?_
    rw [rounds_succ]
    go_wp2
    refine wp_loop_rounds 4 ?_
    rw [rounds_succ]
    go_wp2
    go_ret
    exact ⟨ret_i HE.out.symm, HK.out.bel⟩
set_option maxHeartbeats 2000000 in
theorem rcheck_1 (a b : Int) (w : World) : Calls Tryz.prog 101 #[.int .i64 1, P2 a b] w fun e w' => e = .returned (.int .i64 (ckS 1 a b)) ∧ Below w.heap.size w w' := by
  have HK := Lib.hid (Kp.new w (.int .i64 a) (.int .i64 b) 40)
  have x0 := HK.out.x0
  have x1 := HK.out.x1
  by_cases ha : a < 0
  · have HE : Hid (ckS 1 a b = 7) := by unfold Hid ckS; rw [if_pos (by omega)]
    go_enter Tryz.func101, Tryz.ntmps101
    go_wp2
    refine wp_loop_rounds 4 ?_
    rw [rounds_succ]
    go_wp2
    go_ret
    exact ⟨ret_i HE.out.symm, HK.out.bel⟩
  · by_cases hb0 : b = 0
    · subst hb0
      by_cases hl : 400 < a
      · have HE : Hid (ckS 1 a 0 = 15) := by unfold Hid ckS; rw [if_neg (by omega), if_neg (by omega), if_pos (by omega)]
        go_enter Tryz.func101, Tryz.ntmps101
        go_wp2
        refine wp_loop_rounds 4 ?_
        rw [rounds_succ]
        go_wp2
        rw [rounds_succ]
        go_wp2
        refine wp_loop_rounds 4 ?_
        rw [rounds_succ]
        go_wp2
        rw [rounds_succ]
        go_wp2
        go_ret
        exact ⟨ret_i HE.out.symm, HK.out.bel⟩
      · have HE : Hid (ckS 1 a 0 = 0) := by unfold Hid; exact sh_ok (.s1 a (by omega) (by omega))
        have hcn : cn 1 a 0 = a := by unfold cn; simp
        have HC : Hid (∀ W, Calls Tryz.prog 102 #[.int .i64 1, P2 a 0] W fun e w' => e = .returned (.int .i64 (cn 1 a 0)) ∧ Below W.heap.size W w') := fun W => many_1 a 0 W (by omega) (by omega)
        go_enter Tryz.func101, Tryz.ntmps101
        go_wp2
        refine wp_loop_rounds 4 ?_
        rw [rounds_succ]
        go_wp2
        rw [rounds_succ]
        go_wp2
        refine wp_loop_rounds 4 ?_
        rw [rounds_succ]
        go_wp2
        rw [rounds_succ]
        go_wp2_with (go_at_call 102; refine (HC.out _).mono ?_; rintro e w' ⟨rfl, hb⟩; have HK2 := Lib.hid (HK.out.next hb); clear HK hb x0 x1; have HK := HK2; clear HK2; have x0 := HK.out.x0; have x1 := HK.out.x1)
        go_ret
        exact ⟨ret_i HE.out.symm, HK.out.bel⟩
    · have HE : Hid (ckS 1 a b = 6) := by unfold Hid ckS; rw [if_neg (by omega), if_pos (by omega)]
      go_enter Tryz.func101, Tryz.ntmps101
      go_wp2
      refine wp_loop_rounds 4 ?_
      rw [rounds_succ]
      go_wp2
      rw [rounds_succ]
      go_wp2
      refine wp_loop_rounds 4 ?_
      rw [rounds_succ]
      go_wp2
      go_ret
      exact ⟨ret_i HE.out.symm, HK.out.bel⟩
set_option maxHeartbeats 2000000 in
theorem rcheck_2 (a b : Int) (w : World) : Calls Tryz.prog 101 #[.int .i64 2, P2 a b] w fun e w' => e = .returned (.int .i64 (ckS 2 a b)) ∧ Below w.heap.size w w' := by
  have HK := Lib.hid (Kp.new w (.int .i64 a) (.int .i64 b) 40)
  have x0 := HK.out.x0
  have x1 := HK.out.x1
  by_cases ha : a < 0
  · have HE : Hid (ckS 2 a b = 7) := by unfold Hid ckS; rw [if_pos (by omega)]
    go_enter Tryz.func101, Tryz.ntmps101
    go_wp2
    refine wp_loop_rounds 4 ?_
    rw [rounds_succ]
    go_wp2
    go_ret
    exact ⟨ret_i HE.out.symm, HK.out.bel⟩
  · by_cases hb1 : b < 0
    · have HE : Hid (ckS 2 a b = 7) := by unfold Hid ckS; rw [if_pos (by omega)]
      go_enter Tryz.func101, Tryz.ntmps101
      go_wp2
      refine wp_loop_rounds 4 ?_
      rw [rounds_succ]
      go_wp2
      rw [rounds_succ]
      go_wp2
      go_ret
      exact ⟨ret_i HE.out.symm, HK.out.bel⟩
    · by_cases hl : 400 < a
      · have HE : Hid (ckS 2 a b = 15) := by unfold Hid ckS; rw [if_neg (by omega), if_neg (by omega), if_pos (by omega)]
        go_enter Tryz.func101, Tryz.ntmps101
        go_wp2
        refine wp_loop_rounds 4 ?_
        rw [rounds_succ]
        go_wp2
        rw [rounds_succ]
        go_wp2
        rw [rounds_succ]
        go_wp2
        refine wp_loop_rounds 4 ?_
        rw [rounds_succ]
        go_wp2
        go_ret
        exact ⟨ret_i HE.out.symm, HK.out.bel⟩
      · by_cases hl2 : 400 < b
        · have HE : Hid (ckS 2 a b = 15) := by unfold Hid ckS; rw [if_neg (by omega), if_neg (by omega), if_pos (by omega)]
          go_enter Tryz.func101, Tryz.ntmps101
          go_wp2
          refine wp_loop_rounds 4 ?_
          rw [rounds_succ]
          go_wp2
          rw [rounds_succ]
          go_wp2
          rw [rounds_succ]
          go_wp2
          refine wp_loop_rounds 4 ?_
          rw [rounds_succ]
          go_wp2
          go_ret
          exact ⟨ret_i HE.out.symm, HK.out.bel⟩
        · obtain ⟨m0, m1⟩ := mul_bd a b (by omega) (by omega) (by omega) (by omega)
          have hcn : cn 2 a b = a * b := by unfold cn; simp
          have HC : Hid (∀ W, Calls Tryz.prog 102 #[.int .i64 2, P2 a b] W fun e w' => e = .returned (.int .i64 (a * b)) ∧ Below W.heap.size W w') := fun W => by rw [← hcn]; exact many_2 a b W (by omega) (by omega) m0 m1
          by_cases hp : 400 < a * b
          · have HE : Hid (ckS 2 a b = 15) := by unfold Hid ckS; rw [if_neg (by omega), if_neg (by omega), if_pos (.inr (.inr (by rw [hcn]; exact hp)))]
            clear hcn
            go_enter Tryz.func101, Tryz.ntmps101
            go_wp2
            refine wp_loop_rounds 4 ?_
            rw [rounds_succ]
            go_wp2
            rw [rounds_succ]
            go_wp2
            rw [rounds_succ]
            go_wp2
            refine wp_loop_rounds 4 ?_
            rw [rounds_succ]
            go_wp2_with (go_at_call 102; refine (HC.out _).mono ?_; rintro e w' ⟨rfl, hb⟩; have HK2 := Lib.hid (HK.out.next hb); clear HK hb x0 x1; have HK := HK2; clear HK2; have x0 := HK.out.x0; have x1 := HK.out.x1)
            go_ret
            exact ⟨ret_i HE.out.symm, HK.out.bel⟩
          · have HE : Hid (ckS 2 a b = 0) := by unfold Hid; exact sh_ok (.s2 a b (by omega) (by omega) (by omega) (by omega) (by omega))
            clear hcn
            go_enter Tryz.func101, Tryz.ntmps101
            go_wp2
            refine wp_loop_rounds 4 ?_
            rw [rounds_succ]
            go_wp2
            rw [rounds_succ]
            go_wp2
            rw [rounds_succ]
            go_wp2
            refine wp_loop_rounds 4 ?_
            rw [rounds_succ]
            go_wp2_with (go_at_call 102; refine (HC.out _).mono ?_; rintro e w' ⟨rfl, hb⟩; have HK2 := Lib.hid (HK.out.next hb); clear HK hb x0 x1; have HK := HK2; clear HK2; have x0 := HK.out.x0; have x1 := HK.out.x1)
            go_ret
            exact ⟨ret_i HE.out.symm, HK.out.bel⟩

theorem rcheck_any (r a b : Int) (w : World) : Calls Tryz.prog 101 #[.int .i64 r, P2 a b] w fun e w' => e = .returned (.int .i64 (ckS r a b)) ∧ Below w.heap.size w w' := by
  by_cases h : r < 0 ∨ 2 < r
  · exact rcheck_r r a b w h
  · have hr : r = 0 ∨ r = 1 ∨ r = 2 := by omega
    rcases hr with rfl | rfl | rfl
    · exact rcheck_0 a b w
    · exact rcheck_1 a b w
    · exact rcheck_2 a b w
end Go.Proofs.YtpbfbejckhbijaaGreatDoor
namespace Go.Proofs.YtpbfbejckhbijaaGreatDoor
open Go.RowKit

def cV (r a b : Int) : Int := if ckS r a b = 0 then cn r a b else 0
def plE (r a b p q : Int) : Int := if ckS r a b = 0 then (if 0 ≤ p ∧ p < mxa r a ∧ 0 ≤ q ∧ q < mxb r b then 0 else 4) else ckS r a b
def plV (r a b p q : Int) : Int := if plE r a b p q = 0 then p * mxb r b + q else 0
def ixE (r a b n : Int) : Int := if ckS r a b = 0 then (if 0 ≤ n ∧ n < cn r a b then 0 else 4) else ckS r a b
def ix0 (r a b n : Int) : Int := if ixE r a b n = 0 then n / mxb r b else 0
def ix1 (r a b n : Int) : Int := if ixE r a b n = 0 then n % mxb r b else 0
def rw0 (r a b : Int) : Int := if ckS r a b = 0 then (if r = 2 then a else 1) else 0
def rw1 (r a b : Int) : Int := if ckS r a b = 0 then (if r = 2 then b else cn r a b) else 0
def fpE (r a b : Int) : Int := if ckS r a b = 0 then (if r = 2 then 0 else 6) else ckS r a b
def fp0 (r a b : Int) : Int := if fpE r a b = 0 then b else 0
def fp1 (r a b : Int) : Int := if fpE r a b = 0 then a else 0
def ftE (r a b s c d : Int) : Int := if ckS r a b = 0 then (if ckS s c d = 0 then (if s = 0 ∨ r = 0 then 0 else if r = s then (if a = c ∧ b = d then 0 else 11) else 6) else ckS s c d) else ckS r a b
def ftR (r a b s c d : Int) : Int := if ftE r a b s c d = 0 then (if s = 0 then r else s) else 0
def ft0 (r a b s c d : Int) : Int := if ftE r a b s c d = 0 then (if s = 0 then a else c) else 0
def ft1 (r a b s c d : Int) : Int := if ftE r a b s c d = 0 then (if s = 0 then b else d) else 0
def lnE (r : Int) (l : List Int) : Int := if r < 0 ∨ 2 < r then 7 else if (l.length : Int) = r then ckS r (l.getD 0 0) (l.getD 1 0) else 6
def ln0 (r : Int) (l : List Int) : Int := if lnE r l = 0 then l.getD 0 0 else 0
def ln1 (r : Int) (l : List Int) : Int := if lnE r l = 0 then l.getD 1 0 else 0
def prV (r a b : Int) : List UInt8 := if ckS r a b = 0 then (if r = 0 then [115, 99, 97, 108, 97, 114] else if r = 1 then Lib.itoa a else Lib.itoa a ++ ([120] ++ Lib.itoa b)) else []

theorem Sh.bd {r a b : Int} (h : Sh r a b) : 0 ≤ r ∧ r ≤ 2 ∧ 0 ≤ cn r a b ∧ cn r a b ≤ 400 ∧ 0 ≤ a ∧ a ≤ 400 ∧ 0 ≤ b ∧ b ≤ 400 := by
  cases h with
  | s0 => decide
  | s1 h0 h1 => unfold cn; simp; omega
  | s2 _ _ h0 h1 h2 h3 h4 => unfold cn; simp; exact ⟨Int.mul_nonneg h0 h2, h4, h0, h1, h2, h3⟩
theorem Sh.mx {r a b : Int} (h : Sh r a b) : 0 ≤ mxa r a ∧ mxa r a ≤ 400 ∧ 0 ≤ mxb r b ∧ mxb r b ≤ 400 ∧ mxa r a * mxb r b ≤ 400 := by
  obtain ⟨h0, h1, h2, h3, h4⟩ := h.bd
  refine ⟨?_, ?_, ?_, ?_, by rw [mx_cn r a b h0]; exact h3⟩ <;> (first | unfold mxa | unfold mxb) <;> (try split) <;> omega

/-- A block of two numbers. -/
def R2 (w : World) (b : Nat) (x y : Int) : Prop := w.heap[b]? = some (.cells #[.int .i64 x, .int .i64 y] 40 (0, 0))
theorem R2.c0 {w : World} {b : Nat} {x y : Int} (h : R2 w b x y) : w.cell? ⟨b, 0, none⟩ = some (.int .i64 x) := by unfold R2 at h; simp [World.cell?, h]
theorem R2.c1 {w : World} {b : Nat} {x y : Int} (h : R2 w b x y) : w.cell? ⟨b, 1, none⟩ = some (.int .i64 y) := by unfold R2 at h; simp [World.cell?, h]
theorem R2.f0 {w : World} {b : Nat} {x y : Int} (h : R2 w b x y) : w.frozen? ⟨b, 0, none⟩ = false := by unfold R2 at h; simp [World.frozen?, h]
theorem R2.f1 {w : World} {b : Nat} {x y : Int} (h : R2 w b x y) : w.frozen? ⟨b, 1, none⟩ = false := by unfold R2 at h; simp [World.frozen?, h]
theorem R2.lt {w : World} {b : Nat} {x y : Int} (h : R2 w b x y) : b < w.heap.size := by
  unfold R2 at h
  exact (Array.getElem?_eq_some_iff.1 h).1
theorem R2.next {w w' : World} {b : Nat} {x y : Int} (h : R2 w b x y) (hb : Below w.heap.size w w') : R2 w' b x y := (hb.block b h.lt).trans h
theorem R2.s0 {w : World} {b : Nat} {x y : Int} (h : R2 w b x y) (u : Value) : (w.setCell ⟨b, 0, none⟩ u).cell? ⟨b, 0, none⟩ = some u := by
  have := heap_setCell_same w b 0 _ _ u h
  simp [World.cell?, this]
theorem R2.s1 {w : World} {b : Nat} {x y : Int} (h : R2 w b x y) (u v : Value) : ((w.setCell ⟨b, 0, none⟩ u).setCell ⟨b, 1, none⟩ v).cell? ⟨b, 1, none⟩ = some v := by
  have h1 := heap_setCell_same w b 0 _ _ u h
  have h2 := heap_setCell_same (w.setCell ⟨b, 0, none⟩ u) b 1 _ _ v h1
  simp [World.cell?, h2]
theorem R2.new (w : World) (x y : Int) : R2 (w.alloc (.cells #[.int .i64 x, .int .i64 y] 40)) w.heap.size x y := heap_alloc_last w _
theorem R2.alloc {w : World} {b : Nat} {x y : Int} (h : R2 w b x y) (o : Obj) : R2 (w.alloc o) b x y := h.next ((Below.refl _ _).alloc (Nat.le_refl _) o)
/-- What a walk keeps, with one, two and three blocks of its own. -/
structure K1 (w : World) (x y : Int) (w' : World) : Prop where
  bel : Below w.heap.size w w'
  r0 : R2 w' w.heap.size x y
structure K2 (w : World) (x y z u : Int) (w' : World) : Prop where
  bel : Below w.heap.size w w'
  r0 : R2 w' w.heap.size x y
  r1 : R2 w' (w.heap.size + 1) z u
structure K3 (w : World) (x y z u s t : Int) (w' : World) : Prop where
  bel : Below w.heap.size w w'
  r0 : R2 w' w.heap.size x y
  r1 : R2 w' (w.heap.size + 1) z u
  r2 : R2 w' (w.heap.size + 2) s t
theorem K1.next {w w' w'' : World} {x y : Int} (h : K1 w x y w') (hb : Below w'.heap.size w' w'') : K1 w x y w'' :=
  ⟨h.bel.trans (hb.mono (Nat.le_of_lt h.r0.lt)), h.r0.next hb⟩
theorem K2.next {w w' w'' : World} {x y z u : Int} (h : K2 w x y z u w') (hb : Below w'.heap.size w' w'') : K2 w x y z u w'' :=
  ⟨h.bel.trans (hb.mono (Nat.le_of_lt h.r0.lt)), h.r0.next hb, h.r1.next hb⟩
theorem K3.next {w w' w'' : World} {x y z u s t : Int} (h : K3 w x y z u s t w') (hb : Below w'.heap.size w' w'') : K3 w x y z u s t w'' :=
  ⟨h.bel.trans (hb.mono (Nat.le_of_lt h.r0.lt)), h.r0.next hb, h.r1.next hb, h.r2.next hb⟩
theorem K1.new (w : World) (x y : Int) : K1 w x y (w.alloc (.cells #[.int .i64 x, .int .i64 y] 40)) := ⟨(Below.refl _ _).alloc (Nat.le_refl _) _, R2.new w x y⟩
theorem K2.new (w : World) (x y z u : Int) : K2 w x y z u ((w.alloc (.cells #[.int .i64 x, .int .i64 y] 40)).alloc (.cells #[.int .i64 z, .int .i64 u] 40)) :=
  ⟨((Below.refl _ _).alloc (Nat.le_refl _) _).alloc (by simp) _, (R2.new w x y).alloc _, by have := R2.new (w.alloc (.cells #[.int .i64 x, .int .i64 y] 40)) z u; simpa using this⟩
theorem K3.new (w : World) (x y z u s t : Int) : K3 w x y z u s t (((w.alloc (.cells #[.int .i64 x, .int .i64 y] 40)).alloc (.cells #[.int .i64 z, .int .i64 u] 40)).alloc (.cells #[.int .i64 s, .int .i64 t] 40)) :=
  ⟨(((Below.refl _ _).alloc (Nat.le_refl _) _).alloc (by simp) _).alloc (by simp; omega) _, ((R2.new w x y).alloc _).alloc _, (K2.new w x y z u).r1.alloc _, by have := R2.new ((w.alloc (.cells #[.int .i64 x, .int .i64 y] 40)).alloc (.cells #[.int .i64 z, .int .i64 u] 40)) s t; simpa using this⟩
end Go.Proofs.YtpbfbejckhbijaaGreatDoor
namespace Go.Proofs.YtpbfbejckhbijaaGreatDoor
open Go.RowKit

theorem iv {a b : Int} (h : a = b) : Value.int .i64 b = Value.int .i64 a := by rw [h]
theorem pv {a b c d : Int} (h : a = b) (k : c = d) : P2 b d = P2 a c := by rw [h, k]
theorem many_any {r a b : Int} (h : Sh r a b) (w : World) : Calls Tryz.prog 102 #[.int .i64 r, P2 a b] w fun e w' => e = .returned (.int .i64 (cn r a b)) ∧ Below w.heap.size w w' := by
  cases h with
  | s0 => exact many_0 0 0 w
  | s1 _ h0 h1 => exact many_1 _ 0 w h0 h1
  | s2 _ _ h0 h1 h2 h3 h4 => exact many_2 _ _ w h0 h1 (mul_bd _ _ h0 h1 h2 h3).1 (mul_bd _ _ h0 h1 h2 h3).2
set_option maxHeartbeats 2000000 in
theorem cells_any (r a b : Int) (w : World) : Calls Tryz.prog 146 #[.int .i64 r, P2 a b] w fun e w' => e = .returned (.tuple #[.int .i64 (cV r a b), .int .i64 (ckS r a b)]) ∧ Below w.heap.size w w' := by
  have HK := Lib.hid (K1.new w a b)
  have x0 := HK.out.r0.c0; have x1 := HK.out.r0.c1
  rcases sh_dec r a b with ⟨hk, hs⟩ | ⟨hk, hs⟩
  · obtain ⟨h0, h1, h2, h3, h4, h5, h6, h7⟩ := hs.bd
    have HE : Hid (ckS r a b = 0) := hk
    have HCk : Hid (∀ W, Calls Tryz.prog 180 #[.int .i64 r, P2 a b] W fun e w' => e = .returned (.int .i64 0) ∧ Below W.heap.size W w') := fun W => by have := check_any r a b W; rwa [hk] at this
    have HC : Hid (∀ W, Calls Tryz.prog 181 #[.int .i64 r, P2 a b] W fun e w' => e = .returned (.int .i64 (cn r a b)) ∧ Below W.heap.size W w') := fun W => count_any r a b W h0 h1 h2 (by omega)
    have HV : Hid (cV r a b = cn r a b) := by unfold Hid cV; rw [if_pos hk]
    clear hk hs
    go_enter Tryz.func146, Tryz.ntmps146
    go_wp2_with (first | (go_at_call 180; refine (HCk.out _).mono ?_; rintro e w' ⟨rfl, hb⟩; have HK2 := Lib.hid (HK.out.next hb); clear HK hb x0 x1; have HK := HK2; clear HK2; have x0 := HK.out.r0.c0; have x1 := HK.out.r0.c1) | (go_at_call 181; refine (HC.out _).mono ?_; rintro e w' ⟨rfl, hb⟩; have HK2 := Lib.hid (HK.out.next hb); clear HK hb x0 x1; have HK := HK2; clear HK2; have x0 := HK.out.r0.c0; have x1 := HK.out.r0.c1))
    go_ret2
    exact ⟨ret_two (iv HV.out) (iv HE.out), HK.out.bel⟩
  · obtain ⟨k, hkk⟩ : ∃ k, k = ckS r a b := ⟨_, rfl⟩
    have HCk : Hid (∀ W, Calls Tryz.prog 180 #[.int .i64 r, P2 a b] W fun e w' => e = .returned (.int .i64 k) ∧ Below W.heap.size W w') := fun W => by rw [hkk]; exact check_any r a b W
    have HV : Hid (cV r a b = 0) := by unfold Hid cV; rw [if_neg hk]
    rw [← hkk] at hk
    have HKK := Lib.hid hkk.symm
    have k1 : (k != 0) = true := by simpa using hk
    have k2 : (k == 0) = false := by simpa using hk
    clear hk hkk hs
    go_enter Tryz.func146, Tryz.ntmps146
    go_wp2_with (first | (go_at_call 180; refine (HCk.out _).mono ?_; rintro e w' ⟨rfl, hb⟩; have HK2 := Lib.hid (HK.out.next hb); clear HK hb x0 x1; have HK := HK2; clear HK2; have x0 := HK.out.r0.c0; have x1 := HK.out.r0.c1))
    go_ret2
    exact ⟨ret_two (iv HV.out) (iv HKK.out), HK.out.bel⟩
set_option maxHeartbeats 2000000 in
theorem rcells_any (r a b : Int) (w : World) : Calls Tryz.prog 45 #[.int .i64 r, P2 a b] w fun e w' => e = .returned (.tuple #[.int .i64 (cV r a b), .int .i64 (ckS r a b)]) ∧ Below w.heap.size w w' := by
  have HK := Lib.hid (K1.new w a b)
  have x0 := HK.out.r0.c0; have x1 := HK.out.r0.c1
  rcases sh_dec r a b with ⟨hk, hs⟩ | ⟨hk, hs⟩
  · obtain ⟨h0, h1, h2, h3, h4, h5, h6, h7⟩ := hs.bd
    have HE : Hid (ckS r a b = 0) := hk
    have HCk : Hid (∀ W, Calls Tryz.prog 101 #[.int .i64 r, P2 a b] W fun e w' => e = .returned (.int .i64 0) ∧ Below W.heap.size W w') := fun W => by have := rcheck_any r a b W; rwa [hk] at this
    have HC : Hid (∀ W, Calls Tryz.prog 102 #[.int .i64 r, P2 a b] W fun e w' => e = .returned (.int .i64 (cn r a b)) ∧ Below W.heap.size W w') := fun W => many_any hs W
    have HV : Hid (cV r a b = cn r a b) := by unfold Hid cV; rw [if_pos hk]
    clear hk hs
    go_enter Tryz.func45, Tryz.ntmps45
    go_wp2_with (first | (go_at_call 101; refine (HCk.out _).mono ?_; rintro e w' ⟨rfl, hb⟩; have HK2 := Lib.hid (HK.out.next hb); clear HK hb x0 x1; have HK := HK2; clear HK2; have x0 := HK.out.r0.c0; have x1 := HK.out.r0.c1) | (go_at_call 102; refine (HC.out _).mono ?_; rintro e w' ⟨rfl, hb⟩; have HK2 := Lib.hid (HK.out.next hb); clear HK hb x0 x1; have HK := HK2; clear HK2; have x0 := HK.out.r0.c0; have x1 := HK.out.r0.c1))
    go_ret2
    exact ⟨ret_two (iv HV.out) (iv HE.out), HK.out.bel⟩
  · obtain ⟨k, hkk⟩ : ∃ k, k = ckS r a b := ⟨_, rfl⟩
    have HCk : Hid (∀ W, Calls Tryz.prog 101 #[.int .i64 r, P2 a b] W fun e w' => e = .returned (.int .i64 k) ∧ Below W.heap.size W w') := fun W => by rw [hkk]; exact rcheck_any r a b W
    have HV : Hid (cV r a b = 0) := by unfold Hid cV; rw [if_neg hk]
    rw [← hkk] at hk
    have HKK := Lib.hid hkk.symm
    have k1 : (k != 0) = true := by simpa using hk
    have k2 : (k == 0) = false := by simpa using hk
    clear hk hkk hs
    go_enter Tryz.func45, Tryz.ntmps45
    go_wp2_with (first | (go_at_call 101; refine (HCk.out _).mono ?_; rintro e w' ⟨rfl, hb⟩; have HK2 := Lib.hid (HK.out.next hb); clear HK hb x0 x1; have HK := HK2; clear HK2; have x0 := HK.out.r0.c0; have x1 := HK.out.r0.c1))
    go_ret2
    exact ⟨ret_two (iv HV.out) (iv HKK.out), HK.out.bel⟩
end Go.Proofs.YtpbfbejckhbijaaGreatDoor
namespace Go.Proofs.YtpbfbejckhbijaaGreatDoor
open Go.RowKit

theorem below_drewN {B : Nat} {a w : World} (h : Below B a w) (n : Nat) : Below B a (w.drewN n) := ⟨h.os, h.tape, h.output, h.size, h.block⟩
theorem drewN_below (w : World) (n : Nat) : Below w.heap.size w (w.drewN n) := below_drewN (Below.refl _ _) n
theorem ret_three {a b c d e f : Value} (h : a = d) (k : b = e) (l : c = f) : Ending.returned (.tuple #[a, b, c]) = .returned (.tuple #[d, e, f]) := by rw [h, k, l]
end Go.Proofs.YtpbfbejckhbijaaGreatDoor
namespace Go.Proofs.YtpbfbejckhbijaaGreatDoor
open Go.RowKit

end Go.Proofs.YtpbfbejckhbijaaGreatDoor
namespace Go.Proofs.YtpbfbejckhbijaaGreatDoor
open Go.RowKit

/-- A slice value that reads as a list; its block lies below B. -/
def Rd {α : Type} (f : α → Value) (B : Nat) (w : World) (v : Value) (l : List α) : Prop :=
  ∃ a cap, v = .slice a l.length cap ∧ l.length ≤ cap ∧ cap ≤ 9223372036854775807 ∧ (l ≠ [] → ∃ b off, a = some ⟨b, off, none⟩ ∧ b < B ∧ ∀ j (h : j < l.length), w.cell? ⟨b, off + j, none⟩ = some (f l[j]))
abbrev vi (z : Int) : Value := .int .i64 z
abbrev RdI := Rd vi
theorem Rd.below {α : Type} {f : α → Value} {B : Nat} {w w' : World} {v : Value} {l : List α} (h : Rd f B w v l) (hb : Below B w w') : Rd f B w' v l := by
  obtain ⟨a, cap, hv, hc, hc2, h⟩ := h
  refine ⟨a, cap, hv, hc, hc2, fun hn => ?_⟩
  obtain ⟨b, off, ha, hlt, hcell⟩ := h hn
  exact ⟨b, off, ha, hlt, fun j hj => (hb.cell (p := ⟨b, off + j, none⟩) hlt).trans (hcell j hj)⟩
theorem Rd.mono {α : Type} {f : α → Value} {B B' : Nat} {w : World} {v : Value} {l : List α} (h : Rd f B w v l) (hb : B ≤ B') : Rd f B' w v l := by
  obtain ⟨a, cap, hv, hc, hc2, h⟩ := h
  refine ⟨a, cap, hv, hc, hc2, fun hn => ?_⟩
  obtain ⟨b, off, ha, hlt, hcell⟩ := h hn
  exact ⟨b, off, ha, Nat.lt_of_lt_of_le hlt hb, hcell⟩
theorem Rd.next {α : Type} {f : α → Value} {w w' : World} {v : Value} {l : List α} (h : Rd f w.heap.size w v l) (hb : Below w.heap.size w w') : Rd f w'.heap.size w' v l :=
  (h.below hb).mono hb.size
theorem szi : (Tryz.prog.info? 3).map (·.size) = some 1 := by kernel_rfl
theorem cell_old (w : World) (o : Obj) {b : Nat} (h : b < w.heap.size) {i : Nat} : (w.alloc o).cell? ⟨b, i, none⟩ = w.cell? ⟨b, i, none⟩ :=
  ((Below.refl w.heap.size w).alloc (Nat.le_refl _) o).cell (p := ⟨b, i, none⟩) h
theorem copy0 (w : World) (a : Option Addr) (cap : Nat) : (Builtin.copy_ #[34, 34] 3 #[.slice (some ⟨w.heap.size, 0, none⟩) 2 2, .slice a 0 cap]).run Tryz.prog (w.alloc (.cells #[.int .i64 0, .int .i64 0] 40)) =
    .ok (.int .i64 0) (w.alloc (.cells #[.int .i64 0, .int .i64 0] 40)) := run_copy_none _ _ _ _ _ _ _ _ _ _ _ Tryz.underlying34 szi rfl
theorem copy1 (w : World) {bk off cap : Nat} {x : Int} (hbk : bk < w.heap.size) (u0 : w.cell? ⟨bk, off, none⟩ = some (.int .i64 x)) : (Builtin.copy_ #[34, 34] 3 #[.slice (some ⟨w.heap.size, 0, none⟩) 2 2, .slice (some ⟨bk, off, none⟩) 1 cap]).run Tryz.prog (w.alloc (.cells #[.int .i64 0, .int .i64 0] 40)) =
    .ok (.int .i64 1) (w.alloc (.cells #[.int .i64 x, .int .i64 0] 40)) := by
  have h := run_copy_row (P := Tryz.prog) (w.alloc (.cells #[.int .i64 0, .int .i64 0] 40)) 34 34 3 3 w.heap.size 0 2 2 ⟨bk, off, none⟩ 1 cap #[.int .i64 0, .int .i64 0] 40 [.int .i64 x] Tryz.underlying34 szi (heap_alloc_last w _) rfl (fun j v hj => by
    rw [Addr.add_lit, cell_old _ _ hbk]
    match j, hj with
    | 0, hj => cases hj; exact u0
    | j + 1, hj => simp at hj) (by simp) (by simp [Value.oneCell'])
  rw [World.setRow_alloc_new] at h
  exact h
theorem copy2 (w : World) {bk off cap : Nat} {x y : Int} (hbk : bk < w.heap.size) (u0 : w.cell? ⟨bk, off, none⟩ = some (.int .i64 x)) (u1 : w.cell? ⟨bk, off + 1, none⟩ = some (.int .i64 y)) : (Builtin.copy_ #[34, 34] 3 #[.slice (some ⟨w.heap.size, 0, none⟩) 2 2, .slice (some ⟨bk, off, none⟩) 2 cap]).run Tryz.prog (w.alloc (.cells #[.int .i64 0, .int .i64 0] 40)) =
    .ok (.int .i64 2) (w.alloc (.cells #[.int .i64 x, .int .i64 y] 40)) := by
  have h := run_copy_row (P := Tryz.prog) (w.alloc (.cells #[.int .i64 0, .int .i64 0] 40)) 34 34 3 3 w.heap.size 0 2 2 ⟨bk, off, none⟩ 2 cap #[.int .i64 0, .int .i64 0] 40 [.int .i64 x, .int .i64 y] Tryz.underlying34 szi (heap_alloc_last w _) rfl (fun j v hj => by
    rw [Addr.add_lit, cell_old _ _ hbk]
    match j, hj with
    | 0, hj => cases hj; exact u0
    | 1, hj => cases hj; exact u1
    | j + 2, hj => simp at hj) (by simp) (by simp [Value.oneCell'])
  rw [World.setRow_alloc_new] at h
  exact h
set_option maxRecDepth 100000 in
set_option maxHeartbeats 4000000 in
theorem lens_any (r : Int) (v : Value) (l : List Int) (w : World) (hv : RdI w.heap.size w v l) : Calls Tryz.prog 186 #[.int .i64 r, v] w fun e w' => e = .returned (.tuple #[P2 (ln0 r l) (ln1 r l), .int .i64 (lnE r l)]) ∧ Below w.heap.size w w' := by
  obtain ⟨a, cap, rfl, hc1, hc2, hx⟩ := hv
  by_cases h : r < 0 ∨ 2 < r
  · have HV : Hid (lnE r l = 7 ∧ ln0 r l = 0 ∧ ln1 r l = 0) := by
      have e : lnE r l = 7 := by unfold lnE; rw [if_pos h]
      unfold Hid ln0 ln1; rw [e]; exact ⟨rfl, rfl, rfl⟩
    clear hx
    have hd : decide (0 ≤ r ∧ r ≤ 2) = false := decide_eq_false (by omega)
    clear h
    go_enter Tryz.func186, Tryz.ntmps186
    go_wp2_with (go_at_call 196; refine (isRank_any _ _).mono ?_; rintro e w' ⟨rfl, rfl⟩)
    exact bodyPost_ret (v := .tuple #[P2 0 0, .int .i64 7]) (by simp [results, Tryz.results186, go_sem]) rfl ⟨ret_two (pv HV.out.2.1 HV.out.2.2) (iv HV.out.1), (Below.refl _ _).alloc (Nat.le_refl _) _⟩
  · have hd : decide (0 ≤ r ∧ r ≤ 2) = true := decide_eq_true (by omega)
    by_cases hl : (l.length : Int) = r
    · have hr : (r = 0 ∧ l = []) ∨ (r = 1 ∧ ∃ x, l = [x]) ∨ (r = 2 ∧ ∃ x y, l = [x, y]) := by
        match l, hl with
        | [], hl => exact .inl ⟨by simpa using hl.symm, rfl⟩
        | [x], hl => exact .inr (.inl ⟨by simpa using hl.symm, x, rfl⟩)
        | [x, y], hl => exact .inr (.inr ⟨by simpa using hl.symm, x, y, rfl⟩)
        | _ :: _ :: _ :: _, hl => simp at hl; omega
      rcases hr with ⟨rfl, rfl⟩ | ⟨rfl, x, rfl⟩ | ⟨rfl, x, y, rfl⟩
      · clear h hl hx
        show Calls Tryz.prog 186 #[.int .i64 0, .slice a 0 cap] w _
        have hE : lnE 0 [] = ckS 0 0 0 := by unfold lnE; rw [if_neg (by decide), if_pos (by rfl)]; rfl
        have hcp := copy0 w a cap
        have HK := Lib.hid (K1.new w 0 0)
        have x0 := HK.out.r0.c0; have x1 := HK.out.r0.c1; have f0 := HK.out.r0.f0; have f1 := HK.out.r0.f1
        rcases sh_dec 0 0 0 with ⟨hk, hs⟩ | ⟨hk, hs⟩
        · have HV : Hid (lnE 0 [] = 0 ∧ ln0 0 [] = 0 ∧ ln1 0 [] = 0) := by
            unfold Hid ln0 ln1; rw [hE, hk]; exact ⟨rfl, rfl, rfl⟩
          have HCk : Hid (∀ W, Calls Tryz.prog 180 #[.int .i64 0, P2 0 0] W fun e w' => e = .returned (.int .i64 0) ∧ Below W.heap.size W w') := fun W => by have := check_any 0 0 0 W; rwa [hk] at this
          clear hk hs hE
          go_enter Tryz.func186, Tryz.ntmps186
          go_wp2_with (first | (go_at_call 196; refine (isRank_any _ _).mono ?_; rintro e w' ⟨rfl, rfl⟩) | (go_at_call 180; refine (HCk.out _).mono ?_; rintro e w' ⟨rfl, hb⟩; have HK2 := Lib.hid (HK.out.next hb); clear HK hb x0 x1 f0 f1; have HK := HK2; clear HK2; have x0 := HK.out.r0.c0; have x1 := HK.out.r0.c1; have f0 := HK.out.r0.f0; have f1 := HK.out.r0.f1))
          exact bodyPost_ret (v := .tuple #[P2 0 0, .int .i64 0]) (by simp [results, Tryz.results186, go_sem, HK.out.r0.s0, HK.out.r0.s1]) rfl ⟨ret_two (pv HV.out.2.1 HV.out.2.2) (iv HV.out.1), (HK.out.bel.setCell (Nat.le_refl _) _).setCell (Nat.le_refl _) _⟩
        · obtain ⟨k, hkk⟩ : ∃ k, k = ckS 0 0 0 := ⟨_, rfl⟩
          have HV : Hid (lnE 0 [] = k ∧ ln0 0 [] = 0 ∧ ln1 0 [] = 0) := by
            unfold Hid ln0 ln1; rw [hE, if_neg hk, if_neg hk]; exact ⟨hkk.symm, rfl, rfl⟩
          have HCk : Hid (∀ W, Calls Tryz.prog 180 #[.int .i64 0, P2 0 0] W fun e w' => e = .returned (.int .i64 k) ∧ Below W.heap.size W w') := fun W => by rw [hkk]; exact check_any 0 0 0 W
          rw [← hkk] at hk
          have k1 : (k != 0) = true := by simpa using hk
          have k2 : (k == 0) = false := by simpa using hk
          clear hk hs hE hkk
          go_enter Tryz.func186, Tryz.ntmps186
          go_wp2_with (first | (go_at_call 196; refine (isRank_any _ _).mono ?_; rintro e w' ⟨rfl, rfl⟩) | (go_at_call 180; refine (HCk.out _).mono ?_; rintro e w' ⟨rfl, hb⟩; have HK2 := Lib.hid (HK.out.next hb); clear HK hb x0 x1 f0 f1; have HK := HK2; clear HK2; have x0 := HK.out.r0.c0; have x1 := HK.out.r0.c1; have f0 := HK.out.r0.f0; have f1 := HK.out.r0.f1))
          exact bodyPost_ret (v := .tuple #[P2 0 0, .int .i64 k]) (by simp [results, Tryz.results186, go_sem, HK.out.r0.s0, HK.out.r0.s1]) rfl ⟨ret_two (pv HV.out.2.1 HV.out.2.2) (iv HV.out.1), (HK.out.bel.setCell (Nat.le_refl _) _).setCell (Nat.le_refl _) _⟩
      · clear h hl
        obtain ⟨bk, off, rfl, hbk, hcell⟩ := hx (by simp)
        have u0 : w.cell? ⟨bk, off, none⟩ = some (.int .i64 x) := hcell 0 (by simp)
        clear hx hcell
        show Calls Tryz.prog 186 #[.int .i64 1, .slice (some ⟨bk, off, none⟩) 1 cap] w _
        have hE : lnE 1 [x] = ckS 1 x 0 := by unfold lnE; rw [if_neg (by decide), if_pos (by rfl)]; rfl
        have hcp := copy1 w hbk u0 (cap := cap)
        have HK := Lib.hid (K1.new w x 0)
        have x0 := HK.out.r0.c0; have x1 := HK.out.r0.c1; have f0 := HK.out.r0.f0; have f1 := HK.out.r0.f1
        rcases sh_dec 1 x 0 with ⟨hk, hs⟩ | ⟨hk, hs⟩
        · have HV : Hid (lnE 1 [x] = 0 ∧ ln0 1 [x] = x ∧ ln1 1 [x] = 0) := by
            unfold Hid ln0 ln1; rw [hE, hk]; exact ⟨rfl, rfl, rfl⟩
          have HCk : Hid (∀ W, Calls Tryz.prog 180 #[.int .i64 1, P2 x 0] W fun e w' => e = .returned (.int .i64 0) ∧ Below W.heap.size W w') := fun W => by have := check_any 1 x 0 W; rwa [hk] at this
          clear hk hs hE
          go_enter Tryz.func186, Tryz.ntmps186
          go_wp2_with (first | (go_at_call 196; refine (isRank_any _ _).mono ?_; rintro e w' ⟨rfl, rfl⟩) | (go_at_call 180; refine (HCk.out _).mono ?_; rintro e w' ⟨rfl, hb⟩; have HK2 := Lib.hid (HK.out.next hb); clear HK hb x0 x1 f0 f1; have HK := HK2; clear HK2; have x0 := HK.out.r0.c0; have x1 := HK.out.r0.c1; have f0 := HK.out.r0.f0; have f1 := HK.out.r0.f1))
          exact bodyPost_ret (v := .tuple #[P2 x 0, .int .i64 0]) (by simp [results, Tryz.results186, go_sem, HK.out.r0.s0, HK.out.r0.s1]) rfl ⟨ret_two (pv HV.out.2.1 HV.out.2.2) (iv HV.out.1), (HK.out.bel.setCell (Nat.le_refl _) _).setCell (Nat.le_refl _) _⟩
        · obtain ⟨k, hkk⟩ : ∃ k, k = ckS 1 x 0 := ⟨_, rfl⟩
          have HV : Hid (lnE 1 [x] = k ∧ ln0 1 [x] = 0 ∧ ln1 1 [x] = 0) := by
            unfold Hid ln0 ln1; rw [hE, if_neg hk, if_neg hk]; exact ⟨hkk.symm, rfl, rfl⟩
          have HCk : Hid (∀ W, Calls Tryz.prog 180 #[.int .i64 1, P2 x 0] W fun e w' => e = .returned (.int .i64 k) ∧ Below W.heap.size W w') := fun W => by rw [hkk]; exact check_any 1 x 0 W
          rw [← hkk] at hk
          have k1 : (k != 0) = true := by simpa using hk
          have k2 : (k == 0) = false := by simpa using hk
          clear hk hs hE hkk
          go_enter Tryz.func186, Tryz.ntmps186
          go_wp2_with (first | (go_at_call 196; refine (isRank_any _ _).mono ?_; rintro e w' ⟨rfl, rfl⟩) | (go_at_call 180; refine (HCk.out _).mono ?_; rintro e w' ⟨rfl, hb⟩; have HK2 := Lib.hid (HK.out.next hb); clear HK hb x0 x1 f0 f1; have HK := HK2; clear HK2; have x0 := HK.out.r0.c0; have x1 := HK.out.r0.c1; have f0 := HK.out.r0.f0; have f1 := HK.out.r0.f1))
          exact bodyPost_ret (v := .tuple #[P2 0 0, .int .i64 k]) (by simp [results, Tryz.results186, go_sem, HK.out.r0.s0, HK.out.r0.s1]) rfl ⟨ret_two (pv HV.out.2.1 HV.out.2.2) (iv HV.out.1), (HK.out.bel.setCell (Nat.le_refl _) _).setCell (Nat.le_refl _) _⟩
      · clear h hl
        obtain ⟨bk, off, rfl, hbk, hcell⟩ := hx (by simp)
        have u0 : w.cell? ⟨bk, off, none⟩ = some (.int .i64 x) := hcell 0 (by simp)
        have u1 : w.cell? ⟨bk, off + 1, none⟩ = some (.int .i64 y) := hcell 1 (by simp)
        clear hx hcell
        show Calls Tryz.prog 186 #[.int .i64 2, .slice (some ⟨bk, off, none⟩) 2 cap] w _
        have hE : lnE 2 [x, y] = ckS 2 x y := by unfold lnE; rw [if_neg (by decide), if_pos (by rfl)]; rfl
        have hcp := copy2 w hbk u0 u1 (cap := cap)
        have HK := Lib.hid (K1.new w x y)
        have x0 := HK.out.r0.c0; have x1 := HK.out.r0.c1; have f0 := HK.out.r0.f0; have f1 := HK.out.r0.f1
        rcases sh_dec 2 x y with ⟨hk, hs⟩ | ⟨hk, hs⟩
        · have HV : Hid (lnE 2 [x, y] = 0 ∧ ln0 2 [x, y] = x ∧ ln1 2 [x, y] = y) := by
            unfold Hid ln0 ln1; rw [hE, hk]; exact ⟨rfl, rfl, rfl⟩
          have HCk : Hid (∀ W, Calls Tryz.prog 180 #[.int .i64 2, P2 x y] W fun e w' => e = .returned (.int .i64 0) ∧ Below W.heap.size W w') := fun W => by have := check_any 2 x y W; rwa [hk] at this
          clear hk hs hE
          go_enter Tryz.func186, Tryz.ntmps186
          go_wp2_with (first | (go_at_call 196; refine (isRank_any _ _).mono ?_; rintro e w' ⟨rfl, rfl⟩) | (go_at_call 180; refine (HCk.out _).mono ?_; rintro e w' ⟨rfl, hb⟩; have HK2 := Lib.hid (HK.out.next hb); clear HK hb x0 x1 f0 f1; have HK := HK2; clear HK2; have x0 := HK.out.r0.c0; have x1 := HK.out.r0.c1; have f0 := HK.out.r0.f0; have f1 := HK.out.r0.f1))
          exact bodyPost_ret (v := .tuple #[P2 x y, .int .i64 0]) (by simp [results, Tryz.results186, go_sem, HK.out.r0.s0, HK.out.r0.s1]) rfl ⟨ret_two (pv HV.out.2.1 HV.out.2.2) (iv HV.out.1), (HK.out.bel.setCell (Nat.le_refl _) _).setCell (Nat.le_refl _) _⟩
        · obtain ⟨k, hkk⟩ : ∃ k, k = ckS 2 x y := ⟨_, rfl⟩
          have HV : Hid (lnE 2 [x, y] = k ∧ ln0 2 [x, y] = 0 ∧ ln1 2 [x, y] = 0) := by
            unfold Hid ln0 ln1; rw [hE, if_neg hk, if_neg hk]; exact ⟨hkk.symm, rfl, rfl⟩
          have HCk : Hid (∀ W, Calls Tryz.prog 180 #[.int .i64 2, P2 x y] W fun e w' => e = .returned (.int .i64 k) ∧ Below W.heap.size W w') := fun W => by rw [hkk]; exact check_any 2 x y W
          rw [← hkk] at hk
          have k1 : (k != 0) = true := by simpa using hk
          have k2 : (k == 0) = false := by simpa using hk
          clear hk hs hE hkk
          go_enter Tryz.func186, Tryz.ntmps186
          go_wp2_with (first | (go_at_call 196; refine (isRank_any _ _).mono ?_; rintro e w' ⟨rfl, rfl⟩) | (go_at_call 180; refine (HCk.out _).mono ?_; rintro e w' ⟨rfl, hb⟩; have HK2 := Lib.hid (HK.out.next hb); clear HK hb x0 x1 f0 f1; have HK := HK2; clear HK2; have x0 := HK.out.r0.c0; have x1 := HK.out.r0.c1; have f0 := HK.out.r0.f0; have f1 := HK.out.r0.f1))
          exact bodyPost_ret (v := .tuple #[P2 0 0, .int .i64 k]) (by simp [results, Tryz.results186, go_sem, HK.out.r0.s0, HK.out.r0.s1]) rfl ⟨ret_two (pv HV.out.2.1 HV.out.2.2) (iv HV.out.1), (HK.out.bel.setCell (Nat.le_refl _) _).setCell (Nat.le_refl _) _⟩
    · have HV : Hid (lnE r l = 6 ∧ ln0 r l = 0 ∧ ln1 r l = 0) := by
        have e : lnE r l = 6 := by unfold lnE; rw [if_neg h, if_neg hl]
        unfold Hid ln0 ln1; rw [e]; exact ⟨rfl, rfl, rfl⟩
      have hl1 : ((l.length : Int) != r) = true := by simpa using hl
      have hl2 : ((l.length : Int) == r) = false := by simpa using hl
      have g0 : 0 ≤ r := by omega
      have g1 : r ≤ 2 := by omega
      clear hx hl h
      go_enter Tryz.func186, Tryz.ntmps186
      go_wp2_with (go_at_call 196; refine (isRank_any _ _).mono ?_; rintro e w' ⟨rfl, rfl⟩)
      exact bodyPost_ret (v := .tuple #[P2 0 0, .int .i64 6]) (by simp [results, Tryz.results186, go_sem]) rfl ⟨ret_two (pv HV.out.2.1 HV.out.2.2) (iv HV.out.1), (Below.refl _ _).alloc (Nat.le_refl _) _⟩
end Go.Proofs.YtpbfbejckhbijaaGreatDoor
