/- Errors of the code, and append of one element of any type. -/
import Derived.Test.YtpbfbejckhbijaaGreatDoorPrD
import Derived.Test.YtpbfbejckhbijaaGreatDoorMvV
import Derived.BigQuiet
namespace Go.Proofs.YtpbfbejckhbijaaGreatDoor
open Go.RowKit

theorem blk_cell {W : World} {g : Nat} {cs : Array Value} {E : TypeId} {fr : Nat × Nat} (h : W.heap[g]? = some (.cells cs E fr)) {j : Nat} {u : Value} (hj : cs[j]? = some u) : W.cell? (Addr.add ⟨g, 0, none⟩ j) = some u := by
  by_cases e : j = 0
  · subst e; simpa [Addr.add, World.cell?, h] using hj
  · simpa [Addr.add, World.cell?, h, e] using hj
/-- append of one element of any type, laid in a block of its own just before. -/
theorem wpList_app1g {T E : TypeId} {i0 : TypeInfo} {zv : Value} {sz by_ : Nat} (ht : Tryz.prog.underlying T = some (.slice E)) (hi : Tryz.prog.info? E = some i0) (hz : i0.zero = some zv) (hsz : i0.size = sz) (hby : i0.bytes = by_) (hzs : zv.cells.size = sz) (h0 : 0 < sz) (hb2 : by_ ≤ 100)
    {w0 : World} {ops : Array Oper} {rest : List Oper} {o : Oper} {a : Act} {Q : Exit → Act → World → Prop} (hgd : Region.wanted o (yielded ops a.tmps) = true) (s x : Operand)
    (ho : o.op = .call { callee := .builtin .append, args := #[s, x], argTypes := #[T, T] }) (B : Nat) (v : Value) (n : Nat) (xs : List Value) (hs : a.eval s = v) (hown : w0.ownsRow B E sz v n xs)
    (news : List Value) (hn : news.length = sz) (h1 : ∀ u ∈ news, u.oneCell' = true) (hx : a.eval x = .slice (some ⟨w0.heap.size, 0, none⟩) 1 1) (hl : n + 1 ≤ 1000000) (hB : B ≤ w0.heap.size)
    (h : ∀ v' w', w'.ownsRow B E sz v' (n + 1) (xs ++ news) → (w0.alloc (.cells news.toArray E)).grownBy w' v.ownBlock → wpList Tryz.prog ops Q rest (a.put o.dst v') w') : wpList Tryz.prog ops Q (o :: rest) a (w0.alloc (.cells news.toArray E)) := by
  refine Ru.wpList_met hgd fun K hK => wp_append_own _ s x T ho B E i0 zv sz by_ ht hi hz hsz hby hzs h0 v n xs hs (hown.alloc _) ⟨w0.heap.size, 0, none⟩ 1 1 news hx (by omega) ?_ h1 (by unfold maxLen; omega) ?_ (by simp; omega) ?_
  · exact fun j u hu => blk_cell (tab_new w0 _) (by simpa using hu)
  · have := Nat.mul_le_mul (show n + 1 ≤ 1000000 from hl) hb2
    omega
  · intro v' w' h2 h3 _
    exact hK _ _ (h v' w' h2 h3)
/-- A row of numbers, whatever their type, can be read. -/
theorem own_rdI {W : World} {B n : Nat} {E : TypeId} {v : Value} {l : List Int} (h : W.ownsRow B E 1 v n (l.map fun z => .int .i64 z)) : RdI W.heap.size W v l := by
  have hl : l.length = n := by have := h.1; simpa using this
  rcases h.2 with ⟨rfl, h0⟩ | ⟨g, cap, cur, rfl, hg, hh, r1, r2, r3, r4⟩
  · have : l = [] := List.length_eq_zero_iff.1 (by omega)
    subst this
    exact (RdN.nil 0 _).rd
  · have hlt : g < W.heap.size := (Array.getElem?_eq_some_iff.1 hh).1
    refine ⟨_, cap, by rw [hl], by omega, by unfold maxLen at r2; omega, fun _ => ⟨g, 0, rfl, hlt, fun j hj => ?_⟩⟩
    have := World.ownsRow.cellAt h j (by omega)
    rw [Nat.zero_add, this]
    simp [List.getElem?_eq_getElem hj]
theorem infoEr : (Tryz.prog.info? 23).map (fun i => (i.zero, i.size, i.bytes)) = some (some (.int .i64 0), 1, 8) := by kernel_rfl
def InE (w : World) (B : Nat) (v : Value) (l : List Int) : Prop := w.ownsRow B 23 1 v l.length (l.map fun z => .int .i64 z)
/-- append of one error. -/
theorem wpList_appE {w0 : World} {ops : Array Oper} {rest : List Oper} {o : Oper} {a : Act} {Q : Exit → Act → World → Prop} (hgd : Region.wanted o (yielded ops a.tmps) = true) (s x : Operand)
    (ho : o.op = .call { callee := .builtin .append, args := #[s, x], argTypes := #[29, 29] }) (B : Nat) (v : Value) (l : List Int) (hs : a.eval s = v) (hown : InE w0 B v l) (m : Int)
    (hx : a.eval x = .slice (some ⟨w0.heap.size, 0, none⟩) 1 1) (hl : l.length + 1 ≤ 1000000) (hB : B ≤ w0.heap.size)
    (h : ∀ v' w', InE w' B v' (l ++ [m]) → Below B w0 w' → wpList Tryz.prog ops Q rest (a.put o.dst v') w') : wpList Tryz.prog ops Q (o :: rest) a (w0.alloc (.cells #[.int .i64 m] 23)) := by
  obtain ⟨i0, hi, hz0, hz1, hz2⟩ := info_parts infoEr
  refine wpList_app1g Tryz.underlying29 hi hz0 hz1 hz2 rfl (by decide) (by decide) hgd s x ho B v l.length _ hs hown [.int .i64 m] rfl (by simp [Value.oneCell']) hx hl hB ?_
  intro v' w' h1 h2
  refine h v' w' (by unfold InE; rw [List.length_append, List.map_append]; exact h1) ?_
  have hb := bel1 w0 (.cells #[.int .i64 m] 23)
  exact (hb.mono hB).trans ((Below.refl B _).grown h2 (by simp; omega) fun j e => ((World.ownsRow.alloc hown (.cells #[.int .i64 m] 23)).lt j e).1)
theorem inE_nil (B : Nat) (w : World) : InE w B (.slice none 0 0) [] := World.ownsRow_nil _ _ _ _
/-- The errors that may come of a primitive. -/
def fl12 (l : List Int) : List Int := l.filter fun x => decide (x ≠ 0)
def erN (p : Nat) : List Int := fl12 [e0P p, e1P p, e2P p]
def erL (p : Int) : List Int := if p < 1 ∨ 40 < p then [] else erN p.toNat
theorem fl12_next (l : List Int) (j : Nat) (hj : j < l.length) : fl12 (l.take (j + 1)) = if l.getD j 0 = 0 then fl12 (l.take j) else fl12 (l.take j) ++ [l.getD j 0] := by
  rw [← takeI_snoc hj]
  unfold fl12
  rw [List.filter_append]
  by_cases h : l.getD j 0 = 0
  · rw [if_pos h, h]; simp
  · rw [if_neg h, List.filter_cons_of_pos (by simpa using h)]; rfl
theorem fl12_le (l : List Int) : (fl12 l).length ≤ l.length := List.length_filter_le _ _
theorem idx_f (a b c : Int) (j : Nat) (hj : j < 3) (W : World) : (Instr.index 57 (.agg #[.int .i64 a, .int .i64 b, .int .i64 c]) (.int .i64 j)).run Tryz.prog W = .ok (.int .i64 ([a, b, c].getD j 0)) W := by
  have hu : (underlying 57).run Tryz.prog W = .ok (.array 3 23) W := run_underlying Tryz.underlying57 W
  match j, hj with
  | 0, _ => unfold Instr.index; simp [asIntOf, hu, part, go_sem]
  | 1, _ => unfold Instr.index; simp [asIntOf, hu, part, go_sem]
  | 2, _ => unfold Instr.index; simp [asIntOf, hu, part, go_sem]
  | n + 3, h => exact absurd h (by omega)
set_option maxRecDepth 100000 in
set_option maxHeartbeats 8000000 in
theorem errors_any (p : Int) (w : World) :
    Calls Tryz.prog 18 #[.int .i64 p] w fun e w' => ∃ u, e = .returned (.tuple #[u, .int .i64 (arE p)]) ∧ RdI w'.heap.size w' u (erL p) ∧ Ru.NilC u ∧ Below w.heap.size w w' := by
  by_cases h : p < 1 ∨ 40 < p
  · rw [show erL p = [] from if_pos h, show arE p = 2 from if_pos h]
    have HR := Lib.hid (fun W => rowOf_bad p W h)
    clear h
    go_enter Tryz.func18, Tryz.ntmps18
    go_wp2_with (go_at_call 33; refine (HR.out _).mono ?_; rintro e w1 ⟨rfl, hb⟩; have HB := Lib.hid (hb.alloc (hb.size)); clear hb)
    go_ret2
    exact ⟨_, rfl, (RdN.nil 0 _).rd, (RdN.nil 0 w).nilC, HB.out _⟩
  · rw [show erL p = erN p.toNat from if_neg h, show arE p = 0 from if_neg h]
    obtain ⟨q, hq⟩ : ∃ q : Nat, p = (q : Int) := ⟨p.toNat, by omega⟩
    subst hq
    have HR := Lib.hid (fun W => rowOf_ok q W (by omega) (by omega))
    have hff := fun_forms q (by omega)
    rw [Int.toNat_natCast]
    clear h
    unfold rowC at HR
    unfold erN
    generalize nmB q = s1 at HR ⊢
    generalize ftB q = s2 at HR ⊢
    generalize e0P q = x0 at HR ⊢
    generalize e1P q = x1 at HR ⊢
    generalize e2P q = x2 at HR ⊢
    generalize f1P q = g1 at HR hff ⊢
    generalize f2P q = g2 at HR hff ⊢
    obtain ⟨X, hX⟩ : ∃ X, X = [x0, x1, x2] := ⟨_, rfl⟩
    have hXl : X.length = 3 := by rw [hX]; rfl
    have HIx : Hid (∀ j, j < 3 → ∀ W, (Instr.index 57 (.agg #[.int .i64 x0, .int .i64 x1, .int .i64 x2]) (.int .i64 ((j : Nat) : Int))).run Tryz.prog W = .ok (.int .i64 (X.getD j 0)) W) := fun j hj W => by rw [hX]; exact idx_f x0 x1 x2 j hj W
    have HNx : Hid (∀ j, j < 3 → fl12 (X.take (j + 1)) = if X.getD j 0 = 0 then fl12 (X.take j) else fl12 (X.take j) ++ [X.getD j 0]) := fun j hj => fl12_next X j (by omega)
    have HLe : Hid (∀ j, (fl12 (X.take j)).length ≤ 3) := fun j => by have := fl12_le (X.take j); rw [List.length_take] at this; omega
    have HAl : Hid (fl12 (X.take 3) = fl12 X) := by unfold Hid; rw [List.take_of_length_le (by omega)]
    rw [← hX]
    clear hX hXl
    rcases hff with ⟨rfl, rfl⟩ | ⟨k9, rfl, rfl⟩ | ⟨k9, rfl, rfl⟩
    · go_enter Tryz.func18, Tryz.ntmps18
      go_wp2_with (first | (go_at_call 33; refine (HR.out _).mono ?_; rintro e w1 ⟨rfl, hb⟩; have HB := Lib.hid (hb.alloc (hb.size)); have hsz1 := hb.size; clear hb) | fail)
      have HB0 := Lib.hid (HB.out (.cells #[.string s1, .string s2, .int .i64 x0, .int .i64 x1, .int .i64 x2, .nilFunc, .nilFunc] 61))
      clear HB
      generalize World.alloc w1 _ = w2 at HB0 ⊢
      have HS0 : Hid (InE w2 w2.heap.size (.slice none 0 0) []) := inE_nil _ _
      go_loopg [6, 8, 19] 3 (fun gk s f9 i9 wr => ∃ (j : Nat) (V : Value), j + gk = 3 ∧ s = V ∧ i9 = .int .i64 j ∧ Below w2.heap.size w2 wr ∧ InE wr w2.heap.size V (fl12 (X.take j)))
      case atStart => exact ⟨0, _, by omega, rfl, rfl, Below.refl _ _, by simpa [fl12] using HS0.out⟩
      case round =>
        obtain ⟨j, V, hjg, rfl, rfl, hbl, hin⟩ := hrel
        have HBl := Lib.hid hbl
        have HN := Lib.hid hin
        clear hbl hin HS0
        cases gk with
        | zero =>
          have hjz : ¬ ((j : Int) < 3) := by omega
          have hje : j = 3 := by omega
          rw [hje, HAl.out] at HN
          clear hje HNx HIx HLe
          go_wp2_with fail
          go_ret2
          exact ⟨_, rfl, own_rdI HN.out, by intro p c e; rcases HN.out.2 with ⟨h9, _⟩ | ⟨g, cap, cur, h9, _⟩ <;> rw [h9] at e <;> cases e; rfl, HB0.out.trans (HBl.out.mono HB0.out.size)⟩
        | succ g =>
          have hjz : (j : Int) < 3 := by omega
          have hj : j < 3 := by omega
          have hix := HIx.out j hj
          have hnx := HNx.out j hj
          have hle := HLe.out j
          have hszw := HBl.out.size
          have hwi : IntKind.i64.wrap ((j : Int) + 1) = (j : Int) + 1 := by rw [IntKind.wrap_i64]; omega
          generalize X.getD j 0 = y at hix hnx
          by_cases hy : y = 0
          · have k2 : (y != 0) = false := by simpa using hy
            rw [if_pos hy] at hnx
            have HN2 : Hid (InE wr w2.heap.size u6 (fl12 (X.take (j + 1)))) := by unfold Hid; rw [hnx]; exact HN.out
            clear hy hnx HN HNx HIx HLe hle
            go_wp2_with fail
            go_roundg g
            case measure => omega
            case rel => exact ⟨j + 1, _, by omega, rfl, by go_num, HBl.out, HN2.out⟩
          · have k2 : (y != 0) = true := by simpa using hy
            rw [if_neg hy] at hnx
            have HQ := Lib.hid hnx
            clear hy hnx HNx HIx HLe
            go_wp2_with (at_builtin; refine wpList_appE (by simp [Region.wanted]) _ _ rfl w2.heap.size _ (fl12 (X.take j)) rfl HN.out y rfl (by omega) hszw ?_; intro u2 w3 hu2 hb2; have HN2 := Lib.hid hu2; have HB2 := Lib.hid (HBl.out.trans hb2); clear hu2 hb2)
            rw [← HQ.out] at HN2
            go_roundg g
            case measure => omega
            case rel => exact ⟨j + 1, _, by omega, rfl, by go_num, HB2.out, HN2.out⟩
    · go_enter Tryz.func18, Tryz.ntmps18
      go_wp2_with (first | (go_at_call 33; refine (HR.out _).mono ?_; rintro e w1 ⟨rfl, hb⟩; have HB := Lib.hid (hb.alloc (hb.size)); have hsz1 := hb.size; clear hb) | fail)
      have HB0 := Lib.hid (HB.out (.cells #[.string s1, .string s2, .int .i64 x0, .int .i64 x1, .int .i64 x2, .func (.func k9) #[] #[], .nilFunc] 61))
      clear HB
      generalize World.alloc w1 _ = w2 at HB0 ⊢
      have HS0 : Hid (InE w2 w2.heap.size (.slice none 0 0) []) := inE_nil _ _
      go_loopg [6, 8, 19] 3 (fun gk s f9 i9 wr => ∃ (j : Nat) (V : Value), j + gk = 3 ∧ s = V ∧ i9 = .int .i64 j ∧ Below w2.heap.size w2 wr ∧ InE wr w2.heap.size V (fl12 (X.take j)))
      case atStart => exact ⟨0, _, by omega, rfl, rfl, Below.refl _ _, by simpa [fl12] using HS0.out⟩
      case round =>
        obtain ⟨j, V, hjg, rfl, rfl, hbl, hin⟩ := hrel
        have HBl := Lib.hid hbl
        have HN := Lib.hid hin
        clear hbl hin HS0
        cases gk with
        | zero =>
          have hjz : ¬ ((j : Int) < 3) := by omega
          have hje : j = 3 := by omega
          rw [hje, HAl.out] at HN
          clear hje HNx HIx HLe
          go_wp2_with fail
          go_ret2
          exact ⟨_, rfl, own_rdI HN.out, by intro p c e; rcases HN.out.2 with ⟨h9, _⟩ | ⟨g, cap, cur, h9, _⟩ <;> rw [h9] at e <;> cases e; rfl, HB0.out.trans (HBl.out.mono HB0.out.size)⟩
        | succ g =>
          have hjz : (j : Int) < 3 := by omega
          have hj : j < 3 := by omega
          have hix := HIx.out j hj
          have hnx := HNx.out j hj
          have hle := HLe.out j
          have hszw := HBl.out.size
          have hwi : IntKind.i64.wrap ((j : Int) + 1) = (j : Int) + 1 := by rw [IntKind.wrap_i64]; omega
          generalize X.getD j 0 = y at hix hnx
          by_cases hy : y = 0
          · have k2 : (y != 0) = false := by simpa using hy
            rw [if_pos hy] at hnx
            have HN2 : Hid (InE wr w2.heap.size u6 (fl12 (X.take (j + 1)))) := by unfold Hid; rw [hnx]; exact HN.out
            clear hy hnx HN HNx HIx HLe hle
            go_wp2_with fail
            go_roundg g
            case measure => omega
            case rel => exact ⟨j + 1, _, by omega, rfl, by go_num, HBl.out, HN2.out⟩
          · have k2 : (y != 0) = true := by simpa using hy
            rw [if_neg hy] at hnx
            have HQ := Lib.hid hnx
            clear hy hnx HNx HIx HLe
            go_wp2_with (at_builtin; refine wpList_appE (by simp [Region.wanted]) _ _ rfl w2.heap.size _ (fl12 (X.take j)) rfl HN.out y rfl (by omega) hszw ?_; intro u2 w3 hu2 hb2; have HN2 := Lib.hid hu2; have HB2 := Lib.hid (HBl.out.trans hb2); clear hu2 hb2)
            rw [← HQ.out] at HN2
            go_roundg g
            case measure => omega
            case rel => exact ⟨j + 1, _, by omega, rfl, by go_num, HB2.out, HN2.out⟩
    · go_enter Tryz.func18, Tryz.ntmps18
      go_wp2_with (first | (go_at_call 33; refine (HR.out _).mono ?_; rintro e w1 ⟨rfl, hb⟩; have HB := Lib.hid (hb.alloc (hb.size)); have hsz1 := hb.size; clear hb) | fail)
      have HB0 := Lib.hid (HB.out (.cells #[.string s1, .string s2, .int .i64 x0, .int .i64 x1, .int .i64 x2, .nilFunc, .func (.func k9) #[] #[]] 61))
      clear HB
      generalize World.alloc w1 _ = w2 at HB0 ⊢
      have HS0 : Hid (InE w2 w2.heap.size (.slice none 0 0) []) := inE_nil _ _
      go_loopg [6, 8, 19] 3 (fun gk s f9 i9 wr => ∃ (j : Nat) (V : Value), j + gk = 3 ∧ s = V ∧ i9 = .int .i64 j ∧ Below w2.heap.size w2 wr ∧ InE wr w2.heap.size V (fl12 (X.take j)))
      case atStart => exact ⟨0, _, by omega, rfl, rfl, Below.refl _ _, by simpa [fl12] using HS0.out⟩
      case round =>
        obtain ⟨j, V, hjg, rfl, rfl, hbl, hin⟩ := hrel
        have HBl := Lib.hid hbl
        have HN := Lib.hid hin
        clear hbl hin HS0
        cases gk with
        | zero =>
          have hjz : ¬ ((j : Int) < 3) := by omega
          have hje : j = 3 := by omega
          rw [hje, HAl.out] at HN
          clear hje HNx HIx HLe
          go_wp2_with fail
          go_ret2
          exact ⟨_, rfl, own_rdI HN.out, by intro p c e; rcases HN.out.2 with ⟨h9, _⟩ | ⟨g, cap, cur, h9, _⟩ <;> rw [h9] at e <;> cases e; rfl, HB0.out.trans (HBl.out.mono HB0.out.size)⟩
        | succ g =>
          have hjz : (j : Int) < 3 := by omega
          have hj : j < 3 := by omega
          have hix := HIx.out j hj
          have hnx := HNx.out j hj
          have hle := HLe.out j
          have hszw := HBl.out.size
          have hwi : IntKind.i64.wrap ((j : Int) + 1) = (j : Int) + 1 := by rw [IntKind.wrap_i64]; omega
          generalize X.getD j 0 = y at hix hnx
          by_cases hy : y = 0
          · have k2 : (y != 0) = false := by simpa using hy
            rw [if_pos hy] at hnx
            have HN2 : Hid (InE wr w2.heap.size u6 (fl12 (X.take (j + 1)))) := by unfold Hid; rw [hnx]; exact HN.out
            clear hy hnx HN HNx HIx HLe hle
            go_wp2_with fail
            go_roundg g
            case measure => omega
            case rel => exact ⟨j + 1, _, by omega, rfl, by go_num, HBl.out, HN2.out⟩
          · have k2 : (y != 0) = true := by simpa using hy
            rw [if_neg hy] at hnx
            have HQ := Lib.hid hnx
            clear hy hnx HNx HIx HLe
            go_wp2_with (at_builtin; refine wpList_appE (by simp [Region.wanted]) _ _ rfl w2.heap.size _ (fl12 (X.take j)) rfl HN.out y rfl (by omega) hszw ?_; intro u2 w3 hu2 hb2; have HN2 := Lib.hid hu2; have HB2 := Lib.hid (HBl.out.trans hb2); clear hu2 hb2)
            rw [← HQ.out] at HN2
            go_roundg g
            case measure => omega
            case rel => exact ⟨j + 1, _, by omega, rfl, by go_num, HB2.out, HN2.out⟩
end Go.Proofs.YtpbfbejckhbijaaGreatDoor
