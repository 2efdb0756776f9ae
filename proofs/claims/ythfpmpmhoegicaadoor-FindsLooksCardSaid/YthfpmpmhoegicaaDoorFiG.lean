/- The reference's At, has and In. -/
import Derived.Test.YthfpmpmhoegicaaDoorFiF
import Derived.Deep.QuietTactic
namespace Go.Proofs.YthfpmpmhoegicaaDoor
open Go.RowKit

theorem ins_nexti {w w' : World} {B : Nat} {v : Value} {l : List Int} (h : Ru.Ins 2 w B v l) (hb : Below w.heap.size w w') : Ru.Ins 2 w' B v l := by
  obtain ⟨h1, h2⟩ := h
  refine ⟨h1, ?_⟩
  rcases h2 with h2 | ⟨g, cap, cur, hv, hg, hh, r⟩
  · exact .inl h2
  · exact .inr ⟨g, cap, cur, hv, hg, (hb.block g (Array.getElem?_eq_some_iff.1 hh).1).trans hh, r⟩
theorem ins_fari {w : World} {B : Nat} {v : Value} {l : List Int} (h : Ru.Ins 2 w B v l) {c : Nat} (hc : c < B) (i : Nat) (u : Value) : Ru.Ins 2 (w.setCell ⟨c, i, none⟩ u) B v l := by
  obtain ⟨h1, h2⟩ := h
  refine ⟨h1, ?_⟩
  rcases h2 with h2 | ⟨g, cap, cur, hv, hg, hh, r⟩
  · exact .inl h2
  · exact .inr ⟨g, cap, cur, hv, hg, (blkO _ _ _ _ (by omega)).trans hh, r⟩
/-- What the loops keep: the operands, and the result in a box of the call's own. -/
structure KO2 (w : World) (A : Ar) (v : Value) (B : Ar) (u : Value) (g : Nat) (k r a b : Int) (s : Value) (l : List Int) (W : World) : Prop where
  m : MK2 w A v B u W
  box : R5 W g k r a b s
  own : Ru.Ins 2 W (g + 1) s l
  gw : w.heap.size + 3 ≤ g
theorem KO2.sz {w W : World} {A B : Ar} {v u s : Value} {g : Nat} {k r a b : Int} {l : List Int} (h : KO2 w A v B u g k r a b s l W) : g + 1 ≤ W.heap.size := h.box.lt
theorem KO2.next {w W W' : World} {A B : Ar} {v u s : Value} {g : Nat} {k r a b : Int} {l : List Int} (h : KO2 w A v B u g k r a b s l W) (hb : Below W.heap.size W W') : KO2 w A v B u g k r a b s l W' :=
  ⟨h.m.next hb, h.box.next hb, ins_nexti h.own hb, h.gw⟩
theorem R5.put4' {w : World} {g : Nat} {k r a b : Int} {v : Value} (h : R5 w g k r a b v) (v' : Value) : R5 (w.setCell ⟨g, 4, none⟩ v') g k r a b v' := by
  unfold R5 at h ⊢
  simp [World.setCell, Array.getElem?_modify, h]
/-- An append, and its store. -/
theorem KO2.put {w W W' : World} {A B : Ar} {v u s s' : Value} {g : Nat} {k r a b : Int} {l l' : List Int} (h : KO2 w A v B u g k r a b s l W) (hw : 0 + 1 ≤ w.heap.size) (hi : Ru.Ins 2 W' (g + 1) s' l') (hb : Below (g + 1) W W') :
    KO2 w A v B u g k r a b s' l' (W'.setCell ⟨g, 4, none⟩ s') := by
  have h3 : Below (w.heap.size + 3) W (W'.setCell ⟨g, 4, none⟩ s') := (hb.mono (by have := h.gw; omega)).setCell (p := ⟨g, 4, none⟩) h.gw _
  exact ⟨h.m.far h3 (h.m.c.lay.below (by omega) h3), (h.box.below (by omega) hb).put4' s', ins_fari hi (by omega) 4 s', h.gw⟩
set_option maxRecDepth 100000 in
set_option maxHeartbeats 4000000 in
theorem has_any (z : List Int) (v : Value) (x : Int) (w : World) (hv : RdI w.heap.size w v z) (hl : z.length ≤ 1000000) :
    Calls Tryd.prog 57 #[v, .int .i64 x] w fun e w' => e = .returned (.bool (decide (x ∈ z))) ∧ w = w' := by
  have HV := Lib.hid hv
  obtain ⟨p, cap, rfl, hcap, hcap2, hcell⟩ := hv
  clear hcell
  go_enter Tryd.func57, Tryd.ntmps57
  go_wp2
  go_loopg [5] z.length (fun gk i wr => ∃ j : Nat, j + gk = z.length ∧ i = .int .i64 j ∧ x ∉ z.take j ∧ w = wr)
  case atStart => exact ⟨0, by omega, rfl, by simp, rfl⟩
  case round =>
    obtain ⟨j, hjg, rfl, hno, rfl⟩ := hrel
    have HNo := Lib.hid hno
    clear hno
    cases gk with
    | zero =>
      have hjz : ¬ ((j : Int) < (z.length : Int)) := by omega
      have HE : Hid (decide (x ∈ z) = false) := by
        have h := HNo.out
        rw [List.take_of_length_le (by omega)] at h
        exact decide_eq_false h
      go_wp2
      go_ret
      exact ⟨ret_bool HE.out.symm, rfl⟩
    | succ g =>
      have hjz : (j : Int) < (z.length : Int) := by omega
      have hj : j < z.length := by omega
      have hwi : IntKind.i64.wrap ((j : Int) + 1) = (j : Int) + 1 := by rw [IntKind.wrap_i64]; omega
      obtain ⟨bk, off, hp, _, hc⟩ := HV.out.cells (by intro e; rw [e] at hj; simp at hj)
      subst hp
      have x2 := hc j hj
      have hsn : z.take j ++ [z[j]] = z.take (j + 1) := by rw [← takeI_snoc hj, List.getD_eq_getElem?_getD, List.getElem?_eq_getElem hj]; rfl
      have HM : Hid (z[j] ∈ z) := List.getElem_mem hj
      have HSn := Lib.hid hsn
      clear hc hsn
      generalize z[j] = y at x2 HM HSn
      by_cases hy : y = x
      · have k1 : (y == x) = true := by simpa using hy
        have HE : Hid (decide (x ∈ z) = true) := decide_eq_true (hy ▸ HM.out)
        clear hy
        go_wp2
        go_ret
        exact ⟨ret_bool HE.out.symm, rfl⟩
      · have k1 : (y == x) = false := by simpa using hy
        have HN2 : Hid (x ∉ z.take (j + 1)) := by unfold Hid; rw [← HSn.out]; simp only [List.mem_append, List.mem_singleton, not_or]; exact ⟨HNo.out, fun e => hy e.symm⟩
        clear hy
        go_wp2
        go_roundg g
        case measure => omega
        case rel => exact ⟨j + 1, by omega, by go_num, HN2.out, rfl⟩
end Go.Proofs.YthfpmpmhoegicaaDoor
