/- The reference's At, has and In. -/
import Derived.Test.YtpbfbejckhbijaaDoorFiF
import Derived.Deep.QuietTactic
namespace Go.Proofs.YtpbfbejckhbijaaDoor
open Go.RowKit

theorem ins_nexti {w w' : World} {B : Nat} {v : Value} {l : List Int} (h : Ru.Ins 2 w B v l) (hb : Below w.heap.size w w') : Ru.Ins 2 w' B v l := by
  obtain ⟨h1, h2⟩ := h
  refine ⟨h1, ?_⟩
  rcases h2 with h2 | ⟨g, cap, cur, hv, hg, hh, r⟩
  · exact .inl h2
  · exact .inr ⟨g, cap, cur, hv, hg, (hb.block g (Array.getElem?_eq_some_iff.1 hh).1).trans hh, r⟩
theorem ins_fari {w : World} {B : Nat} {v : Value} {l : List Int} (h : Ru.Ins 2 w B v l) {c : Nat} (hc : c < B) (i : Nat) (u : Value) : Ru.Ins 2 (w.setCell ⟨c, i, none⟩ u) B v l := by
  obtain ⟨h1, h2⟩ := h
  refine ⟨h1, ?_⟩
  rcases h2 with h2 | ⟨g, cap, cur, hv, hg, hh, r⟩
  · exact .inl h2
  · exact .inr ⟨g, cap, cur, hv, hg, (blkO _ _ _ _ (by omega)).trans hh, r⟩
/-- What the loops keep: the operands, and the result in a box of the call's own. -/
structure KO2 (w : World) (A : Ar) (v : Value) (B : Ar) (u : Value) (g : Nat) (k r a b : Int) (s : Value) (l : List Int) (W : World) : Prop where
  m : MK2 w A v B u W
  box : R5 W g k r a b s
  own : Ru.Ins 2 W (g + 1) s l
  gw : w.heap.size + 3 ≤ g
theorem KO2.sz {w W : World} {A B : Ar} {v u s : Value} {g : Nat} {k r a b : Int} {l : List Int} (h : KO2 w A v B u g k r a b s l W) : g + 1 ≤ W.heap.size := h.box.lt
theorem KO2.next {w W W' : World} {A B : Ar} {v u s : Value} {g : Nat} {k r a b : Int} {l : List Int} (h : KO2 w A v B u g k r a b s l W) (hb : Below W.heap.size W W') : KO2 w A v B u g k r a b s l W' :=
  ⟨h.m.next hb, h.box.next hb, ins_nexti h.own hb, h.gw⟩
theorem R5.put4' {w : World} {g : Nat} {k r a b : Int} {v : Value} (h : R5 w g k r a b v) (v' : Value) : R5 (w.setCell ⟨g, 4, none⟩ v') g k r a b v' := by
  unfold R5 at h ⊢
  simp [World.setCell, Array.getElem?_modify, h]
/-- An append, and its store. -/
theorem KO2.put {w W W' : World} {A B : Ar} {v u s s' : Value} {g : Nat} {k r a b : Int} {l l' : List Int} (h : KO2 w A v B u g k r a b s l W) (hw : 0 + 1 ≤ w.heap.size) (hi : Ru.Ins 2 W' (g + 1) s' l') (hb : Below (g + 1) W W') :
    KO2 w A v B u g k r a b s' l' (W'.setCell ⟨g, 4, none⟩ s') := by
  have h3 : Below (w.heap.size + 3) W (W'.setCell ⟨g, 4, none⟩ s') := (hb.mono (by have := h.gw; omega)).setCell (p := ⟨g, 4, none⟩) h.gw _
  exact ⟨h.m.far h3 (h.m.c.lay.below (by omega) h3), (h.box.below (by omega) hb).put4' s', ins_fari hi (by omega) 4 s', h.gw⟩
end Go.Proofs.YtpbfbejckhbijaaDoor
