/- The array that is made cell by cell: making.array. -/
import Derived.Test.YthfpmpmhoegicaaDoorExC
namespace Go.Proofs.YthfpmpmhoegicaaDoor
open Go.RowKit

theorem exV_ok {L : Ar} {cs : List (Int × Int)} (h : feL cs = 0) : exV 0 L cs = ⟨1, L.r, L.a, L.b, vsL cs⟩ := by unfold exV exE; rw [if_pos rfl, h]; exact orNo_yes rfl
theorem exV_bad {L : Ar} {cs : List (Int × Int)} (h : feL cs ≠ 0) : exV 0 L cs = Ar.no := by unfold exV exE; rw [if_pos rfl]; exact orNo_no h
/-- A block that holds an error. -/
def R1 (w : World) (g : Nat) (e : Int) : Prop := w.heap[g]? = some (.cells #[.int .i64 e] 28 (0, 0))
section
variable {w : World} {g : Nat} {k r a b e : Int} {v f : Value}
theorem R1.c0 (h : R1 w g e) : w.cell? ⟨g, 0, none⟩ = some (.int .i64 e) := by unfold R1 at h; simp [World.cell?, h]
theorem R1.fr (h : R1 w g e) : w.frozen? ⟨g, 0, none⟩ = false := Lib.frozen_of_heap h 0
theorem R1.lt (h : R1 w g e) : g < w.heap.size := by unfold R1 at h; exact (Array.getElem?_eq_some_iff.1 h).1
theorem R1.put (h : R1 w g e) (e' : Int) : R1 (w.setCell ⟨g, 0, none⟩ (.int .i64 e')) g e' := by
  unfold R1 at h ⊢
  simp [World.setCell, Array.getElem?_modify, h]
theorem R1.next {w' : World} (h : R1 w g e) (hb : Below w.heap.size w w') : R1 w' g e := (hb.block g h.lt).trans h
theorem R1.new (w : World) (e : Int) : R1 (w.alloc (.cells #[.int .i64 e] 28)) w.heap.size e := heap_alloc_last w _
theorem R5.setO {k r a b : Int} {v : Value} (h : R5 w g k r a b v) {g' : Nat} (hg : g' ≠ g) (i : Nat) (u : Value) : R5 (w.setCell ⟨g', i, none⟩ u) g k r a b v := (blkO w g' i u hg.symm).trans h
theorem RdN.put1 {B : Nat} {l : List Int} (h : RdN B w v l) (hg : g < B) (i : Nat) (u : Value) : RdN B (w.setCell ⟨g, i, none⟩ u) v l :=
  h.keep (Nat.le_of_eq (by simp)) fun c hc _ => blkO w g i u (by omega)
theorem R1.alloc (h : R1 w g e) (o : Obj) : R1 (w.alloc o) g e := h.next (bel1 _ _)
end
end Go.Proofs.YthfpmpmhoegicaaDoor
