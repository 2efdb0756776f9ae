/- Lists of rows; slices.Grow of nothing, slices.Concat. -/
import Derived.Test.YtbeoigmaieiigaaDoorArI
import Derived.Lib.AppendZerosOnto
import Derived.Lib.SliceRun
import Derived.Lib.Walk
namespace Go.Proofs.YtbeoigmaieiigaaDoor
open Go.RowKit

/-- A slice of rows that can be read. -/
def RdM (B : Nat) (w : World) (v : Value) (l : List (List Int)) : Prop :=
  ∃ a cap, v = .slice a l.length cap ∧ (l.length ≤ cap ∧ cap ≤ 9223372036854775807) ∧ (l ≠ [] → ∃ b off, a = some ⟨b, off, none⟩ ∧ b < B ∧ ∀ j (h : j < l.length), ∃ u, w.cell? ⟨b, off + j, none⟩ = some u ∧ RdI B w u l[j] ∧ Ru.NilC u)
theorem RdM.below {B : Nat} {w w' : World} {v : Value} {l : List (List Int)} (h : RdM B w v l) (hb : Below B w w') : RdM B w' v l := by
  obtain ⟨a, cap, hv, hc, h⟩ := h
  refine ⟨a, cap, hv, hc, fun hn => ?_⟩
  obtain ⟨b, off, ha, hlt, hcell⟩ := h hn
  refine ⟨b, off, ha, hlt, fun j hj => ?_⟩
  obtain ⟨u, h1, h2, h3⟩ := hcell j hj
  exact ⟨u, (hb.cell (p := ⟨b, off + j, none⟩) hlt).trans h1, h2.below hb, h3⟩
theorem RdM.mono {B B' : Nat} {w : World} {v : Value} {l : List (List Int)} (h : RdM B w v l) (hB : B ≤ B') : RdM B' w v l := by
  obtain ⟨a, cap, hv, hc, h⟩ := h
  refine ⟨a, cap, hv, hc, fun hn => ?_⟩
  obtain ⟨b, off, ha, hlt, hcell⟩ := h hn
  refine ⟨b, off, ha, Nat.lt_of_lt_of_le hlt hB, fun j hj => ?_⟩
  obtain ⟨u, h1, h2, h3⟩ := hcell j hj
  exact ⟨u, h1, h2.mono hB, h3⟩
theorem RdM.next {w w' : World} {v : Value} {l : List (List Int)} (h : RdM w.heap.size w v l) (hb : Below w.heap.size w w') : RdM w'.heap.size w' v l := (h.below hb).mono hb.size
theorem RdM.cells {B : Nat} {w : World} {p : Option Addr} {n cap : Nat} {l : List (List Int)} (h : RdM B w (.slice p n cap) l) (hne : l ≠ []) : ∃ b off, p = some ⟨b, off, none⟩ ∧ b < B ∧ ∀ j (hj : j < l.length), ∃ u, w.cell? ⟨b, off + j, none⟩ = some u ∧ RdI B w u l[j] ∧ Ru.NilC u := by
  obtain ⟨p', cap', h1, _, h3⟩ := h
  cases h1
  exact h3 hne
theorem ins_form {B : Nat} {w : World} {v : Value} {l : List Int} (h : Ru.Ins 2 w B v l) : ∃ a c, v = .slice a l.length c := by
  obtain ⟨a, c, h1, _⟩ := (ins_new h).form
  exact ⟨a, c, h1⟩

/-- The numbers of the rows, one after the other. -/
def flt (l : List (List Int)) : List Int := l.flatten
theorem flt_take {l : List (List Int)} {j : Nat} (h : j < l.length) : flt (l.take (j + 1)) = flt (l.take j) ++ l[j] := by
  unfold flt
  rw [List.take_succ_eq_append_getElem h, List.flatten_append, List.flatten_cons, List.flatten_nil, List.append_nil]
theorem flt_le (l : List (List Int)) (j : Nat) : (flt (l.take j)).length ≤ (flt l).length := by
  conv => rhs; rw [← List.take_append_drop j l]
  unfold flt
  rw [List.flatten_append, List.length_append]; omega

end Go.Proofs.YtbeoigmaieiigaaDoor
