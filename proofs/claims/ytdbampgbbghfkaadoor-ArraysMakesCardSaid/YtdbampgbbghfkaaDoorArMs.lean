/- How a slice of rows opens as an argument. -/
import Derived.Test.YtdbampgbbghfkaaDoorArLaid
import Derived.Test.YtdbampgbbghfkaaDoorArM
import Derived.Deep.Slices
namespace Go.Proofs.YtdbampgbbghfkaaDoor
set_option maxRecDepth 100000
open Go.ChangeShapes Go.WideShapes Go.ChangeAt Go.RowKit Go.Lib Go.Joins
theorem cmw : Tryd.prog.cellsOf 22 = 1 := by kernel_rfl
section
variable {H : Type} {enc : TypeId × Value → H}
theorem read_ms {W : World} {n : Nat} {v : Value} {y : DataW H × List MemPlace} (hf : DataW.trod enc Tryd.prog W 0 (fun _ => true) true n 23 [v] = some y) :
    ∃ l : List (List Int), RdM W.heap.size W v l := by
  rcases Go.Deep.open_slice1 Tryd.underlying23 cmw hf with ⟨hcs, hx⟩ | ⟨a, len, cap, m, n', V, D, Pl, hcs, hba, hl, hm, hmm, hx, hcell⟩
  · simp at hcs
    subst hcs
    exact ⟨[], ⟨Option.none, 0, rfl, ⟨Nat.le_refl _, by omega⟩, fun h => absurd rfl h⟩⟩
  · simp at hcs
    subst hcs
    simp only [if_true] at hmm
    subst hmm
    obtain ⟨f, hf'⟩ := Go.Deep.choose_lt (n := len) (p := fun i (zs : List Int) => RdI W.heap.size W (V i) zs ∧ Ru.NilC (V i)) (fun i hi => read_is (hcell i (by omega)).2)
    have hlen : ((List.range len).map f).length = len := by simp
    obtain ⟨ab, ao, spot⟩ := a
    have hspot : 0 < m → spot = Option.none := fun h => by simpa [Addr.add] using World.cell?_spot (hcell 0 h).1
    refine ⟨(List.range len).map f, ⟨some ⟨ab, ao, spot⟩, m, by rw [hlen], ⟨by rw [hlen]; exact hl, by unfold maxLen at hm; omega⟩, fun hne => ?_⟩⟩
    have hpos : 0 < len := by
      rcases Nat.eq_zero_or_pos len with h | h
      · subst h; simp at hne
      · exact h
    have hs := hspot (by omega)
    subst hs
    have hblk : ab < W.heap.size := by
      have hc := (hcell 0 (by omega)).1
      rw [Addr.add_lit] at hc
      exact block_lt_of_cell hc
    refine ⟨ab, ao, rfl, hblk, fun j hj => ?_⟩
    rw [hlen] at hj
    have hc := (hcell j (by omega)).1
    rw [Addr.add_lit] at hc
    refine ⟨V j, hc, ?_, (hf' j hj).2⟩
    simpa using (hf' j hj).1
theorem open_ms {W : World} {base : Nat} {v : Value} {d : DataW H} {p : List MemPlace} (hval : Value.okWide Tryd.prog W .any base 23 v) (h1 : DataW.Trod enc Tryd.prog W 0 (fun _ => true) true 23 v d p) :
    ∃ l, RdM W.heap.size W v l ∧ ∀ W', Below W.heap.size W W' → DataW.Trod enc Tryd.prog W' 0 (fun b => decide (b < W.heap.size)) true 23 v d p := by
  have hs := shut_any (by kernel_rfl) (of_decide_eq_true (by kernel_rfl)) h1
  obtain ⟨a1, len, cap, rfl⟩ := okWide_slice Tryd.underlying23 hval
  obtain ⟨fuel, hf⟩ := h1
  obtain ⟨l, hl⟩ := read_ms (by simpa [Value.cells] using hf)
  exact ⟨l, hl, hs⟩
end
end Go.Proofs.YtdbampgbbghfkaaDoor
