/- How an array opens as an argument, with the bounds of its cells. -/
import Derived.Test.YtpbfbejckhbijaaGreatDoorArLaid
import Derived.Test.YtpbfbejckhbijaaGreatDoorMvA
namespace Go.Proofs.YtpbfbejckhbijaaGreatDoor
set_option maxRecDepth 100000
open Go.ChangeShapes Go.WideShapes Go.ChangeAt Go.RowKit Go.Lib Go.Joins
/-- The bounds of cells. -/
def CellB (z : List Int) : Prop := ∀ m ∈ z, -9223372036854775808 ≤ m ∧ m ≤ 9223372036854775807
theorem fst1_bound {A : Ar} (h : CellB A.z) : -9223372036854775808 ≤ fst1 A ∧ fst1 A ≤ 9223372036854775807 := by
  unfold fst1
  rcases hz : A.z with _ | ⟨x, l⟩
  · simp
  · have := h x (by rw [hz]; simp)
    simpa using this
section
variable {H : Type} {enc : TypeId × Value → H}
theorem read_isB {W : World} {n : Nat} {v : Value} {y : DataW H × List MemPlace} (hf : DataW.trod enc Tryz.prog W 0 (fun _ => true) true n 41 [v] = some y) :
    ∃ l : List Int, RdI W.heap.size W v l ∧ Ru.NilC v ∧ CellB l := by
  rcases open_ints Tryz.underlying41 Tryz.underlying2 c2w hf with ⟨hcs, hx⟩ | ⟨a, len, cap, zs, hcs, hba, hl, hm, hz, hx, hcell, hwz⟩
  · simp at hcs
    subst hcs
    exact ⟨[], ⟨Option.none, 0, rfl, Nat.le_refl _, by omega, fun h => absurd rfl h⟩, (by intro n c e; cases e; rfl), fun _ h => by simp at h⟩
  · simp at hcs
    subst hcs
    simp only [if_true] at hz
    have hlen : (zs.take len).length = len := by simp; omega
    obtain ⟨ab, ao, spot⟩ := a
    have hspot : 0 < zs.length → spot = Option.none := fun h => by simpa [Addr.add] using World.cell?_spot (hcell 0 h)
    have hblk : 0 < zs.length → ab < W.heap.size := fun h => by
      have hc := hcell 0 h
      rw [hspot h, Addr.add_lit] at hc
      exact block_lt_of_cell hc
    refine ⟨zs.take len, ⟨some ⟨ab, ao, spot⟩, cap, by rw [hlen], by rw [hlen]; exact hl, by unfold maxLen at hm; omega, fun hne => ?_⟩, (by intro n c e; cases e), fun m hm2 => bounds64 (hwz m (List.mem_of_mem_take hm2))⟩
    have hpos : 0 < len := by
      rcases Nat.eq_zero_or_pos len with h | h
      · subst h; simp at hne
      · exact h
    have hs := hspot (by omega)
    subst hs
    refine ⟨ab, ao, rfl, hblk (by omega), fun j hj => ?_⟩
    rw [hlen] at hj
    have hcj := hcell j (by omega)
    rw [Addr.add_lit] at hcj
    rw [hcj]
    have e : zs[j]?.getD 0 = zs[j]'(by omega) := by simp [List.getElem?_eq_getElem (show j < zs.length by omega)]
    rw [List.getD_eq_getElem?_getD, e, List.getElem_take]
theorem trod_arrB {W : World} {n : Nat} {c0 c1 c2 c3 c4 : Value} {x : DataW H × List MemPlace} (h : DataW.trod enc Tryz.prog W 0 (fun _ => true) true n 43 [c0, c1, c2, c3, c4] = some x) :
    ∃ k r a b : Int, c0 = .int .i64 k ∧ c1 = .int .i64 r ∧ c2 = .int .i64 a ∧ c3 = .int .i64 b ∧ ((Lit.int IntKind.i64 k).wf = true ∧ (Lit.int IntKind.i64 r).wf = true ∧ (Lit.int IntKind.i64 a).wf = true ∧ (Lit.int IntKind.i64 b).wf = true) ∧ ∃ z, RdI W.heap.size W c4 z ∧ Ru.NilC c4 ∧ CellB z := by
  obtain ⟨y0, y1, y2, y3, m, _, _, h0, h1, h2, h3⟩ := trod_struct4 Tryz.underlying43 h
  obtain ⟨k, e0, _, w0⟩ := DataW.trod_int Tryz.underlying3 h0
  obtain ⟨r, e1, _, w1⟩ := DataW.trod_int Tryz.underlying3 h1
  rw [c3w] at e0 e1
  simp at e0 e1
  obtain ⟨a, b, ea, eb, w2, w3⟩ := trod_arr2 (by simpa [c22w] using h2)
  obtain ⟨z, hz, hn⟩ := read_isB (by simpa [c23w] using h3)
  exact ⟨k, r, a, b, e0, e1, ea, eb, ⟨w0, w1, w2, w3⟩, z, hz, hn⟩
theorem open_arrB {W : World} {base : Nat} {v : Value} {d : DataW H} {p : List MemPlace} (hval : Value.okWide Tryz.prog W .any base 43 v) (h1 : DataW.Trod enc Tryz.prog W 0 (fun _ => true) true 43 v d p) :
    ∃ (A : Ar) (u : Value), v = A5 A.k A.r A.a A.b u ∧ RdI W.heap.size W u A.z ∧ Ru.NilC u ∧ (BdA A ∧ CellB A.z) ∧ ∀ W', Below W.heap.size W W' → DataW.Trod enc Tryz.prog W' 0 (fun b => decide (b < W.heap.size)) true 43 v d p := by
  have hs := shut_any (by kernel_rfl) (of_decide_eq_true (by kernel_rfl)) h1
  obtain ⟨cs, rfl, hsz⟩ := okWide_struct Tryz.underlying43 hval
  obtain ⟨c0, c1, c2, c3, c4, rfl⟩ := array5 (hsz.trans c25w)
  obtain ⟨fuel, hf⟩ := h1
  obtain ⟨k, r, a, b, rfl, rfl, rfl, rfl, ⟨w0, w1, w2, w3⟩, z, hz, hn, hc⟩ := trod_arrB (by simpa [Value.cells] using hf)
  exact ⟨⟨k, r, a, b, z⟩, c4, rfl, hz, hn, ⟨⟨⟨bounds64 w0, bounds64 w1⟩, bounds64 w2, bounds64 w3⟩, hc⟩, hs⟩
theorem open_isB {W : World} {base : Nat} {v : Value} {d : DataW H} {p : List MemPlace} (hval : Value.okWide Tryz.prog W .any base 41 v) (h1 : DataW.Trod enc Tryz.prog W 0 (fun _ => true) true 41 v d p) :
    ∃ zs, RdI W.heap.size W v zs ∧ Ru.NilC v ∧ CellB zs ∧ ∀ W', Below W.heap.size W W' → DataW.Trod enc Tryz.prog W' 0 (fun b => decide (b < W.heap.size)) true 41 v d p := by
  have hs := shut_any (by kernel_rfl) (of_decide_eq_true (by kernel_rfl)) h1
  obtain ⟨a1, len, cap, rfl⟩ := okWide_slice Tryz.underlying41 hval
  obtain ⟨fuel, hf⟩ := h1
  obtain ⟨zs, hz, hn, hc⟩ := read_isB (by simpa [Value.cells] using hf)
  exact ⟨zs, hz, hn, hc, hs⟩
end
end Go.Proofs.YtpbfbejckhbijaaGreatDoor
