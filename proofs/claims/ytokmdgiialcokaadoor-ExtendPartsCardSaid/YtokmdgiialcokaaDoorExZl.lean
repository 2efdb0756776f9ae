/- How an array with a place beside it opens as an argument. -/
import Derived.Test.YtokmdgiialcokaaDoorMvLaid
namespace Go.Proofs.YtokmdgiialcokaaDoor
set_option maxRecDepth 100000
open Go.ChangeShapes Go.WideShapes Go.ChangeAt Go.RowKit Go.Lib Go.Joins
theorem c6cut : Tryd.prog.cellsOf 40 = 6 := by kernel_rfl
theorem c1u16 : Tryd.prog.cellsOf 38 = 1 := by kernel_rfl
theorem bounds16 {n : Int} (h : (Lit.int IntKind.u16 n).wf = true) : 0 ≤ n ∧ n ≤ 65535 := by
  simp [Lit.wf, IntKind.min, IntKind.max, IntKind.signed, IntKind.bits] at h
  omega
theorem array6cut {cs : Array Value} (h : cs.size = 6) : ∃ c0 c1 c2 c3 c4 c5, cs = #[c0, c1, c2, c3, c4, c5] := by
  obtain ⟨l⟩ := cs
  rcases l with _ | ⟨c0, _ | ⟨c1, _ | ⟨c2, _ | ⟨c3, _ | ⟨c4, _ | ⟨c5, _ | ⟨c6, l⟩⟩⟩⟩⟩⟩⟩ <;> simp at h
  exact ⟨c0, c1, c2, c3, c4, c5, rfl⟩
section
variable {H : Type} {enc : TypeId × Value → H}
theorem open_cutB {W : World} {base : Nat} {v : Value} {d : DataW H} {p : List MemPlace} (hval : Value.okWide Tryd.prog W .any base 40 v) (h1 : DataW.Trod enc Tryd.prog W 0 (fun _ => true) true 40 v d p) :
    ∃ (A : Ar) (u : Value) (n : Int), v = .agg #[.int .i64 A.k, .int .i64 A.r, .int .i64 A.a, .int .i64 A.b, u, .int .u16 n] ∧ RdI W.heap.size W u A.z ∧ Ru.NilC u ∧ CellB A.z ∧ (0 ≤ n ∧ n ≤ 65535) ∧ ∀ W', Below W.heap.size W W' → DataW.Trod enc Tryd.prog W' 0 (fun b => decide (b < W.heap.size)) true 40 v d p := by
  have hs := shut_any (by kernel_rfl) (of_decide_eq_true (by kernel_rfl)) h1
  obtain ⟨cs, rfl, hsz⟩ := okWide_struct Tryd.underlying40 hval
  obtain ⟨c0, c1, c2, c3, c4, c5, rfl⟩ := array6cut (hsz.trans c6cut)
  obtain ⟨fuel, hf⟩ := h1
  obtain ⟨y0, y1, m, _, _, h0, h5⟩ := trod_struct2 Tryd.underlying40 (by simpa [Value.cells] using hf)
  obtain ⟨k, r, a, b, rfl, rfl, rfl, rfl, _, z, hz, hn, hc⟩ := trod_arrB (by simpa [c25w] using h0)
  obtain ⟨n, e5, _, w5⟩ := DataW.trod_int Tryd.underlying38 h5
  rw [c1u16] at e5
  simp at e5
  subst e5
  exact ⟨⟨k, r, a, b, z⟩, c4, n, rfl, hz, hn, hc, bounds16 w5, hs⟩
end
end Go.Proofs.YtokmdgiialcokaaDoor
