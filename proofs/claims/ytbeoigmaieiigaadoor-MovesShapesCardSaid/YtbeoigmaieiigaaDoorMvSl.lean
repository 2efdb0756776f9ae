/- How a pair of bytes opens as an argument. -/
import Derived.Test.YtbeoigmaieiigaaDoorMvLaid
namespace Go.Proofs.YtbeoigmaieiigaaDoor
set_option maxRecDepth 100000
open Go.ChangeShapes Go.WideShapes Go.ChangeAt Go.RowKit Go.Lib Go.Joins
theorem c40w : Tryd.prog.cellsOf 40 = 2 := by kernel_rfl
theorem c5w8 : Tryd.prog.cellsOf 5 = 1 := by kernel_rfl
theorem bounds8 {n : Int} (h : (Lit.int IntKind.u8 n).wf = true) : 0 ≤ n ∧ n ≤ 255 := by
  simp [Lit.wf, IntKind.min, IntKind.max, IntKind.signed, IntKind.bits] at h
  omega
section
variable {H : Type} {enc : TypeId × Value → H}
theorem okWide_two8 {W : World} {base : Nat} {v : Value} (h : Value.okWide Tryd.prog W .any base 40 v) : ∃ cs, v = .agg cs ∧ cs.size = 2 := by
  simp only [Value.okWide, Tryd.underlying40] at h
  obtain ⟨cs, h1, h2, _⟩ := h
  exact ⟨cs, h1, h2.trans c40w⟩
theorem trod_two8 {W : World} {sp : Nat → Bool} {n : Nat} {c0 c1 : Value} {y : DataW H × List MemPlace} (h : DataW.trod enc Tryd.prog W 0 sp true n 40 [c0, c1] = some y) :
    ∃ a b : Int, c0 = .int .u8 a ∧ c1 = .int .u8 b ∧ (Lit.int IntKind.u8 a).wf = true ∧ (Lit.int IntKind.u8 b).wf = true := by
  cases n with
  | zero => simp [DataW.trod] at h
  | succ n =>
    simp only [DataW.trod, Tryd.underlying40] at h
    split at h
    · obtain ⟨xs, hm, hx⟩ := Option.map_eq_some_iff.1 h
      obtain ⟨y0, _, h0⟩ := mapM_at hm 0 0 (by simp)
      obtain ⟨y1, _, h1⟩ := mapM_at hm 1 1 (by simp)
      obtain ⟨a, e0, _, w0⟩ := DataW.trod_int Tryd.underlying5 h0
      obtain ⟨b, e1, _, w1⟩ := DataW.trod_int Tryd.underlying5 h1
      rw [c5w8] at e0 e1
      simp at e0 e1
      exact ⟨a, b, e0, e1, w0, w1⟩
    · cases h
theorem open_two8 {W : World} {base : Nat} {v : Value} {d : DataW H} {p : List MemPlace} (hval : Value.okWide Tryd.prog W .any base 40 v) (h1 : DataW.Trod enc Tryd.prog W 0 (fun _ => true) true 40 v d p) :
    ∃ a b : Int, v = .agg #[.int .u8 a, .int .u8 b] ∧ ((0 ≤ a ∧ a ≤ 255) ∧ 0 ≤ b ∧ b ≤ 255) ∧ ∀ W', Below W.heap.size W W' → DataW.Trod enc Tryd.prog W' 0 (fun b => decide (b < W.heap.size)) true 40 v d p := by
  have hs := shut_any (by kernel_rfl) (of_decide_eq_true (by kernel_rfl)) h1
  obtain ⟨cs, rfl, hsz⟩ := okWide_two8 hval
  obtain ⟨c0, c1, rfl⟩ := array2 hsz
  obtain ⟨fuel, hf⟩ := h1
  obtain ⟨a, b, rfl, rfl, w0, w1⟩ := trod_two8 (by simpa [Value.cells] using hf)
  exact ⟨a, b, rfl, ⟨bounds8 w0, bounds8 w1⟩, hs⟩
end
end Go.Proofs.YtbeoigmaieiigaaDoor
