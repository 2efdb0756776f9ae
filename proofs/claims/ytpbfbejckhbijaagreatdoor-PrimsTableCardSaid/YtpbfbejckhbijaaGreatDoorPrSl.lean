/- How four bytes open as an argument. -/
import Derived.Test.YtpbfbejckhbijaaGreatDoorMvLaid
namespace Go.Proofs.YtpbfbejckhbijaaGreatDoor
set_option maxRecDepth 100000
open Go.ChangeShapes Go.WideShapes Go.ChangeAt Go.RowKit Go.Lib Go.Joins
theorem c44w : Tryz.prog.cellsOf 50 = 4 := by kernel_rfl
theorem c5w48 : Tryz.prog.cellsOf 5 = 1 := by kernel_rfl
theorem bounds48 {n : Int} (h : (Lit.int IntKind.u8 n).wf = true) : 0 ≤ n ∧ n ≤ 255 := by
  simp [Lit.wf, IntKind.min, IntKind.max, IntKind.signed, IntKind.bits] at h
  omega
theorem array4 {cs : Array Value} (h : cs.size = 4) : ∃ a b c d, cs = #[a, b, c, d] := by
  obtain ⟨l⟩ := cs
  match l, h with
  | [a, b, c, d], _ => exact ⟨a, b, c, d, rfl⟩
section
variable {H : Type} {enc : TypeId × Value → H}
theorem okWide_four8 {W : World} {base : Nat} {v : Value} (h : Value.okWide Tryz.prog W .any base 50 v) : ∃ cs, v = .agg cs ∧ cs.size = 4 := by
  simp only [Value.okWide, Tryz.underlying50] at h
  obtain ⟨cs, h1, h2, _⟩ := h
  exact ⟨cs, h1, h2.trans c44w⟩
theorem trod_four8 {W : World} {sp : Nat → Bool} {n : Nat} {c0 c1 c2 c3 : Value} {y : DataW H × List MemPlace} (h : DataW.trod enc Tryz.prog W 0 sp true n 50 [c0, c1, c2, c3] = some y) :
    ∃ a b c d : Int, c0 = .int .u8 a ∧ c1 = .int .u8 b ∧ c2 = .int .u8 c ∧ c3 = .int .u8 d ∧ (Lit.int IntKind.u8 a).wf = true ∧ (Lit.int IntKind.u8 b).wf = true ∧ (Lit.int IntKind.u8 c).wf = true ∧ (Lit.int IntKind.u8 d).wf = true := by
  cases n with
  | zero => simp [DataW.trod] at h
  | succ n =>
    simp only [DataW.trod, Tryz.underlying50] at h
    split at h
    · obtain ⟨xs, hm, hx⟩ := Option.map_eq_some_iff.1 h
      obtain ⟨y0, _, h0⟩ := mapM_at hm 0 0 (by simp)
      obtain ⟨y1, _, h1⟩ := mapM_at hm 1 1 (by simp)
      obtain ⟨y2, _, h2⟩ := mapM_at hm 2 2 (by simp)
      obtain ⟨y3, _, h3⟩ := mapM_at hm 3 3 (by simp)
      obtain ⟨c, e2, _, w2⟩ := DataW.trod_int Tryz.underlying5 h2
      obtain ⟨d, e3, _, w3⟩ := DataW.trod_int Tryz.underlying5 h3
      obtain ⟨a, e0, _, w0⟩ := DataW.trod_int Tryz.underlying5 h0
      obtain ⟨b, e1, _, w1⟩ := DataW.trod_int Tryz.underlying5 h1
      rw [c5w48] at e0 e1 e2 e3
      simp at e0 e1 e2 e3
      exact ⟨a, b, c, d, e0, e1, e2, e3, w0, w1, w2, w3⟩
    · cases h
theorem open_four8 {W : World} {base : Nat} {v : Value} {d : DataW H} {p : List MemPlace} (hval : Value.okWide Tryz.prog W .any base 50 v) (h1 : DataW.Trod enc Tryz.prog W 0 (fun _ => true) true 50 v d p) :
    ∃ a b c k : Int, v = .agg #[.int .u8 a, .int .u8 b, .int .u8 c, .int .u8 k] ∧ ((0 ≤ a ∧ a ≤ 255) ∧ (0 ≤ b ∧ b ≤ 255) ∧ (0 ≤ c ∧ c ≤ 255) ∧ 0 ≤ k ∧ k ≤ 255) ∧ ∀ W', Below W.heap.size W W' → DataW.Trod enc Tryz.prog W' 0 (fun b => decide (b < W.heap.size)) true 50 v d p := by
  have hs := shut_any (by kernel_rfl) (of_decide_eq_true (by kernel_rfl)) h1
  obtain ⟨cs, rfl, hsz⟩ := okWide_four8 hval
  obtain ⟨c0, c1, c2, c3, rfl⟩ := array4 hsz
  obtain ⟨fuel, hf⟩ := h1
  obtain ⟨a, b, c, k, rfl, rfl, rfl, rfl, w0, w1, w2, w3⟩ := trod_four8 (by simpa [Value.cells] using hf)
  exact ⟨a, b, c, k, rfl, ⟨bounds48 w0, bounds48 w1, bounds48 w2, bounds48 w3⟩, hs⟩
end
end Go.Proofs.YtpbfbejckhbijaaGreatDoor
