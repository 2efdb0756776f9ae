/- One, Two and Lens of the code. -/
import Derived.Test.YthfpmpmhoegicaaDoorExD
import Derived.Deep.DeepCutAuto
namespace Go.Proofs.YthfpmpmhoegicaaDoor
open Go.RowKit

/-- What One's walk keeps: the boxes of p, of the array, of the result. -/
structure KOn (w : World) (p : Int) (A : Ar) (v : Value) (W : World) : Prop where
  bel : Below w.heap.size w W
  pb : W.cell? ⟨w.heap.size, 0, none⟩ = some (.int .i64 p)
  box : R5 W (w.heap.size + 1) A.k A.r A.a A.b v
  res : R5 W (w.heap.size + 2) 0 0 0 0 (.slice none 0 0)
  rd : RdI W.heap.size W v A.z
  lay : Ru.Lay W
theorem KOn.next {w W W' : World} {p : Int} {A : Ar} {v : Value} (h : KOn w p A v W) (hb : Below W.heap.size W W') : KOn w p A v W' :=
  ⟨h.bel.trans (hb.mono h.bel.size), (hb.cell (p := ⟨w.heap.size, 0, none⟩) (World.block_lt_of_cell? W _ h.pb)).trans h.pb, h.box.next hb, h.res.next hb, h.rd.next hb, h.lay.next hb⟩
theorem KOn.new {w : World} {v : Value} {A : Ar} (p : Int) (hw : Ru.Lay w) (hv : RdI w.heap.size w v A.z) : KOn w p A v (((w.alloc (.cells #[.int .i64 p] 3)).alloc (.cells #[.int .i64 A.k, .int .i64 A.r, .int .i64 A.a, .int .i64 A.b, v] 25)).alloc (.cells #[.int .i64 0, .int .i64 0, .int .i64 0, .int .i64 0, .slice none 0 0] 25)) := by
  have h1 := bel1 w (.cells #[.int .i64 p] 3)
  have s1 : (w.alloc (.cells #[.int .i64 p] 3)).heap.size = w.heap.size + 1 := by simp
  have hp : (w.alloc (.cells #[.int .i64 p] 3)).cell? ⟨w.heap.size, 0, none⟩ = some (.int .i64 p) := by unfold World.cell?; rw [heap_alloc_last]; rfl
  generalize w.alloc (.cells #[.int .i64 p] 3) = w1 at h1 s1 hp ⊢
  have h2 := bel1 w1 (.cells #[.int .i64 A.k, .int .i64 A.r, .int .i64 A.a, .int .i64 A.b, v] 25)
  have s2 : (w1.alloc (.cells #[.int .i64 A.k, .int .i64 A.r, .int .i64 A.a, .int .i64 A.b, v] 25)).heap.size = w.heap.size + 2 := by simp [s1]
  have hb := R5.new w1 A.k A.r A.a A.b v
  rw [s1] at hb
  generalize w1.alloc (.cells #[.int .i64 A.k, .int .i64 A.r, .int .i64 A.a, .int .i64 A.b, v] 25) = w2 at h2 s2 hb ⊢
  have h3 := bel1 w2 (.cells #[.int .i64 0, .int .i64 0, .int .i64 0, .int .i64 0, .slice none 0 0] 25)
  have hr := R5.new w2 0 0 0 0 (.slice none 0 0)
  rw [s2] at hr
  have h12 := h1.trans (h2.mono h1.size)
  refine ⟨h12.trans (h3.mono h12.size), (h3.cell (p := ⟨w.heap.size, 0, none⟩) (by show w.heap.size < w2.heap.size; omega)).trans ((h2.cell (p := ⟨w.heap.size, 0, none⟩) (by show w.heap.size < w1.heap.size; omega)).trans hp), hb.next h3, hr, ((hv.next h1).next h2).next h3, ((hw.next h1).next h2).next h3⟩
theorem c1_some {p : Int} {A : Ar} {j : Nat} {c : Int × Int} (h : (c1 p A)[j]? = some c) : j < A.z.length ∧ c = Sc.oneV p (A.z.getD j 0) := by
  have hj : j < A.z.length := by
    rcases Nat.lt_or_ge j A.z.length with h' | h'
    · exact h'
    · rw [List.getElem?_eq_none (by rw [c1_len]; exact h')] at h; cases h
  rw [c1_at hj] at h
  exact ⟨hj, (Option.some.inj h).symm⟩
theorem c2_some {p : Int} {A B : Ar} {j : Nat} {c : Int × Int} (h : (c2 p A B)[j]? = some c) : j < (boV A B).z.length ∧ c = Sc.twoV p (celI A j) (celI B j) := by
  have hj : j < (boV A B).z.length := by
    rcases Nat.lt_or_ge j (boV A B).z.length with h' | h'
    · exact h'
    · rw [List.getElem?_eq_none (by rw [c2_len]; exact h')] at h; cases h
  rw [c2_at hj] at h
  exact ⟨hj, (Option.some.inj h).symm⟩
end Go.Proofs.YthfpmpmhoegicaaDoor
