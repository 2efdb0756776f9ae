/- Two of the reference. -/
import Derived.Test.YtokmdgiialcokaaDoorExH
import Derived.Test.YtokmdgiialcokaaDoorExI
namespace Go.Proofs.YtokmdgiialcokaaDoor
open Go.RowKit

/-- What the reference's Two keeps. -/
structure KRt (w : World) (A : Ar) (v : Value) (B : Ar) (u : Value) (W : World) : Prop where
  bel : Below w.heap.size w W
  ba : R5 W w.heap.size A.k A.r A.a A.b v
  bb : R5 W (w.heap.size + 1) B.k B.r B.a B.b u
  res : R5 W (w.heap.size + 2) 0 0 0 0 (.slice none 0 0)
  ra : RdI W.heap.size W v A.z
  rb : RdI W.heap.size W u B.z
  lay : Ru.Lay W
theorem KRt.next {w W W' : World} {A B : Ar} {v u : Value} (h : KRt w A v B u W) (hb : Below W.heap.size W W') : KRt w A v B u W' :=
  ⟨h.bel.trans (hb.mono h.bel.size), h.ba.next hb, h.bb.next hb, h.res.next hb, h.ra.next hb, h.rb.next hb, h.lay.next hb⟩
theorem KRt.new {w : World} {v u : Value} {A B : Ar} (hw : Ru.Lay w) (hv : RdI w.heap.size w v A.z) (hu : RdI w.heap.size w u B.z) : KRt w A v B u (((w.alloc (.cells #[.int .i64 A.k, .int .i64 A.r, .int .i64 A.a, .int .i64 A.b, v] 25)).alloc (.cells #[.int .i64 B.k, .int .i64 B.r, .int .i64 B.a, .int .i64 B.b, u] 25)).alloc (.cells #[.int .i64 0, .int .i64 0, .int .i64 0, .int .i64 0, .slice none 0 0] 25)) := by
  have h2 := bel1 w (.cells #[.int .i64 A.k, .int .i64 A.r, .int .i64 A.a, .int .i64 A.b, v] 25)
  have s2 : (w.alloc (.cells #[.int .i64 A.k, .int .i64 A.r, .int .i64 A.a, .int .i64 A.b, v] 25)).heap.size = w.heap.size + 1 := by simp
  have ha := R5.new w A.k A.r A.a A.b v
  generalize w.alloc (.cells #[.int .i64 A.k, .int .i64 A.r, .int .i64 A.a, .int .i64 A.b, v] 25) = w2 at h2 s2 ha ⊢
  have h3 := bel1 w2 (.cells #[.int .i64 B.k, .int .i64 B.r, .int .i64 B.a, .int .i64 B.b, u] 25)
  have s3 : (w2.alloc (.cells #[.int .i64 B.k, .int .i64 B.r, .int .i64 B.a, .int .i64 B.b, u] 25)).heap.size = w.heap.size + 2 := by simp [s2]
  have hb := R5.new w2 B.k B.r B.a B.b u
  rw [s2] at hb
  generalize w2.alloc (.cells #[.int .i64 B.k, .int .i64 B.r, .int .i64 B.a, .int .i64 B.b, u] 25) = w3 at h3 s3 hb ⊢
  have h4 := bel1 w3 (.cells #[.int .i64 0, .int .i64 0, .int .i64 0, .int .i64 0, .slice none 0 0] 25)
  have hr := R5.new w3 0 0 0 0 (.slice none 0 0)
  rw [s3] at hr
  have h13 := h2.trans (h3.mono h2.size)
  exact ⟨h13.trans (h4.mono h13.size), (ha.next h3).next h4, hb.next h4, hr, ((hv.next h2).next h3).next h4, ((hu.next h2).next h3).next h4, ((hw.next h2).next h3).next h4⟩
theorem bo_many {A B : Ar} (hA : Good A) (hB : Good B) : (boV A B).z.length = if A.r = 0 then B.z.length else A.z.length := by
  unfold boV
  by_cases h : A.r = 0
  · by_cases h2 : B.r = 0
    · simp only [if_pos h, if_pos h2]
      have := (hA.r0 h).2.2
      have := (hB.r0 h2).2.2
      omega
    · simp only [if_pos h, if_neg h2]
  · simp only [if_neg h, ite_self]
end Go.Proofs.YtokmdgiialcokaaDoor
