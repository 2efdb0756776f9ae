/- Two of the code. -/
import Derived.Test.YthfpmpmhoegicaaDoorExE
import Derived.Deep.DeepCutAuto
namespace Go.Proofs.YthfpmpmhoegicaaDoor
open Go.RowKit

/-- What Two's walk keeps: the boxes of p, of both arrays, of the result. -/
structure KTw (w : World) (p : Int) (A : Ar) (v : Value) (B : Ar) (u : Value) (W : World) : Prop where
  bel : Below w.heap.size w W
  pb : W.cell? ⟨w.heap.size, 0, none⟩ = some (.int .i64 p)
  ba : R5 W (w.heap.size + 1) A.k A.r A.a A.b v
  bb : R5 W (w.heap.size + 2) B.k B.r B.a B.b u
  res : R5 W (w.heap.size + 3) 0 0 0 0 (.slice none 0 0)
  ra : RdI W.heap.size W v A.z
  rb : RdI W.heap.size W u B.z
  lay : Ru.Lay W
theorem KTw.next {w W W' : World} {p : Int} {A B : Ar} {v u : Value} (h : KTw w p A v B u W) (hb : Below W.heap.size W W') : KTw w p A v B u W' :=
  ⟨h.bel.trans (hb.mono h.bel.size), (hb.cell (p := ⟨w.heap.size, 0, none⟩) (World.block_lt_of_cell? W _ h.pb)).trans h.pb, h.ba.next hb, h.bb.next hb, h.res.next hb, h.ra.next hb, h.rb.next hb, h.lay.next hb⟩
theorem KTw.new {w : World} {v u : Value} {A B : Ar} (p : Int) (hw : Ru.Lay w) (hv : RdI w.heap.size w v A.z) (hu : RdI w.heap.size w u B.z) : KTw w p A v B u ((((w.alloc (.cells #[.int .i64 p] 3)).alloc (.cells #[.int .i64 A.k, .int .i64 A.r, .int .i64 A.a, .int .i64 A.b, v] 25)).alloc (.cells #[.int .i64 B.k, .int .i64 B.r, .int .i64 B.a, .int .i64 B.b, u] 25)).alloc (.cells #[.int .i64 0, .int .i64 0, .int .i64 0, .int .i64 0, .slice none 0 0] 25)) := by
  have h1 := bel1 w (.cells #[.int .i64 p] 3)
  have s1 : (w.alloc (.cells #[.int .i64 p] 3)).heap.size = w.heap.size + 1 := by simp
  have hp : (w.alloc (.cells #[.int .i64 p] 3)).cell? ⟨w.heap.size, 0, none⟩ = some (.int .i64 p) := by unfold World.cell?; rw [heap_alloc_last]; rfl
  generalize w.alloc (.cells #[.int .i64 p] 3) = w1 at h1 s1 hp ⊢
  have h2 := bel1 w1 (.cells #[.int .i64 A.k, .int .i64 A.r, .int .i64 A.a, .int .i64 A.b, v] 25)
  have s2 : (w1.alloc (.cells #[.int .i64 A.k, .int .i64 A.r, .int .i64 A.a, .int .i64 A.b, v] 25)).heap.size = w.heap.size + 2 := by simp [s1]
  have ha := R5.new w1 A.k A.r A.a A.b v
  rw [s1] at ha
  generalize w1.alloc (.cells #[.int .i64 A.k, .int .i64 A.r, .int .i64 A.a, .int .i64 A.b, v] 25) = w2 at h2 s2 ha ⊢
  have h3 := bel1 w2 (.cells #[.int .i64 B.k, .int .i64 B.r, .int .i64 B.a, .int .i64 B.b, u] 25)
  have s3 : (w2.alloc (.cells #[.int .i64 B.k, .int .i64 B.r, .int .i64 B.a, .int .i64 B.b, u] 25)).heap.size = w.heap.size + 3 := by simp [s2]
  have hb := R5.new w2 B.k B.r B.a B.b u
  rw [s2] at hb
  generalize w2.alloc (.cells #[.int .i64 B.k, .int .i64 B.r, .int .i64 B.a, .int .i64 B.b, u] 25) = w3 at h3 s3 hb ⊢
  have h4 := bel1 w3 (.cells #[.int .i64 0, .int .i64 0, .int .i64 0, .int .i64 0, .slice none 0 0] 25)
  have hr := R5.new w3 0 0 0 0 (.slice none 0 0)
  rw [s3] at hr
  have h12 := h1.trans (h2.mono h1.size)
  have h13 := h12.trans (h3.mono h12.size)
  have hp2 := (h2.cell (p := ⟨w.heap.size, 0, none⟩) (by show w.heap.size < w1.heap.size; omega)).trans hp
  have hp3 := (h3.cell (p := ⟨w.heap.size, 0, none⟩) (by show w.heap.size < w2.heap.size; omega)).trans hp2
  exact ⟨h13.trans (h4.mono h13.size), (h4.cell (p := ⟨w.heap.size, 0, none⟩) (by show w.heap.size < w3.heap.size; omega)).trans hp3, (ha.next h3).next h4, hb.next h4, hr, (((hv.next h1).next h2).next h3).next h4, (((hu.next h1).next h2).next h3).next h4, (((hw.next h1).next h2).next h3).next h4⟩
set_option maxRecDepth 100000 in
theorem bs2 (k r a b : Int) (q : Option Addr) (n c : Nat) (k' r' a' b' : Int) (q' : Option Addr) (n' c' : Nat) (W : World) : (Instr.buildSlice 87 2 #[(0, A5 k r a b (.slice q n c)), (1, A5 k' r' a' b' (.slice q' n' c'))]).run Tryd.prog W =
    .ok (.slice (some ⟨W.heap.size, 0, none⟩) 2 2) (W.alloc (.cells #[.int .i64 k, .int .i64 r, .int .i64 a, .int .i64 b, .slice q n c, .int .i64 k', .int .i64 r', .int .i64 a', .int .i64 b', .slice q' n' c'] 25)) := by kernel_rfl
/-- A slice of two arrays is built. -/
theorem wp_build2 {o : Oper} {a : Act} {w : World} {next : Act → World → Prop} {Q : Exit → Act → World → Prop} (x y : Operand) (k r a1 b : Int) (q : Option Addr) (n c : Nat) (k' r' a' b' : Int) (q' : Option Addr) (n' c' : Nat)
    (ho : o.op = .buildSlice 87 2 #[(0, x), (1, y)]) (hx : a.eval x = A5 k r a1 b (.slice q n c)) (hy : a.eval y = A5 k' r' a' b' (.slice q' n' c'))
    (hn : next (a.put o.dst (.slice (some ⟨w.heap.size, 0, none⟩) 2 2)) (w.alloc (.cells #[.int .i64 k, .int .i64 r, .int .i64 a1, .int .i64 b, .slice q n c, .int .i64 k', .int .i64 r', .int .i64 a', .int .i64 b', .slice q' n' c'] 25))) : Oper.wp Tryd.prog o a w next Q := by
  have h : (execOp a.eval o).run Tryd.prog w = .ok (.value (.slice (some ⟨w.heap.size, 0, none⟩) 2 2)) (w.alloc (.cells #[.int .i64 k, .int .i64 r, .int .i64 a1, .int .i64 b, .slice q n c, .int .i64 k', .int .i64 r', .int .i64 a', .int .i64 b', .slice q' n' c'] 25)) := by
    unfold execOp
    rw [ho]
    simp only [List.map_toArray, List.map_cons, List.map_nil, hx, hy]
    simp [go_sem]
  unfold Oper.wp
  rw [h]
  exact hn
theorem retR_no {n : Int} {w w' : World} {e : Ending} (h : RetR Ar.no n w e w') : ∃ q c, e = .returned (.tuple #[A5 0 0 0 0 (.slice q 0 c), .int .i64 n]) ∧ Below w.heap.size w w' := by
  obtain ⟨u, h1, ⟨q, c, hu, _⟩, h2⟩ := h
  have hu2 : u = .slice q 0 c := hu
  subst hu2
  exact ⟨q, c, h1, h2⟩
end Go.Proofs.YthfpmpmhoegicaaDoor
