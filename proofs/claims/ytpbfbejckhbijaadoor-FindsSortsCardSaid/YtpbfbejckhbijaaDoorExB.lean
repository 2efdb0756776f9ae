/- What extend and its reference say of operands: cell, kinds, both, fault; sure. -/
import Derived.Test.YtpbfbejckhbijaaDoorExA
import Derived.Test.YtpbfbejckhbijaaDoorMvKb
import Derived.Test.YtpbfbejckhbijaaDoorMvP
namespace Go.Proofs.YtpbfbejckhbijaaDoor
open Go.RowKit

/-- An array that can be read, and an error. -/
def RetR (A : Ar) (n : Int) (w : World) (e : Ending) (w' : World) : Prop := ∃ u, e = .returned (.tuple #[A5 A.k A.r A.a A.b u, .int .i64 n]) ∧ RdI w'.heap.size w' u A.z ∧ Below w.heap.size w w'
/-- What panics when a cell has an error. -/
abbrev erV (E : Int) : Value := .iface 28 (.int .i64 E)
theorem ret_int7 {a b : Int} (h : a = b) : Ending.returned (.int .i64 a) = .returned (.int .i64 b) := by rw [h]
/-- An array among the operands, in memory. -/
structure ArAt (w : World) (g o : Nat) (A : Ar) (v : Value) : Prop where
  c0 : w.cell? ⟨g, o, none⟩ = some (.int .i64 A.k)
  c1 : w.cell? ⟨g, o + 1, none⟩ = some (.int .i64 A.r)
  c2 : w.cell? ⟨g, o + 2, none⟩ = some (.int .i64 A.a)
  c3 : w.cell? ⟨g, o + 3, none⟩ = some (.int .i64 A.b)
  c4 : w.cell? ⟨g, o + 4, none⟩ = some v
theorem ArAt.below {w w' : World} {g o B : Nat} {A : Ar} {v : Value} (h : ArAt w g o A v) (hg : g < B) (hb : Below B w w') : ArAt w' g o A v :=
  ⟨(hb.cell (p := ⟨g, o, none⟩) hg).trans h.c0, (hb.cell (p := ⟨g, o + 1, none⟩) hg).trans h.c1, (hb.cell (p := ⟨g, o + 2, none⟩) hg).trans h.c2, (hb.cell (p := ⟨g, o + 3, none⟩) hg).trans h.c3, (hb.cell (p := ⟨g, o + 4, none⟩) hg).trans h.c4⟩
def ckL (L : List (Ar × Value)) : List (Int × Int) := L.map fun x => (0, ck x.1)
theorem at2_new (A B : Ar) (v u : Value) (W : World) : ArAt (W.alloc (.cells #[.int .i64 A.k, .int .i64 A.r, .int .i64 A.a, .int .i64 A.b, v, .int .i64 B.k, .int .i64 B.r, .int .i64 B.a, .int .i64 B.b, u] 25)) W.heap.size 0 A v ∧ ArAt (W.alloc (.cells #[.int .i64 A.k, .int .i64 A.r, .int .i64 A.a, .int .i64 A.b, v, .int .i64 B.k, .int .i64 B.r, .int .i64 B.a, .int .i64 B.b, u] 25)) W.heap.size 5 B u := by
  constructor <;> constructor <;> (unfold World.cell?; rw [heap_alloc_last]; rfl)
end Go.Proofs.YtpbfbejckhbijaaDoor
