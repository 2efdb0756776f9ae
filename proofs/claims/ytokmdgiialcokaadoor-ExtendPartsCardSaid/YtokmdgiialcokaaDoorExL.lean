/- What the laws of extend share; the laws ExtendOnes and ExtendTwos. -/
import Derived.Test.YtokmdgiialcokaaDoorExJ
import Derived.Test.YtokmdgiialcokaaDoorMvKc
namespace Go.Proofs.YtokmdgiialcokaaDoor
open Go.RowKit

theorem alike_lit10 (k r a b : Int) (z : List Int) (E : Int) (v u : Value) (W : World) (h1 : RdI W.heap.size W v z) (h2 : RdI W.heap.size W u z) (h0 : z.length ≤ 1000000) : Calls Tryd.prog 18 #[A5 k r a b v, .int .i64 E, A5 k r a b u, .int .i64 E] W fun e w' => e = .returned (.bool true) ∧ Below W.heap.size W w' :=
  alike_eq ⟨k, r, a, b, z⟩ E v u W h1 h2 h0
theorem eq2t10 (a b : Int) (w : World) : (Op.equalIn 10000 22 (P2 a b) (P2 a b)).run Tryd.prog w = .ok true w := by rw [eq2, decide_eq_true ⟨rfl, rfl⟩]
theorem onV_len (p : Int) (A : Ar) : (onV p A).z.length ≤ A.z.length := by
  unfold onV exV orNo
  split
  · exact Nat.le_of_eq ((vsL_len _).trans (c1_len p A))
  · exact Nat.zero_le _
theorem boV_len (A B : Ar) : (boV A B).z.length ≤ A.z.length + B.z.length := by
  unfold boV
  split
  · omega
  · split <;> omega
theorem twV_len (p : Int) (A B : Ar) : (twV p A B).z.length ≤ A.z.length + B.z.length := by
  unfold twV exV orNo
  split
  · exact Nat.le_trans (Nat.le_of_eq ((vsL_len _).trans (c2_len p A B))) (boV_len A B)
  · exact Nat.zero_le _
theorem KVar.two {w : World} {A B : Ar} {v u : Value} (hw : Ru.Lay w) (hv : RdI w.heap.size w v A.z) (hu : RdI w.heap.size w u B.z) (hn : Ru.NilC v) (hn' : Ru.NilC u) : KVar w [⟨w.heap.size + 1, B, u⟩, ⟨w.heap.size, A, v⟩] ((w.alloc (.cells #[.int .i64 A.k, .int .i64 A.r, .int .i64 A.a, .int .i64 A.b, v] 25)).alloc (.cells #[.int .i64 B.k, .int .i64 B.r, .int .i64 B.a, .int .i64 B.b, u] 25)) := by
  have h := ((KVar.start w hw).arg A hv hn).arg B hu hn'
  have e : (w.alloc (.cells #[.int .i64 A.k, .int .i64 A.r, .int .i64 A.a, .int .i64 A.b, v] 25)).heap.size = w.heap.size + 1 := by simp
  rw [e] at h
  exact h
end Go.Proofs.YtokmdgiialcokaaDoor
