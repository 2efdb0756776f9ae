/- The law Picks. -/
import Derived.Test.YtpbfbejckhbijaaDoorFiS
import Derived.Test.YtpbfbejckhbijaaDoorMvKc
import Derived.Test.YtpbfbejckhbijaaDoorFiQ
import Derived.Deep.DeepCutAuto
namespace Go.Proofs.YtpbfbejckhbijaaDoor
open Go.RowKit

/-- What a region leaves that lays a variable and stores a result into it. -/
def CutE (w : World) (l : List Bk) (sp se : Value) (T : Ar) (E : Int) (W : World) : Prop :=
  ∃ g q c, sp = .pointer (some ⟨g, 0, none⟩) ∧ se = .int .i64 E ∧ KVar w (⟨g, T, .slice q T.z.length c⟩ :: l) W ∧ ∀ b ∈ l, b.g < g
theorem lints8 (l : List Int) (v : Value) (W : World) (hv : RdI W.heap.size W v l) (hn : Ru.NilC v) (hl : l.length ≤ 100000) : Calls Tryd.prog 17 #[v] W (RetA ⟨1, 1, (l.length : Int), 0, l⟩ W) := lints_any l v W hv hn hl
end Go.Proofs.YtpbfbejckhbijaaDoor
