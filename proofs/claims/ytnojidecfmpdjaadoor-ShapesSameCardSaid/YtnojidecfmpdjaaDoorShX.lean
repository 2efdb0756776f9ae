/- The law ShapesSame as a walk: all of it. -/
import Derived.Test.YtnojidecfmpdjaaDoorShU
import Derived.Test.YtnojidecfmpdjaaDoorShV
import Derived.Test.YtnojidecfmpdjaaDoorShW
namespace Go.Proofs.YtnojidecfmpdjaaDoor
open Go.RowKit


theorem lawSame_any (r a b s c d : Int) (w : World) (hw : Lay w) :
    Calls Tryd.prog 9 #[P3 r a b, P3 s c d] w fun e w' => e = .returned (.bool true) ∧ Below w.heap.size w w' := by
  rcases sh_dec r a b with ⟨_, hs⟩ | ⟨hk, _⟩
  · by_cases hf : ftE r a b s c d = 0
    · cases hs with
      | s0 => exact same_s0_z s c d w hw .s0 hf
      | s1 _ h0 h1 => exact same_s1_z a s c d w hw (.s1 a h0 h1) hf
      | s2 _ _ h0 h1 h2 h3 h4 => exact same_s2_z a b s c d w hw (.s2 a b h0 h1 h2 h3 h4) hf
    · cases hs with
      | s0 => exact same_s0_f s c d w hw .s0 hf
      | s1 _ h0 h1 => exact same_s1_f a s c d w hw (.s1 a h0 h1) hf
      | s2 _ _ h0 h1 h2 h3 h4 => exact same_s2_f a b s c d w hw (.s2 a b h0 h1 h2 h3 h4) hf
  · exact same_no r a b s c d w hw hk
end Go.Proofs.YtnojidecfmpdjaaDoor
