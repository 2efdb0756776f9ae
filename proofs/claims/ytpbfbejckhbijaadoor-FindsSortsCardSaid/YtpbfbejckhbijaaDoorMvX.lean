/- The reference's Fill, lengths and Grid. -/
import Derived.Test.YtpbfbejckhbijaaDoorMvV
import Derived.Test.YtpbfbejckhbijaaDoorMvZ
namespace Go.Proofs.YtpbfbejckhbijaaDoor
open Go.RowKit

/-- What the loops of Fill and Grid keep. -/
structure K27 (w : World) (N : Ar) (u : Value) (V : Ar) (v s : Value) (l : List Int) (W : World) : Prop where
  m : MK2 w N u V v W
  own : Ru.Ins 2 W (w.heap.size + 3) s l
theorem K27.step {w W W' : World} {N V : Ar} {u v s s' : Value} {l l' : List Int} (k : K27 w N u V v s l W) (h3 : 0 + 1 ≤ w.heap.size) (hi : Ru.Ins 2 W' (w.heap.size + 3) s' l') (hb : Below (w.heap.size + 3) W W') : K27 w N u V v s' l' W' :=
  ⟨k.m.far hb (k.m.c.lay.below (by omega) hb), hi⟩
theorem K27.drew {w W : World} {N V : Ar} {u v s : Value} {l : List Int} (k : K27 w N u V v s l W) : K27 w N u V v s l W.drew := ⟨k.m.next (Below.refl _ _).drew, World.ownsRow.drew k.own⟩

end Go.Proofs.YtpbfbejckhbijaaDoor
