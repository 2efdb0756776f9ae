/- The reference: sorted, Sort, Down, Up. -/
import Derived.Test.YtablaacddbkeiaaGreatDoorLbM
namespace Go.Proofs.YtablaacddbkeiaaGreatDoor
open Go.RowKit

theorem Own.al {base : Nat} {w : World} {v : Value} {l : List Nat} (h : Own base w v l) (o : Obj) : Own base (w.alloc o) v l := World.ownsRow.alloc h o
theorem Own.bel {base : Nat} {w w' : World} {v : Value} {l : List Nat} (h : Own base w v l) (hb : Below w.heap.size w w') : Own base w' v l := own_below h hb
theorem lv_int (x k : Nat) : ((x : Int) == ((k : Int) + 1)) = decide (x = k + 1) := by
  rw [Bool.eq_iff_iff, beq_iff_eq, decide_eq_true_iff]; omega

end Go.Proofs.YtablaacddbkeiaaGreatDoor
