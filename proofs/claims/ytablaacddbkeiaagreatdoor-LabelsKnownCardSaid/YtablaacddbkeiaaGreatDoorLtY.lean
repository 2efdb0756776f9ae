/- rowOf: the row of a label as a string. -/
import Derived.Test.YtablaacddbkeiaaGreatDoorLtW
import Derived.Deep.OwnRows
import Derived.Laws.MakeOwn
namespace Go.Proofs.YtablaacddbkeiaaGreatDoor
open Go.RowKit

def rb (up : List UInt8) (a i : Nat) : UInt8 := if le up a i then 49 else 48
def rowB (up : List UInt8) (a : Nat) : List UInt8 := (List.range up.length).map (rb up a)
theorem rowB_len (up : List UInt8) (a : Nat) : (rowB up a).length = up.length := by simp [rowB]
/-- The row, as far as it has been written. -/
def rf (up : List UInt8) (a k : Nat) (i : Nat) : Value := if i < k then .int .u8 ((rb up a i).toNat : Int) else .int .u8 0

theorem rf_next {w : World} {b : Nat} {up : List UInt8} {a k : Nat} {z : Int} (h : w.rowIs b 5 up.length (rf up a k)) (hz : ((rb up a k).toNat : Int) = z) : (w.setCell ⟨b, k, none⟩ (.int .u8 z)).rowIs b 5 up.length (rf up a (k + 1)) := by
  refine (h.set k _).congr fun i hi => ?_
  show (if i = k then Value.int .u8 z else rf up a k i) = rf up a (k + 1) i
  unfold rf
  by_cases e : i = k
  · subst e; rw [if_pos rfl, if_pos (by omega), hz]
  · rw [if_neg e]
    by_cases e2 : i < k
    · rw [if_pos e2, if_pos (by omega)]
    · rw [if_neg e2, if_neg (by omega)]
theorem rf_next2 {w : World} {b : Nat} {up : List UInt8} {a k : Nat} {z : Int} {u : Value} (h : w.rowIs b 5 up.length (rf up a k)) (hz : ((rb up a k).toNat : Int) = z) : ((w.setCell ⟨b, k, none⟩ u).setCell ⟨b, k, none⟩ (.int .u8 z)).rowIs b 5 up.length (rf up a (k + 1)) := by
  refine ((h.set k u).set k _).congr fun i hi => ?_
  show (if i = k then Value.int .u8 z else if i = k then u else rf up a k i) = rf up a (k + 1) i
  unfold rf
  by_cases e : i = k
  · subst e; rw [if_pos rfl, if_pos (by omega), hz]
  · rw [if_neg e, if_neg e]
    by_cases e2 : i < k
    · rw [if_pos e2, if_pos (by omega)]
    · rw [if_neg e2, if_neg (by omega)]

end Go.Proofs.YtablaacddbkeiaaGreatDoor
