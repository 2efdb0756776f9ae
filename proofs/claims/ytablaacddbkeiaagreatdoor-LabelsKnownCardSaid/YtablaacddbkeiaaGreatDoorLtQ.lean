/- Same, of the reference. -/
import Derived.Test.YtablaacddbkeiaaGreatDoorLtP
namespace Go.Proofs.YtablaacddbkeiaaGreatDoor
open Go.RowKit

def smB (ns : List ByteArray) (up : List UInt8) (ms : List ByteArray) (vp : List UInt8) : Bool := decide (ns = ms) && decide (up = vp)
theorem str_eq {s t : ByteArray} (h : (s.toList == t.toList) = true) : s = t := by
  have h1 : s.toList = t.toList := by simpa using h
  rw [byt_eq, byt_eq] at h1
  rw [← mk_byt s, ← mk_byt t, h1]
theorem take_next {α : Type} {l m : List α} {k : Nat} (h : l.take k = m.take k) (h1 : k < l.length) (h2 : k < m.length) (e : l[k] = m[k]) : l.take (k + 1) = m.take (k + 1) := by
  rw [List.take_succ_eq_append_getElem h1, List.take_succ_eq_append_getElem h2, h, e]
theorem drewN_below (w : World) (n : Nat) : Below w.heap.size w (w.drewN n) := below_drewN (Below.refl _ _) n

end Go.Proofs.YtablaacddbkeiaaGreatDoor
