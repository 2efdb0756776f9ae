/- Covers of the reference. -/
import Derived.Test.YtablaacddbkeiaaGreatDoorLtFi
namespace Go.Proofs.YtablaacddbkeiaaGreatDoor
open Go.RowKit

theorem bx_up {w wr w' : World} {vn vu : Value} {ns : List ByteArray} {up : List UInt8} (h : Bx w vn vu ns up wr) (hb : Below (w.heap.size + 1) wr w') (hr : RdL w.heap.size w (.agg #[vn, vu]) ns up) : Bx w vn vu ns up w' := by
  have hb' : Below w.heap.size w w' := h.bel.trans (hb.mono (Nat.le_succ _))
  exact ⟨hb', Nat.lt_of_lt_of_le h.lt hb.size, (hb.cell (p := ⟨w.heap.size, 0, none⟩) (Nat.lt_succ_self _)).trans h.x0, (hb.cell (p := ⟨w.heap.size, 1, none⟩) (Nat.lt_succ_self _)).trans h.x1, hr.next hb'⟩

theorem fl_no {f : Bool} {c : Nat} {p : Nat → Bool} (h : f = !(List.range c).any p) (h2 : p c = false) : f = !(List.range (c + 1)).any p := by
  rw [List.range_succ, List.any_append, h]; simp [h2]
theorem fl_yes {c : Nat} {p : Nat → Bool} (h2 : p c = true) : false = !(List.range (c + 1)).any p := by
  rw [List.range_succ, List.any_append]; simp [h2]

end Go.Proofs.YtablaacddbkeiaaGreatDoor
