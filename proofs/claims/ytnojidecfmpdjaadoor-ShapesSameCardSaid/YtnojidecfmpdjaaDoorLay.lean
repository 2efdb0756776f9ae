/- What the package-level variables hold, and that a call which makes new memory alone leaves them. -/
import Derived.Test.YtnojidecfmpdjaaDoorWaA2
import Derived.Lib.LaidTab
import Derived.Lib.ItoaNum
namespace Go.Proofs.YtnojidecfmpdjaaDoor
open Go.RowKit

/-- The listed variables, by their blocks. -/
structure Lay (w : World) : Prop where
  size : 2 + 1 ≤ w.heap.size
  pow : ∃ t z, w.heap[0]? = some (.cells (Lib.pow10Tab.map fun n => Value.int .u64 n).toArray t z)

theorem Lay.below {w w' : World} (h : Lay w) {B : Nat} (hB : 2 + 1 ≤ B) (hb : Below B w w') : Lay w' where
  size := Nat.le_trans h.size hb.size
  pow := by obtain ⟨t, z, e⟩ := h.pow; exact ⟨t, z, (hb.block _ (by omega)).trans e⟩
theorem Lay.next {w w' : World} (h : Lay w) (hb : Below w.heap.size w w') : Lay w' := h.below h.size hb
theorem Lay.alloc {w : World} (h : Lay w) (o : Obj) : Lay (w.alloc o) := h.next ((Below.refl _ _).alloc (Nat.le_refl _) o)
theorem Lay.drew {w : World} (h : Lay w) : Lay w.drew := h.next (Below.refl _ _).drew

theorem cell_of_block {w : World} {b : Nat} {cs : Array Value} {t : TypeId} {z : Nat × Nat} (h : w.heap[b]? = some (.cells cs t z)) (i : Nat) : w.cell? ⟨b, i, none⟩ = cs[i]? := by
  simp [World.cell?, h]
theorem Lay.tab {w : World} (h : Lay w) : Lib.TabIs Tryd.prog w "internal/strconv.uint64pow10" .u64 Lib.pow10Tab := by
  obtain ⟨t, z, e⟩ := h.pow
  unfold Lib.TabIs World.var?
  rw [show Tryd.prog.globalNamed "internal/strconv.uint64pow10" = some 0 from by kernel_rfl]
  simp only [Option.bind_some, e]
end Go.Proofs.YtnojidecfmpdjaaDoor
