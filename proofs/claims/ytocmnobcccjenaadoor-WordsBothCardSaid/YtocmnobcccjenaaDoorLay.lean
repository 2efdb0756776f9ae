/- What the package-level variables hold, and that a call which makes new memory alone leaves them. -/
import Derived.Test.YtocmnobcccjenaaDoorWaA2
import Derived.Lib.LaidTab
import Derived.Lib.ItoaNum
namespace Go.Proofs.YtocmnobcccjenaaDoor
open Go.RowKit

def escV : Array Value := #[.int .u8 34, .int .u8 34, .int .u8 92, .int .u8 92, .int .u8 10, .int .u8 110, .int .u8 13, .int .u8 114, .int .u8 9, .int .u8 116]
/-- The listed variables, by their blocks. -/
structure Lay (w : World) : Prop where
  size : 6 + 1 ≤ w.heap.size
  esc : ∃ t z, w.heap[0]? = some (.cells escV t z)
  rng : ∃ t z te pe, w.heap[2]? = some (.cells #[.iface te pe] t z)
  pow : ∃ t z, w.heap[4]? = some (.cells (Lib.pow10Tab.map fun n => Value.int .u64 n).toArray t z)

theorem Lay.below {w w' : World} (h : Lay w) {B : Nat} (hB : 6 + 1 ≤ B) (hb : Below B w w') : Lay w' where
  size := Nat.le_trans h.size hb.size
  esc := by obtain ⟨t, z, e⟩ := h.esc; exact ⟨t, z, (hb.block _ (by omega)).trans e⟩
  rng := by obtain ⟨t, z, a, b, e⟩ := h.rng; exact ⟨t, z, a, b, (hb.block _ (by omega)).trans e⟩
  pow := by obtain ⟨t, z, e⟩ := h.pow; exact ⟨t, z, (hb.block _ (by omega)).trans e⟩
theorem Lay.next {w w' : World} (h : Lay w) (hb : Below w.heap.size w w') : Lay w' := h.below h.size hb
theorem Lay.alloc {w : World} (h : Lay w) (o : Obj) : Lay (w.alloc o) := h.next ((Below.refl _ _).alloc (Nat.le_refl _) o)
theorem Lay.drew {w : World} (h : Lay w) : Lay w.drew := h.next (Below.refl _ _).drew

theorem cell_of_block {w : World} {b : Nat} {cs : Array Value} {t : TypeId} {z : Nat × Nat} (h : w.heap[b]? = some (.cells cs t z)) (i : Nat) : w.cell? ⟨b, i, none⟩ = cs[i]? := by
  simp [World.cell?, h]
theorem Lay.rngCell {w : World} (h : Lay w) : ∃ te pe, w.cell? ⟨2, 0, none⟩ = some (.iface te pe) := by
  obtain ⟨t, z, te, pe, e⟩ := h.rng; exact ⟨te, pe, cell_of_block e 0⟩
theorem Lay.tab {w : World} (h : Lay w) : Lib.TabIs Tryd.prog w "internal/strconv.uint64pow10" .u64 Lib.pow10Tab := by
  obtain ⟨t, z, e⟩ := h.pow
  unfold Lib.TabIs World.var?
  rw [show Tryd.prog.globalNamed "internal/strconv.uint64pow10" = some 4 from by kernel_rfl]
  simp only [Option.bind_some, e]
end Go.Proofs.YtocmnobcccjenaaDoor
