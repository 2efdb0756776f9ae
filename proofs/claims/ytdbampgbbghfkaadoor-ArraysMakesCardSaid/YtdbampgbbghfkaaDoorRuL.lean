/- What the package-level variables hold (three of them), and that a call which makes new memory alone leaves them; slices that can be read. -/
import Derived.Test.YtdbampgbbghfkaaDoorRows
import Derived.Test.YtdbampgbbghfkaaDoorRuC
import Derived.WalkKit
import Derived.WalkSpells
import Derived.WalkLawsBesides
import Derived.Below
import Derived.Lib.Hide
import Derived.Lib.DecodeNEq
namespace Go.Proofs.YtdbampgbbghfkaaDoor.Ru
open Go.RowKit

/-- The listed variables, by their blocks. -/
structure Lay (w : World) : Prop where
  size : 3 ≤ w.heap.size
  first : ∀ c, c < 256 → w.cell? ⟨0, c, none⟩ = some (.int .u8 (Lib.firstT c))
  acc : ∀ i, i < 16 → w.cell? ⟨1, 2 * i, none⟩ = some (.int .u8 (Lib.accLo i)) ∧ w.cell? ⟨1, 2 * i + 1, none⟩ = some (.int .u8 (Lib.accHi i))
  leads : ∃ t z, w.heap[2]? = some (.cells #[.int .u8 0, .int .u8 0, .int .u8 192, .int .u8 224, .int .u8 240] t z)

theorem Lay.below {w w' : World} (h : Lay w) {B : Nat} (hB : 3 ≤ B) (hb : Below B w w') : Lay w' where
  size := Nat.le_trans h.size hb.size
  first := fun c hc => (hb.cell (p := ⟨0, c, none⟩) (by show 0 < B; omega)).trans (h.first c hc)
  acc := fun i hi => ⟨(hb.cell (p := ⟨1, 2 * i, none⟩) (by show 1 < B; omega)).trans (h.acc i hi).1, (hb.cell (p := ⟨1, 2 * i + 1, none⟩) (by show 1 < B; omega)).trans (h.acc i hi).2⟩
  leads := by obtain ⟨t, z, e⟩ := h.leads; exact ⟨t, z, (hb.block _ (by omega)).trans e⟩
theorem Lay.next {w w' : World} (h : Lay w) (hb : Below w.heap.size w w') : Lay w' := h.below h.size hb
theorem Lay.alloc {w : World} (h : Lay w) (o : Obj) : Lay (w.alloc o) := h.next ((Below.refl _ _).alloc (Nat.le_refl _) o)
theorem Lay.drew {w : World} (h : Lay w) : Lay w.drew := h.next (Below.refl _ _).drew

theorem cell_of_block {w : World} {b : Nat} {cs : Array Value} {t : TypeId} {z : Nat × Nat} (h : w.heap[b]? = some (.cells cs t z)) (i : Nat) : w.cell? ⟨b, i, none⟩ = cs[i]? := by
  simp [World.cell?, h]

/-- A slice of bytes that can be read, its cells below B. -/
def RdB (B : Nat) (w : World) (v : Value) (l : List UInt8) : Prop :=
  ∃ a cap, v = .slice a l.length cap ∧ l.length ≤ cap ∧ cap ≤ 9223372036854775807 ∧ (l ≠ [] → ∃ b off, a = some ⟨b, off, none⟩ ∧ b < B ∧ ∀ j (h : j < l.length), w.cell? ⟨b, off + j, none⟩ = some (.int .u8 (l[j].toNat : Int)))
theorem RdB.below {B : Nat} {w w' : World} {v : Value} {l : List UInt8} (h : RdB B w v l) (hb : Below B w w') : RdB B w' v l := by
  obtain ⟨a, cap, hv, hc, hc2, h⟩ := h
  refine ⟨a, cap, hv, hc, hc2, fun hn => ?_⟩
  obtain ⟨b, off, ha, hlt, hcell⟩ := h hn
  exact ⟨b, off, ha, hlt, fun j hj => (hb.cell (p := ⟨b, off + j, none⟩) hlt).trans (hcell j hj)⟩
theorem RdB.mono {B B' : Nat} {w : World} {v : Value} {l : List UInt8} (h : RdB B w v l) (hb : B ≤ B') : RdB B' w v l := by
  obtain ⟨a, cap, hv, hc, hc2, h⟩ := h
  refine ⟨a, cap, hv, hc, hc2, fun hn => ?_⟩
  obtain ⟨b, off, ha, hlt, hcell⟩ := h hn
  exact ⟨b, off, ha, Nat.lt_of_lt_of_le hlt hb, hcell⟩
theorem RdB.next {w w' : World} {v : Value} {l : List UInt8} (h : RdB w.heap.size w v l) (hb : Below w.heap.size w w') : RdB w'.heap.size w' v l :=
  (h.below hb).mono hb.size
/-- Its bytes from a place on, that is within it. -/
theorem RdB.tail {B : Nat} {w : World} {b off cap : Nat} {l : List UInt8} (k : Nat) (hk : k < l.length) (hcap : l.length ≤ cap) (hc2 : cap ≤ 9223372036854775807) (hb : b < B)
    (hc : ∀ j (h : j < l.length), w.cell? ⟨b, off + j, none⟩ = some (.int .u8 (l[j].toNat : Int))) : RdB B w (.slice (some ⟨b, off + k, none⟩) (l.length - k) (cap - k)) (l.drop k) := by
  refine ⟨_, _, by rw [List.length_drop], by rw [List.length_drop]; omega, by omega, fun _ => ⟨b, off + k, rfl, hb, fun j hj => ?_⟩⟩
  rw [List.length_drop] at hj
  have := hc (k + j) (by omega)
  rw [Nat.add_assoc, this]
  simp

theorem ret_bool {a b : Bool} (h : a = b) : Ending.returned (.bool a) = .returned (.bool b) := by rw [h]
theorem ret_int {k : IntKind} {a b : Int} (h : a = b) : Ending.returned (.int k a) = .returned (.int k b) := by rw [h]
end Go.Proofs.YtdbampgbbghfkaaDoor.Ru
