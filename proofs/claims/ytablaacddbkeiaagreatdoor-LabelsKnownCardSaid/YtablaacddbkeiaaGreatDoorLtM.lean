/- The lattice of the examples; the law's awake. -/
import Derived.Test.YtablaacddbkeiaaGreatDoorLtZ
namespace Go.Proofs.YtablaacddbkeiaaGreatDoor
open Go.RowKit

def dN : List ByteArray := [⟨#[108, 111, 119]⟩, ⟨#[97, 110, 110]⟩, ⟨#[98, 111, 98]⟩, ⟨#[116, 111, 112]⟩]
def dU : List UInt8 := [15, 10, 12, 8]
theorem dGood : Good dN dU := good_of (by decide +kernel)
theorem d_1 : J (le dU) dU.length 1 2 = 3 ∧ J (ge dU) dU.length 1 2 = 0 ∧ le dU 0 2 = true ∧ cov dU dU.length = [(0, 1), (0, 2), (1, 3), (2, 3)] := by decide +kernel
theorem d_2 : prL dN dU dN.length = [108, 111, 119, 32, 49, 49, 49, 49, 10, 97, 110, 110, 32, 48, 49, 48, 49, 10, 98, 111, 98, 32, 48, 48, 49, 49, 10, 116, 111, 112, 32, 48, 48, 48, 49, 10] := by decide +kernel

theorem rd_new {α : Type} (f : α → Value) (w : World) (l : List α) (t : TypeId) (z : Nat × Nat) (hl : l.length ≤ 1000) : Rd f (w.alloc (.cells (l.map f).toArray t z)).heap.size (w.alloc (.cells (l.map f).toArray t z)) (.slice (some ⟨w.heap.size, 0, none⟩) l.length l.length) l := by
  refine ⟨_, l.length, rfl, Nat.le_refl _, by omega, fun _ => ⟨w.heap.size, 0, rfl, by simp, fun j hj => ?_⟩⟩
  rw [Nat.zero_add, cell_of_block (heap_new w _) j]
  simp [List.getElem?_eq_getElem hj]

set_option maxRecDepth 100000 in
set_option maxHeartbeats 1000000 in
theorem diamond_any (w : World) :
    Calls Tryz.prog 12 #[] w fun e w' => ∃ v, e = .returned v ∧ RdL w'.heap.size w' v dN dU ∧ Below w.heap.size w w' := by
  go_enter Tryz.func12, Tryz.ntmps12
  go_wp2
  have e1 : ∀ o, (w.alloc o).heap.size = w.heap.size + 1 := fun o => by simp
  generalize hO : Obj.cells #[Value.slice (some { block := w.heap.size + 1, off := 0 }) 4 4, Value.slice (some { block := w.heap.size + 1 + 1, off := 0 }) 4 4] 25 = O1
  have h1 := rd_new vs (w.alloc O1) dN 9 (0, 0) (by decide)
  have e2 : ∀ o, ((w.alloc O1).alloc o).heap.size = w.heap.size + 1 + 1 := fun o => by simp
  have h2 := rd_new vb ((w.alloc O1).alloc (.cells (dN.map vs).toArray 9 (0, 0))) dU 5 (0, 0) (by decide)
  have h3 := h1.al (.cells (dU.map vb).toArray 5 (0, 0))
  rw [e1] at h3
  rw [e2] at h2
  have hb := ((bel1 w O1).trans ((bel1 (w.alloc O1) (.cells (dN.map vs).toArray 9 (0, 0))).mono (bel1 w O1).size)).trans ((bel1 ((w.alloc O1).alloc (.cells (dN.map vs).toArray 9 (0, 0))) (.cells (dU.map vb).toArray 5 (0, 0))).mono (Nat.le_trans (bel1 w O1).size (bel1 _ _).size))
  subst hO
  refine bodyPost_ret (v := .agg #[.slice (some ⟨w.heap.size + 1, 0, none⟩) 4 4, .slice (some ⟨w.heap.size + 1 + 1, 0, none⟩) 4 4]) (by simp [results, Tryz.results12, go_sem]) rfl ⟨_, rfl, ⟨⟨_, _, rfl, h3, h2⟩, ?_⟩, hb⟩
  intro s hs
  have : s.size = 3 := by
    unfold dN at hs
    simp only [List.mem_cons, List.not_mem_nil, or_false] at hs
    rcases hs with rfl | rfl | rfl | rfl <;> rfl
  omega

theorem c_join (w : World) (v : Value) (hv : RdL w.heap.size w v dN dU) : Calls Tryz.prog 65 #[v, .int .i64 1, .int .i64 2] w fun e w' => e = .returned (.tuple #[.int .i64 3, .int .i64 0]) ∧ Below w.heap.size w w' := by
  have := join_ok v dN dU 1 2 w hv dGood (by decide) (by decide)
  rw [d_1.1] at this
  exact this
theorem c_meet (w : World) (v : Value) (hv : RdL w.heap.size w v dN dU) : Calls Tryz.prog 67 #[v, .int .i64 1, .int .i64 2] w fun e w' => e = .returned (.tuple #[.int .i64 0, .int .i64 0]) ∧ Below w.heap.size w w' := by
  have := meet_ok v dN dU 1 2 w hv dGood (by decide) (by decide)
  rw [d_1.2.1] at this
  exact this
end Go.Proofs.YtablaacddbkeiaaGreatDoor
