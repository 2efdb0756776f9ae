/- The reference's number, at 1 to 4 bytes. -/
import Derived.Test.YtomffjaeafcpdaaDoorRfA
import Derived.Test.YtomffjaeafcpdaaDoorRfP
import Derived.Deep.LoopGhost
import Derived.Deep.WholeRow
namespace Go.Proofs.YtomffjaeafcpdaaDoor
open Go.RowKit

theorem cell_old (w : World) (o : Obj) {b : Nat} (h : b < w.heap.size) {i : Nat} : (w.alloc o).cell? ⟨b, i, none⟩ = w.cell? ⟨b, i, none⟩ :=
  ((Below.refl w.heap.size w).alloc (Nat.le_refl _) o).cell (p := ⟨b, i, none⟩) h
theorem cell_at (w : World) (cs : Array Value) {t : TypeId} (i : Nat) {v : Value} (h : cs[i]? = some v) : (w.alloc (.cells cs t)).cell? ⟨w.heap.size, i, none⟩ = some v := by
  rw [cell_of_block (heap_alloc_last w (.cells cs t)) i]; exact h
set_option maxRecDepth 100000 in
set_option maxHeartbeats 2000000 in
theorem number_1_in (blk off cap x : Nat) (w : World) (hb : blk < w.heap.size) (c0 : w.cell? ⟨blk, off, none⟩ = some (.int .u8 (x : Int))) (kx : x < 256) (h0 : x < 128) :
    Calls Tryd.prog 42 #[.slice (some ⟨blk, off, none⟩) 1 cap] w fun e w' => e = .returned (.int .i64 ((x : Int))) ∧ Below w.heap.size w w' := by
  have l2 : (w.alloc (.cells #[.int .i64 0, .int .i64 0, .int .i64 192, .int .i64 224, .int .i64 240] 73)).cell? ⟨w.heap.size, 2, none⟩ = some (.int .i64 192) := cell_at w _ 2 rfl
  have l3 : (w.alloc (.cells #[.int .i64 0, .int .i64 0, .int .i64 192, .int .i64 224, .int .i64 240] 73)).cell? ⟨w.heap.size, 3, none⟩ = some (.int .i64 224) := cell_at w _ 3 rfl
  have l4 : (w.alloc (.cells #[.int .i64 0, .int .i64 0, .int .i64 192, .int .i64 224, .int .i64 240] 73)).cell? ⟨w.heap.size, 4, none⟩ = some (.int .i64 240) := cell_at w _ 4 rfl
  have dc0 : (w.alloc (.cells #[.int .i64 0, .int .i64 0, .int .i64 192, .int .i64 224, .int .i64 240] 73)).cell? ⟨blk, off, none⟩ = some (.int .u8 (x : Int)) := by rw [cell_old w _ hb]; exact c0
  have HB := Lib.hid ((Below.refl w.heap.size w).alloc (Nat.le_refl _) (.cells #[.int .i64 0, .int .i64 0, .int .i64 192, .int .i64 224, .int .i64 240] 73))
  have hU := kx; clear hU
  have e0 : decide ((x : Int) < 128) = true := decide_eq_true (by omega)
  go_enter Tryd.func42, Tryd.ntmps42
  go_wp2_with fail
  refine wp_loop_rounds 6 ?_
  rw [rounds_succ]
  go_wp2_with fail
  rw [rounds_succ]
  go_wp2_with fail
  rw [rounds_succ]
  go_wp2_with fail
  rw [rounds_succ]
  go_wp2_with fail
  go_ret
  exact ⟨ret_int (by omega), HB.out⟩
set_option maxRecDepth 100000 in
set_option maxHeartbeats 2000000 in
theorem number_1_out (blk off cap x : Nat) (w : World) (hb : blk < w.heap.size) (c0 : w.cell? ⟨blk, off, none⟩ = some (.int .u8 (x : Int))) (kx : x < 256) (h0 : 128 ≤ x) :
    Calls Tryd.prog 42 #[.slice (some ⟨blk, off, none⟩) 1 cap] w fun e w' => e = .returned (.int .i64 (-1)) ∧ Below w.heap.size w w' := by
  have l2 : (w.alloc (.cells #[.int .i64 0, .int .i64 0, .int .i64 192, .int .i64 224, .int .i64 240] 73)).cell? ⟨w.heap.size, 2, none⟩ = some (.int .i64 192) := cell_at w _ 2 rfl
  have l3 : (w.alloc (.cells #[.int .i64 0, .int .i64 0, .int .i64 192, .int .i64 224, .int .i64 240] 73)).cell? ⟨w.heap.size, 3, none⟩ = some (.int .i64 224) := cell_at w _ 3 rfl
  have l4 : (w.alloc (.cells #[.int .i64 0, .int .i64 0, .int .i64 192, .int .i64 224, .int .i64 240] 73)).cell? ⟨w.heap.size, 4, none⟩ = some (.int .i64 240) := cell_at w _ 4 rfl
  have dc0 : (w.alloc (.cells #[.int .i64 0, .int .i64 0, .int .i64 192, .int .i64 224, .int .i64 240] 73)).cell? ⟨blk, off, none⟩ = some (.int .u8 (x : Int)) := by rw [cell_old w _ hb]; exact c0
  have HB := Lib.hid ((Below.refl w.heap.size w).alloc (Nat.le_refl _) (.cells #[.int .i64 0, .int .i64 0, .int .i64 192, .int .i64 224, .int .i64 240] 73))
  have hU := kx; clear hU
  have e0 : decide ((x : Int) < 128) = false := decide_eq_false (by omega)
  go_enter Tryd.func42, Tryd.ntmps42
  go_wp2_with fail
  refine wp_loop_rounds 6 ?_
  rw [rounds_succ]
  go_wp2_with fail
  rw [rounds_succ]
  go_wp2_with fail
  rw [rounds_succ]
  go_wp2_with fail
  rw [rounds_succ]
  go_wp2_with fail
  go_ret
  exact ⟨ret_int (by omega), HB.out⟩
set_option maxRecDepth 100000 in
set_option maxHeartbeats 2000000 in
theorem number_2_in (blk off cap x y : Nat) (w : World) (hb : blk < w.heap.size) (c0 : w.cell? ⟨blk, off, none⟩ = some (.int .u8 (x : Int))) (c1 : w.cell? ⟨blk, off + 1, none⟩ = some (.int .u8 (y : Int))) (kx : x < 256) (ky : y < 256) (h0 : 192 ≤ x) (h1 : x < 224) (h2 : 128 ≤ y) (h3 : y < 192) :
    Calls Tryd.prog 42 #[.slice (some ⟨blk, off, none⟩) 2 cap] w fun e w' => e = .returned (.int .i64 (64 * ((x : Int) - 192) + y - 128)) ∧ Below w.heap.size w w' := by
  have l2 : (w.alloc (.cells #[.int .i64 0, .int .i64 0, .int .i64 192, .int .i64 224, .int .i64 240] 73)).cell? ⟨w.heap.size, 2, none⟩ = some (.int .i64 192) := cell_at w _ 2 rfl
  have l3 : (w.alloc (.cells #[.int .i64 0, .int .i64 0, .int .i64 192, .int .i64 224, .int .i64 240] 73)).cell? ⟨w.heap.size, 3, none⟩ = some (.int .i64 224) := cell_at w _ 3 rfl
  have l4 : (w.alloc (.cells #[.int .i64 0, .int .i64 0, .int .i64 192, .int .i64 224, .int .i64 240] 73)).cell? ⟨w.heap.size, 4, none⟩ = some (.int .i64 240) := cell_at w _ 4 rfl
  have dc0 : (w.alloc (.cells #[.int .i64 0, .int .i64 0, .int .i64 192, .int .i64 224, .int .i64 240] 73)).cell? ⟨blk, off, none⟩ = some (.int .u8 (x : Int)) := by rw [cell_old w _ hb]; exact c0
  have dc1 : (w.alloc (.cells #[.int .i64 0, .int .i64 0, .int .i64 192, .int .i64 224, .int .i64 240] 73)).cell? ⟨blk, off + 1, none⟩ = some (.int .u8 (y : Int)) := by rw [cell_old w _ hb]; exact c1
  have HB := Lib.hid ((Below.refl w.heap.size w).alloc (Nat.le_refl _) (.cells #[.int .i64 0, .int .i64 0, .int .i64 192, .int .i64 224, .int .i64 240] 73))
  have hU := kx; clear hU
  have hU := ky; clear hU
  have e0 : decide ((x : Int) < 192) = false := decide_eq_false (by omega)
  have e1 : decide ((224 : Int) ≤ (x : Int)) = false := decide_eq_false (by omega)
  have f1 : decide ((y : Int) < 128) = false := decide_eq_false (by omega)
  have g1 : decide ((192 : Int) ≤ (y : Int)) = false := decide_eq_false (by omega)
  go_enter Tryd.func42, Tryd.ntmps42
  go_wp2_with fail
  refine wp_loop_rounds 6 ?_
  rw [rounds_succ]
  go_wp2_with fail
  refine wp_loop_rounds 6 ?_
  rw [rounds_succ]
  go_wp2_with fail
  rw [rounds_succ]
  go_wp2_with fail
  go_ret
  exact ⟨ret_int (by omega), HB.out⟩
set_option maxRecDepth 100000 in
set_option maxHeartbeats 2000000 in
theorem number_2_out0 (blk off cap x y : Nat) (w : World) (hb : blk < w.heap.size) (c0 : w.cell? ⟨blk, off, none⟩ = some (.int .u8 (x : Int))) (c1 : w.cell? ⟨blk, off + 1, none⟩ = some (.int .u8 (y : Int))) (kx : x < 256) (ky : y < 256) (h0 : x < 192) :
    Calls Tryd.prog 42 #[.slice (some ⟨blk, off, none⟩) 2 cap] w fun e w' => e = .returned (.int .i64 (-1)) ∧ Below w.heap.size w w' := by
  have l2 : (w.alloc (.cells #[.int .i64 0, .int .i64 0, .int .i64 192, .int .i64 224, .int .i64 240] 73)).cell? ⟨w.heap.size, 2, none⟩ = some (.int .i64 192) := cell_at w _ 2 rfl
  have l3 : (w.alloc (.cells #[.int .i64 0, .int .i64 0, .int .i64 192, .int .i64 224, .int .i64 240] 73)).cell? ⟨w.heap.size, 3, none⟩ = some (.int .i64 224) := cell_at w _ 3 rfl
  have l4 : (w.alloc (.cells #[.int .i64 0, .int .i64 0, .int .i64 192, .int .i64 224, .int .i64 240] 73)).cell? ⟨w.heap.size, 4, none⟩ = some (.int .i64 240) := cell_at w _ 4 rfl
  have dc0 : (w.alloc (.cells #[.int .i64 0, .int .i64 0, .int .i64 192, .int .i64 224, .int .i64 240] 73)).cell? ⟨blk, off, none⟩ = some (.int .u8 (x : Int)) := by rw [cell_old w _ hb]; exact c0
  have dc1 : (w.alloc (.cells #[.int .i64 0, .int .i64 0, .int .i64 192, .int .i64 224, .int .i64 240] 73)).cell? ⟨blk, off + 1, none⟩ = some (.int .u8 (y : Int)) := by rw [cell_old w _ hb]; exact c1
  have HB := Lib.hid ((Below.refl w.heap.size w).alloc (Nat.le_refl _) (.cells #[.int .i64 0, .int .i64 0, .int .i64 192, .int .i64 224, .int .i64 240] 73))
  have hU := kx; clear hU
  have hU := ky; clear hU
  have e0 : decide ((x : Int) < 192) = true := decide_eq_true (by omega)
  go_enter Tryd.func42, Tryd.ntmps42
  go_wp2_with fail
  refine wp_loop_rounds 6 ?_
  rw [rounds_succ]
  go_wp2_with fail
  rw [rounds_succ]
  go_wp2_with fail
  rw [rounds_succ]
  go_wp2_with fail
  rw [rounds_succ]
  go_wp2_with fail
  go_ret
  exact ⟨ret_int (by omega), HB.out⟩
set_option maxRecDepth 100000 in
set_option maxHeartbeats 2000000 in
theorem number_2_out1 (blk off cap x y : Nat) (w : World) (hb : blk < w.heap.size) (c0 : w.cell? ⟨blk, off, none⟩ = some (.int .u8 (x : Int))) (c1 : w.cell? ⟨blk, off + 1, none⟩ = some (.int .u8 (y : Int))) (kx : x < 256) (ky : y < 256) (h0 : 224 ≤ x) :
    Calls Tryd.prog 42 #[.slice (some ⟨blk, off, none⟩) 2 cap] w fun e w' => e = .returned (.int .i64 (-1)) ∧ Below w.heap.size w w' := by
  have l2 : (w.alloc (.cells #[.int .i64 0, .int .i64 0, .int .i64 192, .int .i64 224, .int .i64 240] 73)).cell? ⟨w.heap.size, 2, none⟩ = some (.int .i64 192) := cell_at w _ 2 rfl
  have l3 : (w.alloc (.cells #[.int .i64 0, .int .i64 0, .int .i64 192, .int .i64 224, .int .i64 240] 73)).cell? ⟨w.heap.size, 3, none⟩ = some (.int .i64 224) := cell_at w _ 3 rfl
  have l4 : (w.alloc (.cells #[.int .i64 0, .int .i64 0, .int .i64 192, .int .i64 224, .int .i64 240] 73)).cell? ⟨w.heap.size, 4, none⟩ = some (.int .i64 240) := cell_at w _ 4 rfl
  have dc0 : (w.alloc (.cells #[.int .i64 0, .int .i64 0, .int .i64 192, .int .i64 224, .int .i64 240] 73)).cell? ⟨blk, off, none⟩ = some (.int .u8 (x : Int)) := by rw [cell_old w _ hb]; exact c0
  have dc1 : (w.alloc (.cells #[.int .i64 0, .int .i64 0, .int .i64 192, .int .i64 224, .int .i64 240] 73)).cell? ⟨blk, off + 1, none⟩ = some (.int .u8 (y : Int)) := by rw [cell_old w _ hb]; exact c1
  have HB := Lib.hid ((Below.refl w.heap.size w).alloc (Nat.le_refl _) (.cells #[.int .i64 0, .int .i64 0, .int .i64 192, .int .i64 224, .int .i64 240] 73))
  have hU := kx; clear hU
  have hU := ky; clear hU
  have e0 : decide ((x : Int) < 192) = false := decide_eq_false (by omega)
  have e1 : decide ((224 : Int) ≤ (x : Int)) = true := decide_eq_true (by omega)
  go_enter Tryd.func42, Tryd.ntmps42
  go_wp2_with fail
  refine wp_loop_rounds 6 ?_
  rw [rounds_succ]
  go_wp2_with fail
  rw [rounds_succ]
  go_wp2_with fail
  rw [rounds_succ]
  go_wp2_with fail
  rw [rounds_succ]
  go_wp2_with fail
  go_ret
  exact ⟨ret_int (by omega), HB.out⟩
set_option maxRecDepth 100000 in
set_option maxHeartbeats 2000000 in
theorem number_2_b10 (blk off cap x y : Nat) (w : World) (hb : blk < w.heap.size) (c0 : w.cell? ⟨blk, off, none⟩ = some (.int .u8 (x : Int))) (c1 : w.cell? ⟨blk, off + 1, none⟩ = some (.int .u8 (y : Int))) (kx : x < 256) (ky : y < 256) (h0 : 192 ≤ x) (h1 : x < 224) (h2 : y < 128) :
    Calls Tryd.prog 42 #[.slice (some ⟨blk, off, none⟩) 2 cap] w fun e w' => e = .returned (.int .i64 (-1)) ∧ Below w.heap.size w w' := by
  have l2 : (w.alloc (.cells #[.int .i64 0, .int .i64 0, .int .i64 192, .int .i64 224, .int .i64 240] 73)).cell? ⟨w.heap.size, 2, none⟩ = some (.int .i64 192) := cell_at w _ 2 rfl
  have l3 : (w.alloc (.cells #[.int .i64 0, .int .i64 0, .int .i64 192, .int .i64 224, .int .i64 240] 73)).cell? ⟨w.heap.size, 3, none⟩ = some (.int .i64 224) := cell_at w _ 3 rfl
  have l4 : (w.alloc (.cells #[.int .i64 0, .int .i64 0, .int .i64 192, .int .i64 224, .int .i64 240] 73)).cell? ⟨w.heap.size, 4, none⟩ = some (.int .i64 240) := cell_at w _ 4 rfl
  have dc0 : (w.alloc (.cells #[.int .i64 0, .int .i64 0, .int .i64 192, .int .i64 224, .int .i64 240] 73)).cell? ⟨blk, off, none⟩ = some (.int .u8 (x : Int)) := by rw [cell_old w _ hb]; exact c0
  have dc1 : (w.alloc (.cells #[.int .i64 0, .int .i64 0, .int .i64 192, .int .i64 224, .int .i64 240] 73)).cell? ⟨blk, off + 1, none⟩ = some (.int .u8 (y : Int)) := by rw [cell_old w _ hb]; exact c1
  have HB := Lib.hid ((Below.refl w.heap.size w).alloc (Nat.le_refl _) (.cells #[.int .i64 0, .int .i64 0, .int .i64 192, .int .i64 224, .int .i64 240] 73))
  have hU := kx; clear hU
  have hU := ky; clear hU
  have e0 : decide ((x : Int) < 192) = false := decide_eq_false (by omega)
  have e1 : decide ((224 : Int) ≤ (x : Int)) = false := decide_eq_false (by omega)
  have f1 : decide ((y : Int) < 128) = true := decide_eq_true (by omega)
  go_enter Tryd.func42, Tryd.ntmps42
  go_wp2_with fail
  refine wp_loop_rounds 6 ?_
  rw [rounds_succ]
  go_wp2_with fail
  refine wp_loop_rounds 6 ?_
  rw [rounds_succ]
  go_wp2_with fail
  go_ret
  exact ⟨ret_int (by omega), HB.out⟩
set_option maxRecDepth 100000 in
set_option maxHeartbeats 2000000 in
theorem number_2_b11 (blk off cap x y : Nat) (w : World) (hb : blk < w.heap.size) (c0 : w.cell? ⟨blk, off, none⟩ = some (.int .u8 (x : Int))) (c1 : w.cell? ⟨blk, off + 1, none⟩ = some (.int .u8 (y : Int))) (kx : x < 256) (ky : y < 256) (h0 : 192 ≤ x) (h1 : x < 224) (h2 : 192 ≤ y) :
    Calls Tryd.prog 42 #[.slice (some ⟨blk, off, none⟩) 2 cap] w fun e w' => e = .returned (.int .i64 (-1)) ∧ Below w.heap.size w w' := by
  have l2 : (w.alloc (.cells #[.int .i64 0, .int .i64 0, .int .i64 192, .int .i64 224, .int .i64 240] 73)).cell? ⟨w.heap.size, 2, none⟩ = some (.int .i64 192) := cell_at w _ 2 rfl
  have l3 : (w.alloc (.cells #[.int .i64 0, .int .i64 0, .int .i64 192, .int .i64 224, .int .i64 240] 73)).cell? ⟨w.heap.size, 3, none⟩ = some (.int .i64 224) := cell_at w _ 3 rfl
  have l4 : (w.alloc (.cells #[.int .i64 0, .int .i64 0, .int .i64 192, .int .i64 224, .int .i64 240] 73)).cell? ⟨w.heap.size, 4, none⟩ = some (.int .i64 240) := cell_at w _ 4 rfl
  have dc0 : (w.alloc (.cells #[.int .i64 0, .int .i64 0, .int .i64 192, .int .i64 224, .int .i64 240] 73)).cell? ⟨blk, off, none⟩ = some (.int .u8 (x : Int)) := by rw [cell_old w _ hb]; exact c0
  have dc1 : (w.alloc (.cells #[.int .i64 0, .int .i64 0, .int .i64 192, .int .i64 224, .int .i64 240] 73)).cell? ⟨blk, off + 1, none⟩ = some (.int .u8 (y : Int)) := by rw [cell_old w _ hb]; exact c1
  have HB := Lib.hid ((Below.refl w.heap.size w).alloc (Nat.le_refl _) (.cells #[.int .i64 0, .int .i64 0, .int .i64 192, .int .i64 224, .int .i64 240] 73))
  have hU := kx; clear hU
  have hU := ky; clear hU
  have e0 : decide ((x : Int) < 192) = false := decide_eq_false (by omega)
  have e1 : decide ((224 : Int) ≤ (x : Int)) = false := decide_eq_false (by omega)
  have f1 : decide ((y : Int) < 128) = false := decide_eq_false (by omega)
  have g1 : decide ((192 : Int) ≤ (y : Int)) = true := decide_eq_true (by omega)
  go_enter Tryd.func42, Tryd.ntmps42
  go_wp2_with fail
  refine wp_loop_rounds 6 ?_
  rw [rounds_succ]
  go_wp2_with fail
  refine wp_loop_rounds 6 ?_
  rw [rounds_succ]
  go_wp2_with fail
  go_ret
  exact ⟨ret_int (by omega), HB.out⟩
set_option maxRecDepth 100000 in
set_option maxHeartbeats 2000000 in
theorem number_3_in (blk off cap x y z : Nat) (w : World) (hb : blk < w.heap.size) (c0 : w.cell? ⟨blk, off, none⟩ = some (.int .u8 (x : Int))) (c1 : w.cell? ⟨blk, off + 1, none⟩ = some (.int .u8 (y : Int))) (c2 : w.cell? ⟨blk, off + 2, none⟩ = some (.int .u8 (z : Int))) (kx : x < 256) (ky : y < 256) (kz : z < 256) (h0 : 224 ≤ x) (h1 : x < 240) (h2 : 128 ≤ y) (h3 : y < 192) (h4 : 128 ≤ z) (h5 : z < 192) :
    Calls Tryd.prog 42 #[.slice (some ⟨blk, off, none⟩) 3 cap] w fun e w' => e = .returned (.int .i64 (64 * (64 * ((x : Int) - 224) + y - 128) + z - 128)) ∧ Below w.heap.size w w' := by
  have l2 : (w.alloc (.cells #[.int .i64 0, .int .i64 0, .int .i64 192, .int .i64 224, .int .i64 240] 73)).cell? ⟨w.heap.size, 2, none⟩ = some (.int .i64 192) := cell_at w _ 2 rfl
  have l3 : (w.alloc (.cells #[.int .i64 0, .int .i64 0, .int .i64 192, .int .i64 224, .int .i64 240] 73)).cell? ⟨w.heap.size, 3, none⟩ = some (.int .i64 224) := cell_at w _ 3 rfl
  have l4 : (w.alloc (.cells #[.int .i64 0, .int .i64 0, .int .i64 192, .int .i64 224, .int .i64 240] 73)).cell? ⟨w.heap.size, 4, none⟩ = some (.int .i64 240) := cell_at w _ 4 rfl
  have dc0 : (w.alloc (.cells #[.int .i64 0, .int .i64 0, .int .i64 192, .int .i64 224, .int .i64 240] 73)).cell? ⟨blk, off, none⟩ = some (.int .u8 (x : Int)) := by rw [cell_old w _ hb]; exact c0
  have dc1 : (w.alloc (.cells #[.int .i64 0, .int .i64 0, .int .i64 192, .int .i64 224, .int .i64 240] 73)).cell? ⟨blk, off + 1, none⟩ = some (.int .u8 (y : Int)) := by rw [cell_old w _ hb]; exact c1
  have dc2 : (w.alloc (.cells #[.int .i64 0, .int .i64 0, .int .i64 192, .int .i64 224, .int .i64 240] 73)).cell? ⟨blk, off + 2, none⟩ = some (.int .u8 (z : Int)) := by rw [cell_old w _ hb]; exact c2
  have HB := Lib.hid ((Below.refl w.heap.size w).alloc (Nat.le_refl _) (.cells #[.int .i64 0, .int .i64 0, .int .i64 192, .int .i64 224, .int .i64 240] 73))
  have hU := kx; clear hU
  have hU := ky; clear hU
  have hU := kz; clear hU
  have e0 : decide ((x : Int) < 224) = false := decide_eq_false (by omega)
  have e1 : decide ((240 : Int) ≤ (x : Int)) = false := decide_eq_false (by omega)
  have f1 : decide ((y : Int) < 128) = false := decide_eq_false (by omega)
  have g1 : decide ((192 : Int) ≤ (y : Int)) = false := decide_eq_false (by omega)
  have f2 : decide ((z : Int) < 128) = false := decide_eq_false (by omega)
  have g2 : decide ((192 : Int) ≤ (z : Int)) = false := decide_eq_false (by omega)
  go_enter Tryd.func42, Tryd.ntmps42
  go_wp2_with fail
  refine wp_loop_rounds 6 ?_
  rw [rounds_succ]
  go_wp2_with fail
  rw [rounds_succ]
  go_wp2_with fail
  refine wp_loop_rounds 6 ?_
  rw [rounds_succ]
  go_wp2_with fail
  rw [rounds_succ]
  go_wp2_with fail
  rw [rounds_succ]
  go_wp2_with fail
  go_ret
  exact ⟨ret_int (by omega), HB.out⟩
set_option maxRecDepth 100000 in
set_option maxHeartbeats 2000000 in
theorem number_3_out0 (blk off cap x y z : Nat) (w : World) (hb : blk < w.heap.size) (c0 : w.cell? ⟨blk, off, none⟩ = some (.int .u8 (x : Int))) (c1 : w.cell? ⟨blk, off + 1, none⟩ = some (.int .u8 (y : Int))) (c2 : w.cell? ⟨blk, off + 2, none⟩ = some (.int .u8 (z : Int))) (kx : x < 256) (ky : y < 256) (kz : z < 256) (h0 : x < 224) :
    Calls Tryd.prog 42 #[.slice (some ⟨blk, off, none⟩) 3 cap] w fun e w' => e = .returned (.int .i64 (-1)) ∧ Below w.heap.size w w' := by
  have l2 : (w.alloc (.cells #[.int .i64 0, .int .i64 0, .int .i64 192, .int .i64 224, .int .i64 240] 73)).cell? ⟨w.heap.size, 2, none⟩ = some (.int .i64 192) := cell_at w _ 2 rfl
  have l3 : (w.alloc (.cells #[.int .i64 0, .int .i64 0, .int .i64 192, .int .i64 224, .int .i64 240] 73)).cell? ⟨w.heap.size, 3, none⟩ = some (.int .i64 224) := cell_at w _ 3 rfl
  have l4 : (w.alloc (.cells #[.int .i64 0, .int .i64 0, .int .i64 192, .int .i64 224, .int .i64 240] 73)).cell? ⟨w.heap.size, 4, none⟩ = some (.int .i64 240) := cell_at w _ 4 rfl
  have dc0 : (w.alloc (.cells #[.int .i64 0, .int .i64 0, .int .i64 192, .int .i64 224, .int .i64 240] 73)).cell? ⟨blk, off, none⟩ = some (.int .u8 (x : Int)) := by rw [cell_old w _ hb]; exact c0
  have dc1 : (w.alloc (.cells #[.int .i64 0, .int .i64 0, .int .i64 192, .int .i64 224, .int .i64 240] 73)).cell? ⟨blk, off + 1, none⟩ = some (.int .u8 (y : Int)) := by rw [cell_old w _ hb]; exact c1
  have dc2 : (w.alloc (.cells #[.int .i64 0, .int .i64 0, .int .i64 192, .int .i64 224, .int .i64 240] 73)).cell? ⟨blk, off + 2, none⟩ = some (.int .u8 (z : Int)) := by rw [cell_old w _ hb]; exact c2
  have HB := Lib.hid ((Below.refl w.heap.size w).alloc (Nat.le_refl _) (.cells #[.int .i64 0, .int .i64 0, .int .i64 192, .int .i64 224, .int .i64 240] 73))
  have hU := kx; clear hU
  have hU := ky; clear hU
  have hU := kz; clear hU
  have e0 : decide ((x : Int) < 224) = true := decide_eq_true (by omega)
  go_enter Tryd.func42, Tryd.ntmps42
  go_wp2_with fail
  refine wp_loop_rounds 6 ?_
  rw [rounds_succ]
  go_wp2_with fail
  rw [rounds_succ]
  go_wp2_with fail
  rw [rounds_succ]
  go_wp2_with fail
  rw [rounds_succ]
  go_wp2_with fail
  go_ret
  exact ⟨ret_int (by omega), HB.out⟩
set_option maxRecDepth 100000 in
set_option maxHeartbeats 2000000 in
theorem number_3_out1 (blk off cap x y z : Nat) (w : World) (hb : blk < w.heap.size) (c0 : w.cell? ⟨blk, off, none⟩ = some (.int .u8 (x : Int))) (c1 : w.cell? ⟨blk, off + 1, none⟩ = some (.int .u8 (y : Int))) (c2 : w.cell? ⟨blk, off + 2, none⟩ = some (.int .u8 (z : Int))) (kx : x < 256) (ky : y < 256) (kz : z < 256) (h0 : 240 ≤ x) :
    Calls Tryd.prog 42 #[.slice (some ⟨blk, off, none⟩) 3 cap] w fun e w' => e = .returned (.int .i64 (-1)) ∧ Below w.heap.size w w' := by
  have l2 : (w.alloc (.cells #[.int .i64 0, .int .i64 0, .int .i64 192, .int .i64 224, .int .i64 240] 73)).cell? ⟨w.heap.size, 2, none⟩ = some (.int .i64 192) := cell_at w _ 2 rfl
  have l3 : (w.alloc (.cells #[.int .i64 0, .int .i64 0, .int .i64 192, .int .i64 224, .int .i64 240] 73)).cell? ⟨w.heap.size, 3, none⟩ = some (.int .i64 224) := cell_at w _ 3 rfl
  have l4 : (w.alloc (.cells #[.int .i64 0, .int .i64 0, .int .i64 192, .int .i64 224, .int .i64 240] 73)).cell? ⟨w.heap.size, 4, none⟩ = some (.int .i64 240) := cell_at w _ 4 rfl
  have dc0 : (w.alloc (.cells #[.int .i64 0, .int .i64 0, .int .i64 192, .int .i64 224, .int .i64 240] 73)).cell? ⟨blk, off, none⟩ = some (.int .u8 (x : Int)) := by rw [cell_old w _ hb]; exact c0
  have dc1 : (w.alloc (.cells #[.int .i64 0, .int .i64 0, .int .i64 192, .int .i64 224, .int .i64 240] 73)).cell? ⟨blk, off + 1, none⟩ = some (.int .u8 (y : Int)) := by rw [cell_old w _ hb]; exact c1
  have dc2 : (w.alloc (.cells #[.int .i64 0, .int .i64 0, .int .i64 192, .int .i64 224, .int .i64 240] 73)).cell? ⟨blk, off + 2, none⟩ = some (.int .u8 (z : Int)) := by rw [cell_old w _ hb]; exact c2
  have HB := Lib.hid ((Below.refl w.heap.size w).alloc (Nat.le_refl _) (.cells #[.int .i64 0, .int .i64 0, .int .i64 192, .int .i64 224, .int .i64 240] 73))
  have hU := kx; clear hU
  have hU := ky; clear hU
  have hU := kz; clear hU
  have e0 : decide ((x : Int) < 224) = false := decide_eq_false (by omega)
  have e1 : decide ((240 : Int) ≤ (x : Int)) = true := decide_eq_true (by omega)
  go_enter Tryd.func42, Tryd.ntmps42
  go_wp2_with fail
  refine wp_loop_rounds 6 ?_
  rw [rounds_succ]
  go_wp2_with fail
  rw [rounds_succ]
  go_wp2_with fail
  rw [rounds_succ]
  go_wp2_with fail
  rw [rounds_succ]
  go_wp2_with fail
  go_ret
  exact ⟨ret_int (by omega), HB.out⟩
set_option maxRecDepth 100000 in
set_option maxHeartbeats 2000000 in
theorem number_3_b10 (blk off cap x y z : Nat) (w : World) (hb : blk < w.heap.size) (c0 : w.cell? ⟨blk, off, none⟩ = some (.int .u8 (x : Int))) (c1 : w.cell? ⟨blk, off + 1, none⟩ = some (.int .u8 (y : Int))) (c2 : w.cell? ⟨blk, off + 2, none⟩ = some (.int .u8 (z : Int))) (kx : x < 256) (ky : y < 256) (kz : z < 256) (h0 : 224 ≤ x) (h1 : x < 240) (h2 : y < 128) :
    Calls Tryd.prog 42 #[.slice (some ⟨blk, off, none⟩) 3 cap] w fun e w' => e = .returned (.int .i64 (-1)) ∧ Below w.heap.size w w' := by
  have l2 : (w.alloc (.cells #[.int .i64 0, .int .i64 0, .int .i64 192, .int .i64 224, .int .i64 240] 73)).cell? ⟨w.heap.size, 2, none⟩ = some (.int .i64 192) := cell_at w _ 2 rfl
  have l3 : (w.alloc (.cells #[.int .i64 0, .int .i64 0, .int .i64 192, .int .i64 224, .int .i64 240] 73)).cell? ⟨w.heap.size, 3, none⟩ = some (.int .i64 224) := cell_at w _ 3 rfl
  have l4 : (w.alloc (.cells #[.int .i64 0, .int .i64 0, .int .i64 192, .int .i64 224, .int .i64 240] 73)).cell? ⟨w.heap.size, 4, none⟩ = some (.int .i64 240) := cell_at w _ 4 rfl
  have dc0 : (w.alloc (.cells #[.int .i64 0, .int .i64 0, .int .i64 192, .int .i64 224, .int .i64 240] 73)).cell? ⟨blk, off, none⟩ = some (.int .u8 (x : Int)) := by rw [cell_old w _ hb]; exact c0
  have dc1 : (w.alloc (.cells #[.int .i64 0, .int .i64 0, .int .i64 192, .int .i64 224, .int .i64 240] 73)).cell? ⟨blk, off + 1, none⟩ = some (.int .u8 (y : Int)) := by rw [cell_old w _ hb]; exact c1
  have dc2 : (w.alloc (.cells #[.int .i64 0, .int .i64 0, .int .i64 192, .int .i64 224, .int .i64 240] 73)).cell? ⟨blk, off + 2, none⟩ = some (.int .u8 (z : Int)) := by rw [cell_old w _ hb]; exact c2
  have HB := Lib.hid ((Below.refl w.heap.size w).alloc (Nat.le_refl _) (.cells #[.int .i64 0, .int .i64 0, .int .i64 192, .int .i64 224, .int .i64 240] 73))
  have hU := kx; clear hU
  have hU := ky; clear hU
  have hU := kz; clear hU
  have e0 : decide ((x : Int) < 224) = false := decide_eq_false (by omega)
  have e1 : decide ((240 : Int) ≤ (x : Int)) = false := decide_eq_false (by omega)
  have f1 : decide ((y : Int) < 128) = true := decide_eq_true (by omega)
  go_enter Tryd.func42, Tryd.ntmps42
  go_wp2_with fail
  refine wp_loop_rounds 6 ?_
  rw [rounds_succ]
  go_wp2_with fail
  rw [rounds_succ]
  go_wp2_with fail
  refine wp_loop_rounds 6 ?_
  rw [rounds_succ]
  go_wp2_with fail
  go_ret
  exact ⟨ret_int (by omega), HB.out⟩
set_option maxRecDepth 100000 in
set_option maxHeartbeats 2000000 in
theorem number_3_b11 (blk off cap x y z : Nat) (w : World) (hb : blk < w.heap.size) (c0 : w.cell? ⟨blk, off, none⟩ = some (.int .u8 (x : Int))) (c1 : w.cell? ⟨blk, off + 1, none⟩ = some (.int .u8 (y : Int))) (c2 : w.cell? ⟨blk, off + 2, none⟩ = some (.int .u8 (z : Int))) (kx : x < 256) (ky : y < 256) (kz : z < 256) (h0 : 224 ≤ x) (h1 : x < 240) (h2 : 192 ≤ y) :
    Calls Tryd.prog 42 #[.slice (some ⟨blk, off, none⟩) 3 cap] w fun e w' => e = .returned (.int .i64 (-1)) ∧ Below w.heap.size w w' := by
  have l2 : (w.alloc (.cells #[.int .i64 0, .int .i64 0, .int .i64 192, .int .i64 224, .int .i64 240] 73)).cell? ⟨w.heap.size, 2, none⟩ = some (.int .i64 192) := cell_at w _ 2 rfl
  have l3 : (w.alloc (.cells #[.int .i64 0, .int .i64 0, .int .i64 192, .int .i64 224, .int .i64 240] 73)).cell? ⟨w.heap.size, 3, none⟩ = some (.int .i64 224) := cell_at w _ 3 rfl
  have l4 : (w.alloc (.cells #[.int .i64 0, .int .i64 0, .int .i64 192, .int .i64 224, .int .i64 240] 73)).cell? ⟨w.heap.size, 4, none⟩ = some (.int .i64 240) := cell_at w _ 4 rfl
  have dc0 : (w.alloc (.cells #[.int .i64 0, .int .i64 0, .int .i64 192, .int .i64 224, .int .i64 240] 73)).cell? ⟨blk, off, none⟩ = some (.int .u8 (x : Int)) := by rw [cell_old w _ hb]; exact c0
  have dc1 : (w.alloc (.cells #[.int .i64 0, .int .i64 0, .int .i64 192, .int .i64 224, .int .i64 240] 73)).cell? ⟨blk, off + 1, none⟩ = some (.int .u8 (y : Int)) := by rw [cell_old w _ hb]; exact c1
  have dc2 : (w.alloc (.cells #[.int .i64 0, .int .i64 0, .int .i64 192, .int .i64 224, .int .i64 240] 73)).cell? ⟨blk, off + 2, none⟩ = some (.int .u8 (z : Int)) := by rw [cell_old w _ hb]; exact c2
  have HB := Lib.hid ((Below.refl w.heap.size w).alloc (Nat.le_refl _) (.cells #[.int .i64 0, .int .i64 0, .int .i64 192, .int .i64 224, .int .i64 240] 73))
  have hU := kx; clear hU
  have hU := ky; clear hU
  have hU := kz; clear hU
  have e0 : decide ((x : Int) < 224) = false := decide_eq_false (by omega)
  have e1 : decide ((240 : Int) ≤ (x : Int)) = false := decide_eq_false (by omega)
  have f1 : decide ((y : Int) < 128) = false := decide_eq_false (by omega)
  have g1 : decide ((192 : Int) ≤ (y : Int)) = true := decide_eq_true (by omega)
  go_enter Tryd.func42, Tryd.ntmps42
  go_wp2_with fail
  refine wp_loop_rounds 6 ?_
  rw [rounds_succ]
  go_wp2_with fail
  rw [rounds_succ]
  go_wp2_with fail
  refine wp_loop_rounds 6 ?_
  rw [rounds_succ]
  go_wp2_with fail
  go_ret
  exact ⟨ret_int (by omega), HB.out⟩
set_option maxRecDepth 100000 in
set_option maxHeartbeats 2000000 in
theorem number_3_b20 (blk off cap x y z : Nat) (w : World) (hb : blk < w.heap.size) (c0 : w.cell? ⟨blk, off, none⟩ = some (.int .u8 (x : Int))) (c1 : w.cell? ⟨blk, off + 1, none⟩ = some (.int .u8 (y : Int))) (c2 : w.cell? ⟨blk, off + 2, none⟩ = some (.int .u8 (z : Int))) (kx : x < 256) (ky : y < 256) (kz : z < 256) (h0 : 224 ≤ x) (h1 : x < 240) (h2 : 128 ≤ y) (h3 : y < 192) (h4 : z < 128) :
    Calls Tryd.prog 42 #[.slice (some ⟨blk, off, none⟩) 3 cap] w fun e w' => e = .returned (.int .i64 (-1)) ∧ Below w.heap.size w w' := by
  have l2 : (w.alloc (.cells #[.int .i64 0, .int .i64 0, .int .i64 192, .int .i64 224, .int .i64 240] 73)).cell? ⟨w.heap.size, 2, none⟩ = some (.int .i64 192) := cell_at w _ 2 rfl
  have l3 : (w.alloc (.cells #[.int .i64 0, .int .i64 0, .int .i64 192, .int .i64 224, .int .i64 240] 73)).cell? ⟨w.heap.size, 3, none⟩ = some (.int .i64 224) := cell_at w _ 3 rfl
  have l4 : (w.alloc (.cells #[.int .i64 0, .int .i64 0, .int .i64 192, .int .i64 224, .int .i64 240] 73)).cell? ⟨w.heap.size, 4, none⟩ = some (.int .i64 240) := cell_at w _ 4 rfl
  have dc0 : (w.alloc (.cells #[.int .i64 0, .int .i64 0, .int .i64 192, .int .i64 224, .int .i64 240] 73)).cell? ⟨blk, off, none⟩ = some (.int .u8 (x : Int)) := by rw [cell_old w _ hb]; exact c0
  have dc1 : (w.alloc (.cells #[.int .i64 0, .int .i64 0, .int .i64 192, .int .i64 224, .int .i64 240] 73)).cell? ⟨blk, off + 1, none⟩ = some (.int .u8 (y : Int)) := by rw [cell_old w _ hb]; exact c1
  have dc2 : (w.alloc (.cells #[.int .i64 0, .int .i64 0, .int .i64 192, .int .i64 224, .int .i64 240] 73)).cell? ⟨blk, off + 2, none⟩ = some (.int .u8 (z : Int)) := by rw [cell_old w _ hb]; exact c2
  have HB := Lib.hid ((Below.refl w.heap.size w).alloc (Nat.le_refl _) (.cells #[.int .i64 0, .int .i64 0, .int .i64 192, .int .i64 224, .int .i64 240] 73))
  have hU := kx; clear hU
  have hU := ky; clear hU
  have hU := kz; clear hU
  have e0 : decide ((x : Int) < 224) = false := decide_eq_false (by omega)
  have e1 : decide ((240 : Int) ≤ (x : Int)) = false := decide_eq_false (by omega)
  have f1 : decide ((y : Int) < 128) = false := decide_eq_false (by omega)
  have g1 : decide ((192 : Int) ≤ (y : Int)) = false := decide_eq_false (by omega)
  have f2 : decide ((z : Int) < 128) = true := decide_eq_true (by omega)
  go_enter Tryd.func42, Tryd.ntmps42
  go_wp2_with fail
  refine wp_loop_rounds 6 ?_
  rw [rounds_succ]
  go_wp2_with fail
  rw [rounds_succ]
  go_wp2_with fail
  refine wp_loop_rounds 6 ?_
  rw [rounds_succ]
  go_wp2_with fail
  rw [rounds_succ]
  go_wp2_with fail
  go_ret
  exact ⟨ret_int (by omega), HB.out⟩
set_option maxRecDepth 100000 in
set_option maxHeartbeats 2000000 in
theorem number_3_b21 (blk off cap x y z : Nat) (w : World) (hb : blk < w.heap.size) (c0 : w.cell? ⟨blk, off, none⟩ = some (.int .u8 (x : Int))) (c1 : w.cell? ⟨blk, off + 1, none⟩ = some (.int .u8 (y : Int))) (c2 : w.cell? ⟨blk, off + 2, none⟩ = some (.int .u8 (z : Int))) (kx : x < 256) (ky : y < 256) (kz : z < 256) (h0 : 224 ≤ x) (h1 : x < 240) (h2 : 128 ≤ y) (h3 : y < 192) (h4 : 192 ≤ z) :
    Calls Tryd.prog 42 #[.slice (some ⟨blk, off, none⟩) 3 cap] w fun e w' => e = .returned (.int .i64 (-1)) ∧ Below w.heap.size w w' := by
  have l2 : (w.alloc (.cells #[.int .i64 0, .int .i64 0, .int .i64 192, .int .i64 224, .int .i64 240] 73)).cell? ⟨w.heap.size, 2, none⟩ = some (.int .i64 192) := cell_at w _ 2 rfl
  have l3 : (w.alloc (.cells #[.int .i64 0, .int .i64 0, .int .i64 192, .int .i64 224, .int .i64 240] 73)).cell? ⟨w.heap.size, 3, none⟩ = some (.int .i64 224) := cell_at w _ 3 rfl
  have l4 : (w.alloc (.cells #[.int .i64 0, .int .i64 0, .int .i64 192, .int .i64 224, .int .i64 240] 73)).cell? ⟨w.heap.size, 4, none⟩ = some (.int .i64 240) := cell_at w _ 4 rfl
  have dc0 : (w.alloc (.cells #[.int .i64 0, .int .i64 0, .int .i64 192, .int .i64 224, .int .i64 240] 73)).cell? ⟨blk, off, none⟩ = some (.int .u8 (x : Int)) := by rw [cell_old w _ hb]; exact c0
  have dc1 : (w.alloc (.cells #[.int .i64 0, .int .i64 0, .int .i64 192, .int .i64 224, .int .i64 240] 73)).cell? ⟨blk, off + 1, none⟩ = some (.int .u8 (y : Int)) := by rw [cell_old w _ hb]; exact c1
  have dc2 : (w.alloc (.cells #[.int .i64 0, .int .i64 0, .int .i64 192, .int .i64 224, .int .i64 240] 73)).cell? ⟨blk, off + 2, none⟩ = some (.int .u8 (z : Int)) := by rw [cell_old w _ hb]; exact c2
  have HB := Lib.hid ((Below.refl w.heap.size w).alloc (Nat.le_refl _) (.cells #[.int .i64 0, .int .i64 0, .int .i64 192, .int .i64 224, .int .i64 240] 73))
  have hU := kx; clear hU
  have hU := ky; clear hU
  have hU := kz; clear hU
  have e0 : decide ((x : Int) < 224) = false := decide_eq_false (by omega)
  have e1 : decide ((240 : Int) ≤ (x : Int)) = false := decide_eq_false (by omega)
  have f1 : decide ((y : Int) < 128) = false := decide_eq_false (by omega)
  have g1 : decide ((192 : Int) ≤ (y : Int)) = false := decide_eq_false (by omega)
  have f2 : decide ((z : Int) < 128) = false := decide_eq_false (by omega)
  have g2 : decide ((192 : Int) ≤ (z : Int)) = true := decide_eq_true (by omega)
  go_enter Tryd.func42, Tryd.ntmps42
  go_wp2_with fail
  refine wp_loop_rounds 6 ?_
  rw [rounds_succ]
  go_wp2_with fail
  rw [rounds_succ]
  go_wp2_with fail
  refine wp_loop_rounds 6 ?_
  rw [rounds_succ]
  go_wp2_with fail
  rw [rounds_succ]
  go_wp2_with fail
  go_ret
  exact ⟨ret_int (by omega), HB.out⟩
end Go.Proofs.YtomffjaeafcpdaaDoor
