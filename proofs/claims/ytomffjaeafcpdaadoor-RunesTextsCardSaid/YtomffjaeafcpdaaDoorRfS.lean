/- The reference's number. -/
import Derived.Test.YtomffjaeafcpdaaDoorRfQ
namespace Go.Proofs.YtomffjaeafcpdaaDoor
open Go.RowKit

set_option maxRecDepth 100000 in
set_option maxHeartbeats 2000000 in
theorem number_4_in (blk off cap x y z u : Nat) (w : World) (hb : blk < w.heap.size) (c0 : w.cell? ⟨blk, off, none⟩ = some (.int .u8 (x : Int))) (c1 : w.cell? ⟨blk, off + 1, none⟩ = some (.int .u8 (y : Int))) (c2 : w.cell? ⟨blk, off + 2, none⟩ = some (.int .u8 (z : Int))) (c3 : w.cell? ⟨blk, off + 3, none⟩ = some (.int .u8 (u : Int))) (kx : x < 256) (ky : y < 256) (kz : z < 256) (ku : u < 256) (h0 : 240 ≤ x) (h1 : x < 248) (h2 : 128 ≤ y) (h3 : y < 192) (h4 : 128 ≤ z) (h5 : z < 192) (h6 : 128 ≤ u) (h7 : u < 192) :
    Calls Tryd.prog 42 #[.slice (some ⟨blk, off, none⟩) 4 cap] w fun e w' => e = .returned (.int .i64 (64 * (64 * (64 * ((x : Int) - 240) + y - 128) + z - 128) + u - 128)) ∧ Below w.heap.size w w' := by
  have l2 : (w.alloc (.cells #[.int .i64 0, .int .i64 0, .int .i64 192, .int .i64 224, .int .i64 240] 73)).cell? ⟨w.heap.size, 2, none⟩ = some (.int .i64 192) := cell_at w _ 2 rfl
  have l3 : (w.alloc (.cells #[.int .i64 0, .int .i64 0, .int .i64 192, .int .i64 224, .int .i64 240] 73)).cell? ⟨w.heap.size, 3, none⟩ = some (.int .i64 224) := cell_at w _ 3 rfl
  have l4 : (w.alloc (.cells #[.int .i64 0, .int .i64 0, .int .i64 192, .int .i64 224, .int .i64 240] 73)).cell? ⟨w.heap.size, 4, none⟩ = some (.int .i64 240) := cell_at w _ 4 rfl
  have dc0 : (w.alloc (.cells #[.int .i64 0, .int .i64 0, .int .i64 192, .int .i64 224, .int .i64 240] 73)).cell? ⟨blk, off, none⟩ = some (.int .u8 (x : Int)) := by rw [cell_old w _ hb]; exact c0
  have dc1 : (w.alloc (.cells #[.int .i64 0, .int .i64 0, .int .i64 192, .int .i64 224, .int .i64 240] 73)).cell? ⟨blk, off + 1, none⟩ = some (.int .u8 (y : Int)) := by rw [cell_old w _ hb]; exact c1
  have dc2 : (w.alloc (.cells #[.int .i64 0, .int .i64 0, .int .i64 192, .int .i64 224, .int .i64 240] 73)).cell? ⟨blk, off + 2, none⟩ = some (.int .u8 (z : Int)) := by rw [cell_old w _ hb]; exact c2
  have dc3 : (w.alloc (.cells #[.int .i64 0, .int .i64 0, .int .i64 192, .int .i64 224, .int .i64 240] 73)).cell? ⟨blk, off + 3, none⟩ = some (.int .u8 (u : Int)) := by rw [cell_old w _ hb]; exact c3
  have HB := Lib.hid ((Below.refl w.heap.size w).alloc (Nat.le_refl _) (.cells #[.int .i64 0, .int .i64 0, .int .i64 192, .int .i64 224, .int .i64 240] 73))
  have hU := kx; clear hU
  have hU := ky; clear hU
  have hU := kz; clear hU
  have hU := ku; clear hU
  have e0 : decide ((x : Int) < 240) = false := decide_eq_false (by omega)
  have e1 : decide ((248 : Int) ≤ (x : Int)) = false := decide_eq_false (by omega)
  have f1 : decide ((y : Int) < 128) = false := decide_eq_false (by omega)
  have g1 : decide ((192 : Int) ≤ (y : Int)) = false := decide_eq_false (by omega)
  have f2 : decide ((z : Int) < 128) = false := decide_eq_false (by omega)
  have g2 : decide ((192 : Int) ≤ (z : Int)) = false := decide_eq_false (by omega)
  have f3 : decide ((u : Int) < 128) = false := decide_eq_false (by omega)
  have g3 : decide ((192 : Int) ≤ (u : Int)) = false := decide_eq_false (by omega)
  go_enter Tryd.func42, Tryd.ntmps42
  go_wp2_with fail
  refine wp_loop_rounds 6 ?_
  rw [rounds_succ]
  go_wp2_with fail
  rw [rounds_succ]
  go_wp2_with fail
  rw [rounds_succ]
  go_wp2_with fail
  refine wp_loop_rounds 6 ?_
  rw [rounds_succ]
  go_wp2_with fail
  rw [rounds_succ]
  go_wp2_with fail
  rw [rounds_succ]
  go_wp2_with fail
  rw [rounds_succ]
  go_wp2_with fail
  go_ret
  exact ⟨ret_int (by omega), HB.out⟩
set_option maxRecDepth 100000 in
set_option maxHeartbeats 2000000 in
theorem number_4_out0 (blk off cap x y z u : Nat) (w : World) (hb : blk < w.heap.size) (c0 : w.cell? ⟨blk, off, none⟩ = some (.int .u8 (x : Int))) (c1 : w.cell? ⟨blk, off + 1, none⟩ = some (.int .u8 (y : Int))) (c2 : w.cell? ⟨blk, off + 2, none⟩ = some (.int .u8 (z : Int))) (c3 : w.cell? ⟨blk, off + 3, none⟩ = some (.int .u8 (u : Int))) (kx : x < 256) (ky : y < 256) (kz : z < 256) (ku : u < 256) (h0 : x < 240) :
    Calls Tryd.prog 42 #[.slice (some ⟨blk, off, none⟩) 4 cap] w fun e w' => e = .returned (.int .i64 (-1)) ∧ Below w.heap.size w w' := by
  have l2 : (w.alloc (.cells #[.int .i64 0, .int .i64 0, .int .i64 192, .int .i64 224, .int .i64 240] 73)).cell? ⟨w.heap.size, 2, none⟩ = some (.int .i64 192) := cell_at w _ 2 rfl
  have l3 : (w.alloc (.cells #[.int .i64 0, .int .i64 0, .int .i64 192, .int .i64 224, .int .i64 240] 73)).cell? ⟨w.heap.size, 3, none⟩ = some (.int .i64 224) := cell_at w _ 3 rfl
  have l4 : (w.alloc (.cells #[.int .i64 0, .int .i64 0, .int .i64 192, .int .i64 224, .int .i64 240] 73)).cell? ⟨w.heap.size, 4, none⟩ = some (.int .i64 240) := cell_at w _ 4 rfl
  have dc0 : (w.alloc (.cells #[.int .i64 0, .int .i64 0, .int .i64 192, .int .i64 224, .int .i64 240] 73)).cell? ⟨blk, off, none⟩ = some (.int .u8 (x : Int)) := by rw [cell_old w _ hb]; exact c0
  have dc1 : (w.alloc (.cells #[.int .i64 0, .int .i64 0, .int .i64 192, .int .i64 224, .int .i64 240] 73)).cell? ⟨blk, off + 1, none⟩ = some (.int .u8 (y : Int)) := by rw [cell_old w _ hb]; exact c1
  have dc2 : (w.alloc (.cells #[.int .i64 0, .int .i64 0, .int .i64 192, .int .i64 224, .int .i64 240] 73)).cell? ⟨blk, off + 2, none⟩ = some (.int .u8 (z : Int)) := by rw [cell_old w _ hb]; exact c2
  have dc3 : (w.alloc (.cells #[.int .i64 0, .int .i64 0, .int .i64 192, .int .i64 224, .int .i64 240] 73)).cell? ⟨blk, off + 3, none⟩ = some (.int .u8 (u : Int)) := by rw [cell_old w _ hb]; exact c3
  have HB := Lib.hid ((Below.refl w.heap.size w).alloc (Nat.le_refl _) (.cells #[.int .i64 0, .int .i64 0, .int .i64 192, .int .i64 224, .int .i64 240] 73))
  have hU := kx; clear hU
  have hU := ky; clear hU
  have hU := kz; clear hU
  have hU := ku; clear hU
  have e0 : decide ((x : Int) < 240) = true := decide_eq_true (by omega)
  go_enter Tryd.func42, Tryd.ntmps42
  go_wp2_with fail
  refine wp_loop_rounds 6 ?_
  rw [rounds_succ]
  go_wp2_with fail
  rw [rounds_succ]
  go_wp2_with fail
  rw [rounds_succ]
  go_wp2_with fail
  rw [rounds_succ]
  go_wp2_with fail
  go_ret
  exact ⟨ret_int (by omega), HB.out⟩
set_option maxRecDepth 100000 in
set_option maxHeartbeats 2000000 in
theorem number_4_out1 (blk off cap x y z u : Nat) (w : World) (hb : blk < w.heap.size) (c0 : w.cell? ⟨blk, off, none⟩ = some (.int .u8 (x : Int))) (c1 : w.cell? ⟨blk, off + 1, none⟩ = some (.int .u8 (y : Int))) (c2 : w.cell? ⟨blk, off + 2, none⟩ = some (.int .u8 (z : Int))) (c3 : w.cell? ⟨blk, off + 3, none⟩ = some (.int .u8 (u : Int))) (kx : x < 256) (ky : y < 256) (kz : z < 256) (ku : u < 256) (h0 : 248 ≤ x) :
    Calls Tryd.prog 42 #[.slice (some ⟨blk, off, none⟩) 4 cap] w fun e w' => e = .returned (.int .i64 (-1)) ∧ Below w.heap.size w w' := by
  have l2 : (w.alloc (.cells #[.int .i64 0, .int .i64 0, .int .i64 192, .int .i64 224, .int .i64 240] 73)).cell? ⟨w.heap.size, 2, none⟩ = some (.int .i64 192) := cell_at w _ 2 rfl
  have l3 : (w.alloc (.cells #[.int .i64 0, .int .i64 0, .int .i64 192, .int .i64 224, .int .i64 240] 73)).cell? ⟨w.heap.size, 3, none⟩ = some (.int .i64 224) := cell_at w _ 3 rfl
  have l4 : (w.alloc (.cells #[.int .i64 0, .int .i64 0, .int .i64 192, .int .i64 224, .int .i64 240] 73)).cell? ⟨w.heap.size, 4, none⟩ = some (.int .i64 240) := cell_at w _ 4 rfl
  have dc0 : (w.alloc (.cells #[.int .i64 0, .int .i64 0, .int .i64 192, .int .i64 224, .int .i64 240] 73)).cell? ⟨blk, off, none⟩ = some (.int .u8 (x : Int)) := by rw [cell_old w _ hb]; exact c0
  have dc1 : (w.alloc (.cells #[.int .i64 0, .int .i64 0, .int .i64 192, .int .i64 224, .int .i64 240] 73)).cell? ⟨blk, off + 1, none⟩ = some (.int .u8 (y : Int)) := by rw [cell_old w _ hb]; exact c1
  have dc2 : (w.alloc (.cells #[.int .i64 0, .int .i64 0, .int .i64 192, .int .i64 224, .int .i64 240] 73)).cell? ⟨blk, off + 2, none⟩ = some (.int .u8 (z : Int)) := by rw [cell_old w _ hb]; exact c2
  have dc3 : (w.alloc (.cells #[.int .i64 0, .int .i64 0, .int .i64 192, .int .i64 224, .int .i64 240] 73)).cell? ⟨blk, off + 3, none⟩ = some (.int .u8 (u : Int)) := by rw [cell_old w _ hb]; exact c3
  have HB := Lib.hid ((Below.refl w.heap.size w).alloc (Nat.le_refl _) (.cells #[.int .i64 0, .int .i64 0, .int .i64 192, .int .i64 224, .int .i64 240] 73))
  have hU := kx; clear hU
  have hU := ky; clear hU
  have hU := kz; clear hU
  have hU := ku; clear hU
  have e0 : decide ((x : Int) < 240) = false := decide_eq_false (by omega)
  have e1 : decide ((248 : Int) ≤ (x : Int)) = true := decide_eq_true (by omega)
  go_enter Tryd.func42, Tryd.ntmps42
  go_wp2_with fail
  refine wp_loop_rounds 6 ?_
  rw [rounds_succ]
  go_wp2_with fail
  rw [rounds_succ]
  go_wp2_with fail
  rw [rounds_succ]
  go_wp2_with fail
  rw [rounds_succ]
  go_wp2_with fail
  go_ret
  exact ⟨ret_int (by omega), HB.out⟩
set_option maxRecDepth 100000 in
set_option maxHeartbeats 2000000 in
theorem number_4_b10 (blk off cap x y z u : Nat) (w : World) (hb : blk < w.heap.size) (c0 : w.cell? ⟨blk, off, none⟩ = some (.int .u8 (x : Int))) (c1 : w.cell? ⟨blk, off + 1, none⟩ = some (.int .u8 (y : Int))) (c2 : w.cell? ⟨blk, off + 2, none⟩ = some (.int .u8 (z : Int))) (c3 : w.cell? ⟨blk, off + 3, none⟩ = some (.int .u8 (u : Int))) (kx : x < 256) (ky : y < 256) (kz : z < 256) (ku : u < 256) (h0 : 240 ≤ x) (h1 : x < 248) (h2 : y < 128) :
    Calls Tryd.prog 42 #[.slice (some ⟨blk, off, none⟩) 4 cap] w fun e w' => e = .returned (.int .i64 (-1)) ∧ Below w.heap.size w w' := by
  have l2 : (w.alloc (.cells #[.int .i64 0, .int .i64 0, .int .i64 192, .int .i64 224, .int .i64 240] 73)).cell? ⟨w.heap.size, 2, none⟩ = some (.int .i64 192) := cell_at w _ 2 rfl
  have l3 : (w.alloc (.cells #[.int .i64 0, .int .i64 0, .int .i64 192, .int .i64 224, .int .i64 240] 73)).cell? ⟨w.heap.size, 3, none⟩ = some (.int .i64 224) := cell_at w _ 3 rfl
  have l4 : (w.alloc (.cells #[.int .i64 0, .int .i64 0, .int .i64 192, .int .i64 224, .int .i64 240] 73)).cell? ⟨w.heap.size, 4, none⟩ = some (.int .i64 240) := cell_at w _ 4 rfl
  have dc0 : (w.alloc (.cells #[.int .i64 0, .int .i64 0, .int .i64 192, .int .i64 224, .int .i64 240] 73)).cell? ⟨blk, off, none⟩ = some (.int .u8 (x : Int)) := by rw [cell_old w _ hb]; exact c0
  have dc1 : (w.alloc (.cells #[.int .i64 0, .int .i64 0, .int .i64 192, .int .i64 224, .int .i64 240] 73)).cell? ⟨blk, off + 1, none⟩ = some (.int .u8 (y : Int)) := by rw [cell_old w _ hb]; exact c1
  have dc2 : (w.alloc (.cells #[.int .i64 0, .int .i64 0, .int .i64 192, .int .i64 224, .int .i64 240] 73)).cell? ⟨blk, off + 2, none⟩ = some (.int .u8 (z : Int)) := by rw [cell_old w _ hb]; exact c2
  have dc3 : (w.alloc (.cells #[.int .i64 0, .int .i64 0, .int .i64 192, .int .i64 224, .int .i64 240] 73)).cell? ⟨blk, off + 3, none⟩ = some (.int .u8 (u : Int)) := by rw [cell_old w _ hb]; exact c3
  have HB := Lib.hid ((Below.refl w.heap.size w).alloc (Nat.le_refl _) (.cells #[.int .i64 0, .int .i64 0, .int .i64 192, .int .i64 224, .int .i64 240] 73))
  have hU := kx; clear hU
  have hU := ky; clear hU
  have hU := kz; clear hU
  have hU := ku; clear hU
  have e0 : decide ((x : Int) < 240) = false := decide_eq_false (by omega)
  have e1 : decide ((248 : Int) ≤ (x : Int)) = false := decide_eq_false (by omega)
  have f1 : decide ((y : Int) < 128) = true := decide_eq_true (by omega)
  go_enter Tryd.func42, Tryd.ntmps42
  go_wp2_with fail
  refine wp_loop_rounds 6 ?_
  rw [rounds_succ]
  go_wp2_with fail
  rw [rounds_succ]
  go_wp2_with fail
  rw [rounds_succ]
  go_wp2_with fail
  refine wp_loop_rounds 6 ?_
  rw [rounds_succ]
  go_wp2_with fail
  go_ret
  exact ⟨ret_int (by omega), HB.out⟩
set_option maxRecDepth 100000 in
set_option maxHeartbeats 2000000 in
theorem number_4_b11 (blk off cap x y z u : Nat) (w : World) (hb : blk < w.heap.size) (c0 : w.cell? ⟨blk, off, none⟩ = some (.int .u8 (x : Int))) (c1 : w.cell? ⟨blk, off + 1, none⟩ = some (.int .u8 (y : Int))) (c2 : w.cell? ⟨blk, off + 2, none⟩ = some (.int .u8 (z : Int))) (c3 : w.cell? ⟨blk, off + 3, none⟩ = some (.int .u8 (u : Int))) (kx : x < 256) (ky : y < 256) (kz : z < 256) (ku : u < 256) (h0 : 240 ≤ x) (h1 : x < 248) (h2 : 192 ≤ y) :
    Calls Tryd.prog 42 #[.slice (some ⟨blk, off, none⟩) 4 cap] w fun e w' => e = .returned (.int .i64 (-1)) ∧ Below w.heap.size w w' := by
  have l2 : (w.alloc (.cells #[.int .i64 0, .int .i64 0, .int .i64 192, .int .i64 224, .int .i64 240] 73)).cell? ⟨w.heap.size, 2, none⟩ = some (.int .i64 192) := cell_at w _ 2 rfl
  have l3 : (w.alloc (.cells #[.int .i64 0, .int .i64 0, .int .i64 192, .int .i64 224, .int .i64 240] 73)).cell? ⟨w.heap.size, 3, none⟩ = some (.int .i64 224) := cell_at w _ 3 rfl
  have l4 : (w.alloc (.cells #[.int .i64 0, .int .i64 0, .int .i64 192, .int .i64 224, .int .i64 240] 73)).cell? ⟨w.heap.size, 4, none⟩ = some (.int .i64 240) := cell_at w _ 4 rfl
  have dc0 : (w.alloc (.cells #[.int .i64 0, .int .i64 0, .int .i64 192, .int .i64 224, .int .i64 240] 73)).cell? ⟨blk, off, none⟩ = some (.int .u8 (x : Int)) := by rw [cell_old w _ hb]; exact c0
  have dc1 : (w.alloc (.cells #[.int .i64 0, .int .i64 0, .int .i64 192, .int .i64 224, .int .i64 240] 73)).cell? ⟨blk, off + 1, none⟩ = some (.int .u8 (y : Int)) := by rw [cell_old w _ hb]; exact c1
  have dc2 : (w.alloc (.cells #[.int .i64 0, .int .i64 0, .int .i64 192, .int .i64 224, .int .i64 240] 73)).cell? ⟨blk, off + 2, none⟩ = some (.int .u8 (z : Int)) := by rw [cell_old w _ hb]; exact c2
  have dc3 : (w.alloc (.cells #[.int .i64 0, .int .i64 0, .int .i64 192, .int .i64 224, .int .i64 240] 73)).cell? ⟨blk, off + 3, none⟩ = some (.int .u8 (u : Int)) := by rw [cell_old w _ hb]; exact c3
  have HB := Lib.hid ((Below.refl w.heap.size w).alloc (Nat.le_refl _) (.cells #[.int .i64 0, .int .i64 0, .int .i64 192, .int .i64 224, .int .i64 240] 73))
  have hU := kx; clear hU
  have hU := ky; clear hU
  have hU := kz; clear hU
  have hU := ku; clear hU
  have e0 : decide ((x : Int) < 240) = false := decide_eq_false (by omega)
  have e1 : decide ((248 : Int) ≤ (x : Int)) = false := decide_eq_false (by omega)
  have f1 : decide ((y : Int) < 128) = false := decide_eq_false (by omega)
  have g1 : decide ((192 : Int) ≤ (y : Int)) = true := decide_eq_true (by omega)
  go_enter Tryd.func42, Tryd.ntmps42
  go_wp2_with fail
  refine wp_loop_rounds 6 ?_
  rw [rounds_succ]
  go_wp2_with fail
  rw [rounds_succ]
  go_wp2_with fail
  rw [rounds_succ]
  go_wp2_with fail
  refine wp_loop_rounds 6 ?_
  rw [rounds_succ]
  go_wp2_with fail
  go_ret
  exact ⟨ret_int (by omega), HB.out⟩
set_option maxRecDepth 100000 in
set_option maxHeartbeats 2000000 in
theorem number_4_b20 (blk off cap x y z u : Nat) (w : World) (hb : blk < w.heap.size) (c0 : w.cell? ⟨blk, off, none⟩ = some (.int .u8 (x : Int))) (c1 : w.cell? ⟨blk, off + 1, none⟩ = some (.int .u8 (y : Int))) (c2 : w.cell? ⟨blk, off + 2, none⟩ = some (.int .u8 (z : Int))) (c3 : w.cell? ⟨blk, off + 3, none⟩ = some (.int .u8 (u : Int))) (kx : x < 256) (ky : y < 256) (kz : z < 256) (ku : u < 256) (h0 : 240 ≤ x) (h1 : x < 248) (h2 : 128 ≤ y) (h3 : y < 192) (h4 : z < 128) :
    Calls Tryd.prog 42 #[.slice (some ⟨blk, off, none⟩) 4 cap] w fun e w' => e = .returned (.int .i64 (-1)) ∧ Below w.heap.size w w' := by
  have l2 : (w.alloc (.cells #[.int .i64 0, .int .i64 0, .int .i64 192, .int .i64 224, .int .i64 240] 73)).cell? ⟨w.heap.size, 2, none⟩ = some (.int .i64 192) := cell_at w _ 2 rfl
  have l3 : (w.alloc (.cells #[.int .i64 0, .int .i64 0, .int .i64 192, .int .i64 224, .int .i64 240] 73)).cell? ⟨w.heap.size, 3, none⟩ = some (.int .i64 224) := cell_at w _ 3 rfl
  have l4 : (w.alloc (.cells #[.int .i64 0, .int .i64 0, .int .i64 192, .int .i64 224, .int .i64 240] 73)).cell? ⟨w.heap.size, 4, none⟩ = some (.int .i64 240) := cell_at w _ 4 rfl
  have dc0 : (w.alloc (.cells #[.int .i64 0, .int .i64 0, .int .i64 192, .int .i64 224, .int .i64 240] 73)).cell? ⟨blk, off, none⟩ = some (.int .u8 (x : Int)) := by rw [cell_old w _ hb]; exact c0
  have dc1 : (w.alloc (.cells #[.int .i64 0, .int .i64 0, .int .i64 192, .int .i64 224, .int .i64 240] 73)).cell? ⟨blk, off + 1, none⟩ = some (.int .u8 (y : Int)) := by rw [cell_old w _ hb]; exact c1
  have dc2 : (w.alloc (.cells #[.int .i64 0, .int .i64 0, .int .i64 192, .int .i64 224, .int .i64 240] 73)).cell? ⟨blk, off + 2, none⟩ = some (.int .u8 (z : Int)) := by rw [cell_old w _ hb]; exact c2
  have dc3 : (w.alloc (.cells #[.int .i64 0, .int .i64 0, .int .i64 192, .int .i64 224, .int .i64 240] 73)).cell? ⟨blk, off + 3, none⟩ = some (.int .u8 (u : Int)) := by rw [cell_old w _ hb]; exact c3
  have HB := Lib.hid ((Below.refl w.heap.size w).alloc (Nat.le_refl _) (.cells #[.int .i64 0, .int .i64 0, .int .i64 192, .int .i64 224, .int .i64 240] 73))
  have hU := kx; clear hU
  have hU := ky; clear hU
  have hU := kz; clear hU
  have hU := ku; clear hU
  have e0 : decide ((x : Int) < 240) = false := decide_eq_false (by omega)
  have e1 : decide ((248 : Int) ≤ (x : Int)) = false := decide_eq_false (by omega)
  have f1 : decide ((y : Int) < 128) = false := decide_eq_false (by omega)
  have g1 : decide ((192 : Int) ≤ (y : Int)) = false := decide_eq_false (by omega)
  have f2 : decide ((z : Int) < 128) = true := decide_eq_true (by omega)
  go_enter Tryd.func42, Tryd.ntmps42
  go_wp2_with fail
  refine wp_loop_rounds 6 ?_
  rw [rounds_succ]
  go_wp2_with fail
  rw [rounds_succ]
  go_wp2_with fail
  rw [rounds_succ]
  go_wp2_with fail
  refine wp_loop_rounds 6 ?_
  rw [rounds_succ]
  go_wp2_with fail
  rw [rounds_succ]
  go_wp2_with fail
  go_ret
  exact ⟨ret_int (by omega), HB.out⟩
set_option maxRecDepth 100000 in
set_option maxHeartbeats 2000000 in
theorem number_4_b21 (blk off cap x y z u : Nat) (w : World) (hb : blk < w.heap.size) (c0 : w.cell? ⟨blk, off, none⟩ = some (.int .u8 (x : Int))) (c1 : w.cell? ⟨blk, off + 1, none⟩ = some (.int .u8 (y : Int))) (c2 : w.cell? ⟨blk, off + 2, none⟩ = some (.int .u8 (z : Int))) (c3 : w.cell? ⟨blk, off + 3, none⟩ = some (.int .u8 (u : Int))) (kx : x < 256) (ky : y < 256) (kz : z < 256) (ku : u < 256) (h0 : 240 ≤ x) (h1 : x < 248) (h2 : 128 ≤ y) (h3 : y < 192) (h4 : 192 ≤ z) :
    Calls Tryd.prog 42 #[.slice (some ⟨blk, off, none⟩) 4 cap] w fun e w' => e = .returned (.int .i64 (-1)) ∧ Below w.heap.size w w' := by
  have l2 : (w.alloc (.cells #[.int .i64 0, .int .i64 0, .int .i64 192, .int .i64 224, .int .i64 240] 73)).cell? ⟨w.heap.size, 2, none⟩ = some (.int .i64 192) := cell_at w _ 2 rfl
  have l3 : (w.alloc (.cells #[.int .i64 0, .int .i64 0, .int .i64 192, .int .i64 224, .int .i64 240] 73)).cell? ⟨w.heap.size, 3, none⟩ = some (.int .i64 224) := cell_at w _ 3 rfl
  have l4 : (w.alloc (.cells #[.int .i64 0, .int .i64 0, .int .i64 192, .int .i64 224, .int .i64 240] 73)).cell? ⟨w.heap.size, 4, none⟩ = some (.int .i64 240) := cell_at w _ 4 rfl
  have dc0 : (w.alloc (.cells #[.int .i64 0, .int .i64 0, .int .i64 192, .int .i64 224, .int .i64 240] 73)).cell? ⟨blk, off, none⟩ = some (.int .u8 (x : Int)) := by rw [cell_old w _ hb]; exact c0
  have dc1 : (w.alloc (.cells #[.int .i64 0, .int .i64 0, .int .i64 192, .int .i64 224, .int .i64 240] 73)).cell? ⟨blk, off + 1, none⟩ = some (.int .u8 (y : Int)) := by rw [cell_old w _ hb]; exact c1
  have dc2 : (w.alloc (.cells #[.int .i64 0, .int .i64 0, .int .i64 192, .int .i64 224, .int .i64 240] 73)).cell? ⟨blk, off + 2, none⟩ = some (.int .u8 (z : Int)) := by rw [cell_old w _ hb]; exact c2
  have dc3 : (w.alloc (.cells #[.int .i64 0, .int .i64 0, .int .i64 192, .int .i64 224, .int .i64 240] 73)).cell? ⟨blk, off + 3, none⟩ = some (.int .u8 (u : Int)) := by rw [cell_old w _ hb]; exact c3
  have HB := Lib.hid ((Below.refl w.heap.size w).alloc (Nat.le_refl _) (.cells #[.int .i64 0, .int .i64 0, .int .i64 192, .int .i64 224, .int .i64 240] 73))
  have hU := kx; clear hU
  have hU := ky; clear hU
  have hU := kz; clear hU
  have hU := ku; clear hU
  have e0 : decide ((x : Int) < 240) = false := decide_eq_false (by omega)
  have e1 : decide ((248 : Int) ≤ (x : Int)) = false := decide_eq_false (by omega)
  have f1 : decide ((y : Int) < 128) = false := decide_eq_false (by omega)
  have g1 : decide ((192 : Int) ≤ (y : Int)) = false := decide_eq_false (by omega)
  have f2 : decide ((z : Int) < 128) = false := decide_eq_false (by omega)
  have g2 : decide ((192 : Int) ≤ (z : Int)) = true := decide_eq_true (by omega)
  go_enter Tryd.func42, Tryd.ntmps42
  go_wp2_with fail
  refine wp_loop_rounds 6 ?_
  rw [rounds_succ]
  go_wp2_with fail
  rw [rounds_succ]
  go_wp2_with fail
  rw [rounds_succ]
  go_wp2_with fail
  refine wp_loop_rounds 6 ?_
  rw [rounds_succ]
  go_wp2_with fail
  rw [rounds_succ]
  go_wp2_with fail
  go_ret
  exact ⟨ret_int (by omega), HB.out⟩
set_option maxRecDepth 100000 in
set_option maxHeartbeats 2000000 in
theorem number_4_b30 (blk off cap x y z u : Nat) (w : World) (hb : blk < w.heap.size) (c0 : w.cell? ⟨blk, off, none⟩ = some (.int .u8 (x : Int))) (c1 : w.cell? ⟨blk, off + 1, none⟩ = some (.int .u8 (y : Int))) (c2 : w.cell? ⟨blk, off + 2, none⟩ = some (.int .u8 (z : Int))) (c3 : w.cell? ⟨blk, off + 3, none⟩ = some (.int .u8 (u : Int))) (kx : x < 256) (ky : y < 256) (kz : z < 256) (ku : u < 256) (h0 : 240 ≤ x) (h1 : x < 248) (h2 : 128 ≤ y) (h3 : y < 192) (h4 : 128 ≤ z) (h5 : z < 192) (h6 : u < 128) :
    Calls Tryd.prog 42 #[.slice (some ⟨blk, off, none⟩) 4 cap] w fun e w' => e = .returned (.int .i64 (-1)) ∧ Below w.heap.size w w' := by
  have l2 : (w.alloc (.cells #[.int .i64 0, .int .i64 0, .int .i64 192, .int .i64 224, .int .i64 240] 73)).cell? ⟨w.heap.size, 2, none⟩ = some (.int .i64 192) := cell_at w _ 2 rfl
  have l3 : (w.alloc (.cells #[.int .i64 0, .int .i64 0, .int .i64 192, .int .i64 224, .int .i64 240] 73)).cell? ⟨w.heap.size, 3, none⟩ = some (.int .i64 224) := cell_at w _ 3 rfl
  have l4 : (w.alloc (.cells #[.int .i64 0, .int .i64 0, .int .i64 192, .int .i64 224, .int .i64 240] 73)).cell? ⟨w.heap.size, 4, none⟩ = some (.int .i64 240) := cell_at w _ 4 rfl
  have dc0 : (w.alloc (.cells #[.int .i64 0, .int .i64 0, .int .i64 192, .int .i64 224, .int .i64 240] 73)).cell? ⟨blk, off, none⟩ = some (.int .u8 (x : Int)) := by rw [cell_old w _ hb]; exact c0
  have dc1 : (w.alloc (.cells #[.int .i64 0, .int .i64 0, .int .i64 192, .int .i64 224, .int .i64 240] 73)).cell? ⟨blk, off + 1, none⟩ = some (.int .u8 (y : Int)) := by rw [cell_old w _ hb]; exact c1
  have dc2 : (w.alloc (.cells #[.int .i64 0, .int .i64 0, .int .i64 192, .int .i64 224, .int .i64 240] 73)).cell? ⟨blk, off + 2, none⟩ = some (.int .u8 (z : Int)) := by rw [cell_old w _ hb]; exact c2
  have dc3 : (w.alloc (.cells #[.int .i64 0, .int .i64 0, .int .i64 192, .int .i64 224, .int .i64 240] 73)).cell? ⟨blk, off + 3, none⟩ = some (.int .u8 (u : Int)) := by rw [cell_old w _ hb]; exact c3
  have HB := Lib.hid ((Below.refl w.heap.size w).alloc (Nat.le_refl _) (.cells #[.int .i64 0, .int .i64 0, .int .i64 192, .int .i64 224, .int .i64 240] 73))
  have hU := kx; clear hU
  have hU := ky; clear hU
  have hU := kz; clear hU
  have hU := ku; clear hU
  have e0 : decide ((x : Int) < 240) = false := decide_eq_false (by omega)
  have e1 : decide ((248 : Int) ≤ (x : Int)) = false := decide_eq_false (by omega)
  have f1 : decide ((y : Int) < 128) = false := decide_eq_false (by omega)
  have g1 : decide ((192 : Int) ≤ (y : Int)) = false := decide_eq_false (by omega)
  have f2 : decide ((z : Int) < 128) = false := decide_eq_false (by omega)
  have g2 : decide ((192 : Int) ≤ (z : Int)) = false := decide_eq_false (by omega)
  have f3 : decide ((u : Int) < 128) = true := decide_eq_true (by omega)
  go_enter Tryd.func42, Tryd.ntmps42
  go_wp2_with fail
  refine wp_loop_rounds 6 ?_
  rw [rounds_succ]
  go_wp2_with fail
  rw [rounds_succ]
  go_wp2_with fail
  rw [rounds_succ]
  go_wp2_with fail
  refine wp_loop_rounds 6 ?_
  rw [rounds_succ]
  go_wp2_with fail
  rw [rounds_succ]
  go_wp2_with fail
  rw [rounds_succ]
  go_wp2_with fail
  go_ret
  exact ⟨ret_int (by omega), HB.out⟩
set_option maxRecDepth 100000 in
set_option maxHeartbeats 2000000 in
theorem number_4_b31 (blk off cap x y z u : Nat) (w : World) (hb : blk < w.heap.size) (c0 : w.cell? ⟨blk, off, none⟩ = some (.int .u8 (x : Int))) (c1 : w.cell? ⟨blk, off + 1, none⟩ = some (.int .u8 (y : Int))) (c2 : w.cell? ⟨blk, off + 2, none⟩ = some (.int .u8 (z : Int))) (c3 : w.cell? ⟨blk, off + 3, none⟩ = some (.int .u8 (u : Int))) (kx : x < 256) (ky : y < 256) (kz : z < 256) (ku : u < 256) (h0 : 240 ≤ x) (h1 : x < 248) (h2 : 128 ≤ y) (h3 : y < 192) (h4 : 128 ≤ z) (h5 : z < 192) (h6 : 192 ≤ u) :
    Calls Tryd.prog 42 #[.slice (some ⟨blk, off, none⟩) 4 cap] w fun e w' => e = .returned (.int .i64 (-1)) ∧ Below w.heap.size w w' := by
  have l2 : (w.alloc (.cells #[.int .i64 0, .int .i64 0, .int .i64 192, .int .i64 224, .int .i64 240] 73)).cell? ⟨w.heap.size, 2, none⟩ = some (.int .i64 192) := cell_at w _ 2 rfl
  have l3 : (w.alloc (.cells #[.int .i64 0, .int .i64 0, .int .i64 192, .int .i64 224, .int .i64 240] 73)).cell? ⟨w.heap.size, 3, none⟩ = some (.int .i64 224) := cell_at w _ 3 rfl
  have l4 : (w.alloc (.cells #[.int .i64 0, .int .i64 0, .int .i64 192, .int .i64 224, .int .i64 240] 73)).cell? ⟨w.heap.size, 4, none⟩ = some (.int .i64 240) := cell_at w _ 4 rfl
  have dc0 : (w.alloc (.cells #[.int .i64 0, .int .i64 0, .int .i64 192, .int .i64 224, .int .i64 240] 73)).cell? ⟨blk, off, none⟩ = some (.int .u8 (x : Int)) := by rw [cell_old w _ hb]; exact c0
  have dc1 : (w.alloc (.cells #[.int .i64 0, .int .i64 0, .int .i64 192, .int .i64 224, .int .i64 240] 73)).cell? ⟨blk, off + 1, none⟩ = some (.int .u8 (y : Int)) := by rw [cell_old w _ hb]; exact c1
  have dc2 : (w.alloc (.cells #[.int .i64 0, .int .i64 0, .int .i64 192, .int .i64 224, .int .i64 240] 73)).cell? ⟨blk, off + 2, none⟩ = some (.int .u8 (z : Int)) := by rw [cell_old w _ hb]; exact c2
  have dc3 : (w.alloc (.cells #[.int .i64 0, .int .i64 0, .int .i64 192, .int .i64 224, .int .i64 240] 73)).cell? ⟨blk, off + 3, none⟩ = some (.int .u8 (u : Int)) := by rw [cell_old w _ hb]; exact c3
  have HB := Lib.hid ((Below.refl w.heap.size w).alloc (Nat.le_refl _) (.cells #[.int .i64 0, .int .i64 0, .int .i64 192, .int .i64 224, .int .i64 240] 73))
  have hU := kx; clear hU
  have hU := ky; clear hU
  have hU := kz; clear hU
  have hU := ku; clear hU
  have e0 : decide ((x : Int) < 240) = false := decide_eq_false (by omega)
  have e1 : decide ((248 : Int) ≤ (x : Int)) = false := decide_eq_false (by omega)
  have f1 : decide ((y : Int) < 128) = false := decide_eq_false (by omega)
  have g1 : decide ((192 : Int) ≤ (y : Int)) = false := decide_eq_false (by omega)
  have f2 : decide ((z : Int) < 128) = false := decide_eq_false (by omega)
  have g2 : decide ((192 : Int) ≤ (z : Int)) = false := decide_eq_false (by omega)
  have f3 : decide ((u : Int) < 128) = false := decide_eq_false (by omega)
  have g3 : decide ((192 : Int) ≤ (u : Int)) = true := decide_eq_true (by omega)
  go_enter Tryd.func42, Tryd.ntmps42
  go_wp2_with fail
  refine wp_loop_rounds 6 ?_
  rw [rounds_succ]
  go_wp2_with fail
  rw [rounds_succ]
  go_wp2_with fail
  rw [rounds_succ]
  go_wp2_with fail
  refine wp_loop_rounds 6 ?_
  rw [rounds_succ]
  go_wp2_with fail
  rw [rounds_succ]
  go_wp2_with fail
  rw [rounds_succ]
  go_wp2_with fail
  go_ret
  exact ⟨ret_int (by omega), HB.out⟩
theorem number_any (v : Value) (l : List UInt8) (w : World) (hv : RdB w.heap.size w v l) (h1 : l ≠ []) (h4 : l.length ≤ 4) :
    Calls Tryd.prog 42 #[v] w fun e w' => e = .returned (.int .i64 (numV l)) ∧ Below w.heap.size w w' := by
  obtain ⟨a, cap, rfl, hcap, hc2, hx⟩ := hv
  obtain ⟨blk, off, rfl, hb, hc⟩ := hx h1
  match l, h1, h4, hcap, hc with
  | [p], _, _, hcap, hc =>
    have c0 : w.cell? ⟨blk, off, none⟩ = some (.int .u8 (p.toNat : Int)) := hc 0 (by simp)
    have k0 := UInt8.toNat_lt p
    change Calls _ _ _ _ fun e w' => e = .returned (.int .i64 (numN [p.toNat])) ∧ _
    generalize p.toNat = x at c0 k0 ⊢
    simp only [numN]
    by_cases q : x < 128
    · rw [if_pos q]; exact number_1_in blk off cap x w hb c0 k0 (by omega)
    · rw [if_neg q]; exact number_1_out blk off cap x w hb c0 k0 (by omega)
  | [p, q], _, _, hcap, hc =>
    have c0 : w.cell? ⟨blk, off, none⟩ = some (.int .u8 (p.toNat : Int)) := hc 0 (by simp)
    have k0 := UInt8.toNat_lt p
    have c1 : w.cell? ⟨blk, off + 1, none⟩ = some (.int .u8 (q.toNat : Int)) := hc 1 (by simp)
    have k1 := UInt8.toNat_lt q
    change Calls _ _ _ _ fun e w' => e = .returned (.int .i64 (numN [p.toNat, q.toNat])) ∧ _
    generalize p.toNat = x at c0 k0 ⊢
    generalize q.toNat = y at c1 k1 ⊢
    simp only [numN]
    by_cases q4 : x < 192
    · rw [if_neg (by omega)]; exact number_2_out0 blk off cap x y w hb c0 c1 k0 k1 (by omega)
    · skip
      by_cases q6 : 224 ≤ x
      · rw [if_neg (by omega)]; exact number_2_out1 blk off cap x y w hb c0 c1 k0 k1 (by omega)
      · skip
        by_cases q8 : y < 128
        · rw [if_neg (by omega)]; exact number_2_b10 blk off cap x y w hb c0 c1 k0 k1 (by omega) (by omega) (by omega)
        · skip
          by_cases q10 : 192 ≤ y
          · rw [if_neg (by omega)]; exact number_2_b11 blk off cap x y w hb c0 c1 k0 k1 (by omega) (by omega) (by omega)
          · skip
            rw [if_pos (by omega)]; exact number_2_in blk off cap x y w hb c0 c1 k0 k1 (by omega) (by omega) (by omega) (by omega)
  | [p, q, r], _, _, hcap, hc =>
    have c0 : w.cell? ⟨blk, off, none⟩ = some (.int .u8 (p.toNat : Int)) := hc 0 (by simp)
    have k0 := UInt8.toNat_lt p
    have c1 : w.cell? ⟨blk, off + 1, none⟩ = some (.int .u8 (q.toNat : Int)) := hc 1 (by simp)
    have k1 := UInt8.toNat_lt q
    have c2 : w.cell? ⟨blk, off + 2, none⟩ = some (.int .u8 (r.toNat : Int)) := hc 2 (by simp)
    have k2 := UInt8.toNat_lt r
    change Calls _ _ _ _ fun e w' => e = .returned (.int .i64 (numN [p.toNat, q.toNat, r.toNat])) ∧ _
    generalize p.toNat = x at c0 k0 ⊢
    generalize q.toNat = y at c1 k1 ⊢
    generalize r.toNat = z at c2 k2 ⊢
    simp only [numN]
    by_cases q4 : x < 224
    · rw [if_neg (by omega)]; exact number_3_out0 blk off cap x y z w hb c0 c1 c2 k0 k1 k2 (by omega)
    · skip
      by_cases q6 : 240 ≤ x
      · rw [if_neg (by omega)]; exact number_3_out1 blk off cap x y z w hb c0 c1 c2 k0 k1 k2 (by omega)
      · skip
        by_cases q8 : y < 128
        · rw [if_neg (by omega)]; exact number_3_b10 blk off cap x y z w hb c0 c1 c2 k0 k1 k2 (by omega) (by omega) (by omega)
        · skip
          by_cases q10 : 192 ≤ y
          · rw [if_neg (by omega)]; exact number_3_b11 blk off cap x y z w hb c0 c1 c2 k0 k1 k2 (by omega) (by omega) (by omega)
          · skip
            by_cases q12 : z < 128
            · rw [if_neg (by omega)]; exact number_3_b20 blk off cap x y z w hb c0 c1 c2 k0 k1 k2 (by omega) (by omega) (by omega) (by omega) (by omega)
            · skip
              by_cases q14 : 192 ≤ z
              · rw [if_neg (by omega)]; exact number_3_b21 blk off cap x y z w hb c0 c1 c2 k0 k1 k2 (by omega) (by omega) (by omega) (by omega) (by omega)
              · skip
                rw [if_pos (by omega)]; exact number_3_in blk off cap x y z w hb c0 c1 c2 k0 k1 k2 (by omega) (by omega) (by omega) (by omega) (by omega) (by omega)
  | [p, q, r, s], _, _, hcap, hc =>
    have c0 : w.cell? ⟨blk, off, none⟩ = some (.int .u8 (p.toNat : Int)) := hc 0 (by simp)
    have k0 := UInt8.toNat_lt p
    have c1 : w.cell? ⟨blk, off + 1, none⟩ = some (.int .u8 (q.toNat : Int)) := hc 1 (by simp)
    have k1 := UInt8.toNat_lt q
    have c2 : w.cell? ⟨blk, off + 2, none⟩ = some (.int .u8 (r.toNat : Int)) := hc 2 (by simp)
    have k2 := UInt8.toNat_lt r
    have c3 : w.cell? ⟨blk, off + 3, none⟩ = some (.int .u8 (s.toNat : Int)) := hc 3 (by simp)
    have k3 := UInt8.toNat_lt s
    change Calls _ _ _ _ fun e w' => e = .returned (.int .i64 (numN [p.toNat, q.toNat, r.toNat, s.toNat])) ∧ _
    generalize p.toNat = x at c0 k0 ⊢
    generalize q.toNat = y at c1 k1 ⊢
    generalize r.toNat = z at c2 k2 ⊢
    generalize s.toNat = u at c3 k3 ⊢
    simp only [numN]
    by_cases q4 : x < 240
    · rw [if_neg (by omega)]; exact number_4_out0 blk off cap x y z u w hb c0 c1 c2 c3 k0 k1 k2 k3 (by omega)
    · skip
      by_cases q6 : 248 ≤ x
      · rw [if_neg (by omega)]; exact number_4_out1 blk off cap x y z u w hb c0 c1 c2 c3 k0 k1 k2 k3 (by omega)
      · skip
        by_cases q8 : y < 128
        · rw [if_neg (by omega)]; exact number_4_b10 blk off cap x y z u w hb c0 c1 c2 c3 k0 k1 k2 k3 (by omega) (by omega) (by omega)
        · skip
          by_cases q10 : 192 ≤ y
          · rw [if_neg (by omega)]; exact number_4_b11 blk off cap x y z u w hb c0 c1 c2 c3 k0 k1 k2 k3 (by omega) (by omega) (by omega)
          · skip
            by_cases q12 : z < 128
            · rw [if_neg (by omega)]; exact number_4_b20 blk off cap x y z u w hb c0 c1 c2 c3 k0 k1 k2 k3 (by omega) (by omega) (by omega) (by omega) (by omega)
            · skip
              by_cases q14 : 192 ≤ z
              · rw [if_neg (by omega)]; exact number_4_b21 blk off cap x y z u w hb c0 c1 c2 c3 k0 k1 k2 k3 (by omega) (by omega) (by omega) (by omega) (by omega)
              · skip
                by_cases q16 : u < 128
                · rw [if_neg (by omega)]; exact number_4_b30 blk off cap x y z u w hb c0 c1 c2 c3 k0 k1 k2 k3 (by omega) (by omega) (by omega) (by omega) (by omega) (by omega) (by omega)
                · skip
                  by_cases q18 : 192 ≤ u
                  · rw [if_neg (by omega)]; exact number_4_b31 blk off cap x y z u w hb c0 c1 c2 c3 k0 k1 k2 k3 (by omega) (by omega) (by omega) (by omega) (by omega) (by omega) (by omega)
                  · skip
                    rw [if_pos (by omega)]; exact number_4_in blk off cap x y z u w hb c0 c1 c2 c3 k0 k1 k2 k3 (by omega) (by omega) (by omega) (by omega) (by omega) (by omega) (by omega) (by omega)
end Go.Proofs.YtomffjaeafcpdaaDoor
