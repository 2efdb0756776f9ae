/- Find, of both; pairs; Covers and Dual of the reference. -/
import Derived.Test.YtdkljpoecdinjaaGreatLtV
import Derived.ChangeKeysEq
namespace Go.Proofs.YtdkljpoecdinjaaGreat
open Go.RowKit

def fdV (ns : List ByteArray) (s : ByteArray) : Int := match ixF ns s with | some k => k | none => 0
def fdE (ns : List ByteArray) (s : ByteArray) : Int := match ixF ns s with | some _ => 0 | none => 4
theorem fd_some {ns : List ByteArray} {s : ByteArray} {k : Nat} (h : ixF ns s = some k) : fdV ns s = k ∧ fdE ns s = 0 ∧ ixV ns s = k := by unfold fdV fdE ixV; rw [h]; exact ⟨rfl, rfl, rfl⟩
theorem fd_none {ns : List ByteArray} {s : ByteArray} (h : ixF ns s = none) : fdV ns s = 0 ∧ fdE ns s = 4 ∧ ixV ns s = -1 := by unfold fdV fdE ixV; rw [h]; exact ⟨rfl, rfl, rfl⟩

theorem cells3 : Tryz.prog.cellsOf 3 = 1 := by kernel_rfl
set_option maxRecDepth 100000 in
set_option maxHeartbeats 2000000 in
theorem dual_bad (v : Value) (ns : List ByteArray) (up : List UInt8) (w : World) (hv : RdL w.heap.size w v ns up) (hck : ((ck ns up).2 != 0) = true) :
    Calls Tryz.prog 57 #[v] w fun e w' => e = .returned (.tuple #[.agg #[.slice none 0 0, .slice none 0 0], .int .i64 (ck ns up).2]) ∧ Below w.heap.size w w' := by
  have HL := Lib.hid hv
  obtain ⟨⟨vn, vu, rfl, hS, hB⟩, hsz⟩ := hv
  obtain ⟨p, cap, rfl, hc, hc2, h⟩ := hS
  obtain ⟨q, cap', rfl, hc', hc2', h'⟩ := hB
  clear h h' hsz
  have HI := Lib.hid (Bx.new HL.out)
  have HI2 := Lib.hid (HI.out.next (bel1 _ (.cells #[Value.slice none 0 0, Value.slice none 0 0] 25)))
  clear HI
  have HI := HI2
  clear HI2
  have e1 : (w.alloc (.cells #[.slice p ns.length cap, .slice q up.length cap'] 25)).heap.size = w.heap.size + 1 := by simp
  have HC0 : Hid (((w.alloc (.cells #[.slice p ns.length cap, .slice q up.length cap'] 25)).alloc (.cells #[Value.slice none 0 0, Value.slice none 0 0] 25)).heap[w.heap.size + 1]? = some (.cells #[Value.slice none 0 0, Value.slice none 0 0] 25 (0, 0))) := by
    unfold Hid; rw [← e1]; exact heap_new _ _
  have HS0 : Hid (((w.alloc (.cells #[.slice p ns.length cap, .slice q up.length cap'] 25)).alloc (.cells #[Value.slice none 0 0, Value.slice none 0 0] 25)).heap.size = w.heap.size + 2) := by unfold Hid; simp
  clear e1
  go_enter Tryz.func57, Tryz.ntmps57
  go_wp2_with fail
  refine (check_any _ ns up _ HI.out.rd).mono ?_
  rintro e w1 ⟨rfl, hb1⟩
  have hblk : w1.heap[w.heap.size + 1]? = some (.cells #[Value.slice none 0 0, Value.slice none 0 0] 25 (0, 0)) := (hb1.block _ (by rw [HS0.out]; omega)).trans HC0.out
  have z0 : w1.cell? ⟨w.heap.size + 1, 0, none⟩ = some (.slice none 0 0) := (cell_of_block hblk 0).trans rfl
  have z1 : w1.cell? ⟨w.heap.size + 1, 1, none⟩ = some (.slice none 0 0) := (cell_of_block hblk 1).trans rfl
  have k0 : w1.frozen? ⟨w.heap.size + 1, 0, none⟩ = false := Lib.frozen_of_heap hblk 0
  have k1 : w1.frozen? ⟨w.heap.size + 1, 1, none⟩ = false := Lib.frozen_of_heap hblk 1
  have HI1 := Lib.hid (HI.out.next hb1)
  clear hblk hb1
  go_wp2_with fail
  exact bodyPost_ret (v := .tuple #[.agg #[.slice none 0 0, .slice none 0 0], .int .i64 _]) (by simp [results, Tryz.results57, go_sem, z0, z1]) rfl ⟨rfl, (HI1.out.bel.setCell (p := ⟨w.heap.size + 1, 0, none⟩) (Nat.le_succ _) _).setCell (p := ⟨w.heap.size + 1, 1, none⟩) (Nat.le_succ _) _⟩
end Go.Proofs.YtdkljpoecdinjaaGreat
