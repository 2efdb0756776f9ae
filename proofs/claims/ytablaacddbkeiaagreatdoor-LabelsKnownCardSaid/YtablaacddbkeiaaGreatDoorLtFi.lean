/- Find, of both; pairs; Covers and Dual of the reference. -/
import Derived.Test.YtablaacddbkeiaaGreatDoorLtV
import Derived.ChangeKeysEq
namespace Go.Proofs.YtablaacddbkeiaaGreatDoor
open Go.RowKit

def fdV (ns : List ByteArray) (s : ByteArray) : Int := match ixF ns s with | some k => k | none => 0
def fdE (ns : List ByteArray) (s : ByteArray) : Int := match ixF ns s with | some _ => 0 | none => 4
theorem fd_some {ns : List ByteArray} {s : ByteArray} {k : Nat} (h : ixF ns s = some k) : fdV ns s = k ∧ fdE ns s = 0 ∧ ixV ns s = k := by unfold fdV fdE ixV; rw [h]; exact ⟨rfl, rfl, rfl⟩
theorem fd_none {ns : List ByteArray} {s : ByteArray} (h : ixF ns s = none) : fdV ns s = 0 ∧ fdE ns s = 4 ∧ ixV ns s = -1 := by unfold fdV fdE ixV; rw [h]; exact ⟨rfl, rfl, rfl⟩

set_option maxRecDepth 100000 in
set_option maxHeartbeats 2000000 in
theorem find_ok (v : Value) (ns : List ByteArray) (up : List UInt8) (s : ByteArray) (w : World) (hv : RdL w.heap.size w v ns up) (hg : Good ns up) :
    Calls Tryz.prog 30 #[v, .string s] w fun e w' => e = .returned (.tuple #[.int .i64 (fdV ns s), .int .i64 (fdE ns s)]) ∧ Below w.heap.size w w' := by
  have HL := Lib.hid hv
  obtain ⟨⟨vn, vu, rfl, hS, hB⟩, hsz⟩ := hv
  obtain ⟨p, cap, rfl, hc, hc2, h⟩ := hS
  obtain ⟨q, cap', rfl, hc', hc2', h'⟩ := hB
  clear h h' hsz
  have HI := Lib.hid (Bx.new HL.out)
  have H0 := Lib.hid hg.ck
  clear hg
  cases hx : ixF ns s with
  | none =>
    have HF := Lib.hid (fd_none hx)
    clear hx
    go_enter Tryz.func30, Tryz.ntmps30
    go_wp2_with (first
      | (go_at_call 26; refine (check_any _ ns up _ HI.out.rd).mono ?_; rw [H0.out]; rintro e w' ⟨rfl, hbn⟩; have HI2 := Lib.hid (HI.out.next hbn); clear HI; have HI := HI2; clear HI2; have hx0 := HI.out.x0; have hx1 := HI.out.x1; clear hbn)
      | (go_at_call 59; refine (index_any _ ns s _ HI.out.nm).mono ?_; rw [HF.out.2.2]; rintro e w' ⟨rfl, rfl⟩))
    go_ret2
    exact ⟨ret_two (by rw [HF.out.1]; rfl) (by rw [HF.out.2.1]; rfl), HI.out.bel⟩
  | some k =>
    have HF := Lib.hid (fd_some hx)
    clear hx
    go_enter Tryz.func30, Tryz.ntmps30
    go_wp2_with (first
      | (go_at_call 26; refine (check_any _ ns up _ HI.out.rd).mono ?_; rw [H0.out]; rintro e w' ⟨rfl, hbn⟩; have HI2 := Lib.hid (HI.out.next hbn); clear HI; have HI := HI2; clear HI2; have hx0 := HI.out.x0; have hx1 := HI.out.x1; clear hbn)
      | (go_at_call 59; refine (index_any _ ns s _ HI.out.nm).mono ?_; rw [HF.out.2.2]; rintro e w' ⟨rfl, rfl⟩))
    go_ret2
    exact ⟨ret_two (by rw [HF.out.1]; rfl) (by rw [HF.out.2.1]; rfl), HI.out.bel⟩
set_option maxRecDepth 100000 in
set_option maxHeartbeats 2000000 in
theorem find_bad (v : Value) (ns : List ByteArray) (up : List UInt8) (s : ByteArray) (w : World) (hv : RdL w.heap.size w v ns up) (hck : ((ck ns up).2 != 0) = true) :
    Calls Tryz.prog 30 #[v, .string s] w fun e w' => e = .returned (.tuple #[.int .i64 0, .int .i64 (ck ns up).2]) ∧ Below w.heap.size w w' := by
  have HL := Lib.hid hv
  obtain ⟨⟨vn, vu, rfl, hS, hB⟩, hsz⟩ := hv
  obtain ⟨p, cap, rfl, hc, hc2, h⟩ := hS
  obtain ⟨q, cap', rfl, hc', hc2', h'⟩ := hB
  clear h h' hsz
  have HI := Lib.hid (Bx.new HL.out)
  go_enter Tryz.func30, Tryz.ntmps30
  go_wp2_with (go_at_call 26; refine (check_any _ ns up _ HI.out.rd).mono ?_; rintro e w' ⟨rfl, hbn⟩; have HI2 := Lib.hid (HI.out.next hbn); clear HI; have HI := HI2; clear HI2; have hx0 := HI.out.x0; have hx1 := HI.out.x1; clear hbn)
  go_ret2
  exact ⟨rfl, HI.out.bel⟩
set_option maxRecDepth 100000 in
set_option maxHeartbeats 2000000 in
theorem rfind_bad (v : Value) (ns : List ByteArray) (up : List UInt8) (s : ByteArray) (w : World) (hv : RdL w.heap.size w v ns up) (hck : ((ck ns up).2 != 0) = true) :
    Calls Tryz.prog 32 #[v, .string s] w fun e w' => e = .returned (.tuple #[.int .i64 0, .int .i64 (ck ns up).2]) ∧ Below w.heap.size w w' := by
  have HL := Lib.hid hv
  obtain ⟨⟨vn, vu, rfl, hS, hB⟩, hsz⟩ := hv
  obtain ⟨p, cap, rfl, hc, hc2, h⟩ := hS
  obtain ⟨q, cap', rfl, hc', hc2', h'⟩ := hB
  clear h h' hsz
  have HI := Lib.hid (Bx.new HL.out)
  go_enter Tryz.func32, Tryz.ntmps32
  go_wp2_with (go_at_call 31; refine (rcheck_any _ ns up _ HI.out.rd).mono ?_; rintro e w' ⟨rfl, hbn⟩; have HI2 := Lib.hid (HI.out.next hbn); clear HI; have HI := HI2; clear HI2; have hx0 := HI.out.x0; have hx1 := HI.out.x1; clear hbn)
  go_ret2
  exact ⟨rfl, HI.out.bel⟩
set_option maxRecDepth 100000 in
set_option maxHeartbeats 2000000 in
theorem rfind_ok (v : Value) (ns : List ByteArray) (up : List UInt8) (s : ByteArray) (w : World) (hv : RdL w.heap.size w v ns up) (hg : Good ns up) :
    Calls Tryz.prog 32 #[v, .string s] w fun e w' => e = .returned (.tuple #[.int .i64 (fdV ns s), .int .i64 (fdE ns s)]) ∧ Below w.heap.size w w' := by
  have HL := Lib.hid hv
  obtain ⟨⟨vn, vu, rfl, hS, hB⟩, hsz⟩ := hv
  obtain ⟨p, cap, rfl, hc, hc2, h⟩ := hS
  obtain ⟨q, cap', rfl, hc', hc2', h'⟩ := hB
  clear h h' hsz
  have HI := Lib.hid (Bx.new HL.out)
  have H0 := Lib.hid hg.ck
  clear hg
  go_enter Tryz.func32, Tryz.ntmps32
  go_wp2_with (go_at_call 31; refine (rcheck_any _ ns up _ HI.out.rd).mono ?_; rw [H0.out]; rintro e w' ⟨rfl, hbn⟩; have HI2 := Lib.hid (HI.out.next hbn); clear HI; have HI := HI2; clear HI2; have hx0 := HI.out.x0; have hx1 := HI.out.x1; clear hbn)
  clear hx0 hx1
  go_loopg [8] ns.length (fun g i wr => ∃ k : Nat, k + g = ns.length ∧ i = .int .i64 k ∧ Bx w (.slice p ns.length cap) (.slice q up.length cap') ns up wr ∧ Hid ((List.range k).find? (eqs s ns) = none))
  case atStart => exact ⟨0, by omega, rfl, HI.out, rfl⟩
  case round =>
    clear HI
    obtain ⟨k, hkg, rfl, hix, hq⟩ := hrel
    have HI := Lib.hid hix
    have hx0 := hix.x0
    have hx1 := hix.x1
    clear hix
    cases gk with
    | zero =>
      have hkz : ¬ ((k : Int) < (ns.length : Int)) := by omega
      have HF : Hid (fdV ns s = 0 ∧ fdE ns s = 4 ∧ ixV ns s = -1) := fd_none (by
        have := hq.out
        rwa [show k = ns.length by omega] at this)
      clear hq
      go_wp2_with fail
      go_ret2
      exact ⟨ret_two (by rw [HF.out.1]; rfl) (by rw [HF.out.2.1]; rfl), HI.out.bel⟩
    | succ g =>
      have hlt : (k : Int) < (ns.length : Int) := by omega
      have hk : k < ns.length := by omega
      obtain ⟨b0, off, rfl, hlt0, hx⟩ := HI.out.nm.at k hk
      have HE : Hid (eqs s ns k = (ns[k].toList == s.toList)) := by
        unfold Hid; rw [eqs_get hk, Bool.eq_iff_iff, beq_iff_eq, beq_iff_eq]; exact eq_comm
      cases c0 : (ns[k].toList == s.toList) with
      | true =>
        have HF : Hid (fdV ns s = k ∧ fdE ns s = 0 ∧ ixV ns s = k) := fd_some (find_at hq.out (by rw [HE.out, c0]) hk)
        go_wp2_with fail
        go_ret2
        exact ⟨ret_two (by rw [HF.out.1]; rfl) (by rw [HF.out.2.1]; rfl), HI.out.bel⟩
      | false =>
        have HQ := Lib.hid (find_succ hq.out (by rw [HE.out, c0]))
        go_wp2_with fail
        go_roundg g
        case measure => omega
        case rel => exact ⟨k + 1, by omega, by go_num, HI.out, HQ⟩

theorem cells3 : Tryz.prog.cellsOf 3 = 1 := by kernel_rfl
set_option maxRecDepth 100000 in
set_option maxHeartbeats 2000000 in
theorem dual_bad (v : Value) (ns : List ByteArray) (up : List UInt8) (w : World) (hv : RdL w.heap.size w v ns up) (hck : ((ck ns up).2 != 0) = true) :
    Calls Tryz.prog 70 #[v] w fun e w' => e = .returned (.tuple #[.agg #[.slice none 0 0, .slice none 0 0], .int .i64 (ck ns up).2]) ∧ Below w.heap.size w w' := by
  have HL := Lib.hid hv
  obtain ⟨⟨vn, vu, rfl, hS, hB⟩, hsz⟩ := hv
  obtain ⟨p, cap, rfl, hc, hc2, h⟩ := hS
  obtain ⟨q, cap', rfl, hc', hc2', h'⟩ := hB
  clear h h' hsz
  have HI := Lib.hid (Bx.new HL.out)
  have HI2 := Lib.hid (HI.out.next (bel1 _ (.cells #[Value.slice none 0 0, Value.slice none 0 0] 25)))
  clear HI
  have HI := HI2
  clear HI2
  have e1 : (w.alloc (.cells #[.slice p ns.length cap, .slice q up.length cap'] 25)).heap.size = w.heap.size + 1 := by simp
  have HC0 : Hid (((w.alloc (.cells #[.slice p ns.length cap, .slice q up.length cap'] 25)).alloc (.cells #[Value.slice none 0 0, Value.slice none 0 0] 25)).heap[w.heap.size + 1]? = some (.cells #[Value.slice none 0 0, Value.slice none 0 0] 25 (0, 0))) := by
    unfold Hid; rw [← e1]; exact heap_new _ _
  have HS0 : Hid (((w.alloc (.cells #[.slice p ns.length cap, .slice q up.length cap'] 25)).alloc (.cells #[Value.slice none 0 0, Value.slice none 0 0] 25)).heap.size = w.heap.size + 2) := by unfold Hid; simp
  clear e1
  go_enter Tryz.func70, Tryz.ntmps70
  go_wp2_with fail
  refine (check_any _ ns up _ HI.out.rd).mono ?_
  rintro e w1 ⟨rfl, hb1⟩
  have hblk : w1.heap[w.heap.size + 1]? = some (.cells #[Value.slice none 0 0, Value.slice none 0 0] 25 (0, 0)) := (hb1.block _ (by rw [HS0.out]; omega)).trans HC0.out
  have z0 : w1.cell? ⟨w.heap.size + 1, 0, none⟩ = some (.slice none 0 0) := (cell_of_block hblk 0).trans rfl
  have z1 : w1.cell? ⟨w.heap.size + 1, 1, none⟩ = some (.slice none 0 0) := (cell_of_block hblk 1).trans rfl
  have k0 : w1.frozen? ⟨w.heap.size + 1, 0, none⟩ = false := Lib.frozen_of_heap hblk 0
  have k1 : w1.frozen? ⟨w.heap.size + 1, 1, none⟩ = false := Lib.frozen_of_heap hblk 1
  have HI1 := Lib.hid (HI.out.next hb1)
  clear hblk hb1
  go_wp2_with fail
  exact bodyPost_ret (v := .tuple #[.agg #[.slice none 0 0, .slice none 0 0], .int .i64 _]) (by simp [results, Tryz.results70, go_sem, z0, z1]) rfl ⟨rfl, (HI1.out.bel.setCell (p := ⟨w.heap.size + 1, 0, none⟩) (Nat.le_succ _) _).setCell (p := ⟨w.heap.size + 1, 1, none⟩) (Nat.le_succ _) _⟩
end Go.Proofs.YtablaacddbkeiaaGreatDoor
