/- Find, of both; pairs; Covers and Dual of the reference. -/
import Derived.Test.YtfjnapmhnfjopaaLtV
import Derived.ChangeKeysEq
namespace Go.Proofs.Ytfjnapmhnfjopaa
open Go.RowKit

def fdV (ns : List ByteArray) (s : ByteArray) : Int := match ixF ns s with | some k => k | none => 0
def fdE (ns : List ByteArray) (s : ByteArray) : Int := match ixF ns s with | some _ => 0 | none => 4
theorem fd_some {ns : List ByteArray} {s : ByteArray} {k : Nat} (h : ixF ns s = some k) : fdV ns s = k ∧ fdE ns s = 0 ∧ ixV ns s = k := by unfold fdV fdE ixV; rw [h]; exact ⟨rfl, rfl, rfl⟩
theorem fd_none {ns : List ByteArray} {s : ByteArray} (h : ixF ns s = none) : fdV ns s = 0 ∧ fdE ns s = 4 ∧ ixV ns s = -1 := by unfold fdV fdE ixV; rw [h]; exact ⟨rfl, rfl, rfl⟩

set_option maxRecDepth 100000 in
set_option maxHeartbeats 2000000 in
theorem find_ok (v : Value) (ns : List ByteArray) (up : List UInt8) (s : ByteArray) (w : World) (hv : RdL w.heap.size w v ns up) (hg : Good ns up) :
    Calls Try.prog 29 #[v, .string s] w fun e w' => e = .returned (.tuple #[.int .i64 (fdV ns s), .int .i64 (fdE ns s)]) ∧ Below w.heap.size w w' := by
  have HL := Lib.hid hv
  obtain ⟨⟨vn, vu, rfl, hS, hB⟩, hsz⟩ := hv
  obtain ⟨p, cap, rfl, hc, hc2, h⟩ := hS
  obtain ⟨q, cap', rfl, hc', hc2', h'⟩ := hB
  clear h h' hsz
  have HI := Lib.hid (Bx.new HL.out)
  have H0 := Lib.hid hg.ck
  clear hg
  cases hx : ixF ns s with
  | none =>
    have HF := Lib.hid (fd_none hx)
    clear hx
    go_enter Try.func29, Try.ntmps29
    go_wp2_with (first
      | (go_at_call 14; refine (check_any _ ns up _ HI.out.rd).mono ?_; rw [H0.out]; rintro e w' ⟨rfl, hbn⟩; have HI2 := Lib.hid (HI.out.next hbn); clear HI; have HI := HI2; clear HI2; have hx0 := HI.out.x0; have hx1 := HI.out.x1; clear hbn)
      | (go_at_call 62; refine (index_any _ ns s _ HI.out.nm).mono ?_; rw [HF.out.2.2]; rintro e w' ⟨rfl, rfl⟩))
    go_ret2
    exact ⟨ret_two (by rw [HF.out.1]; rfl) (by rw [HF.out.2.1]; rfl), HI.out.bel⟩
  | some k =>
    have HF := Lib.hid (fd_some hx)
    clear hx
    go_enter Try.func29, Try.ntmps29
    go_wp2_with (first
      | (go_at_call 14; refine (check_any _ ns up _ HI.out.rd).mono ?_; rw [H0.out]; rintro e w' ⟨rfl, hbn⟩; have HI2 := Lib.hid (HI.out.next hbn); clear HI; have HI := HI2; clear HI2; have hx0 := HI.out.x0; have hx1 := HI.out.x1; clear hbn)
      | (go_at_call 62; refine (index_any _ ns s _ HI.out.nm).mono ?_; rw [HF.out.2.2]; rintro e w' ⟨rfl, rfl⟩))
    go_ret2
    exact ⟨ret_two (by rw [HF.out.1]; rfl) (by rw [HF.out.2.1]; rfl), HI.out.bel⟩
set_option maxRecDepth 100000 in
set_option maxHeartbeats 2000000 in
theorem find_bad (v : Value) (ns : List ByteArray) (up : List UInt8) (s : ByteArray) (w : World) (hv : RdL w.heap.size w v ns up) (hck : ((ck ns up).2 != 0) = true) :
    Calls Try.prog 29 #[v, .string s] w fun e w' => e = .returned (.tuple #[.int .i64 0, .int .i64 (ck ns up).2]) ∧ Below w.heap.size w w' := by
  have HL := Lib.hid hv
  obtain ⟨⟨vn, vu, rfl, hS, hB⟩, hsz⟩ := hv
  obtain ⟨p, cap, rfl, hc, hc2, h⟩ := hS
  obtain ⟨q, cap', rfl, hc', hc2', h'⟩ := hB
  clear h h' hsz
  have HI := Lib.hid (Bx.new HL.out)
  go_enter Try.func29, Try.ntmps29
  go_wp2_with (go_at_call 14; refine (check_any _ ns up _ HI.out.rd).mono ?_; rintro e w' ⟨rfl, hbn⟩; have HI2 := Lib.hid (HI.out.next hbn); clear HI; have HI := HI2; clear HI2; have hx0 := HI.out.x0; have hx1 := HI.out.x1; clear hbn)
  go_ret2
  exact ⟨rfl, HI.out.bel⟩
set_option maxRecDepth 100000 in
set_option maxHeartbeats 2000000 in
theorem rfind_bad (v : Value) (ns : List ByteArray) (up : List UInt8) (s : ByteArray) (w : World) (hv : RdL w.heap.size w v ns up) (hck : ((ck ns up).2 != 0) = true) :
    Calls Try.prog 30 #[v, .string s] w fun e w' => e = .returned (.tuple #[.int .i64 0, .int .i64 (ck ns up).2]) ∧ Below w.heap.size w w' := by
  have HL := Lib.hid hv
  obtain ⟨⟨vn, vu, rfl, hS, hB⟩, hsz⟩ := hv
  obtain ⟨p, cap, rfl, hc, hc2, h⟩ := hS
  obtain ⟨q, cap', rfl, hc', hc2', h'⟩ := hB
  clear h h' hsz
  have HI := Lib.hid (Bx.new HL.out)
  go_enter Try.func30, Try.ntmps30
  go_wp2_with (go_at_call 15; refine (rcheck_any _ ns up _ HI.out.rd).mono ?_; rintro e w' ⟨rfl, hbn⟩; have HI2 := Lib.hid (HI.out.next hbn); clear HI; have HI := HI2; clear HI2; have hx0 := HI.out.x0; have hx1 := HI.out.x1; clear hbn)
  go_ret2
  exact ⟨rfl, HI.out.bel⟩
set_option maxRecDepth 100000 in
set_option maxHeartbeats 2000000 in
theorem rfind_ok (v : Value) (ns : List ByteArray) (up : List UInt8) (s : ByteArray) (w : World) (hv : RdL w.heap.size w v ns up) (hg : Good ns up) :
    Calls Try.prog 30 #[v, .string s] w fun e w' => e = .returned (.tuple #[.int .i64 (fdV ns s), .int .i64 (fdE ns s)]) ∧ Below w.heap.size w w' := by
  have HL := Lib.hid hv
  obtain ⟨⟨vn, vu, rfl, hS, hB⟩, hsz⟩ := hv
  obtain ⟨p, cap, rfl, hc, hc2, h⟩ := hS
  obtain ⟨q, cap', rfl, hc', hc2', h'⟩ := hB
  clear h h' hsz
  have HI := Lib.hid (Bx.new HL.out)
  have H0 := Lib.hid hg.ck
  clear hg
  go_enter Try.func30, Try.ntmps30
  go_wp2_with (go_at_call 15; refine (rcheck_any _ ns up _ HI.out.rd).mono ?_; rw [H0.out]; rintro e w' ⟨rfl, hbn⟩; have HI2 := Lib.hid (HI.out.next hbn); clear HI; have HI := HI2; clear HI2; have hx0 := HI.out.x0; have hx1 := HI.out.x1; clear hbn)
  clear hx0 hx1
  go_loopg [8] ns.length (fun g i wr => ∃ k : Nat, k + g = ns.length ∧ i = .int .i64 k ∧ Bx w (.slice p ns.length cap) (.slice q up.length cap') ns up wr ∧ Hid ((List.range k).find? (eqs s ns) = none))
  case atStart => exact ⟨0, by omega, rfl, HI.out, rfl⟩
  case round =>
    clear HI
    obtain ⟨k, hkg, rfl, hix, hq⟩ := hrel
    have HI := Lib.hid hix
    have hx0 := hix.x0
    have hx1 := hix.x1
    clear hix
    cases gk with
    | zero =>
      have hkz : ¬ ((k : Int) < (ns.length : Int)) := by omega
      have HF : Hid (fdV ns s = 0 ∧ fdE ns s = 4 ∧ ixV ns s = -1) := fd_none (by
        have := hq.out
        rwa [show k = ns.length by omega] at this)
      clear hq
      go_wp2_with fail
      go_ret2
      exact ⟨ret_two (by rw [HF.out.1]; rfl) (by rw [HF.out.2.1]; rfl), HI.out.bel⟩
    | succ g =>
      have hlt : (k : Int) < (ns.length : Int) := by omega
      have hk : k < ns.length := by omega
      obtain ⟨b0, off, rfl, hlt0, hx⟩ := HI.out.nm.at k hk
      have HE : Hid (eqs s ns k = (ns[k].toList == s.toList)) := by
        unfold Hid; rw [eqs_get hk, Bool.eq_iff_iff, beq_iff_eq, beq_iff_eq]; exact eq_comm
      cases c0 : (ns[k].toList == s.toList) with
      | true =>
        have HF : Hid (fdV ns s = k ∧ fdE ns s = 0 ∧ ixV ns s = k) := fd_some (find_at hq.out (by rw [HE.out, c0]) hk)
        go_wp2_with fail
        go_ret2
        exact ⟨ret_two (by rw [HF.out.1]; rfl) (by rw [HF.out.2.1]; rfl), HI.out.bel⟩
      | false =>
        have HQ := Lib.hid (find_succ hq.out (by rw [HE.out, c0]))
        go_wp2_with fail
        go_roundg g
        case measure => omega
        case rel => exact ⟨k + 1, by omega, by go_num, HI.out, HQ⟩

theorem cells3 : Try.prog.cellsOf 3 = 1 := by kernel_rfl
theorem neqA (a b : Int) (w : World) : (binOp .neq 55 (.agg #[.int .i64 a, .int .i64 b]) (.agg #[.int .i64 a, .int .i64 b])).run Try.prog w = .ok (.bool false) w := by
  have hj : ∃ i, Try.prog.info? 3 = some i := Option.isSome_iff_exists.1 (by kernel_rfl)
  obtain ⟨j, hj⟩ := hj
  have h : (Op.equal 55 (.agg #[.int .i64 a, .int .i64 b]) (.agg #[.int .i64 a, .int .i64 b])).run Try.prog w = .ok true w := by
    show (Op.equalIn (9998 + 1 + 1) 55 (.agg #[.int .i64 a, .int .i64 b]) (.agg #[.int .i64 a, .int .i64 b])).run Try.prog w = .ok true w
    generalize 9998 = d
    rw [run_equalIn_array w (d + 1) _ _ Try.underlying55 hj, cells3]
    simp [Op.eqItems, List.range_succ, go_sem, Op.equalIn, run_underlying Try.underlying3]
  simp only [binOp]
  simp [h]
theorem neqG (w : World) (x y : Operand) (xs ys : Array Value) : (eqGuard .neq 55 x y (.agg xs) (.agg ys)).run Try.prog w = .ok () w := by kernel_rfl

set_option maxRecDepth 100000 in
set_option maxHeartbeats 2000000 in
theorem pairs_same (v u : Value) (l : List (Nat × Nat)) (w : World) (hv : RdP w.heap.size w v l) (hu : RdP w.heap.size w u l) (hl : l.length ≤ 1000) :
    Calls Try.prog 33 #[v, u] w fun e w' => e = .returned (.bool true) ∧ Below w.heap.size w w' := by
  obtain ⟨a1, c1, rfl, k1, h1⟩ := hv
  obtain ⟨a2, c2, rfl, k2, h2⟩ := hu
  have H1 := Lib.hid h1
  have H2 := Lib.hid h2
  clear h1 h2
  have hgd := neqG
  go_enter Try.func33, Try.ntmps33
  go_wp2_with fail
  go_loopg [5] l.length (fun g i wr => ∃ k : Nat, k + g = l.length ∧ i = .int .i64 k ∧ Below w.heap.size w wr)
  case atStart => exact ⟨0, by omega, rfl, Below.refl _ _⟩
  case round =>
    obtain ⟨k, hkg, rfl, hbl⟩ := hrel
    have HBl := Lib.hid hbl; clear hbl
    cases gk with
    | zero =>
      have hkz : ¬ ((k : Int) < (l.length : Int)) := by omega
      go_wp2_with fail
      go_ret
      exact ⟨rfl, HBl.out⟩
    | succ g =>
      have hlt : (k : Int) < (l.length : Int) := by omega
      have hk : k < l.length := by omega
      obtain ⟨b1, o1, rfl, hb1, hc1⟩ := H1.out (by intro e; rw [e] at hk; simp at hk)
      obtain ⟨b2, o2, rfl, hb2, hc2⟩ := H2.out (by intro e; rw [e] at hk; simp at hk)
      have x1 : wr.cell? ⟨b1, o1 + k * 2, none⟩ = some (.int .i64 (l[k].1 : Int)) := (HBl.out.cell (p := ⟨b1, o1 + k * 2, none⟩) hb1).trans (hc1 k hk).1
      have x2 : wr.cell? ⟨b1, o1 + k * 2 + 1, none⟩ = some (.int .i64 (l[k].2 : Int)) := (HBl.out.cell (p := ⟨b1, o1 + k * 2 + 1, none⟩) hb1).trans (hc1 k hk).2
      have y1 : wr.cell? ⟨b2, o2 + k * 2, none⟩ = some (.int .i64 (l[k].1 : Int)) := (HBl.out.cell (p := ⟨b2, o2 + k * 2, none⟩) hb2).trans (hc2 k hk).1
      have y2 : wr.cell? ⟨b2, o2 + k * 2 + 1, none⟩ = some (.int .i64 (l[k].2 : Int)) := (HBl.out.cell (p := ⟨b2, o2 + k * 2 + 1, none⟩) hb2).trans (hc2 k hk).2
      clear hc1 hc2
      have hne := fun W => neqA (l[k].1 : Int) (l[k].2 : Int) W
      go_wp2_with fail
      go_quiet (fail)
      go_wp2_with fail
      go_roundg g
      case measure => omega
      case rel => exact ⟨k + 1, by omega, by go_num, below_drewN HBl.out _⟩

set_option maxRecDepth 100000 in
set_option maxHeartbeats 2000000 in
theorem covers_bad (v : Value) (ns : List ByteArray) (up : List UInt8) (w : World) (hv : RdL w.heap.size w v ns up) (hck : ((ck ns up).2 != 0) = true) :
    Calls Try.prog 31 #[v] w fun e w' => e = .returned (.tuple #[.slice none 0 0, .int .i64 (ck ns up).2]) ∧ Below w.heap.size w w' := by
  have HL := Lib.hid hv
  obtain ⟨⟨vn, vu, rfl, hS, hB⟩, hsz⟩ := hv
  obtain ⟨p, cap, rfl, hc, hc2, h⟩ := hS
  obtain ⟨q, cap', rfl, hc', hc2', h'⟩ := hB
  clear h h' hsz
  have HI := Lib.hid (Bx.new HL.out)
  go_enter Try.func31, Try.ntmps31
  go_wp2_with (go_at_call 14; refine (check_any _ ns up _ HI.out.rd).mono ?_; rintro e w' ⟨rfl, hbn⟩; have HI2 := Lib.hid (HI.out.next hbn); clear HI; have HI := HI2; clear HI2; have hx0 := HI.out.x0; have hx1 := HI.out.x1; clear hbn)
  go_ret2
  exact ⟨rfl, HI.out.bel⟩
set_option maxRecDepth 100000 in
set_option maxHeartbeats 2000000 in
theorem rcovers_bad (v : Value) (ns : List ByteArray) (up : List UInt8) (w : World) (hv : RdL w.heap.size w v ns up) (hck : ((ck ns up).2 != 0) = true) :
    Calls Try.prog 32 #[v] w fun e w' => e = .returned (.tuple #[.slice none 0 0, .int .i64 (ck ns up).2]) ∧ Below w.heap.size w w' := by
  have HL := Lib.hid hv
  obtain ⟨⟨vn, vu, rfl, hS, hB⟩, hsz⟩ := hv
  obtain ⟨p, cap, rfl, hc, hc2, h⟩ := hS
  obtain ⟨q, cap', rfl, hc', hc2', h'⟩ := hB
  clear h h' hsz
  have HI := Lib.hid (Bx.new HL.out)
  go_enter Try.func32, Try.ntmps32
  go_wp2_with (go_at_call 15; refine (rcheck_any _ ns up _ HI.out.rd).mono ?_; rintro e w' ⟨rfl, hbn⟩; have HI2 := Lib.hid (HI.out.next hbn); clear HI; have HI := HI2; clear HI2; have hx0 := HI.out.x0; have hx1 := HI.out.x1; clear hbn)
  go_ret2
  exact ⟨rfl, HI.out.bel⟩
set_option maxRecDepth 100000 in
set_option maxHeartbeats 2000000 in
theorem dual_bad (v : Value) (ns : List ByteArray) (up : List UInt8) (w : World) (hv : RdL w.heap.size w v ns up) (hck : ((ck ns up).2 != 0) = true) :
    Calls Try.prog 34 #[v] w fun e w' => e = .returned (.tuple #[.agg #[.slice none 0 0, .slice none 0 0], .int .i64 (ck ns up).2]) ∧ Below w.heap.size w w' := by
  have HL := Lib.hid hv
  obtain ⟨⟨vn, vu, rfl, hS, hB⟩, hsz⟩ := hv
  obtain ⟨p, cap, rfl, hc, hc2, h⟩ := hS
  obtain ⟨q, cap', rfl, hc', hc2', h'⟩ := hB
  clear h h' hsz
  have HI := Lib.hid (Bx.new HL.out)
  have HI2 := Lib.hid (HI.out.next (bel1 _ (.cells #[Value.slice none 0 0, Value.slice none 0 0] 25)))
  clear HI
  have HI := HI2
  clear HI2
  have e1 : (w.alloc (.cells #[.slice p ns.length cap, .slice q up.length cap'] 25)).heap.size = w.heap.size + 1 := by simp
  have HC0 : Hid (((w.alloc (.cells #[.slice p ns.length cap, .slice q up.length cap'] 25)).alloc (.cells #[Value.slice none 0 0, Value.slice none 0 0] 25)).heap[w.heap.size + 1]? = some (.cells #[Value.slice none 0 0, Value.slice none 0 0] 25 (0, 0))) := by
    unfold Hid; rw [← e1]; exact heap_new _ _
  have HS0 : Hid (((w.alloc (.cells #[.slice p ns.length cap, .slice q up.length cap'] 25)).alloc (.cells #[Value.slice none 0 0, Value.slice none 0 0] 25)).heap.size = w.heap.size + 2) := by unfold Hid; simp
  clear e1
  go_enter Try.func34, Try.ntmps34
  go_wp2_with fail
  refine (check_any _ ns up _ HI.out.rd).mono ?_
  rintro e w1 ⟨rfl, hb1⟩
  have hblk : w1.heap[w.heap.size + 1]? = some (.cells #[Value.slice none 0 0, Value.slice none 0 0] 25 (0, 0)) := (hb1.block _ (by rw [HS0.out]; omega)).trans HC0.out
  have z0 : w1.cell? ⟨w.heap.size + 1, 0, none⟩ = some (.slice none 0 0) := (cell_of_block hblk 0).trans rfl
  have z1 : w1.cell? ⟨w.heap.size + 1, 1, none⟩ = some (.slice none 0 0) := (cell_of_block hblk 1).trans rfl
  have k0 : w1.frozen? ⟨w.heap.size + 1, 0, none⟩ = false := Lib.frozen_of_heap hblk 0
  have k1 : w1.frozen? ⟨w.heap.size + 1, 1, none⟩ = false := Lib.frozen_of_heap hblk 1
  have HI1 := Lib.hid (HI.out.next hb1)
  clear hblk hb1
  go_wp2_with fail
  exact bodyPost_ret (v := .tuple #[.agg #[.slice none 0 0, .slice none 0 0], .int .i64 _]) (by simp [results, Try.results34, go_sem, z0, z1]) rfl ⟨rfl, (HI1.out.bel.setCell (p := ⟨w.heap.size + 1, 0, none⟩) (Nat.le_succ _) _).setCell (p := ⟨w.heap.size + 1, 1, none⟩) (Nat.le_succ _) _⟩
set_option maxRecDepth 100000 in
set_option maxHeartbeats 2000000 in
theorem rdual_bad (v : Value) (ns : List ByteArray) (up : List UInt8) (w : World) (hv : RdL w.heap.size w v ns up) (hck : ((ck ns up).2 != 0) = true) :
    Calls Try.prog 35 #[v] w fun e w' => e = .returned (.tuple #[.agg #[.slice none 0 0, .slice none 0 0], .int .i64 (ck ns up).2]) ∧ Below w.heap.size w w' := by
  have HL := Lib.hid hv
  obtain ⟨⟨vn, vu, rfl, hS, hB⟩, hsz⟩ := hv
  obtain ⟨p, cap, rfl, hc, hc2, h⟩ := hS
  obtain ⟨q, cap', rfl, hc', hc2', h'⟩ := hB
  clear h h' hsz
  have HI := Lib.hid (Bx.new HL.out)
  have HI2 := Lib.hid (HI.out.next (bel1 _ (.cells #[Value.slice none 0 0, Value.slice none 0 0] 25)))
  clear HI
  have HI := HI2
  clear HI2
  have e1 : (w.alloc (.cells #[.slice p ns.length cap, .slice q up.length cap'] 25)).heap.size = w.heap.size + 1 := by simp
  have HC0 : Hid (((w.alloc (.cells #[.slice p ns.length cap, .slice q up.length cap'] 25)).alloc (.cells #[Value.slice none 0 0, Value.slice none 0 0] 25)).heap[w.heap.size + 1]? = some (.cells #[Value.slice none 0 0, Value.slice none 0 0] 25 (0, 0))) := by
    unfold Hid; rw [← e1]; exact heap_new _ _
  have HS0 : Hid (((w.alloc (.cells #[.slice p ns.length cap, .slice q up.length cap'] 25)).alloc (.cells #[Value.slice none 0 0, Value.slice none 0 0] 25)).heap.size = w.heap.size + 2) := by unfold Hid; simp
  clear e1
  go_enter Try.func35, Try.ntmps35
  go_wp2_with fail
  refine (rcheck_any _ ns up _ HI.out.rd).mono ?_
  rintro e w1 ⟨rfl, hb1⟩
  have hblk : w1.heap[w.heap.size + 1]? = some (.cells #[Value.slice none 0 0, Value.slice none 0 0] 25 (0, 0)) := (hb1.block _ (by rw [HS0.out]; omega)).trans HC0.out
  have z0 : w1.cell? ⟨w.heap.size + 1, 0, none⟩ = some (.slice none 0 0) := (cell_of_block hblk 0).trans rfl
  have z1 : w1.cell? ⟨w.heap.size + 1, 1, none⟩ = some (.slice none 0 0) := (cell_of_block hblk 1).trans rfl
  have k0 : w1.frozen? ⟨w.heap.size + 1, 0, none⟩ = false := Lib.frozen_of_heap hblk 0
  have k1 : w1.frozen? ⟨w.heap.size + 1, 1, none⟩ = false := Lib.frozen_of_heap hblk 1
  have HI1 := Lib.hid (HI.out.next hb1)
  clear hblk hb1
  go_wp2_with fail
  exact bodyPost_ret (v := .tuple #[.agg #[.slice none 0 0, .slice none 0 0], .int .i64 _]) (by simp [results, Try.results35, go_sem, z0, z1]) rfl ⟨rfl, (HI1.out.bel.setCell (p := ⟨w.heap.size + 1, 0, none⟩) (Nat.le_succ _) _).setCell (p := ⟨w.heap.size + 1, 1, none⟩) (Nat.le_succ _) _⟩
end Go.Proofs.Ytfjnapmhnfjopaa
