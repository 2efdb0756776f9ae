/- The law's long, Far, below; a lattice in a box of the law's own. -/
import Derived.Test.YtablaacddbkeiaaGreatDoorLtM
namespace Go.Proofs.YtablaacddbkeiaaGreatDoor
open Go.RowKit

def bigS (ns : List ByteArray) (i : Nat) : Bool := decide (100 < (ns.getD i ByteArray.empty).size)
def lnG (ns : List ByteArray) : Bool := (List.range (min ns.length 20)).any (bigS ns) || decide (12 < ns.length)
theorem dec12 (n : Nat) : decide (12 < n) = decide (12 < (n : Int)) := by
  rw [Bool.eq_iff_iff, decide_eq_true_iff, decide_eq_true_iff]; omega
def farB (ns : List ByteArray) (up : List UInt8) : Bool := lnG ns || decide (12 < up.length)

set_option maxRecDepth 100000 in
set_option maxHeartbeats 1000000 in
theorem long_any (v : Value) (ns : List ByteArray) (w : World) (hv : RdS w.heap.size w v ns) :
    Calls Tryz.prog 18 #[v] w fun e w' => e = .returned (.bool (lnG ns)) ∧ w = w' := by
  have HV := Lib.hid hv
  obtain ⟨p, cap, rfl, hc, hc2, h⟩ := hv
  clear h
  go_enter Tryz.func18, Tryz.ntmps18
  go_wp2
  go_loopg [3] (min ns.length 20) (fun g i wr => ∃ k : Nat, k + g = min ns.length 20 ∧ i = .int .i64 k ∧ w = wr ∧ Hid ((List.range k).any (bigS ns) = false))
  case atStart => exact ⟨0, by omega, rfl, rfl, rfl⟩
  case round =>
    obtain ⟨k, hkg, rfl, rfl, hq⟩ := hrel
    cases gk with
    | zero =>
      have HM : Hid (lnG ns = decide (12 < (ns.length : Int))) := by
        have := hq.out
        rw [show k = min ns.length 20 by omega] at this
        unfold Hid lnG; rw [this, dec12]; rfl
      clear hq
      by_cases h1 : (k : Int) < (ns.length : Int)
      · have h2 : ¬ ((k : Int) < 20) := by omega
        go_wp2
        go_ret
        exact ⟨ret_bool HM.out.symm, rfl⟩
      · go_wp2
        go_ret
        exact ⟨ret_bool HM.out.symm, rfl⟩
    | succ g =>
      have hlt : (k : Int) < (ns.length : Int) := by omega
      have hlt2 : (k : Int) < 20 := by omega
      have hk : k < ns.length := by omega
      obtain ⟨b0, off, rfl, hlt0, hx⟩ := HV.out.at k hk
      have HB : Hid (bigS ns k = decide (100 < ns[k].size)) := by unfold Hid bigS; rw [getD_get hk]
      by_cases h1 : (100 : Int) < (ns[k].size : Int)
      · have HL : Hid (lnG ns = true) := by
          unfold Hid lnG; rw [any_at (p := bigS ns) (k := k) (by rw [HB.out, decide_eq_true (by omega)]) (by omega)]; rfl
        go_wp2
        go_ret
        exact ⟨ret_bool HL.out.symm, rfl⟩
      · have HL := Lib.hid (any_succ hq.out (by rw [HB.out, decide_eq_false (by omega)]))
        go_wp2
        go_roundg g
        case measure => omega
        case rel => exact ⟨k + 1, by omega, by go_num, rfl, HL⟩

set_option maxRecDepth 100000 in
set_option maxHeartbeats 1000000 in
theorem far_any (v : Value) (ns : List ByteArray) (up : List UInt8) (w : World) (hv : RdL w.heap.size w v ns up) :
    Calls Tryz.prog 5 #[v] w fun e w' => e = .returned (.bool (farB ns up)) ∧ Below w.heap.size w w' := by
  obtain ⟨⟨vn, vu, rfl, hS, hB⟩, hsz⟩ := hv
  have HS := Lib.hid hS
  obtain ⟨p, cap, rfl, hc, hc2, h⟩ := hS
  obtain ⟨q, cap', rfl, hc', hc2', h'⟩ := hB
  clear h h' hsz
  cases e0 : lnG ns with
  | true =>
    have HK : Hid (farB ns up = true) := by unfold Hid farB; rw [e0]; rfl
    go_enter Tryz.func5, Tryz.ntmps5
    go_wp2_with (go_at_call 18; refine (long_any _ ns _ (HS.out.al _)).mono ?_; rintro e w' ⟨rfl, rfl⟩)
    go_ret
    exact ⟨ret_bool HK.out.symm, bel1 _ _⟩
  | false =>
    have HK : Hid (farB ns up = decide (12 < (up.length : Int))) := by unfold Hid farB; rw [e0, Bool.false_or, dec12]
    go_enter Tryz.func5, Tryz.ntmps5
    go_wp2_with (go_at_call 18; refine (long_any _ ns _ (HS.out.al _)).mono ?_; rintro e w' ⟨rfl, rfl⟩)
    go_ret
    exact ⟨ret_bool HK.out.symm, bel1 _ _⟩

/-- The law's own box, number B, holds the lattice; below B nothing has turned. -/
structure Bx (w : World) (vn vu : Value) (ns : List ByteArray) (up : List UInt8) (wr : World) : Prop where
  bel : Below w.heap.size w wr
  lt : w.heap.size < wr.heap.size
  x0 : wr.cell? ⟨w.heap.size, 0, none⟩ = some vn
  x1 : wr.cell? ⟨w.heap.size, 1, none⟩ = some vu
  rd : RdL wr.heap.size wr (.agg #[vn, vu]) ns up
theorem Bx.next {w wr w' : World} {vn vu : Value} {ns : List ByteArray} {up : List UInt8} (h : Bx w vn vu ns up wr) (hb : Below wr.heap.size wr w') : Bx w vn vu ns up w' where
  bel := h.bel.trans (hb.mono h.bel.size)
  lt := Nat.lt_of_lt_of_le h.lt hb.size
  x0 := (hb.cell (p := ⟨w.heap.size, 0, none⟩) h.lt).trans h.x0
  x1 := (hb.cell (p := ⟨w.heap.size, 1, none⟩) h.lt).trans h.x1
  rd := h.rd.next hb
theorem Bx.new {w : World} {vn vu : Value} {ns : List ByteArray} {up : List UInt8} (h : RdL w.heap.size w (.agg #[vn, vu]) ns up) : Bx w vn vu ns up (w.alloc (.cells #[vn, vu] 25)) where
  bel := bel1 _ _
  lt := by simp
  x0 := (cell_of_block (heap_new w _) 0).trans rfl
  x1 := (cell_of_block (heap_new w _) 1).trans rfl
  rd := h.al _
end Go.Proofs.YtablaacddbkeiaaGreatDoor
