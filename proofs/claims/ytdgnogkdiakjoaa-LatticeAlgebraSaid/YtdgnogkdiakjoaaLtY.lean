/- rowOf: the row of a label as a string. -/
import Derived.Test.YtdgnogkdiakjoaaLtW
import Derived.Deep.OwnRows
import Derived.Laws.MakeOwn
namespace Go.Proofs.Ytdgnogkdiakjoaa
open Go.RowKit

def rb (up : List UInt8) (a i : Nat) : UInt8 := if le up a i then 49 else 48
def rowB (up : List UInt8) (a : Nat) : List UInt8 := (List.range up.length).map (rb up a)
theorem rowB_len (up : List UInt8) (a : Nat) : (rowB up a).length = up.length := by simp [rowB]
/-- The row, as far as it has been written. -/
def rf (up : List UInt8) (a k : Nat) (i : Nat) : Value := if i < k then .int .u8 ((rb up a i).toNat : Int) else .int .u8 0

theorem rf_next {w : World} {b : Nat} {up : List UInt8} {a k : Nat} {z : Int} (h : w.rowIs b 5 up.length (rf up a k)) (hz : ((rb up a k).toNat : Int) = z) : (w.setCell ⟨b, k, none⟩ (.int .u8 z)).rowIs b 5 up.length (rf up a (k + 1)) := by
  refine (h.set k _).congr fun i hi => ?_
  show (if i = k then Value.int .u8 z else rf up a k i) = rf up a (k + 1) i
  unfold rf
  by_cases e : i = k
  · subst e; rw [if_pos rfl, if_pos (by omega), hz]
  · rw [if_neg e]
    by_cases e2 : i < k
    · rw [if_pos e2, if_pos (by omega)]
    · rw [if_neg e2, if_neg (by omega)]
theorem rf_next2 {w : World} {b : Nat} {up : List UInt8} {a k : Nat} {z : Int} {u : Value} (h : w.rowIs b 5 up.length (rf up a k)) (hz : ((rb up a k).toNat : Int) = z) : ((w.setCell ⟨b, k, none⟩ u).setCell ⟨b, k, none⟩ (.int .u8 z)).rowIs b 5 up.length (rf up a (k + 1)) := by
  refine ((h.set k u).set k _).congr fun i hi => ?_
  show (if i = k then Value.int .u8 z else if i = k then u else rf up a k i) = rf up a (k + 1) i
  unfold rf
  by_cases e : i = k
  · subst e; rw [if_pos rfl, if_pos (by omega), hz]
  · rw [if_neg e, if_neg e]
    by_cases e2 : i < k
    · rw [if_pos e2, if_pos (by omega)]
    · rw [if_neg e2, if_neg (by omega)]

set_option maxRecDepth 100000 in
set_option maxHeartbeats 2000000 in
theorem rowOf_any (v : Value) (up : List UInt8) (a : Nat) (w : World) (hv : RdB w.heap.size w v up) (ha : a < up.length) (hl : up.length ≤ 8) :
    Calls Try.prog 25 #[v, .int .i64 a] w fun e w' => e = .returned (.string ⟨(rowB up a).toArray⟩) ∧ Below w.heap.size w w' := by
  have HV := Lib.hid hv
  obtain ⟨p, cap, rfl, hc, hc2, h⟩ := hv
  clear h
  obtain ⟨i0, hi, hz0, hz1, hz2⟩ := info_parts info5
  have hmk := run_make (P := Try.prog) w 23 5 i0 (.int .u8 0) Try.underlying23 hi hz0 .i64 .i64 up.length up.length (by omega) (by omega) (by rw [hz2]; omega) (by omega)
  rw [Int.toNat_natCast, hz1, Nat.mul_one] at hmk
  have hr0 : (w.alloc (.cells (madeCells (Value.int .u8 0).cells up.length) 5)).rowIs w.heap.size 5 up.length (rf up a 0) :=
    (World.rowIs_made w (.int .u8 0) up.length 5).congr fun i _ => by unfold rf; rw [if_neg (by omega)]
  have HR0 := Lib.hid hr0; clear hr0
  have HB0 := Lib.hid (bel1 w (.cells (madeCells (Value.int .u8 0).cells up.length) 5))
  generalize hW : w.alloc (.cells (madeCells (Value.int .u8 0).cells up.length) 5) = W0 at hmk HR0 HB0
  clear hW
  go_enter Try.func25, Try.ntmps25
  go_wp2
  clear hmk
  go_loopg [12] up.length (fun g i wr => ∃ k : Nat, k + g = up.length ∧ i = .int .i64 k ∧ Below w.heap.size w wr ∧ wr.rowIs w.heap.size 5 up.length (rf up a k))
  case atStart => exact ⟨0, by omega, rfl, HB0.out, HR0.out⟩
  case round =>
    obtain ⟨k, hkg, rfl, hbl, hrow⟩ := hrel
    cases gk with
    | zero =>
      have hkz : ¬ ((k : Int) < (up.length : Int)) := by omega
      have hcv := run_convert_bytes_back (P := Try.prog) wr 23 9 5 ⟨w.heap.size, 0, none⟩ up.length (rowB up a) Try.underlying23 Try.underlying5 Try.underlying9 (fun j hj => by
        rw [rowB_len] at hj
        have e : (⟨w.heap.size, 0, none⟩ : Addr).add j = ⟨w.heap.size, j, none⟩ := by simp [Addr.add]; intro h; exact h.symm
        rw [e, hrow.cell hj]
        unfold rf
        rw [if_pos (by omega)]
        simp [rowB])
      rw [rowB_len] at hcv
      go_wp2
      go_ret
      exact ⟨rfl, hbl⟩
    | succ g =>
      have hlt : (k : Int) < (up.length : Int) := by omega
      have hx : wr.cell? ⟨w.heap.size, k, none⟩ = some (.int .u8 0) := by
        rw [hrow.cell (by omega)]; unfold rf; rw [if_neg (by omega)]
      have hf : wr.frozen? ⟨w.heap.size, k, none⟩ = false := hrow.frozen k
      have hbl1 : Below w.heap.size w (wr.setCell ⟨w.heap.size, k, none⟩ (.int .u8 48)) := hbl.setCell (p := ⟨w.heap.size, k, none⟩) (Nat.le_refl _) _
      have HB1 := Lib.hid hbl1; clear hbl1
      have HRo := Lib.hid hrow; clear hrow
      cases c1 : le up a k with
      | false =>
        go_wp2_with (go_at_call 22; refine (up_any _ up _ _ w.heap.size _ (HV.out.below HB1.out) (by omega) (by omega)).mono ?_; rintro e w' ⟨rfl, rfl⟩)
        go_roundg g
        case measure => omega
        case rel => exact ⟨k + 1, by omega, by go_num, HB1.out, rf_next HRo.out (by unfold rb; rw [c1]; rfl)⟩
      | true =>
        have hx2 : (wr.setCell ⟨w.heap.size, k, none⟩ (.int .u8 48)).cell? ⟨w.heap.size, k, none⟩ = some (.int .u8 48) := by
          have := (HRo.out.set k (.int .u8 48)).cell (i := k) (by omega)
          rw [this, if_pos rfl]
        have hf2 : (wr.setCell ⟨w.heap.size, k, none⟩ (.int .u8 48)).frozen? ⟨w.heap.size, k, none⟩ = false := (HRo.out.set k (.int .u8 48)).frozen k
        go_wp2_with (go_at_call 22; refine (up_any _ up _ _ w.heap.size _ (HV.out.below HB1.out) (by omega) (by omega)).mono ?_; rintro e w' ⟨rfl, rfl⟩)
        go_roundg g
        case measure => omega
        case rel => exact ⟨k + 1, by omega, by go_num, HB1.out.setCell (p := ⟨w.heap.size, k, none⟩) (Nat.le_refl _) _, rf_next2 HRo.out (by unfold rb; rw [c1]; rfl)⟩
end Go.Proofs.Ytdgnogkdiakjoaa
