/- letterOf, readHex, readByte. -/
import Derived.Test.YtocmnobcccjenaaDoorLay
import Derived.Test.YtocmnobcccjenaaDoorShelf
import Derived.Test.YtocmnobcccjenaaDoorWaB
import Derived.Laws.Rows
namespace Go.Proofs.YtocmnobcccjenaaDoor
open Go.RowKit

theorem escIx0 (w : World) : (Instr.index 88 (.agg escV) (.int .i64 0)).run Tryd.prog w = .ok (.agg #[.int .u8 34, .int .u8 34]) w := by kernel_rfl
theorem escIx1 (w : World) : (Instr.index 88 (.agg escV) (.int .i64 1)).run Tryd.prog w = .ok (.agg #[.int .u8 92, .int .u8 92]) w := by kernel_rfl
theorem escIx2 (w : World) : (Instr.index 88 (.agg escV) (.int .i64 2)).run Tryd.prog w = .ok (.agg #[.int .u8 10, .int .u8 110]) w := by kernel_rfl
theorem escIx3 (w : World) : (Instr.index 88 (.agg escV) (.int .i64 3)).run Tryd.prog w = .ok (.agg #[.int .u8 13, .int .u8 114]) w := by kernel_rfl
theorem escIx4 (w : World) : (Instr.index 88 (.agg escV) (.int .i64 4)).run Tryd.prog w = .ok (.agg #[.int .u8 9, .int .u8 116]) w := by kernel_rfl
def escU : TypeDesc := .array 5 87

theorem esc113 : Tryd.prog.underlying 88 = some escU := by kernel_rfl
theorem esc113s : (Tryd.prog.info? 88).map (·.size) = some escV.size := by kernel_rfl
/-- The letter that stands for a byte after a backslash (0: none). -/
def escL (c : Int) : Int := if c = 34 then 34 else if c = 92 then 92 else if c = 10 then 110 else if c = 13 then 114 else if c = 9 then 116 else 0
def escB (c : Int) : Bool := decide (c = 34 ∨ c = 92 ∨ c = 10 ∨ c = 13 ∨ c = 9)

set_option maxHeartbeats 1000000 in
theorem letterOf_any (c : Int) (w : World) (hw : Lay w) :
    Calls Tryd.prog 48 #[.int .u8 c] w fun e w' => e = .returned (.tuple #[.int .u8 (escL c), .bool (escB c)]) ∧ Below w.heap.size w w' := by
  obtain ⟨t, z, hesc⟩ := hw.esc
  have i0 := escIx0
  have i1 := escIx1
  have i2 := escIx2
  have i3 := escIx3
  have i4 := escIx4
  go_enter Tryd.func48, Tryd.ntmps48
  go_wp2_with (refine wpList_load_row rfl 88 (.global 0) rfl 0 rfl t escV z escU hesc esc113 rfl esc113s ?_)
  go_loopw [7] (fun i wr => ∃ k : Nat, k ≤ 5 ∧ i = .int .i64 k ∧ Below w.heap.size w wr ∧ Hid (∀ x ∈ ([34, 92, 10, 13, 9] : List Int).take k, c ≠ x)) (fun i _ => 5 - (intOf i).toNat)
  case atStart => exact ⟨0, by omega, rfl, Below.refl _ _, by simp [Hid]⟩
  case round =>
    obtain ⟨k, hk, rfl, hb, hq⟩ := hrel
    have hsz := hb.size
    rcases (show k = 0 ∨ k = 1 ∨ k = 2 ∨ k = 3 ∨ k = 4 ∨ k = 5 by omega) with rfl | rfl | rfl | rfl | rfl | rfl
    --CASES
    · go_wp2
      · have h : ((34 : Int) == c) = true := by assumption
        have hc : 34 = c := by simpa using h
        go_ret2
        exact ⟨ret_two (by rw [← hc]; rfl) (by rw [← hc]; rfl), hb.alloc hsz _⟩
      · have h : ((34 : Int) == c) = false := by assumption
        have hc : c ≠ 34 := by intro e; rw [e] at h; simp at h
        go_roundw
        case rel => exact ⟨1, by omega, rfl, hb.alloc hsz _, by unfold Hid at hq ⊢; simp at hq ⊢; omega⟩
        case measure => simp [intOf]
    · go_wp2
      · have h : ((92 : Int) == c) = true := by assumption
        have hc : 92 = c := by simpa using h
        go_ret2
        exact ⟨ret_two (by rw [← hc]; rfl) (by rw [← hc]; rfl), hb.alloc hsz _⟩
      · have h : ((92 : Int) == c) = false := by assumption
        have hc : c ≠ 92 := by intro e; rw [e] at h; simp at h
        go_roundw
        case rel => exact ⟨2, by omega, rfl, hb.alloc hsz _, by unfold Hid at hq ⊢; simp at hq ⊢; omega⟩
        case measure => simp [intOf]
    · go_wp2
      · have h : ((10 : Int) == c) = true := by assumption
        have hc : 10 = c := by simpa using h
        go_ret2
        exact ⟨ret_two (by rw [← hc]; rfl) (by rw [← hc]; rfl), hb.alloc hsz _⟩
      · have h : ((10 : Int) == c) = false := by assumption
        have hc : c ≠ 10 := by intro e; rw [e] at h; simp at h
        go_roundw
        case rel => exact ⟨3, by omega, rfl, hb.alloc hsz _, by unfold Hid at hq ⊢; simp at hq ⊢; omega⟩
        case measure => simp [intOf]
    · go_wp2
      · have h : ((13 : Int) == c) = true := by assumption
        have hc : 13 = c := by simpa using h
        go_ret2
        exact ⟨ret_two (by rw [← hc]; rfl) (by rw [← hc]; rfl), hb.alloc hsz _⟩
      · have h : ((13 : Int) == c) = false := by assumption
        have hc : c ≠ 13 := by intro e; rw [e] at h; simp at h
        go_roundw
        case rel => exact ⟨4, by omega, rfl, hb.alloc hsz _, by unfold Hid at hq ⊢; simp at hq ⊢; omega⟩
        case measure => simp [intOf]
    · go_wp2
      · have h : ((9 : Int) == c) = true := by assumption
        have hc : 9 = c := by simpa using h
        go_ret2
        exact ⟨ret_two (by rw [← hc]; rfl) (by rw [← hc]; rfl), hb.alloc hsz _⟩
      · have h : ((9 : Int) == c) = false := by assumption
        have hc : c ≠ 9 := by intro e; rw [e] at h; simp at h
        go_roundw
        case rel => exact ⟨5, by omega, rfl, hb.alloc hsz _, by unfold Hid at hq ⊢; simp at hq ⊢; omega⟩
        case measure => simp [intOf]
    · go_wp2
      go_ret2
      unfold Hid at hq
      simp at hq
      exact ⟨ret_two (by unfold escL; rw [if_neg (by omega), if_neg (by omega), if_neg (by omega), if_neg (by omega), if_neg (by omega)]; rfl) (by unfold escB; rw [decide_eq_false (by omega)]; rfl), hb⟩
end Go.Proofs.YtocmnobcccjenaaDoor
