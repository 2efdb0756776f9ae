/- Class. -/
import Derived.Test.YtomffjaeafcpdaaDoorRuP
import Derived.Test.YtomffjaeafcpdaaDoorRuD
import Derived.Laws.Rows
namespace Go.Proofs.YtomffjaeafcpdaaDoor
open Go.RowKit

def clsF : List (List UInt8) → Nat → Int → Nat
  | [], k, _ => k
  | l :: ls, k, r => if hasB l r = true then k else clsF ls (k + 1) r
def clsV (r : Int) : Nat := clsF memL 0 r
theorem clsF_yes (k : Nat) (r : Int) (l : List UInt8) (h : memL[k]? = some l) (hb : hasB l r = true) : clsF (memL.drop k) k r = k := by
  obtain ⟨hk, e⟩ := List.getElem?_eq_some_iff.1 h
  rw [List.drop_eq_getElem_cons hk, e]
  simp only [clsF, hb, if_true]
theorem clsF_no (k : Nat) (r : Int) (l : List UInt8) (h : memL[k]? = some l) (hb : hasB l r = false) : clsF (memL.drop k) k r = clsF (memL.drop (k + 1)) (k + 1) r := by
  obtain ⟨hk, e⟩ := List.getElem?_eq_some_iff.1 h
  rw [List.drop_eq_getElem_cons hk, e]
  simp [clsF, hb]

set_option maxHeartbeats 400000 in
theorem class_bad (r : Int) (w : World) (hr : isR r = false) :
    Calls Tryd.prog 11 #[.int .i64 r] w fun e w' => e = .returned (.tuple #[.int .i64 0, .int .i64 7]) ∧ w = w' := by
  go_enter Tryd.func11, Tryd.ntmps11
  go_wp2_with (go_at_call 33; refine (isRune_any _ _).mono ?_; rintro e w' ⟨rfl, rfl⟩)
  go_ret2
  exact ⟨rfl, rfl⟩

theorem memL_ascii : ∀ l ∈ memL, ∀ b ∈ l, b.toNat < 128 := by decide +kernel
def memV : Array Value := (memL.map fun l => Value.string ⟨l.toArray⟩).toArray
theorem memIx0 (w : World) : (Instr.index 55 (.agg memV) (.int .i64 0)).run Tryd.prog w = .ok (.string ⟨#[]⟩) w := by kernel_rfl
theorem memIx1 (w : World) : (Instr.index 55 (.agg memV) (.int .i64 1)).run Tryd.prog w = .ok (.string ⟨#[32]⟩) w := by kernel_rfl
theorem memIx2 (w : World) : (Instr.index 55 (.agg memV) (.int .i64 2)).run Tryd.prog w = .ok (.string ⟨#[10]⟩) w := by kernel_rfl
theorem memIx3 (w : World) : (Instr.index 55 (.agg memV) (.int .i64 3)).run Tryd.prog w = .ok (.string ⟨#[40, 91]⟩) w := by kernel_rfl
theorem memIx4 (w : World) : (Instr.index 55 (.agg memV) (.int .i64 4)).run Tryd.prog w = .ok (.string ⟨#[41, 93]⟩) w := by kernel_rfl
theorem memIx5 (w : World) : (Instr.index 55 (.agg memV) (.int .i64 5)).run Tryd.prog w = .ok (.string ⟨#[34]⟩) w := by kernel_rfl
theorem memIx6 (w : World) : (Instr.index 55 (.agg memV) (.int .i64 6)).run Tryd.prog w = .ok (.string ⟨#[48, 49, 50, 51, 52, 53, 54, 55, 56, 57]⟩) w := by kernel_rfl
theorem memIx7 (w : World) : (Instr.index 55 (.agg memV) (.int .i64 7)).run Tryd.prog w = .ok (.string ⟨#[45]⟩) w := by kernel_rfl
theorem memIx8 (w : World) : (Instr.index 55 (.agg memV) (.int .i64 8)).run Tryd.prog w = .ok (.string ⟨#[97, 98, 99, 100, 101, 102, 103, 104, 105, 106, 107, 108, 109, 110, 111, 112, 113, 114, 115, 116, 117, 118, 119, 120, 121, 122]⟩) w := by kernel_rfl
theorem memIx9 (w : World) : (Instr.index 55 (.agg memV) (.int .i64 9)).run Tryd.prog w = .ok (.string ⟨#[60, 61]⟩) w := by kernel_rfl
def memU : TypeDesc := .array 10 9
theorem mem50 : Tryd.prog.underlying 55 = some memU := by kernel_rfl
theorem mem50s : (Tryd.prog.info? 55).map (·.size) = some memV.size := by kernel_rfl

set_option maxRecDepth 100000 in
set_option maxHeartbeats 4000000 in
theorem class_ok (r : Int) (w : World) (hw : Lay w) (hr : isR r = true) :
    Calls Tryd.prog 11 #[.int .i64 r] w fun e w' => e = .returned (.tuple #[.int .i64 ((clsV r : Nat) : Int), .int .i64 0]) ∧ Below w.heap.size w w' := by
  obtain ⟨t, z, hm0⟩ := hw.mems
  have hm : w.heap[0]? = some (.cells memV t z) := hm0
  clear hm0
  have hr0 : 0 ≤ r ∧ r ≤ 1114111 := by simp [isR] at hr; omega
  obtain ⟨hr1, hr2⟩ := hr0
  have HC : Hid (∀ l ∈ memL, ∀ w, Calls Tryd.prog 36 #[.string ⟨l.toArray⟩, .int .i32 r] w fun e w' => e = .returned (.bool (hasB l r)) ∧ Below w.heap.size w w') :=
    fun l hl w => contains_any l (memL_ascii l hl) r hr w
  go_enter Tryd.func11, Tryd.ntmps11
  go_wp2_with (first
    | (go_at_call 33; refine (isRune_any _ _).mono ?_; rintro e w' ⟨rfl, rfl⟩)
    | (refine wpList_load_row rfl 55 (.global 0) rfl 0 rfl t memV z memU hm mem50 rfl mem50s ?_))
  go_loopw [4, 5, 10] (fun _ _ i wr => ∃ k : Nat, k ≤ 10 ∧ i = .int .i64 k ∧ Hid (clsV r = clsF (memL.drop k) k r) ∧ Below w.heap.size w wr) (fun _ _ i _ => 10 - (intOf i).toNat)
  case atStart => exact ⟨0, by omega, rfl, rfl, Below.refl _ _⟩
  case round =>
    obtain ⟨k, hk, rfl, hq, hb⟩ := hrel
    have hsz := hb.size
    clear hm hw
    rcases (show k = 0 ∨ k = 1 ∨ k = 2 ∨ k = 3 ∨ k = 4 ∨ k = 5 ∨ k = 6 ∨ k = 7 ∨ k = 8 ∨ k = 9 ∨ k = 10 by omega) with rfl | rfl | rfl | rfl | rfl | rfl | rfl | rfl | rfl | rfl | rfl
    · have i0 := memIx0
      have HL := Lib.hid (HC.out [] (by decide))
      cases hh : hasB [] r
      · have HH := Lib.hid hh
        rw [hh] at HL
        clear hh
        go_wp2_with (go_at_call 36; refine (HL.out _).mono ?_; rintro e w2 ⟨rfl, hb2⟩)
        go_roundw
        case rel => exact ⟨1, by omega, rfl, hq.out.trans (clsF_no 0 r _ rfl HH.out), hb.trans (hb2.mono hsz)⟩
        case measure => simp [intOf]
      · have HH := Lib.hid hh
        rw [hh] at HL
        clear hh
        go_wp2_with (go_at_call 36; refine (HL.out _).mono ?_; rintro e w2 ⟨rfl, hb2⟩)
        go_ret2
        exact ⟨by rw [hq.out, clsF_yes 0 r _ rfl HH.out]; rfl, hb.trans (hb2.mono hsz)⟩
    · have i1 := memIx1
      have HL := Lib.hid (HC.out [32] (by decide))
      cases hh : hasB [32] r
      · have HH := Lib.hid hh
        rw [hh] at HL
        clear hh
        go_wp2_with (go_at_call 36; refine (HL.out _).mono ?_; rintro e w2 ⟨rfl, hb2⟩)
        go_roundw
        case rel => exact ⟨2, by omega, rfl, hq.out.trans (clsF_no 1 r _ rfl HH.out), hb.trans (hb2.mono hsz)⟩
        case measure => simp [intOf]
      · have HH := Lib.hid hh
        rw [hh] at HL
        clear hh
        go_wp2_with (go_at_call 36; refine (HL.out _).mono ?_; rintro e w2 ⟨rfl, hb2⟩)
        go_ret2
        exact ⟨by rw [hq.out, clsF_yes 1 r _ rfl HH.out]; rfl, hb.trans (hb2.mono hsz)⟩
    · have i2 := memIx2
      have HL := Lib.hid (HC.out [10] (by decide))
      cases hh : hasB [10] r
      · have HH := Lib.hid hh
        rw [hh] at HL
        clear hh
        go_wp2_with (go_at_call 36; refine (HL.out _).mono ?_; rintro e w2 ⟨rfl, hb2⟩)
        go_roundw
        case rel => exact ⟨3, by omega, rfl, hq.out.trans (clsF_no 2 r _ rfl HH.out), hb.trans (hb2.mono hsz)⟩
        case measure => simp [intOf]
      · have HH := Lib.hid hh
        rw [hh] at HL
        clear hh
        go_wp2_with (go_at_call 36; refine (HL.out _).mono ?_; rintro e w2 ⟨rfl, hb2⟩)
        go_ret2
        exact ⟨by rw [hq.out, clsF_yes 2 r _ rfl HH.out]; rfl, hb.trans (hb2.mono hsz)⟩
    · have i3 := memIx3
      have HL := Lib.hid (HC.out [40, 91] (by decide))
      cases hh : hasB [40, 91] r
      · have HH := Lib.hid hh
        rw [hh] at HL
        clear hh
        go_wp2_with (go_at_call 36; refine (HL.out _).mono ?_; rintro e w2 ⟨rfl, hb2⟩)
        go_roundw
        case rel => exact ⟨4, by omega, rfl, hq.out.trans (clsF_no 3 r _ rfl HH.out), hb.trans (hb2.mono hsz)⟩
        case measure => simp [intOf]
      · have HH := Lib.hid hh
        rw [hh] at HL
        clear hh
        go_wp2_with (go_at_call 36; refine (HL.out _).mono ?_; rintro e w2 ⟨rfl, hb2⟩)
        go_ret2
        exact ⟨by rw [hq.out, clsF_yes 3 r _ rfl HH.out]; rfl, hb.trans (hb2.mono hsz)⟩
    · have i4 := memIx4
      have HL := Lib.hid (HC.out [41, 93] (by decide))
      cases hh : hasB [41, 93] r
      · have HH := Lib.hid hh
        rw [hh] at HL
        clear hh
        go_wp2_with (go_at_call 36; refine (HL.out _).mono ?_; rintro e w2 ⟨rfl, hb2⟩)
        go_roundw
        case rel => exact ⟨5, by omega, rfl, hq.out.trans (clsF_no 4 r _ rfl HH.out), hb.trans (hb2.mono hsz)⟩
        case measure => simp [intOf]
      · have HH := Lib.hid hh
        rw [hh] at HL
        clear hh
        go_wp2_with (go_at_call 36; refine (HL.out _).mono ?_; rintro e w2 ⟨rfl, hb2⟩)
        go_ret2
        exact ⟨by rw [hq.out, clsF_yes 4 r _ rfl HH.out]; rfl, hb.trans (hb2.mono hsz)⟩
    · have i5 := memIx5
      have HL := Lib.hid (HC.out [34] (by decide))
      cases hh : hasB [34] r
      · have HH := Lib.hid hh
        rw [hh] at HL
        clear hh
        go_wp2_with (go_at_call 36; refine (HL.out _).mono ?_; rintro e w2 ⟨rfl, hb2⟩)
        go_roundw
        case rel => exact ⟨6, by omega, rfl, hq.out.trans (clsF_no 5 r _ rfl HH.out), hb.trans (hb2.mono hsz)⟩
        case measure => simp [intOf]
      · have HH := Lib.hid hh
        rw [hh] at HL
        clear hh
        go_wp2_with (go_at_call 36; refine (HL.out _).mono ?_; rintro e w2 ⟨rfl, hb2⟩)
        go_ret2
        exact ⟨by rw [hq.out, clsF_yes 5 r _ rfl HH.out]; rfl, hb.trans (hb2.mono hsz)⟩
    · have i6 := memIx6
      have HL := Lib.hid (HC.out [48, 49, 50, 51, 52, 53, 54, 55, 56, 57] (by decide))
      cases hh : hasB [48, 49, 50, 51, 52, 53, 54, 55, 56, 57] r
      · have HH := Lib.hid hh
        rw [hh] at HL
        clear hh
        go_wp2_with (go_at_call 36; refine (HL.out _).mono ?_; rintro e w2 ⟨rfl, hb2⟩)
        go_roundw
        case rel => exact ⟨7, by omega, rfl, hq.out.trans (clsF_no 6 r _ rfl HH.out), hb.trans (hb2.mono hsz)⟩
        case measure => simp [intOf]
      · have HH := Lib.hid hh
        rw [hh] at HL
        clear hh
        go_wp2_with (go_at_call 36; refine (HL.out _).mono ?_; rintro e w2 ⟨rfl, hb2⟩)
        go_ret2
        exact ⟨by rw [hq.out, clsF_yes 6 r _ rfl HH.out]; rfl, hb.trans (hb2.mono hsz)⟩
    · have i7 := memIx7
      have HL := Lib.hid (HC.out [45] (by decide))
      cases hh : hasB [45] r
      · have HH := Lib.hid hh
        rw [hh] at HL
        clear hh
        go_wp2_with (go_at_call 36; refine (HL.out _).mono ?_; rintro e w2 ⟨rfl, hb2⟩)
        go_roundw
        case rel => exact ⟨8, by omega, rfl, hq.out.trans (clsF_no 7 r _ rfl HH.out), hb.trans (hb2.mono hsz)⟩
        case measure => simp [intOf]
      · have HH := Lib.hid hh
        rw [hh] at HL
        clear hh
        go_wp2_with (go_at_call 36; refine (HL.out _).mono ?_; rintro e w2 ⟨rfl, hb2⟩)
        go_ret2
        exact ⟨by rw [hq.out, clsF_yes 7 r _ rfl HH.out]; rfl, hb.trans (hb2.mono hsz)⟩
    · have i8 := memIx8
      have HL := Lib.hid (HC.out [97, 98, 99, 100, 101, 102, 103, 104, 105, 106, 107, 108, 109, 110, 111, 112, 113, 114, 115, 116, 117, 118, 119, 120, 121, 122] (by decide))
      cases hh : hasB [97, 98, 99, 100, 101, 102, 103, 104, 105, 106, 107, 108, 109, 110, 111, 112, 113, 114, 115, 116, 117, 118, 119, 120, 121, 122] r
      · have HH := Lib.hid hh
        rw [hh] at HL
        clear hh
        go_wp2_with (go_at_call 36; refine (HL.out _).mono ?_; rintro e w2 ⟨rfl, hb2⟩)
        go_roundw
        case rel => exact ⟨9, by omega, rfl, hq.out.trans (clsF_no 8 r _ rfl HH.out), hb.trans (hb2.mono hsz)⟩
        case measure => simp [intOf]
      · have HH := Lib.hid hh
        rw [hh] at HL
        clear hh
        go_wp2_with (go_at_call 36; refine (HL.out _).mono ?_; rintro e w2 ⟨rfl, hb2⟩)
        go_ret2
        exact ⟨by rw [hq.out, clsF_yes 8 r _ rfl HH.out]; rfl, hb.trans (hb2.mono hsz)⟩
    · have i9 := memIx9
      have HL := Lib.hid (HC.out [60, 61] (by decide))
      cases hh : hasB [60, 61] r
      · have HH := Lib.hid hh
        rw [hh] at HL
        clear hh
        go_wp2_with (go_at_call 36; refine (HL.out _).mono ?_; rintro e w2 ⟨rfl, hb2⟩)
        go_roundw
        case rel => exact ⟨10, by omega, rfl, hq.out.trans (clsF_no 9 r _ rfl HH.out), hb.trans (hb2.mono hsz)⟩
        case measure => simp [intOf]
      · have HH := Lib.hid hh
        rw [hh] at HL
        clear hh
        go_wp2_with (go_at_call 36; refine (HL.out _).mono ?_; rintro e w2 ⟨rfl, hb2⟩)
        go_ret2
        exact ⟨by rw [hq.out, clsF_yes 9 r _ rfl HH.out]; rfl, hb.trans (hb2.mono hsz)⟩
    · go_wp2
      go_ret2
      exact ⟨by rw [hq.out]; rfl, hb⟩
end Go.Proofs.YtomffjaeafcpdaaDoor
