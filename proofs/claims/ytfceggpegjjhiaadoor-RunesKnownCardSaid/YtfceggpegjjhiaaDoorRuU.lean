/- The law RunesKnown as a walk. -/
import Derived.Test.YtfceggpegjjhiaaDoorRuS
import Derived.Test.YtfceggpegjjhiaaDoorRuT
namespace Go.Proofs.YtfceggpegjjhiaaDoor
open Go.RowKit

theorem k_1 : enc 65 = [65] ∧ isR 65 = true ∧ enc 233 = [195, 169] ∧ isR 233 = true ∧ enc 128512 = [240, 159, 152, 128] ∧ isR 128512 = true ∧ isR 55296 = false ∧ isR 1114112 = false ∧ isR (-1) = false := by decide +kernel
theorem k_2 : decI [169] 0 = (0, 0, 6) ∧ decI [192, 128] 0 = (0, 0, 6) := by decide +kernel
theorem k_3 : chkA [97, 195, 169, 255] = 3 ∧ chkE [97, 195, 169, 255] = 6 := by decide +kernel
theorem k_4 : (runV [97, 195, 169]).length = 2 ∧ chkE [97, 195, 169] = 0 := by decide +kernel
theorem k_5 : onV [97, 195, 169] 2 = false ∧ bakE [97, 195, 169] 2 = 0 ∧ bakV [97, 195, 169] 2 = 1 := by decide +kernel

theorem c_e1 (w : World) (hw : Lay w) : Calls Tryd.prog 14 #[.int .i64 65] w fun e w' => ∃ v, e = .returned (.tuple #[v, .int .i64 0]) ∧ Bys w' w.heap.size v [65] ∧ Below w.heap.size w w' := by
  have := encode_ok 65 w hw k_1.2.1
  rw [k_1.1] at this
  exact this
theorem c_e2 (w : World) (hw : Lay w) : Calls Tryd.prog 14 #[.int .i64 233] w fun e w' => ∃ v, e = .returned (.tuple #[v, .int .i64 0]) ∧ Bys w' w.heap.size v [195, 169] ∧ Below w.heap.size w w' := by
  have := encode_ok 233 w hw k_1.2.2.2.1
  rw [k_1.2.2.1] at this
  exact this
theorem c_e3 (w : World) (hw : Lay w) : Calls Tryd.prog 14 #[.int .i64 128512] w fun e w' => ∃ v, e = .returned (.tuple #[v, .int .i64 0]) ∧ Bys w' w.heap.size v [240, 159, 152, 128] ∧ Below w.heap.size w w' := by
  have := encode_ok 128512 w hw k_1.2.2.2.2.2.1
  rw [k_1.2.2.2.2.1] at this
  exact this
theorem k_d1 (w : World) (hw : Lay w) : Calls Tryd.prog 12 #[.slice (some ⟨w.heap.size, 0, none⟩) 1 1, .int .i64 0] (w.alloc (.cells #[.int .u8 169] 5)) fun e w' => e = .returned (.tuple #[.int .i64 0, .int .i64 0, .int .i64 6]) ∧ Below (w.heap.size + 1) (w.alloc (.cells #[.int .u8 169] 5)) w' := by
  have := decode_any [169] _ 0 _ (hw.alloc _) (rd_new w [169] 5 (by decide))
  rw [k_2.1] at this
  refine this.mono fun e w' h => ⟨h.1, by have := h.2; simpa using this⟩
theorem k_d2 (w : World) (hw : Lay w) : Calls Tryd.prog 12 #[.slice (some ⟨w.heap.size, 0, none⟩) 2 2, .int .i64 0] (w.alloc (.cells #[.int .u8 192, .int .u8 128] 5)) fun e w' => e = .returned (.tuple #[.int .i64 0, .int .i64 0, .int .i64 6]) ∧ Below (w.heap.size + 1) (w.alloc (.cells #[.int .u8 192, .int .u8 128] 5)) w' := by
  have := decode_any [192, 128] _ 0 _ (hw.alloc _) (rd_new w [192, 128] 5 (by decide))
  rw [k_2.2] at this
  refine this.mono fun e w' h => ⟨h.1, by have := h.2; simpa using this⟩
theorem k_ch (w : World) (hw : Lay w) : Calls Tryd.prog 18 #[.slice (some ⟨w.heap.size, 0, none⟩) 4 4] (w.alloc (.cells #[.int .u8 97, .int .u8 195, .int .u8 169, .int .u8 255] 5)) fun e w' => e = .returned (.tuple #[.int .i64 3, .int .i64 6]) ∧ Below (w.heap.size + 1) (w.alloc (.cells #[.int .u8 97, .int .u8 195, .int .u8 169, .int .u8 255] 5)) w' := by
  have := check_any _ [97, 195, 169, 255] _ (hw.alloc _) (rd_new w [97, 195, 169, 255] 5 (by decide))
  rw [k_3.1, k_3.2] at this
  refine this.mono fun e w' h => ⟨h.1, by have := h.2; simpa using this⟩
theorem k_co (w : World) (hw : Lay w) : Calls Tryd.prog 20 #[.slice (some ⟨w.heap.size, 0, none⟩) 3 3] (w.alloc (.cells #[.int .u8 97, .int .u8 195, .int .u8 169] 5)) fun e w' => e = .returned (.tuple #[.int .i64 2, .int .i64 0]) ∧ Below (w.heap.size + 1) (w.alloc (.cells #[.int .u8 97, .int .u8 195, .int .u8 169] 5)) w' := by
  have := count_any _ [97, 195, 169] _ (hw.alloc _) (rd_new w [97, 195, 169] 5 (by decide))
  rw [k_4.1, k_4.2] at this
  refine this.mono fun e w' h => ⟨h.1, by have := h.2; simpa using this⟩
theorem k_on (w : World) (hw : Lay w) : Calls Tryd.prog 29 #[.slice (some ⟨w.heap.size, 0, none⟩) 3 3, .int .i64 2] (w.alloc (.cells #[.int .u8 97, .int .u8 195, .int .u8 169] 5)) fun e w' => e = .returned (.tuple #[.bool false, .int .i64 0]) ∧ Below (w.heap.size + 1) (w.alloc (.cells #[.int .u8 97, .int .u8 195, .int .u8 169] 5)) w' := by
  have := on_any _ [97, 195, 169] 2 _ (hw.alloc _) (rd_new w [97, 195, 169] 5 (by decide))
  rw [k_5.1, k_5.2.1] at this
  refine this.mono fun e w' h => ⟨h.1, by have := h.2; simpa using this⟩
theorem k_ba (w : World) (hw : Lay w) : Calls Tryd.prog 31 #[.slice (some ⟨w.heap.size, 0, none⟩) 3 3, .int .i64 2] (w.alloc (.cells #[.int .u8 97, .int .u8 195, .int .u8 169] 5)) fun e w' => e = .returned (.tuple #[.int .i64 1, .int .i64 0]) ∧ Below (w.heap.size + 1) (w.alloc (.cells #[.int .u8 97, .int .u8 195, .int .u8 169] 5)) w' := by
  have := back_any _ [97, 195, 169] 2 _ (hw.alloc _) (rd_new w [97, 195, 169] 5 (by decide))
  rw [k_5.2.2, k_5.2.1] at this
  refine this.mono fun e w' h => ⟨h.1, by have := h.2; simpa using this⟩

set_option maxRecDepth 100000 in
set_option maxHeartbeats 8000000 in
theorem lawKnown_any (w : World) (hw : Lay w) : Calls Tryd.prog 10 #[] w fun e w' => e = .returned (.bool true) ∧ Below w.heap.size w w' := by
  go_enter Tryd.func10, Tryd.ntmps10
  go_wp2_with fail
  refine (c_e1 w hw).mono ?_
  rintro e w1 ⟨va, rfl, hA, hb1⟩
  have hL1 := hw.next hb1
  go_wp2_with fail
  refine (c_e2 w1 hL1).mono ?_
  rintro e w2 ⟨vb, rfl, hB, hb2⟩
  have hL2 := hL1.next hb2
  go_wp2_with fail
  refine (c_e3 w2 hL2).mono ?_
  rintro e w3 ⟨vc, rfl, hC, hb3⟩
  have hL3 := hL2.next hb3
  have hs1 := hb1.size
  have hs2 := hb2.size
  have hs3 := hb3.size
  have hA3 : Bys w3 w.heap.size va [65] := own_below (own_below hA hb2) hb3
  have hB3 : Bys w3 w1.heap.size vb [195, 169] := own_below hB hb3
  have cva := conv_bys hA3
  have cvb := conv_bys hB3
  have cvc := conv_bys hC
  have H3 := Lib.hid ((hb1.trans (hb2.mono hs1)).trans (hb3.mono (by omega)))
  clear hA hB hA3 hB3 hC hL1 hL2 hb1 hb2 hb3
  go_wp2_with (go_at_call 14; refine (encode_bad _ _ (by decide)).mono ?_; rintro e w' ⟨rfl, rfl⟩)
  refine (k_d1 w3 hL3).mono ?_
  rintro e w4 ⟨rfl, hb4⟩
  have hb4' := ((Below.refl w3.heap.size w3).alloc (Nat.le_refl _) (.cells #[.int .u8 169] 5)).trans (hb4.mono (Nat.le_succ _))
  have hL4 := hL3.next hb4'
  have H4 := Lib.hid (H3.out.trans (hb4'.mono H3.out.size))
  clear hb4 hb4' hL3
  go_wp2_with fail
  refine (k_d2 w4 hL4).mono ?_
  rintro e w5 ⟨rfl, hb5⟩
  have hb5' := ((Below.refl w4.heap.size w4).alloc (Nat.le_refl _) (.cells #[.int .u8 192, .int .u8 128] 5)).trans (hb5.mono (Nat.le_succ _))
  have hL5 := hL4.next hb5'
  have H5 := Lib.hid (H4.out.trans (hb5'.mono H4.out.size))
  clear hb5 hb5' hL4
  go_wp2_with fail
  refine (k_ch w5 hL5).mono ?_
  rintro e w6 ⟨rfl, hb6⟩
  have hb6' := ((Below.refl w5.heap.size w5).alloc (Nat.le_refl _) (.cells #[.int .u8 97, .int .u8 195, .int .u8 169, .int .u8 255] 5)).trans (hb6.mono (Nat.le_succ _))
  have hL6 := hL5.next hb6'
  have H6 := Lib.hid (H5.out.trans (hb6'.mono H5.out.size))
  clear hb6 hb6' hL5
  go_wp2_with fail
  refine (k_co w6 hL6).mono ?_
  rintro e w7 ⟨rfl, hb7⟩
  have hb7' := ((Below.refl w6.heap.size w6).alloc (Nat.le_refl _) (.cells #[.int .u8 97, .int .u8 195, .int .u8 169] 5)).trans (hb7.mono (Nat.le_succ _))
  have hL7 := hL6.next hb7'
  have H7 := Lib.hid (H6.out.trans (hb7'.mono H6.out.size))
  clear hb7 hb7' hL6
  go_wp2_with fail
  refine (k_on w7 hL7).mono ?_
  rintro e w8 ⟨rfl, hb8⟩
  have hb8' := ((Below.refl w7.heap.size w7).alloc (Nat.le_refl _) (.cells #[.int .u8 97, .int .u8 195, .int .u8 169] 5)).trans (hb8.mono (Nat.le_succ _))
  have hL8 := hL7.next hb8'
  have H8 := Lib.hid (H7.out.trans (hb8'.mono H7.out.size))
  clear hb8 hb8' hL7
  go_wp2_with fail
  refine (k_ba w8 hL8).mono ?_
  rintro e w9 ⟨rfl, hb9⟩
  have hb9' := ((Below.refl w8.heap.size w8).alloc (Nat.le_refl _) (.cells #[.int .u8 97, .int .u8 195, .int .u8 169] 5)).trans (hb9.mono (Nat.le_succ _))
  have hL9 := hL8.next hb9'
  have H9 := Lib.hid (H8.out.trans (hb9'.mono H8.out.size))
  clear hb9 hb9' hL8
  go_wp2_with fail
  refine (awake_any w9 hL9).mono ?_
  rintro e w10 ⟨rfl, hb10⟩
  have HE := Lib.hid (H9.out.trans (hb10.mono H9.out.size))
  clear hb10 hL9
  go_wp2_with fail
  go_ret
  exact ⟨rfl, HE.out⟩
end Go.Proofs.YtfceggpegjjhiaaDoor
