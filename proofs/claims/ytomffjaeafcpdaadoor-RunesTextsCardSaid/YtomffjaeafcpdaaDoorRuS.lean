/- awake: some calls at given inputs. -/
import Derived.Test.YtomffjaeafcpdaaDoorRuR
import Derived.Test.YtomffjaeafcpdaaDoorRuO
import Derived.Test.YtomffjaeafcpdaaDoorRuQ
import Derived.Test.YtomffjaeafcpdaaDoorRuG
namespace Go.Proofs.YtomffjaeafcpdaaDoor
open Go.RowKit

theorem v_enc : enc 8364 = [226, 130, 172] ∧ isR 8364 = true := by decide +kernel
theorem v_d1 : decI [195, 169, 0] 0 = (233, 2, 0) := by decide +kernel
theorem v_d2 : decI [195] 0 = (0, 0, 370) := by decide +kernel
theorem v_d3 : decI [237, 160, 128] 0 = (0, 0, 6) := by decide +kernel
theorem v_st : chkE [97, 195, 169] = 0 ∧ staV [97, 195, 169] = [0, 1, 3] := by decide +kernel
theorem v_cl : clsV 91 = 3 ∧ isR 91 = true := by decide +kernel

/-- A new block of bytes. -/
theorem rd_new (w : World) (l : List UInt8) (t : TypeId) (hl : l.length ≤ 1000) : RdB (w.alloc (.cells (l.map fun c => Value.int .u8 (c.toNat : Int)).toArray t)).heap.size (w.alloc (.cells (l.map fun c => Value.int .u8 (c.toNat : Int)).toArray t)) (.slice (some ⟨w.heap.size, 0, none⟩) l.length l.length) l := by
  refine ⟨_, l.length, rfl, Nat.le_refl _, by omega, fun _ => ⟨w.heap.size, 0, rfl, by simp, fun j hj => ?_⟩⟩
  rw [Nat.zero_add, cell_of_block (World.alloc_heap_new w _) j]
  simp [List.getElem?_eq_getElem hj]
theorem rdi_new (w : World) (l : List Int) (t : TypeId) : RdI (w.alloc (.cells (l.map fun c => Value.int .i64 c).toArray t)).heap.size (w.alloc (.cells (l.map fun c => Value.int .i64 c).toArray t)) (.slice (some ⟨w.heap.size, 0, none⟩) l.length l.length) l := by
  refine ⟨_, l.length, rfl, Nat.le_refl _, fun _ => ⟨w.heap.size, 0, rfl, by simp, fun j hj => ?_⟩⟩
  rw [Nat.zero_add, cell_of_block (World.alloc_heap_new w _) j]
  simp [List.getElem?_eq_getElem hj]
theorem c_d1 (w : World) (hw : Lay w) : Calls Tryd.prog 7 #[.slice (some ⟨w.heap.size, 0, none⟩) 3 3, .int .i64 0] (w.alloc (.cells #[.int .u8 195, .int .u8 169, .int .u8 0] 5)) fun e w' => e = .returned (.tuple #[.int .i64 233, .int .i64 2, .int .i64 0]) ∧ Below (w.heap.size + 1) (w.alloc (.cells #[.int .u8 195, .int .u8 169, .int .u8 0] 5)) w' := by
  have := decode_any [195, 169, 0] _ 0 _ (hw.alloc _) (rd_new w [195, 169, 0] 5 (by decide))
  rw [v_d1] at this
  refine this.mono fun e w' h => ⟨h.1, by have := h.2; simpa using this⟩
theorem c_d2 (w : World) (hw : Lay w) : Calls Tryd.prog 7 #[.slice (some ⟨w.heap.size, 0, none⟩) 1 1, .int .i64 0] (w.alloc (.cells #[.int .u8 195] 5)) fun e w' => e = .returned (.tuple #[.int .i64 0, .int .i64 0, .int .i64 370]) ∧ Below (w.heap.size + 1) (w.alloc (.cells #[.int .u8 195] 5)) w' := by
  have := decode_any [195] _ 0 _ (hw.alloc _) (rd_new w [195] 5 (by decide))
  rw [v_d2] at this
  refine this.mono fun e w' h => ⟨h.1, by have := h.2; simpa using this⟩
theorem c_d3 (w : World) (hw : Lay w) : Calls Tryd.prog 7 #[.slice (some ⟨w.heap.size, 0, none⟩) 3 3, .int .i64 0] (w.alloc (.cells #[.int .u8 237, .int .u8 160, .int .u8 128] 5)) fun e w' => e = .returned (.tuple #[.int .i64 0, .int .i64 0, .int .i64 6]) ∧ Below (w.heap.size + 1) (w.alloc (.cells #[.int .u8 237, .int .u8 160, .int .u8 128] 5)) w' := by
  have := decode_any [237, 160, 128] _ 0 _ (hw.alloc _) (rd_new w [237, 160, 128] 5 (by decide))
  rw [v_d3] at this
  refine this.mono fun e w' h => ⟨h.1, by have := h.2; simpa using this⟩
theorem c_st (w : World) (hw : Lay w) : Calls Tryd.prog 22 #[.slice (some ⟨w.heap.size, 0, none⟩) 3 3] (w.alloc (.cells #[.int .u8 97, .int .u8 195, .int .u8 169] 5)) fun e w' => ∃ u, e = .returned (.tuple #[u, .int .i64 0]) ∧ Ins 3 w' (w.heap.size + 1) u [0, 1, 3] ∧ Below (w.heap.size + 1) (w.alloc (.cells #[.int .u8 97, .int .u8 195, .int .u8 169] 5)) w' := by
  have := starts_any _ [97, 195, 169] _ (hw.alloc _) (rd_new w [97, 195, 169] 5 (by decide))
  rw [v_st.1, v_st.2] at this
  refine this.mono fun e w' ⟨u, h1, h2, h3⟩ => ⟨u, h1, by simpa using h2, by simpa using h3⟩
theorem c_cl (w : World) (hw : Lay w) : Calls Tryd.prog 11 #[.int .i64 91] w fun e w' => e = .returned (.tuple #[.int .i64 3, .int .i64 0]) ∧ Below w.heap.size w w' := by
  have := class_ok 91 w hw v_cl.2
  rw [v_cl.1] at this
  exact this
theorem c_en (w : World) (hw : Lay w) : Calls Tryd.prog 9 #[.int .i64 8364] w fun e w' => ∃ v, e = .returned (.tuple #[v, .int .i64 0]) ∧ Bys w' w.heap.size v [226, 130, 172] ∧ Below w.heap.size w w' := by
  have := encode_ok 8364 w hw v_enc.2
  rw [v_enc.1] at this
  exact this
theorem c_si (w : World) (v u : Value) (hv : RdI w.heap.size w v [0, 1, 3]) (hu : RdI w.heap.size w u [0, 1, 3]) : Calls Tryd.prog 28 #[v, u] w fun e w' => e = .returned (.bool true) ∧ Below w.heap.size w w' := by
  have := sameInts_any v u [0, 1, 3] [0, 1, 3] w hv hu (by decide)
  rw [decide_eq_true rfl] at this
  exact this

set_option maxRecDepth 100000 in
set_option maxHeartbeats 4000000 in
theorem awake_any (w : World) (hw : Lay w) : Calls Tryd.prog 6 #[] w fun e w' => e = .returned (.bool true) ∧ Below w.heap.size w w' := by
  go_enter Tryd.func6, Tryd.ntmps6
  go_wp2_with fail
  refine (c_en w hw).mono ?_
  rintro e w1 ⟨va, rfl, hA, hb1⟩
  have hL1 := hw.next hb1
  go_wp2_with fail
  refine (c_d1 w1 hL1).mono ?_
  rintro e w2 ⟨rfl, hb2⟩
  have hb2' := ((Below.refl w1.heap.size w1).alloc (Nat.le_refl _) (.cells #[.int .u8 195, .int .u8 169, .int .u8 0] 5)).trans (hb2.mono (Nat.le_succ _))
  have hL2 := hL1.next hb2'
  go_wp2_with fail
  refine (c_d2 w2 hL2).mono ?_
  rintro e w3 ⟨rfl, hb3⟩
  have hb3' := ((Below.refl w2.heap.size w2).alloc (Nat.le_refl _) (.cells #[.int .u8 195] 5)).trans (hb3.mono (Nat.le_succ _))
  have hL3 := hL2.next hb3'
  go_wp2_with fail
  refine (c_d3 w3 hL3).mono ?_
  rintro e w4 ⟨rfl, hb4⟩
  have hb4' := ((Below.refl w3.heap.size w3).alloc (Nat.le_refl _) (.cells #[.int .u8 237, .int .u8 160, .int .u8 128] 5)).trans (hb4.mono (Nat.le_succ _))
  have hL4 := hL3.next hb4'
  go_wp2_with fail
  refine (c_st w4 hL4).mono ?_
  rintro e w5 ⟨u, rfl, hU, hb5⟩
  have hb5' := ((Below.refl w4.heap.size w4).alloc (Nat.le_refl _) (.cells #[.int .u8 97, .int .u8 195, .int .u8 169] 5)).trans (hb5.mono (Nat.le_succ _))
  have hL5 := hL4.next hb5'
  go_wp2_with fail
  refine (c_cl w5 hL5).mono ?_
  rintro e w6 ⟨rfl, hb6⟩
  have hs1 := hb1.size
  have hs2 := hb2'.size
  have hs3 := hb3'.size
  have hs4 := hb4'.size
  have hs5 := hb5'.size
  have hA6 : Bys w6 w.heap.size va [226, 130, 172] := own_below (own_below (own_below (own_below (own_below hA hb2') hb3') hb4') hb5') hb6
  have hU6 := (hU.rd).next hb6
  have hcv := conv_bys hA6
  have HB := Lib.hid (((((hb1.trans (hb2'.mono hs1)).trans (hb3'.mono (by omega))).trans (hb4'.mono (by omega))).trans (hb5'.mono (by omega))).trans (hb6.mono (by omega)))
  clear hL1 hL2 hL3 hL4 hL5 hb1 hb2 hb3 hb4 hb5 hb2' hb3' hb4' hb5' hA hU hA6
  go_wp2_with fail
  have hB7 := (Below.refl w6.heap.size w6).alloc (Nat.le_refl _) (.cells #[.int .i64 0, .int .i64 1, .int .i64 3] 3)
  refine (c_si _ _ _ (hU6.next hB7) (rdi_new w6 [0, 1, 3] 3)).mono ?_
  rintro e w7 ⟨rfl, hb7⟩
  have HC := Lib.hid ((HB.out.trans (hB7.mono HB.out.size)).trans (hb7.mono (Nat.le_trans HB.out.size hB7.size)))
  clear hB7 hb7 hU6 hcv
  go_wp2_with fail
  go_ret
  exact ⟨rfl, HC.out⟩
end Go.Proofs.YtomffjaeafcpdaaDoor
