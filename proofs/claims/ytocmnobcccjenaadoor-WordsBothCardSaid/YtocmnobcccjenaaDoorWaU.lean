/- shown: some calls at given inputs. -/
import Derived.Test.YtocmnobcccjenaaDoorWaT
import Derived.Test.YtocmnobcccjenaaDoorWaO
import Derived.Test.YtocmnobcccjenaaDoorWaL
import Derived.Test.YtocmnobcccjenaaDoorWaC
namespace Go.Proofs.YtocmnobcccjenaaDoor
open Go.RowKit

theorem itoa_1 (n : Int) (h0 : 0 ≤ n) (h1 : n ≤ 9) : Lib.itoa n = [UInt8.ofNat (48 + n).toNat] := by
  have := itoa_one n h0 h1
  have h := congrArg Array.toList this
  simpa using h.symm
def s1 : List UInt8 := [103, 101, 116, 32, 47, 32, 34, 97, 32, 98, 34]
def f3 : List Fd := [([103, 101, 116], false), ([47], false), ([97, 32, 98], true)]
theorem v_spl : splE s1 = 0 ∧ splV s1 = f3 := by decide +kernel
theorem v_int : intV [45, 49, 50] (-20) 20 = -12 ∧ intE [45, 49, 50] (-20) 20 = 0 := by decide +kernel
theorem v_chk : chkE [1, 2, 3, 5, 8, 9] = 0 := by decide +kernel
theorem v_list : listV [1, 2, 3, 5, 8, 9] = [49, 45, 51, 44, 53, 44, 56, 45, 57] := by
  unfold listV
  rw [if_pos v_chk, if_neg (by simp)]
  have h1 : partsL 7 [1, 2, 3, 5, 8, 9] = [Lib.itoa 1 ++ (45 :: Lib.itoa 3), Lib.itoa 5 ++ [], Lib.itoa 8 ++ (45 :: Lib.itoa 9)] := by rfl
  show Lib.join (partsL 7 [1, 2, 3, 5, 8, 9]) [44] = _
  rw [h1, itoa_1 1 (by omega) (by omega), itoa_1 3 (by omega) (by omega), itoa_1 5 (by omega) (by omega), itoa_1 8 (by omega) (by omega), itoa_1 9 (by omega) (by omega)]
  decide +kernel
theorem v_unq : unqV [34, 97, 92, 110, 92, 120, 48, 48, 92, 34, 34] = [97, 10, 0, 34] ∧ unqE [34, 97, 92, 110, 92, 120, 48, 48, 92, 34, 34] = 0 := by decide +kernel
theorem v_name : nameB [119, 101, 98, 45, 49] = true := by decide +kernel

theorem byt_lit (l : List UInt8) : byt ⟨l.toArray⟩ = l := byt_mk l
theorem c_spl (w : World) (hw : Lay w) : Calls Tryd.prog 9 #[.string ⟨#[103, 101, 116, 32, 47, 32, 34, 97, 32, 98, 34]⟩] w fun e w' => ∃ v, e = .returned (.tuple #[v, .int .i64 0]) ∧ Fls w' w.heap.size v f3 ∧ Below w.heap.size w w' := by
  have := split_any ⟨s1.toArray⟩ w hw (by decide)
  rw [byt_lit, v_spl.1, v_spl.2] at this
  exact this
theorem c_int (w : World) (hw : Lay w) : Calls Tryd.prog 10 #[.string ⟨#[45, 49, 50]⟩, .int .i64 (-20), .int .i64 20] w fun e w' => e = .returned (.tuple #[.int .i64 (-12), .int .i64 0]) ∧ Below w.heap.size w w' := by
  have := int_any ⟨([45, 49, 50] : List UInt8).toArray⟩ (-20) 20 w hw (by decide) (by omega) (by omega)
  rw [byt_lit, v_int.1, v_int.2] at this
  exact this
theorem c_list (w : World) (hw : Lay w) (v : Value) (hv : IntsB w.heap.size w v [1, 2, 3, 5, 8, 9]) : Calls Tryd.prog 11 #[v] w fun e w' => e = .returned (.tuple #[.string ⟨#[49, 45, 51, 44, 53, 44, 56, 45, 57]⟩, .int .i64 0]) ∧ Below w.heap.size w w' := by
  have := list_any v _ w hw hv
  rw [v_list, v_chk] at this
  exact this
theorem c_unq (w : World) (hw : Lay w) : Calls Tryd.prog 12 #[.string ⟨#[34, 97, 92, 110, 92, 120, 48, 48, 92, 34, 34]⟩] w fun e w' => e = .returned (.tuple #[.string ⟨#[97, 10, 0, 34]⟩, .int .i64 0]) ∧ Below w.heap.size w w' := by
  have := unquote_any ⟨([34, 97, 92, 110, 92, 120, 48, 48, 92, 34, 34] : List UInt8).toArray⟩ w hw (by decide)
  rw [byt_lit, v_unq.1, v_unq.2] at this
  exact this
theorem c_name (w : World) : Calls Tryd.prog 14 #[.string ⟨#[119, 101, 98, 45, 49]⟩] w fun e w' => e = .returned (.bool true) ∧ w = w' := by
  have := name_any ⟨([119, 101, 98, 45, 49] : List UInt8).toArray⟩ w (by decide)
  rw [byt_lit, v_name] at this
  exact this
theorem c_same (w : World) (v u : Value) (hv : FldB w.heap.size w v f3) (hu : FldB w.heap.size w u f3) : Calls Tryd.prog 13 #[v, u] w fun e w' => e = .returned (.bool true) ∧ Below w.heap.size w w' := by
  have := same_any v u f3 f3 w hv hu (by decide) (by decide)
  rw [decide_eq_true rfl] at this
  exact this
theorem ints6 (w : World) (t : TypeId) : IntsB (w.alloc (.cells #[.int .i64 1, .int .i64 2, .int .i64 3, .int .i64 5, .int .i64 8, .int .i64 9] t)).heap.size (w.alloc (.cells #[.int .i64 1, .int .i64 2, .int .i64 3, .int .i64 5, .int .i64 8, .int .i64 9] t)) (.slice (some ⟨w.heap.size, 0, none⟩) 6 6) [1, 2, 3, 5, 8, 9] := by
  refine ⟨_, 6, rfl, by simp, by omega, fun _ => ⟨w.heap.size, 0, rfl, by simp, fun j hj => ?_⟩⟩
  rw [Nat.zero_add, cell_of_block (World.alloc_heap_new w _) j]
  simp at hj
  rcases (show j = 0 ∨ j = 1 ∨ j = 2 ∨ j = 3 ∨ j = 4 ∨ j = 5 by omega) with rfl | rfl | rfl | rfl | rfl | rfl <;> rfl
theorem flds3 (w : World) (t : TypeId) : FldB (w.alloc (.cells #[.string ⟨#[103, 101, 116]⟩, .bool false, .string ⟨#[47]⟩, .bool false, .string ⟨#[97, 32, 98]⟩, .bool true] t)).heap.size (w.alloc (.cells #[.string ⟨#[103, 101, 116]⟩, .bool false, .string ⟨#[47]⟩, .bool false, .string ⟨#[97, 32, 98]⟩, .bool true] t)) (.slice (some ⟨w.heap.size, 0, none⟩) 3 3) f3 := by
  refine ⟨_, 3, rfl, by simp [f3], fun _ => ⟨w.heap.size, 0, rfl, by simp, fun j hj => ?_⟩⟩
  rw [Nat.zero_add, cell_of_block (World.alloc_heap_new w _), cell_of_block (World.alloc_heap_new w _)]
  simp [f3] at hj
  rcases (show j = 0 ∨ j = 1 ∨ j = 2 by omega) with rfl | rfl | rfl <;> exact ⟨rfl, rfl⟩
theorem fld_below {w w' : World} {v : Value} {l : List Fd} (h : FldB w.heap.size w v l) (hb : Below w.heap.size w w') : FldB w'.heap.size w' v l := by
  obtain ⟨a, cap, hv, hc, h⟩ := h
  refine ⟨a, cap, hv, hc, fun hn => ?_⟩
  obtain ⟨b, off, ha, hlt, hcell⟩ := h hn
  exact ⟨b, off, ha, Nat.lt_of_lt_of_le hlt hb.size, fun j hj => ⟨(hb.cell (p := ⟨b, off + j * 2, none⟩) hlt).trans (hcell j hj).1, (hb.cell (p := ⟨b, off + j * 2 + 1, none⟩) hlt).trans (hcell j hj).2⟩⟩

set_option maxRecDepth 100000 in
set_option maxHeartbeats 4000000 in
theorem shown_any (w : World) (hw : Lay w) : Calls Tryd.prog 6 #[] w fun e w' => e = .returned (.bool true) ∧ Below w.heap.size w w' := by
  go_enter Tryd.func6, Tryd.ntmps6
  go_wp2_with fail
  refine (c_spl w hw).mono ?_
  rintro e w1 ⟨v, rfl, hF, hb1⟩
  obtain ⟨va, vn, vc, rfl⟩ := own_slice hF
  have hL1 := hw.next hb1
  go_wp2_with fail
  refine (c_int _ hL1).mono ?_
  rintro e w2 ⟨rfl, hb2⟩
  have hL2 := hL1.next hb2
  go_wp2_with fail
  refine (c_list _ (hL2.alloc _) _ (ints6 _ _)).mono ?_
  rintro e w3 ⟨rfl, hb3⟩
  have hL3 := (hL2.alloc (.cells #[.int .i64 1, .int .i64 2, .int .i64 3, .int .i64 5, .int .i64 8, .int .i64 9] 3)).next hb3
  go_wp2_with fail
  refine (c_unq _ hL3).mono ?_
  rintro e w4 ⟨rfl, hb4⟩
  have hF4 := fld_below (fld_below (fld_below (fld_below (fld_below hF.fld hb2) ((Below.refl _ w2).alloc (Nat.le_refl _) (.cells #[.int .i64 1, .int .i64 2, .int .i64 3, .int .i64 5, .int .i64 8, .int .i64 9] 3))) hb3) hb4) ((Below.refl _ w4).alloc (Nat.le_refl _) (.cells #[.string ⟨#[103, 101, 116]⟩, .bool false, .string ⟨#[47]⟩, .bool false, .string ⟨#[97, 32, 98]⟩, .bool true] 30))
  go_wp2_with fail
  refine (c_same _ _ _ hF4 (flds3 _ _)).mono ?_
  rintro e w5 ⟨rfl, hb5⟩
  have HB : Hid (Below w.heap.size w w5) := by
    have h2 := hb1.size
    have h3 := hb2.size
    have h4 := hb3.size
    have h5 := hb4.size
    simp at h4
    refine ((((((hb1.trans (hb2.mono h2)).alloc (by omega) _).trans (hb3.mono (by simp; omega))).trans (hb4.mono (by omega))).alloc (by omega) _).trans (hb5.mono (by simp; omega)))
  clear hF4 hb1 hb2 hb3 hb4 hb5 hF hL1 hL2 hL3
  go_wp2_with fail
  refine (c_name _).mono ?_
  rintro e w6 ⟨rfl, rfl⟩
  go_wp2_with fail
  go_ret
  exact ⟨rfl, HB.out⟩
end Go.Proofs.YtocmnobcccjenaaDoor
