/- The law ShapesKnown as a walk. -/
import Derived.Test.YtnojidecfmpdjaaDoorShO
namespace Go.Proofs.YtnojidecfmpdjaaDoor
open Go.RowKit

/-- What the law ShapesKnown keeps: its two arrays. -/
structure KN (w W : World) : Prop where
  bel : Below w.heap.size w W
  l : W.heap[w.heap.size]? = some (.cells #[.int .i64 1, .int .i64 5, .int .i64 1, .int .i64 2, .int .i64 21, .int .i64 20, .int .i64 1, .int .i64 400, .int .i64 0, .int .i64 1, .int .i64 401, .int .i64 0] 47 (0, 0))
  m : W.heap[w.heap.size + 1]? = some (.cells #[.int .i64 6, .int .i64 15, .int .i64 0, .int .i64 15] 48 (0, 0))
theorem KN.lt {w W : World} (h : KN w W) : w.heap.size + 1 < W.heap.size := (Array.getElem?_eq_some_iff.1 h.m).1
theorem KN.next {w W W' : World} (h : KN w W) (hb : Below W.heap.size W W') : KN w W' :=
  ⟨h.bel.trans (hb.mono h.bel.size), (hb.block _ (Nat.lt_of_succ_lt h.lt)).trans h.l, (hb.block _ h.lt).trans h.m⟩
theorem KN.new (w : World) : KN w ((w.alloc (.cells #[.int .i64 1, .int .i64 5, .int .i64 1, .int .i64 2, .int .i64 21, .int .i64 20, .int .i64 1, .int .i64 400, .int .i64 0, .int .i64 1, .int .i64 401, .int .i64 0] 47)).alloc (.cells #[.int .i64 6, .int .i64 15, .int .i64 0, .int .i64 15] 48)) :=
  ⟨((Below.refl _ _).alloc (Nat.le_refl _) _).alloc (by simp) _, (((Below.refl _ _).alloc (Nat.le_refl _) _).block w.heap.size (by simp)).trans (heap_alloc_last w _), by have := heap_alloc_last (w.alloc (.cells #[.int .i64 1, .int .i64 5, .int .i64 1, .int .i64 2, .int .i64 21, .int .i64 20, .int .i64 1, .int .i64 400, .int .i64 0, .int .i64 1, .int .i64 401, .int .i64 0] 47)) (.cells #[.int .i64 6, .int .i64 15, .int .i64 0, .int .i64 15] 48); simpa using this⟩
theorem KN.lc {w W : World} (h : KN w W) (i : Nat) : W.cell? ⟨w.heap.size, i, none⟩ = (#[Value.int .i64 1, .int .i64 5, .int .i64 1, .int .i64 2, .int .i64 21, .int .i64 20, .int .i64 1, .int .i64 400, .int .i64 0, .int .i64 1, .int .i64 401, .int .i64 0] : Array Value)[i]? := by simp [World.cell?, h.l]
theorem KN.mc {w W : World} (h : KN w W) (i : Nat) : W.cell? ⟨w.heap.size + 1, i, none⟩ = (#[Value.int .i64 6, .int .i64 15, .int .i64 0, .int .i64 15] : Array Value)[i]? := by simp [World.cell?, h.m]
theorem KN.drew {w W : World} (h : KN w W) : KN w W.drew := h.next (Below.refl _ _).drew
theorem KN.a0 {w W : World} (h : KN w W) : KN w W ∧ W.cell? ⟨w.heap.size, 0, none⟩ = some (.int .i64 1) ∧ W.cell? ⟨w.heap.size, 1, none⟩ = some (.int .i64 5) ∧ W.cell? ⟨w.heap.size, 2, none⟩ = some (.int .i64 1) ∧ W.cell? ⟨w.heap.size + 1, 0, none⟩ = some (.int .i64 6) := ⟨h, h.lc 0, h.lc 1, h.lc 2, h.mc 0⟩
theorem KN.n0 {w W W' : World} {p : Prop} (h : KN w W ∧ p) (hb : Below W.heap.size W W') : KN w W' ∧ W'.cell? ⟨w.heap.size, 0, none⟩ = some (.int .i64 1) ∧ W'.cell? ⟨w.heap.size, 1, none⟩ = some (.int .i64 5) ∧ W'.cell? ⟨w.heap.size, 2, none⟩ = some (.int .i64 1) ∧ W'.cell? ⟨w.heap.size + 1, 0, none⟩ = some (.int .i64 6) := (h.1.next hb).a0
theorem KN.a1 {w W : World} (h : KN w W) : KN w W ∧ W.cell? ⟨w.heap.size, 3, none⟩ = some (.int .i64 2) ∧ W.cell? ⟨w.heap.size, 4, none⟩ = some (.int .i64 21) ∧ W.cell? ⟨w.heap.size, 5, none⟩ = some (.int .i64 20) ∧ W.cell? ⟨w.heap.size + 1, 1, none⟩ = some (.int .i64 15) := ⟨h, h.lc 3, h.lc 4, h.lc 5, h.mc 1⟩
theorem KN.n1 {w W W' : World} {p : Prop} (h : KN w W ∧ p) (hb : Below W.heap.size W W') : KN w W' ∧ W'.cell? ⟨w.heap.size, 3, none⟩ = some (.int .i64 2) ∧ W'.cell? ⟨w.heap.size, 4, none⟩ = some (.int .i64 21) ∧ W'.cell? ⟨w.heap.size, 5, none⟩ = some (.int .i64 20) ∧ W'.cell? ⟨w.heap.size + 1, 1, none⟩ = some (.int .i64 15) := (h.1.next hb).a1
theorem KN.a2 {w W : World} (h : KN w W) : KN w W ∧ W.cell? ⟨w.heap.size, 6, none⟩ = some (.int .i64 1) ∧ W.cell? ⟨w.heap.size, 7, none⟩ = some (.int .i64 400) ∧ W.cell? ⟨w.heap.size, 8, none⟩ = some (.int .i64 0) ∧ W.cell? ⟨w.heap.size + 1, 2, none⟩ = some (.int .i64 0) := ⟨h, h.lc 6, h.lc 7, h.lc 8, h.mc 2⟩
theorem KN.n2 {w W W' : World} {p : Prop} (h : KN w W ∧ p) (hb : Below W.heap.size W W') : KN w W' ∧ W'.cell? ⟨w.heap.size, 6, none⟩ = some (.int .i64 1) ∧ W'.cell? ⟨w.heap.size, 7, none⟩ = some (.int .i64 400) ∧ W'.cell? ⟨w.heap.size, 8, none⟩ = some (.int .i64 0) ∧ W'.cell? ⟨w.heap.size + 1, 2, none⟩ = some (.int .i64 0) := (h.1.next hb).a2
theorem KN.a3 {w W : World} (h : KN w W) : KN w W ∧ W.cell? ⟨w.heap.size, 9, none⟩ = some (.int .i64 1) ∧ W.cell? ⟨w.heap.size, 10, none⟩ = some (.int .i64 401) ∧ W.cell? ⟨w.heap.size, 11, none⟩ = some (.int .i64 0) ∧ W.cell? ⟨w.heap.size + 1, 3, none⟩ = some (.int .i64 15) := ⟨h, h.lc 9, h.lc 10, h.lc 11, h.mc 3⟩
theorem KN.n3 {w W W' : World} {p : Prop} (h : KN w W ∧ p) (hb : Below W.heap.size W W') : KN w W' ∧ W'.cell? ⟨w.heap.size, 9, none⟩ = some (.int .i64 1) ∧ W'.cell? ⟨w.heap.size, 10, none⟩ = some (.int .i64 401) ∧ W'.cell? ⟨w.heap.size, 11, none⟩ = some (.int .i64 0) ∧ W'.cell? ⟨w.heap.size + 1, 3, none⟩ = some (.int .i64 15) := (h.1.next hb).a3
set_option maxRecDepth 100000 in
set_option maxHeartbeats 8000000 in
theorem lawKnown_any (w : World) (hw : Lay w) :
    Calls Tryd.prog 10 #[] w fun e w' => e = .returned (.bool true) ∧ Below w.heap.size w w' := by
  have HL := Lib.hid hw
  clear hw
  have HK0 : Hid (∀ W, Calls Tryd.prog 15 #[.int .i64 1, P2 5 1] W fun e w' => e = .returned (.int .i64 6) ∧ Below W.heap.size W w') := fun W => by have := check_any 1 5 1 W; rwa [show ckS 1 5 1 = 6 by decide +kernel] at this
  have HK1 : Hid (∀ W, Calls Tryd.prog 15 #[.int .i64 2, P2 21 20] W fun e w' => e = .returned (.int .i64 15) ∧ Below W.heap.size W w') := fun W => by have := check_any 2 21 20 W; rwa [show ckS 2 21 20 = 15 by decide +kernel] at this
  have HK2 : Hid (∀ W, Calls Tryd.prog 15 #[.int .i64 1, P2 400 0] W fun e w' => e = .returned (.int .i64 0) ∧ Below W.heap.size W w') := fun W => by have := check_any 1 400 0 W; rwa [show ckS 1 400 0 = 0 by decide +kernel] at this
  have HK3 : Hid (∀ W, Calls Tryd.prog 15 #[.int .i64 1, P2 401 0] W fun e w' => e = .returned (.int .i64 15) ∧ Below W.heap.size W w') := fun W => by have := check_any 1 401 0 W; rwa [show ckS 1 401 0 = 15 by decide +kernel] at this
  have HC1 : Hid (∀ W, Calls Tryd.prog 11 #[.int .i64 0, P2 0 0] W fun e w' => e = .returned (.tuple #[.int .i64 1, .int .i64 0]) ∧ Below W.heap.size W w') := fun W => by have := cells_any 0 0 0 W; rwa [show cV 0 0 0 = 1 by decide +kernel, show ckS 0 0 0 = 0 by decide +kernel] at this
  have HC2 : Hid (∀ W, Calls Tryd.prog 11 #[.int .i64 2, P2 0 7] W fun e w' => e = .returned (.tuple #[.int .i64 0, .int .i64 0]) ∧ Below W.heap.size W w') := fun W => by have := cells_any 2 0 7 W; rwa [show cV 2 0 7 = 0 by decide +kernel, show ckS 2 0 7 = 0 by decide +kernel] at this
  have HC3 : Hid (∀ W, Calls Tryd.prog 18 #[.int .i64 2, P2 3 4, P2 1 4] W fun e w' => e = .returned (.tuple #[.int .i64 0, .int .i64 4]) ∧ Below W.heap.size W w') := fun W => by have := place_any 2 3 4 1 4 W; rwa [show plV 2 3 4 1 4 = 0 by decide +kernel, show plE 2 3 4 1 4 = 4 by decide +kernel] at this
  have HC4 : Hid (∀ W, Calls Tryd.prog 20 #[.int .i64 2, P2 3 4, .int .i64 12] W fun e w' => e = .returned (.tuple #[P2 0 0, .int .i64 4]) ∧ Below W.heap.size W w') := fun W => by have := index_any 2 3 4 12 W (by decide) (by decide); rwa [show ix0 2 3 4 12 = 0 by decide +kernel, show ix1 2 3 4 12 = 0 by decide +kernel, show ixE 2 3 4 12 = 4 by decide +kernel] at this
  have HC5 : Hid (∀ W, Calls Tryd.prog 20 #[.int .i64 0, P2 0 0, .int .i64 0] W fun e w' => e = .returned (.tuple #[P2 0 0, .int .i64 0]) ∧ Below W.heap.size W w') := fun W => by have := index_any 0 0 0 0 W (by decide) (by decide); rwa [show ix0 0 0 0 0 = 0 by decide +kernel, show ix1 0 0 0 0 = 0 by decide +kernel, show ixE 0 0 0 0 = 0 by decide +kernel] at this
  have HC6 : Hid (∀ W, Calls Tryd.prog 24 #[.int .i64 2, P2 3 4] W fun e w' => e = .returned (.tuple #[.int .i64 3, .int .i64 4, .int .i64 0]) ∧ Below W.heap.size W w') := fun W => by have := rows_any 2 3 4 W; rwa [show rw0 2 3 4 = 3 by decide +kernel, show rw1 2 3 4 = 4 by decide +kernel, show ckS 2 3 4 = 0 by decide +kernel] at this
  have HC7 : Hid (∀ W, Calls Tryd.prog 28 #[.int .i64 1, P2 5 0, .int .i64 1, P2 6 0] W fun e w' => e = .returned (.tuple #[.int .i64 0, P2 0 0, .int .i64 11]) ∧ Below W.heap.size W w') := fun W => by have := fits_any 1 5 0 1 6 0 W; rwa [show ftR 1 5 0 1 6 0 = 0 by decide +kernel, show ft0 1 5 0 1 6 0 = 0 by decide +kernel, show ft1 1 5 0 1 6 0 = 0 by decide +kernel, show ftE 1 5 0 1 6 0 = 11 by decide +kernel] at this
  have HC8 : Hid (∀ W, Calls Tryd.prog 28 #[.int .i64 1, P2 5 0, .int .i64 2, P2 3 4] W fun e w' => e = .returned (.tuple #[.int .i64 0, P2 0 0, .int .i64 6]) ∧ Below W.heap.size W w') := fun W => by have := fits_any 1 5 0 2 3 4 W; rwa [show ftR 1 5 0 2 3 4 = 0 by decide +kernel, show ft0 1 5 0 2 3 4 = 0 by decide +kernel, show ft1 1 5 0 2 3 4 = 0 by decide +kernel, show ftE 1 5 0 2 3 4 = 6 by decide +kernel] at this
  have HC9 : Hid (∀ W, Lay W → Calls Tryd.prog 13 #[.int .i64 0, P2 0 0] W fun e w' => e = .returned (.tuple #[.string ⟨#[115, 99, 97, 108, 97, 114]⟩, .int .i64 0]) ∧ Below W.heap.size W w') := fun W hy => by have := print_any 0 0 0 W hy; rwa [show prV 0 0 0 = [115, 99, 97, 108, 97, 114] by decide +kernel, show ckS 0 0 0 = 0 by decide +kernel] at this
  have HQ := fun W => eq2t 0 0 W
  have hn := KN.new w
  go_enter Tryd.func10, Tryd.ntmps10
  go_wp2_with fail
  refine wp_loop_rounds 6 ?_
  rw [rounds_succ]
  go_wp2_with fail
  go_region_held3 (fun W => KN w W ∧ W.cell? ⟨w.heap.size, 0, none⟩ = some (.int .i64 1) ∧ W.cell? ⟨w.heap.size, 1, none⟩ = some (.int .i64 5) ∧ W.cell? ⟨w.heap.size, 2, none⟩ = some (.int .i64 1) ∧ W.cell? ⟨w.heap.size + 1, 0, none⟩ = some (.int .i64 6))
    ((first | exact KN.n0 (by assumption) hbn | exact KN.a0 (KN.drew hn)))
    (first
      | (go_at_call 15; refine (HK0.out _).mono ?_; rintro e w' ⟨rfl, hbn⟩))
  have hn0 := (by assumption : KN _ _ ∧ _).1
  clear hn
  have hn := hn0
  clear hn0
  go_wp2_with fail
  rw [rounds_succ]
  go_wp2_with fail
  go_region_held3 (fun W => KN w W ∧ W.cell? ⟨w.heap.size, 3, none⟩ = some (.int .i64 2) ∧ W.cell? ⟨w.heap.size, 4, none⟩ = some (.int .i64 21) ∧ W.cell? ⟨w.heap.size, 5, none⟩ = some (.int .i64 20) ∧ W.cell? ⟨w.heap.size + 1, 1, none⟩ = some (.int .i64 15))
    ((first | exact KN.n1 (by assumption) hbn | exact KN.a1 (KN.drew hn)))
    (first
      | (go_at_call 15; refine (HK1.out _).mono ?_; rintro e w' ⟨rfl, hbn⟩))
  have hn1 := (by assumption : KN _ _ ∧ _).1
  clear hn
  have hn := hn1
  clear hn1
  go_wp2_with fail
  rw [rounds_succ]
  go_wp2_with fail
  go_region_held3 (fun W => KN w W ∧ W.cell? ⟨w.heap.size, 6, none⟩ = some (.int .i64 1) ∧ W.cell? ⟨w.heap.size, 7, none⟩ = some (.int .i64 400) ∧ W.cell? ⟨w.heap.size, 8, none⟩ = some (.int .i64 0) ∧ W.cell? ⟨w.heap.size + 1, 2, none⟩ = some (.int .i64 0))
    ((first | exact KN.n2 (by assumption) hbn | exact KN.a2 (KN.drew hn)))
    (first
      | (go_at_call 15; refine (HK2.out _).mono ?_; rintro e w' ⟨rfl, hbn⟩))
  have hn2 := (by assumption : KN _ _ ∧ _).1
  clear hn
  have hn := hn2
  clear hn2
  go_wp2_with fail
  rw [rounds_succ]
  go_wp2_with fail
  go_region_held3 (fun W => KN w W ∧ W.cell? ⟨w.heap.size, 9, none⟩ = some (.int .i64 1) ∧ W.cell? ⟨w.heap.size, 10, none⟩ = some (.int .i64 401) ∧ W.cell? ⟨w.heap.size, 11, none⟩ = some (.int .i64 0) ∧ W.cell? ⟨w.heap.size + 1, 3, none⟩ = some (.int .i64 15))
    ((first | exact KN.n3 (by assumption) hbn | exact KN.a3 (KN.drew hn)))
    (first
      | (go_at_call 15; refine (HK3.out _).mono ?_; rintro e w' ⟨rfl, hbn⟩))
  have hn3 := (by assumption : KN _ _ ∧ _).1
  clear hn
  have hn := hn3
  clear hn3
  go_wp2_with fail
  have HB := Lib.hid hn.bel
  clear hn
  rw [rounds_succ]
  go_wp2_with (first
    | (go_at_call 11; ((with_reducible refine (HC1.out _).mono ?_); rintro e w' ⟨rfl, hb⟩); have HB2 := Lib.hid (HB.out.trans (hb.mono HB.out.size)); clear HB hb  ; have HB := HB2; clear HB2)
    | (go_at_call 11; ((with_reducible refine (HC2.out _).mono ?_); rintro e w' ⟨rfl, hb⟩); have HB2 := Lib.hid (HB.out.trans (hb.mono HB.out.size)); clear HB hb  ; have HB := HB2; clear HB2)
    | (go_at_call 18; ((with_reducible refine (HC3.out _).mono ?_); rintro e w' ⟨rfl, hb⟩); have HB2 := Lib.hid (HB.out.trans (hb.mono HB.out.size)); clear HB hb  ; have HB := HB2; clear HB2)
    | (go_at_call 20; ((with_reducible refine (HC4.out _).mono ?_); rintro e w' ⟨rfl, hb⟩); have HB2 := Lib.hid ((HB.out.trans (hb.mono HB.out.size)).alloc (HB.out.trans (hb.mono HB.out.size)).size (.cells #[.int .i64 (0), .int .i64 (0)] 22)); have HX := Lib.hid (R2.new w' (0) (0)); clear HB hb  ; have HB := HB2; clear HB2; have x0 := HX.out.c0; have x1 := HX.out.c1)
    | (go_at_call 20; ((with_reducible refine (HC5.out _).mono ?_); rintro e w' ⟨rfl, hb⟩); have HB2 := Lib.hid ((HB.out.trans (hb.mono HB.out.size)).alloc (HB.out.trans (hb.mono HB.out.size)).size (.cells #[.int .i64 (0), .int .i64 (0)] 22)); have HXn := Lib.hid ((HX.out.next hb).alloc (.cells #[.int .i64 (0), .int .i64 (0)] 22)); have HY := Lib.hid (R2.new w' (0) (0)); clear HB hb HX x0 x1; have HB := HB2; clear HB2; have HX := HXn; clear HXn; have x0 := HX.out.c0; have x1 := HX.out.c1; have y0 := HY.out.c0; have y1 := HY.out.c1)
    | (go_at_call 24; ((with_reducible refine (HC6.out _).mono ?_); rintro e w' ⟨rfl, hb⟩); have HB2 := Lib.hid (HB.out.trans (hb.mono HB.out.size)); have HXn := Lib.hid (HX.out.next hb); have HYn := Lib.hid (HY.out.next hb); clear HB hb HX HY x0 x1 y0 y1; have HB := HB2; clear HB2; have HX := HXn; clear HXn; have HY := HYn; clear HYn; have x0 := HX.out.c0; have x1 := HX.out.c1; have y0 := HY.out.c0; have y1 := HY.out.c1)
    | (go_at_call 28; ((with_reducible refine (HC7.out _).mono ?_); rintro e w' ⟨rfl, hb⟩); have HB2 := Lib.hid (HB.out.trans (hb.mono HB.out.size)); have HXn := Lib.hid (HX.out.next hb); have HYn := Lib.hid (HY.out.next hb); clear HB hb HX HY x0 x1 y0 y1; have HB := HB2; clear HB2; have HX := HXn; clear HXn; have HY := HYn; clear HYn; have x0 := HX.out.c0; have x1 := HX.out.c1; have y0 := HY.out.c0; have y1 := HY.out.c1)
    | (go_at_call 28; ((with_reducible refine (HC8.out _).mono ?_); rintro e w' ⟨rfl, hb⟩); have HB2 := Lib.hid (HB.out.trans (hb.mono HB.out.size)); have HXn := Lib.hid (HX.out.next hb); have HYn := Lib.hid (HY.out.next hb); clear HB hb HX HY x0 x1 y0 y1; have HB := HB2; clear HB2; have HX := HXn; clear HXn; have HY := HYn; clear HYn; have x0 := HX.out.c0; have x1 := HX.out.c1; have y0 := HY.out.c0; have y1 := HY.out.c1)
    | (go_at_call 13; ((with_reducible refine (HC9.out _ (HL.out.next HB.out)).mono ?_); rintro e w' ⟨rfl, hb⟩); have HB2 := Lib.hid (HB.out.trans (hb.mono HB.out.size)); have HXn := Lib.hid (HX.out.next hb); have HYn := Lib.hid (HY.out.next hb); clear HB hb HX HY x0 x1 y0 y1; have HB := HB2; clear HB2; have HX := HXn; clear HXn; have HY := HYn; clear HYn; have x0 := HX.out.c0; have x1 := HX.out.c1; have y0 := HY.out.c0; have y1 := HY.out.c1)
    | (go_at_call 17; ((with_reducible refine (awake_any _ (HL.out.next HB.out)).mono ?_); rintro e w' ⟨rfl, hb⟩); have HB2 := Lib.hid (HB.out.trans (hb.mono HB.out.size)); have HXn := Lib.hid (HX.out.next hb); have HYn := Lib.hid (HY.out.next hb); clear HB hb HX HY x0 x1 y0 y1; have HB := HB2; clear HB2; have HX := HXn; clear HXn; have HY := HYn; clear HYn; have x0 := HX.out.c0; have x1 := HX.out.c1; have y0 := HY.out.c0; have y1 := HY.out.c1))
  go_ret
  exact ⟨rfl, HB.out⟩
end Go.Proofs.YtnojidecfmpdjaaDoor
