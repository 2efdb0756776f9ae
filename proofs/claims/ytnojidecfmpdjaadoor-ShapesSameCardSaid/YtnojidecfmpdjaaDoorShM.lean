/- The law's awake; what the laws keep. -/
import Derived.Test.YtnojidecfmpdjaaDoorShI
import Derived.Test.YtnojidecfmpdjaaDoorShJ
import Derived.Test.YtnojidecfmpdjaaDoorShK
import Derived.Test.YtnojidecfmpdjaaDoorShL
import Derived.Deep.RegionHeld3
namespace Go.Proofs.YtnojidecfmpdjaaDoor
open Go.RowKit

/-- A block of three numbers: a shape. -/
def R3 (w : World) (b : Nat) (x y z : Int) : Prop := w.heap[b]? = some (.cells #[.int .i64 x, .int .i64 y, .int .i64 z] 24 (0, 0))
theorem R3.c0 {w : World} {b : Nat} {x y z : Int} (h : R3 w b x y z) : w.cell? ⟨b, 0, none⟩ = some (.int .i64 x) := by unfold R3 at h; simp [World.cell?, h]
theorem R3.c1 {w : World} {b : Nat} {x y z : Int} (h : R3 w b x y z) : w.cell? ⟨b, 1, none⟩ = some (.int .i64 y) := by unfold R3 at h; simp [World.cell?, h]
theorem R3.c2 {w : World} {b : Nat} {x y z : Int} (h : R3 w b x y z) : w.cell? ⟨b, 2, none⟩ = some (.int .i64 z) := by unfold R3 at h; simp [World.cell?, h]
theorem R3.lt {w : World} {b : Nat} {x y z : Int} (h : R3 w b x y z) : b < w.heap.size := by
  unfold R3 at h
  exact (Array.getElem?_eq_some_iff.1 h).1
theorem R3.next {w w' : World} {b : Nat} {x y z : Int} (h : R3 w b x y z) (hb : Below w.heap.size w w') : R3 w' b x y z := (hb.block b h.lt).trans h
theorem R3.new (w : World) (x y z : Int) : R3 (w.alloc (.cells #[.int .i64 x, .int .i64 y, .int .i64 z] 24)) w.heap.size x y z := heap_alloc_last w _
theorem R3.alloc {w : World} {b : Nat} {x y z : Int} (h : R3 w b x y z) (o : Obj) : R3 (w.alloc o) b x y z := h.next ((Below.refl _ _).alloc (Nat.le_refl _) o)
/-- A shape as a value. -/
abbrev P3 (x y z : Int) : Value := .agg #[.int .i64 x, .int .i64 y, .int .i64 z]

set_option maxRecDepth 100000 in
set_option maxHeartbeats 4000000 in
theorem awake_any (w : World) (hw : Lay w) : Calls Tryd.prog 17 #[] w fun e w' => e = .returned (.bool true) ∧ Below w.heap.size w w' := by
  have HL := Lib.hid hw
  clear hw
  have HC1 : Hid (∀ W, Calls Tryd.prog 11 #[.int .i64 2, P2 3 4] W fun e w' => e = .returned (.tuple #[.int .i64 12, .int .i64 0]) ∧ Below W.heap.size W w') := fun W => by
    have := cells_any 2 3 4 W
    rwa [show cV 2 3 4 = 12 by decide, show ckS 2 3 4 = 0 by decide] at this
  have HC2 : Hid (∀ W, Calls Tryd.prog 18 #[.int .i64 2, P2 3 4, P2 1 2] W fun e w' => e = .returned (.tuple #[.int .i64 6, .int .i64 0]) ∧ Below W.heap.size W w') := fun W => by
    have := place_any 2 3 4 1 2 W
    rwa [show plV 2 3 4 1 2 = 6 by decide, show plE 2 3 4 1 2 = 0 by decide] at this
  have HC3 : Hid (∀ W, Calls Tryd.prog 20 #[.int .i64 2, P2 3 4, .int .i64 6] W fun e w' => e = .returned (.tuple #[P2 1 2, .int .i64 0]) ∧ Below W.heap.size W w') := fun W => by
    have := index_any 2 3 4 6 W (by decide) (by decide)
    rwa [show ix0 2 3 4 6 = 1 by decide, show ix1 2 3 4 6 = 2 by decide, show ixE 2 3 4 6 = 0 by decide] at this
  have HC4 : Hid (∀ W, Calls Tryd.prog 28 #[.int .i64 2, P2 3 4, .int .i64 0, P2 0 0] W fun e w' => e = .returned (.tuple #[.int .i64 2, P2 3 4, .int .i64 0]) ∧ Below W.heap.size W w') := fun W => by
    have := fits_any 2 3 4 0 0 0 W
    rwa [show ftR 2 3 4 0 0 0 = 2 by decide, show ft0 2 3 4 0 0 0 = 3 by decide, show ft1 2 3 4 0 0 0 = 4 by decide, show ftE 2 3 4 0 0 0 = 0 by decide] at this
  have HC5 : Hid (∀ W, Lay W → Calls Tryd.prog 13 #[.int .i64 2, P2 3 4] W fun e w' => e = .returned (.tuple #[.string ⟨#[51, 120, 52]⟩, .int .i64 0]) ∧ Below W.heap.size W w') := fun W h => by
    have := print_any 2 3 4 W h
    rwa [show prV 2 3 4 = [51, 120, 52] by decide +kernel, show ckS 2 3 4 = 0 by decide] at this
  have HQ1 := fun W => eq2 1 2 1 2 W
  have HQ2 := fun W => eq2 3 4 3 4 W
  have HB := Lib.hid (Below.refl w.heap.size w)
  go_enter Tryd.func17, Tryd.ntmps17
  go_wp2_with (first
    | (go_at_call 11; ((with_reducible refine (HC1.out _).mono ?_); rintro e w' ⟨rfl, hb⟩); have HB2 := Lib.hid (HB.out.trans (hb.mono HB.out.size)); clear HB hb  ; have HB := HB2; clear HB2)
    | (go_at_call 18; ((with_reducible refine (HC2.out _).mono ?_); rintro e w' ⟨rfl, hb⟩); have HB2 := Lib.hid (HB.out.trans (hb.mono HB.out.size)); clear HB hb  ; have HB := HB2; clear HB2)
    | (go_at_call 20; ((with_reducible refine (HC3.out _).mono ?_); rintro e w' ⟨rfl, hb⟩); have HB2 := Lib.hid ((HB.out.trans (hb.mono HB.out.size)).alloc (HB.out.trans (hb.mono HB.out.size)).size (.cells #[.int .i64 (1), .int .i64 (2)] 22)); have HX := Lib.hid (R2.new w' (1) (2)); clear HB hb  ; have HB := HB2; clear HB2; have x0 := HX.out.c0; have x1 := HX.out.c1)
    | (go_at_call 28; ((with_reducible refine (HC4.out _).mono ?_); rintro e w' ⟨rfl, hb⟩); have HB2 := Lib.hid ((HB.out.trans (hb.mono HB.out.size)).alloc (HB.out.trans (hb.mono HB.out.size)).size (.cells #[.int .i64 (3), .int .i64 (4)] 22)); have HXn := Lib.hid ((HX.out.next hb).alloc (.cells #[.int .i64 (3), .int .i64 (4)] 22)); have HY := Lib.hid (R2.new w' (3) (4)); clear HB hb HX x0 x1; have HB := HB2; clear HB2; have HX := HXn; clear HXn; have x0 := HX.out.c0; have x1 := HX.out.c1; have y0 := HY.out.c0; have y1 := HY.out.c1)
    | (go_at_call 13; ((with_reducible refine (HC5.out _ (HL.out.next HB.out)).mono ?_); rintro e w' ⟨rfl, hb⟩); have HB2 := Lib.hid (HB.out.trans (hb.mono HB.out.size)); have HXn := Lib.hid (HX.out.next hb); have HYn := Lib.hid (HY.out.next hb); clear HB hb HX HY x0 x1 y0 y1; have HB := HB2; clear HB2; have HX := HXn; clear HXn; have HY := HYn; clear HYn; have x0 := HX.out.c0; have x1 := HX.out.c1; have y0 := HY.out.c0; have y1 := HY.out.c1))
  go_ret
  exact ⟨rfl, HB.out⟩
end Go.Proofs.YtnojidecfmpdjaaDoor
