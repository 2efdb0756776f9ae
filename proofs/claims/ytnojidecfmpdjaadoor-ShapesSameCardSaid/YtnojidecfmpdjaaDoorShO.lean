/- The laws ShapesChecks, ShapesRows as walks. -/
import Derived.Test.YtnojidecfmpdjaaDoorShN
namespace Go.Proofs.YtnojidecfmpdjaaDoor
open Go.RowKit

/-- What the law ShapesChecks keeps. -/
structure KC (w : World) (r a b : Int) (W : World) : Prop where
  bel : Below w.heap.size w W
  s : R3 W w.heap.size r a b
theorem KC.next {w W W' : World} {r a b : Int} (h : KC w r a b W) (hb : Below W.heap.size W W') : KC w r a b W' := ⟨h.bel.trans (hb.mono h.bel.size), h.s.next hb⟩
theorem KC.all {w W : World} {r a b : Int} (h : KC w r a b W) : KC w r a b W ∧ W.cell? ⟨w.heap.size, 0, none⟩ = some (.int .i64 r) ∧ W.cell? ⟨w.heap.size, 1, none⟩ = some (.int .i64 a) ∧ W.cell? ⟨w.heap.size, 2, none⟩ = some (.int .i64 b) := ⟨h, h.s.c0, h.s.c1, h.s.c2⟩
theorem KC.drew {w W : World} {r a b : Int} (h : KC w r a b W) : KC w r a b W.drew := h.next (Below.refl _ _).drew
theorem KC.alln {w W W' : World} {r a b : Int} {p : Prop} (h : KC w r a b W ∧ p) (hb : Below W.heap.size W W') : KC w r a b W' ∧ W'.cell? ⟨w.heap.size, 0, none⟩ = some (.int .i64 r) ∧ W'.cell? ⟨w.heap.size, 1, none⟩ = some (.int .i64 a) ∧ W'.cell? ⟨w.heap.size, 2, none⟩ = some (.int .i64 b) := (h.1.next hb).all
set_option maxRecDepth 100000 in
set_option maxHeartbeats 8000000 in
theorem lawChecks_any (r a b : Int) (w : World) (hw : Lay w) :
    Calls Tryd.prog 3 #[P3 r a b] w fun e w' => e = .returned (.bool true) ∧ Below w.heap.size w w' := by
  have HL := Lib.hid hw
  clear hw
  obtain ⟨v1, hv1⟩ : ∃ v, v = cV r a b := ⟨_, rfl⟩
  obtain ⟨v2, hv2⟩ : ∃ v, v = ckS r a b := ⟨_, rfl⟩
  obtain ⟨v3, hv3⟩ : ∃ v, v = (⟨(prV r a b).toArray⟩ : ByteArray) := ⟨_, rfl⟩
  have HC1 : Hid (∀ W, Calls Tryd.prog 11 #[.int .i64 r, P2 a b] W fun e w' => e = .returned (.tuple #[.int .i64 v1, .int .i64 v2]) ∧ Below W.heap.size W w') := fun W => by rw [hv1, hv2]; exact cells_any r a b W
  have HC2 : Hid (∀ W, Calls Tryd.prog 12 #[.int .i64 r, P2 a b] W fun e w' => e = .returned (.tuple #[.int .i64 v1, .int .i64 v2]) ∧ Below W.heap.size W w') := fun W => by rw [hv1, hv2]; exact rcells_any r a b W
  have HC3 : Hid (∀ W, Lay W → Calls Tryd.prog 13 #[.int .i64 r, P2 a b] W fun e w' => e = .returned (.tuple #[.string v3, .int .i64 v2]) ∧ Below W.heap.size W w') := fun W hy => by rw [hv3, hv2]; exact print_any r a b W hy
  have HC4 : Hid (∀ W, Lay W → Calls Tryd.prog 14 #[.int .i64 r, P2 a b] W fun e w' => e = .returned (.tuple #[.string v3, .int .i64 v2]) ∧ Below W.heap.size W w') := fun W hy => by rw [hv3, hv2]; exact rprint_any r a b W hy
  have HC5 : Hid (∀ W, Calls Tryd.prog 15 #[.int .i64 r, P2 a b] W fun e w' => e = .returned (.int .i64 v2) ∧ Below W.heap.size W w') := fun W => by rw [hv2]; exact check_any r a b W
  have HC6 : Hid (∀ W, Calls Tryd.prog 16 #[.int .i64 r, P2 a b] W fun e w' => e = .returned (.int .i64 v2) ∧ Below W.heap.size W w') := fun W => by rw [hv2]; exact rcheck_any r a b W
  clear hv1 hv2 hv3
  have HB := Lib.hid ((Below.refl w.heap.size w).alloc (Nat.le_refl _) (.cells #[.int .i64 r, .int .i64 a, .int .i64 b] 24))
  have H0 := Lib.hid (R3.new w r a b)
  have x0 := H0.out.c0
  have x1 := H0.out.c1
  have x2 := H0.out.c2
  go_enter Tryd.func3, Tryd.ntmps3
  go_wp2_with (first
    | (go_at_call 11; ((with_reducible refine (HC1.out _).mono ?_); rintro e w' ⟨rfl, hb⟩); have HB2 := Lib.hid (HB.out.trans (hb.mono HB.out.size)); have H0n := Lib.hid (H0.out.next hb); clear HB hb H0 x0 x1 x2; have HB := HB2; clear HB2; have H0 := H0n; clear H0n; have x0 := H0.out.c0; have x1 := H0.out.c1; have x2 := H0.out.c2)
    | (go_at_call 12; ((with_reducible refine (HC2.out _).mono ?_); rintro e w' ⟨rfl, hb⟩); have HB2 := Lib.hid (HB.out.trans (hb.mono HB.out.size)); have H0n := Lib.hid (H0.out.next hb); clear HB hb H0 x0 x1 x2; have HB := HB2; clear HB2; have H0 := H0n; clear H0n; have x0 := H0.out.c0; have x1 := H0.out.c1; have x2 := H0.out.c2)
    | (go_at_call 13; ((with_reducible refine (HC3.out _ (HL.out.next HB.out)).mono ?_); rintro e w' ⟨rfl, hb⟩); have HB2 := Lib.hid (HB.out.trans (hb.mono HB.out.size)); have H0n := Lib.hid (H0.out.next hb); clear HB hb H0 x0 x1 x2; have HB := HB2; clear HB2; have H0 := H0n; clear H0n; have x0 := H0.out.c0; have x1 := H0.out.c1; have x2 := H0.out.c2)
    | (go_at_call 14; ((with_reducible refine (HC4.out _ (HL.out.next HB.out)).mono ?_); rintro e w' ⟨rfl, hb⟩); have HB2 := Lib.hid (HB.out.trans (hb.mono HB.out.size)); have H0n := Lib.hid (H0.out.next hb); clear HB hb H0 x0 x1 x2; have HB := HB2; clear HB2; have H0 := H0n; clear H0n; have x0 := H0.out.c0; have x1 := H0.out.c1; have x2 := H0.out.c2))
  have hS : KC w r a b _ := ⟨HB.out, H0.out⟩
  clear HB H0 x0 x1 x2
  go_region_held3 (fun W => KC w r a b W ∧ W.cell? ⟨w.heap.size, 0, none⟩ = some (.int .i64 r) ∧ W.cell? ⟨w.heap.size, 1, none⟩ = some (.int .i64 a) ∧ W.cell? ⟨w.heap.size, 2, none⟩ = some (.int .i64 b))
    ((first | exact KC.alln (by assumption) hbn | exact KC.all (KC.drew hS)))
    (first
      | (go_at_call 15; refine (HC5.out _).mono ?_; rintro e w' ⟨rfl, hbn⟩)
      | (go_at_call 16; refine (HC6.out _).mono ?_; rintro e w' ⟨rfl, hbn⟩)
      | (go_at_call 17; refine (awake_any _ (HL.out.next (by assumption : KC _ _ _ _ _ ∧ _).1.bel)).mono ?_; rintro e w' ⟨rfl, hbn⟩))
  have HE := Lib.hid (by assumption : KC _ _ _ _ _ ∧ _).1
  go_wp2_with fail
  go_ret
  exact ⟨rfl, HE.out.bel⟩
theorem below2 {B g : Nat} {w W : World} (h : Below B w W) (hg : B ≤ g) (u v : Value) : Below B w ((W.setCell ⟨g, 0, none⟩ u).setCell ⟨g, 1, none⟩ v) := (h.setCell (p := ⟨g, 0, none⟩) hg u).setCell (p := ⟨g, 1, none⟩) hg v
theorem R2.set {w : World} {b : Nat} {x y : Int} (h : R2 w b x y) (u v : Int) : R2 ((w.setCell ⟨b, 0, none⟩ (.int .i64 u)).setCell ⟨b, 1, none⟩ (.int .i64 v)) b u v := by
  have h1 := heap_setCell_same w b 0 _ _ (.int .i64 u) h
  exact heap_setCell_same (w.setCell ⟨b, 0, none⟩ (.int .i64 u)) b 1 _ _ (.int .i64 v) h1
theorem R2.off {w : World} {b g : Nat} {x y : Int} (h : R2 w b x y) (hne : b ≠ g) (u v : Value) : R2 ((w.setCell ⟨g, 0, none⟩ u).setCell ⟨g, 1, none⟩ v) b x y := by
  unfold R2 at h ⊢
  rw [heap_setCell_other _ _ _ _ hne, heap_setCell_other _ _ _ _ hne]; exact h
theorem R3.off {w : World} {b g : Nat} {x y z : Int} (h : R3 w b x y z) (hne : b ≠ g) (u v : Value) : R3 ((w.setCell ⟨g, 0, none⟩ u).setCell ⟨g, 1, none⟩ v) b x y z := by
  unfold R3 at h ⊢
  rw [heap_setCell_other _ _ _ _ hne, heap_setCell_other _ _ _ _ hne]; exact h
set_option maxRecDepth 100000 in
set_option maxHeartbeats 8000000 in
theorem lawRows_any (r a b : Int) (v : Value) (l : List Int) (w : World) (hw : Lay w) (hv : RdI w.heap.size w v l) :
    Calls Tryd.prog 5 #[P3 r a b, v] w fun e w' => e = .returned (.bool true) ∧ Below w.heap.size w w' := by
  have HL := Lib.hid hw
  clear hw
  have HR := Lib.hid hv
  obtain ⟨sa, cap, rfl, hc1, hc2, hx⟩ := hv
  clear hx
  obtain ⟨v1, hv1⟩ : ∃ v, v = ln0 r l := ⟨_, rfl⟩
  obtain ⟨v2, hv2⟩ : ∃ v, v = ln1 r l := ⟨_, rfl⟩
  obtain ⟨v3, hv3⟩ : ∃ v, v = lnE r l := ⟨_, rfl⟩
  obtain ⟨v4, hv4⟩ : ∃ v, v = rw0 r a b := ⟨_, rfl⟩
  obtain ⟨v5, hv5⟩ : ∃ v, v = rw1 r a b := ⟨_, rfl⟩
  obtain ⟨v6, hv6⟩ : ∃ v, v = ckS r a b := ⟨_, rfl⟩
  obtain ⟨v7, hv7⟩ : ∃ v, v = fp0 r a b := ⟨_, rfl⟩
  obtain ⟨v8, hv8⟩ : ∃ v, v = fp1 r a b := ⟨_, rfl⟩
  obtain ⟨v9, hv9⟩ : ∃ v, v = fpE r a b := ⟨_, rfl⟩
  have HC1 : Hid (∀ W, RdI W.heap.size W (.slice sa l.length cap) l → Calls Tryd.prog 22 #[.int .i64 r, .slice sa l.length cap] W fun e w' => e = .returned (.tuple #[P2 v1 v2, .int .i64 v3]) ∧ Below W.heap.size W w') := fun W hy => by rw [hv1, hv2, hv3]; exact lens_any r _ l W hy
  have HC2 : Hid (∀ W, RdI W.heap.size W (.slice sa l.length cap) l → Calls Tryd.prog 23 #[.int .i64 r, .slice sa l.length cap] W fun e w' => e = .returned (.tuple #[P2 v1 v2, .int .i64 v3]) ∧ Below W.heap.size W w') := fun W hy => by rw [hv1, hv2, hv3]; exact rlens_any r _ l W hy
  have HC3 : Hid (∀ W, Calls Tryd.prog 24 #[.int .i64 r, P2 a b] W fun e w' => e = .returned (.tuple #[.int .i64 v4, .int .i64 v5, .int .i64 v6]) ∧ Below W.heap.size W w') := fun W => by rw [hv4, hv5, hv6]; exact rows_any r a b W
  have HC4 : Hid (∀ W, Calls Tryd.prog 25 #[.int .i64 r, P2 a b] W fun e w' => e = .returned (.tuple #[.int .i64 v4, .int .i64 v5, .int .i64 v6]) ∧ Below W.heap.size W w') := fun W => by rw [hv4, hv5, hv6]; exact rrows_any r a b W
  have HC5 : Hid (∀ W, Calls Tryd.prog 26 #[.int .i64 r, P2 a b] W fun e w' => e = .returned (.tuple #[P2 v7 v8, .int .i64 v9]) ∧ Below W.heap.size W w') := fun W => by rw [hv7, hv8, hv9]; exact flip_any r a b W
  have HC6 : Hid (∀ W, Calls Tryd.prog 27 #[.int .i64 r, P2 a b] W fun e w' => e = .returned (.tuple #[P2 v7 v8, .int .i64 v9]) ∧ Below W.heap.size W w') := fun W => by rw [hv7, hv8, hv9]; exact rflip_any r a b W
  clear hv1 hv2 hv3 hv4 hv5 hv6 hv7 hv8 hv9
  have HQ := fun W => eq2t v1 v2 W
  have HQ2 := fun W => eq2t v7 v8 W
  have HB := Lib.hid ((Below.refl w.heap.size w).alloc (Nat.le_refl _) (.cells #[.int .i64 r, .int .i64 a, .int .i64 b] 24))
  have H0 := Lib.hid (R3.new w r a b)
  have x0 := H0.out.c0
  have x1 := H0.out.c1
  have x2 := H0.out.c2
  by_cases hl : (10 : Int) < (l.length : Int)
  · go_enter Tryd.func5, Tryd.ntmps5
    go_wp2_with ((go_at_call 17; ((with_reducible refine (awake_any _ (HL.out.next HB.out)).mono ?_); rintro e w' ⟨rfl, hb⟩); have HB2 := Lib.hid (HB.out.trans (hb.mono HB.out.size)); have H0n := Lib.hid (H0.out.next hb); clear HB hb H0 x0 x1 x2; have HB := HB2; clear HB2; have H0 := H0n; clear H0n; have x0 := H0.out.c0; have x1 := H0.out.c1; have x2 := H0.out.c2))
    go_ret
    exact ⟨rfl, HB.out⟩
  · go_enter Tryd.func5, Tryd.ntmps5
    go_wp2_with (first
      | (go_at_call 22; ((with_reducible refine (HC1.out _ (HR.out.next HB.out)).mono ?_); rintro e w' ⟨rfl, hb⟩); have LX : Hid (_ < w'.heap.size) := Nat.lt_of_lt_of_le H0.out.lt hb.size; have HB2 := Lib.hid ((HB.out.trans (hb.mono HB.out.size)).alloc (HB.out.trans (hb.mono HB.out.size)).size (.cells #[.int .i64 (v1), .int .i64 (v2)] 22)); have H0n := Lib.hid ((H0.out.next hb).alloc (.cells #[.int .i64 (v1), .int .i64 (v2)] 22)); have HX := Lib.hid (R2.new w' (v1) (v2)); clear HB hb H0 x0 x1 x2; have HB := HB2; clear HB2; have H0 := H0n; clear H0n; have x0 := H0.out.c0; have x1 := H0.out.c1; have x2 := H0.out.c2; have u0 := HX.out.c0; have u1 := HX.out.c1; have uf0 := HX.out.f0; have uf1 := HX.out.f1)
      | (go_at_call 23; ((with_reducible refine (HC2.out _ (HR.out.next HB.out)).mono ?_); rintro e w' ⟨rfl, hb⟩); have LY : Hid (_ < w'.heap.size) := Nat.lt_of_lt_of_le HX.out.lt hb.size; have HB2 := Lib.hid ((HB.out.trans (hb.mono HB.out.size)).alloc (HB.out.trans (hb.mono HB.out.size)).size (.cells #[.int .i64 (v1), .int .i64 (v2)] 22)); have H0n := Lib.hid ((H0.out.next hb).alloc (.cells #[.int .i64 (v1), .int .i64 (v2)] 22)); have HXn := Lib.hid ((HX.out.next hb).alloc (.cells #[.int .i64 (v1), .int .i64 (v2)] 22)); have HY := Lib.hid (R2.new w' (v1) (v2)); clear HB hb H0 HX x0 x1 x2 u0 u1 uf0 uf1; have HB := HB2; clear HB2; have H0 := H0n; clear H0n; have HX := HXn; clear HXn; have x0 := H0.out.c0; have x1 := H0.out.c1; have x2 := H0.out.c2; have u0 := HX.out.c0; have u1 := HX.out.c1; have uf0 := HX.out.f0; have uf1 := HX.out.f1; have z0 := HY.out.c0; have z1 := HY.out.c1; have zf0 := HY.out.f0; have zf1 := HY.out.f1)
      | (go_at_call 24; ((with_reducible refine (HC3.out _).mono ?_); rintro e w' ⟨rfl, hb⟩); have HB2 := Lib.hid (HB.out.trans (hb.mono HB.out.size)); have H0n := Lib.hid (H0.out.next hb); have HXn := Lib.hid (HX.out.next hb); have HYn := Lib.hid (HY.out.next hb); clear HB hb H0 HX HY x0 x1 x2 u0 u1 uf0 uf1 z0 z1 zf0 zf1; have HB := HB2; clear HB2; have H0 := H0n; clear H0n; have HX := HXn; clear HXn; have HY := HYn; clear HYn; have x0 := H0.out.c0; have x1 := H0.out.c1; have x2 := H0.out.c2; have u0 := HX.out.c0; have u1 := HX.out.c1; have uf0 := HX.out.f0; have uf1 := HX.out.f1; have z0 := HY.out.c0; have z1 := HY.out.c1; have zf0 := HY.out.f0; have zf1 := HY.out.f1)
      | (go_at_call 25; ((with_reducible refine (HC4.out _).mono ?_); rintro e w' ⟨rfl, hb⟩); have HB2 := Lib.hid (HB.out.trans (hb.mono HB.out.size)); have H0n := Lib.hid (H0.out.next hb); have HXn := Lib.hid (HX.out.next hb); have HYn := Lib.hid (HY.out.next hb); clear HB hb H0 HX HY x0 x1 x2 u0 u1 uf0 uf1 z0 z1 zf0 zf1; have HB := HB2; clear HB2; have H0 := H0n; clear H0n; have HX := HXn; clear HXn; have HY := HYn; clear HYn; have x0 := H0.out.c0; have x1 := H0.out.c1; have x2 := H0.out.c2; have u0 := HX.out.c0; have u1 := HX.out.c1; have uf0 := HX.out.f0; have uf1 := HX.out.f1; have z0 := HY.out.c0; have z1 := HY.out.c1; have zf0 := HY.out.f0; have zf1 := HY.out.f1)
      | (go_at_call 26; ((with_reducible refine (HC5.out _).mono ?_); rintro e w' ⟨rfl, hb⟩); have HB2 := Lib.hid (below2 (HB.out.trans (hb.mono HB.out.size)) (Nat.le_of_lt LX.out) (.int .i64 v7) (.int .i64 v8)); have H0n := Lib.hid ((H0.out.next hb).off (Nat.ne_of_lt LX.out) (.int .i64 v7) (.int .i64 v8)); have HXn := Lib.hid ((HX.out.next hb).set v7 v8); have HYn := Lib.hid ((HY.out.next hb).off ((Nat.ne_of_lt LY.out).symm) (.int .i64 v7) (.int .i64 v8)); clear HB x0 x1 x2 u0 u1 uf0 uf1 z0 z1 zf0 zf1; have g0 := (HX.out.next hb).f0; have g1 := (HX.out.next hb).f1; have k0 := (HX.out.next hb).c0; have k1 := (HX.out.next hb).c1; clear hb H0 HX HY; have HB := HB2; clear HB2; have H0 := H0n; clear H0n; have HX := HXn; clear HXn; have HY := HYn; clear HYn; have x0 := H0.out.c0; have x1 := H0.out.c1; have x2 := H0.out.c2; have u0 := HX.out.c0; have u1 := HX.out.c1; have uf0 := HX.out.f0; have uf1 := HX.out.f1; have z0 := HY.out.c0; have z1 := HY.out.c1; have zf0 := HY.out.f0; have zf1 := HY.out.f1)
      | (go_at_call 27; ((with_reducible refine (HC6.out _).mono ?_); rintro e w' ⟨rfl, hb⟩); have HB2 := Lib.hid (below2 (HB.out.trans (hb.mono HB.out.size)) (Nat.le_of_lt (Nat.lt_trans LX.out LY.out)) (.int .i64 v7) (.int .i64 v8)); have H0n := Lib.hid ((H0.out.next hb).off (Nat.ne_of_lt (Nat.lt_trans LX.out LY.out)) (.int .i64 v7) (.int .i64 v8)); have HXn := Lib.hid ((HX.out.next hb).off (Nat.ne_of_lt LY.out) (.int .i64 v7) (.int .i64 v8)); have HYn := Lib.hid ((HY.out.next hb).set v7 v8); clear HB x0 x1 x2 u0 u1 uf0 uf1 z0 z1 zf0 zf1; have g0 := (HY.out.next hb).f0; have g1 := (HY.out.next hb).f1; have k0 := (HY.out.next hb).c0; have k1 := (HY.out.next hb).c1; clear hb H0 HX HY; have HB := HB2; clear HB2; have H0 := H0n; clear H0n; have HX := HXn; clear HXn; have HY := HYn; clear HYn; have x0 := H0.out.c0; have x1 := H0.out.c1; have x2 := H0.out.c2; have u0 := HX.out.c0; have u1 := HX.out.c1; have uf0 := HX.out.f0; have uf1 := HX.out.f1; have z0 := HY.out.c0; have z1 := HY.out.c1; have zf0 := HY.out.f0; have zf1 := HY.out.f1)
      | (go_at_call 17; ((with_reducible refine (awake_any _ (HL.out.next HB.out)).mono ?_); rintro e w' ⟨rfl, hb⟩); have HB2 := Lib.hid (HB.out.trans (hb.mono HB.out.size)); have H0n := Lib.hid (H0.out.next hb); have HXn := Lib.hid (HX.out.next hb); have HYn := Lib.hid (HY.out.next hb); clear HB hb H0 HX HY x0 x1 x2 u0 u1 uf0 uf1 z0 z1 zf0 zf1; have HB := HB2; clear HB2; have H0 := H0n; clear H0n; have HX := HXn; clear HXn; have HY := HYn; clear HYn; have x0 := H0.out.c0; have x1 := H0.out.c1; have x2 := H0.out.c2; have u0 := HX.out.c0; have u1 := HX.out.c1; have uf0 := HX.out.f0; have uf1 := HX.out.f1; have z0 := HY.out.c0; have z1 := HY.out.c1; have zf0 := HY.out.f0; have zf1 := HY.out.f1))
    go_ret
    exact ⟨rfl, HB.out⟩
end Go.Proofs.YtnojidecfmpdjaaDoor
