/- The laws ShapesPlaces, ShapesFits as walks. -/
import Derived.Test.YtnojidecfmpdjaaDoorShM
namespace Go.Proofs.YtnojidecfmpdjaaDoor
open Go.RowKit

theorem eq2t (a b : Int) (w : World) : (Op.equalIn 10000 22 (P2 a b) (P2 a b)).run Tryd.prog w = .ok true w := by
  rw [eq2]; simp
set_option maxRecDepth 100000 in
set_option maxHeartbeats 8000000 in
theorem lawPlaces_any (r a b p q n : Int) (w : World) (hw : Lay w) (n0 : -9223372036854775808 ≤ n) (n1 : n ≤ 9223372036854775807) :
    Calls Tryd.prog 4 #[P3 r a b, P2 p q, .int .i64 n] w fun e w' => e = .returned (.bool true) ∧ Below w.heap.size w w' := by
  have HL := Lib.hid hw
  clear hw
  obtain ⟨v1, hv1⟩ : ∃ v, v = plV r a b p q := ⟨_, rfl⟩
  obtain ⟨v2, hv2⟩ : ∃ v, v = plE r a b p q := ⟨_, rfl⟩
  obtain ⟨v3, hv3⟩ : ∃ v, v = ix0 r a b n := ⟨_, rfl⟩
  obtain ⟨v4, hv4⟩ : ∃ v, v = ix1 r a b n := ⟨_, rfl⟩
  obtain ⟨v5, hv5⟩ : ∃ v, v = ixE r a b n := ⟨_, rfl⟩
  have HC1 : Hid (∀ W, Calls Tryd.prog 18 #[.int .i64 r, P2 a b, P2 p q] W fun e w' => e = .returned (.tuple #[.int .i64 v1, .int .i64 v2]) ∧ Below W.heap.size W w') := fun W => by rw [hv1, hv2]; exact place_any r a b p q W
  have HC2 : Hid (∀ W, Calls Tryd.prog 19 #[.int .i64 r, P2 a b, P2 p q] W fun e w' => e = .returned (.tuple #[.int .i64 v1, .int .i64 v2]) ∧ Below W.heap.size W w') := fun W => by rw [hv1, hv2]; exact rplace_any r a b p q W
  have HC3 : Hid (∀ W, Calls Tryd.prog 20 #[.int .i64 r, P2 a b, .int .i64 n] W fun e w' => e = .returned (.tuple #[P2 v3 v4, .int .i64 v5]) ∧ Below W.heap.size W w') := fun W => by rw [hv3, hv4, hv5]; exact index_any r a b n W n0 n1
  have HC4 : Hid (∀ W, Calls Tryd.prog 21 #[.int .i64 r, P2 a b, .int .i64 n] W fun e w' => e = .returned (.tuple #[P2 v3 v4, .int .i64 v5]) ∧ Below W.heap.size W w') := fun W => by rw [hv3, hv4, hv5]; exact rindex_any r a b n W n0 n1
  clear hv1 hv2 hv3 hv4 hv5
  have HQ := fun W => eq2t v3 v4 W
  have HB := Lib.hid (((Below.refl w.heap.size w).alloc (Nat.le_refl _) (.cells #[.int .i64 r, .int .i64 a, .int .i64 b] 24)).alloc (by simp) (.cells #[.int .i64 p, .int .i64 q] 22))
  have H0 := Lib.hid ((R3.new w r a b).alloc (.cells #[.int .i64 p, .int .i64 q] 22))
  have H1 : Hid (R2 ((w.alloc (.cells #[.int .i64 r, .int .i64 a, .int .i64 b] 24)).alloc (.cells #[.int .i64 p, .int .i64 q] 22)) (w.heap.size + 1) p q) := by have := R2.new (w.alloc (.cells #[.int .i64 r, .int .i64 a, .int .i64 b] 24)) p q; unfold Hid; simpa using this
  have x0 := H0.out.c0
  have x1 := H0.out.c1
  have x2 := H0.out.c2
  have y0 := H1.out.c0
  have y1 := H1.out.c1
  go_enter Tryd.func4, Tryd.ntmps4
  go_wp2_with (first
    | (go_at_call 18; ((with_reducible refine (HC1.out _).mono ?_); rintro e w' ⟨rfl, hb⟩); have HB2 := Lib.hid (HB.out.trans (hb.mono HB.out.size)); have H0n := Lib.hid (H0.out.next hb); have H1n := Lib.hid (H1.out.next hb); clear HB hb H0 H1 x0 x1 x2 y0 y1; have HB := HB2; clear HB2; have H0 := H0n; clear H0n; have H1 := H1n; clear H1n; have x0 := H0.out.c0; have x1 := H0.out.c1; have x2 := H0.out.c2; have y0 := H1.out.c0; have y1 := H1.out.c1)
    | (go_at_call 19; ((with_reducible refine (HC2.out _).mono ?_); rintro e w' ⟨rfl, hb⟩); have HB2 := Lib.hid (HB.out.trans (hb.mono HB.out.size)); have H0n := Lib.hid (H0.out.next hb); have H1n := Lib.hid (H1.out.next hb); clear HB hb H0 H1 x0 x1 x2 y0 y1; have HB := HB2; clear HB2; have H0 := H0n; clear H0n; have H1 := H1n; clear H1n; have x0 := H0.out.c0; have x1 := H0.out.c1; have x2 := H0.out.c2; have y0 := H1.out.c0; have y1 := H1.out.c1)
    | (go_at_call 20; ((with_reducible refine (HC3.out _).mono ?_); rintro e w' ⟨rfl, hb⟩); have HB2 := Lib.hid ((HB.out.trans (hb.mono HB.out.size)).alloc (HB.out.trans (hb.mono HB.out.size)).size (.cells #[.int .i64 (v3), .int .i64 (v4)] 22)); have H0n := Lib.hid ((H0.out.next hb).alloc (.cells #[.int .i64 (v3), .int .i64 (v4)] 22)); have H1n := Lib.hid ((H1.out.next hb).alloc (.cells #[.int .i64 (v3), .int .i64 (v4)] 22)); have HX := Lib.hid (R2.new w' (v3) (v4)); clear HB hb H0 H1 x0 x1 x2 y0 y1; have HB := HB2; clear HB2; have H0 := H0n; clear H0n; have H1 := H1n; clear H1n; have x0 := H0.out.c0; have x1 := H0.out.c1; have x2 := H0.out.c2; have y0 := H1.out.c0; have y1 := H1.out.c1; have u0 := HX.out.c0; have u1 := HX.out.c1)
    | (go_at_call 21; ((with_reducible refine (HC4.out _).mono ?_); rintro e w' ⟨rfl, hb⟩); have HB2 := Lib.hid ((HB.out.trans (hb.mono HB.out.size)).alloc (HB.out.trans (hb.mono HB.out.size)).size (.cells #[.int .i64 (v3), .int .i64 (v4)] 22)); have H0n := Lib.hid ((H0.out.next hb).alloc (.cells #[.int .i64 (v3), .int .i64 (v4)] 22)); have H1n := Lib.hid ((H1.out.next hb).alloc (.cells #[.int .i64 (v3), .int .i64 (v4)] 22)); have HXn := Lib.hid ((HX.out.next hb).alloc (.cells #[.int .i64 (v3), .int .i64 (v4)] 22)); have HY := Lib.hid (R2.new w' (v3) (v4)); clear HB hb H0 H1 HX x0 x1 x2 y0 y1 u0 u1; have HB := HB2; clear HB2; have H0 := H0n; clear H0n; have H1 := H1n; clear H1n; have HX := HXn; clear HXn; have x0 := H0.out.c0; have x1 := H0.out.c1; have x2 := H0.out.c2; have y0 := H1.out.c0; have y1 := H1.out.c1; have u0 := HX.out.c0; have u1 := HX.out.c1; have z0 := HY.out.c0; have z1 := HY.out.c1)
    | (go_at_call 17; ((with_reducible refine (awake_any _ (HL.out.next HB.out)).mono ?_); rintro e w' ⟨rfl, hb⟩); have HB2 := Lib.hid (HB.out.trans (hb.mono HB.out.size)); have H0n := Lib.hid (H0.out.next hb); have H1n := Lib.hid (H1.out.next hb); have HXn := Lib.hid (HX.out.next hb); have HYn := Lib.hid (HY.out.next hb); clear HB hb H0 H1 HX HY x0 x1 x2 y0 y1 u0 u1 z0 z1; have HB := HB2; clear HB2; have H0 := H0n; clear H0n; have H1 := H1n; clear H1n; have HX := HXn; clear HXn; have HY := HYn; clear HYn; have x0 := H0.out.c0; have x1 := H0.out.c1; have x2 := H0.out.c2; have y0 := H1.out.c0; have y1 := H1.out.c1; have u0 := HX.out.c0; have u1 := HX.out.c1; have z0 := HY.out.c0; have z1 := HY.out.c1))
  go_ret
  exact ⟨rfl, HB.out⟩
set_option maxRecDepth 100000 in
set_option maxHeartbeats 8000000 in
theorem lawFits_any (r a b s c d : Int) (w : World) (hw : Lay w) :
    Calls Tryd.prog 6 #[P3 r a b, P3 s c d] w fun e w' => e = .returned (.bool true) ∧ Below w.heap.size w w' := by
  have HL := Lib.hid hw
  clear hw
  obtain ⟨v1, hv1⟩ : ∃ v, v = ftR r a b s c d := ⟨_, rfl⟩
  obtain ⟨v2, hv2⟩ : ∃ v, v = ft0 r a b s c d := ⟨_, rfl⟩
  obtain ⟨v3, hv3⟩ : ∃ v, v = ft1 r a b s c d := ⟨_, rfl⟩
  obtain ⟨v4, hv4⟩ : ∃ v, v = ftE r a b s c d := ⟨_, rfl⟩
  have HC1 : Hid (∀ W, Calls Tryd.prog 28 #[.int .i64 r, P2 a b, .int .i64 s, P2 c d] W fun e w' => e = .returned (.tuple #[.int .i64 v1, P2 v2 v3, .int .i64 v4]) ∧ Below W.heap.size W w') := fun W => by rw [hv1, hv2, hv3, hv4]; exact fits_any r a b s c d W
  have HC2 : Hid (∀ W, Calls Tryd.prog 29 #[.int .i64 r, P2 a b, .int .i64 s, P2 c d] W fun e w' => e = .returned (.tuple #[.int .i64 v1, P2 v2 v3, .int .i64 v4]) ∧ Below W.heap.size W w') := fun W => by rw [hv1, hv2, hv3, hv4]; exact rfits_any r a b s c d W
  clear hv1 hv2 hv3 hv4
  have HQ := fun W => eq2t v2 v3 W
  have HB := Lib.hid (((Below.refl w.heap.size w).alloc (Nat.le_refl _) (.cells #[.int .i64 r, .int .i64 a, .int .i64 b] 24)).alloc (by simp) (.cells #[.int .i64 s, .int .i64 c, .int .i64 d] 24))
  have H0 := Lib.hid ((R3.new w r a b).alloc (.cells #[.int .i64 s, .int .i64 c, .int .i64 d] 24))
  have H1 : Hid (R3 ((w.alloc (.cells #[.int .i64 r, .int .i64 a, .int .i64 b] 24)).alloc (.cells #[.int .i64 s, .int .i64 c, .int .i64 d] 24)) (w.heap.size + 1) s c d) := by have := R3.new (w.alloc (.cells #[.int .i64 r, .int .i64 a, .int .i64 b] 24)) s c d; unfold Hid; simpa using this
  have x0 := H0.out.c0
  have x1 := H0.out.c1
  have x2 := H0.out.c2
  have y0 := H1.out.c0
  have y1 := H1.out.c1
  have y2 := H1.out.c2
  go_enter Tryd.func6, Tryd.ntmps6
  go_wp2_with (first
    | (go_at_call 28; ((with_reducible refine (HC1.out _).mono ?_); rintro e w' ⟨rfl, hb⟩); have HB2 := Lib.hid ((HB.out.trans (hb.mono HB.out.size)).alloc (HB.out.trans (hb.mono HB.out.size)).size (.cells #[.int .i64 (v2), .int .i64 (v3)] 22)); have H0n := Lib.hid ((H0.out.next hb).alloc (.cells #[.int .i64 (v2), .int .i64 (v3)] 22)); have H1n := Lib.hid ((H1.out.next hb).alloc (.cells #[.int .i64 (v2), .int .i64 (v3)] 22)); have HX := Lib.hid (R2.new w' (v2) (v3)); clear HB hb H0 H1 x0 x1 x2 y0 y1 y2; have HB := HB2; clear HB2; have H0 := H0n; clear H0n; have H1 := H1n; clear H1n; have x0 := H0.out.c0; have x1 := H0.out.c1; have x2 := H0.out.c2; have y0 := H1.out.c0; have y1 := H1.out.c1; have y2 := H1.out.c2; have u0 := HX.out.c0; have u1 := HX.out.c1)
    | (go_at_call 29; ((with_reducible refine (HC2.out _).mono ?_); rintro e w' ⟨rfl, hb⟩); have HB2 := Lib.hid ((HB.out.trans (hb.mono HB.out.size)).alloc (HB.out.trans (hb.mono HB.out.size)).size (.cells #[.int .i64 (v2), .int .i64 (v3)] 22)); have H0n := Lib.hid ((H0.out.next hb).alloc (.cells #[.int .i64 (v2), .int .i64 (v3)] 22)); have H1n := Lib.hid ((H1.out.next hb).alloc (.cells #[.int .i64 (v2), .int .i64 (v3)] 22)); have HXn := Lib.hid ((HX.out.next hb).alloc (.cells #[.int .i64 (v2), .int .i64 (v3)] 22)); have HY := Lib.hid (R2.new w' (v2) (v3)); clear HB hb H0 H1 HX x0 x1 x2 y0 y1 y2 u0 u1; have HB := HB2; clear HB2; have H0 := H0n; clear H0n; have H1 := H1n; clear H1n; have HX := HXn; clear HXn; have x0 := H0.out.c0; have x1 := H0.out.c1; have x2 := H0.out.c2; have y0 := H1.out.c0; have y1 := H1.out.c1; have y2 := H1.out.c2; have u0 := HX.out.c0; have u1 := HX.out.c1; have z0 := HY.out.c0; have z1 := HY.out.c1)
    | (go_at_call 17; ((with_reducible refine (awake_any _ (HL.out.next HB.out)).mono ?_); rintro e w' ⟨rfl, hb⟩); have HB2 := Lib.hid (HB.out.trans (hb.mono HB.out.size)); have H0n := Lib.hid (H0.out.next hb); have H1n := Lib.hid (H1.out.next hb); have HXn := Lib.hid (HX.out.next hb); have HYn := Lib.hid (HY.out.next hb); clear HB hb H0 H1 HX HY x0 x1 x2 y0 y1 y2 u0 u1 z0 z1; have HB := HB2; clear HB2; have H0 := H0n; clear H0n; have H1 := H1n; clear H1n; have HX := HXn; clear HXn; have HY := HYn; clear HYn; have x0 := H0.out.c0; have x1 := H0.out.c1; have x2 := H0.out.c2; have y0 := H1.out.c0; have y1 := H1.out.c1; have y2 := H1.out.c2; have u0 := HX.out.c0; have u1 := HX.out.c1; have z0 := HY.out.c0; have z1 := HY.out.c1))
  go_ret
  exact ⟨rfl, HB.out⟩
end Go.Proofs.YtnojidecfmpdjaaDoor
