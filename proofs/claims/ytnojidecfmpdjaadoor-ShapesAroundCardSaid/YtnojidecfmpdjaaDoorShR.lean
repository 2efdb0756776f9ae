/- The law ShapesAround as a walk. -/
import Derived.Test.YtnojidecfmpdjaaDoorShO
import Derived.Test.YtnojidecfmpdjaaDoorShP
namespace Go.Proofs.YtnojidecfmpdjaaDoor
open Go.RowKit

theorem R2.put0 {w : World} {b : Nat} {x y : Int} (h : R2 w b x y) (u : Int) : R2 (w.setCell ⟨b, 0, none⟩ (.int .i64 u)) b u y := heap_setCell_same w b 0 _ _ (.int .i64 u) h
theorem R2.put1 {w : World} {b : Nat} {x y : Int} (h : R2 w b x y) (u : Int) : R2 (w.setCell ⟨b, 1, none⟩ (.int .i64 u)) b x u := heap_setCell_same w b 1 _ _ (.int .i64 u) h
theorem R2.off1 {w : World} {b : Nat} {x y : Int} (h : R2 w b x y) (g : Addr) (hne : b ≠ g.block) (u : Value) : R2 (w.setCell g u) b x y := by
  unfold R2 at h ⊢; rw [heap_setCell_other _ _ _ _ hne]; exact h
theorem R3.off1 {w : World} {b : Nat} {x y z : Int} (h : R3 w b x y z) (g : Addr) (hne : b ≠ g.block) (u : Value) : R3 (w.setCell g u) b x y z := by
  unfold R3 at h ⊢; rw [heap_setCell_other _ _ _ _ hne]; exact h
theorem pl_in {r a b p q : Int} (hs : Sh r a b) (h : plE r a b p q = 0) : (ix0 r a b (plV r a b p q) = p ∧ ix1 r a b (plV r a b p q) = q ∧ ixE r a b (plV r a b p q) = 0) ∧ -9223372036854775808 ≤ plV r a b p q ∧ plV r a b p q ≤ 9223372036854775807 := by
  have hh : 0 ≤ p ∧ p < mxa r a ∧ 0 ≤ q ∧ q < mxb r b := by
    unfold plE at h
    rw [if_pos (sh_ok hs)] at h
    by_cases c : 0 ≤ p ∧ p < mxa r a ∧ 0 ≤ q ∧ q < mxb r b
    · exact c
    · rw [if_neg c] at h; exact absurd h (by decide)
  obtain ⟨p0, p1, q0, q1⟩ := hh
  have e : plV r a b p q = p * mxb r b + q := by unfold plV; rw [if_pos h]
  rw [e]
  obtain ⟨_, _, _, _, m4⟩ := hs.mx
  have hc := mx_cn r a b hs.bd.1
  have l1 : 0 ≤ p * mxb r b := Int.mul_nonneg p0 (by omega)
  have l2 : (p + 1) * mxb r b ≤ mxa r a * mxb r b := Int.mul_le_mul_of_nonneg_right (by omega) (by omega)
  rw [Int.add_mul] at l2
  have hE : ixE r a b (p * mxb r b + q) = 0 := by unfold ixE; rw [if_pos (sh_ok hs), if_pos ⟨by omega, by omega⟩]
  obtain ⟨e1, m0, m1, q2⟩ := dm (k := p * mxb r b + q) (y := mxb r b) (by omega) (by omega)
  obtain ⟨u1, u2⟩ := dm_uniq m0 m1 q0 q1 e1
  refine ⟨⟨?_, ?_, hE⟩, by omega, by omega⟩
  · unfold ix0; rw [if_pos hE]; exact u1
  · unfold ix1; rw [if_pos hE]; exact u2
theorem pl_no {r a b p q : Int} (hs : Sh r a b) (h : ¬ (0 ≤ p ∧ p < mxa r a ∧ 0 ≤ q ∧ q < mxb r b)) : plV r a b p q = 0 ∧ plE r a b p q = 4 := by
  have e : plE r a b p q = 4 := by unfold plE; rw [if_pos (sh_ok hs), if_neg h]
  exact ⟨by unfold plV; rw [e]; rfl, e⟩
theorem mxa_max {r a b : Int} (hs : Sh r a b) : mxa r a ≤ max a 1 ∧ mxb r b ≤ max b 1 := by
  obtain ⟨h0, h1, _, _, h4, h5, h6, h7⟩ := hs.bd
  unfold mxa mxb
  constructor
  · split <;> omega
  · split <;> omega
set_option maxRecDepth 100000 in
set_option maxHeartbeats 8000000 in
theorem around_no (r a b p q : Int) (w : World) (hw : Lay w) (hk : ckS r a b ≠ 0) :
    Calls Tryd.prog 8 #[P3 r a b, P2 p q] w fun e w' => e = .returned (.bool true) ∧ Below w.heap.size w w' := by
  have HL := Lib.hid hw
  clear hw
  have HB := Lib.hid (((Below.refl w.heap.size w).alloc (Nat.le_refl _) (.cells #[.int .i64 r, .int .i64 a, .int .i64 b] 24)).alloc (by simp) (.cells #[.int .i64 p, .int .i64 q] 22))
  have H0 := Lib.hid ((R3.new w r a b).alloc (.cells #[.int .i64 p, .int .i64 q] 22))
  have H1 : Hid (R2 ((w.alloc (.cells #[.int .i64 r, .int .i64 a, .int .i64 b] 24)).alloc (.cells #[.int .i64 p, .int .i64 q] 22)) (w.heap.size + 1) p q) := by have := R2.new (w.alloc (.cells #[.int .i64 r, .int .i64 a, .int .i64 b] 24)) p q; unfold Hid; simpa using this
  have x0 := H0.out.c0
  have x1 := H0.out.c1
  have x2 := H0.out.c2
  have y0 := H1.out.c0
  have y1 := H1.out.c1
  obtain ⟨k, hkk⟩ : ∃ k, k = ckS r a b := ⟨_, rfl⟩
  have HC1 : Hid (∀ W, Calls Tryd.prog 18 #[.int .i64 r, P2 a b, P2 p q] W fun e w' => e = .returned (.tuple #[.int .i64 0, .int .i64 k]) ∧ Below W.heap.size W w') := fun W => by have := place_any r a b p q W; unfold plV plE at this; rwa [if_neg hk, if_neg hk, ← hkk] at this
  have HC2 : Hid (∀ W, Calls Tryd.prog 15 #[.int .i64 r, P2 a b] W fun e w' => e = .returned (.int .i64 k) ∧ Below W.heap.size W w') := fun W => by rw [hkk]; exact check_any r a b W
  rw [← hkk] at hk
  have k1 : (k != 0) = true := by simpa using hk
  have k2 : (k == 0) = false := by simpa using hk
  clear hk hkk
  go_enter Tryd.func8, Tryd.ntmps8
  go_wp2_with (first
    | (go_at_call 18; ((with_reducible refine (HC1.out _).mono ?_); rintro e w' ⟨rfl, hb⟩); have HB2 := Lib.hid (HB.out.trans (hb.mono HB.out.size)); have H0n := Lib.hid (H0.out.next hb); have H1n := Lib.hid (H1.out.next hb); clear HB hb H0 H1 x0 x1 x2 y0 y1; have HB := HB2; clear HB2; have H0 := H0n; clear H0n; have H1 := H1n; clear H1n; have x0 := H0.out.c0; have x1 := H0.out.c1; have x2 := H0.out.c2; have y0 := H1.out.c0; have y1 := H1.out.c1)
    | (go_at_call 15; ((with_reducible refine (HC2.out _).mono ?_); rintro e w' ⟨rfl, hb⟩); have HB2 := Lib.hid (HB.out.trans (hb.mono HB.out.size)); have H0n := Lib.hid (H0.out.next hb); have H1n := Lib.hid (H1.out.next hb); clear HB hb H0 H1 x0 x1 x2 y0 y1; have HB := HB2; clear HB2; have H0 := H0n; clear H0n; have H1 := H1n; clear H1n; have x0 := H0.out.c0; have x1 := H0.out.c1; have x2 := H0.out.c2; have y0 := H1.out.c0; have y1 := H1.out.c1)
    | (go_at_call 17; ((with_reducible refine (awake_any _ (HL.out.next HB.out)).mono ?_); rintro e w' ⟨rfl, hb⟩); have HB2 := Lib.hid (HB.out.trans (hb.mono HB.out.size)); have H0n := Lib.hid (H0.out.next hb); have H1n := Lib.hid (H1.out.next hb); clear HB hb H0 H1 x0 x1 x2 y0 y1; have HB := HB2; clear HB2; have H0 := H0n; clear H0n; have H1 := H1n; clear H1n; have x0 := H0.out.c0; have x1 := H0.out.c1; have x2 := H0.out.c2; have y0 := H1.out.c0; have y1 := H1.out.c1))
  go_ret
  exact ⟨rfl, HB.out⟩
set_option maxRecDepth 100000 in
set_option maxHeartbeats 8000000 in
theorem around_in (r a b p q : Int) (w : World) (hw : Lay w) (hs : Sh r a b) (hp : plE r a b p q = 0) :
    Calls Tryd.prog 8 #[P3 r a b, P2 p q] w fun e w' => e = .returned (.bool true) ∧ Below w.heap.size w w' := by
  have HL := Lib.hid hw
  clear hw
  have HB := Lib.hid (((Below.refl w.heap.size w).alloc (Nat.le_refl _) (.cells #[.int .i64 r, .int .i64 a, .int .i64 b] 24)).alloc (by simp) (.cells #[.int .i64 p, .int .i64 q] 22))
  have H0 := Lib.hid ((R3.new w r a b).alloc (.cells #[.int .i64 p, .int .i64 q] 22))
  have H1 : Hid (R2 ((w.alloc (.cells #[.int .i64 r, .int .i64 a, .int .i64 b] 24)).alloc (.cells #[.int .i64 p, .int .i64 q] 22)) (w.heap.size + 1) p q) := by have := R2.new (w.alloc (.cells #[.int .i64 r, .int .i64 a, .int .i64 b] 24)) p q; unfold Hid; simpa using this
  have x0 := H0.out.c0
  have x1 := H0.out.c1
  have x2 := H0.out.c2
  have y0 := H1.out.c0
  have y1 := H1.out.c1
  obtain ⟨v, hv⟩ : ∃ v, v = plV r a b p q := ⟨_, rfl⟩
  have HC1 : Hid (∀ W, Calls Tryd.prog 18 #[.int .i64 r, P2 a b, P2 p q] W fun e w' => e = .returned (.tuple #[.int .i64 v, .int .i64 0]) ∧ Below W.heap.size W w') := fun W => by have := place_any r a b p q W; rwa [hp, ← hv] at this
  have HCi : Hid (∀ W, Calls Tryd.prog 20 #[.int .i64 r, P2 a b, .int .i64 v] W fun e w' => e = .returned (.tuple #[P2 p q, .int .i64 0]) ∧ Below W.heap.size W w') := fun W => by
    obtain ⟨⟨e0, e1, e2⟩, e3, e4⟩ := pl_in hs hp
    have h := index_any r a b v W (by rw [hv]; exact e3) (by rw [hv]; exact e4)
    rw [← hv] at e0 e1 e2
    rwa [e0, e1, e2] at h
  clear hv
  have HC2 : Hid (∀ W, Calls Tryd.prog 15 #[.int .i64 r, P2 a b] W fun e w' => e = .returned (.int .i64 0) ∧ Below W.heap.size W w') := fun W => by have := check_any r a b W; rwa [sh_ok hs] at this
  have HA0 : Hid (∀ W, Calls Tryd.prog 18 #[.int .i64 r, P2 a b, P2 (-1) q] W fun e w' => e = .returned (.tuple #[.int .i64 0, .int .i64 4]) ∧ Below W.heap.size W w') := fun W => by have := place_any r a b (-1) q W; obtain ⟨e0, e1⟩ := pl_no (p := (-1)) (q := q) hs (by omega); rwa [e0, e1] at this
  have HA1 : Hid (∀ W, Calls Tryd.prog 18 #[.int .i64 r, P2 a b, P2 (max a 1) q] W fun e w' => e = .returned (.tuple #[.int .i64 0, .int .i64 4]) ∧ Below W.heap.size W w') := fun W => by have := place_any r a b (max a 1) q W; obtain ⟨e0, e1⟩ := pl_no (p := (max a 1)) (q := q) hs (by have := (mxa_max hs).1; omega); rwa [e0, e1] at this
  have HB0 : Hid (∀ W, Calls Tryd.prog 18 #[.int .i64 r, P2 a b, P2 p (-1)] W fun e w' => e = .returned (.tuple #[.int .i64 0, .int .i64 4]) ∧ Below W.heap.size W w') := fun W => by have := place_any r a b p (-1) W; obtain ⟨e0, e1⟩ := pl_no (p := p) (q := (-1)) hs (by omega); rwa [e0, e1] at this
  have HB1 : Hid (∀ W, Calls Tryd.prog 18 #[.int .i64 r, P2 a b, P2 p (max b 1)] W fun e w' => e = .returned (.tuple #[.int .i64 0, .int .i64 4]) ∧ Below W.heap.size W w') := fun W => by have := place_any r a b p (max b 1) W; obtain ⟨e0, e1⟩ := pl_no (p := p) (q := (max b 1)) hs (by have := (mxa_max hs).2; omega); rwa [e0, e1] at this
  have HQ := fun W => eq2t p q W
  clear hp hs
  go_enter Tryd.func8, Tryd.ntmps8
  go_wp2_with (first
    | (go_at_call 18; ((with_reducible refine (HC1.out _).mono ?_); rintro e w' ⟨rfl, hb⟩); have HB2 := Lib.hid (HB.out.trans (hb.mono HB.out.size)); have H0n := Lib.hid (H0.out.next hb); have H1n := Lib.hid (H1.out.next hb); clear HB hb H0 H1 x0 x1 x2 y0 y1; have HB := HB2; clear HB2; have H0 := H0n; clear H0n; have H1 := H1n; clear H1n; have x0 := H0.out.c0; have x1 := H0.out.c1; have x2 := H0.out.c2; have y0 := H1.out.c0; have y1 := H1.out.c1)
    | (go_at_call 20; ((with_reducible refine (HCi.out _).mono ?_); rintro e w' ⟨rfl, hb⟩); have HB2 := Lib.hid ((HB.out.trans (hb.mono HB.out.size)).alloc (HB.out.trans (hb.mono HB.out.size)).size (.cells #[.int .i64 (p), .int .i64 (q)] 22)); have H0n := Lib.hid ((H0.out.next hb).alloc (.cells #[.int .i64 (p), .int .i64 (q)] 22)); have H1n := Lib.hid ((H1.out.next hb).alloc (.cells #[.int .i64 (p), .int .i64 (q)] 22)); have HX := Lib.hid (R2.new w' (p) (q)); clear HB hb H0 H1 x0 x1 x2 y0 y1; have HB := HB2; clear HB2; have H0 := H0n; clear H0n; have H1 := H1n; clear H1n; have x0 := H0.out.c0; have x1 := H0.out.c1; have x2 := H0.out.c2; have y0 := H1.out.c0; have y1 := H1.out.c1; have u0 := HX.out.c0; have u1 := HX.out.c1)
    | (go_at_call 15; ((with_reducible refine (HC2.out _).mono ?_); rintro e w' ⟨rfl, hb⟩); have HB2 := Lib.hid (HB.out.trans (hb.mono HB.out.size)); have H0n := Lib.hid (H0.out.next hb); have H1n := Lib.hid (H1.out.next hb); have HXn := Lib.hid (HX.out.next hb); clear HB hb H0 H1 HX x0 x1 x2 y0 y1 u0 u1; have HB := HB2; clear HB2; have H0 := H0n; clear H0n; have H1 := H1n; clear H1n; have HX := HXn; clear HXn; have x0 := H0.out.c0; have x1 := H0.out.c1; have x2 := H0.out.c2; have y0 := H1.out.c0; have y1 := H1.out.c1; have u0 := HX.out.c0; have u1 := HX.out.c1))
  refine wp_loop_rounds 4 ?_
  clear HX u0 u1
  have HBa := Lib.hid (HB.out.alloc HB.out.size (.cells #[.int .i64 (-1), .int .i64 q] 22))
  have H0a := Lib.hid (H0.out.alloc (.cells #[.int .i64 (-1), .int .i64 q] 22))
  have H1a := Lib.hid (H1.out.alloc (.cells #[.int .i64 (-1), .int .i64 q] 22))
  have HYa := Lib.hid (R2.new w' (-1) q)
  have LY : Hid (w.heap.size + 1 < w'.heap.size) := H1.out.lt
  have xa0 := H0a.out.c0
  have xa1 := H0a.out.c1
  have xa2 := H0a.out.c2
  have ya0 := HYa.out.c0
  have ya1 := HYa.out.c1
  rw [rounds_succ]
  go_wp2_with (first
    | (go_at_call 18; ((with_reducible refine (HA0.out _).mono ?_); rintro e wy ⟨rfl, hb⟩); have HBb := Lib.hid (HBa.out.trans (hb.mono HBa.out.size)); have H0b := Lib.hid (H0a.out.next hb); have H1b := Lib.hid (H1a.out.next hb); have HYb := Lib.hid (HYa.out.next hb); clear hb xa0 xa1 xa2 ya0 ya1 HBa H0a H1a HYa; have HBc := Lib.hid (HBb.out.setCell (p := ⟨w'.heap.size, 0, none⟩) (Nat.le_of_lt (Nat.lt_of_succ_lt LY.out)) (.int .i64 (max a 1))); have H0c := Lib.hid (H0b.out.off1 ⟨w'.heap.size, 0, none⟩ (Nat.ne_of_lt (Nat.lt_of_succ_lt LY.out)) (.int .i64 (max a 1))); have H1c := Lib.hid (H1b.out.off1 ⟨w'.heap.size, 0, none⟩ (Nat.ne_of_lt LY.out) (.int .i64 (max a 1))); have HYc := Lib.hid (HYb.out.put0 (max a 1)); have xb0 := H0b.out.c0; have xb1 := H0b.out.c1; have xb2 := H0b.out.c2; have yb := HYb.out.c0; have fb := HYb.out.f0; have xc0 := H0c.out.c0; have xc1 := H0c.out.c1; have xc2 := H0c.out.c2; have yc0 := HYc.out.c0; have yc1 := HYc.out.c1)
    | (go_at_call 18; ((with_reducible refine (HA1.out _).mono ?_); rintro e wz ⟨rfl, hb⟩); have HBd := Lib.hid (HBc.out.trans (hb.mono HBc.out.size)); have H0d := Lib.hid (H0c.out.next hb); have H1d := Lib.hid (H1c.out.next hb); clear hb HB H0 H1 HBb H0b H1b HYb HBc H0c H1c HYc LY xb0 xb1 xb2 yb fb xc0 xc1 xc2 yc0 yc1 x0 x1 x2 y0 y1; have HB := HBd; have H0 := H0d; have H1 := H1d; clear HBd H0d H1d; have x0 := H0.out.c0; have x1 := H0.out.c1; have x2 := H0.out.c2; have y0 := H1.out.c0; have y1 := H1.out.c1))
  have HBa := Lib.hid (HB.out.alloc HB.out.size (.cells #[.int .i64 p, .int .i64 (-1)] 22))
  have H0a := Lib.hid (H0.out.alloc (.cells #[.int .i64 p, .int .i64 (-1)] 22))
  have H1a := Lib.hid (H1.out.alloc (.cells #[.int .i64 p, .int .i64 (-1)] 22))
  have HYa := Lib.hid (R2.new wz p (-1))
  have LY : Hid (w.heap.size + 1 < wz.heap.size) := H1.out.lt
  have xa0 := H0a.out.c0
  have xa1 := H0a.out.c1
  have xa2 := H0a.out.c2
  have ya0 := HYa.out.c0
  have ya1 := HYa.out.c1
  rw [rounds_succ]
  go_wp2_with (first
    | (go_at_call 18; ((with_reducible refine (HB0.out _).mono ?_); rintro e wy ⟨rfl, hb⟩); have HBb := Lib.hid (HBa.out.trans (hb.mono HBa.out.size)); have H0b := Lib.hid (H0a.out.next hb); have H1b := Lib.hid (H1a.out.next hb); have HYb := Lib.hid (HYa.out.next hb); clear hb xa0 xa1 xa2 ya0 ya1 HBa H0a H1a HYa; have HBc := Lib.hid (HBb.out.setCell (p := ⟨wz.heap.size, 1, none⟩) (Nat.le_of_lt (Nat.lt_of_succ_lt LY.out)) (.int .i64 (max b 1))); have H0c := Lib.hid (H0b.out.off1 ⟨wz.heap.size, 1, none⟩ (Nat.ne_of_lt (Nat.lt_of_succ_lt LY.out)) (.int .i64 (max b 1))); have H1c := Lib.hid (H1b.out.off1 ⟨wz.heap.size, 1, none⟩ (Nat.ne_of_lt LY.out) (.int .i64 (max b 1))); have HYc := Lib.hid (HYb.out.put1 (max b 1)); have xb0 := H0b.out.c0; have xb1 := H0b.out.c1; have xb2 := H0b.out.c2; have yb := HYb.out.c1; have fb := HYb.out.f1; have xc0 := H0c.out.c0; have xc1 := H0c.out.c1; have xc2 := H0c.out.c2; have yc0 := HYc.out.c0; have yc1 := HYc.out.c1)
    | (go_at_call 18; ((with_reducible refine (HB1.out _).mono ?_); rintro e wz ⟨rfl, hb⟩); have HBd := Lib.hid (HBc.out.trans (hb.mono HBc.out.size)); have H0d := Lib.hid (H0c.out.next hb); have H1d := Lib.hid (H1c.out.next hb); clear hb HB H0 H1 HBb H0b H1b HYb HBc H0c H1c HYc LY xb0 xb1 xb2 yb fb xc0 xc1 xc2 yc0 yc1 x0 x1 x2 y0 y1; have HB := HBd; have H0 := H0d; have H1 := H1d; clear HBd H0d H1d; have x0 := H0.out.c0; have x1 := H0.out.c1; have x2 := H0.out.c2; have y0 := H1.out.c0; have y1 := H1.out.c1))
  rw [rounds_succ]
  go_wp2_with (go_at_call 17; ((with_reducible refine (awake_any _ (HL.out.next HB.out)).mono ?_); rintro e w' ⟨rfl, hb⟩); have HB2 := Lib.hid (HB.out.trans (hb.mono HB.out.size)); have H0n := Lib.hid (H0.out.next hb); have H1n := Lib.hid (H1.out.next hb); clear HB hb H0 H1 x0 x1 x2 y0 y1; have HB := HB2; clear HB2; have H0 := H0n; clear H0n; have H1 := H1n; clear H1n; have x0 := H0.out.c0; have x1 := H0.out.c1; have x2 := H0.out.c2; have y0 := H1.out.c0; have y1 := H1.out.c1)
  go_ret
  exact ⟨rfl, HB.out⟩
set_option maxRecDepth 100000 in
set_option maxHeartbeats 8000000 in
theorem around_out (r a b p q : Int) (w : World) (hw : Lay w) (hs : Sh r a b) (hp : plE r a b p q ≠ 0) :
    Calls Tryd.prog 8 #[P3 r a b, P2 p q] w fun e w' => e = .returned (.bool true) ∧ Below w.heap.size w w' := by
  have HL := Lib.hid hw
  clear hw
  have HB := Lib.hid (((Below.refl w.heap.size w).alloc (Nat.le_refl _) (.cells #[.int .i64 r, .int .i64 a, .int .i64 b] 24)).alloc (by simp) (.cells #[.int .i64 p, .int .i64 q] 22))
  have H0 := Lib.hid ((R3.new w r a b).alloc (.cells #[.int .i64 p, .int .i64 q] 22))
  have H1 : Hid (R2 ((w.alloc (.cells #[.int .i64 r, .int .i64 a, .int .i64 b] 24)).alloc (.cells #[.int .i64 p, .int .i64 q] 22)) (w.heap.size + 1) p q) := by have := R2.new (w.alloc (.cells #[.int .i64 r, .int .i64 a, .int .i64 b] 24)) p q; unfold Hid; simpa using this
  have x0 := H0.out.c0
  have x1 := H0.out.c1
  have x2 := H0.out.c2
  have y0 := H1.out.c0
  have y1 := H1.out.c1
  have hno : ¬ (0 ≤ p ∧ p < mxa r a ∧ 0 ≤ q ∧ q < mxb r b) := fun c => hp (by unfold plE; rw [if_pos (sh_ok hs), if_pos c])
  have HC1 : Hid (∀ W, Calls Tryd.prog 18 #[.int .i64 r, P2 a b, P2 p q] W fun e w' => e = .returned (.tuple #[.int .i64 0, .int .i64 4]) ∧ Below W.heap.size W w') := fun W => by have := place_any r a b p q W; obtain ⟨e0, e1⟩ := pl_no hs hno; rwa [e0, e1] at this
  clear hno
  have HC2 : Hid (∀ W, Calls Tryd.prog 15 #[.int .i64 r, P2 a b] W fun e w' => e = .returned (.int .i64 0) ∧ Below W.heap.size W w') := fun W => by have := check_any r a b W; rwa [sh_ok hs] at this
  have HA0 : Hid (∀ W, Calls Tryd.prog 18 #[.int .i64 r, P2 a b, P2 (-1) q] W fun e w' => e = .returned (.tuple #[.int .i64 0, .int .i64 4]) ∧ Below W.heap.size W w') := fun W => by have := place_any r a b (-1) q W; obtain ⟨e0, e1⟩ := pl_no (p := (-1)) (q := q) hs (by omega); rwa [e0, e1] at this
  have HA1 : Hid (∀ W, Calls Tryd.prog 18 #[.int .i64 r, P2 a b, P2 (max a 1) q] W fun e w' => e = .returned (.tuple #[.int .i64 0, .int .i64 4]) ∧ Below W.heap.size W w') := fun W => by have := place_any r a b (max a 1) q W; obtain ⟨e0, e1⟩ := pl_no (p := (max a 1)) (q := q) hs (by have := (mxa_max hs).1; omega); rwa [e0, e1] at this
  have HB0 : Hid (∀ W, Calls Tryd.prog 18 #[.int .i64 r, P2 a b, P2 p (-1)] W fun e w' => e = .returned (.tuple #[.int .i64 0, .int .i64 4]) ∧ Below W.heap.size W w') := fun W => by have := place_any r a b p (-1) W; obtain ⟨e0, e1⟩ := pl_no (p := p) (q := (-1)) hs (by omega); rwa [e0, e1] at this
  have HB1 : Hid (∀ W, Calls Tryd.prog 18 #[.int .i64 r, P2 a b, P2 p (max b 1)] W fun e w' => e = .returned (.tuple #[.int .i64 0, .int .i64 4]) ∧ Below W.heap.size W w') := fun W => by have := place_any r a b p (max b 1) W; obtain ⟨e0, e1⟩ := pl_no (p := p) (q := (max b 1)) hs (by have := (mxa_max hs).2; omega); rwa [e0, e1] at this
  have HQ := fun W => eq2t p q W
  clear hp hs
  go_enter Tryd.func8, Tryd.ntmps8
  go_wp2_with (first
    | (go_at_call 18; ((with_reducible refine (HC1.out _).mono ?_); rintro e w' ⟨rfl, hb⟩); have HB2 := Lib.hid (HB.out.trans (hb.mono HB.out.size)); have H0n := Lib.hid (H0.out.next hb); have H1n := Lib.hid (H1.out.next hb); clear HB hb H0 H1 x0 x1 x2 y0 y1; have HB := HB2; clear HB2; have H0 := H0n; clear H0n; have H1 := H1n; clear H1n; have x0 := H0.out.c0; have x1 := H0.out.c1; have x2 := H0.out.c2; have y0 := H1.out.c0; have y1 := H1.out.c1)
    | (go_at_call 15; ((with_reducible refine (HC2.out _).mono ?_); rintro e w' ⟨rfl, hb⟩); have HB2 := Lib.hid (HB.out.trans (hb.mono HB.out.size)); have H0n := Lib.hid (H0.out.next hb); have H1n := Lib.hid (H1.out.next hb); clear HB hb H0 H1 x0 x1 x2 y0 y1; have HB := HB2; clear HB2; have H0 := H0n; clear H0n; have H1 := H1n; clear H1n; have x0 := H0.out.c0; have x1 := H0.out.c1; have x2 := H0.out.c2; have y0 := H1.out.c0; have y1 := H1.out.c1))
  refine wp_loop_rounds 4 ?_
  have HBa := Lib.hid (HB.out.alloc HB.out.size (.cells #[.int .i64 (-1), .int .i64 q] 22))
  have H0a := Lib.hid (H0.out.alloc (.cells #[.int .i64 (-1), .int .i64 q] 22))
  have H1a := Lib.hid (H1.out.alloc (.cells #[.int .i64 (-1), .int .i64 q] 22))
  have HYa := Lib.hid (R2.new w' (-1) q)
  have LY : Hid (w.heap.size + 1 < w'.heap.size) := H1.out.lt
  have xa0 := H0a.out.c0
  have xa1 := H0a.out.c1
  have xa2 := H0a.out.c2
  have ya0 := HYa.out.c0
  have ya1 := HYa.out.c1
  rw [rounds_succ]
  go_wp2_with (first
    | (go_at_call 18; ((with_reducible refine (HA0.out _).mono ?_); rintro e wy ⟨rfl, hb⟩); have HBb := Lib.hid (HBa.out.trans (hb.mono HBa.out.size)); have H0b := Lib.hid (H0a.out.next hb); have H1b := Lib.hid (H1a.out.next hb); have HYb := Lib.hid (HYa.out.next hb); clear hb xa0 xa1 xa2 ya0 ya1 HBa H0a H1a HYa; have HBc := Lib.hid (HBb.out.setCell (p := ⟨w'.heap.size, 0, none⟩) (Nat.le_of_lt (Nat.lt_of_succ_lt LY.out)) (.int .i64 (max a 1))); have H0c := Lib.hid (H0b.out.off1 ⟨w'.heap.size, 0, none⟩ (Nat.ne_of_lt (Nat.lt_of_succ_lt LY.out)) (.int .i64 (max a 1))); have H1c := Lib.hid (H1b.out.off1 ⟨w'.heap.size, 0, none⟩ (Nat.ne_of_lt LY.out) (.int .i64 (max a 1))); have HYc := Lib.hid (HYb.out.put0 (max a 1)); have xb0 := H0b.out.c0; have xb1 := H0b.out.c1; have xb2 := H0b.out.c2; have yb := HYb.out.c0; have fb := HYb.out.f0; have xc0 := H0c.out.c0; have xc1 := H0c.out.c1; have xc2 := H0c.out.c2; have yc0 := HYc.out.c0; have yc1 := HYc.out.c1)
    | (go_at_call 18; ((with_reducible refine (HA1.out _).mono ?_); rintro e wz ⟨rfl, hb⟩); have HBd := Lib.hid (HBc.out.trans (hb.mono HBc.out.size)); have H0d := Lib.hid (H0c.out.next hb); have H1d := Lib.hid (H1c.out.next hb); clear hb HB H0 H1 HBb H0b H1b HYb HBc H0c H1c HYc LY xb0 xb1 xb2 yb fb xc0 xc1 xc2 yc0 yc1 x0 x1 x2 y0 y1; have HB := HBd; have H0 := H0d; have H1 := H1d; clear HBd H0d H1d; have x0 := H0.out.c0; have x1 := H0.out.c1; have x2 := H0.out.c2; have y0 := H1.out.c0; have y1 := H1.out.c1))
  have HBa := Lib.hid (HB.out.alloc HB.out.size (.cells #[.int .i64 p, .int .i64 (-1)] 22))
  have H0a := Lib.hid (H0.out.alloc (.cells #[.int .i64 p, .int .i64 (-1)] 22))
  have H1a := Lib.hid (H1.out.alloc (.cells #[.int .i64 p, .int .i64 (-1)] 22))
  have HYa := Lib.hid (R2.new wz p (-1))
  have LY : Hid (w.heap.size + 1 < wz.heap.size) := H1.out.lt
  have xa0 := H0a.out.c0
  have xa1 := H0a.out.c1
  have xa2 := H0a.out.c2
  have ya0 := HYa.out.c0
  have ya1 := HYa.out.c1
  rw [rounds_succ]
  go_wp2_with (first
    | (go_at_call 18; ((with_reducible refine (HB0.out _).mono ?_); rintro e wy ⟨rfl, hb⟩); have HBb := Lib.hid (HBa.out.trans (hb.mono HBa.out.size)); have H0b := Lib.hid (H0a.out.next hb); have H1b := Lib.hid (H1a.out.next hb); have HYb := Lib.hid (HYa.out.next hb); clear hb xa0 xa1 xa2 ya0 ya1 HBa H0a H1a HYa; have HBc := Lib.hid (HBb.out.setCell (p := ⟨wz.heap.size, 1, none⟩) (Nat.le_of_lt (Nat.lt_of_succ_lt LY.out)) (.int .i64 (max b 1))); have H0c := Lib.hid (H0b.out.off1 ⟨wz.heap.size, 1, none⟩ (Nat.ne_of_lt (Nat.lt_of_succ_lt LY.out)) (.int .i64 (max b 1))); have H1c := Lib.hid (H1b.out.off1 ⟨wz.heap.size, 1, none⟩ (Nat.ne_of_lt LY.out) (.int .i64 (max b 1))); have HYc := Lib.hid (HYb.out.put1 (max b 1)); have xb0 := H0b.out.c0; have xb1 := H0b.out.c1; have xb2 := H0b.out.c2; have yb := HYb.out.c1; have fb := HYb.out.f1; have xc0 := H0c.out.c0; have xc1 := H0c.out.c1; have xc2 := H0c.out.c2; have yc0 := HYc.out.c0; have yc1 := HYc.out.c1)
    | (go_at_call 18; ((with_reducible refine (HB1.out _).mono ?_); rintro e wz ⟨rfl, hb⟩); have HBd := Lib.hid (HBc.out.trans (hb.mono HBc.out.size)); have H0d := Lib.hid (H0c.out.next hb); have H1d := Lib.hid (H1c.out.next hb); clear hb HB H0 H1 HBb H0b H1b HYb HBc H0c H1c HYc LY xb0 xb1 xb2 yb fb xc0 xc1 xc2 yc0 yc1 x0 x1 x2 y0 y1; have HB := HBd; have H0 := H0d; have H1 := H1d; clear HBd H0d H1d; have x0 := H0.out.c0; have x1 := H0.out.c1; have x2 := H0.out.c2; have y0 := H1.out.c0; have y1 := H1.out.c1))
  rw [rounds_succ]
  go_wp2_with (go_at_call 17; ((with_reducible refine (awake_any _ (HL.out.next HB.out)).mono ?_); rintro e w' ⟨rfl, hb⟩); have HB2 := Lib.hid (HB.out.trans (hb.mono HB.out.size)); have H0n := Lib.hid (H0.out.next hb); have H1n := Lib.hid (H1.out.next hb); clear HB hb H0 H1 x0 x1 x2 y0 y1; have HB := HB2; clear HB2; have H0 := H0n; clear H0n; have H1 := H1n; clear H1n; have x0 := H0.out.c0; have x1 := H0.out.c1; have x2 := H0.out.c2; have y0 := H1.out.c0; have y1 := H1.out.c1)
  go_ret
  exact ⟨rfl, HB.out⟩

theorem lawAround_any (r a b p q : Int) (w : World) (hw : Lay w) :
    Calls Tryd.prog 8 #[P3 r a b, P2 p q] w fun e w' => e = .returned (.bool true) ∧ Below w.heap.size w w' := by
  rcases sh_dec r a b with ⟨hk, hs⟩ | ⟨hk, hs⟩
  · by_cases hp : plE r a b p q = 0
    · exact around_in r a b p q w hw hs hp
    · exact around_out r a b p q w hw hs hp
  · exact around_no r a b p q w hw hk
end Go.Proofs.YtnojidecfmpdjaaDoor
