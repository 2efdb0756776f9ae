/- The law ShapesSame as a walk: a scalar. -/
import Derived.Test.YtnojidecfmpdjaaDoorShT
namespace Go.Proofs.YtnojidecfmpdjaaDoor
open Go.RowKit

set_option maxRecDepth 100000 in
set_option maxHeartbeats 8000000 in
theorem same_s0_z (s c d : Int) (w : World) (hw : Lay w) (hs : Sh 0 0 0) (hf : ftE 0 0 0 s c d = 0) :
    Calls Tryd.prog 9 #[P3 0 0 0, P3 s c d] w fun e w' => e = .returned (.bool true) ∧ Below w.heap.size w w' := by
  have HL := Lib.hid hw
  clear hw
  have HB := Lib.hid (((Below.refl w.heap.size w).alloc (Nat.le_refl _) (.cells #[.int .i64 0, .int .i64 0, .int .i64 0] 24)).alloc (by simp) (.cells #[.int .i64 s, .int .i64 c, .int .i64 d] 24))
  have H0 := Lib.hid ((R3.new w 0 0 0).alloc (.cells #[.int .i64 s, .int .i64 c, .int .i64 d] 24))
  have H1 : Hid (R3 ((w.alloc (.cells #[.int .i64 0, .int .i64 0, .int .i64 0] 24)).alloc (.cells #[.int .i64 s, .int .i64 c, .int .i64 d] 24)) (w.heap.size + 1) s c d) := by have := R3.new (w.alloc (.cells #[.int .i64 0, .int .i64 0, .int .i64 0] 24)) s c d; unfold Hid; simpa using this
  have x0 := H0.out.c0
  have x1 := H0.out.c1
  have x2 := H0.out.c2
  have y0 := H1.out.c0
  have y1 := H1.out.c1
  have y2 := H1.out.c2
  obtain ⟨v1, hv1⟩ : ∃ v, v = ftR 0 0 0 s c d := ⟨_, rfl⟩
  obtain ⟨v2, hv2⟩ : ∃ v, v = ft0 0 0 0 s c d := ⟨_, rfl⟩
  obtain ⟨v3, hv3⟩ : ∃ v, v = ft1 0 0 0 s c d := ⟨_, rfl⟩
  have hn := ftE_sym 0 0 0 s c d hf
  have HC1 : Hid (∀ W, Calls Tryd.prog 28 #[.int .i64 0, P2 0 0, .int .i64 s, P2 c d] W fun e w' => e = .returned (.tuple #[.int .i64 v1, P2 v2 v3, .int .i64 0]) ∧ Below W.heap.size W w') := fun W => by have := fits_any 0 0 0 s c d W; rwa [hf, ← hv1, ← hv2, ← hv3] at this
  have HC2 : Hid (∀ W, Calls Tryd.prog 28 #[.int .i64 s, P2 c d, .int .i64 0, P2 0 0] W fun e w' => e = .returned (.tuple #[.int .i64 v1, P2 v2 v3, .int .i64 0]) ∧ Below W.heap.size W w') := fun W => by have := fits_any s c d 0 0 0 W; rwa [hn.1, ← hn.2.1, ← hn.2.2.1, ← hn.2.2.2, ← hv1, ← hv2, ← hv3] at this
  clear hn hf hv1 hv2 hv3
  have HC3 : Hid (∀ W, Calls Tryd.prog 15 #[.int .i64 0, P2 0 0] W fun e w' => e = .returned (.int .i64 0) ∧ Below W.heap.size W w') := fun W => by have := check_any 0 0 0 W; rwa [sh_ok hs] at this
  have HC4 : Hid (∀ W, Calls Tryd.prog 11 #[.int .i64 0, P2 0 0] W fun e w' => e = .returned (.tuple #[.int .i64 1, .int .i64 0]) ∧ Below W.heap.size W w') := fun W => by have := cells_any 0 0 0 W; unfold cV at this; rw [if_pos (sh_ok hs), sh_ok hs] at this; unfold cn at this; simpa using this
  have HC5 : Hid (∀ W, Calls Tryd.prog 24 #[.int .i64 0, P2 0 0] W fun e w' => e = .returned (.tuple #[.int .i64 1, .int .i64 1, .int .i64 0]) ∧ Below W.heap.size W w') := fun W => by have := rows_any 0 0 0 W; unfold rw0 rw1 at this; rw [if_pos (sh_ok hs), if_pos (sh_ok hs), sh_ok hs] at this; unfold cn at this; simpa using this
  have HC6 : Hid (∀ W, Calls Tryd.prog 28 #[.int .i64 0, P2 0 0, .int .i64 0, P2 0 0] W fun e w' => e = .returned (.tuple #[.int .i64 0, P2 0 0, .int .i64 0]) ∧ Below W.heap.size W w') := fun W => by have := fits_any 0 0 0 0 0 0 W; obtain ⟨e0, e1, e2, e3⟩ := ft_own hs; rwa [e0, e1, e2, e3] at this
  have HC7 : Hid (∀ W, Calls Tryd.prog 28 #[.int .i64 0, P2 0 0, .int .i64 0, P2 0 0] W fun e w' => e = .returned (.tuple #[.int .i64 0, P2 0 0, .int .i64 0]) ∧ Below W.heap.size W w') := fun W => by have := fits_any 0 0 0 0 0 0 W; obtain ⟨e0, e1, e2, e3⟩ := ft_with hs; rwa [e0, e1, e2, e3] at this
  have HC8 : Hid (∀ (W : World) (blk : Nat) (T : TypeId) (z : Nat × Nat), W.heap[blk]? = some (.cells #[.int .i64 0, .int .i64 0] T z) → Calls Tryd.prog 22 #[.int .i64 0, .slice (some ⟨blk, 0, none⟩) 0 2] W fun e w' => e = .returned (.tuple #[P2 0 0, .int .i64 0]) ∧ Below W.heap.size W w') := fun W blk T z hc => by
    have := lens_any 0 (.slice (some ⟨blk, 0, none⟩) 0 2) ([0, 0].take 0) W (sl_two hc (by decide))
    obtain ⟨e0, e1, e2⟩ := ln_own hs
    simp only [show Int.toNat 0 = 0 from rfl] at e0 e1 e2
    rwa [e0, e1, e2] at this
  have HC9 : Hid (∀ W, Calls Tryd.prog 26 #[.int .i64 0, P2 0 0] W fun e w' => e = .returned (.tuple #[P2 0 0, .int .i64 6]) ∧ Below W.heap.size W w') := fun W => by have := flip_any 0 0 0 W; obtain ⟨e0, e1, e2⟩ := fp_not hs (by decide); rwa [e0, e1, e2] at this
  have HQ := fun W => eq2t v2 v3 W
  have HQ2 := fun W => eq2t 0 0 W
  clear hs
  go_enter Tryd.func9, Tryd.ntmps9
  go_wp2_with (first
    | (go_at_call 28; ((with_reducible refine (HC7.out _).mono ?_); rintro e w' ⟨rfl, hb⟩); have HB2 := Lib.hid ((HB.out.trans (hb.mono HB.out.size)).alloc (HB.out.trans (hb.mono HB.out.size)).size (.cells #[.int .i64 (0), .int .i64 (0)] 22)); have H0n := Lib.hid ((H0.out.next hb).alloc (.cells #[.int .i64 (0), .int .i64 (0)] 22)); have H1n := Lib.hid ((H1.out.next hb).alloc (.cells #[.int .i64 (0), .int .i64 (0)] 22)); have HXn := Lib.hid ((HX.out.next hb).alloc (.cells #[.int .i64 (0), .int .i64 (0)] 22)); have HYn := Lib.hid ((HY.out.next hb).alloc (.cells #[.int .i64 (0), .int .i64 (0)] 22)); have HZn := Lib.hid ((HZ.out.next hb).alloc (.cells #[.int .i64 (0), .int .i64 (0)] 22)); have HW := Lib.hid (R2.new w' (0) (0)); clear HB hb H0 H1 HX HY HZ x0 x1 x2 y0 y1 y2 u0 u1 z0 z1 p0 p1; have HB := HB2; clear HB2; have H0 := H0n; clear H0n; have H1 := H1n; clear H1n; have HX := HXn; clear HXn; have HY := HYn; clear HYn; have HZ := HZn; clear HZn; have x0 := H0.out.c0; have x1 := H0.out.c1; have x2 := H0.out.c2; have y0 := H1.out.c0; have y1 := H1.out.c1; have y2 := H1.out.c2; have u0 := HX.out.c0; have u1 := HX.out.c1; have z0 := HY.out.c0; have z1 := HY.out.c1; have p0 := HZ.out.c0; have p1 := HZ.out.c1; have q0 := HW.out.c0; have q1 := HW.out.c1)
    | (go_at_call 28; ((with_reducible refine (HC6.out _).mono ?_); rintro e w' ⟨rfl, hb⟩); have HB2 := Lib.hid ((HB.out.trans (hb.mono HB.out.size)).alloc (HB.out.trans (hb.mono HB.out.size)).size (.cells #[.int .i64 (0), .int .i64 (0)] 22)); have H0n := Lib.hid ((H0.out.next hb).alloc (.cells #[.int .i64 (0), .int .i64 (0)] 22)); have H1n := Lib.hid ((H1.out.next hb).alloc (.cells #[.int .i64 (0), .int .i64 (0)] 22)); have HXn := Lib.hid ((HX.out.next hb).alloc (.cells #[.int .i64 (0), .int .i64 (0)] 22)); have HYn := Lib.hid ((HY.out.next hb).alloc (.cells #[.int .i64 (0), .int .i64 (0)] 22)); have HZ := Lib.hid (R2.new w' (0) (0)); clear HB hb H0 H1 HX HY x0 x1 x2 y0 y1 y2 u0 u1 z0 z1; have HB := HB2; clear HB2; have H0 := H0n; clear H0n; have H1 := H1n; clear H1n; have HX := HXn; clear HXn; have HY := HYn; clear HYn; have x0 := H0.out.c0; have x1 := H0.out.c1; have x2 := H0.out.c2; have y0 := H1.out.c0; have y1 := H1.out.c1; have y2 := H1.out.c2; have u0 := HX.out.c0; have u1 := HX.out.c1; have z0 := HY.out.c0; have z1 := HY.out.c1; have p0 := HZ.out.c0; have p1 := HZ.out.c1)
    | (go_at_call 24; ((with_reducible refine (HC5.out _).mono ?_); rintro e w' ⟨rfl, hb⟩); have HB2 := Lib.hid (HB.out.trans (hb.mono HB.out.size)); have H0n := Lib.hid (H0.out.next hb); have H1n := Lib.hid (H1.out.next hb); have HXn := Lib.hid (HX.out.next hb); have HYn := Lib.hid (HY.out.next hb); clear HB hb H0 H1 HX HY x0 x1 x2 y0 y1 y2 u0 u1 z0 z1; have HB := HB2; clear HB2; have H0 := H0n; clear H0n; have H1 := H1n; clear H1n; have HX := HXn; clear HXn; have HY := HYn; clear HYn; have x0 := H0.out.c0; have x1 := H0.out.c1; have x2 := H0.out.c2; have y0 := H1.out.c0; have y1 := H1.out.c1; have y2 := H1.out.c2; have u0 := HX.out.c0; have u1 := HX.out.c1; have z0 := HY.out.c0; have z1 := HY.out.c1)
    | (go_at_call 11; ((with_reducible refine (HC4.out _).mono ?_); rintro e w' ⟨rfl, hb⟩); have HB2 := Lib.hid (HB.out.trans (hb.mono HB.out.size)); have H0n := Lib.hid (H0.out.next hb); have H1n := Lib.hid (H1.out.next hb); have HXn := Lib.hid (HX.out.next hb); have HYn := Lib.hid (HY.out.next hb); clear HB hb H0 H1 HX HY x0 x1 x2 y0 y1 y2 u0 u1 z0 z1; have HB := HB2; clear HB2; have H0 := H0n; clear H0n; have H1 := H1n; clear H1n; have HX := HXn; clear HXn; have HY := HYn; clear HYn; have x0 := H0.out.c0; have x1 := H0.out.c1; have x2 := H0.out.c2; have y0 := H1.out.c0; have y1 := H1.out.c1; have y2 := H1.out.c2; have u0 := HX.out.c0; have u1 := HX.out.c1; have z0 := HY.out.c0; have z1 := HY.out.c1)
    | (go_at_call 15; ((with_reducible refine (HC3.out _).mono ?_); rintro e w' ⟨rfl, hb⟩); have HB2 := Lib.hid (HB.out.trans (hb.mono HB.out.size)); have H0n := Lib.hid (H0.out.next hb); have H1n := Lib.hid (H1.out.next hb); have HXn := Lib.hid (HX.out.next hb); have HYn := Lib.hid (HY.out.next hb); clear HB hb H0 H1 HX HY x0 x1 x2 y0 y1 y2 u0 u1 z0 z1; have HB := HB2; clear HB2; have H0 := H0n; clear H0n; have H1 := H1n; clear H1n; have HX := HXn; clear HXn; have HY := HYn; clear HYn; have x0 := H0.out.c0; have x1 := H0.out.c1; have x2 := H0.out.c2; have y0 := H1.out.c0; have y1 := H1.out.c1; have y2 := H1.out.c2; have u0 := HX.out.c0; have u1 := HX.out.c1; have z0 := HY.out.c0; have z1 := HY.out.c1)
    | (go_at_call 28; ((with_reducible refine (HC2.out _).mono ?_); rintro e w' ⟨rfl, hb⟩); have HB2 := Lib.hid ((HB.out.trans (hb.mono HB.out.size)).alloc (HB.out.trans (hb.mono HB.out.size)).size (.cells #[.int .i64 (v2), .int .i64 (v3)] 22)); have H0n := Lib.hid ((H0.out.next hb).alloc (.cells #[.int .i64 (v2), .int .i64 (v3)] 22)); have H1n := Lib.hid ((H1.out.next hb).alloc (.cells #[.int .i64 (v2), .int .i64 (v3)] 22)); have HXn := Lib.hid ((HX.out.next hb).alloc (.cells #[.int .i64 (v2), .int .i64 (v3)] 22)); have HY := Lib.hid (R2.new w' (v2) (v3)); clear HB hb H0 H1 HX x0 x1 x2 y0 y1 y2 u0 u1; have HB := HB2; clear HB2; have H0 := H0n; clear H0n; have H1 := H1n; clear H1n; have HX := HXn; clear HXn; have x0 := H0.out.c0; have x1 := H0.out.c1; have x2 := H0.out.c2; have y0 := H1.out.c0; have y1 := H1.out.c1; have y2 := H1.out.c2; have u0 := HX.out.c0; have u1 := HX.out.c1; have z0 := HY.out.c0; have z1 := HY.out.c1)
    | (go_at_call 28; ((with_reducible refine (HC1.out _).mono ?_); rintro e w' ⟨rfl, hb⟩); have HB2 := Lib.hid ((HB.out.trans (hb.mono HB.out.size)).alloc (HB.out.trans (hb.mono HB.out.size)).size (.cells #[.int .i64 (v2), .int .i64 (v3)] 22)); have H0n := Lib.hid ((H0.out.next hb).alloc (.cells #[.int .i64 (v2), .int .i64 (v3)] 22)); have H1n := Lib.hid ((H1.out.next hb).alloc (.cells #[.int .i64 (v2), .int .i64 (v3)] 22)); have HX := Lib.hid (R2.new w' (v2) (v3)); clear HB hb H0 H1 x0 x1 x2 y0 y1 y2; have HB := HB2; clear HB2; have H0 := H0n; clear H0n; have H1 := H1n; clear H1n; have x0 := H0.out.c0; have x1 := H0.out.c1; have x2 := H0.out.c2; have y0 := H1.out.c0; have y1 := H1.out.c1; have y2 := H1.out.c2; have u0 := HX.out.c0; have u1 := HX.out.c1))
  have hS : KC w 0 0 0 _ := ⟨HB.out, H0.out⟩
  clear HB H0 H1 HX HY HZ HW x0 x1 x2 y0 y1 y2 u0 u1 z0 z1 p0 p1 q0 q1
  refine wp_region_held_drew (S := (fun W => KC w 0 0 0 W ∧ W.cell? ⟨w.heap.size, 0, none⟩ = some (.int .i64 0) ∧ W.cell? ⟨w.heap.size, 1, none⟩ = some (.int .i64 0) ∧ W.cell? ⟨w.heap.size, 2, none⟩ = some (.int .i64 0))) (by kernel_rfl) ?_ (fun hHeld => ?_)
  · exact KC.all (KC.drew hS)
  generalize World.drew _ = wd at hHeld ⊢
  clear hS
  refine wpAnyH_take (i := 0) (v := ?_) rfl (by kernel_rfl) (by kernel_rfl) (by kernel_rfl) (fun _ _ _ h => h) (Or.inl ⟨by rfl, ?_⟩) (by assumption) ?_
  rotate_left
  · ((intro w0 hSw); (try dsimp only at hSw); go_simp; (try with_reducible rfl))
  change wpAnyH _ _ _ _ _ _ _ (Act.put _ (some 161) _) _
  try simp only [Act.put, List.setIfInBounds_toArray, List.set_cons_zero, List.set_cons_succ]
  refine wpAnyH_take (i := 1) (v := ?_) rfl (by kernel_rfl) (by kernel_rfl) (by kernel_rfl) (fun _ _ _ h => h) (Or.inl ⟨by rfl, ?_⟩) (by assumption) ?_
  rotate_left
  · ((intro w0 hSw); (try dsimp only at hSw); go_simp; (try with_reducible rfl))
  change wpAnyH _ _ _ _ _ _ _ (Act.put _ (some 162) _) _
  try simp only [Act.put, List.setIfInBounds_toArray, List.set_cons_zero, List.set_cons_succ]
  refine wpAnyH_take (i := 2) (v := ?_) rfl (by kernel_rfl) (by kernel_rfl) (by kernel_rfl) (fun _ _ _ h => h) (Or.inl ⟨by rfl, ?_⟩) (by assumption) ?_
  rotate_left
  · ((intro w0 hSw); (try dsimp only at hSw); go_simp; (try with_reducible rfl))
  change wpAnyH _ _ _ _ _ _ _ (Act.put _ (some 163) _) _
  try simp only [Act.put, List.setIfInBounds_toArray, List.set_cons_zero, List.set_cons_succ]
  refine wpAnyH_take (i := 3) (v := ?_) rfl (by kernel_rfl) (by kernel_rfl) (by kernel_rfl) (fun _ _ _ h => h) (Or.inl ⟨by rfl, ?_⟩) (by assumption) ?_
  rotate_left
  · ((intro w0 hSw); (try dsimp only at hSw); go_simp; (try with_reducible rfl))
  change wpAnyH _ _ _ _ _ _ _ (Act.put _ (some 164) _) _
  try simp only [Act.put, List.setIfInBounds_toArray, List.set_cons_zero, List.set_cons_succ]
  refine wpAnyH_take (i := 4) (v := ?_) rfl (by kernel_rfl) (by kernel_rfl) (by kernel_rfl) (fun _ _ _ h => h) (Or.inl ⟨by rfl, ?_⟩) (by assumption) ?_
  rotate_left
  · ((intro w0 hSw); (try dsimp only at hSw); go_simp; (try with_reducible rfl))
  change wpAnyH _ _ _ _ _ _ _ (Act.put _ (some 165) _) _
  try simp only [Act.put, List.setIfInBounds_toArray, List.set_cons_zero, List.set_cons_succ]
  refine wpAnyH_take (i := 5) (v := ?_) rfl (by kernel_rfl) (by kernel_rfl) (by kernel_rfl) (fun _ _ _ h => h) (Or.inl ⟨by rfl, ?_⟩) (by assumption) ?_
  rotate_left
  · ((intro w0 hSw); (try dsimp only at hSw); go_simp; (try with_reducible rfl))
  change wpAnyH _ _ _ _ _ _ _ (Act.put _ (some 166) _) _
  try simp only [Act.put, List.setIfInBounds_toArray, List.set_cons_zero, List.set_cons_succ]
  refine wpAnyH_take (i := 6) (v := ?_) rfl (by kernel_rfl) (by kernel_rfl) (by kernel_rfl) (fun _ _ _ h => h) (Or.inl ⟨by rfl, ?_⟩) (by assumption) ?_
  rotate_left
  · ((intro w0 hSw); (try dsimp only at hSw); go_simp; (try with_reducible rfl))
  change wpAnyH _ _ _ _ _ _ _ (Act.put _ (some 167) _) _
  try simp only [Act.put, List.setIfInBounds_toArray, List.set_cons_zero, List.set_cons_succ]
  refine wpAnyH_take (i := 7) (v := ?_) rfl (by kernel_rfl) (by kernel_rfl) (by kernel_rfl) (fun _ _ _ h => h) (Or.inl ⟨by rfl, ?_⟩) (by assumption) ?_
  rotate_left
  · ((intro w0 hSw); (try dsimp only at hSw); go_simp; (try with_reducible rfl))
  change wpAnyH _ _ _ _ _ _ _ (Act.put _ (some 168) _) _
  try simp only [Act.put, List.setIfInBounds_toArray, List.set_cons_zero, List.set_cons_succ]
  refine wpAnyH_take (i := 9) (v := ?_) rfl (by kernel_rfl) (by kernel_rfl) (by kernel_rfl) (fun _ _ _ h => h) (Or.inl ⟨by rfl, ?_⟩) (by assumption) ?_
  rotate_left
  · ((intro w0 hSw); (try dsimp only at hSw); go_simp; (try with_reducible rfl))
  change wpAnyH _ _ _ _ _ _ _ (Act.put _ (some 170) _) _
  try simp only [Act.put, List.setIfInBounds_toArray, List.set_cons_zero, List.set_cons_succ]
  refine wpAnyH_take (i := 10) (v := ?_) rfl (by kernel_rfl) (by kernel_rfl) (by kernel_rfl) (fun _ _ _ h => h) (Or.inl ⟨by rfl, ?_⟩) (by assumption) ?_
  rotate_left
  · ((intro w0 hSw); (try dsimp only at hSw); go_simp; (try with_reducible rfl))
  change wpAnyH _ _ _ _ _ _ _ (Act.put _ (some 171) _) _
  try simp only [Act.put, List.setIfInBounds_toArray, List.set_cons_zero, List.set_cons_succ]
  refine wpAnyH_ready (rs := [8, 16]) (by kernel_rfl) (by simp) ?_
  refine AllReadyH.cons rfl (fun K hK => ?_) (AllReadyH.cons rfl (fun K hK => ?_) (AllReadyH.nil))
  · have LW : Hid (w.heap.size < wd.heap.size) := hHeld.1.s.lt
    go_simp
    refine hK.out _ _ ?_ (fun hHeld2 => ?_)
    · exact KC.all (KC.alloc hHeld.1 _)
    clear hK K hHeld
    have hHeld := hHeld2; clear hHeld2
    try change wpAnyH _ _ _ _ _ _ _ (Act.put _ (some 169) _) _
    try simp only [Act.put, List.setIfInBounds_toArray, List.set_cons_zero, List.set_cons_succ]
    refine wpAnyH_take (i := 11) (v := ?_) rfl (by kernel_rfl) (by kernel_rfl) (by kernel_rfl) (fun _ _ _ h => h) (Or.inl ⟨by rfl, ?_⟩) (by assumption) ?_
    rotate_left
    · ((intro w0 hSw); (try dsimp only at hSw); go_simp; (try with_reducible rfl))
    change wpAnyH _ _ _ _ _ _ _ (Act.put _ (some 172) _) _
    try simp only [Act.put, List.setIfInBounds_toArray, List.set_cons_zero, List.set_cons_succ]
    refine wpAnyH_ready (rs := [12, 16]) (by kernel_rfl) (by simp) ?_
    refine AllReadyH.cons rfl (fun K hK => ?_) (AllReadyH.cons rfl (fun K hK => ?_) (AllReadyH.nil))
    · go_simp
      go_at_call 22
      refine (HC8.out _ _ _ _ (heap_alloc_last _ _)).mono ?_
      rintro e wl ⟨rfl, hbn⟩
      refine hK.out _ _ ?_ (fun hHeld2 => ?_)
      · exact KC.alln hHeld hbn
      clear hK K hHeld
      have hHeld := hHeld2; clear hHeld2
      try change wpAnyH _ _ _ _ _ _ _ (Act.put _ (some 173) _) _
      try simp only [Act.put, List.setIfInBounds_toArray, List.set_cons_zero, List.set_cons_succ]
      refine wpAnyH_take (i := 13) (v := ?_) rfl (by kernel_rfl) (by kernel_rfl) (by kernel_rfl) (fun _ _ _ h => h) (Or.inl ⟨by rfl, ?_⟩) (by assumption) ?_
      rotate_left
      · ((intro w0 hSw); (try dsimp only at hSw); go_simp; (try with_reducible rfl))
      change wpAnyH _ _ _ _ _ _ _ (Act.put _ (some 160) _) _
      try simp only [Act.put, List.setIfInBounds_toArray, List.set_cons_zero, List.set_cons_succ]
      refine wpAnyH_take (i := 14) (v := ?_) rfl (by kernel_rfl) (by kernel_rfl) (by kernel_rfl) (fun _ _ _ h => h) (Or.inl ⟨by rfl, ?_⟩) (by assumption) ?_
      rotate_left
      · ((intro w0 hSw); (try dsimp only at hSw); go_simp; (try with_reducible rfl))
      change wpAnyH _ _ _ _ _ _ _ (Act.put _ (some 174) _) _
      try simp only [Act.put, List.setIfInBounds_toArray, List.set_cons_zero, List.set_cons_succ]
      refine wpAnyH_take (i := 15) (v := ?_) rfl (by kernel_rfl) (by kernel_rfl) (by kernel_rfl) (fun _ _ _ h => h) (Or.inl ⟨by rfl, ?_⟩) (by assumption) ?_
      rotate_left
      · ((intro w0 hSw); (try dsimp only at hSw); go_simp; (try with_reducible rfl))
      change wpAnyH _ _ _ _ _ _ _ (Act.put _ (some 175) _) _
      try simp only [Act.put, List.setIfInBounds_toArray, List.set_cons_zero, List.set_cons_succ]
      have LN : Hid (w.heap.size < wl.heap.size) := hHeld.1.s.lt
      have HN := Lib.hid (R2.new wl 0 0)
      have KL := Lib.hid hHeld.1
      refine wpAnyH_ready (rs := [16]) (by kernel_rfl) (by simp) ?_
      refine AllReadyH.cons rfl (fun K hK => ?_) (AllReadyH.nil)
      go_simp
      refine hK.out _ _ ?_ (fun hHeld2 => ?_)
      · exact KC.all (KC.alloc hHeld.1 _)
      clear hK K hHeld
      have hHeld := hHeld2; clear hHeld2
      try change wpAnyH _ _ _ _ _ _ _ (Act.put _ (some 20) _) _
      try simp only [Act.put, List.setIfInBounds_toArray, List.set_cons_zero, List.set_cons_succ]
      have n0 := HN.out.c0
      have n1 := HN.out.c1
      have nf0 := HN.out.f0
      have nf1 := HN.out.f1
      refine wpAnyH_ready (rs := [17]) (by kernel_rfl) (by simp) ?_
      refine AllReadyH.cons rfl (fun K hK => ?_) (AllReadyH.nil)
      go_simp
      refine hK.out _ _ ?_ (fun hHeld2 => ?_)
      · exact KC.all (KL.out.alloc _)
      clear hK K hHeld
      have hHeld := hHeld2; clear hHeld2
      try change wpAnyH _ _ _ _ _ _ _ (Act.put _ (none) _) _
      try simp only [Act.put, List.setIfInBounds_toArray, List.set_cons_zero, List.set_cons_succ]
      clear HN n0 n1 nf0 nf1 KL
      have HN := Lib.hid (R2.new wl 0 0)
      refine wpAnyH_take (i := 18) (v := ?_) rfl (by kernel_rfl) (by kernel_rfl) (by kernel_rfl) (fun _ _ _ h => h) (Or.inl ⟨by rfl, ?_⟩) (by assumption) ?_
      rotate_left
      · ((intro w0 hSw); (try dsimp only at hSw); go_simp; (try with_reducible rfl))
      change wpAnyH _ _ _ _ _ _ _ (Act.put _ (some 7) _) _
      try simp only [Act.put, List.setIfInBounds_toArray, List.set_cons_zero, List.set_cons_succ]
      refine wpAnyH_done (by kernel_rfl) ?_ _
      have HB := Lib.hid hHeld.1.bel
      have H0 := Lib.hid hHeld.1.s
      clear hHeld LN
      have x0 := H0.out.c0
      have x1 := H0.out.c1
      have x2 := H0.out.c2
      have n0 := HN.out.c0
      have n1 := HN.out.c1
      go_wp2_with (first
        | (go_at_call 17; ((with_reducible refine (awake_any _ (HL.out.next HB.out)).mono ?_); rintro e w' ⟨rfl, hb⟩); have HB2 := Lib.hid (HB.out.trans (hb.mono HB.out.size)); have H0n := Lib.hid (H0.out.next hb); have HNn := Lib.hid (HN.out.next hb); have HPn := Lib.hid (HP.out.next hb); clear HB hb H0 HN HP x0 x1 x2 n0 n1 p0 p1; have HB := HB2; clear HB2; have H0 := H0n; clear H0n; have HN := HNn; clear HNn; have HP := HPn; clear HPn; have x0 := H0.out.c0; have x1 := H0.out.c1; have x2 := H0.out.c2; have n0 := HN.out.c0; have n1 := HN.out.c1; have p0 := HP.out.c0; have p1 := HP.out.c1)
        | (go_at_call 26; ((with_reducible refine (HC9.out _).mono ?_); rintro e w' ⟨rfl, hb⟩); have HB2 := Lib.hid ((HB.out.trans (hb.mono HB.out.size)).alloc (HB.out.trans (hb.mono HB.out.size)).size (.cells #[.int .i64 (0), .int .i64 (0)] 22)); have H0n := Lib.hid ((H0.out.next hb).alloc (.cells #[.int .i64 (0), .int .i64 (0)] 22)); have HNn := Lib.hid ((HN.out.next hb).alloc (.cells #[.int .i64 (0), .int .i64 (0)] 22)); have HP := Lib.hid (R2.new w' (0) (0)); clear HB hb H0 HN x0 x1 x2 n0 n1; have HB := HB2; clear HB2; have H0 := H0n; clear H0n; have HN := HNn; clear HNn; have x0 := H0.out.c0; have x1 := H0.out.c1; have x2 := H0.out.c2; have n0 := HN.out.c0; have n1 := HN.out.c1; have p0 := HP.out.c0; have p1 := HP.out.c1))
      go_ret
      exact ⟨rfl, HB.out⟩
    · have LN : Hid (w.heap.size < wd.heap.size + 1) := Nat.lt_succ_of_lt LW.out
      have HN : Hid (R2 ((wd.alloc (.cells #[.int .i64 0, .int .i64 0] 3)).alloc (.cells #[.int .i64 0, .int .i64 0] 22)) (wd.heap.size + 1) 0 0) := by have := R2.new (wd.alloc (.cells #[.int .i64 0, .int .i64 0] 3)) 0 0; unfold Hid; simpa using this
      go_simp
      refine hK.out _ _ ?_ (fun hHeld2 => ?_)
      · exact KC.all (KC.alloc hHeld.1 _)
      clear hK K hHeld
      have hHeld := hHeld2; clear hHeld2
      try change wpAnyH _ _ _ _ _ _ _ (Act.put _ (some 20) _) _
      try simp only [Act.put, List.setIfInBounds_toArray, List.set_cons_zero, List.set_cons_succ]
      refine wpAnyH_ready (rs := [12]) (by kernel_rfl) (by simp) ?_
      refine AllReadyH.cons rfl (fun K hK => ?_) (AllReadyH.nil)
      go_simp
      go_at_call 22
      refine (HC8.out _ _ _ _ (two_under _ _ _)).mono ?_
      rintro e wl ⟨rfl, hbn⟩
      have HM := Lib.hid (HN.out.next hbn)
      clear HN
      have HN := HM
      clear HM
      refine hK.out _ _ ?_ (fun hHeld2 => ?_)
      · exact KC.alln hHeld hbn
      clear hK K hHeld
      have hHeld := hHeld2; clear hHeld2
      try change wpAnyH _ _ _ _ _ _ _ (Act.put _ (some 173) _) _
      try simp only [Act.put, List.setIfInBounds_toArray, List.set_cons_zero, List.set_cons_succ]
      refine wpAnyH_take (i := 13) (v := ?_) rfl (by kernel_rfl) (by kernel_rfl) (by kernel_rfl) (fun _ _ _ h => h) (Or.inl ⟨by rfl, ?_⟩) (by assumption) ?_
      rotate_left
      · ((intro w0 hSw); (try dsimp only at hSw); go_simp; (try with_reducible rfl))
      change wpAnyH _ _ _ _ _ _ _ (Act.put _ (some 160) _) _
      try simp only [Act.put, List.setIfInBounds_toArray, List.set_cons_zero, List.set_cons_succ]
      refine wpAnyH_take (i := 14) (v := ?_) rfl (by kernel_rfl) (by kernel_rfl) (by kernel_rfl) (fun _ _ _ h => h) (Or.inl ⟨by rfl, ?_⟩) (by assumption) ?_
      rotate_left
      · ((intro w0 hSw); (try dsimp only at hSw); go_simp; (try with_reducible rfl))
      change wpAnyH _ _ _ _ _ _ _ (Act.put _ (some 174) _) _
      try simp only [Act.put, List.setIfInBounds_toArray, List.set_cons_zero, List.set_cons_succ]
      refine wpAnyH_take (i := 15) (v := ?_) rfl (by kernel_rfl) (by kernel_rfl) (by kernel_rfl) (fun _ _ _ h => h) (Or.inl ⟨by rfl, ?_⟩) (by assumption) ?_
      rotate_left
      · ((intro w0 hSw); (try dsimp only at hSw); go_simp; (try with_reducible rfl))
      change wpAnyH _ _ _ _ _ _ _ (Act.put _ (some 175) _) _
      try simp only [Act.put, List.setIfInBounds_toArray, List.set_cons_zero, List.set_cons_succ]
      have n0 := HN.out.c0
      have n1 := HN.out.c1
      have nf0 := HN.out.f0
      have nf1 := HN.out.f1
      refine wpAnyH_ready (rs := [17]) (by kernel_rfl) (by simp) ?_
      refine AllReadyH.cons rfl (fun K hK => ?_) (AllReadyH.nil)
      go_simp
      refine hK.out _ _ ?_ (fun hHeld2 => ?_)
      · exact KC.all (KC.put hHeld.1 LN.out _ _)
      clear hK K hHeld
      have hHeld := hHeld2; clear hHeld2
      try change wpAnyH _ _ _ _ _ _ _ (Act.put _ (none) _) _
      try simp only [Act.put, List.setIfInBounds_toArray, List.set_cons_zero, List.set_cons_succ]
      have HM := Lib.hid (HN.out.set 0 0)
      clear HN n0 n1 nf0 nf1
      have HN := HM
      clear HM
      refine wpAnyH_take (i := 18) (v := ?_) rfl (by kernel_rfl) (by kernel_rfl) (by kernel_rfl) (fun _ _ _ h => h) (Or.inl ⟨by rfl, ?_⟩) (by assumption) ?_
      rotate_left
      · ((intro w0 hSw); (try dsimp only at hSw); go_simp; (try with_reducible rfl))
      change wpAnyH _ _ _ _ _ _ _ (Act.put _ (some 7) _) _
      try simp only [Act.put, List.setIfInBounds_toArray, List.set_cons_zero, List.set_cons_succ]
      refine wpAnyH_done (by kernel_rfl) ?_ _
      have HB := Lib.hid hHeld.1.bel
      have H0 := Lib.hid hHeld.1.s
      clear hHeld LN
      have x0 := H0.out.c0
      have x1 := H0.out.c1
      have x2 := H0.out.c2
      have n0 := HN.out.c0
      have n1 := HN.out.c1
      go_wp2_with (first
        | (go_at_call 17; ((with_reducible refine (awake_any _ (HL.out.next HB.out)).mono ?_); rintro e w' ⟨rfl, hb⟩); have HB2 := Lib.hid (HB.out.trans (hb.mono HB.out.size)); have H0n := Lib.hid (H0.out.next hb); have HNn := Lib.hid (HN.out.next hb); have HPn := Lib.hid (HP.out.next hb); clear HB hb H0 HN HP x0 x1 x2 n0 n1 p0 p1; have HB := HB2; clear HB2; have H0 := H0n; clear H0n; have HN := HNn; clear HNn; have HP := HPn; clear HPn; have x0 := H0.out.c0; have x1 := H0.out.c1; have x2 := H0.out.c2; have n0 := HN.out.c0; have n1 := HN.out.c1; have p0 := HP.out.c0; have p1 := HP.out.c1)
        | (go_at_call 26; ((with_reducible refine (HC9.out _).mono ?_); rintro e w' ⟨rfl, hb⟩); have HB2 := Lib.hid ((HB.out.trans (hb.mono HB.out.size)).alloc (HB.out.trans (hb.mono HB.out.size)).size (.cells #[.int .i64 (0), .int .i64 (0)] 22)); have H0n := Lib.hid ((H0.out.next hb).alloc (.cells #[.int .i64 (0), .int .i64 (0)] 22)); have HNn := Lib.hid ((HN.out.next hb).alloc (.cells #[.int .i64 (0), .int .i64 (0)] 22)); have HP := Lib.hid (R2.new w' (0) (0)); clear HB hb H0 HN x0 x1 x2 n0 n1; have HB := HB2; clear HB2; have H0 := H0n; clear H0n; have HN := HNn; clear HNn; have x0 := H0.out.c0; have x1 := H0.out.c1; have x2 := H0.out.c2; have n0 := HN.out.c0; have n1 := HN.out.c1; have p0 := HP.out.c0; have p1 := HP.out.c1))
      go_ret
      exact ⟨rfl, HB.out⟩
  · have LN : Hid (w.heap.size < wd.heap.size) := hHeld.1.s.lt
    have HN := Lib.hid (R2.new wd 0 0)
    go_simp
    refine hK.out _ _ ?_ (fun hHeld2 => ?_)
    · exact KC.all (KC.alloc hHeld.1 _)
    clear hK K hHeld
    have hHeld := hHeld2; clear hHeld2
    try change wpAnyH _ _ _ _ _ _ _ (Act.put _ (some 20) _) _
    try simp only [Act.put, List.setIfInBounds_toArray, List.set_cons_zero, List.set_cons_succ]
    refine wpAnyH_ready (rs := [8]) (by kernel_rfl) (by simp) ?_
    refine AllReadyH.cons rfl (fun K hK => ?_) (AllReadyH.nil)
    go_simp
    refine hK.out _ _ ?_ (fun hHeld2 => ?_)
    · exact KC.all (KC.alloc hHeld.1 _)
    clear hK K hHeld
    have hHeld := hHeld2; clear hHeld2
    try change wpAnyH _ _ _ _ _ _ _ (Act.put _ (some 169) _) _
    try simp only [Act.put, List.setIfInBounds_toArray, List.set_cons_zero, List.set_cons_succ]
    have HM := Lib.hid (HN.out.alloc (.cells #[.int .i64 0, .int .i64 0] 3))
    clear HN
    have HN := HM
    clear HM
    refine wpAnyH_take (i := 11) (v := ?_) rfl (by kernel_rfl) (by kernel_rfl) (by kernel_rfl) (fun _ _ _ h => h) (Or.inl ⟨by rfl, ?_⟩) (by assumption) ?_
    rotate_left
    · ((intro w0 hSw); (try dsimp only at hSw); go_simp; (try with_reducible rfl))
    change wpAnyH _ _ _ _ _ _ _ (Act.put _ (some 172) _) _
    try simp only [Act.put, List.setIfInBounds_toArray, List.set_cons_zero, List.set_cons_succ]
    refine wpAnyH_ready (rs := [12]) (by kernel_rfl) (by simp) ?_
    refine AllReadyH.cons rfl (fun K hK => ?_) (AllReadyH.nil)
    go_simp
    go_at_call 22
    refine (HC8.out _ _ _ _ (two_over _ _ _)).mono ?_
    rintro e wl ⟨rfl, hbn⟩
    have HM := Lib.hid (HN.out.next hbn)
    clear HN
    have HN := HM
    clear HM
    refine hK.out _ _ ?_ (fun hHeld2 => ?_)
    · exact KC.alln hHeld hbn
    clear hK K hHeld
    have hHeld := hHeld2; clear hHeld2
    try change wpAnyH _ _ _ _ _ _ _ (Act.put _ (some 173) _) _
    try simp only [Act.put, List.setIfInBounds_toArray, List.set_cons_zero, List.set_cons_succ]
    refine wpAnyH_take (i := 13) (v := ?_) rfl (by kernel_rfl) (by kernel_rfl) (by kernel_rfl) (fun _ _ _ h => h) (Or.inl ⟨by rfl, ?_⟩) (by assumption) ?_
    rotate_left
    · ((intro w0 hSw); (try dsimp only at hSw); go_simp; (try with_reducible rfl))
    change wpAnyH _ _ _ _ _ _ _ (Act.put _ (some 160) _) _
    try simp only [Act.put, List.setIfInBounds_toArray, List.set_cons_zero, List.set_cons_succ]
    refine wpAnyH_take (i := 14) (v := ?_) rfl (by kernel_rfl) (by kernel_rfl) (by kernel_rfl) (fun _ _ _ h => h) (Or.inl ⟨by rfl, ?_⟩) (by assumption) ?_
    rotate_left
    · ((intro w0 hSw); (try dsimp only at hSw); go_simp; (try with_reducible rfl))
    change wpAnyH _ _ _ _ _ _ _ (Act.put _ (some 174) _) _
    try simp only [Act.put, List.setIfInBounds_toArray, List.set_cons_zero, List.set_cons_succ]
    refine wpAnyH_take (i := 15) (v := ?_) rfl (by kernel_rfl) (by kernel_rfl) (by kernel_rfl) (fun _ _ _ h => h) (Or.inl ⟨by rfl, ?_⟩) (by assumption) ?_
    rotate_left
    · ((intro w0 hSw); (try dsimp only at hSw); go_simp; (try with_reducible rfl))
    change wpAnyH _ _ _ _ _ _ _ (Act.put _ (some 175) _) _
    try simp only [Act.put, List.setIfInBounds_toArray, List.set_cons_zero, List.set_cons_succ]
    have n0 := HN.out.c0
    have n1 := HN.out.c1
    have nf0 := HN.out.f0
    have nf1 := HN.out.f1
    refine wpAnyH_ready (rs := [17]) (by kernel_rfl) (by simp) ?_
    refine AllReadyH.cons rfl (fun K hK => ?_) (AllReadyH.nil)
    go_simp
    refine hK.out _ _ ?_ (fun hHeld2 => ?_)
    · exact KC.all (KC.put hHeld.1 LN.out _ _)
    clear hK K hHeld
    have hHeld := hHeld2; clear hHeld2
    try change wpAnyH _ _ _ _ _ _ _ (Act.put _ (none) _) _
    try simp only [Act.put, List.setIfInBounds_toArray, List.set_cons_zero, List.set_cons_succ]
    have HM := Lib.hid (HN.out.set 0 0)
    clear HN n0 n1 nf0 nf1
    have HN := HM
    clear HM
    refine wpAnyH_take (i := 18) (v := ?_) rfl (by kernel_rfl) (by kernel_rfl) (by kernel_rfl) (fun _ _ _ h => h) (Or.inl ⟨by rfl, ?_⟩) (by assumption) ?_
    rotate_left
    · ((intro w0 hSw); (try dsimp only at hSw); go_simp; (try with_reducible rfl))
    change wpAnyH _ _ _ _ _ _ _ (Act.put _ (some 7) _) _
    try simp only [Act.put, List.setIfInBounds_toArray, List.set_cons_zero, List.set_cons_succ]
    refine wpAnyH_done (by kernel_rfl) ?_ _
    have HB := Lib.hid hHeld.1.bel
    have H0 := Lib.hid hHeld.1.s
    clear hHeld LN
    have x0 := H0.out.c0
    have x1 := H0.out.c1
    have x2 := H0.out.c2
    have n0 := HN.out.c0
    have n1 := HN.out.c1
    go_wp2_with (first
      | (go_at_call 17; ((with_reducible refine (awake_any _ (HL.out.next HB.out)).mono ?_); rintro e w' ⟨rfl, hb⟩); have HB2 := Lib.hid (HB.out.trans (hb.mono HB.out.size)); have H0n := Lib.hid (H0.out.next hb); have HNn := Lib.hid (HN.out.next hb); have HPn := Lib.hid (HP.out.next hb); clear HB hb H0 HN HP x0 x1 x2 n0 n1 p0 p1; have HB := HB2; clear HB2; have H0 := H0n; clear H0n; have HN := HNn; clear HNn; have HP := HPn; clear HPn; have x0 := H0.out.c0; have x1 := H0.out.c1; have x2 := H0.out.c2; have n0 := HN.out.c0; have n1 := HN.out.c1; have p0 := HP.out.c0; have p1 := HP.out.c1)
      | (go_at_call 26; ((with_reducible refine (HC9.out _).mono ?_); rintro e w' ⟨rfl, hb⟩); have HB2 := Lib.hid ((HB.out.trans (hb.mono HB.out.size)).alloc (HB.out.trans (hb.mono HB.out.size)).size (.cells #[.int .i64 (0), .int .i64 (0)] 22)); have H0n := Lib.hid ((H0.out.next hb).alloc (.cells #[.int .i64 (0), .int .i64 (0)] 22)); have HNn := Lib.hid ((HN.out.next hb).alloc (.cells #[.int .i64 (0), .int .i64 (0)] 22)); have HP := Lib.hid (R2.new w' (0) (0)); clear HB hb H0 HN x0 x1 x2 n0 n1; have HB := HB2; clear HB2; have H0 := H0n; clear H0n; have HN := HNn; clear HNn; have x0 := H0.out.c0; have x1 := H0.out.c1; have x2 := H0.out.c2; have n0 := HN.out.c0; have n1 := HN.out.c1; have p0 := HP.out.c0; have p1 := HP.out.c1))
    go_ret
    exact ⟨rfl, HB.out⟩
set_option maxRecDepth 100000 in
set_option maxHeartbeats 8000000 in
theorem same_s0_f (s c d : Int) (w : World) (hw : Lay w) (hs : Sh 0 0 0) (hf : ftE 0 0 0 s c d ≠ 0) :
    Calls Tryd.prog 9 #[P3 0 0 0, P3 s c d] w fun e w' => e = .returned (.bool true) ∧ Below w.heap.size w w' := by
  have HL := Lib.hid hw
  clear hw
  have HB := Lib.hid (((Below.refl w.heap.size w).alloc (Nat.le_refl _) (.cells #[.int .i64 0, .int .i64 0, .int .i64 0] 24)).alloc (by simp) (.cells #[.int .i64 s, .int .i64 c, .int .i64 d] 24))
  have H0 := Lib.hid ((R3.new w 0 0 0).alloc (.cells #[.int .i64 s, .int .i64 c, .int .i64 d] 24))
  have H1 : Hid (R3 ((w.alloc (.cells #[.int .i64 0, .int .i64 0, .int .i64 0] 24)).alloc (.cells #[.int .i64 s, .int .i64 c, .int .i64 d] 24)) (w.heap.size + 1) s c d) := by have := R3.new (w.alloc (.cells #[.int .i64 0, .int .i64 0, .int .i64 0] 24)) s c d; unfold Hid; simpa using this
  have x0 := H0.out.c0
  have x1 := H0.out.c1
  have x2 := H0.out.c2
  have y0 := H1.out.c0
  have y1 := H1.out.c1
  have y2 := H1.out.c2
  obtain ⟨m1, hm1⟩ : ∃ m, m = ftE 0 0 0 s c d := ⟨_, rfl⟩
  obtain ⟨m2, hm2⟩ : ∃ m, m = ftE s c d 0 0 0 := ⟨_, rfl⟩
  have hn := ftE_no 0 0 0 s c d hf
  have HC1 : Hid (∀ W, Calls Tryd.prog 28 #[.int .i64 0, P2 0 0, .int .i64 s, P2 c d] W fun e w' => e = .returned (.tuple #[.int .i64 0, P2 0 0, .int .i64 m1]) ∧ Below W.heap.size W w') := fun W => by have := fits_any 0 0 0 s c d W; rwa [hn.2.1.1, hn.2.1.2.1, hn.2.1.2.2, ← hm1] at this
  have HC2 : Hid (∀ W, Calls Tryd.prog 28 #[.int .i64 s, P2 c d, .int .i64 0, P2 0 0] W fun e w' => e = .returned (.tuple #[.int .i64 0, P2 0 0, .int .i64 m2]) ∧ Below W.heap.size W w') := fun W => by have := fits_any s c d 0 0 0 W; rwa [hn.2.2.1, hn.2.2.2.1, hn.2.2.2.2, ← hm2] at this
  have hn1 := hn.1
  rw [← hm1] at hf
  rw [← hm2] at hn1
  have k2 : (m1 == 0) = false := by simpa using hf
  have k3 : (m2 == 0) = false := by simpa using hn1
  clear hm1 hm2 hf hn hn1
  have HC3 : Hid (∀ W, Calls Tryd.prog 15 #[.int .i64 0, P2 0 0] W fun e w' => e = .returned (.int .i64 0) ∧ Below W.heap.size W w') := fun W => by have := check_any 0 0 0 W; rwa [sh_ok hs] at this
  have HC4 : Hid (∀ W, Calls Tryd.prog 11 #[.int .i64 0, P2 0 0] W fun e w' => e = .returned (.tuple #[.int .i64 1, .int .i64 0]) ∧ Below W.heap.size W w') := fun W => by have := cells_any 0 0 0 W; unfold cV at this; rw [if_pos (sh_ok hs), sh_ok hs] at this; unfold cn at this; simpa using this
  have HC5 : Hid (∀ W, Calls Tryd.prog 24 #[.int .i64 0, P2 0 0] W fun e w' => e = .returned (.tuple #[.int .i64 1, .int .i64 1, .int .i64 0]) ∧ Below W.heap.size W w') := fun W => by have := rows_any 0 0 0 W; unfold rw0 rw1 at this; rw [if_pos (sh_ok hs), if_pos (sh_ok hs), sh_ok hs] at this; unfold cn at this; simpa using this
  have HC6 : Hid (∀ W, Calls Tryd.prog 28 #[.int .i64 0, P2 0 0, .int .i64 0, P2 0 0] W fun e w' => e = .returned (.tuple #[.int .i64 0, P2 0 0, .int .i64 0]) ∧ Below W.heap.size W w') := fun W => by have := fits_any 0 0 0 0 0 0 W; obtain ⟨e0, e1, e2, e3⟩ := ft_own hs; rwa [e0, e1, e2, e3] at this
  have HC7 : Hid (∀ W, Calls Tryd.prog 28 #[.int .i64 0, P2 0 0, .int .i64 0, P2 0 0] W fun e w' => e = .returned (.tuple #[.int .i64 0, P2 0 0, .int .i64 0]) ∧ Below W.heap.size W w') := fun W => by have := fits_any 0 0 0 0 0 0 W; obtain ⟨e0, e1, e2, e3⟩ := ft_with hs; rwa [e0, e1, e2, e3] at this
  have HC8 : Hid (∀ (W : World) (blk : Nat) (T : TypeId) (z : Nat × Nat), W.heap[blk]? = some (.cells #[.int .i64 0, .int .i64 0] T z) → Calls Tryd.prog 22 #[.int .i64 0, .slice (some ⟨blk, 0, none⟩) 0 2] W fun e w' => e = .returned (.tuple #[P2 0 0, .int .i64 0]) ∧ Below W.heap.size W w') := fun W blk T z hc => by
    have := lens_any 0 (.slice (some ⟨blk, 0, none⟩) 0 2) ([0, 0].take 0) W (sl_two hc (by decide))
    obtain ⟨e0, e1, e2⟩ := ln_own hs
    simp only [show Int.toNat 0 = 0 from rfl] at e0 e1 e2
    rwa [e0, e1, e2] at this
  have HC9 : Hid (∀ W, Calls Tryd.prog 26 #[.int .i64 0, P2 0 0] W fun e w' => e = .returned (.tuple #[P2 0 0, .int .i64 6]) ∧ Below W.heap.size W w') := fun W => by have := flip_any 0 0 0 W; obtain ⟨e0, e1, e2⟩ := fp_not hs (by decide); rwa [e0, e1, e2] at this
  have HQ := fun W => eq2t 0 0 W
  have HQ2 := fun W => eq2t 0 0 W
  clear hs
  go_enter Tryd.func9, Tryd.ntmps9
  go_wp2_with (first
    | (go_at_call 28; ((with_reducible refine (HC7.out _).mono ?_); rintro e w' ⟨rfl, hb⟩); have HB2 := Lib.hid ((HB.out.trans (hb.mono HB.out.size)).alloc (HB.out.trans (hb.mono HB.out.size)).size (.cells #[.int .i64 (0), .int .i64 (0)] 22)); have H0n := Lib.hid ((H0.out.next hb).alloc (.cells #[.int .i64 (0), .int .i64 (0)] 22)); have H1n := Lib.hid ((H1.out.next hb).alloc (.cells #[.int .i64 (0), .int .i64 (0)] 22)); have HXn := Lib.hid ((HX.out.next hb).alloc (.cells #[.int .i64 (0), .int .i64 (0)] 22)); have HYn := Lib.hid ((HY.out.next hb).alloc (.cells #[.int .i64 (0), .int .i64 (0)] 22)); have HZn := Lib.hid ((HZ.out.next hb).alloc (.cells #[.int .i64 (0), .int .i64 (0)] 22)); have HW := Lib.hid (R2.new w' (0) (0)); clear HB hb H0 H1 HX HY HZ x0 x1 x2 y0 y1 y2 u0 u1 z0 z1 p0 p1; have HB := HB2; clear HB2; have H0 := H0n; clear H0n; have H1 := H1n; clear H1n; have HX := HXn; clear HXn; have HY := HYn; clear HYn; have HZ := HZn; clear HZn; have x0 := H0.out.c0; have x1 := H0.out.c1; have x2 := H0.out.c2; have y0 := H1.out.c0; have y1 := H1.out.c1; have y2 := H1.out.c2; have u0 := HX.out.c0; have u1 := HX.out.c1; have z0 := HY.out.c0; have z1 := HY.out.c1; have p0 := HZ.out.c0; have p1 := HZ.out.c1; have q0 := HW.out.c0; have q1 := HW.out.c1)
    | (go_at_call 28; ((with_reducible refine (HC6.out _).mono ?_); rintro e w' ⟨rfl, hb⟩); have HB2 := Lib.hid ((HB.out.trans (hb.mono HB.out.size)).alloc (HB.out.trans (hb.mono HB.out.size)).size (.cells #[.int .i64 (0), .int .i64 (0)] 22)); have H0n := Lib.hid ((H0.out.next hb).alloc (.cells #[.int .i64 (0), .int .i64 (0)] 22)); have H1n := Lib.hid ((H1.out.next hb).alloc (.cells #[.int .i64 (0), .int .i64 (0)] 22)); have HXn := Lib.hid ((HX.out.next hb).alloc (.cells #[.int .i64 (0), .int .i64 (0)] 22)); have HYn := Lib.hid ((HY.out.next hb).alloc (.cells #[.int .i64 (0), .int .i64 (0)] 22)); have HZ := Lib.hid (R2.new w' (0) (0)); clear HB hb H0 H1 HX HY x0 x1 x2 y0 y1 y2 u0 u1 z0 z1; have HB := HB2; clear HB2; have H0 := H0n; clear H0n; have H1 := H1n; clear H1n; have HX := HXn; clear HXn; have HY := HYn; clear HYn; have x0 := H0.out.c0; have x1 := H0.out.c1; have x2 := H0.out.c2; have y0 := H1.out.c0; have y1 := H1.out.c1; have y2 := H1.out.c2; have u0 := HX.out.c0; have u1 := HX.out.c1; have z0 := HY.out.c0; have z1 := HY.out.c1; have p0 := HZ.out.c0; have p1 := HZ.out.c1)
    | (go_at_call 24; ((with_reducible refine (HC5.out _).mono ?_); rintro e w' ⟨rfl, hb⟩); have HB2 := Lib.hid (HB.out.trans (hb.mono HB.out.size)); have H0n := Lib.hid (H0.out.next hb); have H1n := Lib.hid (H1.out.next hb); have HXn := Lib.hid (HX.out.next hb); have HYn := Lib.hid (HY.out.next hb); clear HB hb H0 H1 HX HY x0 x1 x2 y0 y1 y2 u0 u1 z0 z1; have HB := HB2; clear HB2; have H0 := H0n; clear H0n; have H1 := H1n; clear H1n; have HX := HXn; clear HXn; have HY := HYn; clear HYn; have x0 := H0.out.c0; have x1 := H0.out.c1; have x2 := H0.out.c2; have y0 := H1.out.c0; have y1 := H1.out.c1; have y2 := H1.out.c2; have u0 := HX.out.c0; have u1 := HX.out.c1; have z0 := HY.out.c0; have z1 := HY.out.c1)
    | (go_at_call 11; ((with_reducible refine (HC4.out _).mono ?_); rintro e w' ⟨rfl, hb⟩); have HB2 := Lib.hid (HB.out.trans (hb.mono HB.out.size)); have H0n := Lib.hid (H0.out.next hb); have H1n := Lib.hid (H1.out.next hb); have HXn := Lib.hid (HX.out.next hb); have HYn := Lib.hid (HY.out.next hb); clear HB hb H0 H1 HX HY x0 x1 x2 y0 y1 y2 u0 u1 z0 z1; have HB := HB2; clear HB2; have H0 := H0n; clear H0n; have H1 := H1n; clear H1n; have HX := HXn; clear HXn; have HY := HYn; clear HYn; have x0 := H0.out.c0; have x1 := H0.out.c1; have x2 := H0.out.c2; have y0 := H1.out.c0; have y1 := H1.out.c1; have y2 := H1.out.c2; have u0 := HX.out.c0; have u1 := HX.out.c1; have z0 := HY.out.c0; have z1 := HY.out.c1)
    | (go_at_call 15; ((with_reducible refine (HC3.out _).mono ?_); rintro e w' ⟨rfl, hb⟩); have HB2 := Lib.hid (HB.out.trans (hb.mono HB.out.size)); have H0n := Lib.hid (H0.out.next hb); have H1n := Lib.hid (H1.out.next hb); have HXn := Lib.hid (HX.out.next hb); have HYn := Lib.hid (HY.out.next hb); clear HB hb H0 H1 HX HY x0 x1 x2 y0 y1 y2 u0 u1 z0 z1; have HB := HB2; clear HB2; have H0 := H0n; clear H0n; have H1 := H1n; clear H1n; have HX := HXn; clear HXn; have HY := HYn; clear HYn; have x0 := H0.out.c0; have x1 := H0.out.c1; have x2 := H0.out.c2; have y0 := H1.out.c0; have y1 := H1.out.c1; have y2 := H1.out.c2; have u0 := HX.out.c0; have u1 := HX.out.c1; have z0 := HY.out.c0; have z1 := HY.out.c1)
    | (go_at_call 28; ((with_reducible refine (HC2.out _).mono ?_); rintro e w' ⟨rfl, hb⟩); have HB2 := Lib.hid ((HB.out.trans (hb.mono HB.out.size)).alloc (HB.out.trans (hb.mono HB.out.size)).size (.cells #[.int .i64 (0), .int .i64 (0)] 22)); have H0n := Lib.hid ((H0.out.next hb).alloc (.cells #[.int .i64 (0), .int .i64 (0)] 22)); have H1n := Lib.hid ((H1.out.next hb).alloc (.cells #[.int .i64 (0), .int .i64 (0)] 22)); have HXn := Lib.hid ((HX.out.next hb).alloc (.cells #[.int .i64 (0), .int .i64 (0)] 22)); have HY := Lib.hid (R2.new w' (0) (0)); clear HB hb H0 H1 HX x0 x1 x2 y0 y1 y2 u0 u1; have HB := HB2; clear HB2; have H0 := H0n; clear H0n; have H1 := H1n; clear H1n; have HX := HXn; clear HXn; have x0 := H0.out.c0; have x1 := H0.out.c1; have x2 := H0.out.c2; have y0 := H1.out.c0; have y1 := H1.out.c1; have y2 := H1.out.c2; have u0 := HX.out.c0; have u1 := HX.out.c1; have z0 := HY.out.c0; have z1 := HY.out.c1)
    | (go_at_call 28; ((with_reducible refine (HC1.out _).mono ?_); rintro e w' ⟨rfl, hb⟩); have HB2 := Lib.hid ((HB.out.trans (hb.mono HB.out.size)).alloc (HB.out.trans (hb.mono HB.out.size)).size (.cells #[.int .i64 (0), .int .i64 (0)] 22)); have H0n := Lib.hid ((H0.out.next hb).alloc (.cells #[.int .i64 (0), .int .i64 (0)] 22)); have H1n := Lib.hid ((H1.out.next hb).alloc (.cells #[.int .i64 (0), .int .i64 (0)] 22)); have HX := Lib.hid (R2.new w' (0) (0)); clear HB hb H0 H1 x0 x1 x2 y0 y1 y2; have HB := HB2; clear HB2; have H0 := H0n; clear H0n; have H1 := H1n; clear H1n; have x0 := H0.out.c0; have x1 := H0.out.c1; have x2 := H0.out.c2; have y0 := H1.out.c0; have y1 := H1.out.c1; have y2 := H1.out.c2; have u0 := HX.out.c0; have u1 := HX.out.c1))
  have hS : KC w 0 0 0 _ := ⟨HB.out, H0.out⟩
  clear HB H0 H1 HX HY HZ HW x0 x1 x2 y0 y1 y2 u0 u1 z0 z1 p0 p1 q0 q1
  refine wp_region_held_drew (S := (fun W => KC w 0 0 0 W ∧ W.cell? ⟨w.heap.size, 0, none⟩ = some (.int .i64 0) ∧ W.cell? ⟨w.heap.size, 1, none⟩ = some (.int .i64 0) ∧ W.cell? ⟨w.heap.size, 2, none⟩ = some (.int .i64 0))) (by kernel_rfl) ?_ (fun hHeld => ?_)
  · exact KC.all (KC.drew hS)
  generalize World.drew _ = wd at hHeld ⊢
  clear hS
  refine wpAnyH_take (i := 0) (v := ?_) rfl (by kernel_rfl) (by kernel_rfl) (by kernel_rfl) (fun _ _ _ h => h) (Or.inl ⟨by rfl, ?_⟩) (by assumption) ?_
  rotate_left
  · ((intro w0 hSw); (try dsimp only at hSw); go_simp; (try with_reducible rfl))
  change wpAnyH _ _ _ _ _ _ _ (Act.put _ (some 161) _) _
  try simp only [Act.put, List.setIfInBounds_toArray, List.set_cons_zero, List.set_cons_succ]
  refine wpAnyH_take (i := 1) (v := ?_) rfl (by kernel_rfl) (by kernel_rfl) (by kernel_rfl) (fun _ _ _ h => h) (Or.inl ⟨by rfl, ?_⟩) (by assumption) ?_
  rotate_left
  · ((intro w0 hSw); (try dsimp only at hSw); go_simp; (try with_reducible rfl))
  change wpAnyH _ _ _ _ _ _ _ (Act.put _ (some 162) _) _
  try simp only [Act.put, List.setIfInBounds_toArray, List.set_cons_zero, List.set_cons_succ]
  refine wpAnyH_take (i := 2) (v := ?_) rfl (by kernel_rfl) (by kernel_rfl) (by kernel_rfl) (fun _ _ _ h => h) (Or.inl ⟨by rfl, ?_⟩) (by assumption) ?_
  rotate_left
  · ((intro w0 hSw); (try dsimp only at hSw); go_simp; (try with_reducible rfl))
  change wpAnyH _ _ _ _ _ _ _ (Act.put _ (some 163) _) _
  try simp only [Act.put, List.setIfInBounds_toArray, List.set_cons_zero, List.set_cons_succ]
  refine wpAnyH_take (i := 3) (v := ?_) rfl (by kernel_rfl) (by kernel_rfl) (by kernel_rfl) (fun _ _ _ h => h) (Or.inl ⟨by rfl, ?_⟩) (by assumption) ?_
  rotate_left
  · ((intro w0 hSw); (try dsimp only at hSw); go_simp; (try with_reducible rfl))
  change wpAnyH _ _ _ _ _ _ _ (Act.put _ (some 164) _) _
  try simp only [Act.put, List.setIfInBounds_toArray, List.set_cons_zero, List.set_cons_succ]
  refine wpAnyH_take (i := 4) (v := ?_) rfl (by kernel_rfl) (by kernel_rfl) (by kernel_rfl) (fun _ _ _ h => h) (Or.inl ⟨by rfl, ?_⟩) (by assumption) ?_
  rotate_left
  · ((intro w0 hSw); (try dsimp only at hSw); go_simp; (try with_reducible rfl))
  change wpAnyH _ _ _ _ _ _ _ (Act.put _ (some 165) _) _
  try simp only [Act.put, List.setIfInBounds_toArray, List.set_cons_zero, List.set_cons_succ]
  refine wpAnyH_take (i := 5) (v := ?_) rfl (by kernel_rfl) (by kernel_rfl) (by kernel_rfl) (fun _ _ _ h => h) (Or.inl ⟨by rfl, ?_⟩) (by assumption) ?_
  rotate_left
  · ((intro w0 hSw); (try dsimp only at hSw); go_simp; (try with_reducible rfl))
  change wpAnyH _ _ _ _ _ _ _ (Act.put _ (some 166) _) _
  try simp only [Act.put, List.setIfInBounds_toArray, List.set_cons_zero, List.set_cons_succ]
  refine wpAnyH_take (i := 6) (v := ?_) rfl (by kernel_rfl) (by kernel_rfl) (by kernel_rfl) (fun _ _ _ h => h) (Or.inl ⟨by rfl, ?_⟩) (by assumption) ?_
  rotate_left
  · ((intro w0 hSw); (try dsimp only at hSw); go_simp; (try with_reducible rfl))
  change wpAnyH _ _ _ _ _ _ _ (Act.put _ (some 167) _) _
  try simp only [Act.put, List.setIfInBounds_toArray, List.set_cons_zero, List.set_cons_succ]
  refine wpAnyH_take (i := 7) (v := ?_) rfl (by kernel_rfl) (by kernel_rfl) (by kernel_rfl) (fun _ _ _ h => h) (Or.inl ⟨by rfl, ?_⟩) (by assumption) ?_
  rotate_left
  · ((intro w0 hSw); (try dsimp only at hSw); go_simp; (try with_reducible rfl))
  change wpAnyH _ _ _ _ _ _ _ (Act.put _ (some 168) _) _
  try simp only [Act.put, List.setIfInBounds_toArray, List.set_cons_zero, List.set_cons_succ]
  refine wpAnyH_take (i := 9) (v := ?_) rfl (by kernel_rfl) (by kernel_rfl) (by kernel_rfl) (fun _ _ _ h => h) (Or.inl ⟨by rfl, ?_⟩) (by assumption) ?_
  rotate_left
  · ((intro w0 hSw); (try dsimp only at hSw); go_simp; (try with_reducible rfl))
  change wpAnyH _ _ _ _ _ _ _ (Act.put _ (some 170) _) _
  try simp only [Act.put, List.setIfInBounds_toArray, List.set_cons_zero, List.set_cons_succ]
  refine wpAnyH_take (i := 10) (v := ?_) rfl (by kernel_rfl) (by kernel_rfl) (by kernel_rfl) (fun _ _ _ h => h) (Or.inl ⟨by rfl, ?_⟩) (by assumption) ?_
  rotate_left
  · ((intro w0 hSw); (try dsimp only at hSw); go_simp; (try with_reducible rfl))
  change wpAnyH _ _ _ _ _ _ _ (Act.put _ (some 171) _) _
  try simp only [Act.put, List.setIfInBounds_toArray, List.set_cons_zero, List.set_cons_succ]
  refine wpAnyH_ready (rs := [8, 16]) (by kernel_rfl) (by simp) ?_
  refine AllReadyH.cons rfl (fun K hK => ?_) (AllReadyH.cons rfl (fun K hK => ?_) (AllReadyH.nil))
  · have LW : Hid (w.heap.size < wd.heap.size) := hHeld.1.s.lt
    go_simp
    refine hK.out _ _ ?_ (fun hHeld2 => ?_)
    · exact KC.all (KC.alloc hHeld.1 _)
    clear hK K hHeld
    have hHeld := hHeld2; clear hHeld2
    try change wpAnyH _ _ _ _ _ _ _ (Act.put _ (some 169) _) _
    try simp only [Act.put, List.setIfInBounds_toArray, List.set_cons_zero, List.set_cons_succ]
    refine wpAnyH_take (i := 11) (v := ?_) rfl (by kernel_rfl) (by kernel_rfl) (by kernel_rfl) (fun _ _ _ h => h) (Or.inl ⟨by rfl, ?_⟩) (by assumption) ?_
    rotate_left
    · ((intro w0 hSw); (try dsimp only at hSw); go_simp; (try with_reducible rfl))
    change wpAnyH _ _ _ _ _ _ _ (Act.put _ (some 172) _) _
    try simp only [Act.put, List.setIfInBounds_toArray, List.set_cons_zero, List.set_cons_succ]
    refine wpAnyH_ready (rs := [12, 16]) (by kernel_rfl) (by simp) ?_
    refine AllReadyH.cons rfl (fun K hK => ?_) (AllReadyH.cons rfl (fun K hK => ?_) (AllReadyH.nil))
    · go_simp
      go_at_call 22
      refine (HC8.out _ _ _ _ (heap_alloc_last _ _)).mono ?_
      rintro e wl ⟨rfl, hbn⟩
      refine hK.out _ _ ?_ (fun hHeld2 => ?_)
      · exact KC.alln hHeld hbn
      clear hK K hHeld
      have hHeld := hHeld2; clear hHeld2
      try change wpAnyH _ _ _ _ _ _ _ (Act.put _ (some 173) _) _
      try simp only [Act.put, List.setIfInBounds_toArray, List.set_cons_zero, List.set_cons_succ]
      refine wpAnyH_take (i := 13) (v := ?_) rfl (by kernel_rfl) (by kernel_rfl) (by kernel_rfl) (fun _ _ _ h => h) (Or.inl ⟨by rfl, ?_⟩) (by assumption) ?_
      rotate_left
      · ((intro w0 hSw); (try dsimp only at hSw); go_simp; (try with_reducible rfl))
      change wpAnyH _ _ _ _ _ _ _ (Act.put _ (some 160) _) _
      try simp only [Act.put, List.setIfInBounds_toArray, List.set_cons_zero, List.set_cons_succ]
      refine wpAnyH_take (i := 14) (v := ?_) rfl (by kernel_rfl) (by kernel_rfl) (by kernel_rfl) (fun _ _ _ h => h) (Or.inl ⟨by rfl, ?_⟩) (by assumption) ?_
      rotate_left
      · ((intro w0 hSw); (try dsimp only at hSw); go_simp; (try with_reducible rfl))
      change wpAnyH _ _ _ _ _ _ _ (Act.put _ (some 174) _) _
      try simp only [Act.put, List.setIfInBounds_toArray, List.set_cons_zero, List.set_cons_succ]
      refine wpAnyH_take (i := 15) (v := ?_) rfl (by kernel_rfl) (by kernel_rfl) (by kernel_rfl) (fun _ _ _ h => h) (Or.inl ⟨by rfl, ?_⟩) (by assumption) ?_
      rotate_left
      · ((intro w0 hSw); (try dsimp only at hSw); go_simp; (try with_reducible rfl))
      change wpAnyH _ _ _ _ _ _ _ (Act.put _ (some 175) _) _
      try simp only [Act.put, List.setIfInBounds_toArray, List.set_cons_zero, List.set_cons_succ]
      have LN : Hid (w.heap.size < wl.heap.size) := hHeld.1.s.lt
      have HN := Lib.hid (R2.new wl 0 0)
      have KL := Lib.hid hHeld.1
      refine wpAnyH_ready (rs := [16]) (by kernel_rfl) (by simp) ?_
      refine AllReadyH.cons rfl (fun K hK => ?_) (AllReadyH.nil)
      go_simp
      refine hK.out _ _ ?_ (fun hHeld2 => ?_)
      · exact KC.all (KC.alloc hHeld.1 _)
      clear hK K hHeld
      have hHeld := hHeld2; clear hHeld2
      try change wpAnyH _ _ _ _ _ _ _ (Act.put _ (some 20) _) _
      try simp only [Act.put, List.setIfInBounds_toArray, List.set_cons_zero, List.set_cons_succ]
      have n0 := HN.out.c0
      have n1 := HN.out.c1
      have nf0 := HN.out.f0
      have nf1 := HN.out.f1
      refine wpAnyH_ready (rs := [17]) (by kernel_rfl) (by simp) ?_
      refine AllReadyH.cons rfl (fun K hK => ?_) (AllReadyH.nil)
      go_simp
      refine hK.out _ _ ?_ (fun hHeld2 => ?_)
      · exact KC.all (KL.out.alloc _)
      clear hK K hHeld
      have hHeld := hHeld2; clear hHeld2
      try change wpAnyH _ _ _ _ _ _ _ (Act.put _ (none) _) _
      try simp only [Act.put, List.setIfInBounds_toArray, List.set_cons_zero, List.set_cons_succ]
      clear HN n0 n1 nf0 nf1 KL
      have HN := Lib.hid (R2.new wl 0 0)
      refine wpAnyH_take (i := 18) (v := ?_) rfl (by kernel_rfl) (by kernel_rfl) (by kernel_rfl) (fun _ _ _ h => h) (Or.inl ⟨by rfl, ?_⟩) (by assumption) ?_
      rotate_left
      · ((intro w0 hSw); (try dsimp only at hSw); go_simp; (try with_reducible rfl))
      change wpAnyH _ _ _ _ _ _ _ (Act.put _ (some 7) _) _
      try simp only [Act.put, List.setIfInBounds_toArray, List.set_cons_zero, List.set_cons_succ]
      refine wpAnyH_done (by kernel_rfl) ?_ _
      have HB := Lib.hid hHeld.1.bel
      have H0 := Lib.hid hHeld.1.s
      clear hHeld LN
      have x0 := H0.out.c0
      have x1 := H0.out.c1
      have x2 := H0.out.c2
      have n0 := HN.out.c0
      have n1 := HN.out.c1
      go_wp2_with (first
        | (go_at_call 17; ((with_reducible refine (awake_any _ (HL.out.next HB.out)).mono ?_); rintro e w' ⟨rfl, hb⟩); have HB2 := Lib.hid (HB.out.trans (hb.mono HB.out.size)); have H0n := Lib.hid (H0.out.next hb); have HNn := Lib.hid (HN.out.next hb); have HPn := Lib.hid (HP.out.next hb); clear HB hb H0 HN HP x0 x1 x2 n0 n1 p0 p1; have HB := HB2; clear HB2; have H0 := H0n; clear H0n; have HN := HNn; clear HNn; have HP := HPn; clear HPn; have x0 := H0.out.c0; have x1 := H0.out.c1; have x2 := H0.out.c2; have n0 := HN.out.c0; have n1 := HN.out.c1; have p0 := HP.out.c0; have p1 := HP.out.c1)
        | (go_at_call 26; ((with_reducible refine (HC9.out _).mono ?_); rintro e w' ⟨rfl, hb⟩); have HB2 := Lib.hid ((HB.out.trans (hb.mono HB.out.size)).alloc (HB.out.trans (hb.mono HB.out.size)).size (.cells #[.int .i64 (0), .int .i64 (0)] 22)); have H0n := Lib.hid ((H0.out.next hb).alloc (.cells #[.int .i64 (0), .int .i64 (0)] 22)); have HNn := Lib.hid ((HN.out.next hb).alloc (.cells #[.int .i64 (0), .int .i64 (0)] 22)); have HP := Lib.hid (R2.new w' (0) (0)); clear HB hb H0 HN x0 x1 x2 n0 n1; have HB := HB2; clear HB2; have H0 := H0n; clear H0n; have HN := HNn; clear HNn; have x0 := H0.out.c0; have x1 := H0.out.c1; have x2 := H0.out.c2; have n0 := HN.out.c0; have n1 := HN.out.c1; have p0 := HP.out.c0; have p1 := HP.out.c1))
      go_ret
      exact ⟨rfl, HB.out⟩
    · have LN : Hid (w.heap.size < wd.heap.size + 1) := Nat.lt_succ_of_lt LW.out
      have HN : Hid (R2 ((wd.alloc (.cells #[.int .i64 0, .int .i64 0] 3)).alloc (.cells #[.int .i64 0, .int .i64 0] 22)) (wd.heap.size + 1) 0 0) := by have := R2.new (wd.alloc (.cells #[.int .i64 0, .int .i64 0] 3)) 0 0; unfold Hid; simpa using this
      go_simp
      refine hK.out _ _ ?_ (fun hHeld2 => ?_)
      · exact KC.all (KC.alloc hHeld.1 _)
      clear hK K hHeld
      have hHeld := hHeld2; clear hHeld2
      try change wpAnyH _ _ _ _ _ _ _ (Act.put _ (some 20) _) _
      try simp only [Act.put, List.setIfInBounds_toArray, List.set_cons_zero, List.set_cons_succ]
      refine wpAnyH_ready (rs := [12]) (by kernel_rfl) (by simp) ?_
      refine AllReadyH.cons rfl (fun K hK => ?_) (AllReadyH.nil)
      go_simp
      go_at_call 22
      refine (HC8.out _ _ _ _ (two_under _ _ _)).mono ?_
      rintro e wl ⟨rfl, hbn⟩
      have HM := Lib.hid (HN.out.next hbn)
      clear HN
      have HN := HM
      clear HM
      refine hK.out _ _ ?_ (fun hHeld2 => ?_)
      · exact KC.alln hHeld hbn
      clear hK K hHeld
      have hHeld := hHeld2; clear hHeld2
      try change wpAnyH _ _ _ _ _ _ _ (Act.put _ (some 173) _) _
      try simp only [Act.put, List.setIfInBounds_toArray, List.set_cons_zero, List.set_cons_succ]
      refine wpAnyH_take (i := 13) (v := ?_) rfl (by kernel_rfl) (by kernel_rfl) (by kernel_rfl) (fun _ _ _ h => h) (Or.inl ⟨by rfl, ?_⟩) (by assumption) ?_
      rotate_left
      · ((intro w0 hSw); (try dsimp only at hSw); go_simp; (try with_reducible rfl))
      change wpAnyH _ _ _ _ _ _ _ (Act.put _ (some 160) _) _
      try simp only [Act.put, List.setIfInBounds_toArray, List.set_cons_zero, List.set_cons_succ]
      refine wpAnyH_take (i := 14) (v := ?_) rfl (by kernel_rfl) (by kernel_rfl) (by kernel_rfl) (fun _ _ _ h => h) (Or.inl ⟨by rfl, ?_⟩) (by assumption) ?_
      rotate_left
      · ((intro w0 hSw); (try dsimp only at hSw); go_simp; (try with_reducible rfl))
      change wpAnyH _ _ _ _ _ _ _ (Act.put _ (some 174) _) _
      try simp only [Act.put, List.setIfInBounds_toArray, List.set_cons_zero, List.set_cons_succ]
      refine wpAnyH_take (i := 15) (v := ?_) rfl (by kernel_rfl) (by kernel_rfl) (by kernel_rfl) (fun _ _ _ h => h) (Or.inl ⟨by rfl, ?_⟩) (by assumption) ?_
      rotate_left
      · ((intro w0 hSw); (try dsimp only at hSw); go_simp; (try with_reducible rfl))
      change wpAnyH _ _ _ _ _ _ _ (Act.put _ (some 175) _) _
      try simp only [Act.put, List.setIfInBounds_toArray, List.set_cons_zero, List.set_cons_succ]
      have n0 := HN.out.c0
      have n1 := HN.out.c1
      have nf0 := HN.out.f0
      have nf1 := HN.out.f1
      refine wpAnyH_ready (rs := [17]) (by kernel_rfl) (by simp) ?_
      refine AllReadyH.cons rfl (fun K hK => ?_) (AllReadyH.nil)
      go_simp
      refine hK.out _ _ ?_ (fun hHeld2 => ?_)
      · exact KC.all (KC.put hHeld.1 LN.out _ _)
      clear hK K hHeld
      have hHeld := hHeld2; clear hHeld2
      try change wpAnyH _ _ _ _ _ _ _ (Act.put _ (none) _) _
      try simp only [Act.put, List.setIfInBounds_toArray, List.set_cons_zero, List.set_cons_succ]
      have HM := Lib.hid (HN.out.set 0 0)
      clear HN n0 n1 nf0 nf1
      have HN := HM
      clear HM
      refine wpAnyH_take (i := 18) (v := ?_) rfl (by kernel_rfl) (by kernel_rfl) (by kernel_rfl) (fun _ _ _ h => h) (Or.inl ⟨by rfl, ?_⟩) (by assumption) ?_
      rotate_left
      · ((intro w0 hSw); (try dsimp only at hSw); go_simp; (try with_reducible rfl))
      change wpAnyH _ _ _ _ _ _ _ (Act.put _ (some 7) _) _
      try simp only [Act.put, List.setIfInBounds_toArray, List.set_cons_zero, List.set_cons_succ]
      refine wpAnyH_done (by kernel_rfl) ?_ _
      have HB := Lib.hid hHeld.1.bel
      have H0 := Lib.hid hHeld.1.s
      clear hHeld LN
      have x0 := H0.out.c0
      have x1 := H0.out.c1
      have x2 := H0.out.c2
      have n0 := HN.out.c0
      have n1 := HN.out.c1
      go_wp2_with (first
        | (go_at_call 17; ((with_reducible refine (awake_any _ (HL.out.next HB.out)).mono ?_); rintro e w' ⟨rfl, hb⟩); have HB2 := Lib.hid (HB.out.trans (hb.mono HB.out.size)); have H0n := Lib.hid (H0.out.next hb); have HNn := Lib.hid (HN.out.next hb); have HPn := Lib.hid (HP.out.next hb); clear HB hb H0 HN HP x0 x1 x2 n0 n1 p0 p1; have HB := HB2; clear HB2; have H0 := H0n; clear H0n; have HN := HNn; clear HNn; have HP := HPn; clear HPn; have x0 := H0.out.c0; have x1 := H0.out.c1; have x2 := H0.out.c2; have n0 := HN.out.c0; have n1 := HN.out.c1; have p0 := HP.out.c0; have p1 := HP.out.c1)
        | (go_at_call 26; ((with_reducible refine (HC9.out _).mono ?_); rintro e w' ⟨rfl, hb⟩); have HB2 := Lib.hid ((HB.out.trans (hb.mono HB.out.size)).alloc (HB.out.trans (hb.mono HB.out.size)).size (.cells #[.int .i64 (0), .int .i64 (0)] 22)); have H0n := Lib.hid ((H0.out.next hb).alloc (.cells #[.int .i64 (0), .int .i64 (0)] 22)); have HNn := Lib.hid ((HN.out.next hb).alloc (.cells #[.int .i64 (0), .int .i64 (0)] 22)); have HP := Lib.hid (R2.new w' (0) (0)); clear HB hb H0 HN x0 x1 x2 n0 n1; have HB := HB2; clear HB2; have H0 := H0n; clear H0n; have HN := HNn; clear HNn; have x0 := H0.out.c0; have x1 := H0.out.c1; have x2 := H0.out.c2; have n0 := HN.out.c0; have n1 := HN.out.c1; have p0 := HP.out.c0; have p1 := HP.out.c1))
      go_ret
      exact ⟨rfl, HB.out⟩
  · have LN : Hid (w.heap.size < wd.heap.size) := hHeld.1.s.lt
    have HN := Lib.hid (R2.new wd 0 0)
    go_simp
    refine hK.out _ _ ?_ (fun hHeld2 => ?_)
    · exact KC.all (KC.alloc hHeld.1 _)
    clear hK K hHeld
    have hHeld := hHeld2; clear hHeld2
    try change wpAnyH _ _ _ _ _ _ _ (Act.put _ (some 20) _) _
    try simp only [Act.put, List.setIfInBounds_toArray, List.set_cons_zero, List.set_cons_succ]
    refine wpAnyH_ready (rs := [8]) (by kernel_rfl) (by simp) ?_
    refine AllReadyH.cons rfl (fun K hK => ?_) (AllReadyH.nil)
    go_simp
    refine hK.out _ _ ?_ (fun hHeld2 => ?_)
    · exact KC.all (KC.alloc hHeld.1 _)
    clear hK K hHeld
    have hHeld := hHeld2; clear hHeld2
    try change wpAnyH _ _ _ _ _ _ _ (Act.put _ (some 169) _) _
    try simp only [Act.put, List.setIfInBounds_toArray, List.set_cons_zero, List.set_cons_succ]
    have HM := Lib.hid (HN.out.alloc (.cells #[.int .i64 0, .int .i64 0] 3))
    clear HN
    have HN := HM
    clear HM
    refine wpAnyH_take (i := 11) (v := ?_) rfl (by kernel_rfl) (by kernel_rfl) (by kernel_rfl) (fun _ _ _ h => h) (Or.inl ⟨by rfl, ?_⟩) (by assumption) ?_
    rotate_left
    · ((intro w0 hSw); (try dsimp only at hSw); go_simp; (try with_reducible rfl))
    change wpAnyH _ _ _ _ _ _ _ (Act.put _ (some 172) _) _
    try simp only [Act.put, List.setIfInBounds_toArray, List.set_cons_zero, List.set_cons_succ]
    refine wpAnyH_ready (rs := [12]) (by kernel_rfl) (by simp) ?_
    refine AllReadyH.cons rfl (fun K hK => ?_) (AllReadyH.nil)
    go_simp
    go_at_call 22
    refine (HC8.out _ _ _ _ (two_over _ _ _)).mono ?_
    rintro e wl ⟨rfl, hbn⟩
    have HM := Lib.hid (HN.out.next hbn)
    clear HN
    have HN := HM
    clear HM
    refine hK.out _ _ ?_ (fun hHeld2 => ?_)
    · exact KC.alln hHeld hbn
    clear hK K hHeld
    have hHeld := hHeld2; clear hHeld2
    try change wpAnyH _ _ _ _ _ _ _ (Act.put _ (some 173) _) _
    try simp only [Act.put, List.setIfInBounds_toArray, List.set_cons_zero, List.set_cons_succ]
    refine wpAnyH_take (i := 13) (v := ?_) rfl (by kernel_rfl) (by kernel_rfl) (by kernel_rfl) (fun _ _ _ h => h) (Or.inl ⟨by rfl, ?_⟩) (by assumption) ?_
    rotate_left
    · ((intro w0 hSw); (try dsimp only at hSw); go_simp; (try with_reducible rfl))
    change wpAnyH _ _ _ _ _ _ _ (Act.put _ (some 160) _) _
    try simp only [Act.put, List.setIfInBounds_toArray, List.set_cons_zero, List.set_cons_succ]
    refine wpAnyH_take (i := 14) (v := ?_) rfl (by kernel_rfl) (by kernel_rfl) (by kernel_rfl) (fun _ _ _ h => h) (Or.inl ⟨by rfl, ?_⟩) (by assumption) ?_
    rotate_left
    · ((intro w0 hSw); (try dsimp only at hSw); go_simp; (try with_reducible rfl))
    change wpAnyH _ _ _ _ _ _ _ (Act.put _ (some 174) _) _
    try simp only [Act.put, List.setIfInBounds_toArray, List.set_cons_zero, List.set_cons_succ]
    refine wpAnyH_take (i := 15) (v := ?_) rfl (by kernel_rfl) (by kernel_rfl) (by kernel_rfl) (fun _ _ _ h => h) (Or.inl ⟨by rfl, ?_⟩) (by assumption) ?_
    rotate_left
    · ((intro w0 hSw); (try dsimp only at hSw); go_simp; (try with_reducible rfl))
    change wpAnyH _ _ _ _ _ _ _ (Act.put _ (some 175) _) _
    try simp only [Act.put, List.setIfInBounds_toArray, List.set_cons_zero, List.set_cons_succ]
    have n0 := HN.out.c0
    have n1 := HN.out.c1
    have nf0 := HN.out.f0
    have nf1 := HN.out.f1
    refine wpAnyH_ready (rs := [17]) (by kernel_rfl) (by simp) ?_
    refine AllReadyH.cons rfl (fun K hK => ?_) (AllReadyH.nil)
    go_simp
    refine hK.out _ _ ?_ (fun hHeld2 => ?_)
    · exact KC.all (KC.put hHeld.1 LN.out _ _)
    clear hK K hHeld
    have hHeld := hHeld2; clear hHeld2
    try change wpAnyH _ _ _ _ _ _ _ (Act.put _ (none) _) _
    try simp only [Act.put, List.setIfInBounds_toArray, List.set_cons_zero, List.set_cons_succ]
    have HM := Lib.hid (HN.out.set 0 0)
    clear HN n0 n1 nf0 nf1
    have HN := HM
    clear HM
    refine wpAnyH_take (i := 18) (v := ?_) rfl (by kernel_rfl) (by kernel_rfl) (by kernel_rfl) (fun _ _ _ h => h) (Or.inl ⟨by rfl, ?_⟩) (by assumption) ?_
    rotate_left
    · ((intro w0 hSw); (try dsimp only at hSw); go_simp; (try with_reducible rfl))
    change wpAnyH _ _ _ _ _ _ _ (Act.put _ (some 7) _) _
    try simp only [Act.put, List.setIfInBounds_toArray, List.set_cons_zero, List.set_cons_succ]
    refine wpAnyH_done (by kernel_rfl) ?_ _
    have HB := Lib.hid hHeld.1.bel
    have H0 := Lib.hid hHeld.1.s
    clear hHeld LN
    have x0 := H0.out.c0
    have x1 := H0.out.c1
    have x2 := H0.out.c2
    have n0 := HN.out.c0
    have n1 := HN.out.c1
    go_wp2_with (first
      | (go_at_call 17; ((with_reducible refine (awake_any _ (HL.out.next HB.out)).mono ?_); rintro e w' ⟨rfl, hb⟩); have HB2 := Lib.hid (HB.out.trans (hb.mono HB.out.size)); have H0n := Lib.hid (H0.out.next hb); have HNn := Lib.hid (HN.out.next hb); have HPn := Lib.hid (HP.out.next hb); clear HB hb H0 HN HP x0 x1 x2 n0 n1 p0 p1; have HB := HB2; clear HB2; have H0 := H0n; clear H0n; have HN := HNn; clear HNn; have HP := HPn; clear HPn; have x0 := H0.out.c0; have x1 := H0.out.c1; have x2 := H0.out.c2; have n0 := HN.out.c0; have n1 := HN.out.c1; have p0 := HP.out.c0; have p1 := HP.out.c1)
      | (go_at_call 26; ((with_reducible refine (HC9.out _).mono ?_); rintro e w' ⟨rfl, hb⟩); have HB2 := Lib.hid ((HB.out.trans (hb.mono HB.out.size)).alloc (HB.out.trans (hb.mono HB.out.size)).size (.cells #[.int .i64 (0), .int .i64 (0)] 22)); have H0n := Lib.hid ((H0.out.next hb).alloc (.cells #[.int .i64 (0), .int .i64 (0)] 22)); have HNn := Lib.hid ((HN.out.next hb).alloc (.cells #[.int .i64 (0), .int .i64 (0)] 22)); have HP := Lib.hid (R2.new w' (0) (0)); clear HB hb H0 HN x0 x1 x2 n0 n1; have HB := HB2; clear HB2; have H0 := H0n; clear H0n; have HN := HNn; clear HNn; have x0 := H0.out.c0; have x1 := H0.out.c1; have x2 := H0.out.c2; have n0 := HN.out.c0; have n1 := HN.out.c1; have p0 := HP.out.c0; have p1 := HP.out.c1))
    go_ret
    exact ⟨rfl, HB.out⟩
end Go.Proofs.YtnojidecfmpdjaaDoor
