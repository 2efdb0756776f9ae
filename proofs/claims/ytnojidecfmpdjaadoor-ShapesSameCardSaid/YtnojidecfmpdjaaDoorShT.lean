/- The law ShapesSame as a walk. -/
import Derived.Test.YtnojidecfmpdjaaDoorShO
namespace Go.Proofs.YtnojidecfmpdjaaDoor
open Go.RowKit

theorem ftE_sym (r a b s c d : Int) (h : ftE r a b s c d = 0) : ftE s c d r a b = 0 ∧ ftR r a b s c d = ftR s c d r a b ∧ ft0 r a b s c d = ft0 s c d r a b ∧ ft1 r a b s c d = ft1 s c d r a b := by
  have hE := h
  unfold ftE at h
  rcases sh_dec r a b with ⟨h1, hs⟩ | ⟨h1, _⟩ <;> rcases sh_dec s c d with ⟨k, ks⟩ | ⟨k, _⟩
  · rw [if_pos h1, if_pos k] at h
    by_cases q : s = 0 ∨ r = 0
    · have e : ftE s c d r a b = 0 := by unfold ftE; rw [if_pos h1, if_pos k, if_pos q.symm]
      unfold ftR ft0 ft1
      rw [if_pos hE, if_pos hE, if_pos hE, if_pos e, if_pos e, if_pos e]
      refine ⟨e, ?_⟩
      cases hs <;> cases ks <;> simp_all
    · rw [if_neg q] at h
      by_cases q2 : r = s
      · rw [if_pos q2] at h
        by_cases q3 : a = c ∧ b = d
        · obtain ⟨rfl, rfl⟩ := q3
          subst q2
          exact ⟨hE, rfl, rfl, rfl⟩
        · rw [if_neg q3] at h; exact absurd h (by decide)
      · rw [if_neg q2] at h; exact absurd h (by decide)
  · rw [if_pos h1, if_neg k] at h; exact absurd h k
  · rw [if_neg h1] at h; exact absurd h h1
  · rw [if_neg h1] at h; exact absurd h h1
theorem ftE_no (r a b s c d : Int) (h : ftE r a b s c d ≠ 0) : ftE s c d r a b ≠ 0 ∧ (ftR r a b s c d = 0 ∧ ft0 r a b s c d = 0 ∧ ft1 r a b s c d = 0) ∧ ftR s c d r a b = 0 ∧ ft0 s c d r a b = 0 ∧ ft1 s c d r a b = 0 := by
  have e : ftE s c d r a b ≠ 0 := fun e => h (ftE_sym s c d r a b e).1
  unfold ftR ft0 ft1
  rw [if_neg h, if_neg h, if_neg h, if_neg e, if_neg e, if_neg e]
  exact ⟨e, ⟨rfl, rfl, rfl⟩, rfl, rfl, rfl⟩
theorem ftE_bad {r a b : Int} (s c d : Int) (h : ckS r a b ≠ 0) : ftE r a b s c d ≠ 0 := by
  unfold ftE; rw [if_neg h]; exact h
theorem ft_own {r a b : Int} (h : Sh r a b) : ftR r a b r a b = r ∧ ft0 r a b r a b = a ∧ ft1 r a b r a b = b ∧ ftE r a b r a b = 0 := by
  have e : ftE r a b r a b = 0 := by
    unfold ftE; rw [if_pos (sh_ok h), if_pos (sh_ok h)]
    by_cases q : r = 0 ∨ r = 0
    · rw [if_pos q]
    · rw [if_neg q, if_pos rfl, if_pos ⟨rfl, rfl⟩]
  unfold ftR ft0 ft1
  rw [if_pos e, if_pos e, if_pos e]
  exact ⟨by split <;> rfl, by split <;> rfl, by split <;> rfl, e⟩
theorem ft_with {r a b : Int} (h : Sh r a b) : ftR 0 0 0 r a b = r ∧ ft0 0 0 0 r a b = a ∧ ft1 0 0 0 r a b = b ∧ ftE 0 0 0 r a b = 0 := by
  have e : ftE 0 0 0 r a b = 0 := by
    unfold ftE; rw [if_pos (by decide), if_pos (sh_ok h), if_pos (.inr rfl)]
  unfold ftR ft0 ft1
  rw [if_pos e, if_pos e, if_pos e]
  cases h <;> simp [e]
theorem rw_cV {r a b : Int} (h : Sh r a b) : rw0 r a b * rw1 r a b = cV r a b := by
  unfold rw0 rw1 cV; rw [if_pos (sh_ok h), if_pos (sh_ok h), if_pos (sh_ok h)]
  unfold cn
  cases h <;> simp
theorem ln_own {r a b : Int} (h : Sh r a b) : ln0 r ([a, b].take r.toNat) = a ∧ ln1 r ([a, b].take r.toNat) = b ∧ lnE r ([a, b].take r.toNat) = 0 := by
  have e : lnE r ([a, b].take r.toNat) = 0 := by
    unfold lnE
    cases h with
    | s0 => decide
    | s1 _ h0 h1 => simpa using sh_ok (.s1 a h0 h1)
    | s2 _ _ h0 h1 h2 h3 h4 => simpa using sh_ok (.s2 a b h0 h1 h2 h3 h4)
  unfold ln0 ln1
  rw [if_pos e, if_pos e]
  refine ⟨?_, ?_, e⟩ <;> cases h <;> simp
theorem sh_flip {a b : Int} (h : Sh 2 a b) : Sh 2 b a := by
  cases h with
  | s2 _ _ h0 h1 h2 h3 h4 => exact .s2 b a h2 h3 h0 h1 (by rw [Int.mul_comm]; exact h4)
theorem fp_two {a b : Int} (h : Sh 2 a b) : fp0 2 a b = b ∧ fp1 2 a b = a ∧ fpE 2 a b = 0 := by
  have e : fpE 2 a b = 0 := by unfold fpE; rw [if_pos (sh_ok h), if_pos rfl]
  unfold fp0 fp1; rw [if_pos e, if_pos e]; exact ⟨rfl, rfl, e⟩
theorem fp_not {r a b : Int} (h : Sh r a b) (hr : r ≠ 2) : fp0 r a b = 0 ∧ fp1 r a b = 0 ∧ fpE r a b = 6 := by
  have e : fpE r a b = 6 := by unfold fpE; rw [if_pos (sh_ok h), if_neg hr]
  unfold fp0 fp1; rw [e]; exact ⟨rfl, rfl, rfl⟩
set_option maxRecDepth 100000 in
set_option maxHeartbeats 8000000 in
theorem same_no (r a b s c d : Int) (w : World) (hw : Lay w) (hk : ckS r a b ≠ 0) :
    Calls Tryd.prog 9 #[P3 r a b, P3 s c d] w fun e w' => e = .returned (.bool true) ∧ Below w.heap.size w w' := by
  have HL := Lib.hid hw
  clear hw
  have HB := Lib.hid (((Below.refl w.heap.size w).alloc (Nat.le_refl _) (.cells #[.int .i64 r, .int .i64 a, .int .i64 b] 24)).alloc (by simp) (.cells #[.int .i64 s, .int .i64 c, .int .i64 d] 24))
  have H0 := Lib.hid ((R3.new w r a b).alloc (.cells #[.int .i64 s, .int .i64 c, .int .i64 d] 24))
  have H1 : Hid (R3 ((w.alloc (.cells #[.int .i64 r, .int .i64 a, .int .i64 b] 24)).alloc (.cells #[.int .i64 s, .int .i64 c, .int .i64 d] 24)) (w.heap.size + 1) s c d) := by have := R3.new (w.alloc (.cells #[.int .i64 r, .int .i64 a, .int .i64 b] 24)) s c d; unfold Hid; simpa using this
  have x0 := H0.out.c0
  have x1 := H0.out.c1
  have x2 := H0.out.c2
  have y0 := H1.out.c0
  have y1 := H1.out.c1
  have y2 := H1.out.c2
  obtain ⟨k, hkk⟩ : ∃ k, k = ckS r a b := ⟨_, rfl⟩
  obtain ⟨m1, hm1⟩ : ∃ m, m = ftE r a b s c d := ⟨_, rfl⟩
  obtain ⟨m2, hm2⟩ : ∃ m, m = ftE s c d r a b := ⟨_, rfl⟩
  have hf := ftE_bad s c d hk
  have hn := ftE_no r a b s c d hf
  have HC1 : Hid (∀ W, Calls Tryd.prog 28 #[.int .i64 r, P2 a b, .int .i64 s, P2 c d] W fun e w' => e = .returned (.tuple #[.int .i64 0, P2 0 0, .int .i64 m1]) ∧ Below W.heap.size W w') := fun W => by have := fits_any r a b s c d W; rwa [hn.2.1.1, hn.2.1.2.1, hn.2.1.2.2, ← hm1] at this
  have HC2 : Hid (∀ W, Calls Tryd.prog 28 #[.int .i64 s, P2 c d, .int .i64 r, P2 a b] W fun e w' => e = .returned (.tuple #[.int .i64 0, P2 0 0, .int .i64 m2]) ∧ Below W.heap.size W w') := fun W => by have := fits_any s c d r a b W; rwa [hn.2.2.1, hn.2.2.2.1, hn.2.2.2.2, ← hm2] at this
  have HC3 : Hid (∀ W, Calls Tryd.prog 15 #[.int .i64 r, P2 a b] W fun e w' => e = .returned (.int .i64 k) ∧ Below W.heap.size W w') := fun W => by rw [hkk]; exact check_any r a b W
  have hn1 := hn.1
  rw [← hm1] at hf
  rw [← hm2] at hn1
  rw [← hkk] at hk
  have k1 : (k != 0) = true := by simpa using hk
  have k2 : (m1 == 0) = false := by simpa using hf
  have k3 : (m2 == 0) = false := by simpa using hn1
  have k4 : (m1 != 0) = true := by simpa using hf
  have HQ := fun W => eq2t 0 0 W
  clear hk hkk hm1 hm2 hf hn hn1
  go_enter Tryd.func9, Tryd.ntmps9
  go_wp2_with (first
    | (go_at_call 17; ((with_reducible refine (awake_any _ (HL.out.next HB.out)).mono ?_); rintro e w' ⟨rfl, hb⟩); have HB2 := Lib.hid (HB.out.trans (hb.mono HB.out.size)); have H0n := Lib.hid (H0.out.next hb); have H1n := Lib.hid (H1.out.next hb); have HXn := Lib.hid (HX.out.next hb); have HYn := Lib.hid (HY.out.next hb); clear HB hb H0 H1 HX HY x0 x1 x2 y0 y1 y2 u0 u1 z0 z1; have HB := HB2; clear HB2; have H0 := H0n; clear H0n; have H1 := H1n; clear H1n; have HX := HXn; clear HXn; have HY := HYn; clear HYn; have x0 := H0.out.c0; have x1 := H0.out.c1; have x2 := H0.out.c2; have y0 := H1.out.c0; have y1 := H1.out.c1; have y2 := H1.out.c2; have u0 := HX.out.c0; have u1 := HX.out.c1; have z0 := HY.out.c0; have z1 := HY.out.c1)
    | (go_at_call 15; ((with_reducible refine (HC3.out _).mono ?_); rintro e w' ⟨rfl, hb⟩); have HB2 := Lib.hid (HB.out.trans (hb.mono HB.out.size)); have H0n := Lib.hid (H0.out.next hb); have H1n := Lib.hid (H1.out.next hb); have HXn := Lib.hid (HX.out.next hb); have HYn := Lib.hid (HY.out.next hb); clear HB hb H0 H1 HX HY x0 x1 x2 y0 y1 y2 u0 u1 z0 z1; have HB := HB2; clear HB2; have H0 := H0n; clear H0n; have H1 := H1n; clear H1n; have HX := HXn; clear HXn; have HY := HYn; clear HYn; have x0 := H0.out.c0; have x1 := H0.out.c1; have x2 := H0.out.c2; have y0 := H1.out.c0; have y1 := H1.out.c1; have y2 := H1.out.c2; have u0 := HX.out.c0; have u1 := HX.out.c1; have z0 := HY.out.c0; have z1 := HY.out.c1)
    | (go_at_call 28; ((with_reducible refine (HC2.out _).mono ?_); rintro e w' ⟨rfl, hb⟩); have HB2 := Lib.hid ((HB.out.trans (hb.mono HB.out.size)).alloc (HB.out.trans (hb.mono HB.out.size)).size (.cells #[.int .i64 (0), .int .i64 (0)] 22)); have H0n := Lib.hid ((H0.out.next hb).alloc (.cells #[.int .i64 (0), .int .i64 (0)] 22)); have H1n := Lib.hid ((H1.out.next hb).alloc (.cells #[.int .i64 (0), .int .i64 (0)] 22)); have HXn := Lib.hid ((HX.out.next hb).alloc (.cells #[.int .i64 (0), .int .i64 (0)] 22)); have HY := Lib.hid (R2.new w' (0) (0)); clear HB hb H0 H1 HX x0 x1 x2 y0 y1 y2 u0 u1; have HB := HB2; clear HB2; have H0 := H0n; clear H0n; have H1 := H1n; clear H1n; have HX := HXn; clear HXn; have x0 := H0.out.c0; have x1 := H0.out.c1; have x2 := H0.out.c2; have y0 := H1.out.c0; have y1 := H1.out.c1; have y2 := H1.out.c2; have u0 := HX.out.c0; have u1 := HX.out.c1; have z0 := HY.out.c0; have z1 := HY.out.c1)
    | (go_at_call 28; ((with_reducible refine (HC1.out _).mono ?_); rintro e w' ⟨rfl, hb⟩); have HB2 := Lib.hid ((HB.out.trans (hb.mono HB.out.size)).alloc (HB.out.trans (hb.mono HB.out.size)).size (.cells #[.int .i64 (0), .int .i64 (0)] 22)); have H0n := Lib.hid ((H0.out.next hb).alloc (.cells #[.int .i64 (0), .int .i64 (0)] 22)); have H1n := Lib.hid ((H1.out.next hb).alloc (.cells #[.int .i64 (0), .int .i64 (0)] 22)); have HX := Lib.hid (R2.new w' (0) (0)); clear HB hb H0 H1 x0 x1 x2 y0 y1 y2; have HB := HB2; clear HB2; have H0 := H0n; clear H0n; have H1 := H1n; clear H1n; have x0 := H0.out.c0; have x1 := H0.out.c1; have x2 := H0.out.c2; have y0 := H1.out.c0; have y1 := H1.out.c1; have y2 := H1.out.c2; have u0 := HX.out.c0; have u1 := HX.out.c1))
  go_ret
  exact ⟨rfl, HB.out⟩
theorem two_under (W : World) (o o2 : Obj) : ((W.alloc o).alloc o2).heap[W.heap.size]? = some o := (((Below.refl _ _).alloc (Nat.le_refl _) o2).block W.heap.size (by simp)).trans (heap_alloc_last W o)
theorem two_over (W : World) (o o2 : Obj) : ((W.alloc o).alloc o2).heap[W.heap.size + 1]? = some o2 := by have := heap_alloc_last (W.alloc o) o2; simpa using this
theorem KC.put {w W : World} {r a b : Int} (h : KC w r a b W) {g : Nat} (hg : w.heap.size < g) (u v : Value) : KC w r a b ((W.setCell ⟨g, 0, none⟩ u).setCell ⟨g, 1, none⟩ v) := ⟨below2 h.bel (Nat.le_of_lt hg) u v, h.s.off (Nat.ne_of_lt hg) u v⟩
theorem KC.alloc {w W : World} {r a b : Int} (h : KC w r a b W) (o : Obj) : KC w r a b (W.alloc o) := h.next ((Below.refl _ _).alloc (Nat.le_refl _) o)
theorem sl_two {W : World} {blk : Nat} {a b : Int} {T : TypeId} {z : Nat × Nat} {n : Nat} (h : W.heap[blk]? = some (.cells #[.int .i64 a, .int .i64 b] T z)) (hn : n ≤ 2) : RdI W.heap.size W (.slice (some ⟨blk, 0, none⟩) n 2) ([a, b].take n) := by
  have hlt : blk < W.heap.size := (Array.getElem?_eq_some_iff.1 h).1
  have c0 : W.cell? ⟨blk, 0 + 0, none⟩ = some (vi a) := by rw [cell_of_block h]; rfl
  have c1 : W.cell? ⟨blk, 0 + 1, none⟩ = some (vi b) := by rw [cell_of_block h]; rfl
  match n, hn with
  | 0, _ => exact ⟨_, 2, rfl, by simp, by decide, fun k => absurd rfl k⟩
  | 1, _ => exact ⟨_, 2, rfl, by simp, by decide, fun _ => ⟨blk, 0, rfl, hlt, fun j hj => by match j, hj with | 0, _ => exact c0⟩⟩
  | 2, _ => exact ⟨_, 2, rfl, by simp, by decide, fun _ => ⟨blk, 0, rfl, hlt, fun j hj => by
      match j, hj with
      | 0, _ => exact c0
      | 1, _ => exact c1⟩⟩
end Go.Proofs.YtnojidecfmpdjaaDoor
