/- The law ShapesOrder as a walk. -/
import Derived.Test.YtnojidecfmpdjaaDoorShO
import Derived.Test.YtnojidecfmpdjaaDoorShP
namespace Go.Proofs.YtnojidecfmpdjaaDoor
open Go.RowKit

theorem neZ {q : Int} (h0 : 0 ≤ q) (h1 : q < 1) : (q != 0) = false := by simp; omega
theorem neL {q a : Int} (h1 : q < a) : decide (a ≤ q) = false := by simp; omega
set_option maxRecDepth 100000 in
set_option maxHeartbeats 8000000 in
theorem order_no (r a b : Int) (w : World) (hw : Lay w) (hk : ckS r a b ≠ 0) :
    Calls Tryd.prog 7 #[P3 r a b] w fun e w' => e = .returned (.bool true) ∧ Below w.heap.size w w' := by
  have HL := Lib.hid hw
  clear hw
  have HB := Lib.hid ((Below.refl w.heap.size w).alloc (Nat.le_refl _) (.cells #[.int .i64 r, .int .i64 a, .int .i64 b] 24))
  have H0 := Lib.hid (R3.new w (r) (a) (b))
  have x0 := H0.out.c0
  have x1 := H0.out.c1
  have x2 := H0.out.c2
  obtain ⟨k, hkk⟩ : ∃ k, k = ckS r a b := ⟨_, rfl⟩
  have HC1 : Hid (∀ W, Calls Tryd.prog 11 #[.int .i64 r, P2 a b] W fun e w' => e = .returned (.tuple #[.int .i64 0, .int .i64 k]) ∧ Below W.heap.size W w') := fun W => by have := cells_any r a b W; unfold cV at this; rwa [if_neg hk, ← hkk] at this
  rw [← hkk] at hk
  have k1 : (k != 0) = true := by simpa using hk
  have k2 : (k == 0) = false := by simpa using hk
  clear hk hkk
  go_enter Tryd.func7, Tryd.ntmps7
  go_wp2_with (first
    | (go_at_call 11; ((with_reducible refine (HC1.out _).mono ?_); rintro e w' ⟨rfl, hb⟩); have HB2 := Lib.hid (HB.out.trans (hb.mono HB.out.size)); have H0n := Lib.hid (H0.out.next hb); clear HB hb H0 x0 x1 x2; have HB := HB2; clear HB2; have H0 := H0n; clear H0n; have x0 := H0.out.c0; have x1 := H0.out.c1; have x2 := H0.out.c2)
    | (go_at_call 17; ((with_reducible refine (awake_any _ (HL.out.next HB.out)).mono ?_); rintro e w' ⟨rfl, hb⟩); have HB2 := Lib.hid (HB.out.trans (hb.mono HB.out.size)); have H0n := Lib.hid (H0.out.next hb); clear HB hb H0 x0 x1 x2; have HB := HB2; clear HB2; have H0 := H0n; clear H0n; have x0 := H0.out.c0; have x1 := H0.out.c1; have x2 := H0.out.c2))
  go_ret
  exact ⟨rfl, HB.out⟩
set_option maxRecDepth 100000 in
set_option maxHeartbeats 8000000 in
theorem order_s0 (w : World) (hw : Lay w) (hs : Sh 0 0 0) :
    Calls Tryd.prog 7 #[P3 0 0 0] w fun e w' => e = .returned (.bool true) ∧ Below w.heap.size w w' := by
  have HL := Lib.hid hw
  clear hw
  have HB := Lib.hid ((Below.refl w.heap.size w).alloc (Nat.le_refl _) (.cells #[.int .i64 0, .int .i64 0, .int .i64 0] 24))
  have H0 := Lib.hid (R3.new w (0) (0) (0))
  have x0 := H0.out.c0
  have x1 := H0.out.c1
  have x2 := H0.out.c2
  have HS := Lib.hid hs
  obtain ⟨n, hn⟩ : ∃ n, n = (cn 0 0 0).toNat := ⟨_, rfl⟩
  obtain ⟨y, hy⟩ : ∃ y, y = mxb 0 0 := ⟨_, rfl⟩
  have hn1 : cn 0 0 0 = (n : Int) := by have := hs.bd.2.2.1; omega
  have hn2 : (n : Int) ≤ 400 := by have := hs.bd.2.2.2.1; omega
  have HN := Lib.hid hn1
  have HY := Lib.hid hy
  have HC1 : Hid (∀ W, Calls Tryd.prog 11 #[.int .i64 0, P2 0 0] W fun e w' => e = .returned (.tuple #[.int .i64 n, .int .i64 0]) ∧ Below W.heap.size W w') := fun W => by have := cells_any 0 0 0 W; unfold cV at this; rwa [if_pos (sh_ok HS.out), sh_ok HS.out, HN.out] at this
  have HIx : Hid (∀ i : Nat, i < n → ∀ W, Calls Tryd.prog 20 #[.int .i64 0, P2 0 0, .int .i64 i] W fun e w' => e = .returned (.tuple #[P2 ((i : Int) / y) ((i : Int) % y), .int .i64 0]) ∧ Below W.heap.size W w') := fun i hi W => by
    have h := index_any 0 0 0 i W (by omega) (by omega)
    obtain ⟨⟨e0, e1, e2⟩, _, _⟩ := ord_at HS.out (i := (i : Int)) (by omega) (by rw [HN.out]; omega)
    rwa [e0, e1, e2, ← HY.out] at h
  have HPl : Hid (∀ i : Nat, i < n → ∀ W, Calls Tryd.prog 18 #[.int .i64 0, P2 0 0, P2 ((i : Int) / y) ((i : Int) % y)] W fun e w' => e = .returned (.tuple #[.int .i64 i, .int .i64 0]) ∧ Below W.heap.size W w') := fun i hi W => by
    have h := place_any 0 0 0 ((i : Int) / y) ((i : Int) % y) W
    obtain ⟨_, ⟨e0, e1⟩, _⟩ := ord_at HS.out (i := (i : Int)) (by omega) (by rw [HN.out]; omega)
    rw [← HY.out] at e0 e1
    rwa [e0, e1] at h
  have HCn : Hid (∀ W, Calls Tryd.prog 20 #[.int .i64 0, P2 0 0, .int .i64 n] W fun e w' => e = .returned (.tuple #[P2 0 0, .int .i64 4]) ∧ Below W.heap.size W w') := fun W => by
    have h := index_any 0 0 0 n W (by omega) (by omega)
    obtain ⟨e0, e1, e2⟩ := ord_out HS.out (i := (n : Int)) (by rw [HN.out]; omega)
    rwa [e0, e1, e2] at h
  have HCm : Hid (∀ W, Calls Tryd.prog 20 #[.int .i64 0, P2 0 0, .int .i64 (-1)] W fun e w' => e = .returned (.tuple #[P2 0 0, .int .i64 4]) ∧ Below W.heap.size W w') := fun W => by
    have h := index_any 0 0 0 (-1) W (by omega) (by omega)
    obtain ⟨e0, e1, e2⟩ := ord_out HS.out (i := (-1 : Int)) (by omega)
    rwa [e0, e1, e2] at h
  have HYp : Hid (∀ i : Nat, i < n → 0 < y ∧ (i : Int) / y < mxa 0 0) := fun i hi => ⟨by rw [HY.out]; exact mxb_pos HS.out (i := (i : Int)) (by omega) (by rw [HN.out]; omega), by
    rw [HY.out]; exact (ord_at HS.out (i := (i : Int)) (by omega) (by rw [HN.out]; omega)).2.2⟩
  clear hs hn hy hn1 HN HS
  go_enter Tryd.func7, Tryd.ntmps7
  go_wp2_with ((go_at_call 11; ((with_reducible refine (HC1.out _).mono ?_); rintro e wc ⟨rfl, hb⟩); have HB2 := Lib.hid (HB.out.trans (hb.mono HB.out.size)); have H0n := Lib.hid (H0.out.next hb); clear HB hb H0 x0 x1 x2; have HB := HB2; clear HB2; have H0 := H0n; clear H0n; have x0 := H0.out.c0; have x1 := H0.out.c1; have x2 := H0.out.c2))
  have HB2 := Lib.hid (HB.out.alloc HB.out.size (.cells #[.int .i64 (-1), .int .i64 (-1)] 22))
  have H02 := Lib.hid (H0.out.alloc (.cells #[.int .i64 (-1), .int .i64 (-1)] 22))
  have HX := Lib.hid (R2.new wc (-1) (-1))
  have LX : Hid (w.heap.size < wc.heap.size) := H0.out.lt
  clear HB H0 x0 x1 x2 HC1
  go_loopg [6] n (fun g i wr => ∃ k : Nat, k + g = n ∧ i = .int .i64 k ∧ Below w.heap.size w wr ∧ R3 wr w.heap.size (0) (0) (0) ∧ R2 wr wc.heap.size (lst y k).1 (lst y k).2)
  case atStart => exact ⟨0, by omega, rfl, HB2.out, H02.out, HX.out⟩
  case round =>
    clear HB2 H02 HX
    obtain ⟨k, hkg, rfl, hrb, hr0, hrx⟩ := hrel
    have HB := Lib.hid hrb
    have H0 := Lib.hid hr0
    have HX := Lib.hid hrx
    clear hrb hr0 hrx
    cases gk with
    | zero =>
      obtain rfl : k = n := by omega
      have hkn : ¬ ((k : Int) < (k : Int)) := by omega
      clear HX
      have x0 := H0.out.c0
      have x1 := H0.out.c1
      have x2 := H0.out.c2
      go_wp2_with (first
        | (go_at_call 20; ((with_reducible refine (HCn.out _).mono ?_); rintro e w' ⟨rfl, hb⟩); have HB2 := Lib.hid ((HB.out.trans (hb.mono HB.out.size)).alloc (HB.out.trans (hb.mono HB.out.size)).size (.cells #[.int .i64 (0), .int .i64 (0)] 22)); have H0n := Lib.hid ((H0.out.next hb).alloc (.cells #[.int .i64 (0), .int .i64 (0)] 22)); have HP := Lib.hid (R2.new w' (0) (0)); clear HB hb H0 x0 x1 x2; have HB := HB2; clear HB2; have H0 := H0n; clear H0n; have x0 := H0.out.c0; have x1 := H0.out.c1; have x2 := H0.out.c2; have p0 := HP.out.c0; have p1 := HP.out.c1)
        | (go_at_call 20; ((with_reducible refine (HCm.out _).mono ?_); rintro e w' ⟨rfl, hb⟩); have HB2 := Lib.hid ((HB.out.trans (hb.mono HB.out.size)).alloc (HB.out.trans (hb.mono HB.out.size)).size (.cells #[.int .i64 (0), .int .i64 (0)] 22)); have H0n := Lib.hid ((H0.out.next hb).alloc (.cells #[.int .i64 (0), .int .i64 (0)] 22)); have HPn := Lib.hid ((HP.out.next hb).alloc (.cells #[.int .i64 (0), .int .i64 (0)] 22)); have HQ := Lib.hid (R2.new w' (0) (0)); clear HB hb H0 HP x0 x1 x2 p0 p1; have HB := HB2; clear HB2; have H0 := H0n; clear H0n; have HP := HPn; clear HPn; have x0 := H0.out.c0; have x1 := H0.out.c1; have x2 := H0.out.c2; have p0 := HP.out.c0; have p1 := HP.out.c1; have q0 := HQ.out.c0; have q1 := HQ.out.c1)
        | (go_at_call 17; ((with_reducible refine (awake_any _ (HL.out.next HB.out)).mono ?_); rintro e w' ⟨rfl, hb⟩); have HB2 := Lib.hid (HB.out.trans (hb.mono HB.out.size)); have H0n := Lib.hid (H0.out.next hb); have HPn := Lib.hid (HP.out.next hb); have HQn := Lib.hid (HQ.out.next hb); clear HB hb H0 HP HQ x0 x1 x2 p0 p1 q0 q1; have HB := HB2; clear HB2; have H0 := H0n; clear H0n; have HP := HPn; clear HPn; have HQ := HQn; clear HQn; have x0 := H0.out.c0; have x1 := H0.out.c1; have x2 := H0.out.c2; have p0 := HP.out.c0; have p1 := HP.out.c1; have q0 := HQ.out.c0; have q1 := HQ.out.c1))
      go_ret
      exact ⟨rfl, HB.out⟩
    | succ g =>
      have hkn : (k : Int) < (n : Int) := by omega
      obtain ⟨hy0, hqa⟩ := HYp.out k (by omega)
      obtain ⟨hdm, m0, m1, q0⟩ := dm (k := (k : Int)) hy0 (by omega)
      have hlt := lst_lt hy0 k
      have HNx : Hid (((k : Int) / y) = (lst y (k + 1)).1 ∧ ((k : Int) % y) = (lst y (k + 1)).2) := by
        unfold Hid lst; rw [if_neg (by omega)]; simp
      obtain ⟨q, hq⟩ : ∃ q, q = (k : Int) / y := ⟨_, rfl⟩
      obtain ⟨m, hm⟩ : ∃ m, m = (k : Int) % y := ⟨_, rfl⟩
      have HI := Lib.hid (HIx.out k (by omega))
      have HPk := Lib.hid (HPl.out k (by omega))
      rw [← hq] at hqa hdm q0 hlt HNx HI HPk
      rw [← hm] at hdm m0 m1 hlt HNx HI HPk
      obtain ⟨l0, hl0⟩ : ∃ l, l = (lst y k).1 := ⟨_, rfl⟩
      obtain ⟨l1, hl1⟩ : ∃ l, l = (lst y k).2 := ⟨_, rfl⟩
      rw [← hl0] at hlt HX
      rw [← hl1] at hlt HX
      clear hq hm hl0 hl1 hdm
      have d1 : decide (q < l0) = false := by simp; omega
      have d2 : decide (q < 0) = false := by simp; omega
      have d3 : decide (m < 0) = false := by simp; omega
      have d4 : (q != 0) = false := neZ q0 (by have h : mxa 0 0 = 1 := (by decide); omega)
      have d5 : (m != 0) = false := neZ m0 (by have h1 := HY.out; have h2 : mxb 0 0 = 1 := (by decide); omega)
      have x0 := H0.out.c0
      have x1 := H0.out.c1
      have x2 := H0.out.c2
      have u0 := HX.out.c0
      have u1 := HX.out.c1
      have uf0 := HX.out.f0
      have uf1 := HX.out.f1
      by_cases hql : q = l0
      · have d6 : (q == l0) = true := by simpa using hql
        have d7 : decide (m ≤ l1) = false := by simp; omega
        clear hql hlt hqa q0 m0 m1 hy0
        go_wp2_with (first
          | (go_at_call 20; ((with_reducible refine (HI.out _).mono ?_); rintro e w' ⟨rfl, hb⟩); have LZ : Hid (_ < w'.heap.size) := Nat.lt_of_lt_of_le HX.out.lt hb.size; have HB2 := Lib.hid ((HB.out.trans (hb.mono HB.out.size)).alloc (HB.out.trans (hb.mono HB.out.size)).size (.cells #[.int .i64 (q), .int .i64 (m)] 22)); have H0n := Lib.hid ((H0.out.next hb).alloc (.cells #[.int .i64 (q), .int .i64 (m)] 22)); have HXn := Lib.hid ((HX.out.next hb).alloc (.cells #[.int .i64 (q), .int .i64 (m)] 22)); have HZ := Lib.hid (R2.new w' (q) (m)); clear HB hb H0 HX x0 x1 x2 u0 u1 uf0 uf1; have HB := HB2; clear HB2; have H0 := H0n; clear H0n; have HX := HXn; clear HXn; have x0 := H0.out.c0; have x1 := H0.out.c1; have x2 := H0.out.c2; have u0 := HX.out.c0; have u1 := HX.out.c1; have uf0 := HX.out.f0; have uf1 := HX.out.f1; have z0 := HZ.out.c0; have z1 := HZ.out.c1)
          | (go_at_call 18; ((with_reducible refine (HPk.out _).mono ?_); rintro e w' ⟨rfl, hb⟩); have HB2 := Lib.hid (HB.out.trans (hb.mono HB.out.size)); have H0n := Lib.hid (H0.out.next hb); have HXn := Lib.hid (HX.out.next hb); have HZn := Lib.hid (HZ.out.next hb); clear HB hb H0 HX HZ x0 x1 x2 u0 u1 uf0 uf1 z0 z1; have HB := HB2; clear HB2; have H0 := H0n; clear H0n; have HX := HXn; clear HXn; have HZ := HZn; clear HZn; have x0 := H0.out.c0; have x1 := H0.out.c1; have x2 := H0.out.c2; have u0 := HX.out.c0; have u1 := HX.out.c1; have uf0 := HX.out.f0; have uf1 := HX.out.f1; have z0 := HZ.out.c0; have z1 := HZ.out.c1))
        refine wp_loop_rounds 4 ?_
        rw [rounds_succ]
        go_wp2
        go_quiet (fail)
        go_wp2
        rw [rounds_succ]
        go_wp2
        go_quiet (fail)
        go_wp2
        rw [rounds_succ]
        go_wp2
        go_roundg g
        case measure => omega
        case rel => exact ⟨k + 1, by omega, by go_num, below2 (below_drewN HB.out _) (Nat.le_of_lt LX.out) _ _, (H0.out.next (drewN_below _ _)).off (Nat.ne_of_lt LX.out) _ _, by rw [← HNx.out.1, ← HNx.out.2]; exact (HX.out.next (drewN_below _ _)).set _ _⟩
      · have d6 : (q == l0) = false := by simpa using hql
        clear hql hlt hqa q0 m0 m1 hy0
        go_wp2_with (first
          | (go_at_call 20; ((with_reducible refine (HI.out _).mono ?_); rintro e w' ⟨rfl, hb⟩); have LZ : Hid (_ < w'.heap.size) := Nat.lt_of_lt_of_le HX.out.lt hb.size; have HB2 := Lib.hid ((HB.out.trans (hb.mono HB.out.size)).alloc (HB.out.trans (hb.mono HB.out.size)).size (.cells #[.int .i64 (q), .int .i64 (m)] 22)); have H0n := Lib.hid ((H0.out.next hb).alloc (.cells #[.int .i64 (q), .int .i64 (m)] 22)); have HXn := Lib.hid ((HX.out.next hb).alloc (.cells #[.int .i64 (q), .int .i64 (m)] 22)); have HZ := Lib.hid (R2.new w' (q) (m)); clear HB hb H0 HX x0 x1 x2 u0 u1 uf0 uf1; have HB := HB2; clear HB2; have H0 := H0n; clear H0n; have HX := HXn; clear HXn; have x0 := H0.out.c0; have x1 := H0.out.c1; have x2 := H0.out.c2; have u0 := HX.out.c0; have u1 := HX.out.c1; have uf0 := HX.out.f0; have uf1 := HX.out.f1; have z0 := HZ.out.c0; have z1 := HZ.out.c1)
          | (go_at_call 18; ((with_reducible refine (HPk.out _).mono ?_); rintro e w' ⟨rfl, hb⟩); have HB2 := Lib.hid (HB.out.trans (hb.mono HB.out.size)); have H0n := Lib.hid (H0.out.next hb); have HXn := Lib.hid (HX.out.next hb); have HZn := Lib.hid (HZ.out.next hb); clear HB hb H0 HX HZ x0 x1 x2 u0 u1 uf0 uf1 z0 z1; have HB := HB2; clear HB2; have H0 := H0n; clear H0n; have HX := HXn; clear HXn; have HZ := HZn; clear HZn; have x0 := H0.out.c0; have x1 := H0.out.c1; have x2 := H0.out.c2; have u0 := HX.out.c0; have u1 := HX.out.c1; have uf0 := HX.out.f0; have uf1 := HX.out.f1; have z0 := HZ.out.c0; have z1 := HZ.out.c1))
        refine wp_loop_rounds 4 ?_
        rw [rounds_succ]
        go_wp2
        go_quiet (fail)
        go_wp2
        rw [rounds_succ]
        go_wp2
        go_quiet (fail)
        go_wp2
        rw [rounds_succ]
        go_wp2
        go_roundg g
        case measure => omega
        case rel => exact ⟨k + 1, by omega, by go_num, below2 (below_drewN HB.out _) (Nat.le_of_lt LX.out) _ _, (H0.out.next (drewN_below _ _)).off (Nat.ne_of_lt LX.out) _ _, by rw [← HNx.out.1, ← HNx.out.2]; exact (HX.out.next (drewN_below _ _)).set _ _⟩
set_option maxRecDepth 100000 in
set_option maxHeartbeats 8000000 in
theorem order_s1 (a : Int) (w : World) (hw : Lay w) (hs : Sh 1 a 0) :
    Calls Tryd.prog 7 #[P3 1 a 0] w fun e w' => e = .returned (.bool true) ∧ Below w.heap.size w w' := by
  have HL := Lib.hid hw
  clear hw
  have HB := Lib.hid ((Below.refl w.heap.size w).alloc (Nat.le_refl _) (.cells #[.int .i64 1, .int .i64 a, .int .i64 0] 24))
  have H0 := Lib.hid (R3.new w (1) (a) (0))
  have x0 := H0.out.c0
  have x1 := H0.out.c1
  have x2 := H0.out.c2
  have HS := Lib.hid hs
  obtain ⟨n, hn⟩ : ∃ n, n = (cn 1 a 0).toNat := ⟨_, rfl⟩
  obtain ⟨y, hy⟩ : ∃ y, y = mxb 1 0 := ⟨_, rfl⟩
  have hn1 : cn 1 a 0 = (n : Int) := by have := hs.bd.2.2.1; omega
  have hn2 : (n : Int) ≤ 400 := by have := hs.bd.2.2.2.1; omega
  have HN := Lib.hid hn1
  have HY := Lib.hid hy
  have HC1 : Hid (∀ W, Calls Tryd.prog 11 #[.int .i64 1, P2 a 0] W fun e w' => e = .returned (.tuple #[.int .i64 n, .int .i64 0]) ∧ Below W.heap.size W w') := fun W => by have := cells_any 1 a 0 W; unfold cV at this; rwa [if_pos (sh_ok HS.out), sh_ok HS.out, HN.out] at this
  have HIx : Hid (∀ i : Nat, i < n → ∀ W, Calls Tryd.prog 20 #[.int .i64 1, P2 a 0, .int .i64 i] W fun e w' => e = .returned (.tuple #[P2 ((i : Int) / y) ((i : Int) % y), .int .i64 0]) ∧ Below W.heap.size W w') := fun i hi W => by
    have h := index_any 1 a 0 i W (by omega) (by omega)
    obtain ⟨⟨e0, e1, e2⟩, _, _⟩ := ord_at HS.out (i := (i : Int)) (by omega) (by rw [HN.out]; omega)
    rwa [e0, e1, e2, ← HY.out] at h
  have HPl : Hid (∀ i : Nat, i < n → ∀ W, Calls Tryd.prog 18 #[.int .i64 1, P2 a 0, P2 ((i : Int) / y) ((i : Int) % y)] W fun e w' => e = .returned (.tuple #[.int .i64 i, .int .i64 0]) ∧ Below W.heap.size W w') := fun i hi W => by
    have h := place_any 1 a 0 ((i : Int) / y) ((i : Int) % y) W
    obtain ⟨_, ⟨e0, e1⟩, _⟩ := ord_at HS.out (i := (i : Int)) (by omega) (by rw [HN.out]; omega)
    rw [← HY.out] at e0 e1
    rwa [e0, e1] at h
  have HCn : Hid (∀ W, Calls Tryd.prog 20 #[.int .i64 1, P2 a 0, .int .i64 n] W fun e w' => e = .returned (.tuple #[P2 0 0, .int .i64 4]) ∧ Below W.heap.size W w') := fun W => by
    have h := index_any 1 a 0 n W (by omega) (by omega)
    obtain ⟨e0, e1, e2⟩ := ord_out HS.out (i := (n : Int)) (by rw [HN.out]; omega)
    rwa [e0, e1, e2] at h
  have HCm : Hid (∀ W, Calls Tryd.prog 20 #[.int .i64 1, P2 a 0, .int .i64 (-1)] W fun e w' => e = .returned (.tuple #[P2 0 0, .int .i64 4]) ∧ Below W.heap.size W w') := fun W => by
    have h := index_any 1 a 0 (-1) W (by omega) (by omega)
    obtain ⟨e0, e1, e2⟩ := ord_out HS.out (i := (-1 : Int)) (by omega)
    rwa [e0, e1, e2] at h
  have HYp : Hid (∀ i : Nat, i < n → 0 < y ∧ (i : Int) / y < mxa 1 a) := fun i hi => ⟨by rw [HY.out]; exact mxb_pos HS.out (i := (i : Int)) (by omega) (by rw [HN.out]; omega), by
    rw [HY.out]; exact (ord_at HS.out (i := (i : Int)) (by omega) (by rw [HN.out]; omega)).2.2⟩
  clear hs hn hy hn1 HN HS
  go_enter Tryd.func7, Tryd.ntmps7
  go_wp2_with ((go_at_call 11; ((with_reducible refine (HC1.out _).mono ?_); rintro e wc ⟨rfl, hb⟩); have HB2 := Lib.hid (HB.out.trans (hb.mono HB.out.size)); have H0n := Lib.hid (H0.out.next hb); clear HB hb H0 x0 x1 x2; have HB := HB2; clear HB2; have H0 := H0n; clear H0n; have x0 := H0.out.c0; have x1 := H0.out.c1; have x2 := H0.out.c2))
  have HB2 := Lib.hid (HB.out.alloc HB.out.size (.cells #[.int .i64 (-1), .int .i64 (-1)] 22))
  have H02 := Lib.hid (H0.out.alloc (.cells #[.int .i64 (-1), .int .i64 (-1)] 22))
  have HX := Lib.hid (R2.new wc (-1) (-1))
  have LX : Hid (w.heap.size < wc.heap.size) := H0.out.lt
  clear HB H0 x0 x1 x2 HC1
  go_loopg [6] n (fun g i wr => ∃ k : Nat, k + g = n ∧ i = .int .i64 k ∧ Below w.heap.size w wr ∧ R3 wr w.heap.size (1) (a) (0) ∧ R2 wr wc.heap.size (lst y k).1 (lst y k).2)
  case atStart => exact ⟨0, by omega, rfl, HB2.out, H02.out, HX.out⟩
  case round =>
    clear HB2 H02 HX
    obtain ⟨k, hkg, rfl, hrb, hr0, hrx⟩ := hrel
    have HB := Lib.hid hrb
    have H0 := Lib.hid hr0
    have HX := Lib.hid hrx
    clear hrb hr0 hrx
    cases gk with
    | zero =>
      obtain rfl : k = n := by omega
      have hkn : ¬ ((k : Int) < (k : Int)) := by omega
      clear HX
      have x0 := H0.out.c0
      have x1 := H0.out.c1
      have x2 := H0.out.c2
      go_wp2_with (first
        | (go_at_call 20; ((with_reducible refine (HCn.out _).mono ?_); rintro e w' ⟨rfl, hb⟩); have HB2 := Lib.hid ((HB.out.trans (hb.mono HB.out.size)).alloc (HB.out.trans (hb.mono HB.out.size)).size (.cells #[.int .i64 (0), .int .i64 (0)] 22)); have H0n := Lib.hid ((H0.out.next hb).alloc (.cells #[.int .i64 (0), .int .i64 (0)] 22)); have HP := Lib.hid (R2.new w' (0) (0)); clear HB hb H0 x0 x1 x2; have HB := HB2; clear HB2; have H0 := H0n; clear H0n; have x0 := H0.out.c0; have x1 := H0.out.c1; have x2 := H0.out.c2; have p0 := HP.out.c0; have p1 := HP.out.c1)
        | (go_at_call 20; ((with_reducible refine (HCm.out _).mono ?_); rintro e w' ⟨rfl, hb⟩); have HB2 := Lib.hid ((HB.out.trans (hb.mono HB.out.size)).alloc (HB.out.trans (hb.mono HB.out.size)).size (.cells #[.int .i64 (0), .int .i64 (0)] 22)); have H0n := Lib.hid ((H0.out.next hb).alloc (.cells #[.int .i64 (0), .int .i64 (0)] 22)); have HPn := Lib.hid ((HP.out.next hb).alloc (.cells #[.int .i64 (0), .int .i64 (0)] 22)); have HQ := Lib.hid (R2.new w' (0) (0)); clear HB hb H0 HP x0 x1 x2 p0 p1; have HB := HB2; clear HB2; have H0 := H0n; clear H0n; have HP := HPn; clear HPn; have x0 := H0.out.c0; have x1 := H0.out.c1; have x2 := H0.out.c2; have p0 := HP.out.c0; have p1 := HP.out.c1; have q0 := HQ.out.c0; have q1 := HQ.out.c1)
        | (go_at_call 17; ((with_reducible refine (awake_any _ (HL.out.next HB.out)).mono ?_); rintro e w' ⟨rfl, hb⟩); have HB2 := Lib.hid (HB.out.trans (hb.mono HB.out.size)); have H0n := Lib.hid (H0.out.next hb); have HPn := Lib.hid (HP.out.next hb); have HQn := Lib.hid (HQ.out.next hb); clear HB hb H0 HP HQ x0 x1 x2 p0 p1 q0 q1; have HB := HB2; clear HB2; have H0 := H0n; clear H0n; have HP := HPn; clear HPn; have HQ := HQn; clear HQn; have x0 := H0.out.c0; have x1 := H0.out.c1; have x2 := H0.out.c2; have p0 := HP.out.c0; have p1 := HP.out.c1; have q0 := HQ.out.c0; have q1 := HQ.out.c1))
      go_ret
      exact ⟨rfl, HB.out⟩
    | succ g =>
      have hkn : (k : Int) < (n : Int) := by omega
      obtain ⟨hy0, hqa⟩ := HYp.out k (by omega)
      obtain ⟨hdm, m0, m1, q0⟩ := dm (k := (k : Int)) hy0 (by omega)
      have hlt := lst_lt hy0 k
      have HNx : Hid (((k : Int) / y) = (lst y (k + 1)).1 ∧ ((k : Int) % y) = (lst y (k + 1)).2) := by
        unfold Hid lst; rw [if_neg (by omega)]; simp
      obtain ⟨q, hq⟩ : ∃ q, q = (k : Int) / y := ⟨_, rfl⟩
      obtain ⟨m, hm⟩ : ∃ m, m = (k : Int) % y := ⟨_, rfl⟩
      have HI := Lib.hid (HIx.out k (by omega))
      have HPk := Lib.hid (HPl.out k (by omega))
      rw [← hq] at hqa hdm q0 hlt HNx HI HPk
      rw [← hm] at hdm m0 m1 hlt HNx HI HPk
      obtain ⟨l0, hl0⟩ : ∃ l, l = (lst y k).1 := ⟨_, rfl⟩
      obtain ⟨l1, hl1⟩ : ∃ l, l = (lst y k).2 := ⟨_, rfl⟩
      rw [← hl0] at hlt HX
      rw [← hl1] at hlt HX
      clear hq hm hl0 hl1 hdm
      have d1 : decide (q < l0) = false := by simp; omega
      have d2 : decide (q < 0) = false := by simp; omega
      have d3 : decide (m < 0) = false := by simp; omega
      have d4 : decide (a ≤ q) = false := neL (by have h : mxa 1 a = a := (by unfold mxa; simp); omega)
      have d5 : (m != 0) = false := neZ m0 (by have h1 := HY.out; have h2 : mxb 1 0 = 1 := (by decide); omega)
      have x0 := H0.out.c0
      have x1 := H0.out.c1
      have x2 := H0.out.c2
      have u0 := HX.out.c0
      have u1 := HX.out.c1
      have uf0 := HX.out.f0
      have uf1 := HX.out.f1
      by_cases hql : q = l0
      · have d6 : (q == l0) = true := by simpa using hql
        have d7 : decide (m ≤ l1) = false := by simp; omega
        clear hql hlt hqa q0 m0 m1 hy0
        go_wp2_with (first
          | (go_at_call 20; ((with_reducible refine (HI.out _).mono ?_); rintro e w' ⟨rfl, hb⟩); have LZ : Hid (_ < w'.heap.size) := Nat.lt_of_lt_of_le HX.out.lt hb.size; have HB2 := Lib.hid ((HB.out.trans (hb.mono HB.out.size)).alloc (HB.out.trans (hb.mono HB.out.size)).size (.cells #[.int .i64 (q), .int .i64 (m)] 22)); have H0n := Lib.hid ((H0.out.next hb).alloc (.cells #[.int .i64 (q), .int .i64 (m)] 22)); have HXn := Lib.hid ((HX.out.next hb).alloc (.cells #[.int .i64 (q), .int .i64 (m)] 22)); have HZ := Lib.hid (R2.new w' (q) (m)); clear HB hb H0 HX x0 x1 x2 u0 u1 uf0 uf1; have HB := HB2; clear HB2; have H0 := H0n; clear H0n; have HX := HXn; clear HXn; have x0 := H0.out.c0; have x1 := H0.out.c1; have x2 := H0.out.c2; have u0 := HX.out.c0; have u1 := HX.out.c1; have uf0 := HX.out.f0; have uf1 := HX.out.f1; have z0 := HZ.out.c0; have z1 := HZ.out.c1)
          | (go_at_call 18; ((with_reducible refine (HPk.out _).mono ?_); rintro e w' ⟨rfl, hb⟩); have HB2 := Lib.hid (HB.out.trans (hb.mono HB.out.size)); have H0n := Lib.hid (H0.out.next hb); have HXn := Lib.hid (HX.out.next hb); have HZn := Lib.hid (HZ.out.next hb); clear HB hb H0 HX HZ x0 x1 x2 u0 u1 uf0 uf1 z0 z1; have HB := HB2; clear HB2; have H0 := H0n; clear H0n; have HX := HXn; clear HXn; have HZ := HZn; clear HZn; have x0 := H0.out.c0; have x1 := H0.out.c1; have x2 := H0.out.c2; have u0 := HX.out.c0; have u1 := HX.out.c1; have uf0 := HX.out.f0; have uf1 := HX.out.f1; have z0 := HZ.out.c0; have z1 := HZ.out.c1))
        refine wp_loop_rounds 4 ?_
        rw [rounds_succ]
        go_wp2
        go_quiet (fail)
        go_wp2
        rw [rounds_succ]
        go_wp2
        go_quiet (fail)
        go_wp2
        rw [rounds_succ]
        go_wp2
        go_roundg g
        case measure => omega
        case rel => exact ⟨k + 1, by omega, by go_num, below2 (below_drewN HB.out _) (Nat.le_of_lt LX.out) _ _, (H0.out.next (drewN_below _ _)).off (Nat.ne_of_lt LX.out) _ _, by rw [← HNx.out.1, ← HNx.out.2]; exact (HX.out.next (drewN_below _ _)).set _ _⟩
      · have d6 : (q == l0) = false := by simpa using hql
        clear hql hlt hqa q0 m0 m1 hy0
        go_wp2_with (first
          | (go_at_call 20; ((with_reducible refine (HI.out _).mono ?_); rintro e w' ⟨rfl, hb⟩); have LZ : Hid (_ < w'.heap.size) := Nat.lt_of_lt_of_le HX.out.lt hb.size; have HB2 := Lib.hid ((HB.out.trans (hb.mono HB.out.size)).alloc (HB.out.trans (hb.mono HB.out.size)).size (.cells #[.int .i64 (q), .int .i64 (m)] 22)); have H0n := Lib.hid ((H0.out.next hb).alloc (.cells #[.int .i64 (q), .int .i64 (m)] 22)); have HXn := Lib.hid ((HX.out.next hb).alloc (.cells #[.int .i64 (q), .int .i64 (m)] 22)); have HZ := Lib.hid (R2.new w' (q) (m)); clear HB hb H0 HX x0 x1 x2 u0 u1 uf0 uf1; have HB := HB2; clear HB2; have H0 := H0n; clear H0n; have HX := HXn; clear HXn; have x0 := H0.out.c0; have x1 := H0.out.c1; have x2 := H0.out.c2; have u0 := HX.out.c0; have u1 := HX.out.c1; have uf0 := HX.out.f0; have uf1 := HX.out.f1; have z0 := HZ.out.c0; have z1 := HZ.out.c1)
          | (go_at_call 18; ((with_reducible refine (HPk.out _).mono ?_); rintro e w' ⟨rfl, hb⟩); have HB2 := Lib.hid (HB.out.trans (hb.mono HB.out.size)); have H0n := Lib.hid (H0.out.next hb); have HXn := Lib.hid (HX.out.next hb); have HZn := Lib.hid (HZ.out.next hb); clear HB hb H0 HX HZ x0 x1 x2 u0 u1 uf0 uf1 z0 z1; have HB := HB2; clear HB2; have H0 := H0n; clear H0n; have HX := HXn; clear HXn; have HZ := HZn; clear HZn; have x0 := H0.out.c0; have x1 := H0.out.c1; have x2 := H0.out.c2; have u0 := HX.out.c0; have u1 := HX.out.c1; have uf0 := HX.out.f0; have uf1 := HX.out.f1; have z0 := HZ.out.c0; have z1 := HZ.out.c1))
        refine wp_loop_rounds 4 ?_
        rw [rounds_succ]
        go_wp2
        go_quiet (fail)
        go_wp2
        rw [rounds_succ]
        go_wp2
        go_quiet (fail)
        go_wp2
        rw [rounds_succ]
        go_wp2
        go_roundg g
        case measure => omega
        case rel => exact ⟨k + 1, by omega, by go_num, below2 (below_drewN HB.out _) (Nat.le_of_lt LX.out) _ _, (H0.out.next (drewN_below _ _)).off (Nat.ne_of_lt LX.out) _ _, by rw [← HNx.out.1, ← HNx.out.2]; exact (HX.out.next (drewN_below _ _)).set _ _⟩
set_option maxRecDepth 100000 in
set_option maxHeartbeats 8000000 in
theorem order_s2 (a b : Int) (w : World) (hw : Lay w) (hs : Sh 2 a b) :
    Calls Tryd.prog 7 #[P3 2 a b] w fun e w' => e = .returned (.bool true) ∧ Below w.heap.size w w' := by
  have HL := Lib.hid hw
  clear hw
  have HB := Lib.hid ((Below.refl w.heap.size w).alloc (Nat.le_refl _) (.cells #[.int .i64 2, .int .i64 a, .int .i64 b] 24))
  have H0 := Lib.hid (R3.new w (2) (a) (b))
  have x0 := H0.out.c0
  have x1 := H0.out.c1
  have x2 := H0.out.c2
  have HS := Lib.hid hs
  obtain ⟨n, hn⟩ : ∃ n, n = (cn 2 a b).toNat := ⟨_, rfl⟩
  obtain ⟨y, hy⟩ : ∃ y, y = mxb 2 b := ⟨_, rfl⟩
  have hn1 : cn 2 a b = (n : Int) := by have := hs.bd.2.2.1; omega
  have hn2 : (n : Int) ≤ 400 := by have := hs.bd.2.2.2.1; omega
  have HN := Lib.hid hn1
  have HY := Lib.hid hy
  have HC1 : Hid (∀ W, Calls Tryd.prog 11 #[.int .i64 2, P2 a b] W fun e w' => e = .returned (.tuple #[.int .i64 n, .int .i64 0]) ∧ Below W.heap.size W w') := fun W => by have := cells_any 2 a b W; unfold cV at this; rwa [if_pos (sh_ok HS.out), sh_ok HS.out, HN.out] at this
  have HIx : Hid (∀ i : Nat, i < n → ∀ W, Calls Tryd.prog 20 #[.int .i64 2, P2 a b, .int .i64 i] W fun e w' => e = .returned (.tuple #[P2 ((i : Int) / y) ((i : Int) % y), .int .i64 0]) ∧ Below W.heap.size W w') := fun i hi W => by
    have h := index_any 2 a b i W (by omega) (by omega)
    obtain ⟨⟨e0, e1, e2⟩, _, _⟩ := ord_at HS.out (i := (i : Int)) (by omega) (by rw [HN.out]; omega)
    rwa [e0, e1, e2, ← HY.out] at h
  have HPl : Hid (∀ i : Nat, i < n → ∀ W, Calls Tryd.prog 18 #[.int .i64 2, P2 a b, P2 ((i : Int) / y) ((i : Int) % y)] W fun e w' => e = .returned (.tuple #[.int .i64 i, .int .i64 0]) ∧ Below W.heap.size W w') := fun i hi W => by
    have h := place_any 2 a b ((i : Int) / y) ((i : Int) % y) W
    obtain ⟨_, ⟨e0, e1⟩, _⟩ := ord_at HS.out (i := (i : Int)) (by omega) (by rw [HN.out]; omega)
    rw [← HY.out] at e0 e1
    rwa [e0, e1] at h
  have HCn : Hid (∀ W, Calls Tryd.prog 20 #[.int .i64 2, P2 a b, .int .i64 n] W fun e w' => e = .returned (.tuple #[P2 0 0, .int .i64 4]) ∧ Below W.heap.size W w') := fun W => by
    have h := index_any 2 a b n W (by omega) (by omega)
    obtain ⟨e0, e1, e2⟩ := ord_out HS.out (i := (n : Int)) (by rw [HN.out]; omega)
    rwa [e0, e1, e2] at h
  have HCm : Hid (∀ W, Calls Tryd.prog 20 #[.int .i64 2, P2 a b, .int .i64 (-1)] W fun e w' => e = .returned (.tuple #[P2 0 0, .int .i64 4]) ∧ Below W.heap.size W w') := fun W => by
    have h := index_any 2 a b (-1) W (by omega) (by omega)
    obtain ⟨e0, e1, e2⟩ := ord_out HS.out (i := (-1 : Int)) (by omega)
    rwa [e0, e1, e2] at h
  have HYp : Hid (∀ i : Nat, i < n → 0 < y ∧ (i : Int) / y < mxa 2 a) := fun i hi => ⟨by rw [HY.out]; exact mxb_pos HS.out (i := (i : Int)) (by omega) (by rw [HN.out]; omega), by
    rw [HY.out]; exact (ord_at HS.out (i := (i : Int)) (by omega) (by rw [HN.out]; omega)).2.2⟩
  have HYb : Hid (y = b) := by unfold Hid; rw [HY.out]; unfold mxb; simp
  clear hs hn hy hn1 HN HS
  go_enter Tryd.func7, Tryd.ntmps7
  go_wp2_with ((go_at_call 11; ((with_reducible refine (HC1.out _).mono ?_); rintro e wc ⟨rfl, hb⟩); have HB2 := Lib.hid (HB.out.trans (hb.mono HB.out.size)); have H0n := Lib.hid (H0.out.next hb); clear HB hb H0 x0 x1 x2; have HB := HB2; clear HB2; have H0 := H0n; clear H0n; have x0 := H0.out.c0; have x1 := H0.out.c1; have x2 := H0.out.c2))
  have HB2 := Lib.hid (HB.out.alloc HB.out.size (.cells #[.int .i64 (-1), .int .i64 (-1)] 22))
  have H02 := Lib.hid (H0.out.alloc (.cells #[.int .i64 (-1), .int .i64 (-1)] 22))
  have HX := Lib.hid (R2.new wc (-1) (-1))
  have LX : Hid (w.heap.size < wc.heap.size) := H0.out.lt
  clear HB H0 x0 x1 x2 HC1
  go_loopg [6] n (fun g i wr => ∃ k : Nat, k + g = n ∧ i = .int .i64 k ∧ Below w.heap.size w wr ∧ R3 wr w.heap.size (2) (a) (b) ∧ R2 wr wc.heap.size (lst y k).1 (lst y k).2)
  case atStart => exact ⟨0, by omega, rfl, HB2.out, H02.out, HX.out⟩
  case round =>
    clear HB2 H02 HX
    obtain ⟨k, hkg, rfl, hrb, hr0, hrx⟩ := hrel
    have HB := Lib.hid hrb
    have H0 := Lib.hid hr0
    have HX := Lib.hid hrx
    clear hrb hr0 hrx
    cases gk with
    | zero =>
      obtain rfl : k = n := by omega
      have hkn : ¬ ((k : Int) < (k : Int)) := by omega
      clear HX
      have x0 := H0.out.c0
      have x1 := H0.out.c1
      have x2 := H0.out.c2
      go_wp2_with (first
        | (go_at_call 20; ((with_reducible refine (HCn.out _).mono ?_); rintro e w' ⟨rfl, hb⟩); have HB2 := Lib.hid ((HB.out.trans (hb.mono HB.out.size)).alloc (HB.out.trans (hb.mono HB.out.size)).size (.cells #[.int .i64 (0), .int .i64 (0)] 22)); have H0n := Lib.hid ((H0.out.next hb).alloc (.cells #[.int .i64 (0), .int .i64 (0)] 22)); have HP := Lib.hid (R2.new w' (0) (0)); clear HB hb H0 x0 x1 x2; have HB := HB2; clear HB2; have H0 := H0n; clear H0n; have x0 := H0.out.c0; have x1 := H0.out.c1; have x2 := H0.out.c2; have p0 := HP.out.c0; have p1 := HP.out.c1)
        | (go_at_call 20; ((with_reducible refine (HCm.out _).mono ?_); rintro e w' ⟨rfl, hb⟩); have HB2 := Lib.hid ((HB.out.trans (hb.mono HB.out.size)).alloc (HB.out.trans (hb.mono HB.out.size)).size (.cells #[.int .i64 (0), .int .i64 (0)] 22)); have H0n := Lib.hid ((H0.out.next hb).alloc (.cells #[.int .i64 (0), .int .i64 (0)] 22)); have HPn := Lib.hid ((HP.out.next hb).alloc (.cells #[.int .i64 (0), .int .i64 (0)] 22)); have HQ := Lib.hid (R2.new w' (0) (0)); clear HB hb H0 HP x0 x1 x2 p0 p1; have HB := HB2; clear HB2; have H0 := H0n; clear H0n; have HP := HPn; clear HPn; have x0 := H0.out.c0; have x1 := H0.out.c1; have x2 := H0.out.c2; have p0 := HP.out.c0; have p1 := HP.out.c1; have q0 := HQ.out.c0; have q1 := HQ.out.c1)
        | (go_at_call 17; ((with_reducible refine (awake_any _ (HL.out.next HB.out)).mono ?_); rintro e w' ⟨rfl, hb⟩); have HB2 := Lib.hid (HB.out.trans (hb.mono HB.out.size)); have H0n := Lib.hid (H0.out.next hb); have HPn := Lib.hid (HP.out.next hb); have HQn := Lib.hid (HQ.out.next hb); clear HB hb H0 HP HQ x0 x1 x2 p0 p1 q0 q1; have HB := HB2; clear HB2; have H0 := H0n; clear H0n; have HP := HPn; clear HPn; have HQ := HQn; clear HQn; have x0 := H0.out.c0; have x1 := H0.out.c1; have x2 := H0.out.c2; have p0 := HP.out.c0; have p1 := HP.out.c1; have q0 := HQ.out.c0; have q1 := HQ.out.c1))
      go_ret
      exact ⟨rfl, HB.out⟩
    | succ g =>
      have hkn : (k : Int) < (n : Int) := by omega
      obtain ⟨hy0, hqa⟩ := HYp.out k (by omega)
      obtain ⟨hdm, m0, m1, q0⟩ := dm (k := (k : Int)) hy0 (by omega)
      have hlt := lst_lt hy0 k
      have HNx : Hid (((k : Int) / y) = (lst y (k + 1)).1 ∧ ((k : Int) % y) = (lst y (k + 1)).2) := by
        unfold Hid lst; rw [if_neg (by omega)]; simp
      obtain ⟨q, hq⟩ : ∃ q, q = (k : Int) / y := ⟨_, rfl⟩
      obtain ⟨m, hm⟩ : ∃ m, m = (k : Int) % y := ⟨_, rfl⟩
      have HI := Lib.hid (HIx.out k (by omega))
      have HPk := Lib.hid (HPl.out k (by omega))
      rw [← hq] at hqa hdm q0 hlt HNx HI HPk
      rw [← hm] at hdm m0 m1 hlt HNx HI HPk
      obtain ⟨l0, hl0⟩ : ∃ l, l = (lst y k).1 := ⟨_, rfl⟩
      obtain ⟨l1, hl1⟩ : ∃ l, l = (lst y k).2 := ⟨_, rfl⟩
      rw [← hl0] at hlt HX
      rw [← hl1] at hlt HX
      clear hq hm hl0 hl1 hdm
      have d1 : decide (q < l0) = false := by simp; omega
      have d2 : decide (q < 0) = false := by simp; omega
      have d3 : decide (m < 0) = false := by simp; omega
      have d4 : decide (a ≤ q) = false := neL (by have h : mxa 2 a = a := (by unfold mxa; simp); omega)
      have d5 : decide (b ≤ m) = false := neL (by have h := HYb.out; omega)
      have x0 := H0.out.c0
      have x1 := H0.out.c1
      have x2 := H0.out.c2
      have u0 := HX.out.c0
      have u1 := HX.out.c1
      have uf0 := HX.out.f0
      have uf1 := HX.out.f1
      by_cases hql : q = l0
      · have d6 : (q == l0) = true := by simpa using hql
        have d7 : decide (m ≤ l1) = false := by simp; omega
        clear hql hlt hqa q0 m0 m1 hy0
        go_wp2_with (first
          | (go_at_call 20; ((with_reducible refine (HI.out _).mono ?_); rintro e w' ⟨rfl, hb⟩); have LZ : Hid (_ < w'.heap.size) := Nat.lt_of_lt_of_le HX.out.lt hb.size; have HB2 := Lib.hid ((HB.out.trans (hb.mono HB.out.size)).alloc (HB.out.trans (hb.mono HB.out.size)).size (.cells #[.int .i64 (q), .int .i64 (m)] 22)); have H0n := Lib.hid ((H0.out.next hb).alloc (.cells #[.int .i64 (q), .int .i64 (m)] 22)); have HXn := Lib.hid ((HX.out.next hb).alloc (.cells #[.int .i64 (q), .int .i64 (m)] 22)); have HZ := Lib.hid (R2.new w' (q) (m)); clear HB hb H0 HX x0 x1 x2 u0 u1 uf0 uf1; have HB := HB2; clear HB2; have H0 := H0n; clear H0n; have HX := HXn; clear HXn; have x0 := H0.out.c0; have x1 := H0.out.c1; have x2 := H0.out.c2; have u0 := HX.out.c0; have u1 := HX.out.c1; have uf0 := HX.out.f0; have uf1 := HX.out.f1; have z0 := HZ.out.c0; have z1 := HZ.out.c1)
          | (go_at_call 18; ((with_reducible refine (HPk.out _).mono ?_); rintro e w' ⟨rfl, hb⟩); have HB2 := Lib.hid (HB.out.trans (hb.mono HB.out.size)); have H0n := Lib.hid (H0.out.next hb); have HXn := Lib.hid (HX.out.next hb); have HZn := Lib.hid (HZ.out.next hb); clear HB hb H0 HX HZ x0 x1 x2 u0 u1 uf0 uf1 z0 z1; have HB := HB2; clear HB2; have H0 := H0n; clear H0n; have HX := HXn; clear HXn; have HZ := HZn; clear HZn; have x0 := H0.out.c0; have x1 := H0.out.c1; have x2 := H0.out.c2; have u0 := HX.out.c0; have u1 := HX.out.c1; have uf0 := HX.out.f0; have uf1 := HX.out.f1; have z0 := HZ.out.c0; have z1 := HZ.out.c1))
        refine wp_loop_rounds 4 ?_
        rw [rounds_succ]
        go_wp2
        go_quiet (fail)
        go_wp2
        rw [rounds_succ]
        go_wp2
        go_quiet (fail)
        go_wp2
        rw [rounds_succ]
        go_wp2
        go_roundg g
        case measure => omega
        case rel => exact ⟨k + 1, by omega, by go_num, below2 (below_drewN HB.out _) (Nat.le_of_lt LX.out) _ _, (H0.out.next (drewN_below _ _)).off (Nat.ne_of_lt LX.out) _ _, by rw [← HNx.out.1, ← HNx.out.2]; exact (HX.out.next (drewN_below _ _)).set _ _⟩
      · have d6 : (q == l0) = false := by simpa using hql
        clear hql hlt hqa q0 m0 m1 hy0
        go_wp2_with (first
          | (go_at_call 20; ((with_reducible refine (HI.out _).mono ?_); rintro e w' ⟨rfl, hb⟩); have LZ : Hid (_ < w'.heap.size) := Nat.lt_of_lt_of_le HX.out.lt hb.size; have HB2 := Lib.hid ((HB.out.trans (hb.mono HB.out.size)).alloc (HB.out.trans (hb.mono HB.out.size)).size (.cells #[.int .i64 (q), .int .i64 (m)] 22)); have H0n := Lib.hid ((H0.out.next hb).alloc (.cells #[.int .i64 (q), .int .i64 (m)] 22)); have HXn := Lib.hid ((HX.out.next hb).alloc (.cells #[.int .i64 (q), .int .i64 (m)] 22)); have HZ := Lib.hid (R2.new w' (q) (m)); clear HB hb H0 HX x0 x1 x2 u0 u1 uf0 uf1; have HB := HB2; clear HB2; have H0 := H0n; clear H0n; have HX := HXn; clear HXn; have x0 := H0.out.c0; have x1 := H0.out.c1; have x2 := H0.out.c2; have u0 := HX.out.c0; have u1 := HX.out.c1; have uf0 := HX.out.f0; have uf1 := HX.out.f1; have z0 := HZ.out.c0; have z1 := HZ.out.c1)
          | (go_at_call 18; ((with_reducible refine (HPk.out _).mono ?_); rintro e w' ⟨rfl, hb⟩); have HB2 := Lib.hid (HB.out.trans (hb.mono HB.out.size)); have H0n := Lib.hid (H0.out.next hb); have HXn := Lib.hid (HX.out.next hb); have HZn := Lib.hid (HZ.out.next hb); clear HB hb H0 HX HZ x0 x1 x2 u0 u1 uf0 uf1 z0 z1; have HB := HB2; clear HB2; have H0 := H0n; clear H0n; have HX := HXn; clear HXn; have HZ := HZn; clear HZn; have x0 := H0.out.c0; have x1 := H0.out.c1; have x2 := H0.out.c2; have u0 := HX.out.c0; have u1 := HX.out.c1; have uf0 := HX.out.f0; have uf1 := HX.out.f1; have z0 := HZ.out.c0; have z1 := HZ.out.c1))
        refine wp_loop_rounds 4 ?_
        rw [rounds_succ]
        go_wp2
        go_quiet (fail)
        go_wp2
        rw [rounds_succ]
        go_wp2
        go_quiet (fail)
        go_wp2
        rw [rounds_succ]
        go_wp2
        go_roundg g
        case measure => omega
        case rel => exact ⟨k + 1, by omega, by go_num, below2 (below_drewN HB.out _) (Nat.le_of_lt LX.out) _ _, (H0.out.next (drewN_below _ _)).off (Nat.ne_of_lt LX.out) _ _, by rw [← HNx.out.1, ← HNx.out.2]; exact (HX.out.next (drewN_below _ _)).set _ _⟩

theorem lawOrder_any (r a b : Int) (w : World) (hw : Lay w) :
    Calls Tryd.prog 7 #[P3 r a b] w fun e w' => e = .returned (.bool true) ∧ Below w.heap.size w w' := by
  rcases sh_dec r a b with ⟨hk, hs⟩ | ⟨hk, hs⟩
  · cases hs with
    | s0 => exact order_s0 w hw .s0
    | s1 _ h0 h1 => exact order_s1 a w hw (.s1 a h0 h1)
    | s2 _ _ h0 h1 h2 h3 h4 => exact order_s2 a b w hw (.s2 a b h0 h1 h2 h3 h4)
  · exact order_no r a b w hw hk
end Go.Proofs.YtnojidecfmpdjaaDoor
