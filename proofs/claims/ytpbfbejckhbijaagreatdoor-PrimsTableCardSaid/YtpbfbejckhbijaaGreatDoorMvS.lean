/- The reference's Take and Drop. -/
import Derived.Test.YtpbfbejckhbijaaGreatDoorMvR
import Derived.BigQuiet
import Derived.StillTailTactics
namespace Go.Proofs.YtpbfbejckhbijaaGreatDoor
open Go.RowKit

theorem tkn_le (n : Int) (m : Nat) : tknN n m ≤ m := by unfold tknN; split <;> omega
theorem tk_neg' {n : Int} {z : List Int} (h : n < 0) : tkZ n z = z.drop (z.length - tknN n z.length) ∧ drZ n z = z.take (z.length - tknN n z.length) := by
  unfold tkZ drZ tknN
  rw [if_pos h, if_pos h, if_pos h]
  have : z.length - (z.length - ((z.length : Int) + n).toNat) = ((z.length : Int) + n).toNat := by omega
  rw [this]; exact ⟨rfl, rfl⟩
theorem tk_pos' {n : Int} {z : List Int} (h : ¬ n < 0) : tkZ n z = z.take (tknN n z.length) ∧ drZ n z = z.drop (tknN n z.length) := by
  unfold tkZ drZ tknN
  rw [if_neg h, if_neg h, if_neg h]
  by_cases h1 : n.toNat ≤ z.length
  · rw [Nat.min_eq_left h1]; exact ⟨rfl, rfl⟩
  · rw [Nat.min_eq_right (by omega), List.take_of_length_le (by omega), List.take_of_length_le (Nat.le_refl _), List.drop_eq_nil_of_le (by omega), List.drop_eq_nil_of_le (Nat.le_refl _)]; exact ⟨rfl, rfl⟩
theorem vec_lit {k : Int} {z : List Int} {v : Value} {w : World} (hv : RdI w.heap.size w v z) (hn : Ru.NilC v) (hl : z.length ≤ 100000) :
    Calls Tryz.prog 48 #[.int .i64 k, v] w fun e w' => ∃ q c, e = .returned (A5 k 1 z.length 0 (.slice q z.length c)) ∧ RdN w.heap.size w' (.slice q z.length c) z ∧ Below w.heap.size w w' := by
  refine (vector7_any k z v w hv hn hl).mono ?_
  rintro e w' ⟨u, h1, h2, h3⟩
  obtain ⟨q, c, hq, _⟩ := h2.form
  have hq2 : u = .slice q z.length c := hq
  subst hq2
  exact ⟨q, c, h1, h2, h3⟩

set_option maxRecDepth 100000 in
set_option maxHeartbeats 16000000 in
theorem rtake_any (N V : Ar) (u v : Value) (w : World) (hw : Ru.Lay w) (hu : RdI w.heap.size w u N.z) (hv : RdI w.heap.size w v V.z) (hnv : Ru.NilC v) (hlN : N.z.length ≤ 100000) (hlV : V.z.length ≤ 100000) (hbn : -9223372036854775808 ≤ fst1 N ∧ fst1 N ≤ 9223372036854775807) :
    Calls Tryz.prog 92 #[A5 N.k N.r N.a N.b u, A5 V.k V.r V.a V.b v] w (RetE (tkV N V) (tkE N V) w) := by
  have HTw : Hid (∀ W, Ru.Lay W → RdI W.heap.size W u N.z → RdI W.heap.size W v V.z → Calls Tryz.prog 138 #[A5 N.k N.r N.a N.b u, A5 V.k V.r V.a V.b v, .int .i64 0, .int .i64 1] W fun e w' => e = .returned (.int .i64 (tkE N V)) ∧ Below W.heap.size W w') := fun W h1 h2 h3 => two_any N V 0 1 u v W h1 h2 h3 (by omega) (by omega)
  have HK := Lib.hid (MK2.new (A := N) (B := V) hw hu hv)
  have x0 := HK.out.c.boxA.c0; have x1 := HK.out.c.boxA.c1; have x2 := HK.out.c.boxA.c2; have x3 := HK.out.c.boxA.c3; have x4 := HK.out.c.boxA.c4; have y0 := HK.out.c.boxB.c0; have y1 := HK.out.c.boxB.c1; have y2 := HK.out.c.boxB.c2; have y3 := HK.out.c.boxB.c3; have y4 := HK.out.c.boxB.c4
  obtain ⟨pu, cu, rfl, _, _, _⟩ := hu
  obtain ⟨p, cap, rfl, hcap, hcap2, hcell⟩ := hv
  clear hcell hw
  have HNil := Lib.hid hnv
  clear hnv
  unfold tkV
  by_cases h1 : tkE N V = 0
  · obtain ⟨hN, hV, h3, h4, h5, h6, h7, h8⟩ := two_ok h1
    have HOne := Lib.hid (scalar_one hN (by omega))
    have hN0 : (0 : Int) < (N.z.length : Int) := by have := HOne.out; omega
    rw [orNo_yes h1, h1]
    rw [h1] at HTw
    clear h1 hN hV h3 h4 h5 h6 h7 h8
    generalize hfn : fst1 N = n at hbn ⊢
    have HFn := Lib.hid hfn
    have HTk := Lib.hid (fun W => taken_any n V.z.length W (by omega) hbn)
    have HLe := Lib.hid (tkn_le n V.z.length)
    clear hfn
    have hVl : (V.z.length : Int) ≤ 100000 := by omega
    have hZl := len_take n V.z
    generalize hZ : tkZ n V.z = Z at hZl ⊢
    have HZ := Lib.hid hZ
    clear hZ
    by_cases hneg : n < 0
    · have HNeg := Lib.hid hneg
      rw [decide_eq_true hneg] at HTk
      go_enter Tryz.func92, Tryz.ntmps92
      go_wp2_with (go_at_call 138; (with_reducible refine (HTw.out _ HK.out.c.lay HK.out.c.rdnA HK.out.c.rdnB).mono ?_); rintro e w1 ⟨rfl, hb⟩; have HK2 := Lib.hid (HK.out.next hb); clear HK x0 x1 x2 x3 x4 y0 y1 y2 y3 y4; have HK := HK2; clear HK2; have x0 := HK.out.c.boxA.c0; have x1 := HK.out.c.boxA.c1; have x2 := HK.out.c.boxA.c2; have x3 := HK.out.c.boxA.c3; have x4 := HK.out.c.boxA.c4; have y0 := HK.out.c.boxB.c0; have y1 := HK.out.c.boxB.c1; have y2 := HK.out.c.boxB.c2; have y3 := HK.out.c.boxB.c3; have y4 := HK.out.c.boxB.c4; clear hb)
      obtain ⟨b1, o1, rfl, _, hn1⟩ := fst1_cell HK.out.c.rdnA (by omega)
      rw [HFn.out] at hn1
      go_quiet ((go_at_call 139; exact Calls.quiet_of_same (HTk.out _)))
      have HK2 := Lib.hid (HK.out.next (drewN_below _ nq))
      generalize World.drewN w1 nq = W2 at HK2 ⊢
      clear HK hn1 x0 x1 x2 x3 x4 y0 y1 y2 y3 y4
      have HK := HK2
      clear HK2
      have y0 := HK.out.c.boxB.c0; have y1 := HK.out.c.boxB.c1; have y2 := HK.out.c.boxB.c2; have y3 := HK.out.c.boxB.c3; have y4 := HK.out.c.boxB.c4
      obtain ⟨k, hk⟩ : ∃ k, tknN n V.z.length = k := ⟨_, rfl⟩
      have HKk := Lib.hid hk
      rw [hk] at HLe ⊢
      clear hk
      have hk0 := HLe.out
      obtain ⟨j, hj⟩ : ∃ j, V.z.length - k = j := ⟨_, rfl⟩
      have hw1 : IntKind.i64.wrap ((V.z.length : Int) - (k : Int)) = (j : Int) := by rw [IntKind.wrap_i64]; omega
      have HZe : Hid (Z = V.z.drop j) := by have h9 := (tk_neg' (z := V.z) HNeg.out).1; rw [HKk.out, hj, HZ.out] at h9; exact h9
      have hjl : j ≤ V.z.length := by omega
      clear hj hk0
      have hji : (j : Int) ≤ (cap : Int) := by omega
      have hjk : j ≤ cap := by omega
      go_wp2_with fail
      by_cases hck : cap = j
      · have HZn : Hid (V.z.length = j) := by unfold Hid; omega
        subst hck
        go_still_tail 10, (by kernel_rfl)
        change wpList _ _ _ _ _ W2.drew
        have HKd := Lib.hid (HK.out.next (Below.refl _ _).drew)
        have hrd : RdI (W2.drew).heap.size W2.drew (.slice p 0 0) Z := by rw [HZe.out]; exact (by rw [List.drop_eq_nil_of_le (by have := HZn.out; omega)]; exact rdI_none (by omega))
        have HVc := Lib.hid (vec_lit (k := V.k) hrd (by intro n' c' e'; cases e'; rfl) (by omega))
        clear HK hrd y0 y1 y2 y3 y4
        generalize W2.drew = Wd at HKd HVc ⊢
        go_wp2_with (go_at_call 48; (with_reducible refine HVc.out.mono ?_); rintro e w3 ⟨q, qc, rfl, hu, hb⟩; have HU := Lib.hid hu; have hlt := HKd.out.sz; have HK := Lib.hid (HKd.out.next hb); clear hu hb HKd; have y0 := HK.out.res.c0; have y1 := HK.out.res.c1; have y2 := HK.out.res.c2; have y3 := HK.out.res.c3; have y4 := HK.out.res.c4; have f0 := HK.out.res.fr 0; have f1 := HK.out.res.fr 1; have f2 := HK.out.res.fr 2; have f3 := HK.out.res.fr 3; have f4 := HK.out.res.fr 4; have HS := Lib.hid (HK.out.res.set V.k 1 Z.length 0 (.slice q Z.length qc)); have z0 := HS.out.c0; have z1 := HS.out.c1; have z2 := HS.out.c2; have z3 := HS.out.c3; have z4 := HS.out.c4)
        refine bodyPost_ret (v := .tuple #[A5 V.k 1 Z.length 0 (.slice q Z.length qc), .int .i64 0]) (by simp [results, Tryz.results92, go_sem, z0, z1, z2, z3, z4]) rfl ?_
        exact ⟨_, rfl, (HU.out.st5 (by omega) _ _ _ _ _).mono (by omega), st5_below _ _ _ _ _ (by omega) HK.out.c.bel⟩
      · have hk3 : 0 < cap - j := by omega
        rcases p with _ | ad
        · have := HNil.out _ _ rfl
          omega
        · go_still_tail 10, (by kernel_rfl)
          change wpList _ _ _ _ _ W2.drew
          have HKd := Lib.hid (HK.out.next (Below.refl _ _).drew)
          have hrd : RdI (W2.drew).heap.size W2.drew (.slice (some (ad.add j)) (V.z.length - j) (cap - j)) Z := by rw [HZe.out]; exact rdI_drop HKd.out.c.rdnB j hjl
          have HVc := Lib.hid (vec_lit (k := V.k) hrd (nil_some _ _ _) (by omega))
          clear HK hrd y0 y1 y2 y3 y4
          generalize W2.drew = Wd at HKd HVc ⊢
          go_wp2_with (go_at_call 48; (with_reducible refine HVc.out.mono ?_); rintro e w3 ⟨q, qc, rfl, hu, hb⟩; have HU := Lib.hid hu; have hlt := HKd.out.sz; have HK := Lib.hid (HKd.out.next hb); clear hu hb HKd; have y0 := HK.out.res.c0; have y1 := HK.out.res.c1; have y2 := HK.out.res.c2; have y3 := HK.out.res.c3; have y4 := HK.out.res.c4; have f0 := HK.out.res.fr 0; have f1 := HK.out.res.fr 1; have f2 := HK.out.res.fr 2; have f3 := HK.out.res.fr 3; have f4 := HK.out.res.fr 4; have HS := Lib.hid (HK.out.res.set V.k 1 Z.length 0 (.slice q Z.length qc)); have z0 := HS.out.c0; have z1 := HS.out.c1; have z2 := HS.out.c2; have z3 := HS.out.c3; have z4 := HS.out.c4)
          refine bodyPost_ret (v := .tuple #[A5 V.k 1 Z.length 0 (.slice q Z.length qc), .int .i64 0]) (by simp [results, Tryz.results92, go_sem, z0, z1, z2, z3, z4]) rfl ?_
          exact ⟨_, rfl, (HU.out.st5 (by omega) _ _ _ _ _).mono (by omega), st5_below _ _ _ _ _ (by omega) HK.out.c.bel⟩
    · have HNeg := Lib.hid hneg
      rw [decide_eq_false hneg] at HTk
      go_enter Tryz.func92, Tryz.ntmps92
      go_wp2_with (go_at_call 138; (with_reducible refine (HTw.out _ HK.out.c.lay HK.out.c.rdnA HK.out.c.rdnB).mono ?_); rintro e w1 ⟨rfl, hb⟩; have HK2 := Lib.hid (HK.out.next hb); clear HK x0 x1 x2 x3 x4 y0 y1 y2 y3 y4; have HK := HK2; clear HK2; have x0 := HK.out.c.boxA.c0; have x1 := HK.out.c.boxA.c1; have x2 := HK.out.c.boxA.c2; have x3 := HK.out.c.boxA.c3; have x4 := HK.out.c.boxA.c4; have y0 := HK.out.c.boxB.c0; have y1 := HK.out.c.boxB.c1; have y2 := HK.out.c.boxB.c2; have y3 := HK.out.c.boxB.c3; have y4 := HK.out.c.boxB.c4; clear hb)
      obtain ⟨b1, o1, rfl, _, hn1⟩ := fst1_cell HK.out.c.rdnA (by omega)
      rw [HFn.out] at hn1
      go_quiet ((go_at_call 139; exact Calls.quiet_of_same (HTk.out _)))
      have HK2 := Lib.hid (HK.out.next (drewN_below _ nq))
      generalize World.drewN w1 nq = W2 at HK2 ⊢
      clear HK hn1 x0 x1 x2 x3 x4 y0 y1 y2 y3 y4
      have HK := HK2
      clear HK2
      have y0 := HK.out.c.boxB.c0; have y1 := HK.out.c.boxB.c1; have y2 := HK.out.c.boxB.c2; have y3 := HK.out.c.boxB.c3; have y4 := HK.out.c.boxB.c4
      obtain ⟨k, hk⟩ : ∃ k, tknN n V.z.length = k := ⟨_, rfl⟩
      have HKk := Lib.hid hk
      rw [hk] at HLe ⊢
      clear hk
      have hk0 := HLe.out
      obtain ⟨j, hj⟩ : ∃ j, k = j := ⟨_, rfl⟩
      subst hj
      have HZe : Hid (Z = V.z.take k) := by have h9 := (tk_pos' (z := V.z) (show ¬ n < 0 by have := HNeg.out; omega)).1; rw [HKk.out, HZ.out] at h9; exact h9
      have hjl := hk0
      clear hk0
      have hji : (k : Int) ≤ (cap : Int) := by omega
      have hjk : k ≤ cap := by omega
      go_wp2_with fail
      go_still_tail 6, (by kernel_rfl)
      change wpList _ _ _ _ _ W2.drew
      have HKd := Lib.hid (HK.out.next (Below.refl _ _).drew)
      have hrd : RdI (W2.drew).heap.size W2.drew (.slice p k cap) Z := by rw [HZe.out]; exact rdI_take HKd.out.c.rdnB k hjl
      have HVc := Lib.hid (vec_lit (k := V.k) hrd (by rcases p with _ | ad; (intro n' c' e'; cases e'; exact HNil.out _ _ rfl); exact nil_some _ _ _) (by omega))
      clear HK hrd y0 y1 y2 y3 y4
      generalize W2.drew = Wd at HKd HVc ⊢
      go_wp2_with (go_at_call 48; (with_reducible refine HVc.out.mono ?_); rintro e w3 ⟨q, qc, rfl, hu, hb⟩; have HU := Lib.hid hu; have hlt := HKd.out.sz; have HK := Lib.hid (HKd.out.next hb); clear hu hb HKd; have y0 := HK.out.res.c0; have y1 := HK.out.res.c1; have y2 := HK.out.res.c2; have y3 := HK.out.res.c3; have y4 := HK.out.res.c4; have f0 := HK.out.res.fr 0; have f1 := HK.out.res.fr 1; have f2 := HK.out.res.fr 2; have f3 := HK.out.res.fr 3; have f4 := HK.out.res.fr 4; have HS := Lib.hid (HK.out.res.set V.k 1 Z.length 0 (.slice q Z.length qc)); have z0 := HS.out.c0; have z1 := HS.out.c1; have z2 := HS.out.c2; have z3 := HS.out.c3; have z4 := HS.out.c4)
      refine bodyPost_ret (v := .tuple #[A5 V.k 1 Z.length 0 (.slice q Z.length qc), .int .i64 0]) (by simp [results, Tryz.results92, go_sem, z0, z1, z2, z3, z4]) rfl ?_
      exact ⟨_, rfl, (HU.out.st5 (by omega) _ _ _ _ _).mono (by omega), st5_below _ _ _ _ _ (by omega) HK.out.c.bel⟩
  · rw [orNo_no h1]
    generalize tkE N V = E at h1 HTw ⊢
    have k1 : (E != 0) = true := by simpa using h1
    clear h1
    go_enter Tryz.func92, Tryz.ntmps92
    go_wp2_with (go_at_call 138; (with_reducible refine (HTw.out _ HK.out.c.lay HK.out.c.rdnA HK.out.c.rdnB).mono ?_); rintro e w1 ⟨rfl, hb⟩; have HK2 := Lib.hid (HK.out.next hb); clear HK x0 x1 x2 x3 x4 y0 y1 y2 y3 y4; have HK := HK2; clear HK2; have x0 := HK.out.c.boxA.c0; have x1 := HK.out.c.boxA.c1; have x2 := HK.out.c.boxA.c2; have x3 := HK.out.c.boxA.c3; have x4 := HK.out.c.boxA.c4; have y0 := HK.out.c.boxB.c0; have y1 := HK.out.c.boxB.c1; have y2 := HK.out.c.boxB.c2; have y3 := HK.out.c.boxB.c3; have y4 := HK.out.c.boxB.c4; clear hb; have y0 := HK.out.res.c0; have y1 := HK.out.res.c1; have y2 := HK.out.res.c2; have y3 := HK.out.res.c3; have y4 := HK.out.res.c4; have f0 := HK.out.res.fr 0; have f1 := HK.out.res.fr 1; have f2 := HK.out.res.fr 2; have f3 := HK.out.res.fr 3; have f4 := HK.out.res.fr 4; have HS := Lib.hid (HK.out.res.set 0 0 0 0 (.slice none 0 0)); have z0 := HS.out.c0; have z1 := HS.out.c1; have z2 := HS.out.c2; have z3 := HS.out.c3; have z4 := HS.out.c4)
    exact bodyPost_ret (v := .tuple #[A5 0 0 0 0 (.slice none 0 0), .int .i64 E]) (by simp [results, Tryz.results92, go_sem, z0, z1, z2, z3, z4]) rfl (retE_no _ (st5_below _ _ _ _ _ (by omega) HK.out.c.bel))

set_option maxRecDepth 100000 in
set_option maxHeartbeats 16000000 in
theorem rdrop_any (N V : Ar) (u v : Value) (w : World) (hw : Ru.Lay w) (hu : RdI w.heap.size w u N.z) (hv : RdI w.heap.size w v V.z) (hnv : Ru.NilC v) (hlN : N.z.length ≤ 100000) (hlV : V.z.length ≤ 100000) (hbn : -9223372036854775808 ≤ fst1 N ∧ fst1 N ≤ 9223372036854775807) :
    Calls Tryz.prog 93 #[A5 N.k N.r N.a N.b u, A5 V.k V.r V.a V.b v] w (RetE (drV N V) (tkE N V) w) := by
  have HTw : Hid (∀ W, Ru.Lay W → RdI W.heap.size W u N.z → RdI W.heap.size W v V.z → Calls Tryz.prog 138 #[A5 N.k N.r N.a N.b u, A5 V.k V.r V.a V.b v, .int .i64 0, .int .i64 1] W fun e w' => e = .returned (.int .i64 (tkE N V)) ∧ Below W.heap.size W w') := fun W h1 h2 h3 => two_any N V 0 1 u v W h1 h2 h3 (by omega) (by omega)
  have HK := Lib.hid (MK2.new (A := N) (B := V) hw hu hv)
  have x0 := HK.out.c.boxA.c0; have x1 := HK.out.c.boxA.c1; have x2 := HK.out.c.boxA.c2; have x3 := HK.out.c.boxA.c3; have x4 := HK.out.c.boxA.c4; have y0 := HK.out.c.boxB.c0; have y1 := HK.out.c.boxB.c1; have y2 := HK.out.c.boxB.c2; have y3 := HK.out.c.boxB.c3; have y4 := HK.out.c.boxB.c4
  obtain ⟨pu, cu, rfl, _, _, _⟩ := hu
  obtain ⟨p, cap, rfl, hcap, hcap2, hcell⟩ := hv
  clear hcell hw
  have HNil := Lib.hid hnv
  clear hnv
  unfold drV
  by_cases h1 : tkE N V = 0
  · obtain ⟨hN, hV, h3, h4, h5, h6, h7, h8⟩ := two_ok h1
    have HOne := Lib.hid (scalar_one hN (by omega))
    have hN0 : (0 : Int) < (N.z.length : Int) := by have := HOne.out; omega
    rw [orNo_yes h1, h1]
    rw [h1] at HTw
    clear h1 hN hV h3 h4 h5 h6 h7 h8
    generalize hfn : fst1 N = n at hbn ⊢
    have HFn := Lib.hid hfn
    have HTk := Lib.hid (fun W => taken_any n V.z.length W (by omega) hbn)
    have HLe := Lib.hid (tkn_le n V.z.length)
    clear hfn
    have hVl : (V.z.length : Int) ≤ 100000 := by omega
    have hZl := len_drop n V.z
    generalize hZ : drZ n V.z = Z at hZl ⊢
    have HZ := Lib.hid hZ
    clear hZ
    by_cases hneg : n < 0
    · have HNeg := Lib.hid hneg
      rw [decide_eq_true hneg] at HTk
      go_enter Tryz.func93, Tryz.ntmps93
      go_wp2_with (go_at_call 138; (with_reducible refine (HTw.out _ HK.out.c.lay HK.out.c.rdnA HK.out.c.rdnB).mono ?_); rintro e w1 ⟨rfl, hb⟩; have HK2 := Lib.hid (HK.out.next hb); clear HK x0 x1 x2 x3 x4 y0 y1 y2 y3 y4; have HK := HK2; clear HK2; have x0 := HK.out.c.boxA.c0; have x1 := HK.out.c.boxA.c1; have x2 := HK.out.c.boxA.c2; have x3 := HK.out.c.boxA.c3; have x4 := HK.out.c.boxA.c4; have y0 := HK.out.c.boxB.c0; have y1 := HK.out.c.boxB.c1; have y2 := HK.out.c.boxB.c2; have y3 := HK.out.c.boxB.c3; have y4 := HK.out.c.boxB.c4; clear hb)
      obtain ⟨b1, o1, rfl, _, hn1⟩ := fst1_cell HK.out.c.rdnA (by omega)
      rw [HFn.out] at hn1
      go_quiet ((go_at_call 139; exact Calls.quiet_of_same (HTk.out _)))
      have HK2 := Lib.hid (HK.out.next (drewN_below _ nq))
      generalize World.drewN w1 nq = W2 at HK2 ⊢
      clear HK hn1 x0 x1 x2 x3 x4 y0 y1 y2 y3 y4
      have HK := HK2
      clear HK2
      have y0 := HK.out.c.boxB.c0; have y1 := HK.out.c.boxB.c1; have y2 := HK.out.c.boxB.c2; have y3 := HK.out.c.boxB.c3; have y4 := HK.out.c.boxB.c4
      obtain ⟨k, hk⟩ : ∃ k, tknN n V.z.length = k := ⟨_, rfl⟩
      have HKk := Lib.hid hk
      rw [hk] at HLe ⊢
      clear hk
      have hk0 := HLe.out
      obtain ⟨j, hj⟩ : ∃ j, V.z.length - k = j := ⟨_, rfl⟩
      have hw1 : IntKind.i64.wrap ((V.z.length : Int) - (k : Int)) = (j : Int) := by rw [IntKind.wrap_i64]; omega
      have HZe : Hid (Z = V.z.take j) := by have h9 := (tk_neg' (z := V.z) HNeg.out).2; rw [HKk.out, hj, HZ.out] at h9; exact h9
      have hjl : j ≤ V.z.length := by omega
      clear hj hk0
      have hji : (j : Int) ≤ (cap : Int) := by omega
      have hjk : j ≤ cap := by omega
      go_wp2_with fail
      go_still_tail 10, (by kernel_rfl)
      change wpList _ _ _ _ _ W2.drew
      have HKd := Lib.hid (HK.out.next (Below.refl _ _).drew)
      have hrd : RdI (W2.drew).heap.size W2.drew (.slice p j cap) Z := by rw [HZe.out]; exact rdI_take HKd.out.c.rdnB j hjl
      have HVc := Lib.hid (vec_lit (k := V.k) hrd (by rcases p with _ | ad; (intro n' c' e'; cases e'; exact HNil.out _ _ rfl); exact nil_some _ _ _) (by omega))
      clear HK hrd y0 y1 y2 y3 y4
      generalize W2.drew = Wd at HKd HVc ⊢
      go_wp2_with (go_at_call 48; (with_reducible refine HVc.out.mono ?_); rintro e w3 ⟨q, qc, rfl, hu, hb⟩; have HU := Lib.hid hu; have hlt := HKd.out.sz; have HK := Lib.hid (HKd.out.next hb); clear hu hb HKd; have y0 := HK.out.res.c0; have y1 := HK.out.res.c1; have y2 := HK.out.res.c2; have y3 := HK.out.res.c3; have y4 := HK.out.res.c4; have f0 := HK.out.res.fr 0; have f1 := HK.out.res.fr 1; have f2 := HK.out.res.fr 2; have f3 := HK.out.res.fr 3; have f4 := HK.out.res.fr 4; have HS := Lib.hid (HK.out.res.set V.k 1 Z.length 0 (.slice q Z.length qc)); have z0 := HS.out.c0; have z1 := HS.out.c1; have z2 := HS.out.c2; have z3 := HS.out.c3; have z4 := HS.out.c4)
      refine bodyPost_ret (v := .tuple #[A5 V.k 1 Z.length 0 (.slice q Z.length qc), .int .i64 0]) (by simp [results, Tryz.results93, go_sem, z0, z1, z2, z3, z4]) rfl ?_
      exact ⟨_, rfl, (HU.out.st5 (by omega) _ _ _ _ _).mono (by omega), st5_below _ _ _ _ _ (by omega) HK.out.c.bel⟩
    · have HNeg := Lib.hid hneg
      rw [decide_eq_false hneg] at HTk
      go_enter Tryz.func93, Tryz.ntmps93
      go_wp2_with (go_at_call 138; (with_reducible refine (HTw.out _ HK.out.c.lay HK.out.c.rdnA HK.out.c.rdnB).mono ?_); rintro e w1 ⟨rfl, hb⟩; have HK2 := Lib.hid (HK.out.next hb); clear HK x0 x1 x2 x3 x4 y0 y1 y2 y3 y4; have HK := HK2; clear HK2; have x0 := HK.out.c.boxA.c0; have x1 := HK.out.c.boxA.c1; have x2 := HK.out.c.boxA.c2; have x3 := HK.out.c.boxA.c3; have x4 := HK.out.c.boxA.c4; have y0 := HK.out.c.boxB.c0; have y1 := HK.out.c.boxB.c1; have y2 := HK.out.c.boxB.c2; have y3 := HK.out.c.boxB.c3; have y4 := HK.out.c.boxB.c4; clear hb)
      obtain ⟨b1, o1, rfl, _, hn1⟩ := fst1_cell HK.out.c.rdnA (by omega)
      rw [HFn.out] at hn1
      go_quiet ((go_at_call 139; exact Calls.quiet_of_same (HTk.out _)))
      have HK2 := Lib.hid (HK.out.next (drewN_below _ nq))
      generalize World.drewN w1 nq = W2 at HK2 ⊢
      clear HK hn1 x0 x1 x2 x3 x4 y0 y1 y2 y3 y4
      have HK := HK2
      clear HK2
      have y0 := HK.out.c.boxB.c0; have y1 := HK.out.c.boxB.c1; have y2 := HK.out.c.boxB.c2; have y3 := HK.out.c.boxB.c3; have y4 := HK.out.c.boxB.c4
      obtain ⟨k, hk⟩ : ∃ k, tknN n V.z.length = k := ⟨_, rfl⟩
      have HKk := Lib.hid hk
      rw [hk] at HLe ⊢
      clear hk
      have hk0 := HLe.out
      obtain ⟨j, hj⟩ : ∃ j, k = j := ⟨_, rfl⟩
      subst hj
      have HZe : Hid (Z = V.z.drop k) := by have h9 := (tk_pos' (z := V.z) (show ¬ n < 0 by have := HNeg.out; omega)).2; rw [HKk.out, HZ.out] at h9; exact h9
      have hjl := hk0
      clear hk0
      have hji : (k : Int) ≤ (cap : Int) := by omega
      have hjk : k ≤ cap := by omega
      go_wp2_with fail
      by_cases hck : cap = k
      · have HZn : Hid (V.z.length = k) := by unfold Hid; omega
        subst hck
        go_still_tail 6, (by kernel_rfl)
        change wpList _ _ _ _ _ W2.drew
        have HKd := Lib.hid (HK.out.next (Below.refl _ _).drew)
        have hrd : RdI (W2.drew).heap.size W2.drew (.slice p 0 0) Z := by rw [HZe.out]; exact (by rw [List.drop_eq_nil_of_le (by have := HZn.out; omega)]; exact rdI_none (by omega))
        have HVc := Lib.hid (vec_lit (k := V.k) hrd (by intro n' c' e'; cases e'; rfl) (by omega))
        clear HK hrd y0 y1 y2 y3 y4
        generalize W2.drew = Wd at HKd HVc ⊢
        go_wp2_with (go_at_call 48; (with_reducible refine HVc.out.mono ?_); rintro e w3 ⟨q, qc, rfl, hu, hb⟩; have HU := Lib.hid hu; have hlt := HKd.out.sz; have HK := Lib.hid (HKd.out.next hb); clear hu hb HKd; have y0 := HK.out.res.c0; have y1 := HK.out.res.c1; have y2 := HK.out.res.c2; have y3 := HK.out.res.c3; have y4 := HK.out.res.c4; have f0 := HK.out.res.fr 0; have f1 := HK.out.res.fr 1; have f2 := HK.out.res.fr 2; have f3 := HK.out.res.fr 3; have f4 := HK.out.res.fr 4; have HS := Lib.hid (HK.out.res.set V.k 1 Z.length 0 (.slice q Z.length qc)); have z0 := HS.out.c0; have z1 := HS.out.c1; have z2 := HS.out.c2; have z3 := HS.out.c3; have z4 := HS.out.c4)
        refine bodyPost_ret (v := .tuple #[A5 V.k 1 Z.length 0 (.slice q Z.length qc), .int .i64 0]) (by simp [results, Tryz.results93, go_sem, z0, z1, z2, z3, z4]) rfl ?_
        exact ⟨_, rfl, (HU.out.st5 (by omega) _ _ _ _ _).mono (by omega), st5_below _ _ _ _ _ (by omega) HK.out.c.bel⟩
      · have hk3 : 0 < cap - k := by omega
        rcases p with _ | ad
        · have := HNil.out _ _ rfl
          omega
        · go_still_tail 6, (by kernel_rfl)
          change wpList _ _ _ _ _ W2.drew
          have HKd := Lib.hid (HK.out.next (Below.refl _ _).drew)
          have hrd : RdI (W2.drew).heap.size W2.drew (.slice (some (ad.add k)) (V.z.length - k) (cap - k)) Z := by rw [HZe.out]; exact rdI_drop HKd.out.c.rdnB k hjl
          have HVc := Lib.hid (vec_lit (k := V.k) hrd (nil_some _ _ _) (by omega))
          clear HK hrd y0 y1 y2 y3 y4
          generalize W2.drew = Wd at HKd HVc ⊢
          go_wp2_with (go_at_call 48; (with_reducible refine HVc.out.mono ?_); rintro e w3 ⟨q, qc, rfl, hu, hb⟩; have HU := Lib.hid hu; have hlt := HKd.out.sz; have HK := Lib.hid (HKd.out.next hb); clear hu hb HKd; have y0 := HK.out.res.c0; have y1 := HK.out.res.c1; have y2 := HK.out.res.c2; have y3 := HK.out.res.c3; have y4 := HK.out.res.c4; have f0 := HK.out.res.fr 0; have f1 := HK.out.res.fr 1; have f2 := HK.out.res.fr 2; have f3 := HK.out.res.fr 3; have f4 := HK.out.res.fr 4; have HS := Lib.hid (HK.out.res.set V.k 1 Z.length 0 (.slice q Z.length qc)); have z0 := HS.out.c0; have z1 := HS.out.c1; have z2 := HS.out.c2; have z3 := HS.out.c3; have z4 := HS.out.c4)
          refine bodyPost_ret (v := .tuple #[A5 V.k 1 Z.length 0 (.slice q Z.length qc), .int .i64 0]) (by simp [results, Tryz.results93, go_sem, z0, z1, z2, z3, z4]) rfl ?_
          exact ⟨_, rfl, (HU.out.st5 (by omega) _ _ _ _ _).mono (by omega), st5_below _ _ _ _ _ (by omega) HK.out.c.bel⟩
  · rw [orNo_no h1]
    generalize tkE N V = E at h1 HTw ⊢
    have k1 : (E != 0) = true := by simpa using h1
    clear h1
    go_enter Tryz.func93, Tryz.ntmps93
    go_wp2_with (go_at_call 138; (with_reducible refine (HTw.out _ HK.out.c.lay HK.out.c.rdnA HK.out.c.rdnB).mono ?_); rintro e w1 ⟨rfl, hb⟩; have HK2 := Lib.hid (HK.out.next hb); clear HK x0 x1 x2 x3 x4 y0 y1 y2 y3 y4; have HK := HK2; clear HK2; have x0 := HK.out.c.boxA.c0; have x1 := HK.out.c.boxA.c1; have x2 := HK.out.c.boxA.c2; have x3 := HK.out.c.boxA.c3; have x4 := HK.out.c.boxA.c4; have y0 := HK.out.c.boxB.c0; have y1 := HK.out.c.boxB.c1; have y2 := HK.out.c.boxB.c2; have y3 := HK.out.c.boxB.c3; have y4 := HK.out.c.boxB.c4; clear hb; have y0 := HK.out.res.c0; have y1 := HK.out.res.c1; have y2 := HK.out.res.c2; have y3 := HK.out.res.c3; have y4 := HK.out.res.c4; have f0 := HK.out.res.fr 0; have f1 := HK.out.res.fr 1; have f2 := HK.out.res.fr 2; have f3 := HK.out.res.fr 3; have f4 := HK.out.res.fr 4; have HS := Lib.hid (HK.out.res.set 0 0 0 0 (.slice none 0 0)); have z0 := HS.out.c0; have z1 := HS.out.c1; have z2 := HS.out.c2; have z3 := HS.out.c3; have z4 := HS.out.c4)
    exact bodyPost_ret (v := .tuple #[A5 0 0 0 0 (.slice none 0 0), .int .i64 E]) (by simp [results, Tryz.results93, go_sem, z0, z1, z2, z3, z4]) rfl (retE_no _ (st5_below _ _ _ _ _ (by omega) HK.out.c.bel))
end Go.Proofs.YtpbfbejckhbijaaGreatDoor
