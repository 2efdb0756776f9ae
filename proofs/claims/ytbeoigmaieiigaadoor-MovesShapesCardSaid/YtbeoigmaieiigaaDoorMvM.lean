/- Fill and Grid of the code. -/
import Derived.Test.YtbeoigmaieiigaaDoorMvL
namespace Go.Proofs.YtbeoigmaieiigaaDoor
open Go.RowKit

theorem one_list {z : List Int} (h : z.length = 1) : z = [z.getD 0 0] := by
  match z, h with
  | [x], _ => rfl
theorem two_list {z : List Int} (h : z.length = 2) : z = [z.getD 0 0, z.getD 1 0] := by
  match z, h with
  | [x, y], _ => rfl
theorem agn_one (n : Nat) (x : Int) : agn n [x] = List.replicate n x := by
  refine ext_getD (by rw [agn_len, List.length_replicate]) fun t ht => ?_
  rw [agn_len] at ht
  rw [agn_getD ht, List.getD_eq_getElem?_getD, List.getD_eq_getElem?_getD, List.getElem?_replicate]
  simp [ht, Nat.mod_one]
theorem fi_ok {N S : Ar} (h : twoE N S 1 S.k 0 0 0 0 = 0) : Good S ∧ 0 < S.z.length ∧ N.z = [fst1 N] ∧ fiE N S = (if fst1 N < 0 then 13 else if 400 < fst1 N then 15 else 0) ∧
    fiV N S = orNo (fiE N S) ⟨S.k, 1, fst1 N, 0, agn (fst1 N).toNat S.z⟩ := by
  obtain ⟨hN, hS, h3, h4, h5, h6, h7, h8⟩ := two_ok h
  have hs := scalar_one hS (by omega)
  have hn := scalar_one hN (by omega)
  refine ⟨hS, by omega, one_list hn, by unfold fiE; rw [if_pos h], ?_⟩
  unfold fiV
  by_cases he : fiE N S = 0
  · rw [orNo_yes he, orNo_yes he]
    unfold fiE at he
    rw [if_pos h] at he
    by_cases hx : fst1 N < 0
    · rw [if_pos hx] at he; cases he
    · unfold vecA
      rw [one_list hs, agn_one, List.length_replicate]
      have : ((fst1 N).toNat : Int) = fst1 N := by omega
      rw [this]; rfl
  · rw [orNo_no he, orNo_no he]
theorem gd_ok {L V : Ar} (h : twoE L V 1 V.k 1 1 1 1 = 0) (h2 : L.z.length = 2) : Good V ∧ L.z = [L.z.getD 0 0, L.z.getD 1 0] ∧
    gdE L V = (if L.z.getD 0 0 < 0 ∨ L.z.getD 1 0 < 0 then 13 else if 400 < L.z.getD 0 0 ∨ 400 < L.z.getD 1 0 ∨ 400 < L.z.getD 0 0 * L.z.getD 1 0 then 15 else if V.z.length = 0 ∧ 0 < L.z.getD 0 0 * L.z.getD 1 0 then 13 else 0) := by
  obtain ⟨hN, hS, h3, h4, h5, h6, h7, h8⟩ := two_ok h
  exact ⟨hS, two_list h2, by unfold gdE; rw [if_pos h, if_pos h2]⟩

set_option maxRecDepth 100000 in
set_option maxHeartbeats 8000000 in
theorem mfill_any (N V : Ar) (u v : Value) (w : World) (hw : Ru.Lay w) (hu : RdI w.heap.size w u N.z) (hv : RdI w.heap.size w v V.z) (hlN : N.z.length ≤ 1000000) (hlV : V.z.length ≤ 1000000) :
    Calls Tryd.prog 24 #[A5 N.k N.r N.a N.b u, A5 V.k V.r V.a V.b v] w (RetE (fiV N V) (fiE N V) w) := by
  have HFa : Hid (∀ W g, W.heap.size = g → Ru.Lay W → RdI W.heap.size W u N.z → RdI W.heap.size W v V.z → Calls Tryd.prog 39 #[.slice (some ⟨g, 0, none⟩) 2 2] (W.alloc (.cells #[.int .i64 N.k, .int .i64 N.r, .int .i64 N.a, .int .i64 N.b, u, .int .i64 1, .int .i64 0, .int .i64 0, .int .i64 V.k, .int .i64 V.r, .int .i64 V.a, .int .i64 V.b, v, .int .i64 V.k, .int .i64 0, .int .i64 0] 48)) fun e w' => e = .returned (.int .i64 (twoE N V 1 V.k 0 0 0 0)) ∧ Below W.heap.size W w') := fun W g hg h1 h2 h3 => fault2_any N V u v 1 0 0 V.k 0 0 W g hg h1 h2 h3 hlN hlV
  have HK := Lib.hid (MK2.new (A := N) (B := V) hw hu hv)
  have x0 := HK.out.c.boxA.c0; have x1 := HK.out.c.boxA.c1; have x2 := HK.out.c.boxA.c2; have x3 := HK.out.c.boxA.c3; have x4 := HK.out.c.boxA.c4; have y0 := HK.out.c.boxB.c0; have y1 := HK.out.c.boxB.c1; have y2 := HK.out.c.boxB.c2; have y3 := HK.out.c.boxB.c3; have y4 := HK.out.c.boxB.c4
  obtain ⟨pu, cu, rfl, _, _, _⟩ := hu
  obtain ⟨p, cap, rfl, _, _, _⟩ := hv
  clear hw
  by_cases h1 : twoE N V 1 V.k 0 0 0 0 = 0
  · obtain ⟨hV, hz, hN, hE, hFV⟩ := fi_ok h1
    rw [hFV]
    have HAg : Hid (∀ W, Ru.Lay W → RdI W.heap.size W (.slice p V.z.length cap) V.z → RdI W.heap.size W (.slice pu N.z.length cu) N.z → Calls Tryd.prog 49 #[A5 V.k V.r V.a V.b (.slice p V.z.length cap), .int .i64 1, .slice pu N.z.length cu] W (RetE (orNo (fiE N V) ⟨V.k, 1, fst1 N, 0, agn (fst1 N).toNat V.z⟩) (fiE N V) W)) := fun W h1 h2 h3 => by
      have h3' : RdI W.heap.size W (.slice pu N.z.length cu) [fst1 N] := by rw [← hN]; exact h3
      have := again1_any V (.slice p V.z.length cap) (.slice pu N.z.length cu) (fst1 N) W h1 hV hz h2 h3'
      rwa [← hE] at this
    rw [h1] at HFa
    clear h1 hFV hE hN hV hz
    generalize orNo (fiE N V) ⟨V.k, 1, fst1 N, 0, agn (fst1 N).toNat V.z⟩ = M at HAg ⊢
    generalize fiE N V = E at HAg ⊢
    obtain ⟨a1, a2, a3, a4, a5⟩ := M
    go_enter Tryd.func24, Tryd.ntmps24
    go_wp2_with (first
      | (go_at_call 39; (with_reducible refine (HFa.out _ _ (by first | rfl | simp) HK.out.c.lay HK.out.c.rdnA HK.out.c.rdnB).mono ?_); rintro e w1 ⟨rfl, hb⟩; have HK2 := Lib.hid (HK.out.next hb); clear HK x0 x1 x2 x3 x4 y0 y1 y2 y3 y4; have HK := HK2; clear HK2; have x0 := HK.out.c.boxA.c0; have x1 := HK.out.c.boxA.c1; have x2 := HK.out.c.boxA.c2; have x3 := HK.out.c.boxA.c3; have x4 := HK.out.c.boxA.c4; have y0 := HK.out.c.boxB.c0; have y1 := HK.out.c.boxB.c1; have y2 := HK.out.c.boxB.c2; have y3 := HK.out.c.boxB.c3; have y4 := HK.out.c.boxB.c4; clear hb)
      | (go_at_call 49; (with_reducible refine (HAg.out _ HK.out.c.lay HK.out.c.rdnB HK.out.c.rdnA).mono ?_); rintro e w2 ⟨u2, rfl, hu, hb⟩; obtain ⟨q, qc, hq, _, _⟩ := hu.form; have hq2 : u2 = .slice q a5.length qc := hq; subst hq2; clear hq; have HU := Lib.hid hu; have hlt := HK.out.sz; have HK2 := Lib.hid (HK.out.next hb); clear HK x0 x1 x2 x3 x4 y0 y1 y2 y3 y4; have HK := HK2; clear HK2; have x0 := HK.out.c.boxA.c0; have x1 := HK.out.c.boxA.c1; have x2 := HK.out.c.boxA.c2; have x3 := HK.out.c.boxA.c3; have x4 := HK.out.c.boxA.c4; have y0 := HK.out.c.boxB.c0; have y1 := HK.out.c.boxB.c1; have y2 := HK.out.c.boxB.c2; have y3 := HK.out.c.boxB.c3; have y4 := HK.out.c.boxB.c4; clear hu hb; have y0 := HK.out.res.c0; have y1 := HK.out.res.c1; have y2 := HK.out.res.c2; have y3 := HK.out.res.c3; have y4 := HK.out.res.c4; have f0 := HK.out.res.fr 0; have f1 := HK.out.res.fr 1; have f2 := HK.out.res.fr 2; have f3 := HK.out.res.fr 3; have f4 := HK.out.res.fr 4; have HS := Lib.hid (HK.out.res.set a1 a2 a3 a4 (.slice q a5.length qc)); have z0 := HS.out.c0; have z1 := HS.out.c1; have z2 := HS.out.c2; have z3 := HS.out.c3; have z4 := HS.out.c4))
    refine bodyPost_ret (v := .tuple #[A5 a1 a2 a3 a4 (.slice q a5.length qc), .int .i64 E]) (by simp [results, Tryd.results24, go_sem, z0, z1, z2, z3, z4]) rfl ?_
    exact ⟨_, rfl, (HU.out.st5 (by omega) _ _ _ _ _).mono (by omega), st5_below _ _ _ _ _ (by omega) HK.out.c.bel⟩
  · have hE : fiE N V = twoE N V 1 V.k 0 0 0 0 := if_neg h1
    rw [show fiV N V = Ar.no from orNo_no (by rw [hE]; exact h1), hE]
    clear hE
    generalize twoE N V 1 V.k 0 0 0 0 = E at h1 HFa ⊢
    have k1 : (E != 0) = true := by simpa using h1
    clear h1
    go_enter Tryd.func24, Tryd.ntmps24
    go_wp2_with (go_at_call 39; (with_reducible refine (HFa.out _ _ (by first | rfl | simp) HK.out.c.lay HK.out.c.rdnA HK.out.c.rdnB).mono ?_); rintro e w1 ⟨rfl, hb⟩; have HK2 := Lib.hid (HK.out.next hb); clear HK x0 x1 x2 x3 x4 y0 y1 y2 y3 y4; have HK := HK2; clear HK2; have x0 := HK.out.c.boxA.c0; have x1 := HK.out.c.boxA.c1; have x2 := HK.out.c.boxA.c2; have x3 := HK.out.c.boxA.c3; have x4 := HK.out.c.boxA.c4; have y0 := HK.out.c.boxB.c0; have y1 := HK.out.c.boxB.c1; have y2 := HK.out.c.boxB.c2; have y3 := HK.out.c.boxB.c3; have y4 := HK.out.c.boxB.c4; clear hb; have y0 := HK.out.res.c0; have y1 := HK.out.res.c1; have y2 := HK.out.res.c2; have y3 := HK.out.res.c3; have y4 := HK.out.res.c4; have f0 := HK.out.res.fr 0; have f1 := HK.out.res.fr 1; have f2 := HK.out.res.fr 2; have f3 := HK.out.res.fr 3; have f4 := HK.out.res.fr 4; have HS := Lib.hid (HK.out.res.set 0 0 0 0 (.slice none 0 0)); have z0 := HS.out.c0; have z1 := HS.out.c1; have z2 := HS.out.c2; have z3 := HS.out.c3; have z4 := HS.out.c4)
    exact bodyPost_ret (v := .tuple #[A5 0 0 0 0 (.slice none 0 0), .int .i64 E]) (by simp [results, Tryd.results24, go_sem, z0, z1, z2, z3, z4]) rfl (retE_no _ (st5_below _ _ _ _ _ (by omega) HK.out.c.bel))

set_option maxRecDepth 100000 in
set_option maxHeartbeats 8000000 in
theorem mgrid_any (N V : Ar) (u v : Value) (w : World) (hw : Ru.Lay w) (hu : RdI w.heap.size w u N.z) (hv : RdI w.heap.size w v V.z) (hlN : N.z.length ≤ 1000000) (hlV : V.z.length ≤ 1000000) :
    Calls Tryd.prog 26 #[A5 N.k N.r N.a N.b u, A5 V.k V.r V.a V.b v] w (RetE (gdV N V) (gdE N V) w) := by
  have HFa : Hid (∀ W g, W.heap.size = g → Ru.Lay W → RdI W.heap.size W u N.z → RdI W.heap.size W v V.z → Calls Tryd.prog 39 #[.slice (some ⟨g, 0, none⟩) 2 2] (W.alloc (.cells #[.int .i64 N.k, .int .i64 N.r, .int .i64 N.a, .int .i64 N.b, u, .int .i64 1, .int .i64 1, .int .i64 1, .int .i64 V.k, .int .i64 V.r, .int .i64 V.a, .int .i64 V.b, v, .int .i64 V.k, .int .i64 1, .int .i64 1] 48)) fun e w' => e = .returned (.int .i64 (twoE N V 1 V.k 1 1 1 1)) ∧ Below W.heap.size W w') := fun W g hg h1 h2 h3 => fault2_any N V u v 1 1 1 V.k 1 1 W g hg h1 h2 h3 hlN hlV
  have HK := Lib.hid (MK2.new (A := N) (B := V) hw hu hv)
  have x0 := HK.out.c.boxA.c0; have x1 := HK.out.c.boxA.c1; have x2 := HK.out.c.boxA.c2; have x3 := HK.out.c.boxA.c3; have x4 := HK.out.c.boxA.c4; have y0 := HK.out.c.boxB.c0; have y1 := HK.out.c.boxB.c1; have y2 := HK.out.c.boxB.c2; have y3 := HK.out.c.boxB.c3; have y4 := HK.out.c.boxB.c4
  obtain ⟨pu, cu, rfl, _, _, _⟩ := hu
  obtain ⟨p, cap, rfl, _, _, _⟩ := hv
  clear hw
  by_cases h1 : twoE N V 1 V.k 1 1 1 1 = 0
  · by_cases h2 : N.z.length = 2
    · obtain ⟨hV, hN, hE⟩ := gd_ok h1 h2
      have HAg : Hid (∀ W, Ru.Lay W → RdI W.heap.size W (.slice p V.z.length cap) V.z → RdI W.heap.size W (.slice pu N.z.length cu) N.z → Calls Tryd.prog 49 #[A5 V.k V.r V.a V.b (.slice p V.z.length cap), .int .i64 2, .slice pu N.z.length cu] W (RetE (gdV N V) (gdE N V) W)) := fun W h1 hh h3 => by
        have h3' : RdI W.heap.size W (.slice pu N.z.length cu) [N.z.getD 0 0, N.z.getD 1 0] := by rw [← hN]; exact h3
        have := again2_any V (.slice p V.z.length cap) (.slice pu N.z.length cu) (N.z.getD 0 0) (N.z.getD 1 0) W h1 hV hh h3'
        rw [← hE] at this
        exact this
      rw [h1] at HFa
      have k2 : ((N.z.length : Int) != 2) = false := by simpa using (show (N.z.length : Int) = 2 by omega)
      clear h1 hE hN hV h2
      generalize gdV N V = M at HAg ⊢
      generalize gdE N V = E at HAg ⊢
      obtain ⟨a1, a2, a3, a4, a5⟩ := M
      go_enter Tryd.func26, Tryd.ntmps26
      have HK2' := Lib.hid k2
      clear k2
      go_wp2_with (first
        | (go_at_call 39; (with_reducible refine (HFa.out _ _ (by first | rfl | simp) HK.out.c.lay HK.out.c.rdnA HK.out.c.rdnB).mono ?_); rintro e w1 ⟨rfl, hb⟩; have HK2 := Lib.hid (HK.out.next hb); clear HK x0 x1 x2 x3 x4 y0 y1 y2 y3 y4; have HK := HK2; clear HK2; have x0 := HK.out.c.boxA.c0; have x1 := HK.out.c.boxA.c1; have x2 := HK.out.c.boxA.c2; have x3 := HK.out.c.boxA.c3; have x4 := HK.out.c.boxA.c4; have y0 := HK.out.c.boxB.c0; have y1 := HK.out.c.boxB.c1; have y2 := HK.out.c.boxB.c2; have y3 := HK.out.c.boxB.c3; have y4 := HK.out.c.boxB.c4; clear hb; have k2 := HK2'.out)
        | (go_at_call 49; (with_reducible refine (HAg.out _ HK.out.c.lay HK.out.c.rdnB HK.out.c.rdnA).mono ?_); rintro e w2 ⟨u2, rfl, hu, hb⟩; obtain ⟨q, qc, hq, _, _⟩ := hu.form; have hq2 : u2 = .slice q a5.length qc := hq; subst hq2; clear hq; have HU := Lib.hid hu; have hlt := HK.out.sz; have HK2 := Lib.hid (HK.out.next hb); clear HK x0 x1 x2 x3 x4 y0 y1 y2 y3 y4; have HK := HK2; clear HK2; have x0 := HK.out.c.boxA.c0; have x1 := HK.out.c.boxA.c1; have x2 := HK.out.c.boxA.c2; have x3 := HK.out.c.boxA.c3; have x4 := HK.out.c.boxA.c4; have y0 := HK.out.c.boxB.c0; have y1 := HK.out.c.boxB.c1; have y2 := HK.out.c.boxB.c2; have y3 := HK.out.c.boxB.c3; have y4 := HK.out.c.boxB.c4; clear hu hb; have y0 := HK.out.res.c0; have y1 := HK.out.res.c1; have y2 := HK.out.res.c2; have y3 := HK.out.res.c3; have y4 := HK.out.res.c4; have f0 := HK.out.res.fr 0; have f1 := HK.out.res.fr 1; have f2 := HK.out.res.fr 2; have f3 := HK.out.res.fr 3; have f4 := HK.out.res.fr 4; have HS := Lib.hid (HK.out.res.set a1 a2 a3 a4 (.slice q a5.length qc)); have z0 := HS.out.c0; have z1 := HS.out.c1; have z2 := HS.out.c2; have z3 := HS.out.c3; have z4 := HS.out.c4))
      refine bodyPost_ret (v := .tuple #[A5 a1 a2 a3 a4 (.slice q a5.length qc), .int .i64 E]) (by simp [results, Tryd.results26, go_sem, z0, z1, z2, z3, z4]) rfl ?_
      exact ⟨_, rfl, (HU.out.st5 (by omega) _ _ _ _ _).mono (by omega), st5_below _ _ _ _ _ (by omega) HK.out.c.bel⟩
    · have hE : gdE N V = 11 := by unfold gdE; rw [if_pos h1, if_neg h2]
      rw [show gdV N V = Ar.no from orNo_no (by rw [hE]; decide), hE]
      rw [h1] at HFa
      have k2 : ((N.z.length : Int) != 2) = true := by simpa using (show ¬ (N.z.length : Int) = 2 by omega)
      clear h1 hE h2
      go_enter Tryd.func26, Tryd.ntmps26
      go_wp2_with (go_at_call 39; (with_reducible refine (HFa.out _ _ (by first | rfl | simp) HK.out.c.lay HK.out.c.rdnA HK.out.c.rdnB).mono ?_); rintro e w1 ⟨rfl, hb⟩; have HK2 := Lib.hid (HK.out.next hb); clear HK x0 x1 x2 x3 x4 y0 y1 y2 y3 y4; have HK := HK2; clear HK2; have x0 := HK.out.c.boxA.c0; have x1 := HK.out.c.boxA.c1; have x2 := HK.out.c.boxA.c2; have x3 := HK.out.c.boxA.c3; have x4 := HK.out.c.boxA.c4; have y0 := HK.out.c.boxB.c0; have y1 := HK.out.c.boxB.c1; have y2 := HK.out.c.boxB.c2; have y3 := HK.out.c.boxB.c3; have y4 := HK.out.c.boxB.c4; clear hb; have y0 := HK.out.res.c0; have y1 := HK.out.res.c1; have y2 := HK.out.res.c2; have y3 := HK.out.res.c3; have y4 := HK.out.res.c4; have f0 := HK.out.res.fr 0; have f1 := HK.out.res.fr 1; have f2 := HK.out.res.fr 2; have f3 := HK.out.res.fr 3; have f4 := HK.out.res.fr 4; have HS := Lib.hid (HK.out.res.set 0 0 0 0 (.slice none 0 0)); have z0 := HS.out.c0; have z1 := HS.out.c1; have z2 := HS.out.c2; have z3 := HS.out.c3; have z4 := HS.out.c4)
      exact bodyPost_ret (v := .tuple #[A5 0 0 0 0 (.slice none 0 0), .int .i64 11]) (by simp [results, Tryd.results26, go_sem, z0, z1, z2, z3, z4]) rfl (retE_no _ (st5_below _ _ _ _ _ (by omega) HK.out.c.bel))
  · have hE : gdE N V = twoE N V 1 V.k 1 1 1 1 := if_neg h1
    rw [show gdV N V = Ar.no from orNo_no (by rw [hE]; exact h1), hE]
    clear hE
    generalize twoE N V 1 V.k 1 1 1 1 = E at h1 HFa ⊢
    have k1 : (E != 0) = true := by simpa using h1
    clear h1
    go_enter Tryd.func26, Tryd.ntmps26
    go_wp2_with (go_at_call 39; (with_reducible refine (HFa.out _ _ (by first | rfl | simp) HK.out.c.lay HK.out.c.rdnA HK.out.c.rdnB).mono ?_); rintro e w1 ⟨rfl, hb⟩; have HK2 := Lib.hid (HK.out.next hb); clear HK x0 x1 x2 x3 x4 y0 y1 y2 y3 y4; have HK := HK2; clear HK2; have x0 := HK.out.c.boxA.c0; have x1 := HK.out.c.boxA.c1; have x2 := HK.out.c.boxA.c2; have x3 := HK.out.c.boxA.c3; have x4 := HK.out.c.boxA.c4; have y0 := HK.out.c.boxB.c0; have y1 := HK.out.c.boxB.c1; have y2 := HK.out.c.boxB.c2; have y3 := HK.out.c.boxB.c3; have y4 := HK.out.c.boxB.c4; clear hb; have y0 := HK.out.res.c0; have y1 := HK.out.res.c1; have y2 := HK.out.res.c2; have y3 := HK.out.res.c3; have y4 := HK.out.res.c4; have f0 := HK.out.res.fr 0; have f1 := HK.out.res.fr 1; have f2 := HK.out.res.fr 2; have f3 := HK.out.res.fr 3; have f4 := HK.out.res.fr 4; have HS := Lib.hid (HK.out.res.set 0 0 0 0 (.slice none 0 0)); have z0 := HS.out.c0; have z1 := HS.out.c1; have z2 := HS.out.c2; have z3 := HS.out.c3; have z4 := HS.out.c4)
    exact bodyPost_ret (v := .tuple #[A5 0 0 0 0 (.slice none 0 0), .int .i64 E]) (by simp [results, Tryd.results26, go_sem, z0, z1, z2, z3, z4]) rfl (retE_no _ (st5_below _ _ _ _ _ (by omega) HK.out.c.bel))
end Go.Proofs.YtbeoigmaieiigaaDoor
