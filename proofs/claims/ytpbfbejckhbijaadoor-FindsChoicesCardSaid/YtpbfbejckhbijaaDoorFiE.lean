/- At and Pick of the code. -/
import Derived.Test.YtpbfbejckhbijaaDoorFiB
import Derived.Test.YtpbfbejckhbijaaDoorMvX
namespace Go.Proofs.YtpbfbejckhbijaaDoor
open Go.RowKit

theorem lk_bad {A B : Ar} (h : lkT A B = 0) {j : Nat} (hj : j < B.z.length) (hx : inS A.z.length (B.z.getD j 0) = false) : lkE A B = 14 ∧ lkV A B = Ar.no := by
  have e : lkE A B = 14 := by
    unfold lkE
    rw [if_pos h, if_neg]
    intro ha
    rw [all_get ha hj] at hx
    cases hx
  exact ⟨e, orNo_no (by rw [e]; decide)⟩
theorem lk_all {A B : Ar} (h : lkT A B = 0) (ha : B.z.all (inS A.z.length) = true) : lkE A B = 0 ∧ lkV A B = ⟨A.k, B.r, B.a, B.b, lkZ A B⟩ := by
  have e : lkE A B = 0 := by unfold lkE; rw [if_pos h, if_pos ha]
  exact ⟨e, orNo_yes e⟩
theorem all_snocI {l : List Int} {p : Int → Bool} {j : Nat} (hj : j < l.length) (h : (l.take j).all p = true) (hx : p (l.getD j 0) = true) : (l.take (j + 1)).all p = true := by
  rw [← takeI_snoc hj, List.all_append, h]
  simpa using hx
theorem lk_snoc {A B : Ar} {j t : Nat} (hj : j < B.z.length) (ht : B.z.getD j 0 = (t : Int)) : (lkZ A B).take j ++ [A.z.getD t 0] = (lkZ A B).take (j + 1) := by
  have hl : j < (lkZ A B).length := by unfold lkZ; rw [List.length_map]; exact hj
  rw [← takeI_snoc hl]
  unfold lkZ
  rw [List.getD_eq_getElem?_getD (l := B.z.map _), List.getElem?_map, List.getElem?_eq_getElem hj]
  rw [List.getD_eq_getElem?_getD, List.getElem?_eq_getElem hj] at ht
  have ht2 : B.z[j] = (t : Int) := ht
  simp [ht2]
set_option maxRecDepth 100000 in
theorem ibs2 (k r a b : Int) (q : Option Addr) (n c : Nat) (k' r' a' b' : Int) (q' : Option Addr) (n' c' : Nat) (W : World) : (Instr.buildSlice 51 2 #[(0, A5 k r a b (.slice q n c)), (1, A5 k' r' a' b' (.slice q' n' c'))]).run Tryd.prog W =
    .ok (.slice (some ⟨W.heap.size, 0, none⟩) 2 2) (W.alloc (.cells #[.int .i64 k, .int .i64 r, .int .i64 a, .int .i64 b, .slice q n c, .int .i64 k', .int .i64 r', .int .i64 a', .int .i64 b', .slice q' n' c'] 25)) := by kernel_rfl
set_option maxRecDepth 100000 in
set_option maxHeartbeats 16000000 in
theorem iat_any (A B : Ar) (v u : Value) (w : World) (hw : Ru.Lay w) (hv : RdI w.heap.size w v A.z) (hu : RdI w.heap.size w u B.z) (hl : A.z.length ≤ 100000) (hl' : B.z.length ≤ 100000) :
    Calls Tryd.prog 13 #[A5 A.k A.r A.a A.b v, A5 B.k B.r B.a B.b u] w (RetE (lkV A B) (lkE A B) w) := by
  have HFg : ∀ rk : Bool, (ck A = 0 → ck B = 0 → (rk = true ↔ 1 ≤ A.r ∧ A.r ≤ 1 ∧ 0 ≤ B.r ∧ B.r ≤ 1)) → Hid (∀ W g, W.heap.size = g → Ru.Lay W → RdI W.heap.size W v A.z → RdI W.heap.size W u B.z → Calls Tryd.prog 20 #[.bool (B.k == 1), .bool rk, .slice (some ⟨g, 0, none⟩) 2 2] (W.alloc (.cells #[.int .i64 A.k, .int .i64 A.r, .int .i64 A.a, .int .i64 A.b, v, .int .i64 B.k, .int .i64 B.r, .int .i64 B.a, .int .i64 B.b, u] 25)) fun e w' => e = .returned (.int .i64 (lkT A B)) ∧ Below W.heap.size W w') := fun rk hrk W g hg h1 h2 h3 => by
    have h := ifault2_any (B.k == 1) rk A B v u W g hg h1 h2 h3 (by omega) (by omega)
    rwa [fk_two A B (B.k == 1) rk A.k 1 1 1 0 1 (by simp) hrk] at h
  have HK := Lib.hid (MK2.new (A := A) (B := B) hw hv hu)
  have HW3 := Lib.hid hw.size
  have x0 := HK.out.c.boxA.c0; have x1 := HK.out.c.boxA.c1; have x2 := HK.out.c.boxA.c2; have x3 := HK.out.c.boxA.c3; have x4 := HK.out.c.boxA.c4; have y0 := HK.out.c.boxB.c0; have y1 := HK.out.c.boxB.c1; have y2 := HK.out.c.boxB.c2; have y3 := HK.out.c.boxB.c3; have y4 := HK.out.c.boxB.c4
  obtain ⟨p, cap, rfl, _, _, _⟩ := hv
  obtain ⟨q, cap', rfl, _, _, _⟩ := hu
  clear hw
  have HBs := fun W => ibs2 A.k A.r A.a A.b p A.z.length cap B.k B.r B.a B.b q B.z.length cap' W
  by_cases hA1 : A.r = 1
  rotate_left
  · have HFa := HFg false fun _ _ => ⟨fun h => by (cases h), fun h => absurd (show A.r = 1 by omega) hA1⟩
    clear HFg
    have h1 : lkT A B ≠ 0 := fun h => by obtain ⟨_, _, _, h3, h4, _⟩ := twoE_ok h; omega
    have k0 : (A.r == 1) = false := by simpa using hA1
    clear hA1
    generalize hT : lkT A B = E at h1 HFa
    have hE : lkE A B = E := (if_neg (by rw [hT]; exact h1)).trans hT
    rw [show lkV A B = Ar.no from orNo_no (by rw [hE]; exact h1), hE]
    have k1 : (E != 0) = true := by simpa using h1
    clear h1 hE hT
    go_enter Tryd.func13, Tryd.ntmps13
    go_wp2_with (go_at_call 20; (with_reducible refine (HFa.out _ _ (by first | rfl | simp) HK.out.c.lay HK.out.c.rdnA HK.out.c.rdnB).mono ?_); rintro e w1 ⟨rfl, hb⟩; have HK2 := Lib.hid (HK.out.next hb); clear HK x0 x1 x2 x3 x4 y0 y1 y2 y3 y4; have HK := HK2; clear HK2; have x0 := HK.out.c.boxA.c0; have x1 := HK.out.c.boxA.c1; have x2 := HK.out.c.boxA.c2; have x3 := HK.out.c.boxA.c3; have x4 := HK.out.c.boxA.c4; have y0 := HK.out.c.boxB.c0; have y1 := HK.out.c.boxB.c1; have y2 := HK.out.c.boxB.c2; have y3 := HK.out.c.boxB.c3; have y4 := HK.out.c.boxB.c4; clear hb; have y0 := HK.out.res.c0; have y1 := HK.out.res.c1; have y2 := HK.out.res.c2; have y3 := HK.out.res.c3; have y4 := HK.out.res.c4; have f0 := HK.out.res.fr 0; have f1 := HK.out.res.fr 1; have f2 := HK.out.res.fr 2; have f3 := HK.out.res.fr 3; have f4 := HK.out.res.fr 4; have HS := Lib.hid (HK.out.res.set 0 0 0 0 (.slice none 0 0)); have z0 := HS.out.c0; have z1 := HS.out.c1; have z2 := HS.out.c2; have z3 := HS.out.c3; have z4 := HS.out.c4)
    exact bodyPost_ret (v := .tuple #[A5 0 0 0 0 (.slice none 0 0), .int .i64 E]) (by simp [results, Tryd.results13, go_sem, z0, z1, z2, z3, z4]) rfl (retE_no _ (st5_below _ _ _ _ _ (by omega) HK.out.c.bel))
  have HFa := HFg (decide (B.r ≤ 1)) fun _ hb => ⟨fun h => by (have h5 := of_decide_eq_true h; have := (ck_good hb).r3; omega), fun h => decide_eq_true h.2.2.2⟩
  have k0 : (A.r == 1) = true := by simpa using hA1
  clear hA1 HFg
  by_cases h1 : lkT A B ≠ 0
  · generalize hT : lkT A B = E at h1 HFa
    have hE : lkE A B = E := (if_neg (by rw [hT]; exact h1)).trans hT
    rw [show lkV A B = Ar.no from orNo_no (by rw [hE]; exact h1), hE]
    have k1 : (E != 0) = true := by simpa using h1
    clear h1 hE hT
    go_enter Tryd.func13, Tryd.ntmps13
    go_wp2_with (go_at_call 20; (with_reducible refine (HFa.out _ _ (by first | rfl | simp) HK.out.c.lay HK.out.c.rdnA HK.out.c.rdnB).mono ?_); rintro e w1 ⟨rfl, hb⟩; have HK2 := Lib.hid (HK.out.next hb); clear HK x0 x1 x2 x3 x4 y0 y1 y2 y3 y4; have HK := HK2; clear HK2; have x0 := HK.out.c.boxA.c0; have x1 := HK.out.c.boxA.c1; have x2 := HK.out.c.boxA.c2; have x3 := HK.out.c.boxA.c3; have x4 := HK.out.c.boxA.c4; have y0 := HK.out.c.boxB.c0; have y1 := HK.out.c.boxB.c1; have y2 := HK.out.c.boxB.c2; have y3 := HK.out.c.boxB.c3; have y4 := HK.out.c.boxB.c4; clear hb; have y0 := HK.out.res.c0; have y1 := HK.out.res.c1; have y2 := HK.out.res.c2; have y3 := HK.out.res.c3; have y4 := HK.out.res.c4; have f0 := HK.out.res.fr 0; have f1 := HK.out.res.fr 1; have f2 := HK.out.res.fr 2; have f3 := HK.out.res.fr 3; have f4 := HK.out.res.fr 4; have HS := Lib.hid (HK.out.res.set 0 0 0 0 (.slice none 0 0)); have z0 := HS.out.c0; have z1 := HS.out.c1; have z2 := HS.out.c2; have z3 := HS.out.c3; have z4 := HS.out.c4)
    exact bodyPost_ret (v := .tuple #[A5 0 0 0 0 (.slice none 0 0), .int .i64 E]) (by simp [results, Tryd.results13, go_sem, z0, z1, z2, z3, z4]) rfl (retE_no _ (st5_below _ _ _ _ _ (by omega) HK.out.c.bel))
  have h0 : lkT A B = 0 := by omega
  rw [h0] at HFa
  have HBad := Lib.hid (fun j hj hx => lk_bad (A := A) (B := B) (j := j) h0 hj hx)
  have HAll := Lib.hid (fun h => lk_all (A := A) (B := B) h0 h)
  have HMk : Hid (lkE A B = 0 → ∀ W u, Ru.Lay W → RdI W.heap.size W u (lkZ A B) → Calls Tryd.prog 21 #[.int .i64 A.k, .int .i64 B.r, P2 B.a B.b, u] W (RetE ⟨A.k, B.r, B.a, B.b, lkZ A B⟩ 0 W)) := fun he W u h2 h3 => by
    have h4 := make_any A.k B.r B.a B.b (lkZ A B) u W h2 h3 (by unfold lkZ; rw [List.length_map]; omega)
    rwa [lk_ck he, mk_yes (lk_ck he)] at h4
  have HSn := Lib.hid (fun j t hj ht => lk_snoc (A := A) (B := B) (j := j) (t := t) hj ht)
  have HZl : Hid ((lkZ A B).length = B.z.length) := by unfold Hid lkZ; rw [List.length_map]
  have hl4 := (ck_good (twoE_ok h0).1).len4
  have hl5 := (ck_good (twoE_ok h0).2.1).len4
  clear h0 h1
  generalize lkZ A B = Z at HMk HSn HZl HAll
  generalize lkV A B = VV at HBad HAll ⊢
  generalize lkE A B = EE at HBad HAll HMk ⊢
  go_enter Tryd.func13, Tryd.ntmps13
  go_wp2_with (go_at_call 20; (with_reducible refine (HFa.out _ _ (by first | rfl | simp) HK.out.c.lay HK.out.c.rdnA HK.out.c.rdnB).mono ?_); rintro e w1 ⟨rfl, hb⟩; have HK2 := Lib.hid (HK.out.next hb); clear HK x0 x1 x2 x3 x4 y0 y1 y2 y3 y4; have HK := HK2; clear HK2; have x0 := HK.out.c.boxA.c0; have x1 := HK.out.c.boxA.c1; have x2 := HK.out.c.boxA.c2; have x3 := HK.out.c.boxA.c3; have x4 := HK.out.c.boxA.c4; have y0 := HK.out.c.boxB.c0; have y1 := HK.out.c.boxB.c1; have y2 := HK.out.c.boxB.c2; have y3 := HK.out.c.boxB.c3; have y4 := HK.out.c.boxB.c4; clear hb)
  have HK0 : Hid (K27 w A (.slice p A.z.length cap) B (.slice q B.z.length cap') (.slice none 0 0) [] w1) := ⟨HK.out, ins_nil _ _⟩
  clear HK HFa HBs k0 x0 x1 x2 x3 x4 y0 y1 y2 y3 y4
  go_loopg [7, 9, 32] B.z.length (fun gk s x q9 wr => ∃ (j : Nat) (U : Value), j + gk = B.z.length ∧ s = U ∧ q9 = .int .i64 j ∧ (B.z.take j).all (inS A.z.length) = true ∧ K27 w A (.slice p A.z.length cap) B (.slice q B.z.length cap') U (Z.take j) wr)
  case atStart => exact ⟨0, _, by omega, rfl, rfl, by simp, HK0.out⟩
  case round =>
    obtain ⟨j, s0, hjg, rfl, rfl, hal, hk⟩ := hrel
    have HV := Lib.hid hk
    have HAl := Lib.hid hal
    clear hk HK0 hal
    cases gk with
    | zero =>
      have hjz : ¬ ((j : Int) < (B.z.length : Int)) := by omega
      obtain ⟨he, hve⟩ := HAll.out (by have h := HAl.out; rwa [List.take_of_length_le (by omega)] at h)
      have HVe := Lib.hid hve
      have HEe := Lib.hid he
      have HMk2 := Lib.hid (HMk.out he)
      have HO : Hid (RdI wr.heap.size wr u7 Z) := by
        have h := (ins_new HV.out.own).rd
        rwa [List.take_of_length_le (by rw [HZl.out]; omega)] at h
      have HK := Lib.hid HV.out.m
      clear HV HAl HAll HBad HSn he hve HMk
      have x0 := HK.out.c.boxA.c0; have x1 := HK.out.c.boxA.c1; have x2 := HK.out.c.boxA.c2; have x3 := HK.out.c.boxA.c3; have x4 := HK.out.c.boxA.c4; have y0 := HK.out.c.boxB.c0; have y1 := HK.out.c.boxB.c1; have y2 := HK.out.c.boxB.c2; have y3 := HK.out.c.boxB.c3; have y4 := HK.out.c.boxB.c4
      go_wp2_with (go_at_call 21; (with_reducible refine (HMk2.out _ _ HK.out.c.lay HO.out).mono ?_); rintro e w3 ⟨uu, rfl, hu, hb⟩; obtain ⟨qq, qc, hq, _, _⟩ := hu.form; have hq2 : uu = .slice qq Z.length qc := hq; subst hq2; clear hq; have HU : Hid (RdN wr.heap.size w3 (.slice qq Z.length qc) Z) := hu; have hlt := HK.out.sz; have HK2 := Lib.hid (HK.out.next hb); clear hu hb HK; have HK := HK2; clear HK2; have y0 := HK.out.res.c0; have y1 := HK.out.res.c1; have y2 := HK.out.res.c2; have y3 := HK.out.res.c3; have y4 := HK.out.res.c4; have f0 := HK.out.res.fr 0; have f1 := HK.out.res.fr 1; have f2 := HK.out.res.fr 2; have f3 := HK.out.res.fr 3; have f4 := HK.out.res.fr 4; have HS := Lib.hid (HK.out.res.set A.k B.r B.a B.b (.slice qq Z.length qc)); have z0 := HS.out.c0; have z1 := HS.out.c1; have z2 := HS.out.c2; have z3 := HS.out.c3; have z4 := HS.out.c4)
      refine bodyPost_ret (v := .tuple #[A5 A.k B.r B.a B.b (.slice qq Z.length qc), .int .i64 0]) (by simp [results, Tryd.results13, go_sem, z0, z1, z2, z3, z4]) rfl ?_
      rw [HVe.out, HEe.out]
      exact ⟨_, rfl, (HU.out.st5 (by omega) _ _ _ _ _).mono (by omega), st5_below _ _ _ _ _ (by omega) HK.out.c.bel⟩
    | succ g2 =>
      have hjz : (j : Int) < (B.z.length : Int) := by omega
      have hj : j < B.z.length := by omega
      have hwi : IntKind.i64.wrap ((j : Int) + 1) = (j : Int) + 1 := by rw [IntKind.wrap_i64]; omega
      obtain ⟨bB, oB, hpB, _, hcB⟩ := HV.out.m.c.rdnB.cells (by intro e; rw [e] at hj; simp at hj)
      subst hpB
      have hyc := hcB j hj
      have hgx : B.z.getD j 0 = B.z[j] := by rw [List.getD_eq_getElem?_getD, List.getElem?_eq_getElem hj]; rfl
      have HGx := Lib.hid hgx
      clear hcB hgx
      generalize B.z[j] = x at hyc HGx
      have x4 := HV.out.m.c.boxA.c4
      by_cases hx : inS A.z.length x = true
      · unfold inS at hx
        rw [Bool.and_eq_true, decide_eq_true_iff, decide_eq_true_iff] at hx
        obtain ⟨t, ht⟩ : ∃ t : Nat, x = (t : Int) := ⟨x.toNat, by omega⟩
        subst ht
        have htl : t < A.z.length := by omega
        obtain ⟨bA, oA, hpA, _, hcA⟩ := HV.out.m.c.rdnA.cells (by intro e; rw [e] at htl; simp at htl)
        subst hpA
        have hxc := hcA t htl
        have hgz : A.z.getD t 0 = A.z[t] := by rw [List.getD_eq_getElem?_getD, List.getElem?_eq_getElem htl]; rfl
        have HSq := Lib.hid (HSn.out j t hj HGx.out)
        have HAn : Hid ((B.z.take (j + 1)).all (inS A.z.length) = true) := all_snocI hj HAl.out (by rw [HGx.out]; unfold inS; rw [Bool.and_eq_true, decide_eq_true_iff, decide_eq_true_iff]; omega)
        rw [hgz] at HSq
        clear hcA hgz HBad HAl HSn
        generalize A.z[t] = c at hxc HSq
        have k1 : decide ((t : Int) < 0) = false := decide_eq_false (by omega)
        have k2 : decide ((A.z.length : Int) ≤ (t : Int)) = false := decide_eq_false (by omega)
        have k3 : (t : Int) < (A.z.length : Int) := by omega
        have hlen : (Z.take j).length + 1 ≤ 1000000 := by rw [List.length_take]; omega
        have hsz : w.heap.size + 3 ≤ wr.heap.size := HV.out.m.sz
        clear hx
        go_wp2_with (at_builtin; refine wpList_app1 (by simp [Region.wanted]) _ _ rfl (w.heap.size + 3) _ (Z.take j) rfl HV.out.own c rfl hlen hsz ?_; intro u2 w2 hu2 hb2; have HV2 := Lib.hid (HV.out.step HW3.out hu2 hb2); clear hu2 hb2)
        rw [HSq.out] at HV2
        go_roundg g2
        case measure => omega
        case rel => exact ⟨j + 1, _, by omega, rfl, by go_num, HAn.out, HV2.out⟩
      · obtain ⟨he, hve⟩ := HBad.out j hj (by rw [HGx.out]; simpa using hx)
        have HVe := Lib.hid hve
        have HEe := Lib.hid he
        have HK := Lib.hid HV.out.m
        clear HV HAl HAll HBad HSn HMk he hve
        unfold inS at hx
        rw [Bool.and_eq_true, decide_eq_true_iff, decide_eq_true_iff] at hx
        have y0 := HK.out.res.c0; have y1 := HK.out.res.c1; have y2 := HK.out.res.c2; have y3 := HK.out.res.c3; have y4 := HK.out.res.c4; have f0 := HK.out.res.fr 0; have f1 := HK.out.res.fr 1; have f2 := HK.out.res.fr 2; have f3 := HK.out.res.fr 3; have f4 := HK.out.res.fr 4; have HS := Lib.hid (HK.out.res.set 0 0 0 0 (.slice none 0 0)); have z0 := HS.out.c0; have z1 := HS.out.c1; have z2 := HS.out.c2; have z3 := HS.out.c3; have z4 := HS.out.c4
        by_cases hx0 : x < 0
        · have k1 : decide (x < 0) = true := decide_eq_true hx0
          clear hx
          go_wp2_with fail
          refine bodyPost_ret (v := .tuple #[A5 0 0 0 0 (.slice none 0 0), .int .i64 14]) (by simp [results, Tryd.results13, go_sem, z0, z1, z2, z3, z4]) rfl ?_
          rw [HVe.out, HEe.out]
          exact retE_no _ (st5_below _ _ _ _ _ (by omega) HK.out.c.bel)
        · have k1 : decide (x < 0) = false := decide_eq_false hx0
          have k2 : decide ((A.z.length : Int) ≤ x) = true := decide_eq_true (by omega)
          clear hx hx0
          go_wp2_with fail
          refine bodyPost_ret (v := .tuple #[A5 0 0 0 0 (.slice none 0 0), .int .i64 14]) (by simp [results, Tryd.results13, go_sem, z0, z1, z2, z3, z4]) rfl ?_
          rw [HVe.out, HEe.out]
          exact retE_no _ (st5_below _ _ _ _ _ (by omega) HK.out.c.bel)
set_option maxRecDepth 100000 in
set_option maxHeartbeats 16000000 in
theorem ipick_any (A B : Ar) (v u : Value) (w : World) (hw : Ru.Lay w) (hv : RdI w.heap.size w v A.z) (hu : RdI w.heap.size w u B.z) (hl : A.z.length ≤ 100000) (hl' : B.z.length ≤ 100000) :
    Calls Tryd.prog 7 #[A5 A.k A.r A.a A.b v, A5 B.k B.r B.a B.b u] w (RetE (pkV A B) (pkE A B) w) := by
  have HFg : ∀ rk : Bool, (ck A = 0 → ck B = 0 → (rk = true ↔ 1 ≤ A.r ∧ A.r ≤ 1 ∧ 1 ≤ B.r ∧ B.r ≤ 1)) → Hid (∀ W g, W.heap.size = g → Ru.Lay W → RdI W.heap.size W v A.z → RdI W.heap.size W u B.z → Calls Tryd.prog 20 #[.bool (A.k == 1), .bool rk, .slice (some ⟨g, 0, none⟩) 2 2] (W.alloc (.cells #[.int .i64 A.k, .int .i64 A.r, .int .i64 A.a, .int .i64 A.b, v, .int .i64 B.k, .int .i64 B.r, .int .i64 B.a, .int .i64 B.b, u] 25)) fun e w' => e = .returned (.int .i64 (pkT A B)) ∧ Below W.heap.size W w') := fun rk hrk W g hg h1 h2 h3 => by
    have h := ifault2_any (A.k == 1) rk A B v u W g hg h1 h2 h3 (by omega) (by omega)
    rwa [fk_two A B (A.k == 1) rk 1 B.k 1 1 1 1 (by simp) hrk] at h
  have HK := Lib.hid (MK2.new (A := A) (B := B) hw hv hu)
  have HW3 := Lib.hid hw.size
  have x0 := HK.out.c.boxA.c0; have x1 := HK.out.c.boxA.c1; have x2 := HK.out.c.boxA.c2; have x3 := HK.out.c.boxA.c3; have x4 := HK.out.c.boxA.c4; have y0 := HK.out.c.boxB.c0; have y1 := HK.out.c.boxB.c1; have y2 := HK.out.c.boxB.c2; have y3 := HK.out.c.boxB.c3; have y4 := HK.out.c.boxB.c4
  obtain ⟨p, cap, rfl, _, _, _⟩ := hv
  obtain ⟨q, cap', rfl, _, _, _⟩ := hu
  clear hw
  have HBs := fun W => ibs2 A.k A.r A.a A.b p A.z.length cap B.k B.r B.a B.b q B.z.length cap' W
  by_cases hA1 : A.r = 1
  rotate_left
  · have HFa := HFg false fun _ _ => ⟨fun h => by (cases h), fun h => absurd (show A.r = 1 by omega) hA1⟩
    clear HFg
    have h1 : pkT A B ≠ 0 := fun h => by obtain ⟨_, _, _, h3, h4, _⟩ := twoE_ok h; omega
    have k0 : (A.r == 1) = false := by simpa using hA1
    clear hA1
    generalize hT : pkT A B = E at h1 HFa
    have hE : pkE A B = E := (if_neg (by rw [hT]; exact h1)).trans hT
    rw [show pkV A B = Ar.no from orNo_no (by rw [hE]; exact h1), hE]
    have k1 : (E != 0) = true := by simpa using h1
    clear h1 hE hT
    go_enter Tryd.func7, Tryd.ntmps7
    go_wp2_with (go_at_call 20; (with_reducible refine (HFa.out _ _ (by first | rfl | simp) HK.out.c.lay HK.out.c.rdnA HK.out.c.rdnB).mono ?_); rintro e w1 ⟨rfl, hb⟩; have HK2 := Lib.hid (HK.out.next hb); clear HK x0 x1 x2 x3 x4 y0 y1 y2 y3 y4; have HK := HK2; clear HK2; have x0 := HK.out.c.boxA.c0; have x1 := HK.out.c.boxA.c1; have x2 := HK.out.c.boxA.c2; have x3 := HK.out.c.boxA.c3; have x4 := HK.out.c.boxA.c4; have y0 := HK.out.c.boxB.c0; have y1 := HK.out.c.boxB.c1; have y2 := HK.out.c.boxB.c2; have y3 := HK.out.c.boxB.c3; have y4 := HK.out.c.boxB.c4; clear hb; have y0 := HK.out.res.c0; have y1 := HK.out.res.c1; have y2 := HK.out.res.c2; have y3 := HK.out.res.c3; have y4 := HK.out.res.c4; have f0 := HK.out.res.fr 0; have f1 := HK.out.res.fr 1; have f2 := HK.out.res.fr 2; have f3 := HK.out.res.fr 3; have f4 := HK.out.res.fr 4; have HS := Lib.hid (HK.out.res.set 0 0 0 0 (.slice none 0 0)); have z0 := HS.out.c0; have z1 := HS.out.c1; have z2 := HS.out.c2; have z3 := HS.out.c3; have z4 := HS.out.c4)
    exact bodyPost_ret (v := .tuple #[A5 0 0 0 0 (.slice none 0 0), .int .i64 E]) (by simp [results, Tryd.results7, go_sem, z0, z1, z2, z3, z4]) rfl (retE_no _ (st5_below _ _ _ _ _ (by omega) HK.out.c.bel))
  have HFa := HFg (B.r == 1) fun _ _ => ⟨fun h => by (have h5 : B.r = 1 := by simpa using h); omega, fun h => by simpa using (show B.r = 1 by omega)⟩
  have k0 : (A.r == 1) = true := by simpa using hA1
  clear hA1 HFg
  by_cases h1 : pkT A B ≠ 0
  · generalize hT : pkT A B = E at h1 HFa
    have hE : pkE A B = E := (if_neg (by rw [hT]; exact h1)).trans hT
    rw [show pkV A B = Ar.no from orNo_no (by rw [hE]; exact h1), hE]
    have k1 : (E != 0) = true := by simpa using h1
    clear h1 hE hT
    go_enter Tryd.func7, Tryd.ntmps7
    go_wp2_with (go_at_call 20; (with_reducible refine (HFa.out _ _ (by first | rfl | simp) HK.out.c.lay HK.out.c.rdnA HK.out.c.rdnB).mono ?_); rintro e w1 ⟨rfl, hb⟩; have HK2 := Lib.hid (HK.out.next hb); clear HK x0 x1 x2 x3 x4 y0 y1 y2 y3 y4; have HK := HK2; clear HK2; have x0 := HK.out.c.boxA.c0; have x1 := HK.out.c.boxA.c1; have x2 := HK.out.c.boxA.c2; have x3 := HK.out.c.boxA.c3; have x4 := HK.out.c.boxA.c4; have y0 := HK.out.c.boxB.c0; have y1 := HK.out.c.boxB.c1; have y2 := HK.out.c.boxB.c2; have y3 := HK.out.c.boxB.c3; have y4 := HK.out.c.boxB.c4; clear hb; have y0 := HK.out.res.c0; have y1 := HK.out.res.c1; have y2 := HK.out.res.c2; have y3 := HK.out.res.c3; have y4 := HK.out.res.c4; have f0 := HK.out.res.fr 0; have f1 := HK.out.res.fr 1; have f2 := HK.out.res.fr 2; have f3 := HK.out.res.fr 3; have f4 := HK.out.res.fr 4; have HS := Lib.hid (HK.out.res.set 0 0 0 0 (.slice none 0 0)); have z0 := HS.out.c0; have z1 := HS.out.c1; have z2 := HS.out.c2; have z3 := HS.out.c3; have z4 := HS.out.c4)
    exact bodyPost_ret (v := .tuple #[A5 0 0 0 0 (.slice none 0 0), .int .i64 E]) (by simp [results, Tryd.results7, go_sem, z0, z1, z2, z3, z4]) rfl (retE_no _ (st5_below _ _ _ _ _ (by omega) HK.out.c.bel))
  have h0 : pkT A B = 0 := by omega
  rw [h0] at HFa
  have hl4 := (ck_good (twoE_ok h0).1).len4
  have hl5 := (ck_good (twoE_ok h0).2.1).len4
  by_cases h2 : A.z.length = B.z.length
  rotate_left
  · have hE : pkE A B = 11 := by unfold pkE; rw [if_pos h0, if_neg h2]
    rw [show pkV A B = Ar.no from orNo_no (by rw [hE]; decide), hE]
    have k1 : ((A.z.length : Int) != (B.z.length : Int)) = true := by rw [bne_iff_ne]; omega
    clear h0 h1 h2 hE
    go_enter Tryd.func7, Tryd.ntmps7
    go_wp2_with (go_at_call 20; (with_reducible refine (HFa.out _ _ (by first | rfl | simp) HK.out.c.lay HK.out.c.rdnA HK.out.c.rdnB).mono ?_); rintro e w1 ⟨rfl, hb⟩; have HK2 := Lib.hid (HK.out.next hb); clear HK x0 x1 x2 x3 x4 y0 y1 y2 y3 y4; have HK := HK2; clear HK2; have x0 := HK.out.c.boxA.c0; have x1 := HK.out.c.boxA.c1; have x2 := HK.out.c.boxA.c2; have x3 := HK.out.c.boxA.c3; have x4 := HK.out.c.boxA.c4; have y0 := HK.out.c.boxB.c0; have y1 := HK.out.c.boxB.c1; have y2 := HK.out.c.boxB.c2; have y3 := HK.out.c.boxB.c3; have y4 := HK.out.c.boxB.c4; clear hb; have y0 := HK.out.res.c0; have y1 := HK.out.res.c1; have y2 := HK.out.res.c2; have y3 := HK.out.res.c3; have y4 := HK.out.res.c4; have f0 := HK.out.res.fr 0; have f1 := HK.out.res.fr 1; have f2 := HK.out.res.fr 2; have f3 := HK.out.res.fr 3; have f4 := HK.out.res.fr 4; have HS := Lib.hid (HK.out.res.set 0 0 0 0 (.slice none 0 0)); have z0 := HS.out.c0; have z1 := HS.out.c1; have z2 := HS.out.c2; have z3 := HS.out.c3; have z4 := HS.out.c4)
    exact bodyPost_ret (v := .tuple #[A5 0 0 0 0 (.slice none 0 0), .int .i64 11]) (by simp [results, Tryd.results7, go_sem, z0, z1, z2, z3, z4]) rfl (retE_no _ (st5_below _ _ _ _ _ (by omega) HK.out.c.bel))
  have hE : pkE A B = 0 := by unfold pkE; rw [if_pos h0, if_pos h2]
  rw [show pkV A B = vecA B.k (pkZ A.z B.z) from orNo_yes hE, hE]
  have k1 : ((A.z.length : Int) != (B.z.length : Int)) = false := by simp [h2]
  have HMk : Hid (∀ W u, Ru.Lay W → RdI W.heap.size W u (pkZ A.z B.z) → Calls Tryd.prog 21 #[.int .i64 B.k, .int .i64 1, P2 (pkZ A.z B.z).length 0, u] W (RetE ⟨B.k, 1, (pkZ A.z B.z).length, 0, pkZ A.z B.z⟩ 0 W)) := fun W u g2 g3 => by
    have hp := pkZ_le A.z B.z
    have h4 := make_any B.k 1 (pkZ A.z B.z).length 0 (pkZ A.z B.z) u W g2 g3 (by omega)
    have hc : ck ⟨B.k, 1, ((pkZ A.z B.z).length : Int), 0, pkZ A.z B.z⟩ = 0 := pk_ck h0
    rwa [hc, mk_yes hc] at h4
  have HSn := Lib.hid (fun j (hj : j < A.z.length) => pkZ_take (m := A.z) (v := B.z) h2 hj)
  have HPl : Hid (∀ j, (pkZ (A.z.take j) (B.z.take j)).length ≤ 1000) := fun j => by have := pkZ_le (A.z.take j) (B.z.take j); rw [List.length_take] at this; omega
  have HZe : Hid (pkZ (A.z.take A.z.length) (B.z.take A.z.length) = pkZ A.z B.z) := by unfold Hid; rw [List.take_length, List.take_of_length_le (by omega)]
  have HLb := Lib.hid h2
  clear h0 h1 h2 hE
  go_enter Tryd.func7, Tryd.ntmps7
  go_wp2_with (go_at_call 20; (with_reducible refine (HFa.out _ _ (by first | rfl | simp) HK.out.c.lay HK.out.c.rdnA HK.out.c.rdnB).mono ?_); rintro e w1 ⟨rfl, hb⟩; have HK2 := Lib.hid (HK.out.next hb); clear HK x0 x1 x2 x3 x4 y0 y1 y2 y3 y4; have HK := HK2; clear HK2; have x0 := HK.out.c.boxA.c0; have x1 := HK.out.c.boxA.c1; have x2 := HK.out.c.boxA.c2; have x3 := HK.out.c.boxA.c3; have x4 := HK.out.c.boxA.c4; have y0 := HK.out.c.boxB.c0; have y1 := HK.out.c.boxB.c1; have y2 := HK.out.c.boxB.c2; have y3 := HK.out.c.boxB.c3; have y4 := HK.out.c.boxB.c4; clear hb)
  have HK0 : Hid (K27 w A (.slice p A.z.length cap) B (.slice q B.z.length cap') (.slice none 0 0) (pkZ (A.z.take 0) (B.z.take 0)) w1) := ⟨HK.out, by simpa [pkZ] using ins_nil _ _⟩
  clear HK HFa HBs k0 k1 x0 x1 x2 x3 x4 y0 y1 y2 y3 y4
  go_loopg [7, 8, 9, 40] A.z.length (fun gk s x1 x2 q9 wr => ∃ (j : Nat) (U : Value), j + gk = A.z.length ∧ s = U ∧ q9 = .int .i64 j ∧ K27 w A (.slice p A.z.length cap) B (.slice q B.z.length cap') U (pkZ (A.z.take j) (B.z.take j)) wr)
  case atStart => exact ⟨0, _, by omega, rfl, rfl, HK0.out⟩
  case round =>
    obtain ⟨j, s0, hjg, rfl, rfl, hk⟩ := hrel
    have HV := Lib.hid hk
    clear hk HK0
    cases gk with
    | zero =>
      have hjz : ¬ ((j : Int) < (A.z.length : Int)) := by omega
      have HO : Hid (RdI wr.heap.size wr u7 (pkZ A.z B.z)) := by
        have h := (ins_new HV.out.own).rd
        rwa [show j = A.z.length by omega, HZe.out] at h
      have HK := Lib.hid HV.out.m
      clear HV HSn HPl HZe
      obtain ⟨Z, hZ⟩ : ∃ Z, pkZ A.z B.z = Z := ⟨_, rfl⟩
      have HZe2 : Hid (vecA B.k (pkZ A.z B.z) = ⟨B.k, 1, Z.length, 0, Z⟩) := by unfold Hid; rw [hZ]; rfl
      rw [hZ] at HMk HO
      clear hZ
      have x0 := HK.out.c.boxA.c0; have x1 := HK.out.c.boxA.c1; have x2 := HK.out.c.boxA.c2; have x3 := HK.out.c.boxA.c3; have x4 := HK.out.c.boxA.c4; have y0 := HK.out.c.boxB.c0; have y1 := HK.out.c.boxB.c1; have y2 := HK.out.c.boxB.c2; have y3 := HK.out.c.boxB.c3; have y4 := HK.out.c.boxB.c4
      obtain ⟨pz, cz, hpz, _, _, _⟩ := HO.out
      subst hpz
      go_wp2_with (go_at_call 21; (with_reducible refine (HMk.out _ _ HK.out.c.lay HO.out).mono ?_); rintro e w3 ⟨uu, rfl, hu, hb⟩; obtain ⟨qq, qc, hq, _, _⟩ := hu.form; have hq2 : uu = .slice qq Z.length qc := hq; subst hq2; clear hq; have HU : Hid (RdN wr.heap.size w3 (.slice qq Z.length qc) Z) := hu; have hlt := HK.out.sz; have HK2 := Lib.hid (HK.out.next hb); clear hu hb HK; have HK := HK2; clear HK2; have y0 := HK.out.res.c0; have y1 := HK.out.res.c1; have y2 := HK.out.res.c2; have y3 := HK.out.res.c3; have y4 := HK.out.res.c4; have f0 := HK.out.res.fr 0; have f1 := HK.out.res.fr 1; have f2 := HK.out.res.fr 2; have f3 := HK.out.res.fr 3; have f4 := HK.out.res.fr 4; have HS := Lib.hid (HK.out.res.set B.k 1 Z.length 0 (.slice qq Z.length qc)); have z0 := HS.out.c0; have z1 := HS.out.c1; have z2 := HS.out.c2; have z3 := HS.out.c3; have z4 := HS.out.c4)
      rw [HZe2.out]
      refine bodyPost_ret (v := .tuple #[A5 B.k 1 Z.length 0 (.slice qq Z.length qc), .int .i64 0]) (by simp [results, Tryd.results7, go_sem, z0, z1, z2, z3, z4]) rfl ?_
      exact ⟨_, rfl, (HU.out.st5 (by omega) _ _ _ _ _).mono (by omega), st5_below _ _ _ _ _ (by omega) HK.out.c.bel⟩
    | succ g2 =>
      have hjz : (j : Int) < (A.z.length : Int) := by omega
      have hj : j < A.z.length := by omega
      have hjb : j < B.z.length := by have := HLb.out; omega
      have hwi : IntKind.i64.wrap ((j : Int) + 1) = (j : Int) + 1 := by rw [IntKind.wrap_i64]; omega
      obtain ⟨bA, oA, hpA, _, hcA⟩ := HV.out.m.c.rdnA.cells (by intro e; rw [e] at hj; simp at hj)
      subst hpA
      have hxc := hcA j hj
      have HSq := Lib.hid (HSn.out j hj)
      rw [show A.z.getD j 0 = A.z[j] by rw [List.getD_eq_getElem?_getD, List.getElem?_eq_getElem hj]; rfl, show B.z.getD j 0 = B.z[j] by rw [List.getD_eq_getElem?_getD, List.getElem?_eq_getElem hjb]; rfl] at HSq
      clear hcA
      generalize A.z[j] = x at hxc HSq
      have y4 := HV.out.m.c.boxB.c4
      have hsz : w.heap.size + 3 ≤ wr.heap.size := HV.out.m.sz
      by_cases hx : x = 0
      · have k2 : (x != 0) = false := by simpa using hx
        rw [if_pos hx] at HSq
        have HV2 : Hid (K27 w A (.slice (some ⟨bA, oA, none⟩) A.z.length cap) B (.slice q B.z.length cap') u7 (pkZ (A.z.take (j + 1)) (B.z.take (j + 1))) wr) := by unfold Hid; rw [HSq.out]; exact HV.out
        clear hx
        go_wp2_with fail
        go_roundg g2
        case measure => omega
        case rel => exact ⟨j + 1, _, by omega, rfl, by go_num, HV2.out⟩
      · have k2 : (x != 0) = true := by simpa using hx
        rw [if_neg hx] at HSq
        clear hx
        obtain ⟨bB, oB, hpB, _, hcB⟩ := HV.out.m.c.rdnB.cells (by intro e; rw [e] at hjb; simp at hjb)
        subst hpB
        have hyc := hcB j hjb
        clear hcB
        generalize B.z[j] = c at hyc HSq
        have hjbi : (j : Int) < (B.z.length : Int) := by omega
        have hlen : (pkZ (A.z.take j) (B.z.take j)).length + 1 ≤ 1000000 := by have := HPl.out j; omega
        go_wp2_with (at_builtin; refine wpList_app1 (by simp [Region.wanted]) _ _ rfl (w.heap.size + 3) _ (pkZ (A.z.take j) (B.z.take j)) rfl HV.out.own c rfl hlen hsz ?_; intro u2 w2 hu2 hb2; have HV2 := Lib.hid (HV.out.step HW3.out hu2 hb2); clear hu2 hb2)
        rw [← HSq.out] at HV2
        go_roundg g2
        case measure => omega
        case rel => exact ⟨j + 1, _, by omega, rfl, by go_num, HV2.out⟩
end Go.Proofs.YtpbfbejckhbijaaDoor
