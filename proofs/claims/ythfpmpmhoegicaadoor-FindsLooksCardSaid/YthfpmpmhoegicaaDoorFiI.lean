/- The reference's In. -/
import Derived.Test.YthfpmpmhoegicaaDoorFiH
namespace Go.Proofs.YthfpmpmhoegicaaDoor
open Go.RowKit

set_option maxRecDepth 100000 in
set_option maxHeartbeats 32000000 in
theorem rin_any8 (A B : Ar) (v u : Value) (w : World) (hw : Ru.Lay w) (hv : RdI w.heap.size w v A.z) (hu : RdI w.heap.size w u B.z) (hl : A.z.length ≤ 100000) (hl' : B.z.length ≤ 100000) :
    Calls Tryd.prog 30 #[A5 A.k A.r A.a A.b v, A5 B.k B.r B.a B.b u] w (RetE (mbV A B) (mbE A B) w) := by
  have HCa := Lib.hid (fun W h => archeck_any A v W h (by omega))
  have HCb := Lib.hid (fun W h => archeck_any B u W h (by omega))
  have HK := Lib.hid (MK2.new (A := A) (B := B) hw hv hu)
  have HW3 := Lib.hid hw.size
  have x0 := HK.out.c.boxA.c0; have x1 := HK.out.c.boxA.c1; have x2 := HK.out.c.boxA.c2; have x3 := HK.out.c.boxA.c3; have x4 := HK.out.c.boxA.c4; have b0 := HK.out.c.boxB.c0; have b1 := HK.out.c.boxB.c1; have b2 := HK.out.c.boxB.c2; have b3 := HK.out.c.boxB.c3; have b4 := HK.out.c.boxB.c4
  obtain ⟨p, cap, rfl, _, _, _⟩ := hv
  obtain ⟨q, cap', rfl, _, _, _⟩ := hu
  clear hw
  by_cases h1 : ck A ≠ 0
  · have hT : mbE A B = ck A := twoE_a h1
    rw [show mbV A B = Ar.no from orNo_no (by rw [hT]; exact h1), hT]
    clear hT
    generalize ck A = E at h1 HCa ⊢
    have k1 : (E == 0) = false := by simpa using h1
    have k2 : (E != 0) = true := by simpa using h1
    clear h1
    go_enter Tryd.func30, Tryd.ntmps30
    go_wp2_with (go_at_call 40; (with_reducible refine (HCa.out _ HK.out.c.rdnA).mono ?_); rintro e w1 ⟨rfl, hb⟩; have HK2 := Lib.hid (HK.out.next hb); clear HK x0 x1 x2 x3 x4 b0 b1 b2 b3 b4; have HK := HK2; clear HK2; have x0 := HK.out.c.boxA.c0; have x1 := HK.out.c.boxA.c1; have x2 := HK.out.c.boxA.c2; have x3 := HK.out.c.boxA.c3; have x4 := HK.out.c.boxA.c4; have b0 := HK.out.c.boxB.c0; have b1 := HK.out.c.boxB.c1; have b2 := HK.out.c.boxB.c2; have b3 := HK.out.c.boxB.c3; have b4 := HK.out.c.boxB.c4; clear hb; have y0 := HK.out.res.c0; have y1 := HK.out.res.c1; have y2 := HK.out.res.c2; have y3 := HK.out.res.c3; have y4 := HK.out.res.c4; have f0 := HK.out.res.fr 0; have f1 := HK.out.res.fr 1; have f2 := HK.out.res.fr 2; have f3 := HK.out.res.fr 3; have f4 := HK.out.res.fr 4; have HS := Lib.hid (HK.out.res.set 0 0 0 0 (.slice none 0 0)); have z0 := HS.out.c0; have z1 := HS.out.c1; have z2 := HS.out.c2; have z3 := HS.out.c3; have z4 := HS.out.c4)
    exact bodyPost_ret (v := .tuple #[A5 0 0 0 0 (.slice none 0 0), .int .i64 E]) (by simp [results, Tryd.results30, go_sem, z0, z1, z2, z3, z4]) rfl (retE_no _ (st5_below _ _ _ _ _ (by omega) HK.out.c.bel))
  have h1a : ck A = 0 := by omega
  rw [h1a] at HCa
  by_cases h2 : ck B ≠ 0
  · have hT : mbE A B = ck B := twoE_b h1a h2
    rw [show mbV A B = Ar.no from orNo_no (by rw [hT]; exact h2), hT]
    clear hT
    clear h1 h1a
    generalize ck B = E at h2 HCb ⊢
    have k1 : (E == 0) = false := by simpa using h2
    have k2 : (E != 0) = true := by simpa using h2
    clear h2
    go_enter Tryd.func30, Tryd.ntmps30
    go_wp2_with (first
      | (go_at_call 40; (with_reducible refine (HCb.out _ HK.out.c.rdnB).mono ?_); rintro e w2 ⟨rfl, hb⟩; have HK2 := Lib.hid (HK.out.next hb); clear HK x0 x1 x2 x3 x4 b0 b1 b2 b3 b4; have HK := HK2; clear HK2; have x0 := HK.out.c.boxA.c0; have x1 := HK.out.c.boxA.c1; have x2 := HK.out.c.boxA.c2; have x3 := HK.out.c.boxA.c3; have x4 := HK.out.c.boxA.c4; have b0 := HK.out.c.boxB.c0; have b1 := HK.out.c.boxB.c1; have b2 := HK.out.c.boxB.c2; have b3 := HK.out.c.boxB.c3; have b4 := HK.out.c.boxB.c4; clear hb; have y0 := HK.out.res.c0; have y1 := HK.out.res.c1; have y2 := HK.out.res.c2; have y3 := HK.out.res.c3; have y4 := HK.out.res.c4; have f0 := HK.out.res.fr 0; have f1 := HK.out.res.fr 1; have f2 := HK.out.res.fr 2; have f3 := HK.out.res.fr 3; have f4 := HK.out.res.fr 4; have HS := Lib.hid (HK.out.res.set 0 0 0 0 (.slice none 0 0)); have z0 := HS.out.c0; have z1 := HS.out.c1; have z2 := HS.out.c2; have z3 := HS.out.c3; have z4 := HS.out.c4)
      | (go_at_call 40; (with_reducible refine (HCa.out _ HK.out.c.rdnA).mono ?_); rintro e w1 ⟨rfl, hb⟩; have HK2 := Lib.hid (HK.out.next hb); clear HK x0 x1 x2 x3 x4 b0 b1 b2 b3 b4; have HK := HK2; clear HK2; have x0 := HK.out.c.boxA.c0; have x1 := HK.out.c.boxA.c1; have x2 := HK.out.c.boxA.c2; have x3 := HK.out.c.boxA.c3; have x4 := HK.out.c.boxA.c4; have b0 := HK.out.c.boxB.c0; have b1 := HK.out.c.boxB.c1; have b2 := HK.out.c.boxB.c2; have b3 := HK.out.c.boxB.c3; have b4 := HK.out.c.boxB.c4; clear hb)
      | fail)
    exact bodyPost_ret (v := .tuple #[A5 0 0 0 0 (.slice none 0 0), .int .i64 E]) (by simp [results, Tryd.results30, go_sem, z0, z1, z2, z3, z4]) rfl (retE_no _ (st5_below _ _ _ _ _ (by omega) HK.out.c.bel))
  have h2a : ck B = 0 := by omega
  rw [h2a] at HCb
  clear h1 h2
  by_cases h3 : A.k = B.k
  rotate_left
  · have hT : mbE A B = 21 := twoE_k h1a h2a (fun h => h3 h.1)
    rw [show mbV A B = Ar.no from orNo_no (by rw [hT]; decide), hT]
    clear hT
    have k3 : (A.k != B.k) = true := by simpa using h3
    clear h1a h2a h3
    go_enter Tryd.func30, Tryd.ntmps30
    go_wp2_with (first
      | (go_at_call 40; (with_reducible refine (HCb.out _ HK.out.c.rdnB).mono ?_); rintro e w2 ⟨rfl, hb⟩; have HK2 := Lib.hid (HK.out.next hb); clear HK x0 x1 x2 x3 x4 b0 b1 b2 b3 b4; have HK := HK2; clear HK2; have x0 := HK.out.c.boxA.c0; have x1 := HK.out.c.boxA.c1; have x2 := HK.out.c.boxA.c2; have x3 := HK.out.c.boxA.c3; have x4 := HK.out.c.boxA.c4; have b0 := HK.out.c.boxB.c0; have b1 := HK.out.c.boxB.c1; have b2 := HK.out.c.boxB.c2; have b3 := HK.out.c.boxB.c3; have b4 := HK.out.c.boxB.c4; clear hb; have y0 := HK.out.res.c0; have y1 := HK.out.res.c1; have y2 := HK.out.res.c2; have y3 := HK.out.res.c3; have y4 := HK.out.res.c4; have f0 := HK.out.res.fr 0; have f1 := HK.out.res.fr 1; have f2 := HK.out.res.fr 2; have f3 := HK.out.res.fr 3; have f4 := HK.out.res.fr 4; have HS := Lib.hid (HK.out.res.set 0 0 0 0 (.slice none 0 0)); have z0 := HS.out.c0; have z1 := HS.out.c1; have z2 := HS.out.c2; have z3 := HS.out.c3; have z4 := HS.out.c4)
      | (go_at_call 40; (with_reducible refine (HCa.out _ HK.out.c.rdnA).mono ?_); rintro e w1 ⟨rfl, hb⟩; have HK2 := Lib.hid (HK.out.next hb); clear HK x0 x1 x2 x3 x4 b0 b1 b2 b3 b4; have HK := HK2; clear HK2; have x0 := HK.out.c.boxA.c0; have x1 := HK.out.c.boxA.c1; have x2 := HK.out.c.boxA.c2; have x3 := HK.out.c.boxA.c3; have x4 := HK.out.c.boxA.c4; have b0 := HK.out.c.boxB.c0; have b1 := HK.out.c.boxB.c1; have b2 := HK.out.c.boxB.c2; have b3 := HK.out.c.boxB.c3; have b4 := HK.out.c.boxB.c4; clear hb)
      | fail)
    exact bodyPost_ret (v := .tuple #[A5 0 0 0 0 (.slice none 0 0), .int .i64 21]) (by simp [results, Tryd.results30, go_sem, z0, z1, z2, z3, z4]) rfl (retE_no _ (st5_below _ _ _ _ _ (by omega) HK.out.c.bel))
  have k3 : (A.k != B.k) = false := by simpa using h3
  by_cases h4 : B.r = 1
  rotate_left
  · have hT : mbE A B = 22 := twoE_r h1a h2a ⟨h3, rfl⟩ (by omega)
    rw [show mbV A B = Ar.no from orNo_no (by rw [hT]; decide), hT]
    clear hT
    have k4 : (B.r != 1) = true := by simpa using h4
    clear h1a h2a h3 h4
    go_enter Tryd.func30, Tryd.ntmps30
    go_wp2_with (first
      | (go_at_call 40; (with_reducible refine (HCb.out _ HK.out.c.rdnB).mono ?_); rintro e w2 ⟨rfl, hb⟩; have HK2 := Lib.hid (HK.out.next hb); clear HK x0 x1 x2 x3 x4 b0 b1 b2 b3 b4; have HK := HK2; clear HK2; have x0 := HK.out.c.boxA.c0; have x1 := HK.out.c.boxA.c1; have x2 := HK.out.c.boxA.c2; have x3 := HK.out.c.boxA.c3; have x4 := HK.out.c.boxA.c4; have b0 := HK.out.c.boxB.c0; have b1 := HK.out.c.boxB.c1; have b2 := HK.out.c.boxB.c2; have b3 := HK.out.c.boxB.c3; have b4 := HK.out.c.boxB.c4; clear hb; have y0 := HK.out.res.c0; have y1 := HK.out.res.c1; have y2 := HK.out.res.c2; have y3 := HK.out.res.c3; have y4 := HK.out.res.c4; have f0 := HK.out.res.fr 0; have f1 := HK.out.res.fr 1; have f2 := HK.out.res.fr 2; have f3 := HK.out.res.fr 3; have f4 := HK.out.res.fr 4; have HS := Lib.hid (HK.out.res.set 0 0 0 0 (.slice none 0 0)); have z0 := HS.out.c0; have z1 := HS.out.c1; have z2 := HS.out.c2; have z3 := HS.out.c3; have z4 := HS.out.c4)
      | (go_at_call 40; (with_reducible refine (HCa.out _ HK.out.c.rdnA).mono ?_); rintro e w1 ⟨rfl, hb⟩; have HK2 := Lib.hid (HK.out.next hb); clear HK x0 x1 x2 x3 x4 b0 b1 b2 b3 b4; have HK := HK2; clear HK2; have x0 := HK.out.c.boxA.c0; have x1 := HK.out.c.boxA.c1; have x2 := HK.out.c.boxA.c2; have x3 := HK.out.c.boxA.c3; have x4 := HK.out.c.boxA.c4; have b0 := HK.out.c.boxB.c0; have b1 := HK.out.c.boxB.c1; have b2 := HK.out.c.boxB.c2; have b3 := HK.out.c.boxB.c3; have b4 := HK.out.c.boxB.c4; clear hb)
      | fail)
    exact bodyPost_ret (v := .tuple #[A5 0 0 0 0 (.slice none 0 0), .int .i64 22]) (by simp [results, Tryd.results30, go_sem, z0, z1, z2, z3, z4]) rfl (retE_no _ (st5_below _ _ _ _ _ (by omega) HK.out.c.bel))
  have k4 : (B.r != 1) = false := by simpa using h4
  have h0 : mbE A B = 0 := twoE_y h1a h2a ⟨h3, rfl⟩ (by have := (ck_good h1a).r3; omega)
  rw [show mbV A B = ⟨1, A.r, A.a, A.b, mbZ A B⟩ from orNo_yes h0, h0]
  have hl4 := (ck_good h1a).len4
  have hl5 := (ck_good h2a).len4
  have HSn := Lib.hid (fun j hj x hx => mb_at (A := A) (B := B) (j := j) hj (x := x) hx)
  have HZl : Hid ((mbZ A B).length = A.z.length) := by unfold Hid mbZ; rw [List.length_map]
  have HHs := Lib.hid (fun u x W h => has_any B.z u x W h (by omega))
  clear h0 h1a h2a h3 h4
  generalize mbZ A B = Z at HSn HZl ⊢
  go_enter Tryd.func30, Tryd.ntmps30
  go_wp2_with (first
    | (go_at_call 40; (with_reducible refine (HCb.out _ HK.out.c.rdnB).mono ?_); rintro e w2 ⟨rfl, hb⟩; have HK2 := Lib.hid (HK.out.next hb); clear HK x0 x1 x2 x3 x4 b0 b1 b2 b3 b4; have HK := HK2; clear HK2; have x0 := HK.out.c.boxA.c0; have x1 := HK.out.c.boxA.c1; have x2 := HK.out.c.boxA.c2; have x3 := HK.out.c.boxA.c3; have x4 := HK.out.c.boxA.c4; have b0 := HK.out.c.boxB.c0; have b1 := HK.out.c.boxB.c1; have b2 := HK.out.c.boxB.c2; have b3 := HK.out.c.boxB.c3; have b4 := HK.out.c.boxB.c4; clear hb)
    | (go_at_call 40; (with_reducible refine (HCa.out _ HK.out.c.rdnA).mono ?_); rintro e w1 ⟨rfl, hb⟩; have HK2 := Lib.hid (HK.out.next hb); clear HK x0 x1 x2 x3 x4 b0 b1 b2 b3 b4; have HK := HK2; clear HK2; have x0 := HK.out.c.boxA.c0; have x1 := HK.out.c.boxA.c1; have x2 := HK.out.c.boxA.c2; have x3 := HK.out.c.boxA.c3; have x4 := HK.out.c.boxA.c4; have b0 := HK.out.c.boxB.c0; have b1 := HK.out.c.boxB.c1; have b2 := HK.out.c.boxB.c2; have b3 := HK.out.c.boxB.c3; have b4 := HK.out.c.boxB.c4; clear hb)
    | fail)
  have HK0 : Hid (KO2 w A (.slice p A.z.length cap) B (.slice q B.z.length cap') w2.heap.size 1 A.r A.a A.b (.slice none 0 0) (Z.take 0) (w2.alloc (.cells #[.int .i64 1, .int .i64 A.r, .int .i64 A.a, .int .i64 A.b, .slice none 0 0] 25))) := ⟨HK.out.next (bel1 _ _), R5.new _ _ _ _ _ _, ins_nil _ _, HK.out.sz⟩
  clear HK HCa HCb k3 k4 x0 x1 x2 x3 x4 b0 b1 b2 b3 b4
  go_loopg [8, 9] A.z.length (fun gk q9 n9 wr => ∃ (j : Nat) (U : Value), j + gk = A.z.length ∧ q9 = .int .i64 j ∧ KO2 w A (.slice p A.z.length cap) B (.slice q B.z.length cap') w2.heap.size 1 A.r A.a A.b U (Z.take j) wr)
  case atStart => exact ⟨0, _, by omega, rfl, HK0.out⟩
  case round =>
    obtain ⟨j, u_, hjg, rfl, hk⟩ := hrel
    have HV := Lib.hid hk
    clear hk HK0
    have x4 := HV.out.m.c.boxA.c4
    cases gk with
    | zero =>
      have hjz : ¬ ((j : Int) < (A.z.length : Int)) := by omega
      have HO : Hid (Ru.Ins 2 wr (w2.heap.size + 1) u_ Z) := by
        have h := HV.out.own
        rwa [List.take_of_length_le (by rw [HZl.out]; omega)] at h
      obtain ⟨qa, qc, hq2, _, _⟩ := (ins_new HO.out).form
      subst hq2
      have hgw := HV.out.gw
      have o0 := HV.out.box.c0; have o1 := HV.out.box.c1; have o2 := HV.out.box.c2; have o3 := HV.out.box.c3; have o4 := HV.out.box.c4
      have HK := Lib.hid HV.out.m
      clear HV HSn
      have y0 := HK.out.res.c0; have y1 := HK.out.res.c1; have y2 := HK.out.res.c2; have y3 := HK.out.res.c3; have y4 := HK.out.res.c4; have f0 := HK.out.res.fr 0; have f1 := HK.out.res.fr 1; have f2 := HK.out.res.fr 2; have f3 := HK.out.res.fr 3; have f4 := HK.out.res.fr 4; have HS := Lib.hid (HK.out.res.set 1 A.r A.a A.b (.slice qa Z.length qc)); have z0 := HS.out.c0; have z1 := HS.out.c1; have z2 := HS.out.c2; have z3 := HS.out.c3; have z4 := HS.out.c4
      go_wp2_with fail
      refine bodyPost_ret (v := .tuple #[A5 1 A.r A.a A.b (.slice qa Z.length qc), .int .i64 0]) (by simp [results, Tryd.results30, go_sem, z0, z1, z2, z3, z4]) rfl ?_
      exact ⟨_, rfl, ((ins_new HO.out).st5 (by omega) _ _ _ _ _).mono (by omega), st5_below _ _ _ _ _ (by omega) HK.out.c.bel⟩
    | succ g2 =>
      have hjz : (j : Int) < (A.z.length : Int) := by omega
      have hj : j < A.z.length := by omega
      have hwi : IntKind.i64.wrap ((j : Int) + 1) = (j : Int) + 1 := by rw [IntKind.wrap_i64]; omega
      obtain ⟨bA, oA, hpA, hbA, hcA⟩ := HV.out.m.c.rdnA.cells (by intro e; rw [e] at hj; simp at hj)
      subst hpA
      have hxc := hcA j hj
      have hgx : A.z.getD j 0 = A.z[j] := by rw [List.getD_eq_getElem?_getD, List.getElem?_eq_getElem hj]; rfl
      have HSq := Lib.hid (HSn.out j hj _ hgx)
      clear hcA hgx
      generalize A.z[j] = c at hxc HSq
      have b4 := HV.out.m.c.boxB.c4
      have HRB := Lib.hid (fun n => (HV.out.next (below_drewN (Below.refl _ _) n)).m.c.rdnB)
      have HHc : Hid (∀ n, Calls Tryd.prog 57 #[.slice q B.z.length cap', .int .i64 c] (wr.drewN n) fun e w' => e = .returned (.bool (decide (c ∈ B.z))) ∧ ∃ m, w' = wr.drewN m) := fun n => (HHs.out _ c _ (HRB.out n)).mono fun e w' h => ⟨h.1, n, h.2.symm⟩
      have hlen : (Z.take j).length + 1 ≤ 1000000 := by rw [List.length_take]; omega
      by_cases hm : c ∈ B.z
      · have k1 : decide (c ∈ B.z) = true := decide_eq_true hm
        rw [if_pos hm] at HSq
        rw [k1] at HHc
        clear hm k1
        go_wp2_with fail
        go_quiet (first | (go_at_call 57; exact HHc.out _) | fail)
        generalize hW1 : World.drewN _ nq = W1
        have hd1 : Below wr.heap.size wr W1 := by rw [← hW1]; exact drewN_below _ _
        have HV1 := Lib.hid (HV.out.next hd1)
        have hlA : bA < wr.heap.size := hbA
        have hxc1 : W1.cell? ⟨bA, oA + j, none⟩ = some (.int .i64 c) := (hd1.cell (p := ⟨bA, oA + j, none⟩) hlA).trans hxc
        clear hW1 hd1 HV hxc x4 b4 HRB HHc
        have hxc := hxc1
        clear hxc1
        have o4 := HV1.out.box.c4
        have of4 := HV1.out.box.fr 4
        have hgs := HV1.out.sz
        go_wp2_with (first
          | (at_builtin; refine wpList_app1 (by simp [Region.wanted]) _ _ rfl (w2.heap.size + 1) _ (Z.take j) rfl HV1.out.own 1 rfl hlen hgs ?_; intro u2 w3 hu2 hb2; obtain ⟨qa, qc, hq2, _, _⟩ := (ins_new hu2).form; rw [List.length_append, List.length_singleton, List.length_take, Nat.min_eq_left (by rw [HZl.out]; omega)] at hq2; subst hq2; have HOb := Lib.hid (HV1.out.box.below (Nat.lt_succ_self _) hb2); have HVn := Lib.hid (HV1.out.put HW3.out hu2 hb2); have p4 := HOb.out.c4; have pf := HOb.out.fr 4; clear hu2 hb2 o4 of4)
          | fail)
        rw [HSq.out] at HVn
        go_roundg g2
        case measure => omega
        case rel => exact ⟨j + 1, _, by omega, by go_num, HVn.out⟩
      · have k1 : decide (c ∈ B.z) = false := decide_eq_false hm
        rw [if_neg hm] at HSq
        rw [k1] at HHc
        clear hm k1
        go_wp2_with fail
        go_quiet (first | (go_at_call 57; exact HHc.out _) | fail)
        generalize hW1 : World.drewN _ nq = W1
        have hd1 : Below wr.heap.size wr W1 := by rw [← hW1]; exact drewN_below _ _
        have HV1 := Lib.hid (HV.out.next hd1)
        have hlA : bA < wr.heap.size := hbA
        have hxc1 : W1.cell? ⟨bA, oA + j, none⟩ = some (.int .i64 c) := (hd1.cell (p := ⟨bA, oA + j, none⟩) hlA).trans hxc
        clear hW1 hd1 HV hxc x4 b4 HRB HHc
        have hxc := hxc1
        clear hxc1
        have o4 := HV1.out.box.c4
        have of4 := HV1.out.box.fr 4
        have hgs := HV1.out.sz
        go_wp2_with (first
          | (at_builtin; refine wpList_app1 (by simp [Region.wanted]) _ _ rfl (w2.heap.size + 1) _ (Z.take j) rfl HV1.out.own 0 rfl hlen hgs ?_; intro u2 w3 hu2 hb2; obtain ⟨qa, qc, hq2, _, _⟩ := (ins_new hu2).form; rw [List.length_append, List.length_singleton, List.length_take, Nat.min_eq_left (by rw [HZl.out]; omega)] at hq2; subst hq2; have HOb := Lib.hid (HV1.out.box.below (Nat.lt_succ_self _) hb2); have HVn := Lib.hid (HV1.out.put HW3.out hu2 hb2); have p4 := HOb.out.c4; have pf := HOb.out.fr 4; clear hu2 hb2 o4 of4)
          | fail)
        rw [HSq.out] at HVn
        go_roundg g2
        case measure => omega
        case rel => exact ⟨j + 1, _, by omega, by go_num, HVn.out⟩
end Go.Proofs.YthfpmpmhoegicaaDoor
