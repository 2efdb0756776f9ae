/- The reference's Fill, lengths and Grid. -/
import Derived.Test.YtbeoigmaieiigaaDoorMvV
import Derived.Test.YtbeoigmaieiigaaDoorMvM
namespace Go.Proofs.YtbeoigmaieiigaaDoor
open Go.RowKit

/-- What the loops of Fill and Grid keep. -/
structure K27 (w : World) (N : Ar) (u : Value) (V : Ar) (v s : Value) (l : List Int) (W : World) : Prop where
  m : MK2 w N u V v W
  own : Ru.Ins 2 W (w.heap.size + 3) s l
theorem K27.step {w W W' : World} {N V : Ar} {u v s s' : Value} {l l' : List Int} (k : K27 w N u V v s l W) (h3 : 0 + 1 ≤ w.heap.size) (hi : Ru.Ins 2 W' (w.heap.size + 3) s' l') (hb : Below (w.heap.size + 3) W W') : K27 w N u V v s' l' W' :=
  ⟨k.m.far hb (k.m.c.lay.below (by omega) hb), hi⟩
theorem K27.drew {w W : World} {N V : Ar} {u v s : Value} {l : List Int} (k : K27 w N u V v s l W) : K27 w N u V v s l W.drew := ⟨k.m.next (Below.refl _ _).drew, World.ownsRow.drew k.own⟩

set_option maxRecDepth 100000 in
set_option maxHeartbeats 16000000 in
theorem rfill7_any (N V : Ar) (u v : Value) (w : World) (hw : Ru.Lay w) (hu : RdI w.heap.size w u N.z) (hv : RdI w.heap.size w v V.z) (hlN : N.z.length ≤ 100000) (hlV : V.z.length ≤ 100000) :
    Calls Tryd.prog 25 #[A5 N.k N.r N.a N.b u, A5 V.k V.r V.a V.b v] w (RetE (fiV N V) (fiE N V) w) := by
  have HTw : Hid (∀ W, Ru.Lay W → RdI W.heap.size W u N.z → RdI W.heap.size W v V.z → Calls Tryd.prog 47 #[A5 N.k N.r N.a N.b u, A5 V.k V.r V.a V.b v, .int .i64 0, .int .i64 0] W fun e w' => e = .returned (.int .i64 (twoE N V 1 V.k 0 0 0 0)) ∧ Below W.heap.size W w') := fun W h1 h2 h3 => two_any N V 0 0 u v W h1 h2 h3 (by omega) (by omega)
  have HK := Lib.hid (MK2.new (A := N) (B := V) hw hu hv)
  have HW3 := Lib.hid hw.size
  have x0 := HK.out.c.boxA.c0; have x1 := HK.out.c.boxA.c1; have x2 := HK.out.c.boxA.c2; have x3 := HK.out.c.boxA.c3; have x4 := HK.out.c.boxA.c4; have y0 := HK.out.c.boxB.c0; have y1 := HK.out.c.boxB.c1; have y2 := HK.out.c.boxB.c2; have y3 := HK.out.c.boxB.c3; have y4 := HK.out.c.boxB.c4
  obtain ⟨pu, cu, rfl, _, _, _⟩ := hu
  obtain ⟨p, cap, rfl, _, _, _⟩ := hv
  clear hw
  by_cases h1 : twoE N V 1 V.k 0 0 0 0 = 0
  · obtain ⟨hV, hz, hN, hE, hFV⟩ := fi_ok h1
    have hz1 : V.z.length = 1 := by
      obtain ⟨_, _, _, _, _, _, h7, h8⟩ := two_ok h1
      exact scalar_one hV (by omega)
    have HN1 : Hid (0 < N.z.length) := by unfold Hid; rw [hN]; simp
    have HV1 : Hid (0 < V.z.length) := hz
    have hfv : fiV N V = orNo (fiE N V) (vecA V.k (List.replicate (fst1 N).toNat (fst1 V))) := rfl
    rw [hfv, hE]
    rw [h1] at HTw
    clear h1 hFV hE hN hV hz hfv hz1
    generalize hn : fst1 N = n
    have HFn := Lib.hid hn
    clear hn
    have hN0 : (0 : Int) < (N.z.length : Int) := by have := HN1.out; omega
    by_cases h1 : n < 0
    · rw [if_pos h1, orNo_no (by decide)]
      go_enter Tryd.func25, Tryd.ntmps25
      go_wp2_with (go_at_call 47; (with_reducible refine (HTw.out _ HK.out.c.lay HK.out.c.rdnA HK.out.c.rdnB).mono ?_); rintro e w1 ⟨rfl, hb⟩; have HK2 := Lib.hid (HK.out.next hb); clear HK x0 x1 x2 x3 x4 y0 y1 y2 y3 y4; have HK := HK2; clear HK2; have x0 := HK.out.c.boxA.c0; have x1 := HK.out.c.boxA.c1; have x2 := HK.out.c.boxA.c2; have x3 := HK.out.c.boxA.c3; have x4 := HK.out.c.boxA.c4; have y0 := HK.out.c.boxB.c0; have y1 := HK.out.c.boxB.c1; have y2 := HK.out.c.boxB.c2; have y3 := HK.out.c.boxB.c3; have y4 := HK.out.c.boxB.c4; clear hb; obtain ⟨b1, o1, hbe, _, hn1⟩ := fst1_cell HK.out.c.rdnA HN1.out; cases hbe; rw [HFn.out] at hn1; have y0 := HK.out.res.c0; have y1 := HK.out.res.c1; have y2 := HK.out.res.c2; have y3 := HK.out.res.c3; have y4 := HK.out.res.c4; have f0 := HK.out.res.fr 0; have f1 := HK.out.res.fr 1; have f2 := HK.out.res.fr 2; have f3 := HK.out.res.fr 3; have f4 := HK.out.res.fr 4; have HS := Lib.hid (HK.out.res.set 0 0 0 0 (.slice none 0 0)); have z0 := HS.out.c0; have z1 := HS.out.c1; have z2 := HS.out.c2; have z3 := HS.out.c3; have z4 := HS.out.c4)
      exact bodyPost_ret (v := .tuple #[A5 0 0 0 0 (.slice none 0 0), .int .i64 13]) (by simp [results, Tryd.results25, go_sem, z0, z1, z2, z3, z4]) rfl (retE_no _ (st5_below _ _ _ _ _ (by omega) HK.out.c.bel))
    · rw [if_neg h1]
      by_cases h2 : 400 < n
      · rw [if_pos h2, orNo_no (by decide)]
        have k1 : decide (n < 0) = false := decide_eq_false h1
        have k2 : decide (400 < n) = true := decide_eq_true h2
        clear h1 h2
        go_enter Tryd.func25, Tryd.ntmps25
        go_wp2_with (go_at_call 47; (with_reducible refine (HTw.out _ HK.out.c.lay HK.out.c.rdnA HK.out.c.rdnB).mono ?_); rintro e w1 ⟨rfl, hb⟩; have HK2 := Lib.hid (HK.out.next hb); clear HK x0 x1 x2 x3 x4 y0 y1 y2 y3 y4; have HK := HK2; clear HK2; have x0 := HK.out.c.boxA.c0; have x1 := HK.out.c.boxA.c1; have x2 := HK.out.c.boxA.c2; have x3 := HK.out.c.boxA.c3; have x4 := HK.out.c.boxA.c4; have y0 := HK.out.c.boxB.c0; have y1 := HK.out.c.boxB.c1; have y2 := HK.out.c.boxB.c2; have y3 := HK.out.c.boxB.c3; have y4 := HK.out.c.boxB.c4; clear hb; obtain ⟨b1, o1, hbe, _, hn1⟩ := fst1_cell HK.out.c.rdnA HN1.out; cases hbe; rw [HFn.out] at hn1; have y0 := HK.out.res.c0; have y1 := HK.out.res.c1; have y2 := HK.out.res.c2; have y3 := HK.out.res.c3; have y4 := HK.out.res.c4; have f0 := HK.out.res.fr 0; have f1 := HK.out.res.fr 1; have f2 := HK.out.res.fr 2; have f3 := HK.out.res.fr 3; have f4 := HK.out.res.fr 4; have HS := Lib.hid (HK.out.res.set 0 0 0 0 (.slice none 0 0)); have z0 := HS.out.c0; have z1 := HS.out.c1; have z2 := HS.out.c2; have z3 := HS.out.c3; have z4 := HS.out.c4)
        exact bodyPost_ret (v := .tuple #[A5 0 0 0 0 (.slice none 0 0), .int .i64 15]) (by simp [results, Tryd.results25, go_sem, z0, z1, z2, z3, z4]) rfl (retE_no _ (st5_below _ _ _ _ _ (by omega) HK.out.c.bel))
      · rw [if_neg h2, orNo_yes rfl]
        obtain ⟨m, hm⟩ : ∃ m : Nat, n = (m : Int) := ⟨n.toNat, by omega⟩
        subst hm
        rw [Int.toNat_natCast]
        have hm4 : m ≤ 400 := by omega
        have k1 : decide ((m : Int) < 0) = false := decide_eq_false (by omega)
        have k2 : decide (400 < (m : Int)) = false := decide_eq_false (by omega)
        obtain ⟨c, hc⟩ : ∃ c, fst1 V = c := ⟨_, rfl⟩
        have HFc := Lib.hid hc
        rw [hc]
        clear hc h1 h2
        go_enter Tryd.func25, Tryd.ntmps25
        go_wp2_with (go_at_call 47; (with_reducible refine (HTw.out _ HK.out.c.lay HK.out.c.rdnA HK.out.c.rdnB).mono ?_); rintro e w1 ⟨rfl, hb⟩; have HK2 := Lib.hid (HK.out.next hb); clear HK x0 x1 x2 x3 x4 y0 y1 y2 y3 y4; have HK := HK2; clear HK2; have x0 := HK.out.c.boxA.c0; have x1 := HK.out.c.boxA.c1; have x2 := HK.out.c.boxA.c2; have x3 := HK.out.c.boxA.c3; have x4 := HK.out.c.boxA.c4; have y0 := HK.out.c.boxB.c0; have y1 := HK.out.c.boxB.c1; have y2 := HK.out.c.boxB.c2; have y3 := HK.out.c.boxB.c3; have y4 := HK.out.c.boxB.c4; clear hb; obtain ⟨b1, o1, hbe, _, hn1⟩ := fst1_cell HK.out.c.rdnA HN1.out; cases hbe; rw [HFn.out] at hn1)
        have HK0 : Hid (K27 w N (.slice (some ⟨b1, o1, none⟩) N.z.length cu) V (.slice p V.z.length cap) (.slice none 0 0) [] w1) := ⟨HK.out, ins_nil _ _⟩
        clear HK HTw hn1 x0 x1 x2 x3 x4 y0 y1 y2 y3 y4
        go_loopg [7, 8] m (fun gk s q wr => ∃ (j : Nat) (U : Value), j + gk = m ∧ s = U ∧ q = .int .i64 j ∧ K27 w N (.slice (some ⟨b1, o1, none⟩) N.z.length cu) V (.slice p V.z.length cap) U (List.replicate j c) wr)
        case atStart => exact ⟨0, _, by omega, rfl, rfl, HK0.out⟩
        case round =>
          obtain ⟨j, s0, hjg, rfl, rfl, hk⟩ := hrel
          have HV := Lib.hid hk
          clear hk HK0
          obtain ⟨b1', o1', hbe, _, hn1⟩ := fst1_cell HV.out.m.c.rdnA HN1.out
          cases hbe
          rw [HFn.out] at hn1
          have x4 := HV.out.m.c.boxA.c4
          have y4 := HV.out.m.c.boxB.c4
          have y0 := HV.out.m.c.boxB.c0
          cases gk with
          | zero =>
            have hjz : ¬ ((j : Int) < (m : Int)) := by omega
            obtain ⟨Z, hZ⟩ : ∃ Z, List.replicate m c = Z := ⟨_, rfl⟩
            have hZl : Z.length = m := by rw [← hZ, List.length_replicate]
            have HO : Hid (RdI wr.heap.size wr u7 Z) := by
              have h := (ins_new HV.out.own).rd
              have e : j = m := by omega
              rw [e, hZ] at h
              exact h
            have HZe : Hid (vecA V.k (List.replicate m c) = ⟨V.k, 1, Z.length, 0, Z⟩) := by unfold Hid; rw [hZ]; rfl
            have HNl := Lib.hid (ins_nilC HV.out.own)
            have HVe := Lib.hid (vec_lit (k := V.k) HO.out HNl.out (by omega))
            have HK := Lib.hid HV.out.m
            clear HV HO HNl hZ hZl
            go_wp2_with (go_at_call 37; (with_reducible refine HVe.out.mono ?_); rintro e w3 ⟨q, qc, rfl, hu, hb⟩; have HU := Lib.hid hu; have hlt := HK.out.sz; have HK2 := Lib.hid (HK.out.next hb); clear hu hb HK; have y0 := HK2.out.res.c0; have y1 := HK2.out.res.c1; have y2 := HK2.out.res.c2; have y3 := HK2.out.res.c3; have y4 := HK2.out.res.c4; have f0 := HK2.out.res.fr 0; have f1 := HK2.out.res.fr 1; have f2 := HK2.out.res.fr 2; have f3 := HK2.out.res.fr 3; have f4 := HK2.out.res.fr 4; have HS := Lib.hid (HK2.out.res.set V.k 1 Z.length 0 (.slice q Z.length qc)); have z0 := HS.out.c0; have z1 := HS.out.c1; have z2 := HS.out.c2; have z3 := HS.out.c3; have z4 := HS.out.c4)
            rw [HZe.out]
            refine bodyPost_ret (v := .tuple #[A5 V.k 1 Z.length 0 (.slice q Z.length qc), .int .i64 0]) (by simp [results, Tryd.results25, go_sem, z0, z1, z2, z3, z4]) rfl ?_
            exact ⟨_, rfl, (HU.out.st5 (by omega) _ _ _ _ _).mono (by omega), st5_below _ _ _ _ _ (by omega) HK2.out.c.bel⟩
          | succ g2 =>
            have hjz : (j : Int) < (m : Int) := by omega
            have hwi : IntKind.i64.wrap ((j : Int) + 1) = (j : Int) + 1 := by rw [IntKind.wrap_i64]; omega
            obtain ⟨b2, o2, hbe, _, hc1⟩ := fst1_cell HV.out.m.c.rdnB HV1.out
            cases hbe
            rw [HFc.out] at hc1
            have HSq : Hid (List.replicate j c ++ [c] = List.replicate (j + 1) c) := (List.replicate_succ' ..).symm
            have hlen : (List.replicate j c).length + 1 ≤ 1000000 := by rw [List.length_replicate]; omega
            have hsz : w.heap.size + 3 ≤ wr.heap.size := HV.out.m.sz
            have hV0 : (0 : Int) < (V.z.length : Int) := by have := HV1.out; omega
            generalize hT : List.replicate j c = T at HV HSq hlen
            clear hT
            go_wp2_with (at_builtin; refine wpList_app1 (by simp [Region.wanted]) _ _ rfl (w.heap.size + 3) _ T rfl HV.out.own c rfl hlen hsz ?_; intro u2 w2 hu2 hb2; have HV2 := Lib.hid (HV.out.step HW3.out hu2 hb2); clear hu2 hb2)
            rw [HSq.out] at HV2
            go_roundg g2
            case measure => omega
            case rel => exact ⟨j + 1, _, by omega, rfl, by go_num, HV2.out⟩
  · have hE : fiE N V = twoE N V 1 V.k 0 0 0 0 := if_neg h1
    rw [show fiV N V = Ar.no from orNo_no (by rw [hE]; exact h1), hE]
    clear hE
    generalize twoE N V 1 V.k 0 0 0 0 = E at h1 HTw ⊢
    have k1 : (E != 0) = true := by simpa using h1
    have k2 : (E == 0) = false := by simpa using h1
    clear h1
    go_enter Tryd.func25, Tryd.ntmps25
    go_wp2_with (go_at_call 47; (with_reducible refine (HTw.out _ HK.out.c.lay HK.out.c.rdnA HK.out.c.rdnB).mono ?_); rintro e w1 ⟨rfl, hb⟩; have HK2 := Lib.hid (HK.out.next hb); clear HK x0 x1 x2 x3 x4 y0 y1 y2 y3 y4; have HK := HK2; clear HK2; have x0 := HK.out.c.boxA.c0; have x1 := HK.out.c.boxA.c1; have x2 := HK.out.c.boxA.c2; have x3 := HK.out.c.boxA.c3; have x4 := HK.out.c.boxA.c4; have y0 := HK.out.c.boxB.c0; have y1 := HK.out.c.boxB.c1; have y2 := HK.out.c.boxB.c2; have y3 := HK.out.c.boxB.c3; have y4 := HK.out.c.boxB.c4; clear hb; have y0 := HK.out.res.c0; have y1 := HK.out.res.c1; have y2 := HK.out.res.c2; have y3 := HK.out.res.c3; have y4 := HK.out.res.c4; have f0 := HK.out.res.fr 0; have f1 := HK.out.res.fr 1; have f2 := HK.out.res.fr 2; have f3 := HK.out.res.fr 3; have f4 := HK.out.res.fr 4; have HS := Lib.hid (HK.out.res.set 0 0 0 0 (.slice none 0 0)); have z0 := HS.out.c0; have z1 := HS.out.c1; have z2 := HS.out.c2; have z3 := HS.out.c3; have z4 := HS.out.c4)
    exact bodyPost_ret (v := .tuple #[A5 0 0 0 0 (.slice none 0 0), .int .i64 E]) (by simp [results, Tryd.results25, go_sem, z0, z1, z2, z3, z4]) rfl (retE_no _ (st5_below _ _ _ _ _ (by omega) HK.out.c.bel))
end Go.Proofs.YtbeoigmaieiigaaDoor
