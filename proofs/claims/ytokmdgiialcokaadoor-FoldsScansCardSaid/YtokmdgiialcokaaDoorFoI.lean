/- The reference's Scan. -/
import Derived.Test.YtokmdgiialcokaaDoorFoH
namespace Go.Proofs.YtokmdgiialcokaaDoor
open Go.RowKit

/-- What the loop of Scan keeps; the sums so far lie in the block g, and in blocks from B on. -/
structure KS (w : World) (A : Ar) (v : Value) (g g0 B : Nat) (ul U : Value) (l : List Int) (W : World) : Prop where
  m : MK1 w A v W
  o : R5 W g 1 A.r A.a A.b U
  i : Ru.Ins 2 W B U l
  r : RW w.heap.size g0 B W ul (rwL A)
  le : B ≤ W.heap.size
theorem KS.next {w W W' : World} {A : Ar} {v : Value} {g g0 B : Nat} {ul U : Value} {l : List Int} (k : KS w A v g g0 B ul U l W) (hB : w.heap.size ≤ B) (hb : Below W.heap.size W W') : KS w A v g g0 B ul U l W' :=
  ⟨k.m.next hb, k.o.next hb, ins_next7 k.i hb, k.r.next hB (hb.mono k.le), Nat.le_trans k.le hb.size⟩
theorem R5.put47 {w : World} {g : Nat} {k r a b : Int} {v : Value} (h : R5 w g k r a b v) (u : Value) : R5 (w.setCell ⟨g, 4, none⟩ u) g k r a b u := by
  unfold R5 at h ⊢
  simp [World.setCell, Array.getElem?_modify, h]
theorem ins_put4 {w : World} {B g : Nat} {u v0 : Value} {l : List Int} {k r a b : Int} (h : Ru.Ins 2 w B u l) (hs : R5 w g k r a b v0) (v : Value) : Ru.Ins 2 (w.setCell ⟨g, 4, none⟩ v) B u l :=
  own_keep7 h fun j c hk => blkO _ _ _ _ fun e => by
    subst e
    unfold R5 at hs
    rw [hs] at hk
    simp at hk
theorem KS.step {w W W' : World} {A : Ar} {v : Value} {g g0 B : Nat} {ul U U' : Value} {l l' : List Int} (k : KS w A v g g0 B ul U l W) (hw : Ru.Lay w) (hB : w.heap.size + 2 ≤ g) (hg : g < g0) (hg0 : g0 ≤ B) (hb : Below B W W') (hi : Ru.Ins 2 W' B U' l') :
    KS w A v g g0 B ul U' l' (W'.setCell ⟨g, 4, none⟩ U') := by
  have h3 := hw.size
  have ho : R5 W' g 1 A.r A.a A.b U := (hb.block _ (by omega)).trans k.o
  have hr := k.r.next (by omega) hb
  have hm : MK1 w A v W' := k.m.far (hb.mono (by omega)) (k.m.lay.below (by omega) hb)
  refine ⟨?_, ho.put47 U', ins_put4 hi ho U', hr.keep fun c hc => blkO _ _ _ _ (by omega), by have := hb.size; have := k.le; simp; omega⟩
  exact hm.far ((Below.refl _ _).setCell (p := ⟨g, 4, none⟩) hB _) (hm.lay.below (by omega) ((Below.refl _ _).setCell (p := ⟨g, 4, none⟩) hB _))

set_option maxRecDepth 100000 in
set_option maxHeartbeats 8000000 in
theorem rscan_any (A : Ar) (v : Value) (w : World) (hw : Ru.Lay w) (hv : RdI w.heap.size w v A.z) (hn : Ru.NilC v) (hl : A.z.length ≤ 100000) (h64 : in64 A.z) :
    Calls Tryd.prog 29 #[A5 A.k A.r A.a A.b v] w (RetE (sncV A) (smE A) w) := by
  have HWl := Lib.hid hw
  have HFa := Lib.hid (fun W h1 => asked_int A v W h1 hl)
  have HK := Lib.hid (MK1.new (A := A) hw hv)
  have x0 := HK.out.box.c0; have x1 := HK.out.box.c1; have x2 := HK.out.box.c2; have x3 := HK.out.box.c3; have x4 := HK.out.box.c4
  unfold sncV
  by_cases h1 : faE (A.k == 1) A = 0
  · obtain ⟨hA, hk, hr⟩ := faE_ok h1
    clear hk
    have e0 : smE A = feL ((rwL A).map sm1) := if_pos h1
    rw [h1] at HFa
    rw [e0]
    have HRw : Hid (∀ W, w.heap.size ≤ W.heap.size → RdI w.heap.size W v A.z → Calls Tryd.prog 65 #[A5 A.k A.r A.a A.b v] W fun e w' => ∃ u, e = .returned u ∧ Go.Proofs.YtokmdgiialcokaaDoor.RW w.heap.size W.heap.size w'.heap.size w' u (rwL A) ∧ Below W.heap.size W w') := fun W h1 h2 => rrows11_any w.heap.size A v W hA hr h1 h2 hn
    obtain ⟨_, _, r2, r3, r4⟩ := rw_good (ck_good hA)
    have HLl : Hid ((rwL A).length = rwN A) := rwL_len hA
    have HGet : Hid (∀ j (hj : j < (rwL A).length), (rwL A)[j] = rwI A j) := fun j hj => rwL_get hA j hj
    have HIl : Hid (∀ j, j < rwN A → (rwI A j).length = rwM A) := fun j hj => rwI_len (ck_good hA) hj
    have HLen : Hid (((rwL A).map sm1).length = rwN A) := sm_len hA
    have HAt : Hid (∀ i, i < rwN A → ((rwL A).map sm1)[i]? = some (sm1 (rwI A i))) := fun i hi => by
      have h1 : i < (rwL A).length := by rw [rwL_len hA]; exact hi
      rw [List.getElem?_map, List.getElem?_eq_getElem h1, rwL_get hA]; rfl
    have HI64r : Hid (∀ j, in64 (rwI A j)) := fun j => h64.row j
    have HSn : Hid (∀ j, j < rwN A → flt (((rwL A).map (scL 0)).take (j + 1)) = flt (((rwL A).map (scL 0)).take j) ++ scL 0 (rwI A j)) := fun j hj => by
      have h1 : j < ((rwL A).map (scL 0)).length := by rw [List.length_map, rwL_len hA]; exact hj
      rw [flt_take h1, List.getElem_map, rwL_get hA]
    have hfl := flt_len hA
    have h4 := (ck_good hA).len4
    have HFl : Hid ((flt ((rwL A).map (scL 0))).length ≤ 400) := by unfold Hid; omega
    obtain ⟨n, hn'⟩ : ∃ n, rwN A = n := ⟨_, rfl⟩
    obtain ⟨m, hm'⟩ : ∃ m, rwM A = m := ⟨_, rfl⟩
    rw [hn'] at r3 HLl HLen HAt HIl HSn
    rw [hm'] at r4 HIl
    clear hn' hm' h1 e0 hA hr hn h64 hw r2 hfl h4
    obtain ⟨p0, cap, rfl, hcap, hcap2, hcell⟩ := hv
    clear hcell
    generalize (rwL A).map sm1 = cs at HLen HAt ⊢
    go_enter Tryd.func29, Tryd.ntmps29
    go_wp2_with (first | (go_at_call 64; (with_reducible refine (HFa.out _ HK.out.rdn).mono ?_); rintro e w1 ⟨rfl, hb⟩; have HK2 := Lib.hid (HK.out.next hb); clear HK x0 x1 x2 x3 x4; have HK := HK2; clear HK2; have x0 := HK.out.box.c0; have x1 := HK.out.box.c1; have x2 := HK.out.box.c2; have x3 := HK.out.box.c3; have x4 := HK.out.box.c4; clear hb; have hq0 : w.heap.size + 2 ≤ w1.heap.size := HK.out.sz; have hq3 : w.heap.size < w1.heap.size := (by omega)) | (go_at_call 65; generalize hwq : World.alloc w1 _ = wq; have HO0 : Hid (R5 wq w1.heap.size 1 A.r A.a A.b (.slice none 0 0)) := (by rw [← hwq]; exact R5.new _ _ _ _ _ _); have HKq : Hid (MK1 w A (.slice p0 A.z.length cap) wq) := (by rw [← hwq]; exact HK.out.next (bel1 _ _)); have hq1 : w1.heap.size < wq.heap.size := HO0.out.lt; clear hwq HK x0 x1 x2 x3 x4; have HK := HKq; clear HKq; (with_reducible refine (HRw.out _ (by omega) HK.out.rd).mono ?_); rintro e w2 ⟨ul, rfl, hrw, hb⟩; obtain ⟨ua, uc, hul⟩ := hrw.form; rw [HLl.out] at hul; subst hul; have HKS : Hid (KS w A (.slice p0 A.z.length cap) w1.heap.size wq.heap.size w2.heap.size (.slice ua n uc) (.slice none 0 0) [] w2) := ⟨HK.out.next hb, HO0.out.next hb, ins_nil _ _, hrw, Nat.le_refl _⟩; have hq2 : wq.heap.size ≤ w2.heap.size := hb.size; clear hb hrw HK HO0) | fail)
    clear HFa HRw
    generalize w1.heap.size = g at *
    generalize wq.heap.size = g0 at *
    go_loopg [7] n (fun gk i wr => ∃ (j : Nat) (U : Value), j + gk = n ∧ i = .int .i64 j ∧ okT cs j ∧ KS w A (.slice p0 A.z.length cap) g g0 w2.heap.size (.slice ua n uc) U (flt (((rwL A).map (scL 0)).take j)) wr)
    case atStart => exact ⟨0, _, by omega, rfl, okT_zero _, HKS.out⟩
    case round =>
      obtain ⟨j, u0, hjg, rfl, hok, hks⟩ := hrel
      have HOk := Lib.hid hok
      have HV := Lib.hid hks
      clear hok hks HKS
      cases gk with
      | zero =>
        have hjz : ¬ ((j : Int) < (n : Int)) := by omega
        have hjn : j = n := by omega
        have HF : Hid (feL cs = 0) := by
          have h := HOk.out
          rw [hjn] at h
          exact okT_all h HLen.out
        obtain ⟨ZZ, hZZ⟩ : ∃ ZZ, flt ((rwL A).map (scL 0)) = ZZ := ⟨_, rfl⟩
        have HZZ := Lib.hid hZZ
        have HI : Hid (Ru.Ins 2 wr w2.heap.size u0 ZZ) := by
          have h := HV.out.i
          rw [List.take_of_length_le (by rw [List.length_map, HLl.out]; omega), hZZ] at h
          exact h
        clear hZZ
        obtain ⟨qz, cz, hu0⟩ := ins_form7 HI.out
        subst hu0
        have HR : Hid (RdN (w.heap.size + 2) wr (.slice qz ZZ.length cz) ZZ) := (ins_new HI.out).mono (by omega)
        have HK := Lib.hid HV.out.m
        have HO := Lib.hid HV.out.o
        have b0 := HO.out.c0; have b1 := HO.out.c1; have b2 := HO.out.c2; have b3 := HO.out.c3; have b4 := HO.out.c4
        have y0 := HK.out.res.c0; have y1 := HK.out.res.c1; have y2 := HK.out.res.c2; have y3 := HK.out.res.c3; have y4 := HK.out.res.c4; have f0 := HK.out.res.fr 0; have f1 := HK.out.res.fr 1; have f2 := HK.out.res.fr 2; have f3 := HK.out.res.fr 3; have f4 := HK.out.res.fr 4; have HS := Lib.hid (HK.out.res.set 1 A.r A.a A.b (.slice qz ZZ.length cz)); have z0 := HS.out.c0; have z1 := HS.out.c1; have z2 := HS.out.c2; have z3 := HS.out.c3; have z4 := HS.out.c4
        clear HOk HI hjn HLen HAt HGet HIl HLl HI64r HSn HV HFl
        go_wp2_with fail
        refine bodyPost_ret (v := .tuple #[A5 1 A.r A.a A.b (.slice qz ZZ.length cz), .int .i64 0]) (by simp [results, Tryd.results29, go_sem, z0, z1, z2, z3, z4]) rfl ?_
        rw [orNo_yes HF.out, HF.out, HZZ.out]
        exact ⟨_, rfl, (HR.out.st5 (by omega) _ _ _ _ _).mono (by omega), st5_below _ _ _ _ _ (by omega) HK.out.bel⟩
      | succ g2 =>
        have hjz : (j : Int) < (n : Int) := by omega
        have hj : j < n := by omega
        have hjl : j < (rwL A).length := by rw [HLl.out]; exact hj
        have hw0 : IntKind.i64.wrap ((j : Int) + 1) = (j : Int) + 1 := by rw [IntKind.wrap_i64]; omega
        obtain ⟨b, capb, q, c, hue, hcl, hrd⟩ := HV.out.r.row hjl
        have HRd0 := Lib.hid hrd
        rw [HGet.out j hjl, HIl.out j hj] at hcl HRd0
        injection hue with e1 e2 e3
        subst e1
        have HAj := Lib.hid (HAt.out j hj)
        have HSj := Lib.hid (HSn.out j hj)
        have hIl := HIl.out j hj
        have HI6 := Lib.hid (HI64r.out j)
        have hfle : (flt (((rwL A).map (scL 0)).take (j + 1))).length ≤ 400 := Nat.le_trans (flt_le _ _) HFl.out
        rw [HSj.out, List.length_append] at hfle
        clear hrd hjl e2 e3
        generalize rwI A j = row at HRd0 HAj hIl HI6 HSj hfle
        have HIlr := Lib.hid hIl
        have HSu := Lib.hid (rsums_any row (.slice q m c) wr (HRd0.out.mono HV.out.m.bel.size) HI6.out (by omega))
        clear hIl HGet HIl HAt HI64r HI6 HRd0 HSn HFl
        by_cases ho : okS 0 row = true
        · have hs1 : sm1 row = (row.sum, 0) := sm1_yes ho
          rw [hs1] at HAj HSu
          have HOk2 : Hid (okT cs (j + 1)) := okT_next HOk.out HAj.out
          have HSl : Hid ((scL 0 row).length = m) := by unfold Hid; rw [scL_len, HIlr.out]
          rw [HSl.out] at hfle
          obtain ⟨ua0, uc0, hu0⟩ := ins_form7 HV.out.i
          subst hu0
          clear hs1 ho HOk HAj
          go_wp2_with (first
            | (go_at_call 66; (with_reducible refine HSu.out.mono ?_); rintro e w3 ⟨⟨us, rfl, hus⟩, hb⟩; obtain ⟨qs, cs2, hqs, _, _⟩ := (hus rfl).form; rw [HSl.out] at hqs; subst hqs; have HUs := Lib.hid (hus rfl); have HV3 := Lib.hid (HV.out.next (by omega) hb); clear hus hb HV hcl; have b0 := HV3.out.o.c0; have b1 := HV3.out.o.c1; have b2 := HV3.out.o.c2; have b3 := HV3.out.o.c3; have b4 := HV3.out.o.c4)
            | (at_builtin; refine Ru.wpList_append_is (by simp [Region.wanted]) _ _ rfl w2.heap.size _ _ rfl HV3.out.i _ (scL 0 row) rfl _ HUs.out.rd.ru HUs.out.nilC (by rw [HSl.out]; omega) HV3.out.le ?_; intro u2 w4 hu2 hg2; have hb4 := ins_grown HV3.out.i HV3.out.le hg2; rw [← HSj.out] at hu2; obtain ⟨va, vc, hva⟩ := ins_form7 hu2; have HV4 := Lib.hid (HV3.out.step HWl.out (by omega) (by omega) (by omega) hb4 hu2); have HO4 : Hid (R5 w4 g 1 A.r A.a A.b (.slice ua0 (flt (((rwL A).map (scL 0)).take j)).length uc0)) := (hb4.block _ (by omega)).trans HV3.out.o; clear hu2 hg2 hb4; subst hva; have y4 := HO4.out.c4; have f4 := HO4.out.fr 4)
            | fail)
          go_roundg g2
          case measure => omega
          case rel => exact ⟨j + 1, _, by omega, by go_num, HOk2.out, HV4.out⟩
        · have hs1 : sm1 row = (0, 12) := if_neg ho
          rw [hs1] at HAj HSu
          have HBad : Hid (feL cs = 12) := okT_bad HOk.out HAj.out (by decide)
          have HK := Lib.hid HV.out.m
          clear hs1 ho HOk HAj HV
          go_wp2_with (first
            | (go_at_call 66; (with_reducible refine HSu.out.mono ?_); rintro e w3 ⟨⟨us, rfl, hus⟩, hb⟩; have HK2 := Lib.hid (HK.out.next hb); clear HK; have HK := HK2; clear HK2 hus hb; have y0 := HK.out.res.c0; have y1 := HK.out.res.c1; have y2 := HK.out.res.c2; have y3 := HK.out.res.c3; have y4 := HK.out.res.c4; have f0 := HK.out.res.fr 0; have f1 := HK.out.res.fr 1; have f2 := HK.out.res.fr 2; have f3 := HK.out.res.fr 3; have f4 := HK.out.res.fr 4; have HS := Lib.hid (HK.out.res.set 0 0 0 0 (.slice none 0 0)); have z0 := HS.out.c0; have z1 := HS.out.c1; have z2 := HS.out.c2; have z3 := HS.out.c3; have z4 := HS.out.c4)
            | fail)
          refine bodyPost_ret (v := .tuple #[A5 0 0 0 0 (.slice none 0 0), .int .i64 12]) (by simp [results, Tryd.results29, go_sem, z0, z1, z2, z3, z4]) rfl ?_
          rw [HBad.out, orNo_no (by decide)]
          exact retE_no _ (st5_below _ _ _ _ _ (by omega) HK.out.bel)
  · have e : smE A = faE (A.k == 1) A := if_neg h1
    rw [e, orNo_no h1]
    generalize faE (A.k == 1) A = E at HFa h1 ⊢
    have k1 : (E != 0) = true := by simpa using h1
    clear h1 e hn h64 hw
    obtain ⟨p0, cap, rfl, hcap, hcap2, hcell⟩ := hv
    clear hcell
    go_enter Tryd.func29, Tryd.ntmps29
    go_wp2_with (first | (go_at_call 64; (with_reducible refine (HFa.out _ HK.out.rdn).mono ?_); rintro e w1 ⟨rfl, hb⟩; have HK2 := Lib.hid (HK.out.next hb); clear HK x0 x1 x2 x3 x4; have HK := HK2; clear HK2; have x0 := HK.out.box.c0; have x1 := HK.out.box.c1; have x2 := HK.out.box.c2; have x3 := HK.out.box.c3; have x4 := HK.out.box.c4; clear hb; have y0 := HK.out.res.c0; have y1 := HK.out.res.c1; have y2 := HK.out.res.c2; have y3 := HK.out.res.c3; have y4 := HK.out.res.c4; have f0 := HK.out.res.fr 0; have f1 := HK.out.res.fr 1; have f2 := HK.out.res.fr 2; have f3 := HK.out.res.fr 3; have f4 := HK.out.res.fr 4; have HS := Lib.hid (HK.out.res.set 0 0 0 0 (.slice none 0 0)); have z0 := HS.out.c0; have z1 := HS.out.c1; have z2 := HS.out.c2; have z3 := HS.out.c3; have z4 := HS.out.c4) | fail)
    exact bodyPost_ret (v := .tuple #[A5 0 0 0 0 (.slice none 0 0), .int .i64 E]) (by simp [results, Tryd.results29, go_sem, z0, z1, z2, z3, z4]) rfl (retE_no _ (st5_below _ _ _ _ _ (by omega) HK.out.bel))
end Go.Proofs.YtokmdgiialcokaaDoor
