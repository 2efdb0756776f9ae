/- The reference's Sum, Least, Most, Count, Scan. -/
import Derived.Test.YtokmdgiialcokaaDoorFoG
namespace Go.Proofs.YtokmdgiialcokaaDoor
open Go.RowKit

theorem asked_int (A : Ar) (v : Value) (W : World) (hv : RdI W.heap.size W v A.z) (hl : A.z.length ≤ 100000) : Calls Tryd.prog 64 #[A5 A.k A.r A.a A.b v, .bool true] W fun e w' => e = .returned (.int .i64 (faE (A.k == 1) A)) ∧ Below W.heap.size W w' := by
  have h := rasked_any true A v W hv hl
  rwa [Bool.not_true, Bool.false_or] at h
theorem asked_any (A : Ar) (v : Value) (W : World) (hv : RdI W.heap.size W v A.z) (hl : A.z.length ≤ 100000) : Calls Tryd.prog 64 #[A5 A.k A.r A.a A.b v, .bool false] W fun e w' => e = .returned (.int .i64 (faE true A)) ∧ Below W.heap.size W w' := by
  have h := rasked_any false A v W hv hl
  rwa [Bool.not_false, Bool.true_or] at h
theorem scL_last {row : List Int} (h : 0 < row.length) : (scL 0 row).getD (row.length - 1) 0 = row.sum := by
  rw [scL_at 0 (by omega), Int.zero_add, show row.length - 1 + 1 = row.length by omega, List.take_of_length_le (Nat.le_refl _)]

set_option maxRecDepth 100000 in
set_option maxHeartbeats 8000000 in
theorem rsum_any (A : Ar) (v : Value) (w : World) (hw : Ru.Lay w) (hv : RdI w.heap.size w v A.z) (hn : Ru.NilC v) (hl : A.z.length ≤ 100000) (h64 : in64 A.z) :
    Calls Tryd.prog 27 #[A5 A.k A.r A.a A.b v] w (RetE (smV A) (smE A) w) := by
  have HFa := Lib.hid (fun W h1 => asked_int A v W h1 hl)
  have HK := Lib.hid (MK1.new (A := A) hw hv)
  have x0 := HK.out.box.c0; have x1 := HK.out.box.c1; have x2 := HK.out.box.c2; have x3 := HK.out.box.c3; have x4 := HK.out.box.c4
  unfold smV
  by_cases h1 : faE (A.k == 1) A = 0
  · obtain ⟨hA, hk, hr⟩ := faE_ok h1
    clear hk
    have e0 : smE A = feL ((rwL A).map sm1) := if_pos h1
    rw [h1] at HFa
    rw [e0]
    have HRw : Hid (∀ W, w.heap.size ≤ W.heap.size → RdI w.heap.size W v A.z → Calls Tryd.prog 65 #[A5 A.k A.r A.a A.b v] W fun e w' => ∃ u, e = .returned u ∧ Go.Proofs.YtokmdgiialcokaaDoor.RW w.heap.size W.heap.size w'.heap.size w' u (rwL A) ∧ Below W.heap.size W w') := fun W h1 h2 => rrows11_any w.heap.size A v W hA hr h1 h2 hn
    obtain ⟨_, _, r2, r3, r4⟩ := rw_good (ck_good hA)
    have HLl : Hid ((rwL A).length = rwN A) := rwL_len hA
    have HGet : Hid (∀ j (hj : j < (rwL A).length), (rwL A)[j] = rwI A j) := fun j hj => rwL_get hA j hj
    have HIl : Hid (∀ j, j < rwN A → (rwI A j).length = rwM A) := fun j hj => rwI_len (ck_good hA) hj
    have HLen : Hid (((rwL A).map sm1).length = rwN A) := sm_len hA
    have HAt : Hid (∀ i, i < rwN A → ((rwL A).map sm1)[i]? = some (sm1 (rwI A i))) := fun i hi => by
      have h1 : i < (rwL A).length := by rw [rwL_len hA]; exact hi
      rw [List.getElem?_map, List.getElem?_eq_getElem h1, rwL_get hA]; rfl
    have HI64r : Hid (∀ j, in64 (rwI A j)) := fun j => h64.row j
    obtain ⟨n, hn'⟩ : ∃ n, rwN A = n := ⟨_, rfl⟩
    obtain ⟨m, hm'⟩ : ∃ m, rwM A = m := ⟨_, rfl⟩
    rw [hn'] at r3 HLl HLen HAt HIl
    rw [hm'] at r4 HIl
    clear hn' hm' h1 e0 hA hr hn h64 hw r2
    obtain ⟨p0, cap, rfl, hcap, hcap2, hcell⟩ := hv
    clear hcell
    generalize (rwL A).map sm1 = cs at HLen HAt ⊢
    go_enter Tryd.func27, Tryd.ntmps27
    go_wp2_with (first | (go_at_call 64; (with_reducible refine (HFa.out _ HK.out.rdn).mono ?_); rintro e w1 ⟨rfl, hb⟩; have HK2 := Lib.hid (HK.out.next hb); clear HK x0 x1 x2 x3 x4; have HK := HK2; clear HK2; have x0 := HK.out.box.c0; have x1 := HK.out.box.c1; have x2 := HK.out.box.c2; have x3 := HK.out.box.c3; have x4 := HK.out.box.c4; clear hb) | (go_at_call 65; (with_reducible refine (HRw.out _ (by have := HK.out.sz; omega) HK.out.rd).mono ?_); rintro e w2 ⟨ul, rfl, hrw, hb⟩; obtain ⟨ua, uc, hul⟩ := hrw.form; rw [HLl.out] at hul; subst hul; have HM := Lib.hid hrw; have hsz1 := HK.out.sz; have HK2 := Lib.hid (HK.out.next hb); clear HK x0 x1 x2 x3 x4; have HK := HK2; clear HK2; have x0 := HK.out.box.c0; have x1 := HK.out.box.c1; have x2 := HK.out.box.c2; have x3 := HK.out.box.c3; have x4 := HK.out.box.c4; clear hb hrw) | fail)
    clear HFa HRw
    have HS2 := Lib.hid HK.out.bel.size
    have HZs : Hid (w.heap.size + 2 ≤ w2.heap.size) := HK.out.sz
    go_loopg [5, 7] n (fun gk u i wr => ∃ (j : Nat) (U : Value), j + gk = n ∧ U = u ∧ i = .int .i64 j ∧ okT cs j ∧ Ru.Ins 2 wr w2.heap.size U ((vsL cs).take j) ∧ Below w2.heap.size w2 wr)
    case atStart => exact ⟨0, _, by omega, rfl, rfl, okT_zero _, ins_nil _ _, Below.refl _ _⟩
    case round =>
      obtain ⟨j, u0, hjg, rfl, rfl, hok, hins, hbl⟩ := hrel
      have HOk := Lib.hid hok
      have HIn := Lib.hid hins
      have HB := Lib.hid hbl
      clear hok hins hbl
      have HKr := Lib.hid (HK.out.next HB.out)
      clear HK x0 x1 x2 x3 x4
      have HK := HKr
      clear HKr
      have x0 := HK.out.box.c0; have x1 := HK.out.box.c1; have x2 := HK.out.box.c2; have x3 := HK.out.box.c3; have x4 := HK.out.box.c4
      cases gk with
      | zero =>
        have hjz : ¬ ((j : Int) < (n : Int)) := by omega
        have hjn : j = n := by omega
        have HF : Hid (feL cs = 0) := by
          have h := HOk.out
          rw [hjn] at h
          exact okT_all h HLen.out
        have HI : Hid (Ru.Ins 2 wr w2.heap.size u0 (vsL cs)) := by
          have h := HIn.out
          rw [hjn, List.take_of_length_le (by rw [vsL_len, HLen.out]; exact Nat.le_refl _)] at h
          exact h
        obtain ⟨qz, cz, hu0⟩ := ins_form7 HI.out
        subst hu0
        have HU : Hid (RdN (w.heap.size + 2) wr (.slice qz (vsL cs).length cz) (vsL cs)) := (ins_new HI.out).mono HZs.out
        clear HOk HIn HI hjn HLen HAt HGet HIl HM HLl HI64r
        obtain ⟨ZZ, hZZ⟩ : ∃ ZZ, vsL cs = ZZ := ⟨_, rfl⟩
        have HZZ := Lib.hid hZZ
        rw [hZZ] at HU ⊢
        clear hZZ
        go_wp2_with (first | (go_at_call 67; (with_reducible refine (rfolded_any A _ ZZ qz cz _ (w.heap.size + 2) HK.out.rdn HU.out).mono ?_); rintro e w3 ⟨rfl, hu, hb⟩; have HR := Lib.hid hu; have hge := HK.out.bel.size; have HK2 := Lib.hid (HK.out.next hb); clear HK x0 x1 x2 x3 x4; have HK := HK2; clear HK2; have x0 := HK.out.box.c0; have x1 := HK.out.box.c1; have x2 := HK.out.box.c2; have x3 := HK.out.box.c3; have x4 := HK.out.box.c4; clear hu hb HU; have y0 := HK.out.res.c0; have y1 := HK.out.res.c1; have y2 := HK.out.res.c2; have y3 := HK.out.res.c3; have y4 := HK.out.res.c4; have f0 := HK.out.res.fr 0; have f1 := HK.out.res.fr 1; have f2 := HK.out.res.fr 2; have f3 := HK.out.res.fr 3; have f4 := HK.out.res.fr 4; have HS := Lib.hid (HK.out.res.set (ofR A ZZ).k (ofR A ZZ).r (ofR A ZZ).a (ofR A ZZ).b (.slice qz ZZ.length cz)); have z0 := HS.out.c0; have z1 := HS.out.c1; have z2 := HS.out.c2; have z3 := HS.out.c3; have z4 := HS.out.c4) | fail)
        refine bodyPost_ret (v := .tuple #[A5 (ofR A ZZ).k (ofR A ZZ).r (ofR A ZZ).a (ofR A ZZ).b (.slice qz ZZ.length cz), .int .i64 0]) (by simp [results, Tryd.results27, go_sem, z0, z1, z2, z3, z4]) rfl ?_
        rw [orNo_yes HF.out, HF.out, HZZ.out]
        exact ⟨_, rfl, by rw [ofR_z]; exact (HR.out.st5 (by omega) _ _ _ _ _).mono (by omega), st5_below _ _ _ _ _ (by omega) HK.out.bel⟩
      | succ g2 =>
        have hjz : (j : Int) < (n : Int) := by omega
        have hj : j < n := by omega
        have hjl : j < (rwL A).length := by rw [HLl.out]; exact hj
        have hw0 : IntKind.i64.wrap ((j : Int) + 1) = (j : Int) + 1 := by rw [IntKind.wrap_i64]; omega
        obtain ⟨b, capb, q, c, hue, hcl, hrd⟩ := (HM.out.next HS2.out HB.out).row hjl
        have HRd0 := Lib.hid hrd
        rw [HGet.out j hjl, HIl.out j hj] at hcl HRd0
        injection hue with e1 e2 e3
        subst e1
        have HAj := Lib.hid (HAt.out j hj)
        have hIl := HIl.out j hj
        have HI6 := Lib.hid (HI64r.out j)
        clear hrd hjl e2 e3
        generalize rwI A j = row at HRd0 HAj hIl HI6
        have HIlr := Lib.hid hIl
        have HSu := Lib.hid (rsums_any row (.slice q m c) wr (HRd0.out.mono HK.out.bel.size) HI6.out (by omega))
        have HBsz := Lib.hid HB.out.size
        clear hIl HM HGet HIl HAt HI64r HI6 HRd0
        by_cases ho : okS 0 row = true
        · have hs1 : sm1 row = (row.sum, 0) := sm1_yes ho
          rw [hs1] at HAj HSu
          have HOk2 : Hid (okT cs (j + 1)) := okT_next HOk.out HAj.out
          have HSn : Hid ((vsL cs).take j ++ [row.sum] = (vsL cs).take (j + 1)) := by
            unfold Hid
            rw [← takeI_snoc (by rw [vsL_len, HLen.out]; exact hj), vsL_at HAj.out]
          have hlt : ((vsL cs).take j).length ≤ 400 := by rw [List.length_take]; omega
          have HSl : Hid ((scL 0 row).length = m) := by unfold Hid; rw [scL_len, HIlr.out]
          clear hs1 ho HOk HAj
          by_cases hm0 : m = 0
          · have HSz : Hid (row.sum = 0) := by
              have h := HIlr.out
              rw [hm0] at h
              unfold Hid
              rw [List.length_eq_zero_iff.1 h]; rfl
            subst hm0
            go_wp2_with (first
              | (go_at_call 66; (with_reducible refine HSu.out.mono ?_); rintro e w3 ⟨⟨us, rfl, hus⟩, hb⟩; obtain ⟨qs, cs2, hqs, _, _⟩ := (hus rfl).form; rw [HSl.out] at hqs; subst hqs; have HIn2 := Lib.hid (ins_next7 HIn.out hb); have HB2 := Lib.hid (HB.out.trans (hb.mono HB.out.size)); have hB2s := HB2.out.size; clear hus hb HIn HK x0 x1 x2 x3 x4)
              | (at_builtin; refine wpList_app1 (by simp [Region.wanted]) _ _ rfl w2.heap.size _ _ rfl HIn2.out 0 rfl (by omega) hB2s ?_; intro u2 w4 hu2 hb2; rw [← HSz.out, HSn.out] at hu2; have HU2 := Lib.hid hu2; have HB3 := Lib.hid (HB2.out.trans hb2); clear hu2 hb2)
              | fail)
            go_roundg g2
            case measure => omega
            case rel => exact ⟨j + 1, _, by omega, rfl, by go_num, HOk2.out, HU2.out, HB3.out⟩
          · have hm1 : (0 : Int) < (m : Int) := by omega
            have hm2 : decide (0 < m) = true := decide_eq_true (by omega)
            have hm3 : decide ((0 : Int) < (m : Int)) = true := decide_eq_true (by omega)
            obtain ⟨m', hm'⟩ : ∃ m', m = m' + 1 := ⟨m - 1, by omega⟩
            have hlast : (scL 0 row).getD m' 0 = row.sum := by rw [show m' = row.length - 1 by rw [HIlr.out]; omega]; exact scL_last (by rw [HIlr.out]; omega)
            have HLast := Lib.hid hlast
            have hwm : IntKind.i64.wrap ((m : Int) - 1) = (m' : Int) := by rw [IntKind.wrap_i64]; omega
            have HM' := Lib.hid hm'
            clear hlast hm' hm0
            go_wp2_with (first
              | (go_at_call 66; (with_reducible refine HSu.out.mono ?_); rintro e w3 ⟨⟨us, rfl, hus⟩, hb⟩; have hus2 := hus rfl; obtain ⟨qs, csz, hqs, _, hcl2⟩ := hus2; rw [HSl.out] at hqs; subst hqs; obtain ⟨bs, os, rfl, _, hc3⟩ := hcl2 (by intro e; have := HSl.out; rw [e] at this; simp at this; omega); have y5 : w3.cell? ⟨bs, os + m', none⟩ = some (.int .i64 row.sum) := (by rw [hc3 m' (by rw [HSl.out, HM'.out]; omega), ← HLast.out, List.getD_eq_getElem?_getD, List.getElem?_eq_getElem (by rw [HSl.out, HM'.out]; omega)]; rfl); have hml : m' < m := (by rw [HM'.out]; omega); have HIn2 := Lib.hid (ins_next7 HIn.out hb); have HB2 := Lib.hid (HB.out.trans (hb.mono HB.out.size)); have hB2s := HB2.out.size; clear hus hb HIn HK hc3 hcl2 x0 x1 x2 x3 x4)
              | (at_builtin; refine wpList_app1 (by simp [Region.wanted]) _ _ rfl w2.heap.size _ _ rfl HIn2.out row.sum rfl (by omega) hB2s ?_; intro u2 w4 hu2 hb2; rw [HSn.out] at hu2; have HU2 := Lib.hid hu2; have HB3 := Lib.hid (HB2.out.trans hb2); clear hu2 hb2)
              | fail)
            go_roundg g2
            case measure => omega
            case rel => exact ⟨j + 1, _, by omega, rfl, by go_num, HOk2.out, HU2.out, HB3.out⟩
        · have hs1 : sm1 row = (0, 12) := if_neg ho
          rw [hs1] at HAj HSu
          have HBad : Hid (feL cs = 12) := okT_bad HOk.out HAj.out (by decide)
          clear hs1 ho HOk HAj
          go_wp2_with (first
            | (go_at_call 66; (with_reducible refine HSu.out.mono ?_); rintro e w3 ⟨⟨us, rfl, hus⟩, hb⟩; have HK2 := Lib.hid (HK.out.next hb); clear HK x0 x1 x2 x3 x4; have HK := HK2; clear HK2; have x0 := HK.out.box.c0; have x1 := HK.out.box.c1; have x2 := HK.out.box.c2; have x3 := HK.out.box.c3; have x4 := HK.out.box.c4; clear hus hb; have y0 := HK.out.res.c0; have y1 := HK.out.res.c1; have y2 := HK.out.res.c2; have y3 := HK.out.res.c3; have y4 := HK.out.res.c4; have f0 := HK.out.res.fr 0; have f1 := HK.out.res.fr 1; have f2 := HK.out.res.fr 2; have f3 := HK.out.res.fr 3; have f4 := HK.out.res.fr 4; have HS := Lib.hid (HK.out.res.set 0 0 0 0 (.slice none 0 0)); have z0 := HS.out.c0; have z1 := HS.out.c1; have z2 := HS.out.c2; have z3 := HS.out.c3; have z4 := HS.out.c4)
            | fail)
          refine bodyPost_ret (v := .tuple #[A5 0 0 0 0 (.slice none 0 0), .int .i64 12]) (by simp [results, Tryd.results27, go_sem, z0, z1, z2, z3, z4]) rfl ?_
          rw [HBad.out, orNo_no (by decide)]
          exact retE_no _ (st5_below _ _ _ _ _ (by omega) HK.out.bel)
  · have e : smE A = faE (A.k == 1) A := if_neg h1
    rw [e, orNo_no h1]
    generalize faE (A.k == 1) A = E at HFa h1 ⊢
    have k1 : (E != 0) = true := by simpa using h1
    clear h1 e hn h64 hw
    obtain ⟨p0, cap, rfl, hcap, hcap2, hcell⟩ := hv
    clear hcell
    go_enter Tryd.func27, Tryd.ntmps27
    go_wp2_with (first | (go_at_call 64; (with_reducible refine (HFa.out _ HK.out.rdn).mono ?_); rintro e w1 ⟨rfl, hb⟩; have HK2 := Lib.hid (HK.out.next hb); clear HK x0 x1 x2 x3 x4; have HK := HK2; clear HK2; have x0 := HK.out.box.c0; have x1 := HK.out.box.c1; have x2 := HK.out.box.c2; have x3 := HK.out.box.c3; have x4 := HK.out.box.c4; clear hb; have y0 := HK.out.res.c0; have y1 := HK.out.res.c1; have y2 := HK.out.res.c2; have y3 := HK.out.res.c3; have y4 := HK.out.res.c4; have f0 := HK.out.res.fr 0; have f1 := HK.out.res.fr 1; have f2 := HK.out.res.fr 2; have f3 := HK.out.res.fr 3; have f4 := HK.out.res.fr 4; have HS := Lib.hid (HK.out.res.set 0 0 0 0 (.slice none 0 0)); have z0 := HS.out.c0; have z1 := HS.out.c1; have z2 := HS.out.c2; have z3 := HS.out.c3; have z4 := HS.out.c4) | fail)
    exact bodyPost_ret (v := .tuple #[A5 0 0 0 0 (.slice none 0 0), .int .i64 E]) (by simp [results, Tryd.results27, go_sem, z0, z1, z2, z3, z4]) rfl (retE_no _ (st5_below _ _ _ _ _ (by omega) HK.out.bel))

set_option maxRecDepth 100000 in
set_option maxHeartbeats 8000000 in
theorem rcount_any (A : Ar) (v : Value) (w : World) (hw : Ru.Lay w) (hv : RdI w.heap.size w v A.z) (hn : Ru.NilC v) (hl : A.z.length ≤ 100000) :
    Calls Tryd.prog 35 #[A5 A.k A.r A.a A.b v] w (RetE (cntV A) (cntE A) w) := by
  have HFa := Lib.hid (fun W h1 => asked_any A v W h1 hl)
  have HK := Lib.hid (MK1.new (A := A) hw hv)
  have x0 := HK.out.box.c0; have x1 := HK.out.box.c1; have x2 := HK.out.box.c2; have x3 := HK.out.box.c3; have x4 := HK.out.box.c4
  unfold cntV cntE
  by_cases h1 : faE true A = 0
  · obtain ⟨hA, hk, hr⟩ := faE_ok h1
    clear hk
    rw [orNo_yes h1, h1]
    rw [h1] at HFa
    have HRw : Hid (∀ W, w.heap.size ≤ W.heap.size → RdI w.heap.size W v A.z → Calls Tryd.prog 65 #[A5 A.k A.r A.a A.b v] W fun e w' => ∃ u, e = .returned u ∧ Go.Proofs.YtokmdgiialcokaaDoor.RW w.heap.size W.heap.size w'.heap.size w' u (rwL A) ∧ Below W.heap.size W w') := fun W h1 h2 => rrows11_any w.heap.size A v W hA hr h1 h2 hn
    obtain ⟨_, _, r2, r3, r4⟩ := rw_good (ck_good hA)
    have HLl : Hid ((rwL A).length = rwN A) := rwL_len hA
    have HGet : Hid (∀ j (hj : j < (rwL A).length), (rwL A)[j] = rwI A j) := fun j hj => rwL_get hA j hj
    have HIl : Hid (∀ j, j < rwN A → (rwI A j).length = rwM A) := fun j hj => rwI_len (ck_good hA) hj
    obtain ⟨n, hn'⟩ : ∃ n, rwN A = n := ⟨_, rfl⟩
    obtain ⟨m, hm'⟩ : ∃ m, rwM A = m := ⟨_, rfl⟩
    rw [hn'] at r3 HLl HIl ⊢
    rw [hm'] at r4 HIl ⊢
    clear hn' hm' h1 hA hr hn hw r2
    obtain ⟨p0, cap, rfl, hcap, hcap2, hcell⟩ := hv
    clear hcell
    go_enter Tryd.func35, Tryd.ntmps35
    go_wp2_with (first | (go_at_call 64; (with_reducible refine (HFa.out _ HK.out.rdn).mono ?_); rintro e w1 ⟨rfl, hb⟩; have HK2 := Lib.hid (HK.out.next hb); clear HK x0 x1 x2 x3 x4; have HK := HK2; clear HK2; have x0 := HK.out.box.c0; have x1 := HK.out.box.c1; have x2 := HK.out.box.c2; have x3 := HK.out.box.c3; have x4 := HK.out.box.c4; clear hb) | (go_at_call 65; (with_reducible refine (HRw.out _ (by have := HK.out.sz; omega) HK.out.rd).mono ?_); rintro e w2 ⟨ul, rfl, hrw, hb⟩; obtain ⟨ua, uc, hul⟩ := hrw.form; rw [HLl.out] at hul; subst hul; have HM := Lib.hid hrw; have hsz1 := HK.out.sz; have HK2 := Lib.hid (HK.out.next hb); clear HK x0 x1 x2 x3 x4; have HK := HK2; clear HK2; have x0 := HK.out.box.c0; have x1 := HK.out.box.c1; have x2 := HK.out.box.c2; have x3 := HK.out.box.c3; have x4 := HK.out.box.c4; clear hb hrw) | fail)
    clear HFa HRw
    have HS2 := Lib.hid HK.out.bel.size
    have HZs : Hid (w.heap.size + 2 ≤ w2.heap.size) := HK.out.sz
    go_loopg [5, 7] n (fun gk u i wr => ∃ (j : Nat) (U : Value), j + gk = n ∧ U = u ∧ i = .int .i64 j ∧ Ru.Ins 2 wr w2.heap.size U (List.replicate j (m : Int)) ∧ Below w2.heap.size w2 wr)
    case atStart => exact ⟨0, _, by omega, rfl, rfl, ins_nil _ _, Below.refl _ _⟩
    case round =>
      obtain ⟨j, u0, hjg, rfl, rfl, hins, hbl⟩ := hrel
      have HIn := Lib.hid hins
      have HB := Lib.hid hbl
      clear hins hbl
      have HKr := Lib.hid (HK.out.next HB.out)
      clear HK x0 x1 x2 x3 x4
      have HK := HKr
      clear HKr
      have x0 := HK.out.box.c0; have x1 := HK.out.box.c1; have x2 := HK.out.box.c2; have x3 := HK.out.box.c3; have x4 := HK.out.box.c4
      cases gk with
      | zero =>
        have hjz : ¬ ((j : Int) < (n : Int)) := by omega
        have hjn : j = n := by omega
        obtain ⟨ZZ, hZZ⟩ : ∃ ZZ, List.replicate n (m : Int) = ZZ := ⟨_, rfl⟩
        have HZZ := Lib.hid hZZ
        have HI : Hid (Ru.Ins 2 wr w2.heap.size u0 ZZ) := by
          have h := HIn.out
          rw [hjn, hZZ] at h
          exact h
        clear hZZ
        obtain ⟨qz, cz, hu0⟩ := ins_form7 HI.out
        subst hu0
        have HU : Hid (RdN (w.heap.size + 2) wr (.slice qz ZZ.length cz) ZZ) := (ins_new HI.out).mono HZs.out
        clear HIn HI hjn HGet HIl HM HLl
        go_wp2_with (first | (go_at_call 67; (with_reducible refine (rfolded_any A _ ZZ qz cz _ (w.heap.size + 2) HK.out.rdn HU.out).mono ?_); rintro e w3 ⟨rfl, hu, hb⟩; have HR := Lib.hid hu; have hge := HK.out.bel.size; have HK2 := Lib.hid (HK.out.next hb); clear HK x0 x1 x2 x3 x4; have HK := HK2; clear HK2; have x0 := HK.out.box.c0; have x1 := HK.out.box.c1; have x2 := HK.out.box.c2; have x3 := HK.out.box.c3; have x4 := HK.out.box.c4; clear hu hb HU; have y0 := HK.out.res.c0; have y1 := HK.out.res.c1; have y2 := HK.out.res.c2; have y3 := HK.out.res.c3; have y4 := HK.out.res.c4; have f0 := HK.out.res.fr 0; have f1 := HK.out.res.fr 1; have f2 := HK.out.res.fr 2; have f3 := HK.out.res.fr 3; have f4 := HK.out.res.fr 4; have HS := Lib.hid (HK.out.res.set (ofR A ZZ).k (ofR A ZZ).r (ofR A ZZ).a (ofR A ZZ).b (.slice qz ZZ.length cz)); have z0 := HS.out.c0; have z1 := HS.out.c1; have z2 := HS.out.c2; have z3 := HS.out.c3; have z4 := HS.out.c4) | fail)
        refine bodyPost_ret (v := .tuple #[A5 (ofR A ZZ).k (ofR A ZZ).r (ofR A ZZ).a (ofR A ZZ).b (.slice qz ZZ.length cz), .int .i64 0]) (by simp [results, Tryd.results35, go_sem, z0, z1, z2, z3, z4]) rfl ?_
        rw [HZZ.out]
        exact ⟨_, rfl, by rw [ofR_z]; exact (HR.out.st5 (by omega) _ _ _ _ _).mono (by omega), st5_below _ _ _ _ _ (by omega) HK.out.bel⟩
      | succ g2 =>
        have hjz : (j : Int) < (n : Int) := by omega
        have hj : j < n := by omega
        have hjl : j < (rwL A).length := by rw [HLl.out]; exact hj
        have hw0 : IntKind.i64.wrap ((j : Int) + 1) = (j : Int) + 1 := by rw [IntKind.wrap_i64]; omega
        obtain ⟨b, capb, q, c, hue, hcl, hrd⟩ := (HM.out.next HS2.out HB.out).row hjl
        have HRd0 := Lib.hid hrd
        rw [HGet.out j hjl, HIl.out j hj] at hcl HRd0
        injection hue with e1 e2 e3
        subst e1
        clear hrd hjl e2 e3 HRd0 HM HGet HIl
        have HSn : Hid (List.replicate j (m : Int) ++ [(m : Int)] = List.replicate (j + 1) (m : Int)) := List.replicate_succ'.symm
        have hlt : (List.replicate j (m : Int)).length ≤ 400 := by rw [List.length_replicate]; omega
        have HBsz := Lib.hid HB.out.size
        have HB2 := HB
        have hb2s := HB.out.size
        go_wp2_with (at_builtin; refine wpList_app1 (by simp [Region.wanted]) _ _ rfl w2.heap.size _ _ rfl HIn.out (m : Int) rfl (by omega) hb2s ?_; intro u2 w4 hu2 hb2; rw [HSn.out] at hu2; have HU2 := Lib.hid hu2; have HB3 := Lib.hid (HB2.out.trans hb2); clear hu2 hb2)
        go_roundg g2
        case measure => omega
        case rel => exact ⟨j + 1, _, by omega, rfl, by go_num, HU2.out, HB3.out⟩
  · rw [orNo_no h1]
    generalize faE true A = E at HFa h1 ⊢
    have k1 : (E != 0) = true := by simpa using h1
    clear h1 hn hw
    obtain ⟨p0, cap, rfl, hcap, hcap2, hcell⟩ := hv
    clear hcell
    go_enter Tryd.func35, Tryd.ntmps35
    go_wp2_with (first | (go_at_call 64; (with_reducible refine (HFa.out _ HK.out.rdn).mono ?_); rintro e w1 ⟨rfl, hb⟩; have HK2 := Lib.hid (HK.out.next hb); clear HK x0 x1 x2 x3 x4; have HK := HK2; clear HK2; have x0 := HK.out.box.c0; have x1 := HK.out.box.c1; have x2 := HK.out.box.c2; have x3 := HK.out.box.c3; have x4 := HK.out.box.c4; clear hb; have y0 := HK.out.res.c0; have y1 := HK.out.res.c1; have y2 := HK.out.res.c2; have y3 := HK.out.res.c3; have y4 := HK.out.res.c4; have f0 := HK.out.res.fr 0; have f1 := HK.out.res.fr 1; have f2 := HK.out.res.fr 2; have f3 := HK.out.res.fr 3; have f4 := HK.out.res.fr 4; have HS := Lib.hid (HK.out.res.set 0 0 0 0 (.slice none 0 0)); have z0 := HS.out.c0; have z1 := HS.out.c1; have z2 := HS.out.c2; have z3 := HS.out.c3; have z4 := HS.out.c4) | fail)
    exact bodyPost_ret (v := .tuple #[A5 0 0 0 0 (.slice none 0 0), .int .i64 E]) (by simp [results, Tryd.results35, go_sem, z0, z1, z2, z3, z4]) rfl (retE_no _ (st5_below _ _ _ _ _ (by omega) HK.out.bel))

theorem en1_take {p : Int} {row : List Int} {t : Nat} (h1 : 1 ≤ t) (h : t < row.length) : en1 p (row.take (t + 1)) = mm p (en1 p (row.take t)) (row.getD t 0) := by
  cases row with
  | nil => simp at h
  | cons c l =>
    obtain ⟨s, rfl⟩ : ∃ s, t = s + 1 := ⟨t - 1, by omega⟩
    have hs : s < l.length := by simpa using h
    unfold en1
    simp only [List.take_succ_cons, List.tail_cons, List.headD_cons, List.getD_cons_succ]
    rw [← takeI_snoc hs, List.foldl_append]
    rfl
theorem en1_one {p : Int} {row : List Int} (h : 0 < row.length) : en1 p (row.take 1) = row.getD 0 0 := by
  cases row with
  | nil => simp at h
  | cons c l => simp [en1]
set_option maxRecDepth 100000 in
set_option maxHeartbeats 8000000 in
theorem rends_any {p : Int} (hp : p = 31 ∨ p = 32) (A : Ar) (v : Value) (w : World) (hw : Ru.Lay w) (hv : RdI w.heap.size w v A.z) (hn : Ru.NilC v) (hl : A.z.length ≤ 100000) (h64 : in64 A.z) :
    Calls Tryd.prog 72 #[A5 A.k A.r A.a A.b v, .int .i64 p] w (RetE (enV p A) (enE A) w) := by
  have HFa := Lib.hid (fun W h1 => asked_int A v W h1 hl)
  have HK := Lib.hid (MK1.new (A := A) hw hv)
  have x0 := HK.out.box.c0; have x1 := HK.out.box.c1; have x2 := HK.out.box.c2; have x3 := HK.out.box.c3; have x4 := HK.out.box.c4
  have HT : Hid (∀ (x c : Int) W, Sc.inr x = true → Sc.inr c = true → Calls Tryd.prog 78 #[.int .i64 p, .int .i64 x, .int .i64 c] W fun e w' => e = .returned (.tuple #[.int .i64 (mm p x c), .int .i64 0]) ∧ Below W.heap.size W w') := fun x c W hx hc => by
    have h := Sc.rtwo_any p x c W (inr_lo hx) (inr_hi hx) (inr_lo hc) (inr_hi hc)
    rw [mm_two hp] at h
    exact h
  have HMi : Hid (∀ x c : Int, Sc.inr x = true → Sc.inr c = true → Sc.inr (mm p x c) = true) := fun x c hx hc => by
    have h := st_mm hp x c hx hc
    rwa [mm_two hp] at h
  unfold enV
  by_cases h1 : faE (A.k == 1) A = 0
  · obtain ⟨hA, hk, hr⟩ := faE_ok h1
    clear hk
    have e0 : enE A = (if 0 < rwN A ∧ rwM A = 0 then 13 else 0) := if_pos h1
    rw [e0]
    rw [h1] at HFa
    have HRw : Hid (∀ W, w.heap.size ≤ W.heap.size → RdI w.heap.size W v A.z → Calls Tryd.prog 65 #[A5 A.k A.r A.a A.b v] W fun e w' => ∃ u, e = .returned u ∧ Go.Proofs.YtokmdgiialcokaaDoor.RW w.heap.size W.heap.size w'.heap.size w' u (rwL A) ∧ Below W.heap.size W w') := fun W h1 h2 => rrows11_any w.heap.size A v W hA hr h1 h2 hn
    obtain ⟨_, _, r2, r3, r4⟩ := rw_good (ck_good hA)
    have HLl : Hid ((rwL A).length = rwN A) := rwL_len hA
    have HGet : Hid (∀ j (hj : j < (rwL A).length), (rwL A)[j] = rwI A j) := fun j hj => rwL_get hA j hj
    have HIl : Hid (∀ j, j < rwN A → (rwI A j).length = rwM A) := fun j hj => rwI_len (ck_good hA) hj
    have HI64r : Hid (∀ j, in64 (rwI A j)) := fun j => h64.row j
    obtain ⟨n, hn'⟩ : ∃ n, rwN A = n := ⟨_, rfl⟩
    obtain ⟨m, hm'⟩ : ∃ m, rwM A = m := ⟨_, rfl⟩
    rw [hn'] at r3 HLl HIl ⊢
    rw [hm'] at r4 HIl ⊢
    clear hn' hm' h1 hA hr hn h64 hw r2 hp e0
    obtain ⟨p0, cap, rfl, hcap, hcap2, hcell⟩ := hv
    clear hcell
    by_cases hz : 0 < n ∧ m = 0
    · obtain ⟨hn0, rfl⟩ := hz
      rw [if_pos ⟨hn0, rfl⟩, orNo_no (by decide)]
      go_enter Tryd.func72, Tryd.ntmps72
      go_wp2_with (first | (go_at_call 64; (with_reducible refine (HFa.out _ HK.out.rdn).mono ?_); rintro e w1 ⟨rfl, hb⟩; have HK2 := Lib.hid (HK.out.next hb); clear HK x0 x1 x2 x3 x4; have HK := HK2; clear HK2; have x0 := HK.out.box.c0; have x1 := HK.out.box.c1; have x2 := HK.out.box.c2; have x3 := HK.out.box.c3; have x4 := HK.out.box.c4; clear hb) | (go_at_call 65; (with_reducible refine (HRw.out _ (by have := HK.out.sz; omega) HK.out.rd).mono ?_); rintro e w2 ⟨ul, rfl, hrw, hb⟩; obtain ⟨ua, uc, hul⟩ := hrw.form; rw [HLl.out] at hul; subst hul; have HM := Lib.hid hrw; have hsz1 := HK.out.sz; have HK2 := Lib.hid (HK.out.next hb); clear HK x0 x1 x2 x3 x4; have HK := HK2; clear HK2; have x0 := HK.out.box.c0; have x1 := HK.out.box.c1; have x2 := HK.out.box.c2; have x3 := HK.out.box.c3; have x4 := HK.out.box.c4; clear hb hrw) | fail)
      clear HFa HRw
      have HS2 := Lib.hid HK.out.bel.size
      have HZs : Hid (w.heap.size + 2 ≤ w2.heap.size) := HK.out.sz
      have hjl : 0 < (rwL A).length := by rw [HLl.out]; exact hn0
      obtain ⟨b, capb, q, c, hue, hcl, hrd⟩ := HM.out.row hjl
      rw [HGet.out 0 hjl, HIl.out 0 hn0] at hcl
      injection hue with e1 e2 e3
      subst e1
      clear hrd hjl e2 e3 HM HGet HIl
      have hjz : (0 : Int) < (n : Int) := by omega
      refine wp_loop_rounds 4 ?_
      rw [rounds_succ]
      have y0 := HK.out.res.c0; have y1 := HK.out.res.c1; have y2 := HK.out.res.c2; have y3 := HK.out.res.c3; have y4 := HK.out.res.c4; have f0 := HK.out.res.fr 0; have f1 := HK.out.res.fr 1; have f2 := HK.out.res.fr 2; have f3 := HK.out.res.fr 3; have f4 := HK.out.res.fr 4; have HS := Lib.hid (HK.out.res.set 0 0 0 0 (.slice none 0 0)); have z0 := HS.out.c0; have z1 := HS.out.c1; have z2 := HS.out.c2; have z3 := HS.out.c3; have z4 := HS.out.c4
      go_wp2_with fail
      exact bodyPost_ret (v := .tuple #[A5 0 0 0 0 (.slice none 0 0), .int .i64 13]) (by simp [results, Tryd.results72, go_sem, z0, z1, z2, z3, z4]) rfl (retE_no _ (st5_below _ _ _ _ _ (by omega) HK.out.bel))
    · rw [if_neg hz, orNo_yes rfl]
      have HSn : Hid (∀ j, j < n → ((rwL A).take j).map (en1 p) ++ [en1 p (rwI A j)] = ((rwL A).take (j + 1)).map (en1 p)) := fun j hj => by
        have hjl : j < (rwL A).length := by rw [HLl.out]; exact hj
        rw [List.take_succ_eq_append_getElem hjl, HGet.out j hjl, List.map_append]; rfl
      go_enter Tryd.func72, Tryd.ntmps72
      go_wp2_with (first | (go_at_call 64; (with_reducible refine (HFa.out _ HK.out.rdn).mono ?_); rintro e w1 ⟨rfl, hb⟩; have HK2 := Lib.hid (HK.out.next hb); clear HK x0 x1 x2 x3 x4; have HK := HK2; clear HK2; have x0 := HK.out.box.c0; have x1 := HK.out.box.c1; have x2 := HK.out.box.c2; have x3 := HK.out.box.c3; have x4 := HK.out.box.c4; clear hb) | (go_at_call 65; (with_reducible refine (HRw.out _ (by have := HK.out.sz; omega) HK.out.rd).mono ?_); rintro e w2 ⟨ul, rfl, hrw, hb⟩; obtain ⟨ua, uc, hul⟩ := hrw.form; rw [HLl.out] at hul; subst hul; have HM := Lib.hid hrw; have hsz1 := HK.out.sz; have HK2 := Lib.hid (HK.out.next hb); clear HK x0 x1 x2 x3 x4; have HK := HK2; clear HK2; have x0 := HK.out.box.c0; have x1 := HK.out.box.c1; have x2 := HK.out.box.c2; have x3 := HK.out.box.c3; have x4 := HK.out.box.c4; clear hb hrw) | fail)
      clear HFa HRw
      have HS2 := Lib.hid HK.out.bel.size
      have HZs : Hid (w.heap.size + 2 ≤ w2.heap.size) := HK.out.sz
      go_loopg [7, 9] n (fun gk u i wr => ∃ (j : Nat) (U : Value), j + gk = n ∧ U = u ∧ i = .int .i64 j ∧ Ru.Ins 2 wr w2.heap.size U (((rwL A).take j).map (en1 p)) ∧ Below w2.heap.size w2 wr)
      case atStart => exact ⟨0, _, by omega, rfl, rfl, ins_nil _ _, Below.refl _ _⟩
      case round =>
        obtain ⟨j, u0, hjg, rfl, rfl, hins, hbl⟩ := hrel
        obtain ⟨wo, rfl⟩ : ∃ wo, wo = wr := ⟨_, rfl⟩
        have HIn := Lib.hid hins
        have HB := Lib.hid hbl
        clear hins hbl
        have HKr := Lib.hid (HK.out.next HB.out)
        clear HK x0 x1 x2 x3 x4
        have HK := HKr
        clear HKr
        have x0 := HK.out.box.c0; have x1 := HK.out.box.c1; have x2 := HK.out.box.c2; have x3 := HK.out.box.c3; have x4 := HK.out.box.c4
        cases gk with
        | zero =>
          have hjz : ¬ ((j : Int) < (n : Int)) := by omega
          have hjn : j = n := by omega
          obtain ⟨ZZ, hZZ⟩ : ∃ ZZ, (rwL A).map (en1 p) = ZZ := ⟨_, rfl⟩
          have HZZ := Lib.hid hZZ
          have HI : Hid (Ru.Ins 2 wo w2.heap.size u0 ZZ) := by
            have h := HIn.out
            rw [List.take_of_length_le (by rw [HLl.out]; omega), hZZ] at h
            exact h
          clear hZZ
          obtain ⟨qz, cz, hu0⟩ := ins_form7 HI.out
          subst hu0
          have HU : Hid (RdN (w.heap.size + 2) wo (.slice qz ZZ.length cz) ZZ) := (ins_new HI.out).mono HZs.out
          clear HIn HI hjn HGet HIl HM HLl HSn HT HMi hz
          go_wp2_with (first | (go_at_call 67; (with_reducible refine (rfolded_any A _ ZZ qz cz _ (w.heap.size + 2) HK.out.rdn HU.out).mono ?_); rintro e w3 ⟨rfl, hu, hb⟩; have HR := Lib.hid hu; have hge := HK.out.bel.size; have HK2 := Lib.hid (HK.out.next hb); clear HK x0 x1 x2 x3 x4; have HK := HK2; clear HK2; have x0 := HK.out.box.c0; have x1 := HK.out.box.c1; have x2 := HK.out.box.c2; have x3 := HK.out.box.c3; have x4 := HK.out.box.c4; clear hu hb HU; have y0 := HK.out.res.c0; have y1 := HK.out.res.c1; have y2 := HK.out.res.c2; have y3 := HK.out.res.c3; have y4 := HK.out.res.c4; have f0 := HK.out.res.fr 0; have f1 := HK.out.res.fr 1; have f2 := HK.out.res.fr 2; have f3 := HK.out.res.fr 3; have f4 := HK.out.res.fr 4; have HS := Lib.hid (HK.out.res.set (ofR A ZZ).k (ofR A ZZ).r (ofR A ZZ).a (ofR A ZZ).b (.slice qz ZZ.length cz)); have z0 := HS.out.c0; have z1 := HS.out.c1; have z2 := HS.out.c2; have z3 := HS.out.c3; have z4 := HS.out.c4) | fail)
          refine bodyPost_ret (v := .tuple #[A5 (ofR A ZZ).k (ofR A ZZ).r (ofR A ZZ).a (ofR A ZZ).b (.slice qz ZZ.length cz), .int .i64 0]) (by simp [results, Tryd.results72, go_sem, z0, z1, z2, z3, z4]) rfl ?_
          rw [HZZ.out]
          exact ⟨_, rfl, by rw [ofR_z]; exact (HR.out.st5 (by omega) _ _ _ _ _).mono (by omega), st5_below _ _ _ _ _ (by omega) HK.out.bel⟩
        | succ g2 =>
          have hjz : (j : Int) < (n : Int) := by omega
          have hj : j < n := by omega
          have hjl : j < (rwL A).length := by rw [HLl.out]; exact hj
          have hw0 : IntKind.i64.wrap ((j : Int) + 1) = (j : Int) + 1 := by rw [IntKind.wrap_i64]; omega
          obtain ⟨b, capb, q, c, hue, hcl, hrd⟩ := (HM.out.next HS2.out HB.out).row hjl
          have HRd0 := Lib.hid hrd
          rw [HGet.out j hjl, HIl.out j hj] at hcl HRd0
          injection hue with e1 e2 e3
          subst e1
          have hm0 : ¬ m = 0 := fun e => hz ⟨by omega, e⟩
          have k3 : ((m : Int) == 0) = false := by rw [beq_eq_false_iff_ne]; omega
          have hm1 : 1 ≤ m := by omega
          have hSnj := HSn.out j hj
          have hIl := HIl.out j hj
          have HI6 := Lib.hid (HI64r.out j)
          clear hrd hjl e2 e3 HM HGet HIl HI64r HSn hz hm0
          generalize rwI A j = row at HRd0 hIl HI6 hSnj
          have HIlr := Lib.hid hIl
          have HSnj := Lib.hid hSnj
          clear hIl hSnj
          obtain ⟨bk, off, hqe, hbk, hcs⟩ := HRd0.out.cells (by intro e; have := HIlr.out; rw [e] at this; simp at this; omega)
          subst hqe
          have HCs : Hid (∀ t, t < m → wo.cell? ⟨bk, off + t, none⟩ = some (.int .i64 (row.getD t 0))) := fun t ht => by rw [hcs t (by rw [HIlr.out]; exact ht), List.getD_eq_getElem?_getD, List.getElem?_eq_getElem (by rw [HIlr.out]; exact ht)]; rfl
          have hc0 := HCs.out 0 hm1
          rw [Nat.add_zero] at hc0
          clear hcs HRd0
          have HBs := Lib.hid HB.out.size
          have hbk2 : bk < wo.heap.size := Nat.lt_of_lt_of_le hbk (by have := HK.out.bel.size; omega)
          have hbw : b < wo.heap.size := World.block_lt_of_cell? wo _ hcl
          have HCl := Lib.hid hcl
          go_wp2_with fail
          clear hc0 x0 x1 x2 x3 x4 hcl
          obtain ⟨mp, hmp⟩ : ∃ mp, m = mp + 1 := ⟨m - 1, by omega⟩
          go_loopg [10, 11] mp (fun gk c i wt => ∃ (t : Nat) (x : Int), t + gk = m ∧ 1 ≤ t ∧ c = .int .i64 x ∧ i = .int .i64 t ∧ x = en1 p (row.take t) ∧ Sc.inr x = true ∧ Below wo.heap.size wo wt)
          case atStart => exact ⟨1, _, by omega, by omega, rfl, rfl, (en1_one (by rw [HIlr.out]; omega)).symm, HI6.out.get 0, Below.refl _ _⟩
          case round =>
            obtain ⟨t, x, htg, ht1, rfl, rfl, hx, hxi, hbt⟩ := hrel
            have HX := Lib.hid hx
            have HXi := Lib.hid hxi
            have HBt := Lib.hid hbt
            clear hx hxi hbt
            have hcl : wr.cell? ⟨b, j, none⟩ = some (.slice (some ⟨bk, off, none⟩) m c) := (HBt.out.cell (p := ⟨b, j, none⟩) hbw).trans HCl.out
            cases gk with
            | zero =>
              have htz : ¬ ((t : Int) < (m : Int)) := by omega
              have htk : row.take t = row := List.take_of_length_le (by rw [HIlr.out]; omega)
              have HX2 : Hid (x = en1 p row) := by have h := HX.out; rw [htk] at h; exact h
              have HIn2 := Lib.hid (ins_next7 HIn.out HBt.out)
              have HB2 := Lib.hid (HB.out.trans (HBt.out.mono HB.out.size))
              have hb2s := HB2.out.size
              have hlt : (((rwL A).take j).map (en1 p)).length ≤ 400 := by rw [List.length_map, List.length_take]; omega
              clear htk HX HXi HIn HBt HCs HT HMi HI6 hmp
              go_wp2_with (at_builtin; refine wpList_app1 (by simp [Region.wanted]) _ _ rfl w2.heap.size _ _ rfl HIn2.out x rfl (by omega) hb2s ?_; intro u2 w4 hu2 hb2; rw [HX2.out, HSnj.out] at hu2; have HU2 := Lib.hid hu2; have HB3 := Lib.hid (HB2.out.trans hb2); clear hu2 hb2)
              go_roundg g2
              case measure => omega
              case rel => exact ⟨j + 1, _, by omega, rfl, by go_num, HU2.out, HB3.out⟩
            | succ g3 =>
              have htz : (t : Int) < (m : Int) := by omega
              have ht : t < m := by omega
              have hw1 : IntKind.i64.wrap ((t : Int) + 1) = (t : Int) + 1 := by rw [IntKind.wrap_i64]; omega
              have hct : wr.cell? ⟨bk, off + t, none⟩ = some (.int .i64 (row.getD t 0)) := (HBt.out.cell (p := ⟨bk, off + t, none⟩) hbk2).trans (HCs.out t ht)
              have hic : Sc.inr (row.getD t 0) = true := HI6.out.get t
              have HTc := Lib.hid (fun W => HT.out x (row.getD t 0) W HXi.out hic)
              have HIx := Lib.hid (HMi.out x (row.getD t 0) HXi.out hic)
              have HXn : Hid (mm p x (row.getD t 0) = en1 p (row.take (t + 1))) := by unfold Hid; rw [en1_take ht1 (by rw [HIlr.out]; exact ht), ← HX.out]
              clear hic HX HXi HCs HT HMi HI6 hmp
              generalize row.getD t 0 = cc at hct HTc HIx HXn
              generalize mm p x cc = x2 at HTc HIx HXn
              go_wp2_with (first | (go_at_call 78; (with_reducible refine (HTc.out _).mono ?_); rintro e w4 ⟨rfl, hb⟩; have HB4 := Lib.hid (HBt.out.trans (hb.mono HBt.out.size)); clear hb) | fail)
              go_roundg g3
              case measure => omega
              case rel => exact ⟨t + 1, x2, by omega, by omega, rfl, by go_num, HXn.out, HIx.out, HB4.out⟩
  · have e : enE A = faE (A.k == 1) A := if_neg h1
    rw [e, orNo_no h1]
    generalize faE (A.k == 1) A = E at HFa h1 ⊢
    have k1 : (E != 0) = true := by simpa using h1
    clear h1 e hn h64 hw
    obtain ⟨p0, cap, rfl, hcap, hcap2, hcell⟩ := hv
    clear hcell
    go_enter Tryd.func72, Tryd.ntmps72
    go_wp2_with (first | (go_at_call 64; (with_reducible refine (HFa.out _ HK.out.rdn).mono ?_); rintro e w1 ⟨rfl, hb⟩; have HK2 := Lib.hid (HK.out.next hb); clear HK x0 x1 x2 x3 x4; have HK := HK2; clear HK2; have x0 := HK.out.box.c0; have x1 := HK.out.box.c1; have x2 := HK.out.box.c2; have x3 := HK.out.box.c3; have x4 := HK.out.box.c4; clear hb; have y0 := HK.out.res.c0; have y1 := HK.out.res.c1; have y2 := HK.out.res.c2; have y3 := HK.out.res.c3; have y4 := HK.out.res.c4; have f0 := HK.out.res.fr 0; have f1 := HK.out.res.fr 1; have f2 := HK.out.res.fr 2; have f3 := HK.out.res.fr 3; have f4 := HK.out.res.fr 4; have HS := Lib.hid (HK.out.res.set 0 0 0 0 (.slice none 0 0)); have z0 := HS.out.c0; have z1 := HS.out.c1; have z2 := HS.out.c2; have z3 := HS.out.c3; have z4 := HS.out.c4) | fail)
    exact bodyPost_ret (v := .tuple #[A5 0 0 0 0 (.slice none 0 0), .int .i64 E]) (by simp [results, Tryd.results72, go_sem, z0, z1, z2, z3, z4]) rfl (retE_no _ (st5_below _ _ _ _ _ (by omega) HK.out.bel))

set_option maxRecDepth 100000 in
set_option maxHeartbeats 8000000 in
theorem rleast_any (A : Ar) (v : Value) (w : World) (hw : Ru.Lay w) (hv : RdI w.heap.size w v A.z) (hn : Ru.NilC v) (hl : A.z.length ≤ 100000) (h64 : in64 A.z) :
    Calls Tryd.prog 31 #[A5 A.k A.r A.a A.b v] w (RetE (enV 31 A) (enE A) w) := by
  have HPr : Hid (∀ W, Ru.Lay W → RdI W.heap.size W v A.z → Calls Tryd.prog 72 #[A5 A.k A.r A.a A.b v, .int .i64 31] W (RetE (enV 31 A) (enE A) W)) := fun W h2 h3 => rends_any (p := 31) (by omega) A v W h2 h3 hn hl h64
  have HK := Lib.hid (MK1.new (A := A) hw hv)
  have x0 := HK.out.box.c0; have x1 := HK.out.box.c1; have x2 := HK.out.box.c2; have x3 := HK.out.box.c3; have x4 := HK.out.box.c4
  generalize enV 31 A = R at HPr ⊢
  generalize enE A = E at HPr ⊢
  clear hn h64 hw
  obtain ⟨p0, cap, rfl, hcap, hcap2, hcell⟩ := hv
  clear hcell
  obtain ⟨R1, R2, R3, R4, rz⟩ := R
  go_enter Tryd.func31, Tryd.ntmps31
  go_wp2_with (first
    | (go_at_call 72; (with_reducible refine (HPr.out _ HK.out.lay HK.out.rdn).mono ?_); intro e w2 hret; obtain ⟨q, qc, rfl, hu, hb⟩ := hret.lit; have HR := Lib.hid hu; have hlt := HK.out.res.lt; have hge := HK.out.bel.size; have HK2 := Lib.hid (HK.out.next hb); clear HK x0 x1 x2 x3 x4; have HK := HK2; clear HK2; have x0 := HK.out.box.c0; have x1 := HK.out.box.c1; have x2 := HK.out.box.c2; have x3 := HK.out.box.c3; have x4 := HK.out.box.c4; clear hu hb hret; have y0 := HK.out.res.c0; have y1 := HK.out.res.c1; have y2 := HK.out.res.c2; have y3 := HK.out.res.c3; have y4 := HK.out.res.c4; have f0 := HK.out.res.fr 0; have f1 := HK.out.res.fr 1; have f2 := HK.out.res.fr 2; have f3 := HK.out.res.fr 3; have f4 := HK.out.res.fr 4; have HS := Lib.hid (HK.out.res.set R1 R2 R3 R4 (.slice q rz.length qc)); have z0 := HS.out.c0; have z1 := HS.out.c1; have z2 := HS.out.c2; have z3 := HS.out.c3; have z4 := HS.out.c4)
    | fail)
  refine bodyPost_ret (v := .tuple #[A5 R1 R2 R3 R4 (.slice q rz.length qc), .int .i64 E]) (by simp [results, Tryd.results31, go_sem, z0, z1, z2, z3, z4]) rfl ?_
  exact ⟨_, rfl, (HR.out.st5 (by omega) _ _ _ _ _).mono (by omega), st5_below _ _ _ _ _ (by omega) HK.out.bel⟩

set_option maxRecDepth 100000 in
set_option maxHeartbeats 8000000 in
theorem rmost_any (A : Ar) (v : Value) (w : World) (hw : Ru.Lay w) (hv : RdI w.heap.size w v A.z) (hn : Ru.NilC v) (hl : A.z.length ≤ 100000) (h64 : in64 A.z) :
    Calls Tryd.prog 33 #[A5 A.k A.r A.a A.b v] w (RetE (enV 32 A) (enE A) w) := by
  have HPr : Hid (∀ W, Ru.Lay W → RdI W.heap.size W v A.z → Calls Tryd.prog 72 #[A5 A.k A.r A.a A.b v, .int .i64 32] W (RetE (enV 32 A) (enE A) W)) := fun W h2 h3 => rends_any (p := 32) (by omega) A v W h2 h3 hn hl h64
  have HK := Lib.hid (MK1.new (A := A) hw hv)
  have x0 := HK.out.box.c0; have x1 := HK.out.box.c1; have x2 := HK.out.box.c2; have x3 := HK.out.box.c3; have x4 := HK.out.box.c4
  generalize enV 32 A = R at HPr ⊢
  generalize enE A = E at HPr ⊢
  clear hn h64 hw
  obtain ⟨p0, cap, rfl, hcap, hcap2, hcell⟩ := hv
  clear hcell
  obtain ⟨R1, R2, R3, R4, rz⟩ := R
  go_enter Tryd.func33, Tryd.ntmps33
  go_wp2_with (first
    | (go_at_call 72; (with_reducible refine (HPr.out _ HK.out.lay HK.out.rdn).mono ?_); intro e w2 hret; obtain ⟨q, qc, rfl, hu, hb⟩ := hret.lit; have HR := Lib.hid hu; have hlt := HK.out.res.lt; have hge := HK.out.bel.size; have HK2 := Lib.hid (HK.out.next hb); clear HK x0 x1 x2 x3 x4; have HK := HK2; clear HK2; have x0 := HK.out.box.c0; have x1 := HK.out.box.c1; have x2 := HK.out.box.c2; have x3 := HK.out.box.c3; have x4 := HK.out.box.c4; clear hu hb hret; have y0 := HK.out.res.c0; have y1 := HK.out.res.c1; have y2 := HK.out.res.c2; have y3 := HK.out.res.c3; have y4 := HK.out.res.c4; have f0 := HK.out.res.fr 0; have f1 := HK.out.res.fr 1; have f2 := HK.out.res.fr 2; have f3 := HK.out.res.fr 3; have f4 := HK.out.res.fr 4; have HS := Lib.hid (HK.out.res.set R1 R2 R3 R4 (.slice q rz.length qc)); have z0 := HS.out.c0; have z1 := HS.out.c1; have z2 := HS.out.c2; have z3 := HS.out.c3; have z4 := HS.out.c4)
    | fail)
  refine bodyPost_ret (v := .tuple #[A5 R1 R2 R3 R4 (.slice q rz.length qc), .int .i64 E]) (by simp [results, Tryd.results33, go_sem, z0, z1, z2, z3, z4]) rfl ?_
  exact ⟨_, rfl, (HR.out.st5 (by omega) _ _ _ _ _).mono (by omega), st5_below _ _ _ _ _ (by omega) HK.out.bel⟩
end Go.Proofs.YtokmdgiialcokaaDoor
