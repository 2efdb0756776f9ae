/- fold of sums on the way; Scan of the code. -/
import Derived.Test.YtokmdgiialcokaaDoorFoE
namespace Go.Proofs.YtokmdgiialcokaaDoor
open Go.RowKit

/-- One more cell, when all sums up to it are numbers. -/
theorem take_sum {row : List Int} {t : Nat} (h : t < row.length) : (row.take (t + 1)).sum = (row.take t).sum + row.getD t 0 := by
  rw [← takeI_snoc h, List.sum_append]; simp
theorem take_okS {row : List Int} {t : Nat} (h : t < row.length) (h1 : okS 0 (row.take t) = true) (h2 : Sc.inr ((row.take t).sum + row.getD t 0) = true) : okS 0 (row.take (t + 1)) = true := by
  rw [← takeI_snoc h, okS_app, h1, Int.zero_add]
  show (Sc.inr _ && okS _ []) = true
  rw [h2]; rfl
theorem take_scL {row : List Int} {t : Nat} (h : t < row.length) : scL 0 (row.take t) ++ [(row.take t).sum + row.getD t 0] = scL 0 (row.take (t + 1)) := by
  rw [← takeI_snoc h, scL_snoc, Int.zero_add]
theorem take_bad {row : List Int} {t : Nat} (h : t < row.length) (h2 : ¬ Sc.inr ((row.take t).sum + row.getD t 0) = true) : sm1 row = (0, 12) := by
  have e : okS 0 row = false := by
    have e1 : row = row.take (t + 1) ++ row.drop (t + 1) := (List.take_append_drop _ _).symm
    rw [e1, ← takeI_snoc h, okS_app, okS_app, Int.zero_add]
    show ((_ && (Sc.inr _ && okS _ [])) && _) = false
    rw [show Sc.inr ((row.take t).sum + row.getD t 0) = false by simpa using h2]
    simp
  unfold sm1; rw [e]; rfl
theorem sm1_yes {row : List Int} (h : okS 0 row = true) : sm1 row = (row.sum, 0) := if_pos h
theorem inr0 : Sc.inr 0 = true := by decide
theorem okS_inr {row : List Int} {t : Nat} (h : t ≤ row.length) (h1 : okS 0 (row.take t) = true) : Sc.inr (row.take t).sum = true := by
  cases t with
  | zero => simpa using inr0
  | succ t =>
    rw [← takeI_snoc (by omega), okS_app, Int.zero_add] at h1
    have h2 := (Bool.and_eq_true_iff.1 h1).2
    have h3 : (Sc.inr ((row.take t).sum + row.getD t 0) && okS _ []) = true := h2
    rw [take_sum (by omega)]
    exact (Bool.and_eq_true_iff.1 h3).1
set_option maxRecDepth 100000 in
set_option maxHeartbeats 8000000 in
theorem folds_any (A : Ar) (v : Value) (w : World) (hA : ck A = 0) (hr : A.r = 1 ∨ A.r = 2) (hv : RdI w.heap.size w v A.z) (hn : Ru.NilC v) (h64 : in64 A.z) :
    Calls Tryd.prog 68 #[A5 A.k A.r A.a A.b v, .agg #[.int .i64 0, .slice none 0 0], .func (.func 69) #[] #[]] w fun e w' => (∃ u, e = .returned (.tuple #[u, .int .i64 (feL ((rwL A).map sm1))]) ∧ (feL ((rwL A).map sm1) = 0 → MS w' w.heap.size u ((rwL A).map (scL 0)))) ∧ Below w.heap.size w w' := by
  obtain ⟨_, _, r2, r3, r4⟩ := rw_good (ck_good hA)
  obtain ⟨p0, cap, rfl, hrw⟩ := frows_any A v w (ck_good hA) hr hv hn
  have HRw := Lib.hid hrw
  have HV := Lib.hid hv
  have HLen : Hid (((rwL A).map sm1).length = rwN A) := sm_len hA
  have HLen2 : Hid (((rwL A).map (scL 0)).length = rwN A) := by unfold Hid; rw [List.length_map, rwL_len hA]
  have HAt : Hid (∀ i, i < rwN A → ((rwL A).map sm1)[i]? = some (sm1 (rwI A i))) := fun i hi => by
    have h1 : i < (rwL A).length := by rw [rwL_len hA]; exact hi
    rw [List.getElem?_map, List.getElem?_eq_getElem h1, rwL_get hA]; rfl
  have HSn : Hid (∀ i, i < rwN A → ((rwL A).map (scL 0)).take i ++ [scL 0 (rwI A i)] = ((rwL A).map (scL 0)).take (i + 1)) := fun i hi => by
    have h1 : i < (rwL A).length := by rw [rwL_len hA]; exact hi
    rw [List.take_succ_eq_append_getElem (by rw [List.length_map]; exact h1), List.getElem_map, rwL_get hA]
  have HRp : Hid (∀ (w' : World) (j : Nat), RdI w.heap.size w' (.slice p0 A.z.length cap) A.z → j < rwN A → ∃ q, rp p0 (rwM A) j = .slice q (rwM A) (rwM A) ∧ ∀ t, t < rwM A → ∃ bk off, q = some ⟨bk, off, none⟩ ∧ bk < w.heap.size ∧ w'.cell? ⟨bk, off + t, none⟩ = some (.int .i64 ((rwI A j).getD t 0))) := fun w' j h hj => frp_rd hA h hj
  have HIl : Hid (∀ j, j < rwN A → (rwI A j).length = rwM A) := fun j hj => rwI_len (ck_good hA) hj
  have HI64r : Hid (∀ j, in64 (rwI A j)) := fun j => h64.row j
  have HK0 := Lib.hid (KE.new w A (.slice p0 A.z.length cap))
  have hks0 : (w.alloc (.cells #[.int .i64 A.k, .int .i64 A.r, .int .i64 A.a, .int .i64 A.b, .slice p0 A.z.length cap] 25)).heap.size = w.heap.size + 1 := by simp
  have HK := Lib.hid (HK0.out.next (bel1 _ (.cells #[.int .i64 0, .slice none 0 0] 80)))
  have HZb0 : Hid (S2 ((w.alloc (.cells #[.int .i64 A.k, .int .i64 A.r, .int .i64 A.a, .int .i64 A.b, .slice p0 A.z.length cap] 25)).alloc (.cells #[.int .i64 0, .slice none 0 0] 80)) (w.heap.size + 1) 0 (.slice none 0 0)) := by
    unfold Hid; rw [← hks0]; exact S2.new _ _ _
  have x0 := HK.out.blk.c0; have x1 := HK.out.blk.c1; have x2 := HK.out.blk.c2; have x3 := HK.out.blk.c3; have x4 := HK.out.blk.c4
  clear hrw hv hn hA hr r2 h64 HK0 hks0
  obtain ⟨n, hn⟩ : ∃ n, rwN A = n := ⟨_, rfl⟩
  obtain ⟨m, hm⟩ : ∃ m, rwM A = m := ⟨_, rfl⟩
  rw [hn] at r3 HRw HLen HLen2 HAt HSn HRp HIl
  rw [hm] at r4 HRw HRp HIl
  clear hn hm
  generalize (rwL A).map sm1 = cs at HLen HAt ⊢
  generalize (rwL A).map (scL 0) = LL at HLen2 HSn ⊢
  go_enter Tryd.func68, Tryd.ntmps68
  go_wp2_with (first | (go_at_call 86; (with_reducible refine (HRw.out _).mono ?_); rintro e w1 ⟨h, rfl, hh, hrow, hb⟩; have HB1 := Lib.hid (HK.out.bel.trans (hb.mono HK.out.bel.size)); have HZb := Lib.hid (HZb0.out.next hb); have HRow := Lib.hid hrow; have HV1 := Lib.hid (HV.out.below HB1.out); have hh1 : h < w1.heap.size := hrow.lt; clear hrow hb hh HK HV HRw HZb0 x0 x1 x2 x3 x4) | fail)
  go_loopg [8, 18] n (fun gk u i wr => ∃ (j : Nat) (U : Value), j + gk = n ∧ U = u ∧ i = .int .i64 j ∧ okT cs j ∧ MS wr w1.heap.size U (LL.take j) ∧ Below w1.heap.size w1 wr)
  case atStart => exact ⟨0, _, by omega, rfl, rfl, okT_zero _, MS.nil _ _, Below.refl _ _⟩
  case round =>
    obtain ⟨j, u0, hjg, rfl, rfl, hok, hins, hbl⟩ := hrel
    obtain ⟨wo, rfl⟩ : ∃ wo, wo = wr := ⟨_, rfl⟩
    have HOk := Lib.hid hok
    have HIn := Lib.hid hins
    have HB := Lib.hid hbl
    clear hok hins hbl
    cases gk with
    | zero =>
      have hjz : ¬ ((j : Int) < (n : Int)) := by omega
      have hjn : j = n := by omega
      have HF : Hid (feL cs = 0) := by
        have h := HOk.out
        rw [hjn] at h
        exact okT_all h HLen.out
      have HR : Hid (MS wo w.heap.size u0 LL) := by
        have h := HIn.out
        rw [hjn, List.take_of_length_le (by rw [HLen2.out]; exact Nat.le_refl _)] at h
        exact h.mono HB1.out.size
      have HE := Lib.hid (HB1.out.trans (HB.out.mono HB1.out.size))
      clear HAt HRp HIl HRow HV1 HOk HIn hjn HSn HI64r HZb
      go_wp2
      go_ret2
      exact ⟨⟨_, by rw [HF.out]; rfl, fun _ => HR.out⟩, HE.out⟩
    | succ g2 =>
      have hjz : (j : Int) < (n : Int) := by omega
      have hj : j < n := by omega
      have hBs := HB.out.size
      have HBa : Hid (Below w.heap.size w wo) := HB1.out.trans (HB.out.mono HB1.out.size)
      have HVr : Hid (RdI w.heap.size wo (.slice p0 A.z.length cap) A.z) := HV1.out.below (HB.out.mono HB1.out.size)
      obtain ⟨q, hq, hcell⟩ := HRp.out wo j HVr.out hj
      have HCell := Lib.hid hcell
      have x0 : wo.cell? ⟨h, j, none⟩ = some (.slice q m m) := by rw [(HRow.out.of_block (HB.out.block h hh1)).cell hj, hq]
      have HAj := Lib.hid (HAt.out j hj)
      have HSj := Lib.hid (HSn.out j hj)
      have hIl := HIl.out j hj
      have HI6 := Lib.hid (HI64r.out j)
      generalize rwI A j = row at HCell HAj hIl HI6 HSj
      have HIlr := Lib.hid hIl
      clear HRp HIl HVr hq hcell HAt hIl HI64r HSn
      have hw0 : IntKind.i64.wrap ((j : Int) + 1) = (j : Int) + 1 := by rw [IntKind.wrap_i64]; omega
      have HZo := Lib.hid (HZb.out.next HB.out)
      have z0 := HZo.out.c0
      have z1 := HZo.out.c1
      go_wp2_with fail
      clear x0 z0 z1 HZo
      go_loopg [25] m (fun gk i wt => ∃ (t : Nat) (qa : Option Addr) (ca : Nat), t + gk = m ∧ i = .int .i64 t ∧ okS 0 (row.take t) = true ∧ S2 wt wo.heap.size (row.take t).sum (.slice qa t ca) ∧ Ru.Ins 2 wt (wo.heap.size + 1) (.slice qa t ca) (scL 0 (row.take t)) ∧ Below wo.heap.size wo wt)
      case atStart => exact ⟨0, none, 0, by omega, rfl, rfl, S2.new _ _ _, ins_nil _ _, bel1 _ _⟩
      case round =>
        obtain ⟨t, qa, ca, htg, rfl, hoks, hbx, hins, hbt⟩ := hrel
        have HOs := Lib.hid hoks
        have HBx := Lib.hid hbx
        have HIw := Lib.hid hins
        have HBt := Lib.hid hbt
        clear hoks hbx hins hbt
        have x0 := HBx.out.c0
        have x1 := HBx.out.c1
        cases gk with
        | zero =>
          have htz : ¬ ((t : Int) < (m : Int)) := by omega
          have htk : row.take t = row := List.take_of_length_le (by rw [HIlr.out]; omega)
          have HRx : Hid (cs[j]? = some (row.sum, 0)) := by
            have h := HOs.out
            rw [htk] at h
            have h2 := HAj.out
            rw [sm1_yes h] at h2
            exact h2
          have HOk2 : Hid (okT cs (j + 1)) := okT_next HOk.out HRx.out
          have hlt : (LL.take j).length ≤ 400 := by rw [List.length_take]; omega
          have HIn2 := Lib.hid (HIn.out.next HBt.out)
          have HIx : Hid (Ru.Ins 2 wr w1.heap.size (.slice qa t ca) (scL 0 row)) := by
            have h := HIw.out
            rw [htk] at h
            exact Ru.own_mono h (by omega)
          have HB2 := Lib.hid (HB.out.trans (HBt.out.mono HB.out.size))
          have hB2s := HB2.out.size
          generalize (row.take t).sum = sx at x0
          clear htk HAj HCell HIlr HOk HIn HRx HRow HV1 HBa HOs HBx HIw HI6 HZb
          go_wp2_with (at_builtin; refine wpList_append_ms (by simp [Region.wanted]) _ _ rfl w1.heap.size _ _ rfl HIn2.out sx _ _ HIx.out rfl (by omega) (by omega) ?_; intro u2 w2 hu2 hb2; rw [HSj.out] at hu2; have HU2 := Lib.hid hu2; have HB3 := Lib.hid (HB2.out.trans hb2); clear hu2 hb2)
          go_roundg g2
          case measure => omega
          case rel => exact ⟨j + 1, _, by omega, rfl, by go_num, HOk2.out, HU2.out, HB3.out⟩
        | succ g3 =>
          have htz : (t : Int) < (m : Int) := by omega
          have ht : t < m := by omega
          have hBts := HBt.out.size
          have hbl := HBx.out.lt
          obtain ⟨bk, off, rfl, hbk, hc0⟩ := HCell.out t ht
          have hc : wr.cell? ⟨bk, off + t, none⟩ = some (.int .i64 (row.getD t 0)) := (HBt.out.cell (p := ⟨bk, off + t, none⟩) (by have := HBa.out.size; show bk < _; omega)).trans hc0
          clear hc0
          have hw1 : IntKind.i64.wrap ((t : Int) + 1) = (t : Int) + 1 := by rw [IntKind.wrap_i64]; omega
          have hlr : t < row.length := by rw [HIlr.out]; exact ht
          have hic : Sc.inr (row.getD t 0) = true := HI6.out.get t
          have his : Sc.inr (row.take t).sum = true := okS_inr (by omega) HOs.out
          have HAn := Lib.hid (and_any (row.take t).sum (row.getD t 0) (wo.heap.size + 1) qa t ca (scL 0 (row.take t)) wr HIw.out (by omega) his hic (by rw [scL_len, List.length_take]; omega))
          have hts := take_sum hlr
          by_cases hi : Sc.inr ((row.take t).sum + row.getD t 0) = true
          · have HOs2 := Lib.hid (take_okS hlr HOs.out hi)
            have HSc := Lib.hid (take_scL hlr)
            rw [show Sc.twoV 15 (row.take t).sum (row.getD t 0) = ((row.take t).sum + row.getD t 0, 0) from Sc.t15 rfl hi] at HAn
            have HTs := Lib.hid hts
            clear hts hi his hic hlr HOs HAj HI6 HIw
            generalize row.getD t 0 = c at hc HAn HSc HTs
            generalize (row.take t).sum = s at x0 HBx HAn HSc HTs
            go_wp2_with (first | (go_at_call 69; (with_reducible refine HAn.out.mono ?_); rintro e w2 ⟨qb, cb, rfl, hi2, hb⟩; rw [HSc.out] at hi2; have HI2 := Lib.hid hi2; have HBy : Hid (S2 w2 wo.heap.size s (.slice qa t ca)) := (hb.block _ (by omega)).trans HBx.out; have HB2 := Lib.hid (HBt.out.trans (hb.mono (by omega))); clear hb hi2 HAn HBx hc x0 x1; have y0 := HBy.out.c0; have y1 := HBy.out.c1; have f0 := HBy.out.fr 0; have f1 := HBy.out.fr 1; have HS := Lib.hid (HBy.out.set (s + c) (.slice qb (t + 1) cb)); have z0 := HS.out.c0; have z1 := HS.out.c1) | fail)
            go_roundg g3
            case measure => omega
            case rel => exact ⟨t + 1, qb, cb, by omega, by go_num, HOs2.out, by rw [HTs.out]; exact HS.out, ins_st2 HI2.out HBy.out _ _, st2_below _ _ (Nat.le_refl _) HB2.out⟩
          · have hbad := take_bad hlr hi
            have HBad : Hid (feL cs = 12) := okT_bad HOk.out (by rw [HAj.out, hbad]) (by decide)
            rw [show Sc.twoV 15 (row.take t).sum (row.getD t 0) = (0, 12) from Sc.t15o (by simpa using hi)] at HAn
            clear hts hi his hic hlr HOs HAj HI6 HIw hbad HOk
            generalize row.getD t 0 = c at hc HAn
            generalize (row.take t).sum = s at x0 HBx HAn
            go_wp2_with (first | (go_at_call 69; (with_reducible refine HAn.out.mono ?_); rintro e w2 ⟨qb, cb, rfl, hi2, hb⟩; have HBy : Hid (S2 w2 wo.heap.size s (.slice qa t ca)) := (hb.block _ (by omega)).trans HBx.out; have HB2 := Lib.hid (HBt.out.trans (hb.mono (by omega))); clear hb hi2 HAn HBx hc x0 x1; have y0 := HBy.out.c0; have y1 := HBy.out.c1; have f0 := HBy.out.fr 0; have f1 := HBy.out.fr 1; have HS := Lib.hid (HBy.out.set 0 (.slice qb (t + 1) cb)); have z0 := HS.out.c0; have z1 := HS.out.c1) | fail)
            go_ret2
            exact ⟨⟨_, by rw [HBad.out]; rfl, fun h => absurd (HBad.out.symm.trans h) (by decide)⟩, HBa.out.trans (st2_below _ _ HBa.out.size (HB2.out.mono HBa.out.size))⟩

theorem flt_len {A : Ar} (h : ck A = 0) : (flt ((rwL A).map (scL 0))).length = A.z.length := by
  obtain ⟨_, _, r2, _, _⟩ := rw_good (ck_good h)
  unfold flt
  rw [List.length_flatten, List.map_map, ← r2]
  have e : (rwL A).map (List.length ∘ scL 0) = List.replicate (rwN A) (rwM A) := by
    unfold rwL
    rw [if_pos h, List.map_map]
    refine List.eq_replicate_iff.2 ⟨by simp, fun b hb => ?_⟩
    obtain ⟨i, hi, rfl⟩ := List.mem_map.1 hb
    show (scL 0 (rwI A i)).length = _
    rw [scL_len, rwI_len (ck_good h) (List.mem_range.1 hi)]
  rw [e, List.sum_replicate_nat]
theorem MS.cells {w : World} {B : Nat} {u : Value} {L : List (List Int)} (h : MS w B u L) {j : Nat} (hj : j < L.length) :
    ∃ b n c x y, u = .slice (some ⟨b, 0, none⟩) n c ∧ n = L.length ∧ w.cell? ⟨b, j * 2, none⟩ = some (.int .i64 x) ∧ w.cell? ⟨b, j * 2 + 1, none⟩ = some y ∧ Ru.Ins 2 w B y L[j] := by
  obtain ⟨xs, h1, h2⟩ := h
  obtain ⟨x, y, e1, e2, hi⟩ := h2 j hj
  rcases h1.2 with ⟨_, h0⟩ | ⟨g, cap, cur, rfl, _⟩
  · omega
  · exact ⟨g, _, cap, x, y, rfl, rfl, (World.ownsRow.cellAt h1 _ (by omega)).trans e1, (World.ownsRow.cellAt h1 _ (by omega)).trans e2, hi⟩
theorem MS.form {w : World} {B : Nat} {u : Value} {L : List (List Int)} (h : MS w B u L) : ∃ a c, u = .slice a L.length c := by
  obtain ⟨xs, ⟨_, ⟨rfl, h0⟩ | ⟨g, cap, cur, rfl, _⟩⟩, _⟩ := h
  · exact ⟨none, 0, by rw [h0]⟩
  · exact ⟨_, cap, rfl⟩
set_option maxRecDepth 100000 in
set_option maxHeartbeats 8000000 in
theorem fscan_any (A : Ar) (v : Value) (w : World) (hw : Ru.Lay w) (hv : RdI w.heap.size w v A.z) (hn : Ru.NilC v) (hl : A.z.length ≤ 1000000) (h64 : in64 A.z) :
    Calls Tryd.prog 28 #[A5 A.k A.r A.a A.b v] w (RetE (sncV A) (smE A) w) := by
  have HFa := Lib.hid (fun W h1 h2 => ffault_any (A.k == 1) A v W h1 h2 hl)
  have HK := Lib.hid (MK1.new (A := A) hw hv)
  have x0 := HK.out.box.c0; have x1 := HK.out.box.c1; have x2 := HK.out.box.c2; have x3 := HK.out.box.c3; have x4 := HK.out.box.c4
  unfold sncV
  by_cases h1 : faE (A.k == 1) A = 0
  · obtain ⟨hA, hk, hr⟩ := faE_ok h1
    clear hk
    have e0 : smE A = feL ((rwL A).map sm1) := if_pos h1
    rw [h1] at HFa
    rw [e0]
    have HFd := Lib.hid (fun W (h2 : RdI W.heap.size W v A.z) => folds_any A v W hA hr h2 hn h64)
    have hfl := flt_len hA
    have hck : ck ⟨1, A.r, A.a, A.b, flt ((rwL A).map (scL 0))⟩ = 0 := ex_ck (ck_good hA) hfl
    have h4 := (ck_good hA).len4
    have HMk := Lib.hid (fun (u : Value) W h1 h2 => fmake_ok hck u W h1 h2 (by rw [hfl]; omega))
    have HFl : Hid ((flt ((rwL A).map (scL 0))).length ≤ 400) := by unfold Hid; omega
    have HLl : Hid (((rwL A).map (scL 0)).length ≤ 400) := by obtain ⟨_, _, _, q, _⟩ := rw_good (ck_good hA); unfold Hid; rw [List.length_map, rwL_len hA]; exact q
    generalize (rwL A).map sm1 = cs at HFd ⊢
    generalize (rwL A).map (scL 0) = L at HFd HMk HFl HLl ⊢
    clear h1 e0 hA hr hn h64 hw hfl hck h4
    obtain ⟨p0, cap, rfl, hcap, hcap2, hcell⟩ := hv
    clear hcell
    by_cases h1 : feL cs = 0
    · rw [orNo_yes h1, h1]
      rw [h1] at HFd
      clear h1
      obtain ⟨n, hnl⟩ : ∃ n, L.length = n := ⟨_, rfl⟩
      have HNl := Lib.hid hnl
      clear hnl
      have hn4 : n ≤ 400 := by have := HLl.out; rw [HNl.out] at this; exact this
      obtain ⟨fz, hfz⟩ : ∃ fz, flt L = fz := ⟨_, rfl⟩
      have HFz := Lib.hid hfz
      rw [hfz] at HMk HFl ⊢
      clear hfz
      go_enter Tryd.func28, Tryd.ntmps28
      go_wp2_with (first
        | (go_at_call 62; (with_reducible refine (HFa.out _ HK.out.lay HK.out.rdn).mono ?_); rintro e w1 ⟨rfl, hb⟩; have HK2 := Lib.hid (HK.out.next hb); clear HK x0 x1 x2 x3 x4; have HK := HK2; clear HK2; have x0 := HK.out.box.c0; have x1 := HK.out.box.c1; have x2 := HK.out.box.c2; have x3 := HK.out.box.c3; have x4 := HK.out.box.c4; clear hb)
        | (go_at_call 68; (with_reducible refine (HFd.out _ HK.out.rdn).mono ?_); rintro e w2 ⟨⟨u, rfl, hu⟩, hb⟩; have hm := hu (by trivial); obtain ⟨qu, cu, hq⟩ := hm.form; rw [HNl.out] at hq; subst hq; have HM := Lib.hid hm; have hsz1 := HK.out.sz; have HK2 := Lib.hid (HK.out.next hb); clear HK x0 x1 x2 x3 x4; have HK := HK2; clear HK2; have x0 := HK.out.box.c0; have x1 := HK.out.box.c1; have x2 := HK.out.box.c2; have x3 := HK.out.box.c3; have x4 := HK.out.box.c4; clear hu hb hm)
        | fail)
      have HB0 := Lib.hid HK.out.bel.size
      clear HFa HFd
      go_loopg [7, 31] n (fun gk c i wr => ∃ (j : Nat) (U : Value), j + gk = n ∧ U = c ∧ i = .int .i64 j ∧ Ru.Ins 2 wr w2.heap.size U (flt (L.take j)) ∧ Below w2.heap.size w2 wr)
      case atStart => exact ⟨0, _, by omega, rfl, rfl, ins_nil _ _, Below.refl _ _⟩
      case round =>
        obtain ⟨j, u0, hjg, rfl, rfl, hins, hbl⟩ := hrel
        have HIn := Lib.hid hins
        have HBl := Lib.hid hbl
        clear hins hbl
        have HKr := Lib.hid (HK.out.next HBl.out)
        cases gk with
        | zero =>
          have hjz : ¬ ((j : Int) < (n : Int)) := by omega
          have HU : Hid (RdI wr.heap.size wr u0 fz) := by
            have h := HIn.out
            rw [List.take_of_length_le (by rw [HNl.out]; omega), HFz.out] at h
            exact (ins_new h).rd
          clear HK x0 x1 x2 x3 x4
          have HK := HKr
          have x0 := HK.out.box.c0; have x1 := HK.out.box.c1; have x2 := HK.out.box.c2; have x3 := HK.out.box.c3; have x4 := HK.out.box.c4
          clear HM HIn HKr HBl HNl HFz HLl
          go_wp2_with (first | (go_at_call 70; (with_reducible refine (HMk.out _ _ HK.out.lay HU.out).mono ?_); rintro e w3 ⟨q, qc, rfl, hu, hb⟩; have HR := Lib.hid hu; have hlt := HK.out.res.lt; have hge := HK.out.bel.size; have HK2 := Lib.hid (HK.out.next hb); clear HK x0 x1 x2 x3 x4; have HK := HK2; clear HK2; have x0 := HK.out.box.c0; have x1 := HK.out.box.c1; have x2 := HK.out.box.c2; have x3 := HK.out.box.c3; have x4 := HK.out.box.c4; clear hu hb; have y0 := HK.out.res.c0; have y1 := HK.out.res.c1; have y2 := HK.out.res.c2; have y3 := HK.out.res.c3; have y4 := HK.out.res.c4; have f0 := HK.out.res.fr 0; have f1 := HK.out.res.fr 1; have f2 := HK.out.res.fr 2; have f3 := HK.out.res.fr 3; have f4 := HK.out.res.fr 4; have HS := Lib.hid (HK.out.res.set 1 A.r A.a A.b (.slice q fz.length qc)); have z0 := HS.out.c0; have z1 := HS.out.c1; have z2 := HS.out.c2; have z3 := HS.out.c3; have z4 := HS.out.c4) | fail)
          refine bodyPost_ret (v := .tuple #[A5 1 A.r A.a A.b (.slice q fz.length qc), .int .i64 0]) (by simp [results, Tryd.results28, go_sem, z0, z1, z2, z3, z4]) rfl ?_
          exact ⟨_, rfl, (HR.out.st5 (by omega) _ _ _ _ _).mono (by omega), st5_below _ _ _ _ _ (by omega) HK.out.bel⟩
        | succ g2 =>
          have hjz : (j : Int) < (n : Int) := by omega
          have hj : j < n := by omega
          have hjL : j < L.length := by rw [HNl.out]; exact hj
          obtain ⟨b, nb, cb, x, y, hub, _, hc0, hc1, hiy⟩ := (HM.out.next HBl.out).cells hjL
          injection hub with e1 e2 e3
          subst e1
          have hw0 : IntKind.i64.wrap ((j : Int) + 1) = (j : Int) + 1 := by rw [IntKind.wrap_i64]; omega
          have HSn : Hid (flt (L.take (j + 1)) = flt (L.take j) ++ L[j]) := flt_take hjL
          have hfle := flt_le L (j + 1)
          rw [HSn.out, List.length_append, HFz.out] at hfle
          have hfl4 := HFl.out
          obtain ⟨ya, yc, rfl⟩ := ins_form7 hiy
          have HY := Lib.hid (ins_new (ins_next7 hiy (bel1 wr (.cells #[.int .i64 x, .slice ya L[j].length yc] 80))))
          have HNy := Lib.hid (ins_new hiy).nilC
          have HIn2 := Lib.hid (ins_next7 HIn.out (bel1 wr (.cells #[.int .i64 x, .slice ya L[j].length yc] 80)))
          have HBl2 := Lib.hid (HBl.out.trans ((bel1 wr (.cells #[.int .i64 x, .slice ya L[j].length yc] 80)).mono HBl.out.size))
          have HSz := Lib.hid HBl2.out.size
          clear hiy e2 e3 HIn HBl HKr HK x0 x1 x2 x3 x4
          go_wp2_with (at_builtin; refine Ru.wpList_append_is (by simp [Region.wanted]) _ _ rfl w2.heap.size _ _ rfl HIn2.out _ L[j] rfl _ HY.out.rd.ru HNy.out (by omega) HSz.out ?_; intro u2 w3 hu2 hg2; have HB3 := Lib.hid (HBl2.out.trans (ins_grown HIn2.out HSz.out hg2)); rw [← HSn.out] at hu2; have HU2 := Lib.hid hu2; clear hu2 hg2)
          go_roundg g2
          case measure => omega
          case rel => exact ⟨j + 1, _, by omega, rfl, by go_num, HU2.out, HB3.out⟩
    · rw [orNo_no h1]
      generalize feL cs = E at HFd h1 ⊢
      have k1 : (E != 0) = true := by simpa using h1
      clear h1 HMk HFl HLl
      go_enter Tryd.func28, Tryd.ntmps28
      go_wp2_with (first
        | (go_at_call 62; (with_reducible refine (HFa.out _ HK.out.lay HK.out.rdn).mono ?_); rintro e w1 ⟨rfl, hb⟩; have HK2 := Lib.hid (HK.out.next hb); clear HK x0 x1 x2 x3 x4; have HK := HK2; clear HK2; have x0 := HK.out.box.c0; have x1 := HK.out.box.c1; have x2 := HK.out.box.c2; have x3 := HK.out.box.c3; have x4 := HK.out.box.c4; clear hb)
        | (go_at_call 68; (with_reducible refine (HFd.out _ HK.out.rdn).mono ?_); rintro e w2 ⟨⟨u, rfl, hu⟩, hb⟩; have HK2 := Lib.hid (HK.out.next hb); clear HK x0 x1 x2 x3 x4; have HK := HK2; clear HK2; have x0 := HK.out.box.c0; have x1 := HK.out.box.c1; have x2 := HK.out.box.c2; have x3 := HK.out.box.c3; have x4 := HK.out.box.c4; clear hu hb; have y0 := HK.out.res.c0; have y1 := HK.out.res.c1; have y2 := HK.out.res.c2; have y3 := HK.out.res.c3; have y4 := HK.out.res.c4; have f0 := HK.out.res.fr 0; have f1 := HK.out.res.fr 1; have f2 := HK.out.res.fr 2; have f3 := HK.out.res.fr 3; have f4 := HK.out.res.fr 4; have HS := Lib.hid (HK.out.res.set 0 0 0 0 (.slice none 0 0)); have z0 := HS.out.c0; have z1 := HS.out.c1; have z2 := HS.out.c2; have z3 := HS.out.c3; have z4 := HS.out.c4)
        | fail)
      exact bodyPost_ret (v := .tuple #[A5 0 0 0 0 (.slice none 0 0), .int .i64 E]) (by simp [results, Tryd.results28, go_sem, z0, z1, z2, z3, z4]) rfl (retE_no _ (st5_below _ _ _ _ _ (by omega) HK.out.bel))
  · have e : smE A = faE (A.k == 1) A := if_neg h1
    rw [e, orNo_no h1]
    generalize faE (A.k == 1) A = E at HFa h1 ⊢
    have k1 : (E != 0) = true := by simpa using h1
    clear h1 e hn h64 hw
    obtain ⟨p0, cap, rfl, hcap, hcap2, hcell⟩ := hv
    clear hcell
    go_enter Tryd.func28, Tryd.ntmps28
    go_wp2_with (first | (go_at_call 62; (with_reducible refine (HFa.out _ HK.out.lay HK.out.rdn).mono ?_); rintro e w1 ⟨rfl, hb⟩; have HK2 := Lib.hid (HK.out.next hb); clear HK x0 x1 x2 x3 x4; have HK := HK2; clear HK2; have x0 := HK.out.box.c0; have x1 := HK.out.box.c1; have x2 := HK.out.box.c2; have x3 := HK.out.box.c3; have x4 := HK.out.box.c4; clear hb; have y0 := HK.out.res.c0; have y1 := HK.out.res.c1; have y2 := HK.out.res.c2; have y3 := HK.out.res.c3; have y4 := HK.out.res.c4; have f0 := HK.out.res.fr 0; have f1 := HK.out.res.fr 1; have f2 := HK.out.res.fr 2; have f3 := HK.out.res.fr 3; have f4 := HK.out.res.fr 4; have HS := Lib.hid (HK.out.res.set 0 0 0 0 (.slice none 0 0)); have z0 := HS.out.c0; have z1 := HS.out.c1; have z2 := HS.out.c2; have z3 := HS.out.c3; have z4 := HS.out.c4) | fail)
    exact bodyPost_ret (v := .tuple #[A5 0 0 0 0 (.slice none 0 0), .int .i64 E]) (by simp [results, Tryd.results28, go_sem, z0, z1, z2, z3, z4]) rfl (retE_no _ (st5_below _ _ _ _ _ (by omega) HK.out.bel))
end Go.Proofs.YtokmdgiialcokaaDoor
