/- The law ExtendScalars. -/
import Derived.Test.YtmmnoldhiobgdaaDoorExL
import Derived.Test.YtmmnoldhiobgdaaDoorExP
import Derived.Test.YtmmnoldhiobgdaaDoorExH
namespace Go.Proofs.YtmmnoldhiobgdaaDoor
open Go.RowKit

theorem inr_of10 {n : Int} (h : (Lit.int IntKind.i64 n).wf = true) : Sc.inr n = true := by
  simp only [Lit.wf, Bool.and_eq_true, decide_eq_true_eq] at h
  exact Sc.inr_iff.2 ⟨h.1, h.2⟩
/-- The array of a number's copies. -/
def rpV (A : Ar) (x : Int) : Ar := ⟨A.k, A.r, A.a, A.b, List.replicate A.z.length x⟩
def scV (A : Ar) (x : Int) : Ar := ⟨A.k, 0, 0, 0, [x]⟩
theorem sc_runes {A : Ar} {x : Int} (h : Good (scV A x)) (hk : A.k = 2) : Ru.isR x = true := by
  have := h.runes hk
  simpa [scV] using this
theorem cp_good {A : Ar} {x : Int} (h : Good A) (hs : Good (scV A x)) : Good (rpV A x) :=
  good_same h (by simp) fun hk => List.all_eq_true.2 fun y hy => by rw [List.eq_of_mem_replicate hy]; exact sc_runes hs hk
theorem cp_sc {A : Ar} {x : Int} (h : Good A) (hr : A.r = 0) : rpV A x = scV A x := by
  obtain ⟨h1, h2, h3⟩ := h.r0 hr
  unfold rpV scV
  rw [hr, h1, h2, h3]
  rfl
theorem rep_get {n i : Nat} {x : Int} (h : i < n) : (List.replicate n x).getD i 0 = x := by
  rw [List.getD_eq_getElem?_getD, List.getElem?_replicate, if_pos h]; rfl
theorem tw_right {p x : Int} {A : Ar} (h : Good A) (hs : Good (scV A x)) : twE p A (scV A x) = twE p A (rpV A x) ∧ twV p A (scV A x) = twV p A (rpV A x) := by
  by_cases hr : A.r = 0
  · rw [cp_sc h hr]; exact ⟨rfl, rfl⟩
  have hc := cp_good h hs
  have e1 : boV A (scV A x) = A := bv_two hr
  have e2 : boV A (rpV A x) = A := bv_two hr
  have hF : twF p A (scV A x) = twF p A (rpV A x) := twF_same h hc h hs rfl rfl ((bo_sr (A := A) (B := scV A x) rfl).trans (bo_two (A := A) (B := rpV A x) rfl ⟨rfl, rfl⟩).symm)
  have hC : c2 p A (scV A x) = c2 p A (rpV A x) := by
    unfold c2
    rw [e1, e2]
    refine List.map_congr_left fun i hi => ?_
    have hi2 : i < A.z.length := List.mem_range.1 hi
    have a1 : celI (scV A x) i = x := rfl
    have a2 : celI (rpV A x) i = x := by rw [cel_vec (A := rpV A x) hr]; exact rep_get hi2
    rw [a1, a2]
  unfold twE twV
  rw [hF, hC, e1, e2]
  exact ⟨rfl, rfl⟩
theorem tw_left {p x : Int} {A : Ar} (h : Good A) (hs : Good (scV A x)) : twE p (scV A x) A = twE p (rpV A x) A ∧ twV p (scV A x) A = twV p (rpV A x) A := by
  by_cases hr : A.r = 0
  · rw [cp_sc h hr]; exact ⟨rfl, rfl⟩
  have hc := cp_good h hs
  have e1 : boV (scV A x) A = A := by unfold boV; rw [if_neg hr]; exact if_pos rfl
  have e2 : boV (rpV A x) A = rpV A x := bv_two (A := rpV A x) hr
  have hF : twF p (scV A x) A = twF p (rpV A x) A := twF_same hc h hs h rfl rfl ((bo_sl (A := scV A x) (B := A) rfl).trans (bo_two (A := rpV A x) (B := A) rfl ⟨rfl, rfl⟩).symm)
  have hC : c2 p (scV A x) A = c2 p (rpV A x) A := by
    unfold c2
    rw [e1, e2]
    have hl : (rpV A x).z.length = A.z.length := by simp [rpV]
    rw [hl]
    refine List.map_congr_left fun i hi => ?_
    have hi2 : i < A.z.length := List.mem_range.1 hi
    have a1 : celI (scV A x) i = x := rfl
    have a2 : celI (rpV A x) i = x := by rw [cel_vec (A := rpV A x) hr]; exact rep_get hi2
    rw [a1, a2]
  unfold twE twV
  rw [hF, hC, e1, e2]
  exact ⟨rfl, rfl⟩
/-- A variable that has been laid since, whose cells lie apart from all variables. -/
theorem KVar.addAt {w W W0 : World} {l : List Bk} {u : Value} (h : KVar w l W0) (hb : Below W0.heap.size W0 W) {g : Nat} (hg0 : W0.heap.size ≤ g) (A : Ar) (h5 : R5 W g A.k A.r A.a A.b u) (hu : RdX (g :: l.map Bk.g) W u A.z) (hn : Ru.NilC u) :
    KVar w (⟨g, A, u⟩ :: l) W := by
  have h2 := h.next hb
  refine ⟨h2.bel, h2.lay, h.sz0, fun b m => ?_⟩
  rcases List.mem_cons.1 m with rfl | m
  · exact ⟨⟨Nat.le_trans h.bel.size hg0, h5.lt⟩, h5, hu, hn⟩
  · exact ⟨(h2.all b m).1, h2.a b m, ((h.all b m).2.2.1.more hg0).keep hb.size fun c _ hc => hb.block c hc, h.n b m⟩
set_option maxRecDepth 100000 in
set_option maxHeartbeats 32000000 in
theorem lawScalars_any (p : Int) (A : Ar) (v : Value) (x : Int) (w : World) (hw : Ru.Lay w) (hv : RdI w.heap.size w v A.z) (hn : Ru.NilC v) (h64 : in64 A.z) (hx64 : Sc.inr x = true) (haw : ∀ W, Ru.Lay W → Calls Tryd.prog 12 #[] W fun e w' => e = .returned (.bool true) ∧ Below W.heap.size W w') :
    Calls Tryd.prog 6 #[.int .i64 p, A5 A.k A.r A.a A.b v, .int .i64 x] w fun e w' => e = .returned (.bool true) ∧ Below w.heap.size w w' := by
  have HF := Lib.hid (fun W h => far7_any A v W h)
  have HAw := Lib.hid haw
  clear haw
  have HK := Lib.hid ((KVar.start w hw).arg A hv hn)
  have HI := Lib.hid h64
  have HX := Lib.hid hx64
  have HSc := Lib.hid (fun W => scalar7_any A.k x W)
  obtain ⟨q, cap, rfl, hv1, hv2, hv3⟩ := hv
  clear hw hn hv1 hv2 hv3 h64 hx64
  have x0 := (HK.out.a _ (.head _)).c0
  have x1 := (HK.out.a _ (.head _)).c1
  have x2 := (HK.out.a _ (.head _)).c2
  have x3 := (HK.out.a _ (.head _)).c3
  have x4 := (HK.out.a _ (.head _)).c4
  by_cases hf : 405 < A.z.length
  · rw [decide_eq_true hf] at HF
    clear hf
    go_enter Tryd.func6, Tryd.ntmps6
    go_wp2_with (first
      | (go_at_call 11; (with_reducible refine (HF.out _ (by with_unfolding_all exact HK.out.r _ (.head _))).mono ?_); rintro e wz ⟨rfl, hb⟩; have HK2 := Lib.hid (HK.out.next hb); clear HK x0 x1 x2 x3 x4; have HK := HK2; clear HK2; clear hb; have x0 := (HK.out.a _ (.head _)).c0; have x1 := (HK.out.a _ (.head _)).c1; have x2 := (HK.out.a _ (.head _)).c2; have x3 := (HK.out.a _ (.head _)).c3; have x4 := (HK.out.a _ (.head _)).c4)
      | (go_at_call 12; (with_reducible refine (HAw.out _ (by with_unfolding_all exact HK.out.lay)).mono ?_); rintro e wz ⟨rfl, hb⟩; have HK2 := Lib.hid (HK.out.next hb); clear HK x0 x1 x2 x3 x4; have HK := HK2; clear HK2; clear hb; have x0 := (HK.out.a _ (.head _)).c0; have x1 := (HK.out.a _ (.head _)).c1; have x2 := (HK.out.a _ (.head _)).c2; have x3 := (HK.out.a _ (.head _)).c3; have x4 := (HK.out.a _ (.head _)).c4)
      | fail)
    go_ret
    exact ⟨rfl, HK.out.bel⟩
  rw [decide_eq_false hf] at HF
  have HC1 := Lib.hid (fun W h => archeck_any A (.slice q A.z.length cap) W h (by omega))
  by_cases h1 : ck A ≠ 0
  · generalize ck A = E at HC1 h1
    have k1 : (E != 0) = true := by simpa using h1
    clear hf h1
    go_enter Tryd.func6, Tryd.ntmps6
    go_wp2_with (first
      | (go_at_call 11; (with_reducible refine (HF.out _ (by with_unfolding_all exact HK.out.r _ (.head _))).mono ?_); rintro e wz ⟨rfl, hb⟩; have HK2 := Lib.hid (HK.out.next hb); clear HK x0 x1 x2 x3 x4; have HK := HK2; clear HK2; clear hb; have x0 := (HK.out.a _ (.head _)).c0; have x1 := (HK.out.a _ (.head _)).c1; have x2 := (HK.out.a _ (.head _)).c2; have x3 := (HK.out.a _ (.head _)).c3; have x4 := (HK.out.a _ (.head _)).c4)
      | (go_at_call 21; (with_reducible refine (HC1.out _ (by with_unfolding_all exact HK.out.r _ (.head _))).mono ?_); rintro e wz ⟨rfl, hb⟩; have HK2 := Lib.hid (HK.out.next hb); clear HK x0 x1 x2 x3 x4; have HK := HK2; clear HK2; clear hb; have x0 := (HK.out.a _ (.head _)).c0; have x1 := (HK.out.a _ (.head _)).c1; have x2 := (HK.out.a _ (.head _)).c2; have x3 := (HK.out.a _ (.head _)).c3; have x4 := (HK.out.a _ (.head _)).c4)
      | (go_at_call 12; (with_reducible refine (HAw.out _ (by with_unfolding_all exact HK.out.lay)).mono ?_); rintro e wz ⟨rfl, hb⟩; have HK2 := Lib.hid (HK.out.next hb); clear HK x0 x1 x2 x3 x4; have HK := HK2; clear HK2; clear hb; have x0 := (HK.out.a _ (.head _)).c0; have x1 := (HK.out.a _ (.head _)).c1; have x2 := (HK.out.a _ (.head _)).c2; have x3 := (HK.out.a _ (.head _)).c3; have x4 := (HK.out.a _ (.head _)).c4)
      | fail)
    go_ret
    exact ⟨rfl, HK.out.bel⟩
  have h1' : ck A = 0 := by omega
  rw [h1'] at HC1
  have HC2 : Hid (∀ (v : Value) (W : World), RdI W.heap.size W v [x] → Calls Tryd.prog 21 #[A5 A.k 0 0 0 v] W fun e w' => e = .returned (.int .i64 (ck (scV A x))) ∧ Below W.heap.size W w') := fun v W h => archeck_any (scV A x) v W h (by show 1 ≤ 1000000; omega)
  by_cases h2 : ck (scV A x) ≠ 0
  · generalize ck (scV A x) = E at HC2 h2
    have k1 : (E != 0) = true := by simpa using h2
    clear hf h1' h2
    go_enter Tryd.func6, Tryd.ntmps6
    go_wp2_with (first
      | (go_at_call 11; (with_reducible refine (HF.out _ (by with_unfolding_all exact HK.out.r _ (.head _))).mono ?_); rintro e wz ⟨rfl, hb⟩; have HK2 := Lib.hid (HK.out.next hb); clear HK x0 x1 x2 x3 x4; have HK := HK2; clear HK2; clear hb; have x0 := (HK.out.a _ (.head _)).c0; have x1 := (HK.out.a _ (.head _)).c1; have x2 := (HK.out.a _ (.head _)).c2; have x3 := (HK.out.a _ (.head _)).c3; have x4 := (HK.out.a _ (.head _)).c4)
      | (go_at_call 21; (with_reducible refine (HC2.out _ _ (by with_unfolding_all exact HK.out.r _ (.head _))).mono ?_); rintro e wz ⟨rfl, hb⟩; have HK2 := Lib.hid (HK.out.next hb); clear HK x0 x1 x2 x3 x4 s0 s1 s2 s3 s4; have HK := HK2; clear HK2; clear hb; have x0 := (HK.out.a _ (.tail _ (.head _))).c0; have x1 := (HK.out.a _ (.tail _ (.head _))).c1; have x2 := (HK.out.a _ (.tail _ (.head _))).c2; have x3 := (HK.out.a _ (.tail _ (.head _))).c3; have x4 := (HK.out.a _ (.tail _ (.head _))).c4; have s0 := (HK.out.a _ (.head _)).c0; have s1 := (HK.out.a _ (.head _)).c1; have s2 := (HK.out.a _ (.head _)).c2; have s3 := (HK.out.a _ (.head _)).c3; have s4 := (HK.out.a _ (.head _)).c4)
      | (go_at_call 21; (with_reducible refine (HC1.out _ (by with_unfolding_all exact HK.out.r _ (.head _))).mono ?_); rintro e wz ⟨rfl, hb⟩; have HK2 := Lib.hid (HK.out.next hb); clear HK x0 x1 x2 x3 x4; have HK := HK2; clear HK2; clear hb; have x0 := (HK.out.a _ (.head _)).c0; have x1 := (HK.out.a _ (.head _)).c1; have x2 := (HK.out.a _ (.head _)).c2; have x3 := (HK.out.a _ (.head _)).c3; have x4 := (HK.out.a _ (.head _)).c4)
      | (go_at_call 24; (with_reducible refine (HSc.out _).mono ?_); rintro e ws ⟨uws, rfl, hu, hb⟩; obtain ⟨pws, cws, hpws, _, _⟩ := hu.form; have hqws : uws = (.slice pws 1 cws) := hpws; subst hqws; clear hpws; have hltxs : w.heap.size < ws.heap.size := Nat.lt_of_lt_of_le (HK.out.lt _ (.head _)) hb.size; have HK2 := Lib.hid (HK.out.res hb ⟨A.k, 0, 0, 0, [x]⟩ hu); clear HK x0 x1 x2 x3 x4; have HK := HK2; clear HK2; clear hb hu; have x0 := (HK.out.a _ (.tail _ (.head _))).c0; have x1 := (HK.out.a _ (.tail _ (.head _))).c1; have x2 := (HK.out.a _ (.tail _ (.head _))).c2; have x3 := (HK.out.a _ (.tail _ (.head _))).c3; have x4 := (HK.out.a _ (.tail _ (.head _))).c4; have s0 := (HK.out.a _ (.head _)).c0; have s1 := (HK.out.a _ (.head _)).c1; have s2 := (HK.out.a _ (.head _)).c2; have s3 := (HK.out.a _ (.head _)).c3; have s4 := (HK.out.a _ (.head _)).c4)
      | (go_at_call 12; (with_reducible refine (HAw.out _ (by with_unfolding_all exact HK.out.lay)).mono ?_); rintro e wz ⟨rfl, hb⟩; have HK2 := Lib.hid (HK.out.next hb); clear HK x0 x1 x2 x3 x4 s0 s1 s2 s3 s4; have HK := HK2; clear HK2; clear hb; have x0 := (HK.out.a _ (.tail _ (.head _))).c0; have x1 := (HK.out.a _ (.tail _ (.head _))).c1; have x2 := (HK.out.a _ (.tail _ (.head _))).c2; have x3 := (HK.out.a _ (.tail _ (.head _))).c3; have x4 := (HK.out.a _ (.tail _ (.head _))).c4; have s0 := (HK.out.a _ (.head _)).c0; have s1 := (HK.out.a _ (.head _)).c1; have s2 := (HK.out.a _ (.head _)).c2; have s3 := (HK.out.a _ (.head _)).c3; have s4 := (HK.out.a _ (.head _)).c4)
      | fail)
    go_ret
    exact ⟨rfl, HK.out.bel⟩
  have h2' : ck (scV A x) = 0 := by omega
  rw [h2'] at HC2
  have hA := ck_good h1'
  have hS := ck_good h2'
  have h4 := hA.len4
  have HR0 := Lib.hid (tw_right (p := p) hA hS)
  have HL0 := Lib.hid (tw_left (p := p) hA hS)
  have HIs : Hid (in64 (scV A x).z) := fun y hy => by rw [List.mem_singleton.1 hy]; exact HX.out
  have HIc : Hid (in64 (rpV A x).z) := fun y hy => by rw [List.eq_of_mem_replicate hy]; exact HX.out
  have HT1 : Hid (∀ (v u : Value) (W : World), Ru.Lay W → RdI W.heap.size W v A.z → RdI W.heap.size W u [x] → Calls Tryd.prog 16 #[.int .i64 p, A5 A.k A.r A.a A.b v, A5 A.k 0 0 0 u] W (RetE (twV p A (scV A x)) (twE p A (scV A x)) W)) := fun v u W h0 h1 h2 => etwo_any p A (scV A x) v u W h0 h1 h2 (by omega) (by show 1 ≤ 1000000; omega) HI.out HIs.out
  have HT2 : Hid (∀ (v u : Value) (W : World), Ru.Lay W → RdI W.heap.size W v A.z → RdI W.heap.size W u (List.replicate A.z.length x) → Calls Tryd.prog 16 #[.int .i64 p, A5 A.k A.r A.a A.b v, A5 A.k A.r A.a A.b u] W (RetE (twV p A (rpV A x)) (twE p A (rpV A x)) W)) := fun v u W h0 h1 h2 => etwo_any p A (rpV A x) v u W h0 h1 h2 (by omega) (by simp [rpV]; omega) HI.out HIc.out
  have HT3 : Hid (∀ (v u : Value) (W : World), Ru.Lay W → RdI W.heap.size W v [x] → RdI W.heap.size W u A.z → Calls Tryd.prog 16 #[.int .i64 p, A5 A.k 0 0 0 v, A5 A.k A.r A.a A.b u] W (RetE (twV p (scV A x) A) (twE p (scV A x) A) W)) := fun v u W h0 h1 h2 => etwo_any p (scV A x) A v u W h0 h1 h2 (by show 1 ≤ 1000000; omega) (by omega) HIs.out HI.out
  have HT4 : Hid (∀ (v u : Value) (W : World), Ru.Lay W → RdI W.heap.size W v (List.replicate A.z.length x) → RdI W.heap.size W u A.z → Calls Tryd.prog 16 #[.int .i64 p, A5 A.k A.r A.a A.b v, A5 A.k A.r A.a A.b u] W (RetE (twV p (rpV A x) A) (twE p (rpV A x) A) W)) := fun v u W h0 h1 h2 => etwo_any p (rpV A x) A v u W h0 h1 h2 (by simp [rpV]; omega) (by omega) HIc.out HI.out
  rw [HR0.out.1, HR0.out.2] at HT1
  rw [HL0.out.1, HL0.out.2] at HT3
  have l1 : (twV p A (rpV A x)).z.length ≤ 1000000 := Nat.le_trans (twV_len _ _ _) (by simp [rpV]; omega)
  have l2 : (twV p (rpV A x) A).z.length ≤ 1000000 := Nat.le_trans (twV_len _ _ _) (by simp [rpV]; omega)
  generalize twV p A (rpV A x) = B at HT1 HT2 l1
  generalize twE p A (rpV A x) = E1 at HT1 HT2
  generalize twV p (rpV A x) A = D at HT3 HT4 l2
  generalize twE p (rpV A x) A = E2 at HT3 HT4
  obtain ⟨m1, m2, m3, m4, m5⟩ := B
  obtain ⟨n1, n2, n3, n4, n5⟩ := D
  simp only at l1 l2
  have HS1 := Lib.hid (fun v u W h1 h2 => alike_lit10 m1 m2 m3 m4 m5 E1 v u W h1 h2 l1)
  have HS2 := Lib.hid (fun v u W h1 h2 => alike_lit10 n1 n2 n3 n4 n5 E2 v u W h1 h2 l2)
  obtain ⟨i0, hi, hz0, hz1, hz2⟩ := info_parts info64
  clear HR0 HL0 hA hS h1 h1' h2 h2' hf l1 l2 HI HIs HIc HX
  go_enter Tryd.func6, Tryd.ntmps6
  go_wp2_with (first
    | (go_at_call 11; (with_reducible refine (HF.out _ (by with_unfolding_all exact HK.out.r _ (.head _))).mono ?_); rintro e wz ⟨rfl, hb⟩; have HK2 := Lib.hid (HK.out.next hb); clear HK x0 x1 x2 x3 x4; have HK := HK2; clear HK2; clear hb; have x0 := (HK.out.a _ (.head _)).c0; have x1 := (HK.out.a _ (.head _)).c1; have x2 := (HK.out.a _ (.head _)).c2; have x3 := (HK.out.a _ (.head _)).c3; have x4 := (HK.out.a _ (.head _)).c4)
    | (go_at_call 21; (with_reducible refine (HC2.out _ _ (by with_unfolding_all exact HK.out.r _ (.head _))).mono ?_); rintro e wk ⟨rfl, hb⟩; have HK2 := Lib.hid (HK.out.next hb); clear HK x0 x1 x2 x3 x4 s0 s1 s2 s3 s4; have HK := HK2; clear HK2; clear hb; have x0 := (HK.out.a _ (.tail _ (.head _))).c0; have x1 := (HK.out.a _ (.tail _ (.head _))).c1; have x2 := (HK.out.a _ (.tail _ (.head _))).c2; have x3 := (HK.out.a _ (.tail _ (.head _))).c3; have x4 := (HK.out.a _ (.tail _ (.head _))).c4; have s0 := (HK.out.a _ (.head _)).c0; have s1 := (HK.out.a _ (.head _)).c1; have s2 := (HK.out.a _ (.head _)).c2; have s3 := (HK.out.a _ (.head _)).c3; have s4 := (HK.out.a _ (.head _)).c4; have xw := ((HK.out.next (bel1 _ (.cells #[.int .i64 A.k, .int .i64 A.r, .int .i64 A.a, .int .i64 A.b, (.slice q A.z.length cap)] 25))).a _ (.tail _ (.head _))).c4; have hs1 : (wk.alloc (.cells #[.int .i64 A.k, .int .i64 A.r, .int .i64 A.a, .int .i64 A.b, (.slice q A.z.length cap)] 25)).heap.size = wk.heap.size + 1 := (by simp); have hmk := run_make (P := Tryd.prog) (wk.alloc (.cells #[.int .i64 A.k, .int .i64 A.r, .int .i64 A.a, .int .i64 A.b, (.slice q A.z.length cap)] 25)) 23 2 i0 (.int .i64 0) Tryd.underlying23 hi hz0 .i64 .i64 A.z.length A.z.length (by omega) (by omega) (by rw [hz2]; omega) (by omega); rw [Int.toNat_natCast, hz1, Nat.mul_one, hs1] at hmk)
    | (go_at_call 21; (with_reducible refine (HC1.out _ (by with_unfolding_all exact HK.out.r _ (.head _))).mono ?_); rintro e wz ⟨rfl, hb⟩; have HK2 := Lib.hid (HK.out.next hb); clear HK x0 x1 x2 x3 x4; have HK := HK2; clear HK2; clear hb; have x0 := (HK.out.a _ (.head _)).c0; have x1 := (HK.out.a _ (.head _)).c1; have x2 := (HK.out.a _ (.head _)).c2; have x3 := (HK.out.a _ (.head _)).c3; have x4 := (HK.out.a _ (.head _)).c4)
    | (go_at_call 24; (with_reducible refine (HSc.out _).mono ?_); rintro e ws ⟨uws, rfl, hu, hb⟩; obtain ⟨pws, cws, hpws, _, _⟩ := hu.form; have hqws : uws = (.slice pws 1 cws) := hpws; subst hqws; clear hpws; have hltxs : w.heap.size < ws.heap.size := Nat.lt_of_lt_of_le (HK.out.lt _ (.head _)) hb.size; have HK2 := Lib.hid (HK.out.res hb ⟨A.k, 0, 0, 0, [x]⟩ hu); clear HK x0 x1 x2 x3 x4; have HK := HK2; clear HK2; clear hb hu; have x0 := (HK.out.a _ (.tail _ (.head _))).c0; have x1 := (HK.out.a _ (.tail _ (.head _))).c1; have x2 := (HK.out.a _ (.tail _ (.head _))).c2; have x3 := (HK.out.a _ (.tail _ (.head _))).c3; have x4 := (HK.out.a _ (.tail _ (.head _))).c4; have s0 := (HK.out.a _ (.head _)).c0; have s1 := (HK.out.a _ (.head _)).c1; have s2 := (HK.out.a _ (.head _)).c2; have s3 := (HK.out.a _ (.head _)).c3; have s4 := (HK.out.a _ (.head _)).c4)
    | fail)
  have HB0 : Hid (Below wk.heap.size wk ((wk.alloc (.cells #[.int .i64 A.k, .int .i64 A.r, .int .i64 A.a, .int .i64 A.b, (.slice (some ⟨wk.heap.size + 1, 0, none⟩) A.z.length A.z.length)] 25)).alloc (.cells (madeCells (Value.int .i64 0).cells A.z.length) 2))) := (bel1 wk _).trans ((bel1 _ _).mono (by simp))
  have H50 : Hid (R5 ((wk.alloc (.cells #[.int .i64 A.k, .int .i64 A.r, .int .i64 A.a, .int .i64 A.b, (.slice (some ⟨wk.heap.size + 1, 0, none⟩) A.z.length A.z.length)] 25)).alloc (.cells (madeCells (Value.int .i64 0).cells A.z.length) 2)) wk.heap.size A.k A.r A.a A.b (.slice (some ⟨wk.heap.size + 1, 0, none⟩) A.z.length A.z.length)) := (R5.new wk _ _ _ _ _).alloc _
  have HW0 : Hid (((wk.alloc (.cells #[.int .i64 A.k, .int .i64 A.r, .int .i64 A.a, .int .i64 A.b, (.slice (some ⟨wk.heap.size + 1, 0, none⟩) A.z.length A.z.length)] 25)).alloc (.cells (madeCells (Value.int .i64 0).cells A.z.length) 2)).rowIs (wk.heap.size + 1) 2 A.z.length (zf (List.replicate A.z.length x) 0)) := by
    have e : (wk.alloc (.cells #[.int .i64 A.k, .int .i64 A.r, .int .i64 A.a, .int .i64 A.b, (.slice (some ⟨wk.heap.size + 1, 0, none⟩) A.z.length A.z.length)] 25)).heap.size = wk.heap.size + 1 := by simp
    have h := (World.rowIs_made (wk.alloc (.cells #[.int .i64 A.k, .int .i64 A.r, .int .i64 A.a, .int .i64 A.b, (.slice (some ⟨wk.heap.size + 1, 0, none⟩) A.z.length A.z.length)] 25)) (.int .i64 0) A.z.length 2).congr (g := zf (List.replicate A.z.length x) 0) fun i _ => by unfold zf; rw [if_neg (by omega)]
    rw [e] at h
    exact h
  clear hmk hs1 xw x0 x1 x2 x3 x4 s0 s1 s2 s3 s4
  go_loopg [9] A.z.length (fun g i wr => ∃ j : Nat, j + g = A.z.length ∧ i = .int .i64 j ∧ Below wk.heap.size wk wr ∧ R5 wr wk.heap.size A.k A.r A.a A.b (.slice (some ⟨wk.heap.size + 1, 0, none⟩) A.z.length A.z.length) ∧ wr.rowIs (wk.heap.size + 1) 2 A.z.length (zf (List.replicate A.z.length x) j))
  case atStart => exact ⟨0, by omega, rfl, HB0.out, H50.out, HW0.out⟩
  case round =>
    obtain ⟨j, hjg, rfl, hbl, h5, hrow⟩ := hrel
    have HB := Lib.hid hbl
    have H5 := Lib.hid h5
    have HRo := Lib.hid hrow
    clear hbl h5 hrow HB0 H50 HW0
    have x4 := ((HK.out.next HB.out).a _ (.tail _ (.head _))).c4
    have y4 := H5.out.c4
    cases gk with
    | zero =>
      have hjz : ¬ ((j : Int) < (A.z.length : Int)) := by omega
      have hRd : RdN (wk.heap.size + 1) wr (.slice (some ⟨wk.heap.size + 1, 0, none⟩) A.z.length A.z.length) (List.replicate A.z.length x) := by
        have h := HRo.out
        rw [show j = A.z.length by omega] at h
        exact zf_new (by simp) h (by omega) (Nat.le_refl _)
      have HK2 := Lib.hid (HK.out.addAt HB.out (Nat.le_refl _) ⟨A.k, A.r, A.a, A.b, (List.replicate A.z.length x)⟩ H5.out (rdN_toX hRd (fun g hg => by
        rcases List.mem_cons.1 hg with rfl | hg
        · omega
        · obtain ⟨c, hc, rfl⟩ := List.mem_map.1 hg
          exact Nat.lt_succ_of_lt (HK.out.lt c hc))) hRd.nilC)
      clear HK HB H5 HRo hRd x4
      have HK := HK2
      clear HK2 hi hz0 hz1 hz2
      have x0 := (HK.out.a _ (.tail _ (.tail _ (.head _)))).c0
      have x1 := (HK.out.a _ (.tail _ (.tail _ (.head _)))).c1
      have x2 := (HK.out.a _ (.tail _ (.tail _ (.head _)))).c2
      have x3 := (HK.out.a _ (.tail _ (.tail _ (.head _)))).c3
      have x4 := (HK.out.a _ (.tail _ (.tail _ (.head _)))).c4
      have s0 := (HK.out.a _ (.tail _ (.head _))).c0
      have s1 := (HK.out.a _ (.tail _ (.head _))).c1
      have s2 := (HK.out.a _ (.tail _ (.head _))).c2
      have s3 := (HK.out.a _ (.tail _ (.head _))).c3
      have s4 := (HK.out.a _ (.tail _ (.head _))).c4
      have ka0 := (HK.out.a _ (.head _)).c0
      have ka1 := (HK.out.a _ (.head _)).c1
      have ka2 := (HK.out.a _ (.head _)).c2
      have ka3 := (HK.out.a _ (.head _)).c3
      have ka4 := (HK.out.a _ (.head _)).c4
      go_wp2_with (first
        | (go_at_call 16; (with_reducible refine (HT4.out _ _ _ (by with_unfolding_all exact HK.out.lay) (by with_unfolding_all exact HK.out.r _ (.tail _ (.tail _ (.tail _ (.head _))))) (by with_unfolding_all exact HK.out.r _ (.tail _ (.tail _ (.tail _ (.tail _ (.tail _ (.head _)))))))).mono ?_); rintro e wd ⟨uwd, rfl, hu, hb⟩; obtain ⟨pwd, cwd, hpwd, _, _⟩ := hu.form; have hqwd : uwd = (.slice pwd n5.length cwd) := hpwd; subst hqwd; clear hpwd; have hltdh : wc.heap.size < wd.heap.size := Nat.lt_of_lt_of_le (HK.out.lt _ (.head _)) hb.size; have hltch : wb.heap.size < wd.heap.size := Nat.lt_of_lt_of_le (HK.out.lt _ (.tail _ (.head _))) hb.size; have hltbh : wa.heap.size < wd.heap.size := Nat.lt_of_lt_of_le (HK.out.lt _ (.tail _ (.tail _ (.head _)))) hb.size; have hltkah : wk.heap.size < wd.heap.size := Nat.lt_of_lt_of_le (HK.out.lt _ (.tail _ (.tail _ (.tail _ (.head _))))) hb.size; have hltsh : ws.heap.size < wd.heap.size := Nat.lt_of_lt_of_le (HK.out.lt _ (.tail _ (.tail _ (.tail _ (.tail _ (.head _)))))) hb.size; have hltxh : w.heap.size < wd.heap.size := Nat.lt_of_lt_of_le (HK.out.lt _ (.tail _ (.tail _ (.tail _ (.tail _ (.tail _ (.head _))))))) hb.size; have HK2 := Lib.hid (HK.out.res hb ⟨n1, n2, n3, n4, n5⟩ hu); clear HK x0 x1 x2 x3 x4 s0 s1 s2 s3 s4 ka0 ka1 ka2 ka3 ka4 b0 b1 b2 b3 b4 c0 c1 c2 c3 c4 d0 d1 d2 d3 d4; have HK := HK2; clear HK2; clear hb hu; have x0 := (HK.out.a _ (.tail _ (.tail _ (.tail _ (.tail _ (.tail _ (.tail _ (.head _)))))))).c0; have x1 := (HK.out.a _ (.tail _ (.tail _ (.tail _ (.tail _ (.tail _ (.tail _ (.head _)))))))).c1; have x2 := (HK.out.a _ (.tail _ (.tail _ (.tail _ (.tail _ (.tail _ (.tail _ (.head _)))))))).c2; have x3 := (HK.out.a _ (.tail _ (.tail _ (.tail _ (.tail _ (.tail _ (.tail _ (.head _)))))))).c3; have x4 := (HK.out.a _ (.tail _ (.tail _ (.tail _ (.tail _ (.tail _ (.tail _ (.head _)))))))).c4; have s0 := (HK.out.a _ (.tail _ (.tail _ (.tail _ (.tail _ (.tail _ (.head _))))))).c0; have s1 := (HK.out.a _ (.tail _ (.tail _ (.tail _ (.tail _ (.tail _ (.head _))))))).c1; have s2 := (HK.out.a _ (.tail _ (.tail _ (.tail _ (.tail _ (.tail _ (.head _))))))).c2; have s3 := (HK.out.a _ (.tail _ (.tail _ (.tail _ (.tail _ (.tail _ (.head _))))))).c3; have s4 := (HK.out.a _ (.tail _ (.tail _ (.tail _ (.tail _ (.tail _ (.head _))))))).c4; have ka0 := (HK.out.a _ (.tail _ (.tail _ (.tail _ (.tail _ (.head _)))))).c0; have ka1 := (HK.out.a _ (.tail _ (.tail _ (.tail _ (.tail _ (.head _)))))).c1; have ka2 := (HK.out.a _ (.tail _ (.tail _ (.tail _ (.tail _ (.head _)))))).c2; have ka3 := (HK.out.a _ (.tail _ (.tail _ (.tail _ (.tail _ (.head _)))))).c3; have ka4 := (HK.out.a _ (.tail _ (.tail _ (.tail _ (.tail _ (.head _)))))).c4; have b0 := (HK.out.a _ (.tail _ (.tail _ (.tail _ (.head _))))).c0; have b1 := (HK.out.a _ (.tail _ (.tail _ (.tail _ (.head _))))).c1; have b2 := (HK.out.a _ (.tail _ (.tail _ (.tail _ (.head _))))).c2; have b3 := (HK.out.a _ (.tail _ (.tail _ (.tail _ (.head _))))).c3; have b4 := (HK.out.a _ (.tail _ (.tail _ (.tail _ (.head _))))).c4; have c0 := (HK.out.a _ (.tail _ (.tail _ (.head _)))).c0; have c1 := (HK.out.a _ (.tail _ (.tail _ (.head _)))).c1; have c2 := (HK.out.a _ (.tail _ (.tail _ (.head _)))).c2; have c3 := (HK.out.a _ (.tail _ (.tail _ (.head _)))).c3; have c4 := (HK.out.a _ (.tail _ (.tail _ (.head _)))).c4; have d0 := (HK.out.a _ (.tail _ (.head _))).c0; have d1 := (HK.out.a _ (.tail _ (.head _))).c1; have d2 := (HK.out.a _ (.tail _ (.head _))).c2; have d3 := (HK.out.a _ (.tail _ (.head _))).c3; have d4 := (HK.out.a _ (.tail _ (.head _))).c4; have h0 := (HK.out.a _ (.head _)).c0; have h1 := (HK.out.a _ (.head _)).c1; have h2 := (HK.out.a _ (.head _)).c2; have h3 := (HK.out.a _ (.head _)).c3; have h4 := (HK.out.a _ (.head _)).c4)
        | (go_at_call 16; (with_reducible refine (HT3.out _ _ _ (by with_unfolding_all exact HK.out.lay) (by with_unfolding_all exact HK.out.r _ (.tail _ (.tail _ (.tail _ (.head _))))) (by with_unfolding_all exact HK.out.r _ (.tail _ (.tail _ (.tail _ (.tail _ (.head _))))))).mono ?_); rintro e wc ⟨uwc, rfl, hu, hb⟩; obtain ⟨pwc, cwc, hpwc, _, _⟩ := hu.form; have hqwc : uwc = (.slice pwc n5.length cwc) := hpwc; subst hqwc; clear hpwc; have hltcd : wb.heap.size < wc.heap.size := Nat.lt_of_lt_of_le (HK.out.lt _ (.head _)) hb.size; have hltbd : wa.heap.size < wc.heap.size := Nat.lt_of_lt_of_le (HK.out.lt _ (.tail _ (.head _))) hb.size; have hltkad : wk.heap.size < wc.heap.size := Nat.lt_of_lt_of_le (HK.out.lt _ (.tail _ (.tail _ (.head _)))) hb.size; have hltsd : ws.heap.size < wc.heap.size := Nat.lt_of_lt_of_le (HK.out.lt _ (.tail _ (.tail _ (.tail _ (.head _))))) hb.size; have hltxd : w.heap.size < wc.heap.size := Nat.lt_of_lt_of_le (HK.out.lt _ (.tail _ (.tail _ (.tail _ (.tail _ (.head _)))))) hb.size; have HK2 := Lib.hid (HK.out.res hb ⟨n1, n2, n3, n4, n5⟩ hu); clear HK x0 x1 x2 x3 x4 s0 s1 s2 s3 s4 ka0 ka1 ka2 ka3 ka4 b0 b1 b2 b3 b4 c0 c1 c2 c3 c4; have HK := HK2; clear HK2; clear hb hu; have x0 := (HK.out.a _ (.tail _ (.tail _ (.tail _ (.tail _ (.tail _ (.head _))))))).c0; have x1 := (HK.out.a _ (.tail _ (.tail _ (.tail _ (.tail _ (.tail _ (.head _))))))).c1; have x2 := (HK.out.a _ (.tail _ (.tail _ (.tail _ (.tail _ (.tail _ (.head _))))))).c2; have x3 := (HK.out.a _ (.tail _ (.tail _ (.tail _ (.tail _ (.tail _ (.head _))))))).c3; have x4 := (HK.out.a _ (.tail _ (.tail _ (.tail _ (.tail _ (.tail _ (.head _))))))).c4; have s0 := (HK.out.a _ (.tail _ (.tail _ (.tail _ (.tail _ (.head _)))))).c0; have s1 := (HK.out.a _ (.tail _ (.tail _ (.tail _ (.tail _ (.head _)))))).c1; have s2 := (HK.out.a _ (.tail _ (.tail _ (.tail _ (.tail _ (.head _)))))).c2; have s3 := (HK.out.a _ (.tail _ (.tail _ (.tail _ (.tail _ (.head _)))))).c3; have s4 := (HK.out.a _ (.tail _ (.tail _ (.tail _ (.tail _ (.head _)))))).c4; have ka0 := (HK.out.a _ (.tail _ (.tail _ (.tail _ (.head _))))).c0; have ka1 := (HK.out.a _ (.tail _ (.tail _ (.tail _ (.head _))))).c1; have ka2 := (HK.out.a _ (.tail _ (.tail _ (.tail _ (.head _))))).c2; have ka3 := (HK.out.a _ (.tail _ (.tail _ (.tail _ (.head _))))).c3; have ka4 := (HK.out.a _ (.tail _ (.tail _ (.tail _ (.head _))))).c4; have b0 := (HK.out.a _ (.tail _ (.tail _ (.head _)))).c0; have b1 := (HK.out.a _ (.tail _ (.tail _ (.head _)))).c1; have b2 := (HK.out.a _ (.tail _ (.tail _ (.head _)))).c2; have b3 := (HK.out.a _ (.tail _ (.tail _ (.head _)))).c3; have b4 := (HK.out.a _ (.tail _ (.tail _ (.head _)))).c4; have c0 := (HK.out.a _ (.tail _ (.head _))).c0; have c1 := (HK.out.a _ (.tail _ (.head _))).c1; have c2 := (HK.out.a _ (.tail _ (.head _))).c2; have c3 := (HK.out.a _ (.tail _ (.head _))).c3; have c4 := (HK.out.a _ (.tail _ (.head _))).c4; have d0 := (HK.out.a _ (.head _)).c0; have d1 := (HK.out.a _ (.head _)).c1; have d2 := (HK.out.a _ (.head _)).c2; have d3 := (HK.out.a _ (.head _)).c3; have d4 := (HK.out.a _ (.head _)).c4)
        | (go_at_call 16; (with_reducible refine (HT2.out _ _ _ (by with_unfolding_all exact HK.out.lay) (by with_unfolding_all exact HK.out.r _ (.tail _ (.tail _ (.tail _ (.head _))))) (by with_unfolding_all exact HK.out.r _ (.tail _ (.head _)))).mono ?_); rintro e wb ⟨uwb, rfl, hu, hb⟩; obtain ⟨pwb, cwb, hpwb, _, _⟩ := hu.form; have hqwb : uwb = (.slice pwb m5.length cwb) := hpwb; subst hqwb; clear hpwb; have hltbc : wa.heap.size < wb.heap.size := Nat.lt_of_lt_of_le (HK.out.lt _ (.head _)) hb.size; have hltkac : wk.heap.size < wb.heap.size := Nat.lt_of_lt_of_le (HK.out.lt _ (.tail _ (.head _))) hb.size; have hltsc : ws.heap.size < wb.heap.size := Nat.lt_of_lt_of_le (HK.out.lt _ (.tail _ (.tail _ (.head _)))) hb.size; have hltxc : w.heap.size < wb.heap.size := Nat.lt_of_lt_of_le (HK.out.lt _ (.tail _ (.tail _ (.tail _ (.head _))))) hb.size; have HK2 := Lib.hid (HK.out.res hb ⟨m1, m2, m3, m4, m5⟩ hu); clear HK x0 x1 x2 x3 x4 s0 s1 s2 s3 s4 ka0 ka1 ka2 ka3 ka4 b0 b1 b2 b3 b4; have HK := HK2; clear HK2; clear hb hu; have x0 := (HK.out.a _ (.tail _ (.tail _ (.tail _ (.tail _ (.head _)))))).c0; have x1 := (HK.out.a _ (.tail _ (.tail _ (.tail _ (.tail _ (.head _)))))).c1; have x2 := (HK.out.a _ (.tail _ (.tail _ (.tail _ (.tail _ (.head _)))))).c2; have x3 := (HK.out.a _ (.tail _ (.tail _ (.tail _ (.tail _ (.head _)))))).c3; have x4 := (HK.out.a _ (.tail _ (.tail _ (.tail _ (.tail _ (.head _)))))).c4; have s0 := (HK.out.a _ (.tail _ (.tail _ (.tail _ (.head _))))).c0; have s1 := (HK.out.a _ (.tail _ (.tail _ (.tail _ (.head _))))).c1; have s2 := (HK.out.a _ (.tail _ (.tail _ (.tail _ (.head _))))).c2; have s3 := (HK.out.a _ (.tail _ (.tail _ (.tail _ (.head _))))).c3; have s4 := (HK.out.a _ (.tail _ (.tail _ (.tail _ (.head _))))).c4; have ka0 := (HK.out.a _ (.tail _ (.tail _ (.head _)))).c0; have ka1 := (HK.out.a _ (.tail _ (.tail _ (.head _)))).c1; have ka2 := (HK.out.a _ (.tail _ (.tail _ (.head _)))).c2; have ka3 := (HK.out.a _ (.tail _ (.tail _ (.head _)))).c3; have ka4 := (HK.out.a _ (.tail _ (.tail _ (.head _)))).c4; have b0 := (HK.out.a _ (.tail _ (.head _))).c0; have b1 := (HK.out.a _ (.tail _ (.head _))).c1; have b2 := (HK.out.a _ (.tail _ (.head _))).c2; have b3 := (HK.out.a _ (.tail _ (.head _))).c3; have b4 := (HK.out.a _ (.tail _ (.head _))).c4; have c0 := (HK.out.a _ (.head _)).c0; have c1 := (HK.out.a _ (.head _)).c1; have c2 := (HK.out.a _ (.head _)).c2; have c3 := (HK.out.a _ (.head _)).c3; have c4 := (HK.out.a _ (.head _)).c4)
        | (go_at_call 16; (with_reducible refine (HT1.out _ _ _ (by with_unfolding_all exact HK.out.lay) (by with_unfolding_all exact HK.out.r _ (.tail _ (.tail _ (.head _)))) (by with_unfolding_all exact HK.out.r _ (.tail _ (.head _)))).mono ?_); rintro e wa ⟨uwa, rfl, hu, hb⟩; obtain ⟨pwa, cwa, hpwa, _, _⟩ := hu.form; have hqwa : uwa = (.slice pwa m5.length cwa) := hpwa; subst hqwa; clear hpwa; have hltkab : wk.heap.size < wa.heap.size := Nat.lt_of_lt_of_le (HK.out.lt _ (.head _)) hb.size; have hltsb : ws.heap.size < wa.heap.size := Nat.lt_of_lt_of_le (HK.out.lt _ (.tail _ (.head _))) hb.size; have hltxb : w.heap.size < wa.heap.size := Nat.lt_of_lt_of_le (HK.out.lt _ (.tail _ (.tail _ (.head _)))) hb.size; have HK2 := Lib.hid (HK.out.res hb ⟨m1, m2, m3, m4, m5⟩ hu); clear HK x0 x1 x2 x3 x4 s0 s1 s2 s3 s4 ka0 ka1 ka2 ka3 ka4; have HK := HK2; clear HK2; clear hb hu; have x0 := (HK.out.a _ (.tail _ (.tail _ (.tail _ (.head _))))).c0; have x1 := (HK.out.a _ (.tail _ (.tail _ (.tail _ (.head _))))).c1; have x2 := (HK.out.a _ (.tail _ (.tail _ (.tail _ (.head _))))).c2; have x3 := (HK.out.a _ (.tail _ (.tail _ (.tail _ (.head _))))).c3; have x4 := (HK.out.a _ (.tail _ (.tail _ (.tail _ (.head _))))).c4; have s0 := (HK.out.a _ (.tail _ (.tail _ (.head _)))).c0; have s1 := (HK.out.a _ (.tail _ (.tail _ (.head _)))).c1; have s2 := (HK.out.a _ (.tail _ (.tail _ (.head _)))).c2; have s3 := (HK.out.a _ (.tail _ (.tail _ (.head _)))).c3; have s4 := (HK.out.a _ (.tail _ (.tail _ (.head _)))).c4; have ka0 := (HK.out.a _ (.tail _ (.head _))).c0; have ka1 := (HK.out.a _ (.tail _ (.head _))).c1; have ka2 := (HK.out.a _ (.tail _ (.head _))).c2; have ka3 := (HK.out.a _ (.tail _ (.head _))).c3; have ka4 := (HK.out.a _ (.tail _ (.head _))).c4; have b0 := (HK.out.a _ (.head _)).c0; have b1 := (HK.out.a _ (.head _)).c1; have b2 := (HK.out.a _ (.head _)).c2; have b3 := (HK.out.a _ (.head _)).c3; have b4 := (HK.out.a _ (.head _)).c4)
        | (go_at_call 15; (with_reducible refine (HS2.out _ _ _ (by with_unfolding_all exact HK.out.r _ (.tail _ (.head _))) (by with_unfolding_all exact HK.out.r _ (.head _))).mono ?_); rintro e wz ⟨rfl, hb⟩; have HK2 := Lib.hid (HK.out.next hb); clear HK x0 x1 x2 x3 x4 s0 s1 s2 s3 s4 ka0 ka1 ka2 ka3 ka4 b0 b1 b2 b3 b4 c0 c1 c2 c3 c4 d0 d1 d2 d3 d4 h0 h1 h2 h3 h4; have HK := HK2; clear HK2; clear hb; have x0 := (HK.out.a _ (.tail _ (.tail _ (.tail _ (.tail _ (.tail _ (.tail _ (.head _)))))))).c0; have x1 := (HK.out.a _ (.tail _ (.tail _ (.tail _ (.tail _ (.tail _ (.tail _ (.head _)))))))).c1; have x2 := (HK.out.a _ (.tail _ (.tail _ (.tail _ (.tail _ (.tail _ (.tail _ (.head _)))))))).c2; have x3 := (HK.out.a _ (.tail _ (.tail _ (.tail _ (.tail _ (.tail _ (.tail _ (.head _)))))))).c3; have x4 := (HK.out.a _ (.tail _ (.tail _ (.tail _ (.tail _ (.tail _ (.tail _ (.head _)))))))).c4; have s0 := (HK.out.a _ (.tail _ (.tail _ (.tail _ (.tail _ (.tail _ (.head _))))))).c0; have s1 := (HK.out.a _ (.tail _ (.tail _ (.tail _ (.tail _ (.tail _ (.head _))))))).c1; have s2 := (HK.out.a _ (.tail _ (.tail _ (.tail _ (.tail _ (.tail _ (.head _))))))).c2; have s3 := (HK.out.a _ (.tail _ (.tail _ (.tail _ (.tail _ (.tail _ (.head _))))))).c3; have s4 := (HK.out.a _ (.tail _ (.tail _ (.tail _ (.tail _ (.tail _ (.head _))))))).c4; have ka0 := (HK.out.a _ (.tail _ (.tail _ (.tail _ (.tail _ (.head _)))))).c0; have ka1 := (HK.out.a _ (.tail _ (.tail _ (.tail _ (.tail _ (.head _)))))).c1; have ka2 := (HK.out.a _ (.tail _ (.tail _ (.tail _ (.tail _ (.head _)))))).c2; have ka3 := (HK.out.a _ (.tail _ (.tail _ (.tail _ (.tail _ (.head _)))))).c3; have ka4 := (HK.out.a _ (.tail _ (.tail _ (.tail _ (.tail _ (.head _)))))).c4; have b0 := (HK.out.a _ (.tail _ (.tail _ (.tail _ (.head _))))).c0; have b1 := (HK.out.a _ (.tail _ (.tail _ (.tail _ (.head _))))).c1; have b2 := (HK.out.a _ (.tail _ (.tail _ (.tail _ (.head _))))).c2; have b3 := (HK.out.a _ (.tail _ (.tail _ (.tail _ (.head _))))).c3; have b4 := (HK.out.a _ (.tail _ (.tail _ (.tail _ (.head _))))).c4; have c0 := (HK.out.a _ (.tail _ (.tail _ (.head _)))).c0; have c1 := (HK.out.a _ (.tail _ (.tail _ (.head _)))).c1; have c2 := (HK.out.a _ (.tail _ (.tail _ (.head _)))).c2; have c3 := (HK.out.a _ (.tail _ (.tail _ (.head _)))).c3; have c4 := (HK.out.a _ (.tail _ (.tail _ (.head _)))).c4; have d0 := (HK.out.a _ (.tail _ (.head _))).c0; have d1 := (HK.out.a _ (.tail _ (.head _))).c1; have d2 := (HK.out.a _ (.tail _ (.head _))).c2; have d3 := (HK.out.a _ (.tail _ (.head _))).c3; have d4 := (HK.out.a _ (.tail _ (.head _))).c4; have h0 := (HK.out.a _ (.head _)).c0; have h1 := (HK.out.a _ (.head _)).c1; have h2 := (HK.out.a _ (.head _)).c2; have h3 := (HK.out.a _ (.head _)).c3; have h4 := (HK.out.a _ (.head _)).c4)
        | (go_at_call 15; (with_reducible refine (HS1.out _ _ _ (by with_unfolding_all exact HK.out.r _ (.tail _ (.tail _ (.tail _ (.head _))))) (by with_unfolding_all exact HK.out.r _ (.tail _ (.tail _ (.head _))))).mono ?_); rintro e wz ⟨rfl, hb⟩; have HK2 := Lib.hid (HK.out.next hb); clear HK x0 x1 x2 x3 x4 s0 s1 s2 s3 s4 ka0 ka1 ka2 ka3 ka4 b0 b1 b2 b3 b4 c0 c1 c2 c3 c4 d0 d1 d2 d3 d4 h0 h1 h2 h3 h4; have HK := HK2; clear HK2; clear hb; have x0 := (HK.out.a _ (.tail _ (.tail _ (.tail _ (.tail _ (.tail _ (.tail _ (.head _)))))))).c0; have x1 := (HK.out.a _ (.tail _ (.tail _ (.tail _ (.tail _ (.tail _ (.tail _ (.head _)))))))).c1; have x2 := (HK.out.a _ (.tail _ (.tail _ (.tail _ (.tail _ (.tail _ (.tail _ (.head _)))))))).c2; have x3 := (HK.out.a _ (.tail _ (.tail _ (.tail _ (.tail _ (.tail _ (.tail _ (.head _)))))))).c3; have x4 := (HK.out.a _ (.tail _ (.tail _ (.tail _ (.tail _ (.tail _ (.tail _ (.head _)))))))).c4; have s0 := (HK.out.a _ (.tail _ (.tail _ (.tail _ (.tail _ (.tail _ (.head _))))))).c0; have s1 := (HK.out.a _ (.tail _ (.tail _ (.tail _ (.tail _ (.tail _ (.head _))))))).c1; have s2 := (HK.out.a _ (.tail _ (.tail _ (.tail _ (.tail _ (.tail _ (.head _))))))).c2; have s3 := (HK.out.a _ (.tail _ (.tail _ (.tail _ (.tail _ (.tail _ (.head _))))))).c3; have s4 := (HK.out.a _ (.tail _ (.tail _ (.tail _ (.tail _ (.tail _ (.head _))))))).c4; have ka0 := (HK.out.a _ (.tail _ (.tail _ (.tail _ (.tail _ (.head _)))))).c0; have ka1 := (HK.out.a _ (.tail _ (.tail _ (.tail _ (.tail _ (.head _)))))).c1; have ka2 := (HK.out.a _ (.tail _ (.tail _ (.tail _ (.tail _ (.head _)))))).c2; have ka3 := (HK.out.a _ (.tail _ (.tail _ (.tail _ (.tail _ (.head _)))))).c3; have ka4 := (HK.out.a _ (.tail _ (.tail _ (.tail _ (.tail _ (.head _)))))).c4; have b0 := (HK.out.a _ (.tail _ (.tail _ (.tail _ (.head _))))).c0; have b1 := (HK.out.a _ (.tail _ (.tail _ (.tail _ (.head _))))).c1; have b2 := (HK.out.a _ (.tail _ (.tail _ (.tail _ (.head _))))).c2; have b3 := (HK.out.a _ (.tail _ (.tail _ (.tail _ (.head _))))).c3; have b4 := (HK.out.a _ (.tail _ (.tail _ (.tail _ (.head _))))).c4; have c0 := (HK.out.a _ (.tail _ (.tail _ (.head _)))).c0; have c1 := (HK.out.a _ (.tail _ (.tail _ (.head _)))).c1; have c2 := (HK.out.a _ (.tail _ (.tail _ (.head _)))).c2; have c3 := (HK.out.a _ (.tail _ (.tail _ (.head _)))).c3; have c4 := (HK.out.a _ (.tail _ (.tail _ (.head _)))).c4; have d0 := (HK.out.a _ (.tail _ (.head _))).c0; have d1 := (HK.out.a _ (.tail _ (.head _))).c1; have d2 := (HK.out.a _ (.tail _ (.head _))).c2; have d3 := (HK.out.a _ (.tail _ (.head _))).c3; have d4 := (HK.out.a _ (.tail _ (.head _))).c4; have h0 := (HK.out.a _ (.head _)).c0; have h1 := (HK.out.a _ (.head _)).c1; have h2 := (HK.out.a _ (.head _)).c2; have h3 := (HK.out.a _ (.head _)).c3; have h4 := (HK.out.a _ (.head _)).c4)
        | (go_at_call 12; (with_reducible refine (HAw.out _ (by with_unfolding_all exact HK.out.lay)).mono ?_); rintro e wz ⟨rfl, hb⟩; have HK2 := Lib.hid (HK.out.next hb); clear HK x0 x1 x2 x3 x4 s0 s1 s2 s3 s4 ka0 ka1 ka2 ka3 ka4 b0 b1 b2 b3 b4 c0 c1 c2 c3 c4 d0 d1 d2 d3 d4 h0 h1 h2 h3 h4; have HK := HK2; clear HK2; clear hb; have x0 := (HK.out.a _ (.tail _ (.tail _ (.tail _ (.tail _ (.tail _ (.tail _ (.head _)))))))).c0; have x1 := (HK.out.a _ (.tail _ (.tail _ (.tail _ (.tail _ (.tail _ (.tail _ (.head _)))))))).c1; have x2 := (HK.out.a _ (.tail _ (.tail _ (.tail _ (.tail _ (.tail _ (.tail _ (.head _)))))))).c2; have x3 := (HK.out.a _ (.tail _ (.tail _ (.tail _ (.tail _ (.tail _ (.tail _ (.head _)))))))).c3; have x4 := (HK.out.a _ (.tail _ (.tail _ (.tail _ (.tail _ (.tail _ (.tail _ (.head _)))))))).c4; have s0 := (HK.out.a _ (.tail _ (.tail _ (.tail _ (.tail _ (.tail _ (.head _))))))).c0; have s1 := (HK.out.a _ (.tail _ (.tail _ (.tail _ (.tail _ (.tail _ (.head _))))))).c1; have s2 := (HK.out.a _ (.tail _ (.tail _ (.tail _ (.tail _ (.tail _ (.head _))))))).c2; have s3 := (HK.out.a _ (.tail _ (.tail _ (.tail _ (.tail _ (.tail _ (.head _))))))).c3; have s4 := (HK.out.a _ (.tail _ (.tail _ (.tail _ (.tail _ (.tail _ (.head _))))))).c4; have ka0 := (HK.out.a _ (.tail _ (.tail _ (.tail _ (.tail _ (.head _)))))).c0; have ka1 := (HK.out.a _ (.tail _ (.tail _ (.tail _ (.tail _ (.head _)))))).c1; have ka2 := (HK.out.a _ (.tail _ (.tail _ (.tail _ (.tail _ (.head _)))))).c2; have ka3 := (HK.out.a _ (.tail _ (.tail _ (.tail _ (.tail _ (.head _)))))).c3; have ka4 := (HK.out.a _ (.tail _ (.tail _ (.tail _ (.tail _ (.head _)))))).c4; have b0 := (HK.out.a _ (.tail _ (.tail _ (.tail _ (.head _))))).c0; have b1 := (HK.out.a _ (.tail _ (.tail _ (.tail _ (.head _))))).c1; have b2 := (HK.out.a _ (.tail _ (.tail _ (.tail _ (.head _))))).c2; have b3 := (HK.out.a _ (.tail _ (.tail _ (.tail _ (.head _))))).c3; have b4 := (HK.out.a _ (.tail _ (.tail _ (.tail _ (.head _))))).c4; have c0 := (HK.out.a _ (.tail _ (.tail _ (.head _)))).c0; have c1 := (HK.out.a _ (.tail _ (.tail _ (.head _)))).c1; have c2 := (HK.out.a _ (.tail _ (.tail _ (.head _)))).c2; have c3 := (HK.out.a _ (.tail _ (.tail _ (.head _)))).c3; have c4 := (HK.out.a _ (.tail _ (.tail _ (.head _)))).c4; have d0 := (HK.out.a _ (.tail _ (.head _))).c0; have d1 := (HK.out.a _ (.tail _ (.head _))).c1; have d2 := (HK.out.a _ (.tail _ (.head _))).c2; have d3 := (HK.out.a _ (.tail _ (.head _))).c3; have d4 := (HK.out.a _ (.tail _ (.head _))).c4; have h0 := (HK.out.a _ (.head _)).c0; have h1 := (HK.out.a _ (.head _)).c1; have h2 := (HK.out.a _ (.head _)).c2; have h3 := (HK.out.a _ (.head _)).c3; have h4 := (HK.out.a _ (.head _)).c4)
        | fail)
      go_ret
      exact ⟨rfl, HK.out.bel⟩
    | succ g =>
      have hjz : (j : Int) < (A.z.length : Int) := by omega
      have hj : j < A.z.length := by omega
      have hy : wr.cell? ⟨wk.heap.size + 1, j, none⟩ = some (.int .i64 0) := by
        rw [HRo.out.cell hj]; unfold zf; rw [if_neg (by omega)]
      have hyf : wr.frozen? ⟨wk.heap.size + 1, j, none⟩ = false := HRo.out.frozen j
      have HG : Hid ((List.replicate A.z.length x).getD j 0 = x) := rep_get hj
      clear HK HT1 HT2 HT3 HT4 HS1 HS2
      go_wp2_with fail
      go_roundg g
      case measure => omega
      case rel => exact ⟨j + 1, by omega, by go_num, HB.out.setCell (p := ⟨wk.heap.size + 1, j, none⟩) (by show wk.heap.size ≤ wk.heap.size + 1; omega) _, (blkO _ _ _ _ (by omega)).trans H5.out, zf_next HRo.out HG.out⟩
end Go.Proofs.YtmmnoldhiobgdaaDoor
