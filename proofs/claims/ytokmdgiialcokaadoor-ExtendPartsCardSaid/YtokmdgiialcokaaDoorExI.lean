/- One of the reference. -/
import Derived.Test.YtokmdgiialcokaaDoorExE
import Derived.Test.YtokmdgiialcokaaDoorScY
import Derived.Test.YtokmdgiialcokaaDoorMvV
namespace Go.Proofs.YtokmdgiialcokaaDoor
open Go.RowKit

theorem ar_cases (p : Int) : (Sc.arE p = 0 ∧ (Sc.arV p = 1 ∨ Sc.arV p = 2)) ∨ (Sc.arE p = 2 ∧ Sc.arV p = 0) := by
  unfold Sc.arE Sc.arV
  by_cases h1 : 1 ≤ p ∧ p ≤ 3
  · rw [if_pos (.inl h1), if_pos h1]; exact .inl ⟨rfl, .inl rfl⟩
  · by_cases h2 : 15 ≤ p ∧ p ≤ 32
    · rw [if_pos (.inr h2), if_neg h1, if_pos h2]; exact .inl ⟨rfl, .inr rfl⟩
    · rw [if_neg (fun h => h.elim h1 h2), if_neg h1, if_neg h2]; exact .inr ⟨rfl, rfl⟩
theorem take_vs {cs : List (Int × Int)} {j : Nat} {c : Int × Int} (h : cs[j]? = some c) : (vsL cs).take j ++ [c.1] = (vsL cs).take (j + 1) := by
  have hj : j < cs.length := by
    rcases Nat.lt_or_ge j cs.length with h' | h'
    · exact h'
    · rw [List.getElem?_eq_none h'] at h; cases h
  rw [← takeI_snoc (by rw [vsL_len]; exact hj), vsL_at (v := c.1) (e := c.2) h]
theorem ins_next10 {w w' : World} {B : Nat} {v : Value} {l : List Int} (h : Ru.Ins 2 w B v l) (hb : Below w.heap.size w w') : Ru.Ins 2 w' B v l := by
  obtain ⟨h1, h2⟩ := h
  refine ⟨h1, ?_⟩
  rcases h2 with h2 | ⟨g, cap, cur, hv, hg, hh, r⟩
  · exact .inl h2
  · exact .inr ⟨g, cap, cur, hv, hg, (hb.block g (Array.getElem?_eq_some_iff.1 hh).1).trans hh, r⟩
theorem ins_far {w : World} {B : Nat} {v : Value} {l : List Int} (h : Ru.Ins 2 w B v l) {c : Nat} (hc : c < B) (i : Nat) (u : Value) : Ru.Ins 2 (w.setCell ⟨c, i, none⟩ u) B v l := by
  obtain ⟨h1, h2⟩ := h
  refine ⟨h1, ?_⟩
  rcases h2 with h2 | ⟨g, cap, cur, hv, hg, hh, r⟩
  · exact .inl h2
  · exact .inr ⟨g, cap, cur, hv, hg, (blkO _ _ _ _ (by omega)).trans hh, r⟩
set_option maxRecDepth 100000 in
set_option maxHeartbeats 8000000 in
theorem rone10_any (p : Int) (A : Ar) (v : Value) (w : World) (hw : Ru.Lay w) (hv : RdI w.heap.size w v A.z) (hl : A.z.length ≤ 100000) (h64 : in64 A.z) :
    Calls Tryd.prog 39 #[.int .i64 p, A5 A.k A.r A.a A.b v] w (RetE (onV p A) (onE p A) w) := by
  have HAr := Lib.hid (fun W => Sc.rarity_any p W)
  have HCh := Lib.hid (fun W h => archeck_any A v W h (by omega))
  have HK := Lib.hid (MK1.new (A := A) hw hv)
  have HOne : Hid (∀ (x : Int) (W : World), Sc.inr x = true → Calls Tryd.prog 77 #[.int .i64 p, .int .i64 x] W fun e w' => e = .returned (.tuple #[.int .i64 (Sc.oneV p x).1, .int .i64 (Sc.oneV p x).2]) ∧ W = w') := fun x W h => Sc.rone_any p x W (inr_lo h) (inr_hi h)
  have HI := Lib.hid h64
  obtain ⟨q, cap, rfl, hv1, hv2, hv3⟩ := hv
  clear hv1 hv2 hv3 hw h64
  have x0 := HK.out.box.c0; have x1 := HK.out.box.c1; have x2 := HK.out.box.c2; have x3 := HK.out.box.c3; have x4 := HK.out.box.c4
  have hac := ar_cases p
  by_cases h1 : Sc.arV p ≠ 1
  · have e0 : onV p A = Ar.no := by unfold onV; rw [onF_two h1]; exact exV_no (by decide) _ _
    have e1 : onE p A = 2 := by unfold onE; rw [onF_two h1]; exact exE_bad (by decide) _
    rw [e0, e1]
    clear e0 e1 HOne HI
    rcases hac with ⟨h2, h3⟩ | ⟨h2, h3⟩
    · have h4 : Sc.arV p = 2 := by omega
      rw [h2, h4] at HAr
      clear h1 h2 h3 h4
      go_enter Tryd.func39, Tryd.ntmps39
      go_wp2_with (first
        | (go_at_call 76; (with_reducible refine (HAr.out _).mono ?_); rintro e wz ⟨rfl, rfl⟩)
        | fail)
      refine bodyPost_ret (v := .tuple #[A5 0 0 0 0 (.slice none 0 0), .int .i64 2]) (by simp [results, Tryd.results39, go_sem]) rfl ?_
      exact retE_no _ HK.out.bel
    · rw [h2, h3] at HAr
      clear h1 h2 h3
      go_enter Tryd.func39, Tryd.ntmps39
      go_wp2_with (first
        | (go_at_call 76; (with_reducible refine (HAr.out _).mono ?_); rintro e wz ⟨rfl, rfl⟩)
        | fail)
      refine bodyPost_ret (v := .tuple #[A5 0 0 0 0 (.slice none 0 0), .int .i64 2]) (by simp [results, Tryd.results39, go_sem]) rfl ?_
      exact retE_no _ HK.out.bel
  · have h1' : Sc.arV p = 1 := by omega
    have h2 : Sc.arE p = 0 := by omega
    rw [h1', h2] at HAr
    have hF := onF_fa (p := p) (A := A) h1'
    clear h1 h2 hac h1'
    by_cases h3 : ck A ≠ 0
    · have h4 : onF p A = ck A := by rw [hF]; unfold faV; rw [if_neg h3]
      have e0 : onV p A = Ar.no := by unfold onV; rw [h4]; exact exV_no h3 _ _
      have e1 : onE p A = ck A := by unfold onE; rw [h4]; exact exE_bad h3 _
      rw [e0, e1]
      generalize ck A = E at HCh h3 ⊢
      have k1 : (E == 0) = false := by simpa using h3
      have k2 : (E != 0) = true := by simpa using h3
      clear e0 e1 h3 h4 hF HOne HI
      have y0 := HK.out.res.c0
      have y1 := HK.out.res.c1
      have y2 := HK.out.res.c2
      have y3 := HK.out.res.c3
      have y4 := HK.out.res.c4
      have f0 := HK.out.res.fr 0
      have f1 := HK.out.res.fr 1
      have f2 := HK.out.res.fr 2
      have f3 := HK.out.res.fr 3
      have f4 := HK.out.res.fr 4
      have HS := Lib.hid (HK.out.res.set 0 0 0 0 (.slice none 0 0))
      have z0 := HS.out.c0
      have z1 := HS.out.c1
      have z2 := HS.out.c2
      have z3 := HS.out.c3
      have z4 := HS.out.c4
      go_enter Tryd.func39, Tryd.ntmps39
      go_wp2_with (first
        | (go_at_call 76; (with_reducible refine (HAr.out _).mono ?_); rintro e wz ⟨rfl, rfl⟩)
        | (go_at_call 14; (with_reducible refine (HCh.out _ HK.out.rdn).mono ?_); rintro e wz ⟨rfl, hb⟩; clear y0 f0 y1 f1 y2 f2 y3 f3 y4 f4 HS z0 z1 z2 z3 z4; have HK2 := Lib.hid (HK.out.next hb); clear HK x0 x1 x2 x3 x4; have HK := HK2; clear HK2; clear hb; have x0 := HK.out.box.c0; have x1 := HK.out.box.c1; have x2 := HK.out.box.c2; have x3 := HK.out.box.c3; have x4 := HK.out.box.c4; have y0 := HK.out.res.c0; have y1 := HK.out.res.c1; have y2 := HK.out.res.c2; have y3 := HK.out.res.c3; have y4 := HK.out.res.c4; have f0 := HK.out.res.fr 0; have f1 := HK.out.res.fr 1; have f2 := HK.out.res.fr 2; have f3 := HK.out.res.fr 3; have f4 := HK.out.res.fr 4; have HS := Lib.hid (HK.out.res.set 0 0 0 0 (.slice none 0 0)); have z0 := HS.out.c0; have z1 := HS.out.c1; have z2 := HS.out.c2; have z3 := HS.out.c3; have z4 := HS.out.c4)
        | fail)
      refine bodyPost_ret (v := .tuple #[A5 0 0 0 0 (.slice none 0 0), .int .i64 E]) (by simp [results, Tryd.results39, go_sem, z0, z1, z2, z3, z4]) rfl ?_
      exact retE_no _ (st5_below _ _ _ _ _ (by omega) HK.out.bel)
    · have h3' : ck A = 0 := by omega
      rw [h3'] at HCh
      clear h3
      by_cases h5 : A.k = 1
      rotate_left
      · have h6 : (A.k == 1) = false := by simpa using h5
        have h4 : onF p A = 21 := by rw [hF, h3', h6]; rfl
        have e0 : onV p A = Ar.no := by unfold onV; rw [h4]; exact exV_no (by decide) _ _
        have e1 : onE p A = 21 := by unfold onE; rw [h4]; exact exE_bad (by decide) _
        rw [e0, e1]
        have k1 : (A.k != 1) = true := by simpa using h5
        clear e0 e1 h3' h4 h5 h6 hF HOne HI
        have y0 := HK.out.res.c0
        have y1 := HK.out.res.c1
        have y2 := HK.out.res.c2
        have y3 := HK.out.res.c3
        have y4 := HK.out.res.c4
        have f0 := HK.out.res.fr 0
        have f1 := HK.out.res.fr 1
        have f2 := HK.out.res.fr 2
        have f3 := HK.out.res.fr 3
        have f4 := HK.out.res.fr 4
        have HS := Lib.hid (HK.out.res.set 0 0 0 0 (.slice none 0 0))
        have z0 := HS.out.c0
        have z1 := HS.out.c1
        have z2 := HS.out.c2
        have z3 := HS.out.c3
        have z4 := HS.out.c4
        go_enter Tryd.func39, Tryd.ntmps39
        go_wp2_with (first
          | (go_at_call 76; (with_reducible refine (HAr.out _).mono ?_); rintro e wz ⟨rfl, rfl⟩)
          | (go_at_call 14; (with_reducible refine (HCh.out _ HK.out.rdn).mono ?_); rintro e wz ⟨rfl, hb⟩; clear y0 f0 y1 f1 y2 f2 y3 f3 y4 f4 HS z0 z1 z2 z3 z4; have HK2 := Lib.hid (HK.out.next hb); clear HK x0 x1 x2 x3 x4; have HK := HK2; clear HK2; clear hb; have x0 := HK.out.box.c0; have x1 := HK.out.box.c1; have x2 := HK.out.box.c2; have x3 := HK.out.box.c3; have x4 := HK.out.box.c4; have y0 := HK.out.res.c0; have y1 := HK.out.res.c1; have y2 := HK.out.res.c2; have y3 := HK.out.res.c3; have y4 := HK.out.res.c4; have f0 := HK.out.res.fr 0; have f1 := HK.out.res.fr 1; have f2 := HK.out.res.fr 2; have f3 := HK.out.res.fr 3; have f4 := HK.out.res.fr 4; have HS := Lib.hid (HK.out.res.set 0 0 0 0 (.slice none 0 0)); have z0 := HS.out.c0; have z1 := HS.out.c1; have z2 := HS.out.c2; have z3 := HS.out.c3; have z4 := HS.out.c4)
          | fail)
        refine bodyPost_ret (v := .tuple #[A5 0 0 0 0 (.slice none 0 0), .int .i64 21]) (by simp [results, Tryd.results39, go_sem, z0, z1, z2, z3, z4]) rfl ?_
        exact retE_no _ (st5_below _ _ _ _ _ (by omega) HK.out.bel)
      · have h6 : (A.k == 1) = true := by simpa using h5
        have h4 : onF p A = 0 := by rw [hF, h3', h6]; rfl
        have hA := ck_good h3'
        have hX : onV p A = exV 0 A (c1 p A) := by unfold onV; rw [h4]
        have hY : onE p A = feL (c1 p A) := by unfold onE; rw [h4]; exact exE_ok _
        have HX := Lib.hid hX
        have HY := Lib.hid hY
        have HOV : Hid (feL (c1 p A) = 0 → exV 0 A (c1 p A) = ⟨1, A.r, A.a, A.b, vsL (c1 p A)⟩) := exV_ok
        have HOB : Hid (feL (c1 p A) ≠ 0 → exV 0 A (c1 p A) = Ar.no) := exV_bad
        have HAt : Hid (∀ j, j < A.z.length → (c1 p A)[j]? = some (Sc.oneV p (A.z.getD j 0))) := fun j hj => c1_at hj
        have HLn : Hid ((c1 p A).length = A.z.length) := c1_len p A
        have h400 := hA.len4
        have k1 : (A.k != 1) = false := by simpa using h5
        clear h3' h4 h5 h6 hF hA hX hY
        generalize c1 p A = cs at HX HY HOV HOB HAt HLn
        go_enter Tryd.func39, Tryd.ntmps39
        go_wp2_with (first
          | (go_at_call 76; (with_reducible refine (HAr.out _).mono ?_); rintro e wz ⟨rfl, rfl⟩)
          | (go_at_call 14; (with_reducible refine (HCh.out _ HK.out.rdn).mono ?_); rintro e w1 ⟨rfl, hb⟩; have HK2 := Lib.hid (HK.out.next hb); clear HK x0 x1 x2 x3 x4; have HK := HK2; clear HK2; clear hb; have x0 := HK.out.box.c0; have x1 := HK.out.box.c1; have x2 := HK.out.box.c2; have x3 := HK.out.box.c3; have x4 := HK.out.box.c4)
          | fail)
        have hsz := HK.out.sz
        clear HAr HCh x0 x1 x2 x3 x4
        go_loopg [9] A.z.length (fun g i wr => ∃ (j : Nat) (u : Value), j + g = A.z.length ∧ i = .int .i64 j ∧ okT cs j ∧ Below w1.heap.size w1 wr ∧ R5 wr w1.heap.size 1 A.r A.a A.b u ∧ Ru.Ins 2 wr (w1.heap.size + 1) u ((vsL cs).take j))
        case atStart => exact ⟨0, _, by omega, rfl, okT_zero _, bel1 _ _, R5.new _ _ _ _ _ _, ins_nil _ _⟩
        case round =>
          obtain ⟨j, u, hjg, rfl, hok, hbl, h5, hin⟩ := hrel
          have HOk := Lib.hid hok
          have HB := Lib.hid hbl
          have HO := Lib.hid h5
          have HN := Lib.hid hin
          have HM := Lib.hid (HK.out.next hbl)
          clear hok hbl h5 hin
          have x4 := HM.out.box.c4
          cases gk with
          | zero =>
            have hjz : ¬ ((j : Int) < (A.z.length : Int)) := by omega
            have ej : j = A.z.length := by omega
            have HZ : Hid (feL cs = 0) := okT_all HOk.out (by rw [HLn.out]; exact ej.symm)
            have HU : Hid (RdN (w1.heap.size + 1) wr u (vsL cs)) := by
              have h := ins_new HN.out
              rwa [List.take_of_length_le (by rw [vsL_len, HLn.out]; omega)] at h
            clear HOk HN HK ej
            obtain ⟨qu, cu, hqu, hu1, hu2⟩ := HU.out.form
            subst hqu
            clear hu1 hu2
            have o0 := HO.out.c0; have o1 := HO.out.c1; have o2 := HO.out.c2; have o3 := HO.out.c3; have o4 := HO.out.c4
            have y0 := HM.out.res.c0; have y1 := HM.out.res.c1; have y2 := HM.out.res.c2; have y3 := HM.out.res.c3; have y4 := HM.out.res.c4; have f0 := HM.out.res.fr 0; have f1 := HM.out.res.fr 1; have f2 := HM.out.res.fr 2; have f3 := HM.out.res.fr 3; have f4 := HM.out.res.fr 4
            have HS := Lib.hid (HM.out.res.set 1 A.r A.a A.b (.slice qu (vsL cs).length cu))
            have z0 := HS.out.c0; have z1 := HS.out.c1; have z2 := HS.out.c2; have z3 := HS.out.c3; have z4 := HS.out.c4
            go_wp2_with fail
            refine bodyPost_ret (v := .tuple #[A5 1 A.r A.a A.b (.slice qu (vsL cs).length cu), .int .i64 0]) (by simp [results, Tryd.results39, go_sem, z0, z1, z2, z3, z4]) rfl ?_
            rw [HX.out, HY.out, HOV.out HZ.out, HZ.out]
            exact ⟨_, rfl, (HU.out.st5 (by omega) _ _ _ _ _).mono (by omega), st5_below _ _ _ _ _ (by omega) HM.out.bel⟩
          | succ g =>
            have hjz : (j : Int) < (A.z.length : Int) := by omega
            have hj : j < A.z.length := by omega
            obtain ⟨b1, o1, he, hb1, hc⟩ := HM.out.rd.cells (by intro e; rw [e] at hj; simp at hj)
            cases he
            have xc := hc j hj
            have hg : A.z.getD j 0 = A.z[j] := by rw [List.getD_eq_getElem?_getD, List.getElem?_eq_getElem hj]; rfl
            have hcs := HAt.out j hj
            have hi := HI.out.get j
            rw [hg] at hcs hi
            generalize A.z[j] = x at xc hcs hi
            clear hc hb1 hg hj
            have HC := Lib.hid (fun W => HOne.out x W hi)
            generalize Sc.oneV p x = c at HC hcs
            obtain ⟨c, E⟩ := c
            simp only at HC
            clear hi
            by_cases hE : E = 0
            · subst hE
              have HOk2 : Hid (okT cs (j + 1)) := okT_next HOk.out hcs
              have HTk : Hid ((vsL cs).take j ++ [c] = (vsL cs).take (j + 1)) := take_vs hcs
              have hlen : ((vsL cs).take j).length + 1 ≤ 1000000 := by rw [List.length_take, vsL_len, HLn.out]; omega
              have o4 := HO.out.c4
              have hsz2 : w1.heap.size + 1 ≤ wr.heap.size := HO.out.lt
              generalize (vsL cs).take j = T at HN HTk hlen
              clear hcs HOk HAt HLn HOne HI HX HY HOV HOB HK
              go_wp2_with (first
                | (go_at_call 77; (with_reducible refine (HC.out _).mono ?_); rintro e wz ⟨rfl, rfl⟩)
                | (at_builtin; refine wpList_app1 (by simp [Region.wanted]) _ _ rfl (w1.heap.size + 1) _ T rfl HN.out c rfl hlen hsz2 ?_; intro u2 w2 hu2 hb2; obtain ⟨qa, qc, hq2, _, _⟩ := (ins_new hu2).form; rw [List.length_append, List.length_singleton] at hq2; subst hq2; have HO2 : Hid (R5 w2 w1.heap.size 1 A.r A.a A.b u) := HO.out.below (by omega) hb2; have HB2 := Lib.hid (HB.out.trans (hb2.mono (by omega))); have HN2 := Lib.hid hu2; have p4 := HO2.out.c4; have pf := HO2.out.fr 4; clear hu2 hb2 o4 x4)
                | fail)
              go_roundg g
              case measure => omega
              case rel => exact ⟨j + 1, _, by omega, by go_num, HOk2.out, HB2.out.setCell (p := ⟨w1.heap.size, 4, none⟩) (Nat.le_refl _) _, HO2.out.put4 _, by rw [← HTk.out]; exact ins_far HN2.out (by omega) _ _⟩
            · have HFe : Hid (feL cs = E) := okT_bad HOk.out hcs hE
              have HNz := Lib.hid hE
              have k2 : (E != 0) = true := by simpa using hE
              have y0 := HM.out.res.c0; have y1 := HM.out.res.c1; have y2 := HM.out.res.c2; have y3 := HM.out.res.c3; have y4 := HM.out.res.c4; have f0 := HM.out.res.fr 0; have f1 := HM.out.res.fr 1; have f2 := HM.out.res.fr 2; have f3 := HM.out.res.fr 3; have f4 := HM.out.res.fr 4
              have HS := Lib.hid (HM.out.res.set 0 0 0 0 (.slice none 0 0))
              have z0 := HS.out.c0; have z1 := HS.out.c1; have z2 := HS.out.c2; have z3 := HS.out.c3; have z4 := HS.out.c4
              clear hcs HOk HAt HLn HOne HI hE HN HK
              go_wp2_with (first
                | (go_at_call 77; (with_reducible refine (HC.out _).mono ?_); rintro e wz ⟨rfl, rfl⟩)
                | fail)
              refine bodyPost_ret (v := .tuple #[A5 0 0 0 0 (.slice none 0 0), .int .i64 E]) (by simp [results, Tryd.results39, go_sem, z0, z1, z2, z3, z4]) rfl ?_
              rw [HX.out, HY.out, HOB.out (by rw [HFe.out]; exact HNz.out), HFe.out]
              exact retE_no _ (st5_below _ _ _ _ _ (by omega) HM.out.bel)
end Go.Proofs.YtokmdgiialcokaaDoor
