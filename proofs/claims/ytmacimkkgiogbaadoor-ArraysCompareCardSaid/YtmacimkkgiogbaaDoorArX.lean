/- Compare of the reference. -/
import Derived.Test.YtmacimkkgiogbaaDoorArP
import Derived.Test.YtmacimkkgiogbaaDoorArF
namespace Go.Proofs.YtmacimkkgiogbaaDoor
open Go.RowKit

/-- The order at the first place where two lists differ. -/
def fdZ : List Int → List Int → Int
  | x :: l, y :: m => if x = y then fdZ l m else cmZ x y
  | _, _ => 0
theorem cm_self (x : Int) : cmZ x x = 0 := by unfold cmZ; rw [if_neg (by omega), if_neg (by omega)]
theorem cm_ne {x y : Int} (h : x ≠ y) : cmZ x y ≠ 0 := by
  unfold cmZ
  by_cases h1 : x < y
  · rw [if_pos h1]; decide
  · rw [if_neg h1, if_pos (by omega)]; decide
theorem fd_lx : ∀ (l m : List Int), l.length = m.length → fdZ l m = lxZ l m
  | [], [], _ => rfl
  | x :: l, y :: m, h => by
    simp only [fdZ, lxZ]
    by_cases e : x = y
    · subst e
      rw [if_pos rfl, if_pos (cm_self x)]
      exact fd_lx l m (by simpa using h)
    · rw [if_neg e, if_neg (cm_ne e)]
def hdZ (A : Ar) : List Int := [A.k, A.r, A.a, A.b] ++ A.z
theorem lx_two (a b a' b' : Int) : (a = a' → b = b' → lxZ [a, b] [a', b'] = 0) ∧ (a ≠ a' → lxZ [a, b] [a', b'] = cmZ a a') ∧ (a = a' → b ≠ b' → lxZ [a, b] [a', b'] = cmZ b b') := by
  refine ⟨fun h k => ?_, fun h => ?_, fun h k => ?_⟩
  · subst h; subst k; simp [lxZ, cm_self]
  · simp [lxZ, cm_ne h]
  · subst h; simp [lxZ, cm_self, cm_ne k]
theorem fd_cm {A B : Ar} (ha : Good A) (hb : Good B) : fdZ (hdZ A) (hdZ B) = cmV A B := by
  have h1 := ha.len
  have h2 := hb.len
  obtain ⟨q1, q2, q3⟩ := lx_two A.a A.b B.a B.b
  unfold hdZ cmV
  generalize lxZ [A.a, A.b] [B.a, B.b] = X at q1 q2 q3 ⊢
  simp only [List.cons_append, List.nil_append, fdZ, orZ]
  by_cases e1 : A.k = B.k
  · rw [if_pos e1, e1, if_pos (cm_self _)]
    by_cases e2 : A.r = B.r
    · rw [if_pos e2, e2, if_pos (cm_self _)]
      by_cases e3 : A.a = B.a
      · rw [if_pos e3]
        by_cases e4 : A.b = B.b
        · rw [if_pos e4, q1 e3 e4, if_pos rfl, fd_lx A.z B.z (by rw [e2, e3, e4] at h1; omega)]
          by_cases e5 : lxZ A.z B.z = 0
          · rw [if_pos e5, e5]
          · rw [if_neg e5]
        · rw [if_neg e4, q3 e3 e4, if_neg (cm_ne e4)]
      · rw [if_neg e3, q2 e3, if_neg (cm_ne e3)]
    · rw [if_neg e2, if_neg (cm_ne e2)]
  · rw [if_neg e1, if_neg (cm_ne e1)]
theorem fd_eq {l m : List Int} {j : Nat} (hl : j < l.length) (hm : j < m.length) (h : l[j] = m[j]) : fdZ (l.drop j) (m.drop j) = fdZ (l.drop (j + 1)) (m.drop (j + 1)) := by
  rw [List.drop_eq_getElem_cons hl, List.drop_eq_getElem_cons hm]
  simp only [fdZ, h, if_true]
theorem fd_ne {l m : List Int} {j : Nat} (hl : j < l.length) (hm : j < m.length) (h : l[j] ≠ m[j]) : fdZ (l.drop j) (m.drop j) = cmZ l[j] m[j] := by
  rw [List.drop_eq_getElem_cons hl, List.drop_eq_getElem_cons hm]
  simp only [fdZ]
  exact if_neg h
theorem fd_end {l m : List Int} {j : Nat} (h : ¬ j < l.length ∨ ¬ j < m.length) : fdZ (l.drop j) (m.drop j) = 0 := by
  rcases h with h | h
  · rw [List.drop_eq_nil_of_le (show l.length ≤ j by omega)]
    cases m.drop j <;> rfl
  · rw [List.drop_eq_nil_of_le (show m.length ≤ j by omega)]
    cases l.drop j <;> rfl
set_option maxHeartbeats 1000000 in
theorem rord_any (a b : Int) (w : World) : Calls Tryd.prog 64 #[.int .i64 a, .int .i64 b] w fun e w' => e = .returned (.int .i64 (cmZ a b)) ∧ w = w' := by
  by_cases h1 : a < b
  · rw [show cmZ a b = -1 from if_pos h1]
    go_enter Tryd.func64, Tryd.ntmps64
    go_wp2
    go_ret
    exact ⟨rfl, rfl⟩
  · by_cases h2 : b < a
    · rw [show cmZ a b = 1 by unfold cmZ; rw [if_neg h1, if_pos h2]]
      go_enter Tryd.func64, Tryd.ntmps64
      go_wp2
      go_ret
      exact ⟨rfl, rfl⟩
    · rw [show cmZ a b = 0 by unfold cmZ; rw [if_neg h1, if_neg h2]]
      go_enter Tryd.func64, Tryd.ntmps64
      go_wp2
      go_ret
      exact ⟨rfl, rfl⟩
theorem four_lit (W : World) (a b c d : Int) : Ru.Ins 2 (W.alloc (.cells #[.int .i64 a, .int .i64 b, .int .i64 c, .int .i64 d] 2)) W.heap.size (.slice (some ⟨W.heap.size, 0, none⟩) 4 4) [a, b, c, d] :=
  World.ownsRow_lit W #[.int .i64 a, .int .i64 b, .int .i64 c, .int .i64 d] 4 (Nat.le_refl _) (by decide) rfl

set_option maxRecDepth 100000 in
set_option maxHeartbeats 8000000 in
theorem rcompare_any (A B : Ar) (v u : Value) (w : World) (hv : RdI w.heap.size w v A.z) (hu : RdI w.heap.size w u B.z) (hnv : Ru.NilC v) (hnu : Ru.NilC u) (hl : A.z.length ≤ 100000) (hm : B.z.length ≤ 100000) :
    Calls Tryd.prog 37 #[A5 A.k A.r A.a A.b v, A5 B.k B.r B.a B.b u] w fun e w' => e = .returned (.tuple #[.int .i64 (cpV A B), .int .i64 (cpE A B)]) ∧ Below w.heap.size w w' := by
  have HC1 := Lib.hid (fun W h2 => archeck_any A v W h2 (by omega))
  have HC2 := Lib.hid (fun W h2 => archeck_any B u W h2 (by omega))
  have HK := Lib.hid (KD.new (A := A) (B := B) hv hu)
  have HNv := Lib.hid hnv
  have HNu := Lib.hid hnu
  have x0 := HK.out.b0.c0; have x1 := HK.out.b0.c1; have x2 := HK.out.b0.c2; have x3 := HK.out.b0.c3; have x4 := HK.out.b0.c4
  have y0 := HK.out.b1.c0; have y1 := HK.out.b1.c1; have y2 := HK.out.b1.c2; have y3 := HK.out.b1.c3; have y4 := HK.out.b1.c4
  obtain ⟨p, cap, rfl, hcap, hcap2, hcell⟩ := hv
  obtain ⟨q, cap', rfl, hcap', hcap2', hcell'⟩ := hu
  clear hcell hcell' hnv hnu
  by_cases h1 : ck A = 0
  · have HE0 : Hid (cpE A B = ck B) := if_pos h1
    by_cases h2 : ck B = 0
    · have HE : Hid (cpV A B = fdZ (hdZ A) (hdZ B) ∧ cpE A B = 0) := by
        have e : cpE A B = 0 := HE0.out.trans h2
        exact ⟨(if_pos e).trans (fd_cm (ck_good h1) (ck_good h2)).symm, e⟩
      rw [HE.out.1, HE.out.2]
      rw [h1] at HC1
      rw [h2] at HC2
      have HLa : Hid ((hdZ A).length = 4 + A.z.length) := by unfold Hid hdZ; simp; omega
      have HLb : Hid ((hdZ B).length = 4 + B.z.length) := by unfold Hid hdZ; simp; omega
      clear h1 h2 HE0 HE
      go_enter Tryd.func37, Tryd.ntmps37
      go_wp2_with (first
        | (go_at_call 18; (with_reducible refine (HC1.out _ (by with_unfolding_all exact HK.out.rd0)).mono ?_); rintro e w' ⟨rfl, hb⟩; have HK2 := Lib.hid (HK.out.next hb); clear HK hb x0 x1 x2 x3 x4 y0 y1 y2 y3 y4; have HK := HK2; clear HK2; have x0 := HK.out.b0.c0; have x1 := HK.out.b0.c1; have x2 := HK.out.b0.c2; have x3 := HK.out.b0.c3; have x4 := HK.out.b0.c4; have y0 := HK.out.b1.c0; have y1 := HK.out.b1.c1; have y2 := HK.out.b1.c2; have y3 := HK.out.b1.c3; have y4 := HK.out.b1.c4)
        | (go_at_call 18; (with_reducible refine (HC2.out _ (by with_unfolding_all exact HK.out.rd1)).mono ?_); rintro e w1 ⟨rfl, hb⟩; have HK2 := Lib.hid (HK.out.next hb); clear HK hb x0 x1 x2 x3 x4 y0 y1 y2 y3 y4; have HK := HK2; clear HK2; have x0 := HK.out.b0.c0; have x1 := HK.out.b0.c1; have x2 := HK.out.b0.c2; have x3 := HK.out.b0.c3; have x4 := HK.out.b0.c4; have y0 := HK.out.b1.c0; have y1 := HK.out.b1.c1; have y2 := HK.out.b1.c2; have y3 := HK.out.b1.c3; have y4 := HK.out.b1.c4; have HO1 := Lib.hid (four_lit w1 A.k A.r A.a A.b); have HK3 := Lib.hid (HK.out.next (bel1 w1 (.cells #[.int .i64 A.k, .int .i64 A.r, .int .i64 A.a, .int .i64 A.b] 2))); have x4n := HK3.out.b0.c4; have HK0 := HK; clear HK; have hk1 := True.intro)
        | (at_builtin; have hq := hk1; clear hq; refine Ru.wpList_append_is (by simp [Region.wanted]) _ _ rfl w1.heap.size _ _ rfl HO1.out _ A.z rfl _ HK3.out.rd0.ru HNv.out (by simp; omega) (by simp) ?_; intro u2 w2 hu2 hg2; have hgb := (Below.refl w1.heap.size _).grown hg2 (by simp) (fun k e => (World.ownsRow.lt HO1.out k e).1); have hb2 := (bel1 w1 (.cells #[.int .i64 A.k, .int .i64 A.r, .int .i64 A.a, .int .i64 A.b] 2)).trans hgb; clear hk1 hg2 hgb; have hu2' : Ru.Ins 2 w2 w1.heap.size u2 (hdZ A) := hu2; obtain ⟨a2, c2, rfl, _, _⟩ := (ins_new hu2').form; have HX := Lib.hid (ins_new hu2').rd; clear hu2 hu2'; have HK4 := Lib.hid (HK0.out.next hb2); clear HK0 HK3 x4n hb2 HO1; have y0 := HK4.out.b1.c0; have y1 := HK4.out.b1.c1; have y2 := HK4.out.b1.c2; have y3 := HK4.out.b1.c3; have y4 := HK4.out.b1.c4; have HO2 := Lib.hid (four_lit w2 B.k B.r B.a B.b); have HK5 := Lib.hid (HK4.out.next (bel1 w2 (.cells #[.int .i64 B.k, .int .i64 B.r, .int .i64 B.a, .int .i64 B.b] 2))); have y4n := HK5.out.b1.c4; have HX2 := Lib.hid (HX.out.next (bel1 w2 (.cells #[.int .i64 B.k, .int .i64 B.r, .int .i64 B.a, .int .i64 B.b] 2))); have hk2 := True.intro)
        | (at_builtin; have hq := hk2; clear hq; refine Ru.wpList_append_is (by simp [Region.wanted]) _ _ rfl w2.heap.size _ _ rfl HO2.out _ B.z rfl _ HK5.out.rd1.ru HNu.out (by simp; omega) (by simp) ?_; intro u3 w3 hu3 hg3; have hgb := (Below.refl w2.heap.size _).grown hg3 (by simp) (fun k e => (World.ownsRow.lt HO2.out k e).1); have hb3 := (bel1 w2 (.cells #[.int .i64 B.k, .int .i64 B.r, .int .i64 B.a, .int .i64 B.b] 2)).trans hgb; clear hk2 hg3 hgb; have hu3' : Ru.Ins 2 w3 w2.heap.size u3 (hdZ B) := hu3; obtain ⟨a3, c3, rfl, _, _⟩ := (ins_new hu3').form; have HY := Lib.hid (ins_new hu3').rd; clear hu3 hu3'; have HX3 := Lib.hid (HX.out.next hb3); have HB := Lib.hid (HK4.out.next hb3).bel; clear HK4 HK5 HX HX2 HO2 hb3 y0 y1 y2 y3 y4 y4n))
      have hXl : (hdZ A).length ≤ 1000000 := by rw [HLa.out]; omega
      clear HLa HLb HC1 HC2 HNv HNu
      go_loopw [9] (fun i wr => ∃ j : Nat, j ≤ (hdZ A).length ∧ i = .int .i64 j ∧ (Below w.heap.size w wr ∧ RdI wr.heap.size wr (.slice a2 (hdZ A).length c2) (hdZ A) ∧ RdI wr.heap.size wr (.slice a3 (hdZ B).length c3) (hdZ B)) ∧ Hid (fdZ (hdZ A) (hdZ B) = fdZ ((hdZ A).drop j) ((hdZ B).drop j))) (fun i _ => (hdZ A).length - (intOf i).toNat)
      case atStart => exact ⟨0, by omega, rfl, ⟨HB.out, HX3.out, HY.out⟩, rfl⟩
      case round =>
        obtain ⟨j, hj, rfl, hS, hq⟩ := hrel
        have HS := Lib.hid hS
        clear hS HB HX3 HY
        by_cases hlt : j < (hdZ A).length
        · have hi1 : (j : Int) < ((hdZ A).length : Int) := by omega
          by_cases hlt2 : j < (hdZ B).length
          · have hi2 : (j : Int) < ((hdZ B).length : Int) := by omega
            obtain ⟨g, off, rfl, hbb, hc⟩ := HS.out.2.1.cells (by intro e; rw [e] at hlt; simp at hlt)
            obtain ⟨g2, off2, rfl, hbb2, hc2⟩ := HS.out.2.2.cells (by intro e; rw [e] at hlt2; simp at hlt2)
            have d1 : wr.cell? ⟨g, off + j, none⟩ = some (.int .i64 (hdZ A)[j]) := hc j hlt
            have d2 : wr.cell? ⟨g2, off2 + j, none⟩ = some (.int .i64 (hdZ B)[j]) := hc2 j hlt2
            clear hc hc2
            have HEq := Lib.hid (fd_eq hlt hlt2)
            have HNe := Lib.hid (fd_ne hlt hlt2)
            generalize (hdZ A)[j] = a at d1 HEq HNe
            generalize (hdZ B)[j] = c at d2 HEq HNe
            by_cases hac : a = c
            · have HZ := Lib.hid (hq.out.trans (HEq.out hac))
              have e0 : (a != c) = false := by simpa using hac
              clear hac HEq HNe
              go_wp2_with fail
              go_quiet (fail)
              go_wp2
              go_roundw
              case rel => exact ⟨j + 1, by omega, by go_num, ⟨below_drewN HS.out.1 _, HS.out.2.1.next (drewN_below _ _), HS.out.2.2.next (drewN_below _ _)⟩, HZ.out⟩
              case measure => simp [intOf]; try omega
            · have HZ := Lib.hid (hq.out.trans (HNe.out hac))
              have e0 : (a != c) = true := by simpa using hac
              have HOr := Lib.hid (fun W => rord_any a c W)
              clear hac HEq HNe
              go_wp2_with fail
              go_quiet (fail)
              go_wp2_with fail
              have hB0 := HS.out.1
              go_region_held3 (fun W => Below w.heap.size w W ∧ W.cell? ⟨g, off + j, none⟩ = some (.int .i64 a) ∧ W.cell? ⟨g2, off2 + j, none⟩ = some (.int .i64 c))
                ((first | exact (by assumption : Below _ _ _ ∧ _ ∧ _) | exact ⟨(below_drewN hB0 _).drew, d1, d2⟩ | exact ⟨below_drewN hB0 _, d1, d2⟩ | exact ⟨hB0.drew, d1, d2⟩ | fail))
                (first
                  | (go_at_call 64; (with_reducible refine (HOr.out _).mono ?_); rintro e wn ⟨rfl, rfl⟩)
                  | fail)
              all_goals
                have hB9 := (by assumption : Below _ _ _ ∧ _ ∧ _).1
                go_wp2_with fail
                go_ret2
                rw [HZ.out]
                exact ⟨rfl, hB9⟩
          · have hi2 : ¬ (j : Int) < ((hdZ B).length : Int) := by omega
            have HZ := Lib.hid (hq.out.trans (fd_end (.inr hlt2)))
            go_wp2
            go_ret2
            rw [HZ.out]
            exact ⟨rfl, HS.out.1⟩
        · have hi1 : ¬ (j : Int) < ((hdZ A).length : Int) := by omega
          have HZ := Lib.hid (hq.out.trans (fd_end (.inl hlt)))
          go_wp2
          go_ret2
          rw [HZ.out]
          exact ⟨rfl, HS.out.1⟩
    · have HE : Hid (cpV A B = 0 ∧ cpE A B = ck B) := ⟨if_neg (by rw [HE0.out]; exact h2), HE0.out⟩
      rw [HE.out.1, HE.out.2]
      rw [h1] at HC1
      obtain ⟨E, hE⟩ : ∃ E, ck B = E := ⟨_, rfl⟩
      rw [hE] at HC2 h2 ⊢
      have k1 : (E != 0) = true := by simpa using h2
      clear h1 h2 HE0 HE hE
      go_enter Tryd.func37, Tryd.ntmps37
      go_wp2_with (first
        | (go_at_call 18; (with_reducible refine (HC1.out _ (by with_unfolding_all exact HK.out.rd0)).mono ?_); rintro e w' ⟨rfl, hb⟩; have HK2 := Lib.hid (HK.out.next hb); clear HK hb x0 x1 x2 x3 x4 y0 y1 y2 y3 y4; have HK := HK2; clear HK2; have x0 := HK.out.b0.c0; have x1 := HK.out.b0.c1; have x2 := HK.out.b0.c2; have x3 := HK.out.b0.c3; have x4 := HK.out.b0.c4; have y0 := HK.out.b1.c0; have y1 := HK.out.b1.c1; have y2 := HK.out.b1.c2; have y3 := HK.out.b1.c3; have y4 := HK.out.b1.c4)
        | (go_at_call 18; (with_reducible refine (HC2.out _ (by with_unfolding_all exact HK.out.rd1)).mono ?_); rintro e w' ⟨rfl, hb⟩; have HK2 := Lib.hid (HK.out.next hb); clear HK hb x0 x1 x2 x3 x4 y0 y1 y2 y3 y4; have HK := HK2; clear HK2; have x0 := HK.out.b0.c0; have x1 := HK.out.b0.c1; have x2 := HK.out.b0.c2; have x3 := HK.out.b0.c3; have x4 := HK.out.b0.c4; have y0 := HK.out.b1.c0; have y1 := HK.out.b1.c1; have y2 := HK.out.b1.c2; have y3 := HK.out.b1.c3; have y4 := HK.out.b1.c4))
      go_ret2
      exact ⟨rfl, HK.out.bel⟩
  · have HE0 : cpE A B = ck A := if_neg h1
    have HE : Hid (cpV A B = 0 ∧ cpE A B = ck A) := ⟨if_neg (by rw [HE0]; exact h1), HE0⟩
    rw [HE.out.1, HE.out.2]
    obtain ⟨E, hE⟩ : ∃ E, ck A = E := ⟨_, rfl⟩
    rw [hE] at HC1 h1 ⊢
    have k1 : (E != 0) = true := by simpa using h1
    have k2 : (E == 0) = false := by simpa using h1
    clear h1 HE0 HE hE
    go_enter Tryd.func37, Tryd.ntmps37
    go_wp2_with (go_at_call 18; (with_reducible refine (HC1.out _ (by with_unfolding_all exact HK.out.rd0)).mono ?_); rintro e w' ⟨rfl, hb⟩; have HK2 := Lib.hid (HK.out.next hb); clear HK hb x0 x1 x2 x3 x4 y0 y1 y2 y3 y4; have HK := HK2; clear HK2; have x0 := HK.out.b0.c0; have x1 := HK.out.b0.c1; have x2 := HK.out.b0.c2; have x3 := HK.out.b0.c3; have x4 := HK.out.b0.c4; have y0 := HK.out.b1.c0; have y1 := HK.out.b1.c1; have y2 := HK.out.b1.c2; have y3 := HK.out.b1.c3; have y4 := HK.out.b1.c4)
    go_ret2
    exact ⟨rfl, HK.out.bel⟩
end Go.Proofs.YtmacimkkgiogbaaDoor
