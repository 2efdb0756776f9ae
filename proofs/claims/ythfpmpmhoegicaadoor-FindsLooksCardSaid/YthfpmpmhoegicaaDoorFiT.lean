/- The law Picks. -/
import Derived.Test.YthfpmpmhoegicaaDoorFiS
import Derived.Test.YthfpmpmhoegicaaDoorMvKc
import Derived.Test.YthfpmpmhoegicaaDoorFiQ
import Derived.Deep.DeepCutAuto
namespace Go.Proofs.YthfpmpmhoegicaaDoor
open Go.RowKit

/-- What a region leaves that lays a variable and stores a result into it. -/
def CutE (w : World) (l : List Bk) (sp se : Value) (T : Ar) (E : Int) (W : World) : Prop :=
  ∃ g q c, sp = .pointer (some ⟨g, 0, none⟩) ∧ se = .int .i64 E ∧ KVar w (⟨g, T, .slice q T.z.length c⟩ :: l) W ∧ ∀ b ∈ l, b.g < g
theorem lints8 (l : List Int) (v : Value) (W : World) (hv : RdI W.heap.size W v l) (hn : Ru.NilC v) (hl : l.length ≤ 100000) : Calls Tryd.prog 38 #[v] W (RetA ⟨1, 1, (l.length : Int), 0, l⟩ W) := lints_any l v W hv hn hl
set_option maxRecDepth 100000 in
set_option maxHeartbeats 64000000 in
theorem lawPicks8_any (A B : Ar) (v u : Value) (w : World) (hw : Ru.Lay w) (hv : RdI w.heap.size w v A.z) (hu : RdI w.heap.size w u B.z) (hn : Ru.NilC v) (hn' : Ru.NilC u) (haw : ∀ W, Ru.Lay W → Calls Tryd.prog 21 #[] W fun e w' => e = .returned (.bool true) ∧ Below W.heap.size W w') :
    Calls Tryd.prog 10 #[A5 A.k A.r A.a A.b v, A5 B.k B.r B.a B.b u] w fun e w' => e = .returned (.bool true) ∧ Below w.heap.size w w' := by
  have HV1 := Lib.hid (fun W h => vec8_any A v W h)
  have HV2 := Lib.hid (fun W h => vec8_any B u W h)
  have HAw := Lib.hid haw
  clear haw
  have HK := Lib.hid (KVar.two8 hw hv hu hn hn')
  obtain ⟨q, cap, rfl, hv1, hv2, hv3⟩ := hv
  obtain ⟨q', cap', rfl, hu1, hu2, hu3⟩ := hu
  clear hw hn hn' hv1 hv2 hv3 hu1 hu2 hu3
  have x0 := (HK.out.a _ (.tail _ (.head _))).c0
  have x1 := (HK.out.a _ (.tail _ (.head _))).c1
  have x2 := (HK.out.a _ (.tail _ (.head _))).c2
  have x3 := (HK.out.a _ (.tail _ (.head _))).c3
  have x4 := (HK.out.a _ (.tail _ (.head _))).c4
  have y0 := (HK.out.a _ (.head _)).c0
  have y1 := (HK.out.a _ (.head _)).c1
  have y2 := (HK.out.a _ (.head _)).c2
  have y3 := (HK.out.a _ (.head _)).c3
  have y4 := (HK.out.a _ (.head _)).c4
  by_cases hf : vcB A = true
  rotate_left
  · have hf' : vcB A = false := by simpa using hf
    rw [hf'] at HV1
    clear hf hf'
    as_aux_lemma =>
      go_enter Tryd.func10, Tryd.ntmps10
      go_wp2_with (first
        | (go_at_call 35; (with_reducible refine (HV1.out _ (by with_unfolding_all exact (HK.out.r _ (.tail _ (.head _))))).mono ?_); rintro e wz ⟨rfl, hb⟩; have HK2 := Lib.hid (HK.out.next hb); clear HK x0 x1 x2 x3 x4 y0 y1 y2 y3 y4; have HK := HK2; clear HK2; clear hb; have x0 := (HK.out.a _ (.tail _ (.head _))).c0; have x1 := (HK.out.a _ (.tail _ (.head _))).c1; have x2 := (HK.out.a _ (.tail _ (.head _))).c2; have x3 := (HK.out.a _ (.tail _ (.head _))).c3; have x4 := (HK.out.a _ (.tail _ (.head _))).c4; have y0 := (HK.out.a _ (.head _)).c0; have y1 := (HK.out.a _ (.head _)).c1; have y2 := (HK.out.a _ (.head _)).c2; have y3 := (HK.out.a _ (.head _)).c3; have y4 := (HK.out.a _ (.head _)).c4)
        | (go_at_call 35; (with_reducible refine (HV2.out _ (by with_unfolding_all exact (HK.out.r _ (.head _)))).mono ?_); rintro e wz ⟨rfl, hb⟩; have HK2 := Lib.hid (HK.out.next hb); clear HK x0 x1 x2 x3 x4 y0 y1 y2 y3 y4; have HK := HK2; clear HK2; clear hb; have x0 := (HK.out.a _ (.tail _ (.head _))).c0; have x1 := (HK.out.a _ (.tail _ (.head _))).c1; have x2 := (HK.out.a _ (.tail _ (.head _))).c2; have x3 := (HK.out.a _ (.tail _ (.head _))).c3; have x4 := (HK.out.a _ (.tail _ (.head _))).c4; have y0 := (HK.out.a _ (.head _)).c0; have y1 := (HK.out.a _ (.head _)).c1; have y2 := (HK.out.a _ (.head _)).c2; have y3 := (HK.out.a _ (.head _)).c3; have y4 := (HK.out.a _ (.head _)).c4)
        | (go_at_call 21; (with_reducible refine (HAw.out _ (by with_unfolding_all exact HK.out.lay)).mono ?_); rintro e wz ⟨rfl, hb⟩; have HK2 := Lib.hid (HK.out.next hb); clear HK x0 x1 x2 x3 x4 y0 y1 y2 y3 y4; have HK := HK2; clear HK2; clear hb; have x0 := (HK.out.a _ (.tail _ (.head _))).c0; have x1 := (HK.out.a _ (.tail _ (.head _))).c1; have x2 := (HK.out.a _ (.tail _ (.head _))).c2; have x3 := (HK.out.a _ (.tail _ (.head _))).c3; have x4 := (HK.out.a _ (.tail _ (.head _))).c4; have y0 := (HK.out.a _ (.head _)).c0; have y1 := (HK.out.a _ (.head _)).c1; have y2 := (HK.out.a _ (.head _)).c2; have y3 := (HK.out.a _ (.head _)).c3; have y4 := (HK.out.a _ (.head _)).c4)
        | fail)
      go_ret
      exact ⟨rfl, HK.out.bel⟩
  rw [hf] at HV1
  obtain ⟨_, cA, rA⟩ := vcB_yes hf
  by_cases hg : vcB B = true
  rotate_left
  · have hg' : vcB B = false := by simpa using hg
    rw [hg'] at HV2
    clear hf hg hg' cA rA
    as_aux_lemma =>
      go_enter Tryd.func10, Tryd.ntmps10
      go_wp2_with (first
        | (go_at_call 35; (with_reducible refine (HV1.out _ (by with_unfolding_all exact (HK.out.r _ (.tail _ (.head _))))).mono ?_); rintro e wz ⟨rfl, hb⟩; have HK2 := Lib.hid (HK.out.next hb); clear HK x0 x1 x2 x3 x4 y0 y1 y2 y3 y4; have HK := HK2; clear HK2; clear hb; have x0 := (HK.out.a _ (.tail _ (.head _))).c0; have x1 := (HK.out.a _ (.tail _ (.head _))).c1; have x2 := (HK.out.a _ (.tail _ (.head _))).c2; have x3 := (HK.out.a _ (.tail _ (.head _))).c3; have x4 := (HK.out.a _ (.tail _ (.head _))).c4; have y0 := (HK.out.a _ (.head _)).c0; have y1 := (HK.out.a _ (.head _)).c1; have y2 := (HK.out.a _ (.head _)).c2; have y3 := (HK.out.a _ (.head _)).c3; have y4 := (HK.out.a _ (.head _)).c4)
        | (go_at_call 35; (with_reducible refine (HV2.out _ (by with_unfolding_all exact (HK.out.r _ (.head _)))).mono ?_); rintro e wz ⟨rfl, hb⟩; have HK2 := Lib.hid (HK.out.next hb); clear HK x0 x1 x2 x3 x4 y0 y1 y2 y3 y4; have HK := HK2; clear HK2; clear hb; have x0 := (HK.out.a _ (.tail _ (.head _))).c0; have x1 := (HK.out.a _ (.tail _ (.head _))).c1; have x2 := (HK.out.a _ (.tail _ (.head _))).c2; have x3 := (HK.out.a _ (.tail _ (.head _))).c3; have x4 := (HK.out.a _ (.tail _ (.head _))).c4; have y0 := (HK.out.a _ (.head _)).c0; have y1 := (HK.out.a _ (.head _)).c1; have y2 := (HK.out.a _ (.head _)).c2; have y3 := (HK.out.a _ (.head _)).c3; have y4 := (HK.out.a _ (.head _)).c4)
        | (go_at_call 21; (with_reducible refine (HAw.out _ (by with_unfolding_all exact HK.out.lay)).mono ?_); rintro e wz ⟨rfl, hb⟩; have HK2 := Lib.hid (HK.out.next hb); clear HK x0 x1 x2 x3 x4 y0 y1 y2 y3 y4; have HK := HK2; clear HK2; clear hb; have x0 := (HK.out.a _ (.tail _ (.head _))).c0; have x1 := (HK.out.a _ (.tail _ (.head _))).c1; have x2 := (HK.out.a _ (.tail _ (.head _))).c2; have x3 := (HK.out.a _ (.tail _ (.head _))).c3; have x4 := (HK.out.a _ (.tail _ (.head _))).c4; have y0 := (HK.out.a _ (.head _)).c0; have y1 := (HK.out.a _ (.head _)).c1; have y2 := (HK.out.a _ (.head _)).c2; have y3 := (HK.out.a _ (.head _)).c3; have y4 := (HK.out.a _ (.head _)).c4)
        | fail)
      go_ret
      exact ⟨rfl, HK.out.bel⟩
  rw [hg] at HV2
  obtain ⟨_, cB, rB⟩ := vcB_yes hg
  clear hf hg
  by_cases hk : A.k = 1
  rotate_left
  · have k1 : (A.k != 1) = true := by simpa using hk
    clear hk cA cB rA rB
    as_aux_lemma =>
      go_enter Tryd.func10, Tryd.ntmps10
      go_wp2_with (first
        | (go_at_call 35; (with_reducible refine (HV1.out _ (by with_unfolding_all exact (HK.out.r _ (.tail _ (.head _))))).mono ?_); rintro e wz ⟨rfl, hb⟩; have HK2 := Lib.hid (HK.out.next hb); clear HK x0 x1 x2 x3 x4 y0 y1 y2 y3 y4; have HK := HK2; clear HK2; clear hb; have x0 := (HK.out.a _ (.tail _ (.head _))).c0; have x1 := (HK.out.a _ (.tail _ (.head _))).c1; have x2 := (HK.out.a _ (.tail _ (.head _))).c2; have x3 := (HK.out.a _ (.tail _ (.head _))).c3; have x4 := (HK.out.a _ (.tail _ (.head _))).c4; have y0 := (HK.out.a _ (.head _)).c0; have y1 := (HK.out.a _ (.head _)).c1; have y2 := (HK.out.a _ (.head _)).c2; have y3 := (HK.out.a _ (.head _)).c3; have y4 := (HK.out.a _ (.head _)).c4)
        | (go_at_call 35; (with_reducible refine (HV2.out _ (by with_unfolding_all exact (HK.out.r _ (.head _)))).mono ?_); rintro e wz ⟨rfl, hb⟩; have HK2 := Lib.hid (HK.out.next hb); clear HK x0 x1 x2 x3 x4 y0 y1 y2 y3 y4; have HK := HK2; clear HK2; clear hb; have x0 := (HK.out.a _ (.tail _ (.head _))).c0; have x1 := (HK.out.a _ (.tail _ (.head _))).c1; have x2 := (HK.out.a _ (.tail _ (.head _))).c2; have x3 := (HK.out.a _ (.tail _ (.head _))).c3; have x4 := (HK.out.a _ (.tail _ (.head _))).c4; have y0 := (HK.out.a _ (.head _)).c0; have y1 := (HK.out.a _ (.head _)).c1; have y2 := (HK.out.a _ (.head _)).c2; have y3 := (HK.out.a _ (.head _)).c3; have y4 := (HK.out.a _ (.head _)).c4)
        | (go_at_call 21; (with_reducible refine (HAw.out _ (by with_unfolding_all exact HK.out.lay)).mono ?_); rintro e wz ⟨rfl, hb⟩; have HK2 := Lib.hid (HK.out.next hb); clear HK x0 x1 x2 x3 x4 y0 y1 y2 y3 y4; have HK := HK2; clear HK2; clear hb; have x0 := (HK.out.a _ (.tail _ (.head _))).c0; have x1 := (HK.out.a _ (.tail _ (.head _))).c1; have x2 := (HK.out.a _ (.tail _ (.head _))).c2; have x3 := (HK.out.a _ (.tail _ (.head _))).c3; have x4 := (HK.out.a _ (.tail _ (.head _))).c4; have y0 := (HK.out.a _ (.head _)).c0; have y1 := (HK.out.a _ (.head _)).c1; have y2 := (HK.out.a _ (.head _)).c2; have y3 := (HK.out.a _ (.head _)).c3; have y4 := (HK.out.a _ (.head _)).c4)
        | fail)
      go_ret
      exact ⟨rfl, HK.out.bel⟩
  have k1 : (A.k != 1) = false := by simpa using hk
  have hl4 := (ck_good cA).len4
  have hl5 := (ck_good cB).len4
  have HP := Lib.hid (fun W h0 h1 h2 => ipick_any A B (.slice q A.z.length cap) (.slice q' B.z.length cap') W h0 h1 h2 (by omega) (by omega))
  by_cases hl : A.z.length = B.z.length
  rotate_left
  · have hE : pkE A B = 11 := by unfold pkE; rw [if_pos (pkT_vec cA cB hk rA rB), if_neg hl]
    rw [show pkV A B = ⟨0, 0, 0, 0, []⟩ from orNo_no (by rw [hE]; decide), hE] at HP
    have k2 : ((A.z.length : Int) != (B.z.length : Int)) = true := by rw [bne_iff_ne]; omega
    clear hk cA cB rA rB hl hE hl4 hl5
    as_aux_lemma =>
      go_enter Tryd.func10, Tryd.ntmps10
      go_wp2_with (first
        | (go_at_call 35; (with_reducible refine (HV1.out _ (by with_unfolding_all exact (HK.out.r _ (.tail _ (.head _))))).mono ?_); rintro e wz ⟨rfl, hb⟩; have HK2 := Lib.hid (HK.out.next hb); clear HK x0 x1 x2 x3 x4 y0 y1 y2 y3 y4; have HK := HK2; clear HK2; clear hb; have x0 := (HK.out.a _ (.tail _ (.head _))).c0; have x1 := (HK.out.a _ (.tail _ (.head _))).c1; have x2 := (HK.out.a _ (.tail _ (.head _))).c2; have x3 := (HK.out.a _ (.tail _ (.head _))).c3; have x4 := (HK.out.a _ (.tail _ (.head _))).c4; have y0 := (HK.out.a _ (.head _)).c0; have y1 := (HK.out.a _ (.head _)).c1; have y2 := (HK.out.a _ (.head _)).c2; have y3 := (HK.out.a _ (.head _)).c3; have y4 := (HK.out.a _ (.head _)).c4)
        | (go_at_call 35; (with_reducible refine (HV2.out _ (by with_unfolding_all exact (HK.out.r _ (.head _)))).mono ?_); rintro e wz ⟨rfl, hb⟩; have HK2 := Lib.hid (HK.out.next hb); clear HK x0 x1 x2 x3 x4 y0 y1 y2 y3 y4; have HK := HK2; clear HK2; clear hb; have x0 := (HK.out.a _ (.tail _ (.head _))).c0; have x1 := (HK.out.a _ (.tail _ (.head _))).c1; have x2 := (HK.out.a _ (.tail _ (.head _))).c2; have x3 := (HK.out.a _ (.tail _ (.head _))).c3; have x4 := (HK.out.a _ (.tail _ (.head _))).c4; have y0 := (HK.out.a _ (.head _)).c0; have y1 := (HK.out.a _ (.head _)).c1; have y2 := (HK.out.a _ (.head _)).c2; have y3 := (HK.out.a _ (.head _)).c3; have y4 := (HK.out.a _ (.head _)).c4)
        | (go_at_call 31; (with_reducible refine (HP.out _ (by with_unfolding_all exact HK.out.lay) (by with_unfolding_all exact (HK.out.r _ (.tail _ (.head _)))) (by with_unfolding_all exact (HK.out.r _ (.head _)))).mono ?_); rintro e wc0 ⟨uwc0, rfl, hu, hb⟩; obtain ⟨pwc0, cwc0, hpwc0, _, _⟩ := hu.form; have hqwc0 : uwc0 = (.slice pwc0 0 cwc0) := hpwc0; subst hqwc0; clear hpwc0; have hltyc : (w.heap.size + 1) < wc0.heap.size := Nat.lt_of_lt_of_le (HK.out.lt _ (.head _)) hb.size; have hltxc : w.heap.size < wc0.heap.size := Nat.lt_of_lt_of_le (HK.out.lt _ (.tail _ (.head _))) hb.size; have HK2 := Lib.hid (HK.out.res hb ⟨0, 0, 0, 0, []⟩ hu); clear HK x0 x1 x2 x3 x4 y0 y1 y2 y3 y4; have HK := HK2; clear HK2; clear hb hu; have x0 := (HK.out.a _ (.tail _ (.tail _ (.head _)))).c0; have x1 := (HK.out.a _ (.tail _ (.tail _ (.head _)))).c1; have x2 := (HK.out.a _ (.tail _ (.tail _ (.head _)))).c2; have x3 := (HK.out.a _ (.tail _ (.tail _ (.head _)))).c3; have x4 := (HK.out.a _ (.tail _ (.tail _ (.head _)))).c4; have y0 := (HK.out.a _ (.tail _ (.head _))).c0; have y1 := (HK.out.a _ (.tail _ (.head _))).c1; have y2 := (HK.out.a _ (.tail _ (.head _))).c2; have y3 := (HK.out.a _ (.tail _ (.head _))).c3; have y4 := (HK.out.a _ (.tail _ (.head _))).c4; have c0 := (HK.out.a _ (.head _)).c0; have c1 := (HK.out.a _ (.head _)).c1; have c2 := (HK.out.a _ (.head _)).c2; have c3 := (HK.out.a _ (.head _)).c3; have c4 := (HK.out.a _ (.head _)).c4)
        | (go_at_call 21; (with_reducible refine (HAw.out _ (by with_unfolding_all exact HK.out.lay)).mono ?_); rintro e wz ⟨rfl, hb⟩; have HK2 := Lib.hid (HK.out.next hb); clear HK x0 x1 x2 x3 x4 y0 y1 y2 y3 y4 c0 c1 c2 c3 c4; have HK := HK2; clear HK2; clear hb; have x0 := (HK.out.a _ (.tail _ (.tail _ (.head _)))).c0; have x1 := (HK.out.a _ (.tail _ (.tail _ (.head _)))).c1; have x2 := (HK.out.a _ (.tail _ (.tail _ (.head _)))).c2; have x3 := (HK.out.a _ (.tail _ (.tail _ (.head _)))).c3; have x4 := (HK.out.a _ (.tail _ (.tail _ (.head _)))).c4; have y0 := (HK.out.a _ (.tail _ (.head _))).c0; have y1 := (HK.out.a _ (.tail _ (.head _))).c1; have y2 := (HK.out.a _ (.tail _ (.head _))).c2; have y3 := (HK.out.a _ (.tail _ (.head _))).c3; have y4 := (HK.out.a _ (.tail _ (.head _))).c4; have c0 := (HK.out.a _ (.head _)).c0; have c1 := (HK.out.a _ (.head _)).c1; have c2 := (HK.out.a _ (.head _)).c2; have c3 := (HK.out.a _ (.head _)).c3; have c4 := (HK.out.a _ (.head _)).c4)
        | fail)
      go_ret
      exact ⟨rfl, HK.out.bel⟩
  have k2 : ((A.z.length : Int) != (B.z.length : Int)) = false := by simp [hl]
  obtain ⟨p1, p2, p3, p4, p5, p6, p7, p8, p9, p10⟩ := picks8 cA cB hk rA rB hl
  obtain ⟨i1, i2⟩ := io_int (n := A.z.length) hl4
  have HI : Hid (∀ W, Calls Tryd.prog 36 #[.int .i64 (A.z.length : Int)] W (RetA ⟨1, 0, 0, 0, [(A.z.length : Int)]⟩ W)) := fun W => lint_any _ W
  have HIo := Lib.hid (fun v W h0 h1 => iiota_any ⟨1, 0, 0, 0, [(A.z.length : Int)]⟩ v W h0 h1 (by simp))
  rw [i1, i2] at HIo
  have HP2 := Lib.hid (fun v W h0 h1 h2 => ipick_any A ⟨1, 1, (upZ A.z.length).length, 0, upZ A.z.length⟩ (.slice q A.z.length cap) v W h0 h1 h2 (by omega) (by show (upZ _).length ≤ _; rw [upZ_len]; omega))
  have hpl : (pkZ A.z (upZ A.z.length)).length ≤ 100000 := by have := pkZ_le A.z (upZ A.z.length); rw [upZ_len] at this; omega
  have HAt := Lib.hid (fun v W h0 h1 h2 => iat_any B ⟨1, 1, (pkZ A.z (upZ A.z.length)).length, 0, pkZ A.z (upZ A.z.length)⟩ (.slice q' B.z.length cap') v W h0 h1 h2 (by omega) hpl)
  have HP3 := Lib.hid (fun v W h0 h1 h2 => ipick_any ⟨1, 1, (oth A.z).length, 0, oth A.z⟩ B v (.slice q' B.z.length cap') W h0 h1 h2 (by show (oth _).length ≤ _; rw [oth_len]; omega) (by omega))
  have HIs := Lib.hid (fun v W h1 h2 => lints8 (oth A.z) v W h1 h2 (by rw [oth_len]; omega))
  rw [p1, p2] at HP
  rw [p3, p4] at HP2
  rw [p5, p6] at HAt
  rw [p7, p8] at HP3
  have hq5 : (pkZ A.z B.z).length ≤ 1000000 := by have := pkZ_le A.z B.z; omega
  have HQ := Lib.hid (fun v u W h1 h2 => is8_eq ⟨B.k, 1, (pkZ A.z B.z).length, 0, pkZ A.z B.z⟩ v u W h1 h2 hq5)
  have HC9 := Lib.hid p9
  have HC10 := Lib.hid p10
  have HOl := Lib.hid (oth_len A.z)
  have HOs : Hid (∀ j (hj : j < A.z.length), oth (A.z.take j) ++ [if A.z.getD j 0 = 0 then 1 else 0] = oth (A.z.take (j + 1))) := fun j hj => by rw [← takeI_snoc hj, oth_snoc]
  have HCs : Hid (∀ j (hj : j < A.z.length), cnt (A.z.take (j + 1)) = if A.z.getD j 0 = 0 then cnt (A.z.take j) else cnt (A.z.take j) + 1) := fun j hj => by rw [← takeI_snoc hj, cnt_snoc]
  have HCl : Hid (∀ j, cnt (A.z.take j) ≤ 400) := fun j => by have := cnt_le (A.z.take j); rw [List.length_take] at this; omega
  have HOt : Hid (∀ j, (oth (A.z.take j)).length ≤ 400) := fun j => by have := oth_len (A.z.take j); rw [List.length_take] at this; omega
  clear hk cA cB rA rB hl hl5 p1 p2 p3 p4 p5 p6 p7 p8 p9 p10 i1 i2 hpl hq5
  generalize pkZ A.z B.z = P at HP HAt HQ HC9
  generalize pkZ A.z (upZ A.z.length) = Q at HP2 HAt
  generalize upZ A.z.length = U at HIo HP2
  generalize pkZ (oth A.z) B.z = R at HP3 HC10
  go_enter Tryd.func10, Tryd.ntmps10
  go_upto_region 12 with (first
    | (go_at_call 37; (with_reducible refine (HQ.out _ _ _ (by with_unfolding_all exact (HK.out.r _ (.head _))) (by with_unfolding_all exact (HK.out.r _ (.tail _ (.tail _ (.tail _ (.head _))))))).mono ?_); rintro e wz ⟨rfl, hb⟩; have HK2 := Lib.hid (HK.out.next hb); clear HK x0 x1 x2 x3 x4 y0 y1 y2 y3 y4 c0 c1 c2 c3 c4 i0 i1 i2 i3 i4 p0 p1 p2 p3 p4 t0 t1 t2 t3 t4; have HK := HK2; clear HK2; clear hb; have x0 := (HK.out.a _ (.tail _ (.tail _ (.tail _ (.tail _ (.tail _ (.head _))))))).c0; have x1 := (HK.out.a _ (.tail _ (.tail _ (.tail _ (.tail _ (.tail _ (.head _))))))).c1; have x2 := (HK.out.a _ (.tail _ (.tail _ (.tail _ (.tail _ (.tail _ (.head _))))))).c2; have x3 := (HK.out.a _ (.tail _ (.tail _ (.tail _ (.tail _ (.tail _ (.head _))))))).c3; have x4 := (HK.out.a _ (.tail _ (.tail _ (.tail _ (.tail _ (.tail _ (.head _))))))).c4; have y0 := (HK.out.a _ (.tail _ (.tail _ (.tail _ (.tail _ (.head _)))))).c0; have y1 := (HK.out.a _ (.tail _ (.tail _ (.tail _ (.tail _ (.head _)))))).c1; have y2 := (HK.out.a _ (.tail _ (.tail _ (.tail _ (.tail _ (.head _)))))).c2; have y3 := (HK.out.a _ (.tail _ (.tail _ (.tail _ (.tail _ (.head _)))))).c3; have y4 := (HK.out.a _ (.tail _ (.tail _ (.tail _ (.tail _ (.head _)))))).c4; have c0 := (HK.out.a _ (.tail _ (.tail _ (.tail _ (.head _))))).c0; have c1 := (HK.out.a _ (.tail _ (.tail _ (.tail _ (.head _))))).c1; have c2 := (HK.out.a _ (.tail _ (.tail _ (.tail _ (.head _))))).c2; have c3 := (HK.out.a _ (.tail _ (.tail _ (.tail _ (.head _))))).c3; have c4 := (HK.out.a _ (.tail _ (.tail _ (.tail _ (.head _))))).c4; have i0 := (HK.out.a _ (.tail _ (.tail _ (.head _)))).c0; have i1 := (HK.out.a _ (.tail _ (.tail _ (.head _)))).c1; have i2 := (HK.out.a _ (.tail _ (.tail _ (.head _)))).c2; have i3 := (HK.out.a _ (.tail _ (.tail _ (.head _)))).c3; have i4 := (HK.out.a _ (.tail _ (.tail _ (.head _)))).c4; have p0 := (HK.out.a _ (.tail _ (.head _))).c0; have p1 := (HK.out.a _ (.tail _ (.head _))).c1; have p2 := (HK.out.a _ (.tail _ (.head _))).c2; have p3 := (HK.out.a _ (.tail _ (.head _))).c3; have p4 := (HK.out.a _ (.tail _ (.head _))).c4; have t0 := (HK.out.a _ (.head _)).c0; have t1 := (HK.out.a _ (.head _)).c1; have t2 := (HK.out.a _ (.head _)).c2; have t3 := (HK.out.a _ (.head _)).c3; have t4 := (HK.out.a _ (.head _)).c4)
    | (go_at_call 27; (with_reducible refine (HAt.out _ _ (by with_unfolding_all exact HK.out.lay) (by with_unfolding_all exact (HK.out.r _ (.tail _ (.tail _ (.tail _ (.head _)))))) (by with_unfolding_all exact (HK.out.r _ (.head _)))).mono ?_); rintro e wat ⟨uwat, rfl, hu, hb⟩; obtain ⟨pwat, cwat, hpwat, _, _⟩ := hu.form; have hqwat : uwat = (.slice pwat P.length cwat) := hpwat; subst hqwat; clear hpwat; have hltpt : wp2.heap.size < wat.heap.size := Nat.lt_of_lt_of_le (HK.out.lt _ (.head _)) hb.size; have hltit : wio.heap.size < wat.heap.size := Nat.lt_of_lt_of_le (HK.out.lt _ (.tail _ (.head _))) hb.size; have hltct : wp0.heap.size < wat.heap.size := Nat.lt_of_lt_of_le (HK.out.lt _ (.tail _ (.tail _ (.head _)))) hb.size; have hltyt : (w.heap.size + 1) < wat.heap.size := Nat.lt_of_lt_of_le (HK.out.lt _ (.tail _ (.tail _ (.tail _ (.head _))))) hb.size; have hltxt : w.heap.size < wat.heap.size := Nat.lt_of_lt_of_le (HK.out.lt _ (.tail _ (.tail _ (.tail _ (.tail _ (.head _)))))) hb.size; have HK2 := Lib.hid (HK.out.res hb ⟨B.k, 1, P.length, 0, P⟩ hu); clear HK x0 x1 x2 x3 x4 y0 y1 y2 y3 y4 c0 c1 c2 c3 c4 i0 i1 i2 i3 i4 p0 p1 p2 p3 p4; have HK := HK2; clear HK2; clear hb hu; have x0 := (HK.out.a _ (.tail _ (.tail _ (.tail _ (.tail _ (.tail _ (.head _))))))).c0; have x1 := (HK.out.a _ (.tail _ (.tail _ (.tail _ (.tail _ (.tail _ (.head _))))))).c1; have x2 := (HK.out.a _ (.tail _ (.tail _ (.tail _ (.tail _ (.tail _ (.head _))))))).c2; have x3 := (HK.out.a _ (.tail _ (.tail _ (.tail _ (.tail _ (.tail _ (.head _))))))).c3; have x4 := (HK.out.a _ (.tail _ (.tail _ (.tail _ (.tail _ (.tail _ (.head _))))))).c4; have y0 := (HK.out.a _ (.tail _ (.tail _ (.tail _ (.tail _ (.head _)))))).c0; have y1 := (HK.out.a _ (.tail _ (.tail _ (.tail _ (.tail _ (.head _)))))).c1; have y2 := (HK.out.a _ (.tail _ (.tail _ (.tail _ (.tail _ (.head _)))))).c2; have y3 := (HK.out.a _ (.tail _ (.tail _ (.tail _ (.tail _ (.head _)))))).c3; have y4 := (HK.out.a _ (.tail _ (.tail _ (.tail _ (.tail _ (.head _)))))).c4; have c0 := (HK.out.a _ (.tail _ (.tail _ (.tail _ (.head _))))).c0; have c1 := (HK.out.a _ (.tail _ (.tail _ (.tail _ (.head _))))).c1; have c2 := (HK.out.a _ (.tail _ (.tail _ (.tail _ (.head _))))).c2; have c3 := (HK.out.a _ (.tail _ (.tail _ (.tail _ (.head _))))).c3; have c4 := (HK.out.a _ (.tail _ (.tail _ (.tail _ (.head _))))).c4; have i0 := (HK.out.a _ (.tail _ (.tail _ (.head _)))).c0; have i1 := (HK.out.a _ (.tail _ (.tail _ (.head _)))).c1; have i2 := (HK.out.a _ (.tail _ (.tail _ (.head _)))).c2; have i3 := (HK.out.a _ (.tail _ (.tail _ (.head _)))).c3; have i4 := (HK.out.a _ (.tail _ (.tail _ (.head _)))).c4; have p0 := (HK.out.a _ (.tail _ (.head _))).c0; have p1 := (HK.out.a _ (.tail _ (.head _))).c1; have p2 := (HK.out.a _ (.tail _ (.head _))).c2; have p3 := (HK.out.a _ (.tail _ (.head _))).c3; have p4 := (HK.out.a _ (.tail _ (.head _))).c4; have t0 := (HK.out.a _ (.head _)).c0; have t1 := (HK.out.a _ (.head _)).c1; have t2 := (HK.out.a _ (.head _)).c2; have t3 := (HK.out.a _ (.head _)).c3; have t4 := (HK.out.a _ (.head _)).c4)
    | (go_at_call 31; (with_reducible refine (HP2.out _ _ (by with_unfolding_all exact HK.out.lay) (by with_unfolding_all exact (HK.out.r _ (.tail _ (.tail _ (.tail _ (.head _)))))) (by with_unfolding_all exact (HK.out.r _ (.head _)))).mono ?_); rintro e wp2 ⟨uwp2, rfl, hu, hb⟩; obtain ⟨pwp2, cwp2, hpwp2, _, _⟩ := hu.form; have hqwp2 : uwp2 = (.slice pwp2 Q.length cwp2) := hpwp2; subst hqwp2; clear hpwp2; have hltip : wio.heap.size < wp2.heap.size := Nat.lt_of_lt_of_le (HK.out.lt _ (.head _)) hb.size; have hltcp : wp0.heap.size < wp2.heap.size := Nat.lt_of_lt_of_le (HK.out.lt _ (.tail _ (.head _))) hb.size; have hltyp : (w.heap.size + 1) < wp2.heap.size := Nat.lt_of_lt_of_le (HK.out.lt _ (.tail _ (.tail _ (.head _)))) hb.size; have hltxp : w.heap.size < wp2.heap.size := Nat.lt_of_lt_of_le (HK.out.lt _ (.tail _ (.tail _ (.tail _ (.head _))))) hb.size; have HK2 := Lib.hid (HK.out.res hb ⟨1, 1, Q.length, 0, Q⟩ hu); clear HK x0 x1 x2 x3 x4 y0 y1 y2 y3 y4 c0 c1 c2 c3 c4 i0 i1 i2 i3 i4; have HK := HK2; clear HK2; clear hb hu; have x0 := (HK.out.a _ (.tail _ (.tail _ (.tail _ (.tail _ (.head _)))))).c0; have x1 := (HK.out.a _ (.tail _ (.tail _ (.tail _ (.tail _ (.head _)))))).c1; have x2 := (HK.out.a _ (.tail _ (.tail _ (.tail _ (.tail _ (.head _)))))).c2; have x3 := (HK.out.a _ (.tail _ (.tail _ (.tail _ (.tail _ (.head _)))))).c3; have x4 := (HK.out.a _ (.tail _ (.tail _ (.tail _ (.tail _ (.head _)))))).c4; have y0 := (HK.out.a _ (.tail _ (.tail _ (.tail _ (.head _))))).c0; have y1 := (HK.out.a _ (.tail _ (.tail _ (.tail _ (.head _))))).c1; have y2 := (HK.out.a _ (.tail _ (.tail _ (.tail _ (.head _))))).c2; have y3 := (HK.out.a _ (.tail _ (.tail _ (.tail _ (.head _))))).c3; have y4 := (HK.out.a _ (.tail _ (.tail _ (.tail _ (.head _))))).c4; have c0 := (HK.out.a _ (.tail _ (.tail _ (.head _)))).c0; have c1 := (HK.out.a _ (.tail _ (.tail _ (.head _)))).c1; have c2 := (HK.out.a _ (.tail _ (.tail _ (.head _)))).c2; have c3 := (HK.out.a _ (.tail _ (.tail _ (.head _)))).c3; have c4 := (HK.out.a _ (.tail _ (.tail _ (.head _)))).c4; have i0 := (HK.out.a _ (.tail _ (.head _))).c0; have i1 := (HK.out.a _ (.tail _ (.head _))).c1; have i2 := (HK.out.a _ (.tail _ (.head _))).c2; have i3 := (HK.out.a _ (.tail _ (.head _))).c3; have i4 := (HK.out.a _ (.tail _ (.head _))).c4; have p0 := (HK.out.a _ (.head _)).c0; have p1 := (HK.out.a _ (.head _)).c1; have p2 := (HK.out.a _ (.head _)).c2; have p3 := (HK.out.a _ (.head _)).c3; have p4 := (HK.out.a _ (.head _)).c4)
    | (go_at_call 24; (with_reducible refine (HIo.out _ _ (by with_unfolding_all exact HK.out.lay) HT.out).mono ?_); rintro e wio ⟨uwio, rfl, hu, hb⟩; obtain ⟨pwio, cwio, hpwio, _, _⟩ := hu.form; have hqwio : uwio = (.slice pwio U.length cwio) := hpwio; subst hqwio; clear hpwio; have hltci : wp0.heap.size < wio.heap.size := Nat.lt_of_lt_of_le (HK.out.lt _ (.head _)) hb.size; have hltyi : (w.heap.size + 1) < wio.heap.size := Nat.lt_of_lt_of_le (HK.out.lt _ (.tail _ (.head _))) hb.size; have hltxi : w.heap.size < wio.heap.size := Nat.lt_of_lt_of_le (HK.out.lt _ (.tail _ (.tail _ (.head _)))) hb.size; have HK2 := Lib.hid (HK.out.res hb ⟨1, 1, U.length, 0, U⟩ hu); clear HK x0 x1 x2 x3 x4 y0 y1 y2 y3 y4 c0 c1 c2 c3 c4; have HK := HK2; clear HK2; clear hb hu; have x0 := (HK.out.a _ (.tail _ (.tail _ (.tail _ (.head _))))).c0; have x1 := (HK.out.a _ (.tail _ (.tail _ (.tail _ (.head _))))).c1; have x2 := (HK.out.a _ (.tail _ (.tail _ (.tail _ (.head _))))).c2; have x3 := (HK.out.a _ (.tail _ (.tail _ (.tail _ (.head _))))).c3; have x4 := (HK.out.a _ (.tail _ (.tail _ (.tail _ (.head _))))).c4; have y0 := (HK.out.a _ (.tail _ (.tail _ (.head _)))).c0; have y1 := (HK.out.a _ (.tail _ (.tail _ (.head _)))).c1; have y2 := (HK.out.a _ (.tail _ (.tail _ (.head _)))).c2; have y3 := (HK.out.a _ (.tail _ (.tail _ (.head _)))).c3; have y4 := (HK.out.a _ (.tail _ (.tail _ (.head _)))).c4; have c0 := (HK.out.a _ (.tail _ (.head _))).c0; have c1 := (HK.out.a _ (.tail _ (.head _))).c1; have c2 := (HK.out.a _ (.tail _ (.head _))).c2; have c3 := (HK.out.a _ (.tail _ (.head _))).c3; have c4 := (HK.out.a _ (.tail _ (.head _))).c4; have i0 := (HK.out.a _ (.head _)).c0; have i1 := (HK.out.a _ (.head _)).c1; have i2 := (HK.out.a _ (.head _)).c2; have i3 := (HK.out.a _ (.head _)).c3; have i4 := (HK.out.a _ (.head _)).c4)
    | (go_at_call 36; (with_reducible refine (HI.out _).mono ?_); rintro e wi ⟨ui, rfl, hu, hb⟩; have HT := Lib.hid hu.rd; have HK2 := Lib.hid (HK.out.next hb); clear HK hu hb x0 x1 x2 x3 x4 y0 y1 y2 y3 y4 c0 c1 c2 c3 c4; have HK := HK2; clear HK2; have x0 := (HK.out.a _ (.tail _ (.tail _ (.head _)))).c0; have x1 := (HK.out.a _ (.tail _ (.tail _ (.head _)))).c1; have x2 := (HK.out.a _ (.tail _ (.tail _ (.head _)))).c2; have x3 := (HK.out.a _ (.tail _ (.tail _ (.head _)))).c3; have x4 := (HK.out.a _ (.tail _ (.tail _ (.head _)))).c4; have y0 := (HK.out.a _ (.tail _ (.head _))).c0; have y1 := (HK.out.a _ (.tail _ (.head _))).c1; have y2 := (HK.out.a _ (.tail _ (.head _))).c2; have y3 := (HK.out.a _ (.tail _ (.head _))).c3; have y4 := (HK.out.a _ (.tail _ (.head _))).c4; have c0 := (HK.out.a _ (.head _)).c0; have c1 := (HK.out.a _ (.head _)).c1; have c2 := (HK.out.a _ (.head _)).c2; have c3 := (HK.out.a _ (.head _)).c3; have c4 := (HK.out.a _ (.head _)).c4)
    | (go_at_call 31; (with_reducible refine (HP.out _ (by with_unfolding_all exact HK.out.lay) (by with_unfolding_all exact (HK.out.r _ (.tail _ (.head _)))) (by with_unfolding_all exact (HK.out.r _ (.head _)))).mono ?_); rintro e wp0 ⟨uwp0, rfl, hu, hb⟩; obtain ⟨pwp0, cwp0, hpwp0, _, _⟩ := hu.form; have hqwp0 : uwp0 = (.slice pwp0 P.length cwp0) := hpwp0; subst hqwp0; clear hpwp0; have hltyc : (w.heap.size + 1) < wp0.heap.size := Nat.lt_of_lt_of_le (HK.out.lt _ (.head _)) hb.size; have hltxc : w.heap.size < wp0.heap.size := Nat.lt_of_lt_of_le (HK.out.lt _ (.tail _ (.head _))) hb.size; have HK2 := Lib.hid (HK.out.res hb ⟨B.k, 1, P.length, 0, P⟩ hu); clear HK x0 x1 x2 x3 x4 y0 y1 y2 y3 y4; have HK := HK2; clear HK2; clear hb hu; have x0 := (HK.out.a _ (.tail _ (.tail _ (.head _)))).c0; have x1 := (HK.out.a _ (.tail _ (.tail _ (.head _)))).c1; have x2 := (HK.out.a _ (.tail _ (.tail _ (.head _)))).c2; have x3 := (HK.out.a _ (.tail _ (.tail _ (.head _)))).c3; have x4 := (HK.out.a _ (.tail _ (.tail _ (.head _)))).c4; have y0 := (HK.out.a _ (.tail _ (.head _))).c0; have y1 := (HK.out.a _ (.tail _ (.head _))).c1; have y2 := (HK.out.a _ (.tail _ (.head _))).c2; have y3 := (HK.out.a _ (.tail _ (.head _))).c3; have y4 := (HK.out.a _ (.tail _ (.head _))).c4; have c0 := (HK.out.a _ (.head _)).c0; have c1 := (HK.out.a _ (.head _)).c1; have c2 := (HK.out.a _ (.head _)).c2; have c3 := (HK.out.a _ (.head _)).c3; have c4 := (HK.out.a _ (.head _)).c4)
    | (go_at_call 35; (with_reducible refine (HV2.out _ (by with_unfolding_all exact (HK.out.r _ (.head _)))).mono ?_); rintro e wz ⟨rfl, hb⟩; have HK2 := Lib.hid (HK.out.next hb); clear HK x0 x1 x2 x3 x4 y0 y1 y2 y3 y4; have HK := HK2; clear HK2; clear hb; have x0 := (HK.out.a _ (.tail _ (.head _))).c0; have x1 := (HK.out.a _ (.tail _ (.head _))).c1; have x2 := (HK.out.a _ (.tail _ (.head _))).c2; have x3 := (HK.out.a _ (.tail _ (.head _))).c3; have x4 := (HK.out.a _ (.tail _ (.head _))).c4; have y0 := (HK.out.a _ (.head _)).c0; have y1 := (HK.out.a _ (.head _)).c1; have y2 := (HK.out.a _ (.head _)).c2; have y3 := (HK.out.a _ (.head _)).c3; have y4 := (HK.out.a _ (.head _)).c4)
    | (go_at_call 35; (with_reducible refine (HV1.out _ (by with_unfolding_all exact (HK.out.r _ (.tail _ (.head _))))).mono ?_); rintro e wz ⟨rfl, hb⟩; have HK2 := Lib.hid (HK.out.next hb); clear HK x0 x1 x2 x3 x4 y0 y1 y2 y3 y4; have HK := HK2; clear HK2; clear hb; have x0 := (HK.out.a _ (.tail _ (.head _))).c0; have x1 := (HK.out.a _ (.tail _ (.head _))).c1; have x2 := (HK.out.a _ (.tail _ (.head _))).c2; have x3 := (HK.out.a _ (.tail _ (.head _))).c3; have x4 := (HK.out.a _ (.tail _ (.head _))).c4; have y0 := (HK.out.a _ (.head _)).c0; have y1 := (HK.out.a _ (.head _)).c1; have y2 := (HK.out.a _ (.head _)).c2; have y3 := (HK.out.a _ (.head _)).c3; have y4 := (HK.out.a _ (.head _)).c4)
    | fail)
  clear HV1 HV2 HP HI HIo HP2 HAt HQ HT k1 k2 x0 x1 x2 x3 x4 y0 y1 y2 y3 y4 c0 c1 c2 c3 c4 i0 i1 i2 i3 i4 p0 p1 p2 p3 p4 t0 t1 t2 t3 t4
  go_wp2_with fail
  skip
  have HS0 : Hid (Ru.Ins 2 wz wz.heap.size (.slice none 0 0) []) := ins_nil _ _
  go_loopg [14, 15, 16] A.z.length (fun gk s mn i wr => ∃ (j : Nat) (V : Value), j + gk = A.z.length ∧ s = V ∧ mn = .int .i64 (cnt (A.z.take j)) ∧ i = .int .i64 j ∧ Below wz.heap.size wz wr ∧ Ru.Ins 2 wr wz.heap.size V (oth (A.z.take j)))
  case atStart => exact ⟨0, _, by omega, rfl, by simp [cnt], rfl, Below.refl _ _, by simpa [oth] using HS0.out⟩
  case round =>
    obtain ⟨j, V, hjg, rfl, rfl, rfl, hbl, hin⟩ := hrel
    have HB := Lib.hid hbl
    have HN := Lib.hid hin
    have HKr := Lib.hid (HK.out.next hbl)
    clear hbl hin HS0
    cases gk with
    | zero =>
      have hjz : ¬ ((j : Int) < (A.z.length : Int)) := by omega
      have hje : A.z.take j = A.z := List.take_of_length_le (by omega)
      rw [hje] at HN ⊢
      have HRo := Lib.hid (ins_new HN.out).rd
      have HNo := Lib.hid (ins_nilC HN.out)
      clear HOs HCs HCl HOt HN hje HK
      have HK := HKr
      clear HKr
      go_wp2_with fail
      have y0 := (HK.out.a _ (.tail _ (.tail _ (.tail _ (.tail _ (.head _)))))).c0
      have y1 := (HK.out.a _ (.tail _ (.tail _ (.tail _ (.tail _ (.head _)))))).c1
      have y2 := (HK.out.a _ (.tail _ (.tail _ (.tail _ (.tail _ (.head _)))))).c2
      have y3 := (HK.out.a _ (.tail _ (.tail _ (.tail _ (.tail _ (.head _)))))).c3
      have y4 := (HK.out.a _ (.tail _ (.tail _ (.tail _ (.tail _ (.head _)))))).c4
      go_cut [17, 18] (fun sp se wx => CutE w [⟨wat.heap.size, ⟨B.k, 1, P.length, 0, P⟩, (.slice pwat P.length cwat)⟩, ⟨wp2.heap.size, ⟨1, 1, Q.length, 0, Q⟩, (.slice pwp2 Q.length cwp2)⟩, ⟨wio.heap.size, ⟨1, 1, U.length, 0, U⟩, (.slice pwio U.length cwio)⟩, ⟨wp0.heap.size, ⟨B.k, 1, P.length, 0, P⟩, (.slice pwp0 P.length cwp0)⟩, ⟨(w.heap.size + 1), B, (.slice q' B.z.length cap')⟩, ⟨w.heap.size, A, (.slice q A.z.length cap)⟩] sp se ⟨B.k, 1, R.length, 0, R⟩ 0 wx)
      case first =>
        as_aux_lemma =>
          clear y0 y1 y2 y3 y4
          have HLt : Hid (∀ g ∈ List.map Bk.g [⟨wat.heap.size, ⟨B.k, 1, P.length, 0, P⟩, (.slice pwat P.length cwat)⟩, ⟨wp2.heap.size, ⟨1, 1, Q.length, 0, Q⟩, (.slice pwp2 Q.length cwp2)⟩, ⟨wio.heap.size, ⟨1, 1, U.length, 0, U⟩, (.slice pwio U.length cwio)⟩, ⟨wp0.heap.size, ⟨B.k, 1, P.length, 0, P⟩, (.slice pwp0 P.length cwp0)⟩, ⟨(w.heap.size + 1), B, (.slice q' B.z.length cap')⟩, ⟨w.heap.size, A, (.slice q A.z.length cap)⟩], g < wr.heap.size) := fun g hg => by obtain ⟨c, hc, rfl⟩ := List.mem_map.1 hg; exact HK.out.lt c hc
          have HAll : Hid (∀ W, Below wr.heap.size wr W → (fun W => Below wr.heap.size wr W ∧ W.cell? ⟨(w.heap.size + 1), 0, none⟩ = some (.int .i64 B.k) ∧ W.cell? ⟨(w.heap.size + 1), 1, none⟩ = some (.int .i64 B.r) ∧ W.cell? ⟨(w.heap.size + 1), 2, none⟩ = some (.int .i64 B.a) ∧ W.cell? ⟨(w.heap.size + 1), 3, none⟩ = some (.int .i64 B.b) ∧ W.cell? ⟨(w.heap.size + 1), 4, none⟩ = some ((.slice q' B.z.length cap'))) W) := fun W h => ⟨h, ((HK.out.next h).a _ (.tail _ (.tail _ (.tail _ (.tail _ (.head _)))))).c0, ((HK.out.next h).a _ (.tail _ (.tail _ (.tail _ (.tail _ (.head _)))))).c1, ((HK.out.next h).a _ (.tail _ (.tail _ (.tail _ (.tail _ (.head _)))))).c2, ((HK.out.next h).a _ (.tail _ (.tail _ (.tail _ (.tail _ (.head _)))))).c3, ((HK.out.next h).a _ (.tail _ (.tail _ (.tail _ (.tail _ (.head _)))))).c4⟩
          refine wp_region_held_drew (S := (fun W => Below wr.heap.size wr W ∧ W.cell? ⟨(w.heap.size + 1), 0, none⟩ = some (.int .i64 B.k) ∧ W.cell? ⟨(w.heap.size + 1), 1, none⟩ = some (.int .i64 B.r) ∧ W.cell? ⟨(w.heap.size + 1), 2, none⟩ = some (.int .i64 B.a) ∧ W.cell? ⟨(w.heap.size + 1), 3, none⟩ = some (.int .i64 B.b) ∧ W.cell? ⟨(w.heap.size + 1), 4, none⟩ = some ((.slice q' B.z.length cap')))) (by kernel_rfl) ?_ (fun hHeld => ?_)
          · exact HAll.out _ (Below.refl _ _).drew
          have HB0 : Hid (Below wr.heap.size wr (World.drew wr)) := (Below.refl _ _).drew
          generalize World.drew wr = wd at hHeld HB0 ⊢
          refine wpAnyH_take (i := 0) (v := ?_) rfl (by kernel_rfl) (by kernel_rfl) (by kernel_rfl) (fun _ _ _ h => h) (Or.inl ⟨by rfl, ?_⟩) (by assumption) ?_
          rotate_left
          · ((intro w0 hSw); (try dsimp only at hSw); go_simp; (try with_reducible rfl))
          change wpAnyH _ _ _ _ _ _ _ (Act.put _ (some 115) _) _
          try simp only [Act.put, List.setIfInBounds_toArray, List.set_cons_zero, List.set_cons_succ]
          refine wpAnyH_take (i := 2) (v := ?_) rfl (by kernel_rfl) (by kernel_rfl) (by kernel_rfl) (fun _ _ _ h => h) (Or.inl ⟨by rfl, ?_⟩) (by assumption) ?_
          rotate_left
          · ((intro w0 hSw); (try dsimp only at hSw); go_simp; (try with_reducible rfl))
          change wpAnyH _ _ _ _ _ _ _ (Act.put _ (some 117) _) _
          try simp only [Act.put, List.setIfInBounds_toArray, List.set_cons_zero, List.set_cons_succ]
          refine wpAnyH_ready (rs := [1, 7]) (by kernel_rfl) (by simp) ?_
          refine AllReadyH.cons rfl (fun K hK => ?_) (AllReadyH.cons rfl (fun K hK => ?_) (AllReadyH.nil))
          · go_simp
            go_at_call 38
            with_reducible refine (HIs.out _ _ (HRo.out.next HB0.out) HNo.out).mono ?_
            rintro e wn6 ⟨uz7, rfl, hu3, hb4⟩
            obtain ⟨qz1, cz2, hq8, _, _⟩ := hu3.form
            have hq82 : uz7 = (.slice qz1 (oth A.z).length cz2) := hq8
            subst hq82
            clear hq8
            have HB5 := Lib.hid (HB0.out.trans (hb4.mono HB0.out.size))
            refine hK.out _ _ ?_ (fun hHeld2 => ?_)
            · exact HAll.out _ HB5.out
            clear hK K hHeld
            have hHeld := hHeld2; clear hHeld2
            try change wpAnyH _ _ _ _ _ _ _ (Act.put _ (some 116) _) _
            try dsimp only
            try simp only [Act.put, List.setIfInBounds_toArray, List.set_cons_zero, List.set_cons_succ]
            have HU9 := Lib.hid hu3.rd
            have HU9n := Lib.hid hu3.nilC
            clear hu3 hb4
            refine wpAnyH_ready (rs := [3, 7]) (by kernel_rfl) (by simp) ?_
            refine AllReadyH.cons rfl (fun K hK => ?_) (AllReadyH.cons rfl (fun K hK => ?_) (AllReadyH.nil))
            · go_simp
              go_at_call 31
              with_reducible refine (HP3.out _ _ (HK.out.next HB5.out).lay HU9.out (by with_unfolding_all exact ((HK.out.next HB5.out).r _ (.tail _ (.tail _ (.tail _ (.tail _ (.head _)))))))).mono ?_
              rintro e wn15 ⟨uz16, rfl, hu12, hb13⟩
              obtain ⟨qz10, cz11, hq17, _, _⟩ := hu12.form
              have hq172 : uz16 = (.slice qz10 R.length cz11) := hq17
              subst hq172
              clear hq17
              have HB14 := Lib.hid (HB5.out.trans (hb13.mono HB5.out.size))
              refine hK.out _ _ ?_ (fun hHeld2 => ?_)
              · exact HAll.out _ HB14.out
              clear hK K hHeld
              have hHeld := hHeld2; clear hHeld2
              try change wpAnyH _ _ _ _ _ _ _ (Act.put _ (some 118) _) _
              try dsimp only
              try simp only [Act.put, List.setIfInBounds_toArray, List.set_cons_zero, List.set_cons_succ]
              have HC18 := Lib.hid (HU9.out.next hb13)
              have HX19 : Hid (RdX (List.map Bk.g [⟨wat.heap.size, ⟨B.k, 1, P.length, 0, P⟩, (.slice pwat P.length cwat)⟩, ⟨wp2.heap.size, ⟨1, 1, Q.length, 0, Q⟩, (.slice pwp2 Q.length cwp2)⟩, ⟨wio.heap.size, ⟨1, 1, U.length, 0, U⟩, (.slice pwio U.length cwio)⟩, ⟨wp0.heap.size, ⟨B.k, 1, P.length, 0, P⟩, (.slice pwp0 P.length cwp0)⟩, ⟨(w.heap.size + 1), B, (.slice q' B.z.length cap')⟩, ⟨w.heap.size, A, (.slice q A.z.length cap)⟩]) wn15 (.slice qz10 R.length cz11) R) := rdN_toX hu12 (fun g mg => Nat.lt_of_lt_of_le (HLt.out g mg) HB5.out.size)
              have HN20 := Lib.hid hu12.nilC
              clear hu12 hb13
              refine wpAnyH_take (i := 4) (v := ?_) rfl (by kernel_rfl) (by kernel_rfl) (by kernel_rfl) (fun _ _ _ h => h) (Or.inl ⟨by rfl, ?_⟩) (by assumption) ?_
              rotate_left
              · ((intro w0 hSw); (try dsimp only at hSw); go_simp; (try with_reducible rfl))
              change wpAnyH _ _ _ _ _ _ _ (Act.put _ (some 114) _) _
              try simp only [Act.put, List.setIfInBounds_toArray, List.set_cons_zero, List.set_cons_succ]
              refine wpAnyH_take (i := 5) (v := ?_) rfl (by kernel_rfl) (by kernel_rfl) (by kernel_rfl) (fun _ _ _ h => h) (Or.inl ⟨by rfl, ?_⟩) (by assumption) ?_
              rotate_left
              · ((intro w0 hSw); (try dsimp only at hSw); go_simp; (try with_reducible rfl))
              change wpAnyH _ _ _ _ _ _ _ (Act.put _ (some 119) _) _
              try simp only [Act.put, List.setIfInBounds_toArray, List.set_cons_zero, List.set_cons_succ]
              refine wpAnyH_take (i := 6) (v := ?_) rfl (by kernel_rfl) (by kernel_rfl) (by kernel_rfl) (fun _ _ _ h => h) (Or.inl ⟨by rfl, ?_⟩) (by assumption) ?_
              rotate_left
              · ((intro w0 hSw); (try dsimp only at hSw); go_simp; (try with_reducible rfl))
              change wpAnyH _ _ _ _ _ _ _ (Act.put _ (some 120) _) _
              try simp only [Act.put, List.setIfInBounds_toArray, List.set_cons_zero, List.set_cons_succ]
              refine wpAnyH_ready (rs := [7]) (by kernel_rfl) (by simp) ?_
              refine AllReadyH.cons rfl (fun K hK => ?_) (AllReadyH.nil)
              go_simp
              refine hK.out _ _ ?_ (fun hHeld2 => ?_)
              · exact HAll.out _ (HB14.out.trans ((bel1 wn15 _).mono HB14.out.size))
              clear hK K hHeld
              have hHeld := hHeld2; clear hHeld2
              try change wpAnyH _ _ _ _ _ _ _ (Act.put _ (some 17) _) _
              try simp only [Act.put, List.setIfInBounds_toArray, List.set_cons_zero, List.set_cons_succ]
              generalize hwx22 : World.alloc wn15 _ = wa21 at hHeld ⊢
              have HB23 : Hid (Below wr.heap.size wr wa21) := by rw [← hwx22]; exact HB14.out.trans ((bel1 wn15 _).mono HB14.out.size)
              have Hbx24 : Hid (Below wn15.heap.size wn15 wa21) := by rw [← hwx22]; exact bel1 _ _
              have HC25 := Lib.hid (HC18.out.next Hbx24.out)
              have HG26 : Hid (R5 wa21 wn15.heap.size 0 0 0 0 (.slice none 0 0)) := by rw [← hwx22]; exact R5.new _ _ _ _ _ _
              have hge : wr.heap.size ≤ wn15.heap.size := HB14.out.size
              have HX27 : Hid (RdX (wn15.heap.size :: List.map Bk.g [⟨wat.heap.size, ⟨B.k, 1, P.length, 0, P⟩, (.slice pwat P.length cwat)⟩, ⟨wp2.heap.size, ⟨1, 1, Q.length, 0, Q⟩, (.slice pwp2 Q.length cwp2)⟩, ⟨wio.heap.size, ⟨1, 1, U.length, 0, U⟩, (.slice pwio U.length cwio)⟩, ⟨wp0.heap.size, ⟨B.k, 1, P.length, 0, P⟩, (.slice pwp0 P.length cwp0)⟩, ⟨(w.heap.size + 1), B, (.slice q' B.z.length cap')⟩, ⟨w.heap.size, A, (.slice q A.z.length cap)⟩]) wa21 (.slice qz10 R.length cz11) R) := (HX19.out.more (Nat.le_refl _)).keep Hbx24.out.size (fun c' _ hc' => Hbx24.out.block c' hc')
              clear hwx22
              as_aux_lemma =>
                refine wpAnyH_ready (rs := [8]) (by kernel_rfl) (by simp) ?_
                refine AllReadyH.cons rfl (fun K hK => ?_) (AllReadyH.nil)
                have y0 := HG26.out.c0; have y1 := HG26.out.c1; have y2 := HG26.out.c2; have y3 := HG26.out.c3; have y4 := HG26.out.c4; have f0 := HG26.out.fr 0; have f1 := HG26.out.fr 1; have f2 := HG26.out.fr 2; have f3 := HG26.out.fr 3; have f4 := HG26.out.fr 4; have HS := Lib.hid (HG26.out.set B.k 1 R.length 0 (.slice qz10 R.length cz11)); have z0 := HS.out.c0; have z1 := HS.out.c1; have z2 := HS.out.c2; have z3 := HS.out.c3; have z4 := HS.out.c4
                go_simp
                refine hK.out _ _ ?_ (fun hHeld2 => ?_)
                · exact HAll.out _ (st5_below _ _ _ _ _ hge HB23.out)
                clear hK K hHeld
                have hHeld := hHeld2; clear hHeld2
                try simp only [Act.put, List.setIfInBounds_toArray, List.set_cons_zero, List.set_cons_succ]
                refine wpAnyH_take (i := 9) (v := ?_) rfl (by kernel_rfl) (by kernel_rfl) (by kernel_rfl) (fun _ _ _ h => h) (Or.inl ⟨by rfl, ?_⟩) (by assumption) ?_
                rotate_left
                · ((intro w0 hSw); (try dsimp only at hSw); go_simp; (try with_reducible rfl))
                change wpAnyH _ _ _ _ _ _ _ (Act.put _ (some 18) _) _
                try simp only [Act.put, List.setIfInBounds_toArray, List.set_cons_zero, List.set_cons_succ]
                refine wpAnyH_done (by kernel_rfl) ?_ _
                go_wp2_with fail
                go_meet
                case rel => exact ⟨wn15.heap.size, qz10, cz11, rfl, rfl, HK.out.newAt HB23.out hge HG26.out ⟨B.k, 1, R.length, 0, R⟩ HX27.out HN20.out, fun b mb => Nat.lt_of_lt_of_le (HK.out.lt b mb) hge⟩
            · go_simp
              refine hK.out _ _ ?_ (fun hHeld2 => ?_)
              · exact HAll.out _ (HB5.out.trans ((bel1 wn6 _).mono HB5.out.size))
              clear hK K hHeld
              have hHeld := hHeld2; clear hHeld2
              try change wpAnyH _ _ _ _ _ _ _ (Act.put _ (some 17) _) _
              try simp only [Act.put, List.setIfInBounds_toArray, List.set_cons_zero, List.set_cons_succ]
              generalize hwx29 : World.alloc wn6 _ = wa28 at hHeld ⊢
              have HB30 : Hid (Below wr.heap.size wr wa28) := by rw [← hwx29]; exact HB5.out.trans ((bel1 wn6 _).mono HB5.out.size)
              have Hbx31 : Hid (Below wn6.heap.size wn6 wa28) := by rw [← hwx29]; exact bel1 _ _
              have HC32 := Lib.hid (HU9.out.next Hbx31.out)
              have HG33 : Hid (R5 wa28 wn6.heap.size 0 0 0 0 (.slice none 0 0)) := by rw [← hwx29]; exact R5.new _ _ _ _ _ _
              have hge : wr.heap.size ≤ wn6.heap.size := HB5.out.size
              clear hwx29
              refine wpAnyH_ready (rs := [3]) (by kernel_rfl) (by simp) ?_
              refine AllReadyH.cons rfl (fun K hK => ?_) (AllReadyH.nil)
              go_simp
              go_at_call 31
              with_reducible refine (HP3.out _ _ (HK.out.next HB30.out).lay HC32.out (by with_unfolding_all exact ((HK.out.next HB30.out).r _ (.tail _ (.tail _ (.tail _ (.tail _ (.head _)))))))).mono ?_
              rintro e wn39 ⟨uz40, rfl, hu36, hb37⟩
              obtain ⟨qz34, cz35, hq41, _, _⟩ := hu36.form
              have hq412 : uz40 = (.slice qz34 R.length cz35) := hq41
              subst hq412
              clear hq41
              have HB38 := Lib.hid (HB30.out.trans (hb37.mono HB30.out.size))
              refine hK.out _ _ ?_ (fun hHeld2 => ?_)
              · exact HAll.out _ HB38.out
              clear hK K hHeld
              have hHeld := hHeld2; clear hHeld2
              try change wpAnyH _ _ _ _ _ _ _ (Act.put _ (some 118) _) _
              try dsimp only
              try simp only [Act.put, List.setIfInBounds_toArray, List.set_cons_zero, List.set_cons_succ]
              have HC42 := Lib.hid (HC32.out.next hb37)
              have HC43 := Lib.hid (HG33.out.next hb37)
              have HX44 : Hid (RdX (wn6.heap.size :: List.map Bk.g [⟨wat.heap.size, ⟨B.k, 1, P.length, 0, P⟩, (.slice pwat P.length cwat)⟩, ⟨wp2.heap.size, ⟨1, 1, Q.length, 0, Q⟩, (.slice pwp2 Q.length cwp2)⟩, ⟨wio.heap.size, ⟨1, 1, U.length, 0, U⟩, (.slice pwio U.length cwio)⟩, ⟨wp0.heap.size, ⟨B.k, 1, P.length, 0, P⟩, (.slice pwp0 P.length cwp0)⟩, ⟨(w.heap.size + 1), B, (.slice q' B.z.length cap')⟩, ⟨w.heap.size, A, (.slice q A.z.length cap)⟩]) wn39 (.slice qz34 R.length cz35) R) := rdN_toX hu36 (fun g mg => by
                rcases List.mem_cons.1 mg with rfl | mg
                · exact HG33.out.lt
                · exact Nat.lt_of_lt_of_le (HLt.out g mg) HB30.out.size)
              have HN45 := Lib.hid hu36.nilC
              clear hu36 hb37
              refine wpAnyH_take (i := 4) (v := ?_) rfl (by kernel_rfl) (by kernel_rfl) (by kernel_rfl) (fun _ _ _ h => h) (Or.inl ⟨by rfl, ?_⟩) (by assumption) ?_
              rotate_left
              · ((intro w0 hSw); (try dsimp only at hSw); go_simp; (try with_reducible rfl))
              change wpAnyH _ _ _ _ _ _ _ (Act.put _ (some 114) _) _
              try simp only [Act.put, List.setIfInBounds_toArray, List.set_cons_zero, List.set_cons_succ]
              refine wpAnyH_take (i := 5) (v := ?_) rfl (by kernel_rfl) (by kernel_rfl) (by kernel_rfl) (fun _ _ _ h => h) (Or.inl ⟨by rfl, ?_⟩) (by assumption) ?_
              rotate_left
              · ((intro w0 hSw); (try dsimp only at hSw); go_simp; (try with_reducible rfl))
              change wpAnyH _ _ _ _ _ _ _ (Act.put _ (some 119) _) _
              try simp only [Act.put, List.setIfInBounds_toArray, List.set_cons_zero, List.set_cons_succ]
              refine wpAnyH_take (i := 6) (v := ?_) rfl (by kernel_rfl) (by kernel_rfl) (by kernel_rfl) (fun _ _ _ h => h) (Or.inl ⟨by rfl, ?_⟩) (by assumption) ?_
              rotate_left
              · ((intro w0 hSw); (try dsimp only at hSw); go_simp; (try with_reducible rfl))
              change wpAnyH _ _ _ _ _ _ _ (Act.put _ (some 120) _) _
              try simp only [Act.put, List.setIfInBounds_toArray, List.set_cons_zero, List.set_cons_succ]
              as_aux_lemma =>
                refine wpAnyH_ready (rs := [8]) (by kernel_rfl) (by simp) ?_
                refine AllReadyH.cons rfl (fun K hK => ?_) (AllReadyH.nil)
                have y0 := HC43.out.c0; have y1 := HC43.out.c1; have y2 := HC43.out.c2; have y3 := HC43.out.c3; have y4 := HC43.out.c4; have f0 := HC43.out.fr 0; have f1 := HC43.out.fr 1; have f2 := HC43.out.fr 2; have f3 := HC43.out.fr 3; have f4 := HC43.out.fr 4; have HS := Lib.hid (HC43.out.set B.k 1 R.length 0 (.slice qz34 R.length cz35)); have z0 := HS.out.c0; have z1 := HS.out.c1; have z2 := HS.out.c2; have z3 := HS.out.c3; have z4 := HS.out.c4
                go_simp
                refine hK.out _ _ ?_ (fun hHeld2 => ?_)
                · exact HAll.out _ (st5_below _ _ _ _ _ hge HB38.out)
                clear hK K hHeld
                have hHeld := hHeld2; clear hHeld2
                try simp only [Act.put, List.setIfInBounds_toArray, List.set_cons_zero, List.set_cons_succ]
                refine wpAnyH_take (i := 9) (v := ?_) rfl (by kernel_rfl) (by kernel_rfl) (by kernel_rfl) (fun _ _ _ h => h) (Or.inl ⟨by rfl, ?_⟩) (by assumption) ?_
                rotate_left
                · ((intro w0 hSw); (try dsimp only at hSw); go_simp; (try with_reducible rfl))
                change wpAnyH _ _ _ _ _ _ _ (Act.put _ (some 18) _) _
                try simp only [Act.put, List.setIfInBounds_toArray, List.set_cons_zero, List.set_cons_succ]
                refine wpAnyH_done (by kernel_rfl) ?_ _
                go_wp2_with fail
                go_meet
                case rel => exact ⟨wn6.heap.size, qz34, cz35, rfl, rfl, HK.out.newAt HB38.out hge HC43.out ⟨B.k, 1, R.length, 0, R⟩ HX44.out HN45.out, fun b mb => Nat.lt_of_lt_of_le (HK.out.lt b mb) hge⟩
          · go_simp
            refine hK.out _ _ ?_ (fun hHeld2 => ?_)
            · exact HAll.out _ (HB0.out.trans ((bel1 wd _).mono HB0.out.size))
            clear hK K hHeld
            have hHeld := hHeld2; clear hHeld2
            try change wpAnyH _ _ _ _ _ _ _ (Act.put _ (some 17) _) _
            try simp only [Act.put, List.setIfInBounds_toArray, List.set_cons_zero, List.set_cons_succ]
            generalize hwx47 : World.alloc wd _ = wa46 at hHeld ⊢
            have HB48 : Hid (Below wr.heap.size wr wa46) := by rw [← hwx47]; exact HB0.out.trans ((bel1 wd _).mono HB0.out.size)
            have Hbx49 : Hid (Below wd.heap.size wd wa46) := by rw [← hwx47]; exact bel1 _ _
            have HG50 : Hid (R5 wa46 wd.heap.size 0 0 0 0 (.slice none 0 0)) := by rw [← hwx47]; exact R5.new _ _ _ _ _ _
            have hge : wr.heap.size ≤ wd.heap.size := HB0.out.size
            clear hwx47
            refine wpAnyH_ready (rs := [1]) (by kernel_rfl) (by simp) ?_
            refine AllReadyH.cons rfl (fun K hK => ?_) (AllReadyH.nil)
            go_simp
            go_at_call 38
            with_reducible refine (HIs.out _ _ (HRo.out.next HB48.out) HNo.out).mono ?_
            rintro e wn56 ⟨uz57, rfl, hu53, hb54⟩
            obtain ⟨qz51, cz52, hq58, _, _⟩ := hu53.form
            have hq582 : uz57 = (.slice qz51 (oth A.z).length cz52) := hq58
            subst hq582
            clear hq58
            have HB55 := Lib.hid (HB48.out.trans (hb54.mono HB48.out.size))
            refine hK.out _ _ ?_ (fun hHeld2 => ?_)
            · exact HAll.out _ HB55.out
            clear hK K hHeld
            have hHeld := hHeld2; clear hHeld2
            try change wpAnyH _ _ _ _ _ _ _ (Act.put _ (some 116) _) _
            try dsimp only
            try simp only [Act.put, List.setIfInBounds_toArray, List.set_cons_zero, List.set_cons_succ]
            have HC59 := Lib.hid (HG50.out.next hb54)
            have HU60 := Lib.hid hu53.rd
            have HU60n := Lib.hid hu53.nilC
            clear hu53 hb54
            refine wpAnyH_ready (rs := [3]) (by kernel_rfl) (by simp) ?_
            refine AllReadyH.cons rfl (fun K hK => ?_) (AllReadyH.nil)
            go_simp
            go_at_call 31
            with_reducible refine (HP3.out _ _ (HK.out.next HB55.out).lay HU60.out (by with_unfolding_all exact ((HK.out.next HB55.out).r _ (.tail _ (.tail _ (.tail _ (.tail _ (.head _)))))))).mono ?_
            rintro e wn66 ⟨uz67, rfl, hu63, hb64⟩
            obtain ⟨qz61, cz62, hq68, _, _⟩ := hu63.form
            have hq682 : uz67 = (.slice qz61 R.length cz62) := hq68
            subst hq682
            clear hq68
            have HB65 := Lib.hid (HB55.out.trans (hb64.mono HB55.out.size))
            refine hK.out _ _ ?_ (fun hHeld2 => ?_)
            · exact HAll.out _ HB65.out
            clear hK K hHeld
            have hHeld := hHeld2; clear hHeld2
            try change wpAnyH _ _ _ _ _ _ _ (Act.put _ (some 118) _) _
            try dsimp only
            try simp only [Act.put, List.setIfInBounds_toArray, List.set_cons_zero, List.set_cons_succ]
            have HC69 := Lib.hid (HC59.out.next hb64)
            have HC70 := Lib.hid (HU60.out.next hb64)
            have HX71 : Hid (RdX (wd.heap.size :: List.map Bk.g [⟨wat.heap.size, ⟨B.k, 1, P.length, 0, P⟩, (.slice pwat P.length cwat)⟩, ⟨wp2.heap.size, ⟨1, 1, Q.length, 0, Q⟩, (.slice pwp2 Q.length cwp2)⟩, ⟨wio.heap.size, ⟨1, 1, U.length, 0, U⟩, (.slice pwio U.length cwio)⟩, ⟨wp0.heap.size, ⟨B.k, 1, P.length, 0, P⟩, (.slice pwp0 P.length cwp0)⟩, ⟨(w.heap.size + 1), B, (.slice q' B.z.length cap')⟩, ⟨w.heap.size, A, (.slice q A.z.length cap)⟩]) wn66 (.slice qz61 R.length cz62) R) := rdN_toX hu63 (fun g mg => by
              rcases List.mem_cons.1 mg with rfl | mg
              · exact HC59.out.lt
              · exact Nat.lt_of_lt_of_le (HLt.out g mg) HB55.out.size)
            have HN72 := Lib.hid hu63.nilC
            clear hu63 hb64
            refine wpAnyH_take (i := 4) (v := ?_) rfl (by kernel_rfl) (by kernel_rfl) (by kernel_rfl) (fun _ _ _ h => h) (Or.inl ⟨by rfl, ?_⟩) (by assumption) ?_
            rotate_left
            · ((intro w0 hSw); (try dsimp only at hSw); go_simp; (try with_reducible rfl))
            change wpAnyH _ _ _ _ _ _ _ (Act.put _ (some 114) _) _
            try simp only [Act.put, List.setIfInBounds_toArray, List.set_cons_zero, List.set_cons_succ]
            refine wpAnyH_take (i := 5) (v := ?_) rfl (by kernel_rfl) (by kernel_rfl) (by kernel_rfl) (fun _ _ _ h => h) (Or.inl ⟨by rfl, ?_⟩) (by assumption) ?_
            rotate_left
            · ((intro w0 hSw); (try dsimp only at hSw); go_simp; (try with_reducible rfl))
            change wpAnyH _ _ _ _ _ _ _ (Act.put _ (some 119) _) _
            try simp only [Act.put, List.setIfInBounds_toArray, List.set_cons_zero, List.set_cons_succ]
            refine wpAnyH_take (i := 6) (v := ?_) rfl (by kernel_rfl) (by kernel_rfl) (by kernel_rfl) (fun _ _ _ h => h) (Or.inl ⟨by rfl, ?_⟩) (by assumption) ?_
            rotate_left
            · ((intro w0 hSw); (try dsimp only at hSw); go_simp; (try with_reducible rfl))
            change wpAnyH _ _ _ _ _ _ _ (Act.put _ (some 120) _) _
            try simp only [Act.put, List.setIfInBounds_toArray, List.set_cons_zero, List.set_cons_succ]
            as_aux_lemma =>
              refine wpAnyH_ready (rs := [8]) (by kernel_rfl) (by simp) ?_
              refine AllReadyH.cons rfl (fun K hK => ?_) (AllReadyH.nil)
              have y0 := HC69.out.c0; have y1 := HC69.out.c1; have y2 := HC69.out.c2; have y3 := HC69.out.c3; have y4 := HC69.out.c4; have f0 := HC69.out.fr 0; have f1 := HC69.out.fr 1; have f2 := HC69.out.fr 2; have f3 := HC69.out.fr 3; have f4 := HC69.out.fr 4; have HS := Lib.hid (HC69.out.set B.k 1 R.length 0 (.slice qz61 R.length cz62)); have z0 := HS.out.c0; have z1 := HS.out.c1; have z2 := HS.out.c2; have z3 := HS.out.c3; have z4 := HS.out.c4
              go_simp
              refine hK.out _ _ ?_ (fun hHeld2 => ?_)
              · exact HAll.out _ (st5_below _ _ _ _ _ hge HB65.out)
              clear hK K hHeld
              have hHeld := hHeld2; clear hHeld2
              try simp only [Act.put, List.setIfInBounds_toArray, List.set_cons_zero, List.set_cons_succ]
              refine wpAnyH_take (i := 9) (v := ?_) rfl (by kernel_rfl) (by kernel_rfl) (by kernel_rfl) (fun _ _ _ h => h) (Or.inl ⟨by rfl, ?_⟩) (by assumption) ?_
              rotate_left
              · ((intro w0 hSw); (try dsimp only at hSw); go_simp; (try with_reducible rfl))
              change wpAnyH _ _ _ _ _ _ _ (Act.put _ (some 18) _) _
              try simp only [Act.put, List.setIfInBounds_toArray, List.set_cons_zero, List.set_cons_succ]
              refine wpAnyH_done (by kernel_rfl) ?_ _
              go_wp2_with fail
              go_meet
              case rel => exact ⟨wd.heap.size, qz61, cz62, rfl, rfl, HK.out.newAt HB65.out hge HC69.out ⟨B.k, 1, R.length, 0, R⟩ HX71.out HN72.out, fun b mb => Nat.lt_of_lt_of_le (HK.out.lt b mb) hge⟩
      case rest =>
        obtain ⟨gr, qr, cr, rfl, rfl, hk, _⟩ := hcut
        clear HK HIs HP3 HRo HNo
        have HK : Hid (KVar w [⟨gr, ⟨B.k, 1, R.length, 0, R⟩, (.slice qr R.length cr)⟩, ⟨wat.heap.size, ⟨B.k, 1, P.length, 0, P⟩, (.slice pwat P.length cwat)⟩, ⟨wp2.heap.size, ⟨1, 1, Q.length, 0, Q⟩, (.slice pwp2 Q.length cwp2)⟩, ⟨wio.heap.size, ⟨1, 1, U.length, 0, U⟩, (.slice pwio U.length cwio)⟩, ⟨wp0.heap.size, ⟨B.k, 1, P.length, 0, P⟩, (.slice pwp0 P.length cwp0)⟩, ⟨(w.heap.size + 1), B, (.slice q' B.z.length cap')⟩, ⟨w.heap.size, A, (.slice q A.z.length cap)⟩] wc) := hk
        clear hk
        have c0 := (HK.out.a _ (.tail _ (.tail _ (.tail _ (.tail _ (.head _)))))).c0
        have c1 := (HK.out.a _ (.tail _ (.tail _ (.tail _ (.tail _ (.head _)))))).c1
        have c2 := (HK.out.a _ (.tail _ (.tail _ (.tail _ (.tail _ (.head _)))))).c2
        have c3 := (HK.out.a _ (.tail _ (.tail _ (.tail _ (.tail _ (.head _)))))).c3
        have c4 := (HK.out.a _ (.tail _ (.tail _ (.tail _ (.tail _ (.head _)))))).c4
        have r0 := (HK.out.a _ (.head _)).c0
        have r1 := (HK.out.a _ (.head _)).c1
        have r2 := (HK.out.a _ (.head _)).c2
        have r3 := (HK.out.a _ (.head _)).c3
        have r4 := (HK.out.a _ (.head _)).c4
        have k3 : ((P.length : Int) == (cnt A.z : Int)) = true := by rw [HC9.out]; simp
        have hc4 : cnt A.z ≤ A.z.length := cnt_le A.z
        have kw : IntKind.i64.wrap ((A.z.length : Int) - (cnt A.z : Int)) = (R.length : Int) := by have := HC10.out; rw [IntKind.wrap_i64]; omega
        clear hc4
        go_wp2_with (first
          | (go_at_call 21; (with_reducible refine (HAw.out _ (by with_unfolding_all exact HK.out.lay)).mono ?_); rintro e wz ⟨rfl, hb⟩; have HK2 := Lib.hid (HK.out.next hb); clear HK c0 c1 c2 c3 c4 r0 r1 r2 r3 r4; have HK := HK2; clear HK2; clear hb; have c0 := (HK.out.a _ (.tail _ (.tail _ (.tail _ (.tail _ (.head _)))))).c0; have c1 := (HK.out.a _ (.tail _ (.tail _ (.tail _ (.tail _ (.head _)))))).c1; have c2 := (HK.out.a _ (.tail _ (.tail _ (.tail _ (.tail _ (.head _)))))).c2; have c3 := (HK.out.a _ (.tail _ (.tail _ (.tail _ (.tail _ (.head _)))))).c3; have c4 := (HK.out.a _ (.tail _ (.tail _ (.tail _ (.tail _ (.head _)))))).c4; have r0 := (HK.out.a _ (.head _)).c0; have r1 := (HK.out.a _ (.head _)).c1; have r2 := (HK.out.a _ (.head _)).c2; have r3 := (HK.out.a _ (.head _)).c3; have r4 := (HK.out.a _ (.head _)).c4)
          | fail)
        go_ret
        exact ⟨rfl, HK.out.bel⟩
    | succ g2 =>
      have hjz : (j : Int) < (A.z.length : Int) := by omega
      have hj : j < A.z.length := by omega
      have hwi : IntKind.i64.wrap ((j : Int) + 1) = (j : Int) + 1 := by rw [IntKind.wrap_i64]; omega
      have hcl := HCl.out j
      have hwc : IntKind.i64.wrap ((cnt (A.z.take j) : Int) + 1) = ((cnt (A.z.take j) + 1 : Nat) : Int) := by rw [IntKind.wrap_i64]; omega
      have x4 := (HKr.out.a _ (.tail _ (.tail _ (.tail _ (.tail _ (.tail _ (.head _))))))).c4
      obtain ⟨bA, oA, hpA, _, hcA⟩ := (HKr.out.r _ (.tail _ (.tail _ (.tail _ (.tail _ (.tail _ (.head _))))))).cells (by intro e; have e2 : A.z = [] := e; rw [e2] at hj; simp at hj)
      subst hpA
      have hxc : wr.cell? ⟨bA, oA + j, none⟩ = some (.int .i64 A.z[j]) := hcA j hj
      have hgx : A.z.getD j 0 = A.z[j] := by rw [List.getD_eq_getElem?_getD, List.getElem?_eq_getElem hj]; rfl
      have HS1 := Lib.hid (HOs.out j hj)
      have HS2 := Lib.hid (HCs.out j hj)
      rw [hgx] at HS1 HS2
      clear hcA hgx
      generalize A.z[j] = x at hxc HS1 HS2
      have hlen : (oth (A.z.take j)).length + 1 ≤ 1000000 := by have := HOt.out j; omega
      have hsz := HB.out.size
      generalize cnt (A.z.take j) = m at hwc HS2 hcl
      by_cases hx : x = 0
      · have kx : (x != 0) = false := by simpa using hx
        rw [if_pos hx] at HS1 HS2
        clear hx
        go_wp2_with (at_builtin; refine wpList_app1 (by simp [Region.wanted]) _ _ rfl wz.heap.size _ _ rfl HN.out 1 rfl hlen hsz ?_; intro u2 w2 hu2 hb2; have HB2 := Lib.hid (HB.out.trans hb2); have HN2 := Lib.hid hu2; clear hu2 hb2)
        rw [HS1.out] at HN2
        go_roundg g2
        case measure => omega
        case rel => exact ⟨j + 1, _, by omega, rfl, by rw [HS2.out]; (try go_num), by go_num, HB2.out, HN2.out⟩
      · have kx : (x != 0) = true := by simpa using hx
        rw [if_neg hx] at HS1 HS2
        clear hx
        go_wp2_with (at_builtin; refine wpList_app1 (by simp [Region.wanted]) _ _ rfl wz.heap.size _ _ rfl HN.out 0 rfl hlen hsz ?_; intro u2 w2 hu2 hb2; have HB2 := Lib.hid (HB.out.trans hb2); have HN2 := Lib.hid hu2; clear hu2 hb2)
        rw [HS1.out] at HN2
        go_roundg g2
        case measure => omega
        case rel => exact ⟨j + 1, _, by omega, rfl, by rw [HS2.out]; (try go_num), by go_num, HB2.out, HN2.out⟩
end Go.Proofs.YthfpmpmhoegicaaDoor
