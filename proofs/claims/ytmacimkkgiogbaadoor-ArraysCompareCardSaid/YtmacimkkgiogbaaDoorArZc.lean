/- The law ArraysCompare. -/
import Derived.Test.YtmacimkkgiogbaaDoorArZb
namespace Go.Proofs.YtmacimkkgiogbaaDoor
open Go.RowKit

theorem or4 (a b c d : Int) : (a ≠ 0 → orZ [a, b, c, d] = a) ∧ (a = 0 → b ≠ 0 → orZ [a, b, c, d] = b) ∧ (a = 0 → b = 0 → c ≠ 0 → orZ [a, b, c, d] = c) := by
  refine ⟨fun h => ?_, fun h k => ?_, fun h k l => ?_⟩
  · simp [orZ, h]
  · simp [orZ, h, k]
  · simp [orZ, h, k, l]
theorem cm_sign {x y : Int} (h : x ≠ y) : (x - y < 0 ∧ cmZ x y = -1) ∨ (¬ x - y < 0 ∧ cmZ x y = 1) := by
  rcases cm_cases x y with ⟨a, e⟩ | ⟨a, e⟩ | ⟨a, e⟩
  · exact .inl ⟨by omega, e⟩
  · exact absurd a h
  · exact .inr ⟨by omega, e⟩
/-- How arrays are ordered that are not like each other. -/
theorem cm_k {A B : Ar} (h : A.k ≠ B.k) : cmV A B = cmZ A.k B.k := (or4 _ _ _ _).1 (cm_ne h)
theorem cm_r {A B : Ar} (h0 : A.k = B.k) (h : A.r ≠ B.r) : cmV A B = cmZ A.r B.r := (or4 _ _ _ _).2.1 (by rw [h0]; exact cm_self _) (cm_ne h)
theorem cm_a {A B : Ar} (h0 : A.k = B.k) (h1 : A.r = B.r) (h : A.a ≠ B.a) : cmV A B = cmZ A.a B.a := by
  have e := (lx_two A.a A.b B.a B.b).2.1 h
  exact ((or4 _ _ _ _).2.2 (by rw [h0]; exact cm_self _) (by rw [h1]; exact cm_self _) (by rw [e]; exact cm_ne h)).trans e
theorem cm_b {A B : Ar} (h0 : A.k = B.k) (h1 : A.r = B.r) (h2 : A.a = B.a) (h : A.b ≠ B.b) : cmV A B = cmZ A.b B.b := by
  have e := (lx_two A.a A.b B.a B.b).2.2 h2 h
  exact ((or4 _ _ _ _).2.2 (by rw [h0]; exact cm_self _) (by rw [h1]; exact cm_self _) (by rw [e]; exact cm_ne h)).trans e
theorem wrap_d {x y : Int} (h0 : 0 ≤ x) (h1 : x ≤ 1000) (h2 : 0 ≤ y) (h3 : y ≤ 1000) : IntKind.i64.wrap (x - y) = x - y := by rw [IntKind.wrap_i64]; omega

theorem cp_ok {A B : Ar} (ha : Good A) (hb : Good B) : cpE A B = 0 ∧ cpV A B = cmV A B := by
  have e : cpE A B = 0 := cpE_zero.2 ⟨good_ck ha, good_ck hb⟩
  exact ⟨e, if_pos e⟩
/-- The ways through the law's test. -/
theorem ways {A B C : Ar} (ga : Good A) (gb : Good B) (gc : Good C) :
    (cmV A B = 1 ∧ cmV B A = -1) ∨ (cmV A B = 0 ∧ cmV B A = 0 ∧ ¬ cmV B C ≤ 0) ∨ (cmV A B = 0 ∧ cmV B A = 0 ∧ cmV B C ≤ 0 ∧ cmV A C ≤ 0) ∨ (cmV A B = -1 ∧ cmV B A = 1 ∧ ¬ cmV B C ≤ 0) ∨ (cmV A B = -1 ∧ cmV B A = 1 ∧ cmV B C ≤ 0 ∧ cmV A C < 0) := by
  obtain ⟨h1, h2, _, h4⟩ := cm_law ga gb gc
  by_cases hb : cmV B C ≤ 0
  · rcases h2 with h | h | h
    · have := (h4 (by omega) hb).2 (by omega); omega
    · have := (h4 (by omega) hb).1; omega
    · omega
  · omega

set_option maxRecDepth 100000 in
set_option maxHeartbeats 8000000 in
theorem cmpLaw_P_like (A B C : Ar) (v u t : Value) (w : World) (hw : Ru.Lay w) (hv : RdI w.heap.size w v A.z) (hu : RdI w.heap.size w u B.z) (ht : RdI w.heap.size w t C.z) (hf : A.z.length ≤ 500 ∧ B.z.length ≤ 500 ∧ C.z.length ≤ 500) (ga : Good A) (gb : Good B) (gc : Good C) (h1 : cmV A B = 1) (h2 : cmV B A = -1) (hl : likeB A B = true) :
    Calls Tryd.prog 9 #[A5 A.k A.r A.a A.b v, A5 B.k B.r B.a B.b u, A5 C.k C.r C.a C.b t] w fun e w' => e = .returned (.bool true) ∧ Below w.heap.size w w' := by
  have HF1 := Lib.hid (fun W h => far_any A v W h)
  have HF2 := Lib.hid (fun W h => far_any B u W h)
  have HF3 := Lib.hid (fun W h => far_any C t W h)
  have HAw := Lib.hid (fun W h => awake_any W h)
  have HK := Lib.hid (start3 A B C v u t w hw hv hu ht)
  rw [decide_eq_false (by omega)] at HF1 HF2 HF3
  have HC12 := Lib.hid (fun v u W h0 h1 h2 => compare_any A B v u W h0 h1 h2 (by omega) (by omega))
  have HC23 := Lib.hid (fun v u W h0 h1 h2 => compare_any B C v u W h0 h1 h2 (by omega) (by omega))
  have HC13 := Lib.hid (fun v u W h0 h1 h2 => compare_any A C v u W h0 h1 h2 (by omega) (by omega))
  have HC21 := Lib.hid (fun v u W h0 h1 h2 => compare_any B A v u W h0 h1 h2 (by omega) (by omega))
  have HSm := Lib.hid (fun v u W h1 h2 => asame_any A B v u W h1 h2 (by omega))
  have HLk := Lib.hid (fun v u W h1 h2 => alike_any A B v u W h1 h2)
  obtain ⟨e12, v12⟩ := cp_ok ga gb
  obtain ⟨e23, v23⟩ := cp_ok gb gc
  obtain ⟨e13, v13⟩ := cp_ok ga gc
  obtain ⟨e21, v21⟩ := cp_ok gb ga
  rw [e12, v12] at HC12
  rw [e23, v23] at HC23
  rw [e13, v13] at HC13
  rw [e21, v21] at HC21
  clear e12 e23 e13 e21 v12 v23 v13 v21
  have hsm : smB A B = false := by
    cases h : smB A B
    · rfl
    · have := (cm_law ga gb gc).2.2.1.2 (smB_eq.1 h); omega
  rw [h1] at HC12
  rw [h2] at HC21
  rw [hsm] at HSm
  rw [hl] at HLk
  clear hf ga gb gc h1 h2 hsm hl
  generalize cmV B C = bc at HC23
  generalize cmV A C = ac at HC13
  obtain ⟨p, cap, rfl, hcap, hcap2, hcell⟩ := hv
  obtain ⟨q, cap', rfl, hcap', hcap2', hcell'⟩ := hu
  obtain ⟨s, cap'', rfl, hcap'', hcap2'', hcell''⟩ := ht
  clear hcell hcell' hcell'' hw
  have x0 := (HK.out.a _ (.tail _ (.tail _ (.head _)))).c0
  have x1 := (HK.out.a _ (.tail _ (.tail _ (.head _)))).c1
  have x2 := (HK.out.a _ (.tail _ (.tail _ (.head _)))).c2
  have x3 := (HK.out.a _ (.tail _ (.tail _ (.head _)))).c3
  have x4 := (HK.out.a _ (.tail _ (.tail _ (.head _)))).c4
  have y0 := (HK.out.a _ (.tail _ (.head _))).c0
  have y1 := (HK.out.a _ (.tail _ (.head _))).c1
  have y2 := (HK.out.a _ (.tail _ (.head _))).c2
  have y3 := (HK.out.a _ (.tail _ (.head _))).c3
  have y4 := (HK.out.a _ (.tail _ (.head _))).c4
  have z0 := (HK.out.a _ (.head _)).c0
  have z1 := (HK.out.a _ (.head _)).c1
  have z2 := (HK.out.a _ (.head _)).c2
  have z3 := (HK.out.a _ (.head _)).c3
  have z4 := (HK.out.a _ (.head _)).c4
  go_enter Tryd.func9, Tryd.ntmps9
  go_wp2_with (first
    | (go_at_call 11; (with_reducible refine (HF1.out _ (by with_unfolding_all exact HK.out.r _ (.tail _ (.tail _ (.head _))))).mono ?_); rintro e wz ⟨rfl, hb⟩; have HK2 := Lib.hid (HK.out.next hb); clear HK x0 x1 x2 x3 x4 y0 y1 y2 y3 y4 z0 z1 z2 z3 z4; have HK := HK2; clear HK2; clear hb; have x0 := (HK.out.a _ (.tail _ (.tail _ (.head _)))).c0; have x1 := (HK.out.a _ (.tail _ (.tail _ (.head _)))).c1; have x2 := (HK.out.a _ (.tail _ (.tail _ (.head _)))).c2; have x3 := (HK.out.a _ (.tail _ (.tail _ (.head _)))).c3; have x4 := (HK.out.a _ (.tail _ (.tail _ (.head _)))).c4; have y0 := (HK.out.a _ (.tail _ (.head _))).c0; have y1 := (HK.out.a _ (.tail _ (.head _))).c1; have y2 := (HK.out.a _ (.tail _ (.head _))).c2; have y3 := (HK.out.a _ (.tail _ (.head _))).c3; have y4 := (HK.out.a _ (.tail _ (.head _))).c4; have z0 := (HK.out.a _ (.head _)).c0; have z1 := (HK.out.a _ (.head _)).c1; have z2 := (HK.out.a _ (.head _)).c2; have z3 := (HK.out.a _ (.head _)).c3; have z4 := (HK.out.a _ (.head _)).c4)
    | (go_at_call 11; (with_reducible refine (HF2.out _ (by with_unfolding_all exact HK.out.r _ (.tail _ (.head _)))).mono ?_); rintro e wz ⟨rfl, hb⟩; have HK2 := Lib.hid (HK.out.next hb); clear HK x0 x1 x2 x3 x4 y0 y1 y2 y3 y4 z0 z1 z2 z3 z4; have HK := HK2; clear HK2; clear hb; have x0 := (HK.out.a _ (.tail _ (.tail _ (.head _)))).c0; have x1 := (HK.out.a _ (.tail _ (.tail _ (.head _)))).c1; have x2 := (HK.out.a _ (.tail _ (.tail _ (.head _)))).c2; have x3 := (HK.out.a _ (.tail _ (.tail _ (.head _)))).c3; have x4 := (HK.out.a _ (.tail _ (.tail _ (.head _)))).c4; have y0 := (HK.out.a _ (.tail _ (.head _))).c0; have y1 := (HK.out.a _ (.tail _ (.head _))).c1; have y2 := (HK.out.a _ (.tail _ (.head _))).c2; have y3 := (HK.out.a _ (.tail _ (.head _))).c3; have y4 := (HK.out.a _ (.tail _ (.head _))).c4; have z0 := (HK.out.a _ (.head _)).c0; have z1 := (HK.out.a _ (.head _)).c1; have z2 := (HK.out.a _ (.head _)).c2; have z3 := (HK.out.a _ (.head _)).c3; have z4 := (HK.out.a _ (.head _)).c4)
    | (go_at_call 11; (with_reducible refine (HF3.out _ (by with_unfolding_all exact HK.out.r _ (.head _))).mono ?_); rintro e wz ⟨rfl, hb⟩; have HK2 := Lib.hid (HK.out.next hb); clear HK x0 x1 x2 x3 x4 y0 y1 y2 y3 y4 z0 z1 z2 z3 z4; have HK := HK2; clear HK2; clear hb; have x0 := (HK.out.a _ (.tail _ (.tail _ (.head _)))).c0; have x1 := (HK.out.a _ (.tail _ (.tail _ (.head _)))).c1; have x2 := (HK.out.a _ (.tail _ (.tail _ (.head _)))).c2; have x3 := (HK.out.a _ (.tail _ (.tail _ (.head _)))).c3; have x4 := (HK.out.a _ (.tail _ (.tail _ (.head _)))).c4; have y0 := (HK.out.a _ (.tail _ (.head _))).c0; have y1 := (HK.out.a _ (.tail _ (.head _))).c1; have y2 := (HK.out.a _ (.tail _ (.head _))).c2; have y3 := (HK.out.a _ (.tail _ (.head _))).c3; have y4 := (HK.out.a _ (.tail _ (.head _))).c4; have z0 := (HK.out.a _ (.head _)).c0; have z1 := (HK.out.a _ (.head _)).c1; have z2 := (HK.out.a _ (.head _)).c2; have z3 := (HK.out.a _ (.head _)).c3; have z4 := (HK.out.a _ (.head _)).c4)
    | (go_at_call 36; (with_reducible refine (HC12.out _ _ _ (by with_unfolding_all exact HK.out.lay) (by with_unfolding_all exact HK.out.r _ (.tail _ (.tail _ (.head _)))) (by with_unfolding_all exact HK.out.r _ (.tail _ (.head _)))).mono ?_); rintro e wz ⟨rfl, hb⟩; have HK2 := Lib.hid (HK.out.next hb); clear HK x0 x1 x2 x3 x4 y0 y1 y2 y3 y4 z0 z1 z2 z3 z4; have HK := HK2; clear HK2; clear hb; have x0 := (HK.out.a _ (.tail _ (.tail _ (.head _)))).c0; have x1 := (HK.out.a _ (.tail _ (.tail _ (.head _)))).c1; have x2 := (HK.out.a _ (.tail _ (.tail _ (.head _)))).c2; have x3 := (HK.out.a _ (.tail _ (.tail _ (.head _)))).c3; have x4 := (HK.out.a _ (.tail _ (.tail _ (.head _)))).c4; have y0 := (HK.out.a _ (.tail _ (.head _))).c0; have y1 := (HK.out.a _ (.tail _ (.head _))).c1; have y2 := (HK.out.a _ (.tail _ (.head _))).c2; have y3 := (HK.out.a _ (.tail _ (.head _))).c3; have y4 := (HK.out.a _ (.tail _ (.head _))).c4; have z0 := (HK.out.a _ (.head _)).c0; have z1 := (HK.out.a _ (.head _)).c1; have z2 := (HK.out.a _ (.head _)).c2; have z3 := (HK.out.a _ (.head _)).c3; have z4 := (HK.out.a _ (.head _)).c4)
    | (go_at_call 36; (with_reducible refine (HC23.out _ _ _ (by with_unfolding_all exact HK.out.lay) (by with_unfolding_all exact HK.out.r _ (.tail _ (.head _))) (by with_unfolding_all exact HK.out.r _ (.head _))).mono ?_); rintro e wz ⟨rfl, hb⟩; have HK2 := Lib.hid (HK.out.next hb); clear HK x0 x1 x2 x3 x4 y0 y1 y2 y3 y4 z0 z1 z2 z3 z4; have HK := HK2; clear HK2; clear hb; have x0 := (HK.out.a _ (.tail _ (.tail _ (.head _)))).c0; have x1 := (HK.out.a _ (.tail _ (.tail _ (.head _)))).c1; have x2 := (HK.out.a _ (.tail _ (.tail _ (.head _)))).c2; have x3 := (HK.out.a _ (.tail _ (.tail _ (.head _)))).c3; have x4 := (HK.out.a _ (.tail _ (.tail _ (.head _)))).c4; have y0 := (HK.out.a _ (.tail _ (.head _))).c0; have y1 := (HK.out.a _ (.tail _ (.head _))).c1; have y2 := (HK.out.a _ (.tail _ (.head _))).c2; have y3 := (HK.out.a _ (.tail _ (.head _))).c3; have y4 := (HK.out.a _ (.tail _ (.head _))).c4; have z0 := (HK.out.a _ (.head _)).c0; have z1 := (HK.out.a _ (.head _)).c1; have z2 := (HK.out.a _ (.head _)).c2; have z3 := (HK.out.a _ (.head _)).c3; have z4 := (HK.out.a _ (.head _)).c4)
    | (go_at_call 36; (with_reducible refine (HC13.out _ _ _ (by with_unfolding_all exact HK.out.lay) (by with_unfolding_all exact HK.out.r _ (.tail _ (.tail _ (.head _)))) (by with_unfolding_all exact HK.out.r _ (.head _))).mono ?_); rintro e wz ⟨rfl, hb⟩; have HK2 := Lib.hid (HK.out.next hb); clear HK x0 x1 x2 x3 x4 y0 y1 y2 y3 y4 z0 z1 z2 z3 z4; have HK := HK2; clear HK2; clear hb; have x0 := (HK.out.a _ (.tail _ (.tail _ (.head _)))).c0; have x1 := (HK.out.a _ (.tail _ (.tail _ (.head _)))).c1; have x2 := (HK.out.a _ (.tail _ (.tail _ (.head _)))).c2; have x3 := (HK.out.a _ (.tail _ (.tail _ (.head _)))).c3; have x4 := (HK.out.a _ (.tail _ (.tail _ (.head _)))).c4; have y0 := (HK.out.a _ (.tail _ (.head _))).c0; have y1 := (HK.out.a _ (.tail _ (.head _))).c1; have y2 := (HK.out.a _ (.tail _ (.head _))).c2; have y3 := (HK.out.a _ (.tail _ (.head _))).c3; have y4 := (HK.out.a _ (.tail _ (.head _))).c4; have z0 := (HK.out.a _ (.head _)).c0; have z1 := (HK.out.a _ (.head _)).c1; have z2 := (HK.out.a _ (.head _)).c2; have z3 := (HK.out.a _ (.head _)).c3; have z4 := (HK.out.a _ (.head _)).c4)
    | (go_at_call 36; (with_reducible refine (HC21.out _ _ _ (by with_unfolding_all exact HK.out.lay) (by with_unfolding_all exact HK.out.r _ (.tail _ (.head _))) (by with_unfolding_all exact HK.out.r _ (.tail _ (.tail _ (.head _))))).mono ?_); rintro e wz ⟨rfl, hb⟩; have HK2 := Lib.hid (HK.out.next hb); clear HK x0 x1 x2 x3 x4 y0 y1 y2 y3 y4 z0 z1 z2 z3 z4; have HK := HK2; clear HK2; clear hb; have x0 := (HK.out.a _ (.tail _ (.tail _ (.head _)))).c0; have x1 := (HK.out.a _ (.tail _ (.tail _ (.head _)))).c1; have x2 := (HK.out.a _ (.tail _ (.tail _ (.head _)))).c2; have x3 := (HK.out.a _ (.tail _ (.tail _ (.head _)))).c3; have x4 := (HK.out.a _ (.tail _ (.tail _ (.head _)))).c4; have y0 := (HK.out.a _ (.tail _ (.head _))).c0; have y1 := (HK.out.a _ (.tail _ (.head _))).c1; have y2 := (HK.out.a _ (.tail _ (.head _))).c2; have y3 := (HK.out.a _ (.tail _ (.head _))).c3; have y4 := (HK.out.a _ (.tail _ (.head _))).c4; have z0 := (HK.out.a _ (.head _)).c0; have z1 := (HK.out.a _ (.head _)).c1; have z2 := (HK.out.a _ (.head _)).c2; have z3 := (HK.out.a _ (.head _)).c3; have z4 := (HK.out.a _ (.head _)).c4)
    | (go_at_call 38; (with_reducible refine (HSm.out _ _ _ (by with_unfolding_all exact HK.out.r _ (.tail _ (.tail _ (.head _)))) (by with_unfolding_all exact HK.out.r _ (.tail _ (.head _)))).mono ?_); rintro e wz ⟨rfl, hb⟩; have HK2 := Lib.hid (HK.out.next hb); clear HK x0 x1 x2 x3 x4 y0 y1 y2 y3 y4 z0 z1 z2 z3 z4; have HK := HK2; clear HK2; clear hb; have x0 := (HK.out.a _ (.tail _ (.tail _ (.head _)))).c0; have x1 := (HK.out.a _ (.tail _ (.tail _ (.head _)))).c1; have x2 := (HK.out.a _ (.tail _ (.tail _ (.head _)))).c2; have x3 := (HK.out.a _ (.tail _ (.tail _ (.head _)))).c3; have x4 := (HK.out.a _ (.tail _ (.tail _ (.head _)))).c4; have y0 := (HK.out.a _ (.tail _ (.head _))).c0; have y1 := (HK.out.a _ (.tail _ (.head _))).c1; have y2 := (HK.out.a _ (.tail _ (.head _))).c2; have y3 := (HK.out.a _ (.tail _ (.head _))).c3; have y4 := (HK.out.a _ (.tail _ (.head _))).c4; have z0 := (HK.out.a _ (.head _)).c0; have z1 := (HK.out.a _ (.head _)).c1; have z2 := (HK.out.a _ (.head _)).c2; have z3 := (HK.out.a _ (.head _)).c3; have z4 := (HK.out.a _ (.head _)).c4)
    | (go_at_call 39; (with_reducible refine (HLk.out _ _ _ (by with_unfolding_all exact HK.out.r _ (.tail _ (.tail _ (.head _)))) (by with_unfolding_all exact HK.out.r _ (.tail _ (.head _)))).mono ?_); rintro e wz ⟨rfl, hb⟩; have HK2 := Lib.hid (HK.out.next hb); clear HK x0 x1 x2 x3 x4 y0 y1 y2 y3 y4 z0 z1 z2 z3 z4; have HK := HK2; clear HK2; clear hb; have x0 := (HK.out.a _ (.tail _ (.tail _ (.head _)))).c0; have x1 := (HK.out.a _ (.tail _ (.tail _ (.head _)))).c1; have x2 := (HK.out.a _ (.tail _ (.tail _ (.head _)))).c2; have x3 := (HK.out.a _ (.tail _ (.tail _ (.head _)))).c3; have x4 := (HK.out.a _ (.tail _ (.tail _ (.head _)))).c4; have y0 := (HK.out.a _ (.tail _ (.head _))).c0; have y1 := (HK.out.a _ (.tail _ (.head _))).c1; have y2 := (HK.out.a _ (.tail _ (.head _))).c2; have y3 := (HK.out.a _ (.tail _ (.head _))).c3; have y4 := (HK.out.a _ (.tail _ (.head _))).c4; have z0 := (HK.out.a _ (.head _)).c0; have z1 := (HK.out.a _ (.head _)).c1; have z2 := (HK.out.a _ (.head _)).c2; have z3 := (HK.out.a _ (.head _)).c3; have z4 := (HK.out.a _ (.head _)).c4)
    | (go_at_call 12; (with_reducible refine (HAw.out _ HK.out.lay).mono ?_); rintro e wz ⟨rfl, hb⟩; have HK2 := Lib.hid (HK.out.next hb); clear HK x0 x1 x2 x3 x4 y0 y1 y2 y3 y4 z0 z1 z2 z3 z4; have HK := HK2; clear HK2; clear hb; have x0 := (HK.out.a _ (.tail _ (.tail _ (.head _)))).c0; have x1 := (HK.out.a _ (.tail _ (.tail _ (.head _)))).c1; have x2 := (HK.out.a _ (.tail _ (.tail _ (.head _)))).c2; have x3 := (HK.out.a _ (.tail _ (.tail _ (.head _)))).c3; have x4 := (HK.out.a _ (.tail _ (.tail _ (.head _)))).c4; have y0 := (HK.out.a _ (.tail _ (.head _))).c0; have y1 := (HK.out.a _ (.tail _ (.head _))).c1; have y2 := (HK.out.a _ (.tail _ (.head _))).c2; have y3 := (HK.out.a _ (.tail _ (.head _))).c3; have y4 := (HK.out.a _ (.tail _ (.head _))).c4; have z0 := (HK.out.a _ (.head _)).c0; have z1 := (HK.out.a _ (.head _)).c1; have z2 := (HK.out.a _ (.head _)).c2; have z3 := (HK.out.a _ (.head _)).c3; have z4 := (HK.out.a _ (.head _)).c4))
  go_ret
  exact ⟨rfl, HK.out.bel⟩

set_option maxRecDepth 100000 in
set_option maxHeartbeats 8000000 in
theorem cmpLaw_P_k (A B C : Ar) (v u t : Value) (w : World) (hw : Ru.Lay w) (hv : RdI w.heap.size w v A.z) (hu : RdI w.heap.size w u B.z) (ht : RdI w.heap.size w t C.z) (hf : A.z.length ≤ 500 ∧ B.z.length ≤ 500 ∧ C.z.length ≤ 500) (ga : Good A) (gb : Good B) (gc : Good C) (h1 : cmV A B = 1) (h2 : cmV B A = -1) (hl : likeB A B = false) (hd : A.k ≠ B.k) :
    Calls Tryd.prog 9 #[A5 A.k A.r A.a A.b v, A5 B.k B.r B.a B.b u, A5 C.k C.r C.a C.b t] w fun e w' => e = .returned (.bool true) ∧ Below w.heap.size w w' := by
  have HF1 := Lib.hid (fun W h => far_any A v W h)
  have HF2 := Lib.hid (fun W h => far_any B u W h)
  have HF3 := Lib.hid (fun W h => far_any C t W h)
  have HAw := Lib.hid (fun W h => awake_any W h)
  have HK := Lib.hid (start3 A B C v u t w hw hv hu ht)
  rw [decide_eq_false (by omega)] at HF1 HF2 HF3
  have HC12 := Lib.hid (fun v u W h0 h1 h2 => compare_any A B v u W h0 h1 h2 (by omega) (by omega))
  have HC23 := Lib.hid (fun v u W h0 h1 h2 => compare_any B C v u W h0 h1 h2 (by omega) (by omega))
  have HC13 := Lib.hid (fun v u W h0 h1 h2 => compare_any A C v u W h0 h1 h2 (by omega) (by omega))
  have HC21 := Lib.hid (fun v u W h0 h1 h2 => compare_any B A v u W h0 h1 h2 (by omega) (by omega))
  have HSm := Lib.hid (fun v u W h1 h2 => asame_any A B v u W h1 h2 (by omega))
  have HLk := Lib.hid (fun v u W h1 h2 => alike_any A B v u W h1 h2)
  obtain ⟨e12, v12⟩ := cp_ok ga gb
  obtain ⟨e23, v23⟩ := cp_ok gb gc
  obtain ⟨e13, v13⟩ := cp_ok ga gc
  obtain ⟨e21, v21⟩ := cp_ok gb ga
  rw [e12, v12] at HC12
  rw [e23, v23] at HC23
  rw [e13, v13] at HC13
  rw [e21, v21] at HC21
  clear e12 e23 e13 e21 v12 v23 v13 v21
  have hsm : smB A B = false := by
    cases h : smB A B
    · rfl
    · have := (cm_law ga gb gc).2.2.1.2 (smB_eq.1 h); omega
  rw [h1] at HC12
  rw [h2] at HC21
  rw [hsm] at HSm
  rw [hl] at HLk
  have hsg := cm_sign hd
  rw [← cm_k hd] at hsg
  rw [h1] at hsg
  have hs0 : ¬ A.k - B.k < 0 := by omega
  have hwk : IntKind.i64.wrap (A.k - B.k) = A.k - B.k := wrap_d (by rcases ga.kind with e | e <;> omega) (by rcases ga.kind with e | e <;> omega) (by rcases gb.kind with e | e <;> omega) (by rcases gb.kind with e | e <;> omega)
  have hne : ((A.k - B.k) == 0) = false := by rw [beq_eq_false_iff_ne]; omega
  clear hsg hd
  clear hf ga gb gc h1 h2 hsm hl
  generalize cmV B C = bc at HC23
  generalize cmV A C = ac at HC13
  obtain ⟨p, cap, rfl, hcap, hcap2, hcell⟩ := hv
  obtain ⟨q, cap', rfl, hcap', hcap2', hcell'⟩ := hu
  obtain ⟨s, cap'', rfl, hcap'', hcap2'', hcell''⟩ := ht
  clear hcell hcell' hcell'' hw
  have x0 := (HK.out.a _ (.tail _ (.tail _ (.head _)))).c0
  have x1 := (HK.out.a _ (.tail _ (.tail _ (.head _)))).c1
  have x2 := (HK.out.a _ (.tail _ (.tail _ (.head _)))).c2
  have x3 := (HK.out.a _ (.tail _ (.tail _ (.head _)))).c3
  have x4 := (HK.out.a _ (.tail _ (.tail _ (.head _)))).c4
  have y0 := (HK.out.a _ (.tail _ (.head _))).c0
  have y1 := (HK.out.a _ (.tail _ (.head _))).c1
  have y2 := (HK.out.a _ (.tail _ (.head _))).c2
  have y3 := (HK.out.a _ (.tail _ (.head _))).c3
  have y4 := (HK.out.a _ (.tail _ (.head _))).c4
  have z0 := (HK.out.a _ (.head _)).c0
  have z1 := (HK.out.a _ (.head _)).c1
  have z2 := (HK.out.a _ (.head _)).c2
  have z3 := (HK.out.a _ (.head _)).c3
  have z4 := (HK.out.a _ (.head _)).c4
  go_enter Tryd.func9, Tryd.ntmps9
  go_wp2_with (first
    | (go_at_call 11; (with_reducible refine (HF1.out _ (by with_unfolding_all exact HK.out.r _ (.tail _ (.tail _ (.head _))))).mono ?_); rintro e wz ⟨rfl, hb⟩; have HK2 := Lib.hid (HK.out.next hb); clear HK x0 x1 x2 x3 x4 y0 y1 y2 y3 y4 z0 z1 z2 z3 z4; have HK := HK2; clear HK2; clear hb; have x0 := (HK.out.a _ (.tail _ (.tail _ (.head _)))).c0; have x1 := (HK.out.a _ (.tail _ (.tail _ (.head _)))).c1; have x2 := (HK.out.a _ (.tail _ (.tail _ (.head _)))).c2; have x3 := (HK.out.a _ (.tail _ (.tail _ (.head _)))).c3; have x4 := (HK.out.a _ (.tail _ (.tail _ (.head _)))).c4; have y0 := (HK.out.a _ (.tail _ (.head _))).c0; have y1 := (HK.out.a _ (.tail _ (.head _))).c1; have y2 := (HK.out.a _ (.tail _ (.head _))).c2; have y3 := (HK.out.a _ (.tail _ (.head _))).c3; have y4 := (HK.out.a _ (.tail _ (.head _))).c4; have z0 := (HK.out.a _ (.head _)).c0; have z1 := (HK.out.a _ (.head _)).c1; have z2 := (HK.out.a _ (.head _)).c2; have z3 := (HK.out.a _ (.head _)).c3; have z4 := (HK.out.a _ (.head _)).c4)
    | (go_at_call 11; (with_reducible refine (HF2.out _ (by with_unfolding_all exact HK.out.r _ (.tail _ (.head _)))).mono ?_); rintro e wz ⟨rfl, hb⟩; have HK2 := Lib.hid (HK.out.next hb); clear HK x0 x1 x2 x3 x4 y0 y1 y2 y3 y4 z0 z1 z2 z3 z4; have HK := HK2; clear HK2; clear hb; have x0 := (HK.out.a _ (.tail _ (.tail _ (.head _)))).c0; have x1 := (HK.out.a _ (.tail _ (.tail _ (.head _)))).c1; have x2 := (HK.out.a _ (.tail _ (.tail _ (.head _)))).c2; have x3 := (HK.out.a _ (.tail _ (.tail _ (.head _)))).c3; have x4 := (HK.out.a _ (.tail _ (.tail _ (.head _)))).c4; have y0 := (HK.out.a _ (.tail _ (.head _))).c0; have y1 := (HK.out.a _ (.tail _ (.head _))).c1; have y2 := (HK.out.a _ (.tail _ (.head _))).c2; have y3 := (HK.out.a _ (.tail _ (.head _))).c3; have y4 := (HK.out.a _ (.tail _ (.head _))).c4; have z0 := (HK.out.a _ (.head _)).c0; have z1 := (HK.out.a _ (.head _)).c1; have z2 := (HK.out.a _ (.head _)).c2; have z3 := (HK.out.a _ (.head _)).c3; have z4 := (HK.out.a _ (.head _)).c4)
    | (go_at_call 11; (with_reducible refine (HF3.out _ (by with_unfolding_all exact HK.out.r _ (.head _))).mono ?_); rintro e wz ⟨rfl, hb⟩; have HK2 := Lib.hid (HK.out.next hb); clear HK x0 x1 x2 x3 x4 y0 y1 y2 y3 y4 z0 z1 z2 z3 z4; have HK := HK2; clear HK2; clear hb; have x0 := (HK.out.a _ (.tail _ (.tail _ (.head _)))).c0; have x1 := (HK.out.a _ (.tail _ (.tail _ (.head _)))).c1; have x2 := (HK.out.a _ (.tail _ (.tail _ (.head _)))).c2; have x3 := (HK.out.a _ (.tail _ (.tail _ (.head _)))).c3; have x4 := (HK.out.a _ (.tail _ (.tail _ (.head _)))).c4; have y0 := (HK.out.a _ (.tail _ (.head _))).c0; have y1 := (HK.out.a _ (.tail _ (.head _))).c1; have y2 := (HK.out.a _ (.tail _ (.head _))).c2; have y3 := (HK.out.a _ (.tail _ (.head _))).c3; have y4 := (HK.out.a _ (.tail _ (.head _))).c4; have z0 := (HK.out.a _ (.head _)).c0; have z1 := (HK.out.a _ (.head _)).c1; have z2 := (HK.out.a _ (.head _)).c2; have z3 := (HK.out.a _ (.head _)).c3; have z4 := (HK.out.a _ (.head _)).c4)
    | (go_at_call 36; (with_reducible refine (HC12.out _ _ _ (by with_unfolding_all exact HK.out.lay) (by with_unfolding_all exact HK.out.r _ (.tail _ (.tail _ (.head _)))) (by with_unfolding_all exact HK.out.r _ (.tail _ (.head _)))).mono ?_); rintro e wz ⟨rfl, hb⟩; have HK2 := Lib.hid (HK.out.next hb); clear HK x0 x1 x2 x3 x4 y0 y1 y2 y3 y4 z0 z1 z2 z3 z4; have HK := HK2; clear HK2; clear hb; have x0 := (HK.out.a _ (.tail _ (.tail _ (.head _)))).c0; have x1 := (HK.out.a _ (.tail _ (.tail _ (.head _)))).c1; have x2 := (HK.out.a _ (.tail _ (.tail _ (.head _)))).c2; have x3 := (HK.out.a _ (.tail _ (.tail _ (.head _)))).c3; have x4 := (HK.out.a _ (.tail _ (.tail _ (.head _)))).c4; have y0 := (HK.out.a _ (.tail _ (.head _))).c0; have y1 := (HK.out.a _ (.tail _ (.head _))).c1; have y2 := (HK.out.a _ (.tail _ (.head _))).c2; have y3 := (HK.out.a _ (.tail _ (.head _))).c3; have y4 := (HK.out.a _ (.tail _ (.head _))).c4; have z0 := (HK.out.a _ (.head _)).c0; have z1 := (HK.out.a _ (.head _)).c1; have z2 := (HK.out.a _ (.head _)).c2; have z3 := (HK.out.a _ (.head _)).c3; have z4 := (HK.out.a _ (.head _)).c4)
    | (go_at_call 36; (with_reducible refine (HC23.out _ _ _ (by with_unfolding_all exact HK.out.lay) (by with_unfolding_all exact HK.out.r _ (.tail _ (.head _))) (by with_unfolding_all exact HK.out.r _ (.head _))).mono ?_); rintro e wz ⟨rfl, hb⟩; have HK2 := Lib.hid (HK.out.next hb); clear HK x0 x1 x2 x3 x4 y0 y1 y2 y3 y4 z0 z1 z2 z3 z4; have HK := HK2; clear HK2; clear hb; have x0 := (HK.out.a _ (.tail _ (.tail _ (.head _)))).c0; have x1 := (HK.out.a _ (.tail _ (.tail _ (.head _)))).c1; have x2 := (HK.out.a _ (.tail _ (.tail _ (.head _)))).c2; have x3 := (HK.out.a _ (.tail _ (.tail _ (.head _)))).c3; have x4 := (HK.out.a _ (.tail _ (.tail _ (.head _)))).c4; have y0 := (HK.out.a _ (.tail _ (.head _))).c0; have y1 := (HK.out.a _ (.tail _ (.head _))).c1; have y2 := (HK.out.a _ (.tail _ (.head _))).c2; have y3 := (HK.out.a _ (.tail _ (.head _))).c3; have y4 := (HK.out.a _ (.tail _ (.head _))).c4; have z0 := (HK.out.a _ (.head _)).c0; have z1 := (HK.out.a _ (.head _)).c1; have z2 := (HK.out.a _ (.head _)).c2; have z3 := (HK.out.a _ (.head _)).c3; have z4 := (HK.out.a _ (.head _)).c4)
    | (go_at_call 36; (with_reducible refine (HC13.out _ _ _ (by with_unfolding_all exact HK.out.lay) (by with_unfolding_all exact HK.out.r _ (.tail _ (.tail _ (.head _)))) (by with_unfolding_all exact HK.out.r _ (.head _))).mono ?_); rintro e wz ⟨rfl, hb⟩; have HK2 := Lib.hid (HK.out.next hb); clear HK x0 x1 x2 x3 x4 y0 y1 y2 y3 y4 z0 z1 z2 z3 z4; have HK := HK2; clear HK2; clear hb; have x0 := (HK.out.a _ (.tail _ (.tail _ (.head _)))).c0; have x1 := (HK.out.a _ (.tail _ (.tail _ (.head _)))).c1; have x2 := (HK.out.a _ (.tail _ (.tail _ (.head _)))).c2; have x3 := (HK.out.a _ (.tail _ (.tail _ (.head _)))).c3; have x4 := (HK.out.a _ (.tail _ (.tail _ (.head _)))).c4; have y0 := (HK.out.a _ (.tail _ (.head _))).c0; have y1 := (HK.out.a _ (.tail _ (.head _))).c1; have y2 := (HK.out.a _ (.tail _ (.head _))).c2; have y3 := (HK.out.a _ (.tail _ (.head _))).c3; have y4 := (HK.out.a _ (.tail _ (.head _))).c4; have z0 := (HK.out.a _ (.head _)).c0; have z1 := (HK.out.a _ (.head _)).c1; have z2 := (HK.out.a _ (.head _)).c2; have z3 := (HK.out.a _ (.head _)).c3; have z4 := (HK.out.a _ (.head _)).c4)
    | (go_at_call 36; (with_reducible refine (HC21.out _ _ _ (by with_unfolding_all exact HK.out.lay) (by with_unfolding_all exact HK.out.r _ (.tail _ (.head _))) (by with_unfolding_all exact HK.out.r _ (.tail _ (.tail _ (.head _))))).mono ?_); rintro e wz ⟨rfl, hb⟩; have HK2 := Lib.hid (HK.out.next hb); clear HK x0 x1 x2 x3 x4 y0 y1 y2 y3 y4 z0 z1 z2 z3 z4; have HK := HK2; clear HK2; clear hb; have x0 := (HK.out.a _ (.tail _ (.tail _ (.head _)))).c0; have x1 := (HK.out.a _ (.tail _ (.tail _ (.head _)))).c1; have x2 := (HK.out.a _ (.tail _ (.tail _ (.head _)))).c2; have x3 := (HK.out.a _ (.tail _ (.tail _ (.head _)))).c3; have x4 := (HK.out.a _ (.tail _ (.tail _ (.head _)))).c4; have y0 := (HK.out.a _ (.tail _ (.head _))).c0; have y1 := (HK.out.a _ (.tail _ (.head _))).c1; have y2 := (HK.out.a _ (.tail _ (.head _))).c2; have y3 := (HK.out.a _ (.tail _ (.head _))).c3; have y4 := (HK.out.a _ (.tail _ (.head _))).c4; have z0 := (HK.out.a _ (.head _)).c0; have z1 := (HK.out.a _ (.head _)).c1; have z2 := (HK.out.a _ (.head _)).c2; have z3 := (HK.out.a _ (.head _)).c3; have z4 := (HK.out.a _ (.head _)).c4)
    | (go_at_call 38; (with_reducible refine (HSm.out _ _ _ (by with_unfolding_all exact HK.out.r _ (.tail _ (.tail _ (.head _)))) (by with_unfolding_all exact HK.out.r _ (.tail _ (.head _)))).mono ?_); rintro e wz ⟨rfl, hb⟩; have HK2 := Lib.hid (HK.out.next hb); clear HK x0 x1 x2 x3 x4 y0 y1 y2 y3 y4 z0 z1 z2 z3 z4; have HK := HK2; clear HK2; clear hb; have x0 := (HK.out.a _ (.tail _ (.tail _ (.head _)))).c0; have x1 := (HK.out.a _ (.tail _ (.tail _ (.head _)))).c1; have x2 := (HK.out.a _ (.tail _ (.tail _ (.head _)))).c2; have x3 := (HK.out.a _ (.tail _ (.tail _ (.head _)))).c3; have x4 := (HK.out.a _ (.tail _ (.tail _ (.head _)))).c4; have y0 := (HK.out.a _ (.tail _ (.head _))).c0; have y1 := (HK.out.a _ (.tail _ (.head _))).c1; have y2 := (HK.out.a _ (.tail _ (.head _))).c2; have y3 := (HK.out.a _ (.tail _ (.head _))).c3; have y4 := (HK.out.a _ (.tail _ (.head _))).c4; have z0 := (HK.out.a _ (.head _)).c0; have z1 := (HK.out.a _ (.head _)).c1; have z2 := (HK.out.a _ (.head _)).c2; have z3 := (HK.out.a _ (.head _)).c3; have z4 := (HK.out.a _ (.head _)).c4)
    | (go_at_call 39; (with_reducible refine (HLk.out _ _ _ (by with_unfolding_all exact HK.out.r _ (.tail _ (.tail _ (.head _)))) (by with_unfolding_all exact HK.out.r _ (.tail _ (.head _)))).mono ?_); rintro e wz ⟨rfl, hb⟩; have HK2 := Lib.hid (HK.out.next hb); clear HK x0 x1 x2 x3 x4 y0 y1 y2 y3 y4 z0 z1 z2 z3 z4; have HK := HK2; clear HK2; clear hb; have x0 := (HK.out.a _ (.tail _ (.tail _ (.head _)))).c0; have x1 := (HK.out.a _ (.tail _ (.tail _ (.head _)))).c1; have x2 := (HK.out.a _ (.tail _ (.tail _ (.head _)))).c2; have x3 := (HK.out.a _ (.tail _ (.tail _ (.head _)))).c3; have x4 := (HK.out.a _ (.tail _ (.tail _ (.head _)))).c4; have y0 := (HK.out.a _ (.tail _ (.head _))).c0; have y1 := (HK.out.a _ (.tail _ (.head _))).c1; have y2 := (HK.out.a _ (.tail _ (.head _))).c2; have y3 := (HK.out.a _ (.tail _ (.head _))).c3; have y4 := (HK.out.a _ (.tail _ (.head _))).c4; have z0 := (HK.out.a _ (.head _)).c0; have z1 := (HK.out.a _ (.head _)).c1; have z2 := (HK.out.a _ (.head _)).c2; have z3 := (HK.out.a _ (.head _)).c3; have z4 := (HK.out.a _ (.head _)).c4))
  refine wp_loop_rounds 4 ?_
  rw [rounds_succ]
  go_wp2_with (go_at_call 12; refine (HAw.out _ (by with_unfolding_all first | exact HK.out.lay | exact (HK.out.next (drewN_below _ _)).lay)).mono ?_; rintro e wq ⟨rfl, hb⟩; have HB9 : Hid (Below w.heap.size w wq) := (by with_unfolding_all first | exact (HK.out.next hb).bel | exact ((HK.out.next (drewN_below _ _)).next hb).bel); clear hb)
  go_ret
  exact ⟨rfl, HB9.out⟩

set_option maxRecDepth 100000 in
set_option maxHeartbeats 8000000 in
theorem cmpLaw_P_r (A B C : Ar) (v u t : Value) (w : World) (hw : Ru.Lay w) (hv : RdI w.heap.size w v A.z) (hu : RdI w.heap.size w u B.z) (ht : RdI w.heap.size w t C.z) (hf : A.z.length ≤ 500 ∧ B.z.length ≤ 500 ∧ C.z.length ≤ 500) (ga : Good A) (gb : Good B) (gc : Good C) (h1 : cmV A B = 1) (h2 : cmV B A = -1) (hl : likeB A B = false) (h5 : A.k = B.k) (hd : A.r ≠ B.r) :
    Calls Tryd.prog 9 #[A5 A.k A.r A.a A.b v, A5 B.k B.r B.a B.b u, A5 C.k C.r C.a C.b t] w fun e w' => e = .returned (.bool true) ∧ Below w.heap.size w w' := by
  have HF1 := Lib.hid (fun W h => far_any A v W h)
  have HF2 := Lib.hid (fun W h => far_any B u W h)
  have HF3 := Lib.hid (fun W h => far_any C t W h)
  have HAw := Lib.hid (fun W h => awake_any W h)
  have HK := Lib.hid (start3 A B C v u t w hw hv hu ht)
  rw [decide_eq_false (by omega)] at HF1 HF2 HF3
  have HC12 := Lib.hid (fun v u W h0 h1 h2 => compare_any A B v u W h0 h1 h2 (by omega) (by omega))
  have HC23 := Lib.hid (fun v u W h0 h1 h2 => compare_any B C v u W h0 h1 h2 (by omega) (by omega))
  have HC13 := Lib.hid (fun v u W h0 h1 h2 => compare_any A C v u W h0 h1 h2 (by omega) (by omega))
  have HC21 := Lib.hid (fun v u W h0 h1 h2 => compare_any B A v u W h0 h1 h2 (by omega) (by omega))
  have HSm := Lib.hid (fun v u W h1 h2 => asame_any A B v u W h1 h2 (by omega))
  have HLk := Lib.hid (fun v u W h1 h2 => alike_any A B v u W h1 h2)
  obtain ⟨e12, v12⟩ := cp_ok ga gb
  obtain ⟨e23, v23⟩ := cp_ok gb gc
  obtain ⟨e13, v13⟩ := cp_ok ga gc
  obtain ⟨e21, v21⟩ := cp_ok gb ga
  rw [e12, v12] at HC12
  rw [e23, v23] at HC23
  rw [e13, v13] at HC13
  rw [e21, v21] at HC21
  clear e12 e23 e13 e21 v12 v23 v13 v21
  have hsm : smB A B = false := by
    cases h : smB A B
    · rfl
    · have := (cm_law ga gb gc).2.2.1.2 (smB_eq.1 h); omega
  rw [h1] at HC12
  rw [h2] at HC21
  rw [hsm] at HSm
  rw [hl] at HLk
  have hsg := cm_sign hd
  rw [← cm_r h5 hd] at hsg
  rw [h1] at hsg
  have hs0 : ¬ A.r - B.r < 0 := by omega
  have hwk : IntKind.i64.wrap (A.k - B.k) = 0 := by rw [h5, Int.sub_self]; rfl
  have hwr : IntKind.i64.wrap (A.r - B.r) = A.r - B.r := wrap_d (by have := ga.sh.bd; omega) (by have := ga.sh.bd; omega) (by have := gb.sh.bd; omega) (by have := gb.sh.bd; omega)
  have hne : ((A.r - B.r) == 0) = false := by rw [beq_eq_false_iff_ne]; omega
  clear hsg hd h5
  clear hf ga gb gc h1 h2 hsm hl
  generalize cmV B C = bc at HC23
  generalize cmV A C = ac at HC13
  obtain ⟨p, cap, rfl, hcap, hcap2, hcell⟩ := hv
  obtain ⟨q, cap', rfl, hcap', hcap2', hcell'⟩ := hu
  obtain ⟨s, cap'', rfl, hcap'', hcap2'', hcell''⟩ := ht
  clear hcell hcell' hcell'' hw
  have x0 := (HK.out.a _ (.tail _ (.tail _ (.head _)))).c0
  have x1 := (HK.out.a _ (.tail _ (.tail _ (.head _)))).c1
  have x2 := (HK.out.a _ (.tail _ (.tail _ (.head _)))).c2
  have x3 := (HK.out.a _ (.tail _ (.tail _ (.head _)))).c3
  have x4 := (HK.out.a _ (.tail _ (.tail _ (.head _)))).c4
  have y0 := (HK.out.a _ (.tail _ (.head _))).c0
  have y1 := (HK.out.a _ (.tail _ (.head _))).c1
  have y2 := (HK.out.a _ (.tail _ (.head _))).c2
  have y3 := (HK.out.a _ (.tail _ (.head _))).c3
  have y4 := (HK.out.a _ (.tail _ (.head _))).c4
  have z0 := (HK.out.a _ (.head _)).c0
  have z1 := (HK.out.a _ (.head _)).c1
  have z2 := (HK.out.a _ (.head _)).c2
  have z3 := (HK.out.a _ (.head _)).c3
  have z4 := (HK.out.a _ (.head _)).c4
  go_enter Tryd.func9, Tryd.ntmps9
  go_wp2_with (first
    | (go_at_call 11; (with_reducible refine (HF1.out _ (by with_unfolding_all exact HK.out.r _ (.tail _ (.tail _ (.head _))))).mono ?_); rintro e wz ⟨rfl, hb⟩; have HK2 := Lib.hid (HK.out.next hb); clear HK x0 x1 x2 x3 x4 y0 y1 y2 y3 y4 z0 z1 z2 z3 z4; have HK := HK2; clear HK2; clear hb; have x0 := (HK.out.a _ (.tail _ (.tail _ (.head _)))).c0; have x1 := (HK.out.a _ (.tail _ (.tail _ (.head _)))).c1; have x2 := (HK.out.a _ (.tail _ (.tail _ (.head _)))).c2; have x3 := (HK.out.a _ (.tail _ (.tail _ (.head _)))).c3; have x4 := (HK.out.a _ (.tail _ (.tail _ (.head _)))).c4; have y0 := (HK.out.a _ (.tail _ (.head _))).c0; have y1 := (HK.out.a _ (.tail _ (.head _))).c1; have y2 := (HK.out.a _ (.tail _ (.head _))).c2; have y3 := (HK.out.a _ (.tail _ (.head _))).c3; have y4 := (HK.out.a _ (.tail _ (.head _))).c4; have z0 := (HK.out.a _ (.head _)).c0; have z1 := (HK.out.a _ (.head _)).c1; have z2 := (HK.out.a _ (.head _)).c2; have z3 := (HK.out.a _ (.head _)).c3; have z4 := (HK.out.a _ (.head _)).c4)
    | (go_at_call 11; (with_reducible refine (HF2.out _ (by with_unfolding_all exact HK.out.r _ (.tail _ (.head _)))).mono ?_); rintro e wz ⟨rfl, hb⟩; have HK2 := Lib.hid (HK.out.next hb); clear HK x0 x1 x2 x3 x4 y0 y1 y2 y3 y4 z0 z1 z2 z3 z4; have HK := HK2; clear HK2; clear hb; have x0 := (HK.out.a _ (.tail _ (.tail _ (.head _)))).c0; have x1 := (HK.out.a _ (.tail _ (.tail _ (.head _)))).c1; have x2 := (HK.out.a _ (.tail _ (.tail _ (.head _)))).c2; have x3 := (HK.out.a _ (.tail _ (.tail _ (.head _)))).c3; have x4 := (HK.out.a _ (.tail _ (.tail _ (.head _)))).c4; have y0 := (HK.out.a _ (.tail _ (.head _))).c0; have y1 := (HK.out.a _ (.tail _ (.head _))).c1; have y2 := (HK.out.a _ (.tail _ (.head _))).c2; have y3 := (HK.out.a _ (.tail _ (.head _))).c3; have y4 := (HK.out.a _ (.tail _ (.head _))).c4; have z0 := (HK.out.a _ (.head _)).c0; have z1 := (HK.out.a _ (.head _)).c1; have z2 := (HK.out.a _ (.head _)).c2; have z3 := (HK.out.a _ (.head _)).c3; have z4 := (HK.out.a _ (.head _)).c4)
    | (go_at_call 11; (with_reducible refine (HF3.out _ (by with_unfolding_all exact HK.out.r _ (.head _))).mono ?_); rintro e wz ⟨rfl, hb⟩; have HK2 := Lib.hid (HK.out.next hb); clear HK x0 x1 x2 x3 x4 y0 y1 y2 y3 y4 z0 z1 z2 z3 z4; have HK := HK2; clear HK2; clear hb; have x0 := (HK.out.a _ (.tail _ (.tail _ (.head _)))).c0; have x1 := (HK.out.a _ (.tail _ (.tail _ (.head _)))).c1; have x2 := (HK.out.a _ (.tail _ (.tail _ (.head _)))).c2; have x3 := (HK.out.a _ (.tail _ (.tail _ (.head _)))).c3; have x4 := (HK.out.a _ (.tail _ (.tail _ (.head _)))).c4; have y0 := (HK.out.a _ (.tail _ (.head _))).c0; have y1 := (HK.out.a _ (.tail _ (.head _))).c1; have y2 := (HK.out.a _ (.tail _ (.head _))).c2; have y3 := (HK.out.a _ (.tail _ (.head _))).c3; have y4 := (HK.out.a _ (.tail _ (.head _))).c4; have z0 := (HK.out.a _ (.head _)).c0; have z1 := (HK.out.a _ (.head _)).c1; have z2 := (HK.out.a _ (.head _)).c2; have z3 := (HK.out.a _ (.head _)).c3; have z4 := (HK.out.a _ (.head _)).c4)
    | (go_at_call 36; (with_reducible refine (HC12.out _ _ _ (by with_unfolding_all exact HK.out.lay) (by with_unfolding_all exact HK.out.r _ (.tail _ (.tail _ (.head _)))) (by with_unfolding_all exact HK.out.r _ (.tail _ (.head _)))).mono ?_); rintro e wz ⟨rfl, hb⟩; have HK2 := Lib.hid (HK.out.next hb); clear HK x0 x1 x2 x3 x4 y0 y1 y2 y3 y4 z0 z1 z2 z3 z4; have HK := HK2; clear HK2; clear hb; have x0 := (HK.out.a _ (.tail _ (.tail _ (.head _)))).c0; have x1 := (HK.out.a _ (.tail _ (.tail _ (.head _)))).c1; have x2 := (HK.out.a _ (.tail _ (.tail _ (.head _)))).c2; have x3 := (HK.out.a _ (.tail _ (.tail _ (.head _)))).c3; have x4 := (HK.out.a _ (.tail _ (.tail _ (.head _)))).c4; have y0 := (HK.out.a _ (.tail _ (.head _))).c0; have y1 := (HK.out.a _ (.tail _ (.head _))).c1; have y2 := (HK.out.a _ (.tail _ (.head _))).c2; have y3 := (HK.out.a _ (.tail _ (.head _))).c3; have y4 := (HK.out.a _ (.tail _ (.head _))).c4; have z0 := (HK.out.a _ (.head _)).c0; have z1 := (HK.out.a _ (.head _)).c1; have z2 := (HK.out.a _ (.head _)).c2; have z3 := (HK.out.a _ (.head _)).c3; have z4 := (HK.out.a _ (.head _)).c4)
    | (go_at_call 36; (with_reducible refine (HC23.out _ _ _ (by with_unfolding_all exact HK.out.lay) (by with_unfolding_all exact HK.out.r _ (.tail _ (.head _))) (by with_unfolding_all exact HK.out.r _ (.head _))).mono ?_); rintro e wz ⟨rfl, hb⟩; have HK2 := Lib.hid (HK.out.next hb); clear HK x0 x1 x2 x3 x4 y0 y1 y2 y3 y4 z0 z1 z2 z3 z4; have HK := HK2; clear HK2; clear hb; have x0 := (HK.out.a _ (.tail _ (.tail _ (.head _)))).c0; have x1 := (HK.out.a _ (.tail _ (.tail _ (.head _)))).c1; have x2 := (HK.out.a _ (.tail _ (.tail _ (.head _)))).c2; have x3 := (HK.out.a _ (.tail _ (.tail _ (.head _)))).c3; have x4 := (HK.out.a _ (.tail _ (.tail _ (.head _)))).c4; have y0 := (HK.out.a _ (.tail _ (.head _))).c0; have y1 := (HK.out.a _ (.tail _ (.head _))).c1; have y2 := (HK.out.a _ (.tail _ (.head _))).c2; have y3 := (HK.out.a _ (.tail _ (.head _))).c3; have y4 := (HK.out.a _ (.tail _ (.head _))).c4; have z0 := (HK.out.a _ (.head _)).c0; have z1 := (HK.out.a _ (.head _)).c1; have z2 := (HK.out.a _ (.head _)).c2; have z3 := (HK.out.a _ (.head _)).c3; have z4 := (HK.out.a _ (.head _)).c4)
    | (go_at_call 36; (with_reducible refine (HC13.out _ _ _ (by with_unfolding_all exact HK.out.lay) (by with_unfolding_all exact HK.out.r _ (.tail _ (.tail _ (.head _)))) (by with_unfolding_all exact HK.out.r _ (.head _))).mono ?_); rintro e wz ⟨rfl, hb⟩; have HK2 := Lib.hid (HK.out.next hb); clear HK x0 x1 x2 x3 x4 y0 y1 y2 y3 y4 z0 z1 z2 z3 z4; have HK := HK2; clear HK2; clear hb; have x0 := (HK.out.a _ (.tail _ (.tail _ (.head _)))).c0; have x1 := (HK.out.a _ (.tail _ (.tail _ (.head _)))).c1; have x2 := (HK.out.a _ (.tail _ (.tail _ (.head _)))).c2; have x3 := (HK.out.a _ (.tail _ (.tail _ (.head _)))).c3; have x4 := (HK.out.a _ (.tail _ (.tail _ (.head _)))).c4; have y0 := (HK.out.a _ (.tail _ (.head _))).c0; have y1 := (HK.out.a _ (.tail _ (.head _))).c1; have y2 := (HK.out.a _ (.tail _ (.head _))).c2; have y3 := (HK.out.a _ (.tail _ (.head _))).c3; have y4 := (HK.out.a _ (.tail _ (.head _))).c4; have z0 := (HK.out.a _ (.head _)).c0; have z1 := (HK.out.a _ (.head _)).c1; have z2 := (HK.out.a _ (.head _)).c2; have z3 := (HK.out.a _ (.head _)).c3; have z4 := (HK.out.a _ (.head _)).c4)
    | (go_at_call 36; (with_reducible refine (HC21.out _ _ _ (by with_unfolding_all exact HK.out.lay) (by with_unfolding_all exact HK.out.r _ (.tail _ (.head _))) (by with_unfolding_all exact HK.out.r _ (.tail _ (.tail _ (.head _))))).mono ?_); rintro e wz ⟨rfl, hb⟩; have HK2 := Lib.hid (HK.out.next hb); clear HK x0 x1 x2 x3 x4 y0 y1 y2 y3 y4 z0 z1 z2 z3 z4; have HK := HK2; clear HK2; clear hb; have x0 := (HK.out.a _ (.tail _ (.tail _ (.head _)))).c0; have x1 := (HK.out.a _ (.tail _ (.tail _ (.head _)))).c1; have x2 := (HK.out.a _ (.tail _ (.tail _ (.head _)))).c2; have x3 := (HK.out.a _ (.tail _ (.tail _ (.head _)))).c3; have x4 := (HK.out.a _ (.tail _ (.tail _ (.head _)))).c4; have y0 := (HK.out.a _ (.tail _ (.head _))).c0; have y1 := (HK.out.a _ (.tail _ (.head _))).c1; have y2 := (HK.out.a _ (.tail _ (.head _))).c2; have y3 := (HK.out.a _ (.tail _ (.head _))).c3; have y4 := (HK.out.a _ (.tail _ (.head _))).c4; have z0 := (HK.out.a _ (.head _)).c0; have z1 := (HK.out.a _ (.head _)).c1; have z2 := (HK.out.a _ (.head _)).c2; have z3 := (HK.out.a _ (.head _)).c3; have z4 := (HK.out.a _ (.head _)).c4)
    | (go_at_call 38; (with_reducible refine (HSm.out _ _ _ (by with_unfolding_all exact HK.out.r _ (.tail _ (.tail _ (.head _)))) (by with_unfolding_all exact HK.out.r _ (.tail _ (.head _)))).mono ?_); rintro e wz ⟨rfl, hb⟩; have HK2 := Lib.hid (HK.out.next hb); clear HK x0 x1 x2 x3 x4 y0 y1 y2 y3 y4 z0 z1 z2 z3 z4; have HK := HK2; clear HK2; clear hb; have x0 := (HK.out.a _ (.tail _ (.tail _ (.head _)))).c0; have x1 := (HK.out.a _ (.tail _ (.tail _ (.head _)))).c1; have x2 := (HK.out.a _ (.tail _ (.tail _ (.head _)))).c2; have x3 := (HK.out.a _ (.tail _ (.tail _ (.head _)))).c3; have x4 := (HK.out.a _ (.tail _ (.tail _ (.head _)))).c4; have y0 := (HK.out.a _ (.tail _ (.head _))).c0; have y1 := (HK.out.a _ (.tail _ (.head _))).c1; have y2 := (HK.out.a _ (.tail _ (.head _))).c2; have y3 := (HK.out.a _ (.tail _ (.head _))).c3; have y4 := (HK.out.a _ (.tail _ (.head _))).c4; have z0 := (HK.out.a _ (.head _)).c0; have z1 := (HK.out.a _ (.head _)).c1; have z2 := (HK.out.a _ (.head _)).c2; have z3 := (HK.out.a _ (.head _)).c3; have z4 := (HK.out.a _ (.head _)).c4)
    | (go_at_call 39; (with_reducible refine (HLk.out _ _ _ (by with_unfolding_all exact HK.out.r _ (.tail _ (.tail _ (.head _)))) (by with_unfolding_all exact HK.out.r _ (.tail _ (.head _)))).mono ?_); rintro e wz ⟨rfl, hb⟩; have HK2 := Lib.hid (HK.out.next hb); clear HK x0 x1 x2 x3 x4 y0 y1 y2 y3 y4 z0 z1 z2 z3 z4; have HK := HK2; clear HK2; clear hb; have x0 := (HK.out.a _ (.tail _ (.tail _ (.head _)))).c0; have x1 := (HK.out.a _ (.tail _ (.tail _ (.head _)))).c1; have x2 := (HK.out.a _ (.tail _ (.tail _ (.head _)))).c2; have x3 := (HK.out.a _ (.tail _ (.tail _ (.head _)))).c3; have x4 := (HK.out.a _ (.tail _ (.tail _ (.head _)))).c4; have y0 := (HK.out.a _ (.tail _ (.head _))).c0; have y1 := (HK.out.a _ (.tail _ (.head _))).c1; have y2 := (HK.out.a _ (.tail _ (.head _))).c2; have y3 := (HK.out.a _ (.tail _ (.head _))).c3; have y4 := (HK.out.a _ (.tail _ (.head _))).c4; have z0 := (HK.out.a _ (.head _)).c0; have z1 := (HK.out.a _ (.head _)).c1; have z2 := (HK.out.a _ (.head _)).c2; have z3 := (HK.out.a _ (.head _)).c3; have z4 := (HK.out.a _ (.head _)).c4))
  refine wp_loop_rounds 4 ?_
  rw [rounds_succ]
  go_wp2_with (go_at_call 12; refine (HAw.out _ (by with_unfolding_all first | exact HK.out.lay | exact (HK.out.next (drewN_below _ _)).lay)).mono ?_; rintro e wq ⟨rfl, hb⟩; have HB9 : Hid (Below w.heap.size w wq) := (by with_unfolding_all first | exact (HK.out.next hb).bel | exact ((HK.out.next (drewN_below _ _)).next hb).bel); clear hb)
  go_ret
  exact ⟨rfl, HB9.out⟩

set_option maxRecDepth 100000 in
set_option maxHeartbeats 8000000 in
theorem cmpLaw_P_a (A B C : Ar) (v u t : Value) (w : World) (hw : Ru.Lay w) (hv : RdI w.heap.size w v A.z) (hu : RdI w.heap.size w u B.z) (ht : RdI w.heap.size w t C.z) (hf : A.z.length ≤ 500 ∧ B.z.length ≤ 500 ∧ C.z.length ≤ 500) (ga : Good A) (gb : Good B) (gc : Good C) (h1 : cmV A B = 1) (h2 : cmV B A = -1) (hl : likeB A B = false) (h5 : A.k = B.k) (h6 : A.r = B.r) (hd : A.a ≠ B.a) :
    Calls Tryd.prog 9 #[A5 A.k A.r A.a A.b v, A5 B.k B.r B.a B.b u, A5 C.k C.r C.a C.b t] w fun e w' => e = .returned (.bool true) ∧ Below w.heap.size w w' := by
  have HF1 := Lib.hid (fun W h => far_any A v W h)
  have HF2 := Lib.hid (fun W h => far_any B u W h)
  have HF3 := Lib.hid (fun W h => far_any C t W h)
  have HAw := Lib.hid (fun W h => awake_any W h)
  have HK := Lib.hid (start3 A B C v u t w hw hv hu ht)
  rw [decide_eq_false (by omega)] at HF1 HF2 HF3
  have HC12 := Lib.hid (fun v u W h0 h1 h2 => compare_any A B v u W h0 h1 h2 (by omega) (by omega))
  have HC23 := Lib.hid (fun v u W h0 h1 h2 => compare_any B C v u W h0 h1 h2 (by omega) (by omega))
  have HC13 := Lib.hid (fun v u W h0 h1 h2 => compare_any A C v u W h0 h1 h2 (by omega) (by omega))
  have HC21 := Lib.hid (fun v u W h0 h1 h2 => compare_any B A v u W h0 h1 h2 (by omega) (by omega))
  have HSm := Lib.hid (fun v u W h1 h2 => asame_any A B v u W h1 h2 (by omega))
  have HLk := Lib.hid (fun v u W h1 h2 => alike_any A B v u W h1 h2)
  obtain ⟨e12, v12⟩ := cp_ok ga gb
  obtain ⟨e23, v23⟩ := cp_ok gb gc
  obtain ⟨e13, v13⟩ := cp_ok ga gc
  obtain ⟨e21, v21⟩ := cp_ok gb ga
  rw [e12, v12] at HC12
  rw [e23, v23] at HC23
  rw [e13, v13] at HC13
  rw [e21, v21] at HC21
  clear e12 e23 e13 e21 v12 v23 v13 v21
  have hsm : smB A B = false := by
    cases h : smB A B
    · rfl
    · have := (cm_law ga gb gc).2.2.1.2 (smB_eq.1 h); omega
  rw [h1] at HC12
  rw [h2] at HC21
  rw [hsm] at HSm
  rw [hl] at HLk
  have hsg := cm_sign hd
  rw [← cm_a h5 h6 hd] at hsg
  rw [h1] at hsg
  have hs0 : ¬ A.a - B.a < 0 := by omega
  have hwk : IntKind.i64.wrap (A.k - B.k) = 0 := by rw [h5, Int.sub_self]; rfl
  have hwr : IntKind.i64.wrap (A.r - B.r) = 0 := by rw [h6, Int.sub_self]; rfl
  have hwa : IntKind.i64.wrap (A.a - B.a) = A.a - B.a := wrap_d (by have := ga.sh.bd; omega) (by have := ga.sh.bd; omega) (by have := gb.sh.bd; omega) (by have := gb.sh.bd; omega)
  have hne : ((A.a - B.a) == 0) = false := by rw [beq_eq_false_iff_ne]; omega
  clear hsg hd h5 h6
  clear hf ga gb gc h1 h2 hsm hl
  generalize cmV B C = bc at HC23
  generalize cmV A C = ac at HC13
  obtain ⟨p, cap, rfl, hcap, hcap2, hcell⟩ := hv
  obtain ⟨q, cap', rfl, hcap', hcap2', hcell'⟩ := hu
  obtain ⟨s, cap'', rfl, hcap'', hcap2'', hcell''⟩ := ht
  clear hcell hcell' hcell'' hw
  have x0 := (HK.out.a _ (.tail _ (.tail _ (.head _)))).c0
  have x1 := (HK.out.a _ (.tail _ (.tail _ (.head _)))).c1
  have x2 := (HK.out.a _ (.tail _ (.tail _ (.head _)))).c2
  have x3 := (HK.out.a _ (.tail _ (.tail _ (.head _)))).c3
  have x4 := (HK.out.a _ (.tail _ (.tail _ (.head _)))).c4
  have y0 := (HK.out.a _ (.tail _ (.head _))).c0
  have y1 := (HK.out.a _ (.tail _ (.head _))).c1
  have y2 := (HK.out.a _ (.tail _ (.head _))).c2
  have y3 := (HK.out.a _ (.tail _ (.head _))).c3
  have y4 := (HK.out.a _ (.tail _ (.head _))).c4
  have z0 := (HK.out.a _ (.head _)).c0
  have z1 := (HK.out.a _ (.head _)).c1
  have z2 := (HK.out.a _ (.head _)).c2
  have z3 := (HK.out.a _ (.head _)).c3
  have z4 := (HK.out.a _ (.head _)).c4
  go_enter Tryd.func9, Tryd.ntmps9
  go_wp2_with (first
    | (go_at_call 11; (with_reducible refine (HF1.out _ (by with_unfolding_all exact HK.out.r _ (.tail _ (.tail _ (.head _))))).mono ?_); rintro e wz ⟨rfl, hb⟩; have HK2 := Lib.hid (HK.out.next hb); clear HK x0 x1 x2 x3 x4 y0 y1 y2 y3 y4 z0 z1 z2 z3 z4; have HK := HK2; clear HK2; clear hb; have x0 := (HK.out.a _ (.tail _ (.tail _ (.head _)))).c0; have x1 := (HK.out.a _ (.tail _ (.tail _ (.head _)))).c1; have x2 := (HK.out.a _ (.tail _ (.tail _ (.head _)))).c2; have x3 := (HK.out.a _ (.tail _ (.tail _ (.head _)))).c3; have x4 := (HK.out.a _ (.tail _ (.tail _ (.head _)))).c4; have y0 := (HK.out.a _ (.tail _ (.head _))).c0; have y1 := (HK.out.a _ (.tail _ (.head _))).c1; have y2 := (HK.out.a _ (.tail _ (.head _))).c2; have y3 := (HK.out.a _ (.tail _ (.head _))).c3; have y4 := (HK.out.a _ (.tail _ (.head _))).c4; have z0 := (HK.out.a _ (.head _)).c0; have z1 := (HK.out.a _ (.head _)).c1; have z2 := (HK.out.a _ (.head _)).c2; have z3 := (HK.out.a _ (.head _)).c3; have z4 := (HK.out.a _ (.head _)).c4)
    | (go_at_call 11; (with_reducible refine (HF2.out _ (by with_unfolding_all exact HK.out.r _ (.tail _ (.head _)))).mono ?_); rintro e wz ⟨rfl, hb⟩; have HK2 := Lib.hid (HK.out.next hb); clear HK x0 x1 x2 x3 x4 y0 y1 y2 y3 y4 z0 z1 z2 z3 z4; have HK := HK2; clear HK2; clear hb; have x0 := (HK.out.a _ (.tail _ (.tail _ (.head _)))).c0; have x1 := (HK.out.a _ (.tail _ (.tail _ (.head _)))).c1; have x2 := (HK.out.a _ (.tail _ (.tail _ (.head _)))).c2; have x3 := (HK.out.a _ (.tail _ (.tail _ (.head _)))).c3; have x4 := (HK.out.a _ (.tail _ (.tail _ (.head _)))).c4; have y0 := (HK.out.a _ (.tail _ (.head _))).c0; have y1 := (HK.out.a _ (.tail _ (.head _))).c1; have y2 := (HK.out.a _ (.tail _ (.head _))).c2; have y3 := (HK.out.a _ (.tail _ (.head _))).c3; have y4 := (HK.out.a _ (.tail _ (.head _))).c4; have z0 := (HK.out.a _ (.head _)).c0; have z1 := (HK.out.a _ (.head _)).c1; have z2 := (HK.out.a _ (.head _)).c2; have z3 := (HK.out.a _ (.head _)).c3; have z4 := (HK.out.a _ (.head _)).c4)
    | (go_at_call 11; (with_reducible refine (HF3.out _ (by with_unfolding_all exact HK.out.r _ (.head _))).mono ?_); rintro e wz ⟨rfl, hb⟩; have HK2 := Lib.hid (HK.out.next hb); clear HK x0 x1 x2 x3 x4 y0 y1 y2 y3 y4 z0 z1 z2 z3 z4; have HK := HK2; clear HK2; clear hb; have x0 := (HK.out.a _ (.tail _ (.tail _ (.head _)))).c0; have x1 := (HK.out.a _ (.tail _ (.tail _ (.head _)))).c1; have x2 := (HK.out.a _ (.tail _ (.tail _ (.head _)))).c2; have x3 := (HK.out.a _ (.tail _ (.tail _ (.head _)))).c3; have x4 := (HK.out.a _ (.tail _ (.tail _ (.head _)))).c4; have y0 := (HK.out.a _ (.tail _ (.head _))).c0; have y1 := (HK.out.a _ (.tail _ (.head _))).c1; have y2 := (HK.out.a _ (.tail _ (.head _))).c2; have y3 := (HK.out.a _ (.tail _ (.head _))).c3; have y4 := (HK.out.a _ (.tail _ (.head _))).c4; have z0 := (HK.out.a _ (.head _)).c0; have z1 := (HK.out.a _ (.head _)).c1; have z2 := (HK.out.a _ (.head _)).c2; have z3 := (HK.out.a _ (.head _)).c3; have z4 := (HK.out.a _ (.head _)).c4)
    | (go_at_call 36; (with_reducible refine (HC12.out _ _ _ (by with_unfolding_all exact HK.out.lay) (by with_unfolding_all exact HK.out.r _ (.tail _ (.tail _ (.head _)))) (by with_unfolding_all exact HK.out.r _ (.tail _ (.head _)))).mono ?_); rintro e wz ⟨rfl, hb⟩; have HK2 := Lib.hid (HK.out.next hb); clear HK x0 x1 x2 x3 x4 y0 y1 y2 y3 y4 z0 z1 z2 z3 z4; have HK := HK2; clear HK2; clear hb; have x0 := (HK.out.a _ (.tail _ (.tail _ (.head _)))).c0; have x1 := (HK.out.a _ (.tail _ (.tail _ (.head _)))).c1; have x2 := (HK.out.a _ (.tail _ (.tail _ (.head _)))).c2; have x3 := (HK.out.a _ (.tail _ (.tail _ (.head _)))).c3; have x4 := (HK.out.a _ (.tail _ (.tail _ (.head _)))).c4; have y0 := (HK.out.a _ (.tail _ (.head _))).c0; have y1 := (HK.out.a _ (.tail _ (.head _))).c1; have y2 := (HK.out.a _ (.tail _ (.head _))).c2; have y3 := (HK.out.a _ (.tail _ (.head _))).c3; have y4 := (HK.out.a _ (.tail _ (.head _))).c4; have z0 := (HK.out.a _ (.head _)).c0; have z1 := (HK.out.a _ (.head _)).c1; have z2 := (HK.out.a _ (.head _)).c2; have z3 := (HK.out.a _ (.head _)).c3; have z4 := (HK.out.a _ (.head _)).c4)
    | (go_at_call 36; (with_reducible refine (HC23.out _ _ _ (by with_unfolding_all exact HK.out.lay) (by with_unfolding_all exact HK.out.r _ (.tail _ (.head _))) (by with_unfolding_all exact HK.out.r _ (.head _))).mono ?_); rintro e wz ⟨rfl, hb⟩; have HK2 := Lib.hid (HK.out.next hb); clear HK x0 x1 x2 x3 x4 y0 y1 y2 y3 y4 z0 z1 z2 z3 z4; have HK := HK2; clear HK2; clear hb; have x0 := (HK.out.a _ (.tail _ (.tail _ (.head _)))).c0; have x1 := (HK.out.a _ (.tail _ (.tail _ (.head _)))).c1; have x2 := (HK.out.a _ (.tail _ (.tail _ (.head _)))).c2; have x3 := (HK.out.a _ (.tail _ (.tail _ (.head _)))).c3; have x4 := (HK.out.a _ (.tail _ (.tail _ (.head _)))).c4; have y0 := (HK.out.a _ (.tail _ (.head _))).c0; have y1 := (HK.out.a _ (.tail _ (.head _))).c1; have y2 := (HK.out.a _ (.tail _ (.head _))).c2; have y3 := (HK.out.a _ (.tail _ (.head _))).c3; have y4 := (HK.out.a _ (.tail _ (.head _))).c4; have z0 := (HK.out.a _ (.head _)).c0; have z1 := (HK.out.a _ (.head _)).c1; have z2 := (HK.out.a _ (.head _)).c2; have z3 := (HK.out.a _ (.head _)).c3; have z4 := (HK.out.a _ (.head _)).c4)
    | (go_at_call 36; (with_reducible refine (HC13.out _ _ _ (by with_unfolding_all exact HK.out.lay) (by with_unfolding_all exact HK.out.r _ (.tail _ (.tail _ (.head _)))) (by with_unfolding_all exact HK.out.r _ (.head _))).mono ?_); rintro e wz ⟨rfl, hb⟩; have HK2 := Lib.hid (HK.out.next hb); clear HK x0 x1 x2 x3 x4 y0 y1 y2 y3 y4 z0 z1 z2 z3 z4; have HK := HK2; clear HK2; clear hb; have x0 := (HK.out.a _ (.tail _ (.tail _ (.head _)))).c0; have x1 := (HK.out.a _ (.tail _ (.tail _ (.head _)))).c1; have x2 := (HK.out.a _ (.tail _ (.tail _ (.head _)))).c2; have x3 := (HK.out.a _ (.tail _ (.tail _ (.head _)))).c3; have x4 := (HK.out.a _ (.tail _ (.tail _ (.head _)))).c4; have y0 := (HK.out.a _ (.tail _ (.head _))).c0; have y1 := (HK.out.a _ (.tail _ (.head _))).c1; have y2 := (HK.out.a _ (.tail _ (.head _))).c2; have y3 := (HK.out.a _ (.tail _ (.head _))).c3; have y4 := (HK.out.a _ (.tail _ (.head _))).c4; have z0 := (HK.out.a _ (.head _)).c0; have z1 := (HK.out.a _ (.head _)).c1; have z2 := (HK.out.a _ (.head _)).c2; have z3 := (HK.out.a _ (.head _)).c3; have z4 := (HK.out.a _ (.head _)).c4)
    | (go_at_call 36; (with_reducible refine (HC21.out _ _ _ (by with_unfolding_all exact HK.out.lay) (by with_unfolding_all exact HK.out.r _ (.tail _ (.head _))) (by with_unfolding_all exact HK.out.r _ (.tail _ (.tail _ (.head _))))).mono ?_); rintro e wz ⟨rfl, hb⟩; have HK2 := Lib.hid (HK.out.next hb); clear HK x0 x1 x2 x3 x4 y0 y1 y2 y3 y4 z0 z1 z2 z3 z4; have HK := HK2; clear HK2; clear hb; have x0 := (HK.out.a _ (.tail _ (.tail _ (.head _)))).c0; have x1 := (HK.out.a _ (.tail _ (.tail _ (.head _)))).c1; have x2 := (HK.out.a _ (.tail _ (.tail _ (.head _)))).c2; have x3 := (HK.out.a _ (.tail _ (.tail _ (.head _)))).c3; have x4 := (HK.out.a _ (.tail _ (.tail _ (.head _)))).c4; have y0 := (HK.out.a _ (.tail _ (.head _))).c0; have y1 := (HK.out.a _ (.tail _ (.head _))).c1; have y2 := (HK.out.a _ (.tail _ (.head _))).c2; have y3 := (HK.out.a _ (.tail _ (.head _))).c3; have y4 := (HK.out.a _ (.tail _ (.head _))).c4; have z0 := (HK.out.a _ (.head _)).c0; have z1 := (HK.out.a _ (.head _)).c1; have z2 := (HK.out.a _ (.head _)).c2; have z3 := (HK.out.a _ (.head _)).c3; have z4 := (HK.out.a _ (.head _)).c4)
    | (go_at_call 38; (with_reducible refine (HSm.out _ _ _ (by with_unfolding_all exact HK.out.r _ (.tail _ (.tail _ (.head _)))) (by with_unfolding_all exact HK.out.r _ (.tail _ (.head _)))).mono ?_); rintro e wz ⟨rfl, hb⟩; have HK2 := Lib.hid (HK.out.next hb); clear HK x0 x1 x2 x3 x4 y0 y1 y2 y3 y4 z0 z1 z2 z3 z4; have HK := HK2; clear HK2; clear hb; have x0 := (HK.out.a _ (.tail _ (.tail _ (.head _)))).c0; have x1 := (HK.out.a _ (.tail _ (.tail _ (.head _)))).c1; have x2 := (HK.out.a _ (.tail _ (.tail _ (.head _)))).c2; have x3 := (HK.out.a _ (.tail _ (.tail _ (.head _)))).c3; have x4 := (HK.out.a _ (.tail _ (.tail _ (.head _)))).c4; have y0 := (HK.out.a _ (.tail _ (.head _))).c0; have y1 := (HK.out.a _ (.tail _ (.head _))).c1; have y2 := (HK.out.a _ (.tail _ (.head _))).c2; have y3 := (HK.out.a _ (.tail _ (.head _))).c3; have y4 := (HK.out.a _ (.tail _ (.head _))).c4; have z0 := (HK.out.a _ (.head _)).c0; have z1 := (HK.out.a _ (.head _)).c1; have z2 := (HK.out.a _ (.head _)).c2; have z3 := (HK.out.a _ (.head _)).c3; have z4 := (HK.out.a _ (.head _)).c4)
    | (go_at_call 39; (with_reducible refine (HLk.out _ _ _ (by with_unfolding_all exact HK.out.r _ (.tail _ (.tail _ (.head _)))) (by with_unfolding_all exact HK.out.r _ (.tail _ (.head _)))).mono ?_); rintro e wz ⟨rfl, hb⟩; have HK2 := Lib.hid (HK.out.next hb); clear HK x0 x1 x2 x3 x4 y0 y1 y2 y3 y4 z0 z1 z2 z3 z4; have HK := HK2; clear HK2; clear hb; have x0 := (HK.out.a _ (.tail _ (.tail _ (.head _)))).c0; have x1 := (HK.out.a _ (.tail _ (.tail _ (.head _)))).c1; have x2 := (HK.out.a _ (.tail _ (.tail _ (.head _)))).c2; have x3 := (HK.out.a _ (.tail _ (.tail _ (.head _)))).c3; have x4 := (HK.out.a _ (.tail _ (.tail _ (.head _)))).c4; have y0 := (HK.out.a _ (.tail _ (.head _))).c0; have y1 := (HK.out.a _ (.tail _ (.head _))).c1; have y2 := (HK.out.a _ (.tail _ (.head _))).c2; have y3 := (HK.out.a _ (.tail _ (.head _))).c3; have y4 := (HK.out.a _ (.tail _ (.head _))).c4; have z0 := (HK.out.a _ (.head _)).c0; have z1 := (HK.out.a _ (.head _)).c1; have z2 := (HK.out.a _ (.head _)).c2; have z3 := (HK.out.a _ (.head _)).c3; have z4 := (HK.out.a _ (.head _)).c4))
  refine wp_loop_rounds 4 ?_
  rw [rounds_succ]
  go_wp2_with fail
  go_quiet (fail)
  go_wp2_with fail
  rw [rounds_succ]
  go_wp2_with (go_at_call 12; refine (HAw.out _ (by with_unfolding_all first | exact HK.out.lay | exact (HK.out.next (drewN_below _ _)).lay)).mono ?_; rintro e wq ⟨rfl, hb⟩; have HB9 : Hid (Below w.heap.size w wq) := (by with_unfolding_all first | exact (HK.out.next hb).bel | exact ((HK.out.next (drewN_below _ _)).next hb).bel); clear hb)
  go_ret
  exact ⟨rfl, HB9.out⟩

set_option maxRecDepth 100000 in
set_option maxHeartbeats 8000000 in
theorem cmpLaw_P_b (A B C : Ar) (v u t : Value) (w : World) (hw : Ru.Lay w) (hv : RdI w.heap.size w v A.z) (hu : RdI w.heap.size w u B.z) (ht : RdI w.heap.size w t C.z) (hf : A.z.length ≤ 500 ∧ B.z.length ≤ 500 ∧ C.z.length ≤ 500) (ga : Good A) (gb : Good B) (gc : Good C) (h1 : cmV A B = 1) (h2 : cmV B A = -1) (hl : likeB A B = false) (h5 : A.k = B.k) (h6 : A.r = B.r) (h7 : A.a = B.a) (hd : A.b ≠ B.b) :
    Calls Tryd.prog 9 #[A5 A.k A.r A.a A.b v, A5 B.k B.r B.a B.b u, A5 C.k C.r C.a C.b t] w fun e w' => e = .returned (.bool true) ∧ Below w.heap.size w w' := by
  have HF1 := Lib.hid (fun W h => far_any A v W h)
  have HF2 := Lib.hid (fun W h => far_any B u W h)
  have HF3 := Lib.hid (fun W h => far_any C t W h)
  have HAw := Lib.hid (fun W h => awake_any W h)
  have HK := Lib.hid (start3 A B C v u t w hw hv hu ht)
  rw [decide_eq_false (by omega)] at HF1 HF2 HF3
  have HC12 := Lib.hid (fun v u W h0 h1 h2 => compare_any A B v u W h0 h1 h2 (by omega) (by omega))
  have HC23 := Lib.hid (fun v u W h0 h1 h2 => compare_any B C v u W h0 h1 h2 (by omega) (by omega))
  have HC13 := Lib.hid (fun v u W h0 h1 h2 => compare_any A C v u W h0 h1 h2 (by omega) (by omega))
  have HC21 := Lib.hid (fun v u W h0 h1 h2 => compare_any B A v u W h0 h1 h2 (by omega) (by omega))
  have HSm := Lib.hid (fun v u W h1 h2 => asame_any A B v u W h1 h2 (by omega))
  have HLk := Lib.hid (fun v u W h1 h2 => alike_any A B v u W h1 h2)
  obtain ⟨e12, v12⟩ := cp_ok ga gb
  obtain ⟨e23, v23⟩ := cp_ok gb gc
  obtain ⟨e13, v13⟩ := cp_ok ga gc
  obtain ⟨e21, v21⟩ := cp_ok gb ga
  rw [e12, v12] at HC12
  rw [e23, v23] at HC23
  rw [e13, v13] at HC13
  rw [e21, v21] at HC21
  clear e12 e23 e13 e21 v12 v23 v13 v21
  have hsm : smB A B = false := by
    cases h : smB A B
    · rfl
    · have := (cm_law ga gb gc).2.2.1.2 (smB_eq.1 h); omega
  rw [h1] at HC12
  rw [h2] at HC21
  rw [hsm] at HSm
  rw [hl] at HLk
  have hsg := cm_sign hd
  rw [← cm_b h5 h6 h7 hd] at hsg
  rw [h1] at hsg
  have hs0 : ¬ A.b - B.b < 0 := by omega
  have hwk : IntKind.i64.wrap (A.k - B.k) = 0 := by rw [h5, Int.sub_self]; rfl
  have hwr : IntKind.i64.wrap (A.r - B.r) = 0 := by rw [h6, Int.sub_self]; rfl
  have hwa : IntKind.i64.wrap (A.a - B.a) = 0 := by rw [h7, Int.sub_self]; rfl
  have hwb : IntKind.i64.wrap (A.b - B.b) = A.b - B.b := wrap_d (by have := ga.sh.bd; omega) (by have := ga.sh.bd; omega) (by have := gb.sh.bd; omega) (by have := gb.sh.bd; omega)
  have hne : ((A.b - B.b) == 0) = false := by rw [beq_eq_false_iff_ne]; omega
  clear hsg hd h5 h6 h7
  clear hf ga gb gc h1 h2 hsm hl
  generalize cmV B C = bc at HC23
  generalize cmV A C = ac at HC13
  obtain ⟨p, cap, rfl, hcap, hcap2, hcell⟩ := hv
  obtain ⟨q, cap', rfl, hcap', hcap2', hcell'⟩ := hu
  obtain ⟨s, cap'', rfl, hcap'', hcap2'', hcell''⟩ := ht
  clear hcell hcell' hcell'' hw
  have x0 := (HK.out.a _ (.tail _ (.tail _ (.head _)))).c0
  have x1 := (HK.out.a _ (.tail _ (.tail _ (.head _)))).c1
  have x2 := (HK.out.a _ (.tail _ (.tail _ (.head _)))).c2
  have x3 := (HK.out.a _ (.tail _ (.tail _ (.head _)))).c3
  have x4 := (HK.out.a _ (.tail _ (.tail _ (.head _)))).c4
  have y0 := (HK.out.a _ (.tail _ (.head _))).c0
  have y1 := (HK.out.a _ (.tail _ (.head _))).c1
  have y2 := (HK.out.a _ (.tail _ (.head _))).c2
  have y3 := (HK.out.a _ (.tail _ (.head _))).c3
  have y4 := (HK.out.a _ (.tail _ (.head _))).c4
  have z0 := (HK.out.a _ (.head _)).c0
  have z1 := (HK.out.a _ (.head _)).c1
  have z2 := (HK.out.a _ (.head _)).c2
  have z3 := (HK.out.a _ (.head _)).c3
  have z4 := (HK.out.a _ (.head _)).c4
  go_enter Tryd.func9, Tryd.ntmps9
  go_wp2_with (first
    | (go_at_call 11; (with_reducible refine (HF1.out _ (by with_unfolding_all exact HK.out.r _ (.tail _ (.tail _ (.head _))))).mono ?_); rintro e wz ⟨rfl, hb⟩; have HK2 := Lib.hid (HK.out.next hb); clear HK x0 x1 x2 x3 x4 y0 y1 y2 y3 y4 z0 z1 z2 z3 z4; have HK := HK2; clear HK2; clear hb; have x0 := (HK.out.a _ (.tail _ (.tail _ (.head _)))).c0; have x1 := (HK.out.a _ (.tail _ (.tail _ (.head _)))).c1; have x2 := (HK.out.a _ (.tail _ (.tail _ (.head _)))).c2; have x3 := (HK.out.a _ (.tail _ (.tail _ (.head _)))).c3; have x4 := (HK.out.a _ (.tail _ (.tail _ (.head _)))).c4; have y0 := (HK.out.a _ (.tail _ (.head _))).c0; have y1 := (HK.out.a _ (.tail _ (.head _))).c1; have y2 := (HK.out.a _ (.tail _ (.head _))).c2; have y3 := (HK.out.a _ (.tail _ (.head _))).c3; have y4 := (HK.out.a _ (.tail _ (.head _))).c4; have z0 := (HK.out.a _ (.head _)).c0; have z1 := (HK.out.a _ (.head _)).c1; have z2 := (HK.out.a _ (.head _)).c2; have z3 := (HK.out.a _ (.head _)).c3; have z4 := (HK.out.a _ (.head _)).c4)
    | (go_at_call 11; (with_reducible refine (HF2.out _ (by with_unfolding_all exact HK.out.r _ (.tail _ (.head _)))).mono ?_); rintro e wz ⟨rfl, hb⟩; have HK2 := Lib.hid (HK.out.next hb); clear HK x0 x1 x2 x3 x4 y0 y1 y2 y3 y4 z0 z1 z2 z3 z4; have HK := HK2; clear HK2; clear hb; have x0 := (HK.out.a _ (.tail _ (.tail _ (.head _)))).c0; have x1 := (HK.out.a _ (.tail _ (.tail _ (.head _)))).c1; have x2 := (HK.out.a _ (.tail _ (.tail _ (.head _)))).c2; have x3 := (HK.out.a _ (.tail _ (.tail _ (.head _)))).c3; have x4 := (HK.out.a _ (.tail _ (.tail _ (.head _)))).c4; have y0 := (HK.out.a _ (.tail _ (.head _))).c0; have y1 := (HK.out.a _ (.tail _ (.head _))).c1; have y2 := (HK.out.a _ (.tail _ (.head _))).c2; have y3 := (HK.out.a _ (.tail _ (.head _))).c3; have y4 := (HK.out.a _ (.tail _ (.head _))).c4; have z0 := (HK.out.a _ (.head _)).c0; have z1 := (HK.out.a _ (.head _)).c1; have z2 := (HK.out.a _ (.head _)).c2; have z3 := (HK.out.a _ (.head _)).c3; have z4 := (HK.out.a _ (.head _)).c4)
    | (go_at_call 11; (with_reducible refine (HF3.out _ (by with_unfolding_all exact HK.out.r _ (.head _))).mono ?_); rintro e wz ⟨rfl, hb⟩; have HK2 := Lib.hid (HK.out.next hb); clear HK x0 x1 x2 x3 x4 y0 y1 y2 y3 y4 z0 z1 z2 z3 z4; have HK := HK2; clear HK2; clear hb; have x0 := (HK.out.a _ (.tail _ (.tail _ (.head _)))).c0; have x1 := (HK.out.a _ (.tail _ (.tail _ (.head _)))).c1; have x2 := (HK.out.a _ (.tail _ (.tail _ (.head _)))).c2; have x3 := (HK.out.a _ (.tail _ (.tail _ (.head _)))).c3; have x4 := (HK.out.a _ (.tail _ (.tail _ (.head _)))).c4; have y0 := (HK.out.a _ (.tail _ (.head _))).c0; have y1 := (HK.out.a _ (.tail _ (.head _))).c1; have y2 := (HK.out.a _ (.tail _ (.head _))).c2; have y3 := (HK.out.a _ (.tail _ (.head _))).c3; have y4 := (HK.out.a _ (.tail _ (.head _))).c4; have z0 := (HK.out.a _ (.head _)).c0; have z1 := (HK.out.a _ (.head _)).c1; have z2 := (HK.out.a _ (.head _)).c2; have z3 := (HK.out.a _ (.head _)).c3; have z4 := (HK.out.a _ (.head _)).c4)
    | (go_at_call 36; (with_reducible refine (HC12.out _ _ _ (by with_unfolding_all exact HK.out.lay) (by with_unfolding_all exact HK.out.r _ (.tail _ (.tail _ (.head _)))) (by with_unfolding_all exact HK.out.r _ (.tail _ (.head _)))).mono ?_); rintro e wz ⟨rfl, hb⟩; have HK2 := Lib.hid (HK.out.next hb); clear HK x0 x1 x2 x3 x4 y0 y1 y2 y3 y4 z0 z1 z2 z3 z4; have HK := HK2; clear HK2; clear hb; have x0 := (HK.out.a _ (.tail _ (.tail _ (.head _)))).c0; have x1 := (HK.out.a _ (.tail _ (.tail _ (.head _)))).c1; have x2 := (HK.out.a _ (.tail _ (.tail _ (.head _)))).c2; have x3 := (HK.out.a _ (.tail _ (.tail _ (.head _)))).c3; have x4 := (HK.out.a _ (.tail _ (.tail _ (.head _)))).c4; have y0 := (HK.out.a _ (.tail _ (.head _))).c0; have y1 := (HK.out.a _ (.tail _ (.head _))).c1; have y2 := (HK.out.a _ (.tail _ (.head _))).c2; have y3 := (HK.out.a _ (.tail _ (.head _))).c3; have y4 := (HK.out.a _ (.tail _ (.head _))).c4; have z0 := (HK.out.a _ (.head _)).c0; have z1 := (HK.out.a _ (.head _)).c1; have z2 := (HK.out.a _ (.head _)).c2; have z3 := (HK.out.a _ (.head _)).c3; have z4 := (HK.out.a _ (.head _)).c4)
    | (go_at_call 36; (with_reducible refine (HC23.out _ _ _ (by with_unfolding_all exact HK.out.lay) (by with_unfolding_all exact HK.out.r _ (.tail _ (.head _))) (by with_unfolding_all exact HK.out.r _ (.head _))).mono ?_); rintro e wz ⟨rfl, hb⟩; have HK2 := Lib.hid (HK.out.next hb); clear HK x0 x1 x2 x3 x4 y0 y1 y2 y3 y4 z0 z1 z2 z3 z4; have HK := HK2; clear HK2; clear hb; have x0 := (HK.out.a _ (.tail _ (.tail _ (.head _)))).c0; have x1 := (HK.out.a _ (.tail _ (.tail _ (.head _)))).c1; have x2 := (HK.out.a _ (.tail _ (.tail _ (.head _)))).c2; have x3 := (HK.out.a _ (.tail _ (.tail _ (.head _)))).c3; have x4 := (HK.out.a _ (.tail _ (.tail _ (.head _)))).c4; have y0 := (HK.out.a _ (.tail _ (.head _))).c0; have y1 := (HK.out.a _ (.tail _ (.head _))).c1; have y2 := (HK.out.a _ (.tail _ (.head _))).c2; have y3 := (HK.out.a _ (.tail _ (.head _))).c3; have y4 := (HK.out.a _ (.tail _ (.head _))).c4; have z0 := (HK.out.a _ (.head _)).c0; have z1 := (HK.out.a _ (.head _)).c1; have z2 := (HK.out.a _ (.head _)).c2; have z3 := (HK.out.a _ (.head _)).c3; have z4 := (HK.out.a _ (.head _)).c4)
    | (go_at_call 36; (with_reducible refine (HC13.out _ _ _ (by with_unfolding_all exact HK.out.lay) (by with_unfolding_all exact HK.out.r _ (.tail _ (.tail _ (.head _)))) (by with_unfolding_all exact HK.out.r _ (.head _))).mono ?_); rintro e wz ⟨rfl, hb⟩; have HK2 := Lib.hid (HK.out.next hb); clear HK x0 x1 x2 x3 x4 y0 y1 y2 y3 y4 z0 z1 z2 z3 z4; have HK := HK2; clear HK2; clear hb; have x0 := (HK.out.a _ (.tail _ (.tail _ (.head _)))).c0; have x1 := (HK.out.a _ (.tail _ (.tail _ (.head _)))).c1; have x2 := (HK.out.a _ (.tail _ (.tail _ (.head _)))).c2; have x3 := (HK.out.a _ (.tail _ (.tail _ (.head _)))).c3; have x4 := (HK.out.a _ (.tail _ (.tail _ (.head _)))).c4; have y0 := (HK.out.a _ (.tail _ (.head _))).c0; have y1 := (HK.out.a _ (.tail _ (.head _))).c1; have y2 := (HK.out.a _ (.tail _ (.head _))).c2; have y3 := (HK.out.a _ (.tail _ (.head _))).c3; have y4 := (HK.out.a _ (.tail _ (.head _))).c4; have z0 := (HK.out.a _ (.head _)).c0; have z1 := (HK.out.a _ (.head _)).c1; have z2 := (HK.out.a _ (.head _)).c2; have z3 := (HK.out.a _ (.head _)).c3; have z4 := (HK.out.a _ (.head _)).c4)
    | (go_at_call 36; (with_reducible refine (HC21.out _ _ _ (by with_unfolding_all exact HK.out.lay) (by with_unfolding_all exact HK.out.r _ (.tail _ (.head _))) (by with_unfolding_all exact HK.out.r _ (.tail _ (.tail _ (.head _))))).mono ?_); rintro e wz ⟨rfl, hb⟩; have HK2 := Lib.hid (HK.out.next hb); clear HK x0 x1 x2 x3 x4 y0 y1 y2 y3 y4 z0 z1 z2 z3 z4; have HK := HK2; clear HK2; clear hb; have x0 := (HK.out.a _ (.tail _ (.tail _ (.head _)))).c0; have x1 := (HK.out.a _ (.tail _ (.tail _ (.head _)))).c1; have x2 := (HK.out.a _ (.tail _ (.tail _ (.head _)))).c2; have x3 := (HK.out.a _ (.tail _ (.tail _ (.head _)))).c3; have x4 := (HK.out.a _ (.tail _ (.tail _ (.head _)))).c4; have y0 := (HK.out.a _ (.tail _ (.head _))).c0; have y1 := (HK.out.a _ (.tail _ (.head _))).c1; have y2 := (HK.out.a _ (.tail _ (.head _))).c2; have y3 := (HK.out.a _ (.tail _ (.head _))).c3; have y4 := (HK.out.a _ (.tail _ (.head _))).c4; have z0 := (HK.out.a _ (.head _)).c0; have z1 := (HK.out.a _ (.head _)).c1; have z2 := (HK.out.a _ (.head _)).c2; have z3 := (HK.out.a _ (.head _)).c3; have z4 := (HK.out.a _ (.head _)).c4)
    | (go_at_call 38; (with_reducible refine (HSm.out _ _ _ (by with_unfolding_all exact HK.out.r _ (.tail _ (.tail _ (.head _)))) (by with_unfolding_all exact HK.out.r _ (.tail _ (.head _)))).mono ?_); rintro e wz ⟨rfl, hb⟩; have HK2 := Lib.hid (HK.out.next hb); clear HK x0 x1 x2 x3 x4 y0 y1 y2 y3 y4 z0 z1 z2 z3 z4; have HK := HK2; clear HK2; clear hb; have x0 := (HK.out.a _ (.tail _ (.tail _ (.head _)))).c0; have x1 := (HK.out.a _ (.tail _ (.tail _ (.head _)))).c1; have x2 := (HK.out.a _ (.tail _ (.tail _ (.head _)))).c2; have x3 := (HK.out.a _ (.tail _ (.tail _ (.head _)))).c3; have x4 := (HK.out.a _ (.tail _ (.tail _ (.head _)))).c4; have y0 := (HK.out.a _ (.tail _ (.head _))).c0; have y1 := (HK.out.a _ (.tail _ (.head _))).c1; have y2 := (HK.out.a _ (.tail _ (.head _))).c2; have y3 := (HK.out.a _ (.tail _ (.head _))).c3; have y4 := (HK.out.a _ (.tail _ (.head _))).c4; have z0 := (HK.out.a _ (.head _)).c0; have z1 := (HK.out.a _ (.head _)).c1; have z2 := (HK.out.a _ (.head _)).c2; have z3 := (HK.out.a _ (.head _)).c3; have z4 := (HK.out.a _ (.head _)).c4)
    | (go_at_call 39; (with_reducible refine (HLk.out _ _ _ (by with_unfolding_all exact HK.out.r _ (.tail _ (.tail _ (.head _)))) (by with_unfolding_all exact HK.out.r _ (.tail _ (.head _)))).mono ?_); rintro e wz ⟨rfl, hb⟩; have HK2 := Lib.hid (HK.out.next hb); clear HK x0 x1 x2 x3 x4 y0 y1 y2 y3 y4 z0 z1 z2 z3 z4; have HK := HK2; clear HK2; clear hb; have x0 := (HK.out.a _ (.tail _ (.tail _ (.head _)))).c0; have x1 := (HK.out.a _ (.tail _ (.tail _ (.head _)))).c1; have x2 := (HK.out.a _ (.tail _ (.tail _ (.head _)))).c2; have x3 := (HK.out.a _ (.tail _ (.tail _ (.head _)))).c3; have x4 := (HK.out.a _ (.tail _ (.tail _ (.head _)))).c4; have y0 := (HK.out.a _ (.tail _ (.head _))).c0; have y1 := (HK.out.a _ (.tail _ (.head _))).c1; have y2 := (HK.out.a _ (.tail _ (.head _))).c2; have y3 := (HK.out.a _ (.tail _ (.head _))).c3; have y4 := (HK.out.a _ (.tail _ (.head _))).c4; have z0 := (HK.out.a _ (.head _)).c0; have z1 := (HK.out.a _ (.head _)).c1; have z2 := (HK.out.a _ (.head _)).c2; have z3 := (HK.out.a _ (.head _)).c3; have z4 := (HK.out.a _ (.head _)).c4))
  have x3d : ∀ n, (wz.drewN n).cell? ⟨w.heap.size, 3, none⟩ = some (.int .i64 A.b) := fun n => x3
  have y3d : ∀ n, (wz.drewN n).cell? ⟨w.heap.size + 1, 3, none⟩ = some (.int .i64 B.b) := fun n => y3
  refine wp_loop_rounds 4 ?_
  rw [rounds_succ]
  go_wp2_with fail
  go_quiet (fail)
  go_wp2_with fail
  rw [rounds_succ]
  go_wp2_with fail
  go_quiet (fail)
  go_wp2_with fail
  rw [rounds_succ]
  go_wp2_with (go_at_call 12; refine (HAw.out _ (by with_unfolding_all first | exact HK.out.lay | exact (HK.out.next (drewN_below _ _)).lay)).mono ?_; rintro e wq ⟨rfl, hb⟩; have HB9 : Hid (Below w.heap.size w wq) := (by with_unfolding_all first | exact (HK.out.next hb).bel | exact ((HK.out.next (drewN_below _ _)).next hb).bel); clear hb)
  go_ret
  exact ⟨rfl, HB9.out⟩

set_option maxRecDepth 100000 in
set_option maxHeartbeats 8000000 in
theorem cmpLaw_Z1_like (A B C : Ar) (v u t : Value) (w : World) (hw : Ru.Lay w) (hv : RdI w.heap.size w v A.z) (hu : RdI w.heap.size w u B.z) (ht : RdI w.heap.size w t C.z) (hf : A.z.length ≤ 500 ∧ B.z.length ≤ 500 ∧ C.z.length ≤ 500) (ga : Good A) (gb : Good B) (gc : Good C) (h1 : cmV A B = 0) (h2 : cmV B A = 0) (h3 : ¬ cmV B C ≤ 0) (hl : likeB A B = true) :
    Calls Tryd.prog 9 #[A5 A.k A.r A.a A.b v, A5 B.k B.r B.a B.b u, A5 C.k C.r C.a C.b t] w fun e w' => e = .returned (.bool true) ∧ Below w.heap.size w w' := by
  have HF1 := Lib.hid (fun W h => far_any A v W h)
  have HF2 := Lib.hid (fun W h => far_any B u W h)
  have HF3 := Lib.hid (fun W h => far_any C t W h)
  have HAw := Lib.hid (fun W h => awake_any W h)
  have HK := Lib.hid (start3 A B C v u t w hw hv hu ht)
  rw [decide_eq_false (by omega)] at HF1 HF2 HF3
  have HC12 := Lib.hid (fun v u W h0 h1 h2 => compare_any A B v u W h0 h1 h2 (by omega) (by omega))
  have HC23 := Lib.hid (fun v u W h0 h1 h2 => compare_any B C v u W h0 h1 h2 (by omega) (by omega))
  have HC13 := Lib.hid (fun v u W h0 h1 h2 => compare_any A C v u W h0 h1 h2 (by omega) (by omega))
  have HC21 := Lib.hid (fun v u W h0 h1 h2 => compare_any B A v u W h0 h1 h2 (by omega) (by omega))
  have HSm := Lib.hid (fun v u W h1 h2 => asame_any A B v u W h1 h2 (by omega))
  have HLk := Lib.hid (fun v u W h1 h2 => alike_any A B v u W h1 h2)
  obtain ⟨e12, v12⟩ := cp_ok ga gb
  obtain ⟨e23, v23⟩ := cp_ok gb gc
  obtain ⟨e13, v13⟩ := cp_ok ga gc
  obtain ⟨e21, v21⟩ := cp_ok gb ga
  rw [e12, v12] at HC12
  rw [e23, v23] at HC23
  rw [e13, v13] at HC13
  rw [e21, v21] at HC21
  clear e12 e23 e13 e21 v12 v23 v13 v21
  have hsm : smB A B = true := by
    exact smB_eq.2 ((cm_law ga gb gc).2.2.1.1 h1)
  rw [h1] at HC12
  rw [h2] at HC21
  rw [hsm] at HSm
  rw [hl] at HLk
  clear hf ga gb gc h1 h2 hsm hl
  generalize cmV B C = bc at HC23 h3
  generalize cmV A C = ac at HC13
  obtain ⟨p, cap, rfl, hcap, hcap2, hcell⟩ := hv
  obtain ⟨q, cap', rfl, hcap', hcap2', hcell'⟩ := hu
  obtain ⟨s, cap'', rfl, hcap'', hcap2'', hcell''⟩ := ht
  clear hcell hcell' hcell'' hw
  have x0 := (HK.out.a _ (.tail _ (.tail _ (.head _)))).c0
  have x1 := (HK.out.a _ (.tail _ (.tail _ (.head _)))).c1
  have x2 := (HK.out.a _ (.tail _ (.tail _ (.head _)))).c2
  have x3 := (HK.out.a _ (.tail _ (.tail _ (.head _)))).c3
  have x4 := (HK.out.a _ (.tail _ (.tail _ (.head _)))).c4
  have y0 := (HK.out.a _ (.tail _ (.head _))).c0
  have y1 := (HK.out.a _ (.tail _ (.head _))).c1
  have y2 := (HK.out.a _ (.tail _ (.head _))).c2
  have y3 := (HK.out.a _ (.tail _ (.head _))).c3
  have y4 := (HK.out.a _ (.tail _ (.head _))).c4
  have z0 := (HK.out.a _ (.head _)).c0
  have z1 := (HK.out.a _ (.head _)).c1
  have z2 := (HK.out.a _ (.head _)).c2
  have z3 := (HK.out.a _ (.head _)).c3
  have z4 := (HK.out.a _ (.head _)).c4
  go_enter Tryd.func9, Tryd.ntmps9
  go_wp2_with (first
    | (go_at_call 11; (with_reducible refine (HF1.out _ (by with_unfolding_all exact HK.out.r _ (.tail _ (.tail _ (.head _))))).mono ?_); rintro e wz ⟨rfl, hb⟩; have HK2 := Lib.hid (HK.out.next hb); clear HK x0 x1 x2 x3 x4 y0 y1 y2 y3 y4 z0 z1 z2 z3 z4; have HK := HK2; clear HK2; clear hb; have x0 := (HK.out.a _ (.tail _ (.tail _ (.head _)))).c0; have x1 := (HK.out.a _ (.tail _ (.tail _ (.head _)))).c1; have x2 := (HK.out.a _ (.tail _ (.tail _ (.head _)))).c2; have x3 := (HK.out.a _ (.tail _ (.tail _ (.head _)))).c3; have x4 := (HK.out.a _ (.tail _ (.tail _ (.head _)))).c4; have y0 := (HK.out.a _ (.tail _ (.head _))).c0; have y1 := (HK.out.a _ (.tail _ (.head _))).c1; have y2 := (HK.out.a _ (.tail _ (.head _))).c2; have y3 := (HK.out.a _ (.tail _ (.head _))).c3; have y4 := (HK.out.a _ (.tail _ (.head _))).c4; have z0 := (HK.out.a _ (.head _)).c0; have z1 := (HK.out.a _ (.head _)).c1; have z2 := (HK.out.a _ (.head _)).c2; have z3 := (HK.out.a _ (.head _)).c3; have z4 := (HK.out.a _ (.head _)).c4)
    | (go_at_call 11; (with_reducible refine (HF2.out _ (by with_unfolding_all exact HK.out.r _ (.tail _ (.head _)))).mono ?_); rintro e wz ⟨rfl, hb⟩; have HK2 := Lib.hid (HK.out.next hb); clear HK x0 x1 x2 x3 x4 y0 y1 y2 y3 y4 z0 z1 z2 z3 z4; have HK := HK2; clear HK2; clear hb; have x0 := (HK.out.a _ (.tail _ (.tail _ (.head _)))).c0; have x1 := (HK.out.a _ (.tail _ (.tail _ (.head _)))).c1; have x2 := (HK.out.a _ (.tail _ (.tail _ (.head _)))).c2; have x3 := (HK.out.a _ (.tail _ (.tail _ (.head _)))).c3; have x4 := (HK.out.a _ (.tail _ (.tail _ (.head _)))).c4; have y0 := (HK.out.a _ (.tail _ (.head _))).c0; have y1 := (HK.out.a _ (.tail _ (.head _))).c1; have y2 := (HK.out.a _ (.tail _ (.head _))).c2; have y3 := (HK.out.a _ (.tail _ (.head _))).c3; have y4 := (HK.out.a _ (.tail _ (.head _))).c4; have z0 := (HK.out.a _ (.head _)).c0; have z1 := (HK.out.a _ (.head _)).c1; have z2 := (HK.out.a _ (.head _)).c2; have z3 := (HK.out.a _ (.head _)).c3; have z4 := (HK.out.a _ (.head _)).c4)
    | (go_at_call 11; (with_reducible refine (HF3.out _ (by with_unfolding_all exact HK.out.r _ (.head _))).mono ?_); rintro e wz ⟨rfl, hb⟩; have HK2 := Lib.hid (HK.out.next hb); clear HK x0 x1 x2 x3 x4 y0 y1 y2 y3 y4 z0 z1 z2 z3 z4; have HK := HK2; clear HK2; clear hb; have x0 := (HK.out.a _ (.tail _ (.tail _ (.head _)))).c0; have x1 := (HK.out.a _ (.tail _ (.tail _ (.head _)))).c1; have x2 := (HK.out.a _ (.tail _ (.tail _ (.head _)))).c2; have x3 := (HK.out.a _ (.tail _ (.tail _ (.head _)))).c3; have x4 := (HK.out.a _ (.tail _ (.tail _ (.head _)))).c4; have y0 := (HK.out.a _ (.tail _ (.head _))).c0; have y1 := (HK.out.a _ (.tail _ (.head _))).c1; have y2 := (HK.out.a _ (.tail _ (.head _))).c2; have y3 := (HK.out.a _ (.tail _ (.head _))).c3; have y4 := (HK.out.a _ (.tail _ (.head _))).c4; have z0 := (HK.out.a _ (.head _)).c0; have z1 := (HK.out.a _ (.head _)).c1; have z2 := (HK.out.a _ (.head _)).c2; have z3 := (HK.out.a _ (.head _)).c3; have z4 := (HK.out.a _ (.head _)).c4)
    | (go_at_call 36; (with_reducible refine (HC12.out _ _ _ (by with_unfolding_all exact HK.out.lay) (by with_unfolding_all exact HK.out.r _ (.tail _ (.tail _ (.head _)))) (by with_unfolding_all exact HK.out.r _ (.tail _ (.head _)))).mono ?_); rintro e wz ⟨rfl, hb⟩; have HK2 := Lib.hid (HK.out.next hb); clear HK x0 x1 x2 x3 x4 y0 y1 y2 y3 y4 z0 z1 z2 z3 z4; have HK := HK2; clear HK2; clear hb; have x0 := (HK.out.a _ (.tail _ (.tail _ (.head _)))).c0; have x1 := (HK.out.a _ (.tail _ (.tail _ (.head _)))).c1; have x2 := (HK.out.a _ (.tail _ (.tail _ (.head _)))).c2; have x3 := (HK.out.a _ (.tail _ (.tail _ (.head _)))).c3; have x4 := (HK.out.a _ (.tail _ (.tail _ (.head _)))).c4; have y0 := (HK.out.a _ (.tail _ (.head _))).c0; have y1 := (HK.out.a _ (.tail _ (.head _))).c1; have y2 := (HK.out.a _ (.tail _ (.head _))).c2; have y3 := (HK.out.a _ (.tail _ (.head _))).c3; have y4 := (HK.out.a _ (.tail _ (.head _))).c4; have z0 := (HK.out.a _ (.head _)).c0; have z1 := (HK.out.a _ (.head _)).c1; have z2 := (HK.out.a _ (.head _)).c2; have z3 := (HK.out.a _ (.head _)).c3; have z4 := (HK.out.a _ (.head _)).c4)
    | (go_at_call 36; (with_reducible refine (HC23.out _ _ _ (by with_unfolding_all exact HK.out.lay) (by with_unfolding_all exact HK.out.r _ (.tail _ (.head _))) (by with_unfolding_all exact HK.out.r _ (.head _))).mono ?_); rintro e wz ⟨rfl, hb⟩; have HK2 := Lib.hid (HK.out.next hb); clear HK x0 x1 x2 x3 x4 y0 y1 y2 y3 y4 z0 z1 z2 z3 z4; have HK := HK2; clear HK2; clear hb; have x0 := (HK.out.a _ (.tail _ (.tail _ (.head _)))).c0; have x1 := (HK.out.a _ (.tail _ (.tail _ (.head _)))).c1; have x2 := (HK.out.a _ (.tail _ (.tail _ (.head _)))).c2; have x3 := (HK.out.a _ (.tail _ (.tail _ (.head _)))).c3; have x4 := (HK.out.a _ (.tail _ (.tail _ (.head _)))).c4; have y0 := (HK.out.a _ (.tail _ (.head _))).c0; have y1 := (HK.out.a _ (.tail _ (.head _))).c1; have y2 := (HK.out.a _ (.tail _ (.head _))).c2; have y3 := (HK.out.a _ (.tail _ (.head _))).c3; have y4 := (HK.out.a _ (.tail _ (.head _))).c4; have z0 := (HK.out.a _ (.head _)).c0; have z1 := (HK.out.a _ (.head _)).c1; have z2 := (HK.out.a _ (.head _)).c2; have z3 := (HK.out.a _ (.head _)).c3; have z4 := (HK.out.a _ (.head _)).c4)
    | (go_at_call 36; (with_reducible refine (HC13.out _ _ _ (by with_unfolding_all exact HK.out.lay) (by with_unfolding_all exact HK.out.r _ (.tail _ (.tail _ (.head _)))) (by with_unfolding_all exact HK.out.r _ (.head _))).mono ?_); rintro e wz ⟨rfl, hb⟩; have HK2 := Lib.hid (HK.out.next hb); clear HK x0 x1 x2 x3 x4 y0 y1 y2 y3 y4 z0 z1 z2 z3 z4; have HK := HK2; clear HK2; clear hb; have x0 := (HK.out.a _ (.tail _ (.tail _ (.head _)))).c0; have x1 := (HK.out.a _ (.tail _ (.tail _ (.head _)))).c1; have x2 := (HK.out.a _ (.tail _ (.tail _ (.head _)))).c2; have x3 := (HK.out.a _ (.tail _ (.tail _ (.head _)))).c3; have x4 := (HK.out.a _ (.tail _ (.tail _ (.head _)))).c4; have y0 := (HK.out.a _ (.tail _ (.head _))).c0; have y1 := (HK.out.a _ (.tail _ (.head _))).c1; have y2 := (HK.out.a _ (.tail _ (.head _))).c2; have y3 := (HK.out.a _ (.tail _ (.head _))).c3; have y4 := (HK.out.a _ (.tail _ (.head _))).c4; have z0 := (HK.out.a _ (.head _)).c0; have z1 := (HK.out.a _ (.head _)).c1; have z2 := (HK.out.a _ (.head _)).c2; have z3 := (HK.out.a _ (.head _)).c3; have z4 := (HK.out.a _ (.head _)).c4)
    | (go_at_call 36; (with_reducible refine (HC21.out _ _ _ (by with_unfolding_all exact HK.out.lay) (by with_unfolding_all exact HK.out.r _ (.tail _ (.head _))) (by with_unfolding_all exact HK.out.r _ (.tail _ (.tail _ (.head _))))).mono ?_); rintro e wz ⟨rfl, hb⟩; have HK2 := Lib.hid (HK.out.next hb); clear HK x0 x1 x2 x3 x4 y0 y1 y2 y3 y4 z0 z1 z2 z3 z4; have HK := HK2; clear HK2; clear hb; have x0 := (HK.out.a _ (.tail _ (.tail _ (.head _)))).c0; have x1 := (HK.out.a _ (.tail _ (.tail _ (.head _)))).c1; have x2 := (HK.out.a _ (.tail _ (.tail _ (.head _)))).c2; have x3 := (HK.out.a _ (.tail _ (.tail _ (.head _)))).c3; have x4 := (HK.out.a _ (.tail _ (.tail _ (.head _)))).c4; have y0 := (HK.out.a _ (.tail _ (.head _))).c0; have y1 := (HK.out.a _ (.tail _ (.head _))).c1; have y2 := (HK.out.a _ (.tail _ (.head _))).c2; have y3 := (HK.out.a _ (.tail _ (.head _))).c3; have y4 := (HK.out.a _ (.tail _ (.head _))).c4; have z0 := (HK.out.a _ (.head _)).c0; have z1 := (HK.out.a _ (.head _)).c1; have z2 := (HK.out.a _ (.head _)).c2; have z3 := (HK.out.a _ (.head _)).c3; have z4 := (HK.out.a _ (.head _)).c4)
    | (go_at_call 38; (with_reducible refine (HSm.out _ _ _ (by with_unfolding_all exact HK.out.r _ (.tail _ (.tail _ (.head _)))) (by with_unfolding_all exact HK.out.r _ (.tail _ (.head _)))).mono ?_); rintro e wz ⟨rfl, hb⟩; have HK2 := Lib.hid (HK.out.next hb); clear HK x0 x1 x2 x3 x4 y0 y1 y2 y3 y4 z0 z1 z2 z3 z4; have HK := HK2; clear HK2; clear hb; have x0 := (HK.out.a _ (.tail _ (.tail _ (.head _)))).c0; have x1 := (HK.out.a _ (.tail _ (.tail _ (.head _)))).c1; have x2 := (HK.out.a _ (.tail _ (.tail _ (.head _)))).c2; have x3 := (HK.out.a _ (.tail _ (.tail _ (.head _)))).c3; have x4 := (HK.out.a _ (.tail _ (.tail _ (.head _)))).c4; have y0 := (HK.out.a _ (.tail _ (.head _))).c0; have y1 := (HK.out.a _ (.tail _ (.head _))).c1; have y2 := (HK.out.a _ (.tail _ (.head _))).c2; have y3 := (HK.out.a _ (.tail _ (.head _))).c3; have y4 := (HK.out.a _ (.tail _ (.head _))).c4; have z0 := (HK.out.a _ (.head _)).c0; have z1 := (HK.out.a _ (.head _)).c1; have z2 := (HK.out.a _ (.head _)).c2; have z3 := (HK.out.a _ (.head _)).c3; have z4 := (HK.out.a _ (.head _)).c4)
    | (go_at_call 39; (with_reducible refine (HLk.out _ _ _ (by with_unfolding_all exact HK.out.r _ (.tail _ (.tail _ (.head _)))) (by with_unfolding_all exact HK.out.r _ (.tail _ (.head _)))).mono ?_); rintro e wz ⟨rfl, hb⟩; have HK2 := Lib.hid (HK.out.next hb); clear HK x0 x1 x2 x3 x4 y0 y1 y2 y3 y4 z0 z1 z2 z3 z4; have HK := HK2; clear HK2; clear hb; have x0 := (HK.out.a _ (.tail _ (.tail _ (.head _)))).c0; have x1 := (HK.out.a _ (.tail _ (.tail _ (.head _)))).c1; have x2 := (HK.out.a _ (.tail _ (.tail _ (.head _)))).c2; have x3 := (HK.out.a _ (.tail _ (.tail _ (.head _)))).c3; have x4 := (HK.out.a _ (.tail _ (.tail _ (.head _)))).c4; have y0 := (HK.out.a _ (.tail _ (.head _))).c0; have y1 := (HK.out.a _ (.tail _ (.head _))).c1; have y2 := (HK.out.a _ (.tail _ (.head _))).c2; have y3 := (HK.out.a _ (.tail _ (.head _))).c3; have y4 := (HK.out.a _ (.tail _ (.head _))).c4; have z0 := (HK.out.a _ (.head _)).c0; have z1 := (HK.out.a _ (.head _)).c1; have z2 := (HK.out.a _ (.head _)).c2; have z3 := (HK.out.a _ (.head _)).c3; have z4 := (HK.out.a _ (.head _)).c4)
    | (go_at_call 12; (with_reducible refine (HAw.out _ HK.out.lay).mono ?_); rintro e wz ⟨rfl, hb⟩; have HK2 := Lib.hid (HK.out.next hb); clear HK x0 x1 x2 x3 x4 y0 y1 y2 y3 y4 z0 z1 z2 z3 z4; have HK := HK2; clear HK2; clear hb; have x0 := (HK.out.a _ (.tail _ (.tail _ (.head _)))).c0; have x1 := (HK.out.a _ (.tail _ (.tail _ (.head _)))).c1; have x2 := (HK.out.a _ (.tail _ (.tail _ (.head _)))).c2; have x3 := (HK.out.a _ (.tail _ (.tail _ (.head _)))).c3; have x4 := (HK.out.a _ (.tail _ (.tail _ (.head _)))).c4; have y0 := (HK.out.a _ (.tail _ (.head _))).c0; have y1 := (HK.out.a _ (.tail _ (.head _))).c1; have y2 := (HK.out.a _ (.tail _ (.head _))).c2; have y3 := (HK.out.a _ (.tail _ (.head _))).c3; have y4 := (HK.out.a _ (.tail _ (.head _))).c4; have z0 := (HK.out.a _ (.head _)).c0; have z1 := (HK.out.a _ (.head _)).c1; have z2 := (HK.out.a _ (.head _)).c2; have z3 := (HK.out.a _ (.head _)).c3; have z4 := (HK.out.a _ (.head _)).c4))
  go_ret
  exact ⟨rfl, HK.out.bel⟩

set_option maxRecDepth 100000 in
set_option maxHeartbeats 8000000 in
theorem cmpLaw_Z2_like (A B C : Ar) (v u t : Value) (w : World) (hw : Ru.Lay w) (hv : RdI w.heap.size w v A.z) (hu : RdI w.heap.size w u B.z) (ht : RdI w.heap.size w t C.z) (hf : A.z.length ≤ 500 ∧ B.z.length ≤ 500 ∧ C.z.length ≤ 500) (ga : Good A) (gb : Good B) (gc : Good C) (h1 : cmV A B = 0) (h2 : cmV B A = 0) (h3 : cmV B C ≤ 0) (h4 : cmV A C ≤ 0) (hl : likeB A B = true) :
    Calls Tryd.prog 9 #[A5 A.k A.r A.a A.b v, A5 B.k B.r B.a B.b u, A5 C.k C.r C.a C.b t] w fun e w' => e = .returned (.bool true) ∧ Below w.heap.size w w' := by
  have HF1 := Lib.hid (fun W h => far_any A v W h)
  have HF2 := Lib.hid (fun W h => far_any B u W h)
  have HF3 := Lib.hid (fun W h => far_any C t W h)
  have HAw := Lib.hid (fun W h => awake_any W h)
  have HK := Lib.hid (start3 A B C v u t w hw hv hu ht)
  rw [decide_eq_false (by omega)] at HF1 HF2 HF3
  have HC12 := Lib.hid (fun v u W h0 h1 h2 => compare_any A B v u W h0 h1 h2 (by omega) (by omega))
  have HC23 := Lib.hid (fun v u W h0 h1 h2 => compare_any B C v u W h0 h1 h2 (by omega) (by omega))
  have HC13 := Lib.hid (fun v u W h0 h1 h2 => compare_any A C v u W h0 h1 h2 (by omega) (by omega))
  have HC21 := Lib.hid (fun v u W h0 h1 h2 => compare_any B A v u W h0 h1 h2 (by omega) (by omega))
  have HSm := Lib.hid (fun v u W h1 h2 => asame_any A B v u W h1 h2 (by omega))
  have HLk := Lib.hid (fun v u W h1 h2 => alike_any A B v u W h1 h2)
  obtain ⟨e12, v12⟩ := cp_ok ga gb
  obtain ⟨e23, v23⟩ := cp_ok gb gc
  obtain ⟨e13, v13⟩ := cp_ok ga gc
  obtain ⟨e21, v21⟩ := cp_ok gb ga
  rw [e12, v12] at HC12
  rw [e23, v23] at HC23
  rw [e13, v13] at HC13
  rw [e21, v21] at HC21
  clear e12 e23 e13 e21 v12 v23 v13 v21
  have hsm : smB A B = true := by
    exact smB_eq.2 ((cm_law ga gb gc).2.2.1.1 h1)
  rw [h1] at HC12
  rw [h2] at HC21
  rw [hsm] at HSm
  rw [hl] at HLk
  clear hf ga gb gc h1 h2 hsm hl
  generalize cmV B C = bc at HC23 h3
  generalize cmV A C = ac at HC13 h4
  have h4a : ¬ ac > 0 := by omega
  have h4b : ¬ 0 < ac := by omega
  clear h4
  obtain ⟨p, cap, rfl, hcap, hcap2, hcell⟩ := hv
  obtain ⟨q, cap', rfl, hcap', hcap2', hcell'⟩ := hu
  obtain ⟨s, cap'', rfl, hcap'', hcap2'', hcell''⟩ := ht
  clear hcell hcell' hcell'' hw
  have x0 := (HK.out.a _ (.tail _ (.tail _ (.head _)))).c0
  have x1 := (HK.out.a _ (.tail _ (.tail _ (.head _)))).c1
  have x2 := (HK.out.a _ (.tail _ (.tail _ (.head _)))).c2
  have x3 := (HK.out.a _ (.tail _ (.tail _ (.head _)))).c3
  have x4 := (HK.out.a _ (.tail _ (.tail _ (.head _)))).c4
  have y0 := (HK.out.a _ (.tail _ (.head _))).c0
  have y1 := (HK.out.a _ (.tail _ (.head _))).c1
  have y2 := (HK.out.a _ (.tail _ (.head _))).c2
  have y3 := (HK.out.a _ (.tail _ (.head _))).c3
  have y4 := (HK.out.a _ (.tail _ (.head _))).c4
  have z0 := (HK.out.a _ (.head _)).c0
  have z1 := (HK.out.a _ (.head _)).c1
  have z2 := (HK.out.a _ (.head _)).c2
  have z3 := (HK.out.a _ (.head _)).c3
  have z4 := (HK.out.a _ (.head _)).c4
  go_enter Tryd.func9, Tryd.ntmps9
  go_wp2_with (first
    | (go_at_call 11; (with_reducible refine (HF1.out _ (by with_unfolding_all exact HK.out.r _ (.tail _ (.tail _ (.head _))))).mono ?_); rintro e wz ⟨rfl, hb⟩; have HK2 := Lib.hid (HK.out.next hb); clear HK x0 x1 x2 x3 x4 y0 y1 y2 y3 y4 z0 z1 z2 z3 z4; have HK := HK2; clear HK2; clear hb; have x0 := (HK.out.a _ (.tail _ (.tail _ (.head _)))).c0; have x1 := (HK.out.a _ (.tail _ (.tail _ (.head _)))).c1; have x2 := (HK.out.a _ (.tail _ (.tail _ (.head _)))).c2; have x3 := (HK.out.a _ (.tail _ (.tail _ (.head _)))).c3; have x4 := (HK.out.a _ (.tail _ (.tail _ (.head _)))).c4; have y0 := (HK.out.a _ (.tail _ (.head _))).c0; have y1 := (HK.out.a _ (.tail _ (.head _))).c1; have y2 := (HK.out.a _ (.tail _ (.head _))).c2; have y3 := (HK.out.a _ (.tail _ (.head _))).c3; have y4 := (HK.out.a _ (.tail _ (.head _))).c4; have z0 := (HK.out.a _ (.head _)).c0; have z1 := (HK.out.a _ (.head _)).c1; have z2 := (HK.out.a _ (.head _)).c2; have z3 := (HK.out.a _ (.head _)).c3; have z4 := (HK.out.a _ (.head _)).c4)
    | (go_at_call 11; (with_reducible refine (HF2.out _ (by with_unfolding_all exact HK.out.r _ (.tail _ (.head _)))).mono ?_); rintro e wz ⟨rfl, hb⟩; have HK2 := Lib.hid (HK.out.next hb); clear HK x0 x1 x2 x3 x4 y0 y1 y2 y3 y4 z0 z1 z2 z3 z4; have HK := HK2; clear HK2; clear hb; have x0 := (HK.out.a _ (.tail _ (.tail _ (.head _)))).c0; have x1 := (HK.out.a _ (.tail _ (.tail _ (.head _)))).c1; have x2 := (HK.out.a _ (.tail _ (.tail _ (.head _)))).c2; have x3 := (HK.out.a _ (.tail _ (.tail _ (.head _)))).c3; have x4 := (HK.out.a _ (.tail _ (.tail _ (.head _)))).c4; have y0 := (HK.out.a _ (.tail _ (.head _))).c0; have y1 := (HK.out.a _ (.tail _ (.head _))).c1; have y2 := (HK.out.a _ (.tail _ (.head _))).c2; have y3 := (HK.out.a _ (.tail _ (.head _))).c3; have y4 := (HK.out.a _ (.tail _ (.head _))).c4; have z0 := (HK.out.a _ (.head _)).c0; have z1 := (HK.out.a _ (.head _)).c1; have z2 := (HK.out.a _ (.head _)).c2; have z3 := (HK.out.a _ (.head _)).c3; have z4 := (HK.out.a _ (.head _)).c4)
    | (go_at_call 11; (with_reducible refine (HF3.out _ (by with_unfolding_all exact HK.out.r _ (.head _))).mono ?_); rintro e wz ⟨rfl, hb⟩; have HK2 := Lib.hid (HK.out.next hb); clear HK x0 x1 x2 x3 x4 y0 y1 y2 y3 y4 z0 z1 z2 z3 z4; have HK := HK2; clear HK2; clear hb; have x0 := (HK.out.a _ (.tail _ (.tail _ (.head _)))).c0; have x1 := (HK.out.a _ (.tail _ (.tail _ (.head _)))).c1; have x2 := (HK.out.a _ (.tail _ (.tail _ (.head _)))).c2; have x3 := (HK.out.a _ (.tail _ (.tail _ (.head _)))).c3; have x4 := (HK.out.a _ (.tail _ (.tail _ (.head _)))).c4; have y0 := (HK.out.a _ (.tail _ (.head _))).c0; have y1 := (HK.out.a _ (.tail _ (.head _))).c1; have y2 := (HK.out.a _ (.tail _ (.head _))).c2; have y3 := (HK.out.a _ (.tail _ (.head _))).c3; have y4 := (HK.out.a _ (.tail _ (.head _))).c4; have z0 := (HK.out.a _ (.head _)).c0; have z1 := (HK.out.a _ (.head _)).c1; have z2 := (HK.out.a _ (.head _)).c2; have z3 := (HK.out.a _ (.head _)).c3; have z4 := (HK.out.a _ (.head _)).c4)
    | (go_at_call 36; (with_reducible refine (HC12.out _ _ _ (by with_unfolding_all exact HK.out.lay) (by with_unfolding_all exact HK.out.r _ (.tail _ (.tail _ (.head _)))) (by with_unfolding_all exact HK.out.r _ (.tail _ (.head _)))).mono ?_); rintro e wz ⟨rfl, hb⟩; have HK2 := Lib.hid (HK.out.next hb); clear HK x0 x1 x2 x3 x4 y0 y1 y2 y3 y4 z0 z1 z2 z3 z4; have HK := HK2; clear HK2; clear hb; have x0 := (HK.out.a _ (.tail _ (.tail _ (.head _)))).c0; have x1 := (HK.out.a _ (.tail _ (.tail _ (.head _)))).c1; have x2 := (HK.out.a _ (.tail _ (.tail _ (.head _)))).c2; have x3 := (HK.out.a _ (.tail _ (.tail _ (.head _)))).c3; have x4 := (HK.out.a _ (.tail _ (.tail _ (.head _)))).c4; have y0 := (HK.out.a _ (.tail _ (.head _))).c0; have y1 := (HK.out.a _ (.tail _ (.head _))).c1; have y2 := (HK.out.a _ (.tail _ (.head _))).c2; have y3 := (HK.out.a _ (.tail _ (.head _))).c3; have y4 := (HK.out.a _ (.tail _ (.head _))).c4; have z0 := (HK.out.a _ (.head _)).c0; have z1 := (HK.out.a _ (.head _)).c1; have z2 := (HK.out.a _ (.head _)).c2; have z3 := (HK.out.a _ (.head _)).c3; have z4 := (HK.out.a _ (.head _)).c4)
    | (go_at_call 36; (with_reducible refine (HC23.out _ _ _ (by with_unfolding_all exact HK.out.lay) (by with_unfolding_all exact HK.out.r _ (.tail _ (.head _))) (by with_unfolding_all exact HK.out.r _ (.head _))).mono ?_); rintro e wz ⟨rfl, hb⟩; have HK2 := Lib.hid (HK.out.next hb); clear HK x0 x1 x2 x3 x4 y0 y1 y2 y3 y4 z0 z1 z2 z3 z4; have HK := HK2; clear HK2; clear hb; have x0 := (HK.out.a _ (.tail _ (.tail _ (.head _)))).c0; have x1 := (HK.out.a _ (.tail _ (.tail _ (.head _)))).c1; have x2 := (HK.out.a _ (.tail _ (.tail _ (.head _)))).c2; have x3 := (HK.out.a _ (.tail _ (.tail _ (.head _)))).c3; have x4 := (HK.out.a _ (.tail _ (.tail _ (.head _)))).c4; have y0 := (HK.out.a _ (.tail _ (.head _))).c0; have y1 := (HK.out.a _ (.tail _ (.head _))).c1; have y2 := (HK.out.a _ (.tail _ (.head _))).c2; have y3 := (HK.out.a _ (.tail _ (.head _))).c3; have y4 := (HK.out.a _ (.tail _ (.head _))).c4; have z0 := (HK.out.a _ (.head _)).c0; have z1 := (HK.out.a _ (.head _)).c1; have z2 := (HK.out.a _ (.head _)).c2; have z3 := (HK.out.a _ (.head _)).c3; have z4 := (HK.out.a _ (.head _)).c4)
    | (go_at_call 36; (with_reducible refine (HC13.out _ _ _ (by with_unfolding_all exact HK.out.lay) (by with_unfolding_all exact HK.out.r _ (.tail _ (.tail _ (.head _)))) (by with_unfolding_all exact HK.out.r _ (.head _))).mono ?_); rintro e wz ⟨rfl, hb⟩; have HK2 := Lib.hid (HK.out.next hb); clear HK x0 x1 x2 x3 x4 y0 y1 y2 y3 y4 z0 z1 z2 z3 z4; have HK := HK2; clear HK2; clear hb; have x0 := (HK.out.a _ (.tail _ (.tail _ (.head _)))).c0; have x1 := (HK.out.a _ (.tail _ (.tail _ (.head _)))).c1; have x2 := (HK.out.a _ (.tail _ (.tail _ (.head _)))).c2; have x3 := (HK.out.a _ (.tail _ (.tail _ (.head _)))).c3; have x4 := (HK.out.a _ (.tail _ (.tail _ (.head _)))).c4; have y0 := (HK.out.a _ (.tail _ (.head _))).c0; have y1 := (HK.out.a _ (.tail _ (.head _))).c1; have y2 := (HK.out.a _ (.tail _ (.head _))).c2; have y3 := (HK.out.a _ (.tail _ (.head _))).c3; have y4 := (HK.out.a _ (.tail _ (.head _))).c4; have z0 := (HK.out.a _ (.head _)).c0; have z1 := (HK.out.a _ (.head _)).c1; have z2 := (HK.out.a _ (.head _)).c2; have z3 := (HK.out.a _ (.head _)).c3; have z4 := (HK.out.a _ (.head _)).c4)
    | (go_at_call 36; (with_reducible refine (HC21.out _ _ _ (by with_unfolding_all exact HK.out.lay) (by with_unfolding_all exact HK.out.r _ (.tail _ (.head _))) (by with_unfolding_all exact HK.out.r _ (.tail _ (.tail _ (.head _))))).mono ?_); rintro e wz ⟨rfl, hb⟩; have HK2 := Lib.hid (HK.out.next hb); clear HK x0 x1 x2 x3 x4 y0 y1 y2 y3 y4 z0 z1 z2 z3 z4; have HK := HK2; clear HK2; clear hb; have x0 := (HK.out.a _ (.tail _ (.tail _ (.head _)))).c0; have x1 := (HK.out.a _ (.tail _ (.tail _ (.head _)))).c1; have x2 := (HK.out.a _ (.tail _ (.tail _ (.head _)))).c2; have x3 := (HK.out.a _ (.tail _ (.tail _ (.head _)))).c3; have x4 := (HK.out.a _ (.tail _ (.tail _ (.head _)))).c4; have y0 := (HK.out.a _ (.tail _ (.head _))).c0; have y1 := (HK.out.a _ (.tail _ (.head _))).c1; have y2 := (HK.out.a _ (.tail _ (.head _))).c2; have y3 := (HK.out.a _ (.tail _ (.head _))).c3; have y4 := (HK.out.a _ (.tail _ (.head _))).c4; have z0 := (HK.out.a _ (.head _)).c0; have z1 := (HK.out.a _ (.head _)).c1; have z2 := (HK.out.a _ (.head _)).c2; have z3 := (HK.out.a _ (.head _)).c3; have z4 := (HK.out.a _ (.head _)).c4)
    | (go_at_call 38; (with_reducible refine (HSm.out _ _ _ (by with_unfolding_all exact HK.out.r _ (.tail _ (.tail _ (.head _)))) (by with_unfolding_all exact HK.out.r _ (.tail _ (.head _)))).mono ?_); rintro e wz ⟨rfl, hb⟩; have HK2 := Lib.hid (HK.out.next hb); clear HK x0 x1 x2 x3 x4 y0 y1 y2 y3 y4 z0 z1 z2 z3 z4; have HK := HK2; clear HK2; clear hb; have x0 := (HK.out.a _ (.tail _ (.tail _ (.head _)))).c0; have x1 := (HK.out.a _ (.tail _ (.tail _ (.head _)))).c1; have x2 := (HK.out.a _ (.tail _ (.tail _ (.head _)))).c2; have x3 := (HK.out.a _ (.tail _ (.tail _ (.head _)))).c3; have x4 := (HK.out.a _ (.tail _ (.tail _ (.head _)))).c4; have y0 := (HK.out.a _ (.tail _ (.head _))).c0; have y1 := (HK.out.a _ (.tail _ (.head _))).c1; have y2 := (HK.out.a _ (.tail _ (.head _))).c2; have y3 := (HK.out.a _ (.tail _ (.head _))).c3; have y4 := (HK.out.a _ (.tail _ (.head _))).c4; have z0 := (HK.out.a _ (.head _)).c0; have z1 := (HK.out.a _ (.head _)).c1; have z2 := (HK.out.a _ (.head _)).c2; have z3 := (HK.out.a _ (.head _)).c3; have z4 := (HK.out.a _ (.head _)).c4)
    | (go_at_call 39; (with_reducible refine (HLk.out _ _ _ (by with_unfolding_all exact HK.out.r _ (.tail _ (.tail _ (.head _)))) (by with_unfolding_all exact HK.out.r _ (.tail _ (.head _)))).mono ?_); rintro e wz ⟨rfl, hb⟩; have HK2 := Lib.hid (HK.out.next hb); clear HK x0 x1 x2 x3 x4 y0 y1 y2 y3 y4 z0 z1 z2 z3 z4; have HK := HK2; clear HK2; clear hb; have x0 := (HK.out.a _ (.tail _ (.tail _ (.head _)))).c0; have x1 := (HK.out.a _ (.tail _ (.tail _ (.head _)))).c1; have x2 := (HK.out.a _ (.tail _ (.tail _ (.head _)))).c2; have x3 := (HK.out.a _ (.tail _ (.tail _ (.head _)))).c3; have x4 := (HK.out.a _ (.tail _ (.tail _ (.head _)))).c4; have y0 := (HK.out.a _ (.tail _ (.head _))).c0; have y1 := (HK.out.a _ (.tail _ (.head _))).c1; have y2 := (HK.out.a _ (.tail _ (.head _))).c2; have y3 := (HK.out.a _ (.tail _ (.head _))).c3; have y4 := (HK.out.a _ (.tail _ (.head _))).c4; have z0 := (HK.out.a _ (.head _)).c0; have z1 := (HK.out.a _ (.head _)).c1; have z2 := (HK.out.a _ (.head _)).c2; have z3 := (HK.out.a _ (.head _)).c3; have z4 := (HK.out.a _ (.head _)).c4)
    | (go_at_call 12; (with_reducible refine (HAw.out _ HK.out.lay).mono ?_); rintro e wz ⟨rfl, hb⟩; have HK2 := Lib.hid (HK.out.next hb); clear HK x0 x1 x2 x3 x4 y0 y1 y2 y3 y4 z0 z1 z2 z3 z4; have HK := HK2; clear HK2; clear hb; have x0 := (HK.out.a _ (.tail _ (.tail _ (.head _)))).c0; have x1 := (HK.out.a _ (.tail _ (.tail _ (.head _)))).c1; have x2 := (HK.out.a _ (.tail _ (.tail _ (.head _)))).c2; have x3 := (HK.out.a _ (.tail _ (.tail _ (.head _)))).c3; have x4 := (HK.out.a _ (.tail _ (.tail _ (.head _)))).c4; have y0 := (HK.out.a _ (.tail _ (.head _))).c0; have y1 := (HK.out.a _ (.tail _ (.head _))).c1; have y2 := (HK.out.a _ (.tail _ (.head _))).c2; have y3 := (HK.out.a _ (.tail _ (.head _))).c3; have y4 := (HK.out.a _ (.tail _ (.head _))).c4; have z0 := (HK.out.a _ (.head _)).c0; have z1 := (HK.out.a _ (.head _)).c1; have z2 := (HK.out.a _ (.head _)).c2; have z3 := (HK.out.a _ (.head _)).c3; have z4 := (HK.out.a _ (.head _)).c4))
  go_ret
  exact ⟨rfl, HK.out.bel⟩

set_option maxRecDepth 100000 in
set_option maxHeartbeats 8000000 in
theorem cmpLaw_N1_like (A B C : Ar) (v u t : Value) (w : World) (hw : Ru.Lay w) (hv : RdI w.heap.size w v A.z) (hu : RdI w.heap.size w u B.z) (ht : RdI w.heap.size w t C.z) (hf : A.z.length ≤ 500 ∧ B.z.length ≤ 500 ∧ C.z.length ≤ 500) (ga : Good A) (gb : Good B) (gc : Good C) (h1 : cmV A B = -1) (h2 : cmV B A = 1) (h3 : ¬ cmV B C ≤ 0) (hl : likeB A B = true) :
    Calls Tryd.prog 9 #[A5 A.k A.r A.a A.b v, A5 B.k B.r B.a B.b u, A5 C.k C.r C.a C.b t] w fun e w' => e = .returned (.bool true) ∧ Below w.heap.size w w' := by
  have HF1 := Lib.hid (fun W h => far_any A v W h)
  have HF2 := Lib.hid (fun W h => far_any B u W h)
  have HF3 := Lib.hid (fun W h => far_any C t W h)
  have HAw := Lib.hid (fun W h => awake_any W h)
  have HK := Lib.hid (start3 A B C v u t w hw hv hu ht)
  rw [decide_eq_false (by omega)] at HF1 HF2 HF3
  have HC12 := Lib.hid (fun v u W h0 h1 h2 => compare_any A B v u W h0 h1 h2 (by omega) (by omega))
  have HC23 := Lib.hid (fun v u W h0 h1 h2 => compare_any B C v u W h0 h1 h2 (by omega) (by omega))
  have HC13 := Lib.hid (fun v u W h0 h1 h2 => compare_any A C v u W h0 h1 h2 (by omega) (by omega))
  have HC21 := Lib.hid (fun v u W h0 h1 h2 => compare_any B A v u W h0 h1 h2 (by omega) (by omega))
  have HSm := Lib.hid (fun v u W h1 h2 => asame_any A B v u W h1 h2 (by omega))
  have HLk := Lib.hid (fun v u W h1 h2 => alike_any A B v u W h1 h2)
  obtain ⟨e12, v12⟩ := cp_ok ga gb
  obtain ⟨e23, v23⟩ := cp_ok gb gc
  obtain ⟨e13, v13⟩ := cp_ok ga gc
  obtain ⟨e21, v21⟩ := cp_ok gb ga
  rw [e12, v12] at HC12
  rw [e23, v23] at HC23
  rw [e13, v13] at HC13
  rw [e21, v21] at HC21
  clear e12 e23 e13 e21 v12 v23 v13 v21
  have hsm : smB A B = false := by
    cases h : smB A B
    · rfl
    · have := (cm_law ga gb gc).2.2.1.2 (smB_eq.1 h); omega
  rw [h1] at HC12
  rw [h2] at HC21
  rw [hsm] at HSm
  rw [hl] at HLk
  clear hf ga gb gc h1 h2 hsm hl
  generalize cmV B C = bc at HC23 h3
  generalize cmV A C = ac at HC13
  obtain ⟨p, cap, rfl, hcap, hcap2, hcell⟩ := hv
  obtain ⟨q, cap', rfl, hcap', hcap2', hcell'⟩ := hu
  obtain ⟨s, cap'', rfl, hcap'', hcap2'', hcell''⟩ := ht
  clear hcell hcell' hcell'' hw
  have x0 := (HK.out.a _ (.tail _ (.tail _ (.head _)))).c0
  have x1 := (HK.out.a _ (.tail _ (.tail _ (.head _)))).c1
  have x2 := (HK.out.a _ (.tail _ (.tail _ (.head _)))).c2
  have x3 := (HK.out.a _ (.tail _ (.tail _ (.head _)))).c3
  have x4 := (HK.out.a _ (.tail _ (.tail _ (.head _)))).c4
  have y0 := (HK.out.a _ (.tail _ (.head _))).c0
  have y1 := (HK.out.a _ (.tail _ (.head _))).c1
  have y2 := (HK.out.a _ (.tail _ (.head _))).c2
  have y3 := (HK.out.a _ (.tail _ (.head _))).c3
  have y4 := (HK.out.a _ (.tail _ (.head _))).c4
  have z0 := (HK.out.a _ (.head _)).c0
  have z1 := (HK.out.a _ (.head _)).c1
  have z2 := (HK.out.a _ (.head _)).c2
  have z3 := (HK.out.a _ (.head _)).c3
  have z4 := (HK.out.a _ (.head _)).c4
  go_enter Tryd.func9, Tryd.ntmps9
  go_wp2_with (first
    | (go_at_call 11; (with_reducible refine (HF1.out _ (by with_unfolding_all exact HK.out.r _ (.tail _ (.tail _ (.head _))))).mono ?_); rintro e wz ⟨rfl, hb⟩; have HK2 := Lib.hid (HK.out.next hb); clear HK x0 x1 x2 x3 x4 y0 y1 y2 y3 y4 z0 z1 z2 z3 z4; have HK := HK2; clear HK2; clear hb; have x0 := (HK.out.a _ (.tail _ (.tail _ (.head _)))).c0; have x1 := (HK.out.a _ (.tail _ (.tail _ (.head _)))).c1; have x2 := (HK.out.a _ (.tail _ (.tail _ (.head _)))).c2; have x3 := (HK.out.a _ (.tail _ (.tail _ (.head _)))).c3; have x4 := (HK.out.a _ (.tail _ (.tail _ (.head _)))).c4; have y0 := (HK.out.a _ (.tail _ (.head _))).c0; have y1 := (HK.out.a _ (.tail _ (.head _))).c1; have y2 := (HK.out.a _ (.tail _ (.head _))).c2; have y3 := (HK.out.a _ (.tail _ (.head _))).c3; have y4 := (HK.out.a _ (.tail _ (.head _))).c4; have z0 := (HK.out.a _ (.head _)).c0; have z1 := (HK.out.a _ (.head _)).c1; have z2 := (HK.out.a _ (.head _)).c2; have z3 := (HK.out.a _ (.head _)).c3; have z4 := (HK.out.a _ (.head _)).c4)
    | (go_at_call 11; (with_reducible refine (HF2.out _ (by with_unfolding_all exact HK.out.r _ (.tail _ (.head _)))).mono ?_); rintro e wz ⟨rfl, hb⟩; have HK2 := Lib.hid (HK.out.next hb); clear HK x0 x1 x2 x3 x4 y0 y1 y2 y3 y4 z0 z1 z2 z3 z4; have HK := HK2; clear HK2; clear hb; have x0 := (HK.out.a _ (.tail _ (.tail _ (.head _)))).c0; have x1 := (HK.out.a _ (.tail _ (.tail _ (.head _)))).c1; have x2 := (HK.out.a _ (.tail _ (.tail _ (.head _)))).c2; have x3 := (HK.out.a _ (.tail _ (.tail _ (.head _)))).c3; have x4 := (HK.out.a _ (.tail _ (.tail _ (.head _)))).c4; have y0 := (HK.out.a _ (.tail _ (.head _))).c0; have y1 := (HK.out.a _ (.tail _ (.head _))).c1; have y2 := (HK.out.a _ (.tail _ (.head _))).c2; have y3 := (HK.out.a _ (.tail _ (.head _))).c3; have y4 := (HK.out.a _ (.tail _ (.head _))).c4; have z0 := (HK.out.a _ (.head _)).c0; have z1 := (HK.out.a _ (.head _)).c1; have z2 := (HK.out.a _ (.head _)).c2; have z3 := (HK.out.a _ (.head _)).c3; have z4 := (HK.out.a _ (.head _)).c4)
    | (go_at_call 11; (with_reducible refine (HF3.out _ (by with_unfolding_all exact HK.out.r _ (.head _))).mono ?_); rintro e wz ⟨rfl, hb⟩; have HK2 := Lib.hid (HK.out.next hb); clear HK x0 x1 x2 x3 x4 y0 y1 y2 y3 y4 z0 z1 z2 z3 z4; have HK := HK2; clear HK2; clear hb; have x0 := (HK.out.a _ (.tail _ (.tail _ (.head _)))).c0; have x1 := (HK.out.a _ (.tail _ (.tail _ (.head _)))).c1; have x2 := (HK.out.a _ (.tail _ (.tail _ (.head _)))).c2; have x3 := (HK.out.a _ (.tail _ (.tail _ (.head _)))).c3; have x4 := (HK.out.a _ (.tail _ (.tail _ (.head _)))).c4; have y0 := (HK.out.a _ (.tail _ (.head _))).c0; have y1 := (HK.out.a _ (.tail _ (.head _))).c1; have y2 := (HK.out.a _ (.tail _ (.head _))).c2; have y3 := (HK.out.a _ (.tail _ (.head _))).c3; have y4 := (HK.out.a _ (.tail _ (.head _))).c4; have z0 := (HK.out.a _ (.head _)).c0; have z1 := (HK.out.a _ (.head _)).c1; have z2 := (HK.out.a _ (.head _)).c2; have z3 := (HK.out.a _ (.head _)).c3; have z4 := (HK.out.a _ (.head _)).c4)
    | (go_at_call 36; (with_reducible refine (HC12.out _ _ _ (by with_unfolding_all exact HK.out.lay) (by with_unfolding_all exact HK.out.r _ (.tail _ (.tail _ (.head _)))) (by with_unfolding_all exact HK.out.r _ (.tail _ (.head _)))).mono ?_); rintro e wz ⟨rfl, hb⟩; have HK2 := Lib.hid (HK.out.next hb); clear HK x0 x1 x2 x3 x4 y0 y1 y2 y3 y4 z0 z1 z2 z3 z4; have HK := HK2; clear HK2; clear hb; have x0 := (HK.out.a _ (.tail _ (.tail _ (.head _)))).c0; have x1 := (HK.out.a _ (.tail _ (.tail _ (.head _)))).c1; have x2 := (HK.out.a _ (.tail _ (.tail _ (.head _)))).c2; have x3 := (HK.out.a _ (.tail _ (.tail _ (.head _)))).c3; have x4 := (HK.out.a _ (.tail _ (.tail _ (.head _)))).c4; have y0 := (HK.out.a _ (.tail _ (.head _))).c0; have y1 := (HK.out.a _ (.tail _ (.head _))).c1; have y2 := (HK.out.a _ (.tail _ (.head _))).c2; have y3 := (HK.out.a _ (.tail _ (.head _))).c3; have y4 := (HK.out.a _ (.tail _ (.head _))).c4; have z0 := (HK.out.a _ (.head _)).c0; have z1 := (HK.out.a _ (.head _)).c1; have z2 := (HK.out.a _ (.head _)).c2; have z3 := (HK.out.a _ (.head _)).c3; have z4 := (HK.out.a _ (.head _)).c4)
    | (go_at_call 36; (with_reducible refine (HC23.out _ _ _ (by with_unfolding_all exact HK.out.lay) (by with_unfolding_all exact HK.out.r _ (.tail _ (.head _))) (by with_unfolding_all exact HK.out.r _ (.head _))).mono ?_); rintro e wz ⟨rfl, hb⟩; have HK2 := Lib.hid (HK.out.next hb); clear HK x0 x1 x2 x3 x4 y0 y1 y2 y3 y4 z0 z1 z2 z3 z4; have HK := HK2; clear HK2; clear hb; have x0 := (HK.out.a _ (.tail _ (.tail _ (.head _)))).c0; have x1 := (HK.out.a _ (.tail _ (.tail _ (.head _)))).c1; have x2 := (HK.out.a _ (.tail _ (.tail _ (.head _)))).c2; have x3 := (HK.out.a _ (.tail _ (.tail _ (.head _)))).c3; have x4 := (HK.out.a _ (.tail _ (.tail _ (.head _)))).c4; have y0 := (HK.out.a _ (.tail _ (.head _))).c0; have y1 := (HK.out.a _ (.tail _ (.head _))).c1; have y2 := (HK.out.a _ (.tail _ (.head _))).c2; have y3 := (HK.out.a _ (.tail _ (.head _))).c3; have y4 := (HK.out.a _ (.tail _ (.head _))).c4; have z0 := (HK.out.a _ (.head _)).c0; have z1 := (HK.out.a _ (.head _)).c1; have z2 := (HK.out.a _ (.head _)).c2; have z3 := (HK.out.a _ (.head _)).c3; have z4 := (HK.out.a _ (.head _)).c4)
    | (go_at_call 36; (with_reducible refine (HC13.out _ _ _ (by with_unfolding_all exact HK.out.lay) (by with_unfolding_all exact HK.out.r _ (.tail _ (.tail _ (.head _)))) (by with_unfolding_all exact HK.out.r _ (.head _))).mono ?_); rintro e wz ⟨rfl, hb⟩; have HK2 := Lib.hid (HK.out.next hb); clear HK x0 x1 x2 x3 x4 y0 y1 y2 y3 y4 z0 z1 z2 z3 z4; have HK := HK2; clear HK2; clear hb; have x0 := (HK.out.a _ (.tail _ (.tail _ (.head _)))).c0; have x1 := (HK.out.a _ (.tail _ (.tail _ (.head _)))).c1; have x2 := (HK.out.a _ (.tail _ (.tail _ (.head _)))).c2; have x3 := (HK.out.a _ (.tail _ (.tail _ (.head _)))).c3; have x4 := (HK.out.a _ (.tail _ (.tail _ (.head _)))).c4; have y0 := (HK.out.a _ (.tail _ (.head _))).c0; have y1 := (HK.out.a _ (.tail _ (.head _))).c1; have y2 := (HK.out.a _ (.tail _ (.head _))).c2; have y3 := (HK.out.a _ (.tail _ (.head _))).c3; have y4 := (HK.out.a _ (.tail _ (.head _))).c4; have z0 := (HK.out.a _ (.head _)).c0; have z1 := (HK.out.a _ (.head _)).c1; have z2 := (HK.out.a _ (.head _)).c2; have z3 := (HK.out.a _ (.head _)).c3; have z4 := (HK.out.a _ (.head _)).c4)
    | (go_at_call 36; (with_reducible refine (HC21.out _ _ _ (by with_unfolding_all exact HK.out.lay) (by with_unfolding_all exact HK.out.r _ (.tail _ (.head _))) (by with_unfolding_all exact HK.out.r _ (.tail _ (.tail _ (.head _))))).mono ?_); rintro e wz ⟨rfl, hb⟩; have HK2 := Lib.hid (HK.out.next hb); clear HK x0 x1 x2 x3 x4 y0 y1 y2 y3 y4 z0 z1 z2 z3 z4; have HK := HK2; clear HK2; clear hb; have x0 := (HK.out.a _ (.tail _ (.tail _ (.head _)))).c0; have x1 := (HK.out.a _ (.tail _ (.tail _ (.head _)))).c1; have x2 := (HK.out.a _ (.tail _ (.tail _ (.head _)))).c2; have x3 := (HK.out.a _ (.tail _ (.tail _ (.head _)))).c3; have x4 := (HK.out.a _ (.tail _ (.tail _ (.head _)))).c4; have y0 := (HK.out.a _ (.tail _ (.head _))).c0; have y1 := (HK.out.a _ (.tail _ (.head _))).c1; have y2 := (HK.out.a _ (.tail _ (.head _))).c2; have y3 := (HK.out.a _ (.tail _ (.head _))).c3; have y4 := (HK.out.a _ (.tail _ (.head _))).c4; have z0 := (HK.out.a _ (.head _)).c0; have z1 := (HK.out.a _ (.head _)).c1; have z2 := (HK.out.a _ (.head _)).c2; have z3 := (HK.out.a _ (.head _)).c3; have z4 := (HK.out.a _ (.head _)).c4)
    | (go_at_call 38; (with_reducible refine (HSm.out _ _ _ (by with_unfolding_all exact HK.out.r _ (.tail _ (.tail _ (.head _)))) (by with_unfolding_all exact HK.out.r _ (.tail _ (.head _)))).mono ?_); rintro e wz ⟨rfl, hb⟩; have HK2 := Lib.hid (HK.out.next hb); clear HK x0 x1 x2 x3 x4 y0 y1 y2 y3 y4 z0 z1 z2 z3 z4; have HK := HK2; clear HK2; clear hb; have x0 := (HK.out.a _ (.tail _ (.tail _ (.head _)))).c0; have x1 := (HK.out.a _ (.tail _ (.tail _ (.head _)))).c1; have x2 := (HK.out.a _ (.tail _ (.tail _ (.head _)))).c2; have x3 := (HK.out.a _ (.tail _ (.tail _ (.head _)))).c3; have x4 := (HK.out.a _ (.tail _ (.tail _ (.head _)))).c4; have y0 := (HK.out.a _ (.tail _ (.head _))).c0; have y1 := (HK.out.a _ (.tail _ (.head _))).c1; have y2 := (HK.out.a _ (.tail _ (.head _))).c2; have y3 := (HK.out.a _ (.tail _ (.head _))).c3; have y4 := (HK.out.a _ (.tail _ (.head _))).c4; have z0 := (HK.out.a _ (.head _)).c0; have z1 := (HK.out.a _ (.head _)).c1; have z2 := (HK.out.a _ (.head _)).c2; have z3 := (HK.out.a _ (.head _)).c3; have z4 := (HK.out.a _ (.head _)).c4)
    | (go_at_call 39; (with_reducible refine (HLk.out _ _ _ (by with_unfolding_all exact HK.out.r _ (.tail _ (.tail _ (.head _)))) (by with_unfolding_all exact HK.out.r _ (.tail _ (.head _)))).mono ?_); rintro e wz ⟨rfl, hb⟩; have HK2 := Lib.hid (HK.out.next hb); clear HK x0 x1 x2 x3 x4 y0 y1 y2 y3 y4 z0 z1 z2 z3 z4; have HK := HK2; clear HK2; clear hb; have x0 := (HK.out.a _ (.tail _ (.tail _ (.head _)))).c0; have x1 := (HK.out.a _ (.tail _ (.tail _ (.head _)))).c1; have x2 := (HK.out.a _ (.tail _ (.tail _ (.head _)))).c2; have x3 := (HK.out.a _ (.tail _ (.tail _ (.head _)))).c3; have x4 := (HK.out.a _ (.tail _ (.tail _ (.head _)))).c4; have y0 := (HK.out.a _ (.tail _ (.head _))).c0; have y1 := (HK.out.a _ (.tail _ (.head _))).c1; have y2 := (HK.out.a _ (.tail _ (.head _))).c2; have y3 := (HK.out.a _ (.tail _ (.head _))).c3; have y4 := (HK.out.a _ (.tail _ (.head _))).c4; have z0 := (HK.out.a _ (.head _)).c0; have z1 := (HK.out.a _ (.head _)).c1; have z2 := (HK.out.a _ (.head _)).c2; have z3 := (HK.out.a _ (.head _)).c3; have z4 := (HK.out.a _ (.head _)).c4)
    | (go_at_call 12; (with_reducible refine (HAw.out _ HK.out.lay).mono ?_); rintro e wz ⟨rfl, hb⟩; have HK2 := Lib.hid (HK.out.next hb); clear HK x0 x1 x2 x3 x4 y0 y1 y2 y3 y4 z0 z1 z2 z3 z4; have HK := HK2; clear HK2; clear hb; have x0 := (HK.out.a _ (.tail _ (.tail _ (.head _)))).c0; have x1 := (HK.out.a _ (.tail _ (.tail _ (.head _)))).c1; have x2 := (HK.out.a _ (.tail _ (.tail _ (.head _)))).c2; have x3 := (HK.out.a _ (.tail _ (.tail _ (.head _)))).c3; have x4 := (HK.out.a _ (.tail _ (.tail _ (.head _)))).c4; have y0 := (HK.out.a _ (.tail _ (.head _))).c0; have y1 := (HK.out.a _ (.tail _ (.head _))).c1; have y2 := (HK.out.a _ (.tail _ (.head _))).c2; have y3 := (HK.out.a _ (.tail _ (.head _))).c3; have y4 := (HK.out.a _ (.tail _ (.head _))).c4; have z0 := (HK.out.a _ (.head _)).c0; have z1 := (HK.out.a _ (.head _)).c1; have z2 := (HK.out.a _ (.head _)).c2; have z3 := (HK.out.a _ (.head _)).c3; have z4 := (HK.out.a _ (.head _)).c4))
  go_ret
  exact ⟨rfl, HK.out.bel⟩

set_option maxRecDepth 100000 in
set_option maxHeartbeats 8000000 in
theorem cmpLaw_N1_k (A B C : Ar) (v u t : Value) (w : World) (hw : Ru.Lay w) (hv : RdI w.heap.size w v A.z) (hu : RdI w.heap.size w u B.z) (ht : RdI w.heap.size w t C.z) (hf : A.z.length ≤ 500 ∧ B.z.length ≤ 500 ∧ C.z.length ≤ 500) (ga : Good A) (gb : Good B) (gc : Good C) (h1 : cmV A B = -1) (h2 : cmV B A = 1) (h3 : ¬ cmV B C ≤ 0) (hl : likeB A B = false) (hd : A.k ≠ B.k) :
    Calls Tryd.prog 9 #[A5 A.k A.r A.a A.b v, A5 B.k B.r B.a B.b u, A5 C.k C.r C.a C.b t] w fun e w' => e = .returned (.bool true) ∧ Below w.heap.size w w' := by
  have HF1 := Lib.hid (fun W h => far_any A v W h)
  have HF2 := Lib.hid (fun W h => far_any B u W h)
  have HF3 := Lib.hid (fun W h => far_any C t W h)
  have HAw := Lib.hid (fun W h => awake_any W h)
  have HK := Lib.hid (start3 A B C v u t w hw hv hu ht)
  rw [decide_eq_false (by omega)] at HF1 HF2 HF3
  have HC12 := Lib.hid (fun v u W h0 h1 h2 => compare_any A B v u W h0 h1 h2 (by omega) (by omega))
  have HC23 := Lib.hid (fun v u W h0 h1 h2 => compare_any B C v u W h0 h1 h2 (by omega) (by omega))
  have HC13 := Lib.hid (fun v u W h0 h1 h2 => compare_any A C v u W h0 h1 h2 (by omega) (by omega))
  have HC21 := Lib.hid (fun v u W h0 h1 h2 => compare_any B A v u W h0 h1 h2 (by omega) (by omega))
  have HSm := Lib.hid (fun v u W h1 h2 => asame_any A B v u W h1 h2 (by omega))
  have HLk := Lib.hid (fun v u W h1 h2 => alike_any A B v u W h1 h2)
  obtain ⟨e12, v12⟩ := cp_ok ga gb
  obtain ⟨e23, v23⟩ := cp_ok gb gc
  obtain ⟨e13, v13⟩ := cp_ok ga gc
  obtain ⟨e21, v21⟩ := cp_ok gb ga
  rw [e12, v12] at HC12
  rw [e23, v23] at HC23
  rw [e13, v13] at HC13
  rw [e21, v21] at HC21
  clear e12 e23 e13 e21 v12 v23 v13 v21
  have hsm : smB A B = false := by
    cases h : smB A B
    · rfl
    · have := (cm_law ga gb gc).2.2.1.2 (smB_eq.1 h); omega
  rw [h1] at HC12
  rw [h2] at HC21
  rw [hsm] at HSm
  rw [hl] at HLk
  have hsg := cm_sign hd
  rw [← cm_k hd] at hsg
  rw [h1] at hsg
  have hs0 : A.k - B.k < 0 := by omega
  have hwk : IntKind.i64.wrap (A.k - B.k) = A.k - B.k := wrap_d (by rcases ga.kind with e | e <;> omega) (by rcases ga.kind with e | e <;> omega) (by rcases gb.kind with e | e <;> omega) (by rcases gb.kind with e | e <;> omega)
  have hne : ((A.k - B.k) == 0) = false := by rw [beq_eq_false_iff_ne]; omega
  clear hsg hd
  clear hf ga gb gc h1 h2 hsm hl
  generalize cmV B C = bc at HC23 h3
  generalize cmV A C = ac at HC13
  obtain ⟨p, cap, rfl, hcap, hcap2, hcell⟩ := hv
  obtain ⟨q, cap', rfl, hcap', hcap2', hcell'⟩ := hu
  obtain ⟨s, cap'', rfl, hcap'', hcap2'', hcell''⟩ := ht
  clear hcell hcell' hcell'' hw
  have x0 := (HK.out.a _ (.tail _ (.tail _ (.head _)))).c0
  have x1 := (HK.out.a _ (.tail _ (.tail _ (.head _)))).c1
  have x2 := (HK.out.a _ (.tail _ (.tail _ (.head _)))).c2
  have x3 := (HK.out.a _ (.tail _ (.tail _ (.head _)))).c3
  have x4 := (HK.out.a _ (.tail _ (.tail _ (.head _)))).c4
  have y0 := (HK.out.a _ (.tail _ (.head _))).c0
  have y1 := (HK.out.a _ (.tail _ (.head _))).c1
  have y2 := (HK.out.a _ (.tail _ (.head _))).c2
  have y3 := (HK.out.a _ (.tail _ (.head _))).c3
  have y4 := (HK.out.a _ (.tail _ (.head _))).c4
  have z0 := (HK.out.a _ (.head _)).c0
  have z1 := (HK.out.a _ (.head _)).c1
  have z2 := (HK.out.a _ (.head _)).c2
  have z3 := (HK.out.a _ (.head _)).c3
  have z4 := (HK.out.a _ (.head _)).c4
  go_enter Tryd.func9, Tryd.ntmps9
  go_wp2_with (first
    | (go_at_call 11; (with_reducible refine (HF1.out _ (by with_unfolding_all exact HK.out.r _ (.tail _ (.tail _ (.head _))))).mono ?_); rintro e wz ⟨rfl, hb⟩; have HK2 := Lib.hid (HK.out.next hb); clear HK x0 x1 x2 x3 x4 y0 y1 y2 y3 y4 z0 z1 z2 z3 z4; have HK := HK2; clear HK2; clear hb; have x0 := (HK.out.a _ (.tail _ (.tail _ (.head _)))).c0; have x1 := (HK.out.a _ (.tail _ (.tail _ (.head _)))).c1; have x2 := (HK.out.a _ (.tail _ (.tail _ (.head _)))).c2; have x3 := (HK.out.a _ (.tail _ (.tail _ (.head _)))).c3; have x4 := (HK.out.a _ (.tail _ (.tail _ (.head _)))).c4; have y0 := (HK.out.a _ (.tail _ (.head _))).c0; have y1 := (HK.out.a _ (.tail _ (.head _))).c1; have y2 := (HK.out.a _ (.tail _ (.head _))).c2; have y3 := (HK.out.a _ (.tail _ (.head _))).c3; have y4 := (HK.out.a _ (.tail _ (.head _))).c4; have z0 := (HK.out.a _ (.head _)).c0; have z1 := (HK.out.a _ (.head _)).c1; have z2 := (HK.out.a _ (.head _)).c2; have z3 := (HK.out.a _ (.head _)).c3; have z4 := (HK.out.a _ (.head _)).c4)
    | (go_at_call 11; (with_reducible refine (HF2.out _ (by with_unfolding_all exact HK.out.r _ (.tail _ (.head _)))).mono ?_); rintro e wz ⟨rfl, hb⟩; have HK2 := Lib.hid (HK.out.next hb); clear HK x0 x1 x2 x3 x4 y0 y1 y2 y3 y4 z0 z1 z2 z3 z4; have HK := HK2; clear HK2; clear hb; have x0 := (HK.out.a _ (.tail _ (.tail _ (.head _)))).c0; have x1 := (HK.out.a _ (.tail _ (.tail _ (.head _)))).c1; have x2 := (HK.out.a _ (.tail _ (.tail _ (.head _)))).c2; have x3 := (HK.out.a _ (.tail _ (.tail _ (.head _)))).c3; have x4 := (HK.out.a _ (.tail _ (.tail _ (.head _)))).c4; have y0 := (HK.out.a _ (.tail _ (.head _))).c0; have y1 := (HK.out.a _ (.tail _ (.head _))).c1; have y2 := (HK.out.a _ (.tail _ (.head _))).c2; have y3 := (HK.out.a _ (.tail _ (.head _))).c3; have y4 := (HK.out.a _ (.tail _ (.head _))).c4; have z0 := (HK.out.a _ (.head _)).c0; have z1 := (HK.out.a _ (.head _)).c1; have z2 := (HK.out.a _ (.head _)).c2; have z3 := (HK.out.a _ (.head _)).c3; have z4 := (HK.out.a _ (.head _)).c4)
    | (go_at_call 11; (with_reducible refine (HF3.out _ (by with_unfolding_all exact HK.out.r _ (.head _))).mono ?_); rintro e wz ⟨rfl, hb⟩; have HK2 := Lib.hid (HK.out.next hb); clear HK x0 x1 x2 x3 x4 y0 y1 y2 y3 y4 z0 z1 z2 z3 z4; have HK := HK2; clear HK2; clear hb; have x0 := (HK.out.a _ (.tail _ (.tail _ (.head _)))).c0; have x1 := (HK.out.a _ (.tail _ (.tail _ (.head _)))).c1; have x2 := (HK.out.a _ (.tail _ (.tail _ (.head _)))).c2; have x3 := (HK.out.a _ (.tail _ (.tail _ (.head _)))).c3; have x4 := (HK.out.a _ (.tail _ (.tail _ (.head _)))).c4; have y0 := (HK.out.a _ (.tail _ (.head _))).c0; have y1 := (HK.out.a _ (.tail _ (.head _))).c1; have y2 := (HK.out.a _ (.tail _ (.head _))).c2; have y3 := (HK.out.a _ (.tail _ (.head _))).c3; have y4 := (HK.out.a _ (.tail _ (.head _))).c4; have z0 := (HK.out.a _ (.head _)).c0; have z1 := (HK.out.a _ (.head _)).c1; have z2 := (HK.out.a _ (.head _)).c2; have z3 := (HK.out.a _ (.head _)).c3; have z4 := (HK.out.a _ (.head _)).c4)
    | (go_at_call 36; (with_reducible refine (HC12.out _ _ _ (by with_unfolding_all exact HK.out.lay) (by with_unfolding_all exact HK.out.r _ (.tail _ (.tail _ (.head _)))) (by with_unfolding_all exact HK.out.r _ (.tail _ (.head _)))).mono ?_); rintro e wz ⟨rfl, hb⟩; have HK2 := Lib.hid (HK.out.next hb); clear HK x0 x1 x2 x3 x4 y0 y1 y2 y3 y4 z0 z1 z2 z3 z4; have HK := HK2; clear HK2; clear hb; have x0 := (HK.out.a _ (.tail _ (.tail _ (.head _)))).c0; have x1 := (HK.out.a _ (.tail _ (.tail _ (.head _)))).c1; have x2 := (HK.out.a _ (.tail _ (.tail _ (.head _)))).c2; have x3 := (HK.out.a _ (.tail _ (.tail _ (.head _)))).c3; have x4 := (HK.out.a _ (.tail _ (.tail _ (.head _)))).c4; have y0 := (HK.out.a _ (.tail _ (.head _))).c0; have y1 := (HK.out.a _ (.tail _ (.head _))).c1; have y2 := (HK.out.a _ (.tail _ (.head _))).c2; have y3 := (HK.out.a _ (.tail _ (.head _))).c3; have y4 := (HK.out.a _ (.tail _ (.head _))).c4; have z0 := (HK.out.a _ (.head _)).c0; have z1 := (HK.out.a _ (.head _)).c1; have z2 := (HK.out.a _ (.head _)).c2; have z3 := (HK.out.a _ (.head _)).c3; have z4 := (HK.out.a _ (.head _)).c4)
    | (go_at_call 36; (with_reducible refine (HC23.out _ _ _ (by with_unfolding_all exact HK.out.lay) (by with_unfolding_all exact HK.out.r _ (.tail _ (.head _))) (by with_unfolding_all exact HK.out.r _ (.head _))).mono ?_); rintro e wz ⟨rfl, hb⟩; have HK2 := Lib.hid (HK.out.next hb); clear HK x0 x1 x2 x3 x4 y0 y1 y2 y3 y4 z0 z1 z2 z3 z4; have HK := HK2; clear HK2; clear hb; have x0 := (HK.out.a _ (.tail _ (.tail _ (.head _)))).c0; have x1 := (HK.out.a _ (.tail _ (.tail _ (.head _)))).c1; have x2 := (HK.out.a _ (.tail _ (.tail _ (.head _)))).c2; have x3 := (HK.out.a _ (.tail _ (.tail _ (.head _)))).c3; have x4 := (HK.out.a _ (.tail _ (.tail _ (.head _)))).c4; have y0 := (HK.out.a _ (.tail _ (.head _))).c0; have y1 := (HK.out.a _ (.tail _ (.head _))).c1; have y2 := (HK.out.a _ (.tail _ (.head _))).c2; have y3 := (HK.out.a _ (.tail _ (.head _))).c3; have y4 := (HK.out.a _ (.tail _ (.head _))).c4; have z0 := (HK.out.a _ (.head _)).c0; have z1 := (HK.out.a _ (.head _)).c1; have z2 := (HK.out.a _ (.head _)).c2; have z3 := (HK.out.a _ (.head _)).c3; have z4 := (HK.out.a _ (.head _)).c4)
    | (go_at_call 36; (with_reducible refine (HC13.out _ _ _ (by with_unfolding_all exact HK.out.lay) (by with_unfolding_all exact HK.out.r _ (.tail _ (.tail _ (.head _)))) (by with_unfolding_all exact HK.out.r _ (.head _))).mono ?_); rintro e wz ⟨rfl, hb⟩; have HK2 := Lib.hid (HK.out.next hb); clear HK x0 x1 x2 x3 x4 y0 y1 y2 y3 y4 z0 z1 z2 z3 z4; have HK := HK2; clear HK2; clear hb; have x0 := (HK.out.a _ (.tail _ (.tail _ (.head _)))).c0; have x1 := (HK.out.a _ (.tail _ (.tail _ (.head _)))).c1; have x2 := (HK.out.a _ (.tail _ (.tail _ (.head _)))).c2; have x3 := (HK.out.a _ (.tail _ (.tail _ (.head _)))).c3; have x4 := (HK.out.a _ (.tail _ (.tail _ (.head _)))).c4; have y0 := (HK.out.a _ (.tail _ (.head _))).c0; have y1 := (HK.out.a _ (.tail _ (.head _))).c1; have y2 := (HK.out.a _ (.tail _ (.head _))).c2; have y3 := (HK.out.a _ (.tail _ (.head _))).c3; have y4 := (HK.out.a _ (.tail _ (.head _))).c4; have z0 := (HK.out.a _ (.head _)).c0; have z1 := (HK.out.a _ (.head _)).c1; have z2 := (HK.out.a _ (.head _)).c2; have z3 := (HK.out.a _ (.head _)).c3; have z4 := (HK.out.a _ (.head _)).c4)
    | (go_at_call 36; (with_reducible refine (HC21.out _ _ _ (by with_unfolding_all exact HK.out.lay) (by with_unfolding_all exact HK.out.r _ (.tail _ (.head _))) (by with_unfolding_all exact HK.out.r _ (.tail _ (.tail _ (.head _))))).mono ?_); rintro e wz ⟨rfl, hb⟩; have HK2 := Lib.hid (HK.out.next hb); clear HK x0 x1 x2 x3 x4 y0 y1 y2 y3 y4 z0 z1 z2 z3 z4; have HK := HK2; clear HK2; clear hb; have x0 := (HK.out.a _ (.tail _ (.tail _ (.head _)))).c0; have x1 := (HK.out.a _ (.tail _ (.tail _ (.head _)))).c1; have x2 := (HK.out.a _ (.tail _ (.tail _ (.head _)))).c2; have x3 := (HK.out.a _ (.tail _ (.tail _ (.head _)))).c3; have x4 := (HK.out.a _ (.tail _ (.tail _ (.head _)))).c4; have y0 := (HK.out.a _ (.tail _ (.head _))).c0; have y1 := (HK.out.a _ (.tail _ (.head _))).c1; have y2 := (HK.out.a _ (.tail _ (.head _))).c2; have y3 := (HK.out.a _ (.tail _ (.head _))).c3; have y4 := (HK.out.a _ (.tail _ (.head _))).c4; have z0 := (HK.out.a _ (.head _)).c0; have z1 := (HK.out.a _ (.head _)).c1; have z2 := (HK.out.a _ (.head _)).c2; have z3 := (HK.out.a _ (.head _)).c3; have z4 := (HK.out.a _ (.head _)).c4)
    | (go_at_call 38; (with_reducible refine (HSm.out _ _ _ (by with_unfolding_all exact HK.out.r _ (.tail _ (.tail _ (.head _)))) (by with_unfolding_all exact HK.out.r _ (.tail _ (.head _)))).mono ?_); rintro e wz ⟨rfl, hb⟩; have HK2 := Lib.hid (HK.out.next hb); clear HK x0 x1 x2 x3 x4 y0 y1 y2 y3 y4 z0 z1 z2 z3 z4; have HK := HK2; clear HK2; clear hb; have x0 := (HK.out.a _ (.tail _ (.tail _ (.head _)))).c0; have x1 := (HK.out.a _ (.tail _ (.tail _ (.head _)))).c1; have x2 := (HK.out.a _ (.tail _ (.tail _ (.head _)))).c2; have x3 := (HK.out.a _ (.tail _ (.tail _ (.head _)))).c3; have x4 := (HK.out.a _ (.tail _ (.tail _ (.head _)))).c4; have y0 := (HK.out.a _ (.tail _ (.head _))).c0; have y1 := (HK.out.a _ (.tail _ (.head _))).c1; have y2 := (HK.out.a _ (.tail _ (.head _))).c2; have y3 := (HK.out.a _ (.tail _ (.head _))).c3; have y4 := (HK.out.a _ (.tail _ (.head _))).c4; have z0 := (HK.out.a _ (.head _)).c0; have z1 := (HK.out.a _ (.head _)).c1; have z2 := (HK.out.a _ (.head _)).c2; have z3 := (HK.out.a _ (.head _)).c3; have z4 := (HK.out.a _ (.head _)).c4)
    | (go_at_call 39; (with_reducible refine (HLk.out _ _ _ (by with_unfolding_all exact HK.out.r _ (.tail _ (.tail _ (.head _)))) (by with_unfolding_all exact HK.out.r _ (.tail _ (.head _)))).mono ?_); rintro e wz ⟨rfl, hb⟩; have HK2 := Lib.hid (HK.out.next hb); clear HK x0 x1 x2 x3 x4 y0 y1 y2 y3 y4 z0 z1 z2 z3 z4; have HK := HK2; clear HK2; clear hb; have x0 := (HK.out.a _ (.tail _ (.tail _ (.head _)))).c0; have x1 := (HK.out.a _ (.tail _ (.tail _ (.head _)))).c1; have x2 := (HK.out.a _ (.tail _ (.tail _ (.head _)))).c2; have x3 := (HK.out.a _ (.tail _ (.tail _ (.head _)))).c3; have x4 := (HK.out.a _ (.tail _ (.tail _ (.head _)))).c4; have y0 := (HK.out.a _ (.tail _ (.head _))).c0; have y1 := (HK.out.a _ (.tail _ (.head _))).c1; have y2 := (HK.out.a _ (.tail _ (.head _))).c2; have y3 := (HK.out.a _ (.tail _ (.head _))).c3; have y4 := (HK.out.a _ (.tail _ (.head _))).c4; have z0 := (HK.out.a _ (.head _)).c0; have z1 := (HK.out.a _ (.head _)).c1; have z2 := (HK.out.a _ (.head _)).c2; have z3 := (HK.out.a _ (.head _)).c3; have z4 := (HK.out.a _ (.head _)).c4))
  refine wp_loop_rounds 4 ?_
  rw [rounds_succ]
  go_wp2_with (go_at_call 12; refine (HAw.out _ (by with_unfolding_all first | exact HK.out.lay | exact (HK.out.next (drewN_below _ _)).lay)).mono ?_; rintro e wq ⟨rfl, hb⟩; have HB9 : Hid (Below w.heap.size w wq) := (by with_unfolding_all first | exact (HK.out.next hb).bel | exact ((HK.out.next (drewN_below _ _)).next hb).bel); clear hb)
  go_ret
  exact ⟨rfl, HB9.out⟩

set_option maxRecDepth 100000 in
set_option maxHeartbeats 8000000 in
theorem cmpLaw_N1_r (A B C : Ar) (v u t : Value) (w : World) (hw : Ru.Lay w) (hv : RdI w.heap.size w v A.z) (hu : RdI w.heap.size w u B.z) (ht : RdI w.heap.size w t C.z) (hf : A.z.length ≤ 500 ∧ B.z.length ≤ 500 ∧ C.z.length ≤ 500) (ga : Good A) (gb : Good B) (gc : Good C) (h1 : cmV A B = -1) (h2 : cmV B A = 1) (h3 : ¬ cmV B C ≤ 0) (hl : likeB A B = false) (h5 : A.k = B.k) (hd : A.r ≠ B.r) :
    Calls Tryd.prog 9 #[A5 A.k A.r A.a A.b v, A5 B.k B.r B.a B.b u, A5 C.k C.r C.a C.b t] w fun e w' => e = .returned (.bool true) ∧ Below w.heap.size w w' := by
  have HF1 := Lib.hid (fun W h => far_any A v W h)
  have HF2 := Lib.hid (fun W h => far_any B u W h)
  have HF3 := Lib.hid (fun W h => far_any C t W h)
  have HAw := Lib.hid (fun W h => awake_any W h)
  have HK := Lib.hid (start3 A B C v u t w hw hv hu ht)
  rw [decide_eq_false (by omega)] at HF1 HF2 HF3
  have HC12 := Lib.hid (fun v u W h0 h1 h2 => compare_any A B v u W h0 h1 h2 (by omega) (by omega))
  have HC23 := Lib.hid (fun v u W h0 h1 h2 => compare_any B C v u W h0 h1 h2 (by omega) (by omega))
  have HC13 := Lib.hid (fun v u W h0 h1 h2 => compare_any A C v u W h0 h1 h2 (by omega) (by omega))
  have HC21 := Lib.hid (fun v u W h0 h1 h2 => compare_any B A v u W h0 h1 h2 (by omega) (by omega))
  have HSm := Lib.hid (fun v u W h1 h2 => asame_any A B v u W h1 h2 (by omega))
  have HLk := Lib.hid (fun v u W h1 h2 => alike_any A B v u W h1 h2)
  obtain ⟨e12, v12⟩ := cp_ok ga gb
  obtain ⟨e23, v23⟩ := cp_ok gb gc
  obtain ⟨e13, v13⟩ := cp_ok ga gc
  obtain ⟨e21, v21⟩ := cp_ok gb ga
  rw [e12, v12] at HC12
  rw [e23, v23] at HC23
  rw [e13, v13] at HC13
  rw [e21, v21] at HC21
  clear e12 e23 e13 e21 v12 v23 v13 v21
  have hsm : smB A B = false := by
    cases h : smB A B
    · rfl
    · have := (cm_law ga gb gc).2.2.1.2 (smB_eq.1 h); omega
  rw [h1] at HC12
  rw [h2] at HC21
  rw [hsm] at HSm
  rw [hl] at HLk
  have hsg := cm_sign hd
  rw [← cm_r h5 hd] at hsg
  rw [h1] at hsg
  have hs0 : A.r - B.r < 0 := by omega
  have hwk : IntKind.i64.wrap (A.k - B.k) = 0 := by rw [h5, Int.sub_self]; rfl
  have hwr : IntKind.i64.wrap (A.r - B.r) = A.r - B.r := wrap_d (by have := ga.sh.bd; omega) (by have := ga.sh.bd; omega) (by have := gb.sh.bd; omega) (by have := gb.sh.bd; omega)
  have hne : ((A.r - B.r) == 0) = false := by rw [beq_eq_false_iff_ne]; omega
  clear hsg hd h5
  clear hf ga gb gc h1 h2 hsm hl
  generalize cmV B C = bc at HC23 h3
  generalize cmV A C = ac at HC13
  obtain ⟨p, cap, rfl, hcap, hcap2, hcell⟩ := hv
  obtain ⟨q, cap', rfl, hcap', hcap2', hcell'⟩ := hu
  obtain ⟨s, cap'', rfl, hcap'', hcap2'', hcell''⟩ := ht
  clear hcell hcell' hcell'' hw
  have x0 := (HK.out.a _ (.tail _ (.tail _ (.head _)))).c0
  have x1 := (HK.out.a _ (.tail _ (.tail _ (.head _)))).c1
  have x2 := (HK.out.a _ (.tail _ (.tail _ (.head _)))).c2
  have x3 := (HK.out.a _ (.tail _ (.tail _ (.head _)))).c3
  have x4 := (HK.out.a _ (.tail _ (.tail _ (.head _)))).c4
  have y0 := (HK.out.a _ (.tail _ (.head _))).c0
  have y1 := (HK.out.a _ (.tail _ (.head _))).c1
  have y2 := (HK.out.a _ (.tail _ (.head _))).c2
  have y3 := (HK.out.a _ (.tail _ (.head _))).c3
  have y4 := (HK.out.a _ (.tail _ (.head _))).c4
  have z0 := (HK.out.a _ (.head _)).c0
  have z1 := (HK.out.a _ (.head _)).c1
  have z2 := (HK.out.a _ (.head _)).c2
  have z3 := (HK.out.a _ (.head _)).c3
  have z4 := (HK.out.a _ (.head _)).c4
  go_enter Tryd.func9, Tryd.ntmps9
  go_wp2_with (first
    | (go_at_call 11; (with_reducible refine (HF1.out _ (by with_unfolding_all exact HK.out.r _ (.tail _ (.tail _ (.head _))))).mono ?_); rintro e wz ⟨rfl, hb⟩; have HK2 := Lib.hid (HK.out.next hb); clear HK x0 x1 x2 x3 x4 y0 y1 y2 y3 y4 z0 z1 z2 z3 z4; have HK := HK2; clear HK2; clear hb; have x0 := (HK.out.a _ (.tail _ (.tail _ (.head _)))).c0; have x1 := (HK.out.a _ (.tail _ (.tail _ (.head _)))).c1; have x2 := (HK.out.a _ (.tail _ (.tail _ (.head _)))).c2; have x3 := (HK.out.a _ (.tail _ (.tail _ (.head _)))).c3; have x4 := (HK.out.a _ (.tail _ (.tail _ (.head _)))).c4; have y0 := (HK.out.a _ (.tail _ (.head _))).c0; have y1 := (HK.out.a _ (.tail _ (.head _))).c1; have y2 := (HK.out.a _ (.tail _ (.head _))).c2; have y3 := (HK.out.a _ (.tail _ (.head _))).c3; have y4 := (HK.out.a _ (.tail _ (.head _))).c4; have z0 := (HK.out.a _ (.head _)).c0; have z1 := (HK.out.a _ (.head _)).c1; have z2 := (HK.out.a _ (.head _)).c2; have z3 := (HK.out.a _ (.head _)).c3; have z4 := (HK.out.a _ (.head _)).c4)
    | (go_at_call 11; (with_reducible refine (HF2.out _ (by with_unfolding_all exact HK.out.r _ (.tail _ (.head _)))).mono ?_); rintro e wz ⟨rfl, hb⟩; have HK2 := Lib.hid (HK.out.next hb); clear HK x0 x1 x2 x3 x4 y0 y1 y2 y3 y4 z0 z1 z2 z3 z4; have HK := HK2; clear HK2; clear hb; have x0 := (HK.out.a _ (.tail _ (.tail _ (.head _)))).c0; have x1 := (HK.out.a _ (.tail _ (.tail _ (.head _)))).c1; have x2 := (HK.out.a _ (.tail _ (.tail _ (.head _)))).c2; have x3 := (HK.out.a _ (.tail _ (.tail _ (.head _)))).c3; have x4 := (HK.out.a _ (.tail _ (.tail _ (.head _)))).c4; have y0 := (HK.out.a _ (.tail _ (.head _))).c0; have y1 := (HK.out.a _ (.tail _ (.head _))).c1; have y2 := (HK.out.a _ (.tail _ (.head _))).c2; have y3 := (HK.out.a _ (.tail _ (.head _))).c3; have y4 := (HK.out.a _ (.tail _ (.head _))).c4; have z0 := (HK.out.a _ (.head _)).c0; have z1 := (HK.out.a _ (.head _)).c1; have z2 := (HK.out.a _ (.head _)).c2; have z3 := (HK.out.a _ (.head _)).c3; have z4 := (HK.out.a _ (.head _)).c4)
    | (go_at_call 11; (with_reducible refine (HF3.out _ (by with_unfolding_all exact HK.out.r _ (.head _))).mono ?_); rintro e wz ⟨rfl, hb⟩; have HK2 := Lib.hid (HK.out.next hb); clear HK x0 x1 x2 x3 x4 y0 y1 y2 y3 y4 z0 z1 z2 z3 z4; have HK := HK2; clear HK2; clear hb; have x0 := (HK.out.a _ (.tail _ (.tail _ (.head _)))).c0; have x1 := (HK.out.a _ (.tail _ (.tail _ (.head _)))).c1; have x2 := (HK.out.a _ (.tail _ (.tail _ (.head _)))).c2; have x3 := (HK.out.a _ (.tail _ (.tail _ (.head _)))).c3; have x4 := (HK.out.a _ (.tail _ (.tail _ (.head _)))).c4; have y0 := (HK.out.a _ (.tail _ (.head _))).c0; have y1 := (HK.out.a _ (.tail _ (.head _))).c1; have y2 := (HK.out.a _ (.tail _ (.head _))).c2; have y3 := (HK.out.a _ (.tail _ (.head _))).c3; have y4 := (HK.out.a _ (.tail _ (.head _))).c4; have z0 := (HK.out.a _ (.head _)).c0; have z1 := (HK.out.a _ (.head _)).c1; have z2 := (HK.out.a _ (.head _)).c2; have z3 := (HK.out.a _ (.head _)).c3; have z4 := (HK.out.a _ (.head _)).c4)
    | (go_at_call 36; (with_reducible refine (HC12.out _ _ _ (by with_unfolding_all exact HK.out.lay) (by with_unfolding_all exact HK.out.r _ (.tail _ (.tail _ (.head _)))) (by with_unfolding_all exact HK.out.r _ (.tail _ (.head _)))).mono ?_); rintro e wz ⟨rfl, hb⟩; have HK2 := Lib.hid (HK.out.next hb); clear HK x0 x1 x2 x3 x4 y0 y1 y2 y3 y4 z0 z1 z2 z3 z4; have HK := HK2; clear HK2; clear hb; have x0 := (HK.out.a _ (.tail _ (.tail _ (.head _)))).c0; have x1 := (HK.out.a _ (.tail _ (.tail _ (.head _)))).c1; have x2 := (HK.out.a _ (.tail _ (.tail _ (.head _)))).c2; have x3 := (HK.out.a _ (.tail _ (.tail _ (.head _)))).c3; have x4 := (HK.out.a _ (.tail _ (.tail _ (.head _)))).c4; have y0 := (HK.out.a _ (.tail _ (.head _))).c0; have y1 := (HK.out.a _ (.tail _ (.head _))).c1; have y2 := (HK.out.a _ (.tail _ (.head _))).c2; have y3 := (HK.out.a _ (.tail _ (.head _))).c3; have y4 := (HK.out.a _ (.tail _ (.head _))).c4; have z0 := (HK.out.a _ (.head _)).c0; have z1 := (HK.out.a _ (.head _)).c1; have z2 := (HK.out.a _ (.head _)).c2; have z3 := (HK.out.a _ (.head _)).c3; have z4 := (HK.out.a _ (.head _)).c4)
    | (go_at_call 36; (with_reducible refine (HC23.out _ _ _ (by with_unfolding_all exact HK.out.lay) (by with_unfolding_all exact HK.out.r _ (.tail _ (.head _))) (by with_unfolding_all exact HK.out.r _ (.head _))).mono ?_); rintro e wz ⟨rfl, hb⟩; have HK2 := Lib.hid (HK.out.next hb); clear HK x0 x1 x2 x3 x4 y0 y1 y2 y3 y4 z0 z1 z2 z3 z4; have HK := HK2; clear HK2; clear hb; have x0 := (HK.out.a _ (.tail _ (.tail _ (.head _)))).c0; have x1 := (HK.out.a _ (.tail _ (.tail _ (.head _)))).c1; have x2 := (HK.out.a _ (.tail _ (.tail _ (.head _)))).c2; have x3 := (HK.out.a _ (.tail _ (.tail _ (.head _)))).c3; have x4 := (HK.out.a _ (.tail _ (.tail _ (.head _)))).c4; have y0 := (HK.out.a _ (.tail _ (.head _))).c0; have y1 := (HK.out.a _ (.tail _ (.head _))).c1; have y2 := (HK.out.a _ (.tail _ (.head _))).c2; have y3 := (HK.out.a _ (.tail _ (.head _))).c3; have y4 := (HK.out.a _ (.tail _ (.head _))).c4; have z0 := (HK.out.a _ (.head _)).c0; have z1 := (HK.out.a _ (.head _)).c1; have z2 := (HK.out.a _ (.head _)).c2; have z3 := (HK.out.a _ (.head _)).c3; have z4 := (HK.out.a _ (.head _)).c4)
    | (go_at_call 36; (with_reducible refine (HC13.out _ _ _ (by with_unfolding_all exact HK.out.lay) (by with_unfolding_all exact HK.out.r _ (.tail _ (.tail _ (.head _)))) (by with_unfolding_all exact HK.out.r _ (.head _))).mono ?_); rintro e wz ⟨rfl, hb⟩; have HK2 := Lib.hid (HK.out.next hb); clear HK x0 x1 x2 x3 x4 y0 y1 y2 y3 y4 z0 z1 z2 z3 z4; have HK := HK2; clear HK2; clear hb; have x0 := (HK.out.a _ (.tail _ (.tail _ (.head _)))).c0; have x1 := (HK.out.a _ (.tail _ (.tail _ (.head _)))).c1; have x2 := (HK.out.a _ (.tail _ (.tail _ (.head _)))).c2; have x3 := (HK.out.a _ (.tail _ (.tail _ (.head _)))).c3; have x4 := (HK.out.a _ (.tail _ (.tail _ (.head _)))).c4; have y0 := (HK.out.a _ (.tail _ (.head _))).c0; have y1 := (HK.out.a _ (.tail _ (.head _))).c1; have y2 := (HK.out.a _ (.tail _ (.head _))).c2; have y3 := (HK.out.a _ (.tail _ (.head _))).c3; have y4 := (HK.out.a _ (.tail _ (.head _))).c4; have z0 := (HK.out.a _ (.head _)).c0; have z1 := (HK.out.a _ (.head _)).c1; have z2 := (HK.out.a _ (.head _)).c2; have z3 := (HK.out.a _ (.head _)).c3; have z4 := (HK.out.a _ (.head _)).c4)
    | (go_at_call 36; (with_reducible refine (HC21.out _ _ _ (by with_unfolding_all exact HK.out.lay) (by with_unfolding_all exact HK.out.r _ (.tail _ (.head _))) (by with_unfolding_all exact HK.out.r _ (.tail _ (.tail _ (.head _))))).mono ?_); rintro e wz ⟨rfl, hb⟩; have HK2 := Lib.hid (HK.out.next hb); clear HK x0 x1 x2 x3 x4 y0 y1 y2 y3 y4 z0 z1 z2 z3 z4; have HK := HK2; clear HK2; clear hb; have x0 := (HK.out.a _ (.tail _ (.tail _ (.head _)))).c0; have x1 := (HK.out.a _ (.tail _ (.tail _ (.head _)))).c1; have x2 := (HK.out.a _ (.tail _ (.tail _ (.head _)))).c2; have x3 := (HK.out.a _ (.tail _ (.tail _ (.head _)))).c3; have x4 := (HK.out.a _ (.tail _ (.tail _ (.head _)))).c4; have y0 := (HK.out.a _ (.tail _ (.head _))).c0; have y1 := (HK.out.a _ (.tail _ (.head _))).c1; have y2 := (HK.out.a _ (.tail _ (.head _))).c2; have y3 := (HK.out.a _ (.tail _ (.head _))).c3; have y4 := (HK.out.a _ (.tail _ (.head _))).c4; have z0 := (HK.out.a _ (.head _)).c0; have z1 := (HK.out.a _ (.head _)).c1; have z2 := (HK.out.a _ (.head _)).c2; have z3 := (HK.out.a _ (.head _)).c3; have z4 := (HK.out.a _ (.head _)).c4)
    | (go_at_call 38; (with_reducible refine (HSm.out _ _ _ (by with_unfolding_all exact HK.out.r _ (.tail _ (.tail _ (.head _)))) (by with_unfolding_all exact HK.out.r _ (.tail _ (.head _)))).mono ?_); rintro e wz ⟨rfl, hb⟩; have HK2 := Lib.hid (HK.out.next hb); clear HK x0 x1 x2 x3 x4 y0 y1 y2 y3 y4 z0 z1 z2 z3 z4; have HK := HK2; clear HK2; clear hb; have x0 := (HK.out.a _ (.tail _ (.tail _ (.head _)))).c0; have x1 := (HK.out.a _ (.tail _ (.tail _ (.head _)))).c1; have x2 := (HK.out.a _ (.tail _ (.tail _ (.head _)))).c2; have x3 := (HK.out.a _ (.tail _ (.tail _ (.head _)))).c3; have x4 := (HK.out.a _ (.tail _ (.tail _ (.head _)))).c4; have y0 := (HK.out.a _ (.tail _ (.head _))).c0; have y1 := (HK.out.a _ (.tail _ (.head _))).c1; have y2 := (HK.out.a _ (.tail _ (.head _))).c2; have y3 := (HK.out.a _ (.tail _ (.head _))).c3; have y4 := (HK.out.a _ (.tail _ (.head _))).c4; have z0 := (HK.out.a _ (.head _)).c0; have z1 := (HK.out.a _ (.head _)).c1; have z2 := (HK.out.a _ (.head _)).c2; have z3 := (HK.out.a _ (.head _)).c3; have z4 := (HK.out.a _ (.head _)).c4)
    | (go_at_call 39; (with_reducible refine (HLk.out _ _ _ (by with_unfolding_all exact HK.out.r _ (.tail _ (.tail _ (.head _)))) (by with_unfolding_all exact HK.out.r _ (.tail _ (.head _)))).mono ?_); rintro e wz ⟨rfl, hb⟩; have HK2 := Lib.hid (HK.out.next hb); clear HK x0 x1 x2 x3 x4 y0 y1 y2 y3 y4 z0 z1 z2 z3 z4; have HK := HK2; clear HK2; clear hb; have x0 := (HK.out.a _ (.tail _ (.tail _ (.head _)))).c0; have x1 := (HK.out.a _ (.tail _ (.tail _ (.head _)))).c1; have x2 := (HK.out.a _ (.tail _ (.tail _ (.head _)))).c2; have x3 := (HK.out.a _ (.tail _ (.tail _ (.head _)))).c3; have x4 := (HK.out.a _ (.tail _ (.tail _ (.head _)))).c4; have y0 := (HK.out.a _ (.tail _ (.head _))).c0; have y1 := (HK.out.a _ (.tail _ (.head _))).c1; have y2 := (HK.out.a _ (.tail _ (.head _))).c2; have y3 := (HK.out.a _ (.tail _ (.head _))).c3; have y4 := (HK.out.a _ (.tail _ (.head _))).c4; have z0 := (HK.out.a _ (.head _)).c0; have z1 := (HK.out.a _ (.head _)).c1; have z2 := (HK.out.a _ (.head _)).c2; have z3 := (HK.out.a _ (.head _)).c3; have z4 := (HK.out.a _ (.head _)).c4))
  refine wp_loop_rounds 4 ?_
  rw [rounds_succ]
  go_wp2_with (go_at_call 12; refine (HAw.out _ (by with_unfolding_all first | exact HK.out.lay | exact (HK.out.next (drewN_below _ _)).lay)).mono ?_; rintro e wq ⟨rfl, hb⟩; have HB9 : Hid (Below w.heap.size w wq) := (by with_unfolding_all first | exact (HK.out.next hb).bel | exact ((HK.out.next (drewN_below _ _)).next hb).bel); clear hb)
  go_ret
  exact ⟨rfl, HB9.out⟩

set_option maxRecDepth 100000 in
set_option maxHeartbeats 8000000 in
theorem cmpLaw_N1_a (A B C : Ar) (v u t : Value) (w : World) (hw : Ru.Lay w) (hv : RdI w.heap.size w v A.z) (hu : RdI w.heap.size w u B.z) (ht : RdI w.heap.size w t C.z) (hf : A.z.length ≤ 500 ∧ B.z.length ≤ 500 ∧ C.z.length ≤ 500) (ga : Good A) (gb : Good B) (gc : Good C) (h1 : cmV A B = -1) (h2 : cmV B A = 1) (h3 : ¬ cmV B C ≤ 0) (hl : likeB A B = false) (h5 : A.k = B.k) (h6 : A.r = B.r) (hd : A.a ≠ B.a) :
    Calls Tryd.prog 9 #[A5 A.k A.r A.a A.b v, A5 B.k B.r B.a B.b u, A5 C.k C.r C.a C.b t] w fun e w' => e = .returned (.bool true) ∧ Below w.heap.size w w' := by
  have HF1 := Lib.hid (fun W h => far_any A v W h)
  have HF2 := Lib.hid (fun W h => far_any B u W h)
  have HF3 := Lib.hid (fun W h => far_any C t W h)
  have HAw := Lib.hid (fun W h => awake_any W h)
  have HK := Lib.hid (start3 A B C v u t w hw hv hu ht)
  rw [decide_eq_false (by omega)] at HF1 HF2 HF3
  have HC12 := Lib.hid (fun v u W h0 h1 h2 => compare_any A B v u W h0 h1 h2 (by omega) (by omega))
  have HC23 := Lib.hid (fun v u W h0 h1 h2 => compare_any B C v u W h0 h1 h2 (by omega) (by omega))
  have HC13 := Lib.hid (fun v u W h0 h1 h2 => compare_any A C v u W h0 h1 h2 (by omega) (by omega))
  have HC21 := Lib.hid (fun v u W h0 h1 h2 => compare_any B A v u W h0 h1 h2 (by omega) (by omega))
  have HSm := Lib.hid (fun v u W h1 h2 => asame_any A B v u W h1 h2 (by omega))
  have HLk := Lib.hid (fun v u W h1 h2 => alike_any A B v u W h1 h2)
  obtain ⟨e12, v12⟩ := cp_ok ga gb
  obtain ⟨e23, v23⟩ := cp_ok gb gc
  obtain ⟨e13, v13⟩ := cp_ok ga gc
  obtain ⟨e21, v21⟩ := cp_ok gb ga
  rw [e12, v12] at HC12
  rw [e23, v23] at HC23
  rw [e13, v13] at HC13
  rw [e21, v21] at HC21
  clear e12 e23 e13 e21 v12 v23 v13 v21
  have hsm : smB A B = false := by
    cases h : smB A B
    · rfl
    · have := (cm_law ga gb gc).2.2.1.2 (smB_eq.1 h); omega
  rw [h1] at HC12
  rw [h2] at HC21
  rw [hsm] at HSm
  rw [hl] at HLk
  have hsg := cm_sign hd
  rw [← cm_a h5 h6 hd] at hsg
  rw [h1] at hsg
  have hs0 : A.a - B.a < 0 := by omega
  have hwk : IntKind.i64.wrap (A.k - B.k) = 0 := by rw [h5, Int.sub_self]; rfl
  have hwr : IntKind.i64.wrap (A.r - B.r) = 0 := by rw [h6, Int.sub_self]; rfl
  have hwa : IntKind.i64.wrap (A.a - B.a) = A.a - B.a := wrap_d (by have := ga.sh.bd; omega) (by have := ga.sh.bd; omega) (by have := gb.sh.bd; omega) (by have := gb.sh.bd; omega)
  have hne : ((A.a - B.a) == 0) = false := by rw [beq_eq_false_iff_ne]; omega
  clear hsg hd h5 h6
  clear hf ga gb gc h1 h2 hsm hl
  generalize cmV B C = bc at HC23 h3
  generalize cmV A C = ac at HC13
  obtain ⟨p, cap, rfl, hcap, hcap2, hcell⟩ := hv
  obtain ⟨q, cap', rfl, hcap', hcap2', hcell'⟩ := hu
  obtain ⟨s, cap'', rfl, hcap'', hcap2'', hcell''⟩ := ht
  clear hcell hcell' hcell'' hw
  have x0 := (HK.out.a _ (.tail _ (.tail _ (.head _)))).c0
  have x1 := (HK.out.a _ (.tail _ (.tail _ (.head _)))).c1
  have x2 := (HK.out.a _ (.tail _ (.tail _ (.head _)))).c2
  have x3 := (HK.out.a _ (.tail _ (.tail _ (.head _)))).c3
  have x4 := (HK.out.a _ (.tail _ (.tail _ (.head _)))).c4
  have y0 := (HK.out.a _ (.tail _ (.head _))).c0
  have y1 := (HK.out.a _ (.tail _ (.head _))).c1
  have y2 := (HK.out.a _ (.tail _ (.head _))).c2
  have y3 := (HK.out.a _ (.tail _ (.head _))).c3
  have y4 := (HK.out.a _ (.tail _ (.head _))).c4
  have z0 := (HK.out.a _ (.head _)).c0
  have z1 := (HK.out.a _ (.head _)).c1
  have z2 := (HK.out.a _ (.head _)).c2
  have z3 := (HK.out.a _ (.head _)).c3
  have z4 := (HK.out.a _ (.head _)).c4
  go_enter Tryd.func9, Tryd.ntmps9
  go_wp2_with (first
    | (go_at_call 11; (with_reducible refine (HF1.out _ (by with_unfolding_all exact HK.out.r _ (.tail _ (.tail _ (.head _))))).mono ?_); rintro e wz ⟨rfl, hb⟩; have HK2 := Lib.hid (HK.out.next hb); clear HK x0 x1 x2 x3 x4 y0 y1 y2 y3 y4 z0 z1 z2 z3 z4; have HK := HK2; clear HK2; clear hb; have x0 := (HK.out.a _ (.tail _ (.tail _ (.head _)))).c0; have x1 := (HK.out.a _ (.tail _ (.tail _ (.head _)))).c1; have x2 := (HK.out.a _ (.tail _ (.tail _ (.head _)))).c2; have x3 := (HK.out.a _ (.tail _ (.tail _ (.head _)))).c3; have x4 := (HK.out.a _ (.tail _ (.tail _ (.head _)))).c4; have y0 := (HK.out.a _ (.tail _ (.head _))).c0; have y1 := (HK.out.a _ (.tail _ (.head _))).c1; have y2 := (HK.out.a _ (.tail _ (.head _))).c2; have y3 := (HK.out.a _ (.tail _ (.head _))).c3; have y4 := (HK.out.a _ (.tail _ (.head _))).c4; have z0 := (HK.out.a _ (.head _)).c0; have z1 := (HK.out.a _ (.head _)).c1; have z2 := (HK.out.a _ (.head _)).c2; have z3 := (HK.out.a _ (.head _)).c3; have z4 := (HK.out.a _ (.head _)).c4)
    | (go_at_call 11; (with_reducible refine (HF2.out _ (by with_unfolding_all exact HK.out.r _ (.tail _ (.head _)))).mono ?_); rintro e wz ⟨rfl, hb⟩; have HK2 := Lib.hid (HK.out.next hb); clear HK x0 x1 x2 x3 x4 y0 y1 y2 y3 y4 z0 z1 z2 z3 z4; have HK := HK2; clear HK2; clear hb; have x0 := (HK.out.a _ (.tail _ (.tail _ (.head _)))).c0; have x1 := (HK.out.a _ (.tail _ (.tail _ (.head _)))).c1; have x2 := (HK.out.a _ (.tail _ (.tail _ (.head _)))).c2; have x3 := (HK.out.a _ (.tail _ (.tail _ (.head _)))).c3; have x4 := (HK.out.a _ (.tail _ (.tail _ (.head _)))).c4; have y0 := (HK.out.a _ (.tail _ (.head _))).c0; have y1 := (HK.out.a _ (.tail _ (.head _))).c1; have y2 := (HK.out.a _ (.tail _ (.head _))).c2; have y3 := (HK.out.a _ (.tail _ (.head _))).c3; have y4 := (HK.out.a _ (.tail _ (.head _))).c4; have z0 := (HK.out.a _ (.head _)).c0; have z1 := (HK.out.a _ (.head _)).c1; have z2 := (HK.out.a _ (.head _)).c2; have z3 := (HK.out.a _ (.head _)).c3; have z4 := (HK.out.a _ (.head _)).c4)
    | (go_at_call 11; (with_reducible refine (HF3.out _ (by with_unfolding_all exact HK.out.r _ (.head _))).mono ?_); rintro e wz ⟨rfl, hb⟩; have HK2 := Lib.hid (HK.out.next hb); clear HK x0 x1 x2 x3 x4 y0 y1 y2 y3 y4 z0 z1 z2 z3 z4; have HK := HK2; clear HK2; clear hb; have x0 := (HK.out.a _ (.tail _ (.tail _ (.head _)))).c0; have x1 := (HK.out.a _ (.tail _ (.tail _ (.head _)))).c1; have x2 := (HK.out.a _ (.tail _ (.tail _ (.head _)))).c2; have x3 := (HK.out.a _ (.tail _ (.tail _ (.head _)))).c3; have x4 := (HK.out.a _ (.tail _ (.tail _ (.head _)))).c4; have y0 := (HK.out.a _ (.tail _ (.head _))).c0; have y1 := (HK.out.a _ (.tail _ (.head _))).c1; have y2 := (HK.out.a _ (.tail _ (.head _))).c2; have y3 := (HK.out.a _ (.tail _ (.head _))).c3; have y4 := (HK.out.a _ (.tail _ (.head _))).c4; have z0 := (HK.out.a _ (.head _)).c0; have z1 := (HK.out.a _ (.head _)).c1; have z2 := (HK.out.a _ (.head _)).c2; have z3 := (HK.out.a _ (.head _)).c3; have z4 := (HK.out.a _ (.head _)).c4)
    | (go_at_call 36; (with_reducible refine (HC12.out _ _ _ (by with_unfolding_all exact HK.out.lay) (by with_unfolding_all exact HK.out.r _ (.tail _ (.tail _ (.head _)))) (by with_unfolding_all exact HK.out.r _ (.tail _ (.head _)))).mono ?_); rintro e wz ⟨rfl, hb⟩; have HK2 := Lib.hid (HK.out.next hb); clear HK x0 x1 x2 x3 x4 y0 y1 y2 y3 y4 z0 z1 z2 z3 z4; have HK := HK2; clear HK2; clear hb; have x0 := (HK.out.a _ (.tail _ (.tail _ (.head _)))).c0; have x1 := (HK.out.a _ (.tail _ (.tail _ (.head _)))).c1; have x2 := (HK.out.a _ (.tail _ (.tail _ (.head _)))).c2; have x3 := (HK.out.a _ (.tail _ (.tail _ (.head _)))).c3; have x4 := (HK.out.a _ (.tail _ (.tail _ (.head _)))).c4; have y0 := (HK.out.a _ (.tail _ (.head _))).c0; have y1 := (HK.out.a _ (.tail _ (.head _))).c1; have y2 := (HK.out.a _ (.tail _ (.head _))).c2; have y3 := (HK.out.a _ (.tail _ (.head _))).c3; have y4 := (HK.out.a _ (.tail _ (.head _))).c4; have z0 := (HK.out.a _ (.head _)).c0; have z1 := (HK.out.a _ (.head _)).c1; have z2 := (HK.out.a _ (.head _)).c2; have z3 := (HK.out.a _ (.head _)).c3; have z4 := (HK.out.a _ (.head _)).c4)
    | (go_at_call 36; (with_reducible refine (HC23.out _ _ _ (by with_unfolding_all exact HK.out.lay) (by with_unfolding_all exact HK.out.r _ (.tail _ (.head _))) (by with_unfolding_all exact HK.out.r _ (.head _))).mono ?_); rintro e wz ⟨rfl, hb⟩; have HK2 := Lib.hid (HK.out.next hb); clear HK x0 x1 x2 x3 x4 y0 y1 y2 y3 y4 z0 z1 z2 z3 z4; have HK := HK2; clear HK2; clear hb; have x0 := (HK.out.a _ (.tail _ (.tail _ (.head _)))).c0; have x1 := (HK.out.a _ (.tail _ (.tail _ (.head _)))).c1; have x2 := (HK.out.a _ (.tail _ (.tail _ (.head _)))).c2; have x3 := (HK.out.a _ (.tail _ (.tail _ (.head _)))).c3; have x4 := (HK.out.a _ (.tail _ (.tail _ (.head _)))).c4; have y0 := (HK.out.a _ (.tail _ (.head _))).c0; have y1 := (HK.out.a _ (.tail _ (.head _))).c1; have y2 := (HK.out.a _ (.tail _ (.head _))).c2; have y3 := (HK.out.a _ (.tail _ (.head _))).c3; have y4 := (HK.out.a _ (.tail _ (.head _))).c4; have z0 := (HK.out.a _ (.head _)).c0; have z1 := (HK.out.a _ (.head _)).c1; have z2 := (HK.out.a _ (.head _)).c2; have z3 := (HK.out.a _ (.head _)).c3; have z4 := (HK.out.a _ (.head _)).c4)
    | (go_at_call 36; (with_reducible refine (HC13.out _ _ _ (by with_unfolding_all exact HK.out.lay) (by with_unfolding_all exact HK.out.r _ (.tail _ (.tail _ (.head _)))) (by with_unfolding_all exact HK.out.r _ (.head _))).mono ?_); rintro e wz ⟨rfl, hb⟩; have HK2 := Lib.hid (HK.out.next hb); clear HK x0 x1 x2 x3 x4 y0 y1 y2 y3 y4 z0 z1 z2 z3 z4; have HK := HK2; clear HK2; clear hb; have x0 := (HK.out.a _ (.tail _ (.tail _ (.head _)))).c0; have x1 := (HK.out.a _ (.tail _ (.tail _ (.head _)))).c1; have x2 := (HK.out.a _ (.tail _ (.tail _ (.head _)))).c2; have x3 := (HK.out.a _ (.tail _ (.tail _ (.head _)))).c3; have x4 := (HK.out.a _ (.tail _ (.tail _ (.head _)))).c4; have y0 := (HK.out.a _ (.tail _ (.head _))).c0; have y1 := (HK.out.a _ (.tail _ (.head _))).c1; have y2 := (HK.out.a _ (.tail _ (.head _))).c2; have y3 := (HK.out.a _ (.tail _ (.head _))).c3; have y4 := (HK.out.a _ (.tail _ (.head _))).c4; have z0 := (HK.out.a _ (.head _)).c0; have z1 := (HK.out.a _ (.head _)).c1; have z2 := (HK.out.a _ (.head _)).c2; have z3 := (HK.out.a _ (.head _)).c3; have z4 := (HK.out.a _ (.head _)).c4)
    | (go_at_call 36; (with_reducible refine (HC21.out _ _ _ (by with_unfolding_all exact HK.out.lay) (by with_unfolding_all exact HK.out.r _ (.tail _ (.head _))) (by with_unfolding_all exact HK.out.r _ (.tail _ (.tail _ (.head _))))).mono ?_); rintro e wz ⟨rfl, hb⟩; have HK2 := Lib.hid (HK.out.next hb); clear HK x0 x1 x2 x3 x4 y0 y1 y2 y3 y4 z0 z1 z2 z3 z4; have HK := HK2; clear HK2; clear hb; have x0 := (HK.out.a _ (.tail _ (.tail _ (.head _)))).c0; have x1 := (HK.out.a _ (.tail _ (.tail _ (.head _)))).c1; have x2 := (HK.out.a _ (.tail _ (.tail _ (.head _)))).c2; have x3 := (HK.out.a _ (.tail _ (.tail _ (.head _)))).c3; have x4 := (HK.out.a _ (.tail _ (.tail _ (.head _)))).c4; have y0 := (HK.out.a _ (.tail _ (.head _))).c0; have y1 := (HK.out.a _ (.tail _ (.head _))).c1; have y2 := (HK.out.a _ (.tail _ (.head _))).c2; have y3 := (HK.out.a _ (.tail _ (.head _))).c3; have y4 := (HK.out.a _ (.tail _ (.head _))).c4; have z0 := (HK.out.a _ (.head _)).c0; have z1 := (HK.out.a _ (.head _)).c1; have z2 := (HK.out.a _ (.head _)).c2; have z3 := (HK.out.a _ (.head _)).c3; have z4 := (HK.out.a _ (.head _)).c4)
    | (go_at_call 38; (with_reducible refine (HSm.out _ _ _ (by with_unfolding_all exact HK.out.r _ (.tail _ (.tail _ (.head _)))) (by with_unfolding_all exact HK.out.r _ (.tail _ (.head _)))).mono ?_); rintro e wz ⟨rfl, hb⟩; have HK2 := Lib.hid (HK.out.next hb); clear HK x0 x1 x2 x3 x4 y0 y1 y2 y3 y4 z0 z1 z2 z3 z4; have HK := HK2; clear HK2; clear hb; have x0 := (HK.out.a _ (.tail _ (.tail _ (.head _)))).c0; have x1 := (HK.out.a _ (.tail _ (.tail _ (.head _)))).c1; have x2 := (HK.out.a _ (.tail _ (.tail _ (.head _)))).c2; have x3 := (HK.out.a _ (.tail _ (.tail _ (.head _)))).c3; have x4 := (HK.out.a _ (.tail _ (.tail _ (.head _)))).c4; have y0 := (HK.out.a _ (.tail _ (.head _))).c0; have y1 := (HK.out.a _ (.tail _ (.head _))).c1; have y2 := (HK.out.a _ (.tail _ (.head _))).c2; have y3 := (HK.out.a _ (.tail _ (.head _))).c3; have y4 := (HK.out.a _ (.tail _ (.head _))).c4; have z0 := (HK.out.a _ (.head _)).c0; have z1 := (HK.out.a _ (.head _)).c1; have z2 := (HK.out.a _ (.head _)).c2; have z3 := (HK.out.a _ (.head _)).c3; have z4 := (HK.out.a _ (.head _)).c4)
    | (go_at_call 39; (with_reducible refine (HLk.out _ _ _ (by with_unfolding_all exact HK.out.r _ (.tail _ (.tail _ (.head _)))) (by with_unfolding_all exact HK.out.r _ (.tail _ (.head _)))).mono ?_); rintro e wz ⟨rfl, hb⟩; have HK2 := Lib.hid (HK.out.next hb); clear HK x0 x1 x2 x3 x4 y0 y1 y2 y3 y4 z0 z1 z2 z3 z4; have HK := HK2; clear HK2; clear hb; have x0 := (HK.out.a _ (.tail _ (.tail _ (.head _)))).c0; have x1 := (HK.out.a _ (.tail _ (.tail _ (.head _)))).c1; have x2 := (HK.out.a _ (.tail _ (.tail _ (.head _)))).c2; have x3 := (HK.out.a _ (.tail _ (.tail _ (.head _)))).c3; have x4 := (HK.out.a _ (.tail _ (.tail _ (.head _)))).c4; have y0 := (HK.out.a _ (.tail _ (.head _))).c0; have y1 := (HK.out.a _ (.tail _ (.head _))).c1; have y2 := (HK.out.a _ (.tail _ (.head _))).c2; have y3 := (HK.out.a _ (.tail _ (.head _))).c3; have y4 := (HK.out.a _ (.tail _ (.head _))).c4; have z0 := (HK.out.a _ (.head _)).c0; have z1 := (HK.out.a _ (.head _)).c1; have z2 := (HK.out.a _ (.head _)).c2; have z3 := (HK.out.a _ (.head _)).c3; have z4 := (HK.out.a _ (.head _)).c4))
  refine wp_loop_rounds 4 ?_
  rw [rounds_succ]
  go_wp2_with fail
  go_quiet (fail)
  go_wp2_with fail
  rw [rounds_succ]
  go_wp2_with (go_at_call 12; refine (HAw.out _ (by with_unfolding_all first | exact HK.out.lay | exact (HK.out.next (drewN_below _ _)).lay)).mono ?_; rintro e wq ⟨rfl, hb⟩; have HB9 : Hid (Below w.heap.size w wq) := (by with_unfolding_all first | exact (HK.out.next hb).bel | exact ((HK.out.next (drewN_below _ _)).next hb).bel); clear hb)
  go_ret
  exact ⟨rfl, HB9.out⟩

set_option maxRecDepth 100000 in
set_option maxHeartbeats 8000000 in
theorem cmpLaw_N1_b (A B C : Ar) (v u t : Value) (w : World) (hw : Ru.Lay w) (hv : RdI w.heap.size w v A.z) (hu : RdI w.heap.size w u B.z) (ht : RdI w.heap.size w t C.z) (hf : A.z.length ≤ 500 ∧ B.z.length ≤ 500 ∧ C.z.length ≤ 500) (ga : Good A) (gb : Good B) (gc : Good C) (h1 : cmV A B = -1) (h2 : cmV B A = 1) (h3 : ¬ cmV B C ≤ 0) (hl : likeB A B = false) (h5 : A.k = B.k) (h6 : A.r = B.r) (h7 : A.a = B.a) (hd : A.b ≠ B.b) :
    Calls Tryd.prog 9 #[A5 A.k A.r A.a A.b v, A5 B.k B.r B.a B.b u, A5 C.k C.r C.a C.b t] w fun e w' => e = .returned (.bool true) ∧ Below w.heap.size w w' := by
  have HF1 := Lib.hid (fun W h => far_any A v W h)
  have HF2 := Lib.hid (fun W h => far_any B u W h)
  have HF3 := Lib.hid (fun W h => far_any C t W h)
  have HAw := Lib.hid (fun W h => awake_any W h)
  have HK := Lib.hid (start3 A B C v u t w hw hv hu ht)
  rw [decide_eq_false (by omega)] at HF1 HF2 HF3
  have HC12 := Lib.hid (fun v u W h0 h1 h2 => compare_any A B v u W h0 h1 h2 (by omega) (by omega))
  have HC23 := Lib.hid (fun v u W h0 h1 h2 => compare_any B C v u W h0 h1 h2 (by omega) (by omega))
  have HC13 := Lib.hid (fun v u W h0 h1 h2 => compare_any A C v u W h0 h1 h2 (by omega) (by omega))
  have HC21 := Lib.hid (fun v u W h0 h1 h2 => compare_any B A v u W h0 h1 h2 (by omega) (by omega))
  have HSm := Lib.hid (fun v u W h1 h2 => asame_any A B v u W h1 h2 (by omega))
  have HLk := Lib.hid (fun v u W h1 h2 => alike_any A B v u W h1 h2)
  obtain ⟨e12, v12⟩ := cp_ok ga gb
  obtain ⟨e23, v23⟩ := cp_ok gb gc
  obtain ⟨e13, v13⟩ := cp_ok ga gc
  obtain ⟨e21, v21⟩ := cp_ok gb ga
  rw [e12, v12] at HC12
  rw [e23, v23] at HC23
  rw [e13, v13] at HC13
  rw [e21, v21] at HC21
  clear e12 e23 e13 e21 v12 v23 v13 v21
  have hsm : smB A B = false := by
    cases h : smB A B
    · rfl
    · have := (cm_law ga gb gc).2.2.1.2 (smB_eq.1 h); omega
  rw [h1] at HC12
  rw [h2] at HC21
  rw [hsm] at HSm
  rw [hl] at HLk
  have hsg := cm_sign hd
  rw [← cm_b h5 h6 h7 hd] at hsg
  rw [h1] at hsg
  have hs0 : A.b - B.b < 0 := by omega
  have hwk : IntKind.i64.wrap (A.k - B.k) = 0 := by rw [h5, Int.sub_self]; rfl
  have hwr : IntKind.i64.wrap (A.r - B.r) = 0 := by rw [h6, Int.sub_self]; rfl
  have hwa : IntKind.i64.wrap (A.a - B.a) = 0 := by rw [h7, Int.sub_self]; rfl
  have hwb : IntKind.i64.wrap (A.b - B.b) = A.b - B.b := wrap_d (by have := ga.sh.bd; omega) (by have := ga.sh.bd; omega) (by have := gb.sh.bd; omega) (by have := gb.sh.bd; omega)
  have hne : ((A.b - B.b) == 0) = false := by rw [beq_eq_false_iff_ne]; omega
  clear hsg hd h5 h6 h7
  clear hf ga gb gc h1 h2 hsm hl
  generalize cmV B C = bc at HC23 h3
  generalize cmV A C = ac at HC13
  obtain ⟨p, cap, rfl, hcap, hcap2, hcell⟩ := hv
  obtain ⟨q, cap', rfl, hcap', hcap2', hcell'⟩ := hu
  obtain ⟨s, cap'', rfl, hcap'', hcap2'', hcell''⟩ := ht
  clear hcell hcell' hcell'' hw
  have x0 := (HK.out.a _ (.tail _ (.tail _ (.head _)))).c0
  have x1 := (HK.out.a _ (.tail _ (.tail _ (.head _)))).c1
  have x2 := (HK.out.a _ (.tail _ (.tail _ (.head _)))).c2
  have x3 := (HK.out.a _ (.tail _ (.tail _ (.head _)))).c3
  have x4 := (HK.out.a _ (.tail _ (.tail _ (.head _)))).c4
  have y0 := (HK.out.a _ (.tail _ (.head _))).c0
  have y1 := (HK.out.a _ (.tail _ (.head _))).c1
  have y2 := (HK.out.a _ (.tail _ (.head _))).c2
  have y3 := (HK.out.a _ (.tail _ (.head _))).c3
  have y4 := (HK.out.a _ (.tail _ (.head _))).c4
  have z0 := (HK.out.a _ (.head _)).c0
  have z1 := (HK.out.a _ (.head _)).c1
  have z2 := (HK.out.a _ (.head _)).c2
  have z3 := (HK.out.a _ (.head _)).c3
  have z4 := (HK.out.a _ (.head _)).c4
  go_enter Tryd.func9, Tryd.ntmps9
  go_wp2_with (first
    | (go_at_call 11; (with_reducible refine (HF1.out _ (by with_unfolding_all exact HK.out.r _ (.tail _ (.tail _ (.head _))))).mono ?_); rintro e wz ⟨rfl, hb⟩; have HK2 := Lib.hid (HK.out.next hb); clear HK x0 x1 x2 x3 x4 y0 y1 y2 y3 y4 z0 z1 z2 z3 z4; have HK := HK2; clear HK2; clear hb; have x0 := (HK.out.a _ (.tail _ (.tail _ (.head _)))).c0; have x1 := (HK.out.a _ (.tail _ (.tail _ (.head _)))).c1; have x2 := (HK.out.a _ (.tail _ (.tail _ (.head _)))).c2; have x3 := (HK.out.a _ (.tail _ (.tail _ (.head _)))).c3; have x4 := (HK.out.a _ (.tail _ (.tail _ (.head _)))).c4; have y0 := (HK.out.a _ (.tail _ (.head _))).c0; have y1 := (HK.out.a _ (.tail _ (.head _))).c1; have y2 := (HK.out.a _ (.tail _ (.head _))).c2; have y3 := (HK.out.a _ (.tail _ (.head _))).c3; have y4 := (HK.out.a _ (.tail _ (.head _))).c4; have z0 := (HK.out.a _ (.head _)).c0; have z1 := (HK.out.a _ (.head _)).c1; have z2 := (HK.out.a _ (.head _)).c2; have z3 := (HK.out.a _ (.head _)).c3; have z4 := (HK.out.a _ (.head _)).c4)
    | (go_at_call 11; (with_reducible refine (HF2.out _ (by with_unfolding_all exact HK.out.r _ (.tail _ (.head _)))).mono ?_); rintro e wz ⟨rfl, hb⟩; have HK2 := Lib.hid (HK.out.next hb); clear HK x0 x1 x2 x3 x4 y0 y1 y2 y3 y4 z0 z1 z2 z3 z4; have HK := HK2; clear HK2; clear hb; have x0 := (HK.out.a _ (.tail _ (.tail _ (.head _)))).c0; have x1 := (HK.out.a _ (.tail _ (.tail _ (.head _)))).c1; have x2 := (HK.out.a _ (.tail _ (.tail _ (.head _)))).c2; have x3 := (HK.out.a _ (.tail _ (.tail _ (.head _)))).c3; have x4 := (HK.out.a _ (.tail _ (.tail _ (.head _)))).c4; have y0 := (HK.out.a _ (.tail _ (.head _))).c0; have y1 := (HK.out.a _ (.tail _ (.head _))).c1; have y2 := (HK.out.a _ (.tail _ (.head _))).c2; have y3 := (HK.out.a _ (.tail _ (.head _))).c3; have y4 := (HK.out.a _ (.tail _ (.head _))).c4; have z0 := (HK.out.a _ (.head _)).c0; have z1 := (HK.out.a _ (.head _)).c1; have z2 := (HK.out.a _ (.head _)).c2; have z3 := (HK.out.a _ (.head _)).c3; have z4 := (HK.out.a _ (.head _)).c4)
    | (go_at_call 11; (with_reducible refine (HF3.out _ (by with_unfolding_all exact HK.out.r _ (.head _))).mono ?_); rintro e wz ⟨rfl, hb⟩; have HK2 := Lib.hid (HK.out.next hb); clear HK x0 x1 x2 x3 x4 y0 y1 y2 y3 y4 z0 z1 z2 z3 z4; have HK := HK2; clear HK2; clear hb; have x0 := (HK.out.a _ (.tail _ (.tail _ (.head _)))).c0; have x1 := (HK.out.a _ (.tail _ (.tail _ (.head _)))).c1; have x2 := (HK.out.a _ (.tail _ (.tail _ (.head _)))).c2; have x3 := (HK.out.a _ (.tail _ (.tail _ (.head _)))).c3; have x4 := (HK.out.a _ (.tail _ (.tail _ (.head _)))).c4; have y0 := (HK.out.a _ (.tail _ (.head _))).c0; have y1 := (HK.out.a _ (.tail _ (.head _))).c1; have y2 := (HK.out.a _ (.tail _ (.head _))).c2; have y3 := (HK.out.a _ (.tail _ (.head _))).c3; have y4 := (HK.out.a _ (.tail _ (.head _))).c4; have z0 := (HK.out.a _ (.head _)).c0; have z1 := (HK.out.a _ (.head _)).c1; have z2 := (HK.out.a _ (.head _)).c2; have z3 := (HK.out.a _ (.head _)).c3; have z4 := (HK.out.a _ (.head _)).c4)
    | (go_at_call 36; (with_reducible refine (HC12.out _ _ _ (by with_unfolding_all exact HK.out.lay) (by with_unfolding_all exact HK.out.r _ (.tail _ (.tail _ (.head _)))) (by with_unfolding_all exact HK.out.r _ (.tail _ (.head _)))).mono ?_); rintro e wz ⟨rfl, hb⟩; have HK2 := Lib.hid (HK.out.next hb); clear HK x0 x1 x2 x3 x4 y0 y1 y2 y3 y4 z0 z1 z2 z3 z4; have HK := HK2; clear HK2; clear hb; have x0 := (HK.out.a _ (.tail _ (.tail _ (.head _)))).c0; have x1 := (HK.out.a _ (.tail _ (.tail _ (.head _)))).c1; have x2 := (HK.out.a _ (.tail _ (.tail _ (.head _)))).c2; have x3 := (HK.out.a _ (.tail _ (.tail _ (.head _)))).c3; have x4 := (HK.out.a _ (.tail _ (.tail _ (.head _)))).c4; have y0 := (HK.out.a _ (.tail _ (.head _))).c0; have y1 := (HK.out.a _ (.tail _ (.head _))).c1; have y2 := (HK.out.a _ (.tail _ (.head _))).c2; have y3 := (HK.out.a _ (.tail _ (.head _))).c3; have y4 := (HK.out.a _ (.tail _ (.head _))).c4; have z0 := (HK.out.a _ (.head _)).c0; have z1 := (HK.out.a _ (.head _)).c1; have z2 := (HK.out.a _ (.head _)).c2; have z3 := (HK.out.a _ (.head _)).c3; have z4 := (HK.out.a _ (.head _)).c4)
    | (go_at_call 36; (with_reducible refine (HC23.out _ _ _ (by with_unfolding_all exact HK.out.lay) (by with_unfolding_all exact HK.out.r _ (.tail _ (.head _))) (by with_unfolding_all exact HK.out.r _ (.head _))).mono ?_); rintro e wz ⟨rfl, hb⟩; have HK2 := Lib.hid (HK.out.next hb); clear HK x0 x1 x2 x3 x4 y0 y1 y2 y3 y4 z0 z1 z2 z3 z4; have HK := HK2; clear HK2; clear hb; have x0 := (HK.out.a _ (.tail _ (.tail _ (.head _)))).c0; have x1 := (HK.out.a _ (.tail _ (.tail _ (.head _)))).c1; have x2 := (HK.out.a _ (.tail _ (.tail _ (.head _)))).c2; have x3 := (HK.out.a _ (.tail _ (.tail _ (.head _)))).c3; have x4 := (HK.out.a _ (.tail _ (.tail _ (.head _)))).c4; have y0 := (HK.out.a _ (.tail _ (.head _))).c0; have y1 := (HK.out.a _ (.tail _ (.head _))).c1; have y2 := (HK.out.a _ (.tail _ (.head _))).c2; have y3 := (HK.out.a _ (.tail _ (.head _))).c3; have y4 := (HK.out.a _ (.tail _ (.head _))).c4; have z0 := (HK.out.a _ (.head _)).c0; have z1 := (HK.out.a _ (.head _)).c1; have z2 := (HK.out.a _ (.head _)).c2; have z3 := (HK.out.a _ (.head _)).c3; have z4 := (HK.out.a _ (.head _)).c4)
    | (go_at_call 36; (with_reducible refine (HC13.out _ _ _ (by with_unfolding_all exact HK.out.lay) (by with_unfolding_all exact HK.out.r _ (.tail _ (.tail _ (.head _)))) (by with_unfolding_all exact HK.out.r _ (.head _))).mono ?_); rintro e wz ⟨rfl, hb⟩; have HK2 := Lib.hid (HK.out.next hb); clear HK x0 x1 x2 x3 x4 y0 y1 y2 y3 y4 z0 z1 z2 z3 z4; have HK := HK2; clear HK2; clear hb; have x0 := (HK.out.a _ (.tail _ (.tail _ (.head _)))).c0; have x1 := (HK.out.a _ (.tail _ (.tail _ (.head _)))).c1; have x2 := (HK.out.a _ (.tail _ (.tail _ (.head _)))).c2; have x3 := (HK.out.a _ (.tail _ (.tail _ (.head _)))).c3; have x4 := (HK.out.a _ (.tail _ (.tail _ (.head _)))).c4; have y0 := (HK.out.a _ (.tail _ (.head _))).c0; have y1 := (HK.out.a _ (.tail _ (.head _))).c1; have y2 := (HK.out.a _ (.tail _ (.head _))).c2; have y3 := (HK.out.a _ (.tail _ (.head _))).c3; have y4 := (HK.out.a _ (.tail _ (.head _))).c4; have z0 := (HK.out.a _ (.head _)).c0; have z1 := (HK.out.a _ (.head _)).c1; have z2 := (HK.out.a _ (.head _)).c2; have z3 := (HK.out.a _ (.head _)).c3; have z4 := (HK.out.a _ (.head _)).c4)
    | (go_at_call 36; (with_reducible refine (HC21.out _ _ _ (by with_unfolding_all exact HK.out.lay) (by with_unfolding_all exact HK.out.r _ (.tail _ (.head _))) (by with_unfolding_all exact HK.out.r _ (.tail _ (.tail _ (.head _))))).mono ?_); rintro e wz ⟨rfl, hb⟩; have HK2 := Lib.hid (HK.out.next hb); clear HK x0 x1 x2 x3 x4 y0 y1 y2 y3 y4 z0 z1 z2 z3 z4; have HK := HK2; clear HK2; clear hb; have x0 := (HK.out.a _ (.tail _ (.tail _ (.head _)))).c0; have x1 := (HK.out.a _ (.tail _ (.tail _ (.head _)))).c1; have x2 := (HK.out.a _ (.tail _ (.tail _ (.head _)))).c2; have x3 := (HK.out.a _ (.tail _ (.tail _ (.head _)))).c3; have x4 := (HK.out.a _ (.tail _ (.tail _ (.head _)))).c4; have y0 := (HK.out.a _ (.tail _ (.head _))).c0; have y1 := (HK.out.a _ (.tail _ (.head _))).c1; have y2 := (HK.out.a _ (.tail _ (.head _))).c2; have y3 := (HK.out.a _ (.tail _ (.head _))).c3; have y4 := (HK.out.a _ (.tail _ (.head _))).c4; have z0 := (HK.out.a _ (.head _)).c0; have z1 := (HK.out.a _ (.head _)).c1; have z2 := (HK.out.a _ (.head _)).c2; have z3 := (HK.out.a _ (.head _)).c3; have z4 := (HK.out.a _ (.head _)).c4)
    | (go_at_call 38; (with_reducible refine (HSm.out _ _ _ (by with_unfolding_all exact HK.out.r _ (.tail _ (.tail _ (.head _)))) (by with_unfolding_all exact HK.out.r _ (.tail _ (.head _)))).mono ?_); rintro e wz ⟨rfl, hb⟩; have HK2 := Lib.hid (HK.out.next hb); clear HK x0 x1 x2 x3 x4 y0 y1 y2 y3 y4 z0 z1 z2 z3 z4; have HK := HK2; clear HK2; clear hb; have x0 := (HK.out.a _ (.tail _ (.tail _ (.head _)))).c0; have x1 := (HK.out.a _ (.tail _ (.tail _ (.head _)))).c1; have x2 := (HK.out.a _ (.tail _ (.tail _ (.head _)))).c2; have x3 := (HK.out.a _ (.tail _ (.tail _ (.head _)))).c3; have x4 := (HK.out.a _ (.tail _ (.tail _ (.head _)))).c4; have y0 := (HK.out.a _ (.tail _ (.head _))).c0; have y1 := (HK.out.a _ (.tail _ (.head _))).c1; have y2 := (HK.out.a _ (.tail _ (.head _))).c2; have y3 := (HK.out.a _ (.tail _ (.head _))).c3; have y4 := (HK.out.a _ (.tail _ (.head _))).c4; have z0 := (HK.out.a _ (.head _)).c0; have z1 := (HK.out.a _ (.head _)).c1; have z2 := (HK.out.a _ (.head _)).c2; have z3 := (HK.out.a _ (.head _)).c3; have z4 := (HK.out.a _ (.head _)).c4)
    | (go_at_call 39; (with_reducible refine (HLk.out _ _ _ (by with_unfolding_all exact HK.out.r _ (.tail _ (.tail _ (.head _)))) (by with_unfolding_all exact HK.out.r _ (.tail _ (.head _)))).mono ?_); rintro e wz ⟨rfl, hb⟩; have HK2 := Lib.hid (HK.out.next hb); clear HK x0 x1 x2 x3 x4 y0 y1 y2 y3 y4 z0 z1 z2 z3 z4; have HK := HK2; clear HK2; clear hb; have x0 := (HK.out.a _ (.tail _ (.tail _ (.head _)))).c0; have x1 := (HK.out.a _ (.tail _ (.tail _ (.head _)))).c1; have x2 := (HK.out.a _ (.tail _ (.tail _ (.head _)))).c2; have x3 := (HK.out.a _ (.tail _ (.tail _ (.head _)))).c3; have x4 := (HK.out.a _ (.tail _ (.tail _ (.head _)))).c4; have y0 := (HK.out.a _ (.tail _ (.head _))).c0; have y1 := (HK.out.a _ (.tail _ (.head _))).c1; have y2 := (HK.out.a _ (.tail _ (.head _))).c2; have y3 := (HK.out.a _ (.tail _ (.head _))).c3; have y4 := (HK.out.a _ (.tail _ (.head _))).c4; have z0 := (HK.out.a _ (.head _)).c0; have z1 := (HK.out.a _ (.head _)).c1; have z2 := (HK.out.a _ (.head _)).c2; have z3 := (HK.out.a _ (.head _)).c3; have z4 := (HK.out.a _ (.head _)).c4))
  have x3d : ∀ n, (wz.drewN n).cell? ⟨w.heap.size, 3, none⟩ = some (.int .i64 A.b) := fun n => x3
  have y3d : ∀ n, (wz.drewN n).cell? ⟨w.heap.size + 1, 3, none⟩ = some (.int .i64 B.b) := fun n => y3
  refine wp_loop_rounds 4 ?_
  rw [rounds_succ]
  go_wp2_with fail
  go_quiet (fail)
  go_wp2_with fail
  rw [rounds_succ]
  go_wp2_with fail
  go_quiet (fail)
  go_wp2_with fail
  rw [rounds_succ]
  go_wp2_with (go_at_call 12; refine (HAw.out _ (by with_unfolding_all first | exact HK.out.lay | exact (HK.out.next (drewN_below _ _)).lay)).mono ?_; rintro e wq ⟨rfl, hb⟩; have HB9 : Hid (Below w.heap.size w wq) := (by with_unfolding_all first | exact (HK.out.next hb).bel | exact ((HK.out.next (drewN_below _ _)).next hb).bel); clear hb)
  go_ret
  exact ⟨rfl, HB9.out⟩

set_option maxRecDepth 100000 in
set_option maxHeartbeats 8000000 in
theorem cmpLaw_N2_like (A B C : Ar) (v u t : Value) (w : World) (hw : Ru.Lay w) (hv : RdI w.heap.size w v A.z) (hu : RdI w.heap.size w u B.z) (ht : RdI w.heap.size w t C.z) (hf : A.z.length ≤ 500 ∧ B.z.length ≤ 500 ∧ C.z.length ≤ 500) (ga : Good A) (gb : Good B) (gc : Good C) (h1 : cmV A B = -1) (h2 : cmV B A = 1) (h3 : cmV B C ≤ 0) (h4 : cmV A C < 0) (hl : likeB A B = true) :
    Calls Tryd.prog 9 #[A5 A.k A.r A.a A.b v, A5 B.k B.r B.a B.b u, A5 C.k C.r C.a C.b t] w fun e w' => e = .returned (.bool true) ∧ Below w.heap.size w w' := by
  have HF1 := Lib.hid (fun W h => far_any A v W h)
  have HF2 := Lib.hid (fun W h => far_any B u W h)
  have HF3 := Lib.hid (fun W h => far_any C t W h)
  have HAw := Lib.hid (fun W h => awake_any W h)
  have HK := Lib.hid (start3 A B C v u t w hw hv hu ht)
  rw [decide_eq_false (by omega)] at HF1 HF2 HF3
  have HC12 := Lib.hid (fun v u W h0 h1 h2 => compare_any A B v u W h0 h1 h2 (by omega) (by omega))
  have HC23 := Lib.hid (fun v u W h0 h1 h2 => compare_any B C v u W h0 h1 h2 (by omega) (by omega))
  have HC13 := Lib.hid (fun v u W h0 h1 h2 => compare_any A C v u W h0 h1 h2 (by omega) (by omega))
  have HC21 := Lib.hid (fun v u W h0 h1 h2 => compare_any B A v u W h0 h1 h2 (by omega) (by omega))
  have HSm := Lib.hid (fun v u W h1 h2 => asame_any A B v u W h1 h2 (by omega))
  have HLk := Lib.hid (fun v u W h1 h2 => alike_any A B v u W h1 h2)
  obtain ⟨e12, v12⟩ := cp_ok ga gb
  obtain ⟨e23, v23⟩ := cp_ok gb gc
  obtain ⟨e13, v13⟩ := cp_ok ga gc
  obtain ⟨e21, v21⟩ := cp_ok gb ga
  rw [e12, v12] at HC12
  rw [e23, v23] at HC23
  rw [e13, v13] at HC13
  rw [e21, v21] at HC21
  clear e12 e23 e13 e21 v12 v23 v13 v21
  have hsm : smB A B = false := by
    cases h : smB A B
    · rfl
    · have := (cm_law ga gb gc).2.2.1.2 (smB_eq.1 h); omega
  rw [h1] at HC12
  rw [h2] at HC21
  rw [hsm] at HSm
  rw [hl] at HLk
  clear hf ga gb gc h1 h2 hsm hl
  generalize cmV B C = bc at HC23 h3
  generalize cmV A C = ac at HC13 h4
  have h4a : ¬ ac > 0 := by omega
  have h4b : ¬ 0 < ac := by omega
  have h4c : ¬ ac ≥ 0 := by omega
  have h4d : ¬ 0 ≤ ac := by omega
  clear h4
  obtain ⟨p, cap, rfl, hcap, hcap2, hcell⟩ := hv
  obtain ⟨q, cap', rfl, hcap', hcap2', hcell'⟩ := hu
  obtain ⟨s, cap'', rfl, hcap'', hcap2'', hcell''⟩ := ht
  clear hcell hcell' hcell'' hw
  have x0 := (HK.out.a _ (.tail _ (.tail _ (.head _)))).c0
  have x1 := (HK.out.a _ (.tail _ (.tail _ (.head _)))).c1
  have x2 := (HK.out.a _ (.tail _ (.tail _ (.head _)))).c2
  have x3 := (HK.out.a _ (.tail _ (.tail _ (.head _)))).c3
  have x4 := (HK.out.a _ (.tail _ (.tail _ (.head _)))).c4
  have y0 := (HK.out.a _ (.tail _ (.head _))).c0
  have y1 := (HK.out.a _ (.tail _ (.head _))).c1
  have y2 := (HK.out.a _ (.tail _ (.head _))).c2
  have y3 := (HK.out.a _ (.tail _ (.head _))).c3
  have y4 := (HK.out.a _ (.tail _ (.head _))).c4
  have z0 := (HK.out.a _ (.head _)).c0
  have z1 := (HK.out.a _ (.head _)).c1
  have z2 := (HK.out.a _ (.head _)).c2
  have z3 := (HK.out.a _ (.head _)).c3
  have z4 := (HK.out.a _ (.head _)).c4
  go_enter Tryd.func9, Tryd.ntmps9
  go_wp2_with (first
    | (go_at_call 11; (with_reducible refine (HF1.out _ (by with_unfolding_all exact HK.out.r _ (.tail _ (.tail _ (.head _))))).mono ?_); rintro e wz ⟨rfl, hb⟩; have HK2 := Lib.hid (HK.out.next hb); clear HK x0 x1 x2 x3 x4 y0 y1 y2 y3 y4 z0 z1 z2 z3 z4; have HK := HK2; clear HK2; clear hb; have x0 := (HK.out.a _ (.tail _ (.tail _ (.head _)))).c0; have x1 := (HK.out.a _ (.tail _ (.tail _ (.head _)))).c1; have x2 := (HK.out.a _ (.tail _ (.tail _ (.head _)))).c2; have x3 := (HK.out.a _ (.tail _ (.tail _ (.head _)))).c3; have x4 := (HK.out.a _ (.tail _ (.tail _ (.head _)))).c4; have y0 := (HK.out.a _ (.tail _ (.head _))).c0; have y1 := (HK.out.a _ (.tail _ (.head _))).c1; have y2 := (HK.out.a _ (.tail _ (.head _))).c2; have y3 := (HK.out.a _ (.tail _ (.head _))).c3; have y4 := (HK.out.a _ (.tail _ (.head _))).c4; have z0 := (HK.out.a _ (.head _)).c0; have z1 := (HK.out.a _ (.head _)).c1; have z2 := (HK.out.a _ (.head _)).c2; have z3 := (HK.out.a _ (.head _)).c3; have z4 := (HK.out.a _ (.head _)).c4)
    | (go_at_call 11; (with_reducible refine (HF2.out _ (by with_unfolding_all exact HK.out.r _ (.tail _ (.head _)))).mono ?_); rintro e wz ⟨rfl, hb⟩; have HK2 := Lib.hid (HK.out.next hb); clear HK x0 x1 x2 x3 x4 y0 y1 y2 y3 y4 z0 z1 z2 z3 z4; have HK := HK2; clear HK2; clear hb; have x0 := (HK.out.a _ (.tail _ (.tail _ (.head _)))).c0; have x1 := (HK.out.a _ (.tail _ (.tail _ (.head _)))).c1; have x2 := (HK.out.a _ (.tail _ (.tail _ (.head _)))).c2; have x3 := (HK.out.a _ (.tail _ (.tail _ (.head _)))).c3; have x4 := (HK.out.a _ (.tail _ (.tail _ (.head _)))).c4; have y0 := (HK.out.a _ (.tail _ (.head _))).c0; have y1 := (HK.out.a _ (.tail _ (.head _))).c1; have y2 := (HK.out.a _ (.tail _ (.head _))).c2; have y3 := (HK.out.a _ (.tail _ (.head _))).c3; have y4 := (HK.out.a _ (.tail _ (.head _))).c4; have z0 := (HK.out.a _ (.head _)).c0; have z1 := (HK.out.a _ (.head _)).c1; have z2 := (HK.out.a _ (.head _)).c2; have z3 := (HK.out.a _ (.head _)).c3; have z4 := (HK.out.a _ (.head _)).c4)
    | (go_at_call 11; (with_reducible refine (HF3.out _ (by with_unfolding_all exact HK.out.r _ (.head _))).mono ?_); rintro e wz ⟨rfl, hb⟩; have HK2 := Lib.hid (HK.out.next hb); clear HK x0 x1 x2 x3 x4 y0 y1 y2 y3 y4 z0 z1 z2 z3 z4; have HK := HK2; clear HK2; clear hb; have x0 := (HK.out.a _ (.tail _ (.tail _ (.head _)))).c0; have x1 := (HK.out.a _ (.tail _ (.tail _ (.head _)))).c1; have x2 := (HK.out.a _ (.tail _ (.tail _ (.head _)))).c2; have x3 := (HK.out.a _ (.tail _ (.tail _ (.head _)))).c3; have x4 := (HK.out.a _ (.tail _ (.tail _ (.head _)))).c4; have y0 := (HK.out.a _ (.tail _ (.head _))).c0; have y1 := (HK.out.a _ (.tail _ (.head _))).c1; have y2 := (HK.out.a _ (.tail _ (.head _))).c2; have y3 := (HK.out.a _ (.tail _ (.head _))).c3; have y4 := (HK.out.a _ (.tail _ (.head _))).c4; have z0 := (HK.out.a _ (.head _)).c0; have z1 := (HK.out.a _ (.head _)).c1; have z2 := (HK.out.a _ (.head _)).c2; have z3 := (HK.out.a _ (.head _)).c3; have z4 := (HK.out.a _ (.head _)).c4)
    | (go_at_call 36; (with_reducible refine (HC12.out _ _ _ (by with_unfolding_all exact HK.out.lay) (by with_unfolding_all exact HK.out.r _ (.tail _ (.tail _ (.head _)))) (by with_unfolding_all exact HK.out.r _ (.tail _ (.head _)))).mono ?_); rintro e wz ⟨rfl, hb⟩; have HK2 := Lib.hid (HK.out.next hb); clear HK x0 x1 x2 x3 x4 y0 y1 y2 y3 y4 z0 z1 z2 z3 z4; have HK := HK2; clear HK2; clear hb; have x0 := (HK.out.a _ (.tail _ (.tail _ (.head _)))).c0; have x1 := (HK.out.a _ (.tail _ (.tail _ (.head _)))).c1; have x2 := (HK.out.a _ (.tail _ (.tail _ (.head _)))).c2; have x3 := (HK.out.a _ (.tail _ (.tail _ (.head _)))).c3; have x4 := (HK.out.a _ (.tail _ (.tail _ (.head _)))).c4; have y0 := (HK.out.a _ (.tail _ (.head _))).c0; have y1 := (HK.out.a _ (.tail _ (.head _))).c1; have y2 := (HK.out.a _ (.tail _ (.head _))).c2; have y3 := (HK.out.a _ (.tail _ (.head _))).c3; have y4 := (HK.out.a _ (.tail _ (.head _))).c4; have z0 := (HK.out.a _ (.head _)).c0; have z1 := (HK.out.a _ (.head _)).c1; have z2 := (HK.out.a _ (.head _)).c2; have z3 := (HK.out.a _ (.head _)).c3; have z4 := (HK.out.a _ (.head _)).c4)
    | (go_at_call 36; (with_reducible refine (HC23.out _ _ _ (by with_unfolding_all exact HK.out.lay) (by with_unfolding_all exact HK.out.r _ (.tail _ (.head _))) (by with_unfolding_all exact HK.out.r _ (.head _))).mono ?_); rintro e wz ⟨rfl, hb⟩; have HK2 := Lib.hid (HK.out.next hb); clear HK x0 x1 x2 x3 x4 y0 y1 y2 y3 y4 z0 z1 z2 z3 z4; have HK := HK2; clear HK2; clear hb; have x0 := (HK.out.a _ (.tail _ (.tail _ (.head _)))).c0; have x1 := (HK.out.a _ (.tail _ (.tail _ (.head _)))).c1; have x2 := (HK.out.a _ (.tail _ (.tail _ (.head _)))).c2; have x3 := (HK.out.a _ (.tail _ (.tail _ (.head _)))).c3; have x4 := (HK.out.a _ (.tail _ (.tail _ (.head _)))).c4; have y0 := (HK.out.a _ (.tail _ (.head _))).c0; have y1 := (HK.out.a _ (.tail _ (.head _))).c1; have y2 := (HK.out.a _ (.tail _ (.head _))).c2; have y3 := (HK.out.a _ (.tail _ (.head _))).c3; have y4 := (HK.out.a _ (.tail _ (.head _))).c4; have z0 := (HK.out.a _ (.head _)).c0; have z1 := (HK.out.a _ (.head _)).c1; have z2 := (HK.out.a _ (.head _)).c2; have z3 := (HK.out.a _ (.head _)).c3; have z4 := (HK.out.a _ (.head _)).c4)
    | (go_at_call 36; (with_reducible refine (HC13.out _ _ _ (by with_unfolding_all exact HK.out.lay) (by with_unfolding_all exact HK.out.r _ (.tail _ (.tail _ (.head _)))) (by with_unfolding_all exact HK.out.r _ (.head _))).mono ?_); rintro e wz ⟨rfl, hb⟩; have HK2 := Lib.hid (HK.out.next hb); clear HK x0 x1 x2 x3 x4 y0 y1 y2 y3 y4 z0 z1 z2 z3 z4; have HK := HK2; clear HK2; clear hb; have x0 := (HK.out.a _ (.tail _ (.tail _ (.head _)))).c0; have x1 := (HK.out.a _ (.tail _ (.tail _ (.head _)))).c1; have x2 := (HK.out.a _ (.tail _ (.tail _ (.head _)))).c2; have x3 := (HK.out.a _ (.tail _ (.tail _ (.head _)))).c3; have x4 := (HK.out.a _ (.tail _ (.tail _ (.head _)))).c4; have y0 := (HK.out.a _ (.tail _ (.head _))).c0; have y1 := (HK.out.a _ (.tail _ (.head _))).c1; have y2 := (HK.out.a _ (.tail _ (.head _))).c2; have y3 := (HK.out.a _ (.tail _ (.head _))).c3; have y4 := (HK.out.a _ (.tail _ (.head _))).c4; have z0 := (HK.out.a _ (.head _)).c0; have z1 := (HK.out.a _ (.head _)).c1; have z2 := (HK.out.a _ (.head _)).c2; have z3 := (HK.out.a _ (.head _)).c3; have z4 := (HK.out.a _ (.head _)).c4)
    | (go_at_call 36; (with_reducible refine (HC21.out _ _ _ (by with_unfolding_all exact HK.out.lay) (by with_unfolding_all exact HK.out.r _ (.tail _ (.head _))) (by with_unfolding_all exact HK.out.r _ (.tail _ (.tail _ (.head _))))).mono ?_); rintro e wz ⟨rfl, hb⟩; have HK2 := Lib.hid (HK.out.next hb); clear HK x0 x1 x2 x3 x4 y0 y1 y2 y3 y4 z0 z1 z2 z3 z4; have HK := HK2; clear HK2; clear hb; have x0 := (HK.out.a _ (.tail _ (.tail _ (.head _)))).c0; have x1 := (HK.out.a _ (.tail _ (.tail _ (.head _)))).c1; have x2 := (HK.out.a _ (.tail _ (.tail _ (.head _)))).c2; have x3 := (HK.out.a _ (.tail _ (.tail _ (.head _)))).c3; have x4 := (HK.out.a _ (.tail _ (.tail _ (.head _)))).c4; have y0 := (HK.out.a _ (.tail _ (.head _))).c0; have y1 := (HK.out.a _ (.tail _ (.head _))).c1; have y2 := (HK.out.a _ (.tail _ (.head _))).c2; have y3 := (HK.out.a _ (.tail _ (.head _))).c3; have y4 := (HK.out.a _ (.tail _ (.head _))).c4; have z0 := (HK.out.a _ (.head _)).c0; have z1 := (HK.out.a _ (.head _)).c1; have z2 := (HK.out.a _ (.head _)).c2; have z3 := (HK.out.a _ (.head _)).c3; have z4 := (HK.out.a _ (.head _)).c4)
    | (go_at_call 38; (with_reducible refine (HSm.out _ _ _ (by with_unfolding_all exact HK.out.r _ (.tail _ (.tail _ (.head _)))) (by with_unfolding_all exact HK.out.r _ (.tail _ (.head _)))).mono ?_); rintro e wz ⟨rfl, hb⟩; have HK2 := Lib.hid (HK.out.next hb); clear HK x0 x1 x2 x3 x4 y0 y1 y2 y3 y4 z0 z1 z2 z3 z4; have HK := HK2; clear HK2; clear hb; have x0 := (HK.out.a _ (.tail _ (.tail _ (.head _)))).c0; have x1 := (HK.out.a _ (.tail _ (.tail _ (.head _)))).c1; have x2 := (HK.out.a _ (.tail _ (.tail _ (.head _)))).c2; have x3 := (HK.out.a _ (.tail _ (.tail _ (.head _)))).c3; have x4 := (HK.out.a _ (.tail _ (.tail _ (.head _)))).c4; have y0 := (HK.out.a _ (.tail _ (.head _))).c0; have y1 := (HK.out.a _ (.tail _ (.head _))).c1; have y2 := (HK.out.a _ (.tail _ (.head _))).c2; have y3 := (HK.out.a _ (.tail _ (.head _))).c3; have y4 := (HK.out.a _ (.tail _ (.head _))).c4; have z0 := (HK.out.a _ (.head _)).c0; have z1 := (HK.out.a _ (.head _)).c1; have z2 := (HK.out.a _ (.head _)).c2; have z3 := (HK.out.a _ (.head _)).c3; have z4 := (HK.out.a _ (.head _)).c4)
    | (go_at_call 39; (with_reducible refine (HLk.out _ _ _ (by with_unfolding_all exact HK.out.r _ (.tail _ (.tail _ (.head _)))) (by with_unfolding_all exact HK.out.r _ (.tail _ (.head _)))).mono ?_); rintro e wz ⟨rfl, hb⟩; have HK2 := Lib.hid (HK.out.next hb); clear HK x0 x1 x2 x3 x4 y0 y1 y2 y3 y4 z0 z1 z2 z3 z4; have HK := HK2; clear HK2; clear hb; have x0 := (HK.out.a _ (.tail _ (.tail _ (.head _)))).c0; have x1 := (HK.out.a _ (.tail _ (.tail _ (.head _)))).c1; have x2 := (HK.out.a _ (.tail _ (.tail _ (.head _)))).c2; have x3 := (HK.out.a _ (.tail _ (.tail _ (.head _)))).c3; have x4 := (HK.out.a _ (.tail _ (.tail _ (.head _)))).c4; have y0 := (HK.out.a _ (.tail _ (.head _))).c0; have y1 := (HK.out.a _ (.tail _ (.head _))).c1; have y2 := (HK.out.a _ (.tail _ (.head _))).c2; have y3 := (HK.out.a _ (.tail _ (.head _))).c3; have y4 := (HK.out.a _ (.tail _ (.head _))).c4; have z0 := (HK.out.a _ (.head _)).c0; have z1 := (HK.out.a _ (.head _)).c1; have z2 := (HK.out.a _ (.head _)).c2; have z3 := (HK.out.a _ (.head _)).c3; have z4 := (HK.out.a _ (.head _)).c4)
    | (go_at_call 12; (with_reducible refine (HAw.out _ HK.out.lay).mono ?_); rintro e wz ⟨rfl, hb⟩; have HK2 := Lib.hid (HK.out.next hb); clear HK x0 x1 x2 x3 x4 y0 y1 y2 y3 y4 z0 z1 z2 z3 z4; have HK := HK2; clear HK2; clear hb; have x0 := (HK.out.a _ (.tail _ (.tail _ (.head _)))).c0; have x1 := (HK.out.a _ (.tail _ (.tail _ (.head _)))).c1; have x2 := (HK.out.a _ (.tail _ (.tail _ (.head _)))).c2; have x3 := (HK.out.a _ (.tail _ (.tail _ (.head _)))).c3; have x4 := (HK.out.a _ (.tail _ (.tail _ (.head _)))).c4; have y0 := (HK.out.a _ (.tail _ (.head _))).c0; have y1 := (HK.out.a _ (.tail _ (.head _))).c1; have y2 := (HK.out.a _ (.tail _ (.head _))).c2; have y3 := (HK.out.a _ (.tail _ (.head _))).c3; have y4 := (HK.out.a _ (.tail _ (.head _))).c4; have z0 := (HK.out.a _ (.head _)).c0; have z1 := (HK.out.a _ (.head _)).c1; have z2 := (HK.out.a _ (.head _)).c2; have z3 := (HK.out.a _ (.head _)).c3; have z4 := (HK.out.a _ (.head _)).c4))
  go_ret
  exact ⟨rfl, HK.out.bel⟩

set_option maxRecDepth 100000 in
set_option maxHeartbeats 8000000 in
theorem cmpLaw_N2_k (A B C : Ar) (v u t : Value) (w : World) (hw : Ru.Lay w) (hv : RdI w.heap.size w v A.z) (hu : RdI w.heap.size w u B.z) (ht : RdI w.heap.size w t C.z) (hf : A.z.length ≤ 500 ∧ B.z.length ≤ 500 ∧ C.z.length ≤ 500) (ga : Good A) (gb : Good B) (gc : Good C) (h1 : cmV A B = -1) (h2 : cmV B A = 1) (h3 : cmV B C ≤ 0) (h4 : cmV A C < 0) (hl : likeB A B = false) (hd : A.k ≠ B.k) :
    Calls Tryd.prog 9 #[A5 A.k A.r A.a A.b v, A5 B.k B.r B.a B.b u, A5 C.k C.r C.a C.b t] w fun e w' => e = .returned (.bool true) ∧ Below w.heap.size w w' := by
  have HF1 := Lib.hid (fun W h => far_any A v W h)
  have HF2 := Lib.hid (fun W h => far_any B u W h)
  have HF3 := Lib.hid (fun W h => far_any C t W h)
  have HAw := Lib.hid (fun W h => awake_any W h)
  have HK := Lib.hid (start3 A B C v u t w hw hv hu ht)
  rw [decide_eq_false (by omega)] at HF1 HF2 HF3
  have HC12 := Lib.hid (fun v u W h0 h1 h2 => compare_any A B v u W h0 h1 h2 (by omega) (by omega))
  have HC23 := Lib.hid (fun v u W h0 h1 h2 => compare_any B C v u W h0 h1 h2 (by omega) (by omega))
  have HC13 := Lib.hid (fun v u W h0 h1 h2 => compare_any A C v u W h0 h1 h2 (by omega) (by omega))
  have HC21 := Lib.hid (fun v u W h0 h1 h2 => compare_any B A v u W h0 h1 h2 (by omega) (by omega))
  have HSm := Lib.hid (fun v u W h1 h2 => asame_any A B v u W h1 h2 (by omega))
  have HLk := Lib.hid (fun v u W h1 h2 => alike_any A B v u W h1 h2)
  obtain ⟨e12, v12⟩ := cp_ok ga gb
  obtain ⟨e23, v23⟩ := cp_ok gb gc
  obtain ⟨e13, v13⟩ := cp_ok ga gc
  obtain ⟨e21, v21⟩ := cp_ok gb ga
  rw [e12, v12] at HC12
  rw [e23, v23] at HC23
  rw [e13, v13] at HC13
  rw [e21, v21] at HC21
  clear e12 e23 e13 e21 v12 v23 v13 v21
  have hsm : smB A B = false := by
    cases h : smB A B
    · rfl
    · have := (cm_law ga gb gc).2.2.1.2 (smB_eq.1 h); omega
  rw [h1] at HC12
  rw [h2] at HC21
  rw [hsm] at HSm
  rw [hl] at HLk
  have hsg := cm_sign hd
  rw [← cm_k hd] at hsg
  rw [h1] at hsg
  have hs0 : A.k - B.k < 0 := by omega
  have hwk : IntKind.i64.wrap (A.k - B.k) = A.k - B.k := wrap_d (by rcases ga.kind with e | e <;> omega) (by rcases ga.kind with e | e <;> omega) (by rcases gb.kind with e | e <;> omega) (by rcases gb.kind with e | e <;> omega)
  have hne : ((A.k - B.k) == 0) = false := by rw [beq_eq_false_iff_ne]; omega
  clear hsg hd
  clear hf ga gb gc h1 h2 hsm hl
  generalize cmV B C = bc at HC23 h3
  generalize cmV A C = ac at HC13 h4
  have h4a : ¬ ac > 0 := by omega
  have h4b : ¬ 0 < ac := by omega
  have h4c : ¬ ac ≥ 0 := by omega
  have h4d : ¬ 0 ≤ ac := by omega
  clear h4
  obtain ⟨p, cap, rfl, hcap, hcap2, hcell⟩ := hv
  obtain ⟨q, cap', rfl, hcap', hcap2', hcell'⟩ := hu
  obtain ⟨s, cap'', rfl, hcap'', hcap2'', hcell''⟩ := ht
  clear hcell hcell' hcell'' hw
  have x0 := (HK.out.a _ (.tail _ (.tail _ (.head _)))).c0
  have x1 := (HK.out.a _ (.tail _ (.tail _ (.head _)))).c1
  have x2 := (HK.out.a _ (.tail _ (.tail _ (.head _)))).c2
  have x3 := (HK.out.a _ (.tail _ (.tail _ (.head _)))).c3
  have x4 := (HK.out.a _ (.tail _ (.tail _ (.head _)))).c4
  have y0 := (HK.out.a _ (.tail _ (.head _))).c0
  have y1 := (HK.out.a _ (.tail _ (.head _))).c1
  have y2 := (HK.out.a _ (.tail _ (.head _))).c2
  have y3 := (HK.out.a _ (.tail _ (.head _))).c3
  have y4 := (HK.out.a _ (.tail _ (.head _))).c4
  have z0 := (HK.out.a _ (.head _)).c0
  have z1 := (HK.out.a _ (.head _)).c1
  have z2 := (HK.out.a _ (.head _)).c2
  have z3 := (HK.out.a _ (.head _)).c3
  have z4 := (HK.out.a _ (.head _)).c4
  go_enter Tryd.func9, Tryd.ntmps9
  go_wp2_with (first
    | (go_at_call 11; (with_reducible refine (HF1.out _ (by with_unfolding_all exact HK.out.r _ (.tail _ (.tail _ (.head _))))).mono ?_); rintro e wz ⟨rfl, hb⟩; have HK2 := Lib.hid (HK.out.next hb); clear HK x0 x1 x2 x3 x4 y0 y1 y2 y3 y4 z0 z1 z2 z3 z4; have HK := HK2; clear HK2; clear hb; have x0 := (HK.out.a _ (.tail _ (.tail _ (.head _)))).c0; have x1 := (HK.out.a _ (.tail _ (.tail _ (.head _)))).c1; have x2 := (HK.out.a _ (.tail _ (.tail _ (.head _)))).c2; have x3 := (HK.out.a _ (.tail _ (.tail _ (.head _)))).c3; have x4 := (HK.out.a _ (.tail _ (.tail _ (.head _)))).c4; have y0 := (HK.out.a _ (.tail _ (.head _))).c0; have y1 := (HK.out.a _ (.tail _ (.head _))).c1; have y2 := (HK.out.a _ (.tail _ (.head _))).c2; have y3 := (HK.out.a _ (.tail _ (.head _))).c3; have y4 := (HK.out.a _ (.tail _ (.head _))).c4; have z0 := (HK.out.a _ (.head _)).c0; have z1 := (HK.out.a _ (.head _)).c1; have z2 := (HK.out.a _ (.head _)).c2; have z3 := (HK.out.a _ (.head _)).c3; have z4 := (HK.out.a _ (.head _)).c4)
    | (go_at_call 11; (with_reducible refine (HF2.out _ (by with_unfolding_all exact HK.out.r _ (.tail _ (.head _)))).mono ?_); rintro e wz ⟨rfl, hb⟩; have HK2 := Lib.hid (HK.out.next hb); clear HK x0 x1 x2 x3 x4 y0 y1 y2 y3 y4 z0 z1 z2 z3 z4; have HK := HK2; clear HK2; clear hb; have x0 := (HK.out.a _ (.tail _ (.tail _ (.head _)))).c0; have x1 := (HK.out.a _ (.tail _ (.tail _ (.head _)))).c1; have x2 := (HK.out.a _ (.tail _ (.tail _ (.head _)))).c2; have x3 := (HK.out.a _ (.tail _ (.tail _ (.head _)))).c3; have x4 := (HK.out.a _ (.tail _ (.tail _ (.head _)))).c4; have y0 := (HK.out.a _ (.tail _ (.head _))).c0; have y1 := (HK.out.a _ (.tail _ (.head _))).c1; have y2 := (HK.out.a _ (.tail _ (.head _))).c2; have y3 := (HK.out.a _ (.tail _ (.head _))).c3; have y4 := (HK.out.a _ (.tail _ (.head _))).c4; have z0 := (HK.out.a _ (.head _)).c0; have z1 := (HK.out.a _ (.head _)).c1; have z2 := (HK.out.a _ (.head _)).c2; have z3 := (HK.out.a _ (.head _)).c3; have z4 := (HK.out.a _ (.head _)).c4)
    | (go_at_call 11; (with_reducible refine (HF3.out _ (by with_unfolding_all exact HK.out.r _ (.head _))).mono ?_); rintro e wz ⟨rfl, hb⟩; have HK2 := Lib.hid (HK.out.next hb); clear HK x0 x1 x2 x3 x4 y0 y1 y2 y3 y4 z0 z1 z2 z3 z4; have HK := HK2; clear HK2; clear hb; have x0 := (HK.out.a _ (.tail _ (.tail _ (.head _)))).c0; have x1 := (HK.out.a _ (.tail _ (.tail _ (.head _)))).c1; have x2 := (HK.out.a _ (.tail _ (.tail _ (.head _)))).c2; have x3 := (HK.out.a _ (.tail _ (.tail _ (.head _)))).c3; have x4 := (HK.out.a _ (.tail _ (.tail _ (.head _)))).c4; have y0 := (HK.out.a _ (.tail _ (.head _))).c0; have y1 := (HK.out.a _ (.tail _ (.head _))).c1; have y2 := (HK.out.a _ (.tail _ (.head _))).c2; have y3 := (HK.out.a _ (.tail _ (.head _))).c3; have y4 := (HK.out.a _ (.tail _ (.head _))).c4; have z0 := (HK.out.a _ (.head _)).c0; have z1 := (HK.out.a _ (.head _)).c1; have z2 := (HK.out.a _ (.head _)).c2; have z3 := (HK.out.a _ (.head _)).c3; have z4 := (HK.out.a _ (.head _)).c4)
    | (go_at_call 36; (with_reducible refine (HC12.out _ _ _ (by with_unfolding_all exact HK.out.lay) (by with_unfolding_all exact HK.out.r _ (.tail _ (.tail _ (.head _)))) (by with_unfolding_all exact HK.out.r _ (.tail _ (.head _)))).mono ?_); rintro e wz ⟨rfl, hb⟩; have HK2 := Lib.hid (HK.out.next hb); clear HK x0 x1 x2 x3 x4 y0 y1 y2 y3 y4 z0 z1 z2 z3 z4; have HK := HK2; clear HK2; clear hb; have x0 := (HK.out.a _ (.tail _ (.tail _ (.head _)))).c0; have x1 := (HK.out.a _ (.tail _ (.tail _ (.head _)))).c1; have x2 := (HK.out.a _ (.tail _ (.tail _ (.head _)))).c2; have x3 := (HK.out.a _ (.tail _ (.tail _ (.head _)))).c3; have x4 := (HK.out.a _ (.tail _ (.tail _ (.head _)))).c4; have y0 := (HK.out.a _ (.tail _ (.head _))).c0; have y1 := (HK.out.a _ (.tail _ (.head _))).c1; have y2 := (HK.out.a _ (.tail _ (.head _))).c2; have y3 := (HK.out.a _ (.tail _ (.head _))).c3; have y4 := (HK.out.a _ (.tail _ (.head _))).c4; have z0 := (HK.out.a _ (.head _)).c0; have z1 := (HK.out.a _ (.head _)).c1; have z2 := (HK.out.a _ (.head _)).c2; have z3 := (HK.out.a _ (.head _)).c3; have z4 := (HK.out.a _ (.head _)).c4)
    | (go_at_call 36; (with_reducible refine (HC23.out _ _ _ (by with_unfolding_all exact HK.out.lay) (by with_unfolding_all exact HK.out.r _ (.tail _ (.head _))) (by with_unfolding_all exact HK.out.r _ (.head _))).mono ?_); rintro e wz ⟨rfl, hb⟩; have HK2 := Lib.hid (HK.out.next hb); clear HK x0 x1 x2 x3 x4 y0 y1 y2 y3 y4 z0 z1 z2 z3 z4; have HK := HK2; clear HK2; clear hb; have x0 := (HK.out.a _ (.tail _ (.tail _ (.head _)))).c0; have x1 := (HK.out.a _ (.tail _ (.tail _ (.head _)))).c1; have x2 := (HK.out.a _ (.tail _ (.tail _ (.head _)))).c2; have x3 := (HK.out.a _ (.tail _ (.tail _ (.head _)))).c3; have x4 := (HK.out.a _ (.tail _ (.tail _ (.head _)))).c4; have y0 := (HK.out.a _ (.tail _ (.head _))).c0; have y1 := (HK.out.a _ (.tail _ (.head _))).c1; have y2 := (HK.out.a _ (.tail _ (.head _))).c2; have y3 := (HK.out.a _ (.tail _ (.head _))).c3; have y4 := (HK.out.a _ (.tail _ (.head _))).c4; have z0 := (HK.out.a _ (.head _)).c0; have z1 := (HK.out.a _ (.head _)).c1; have z2 := (HK.out.a _ (.head _)).c2; have z3 := (HK.out.a _ (.head _)).c3; have z4 := (HK.out.a _ (.head _)).c4)
    | (go_at_call 36; (with_reducible refine (HC13.out _ _ _ (by with_unfolding_all exact HK.out.lay) (by with_unfolding_all exact HK.out.r _ (.tail _ (.tail _ (.head _)))) (by with_unfolding_all exact HK.out.r _ (.head _))).mono ?_); rintro e wz ⟨rfl, hb⟩; have HK2 := Lib.hid (HK.out.next hb); clear HK x0 x1 x2 x3 x4 y0 y1 y2 y3 y4 z0 z1 z2 z3 z4; have HK := HK2; clear HK2; clear hb; have x0 := (HK.out.a _ (.tail _ (.tail _ (.head _)))).c0; have x1 := (HK.out.a _ (.tail _ (.tail _ (.head _)))).c1; have x2 := (HK.out.a _ (.tail _ (.tail _ (.head _)))).c2; have x3 := (HK.out.a _ (.tail _ (.tail _ (.head _)))).c3; have x4 := (HK.out.a _ (.tail _ (.tail _ (.head _)))).c4; have y0 := (HK.out.a _ (.tail _ (.head _))).c0; have y1 := (HK.out.a _ (.tail _ (.head _))).c1; have y2 := (HK.out.a _ (.tail _ (.head _))).c2; have y3 := (HK.out.a _ (.tail _ (.head _))).c3; have y4 := (HK.out.a _ (.tail _ (.head _))).c4; have z0 := (HK.out.a _ (.head _)).c0; have z1 := (HK.out.a _ (.head _)).c1; have z2 := (HK.out.a _ (.head _)).c2; have z3 := (HK.out.a _ (.head _)).c3; have z4 := (HK.out.a _ (.head _)).c4)
    | (go_at_call 36; (with_reducible refine (HC21.out _ _ _ (by with_unfolding_all exact HK.out.lay) (by with_unfolding_all exact HK.out.r _ (.tail _ (.head _))) (by with_unfolding_all exact HK.out.r _ (.tail _ (.tail _ (.head _))))).mono ?_); rintro e wz ⟨rfl, hb⟩; have HK2 := Lib.hid (HK.out.next hb); clear HK x0 x1 x2 x3 x4 y0 y1 y2 y3 y4 z0 z1 z2 z3 z4; have HK := HK2; clear HK2; clear hb; have x0 := (HK.out.a _ (.tail _ (.tail _ (.head _)))).c0; have x1 := (HK.out.a _ (.tail _ (.tail _ (.head _)))).c1; have x2 := (HK.out.a _ (.tail _ (.tail _ (.head _)))).c2; have x3 := (HK.out.a _ (.tail _ (.tail _ (.head _)))).c3; have x4 := (HK.out.a _ (.tail _ (.tail _ (.head _)))).c4; have y0 := (HK.out.a _ (.tail _ (.head _))).c0; have y1 := (HK.out.a _ (.tail _ (.head _))).c1; have y2 := (HK.out.a _ (.tail _ (.head _))).c2; have y3 := (HK.out.a _ (.tail _ (.head _))).c3; have y4 := (HK.out.a _ (.tail _ (.head _))).c4; have z0 := (HK.out.a _ (.head _)).c0; have z1 := (HK.out.a _ (.head _)).c1; have z2 := (HK.out.a _ (.head _)).c2; have z3 := (HK.out.a _ (.head _)).c3; have z4 := (HK.out.a _ (.head _)).c4)
    | (go_at_call 38; (with_reducible refine (HSm.out _ _ _ (by with_unfolding_all exact HK.out.r _ (.tail _ (.tail _ (.head _)))) (by with_unfolding_all exact HK.out.r _ (.tail _ (.head _)))).mono ?_); rintro e wz ⟨rfl, hb⟩; have HK2 := Lib.hid (HK.out.next hb); clear HK x0 x1 x2 x3 x4 y0 y1 y2 y3 y4 z0 z1 z2 z3 z4; have HK := HK2; clear HK2; clear hb; have x0 := (HK.out.a _ (.tail _ (.tail _ (.head _)))).c0; have x1 := (HK.out.a _ (.tail _ (.tail _ (.head _)))).c1; have x2 := (HK.out.a _ (.tail _ (.tail _ (.head _)))).c2; have x3 := (HK.out.a _ (.tail _ (.tail _ (.head _)))).c3; have x4 := (HK.out.a _ (.tail _ (.tail _ (.head _)))).c4; have y0 := (HK.out.a _ (.tail _ (.head _))).c0; have y1 := (HK.out.a _ (.tail _ (.head _))).c1; have y2 := (HK.out.a _ (.tail _ (.head _))).c2; have y3 := (HK.out.a _ (.tail _ (.head _))).c3; have y4 := (HK.out.a _ (.tail _ (.head _))).c4; have z0 := (HK.out.a _ (.head _)).c0; have z1 := (HK.out.a _ (.head _)).c1; have z2 := (HK.out.a _ (.head _)).c2; have z3 := (HK.out.a _ (.head _)).c3; have z4 := (HK.out.a _ (.head _)).c4)
    | (go_at_call 39; (with_reducible refine (HLk.out _ _ _ (by with_unfolding_all exact HK.out.r _ (.tail _ (.tail _ (.head _)))) (by with_unfolding_all exact HK.out.r _ (.tail _ (.head _)))).mono ?_); rintro e wz ⟨rfl, hb⟩; have HK2 := Lib.hid (HK.out.next hb); clear HK x0 x1 x2 x3 x4 y0 y1 y2 y3 y4 z0 z1 z2 z3 z4; have HK := HK2; clear HK2; clear hb; have x0 := (HK.out.a _ (.tail _ (.tail _ (.head _)))).c0; have x1 := (HK.out.a _ (.tail _ (.tail _ (.head _)))).c1; have x2 := (HK.out.a _ (.tail _ (.tail _ (.head _)))).c2; have x3 := (HK.out.a _ (.tail _ (.tail _ (.head _)))).c3; have x4 := (HK.out.a _ (.tail _ (.tail _ (.head _)))).c4; have y0 := (HK.out.a _ (.tail _ (.head _))).c0; have y1 := (HK.out.a _ (.tail _ (.head _))).c1; have y2 := (HK.out.a _ (.tail _ (.head _))).c2; have y3 := (HK.out.a _ (.tail _ (.head _))).c3; have y4 := (HK.out.a _ (.tail _ (.head _))).c4; have z0 := (HK.out.a _ (.head _)).c0; have z1 := (HK.out.a _ (.head _)).c1; have z2 := (HK.out.a _ (.head _)).c2; have z3 := (HK.out.a _ (.head _)).c3; have z4 := (HK.out.a _ (.head _)).c4))
  refine wp_loop_rounds 4 ?_
  rw [rounds_succ]
  go_wp2_with (go_at_call 12; refine (HAw.out _ (by with_unfolding_all first | exact HK.out.lay | exact (HK.out.next (drewN_below _ _)).lay)).mono ?_; rintro e wq ⟨rfl, hb⟩; have HB9 : Hid (Below w.heap.size w wq) := (by with_unfolding_all first | exact (HK.out.next hb).bel | exact ((HK.out.next (drewN_below _ _)).next hb).bel); clear hb)
  go_ret
  exact ⟨rfl, HB9.out⟩

set_option maxRecDepth 100000 in
set_option maxHeartbeats 8000000 in
theorem cmpLaw_N2_r (A B C : Ar) (v u t : Value) (w : World) (hw : Ru.Lay w) (hv : RdI w.heap.size w v A.z) (hu : RdI w.heap.size w u B.z) (ht : RdI w.heap.size w t C.z) (hf : A.z.length ≤ 500 ∧ B.z.length ≤ 500 ∧ C.z.length ≤ 500) (ga : Good A) (gb : Good B) (gc : Good C) (h1 : cmV A B = -1) (h2 : cmV B A = 1) (h3 : cmV B C ≤ 0) (h4 : cmV A C < 0) (hl : likeB A B = false) (h5 : A.k = B.k) (hd : A.r ≠ B.r) :
    Calls Tryd.prog 9 #[A5 A.k A.r A.a A.b v, A5 B.k B.r B.a B.b u, A5 C.k C.r C.a C.b t] w fun e w' => e = .returned (.bool true) ∧ Below w.heap.size w w' := by
  have HF1 := Lib.hid (fun W h => far_any A v W h)
  have HF2 := Lib.hid (fun W h => far_any B u W h)
  have HF3 := Lib.hid (fun W h => far_any C t W h)
  have HAw := Lib.hid (fun W h => awake_any W h)
  have HK := Lib.hid (start3 A B C v u t w hw hv hu ht)
  rw [decide_eq_false (by omega)] at HF1 HF2 HF3
  have HC12 := Lib.hid (fun v u W h0 h1 h2 => compare_any A B v u W h0 h1 h2 (by omega) (by omega))
  have HC23 := Lib.hid (fun v u W h0 h1 h2 => compare_any B C v u W h0 h1 h2 (by omega) (by omega))
  have HC13 := Lib.hid (fun v u W h0 h1 h2 => compare_any A C v u W h0 h1 h2 (by omega) (by omega))
  have HC21 := Lib.hid (fun v u W h0 h1 h2 => compare_any B A v u W h0 h1 h2 (by omega) (by omega))
  have HSm := Lib.hid (fun v u W h1 h2 => asame_any A B v u W h1 h2 (by omega))
  have HLk := Lib.hid (fun v u W h1 h2 => alike_any A B v u W h1 h2)
  obtain ⟨e12, v12⟩ := cp_ok ga gb
  obtain ⟨e23, v23⟩ := cp_ok gb gc
  obtain ⟨e13, v13⟩ := cp_ok ga gc
  obtain ⟨e21, v21⟩ := cp_ok gb ga
  rw [e12, v12] at HC12
  rw [e23, v23] at HC23
  rw [e13, v13] at HC13
  rw [e21, v21] at HC21
  clear e12 e23 e13 e21 v12 v23 v13 v21
  have hsm : smB A B = false := by
    cases h : smB A B
    · rfl
    · have := (cm_law ga gb gc).2.2.1.2 (smB_eq.1 h); omega
  rw [h1] at HC12
  rw [h2] at HC21
  rw [hsm] at HSm
  rw [hl] at HLk
  have hsg := cm_sign hd
  rw [← cm_r h5 hd] at hsg
  rw [h1] at hsg
  have hs0 : A.r - B.r < 0 := by omega
  have hwk : IntKind.i64.wrap (A.k - B.k) = 0 := by rw [h5, Int.sub_self]; rfl
  have hwr : IntKind.i64.wrap (A.r - B.r) = A.r - B.r := wrap_d (by have := ga.sh.bd; omega) (by have := ga.sh.bd; omega) (by have := gb.sh.bd; omega) (by have := gb.sh.bd; omega)
  have hne : ((A.r - B.r) == 0) = false := by rw [beq_eq_false_iff_ne]; omega
  clear hsg hd h5
  clear hf ga gb gc h1 h2 hsm hl
  generalize cmV B C = bc at HC23 h3
  generalize cmV A C = ac at HC13 h4
  have h4a : ¬ ac > 0 := by omega
  have h4b : ¬ 0 < ac := by omega
  have h4c : ¬ ac ≥ 0 := by omega
  have h4d : ¬ 0 ≤ ac := by omega
  clear h4
  obtain ⟨p, cap, rfl, hcap, hcap2, hcell⟩ := hv
  obtain ⟨q, cap', rfl, hcap', hcap2', hcell'⟩ := hu
  obtain ⟨s, cap'', rfl, hcap'', hcap2'', hcell''⟩ := ht
  clear hcell hcell' hcell'' hw
  have x0 := (HK.out.a _ (.tail _ (.tail _ (.head _)))).c0
  have x1 := (HK.out.a _ (.tail _ (.tail _ (.head _)))).c1
  have x2 := (HK.out.a _ (.tail _ (.tail _ (.head _)))).c2
  have x3 := (HK.out.a _ (.tail _ (.tail _ (.head _)))).c3
  have x4 := (HK.out.a _ (.tail _ (.tail _ (.head _)))).c4
  have y0 := (HK.out.a _ (.tail _ (.head _))).c0
  have y1 := (HK.out.a _ (.tail _ (.head _))).c1
  have y2 := (HK.out.a _ (.tail _ (.head _))).c2
  have y3 := (HK.out.a _ (.tail _ (.head _))).c3
  have y4 := (HK.out.a _ (.tail _ (.head _))).c4
  have z0 := (HK.out.a _ (.head _)).c0
  have z1 := (HK.out.a _ (.head _)).c1
  have z2 := (HK.out.a _ (.head _)).c2
  have z3 := (HK.out.a _ (.head _)).c3
  have z4 := (HK.out.a _ (.head _)).c4
  go_enter Tryd.func9, Tryd.ntmps9
  go_wp2_with (first
    | (go_at_call 11; (with_reducible refine (HF1.out _ (by with_unfolding_all exact HK.out.r _ (.tail _ (.tail _ (.head _))))).mono ?_); rintro e wz ⟨rfl, hb⟩; have HK2 := Lib.hid (HK.out.next hb); clear HK x0 x1 x2 x3 x4 y0 y1 y2 y3 y4 z0 z1 z2 z3 z4; have HK := HK2; clear HK2; clear hb; have x0 := (HK.out.a _ (.tail _ (.tail _ (.head _)))).c0; have x1 := (HK.out.a _ (.tail _ (.tail _ (.head _)))).c1; have x2 := (HK.out.a _ (.tail _ (.tail _ (.head _)))).c2; have x3 := (HK.out.a _ (.tail _ (.tail _ (.head _)))).c3; have x4 := (HK.out.a _ (.tail _ (.tail _ (.head _)))).c4; have y0 := (HK.out.a _ (.tail _ (.head _))).c0; have y1 := (HK.out.a _ (.tail _ (.head _))).c1; have y2 := (HK.out.a _ (.tail _ (.head _))).c2; have y3 := (HK.out.a _ (.tail _ (.head _))).c3; have y4 := (HK.out.a _ (.tail _ (.head _))).c4; have z0 := (HK.out.a _ (.head _)).c0; have z1 := (HK.out.a _ (.head _)).c1; have z2 := (HK.out.a _ (.head _)).c2; have z3 := (HK.out.a _ (.head _)).c3; have z4 := (HK.out.a _ (.head _)).c4)
    | (go_at_call 11; (with_reducible refine (HF2.out _ (by with_unfolding_all exact HK.out.r _ (.tail _ (.head _)))).mono ?_); rintro e wz ⟨rfl, hb⟩; have HK2 := Lib.hid (HK.out.next hb); clear HK x0 x1 x2 x3 x4 y0 y1 y2 y3 y4 z0 z1 z2 z3 z4; have HK := HK2; clear HK2; clear hb; have x0 := (HK.out.a _ (.tail _ (.tail _ (.head _)))).c0; have x1 := (HK.out.a _ (.tail _ (.tail _ (.head _)))).c1; have x2 := (HK.out.a _ (.tail _ (.tail _ (.head _)))).c2; have x3 := (HK.out.a _ (.tail _ (.tail _ (.head _)))).c3; have x4 := (HK.out.a _ (.tail _ (.tail _ (.head _)))).c4; have y0 := (HK.out.a _ (.tail _ (.head _))).c0; have y1 := (HK.out.a _ (.tail _ (.head _))).c1; have y2 := (HK.out.a _ (.tail _ (.head _))).c2; have y3 := (HK.out.a _ (.tail _ (.head _))).c3; have y4 := (HK.out.a _ (.tail _ (.head _))).c4; have z0 := (HK.out.a _ (.head _)).c0; have z1 := (HK.out.a _ (.head _)).c1; have z2 := (HK.out.a _ (.head _)).c2; have z3 := (HK.out.a _ (.head _)).c3; have z4 := (HK.out.a _ (.head _)).c4)
    | (go_at_call 11; (with_reducible refine (HF3.out _ (by with_unfolding_all exact HK.out.r _ (.head _))).mono ?_); rintro e wz ⟨rfl, hb⟩; have HK2 := Lib.hid (HK.out.next hb); clear HK x0 x1 x2 x3 x4 y0 y1 y2 y3 y4 z0 z1 z2 z3 z4; have HK := HK2; clear HK2; clear hb; have x0 := (HK.out.a _ (.tail _ (.tail _ (.head _)))).c0; have x1 := (HK.out.a _ (.tail _ (.tail _ (.head _)))).c1; have x2 := (HK.out.a _ (.tail _ (.tail _ (.head _)))).c2; have x3 := (HK.out.a _ (.tail _ (.tail _ (.head _)))).c3; have x4 := (HK.out.a _ (.tail _ (.tail _ (.head _)))).c4; have y0 := (HK.out.a _ (.tail _ (.head _))).c0; have y1 := (HK.out.a _ (.tail _ (.head _))).c1; have y2 := (HK.out.a _ (.tail _ (.head _))).c2; have y3 := (HK.out.a _ (.tail _ (.head _))).c3; have y4 := (HK.out.a _ (.tail _ (.head _))).c4; have z0 := (HK.out.a _ (.head _)).c0; have z1 := (HK.out.a _ (.head _)).c1; have z2 := (HK.out.a _ (.head _)).c2; have z3 := (HK.out.a _ (.head _)).c3; have z4 := (HK.out.a _ (.head _)).c4)
    | (go_at_call 36; (with_reducible refine (HC12.out _ _ _ (by with_unfolding_all exact HK.out.lay) (by with_unfolding_all exact HK.out.r _ (.tail _ (.tail _ (.head _)))) (by with_unfolding_all exact HK.out.r _ (.tail _ (.head _)))).mono ?_); rintro e wz ⟨rfl, hb⟩; have HK2 := Lib.hid (HK.out.next hb); clear HK x0 x1 x2 x3 x4 y0 y1 y2 y3 y4 z0 z1 z2 z3 z4; have HK := HK2; clear HK2; clear hb; have x0 := (HK.out.a _ (.tail _ (.tail _ (.head _)))).c0; have x1 := (HK.out.a _ (.tail _ (.tail _ (.head _)))).c1; have x2 := (HK.out.a _ (.tail _ (.tail _ (.head _)))).c2; have x3 := (HK.out.a _ (.tail _ (.tail _ (.head _)))).c3; have x4 := (HK.out.a _ (.tail _ (.tail _ (.head _)))).c4; have y0 := (HK.out.a _ (.tail _ (.head _))).c0; have y1 := (HK.out.a _ (.tail _ (.head _))).c1; have y2 := (HK.out.a _ (.tail _ (.head _))).c2; have y3 := (HK.out.a _ (.tail _ (.head _))).c3; have y4 := (HK.out.a _ (.tail _ (.head _))).c4; have z0 := (HK.out.a _ (.head _)).c0; have z1 := (HK.out.a _ (.head _)).c1; have z2 := (HK.out.a _ (.head _)).c2; have z3 := (HK.out.a _ (.head _)).c3; have z4 := (HK.out.a _ (.head _)).c4)
    | (go_at_call 36; (with_reducible refine (HC23.out _ _ _ (by with_unfolding_all exact HK.out.lay) (by with_unfolding_all exact HK.out.r _ (.tail _ (.head _))) (by with_unfolding_all exact HK.out.r _ (.head _))).mono ?_); rintro e wz ⟨rfl, hb⟩; have HK2 := Lib.hid (HK.out.next hb); clear HK x0 x1 x2 x3 x4 y0 y1 y2 y3 y4 z0 z1 z2 z3 z4; have HK := HK2; clear HK2; clear hb; have x0 := (HK.out.a _ (.tail _ (.tail _ (.head _)))).c0; have x1 := (HK.out.a _ (.tail _ (.tail _ (.head _)))).c1; have x2 := (HK.out.a _ (.tail _ (.tail _ (.head _)))).c2; have x3 := (HK.out.a _ (.tail _ (.tail _ (.head _)))).c3; have x4 := (HK.out.a _ (.tail _ (.tail _ (.head _)))).c4; have y0 := (HK.out.a _ (.tail _ (.head _))).c0; have y1 := (HK.out.a _ (.tail _ (.head _))).c1; have y2 := (HK.out.a _ (.tail _ (.head _))).c2; have y3 := (HK.out.a _ (.tail _ (.head _))).c3; have y4 := (HK.out.a _ (.tail _ (.head _))).c4; have z0 := (HK.out.a _ (.head _)).c0; have z1 := (HK.out.a _ (.head _)).c1; have z2 := (HK.out.a _ (.head _)).c2; have z3 := (HK.out.a _ (.head _)).c3; have z4 := (HK.out.a _ (.head _)).c4)
    | (go_at_call 36; (with_reducible refine (HC13.out _ _ _ (by with_unfolding_all exact HK.out.lay) (by with_unfolding_all exact HK.out.r _ (.tail _ (.tail _ (.head _)))) (by with_unfolding_all exact HK.out.r _ (.head _))).mono ?_); rintro e wz ⟨rfl, hb⟩; have HK2 := Lib.hid (HK.out.next hb); clear HK x0 x1 x2 x3 x4 y0 y1 y2 y3 y4 z0 z1 z2 z3 z4; have HK := HK2; clear HK2; clear hb; have x0 := (HK.out.a _ (.tail _ (.tail _ (.head _)))).c0; have x1 := (HK.out.a _ (.tail _ (.tail _ (.head _)))).c1; have x2 := (HK.out.a _ (.tail _ (.tail _ (.head _)))).c2; have x3 := (HK.out.a _ (.tail _ (.tail _ (.head _)))).c3; have x4 := (HK.out.a _ (.tail _ (.tail _ (.head _)))).c4; have y0 := (HK.out.a _ (.tail _ (.head _))).c0; have y1 := (HK.out.a _ (.tail _ (.head _))).c1; have y2 := (HK.out.a _ (.tail _ (.head _))).c2; have y3 := (HK.out.a _ (.tail _ (.head _))).c3; have y4 := (HK.out.a _ (.tail _ (.head _))).c4; have z0 := (HK.out.a _ (.head _)).c0; have z1 := (HK.out.a _ (.head _)).c1; have z2 := (HK.out.a _ (.head _)).c2; have z3 := (HK.out.a _ (.head _)).c3; have z4 := (HK.out.a _ (.head _)).c4)
    | (go_at_call 36; (with_reducible refine (HC21.out _ _ _ (by with_unfolding_all exact HK.out.lay) (by with_unfolding_all exact HK.out.r _ (.tail _ (.head _))) (by with_unfolding_all exact HK.out.r _ (.tail _ (.tail _ (.head _))))).mono ?_); rintro e wz ⟨rfl, hb⟩; have HK2 := Lib.hid (HK.out.next hb); clear HK x0 x1 x2 x3 x4 y0 y1 y2 y3 y4 z0 z1 z2 z3 z4; have HK := HK2; clear HK2; clear hb; have x0 := (HK.out.a _ (.tail _ (.tail _ (.head _)))).c0; have x1 := (HK.out.a _ (.tail _ (.tail _ (.head _)))).c1; have x2 := (HK.out.a _ (.tail _ (.tail _ (.head _)))).c2; have x3 := (HK.out.a _ (.tail _ (.tail _ (.head _)))).c3; have x4 := (HK.out.a _ (.tail _ (.tail _ (.head _)))).c4; have y0 := (HK.out.a _ (.tail _ (.head _))).c0; have y1 := (HK.out.a _ (.tail _ (.head _))).c1; have y2 := (HK.out.a _ (.tail _ (.head _))).c2; have y3 := (HK.out.a _ (.tail _ (.head _))).c3; have y4 := (HK.out.a _ (.tail _ (.head _))).c4; have z0 := (HK.out.a _ (.head _)).c0; have z1 := (HK.out.a _ (.head _)).c1; have z2 := (HK.out.a _ (.head _)).c2; have z3 := (HK.out.a _ (.head _)).c3; have z4 := (HK.out.a _ (.head _)).c4)
    | (go_at_call 38; (with_reducible refine (HSm.out _ _ _ (by with_unfolding_all exact HK.out.r _ (.tail _ (.tail _ (.head _)))) (by with_unfolding_all exact HK.out.r _ (.tail _ (.head _)))).mono ?_); rintro e wz ⟨rfl, hb⟩; have HK2 := Lib.hid (HK.out.next hb); clear HK x0 x1 x2 x3 x4 y0 y1 y2 y3 y4 z0 z1 z2 z3 z4; have HK := HK2; clear HK2; clear hb; have x0 := (HK.out.a _ (.tail _ (.tail _ (.head _)))).c0; have x1 := (HK.out.a _ (.tail _ (.tail _ (.head _)))).c1; have x2 := (HK.out.a _ (.tail _ (.tail _ (.head _)))).c2; have x3 := (HK.out.a _ (.tail _ (.tail _ (.head _)))).c3; have x4 := (HK.out.a _ (.tail _ (.tail _ (.head _)))).c4; have y0 := (HK.out.a _ (.tail _ (.head _))).c0; have y1 := (HK.out.a _ (.tail _ (.head _))).c1; have y2 := (HK.out.a _ (.tail _ (.head _))).c2; have y3 := (HK.out.a _ (.tail _ (.head _))).c3; have y4 := (HK.out.a _ (.tail _ (.head _))).c4; have z0 := (HK.out.a _ (.head _)).c0; have z1 := (HK.out.a _ (.head _)).c1; have z2 := (HK.out.a _ (.head _)).c2; have z3 := (HK.out.a _ (.head _)).c3; have z4 := (HK.out.a _ (.head _)).c4)
    | (go_at_call 39; (with_reducible refine (HLk.out _ _ _ (by with_unfolding_all exact HK.out.r _ (.tail _ (.tail _ (.head _)))) (by with_unfolding_all exact HK.out.r _ (.tail _ (.head _)))).mono ?_); rintro e wz ⟨rfl, hb⟩; have HK2 := Lib.hid (HK.out.next hb); clear HK x0 x1 x2 x3 x4 y0 y1 y2 y3 y4 z0 z1 z2 z3 z4; have HK := HK2; clear HK2; clear hb; have x0 := (HK.out.a _ (.tail _ (.tail _ (.head _)))).c0; have x1 := (HK.out.a _ (.tail _ (.tail _ (.head _)))).c1; have x2 := (HK.out.a _ (.tail _ (.tail _ (.head _)))).c2; have x3 := (HK.out.a _ (.tail _ (.tail _ (.head _)))).c3; have x4 := (HK.out.a _ (.tail _ (.tail _ (.head _)))).c4; have y0 := (HK.out.a _ (.tail _ (.head _))).c0; have y1 := (HK.out.a _ (.tail _ (.head _))).c1; have y2 := (HK.out.a _ (.tail _ (.head _))).c2; have y3 := (HK.out.a _ (.tail _ (.head _))).c3; have y4 := (HK.out.a _ (.tail _ (.head _))).c4; have z0 := (HK.out.a _ (.head _)).c0; have z1 := (HK.out.a _ (.head _)).c1; have z2 := (HK.out.a _ (.head _)).c2; have z3 := (HK.out.a _ (.head _)).c3; have z4 := (HK.out.a _ (.head _)).c4))
  refine wp_loop_rounds 4 ?_
  rw [rounds_succ]
  go_wp2_with (go_at_call 12; refine (HAw.out _ (by with_unfolding_all first | exact HK.out.lay | exact (HK.out.next (drewN_below _ _)).lay)).mono ?_; rintro e wq ⟨rfl, hb⟩; have HB9 : Hid (Below w.heap.size w wq) := (by with_unfolding_all first | exact (HK.out.next hb).bel | exact ((HK.out.next (drewN_below _ _)).next hb).bel); clear hb)
  go_ret
  exact ⟨rfl, HB9.out⟩

set_option maxRecDepth 100000 in
set_option maxHeartbeats 8000000 in
theorem cmpLaw_N2_a (A B C : Ar) (v u t : Value) (w : World) (hw : Ru.Lay w) (hv : RdI w.heap.size w v A.z) (hu : RdI w.heap.size w u B.z) (ht : RdI w.heap.size w t C.z) (hf : A.z.length ≤ 500 ∧ B.z.length ≤ 500 ∧ C.z.length ≤ 500) (ga : Good A) (gb : Good B) (gc : Good C) (h1 : cmV A B = -1) (h2 : cmV B A = 1) (h3 : cmV B C ≤ 0) (h4 : cmV A C < 0) (hl : likeB A B = false) (h5 : A.k = B.k) (h6 : A.r = B.r) (hd : A.a ≠ B.a) :
    Calls Tryd.prog 9 #[A5 A.k A.r A.a A.b v, A5 B.k B.r B.a B.b u, A5 C.k C.r C.a C.b t] w fun e w' => e = .returned (.bool true) ∧ Below w.heap.size w w' := by
  have HF1 := Lib.hid (fun W h => far_any A v W h)
  have HF2 := Lib.hid (fun W h => far_any B u W h)
  have HF3 := Lib.hid (fun W h => far_any C t W h)
  have HAw := Lib.hid (fun W h => awake_any W h)
  have HK := Lib.hid (start3 A B C v u t w hw hv hu ht)
  rw [decide_eq_false (by omega)] at HF1 HF2 HF3
  have HC12 := Lib.hid (fun v u W h0 h1 h2 => compare_any A B v u W h0 h1 h2 (by omega) (by omega))
  have HC23 := Lib.hid (fun v u W h0 h1 h2 => compare_any B C v u W h0 h1 h2 (by omega) (by omega))
  have HC13 := Lib.hid (fun v u W h0 h1 h2 => compare_any A C v u W h0 h1 h2 (by omega) (by omega))
  have HC21 := Lib.hid (fun v u W h0 h1 h2 => compare_any B A v u W h0 h1 h2 (by omega) (by omega))
  have HSm := Lib.hid (fun v u W h1 h2 => asame_any A B v u W h1 h2 (by omega))
  have HLk := Lib.hid (fun v u W h1 h2 => alike_any A B v u W h1 h2)
  obtain ⟨e12, v12⟩ := cp_ok ga gb
  obtain ⟨e23, v23⟩ := cp_ok gb gc
  obtain ⟨e13, v13⟩ := cp_ok ga gc
  obtain ⟨e21, v21⟩ := cp_ok gb ga
  rw [e12, v12] at HC12
  rw [e23, v23] at HC23
  rw [e13, v13] at HC13
  rw [e21, v21] at HC21
  clear e12 e23 e13 e21 v12 v23 v13 v21
  have hsm : smB A B = false := by
    cases h : smB A B
    · rfl
    · have := (cm_law ga gb gc).2.2.1.2 (smB_eq.1 h); omega
  rw [h1] at HC12
  rw [h2] at HC21
  rw [hsm] at HSm
  rw [hl] at HLk
  have hsg := cm_sign hd
  rw [← cm_a h5 h6 hd] at hsg
  rw [h1] at hsg
  have hs0 : A.a - B.a < 0 := by omega
  have hwk : IntKind.i64.wrap (A.k - B.k) = 0 := by rw [h5, Int.sub_self]; rfl
  have hwr : IntKind.i64.wrap (A.r - B.r) = 0 := by rw [h6, Int.sub_self]; rfl
  have hwa : IntKind.i64.wrap (A.a - B.a) = A.a - B.a := wrap_d (by have := ga.sh.bd; omega) (by have := ga.sh.bd; omega) (by have := gb.sh.bd; omega) (by have := gb.sh.bd; omega)
  have hne : ((A.a - B.a) == 0) = false := by rw [beq_eq_false_iff_ne]; omega
  clear hsg hd h5 h6
  clear hf ga gb gc h1 h2 hsm hl
  generalize cmV B C = bc at HC23 h3
  generalize cmV A C = ac at HC13 h4
  have h4a : ¬ ac > 0 := by omega
  have h4b : ¬ 0 < ac := by omega
  have h4c : ¬ ac ≥ 0 := by omega
  have h4d : ¬ 0 ≤ ac := by omega
  clear h4
  obtain ⟨p, cap, rfl, hcap, hcap2, hcell⟩ := hv
  obtain ⟨q, cap', rfl, hcap', hcap2', hcell'⟩ := hu
  obtain ⟨s, cap'', rfl, hcap'', hcap2'', hcell''⟩ := ht
  clear hcell hcell' hcell'' hw
  have x0 := (HK.out.a _ (.tail _ (.tail _ (.head _)))).c0
  have x1 := (HK.out.a _ (.tail _ (.tail _ (.head _)))).c1
  have x2 := (HK.out.a _ (.tail _ (.tail _ (.head _)))).c2
  have x3 := (HK.out.a _ (.tail _ (.tail _ (.head _)))).c3
  have x4 := (HK.out.a _ (.tail _ (.tail _ (.head _)))).c4
  have y0 := (HK.out.a _ (.tail _ (.head _))).c0
  have y1 := (HK.out.a _ (.tail _ (.head _))).c1
  have y2 := (HK.out.a _ (.tail _ (.head _))).c2
  have y3 := (HK.out.a _ (.tail _ (.head _))).c3
  have y4 := (HK.out.a _ (.tail _ (.head _))).c4
  have z0 := (HK.out.a _ (.head _)).c0
  have z1 := (HK.out.a _ (.head _)).c1
  have z2 := (HK.out.a _ (.head _)).c2
  have z3 := (HK.out.a _ (.head _)).c3
  have z4 := (HK.out.a _ (.head _)).c4
  go_enter Tryd.func9, Tryd.ntmps9
  go_wp2_with (first
    | (go_at_call 11; (with_reducible refine (HF1.out _ (by with_unfolding_all exact HK.out.r _ (.tail _ (.tail _ (.head _))))).mono ?_); rintro e wz ⟨rfl, hb⟩; have HK2 := Lib.hid (HK.out.next hb); clear HK x0 x1 x2 x3 x4 y0 y1 y2 y3 y4 z0 z1 z2 z3 z4; have HK := HK2; clear HK2; clear hb; have x0 := (HK.out.a _ (.tail _ (.tail _ (.head _)))).c0; have x1 := (HK.out.a _ (.tail _ (.tail _ (.head _)))).c1; have x2 := (HK.out.a _ (.tail _ (.tail _ (.head _)))).c2; have x3 := (HK.out.a _ (.tail _ (.tail _ (.head _)))).c3; have x4 := (HK.out.a _ (.tail _ (.tail _ (.head _)))).c4; have y0 := (HK.out.a _ (.tail _ (.head _))).c0; have y1 := (HK.out.a _ (.tail _ (.head _))).c1; have y2 := (HK.out.a _ (.tail _ (.head _))).c2; have y3 := (HK.out.a _ (.tail _ (.head _))).c3; have y4 := (HK.out.a _ (.tail _ (.head _))).c4; have z0 := (HK.out.a _ (.head _)).c0; have z1 := (HK.out.a _ (.head _)).c1; have z2 := (HK.out.a _ (.head _)).c2; have z3 := (HK.out.a _ (.head _)).c3; have z4 := (HK.out.a _ (.head _)).c4)
    | (go_at_call 11; (with_reducible refine (HF2.out _ (by with_unfolding_all exact HK.out.r _ (.tail _ (.head _)))).mono ?_); rintro e wz ⟨rfl, hb⟩; have HK2 := Lib.hid (HK.out.next hb); clear HK x0 x1 x2 x3 x4 y0 y1 y2 y3 y4 z0 z1 z2 z3 z4; have HK := HK2; clear HK2; clear hb; have x0 := (HK.out.a _ (.tail _ (.tail _ (.head _)))).c0; have x1 := (HK.out.a _ (.tail _ (.tail _ (.head _)))).c1; have x2 := (HK.out.a _ (.tail _ (.tail _ (.head _)))).c2; have x3 := (HK.out.a _ (.tail _ (.tail _ (.head _)))).c3; have x4 := (HK.out.a _ (.tail _ (.tail _ (.head _)))).c4; have y0 := (HK.out.a _ (.tail _ (.head _))).c0; have y1 := (HK.out.a _ (.tail _ (.head _))).c1; have y2 := (HK.out.a _ (.tail _ (.head _))).c2; have y3 := (HK.out.a _ (.tail _ (.head _))).c3; have y4 := (HK.out.a _ (.tail _ (.head _))).c4; have z0 := (HK.out.a _ (.head _)).c0; have z1 := (HK.out.a _ (.head _)).c1; have z2 := (HK.out.a _ (.head _)).c2; have z3 := (HK.out.a _ (.head _)).c3; have z4 := (HK.out.a _ (.head _)).c4)
    | (go_at_call 11; (with_reducible refine (HF3.out _ (by with_unfolding_all exact HK.out.r _ (.head _))).mono ?_); rintro e wz ⟨rfl, hb⟩; have HK2 := Lib.hid (HK.out.next hb); clear HK x0 x1 x2 x3 x4 y0 y1 y2 y3 y4 z0 z1 z2 z3 z4; have HK := HK2; clear HK2; clear hb; have x0 := (HK.out.a _ (.tail _ (.tail _ (.head _)))).c0; have x1 := (HK.out.a _ (.tail _ (.tail _ (.head _)))).c1; have x2 := (HK.out.a _ (.tail _ (.tail _ (.head _)))).c2; have x3 := (HK.out.a _ (.tail _ (.tail _ (.head _)))).c3; have x4 := (HK.out.a _ (.tail _ (.tail _ (.head _)))).c4; have y0 := (HK.out.a _ (.tail _ (.head _))).c0; have y1 := (HK.out.a _ (.tail _ (.head _))).c1; have y2 := (HK.out.a _ (.tail _ (.head _))).c2; have y3 := (HK.out.a _ (.tail _ (.head _))).c3; have y4 := (HK.out.a _ (.tail _ (.head _))).c4; have z0 := (HK.out.a _ (.head _)).c0; have z1 := (HK.out.a _ (.head _)).c1; have z2 := (HK.out.a _ (.head _)).c2; have z3 := (HK.out.a _ (.head _)).c3; have z4 := (HK.out.a _ (.head _)).c4)
    | (go_at_call 36; (with_reducible refine (HC12.out _ _ _ (by with_unfolding_all exact HK.out.lay) (by with_unfolding_all exact HK.out.r _ (.tail _ (.tail _ (.head _)))) (by with_unfolding_all exact HK.out.r _ (.tail _ (.head _)))).mono ?_); rintro e wz ⟨rfl, hb⟩; have HK2 := Lib.hid (HK.out.next hb); clear HK x0 x1 x2 x3 x4 y0 y1 y2 y3 y4 z0 z1 z2 z3 z4; have HK := HK2; clear HK2; clear hb; have x0 := (HK.out.a _ (.tail _ (.tail _ (.head _)))).c0; have x1 := (HK.out.a _ (.tail _ (.tail _ (.head _)))).c1; have x2 := (HK.out.a _ (.tail _ (.tail _ (.head _)))).c2; have x3 := (HK.out.a _ (.tail _ (.tail _ (.head _)))).c3; have x4 := (HK.out.a _ (.tail _ (.tail _ (.head _)))).c4; have y0 := (HK.out.a _ (.tail _ (.head _))).c0; have y1 := (HK.out.a _ (.tail _ (.head _))).c1; have y2 := (HK.out.a _ (.tail _ (.head _))).c2; have y3 := (HK.out.a _ (.tail _ (.head _))).c3; have y4 := (HK.out.a _ (.tail _ (.head _))).c4; have z0 := (HK.out.a _ (.head _)).c0; have z1 := (HK.out.a _ (.head _)).c1; have z2 := (HK.out.a _ (.head _)).c2; have z3 := (HK.out.a _ (.head _)).c3; have z4 := (HK.out.a _ (.head _)).c4)
    | (go_at_call 36; (with_reducible refine (HC23.out _ _ _ (by with_unfolding_all exact HK.out.lay) (by with_unfolding_all exact HK.out.r _ (.tail _ (.head _))) (by with_unfolding_all exact HK.out.r _ (.head _))).mono ?_); rintro e wz ⟨rfl, hb⟩; have HK2 := Lib.hid (HK.out.next hb); clear HK x0 x1 x2 x3 x4 y0 y1 y2 y3 y4 z0 z1 z2 z3 z4; have HK := HK2; clear HK2; clear hb; have x0 := (HK.out.a _ (.tail _ (.tail _ (.head _)))).c0; have x1 := (HK.out.a _ (.tail _ (.tail _ (.head _)))).c1; have x2 := (HK.out.a _ (.tail _ (.tail _ (.head _)))).c2; have x3 := (HK.out.a _ (.tail _ (.tail _ (.head _)))).c3; have x4 := (HK.out.a _ (.tail _ (.tail _ (.head _)))).c4; have y0 := (HK.out.a _ (.tail _ (.head _))).c0; have y1 := (HK.out.a _ (.tail _ (.head _))).c1; have y2 := (HK.out.a _ (.tail _ (.head _))).c2; have y3 := (HK.out.a _ (.tail _ (.head _))).c3; have y4 := (HK.out.a _ (.tail _ (.head _))).c4; have z0 := (HK.out.a _ (.head _)).c0; have z1 := (HK.out.a _ (.head _)).c1; have z2 := (HK.out.a _ (.head _)).c2; have z3 := (HK.out.a _ (.head _)).c3; have z4 := (HK.out.a _ (.head _)).c4)
    | (go_at_call 36; (with_reducible refine (HC13.out _ _ _ (by with_unfolding_all exact HK.out.lay) (by with_unfolding_all exact HK.out.r _ (.tail _ (.tail _ (.head _)))) (by with_unfolding_all exact HK.out.r _ (.head _))).mono ?_); rintro e wz ⟨rfl, hb⟩; have HK2 := Lib.hid (HK.out.next hb); clear HK x0 x1 x2 x3 x4 y0 y1 y2 y3 y4 z0 z1 z2 z3 z4; have HK := HK2; clear HK2; clear hb; have x0 := (HK.out.a _ (.tail _ (.tail _ (.head _)))).c0; have x1 := (HK.out.a _ (.tail _ (.tail _ (.head _)))).c1; have x2 := (HK.out.a _ (.tail _ (.tail _ (.head _)))).c2; have x3 := (HK.out.a _ (.tail _ (.tail _ (.head _)))).c3; have x4 := (HK.out.a _ (.tail _ (.tail _ (.head _)))).c4; have y0 := (HK.out.a _ (.tail _ (.head _))).c0; have y1 := (HK.out.a _ (.tail _ (.head _))).c1; have y2 := (HK.out.a _ (.tail _ (.head _))).c2; have y3 := (HK.out.a _ (.tail _ (.head _))).c3; have y4 := (HK.out.a _ (.tail _ (.head _))).c4; have z0 := (HK.out.a _ (.head _)).c0; have z1 := (HK.out.a _ (.head _)).c1; have z2 := (HK.out.a _ (.head _)).c2; have z3 := (HK.out.a _ (.head _)).c3; have z4 := (HK.out.a _ (.head _)).c4)
    | (go_at_call 36; (with_reducible refine (HC21.out _ _ _ (by with_unfolding_all exact HK.out.lay) (by with_unfolding_all exact HK.out.r _ (.tail _ (.head _))) (by with_unfolding_all exact HK.out.r _ (.tail _ (.tail _ (.head _))))).mono ?_); rintro e wz ⟨rfl, hb⟩; have HK2 := Lib.hid (HK.out.next hb); clear HK x0 x1 x2 x3 x4 y0 y1 y2 y3 y4 z0 z1 z2 z3 z4; have HK := HK2; clear HK2; clear hb; have x0 := (HK.out.a _ (.tail _ (.tail _ (.head _)))).c0; have x1 := (HK.out.a _ (.tail _ (.tail _ (.head _)))).c1; have x2 := (HK.out.a _ (.tail _ (.tail _ (.head _)))).c2; have x3 := (HK.out.a _ (.tail _ (.tail _ (.head _)))).c3; have x4 := (HK.out.a _ (.tail _ (.tail _ (.head _)))).c4; have y0 := (HK.out.a _ (.tail _ (.head _))).c0; have y1 := (HK.out.a _ (.tail _ (.head _))).c1; have y2 := (HK.out.a _ (.tail _ (.head _))).c2; have y3 := (HK.out.a _ (.tail _ (.head _))).c3; have y4 := (HK.out.a _ (.tail _ (.head _))).c4; have z0 := (HK.out.a _ (.head _)).c0; have z1 := (HK.out.a _ (.head _)).c1; have z2 := (HK.out.a _ (.head _)).c2; have z3 := (HK.out.a _ (.head _)).c3; have z4 := (HK.out.a _ (.head _)).c4)
    | (go_at_call 38; (with_reducible refine (HSm.out _ _ _ (by with_unfolding_all exact HK.out.r _ (.tail _ (.tail _ (.head _)))) (by with_unfolding_all exact HK.out.r _ (.tail _ (.head _)))).mono ?_); rintro e wz ⟨rfl, hb⟩; have HK2 := Lib.hid (HK.out.next hb); clear HK x0 x1 x2 x3 x4 y0 y1 y2 y3 y4 z0 z1 z2 z3 z4; have HK := HK2; clear HK2; clear hb; have x0 := (HK.out.a _ (.tail _ (.tail _ (.head _)))).c0; have x1 := (HK.out.a _ (.tail _ (.tail _ (.head _)))).c1; have x2 := (HK.out.a _ (.tail _ (.tail _ (.head _)))).c2; have x3 := (HK.out.a _ (.tail _ (.tail _ (.head _)))).c3; have x4 := (HK.out.a _ (.tail _ (.tail _ (.head _)))).c4; have y0 := (HK.out.a _ (.tail _ (.head _))).c0; have y1 := (HK.out.a _ (.tail _ (.head _))).c1; have y2 := (HK.out.a _ (.tail _ (.head _))).c2; have y3 := (HK.out.a _ (.tail _ (.head _))).c3; have y4 := (HK.out.a _ (.tail _ (.head _))).c4; have z0 := (HK.out.a _ (.head _)).c0; have z1 := (HK.out.a _ (.head _)).c1; have z2 := (HK.out.a _ (.head _)).c2; have z3 := (HK.out.a _ (.head _)).c3; have z4 := (HK.out.a _ (.head _)).c4)
    | (go_at_call 39; (with_reducible refine (HLk.out _ _ _ (by with_unfolding_all exact HK.out.r _ (.tail _ (.tail _ (.head _)))) (by with_unfolding_all exact HK.out.r _ (.tail _ (.head _)))).mono ?_); rintro e wz ⟨rfl, hb⟩; have HK2 := Lib.hid (HK.out.next hb); clear HK x0 x1 x2 x3 x4 y0 y1 y2 y3 y4 z0 z1 z2 z3 z4; have HK := HK2; clear HK2; clear hb; have x0 := (HK.out.a _ (.tail _ (.tail _ (.head _)))).c0; have x1 := (HK.out.a _ (.tail _ (.tail _ (.head _)))).c1; have x2 := (HK.out.a _ (.tail _ (.tail _ (.head _)))).c2; have x3 := (HK.out.a _ (.tail _ (.tail _ (.head _)))).c3; have x4 := (HK.out.a _ (.tail _ (.tail _ (.head _)))).c4; have y0 := (HK.out.a _ (.tail _ (.head _))).c0; have y1 := (HK.out.a _ (.tail _ (.head _))).c1; have y2 := (HK.out.a _ (.tail _ (.head _))).c2; have y3 := (HK.out.a _ (.tail _ (.head _))).c3; have y4 := (HK.out.a _ (.tail _ (.head _))).c4; have z0 := (HK.out.a _ (.head _)).c0; have z1 := (HK.out.a _ (.head _)).c1; have z2 := (HK.out.a _ (.head _)).c2; have z3 := (HK.out.a _ (.head _)).c3; have z4 := (HK.out.a _ (.head _)).c4))
  refine wp_loop_rounds 4 ?_
  rw [rounds_succ]
  go_wp2_with fail
  go_quiet (fail)
  go_wp2_with fail
  rw [rounds_succ]
  go_wp2_with (go_at_call 12; refine (HAw.out _ (by with_unfolding_all first | exact HK.out.lay | exact (HK.out.next (drewN_below _ _)).lay)).mono ?_; rintro e wq ⟨rfl, hb⟩; have HB9 : Hid (Below w.heap.size w wq) := (by with_unfolding_all first | exact (HK.out.next hb).bel | exact ((HK.out.next (drewN_below _ _)).next hb).bel); clear hb)
  go_ret
  exact ⟨rfl, HB9.out⟩

set_option maxRecDepth 100000 in
set_option maxHeartbeats 8000000 in
theorem cmpLaw_N2_b (A B C : Ar) (v u t : Value) (w : World) (hw : Ru.Lay w) (hv : RdI w.heap.size w v A.z) (hu : RdI w.heap.size w u B.z) (ht : RdI w.heap.size w t C.z) (hf : A.z.length ≤ 500 ∧ B.z.length ≤ 500 ∧ C.z.length ≤ 500) (ga : Good A) (gb : Good B) (gc : Good C) (h1 : cmV A B = -1) (h2 : cmV B A = 1) (h3 : cmV B C ≤ 0) (h4 : cmV A C < 0) (hl : likeB A B = false) (h5 : A.k = B.k) (h6 : A.r = B.r) (h7 : A.a = B.a) (hd : A.b ≠ B.b) :
    Calls Tryd.prog 9 #[A5 A.k A.r A.a A.b v, A5 B.k B.r B.a B.b u, A5 C.k C.r C.a C.b t] w fun e w' => e = .returned (.bool true) ∧ Below w.heap.size w w' := by
  have HF1 := Lib.hid (fun W h => far_any A v W h)
  have HF2 := Lib.hid (fun W h => far_any B u W h)
  have HF3 := Lib.hid (fun W h => far_any C t W h)
  have HAw := Lib.hid (fun W h => awake_any W h)
  have HK := Lib.hid (start3 A B C v u t w hw hv hu ht)
  rw [decide_eq_false (by omega)] at HF1 HF2 HF3
  have HC12 := Lib.hid (fun v u W h0 h1 h2 => compare_any A B v u W h0 h1 h2 (by omega) (by omega))
  have HC23 := Lib.hid (fun v u W h0 h1 h2 => compare_any B C v u W h0 h1 h2 (by omega) (by omega))
  have HC13 := Lib.hid (fun v u W h0 h1 h2 => compare_any A C v u W h0 h1 h2 (by omega) (by omega))
  have HC21 := Lib.hid (fun v u W h0 h1 h2 => compare_any B A v u W h0 h1 h2 (by omega) (by omega))
  have HSm := Lib.hid (fun v u W h1 h2 => asame_any A B v u W h1 h2 (by omega))
  have HLk := Lib.hid (fun v u W h1 h2 => alike_any A B v u W h1 h2)
  obtain ⟨e12, v12⟩ := cp_ok ga gb
  obtain ⟨e23, v23⟩ := cp_ok gb gc
  obtain ⟨e13, v13⟩ := cp_ok ga gc
  obtain ⟨e21, v21⟩ := cp_ok gb ga
  rw [e12, v12] at HC12
  rw [e23, v23] at HC23
  rw [e13, v13] at HC13
  rw [e21, v21] at HC21
  clear e12 e23 e13 e21 v12 v23 v13 v21
  have hsm : smB A B = false := by
    cases h : smB A B
    · rfl
    · have := (cm_law ga gb gc).2.2.1.2 (smB_eq.1 h); omega
  rw [h1] at HC12
  rw [h2] at HC21
  rw [hsm] at HSm
  rw [hl] at HLk
  have hsg := cm_sign hd
  rw [← cm_b h5 h6 h7 hd] at hsg
  rw [h1] at hsg
  have hs0 : A.b - B.b < 0 := by omega
  have hwk : IntKind.i64.wrap (A.k - B.k) = 0 := by rw [h5, Int.sub_self]; rfl
  have hwr : IntKind.i64.wrap (A.r - B.r) = 0 := by rw [h6, Int.sub_self]; rfl
  have hwa : IntKind.i64.wrap (A.a - B.a) = 0 := by rw [h7, Int.sub_self]; rfl
  have hwb : IntKind.i64.wrap (A.b - B.b) = A.b - B.b := wrap_d (by have := ga.sh.bd; omega) (by have := ga.sh.bd; omega) (by have := gb.sh.bd; omega) (by have := gb.sh.bd; omega)
  have hne : ((A.b - B.b) == 0) = false := by rw [beq_eq_false_iff_ne]; omega
  clear hsg hd h5 h6 h7
  clear hf ga gb gc h1 h2 hsm hl
  generalize cmV B C = bc at HC23 h3
  generalize cmV A C = ac at HC13 h4
  have h4a : ¬ ac > 0 := by omega
  have h4b : ¬ 0 < ac := by omega
  have h4c : ¬ ac ≥ 0 := by omega
  have h4d : ¬ 0 ≤ ac := by omega
  clear h4
  obtain ⟨p, cap, rfl, hcap, hcap2, hcell⟩ := hv
  obtain ⟨q, cap', rfl, hcap', hcap2', hcell'⟩ := hu
  obtain ⟨s, cap'', rfl, hcap'', hcap2'', hcell''⟩ := ht
  clear hcell hcell' hcell'' hw
  have x0 := (HK.out.a _ (.tail _ (.tail _ (.head _)))).c0
  have x1 := (HK.out.a _ (.tail _ (.tail _ (.head _)))).c1
  have x2 := (HK.out.a _ (.tail _ (.tail _ (.head _)))).c2
  have x3 := (HK.out.a _ (.tail _ (.tail _ (.head _)))).c3
  have x4 := (HK.out.a _ (.tail _ (.tail _ (.head _)))).c4
  have y0 := (HK.out.a _ (.tail _ (.head _))).c0
  have y1 := (HK.out.a _ (.tail _ (.head _))).c1
  have y2 := (HK.out.a _ (.tail _ (.head _))).c2
  have y3 := (HK.out.a _ (.tail _ (.head _))).c3
  have y4 := (HK.out.a _ (.tail _ (.head _))).c4
  have z0 := (HK.out.a _ (.head _)).c0
  have z1 := (HK.out.a _ (.head _)).c1
  have z2 := (HK.out.a _ (.head _)).c2
  have z3 := (HK.out.a _ (.head _)).c3
  have z4 := (HK.out.a _ (.head _)).c4
  go_enter Tryd.func9, Tryd.ntmps9
  go_wp2_with (first
    | (go_at_call 11; (with_reducible refine (HF1.out _ (by with_unfolding_all exact HK.out.r _ (.tail _ (.tail _ (.head _))))).mono ?_); rintro e wz ⟨rfl, hb⟩; have HK2 := Lib.hid (HK.out.next hb); clear HK x0 x1 x2 x3 x4 y0 y1 y2 y3 y4 z0 z1 z2 z3 z4; have HK := HK2; clear HK2; clear hb; have x0 := (HK.out.a _ (.tail _ (.tail _ (.head _)))).c0; have x1 := (HK.out.a _ (.tail _ (.tail _ (.head _)))).c1; have x2 := (HK.out.a _ (.tail _ (.tail _ (.head _)))).c2; have x3 := (HK.out.a _ (.tail _ (.tail _ (.head _)))).c3; have x4 := (HK.out.a _ (.tail _ (.tail _ (.head _)))).c4; have y0 := (HK.out.a _ (.tail _ (.head _))).c0; have y1 := (HK.out.a _ (.tail _ (.head _))).c1; have y2 := (HK.out.a _ (.tail _ (.head _))).c2; have y3 := (HK.out.a _ (.tail _ (.head _))).c3; have y4 := (HK.out.a _ (.tail _ (.head _))).c4; have z0 := (HK.out.a _ (.head _)).c0; have z1 := (HK.out.a _ (.head _)).c1; have z2 := (HK.out.a _ (.head _)).c2; have z3 := (HK.out.a _ (.head _)).c3; have z4 := (HK.out.a _ (.head _)).c4)
    | (go_at_call 11; (with_reducible refine (HF2.out _ (by with_unfolding_all exact HK.out.r _ (.tail _ (.head _)))).mono ?_); rintro e wz ⟨rfl, hb⟩; have HK2 := Lib.hid (HK.out.next hb); clear HK x0 x1 x2 x3 x4 y0 y1 y2 y3 y4 z0 z1 z2 z3 z4; have HK := HK2; clear HK2; clear hb; have x0 := (HK.out.a _ (.tail _ (.tail _ (.head _)))).c0; have x1 := (HK.out.a _ (.tail _ (.tail _ (.head _)))).c1; have x2 := (HK.out.a _ (.tail _ (.tail _ (.head _)))).c2; have x3 := (HK.out.a _ (.tail _ (.tail _ (.head _)))).c3; have x4 := (HK.out.a _ (.tail _ (.tail _ (.head _)))).c4; have y0 := (HK.out.a _ (.tail _ (.head _))).c0; have y1 := (HK.out.a _ (.tail _ (.head _))).c1; have y2 := (HK.out.a _ (.tail _ (.head _))).c2; have y3 := (HK.out.a _ (.tail _ (.head _))).c3; have y4 := (HK.out.a _ (.tail _ (.head _))).c4; have z0 := (HK.out.a _ (.head _)).c0; have z1 := (HK.out.a _ (.head _)).c1; have z2 := (HK.out.a _ (.head _)).c2; have z3 := (HK.out.a _ (.head _)).c3; have z4 := (HK.out.a _ (.head _)).c4)
    | (go_at_call 11; (with_reducible refine (HF3.out _ (by with_unfolding_all exact HK.out.r _ (.head _))).mono ?_); rintro e wz ⟨rfl, hb⟩; have HK2 := Lib.hid (HK.out.next hb); clear HK x0 x1 x2 x3 x4 y0 y1 y2 y3 y4 z0 z1 z2 z3 z4; have HK := HK2; clear HK2; clear hb; have x0 := (HK.out.a _ (.tail _ (.tail _ (.head _)))).c0; have x1 := (HK.out.a _ (.tail _ (.tail _ (.head _)))).c1; have x2 := (HK.out.a _ (.tail _ (.tail _ (.head _)))).c2; have x3 := (HK.out.a _ (.tail _ (.tail _ (.head _)))).c3; have x4 := (HK.out.a _ (.tail _ (.tail _ (.head _)))).c4; have y0 := (HK.out.a _ (.tail _ (.head _))).c0; have y1 := (HK.out.a _ (.tail _ (.head _))).c1; have y2 := (HK.out.a _ (.tail _ (.head _))).c2; have y3 := (HK.out.a _ (.tail _ (.head _))).c3; have y4 := (HK.out.a _ (.tail _ (.head _))).c4; have z0 := (HK.out.a _ (.head _)).c0; have z1 := (HK.out.a _ (.head _)).c1; have z2 := (HK.out.a _ (.head _)).c2; have z3 := (HK.out.a _ (.head _)).c3; have z4 := (HK.out.a _ (.head _)).c4)
    | (go_at_call 36; (with_reducible refine (HC12.out _ _ _ (by with_unfolding_all exact HK.out.lay) (by with_unfolding_all exact HK.out.r _ (.tail _ (.tail _ (.head _)))) (by with_unfolding_all exact HK.out.r _ (.tail _ (.head _)))).mono ?_); rintro e wz ⟨rfl, hb⟩; have HK2 := Lib.hid (HK.out.next hb); clear HK x0 x1 x2 x3 x4 y0 y1 y2 y3 y4 z0 z1 z2 z3 z4; have HK := HK2; clear HK2; clear hb; have x0 := (HK.out.a _ (.tail _ (.tail _ (.head _)))).c0; have x1 := (HK.out.a _ (.tail _ (.tail _ (.head _)))).c1; have x2 := (HK.out.a _ (.tail _ (.tail _ (.head _)))).c2; have x3 := (HK.out.a _ (.tail _ (.tail _ (.head _)))).c3; have x4 := (HK.out.a _ (.tail _ (.tail _ (.head _)))).c4; have y0 := (HK.out.a _ (.tail _ (.head _))).c0; have y1 := (HK.out.a _ (.tail _ (.head _))).c1; have y2 := (HK.out.a _ (.tail _ (.head _))).c2; have y3 := (HK.out.a _ (.tail _ (.head _))).c3; have y4 := (HK.out.a _ (.tail _ (.head _))).c4; have z0 := (HK.out.a _ (.head _)).c0; have z1 := (HK.out.a _ (.head _)).c1; have z2 := (HK.out.a _ (.head _)).c2; have z3 := (HK.out.a _ (.head _)).c3; have z4 := (HK.out.a _ (.head _)).c4)
    | (go_at_call 36; (with_reducible refine (HC23.out _ _ _ (by with_unfolding_all exact HK.out.lay) (by with_unfolding_all exact HK.out.r _ (.tail _ (.head _))) (by with_unfolding_all exact HK.out.r _ (.head _))).mono ?_); rintro e wz ⟨rfl, hb⟩; have HK2 := Lib.hid (HK.out.next hb); clear HK x0 x1 x2 x3 x4 y0 y1 y2 y3 y4 z0 z1 z2 z3 z4; have HK := HK2; clear HK2; clear hb; have x0 := (HK.out.a _ (.tail _ (.tail _ (.head _)))).c0; have x1 := (HK.out.a _ (.tail _ (.tail _ (.head _)))).c1; have x2 := (HK.out.a _ (.tail _ (.tail _ (.head _)))).c2; have x3 := (HK.out.a _ (.tail _ (.tail _ (.head _)))).c3; have x4 := (HK.out.a _ (.tail _ (.tail _ (.head _)))).c4; have y0 := (HK.out.a _ (.tail _ (.head _))).c0; have y1 := (HK.out.a _ (.tail _ (.head _))).c1; have y2 := (HK.out.a _ (.tail _ (.head _))).c2; have y3 := (HK.out.a _ (.tail _ (.head _))).c3; have y4 := (HK.out.a _ (.tail _ (.head _))).c4; have z0 := (HK.out.a _ (.head _)).c0; have z1 := (HK.out.a _ (.head _)).c1; have z2 := (HK.out.a _ (.head _)).c2; have z3 := (HK.out.a _ (.head _)).c3; have z4 := (HK.out.a _ (.head _)).c4)
    | (go_at_call 36; (with_reducible refine (HC13.out _ _ _ (by with_unfolding_all exact HK.out.lay) (by with_unfolding_all exact HK.out.r _ (.tail _ (.tail _ (.head _)))) (by with_unfolding_all exact HK.out.r _ (.head _))).mono ?_); rintro e wz ⟨rfl, hb⟩; have HK2 := Lib.hid (HK.out.next hb); clear HK x0 x1 x2 x3 x4 y0 y1 y2 y3 y4 z0 z1 z2 z3 z4; have HK := HK2; clear HK2; clear hb; have x0 := (HK.out.a _ (.tail _ (.tail _ (.head _)))).c0; have x1 := (HK.out.a _ (.tail _ (.tail _ (.head _)))).c1; have x2 := (HK.out.a _ (.tail _ (.tail _ (.head _)))).c2; have x3 := (HK.out.a _ (.tail _ (.tail _ (.head _)))).c3; have x4 := (HK.out.a _ (.tail _ (.tail _ (.head _)))).c4; have y0 := (HK.out.a _ (.tail _ (.head _))).c0; have y1 := (HK.out.a _ (.tail _ (.head _))).c1; have y2 := (HK.out.a _ (.tail _ (.head _))).c2; have y3 := (HK.out.a _ (.tail _ (.head _))).c3; have y4 := (HK.out.a _ (.tail _ (.head _))).c4; have z0 := (HK.out.a _ (.head _)).c0; have z1 := (HK.out.a _ (.head _)).c1; have z2 := (HK.out.a _ (.head _)).c2; have z3 := (HK.out.a _ (.head _)).c3; have z4 := (HK.out.a _ (.head _)).c4)
    | (go_at_call 36; (with_reducible refine (HC21.out _ _ _ (by with_unfolding_all exact HK.out.lay) (by with_unfolding_all exact HK.out.r _ (.tail _ (.head _))) (by with_unfolding_all exact HK.out.r _ (.tail _ (.tail _ (.head _))))).mono ?_); rintro e wz ⟨rfl, hb⟩; have HK2 := Lib.hid (HK.out.next hb); clear HK x0 x1 x2 x3 x4 y0 y1 y2 y3 y4 z0 z1 z2 z3 z4; have HK := HK2; clear HK2; clear hb; have x0 := (HK.out.a _ (.tail _ (.tail _ (.head _)))).c0; have x1 := (HK.out.a _ (.tail _ (.tail _ (.head _)))).c1; have x2 := (HK.out.a _ (.tail _ (.tail _ (.head _)))).c2; have x3 := (HK.out.a _ (.tail _ (.tail _ (.head _)))).c3; have x4 := (HK.out.a _ (.tail _ (.tail _ (.head _)))).c4; have y0 := (HK.out.a _ (.tail _ (.head _))).c0; have y1 := (HK.out.a _ (.tail _ (.head _))).c1; have y2 := (HK.out.a _ (.tail _ (.head _))).c2; have y3 := (HK.out.a _ (.tail _ (.head _))).c3; have y4 := (HK.out.a _ (.tail _ (.head _))).c4; have z0 := (HK.out.a _ (.head _)).c0; have z1 := (HK.out.a _ (.head _)).c1; have z2 := (HK.out.a _ (.head _)).c2; have z3 := (HK.out.a _ (.head _)).c3; have z4 := (HK.out.a _ (.head _)).c4)
    | (go_at_call 38; (with_reducible refine (HSm.out _ _ _ (by with_unfolding_all exact HK.out.r _ (.tail _ (.tail _ (.head _)))) (by with_unfolding_all exact HK.out.r _ (.tail _ (.head _)))).mono ?_); rintro e wz ⟨rfl, hb⟩; have HK2 := Lib.hid (HK.out.next hb); clear HK x0 x1 x2 x3 x4 y0 y1 y2 y3 y4 z0 z1 z2 z3 z4; have HK := HK2; clear HK2; clear hb; have x0 := (HK.out.a _ (.tail _ (.tail _ (.head _)))).c0; have x1 := (HK.out.a _ (.tail _ (.tail _ (.head _)))).c1; have x2 := (HK.out.a _ (.tail _ (.tail _ (.head _)))).c2; have x3 := (HK.out.a _ (.tail _ (.tail _ (.head _)))).c3; have x4 := (HK.out.a _ (.tail _ (.tail _ (.head _)))).c4; have y0 := (HK.out.a _ (.tail _ (.head _))).c0; have y1 := (HK.out.a _ (.tail _ (.head _))).c1; have y2 := (HK.out.a _ (.tail _ (.head _))).c2; have y3 := (HK.out.a _ (.tail _ (.head _))).c3; have y4 := (HK.out.a _ (.tail _ (.head _))).c4; have z0 := (HK.out.a _ (.head _)).c0; have z1 := (HK.out.a _ (.head _)).c1; have z2 := (HK.out.a _ (.head _)).c2; have z3 := (HK.out.a _ (.head _)).c3; have z4 := (HK.out.a _ (.head _)).c4)
    | (go_at_call 39; (with_reducible refine (HLk.out _ _ _ (by with_unfolding_all exact HK.out.r _ (.tail _ (.tail _ (.head _)))) (by with_unfolding_all exact HK.out.r _ (.tail _ (.head _)))).mono ?_); rintro e wz ⟨rfl, hb⟩; have HK2 := Lib.hid (HK.out.next hb); clear HK x0 x1 x2 x3 x4 y0 y1 y2 y3 y4 z0 z1 z2 z3 z4; have HK := HK2; clear HK2; clear hb; have x0 := (HK.out.a _ (.tail _ (.tail _ (.head _)))).c0; have x1 := (HK.out.a _ (.tail _ (.tail _ (.head _)))).c1; have x2 := (HK.out.a _ (.tail _ (.tail _ (.head _)))).c2; have x3 := (HK.out.a _ (.tail _ (.tail _ (.head _)))).c3; have x4 := (HK.out.a _ (.tail _ (.tail _ (.head _)))).c4; have y0 := (HK.out.a _ (.tail _ (.head _))).c0; have y1 := (HK.out.a _ (.tail _ (.head _))).c1; have y2 := (HK.out.a _ (.tail _ (.head _))).c2; have y3 := (HK.out.a _ (.tail _ (.head _))).c3; have y4 := (HK.out.a _ (.tail _ (.head _))).c4; have z0 := (HK.out.a _ (.head _)).c0; have z1 := (HK.out.a _ (.head _)).c1; have z2 := (HK.out.a _ (.head _)).c2; have z3 := (HK.out.a _ (.head _)).c3; have z4 := (HK.out.a _ (.head _)).c4))
  have x3d : ∀ n, (wz.drewN n).cell? ⟨w.heap.size, 3, none⟩ = some (.int .i64 A.b) := fun n => x3
  have y3d : ∀ n, (wz.drewN n).cell? ⟨w.heap.size + 1, 3, none⟩ = some (.int .i64 B.b) := fun n => y3
  refine wp_loop_rounds 4 ?_
  rw [rounds_succ]
  go_wp2_with fail
  go_quiet (fail)
  go_wp2_with fail
  rw [rounds_succ]
  go_wp2_with fail
  go_quiet (fail)
  go_wp2_with fail
  rw [rounds_succ]
  go_wp2_with (go_at_call 12; refine (HAw.out _ (by with_unfolding_all first | exact HK.out.lay | exact (HK.out.next (drewN_below _ _)).lay)).mono ?_; rintro e wq ⟨rfl, hb⟩; have HB9 : Hid (Below w.heap.size w wq) := (by with_unfolding_all first | exact (HK.out.next hb).bel | exact ((HK.out.next (drewN_below _ _)).next hb).bel); clear hb)
  go_ret
  exact ⟨rfl, HB9.out⟩

theorem lawCompare_any (A B C : Ar) (v u t : Value) (w : World) (hw : Ru.Lay w) (hv : RdI w.heap.size w v A.z) (hu : RdI w.heap.size w u B.z) (ht : RdI w.heap.size w t C.z) :
    Calls Tryd.prog 9 #[A5 A.k A.r A.a A.b v, A5 B.k B.r B.a B.b u, A5 C.k C.r C.a C.b t] w fun e w' => e = .returned (.bool true) ∧ Below w.heap.size w w' := by
  by_cases hf : 500 < A.z.length ∨ 500 < B.z.length ∨ 500 < C.z.length
  · exact cmpLaw_far A B C v u t w hw hv hu ht hf
  · have hf' : A.z.length ≤ 500 ∧ B.z.length ≤ 500 ∧ C.z.length ≤ 500 := by omega
    by_cases hb : ck A ≠ 0 ∨ ck B ≠ 0 ∨ ck C ≠ 0
    · exact cmpLaw_bad A B C v u t w hw hv hu ht hf' hb
    · have ga := ck_good (show ck A = 0 by omega)
      have gb := ck_good (show ck B = 0 by omega)
      have gc := ck_good (show ck C = 0 by omega)
      have hlz : cmV A B = 0 → likeB A B = true := fun h => by
        obtain rfl := (cm_law ga gb gc).2.2.1.1 h
        simp [likeB]
      have hsub : likeB A B = false → A.k ≠ B.k ∨ (A.k = B.k ∧ A.r ≠ B.r) ∨ (A.k = B.k ∧ A.r = B.r ∧ A.a ≠ B.a) ∨ (A.k = B.k ∧ A.r = B.r ∧ A.a = B.a ∧ A.b ≠ B.b) := fun h => by
        have := of_decide_eq_false h
        omega
      rcases ways ga gb gc with ⟨h1, h2⟩ | ⟨h1, h2, h3⟩ | ⟨h1, h2, h3, h4⟩ | ⟨h1, h2, h3⟩ | ⟨h1, h2, h3, h4⟩
      · cases hl : likeB A B
        · rcases hsub hl with hd | ⟨h5, hd⟩ | ⟨h5, h6, hd⟩ | ⟨h5, h6, h7, hd⟩
          · exact cmpLaw_P_k A B C v u t w hw hv hu ht hf' ga gb gc h1 h2  hl hd
          · exact cmpLaw_P_r A B C v u t w hw hv hu ht hf' ga gb gc h1 h2  hl h5 hd
          · exact cmpLaw_P_a A B C v u t w hw hv hu ht hf' ga gb gc h1 h2  hl h5 h6 hd
          · exact cmpLaw_P_b A B C v u t w hw hv hu ht hf' ga gb gc h1 h2  hl h5 h6 h7 hd
        · exact cmpLaw_P_like A B C v u t w hw hv hu ht hf' ga gb gc h1 h2  hl
      · exact cmpLaw_Z1_like A B C v u t w hw hv hu ht hf' ga gb gc h1 h2 h3 (hlz h1)
      · exact cmpLaw_Z2_like A B C v u t w hw hv hu ht hf' ga gb gc h1 h2 h3 h4 (hlz h1)
      · cases hl : likeB A B
        · rcases hsub hl with hd | ⟨h5, hd⟩ | ⟨h5, h6, hd⟩ | ⟨h5, h6, h7, hd⟩
          · exact cmpLaw_N1_k A B C v u t w hw hv hu ht hf' ga gb gc h1 h2 h3 hl hd
          · exact cmpLaw_N1_r A B C v u t w hw hv hu ht hf' ga gb gc h1 h2 h3 hl h5 hd
          · exact cmpLaw_N1_a A B C v u t w hw hv hu ht hf' ga gb gc h1 h2 h3 hl h5 h6 hd
          · exact cmpLaw_N1_b A B C v u t w hw hv hu ht hf' ga gb gc h1 h2 h3 hl h5 h6 h7 hd
        · exact cmpLaw_N1_like A B C v u t w hw hv hu ht hf' ga gb gc h1 h2 h3 hl
      · cases hl : likeB A B
        · rcases hsub hl with hd | ⟨h5, hd⟩ | ⟨h5, h6, hd⟩ | ⟨h5, h6, h7, hd⟩
          · exact cmpLaw_N2_k A B C v u t w hw hv hu ht hf' ga gb gc h1 h2 h3 h4 hl hd
          · exact cmpLaw_N2_r A B C v u t w hw hv hu ht hf' ga gb gc h1 h2 h3 h4 hl h5 hd
          · exact cmpLaw_N2_a A B C v u t w hw hv hu ht hf' ga gb gc h1 h2 h3 h4 hl h5 h6 hd
          · exact cmpLaw_N2_b A B C v u t w hw hv hu ht hf' ga gb gc h1 h2 h3 h4 hl h5 h6 h7 hd
        · exact cmpLaw_N2_like A B C v u t w hw hv hu ht hf' ga gb gc h1 h2 h3 h4 hl
end Go.Proofs.YtmacimkkgiogbaaDoor
