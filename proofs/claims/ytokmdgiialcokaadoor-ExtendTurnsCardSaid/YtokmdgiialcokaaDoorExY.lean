/- The law ExtendTurns. -/
import Derived.Test.YtokmdgiialcokaaDoorExL
import Derived.Test.YtokmdgiialcokaaDoorExX
import Derived.Test.YtokmdgiialcokaaDoorMvU
import Derived.Deep.DeepCutAuto
namespace Go.Proofs.YtokmdgiialcokaaDoor
open Go.RowKit

set_option maxRecDepth 100000 in
set_option maxHeartbeats 4000000 in
theorem turns_any (p : Int) (w : World) : Calls Tryd.prog 17 #[.int .i64 p] w fun e w' => e = .returned (.bool (tnB p)) ∧ Below w.heap.size w w' := by
  unfold tnB
  go_enter Tryd.func17, Tryd.ntmps17
  go_wp2
  all_goals (go_ret; refine ⟨ret_bool ?_, Below.refl _ _⟩; (first | (simp at *; omega) | (symm; simp at *; omega) | (rw [Bool.eq_iff_iff]; simp at *; omega)))
set_option maxRecDepth 100000 in
theorem wp_store5 {o : Oper} {a : Act} {w : World} {next : Act → World → Prop} {Q : Exit → Act → World → Prop} (x y : Operand) {g : Nat} {k0 r0 a0 b0 : Int} {v0 : Value} (k r a1 b : Int) (q : Option Addr) (n c : Nat)
    (ho : o.op = .store 25 x y) (hd : o.dst = none) (hx : a.eval x = .pointer (some ⟨g, 0, none⟩)) (hy : a.eval y = A5 k r a1 b (.slice q n c)) (hR : R5 w g k0 r0 a0 b0 v0)
    (hn : next a (st5 w g k r a1 b (.slice q n c))) : Oper.wp Tryd.prog o a w next Q := by
  have y0 := hR.c0; have y1 := hR.c1; have y2 := hR.c2; have y3 := hR.c3; have y4 := hR.c4; have f0 := hR.fr 0; have f1 := hR.fr 1; have f2 := hR.fr 2; have f3 := hR.fr 3; have f4 := hR.fr 4; have HS := hR.set k r a1 b (.slice q n c); have z0 := HS.c0; have z1 := HS.c1; have z2 := HS.c2; have z3 := HS.c3; have z4 := HS.c4
  unfold Oper.wp execOp
  rw [ho]
  simp only [hx, hy, hd]
  go_simp
  exact hn
theorem KVar.addAt2 {w W W0 : World} {l : List Bk} {b1 b2 : Bk} (h : KVar w l W0) (m1 : b1 ∈ l) (m2 : b2 ∈ l) (hb : Below W0.heap.size W0 W) {g1 g2 : Nat} (h1 : W0.heap.size ≤ g1) (h2 : W0.heap.size ≤ g2) (r1 : R5 W g1 b1.A.k b1.A.r b1.A.a b1.A.b b1.v) (r2 : R5 W g2 b2.A.k b2.A.r b2.A.a b2.A.b b2.v) :
    KVar w (⟨g2, b2.A, b2.v⟩ :: ⟨g1, b1.A, b1.v⟩ :: l) W := by
  have hn := h.next hb
  have hx : ∀ b, b ∈ l → RdX (g2 :: g1 :: l.map Bk.g) W b.v b.A.z := fun b m => (((h.all b m).2.2.1.more h1).more h2).keep hb.size fun c _ hc => hb.block c hc
  refine ⟨hn.bel, hn.lay, h.sz0, fun b m => ?_⟩
  rcases List.mem_cons.1 m with rfl | m
  · exact ⟨⟨Nat.le_trans h.bel.size h2, r2.lt⟩, r2, hx b2 m2, h.n b2 m2⟩
  rcases List.mem_cons.1 m with rfl | m
  · exact ⟨⟨Nat.le_trans h.bel.size h1, r1.lt⟩, r1, hx b1 m1, h.n b1 m1⟩
  · exact ⟨(hn.all b m).1, hn.a b m, hx b m, h.n b m⟩
set_option maxRecDepth 100000 in
set_option maxHeartbeats 64000000 in
theorem lawTurns_any (p : Int) (A B : Ar) (v u : Value) (w : World) (hw : Ru.Lay w) (hv : RdI w.heap.size w v A.z) (hu : RdI w.heap.size w u B.z) (hn : Ru.NilC v) (hn' : Ru.NilC u) (h64 : in64 A.z) (h64' : in64 B.z) (haw : ∀ W, Ru.Lay W → Calls Tryd.prog 15 #[] W fun e w' => e = .returned (.bool true) ∧ Below W.heap.size W w') :
    Calls Tryd.prog 3 #[.int .i64 p, A5 A.k A.r A.a A.b v, A5 B.k B.r B.a B.b u] w fun e w' => e = .returned (.bool true) ∧ Below w.heap.size w w' := by
  have HTn := Lib.hid (fun W => turns_any p W)
  have HF1 := Lib.hid (fun W h => far7_any A v W h)
  have HF2 := Lib.hid (fun W h => far7_any B u W h)
  have HAw := Lib.hid haw
  clear haw
  have HK := Lib.hid (KVar.two hw hv hu hn hn')
  have HI := Lib.hid h64
  have HJ := Lib.hid h64'
  obtain ⟨q, cap, rfl, hv1, hv2, hv3⟩ := hv
  obtain ⟨q', cap', rfl, hu1, hu2, hu3⟩ := hu
  clear hw hn hn' hv1 hv2 hv3 hu1 hu2 hu3 h64 h64'
  have x0 := (HK.out.a _ (.tail _ (.head _))).c0
  have x1 := (HK.out.a _ (.tail _ (.head _))).c1
  have x2 := (HK.out.a _ (.tail _ (.head _))).c2
  have x3 := (HK.out.a _ (.tail _ (.head _))).c3
  have x4 := (HK.out.a _ (.tail _ (.head _))).c4
  have y0 := (HK.out.a _ (.head _)).c0
  have y1 := (HK.out.a _ (.head _)).c1
  have y2 := (HK.out.a _ (.head _)).c2
  have y3 := (HK.out.a _ (.head _)).c3
  have y4 := (HK.out.a _ (.head _)).c4
  by_cases hf : 405 < A.z.length
  · rw [decide_eq_true hf] at HF1
    clear hf
    as_aux_lemma =>
      go_enter Tryd.func3, Tryd.ntmps3
      go_wp2_with (first
        | (go_at_call 13; (with_reducible refine (HF1.out _ (by with_unfolding_all exact HK.out.r _ (.tail _ (.head _)))).mono ?_); rintro e wz ⟨rfl, hb⟩; have HK2 := Lib.hid (HK.out.next hb); clear HK x0 x1 x2 x3 x4 y0 y1 y2 y3 y4; have HK := HK2; clear HK2; clear hb; have x0 := (HK.out.a _ (.tail _ (.head _))).c0; have x1 := (HK.out.a _ (.tail _ (.head _))).c1; have x2 := (HK.out.a _ (.tail _ (.head _))).c2; have x3 := (HK.out.a _ (.tail _ (.head _))).c3; have x4 := (HK.out.a _ (.tail _ (.head _))).c4; have y0 := (HK.out.a _ (.head _)).c0; have y1 := (HK.out.a _ (.head _)).c1; have y2 := (HK.out.a _ (.head _)).c2; have y3 := (HK.out.a _ (.head _)).c3; have y4 := (HK.out.a _ (.head _)).c4)
        | (go_at_call 13; (with_reducible refine (HF2.out _ (by with_unfolding_all exact HK.out.r _ (.head _))).mono ?_); rintro e wz ⟨rfl, hb⟩; have HK2 := Lib.hid (HK.out.next hb); clear HK x0 x1 x2 x3 x4 y0 y1 y2 y3 y4; have HK := HK2; clear HK2; clear hb; have x0 := (HK.out.a _ (.tail _ (.head _))).c0; have x1 := (HK.out.a _ (.tail _ (.head _))).c1; have x2 := (HK.out.a _ (.tail _ (.head _))).c2; have x3 := (HK.out.a _ (.tail _ (.head _))).c3; have x4 := (HK.out.a _ (.tail _ (.head _))).c4; have y0 := (HK.out.a _ (.head _)).c0; have y1 := (HK.out.a _ (.head _)).c1; have y2 := (HK.out.a _ (.head _)).c2; have y3 := (HK.out.a _ (.head _)).c3; have y4 := (HK.out.a _ (.head _)).c4)
        | (go_at_call 15; (with_reducible refine (HAw.out _ (by with_unfolding_all exact HK.out.lay)).mono ?_); rintro e wz ⟨rfl, hb⟩; have HK2 := Lib.hid (HK.out.next hb); clear HK x0 x1 x2 x3 x4 y0 y1 y2 y3 y4; have HK := HK2; clear HK2; clear hb; have x0 := (HK.out.a _ (.tail _ (.head _))).c0; have x1 := (HK.out.a _ (.tail _ (.head _))).c1; have x2 := (HK.out.a _ (.tail _ (.head _))).c2; have x3 := (HK.out.a _ (.tail _ (.head _))).c3; have x4 := (HK.out.a _ (.tail _ (.head _))).c4; have y0 := (HK.out.a _ (.head _)).c0; have y1 := (HK.out.a _ (.head _)).c1; have y2 := (HK.out.a _ (.head _)).c2; have y3 := (HK.out.a _ (.head _)).c3; have y4 := (HK.out.a _ (.head _)).c4))
      go_ret
      exact ⟨rfl, HK.out.bel⟩
  rw [decide_eq_false hf] at HF1
  by_cases hg : 405 < B.z.length
  · rw [decide_eq_true hg] at HF2
    clear hf hg
    as_aux_lemma =>
      go_enter Tryd.func3, Tryd.ntmps3
      go_wp2_with (first
        | (go_at_call 13; (with_reducible refine (HF1.out _ (by with_unfolding_all exact HK.out.r _ (.tail _ (.head _)))).mono ?_); rintro e wz ⟨rfl, hb⟩; have HK2 := Lib.hid (HK.out.next hb); clear HK x0 x1 x2 x3 x4 y0 y1 y2 y3 y4; have HK := HK2; clear HK2; clear hb; have x0 := (HK.out.a _ (.tail _ (.head _))).c0; have x1 := (HK.out.a _ (.tail _ (.head _))).c1; have x2 := (HK.out.a _ (.tail _ (.head _))).c2; have x3 := (HK.out.a _ (.tail _ (.head _))).c3; have x4 := (HK.out.a _ (.tail _ (.head _))).c4; have y0 := (HK.out.a _ (.head _)).c0; have y1 := (HK.out.a _ (.head _)).c1; have y2 := (HK.out.a _ (.head _)).c2; have y3 := (HK.out.a _ (.head _)).c3; have y4 := (HK.out.a _ (.head _)).c4)
        | (go_at_call 13; (with_reducible refine (HF2.out _ (by with_unfolding_all exact HK.out.r _ (.head _))).mono ?_); rintro e wz ⟨rfl, hb⟩; have HK2 := Lib.hid (HK.out.next hb); clear HK x0 x1 x2 x3 x4 y0 y1 y2 y3 y4; have HK := HK2; clear HK2; clear hb; have x0 := (HK.out.a _ (.tail _ (.head _))).c0; have x1 := (HK.out.a _ (.tail _ (.head _))).c1; have x2 := (HK.out.a _ (.tail _ (.head _))).c2; have x3 := (HK.out.a _ (.tail _ (.head _))).c3; have x4 := (HK.out.a _ (.tail _ (.head _))).c4; have y0 := (HK.out.a _ (.head _)).c0; have y1 := (HK.out.a _ (.head _)).c1; have y2 := (HK.out.a _ (.head _)).c2; have y3 := (HK.out.a _ (.head _)).c3; have y4 := (HK.out.a _ (.head _)).c4)
        | (go_at_call 15; (with_reducible refine (HAw.out _ (by with_unfolding_all exact HK.out.lay)).mono ?_); rintro e wz ⟨rfl, hb⟩; have HK2 := Lib.hid (HK.out.next hb); clear HK x0 x1 x2 x3 x4 y0 y1 y2 y3 y4; have HK := HK2; clear HK2; clear hb; have x0 := (HK.out.a _ (.tail _ (.head _))).c0; have x1 := (HK.out.a _ (.tail _ (.head _))).c1; have x2 := (HK.out.a _ (.tail _ (.head _))).c2; have x3 := (HK.out.a _ (.tail _ (.head _))).c3; have x4 := (HK.out.a _ (.tail _ (.head _))).c4; have y0 := (HK.out.a _ (.head _)).c0; have y1 := (HK.out.a _ (.head _)).c1; have y2 := (HK.out.a _ (.head _)).c2; have y3 := (HK.out.a _ (.head _)).c3; have y4 := (HK.out.a _ (.head _)).c4))
      go_ret
      exact ⟨rfl, HK.out.bel⟩
  rw [decide_eq_false hg] at HF2
  have HC1 := Lib.hid (fun W h => archeck_any A (.slice q A.z.length cap) W h (by omega))
  have HC2 := Lib.hid (fun W h => archeck_any B (.slice q' B.z.length cap') W h (by omega))
  by_cases h1 : ck A ≠ 0
  · generalize ck A = E at HC1 h1
    have k1 : (E != 0) = true := by simpa using h1
    clear hf hg h1
    as_aux_lemma =>
      go_enter Tryd.func3, Tryd.ntmps3
      go_wp2_with (first
        | (go_at_call 13; (with_reducible refine (HF1.out _ (by with_unfolding_all exact HK.out.r _ (.tail _ (.head _)))).mono ?_); rintro e wz ⟨rfl, hb⟩; have HK2 := Lib.hid (HK.out.next hb); clear HK x0 x1 x2 x3 x4 y0 y1 y2 y3 y4; have HK := HK2; clear HK2; clear hb; have x0 := (HK.out.a _ (.tail _ (.head _))).c0; have x1 := (HK.out.a _ (.tail _ (.head _))).c1; have x2 := (HK.out.a _ (.tail _ (.head _))).c2; have x3 := (HK.out.a _ (.tail _ (.head _))).c3; have x4 := (HK.out.a _ (.tail _ (.head _))).c4; have y0 := (HK.out.a _ (.head _)).c0; have y1 := (HK.out.a _ (.head _)).c1; have y2 := (HK.out.a _ (.head _)).c2; have y3 := (HK.out.a _ (.head _)).c3; have y4 := (HK.out.a _ (.head _)).c4)
        | (go_at_call 13; (with_reducible refine (HF2.out _ (by with_unfolding_all exact HK.out.r _ (.head _))).mono ?_); rintro e wz ⟨rfl, hb⟩; have HK2 := Lib.hid (HK.out.next hb); clear HK x0 x1 x2 x3 x4 y0 y1 y2 y3 y4; have HK := HK2; clear HK2; clear hb; have x0 := (HK.out.a _ (.tail _ (.head _))).c0; have x1 := (HK.out.a _ (.tail _ (.head _))).c1; have x2 := (HK.out.a _ (.tail _ (.head _))).c2; have x3 := (HK.out.a _ (.tail _ (.head _))).c3; have x4 := (HK.out.a _ (.tail _ (.head _))).c4; have y0 := (HK.out.a _ (.head _)).c0; have y1 := (HK.out.a _ (.head _)).c1; have y2 := (HK.out.a _ (.head _)).c2; have y3 := (HK.out.a _ (.head _)).c3; have y4 := (HK.out.a _ (.head _)).c4)
        | (go_at_call 14; (with_reducible refine (HC2.out _ (by with_unfolding_all exact HK.out.r _ (.head _))).mono ?_); rintro e wz ⟨rfl, hb⟩; have HK2 := Lib.hid (HK.out.next hb); clear HK x0 x1 x2 x3 x4 y0 y1 y2 y3 y4; have HK := HK2; clear HK2; clear hb; have x0 := (HK.out.a _ (.tail _ (.head _))).c0; have x1 := (HK.out.a _ (.tail _ (.head _))).c1; have x2 := (HK.out.a _ (.tail _ (.head _))).c2; have x3 := (HK.out.a _ (.tail _ (.head _))).c3; have x4 := (HK.out.a _ (.tail _ (.head _))).c4; have y0 := (HK.out.a _ (.head _)).c0; have y1 := (HK.out.a _ (.head _)).c1; have y2 := (HK.out.a _ (.head _)).c2; have y3 := (HK.out.a _ (.head _)).c3; have y4 := (HK.out.a _ (.head _)).c4)
        | (go_at_call 14; (with_reducible refine (HC1.out _ (by with_unfolding_all exact HK.out.r _ (.tail _ (.head _)))).mono ?_); rintro e wz ⟨rfl, hb⟩; have HK2 := Lib.hid (HK.out.next hb); clear HK x0 x1 x2 x3 x4 y0 y1 y2 y3 y4; have HK := HK2; clear HK2; clear hb; have x0 := (HK.out.a _ (.tail _ (.head _))).c0; have x1 := (HK.out.a _ (.tail _ (.head _))).c1; have x2 := (HK.out.a _ (.tail _ (.head _))).c2; have x3 := (HK.out.a _ (.tail _ (.head _))).c3; have x4 := (HK.out.a _ (.tail _ (.head _))).c4; have y0 := (HK.out.a _ (.head _)).c0; have y1 := (HK.out.a _ (.head _)).c1; have y2 := (HK.out.a _ (.head _)).c2; have y3 := (HK.out.a _ (.head _)).c3; have y4 := (HK.out.a _ (.head _)).c4)
        | (go_at_call 15; (with_reducible refine (HAw.out _ (by with_unfolding_all exact HK.out.lay)).mono ?_); rintro e wz ⟨rfl, hb⟩; have HK2 := Lib.hid (HK.out.next hb); clear HK x0 x1 x2 x3 x4 y0 y1 y2 y3 y4; have HK := HK2; clear HK2; clear hb; have x0 := (HK.out.a _ (.tail _ (.head _))).c0; have x1 := (HK.out.a _ (.tail _ (.head _))).c1; have x2 := (HK.out.a _ (.tail _ (.head _))).c2; have x3 := (HK.out.a _ (.tail _ (.head _))).c3; have x4 := (HK.out.a _ (.tail _ (.head _))).c4; have y0 := (HK.out.a _ (.head _)).c0; have y1 := (HK.out.a _ (.head _)).c1; have y2 := (HK.out.a _ (.head _)).c2; have y3 := (HK.out.a _ (.head _)).c3; have y4 := (HK.out.a _ (.head _)).c4))
      go_ret
      exact ⟨rfl, HK.out.bel⟩
  by_cases h2 : ck B ≠ 0
  · have h1' : ck A = 0 := by omega
    rw [h1'] at HC1
    generalize ck B = E at HC2 h2
    have k1 : (E != 0) = true := by simpa using h2
    clear hf hg h1 h2 h1'
    as_aux_lemma =>
      go_enter Tryd.func3, Tryd.ntmps3
      go_wp2_with (first
        | (go_at_call 13; (with_reducible refine (HF1.out _ (by with_unfolding_all exact HK.out.r _ (.tail _ (.head _)))).mono ?_); rintro e wz ⟨rfl, hb⟩; have HK2 := Lib.hid (HK.out.next hb); clear HK x0 x1 x2 x3 x4 y0 y1 y2 y3 y4; have HK := HK2; clear HK2; clear hb; have x0 := (HK.out.a _ (.tail _ (.head _))).c0; have x1 := (HK.out.a _ (.tail _ (.head _))).c1; have x2 := (HK.out.a _ (.tail _ (.head _))).c2; have x3 := (HK.out.a _ (.tail _ (.head _))).c3; have x4 := (HK.out.a _ (.tail _ (.head _))).c4; have y0 := (HK.out.a _ (.head _)).c0; have y1 := (HK.out.a _ (.head _)).c1; have y2 := (HK.out.a _ (.head _)).c2; have y3 := (HK.out.a _ (.head _)).c3; have y4 := (HK.out.a _ (.head _)).c4)
        | (go_at_call 13; (with_reducible refine (HF2.out _ (by with_unfolding_all exact HK.out.r _ (.head _))).mono ?_); rintro e wz ⟨rfl, hb⟩; have HK2 := Lib.hid (HK.out.next hb); clear HK x0 x1 x2 x3 x4 y0 y1 y2 y3 y4; have HK := HK2; clear HK2; clear hb; have x0 := (HK.out.a _ (.tail _ (.head _))).c0; have x1 := (HK.out.a _ (.tail _ (.head _))).c1; have x2 := (HK.out.a _ (.tail _ (.head _))).c2; have x3 := (HK.out.a _ (.tail _ (.head _))).c3; have x4 := (HK.out.a _ (.tail _ (.head _))).c4; have y0 := (HK.out.a _ (.head _)).c0; have y1 := (HK.out.a _ (.head _)).c1; have y2 := (HK.out.a _ (.head _)).c2; have y3 := (HK.out.a _ (.head _)).c3; have y4 := (HK.out.a _ (.head _)).c4)
        | (go_at_call 14; (with_reducible refine (HC2.out _ (by with_unfolding_all exact HK.out.r _ (.head _))).mono ?_); rintro e wz ⟨rfl, hb⟩; have HK2 := Lib.hid (HK.out.next hb); clear HK x0 x1 x2 x3 x4 y0 y1 y2 y3 y4; have HK := HK2; clear HK2; clear hb; have x0 := (HK.out.a _ (.tail _ (.head _))).c0; have x1 := (HK.out.a _ (.tail _ (.head _))).c1; have x2 := (HK.out.a _ (.tail _ (.head _))).c2; have x3 := (HK.out.a _ (.tail _ (.head _))).c3; have x4 := (HK.out.a _ (.tail _ (.head _))).c4; have y0 := (HK.out.a _ (.head _)).c0; have y1 := (HK.out.a _ (.head _)).c1; have y2 := (HK.out.a _ (.head _)).c2; have y3 := (HK.out.a _ (.head _)).c3; have y4 := (HK.out.a _ (.head _)).c4)
        | (go_at_call 14; (with_reducible refine (HC1.out _ (by with_unfolding_all exact HK.out.r _ (.tail _ (.head _)))).mono ?_); rintro e wz ⟨rfl, hb⟩; have HK2 := Lib.hid (HK.out.next hb); clear HK x0 x1 x2 x3 x4 y0 y1 y2 y3 y4; have HK := HK2; clear HK2; clear hb; have x0 := (HK.out.a _ (.tail _ (.head _))).c0; have x1 := (HK.out.a _ (.tail _ (.head _))).c1; have x2 := (HK.out.a _ (.tail _ (.head _))).c2; have x3 := (HK.out.a _ (.tail _ (.head _))).c3; have x4 := (HK.out.a _ (.tail _ (.head _))).c4; have y0 := (HK.out.a _ (.head _)).c0; have y1 := (HK.out.a _ (.head _)).c1; have y2 := (HK.out.a _ (.head _)).c2; have y3 := (HK.out.a _ (.head _)).c3; have y4 := (HK.out.a _ (.head _)).c4)
        | (go_at_call 15; (with_reducible refine (HAw.out _ (by with_unfolding_all exact HK.out.lay)).mono ?_); rintro e wz ⟨rfl, hb⟩; have HK2 := Lib.hid (HK.out.next hb); clear HK x0 x1 x2 x3 x4 y0 y1 y2 y3 y4; have HK := HK2; clear HK2; clear hb; have x0 := (HK.out.a _ (.tail _ (.head _))).c0; have x1 := (HK.out.a _ (.tail _ (.head _))).c1; have x2 := (HK.out.a _ (.tail _ (.head _))).c2; have x3 := (HK.out.a _ (.tail _ (.head _))).c3; have x4 := (HK.out.a _ (.tail _ (.head _))).c4; have y0 := (HK.out.a _ (.head _)).c0; have y1 := (HK.out.a _ (.head _)).c1; have y2 := (HK.out.a _ (.head _)).c2; have y3 := (HK.out.a _ (.head _)).c3; have y4 := (HK.out.a _ (.head _)).c4))
      go_ret
      exact ⟨rfl, HK.out.bel⟩
  have h1' : ck A = 0 := by omega
  have h2' : ck B = 0 := by omega
  rw [h1'] at HC1
  rw [h2'] at HC2
  clear h1 h2
  have hA := ck_good h1'
  have hB := ck_good h2'
  have h4 := hA.len4
  have h5 := hB.len4
  have hXa := rx_is hA
  have hXb := rx_is hB
  have HIx : Hid (in64 (rxV A).z) := fun y hy => HI.out y (mem_rx hA hy)
  have HJx : Hid (in64 (rxV B).z) := fun y hy => HJ.out y (mem_rx hB hy)
  have HT1 := Lib.hid (fun W h0 h1 h2 => etwo_any p A B (.slice q A.z.length cap) (.slice q' B.z.length cap') W h0 h1 h2 (by omega) (by omega) HI.out HJ.out)
  have HT2 := Lib.hid (fun W h0 h1 h2 => etwo_any p B A (.slice q' B.z.length cap') (.slice q A.z.length cap) W h0 h1 h2 (by omega) (by omega) HJ.out HI.out)
  have HT3 := Lib.hid (fun v u W h0 h1 h2 => etwo_any p (rxV A) (rxV B) v u W h0 h1 h2 (by rw [hXa.l]; omega) (by rw [hXb.l]; omega) HIx.out HJx.out)
  have HO1 := Lib.hid (fun W h0 h1 => eone_any p A (.slice q A.z.length cap) W h0 h1 (by omega) HI.out)
  have HO2 := Lib.hid (fun v W h0 h1 => eone_any p (rxV A) v W h0 h1 (by rw [hXa.l]; omega) HIx.out)
  have HR1 := Lib.hid (fun W h0 h1 => rreverse7_any A (.slice q A.z.length cap) W h0 h1 (by omega))
  have HR2 := Lib.hid (fun W h0 h1 => rreverse7_any B (.slice q' B.z.length cap') W h0 h1 (by omega))
  have HR3 := Lib.hid (fun v W h0 h1 => rreverse7_any (twV p A B) v W h0 h1 (Nat.le_trans (twV_len p A B) (by omega)))
  have HR4 := Lib.hid (fun v W h0 h1 => rreverse7_any (onV p A) v W h0 h1 (Nat.le_trans (onV_len p A) (by omega)))
  have l1 : (twV p A B).z.length ≤ 1000000 := Nat.le_trans (twV_len _ _ _) (by omega)
  have l2 : (twV p (rxV A) (rxV B)).z.length ≤ 1000000 := Nat.le_trans (twV_len _ _ _) (by rw [hXa.l, hXb.l]; omega)
  have l3 : (onV p (rxV A)).z.length ≤ 1000000 := Nat.le_trans (onV_len _ _) (by rw [hXa.l]; omega)
  have HSy := Lib.hid (fun h => tw_sym (p := p) hA hB h)
  have HBo := Lib.hid (tn_both (p := p) hA hB)
  have HVa := Lib.hid (fun h => tn_val (p := p) hA hB h)
  have HBn := Lib.hid (on_both (p := p) hA)
  have HVn := Lib.hid (fun h => on_val (p := p) hA h)
  have HGt := Lib.hid (fun h => tw_good (p := p) hA hB h)
  have HGo := Lib.hid (fun h => on_good (p := p) hA h)
  have HrC : Hid (twE p A B = 0 → (twV p A B).r = (boV A B).r) := fun h => by rw [twV_ok h]
  have HrO : Hid (onE p A = 0 → (onV p A).r = A.r) := fun h => by rw [onV_ok h]
  have HN0 : Hid (twE p A B ≠ 0 → twV p A B = ⟨0, 0, 0, 0, []⟩) := fun h => orNo_no h
  clear hXa hXb HI HJ HIx HJx hf hg h1' h2' h4 h5
  generalize onV p (rxV A) = Q at HO2 HVn l3
  generalize onE p (rxV A) = J at HO2 HBn
  generalize onV p A = P at HO1 HR4 HVn HGo HrO
  generalize onE p A = I at HO1 HBn HVn HGo HrO
  generalize twV p (rxV A) (rxV B) = G at HT3 HVa l2
  generalize twE p (rxV A) (rxV B) = EG at HT3 HBo
  generalize twV p A B = M at HT1 HR3 HSy HVa HGt HrC HN0 l1
  generalize twE p A B = E at HT1 HSy HBo HVa HGt HrC HN0
  generalize twV p B A = O at HT2 HSy
  generalize twE p B A = E' at HT2 HSy
  clear HrC HN0
  obtain ⟨m1, m2, m3, m4, m5⟩ := M
  obtain ⟨n1, n2, n3, n4, n5⟩ := O
  have HS1 := Lib.hid (fun v u W h1 h2 => alike_eq ⟨m1, m2, m3, m4, m5⟩ E v u W h1 h2 l1)
  clear l1
  go_enter Tryd.func3, Tryd.ntmps3
  go_upto_region 5 with (first
    | (go_at_call 13; (with_reducible refine (HF1.out _ (by with_unfolding_all exact HK.out.r _ (.tail _ (.head _)))).mono ?_); rintro e wz ⟨rfl, hb⟩; have HK2 := Lib.hid (HK.out.next hb); clear HK x0 x1 x2 x3 x4 y0 y1 y2 y3 y4; have HK := HK2; clear HK2; clear hb; have x0 := (HK.out.a _ (.tail _ (.head _))).c0; have x1 := (HK.out.a _ (.tail _ (.head _))).c1; have x2 := (HK.out.a _ (.tail _ (.head _))).c2; have x3 := (HK.out.a _ (.tail _ (.head _))).c3; have x4 := (HK.out.a _ (.tail _ (.head _))).c4; have y0 := (HK.out.a _ (.head _)).c0; have y1 := (HK.out.a _ (.head _)).c1; have y2 := (HK.out.a _ (.head _)).c2; have y3 := (HK.out.a _ (.head _)).c3; have y4 := (HK.out.a _ (.head _)).c4)
    | (go_at_call 13; (with_reducible refine (HF2.out _ (by with_unfolding_all exact HK.out.r _ (.head _))).mono ?_); rintro e wz ⟨rfl, hb⟩; have HK2 := Lib.hid (HK.out.next hb); clear HK x0 x1 x2 x3 x4 y0 y1 y2 y3 y4; have HK := HK2; clear HK2; clear hb; have x0 := (HK.out.a _ (.tail _ (.head _))).c0; have x1 := (HK.out.a _ (.tail _ (.head _))).c1; have x2 := (HK.out.a _ (.tail _ (.head _))).c2; have x3 := (HK.out.a _ (.tail _ (.head _))).c3; have x4 := (HK.out.a _ (.tail _ (.head _))).c4; have y0 := (HK.out.a _ (.head _)).c0; have y1 := (HK.out.a _ (.head _)).c1; have y2 := (HK.out.a _ (.head _)).c2; have y3 := (HK.out.a _ (.head _)).c3; have y4 := (HK.out.a _ (.head _)).c4)
    | (go_at_call 14; (with_reducible refine (HC2.out _ (by with_unfolding_all exact HK.out.r _ (.head _))).mono ?_); rintro e wz ⟨rfl, hb⟩; have HK2 := Lib.hid (HK.out.next hb); clear HK x0 x1 x2 x3 x4 y0 y1 y2 y3 y4; have HK := HK2; clear HK2; clear hb; have x0 := (HK.out.a _ (.tail _ (.head _))).c0; have x1 := (HK.out.a _ (.tail _ (.head _))).c1; have x2 := (HK.out.a _ (.tail _ (.head _))).c2; have x3 := (HK.out.a _ (.tail _ (.head _))).c3; have x4 := (HK.out.a _ (.tail _ (.head _))).c4; have y0 := (HK.out.a _ (.head _)).c0; have y1 := (HK.out.a _ (.head _)).c1; have y2 := (HK.out.a _ (.head _)).c2; have y3 := (HK.out.a _ (.head _)).c3; have y4 := (HK.out.a _ (.head _)).c4)
    | (go_at_call 14; (with_reducible refine (HC1.out _ (by with_unfolding_all exact HK.out.r _ (.tail _ (.head _)))).mono ?_); rintro e wz ⟨rfl, hb⟩; have HK2 := Lib.hid (HK.out.next hb); clear HK x0 x1 x2 x3 x4 y0 y1 y2 y3 y4; have HK := HK2; clear HK2; clear hb; have x0 := (HK.out.a _ (.tail _ (.head _))).c0; have x1 := (HK.out.a _ (.tail _ (.head _))).c1; have x2 := (HK.out.a _ (.tail _ (.head _))).c2; have x3 := (HK.out.a _ (.tail _ (.head _))).c3; have x4 := (HK.out.a _ (.tail _ (.head _))).c4; have y0 := (HK.out.a _ (.head _)).c0; have y1 := (HK.out.a _ (.head _)).c1; have y2 := (HK.out.a _ (.head _)).c2; have y3 := (HK.out.a _ (.head _)).c3; have y4 := (HK.out.a _ (.head _)).c4)
    | (go_at_call 16; (with_reducible refine (HT2.out _ (by with_unfolding_all exact HK.out.lay) (by with_unfolding_all exact HK.out.r _ (.tail _ (.head _))) (by with_unfolding_all exact HK.out.r _ (.tail _ (.tail _ (.head _))))).mono ?_); rintro e wb ⟨uwb, rfl, hu, hb⟩; obtain ⟨pwb, cwb, hpwb, _, _⟩ := hu.form; have hqwb : uwb = (.slice pwb n5.length cwb) := hpwb; subst hqwb; clear hpwb; have hltcd : wa.heap.size < wb.heap.size := Nat.lt_of_lt_of_le (HK.out.lt _ (.head _)) hb.size; have hltyd : (w.heap.size + 1) < wb.heap.size := Nat.lt_of_lt_of_le (HK.out.lt _ (.tail _ (.head _))) hb.size; have hltxd : w.heap.size < wb.heap.size := Nat.lt_of_lt_of_le (HK.out.lt _ (.tail _ (.tail _ (.head _)))) hb.size; have HK2 := Lib.hid (HK.out.res hb ⟨n1, n2, n3, n4, n5⟩ hu); clear HK x0 x1 x2 x3 x4 y0 y1 y2 y3 y4 c0 c1 c2 c3 c4; have HK := HK2; clear HK2; clear hb hu; have x0 := (HK.out.a _ (.tail _ (.tail _ (.tail _ (.head _))))).c0; have x1 := (HK.out.a _ (.tail _ (.tail _ (.tail _ (.head _))))).c1; have x2 := (HK.out.a _ (.tail _ (.tail _ (.tail _ (.head _))))).c2; have x3 := (HK.out.a _ (.tail _ (.tail _ (.tail _ (.head _))))).c3; have x4 := (HK.out.a _ (.tail _ (.tail _ (.tail _ (.head _))))).c4; have y0 := (HK.out.a _ (.tail _ (.tail _ (.head _)))).c0; have y1 := (HK.out.a _ (.tail _ (.tail _ (.head _)))).c1; have y2 := (HK.out.a _ (.tail _ (.tail _ (.head _)))).c2; have y3 := (HK.out.a _ (.tail _ (.tail _ (.head _)))).c3; have y4 := (HK.out.a _ (.tail _ (.tail _ (.head _)))).c4; have c0 := (HK.out.a _ (.tail _ (.head _))).c0; have c1 := (HK.out.a _ (.tail _ (.head _))).c1; have c2 := (HK.out.a _ (.tail _ (.head _))).c2; have c3 := (HK.out.a _ (.tail _ (.head _))).c3; have c4 := (HK.out.a _ (.tail _ (.head _))).c4; have d0 := (HK.out.a _ (.head _)).c0; have d1 := (HK.out.a _ (.head _)).c1; have d2 := (HK.out.a _ (.head _)).c2; have d3 := (HK.out.a _ (.head _)).c3; have d4 := (HK.out.a _ (.head _)).c4)
    | (go_at_call 16; (with_reducible refine (HT1.out _ (by with_unfolding_all exact HK.out.lay) (by with_unfolding_all exact HK.out.r _ (.tail _ (.head _))) (by with_unfolding_all exact HK.out.r _ (.head _))).mono ?_); rintro e wa ⟨uwa, rfl, hu, hb⟩; obtain ⟨pwa, cwa, hpwa, _, _⟩ := hu.form; have hqwa : uwa = (.slice pwa m5.length cwa) := hpwa; subst hqwa; clear hpwa; have hltyc : (w.heap.size + 1) < wa.heap.size := Nat.lt_of_lt_of_le (HK.out.lt _ (.head _)) hb.size; have hltxc : w.heap.size < wa.heap.size := Nat.lt_of_lt_of_le (HK.out.lt _ (.tail _ (.head _))) hb.size; have HK2 := Lib.hid (HK.out.res hb ⟨m1, m2, m3, m4, m5⟩ hu); clear HK x0 x1 x2 x3 x4 y0 y1 y2 y3 y4; have HK := HK2; clear HK2; clear hb hu; have x0 := (HK.out.a _ (.tail _ (.tail _ (.head _)))).c0; have x1 := (HK.out.a _ (.tail _ (.tail _ (.head _)))).c1; have x2 := (HK.out.a _ (.tail _ (.tail _ (.head _)))).c2; have x3 := (HK.out.a _ (.tail _ (.tail _ (.head _)))).c3; have x4 := (HK.out.a _ (.tail _ (.tail _ (.head _)))).c4; have y0 := (HK.out.a _ (.tail _ (.head _))).c0; have y1 := (HK.out.a _ (.tail _ (.head _))).c1; have y2 := (HK.out.a _ (.tail _ (.head _))).c2; have y3 := (HK.out.a _ (.tail _ (.head _))).c3; have y4 := (HK.out.a _ (.tail _ (.head _))).c4; have c0 := (HK.out.a _ (.head _)).c0; have c1 := (HK.out.a _ (.head _)).c1; have c2 := (HK.out.a _ (.head _)).c2; have c3 := (HK.out.a _ (.head _)).c3; have c4 := (HK.out.a _ (.head _)).c4)
    | fail)
  go_cut [63] (fun t wx => t = .bool false ∧ KVar w [⟨wb.heap.size, ⟨n1, n2, n3, n4, n5⟩, (.slice pwb n5.length cwb)⟩, ⟨wa.heap.size, ⟨m1, m2, m3, m4, m5⟩, (.slice pwa m5.length cwa)⟩, ⟨(w.heap.size + 1), B, (.slice q' B.z.length cap')⟩, ⟨w.heap.size, A, (.slice q A.z.length cap)⟩] wx)
  case first =>
    as_aux_lemma =>
      clear HF1 HF2 HC1 HC2 HT1 HT2 HT3 HO1 HO2 HR1 HR2 HR3 HR4 HBo HVa HBn HVn HGt HGo HrO HAw l2 l3
      by_cases ht : tnB p = true
      · rw [ht] at HTn
        obtain ⟨rfl, hmo⟩ := HSy.out ht
        simp only [Ar.mk.injEq] at hmo
        obtain ⟨rfl, rfl, rfl, rfl, rfl⟩ := hmo
        clear HSy ht
        go_wp2_with (first
          | (go_at_call 17; (with_reducible refine (HTn.out _).mono ?_); rintro e wz ⟨rfl, hb⟩; have HK2 := Lib.hid (HK.out.next hb); clear HK x0 x1 x2 x3 x4 y0 y1 y2 y3 y4 c0 c1 c2 c3 c4 d0 d1 d2 d3 d4; have HK := HK2; clear HK2; clear hb; have x0 := (HK.out.a _ (.tail _ (.tail _ (.tail _ (.head _))))).c0; have x1 := (HK.out.a _ (.tail _ (.tail _ (.tail _ (.head _))))).c1; have x2 := (HK.out.a _ (.tail _ (.tail _ (.tail _ (.head _))))).c2; have x3 := (HK.out.a _ (.tail _ (.tail _ (.tail _ (.head _))))).c3; have x4 := (HK.out.a _ (.tail _ (.tail _ (.tail _ (.head _))))).c4; have y0 := (HK.out.a _ (.tail _ (.tail _ (.head _)))).c0; have y1 := (HK.out.a _ (.tail _ (.tail _ (.head _)))).c1; have y2 := (HK.out.a _ (.tail _ (.tail _ (.head _)))).c2; have y3 := (HK.out.a _ (.tail _ (.tail _ (.head _)))).c3; have y4 := (HK.out.a _ (.tail _ (.tail _ (.head _)))).c4; have c0 := (HK.out.a _ (.tail _ (.head _))).c0; have c1 := (HK.out.a _ (.tail _ (.head _))).c1; have c2 := (HK.out.a _ (.tail _ (.head _))).c2; have c3 := (HK.out.a _ (.tail _ (.head _))).c3; have c4 := (HK.out.a _ (.tail _ (.head _))).c4; have d0 := (HK.out.a _ (.head _)).c0; have d1 := (HK.out.a _ (.head _)).c1; have d2 := (HK.out.a _ (.head _)).c2; have d3 := (HK.out.a _ (.head _)).c3; have d4 := (HK.out.a _ (.head _)).c4)
          | (go_at_call 18; (with_reducible refine (HS1.out _ _ _ (by with_unfolding_all exact HK.out.r _ (.tail _ (.head _))) (by with_unfolding_all exact HK.out.r _ (.head _))).mono ?_); rintro e wz ⟨rfl, hb⟩; have HK2 := Lib.hid (HK.out.next hb); clear HK x0 x1 x2 x3 x4 y0 y1 y2 y3 y4 c0 c1 c2 c3 c4 d0 d1 d2 d3 d4; have HK := HK2; clear HK2; clear hb; have x0 := (HK.out.a _ (.tail _ (.tail _ (.tail _ (.head _))))).c0; have x1 := (HK.out.a _ (.tail _ (.tail _ (.tail _ (.head _))))).c1; have x2 := (HK.out.a _ (.tail _ (.tail _ (.tail _ (.head _))))).c2; have x3 := (HK.out.a _ (.tail _ (.tail _ (.tail _ (.head _))))).c3; have x4 := (HK.out.a _ (.tail _ (.tail _ (.tail _ (.head _))))).c4; have y0 := (HK.out.a _ (.tail _ (.tail _ (.head _)))).c0; have y1 := (HK.out.a _ (.tail _ (.tail _ (.head _)))).c1; have y2 := (HK.out.a _ (.tail _ (.tail _ (.head _)))).c2; have y3 := (HK.out.a _ (.tail _ (.tail _ (.head _)))).c3; have y4 := (HK.out.a _ (.tail _ (.tail _ (.head _)))).c4; have c0 := (HK.out.a _ (.tail _ (.head _))).c0; have c1 := (HK.out.a _ (.tail _ (.head _))).c1; have c2 := (HK.out.a _ (.tail _ (.head _))).c2; have c3 := (HK.out.a _ (.tail _ (.head _))).c3; have c4 := (HK.out.a _ (.tail _ (.head _))).c4; have d0 := (HK.out.a _ (.head _)).c0; have d1 := (HK.out.a _ (.head _)).c1; have d2 := (HK.out.a _ (.head _)).c2; have d3 := (HK.out.a _ (.head _)).c3; have d4 := (HK.out.a _ (.head _)).c4)
          | fail)
        go_meet
        case rel => exact ⟨rfl, HK.out⟩
      · have ht' : tnB p = false := by simpa using ht
        rw [ht'] at HTn
        clear HSy HS1 ht ht'
        go_wp2_with (first
          | (go_at_call 17; (with_reducible refine (HTn.out _).mono ?_); rintro e wz ⟨rfl, hb⟩; have HK2 := Lib.hid (HK.out.next hb); clear HK x0 x1 x2 x3 x4 y0 y1 y2 y3 y4 c0 c1 c2 c3 c4 d0 d1 d2 d3 d4; have HK := HK2; clear HK2; clear hb; have x0 := (HK.out.a _ (.tail _ (.tail _ (.tail _ (.head _))))).c0; have x1 := (HK.out.a _ (.tail _ (.tail _ (.tail _ (.head _))))).c1; have x2 := (HK.out.a _ (.tail _ (.tail _ (.tail _ (.head _))))).c2; have x3 := (HK.out.a _ (.tail _ (.tail _ (.tail _ (.head _))))).c3; have x4 := (HK.out.a _ (.tail _ (.tail _ (.tail _ (.head _))))).c4; have y0 := (HK.out.a _ (.tail _ (.tail _ (.head _)))).c0; have y1 := (HK.out.a _ (.tail _ (.tail _ (.head _)))).c1; have y2 := (HK.out.a _ (.tail _ (.tail _ (.head _)))).c2; have y3 := (HK.out.a _ (.tail _ (.tail _ (.head _)))).c3; have y4 := (HK.out.a _ (.tail _ (.tail _ (.head _)))).c4; have c0 := (HK.out.a _ (.tail _ (.head _))).c0; have c1 := (HK.out.a _ (.tail _ (.head _))).c1; have c2 := (HK.out.a _ (.tail _ (.head _))).c2; have c3 := (HK.out.a _ (.tail _ (.head _))).c3; have c4 := (HK.out.a _ (.tail _ (.head _))).c4; have d0 := (HK.out.a _ (.head _)).c0; have d1 := (HK.out.a _ (.head _)).c1; have d2 := (HK.out.a _ (.head _)).c2; have d3 := (HK.out.a _ (.head _)).c3; have d4 := (HK.out.a _ (.head _)).c4)
          | fail)
        go_meet
        case rel => exact ⟨rfl, HK.out⟩
  case rest =>
    obtain ⟨rfl, hk⟩ := hcut
    clear HK x0 x1 x2 x3 x4 y0 y1 y2 y3 y4 c0 c1 c2 c3 c4 d0 d1 d2 d3 d4
    have HK := Lib.hid hk
    clear hk HTn HSy HS1 HF1 HF2 HC1 HC2 HT1 HT2
    have x0 := (HK.out.a _ (.tail _ (.tail _ (.tail _ (.head _))))).c0
    have x1 := (HK.out.a _ (.tail _ (.tail _ (.tail _ (.head _))))).c1
    have x2 := (HK.out.a _ (.tail _ (.tail _ (.tail _ (.head _))))).c2
    have x3 := (HK.out.a _ (.tail _ (.tail _ (.tail _ (.head _))))).c3
    have x4 := (HK.out.a _ (.tail _ (.tail _ (.tail _ (.head _))))).c4
    have y0 := (HK.out.a _ (.tail _ (.tail _ (.head _)))).c0
    have y1 := (HK.out.a _ (.tail _ (.tail _ (.head _)))).c1
    have y2 := (HK.out.a _ (.tail _ (.tail _ (.head _)))).c2
    have y3 := (HK.out.a _ (.tail _ (.tail _ (.head _)))).c3
    have y4 := (HK.out.a _ (.tail _ (.tail _ (.head _)))).c4
    have c0 := (HK.out.a _ (.tail _ (.head _))).c0
    have c1 := (HK.out.a _ (.tail _ (.head _))).c1
    have c2 := (HK.out.a _ (.tail _ (.head _))).c2
    have c3 := (HK.out.a _ (.tail _ (.head _))).c3
    have c4 := (HK.out.a _ (.tail _ (.head _))).c4
    have d0 := (HK.out.a _ (.head _)).c0
    have d1 := (HK.out.a _ (.head _)).c1
    have d2 := (HK.out.a _ (.head _)).c2
    have d3 := (HK.out.a _ (.head _)).c3
    have d4 := (HK.out.a _ (.head _)).c4
    go_upto_region 7 with fail
    have hz_d : wb.heap.size < wc.heap.size := HK.out.lt _ (.head _)
    have hz_c : wa.heap.size < wc.heap.size := HK.out.lt _ (.tail _ (.head _))
    have hz_y : (w.heap.size + 1) < wc.heap.size := HK.out.lt _ (.tail _ (.tail _ (.head _)))
    have hz_x : w.heap.size < wc.heap.size := HK.out.lt _ (.tail _ (.tail _ (.tail _ (.head _))))
    clear x0 x1 x2 x3 x4 y0 y1 y2 y3 y4 c0 c1 c2 c3 c4 d0 d1 d2 d3 d4
    go_cut [11, 12] (fun sx sy wx => ∃ gx gy, sx = .pointer (some ⟨gx, 0, none⟩) ∧ sy = .pointer (some ⟨gy, 0, none⟩) ∧ KVar w [⟨gy, B, (.slice q' B.z.length cap')⟩, ⟨gx, A, (.slice q A.z.length cap)⟩, ⟨wb.heap.size, ⟨n1, n2, n3, n4, n5⟩, (.slice pwb n5.length cwb)⟩, ⟨wa.heap.size, ⟨m1, m2, m3, m4, m5⟩, (.slice pwa m5.length cwa)⟩, ⟨(w.heap.size + 1), B, (.slice q' B.z.length cap')⟩, ⟨w.heap.size, A, (.slice q A.z.length cap)⟩] wx ∧ wc.heap.size ≤ gx ∧ wc.heap.size ≤ gy ∧ gx ≠ gy)
    case first =>
      as_aux_lemma =>
        clear HAw HT3 HO1 HO2 HR1 HR2 HR3 HR4 l2 l3 HBo HVa HBn HVn HGt HGo HrO
        have HAll : Hid (∀ W, Below wc.heap.size wc W → (fun W => Below wc.heap.size wc W ∧ W.cell? ⟨w.heap.size, 0, none⟩ = some (.int .i64 A.k) ∧ W.cell? ⟨w.heap.size, 1, none⟩ = some (.int .i64 A.r) ∧ W.cell? ⟨w.heap.size, 2, none⟩ = some (.int .i64 A.a) ∧ W.cell? ⟨w.heap.size, 3, none⟩ = some (.int .i64 A.b) ∧ W.cell? ⟨w.heap.size, 4, none⟩ = some ((.slice q A.z.length cap)) ∧ W.cell? ⟨(w.heap.size + 1), 0, none⟩ = some (.int .i64 B.k) ∧ W.cell? ⟨(w.heap.size + 1), 1, none⟩ = some (.int .i64 B.r) ∧ W.cell? ⟨(w.heap.size + 1), 2, none⟩ = some (.int .i64 B.a) ∧ W.cell? ⟨(w.heap.size + 1), 3, none⟩ = some (.int .i64 B.b) ∧ W.cell? ⟨(w.heap.size + 1), 4, none⟩ = some ((.slice q' B.z.length cap'))) W) := fun W h => ⟨h, ((HK.out.next h).a _ (.tail _ (.tail _ (.tail _ (.head _))))).c0, ((HK.out.next h).a _ (.tail _ (.tail _ (.tail _ (.head _))))).c1, ((HK.out.next h).a _ (.tail _ (.tail _ (.tail _ (.head _))))).c2, ((HK.out.next h).a _ (.tail _ (.tail _ (.tail _ (.head _))))).c3, ((HK.out.next h).a _ (.tail _ (.tail _ (.tail _ (.head _))))).c4, ((HK.out.next h).a _ (.tail _ (.tail _ (.head _)))).c0, ((HK.out.next h).a _ (.tail _ (.tail _ (.head _)))).c1, ((HK.out.next h).a _ (.tail _ (.tail _ (.head _)))).c2, ((HK.out.next h).a _ (.tail _ (.tail _ (.head _)))).c3, ((HK.out.next h).a _ (.tail _ (.tail _ (.head _)))).c4⟩
        refine wp_region_held_drew (S := (fun W => Below wc.heap.size wc W ∧ W.cell? ⟨w.heap.size, 0, none⟩ = some (.int .i64 A.k) ∧ W.cell? ⟨w.heap.size, 1, none⟩ = some (.int .i64 A.r) ∧ W.cell? ⟨w.heap.size, 2, none⟩ = some (.int .i64 A.a) ∧ W.cell? ⟨w.heap.size, 3, none⟩ = some (.int .i64 A.b) ∧ W.cell? ⟨w.heap.size, 4, none⟩ = some ((.slice q A.z.length cap)) ∧ W.cell? ⟨(w.heap.size + 1), 0, none⟩ = some (.int .i64 B.k) ∧ W.cell? ⟨(w.heap.size + 1), 1, none⟩ = some (.int .i64 B.r) ∧ W.cell? ⟨(w.heap.size + 1), 2, none⟩ = some (.int .i64 B.a) ∧ W.cell? ⟨(w.heap.size + 1), 3, none⟩ = some (.int .i64 B.b) ∧ W.cell? ⟨(w.heap.size + 1), 4, none⟩ = some ((.slice q' B.z.length cap')))) (by kernel_rfl) ?_ (fun hHeld => ?_)
        · exact HAll.out _ (Below.refl _ _).drew
        have HB0 : Hid (Below wc.heap.size wc (World.drew wc)) := (Below.refl _ _).drew
        generalize World.drew wc = wd at hHeld HB0 ⊢
        refine wpAnyH_take (i := 0) (v := ?_) rfl (by kernel_rfl) (by kernel_rfl) (by kernel_rfl) (fun _ _ _ h => h) (Or.inl ⟨by rfl, ?_⟩) (by assumption) ?_
        rotate_left
        · ((intro w0 hSw); (try dsimp only at hSw); go_simp; (try with_reducible rfl))
        change wpAnyH _ _ _ _ _ _ _ (Act.put _ (some 64) _) _
        try simp only [Act.put, List.setIfInBounds_toArray, List.set_cons_zero, List.set_cons_succ]
        refine wpAnyH_take (i := 1) (v := ?_) rfl (by kernel_rfl) (by kernel_rfl) (by kernel_rfl) (fun _ _ _ h => h) (Or.inl ⟨by rfl, ?_⟩) (by assumption) ?_
        rotate_left
        · ((intro w0 hSw); (try dsimp only at hSw); go_simp; (try with_reducible rfl))
        change wpAnyH _ _ _ _ _ _ _ (Act.put _ (some 65) _) _
        try simp only [Act.put, List.setIfInBounds_toArray, List.set_cons_zero, List.set_cons_succ]
        refine wpAnyH_ready (rs := [2, 3]) (by kernel_rfl) (by simp) ?_
        refine AllReadyH.cons rfl (fun K hK => ?_) (AllReadyH.cons rfl (fun K hK => ?_) (AllReadyH.nil))
        · go_simp
          refine hK.out _ _ ?_ (fun hHeld2 => ?_)
          · exact HAll.out _ (HB0.out.trans ((bel1 wd _).mono HB0.out.size))
          clear hK K hHeld
          have hHeld := hHeld2; clear hHeld2
          try change wpAnyH _ _ _ _ _ _ _ (Act.put _ (some 11) _) _
          try simp only [Act.put, List.setIfInBounds_toArray, List.set_cons_zero, List.set_cons_succ]
          generalize hwx : World.alloc wd _ = wx1 at hHeld ⊢
          have HB1 : Hid (Below wc.heap.size wc wx1) := by rw [← hwx]; exact HB0.out.trans ((bel1 wd _).mono HB0.out.size)
          have HG1 : Hid (R5 wx1 wd.heap.size 0 0 0 0 (.slice none 0 0)) := by rw [← hwx]; exact R5.new _ _ _ _ _ _
          clear hwx
          refine wpAnyH_ready (rs := [3]) (by kernel_rfl) (by simp) ?_
          refine AllReadyH.cons rfl (fun K hK => ?_) (AllReadyH.nil)
          go_simp
          refine hK.out _ _ ?_ (fun hHeld2 => ?_)
          · exact HAll.out _ (HB1.out.trans ((bel1 wx1 _).mono HB1.out.size))
          clear hK K hHeld
          have hHeld := hHeld2; clear hHeld2
          try change wpAnyH _ _ _ _ _ _ _ (Act.put _ (some 12) _) _
          try simp only [Act.put, List.setIfInBounds_toArray, List.set_cons_zero, List.set_cons_succ]
          generalize hwx : World.alloc wx1 _ = wx2 at hHeld ⊢
          have HB2 : Hid (Below wc.heap.size wc wx2) := by rw [← hwx]; exact HB1.out.trans ((bel1 wx1 _).mono HB1.out.size)
          have HG2 : Hid (R5 wx2 wx1.heap.size 0 0 0 0 (.slice none 0 0)) := by rw [← hwx]; exact R5.new _ _ _ _ _ _
          have HG1n : Hid (R5 wx2 wd.heap.size 0 0 0 0 (.slice none 0 0)) := by rw [← hwx]; exact HG1.out.next (bel1 _ _)
          have hne : wd.heap.size < wx1.heap.size := HG1.out.lt
          clear hwx
          have hgx : wc.heap.size ≤ wd.heap.size := HB0.out.size
          have hgy : wc.heap.size ≤ wx1.heap.size := Nat.le_trans HB0.out.size (Nat.le_of_lt hne)
          have hxy : wd.heap.size ≠ wx1.heap.size := by omega
          refine wpAnyH_ready (rs := [4]) (by kernel_rfl) (by simp) ?_
          refine AllReadyH.cons rfl (fun K hK => ?_) (AllReadyH.nil)
          rw [if_pos (by rfl)]
          refine wp_store5 (.tmp 11) (.tmp 64) A.k A.r A.a A.b q A.z.length cap rfl rfl rfl rfl HG1n.out ?_
          generalize hwy : st5 wx2 wd.heap.size A.k A.r A.a A.b (.slice q A.z.length cap) = wy
          have HB3 : Hid (Below wc.heap.size wc wy) := by rw [← hwy]; exact st5_below _ _ _ _ _ hgx HB2.out
          have HSA : Hid (R5 wy wd.heap.size A.k A.r A.a A.b (.slice q A.z.length cap)) := by rw [← hwy]; exact HG1n.out.set _ _ _ _ _
          have HGz : Hid (R5 wy wx1.heap.size 0 0 0 0 (.slice none 0 0)) := by rw [← hwy]; exact (st5_other _ _ _ _ _ (by omega)).trans HG2.out
          clear hwy
          refine hK.out _ _ ?_ (fun hHeld2 => ?_)
          · exact HAll.out _ HB3.out
          clear hK K hHeld
          have hHeld := hHeld2; clear hHeld2
          try simp only [Act.put, List.setIfInBounds_toArray, List.set_cons_zero, List.set_cons_succ]
          refine wpAnyH_ready (rs := [5]) (by kernel_rfl) (by simp) ?_
          refine AllReadyH.cons rfl (fun K hK => ?_) (AllReadyH.nil)
          rw [if_pos (by rfl)]
          refine wp_store5 (.tmp 12) (.tmp 65) B.k B.r B.a B.b q' B.z.length cap' rfl rfl rfl rfl HGz.out ?_
          generalize hwy : st5 wy wx1.heap.size B.k B.r B.a B.b (.slice q' B.z.length cap') = wu
          have HB4 : Hid (Below wc.heap.size wc wu) := by rw [← hwy]; exact st5_below _ _ _ _ _ hgy HB3.out
          have HSB : Hid (R5 wu wx1.heap.size B.k B.r B.a B.b (.slice q' B.z.length cap')) := by rw [← hwy]; exact HGz.out.set _ _ _ _ _
          have HSx : Hid (R5 wu wd.heap.size A.k A.r A.a A.b (.slice q A.z.length cap)) := by rw [← hwy]; exact (st5_other _ _ _ _ _ (by omega)).trans HSA.out
          clear hwy
          refine hK.out _ _ ?_ (fun hHeld2 => ?_)
          · exact HAll.out _ HB4.out
          clear hK K hHeld
          have hHeld := hHeld2; clear hHeld2
          try simp only [Act.put, List.setIfInBounds_toArray, List.set_cons_zero, List.set_cons_succ]
          refine wpAnyH_done (by kernel_rfl) ?_ _
          go_wp2_with fail
          go_meet
          case rel => exact ⟨wd.heap.size, wx1.heap.size, rfl, rfl, HK.out.addAt2 (b1 := ⟨w.heap.size, A, (.slice q A.z.length cap)⟩) (b2 := ⟨(w.heap.size + 1), B, (.slice q' B.z.length cap')⟩) (.tail _ (.tail _ (.tail _ (.head _)))) (.tail _ (.tail _ (.head _))) HB4.out hgx hgy HSx.out HSB.out, hgx, hgy, hxy⟩
        · go_simp
          refine hK.out _ _ ?_ (fun hHeld2 => ?_)
          · exact HAll.out _ (HB0.out.trans ((bel1 wd _).mono HB0.out.size))
          clear hK K hHeld
          have hHeld := hHeld2; clear hHeld2
          try change wpAnyH _ _ _ _ _ _ _ (Act.put _ (some 12) _) _
          try simp only [Act.put, List.setIfInBounds_toArray, List.set_cons_zero, List.set_cons_succ]
          generalize hwx : World.alloc wd _ = wx1 at hHeld ⊢
          have HB1 : Hid (Below wc.heap.size wc wx1) := by rw [← hwx]; exact HB0.out.trans ((bel1 wd _).mono HB0.out.size)
          have HG1 : Hid (R5 wx1 wd.heap.size 0 0 0 0 (.slice none 0 0)) := by rw [← hwx]; exact R5.new _ _ _ _ _ _
          clear hwx
          refine wpAnyH_ready (rs := [2]) (by kernel_rfl) (by simp) ?_
          refine AllReadyH.cons rfl (fun K hK => ?_) (AllReadyH.nil)
          go_simp
          refine hK.out _ _ ?_ (fun hHeld2 => ?_)
          · exact HAll.out _ (HB1.out.trans ((bel1 wx1 _).mono HB1.out.size))
          clear hK K hHeld
          have hHeld := hHeld2; clear hHeld2
          try change wpAnyH _ _ _ _ _ _ _ (Act.put _ (some 11) _) _
          try simp only [Act.put, List.setIfInBounds_toArray, List.set_cons_zero, List.set_cons_succ]
          generalize hwx : World.alloc wx1 _ = wx2 at hHeld ⊢
          have HB2 : Hid (Below wc.heap.size wc wx2) := by rw [← hwx]; exact HB1.out.trans ((bel1 wx1 _).mono HB1.out.size)
          have HG2 : Hid (R5 wx2 wx1.heap.size 0 0 0 0 (.slice none 0 0)) := by rw [← hwx]; exact R5.new _ _ _ _ _ _
          have HG1n : Hid (R5 wx2 wd.heap.size 0 0 0 0 (.slice none 0 0)) := by rw [← hwx]; exact HG1.out.next (bel1 _ _)
          have hne : wd.heap.size < wx1.heap.size := HG1.out.lt
          clear hwx
          have hgx : wc.heap.size ≤ wx1.heap.size := Nat.le_trans HB0.out.size (Nat.le_of_lt hne)
          have hgy : wc.heap.size ≤ wd.heap.size := HB0.out.size
          have hxy : wx1.heap.size ≠ wd.heap.size := by omega
          refine wpAnyH_ready (rs := [4]) (by kernel_rfl) (by simp) ?_
          refine AllReadyH.cons rfl (fun K hK => ?_) (AllReadyH.nil)
          rw [if_pos (by rfl)]
          refine wp_store5 (.tmp 11) (.tmp 64) A.k A.r A.a A.b q A.z.length cap rfl rfl rfl rfl HG2.out ?_
          generalize hwy : st5 wx2 wx1.heap.size A.k A.r A.a A.b (.slice q A.z.length cap) = wy
          have HB3 : Hid (Below wc.heap.size wc wy) := by rw [← hwy]; exact st5_below _ _ _ _ _ hgx HB2.out
          have HSA : Hid (R5 wy wx1.heap.size A.k A.r A.a A.b (.slice q A.z.length cap)) := by rw [← hwy]; exact HG2.out.set _ _ _ _ _
          have HGz : Hid (R5 wy wd.heap.size 0 0 0 0 (.slice none 0 0)) := by rw [← hwy]; exact (st5_other _ _ _ _ _ (by omega)).trans HG1n.out
          clear hwy
          refine hK.out _ _ ?_ (fun hHeld2 => ?_)
          · exact HAll.out _ HB3.out
          clear hK K hHeld
          have hHeld := hHeld2; clear hHeld2
          try simp only [Act.put, List.setIfInBounds_toArray, List.set_cons_zero, List.set_cons_succ]
          refine wpAnyH_ready (rs := [5]) (by kernel_rfl) (by simp) ?_
          refine AllReadyH.cons rfl (fun K hK => ?_) (AllReadyH.nil)
          rw [if_pos (by rfl)]
          refine wp_store5 (.tmp 12) (.tmp 65) B.k B.r B.a B.b q' B.z.length cap' rfl rfl rfl rfl HGz.out ?_
          generalize hwy : st5 wy wd.heap.size B.k B.r B.a B.b (.slice q' B.z.length cap') = wu
          have HB4 : Hid (Below wc.heap.size wc wu) := by rw [← hwy]; exact st5_below _ _ _ _ _ hgy HB3.out
          have HSB : Hid (R5 wu wd.heap.size B.k B.r B.a B.b (.slice q' B.z.length cap')) := by rw [← hwy]; exact HGz.out.set _ _ _ _ _
          have HSx : Hid (R5 wu wx1.heap.size A.k A.r A.a A.b (.slice q A.z.length cap)) := by rw [← hwy]; exact (st5_other _ _ _ _ _ (by omega)).trans HSA.out
          clear hwy
          refine hK.out _ _ ?_ (fun hHeld2 => ?_)
          · exact HAll.out _ HB4.out
          clear hK K hHeld
          have hHeld := hHeld2; clear hHeld2
          try simp only [Act.put, List.setIfInBounds_toArray, List.set_cons_zero, List.set_cons_succ]
          refine wpAnyH_done (by kernel_rfl) ?_ _
          go_wp2_with fail
          go_meet
          case rel => exact ⟨wx1.heap.size, wd.heap.size, rfl, rfl, HK.out.addAt2 (b1 := ⟨w.heap.size, A, (.slice q A.z.length cap)⟩) (b2 := ⟨(w.heap.size + 1), B, (.slice q' B.z.length cap')⟩) (.tail _ (.tail _ (.tail _ (.head _)))) (.tail _ (.tail _ (.head _))) HB4.out hgx hgy HSx.out HSB.out, hgx, hgy, hxy⟩
    case rest =>
      obtain ⟨gx, gy, rfl, rfl, hk, hgx, hgy, hxy⟩ := hcut
      clear HK
      have HK := Lib.hid hk
      clear hk
      have nx_d : wb.heap.size ≠ gx := by omega
      have nx_c : wa.heap.size ≠ gx := by omega
      have nx_y : (w.heap.size + 1) ≠ gx := by omega
      have nx_x : w.heap.size ≠ gx := by omega
      have ny_d : wb.heap.size ≠ gy := by omega
      have ny_c : wa.heap.size ≠ gy := by omega
      have ny_y : (w.heap.size + 1) ≠ gy := by omega
      have ny_x : w.heap.size ≠ gy := by omega
      have hyx : gy ≠ gx := by omega
      clear hz_d hz_c hz_y hz_x hgx hgy
      have x0 := (HK.out.a _ (.tail _ (.tail _ (.tail _ (.tail _ (.tail _ (.head _))))))).c0
      have x1 := (HK.out.a _ (.tail _ (.tail _ (.tail _ (.tail _ (.tail _ (.head _))))))).c1
      have x2 := (HK.out.a _ (.tail _ (.tail _ (.tail _ (.tail _ (.tail _ (.head _))))))).c2
      have x3 := (HK.out.a _ (.tail _ (.tail _ (.tail _ (.tail _ (.tail _ (.head _))))))).c3
      have x4 := (HK.out.a _ (.tail _ (.tail _ (.tail _ (.tail _ (.tail _ (.head _))))))).c4
      go_upto_if 68 with fail
      go_cut [] (fun wx => ∃ qx cx, KVar w [⟨gx, (rxV A), (.slice qx (rxV A).z.length cx)⟩, ⟨gy, B, (.slice q' B.z.length cap')⟩, ⟨wb.heap.size, ⟨n1, n2, n3, n4, n5⟩, (.slice pwb n5.length cwb)⟩, ⟨wa.heap.size, ⟨m1, m2, m3, m4, m5⟩, (.slice pwa m5.length cwa)⟩, ⟨(w.heap.size + 1), B, (.slice q' B.z.length cap')⟩, ⟨w.heap.size, A, (.slice q A.z.length cap)⟩] wx)
      case first =>
        as_aux_lemma =>
          clear HT3 HO1 HO2 HR2 HR3 HR4 HBo HVa HBn HVn HGt HGo HrO HAw l2 l3
          by_cases hr : A.r = 0
          · have e : rxV A = A := if_pos hr
            have k1 : decide (0 < A.r) = false := by simp [hr]
            have k2 : ¬ (0 < A.r) := by omega
            clear hr HR1
            go_wp2_with fail
            go_meet
            case rel => exact ⟨q, cap, by rw [e]; exact HK.out.drop (fun b m => by simp only [List.mem_cons, List.not_mem_nil, or_false] at m ⊢; rcases m with rfl | rfl | rfl | rfl | rfl | rfl <;> simp)⟩
          · have e : rvV A = rxV A := (if_neg hr).symm
            have hr2 : A.r = 1 ∨ A.r = 2 := by rcases hA.r3 with e | e | e <;> omega
            have k1 : decide (0 < A.r) = true := by rw [decide_eq_true_iff]; omega
            have k2 : 0 < A.r := by omega
            rw [rvE_ok hA hr2, e] at HR1
            clear hr e hr2
            go_wp2_with (first
              | (go_at_call 19; (with_reducible refine (HR1.out _ (by with_unfolding_all exact HK.out.lay) (by with_unfolding_all exact HK.out.r _ (.tail _ (.tail _ (.tail _ (.tail _ (.tail _ (.head _)))))))).mono ?_); rintro e we ⟨uwe, rfl, hu, hb⟩; obtain ⟨pwe, cwe, hpwe, _, _⟩ := hu.form; have hqwe : uwe = (.slice pwe (rxV A).z.length cwe) := hpwe; subst hqwe; clear hpwe; have HKo := HK.out.next hb; have o0 := (HKo.a _ (.tail _ (.head _))).c0; have o1 := (HKo.a _ (.tail _ (.head _))).c1; have o2 := (HKo.a _ (.tail _ (.head _))).c2; have o3 := (HKo.a _ (.tail _ (.head _))).c3; have o4 := (HKo.a _ (.tail _ (.head _))).c4; have of0 := (HKo.a _ (.tail _ (.head _))).fr 0; have of1 := (HKo.a _ (.tail _ (.head _))).fr 1; have of2 := (HKo.a _ (.tail _ (.head _))).fr 2; have of3 := (HKo.a _ (.tail _ (.head _))).fr 3; have of4 := (HKo.a _ (.tail _ (.head _))).fr 4; clear HKo; have HK2 := Lib.hid (HK.out.put (l' := [⟨gy, B, (.slice q' B.z.length cap')⟩, ⟨wb.heap.size, ⟨n1, n2, n3, n4, n5⟩, (.slice pwb n5.length cwb)⟩, ⟨wa.heap.size, ⟨m1, m2, m3, m4, m5⟩, (.slice pwa m5.length cwa)⟩, ⟨(w.heap.size + 1), B, (.slice q' B.z.length cap')⟩, ⟨w.heap.size, A, (.slice q A.z.length cap)⟩]) hb ⟨(rxV A).k, (rxV A).r, (rxV A).a, (rxV A).b, (rxV A).z⟩ hu _ (.tail _ (.head _)) (fun b m => by simp only [List.mem_cons, List.not_mem_nil, or_false] at m; rcases m with rfl | rfl | rfl | rfl | rfl <;> exact ⟨by simp, by dsimp only; omega⟩)); clear HK hb hu x0 x1 x2 x3 x4; have HK := HK2; clear HK2; have x0 := (HK.out.a _ (.tail _ (.tail _ (.tail _ (.tail _ (.tail _ (.head _))))))).c0; have x1 := (HK.out.a _ (.tail _ (.tail _ (.tail _ (.tail _ (.tail _ (.head _))))))).c1; have x2 := (HK.out.a _ (.tail _ (.tail _ (.tail _ (.tail _ (.tail _ (.head _))))))).c2; have x3 := (HK.out.a _ (.tail _ (.tail _ (.tail _ (.tail _ (.tail _ (.head _))))))).c3; have x4 := (HK.out.a _ (.tail _ (.tail _ (.tail _ (.tail _ (.tail _ (.head _))))))).c4)
              | fail)
            go_meet
            case rel => exact ⟨_, _, HK.out⟩
      case rest =>
        obtain ⟨qx, cx, hk⟩ := hcut
        clear HK HR1 x0 x1 x2 x3 x4
        have HK := Lib.hid hk
        clear hk
        have y0 := (HK.out.a _ (.tail _ (.tail _ (.tail _ (.tail _ (.head _)))))).c0
        have y1 := (HK.out.a _ (.tail _ (.tail _ (.tail _ (.tail _ (.head _)))))).c1
        have y2 := (HK.out.a _ (.tail _ (.tail _ (.tail _ (.tail _ (.head _)))))).c2
        have y3 := (HK.out.a _ (.tail _ (.tail _ (.tail _ (.tail _ (.head _)))))).c3
        have y4 := (HK.out.a _ (.tail _ (.tail _ (.tail _ (.tail _ (.head _)))))).c4
        go_upto_if 76 with fail
        go_cut [] (fun wx => ∃ qy cy, KVar w [⟨gy, (rxV B), (.slice qy (rxV B).z.length cy)⟩, ⟨gx, (rxV A), (.slice qx (rxV A).z.length cx)⟩, ⟨wb.heap.size, ⟨n1, n2, n3, n4, n5⟩, (.slice pwb n5.length cwb)⟩, ⟨wa.heap.size, ⟨m1, m2, m3, m4, m5⟩, (.slice pwa m5.length cwa)⟩, ⟨(w.heap.size + 1), B, (.slice q' B.z.length cap')⟩, ⟨w.heap.size, A, (.slice q A.z.length cap)⟩] wx)
        case first =>
          as_aux_lemma =>
            clear HT3 HO1 HO2 HR3 HR4 HBo HVa HBn HVn HGt HGo HrO HAw l2 l3
            by_cases hr : B.r = 0
            · have e : rxV B = B := if_pos hr
              have k1 : decide (0 < B.r) = false := by simp [hr]
              have k2 : ¬ (0 < B.r) := by omega
              clear hr HR2
              go_wp2_with fail
              go_meet
              case rel => exact ⟨q', cap', by rw [e]; exact HK.out.drop (fun b m => by simp only [List.mem_cons, List.not_mem_nil, or_false] at m ⊢; rcases m with rfl | rfl | rfl | rfl | rfl | rfl <;> simp)⟩
            · have e : rvV B = rxV B := (if_neg hr).symm
              have hr2 : B.r = 1 ∨ B.r = 2 := by rcases hB.r3 with e | e | e <;> omega
              have k1 : decide (0 < B.r) = true := by rw [decide_eq_true_iff]; omega
              have k2 : 0 < B.r := by omega
              rw [rvE_ok hB hr2, e] at HR2
              clear hr e hr2
              go_wp2_with (first
                | (go_at_call 19; (with_reducible refine (HR2.out _ (by with_unfolding_all exact HK.out.lay) (by with_unfolding_all exact HK.out.r _ (.tail _ (.tail _ (.tail _ (.tail _ (.head _))))))).mono ?_); rintro e wf ⟨uwf, rfl, hu, hb⟩; obtain ⟨pwf, cwf, hpwf, _, _⟩ := hu.form; have hqwf : uwf = (.slice pwf (rxV B).z.length cwf) := hpwf; subst hqwf; clear hpwf; have HKo := HK.out.next hb; have o0 := (HKo.a _ (.tail _ (.head _))).c0; have o1 := (HKo.a _ (.tail _ (.head _))).c1; have o2 := (HKo.a _ (.tail _ (.head _))).c2; have o3 := (HKo.a _ (.tail _ (.head _))).c3; have o4 := (HKo.a _ (.tail _ (.head _))).c4; have of0 := (HKo.a _ (.tail _ (.head _))).fr 0; have of1 := (HKo.a _ (.tail _ (.head _))).fr 1; have of2 := (HKo.a _ (.tail _ (.head _))).fr 2; have of3 := (HKo.a _ (.tail _ (.head _))).fr 3; have of4 := (HKo.a _ (.tail _ (.head _))).fr 4; clear HKo; have HK2 := Lib.hid (HK.out.put (l' := [⟨gx, (rxV A), (.slice qx (rxV A).z.length cx)⟩, ⟨wb.heap.size, ⟨n1, n2, n3, n4, n5⟩, (.slice pwb n5.length cwb)⟩, ⟨wa.heap.size, ⟨m1, m2, m3, m4, m5⟩, (.slice pwa m5.length cwa)⟩, ⟨(w.heap.size + 1), B, (.slice q' B.z.length cap')⟩, ⟨w.heap.size, A, (.slice q A.z.length cap)⟩]) hb ⟨(rxV B).k, (rxV B).r, (rxV B).a, (rxV B).b, (rxV B).z⟩ hu _ (.tail _ (.head _)) (fun b m => by simp only [List.mem_cons, List.not_mem_nil, or_false] at m; rcases m with rfl | rfl | rfl | rfl | rfl <;> exact ⟨by simp, by dsimp only; omega⟩)); clear HK hb hu y0 y1 y2 y3 y4; have HK := HK2; clear HK2; have y0 := (HK.out.a _ (.tail _ (.tail _ (.tail _ (.tail _ (.head _)))))).c0; have y1 := (HK.out.a _ (.tail _ (.tail _ (.tail _ (.tail _ (.head _)))))).c1; have y2 := (HK.out.a _ (.tail _ (.tail _ (.tail _ (.tail _ (.head _)))))).c2; have y3 := (HK.out.a _ (.tail _ (.tail _ (.tail _ (.tail _ (.head _)))))).c3; have y4 := (HK.out.a _ (.tail _ (.tail _ (.tail _ (.tail _ (.head _)))))).c4)
                | fail)
              go_meet
              case rel => exact ⟨_, _, HK.out⟩
        case rest =>
          obtain ⟨qy, cy, hk⟩ := hcut
          clear HK HR2 y0 y1 y2 y3 y4
          have HK := Lib.hid hk
          clear hk
          have X0 := (HK.out.a _ (.tail _ (.head _))).c0
          have X1 := (HK.out.a _ (.tail _ (.head _))).c1
          have X2 := (HK.out.a _ (.tail _ (.head _))).c2
          have X3 := (HK.out.a _ (.tail _ (.head _))).c3
          have X4 := (HK.out.a _ (.tail _ (.head _))).c4
          have Y0 := (HK.out.a _ (.head _)).c0
          have Y1 := (HK.out.a _ (.head _)).c1
          have Y2 := (HK.out.a _ (.head _)).c2
          have Y3 := (HK.out.a _ (.head _)).c3
          have Y4 := (HK.out.a _ (.head _)).c4
          obtain ⟨g1, g2, g3, g4, g5⟩ := G
          simp only at l2
          go_upto_region 13 with (first
            | (go_at_call 16; (with_reducible refine (HT3.out _ _ _ (by with_unfolding_all exact HK.out.lay) (by with_unfolding_all exact HK.out.r _ (.tail _ (.head _))) (by with_unfolding_all exact HK.out.r _ (.head _))).mono ?_); rintro e wg ⟨uwg, rfl, hu, hb⟩; obtain ⟨pwg, cwg, hpwg, _, _⟩ := hu.form; have hqwg : uwg = (.slice pwg g5.length cwg) := hpwg; subst hqwg; clear hpwg; have hltYG : gy < wg.heap.size := Nat.lt_of_lt_of_le (HK.out.lt _ (.head _)) hb.size; have hltXG : gx < wg.heap.size := Nat.lt_of_lt_of_le (HK.out.lt _ (.tail _ (.head _))) hb.size; have hltdG : wb.heap.size < wg.heap.size := Nat.lt_of_lt_of_le (HK.out.lt _ (.tail _ (.tail _ (.head _)))) hb.size; have hltcG : wa.heap.size < wg.heap.size := Nat.lt_of_lt_of_le (HK.out.lt _ (.tail _ (.tail _ (.tail _ (.head _))))) hb.size; have hltyG : (w.heap.size + 1) < wg.heap.size := Nat.lt_of_lt_of_le (HK.out.lt _ (.tail _ (.tail _ (.tail _ (.tail _ (.head _)))))) hb.size; have hltxG : w.heap.size < wg.heap.size := Nat.lt_of_lt_of_le (HK.out.lt _ (.tail _ (.tail _ (.tail _ (.tail _ (.tail _ (.head _))))))) hb.size; have HK2 := Lib.hid (HK.out.res hb ⟨g1, g2, g3, g4, g5⟩ hu); clear HK X0 X1 X2 X3 X4 Y0 Y1 Y2 Y3 Y4; have HK := HK2; clear HK2; clear hb hu)
            | fail)
          go_cut [93] (fun t wx => t = .bool false ∧ KVar w [⟨wg.heap.size, ⟨g1, g2, g3, g4, g5⟩, (.slice pwg g5.length cwg)⟩, ⟨gy, (rxV B), (.slice qy (rxV B).z.length cy)⟩, ⟨gx, (rxV A), (.slice qx (rxV A).z.length cx)⟩, ⟨wb.heap.size, ⟨n1, n2, n3, n4, n5⟩, (.slice pwb n5.length cwb)⟩, ⟨wa.heap.size, ⟨m1, m2, m3, m4, m5⟩, (.slice pwa m5.length cwa)⟩, ⟨(w.heap.size + 1), B, (.slice q' B.z.length cap')⟩, ⟨w.heap.size, A, (.slice q A.z.length cap)⟩] wx)
          case first =>
            as_aux_lemma =>
              clear HO1 HO2 HR3 HR4 HVa HBn HVn HGt HGo HrO HAw HT3
              by_cases hE : E = 0
              · have hEG : EG = 0 := HBo.out.2 hE
                clear HBo
                subst hE hEG
                go_wp2_with fail
                go_meet
                case rel => exact ⟨rfl, HK.out⟩
              · have hEG : ¬ EG = 0 := fun e => hE (HBo.out.1 e)
                have k1 : (E == 0) = false := by simpa using hE
                have k2 : (EG == 0) = false := by simpa using hEG
                clear HBo hE hEG
                go_wp2_with fail
                go_meet
                case rel => exact ⟨rfl, HK.out⟩
          case rest =>
            obtain ⟨rfl, hk⟩ := hcut
            clear HK
            have HK := Lib.hid hk
            clear hk
            have c0 := (HK.out.a _ (.tail _ (.tail _ (.tail _ (.tail _ (.head _)))))).c0
            have c1 := (HK.out.a _ (.tail _ (.tail _ (.tail _ (.tail _ (.head _)))))).c1
            have c2 := (HK.out.a _ (.tail _ (.tail _ (.tail _ (.tail _ (.head _)))))).c2
            have c3 := (HK.out.a _ (.tail _ (.tail _ (.tail _ (.tail _ (.head _)))))).c3
            have c4 := (HK.out.a _ (.tail _ (.tail _ (.tail _ (.tail _ (.head _)))))).c4
            go_upto_region 15 with fail
            go_cut [100] (fun t wx => t = .bool (E == 0 && decide (0 < m2)) ∧ KVar w [⟨wg.heap.size, ⟨g1, g2, g3, g4, g5⟩, (.slice pwg g5.length cwg)⟩, ⟨gy, (rxV B), (.slice qy (rxV B).z.length cy)⟩, ⟨gx, (rxV A), (.slice qx (rxV A).z.length cx)⟩, ⟨wb.heap.size, ⟨n1, n2, n3, n4, n5⟩, (.slice pwb n5.length cwb)⟩, ⟨wa.heap.size, ⟨m1, m2, m3, m4, m5⟩, (.slice pwa m5.length cwa)⟩, ⟨(w.heap.size + 1), B, (.slice q' B.z.length cap')⟩, ⟨w.heap.size, A, (.slice q A.z.length cap)⟩] wx)
            case first =>
              as_aux_lemma =>
                clear HO1 HO2 HR3 HR4 HVa HBn HVn HGt HGo HrO HAw HT3 HBo
                by_cases hE : E = 0
                · subst hE
                  go_wp2_with fail
                  go_meet
                  case rel => exact ⟨by simp, HK.out⟩
                · have k1 : (E == 0) = false := by simpa using hE
                  clear hE
                  go_wp2_with fail
                  go_meet
                  case rel => exact ⟨by rw [k1]; rfl, HK.out⟩
            case rest =>
              obtain ⟨rfl, hk⟩ := hcut
              clear HK c0 c1 c2 c3 c4
              have HK := Lib.hid hk
              clear hk
              obtain ⟨bb, hbb⟩ : ∃ bb, (E == 0 && decide (0 < m2)) = bb := ⟨_, rfl⟩
              have HBB := Lib.hid hbb
              rw [hbb]
              clear hbb
              have c0 := (HK.out.a _ (.tail _ (.tail _ (.tail _ (.tail _ (.head _)))))).c0
              have c1 := (HK.out.a _ (.tail _ (.tail _ (.tail _ (.tail _ (.head _)))))).c1
              have c2 := (HK.out.a _ (.tail _ (.tail _ (.tail _ (.tail _ (.head _)))))).c2
              have c3 := (HK.out.a _ (.tail _ (.tail _ (.tail _ (.tail _ (.head _)))))).c3
              have c4 := (HK.out.a _ (.tail _ (.tail _ (.tail _ (.tail _ (.head _)))))).c4
              have G0 := (HK.out.a _ (.head _)).c0
              have G1 := (HK.out.a _ (.head _)).c1
              have G2 := (HK.out.a _ (.head _)).c2
              have G3 := (HK.out.a _ (.head _)).c3
              have G4 := (HK.out.a _ (.head _)).c4
              go_upto_if 100 with fail
              go_cut [] (fun wx => KVar w [⟨wg.heap.size, ⟨g1, g2, g3, g4, g5⟩, (.slice pwg g5.length cwg)⟩, ⟨gy, (rxV B), (.slice qy (rxV B).z.length cy)⟩, ⟨gx, (rxV A), (.slice qx (rxV A).z.length cx)⟩, ⟨wb.heap.size, ⟨n1, n2, n3, n4, n5⟩, (.slice pwb n5.length cwb)⟩, ⟨wa.heap.size, ⟨m1, m2, m3, m4, m5⟩, (.slice pwa m5.length cwa)⟩, ⟨(w.heap.size + 1), B, (.slice q' B.z.length cap')⟩, ⟨w.heap.size, A, (.slice q A.z.length cap)⟩] wx)
              case first =>
                as_aux_lemma =>
                  clear HO1 HO2 HR4 HBn HVn HGo HrO HAw HT3 HBo
                  cases bb
                  · clear HR3 HVa HGt
                    go_wp2_with fail
                    go_meet
                    case rel => exact HK.out
                  · have hE2 : E = 0 ∧ 0 < m2 := by have h := HBB.out; simpa using h
                    obtain ⟨hE, hm2⟩ := hE2
                    have hM := HGt.out hE
                    have hG := HVa.out hE
                    have hMr : (⟨m1, m2, m3, m4, m5⟩ : Ar).r = 1 ∨ (⟨m1, m2, m3, m4, m5⟩ : Ar).r = 2 := by rcases hM.r3 with e | e | e <;> simp only at e ⊢ <;> omega
                    have hrx : rvV ⟨m1, m2, m3, m4, m5⟩ = rxV ⟨m1, m2, m3, m4, m5⟩ := (if_neg (by simp only; omega)).symm
                    rw [rvE_ok hM hMr, hrx, ← hG] at HR3
                    have HSm := Lib.hid (fun v u W h1 h2 => same_eq g1 g2 g3 g4 g5 v u W h1 h2 l2)
                    clear HVa HGt HBB hE hm2 hM hG hMr hrx
                    go_wp2_with (first
                      | (go_at_call 19; (with_reducible refine (HR3.out _ _ (by with_unfolding_all exact HK.out.lay) (by with_unfolding_all exact HK.out.r _ (.tail _ (.tail _ (.tail _ (.tail _ (.head _))))))).mono ?_); rintro e wr8 ⟨uwr8, rfl, hu, hb⟩; obtain ⟨pwr8, cwr8, hpwr8, _, _⟩ := hu.form; have hqwr8 : uwr8 = (.slice pwr8 g5.length cwr8) := hpwr8; subst hqwr8; clear hpwr8; have hltGr : wg.heap.size < wr8.heap.size := Nat.lt_of_lt_of_le (HK.out.lt _ (.head _)) hb.size; have hltYr : gy < wr8.heap.size := Nat.lt_of_lt_of_le (HK.out.lt _ (.tail _ (.head _))) hb.size; have hltXr : gx < wr8.heap.size := Nat.lt_of_lt_of_le (HK.out.lt _ (.tail _ (.tail _ (.head _)))) hb.size; have hltdr : wb.heap.size < wr8.heap.size := Nat.lt_of_lt_of_le (HK.out.lt _ (.tail _ (.tail _ (.tail _ (.head _))))) hb.size; have hltcr : wa.heap.size < wr8.heap.size := Nat.lt_of_lt_of_le (HK.out.lt _ (.tail _ (.tail _ (.tail _ (.tail _ (.head _)))))) hb.size; have hltyr : (w.heap.size + 1) < wr8.heap.size := Nat.lt_of_lt_of_le (HK.out.lt _ (.tail _ (.tail _ (.tail _ (.tail _ (.tail _ (.head _))))))) hb.size; have hltxr : w.heap.size < wr8.heap.size := Nat.lt_of_lt_of_le (HK.out.lt _ (.tail _ (.tail _ (.tail _ (.tail _ (.tail _ (.tail _ (.head _)))))))) hb.size; have HK2 := Lib.hid (HK.out.res hb ⟨g1, g2, g3, g4, g5⟩ hu); clear HK c0 c1 c2 c3 c4 G0 G1 G2 G3 G4; have HK := HK2; clear HK2; clear hb hu; have c0 := (HK.out.a _ (.tail _ (.tail _ (.tail _ (.tail _ (.tail _ (.head _))))))).c0; have c1 := (HK.out.a _ (.tail _ (.tail _ (.tail _ (.tail _ (.tail _ (.head _))))))).c1; have c2 := (HK.out.a _ (.tail _ (.tail _ (.tail _ (.tail _ (.tail _ (.head _))))))).c2; have c3 := (HK.out.a _ (.tail _ (.tail _ (.tail _ (.tail _ (.tail _ (.head _))))))).c3; have c4 := (HK.out.a _ (.tail _ (.tail _ (.tail _ (.tail _ (.tail _ (.head _))))))).c4; have G0 := (HK.out.a _ (.tail _ (.head _))).c0; have G1 := (HK.out.a _ (.tail _ (.head _))).c1; have G2 := (HK.out.a _ (.tail _ (.head _))).c2; have G3 := (HK.out.a _ (.tail _ (.head _))).c3; have G4 := (HK.out.a _ (.tail _ (.head _))).c4; have r0 := (HK.out.a _ (.head _)).c0; have r1 := (HK.out.a _ (.head _)).c1; have r2 := (HK.out.a _ (.head _)).c2; have r3 := (HK.out.a _ (.head _)).c3; have r4 := (HK.out.a _ (.head _)).c4)
                      | (go_at_call 20; (with_reducible refine (HSm.out _ _ _ (by with_unfolding_all exact HK.out.r _ (.tail _ (.head _))) (by with_unfolding_all exact HK.out.r _ (.head _))).mono ?_); rintro e wz ⟨rfl, hb⟩; have HK2 := Lib.hid (HK.out.next hb); clear HK c0 c1 c2 c3 c4 G0 G1 G2 G3 G4 r0 r1 r2 r3 r4; have HK := HK2; clear HK2; clear hb; have c0 := (HK.out.a _ (.tail _ (.tail _ (.tail _ (.tail _ (.tail _ (.head _))))))).c0; have c1 := (HK.out.a _ (.tail _ (.tail _ (.tail _ (.tail _ (.tail _ (.head _))))))).c1; have c2 := (HK.out.a _ (.tail _ (.tail _ (.tail _ (.tail _ (.tail _ (.head _))))))).c2; have c3 := (HK.out.a _ (.tail _ (.tail _ (.tail _ (.tail _ (.tail _ (.head _))))))).c3; have c4 := (HK.out.a _ (.tail _ (.tail _ (.tail _ (.tail _ (.tail _ (.head _))))))).c4; have G0 := (HK.out.a _ (.tail _ (.head _))).c0; have G1 := (HK.out.a _ (.tail _ (.head _))).c1; have G2 := (HK.out.a _ (.tail _ (.head _))).c2; have G3 := (HK.out.a _ (.tail _ (.head _))).c3; have G4 := (HK.out.a _ (.tail _ (.head _))).c4; have r0 := (HK.out.a _ (.head _)).c0; have r1 := (HK.out.a _ (.head _)).c1; have r2 := (HK.out.a _ (.head _)).c2; have r3 := (HK.out.a _ (.head _)).c3; have r4 := (HK.out.a _ (.head _)).c4)
                      | fail)
                    go_meet
                    case rel => exact HK.out.drop (fun b m => by simp only [List.mem_cons, List.not_mem_nil, or_false] at m ⊢; rcases m with rfl | rfl | rfl | rfl | rfl | rfl | rfl <;> simp)
              case rest =>
                clear HK c0 c1 c2 c3 c4 G0 G1 G2 G3 G4
                have HK := Lib.hid hcut
                clear hcut HBB HR3 HVa HGt HBo HT3
                obtain ⟨p1, p2, p3, p4, p5⟩ := P
                obtain ⟨q1, q2, q3, q4, q5⟩ := Q
                simp only at l3
                have x0 := (HK.out.a _ (.tail _ (.tail _ (.tail _ (.tail _ (.tail _ (.tail _ (.head _)))))))).c0
                have x1 := (HK.out.a _ (.tail _ (.tail _ (.tail _ (.tail _ (.tail _ (.tail _ (.head _)))))))).c1
                have x2 := (HK.out.a _ (.tail _ (.tail _ (.tail _ (.tail _ (.tail _ (.tail _ (.head _)))))))).c2
                have x3 := (HK.out.a _ (.tail _ (.tail _ (.tail _ (.tail _ (.tail _ (.tail _ (.head _)))))))).c3
                have x4 := (HK.out.a _ (.tail _ (.tail _ (.tail _ (.tail _ (.tail _ (.tail _ (.head _)))))))).c4
                have X0 := (HK.out.a _ (.tail _ (.tail _ (.head _)))).c0
                have X1 := (HK.out.a _ (.tail _ (.tail _ (.head _)))).c1
                have X2 := (HK.out.a _ (.tail _ (.tail _ (.head _)))).c2
                have X3 := (HK.out.a _ (.tail _ (.tail _ (.head _)))).c3
                have X4 := (HK.out.a _ (.tail _ (.tail _ (.head _)))).c4
                by_cases hI : I = 0
                · have hJ : J = 0 := HBn.out.2 hI
                  by_cases hr : A.r = 0
                  · have k1 : decide (0 < A.r) = false := decide_eq_false (by omega)
                    have k2 : ¬ 0 < A.r := by omega
                    subst hI hJ
                    clear HR4 HBn HVn HGo HrO hr
                    as_aux_lemma =>
                      go_wp2_with (first
                        | (go_at_call 21; (with_reducible refine (HO1.out _ (by with_unfolding_all exact HK.out.lay) (by with_unfolding_all exact HK.out.r _ (.tail _ (.tail _ (.tail _ (.tail _ (.tail _ (.tail _ (.head _))))))))).mono ?_); rintro e wm ⟨uwm, rfl, hu, hb⟩; obtain ⟨pwm, cwm, hpwm, _, _⟩ := hu.form; have hqwm : uwm = (.slice pwm p5.length cwm) := hpwm; subst hqwm; clear hpwm; have hltGm : wg.heap.size < wm.heap.size := Nat.lt_of_lt_of_le (HK.out.lt _ (.head _)) hb.size; have hltYm : gy < wm.heap.size := Nat.lt_of_lt_of_le (HK.out.lt _ (.tail _ (.head _))) hb.size; have hltXm : gx < wm.heap.size := Nat.lt_of_lt_of_le (HK.out.lt _ (.tail _ (.tail _ (.head _)))) hb.size; have hltdm : wb.heap.size < wm.heap.size := Nat.lt_of_lt_of_le (HK.out.lt _ (.tail _ (.tail _ (.tail _ (.head _))))) hb.size; have hltcm : wa.heap.size < wm.heap.size := Nat.lt_of_lt_of_le (HK.out.lt _ (.tail _ (.tail _ (.tail _ (.tail _ (.head _)))))) hb.size; have hltym : (w.heap.size + 1) < wm.heap.size := Nat.lt_of_lt_of_le (HK.out.lt _ (.tail _ (.tail _ (.tail _ (.tail _ (.tail _ (.head _))))))) hb.size; have hltxm : w.heap.size < wm.heap.size := Nat.lt_of_lt_of_le (HK.out.lt _ (.tail _ (.tail _ (.tail _ (.tail _ (.tail _ (.tail _ (.head _)))))))) hb.size; have HK2 := Lib.hid (HK.out.res hb ⟨p1, p2, p3, p4, p5⟩ hu); clear HK x0 x1 x2 x3 x4 X0 X1 X2 X3 X4; have HK := HK2; clear HK2; clear hb hu; have x0 := (HK.out.a _ (.tail _ (.tail _ (.tail _ (.tail _ (.tail _ (.tail _ (.tail _ (.head _))))))))).c0; have x1 := (HK.out.a _ (.tail _ (.tail _ (.tail _ (.tail _ (.tail _ (.tail _ (.tail _ (.head _))))))))).c1; have x2 := (HK.out.a _ (.tail _ (.tail _ (.tail _ (.tail _ (.tail _ (.tail _ (.tail _ (.head _))))))))).c2; have x3 := (HK.out.a _ (.tail _ (.tail _ (.tail _ (.tail _ (.tail _ (.tail _ (.tail _ (.head _))))))))).c3; have x4 := (HK.out.a _ (.tail _ (.tail _ (.tail _ (.tail _ (.tail _ (.tail _ (.tail _ (.head _))))))))).c4; have X0 := (HK.out.a _ (.tail _ (.tail _ (.tail _ (.head _))))).c0; have X1 := (HK.out.a _ (.tail _ (.tail _ (.tail _ (.head _))))).c1; have X2 := (HK.out.a _ (.tail _ (.tail _ (.tail _ (.head _))))).c2; have X3 := (HK.out.a _ (.tail _ (.tail _ (.tail _ (.head _))))).c3; have X4 := (HK.out.a _ (.tail _ (.tail _ (.tail _ (.head _))))).c4)
                        | (go_at_call 21; (with_reducible refine (HO2.out _ _ (by with_unfolding_all exact HK.out.lay) (by with_unfolding_all exact HK.out.r _ (.tail _ (.tail _ (.tail _ (.head _)))))).mono ?_); rintro e wn9 ⟨uwn9, rfl, hu, hb⟩; obtain ⟨pwn9, cwn9, hpwn9, _, _⟩ := hu.form; have hqwn9 : uwn9 = (.slice pwn9 q5.length cwn9) := hpwn9; subst hqwn9; clear hpwn9; have hltmn : wm.heap.size < wn9.heap.size := Nat.lt_of_lt_of_le (HK.out.lt _ (.head _)) hb.size; have hltGn : wg.heap.size < wn9.heap.size := Nat.lt_of_lt_of_le (HK.out.lt _ (.tail _ (.head _))) hb.size; have hltYn : gy < wn9.heap.size := Nat.lt_of_lt_of_le (HK.out.lt _ (.tail _ (.tail _ (.head _)))) hb.size; have hltXn : gx < wn9.heap.size := Nat.lt_of_lt_of_le (HK.out.lt _ (.tail _ (.tail _ (.tail _ (.head _))))) hb.size; have hltdn : wb.heap.size < wn9.heap.size := Nat.lt_of_lt_of_le (HK.out.lt _ (.tail _ (.tail _ (.tail _ (.tail _ (.head _)))))) hb.size; have hltcn : wa.heap.size < wn9.heap.size := Nat.lt_of_lt_of_le (HK.out.lt _ (.tail _ (.tail _ (.tail _ (.tail _ (.tail _ (.head _))))))) hb.size; have hltyn : (w.heap.size + 1) < wn9.heap.size := Nat.lt_of_lt_of_le (HK.out.lt _ (.tail _ (.tail _ (.tail _ (.tail _ (.tail _ (.tail _ (.head _)))))))) hb.size; have hltxn : w.heap.size < wn9.heap.size := Nat.lt_of_lt_of_le (HK.out.lt _ (.tail _ (.tail _ (.tail _ (.tail _ (.tail _ (.tail _ (.tail _ (.head _))))))))) hb.size; have HK2 := Lib.hid (HK.out.res hb ⟨q1, q2, q3, q4, q5⟩ hu); clear HK x0 x1 x2 x3 x4 X0 X1 X2 X3 X4; have HK := HK2; clear HK2; clear hb hu; have x0 := (HK.out.a _ (.tail _ (.tail _ (.tail _ (.tail _ (.tail _ (.tail _ (.tail _ (.tail _ (.head _)))))))))).c0; have x1 := (HK.out.a _ (.tail _ (.tail _ (.tail _ (.tail _ (.tail _ (.tail _ (.tail _ (.tail _ (.head _)))))))))).c1; have x2 := (HK.out.a _ (.tail _ (.tail _ (.tail _ (.tail _ (.tail _ (.tail _ (.tail _ (.tail _ (.head _)))))))))).c2; have x3 := (HK.out.a _ (.tail _ (.tail _ (.tail _ (.tail _ (.tail _ (.tail _ (.tail _ (.tail _ (.head _)))))))))).c3; have x4 := (HK.out.a _ (.tail _ (.tail _ (.tail _ (.tail _ (.tail _ (.tail _ (.tail _ (.tail _ (.head _)))))))))).c4; have X0 := (HK.out.a _ (.tail _ (.tail _ (.tail _ (.tail _ (.head _)))))).c0; have X1 := (HK.out.a _ (.tail _ (.tail _ (.tail _ (.tail _ (.head _)))))).c1; have X2 := (HK.out.a _ (.tail _ (.tail _ (.tail _ (.tail _ (.head _)))))).c2; have X3 := (HK.out.a _ (.tail _ (.tail _ (.tail _ (.tail _ (.head _)))))).c3; have X4 := (HK.out.a _ (.tail _ (.tail _ (.tail _ (.tail _ (.head _)))))).c4; have m0 := (HK.out.a _ (.tail _ (.head _))).c0; have m1 := (HK.out.a _ (.tail _ (.head _))).c1; have m2 := (HK.out.a _ (.tail _ (.head _))).c2; have m3 := (HK.out.a _ (.tail _ (.head _))).c3; have m4 := (HK.out.a _ (.tail _ (.head _))).c4; have n0 := (HK.out.a _ (.head _)).c0; have n1 := (HK.out.a _ (.head _)).c1; have n2 := (HK.out.a _ (.head _)).c2; have n3 := (HK.out.a _ (.head _)).c3; have n4 := (HK.out.a _ (.head _)).c4)
                        | (go_at_call 15; (with_reducible refine (HAw.out _ (by with_unfolding_all exact HK.out.lay)).mono ?_); rintro e wz ⟨rfl, hb⟩; have HK2 := Lib.hid (HK.out.next hb); clear HK x0 x1 x2 x3 x4 X0 X1 X2 X3 X4 m0 m1 m2 m3 m4 n0 n1 n2 n3 n4; have HK := HK2; clear HK2; clear hb; have x0 := (HK.out.a _ (.tail _ (.tail _ (.tail _ (.tail _ (.tail _ (.tail _ (.tail _ (.tail _ (.head _)))))))))).c0; have x1 := (HK.out.a _ (.tail _ (.tail _ (.tail _ (.tail _ (.tail _ (.tail _ (.tail _ (.tail _ (.head _)))))))))).c1; have x2 := (HK.out.a _ (.tail _ (.tail _ (.tail _ (.tail _ (.tail _ (.tail _ (.tail _ (.tail _ (.head _)))))))))).c2; have x3 := (HK.out.a _ (.tail _ (.tail _ (.tail _ (.tail _ (.tail _ (.tail _ (.tail _ (.tail _ (.head _)))))))))).c3; have x4 := (HK.out.a _ (.tail _ (.tail _ (.tail _ (.tail _ (.tail _ (.tail _ (.tail _ (.tail _ (.head _)))))))))).c4; have X0 := (HK.out.a _ (.tail _ (.tail _ (.tail _ (.tail _ (.head _)))))).c0; have X1 := (HK.out.a _ (.tail _ (.tail _ (.tail _ (.tail _ (.head _)))))).c1; have X2 := (HK.out.a _ (.tail _ (.tail _ (.tail _ (.tail _ (.head _)))))).c2; have X3 := (HK.out.a _ (.tail _ (.tail _ (.tail _ (.tail _ (.head _)))))).c3; have X4 := (HK.out.a _ (.tail _ (.tail _ (.tail _ (.tail _ (.head _)))))).c4; have m0 := (HK.out.a _ (.tail _ (.head _))).c0; have m1 := (HK.out.a _ (.tail _ (.head _))).c1; have m2 := (HK.out.a _ (.tail _ (.head _))).c2; have m3 := (HK.out.a _ (.tail _ (.head _))).c3; have m4 := (HK.out.a _ (.tail _ (.head _))).c4; have n0 := (HK.out.a _ (.head _)).c0; have n1 := (HK.out.a _ (.head _)).c1; have n2 := (HK.out.a _ (.head _)).c2; have n3 := (HK.out.a _ (.head _)).c3; have n4 := (HK.out.a _ (.head _)).c4)
                        | fail)
                      go_ret
                      exact ⟨rfl, HK.out.bel⟩
                  · have hA2 : A.r = 1 ∨ A.r = 2 := by rcases hA.r3 with e | e | e <;> omega
                    have k1 : decide (0 < A.r) = true := decide_eq_true (by omega)
                    have k2 : 0 < A.r := by omega
                    have hP := HGo.out hI
                    have hQ := HVn.out hI
                    have hPr := HrO.out hI
                    have hPr2 : (⟨p1, p2, p3, p4, p5⟩ : Ar).r = 1 ∨ (⟨p1, p2, p3, p4, p5⟩ : Ar).r = 2 := by rw [hPr]; exact hA2
                    have hrx : rvV ⟨p1, p2, p3, p4, p5⟩ = rxV ⟨p1, p2, p3, p4, p5⟩ := (if_neg (by rw [hPr]; omega)).symm
                    rw [rvE_ok hP hPr2, hrx, ← hQ] at HR4
                    have HSm2 := Lib.hid (fun v u W h1 h2 => same_eq q1 q2 q3 q4 q5 v u W h1 h2 l3)
                    subst hI hJ
                    clear HBn HVn HGo HrO hr hA2 hP hQ hPr hPr2 hrx
                    as_aux_lemma =>
                      go_wp2_with (first
                        | (go_at_call 21; (with_reducible refine (HO1.out _ (by with_unfolding_all exact HK.out.lay) (by with_unfolding_all exact HK.out.r _ (.tail _ (.tail _ (.tail _ (.tail _ (.tail _ (.tail _ (.head _))))))))).mono ?_); rintro e wm ⟨uwm, rfl, hu, hb⟩; obtain ⟨pwm, cwm, hpwm, _, _⟩ := hu.form; have hqwm : uwm = (.slice pwm p5.length cwm) := hpwm; subst hqwm; clear hpwm; have hltGm : wg.heap.size < wm.heap.size := Nat.lt_of_lt_of_le (HK.out.lt _ (.head _)) hb.size; have hltYm : gy < wm.heap.size := Nat.lt_of_lt_of_le (HK.out.lt _ (.tail _ (.head _))) hb.size; have hltXm : gx < wm.heap.size := Nat.lt_of_lt_of_le (HK.out.lt _ (.tail _ (.tail _ (.head _)))) hb.size; have hltdm : wb.heap.size < wm.heap.size := Nat.lt_of_lt_of_le (HK.out.lt _ (.tail _ (.tail _ (.tail _ (.head _))))) hb.size; have hltcm : wa.heap.size < wm.heap.size := Nat.lt_of_lt_of_le (HK.out.lt _ (.tail _ (.tail _ (.tail _ (.tail _ (.head _)))))) hb.size; have hltym : (w.heap.size + 1) < wm.heap.size := Nat.lt_of_lt_of_le (HK.out.lt _ (.tail _ (.tail _ (.tail _ (.tail _ (.tail _ (.head _))))))) hb.size; have hltxm : w.heap.size < wm.heap.size := Nat.lt_of_lt_of_le (HK.out.lt _ (.tail _ (.tail _ (.tail _ (.tail _ (.tail _ (.tail _ (.head _)))))))) hb.size; have HK2 := Lib.hid (HK.out.res hb ⟨p1, p2, p3, p4, p5⟩ hu); clear HK x0 x1 x2 x3 x4 X0 X1 X2 X3 X4; have HK := HK2; clear HK2; clear hb hu; have x0 := (HK.out.a _ (.tail _ (.tail _ (.tail _ (.tail _ (.tail _ (.tail _ (.tail _ (.head _))))))))).c0; have x1 := (HK.out.a _ (.tail _ (.tail _ (.tail _ (.tail _ (.tail _ (.tail _ (.tail _ (.head _))))))))).c1; have x2 := (HK.out.a _ (.tail _ (.tail _ (.tail _ (.tail _ (.tail _ (.tail _ (.tail _ (.head _))))))))).c2; have x3 := (HK.out.a _ (.tail _ (.tail _ (.tail _ (.tail _ (.tail _ (.tail _ (.tail _ (.head _))))))))).c3; have x4 := (HK.out.a _ (.tail _ (.tail _ (.tail _ (.tail _ (.tail _ (.tail _ (.tail _ (.head _))))))))).c4; have X0 := (HK.out.a _ (.tail _ (.tail _ (.tail _ (.head _))))).c0; have X1 := (HK.out.a _ (.tail _ (.tail _ (.tail _ (.head _))))).c1; have X2 := (HK.out.a _ (.tail _ (.tail _ (.tail _ (.head _))))).c2; have X3 := (HK.out.a _ (.tail _ (.tail _ (.tail _ (.head _))))).c3; have X4 := (HK.out.a _ (.tail _ (.tail _ (.tail _ (.head _))))).c4)
                        | (go_at_call 21; (with_reducible refine (HO2.out _ _ (by with_unfolding_all exact HK.out.lay) (by with_unfolding_all exact HK.out.r _ (.tail _ (.tail _ (.tail _ (.head _)))))).mono ?_); rintro e wn9 ⟨uwn9, rfl, hu, hb⟩; obtain ⟨pwn9, cwn9, hpwn9, _, _⟩ := hu.form; have hqwn9 : uwn9 = (.slice pwn9 q5.length cwn9) := hpwn9; subst hqwn9; clear hpwn9; have hltmn : wm.heap.size < wn9.heap.size := Nat.lt_of_lt_of_le (HK.out.lt _ (.head _)) hb.size; have hltGn : wg.heap.size < wn9.heap.size := Nat.lt_of_lt_of_le (HK.out.lt _ (.tail _ (.head _))) hb.size; have hltYn : gy < wn9.heap.size := Nat.lt_of_lt_of_le (HK.out.lt _ (.tail _ (.tail _ (.head _)))) hb.size; have hltXn : gx < wn9.heap.size := Nat.lt_of_lt_of_le (HK.out.lt _ (.tail _ (.tail _ (.tail _ (.head _))))) hb.size; have hltdn : wb.heap.size < wn9.heap.size := Nat.lt_of_lt_of_le (HK.out.lt _ (.tail _ (.tail _ (.tail _ (.tail _ (.head _)))))) hb.size; have hltcn : wa.heap.size < wn9.heap.size := Nat.lt_of_lt_of_le (HK.out.lt _ (.tail _ (.tail _ (.tail _ (.tail _ (.tail _ (.head _))))))) hb.size; have hltyn : (w.heap.size + 1) < wn9.heap.size := Nat.lt_of_lt_of_le (HK.out.lt _ (.tail _ (.tail _ (.tail _ (.tail _ (.tail _ (.tail _ (.head _)))))))) hb.size; have hltxn : w.heap.size < wn9.heap.size := Nat.lt_of_lt_of_le (HK.out.lt _ (.tail _ (.tail _ (.tail _ (.tail _ (.tail _ (.tail _ (.tail _ (.head _))))))))) hb.size; have HK2 := Lib.hid (HK.out.res hb ⟨q1, q2, q3, q4, q5⟩ hu); clear HK x0 x1 x2 x3 x4 X0 X1 X2 X3 X4; have HK := HK2; clear HK2; clear hb hu; have x0 := (HK.out.a _ (.tail _ (.tail _ (.tail _ (.tail _ (.tail _ (.tail _ (.tail _ (.tail _ (.head _)))))))))).c0; have x1 := (HK.out.a _ (.tail _ (.tail _ (.tail _ (.tail _ (.tail _ (.tail _ (.tail _ (.tail _ (.head _)))))))))).c1; have x2 := (HK.out.a _ (.tail _ (.tail _ (.tail _ (.tail _ (.tail _ (.tail _ (.tail _ (.tail _ (.head _)))))))))).c2; have x3 := (HK.out.a _ (.tail _ (.tail _ (.tail _ (.tail _ (.tail _ (.tail _ (.tail _ (.tail _ (.head _)))))))))).c3; have x4 := (HK.out.a _ (.tail _ (.tail _ (.tail _ (.tail _ (.tail _ (.tail _ (.tail _ (.tail _ (.head _)))))))))).c4; have X0 := (HK.out.a _ (.tail _ (.tail _ (.tail _ (.tail _ (.head _)))))).c0; have X1 := (HK.out.a _ (.tail _ (.tail _ (.tail _ (.tail _ (.head _)))))).c1; have X2 := (HK.out.a _ (.tail _ (.tail _ (.tail _ (.tail _ (.head _)))))).c2; have X3 := (HK.out.a _ (.tail _ (.tail _ (.tail _ (.tail _ (.head _)))))).c3; have X4 := (HK.out.a _ (.tail _ (.tail _ (.tail _ (.tail _ (.head _)))))).c4; have m0 := (HK.out.a _ (.tail _ (.head _))).c0; have m1 := (HK.out.a _ (.tail _ (.head _))).c1; have m2 := (HK.out.a _ (.tail _ (.head _))).c2; have m3 := (HK.out.a _ (.tail _ (.head _))).c3; have m4 := (HK.out.a _ (.tail _ (.head _))).c4; have n0 := (HK.out.a _ (.head _)).c0; have n1 := (HK.out.a _ (.head _)).c1; have n2 := (HK.out.a _ (.head _)).c2; have n3 := (HK.out.a _ (.head _)).c3; have n4 := (HK.out.a _ (.head _)).c4)
                        | (go_at_call 19; (with_reducible refine (HR4.out _ _ (by with_unfolding_all exact HK.out.lay) (by with_unfolding_all exact HK.out.r _ (.tail _ (.head _)))).mono ?_); rintro e wr9 ⟨uwr9, rfl, hu, hb⟩; obtain ⟨pwr9, cwr9, hpwr9, _, _⟩ := hu.form; have hqwr9 : uwr9 = (.slice pwr9 q5.length cwr9) := hpwr9; subst hqwr9; clear hpwr9; have hltnr : wn9.heap.size < wr9.heap.size := Nat.lt_of_lt_of_le (HK.out.lt _ (.head _)) hb.size; have hltmr : wm.heap.size < wr9.heap.size := Nat.lt_of_lt_of_le (HK.out.lt _ (.tail _ (.head _))) hb.size; have hltGr : wg.heap.size < wr9.heap.size := Nat.lt_of_lt_of_le (HK.out.lt _ (.tail _ (.tail _ (.head _)))) hb.size; have hltYr : gy < wr9.heap.size := Nat.lt_of_lt_of_le (HK.out.lt _ (.tail _ (.tail _ (.tail _ (.head _))))) hb.size; have hltXr : gx < wr9.heap.size := Nat.lt_of_lt_of_le (HK.out.lt _ (.tail _ (.tail _ (.tail _ (.tail _ (.head _)))))) hb.size; have hltdr : wb.heap.size < wr9.heap.size := Nat.lt_of_lt_of_le (HK.out.lt _ (.tail _ (.tail _ (.tail _ (.tail _ (.tail _ (.head _))))))) hb.size; have hltcr : wa.heap.size < wr9.heap.size := Nat.lt_of_lt_of_le (HK.out.lt _ (.tail _ (.tail _ (.tail _ (.tail _ (.tail _ (.tail _ (.head _)))))))) hb.size; have hltyr : (w.heap.size + 1) < wr9.heap.size := Nat.lt_of_lt_of_le (HK.out.lt _ (.tail _ (.tail _ (.tail _ (.tail _ (.tail _ (.tail _ (.tail _ (.head _))))))))) hb.size; have hltxr : w.heap.size < wr9.heap.size := Nat.lt_of_lt_of_le (HK.out.lt _ (.tail _ (.tail _ (.tail _ (.tail _ (.tail _ (.tail _ (.tail _ (.tail _ (.head _)))))))))) hb.size; have HK2 := Lib.hid (HK.out.res hb ⟨q1, q2, q3, q4, q5⟩ hu); clear HK x0 x1 x2 x3 x4 X0 X1 X2 X3 X4 m0 m1 m2 m3 m4 n0 n1 n2 n3 n4; have HK := HK2; clear HK2; clear hb hu; have x0 := (HK.out.a _ (.tail _ (.tail _ (.tail _ (.tail _ (.tail _ (.tail _ (.tail _ (.tail _ (.tail _ (.head _))))))))))).c0; have x1 := (HK.out.a _ (.tail _ (.tail _ (.tail _ (.tail _ (.tail _ (.tail _ (.tail _ (.tail _ (.tail _ (.head _))))))))))).c1; have x2 := (HK.out.a _ (.tail _ (.tail _ (.tail _ (.tail _ (.tail _ (.tail _ (.tail _ (.tail _ (.tail _ (.head _))))))))))).c2; have x3 := (HK.out.a _ (.tail _ (.tail _ (.tail _ (.tail _ (.tail _ (.tail _ (.tail _ (.tail _ (.tail _ (.head _))))))))))).c3; have x4 := (HK.out.a _ (.tail _ (.tail _ (.tail _ (.tail _ (.tail _ (.tail _ (.tail _ (.tail _ (.tail _ (.head _))))))))))).c4; have X0 := (HK.out.a _ (.tail _ (.tail _ (.tail _ (.tail _ (.tail _ (.head _))))))).c0; have X1 := (HK.out.a _ (.tail _ (.tail _ (.tail _ (.tail _ (.tail _ (.head _))))))).c1; have X2 := (HK.out.a _ (.tail _ (.tail _ (.tail _ (.tail _ (.tail _ (.head _))))))).c2; have X3 := (HK.out.a _ (.tail _ (.tail _ (.tail _ (.tail _ (.tail _ (.head _))))))).c3; have X4 := (HK.out.a _ (.tail _ (.tail _ (.tail _ (.tail _ (.tail _ (.head _))))))).c4; have m0 := (HK.out.a _ (.tail _ (.tail _ (.head _)))).c0; have m1 := (HK.out.a _ (.tail _ (.tail _ (.head _)))).c1; have m2 := (HK.out.a _ (.tail _ (.tail _ (.head _)))).c2; have m3 := (HK.out.a _ (.tail _ (.tail _ (.head _)))).c3; have m4 := (HK.out.a _ (.tail _ (.tail _ (.head _)))).c4; have n0 := (HK.out.a _ (.tail _ (.head _))).c0; have n1 := (HK.out.a _ (.tail _ (.head _))).c1; have n2 := (HK.out.a _ (.tail _ (.head _))).c2; have n3 := (HK.out.a _ (.tail _ (.head _))).c3; have n4 := (HK.out.a _ (.tail _ (.head _))).c4; have r0 := (HK.out.a _ (.head _)).c0; have r1 := (HK.out.a _ (.head _)).c1; have r2 := (HK.out.a _ (.head _)).c2; have r3 := (HK.out.a _ (.head _)).c3; have r4 := (HK.out.a _ (.head _)).c4)
                        | (go_at_call 20; (with_reducible refine (HSm2.out _ _ _ (by with_unfolding_all exact HK.out.r _ (.tail _ (.head _))) (by with_unfolding_all exact HK.out.r _ (.head _))).mono ?_); rintro e wz ⟨rfl, hb⟩; have HK2 := Lib.hid (HK.out.next hb); clear HK x0 x1 x2 x3 x4 X0 X1 X2 X3 X4 m0 m1 m2 m3 m4 n0 n1 n2 n3 n4 r0 r1 r2 r3 r4; have HK := HK2; clear HK2; clear hb; have x0 := (HK.out.a _ (.tail _ (.tail _ (.tail _ (.tail _ (.tail _ (.tail _ (.tail _ (.tail _ (.tail _ (.head _))))))))))).c0; have x1 := (HK.out.a _ (.tail _ (.tail _ (.tail _ (.tail _ (.tail _ (.tail _ (.tail _ (.tail _ (.tail _ (.head _))))))))))).c1; have x2 := (HK.out.a _ (.tail _ (.tail _ (.tail _ (.tail _ (.tail _ (.tail _ (.tail _ (.tail _ (.tail _ (.head _))))))))))).c2; have x3 := (HK.out.a _ (.tail _ (.tail _ (.tail _ (.tail _ (.tail _ (.tail _ (.tail _ (.tail _ (.tail _ (.head _))))))))))).c3; have x4 := (HK.out.a _ (.tail _ (.tail _ (.tail _ (.tail _ (.tail _ (.tail _ (.tail _ (.tail _ (.tail _ (.head _))))))))))).c4; have X0 := (HK.out.a _ (.tail _ (.tail _ (.tail _ (.tail _ (.tail _ (.head _))))))).c0; have X1 := (HK.out.a _ (.tail _ (.tail _ (.tail _ (.tail _ (.tail _ (.head _))))))).c1; have X2 := (HK.out.a _ (.tail _ (.tail _ (.tail _ (.tail _ (.tail _ (.head _))))))).c2; have X3 := (HK.out.a _ (.tail _ (.tail _ (.tail _ (.tail _ (.tail _ (.head _))))))).c3; have X4 := (HK.out.a _ (.tail _ (.tail _ (.tail _ (.tail _ (.tail _ (.head _))))))).c4; have m0 := (HK.out.a _ (.tail _ (.tail _ (.head _)))).c0; have m1 := (HK.out.a _ (.tail _ (.tail _ (.head _)))).c1; have m2 := (HK.out.a _ (.tail _ (.tail _ (.head _)))).c2; have m3 := (HK.out.a _ (.tail _ (.tail _ (.head _)))).c3; have m4 := (HK.out.a _ (.tail _ (.tail _ (.head _)))).c4; have n0 := (HK.out.a _ (.tail _ (.head _))).c0; have n1 := (HK.out.a _ (.tail _ (.head _))).c1; have n2 := (HK.out.a _ (.tail _ (.head _))).c2; have n3 := (HK.out.a _ (.tail _ (.head _))).c3; have n4 := (HK.out.a _ (.tail _ (.head _))).c4; have r0 := (HK.out.a _ (.head _)).c0; have r1 := (HK.out.a _ (.head _)).c1; have r2 := (HK.out.a _ (.head _)).c2; have r3 := (HK.out.a _ (.head _)).c3; have r4 := (HK.out.a _ (.head _)).c4)
                        | (go_at_call 15; (with_reducible refine (HAw.out _ (by with_unfolding_all exact HK.out.lay)).mono ?_); rintro e wz ⟨rfl, hb⟩; have HK2 := Lib.hid (HK.out.next hb); clear HK x0 x1 x2 x3 x4 X0 X1 X2 X3 X4 m0 m1 m2 m3 m4 n0 n1 n2 n3 n4 r0 r1 r2 r3 r4; have HK := HK2; clear HK2; clear hb; have x0 := (HK.out.a _ (.tail _ (.tail _ (.tail _ (.tail _ (.tail _ (.tail _ (.tail _ (.tail _ (.tail _ (.head _))))))))))).c0; have x1 := (HK.out.a _ (.tail _ (.tail _ (.tail _ (.tail _ (.tail _ (.tail _ (.tail _ (.tail _ (.tail _ (.head _))))))))))).c1; have x2 := (HK.out.a _ (.tail _ (.tail _ (.tail _ (.tail _ (.tail _ (.tail _ (.tail _ (.tail _ (.tail _ (.head _))))))))))).c2; have x3 := (HK.out.a _ (.tail _ (.tail _ (.tail _ (.tail _ (.tail _ (.tail _ (.tail _ (.tail _ (.tail _ (.head _))))))))))).c3; have x4 := (HK.out.a _ (.tail _ (.tail _ (.tail _ (.tail _ (.tail _ (.tail _ (.tail _ (.tail _ (.tail _ (.head _))))))))))).c4; have X0 := (HK.out.a _ (.tail _ (.tail _ (.tail _ (.tail _ (.tail _ (.head _))))))).c0; have X1 := (HK.out.a _ (.tail _ (.tail _ (.tail _ (.tail _ (.tail _ (.head _))))))).c1; have X2 := (HK.out.a _ (.tail _ (.tail _ (.tail _ (.tail _ (.tail _ (.head _))))))).c2; have X3 := (HK.out.a _ (.tail _ (.tail _ (.tail _ (.tail _ (.tail _ (.head _))))))).c3; have X4 := (HK.out.a _ (.tail _ (.tail _ (.tail _ (.tail _ (.tail _ (.head _))))))).c4; have m0 := (HK.out.a _ (.tail _ (.tail _ (.head _)))).c0; have m1 := (HK.out.a _ (.tail _ (.tail _ (.head _)))).c1; have m2 := (HK.out.a _ (.tail _ (.tail _ (.head _)))).c2; have m3 := (HK.out.a _ (.tail _ (.tail _ (.head _)))).c3; have m4 := (HK.out.a _ (.tail _ (.tail _ (.head _)))).c4; have n0 := (HK.out.a _ (.tail _ (.head _))).c0; have n1 := (HK.out.a _ (.tail _ (.head _))).c1; have n2 := (HK.out.a _ (.tail _ (.head _))).c2; have n3 := (HK.out.a _ (.tail _ (.head _))).c3; have n4 := (HK.out.a _ (.tail _ (.head _))).c4; have r0 := (HK.out.a _ (.head _)).c0; have r1 := (HK.out.a _ (.head _)).c1; have r2 := (HK.out.a _ (.head _)).c2; have r3 := (HK.out.a _ (.head _)).c3; have r4 := (HK.out.a _ (.head _)).c4)
                        | fail)
                      go_ret
                      exact ⟨rfl, HK.out.bel⟩
                · have hJ : ¬ J = 0 := fun e => hI (HBn.out.1 e)
                  have k1 : (I == 0) = false := by simpa using hI
                  have k2 : (J == 0) = false := by simpa using hJ
                  clear HR4 HBn HVn HGo HrO hI hJ
                  as_aux_lemma =>
                    go_wp2_with (first
                      | (go_at_call 21; (with_reducible refine (HO1.out _ (by with_unfolding_all exact HK.out.lay) (by with_unfolding_all exact HK.out.r _ (.tail _ (.tail _ (.tail _ (.tail _ (.tail _ (.tail _ (.head _))))))))).mono ?_); rintro e wm ⟨uwm, rfl, hu, hb⟩; obtain ⟨pwm, cwm, hpwm, _, _⟩ := hu.form; have hqwm : uwm = (.slice pwm p5.length cwm) := hpwm; subst hqwm; clear hpwm; have hltGm : wg.heap.size < wm.heap.size := Nat.lt_of_lt_of_le (HK.out.lt _ (.head _)) hb.size; have hltYm : gy < wm.heap.size := Nat.lt_of_lt_of_le (HK.out.lt _ (.tail _ (.head _))) hb.size; have hltXm : gx < wm.heap.size := Nat.lt_of_lt_of_le (HK.out.lt _ (.tail _ (.tail _ (.head _)))) hb.size; have hltdm : wb.heap.size < wm.heap.size := Nat.lt_of_lt_of_le (HK.out.lt _ (.tail _ (.tail _ (.tail _ (.head _))))) hb.size; have hltcm : wa.heap.size < wm.heap.size := Nat.lt_of_lt_of_le (HK.out.lt _ (.tail _ (.tail _ (.tail _ (.tail _ (.head _)))))) hb.size; have hltym : (w.heap.size + 1) < wm.heap.size := Nat.lt_of_lt_of_le (HK.out.lt _ (.tail _ (.tail _ (.tail _ (.tail _ (.tail _ (.head _))))))) hb.size; have hltxm : w.heap.size < wm.heap.size := Nat.lt_of_lt_of_le (HK.out.lt _ (.tail _ (.tail _ (.tail _ (.tail _ (.tail _ (.tail _ (.head _)))))))) hb.size; have HK2 := Lib.hid (HK.out.res hb ⟨p1, p2, p3, p4, p5⟩ hu); clear HK x0 x1 x2 x3 x4 X0 X1 X2 X3 X4; have HK := HK2; clear HK2; clear hb hu; have x0 := (HK.out.a _ (.tail _ (.tail _ (.tail _ (.tail _ (.tail _ (.tail _ (.tail _ (.head _))))))))).c0; have x1 := (HK.out.a _ (.tail _ (.tail _ (.tail _ (.tail _ (.tail _ (.tail _ (.tail _ (.head _))))))))).c1; have x2 := (HK.out.a _ (.tail _ (.tail _ (.tail _ (.tail _ (.tail _ (.tail _ (.tail _ (.head _))))))))).c2; have x3 := (HK.out.a _ (.tail _ (.tail _ (.tail _ (.tail _ (.tail _ (.tail _ (.tail _ (.head _))))))))).c3; have x4 := (HK.out.a _ (.tail _ (.tail _ (.tail _ (.tail _ (.tail _ (.tail _ (.tail _ (.head _))))))))).c4; have X0 := (HK.out.a _ (.tail _ (.tail _ (.tail _ (.head _))))).c0; have X1 := (HK.out.a _ (.tail _ (.tail _ (.tail _ (.head _))))).c1; have X2 := (HK.out.a _ (.tail _ (.tail _ (.tail _ (.head _))))).c2; have X3 := (HK.out.a _ (.tail _ (.tail _ (.tail _ (.head _))))).c3; have X4 := (HK.out.a _ (.tail _ (.tail _ (.tail _ (.head _))))).c4)
                      | (go_at_call 21; (with_reducible refine (HO2.out _ _ (by with_unfolding_all exact HK.out.lay) (by with_unfolding_all exact HK.out.r _ (.tail _ (.tail _ (.tail _ (.head _)))))).mono ?_); rintro e wn9 ⟨uwn9, rfl, hu, hb⟩; obtain ⟨pwn9, cwn9, hpwn9, _, _⟩ := hu.form; have hqwn9 : uwn9 = (.slice pwn9 q5.length cwn9) := hpwn9; subst hqwn9; clear hpwn9; have hltmn : wm.heap.size < wn9.heap.size := Nat.lt_of_lt_of_le (HK.out.lt _ (.head _)) hb.size; have hltGn : wg.heap.size < wn9.heap.size := Nat.lt_of_lt_of_le (HK.out.lt _ (.tail _ (.head _))) hb.size; have hltYn : gy < wn9.heap.size := Nat.lt_of_lt_of_le (HK.out.lt _ (.tail _ (.tail _ (.head _)))) hb.size; have hltXn : gx < wn9.heap.size := Nat.lt_of_lt_of_le (HK.out.lt _ (.tail _ (.tail _ (.tail _ (.head _))))) hb.size; have hltdn : wb.heap.size < wn9.heap.size := Nat.lt_of_lt_of_le (HK.out.lt _ (.tail _ (.tail _ (.tail _ (.tail _ (.head _)))))) hb.size; have hltcn : wa.heap.size < wn9.heap.size := Nat.lt_of_lt_of_le (HK.out.lt _ (.tail _ (.tail _ (.tail _ (.tail _ (.tail _ (.head _))))))) hb.size; have hltyn : (w.heap.size + 1) < wn9.heap.size := Nat.lt_of_lt_of_le (HK.out.lt _ (.tail _ (.tail _ (.tail _ (.tail _ (.tail _ (.tail _ (.head _)))))))) hb.size; have hltxn : w.heap.size < wn9.heap.size := Nat.lt_of_lt_of_le (HK.out.lt _ (.tail _ (.tail _ (.tail _ (.tail _ (.tail _ (.tail _ (.tail _ (.head _))))))))) hb.size; have HK2 := Lib.hid (HK.out.res hb ⟨q1, q2, q3, q4, q5⟩ hu); clear HK x0 x1 x2 x3 x4 X0 X1 X2 X3 X4; have HK := HK2; clear HK2; clear hb hu; have x0 := (HK.out.a _ (.tail _ (.tail _ (.tail _ (.tail _ (.tail _ (.tail _ (.tail _ (.tail _ (.head _)))))))))).c0; have x1 := (HK.out.a _ (.tail _ (.tail _ (.tail _ (.tail _ (.tail _ (.tail _ (.tail _ (.tail _ (.head _)))))))))).c1; have x2 := (HK.out.a _ (.tail _ (.tail _ (.tail _ (.tail _ (.tail _ (.tail _ (.tail _ (.tail _ (.head _)))))))))).c2; have x3 := (HK.out.a _ (.tail _ (.tail _ (.tail _ (.tail _ (.tail _ (.tail _ (.tail _ (.tail _ (.head _)))))))))).c3; have x4 := (HK.out.a _ (.tail _ (.tail _ (.tail _ (.tail _ (.tail _ (.tail _ (.tail _ (.tail _ (.head _)))))))))).c4; have X0 := (HK.out.a _ (.tail _ (.tail _ (.tail _ (.tail _ (.head _)))))).c0; have X1 := (HK.out.a _ (.tail _ (.tail _ (.tail _ (.tail _ (.head _)))))).c1; have X2 := (HK.out.a _ (.tail _ (.tail _ (.tail _ (.tail _ (.head _)))))).c2; have X3 := (HK.out.a _ (.tail _ (.tail _ (.tail _ (.tail _ (.head _)))))).c3; have X4 := (HK.out.a _ (.tail _ (.tail _ (.tail _ (.tail _ (.head _)))))).c4; have m0 := (HK.out.a _ (.tail _ (.head _))).c0; have m1 := (HK.out.a _ (.tail _ (.head _))).c1; have m2 := (HK.out.a _ (.tail _ (.head _))).c2; have m3 := (HK.out.a _ (.tail _ (.head _))).c3; have m4 := (HK.out.a _ (.tail _ (.head _))).c4; have n0 := (HK.out.a _ (.head _)).c0; have n1 := (HK.out.a _ (.head _)).c1; have n2 := (HK.out.a _ (.head _)).c2; have n3 := (HK.out.a _ (.head _)).c3; have n4 := (HK.out.a _ (.head _)).c4)
                      | (go_at_call 15; (with_reducible refine (HAw.out _ (by with_unfolding_all exact HK.out.lay)).mono ?_); rintro e wz ⟨rfl, hb⟩; have HK2 := Lib.hid (HK.out.next hb); clear HK x0 x1 x2 x3 x4 X0 X1 X2 X3 X4 m0 m1 m2 m3 m4 n0 n1 n2 n3 n4; have HK := HK2; clear HK2; clear hb; have x0 := (HK.out.a _ (.tail _ (.tail _ (.tail _ (.tail _ (.tail _ (.tail _ (.tail _ (.tail _ (.head _)))))))))).c0; have x1 := (HK.out.a _ (.tail _ (.tail _ (.tail _ (.tail _ (.tail _ (.tail _ (.tail _ (.tail _ (.head _)))))))))).c1; have x2 := (HK.out.a _ (.tail _ (.tail _ (.tail _ (.tail _ (.tail _ (.tail _ (.tail _ (.tail _ (.head _)))))))))).c2; have x3 := (HK.out.a _ (.tail _ (.tail _ (.tail _ (.tail _ (.tail _ (.tail _ (.tail _ (.tail _ (.head _)))))))))).c3; have x4 := (HK.out.a _ (.tail _ (.tail _ (.tail _ (.tail _ (.tail _ (.tail _ (.tail _ (.tail _ (.head _)))))))))).c4; have X0 := (HK.out.a _ (.tail _ (.tail _ (.tail _ (.tail _ (.head _)))))).c0; have X1 := (HK.out.a _ (.tail _ (.tail _ (.tail _ (.tail _ (.head _)))))).c1; have X2 := (HK.out.a _ (.tail _ (.tail _ (.tail _ (.tail _ (.head _)))))).c2; have X3 := (HK.out.a _ (.tail _ (.tail _ (.tail _ (.tail _ (.head _)))))).c3; have X4 := (HK.out.a _ (.tail _ (.tail _ (.tail _ (.tail _ (.head _)))))).c4; have m0 := (HK.out.a _ (.tail _ (.head _))).c0; have m1 := (HK.out.a _ (.tail _ (.head _))).c1; have m2 := (HK.out.a _ (.tail _ (.head _))).c2; have m3 := (HK.out.a _ (.tail _ (.head _))).c3; have m4 := (HK.out.a _ (.tail _ (.head _))).c4; have n0 := (HK.out.a _ (.head _)).c0; have n1 := (HK.out.a _ (.head _)).c1; have n2 := (HK.out.a _ (.head _)).c2; have n3 := (HK.out.a _ (.head _)).c3; have n4 := (HK.out.a _ (.head _)).c4)
                      | fail)
                    go_ret
                    exact ⟨rfl, HK.out.bel⟩
end Go.Proofs.YtokmdgiialcokaaDoor
