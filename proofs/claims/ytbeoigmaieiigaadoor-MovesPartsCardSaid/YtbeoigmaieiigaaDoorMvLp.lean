/- The law MovesParts. -/
import Derived.Test.YtbeoigmaieiigaaDoorMvKc
import Derived.Test.YtbeoigmaieiigaaDoorMvPp
import Derived.Test.YtbeoigmaieiigaaDoorMvW
import Derived.Test.YtbeoigmaieiigaaDoorMvO
import Derived.Deep.DeepCutAuto
namespace Go.Proofs.YtbeoigmaieiigaaDoor
open Go.RowKit

/-- What a region leaves that lays a variable and stores a result into it. -/
def CutV (w : World) (l : List Bk) (sp se : Value) (T : Ar) (W : World) : Prop :=
  ∃ g q c, sp = .pointer (some ⟨g, 0, none⟩) ∧ se = .int .i64 0 ∧ KVar w (⟨g, T, .slice q T.z.length c⟩ :: l) W ∧ ∀ b ∈ l, b.g < g
set_option maxRecDepth 100000 in
set_option maxHeartbeats 32000000 in
theorem lawParts_any (A B : Ar) (n : Int) (u v : Value) (w : World) (hw : Ru.Lay w) (hu : RdI w.heap.size w u A.z) (hv : RdI w.heap.size w v B.z) (hnu : Ru.NilC u) (hnv : Ru.NilC v) (hbn : -9223372036854775808 ≤ n ∧ n ≤ 9223372036854775807) (haw : ∀ W, Ru.Lay W → Calls Tryd.prog 12 #[] W fun e w' => e = .returned (.bool true) ∧ Below W.heap.size W w') :
    Calls Tryd.prog 8 #[A5 A.k A.r A.a A.b u, A5 B.k B.r B.a B.b v, .int .i64 n] w fun e w' => e = .returned (.bool true) ∧ Below w.heap.size w w' := by
  have HF1 := Lib.hid (fun W h => far7_any A u W h)
  have HF2 := Lib.hid (fun W h => far7_any B v W h)
  have HAw := Lib.hid haw
  clear haw
  have HK : Hid (KVar w [⟨w.heap.size + 1, B, v⟩, ⟨w.heap.size, A, u⟩] ((w.alloc (.cells #[.int .i64 A.k, .int .i64 A.r, .int .i64 A.a, .int .i64 A.b, u] 25)).alloc (.cells #[.int .i64 B.k, .int .i64 B.r, .int .i64 B.a, .int .i64 B.b, v] 25))) := by
    have h := ((KVar.start w hw).arg A hu hnu).arg B hv hnv
    have e : (w.alloc (.cells #[.int .i64 A.k, .int .i64 A.r, .int .i64 A.a, .int .i64 A.b, u] 25)).heap.size = w.heap.size + 1 := by simp
    rw [e] at h
    exact h
  have HNA := Lib.hid hnu
  have HNB := Lib.hid hnv
  obtain ⟨p, cap, rfl, _, _, _⟩ := hu
  obtain ⟨q, cap', rfl, _, _, _⟩ := hv
  clear hw hnv hnu
  have x0 := (HK.out.a _ (.tail _ (.head _))).c0
  have x1 := (HK.out.a _ (.tail _ (.head _))).c1
  have x2 := (HK.out.a _ (.tail _ (.head _))).c2
  have x3 := (HK.out.a _ (.tail _ (.head _))).c3
  have x4 := (HK.out.a _ (.tail _ (.head _))).c4
  have y0 := (HK.out.a _ (.head _)).c0
  have y1 := (HK.out.a _ (.head _)).c1
  have y2 := (HK.out.a _ (.head _)).c2
  have y3 := (HK.out.a _ (.head _)).c3
  have y4 := (HK.out.a _ (.head _)).c4
  by_cases h1 : 405 < A.z.length
  · rw [decide_eq_true h1] at HF1
    clear h1
    go_enter Tryd.func8, Tryd.ntmps8
    go_wp2_with (first
      | (go_at_call 11; (with_reducible refine (HF1.out _ (by with_unfolding_all exact HK.out.r _ (.tail _ (.head _)))).mono ?_); rintro e wz ⟨rfl, hb⟩; have HK2 := Lib.hid (HK.out.next hb); clear HK x0 x1 x2 x3 x4 y0 y1 y2 y3 y4; have HK := HK2; clear HK2; clear hb; have x0 := (HK.out.a _ (.tail _ (.head _))).c0; have x1 := (HK.out.a _ (.tail _ (.head _))).c1; have x2 := (HK.out.a _ (.tail _ (.head _))).c2; have x3 := (HK.out.a _ (.tail _ (.head _))).c3; have x4 := (HK.out.a _ (.tail _ (.head _))).c4; have y0 := (HK.out.a _ (.head _)).c0; have y1 := (HK.out.a _ (.head _)).c1; have y2 := (HK.out.a _ (.head _)).c2; have y3 := (HK.out.a _ (.head _)).c3; have y4 := (HK.out.a _ (.head _)).c4)
      | (go_at_call 12; (with_reducible refine (HAw.out _ (by with_unfolding_all exact HK.out.lay)).mono ?_); rintro e wz ⟨rfl, hb⟩; have HK2 := Lib.hid (HK.out.next hb); clear HK x0 x1 x2 x3 x4 y0 y1 y2 y3 y4; have HK := HK2; clear HK2; clear hb; have x0 := (HK.out.a _ (.tail _ (.head _))).c0; have x1 := (HK.out.a _ (.tail _ (.head _))).c1; have x2 := (HK.out.a _ (.tail _ (.head _))).c2; have x3 := (HK.out.a _ (.tail _ (.head _))).c3; have x4 := (HK.out.a _ (.tail _ (.head _))).c4; have y0 := (HK.out.a _ (.head _)).c0; have y1 := (HK.out.a _ (.head _)).c1; have y2 := (HK.out.a _ (.head _)).c2; have y3 := (HK.out.a _ (.head _)).c3; have y4 := (HK.out.a _ (.head _)).c4)
      | fail)
    go_ret
    exact ⟨rfl, HK.out.bel⟩
  rw [decide_eq_false h1] at HF1
  by_cases h2 : 405 < B.z.length
  · rw [decide_eq_true h2] at HF2
    clear h1 h2
    go_enter Tryd.func8, Tryd.ntmps8
    go_wp2_with (first
      | (go_at_call 11; (with_reducible refine (HF1.out _ (by with_unfolding_all exact HK.out.r _ (.tail _ (.head _)))).mono ?_); rintro e wz ⟨rfl, hb⟩; have HK2 := Lib.hid (HK.out.next hb); clear HK x0 x1 x2 x3 x4 y0 y1 y2 y3 y4; have HK := HK2; clear HK2; clear hb; have x0 := (HK.out.a _ (.tail _ (.head _))).c0; have x1 := (HK.out.a _ (.tail _ (.head _))).c1; have x2 := (HK.out.a _ (.tail _ (.head _))).c2; have x3 := (HK.out.a _ (.tail _ (.head _))).c3; have x4 := (HK.out.a _ (.tail _ (.head _))).c4; have y0 := (HK.out.a _ (.head _)).c0; have y1 := (HK.out.a _ (.head _)).c1; have y2 := (HK.out.a _ (.head _)).c2; have y3 := (HK.out.a _ (.head _)).c3; have y4 := (HK.out.a _ (.head _)).c4)
      | (go_at_call 11; (with_reducible refine (HF2.out _ (by with_unfolding_all exact HK.out.r _ (.head _))).mono ?_); rintro e wz ⟨rfl, hb⟩; have HK2 := Lib.hid (HK.out.next hb); clear HK x0 x1 x2 x3 x4 y0 y1 y2 y3 y4; have HK := HK2; clear HK2; clear hb; have x0 := (HK.out.a _ (.tail _ (.head _))).c0; have x1 := (HK.out.a _ (.tail _ (.head _))).c1; have x2 := (HK.out.a _ (.tail _ (.head _))).c2; have x3 := (HK.out.a _ (.tail _ (.head _))).c3; have x4 := (HK.out.a _ (.tail _ (.head _))).c4; have y0 := (HK.out.a _ (.head _)).c0; have y1 := (HK.out.a _ (.head _)).c1; have y2 := (HK.out.a _ (.head _)).c2; have y3 := (HK.out.a _ (.head _)).c3; have y4 := (HK.out.a _ (.head _)).c4)
      | (go_at_call 12; (with_reducible refine (HAw.out _ (by with_unfolding_all exact HK.out.lay)).mono ?_); rintro e wz ⟨rfl, hb⟩; have HK2 := Lib.hid (HK.out.next hb); clear HK x0 x1 x2 x3 x4 y0 y1 y2 y3 y4; have HK := HK2; clear HK2; clear hb; have x0 := (HK.out.a _ (.tail _ (.head _))).c0; have x1 := (HK.out.a _ (.tail _ (.head _))).c1; have x2 := (HK.out.a _ (.tail _ (.head _))).c2; have x3 := (HK.out.a _ (.tail _ (.head _))).c3; have x4 := (HK.out.a _ (.tail _ (.head _))).c4; have y0 := (HK.out.a _ (.head _)).c0; have y1 := (HK.out.a _ (.head _)).c1; have y2 := (HK.out.a _ (.head _)).c2; have y3 := (HK.out.a _ (.head _)).c3; have y4 := (HK.out.a _ (.head _)).c4)
      | fail)
    go_ret
    exact ⟨rfl, HK.out.bel⟩
  rw [decide_eq_false h2] at HF2
  have hlA : A.z.length ≤ 1000000 := by omega
  have hlB : B.z.length ≤ 1000000 := by omega
  have HCh := Lib.hid (fun W h => archeck_any A (.slice p A.z.length cap) W h hlA)
  by_cases hc : ck A = 0
  rotate_left
  · obtain ⟨E, hE⟩ : ∃ E, ck A = E := ⟨_, rfl⟩
    rw [hE] at hc HCh
    have k1 : (E != 0) = true := by simpa using hc
    clear hE hc h1 h2 hlA hlB
    go_enter Tryd.func8, Tryd.ntmps8
    go_wp2_with (first
      | (go_at_call 11; (with_reducible refine (HF1.out _ (by with_unfolding_all exact HK.out.r _ (.tail _ (.head _)))).mono ?_); rintro e wz ⟨rfl, hb⟩; have HK2 := Lib.hid (HK.out.next hb); clear HK x0 x1 x2 x3 x4 y0 y1 y2 y3 y4; have HK := HK2; clear HK2; clear hb; have x0 := (HK.out.a _ (.tail _ (.head _))).c0; have x1 := (HK.out.a _ (.tail _ (.head _))).c1; have x2 := (HK.out.a _ (.tail _ (.head _))).c2; have x3 := (HK.out.a _ (.tail _ (.head _))).c3; have x4 := (HK.out.a _ (.tail _ (.head _))).c4; have y0 := (HK.out.a _ (.head _)).c0; have y1 := (HK.out.a _ (.head _)).c1; have y2 := (HK.out.a _ (.head _)).c2; have y3 := (HK.out.a _ (.head _)).c3; have y4 := (HK.out.a _ (.head _)).c4)
      | (go_at_call 11; (with_reducible refine (HF2.out _ (by with_unfolding_all exact HK.out.r _ (.head _))).mono ?_); rintro e wz ⟨rfl, hb⟩; have HK2 := Lib.hid (HK.out.next hb); clear HK x0 x1 x2 x3 x4 y0 y1 y2 y3 y4; have HK := HK2; clear HK2; clear hb; have x0 := (HK.out.a _ (.tail _ (.head _))).c0; have x1 := (HK.out.a _ (.tail _ (.head _))).c1; have x2 := (HK.out.a _ (.tail _ (.head _))).c2; have x3 := (HK.out.a _ (.tail _ (.head _))).c3; have x4 := (HK.out.a _ (.tail _ (.head _))).c4; have y0 := (HK.out.a _ (.head _)).c0; have y1 := (HK.out.a _ (.head _)).c1; have y2 := (HK.out.a _ (.head _)).c2; have y3 := (HK.out.a _ (.head _)).c3; have y4 := (HK.out.a _ (.head _)).c4)
      | (go_at_call 30; (with_reducible refine (HCh.out _ (by with_unfolding_all exact HK.out.r _ (.tail _ (.head _)))).mono ?_); rintro e wz ⟨rfl, hb⟩; have HK2 := Lib.hid (HK.out.next hb); clear HK x0 x1 x2 x3 x4 y0 y1 y2 y3 y4; have HK := HK2; clear HK2; clear hb; have x0 := (HK.out.a _ (.tail _ (.head _))).c0; have x1 := (HK.out.a _ (.tail _ (.head _))).c1; have x2 := (HK.out.a _ (.tail _ (.head _))).c2; have x3 := (HK.out.a _ (.tail _ (.head _))).c3; have x4 := (HK.out.a _ (.tail _ (.head _))).c4; have y0 := (HK.out.a _ (.head _)).c0; have y1 := (HK.out.a _ (.head _)).c1; have y2 := (HK.out.a _ (.head _)).c2; have y3 := (HK.out.a _ (.head _)).c3; have y4 := (HK.out.a _ (.head _)).c4)
      | (go_at_call 12; (with_reducible refine (HAw.out _ (by with_unfolding_all exact HK.out.lay)).mono ?_); rintro e wz ⟨rfl, hb⟩; have HK2 := Lib.hid (HK.out.next hb); clear HK x0 x1 x2 x3 x4 y0 y1 y2 y3 y4; have HK := HK2; clear HK2; clear hb; have x0 := (HK.out.a _ (.tail _ (.head _))).c0; have x1 := (HK.out.a _ (.tail _ (.head _))).c1; have x2 := (HK.out.a _ (.tail _ (.head _))).c2; have x3 := (HK.out.a _ (.tail _ (.head _))).c3; have x4 := (HK.out.a _ (.tail _ (.head _))).c4; have y0 := (HK.out.a _ (.head _)).c0; have y1 := (HK.out.a _ (.head _)).c1; have y2 := (HK.out.a _ (.head _)).c2; have y3 := (HK.out.a _ (.head _)).c3; have y4 := (HK.out.a _ (.head _)).c4)
      | fail)
    go_ret
    exact ⟨rfl, HK.out.bel⟩
  rw [hc] at HCh
  have hA := ck_good hc
  by_cases hr : A.r = 1
  rotate_left
  · have k1 : (A.r != 1) = true := by simpa using hr
    clear hr hA hc h1 h2 hlA hlB
    go_enter Tryd.func8, Tryd.ntmps8
    go_wp2_with (first
      | (go_at_call 11; (with_reducible refine (HF1.out _ (by with_unfolding_all exact HK.out.r _ (.tail _ (.head _)))).mono ?_); rintro e wz ⟨rfl, hb⟩; have HK2 := Lib.hid (HK.out.next hb); clear HK x0 x1 x2 x3 x4 y0 y1 y2 y3 y4; have HK := HK2; clear HK2; clear hb; have x0 := (HK.out.a _ (.tail _ (.head _))).c0; have x1 := (HK.out.a _ (.tail _ (.head _))).c1; have x2 := (HK.out.a _ (.tail _ (.head _))).c2; have x3 := (HK.out.a _ (.tail _ (.head _))).c3; have x4 := (HK.out.a _ (.tail _ (.head _))).c4; have y0 := (HK.out.a _ (.head _)).c0; have y1 := (HK.out.a _ (.head _)).c1; have y2 := (HK.out.a _ (.head _)).c2; have y3 := (HK.out.a _ (.head _)).c3; have y4 := (HK.out.a _ (.head _)).c4)
      | (go_at_call 11; (with_reducible refine (HF2.out _ (by with_unfolding_all exact HK.out.r _ (.head _))).mono ?_); rintro e wz ⟨rfl, hb⟩; have HK2 := Lib.hid (HK.out.next hb); clear HK x0 x1 x2 x3 x4 y0 y1 y2 y3 y4; have HK := HK2; clear HK2; clear hb; have x0 := (HK.out.a _ (.tail _ (.head _))).c0; have x1 := (HK.out.a _ (.tail _ (.head _))).c1; have x2 := (HK.out.a _ (.tail _ (.head _))).c2; have x3 := (HK.out.a _ (.tail _ (.head _))).c3; have x4 := (HK.out.a _ (.tail _ (.head _))).c4; have y0 := (HK.out.a _ (.head _)).c0; have y1 := (HK.out.a _ (.head _)).c1; have y2 := (HK.out.a _ (.head _)).c2; have y3 := (HK.out.a _ (.head _)).c3; have y4 := (HK.out.a _ (.head _)).c4)
      | (go_at_call 30; (with_reducible refine (HCh.out _ (by with_unfolding_all exact HK.out.r _ (.tail _ (.head _)))).mono ?_); rintro e wz ⟨rfl, hb⟩; have HK2 := Lib.hid (HK.out.next hb); clear HK x0 x1 x2 x3 x4 y0 y1 y2 y3 y4; have HK := HK2; clear HK2; clear hb; have x0 := (HK.out.a _ (.tail _ (.head _))).c0; have x1 := (HK.out.a _ (.tail _ (.head _))).c1; have x2 := (HK.out.a _ (.tail _ (.head _))).c2; have x3 := (HK.out.a _ (.tail _ (.head _))).c3; have x4 := (HK.out.a _ (.tail _ (.head _))).c4; have y0 := (HK.out.a _ (.head _)).c0; have y1 := (HK.out.a _ (.head _)).c1; have y2 := (HK.out.a _ (.head _)).c2; have y3 := (HK.out.a _ (.head _)).c3; have y4 := (HK.out.a _ (.head _)).c4)
      | (go_at_call 12; (with_reducible refine (HAw.out _ (by with_unfolding_all exact HK.out.lay)).mono ?_); rintro e wz ⟨rfl, hb⟩; have HK2 := Lib.hid (HK.out.next hb); clear HK x0 x1 x2 x3 x4 y0 y1 y2 y3 y4; have HK := HK2; clear HK2; clear hb; have x0 := (HK.out.a _ (.tail _ (.head _))).c0; have x1 := (HK.out.a _ (.tail _ (.head _))).c1; have x2 := (HK.out.a _ (.tail _ (.head _))).c2; have x3 := (HK.out.a _ (.tail _ (.head _))).c3; have x4 := (HK.out.a _ (.tail _ (.head _))).c4; have y0 := (HK.out.a _ (.head _)).c0; have y1 := (HK.out.a _ (.head _)).c1; have y2 := (HK.out.a _ (.head _)).c2; have y3 := (HK.out.a _ (.head _)).c3; have y4 := (HK.out.a _ (.head _)).c4)
      | fail)
    go_ret
    exact ⟨rfl, HK.out.bel⟩
  have k1 : (A.r != 1) = false := by simpa using hr
  obtain ⟨e0, e1, e2⟩ := parts_one hA hr n
  have HTk : Hid (∀ (v : Value) (W : World), Ru.Lay W → RdI W.heap.size W v [n] → RdI W.heap.size W (.slice p A.z.length cap) A.z → Calls Tryd.prog 20 #[A5 1 0 0 0 v, A5 A.k A.r A.a A.b (.slice p A.z.length cap)] W (RetE (tkV (inA n) A) 0 W)) := fun v W q1 q2 q3 => by
    have := mtake_any (inA n) A v (.slice p A.z.length cap) W q1 q2 q3 HNA.out (by simp [inA]) hlA hbn
    rwa [e0] at this
  have HDr : Hid (∀ (v : Value) (W : World), Ru.Lay W → RdI W.heap.size W v [n] → RdI W.heap.size W (.slice p A.z.length cap) A.z → Calls Tryd.prog 22 #[A5 1 0 0 0 v, A5 A.k A.r A.a A.b (.slice p A.z.length cap)] W (RetE (drV (inA n) A) 0 W)) := fun v W q1 q2 q3 => by
    have := mdrop_any (inA n) A v (.slice p A.z.length cap) W q1 q2 q3 HNA.out (by simp [inA]) hlA hbn
    rwa [e0] at this
  obtain ⟨lT, lD⟩ : (tkV (inA n) A).z.length ≤ 1000000 ∧ (drV (inA n) A).z.length ≤ 1000000 := by
    unfold tkV drV orNo
    rw [if_pos e0, if_pos e0]
    exact ⟨Nat.le_trans (len_take _ _) hlA, Nat.le_trans (len_drop _ _) hlA⟩
  have HCn : Hid (n < 0 → ∀ (v u : Value) (W : World), Ru.Lay W → RdI W.heap.size W v (drV (inA n) A).z → RdI W.heap.size W u (tkV (inA n) A).z → Ru.NilC v → Ru.NilC u → Calls Tryd.prog 28 #[A5 (drV (inA n) A).k (drV (inA n) A).r (drV (inA n) A).a (drV (inA n) A).b v, A5 (tkV (inA n) A).k (tkV (inA n) A).r (tkV (inA n) A).a (tkV (inA n) A).b u] W (RetE A 0 W)) := fun hn v u W q1 q2 q3 q4 q5 => by
    have := mcat_any (drV (inA n) A) (tkV (inA n) A) v u W q1 q2 q3 q4 q5 lD lT
    rwa [(e1 hn).1, (e1 hn).2] at this
  have HCp : Hid (¬ n < 0 → ∀ (v u : Value) (W : World), Ru.Lay W → RdI W.heap.size W v (tkV (inA n) A).z → RdI W.heap.size W u (drV (inA n) A).z → Ru.NilC v → Ru.NilC u → Calls Tryd.prog 28 #[A5 (tkV (inA n) A).k (tkV (inA n) A).r (tkV (inA n) A).a (tkV (inA n) A).b v, A5 (drV (inA n) A).k (drV (inA n) A).r (drV (inA n) A).a (drV (inA n) A).b u] W (RetE A 0 W)) := fun hn v u W q1 q2 q3 q4 q5 => by
    have := mcat_any (tkV (inA n) A) (drV (inA n) A) v u W q1 q2 q3 q4 q5 lT lD
    rwa [(e2 hn).1, (e2 hn).2] at this
  generalize tkV (inA n) A = T at HTk HCn HCp
  generalize drV (inA n) A = D at HDr HCn HCp
  have HIs := Lib.hid (fun v u W h1 h2 => is_eq A v u W h1 h2 hlA)
  have HIb := Lib.hid (fun v u W h1 h2 => is_eq B v u W h1 h2 hlB)
  have HC2 := Lib.hid (fun W h0 h1' h2' => mcat_any A B (.slice p A.z.length cap) (.slice q B.z.length cap') W h0 h1' h2' HNA.out HNB.out hlA hlB)
  have HP2 := Lib.hid (fun he => parts_two (A := A) (B := B) hr he)
  have HL2 : Hid (ctE A B = 0 → (ctV A B).z.length ≤ 1000000) := fun he => by have := (cat_is he).len; omega
  have HLa : Hid (-9223372036854775808 ≤ fst1 (inA A.z.length) ∧ fst1 (inA A.z.length) ≤ 9223372036854775807) := by unfold Hid; show -9223372036854775808 ≤ (A.z.length : Int) ∧ (A.z.length : Int) ≤ 9223372036854775807; omega
  have HIn := Lib.hid (fun W => int_lit7 n W)
  clear e0 e1 e2 lT lD hA hc hr hbn
  go_enter Tryd.func8, Tryd.ntmps8
  go_wp2_with (first
    | (go_at_call 11; (with_reducible refine (HF1.out _ (by with_unfolding_all exact HK.out.r _ (.tail _ (.head _)))).mono ?_); rintro e wz ⟨rfl, hb⟩; have HK2 := Lib.hid (HK.out.next hb); clear HK x0 x1 x2 x3 x4 y0 y1 y2 y3 y4; have HK := HK2; clear HK2; clear hb; have x0 := (HK.out.a _ (.tail _ (.head _))).c0; have x1 := (HK.out.a _ (.tail _ (.head _))).c1; have x2 := (HK.out.a _ (.tail _ (.head _))).c2; have x3 := (HK.out.a _ (.tail _ (.head _))).c3; have x4 := (HK.out.a _ (.tail _ (.head _))).c4; have y0 := (HK.out.a _ (.head _)).c0; have y1 := (HK.out.a _ (.head _)).c1; have y2 := (HK.out.a _ (.head _)).c2; have y3 := (HK.out.a _ (.head _)).c3; have y4 := (HK.out.a _ (.head _)).c4)
    | (go_at_call 11; (with_reducible refine (HF2.out _ (by with_unfolding_all exact HK.out.r _ (.head _))).mono ?_); rintro e wz ⟨rfl, hb⟩; have HK2 := Lib.hid (HK.out.next hb); clear HK x0 x1 x2 x3 x4 y0 y1 y2 y3 y4; have HK := HK2; clear HK2; clear hb; have x0 := (HK.out.a _ (.tail _ (.head _))).c0; have x1 := (HK.out.a _ (.tail _ (.head _))).c1; have x2 := (HK.out.a _ (.tail _ (.head _))).c2; have x3 := (HK.out.a _ (.tail _ (.head _))).c3; have x4 := (HK.out.a _ (.tail _ (.head _))).c4; have y0 := (HK.out.a _ (.head _)).c0; have y1 := (HK.out.a _ (.head _)).c1; have y2 := (HK.out.a _ (.head _)).c2; have y3 := (HK.out.a _ (.head _)).c3; have y4 := (HK.out.a _ (.head _)).c4)
    | (go_at_call 30; (with_reducible refine (HCh.out _ (by with_unfolding_all exact HK.out.r _ (.tail _ (.head _)))).mono ?_); rintro e wz ⟨rfl, hb⟩; have HK2 := Lib.hid (HK.out.next hb); clear HK x0 x1 x2 x3 x4 y0 y1 y2 y3 y4; have HK := HK2; clear HK2; clear hb; have x0 := (HK.out.a _ (.tail _ (.head _))).c0; have x1 := (HK.out.a _ (.tail _ (.head _))).c1; have x2 := (HK.out.a _ (.tail _ (.head _))).c2; have x3 := (HK.out.a _ (.tail _ (.head _))).c3; have x4 := (HK.out.a _ (.tail _ (.head _))).c4; have y0 := (HK.out.a _ (.head _)).c0; have y1 := (HK.out.a _ (.head _)).c1; have y2 := (HK.out.a _ (.head _)).c2; have y3 := (HK.out.a _ (.head _)).c3; have y4 := (HK.out.a _ (.head _)).c4)
    | fail)
  obtain ⟨t1, t2, t3, t4, t5⟩ := T
  obtain ⟨d1, d2, d3, d4, d5⟩ := D
  clear HF1 HF2 HCh
  go_cut [7, 8] (fun sp se wx => CutV w [⟨(w.heap.size + 1), B, (.slice q B.z.length cap')⟩, ⟨w.heap.size, A, (.slice p A.z.length cap)⟩] sp se ⟨t1, t2, t3, t4, t5⟩ wx)
  case first =>
    clear x0 x1 x2 x3 x4 y0 y1 y2 y3 y4
    have HLt : Hid (∀ g ∈ List.map Bk.g [⟨(w.heap.size + 1), B, (.slice q B.z.length cap')⟩, ⟨w.heap.size, A, (.slice p A.z.length cap)⟩], g < wz.heap.size) := fun g hg => by obtain ⟨c, hc, rfl⟩ := List.mem_map.1 hg; exact HK.out.lt c hc
    have HAll : Hid (∀ W, Below wz.heap.size wz W → (fun W => Below wz.heap.size wz W ∧ W.cell? ⟨w.heap.size, 0, none⟩ = some (.int .i64 A.k) ∧ W.cell? ⟨w.heap.size, 1, none⟩ = some (.int .i64 A.r) ∧ W.cell? ⟨w.heap.size, 2, none⟩ = some (.int .i64 A.a) ∧ W.cell? ⟨w.heap.size, 3, none⟩ = some (.int .i64 A.b) ∧ W.cell? ⟨w.heap.size, 4, none⟩ = some (.slice p A.z.length cap)) W) := fun W h => ⟨h, ((HK.out.next h).a _ (.tail _ (.head _))).c0, ((HK.out.next h).a _ (.tail _ (.head _))).c1, ((HK.out.next h).a _ (.tail _ (.head _))).c2, ((HK.out.next h).a _ (.tail _ (.head _))).c3, ((HK.out.next h).a _ (.tail _ (.head _))).c4⟩
    refine wp_region_held_drew (S := (fun W => Below wz.heap.size wz W ∧ W.cell? ⟨w.heap.size, 0, none⟩ = some (.int .i64 A.k) ∧ W.cell? ⟨w.heap.size, 1, none⟩ = some (.int .i64 A.r) ∧ W.cell? ⟨w.heap.size, 2, none⟩ = some (.int .i64 A.a) ∧ W.cell? ⟨w.heap.size, 3, none⟩ = some (.int .i64 A.b) ∧ W.cell? ⟨w.heap.size, 4, none⟩ = some (.slice p A.z.length cap))) (by kernel_rfl) ?_ (fun hHeld => ?_)
    · exact HAll.out _ (Below.refl _ _).drew
    have HB0 : Hid (Below wz.heap.size wz (World.drew wz)) := (Below.refl _ _).drew
    generalize World.drew wz = wd at hHeld HB0 ⊢
    refine wpAnyH_take (i := 0) (v := ?_) rfl (by kernel_rfl) (by kernel_rfl) (by kernel_rfl) (fun _ _ _ h => h) (Or.inl ⟨by rfl, ?_⟩) (by assumption) ?_
    rotate_left
    · ((intro w0 hSw); (try dsimp only at hSw); go_simp; (try with_reducible rfl))
    change wpAnyH _ _ _ _ _ _ _ (Act.put _ (some 38) _) _
    try simp only [Act.put, List.setIfInBounds_toArray, List.set_cons_zero, List.set_cons_succ]
    refine wpAnyH_take (i := 2) (v := ?_) rfl (by kernel_rfl) (by kernel_rfl) (by kernel_rfl) (fun _ _ _ h => h) (Or.inl ⟨by rfl, ?_⟩) (by assumption) ?_
    rotate_left
    · ((intro w0 hSw); (try dsimp only at hSw); go_simp; (try with_reducible rfl))
    change wpAnyH _ _ _ _ _ _ _ (Act.put _ (some 40) _) _
    try simp only [Act.put, List.setIfInBounds_toArray, List.set_cons_zero, List.set_cons_succ]
    refine wpAnyH_ready (rs := [1, 7]) (by kernel_rfl) (by simp) ?_
    refine AllReadyH.cons rfl (fun K hK => ?_) (AllReadyH.cons rfl (fun K hK => ?_) (AllReadyH.nil))
    · go_simp
      go_at_call 34
      with_reducible refine (HIn.out _).mono ?_
      rintro e wn6 ⟨qz1, cz2, rfl, hu3, hb4⟩
      have HB5 := Lib.hid (HB0.out.trans (hb4.mono HB0.out.size))
      refine hK.out _ _ ?_ (fun hHeld2 => ?_)
      · exact HAll.out _ HB5.out
      clear hK K hHeld
      have hHeld := hHeld2; clear hHeld2
      try change wpAnyH _ _ _ _ _ _ _ (Act.put _ (some 39) _) _
      try dsimp only
      try simp only [Act.put, List.setIfInBounds_toArray, List.set_cons_zero, List.set_cons_succ]
      have HU7 := Lib.hid hu3.rd
      clear hb4
      refine wpAnyH_ready (rs := [3, 7]) (by kernel_rfl) (by simp) ?_
      refine AllReadyH.cons rfl (fun K hK => ?_) (AllReadyH.cons rfl (fun K hK => ?_) (AllReadyH.nil))
      · go_simp
        go_at_call 20
        with_reducible refine (HTk.out _ _ (HK.out.next HB5.out).lay HU7.out (by with_unfolding_all exact (HK.out.next HB5.out).r _ (.tail _ (.head _)))).mono ?_
        rintro e wn13 ⟨uz14, rfl, hu10, hb11⟩
        obtain ⟨qz8, cz9, hq15, _, _⟩ := hu10.form
        have hq152 : uz14 = (.slice qz8 t5.length cz9) := hq15
        subst hq152
        clear hq15
        have HB12 := Lib.hid (HB5.out.trans (hb11.mono HB5.out.size))
        refine hK.out _ _ ?_ (fun hHeld2 => ?_)
        · exact HAll.out _ HB12.out
        clear hK K hHeld
        have hHeld := hHeld2; clear hHeld2
        try change wpAnyH _ _ _ _ _ _ _ (Act.put _ (some 41) _) _
        try dsimp only
        try simp only [Act.put, List.setIfInBounds_toArray, List.set_cons_zero, List.set_cons_succ]
        have HX16 : Hid (RdX (List.map Bk.g [⟨(w.heap.size + 1), B, (.slice q B.z.length cap')⟩, ⟨w.heap.size, A, (.slice p A.z.length cap)⟩]) wn13 (.slice qz8 t5.length cz9) t5) := rdN_toX hu10 (fun g mg => Nat.lt_of_lt_of_le (HLt.out g mg) HB5.out.size)
        have HN17 := Lib.hid hu10.nilC
        clear hu10 hb11
        refine wpAnyH_take (i := 4) (v := ?_) rfl (by kernel_rfl) (by kernel_rfl) (by kernel_rfl) (fun _ _ _ h => h) (Or.inl ⟨by rfl, ?_⟩) (by assumption) ?_
        rotate_left
        · ((intro w0 hSw); (try dsimp only at hSw); go_simp; (try with_reducible rfl))
        change wpAnyH _ _ _ _ _ _ _ (Act.put _ (some 37) _) _
        try simp only [Act.put, List.setIfInBounds_toArray, List.set_cons_zero, List.set_cons_succ]
        refine wpAnyH_take (i := 5) (v := ?_) rfl (by kernel_rfl) (by kernel_rfl) (by kernel_rfl) (fun _ _ _ h => h) (Or.inl ⟨by rfl, ?_⟩) (by assumption) ?_
        rotate_left
        · ((intro w0 hSw); (try dsimp only at hSw); go_simp; (try with_reducible rfl))
        change wpAnyH _ _ _ _ _ _ _ (Act.put _ (some 42) _) _
        try simp only [Act.put, List.setIfInBounds_toArray, List.set_cons_zero, List.set_cons_succ]
        refine wpAnyH_take (i := 6) (v := ?_) rfl (by kernel_rfl) (by kernel_rfl) (by kernel_rfl) (fun _ _ _ h => h) (Or.inl ⟨by rfl, ?_⟩) (by assumption) ?_
        rotate_left
        · ((intro w0 hSw); (try dsimp only at hSw); go_simp; (try with_reducible rfl))
        change wpAnyH _ _ _ _ _ _ _ (Act.put _ (some 43) _) _
        try simp only [Act.put, List.setIfInBounds_toArray, List.set_cons_zero, List.set_cons_succ]
        refine wpAnyH_ready (rs := [7]) (by kernel_rfl) (by simp) ?_
        refine AllReadyH.cons rfl (fun K hK => ?_) (AllReadyH.nil)
        go_simp
        refine hK.out _ _ ?_ (fun hHeld2 => ?_)
        · exact HAll.out _ (HB12.out.trans ((bel1 wn13 _).mono HB12.out.size))
        clear hK K hHeld
        have hHeld := hHeld2; clear hHeld2
        try change wpAnyH _ _ _ _ _ _ _ (Act.put _ (some 7) _) _
        try simp only [Act.put, List.setIfInBounds_toArray, List.set_cons_zero, List.set_cons_succ]
        generalize hwx19 : World.alloc wn13 _ = wa18 at hHeld ⊢
        have HB20 : Hid (Below wz.heap.size wz wa18) := by rw [← hwx19]; exact HB12.out.trans ((bel1 wn13 _).mono HB12.out.size)
        have HG21 : Hid (R5 wa18 wn13.heap.size 0 0 0 0 (.slice none 0 0)) := by rw [← hwx19]; exact R5.new _ _ _ _ _ _
        have hge : wz.heap.size ≤ wn13.heap.size := HB12.out.size
        have hbx : Below wn13.heap.size wn13 wa18 := by rw [← hwx19]; exact bel1 _ _
        have Hbx := Lib.hid hbx
        clear hbx hwx19
        have HX22 : Hid (RdX (wn13.heap.size :: List.map Bk.g [⟨(w.heap.size + 1), B, (.slice q B.z.length cap')⟩, ⟨w.heap.size, A, (.slice p A.z.length cap)⟩]) wa18 (.slice qz8 t5.length cz9) t5) := (HX16.out.more (Nat.le_refl _)).keep Hbx.out.size (fun c' _ hc' => Hbx.out.block c' hc')
        refine wpAnyH_ready (rs := [8]) (by kernel_rfl) (by simp) ?_
        refine AllReadyH.cons rfl (fun K hK => ?_) (AllReadyH.nil)
        have y0 := HG21.out.c0; have y1 := HG21.out.c1; have y2 := HG21.out.c2; have y3 := HG21.out.c3; have y4 := HG21.out.c4; have f0 := HG21.out.fr 0; have f1 := HG21.out.fr 1; have f2 := HG21.out.fr 2; have f3 := HG21.out.fr 3; have f4 := HG21.out.fr 4; have HS := Lib.hid (HG21.out.set t1 t2 t3 t4 (.slice qz8 t5.length cz9)); have z0 := HS.out.c0; have z1 := HS.out.c1; have z2 := HS.out.c2; have z3 := HS.out.c3; have z4 := HS.out.c4
        go_simp
        refine hK.out _ _ ?_ (fun hHeld2 => ?_)
        · exact HAll.out _ (st5_below _ _ _ _ _ hge HB20.out)
        clear hK K hHeld
        have hHeld := hHeld2; clear hHeld2
        try simp only [Act.put, List.setIfInBounds_toArray, List.set_cons_zero, List.set_cons_succ]
        refine wpAnyH_take (i := 9) (v := ?_) rfl (by kernel_rfl) (by kernel_rfl) (by kernel_rfl) (fun _ _ _ h => h) (Or.inl ⟨by rfl, ?_⟩) (by assumption) ?_
        rotate_left
        · ((intro w0 hSw); (try dsimp only at hSw); go_simp; (try with_reducible rfl))
        change wpAnyH _ _ _ _ _ _ _ (Act.put _ (some 8) _) _
        try simp only [Act.put, List.setIfInBounds_toArray, List.set_cons_zero, List.set_cons_succ]
        refine wpAnyH_done (by kernel_rfl) ?_ _
        go_wp2_with fail
        go_meet
        case rel => exact ⟨wn13.heap.size, qz8, cz9, rfl, rfl, HK.out.newAt HB20.out hge HG21.out ⟨t1, t2, t3, t4, t5⟩ HX22.out HN17.out, fun b mb => Nat.lt_of_lt_of_le (HK.out.lt b mb) hge⟩
      · go_simp
        refine hK.out _ _ ?_ (fun hHeld2 => ?_)
        · exact HAll.out _ (HB5.out.trans ((bel1 wn6 _).mono HB5.out.size))
        clear hK K hHeld
        have hHeld := hHeld2; clear hHeld2
        try change wpAnyH _ _ _ _ _ _ _ (Act.put _ (some 7) _) _
        try simp only [Act.put, List.setIfInBounds_toArray, List.set_cons_zero, List.set_cons_succ]
        generalize hwx24 : World.alloc wn6 _ = wa23 at hHeld ⊢
        have HB25 : Hid (Below wz.heap.size wz wa23) := by rw [← hwx24]; exact HB5.out.trans ((bel1 wn6 _).mono HB5.out.size)
        have HG26 : Hid (R5 wa23 wn6.heap.size 0 0 0 0 (.slice none 0 0)) := by rw [← hwx24]; exact R5.new _ _ _ _ _ _
        have hge : wz.heap.size ≤ wn6.heap.size := HB5.out.size
        have hbx : Below wn6.heap.size wn6 wa23 := by rw [← hwx24]; exact bel1 _ _
        have Hbx := Lib.hid hbx
        clear hbx hwx24
        have HU27 := Lib.hid (HU7.out.next Hbx.out)
        refine wpAnyH_ready (rs := [3]) (by kernel_rfl) (by simp) ?_
        refine AllReadyH.cons rfl (fun K hK => ?_) (AllReadyH.nil)
        go_simp
        go_at_call 20
        with_reducible refine (HTk.out _ _ (HK.out.next HB25.out).lay HU27.out (by with_unfolding_all exact (HK.out.next HB25.out).r _ (.tail _ (.head _)))).mono ?_
        rintro e wn33 ⟨uz34, rfl, hu30, hb31⟩
        obtain ⟨qz28, cz29, hq35, _, _⟩ := hu30.form
        have hq352 : uz34 = (.slice qz28 t5.length cz29) := hq35
        subst hq352
        clear hq35
        have HB32 := Lib.hid (HB25.out.trans (hb31.mono HB25.out.size))
        refine hK.out _ _ ?_ (fun hHeld2 => ?_)
        · exact HAll.out _ HB32.out
        clear hK K hHeld
        have hHeld := hHeld2; clear hHeld2
        try change wpAnyH _ _ _ _ _ _ _ (Act.put _ (some 41) _) _
        try dsimp only
        try simp only [Act.put, List.setIfInBounds_toArray, List.set_cons_zero, List.set_cons_succ]
        have HX36 : Hid (RdX (wn6.heap.size :: List.map Bk.g [⟨(w.heap.size + 1), B, (.slice q B.z.length cap')⟩, ⟨w.heap.size, A, (.slice p A.z.length cap)⟩]) wn33 (.slice qz28 t5.length cz29) t5) := rdN_toX hu30 (fun g mg => by
          rcases List.mem_cons.1 mg with rfl | mg
          · exact HG26.out.lt
          · exact Nat.lt_of_lt_of_le (HLt.out g mg) HB25.out.size)
        have HN37 := Lib.hid hu30.nilC
        have HG38 := Lib.hid (HG26.out.next hb31)
        clear hu30 hb31
        refine wpAnyH_take (i := 4) (v := ?_) rfl (by kernel_rfl) (by kernel_rfl) (by kernel_rfl) (fun _ _ _ h => h) (Or.inl ⟨by rfl, ?_⟩) (by assumption) ?_
        rotate_left
        · ((intro w0 hSw); (try dsimp only at hSw); go_simp; (try with_reducible rfl))
        change wpAnyH _ _ _ _ _ _ _ (Act.put _ (some 37) _) _
        try simp only [Act.put, List.setIfInBounds_toArray, List.set_cons_zero, List.set_cons_succ]
        refine wpAnyH_take (i := 5) (v := ?_) rfl (by kernel_rfl) (by kernel_rfl) (by kernel_rfl) (fun _ _ _ h => h) (Or.inl ⟨by rfl, ?_⟩) (by assumption) ?_
        rotate_left
        · ((intro w0 hSw); (try dsimp only at hSw); go_simp; (try with_reducible rfl))
        change wpAnyH _ _ _ _ _ _ _ (Act.put _ (some 42) _) _
        try simp only [Act.put, List.setIfInBounds_toArray, List.set_cons_zero, List.set_cons_succ]
        refine wpAnyH_take (i := 6) (v := ?_) rfl (by kernel_rfl) (by kernel_rfl) (by kernel_rfl) (fun _ _ _ h => h) (Or.inl ⟨by rfl, ?_⟩) (by assumption) ?_
        rotate_left
        · ((intro w0 hSw); (try dsimp only at hSw); go_simp; (try with_reducible rfl))
        change wpAnyH _ _ _ _ _ _ _ (Act.put _ (some 43) _) _
        try simp only [Act.put, List.setIfInBounds_toArray, List.set_cons_zero, List.set_cons_succ]
        refine wpAnyH_ready (rs := [8]) (by kernel_rfl) (by simp) ?_
        refine AllReadyH.cons rfl (fun K hK => ?_) (AllReadyH.nil)
        have y0 := HG38.out.c0; have y1 := HG38.out.c1; have y2 := HG38.out.c2; have y3 := HG38.out.c3; have y4 := HG38.out.c4; have f0 := HG38.out.fr 0; have f1 := HG38.out.fr 1; have f2 := HG38.out.fr 2; have f3 := HG38.out.fr 3; have f4 := HG38.out.fr 4; have HS := Lib.hid (HG38.out.set t1 t2 t3 t4 (.slice qz28 t5.length cz29)); have z0 := HS.out.c0; have z1 := HS.out.c1; have z2 := HS.out.c2; have z3 := HS.out.c3; have z4 := HS.out.c4
        go_simp
        refine hK.out _ _ ?_ (fun hHeld2 => ?_)
        · exact HAll.out _ (st5_below _ _ _ _ _ hge HB32.out)
        clear hK K hHeld
        have hHeld := hHeld2; clear hHeld2
        try simp only [Act.put, List.setIfInBounds_toArray, List.set_cons_zero, List.set_cons_succ]
        refine wpAnyH_take (i := 9) (v := ?_) rfl (by kernel_rfl) (by kernel_rfl) (by kernel_rfl) (fun _ _ _ h => h) (Or.inl ⟨by rfl, ?_⟩) (by assumption) ?_
        rotate_left
        · ((intro w0 hSw); (try dsimp only at hSw); go_simp; (try with_reducible rfl))
        change wpAnyH _ _ _ _ _ _ _ (Act.put _ (some 8) _) _
        try simp only [Act.put, List.setIfInBounds_toArray, List.set_cons_zero, List.set_cons_succ]
        refine wpAnyH_done (by kernel_rfl) ?_ _
        go_wp2_with fail
        go_meet
        case rel => exact ⟨wn6.heap.size, qz28, cz29, rfl, rfl, HK.out.newAt HB32.out hge HG38.out ⟨t1, t2, t3, t4, t5⟩ HX36.out HN37.out, fun b mb => Nat.lt_of_lt_of_le (HK.out.lt b mb) hge⟩
    · go_simp
      refine hK.out _ _ ?_ (fun hHeld2 => ?_)
      · exact HAll.out _ (HB0.out.trans ((bel1 wd _).mono HB0.out.size))
      clear hK K hHeld
      have hHeld := hHeld2; clear hHeld2
      try change wpAnyH _ _ _ _ _ _ _ (Act.put _ (some 7) _) _
      try simp only [Act.put, List.setIfInBounds_toArray, List.set_cons_zero, List.set_cons_succ]
      generalize hwx40 : World.alloc wd _ = wa39 at hHeld ⊢
      have HB41 : Hid (Below wz.heap.size wz wa39) := by rw [← hwx40]; exact HB0.out.trans ((bel1 wd _).mono HB0.out.size)
      have HG42 : Hid (R5 wa39 wd.heap.size 0 0 0 0 (.slice none 0 0)) := by rw [← hwx40]; exact R5.new _ _ _ _ _ _
      have hge : wz.heap.size ≤ wd.heap.size := HB0.out.size
      have hbx : Below wd.heap.size wd wa39 := by rw [← hwx40]; exact bel1 _ _
      have Hbx := Lib.hid hbx
      clear hbx hwx40
      refine wpAnyH_ready (rs := [1]) (by kernel_rfl) (by simp) ?_
      refine AllReadyH.cons rfl (fun K hK => ?_) (AllReadyH.nil)
      go_simp
      go_at_call 34
      with_reducible refine (HIn.out _).mono ?_
      rintro e wn48 ⟨qz43, cz44, rfl, hu45, hb46⟩
      have HB47 := Lib.hid (HB41.out.trans (hb46.mono HB41.out.size))
      refine hK.out _ _ ?_ (fun hHeld2 => ?_)
      · exact HAll.out _ HB47.out
      clear hK K hHeld
      have hHeld := hHeld2; clear hHeld2
      try change wpAnyH _ _ _ _ _ _ _ (Act.put _ (some 39) _) _
      try dsimp only
      try simp only [Act.put, List.setIfInBounds_toArray, List.set_cons_zero, List.set_cons_succ]
      have HU49 := Lib.hid hu45.rd
      have HG50 := Lib.hid (HG42.out.next hb46)
      clear hb46
      refine wpAnyH_ready (rs := [3]) (by kernel_rfl) (by simp) ?_
      refine AllReadyH.cons rfl (fun K hK => ?_) (AllReadyH.nil)
      go_simp
      go_at_call 20
      with_reducible refine (HTk.out _ _ (HK.out.next HB47.out).lay HU49.out (by with_unfolding_all exact (HK.out.next HB47.out).r _ (.tail _ (.head _)))).mono ?_
      rintro e wn56 ⟨uz57, rfl, hu53, hb54⟩
      obtain ⟨qz51, cz52, hq58, _, _⟩ := hu53.form
      have hq582 : uz57 = (.slice qz51 t5.length cz52) := hq58
      subst hq582
      clear hq58
      have HB55 := Lib.hid (HB47.out.trans (hb54.mono HB47.out.size))
      refine hK.out _ _ ?_ (fun hHeld2 => ?_)
      · exact HAll.out _ HB55.out
      clear hK K hHeld
      have hHeld := hHeld2; clear hHeld2
      try change wpAnyH _ _ _ _ _ _ _ (Act.put _ (some 41) _) _
      try dsimp only
      try simp only [Act.put, List.setIfInBounds_toArray, List.set_cons_zero, List.set_cons_succ]
      have HX59 : Hid (RdX (wd.heap.size :: List.map Bk.g [⟨(w.heap.size + 1), B, (.slice q B.z.length cap')⟩, ⟨w.heap.size, A, (.slice p A.z.length cap)⟩]) wn56 (.slice qz51 t5.length cz52) t5) := rdN_toX hu53 (fun g mg => by
        rcases List.mem_cons.1 mg with rfl | mg
        · exact HG50.out.lt
        · exact Nat.lt_of_lt_of_le (HLt.out g mg) HB47.out.size)
      have HN60 := Lib.hid hu53.nilC
      have HG61 := Lib.hid (HG50.out.next hb54)
      clear hu53 hb54
      refine wpAnyH_take (i := 4) (v := ?_) rfl (by kernel_rfl) (by kernel_rfl) (by kernel_rfl) (fun _ _ _ h => h) (Or.inl ⟨by rfl, ?_⟩) (by assumption) ?_
      rotate_left
      · ((intro w0 hSw); (try dsimp only at hSw); go_simp; (try with_reducible rfl))
      change wpAnyH _ _ _ _ _ _ _ (Act.put _ (some 37) _) _
      try simp only [Act.put, List.setIfInBounds_toArray, List.set_cons_zero, List.set_cons_succ]
      refine wpAnyH_take (i := 5) (v := ?_) rfl (by kernel_rfl) (by kernel_rfl) (by kernel_rfl) (fun _ _ _ h => h) (Or.inl ⟨by rfl, ?_⟩) (by assumption) ?_
      rotate_left
      · ((intro w0 hSw); (try dsimp only at hSw); go_simp; (try with_reducible rfl))
      change wpAnyH _ _ _ _ _ _ _ (Act.put _ (some 42) _) _
      try simp only [Act.put, List.setIfInBounds_toArray, List.set_cons_zero, List.set_cons_succ]
      refine wpAnyH_take (i := 6) (v := ?_) rfl (by kernel_rfl) (by kernel_rfl) (by kernel_rfl) (fun _ _ _ h => h) (Or.inl ⟨by rfl, ?_⟩) (by assumption) ?_
      rotate_left
      · ((intro w0 hSw); (try dsimp only at hSw); go_simp; (try with_reducible rfl))
      change wpAnyH _ _ _ _ _ _ _ (Act.put _ (some 43) _) _
      try simp only [Act.put, List.setIfInBounds_toArray, List.set_cons_zero, List.set_cons_succ]
      refine wpAnyH_ready (rs := [8]) (by kernel_rfl) (by simp) ?_
      refine AllReadyH.cons rfl (fun K hK => ?_) (AllReadyH.nil)
      have y0 := HG61.out.c0; have y1 := HG61.out.c1; have y2 := HG61.out.c2; have y3 := HG61.out.c3; have y4 := HG61.out.c4; have f0 := HG61.out.fr 0; have f1 := HG61.out.fr 1; have f2 := HG61.out.fr 2; have f3 := HG61.out.fr 3; have f4 := HG61.out.fr 4; have HS := Lib.hid (HG61.out.set t1 t2 t3 t4 (.slice qz51 t5.length cz52)); have z0 := HS.out.c0; have z1 := HS.out.c1; have z2 := HS.out.c2; have z3 := HS.out.c3; have z4 := HS.out.c4
      go_simp
      refine hK.out _ _ ?_ (fun hHeld2 => ?_)
      · exact HAll.out _ (st5_below _ _ _ _ _ hge HB55.out)
      clear hK K hHeld
      have hHeld := hHeld2; clear hHeld2
      try simp only [Act.put, List.setIfInBounds_toArray, List.set_cons_zero, List.set_cons_succ]
      refine wpAnyH_take (i := 9) (v := ?_) rfl (by kernel_rfl) (by kernel_rfl) (by kernel_rfl) (fun _ _ _ h => h) (Or.inl ⟨by rfl, ?_⟩) (by assumption) ?_
      rotate_left
      · ((intro w0 hSw); (try dsimp only at hSw); go_simp; (try with_reducible rfl))
      change wpAnyH _ _ _ _ _ _ _ (Act.put _ (some 8) _) _
      try simp only [Act.put, List.setIfInBounds_toArray, List.set_cons_zero, List.set_cons_succ]
      refine wpAnyH_done (by kernel_rfl) ?_ _
      go_wp2_with fail
      go_meet
      case rel => exact ⟨wd.heap.size, qz51, cz52, rfl, rfl, HK.out.newAt HB55.out hge HG61.out ⟨t1, t2, t3, t4, t5⟩ HX59.out HN60.out, fun b mb => Nat.lt_of_lt_of_le (HK.out.lt b mb) hge⟩
  case rest =>
    obtain ⟨gt, qt, ct, rfl, rfl, hk, hlt⟩ := hcut
    have hltx : w.heap.size < gt := hlt _ (.tail _ (.head _))
    have hlty : w.heap.size + 1 < gt := hlt _ (.head _)
    clear HK hlt x0 x1 x2 x3 x4 y0 y1 y2 y3 y4
    have HK := Lib.hid hk
    clear hk
    go_wp2_with fail
    go_cut [9, 10] (fun sp se wx => CutV w [⟨gt, ⟨t1, t2, t3, t4, t5⟩, (.slice qt t5.length ct)⟩, ⟨(w.heap.size + 1), B, (.slice q B.z.length cap')⟩, ⟨w.heap.size, A, (.slice p A.z.length cap)⟩] sp se ⟨d1, d2, d3, d4, d5⟩ wx)
    case first =>
      skip
      have HLt : Hid (∀ g ∈ List.map Bk.g [⟨gt, ⟨t1, t2, t3, t4, t5⟩, (.slice qt t5.length ct)⟩, ⟨(w.heap.size + 1), B, (.slice q B.z.length cap')⟩, ⟨w.heap.size, A, (.slice p A.z.length cap)⟩], g < wc.heap.size) := fun g hg => by obtain ⟨c, hc, rfl⟩ := List.mem_map.1 hg; exact HK.out.lt c hc
      have HAll : Hid (∀ W, Below wc.heap.size wc W → (fun W => Below wc.heap.size wc W ∧ W.cell? ⟨w.heap.size, 0, none⟩ = some (.int .i64 A.k) ∧ W.cell? ⟨w.heap.size, 1, none⟩ = some (.int .i64 A.r) ∧ W.cell? ⟨w.heap.size, 2, none⟩ = some (.int .i64 A.a) ∧ W.cell? ⟨w.heap.size, 3, none⟩ = some (.int .i64 A.b) ∧ W.cell? ⟨w.heap.size, 4, none⟩ = some (.slice p A.z.length cap)) W) := fun W h => ⟨h, ((HK.out.next h).a _ (.tail _ (.tail _ (.head _)))).c0, ((HK.out.next h).a _ (.tail _ (.tail _ (.head _)))).c1, ((HK.out.next h).a _ (.tail _ (.tail _ (.head _)))).c2, ((HK.out.next h).a _ (.tail _ (.tail _ (.head _)))).c3, ((HK.out.next h).a _ (.tail _ (.tail _ (.head _)))).c4⟩
      refine wp_region_held_drew (S := (fun W => Below wc.heap.size wc W ∧ W.cell? ⟨w.heap.size, 0, none⟩ = some (.int .i64 A.k) ∧ W.cell? ⟨w.heap.size, 1, none⟩ = some (.int .i64 A.r) ∧ W.cell? ⟨w.heap.size, 2, none⟩ = some (.int .i64 A.a) ∧ W.cell? ⟨w.heap.size, 3, none⟩ = some (.int .i64 A.b) ∧ W.cell? ⟨w.heap.size, 4, none⟩ = some (.slice p A.z.length cap))) (by kernel_rfl) ?_ (fun hHeld => ?_)
      · exact HAll.out _ (Below.refl _ _).drew
      have HB0 : Hid (Below wc.heap.size wc (World.drew wc)) := (Below.refl _ _).drew
      generalize World.drew wc = wd at hHeld HB0 ⊢
      refine wpAnyH_take (i := 0) (v := ?_) rfl (by kernel_rfl) (by kernel_rfl) (by kernel_rfl) (fun _ _ _ h => h) (Or.inl ⟨by rfl, ?_⟩) (by assumption) ?_
      rotate_left
      · ((intro w0 hSw); (try dsimp only at hSw); go_simp; (try with_reducible rfl))
      change wpAnyH _ _ _ _ _ _ _ (Act.put _ (some 45) _) _
      try simp only [Act.put, List.setIfInBounds_toArray, List.set_cons_zero, List.set_cons_succ]
      refine wpAnyH_take (i := 2) (v := ?_) rfl (by kernel_rfl) (by kernel_rfl) (by kernel_rfl) (fun _ _ _ h => h) (Or.inl ⟨by rfl, ?_⟩) (by assumption) ?_
      rotate_left
      · ((intro w0 hSw); (try dsimp only at hSw); go_simp; (try with_reducible rfl))
      change wpAnyH _ _ _ _ _ _ _ (Act.put _ (some 47) _) _
      try simp only [Act.put, List.setIfInBounds_toArray, List.set_cons_zero, List.set_cons_succ]
      refine wpAnyH_ready (rs := [1, 7]) (by kernel_rfl) (by simp) ?_
      refine AllReadyH.cons rfl (fun K hK => ?_) (AllReadyH.cons rfl (fun K hK => ?_) (AllReadyH.nil))
      · go_simp
        go_at_call 34
        with_reducible refine (HIn.out _).mono ?_
        rintro e wn67 ⟨qz62, cz63, rfl, hu64, hb65⟩
        have HB66 := Lib.hid (HB0.out.trans (hb65.mono HB0.out.size))
        refine hK.out _ _ ?_ (fun hHeld2 => ?_)
        · exact HAll.out _ HB66.out
        clear hK K hHeld
        have hHeld := hHeld2; clear hHeld2
        try change wpAnyH _ _ _ _ _ _ _ (Act.put _ (some 46) _) _
        try dsimp only
        try simp only [Act.put, List.setIfInBounds_toArray, List.set_cons_zero, List.set_cons_succ]
        have HU68 := Lib.hid hu64.rd
        clear hb65
        refine wpAnyH_ready (rs := [3, 7]) (by kernel_rfl) (by simp) ?_
        refine AllReadyH.cons rfl (fun K hK => ?_) (AllReadyH.cons rfl (fun K hK => ?_) (AllReadyH.nil))
        · go_simp
          go_at_call 22
          with_reducible refine (HDr.out _ _ (HK.out.next HB66.out).lay HU68.out (by with_unfolding_all exact (HK.out.next HB66.out).r _ (.tail _ (.tail _ (.head _))))).mono ?_
          rintro e wn74 ⟨uz75, rfl, hu71, hb72⟩
          obtain ⟨qz69, cz70, hq76, _, _⟩ := hu71.form
          have hq762 : uz75 = (.slice qz69 d5.length cz70) := hq76
          subst hq762
          clear hq76
          have HB73 := Lib.hid (HB66.out.trans (hb72.mono HB66.out.size))
          refine hK.out _ _ ?_ (fun hHeld2 => ?_)
          · exact HAll.out _ HB73.out
          clear hK K hHeld
          have hHeld := hHeld2; clear hHeld2
          try change wpAnyH _ _ _ _ _ _ _ (Act.put _ (some 48) _) _
          try dsimp only
          try simp only [Act.put, List.setIfInBounds_toArray, List.set_cons_zero, List.set_cons_succ]
          have HX77 : Hid (RdX (List.map Bk.g [⟨gt, ⟨t1, t2, t3, t4, t5⟩, (.slice qt t5.length ct)⟩, ⟨(w.heap.size + 1), B, (.slice q B.z.length cap')⟩, ⟨w.heap.size, A, (.slice p A.z.length cap)⟩]) wn74 (.slice qz69 d5.length cz70) d5) := rdN_toX hu71 (fun g mg => Nat.lt_of_lt_of_le (HLt.out g mg) HB66.out.size)
          have HN78 := Lib.hid hu71.nilC
          clear hu71 hb72
          refine wpAnyH_take (i := 4) (v := ?_) rfl (by kernel_rfl) (by kernel_rfl) (by kernel_rfl) (fun _ _ _ h => h) (Or.inl ⟨by rfl, ?_⟩) (by assumption) ?_
          rotate_left
          · ((intro w0 hSw); (try dsimp only at hSw); go_simp; (try with_reducible rfl))
          change wpAnyH _ _ _ _ _ _ _ (Act.put _ (some 44) _) _
          try simp only [Act.put, List.setIfInBounds_toArray, List.set_cons_zero, List.set_cons_succ]
          refine wpAnyH_take (i := 5) (v := ?_) rfl (by kernel_rfl) (by kernel_rfl) (by kernel_rfl) (fun _ _ _ h => h) (Or.inl ⟨by rfl, ?_⟩) (by assumption) ?_
          rotate_left
          · ((intro w0 hSw); (try dsimp only at hSw); go_simp; (try with_reducible rfl))
          change wpAnyH _ _ _ _ _ _ _ (Act.put _ (some 49) _) _
          try simp only [Act.put, List.setIfInBounds_toArray, List.set_cons_zero, List.set_cons_succ]
          refine wpAnyH_take (i := 6) (v := ?_) rfl (by kernel_rfl) (by kernel_rfl) (by kernel_rfl) (fun _ _ _ h => h) (Or.inl ⟨by rfl, ?_⟩) (by assumption) ?_
          rotate_left
          · ((intro w0 hSw); (try dsimp only at hSw); go_simp; (try with_reducible rfl))
          change wpAnyH _ _ _ _ _ _ _ (Act.put _ (some 50) _) _
          try simp only [Act.put, List.setIfInBounds_toArray, List.set_cons_zero, List.set_cons_succ]
          refine wpAnyH_ready (rs := [7]) (by kernel_rfl) (by simp) ?_
          refine AllReadyH.cons rfl (fun K hK => ?_) (AllReadyH.nil)
          go_simp
          refine hK.out _ _ ?_ (fun hHeld2 => ?_)
          · exact HAll.out _ (HB73.out.trans ((bel1 wn74 _).mono HB73.out.size))
          clear hK K hHeld
          have hHeld := hHeld2; clear hHeld2
          try change wpAnyH _ _ _ _ _ _ _ (Act.put _ (some 9) _) _
          try simp only [Act.put, List.setIfInBounds_toArray, List.set_cons_zero, List.set_cons_succ]
          generalize hwx80 : World.alloc wn74 _ = wa79 at hHeld ⊢
          have HB81 : Hid (Below wc.heap.size wc wa79) := by rw [← hwx80]; exact HB73.out.trans ((bel1 wn74 _).mono HB73.out.size)
          have HG82 : Hid (R5 wa79 wn74.heap.size 0 0 0 0 (.slice none 0 0)) := by rw [← hwx80]; exact R5.new _ _ _ _ _ _
          have hge : wc.heap.size ≤ wn74.heap.size := HB73.out.size
          have hbx : Below wn74.heap.size wn74 wa79 := by rw [← hwx80]; exact bel1 _ _
          have Hbx := Lib.hid hbx
          clear hbx hwx80
          have HX83 : Hid (RdX (wn74.heap.size :: List.map Bk.g [⟨gt, ⟨t1, t2, t3, t4, t5⟩, (.slice qt t5.length ct)⟩, ⟨(w.heap.size + 1), B, (.slice q B.z.length cap')⟩, ⟨w.heap.size, A, (.slice p A.z.length cap)⟩]) wa79 (.slice qz69 d5.length cz70) d5) := (HX77.out.more (Nat.le_refl _)).keep Hbx.out.size (fun c' _ hc' => Hbx.out.block c' hc')
          refine wpAnyH_ready (rs := [8]) (by kernel_rfl) (by simp) ?_
          refine AllReadyH.cons rfl (fun K hK => ?_) (AllReadyH.nil)
          have y0 := HG82.out.c0; have y1 := HG82.out.c1; have y2 := HG82.out.c2; have y3 := HG82.out.c3; have y4 := HG82.out.c4; have f0 := HG82.out.fr 0; have f1 := HG82.out.fr 1; have f2 := HG82.out.fr 2; have f3 := HG82.out.fr 3; have f4 := HG82.out.fr 4; have HS := Lib.hid (HG82.out.set d1 d2 d3 d4 (.slice qz69 d5.length cz70)); have z0 := HS.out.c0; have z1 := HS.out.c1; have z2 := HS.out.c2; have z3 := HS.out.c3; have z4 := HS.out.c4
          go_simp
          refine hK.out _ _ ?_ (fun hHeld2 => ?_)
          · exact HAll.out _ (st5_below _ _ _ _ _ hge HB81.out)
          clear hK K hHeld
          have hHeld := hHeld2; clear hHeld2
          try simp only [Act.put, List.setIfInBounds_toArray, List.set_cons_zero, List.set_cons_succ]
          refine wpAnyH_take (i := 9) (v := ?_) rfl (by kernel_rfl) (by kernel_rfl) (by kernel_rfl) (fun _ _ _ h => h) (Or.inl ⟨by rfl, ?_⟩) (by assumption) ?_
          rotate_left
          · ((intro w0 hSw); (try dsimp only at hSw); go_simp; (try with_reducible rfl))
          change wpAnyH _ _ _ _ _ _ _ (Act.put _ (some 10) _) _
          try simp only [Act.put, List.setIfInBounds_toArray, List.set_cons_zero, List.set_cons_succ]
          refine wpAnyH_done (by kernel_rfl) ?_ _
          go_wp2_with fail
          go_meet
          case rel => exact ⟨wn74.heap.size, qz69, cz70, rfl, rfl, HK.out.newAt HB81.out hge HG82.out ⟨d1, d2, d3, d4, d5⟩ HX83.out HN78.out, fun b mb => Nat.lt_of_lt_of_le (HK.out.lt b mb) hge⟩
        · go_simp
          refine hK.out _ _ ?_ (fun hHeld2 => ?_)
          · exact HAll.out _ (HB66.out.trans ((bel1 wn67 _).mono HB66.out.size))
          clear hK K hHeld
          have hHeld := hHeld2; clear hHeld2
          try change wpAnyH _ _ _ _ _ _ _ (Act.put _ (some 9) _) _
          try simp only [Act.put, List.setIfInBounds_toArray, List.set_cons_zero, List.set_cons_succ]
          generalize hwx85 : World.alloc wn67 _ = wa84 at hHeld ⊢
          have HB86 : Hid (Below wc.heap.size wc wa84) := by rw [← hwx85]; exact HB66.out.trans ((bel1 wn67 _).mono HB66.out.size)
          have HG87 : Hid (R5 wa84 wn67.heap.size 0 0 0 0 (.slice none 0 0)) := by rw [← hwx85]; exact R5.new _ _ _ _ _ _
          have hge : wc.heap.size ≤ wn67.heap.size := HB66.out.size
          have hbx : Below wn67.heap.size wn67 wa84 := by rw [← hwx85]; exact bel1 _ _
          have Hbx := Lib.hid hbx
          clear hbx hwx85
          have HU88 := Lib.hid (HU68.out.next Hbx.out)
          refine wpAnyH_ready (rs := [3]) (by kernel_rfl) (by simp) ?_
          refine AllReadyH.cons rfl (fun K hK => ?_) (AllReadyH.nil)
          go_simp
          go_at_call 22
          with_reducible refine (HDr.out _ _ (HK.out.next HB86.out).lay HU88.out (by with_unfolding_all exact (HK.out.next HB86.out).r _ (.tail _ (.tail _ (.head _))))).mono ?_
          rintro e wn94 ⟨uz95, rfl, hu91, hb92⟩
          obtain ⟨qz89, cz90, hq96, _, _⟩ := hu91.form
          have hq962 : uz95 = (.slice qz89 d5.length cz90) := hq96
          subst hq962
          clear hq96
          have HB93 := Lib.hid (HB86.out.trans (hb92.mono HB86.out.size))
          refine hK.out _ _ ?_ (fun hHeld2 => ?_)
          · exact HAll.out _ HB93.out
          clear hK K hHeld
          have hHeld := hHeld2; clear hHeld2
          try change wpAnyH _ _ _ _ _ _ _ (Act.put _ (some 48) _) _
          try dsimp only
          try simp only [Act.put, List.setIfInBounds_toArray, List.set_cons_zero, List.set_cons_succ]
          have HX97 : Hid (RdX (wn67.heap.size :: List.map Bk.g [⟨gt, ⟨t1, t2, t3, t4, t5⟩, (.slice qt t5.length ct)⟩, ⟨(w.heap.size + 1), B, (.slice q B.z.length cap')⟩, ⟨w.heap.size, A, (.slice p A.z.length cap)⟩]) wn94 (.slice qz89 d5.length cz90) d5) := rdN_toX hu91 (fun g mg => by
            rcases List.mem_cons.1 mg with rfl | mg
            · exact HG87.out.lt
            · exact Nat.lt_of_lt_of_le (HLt.out g mg) HB86.out.size)
          have HN98 := Lib.hid hu91.nilC
          have HG99 := Lib.hid (HG87.out.next hb92)
          clear hu91 hb92
          refine wpAnyH_take (i := 4) (v := ?_) rfl (by kernel_rfl) (by kernel_rfl) (by kernel_rfl) (fun _ _ _ h => h) (Or.inl ⟨by rfl, ?_⟩) (by assumption) ?_
          rotate_left
          · ((intro w0 hSw); (try dsimp only at hSw); go_simp; (try with_reducible rfl))
          change wpAnyH _ _ _ _ _ _ _ (Act.put _ (some 44) _) _
          try simp only [Act.put, List.setIfInBounds_toArray, List.set_cons_zero, List.set_cons_succ]
          refine wpAnyH_take (i := 5) (v := ?_) rfl (by kernel_rfl) (by kernel_rfl) (by kernel_rfl) (fun _ _ _ h => h) (Or.inl ⟨by rfl, ?_⟩) (by assumption) ?_
          rotate_left
          · ((intro w0 hSw); (try dsimp only at hSw); go_simp; (try with_reducible rfl))
          change wpAnyH _ _ _ _ _ _ _ (Act.put _ (some 49) _) _
          try simp only [Act.put, List.setIfInBounds_toArray, List.set_cons_zero, List.set_cons_succ]
          refine wpAnyH_take (i := 6) (v := ?_) rfl (by kernel_rfl) (by kernel_rfl) (by kernel_rfl) (fun _ _ _ h => h) (Or.inl ⟨by rfl, ?_⟩) (by assumption) ?_
          rotate_left
          · ((intro w0 hSw); (try dsimp only at hSw); go_simp; (try with_reducible rfl))
          change wpAnyH _ _ _ _ _ _ _ (Act.put _ (some 50) _) _
          try simp only [Act.put, List.setIfInBounds_toArray, List.set_cons_zero, List.set_cons_succ]
          refine wpAnyH_ready (rs := [8]) (by kernel_rfl) (by simp) ?_
          refine AllReadyH.cons rfl (fun K hK => ?_) (AllReadyH.nil)
          have y0 := HG99.out.c0; have y1 := HG99.out.c1; have y2 := HG99.out.c2; have y3 := HG99.out.c3; have y4 := HG99.out.c4; have f0 := HG99.out.fr 0; have f1 := HG99.out.fr 1; have f2 := HG99.out.fr 2; have f3 := HG99.out.fr 3; have f4 := HG99.out.fr 4; have HS := Lib.hid (HG99.out.set d1 d2 d3 d4 (.slice qz89 d5.length cz90)); have z0 := HS.out.c0; have z1 := HS.out.c1; have z2 := HS.out.c2; have z3 := HS.out.c3; have z4 := HS.out.c4
          go_simp
          refine hK.out _ _ ?_ (fun hHeld2 => ?_)
          · exact HAll.out _ (st5_below _ _ _ _ _ hge HB93.out)
          clear hK K hHeld
          have hHeld := hHeld2; clear hHeld2
          try simp only [Act.put, List.setIfInBounds_toArray, List.set_cons_zero, List.set_cons_succ]
          refine wpAnyH_take (i := 9) (v := ?_) rfl (by kernel_rfl) (by kernel_rfl) (by kernel_rfl) (fun _ _ _ h => h) (Or.inl ⟨by rfl, ?_⟩) (by assumption) ?_
          rotate_left
          · ((intro w0 hSw); (try dsimp only at hSw); go_simp; (try with_reducible rfl))
          change wpAnyH _ _ _ _ _ _ _ (Act.put _ (some 10) _) _
          try simp only [Act.put, List.setIfInBounds_toArray, List.set_cons_zero, List.set_cons_succ]
          refine wpAnyH_done (by kernel_rfl) ?_ _
          go_wp2_with fail
          go_meet
          case rel => exact ⟨wn67.heap.size, qz89, cz90, rfl, rfl, HK.out.newAt HB93.out hge HG99.out ⟨d1, d2, d3, d4, d5⟩ HX97.out HN98.out, fun b mb => Nat.lt_of_lt_of_le (HK.out.lt b mb) hge⟩
      · go_simp
        refine hK.out _ _ ?_ (fun hHeld2 => ?_)
        · exact HAll.out _ (HB0.out.trans ((bel1 wd _).mono HB0.out.size))
        clear hK K hHeld
        have hHeld := hHeld2; clear hHeld2
        try change wpAnyH _ _ _ _ _ _ _ (Act.put _ (some 9) _) _
        try simp only [Act.put, List.setIfInBounds_toArray, List.set_cons_zero, List.set_cons_succ]
        generalize hwx101 : World.alloc wd _ = wa100 at hHeld ⊢
        have HB102 : Hid (Below wc.heap.size wc wa100) := by rw [← hwx101]; exact HB0.out.trans ((bel1 wd _).mono HB0.out.size)
        have HG103 : Hid (R5 wa100 wd.heap.size 0 0 0 0 (.slice none 0 0)) := by rw [← hwx101]; exact R5.new _ _ _ _ _ _
        have hge : wc.heap.size ≤ wd.heap.size := HB0.out.size
        have hbx : Below wd.heap.size wd wa100 := by rw [← hwx101]; exact bel1 _ _
        have Hbx := Lib.hid hbx
        clear hbx hwx101
        refine wpAnyH_ready (rs := [1]) (by kernel_rfl) (by simp) ?_
        refine AllReadyH.cons rfl (fun K hK => ?_) (AllReadyH.nil)
        go_simp
        go_at_call 34
        with_reducible refine (HIn.out _).mono ?_
        rintro e wn109 ⟨qz104, cz105, rfl, hu106, hb107⟩
        have HB108 := Lib.hid (HB102.out.trans (hb107.mono HB102.out.size))
        refine hK.out _ _ ?_ (fun hHeld2 => ?_)
        · exact HAll.out _ HB108.out
        clear hK K hHeld
        have hHeld := hHeld2; clear hHeld2
        try change wpAnyH _ _ _ _ _ _ _ (Act.put _ (some 46) _) _
        try dsimp only
        try simp only [Act.put, List.setIfInBounds_toArray, List.set_cons_zero, List.set_cons_succ]
        have HU110 := Lib.hid hu106.rd
        have HG111 := Lib.hid (HG103.out.next hb107)
        clear hb107
        refine wpAnyH_ready (rs := [3]) (by kernel_rfl) (by simp) ?_
        refine AllReadyH.cons rfl (fun K hK => ?_) (AllReadyH.nil)
        go_simp
        go_at_call 22
        with_reducible refine (HDr.out _ _ (HK.out.next HB108.out).lay HU110.out (by with_unfolding_all exact (HK.out.next HB108.out).r _ (.tail _ (.tail _ (.head _))))).mono ?_
        rintro e wn117 ⟨uz118, rfl, hu114, hb115⟩
        obtain ⟨qz112, cz113, hq119, _, _⟩ := hu114.form
        have hq1192 : uz118 = (.slice qz112 d5.length cz113) := hq119
        subst hq1192
        clear hq119
        have HB116 := Lib.hid (HB108.out.trans (hb115.mono HB108.out.size))
        refine hK.out _ _ ?_ (fun hHeld2 => ?_)
        · exact HAll.out _ HB116.out
        clear hK K hHeld
        have hHeld := hHeld2; clear hHeld2
        try change wpAnyH _ _ _ _ _ _ _ (Act.put _ (some 48) _) _
        try dsimp only
        try simp only [Act.put, List.setIfInBounds_toArray, List.set_cons_zero, List.set_cons_succ]
        have HX120 : Hid (RdX (wd.heap.size :: List.map Bk.g [⟨gt, ⟨t1, t2, t3, t4, t5⟩, (.slice qt t5.length ct)⟩, ⟨(w.heap.size + 1), B, (.slice q B.z.length cap')⟩, ⟨w.heap.size, A, (.slice p A.z.length cap)⟩]) wn117 (.slice qz112 d5.length cz113) d5) := rdN_toX hu114 (fun g mg => by
          rcases List.mem_cons.1 mg with rfl | mg
          · exact HG111.out.lt
          · exact Nat.lt_of_lt_of_le (HLt.out g mg) HB108.out.size)
        have HN121 := Lib.hid hu114.nilC
        have HG122 := Lib.hid (HG111.out.next hb115)
        clear hu114 hb115
        refine wpAnyH_take (i := 4) (v := ?_) rfl (by kernel_rfl) (by kernel_rfl) (by kernel_rfl) (fun _ _ _ h => h) (Or.inl ⟨by rfl, ?_⟩) (by assumption) ?_
        rotate_left
        · ((intro w0 hSw); (try dsimp only at hSw); go_simp; (try with_reducible rfl))
        change wpAnyH _ _ _ _ _ _ _ (Act.put _ (some 44) _) _
        try simp only [Act.put, List.setIfInBounds_toArray, List.set_cons_zero, List.set_cons_succ]
        refine wpAnyH_take (i := 5) (v := ?_) rfl (by kernel_rfl) (by kernel_rfl) (by kernel_rfl) (fun _ _ _ h => h) (Or.inl ⟨by rfl, ?_⟩) (by assumption) ?_
        rotate_left
        · ((intro w0 hSw); (try dsimp only at hSw); go_simp; (try with_reducible rfl))
        change wpAnyH _ _ _ _ _ _ _ (Act.put _ (some 49) _) _
        try simp only [Act.put, List.setIfInBounds_toArray, List.set_cons_zero, List.set_cons_succ]
        refine wpAnyH_take (i := 6) (v := ?_) rfl (by kernel_rfl) (by kernel_rfl) (by kernel_rfl) (fun _ _ _ h => h) (Or.inl ⟨by rfl, ?_⟩) (by assumption) ?_
        rotate_left
        · ((intro w0 hSw); (try dsimp only at hSw); go_simp; (try with_reducible rfl))
        change wpAnyH _ _ _ _ _ _ _ (Act.put _ (some 50) _) _
        try simp only [Act.put, List.setIfInBounds_toArray, List.set_cons_zero, List.set_cons_succ]
        refine wpAnyH_ready (rs := [8]) (by kernel_rfl) (by simp) ?_
        refine AllReadyH.cons rfl (fun K hK => ?_) (AllReadyH.nil)
        have y0 := HG122.out.c0; have y1 := HG122.out.c1; have y2 := HG122.out.c2; have y3 := HG122.out.c3; have y4 := HG122.out.c4; have f0 := HG122.out.fr 0; have f1 := HG122.out.fr 1; have f2 := HG122.out.fr 2; have f3 := HG122.out.fr 3; have f4 := HG122.out.fr 4; have HS := Lib.hid (HG122.out.set d1 d2 d3 d4 (.slice qz112 d5.length cz113)); have z0 := HS.out.c0; have z1 := HS.out.c1; have z2 := HS.out.c2; have z3 := HS.out.c3; have z4 := HS.out.c4
        go_simp
        refine hK.out _ _ ?_ (fun hHeld2 => ?_)
        · exact HAll.out _ (st5_below _ _ _ _ _ hge HB116.out)
        clear hK K hHeld
        have hHeld := hHeld2; clear hHeld2
        try simp only [Act.put, List.setIfInBounds_toArray, List.set_cons_zero, List.set_cons_succ]
        refine wpAnyH_take (i := 9) (v := ?_) rfl (by kernel_rfl) (by kernel_rfl) (by kernel_rfl) (fun _ _ _ h => h) (Or.inl ⟨by rfl, ?_⟩) (by assumption) ?_
        rotate_left
        · ((intro w0 hSw); (try dsimp only at hSw); go_simp; (try with_reducible rfl))
        change wpAnyH _ _ _ _ _ _ _ (Act.put _ (some 10) _) _
        try simp only [Act.put, List.setIfInBounds_toArray, List.set_cons_zero, List.set_cons_succ]
        refine wpAnyH_done (by kernel_rfl) ?_ _
        go_wp2_with fail
        go_meet
        case rel => exact ⟨wd.heap.size, qz112, cz113, rfl, rfl, HK.out.newAt HB116.out hge HG122.out ⟨d1, d2, d3, d4, d5⟩ HX120.out HN121.out, fun b mb => Nat.lt_of_lt_of_le (HK.out.lt b mb) hge⟩
    case rest =>
      obtain ⟨gd, qd, cd, rfl, rfl, hk, hlt⟩ := hcut
      have hltt : gt < gd := hlt _ (.head _)
      have hltx2 : w.heap.size < gd := hlt _ (.tail _ (.tail _ (.head _)))
      have hlty2 : w.heap.size + 1 < gd := hlt _ (.tail _ (.head _))
      clear HK hlt HTk HDr HIn
      have HK := Lib.hid hk
      clear hk
      by_cases hn : n < 0
      · have HC1 := Lib.hid (HCn.out (by omega))
        have k2 : decide (n < 0) = true := decide_eq_true hn
        clear HCn HCp hn
        obtain ⟨hs1, hs2⟩ := HK.out.swap (b1 := ⟨gt, ⟨t1, t2, t3, t4, t5⟩, .slice qt t5.length ct⟩) (b2 := ⟨gd, ⟨d1, d2, d3, d4, d5⟩, .slice qd d5.length cd⟩) (by dsimp only; omega) (by intro b m; simp only [List.mem_cons, List.not_mem_nil, or_false] at m; rcases m with rfl | rfl <;> exact ⟨by dsimp only; omega, by dsimp only; omega⟩)
        have o0 := (HK.out.a _ (.tail _ (.head _))).c0; have o1 := (HK.out.a _ (.tail _ (.head _))).c1; have o2 := (HK.out.a _ (.tail _ (.head _))).c2; have o3 := (HK.out.a _ (.tail _ (.head _))).c3; have o4 := (HK.out.a _ (.tail _ (.head _))).c4
        have of0 := (HK.out.a _ (.tail _ (.head _))).fr 0; have of1 := (HK.out.a _ (.tail _ (.head _))).fr 1; have of2 := (HK.out.a _ (.tail _ (.head _))).fr 2; have of3 := (HK.out.a _ (.tail _ (.head _))).fr 3; have of4 := (HK.out.a _ (.tail _ (.head _))).fr 4
        have p0 := (HK.out.a _ (.head _)).c0; have p1 := (HK.out.a _ (.head _)).c1; have p2 := (HK.out.a _ (.head _)).c2; have p3 := (HK.out.a _ (.head _)).c3; have p4 := (HK.out.a _ (.head _)).c4
        have s0 := (hs1.a _ (.tail _ (.head _))).c0; have s1 := (hs1.a _ (.tail _ (.head _))).c1; have s2 := (hs1.a _ (.tail _ (.head _))).c2; have s3 := (hs1.a _ (.tail _ (.head _))).c3; have s4 := (hs1.a _ (.tail _ (.head _))).c4
        have sf0 := (hs1.a _ (.tail _ (.head _))).fr 0; have sf1 := (hs1.a _ (.tail _ (.head _))).fr 1; have sf2 := (hs1.a _ (.tail _ (.head _))).fr 2; have sf3 := (hs1.a _ (.tail _ (.head _))).fr 3; have sf4 := (hs1.a _ (.tail _ (.head _))).fr 4
        clear HK hs1
        have HK := Lib.hid hs2
        clear hs2
        have x0 := (HK.out.a _ (.tail _ (.tail _ (.tail _ (.head _))))).c0
        have x1 := (HK.out.a _ (.tail _ (.tail _ (.tail _ (.head _))))).c1
        have x2 := (HK.out.a _ (.tail _ (.tail _ (.tail _ (.head _))))).c2
        have x3 := (HK.out.a _ (.tail _ (.tail _ (.tail _ (.head _))))).c3
        have x4 := (HK.out.a _ (.tail _ (.tail _ (.tail _ (.head _))))).c4
        have y0 := (HK.out.a _ (.tail _ (.tail _ (.head _)))).c0
        have y1 := (HK.out.a _ (.tail _ (.tail _ (.head _)))).c1
        have y2 := (HK.out.a _ (.tail _ (.tail _ (.head _)))).c2
        have y3 := (HK.out.a _ (.tail _ (.tail _ (.head _)))).c3
        have y4 := (HK.out.a _ (.tail _ (.tail _ (.head _)))).c4
        have tt0 := (HK.out.a _ (.tail _ (.head _))).c0
        have tt1 := (HK.out.a _ (.tail _ (.head _))).c1
        have tt2 := (HK.out.a _ (.tail _ (.head _))).c2
        have tt3 := (HK.out.a _ (.tail _ (.head _))).c3
        have tt4 := (HK.out.a _ (.tail _ (.head _))).c4
        have dd0 := (HK.out.a _ (.head _)).c0
        have dd1 := (HK.out.a _ (.head _)).c1
        have dd2 := (HK.out.a _ (.head _)).c2
        have dd3 := (HK.out.a _ (.head _)).c3
        have dd4 := (HK.out.a _ (.head _)).c4
        by_cases he : ctE A B = 0
        rotate_left
        · generalize ctE A B = E at he HC2
          generalize ctV A B = C at HC2
          obtain ⟨j1, j2, j3, j4, j5⟩ := C
          have k3 : (E != 0) = true := by simpa using he
          clear he HP2 HL2 HLa
          go_wp2_with (first
            | (go_at_call 28; (with_reducible refine (HC1.out _ _ _ (by with_unfolding_all exact HK.out.lay) (by with_unfolding_all exact HK.out.r _ (.tail _ (.head _))) (by with_unfolding_all exact HK.out.r _ (.head _)) (by with_unfolding_all exact HK.out.n _ (.tail _ (.head _))) (by with_unfolding_all exact HK.out.n _ (.head _))).mono ?_); rintro e we ⟨uwe, rfl, hu, hb⟩; obtain ⟨pwe, cwe, hpwe, _, _⟩ := hu.form; have hqwe : uwe = (.slice pwe A.z.length cwe) := hpwe; subst hqwe; clear hpwe; have hltddwh : gd < we.heap.size := Nat.lt_of_lt_of_le (HK.out.lt _ (.head _)) hb.size; have hltttwh : gt < we.heap.size := Nat.lt_of_lt_of_le (HK.out.lt _ (.tail _ (.head _))) hb.size; have hltywh : (w.heap.size + 1) < we.heap.size := Nat.lt_of_lt_of_le (HK.out.lt _ (.tail _ (.tail _ (.head _)))) hb.size; have hltxwh : w.heap.size < we.heap.size := Nat.lt_of_lt_of_le (HK.out.lt _ (.tail _ (.tail _ (.tail _ (.head _))))) hb.size; have HK2 := Lib.hid (HK.out.res hb ⟨A.k, A.r, A.a, A.b, A.z⟩ hu); clear HK x0 x1 x2 x3 x4 y0 y1 y2 y3 y4 tt0 tt1 tt2 tt3 tt4 dd0 dd1 dd2 dd3 dd4; have HK := HK2; clear HK2; clear hb hu; have x0 := (HK.out.a _ (.tail _ (.tail _ (.tail _ (.tail _ (.head _)))))).c0; have x1 := (HK.out.a _ (.tail _ (.tail _ (.tail _ (.tail _ (.head _)))))).c1; have x2 := (HK.out.a _ (.tail _ (.tail _ (.tail _ (.tail _ (.head _)))))).c2; have x3 := (HK.out.a _ (.tail _ (.tail _ (.tail _ (.tail _ (.head _)))))).c3; have x4 := (HK.out.a _ (.tail _ (.tail _ (.tail _ (.tail _ (.head _)))))).c4; have y0 := (HK.out.a _ (.tail _ (.tail _ (.tail _ (.head _))))).c0; have y1 := (HK.out.a _ (.tail _ (.tail _ (.tail _ (.head _))))).c1; have y2 := (HK.out.a _ (.tail _ (.tail _ (.tail _ (.head _))))).c2; have y3 := (HK.out.a _ (.tail _ (.tail _ (.tail _ (.head _))))).c3; have y4 := (HK.out.a _ (.tail _ (.tail _ (.tail _ (.head _))))).c4; have tt0 := (HK.out.a _ (.tail _ (.tail _ (.head _)))).c0; have tt1 := (HK.out.a _ (.tail _ (.tail _ (.head _)))).c1; have tt2 := (HK.out.a _ (.tail _ (.tail _ (.head _)))).c2; have tt3 := (HK.out.a _ (.tail _ (.tail _ (.head _)))).c3; have tt4 := (HK.out.a _ (.tail _ (.tail _ (.head _)))).c4; have dd0 := (HK.out.a _ (.tail _ (.head _))).c0; have dd1 := (HK.out.a _ (.tail _ (.head _))).c1; have dd2 := (HK.out.a _ (.tail _ (.head _))).c2; have dd3 := (HK.out.a _ (.tail _ (.head _))).c3; have dd4 := (HK.out.a _ (.tail _ (.head _))).c4; have wh0 := (HK.out.a _ (.head _)).c0; have wh1 := (HK.out.a _ (.head _)).c1; have wh2 := (HK.out.a _ (.head _)).c2; have wh3 := (HK.out.a _ (.head _)).c3; have wh4 := (HK.out.a _ (.head _)).c4)
            | (go_at_call 28; (with_reducible refine (HC2.out _ (by with_unfolding_all exact HK.out.lay) (by with_unfolding_all exact HK.out.r _ (.tail _ (.tail _ (.tail _ (.tail _ (.head _)))))) (by with_unfolding_all exact HK.out.r _ (.tail _ (.tail _ (.tail _ (.head _)))))).mono ?_); rintro e wf ⟨uwf, rfl, hu, hb⟩; obtain ⟨pwf, cwf, hpwf, _, _⟩ := hu.form; have hqwf : uwf = (.slice pwf j5.length cwf) := hpwf; subst hqwf; clear hpwf; have hltwhcc : we.heap.size < wf.heap.size := Nat.lt_of_lt_of_le (HK.out.lt _ (.head _)) hb.size; have hltddcc : gd < wf.heap.size := Nat.lt_of_lt_of_le (HK.out.lt _ (.tail _ (.head _))) hb.size; have hltttcc : gt < wf.heap.size := Nat.lt_of_lt_of_le (HK.out.lt _ (.tail _ (.tail _ (.head _)))) hb.size; have hltycc : (w.heap.size + 1) < wf.heap.size := Nat.lt_of_lt_of_le (HK.out.lt _ (.tail _ (.tail _ (.tail _ (.head _))))) hb.size; have hltxcc : w.heap.size < wf.heap.size := Nat.lt_of_lt_of_le (HK.out.lt _ (.tail _ (.tail _ (.tail _ (.tail _ (.head _)))))) hb.size; have HK2 := Lib.hid (HK.out.res hb ⟨j1, j2, j3, j4, j5⟩ hu); clear HK x0 x1 x2 x3 x4 y0 y1 y2 y3 y4 tt0 tt1 tt2 tt3 tt4 dd0 dd1 dd2 dd3 dd4 wh0 wh1 wh2 wh3 wh4; have HK := HK2; clear HK2; clear hb hu; have x0 := (HK.out.a _ (.tail _ (.tail _ (.tail _ (.tail _ (.tail _ (.head _))))))).c0; have x1 := (HK.out.a _ (.tail _ (.tail _ (.tail _ (.tail _ (.tail _ (.head _))))))).c1; have x2 := (HK.out.a _ (.tail _ (.tail _ (.tail _ (.tail _ (.tail _ (.head _))))))).c2; have x3 := (HK.out.a _ (.tail _ (.tail _ (.tail _ (.tail _ (.tail _ (.head _))))))).c3; have x4 := (HK.out.a _ (.tail _ (.tail _ (.tail _ (.tail _ (.tail _ (.head _))))))).c4; have y0 := (HK.out.a _ (.tail _ (.tail _ (.tail _ (.tail _ (.head _)))))).c0; have y1 := (HK.out.a _ (.tail _ (.tail _ (.tail _ (.tail _ (.head _)))))).c1; have y2 := (HK.out.a _ (.tail _ (.tail _ (.tail _ (.tail _ (.head _)))))).c2; have y3 := (HK.out.a _ (.tail _ (.tail _ (.tail _ (.tail _ (.head _)))))).c3; have y4 := (HK.out.a _ (.tail _ (.tail _ (.tail _ (.tail _ (.head _)))))).c4; have tt0 := (HK.out.a _ (.tail _ (.tail _ (.tail _ (.head _))))).c0; have tt1 := (HK.out.a _ (.tail _ (.tail _ (.tail _ (.head _))))).c1; have tt2 := (HK.out.a _ (.tail _ (.tail _ (.tail _ (.head _))))).c2; have tt3 := (HK.out.a _ (.tail _ (.tail _ (.tail _ (.head _))))).c3; have tt4 := (HK.out.a _ (.tail _ (.tail _ (.tail _ (.head _))))).c4; have dd0 := (HK.out.a _ (.tail _ (.tail _ (.head _)))).c0; have dd1 := (HK.out.a _ (.tail _ (.tail _ (.head _)))).c1; have dd2 := (HK.out.a _ (.tail _ (.tail _ (.head _)))).c2; have dd3 := (HK.out.a _ (.tail _ (.tail _ (.head _)))).c3; have dd4 := (HK.out.a _ (.tail _ (.tail _ (.head _)))).c4; have wh0 := (HK.out.a _ (.tail _ (.head _))).c0; have wh1 := (HK.out.a _ (.tail _ (.head _))).c1; have wh2 := (HK.out.a _ (.tail _ (.head _))).c2; have wh3 := (HK.out.a _ (.tail _ (.head _))).c3; have wh4 := (HK.out.a _ (.tail _ (.head _))).c4; have cc0 := (HK.out.a _ (.head _)).c0; have cc1 := (HK.out.a _ (.head _)).c1; have cc2 := (HK.out.a _ (.head _)).c2; have cc3 := (HK.out.a _ (.head _)).c3; have cc4 := (HK.out.a _ (.head _)).c4)
            | (go_at_call 32; (with_reducible refine (HIs.out _ _ _ (by with_unfolding_all exact HK.out.r _ (.head _)) (by with_unfolding_all exact HK.out.r _ (.tail _ (.tail _ (.tail _ (.tail _ (.head _))))))).mono ?_); rintro e wz ⟨rfl, hb⟩; have HK2 := Lib.hid (HK.out.next hb); clear HK x0 x1 x2 x3 x4 y0 y1 y2 y3 y4 tt0 tt1 tt2 tt3 tt4 dd0 dd1 dd2 dd3 dd4 wh0 wh1 wh2 wh3 wh4; have HK := HK2; clear HK2; clear hb; have x0 := (HK.out.a _ (.tail _ (.tail _ (.tail _ (.tail _ (.head _)))))).c0; have x1 := (HK.out.a _ (.tail _ (.tail _ (.tail _ (.tail _ (.head _)))))).c1; have x2 := (HK.out.a _ (.tail _ (.tail _ (.tail _ (.tail _ (.head _)))))).c2; have x3 := (HK.out.a _ (.tail _ (.tail _ (.tail _ (.tail _ (.head _)))))).c3; have x4 := (HK.out.a _ (.tail _ (.tail _ (.tail _ (.tail _ (.head _)))))).c4; have y0 := (HK.out.a _ (.tail _ (.tail _ (.tail _ (.head _))))).c0; have y1 := (HK.out.a _ (.tail _ (.tail _ (.tail _ (.head _))))).c1; have y2 := (HK.out.a _ (.tail _ (.tail _ (.tail _ (.head _))))).c2; have y3 := (HK.out.a _ (.tail _ (.tail _ (.tail _ (.head _))))).c3; have y4 := (HK.out.a _ (.tail _ (.tail _ (.tail _ (.head _))))).c4; have tt0 := (HK.out.a _ (.tail _ (.tail _ (.head _)))).c0; have tt1 := (HK.out.a _ (.tail _ (.tail _ (.head _)))).c1; have tt2 := (HK.out.a _ (.tail _ (.tail _ (.head _)))).c2; have tt3 := (HK.out.a _ (.tail _ (.tail _ (.head _)))).c3; have tt4 := (HK.out.a _ (.tail _ (.tail _ (.head _)))).c4; have dd0 := (HK.out.a _ (.tail _ (.head _))).c0; have dd1 := (HK.out.a _ (.tail _ (.head _))).c1; have dd2 := (HK.out.a _ (.tail _ (.head _))).c2; have dd3 := (HK.out.a _ (.tail _ (.head _))).c3; have dd4 := (HK.out.a _ (.tail _ (.head _))).c4; have wh0 := (HK.out.a _ (.head _)).c0; have wh1 := (HK.out.a _ (.head _)).c1; have wh2 := (HK.out.a _ (.head _)).c2; have wh3 := (HK.out.a _ (.head _)).c3; have wh4 := (HK.out.a _ (.head _)).c4)
            | (go_at_call 12; (with_reducible refine (HAw.out _ (by with_unfolding_all exact HK.out.lay)).mono ?_); rintro e wz ⟨rfl, hb⟩; have HK2 := Lib.hid (HK.out.next hb); clear HK x0 x1 x2 x3 x4 y0 y1 y2 y3 y4 tt0 tt1 tt2 tt3 tt4 dd0 dd1 dd2 dd3 dd4 wh0 wh1 wh2 wh3 wh4 cc0 cc1 cc2 cc3 cc4; have HK := HK2; clear HK2; clear hb; have x0 := (HK.out.a _ (.tail _ (.tail _ (.tail _ (.tail _ (.tail _ (.head _))))))).c0; have x1 := (HK.out.a _ (.tail _ (.tail _ (.tail _ (.tail _ (.tail _ (.head _))))))).c1; have x2 := (HK.out.a _ (.tail _ (.tail _ (.tail _ (.tail _ (.tail _ (.head _))))))).c2; have x3 := (HK.out.a _ (.tail _ (.tail _ (.tail _ (.tail _ (.tail _ (.head _))))))).c3; have x4 := (HK.out.a _ (.tail _ (.tail _ (.tail _ (.tail _ (.tail _ (.head _))))))).c4; have y0 := (HK.out.a _ (.tail _ (.tail _ (.tail _ (.tail _ (.head _)))))).c0; have y1 := (HK.out.a _ (.tail _ (.tail _ (.tail _ (.tail _ (.head _)))))).c1; have y2 := (HK.out.a _ (.tail _ (.tail _ (.tail _ (.tail _ (.head _)))))).c2; have y3 := (HK.out.a _ (.tail _ (.tail _ (.tail _ (.tail _ (.head _)))))).c3; have y4 := (HK.out.a _ (.tail _ (.tail _ (.tail _ (.tail _ (.head _)))))).c4; have tt0 := (HK.out.a _ (.tail _ (.tail _ (.tail _ (.head _))))).c0; have tt1 := (HK.out.a _ (.tail _ (.tail _ (.tail _ (.head _))))).c1; have tt2 := (HK.out.a _ (.tail _ (.tail _ (.tail _ (.head _))))).c2; have tt3 := (HK.out.a _ (.tail _ (.tail _ (.tail _ (.head _))))).c3; have tt4 := (HK.out.a _ (.tail _ (.tail _ (.tail _ (.head _))))).c4; have dd0 := (HK.out.a _ (.tail _ (.tail _ (.head _)))).c0; have dd1 := (HK.out.a _ (.tail _ (.tail _ (.head _)))).c1; have dd2 := (HK.out.a _ (.tail _ (.tail _ (.head _)))).c2; have dd3 := (HK.out.a _ (.tail _ (.tail _ (.head _)))).c3; have dd4 := (HK.out.a _ (.tail _ (.tail _ (.head _)))).c4; have wh0 := (HK.out.a _ (.tail _ (.head _))).c0; have wh1 := (HK.out.a _ (.tail _ (.head _))).c1; have wh2 := (HK.out.a _ (.tail _ (.head _))).c2; have wh3 := (HK.out.a _ (.tail _ (.head _))).c3; have wh4 := (HK.out.a _ (.tail _ (.head _))).c4; have cc0 := (HK.out.a _ (.head _)).c0; have cc1 := (HK.out.a _ (.head _)).c1; have cc2 := (HK.out.a _ (.head _)).c2; have cc3 := (HK.out.a _ (.head _)).c3; have cc4 := (HK.out.a _ (.head _)).c4)
            | fail)
          go_ret
          exact ⟨rfl, HK.out.bel⟩
        obtain ⟨f0, f1, f2⟩ := HP2.out he
        have hl2 := HL2.out he
        have HT2 : Hid (∀ (v u : Value) (W : World), Ru.Lay W → RdI W.heap.size W v [(A.z.length : Int)] → RdI W.heap.size W u (ctV A B).z → Ru.NilC u → Calls Tryd.prog 20 #[A5 1 0 0 0 v, A5 (ctV A B).k (ctV A B).r (ctV A B).a (ctV A B).b u] W (RetE A 0 W)) := fun v u W q1 q2 q3 q4 => by
          have := mtake_any (inA A.z.length) (ctV A B) v u W q1 q2 q3 q4 (by simp [inA]) hl2 HLa.out
          rwa [f0, f1] at this
        have HD2 : Hid (∀ (v u : Value) (W : World), Ru.Lay W → RdI W.heap.size W v [(A.z.length : Int)] → RdI W.heap.size W u (ctV A B).z → Ru.NilC u → Calls Tryd.prog 22 #[A5 1 0 0 0 v, A5 (ctV A B).k (ctV A B).r (ctV A B).a (ctV A B).b u] W (RetE B 0 W)) := fun v u W q1 q2 q3 q4 => by
          have := mdrop_any (inA A.z.length) (ctV A B) v u W q1 q2 q3 q4 (by simp [inA]) hl2 HLa.out
          rwa [f0, f2] at this
        have HI2 : Hid (∀ W, Calls Tryd.prog 34 #[.int .i64 (A.z.length : Int)] W (RetA ⟨1, 0, 0, 0, [(A.z.length : Int)]⟩ W)) := fun W => lint_any (A.z.length : Int) W
        rw [he] at HC2
        generalize ctV A B = C at HC2 HT2 HD2
        obtain ⟨j1, j2, j3, j4, j5⟩ := C
        clear he HP2 HL2 HLa f0 f1 f2 hl2
        go_wp2_with (first
          | (go_at_call 28; (with_reducible refine (HC1.out _ _ _ (by with_unfolding_all exact HK.out.lay) (by with_unfolding_all exact HK.out.r _ (.tail _ (.head _))) (by with_unfolding_all exact HK.out.r _ (.head _)) (by with_unfolding_all exact HK.out.n _ (.tail _ (.head _))) (by with_unfolding_all exact HK.out.n _ (.head _))).mono ?_); rintro e we ⟨uwe, rfl, hu, hb⟩; obtain ⟨pwe, cwe, hpwe, _, _⟩ := hu.form; have hqwe : uwe = (.slice pwe A.z.length cwe) := hpwe; subst hqwe; clear hpwe; have hltddwh : gd < we.heap.size := Nat.lt_of_lt_of_le (HK.out.lt _ (.head _)) hb.size; have hltttwh : gt < we.heap.size := Nat.lt_of_lt_of_le (HK.out.lt _ (.tail _ (.head _))) hb.size; have hltywh : (w.heap.size + 1) < we.heap.size := Nat.lt_of_lt_of_le (HK.out.lt _ (.tail _ (.tail _ (.head _)))) hb.size; have hltxwh : w.heap.size < we.heap.size := Nat.lt_of_lt_of_le (HK.out.lt _ (.tail _ (.tail _ (.tail _ (.head _))))) hb.size; have HK2 := Lib.hid (HK.out.res hb ⟨A.k, A.r, A.a, A.b, A.z⟩ hu); clear HK x0 x1 x2 x3 x4 y0 y1 y2 y3 y4 tt0 tt1 tt2 tt3 tt4 dd0 dd1 dd2 dd3 dd4; have HK := HK2; clear HK2; clear hb hu; have x0 := (HK.out.a _ (.tail _ (.tail _ (.tail _ (.tail _ (.head _)))))).c0; have x1 := (HK.out.a _ (.tail _ (.tail _ (.tail _ (.tail _ (.head _)))))).c1; have x2 := (HK.out.a _ (.tail _ (.tail _ (.tail _ (.tail _ (.head _)))))).c2; have x3 := (HK.out.a _ (.tail _ (.tail _ (.tail _ (.tail _ (.head _)))))).c3; have x4 := (HK.out.a _ (.tail _ (.tail _ (.tail _ (.tail _ (.head _)))))).c4; have y0 := (HK.out.a _ (.tail _ (.tail _ (.tail _ (.head _))))).c0; have y1 := (HK.out.a _ (.tail _ (.tail _ (.tail _ (.head _))))).c1; have y2 := (HK.out.a _ (.tail _ (.tail _ (.tail _ (.head _))))).c2; have y3 := (HK.out.a _ (.tail _ (.tail _ (.tail _ (.head _))))).c3; have y4 := (HK.out.a _ (.tail _ (.tail _ (.tail _ (.head _))))).c4; have tt0 := (HK.out.a _ (.tail _ (.tail _ (.head _)))).c0; have tt1 := (HK.out.a _ (.tail _ (.tail _ (.head _)))).c1; have tt2 := (HK.out.a _ (.tail _ (.tail _ (.head _)))).c2; have tt3 := (HK.out.a _ (.tail _ (.tail _ (.head _)))).c3; have tt4 := (HK.out.a _ (.tail _ (.tail _ (.head _)))).c4; have dd0 := (HK.out.a _ (.tail _ (.head _))).c0; have dd1 := (HK.out.a _ (.tail _ (.head _))).c1; have dd2 := (HK.out.a _ (.tail _ (.head _))).c2; have dd3 := (HK.out.a _ (.tail _ (.head _))).c3; have dd4 := (HK.out.a _ (.tail _ (.head _))).c4; have wh0 := (HK.out.a _ (.head _)).c0; have wh1 := (HK.out.a _ (.head _)).c1; have wh2 := (HK.out.a _ (.head _)).c2; have wh3 := (HK.out.a _ (.head _)).c3; have wh4 := (HK.out.a _ (.head _)).c4)
          | (go_at_call 28; (with_reducible refine (HC2.out _ (by with_unfolding_all exact HK.out.lay) (by with_unfolding_all exact HK.out.r _ (.tail _ (.tail _ (.tail _ (.tail _ (.head _)))))) (by with_unfolding_all exact HK.out.r _ (.tail _ (.tail _ (.tail _ (.head _)))))).mono ?_); rintro e wf ⟨uwf, rfl, hu, hb⟩; obtain ⟨pwf, cwf, hpwf, _, _⟩ := hu.form; have hqwf : uwf = (.slice pwf j5.length cwf) := hpwf; subst hqwf; clear hpwf; have hltwhcc : we.heap.size < wf.heap.size := Nat.lt_of_lt_of_le (HK.out.lt _ (.head _)) hb.size; have hltddcc : gd < wf.heap.size := Nat.lt_of_lt_of_le (HK.out.lt _ (.tail _ (.head _))) hb.size; have hltttcc : gt < wf.heap.size := Nat.lt_of_lt_of_le (HK.out.lt _ (.tail _ (.tail _ (.head _)))) hb.size; have hltycc : (w.heap.size + 1) < wf.heap.size := Nat.lt_of_lt_of_le (HK.out.lt _ (.tail _ (.tail _ (.tail _ (.head _))))) hb.size; have hltxcc : w.heap.size < wf.heap.size := Nat.lt_of_lt_of_le (HK.out.lt _ (.tail _ (.tail _ (.tail _ (.tail _ (.head _)))))) hb.size; have HK2 := Lib.hid (HK.out.res hb ⟨j1, j2, j3, j4, j5⟩ hu); clear HK x0 x1 x2 x3 x4 y0 y1 y2 y3 y4 tt0 tt1 tt2 tt3 tt4 dd0 dd1 dd2 dd3 dd4 wh0 wh1 wh2 wh3 wh4; have HK := HK2; clear HK2; clear hb hu; have x0 := (HK.out.a _ (.tail _ (.tail _ (.tail _ (.tail _ (.tail _ (.head _))))))).c0; have x1 := (HK.out.a _ (.tail _ (.tail _ (.tail _ (.tail _ (.tail _ (.head _))))))).c1; have x2 := (HK.out.a _ (.tail _ (.tail _ (.tail _ (.tail _ (.tail _ (.head _))))))).c2; have x3 := (HK.out.a _ (.tail _ (.tail _ (.tail _ (.tail _ (.tail _ (.head _))))))).c3; have x4 := (HK.out.a _ (.tail _ (.tail _ (.tail _ (.tail _ (.tail _ (.head _))))))).c4; have y0 := (HK.out.a _ (.tail _ (.tail _ (.tail _ (.tail _ (.head _)))))).c0; have y1 := (HK.out.a _ (.tail _ (.tail _ (.tail _ (.tail _ (.head _)))))).c1; have y2 := (HK.out.a _ (.tail _ (.tail _ (.tail _ (.tail _ (.head _)))))).c2; have y3 := (HK.out.a _ (.tail _ (.tail _ (.tail _ (.tail _ (.head _)))))).c3; have y4 := (HK.out.a _ (.tail _ (.tail _ (.tail _ (.tail _ (.head _)))))).c4; have tt0 := (HK.out.a _ (.tail _ (.tail _ (.tail _ (.head _))))).c0; have tt1 := (HK.out.a _ (.tail _ (.tail _ (.tail _ (.head _))))).c1; have tt2 := (HK.out.a _ (.tail _ (.tail _ (.tail _ (.head _))))).c2; have tt3 := (HK.out.a _ (.tail _ (.tail _ (.tail _ (.head _))))).c3; have tt4 := (HK.out.a _ (.tail _ (.tail _ (.tail _ (.head _))))).c4; have dd0 := (HK.out.a _ (.tail _ (.tail _ (.head _)))).c0; have dd1 := (HK.out.a _ (.tail _ (.tail _ (.head _)))).c1; have dd2 := (HK.out.a _ (.tail _ (.tail _ (.head _)))).c2; have dd3 := (HK.out.a _ (.tail _ (.tail _ (.head _)))).c3; have dd4 := (HK.out.a _ (.tail _ (.tail _ (.head _)))).c4; have wh0 := (HK.out.a _ (.tail _ (.head _))).c0; have wh1 := (HK.out.a _ (.tail _ (.head _))).c1; have wh2 := (HK.out.a _ (.tail _ (.head _))).c2; have wh3 := (HK.out.a _ (.tail _ (.head _))).c3; have wh4 := (HK.out.a _ (.tail _ (.head _))).c4; have cc0 := (HK.out.a _ (.head _)).c0; have cc1 := (HK.out.a _ (.head _)).c1; have cc2 := (HK.out.a _ (.head _)).c2; have cc3 := (HK.out.a _ (.head _)).c3; have cc4 := (HK.out.a _ (.head _)).c4)
          | (go_at_call 34; (with_reducible refine (HI2.out _).mono ?_); rintro e wg ⟨uwg, rfl, hu, hb⟩; obtain ⟨pwg, cwg, hpwg, _, _⟩ := hu.form; have hqwg : uwg = (.slice pwg 1 cwg) := hpwg; subst hqwg; clear hpwg; have hltcckv : wf.heap.size < wg.heap.size := Nat.lt_of_lt_of_le (HK.out.lt _ (.head _)) hb.size; have hltwhkv : we.heap.size < wg.heap.size := Nat.lt_of_lt_of_le (HK.out.lt _ (.tail _ (.head _))) hb.size; have hltddkv : gd < wg.heap.size := Nat.lt_of_lt_of_le (HK.out.lt _ (.tail _ (.tail _ (.head _)))) hb.size; have hltttkv : gt < wg.heap.size := Nat.lt_of_lt_of_le (HK.out.lt _ (.tail _ (.tail _ (.tail _ (.head _))))) hb.size; have hltykv : (w.heap.size + 1) < wg.heap.size := Nat.lt_of_lt_of_le (HK.out.lt _ (.tail _ (.tail _ (.tail _ (.tail _ (.head _)))))) hb.size; have hltxkv : w.heap.size < wg.heap.size := Nat.lt_of_lt_of_le (HK.out.lt _ (.tail _ (.tail _ (.tail _ (.tail _ (.tail _ (.head _))))))) hb.size; have HK2 := Lib.hid (HK.out.res hb ⟨1, 0, 0, 0, [(A.z.length : Int)]⟩ hu); clear HK x0 x1 x2 x3 x4 y0 y1 y2 y3 y4 tt0 tt1 tt2 tt3 tt4 dd0 dd1 dd2 dd3 dd4 wh0 wh1 wh2 wh3 wh4 cc0 cc1 cc2 cc3 cc4; have HK := HK2; clear HK2; clear hb hu; have x0 := (HK.out.a _ (.tail _ (.tail _ (.tail _ (.tail _ (.tail _ (.tail _ (.head _)))))))).c0; have x1 := (HK.out.a _ (.tail _ (.tail _ (.tail _ (.tail _ (.tail _ (.tail _ (.head _)))))))).c1; have x2 := (HK.out.a _ (.tail _ (.tail _ (.tail _ (.tail _ (.tail _ (.tail _ (.head _)))))))).c2; have x3 := (HK.out.a _ (.tail _ (.tail _ (.tail _ (.tail _ (.tail _ (.tail _ (.head _)))))))).c3; have x4 := (HK.out.a _ (.tail _ (.tail _ (.tail _ (.tail _ (.tail _ (.tail _ (.head _)))))))).c4; have y0 := (HK.out.a _ (.tail _ (.tail _ (.tail _ (.tail _ (.tail _ (.head _))))))).c0; have y1 := (HK.out.a _ (.tail _ (.tail _ (.tail _ (.tail _ (.tail _ (.head _))))))).c1; have y2 := (HK.out.a _ (.tail _ (.tail _ (.tail _ (.tail _ (.tail _ (.head _))))))).c2; have y3 := (HK.out.a _ (.tail _ (.tail _ (.tail _ (.tail _ (.tail _ (.head _))))))).c3; have y4 := (HK.out.a _ (.tail _ (.tail _ (.tail _ (.tail _ (.tail _ (.head _))))))).c4; have tt0 := (HK.out.a _ (.tail _ (.tail _ (.tail _ (.tail _ (.head _)))))).c0; have tt1 := (HK.out.a _ (.tail _ (.tail _ (.tail _ (.tail _ (.head _)))))).c1; have tt2 := (HK.out.a _ (.tail _ (.tail _ (.tail _ (.tail _ (.head _)))))).c2; have tt3 := (HK.out.a _ (.tail _ (.tail _ (.tail _ (.tail _ (.head _)))))).c3; have tt4 := (HK.out.a _ (.tail _ (.tail _ (.tail _ (.tail _ (.head _)))))).c4; have dd0 := (HK.out.a _ (.tail _ (.tail _ (.tail _ (.head _))))).c0; have dd1 := (HK.out.a _ (.tail _ (.tail _ (.tail _ (.head _))))).c1; have dd2 := (HK.out.a _ (.tail _ (.tail _ (.tail _ (.head _))))).c2; have dd3 := (HK.out.a _ (.tail _ (.tail _ (.tail _ (.head _))))).c3; have dd4 := (HK.out.a _ (.tail _ (.tail _ (.tail _ (.head _))))).c4; have wh0 := (HK.out.a _ (.tail _ (.tail _ (.head _)))).c0; have wh1 := (HK.out.a _ (.tail _ (.tail _ (.head _)))).c1; have wh2 := (HK.out.a _ (.tail _ (.tail _ (.head _)))).c2; have wh3 := (HK.out.a _ (.tail _ (.tail _ (.head _)))).c3; have wh4 := (HK.out.a _ (.tail _ (.tail _ (.head _)))).c4; have cc0 := (HK.out.a _ (.tail _ (.head _))).c0; have cc1 := (HK.out.a _ (.tail _ (.head _))).c1; have cc2 := (HK.out.a _ (.tail _ (.head _))).c2; have cc3 := (HK.out.a _ (.tail _ (.head _))).c3; have cc4 := (HK.out.a _ (.tail _ (.head _))).c4; have kv0 := (HK.out.a _ (.head _)).c0; have kv1 := (HK.out.a _ (.head _)).c1; have kv2 := (HK.out.a _ (.head _)).c2; have kv3 := (HK.out.a _ (.head _)).c3; have kv4 := (HK.out.a _ (.head _)).c4)
          | (go_at_call 20; (with_reducible refine (HT2.out _ _ _ (by with_unfolding_all exact HK.out.lay) (by with_unfolding_all exact HK.out.r _ (.head _)) (by with_unfolding_all exact HK.out.r _ (.tail _ (.head _))) (by with_unfolding_all exact HK.out.n _ (.tail _ (.head _)))).mono ?_); rintro e wh ⟨uwh, rfl, hu, hb⟩; obtain ⟨pwh, cwh, hpwh, _, _⟩ := hu.form; have hqwh : uwh = (.slice pwh A.z.length cwh) := hpwh; subst hqwh; clear hpwh; have hltkvrv : wg.heap.size < wh.heap.size := Nat.lt_of_lt_of_le (HK.out.lt _ (.head _)) hb.size; have hltccrv : wf.heap.size < wh.heap.size := Nat.lt_of_lt_of_le (HK.out.lt _ (.tail _ (.head _))) hb.size; have hltwhrv : we.heap.size < wh.heap.size := Nat.lt_of_lt_of_le (HK.out.lt _ (.tail _ (.tail _ (.head _)))) hb.size; have hltddrv : gd < wh.heap.size := Nat.lt_of_lt_of_le (HK.out.lt _ (.tail _ (.tail _ (.tail _ (.head _))))) hb.size; have hltttrv : gt < wh.heap.size := Nat.lt_of_lt_of_le (HK.out.lt _ (.tail _ (.tail _ (.tail _ (.tail _ (.head _)))))) hb.size; have hltyrv : (w.heap.size + 1) < wh.heap.size := Nat.lt_of_lt_of_le (HK.out.lt _ (.tail _ (.tail _ (.tail _ (.tail _ (.tail _ (.head _))))))) hb.size; have hltxrv : w.heap.size < wh.heap.size := Nat.lt_of_lt_of_le (HK.out.lt _ (.tail _ (.tail _ (.tail _ (.tail _ (.tail _ (.tail _ (.head _)))))))) hb.size; have HK2 := Lib.hid (HK.out.res hb ⟨A.k, A.r, A.a, A.b, A.z⟩ hu); clear HK x0 x1 x2 x3 x4 y0 y1 y2 y3 y4 tt0 tt1 tt2 tt3 tt4 dd0 dd1 dd2 dd3 dd4 wh0 wh1 wh2 wh3 wh4 cc0 cc1 cc2 cc3 cc4 kv0 kv1 kv2 kv3 kv4; have HK := HK2; clear HK2; clear hb hu; have x0 := (HK.out.a _ (.tail _ (.tail _ (.tail _ (.tail _ (.tail _ (.tail _ (.tail _ (.head _))))))))).c0; have x1 := (HK.out.a _ (.tail _ (.tail _ (.tail _ (.tail _ (.tail _ (.tail _ (.tail _ (.head _))))))))).c1; have x2 := (HK.out.a _ (.tail _ (.tail _ (.tail _ (.tail _ (.tail _ (.tail _ (.tail _ (.head _))))))))).c2; have x3 := (HK.out.a _ (.tail _ (.tail _ (.tail _ (.tail _ (.tail _ (.tail _ (.tail _ (.head _))))))))).c3; have x4 := (HK.out.a _ (.tail _ (.tail _ (.tail _ (.tail _ (.tail _ (.tail _ (.tail _ (.head _))))))))).c4; have y0 := (HK.out.a _ (.tail _ (.tail _ (.tail _ (.tail _ (.tail _ (.tail _ (.head _)))))))).c0; have y1 := (HK.out.a _ (.tail _ (.tail _ (.tail _ (.tail _ (.tail _ (.tail _ (.head _)))))))).c1; have y2 := (HK.out.a _ (.tail _ (.tail _ (.tail _ (.tail _ (.tail _ (.tail _ (.head _)))))))).c2; have y3 := (HK.out.a _ (.tail _ (.tail _ (.tail _ (.tail _ (.tail _ (.tail _ (.head _)))))))).c3; have y4 := (HK.out.a _ (.tail _ (.tail _ (.tail _ (.tail _ (.tail _ (.tail _ (.head _)))))))).c4; have tt0 := (HK.out.a _ (.tail _ (.tail _ (.tail _ (.tail _ (.tail _ (.head _))))))).c0; have tt1 := (HK.out.a _ (.tail _ (.tail _ (.tail _ (.tail _ (.tail _ (.head _))))))).c1; have tt2 := (HK.out.a _ (.tail _ (.tail _ (.tail _ (.tail _ (.tail _ (.head _))))))).c2; have tt3 := (HK.out.a _ (.tail _ (.tail _ (.tail _ (.tail _ (.tail _ (.head _))))))).c3; have tt4 := (HK.out.a _ (.tail _ (.tail _ (.tail _ (.tail _ (.tail _ (.head _))))))).c4; have dd0 := (HK.out.a _ (.tail _ (.tail _ (.tail _ (.tail _ (.head _)))))).c0; have dd1 := (HK.out.a _ (.tail _ (.tail _ (.tail _ (.tail _ (.head _)))))).c1; have dd2 := (HK.out.a _ (.tail _ (.tail _ (.tail _ (.tail _ (.head _)))))).c2; have dd3 := (HK.out.a _ (.tail _ (.tail _ (.tail _ (.tail _ (.head _)))))).c3; have dd4 := (HK.out.a _ (.tail _ (.tail _ (.tail _ (.tail _ (.head _)))))).c4; have wh0 := (HK.out.a _ (.tail _ (.tail _ (.tail _ (.head _))))).c0; have wh1 := (HK.out.a _ (.tail _ (.tail _ (.tail _ (.head _))))).c1; have wh2 := (HK.out.a _ (.tail _ (.tail _ (.tail _ (.head _))))).c2; have wh3 := (HK.out.a _ (.tail _ (.tail _ (.tail _ (.head _))))).c3; have wh4 := (HK.out.a _ (.tail _ (.tail _ (.tail _ (.head _))))).c4; have cc0 := (HK.out.a _ (.tail _ (.tail _ (.head _)))).c0; have cc1 := (HK.out.a _ (.tail _ (.tail _ (.head _)))).c1; have cc2 := (HK.out.a _ (.tail _ (.tail _ (.head _)))).c2; have cc3 := (HK.out.a _ (.tail _ (.tail _ (.head _)))).c3; have cc4 := (HK.out.a _ (.tail _ (.tail _ (.head _)))).c4; have kv0 := (HK.out.a _ (.tail _ (.head _))).c0; have kv1 := (HK.out.a _ (.tail _ (.head _))).c1; have kv2 := (HK.out.a _ (.tail _ (.head _))).c2; have kv3 := (HK.out.a _ (.tail _ (.head _))).c3; have kv4 := (HK.out.a _ (.tail _ (.head _))).c4; have rv0 := (HK.out.a _ (.head _)).c0; have rv1 := (HK.out.a _ (.head _)).c1; have rv2 := (HK.out.a _ (.head _)).c2; have rv3 := (HK.out.a _ (.head _)).c3; have rv4 := (HK.out.a _ (.head _)).c4)
          | (go_at_call 22; (with_reducible refine (HD2.out _ _ _ (by with_unfolding_all exact HK.out.lay) (by with_unfolding_all exact HK.out.r _ (.tail _ (.head _))) (by with_unfolding_all exact HK.out.r _ (.tail _ (.tail _ (.head _)))) (by with_unfolding_all exact HK.out.n _ (.tail _ (.tail _ (.head _))))).mono ?_); rintro e wi ⟨uwi, rfl, hu, hb⟩; obtain ⟨pwi, cwi, hpwi, _, _⟩ := hu.form; have hqwi : uwi = (.slice pwi B.z.length cwi) := hpwi; subst hqwi; clear hpwi; have hltrvsv : wh.heap.size < wi.heap.size := Nat.lt_of_lt_of_le (HK.out.lt _ (.head _)) hb.size; have hltkvsv : wg.heap.size < wi.heap.size := Nat.lt_of_lt_of_le (HK.out.lt _ (.tail _ (.head _))) hb.size; have hltccsv : wf.heap.size < wi.heap.size := Nat.lt_of_lt_of_le (HK.out.lt _ (.tail _ (.tail _ (.head _)))) hb.size; have hltwhsv : we.heap.size < wi.heap.size := Nat.lt_of_lt_of_le (HK.out.lt _ (.tail _ (.tail _ (.tail _ (.head _))))) hb.size; have hltddsv : gd < wi.heap.size := Nat.lt_of_lt_of_le (HK.out.lt _ (.tail _ (.tail _ (.tail _ (.tail _ (.head _)))))) hb.size; have hltttsv : gt < wi.heap.size := Nat.lt_of_lt_of_le (HK.out.lt _ (.tail _ (.tail _ (.tail _ (.tail _ (.tail _ (.head _))))))) hb.size; have hltysv : (w.heap.size + 1) < wi.heap.size := Nat.lt_of_lt_of_le (HK.out.lt _ (.tail _ (.tail _ (.tail _ (.tail _ (.tail _ (.tail _ (.head _)))))))) hb.size; have hltxsv : w.heap.size < wi.heap.size := Nat.lt_of_lt_of_le (HK.out.lt _ (.tail _ (.tail _ (.tail _ (.tail _ (.tail _ (.tail _ (.tail _ (.head _))))))))) hb.size; have HK2 := Lib.hid (HK.out.res hb ⟨B.k, B.r, B.a, B.b, B.z⟩ hu); clear HK x0 x1 x2 x3 x4 y0 y1 y2 y3 y4 tt0 tt1 tt2 tt3 tt4 dd0 dd1 dd2 dd3 dd4 wh0 wh1 wh2 wh3 wh4 cc0 cc1 cc2 cc3 cc4 kv0 kv1 kv2 kv3 kv4 rv0 rv1 rv2 rv3 rv4; have HK := HK2; clear HK2; clear hb hu; have x0 := (HK.out.a _ (.tail _ (.tail _ (.tail _ (.tail _ (.tail _ (.tail _ (.tail _ (.tail _ (.head _)))))))))).c0; have x1 := (HK.out.a _ (.tail _ (.tail _ (.tail _ (.tail _ (.tail _ (.tail _ (.tail _ (.tail _ (.head _)))))))))).c1; have x2 := (HK.out.a _ (.tail _ (.tail _ (.tail _ (.tail _ (.tail _ (.tail _ (.tail _ (.tail _ (.head _)))))))))).c2; have x3 := (HK.out.a _ (.tail _ (.tail _ (.tail _ (.tail _ (.tail _ (.tail _ (.tail _ (.tail _ (.head _)))))))))).c3; have x4 := (HK.out.a _ (.tail _ (.tail _ (.tail _ (.tail _ (.tail _ (.tail _ (.tail _ (.tail _ (.head _)))))))))).c4; have y0 := (HK.out.a _ (.tail _ (.tail _ (.tail _ (.tail _ (.tail _ (.tail _ (.tail _ (.head _))))))))).c0; have y1 := (HK.out.a _ (.tail _ (.tail _ (.tail _ (.tail _ (.tail _ (.tail _ (.tail _ (.head _))))))))).c1; have y2 := (HK.out.a _ (.tail _ (.tail _ (.tail _ (.tail _ (.tail _ (.tail _ (.tail _ (.head _))))))))).c2; have y3 := (HK.out.a _ (.tail _ (.tail _ (.tail _ (.tail _ (.tail _ (.tail _ (.tail _ (.head _))))))))).c3; have y4 := (HK.out.a _ (.tail _ (.tail _ (.tail _ (.tail _ (.tail _ (.tail _ (.tail _ (.head _))))))))).c4; have tt0 := (HK.out.a _ (.tail _ (.tail _ (.tail _ (.tail _ (.tail _ (.tail _ (.head _)))))))).c0; have tt1 := (HK.out.a _ (.tail _ (.tail _ (.tail _ (.tail _ (.tail _ (.tail _ (.head _)))))))).c1; have tt2 := (HK.out.a _ (.tail _ (.tail _ (.tail _ (.tail _ (.tail _ (.tail _ (.head _)))))))).c2; have tt3 := (HK.out.a _ (.tail _ (.tail _ (.tail _ (.tail _ (.tail _ (.tail _ (.head _)))))))).c3; have tt4 := (HK.out.a _ (.tail _ (.tail _ (.tail _ (.tail _ (.tail _ (.tail _ (.head _)))))))).c4; have dd0 := (HK.out.a _ (.tail _ (.tail _ (.tail _ (.tail _ (.tail _ (.head _))))))).c0; have dd1 := (HK.out.a _ (.tail _ (.tail _ (.tail _ (.tail _ (.tail _ (.head _))))))).c1; have dd2 := (HK.out.a _ (.tail _ (.tail _ (.tail _ (.tail _ (.tail _ (.head _))))))).c2; have dd3 := (HK.out.a _ (.tail _ (.tail _ (.tail _ (.tail _ (.tail _ (.head _))))))).c3; have dd4 := (HK.out.a _ (.tail _ (.tail _ (.tail _ (.tail _ (.tail _ (.head _))))))).c4; have wh0 := (HK.out.a _ (.tail _ (.tail _ (.tail _ (.tail _ (.head _)))))).c0; have wh1 := (HK.out.a _ (.tail _ (.tail _ (.tail _ (.tail _ (.head _)))))).c1; have wh2 := (HK.out.a _ (.tail _ (.tail _ (.tail _ (.tail _ (.head _)))))).c2; have wh3 := (HK.out.a _ (.tail _ (.tail _ (.tail _ (.tail _ (.head _)))))).c3; have wh4 := (HK.out.a _ (.tail _ (.tail _ (.tail _ (.tail _ (.head _)))))).c4; have cc0 := (HK.out.a _ (.tail _ (.tail _ (.tail _ (.head _))))).c0; have cc1 := (HK.out.a _ (.tail _ (.tail _ (.tail _ (.head _))))).c1; have cc2 := (HK.out.a _ (.tail _ (.tail _ (.tail _ (.head _))))).c2; have cc3 := (HK.out.a _ (.tail _ (.tail _ (.tail _ (.head _))))).c3; have cc4 := (HK.out.a _ (.tail _ (.tail _ (.tail _ (.head _))))).c4; have kv0 := (HK.out.a _ (.tail _ (.tail _ (.head _)))).c0; have kv1 := (HK.out.a _ (.tail _ (.tail _ (.head _)))).c1; have kv2 := (HK.out.a _ (.tail _ (.tail _ (.head _)))).c2; have kv3 := (HK.out.a _ (.tail _ (.tail _ (.head _)))).c3; have kv4 := (HK.out.a _ (.tail _ (.tail _ (.head _)))).c4; have rv0 := (HK.out.a _ (.tail _ (.head _))).c0; have rv1 := (HK.out.a _ (.tail _ (.head _))).c1; have rv2 := (HK.out.a _ (.tail _ (.head _))).c2; have rv3 := (HK.out.a _ (.tail _ (.head _))).c3; have rv4 := (HK.out.a _ (.tail _ (.head _))).c4; have sv0 := (HK.out.a _ (.head _)).c0; have sv1 := (HK.out.a _ (.head _)).c1; have sv2 := (HK.out.a _ (.head _)).c2; have sv3 := (HK.out.a _ (.head _)).c3; have sv4 := (HK.out.a _ (.head _)).c4)
          | (go_at_call 32; (with_reducible refine (HIb.out _ _ _ (by with_unfolding_all exact HK.out.r _ (.head _)) (by with_unfolding_all exact HK.out.r _ (.tail _ (.tail _ (.tail _ (.tail _ (.tail _ (.tail _ (.tail _ (.head _)))))))))).mono ?_); rintro e wz ⟨rfl, hb⟩; have HK2 := Lib.hid (HK.out.next hb); clear HK x0 x1 x2 x3 x4 y0 y1 y2 y3 y4 tt0 tt1 tt2 tt3 tt4 dd0 dd1 dd2 dd3 dd4 wh0 wh1 wh2 wh3 wh4 cc0 cc1 cc2 cc3 cc4 kv0 kv1 kv2 kv3 kv4 rv0 rv1 rv2 rv3 rv4 sv0 sv1 sv2 sv3 sv4; have HK := HK2; clear HK2; clear hb; have x0 := (HK.out.a _ (.tail _ (.tail _ (.tail _ (.tail _ (.tail _ (.tail _ (.tail _ (.tail _ (.head _)))))))))).c0; have x1 := (HK.out.a _ (.tail _ (.tail _ (.tail _ (.tail _ (.tail _ (.tail _ (.tail _ (.tail _ (.head _)))))))))).c1; have x2 := (HK.out.a _ (.tail _ (.tail _ (.tail _ (.tail _ (.tail _ (.tail _ (.tail _ (.tail _ (.head _)))))))))).c2; have x3 := (HK.out.a _ (.tail _ (.tail _ (.tail _ (.tail _ (.tail _ (.tail _ (.tail _ (.tail _ (.head _)))))))))).c3; have x4 := (HK.out.a _ (.tail _ (.tail _ (.tail _ (.tail _ (.tail _ (.tail _ (.tail _ (.tail _ (.head _)))))))))).c4; have y0 := (HK.out.a _ (.tail _ (.tail _ (.tail _ (.tail _ (.tail _ (.tail _ (.tail _ (.head _))))))))).c0; have y1 := (HK.out.a _ (.tail _ (.tail _ (.tail _ (.tail _ (.tail _ (.tail _ (.tail _ (.head _))))))))).c1; have y2 := (HK.out.a _ (.tail _ (.tail _ (.tail _ (.tail _ (.tail _ (.tail _ (.tail _ (.head _))))))))).c2; have y3 := (HK.out.a _ (.tail _ (.tail _ (.tail _ (.tail _ (.tail _ (.tail _ (.tail _ (.head _))))))))).c3; have y4 := (HK.out.a _ (.tail _ (.tail _ (.tail _ (.tail _ (.tail _ (.tail _ (.tail _ (.head _))))))))).c4; have tt0 := (HK.out.a _ (.tail _ (.tail _ (.tail _ (.tail _ (.tail _ (.tail _ (.head _)))))))).c0; have tt1 := (HK.out.a _ (.tail _ (.tail _ (.tail _ (.tail _ (.tail _ (.tail _ (.head _)))))))).c1; have tt2 := (HK.out.a _ (.tail _ (.tail _ (.tail _ (.tail _ (.tail _ (.tail _ (.head _)))))))).c2; have tt3 := (HK.out.a _ (.tail _ (.tail _ (.tail _ (.tail _ (.tail _ (.tail _ (.head _)))))))).c3; have tt4 := (HK.out.a _ (.tail _ (.tail _ (.tail _ (.tail _ (.tail _ (.tail _ (.head _)))))))).c4; have dd0 := (HK.out.a _ (.tail _ (.tail _ (.tail _ (.tail _ (.tail _ (.head _))))))).c0; have dd1 := (HK.out.a _ (.tail _ (.tail _ (.tail _ (.tail _ (.tail _ (.head _))))))).c1; have dd2 := (HK.out.a _ (.tail _ (.tail _ (.tail _ (.tail _ (.tail _ (.head _))))))).c2; have dd3 := (HK.out.a _ (.tail _ (.tail _ (.tail _ (.tail _ (.tail _ (.head _))))))).c3; have dd4 := (HK.out.a _ (.tail _ (.tail _ (.tail _ (.tail _ (.tail _ (.head _))))))).c4; have wh0 := (HK.out.a _ (.tail _ (.tail _ (.tail _ (.tail _ (.head _)))))).c0; have wh1 := (HK.out.a _ (.tail _ (.tail _ (.tail _ (.tail _ (.head _)))))).c1; have wh2 := (HK.out.a _ (.tail _ (.tail _ (.tail _ (.tail _ (.head _)))))).c2; have wh3 := (HK.out.a _ (.tail _ (.tail _ (.tail _ (.tail _ (.head _)))))).c3; have wh4 := (HK.out.a _ (.tail _ (.tail _ (.tail _ (.tail _ (.head _)))))).c4; have cc0 := (HK.out.a _ (.tail _ (.tail _ (.tail _ (.head _))))).c0; have cc1 := (HK.out.a _ (.tail _ (.tail _ (.tail _ (.head _))))).c1; have cc2 := (HK.out.a _ (.tail _ (.tail _ (.tail _ (.head _))))).c2; have cc3 := (HK.out.a _ (.tail _ (.tail _ (.tail _ (.head _))))).c3; have cc4 := (HK.out.a _ (.tail _ (.tail _ (.tail _ (.head _))))).c4; have kv0 := (HK.out.a _ (.tail _ (.tail _ (.head _)))).c0; have kv1 := (HK.out.a _ (.tail _ (.tail _ (.head _)))).c1; have kv2 := (HK.out.a _ (.tail _ (.tail _ (.head _)))).c2; have kv3 := (HK.out.a _ (.tail _ (.tail _ (.head _)))).c3; have kv4 := (HK.out.a _ (.tail _ (.tail _ (.head _)))).c4; have rv0 := (HK.out.a _ (.tail _ (.head _))).c0; have rv1 := (HK.out.a _ (.tail _ (.head _))).c1; have rv2 := (HK.out.a _ (.tail _ (.head _))).c2; have rv3 := (HK.out.a _ (.tail _ (.head _))).c3; have rv4 := (HK.out.a _ (.tail _ (.head _))).c4; have sv0 := (HK.out.a _ (.head _)).c0; have sv1 := (HK.out.a _ (.head _)).c1; have sv2 := (HK.out.a _ (.head _)).c2; have sv3 := (HK.out.a _ (.head _)).c3; have sv4 := (HK.out.a _ (.head _)).c4)
          | (go_at_call 32; (with_reducible refine (HIs.out _ _ _ (by with_unfolding_all exact HK.out.r _ (.tail _ (.head _))) (by with_unfolding_all exact HK.out.r _ (.tail _ (.tail _ (.tail _ (.tail _ (.tail _ (.tail _ (.tail _ (.tail _ (.head _))))))))))).mono ?_); rintro e wz ⟨rfl, hb⟩; have HK2 := Lib.hid (HK.out.next hb); clear HK x0 x1 x2 x3 x4 y0 y1 y2 y3 y4 tt0 tt1 tt2 tt3 tt4 dd0 dd1 dd2 dd3 dd4 wh0 wh1 wh2 wh3 wh4 cc0 cc1 cc2 cc3 cc4 kv0 kv1 kv2 kv3 kv4 rv0 rv1 rv2 rv3 rv4 sv0 sv1 sv2 sv3 sv4; have HK := HK2; clear HK2; clear hb; have x0 := (HK.out.a _ (.tail _ (.tail _ (.tail _ (.tail _ (.tail _ (.tail _ (.tail _ (.tail _ (.head _)))))))))).c0; have x1 := (HK.out.a _ (.tail _ (.tail _ (.tail _ (.tail _ (.tail _ (.tail _ (.tail _ (.tail _ (.head _)))))))))).c1; have x2 := (HK.out.a _ (.tail _ (.tail _ (.tail _ (.tail _ (.tail _ (.tail _ (.tail _ (.tail _ (.head _)))))))))).c2; have x3 := (HK.out.a _ (.tail _ (.tail _ (.tail _ (.tail _ (.tail _ (.tail _ (.tail _ (.tail _ (.head _)))))))))).c3; have x4 := (HK.out.a _ (.tail _ (.tail _ (.tail _ (.tail _ (.tail _ (.tail _ (.tail _ (.tail _ (.head _)))))))))).c4; have y0 := (HK.out.a _ (.tail _ (.tail _ (.tail _ (.tail _ (.tail _ (.tail _ (.tail _ (.head _))))))))).c0; have y1 := (HK.out.a _ (.tail _ (.tail _ (.tail _ (.tail _ (.tail _ (.tail _ (.tail _ (.head _))))))))).c1; have y2 := (HK.out.a _ (.tail _ (.tail _ (.tail _ (.tail _ (.tail _ (.tail _ (.tail _ (.head _))))))))).c2; have y3 := (HK.out.a _ (.tail _ (.tail _ (.tail _ (.tail _ (.tail _ (.tail _ (.tail _ (.head _))))))))).c3; have y4 := (HK.out.a _ (.tail _ (.tail _ (.tail _ (.tail _ (.tail _ (.tail _ (.tail _ (.head _))))))))).c4; have tt0 := (HK.out.a _ (.tail _ (.tail _ (.tail _ (.tail _ (.tail _ (.tail _ (.head _)))))))).c0; have tt1 := (HK.out.a _ (.tail _ (.tail _ (.tail _ (.tail _ (.tail _ (.tail _ (.head _)))))))).c1; have tt2 := (HK.out.a _ (.tail _ (.tail _ (.tail _ (.tail _ (.tail _ (.tail _ (.head _)))))))).c2; have tt3 := (HK.out.a _ (.tail _ (.tail _ (.tail _ (.tail _ (.tail _ (.tail _ (.head _)))))))).c3; have tt4 := (HK.out.a _ (.tail _ (.tail _ (.tail _ (.tail _ (.tail _ (.tail _ (.head _)))))))).c4; have dd0 := (HK.out.a _ (.tail _ (.tail _ (.tail _ (.tail _ (.tail _ (.head _))))))).c0; have dd1 := (HK.out.a _ (.tail _ (.tail _ (.tail _ (.tail _ (.tail _ (.head _))))))).c1; have dd2 := (HK.out.a _ (.tail _ (.tail _ (.tail _ (.tail _ (.tail _ (.head _))))))).c2; have dd3 := (HK.out.a _ (.tail _ (.tail _ (.tail _ (.tail _ (.tail _ (.head _))))))).c3; have dd4 := (HK.out.a _ (.tail _ (.tail _ (.tail _ (.tail _ (.tail _ (.head _))))))).c4; have wh0 := (HK.out.a _ (.tail _ (.tail _ (.tail _ (.tail _ (.head _)))))).c0; have wh1 := (HK.out.a _ (.tail _ (.tail _ (.tail _ (.tail _ (.head _)))))).c1; have wh2 := (HK.out.a _ (.tail _ (.tail _ (.tail _ (.tail _ (.head _)))))).c2; have wh3 := (HK.out.a _ (.tail _ (.tail _ (.tail _ (.tail _ (.head _)))))).c3; have wh4 := (HK.out.a _ (.tail _ (.tail _ (.tail _ (.tail _ (.head _)))))).c4; have cc0 := (HK.out.a _ (.tail _ (.tail _ (.tail _ (.head _))))).c0; have cc1 := (HK.out.a _ (.tail _ (.tail _ (.tail _ (.head _))))).c1; have cc2 := (HK.out.a _ (.tail _ (.tail _ (.tail _ (.head _))))).c2; have cc3 := (HK.out.a _ (.tail _ (.tail _ (.tail _ (.head _))))).c3; have cc4 := (HK.out.a _ (.tail _ (.tail _ (.tail _ (.head _))))).c4; have kv0 := (HK.out.a _ (.tail _ (.tail _ (.head _)))).c0; have kv1 := (HK.out.a _ (.tail _ (.tail _ (.head _)))).c1; have kv2 := (HK.out.a _ (.tail _ (.tail _ (.head _)))).c2; have kv3 := (HK.out.a _ (.tail _ (.tail _ (.head _)))).c3; have kv4 := (HK.out.a _ (.tail _ (.tail _ (.head _)))).c4; have rv0 := (HK.out.a _ (.tail _ (.head _))).c0; have rv1 := (HK.out.a _ (.tail _ (.head _))).c1; have rv2 := (HK.out.a _ (.tail _ (.head _))).c2; have rv3 := (HK.out.a _ (.tail _ (.head _))).c3; have rv4 := (HK.out.a _ (.tail _ (.head _))).c4; have sv0 := (HK.out.a _ (.head _)).c0; have sv1 := (HK.out.a _ (.head _)).c1; have sv2 := (HK.out.a _ (.head _)).c2; have sv3 := (HK.out.a _ (.head _)).c3; have sv4 := (HK.out.a _ (.head _)).c4)
          | (go_at_call 32; (with_reducible refine (HIs.out _ _ _ (by with_unfolding_all exact HK.out.r _ (.head _)) (by with_unfolding_all exact HK.out.r _ (.tail _ (.tail _ (.tail _ (.tail _ (.head _))))))).mono ?_); rintro e wz ⟨rfl, hb⟩; have HK2 := Lib.hid (HK.out.next hb); clear HK x0 x1 x2 x3 x4 y0 y1 y2 y3 y4 tt0 tt1 tt2 tt3 tt4 dd0 dd1 dd2 dd3 dd4 wh0 wh1 wh2 wh3 wh4; have HK := HK2; clear HK2; clear hb; have x0 := (HK.out.a _ (.tail _ (.tail _ (.tail _ (.tail _ (.head _)))))).c0; have x1 := (HK.out.a _ (.tail _ (.tail _ (.tail _ (.tail _ (.head _)))))).c1; have x2 := (HK.out.a _ (.tail _ (.tail _ (.tail _ (.tail _ (.head _)))))).c2; have x3 := (HK.out.a _ (.tail _ (.tail _ (.tail _ (.tail _ (.head _)))))).c3; have x4 := (HK.out.a _ (.tail _ (.tail _ (.tail _ (.tail _ (.head _)))))).c4; have y0 := (HK.out.a _ (.tail _ (.tail _ (.tail _ (.head _))))).c0; have y1 := (HK.out.a _ (.tail _ (.tail _ (.tail _ (.head _))))).c1; have y2 := (HK.out.a _ (.tail _ (.tail _ (.tail _ (.head _))))).c2; have y3 := (HK.out.a _ (.tail _ (.tail _ (.tail _ (.head _))))).c3; have y4 := (HK.out.a _ (.tail _ (.tail _ (.tail _ (.head _))))).c4; have tt0 := (HK.out.a _ (.tail _ (.tail _ (.head _)))).c0; have tt1 := (HK.out.a _ (.tail _ (.tail _ (.head _)))).c1; have tt2 := (HK.out.a _ (.tail _ (.tail _ (.head _)))).c2; have tt3 := (HK.out.a _ (.tail _ (.tail _ (.head _)))).c3; have tt4 := (HK.out.a _ (.tail _ (.tail _ (.head _)))).c4; have dd0 := (HK.out.a _ (.tail _ (.head _))).c0; have dd1 := (HK.out.a _ (.tail _ (.head _))).c1; have dd2 := (HK.out.a _ (.tail _ (.head _))).c2; have dd3 := (HK.out.a _ (.tail _ (.head _))).c3; have dd4 := (HK.out.a _ (.tail _ (.head _))).c4; have wh0 := (HK.out.a _ (.head _)).c0; have wh1 := (HK.out.a _ (.head _)).c1; have wh2 := (HK.out.a _ (.head _)).c2; have wh3 := (HK.out.a _ (.head _)).c3; have wh4 := (HK.out.a _ (.head _)).c4)
          | (go_at_call 12; (with_reducible refine (HAw.out _ (by with_unfolding_all exact HK.out.lay)).mono ?_); rintro e wz ⟨rfl, hb⟩; have HK2 := Lib.hid (HK.out.next hb); clear HK x0 x1 x2 x3 x4 y0 y1 y2 y3 y4 tt0 tt1 tt2 tt3 tt4 dd0 dd1 dd2 dd3 dd4 wh0 wh1 wh2 wh3 wh4 cc0 cc1 cc2 cc3 cc4 kv0 kv1 kv2 kv3 kv4 rv0 rv1 rv2 rv3 rv4 sv0 sv1 sv2 sv3 sv4; have HK := HK2; clear HK2; clear hb; have x0 := (HK.out.a _ (.tail _ (.tail _ (.tail _ (.tail _ (.tail _ (.tail _ (.tail _ (.tail _ (.head _)))))))))).c0; have x1 := (HK.out.a _ (.tail _ (.tail _ (.tail _ (.tail _ (.tail _ (.tail _ (.tail _ (.tail _ (.head _)))))))))).c1; have x2 := (HK.out.a _ (.tail _ (.tail _ (.tail _ (.tail _ (.tail _ (.tail _ (.tail _ (.tail _ (.head _)))))))))).c2; have x3 := (HK.out.a _ (.tail _ (.tail _ (.tail _ (.tail _ (.tail _ (.tail _ (.tail _ (.tail _ (.head _)))))))))).c3; have x4 := (HK.out.a _ (.tail _ (.tail _ (.tail _ (.tail _ (.tail _ (.tail _ (.tail _ (.tail _ (.head _)))))))))).c4; have y0 := (HK.out.a _ (.tail _ (.tail _ (.tail _ (.tail _ (.tail _ (.tail _ (.tail _ (.head _))))))))).c0; have y1 := (HK.out.a _ (.tail _ (.tail _ (.tail _ (.tail _ (.tail _ (.tail _ (.tail _ (.head _))))))))).c1; have y2 := (HK.out.a _ (.tail _ (.tail _ (.tail _ (.tail _ (.tail _ (.tail _ (.tail _ (.head _))))))))).c2; have y3 := (HK.out.a _ (.tail _ (.tail _ (.tail _ (.tail _ (.tail _ (.tail _ (.tail _ (.head _))))))))).c3; have y4 := (HK.out.a _ (.tail _ (.tail _ (.tail _ (.tail _ (.tail _ (.tail _ (.tail _ (.head _))))))))).c4; have tt0 := (HK.out.a _ (.tail _ (.tail _ (.tail _ (.tail _ (.tail _ (.tail _ (.head _)))))))).c0; have tt1 := (HK.out.a _ (.tail _ (.tail _ (.tail _ (.tail _ (.tail _ (.tail _ (.head _)))))))).c1; have tt2 := (HK.out.a _ (.tail _ (.tail _ (.tail _ (.tail _ (.tail _ (.tail _ (.head _)))))))).c2; have tt3 := (HK.out.a _ (.tail _ (.tail _ (.tail _ (.tail _ (.tail _ (.tail _ (.head _)))))))).c3; have tt4 := (HK.out.a _ (.tail _ (.tail _ (.tail _ (.tail _ (.tail _ (.tail _ (.head _)))))))).c4; have dd0 := (HK.out.a _ (.tail _ (.tail _ (.tail _ (.tail _ (.tail _ (.head _))))))).c0; have dd1 := (HK.out.a _ (.tail _ (.tail _ (.tail _ (.tail _ (.tail _ (.head _))))))).c1; have dd2 := (HK.out.a _ (.tail _ (.tail _ (.tail _ (.tail _ (.tail _ (.head _))))))).c2; have dd3 := (HK.out.a _ (.tail _ (.tail _ (.tail _ (.tail _ (.tail _ (.head _))))))).c3; have dd4 := (HK.out.a _ (.tail _ (.tail _ (.tail _ (.tail _ (.tail _ (.head _))))))).c4; have wh0 := (HK.out.a _ (.tail _ (.tail _ (.tail _ (.tail _ (.head _)))))).c0; have wh1 := (HK.out.a _ (.tail _ (.tail _ (.tail _ (.tail _ (.head _)))))).c1; have wh2 := (HK.out.a _ (.tail _ (.tail _ (.tail _ (.tail _ (.head _)))))).c2; have wh3 := (HK.out.a _ (.tail _ (.tail _ (.tail _ (.tail _ (.head _)))))).c3; have wh4 := (HK.out.a _ (.tail _ (.tail _ (.tail _ (.tail _ (.head _)))))).c4; have cc0 := (HK.out.a _ (.tail _ (.tail _ (.tail _ (.head _))))).c0; have cc1 := (HK.out.a _ (.tail _ (.tail _ (.tail _ (.head _))))).c1; have cc2 := (HK.out.a _ (.tail _ (.tail _ (.tail _ (.head _))))).c2; have cc3 := (HK.out.a _ (.tail _ (.tail _ (.tail _ (.head _))))).c3; have cc4 := (HK.out.a _ (.tail _ (.tail _ (.tail _ (.head _))))).c4; have kv0 := (HK.out.a _ (.tail _ (.tail _ (.head _)))).c0; have kv1 := (HK.out.a _ (.tail _ (.tail _ (.head _)))).c1; have kv2 := (HK.out.a _ (.tail _ (.tail _ (.head _)))).c2; have kv3 := (HK.out.a _ (.tail _ (.tail _ (.head _)))).c3; have kv4 := (HK.out.a _ (.tail _ (.tail _ (.head _)))).c4; have rv0 := (HK.out.a _ (.tail _ (.head _))).c0; have rv1 := (HK.out.a _ (.tail _ (.head _))).c1; have rv2 := (HK.out.a _ (.tail _ (.head _))).c2; have rv3 := (HK.out.a _ (.tail _ (.head _))).c3; have rv4 := (HK.out.a _ (.tail _ (.head _))).c4; have sv0 := (HK.out.a _ (.head _)).c0; have sv1 := (HK.out.a _ (.head _)).c1; have sv2 := (HK.out.a _ (.head _)).c2; have sv3 := (HK.out.a _ (.head _)).c3; have sv4 := (HK.out.a _ (.head _)).c4)
          | fail)
        go_ret
        exact ⟨rfl, HK.out.bel⟩
      · have HC1 := Lib.hid (HCp.out (by omega))
        have k2 : decide (n < 0) = false := decide_eq_false hn
        clear HCn HCp hn
        have x0 := (HK.out.a _ (.tail _ (.tail _ (.tail _ (.head _))))).c0
        have x1 := (HK.out.a _ (.tail _ (.tail _ (.tail _ (.head _))))).c1
        have x2 := (HK.out.a _ (.tail _ (.tail _ (.tail _ (.head _))))).c2
        have x3 := (HK.out.a _ (.tail _ (.tail _ (.tail _ (.head _))))).c3
        have x4 := (HK.out.a _ (.tail _ (.tail _ (.tail _ (.head _))))).c4
        have y0 := (HK.out.a _ (.tail _ (.tail _ (.head _)))).c0
        have y1 := (HK.out.a _ (.tail _ (.tail _ (.head _)))).c1
        have y2 := (HK.out.a _ (.tail _ (.tail _ (.head _)))).c2
        have y3 := (HK.out.a _ (.tail _ (.tail _ (.head _)))).c3
        have y4 := (HK.out.a _ (.tail _ (.tail _ (.head _)))).c4
        have tt0 := (HK.out.a _ (.tail _ (.head _))).c0
        have tt1 := (HK.out.a _ (.tail _ (.head _))).c1
        have tt2 := (HK.out.a _ (.tail _ (.head _))).c2
        have tt3 := (HK.out.a _ (.tail _ (.head _))).c3
        have tt4 := (HK.out.a _ (.tail _ (.head _))).c4
        have dd0 := (HK.out.a _ (.head _)).c0
        have dd1 := (HK.out.a _ (.head _)).c1
        have dd2 := (HK.out.a _ (.head _)).c2
        have dd3 := (HK.out.a _ (.head _)).c3
        have dd4 := (HK.out.a _ (.head _)).c4
        by_cases he : ctE A B = 0
        rotate_left
        · generalize ctE A B = E at he HC2
          generalize ctV A B = C at HC2
          obtain ⟨j1, j2, j3, j4, j5⟩ := C
          have k3 : (E != 0) = true := by simpa using he
          clear he HP2 HL2 HLa
          go_wp2_with (first
            | (go_at_call 28; (with_reducible refine (HC1.out _ _ _ (by with_unfolding_all exact HK.out.lay) (by with_unfolding_all exact HK.out.r _ (.tail _ (.head _))) (by with_unfolding_all exact HK.out.r _ (.head _)) (by with_unfolding_all exact HK.out.n _ (.tail _ (.head _))) (by with_unfolding_all exact HK.out.n _ (.head _))).mono ?_); rintro e we ⟨uwe, rfl, hu, hb⟩; obtain ⟨pwe, cwe, hpwe, _, _⟩ := hu.form; have hqwe : uwe = (.slice pwe A.z.length cwe) := hpwe; subst hqwe; clear hpwe; have hltddwh : gd < we.heap.size := Nat.lt_of_lt_of_le (HK.out.lt _ (.head _)) hb.size; have hltttwh : gt < we.heap.size := Nat.lt_of_lt_of_le (HK.out.lt _ (.tail _ (.head _))) hb.size; have hltywh : (w.heap.size + 1) < we.heap.size := Nat.lt_of_lt_of_le (HK.out.lt _ (.tail _ (.tail _ (.head _)))) hb.size; have hltxwh : w.heap.size < we.heap.size := Nat.lt_of_lt_of_le (HK.out.lt _ (.tail _ (.tail _ (.tail _ (.head _))))) hb.size; have HK2 := Lib.hid (HK.out.res hb ⟨A.k, A.r, A.a, A.b, A.z⟩ hu); clear HK x0 x1 x2 x3 x4 y0 y1 y2 y3 y4 tt0 tt1 tt2 tt3 tt4 dd0 dd1 dd2 dd3 dd4; have HK := HK2; clear HK2; clear hb hu; have x0 := (HK.out.a _ (.tail _ (.tail _ (.tail _ (.tail _ (.head _)))))).c0; have x1 := (HK.out.a _ (.tail _ (.tail _ (.tail _ (.tail _ (.head _)))))).c1; have x2 := (HK.out.a _ (.tail _ (.tail _ (.tail _ (.tail _ (.head _)))))).c2; have x3 := (HK.out.a _ (.tail _ (.tail _ (.tail _ (.tail _ (.head _)))))).c3; have x4 := (HK.out.a _ (.tail _ (.tail _ (.tail _ (.tail _ (.head _)))))).c4; have y0 := (HK.out.a _ (.tail _ (.tail _ (.tail _ (.head _))))).c0; have y1 := (HK.out.a _ (.tail _ (.tail _ (.tail _ (.head _))))).c1; have y2 := (HK.out.a _ (.tail _ (.tail _ (.tail _ (.head _))))).c2; have y3 := (HK.out.a _ (.tail _ (.tail _ (.tail _ (.head _))))).c3; have y4 := (HK.out.a _ (.tail _ (.tail _ (.tail _ (.head _))))).c4; have tt0 := (HK.out.a _ (.tail _ (.tail _ (.head _)))).c0; have tt1 := (HK.out.a _ (.tail _ (.tail _ (.head _)))).c1; have tt2 := (HK.out.a _ (.tail _ (.tail _ (.head _)))).c2; have tt3 := (HK.out.a _ (.tail _ (.tail _ (.head _)))).c3; have tt4 := (HK.out.a _ (.tail _ (.tail _ (.head _)))).c4; have dd0 := (HK.out.a _ (.tail _ (.head _))).c0; have dd1 := (HK.out.a _ (.tail _ (.head _))).c1; have dd2 := (HK.out.a _ (.tail _ (.head _))).c2; have dd3 := (HK.out.a _ (.tail _ (.head _))).c3; have dd4 := (HK.out.a _ (.tail _ (.head _))).c4; have wh0 := (HK.out.a _ (.head _)).c0; have wh1 := (HK.out.a _ (.head _)).c1; have wh2 := (HK.out.a _ (.head _)).c2; have wh3 := (HK.out.a _ (.head _)).c3; have wh4 := (HK.out.a _ (.head _)).c4)
            | (go_at_call 28; (with_reducible refine (HC2.out _ (by with_unfolding_all exact HK.out.lay) (by with_unfolding_all exact HK.out.r _ (.tail _ (.tail _ (.tail _ (.tail _ (.head _)))))) (by with_unfolding_all exact HK.out.r _ (.tail _ (.tail _ (.tail _ (.head _)))))).mono ?_); rintro e wf ⟨uwf, rfl, hu, hb⟩; obtain ⟨pwf, cwf, hpwf, _, _⟩ := hu.form; have hqwf : uwf = (.slice pwf j5.length cwf) := hpwf; subst hqwf; clear hpwf; have hltwhcc : we.heap.size < wf.heap.size := Nat.lt_of_lt_of_le (HK.out.lt _ (.head _)) hb.size; have hltddcc : gd < wf.heap.size := Nat.lt_of_lt_of_le (HK.out.lt _ (.tail _ (.head _))) hb.size; have hltttcc : gt < wf.heap.size := Nat.lt_of_lt_of_le (HK.out.lt _ (.tail _ (.tail _ (.head _)))) hb.size; have hltycc : (w.heap.size + 1) < wf.heap.size := Nat.lt_of_lt_of_le (HK.out.lt _ (.tail _ (.tail _ (.tail _ (.head _))))) hb.size; have hltxcc : w.heap.size < wf.heap.size := Nat.lt_of_lt_of_le (HK.out.lt _ (.tail _ (.tail _ (.tail _ (.tail _ (.head _)))))) hb.size; have HK2 := Lib.hid (HK.out.res hb ⟨j1, j2, j3, j4, j5⟩ hu); clear HK x0 x1 x2 x3 x4 y0 y1 y2 y3 y4 tt0 tt1 tt2 tt3 tt4 dd0 dd1 dd2 dd3 dd4 wh0 wh1 wh2 wh3 wh4; have HK := HK2; clear HK2; clear hb hu; have x0 := (HK.out.a _ (.tail _ (.tail _ (.tail _ (.tail _ (.tail _ (.head _))))))).c0; have x1 := (HK.out.a _ (.tail _ (.tail _ (.tail _ (.tail _ (.tail _ (.head _))))))).c1; have x2 := (HK.out.a _ (.tail _ (.tail _ (.tail _ (.tail _ (.tail _ (.head _))))))).c2; have x3 := (HK.out.a _ (.tail _ (.tail _ (.tail _ (.tail _ (.tail _ (.head _))))))).c3; have x4 := (HK.out.a _ (.tail _ (.tail _ (.tail _ (.tail _ (.tail _ (.head _))))))).c4; have y0 := (HK.out.a _ (.tail _ (.tail _ (.tail _ (.tail _ (.head _)))))).c0; have y1 := (HK.out.a _ (.tail _ (.tail _ (.tail _ (.tail _ (.head _)))))).c1; have y2 := (HK.out.a _ (.tail _ (.tail _ (.tail _ (.tail _ (.head _)))))).c2; have y3 := (HK.out.a _ (.tail _ (.tail _ (.tail _ (.tail _ (.head _)))))).c3; have y4 := (HK.out.a _ (.tail _ (.tail _ (.tail _ (.tail _ (.head _)))))).c4; have tt0 := (HK.out.a _ (.tail _ (.tail _ (.tail _ (.head _))))).c0; have tt1 := (HK.out.a _ (.tail _ (.tail _ (.tail _ (.head _))))).c1; have tt2 := (HK.out.a _ (.tail _ (.tail _ (.tail _ (.head _))))).c2; have tt3 := (HK.out.a _ (.tail _ (.tail _ (.tail _ (.head _))))).c3; have tt4 := (HK.out.a _ (.tail _ (.tail _ (.tail _ (.head _))))).c4; have dd0 := (HK.out.a _ (.tail _ (.tail _ (.head _)))).c0; have dd1 := (HK.out.a _ (.tail _ (.tail _ (.head _)))).c1; have dd2 := (HK.out.a _ (.tail _ (.tail _ (.head _)))).c2; have dd3 := (HK.out.a _ (.tail _ (.tail _ (.head _)))).c3; have dd4 := (HK.out.a _ (.tail _ (.tail _ (.head _)))).c4; have wh0 := (HK.out.a _ (.tail _ (.head _))).c0; have wh1 := (HK.out.a _ (.tail _ (.head _))).c1; have wh2 := (HK.out.a _ (.tail _ (.head _))).c2; have wh3 := (HK.out.a _ (.tail _ (.head _))).c3; have wh4 := (HK.out.a _ (.tail _ (.head _))).c4; have cc0 := (HK.out.a _ (.head _)).c0; have cc1 := (HK.out.a _ (.head _)).c1; have cc2 := (HK.out.a _ (.head _)).c2; have cc3 := (HK.out.a _ (.head _)).c3; have cc4 := (HK.out.a _ (.head _)).c4)
            | (go_at_call 32; (with_reducible refine (HIs.out _ _ _ (by with_unfolding_all exact HK.out.r _ (.head _)) (by with_unfolding_all exact HK.out.r _ (.tail _ (.tail _ (.tail _ (.tail _ (.head _))))))).mono ?_); rintro e wz ⟨rfl, hb⟩; have HK2 := Lib.hid (HK.out.next hb); clear HK x0 x1 x2 x3 x4 y0 y1 y2 y3 y4 tt0 tt1 tt2 tt3 tt4 dd0 dd1 dd2 dd3 dd4 wh0 wh1 wh2 wh3 wh4; have HK := HK2; clear HK2; clear hb; have x0 := (HK.out.a _ (.tail _ (.tail _ (.tail _ (.tail _ (.head _)))))).c0; have x1 := (HK.out.a _ (.tail _ (.tail _ (.tail _ (.tail _ (.head _)))))).c1; have x2 := (HK.out.a _ (.tail _ (.tail _ (.tail _ (.tail _ (.head _)))))).c2; have x3 := (HK.out.a _ (.tail _ (.tail _ (.tail _ (.tail _ (.head _)))))).c3; have x4 := (HK.out.a _ (.tail _ (.tail _ (.tail _ (.tail _ (.head _)))))).c4; have y0 := (HK.out.a _ (.tail _ (.tail _ (.tail _ (.head _))))).c0; have y1 := (HK.out.a _ (.tail _ (.tail _ (.tail _ (.head _))))).c1; have y2 := (HK.out.a _ (.tail _ (.tail _ (.tail _ (.head _))))).c2; have y3 := (HK.out.a _ (.tail _ (.tail _ (.tail _ (.head _))))).c3; have y4 := (HK.out.a _ (.tail _ (.tail _ (.tail _ (.head _))))).c4; have tt0 := (HK.out.a _ (.tail _ (.tail _ (.head _)))).c0; have tt1 := (HK.out.a _ (.tail _ (.tail _ (.head _)))).c1; have tt2 := (HK.out.a _ (.tail _ (.tail _ (.head _)))).c2; have tt3 := (HK.out.a _ (.tail _ (.tail _ (.head _)))).c3; have tt4 := (HK.out.a _ (.tail _ (.tail _ (.head _)))).c4; have dd0 := (HK.out.a _ (.tail _ (.head _))).c0; have dd1 := (HK.out.a _ (.tail _ (.head _))).c1; have dd2 := (HK.out.a _ (.tail _ (.head _))).c2; have dd3 := (HK.out.a _ (.tail _ (.head _))).c3; have dd4 := (HK.out.a _ (.tail _ (.head _))).c4; have wh0 := (HK.out.a _ (.head _)).c0; have wh1 := (HK.out.a _ (.head _)).c1; have wh2 := (HK.out.a _ (.head _)).c2; have wh3 := (HK.out.a _ (.head _)).c3; have wh4 := (HK.out.a _ (.head _)).c4)
            | (go_at_call 12; (with_reducible refine (HAw.out _ (by with_unfolding_all exact HK.out.lay)).mono ?_); rintro e wz ⟨rfl, hb⟩; have HK2 := Lib.hid (HK.out.next hb); clear HK x0 x1 x2 x3 x4 y0 y1 y2 y3 y4 tt0 tt1 tt2 tt3 tt4 dd0 dd1 dd2 dd3 dd4 wh0 wh1 wh2 wh3 wh4 cc0 cc1 cc2 cc3 cc4; have HK := HK2; clear HK2; clear hb; have x0 := (HK.out.a _ (.tail _ (.tail _ (.tail _ (.tail _ (.tail _ (.head _))))))).c0; have x1 := (HK.out.a _ (.tail _ (.tail _ (.tail _ (.tail _ (.tail _ (.head _))))))).c1; have x2 := (HK.out.a _ (.tail _ (.tail _ (.tail _ (.tail _ (.tail _ (.head _))))))).c2; have x3 := (HK.out.a _ (.tail _ (.tail _ (.tail _ (.tail _ (.tail _ (.head _))))))).c3; have x4 := (HK.out.a _ (.tail _ (.tail _ (.tail _ (.tail _ (.tail _ (.head _))))))).c4; have y0 := (HK.out.a _ (.tail _ (.tail _ (.tail _ (.tail _ (.head _)))))).c0; have y1 := (HK.out.a _ (.tail _ (.tail _ (.tail _ (.tail _ (.head _)))))).c1; have y2 := (HK.out.a _ (.tail _ (.tail _ (.tail _ (.tail _ (.head _)))))).c2; have y3 := (HK.out.a _ (.tail _ (.tail _ (.tail _ (.tail _ (.head _)))))).c3; have y4 := (HK.out.a _ (.tail _ (.tail _ (.tail _ (.tail _ (.head _)))))).c4; have tt0 := (HK.out.a _ (.tail _ (.tail _ (.tail _ (.head _))))).c0; have tt1 := (HK.out.a _ (.tail _ (.tail _ (.tail _ (.head _))))).c1; have tt2 := (HK.out.a _ (.tail _ (.tail _ (.tail _ (.head _))))).c2; have tt3 := (HK.out.a _ (.tail _ (.tail _ (.tail _ (.head _))))).c3; have tt4 := (HK.out.a _ (.tail _ (.tail _ (.tail _ (.head _))))).c4; have dd0 := (HK.out.a _ (.tail _ (.tail _ (.head _)))).c0; have dd1 := (HK.out.a _ (.tail _ (.tail _ (.head _)))).c1; have dd2 := (HK.out.a _ (.tail _ (.tail _ (.head _)))).c2; have dd3 := (HK.out.a _ (.tail _ (.tail _ (.head _)))).c3; have dd4 := (HK.out.a _ (.tail _ (.tail _ (.head _)))).c4; have wh0 := (HK.out.a _ (.tail _ (.head _))).c0; have wh1 := (HK.out.a _ (.tail _ (.head _))).c1; have wh2 := (HK.out.a _ (.tail _ (.head _))).c2; have wh3 := (HK.out.a _ (.tail _ (.head _))).c3; have wh4 := (HK.out.a _ (.tail _ (.head _))).c4; have cc0 := (HK.out.a _ (.head _)).c0; have cc1 := (HK.out.a _ (.head _)).c1; have cc2 := (HK.out.a _ (.head _)).c2; have cc3 := (HK.out.a _ (.head _)).c3; have cc4 := (HK.out.a _ (.head _)).c4)
            | fail)
          go_ret
          exact ⟨rfl, HK.out.bel⟩
        obtain ⟨f0, f1, f2⟩ := HP2.out he
        have hl2 := HL2.out he
        have HT2 : Hid (∀ (v u : Value) (W : World), Ru.Lay W → RdI W.heap.size W v [(A.z.length : Int)] → RdI W.heap.size W u (ctV A B).z → Ru.NilC u → Calls Tryd.prog 20 #[A5 1 0 0 0 v, A5 (ctV A B).k (ctV A B).r (ctV A B).a (ctV A B).b u] W (RetE A 0 W)) := fun v u W q1 q2 q3 q4 => by
          have := mtake_any (inA A.z.length) (ctV A B) v u W q1 q2 q3 q4 (by simp [inA]) hl2 HLa.out
          rwa [f0, f1] at this
        have HD2 : Hid (∀ (v u : Value) (W : World), Ru.Lay W → RdI W.heap.size W v [(A.z.length : Int)] → RdI W.heap.size W u (ctV A B).z → Ru.NilC u → Calls Tryd.prog 22 #[A5 1 0 0 0 v, A5 (ctV A B).k (ctV A B).r (ctV A B).a (ctV A B).b u] W (RetE B 0 W)) := fun v u W q1 q2 q3 q4 => by
          have := mdrop_any (inA A.z.length) (ctV A B) v u W q1 q2 q3 q4 (by simp [inA]) hl2 HLa.out
          rwa [f0, f2] at this
        have HI2 : Hid (∀ W, Calls Tryd.prog 34 #[.int .i64 (A.z.length : Int)] W (RetA ⟨1, 0, 0, 0, [(A.z.length : Int)]⟩ W)) := fun W => lint_any (A.z.length : Int) W
        rw [he] at HC2
        generalize ctV A B = C at HC2 HT2 HD2
        obtain ⟨j1, j2, j3, j4, j5⟩ := C
        clear he HP2 HL2 HLa f0 f1 f2 hl2
        go_wp2_with (first
          | (go_at_call 28; (with_reducible refine (HC1.out _ _ _ (by with_unfolding_all exact HK.out.lay) (by with_unfolding_all exact HK.out.r _ (.tail _ (.head _))) (by with_unfolding_all exact HK.out.r _ (.head _)) (by with_unfolding_all exact HK.out.n _ (.tail _ (.head _))) (by with_unfolding_all exact HK.out.n _ (.head _))).mono ?_); rintro e we ⟨uwe, rfl, hu, hb⟩; obtain ⟨pwe, cwe, hpwe, _, _⟩ := hu.form; have hqwe : uwe = (.slice pwe A.z.length cwe) := hpwe; subst hqwe; clear hpwe; have hltddwh : gd < we.heap.size := Nat.lt_of_lt_of_le (HK.out.lt _ (.head _)) hb.size; have hltttwh : gt < we.heap.size := Nat.lt_of_lt_of_le (HK.out.lt _ (.tail _ (.head _))) hb.size; have hltywh : (w.heap.size + 1) < we.heap.size := Nat.lt_of_lt_of_le (HK.out.lt _ (.tail _ (.tail _ (.head _)))) hb.size; have hltxwh : w.heap.size < we.heap.size := Nat.lt_of_lt_of_le (HK.out.lt _ (.tail _ (.tail _ (.tail _ (.head _))))) hb.size; have HK2 := Lib.hid (HK.out.res hb ⟨A.k, A.r, A.a, A.b, A.z⟩ hu); clear HK x0 x1 x2 x3 x4 y0 y1 y2 y3 y4 tt0 tt1 tt2 tt3 tt4 dd0 dd1 dd2 dd3 dd4; have HK := HK2; clear HK2; clear hb hu; have x0 := (HK.out.a _ (.tail _ (.tail _ (.tail _ (.tail _ (.head _)))))).c0; have x1 := (HK.out.a _ (.tail _ (.tail _ (.tail _ (.tail _ (.head _)))))).c1; have x2 := (HK.out.a _ (.tail _ (.tail _ (.tail _ (.tail _ (.head _)))))).c2; have x3 := (HK.out.a _ (.tail _ (.tail _ (.tail _ (.tail _ (.head _)))))).c3; have x4 := (HK.out.a _ (.tail _ (.tail _ (.tail _ (.tail _ (.head _)))))).c4; have y0 := (HK.out.a _ (.tail _ (.tail _ (.tail _ (.head _))))).c0; have y1 := (HK.out.a _ (.tail _ (.tail _ (.tail _ (.head _))))).c1; have y2 := (HK.out.a _ (.tail _ (.tail _ (.tail _ (.head _))))).c2; have y3 := (HK.out.a _ (.tail _ (.tail _ (.tail _ (.head _))))).c3; have y4 := (HK.out.a _ (.tail _ (.tail _ (.tail _ (.head _))))).c4; have tt0 := (HK.out.a _ (.tail _ (.tail _ (.head _)))).c0; have tt1 := (HK.out.a _ (.tail _ (.tail _ (.head _)))).c1; have tt2 := (HK.out.a _ (.tail _ (.tail _ (.head _)))).c2; have tt3 := (HK.out.a _ (.tail _ (.tail _ (.head _)))).c3; have tt4 := (HK.out.a _ (.tail _ (.tail _ (.head _)))).c4; have dd0 := (HK.out.a _ (.tail _ (.head _))).c0; have dd1 := (HK.out.a _ (.tail _ (.head _))).c1; have dd2 := (HK.out.a _ (.tail _ (.head _))).c2; have dd3 := (HK.out.a _ (.tail _ (.head _))).c3; have dd4 := (HK.out.a _ (.tail _ (.head _))).c4; have wh0 := (HK.out.a _ (.head _)).c0; have wh1 := (HK.out.a _ (.head _)).c1; have wh2 := (HK.out.a _ (.head _)).c2; have wh3 := (HK.out.a _ (.head _)).c3; have wh4 := (HK.out.a _ (.head _)).c4)
          | (go_at_call 28; (with_reducible refine (HC2.out _ (by with_unfolding_all exact HK.out.lay) (by with_unfolding_all exact HK.out.r _ (.tail _ (.tail _ (.tail _ (.tail _ (.head _)))))) (by with_unfolding_all exact HK.out.r _ (.tail _ (.tail _ (.tail _ (.head _)))))).mono ?_); rintro e wf ⟨uwf, rfl, hu, hb⟩; obtain ⟨pwf, cwf, hpwf, _, _⟩ := hu.form; have hqwf : uwf = (.slice pwf j5.length cwf) := hpwf; subst hqwf; clear hpwf; have hltwhcc : we.heap.size < wf.heap.size := Nat.lt_of_lt_of_le (HK.out.lt _ (.head _)) hb.size; have hltddcc : gd < wf.heap.size := Nat.lt_of_lt_of_le (HK.out.lt _ (.tail _ (.head _))) hb.size; have hltttcc : gt < wf.heap.size := Nat.lt_of_lt_of_le (HK.out.lt _ (.tail _ (.tail _ (.head _)))) hb.size; have hltycc : (w.heap.size + 1) < wf.heap.size := Nat.lt_of_lt_of_le (HK.out.lt _ (.tail _ (.tail _ (.tail _ (.head _))))) hb.size; have hltxcc : w.heap.size < wf.heap.size := Nat.lt_of_lt_of_le (HK.out.lt _ (.tail _ (.tail _ (.tail _ (.tail _ (.head _)))))) hb.size; have HK2 := Lib.hid (HK.out.res hb ⟨j1, j2, j3, j4, j5⟩ hu); clear HK x0 x1 x2 x3 x4 y0 y1 y2 y3 y4 tt0 tt1 tt2 tt3 tt4 dd0 dd1 dd2 dd3 dd4 wh0 wh1 wh2 wh3 wh4; have HK := HK2; clear HK2; clear hb hu; have x0 := (HK.out.a _ (.tail _ (.tail _ (.tail _ (.tail _ (.tail _ (.head _))))))).c0; have x1 := (HK.out.a _ (.tail _ (.tail _ (.tail _ (.tail _ (.tail _ (.head _))))))).c1; have x2 := (HK.out.a _ (.tail _ (.tail _ (.tail _ (.tail _ (.tail _ (.head _))))))).c2; have x3 := (HK.out.a _ (.tail _ (.tail _ (.tail _ (.tail _ (.tail _ (.head _))))))).c3; have x4 := (HK.out.a _ (.tail _ (.tail _ (.tail _ (.tail _ (.tail _ (.head _))))))).c4; have y0 := (HK.out.a _ (.tail _ (.tail _ (.tail _ (.tail _ (.head _)))))).c0; have y1 := (HK.out.a _ (.tail _ (.tail _ (.tail _ (.tail _ (.head _)))))).c1; have y2 := (HK.out.a _ (.tail _ (.tail _ (.tail _ (.tail _ (.head _)))))).c2; have y3 := (HK.out.a _ (.tail _ (.tail _ (.tail _ (.tail _ (.head _)))))).c3; have y4 := (HK.out.a _ (.tail _ (.tail _ (.tail _ (.tail _ (.head _)))))).c4; have tt0 := (HK.out.a _ (.tail _ (.tail _ (.tail _ (.head _))))).c0; have tt1 := (HK.out.a _ (.tail _ (.tail _ (.tail _ (.head _))))).c1; have tt2 := (HK.out.a _ (.tail _ (.tail _ (.tail _ (.head _))))).c2; have tt3 := (HK.out.a _ (.tail _ (.tail _ (.tail _ (.head _))))).c3; have tt4 := (HK.out.a _ (.tail _ (.tail _ (.tail _ (.head _))))).c4; have dd0 := (HK.out.a _ (.tail _ (.tail _ (.head _)))).c0; have dd1 := (HK.out.a _ (.tail _ (.tail _ (.head _)))).c1; have dd2 := (HK.out.a _ (.tail _ (.tail _ (.head _)))).c2; have dd3 := (HK.out.a _ (.tail _ (.tail _ (.head _)))).c3; have dd4 := (HK.out.a _ (.tail _ (.tail _ (.head _)))).c4; have wh0 := (HK.out.a _ (.tail _ (.head _))).c0; have wh1 := (HK.out.a _ (.tail _ (.head _))).c1; have wh2 := (HK.out.a _ (.tail _ (.head _))).c2; have wh3 := (HK.out.a _ (.tail _ (.head _))).c3; have wh4 := (HK.out.a _ (.tail _ (.head _))).c4; have cc0 := (HK.out.a _ (.head _)).c0; have cc1 := (HK.out.a _ (.head _)).c1; have cc2 := (HK.out.a _ (.head _)).c2; have cc3 := (HK.out.a _ (.head _)).c3; have cc4 := (HK.out.a _ (.head _)).c4)
          | (go_at_call 34; (with_reducible refine (HI2.out _).mono ?_); rintro e wg ⟨uwg, rfl, hu, hb⟩; obtain ⟨pwg, cwg, hpwg, _, _⟩ := hu.form; have hqwg : uwg = (.slice pwg 1 cwg) := hpwg; subst hqwg; clear hpwg; have hltcckv : wf.heap.size < wg.heap.size := Nat.lt_of_lt_of_le (HK.out.lt _ (.head _)) hb.size; have hltwhkv : we.heap.size < wg.heap.size := Nat.lt_of_lt_of_le (HK.out.lt _ (.tail _ (.head _))) hb.size; have hltddkv : gd < wg.heap.size := Nat.lt_of_lt_of_le (HK.out.lt _ (.tail _ (.tail _ (.head _)))) hb.size; have hltttkv : gt < wg.heap.size := Nat.lt_of_lt_of_le (HK.out.lt _ (.tail _ (.tail _ (.tail _ (.head _))))) hb.size; have hltykv : (w.heap.size + 1) < wg.heap.size := Nat.lt_of_lt_of_le (HK.out.lt _ (.tail _ (.tail _ (.tail _ (.tail _ (.head _)))))) hb.size; have hltxkv : w.heap.size < wg.heap.size := Nat.lt_of_lt_of_le (HK.out.lt _ (.tail _ (.tail _ (.tail _ (.tail _ (.tail _ (.head _))))))) hb.size; have HK2 := Lib.hid (HK.out.res hb ⟨1, 0, 0, 0, [(A.z.length : Int)]⟩ hu); clear HK x0 x1 x2 x3 x4 y0 y1 y2 y3 y4 tt0 tt1 tt2 tt3 tt4 dd0 dd1 dd2 dd3 dd4 wh0 wh1 wh2 wh3 wh4 cc0 cc1 cc2 cc3 cc4; have HK := HK2; clear HK2; clear hb hu; have x0 := (HK.out.a _ (.tail _ (.tail _ (.tail _ (.tail _ (.tail _ (.tail _ (.head _)))))))).c0; have x1 := (HK.out.a _ (.tail _ (.tail _ (.tail _ (.tail _ (.tail _ (.tail _ (.head _)))))))).c1; have x2 := (HK.out.a _ (.tail _ (.tail _ (.tail _ (.tail _ (.tail _ (.tail _ (.head _)))))))).c2; have x3 := (HK.out.a _ (.tail _ (.tail _ (.tail _ (.tail _ (.tail _ (.tail _ (.head _)))))))).c3; have x4 := (HK.out.a _ (.tail _ (.tail _ (.tail _ (.tail _ (.tail _ (.tail _ (.head _)))))))).c4; have y0 := (HK.out.a _ (.tail _ (.tail _ (.tail _ (.tail _ (.tail _ (.head _))))))).c0; have y1 := (HK.out.a _ (.tail _ (.tail _ (.tail _ (.tail _ (.tail _ (.head _))))))).c1; have y2 := (HK.out.a _ (.tail _ (.tail _ (.tail _ (.tail _ (.tail _ (.head _))))))).c2; have y3 := (HK.out.a _ (.tail _ (.tail _ (.tail _ (.tail _ (.tail _ (.head _))))))).c3; have y4 := (HK.out.a _ (.tail _ (.tail _ (.tail _ (.tail _ (.tail _ (.head _))))))).c4; have tt0 := (HK.out.a _ (.tail _ (.tail _ (.tail _ (.tail _ (.head _)))))).c0; have tt1 := (HK.out.a _ (.tail _ (.tail _ (.tail _ (.tail _ (.head _)))))).c1; have tt2 := (HK.out.a _ (.tail _ (.tail _ (.tail _ (.tail _ (.head _)))))).c2; have tt3 := (HK.out.a _ (.tail _ (.tail _ (.tail _ (.tail _ (.head _)))))).c3; have tt4 := (HK.out.a _ (.tail _ (.tail _ (.tail _ (.tail _ (.head _)))))).c4; have dd0 := (HK.out.a _ (.tail _ (.tail _ (.tail _ (.head _))))).c0; have dd1 := (HK.out.a _ (.tail _ (.tail _ (.tail _ (.head _))))).c1; have dd2 := (HK.out.a _ (.tail _ (.tail _ (.tail _ (.head _))))).c2; have dd3 := (HK.out.a _ (.tail _ (.tail _ (.tail _ (.head _))))).c3; have dd4 := (HK.out.a _ (.tail _ (.tail _ (.tail _ (.head _))))).c4; have wh0 := (HK.out.a _ (.tail _ (.tail _ (.head _)))).c0; have wh1 := (HK.out.a _ (.tail _ (.tail _ (.head _)))).c1; have wh2 := (HK.out.a _ (.tail _ (.tail _ (.head _)))).c2; have wh3 := (HK.out.a _ (.tail _ (.tail _ (.head _)))).c3; have wh4 := (HK.out.a _ (.tail _ (.tail _ (.head _)))).c4; have cc0 := (HK.out.a _ (.tail _ (.head _))).c0; have cc1 := (HK.out.a _ (.tail _ (.head _))).c1; have cc2 := (HK.out.a _ (.tail _ (.head _))).c2; have cc3 := (HK.out.a _ (.tail _ (.head _))).c3; have cc4 := (HK.out.a _ (.tail _ (.head _))).c4; have kv0 := (HK.out.a _ (.head _)).c0; have kv1 := (HK.out.a _ (.head _)).c1; have kv2 := (HK.out.a _ (.head _)).c2; have kv3 := (HK.out.a _ (.head _)).c3; have kv4 := (HK.out.a _ (.head _)).c4)
          | (go_at_call 20; (with_reducible refine (HT2.out _ _ _ (by with_unfolding_all exact HK.out.lay) (by with_unfolding_all exact HK.out.r _ (.head _)) (by with_unfolding_all exact HK.out.r _ (.tail _ (.head _))) (by with_unfolding_all exact HK.out.n _ (.tail _ (.head _)))).mono ?_); rintro e wh ⟨uwh, rfl, hu, hb⟩; obtain ⟨pwh, cwh, hpwh, _, _⟩ := hu.form; have hqwh : uwh = (.slice pwh A.z.length cwh) := hpwh; subst hqwh; clear hpwh; have hltkvrv : wg.heap.size < wh.heap.size := Nat.lt_of_lt_of_le (HK.out.lt _ (.head _)) hb.size; have hltccrv : wf.heap.size < wh.heap.size := Nat.lt_of_lt_of_le (HK.out.lt _ (.tail _ (.head _))) hb.size; have hltwhrv : we.heap.size < wh.heap.size := Nat.lt_of_lt_of_le (HK.out.lt _ (.tail _ (.tail _ (.head _)))) hb.size; have hltddrv : gd < wh.heap.size := Nat.lt_of_lt_of_le (HK.out.lt _ (.tail _ (.tail _ (.tail _ (.head _))))) hb.size; have hltttrv : gt < wh.heap.size := Nat.lt_of_lt_of_le (HK.out.lt _ (.tail _ (.tail _ (.tail _ (.tail _ (.head _)))))) hb.size; have hltyrv : (w.heap.size + 1) < wh.heap.size := Nat.lt_of_lt_of_le (HK.out.lt _ (.tail _ (.tail _ (.tail _ (.tail _ (.tail _ (.head _))))))) hb.size; have hltxrv : w.heap.size < wh.heap.size := Nat.lt_of_lt_of_le (HK.out.lt _ (.tail _ (.tail _ (.tail _ (.tail _ (.tail _ (.tail _ (.head _)))))))) hb.size; have HK2 := Lib.hid (HK.out.res hb ⟨A.k, A.r, A.a, A.b, A.z⟩ hu); clear HK x0 x1 x2 x3 x4 y0 y1 y2 y3 y4 tt0 tt1 tt2 tt3 tt4 dd0 dd1 dd2 dd3 dd4 wh0 wh1 wh2 wh3 wh4 cc0 cc1 cc2 cc3 cc4 kv0 kv1 kv2 kv3 kv4; have HK := HK2; clear HK2; clear hb hu; have x0 := (HK.out.a _ (.tail _ (.tail _ (.tail _ (.tail _ (.tail _ (.tail _ (.tail _ (.head _))))))))).c0; have x1 := (HK.out.a _ (.tail _ (.tail _ (.tail _ (.tail _ (.tail _ (.tail _ (.tail _ (.head _))))))))).c1; have x2 := (HK.out.a _ (.tail _ (.tail _ (.tail _ (.tail _ (.tail _ (.tail _ (.tail _ (.head _))))))))).c2; have x3 := (HK.out.a _ (.tail _ (.tail _ (.tail _ (.tail _ (.tail _ (.tail _ (.tail _ (.head _))))))))).c3; have x4 := (HK.out.a _ (.tail _ (.tail _ (.tail _ (.tail _ (.tail _ (.tail _ (.tail _ (.head _))))))))).c4; have y0 := (HK.out.a _ (.tail _ (.tail _ (.tail _ (.tail _ (.tail _ (.tail _ (.head _)))))))).c0; have y1 := (HK.out.a _ (.tail _ (.tail _ (.tail _ (.tail _ (.tail _ (.tail _ (.head _)))))))).c1; have y2 := (HK.out.a _ (.tail _ (.tail _ (.tail _ (.tail _ (.tail _ (.tail _ (.head _)))))))).c2; have y3 := (HK.out.a _ (.tail _ (.tail _ (.tail _ (.tail _ (.tail _ (.tail _ (.head _)))))))).c3; have y4 := (HK.out.a _ (.tail _ (.tail _ (.tail _ (.tail _ (.tail _ (.tail _ (.head _)))))))).c4; have tt0 := (HK.out.a _ (.tail _ (.tail _ (.tail _ (.tail _ (.tail _ (.head _))))))).c0; have tt1 := (HK.out.a _ (.tail _ (.tail _ (.tail _ (.tail _ (.tail _ (.head _))))))).c1; have tt2 := (HK.out.a _ (.tail _ (.tail _ (.tail _ (.tail _ (.tail _ (.head _))))))).c2; have tt3 := (HK.out.a _ (.tail _ (.tail _ (.tail _ (.tail _ (.tail _ (.head _))))))).c3; have tt4 := (HK.out.a _ (.tail _ (.tail _ (.tail _ (.tail _ (.tail _ (.head _))))))).c4; have dd0 := (HK.out.a _ (.tail _ (.tail _ (.tail _ (.tail _ (.head _)))))).c0; have dd1 := (HK.out.a _ (.tail _ (.tail _ (.tail _ (.tail _ (.head _)))))).c1; have dd2 := (HK.out.a _ (.tail _ (.tail _ (.tail _ (.tail _ (.head _)))))).c2; have dd3 := (HK.out.a _ (.tail _ (.tail _ (.tail _ (.tail _ (.head _)))))).c3; have dd4 := (HK.out.a _ (.tail _ (.tail _ (.tail _ (.tail _ (.head _)))))).c4; have wh0 := (HK.out.a _ (.tail _ (.tail _ (.tail _ (.head _))))).c0; have wh1 := (HK.out.a _ (.tail _ (.tail _ (.tail _ (.head _))))).c1; have wh2 := (HK.out.a _ (.tail _ (.tail _ (.tail _ (.head _))))).c2; have wh3 := (HK.out.a _ (.tail _ (.tail _ (.tail _ (.head _))))).c3; have wh4 := (HK.out.a _ (.tail _ (.tail _ (.tail _ (.head _))))).c4; have cc0 := (HK.out.a _ (.tail _ (.tail _ (.head _)))).c0; have cc1 := (HK.out.a _ (.tail _ (.tail _ (.head _)))).c1; have cc2 := (HK.out.a _ (.tail _ (.tail _ (.head _)))).c2; have cc3 := (HK.out.a _ (.tail _ (.tail _ (.head _)))).c3; have cc4 := (HK.out.a _ (.tail _ (.tail _ (.head _)))).c4; have kv0 := (HK.out.a _ (.tail _ (.head _))).c0; have kv1 := (HK.out.a _ (.tail _ (.head _))).c1; have kv2 := (HK.out.a _ (.tail _ (.head _))).c2; have kv3 := (HK.out.a _ (.tail _ (.head _))).c3; have kv4 := (HK.out.a _ (.tail _ (.head _))).c4; have rv0 := (HK.out.a _ (.head _)).c0; have rv1 := (HK.out.a _ (.head _)).c1; have rv2 := (HK.out.a _ (.head _)).c2; have rv3 := (HK.out.a _ (.head _)).c3; have rv4 := (HK.out.a _ (.head _)).c4)
          | (go_at_call 22; (with_reducible refine (HD2.out _ _ _ (by with_unfolding_all exact HK.out.lay) (by with_unfolding_all exact HK.out.r _ (.tail _ (.head _))) (by with_unfolding_all exact HK.out.r _ (.tail _ (.tail _ (.head _)))) (by with_unfolding_all exact HK.out.n _ (.tail _ (.tail _ (.head _))))).mono ?_); rintro e wi ⟨uwi, rfl, hu, hb⟩; obtain ⟨pwi, cwi, hpwi, _, _⟩ := hu.form; have hqwi : uwi = (.slice pwi B.z.length cwi) := hpwi; subst hqwi; clear hpwi; have hltrvsv : wh.heap.size < wi.heap.size := Nat.lt_of_lt_of_le (HK.out.lt _ (.head _)) hb.size; have hltkvsv : wg.heap.size < wi.heap.size := Nat.lt_of_lt_of_le (HK.out.lt _ (.tail _ (.head _))) hb.size; have hltccsv : wf.heap.size < wi.heap.size := Nat.lt_of_lt_of_le (HK.out.lt _ (.tail _ (.tail _ (.head _)))) hb.size; have hltwhsv : we.heap.size < wi.heap.size := Nat.lt_of_lt_of_le (HK.out.lt _ (.tail _ (.tail _ (.tail _ (.head _))))) hb.size; have hltddsv : gd < wi.heap.size := Nat.lt_of_lt_of_le (HK.out.lt _ (.tail _ (.tail _ (.tail _ (.tail _ (.head _)))))) hb.size; have hltttsv : gt < wi.heap.size := Nat.lt_of_lt_of_le (HK.out.lt _ (.tail _ (.tail _ (.tail _ (.tail _ (.tail _ (.head _))))))) hb.size; have hltysv : (w.heap.size + 1) < wi.heap.size := Nat.lt_of_lt_of_le (HK.out.lt _ (.tail _ (.tail _ (.tail _ (.tail _ (.tail _ (.tail _ (.head _)))))))) hb.size; have hltxsv : w.heap.size < wi.heap.size := Nat.lt_of_lt_of_le (HK.out.lt _ (.tail _ (.tail _ (.tail _ (.tail _ (.tail _ (.tail _ (.tail _ (.head _))))))))) hb.size; have HK2 := Lib.hid (HK.out.res hb ⟨B.k, B.r, B.a, B.b, B.z⟩ hu); clear HK x0 x1 x2 x3 x4 y0 y1 y2 y3 y4 tt0 tt1 tt2 tt3 tt4 dd0 dd1 dd2 dd3 dd4 wh0 wh1 wh2 wh3 wh4 cc0 cc1 cc2 cc3 cc4 kv0 kv1 kv2 kv3 kv4 rv0 rv1 rv2 rv3 rv4; have HK := HK2; clear HK2; clear hb hu; have x0 := (HK.out.a _ (.tail _ (.tail _ (.tail _ (.tail _ (.tail _ (.tail _ (.tail _ (.tail _ (.head _)))))))))).c0; have x1 := (HK.out.a _ (.tail _ (.tail _ (.tail _ (.tail _ (.tail _ (.tail _ (.tail _ (.tail _ (.head _)))))))))).c1; have x2 := (HK.out.a _ (.tail _ (.tail _ (.tail _ (.tail _ (.tail _ (.tail _ (.tail _ (.tail _ (.head _)))))))))).c2; have x3 := (HK.out.a _ (.tail _ (.tail _ (.tail _ (.tail _ (.tail _ (.tail _ (.tail _ (.tail _ (.head _)))))))))).c3; have x4 := (HK.out.a _ (.tail _ (.tail _ (.tail _ (.tail _ (.tail _ (.tail _ (.tail _ (.tail _ (.head _)))))))))).c4; have y0 := (HK.out.a _ (.tail _ (.tail _ (.tail _ (.tail _ (.tail _ (.tail _ (.tail _ (.head _))))))))).c0; have y1 := (HK.out.a _ (.tail _ (.tail _ (.tail _ (.tail _ (.tail _ (.tail _ (.tail _ (.head _))))))))).c1; have y2 := (HK.out.a _ (.tail _ (.tail _ (.tail _ (.tail _ (.tail _ (.tail _ (.tail _ (.head _))))))))).c2; have y3 := (HK.out.a _ (.tail _ (.tail _ (.tail _ (.tail _ (.tail _ (.tail _ (.tail _ (.head _))))))))).c3; have y4 := (HK.out.a _ (.tail _ (.tail _ (.tail _ (.tail _ (.tail _ (.tail _ (.tail _ (.head _))))))))).c4; have tt0 := (HK.out.a _ (.tail _ (.tail _ (.tail _ (.tail _ (.tail _ (.tail _ (.head _)))))))).c0; have tt1 := (HK.out.a _ (.tail _ (.tail _ (.tail _ (.tail _ (.tail _ (.tail _ (.head _)))))))).c1; have tt2 := (HK.out.a _ (.tail _ (.tail _ (.tail _ (.tail _ (.tail _ (.tail _ (.head _)))))))).c2; have tt3 := (HK.out.a _ (.tail _ (.tail _ (.tail _ (.tail _ (.tail _ (.tail _ (.head _)))))))).c3; have tt4 := (HK.out.a _ (.tail _ (.tail _ (.tail _ (.tail _ (.tail _ (.tail _ (.head _)))))))).c4; have dd0 := (HK.out.a _ (.tail _ (.tail _ (.tail _ (.tail _ (.tail _ (.head _))))))).c0; have dd1 := (HK.out.a _ (.tail _ (.tail _ (.tail _ (.tail _ (.tail _ (.head _))))))).c1; have dd2 := (HK.out.a _ (.tail _ (.tail _ (.tail _ (.tail _ (.tail _ (.head _))))))).c2; have dd3 := (HK.out.a _ (.tail _ (.tail _ (.tail _ (.tail _ (.tail _ (.head _))))))).c3; have dd4 := (HK.out.a _ (.tail _ (.tail _ (.tail _ (.tail _ (.tail _ (.head _))))))).c4; have wh0 := (HK.out.a _ (.tail _ (.tail _ (.tail _ (.tail _ (.head _)))))).c0; have wh1 := (HK.out.a _ (.tail _ (.tail _ (.tail _ (.tail _ (.head _)))))).c1; have wh2 := (HK.out.a _ (.tail _ (.tail _ (.tail _ (.tail _ (.head _)))))).c2; have wh3 := (HK.out.a _ (.tail _ (.tail _ (.tail _ (.tail _ (.head _)))))).c3; have wh4 := (HK.out.a _ (.tail _ (.tail _ (.tail _ (.tail _ (.head _)))))).c4; have cc0 := (HK.out.a _ (.tail _ (.tail _ (.tail _ (.head _))))).c0; have cc1 := (HK.out.a _ (.tail _ (.tail _ (.tail _ (.head _))))).c1; have cc2 := (HK.out.a _ (.tail _ (.tail _ (.tail _ (.head _))))).c2; have cc3 := (HK.out.a _ (.tail _ (.tail _ (.tail _ (.head _))))).c3; have cc4 := (HK.out.a _ (.tail _ (.tail _ (.tail _ (.head _))))).c4; have kv0 := (HK.out.a _ (.tail _ (.tail _ (.head _)))).c0; have kv1 := (HK.out.a _ (.tail _ (.tail _ (.head _)))).c1; have kv2 := (HK.out.a _ (.tail _ (.tail _ (.head _)))).c2; have kv3 := (HK.out.a _ (.tail _ (.tail _ (.head _)))).c3; have kv4 := (HK.out.a _ (.tail _ (.tail _ (.head _)))).c4; have rv0 := (HK.out.a _ (.tail _ (.head _))).c0; have rv1 := (HK.out.a _ (.tail _ (.head _))).c1; have rv2 := (HK.out.a _ (.tail _ (.head _))).c2; have rv3 := (HK.out.a _ (.tail _ (.head _))).c3; have rv4 := (HK.out.a _ (.tail _ (.head _))).c4; have sv0 := (HK.out.a _ (.head _)).c0; have sv1 := (HK.out.a _ (.head _)).c1; have sv2 := (HK.out.a _ (.head _)).c2; have sv3 := (HK.out.a _ (.head _)).c3; have sv4 := (HK.out.a _ (.head _)).c4)
          | (go_at_call 32; (with_reducible refine (HIb.out _ _ _ (by with_unfolding_all exact HK.out.r _ (.head _)) (by with_unfolding_all exact HK.out.r _ (.tail _ (.tail _ (.tail _ (.tail _ (.tail _ (.tail _ (.tail _ (.head _)))))))))).mono ?_); rintro e wz ⟨rfl, hb⟩; have HK2 := Lib.hid (HK.out.next hb); clear HK x0 x1 x2 x3 x4 y0 y1 y2 y3 y4 tt0 tt1 tt2 tt3 tt4 dd0 dd1 dd2 dd3 dd4 wh0 wh1 wh2 wh3 wh4 cc0 cc1 cc2 cc3 cc4 kv0 kv1 kv2 kv3 kv4 rv0 rv1 rv2 rv3 rv4 sv0 sv1 sv2 sv3 sv4; have HK := HK2; clear HK2; clear hb; have x0 := (HK.out.a _ (.tail _ (.tail _ (.tail _ (.tail _ (.tail _ (.tail _ (.tail _ (.tail _ (.head _)))))))))).c0; have x1 := (HK.out.a _ (.tail _ (.tail _ (.tail _ (.tail _ (.tail _ (.tail _ (.tail _ (.tail _ (.head _)))))))))).c1; have x2 := (HK.out.a _ (.tail _ (.tail _ (.tail _ (.tail _ (.tail _ (.tail _ (.tail _ (.tail _ (.head _)))))))))).c2; have x3 := (HK.out.a _ (.tail _ (.tail _ (.tail _ (.tail _ (.tail _ (.tail _ (.tail _ (.tail _ (.head _)))))))))).c3; have x4 := (HK.out.a _ (.tail _ (.tail _ (.tail _ (.tail _ (.tail _ (.tail _ (.tail _ (.tail _ (.head _)))))))))).c4; have y0 := (HK.out.a _ (.tail _ (.tail _ (.tail _ (.tail _ (.tail _ (.tail _ (.tail _ (.head _))))))))).c0; have y1 := (HK.out.a _ (.tail _ (.tail _ (.tail _ (.tail _ (.tail _ (.tail _ (.tail _ (.head _))))))))).c1; have y2 := (HK.out.a _ (.tail _ (.tail _ (.tail _ (.tail _ (.tail _ (.tail _ (.tail _ (.head _))))))))).c2; have y3 := (HK.out.a _ (.tail _ (.tail _ (.tail _ (.tail _ (.tail _ (.tail _ (.tail _ (.head _))))))))).c3; have y4 := (HK.out.a _ (.tail _ (.tail _ (.tail _ (.tail _ (.tail _ (.tail _ (.tail _ (.head _))))))))).c4; have tt0 := (HK.out.a _ (.tail _ (.tail _ (.tail _ (.tail _ (.tail _ (.tail _ (.head _)))))))).c0; have tt1 := (HK.out.a _ (.tail _ (.tail _ (.tail _ (.tail _ (.tail _ (.tail _ (.head _)))))))).c1; have tt2 := (HK.out.a _ (.tail _ (.tail _ (.tail _ (.tail _ (.tail _ (.tail _ (.head _)))))))).c2; have tt3 := (HK.out.a _ (.tail _ (.tail _ (.tail _ (.tail _ (.tail _ (.tail _ (.head _)))))))).c3; have tt4 := (HK.out.a _ (.tail _ (.tail _ (.tail _ (.tail _ (.tail _ (.tail _ (.head _)))))))).c4; have dd0 := (HK.out.a _ (.tail _ (.tail _ (.tail _ (.tail _ (.tail _ (.head _))))))).c0; have dd1 := (HK.out.a _ (.tail _ (.tail _ (.tail _ (.tail _ (.tail _ (.head _))))))).c1; have dd2 := (HK.out.a _ (.tail _ (.tail _ (.tail _ (.tail _ (.tail _ (.head _))))))).c2; have dd3 := (HK.out.a _ (.tail _ (.tail _ (.tail _ (.tail _ (.tail _ (.head _))))))).c3; have dd4 := (HK.out.a _ (.tail _ (.tail _ (.tail _ (.tail _ (.tail _ (.head _))))))).c4; have wh0 := (HK.out.a _ (.tail _ (.tail _ (.tail _ (.tail _ (.head _)))))).c0; have wh1 := (HK.out.a _ (.tail _ (.tail _ (.tail _ (.tail _ (.head _)))))).c1; have wh2 := (HK.out.a _ (.tail _ (.tail _ (.tail _ (.tail _ (.head _)))))).c2; have wh3 := (HK.out.a _ (.tail _ (.tail _ (.tail _ (.tail _ (.head _)))))).c3; have wh4 := (HK.out.a _ (.tail _ (.tail _ (.tail _ (.tail _ (.head _)))))).c4; have cc0 := (HK.out.a _ (.tail _ (.tail _ (.tail _ (.head _))))).c0; have cc1 := (HK.out.a _ (.tail _ (.tail _ (.tail _ (.head _))))).c1; have cc2 := (HK.out.a _ (.tail _ (.tail _ (.tail _ (.head _))))).c2; have cc3 := (HK.out.a _ (.tail _ (.tail _ (.tail _ (.head _))))).c3; have cc4 := (HK.out.a _ (.tail _ (.tail _ (.tail _ (.head _))))).c4; have kv0 := (HK.out.a _ (.tail _ (.tail _ (.head _)))).c0; have kv1 := (HK.out.a _ (.tail _ (.tail _ (.head _)))).c1; have kv2 := (HK.out.a _ (.tail _ (.tail _ (.head _)))).c2; have kv3 := (HK.out.a _ (.tail _ (.tail _ (.head _)))).c3; have kv4 := (HK.out.a _ (.tail _ (.tail _ (.head _)))).c4; have rv0 := (HK.out.a _ (.tail _ (.head _))).c0; have rv1 := (HK.out.a _ (.tail _ (.head _))).c1; have rv2 := (HK.out.a _ (.tail _ (.head _))).c2; have rv3 := (HK.out.a _ (.tail _ (.head _))).c3; have rv4 := (HK.out.a _ (.tail _ (.head _))).c4; have sv0 := (HK.out.a _ (.head _)).c0; have sv1 := (HK.out.a _ (.head _)).c1; have sv2 := (HK.out.a _ (.head _)).c2; have sv3 := (HK.out.a _ (.head _)).c3; have sv4 := (HK.out.a _ (.head _)).c4)
          | (go_at_call 32; (with_reducible refine (HIs.out _ _ _ (by with_unfolding_all exact HK.out.r _ (.tail _ (.head _))) (by with_unfolding_all exact HK.out.r _ (.tail _ (.tail _ (.tail _ (.tail _ (.tail _ (.tail _ (.tail _ (.tail _ (.head _))))))))))).mono ?_); rintro e wz ⟨rfl, hb⟩; have HK2 := Lib.hid (HK.out.next hb); clear HK x0 x1 x2 x3 x4 y0 y1 y2 y3 y4 tt0 tt1 tt2 tt3 tt4 dd0 dd1 dd2 dd3 dd4 wh0 wh1 wh2 wh3 wh4 cc0 cc1 cc2 cc3 cc4 kv0 kv1 kv2 kv3 kv4 rv0 rv1 rv2 rv3 rv4 sv0 sv1 sv2 sv3 sv4; have HK := HK2; clear HK2; clear hb; have x0 := (HK.out.a _ (.tail _ (.tail _ (.tail _ (.tail _ (.tail _ (.tail _ (.tail _ (.tail _ (.head _)))))))))).c0; have x1 := (HK.out.a _ (.tail _ (.tail _ (.tail _ (.tail _ (.tail _ (.tail _ (.tail _ (.tail _ (.head _)))))))))).c1; have x2 := (HK.out.a _ (.tail _ (.tail _ (.tail _ (.tail _ (.tail _ (.tail _ (.tail _ (.tail _ (.head _)))))))))).c2; have x3 := (HK.out.a _ (.tail _ (.tail _ (.tail _ (.tail _ (.tail _ (.tail _ (.tail _ (.tail _ (.head _)))))))))).c3; have x4 := (HK.out.a _ (.tail _ (.tail _ (.tail _ (.tail _ (.tail _ (.tail _ (.tail _ (.tail _ (.head _)))))))))).c4; have y0 := (HK.out.a _ (.tail _ (.tail _ (.tail _ (.tail _ (.tail _ (.tail _ (.tail _ (.head _))))))))).c0; have y1 := (HK.out.a _ (.tail _ (.tail _ (.tail _ (.tail _ (.tail _ (.tail _ (.tail _ (.head _))))))))).c1; have y2 := (HK.out.a _ (.tail _ (.tail _ (.tail _ (.tail _ (.tail _ (.tail _ (.tail _ (.head _))))))))).c2; have y3 := (HK.out.a _ (.tail _ (.tail _ (.tail _ (.tail _ (.tail _ (.tail _ (.tail _ (.head _))))))))).c3; have y4 := (HK.out.a _ (.tail _ (.tail _ (.tail _ (.tail _ (.tail _ (.tail _ (.tail _ (.head _))))))))).c4; have tt0 := (HK.out.a _ (.tail _ (.tail _ (.tail _ (.tail _ (.tail _ (.tail _ (.head _)))))))).c0; have tt1 := (HK.out.a _ (.tail _ (.tail _ (.tail _ (.tail _ (.tail _ (.tail _ (.head _)))))))).c1; have tt2 := (HK.out.a _ (.tail _ (.tail _ (.tail _ (.tail _ (.tail _ (.tail _ (.head _)))))))).c2; have tt3 := (HK.out.a _ (.tail _ (.tail _ (.tail _ (.tail _ (.tail _ (.tail _ (.head _)))))))).c3; have tt4 := (HK.out.a _ (.tail _ (.tail _ (.tail _ (.tail _ (.tail _ (.tail _ (.head _)))))))).c4; have dd0 := (HK.out.a _ (.tail _ (.tail _ (.tail _ (.tail _ (.tail _ (.head _))))))).c0; have dd1 := (HK.out.a _ (.tail _ (.tail _ (.tail _ (.tail _ (.tail _ (.head _))))))).c1; have dd2 := (HK.out.a _ (.tail _ (.tail _ (.tail _ (.tail _ (.tail _ (.head _))))))).c2; have dd3 := (HK.out.a _ (.tail _ (.tail _ (.tail _ (.tail _ (.tail _ (.head _))))))).c3; have dd4 := (HK.out.a _ (.tail _ (.tail _ (.tail _ (.tail _ (.tail _ (.head _))))))).c4; have wh0 := (HK.out.a _ (.tail _ (.tail _ (.tail _ (.tail _ (.head _)))))).c0; have wh1 := (HK.out.a _ (.tail _ (.tail _ (.tail _ (.tail _ (.head _)))))).c1; have wh2 := (HK.out.a _ (.tail _ (.tail _ (.tail _ (.tail _ (.head _)))))).c2; have wh3 := (HK.out.a _ (.tail _ (.tail _ (.tail _ (.tail _ (.head _)))))).c3; have wh4 := (HK.out.a _ (.tail _ (.tail _ (.tail _ (.tail _ (.head _)))))).c4; have cc0 := (HK.out.a _ (.tail _ (.tail _ (.tail _ (.head _))))).c0; have cc1 := (HK.out.a _ (.tail _ (.tail _ (.tail _ (.head _))))).c1; have cc2 := (HK.out.a _ (.tail _ (.tail _ (.tail _ (.head _))))).c2; have cc3 := (HK.out.a _ (.tail _ (.tail _ (.tail _ (.head _))))).c3; have cc4 := (HK.out.a _ (.tail _ (.tail _ (.tail _ (.head _))))).c4; have kv0 := (HK.out.a _ (.tail _ (.tail _ (.head _)))).c0; have kv1 := (HK.out.a _ (.tail _ (.tail _ (.head _)))).c1; have kv2 := (HK.out.a _ (.tail _ (.tail _ (.head _)))).c2; have kv3 := (HK.out.a _ (.tail _ (.tail _ (.head _)))).c3; have kv4 := (HK.out.a _ (.tail _ (.tail _ (.head _)))).c4; have rv0 := (HK.out.a _ (.tail _ (.head _))).c0; have rv1 := (HK.out.a _ (.tail _ (.head _))).c1; have rv2 := (HK.out.a _ (.tail _ (.head _))).c2; have rv3 := (HK.out.a _ (.tail _ (.head _))).c3; have rv4 := (HK.out.a _ (.tail _ (.head _))).c4; have sv0 := (HK.out.a _ (.head _)).c0; have sv1 := (HK.out.a _ (.head _)).c1; have sv2 := (HK.out.a _ (.head _)).c2; have sv3 := (HK.out.a _ (.head _)).c3; have sv4 := (HK.out.a _ (.head _)).c4)
          | (go_at_call 32; (with_reducible refine (HIs.out _ _ _ (by with_unfolding_all exact HK.out.r _ (.head _)) (by with_unfolding_all exact HK.out.r _ (.tail _ (.tail _ (.tail _ (.tail _ (.head _))))))).mono ?_); rintro e wz ⟨rfl, hb⟩; have HK2 := Lib.hid (HK.out.next hb); clear HK x0 x1 x2 x3 x4 y0 y1 y2 y3 y4 tt0 tt1 tt2 tt3 tt4 dd0 dd1 dd2 dd3 dd4 wh0 wh1 wh2 wh3 wh4; have HK := HK2; clear HK2; clear hb; have x0 := (HK.out.a _ (.tail _ (.tail _ (.tail _ (.tail _ (.head _)))))).c0; have x1 := (HK.out.a _ (.tail _ (.tail _ (.tail _ (.tail _ (.head _)))))).c1; have x2 := (HK.out.a _ (.tail _ (.tail _ (.tail _ (.tail _ (.head _)))))).c2; have x3 := (HK.out.a _ (.tail _ (.tail _ (.tail _ (.tail _ (.head _)))))).c3; have x4 := (HK.out.a _ (.tail _ (.tail _ (.tail _ (.tail _ (.head _)))))).c4; have y0 := (HK.out.a _ (.tail _ (.tail _ (.tail _ (.head _))))).c0; have y1 := (HK.out.a _ (.tail _ (.tail _ (.tail _ (.head _))))).c1; have y2 := (HK.out.a _ (.tail _ (.tail _ (.tail _ (.head _))))).c2; have y3 := (HK.out.a _ (.tail _ (.tail _ (.tail _ (.head _))))).c3; have y4 := (HK.out.a _ (.tail _ (.tail _ (.tail _ (.head _))))).c4; have tt0 := (HK.out.a _ (.tail _ (.tail _ (.head _)))).c0; have tt1 := (HK.out.a _ (.tail _ (.tail _ (.head _)))).c1; have tt2 := (HK.out.a _ (.tail _ (.tail _ (.head _)))).c2; have tt3 := (HK.out.a _ (.tail _ (.tail _ (.head _)))).c3; have tt4 := (HK.out.a _ (.tail _ (.tail _ (.head _)))).c4; have dd0 := (HK.out.a _ (.tail _ (.head _))).c0; have dd1 := (HK.out.a _ (.tail _ (.head _))).c1; have dd2 := (HK.out.a _ (.tail _ (.head _))).c2; have dd3 := (HK.out.a _ (.tail _ (.head _))).c3; have dd4 := (HK.out.a _ (.tail _ (.head _))).c4; have wh0 := (HK.out.a _ (.head _)).c0; have wh1 := (HK.out.a _ (.head _)).c1; have wh2 := (HK.out.a _ (.head _)).c2; have wh3 := (HK.out.a _ (.head _)).c3; have wh4 := (HK.out.a _ (.head _)).c4)
          | (go_at_call 12; (with_reducible refine (HAw.out _ (by with_unfolding_all exact HK.out.lay)).mono ?_); rintro e wz ⟨rfl, hb⟩; have HK2 := Lib.hid (HK.out.next hb); clear HK x0 x1 x2 x3 x4 y0 y1 y2 y3 y4 tt0 tt1 tt2 tt3 tt4 dd0 dd1 dd2 dd3 dd4 wh0 wh1 wh2 wh3 wh4 cc0 cc1 cc2 cc3 cc4 kv0 kv1 kv2 kv3 kv4 rv0 rv1 rv2 rv3 rv4 sv0 sv1 sv2 sv3 sv4; have HK := HK2; clear HK2; clear hb; have x0 := (HK.out.a _ (.tail _ (.tail _ (.tail _ (.tail _ (.tail _ (.tail _ (.tail _ (.tail _ (.head _)))))))))).c0; have x1 := (HK.out.a _ (.tail _ (.tail _ (.tail _ (.tail _ (.tail _ (.tail _ (.tail _ (.tail _ (.head _)))))))))).c1; have x2 := (HK.out.a _ (.tail _ (.tail _ (.tail _ (.tail _ (.tail _ (.tail _ (.tail _ (.tail _ (.head _)))))))))).c2; have x3 := (HK.out.a _ (.tail _ (.tail _ (.tail _ (.tail _ (.tail _ (.tail _ (.tail _ (.tail _ (.head _)))))))))).c3; have x4 := (HK.out.a _ (.tail _ (.tail _ (.tail _ (.tail _ (.tail _ (.tail _ (.tail _ (.tail _ (.head _)))))))))).c4; have y0 := (HK.out.a _ (.tail _ (.tail _ (.tail _ (.tail _ (.tail _ (.tail _ (.tail _ (.head _))))))))).c0; have y1 := (HK.out.a _ (.tail _ (.tail _ (.tail _ (.tail _ (.tail _ (.tail _ (.tail _ (.head _))))))))).c1; have y2 := (HK.out.a _ (.tail _ (.tail _ (.tail _ (.tail _ (.tail _ (.tail _ (.tail _ (.head _))))))))).c2; have y3 := (HK.out.a _ (.tail _ (.tail _ (.tail _ (.tail _ (.tail _ (.tail _ (.tail _ (.head _))))))))).c3; have y4 := (HK.out.a _ (.tail _ (.tail _ (.tail _ (.tail _ (.tail _ (.tail _ (.tail _ (.head _))))))))).c4; have tt0 := (HK.out.a _ (.tail _ (.tail _ (.tail _ (.tail _ (.tail _ (.tail _ (.head _)))))))).c0; have tt1 := (HK.out.a _ (.tail _ (.tail _ (.tail _ (.tail _ (.tail _ (.tail _ (.head _)))))))).c1; have tt2 := (HK.out.a _ (.tail _ (.tail _ (.tail _ (.tail _ (.tail _ (.tail _ (.head _)))))))).c2; have tt3 := (HK.out.a _ (.tail _ (.tail _ (.tail _ (.tail _ (.tail _ (.tail _ (.head _)))))))).c3; have tt4 := (HK.out.a _ (.tail _ (.tail _ (.tail _ (.tail _ (.tail _ (.tail _ (.head _)))))))).c4; have dd0 := (HK.out.a _ (.tail _ (.tail _ (.tail _ (.tail _ (.tail _ (.head _))))))).c0; have dd1 := (HK.out.a _ (.tail _ (.tail _ (.tail _ (.tail _ (.tail _ (.head _))))))).c1; have dd2 := (HK.out.a _ (.tail _ (.tail _ (.tail _ (.tail _ (.tail _ (.head _))))))).c2; have dd3 := (HK.out.a _ (.tail _ (.tail _ (.tail _ (.tail _ (.tail _ (.head _))))))).c3; have dd4 := (HK.out.a _ (.tail _ (.tail _ (.tail _ (.tail _ (.tail _ (.head _))))))).c4; have wh0 := (HK.out.a _ (.tail _ (.tail _ (.tail _ (.tail _ (.head _)))))).c0; have wh1 := (HK.out.a _ (.tail _ (.tail _ (.tail _ (.tail _ (.head _)))))).c1; have wh2 := (HK.out.a _ (.tail _ (.tail _ (.tail _ (.tail _ (.head _)))))).c2; have wh3 := (HK.out.a _ (.tail _ (.tail _ (.tail _ (.tail _ (.head _)))))).c3; have wh4 := (HK.out.a _ (.tail _ (.tail _ (.tail _ (.tail _ (.head _)))))).c4; have cc0 := (HK.out.a _ (.tail _ (.tail _ (.tail _ (.head _))))).c0; have cc1 := (HK.out.a _ (.tail _ (.tail _ (.tail _ (.head _))))).c1; have cc2 := (HK.out.a _ (.tail _ (.tail _ (.tail _ (.head _))))).c2; have cc3 := (HK.out.a _ (.tail _ (.tail _ (.tail _ (.head _))))).c3; have cc4 := (HK.out.a _ (.tail _ (.tail _ (.tail _ (.head _))))).c4; have kv0 := (HK.out.a _ (.tail _ (.tail _ (.head _)))).c0; have kv1 := (HK.out.a _ (.tail _ (.tail _ (.head _)))).c1; have kv2 := (HK.out.a _ (.tail _ (.tail _ (.head _)))).c2; have kv3 := (HK.out.a _ (.tail _ (.tail _ (.head _)))).c3; have kv4 := (HK.out.a _ (.tail _ (.tail _ (.head _)))).c4; have rv0 := (HK.out.a _ (.tail _ (.head _))).c0; have rv1 := (HK.out.a _ (.tail _ (.head _))).c1; have rv2 := (HK.out.a _ (.tail _ (.head _))).c2; have rv3 := (HK.out.a _ (.tail _ (.head _))).c3; have rv4 := (HK.out.a _ (.tail _ (.head _))).c4; have sv0 := (HK.out.a _ (.head _)).c0; have sv1 := (HK.out.a _ (.head _)).c1; have sv2 := (HK.out.a _ (.head _)).c2; have sv3 := (HK.out.a _ (.head _)).c3; have sv4 := (HK.out.a _ (.head _)).c4)
          | fail)
        go_ret
        exact ⟨rfl, HK.out.bel⟩
end Go.Proofs.YtbeoigmaieiigaaDoor
