/- The law ArraysOrders. -/
import Derived.Test.YtmacimkkgiogbaaDoorArR0
import Derived.Test.YtmacimkkgiogbaaDoorArW
import Derived.Test.YtmacimkkgiogbaaDoorArX
namespace Go.Proofs.YtmacimkkgiogbaaDoor
open Go.RowKit

set_option maxRecDepth 100000 in
set_option maxHeartbeats 8000000 in
theorem lawOrders_any (A B : Ar) (v u : Value) (w : World) (hw : Ru.Lay w) (hv : RdI w.heap.size w v A.z) (hu : RdI w.heap.size w u B.z) (hnv : Ru.NilC v) (hnu : Ru.NilC u) :
    Calls Tryd.prog 7 #[A5 A.k A.r A.a A.b v, A5 B.k B.r B.a B.b u] w fun e w' => e = .returned (.bool true) ∧ Below w.heap.size w w' := by
  have HF1 := Lib.hid (fun W h => far_any A v W h)
  have HF2 := Lib.hid (fun W h => far_any B u W h)
  have HAw := Lib.hid (fun W h => awake_any W h)
  have HK : Hid (KLs w [⟨w.heap.size + 1, B, u⟩, ⟨w.heap.size, A, v⟩] [] ((w.alloc (.cells #[.int .i64 A.k, .int .i64 A.r, .int .i64 A.a, .int .i64 A.b, v] 25)).alloc (.cells #[.int .i64 B.k, .int .i64 B.r, .int .i64 B.a, .int .i64 B.b, u] 25))) := by
    have h := ((KLs.start w hw).push A hv).push B (hu.next (bel1 _ _))
    have e : (w.alloc (.cells #[.int .i64 A.k, .int .i64 A.r, .int .i64 A.a, .int .i64 A.b, v] 25)).heap.size = w.heap.size + 1 := by simp
    rw [e] at h
    exact h
  have HNv := Lib.hid hnv
  have HNu := Lib.hid hnu
  obtain ⟨p, cap, rfl, hcap, hcap2, hcell⟩ := hv
  obtain ⟨q, cap', rfl, hcap', hcap2', hcell'⟩ := hu
  clear hcell hcell' hw hnv hnu
  have x0 := (HK.out.a _ (.tail _ (.head _))).c0
  have x1 := (HK.out.a _ (.tail _ (.head _))).c1
  have x2 := (HK.out.a _ (.tail _ (.head _))).c2
  have x3 := (HK.out.a _ (.tail _ (.head _))).c3
  have x4 := (HK.out.a _ (.tail _ (.head _))).c4
  have y0 := (HK.out.a _ (.head _)).c0
  have y1 := (HK.out.a _ (.head _)).c1
  have y2 := (HK.out.a _ (.head _)).c2
  have y3 := (HK.out.a _ (.head _)).c3
  have y4 := (HK.out.a _ (.head _)).c4
  by_cases hf : 500 < A.z.length
  · rw [decide_eq_true hf] at HF1
    clear hf
    go_enter Tryd.func7, Tryd.ntmps7
    go_wp2_with (first
      | (go_at_call 11; (with_reducible refine (HF1.out _ (by with_unfolding_all exact HK.out.r _ (.tail _ (.head _)))).mono ?_); rintro e wz ⟨rfl, hb⟩; have HK2 := Lib.hid (HK.out.next hb); clear HK x0 x1 x2 x3 x4 y0 y1 y2 y3 y4; have HK := HK2; clear HK2; clear hb; have x0 := (HK.out.a _ (.tail _ (.head _))).c0; have x1 := (HK.out.a _ (.tail _ (.head _))).c1; have x2 := (HK.out.a _ (.tail _ (.head _))).c2; have x3 := (HK.out.a _ (.tail _ (.head _))).c3; have x4 := (HK.out.a _ (.tail _ (.head _))).c4; have y0 := (HK.out.a _ (.head _)).c0; have y1 := (HK.out.a _ (.head _)).c1; have y2 := (HK.out.a _ (.head _)).c2; have y3 := (HK.out.a _ (.head _)).c3; have y4 := (HK.out.a _ (.head _)).c4)
      | (go_at_call 12; (with_reducible refine (HAw.out _ HK.out.lay).mono ?_); rintro e wz ⟨rfl, hb⟩; have HK2 := Lib.hid (HK.out.next hb); clear HK x0 x1 x2 x3 x4 y0 y1 y2 y3 y4; have HK := HK2; clear HK2; clear hb; have x0 := (HK.out.a _ (.tail _ (.head _))).c0; have x1 := (HK.out.a _ (.tail _ (.head _))).c1; have x2 := (HK.out.a _ (.tail _ (.head _))).c2; have x3 := (HK.out.a _ (.tail _ (.head _))).c3; have x4 := (HK.out.a _ (.tail _ (.head _))).c4; have y0 := (HK.out.a _ (.head _)).c0; have y1 := (HK.out.a _ (.head _)).c1; have y2 := (HK.out.a _ (.head _)).c2; have y3 := (HK.out.a _ (.head _)).c3; have y4 := (HK.out.a _ (.head _)).c4))
    go_ret
    exact ⟨rfl, HK.out.bel⟩
  · by_cases hg : 500 < B.z.length
    · rw [decide_eq_false hf] at HF1
      rw [decide_eq_true hg] at HF2
      clear hf hg
      go_enter Tryd.func7, Tryd.ntmps7
      go_wp2_with (first
        | (go_at_call 11; (with_reducible refine (HF1.out _ (by with_unfolding_all exact HK.out.r _ (.tail _ (.head _)))).mono ?_); rintro e wz ⟨rfl, hb⟩; have HK2 := Lib.hid (HK.out.next hb); clear HK x0 x1 x2 x3 x4 y0 y1 y2 y3 y4; have HK := HK2; clear HK2; clear hb; have x0 := (HK.out.a _ (.tail _ (.head _))).c0; have x1 := (HK.out.a _ (.tail _ (.head _))).c1; have x2 := (HK.out.a _ (.tail _ (.head _))).c2; have x3 := (HK.out.a _ (.tail _ (.head _))).c3; have x4 := (HK.out.a _ (.tail _ (.head _))).c4; have y0 := (HK.out.a _ (.head _)).c0; have y1 := (HK.out.a _ (.head _)).c1; have y2 := (HK.out.a _ (.head _)).c2; have y3 := (HK.out.a _ (.head _)).c3; have y4 := (HK.out.a _ (.head _)).c4)
        | (go_at_call 11; (with_reducible refine (HF2.out _ (by with_unfolding_all exact HK.out.r _ (.head _))).mono ?_); rintro e wz ⟨rfl, hb⟩; have HK2 := Lib.hid (HK.out.next hb); clear HK x0 x1 x2 x3 x4 y0 y1 y2 y3 y4; have HK := HK2; clear HK2; clear hb; have x0 := (HK.out.a _ (.tail _ (.head _))).c0; have x1 := (HK.out.a _ (.tail _ (.head _))).c1; have x2 := (HK.out.a _ (.tail _ (.head _))).c2; have x3 := (HK.out.a _ (.tail _ (.head _))).c3; have x4 := (HK.out.a _ (.tail _ (.head _))).c4; have y0 := (HK.out.a _ (.head _)).c0; have y1 := (HK.out.a _ (.head _)).c1; have y2 := (HK.out.a _ (.head _)).c2; have y3 := (HK.out.a _ (.head _)).c3; have y4 := (HK.out.a _ (.head _)).c4)
        | (go_at_call 12; (with_reducible refine (HAw.out _ HK.out.lay).mono ?_); rintro e wz ⟨rfl, hb⟩; have HK2 := Lib.hid (HK.out.next hb); clear HK x0 x1 x2 x3 x4 y0 y1 y2 y3 y4; have HK := HK2; clear HK2; clear hb; have x0 := (HK.out.a _ (.tail _ (.head _))).c0; have x1 := (HK.out.a _ (.tail _ (.head _))).c1; have x2 := (HK.out.a _ (.tail _ (.head _))).c2; have x3 := (HK.out.a _ (.tail _ (.head _))).c3; have x4 := (HK.out.a _ (.tail _ (.head _))).c4; have y0 := (HK.out.a _ (.head _)).c0; have y1 := (HK.out.a _ (.head _)).c1; have y2 := (HK.out.a _ (.head _)).c2; have y3 := (HK.out.a _ (.head _)).c3; have y4 := (HK.out.a _ (.head _)).c4))
      go_ret
      exact ⟨rfl, HK.out.bel⟩
    · rw [decide_eq_false hf] at HF1
      rw [decide_eq_false hg] at HF2
      have HC1 := Lib.hid (fun v u W h0 h1 h2 => compare_any A B v u W h0 h1 h2 (by omega) (by omega))
      have HC2 := Lib.hid (fun v u W h1 h2 h3 h4 => rcompare_any A B v u W h1 h2 h3 h4 (by omega) (by omega))
      have HS1 := Lib.hid (fun v u W h1 h2 => asame_any A B v u W h1 h2 (by omega))
      have HS2 := Lib.hid (fun v u W h1 h2 => rsame_any A B v u W h1 h2 (by omega))
      have HL1 := Lib.hid (fun v u W h1 h2 => alike_any A B v u W h1 h2)
      have HL2 := Lib.hid (fun v u W h1 h2 => rlike_any A B v u W h1 h2)
      generalize cpV A B = n at HC1 HC2
      generalize cpE A B = E at HC1 HC2
      generalize smB A B = t at HS1 HS2
      generalize likeB A B = s at HL1 HL2
      have e1 : (t == t) = true := by simp
      have e2 : (s == s) = true := by simp
      clear hf hg
      go_enter Tryd.func7, Tryd.ntmps7
      go_wp2_with (first
        | (go_at_call 11; (with_reducible refine (HF1.out _ (by with_unfolding_all exact HK.out.r _ (.tail _ (.head _)))).mono ?_); rintro e wz ⟨rfl, hb⟩; have HK2 := Lib.hid (HK.out.next hb); clear HK x0 x1 x2 x3 x4 y0 y1 y2 y3 y4; have HK := HK2; clear HK2; clear hb; have x0 := (HK.out.a _ (.tail _ (.head _))).c0; have x1 := (HK.out.a _ (.tail _ (.head _))).c1; have x2 := (HK.out.a _ (.tail _ (.head _))).c2; have x3 := (HK.out.a _ (.tail _ (.head _))).c3; have x4 := (HK.out.a _ (.tail _ (.head _))).c4; have y0 := (HK.out.a _ (.head _)).c0; have y1 := (HK.out.a _ (.head _)).c1; have y2 := (HK.out.a _ (.head _)).c2; have y3 := (HK.out.a _ (.head _)).c3; have y4 := (HK.out.a _ (.head _)).c4)
        | (go_at_call 11; (with_reducible refine (HF2.out _ (by with_unfolding_all exact HK.out.r _ (.head _))).mono ?_); rintro e wz ⟨rfl, hb⟩; have HK2 := Lib.hid (HK.out.next hb); clear HK x0 x1 x2 x3 x4 y0 y1 y2 y3 y4; have HK := HK2; clear HK2; clear hb; have x0 := (HK.out.a _ (.tail _ (.head _))).c0; have x1 := (HK.out.a _ (.tail _ (.head _))).c1; have x2 := (HK.out.a _ (.tail _ (.head _))).c2; have x3 := (HK.out.a _ (.tail _ (.head _))).c3; have x4 := (HK.out.a _ (.tail _ (.head _))).c4; have y0 := (HK.out.a _ (.head _)).c0; have y1 := (HK.out.a _ (.head _)).c1; have y2 := (HK.out.a _ (.head _)).c2; have y3 := (HK.out.a _ (.head _)).c3; have y4 := (HK.out.a _ (.head _)).c4)
        | (go_at_call 36; (with_reducible refine (HC1.out _ _ _ (by with_unfolding_all exact HK.out.lay) (by with_unfolding_all exact HK.out.r _ (.tail _ (.head _))) (by with_unfolding_all exact HK.out.r _ (.head _))).mono ?_); rintro e wz ⟨rfl, hb⟩; have HK2 := Lib.hid (HK.out.next hb); clear HK x0 x1 x2 x3 x4 y0 y1 y2 y3 y4; have HK := HK2; clear HK2; clear hb; have x0 := (HK.out.a _ (.tail _ (.head _))).c0; have x1 := (HK.out.a _ (.tail _ (.head _))).c1; have x2 := (HK.out.a _ (.tail _ (.head _))).c2; have x3 := (HK.out.a _ (.tail _ (.head _))).c3; have x4 := (HK.out.a _ (.tail _ (.head _))).c4; have y0 := (HK.out.a _ (.head _)).c0; have y1 := (HK.out.a _ (.head _)).c1; have y2 := (HK.out.a _ (.head _)).c2; have y3 := (HK.out.a _ (.head _)).c3; have y4 := (HK.out.a _ (.head _)).c4)
        | (go_at_call 37; (with_reducible refine (HC2.out _ _ _ (by with_unfolding_all exact HK.out.r _ (.tail _ (.head _))) (by with_unfolding_all exact HK.out.r _ (.head _)) HNv.out HNu.out).mono ?_); rintro e wz ⟨rfl, hb⟩; have HK2 := Lib.hid (HK.out.next hb); clear HK x0 x1 x2 x3 x4 y0 y1 y2 y3 y4; have HK := HK2; clear HK2; clear hb; have x0 := (HK.out.a _ (.tail _ (.head _))).c0; have x1 := (HK.out.a _ (.tail _ (.head _))).c1; have x2 := (HK.out.a _ (.tail _ (.head _))).c2; have x3 := (HK.out.a _ (.tail _ (.head _))).c3; have x4 := (HK.out.a _ (.tail _ (.head _))).c4; have y0 := (HK.out.a _ (.head _)).c0; have y1 := (HK.out.a _ (.head _)).c1; have y2 := (HK.out.a _ (.head _)).c2; have y3 := (HK.out.a _ (.head _)).c3; have y4 := (HK.out.a _ (.head _)).c4))
      have HAll : ∀ W, KLs w [⟨w.heap.size + 1, B, (.slice q B.z.length cap')⟩, ⟨w.heap.size, A, (.slice p A.z.length cap)⟩] [] W → ((fun W => KLs w [⟨w.heap.size + 1, B, (.slice q B.z.length cap')⟩, ⟨w.heap.size, A, (.slice p A.z.length cap)⟩] [] W ∧ W.cell? ⟨w.heap.size + 1, 0, none⟩ = some (.int .i64 B.k) ∧ W.cell? ⟨w.heap.size + 1, 1, none⟩ = some (.int .i64 B.r) ∧ W.cell? ⟨w.heap.size + 1, 2, none⟩ = some (.int .i64 B.a) ∧ W.cell? ⟨w.heap.size + 1, 3, none⟩ = some (.int .i64 B.b) ∧ W.cell? ⟨w.heap.size + 1, 4, none⟩ = some (.slice q B.z.length cap') ∧ W.cell? ⟨w.heap.size, 0, none⟩ = some (.int .i64 A.k) ∧ W.cell? ⟨w.heap.size, 1, none⟩ = some (.int .i64 A.r) ∧ W.cell? ⟨w.heap.size, 2, none⟩ = some (.int .i64 A.a) ∧ W.cell? ⟨w.heap.size, 3, none⟩ = some (.int .i64 A.b) ∧ W.cell? ⟨w.heap.size, 4, none⟩ = some (.slice p A.z.length cap)) W) := fun W h => ⟨h, (h.a _ (.head _)).c0, (h.a _ (.head _)).c1, (h.a _ (.head _)).c2, (h.a _ (.head _)).c3, (h.a _ (.head _)).c4, (h.a _ (.tail _ (.head _))).c0, (h.a _ (.tail _ (.head _))).c1, (h.a _ (.tail _ (.head _))).c2, (h.a _ (.tail _ (.head _))).c3, (h.a _ (.tail _ (.head _))).c4⟩
      have hS := HK.out
      clear HK x0 x1 x2 x3 x4 y0 y1 y2 y3 y4
      go_region_held3 (fun W => KLs w [⟨w.heap.size + 1, B, (.slice q B.z.length cap')⟩, ⟨w.heap.size, A, (.slice p A.z.length cap)⟩] [] W ∧ W.cell? ⟨w.heap.size + 1, 0, none⟩ = some (.int .i64 B.k) ∧ W.cell? ⟨w.heap.size + 1, 1, none⟩ = some (.int .i64 B.r) ∧ W.cell? ⟨w.heap.size + 1, 2, none⟩ = some (.int .i64 B.a) ∧ W.cell? ⟨w.heap.size + 1, 3, none⟩ = some (.int .i64 B.b) ∧ W.cell? ⟨w.heap.size + 1, 4, none⟩ = some (.slice q B.z.length cap') ∧ W.cell? ⟨w.heap.size, 0, none⟩ = some (.int .i64 A.k) ∧ W.cell? ⟨w.heap.size, 1, none⟩ = some (.int .i64 A.r) ∧ W.cell? ⟨w.heap.size, 2, none⟩ = some (.int .i64 A.a) ∧ W.cell? ⟨w.heap.size, 3, none⟩ = some (.int .i64 A.b) ∧ W.cell? ⟨w.heap.size, 4, none⟩ = some (.slice p A.z.length cap))
        ((first | exact HAll _ ((by assumption : KLs _ _ _ _ ∧ _).1.next hbn) | exact HAll _ (by assumption : KLs _ _ _ _ ∧ _).1 | exact HAll _ (hS.next (Below.refl _ _).drew) | fail))
        (first
          | (go_at_call 38; (with_reducible refine (HS1.out _ _ _ ((by with_unfolding_all exact (by assumption : KLs _ _ _ _ ∧ _).1.r _ (.tail _ (.head _)))) ((by with_unfolding_all exact (by assumption : KLs _ _ _ _ ∧ _).1.r _ (.head _)))).mono ?_); rintro e wn ⟨rfl, hbn⟩)
          | (go_at_call 19; (with_reducible refine (HS2.out _ _ _ ((by with_unfolding_all exact (by assumption : KLs _ _ _ _ ∧ _).1.r _ (.tail _ (.head _)))) ((by with_unfolding_all exact (by assumption : KLs _ _ _ _ ∧ _).1.r _ (.head _)))).mono ?_); rintro e wn ⟨rfl, hbn⟩)
          | (go_at_call 39; (with_reducible refine (HL1.out _ _ _ ((by with_unfolding_all exact (by assumption : KLs _ _ _ _ ∧ _).1.r _ (.tail _ (.head _)))) ((by with_unfolding_all exact (by assumption : KLs _ _ _ _ ∧ _).1.r _ (.head _)))).mono ?_); rintro e wn ⟨rfl, hbn⟩)
          | (go_at_call 40; (with_reducible refine (HL2.out _ _ _ ((by with_unfolding_all exact (by assumption : KLs _ _ _ _ ∧ _).1.r _ (.tail _ (.head _)))) ((by with_unfolding_all exact (by assumption : KLs _ _ _ _ ∧ _).1.r _ (.head _)))).mono ?_); rintro e wn ⟨rfl, hbn⟩)
          | (go_at_call 12; (with_reducible refine (HAw.out _ (by with_unfolding_all exact (by assumption : KLs _ _ _ _ ∧ _).1.lay)).mono ?_); rintro e wn ⟨rfl, hbn⟩)
          | fail)
      all_goals
        have HB := Lib.hid (by assumption : KLs _ _ _ _ ∧ _).1.bel
        go_wp2_with fail
        go_ret
        exact ⟨rfl, HB.out⟩
end Go.Proofs.YtmacimkkgiogbaaDoor
