/- The law MovesCats. -/
import Derived.Test.YtbeoigmaieiigaaDoorMvY
import Derived.Test.YtbeoigmaieiigaaDoorMvW
import Derived.Test.YtbeoigmaieiigaaDoorMvO
namespace Go.Proofs.YtbeoigmaieiigaaDoor
open Go.RowKit

theorem cats_len {A B : Ar} : (ctV A B).z.length ≤ 1000000 := by
  by_cases h : ctE A B = 0
  · have := (cat_is h).len; omega
  · have : ctV A B = Ar.no := by unfold ctV; exact orNo_no h
    rw [this]; simp [Ar.no]
set_option maxRecDepth 100000 in
set_option maxHeartbeats 16000000 in
theorem lawCats_any (N V : Ar) (u v : Value) (w : World) (hw : Ru.Lay w) (hu : RdI w.heap.size w u N.z) (hv : RdI w.heap.size w v V.z) (hnu : Ru.NilC u) (hnv : Ru.NilC v) (haw : ∀ W, Ru.Lay W → Calls Tryd.prog 12 #[] W fun e w' => e = .returned (.bool true) ∧ Below W.heap.size W w') :
    Calls Tryd.prog 6 #[A5 N.k N.r N.a N.b u, A5 V.k V.r V.a V.b v] w fun e w' => e = .returned (.bool true) ∧ Below w.heap.size w w' := by
  have HF1 := Lib.hid (fun W h => far7_any N u W h)
  have HF2 := Lib.hid (fun W h => far7_any V v W h)
  have HAw := Lib.hid haw
  clear haw
  have HK : Hid (KVar w [⟨w.heap.size + 1, V, v⟩, ⟨w.heap.size, N, u⟩] ((w.alloc (.cells #[.int .i64 N.k, .int .i64 N.r, .int .i64 N.a, .int .i64 N.b, u] 25)).alloc (.cells #[.int .i64 V.k, .int .i64 V.r, .int .i64 V.a, .int .i64 V.b, v] 25))) := by
    have h := ((KVar.start w hw).arg N hu hnu).arg V hv hnv
    have e : (w.alloc (.cells #[.int .i64 N.k, .int .i64 N.r, .int .i64 N.a, .int .i64 N.b, u] 25)).heap.size = w.heap.size + 1 := by simp
    rw [e] at h
    exact h
  obtain ⟨p, cap, rfl, _, _, _⟩ := hu
  obtain ⟨q, cap', rfl, _, _, _⟩ := hv
  have HNu := Lib.hid hnu
  have HNv := Lib.hid hnv
  clear hw hnv hnu
  have x0 := (HK.out.a _ (.tail _ (.head _))).c0
  have x1 := (HK.out.a _ (.tail _ (.head _))).c1
  have x2 := (HK.out.a _ (.tail _ (.head _))).c2
  have x3 := (HK.out.a _ (.tail _ (.head _))).c3
  have x4 := (HK.out.a _ (.tail _ (.head _))).c4
  have y0 := (HK.out.a _ (.head _)).c0
  have y1 := (HK.out.a _ (.head _)).c1
  have y2 := (HK.out.a _ (.head _)).c2
  have y3 := (HK.out.a _ (.head _)).c3
  have y4 := (HK.out.a _ (.head _)).c4
  by_cases hf : 405 < N.z.length
  · rw [decide_eq_true hf] at HF1
    clear hf
    go_enter Tryd.func6, Tryd.ntmps6
    go_wp2_with (first
      | (go_at_call 11; (with_reducible refine (HF1.out _ (by with_unfolding_all exact HK.out.r _ (.tail _ (.head _)))).mono ?_); rintro e wz ⟨rfl, hb⟩; have HK2 := Lib.hid (HK.out.next hb); clear HK x0 x1 x2 x3 x4 y0 y1 y2 y3 y4; have HK := HK2; clear HK2; clear hb; have x0 := (HK.out.a _ (.tail _ (.head _))).c0; have x1 := (HK.out.a _ (.tail _ (.head _))).c1; have x2 := (HK.out.a _ (.tail _ (.head _))).c2; have x3 := (HK.out.a _ (.tail _ (.head _))).c3; have x4 := (HK.out.a _ (.tail _ (.head _))).c4; have y0 := (HK.out.a _ (.head _)).c0; have y1 := (HK.out.a _ (.head _)).c1; have y2 := (HK.out.a _ (.head _)).c2; have y3 := (HK.out.a _ (.head _)).c3; have y4 := (HK.out.a _ (.head _)).c4)
      | (go_at_call 12; (with_reducible refine (HAw.out _ (by with_unfolding_all exact HK.out.lay)).mono ?_); rintro e wz ⟨rfl, hb⟩; have HK2 := Lib.hid (HK.out.next hb); clear HK x0 x1 x2 x3 x4 y0 y1 y2 y3 y4; have HK := HK2; clear HK2; clear hb; have x0 := (HK.out.a _ (.tail _ (.head _))).c0; have x1 := (HK.out.a _ (.tail _ (.head _))).c1; have x2 := (HK.out.a _ (.tail _ (.head _))).c2; have x3 := (HK.out.a _ (.tail _ (.head _))).c3; have x4 := (HK.out.a _ (.tail _ (.head _))).c4; have y0 := (HK.out.a _ (.head _)).c0; have y1 := (HK.out.a _ (.head _)).c1; have y2 := (HK.out.a _ (.head _)).c2; have y3 := (HK.out.a _ (.head _)).c3; have y4 := (HK.out.a _ (.head _)).c4))
    go_ret
    exact ⟨rfl, HK.out.bel⟩
  · by_cases hg : 405 < V.z.length
    · rw [decide_eq_false hf] at HF1
      rw [decide_eq_true hg] at HF2
      clear hf hg
      go_enter Tryd.func6, Tryd.ntmps6
      go_wp2_with (first
        | (go_at_call 11; (with_reducible refine (HF1.out _ (by with_unfolding_all exact HK.out.r _ (.tail _ (.head _)))).mono ?_); rintro e wz ⟨rfl, hb⟩; have HK2 := Lib.hid (HK.out.next hb); clear HK x0 x1 x2 x3 x4 y0 y1 y2 y3 y4; have HK := HK2; clear HK2; clear hb; have x0 := (HK.out.a _ (.tail _ (.head _))).c0; have x1 := (HK.out.a _ (.tail _ (.head _))).c1; have x2 := (HK.out.a _ (.tail _ (.head _))).c2; have x3 := (HK.out.a _ (.tail _ (.head _))).c3; have x4 := (HK.out.a _ (.tail _ (.head _))).c4; have y0 := (HK.out.a _ (.head _)).c0; have y1 := (HK.out.a _ (.head _)).c1; have y2 := (HK.out.a _ (.head _)).c2; have y3 := (HK.out.a _ (.head _)).c3; have y4 := (HK.out.a _ (.head _)).c4)
        | (go_at_call 11; (with_reducible refine (HF2.out _ (by with_unfolding_all exact HK.out.r _ (.head _))).mono ?_); rintro e wz ⟨rfl, hb⟩; have HK2 := Lib.hid (HK.out.next hb); clear HK x0 x1 x2 x3 x4 y0 y1 y2 y3 y4; have HK := HK2; clear HK2; clear hb; have x0 := (HK.out.a _ (.tail _ (.head _))).c0; have x1 := (HK.out.a _ (.tail _ (.head _))).c1; have x2 := (HK.out.a _ (.tail _ (.head _))).c2; have x3 := (HK.out.a _ (.tail _ (.head _))).c3; have x4 := (HK.out.a _ (.tail _ (.head _))).c4; have y0 := (HK.out.a _ (.head _)).c0; have y1 := (HK.out.a _ (.head _)).c1; have y2 := (HK.out.a _ (.head _)).c2; have y3 := (HK.out.a _ (.head _)).c3; have y4 := (HK.out.a _ (.head _)).c4)
        | (go_at_call 12; (with_reducible refine (HAw.out _ (by with_unfolding_all exact HK.out.lay)).mono ?_); rintro e wz ⟨rfl, hb⟩; have HK2 := Lib.hid (HK.out.next hb); clear HK x0 x1 x2 x3 x4 y0 y1 y2 y3 y4; have HK := HK2; clear HK2; clear hb; have x0 := (HK.out.a _ (.tail _ (.head _))).c0; have x1 := (HK.out.a _ (.tail _ (.head _))).c1; have x2 := (HK.out.a _ (.tail _ (.head _))).c2; have x3 := (HK.out.a _ (.tail _ (.head _))).c3; have x4 := (HK.out.a _ (.tail _ (.head _))).c4; have y0 := (HK.out.a _ (.head _)).c0; have y1 := (HK.out.a _ (.head _)).c1; have y2 := (HK.out.a _ (.head _)).c2; have y3 := (HK.out.a _ (.head _)).c3; have y4 := (HK.out.a _ (.head _)).c4))
      go_ret
      exact ⟨rfl, HK.out.bel⟩
    · rw [decide_eq_false hf] at HF1
      rw [decide_eq_false hg] at HF2
      have hl1 := cats_len (A := N) (B := V)
      have HT1 := Lib.hid (fun W h0 h1 h2 => mcat_any N V (.slice p N.z.length cap) (.slice q V.z.length cap') W h0 h1 h2 HNu.out HNv.out (by omega) (by omega))
      have HT2 := Lib.hid (fun W h0 h1 h2 => rcat7_any N V (.slice p N.z.length cap) (.slice q V.z.length cap') W h0 h1 h2 HNu.out HNv.out (by omega) (by omega))
      generalize ctV N V = M at HT1 HT2 hl1
      generalize ctE N V = E1 at HT1 HT2
      obtain ⟨m1, m2, m3, m4, m5⟩ := M
      simp only at hl1
      have HS1 := Lib.hid (fun v u W h1 h2 => alike_lit7 m1 m2 m3 m4 m5 E1 v u W h1 h2 hl1)
      clear hf hg hl1
      go_enter Tryd.func6, Tryd.ntmps6
      go_wp2_with (first
        | (go_at_call 11; (with_reducible refine (HF1.out _ (by with_unfolding_all exact HK.out.r _ (.tail _ (.head _)))).mono ?_); rintro e wz ⟨rfl, hb⟩; have HK2 := Lib.hid (HK.out.next hb); clear HK x0 x1 x2 x3 x4 y0 y1 y2 y3 y4; have HK := HK2; clear HK2; clear hb; have x0 := (HK.out.a _ (.tail _ (.head _))).c0; have x1 := (HK.out.a _ (.tail _ (.head _))).c1; have x2 := (HK.out.a _ (.tail _ (.head _))).c2; have x3 := (HK.out.a _ (.tail _ (.head _))).c3; have x4 := (HK.out.a _ (.tail _ (.head _))).c4; have y0 := (HK.out.a _ (.head _)).c0; have y1 := (HK.out.a _ (.head _)).c1; have y2 := (HK.out.a _ (.head _)).c2; have y3 := (HK.out.a _ (.head _)).c3; have y4 := (HK.out.a _ (.head _)).c4)
        | (go_at_call 11; (with_reducible refine (HF2.out _ (by with_unfolding_all exact HK.out.r _ (.head _))).mono ?_); rintro e wz ⟨rfl, hb⟩; have HK2 := Lib.hid (HK.out.next hb); clear HK x0 x1 x2 x3 x4 y0 y1 y2 y3 y4; have HK := HK2; clear HK2; clear hb; have x0 := (HK.out.a _ (.tail _ (.head _))).c0; have x1 := (HK.out.a _ (.tail _ (.head _))).c1; have x2 := (HK.out.a _ (.tail _ (.head _))).c2; have x3 := (HK.out.a _ (.tail _ (.head _))).c3; have x4 := (HK.out.a _ (.tail _ (.head _))).c4; have y0 := (HK.out.a _ (.head _)).c0; have y1 := (HK.out.a _ (.head _)).c1; have y2 := (HK.out.a _ (.head _)).c2; have y3 := (HK.out.a _ (.head _)).c3; have y4 := (HK.out.a _ (.head _)).c4)
        | (go_at_call 28; (with_reducible refine (HT1.out _ (by with_unfolding_all exact HK.out.lay) (by with_unfolding_all exact HK.out.r _ (.tail _ (.head _))) (by with_unfolding_all exact HK.out.r _ (.head _))).mono ?_); rintro e wa ⟨uwa, rfl, hu, hb⟩; obtain ⟨pwa, cwa, hpwa, _, _⟩ := hu.form; have hqwa : uwa = (.slice pwa m5.length cwa) := hpwa; subst hqwa; clear hpwa; have hltyr : (w.heap.size + 1) < wa.heap.size := Nat.lt_of_lt_of_le (HK.out.lt _ (.head _)) hb.size; have hltxr : w.heap.size < wa.heap.size := Nat.lt_of_lt_of_le (HK.out.lt _ (.tail _ (.head _))) hb.size; have HK2 := Lib.hid (HK.out.res hb ⟨m1, m2, m3, m4, m5⟩ hu); clear HK x0 x1 x2 x3 x4 y0 y1 y2 y3 y4; have HK := HK2; clear HK2; clear hb hu; have x0 := (HK.out.a _ (.tail _ (.tail _ (.head _)))).c0; have x1 := (HK.out.a _ (.tail _ (.tail _ (.head _)))).c1; have x2 := (HK.out.a _ (.tail _ (.tail _ (.head _)))).c2; have x3 := (HK.out.a _ (.tail _ (.tail _ (.head _)))).c3; have x4 := (HK.out.a _ (.tail _ (.tail _ (.head _)))).c4; have y0 := (HK.out.a _ (.tail _ (.head _))).c0; have y1 := (HK.out.a _ (.tail _ (.head _))).c1; have y2 := (HK.out.a _ (.tail _ (.head _))).c2; have y3 := (HK.out.a _ (.tail _ (.head _))).c3; have y4 := (HK.out.a _ (.tail _ (.head _))).c4; have r0 := (HK.out.a _ (.head _)).c0; have r1 := (HK.out.a _ (.head _)).c1; have r2 := (HK.out.a _ (.head _)).c2; have r3 := (HK.out.a _ (.head _)).c3; have r4 := (HK.out.a _ (.head _)).c4)
        | (go_at_call 29; (with_reducible refine (HT2.out _ (by with_unfolding_all exact HK.out.lay) (by with_unfolding_all exact HK.out.r _ (.tail _ (.tail _ (.head _)))) (by with_unfolding_all exact HK.out.r _ (.tail _ (.head _)))).mono ?_); rintro e wb ⟨uwb, rfl, hu, hb⟩; obtain ⟨pwb, cwb, hpwb, _, _⟩ := hu.form; have hqwb : uwb = (.slice pwb m5.length cwb) := hpwb; subst hqwb; clear hpwb; have hltrs : wa.heap.size < wb.heap.size := Nat.lt_of_lt_of_le (HK.out.lt _ (.head _)) hb.size; have hltys : (w.heap.size + 1) < wb.heap.size := Nat.lt_of_lt_of_le (HK.out.lt _ (.tail _ (.head _))) hb.size; have hltxs : w.heap.size < wb.heap.size := Nat.lt_of_lt_of_le (HK.out.lt _ (.tail _ (.tail _ (.head _)))) hb.size; have HK2 := Lib.hid (HK.out.res hb ⟨m1, m2, m3, m4, m5⟩ hu); clear HK x0 x1 x2 x3 x4 y0 y1 y2 y3 y4 r0 r1 r2 r3 r4; have HK := HK2; clear HK2; clear hb hu; have x0 := (HK.out.a _ (.tail _ (.tail _ (.tail _ (.head _))))).c0; have x1 := (HK.out.a _ (.tail _ (.tail _ (.tail _ (.head _))))).c1; have x2 := (HK.out.a _ (.tail _ (.tail _ (.tail _ (.head _))))).c2; have x3 := (HK.out.a _ (.tail _ (.tail _ (.tail _ (.head _))))).c3; have x4 := (HK.out.a _ (.tail _ (.tail _ (.tail _ (.head _))))).c4; have y0 := (HK.out.a _ (.tail _ (.tail _ (.head _)))).c0; have y1 := (HK.out.a _ (.tail _ (.tail _ (.head _)))).c1; have y2 := (HK.out.a _ (.tail _ (.tail _ (.head _)))).c2; have y3 := (HK.out.a _ (.tail _ (.tail _ (.head _)))).c3; have y4 := (HK.out.a _ (.tail _ (.tail _ (.head _)))).c4; have r0 := (HK.out.a _ (.tail _ (.head _))).c0; have r1 := (HK.out.a _ (.tail _ (.head _))).c1; have r2 := (HK.out.a _ (.tail _ (.head _))).c2; have r3 := (HK.out.a _ (.tail _ (.head _))).c3; have r4 := (HK.out.a _ (.tail _ (.head _))).c4; have s0 := (HK.out.a _ (.head _)).c0; have s1 := (HK.out.a _ (.head _)).c1; have s2 := (HK.out.a _ (.head _)).c2; have s3 := (HK.out.a _ (.head _)).c3; have s4 := (HK.out.a _ (.head _)).c4)
        | (go_at_call 15; (with_reducible refine (HS1.out _ _ _ (by with_unfolding_all exact HK.out.r _ (.tail _ (.head _))) (by with_unfolding_all exact HK.out.r _ (.head _))).mono ?_); rintro e wz ⟨rfl, hb⟩; have HK2 := Lib.hid (HK.out.next hb); clear HK x0 x1 x2 x3 x4 y0 y1 y2 y3 y4 r0 r1 r2 r3 r4 s0 s1 s2 s3 s4; have HK := HK2; clear HK2; clear hb; have x0 := (HK.out.a _ (.tail _ (.tail _ (.tail _ (.head _))))).c0; have x1 := (HK.out.a _ (.tail _ (.tail _ (.tail _ (.head _))))).c1; have x2 := (HK.out.a _ (.tail _ (.tail _ (.tail _ (.head _))))).c2; have x3 := (HK.out.a _ (.tail _ (.tail _ (.tail _ (.head _))))).c3; have x4 := (HK.out.a _ (.tail _ (.tail _ (.tail _ (.head _))))).c4; have y0 := (HK.out.a _ (.tail _ (.tail _ (.head _)))).c0; have y1 := (HK.out.a _ (.tail _ (.tail _ (.head _)))).c1; have y2 := (HK.out.a _ (.tail _ (.tail _ (.head _)))).c2; have y3 := (HK.out.a _ (.tail _ (.tail _ (.head _)))).c3; have y4 := (HK.out.a _ (.tail _ (.tail _ (.head _)))).c4; have r0 := (HK.out.a _ (.tail _ (.head _))).c0; have r1 := (HK.out.a _ (.tail _ (.head _))).c1; have r2 := (HK.out.a _ (.tail _ (.head _))).c2; have r3 := (HK.out.a _ (.tail _ (.head _))).c3; have r4 := (HK.out.a _ (.tail _ (.head _))).c4; have s0 := (HK.out.a _ (.head _)).c0; have s1 := (HK.out.a _ (.head _)).c1; have s2 := (HK.out.a _ (.head _)).c2; have s3 := (HK.out.a _ (.head _)).c3; have s4 := (HK.out.a _ (.head _)).c4)
        | (go_at_call 12; (with_reducible refine (HAw.out _ (by with_unfolding_all exact HK.out.lay)).mono ?_); rintro e wz ⟨rfl, hb⟩; have HK2 := Lib.hid (HK.out.next hb); clear HK x0 x1 x2 x3 x4 y0 y1 y2 y3 y4 r0 r1 r2 r3 r4 s0 s1 s2 s3 s4; have HK := HK2; clear HK2; clear hb; have x0 := (HK.out.a _ (.tail _ (.tail _ (.tail _ (.head _))))).c0; have x1 := (HK.out.a _ (.tail _ (.tail _ (.tail _ (.head _))))).c1; have x2 := (HK.out.a _ (.tail _ (.tail _ (.tail _ (.head _))))).c2; have x3 := (HK.out.a _ (.tail _ (.tail _ (.tail _ (.head _))))).c3; have x4 := (HK.out.a _ (.tail _ (.tail _ (.tail _ (.head _))))).c4; have y0 := (HK.out.a _ (.tail _ (.tail _ (.head _)))).c0; have y1 := (HK.out.a _ (.tail _ (.tail _ (.head _)))).c1; have y2 := (HK.out.a _ (.tail _ (.tail _ (.head _)))).c2; have y3 := (HK.out.a _ (.tail _ (.tail _ (.head _)))).c3; have y4 := (HK.out.a _ (.tail _ (.tail _ (.head _)))).c4; have r0 := (HK.out.a _ (.tail _ (.head _))).c0; have r1 := (HK.out.a _ (.tail _ (.head _))).c1; have r2 := (HK.out.a _ (.tail _ (.head _))).c2; have r3 := (HK.out.a _ (.tail _ (.head _))).c3; have r4 := (HK.out.a _ (.tail _ (.head _))).c4; have s0 := (HK.out.a _ (.head _)).c0; have s1 := (HK.out.a _ (.head _)).c1; have s2 := (HK.out.a _ (.head _)).c2; have s3 := (HK.out.a _ (.head _)).c3; have s4 := (HK.out.a _ (.head _)).c4))
      go_ret
      exact ⟨rfl, HK.out.bel⟩
end Go.Proofs.YtbeoigmaieiigaaDoor
