/- The law ArraysCells. -/
import Derived.Test.YtmacimkkgiogbaaDoorArR0
import Derived.Test.YtmacimkkgiogbaaDoorArT
namespace Go.Proofs.YtmacimkkgiogbaaDoor
open Go.RowKit

theorem wt_len (A : Ar) (p q v : Int) : (wtV A p q v).z.length ≤ A.z.length := by
  unfold wtV wtA
  split
  · simp
  · simp [Ar.no]
set_option maxRecDepth 100000 in
set_option maxHeartbeats 8000000 in
theorem lawCells_any (A : Ar) (u : Value) (p q x : Int) (w : World) (hw : Ru.Lay w) (hv : RdI w.heap.size w u A.z) (hn : Ru.NilC u) :
    Calls Tryd.prog 5 #[A5 A.k A.r A.a A.b u, P2 p q, .int .i64 x] w fun e w' => e = .returned (.bool true) ∧ Below w.heap.size w w' := by
  have HFar := Lib.hid (fun W h => far_any A u W h)
  have HAw := Lib.hid (fun W h => awake_any W h)
  have HK : Hid (KLs w [⟨w.heap.size, A, u⟩] [(w.heap.size + 1, p, q)] ((w.alloc (.cells #[.int .i64 A.k, .int .i64 A.r, .int .i64 A.a, .int .i64 A.b, u] 25)).alloc (.cells #[.int .i64 p, .int .i64 q] 22))) := by
    have h := ((KLs.start w hw).push A hv).pair p q
    have e : (w.alloc (.cells #[.int .i64 A.k, .int .i64 A.r, .int .i64 A.a, .int .i64 A.b, u] 25)).heap.size = w.heap.size + 1 := by simp
    rw [e] at h
    exact h
  have HN := Lib.hid hn
  obtain ⟨t, cap, rfl, hcap, hcap2, hcell⟩ := hv
  clear hcell hw hn
  have x0 := (HK.out.a _ (.head _)).c0
  have x1 := (HK.out.a _ (.head _)).c1
  have x2 := (HK.out.a _ (.head _)).c2
  have x3 := (HK.out.a _ (.head _)).c3
  have x4 := (HK.out.a _ (.head _)).c4
  have y0 := (HK.out.b _ (.head _)).c0
  have y1 := (HK.out.b _ (.head _)).c1
  by_cases hf : 500 < A.z.length
  · rw [decide_eq_true hf] at HFar
    clear hf
    go_enter Tryd.func5, Tryd.ntmps5
    go_wp2_with (first
      | (go_at_call 11; (with_reducible refine (HFar.out _ (by with_unfolding_all exact HK.out.r _ (.head _))).mono ?_); rintro e wz ⟨rfl, hb⟩; have HK2 := Lib.hid (HK.out.next hb); clear HK x0 x1 x2 x3 x4 y0 y1; have HK := HK2; clear HK2; clear hb; have x0 := (HK.out.a _ (.head _)).c0; have x1 := (HK.out.a _ (.head _)).c1; have x2 := (HK.out.a _ (.head _)).c2; have x3 := (HK.out.a _ (.head _)).c3; have x4 := (HK.out.a _ (.head _)).c4; have y0 := (HK.out.b _ (.head _)).c0; have y1 := (HK.out.b _ (.head _)).c1)
      | (go_at_call 12; (with_reducible refine (HAw.out _ HK.out.lay).mono ?_); rintro e wz ⟨rfl, hb⟩; have HK2 := Lib.hid (HK.out.next hb); clear HK x0 x1 x2 x3 x4 y0 y1; have HK := HK2; clear HK2; clear hb; have x0 := (HK.out.a _ (.head _)).c0; have x1 := (HK.out.a _ (.head _)).c1; have x2 := (HK.out.a _ (.head _)).c2; have x3 := (HK.out.a _ (.head _)).c3; have x4 := (HK.out.a _ (.head _)).c4; have y0 := (HK.out.b _ (.head _)).c0; have y1 := (HK.out.b _ (.head _)).c1))
    go_ret
    exact ⟨rfl, HK.out.bel⟩
  · rw [decide_eq_false hf] at HFar
    have hml := wt_len A p q x
    have HA1 := Lib.hid (fun v W h1 h2 => at_any A v p q W h1 h2 (by omega))
    have HA2 := Lib.hid (fun v W h1 h2 => rat_any A v p q W h1 h2 (by omega))
    have HW1 := Lib.hid (fun v W h1 h2 h3 => with_any A v p q x W h1 h2 h3 (by omega))
    have HW2 := Lib.hid (fun v W h1 h2 h3 => rwith_any A v p q x W h1 h2 h3 (by omega))
    generalize wtV A p q x = M at HW1 HW2 hml
    generalize wtE A p q x = E at HW1 HW2
    generalize atV A p q = X at HA1 HA2
    generalize atE A p q = F at HA1 HA2
    obtain ⟨m1, m2, m3, m4, m5⟩ := M
    simp only at hml
    have hm5 : m5.length ≤ 1000000 := by omega
    have HS1 := Lib.hid (fun v u W h1 h2 => same_eq m1 m2 m3 m4 m5 v u W h1 h2 hm5)
    clear hf hml hm5
    go_enter Tryd.func5, Tryd.ntmps5
    go_wp2_with (first
      | (go_at_call 11; (with_reducible refine (HFar.out _ (by with_unfolding_all exact HK.out.r _ (.head _))).mono ?_); rintro e wz ⟨rfl, hb⟩; have HK2 := Lib.hid (HK.out.next hb); clear HK x0 x1 x2 x3 x4 y0 y1; have HK := HK2; clear HK2; clear hb; have x0 := (HK.out.a _ (.head _)).c0; have x1 := (HK.out.a _ (.head _)).c1; have x2 := (HK.out.a _ (.head _)).c2; have x3 := (HK.out.a _ (.head _)).c3; have x4 := (HK.out.a _ (.head _)).c4; have y0 := (HK.out.b _ (.head _)).c0; have y1 := (HK.out.b _ (.head _)).c1)
      | (go_at_call 28; (with_reducible refine (HA1.out _ _ HK.out.lay (by with_unfolding_all exact HK.out.r _ (.head _))).mono ?_); rintro e wz ⟨rfl, hb⟩; have HK2 := Lib.hid (HK.out.next hb); clear HK x0 x1 x2 x3 x4 y0 y1; have HK := HK2; clear HK2; clear hb; have x0 := (HK.out.a _ (.head _)).c0; have x1 := (HK.out.a _ (.head _)).c1; have x2 := (HK.out.a _ (.head _)).c2; have x3 := (HK.out.a _ (.head _)).c3; have x4 := (HK.out.a _ (.head _)).c4; have y0 := (HK.out.b _ (.head _)).c0; have y1 := (HK.out.b _ (.head _)).c1)
      | (go_at_call 29; (with_reducible refine (HA2.out _ _ HK.out.lay (by with_unfolding_all exact HK.out.r _ (.head _))).mono ?_); rintro e wz ⟨rfl, hb⟩; have HK2 := Lib.hid (HK.out.next hb); clear HK x0 x1 x2 x3 x4 y0 y1; have HK := HK2; clear HK2; clear hb; have x0 := (HK.out.a _ (.head _)).c0; have x1 := (HK.out.a _ (.head _)).c1; have x2 := (HK.out.a _ (.head _)).c2; have x3 := (HK.out.a _ (.head _)).c3; have x4 := (HK.out.a _ (.head _)).c4; have y0 := (HK.out.b _ (.head _)).c0; have y1 := (HK.out.b _ (.head _)).c1)
      | (go_at_call 30; (with_reducible refine (HW1.out _ _ HK.out.lay (by with_unfolding_all exact HK.out.r _ (.head _)) HN.out).mono ?_); rintro e wa ⟨uwa, rfl, hu, hb⟩; obtain ⟨pwa, cwa, hpwa, _, _⟩ := hu.form; have hqwa : uwa = (.slice pwa m5.length cwa) := hpwa; subst hqwa; clear hpwa; have HK2 := Lib.hid ((HK.out.next hb).push ⟨m1, m2, m3, m4, m5⟩ hu.rd); clear HK x0 x1 x2 x3 x4 y0 y1; have HK := HK2; clear HK2; clear hb hu; have x0 := (HK.out.a _ (.tail _ (.head _))).c0; have x1 := (HK.out.a _ (.tail _ (.head _))).c1; have x2 := (HK.out.a _ (.tail _ (.head _))).c2; have x3 := (HK.out.a _ (.tail _ (.head _))).c3; have x4 := (HK.out.a _ (.tail _ (.head _))).c4; have y0 := (HK.out.b _ (.head _)).c0; have y1 := (HK.out.b _ (.head _)).c1)
      | (go_at_call 31; (with_reducible refine (HW2.out _ _ HK.out.lay (by with_unfolding_all exact HK.out.r _ (.tail _ (.head _))) HN.out).mono ?_); rintro e wb ⟨uwb, rfl, hu, hb⟩; obtain ⟨pwb, cwb, hpwb, _, _⟩ := hu.form; have hqwb : uwb = (.slice pwb m5.length cwb) := hpwb; subst hqwb; clear hpwb; have HK2 := Lib.hid ((HK.out.next hb).push ⟨m1, m2, m3, m4, m5⟩ hu.rd); clear HK x0 x1 x2 x3 x4 y0 y1; have HK := HK2; clear HK2; clear hb hu; have x0 := (HK.out.a _ (.tail _ (.tail _ (.head _)))).c0; have x1 := (HK.out.a _ (.tail _ (.tail _ (.head _)))).c1; have x2 := (HK.out.a _ (.tail _ (.tail _ (.head _)))).c2; have x3 := (HK.out.a _ (.tail _ (.tail _ (.head _)))).c3; have x4 := (HK.out.a _ (.tail _ (.tail _ (.head _)))).c4; have y0 := (HK.out.b _ (.head _)).c0; have y1 := (HK.out.b _ (.head _)).c1; have r0 := (HK.out.a _ (.tail _ (.head _))).c0; have r1 := (HK.out.a _ (.tail _ (.head _))).c1; have r2 := (HK.out.a _ (.tail _ (.head _))).c2; have r3 := (HK.out.a _ (.tail _ (.head _))).c3; have r4 := (HK.out.a _ (.tail _ (.head _))).c4; have s0 := (HK.out.a _ (.head _)).c0; have s1 := (HK.out.a _ (.head _)).c1; have s2 := (HK.out.a _ (.head _)).c2; have s3 := (HK.out.a _ (.head _)).c3; have s4 := (HK.out.a _ (.head _)).c4)
      | (go_at_call 19; (with_reducible refine (HS1.out _ _ _ (by with_unfolding_all exact HK.out.r _ (.tail _ (.head _))) (by with_unfolding_all exact HK.out.r _ (.head _))).mono ?_); rintro e wz ⟨rfl, hb⟩; have HK2 := Lib.hid (HK.out.next hb); clear HK x0 x1 x2 x3 x4 r0 r1 r2 r3 r4 s0 s1 s2 s3 s4 y0 y1; have HK := HK2; clear HK2; clear hb; have x0 := (HK.out.a _ (.tail _ (.tail _ (.head _)))).c0; have x1 := (HK.out.a _ (.tail _ (.tail _ (.head _)))).c1; have x2 := (HK.out.a _ (.tail _ (.tail _ (.head _)))).c2; have x3 := (HK.out.a _ (.tail _ (.tail _ (.head _)))).c3; have x4 := (HK.out.a _ (.tail _ (.tail _ (.head _)))).c4; have r0 := (HK.out.a _ (.tail _ (.head _))).c0; have r1 := (HK.out.a _ (.tail _ (.head _))).c1; have r2 := (HK.out.a _ (.tail _ (.head _))).c2; have r3 := (HK.out.a _ (.tail _ (.head _))).c3; have r4 := (HK.out.a _ (.tail _ (.head _))).c4; have s0 := (HK.out.a _ (.head _)).c0; have s1 := (HK.out.a _ (.head _)).c1; have s2 := (HK.out.a _ (.head _)).c2; have s3 := (HK.out.a _ (.head _)).c3; have s4 := (HK.out.a _ (.head _)).c4; have y0 := (HK.out.b _ (.head _)).c0; have y1 := (HK.out.b _ (.head _)).c1)
      | (go_at_call 12; (with_reducible refine (HAw.out _ HK.out.lay).mono ?_); rintro e wz ⟨rfl, hb⟩; have HK2 := Lib.hid (HK.out.next hb); clear HK x0 x1 x2 x3 x4 r0 r1 r2 r3 r4 s0 s1 s2 s3 s4 y0 y1; have HK := HK2; clear HK2; clear hb; have x0 := (HK.out.a _ (.tail _ (.tail _ (.head _)))).c0; have x1 := (HK.out.a _ (.tail _ (.tail _ (.head _)))).c1; have x2 := (HK.out.a _ (.tail _ (.tail _ (.head _)))).c2; have x3 := (HK.out.a _ (.tail _ (.tail _ (.head _)))).c3; have x4 := (HK.out.a _ (.tail _ (.tail _ (.head _)))).c4; have r0 := (HK.out.a _ (.tail _ (.head _))).c0; have r1 := (HK.out.a _ (.tail _ (.head _))).c1; have r2 := (HK.out.a _ (.tail _ (.head _))).c2; have r3 := (HK.out.a _ (.tail _ (.head _))).c3; have r4 := (HK.out.a _ (.tail _ (.head _))).c4; have s0 := (HK.out.a _ (.head _)).c0; have s1 := (HK.out.a _ (.head _)).c1; have s2 := (HK.out.a _ (.head _)).c2; have s3 := (HK.out.a _ (.head _)).c3; have s4 := (HK.out.a _ (.head _)).c4; have y0 := (HK.out.b _ (.head _)).c0; have y1 := (HK.out.b _ (.head _)).c1))
    go_ret
    exact ⟨rfl, HK.out.bel⟩
end Go.Proofs.YtmacimkkgiogbaaDoor
