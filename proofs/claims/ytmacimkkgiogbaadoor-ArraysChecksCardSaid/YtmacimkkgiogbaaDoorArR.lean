/- The law ArraysChecks. -/
import Derived.Test.YtmacimkkgiogbaaDoorArR0
namespace Go.Proofs.YtmacimkkgiogbaaDoor
open Go.RowKit

set_option maxRecDepth 100000 in
set_option maxHeartbeats 8000000 in
theorem lawChecks_any (A : Ar) (u : Value) (kind rank : Int) (w : World) (hw : Ru.Lay w) (hv : RdI w.heap.size w u A.z) (hn : Ru.NilC u) :
    Calls Tryd.prog 3 #[A5 A.k A.r A.a A.b u, .int .i64 kind, .int .i64 rank] w fun e w' => e = .returned (.bool true) ∧ Below w.heap.size w w' := by
  have HFar := Lib.hid (fun W h => far_any A u W h)
  have HAw := Lib.hid (fun W h => awake_any W h)
  have HK : Hid (KLs w [⟨w.heap.size, A, u⟩] [] (w.alloc (.cells #[.int .i64 A.k, .int .i64 A.r, .int .i64 A.a, .int .i64 A.b, u] 25))) := (KLs.start w hw).push A hv
  have HN := Lib.hid hn
  obtain ⟨p, cap, rfl, hcap, hcap2, hcell⟩ := hv
  clear hcell hw hn
  have x0 := (HK.out.a _ (.head _)).c0
  have x1 := (HK.out.a _ (.head _)).c1
  have x2 := (HK.out.a _ (.head _)).c2
  have x3 := (HK.out.a _ (.head _)).c3
  have x4 := (HK.out.a _ (.head _)).c4
  by_cases hf : 500 < A.z.length
  · rw [decide_eq_true hf] at HFar
    clear hf
    go_enter Tryd.func3, Tryd.ntmps3
    go_wp2_with (first
      | (go_at_call 11; (with_reducible refine (HFar.out _ (by with_unfolding_all exact HK.out.r _ (.head _))).mono ?_); rintro e wz ⟨rfl, hb⟩; have HK2 := Lib.hid (HK.out.next hb); clear HK x0 x1 x2 x3 x4; have HK := HK2; clear HK2; clear hb; have x0 := (HK.out.a _ (.head _)).c0; have x1 := (HK.out.a _ (.head _)).c1; have x2 := (HK.out.a _ (.head _)).c2; have x3 := (HK.out.a _ (.head _)).c3; have x4 := (HK.out.a _ (.head _)).c4)
      | (go_at_call 12; (with_reducible refine (HAw.out _ HK.out.lay).mono ?_); rintro e wz ⟨rfl, hb⟩; have HK2 := Lib.hid (HK.out.next hb); clear HK x0 x1 x2 x3 x4; have HK := HK2; clear HK2; clear hb; have x0 := (HK.out.a _ (.head _)).c0; have x1 := (HK.out.a _ (.head _)).c1; have x2 := (HK.out.a _ (.head _)).c2; have x3 := (HK.out.a _ (.head _)).c3; have x4 := (HK.out.a _ (.head _)).c4))
    go_ret
    exact ⟨rfl, HK.out.bel⟩
  · rw [decide_eq_false hf] at HFar
    have hml := mk_len A
    have HM1 := Lib.hid (fun v W h1 h2 => make_any A.k A.r A.a A.b A.z v W h1 h2 (by omega))
    have HM2 := Lib.hid (fun v W h1 h2 h3 => rmake_any A.k A.r A.a A.b A.z v W h1 h2 h3 (by omega))
    have HZ1 := Lib.hid (fun W h => zero_any kind rank W h)
    have HZ2 := Lib.hid (fun W => rzero_any kind rank W)
    have HC1 := Lib.hid (fun v W h1 h2 => acheck_any A v W h1 h2 (by omega))
    have HC2 := Lib.hid (fun v W h2 => archeck_any A v W h2 (by omega))
    have hzl : (zeV kind rank).z.length ≤ 1 := by unfold zeV; split; (· split <;> simp); (· simp [Ar.no])
    obtain ⟨M, hM⟩ : ∃ M, mk ⟨A.k, A.r, A.a, A.b, A.z⟩ = M := ⟨_, rfl⟩
    obtain ⟨E, hE⟩ : ∃ E, ck ⟨A.k, A.r, A.a, A.b, A.z⟩ = E := ⟨_, rfl⟩
    obtain ⟨Z, hZ⟩ : ∃ Z, zeV kind rank = Z := ⟨_, rfl⟩
    obtain ⟨F, hF⟩ : ∃ F, zeE kind rank = F := ⟨_, rfl⟩
    rw [hM, hE] at HM1 HM2
    have hM' : mk A = M := hM
    rw [hM'] at hml
    rw [hZ] at hzl HZ1 HZ2
    rw [hF] at HZ1 HZ2
    have hE' : ck A = E := hE
    rw [hE'] at HC1 HC2
    clear hM hE hZ hF hM' hE'
    obtain ⟨m1, m2, m3, m4, m5⟩ := M
    obtain ⟨z1, z2, z3, z4, z5⟩ := Z
    simp only at hml hzl
    have hm5 : m5.length ≤ 1000000 := by omega
    have hz5 : z5.length ≤ 1000000 := by omega
    have HS1 := Lib.hid (fun v u W h1 h2 => same_eq m1 m2 m3 m4 m5 v u W h1 h2 hm5)
    have HS2 := Lib.hid (fun v u W h1 h2 => same_eq z1 z2 z3 z4 z5 v u W h1 h2 hz5)
    clear hf hml hzl hm5 hz5
    go_enter Tryd.func3, Tryd.ntmps3
    go_wp2_with (first
      | (go_at_call 11; (with_reducible refine (HFar.out _ (by with_unfolding_all exact HK.out.r _ (.head _))).mono ?_); rintro e wz ⟨rfl, hb⟩; have HK2 := Lib.hid (HK.out.next hb); clear HK x0 x1 x2 x3 x4; have HK := HK2; clear HK2; clear hb; have x0 := (HK.out.a _ (.head _)).c0; have x1 := (HK.out.a _ (.head _)).c1; have x2 := (HK.out.a _ (.head _)).c2; have x3 := (HK.out.a _ (.head _)).c3; have x4 := (HK.out.a _ (.head _)).c4)
      | (go_at_call 13; (with_reducible refine (HM1.out _ _ HK.out.lay (by with_unfolding_all exact HK.out.r _ (.head _))).mono ?_); rintro e wa ⟨uwa, rfl, hu, hb⟩; obtain ⟨pwa, cwa, hpwa, _, _⟩ := hu.form; have hqwa : uwa = (.slice pwa m5.length cwa) := hpwa; subst hqwa; clear hpwa; have HK2 := Lib.hid ((HK.out.next hb).push ⟨m1, m2, m3, m4, m5⟩ hu.rd); clear HK x0 x1 x2 x3 x4; have HK := HK2; clear HK2; clear hb hu; have x0 := (HK.out.a _ (.tail _ (.head _))).c0; have x1 := (HK.out.a _ (.tail _ (.head _))).c1; have x2 := (HK.out.a _ (.tail _ (.head _))).c2; have x3 := (HK.out.a _ (.tail _ (.head _))).c3; have x4 := (HK.out.a _ (.tail _ (.head _))).c4)
      | (go_at_call 14; (with_reducible refine (HM2.out _ _ HK.out.lay (by with_unfolding_all exact HK.out.r _ (.tail _ (.head _))) HN.out).mono ?_); rintro e wb ⟨uwb, rfl, hu, hb⟩; obtain ⟨pwb, cwb, hpwb, _, _⟩ := hu.form; have hqwb : uwb = (.slice pwb m5.length cwb) := hpwb; subst hqwb; clear hpwb; have HK2 := Lib.hid ((HK.out.next hb).push ⟨m1, m2, m3, m4, m5⟩ hu.rd); clear HK x0 x1 x2 x3 x4; have HK := HK2; clear HK2; clear hb hu; have x0 := (HK.out.a _ (.tail _ (.tail _ (.head _)))).c0; have x1 := (HK.out.a _ (.tail _ (.tail _ (.head _)))).c1; have x2 := (HK.out.a _ (.tail _ (.tail _ (.head _)))).c2; have x3 := (HK.out.a _ (.tail _ (.tail _ (.head _)))).c3; have x4 := (HK.out.a _ (.tail _ (.tail _ (.head _)))).c4)
      | (go_at_call 15; (with_reducible refine (HZ1.out _ HK.out.lay).mono ?_); rintro e wc ⟨uwc, rfl, hu, hb⟩; obtain ⟨pwc, cwc, hpwc, _, _⟩ := hu.form; have hqwc : uwc = (.slice pwc z5.length cwc) := hpwc; subst hqwc; clear hpwc; have HK2 := Lib.hid ((HK.out.next hb).push ⟨z1, z2, z3, z4, z5⟩ hu.rd); clear HK x0 x1 x2 x3 x4; have HK := HK2; clear HK2; clear hb hu; have x0 := (HK.out.a _ (.tail _ (.tail _ (.tail _ (.head _))))).c0; have x1 := (HK.out.a _ (.tail _ (.tail _ (.tail _ (.head _))))).c1; have x2 := (HK.out.a _ (.tail _ (.tail _ (.tail _ (.head _))))).c2; have x3 := (HK.out.a _ (.tail _ (.tail _ (.tail _ (.head _))))).c3; have x4 := (HK.out.a _ (.tail _ (.tail _ (.tail _ (.head _))))).c4)
      | (go_at_call 16; (with_reducible refine (HZ2.out _).mono ?_); rintro e wd ⟨uwd, rfl, hu, hb⟩; obtain ⟨pwd, cwd, hpwd, _, _⟩ := hu.form; have hqwd : uwd = (.slice pwd z5.length cwd) := hpwd; subst hqwd; clear hpwd; have HK2 := Lib.hid ((HK.out.next hb).push ⟨z1, z2, z3, z4, z5⟩ hu.rd); clear HK x0 x1 x2 x3 x4; have HK := HK2; clear HK2; clear hb hu; have x0 := (HK.out.a _ (.tail _ (.tail _ (.tail _ (.tail _ (.head _)))))).c0; have x1 := (HK.out.a _ (.tail _ (.tail _ (.tail _ (.tail _ (.head _)))))).c1; have x2 := (HK.out.a _ (.tail _ (.tail _ (.tail _ (.tail _ (.head _)))))).c2; have x3 := (HK.out.a _ (.tail _ (.tail _ (.tail _ (.tail _ (.head _)))))).c3; have x4 := (HK.out.a _ (.tail _ (.tail _ (.tail _ (.tail _ (.head _)))))).c4))
    have HAll : ∀ W, KLs w [⟨wd.heap.size, ⟨z1, z2, z3, z4, z5⟩, (.slice pwd z5.length cwd)⟩, ⟨wc.heap.size, ⟨z1, z2, z3, z4, z5⟩, (.slice pwc z5.length cwc)⟩, ⟨wb.heap.size, ⟨m1, m2, m3, m4, m5⟩, (.slice pwb m5.length cwb)⟩, ⟨wa.heap.size, ⟨m1, m2, m3, m4, m5⟩, (.slice pwa m5.length cwa)⟩, ⟨w.heap.size, A, (.slice p A.z.length cap)⟩] [] W → ((fun W => KLs w [⟨wd.heap.size, ⟨z1, z2, z3, z4, z5⟩, (.slice pwd z5.length cwd)⟩, ⟨wc.heap.size, ⟨z1, z2, z3, z4, z5⟩, (.slice pwc z5.length cwc)⟩, ⟨wb.heap.size, ⟨m1, m2, m3, m4, m5⟩, (.slice pwb m5.length cwb)⟩, ⟨wa.heap.size, ⟨m1, m2, m3, m4, m5⟩, (.slice pwa m5.length cwa)⟩, ⟨w.heap.size, A, (.slice p A.z.length cap)⟩] [] W ∧ W.cell? ⟨wd.heap.size, 0, none⟩ = some (.int .i64 z1) ∧ W.cell? ⟨wd.heap.size, 1, none⟩ = some (.int .i64 z2) ∧ W.cell? ⟨wd.heap.size, 2, none⟩ = some (.int .i64 z3) ∧ W.cell? ⟨wd.heap.size, 3, none⟩ = some (.int .i64 z4) ∧ W.cell? ⟨wd.heap.size, 4, none⟩ = some (.slice pwd z5.length cwd) ∧ W.cell? ⟨wc.heap.size, 0, none⟩ = some (.int .i64 z1) ∧ W.cell? ⟨wc.heap.size, 1, none⟩ = some (.int .i64 z2) ∧ W.cell? ⟨wc.heap.size, 2, none⟩ = some (.int .i64 z3) ∧ W.cell? ⟨wc.heap.size, 3, none⟩ = some (.int .i64 z4) ∧ W.cell? ⟨wc.heap.size, 4, none⟩ = some (.slice pwc z5.length cwc) ∧ W.cell? ⟨wb.heap.size, 0, none⟩ = some (.int .i64 m1) ∧ W.cell? ⟨wb.heap.size, 1, none⟩ = some (.int .i64 m2) ∧ W.cell? ⟨wb.heap.size, 2, none⟩ = some (.int .i64 m3) ∧ W.cell? ⟨wb.heap.size, 3, none⟩ = some (.int .i64 m4) ∧ W.cell? ⟨wb.heap.size, 4, none⟩ = some (.slice pwb m5.length cwb) ∧ W.cell? ⟨wa.heap.size, 0, none⟩ = some (.int .i64 m1) ∧ W.cell? ⟨wa.heap.size, 1, none⟩ = some (.int .i64 m2) ∧ W.cell? ⟨wa.heap.size, 2, none⟩ = some (.int .i64 m3) ∧ W.cell? ⟨wa.heap.size, 3, none⟩ = some (.int .i64 m4) ∧ W.cell? ⟨wa.heap.size, 4, none⟩ = some (.slice pwa m5.length cwa) ∧ W.cell? ⟨w.heap.size, 0, none⟩ = some (.int .i64 A.k) ∧ W.cell? ⟨w.heap.size, 1, none⟩ = some (.int .i64 A.r) ∧ W.cell? ⟨w.heap.size, 2, none⟩ = some (.int .i64 A.a) ∧ W.cell? ⟨w.heap.size, 3, none⟩ = some (.int .i64 A.b) ∧ W.cell? ⟨w.heap.size, 4, none⟩ = some (.slice p A.z.length cap)) W) := fun W h => ⟨h, (h.a _ (.head _)).c0, (h.a _ (.head _)).c1, (h.a _ (.head _)).c2, (h.a _ (.head _)).c3, (h.a _ (.head _)).c4, (h.a _ (.tail _ (.head _))).c0, (h.a _ (.tail _ (.head _))).c1, (h.a _ (.tail _ (.head _))).c2, (h.a _ (.tail _ (.head _))).c3, (h.a _ (.tail _ (.head _))).c4, (h.a _ (.tail _ (.tail _ (.head _)))).c0, (h.a _ (.tail _ (.tail _ (.head _)))).c1, (h.a _ (.tail _ (.tail _ (.head _)))).c2, (h.a _ (.tail _ (.tail _ (.head _)))).c3, (h.a _ (.tail _ (.tail _ (.head _)))).c4, (h.a _ (.tail _ (.tail _ (.tail _ (.head _))))).c0, (h.a _ (.tail _ (.tail _ (.tail _ (.head _))))).c1, (h.a _ (.tail _ (.tail _ (.tail _ (.head _))))).c2, (h.a _ (.tail _ (.tail _ (.tail _ (.head _))))).c3, (h.a _ (.tail _ (.tail _ (.tail _ (.head _))))).c4, (h.a _ (.tail _ (.tail _ (.tail _ (.tail _ (.head _)))))).c0, (h.a _ (.tail _ (.tail _ (.tail _ (.tail _ (.head _)))))).c1, (h.a _ (.tail _ (.tail _ (.tail _ (.tail _ (.head _)))))).c2, (h.a _ (.tail _ (.tail _ (.tail _ (.tail _ (.head _)))))).c3, (h.a _ (.tail _ (.tail _ (.tail _ (.tail _ (.head _)))))).c4⟩
    have hS := HK.out
    clear HK x0 x1 x2 x3 x4
    go_region_held3 (fun W => KLs w [⟨wd.heap.size, ⟨z1, z2, z3, z4, z5⟩, (.slice pwd z5.length cwd)⟩, ⟨wc.heap.size, ⟨z1, z2, z3, z4, z5⟩, (.slice pwc z5.length cwc)⟩, ⟨wb.heap.size, ⟨m1, m2, m3, m4, m5⟩, (.slice pwb m5.length cwb)⟩, ⟨wa.heap.size, ⟨m1, m2, m3, m4, m5⟩, (.slice pwa m5.length cwa)⟩, ⟨w.heap.size, A, (.slice p A.z.length cap)⟩] [] W ∧ W.cell? ⟨wd.heap.size, 0, none⟩ = some (.int .i64 z1) ∧ W.cell? ⟨wd.heap.size, 1, none⟩ = some (.int .i64 z2) ∧ W.cell? ⟨wd.heap.size, 2, none⟩ = some (.int .i64 z3) ∧ W.cell? ⟨wd.heap.size, 3, none⟩ = some (.int .i64 z4) ∧ W.cell? ⟨wd.heap.size, 4, none⟩ = some (.slice pwd z5.length cwd) ∧ W.cell? ⟨wc.heap.size, 0, none⟩ = some (.int .i64 z1) ∧ W.cell? ⟨wc.heap.size, 1, none⟩ = some (.int .i64 z2) ∧ W.cell? ⟨wc.heap.size, 2, none⟩ = some (.int .i64 z3) ∧ W.cell? ⟨wc.heap.size, 3, none⟩ = some (.int .i64 z4) ∧ W.cell? ⟨wc.heap.size, 4, none⟩ = some (.slice pwc z5.length cwc) ∧ W.cell? ⟨wb.heap.size, 0, none⟩ = some (.int .i64 m1) ∧ W.cell? ⟨wb.heap.size, 1, none⟩ = some (.int .i64 m2) ∧ W.cell? ⟨wb.heap.size, 2, none⟩ = some (.int .i64 m3) ∧ W.cell? ⟨wb.heap.size, 3, none⟩ = some (.int .i64 m4) ∧ W.cell? ⟨wb.heap.size, 4, none⟩ = some (.slice pwb m5.length cwb) ∧ W.cell? ⟨wa.heap.size, 0, none⟩ = some (.int .i64 m1) ∧ W.cell? ⟨wa.heap.size, 1, none⟩ = some (.int .i64 m2) ∧ W.cell? ⟨wa.heap.size, 2, none⟩ = some (.int .i64 m3) ∧ W.cell? ⟨wa.heap.size, 3, none⟩ = some (.int .i64 m4) ∧ W.cell? ⟨wa.heap.size, 4, none⟩ = some (.slice pwa m5.length cwa) ∧ W.cell? ⟨w.heap.size, 0, none⟩ = some (.int .i64 A.k) ∧ W.cell? ⟨w.heap.size, 1, none⟩ = some (.int .i64 A.r) ∧ W.cell? ⟨w.heap.size, 2, none⟩ = some (.int .i64 A.a) ∧ W.cell? ⟨w.heap.size, 3, none⟩ = some (.int .i64 A.b) ∧ W.cell? ⟨w.heap.size, 4, none⟩ = some (.slice p A.z.length cap))
      ((first | exact HAll _ ((by assumption : KLs _ _ _ _ ∧ _).1.next hbn) | exact HAll _ (by assumption : KLs _ _ _ _ ∧ _).1 | exact HAll _ (hS.next (Below.refl _ _).drew) | fail))
      (first
        | (go_at_call 17; (with_reducible refine (HC1.out _ _ (by with_unfolding_all exact (by assumption : KLs _ _ _ _ ∧ _).1.lay) ((by with_unfolding_all exact (by assumption : KLs _ _ _ _ ∧ _).1.r _ (.tail _ (.tail _ (.tail _ (.tail _ (.head _)))))))).mono ?_); rintro e wn ⟨rfl, hbn⟩)
        | (go_at_call 18; (with_reducible refine (HC2.out _ _ ((by with_unfolding_all exact (by assumption : KLs _ _ _ _ ∧ _).1.r _ (.tail _ (.tail _ (.tail _ (.tail _ (.head _)))))))).mono ?_); rintro e wn ⟨rfl, hbn⟩)
        | (go_at_call 19; (with_reducible refine (HS1.out _ _ _ ((by with_unfolding_all exact (by assumption : KLs _ _ _ _ ∧ _).1.r _ (.tail _ (.tail _ (.tail _ (.head _)))))) ((by with_unfolding_all exact (by assumption : KLs _ _ _ _ ∧ _).1.r _ (.tail _ (.tail _ (.head _)))))).mono ?_); rintro e wn ⟨rfl, hbn⟩)
        | (go_at_call 19; (with_reducible refine (HS2.out _ _ _ ((by with_unfolding_all exact (by assumption : KLs _ _ _ _ ∧ _).1.r _ (.tail _ (.head _)))) ((by with_unfolding_all exact (by assumption : KLs _ _ _ _ ∧ _).1.r _ (.head _)))).mono ?_); rintro e wn ⟨rfl, hbn⟩)
        | (go_at_call 12; (with_reducible refine (HAw.out _ (by with_unfolding_all exact (by assumption : KLs _ _ _ _ ∧ _).1.lay)).mono ?_); rintro e wn ⟨rfl, hbn⟩)
        | fail)
    all_goals
      have HB := Lib.hid (by assumption : KLs _ _ _ _ ∧ _).1.bel
      go_wp2_with fail
      go_ret
      exact ⟨rfl, HB.out⟩
end Go.Proofs.YtmacimkkgiogbaaDoor
