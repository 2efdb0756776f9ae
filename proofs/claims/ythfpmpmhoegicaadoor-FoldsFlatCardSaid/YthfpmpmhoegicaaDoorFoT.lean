/- The law Flat. -/
import Derived.Test.YthfpmpmhoegicaaDoorFoS
import Derived.Test.YthfpmpmhoegicaaDoorFoJ
import Derived.Test.YthfpmpmhoegicaaDoorMvU
import Derived.Test.YthfpmpmhoegicaaDoorMvV
import Derived.Deep.DeepCutAuto
namespace Go.Proofs.YthfpmpmhoegicaaDoor
open Go.RowKit

set_option maxRecDepth 100000 in
set_option maxHeartbeats 64000000 in
theorem lawFlat_any (A : Ar) (v : Value) (w : World) (hw : Ru.Lay w) (hv : RdI w.heap.size w v A.z) (hn : Ru.NilC v) (h64 : in64 A.z) (haw : ∀ W, Ru.Lay W → Calls Tryd.prog 13 #[] W fun e w' => e = .returned (.bool true) ∧ Below W.heap.size W w') :
    Calls Tryd.prog 3 #[A5 A.k A.r A.a A.b v] w fun e w' => e = .returned (.bool true) ∧ Below w.heap.size w w' := by
  have HG := Lib.hid (fun W h => good_any A v W h)
  have HAw := Lib.hid haw
  clear haw
  have HK : Hid (KVar w [⟨w.heap.size, A, v⟩] (w.alloc (.cells #[.int .i64 A.k, .int .i64 A.r, .int .i64 A.a, .int .i64 A.b, v] 25))) := (KVar.start w hw).arg A hv hn
  have HI := Lib.hid h64
  obtain ⟨p, cap, rfl, _, _, _⟩ := hv
  clear hw hn h64
  have x0 := (HK.out.a _ (.head _)).c0
  have x1 := (HK.out.a _ (.head _)).c1
  have x2 := (HK.out.a _ (.head _)).c2
  have x3 := (HK.out.a _ (.head _)).c3
  have x4 := (HK.out.a _ (.head _)).c4
  by_cases hg0 : gdB A = false
  · rw [hg0] at HG
    clear hg0
    go_enter Tryd.func3, Tryd.ntmps3
    go_wp2_with (first
      | (go_at_call 12; (with_reducible refine (HG.out _ (by with_unfolding_all exact HK.out.r _ (.head _))).mono ?_); rintro e wz ⟨rfl, hb⟩; have HK2 := Lib.hid (HK.out.next hb); clear HK x0 x1 x2 x3 x4; have HK := HK2; clear HK2; clear hb; have x0 := (HK.out.a _ (.head _)).c0; have x1 := (HK.out.a _ (.head _)).c1; have x2 := (HK.out.a _ (.head _)).c2; have x3 := (HK.out.a _ (.head _)).c3; have x4 := (HK.out.a _ (.head _)).c4)
      | (go_at_call 13; (with_reducible refine (HAw.out _ (by with_unfolding_all exact HK.out.lay)).mono ?_); rintro e wz ⟨rfl, hb⟩; have HK2 := Lib.hid (HK.out.next hb); clear HK x0 x1 x2 x3 x4; have HK := HK2; clear HK2; clear hb; have x0 := (HK.out.a _ (.head _)).c0; have x1 := (HK.out.a _ (.head _)).c1; have x2 := (HK.out.a _ (.head _)).c2; have x3 := (HK.out.a _ (.head _)).c3; have x4 := (HK.out.a _ (.head _)).c4)
      | fail)
    go_ret
    exact ⟨rfl, HK.out.bel⟩
  have hg : gdB A = true := by simpa using hg0
  rw [hg] at HG
  by_cases hr : A.r = 2
  · have hA := gdB_yes hg
    have hl := hA.l
    have hl' := hA.c
    obtain ⟨fG, fr, fz⟩ := fp_isG hA hr
    obtain ⟨rG, rr, rz⟩ := ra_isG hA
    have f64 : in64 (fpV A).z := by
      rw [fz]
      intro y hy
      exact HI.out y ((fp_mem hA.good y).1 hy)
    have r64 : in64 (raV A).z := by rw [rz]; exact HI.out
    have hfl : (fpV A).z.length = A.z.length := by
      rw [fz]
      unfold fpZ
      rw [gl_len, Nat.mul_comm]
      exact (rw_good hA.good).2.2.1
    have HRa := Lib.hid (fun v W h0 h1 h2 => rravel7_any A v W h0 h1 h2 (by omega))
    have HFp := Lib.hid (fun v W h0 h1 => rflip7_any A v W h0 h1 (by omega))
    rw [hl'] at HRa
    rw [show fpEE A = 0 by unfold fpEE oneE; rw [if_pos hl', if_neg (by omega)]] at HFp
    have HQ0 := flat11 hA hA hr rfl rfl (fun _ => Iff.rfl)
    have HQ1 := flat11 hA fG fr (by rw [fz]; exact fp_sum hA.good) hfl (fun x => by rw [fz]; exact fp_mem hA.good x)
    have h64_0 : in64 A.z := HI.out
    have hln_0 : A.z.length ≤ 1000000 := by omega
    have Hs0 := Lib.hid (fun v W h0 h1 h2 => fsum_any A v W h0 h1 h2 hln_0 h64_0)
    have Ks0 := Lib.hid (fun v W h0 h1 h2 => fsum_any (smV A) v W h0 h1 h2 (Nat.le_trans (smV_len A) (by omega)) (sm_in64 hA hr))
    have Ps0 : Hid ((smE A = 0 → s2V A = smV (smV A) ∧ s2E A = smE (smV A)) ∧ (smE A ≠ 0 → s2V A = smV A ∧ s2E A = smE A)) := ⟨fun h => ⟨if_pos h, if_pos h⟩, fun h => ⟨if_neg h, if_neg h⟩⟩
    have Hl0 := Lib.hid (fun v W h0 h1 h2 => fleast_any A v W h0 h1 h2 hln_0 h64_0)
    have Kl0 := Lib.hid (fun v W h0 h1 h2 => fleast_any (enV 31 A) v W h0 h1 h2 (Nat.le_trans (enV_len 31 A) (by omega)) (en_in64 hA hr HI.out 31))
    have Pl0 : Hid ((enE A = 0 → e2V 31 A = enV 31 (enV 31 A) ∧ e2E 31 A = enE (enV 31 A)) ∧ (enE A ≠ 0 → e2V 31 A = enV 31 A ∧ e2E 31 A = enE A)) := ⟨fun h => ⟨if_pos h, if_pos h⟩, fun h => ⟨if_neg h, if_neg h⟩⟩
    have Ho0 := Lib.hid (fun v W h0 h1 h2 => fmost_any A v W h0 h1 h2 hln_0 h64_0)
    have Ko0 := Lib.hid (fun v W h0 h1 h2 => fmost_any (enV 32 A) v W h0 h1 h2 (Nat.le_trans (enV_len 32 A) (by omega)) (en_in64 hA hr HI.out 32))
    have Po0 : Hid ((enE A = 0 → e2V 32 A = enV 32 (enV 32 A) ∧ e2E 32 A = enE (enV 32 A)) ∧ (enE A ≠ 0 → e2V 32 A = enV 32 A ∧ e2E 32 A = enE A)) := ⟨fun h => ⟨if_pos h, if_pos h⟩, fun h => ⟨if_neg h, if_neg h⟩⟩
    have h64_1 : in64 (fpV A).z := f64
    have hln_1 : (fpV A).z.length ≤ 1000000 := by (rw [hfl]; omega)
    have Hs1 := Lib.hid (fun v W h0 h1 h2 => fsum_any (fpV A) v W h0 h1 h2 hln_1 h64_1)
    have Ks1 := Lib.hid (fun v W h0 h1 h2 => fsum_any (smV (fpV A)) v W h0 h1 h2 (Nat.le_trans (smV_len (fpV A)) (by omega)) (sm_in64 fG fr))
    have Ps1 : Hid ((smE (fpV A) = 0 → s2V (fpV A) = smV (smV (fpV A)) ∧ s2E (fpV A) = smE (smV (fpV A))) ∧ (smE (fpV A) ≠ 0 → s2V (fpV A) = smV (fpV A) ∧ s2E (fpV A) = smE (fpV A))) := ⟨fun h => ⟨if_pos h, if_pos h⟩, fun h => ⟨if_neg h, if_neg h⟩⟩
    have Hl1 := Lib.hid (fun v W h0 h1 h2 => fleast_any (fpV A) v W h0 h1 h2 hln_1 h64_1)
    have Kl1 := Lib.hid (fun v W h0 h1 h2 => fleast_any (enV 31 (fpV A)) v W h0 h1 h2 (Nat.le_trans (enV_len 31 (fpV A)) (by omega)) (en_in64 fG fr f64 31))
    have Pl1 : Hid ((enE (fpV A) = 0 → e2V 31 (fpV A) = enV 31 (enV 31 (fpV A)) ∧ e2E 31 (fpV A) = enE (enV 31 (fpV A))) ∧ (enE (fpV A) ≠ 0 → e2V 31 (fpV A) = enV 31 (fpV A) ∧ e2E 31 (fpV A) = enE (fpV A))) := ⟨fun h => ⟨if_pos h, if_pos h⟩, fun h => ⟨if_neg h, if_neg h⟩⟩
    have Ho1 := Lib.hid (fun v W h0 h1 h2 => fmost_any (fpV A) v W h0 h1 h2 hln_1 h64_1)
    have Ko1 := Lib.hid (fun v W h0 h1 h2 => fmost_any (enV 32 (fpV A)) v W h0 h1 h2 (Nat.le_trans (enV_len 32 (fpV A)) (by omega)) (en_in64 fG fr f64 32))
    have Po1 : Hid ((enE (fpV A) = 0 → e2V 32 (fpV A) = enV 32 (enV 32 (fpV A)) ∧ e2E 32 (fpV A) = enE (enV 32 (fpV A))) ∧ (enE (fpV A) ≠ 0 → e2V 32 (fpV A) = enV 32 (fpV A) ∧ e2E 32 (fpV A) = enE (fpV A))) := ⟨fun h => ⟨if_pos h, if_pos h⟩, fun h => ⟨if_neg h, if_neg h⟩⟩
    have h64_2 : in64 (raV A).z := r64
    have hln_2 : (raV A).z.length ≤ 1000000 := by (rw [rz]; omega)
    have Hs2 := Lib.hid (fun v W h0 h1 h2 => fsum_any (raV A) v W h0 h1 h2 hln_2 h64_2)
    have Hl2 := Lib.hid (fun v W h0 h1 h2 => fleast_any (raV A) v W h0 h1 h2 hln_2 h64_2)
    have Ho2 := Lib.hid (fun v W h0 h1 h2 => fmost_any (raV A) v W h0 h1 h2 hln_2 h64_2)
    have Ns := Lib.hid (show (smV (raV A)).z.length ≤ 1000000 from Nat.le_trans (smV_len _) (by omega))
    have Nl := Lib.hid (show (enV 31 (raV A)).z.length ≤ 1000000 from Nat.le_trans (enV_len _ _) (by omega))
    have No := Lib.hid (show (enV 32 (raV A)).z.length ≤ 1000000 from Nat.le_trans (enV_len _ _) (by omega))
    have Q0 := Lib.hid (show _ ∧ _ ∧ _ from ⟨HQ0.1, HQ0.2 31, HQ0.2 32⟩)
    have Q1 := Lib.hid (show _ ∧ _ ∧ _ from ⟨HQ1.1, HQ1.2 31, HQ1.2 32⟩)
    clear HQ0 HQ1 h64_0 h64_1 h64_2 hln_0 hln_1 hln_2 fG fr fz rG rr rz f64 r64 hfl hA hl hl' hg hg0 HI
    generalize s2V A = Ps_0 at Ps0 Q0
    generalize s2E A = Gs_0 at Ps0 Q0
    generalize smV (smV A) = Ys_0 at Ks0 Ps0
    generalize smE (smV A) = Fs_0 at Ks0 Ps0
    generalize smV A = Xs_0 at Hs0 Ks0 Ps0
    generalize e2V 31 A = Pl_0 at Pl0 Q0
    generalize e2E 31 A = Gl_0 at Pl0 Q0
    generalize enV 31 (enV 31 A) = Yl_0 at Kl0 Pl0
    generalize enE (enV 31 A) = Fl_0 at Kl0 Pl0
    generalize enV 31 A = Xl_0 at Hl0 Kl0 Pl0
    generalize e2V 32 A = Po_0 at Po0 Q0
    generalize e2E 32 A = Go_0 at Po0 Q0
    generalize enV 32 (enV 32 A) = Yo_0 at Ko0 Po0
    generalize enE (enV 32 A) = Fo_0 at Ko0 Po0
    generalize enV 32 A = Xo_0 at Ho0 Ko0 Po0
    generalize smE A = Es_0 at Hs0 Ps0
    generalize enE A = En_0 at Hl0 Ho0 Pl0 Po0
    generalize s2V (fpV A) = Ps_1 at Ps1 Q1
    generalize s2E (fpV A) = Gs_1 at Ps1 Q1
    generalize smV (smV (fpV A)) = Ys_1 at Ks1 Ps1
    generalize smE (smV (fpV A)) = Fs_1 at Ks1 Ps1
    generalize smV (fpV A) = Xs_1 at Hs1 Ks1 Ps1
    generalize e2V 31 (fpV A) = Pl_1 at Pl1 Q1
    generalize e2E 31 (fpV A) = Gl_1 at Pl1 Q1
    generalize enV 31 (enV 31 (fpV A)) = Yl_1 at Kl1 Pl1
    generalize enE (enV 31 (fpV A)) = Fl_1 at Kl1 Pl1
    generalize enV 31 (fpV A) = Xl_1 at Hl1 Kl1 Pl1
    generalize e2V 32 (fpV A) = Po_1 at Po1 Q1
    generalize e2E 32 (fpV A) = Go_1 at Po1 Q1
    generalize enV 32 (enV 32 (fpV A)) = Yo_1 at Ko1 Po1
    generalize enE (enV 32 (fpV A)) = Fo_1 at Ko1 Po1
    generalize enV 32 (fpV A) = Xo_1 at Ho1 Ko1 Po1
    generalize smE (fpV A) = Es_1 at Hs1 Ps1
    generalize enE (fpV A) = En_1 at Hl1 Ho1 Pl1 Po1
    generalize smV (raV A) = Xs_2 at Hs2 Ns Q0 Q1
    generalize enV 31 (raV A) = Xl_2 at Hl2 Nl Q0 Q1
    generalize enV 32 (raV A) = Xo_2 at Ho2 No Q0 Q1
    generalize smE (raV A) = Es_2 at Hs2 Q0 Q1
    generalize enE (raV A) = En_2 at Hl2 Ho2 Q0 Q1
    generalize fpV A = T at *
    generalize raV A = R at *
    have k2 : (A.r != 2) = false := by rw [hr]; rfl
    clear hr
    go_enter Tryd.func3, Tryd.ntmps3
    go_upto_region 5 with (first
      | (go_at_call 15; (with_reducible refine (HFp.out _ _ (by with_unfolding_all exact HK.out.lay) (by with_unfolding_all exact HK.out.r _ (.tail _ (.head _)))).mono ?_); rintro e wr2 ⟨uwr2, rfl, hu, hb⟩; obtain ⟨pwr2, cwr2, hpwr2, _, _⟩ := hu.form; have hqwr2 : uwr2 = (.slice pwr2 T.z.length cwr2) := hpwr2; subst hqwr2; clear hpwr2; have hltrt : wr1.heap.size < wr2.heap.size := Nat.lt_of_lt_of_le (HK.out.lt _ (.head _)) hb.size; have hltxt : w.heap.size < wr2.heap.size := Nat.lt_of_lt_of_le (HK.out.lt _ (.tail _ (.head _))) hb.size; have HK2 := Lib.hid (HK.out.res hb T hu); clear HK x0 x1 x2 x3 x4 r0 r1 r2 r3 r4; have HK := HK2; clear HK2; clear hb hu; have x0 := (HK.out.a _ (.tail _ (.tail _ (.head _)))).c0; have x1 := (HK.out.a _ (.tail _ (.tail _ (.head _)))).c1; have x2 := (HK.out.a _ (.tail _ (.tail _ (.head _)))).c2; have x3 := (HK.out.a _ (.tail _ (.tail _ (.head _)))).c3; have x4 := (HK.out.a _ (.tail _ (.tail _ (.head _)))).c4; have r0 := (HK.out.a _ (.tail _ (.head _))).c0; have r1 := (HK.out.a _ (.tail _ (.head _))).c1; have r2 := (HK.out.a _ (.tail _ (.head _))).c2; have r3 := (HK.out.a _ (.tail _ (.head _))).c3; have r4 := (HK.out.a _ (.tail _ (.head _))).c4; have t0 := (HK.out.a _ (.head _)).c0; have t1 := (HK.out.a _ (.head _)).c1; have t2 := (HK.out.a _ (.head _)).c2; have t3 := (HK.out.a _ (.head _)).c3; have t4 := (HK.out.a _ (.head _)).c4)
      | (go_at_call 14; (with_reducible refine (HRa.out _ _ (by with_unfolding_all exact HK.out.lay) (by with_unfolding_all exact HK.out.r _ (.head _)) (by with_unfolding_all exact HK.out.n _ (.head _))).mono ?_); rintro e wr1 ⟨uwr1, rfl, hu, hb⟩; obtain ⟨pwr1, cwr1, hpwr1, _, _⟩ := hu.form; have hqwr1 : uwr1 = (.slice pwr1 R.z.length cwr1) := hpwr1; subst hqwr1; clear hpwr1; have hltxr : w.heap.size < wr1.heap.size := Nat.lt_of_lt_of_le (HK.out.lt _ (.head _)) hb.size; have HK2 := Lib.hid (HK.out.res hb R hu); clear HK x0 x1 x2 x3 x4; have HK := HK2; clear HK2; clear hb hu; have x0 := (HK.out.a _ (.tail _ (.head _))).c0; have x1 := (HK.out.a _ (.tail _ (.head _))).c1; have x2 := (HK.out.a _ (.tail _ (.head _))).c2; have x3 := (HK.out.a _ (.tail _ (.head _))).c3; have x4 := (HK.out.a _ (.tail _ (.head _))).c4; have r0 := (HK.out.a _ (.head _)).c0; have r1 := (HK.out.a _ (.head _)).c1; have r2 := (HK.out.a _ (.head _)).c2; have r3 := (HK.out.a _ (.head _)).c3; have r4 := (HK.out.a _ (.head _)).c4)
      | (go_at_call 12; (with_reducible refine (HG.out _ (by with_unfolding_all exact HK.out.r _ (.head _))).mono ?_); rintro e wz ⟨rfl, hb⟩; have HK2 := Lib.hid (HK.out.next hb); clear HK x0 x1 x2 x3 x4; have HK := HK2; clear HK2; clear hb; have x0 := (HK.out.a _ (.head _)).c0; have x1 := (HK.out.a _ (.head _)).c1; have x2 := (HK.out.a _ (.head _)).c2; have x3 := (HK.out.a _ (.head _)).c3; have x4 := (HK.out.a _ (.head _)).c4)
      | fail)
    generalize hwz : World.alloc wr2 _ = wz at HK x0 x1 x2 x3 x4 r0 r1 r2 r3 r4 t0 t1 t2 t3 t4 ⊢
    clear hwz
    have HAll : Hid (∀ W, Below wz.heap.size wz W → (fun W => Below wz.heap.size wz W ∧ W.cell? ⟨w.heap.size, 0, none⟩ = some (.int .i64 A.k) ∧ W.cell? ⟨w.heap.size, 1, none⟩ = some (.int .i64 A.r) ∧ W.cell? ⟨w.heap.size, 2, none⟩ = some (.int .i64 A.a) ∧ W.cell? ⟨w.heap.size, 3, none⟩ = some (.int .i64 A.b) ∧ W.cell? ⟨w.heap.size, 4, none⟩ = some ((.slice p A.z.length cap)) ∧ W.cell? ⟨wr2.heap.size, 0, none⟩ = some (.int .i64 T.k) ∧ W.cell? ⟨wr2.heap.size, 1, none⟩ = some (.int .i64 T.r) ∧ W.cell? ⟨wr2.heap.size, 2, none⟩ = some (.int .i64 T.a) ∧ W.cell? ⟨wr2.heap.size, 3, none⟩ = some (.int .i64 T.b) ∧ W.cell? ⟨wr2.heap.size, 4, none⟩ = some ((.slice pwr2 T.z.length cwr2)) ∧ W.cell? ⟨wr1.heap.size, 0, none⟩ = some (.int .i64 R.k) ∧ W.cell? ⟨wr1.heap.size, 1, none⟩ = some (.int .i64 R.r) ∧ W.cell? ⟨wr1.heap.size, 2, none⟩ = some (.int .i64 R.a) ∧ W.cell? ⟨wr1.heap.size, 3, none⟩ = some (.int .i64 R.b) ∧ W.cell? ⟨wr1.heap.size, 4, none⟩ = some ((.slice pwr1 R.z.length cwr1))) W) := fun W h => ⟨h, ((HK.out.next h).a _ (.tail _ (.tail _ (.head _)))).c0, ((HK.out.next h).a _ (.tail _ (.tail _ (.head _)))).c1, ((HK.out.next h).a _ (.tail _ (.tail _ (.head _)))).c2, ((HK.out.next h).a _ (.tail _ (.tail _ (.head _)))).c3, ((HK.out.next h).a _ (.tail _ (.tail _ (.head _)))).c4, ((HK.out.next h).a _ (.head _)).c0, ((HK.out.next h).a _ (.head _)).c1, ((HK.out.next h).a _ (.head _)).c2, ((HK.out.next h).a _ (.head _)).c3, ((HK.out.next h).a _ (.head _)).c4, ((HK.out.next h).a _ (.tail _ (.head _))).c0, ((HK.out.next h).a _ (.tail _ (.head _))).c1, ((HK.out.next h).a _ (.tail _ (.head _))).c2, ((HK.out.next h).a _ (.tail _ (.head _))).c3, ((HK.out.next h).a _ (.tail _ (.head _))).c4⟩
    have HXx : Hid (∀ W, Below wz.heap.size wz W → RdX [wz.heap.size] W (.slice p A.z.length cap) A.z) := fun W h => (((HK.out.all _ (.tail _ (.tail _ (.head _)))).2.2.1.sub (gs' := []) (fun g hg => by cases hg)).more (Nat.le_refl _)).keep h.size fun c _ hc => h.block c hc
    have HNx : Hid (Ru.NilC (.slice p A.z.length cap)) := HK.out.n _ (.tail _ (.tail _ (.head _)))
    have HXt : Hid (∀ W, Below wz.heap.size wz W → RdX [wz.heap.size] W (.slice pwr2 T.z.length cwr2) T.z) := fun W h => (((HK.out.all _ (.head _)).2.2.1.sub (gs' := []) (fun g hg => by cases hg)).more (Nat.le_refl _)).keep h.size fun c _ hc => h.block c hc
    have HNt : Hid (Ru.NilC (.slice pwr2 T.z.length cwr2)) := HK.out.n _ (.head _)
    have HXr : Hid (∀ W, Below wz.heap.size wz W → RdX [wz.heap.size] W (.slice pwr1 R.z.length cwr1) R.z) := fun W h => (((HK.out.all _ (.tail _ (.head _))).2.2.1.sub (gs' := []) (fun g hg => by cases hg)).more (Nat.le_refl _)).keep h.size fun c _ hc => h.block c hc
    have HNr : Hid (Ru.NilC (.slice pwr1 R.z.length cwr1)) := HK.out.n _ (.tail _ (.head _))
    have HTz : Hid (KT w [B3.no wz.heap.size] [] (wz.alloc (.cells #[.int .i64 0, .int .i64 0, .int .i64 0, .int .i64 0, .slice none 0 0, .int .i64 0, .int .i64 0, .int .i64 0, .int .i64 0, .slice none 0 0, .int .i64 0, .int .i64 0, .int .i64 0, .int .i64 0, .slice none 0 0] 31))) := (KT.start HK.out).push15 (l := [])
    have HBz : Hid (Below wz.heap.size wz (wz.alloc (.cells #[.int .i64 0, .int .i64 0, .int .i64 0, .int .i64 0, .slice none 0 0, .int .i64 0, .int .i64 0, .int .i64 0, .int .i64 0, .slice none 0 0, .int .i64 0, .int .i64 0, .int .i64 0, .int .i64 0, .slice none 0 0] 31))) := bel1 _ _
    clear x0 x1 x2 x3 x4 r0 r1 r2 r3 r4 t0 t1 t2 t3 t4 HK
    go_upto_region 6 with fail
    generalize hw5 : World.alloc wz _ = w5 at HTz HBz ⊢
    clear hw5
    go_cut [] (fun wx => KT w [⟨wz.heap.size, A, (.slice p A.z.length cap), T, (.slice pwr2 T.z.length cwr2), R, (.slice pwr1 R.z.length cwr1)⟩] [] wx)
    case first =>
      as_aux_lemma =>
        clear Hs0 Hs1 Hs2 Hl0 Hl1 Hl2 Ho0 Ho1 Ho2 Ks0 Ps0 Ks1 Ps1 Kl0 Pl0 Kl1 Pl1 Ko0 Po0 Ko1 Po1 Ns Nl No Q0 Q1 HAw HG HRa HFp
        refine wp_region_held_drew (S := (fun W => Below wz.heap.size wz W ∧ W.cell? ⟨w.heap.size, 0, none⟩ = some (.int .i64 A.k) ∧ W.cell? ⟨w.heap.size, 1, none⟩ = some (.int .i64 A.r) ∧ W.cell? ⟨w.heap.size, 2, none⟩ = some (.int .i64 A.a) ∧ W.cell? ⟨w.heap.size, 3, none⟩ = some (.int .i64 A.b) ∧ W.cell? ⟨w.heap.size, 4, none⟩ = some ((.slice p A.z.length cap)) ∧ W.cell? ⟨wr2.heap.size, 0, none⟩ = some (.int .i64 T.k) ∧ W.cell? ⟨wr2.heap.size, 1, none⟩ = some (.int .i64 T.r) ∧ W.cell? ⟨wr2.heap.size, 2, none⟩ = some (.int .i64 T.a) ∧ W.cell? ⟨wr2.heap.size, 3, none⟩ = some (.int .i64 T.b) ∧ W.cell? ⟨wr2.heap.size, 4, none⟩ = some ((.slice pwr2 T.z.length cwr2)) ∧ W.cell? ⟨wr1.heap.size, 0, none⟩ = some (.int .i64 R.k) ∧ W.cell? ⟨wr1.heap.size, 1, none⟩ = some (.int .i64 R.r) ∧ W.cell? ⟨wr1.heap.size, 2, none⟩ = some (.int .i64 R.a) ∧ W.cell? ⟨wr1.heap.size, 3, none⟩ = some (.int .i64 R.b) ∧ W.cell? ⟨wr1.heap.size, 4, none⟩ = some ((.slice pwr1 R.z.length cwr1)))) (by kernel_rfl) ?_ (fun hHeld => ?_)
        · exact HAll.out _ (HBz.out.trans ((Below.refl _ _).drew.mono HBz.out.size))
        have HB0 : Hid (Below wz.heap.size wz (World.drew w5)) := HBz.out.trans ((Below.refl _ _).drew.mono HBz.out.size)
        have HT0 : Hid (KT w [B3.no wz.heap.size] [] (World.drew w5)) := HTz.out.next (Below.refl _ _).drew
        generalize World.drew w5 = wd at hHeld HB0 HT0 ⊢
        clear HTz HBz
        refine wpAnyH_take (i := 0) (v := ?_) rfl (by kernel_rfl) (by kernel_rfl) (by kernel_rfl) (fun _ _ _ h => h) (Or.inl ⟨by rfl, ?_⟩) (by assumption) ?_
        rotate_left
        · ((intro w0 hSw); (try dsimp only at hSw); go_simp; (try with_reducible rfl))
        change wpAnyH _ _ _ _ _ _ _ (Act.put _ (some 35) _) _
        try simp only [Act.put, List.setIfInBounds_toArray, List.set_cons_zero, List.set_cons_succ]
        refine wpAnyH_take (i := 1) (v := ?_) rfl (by kernel_rfl) (by kernel_rfl) (by kernel_rfl) (fun _ _ _ h => h) (Or.inl ⟨by rfl, ?_⟩) (by assumption) ?_
        rotate_left
        · ((intro w0 hSw); (try dsimp only at hSw); go_simp; (try with_reducible rfl))
        change wpAnyH _ _ _ _ _ _ _ (Act.put _ (some 36) _) _
        try simp only [Act.put, List.setIfInBounds_toArray, List.set_cons_zero, List.set_cons_succ]
        refine wpAnyH_take (i := 2) (v := ?_) rfl (by kernel_rfl) (by kernel_rfl) (by kernel_rfl) (fun _ _ _ h => h) (Or.inl ⟨by rfl, ?_⟩) (by assumption) ?_
        rotate_left
        · ((intro w0 hSw); (try dsimp only at hSw); go_simp; (try with_reducible rfl))
        change wpAnyH _ _ _ _ _ _ _ (Act.put _ (some 37) _) _
        try simp only [Act.put, List.setIfInBounds_toArray, List.set_cons_zero, List.set_cons_succ]
        refine wpAnyH_take (i := 3) (v := ?_) rfl (by kernel_rfl) (by kernel_rfl) (by kernel_rfl) (fun _ _ _ h => h) (Or.inl ⟨by rfl, ?_⟩) (by assumption) ?_
        rotate_left
        · ((intro w0 hSw); (try dsimp only at hSw); go_simp; (try with_reducible rfl))
        change wpAnyH _ _ _ _ _ _ _ (Act.put _ (some 38) _) _
        try simp only [Act.put, List.setIfInBounds_toArray, List.set_cons_zero, List.set_cons_succ]
        refine wpAnyH_ready (rs := [4]) (by kernel_rfl) (by simp) ?_
        refine AllReadyH.cons rfl (fun K hK => ?_) (AllReadyH.nil)
        rw [if_pos (by rfl)]
        refine wp_s15_0 (.tmp 38) (.tmp 35) wz.heap.size (b := ⟨wz.heap.size, Ar.no, (.slice none 0 0), Ar.no, (.slice none 0 0), Ar.no, (.slice none 0 0)⟩) rfl A p A.z.length cap rfl rfl rfl rfl (HT0.out.b _ (.head _)) ?_
        have HT1 : Hid (KT w [⟨wz.heap.size, A, (.slice p A.z.length cap), Ar.no, (.slice none 0 0), Ar.no, (.slice none 0 0)⟩] [] (s15_0 wd wz.heap.size A.k A.r A.a A.b (.slice p A.z.length cap))) := HT0.out.cpS0 A (HXx.out _ HB0.out) HNx.out
        have HB1 : Hid (Below wz.heap.size wz (s15_0 wd wz.heap.size A.k A.r A.a A.b (.slice p A.z.length cap))) := s15_0_below _ _ _ _ _ (Nat.le_refl _) HB0.out
        generalize hwy : s15_0 wd _ _ _ _ _ _ = wy1 at HT1 HB1 ⊢
        clear hwy
        refine hK.out _ _ ?_ (fun hHeld2 => ?_)
        · exact HAll.out _ HB1.out
        clear hK K hHeld
        have hHeld := hHeld2; clear hHeld2
        try simp only [Act.put, List.setIfInBounds_toArray, List.set_cons_zero, List.set_cons_succ]
        refine wpAnyH_take (i := 5) (v := ?_) rfl (by kernel_rfl) (by kernel_rfl) (by kernel_rfl) (fun _ _ _ h => h) (Or.inl ⟨by rfl, ?_⟩) (by assumption) ?_
        rotate_left
        · ((intro w0 hSw); (try dsimp only at hSw); go_simp; (try with_reducible rfl))
        change wpAnyH _ _ _ _ _ _ _ (Act.put _ (some 39) _) _
        try simp only [Act.put, List.setIfInBounds_toArray, List.set_cons_zero, List.set_cons_succ]
        refine wpAnyH_ready (rs := [6]) (by kernel_rfl) (by simp) ?_
        refine AllReadyH.cons rfl (fun K hK => ?_) (AllReadyH.nil)
        rw [if_pos (by rfl)]
        refine wp_s15_1 (.tmp 39) (.tmp 36) wz.heap.size (b := ⟨wz.heap.size, A, (.slice p A.z.length cap), Ar.no, (.slice none 0 0), Ar.no, (.slice none 0 0)⟩) rfl T pwr2 T.z.length cwr2 rfl rfl rfl rfl (HT1.out.b _ (.head _)) ?_
        have HT2 : Hid (KT w [⟨wz.heap.size, A, (.slice p A.z.length cap), T, (.slice pwr2 T.z.length cwr2), Ar.no, (.slice none 0 0)⟩] [] (s15_1 wy1 wz.heap.size T.k T.r T.a T.b (.slice pwr2 T.z.length cwr2))) := HT1.out.cpS1 T (HXt.out _ HB1.out) HNt.out
        have HB2 : Hid (Below wz.heap.size wz (s15_1 wy1 wz.heap.size T.k T.r T.a T.b (.slice pwr2 T.z.length cwr2))) := s15_1_below _ _ _ _ _ (Nat.le_refl _) HB1.out
        generalize hwy : s15_1 wy1 _ _ _ _ _ _ = wy2 at HT2 HB2 ⊢
        clear hwy
        refine hK.out _ _ ?_ (fun hHeld2 => ?_)
        · exact HAll.out _ HB2.out
        clear hK K hHeld
        have hHeld := hHeld2; clear hHeld2
        try simp only [Act.put, List.setIfInBounds_toArray, List.set_cons_zero, List.set_cons_succ]
        refine wpAnyH_take (i := 7) (v := ?_) rfl (by kernel_rfl) (by kernel_rfl) (by kernel_rfl) (fun _ _ _ h => h) (Or.inl ⟨by rfl, ?_⟩) (by assumption) ?_
        rotate_left
        · ((intro w0 hSw); (try dsimp only at hSw); go_simp; (try with_reducible rfl))
        change wpAnyH _ _ _ _ _ _ _ (Act.put _ (some 40) _) _
        try simp only [Act.put, List.setIfInBounds_toArray, List.set_cons_zero, List.set_cons_succ]
        refine wpAnyH_ready (rs := [8]) (by kernel_rfl) (by simp) ?_
        refine AllReadyH.cons rfl (fun K hK => ?_) (AllReadyH.nil)
        rw [if_pos (by rfl)]
        refine wp_s15_2 (.tmp 40) (.tmp 37) wz.heap.size (b := ⟨wz.heap.size, A, (.slice p A.z.length cap), T, (.slice pwr2 T.z.length cwr2), Ar.no, (.slice none 0 0)⟩) rfl R pwr1 R.z.length cwr1 rfl rfl rfl rfl (HT2.out.b _ (.head _)) ?_
        have HT3 : Hid (KT w [⟨wz.heap.size, A, (.slice p A.z.length cap), T, (.slice pwr2 T.z.length cwr2), R, (.slice pwr1 R.z.length cwr1)⟩] [] (s15_2 wy2 wz.heap.size R.k R.r R.a R.b (.slice pwr1 R.z.length cwr1))) := HT2.out.cpS2 R (HXr.out _ HB2.out) HNr.out
        have HB3 : Hid (Below wz.heap.size wz (s15_2 wy2 wz.heap.size R.k R.r R.a R.b (.slice pwr1 R.z.length cwr1))) := s15_2_below _ _ _ _ _ (Nat.le_refl _) HB2.out
        generalize hwy : s15_2 wy2 _ _ _ _ _ _ = wy3 at HT3 HB3 ⊢
        clear hwy
        refine hK.out _ _ ?_ (fun hHeld2 => ?_)
        · exact HAll.out _ HB3.out
        clear hK K hHeld
        have hHeld := hHeld2; clear hHeld2
        try simp only [Act.put, List.setIfInBounds_toArray, List.set_cons_zero, List.set_cons_succ]
        refine wpAnyH_done (by kernel_rfl) ?_ _
        go_wp2_with fail
        go_meet
        case rel => exact HT3.out
    case rest =>
      rename World => wa
      clear HAll HXx HXt HXr HNx HNt HNr HTz HBz HG HRa HFp
      have HK := Lib.hid hcut
      clear hcut
      have hgm : wz.heap.size < wa.heap.size := (HK.out.b _ (.head _)).lt
      have HK2 : Hid (KT w [⟨wz.heap.size, A, (.slice p A.z.length cap), T, (.slice pwr2 T.z.length cwr2), R, (.slice pwr1 R.z.length cwr1)⟩, ⟨wa.heap.size, Ar.no, (.slice none 0 0), Ar.no, (.slice none 0 0), Ar.no, (.slice none 0 0)⟩, ⟨(wa.heap.size + 1), Ar.no, (.slice none 0 0), Ar.no, (.slice none 0 0), Ar.no, (.slice none 0 0)⟩, ⟨(wa.heap.size + 2), Ar.no, (.slice none 0 0), Ar.no, (.slice none 0 0), Ar.no, (.slice none 0 0)⟩] [⟨(wa.heap.size + 3), 0, 0, 0⟩, ⟨(wa.heap.size + 4), 0, 0, 0⟩, ⟨(wa.heap.size + 5), 0, 0, 0⟩] (World.alloc (World.alloc (World.alloc (World.alloc (World.alloc (World.alloc wa (.cells #[.int .i64 0, .int .i64 0, .int .i64 0, .int .i64 0, .slice none 0 0, .int .i64 0, .int .i64 0, .int .i64 0, .int .i64 0, .slice none 0 0, .int .i64 0, .int .i64 0, .int .i64 0, .int .i64 0, .slice none 0 0] 31)) (.cells #[.int .i64 0, .int .i64 0, .int .i64 0, .int .i64 0, .slice none 0 0, .int .i64 0, .int .i64 0, .int .i64 0, .int .i64 0, .slice none 0 0, .int .i64 0, .int .i64 0, .int .i64 0, .int .i64 0, .slice none 0 0] 31)) (.cells #[.int .i64 0, .int .i64 0, .int .i64 0, .int .i64 0, .slice none 0 0, .int .i64 0, .int .i64 0, .int .i64 0, .int .i64 0, .slice none 0 0, .int .i64 0, .int .i64 0, .int .i64 0, .int .i64 0, .slice none 0 0] 31)) (.cells #[.int .i64 0, .int .i64 0, .int .i64 0] 32)) (.cells #[.int .i64 0, .int .i64 0, .int .i64 0] 32)) (.cells #[.int .i64 0, .int .i64 0, .int .i64 0] 32))) := HK.out.six
      clear HK
      have HK := HK2
      clear HK2
      have HNe : Hid (wz.heap.size < wa.heap.size) := hgm
      go_wp2_with fail
      go_loopg [14] 3 (fun gk i wr => (gk = 3 ∧ i = .int .i64 0 ∧ KT w [⟨wz.heap.size, A, (.slice p A.z.length cap), T, (.slice pwr2 T.z.length cwr2), R, (.slice pwr1 R.z.length cwr1)⟩, ⟨wa.heap.size, Ar.no, (.slice none 0 0), Ar.no, (.slice none 0 0), Ar.no, (.slice none 0 0)⟩, ⟨(wa.heap.size + 1), Ar.no, (.slice none 0 0), Ar.no, (.slice none 0 0), Ar.no, (.slice none 0 0)⟩, ⟨(wa.heap.size + 2), Ar.no, (.slice none 0 0), Ar.no, (.slice none 0 0), Ar.no, (.slice none 0 0)⟩] [⟨(wa.heap.size + 3), 0, 0, 0⟩, ⟨(wa.heap.size + 4), 0, 0, 0⟩, ⟨(wa.heap.size + 5), 0, 0, 0⟩] wr) ∨ (gk = 2 ∧ i = .int .i64 1 ∧ ∃ as0 ds0 al0 dl0 ao0 do0, KT w [⟨wz.heap.size, A, (.slice p A.z.length cap), T, (.slice pwr2 T.z.length cwr2), R, (.slice pwr1 R.z.length cwr1)⟩, ⟨wa.heap.size, Ps_0, (.slice as0 Ps_0.z.length ds0), Ar.no, (.slice none 0 0), Ar.no, (.slice none 0 0)⟩, ⟨(wa.heap.size + 1), Pl_0, (.slice al0 Pl_0.z.length dl0), Ar.no, (.slice none 0 0), Ar.no, (.slice none 0 0)⟩, ⟨(wa.heap.size + 2), Po_0, (.slice ao0 Po_0.z.length do0), Ar.no, (.slice none 0 0), Ar.no, (.slice none 0 0)⟩] [⟨(wa.heap.size + 3), Gs_0, 0, 0⟩, ⟨(wa.heap.size + 4), Gl_0, 0, 0⟩, ⟨(wa.heap.size + 5), Go_0, 0, 0⟩] wr) ∨ (gk = 1 ∧ i = .int .i64 2 ∧ ∃ as0 ds0 al0 dl0 ao0 do0 as1 ds1 al1 dl1 ao1 do1, KT w [⟨wz.heap.size, A, (.slice p A.z.length cap), T, (.slice pwr2 T.z.length cwr2), R, (.slice pwr1 R.z.length cwr1)⟩, ⟨wa.heap.size, Ps_0, (.slice as0 Ps_0.z.length ds0), Ps_1, (.slice as1 Ps_1.z.length ds1), Ar.no, (.slice none 0 0)⟩, ⟨(wa.heap.size + 1), Pl_0, (.slice al0 Pl_0.z.length dl0), Pl_1, (.slice al1 Pl_1.z.length dl1), Ar.no, (.slice none 0 0)⟩, ⟨(wa.heap.size + 2), Po_0, (.slice ao0 Po_0.z.length do0), Po_1, (.slice ao1 Po_1.z.length do1), Ar.no, (.slice none 0 0)⟩] [⟨(wa.heap.size + 3), Gs_0, Gs_1, 0⟩, ⟨(wa.heap.size + 4), Gl_0, Gl_1, 0⟩, ⟨(wa.heap.size + 5), Go_0, Go_1, 0⟩] wr) ∨ (gk = 0 ∧ i = .int .i64 3 ∧ ∃ as0 ds0 al0 dl0 ao0 do0 as1 ds1 al1 dl1 ao1 do1 as2 ds2 al2 dl2 ao2 do2, KT w [⟨wz.heap.size, A, (.slice p A.z.length cap), T, (.slice pwr2 T.z.length cwr2), R, (.slice pwr1 R.z.length cwr1)⟩, ⟨wa.heap.size, Ps_0, (.slice as0 Ps_0.z.length ds0), Ps_1, (.slice as1 Ps_1.z.length ds1), Xs_2, (.slice as2 Xs_2.z.length ds2)⟩, ⟨(wa.heap.size + 1), Pl_0, (.slice al0 Pl_0.z.length dl0), Pl_1, (.slice al1 Pl_1.z.length dl1), Xl_2, (.slice al2 Xl_2.z.length dl2)⟩, ⟨(wa.heap.size + 2), Po_0, (.slice ao0 Po_0.z.length do0), Po_1, (.slice ao1 Po_1.z.length do1), Xo_2, (.slice ao2 Xo_2.z.length do2)⟩] [⟨(wa.heap.size + 3), Gs_0, Gs_1, Es_2⟩, ⟨(wa.heap.size + 4), Gl_0, Gl_1, En_2⟩, ⟨(wa.heap.size + 5), Go_0, Go_1, En_2⟩] wr))
      case atStart => exact (Or.inl ⟨rfl, rfl, HK.out⟩)
      case round =>
        clear HK
        rcases hrel with ⟨rfl, rfl, hk⟩ | ⟨rfl, rfl, as0, ds0, al0, dl0, ao0, do0, hk⟩ | ⟨rfl, rfl, as0, ds0, al0, dl0, ao0, do0, as1, ds1, al1, dl1, ao1, do1, hk⟩ | ⟨rfl, rfl, as0, ds0, al0, dl0, ao0, do0, as1, ds1, al1, dl1, ao1, do1, as2, ds2, al2, dl2, ao2, do2, hk⟩
        · have HK := Lib.hid hk
          clear hk
          clear Hs1 Hs2 Hl1 Hl2 Ho1 Ho2 Ks1 Ps1 Kl1 Pl1 Ko1 Po1 Ns Nl No Q0 Q1 HAw
          go_upto_region 12 with fail
          go_cut [] (fun wx => ∃ bs0 fs0, KT w [⟨wz.heap.size, A, (.slice p A.z.length cap), T, (.slice pwr2 T.z.length cwr2), R, (.slice pwr1 R.z.length cwr1)⟩, ⟨wa.heap.size, Xs_0, (.slice bs0 Xs_0.z.length fs0), Ar.no, (.slice none 0 0), Ar.no, (.slice none 0 0)⟩, ⟨(wa.heap.size + 1), Ar.no, (.slice none 0 0), Ar.no, (.slice none 0 0), Ar.no, (.slice none 0 0)⟩, ⟨(wa.heap.size + 2), Ar.no, (.slice none 0 0), Ar.no, (.slice none 0 0), Ar.no, (.slice none 0 0)⟩] [⟨(wa.heap.size + 3), Es_0, 0, 0⟩, ⟨(wa.heap.size + 4), 0, 0, 0⟩, ⟨(wa.heap.size + 5), 0, 0, 0⟩] wx)
          case first =>
            as_aux_lemma =>
              clear Hl0 Ho0 Ks0 Kl0 Ko0 Ps0 Pl0 Po0
              have x0 := (HK.out.b _ (.head _)).c0
              have x1 := (HK.out.b _ (.head _)).c1
              have x2 := (HK.out.b _ (.head _)).c2
              have x3 := (HK.out.b _ (.head _)).c3
              have x4 := (HK.out.b _ (.head _)).c4
              go_wp2_with (first
                | (go_at_call 16; (with_reducible refine (Hs0.out _ _ (by with_unfolding_all exact HK.out.lay) (by with_unfolding_all exact HK.out.r0 _ (.head _)) (by with_unfolding_all exact HK.out.n0 _ (.head _))).mono ?_); rintro e wv ⟨uwv, rfl, hu, hb⟩; obtain ⟨pwv, cwv, hpwv, _, _⟩ := hu.form; have hqwv : uwv = (.slice pwv Xs_0.z.length cwv) := hpwv; subst hqwv; clear hpwv; have HKo := HK.out.next hb; have o0 := (HKo.b _ (.tail _ (.head _))).c0; have o1 := (HKo.b _ (.tail _ (.head _))).c1; have o2 := (HKo.b _ (.tail _ (.head _))).c2; have o3 := (HKo.b _ (.tail _ (.head _))).c3; have o4 := (HKo.b _ (.tail _ (.head _))).c4; have of0 := (HKo.b _ (.tail _ (.head _))).fr 0; have of1 := (HKo.b _ (.tail _ (.head _))).fr 1; have of2 := (HKo.b _ (.tail _ (.head _))).fr 2; have of3 := (HKo.b _ (.tail _ (.head _))).fr 3; have of4 := (HKo.b _ (.tail _ (.head _))).fr 4; have oe := (HKo.e _ (.head _)).c0; have oef := (HKo.e _ (.head _)).fr 0; clear HKo; have HK2 : Hid (KT w [⟨wz.heap.size, A, (.slice p A.z.length cap), T, (.slice pwr2 T.z.length cwr2), R, (.slice pwr1 R.z.length cwr1)⟩, ⟨wa.heap.size, Xs_0, (.slice pwv Xs_0.z.length cwv), Ar.no, (.slice none 0 0), Ar.no, (.slice none 0 0)⟩, ⟨(wa.heap.size + 1), Ar.no, (.slice none 0 0), Ar.no, (.slice none 0 0), Ar.no, (.slice none 0 0)⟩, ⟨(wa.heap.size + 2), Ar.no, (.slice none 0 0), Ar.no, (.slice none 0 0), Ar.no, (.slice none 0 0)⟩] [⟨(wa.heap.size + 3), Es_0, 0, 0⟩, ⟨(wa.heap.size + 4), 0, 0, 0⟩, ⟨(wa.heap.size + 5), 0, 0, 0⟩] (World.setCell (s15_0 wv wa.heap.size Xs_0.k Xs_0.r Xs_0.a Xs_0.b (.slice pwv Xs_0.z.length cwv)) ⟨(wa.heap.size + 3), 0, none⟩ (.int .i64 Es_0))) := HK.out.st00 (n := wa.heap.size) ⟨HNe.out, rfl, rfl, rfl, rfl, rfl, rfl⟩ hb Xs_0 hu Es_0; clear HK hb hu x0 x1 x2 x3 x4; have HK := HK2; clear HK2)
                | fail)
              go_meet
              case rel => exact ⟨_, _, HK.out⟩
          case rest =>
            obtain ⟨bs0, fs0, hk⟩ := hcut
            clear HK Hs0
            have HK := Lib.hid hk
            clear hk
            go_upto_region 13 with fail
            go_cut [] (fun wx => ∃ bl0 fl0, KT w [⟨wz.heap.size, A, (.slice p A.z.length cap), T, (.slice pwr2 T.z.length cwr2), R, (.slice pwr1 R.z.length cwr1)⟩, ⟨wa.heap.size, Xs_0, (.slice bs0 Xs_0.z.length fs0), Ar.no, (.slice none 0 0), Ar.no, (.slice none 0 0)⟩, ⟨(wa.heap.size + 1), Xl_0, (.slice bl0 Xl_0.z.length fl0), Ar.no, (.slice none 0 0), Ar.no, (.slice none 0 0)⟩, ⟨(wa.heap.size + 2), Ar.no, (.slice none 0 0), Ar.no, (.slice none 0 0), Ar.no, (.slice none 0 0)⟩] [⟨(wa.heap.size + 3), Es_0, 0, 0⟩, ⟨(wa.heap.size + 4), En_0, 0, 0⟩, ⟨(wa.heap.size + 5), 0, 0, 0⟩] wx)
            case first =>
              as_aux_lemma =>
                clear Ho0 Ks0 Kl0 Ko0 Ps0 Pl0 Po0
                have x0 := (HK.out.b _ (.head _)).c0
                have x1 := (HK.out.b _ (.head _)).c1
                have x2 := (HK.out.b _ (.head _)).c2
                have x3 := (HK.out.b _ (.head _)).c3
                have x4 := (HK.out.b _ (.head _)).c4
                go_wp2_with (first
                  | (go_at_call 17; (with_reducible refine (Hl0.out _ _ (by with_unfolding_all exact HK.out.lay) (by with_unfolding_all exact HK.out.r0 _ (.head _)) (by with_unfolding_all exact HK.out.n0 _ (.head _))).mono ?_); rintro e wv ⟨uwv, rfl, hu, hb⟩; obtain ⟨pwv, cwv, hpwv, _, _⟩ := hu.form; have hqwv : uwv = (.slice pwv Xl_0.z.length cwv) := hpwv; subst hqwv; clear hpwv; have HKo := HK.out.next hb; have o0 := (HKo.b _ (.tail _ (.tail _ (.head _)))).c0; have o1 := (HKo.b _ (.tail _ (.tail _ (.head _)))).c1; have o2 := (HKo.b _ (.tail _ (.tail _ (.head _)))).c2; have o3 := (HKo.b _ (.tail _ (.tail _ (.head _)))).c3; have o4 := (HKo.b _ (.tail _ (.tail _ (.head _)))).c4; have of0 := (HKo.b _ (.tail _ (.tail _ (.head _)))).fr 0; have of1 := (HKo.b _ (.tail _ (.tail _ (.head _)))).fr 1; have of2 := (HKo.b _ (.tail _ (.tail _ (.head _)))).fr 2; have of3 := (HKo.b _ (.tail _ (.tail _ (.head _)))).fr 3; have of4 := (HKo.b _ (.tail _ (.tail _ (.head _)))).fr 4; have oe := (HKo.e _ (.tail _ (.head _))).c0; have oef := (HKo.e _ (.tail _ (.head _))).fr 0; clear HKo; have HK2 : Hid (KT w [⟨wz.heap.size, A, (.slice p A.z.length cap), T, (.slice pwr2 T.z.length cwr2), R, (.slice pwr1 R.z.length cwr1)⟩, ⟨wa.heap.size, Xs_0, (.slice bs0 Xs_0.z.length fs0), Ar.no, (.slice none 0 0), Ar.no, (.slice none 0 0)⟩, ⟨(wa.heap.size + 1), Xl_0, (.slice pwv Xl_0.z.length cwv), Ar.no, (.slice none 0 0), Ar.no, (.slice none 0 0)⟩, ⟨(wa.heap.size + 2), Ar.no, (.slice none 0 0), Ar.no, (.slice none 0 0), Ar.no, (.slice none 0 0)⟩] [⟨(wa.heap.size + 3), Es_0, 0, 0⟩, ⟨(wa.heap.size + 4), En_0, 0, 0⟩, ⟨(wa.heap.size + 5), 0, 0, 0⟩] (World.setCell (s15_0 wv (wa.heap.size + 1) Xl_0.k Xl_0.r Xl_0.a Xl_0.b (.slice pwv Xl_0.z.length cwv)) ⟨(wa.heap.size + 4), 0, none⟩ (.int .i64 En_0))) := HK.out.st10 (n := wa.heap.size) ⟨HNe.out, rfl, rfl, rfl, rfl, rfl, rfl⟩ hb Xl_0 hu En_0; clear HK hb hu x0 x1 x2 x3 x4; have HK := HK2; clear HK2)
                  | fail)
                go_meet
                case rel => exact ⟨_, _, HK.out⟩
            case rest =>
              obtain ⟨bl0, fl0, hk⟩ := hcut
              clear HK Hl0
              have HK := Lib.hid hk
              clear hk
              go_upto_region 14 with fail
              go_cut [] (fun wx => ∃ bo0 fo0, KT w [⟨wz.heap.size, A, (.slice p A.z.length cap), T, (.slice pwr2 T.z.length cwr2), R, (.slice pwr1 R.z.length cwr1)⟩, ⟨wa.heap.size, Xs_0, (.slice bs0 Xs_0.z.length fs0), Ar.no, (.slice none 0 0), Ar.no, (.slice none 0 0)⟩, ⟨(wa.heap.size + 1), Xl_0, (.slice bl0 Xl_0.z.length fl0), Ar.no, (.slice none 0 0), Ar.no, (.slice none 0 0)⟩, ⟨(wa.heap.size + 2), Xo_0, (.slice bo0 Xo_0.z.length fo0), Ar.no, (.slice none 0 0), Ar.no, (.slice none 0 0)⟩] [⟨(wa.heap.size + 3), Es_0, 0, 0⟩, ⟨(wa.heap.size + 4), En_0, 0, 0⟩, ⟨(wa.heap.size + 5), En_0, 0, 0⟩] wx)
              case first =>
                as_aux_lemma =>
                  clear Ks0 Kl0 Ko0 Ps0 Pl0 Po0
                  have x0 := (HK.out.b _ (.head _)).c0
                  have x1 := (HK.out.b _ (.head _)).c1
                  have x2 := (HK.out.b _ (.head _)).c2
                  have x3 := (HK.out.b _ (.head _)).c3
                  have x4 := (HK.out.b _ (.head _)).c4
                  go_wp2_with (first
                    | (go_at_call 18; (with_reducible refine (Ho0.out _ _ (by with_unfolding_all exact HK.out.lay) (by with_unfolding_all exact HK.out.r0 _ (.head _)) (by with_unfolding_all exact HK.out.n0 _ (.head _))).mono ?_); rintro e wv ⟨uwv, rfl, hu, hb⟩; obtain ⟨pwv, cwv, hpwv, _, _⟩ := hu.form; have hqwv : uwv = (.slice pwv Xo_0.z.length cwv) := hpwv; subst hqwv; clear hpwv; have HKo := HK.out.next hb; have o0 := (HKo.b _ (.tail _ (.tail _ (.tail _ (.head _))))).c0; have o1 := (HKo.b _ (.tail _ (.tail _ (.tail _ (.head _))))).c1; have o2 := (HKo.b _ (.tail _ (.tail _ (.tail _ (.head _))))).c2; have o3 := (HKo.b _ (.tail _ (.tail _ (.tail _ (.head _))))).c3; have o4 := (HKo.b _ (.tail _ (.tail _ (.tail _ (.head _))))).c4; have of0 := (HKo.b _ (.tail _ (.tail _ (.tail _ (.head _))))).fr 0; have of1 := (HKo.b _ (.tail _ (.tail _ (.tail _ (.head _))))).fr 1; have of2 := (HKo.b _ (.tail _ (.tail _ (.tail _ (.head _))))).fr 2; have of3 := (HKo.b _ (.tail _ (.tail _ (.tail _ (.head _))))).fr 3; have of4 := (HKo.b _ (.tail _ (.tail _ (.tail _ (.head _))))).fr 4; have oe := (HKo.e _ (.tail _ (.tail _ (.head _)))).c0; have oef := (HKo.e _ (.tail _ (.tail _ (.head _)))).fr 0; clear HKo; have HK2 : Hid (KT w [⟨wz.heap.size, A, (.slice p A.z.length cap), T, (.slice pwr2 T.z.length cwr2), R, (.slice pwr1 R.z.length cwr1)⟩, ⟨wa.heap.size, Xs_0, (.slice bs0 Xs_0.z.length fs0), Ar.no, (.slice none 0 0), Ar.no, (.slice none 0 0)⟩, ⟨(wa.heap.size + 1), Xl_0, (.slice bl0 Xl_0.z.length fl0), Ar.no, (.slice none 0 0), Ar.no, (.slice none 0 0)⟩, ⟨(wa.heap.size + 2), Xo_0, (.slice pwv Xo_0.z.length cwv), Ar.no, (.slice none 0 0), Ar.no, (.slice none 0 0)⟩] [⟨(wa.heap.size + 3), Es_0, 0, 0⟩, ⟨(wa.heap.size + 4), En_0, 0, 0⟩, ⟨(wa.heap.size + 5), En_0, 0, 0⟩] (World.setCell (s15_0 wv (wa.heap.size + 2) Xo_0.k Xo_0.r Xo_0.a Xo_0.b (.slice pwv Xo_0.z.length cwv)) ⟨(wa.heap.size + 5), 0, none⟩ (.int .i64 En_0))) := HK.out.st20 (n := wa.heap.size) ⟨HNe.out, rfl, rfl, rfl, rfl, rfl, rfl⟩ hb Xo_0 hu En_0; clear HK hb hu x0 x1 x2 x3 x4; have HK := HK2; clear HK2)
                    | fail)
                  go_meet
                  case rel => exact ⟨_, _, HK.out⟩
              case rest =>
                obtain ⟨bo0, fo0, hk⟩ := hcut
                clear HK Ho0
                have HK := Lib.hid hk
                clear hk
                have y0 := (HK.out.e _ (.head _)).c0
                go_upto_if 85 with fail
                go_cut [] (fun wx => ∃ as0 ds0, KT w [⟨wz.heap.size, A, (.slice p A.z.length cap), T, (.slice pwr2 T.z.length cwr2), R, (.slice pwr1 R.z.length cwr1)⟩, ⟨wa.heap.size, Ps_0, (.slice as0 Ps_0.z.length ds0), Ar.no, (.slice none 0 0), Ar.no, (.slice none 0 0)⟩, ⟨(wa.heap.size + 1), Xl_0, (.slice bl0 Xl_0.z.length fl0), Ar.no, (.slice none 0 0), Ar.no, (.slice none 0 0)⟩, ⟨(wa.heap.size + 2), Xo_0, (.slice bo0 Xo_0.z.length fo0), Ar.no, (.slice none 0 0), Ar.no, (.slice none 0 0)⟩] [⟨(wa.heap.size + 3), Gs_0, 0, 0⟩, ⟨(wa.heap.size + 4), En_0, 0, 0⟩, ⟨(wa.heap.size + 5), En_0, 0, 0⟩] wx)
                case first =>
                  as_aux_lemma =>
                    clear Kl0 Ko0 Pl0 Po0
                    by_cases hE : Es_0 = 0
                    · obtain ⟨hP, hG⟩ := Ps0.out.1 hE
                      subst hP hG
                      have k1 : (Es_0 == 0) = true := by simpa using hE
                      clear Ps0 hE
                      have x0 := (HK.out.b _ (.tail _ (.head _))).c0
                      have x1 := (HK.out.b _ (.tail _ (.head _))).c1
                      have x2 := (HK.out.b _ (.tail _ (.head _))).c2
                      have x3 := (HK.out.b _ (.tail _ (.head _))).c3
                      have x4 := (HK.out.b _ (.tail _ (.head _))).c4
                      go_wp2_with (first
                        | (go_at_call 16; (with_reducible refine (Ks0.out _ _ (by with_unfolding_all exact HK.out.lay) (by with_unfolding_all exact HK.out.r0 _ (.tail _ (.head _))) (by with_unfolding_all exact HK.out.n0 _ (.tail _ (.head _)))).mono ?_); rintro e wu ⟨uwu, rfl, hu, hb⟩; obtain ⟨pwu, cwu, hpwu, _, _⟩ := hu.form; have hqwu : uwu = (.slice pwu Ps_0.z.length cwu) := hpwu; subst hqwu; clear hpwu; have HKo := HK.out.next hb; have o0 := (HKo.b _ (.tail _ (.head _))).c0; have o1 := (HKo.b _ (.tail _ (.head _))).c1; have o2 := (HKo.b _ (.tail _ (.head _))).c2; have o3 := (HKo.b _ (.tail _ (.head _))).c3; have o4 := (HKo.b _ (.tail _ (.head _))).c4; have of0 := (HKo.b _ (.tail _ (.head _))).fr 0; have of1 := (HKo.b _ (.tail _ (.head _))).fr 1; have of2 := (HKo.b _ (.tail _ (.head _))).fr 2; have of3 := (HKo.b _ (.tail _ (.head _))).fr 3; have of4 := (HKo.b _ (.tail _ (.head _))).fr 4; have oe := (HKo.e _ (.head _)).c0; have oef := (HKo.e _ (.head _)).fr 0; clear HKo; have HK2 : Hid (KT w [⟨wz.heap.size, A, (.slice p A.z.length cap), T, (.slice pwr2 T.z.length cwr2), R, (.slice pwr1 R.z.length cwr1)⟩, ⟨wa.heap.size, Ps_0, (.slice pwu Ps_0.z.length cwu), Ar.no, (.slice none 0 0), Ar.no, (.slice none 0 0)⟩, ⟨(wa.heap.size + 1), Xl_0, (.slice bl0 Xl_0.z.length fl0), Ar.no, (.slice none 0 0), Ar.no, (.slice none 0 0)⟩, ⟨(wa.heap.size + 2), Xo_0, (.slice bo0 Xo_0.z.length fo0), Ar.no, (.slice none 0 0), Ar.no, (.slice none 0 0)⟩] [⟨(wa.heap.size + 3), Gs_0, 0, 0⟩, ⟨(wa.heap.size + 4), En_0, 0, 0⟩, ⟨(wa.heap.size + 5), En_0, 0, 0⟩] (World.setCell (s15_0 wu wa.heap.size Ps_0.k Ps_0.r Ps_0.a Ps_0.b (.slice pwu Ps_0.z.length cwu)) ⟨(wa.heap.size + 3), 0, none⟩ (.int .i64 Gs_0))) := HK.out.st00 (n := wa.heap.size) ⟨HNe.out, rfl, rfl, rfl, rfl, rfl, rfl⟩ hb Ps_0 hu Gs_0; clear HK hb hu x0 x1 x2 x3 x4; have HK := HK2; clear HK2)
                        | fail)
                      go_meet
                      case rel => exact ⟨_, _, HK.out⟩
                    · obtain ⟨hP, hG⟩ := Ps0.out.2 hE
                      have k1 : (Es_0 == 0) = false := by simpa using hE
                      subst hP hG
                      clear Ps0 hE
                      go_wp2_with fail
                      go_meet
                      case rel => exact ⟨_, _, HK.out⟩
                case rest =>
                  obtain ⟨as0, ds0, hk⟩ := hcut
                  clear HK y0 Ps0 Ks0
                  have HK := Lib.hid hk
                  clear hk
                  have y0 := (HK.out.e _ (.tail _ (.head _))).c0
                  go_upto_if 104 with fail
                  go_cut [] (fun wx => ∃ al0 dl0, KT w [⟨wz.heap.size, A, (.slice p A.z.length cap), T, (.slice pwr2 T.z.length cwr2), R, (.slice pwr1 R.z.length cwr1)⟩, ⟨wa.heap.size, Ps_0, (.slice as0 Ps_0.z.length ds0), Ar.no, (.slice none 0 0), Ar.no, (.slice none 0 0)⟩, ⟨(wa.heap.size + 1), Pl_0, (.slice al0 Pl_0.z.length dl0), Ar.no, (.slice none 0 0), Ar.no, (.slice none 0 0)⟩, ⟨(wa.heap.size + 2), Xo_0, (.slice bo0 Xo_0.z.length fo0), Ar.no, (.slice none 0 0), Ar.no, (.slice none 0 0)⟩] [⟨(wa.heap.size + 3), Gs_0, 0, 0⟩, ⟨(wa.heap.size + 4), Gl_0, 0, 0⟩, ⟨(wa.heap.size + 5), En_0, 0, 0⟩] wx)
                  case first =>
                    as_aux_lemma =>
                      clear Ko0 Po0
                      by_cases hE : En_0 = 0
                      · obtain ⟨hP, hG⟩ := Pl0.out.1 hE
                        subst hP hG
                        have k1 : (En_0 == 0) = true := by simpa using hE
                        clear Pl0 hE
                        have x0 := (HK.out.b _ (.tail _ (.tail _ (.head _)))).c0
                        have x1 := (HK.out.b _ (.tail _ (.tail _ (.head _)))).c1
                        have x2 := (HK.out.b _ (.tail _ (.tail _ (.head _)))).c2
                        have x3 := (HK.out.b _ (.tail _ (.tail _ (.head _)))).c3
                        have x4 := (HK.out.b _ (.tail _ (.tail _ (.head _)))).c4
                        go_wp2_with (first
                          | (go_at_call 17; (with_reducible refine (Kl0.out _ _ (by with_unfolding_all exact HK.out.lay) (by with_unfolding_all exact HK.out.r0 _ (.tail _ (.tail _ (.head _)))) (by with_unfolding_all exact HK.out.n0 _ (.tail _ (.tail _ (.head _))))).mono ?_); rintro e wu ⟨uwu, rfl, hu, hb⟩; obtain ⟨pwu, cwu, hpwu, _, _⟩ := hu.form; have hqwu : uwu = (.slice pwu Pl_0.z.length cwu) := hpwu; subst hqwu; clear hpwu; have HKo := HK.out.next hb; have o0 := (HKo.b _ (.tail _ (.tail _ (.head _)))).c0; have o1 := (HKo.b _ (.tail _ (.tail _ (.head _)))).c1; have o2 := (HKo.b _ (.tail _ (.tail _ (.head _)))).c2; have o3 := (HKo.b _ (.tail _ (.tail _ (.head _)))).c3; have o4 := (HKo.b _ (.tail _ (.tail _ (.head _)))).c4; have of0 := (HKo.b _ (.tail _ (.tail _ (.head _)))).fr 0; have of1 := (HKo.b _ (.tail _ (.tail _ (.head _)))).fr 1; have of2 := (HKo.b _ (.tail _ (.tail _ (.head _)))).fr 2; have of3 := (HKo.b _ (.tail _ (.tail _ (.head _)))).fr 3; have of4 := (HKo.b _ (.tail _ (.tail _ (.head _)))).fr 4; have oe := (HKo.e _ (.tail _ (.head _))).c0; have oef := (HKo.e _ (.tail _ (.head _))).fr 0; clear HKo; have HK2 : Hid (KT w [⟨wz.heap.size, A, (.slice p A.z.length cap), T, (.slice pwr2 T.z.length cwr2), R, (.slice pwr1 R.z.length cwr1)⟩, ⟨wa.heap.size, Ps_0, (.slice as0 Ps_0.z.length ds0), Ar.no, (.slice none 0 0), Ar.no, (.slice none 0 0)⟩, ⟨(wa.heap.size + 1), Pl_0, (.slice pwu Pl_0.z.length cwu), Ar.no, (.slice none 0 0), Ar.no, (.slice none 0 0)⟩, ⟨(wa.heap.size + 2), Xo_0, (.slice bo0 Xo_0.z.length fo0), Ar.no, (.slice none 0 0), Ar.no, (.slice none 0 0)⟩] [⟨(wa.heap.size + 3), Gs_0, 0, 0⟩, ⟨(wa.heap.size + 4), Gl_0, 0, 0⟩, ⟨(wa.heap.size + 5), En_0, 0, 0⟩] (World.setCell (s15_0 wu (wa.heap.size + 1) Pl_0.k Pl_0.r Pl_0.a Pl_0.b (.slice pwu Pl_0.z.length cwu)) ⟨(wa.heap.size + 4), 0, none⟩ (.int .i64 Gl_0))) := HK.out.st10 (n := wa.heap.size) ⟨HNe.out, rfl, rfl, rfl, rfl, rfl, rfl⟩ hb Pl_0 hu Gl_0; clear HK hb hu x0 x1 x2 x3 x4; have HK := HK2; clear HK2)
                          | fail)
                        go_meet
                        case rel => exact ⟨_, _, HK.out⟩
                      · obtain ⟨hP, hG⟩ := Pl0.out.2 hE
                        have k1 : (En_0 == 0) = false := by simpa using hE
                        subst hP hG
                        clear Pl0 hE
                        go_wp2_with fail
                        go_meet
                        case rel => exact ⟨_, _, HK.out⟩
                  case rest =>
                    obtain ⟨al0, dl0, hk⟩ := hcut
                    clear HK y0 Pl0 Kl0
                    have HK := Lib.hid hk
                    clear hk
                    have y0 := (HK.out.e _ (.tail _ (.tail _ (.head _)))).c0
                    by_cases hE : En_0 = 0
                    · obtain ⟨hP, hG⟩ := Po0.out.1 hE
                      subst hP hG
                      have k1 : (En_0 == 0) = true := by simpa using hE
                      clear Po0 hE
                      have x0 := (HK.out.b _ (.tail _ (.tail _ (.tail _ (.head _))))).c0
                      have x1 := (HK.out.b _ (.tail _ (.tail _ (.tail _ (.head _))))).c1
                      have x2 := (HK.out.b _ (.tail _ (.tail _ (.tail _ (.head _))))).c2
                      have x3 := (HK.out.b _ (.tail _ (.tail _ (.tail _ (.head _))))).c3
                      have x4 := (HK.out.b _ (.tail _ (.tail _ (.tail _ (.head _))))).c4
                      as_aux_lemma =>
                        go_wp2_with (first
                          | (go_at_call 18; (with_reducible refine (Ko0.out _ _ (by with_unfolding_all exact HK.out.lay) (by with_unfolding_all exact HK.out.r0 _ (.tail _ (.tail _ (.tail _ (.head _))))) (by with_unfolding_all exact HK.out.n0 _ (.tail _ (.tail _ (.tail _ (.head _)))))).mono ?_); rintro e wu ⟨uwu, rfl, hu, hb⟩; obtain ⟨pwu, cwu, hpwu, _, _⟩ := hu.form; have hqwu : uwu = (.slice pwu Po_0.z.length cwu) := hpwu; subst hqwu; clear hpwu; have HKo := HK.out.next hb; have o0 := (HKo.b _ (.tail _ (.tail _ (.tail _ (.head _))))).c0; have o1 := (HKo.b _ (.tail _ (.tail _ (.tail _ (.head _))))).c1; have o2 := (HKo.b _ (.tail _ (.tail _ (.tail _ (.head _))))).c2; have o3 := (HKo.b _ (.tail _ (.tail _ (.tail _ (.head _))))).c3; have o4 := (HKo.b _ (.tail _ (.tail _ (.tail _ (.head _))))).c4; have of0 := (HKo.b _ (.tail _ (.tail _ (.tail _ (.head _))))).fr 0; have of1 := (HKo.b _ (.tail _ (.tail _ (.tail _ (.head _))))).fr 1; have of2 := (HKo.b _ (.tail _ (.tail _ (.tail _ (.head _))))).fr 2; have of3 := (HKo.b _ (.tail _ (.tail _ (.tail _ (.head _))))).fr 3; have of4 := (HKo.b _ (.tail _ (.tail _ (.tail _ (.head _))))).fr 4; have oe := (HKo.e _ (.tail _ (.tail _ (.head _)))).c0; have oef := (HKo.e _ (.tail _ (.tail _ (.head _)))).fr 0; clear HKo; have HK2 : Hid (KT w [⟨wz.heap.size, A, (.slice p A.z.length cap), T, (.slice pwr2 T.z.length cwr2), R, (.slice pwr1 R.z.length cwr1)⟩, ⟨wa.heap.size, Ps_0, (.slice as0 Ps_0.z.length ds0), Ar.no, (.slice none 0 0), Ar.no, (.slice none 0 0)⟩, ⟨(wa.heap.size + 1), Pl_0, (.slice al0 Pl_0.z.length dl0), Ar.no, (.slice none 0 0), Ar.no, (.slice none 0 0)⟩, ⟨(wa.heap.size + 2), Po_0, (.slice pwu Po_0.z.length cwu), Ar.no, (.slice none 0 0), Ar.no, (.slice none 0 0)⟩] [⟨(wa.heap.size + 3), Gs_0, 0, 0⟩, ⟨(wa.heap.size + 4), Gl_0, 0, 0⟩, ⟨(wa.heap.size + 5), Go_0, 0, 0⟩] (World.setCell (s15_0 wu (wa.heap.size + 2) Po_0.k Po_0.r Po_0.a Po_0.b (.slice pwu Po_0.z.length cwu)) ⟨(wa.heap.size + 5), 0, none⟩ (.int .i64 Go_0))) := HK.out.st20 (n := wa.heap.size) ⟨HNe.out, rfl, rfl, rfl, rfl, rfl, rfl⟩ hb Po_0 hu Go_0; clear HK hb hu x0 x1 x2 x3 x4; have HK := HK2; clear HK2)
                          | fail)
                        go_roundg 2
                        case measure => omega
                        case rel => exact (Or.inr (Or.inl ⟨rfl, by go_num, _, _, _, _, _, _, HK.out⟩))
                    · obtain ⟨hP, hG⟩ := Po0.out.2 hE
                      have k1 : (En_0 == 0) = false := by simpa using hE
                      subst hP hG
                      clear Po0 hE
                      as_aux_lemma =>
                        go_wp2_with fail
                        go_roundg 2
                        case measure => omega
                        case rel => exact (Or.inr (Or.inl ⟨rfl, by go_num, _, _, _, _, _, _, HK.out⟩))
        · have HK := Lib.hid hk
          clear hk
          clear Hs0 Hs2 Hl0 Hl2 Ho0 Ho2 Ks0 Ps0 Kl0 Pl0 Ko0 Po0 Ns Nl No Q0 Q1 HAw
          go_upto_region 12 with fail
          go_cut [] (fun wx => ∃ bs1 fs1, KT w [⟨wz.heap.size, A, (.slice p A.z.length cap), T, (.slice pwr2 T.z.length cwr2), R, (.slice pwr1 R.z.length cwr1)⟩, ⟨wa.heap.size, Ps_0, (.slice as0 Ps_0.z.length ds0), Xs_1, (.slice bs1 Xs_1.z.length fs1), Ar.no, (.slice none 0 0)⟩, ⟨(wa.heap.size + 1), Pl_0, (.slice al0 Pl_0.z.length dl0), Ar.no, (.slice none 0 0), Ar.no, (.slice none 0 0)⟩, ⟨(wa.heap.size + 2), Po_0, (.slice ao0 Po_0.z.length do0), Ar.no, (.slice none 0 0), Ar.no, (.slice none 0 0)⟩] [⟨(wa.heap.size + 3), Gs_0, Es_1, 0⟩, ⟨(wa.heap.size + 4), Gl_0, 0, 0⟩, ⟨(wa.heap.size + 5), Go_0, 0, 0⟩] wx)
          case first =>
            as_aux_lemma =>
              clear Hl1 Ho1 Ks1 Kl1 Ko1 Ps1 Pl1 Po1
              have x0 := (HK.out.b _ (.head _)).c5
              have x1 := (HK.out.b _ (.head _)).c6
              have x2 := (HK.out.b _ (.head _)).c7
              have x3 := (HK.out.b _ (.head _)).c8
              have x4 := (HK.out.b _ (.head _)).c9
              go_wp2_with (first
                | (go_at_call 16; (with_reducible refine (Hs1.out _ _ (by with_unfolding_all exact HK.out.lay) (by with_unfolding_all exact HK.out.r1 _ (.head _)) (by with_unfolding_all exact HK.out.n1 _ (.head _))).mono ?_); rintro e wv ⟨uwv, rfl, hu, hb⟩; obtain ⟨pwv, cwv, hpwv, _, _⟩ := hu.form; have hqwv : uwv = (.slice pwv Xs_1.z.length cwv) := hpwv; subst hqwv; clear hpwv; have HKo := HK.out.next hb; have o0 := (HKo.b _ (.tail _ (.head _))).c5; have o1 := (HKo.b _ (.tail _ (.head _))).c6; have o2 := (HKo.b _ (.tail _ (.head _))).c7; have o3 := (HKo.b _ (.tail _ (.head _))).c8; have o4 := (HKo.b _ (.tail _ (.head _))).c9; have of0 := (HKo.b _ (.tail _ (.head _))).fr 5; have of1 := (HKo.b _ (.tail _ (.head _))).fr 6; have of2 := (HKo.b _ (.tail _ (.head _))).fr 7; have of3 := (HKo.b _ (.tail _ (.head _))).fr 8; have of4 := (HKo.b _ (.tail _ (.head _))).fr 9; have oe := (HKo.e _ (.head _)).c1; have oef := (HKo.e _ (.head _)).fr 1; clear HKo; have HK2 : Hid (KT w [⟨wz.heap.size, A, (.slice p A.z.length cap), T, (.slice pwr2 T.z.length cwr2), R, (.slice pwr1 R.z.length cwr1)⟩, ⟨wa.heap.size, Ps_0, (.slice as0 Ps_0.z.length ds0), Xs_1, (.slice pwv Xs_1.z.length cwv), Ar.no, (.slice none 0 0)⟩, ⟨(wa.heap.size + 1), Pl_0, (.slice al0 Pl_0.z.length dl0), Ar.no, (.slice none 0 0), Ar.no, (.slice none 0 0)⟩, ⟨(wa.heap.size + 2), Po_0, (.slice ao0 Po_0.z.length do0), Ar.no, (.slice none 0 0), Ar.no, (.slice none 0 0)⟩] [⟨(wa.heap.size + 3), Gs_0, Es_1, 0⟩, ⟨(wa.heap.size + 4), Gl_0, 0, 0⟩, ⟨(wa.heap.size + 5), Go_0, 0, 0⟩] (World.setCell (s15_1 wv wa.heap.size Xs_1.k Xs_1.r Xs_1.a Xs_1.b (.slice pwv Xs_1.z.length cwv)) ⟨(wa.heap.size + 3), 1, none⟩ (.int .i64 Es_1))) := HK.out.st01 (n := wa.heap.size) ⟨HNe.out, rfl, rfl, rfl, rfl, rfl, rfl⟩ hb Xs_1 hu Es_1; clear HK hb hu x0 x1 x2 x3 x4; have HK := HK2; clear HK2)
                | fail)
              go_meet
              case rel => exact ⟨_, _, HK.out⟩
          case rest =>
            obtain ⟨bs1, fs1, hk⟩ := hcut
            clear HK Hs1
            have HK := Lib.hid hk
            clear hk
            go_upto_region 13 with fail
            go_cut [] (fun wx => ∃ bl1 fl1, KT w [⟨wz.heap.size, A, (.slice p A.z.length cap), T, (.slice pwr2 T.z.length cwr2), R, (.slice pwr1 R.z.length cwr1)⟩, ⟨wa.heap.size, Ps_0, (.slice as0 Ps_0.z.length ds0), Xs_1, (.slice bs1 Xs_1.z.length fs1), Ar.no, (.slice none 0 0)⟩, ⟨(wa.heap.size + 1), Pl_0, (.slice al0 Pl_0.z.length dl0), Xl_1, (.slice bl1 Xl_1.z.length fl1), Ar.no, (.slice none 0 0)⟩, ⟨(wa.heap.size + 2), Po_0, (.slice ao0 Po_0.z.length do0), Ar.no, (.slice none 0 0), Ar.no, (.slice none 0 0)⟩] [⟨(wa.heap.size + 3), Gs_0, Es_1, 0⟩, ⟨(wa.heap.size + 4), Gl_0, En_1, 0⟩, ⟨(wa.heap.size + 5), Go_0, 0, 0⟩] wx)
            case first =>
              as_aux_lemma =>
                clear Ho1 Ks1 Kl1 Ko1 Ps1 Pl1 Po1
                have x0 := (HK.out.b _ (.head _)).c5
                have x1 := (HK.out.b _ (.head _)).c6
                have x2 := (HK.out.b _ (.head _)).c7
                have x3 := (HK.out.b _ (.head _)).c8
                have x4 := (HK.out.b _ (.head _)).c9
                go_wp2_with (first
                  | (go_at_call 17; (with_reducible refine (Hl1.out _ _ (by with_unfolding_all exact HK.out.lay) (by with_unfolding_all exact HK.out.r1 _ (.head _)) (by with_unfolding_all exact HK.out.n1 _ (.head _))).mono ?_); rintro e wv ⟨uwv, rfl, hu, hb⟩; obtain ⟨pwv, cwv, hpwv, _, _⟩ := hu.form; have hqwv : uwv = (.slice pwv Xl_1.z.length cwv) := hpwv; subst hqwv; clear hpwv; have HKo := HK.out.next hb; have o0 := (HKo.b _ (.tail _ (.tail _ (.head _)))).c5; have o1 := (HKo.b _ (.tail _ (.tail _ (.head _)))).c6; have o2 := (HKo.b _ (.tail _ (.tail _ (.head _)))).c7; have o3 := (HKo.b _ (.tail _ (.tail _ (.head _)))).c8; have o4 := (HKo.b _ (.tail _ (.tail _ (.head _)))).c9; have of0 := (HKo.b _ (.tail _ (.tail _ (.head _)))).fr 5; have of1 := (HKo.b _ (.tail _ (.tail _ (.head _)))).fr 6; have of2 := (HKo.b _ (.tail _ (.tail _ (.head _)))).fr 7; have of3 := (HKo.b _ (.tail _ (.tail _ (.head _)))).fr 8; have of4 := (HKo.b _ (.tail _ (.tail _ (.head _)))).fr 9; have oe := (HKo.e _ (.tail _ (.head _))).c1; have oef := (HKo.e _ (.tail _ (.head _))).fr 1; clear HKo; have HK2 : Hid (KT w [⟨wz.heap.size, A, (.slice p A.z.length cap), T, (.slice pwr2 T.z.length cwr2), R, (.slice pwr1 R.z.length cwr1)⟩, ⟨wa.heap.size, Ps_0, (.slice as0 Ps_0.z.length ds0), Xs_1, (.slice bs1 Xs_1.z.length fs1), Ar.no, (.slice none 0 0)⟩, ⟨(wa.heap.size + 1), Pl_0, (.slice al0 Pl_0.z.length dl0), Xl_1, (.slice pwv Xl_1.z.length cwv), Ar.no, (.slice none 0 0)⟩, ⟨(wa.heap.size + 2), Po_0, (.slice ao0 Po_0.z.length do0), Ar.no, (.slice none 0 0), Ar.no, (.slice none 0 0)⟩] [⟨(wa.heap.size + 3), Gs_0, Es_1, 0⟩, ⟨(wa.heap.size + 4), Gl_0, En_1, 0⟩, ⟨(wa.heap.size + 5), Go_0, 0, 0⟩] (World.setCell (s15_1 wv (wa.heap.size + 1) Xl_1.k Xl_1.r Xl_1.a Xl_1.b (.slice pwv Xl_1.z.length cwv)) ⟨(wa.heap.size + 4), 1, none⟩ (.int .i64 En_1))) := HK.out.st11 (n := wa.heap.size) ⟨HNe.out, rfl, rfl, rfl, rfl, rfl, rfl⟩ hb Xl_1 hu En_1; clear HK hb hu x0 x1 x2 x3 x4; have HK := HK2; clear HK2)
                  | fail)
                go_meet
                case rel => exact ⟨_, _, HK.out⟩
            case rest =>
              obtain ⟨bl1, fl1, hk⟩ := hcut
              clear HK Hl1
              have HK := Lib.hid hk
              clear hk
              go_upto_region 14 with fail
              go_cut [] (fun wx => ∃ bo1 fo1, KT w [⟨wz.heap.size, A, (.slice p A.z.length cap), T, (.slice pwr2 T.z.length cwr2), R, (.slice pwr1 R.z.length cwr1)⟩, ⟨wa.heap.size, Ps_0, (.slice as0 Ps_0.z.length ds0), Xs_1, (.slice bs1 Xs_1.z.length fs1), Ar.no, (.slice none 0 0)⟩, ⟨(wa.heap.size + 1), Pl_0, (.slice al0 Pl_0.z.length dl0), Xl_1, (.slice bl1 Xl_1.z.length fl1), Ar.no, (.slice none 0 0)⟩, ⟨(wa.heap.size + 2), Po_0, (.slice ao0 Po_0.z.length do0), Xo_1, (.slice bo1 Xo_1.z.length fo1), Ar.no, (.slice none 0 0)⟩] [⟨(wa.heap.size + 3), Gs_0, Es_1, 0⟩, ⟨(wa.heap.size + 4), Gl_0, En_1, 0⟩, ⟨(wa.heap.size + 5), Go_0, En_1, 0⟩] wx)
              case first =>
                as_aux_lemma =>
                  clear Ks1 Kl1 Ko1 Ps1 Pl1 Po1
                  have x0 := (HK.out.b _ (.head _)).c5
                  have x1 := (HK.out.b _ (.head _)).c6
                  have x2 := (HK.out.b _ (.head _)).c7
                  have x3 := (HK.out.b _ (.head _)).c8
                  have x4 := (HK.out.b _ (.head _)).c9
                  go_wp2_with (first
                    | (go_at_call 18; (with_reducible refine (Ho1.out _ _ (by with_unfolding_all exact HK.out.lay) (by with_unfolding_all exact HK.out.r1 _ (.head _)) (by with_unfolding_all exact HK.out.n1 _ (.head _))).mono ?_); rintro e wv ⟨uwv, rfl, hu, hb⟩; obtain ⟨pwv, cwv, hpwv, _, _⟩ := hu.form; have hqwv : uwv = (.slice pwv Xo_1.z.length cwv) := hpwv; subst hqwv; clear hpwv; have HKo := HK.out.next hb; have o0 := (HKo.b _ (.tail _ (.tail _ (.tail _ (.head _))))).c5; have o1 := (HKo.b _ (.tail _ (.tail _ (.tail _ (.head _))))).c6; have o2 := (HKo.b _ (.tail _ (.tail _ (.tail _ (.head _))))).c7; have o3 := (HKo.b _ (.tail _ (.tail _ (.tail _ (.head _))))).c8; have o4 := (HKo.b _ (.tail _ (.tail _ (.tail _ (.head _))))).c9; have of0 := (HKo.b _ (.tail _ (.tail _ (.tail _ (.head _))))).fr 5; have of1 := (HKo.b _ (.tail _ (.tail _ (.tail _ (.head _))))).fr 6; have of2 := (HKo.b _ (.tail _ (.tail _ (.tail _ (.head _))))).fr 7; have of3 := (HKo.b _ (.tail _ (.tail _ (.tail _ (.head _))))).fr 8; have of4 := (HKo.b _ (.tail _ (.tail _ (.tail _ (.head _))))).fr 9; have oe := (HKo.e _ (.tail _ (.tail _ (.head _)))).c1; have oef := (HKo.e _ (.tail _ (.tail _ (.head _)))).fr 1; clear HKo; have HK2 : Hid (KT w [⟨wz.heap.size, A, (.slice p A.z.length cap), T, (.slice pwr2 T.z.length cwr2), R, (.slice pwr1 R.z.length cwr1)⟩, ⟨wa.heap.size, Ps_0, (.slice as0 Ps_0.z.length ds0), Xs_1, (.slice bs1 Xs_1.z.length fs1), Ar.no, (.slice none 0 0)⟩, ⟨(wa.heap.size + 1), Pl_0, (.slice al0 Pl_0.z.length dl0), Xl_1, (.slice bl1 Xl_1.z.length fl1), Ar.no, (.slice none 0 0)⟩, ⟨(wa.heap.size + 2), Po_0, (.slice ao0 Po_0.z.length do0), Xo_1, (.slice pwv Xo_1.z.length cwv), Ar.no, (.slice none 0 0)⟩] [⟨(wa.heap.size + 3), Gs_0, Es_1, 0⟩, ⟨(wa.heap.size + 4), Gl_0, En_1, 0⟩, ⟨(wa.heap.size + 5), Go_0, En_1, 0⟩] (World.setCell (s15_1 wv (wa.heap.size + 2) Xo_1.k Xo_1.r Xo_1.a Xo_1.b (.slice pwv Xo_1.z.length cwv)) ⟨(wa.heap.size + 5), 1, none⟩ (.int .i64 En_1))) := HK.out.st21 (n := wa.heap.size) ⟨HNe.out, rfl, rfl, rfl, rfl, rfl, rfl⟩ hb Xo_1 hu En_1; clear HK hb hu x0 x1 x2 x3 x4; have HK := HK2; clear HK2)
                    | fail)
                  go_meet
                  case rel => exact ⟨_, _, HK.out⟩
              case rest =>
                obtain ⟨bo1, fo1, hk⟩ := hcut
                clear HK Ho1
                have HK := Lib.hid hk
                clear hk
                have y0 := (HK.out.e _ (.head _)).c1
                go_upto_if 85 with fail
                go_cut [] (fun wx => ∃ as1 ds1, KT w [⟨wz.heap.size, A, (.slice p A.z.length cap), T, (.slice pwr2 T.z.length cwr2), R, (.slice pwr1 R.z.length cwr1)⟩, ⟨wa.heap.size, Ps_0, (.slice as0 Ps_0.z.length ds0), Ps_1, (.slice as1 Ps_1.z.length ds1), Ar.no, (.slice none 0 0)⟩, ⟨(wa.heap.size + 1), Pl_0, (.slice al0 Pl_0.z.length dl0), Xl_1, (.slice bl1 Xl_1.z.length fl1), Ar.no, (.slice none 0 0)⟩, ⟨(wa.heap.size + 2), Po_0, (.slice ao0 Po_0.z.length do0), Xo_1, (.slice bo1 Xo_1.z.length fo1), Ar.no, (.slice none 0 0)⟩] [⟨(wa.heap.size + 3), Gs_0, Gs_1, 0⟩, ⟨(wa.heap.size + 4), Gl_0, En_1, 0⟩, ⟨(wa.heap.size + 5), Go_0, En_1, 0⟩] wx)
                case first =>
                  as_aux_lemma =>
                    clear Kl1 Ko1 Pl1 Po1
                    by_cases hE : Es_1 = 0
                    · obtain ⟨hP, hG⟩ := Ps1.out.1 hE
                      subst hP hG
                      have k1 : (Es_1 == 0) = true := by simpa using hE
                      clear Ps1 hE
                      have x0 := (HK.out.b _ (.tail _ (.head _))).c5
                      have x1 := (HK.out.b _ (.tail _ (.head _))).c6
                      have x2 := (HK.out.b _ (.tail _ (.head _))).c7
                      have x3 := (HK.out.b _ (.tail _ (.head _))).c8
                      have x4 := (HK.out.b _ (.tail _ (.head _))).c9
                      go_wp2_with (first
                        | (go_at_call 16; (with_reducible refine (Ks1.out _ _ (by with_unfolding_all exact HK.out.lay) (by with_unfolding_all exact HK.out.r1 _ (.tail _ (.head _))) (by with_unfolding_all exact HK.out.n1 _ (.tail _ (.head _)))).mono ?_); rintro e wu ⟨uwu, rfl, hu, hb⟩; obtain ⟨pwu, cwu, hpwu, _, _⟩ := hu.form; have hqwu : uwu = (.slice pwu Ps_1.z.length cwu) := hpwu; subst hqwu; clear hpwu; have HKo := HK.out.next hb; have o0 := (HKo.b _ (.tail _ (.head _))).c5; have o1 := (HKo.b _ (.tail _ (.head _))).c6; have o2 := (HKo.b _ (.tail _ (.head _))).c7; have o3 := (HKo.b _ (.tail _ (.head _))).c8; have o4 := (HKo.b _ (.tail _ (.head _))).c9; have of0 := (HKo.b _ (.tail _ (.head _))).fr 5; have of1 := (HKo.b _ (.tail _ (.head _))).fr 6; have of2 := (HKo.b _ (.tail _ (.head _))).fr 7; have of3 := (HKo.b _ (.tail _ (.head _))).fr 8; have of4 := (HKo.b _ (.tail _ (.head _))).fr 9; have oe := (HKo.e _ (.head _)).c1; have oef := (HKo.e _ (.head _)).fr 1; clear HKo; have HK2 : Hid (KT w [⟨wz.heap.size, A, (.slice p A.z.length cap), T, (.slice pwr2 T.z.length cwr2), R, (.slice pwr1 R.z.length cwr1)⟩, ⟨wa.heap.size, Ps_0, (.slice as0 Ps_0.z.length ds0), Ps_1, (.slice pwu Ps_1.z.length cwu), Ar.no, (.slice none 0 0)⟩, ⟨(wa.heap.size + 1), Pl_0, (.slice al0 Pl_0.z.length dl0), Xl_1, (.slice bl1 Xl_1.z.length fl1), Ar.no, (.slice none 0 0)⟩, ⟨(wa.heap.size + 2), Po_0, (.slice ao0 Po_0.z.length do0), Xo_1, (.slice bo1 Xo_1.z.length fo1), Ar.no, (.slice none 0 0)⟩] [⟨(wa.heap.size + 3), Gs_0, Gs_1, 0⟩, ⟨(wa.heap.size + 4), Gl_0, En_1, 0⟩, ⟨(wa.heap.size + 5), Go_0, En_1, 0⟩] (World.setCell (s15_1 wu wa.heap.size Ps_1.k Ps_1.r Ps_1.a Ps_1.b (.slice pwu Ps_1.z.length cwu)) ⟨(wa.heap.size + 3), 1, none⟩ (.int .i64 Gs_1))) := HK.out.st01 (n := wa.heap.size) ⟨HNe.out, rfl, rfl, rfl, rfl, rfl, rfl⟩ hb Ps_1 hu Gs_1; clear HK hb hu x0 x1 x2 x3 x4; have HK := HK2; clear HK2)
                        | fail)
                      go_meet
                      case rel => exact ⟨_, _, HK.out⟩
                    · obtain ⟨hP, hG⟩ := Ps1.out.2 hE
                      have k1 : (Es_1 == 0) = false := by simpa using hE
                      subst hP hG
                      clear Ps1 hE
                      go_wp2_with fail
                      go_meet
                      case rel => exact ⟨_, _, HK.out⟩
                case rest =>
                  obtain ⟨as1, ds1, hk⟩ := hcut
                  clear HK y0 Ps1 Ks1
                  have HK := Lib.hid hk
                  clear hk
                  have y0 := (HK.out.e _ (.tail _ (.head _))).c1
                  go_upto_if 104 with fail
                  go_cut [] (fun wx => ∃ al1 dl1, KT w [⟨wz.heap.size, A, (.slice p A.z.length cap), T, (.slice pwr2 T.z.length cwr2), R, (.slice pwr1 R.z.length cwr1)⟩, ⟨wa.heap.size, Ps_0, (.slice as0 Ps_0.z.length ds0), Ps_1, (.slice as1 Ps_1.z.length ds1), Ar.no, (.slice none 0 0)⟩, ⟨(wa.heap.size + 1), Pl_0, (.slice al0 Pl_0.z.length dl0), Pl_1, (.slice al1 Pl_1.z.length dl1), Ar.no, (.slice none 0 0)⟩, ⟨(wa.heap.size + 2), Po_0, (.slice ao0 Po_0.z.length do0), Xo_1, (.slice bo1 Xo_1.z.length fo1), Ar.no, (.slice none 0 0)⟩] [⟨(wa.heap.size + 3), Gs_0, Gs_1, 0⟩, ⟨(wa.heap.size + 4), Gl_0, Gl_1, 0⟩, ⟨(wa.heap.size + 5), Go_0, En_1, 0⟩] wx)
                  case first =>
                    as_aux_lemma =>
                      clear Ko1 Po1
                      by_cases hE : En_1 = 0
                      · obtain ⟨hP, hG⟩ := Pl1.out.1 hE
                        subst hP hG
                        have k1 : (En_1 == 0) = true := by simpa using hE
                        clear Pl1 hE
                        have x0 := (HK.out.b _ (.tail _ (.tail _ (.head _)))).c5
                        have x1 := (HK.out.b _ (.tail _ (.tail _ (.head _)))).c6
                        have x2 := (HK.out.b _ (.tail _ (.tail _ (.head _)))).c7
                        have x3 := (HK.out.b _ (.tail _ (.tail _ (.head _)))).c8
                        have x4 := (HK.out.b _ (.tail _ (.tail _ (.head _)))).c9
                        go_wp2_with (first
                          | (go_at_call 17; (with_reducible refine (Kl1.out _ _ (by with_unfolding_all exact HK.out.lay) (by with_unfolding_all exact HK.out.r1 _ (.tail _ (.tail _ (.head _)))) (by with_unfolding_all exact HK.out.n1 _ (.tail _ (.tail _ (.head _))))).mono ?_); rintro e wu ⟨uwu, rfl, hu, hb⟩; obtain ⟨pwu, cwu, hpwu, _, _⟩ := hu.form; have hqwu : uwu = (.slice pwu Pl_1.z.length cwu) := hpwu; subst hqwu; clear hpwu; have HKo := HK.out.next hb; have o0 := (HKo.b _ (.tail _ (.tail _ (.head _)))).c5; have o1 := (HKo.b _ (.tail _ (.tail _ (.head _)))).c6; have o2 := (HKo.b _ (.tail _ (.tail _ (.head _)))).c7; have o3 := (HKo.b _ (.tail _ (.tail _ (.head _)))).c8; have o4 := (HKo.b _ (.tail _ (.tail _ (.head _)))).c9; have of0 := (HKo.b _ (.tail _ (.tail _ (.head _)))).fr 5; have of1 := (HKo.b _ (.tail _ (.tail _ (.head _)))).fr 6; have of2 := (HKo.b _ (.tail _ (.tail _ (.head _)))).fr 7; have of3 := (HKo.b _ (.tail _ (.tail _ (.head _)))).fr 8; have of4 := (HKo.b _ (.tail _ (.tail _ (.head _)))).fr 9; have oe := (HKo.e _ (.tail _ (.head _))).c1; have oef := (HKo.e _ (.tail _ (.head _))).fr 1; clear HKo; have HK2 : Hid (KT w [⟨wz.heap.size, A, (.slice p A.z.length cap), T, (.slice pwr2 T.z.length cwr2), R, (.slice pwr1 R.z.length cwr1)⟩, ⟨wa.heap.size, Ps_0, (.slice as0 Ps_0.z.length ds0), Ps_1, (.slice as1 Ps_1.z.length ds1), Ar.no, (.slice none 0 0)⟩, ⟨(wa.heap.size + 1), Pl_0, (.slice al0 Pl_0.z.length dl0), Pl_1, (.slice pwu Pl_1.z.length cwu), Ar.no, (.slice none 0 0)⟩, ⟨(wa.heap.size + 2), Po_0, (.slice ao0 Po_0.z.length do0), Xo_1, (.slice bo1 Xo_1.z.length fo1), Ar.no, (.slice none 0 0)⟩] [⟨(wa.heap.size + 3), Gs_0, Gs_1, 0⟩, ⟨(wa.heap.size + 4), Gl_0, Gl_1, 0⟩, ⟨(wa.heap.size + 5), Go_0, En_1, 0⟩] (World.setCell (s15_1 wu (wa.heap.size + 1) Pl_1.k Pl_1.r Pl_1.a Pl_1.b (.slice pwu Pl_1.z.length cwu)) ⟨(wa.heap.size + 4), 1, none⟩ (.int .i64 Gl_1))) := HK.out.st11 (n := wa.heap.size) ⟨HNe.out, rfl, rfl, rfl, rfl, rfl, rfl⟩ hb Pl_1 hu Gl_1; clear HK hb hu x0 x1 x2 x3 x4; have HK := HK2; clear HK2)
                          | fail)
                        go_meet
                        case rel => exact ⟨_, _, HK.out⟩
                      · obtain ⟨hP, hG⟩ := Pl1.out.2 hE
                        have k1 : (En_1 == 0) = false := by simpa using hE
                        subst hP hG
                        clear Pl1 hE
                        go_wp2_with fail
                        go_meet
                        case rel => exact ⟨_, _, HK.out⟩
                  case rest =>
                    obtain ⟨al1, dl1, hk⟩ := hcut
                    clear HK y0 Pl1 Kl1
                    have HK := Lib.hid hk
                    clear hk
                    have y0 := (HK.out.e _ (.tail _ (.tail _ (.head _)))).c1
                    by_cases hE : En_1 = 0
                    · obtain ⟨hP, hG⟩ := Po1.out.1 hE
                      subst hP hG
                      have k1 : (En_1 == 0) = true := by simpa using hE
                      clear Po1 hE
                      have x0 := (HK.out.b _ (.tail _ (.tail _ (.tail _ (.head _))))).c5
                      have x1 := (HK.out.b _ (.tail _ (.tail _ (.tail _ (.head _))))).c6
                      have x2 := (HK.out.b _ (.tail _ (.tail _ (.tail _ (.head _))))).c7
                      have x3 := (HK.out.b _ (.tail _ (.tail _ (.tail _ (.head _))))).c8
                      have x4 := (HK.out.b _ (.tail _ (.tail _ (.tail _ (.head _))))).c9
                      as_aux_lemma =>
                        go_wp2_with (first
                          | (go_at_call 18; (with_reducible refine (Ko1.out _ _ (by with_unfolding_all exact HK.out.lay) (by with_unfolding_all exact HK.out.r1 _ (.tail _ (.tail _ (.tail _ (.head _))))) (by with_unfolding_all exact HK.out.n1 _ (.tail _ (.tail _ (.tail _ (.head _)))))).mono ?_); rintro e wu ⟨uwu, rfl, hu, hb⟩; obtain ⟨pwu, cwu, hpwu, _, _⟩ := hu.form; have hqwu : uwu = (.slice pwu Po_1.z.length cwu) := hpwu; subst hqwu; clear hpwu; have HKo := HK.out.next hb; have o0 := (HKo.b _ (.tail _ (.tail _ (.tail _ (.head _))))).c5; have o1 := (HKo.b _ (.tail _ (.tail _ (.tail _ (.head _))))).c6; have o2 := (HKo.b _ (.tail _ (.tail _ (.tail _ (.head _))))).c7; have o3 := (HKo.b _ (.tail _ (.tail _ (.tail _ (.head _))))).c8; have o4 := (HKo.b _ (.tail _ (.tail _ (.tail _ (.head _))))).c9; have of0 := (HKo.b _ (.tail _ (.tail _ (.tail _ (.head _))))).fr 5; have of1 := (HKo.b _ (.tail _ (.tail _ (.tail _ (.head _))))).fr 6; have of2 := (HKo.b _ (.tail _ (.tail _ (.tail _ (.head _))))).fr 7; have of3 := (HKo.b _ (.tail _ (.tail _ (.tail _ (.head _))))).fr 8; have of4 := (HKo.b _ (.tail _ (.tail _ (.tail _ (.head _))))).fr 9; have oe := (HKo.e _ (.tail _ (.tail _ (.head _)))).c1; have oef := (HKo.e _ (.tail _ (.tail _ (.head _)))).fr 1; clear HKo; have HK2 : Hid (KT w [⟨wz.heap.size, A, (.slice p A.z.length cap), T, (.slice pwr2 T.z.length cwr2), R, (.slice pwr1 R.z.length cwr1)⟩, ⟨wa.heap.size, Ps_0, (.slice as0 Ps_0.z.length ds0), Ps_1, (.slice as1 Ps_1.z.length ds1), Ar.no, (.slice none 0 0)⟩, ⟨(wa.heap.size + 1), Pl_0, (.slice al0 Pl_0.z.length dl0), Pl_1, (.slice al1 Pl_1.z.length dl1), Ar.no, (.slice none 0 0)⟩, ⟨(wa.heap.size + 2), Po_0, (.slice ao0 Po_0.z.length do0), Po_1, (.slice pwu Po_1.z.length cwu), Ar.no, (.slice none 0 0)⟩] [⟨(wa.heap.size + 3), Gs_0, Gs_1, 0⟩, ⟨(wa.heap.size + 4), Gl_0, Gl_1, 0⟩, ⟨(wa.heap.size + 5), Go_0, Go_1, 0⟩] (World.setCell (s15_1 wu (wa.heap.size + 2) Po_1.k Po_1.r Po_1.a Po_1.b (.slice pwu Po_1.z.length cwu)) ⟨(wa.heap.size + 5), 1, none⟩ (.int .i64 Go_1))) := HK.out.st21 (n := wa.heap.size) ⟨HNe.out, rfl, rfl, rfl, rfl, rfl, rfl⟩ hb Po_1 hu Go_1; clear HK hb hu x0 x1 x2 x3 x4; have HK := HK2; clear HK2)
                          | fail)
                        go_roundg 1
                        case measure => omega
                        case rel => exact (Or.inr (Or.inr (Or.inl ⟨rfl, by go_num, _, _, _, _, _, _, _, _, _, _, _, _, HK.out⟩)))
                    · obtain ⟨hP, hG⟩ := Po1.out.2 hE
                      have k1 : (En_1 == 0) = false := by simpa using hE
                      subst hP hG
                      clear Po1 hE
                      as_aux_lemma =>
                        go_wp2_with fail
                        go_roundg 1
                        case measure => omega
                        case rel => exact (Or.inr (Or.inr (Or.inl ⟨rfl, by go_num, _, _, _, _, _, _, _, _, _, _, _, _, HK.out⟩)))
        · have HK := Lib.hid hk
          clear hk
          clear Hs0 Hs1 Hl0 Hl1 Ho0 Ho1 Ks0 Ps0 Ks1 Ps1 Kl0 Pl0 Kl1 Pl1 Ko0 Po0 Ko1 Po1 Ns Nl No Q0 Q1 HAw
          go_upto_region 12 with fail
          go_cut [] (fun wx => ∃ bs2 fs2, KT w [⟨wz.heap.size, A, (.slice p A.z.length cap), T, (.slice pwr2 T.z.length cwr2), R, (.slice pwr1 R.z.length cwr1)⟩, ⟨wa.heap.size, Ps_0, (.slice as0 Ps_0.z.length ds0), Ps_1, (.slice as1 Ps_1.z.length ds1), Xs_2, (.slice bs2 Xs_2.z.length fs2)⟩, ⟨(wa.heap.size + 1), Pl_0, (.slice al0 Pl_0.z.length dl0), Pl_1, (.slice al1 Pl_1.z.length dl1), Ar.no, (.slice none 0 0)⟩, ⟨(wa.heap.size + 2), Po_0, (.slice ao0 Po_0.z.length do0), Po_1, (.slice ao1 Po_1.z.length do1), Ar.no, (.slice none 0 0)⟩] [⟨(wa.heap.size + 3), Gs_0, Gs_1, Es_2⟩, ⟨(wa.heap.size + 4), Gl_0, Gl_1, 0⟩, ⟨(wa.heap.size + 5), Go_0, Go_1, 0⟩] wx)
          case first =>
            as_aux_lemma =>
              clear Hl2 Ho2
              have x0 := (HK.out.b _ (.head _)).c10
              have x1 := (HK.out.b _ (.head _)).c11
              have x2 := (HK.out.b _ (.head _)).c12
              have x3 := (HK.out.b _ (.head _)).c13
              have x4 := (HK.out.b _ (.head _)).c14
              go_wp2_with (first
                | (go_at_call 16; (with_reducible refine (Hs2.out _ _ (by with_unfolding_all exact HK.out.lay) (by with_unfolding_all exact HK.out.r2 _ (.head _)) (by with_unfolding_all exact HK.out.n2 _ (.head _))).mono ?_); rintro e wv ⟨uwv, rfl, hu, hb⟩; obtain ⟨pwv, cwv, hpwv, _, _⟩ := hu.form; have hqwv : uwv = (.slice pwv Xs_2.z.length cwv) := hpwv; subst hqwv; clear hpwv; have HKo := HK.out.next hb; have o0 := (HKo.b _ (.tail _ (.head _))).c10; have o1 := (HKo.b _ (.tail _ (.head _))).c11; have o2 := (HKo.b _ (.tail _ (.head _))).c12; have o3 := (HKo.b _ (.tail _ (.head _))).c13; have o4 := (HKo.b _ (.tail _ (.head _))).c14; have of0 := (HKo.b _ (.tail _ (.head _))).fr 10; have of1 := (HKo.b _ (.tail _ (.head _))).fr 11; have of2 := (HKo.b _ (.tail _ (.head _))).fr 12; have of3 := (HKo.b _ (.tail _ (.head _))).fr 13; have of4 := (HKo.b _ (.tail _ (.head _))).fr 14; have oe := (HKo.e _ (.head _)).c2; have oef := (HKo.e _ (.head _)).fr 2; clear HKo; have HK2 : Hid (KT w [⟨wz.heap.size, A, (.slice p A.z.length cap), T, (.slice pwr2 T.z.length cwr2), R, (.slice pwr1 R.z.length cwr1)⟩, ⟨wa.heap.size, Ps_0, (.slice as0 Ps_0.z.length ds0), Ps_1, (.slice as1 Ps_1.z.length ds1), Xs_2, (.slice pwv Xs_2.z.length cwv)⟩, ⟨(wa.heap.size + 1), Pl_0, (.slice al0 Pl_0.z.length dl0), Pl_1, (.slice al1 Pl_1.z.length dl1), Ar.no, (.slice none 0 0)⟩, ⟨(wa.heap.size + 2), Po_0, (.slice ao0 Po_0.z.length do0), Po_1, (.slice ao1 Po_1.z.length do1), Ar.no, (.slice none 0 0)⟩] [⟨(wa.heap.size + 3), Gs_0, Gs_1, Es_2⟩, ⟨(wa.heap.size + 4), Gl_0, Gl_1, 0⟩, ⟨(wa.heap.size + 5), Go_0, Go_1, 0⟩] (World.setCell (s15_2 wv wa.heap.size Xs_2.k Xs_2.r Xs_2.a Xs_2.b (.slice pwv Xs_2.z.length cwv)) ⟨(wa.heap.size + 3), 2, none⟩ (.int .i64 Es_2))) := HK.out.st02 (n := wa.heap.size) ⟨HNe.out, rfl, rfl, rfl, rfl, rfl, rfl⟩ hb Xs_2 hu Es_2; clear HK hb hu x0 x1 x2 x3 x4; have HK := HK2; clear HK2)
                | fail)
              go_meet
              case rel => exact ⟨_, _, HK.out⟩
          case rest =>
            obtain ⟨bs2, fs2, hk⟩ := hcut
            clear HK Hs2
            have HK := Lib.hid hk
            clear hk
            go_upto_region 13 with fail
            go_cut [] (fun wx => ∃ bl2 fl2, KT w [⟨wz.heap.size, A, (.slice p A.z.length cap), T, (.slice pwr2 T.z.length cwr2), R, (.slice pwr1 R.z.length cwr1)⟩, ⟨wa.heap.size, Ps_0, (.slice as0 Ps_0.z.length ds0), Ps_1, (.slice as1 Ps_1.z.length ds1), Xs_2, (.slice bs2 Xs_2.z.length fs2)⟩, ⟨(wa.heap.size + 1), Pl_0, (.slice al0 Pl_0.z.length dl0), Pl_1, (.slice al1 Pl_1.z.length dl1), Xl_2, (.slice bl2 Xl_2.z.length fl2)⟩, ⟨(wa.heap.size + 2), Po_0, (.slice ao0 Po_0.z.length do0), Po_1, (.slice ao1 Po_1.z.length do1), Ar.no, (.slice none 0 0)⟩] [⟨(wa.heap.size + 3), Gs_0, Gs_1, Es_2⟩, ⟨(wa.heap.size + 4), Gl_0, Gl_1, En_2⟩, ⟨(wa.heap.size + 5), Go_0, Go_1, 0⟩] wx)
            case first =>
              as_aux_lemma =>
                clear Ho2
                have x0 := (HK.out.b _ (.head _)).c10
                have x1 := (HK.out.b _ (.head _)).c11
                have x2 := (HK.out.b _ (.head _)).c12
                have x3 := (HK.out.b _ (.head _)).c13
                have x4 := (HK.out.b _ (.head _)).c14
                go_wp2_with (first
                  | (go_at_call 17; (with_reducible refine (Hl2.out _ _ (by with_unfolding_all exact HK.out.lay) (by with_unfolding_all exact HK.out.r2 _ (.head _)) (by with_unfolding_all exact HK.out.n2 _ (.head _))).mono ?_); rintro e wv ⟨uwv, rfl, hu, hb⟩; obtain ⟨pwv, cwv, hpwv, _, _⟩ := hu.form; have hqwv : uwv = (.slice pwv Xl_2.z.length cwv) := hpwv; subst hqwv; clear hpwv; have HKo := HK.out.next hb; have o0 := (HKo.b _ (.tail _ (.tail _ (.head _)))).c10; have o1 := (HKo.b _ (.tail _ (.tail _ (.head _)))).c11; have o2 := (HKo.b _ (.tail _ (.tail _ (.head _)))).c12; have o3 := (HKo.b _ (.tail _ (.tail _ (.head _)))).c13; have o4 := (HKo.b _ (.tail _ (.tail _ (.head _)))).c14; have of0 := (HKo.b _ (.tail _ (.tail _ (.head _)))).fr 10; have of1 := (HKo.b _ (.tail _ (.tail _ (.head _)))).fr 11; have of2 := (HKo.b _ (.tail _ (.tail _ (.head _)))).fr 12; have of3 := (HKo.b _ (.tail _ (.tail _ (.head _)))).fr 13; have of4 := (HKo.b _ (.tail _ (.tail _ (.head _)))).fr 14; have oe := (HKo.e _ (.tail _ (.head _))).c2; have oef := (HKo.e _ (.tail _ (.head _))).fr 2; clear HKo; have HK2 : Hid (KT w [⟨wz.heap.size, A, (.slice p A.z.length cap), T, (.slice pwr2 T.z.length cwr2), R, (.slice pwr1 R.z.length cwr1)⟩, ⟨wa.heap.size, Ps_0, (.slice as0 Ps_0.z.length ds0), Ps_1, (.slice as1 Ps_1.z.length ds1), Xs_2, (.slice bs2 Xs_2.z.length fs2)⟩, ⟨(wa.heap.size + 1), Pl_0, (.slice al0 Pl_0.z.length dl0), Pl_1, (.slice al1 Pl_1.z.length dl1), Xl_2, (.slice pwv Xl_2.z.length cwv)⟩, ⟨(wa.heap.size + 2), Po_0, (.slice ao0 Po_0.z.length do0), Po_1, (.slice ao1 Po_1.z.length do1), Ar.no, (.slice none 0 0)⟩] [⟨(wa.heap.size + 3), Gs_0, Gs_1, Es_2⟩, ⟨(wa.heap.size + 4), Gl_0, Gl_1, En_2⟩, ⟨(wa.heap.size + 5), Go_0, Go_1, 0⟩] (World.setCell (s15_2 wv (wa.heap.size + 1) Xl_2.k Xl_2.r Xl_2.a Xl_2.b (.slice pwv Xl_2.z.length cwv)) ⟨(wa.heap.size + 4), 2, none⟩ (.int .i64 En_2))) := HK.out.st12 (n := wa.heap.size) ⟨HNe.out, rfl, rfl, rfl, rfl, rfl, rfl⟩ hb Xl_2 hu En_2; clear HK hb hu x0 x1 x2 x3 x4; have HK := HK2; clear HK2)
                  | fail)
                go_meet
                case rel => exact ⟨_, _, HK.out⟩
            case rest =>
              obtain ⟨bl2, fl2, hk⟩ := hcut
              clear HK Hl2
              have HK := Lib.hid hk
              clear hk
              go_upto_region 14 with fail
              go_cut [] (fun wx => ∃ bo2 fo2, KT w [⟨wz.heap.size, A, (.slice p A.z.length cap), T, (.slice pwr2 T.z.length cwr2), R, (.slice pwr1 R.z.length cwr1)⟩, ⟨wa.heap.size, Ps_0, (.slice as0 Ps_0.z.length ds0), Ps_1, (.slice as1 Ps_1.z.length ds1), Xs_2, (.slice bs2 Xs_2.z.length fs2)⟩, ⟨(wa.heap.size + 1), Pl_0, (.slice al0 Pl_0.z.length dl0), Pl_1, (.slice al1 Pl_1.z.length dl1), Xl_2, (.slice bl2 Xl_2.z.length fl2)⟩, ⟨(wa.heap.size + 2), Po_0, (.slice ao0 Po_0.z.length do0), Po_1, (.slice ao1 Po_1.z.length do1), Xo_2, (.slice bo2 Xo_2.z.length fo2)⟩] [⟨(wa.heap.size + 3), Gs_0, Gs_1, Es_2⟩, ⟨(wa.heap.size + 4), Gl_0, Gl_1, En_2⟩, ⟨(wa.heap.size + 5), Go_0, Go_1, En_2⟩] wx)
              case first =>
                as_aux_lemma =>
                  have x0 := (HK.out.b _ (.head _)).c10
                  have x1 := (HK.out.b _ (.head _)).c11
                  have x2 := (HK.out.b _ (.head _)).c12
                  have x3 := (HK.out.b _ (.head _)).c13
                  have x4 := (HK.out.b _ (.head _)).c14
                  go_wp2_with (first
                    | (go_at_call 18; (with_reducible refine (Ho2.out _ _ (by with_unfolding_all exact HK.out.lay) (by with_unfolding_all exact HK.out.r2 _ (.head _)) (by with_unfolding_all exact HK.out.n2 _ (.head _))).mono ?_); rintro e wv ⟨uwv, rfl, hu, hb⟩; obtain ⟨pwv, cwv, hpwv, _, _⟩ := hu.form; have hqwv : uwv = (.slice pwv Xo_2.z.length cwv) := hpwv; subst hqwv; clear hpwv; have HKo := HK.out.next hb; have o0 := (HKo.b _ (.tail _ (.tail _ (.tail _ (.head _))))).c10; have o1 := (HKo.b _ (.tail _ (.tail _ (.tail _ (.head _))))).c11; have o2 := (HKo.b _ (.tail _ (.tail _ (.tail _ (.head _))))).c12; have o3 := (HKo.b _ (.tail _ (.tail _ (.tail _ (.head _))))).c13; have o4 := (HKo.b _ (.tail _ (.tail _ (.tail _ (.head _))))).c14; have of0 := (HKo.b _ (.tail _ (.tail _ (.tail _ (.head _))))).fr 10; have of1 := (HKo.b _ (.tail _ (.tail _ (.tail _ (.head _))))).fr 11; have of2 := (HKo.b _ (.tail _ (.tail _ (.tail _ (.head _))))).fr 12; have of3 := (HKo.b _ (.tail _ (.tail _ (.tail _ (.head _))))).fr 13; have of4 := (HKo.b _ (.tail _ (.tail _ (.tail _ (.head _))))).fr 14; have oe := (HKo.e _ (.tail _ (.tail _ (.head _)))).c2; have oef := (HKo.e _ (.tail _ (.tail _ (.head _)))).fr 2; clear HKo; have HK2 : Hid (KT w [⟨wz.heap.size, A, (.slice p A.z.length cap), T, (.slice pwr2 T.z.length cwr2), R, (.slice pwr1 R.z.length cwr1)⟩, ⟨wa.heap.size, Ps_0, (.slice as0 Ps_0.z.length ds0), Ps_1, (.slice as1 Ps_1.z.length ds1), Xs_2, (.slice bs2 Xs_2.z.length fs2)⟩, ⟨(wa.heap.size + 1), Pl_0, (.slice al0 Pl_0.z.length dl0), Pl_1, (.slice al1 Pl_1.z.length dl1), Xl_2, (.slice bl2 Xl_2.z.length fl2)⟩, ⟨(wa.heap.size + 2), Po_0, (.slice ao0 Po_0.z.length do0), Po_1, (.slice ao1 Po_1.z.length do1), Xo_2, (.slice pwv Xo_2.z.length cwv)⟩] [⟨(wa.heap.size + 3), Gs_0, Gs_1, Es_2⟩, ⟨(wa.heap.size + 4), Gl_0, Gl_1, En_2⟩, ⟨(wa.heap.size + 5), Go_0, Go_1, En_2⟩] (World.setCell (s15_2 wv (wa.heap.size + 2) Xo_2.k Xo_2.r Xo_2.a Xo_2.b (.slice pwv Xo_2.z.length cwv)) ⟨(wa.heap.size + 5), 2, none⟩ (.int .i64 En_2))) := HK.out.st22 (n := wa.heap.size) ⟨HNe.out, rfl, rfl, rfl, rfl, rfl, rfl⟩ hb Xo_2 hu En_2; clear HK hb hu x0 x1 x2 x3 x4; have HK := HK2; clear HK2)
                    | fail)
                  go_meet
                  case rel => exact ⟨_, _, HK.out⟩
              case rest =>
                obtain ⟨bo2, fo2, hk⟩ := hcut
                clear HK Ho2
                have HK := Lib.hid hk
                clear hk
                go_wp2_with fail
                go_roundg 0
                case measure => omega
                case rel => exact (Or.inr (Or.inr (Or.inr ⟨rfl, by go_num, _, _, _, _, _, _, _, _, _, _, _, _, _, _, _, _, _, _, HK.out⟩)))
        · have HK := Lib.hid hk
          clear hk Hs0 Hs1 Hs2 Hl0 Hl1 Hl2 Ho0 Ho1 Ho2 Ks0 Ps0 Ks1 Ps1 Kl0 Pl0 Kl1 Pl1 Ko0 Po0 Ko1 Po1
          go_wp2_with fail
          go_loopg [15] 2 (fun gk i wr => (gk = 2 ∧ i = .int .i64 0 ∧ KT w [⟨wz.heap.size, A, (.slice p A.z.length cap), T, (.slice pwr2 T.z.length cwr2), R, (.slice pwr1 R.z.length cwr1)⟩, ⟨wa.heap.size, Ps_0, (.slice as0 Ps_0.z.length ds0), Ps_1, (.slice as1 Ps_1.z.length ds1), Xs_2, (.slice as2 Xs_2.z.length ds2)⟩, ⟨(wa.heap.size + 1), Pl_0, (.slice al0 Pl_0.z.length dl0), Pl_1, (.slice al1 Pl_1.z.length dl1), Xl_2, (.slice al2 Xl_2.z.length dl2)⟩, ⟨(wa.heap.size + 2), Po_0, (.slice ao0 Po_0.z.length do0), Po_1, (.slice ao1 Po_1.z.length do1), Xo_2, (.slice ao2 Xo_2.z.length do2)⟩] [⟨(wa.heap.size + 3), Gs_0, Gs_1, Es_2⟩, ⟨(wa.heap.size + 4), Gl_0, Gl_1, En_2⟩, ⟨(wa.heap.size + 5), Go_0, Go_1, En_2⟩] wr) ∨ (gk = 1 ∧ i = .int .i64 1 ∧ KT w [⟨wz.heap.size, A, (.slice p A.z.length cap), T, (.slice pwr2 T.z.length cwr2), R, (.slice pwr1 R.z.length cwr1)⟩, ⟨wa.heap.size, Ps_0, (.slice as0 Ps_0.z.length ds0), Ps_1, (.slice as1 Ps_1.z.length ds1), Xs_2, (.slice as2 Xs_2.z.length ds2)⟩, ⟨(wa.heap.size + 1), Pl_0, (.slice al0 Pl_0.z.length dl0), Pl_1, (.slice al1 Pl_1.z.length dl1), Xl_2, (.slice al2 Xl_2.z.length dl2)⟩, ⟨(wa.heap.size + 2), Po_0, (.slice ao0 Po_0.z.length do0), Po_1, (.slice ao1 Po_1.z.length do1), Xo_2, (.slice ao2 Xo_2.z.length do2)⟩] [⟨(wa.heap.size + 3), Gs_0, Gs_1, Es_2⟩, ⟨(wa.heap.size + 4), Gl_0, Gl_1, En_2⟩, ⟨(wa.heap.size + 5), Go_0, Go_1, En_2⟩] wr) ∨ (gk = 0 ∧ i = .int .i64 2 ∧ KT w [⟨wz.heap.size, A, (.slice p A.z.length cap), T, (.slice pwr2 T.z.length cwr2), R, (.slice pwr1 R.z.length cwr1)⟩, ⟨wa.heap.size, Ps_0, (.slice as0 Ps_0.z.length ds0), Ps_1, (.slice as1 Ps_1.z.length ds1), Xs_2, (.slice as2 Xs_2.z.length ds2)⟩, ⟨(wa.heap.size + 1), Pl_0, (.slice al0 Pl_0.z.length dl0), Pl_1, (.slice al1 Pl_1.z.length dl1), Xl_2, (.slice al2 Xl_2.z.length dl2)⟩, ⟨(wa.heap.size + 2), Po_0, (.slice ao0 Po_0.z.length do0), Po_1, (.slice ao1 Po_1.z.length do1), Xo_2, (.slice ao2 Xo_2.z.length do2)⟩] [⟨(wa.heap.size + 3), Gs_0, Gs_1, Es_2⟩, ⟨(wa.heap.size + 4), Gl_0, Gl_1, En_2⟩, ⟨(wa.heap.size + 5), Go_0, Go_1, En_2⟩] wr))
          case atStart => exact .inl ⟨rfl, rfl, HK.out⟩
          case round =>
            clear HK
            rcases hrel with ⟨rfl, rfl, hk⟩ | ⟨rfl, rfl, hk⟩ | ⟨rfl, rfl, hk⟩
            · have HK := Lib.hid hk
              clear hk Q1 HAw
              go_upto_region 24 with fail
              go_cut [156] (fun s wx => s = .bool false ∧ KT w [⟨wz.heap.size, A, (.slice p A.z.length cap), T, (.slice pwr2 T.z.length cwr2), R, (.slice pwr1 R.z.length cwr1)⟩, ⟨wa.heap.size, Ps_0, (.slice as0 Ps_0.z.length ds0), Ps_1, (.slice as1 Ps_1.z.length ds1), Xs_2, (.slice as2 Xs_2.z.length ds2)⟩, ⟨(wa.heap.size + 1), Pl_0, (.slice al0 Pl_0.z.length dl0), Pl_1, (.slice al1 Pl_1.z.length dl1), Xl_2, (.slice al2 Xl_2.z.length dl2)⟩, ⟨(wa.heap.size + 2), Po_0, (.slice ao0 Po_0.z.length do0), Po_1, (.slice ao1 Po_1.z.length do1), Xo_2, (.slice ao2 Xo_2.z.length do2)⟩] [⟨(wa.heap.size + 3), Gs_0, Gs_1, Es_2⟩, ⟨(wa.heap.size + 4), Gl_0, Gl_1, En_2⟩, ⟨(wa.heap.size + 5), Go_0, Go_1, En_2⟩] wx)
              case first =>
                as_aux_lemma =>
                  by_cases h1 : Gs_0 = 0
                  · have e1 : (Gs_0 == 0) = true := by simpa using h1
                    by_cases h2 : Es_2 = 0
                    · have e2 : (Es_2 == 0) = true := by simpa using h2
                      have HSms : Hid (∀ v u W, RdI W.heap.size W v Ps_0.z → RdI W.heap.size W u Xs_2.z → Calls Tryd.prog 19 #[A5 Ps_0.k Ps_0.r Ps_0.a Ps_0.b v, A5 Xs_2.k Xs_2.r Xs_2.a Xs_2.b u] W fun e w' => e = .returned (.bool true) ∧ Below W.heap.size W w') := by
                        intro v u W g1 g2
                        have h := Q0.out.1 h1 h2
                        rw [h] at g1 ⊢
                        exact same_eq _ _ _ _ _ v u W g1 g2 Ns.out
                      clear Q0 h1 h2
                      have HAll : Hid (∀ W, KT w [⟨wz.heap.size, A, (.slice p A.z.length cap), T, (.slice pwr2 T.z.length cwr2), R, (.slice pwr1 R.z.length cwr1)⟩, ⟨wa.heap.size, Ps_0, (.slice as0 Ps_0.z.length ds0), Ps_1, (.slice as1 Ps_1.z.length ds1), Xs_2, (.slice as2 Xs_2.z.length ds2)⟩, ⟨(wa.heap.size + 1), Pl_0, (.slice al0 Pl_0.z.length dl0), Pl_1, (.slice al1 Pl_1.z.length dl1), Xl_2, (.slice al2 Xl_2.z.length dl2)⟩, ⟨(wa.heap.size + 2), Po_0, (.slice ao0 Po_0.z.length do0), Po_1, (.slice ao1 Po_1.z.length do1), Xo_2, (.slice ao2 Xo_2.z.length do2)⟩] [⟨(wa.heap.size + 3), Gs_0, Gs_1, Es_2⟩, ⟨(wa.heap.size + 4), Gl_0, Gl_1, En_2⟩, ⟨(wa.heap.size + 5), Go_0, Go_1, En_2⟩] W → (fun W => KT w [⟨wz.heap.size, A, (.slice p A.z.length cap), T, (.slice pwr2 T.z.length cwr2), R, (.slice pwr1 R.z.length cwr1)⟩, ⟨wa.heap.size, Ps_0, (.slice as0 Ps_0.z.length ds0), Ps_1, (.slice as1 Ps_1.z.length ds1), Xs_2, (.slice as2 Xs_2.z.length ds2)⟩, ⟨(wa.heap.size + 1), Pl_0, (.slice al0 Pl_0.z.length dl0), Pl_1, (.slice al1 Pl_1.z.length dl1), Xl_2, (.slice al2 Xl_2.z.length dl2)⟩, ⟨(wa.heap.size + 2), Po_0, (.slice ao0 Po_0.z.length do0), Po_1, (.slice ao1 Po_1.z.length do1), Xo_2, (.slice ao2 Xo_2.z.length do2)⟩] [⟨(wa.heap.size + 3), Gs_0, Gs_1, Es_2⟩, ⟨(wa.heap.size + 4), Gl_0, Gl_1, En_2⟩, ⟨(wa.heap.size + 5), Go_0, Go_1, En_2⟩] W ∧ W.cell? ⟨(wa.heap.size + 3), 0, none⟩ = some (.int .i64 Gs_0) ∧ W.cell? ⟨(wa.heap.size + 3), 2, none⟩ = some (.int .i64 Es_2) ∧ W.cell? ⟨wa.heap.size, 0, none⟩ = some (.int .i64 Ps_0.k) ∧ W.cell? ⟨wa.heap.size, 1, none⟩ = some (.int .i64 Ps_0.r) ∧ W.cell? ⟨wa.heap.size, 2, none⟩ = some (.int .i64 Ps_0.a) ∧ W.cell? ⟨wa.heap.size, 3, none⟩ = some (.int .i64 Ps_0.b) ∧ W.cell? ⟨wa.heap.size, 4, none⟩ = some ((.slice as0 Ps_0.z.length ds0)) ∧ W.cell? ⟨wa.heap.size, 10, none⟩ = some (.int .i64 Xs_2.k) ∧ W.cell? ⟨wa.heap.size, 11, none⟩ = some (.int .i64 Xs_2.r) ∧ W.cell? ⟨wa.heap.size, 12, none⟩ = some (.int .i64 Xs_2.a) ∧ W.cell? ⟨wa.heap.size, 13, none⟩ = some (.int .i64 Xs_2.b) ∧ W.cell? ⟨wa.heap.size, 14, none⟩ = some ((.slice as2 Xs_2.z.length ds2))) W) := fun W hX => ⟨hX, (hX.e _ (.head _)).c0, (hX.e _ (.head _)).c2, (hX.b _ (.tail _ (.head _))).c0, (hX.b _ (.tail _ (.head _))).c1, (hX.b _ (.tail _ (.head _))).c2, (hX.b _ (.tail _ (.head _))).c3, (hX.b _ (.tail _ (.head _))).c4, (hX.b _ (.tail _ (.head _))).c10, (hX.b _ (.tail _ (.head _))).c11, (hX.b _ (.tail _ (.head _))).c12, (hX.b _ (.tail _ (.head _))).c13, (hX.b _ (.tail _ (.head _))).c14⟩
                      have HK0 := Lib.hid (HK.out.next (Below.refl _ _).drew)
                      refine wp_region_held_drew (S := (fun W => KT w [⟨wz.heap.size, A, (.slice p A.z.length cap), T, (.slice pwr2 T.z.length cwr2), R, (.slice pwr1 R.z.length cwr1)⟩, ⟨wa.heap.size, Ps_0, (.slice as0 Ps_0.z.length ds0), Ps_1, (.slice as1 Ps_1.z.length ds1), Xs_2, (.slice as2 Xs_2.z.length ds2)⟩, ⟨(wa.heap.size + 1), Pl_0, (.slice al0 Pl_0.z.length dl0), Pl_1, (.slice al1 Pl_1.z.length dl1), Xl_2, (.slice al2 Xl_2.z.length dl2)⟩, ⟨(wa.heap.size + 2), Po_0, (.slice ao0 Po_0.z.length do0), Po_1, (.slice ao1 Po_1.z.length do1), Xo_2, (.slice ao2 Xo_2.z.length do2)⟩] [⟨(wa.heap.size + 3), Gs_0, Gs_1, Es_2⟩, ⟨(wa.heap.size + 4), Gl_0, Gl_1, En_2⟩, ⟨(wa.heap.size + 5), Go_0, Go_1, En_2⟩] W ∧ W.cell? ⟨(wa.heap.size + 3), 0, none⟩ = some (.int .i64 Gs_0) ∧ W.cell? ⟨(wa.heap.size + 3), 2, none⟩ = some (.int .i64 Es_2) ∧ W.cell? ⟨wa.heap.size, 0, none⟩ = some (.int .i64 Ps_0.k) ∧ W.cell? ⟨wa.heap.size, 1, none⟩ = some (.int .i64 Ps_0.r) ∧ W.cell? ⟨wa.heap.size, 2, none⟩ = some (.int .i64 Ps_0.a) ∧ W.cell? ⟨wa.heap.size, 3, none⟩ = some (.int .i64 Ps_0.b) ∧ W.cell? ⟨wa.heap.size, 4, none⟩ = some ((.slice as0 Ps_0.z.length ds0)) ∧ W.cell? ⟨wa.heap.size, 10, none⟩ = some (.int .i64 Xs_2.k) ∧ W.cell? ⟨wa.heap.size, 11, none⟩ = some (.int .i64 Xs_2.r) ∧ W.cell? ⟨wa.heap.size, 12, none⟩ = some (.int .i64 Xs_2.a) ∧ W.cell? ⟨wa.heap.size, 13, none⟩ = some (.int .i64 Xs_2.b) ∧ W.cell? ⟨wa.heap.size, 14, none⟩ = some ((.slice as2 Xs_2.z.length ds2)))) (by kernel_rfl) ?_ (fun hHeld => ?_)
                      · exact HAll.out _ HK0.out
                      refine wpAnyH_take (i := 0) (v := ?_) rfl (by kernel_rfl) (by kernel_rfl) (by kernel_rfl) (fun _ _ _ h => h) (Or.inl ⟨by rfl, ?_⟩) (by assumption) ?_
                      rotate_left
                      · ((intro w0 hSw); (try dsimp only at hSw); go_simp; (try with_reducible rfl))
                      change wpAnyH _ _ _ _ _ _ _ (Act.put _ (some 139) _) _
                      try simp only [Act.put, List.setIfInBounds_toArray, List.set_cons_zero, List.set_cons_succ]
                      refine wpAnyH_take (i := 1) (v := ?_) rfl (by kernel_rfl) (by kernel_rfl) (by kernel_rfl) (fun _ _ _ h => h) (Or.inl ⟨by rfl, ?_⟩) (by assumption) ?_
                      rotate_left
                      · ((intro w0 hSw); (try dsimp only at hSw); go_simp; (try with_reducible rfl))
                      change wpAnyH _ _ _ _ _ _ _ (Act.put _ (some 140) _) _
                      try simp only [Act.put, List.setIfInBounds_toArray, List.set_cons_zero, List.set_cons_succ]
                      refine wpAnyH_take (i := 2) (v := ?_) rfl (by kernel_rfl) (by kernel_rfl) (by kernel_rfl) (fun _ _ _ h => h) (Or.inl ⟨by rfl, ?_⟩) (by assumption) ?_
                      rotate_left
                      · ((intro w0 hSw); (try dsimp only at hSw); go_simp; (try with_reducible rfl))
                      change wpAnyH _ _ _ _ _ _ _ (Act.put _ (some 141) _) _
                      try simp only [Act.put, List.setIfInBounds_toArray, List.set_cons_zero, List.set_cons_succ]
                      refine wpAnyH_take (i := 3) (v := ?_) rfl (by kernel_rfl) (by kernel_rfl) (by kernel_rfl) (fun _ _ _ h => h) (Or.inl ⟨by rfl, ?_⟩) (by assumption) ?_
                      rotate_left
                      · ((intro w0 hSw); (try dsimp only at hSw); go_simp; (try with_reducible rfl))
                      change wpAnyH _ _ _ _ _ _ _ (Act.put _ (some 142) _) _
                      try simp only [Act.put, List.setIfInBounds_toArray, List.set_cons_zero, List.set_cons_succ]
                      refine wpAnyH_take (i := 4) (v := ?_) rfl (by kernel_rfl) (by kernel_rfl) (by kernel_rfl) (fun _ _ _ h => h) (Or.inl ⟨by rfl, ?_⟩) (by assumption) ?_
                      rotate_left
                      · ((intro w0 hSw); (try dsimp only at hSw); go_simp; (try with_reducible rfl))
                      change wpAnyH _ _ _ _ _ _ _ (Act.put _ (some 143) _) _
                      try simp only [Act.put, List.setIfInBounds_toArray, List.set_cons_zero, List.set_cons_succ]
                      refine wpAnyH_take (i := 5) (v := ?_) rfl (by kernel_rfl) (by kernel_rfl) (by kernel_rfl) (fun _ _ _ h => h) (Or.inl ⟨by rfl, ?_⟩) (by assumption) ?_
                      rotate_left
                      · ((intro w0 hSw); (try dsimp only at hSw); go_simp; (try with_reducible rfl))
                      change wpAnyH _ _ _ _ _ _ _ (Act.put _ (some 144) _) _
                      try simp only [Act.put, List.setIfInBounds_toArray, List.set_cons_zero, List.set_cons_succ]
                      refine wpAnyH_take (i := 6) (v := ?_) rfl (by kernel_rfl) (by kernel_rfl) (by kernel_rfl) (fun _ _ _ h => h) (Or.inl ⟨by rfl, ?_⟩) (by assumption) ?_
                      rotate_left
                      · ((intro w0 hSw); (try dsimp only at hSw); go_simp; (try with_reducible rfl))
                      change wpAnyH _ _ _ _ _ _ _ (Act.put _ (some 145) _) _
                      try simp only [Act.put, List.setIfInBounds_toArray, List.set_cons_zero, List.set_cons_succ]
                      refine wpAnyH_take (i := 7) (v := ?_) rfl (by kernel_rfl) (by kernel_rfl) (by kernel_rfl) (fun _ _ _ h => h) (Or.inl ⟨by rfl, ?_⟩) (by assumption) ?_
                      rotate_left
                      · ((intro w0 hSw); (try dsimp only at hSw); go_simp; (try with_reducible rfl))
                      change wpAnyH _ _ _ _ _ _ _ (Act.put _ (some 146) _) _
                      try simp only [Act.put, List.setIfInBounds_toArray, List.set_cons_zero, List.set_cons_succ]
                      refine wpAnyH_take (i := 8) (v := ?_) rfl (by kernel_rfl) (by kernel_rfl) (by kernel_rfl) (fun _ _ _ h => h) (Or.inl ⟨by rfl, ?_⟩) (by assumption) ?_
                      rotate_left
                      · ((intro w0 hSw); (try dsimp only at hSw); go_simp; (try with_reducible rfl))
                      change wpAnyH _ _ _ _ _ _ _ (Act.put _ (some 147) _) _
                      try simp only [Act.put, List.setIfInBounds_toArray, List.set_cons_zero, List.set_cons_succ]
                      refine wpAnyH_take (i := 9) (v := ?_) rfl (by kernel_rfl) (by kernel_rfl) (by kernel_rfl) (fun _ _ _ h => h) (Or.inl ⟨by rfl, ?_⟩) (by assumption) ?_
                      rotate_left
                      · ((intro w0 hSw); (try dsimp only at hSw); go_simp; (try with_reducible rfl))
                      change wpAnyH _ _ _ _ _ _ _ (Act.put _ (some 148) _) _
                      try simp only [Act.put, List.setIfInBounds_toArray, List.set_cons_zero, List.set_cons_succ]
                      refine wpAnyH_take (i := 10) (v := ?_) rfl (by kernel_rfl) (by kernel_rfl) (by kernel_rfl) (fun _ _ _ h => h) (Or.inl ⟨by rfl, ?_⟩) (by assumption) ?_
                      rotate_left
                      · ((intro w0 hSw); (try dsimp only at hSw); go_simp; (try with_reducible rfl))
                      change wpAnyH _ _ _ _ _ _ _ (Act.put _ (some 149) _) _
                      try simp only [Act.put, List.setIfInBounds_toArray, List.set_cons_zero, List.set_cons_succ]
                      refine wpAnyH_take (i := 11) (v := ?_) rfl (by kernel_rfl) (by kernel_rfl) (by kernel_rfl) (fun _ _ _ h => h) (Or.inl ⟨by rfl, ?_⟩) (by assumption) ?_
                      rotate_left
                      · ((intro w0 hSw); (try dsimp only at hSw); go_simp; (try with_reducible rfl))
                      change wpAnyH _ _ _ _ _ _ _ (Act.put _ (some 150) _) _
                      try simp only [Act.put, List.setIfInBounds_toArray, List.set_cons_zero, List.set_cons_succ]
                      refine wpAnyH_take (i := 12) (v := ?_) rfl (by kernel_rfl) (by kernel_rfl) (by kernel_rfl) (fun _ _ _ h => h) (Or.inl ⟨by rfl, ?_⟩) (by assumption) ?_
                      rotate_left
                      · ((intro w0 hSw); (try dsimp only at hSw); go_simp; (try with_reducible rfl))
                      change wpAnyH _ _ _ _ _ _ _ (Act.put _ (some 151) _) _
                      try simp only [Act.put, List.setIfInBounds_toArray, List.set_cons_zero, List.set_cons_succ]
                      refine wpAnyH_take (i := 13) (v := ?_) rfl (by kernel_rfl) (by kernel_rfl) (by kernel_rfl) (fun _ _ _ h => h) (Or.inl ⟨by rfl, ?_⟩) (by assumption) ?_
                      rotate_left
                      · ((intro w0 hSw); (try dsimp only at hSw); go_simp; (try with_reducible rfl))
                      change wpAnyH _ _ _ _ _ _ _ (Act.put _ (some 152) _) _
                      try simp only [Act.put, List.setIfInBounds_toArray, List.set_cons_zero, List.set_cons_succ]
                      refine wpAnyH_take (i := 14) (v := ?_) rfl (by kernel_rfl) (by kernel_rfl) (by kernel_rfl) (fun _ _ _ h => h) (Or.inl ⟨by rfl, ?_⟩) (by assumption) ?_
                      rotate_left
                      · ((intro w0 hSw); (try dsimp only at hSw); go_simp; (try with_reducible rfl))
                      change wpAnyH _ _ _ _ _ _ _ (Act.put _ (some 153) _) _
                      try simp only [Act.put, List.setIfInBounds_toArray, List.set_cons_zero, List.set_cons_succ]
                      refine wpAnyH_ready (rs := [15]) (by kernel_rfl) (by simp) ?_
                      refine AllReadyH.cons rfl (fun K hK => ?_) AllReadyH.nil
                      go_simp
                      go_at_call 19; (with_reducible refine (HSms.out _ _ _ (by with_unfolding_all exact hHeld.1.r0 _ (.tail _ (.head _))) (by with_unfolding_all exact hHeld.1.r2 _ (.tail _ (.head _)))).mono ?_); rintro e wn ⟨rfl, hbn⟩
                      refine hK.out _ _ ?_ (fun hHeld2 => ?_)
                      · exact (HAll.out _ (hHeld.1.next hbn))
                      clear hK K hHeld
                      have hHeld := hHeld2; clear hHeld2
                      try change wpAnyH _ _ _ _ _ _ _ (Act.put _ (some 154) _) _
                      try simp only [Act.put, List.setIfInBounds_toArray, List.set_cons_zero, List.set_cons_succ]
                      refine wpAnyH_take (i := 16) (v := ?_) rfl (by kernel_rfl) (by kernel_rfl) (by kernel_rfl) (fun _ _ _ h => h) (Or.inl ⟨by rfl, ?_⟩) (by assumption) ?_
                      rotate_left
                      · ((intro w0 hSw); (try dsimp only at hSw); go_simp; (try with_reducible rfl))
                      change wpAnyH _ _ _ _ _ _ _ (Act.put _ (some 155) _) _
                      try simp only [Act.put, List.setIfInBounds_toArray, List.set_cons_zero, List.set_cons_succ]
                      refine wpAnyH_take (i := 17) (v := ?_) rfl (by kernel_rfl) (by kernel_rfl) (by kernel_rfl) (fun _ _ _ h => h) (Or.inl ⟨by rfl, ?_⟩) (by assumption) ?_
                      rotate_left
                      · ((intro w0 hSw); (try dsimp only at hSw); go_simp; (try with_reducible rfl))
                      change wpAnyH _ _ _ _ _ _ _ (Act.put _ (some 156) _) _
                      try simp only [Act.put, List.setIfInBounds_toArray, List.set_cons_zero, List.set_cons_succ]
                      refine wpAnyH_done (by kernel_rfl) ?_ _
                      have HK1 := Lib.hid hHeld.1
                      clear hHeld HK HK0
                      have HK := HK1
                      clear HK1
                      go_wp2_with fail
                      go_meet
                      case rel => exact ⟨rfl, HK.out⟩
                    · have e2 : (Es_2 == 0) = false := by simpa using h2
                      clear Q0 h1 h2
                      have HAll : Hid (∀ W, KT w [⟨wz.heap.size, A, (.slice p A.z.length cap), T, (.slice pwr2 T.z.length cwr2), R, (.slice pwr1 R.z.length cwr1)⟩, ⟨wa.heap.size, Ps_0, (.slice as0 Ps_0.z.length ds0), Ps_1, (.slice as1 Ps_1.z.length ds1), Xs_2, (.slice as2 Xs_2.z.length ds2)⟩, ⟨(wa.heap.size + 1), Pl_0, (.slice al0 Pl_0.z.length dl0), Pl_1, (.slice al1 Pl_1.z.length dl1), Xl_2, (.slice al2 Xl_2.z.length dl2)⟩, ⟨(wa.heap.size + 2), Po_0, (.slice ao0 Po_0.z.length do0), Po_1, (.slice ao1 Po_1.z.length do1), Xo_2, (.slice ao2 Xo_2.z.length do2)⟩] [⟨(wa.heap.size + 3), Gs_0, Gs_1, Es_2⟩, ⟨(wa.heap.size + 4), Gl_0, Gl_1, En_2⟩, ⟨(wa.heap.size + 5), Go_0, Go_1, En_2⟩] W → (fun W => KT w [⟨wz.heap.size, A, (.slice p A.z.length cap), T, (.slice pwr2 T.z.length cwr2), R, (.slice pwr1 R.z.length cwr1)⟩, ⟨wa.heap.size, Ps_0, (.slice as0 Ps_0.z.length ds0), Ps_1, (.slice as1 Ps_1.z.length ds1), Xs_2, (.slice as2 Xs_2.z.length ds2)⟩, ⟨(wa.heap.size + 1), Pl_0, (.slice al0 Pl_0.z.length dl0), Pl_1, (.slice al1 Pl_1.z.length dl1), Xl_2, (.slice al2 Xl_2.z.length dl2)⟩, ⟨(wa.heap.size + 2), Po_0, (.slice ao0 Po_0.z.length do0), Po_1, (.slice ao1 Po_1.z.length do1), Xo_2, (.slice ao2 Xo_2.z.length do2)⟩] [⟨(wa.heap.size + 3), Gs_0, Gs_1, Es_2⟩, ⟨(wa.heap.size + 4), Gl_0, Gl_1, En_2⟩, ⟨(wa.heap.size + 5), Go_0, Go_1, En_2⟩] W ∧ W.cell? ⟨(wa.heap.size + 3), 0, none⟩ = some (.int .i64 Gs_0) ∧ W.cell? ⟨(wa.heap.size + 3), 2, none⟩ = some (.int .i64 Es_2)) W) := fun W hX => ⟨hX, (hX.e _ (.head _)).c0, (hX.e _ (.head _)).c2⟩
                      have HK0 := Lib.hid (HK.out.next (Below.refl _ _).drew)
                      refine wp_region_held_drew (S := (fun W => KT w [⟨wz.heap.size, A, (.slice p A.z.length cap), T, (.slice pwr2 T.z.length cwr2), R, (.slice pwr1 R.z.length cwr1)⟩, ⟨wa.heap.size, Ps_0, (.slice as0 Ps_0.z.length ds0), Ps_1, (.slice as1 Ps_1.z.length ds1), Xs_2, (.slice as2 Xs_2.z.length ds2)⟩, ⟨(wa.heap.size + 1), Pl_0, (.slice al0 Pl_0.z.length dl0), Pl_1, (.slice al1 Pl_1.z.length dl1), Xl_2, (.slice al2 Xl_2.z.length dl2)⟩, ⟨(wa.heap.size + 2), Po_0, (.slice ao0 Po_0.z.length do0), Po_1, (.slice ao1 Po_1.z.length do1), Xo_2, (.slice ao2 Xo_2.z.length do2)⟩] [⟨(wa.heap.size + 3), Gs_0, Gs_1, Es_2⟩, ⟨(wa.heap.size + 4), Gl_0, Gl_1, En_2⟩, ⟨(wa.heap.size + 5), Go_0, Go_1, En_2⟩] W ∧ W.cell? ⟨(wa.heap.size + 3), 0, none⟩ = some (.int .i64 Gs_0) ∧ W.cell? ⟨(wa.heap.size + 3), 2, none⟩ = some (.int .i64 Es_2))) (by kernel_rfl) ?_ (fun hHeld => ?_)
                      · exact HAll.out _ HK0.out
                      refine wpAnyH_take (i := 0) (v := ?_) rfl (by kernel_rfl) (by kernel_rfl) (by kernel_rfl) (fun _ _ _ h => h) (Or.inl ⟨by rfl, ?_⟩) (by assumption) ?_
                      rotate_left
                      · ((intro w0 hSw); (try dsimp only at hSw); go_simp; (try with_reducible rfl))
                      change wpAnyH _ _ _ _ _ _ _ (Act.put _ (some 139) _) _
                      try simp only [Act.put, List.setIfInBounds_toArray, List.set_cons_zero, List.set_cons_succ]
                      refine wpAnyH_take (i := 1) (v := ?_) rfl (by kernel_rfl) (by kernel_rfl) (by kernel_rfl) (fun _ _ _ h => h) (Or.inl ⟨by rfl, ?_⟩) (by assumption) ?_
                      rotate_left
                      · ((intro w0 hSw); (try dsimp only at hSw); go_simp; (try with_reducible rfl))
                      change wpAnyH _ _ _ _ _ _ _ (Act.put _ (some 140) _) _
                      try simp only [Act.put, List.setIfInBounds_toArray, List.set_cons_zero, List.set_cons_succ]
                      refine wpAnyH_take (i := 2) (v := ?_) rfl (by kernel_rfl) (by kernel_rfl) (by kernel_rfl) (fun _ _ _ h => h) (Or.inl ⟨by rfl, ?_⟩) (by assumption) ?_
                      rotate_left
                      · ((intro w0 hSw); (try dsimp only at hSw); go_simp; (try with_reducible rfl))
                      change wpAnyH _ _ _ _ _ _ _ (Act.put _ (some 141) _) _
                      try simp only [Act.put, List.setIfInBounds_toArray, List.set_cons_zero, List.set_cons_succ]
                      refine wpAnyH_take (i := 3) (v := ?_) rfl (by kernel_rfl) (by kernel_rfl) (by kernel_rfl) (fun _ _ _ h => h) (Or.inl ⟨by rfl, ?_⟩) (by assumption) ?_
                      rotate_left
                      · ((intro w0 hSw); (try dsimp only at hSw); go_simp; (try with_reducible rfl))
                      change wpAnyH _ _ _ _ _ _ _ (Act.put _ (some 142) _) _
                      try simp only [Act.put, List.setIfInBounds_toArray, List.set_cons_zero, List.set_cons_succ]
                      refine wpAnyH_take (i := 4) (v := ?_) rfl (by kernel_rfl) (by kernel_rfl) (by kernel_rfl) (fun _ _ _ h => h) (Or.inl ⟨by rfl, ?_⟩) (by assumption) ?_
                      rotate_left
                      · ((intro w0 hSw); (try dsimp only at hSw); go_simp; (try with_reducible rfl))
                      change wpAnyH _ _ _ _ _ _ _ (Act.put _ (some 143) _) _
                      try simp only [Act.put, List.setIfInBounds_toArray, List.set_cons_zero, List.set_cons_succ]
                      refine wpAnyH_take (i := 5) (v := ?_) rfl (by kernel_rfl) (by kernel_rfl) (by kernel_rfl) (fun _ _ _ h => h) (Or.inl ⟨by rfl, ?_⟩) (by assumption) ?_
                      rotate_left
                      · ((intro w0 hSw); (try dsimp only at hSw); go_simp; (try with_reducible rfl))
                      change wpAnyH _ _ _ _ _ _ _ (Act.put _ (some 144) _) _
                      try simp only [Act.put, List.setIfInBounds_toArray, List.set_cons_zero, List.set_cons_succ]
                      refine wpAnyH_take (i := 6) (v := ?_) rfl (by kernel_rfl) (by kernel_rfl) (by kernel_rfl) (fun _ _ _ h => h) (Or.inl ⟨by rfl, ?_⟩) (by assumption) ?_
                      rotate_left
                      · ((intro w0 hSw); (try dsimp only at hSw); go_simp; (try with_reducible rfl))
                      change wpAnyH _ _ _ _ _ _ _ (Act.put _ (some 145) _) _
                      try simp only [Act.put, List.setIfInBounds_toArray, List.set_cons_zero, List.set_cons_succ]
                      refine wpAnyH_take (i := 7) (v := ?_) rfl (by kernel_rfl) (by kernel_rfl) (by kernel_rfl) (fun _ _ _ h => h) (Or.inl ⟨by rfl, ?_⟩) (by assumption) ?_
                      rotate_left
                      · ((intro w0 hSw); (try dsimp only at hSw); go_simp; (try with_reducible rfl))
                      change wpAnyH _ _ _ _ _ _ _ (Act.put _ (some 146) _) _
                      try simp only [Act.put, List.setIfInBounds_toArray, List.set_cons_zero, List.set_cons_succ]
                      refine wpAnyH_take (i := 8) (v := ?_) rfl (by kernel_rfl) (by kernel_rfl) (by kernel_rfl) (fun _ _ _ h => h) (Or.inl ⟨by rfl, ?_⟩) (by assumption) ?_
                      rotate_left
                      · ((intro w0 hSw); (try dsimp only at hSw); go_simp; (try with_reducible rfl))
                      change wpAnyH _ _ _ _ _ _ _ (Act.put _ (some 147) _) _
                      try simp only [Act.put, List.setIfInBounds_toArray, List.set_cons_zero, List.set_cons_succ]
                      refine wpAnyH_take (i := 9) (v := ?_) rfl (by kernel_rfl) (by kernel_rfl) (by kernel_rfl) (fun _ _ _ h => h) (Or.inl ⟨by rfl, ?_⟩) (by assumption) ?_
                      rotate_left
                      · ((intro w0 hSw); (try dsimp only at hSw); go_simp; (try with_reducible rfl))
                      change wpAnyH _ _ _ _ _ _ _ (Act.put _ (some 148) _) _
                      try simp only [Act.put, List.setIfInBounds_toArray, List.set_cons_zero, List.set_cons_succ]
                      refine wpAnyH_take (i := 10) (v := undef) rfl (by kernel_rfl) (by kernel_rfl) (by kernel_rfl) (fun _ _ _ h => h) (Or.inr ⟨by rfl, rfl⟩) (by assumption) ?_
                      change wpAnyH _ _ _ _ _ _ _ (Act.put _ (some 149) _) _
                      try simp only [Act.put, List.setIfInBounds_toArray, List.set_cons_zero, List.set_cons_succ]
                      refine wpAnyH_take (i := 11) (v := undef) rfl (by kernel_rfl) (by kernel_rfl) (by kernel_rfl) (fun _ _ _ h => h) (Or.inr ⟨by rfl, rfl⟩) (by assumption) ?_
                      change wpAnyH _ _ _ _ _ _ _ (Act.put _ (some 150) _) _
                      try simp only [Act.put, List.setIfInBounds_toArray, List.set_cons_zero, List.set_cons_succ]
                      refine wpAnyH_take (i := 12) (v := undef) rfl (by kernel_rfl) (by kernel_rfl) (by kernel_rfl) (fun _ _ _ h => h) (Or.inr ⟨by rfl, rfl⟩) (by assumption) ?_
                      change wpAnyH _ _ _ _ _ _ _ (Act.put _ (some 151) _) _
                      try simp only [Act.put, List.setIfInBounds_toArray, List.set_cons_zero, List.set_cons_succ]
                      refine wpAnyH_take (i := 13) (v := undef) rfl (by kernel_rfl) (by kernel_rfl) (by kernel_rfl) (fun _ _ _ h => h) (Or.inr ⟨by rfl, rfl⟩) (by assumption) ?_
                      change wpAnyH _ _ _ _ _ _ _ (Act.put _ (some 152) _) _
                      try simp only [Act.put, List.setIfInBounds_toArray, List.set_cons_zero, List.set_cons_succ]
                      refine wpAnyH_take (i := 14) (v := undef) rfl (by kernel_rfl) (by kernel_rfl) (by kernel_rfl) (fun _ _ _ h => h) (Or.inr ⟨by rfl, rfl⟩) (by assumption) ?_
                      change wpAnyH _ _ _ _ _ _ _ (Act.put _ (some 153) _) _
                      try simp only [Act.put, List.setIfInBounds_toArray, List.set_cons_zero, List.set_cons_succ]
                      refine wpAnyH_take (i := 15) (v := undef) rfl (by kernel_rfl) (by kernel_rfl) (by kernel_rfl) (fun _ _ _ h => h) (Or.inr ⟨by rfl, rfl⟩) (by assumption) ?_
                      change wpAnyH _ _ _ _ _ _ _ (Act.put _ (some 154) _) _
                      try simp only [Act.put, List.setIfInBounds_toArray, List.set_cons_zero, List.set_cons_succ]
                      refine wpAnyH_take (i := 16) (v := undef) rfl (by kernel_rfl) (by kernel_rfl) (by kernel_rfl) (fun _ _ _ h => h) (Or.inr ⟨by rfl, rfl⟩) (by assumption) ?_
                      change wpAnyH _ _ _ _ _ _ _ (Act.put _ (some 155) _) _
                      try simp only [Act.put, List.setIfInBounds_toArray, List.set_cons_zero, List.set_cons_succ]
                      refine wpAnyH_take (i := 17) (v := ?_) rfl (by kernel_rfl) (by kernel_rfl) (by kernel_rfl) (fun _ _ _ h => h) (Or.inl ⟨by rfl, ?_⟩) (by assumption) ?_
                      rotate_left
                      · ((intro w0 hSw); (try dsimp only at hSw); go_simp; (try with_reducible rfl))
                      change wpAnyH _ _ _ _ _ _ _ (Act.put _ (some 156) _) _
                      try simp only [Act.put, List.setIfInBounds_toArray, List.set_cons_zero, List.set_cons_succ]
                      refine wpAnyH_done (by kernel_rfl) ?_ _
                      have HK1 := Lib.hid hHeld.1
                      clear hHeld HK HK0
                      have HK := HK1
                      clear HK1
                      go_wp2_with fail
                      go_meet
                      case rel => exact ⟨rfl, HK.out⟩
                  · have e1 : (Gs_0 == 0) = false := by simpa using h1
                    clear Q0 h1
                    have HAll : Hid (∀ W, KT w [⟨wz.heap.size, A, (.slice p A.z.length cap), T, (.slice pwr2 T.z.length cwr2), R, (.slice pwr1 R.z.length cwr1)⟩, ⟨wa.heap.size, Ps_0, (.slice as0 Ps_0.z.length ds0), Ps_1, (.slice as1 Ps_1.z.length ds1), Xs_2, (.slice as2 Xs_2.z.length ds2)⟩, ⟨(wa.heap.size + 1), Pl_0, (.slice al0 Pl_0.z.length dl0), Pl_1, (.slice al1 Pl_1.z.length dl1), Xl_2, (.slice al2 Xl_2.z.length dl2)⟩, ⟨(wa.heap.size + 2), Po_0, (.slice ao0 Po_0.z.length do0), Po_1, (.slice ao1 Po_1.z.length do1), Xo_2, (.slice ao2 Xo_2.z.length do2)⟩] [⟨(wa.heap.size + 3), Gs_0, Gs_1, Es_2⟩, ⟨(wa.heap.size + 4), Gl_0, Gl_1, En_2⟩, ⟨(wa.heap.size + 5), Go_0, Go_1, En_2⟩] W → (fun W => KT w [⟨wz.heap.size, A, (.slice p A.z.length cap), T, (.slice pwr2 T.z.length cwr2), R, (.slice pwr1 R.z.length cwr1)⟩, ⟨wa.heap.size, Ps_0, (.slice as0 Ps_0.z.length ds0), Ps_1, (.slice as1 Ps_1.z.length ds1), Xs_2, (.slice as2 Xs_2.z.length ds2)⟩, ⟨(wa.heap.size + 1), Pl_0, (.slice al0 Pl_0.z.length dl0), Pl_1, (.slice al1 Pl_1.z.length dl1), Xl_2, (.slice al2 Xl_2.z.length dl2)⟩, ⟨(wa.heap.size + 2), Po_0, (.slice ao0 Po_0.z.length do0), Po_1, (.slice ao1 Po_1.z.length do1), Xo_2, (.slice ao2 Xo_2.z.length do2)⟩] [⟨(wa.heap.size + 3), Gs_0, Gs_1, Es_2⟩, ⟨(wa.heap.size + 4), Gl_0, Gl_1, En_2⟩, ⟨(wa.heap.size + 5), Go_0, Go_1, En_2⟩] W ∧ W.cell? ⟨(wa.heap.size + 3), 0, none⟩ = some (.int .i64 Gs_0)) W) := fun W hX => ⟨hX, (hX.e _ (.head _)).c0⟩
                    have HK0 := Lib.hid (HK.out.next (Below.refl _ _).drew)
                    refine wp_region_held_drew (S := (fun W => KT w [⟨wz.heap.size, A, (.slice p A.z.length cap), T, (.slice pwr2 T.z.length cwr2), R, (.slice pwr1 R.z.length cwr1)⟩, ⟨wa.heap.size, Ps_0, (.slice as0 Ps_0.z.length ds0), Ps_1, (.slice as1 Ps_1.z.length ds1), Xs_2, (.slice as2 Xs_2.z.length ds2)⟩, ⟨(wa.heap.size + 1), Pl_0, (.slice al0 Pl_0.z.length dl0), Pl_1, (.slice al1 Pl_1.z.length dl1), Xl_2, (.slice al2 Xl_2.z.length dl2)⟩, ⟨(wa.heap.size + 2), Po_0, (.slice ao0 Po_0.z.length do0), Po_1, (.slice ao1 Po_1.z.length do1), Xo_2, (.slice ao2 Xo_2.z.length do2)⟩] [⟨(wa.heap.size + 3), Gs_0, Gs_1, Es_2⟩, ⟨(wa.heap.size + 4), Gl_0, Gl_1, En_2⟩, ⟨(wa.heap.size + 5), Go_0, Go_1, En_2⟩] W ∧ W.cell? ⟨(wa.heap.size + 3), 0, none⟩ = some (.int .i64 Gs_0))) (by kernel_rfl) ?_ (fun hHeld => ?_)
                    · exact HAll.out _ HK0.out
                    refine wpAnyH_take (i := 0) (v := ?_) rfl (by kernel_rfl) (by kernel_rfl) (by kernel_rfl) (fun _ _ _ h => h) (Or.inl ⟨by rfl, ?_⟩) (by assumption) ?_
                    rotate_left
                    · ((intro w0 hSw); (try dsimp only at hSw); go_simp; (try with_reducible rfl))
                    change wpAnyH _ _ _ _ _ _ _ (Act.put _ (some 139) _) _
                    try simp only [Act.put, List.setIfInBounds_toArray, List.set_cons_zero, List.set_cons_succ]
                    refine wpAnyH_take (i := 1) (v := ?_) rfl (by kernel_rfl) (by kernel_rfl) (by kernel_rfl) (fun _ _ _ h => h) (Or.inl ⟨by rfl, ?_⟩) (by assumption) ?_
                    rotate_left
                    · ((intro w0 hSw); (try dsimp only at hSw); go_simp; (try with_reducible rfl))
                    change wpAnyH _ _ _ _ _ _ _ (Act.put _ (some 140) _) _
                    try simp only [Act.put, List.setIfInBounds_toArray, List.set_cons_zero, List.set_cons_succ]
                    refine wpAnyH_take (i := 2) (v := ?_) rfl (by kernel_rfl) (by kernel_rfl) (by kernel_rfl) (fun _ _ _ h => h) (Or.inl ⟨by rfl, ?_⟩) (by assumption) ?_
                    rotate_left
                    · ((intro w0 hSw); (try dsimp only at hSw); go_simp; (try with_reducible rfl))
                    change wpAnyH _ _ _ _ _ _ _ (Act.put _ (some 141) _) _
                    try simp only [Act.put, List.setIfInBounds_toArray, List.set_cons_zero, List.set_cons_succ]
                    refine wpAnyH_take (i := 3) (v := ?_) rfl (by kernel_rfl) (by kernel_rfl) (by kernel_rfl) (fun _ _ _ h => h) (Or.inl ⟨by rfl, ?_⟩) (by assumption) ?_
                    rotate_left
                    · ((intro w0 hSw); (try dsimp only at hSw); go_simp; (try with_reducible rfl))
                    change wpAnyH _ _ _ _ _ _ _ (Act.put _ (some 142) _) _
                    try simp only [Act.put, List.setIfInBounds_toArray, List.set_cons_zero, List.set_cons_succ]
                    refine wpAnyH_take (i := 4) (v := ?_) rfl (by kernel_rfl) (by kernel_rfl) (by kernel_rfl) (fun _ _ _ h => h) (Or.inl ⟨by rfl, ?_⟩) (by assumption) ?_
                    rotate_left
                    · ((intro w0 hSw); (try dsimp only at hSw); go_simp; (try with_reducible rfl))
                    change wpAnyH _ _ _ _ _ _ _ (Act.put _ (some 143) _) _
                    try simp only [Act.put, List.setIfInBounds_toArray, List.set_cons_zero, List.set_cons_succ]
                    refine wpAnyH_take (i := 5) (v := undef) rfl (by kernel_rfl) (by kernel_rfl) (by kernel_rfl) (fun _ _ _ h => h) (Or.inr ⟨by rfl, rfl⟩) (by assumption) ?_
                    change wpAnyH _ _ _ _ _ _ _ (Act.put _ (some 144) _) _
                    try simp only [Act.put, List.setIfInBounds_toArray, List.set_cons_zero, List.set_cons_succ]
                    refine wpAnyH_take (i := 6) (v := undef) rfl (by kernel_rfl) (by kernel_rfl) (by kernel_rfl) (fun _ _ _ h => h) (Or.inr ⟨by rfl, rfl⟩) (by assumption) ?_
                    change wpAnyH _ _ _ _ _ _ _ (Act.put _ (some 145) _) _
                    try simp only [Act.put, List.setIfInBounds_toArray, List.set_cons_zero, List.set_cons_succ]
                    refine wpAnyH_take (i := 7) (v := undef) rfl (by kernel_rfl) (by kernel_rfl) (by kernel_rfl) (fun _ _ _ h => h) (Or.inr ⟨by rfl, rfl⟩) (by assumption) ?_
                    change wpAnyH _ _ _ _ _ _ _ (Act.put _ (some 146) _) _
                    try simp only [Act.put, List.setIfInBounds_toArray, List.set_cons_zero, List.set_cons_succ]
                    refine wpAnyH_take (i := 8) (v := ?_) rfl (by kernel_rfl) (by kernel_rfl) (by kernel_rfl) (fun _ _ _ h => h) (Or.inl ⟨by rfl, ?_⟩) (by assumption) ?_
                    rotate_left
                    · ((intro w0 hSw); (try dsimp only at hSw); go_simp; (try with_reducible rfl))
                    change wpAnyH _ _ _ _ _ _ _ (Act.put _ (some 147) _) _
                    try simp only [Act.put, List.setIfInBounds_toArray, List.set_cons_zero, List.set_cons_succ]
                    refine wpAnyH_take (i := 9) (v := ?_) rfl (by kernel_rfl) (by kernel_rfl) (by kernel_rfl) (fun _ _ _ h => h) (Or.inl ⟨by rfl, ?_⟩) (by assumption) ?_
                    rotate_left
                    · ((intro w0 hSw); (try dsimp only at hSw); go_simp; (try with_reducible rfl))
                    change wpAnyH _ _ _ _ _ _ _ (Act.put _ (some 148) _) _
                    try simp only [Act.put, List.setIfInBounds_toArray, List.set_cons_zero, List.set_cons_succ]
                    refine wpAnyH_take (i := 10) (v := undef) rfl (by kernel_rfl) (by kernel_rfl) (by kernel_rfl) (fun _ _ _ h => h) (Or.inr ⟨by rfl, rfl⟩) (by assumption) ?_
                    change wpAnyH _ _ _ _ _ _ _ (Act.put _ (some 149) _) _
                    try simp only [Act.put, List.setIfInBounds_toArray, List.set_cons_zero, List.set_cons_succ]
                    refine wpAnyH_take (i := 11) (v := undef) rfl (by kernel_rfl) (by kernel_rfl) (by kernel_rfl) (fun _ _ _ h => h) (Or.inr ⟨by rfl, rfl⟩) (by assumption) ?_
                    change wpAnyH _ _ _ _ _ _ _ (Act.put _ (some 150) _) _
                    try simp only [Act.put, List.setIfInBounds_toArray, List.set_cons_zero, List.set_cons_succ]
                    refine wpAnyH_take (i := 12) (v := undef) rfl (by kernel_rfl) (by kernel_rfl) (by kernel_rfl) (fun _ _ _ h => h) (Or.inr ⟨by rfl, rfl⟩) (by assumption) ?_
                    change wpAnyH _ _ _ _ _ _ _ (Act.put _ (some 151) _) _
                    try simp only [Act.put, List.setIfInBounds_toArray, List.set_cons_zero, List.set_cons_succ]
                    refine wpAnyH_take (i := 13) (v := undef) rfl (by kernel_rfl) (by kernel_rfl) (by kernel_rfl) (fun _ _ _ h => h) (Or.inr ⟨by rfl, rfl⟩) (by assumption) ?_
                    change wpAnyH _ _ _ _ _ _ _ (Act.put _ (some 152) _) _
                    try simp only [Act.put, List.setIfInBounds_toArray, List.set_cons_zero, List.set_cons_succ]
                    refine wpAnyH_take (i := 14) (v := undef) rfl (by kernel_rfl) (by kernel_rfl) (by kernel_rfl) (fun _ _ _ h => h) (Or.inr ⟨by rfl, rfl⟩) (by assumption) ?_
                    change wpAnyH _ _ _ _ _ _ _ (Act.put _ (some 153) _) _
                    try simp only [Act.put, List.setIfInBounds_toArray, List.set_cons_zero, List.set_cons_succ]
                    refine wpAnyH_take (i := 15) (v := undef) rfl (by kernel_rfl) (by kernel_rfl) (by kernel_rfl) (fun _ _ _ h => h) (Or.inr ⟨by rfl, rfl⟩) (by assumption) ?_
                    change wpAnyH _ _ _ _ _ _ _ (Act.put _ (some 154) _) _
                    try simp only [Act.put, List.setIfInBounds_toArray, List.set_cons_zero, List.set_cons_succ]
                    refine wpAnyH_take (i := 16) (v := undef) rfl (by kernel_rfl) (by kernel_rfl) (by kernel_rfl) (fun _ _ _ h => h) (Or.inr ⟨by rfl, rfl⟩) (by assumption) ?_
                    change wpAnyH _ _ _ _ _ _ _ (Act.put _ (some 155) _) _
                    try simp only [Act.put, List.setIfInBounds_toArray, List.set_cons_zero, List.set_cons_succ]
                    refine wpAnyH_take (i := 17) (v := ?_) rfl (by kernel_rfl) (by kernel_rfl) (by kernel_rfl) (fun _ _ _ h => h) (Or.inl ⟨by rfl, ?_⟩) (by assumption) ?_
                    rotate_left
                    · ((intro w0 hSw); (try dsimp only at hSw); go_simp; (try with_reducible rfl))
                    change wpAnyH _ _ _ _ _ _ _ (Act.put _ (some 156) _) _
                    try simp only [Act.put, List.setIfInBounds_toArray, List.set_cons_zero, List.set_cons_succ]
                    refine wpAnyH_done (by kernel_rfl) ?_ _
                    have HK1 := Lib.hid hHeld.1
                    clear hHeld HK HK0
                    have HK := HK1
                    clear HK1
                    go_wp2_with fail
                    go_meet
                    case rel => exact ⟨rfl, HK.out⟩
              case rest =>
                obtain ⟨rfl, hk⟩ := hcut
                clear HK
                have HK := Lib.hid hk
                clear hk
                go_upto_region 26 with fail
                go_cut [174] (fun s wx => s = .bool false ∧ KT w [⟨wz.heap.size, A, (.slice p A.z.length cap), T, (.slice pwr2 T.z.length cwr2), R, (.slice pwr1 R.z.length cwr1)⟩, ⟨wa.heap.size, Ps_0, (.slice as0 Ps_0.z.length ds0), Ps_1, (.slice as1 Ps_1.z.length ds1), Xs_2, (.slice as2 Xs_2.z.length ds2)⟩, ⟨(wa.heap.size + 1), Pl_0, (.slice al0 Pl_0.z.length dl0), Pl_1, (.slice al1 Pl_1.z.length dl1), Xl_2, (.slice al2 Xl_2.z.length dl2)⟩, ⟨(wa.heap.size + 2), Po_0, (.slice ao0 Po_0.z.length do0), Po_1, (.slice ao1 Po_1.z.length do1), Xo_2, (.slice ao2 Xo_2.z.length do2)⟩] [⟨(wa.heap.size + 3), Gs_0, Gs_1, Es_2⟩, ⟨(wa.heap.size + 4), Gl_0, Gl_1, En_2⟩, ⟨(wa.heap.size + 5), Go_0, Go_1, En_2⟩] wx)
                case first =>
                  as_aux_lemma =>
                    obtain ⟨_, ⟨q1, _⟩, ⟨q2, _⟩⟩ := Q0.out
                    by_cases h2 : En_2 = 0
                    · have e0 : (En_2 == 0) = true := by simpa using h2
                      have e1 : (Gl_0 == 0) = true := by simpa using q1.2 h2
                      have e2 : (Go_0 == 0) = true := by simpa using q2.2 h2
                      clear q1 q2 h2 Q0
                      have HAll : Hid (∀ W, KT w [⟨wz.heap.size, A, (.slice p A.z.length cap), T, (.slice pwr2 T.z.length cwr2), R, (.slice pwr1 R.z.length cwr1)⟩, ⟨wa.heap.size, Ps_0, (.slice as0 Ps_0.z.length ds0), Ps_1, (.slice as1 Ps_1.z.length ds1), Xs_2, (.slice as2 Xs_2.z.length ds2)⟩, ⟨(wa.heap.size + 1), Pl_0, (.slice al0 Pl_0.z.length dl0), Pl_1, (.slice al1 Pl_1.z.length dl1), Xl_2, (.slice al2 Xl_2.z.length dl2)⟩, ⟨(wa.heap.size + 2), Po_0, (.slice ao0 Po_0.z.length do0), Po_1, (.slice ao1 Po_1.z.length do1), Xo_2, (.slice ao2 Xo_2.z.length do2)⟩] [⟨(wa.heap.size + 3), Gs_0, Gs_1, Es_2⟩, ⟨(wa.heap.size + 4), Gl_0, Gl_1, En_2⟩, ⟨(wa.heap.size + 5), Go_0, Go_1, En_2⟩] W → (fun W => KT w [⟨wz.heap.size, A, (.slice p A.z.length cap), T, (.slice pwr2 T.z.length cwr2), R, (.slice pwr1 R.z.length cwr1)⟩, ⟨wa.heap.size, Ps_0, (.slice as0 Ps_0.z.length ds0), Ps_1, (.slice as1 Ps_1.z.length ds1), Xs_2, (.slice as2 Xs_2.z.length ds2)⟩, ⟨(wa.heap.size + 1), Pl_0, (.slice al0 Pl_0.z.length dl0), Pl_1, (.slice al1 Pl_1.z.length dl1), Xl_2, (.slice al2 Xl_2.z.length dl2)⟩, ⟨(wa.heap.size + 2), Po_0, (.slice ao0 Po_0.z.length do0), Po_1, (.slice ao1 Po_1.z.length do1), Xo_2, (.slice ao2 Xo_2.z.length do2)⟩] [⟨(wa.heap.size + 3), Gs_0, Gs_1, Es_2⟩, ⟨(wa.heap.size + 4), Gl_0, Gl_1, En_2⟩, ⟨(wa.heap.size + 5), Go_0, Go_1, En_2⟩] W ∧ W.cell? ⟨(wa.heap.size + 4), 0, none⟩ = some (.int .i64 Gl_0) ∧ W.cell? ⟨(wa.heap.size + 4), 2, none⟩ = some (.int .i64 En_2) ∧ W.cell? ⟨(wa.heap.size + 5), 0, none⟩ = some (.int .i64 Go_0) ∧ W.cell? ⟨(wa.heap.size + 5), 2, none⟩ = some (.int .i64 En_2)) W) := fun W hX => ⟨hX, (hX.e _ (.tail _ (.head _))).c0, (hX.e _ (.tail _ (.head _))).c2, (hX.e _ (.tail _ (.tail _ (.head _)))).c0, (hX.e _ (.tail _ (.tail _ (.head _)))).c2⟩
                      have HK0 := Lib.hid (HK.out.next (Below.refl _ _).drew)
                      refine wp_region_held_drew (S := (fun W => KT w [⟨wz.heap.size, A, (.slice p A.z.length cap), T, (.slice pwr2 T.z.length cwr2), R, (.slice pwr1 R.z.length cwr1)⟩, ⟨wa.heap.size, Ps_0, (.slice as0 Ps_0.z.length ds0), Ps_1, (.slice as1 Ps_1.z.length ds1), Xs_2, (.slice as2 Xs_2.z.length ds2)⟩, ⟨(wa.heap.size + 1), Pl_0, (.slice al0 Pl_0.z.length dl0), Pl_1, (.slice al1 Pl_1.z.length dl1), Xl_2, (.slice al2 Xl_2.z.length dl2)⟩, ⟨(wa.heap.size + 2), Po_0, (.slice ao0 Po_0.z.length do0), Po_1, (.slice ao1 Po_1.z.length do1), Xo_2, (.slice ao2 Xo_2.z.length do2)⟩] [⟨(wa.heap.size + 3), Gs_0, Gs_1, Es_2⟩, ⟨(wa.heap.size + 4), Gl_0, Gl_1, En_2⟩, ⟨(wa.heap.size + 5), Go_0, Go_1, En_2⟩] W ∧ W.cell? ⟨(wa.heap.size + 4), 0, none⟩ = some (.int .i64 Gl_0) ∧ W.cell? ⟨(wa.heap.size + 4), 2, none⟩ = some (.int .i64 En_2) ∧ W.cell? ⟨(wa.heap.size + 5), 0, none⟩ = some (.int .i64 Go_0) ∧ W.cell? ⟨(wa.heap.size + 5), 2, none⟩ = some (.int .i64 En_2))) (by kernel_rfl) ?_ (fun hHeld => ?_)
                      · exact HAll.out _ HK0.out
                      refine wpAnyH_take (i := 0) (v := ?_) rfl (by kernel_rfl) (by kernel_rfl) (by kernel_rfl) (fun _ _ _ h => h) (Or.inl ⟨by rfl, ?_⟩) (by assumption) ?_
                      rotate_left
                      · ((intro w0 hSw); (try dsimp only at hSw); go_simp; (try with_reducible rfl))
                      change wpAnyH _ _ _ _ _ _ _ (Act.put _ (some 157) _) _
                      try simp only [Act.put, List.setIfInBounds_toArray, List.set_cons_zero, List.set_cons_succ]
                      refine wpAnyH_take (i := 1) (v := ?_) rfl (by kernel_rfl) (by kernel_rfl) (by kernel_rfl) (fun _ _ _ h => h) (Or.inl ⟨by rfl, ?_⟩) (by assumption) ?_
                      rotate_left
                      · ((intro w0 hSw); (try dsimp only at hSw); go_simp; (try with_reducible rfl))
                      change wpAnyH _ _ _ _ _ _ _ (Act.put _ (some 158) _) _
                      try simp only [Act.put, List.setIfInBounds_toArray, List.set_cons_zero, List.set_cons_succ]
                      refine wpAnyH_take (i := 2) (v := ?_) rfl (by kernel_rfl) (by kernel_rfl) (by kernel_rfl) (fun _ _ _ h => h) (Or.inl ⟨by rfl, ?_⟩) (by assumption) ?_
                      rotate_left
                      · ((intro w0 hSw); (try dsimp only at hSw); go_simp; (try with_reducible rfl))
                      change wpAnyH _ _ _ _ _ _ _ (Act.put _ (some 159) _) _
                      try simp only [Act.put, List.setIfInBounds_toArray, List.set_cons_zero, List.set_cons_succ]
                      refine wpAnyH_take (i := 3) (v := ?_) rfl (by kernel_rfl) (by kernel_rfl) (by kernel_rfl) (fun _ _ _ h => h) (Or.inl ⟨by rfl, ?_⟩) (by assumption) ?_
                      rotate_left
                      · ((intro w0 hSw); (try dsimp only at hSw); go_simp; (try with_reducible rfl))
                      change wpAnyH _ _ _ _ _ _ _ (Act.put _ (some 160) _) _
                      try simp only [Act.put, List.setIfInBounds_toArray, List.set_cons_zero, List.set_cons_succ]
                      refine wpAnyH_take (i := 4) (v := ?_) rfl (by kernel_rfl) (by kernel_rfl) (by kernel_rfl) (fun _ _ _ h => h) (Or.inl ⟨by rfl, ?_⟩) (by assumption) ?_
                      rotate_left
                      · ((intro w0 hSw); (try dsimp only at hSw); go_simp; (try with_reducible rfl))
                      change wpAnyH _ _ _ _ _ _ _ (Act.put _ (some 161) _) _
                      try simp only [Act.put, List.setIfInBounds_toArray, List.set_cons_zero, List.set_cons_succ]
                      refine wpAnyH_take (i := 5) (v := ?_) rfl (by kernel_rfl) (by kernel_rfl) (by kernel_rfl) (fun _ _ _ h => h) (Or.inl ⟨by rfl, ?_⟩) (by assumption) ?_
                      rotate_left
                      · ((intro w0 hSw); (try dsimp only at hSw); go_simp; (try with_reducible rfl))
                      change wpAnyH _ _ _ _ _ _ _ (Act.put _ (some 162) _) _
                      try simp only [Act.put, List.setIfInBounds_toArray, List.set_cons_zero, List.set_cons_succ]
                      refine wpAnyH_take (i := 6) (v := ?_) rfl (by kernel_rfl) (by kernel_rfl) (by kernel_rfl) (fun _ _ _ h => h) (Or.inl ⟨by rfl, ?_⟩) (by assumption) ?_
                      rotate_left
                      · ((intro w0 hSw); (try dsimp only at hSw); go_simp; (try with_reducible rfl))
                      change wpAnyH _ _ _ _ _ _ _ (Act.put _ (some 163) _) _
                      try simp only [Act.put, List.setIfInBounds_toArray, List.set_cons_zero, List.set_cons_succ]
                      refine wpAnyH_take (i := 7) (v := ?_) rfl (by kernel_rfl) (by kernel_rfl) (by kernel_rfl) (fun _ _ _ h => h) (Or.inl ⟨by rfl, ?_⟩) (by assumption) ?_
                      rotate_left
                      · ((intro w0 hSw); (try dsimp only at hSw); go_simp; (try with_reducible rfl))
                      change wpAnyH _ _ _ _ _ _ _ (Act.put _ (some 164) _) _
                      try simp only [Act.put, List.setIfInBounds_toArray, List.set_cons_zero, List.set_cons_succ]
                      refine wpAnyH_take (i := 8) (v := ?_) rfl (by kernel_rfl) (by kernel_rfl) (by kernel_rfl) (fun _ _ _ h => h) (Or.inl ⟨by rfl, ?_⟩) (by assumption) ?_
                      rotate_left
                      · ((intro w0 hSw); (try dsimp only at hSw); go_simp; (try with_reducible rfl))
                      change wpAnyH _ _ _ _ _ _ _ (Act.put _ (some 165) _) _
                      try simp only [Act.put, List.setIfInBounds_toArray, List.set_cons_zero, List.set_cons_succ]
                      refine wpAnyH_take (i := 9) (v := ?_) rfl (by kernel_rfl) (by kernel_rfl) (by kernel_rfl) (fun _ _ _ h => h) (Or.inl ⟨by rfl, ?_⟩) (by assumption) ?_
                      rotate_left
                      · ((intro w0 hSw); (try dsimp only at hSw); go_simp; (try with_reducible rfl))
                      change wpAnyH _ _ _ _ _ _ _ (Act.put _ (some 166) _) _
                      try simp only [Act.put, List.setIfInBounds_toArray, List.set_cons_zero, List.set_cons_succ]
                      refine wpAnyH_take (i := 10) (v := ?_) rfl (by kernel_rfl) (by kernel_rfl) (by kernel_rfl) (fun _ _ _ h => h) (Or.inl ⟨by rfl, ?_⟩) (by assumption) ?_
                      rotate_left
                      · ((intro w0 hSw); (try dsimp only at hSw); go_simp; (try with_reducible rfl))
                      change wpAnyH _ _ _ _ _ _ _ (Act.put _ (some 167) _) _
                      try simp only [Act.put, List.setIfInBounds_toArray, List.set_cons_zero, List.set_cons_succ]
                      refine wpAnyH_take (i := 11) (v := ?_) rfl (by kernel_rfl) (by kernel_rfl) (by kernel_rfl) (fun _ _ _ h => h) (Or.inl ⟨by rfl, ?_⟩) (by assumption) ?_
                      rotate_left
                      · ((intro w0 hSw); (try dsimp only at hSw); go_simp; (try with_reducible rfl))
                      change wpAnyH _ _ _ _ _ _ _ (Act.put _ (some 168) _) _
                      try simp only [Act.put, List.setIfInBounds_toArray, List.set_cons_zero, List.set_cons_succ]
                      refine wpAnyH_take (i := 12) (v := ?_) rfl (by kernel_rfl) (by kernel_rfl) (by kernel_rfl) (fun _ _ _ h => h) (Or.inl ⟨by rfl, ?_⟩) (by assumption) ?_
                      rotate_left
                      · ((intro w0 hSw); (try dsimp only at hSw); go_simp; (try with_reducible rfl))
                      change wpAnyH _ _ _ _ _ _ _ (Act.put _ (some 169) _) _
                      try simp only [Act.put, List.setIfInBounds_toArray, List.set_cons_zero, List.set_cons_succ]
                      refine wpAnyH_take (i := 13) (v := ?_) rfl (by kernel_rfl) (by kernel_rfl) (by kernel_rfl) (fun _ _ _ h => h) (Or.inl ⟨by rfl, ?_⟩) (by assumption) ?_
                      rotate_left
                      · ((intro w0 hSw); (try dsimp only at hSw); go_simp; (try with_reducible rfl))
                      change wpAnyH _ _ _ _ _ _ _ (Act.put _ (some 170) _) _
                      try simp only [Act.put, List.setIfInBounds_toArray, List.set_cons_zero, List.set_cons_succ]
                      refine wpAnyH_take (i := 14) (v := ?_) rfl (by kernel_rfl) (by kernel_rfl) (by kernel_rfl) (fun _ _ _ h => h) (Or.inl ⟨by rfl, ?_⟩) (by assumption) ?_
                      rotate_left
                      · ((intro w0 hSw); (try dsimp only at hSw); go_simp; (try with_reducible rfl))
                      change wpAnyH _ _ _ _ _ _ _ (Act.put _ (some 171) _) _
                      try simp only [Act.put, List.setIfInBounds_toArray, List.set_cons_zero, List.set_cons_succ]
                      refine wpAnyH_take (i := 15) (v := ?_) rfl (by kernel_rfl) (by kernel_rfl) (by kernel_rfl) (fun _ _ _ h => h) (Or.inl ⟨by rfl, ?_⟩) (by assumption) ?_
                      rotate_left
                      · ((intro w0 hSw); (try dsimp only at hSw); go_simp; (try with_reducible rfl))
                      change wpAnyH _ _ _ _ _ _ _ (Act.put _ (some 172) _) _
                      try simp only [Act.put, List.setIfInBounds_toArray, List.set_cons_zero, List.set_cons_succ]
                      refine wpAnyH_take (i := 16) (v := ?_) rfl (by kernel_rfl) (by kernel_rfl) (by kernel_rfl) (fun _ _ _ h => h) (Or.inl ⟨by rfl, ?_⟩) (by assumption) ?_
                      rotate_left
                      · ((intro w0 hSw); (try dsimp only at hSw); go_simp; (try with_reducible rfl))
                      change wpAnyH _ _ _ _ _ _ _ (Act.put _ (some 173) _) _
                      try simp only [Act.put, List.setIfInBounds_toArray, List.set_cons_zero, List.set_cons_succ]
                      refine wpAnyH_take (i := 17) (v := ?_) rfl (by kernel_rfl) (by kernel_rfl) (by kernel_rfl) (fun _ _ _ h => h) (Or.inl ⟨by rfl, ?_⟩) (by assumption) ?_
                      rotate_left
                      · ((intro w0 hSw); (try dsimp only at hSw); go_simp; (try with_reducible rfl))
                      change wpAnyH _ _ _ _ _ _ _ (Act.put _ (some 174) _) _
                      try simp only [Act.put, List.setIfInBounds_toArray, List.set_cons_zero, List.set_cons_succ]
                      refine wpAnyH_done (by kernel_rfl) ?_ _
                      have HK1 := Lib.hid hHeld.1
                      clear hHeld HK HK0
                      have HK := HK1
                      clear HK1
                      go_wp2_with fail
                      go_meet
                      case rel => exact ⟨rfl, HK.out⟩
                    · have e0 : (En_2 == 0) = false := by simpa using h2
                      have e1 : (Gl_0 == 0) = false := by simpa using fun h => h2 (q1.1 h)
                      have e2 : (Go_0 == 0) = false := by simpa using fun h => h2 (q2.1 h)
                      clear q1 q2 h2 Q0
                      have HAll : Hid (∀ W, KT w [⟨wz.heap.size, A, (.slice p A.z.length cap), T, (.slice pwr2 T.z.length cwr2), R, (.slice pwr1 R.z.length cwr1)⟩, ⟨wa.heap.size, Ps_0, (.slice as0 Ps_0.z.length ds0), Ps_1, (.slice as1 Ps_1.z.length ds1), Xs_2, (.slice as2 Xs_2.z.length ds2)⟩, ⟨(wa.heap.size + 1), Pl_0, (.slice al0 Pl_0.z.length dl0), Pl_1, (.slice al1 Pl_1.z.length dl1), Xl_2, (.slice al2 Xl_2.z.length dl2)⟩, ⟨(wa.heap.size + 2), Po_0, (.slice ao0 Po_0.z.length do0), Po_1, (.slice ao1 Po_1.z.length do1), Xo_2, (.slice ao2 Xo_2.z.length do2)⟩] [⟨(wa.heap.size + 3), Gs_0, Gs_1, Es_2⟩, ⟨(wa.heap.size + 4), Gl_0, Gl_1, En_2⟩, ⟨(wa.heap.size + 5), Go_0, Go_1, En_2⟩] W → (fun W => KT w [⟨wz.heap.size, A, (.slice p A.z.length cap), T, (.slice pwr2 T.z.length cwr2), R, (.slice pwr1 R.z.length cwr1)⟩, ⟨wa.heap.size, Ps_0, (.slice as0 Ps_0.z.length ds0), Ps_1, (.slice as1 Ps_1.z.length ds1), Xs_2, (.slice as2 Xs_2.z.length ds2)⟩, ⟨(wa.heap.size + 1), Pl_0, (.slice al0 Pl_0.z.length dl0), Pl_1, (.slice al1 Pl_1.z.length dl1), Xl_2, (.slice al2 Xl_2.z.length dl2)⟩, ⟨(wa.heap.size + 2), Po_0, (.slice ao0 Po_0.z.length do0), Po_1, (.slice ao1 Po_1.z.length do1), Xo_2, (.slice ao2 Xo_2.z.length do2)⟩] [⟨(wa.heap.size + 3), Gs_0, Gs_1, Es_2⟩, ⟨(wa.heap.size + 4), Gl_0, Gl_1, En_2⟩, ⟨(wa.heap.size + 5), Go_0, Go_1, En_2⟩] W ∧ W.cell? ⟨(wa.heap.size + 4), 0, none⟩ = some (.int .i64 Gl_0) ∧ W.cell? ⟨(wa.heap.size + 4), 2, none⟩ = some (.int .i64 En_2) ∧ W.cell? ⟨(wa.heap.size + 5), 0, none⟩ = some (.int .i64 Go_0) ∧ W.cell? ⟨(wa.heap.size + 5), 2, none⟩ = some (.int .i64 En_2)) W) := fun W hX => ⟨hX, (hX.e _ (.tail _ (.head _))).c0, (hX.e _ (.tail _ (.head _))).c2, (hX.e _ (.tail _ (.tail _ (.head _)))).c0, (hX.e _ (.tail _ (.tail _ (.head _)))).c2⟩
                      have HK0 := Lib.hid (HK.out.next (Below.refl _ _).drew)
                      refine wp_region_held_drew (S := (fun W => KT w [⟨wz.heap.size, A, (.slice p A.z.length cap), T, (.slice pwr2 T.z.length cwr2), R, (.slice pwr1 R.z.length cwr1)⟩, ⟨wa.heap.size, Ps_0, (.slice as0 Ps_0.z.length ds0), Ps_1, (.slice as1 Ps_1.z.length ds1), Xs_2, (.slice as2 Xs_2.z.length ds2)⟩, ⟨(wa.heap.size + 1), Pl_0, (.slice al0 Pl_0.z.length dl0), Pl_1, (.slice al1 Pl_1.z.length dl1), Xl_2, (.slice al2 Xl_2.z.length dl2)⟩, ⟨(wa.heap.size + 2), Po_0, (.slice ao0 Po_0.z.length do0), Po_1, (.slice ao1 Po_1.z.length do1), Xo_2, (.slice ao2 Xo_2.z.length do2)⟩] [⟨(wa.heap.size + 3), Gs_0, Gs_1, Es_2⟩, ⟨(wa.heap.size + 4), Gl_0, Gl_1, En_2⟩, ⟨(wa.heap.size + 5), Go_0, Go_1, En_2⟩] W ∧ W.cell? ⟨(wa.heap.size + 4), 0, none⟩ = some (.int .i64 Gl_0) ∧ W.cell? ⟨(wa.heap.size + 4), 2, none⟩ = some (.int .i64 En_2) ∧ W.cell? ⟨(wa.heap.size + 5), 0, none⟩ = some (.int .i64 Go_0) ∧ W.cell? ⟨(wa.heap.size + 5), 2, none⟩ = some (.int .i64 En_2))) (by kernel_rfl) ?_ (fun hHeld => ?_)
                      · exact HAll.out _ HK0.out
                      refine wpAnyH_take (i := 0) (v := ?_) rfl (by kernel_rfl) (by kernel_rfl) (by kernel_rfl) (fun _ _ _ h => h) (Or.inl ⟨by rfl, ?_⟩) (by assumption) ?_
                      rotate_left
                      · ((intro w0 hSw); (try dsimp only at hSw); go_simp; (try with_reducible rfl))
                      change wpAnyH _ _ _ _ _ _ _ (Act.put _ (some 157) _) _
                      try simp only [Act.put, List.setIfInBounds_toArray, List.set_cons_zero, List.set_cons_succ]
                      refine wpAnyH_take (i := 1) (v := ?_) rfl (by kernel_rfl) (by kernel_rfl) (by kernel_rfl) (fun _ _ _ h => h) (Or.inl ⟨by rfl, ?_⟩) (by assumption) ?_
                      rotate_left
                      · ((intro w0 hSw); (try dsimp only at hSw); go_simp; (try with_reducible rfl))
                      change wpAnyH _ _ _ _ _ _ _ (Act.put _ (some 158) _) _
                      try simp only [Act.put, List.setIfInBounds_toArray, List.set_cons_zero, List.set_cons_succ]
                      refine wpAnyH_take (i := 2) (v := ?_) rfl (by kernel_rfl) (by kernel_rfl) (by kernel_rfl) (fun _ _ _ h => h) (Or.inl ⟨by rfl, ?_⟩) (by assumption) ?_
                      rotate_left
                      · ((intro w0 hSw); (try dsimp only at hSw); go_simp; (try with_reducible rfl))
                      change wpAnyH _ _ _ _ _ _ _ (Act.put _ (some 159) _) _
                      try simp only [Act.put, List.setIfInBounds_toArray, List.set_cons_zero, List.set_cons_succ]
                      refine wpAnyH_take (i := 3) (v := ?_) rfl (by kernel_rfl) (by kernel_rfl) (by kernel_rfl) (fun _ _ _ h => h) (Or.inl ⟨by rfl, ?_⟩) (by assumption) ?_
                      rotate_left
                      · ((intro w0 hSw); (try dsimp only at hSw); go_simp; (try with_reducible rfl))
                      change wpAnyH _ _ _ _ _ _ _ (Act.put _ (some 160) _) _
                      try simp only [Act.put, List.setIfInBounds_toArray, List.set_cons_zero, List.set_cons_succ]
                      refine wpAnyH_take (i := 4) (v := ?_) rfl (by kernel_rfl) (by kernel_rfl) (by kernel_rfl) (fun _ _ _ h => h) (Or.inl ⟨by rfl, ?_⟩) (by assumption) ?_
                      rotate_left
                      · ((intro w0 hSw); (try dsimp only at hSw); go_simp; (try with_reducible rfl))
                      change wpAnyH _ _ _ _ _ _ _ (Act.put _ (some 161) _) _
                      try simp only [Act.put, List.setIfInBounds_toArray, List.set_cons_zero, List.set_cons_succ]
                      refine wpAnyH_take (i := 5) (v := ?_) rfl (by kernel_rfl) (by kernel_rfl) (by kernel_rfl) (fun _ _ _ h => h) (Or.inl ⟨by rfl, ?_⟩) (by assumption) ?_
                      rotate_left
                      · ((intro w0 hSw); (try dsimp only at hSw); go_simp; (try with_reducible rfl))
                      change wpAnyH _ _ _ _ _ _ _ (Act.put _ (some 162) _) _
                      try simp only [Act.put, List.setIfInBounds_toArray, List.set_cons_zero, List.set_cons_succ]
                      refine wpAnyH_take (i := 6) (v := ?_) rfl (by kernel_rfl) (by kernel_rfl) (by kernel_rfl) (fun _ _ _ h => h) (Or.inl ⟨by rfl, ?_⟩) (by assumption) ?_
                      rotate_left
                      · ((intro w0 hSw); (try dsimp only at hSw); go_simp; (try with_reducible rfl))
                      change wpAnyH _ _ _ _ _ _ _ (Act.put _ (some 163) _) _
                      try simp only [Act.put, List.setIfInBounds_toArray, List.set_cons_zero, List.set_cons_succ]
                      refine wpAnyH_take (i := 7) (v := ?_) rfl (by kernel_rfl) (by kernel_rfl) (by kernel_rfl) (fun _ _ _ h => h) (Or.inl ⟨by rfl, ?_⟩) (by assumption) ?_
                      rotate_left
                      · ((intro w0 hSw); (try dsimp only at hSw); go_simp; (try with_reducible rfl))
                      change wpAnyH _ _ _ _ _ _ _ (Act.put _ (some 164) _) _
                      try simp only [Act.put, List.setIfInBounds_toArray, List.set_cons_zero, List.set_cons_succ]
                      refine wpAnyH_take (i := 8) (v := ?_) rfl (by kernel_rfl) (by kernel_rfl) (by kernel_rfl) (fun _ _ _ h => h) (Or.inl ⟨by rfl, ?_⟩) (by assumption) ?_
                      rotate_left
                      · ((intro w0 hSw); (try dsimp only at hSw); go_simp; (try with_reducible rfl))
                      change wpAnyH _ _ _ _ _ _ _ (Act.put _ (some 165) _) _
                      try simp only [Act.put, List.setIfInBounds_toArray, List.set_cons_zero, List.set_cons_succ]
                      refine wpAnyH_take (i := 9) (v := ?_) rfl (by kernel_rfl) (by kernel_rfl) (by kernel_rfl) (fun _ _ _ h => h) (Or.inl ⟨by rfl, ?_⟩) (by assumption) ?_
                      rotate_left
                      · ((intro w0 hSw); (try dsimp only at hSw); go_simp; (try with_reducible rfl))
                      change wpAnyH _ _ _ _ _ _ _ (Act.put _ (some 166) _) _
                      try simp only [Act.put, List.setIfInBounds_toArray, List.set_cons_zero, List.set_cons_succ]
                      refine wpAnyH_take (i := 10) (v := ?_) rfl (by kernel_rfl) (by kernel_rfl) (by kernel_rfl) (fun _ _ _ h => h) (Or.inl ⟨by rfl, ?_⟩) (by assumption) ?_
                      rotate_left
                      · ((intro w0 hSw); (try dsimp only at hSw); go_simp; (try with_reducible rfl))
                      change wpAnyH _ _ _ _ _ _ _ (Act.put _ (some 167) _) _
                      try simp only [Act.put, List.setIfInBounds_toArray, List.set_cons_zero, List.set_cons_succ]
                      refine wpAnyH_take (i := 11) (v := ?_) rfl (by kernel_rfl) (by kernel_rfl) (by kernel_rfl) (fun _ _ _ h => h) (Or.inl ⟨by rfl, ?_⟩) (by assumption) ?_
                      rotate_left
                      · ((intro w0 hSw); (try dsimp only at hSw); go_simp; (try with_reducible rfl))
                      change wpAnyH _ _ _ _ _ _ _ (Act.put _ (some 168) _) _
                      try simp only [Act.put, List.setIfInBounds_toArray, List.set_cons_zero, List.set_cons_succ]
                      refine wpAnyH_take (i := 12) (v := ?_) rfl (by kernel_rfl) (by kernel_rfl) (by kernel_rfl) (fun _ _ _ h => h) (Or.inl ⟨by rfl, ?_⟩) (by assumption) ?_
                      rotate_left
                      · ((intro w0 hSw); (try dsimp only at hSw); go_simp; (try with_reducible rfl))
                      change wpAnyH _ _ _ _ _ _ _ (Act.put _ (some 169) _) _
                      try simp only [Act.put, List.setIfInBounds_toArray, List.set_cons_zero, List.set_cons_succ]
                      refine wpAnyH_take (i := 13) (v := ?_) rfl (by kernel_rfl) (by kernel_rfl) (by kernel_rfl) (fun _ _ _ h => h) (Or.inl ⟨by rfl, ?_⟩) (by assumption) ?_
                      rotate_left
                      · ((intro w0 hSw); (try dsimp only at hSw); go_simp; (try with_reducible rfl))
                      change wpAnyH _ _ _ _ _ _ _ (Act.put _ (some 170) _) _
                      try simp only [Act.put, List.setIfInBounds_toArray, List.set_cons_zero, List.set_cons_succ]
                      refine wpAnyH_take (i := 14) (v := ?_) rfl (by kernel_rfl) (by kernel_rfl) (by kernel_rfl) (fun _ _ _ h => h) (Or.inl ⟨by rfl, ?_⟩) (by assumption) ?_
                      rotate_left
                      · ((intro w0 hSw); (try dsimp only at hSw); go_simp; (try with_reducible rfl))
                      change wpAnyH _ _ _ _ _ _ _ (Act.put _ (some 171) _) _
                      try simp only [Act.put, List.setIfInBounds_toArray, List.set_cons_zero, List.set_cons_succ]
                      refine wpAnyH_take (i := 15) (v := ?_) rfl (by kernel_rfl) (by kernel_rfl) (by kernel_rfl) (fun _ _ _ h => h) (Or.inl ⟨by rfl, ?_⟩) (by assumption) ?_
                      rotate_left
                      · ((intro w0 hSw); (try dsimp only at hSw); go_simp; (try with_reducible rfl))
                      change wpAnyH _ _ _ _ _ _ _ (Act.put _ (some 172) _) _
                      try simp only [Act.put, List.setIfInBounds_toArray, List.set_cons_zero, List.set_cons_succ]
                      refine wpAnyH_take (i := 16) (v := ?_) rfl (by kernel_rfl) (by kernel_rfl) (by kernel_rfl) (fun _ _ _ h => h) (Or.inl ⟨by rfl, ?_⟩) (by assumption) ?_
                      rotate_left
                      · ((intro w0 hSw); (try dsimp only at hSw); go_simp; (try with_reducible rfl))
                      change wpAnyH _ _ _ _ _ _ _ (Act.put _ (some 173) _) _
                      try simp only [Act.put, List.setIfInBounds_toArray, List.set_cons_zero, List.set_cons_succ]
                      refine wpAnyH_take (i := 17) (v := ?_) rfl (by kernel_rfl) (by kernel_rfl) (by kernel_rfl) (fun _ _ _ h => h) (Or.inl ⟨by rfl, ?_⟩) (by assumption) ?_
                      rotate_left
                      · ((intro w0 hSw); (try dsimp only at hSw); go_simp; (try with_reducible rfl))
                      change wpAnyH _ _ _ _ _ _ _ (Act.put _ (some 174) _) _
                      try simp only [Act.put, List.setIfInBounds_toArray, List.set_cons_zero, List.set_cons_succ]
                      refine wpAnyH_done (by kernel_rfl) ?_ _
                      have HK1 := Lib.hid hHeld.1
                      clear hHeld HK HK0
                      have HK := HK1
                      clear HK1
                      go_wp2_with fail
                      go_meet
                      case rel => exact ⟨rfl, HK.out⟩
                case rest =>
                  obtain ⟨rfl, hk⟩ := hcut
                  clear HK
                  have HK := Lib.hid hk
                  clear hk
                  go_upto_region 28 with fail
                  go_cut [195] (fun s wx => s = .bool false ∧ KT w [⟨wz.heap.size, A, (.slice p A.z.length cap), T, (.slice pwr2 T.z.length cwr2), R, (.slice pwr1 R.z.length cwr1)⟩, ⟨wa.heap.size, Ps_0, (.slice as0 Ps_0.z.length ds0), Ps_1, (.slice as1 Ps_1.z.length ds1), Xs_2, (.slice as2 Xs_2.z.length ds2)⟩, ⟨(wa.heap.size + 1), Pl_0, (.slice al0 Pl_0.z.length dl0), Pl_1, (.slice al1 Pl_1.z.length dl1), Xl_2, (.slice al2 Xl_2.z.length dl2)⟩, ⟨(wa.heap.size + 2), Po_0, (.slice ao0 Po_0.z.length do0), Po_1, (.slice ao1 Po_1.z.length do1), Xo_2, (.slice ao2 Xo_2.z.length do2)⟩] [⟨(wa.heap.size + 3), Gs_0, Gs_1, Es_2⟩, ⟨(wa.heap.size + 4), Gl_0, Gl_1, En_2⟩, ⟨(wa.heap.size + 5), Go_0, Go_1, En_2⟩] wx)
                  case first =>
                    as_aux_lemma =>
                      obtain ⟨_, ⟨q1, q3⟩, ⟨q2, q4⟩⟩ := Q0.out
                      by_cases h2 : En_2 = 0
                      · have e0 : (En_2 == 0) = true := by simpa using h2
                        have HSml : Hid (∀ v u W, RdI W.heap.size W v Pl_0.z → RdI W.heap.size W u Xl_2.z → Calls Tryd.prog 19 #[A5 Pl_0.k Pl_0.r Pl_0.a Pl_0.b v, A5 Xl_2.k Xl_2.r Xl_2.a Xl_2.b u] W fun e w' => e = .returned (.bool true) ∧ Below W.heap.size W w') := by
                          intro v u W g1 g2
                          have h := q3 h2
                          rw [h] at g1 ⊢
                          exact same_eq _ _ _ _ _ v u W g1 g2 Nl.out
                        have HSmo : Hid (∀ v u W, RdI W.heap.size W v Po_0.z → RdI W.heap.size W u Xo_2.z → Calls Tryd.prog 19 #[A5 Po_0.k Po_0.r Po_0.a Po_0.b v, A5 Xo_2.k Xo_2.r Xo_2.a Xo_2.b u] W fun e w' => e = .returned (.bool true) ∧ Below W.heap.size W w') := by
                          intro v u W g1 g2
                          have h := q4 h2
                          rw [h] at g1 ⊢
                          exact same_eq _ _ _ _ _ v u W g1 g2 No.out
                        clear q1 q2 q3 q4 h2 Q0
                        have HAll : Hid (∀ W, KT w [⟨wz.heap.size, A, (.slice p A.z.length cap), T, (.slice pwr2 T.z.length cwr2), R, (.slice pwr1 R.z.length cwr1)⟩, ⟨wa.heap.size, Ps_0, (.slice as0 Ps_0.z.length ds0), Ps_1, (.slice as1 Ps_1.z.length ds1), Xs_2, (.slice as2 Xs_2.z.length ds2)⟩, ⟨(wa.heap.size + 1), Pl_0, (.slice al0 Pl_0.z.length dl0), Pl_1, (.slice al1 Pl_1.z.length dl1), Xl_2, (.slice al2 Xl_2.z.length dl2)⟩, ⟨(wa.heap.size + 2), Po_0, (.slice ao0 Po_0.z.length do0), Po_1, (.slice ao1 Po_1.z.length do1), Xo_2, (.slice ao2 Xo_2.z.length do2)⟩] [⟨(wa.heap.size + 3), Gs_0, Gs_1, Es_2⟩, ⟨(wa.heap.size + 4), Gl_0, Gl_1, En_2⟩, ⟨(wa.heap.size + 5), Go_0, Go_1, En_2⟩] W → (fun W => KT w [⟨wz.heap.size, A, (.slice p A.z.length cap), T, (.slice pwr2 T.z.length cwr2), R, (.slice pwr1 R.z.length cwr1)⟩, ⟨wa.heap.size, Ps_0, (.slice as0 Ps_0.z.length ds0), Ps_1, (.slice as1 Ps_1.z.length ds1), Xs_2, (.slice as2 Xs_2.z.length ds2)⟩, ⟨(wa.heap.size + 1), Pl_0, (.slice al0 Pl_0.z.length dl0), Pl_1, (.slice al1 Pl_1.z.length dl1), Xl_2, (.slice al2 Xl_2.z.length dl2)⟩, ⟨(wa.heap.size + 2), Po_0, (.slice ao0 Po_0.z.length do0), Po_1, (.slice ao1 Po_1.z.length do1), Xo_2, (.slice ao2 Xo_2.z.length do2)⟩] [⟨(wa.heap.size + 3), Gs_0, Gs_1, Es_2⟩, ⟨(wa.heap.size + 4), Gl_0, Gl_1, En_2⟩, ⟨(wa.heap.size + 5), Go_0, Go_1, En_2⟩] W ∧ W.cell? ⟨(wa.heap.size + 4), 2, none⟩ = some (.int .i64 En_2) ∧ W.cell? ⟨(wa.heap.size + 1), 0, none⟩ = some (.int .i64 Pl_0.k) ∧ W.cell? ⟨(wa.heap.size + 1), 1, none⟩ = some (.int .i64 Pl_0.r) ∧ W.cell? ⟨(wa.heap.size + 1), 2, none⟩ = some (.int .i64 Pl_0.a) ∧ W.cell? ⟨(wa.heap.size + 1), 3, none⟩ = some (.int .i64 Pl_0.b) ∧ W.cell? ⟨(wa.heap.size + 1), 4, none⟩ = some ((.slice al0 Pl_0.z.length dl0)) ∧ W.cell? ⟨(wa.heap.size + 1), 10, none⟩ = some (.int .i64 Xl_2.k) ∧ W.cell? ⟨(wa.heap.size + 1), 11, none⟩ = some (.int .i64 Xl_2.r) ∧ W.cell? ⟨(wa.heap.size + 1), 12, none⟩ = some (.int .i64 Xl_2.a) ∧ W.cell? ⟨(wa.heap.size + 1), 13, none⟩ = some (.int .i64 Xl_2.b) ∧ W.cell? ⟨(wa.heap.size + 1), 14, none⟩ = some ((.slice al2 Xl_2.z.length dl2)) ∧ W.cell? ⟨(wa.heap.size + 2), 0, none⟩ = some (.int .i64 Po_0.k) ∧ W.cell? ⟨(wa.heap.size + 2), 1, none⟩ = some (.int .i64 Po_0.r) ∧ W.cell? ⟨(wa.heap.size + 2), 2, none⟩ = some (.int .i64 Po_0.a) ∧ W.cell? ⟨(wa.heap.size + 2), 3, none⟩ = some (.int .i64 Po_0.b) ∧ W.cell? ⟨(wa.heap.size + 2), 4, none⟩ = some ((.slice ao0 Po_0.z.length do0)) ∧ W.cell? ⟨(wa.heap.size + 2), 10, none⟩ = some (.int .i64 Xo_2.k) ∧ W.cell? ⟨(wa.heap.size + 2), 11, none⟩ = some (.int .i64 Xo_2.r) ∧ W.cell? ⟨(wa.heap.size + 2), 12, none⟩ = some (.int .i64 Xo_2.a) ∧ W.cell? ⟨(wa.heap.size + 2), 13, none⟩ = some (.int .i64 Xo_2.b) ∧ W.cell? ⟨(wa.heap.size + 2), 14, none⟩ = some ((.slice ao2 Xo_2.z.length do2))) W) := fun W hX => ⟨hX, (hX.e _ (.tail _ (.head _))).c2, (hX.b _ (.tail _ (.tail _ (.head _)))).c0, (hX.b _ (.tail _ (.tail _ (.head _)))).c1, (hX.b _ (.tail _ (.tail _ (.head _)))).c2, (hX.b _ (.tail _ (.tail _ (.head _)))).c3, (hX.b _ (.tail _ (.tail _ (.head _)))).c4, (hX.b _ (.tail _ (.tail _ (.head _)))).c10, (hX.b _ (.tail _ (.tail _ (.head _)))).c11, (hX.b _ (.tail _ (.tail _ (.head _)))).c12, (hX.b _ (.tail _ (.tail _ (.head _)))).c13, (hX.b _ (.tail _ (.tail _ (.head _)))).c14, (hX.b _ (.tail _ (.tail _ (.tail _ (.head _))))).c0, (hX.b _ (.tail _ (.tail _ (.tail _ (.head _))))).c1, (hX.b _ (.tail _ (.tail _ (.tail _ (.head _))))).c2, (hX.b _ (.tail _ (.tail _ (.tail _ (.head _))))).c3, (hX.b _ (.tail _ (.tail _ (.tail _ (.head _))))).c4, (hX.b _ (.tail _ (.tail _ (.tail _ (.head _))))).c10, (hX.b _ (.tail _ (.tail _ (.tail _ (.head _))))).c11, (hX.b _ (.tail _ (.tail _ (.tail _ (.head _))))).c12, (hX.b _ (.tail _ (.tail _ (.tail _ (.head _))))).c13, (hX.b _ (.tail _ (.tail _ (.tail _ (.head _))))).c14⟩
                        have HK0 := Lib.hid (HK.out.next (Below.refl _ _).drew)
                        refine wp_region_held_drew (S := (fun W => KT w [⟨wz.heap.size, A, (.slice p A.z.length cap), T, (.slice pwr2 T.z.length cwr2), R, (.slice pwr1 R.z.length cwr1)⟩, ⟨wa.heap.size, Ps_0, (.slice as0 Ps_0.z.length ds0), Ps_1, (.slice as1 Ps_1.z.length ds1), Xs_2, (.slice as2 Xs_2.z.length ds2)⟩, ⟨(wa.heap.size + 1), Pl_0, (.slice al0 Pl_0.z.length dl0), Pl_1, (.slice al1 Pl_1.z.length dl1), Xl_2, (.slice al2 Xl_2.z.length dl2)⟩, ⟨(wa.heap.size + 2), Po_0, (.slice ao0 Po_0.z.length do0), Po_1, (.slice ao1 Po_1.z.length do1), Xo_2, (.slice ao2 Xo_2.z.length do2)⟩] [⟨(wa.heap.size + 3), Gs_0, Gs_1, Es_2⟩, ⟨(wa.heap.size + 4), Gl_0, Gl_1, En_2⟩, ⟨(wa.heap.size + 5), Go_0, Go_1, En_2⟩] W ∧ W.cell? ⟨(wa.heap.size + 4), 2, none⟩ = some (.int .i64 En_2) ∧ W.cell? ⟨(wa.heap.size + 1), 0, none⟩ = some (.int .i64 Pl_0.k) ∧ W.cell? ⟨(wa.heap.size + 1), 1, none⟩ = some (.int .i64 Pl_0.r) ∧ W.cell? ⟨(wa.heap.size + 1), 2, none⟩ = some (.int .i64 Pl_0.a) ∧ W.cell? ⟨(wa.heap.size + 1), 3, none⟩ = some (.int .i64 Pl_0.b) ∧ W.cell? ⟨(wa.heap.size + 1), 4, none⟩ = some ((.slice al0 Pl_0.z.length dl0)) ∧ W.cell? ⟨(wa.heap.size + 1), 10, none⟩ = some (.int .i64 Xl_2.k) ∧ W.cell? ⟨(wa.heap.size + 1), 11, none⟩ = some (.int .i64 Xl_2.r) ∧ W.cell? ⟨(wa.heap.size + 1), 12, none⟩ = some (.int .i64 Xl_2.a) ∧ W.cell? ⟨(wa.heap.size + 1), 13, none⟩ = some (.int .i64 Xl_2.b) ∧ W.cell? ⟨(wa.heap.size + 1), 14, none⟩ = some ((.slice al2 Xl_2.z.length dl2)) ∧ W.cell? ⟨(wa.heap.size + 2), 0, none⟩ = some (.int .i64 Po_0.k) ∧ W.cell? ⟨(wa.heap.size + 2), 1, none⟩ = some (.int .i64 Po_0.r) ∧ W.cell? ⟨(wa.heap.size + 2), 2, none⟩ = some (.int .i64 Po_0.a) ∧ W.cell? ⟨(wa.heap.size + 2), 3, none⟩ = some (.int .i64 Po_0.b) ∧ W.cell? ⟨(wa.heap.size + 2), 4, none⟩ = some ((.slice ao0 Po_0.z.length do0)) ∧ W.cell? ⟨(wa.heap.size + 2), 10, none⟩ = some (.int .i64 Xo_2.k) ∧ W.cell? ⟨(wa.heap.size + 2), 11, none⟩ = some (.int .i64 Xo_2.r) ∧ W.cell? ⟨(wa.heap.size + 2), 12, none⟩ = some (.int .i64 Xo_2.a) ∧ W.cell? ⟨(wa.heap.size + 2), 13, none⟩ = some (.int .i64 Xo_2.b) ∧ W.cell? ⟨(wa.heap.size + 2), 14, none⟩ = some ((.slice ao2 Xo_2.z.length do2)))) (by kernel_rfl) ?_ (fun hHeld => ?_)
                        · exact HAll.out _ HK0.out
                        refine wpAnyH_take (i := 0) (v := ?_) rfl (by kernel_rfl) (by kernel_rfl) (by kernel_rfl) (fun _ _ _ h => h) (Or.inl ⟨by rfl, ?_⟩) (by assumption) ?_
                        rotate_left
                        · ((intro w0 hSw); (try dsimp only at hSw); go_simp; (try with_reducible rfl))
                        change wpAnyH _ _ _ _ _ _ _ (Act.put _ (some 175) _) _
                        try simp only [Act.put, List.setIfInBounds_toArray, List.set_cons_zero, List.set_cons_succ]
                        refine wpAnyH_take (i := 1) (v := ?_) rfl (by kernel_rfl) (by kernel_rfl) (by kernel_rfl) (fun _ _ _ h => h) (Or.inl ⟨by rfl, ?_⟩) (by assumption) ?_
                        rotate_left
                        · ((intro w0 hSw); (try dsimp only at hSw); go_simp; (try with_reducible rfl))
                        change wpAnyH _ _ _ _ _ _ _ (Act.put _ (some 176) _) _
                        try simp only [Act.put, List.setIfInBounds_toArray, List.set_cons_zero, List.set_cons_succ]
                        refine wpAnyH_take (i := 2) (v := ?_) rfl (by kernel_rfl) (by kernel_rfl) (by kernel_rfl) (fun _ _ _ h => h) (Or.inl ⟨by rfl, ?_⟩) (by assumption) ?_
                        rotate_left
                        · ((intro w0 hSw); (try dsimp only at hSw); go_simp; (try with_reducible rfl))
                        change wpAnyH _ _ _ _ _ _ _ (Act.put _ (some 177) _) _
                        try simp only [Act.put, List.setIfInBounds_toArray, List.set_cons_zero, List.set_cons_succ]
                        refine wpAnyH_take (i := 3) (v := ?_) rfl (by kernel_rfl) (by kernel_rfl) (by kernel_rfl) (fun _ _ _ h => h) (Or.inl ⟨by rfl, ?_⟩) (by assumption) ?_
                        rotate_left
                        · ((intro w0 hSw); (try dsimp only at hSw); go_simp; (try with_reducible rfl))
                        change wpAnyH _ _ _ _ _ _ _ (Act.put _ (some 178) _) _
                        try simp only [Act.put, List.setIfInBounds_toArray, List.set_cons_zero, List.set_cons_succ]
                        refine wpAnyH_take (i := 4) (v := ?_) rfl (by kernel_rfl) (by kernel_rfl) (by kernel_rfl) (fun _ _ _ h => h) (Or.inl ⟨by rfl, ?_⟩) (by assumption) ?_
                        rotate_left
                        · ((intro w0 hSw); (try dsimp only at hSw); go_simp; (try with_reducible rfl))
                        change wpAnyH _ _ _ _ _ _ _ (Act.put _ (some 179) _) _
                        try simp only [Act.put, List.setIfInBounds_toArray, List.set_cons_zero, List.set_cons_succ]
                        refine wpAnyH_take (i := 5) (v := ?_) rfl (by kernel_rfl) (by kernel_rfl) (by kernel_rfl) (fun _ _ _ h => h) (Or.inl ⟨by rfl, ?_⟩) (by assumption) ?_
                        rotate_left
                        · ((intro w0 hSw); (try dsimp only at hSw); go_simp; (try with_reducible rfl))
                        change wpAnyH _ _ _ _ _ _ _ (Act.put _ (some 180) _) _
                        try simp only [Act.put, List.setIfInBounds_toArray, List.set_cons_zero, List.set_cons_succ]
                        refine wpAnyH_take (i := 6) (v := ?_) rfl (by kernel_rfl) (by kernel_rfl) (by kernel_rfl) (fun _ _ _ h => h) (Or.inl ⟨by rfl, ?_⟩) (by assumption) ?_
                        rotate_left
                        · ((intro w0 hSw); (try dsimp only at hSw); go_simp; (try with_reducible rfl))
                        change wpAnyH _ _ _ _ _ _ _ (Act.put _ (some 181) _) _
                        try simp only [Act.put, List.setIfInBounds_toArray, List.set_cons_zero, List.set_cons_succ]
                        refine wpAnyH_take (i := 7) (v := ?_) rfl (by kernel_rfl) (by kernel_rfl) (by kernel_rfl) (fun _ _ _ h => h) (Or.inl ⟨by rfl, ?_⟩) (by assumption) ?_
                        rotate_left
                        · ((intro w0 hSw); (try dsimp only at hSw); go_simp; (try with_reducible rfl))
                        change wpAnyH _ _ _ _ _ _ _ (Act.put _ (some 182) _) _
                        try simp only [Act.put, List.setIfInBounds_toArray, List.set_cons_zero, List.set_cons_succ]
                        refine wpAnyH_take (i := 8) (v := ?_) rfl (by kernel_rfl) (by kernel_rfl) (by kernel_rfl) (fun _ _ _ h => h) (Or.inl ⟨by rfl, ?_⟩) (by assumption) ?_
                        rotate_left
                        · ((intro w0 hSw); (try dsimp only at hSw); go_simp; (try with_reducible rfl))
                        change wpAnyH _ _ _ _ _ _ _ (Act.put _ (some 183) _) _
                        try simp only [Act.put, List.setIfInBounds_toArray, List.set_cons_zero, List.set_cons_succ]
                        refine wpAnyH_ready (rs := [9]) (by kernel_rfl) (by simp) ?_
                        refine AllReadyH.cons rfl (fun K hK => ?_) AllReadyH.nil
                        go_simp
                        go_at_call 19; (with_reducible refine (HSml.out _ _ _ (by with_unfolding_all exact hHeld.1.r0 _ (.tail _ (.tail _ (.head _)))) (by with_unfolding_all exact hHeld.1.r2 _ (.tail _ (.tail _ (.head _))))).mono ?_); rintro e wn ⟨rfl, hbn⟩
                        refine hK.out _ _ ?_ (fun hHeld2 => ?_)
                        · exact (HAll.out _ (hHeld.1.next hbn))
                        clear hK K hHeld
                        have hHeld := hHeld2; clear hHeld2
                        try change wpAnyH _ _ _ _ _ _ _ (Act.put _ (some 184) _) _
                        try simp only [Act.put, List.setIfInBounds_toArray, List.set_cons_zero, List.set_cons_succ]
                        refine wpAnyH_take (i := 10) (v := ?_) rfl (by kernel_rfl) (by kernel_rfl) (by kernel_rfl) (fun _ _ _ h => h) (Or.inl ⟨by rfl, ?_⟩) (by assumption) ?_
                        rotate_left
                        · ((intro w0 hSw); (try dsimp only at hSw); go_simp; (try with_reducible rfl))
                        change wpAnyH _ _ _ _ _ _ _ (Act.put _ (some 185) _) _
                        try simp only [Act.put, List.setIfInBounds_toArray, List.set_cons_zero, List.set_cons_succ]
                        refine wpAnyH_take (i := 11) (v := ?_) rfl (by kernel_rfl) (by kernel_rfl) (by kernel_rfl) (fun _ _ _ h => h) (Or.inl ⟨by rfl, ?_⟩) (by assumption) ?_
                        rotate_left
                        · ((intro w0 hSw); (try dsimp only at hSw); go_simp; (try with_reducible rfl))
                        change wpAnyH _ _ _ _ _ _ _ (Act.put _ (some 186) _) _
                        try simp only [Act.put, List.setIfInBounds_toArray, List.set_cons_zero, List.set_cons_succ]
                        refine wpAnyH_take (i := 12) (v := ?_) rfl (by kernel_rfl) (by kernel_rfl) (by kernel_rfl) (fun _ _ _ h => h) (Or.inl ⟨by rfl, ?_⟩) (by assumption) ?_
                        rotate_left
                        · ((intro w0 hSw); (try dsimp only at hSw); go_simp; (try with_reducible rfl))
                        change wpAnyH _ _ _ _ _ _ _ (Act.put _ (some 187) _) _
                        try simp only [Act.put, List.setIfInBounds_toArray, List.set_cons_zero, List.set_cons_succ]
                        refine wpAnyH_take (i := 13) (v := ?_) rfl (by kernel_rfl) (by kernel_rfl) (by kernel_rfl) (fun _ _ _ h => h) (Or.inl ⟨by rfl, ?_⟩) (by assumption) ?_
                        rotate_left
                        · ((intro w0 hSw); (try dsimp only at hSw); go_simp; (try with_reducible rfl))
                        change wpAnyH _ _ _ _ _ _ _ (Act.put _ (some 188) _) _
                        try simp only [Act.put, List.setIfInBounds_toArray, List.set_cons_zero, List.set_cons_succ]
                        refine wpAnyH_take (i := 14) (v := ?_) rfl (by kernel_rfl) (by kernel_rfl) (by kernel_rfl) (fun _ _ _ h => h) (Or.inl ⟨by rfl, ?_⟩) (by assumption) ?_
                        rotate_left
                        · ((intro w0 hSw); (try dsimp only at hSw); go_simp; (try with_reducible rfl))
                        change wpAnyH _ _ _ _ _ _ _ (Act.put _ (some 189) _) _
                        try simp only [Act.put, List.setIfInBounds_toArray, List.set_cons_zero, List.set_cons_succ]
                        refine wpAnyH_take (i := 15) (v := ?_) rfl (by kernel_rfl) (by kernel_rfl) (by kernel_rfl) (fun _ _ _ h => h) (Or.inl ⟨by rfl, ?_⟩) (by assumption) ?_
                        rotate_left
                        · ((intro w0 hSw); (try dsimp only at hSw); go_simp; (try with_reducible rfl))
                        change wpAnyH _ _ _ _ _ _ _ (Act.put _ (some 190) _) _
                        try simp only [Act.put, List.setIfInBounds_toArray, List.set_cons_zero, List.set_cons_succ]
                        refine wpAnyH_take (i := 16) (v := ?_) rfl (by kernel_rfl) (by kernel_rfl) (by kernel_rfl) (fun _ _ _ h => h) (Or.inl ⟨by rfl, ?_⟩) (by assumption) ?_
                        rotate_left
                        · ((intro w0 hSw); (try dsimp only at hSw); go_simp; (try with_reducible rfl))
                        change wpAnyH _ _ _ _ _ _ _ (Act.put _ (some 191) _) _
                        try simp only [Act.put, List.setIfInBounds_toArray, List.set_cons_zero, List.set_cons_succ]
                        refine wpAnyH_ready (rs := [17]) (by kernel_rfl) (by simp) ?_
                        refine AllReadyH.cons rfl (fun K hK => ?_) AllReadyH.nil
                        go_simp
                        go_at_call 19; (with_reducible refine (HSmo.out _ _ _ (by with_unfolding_all exact hHeld.1.r0 _ (.tail _ (.tail _ (.tail _ (.head _))))) (by with_unfolding_all exact hHeld.1.r2 _ (.tail _ (.tail _ (.tail _ (.head _)))))).mono ?_); rintro e wn ⟨rfl, hbn⟩
                        refine hK.out _ _ ?_ (fun hHeld2 => ?_)
                        · exact (HAll.out _ (hHeld.1.next hbn))
                        clear hK K hHeld
                        have hHeld := hHeld2; clear hHeld2
                        try change wpAnyH _ _ _ _ _ _ _ (Act.put _ (some 192) _) _
                        try simp only [Act.put, List.setIfInBounds_toArray, List.set_cons_zero, List.set_cons_succ]
                        refine wpAnyH_take (i := 18) (v := ?_) rfl (by kernel_rfl) (by kernel_rfl) (by kernel_rfl) (fun _ _ _ h => h) (Or.inl ⟨by rfl, ?_⟩) (by assumption) ?_
                        rotate_left
                        · ((intro w0 hSw); (try dsimp only at hSw); go_simp; (try with_reducible rfl))
                        change wpAnyH _ _ _ _ _ _ _ (Act.put _ (some 193) _) _
                        try simp only [Act.put, List.setIfInBounds_toArray, List.set_cons_zero, List.set_cons_succ]
                        refine wpAnyH_take (i := 19) (v := ?_) rfl (by kernel_rfl) (by kernel_rfl) (by kernel_rfl) (fun _ _ _ h => h) (Or.inl ⟨by rfl, ?_⟩) (by assumption) ?_
                        rotate_left
                        · ((intro w0 hSw); (try dsimp only at hSw); go_simp; (try with_reducible rfl))
                        change wpAnyH _ _ _ _ _ _ _ (Act.put _ (some 194) _) _
                        try simp only [Act.put, List.setIfInBounds_toArray, List.set_cons_zero, List.set_cons_succ]
                        refine wpAnyH_take (i := 20) (v := ?_) rfl (by kernel_rfl) (by kernel_rfl) (by kernel_rfl) (fun _ _ _ h => h) (Or.inl ⟨by rfl, ?_⟩) (by assumption) ?_
                        rotate_left
                        · ((intro w0 hSw); (try dsimp only at hSw); go_simp; (try with_reducible rfl))
                        change wpAnyH _ _ _ _ _ _ _ (Act.put _ (some 195) _) _
                        try simp only [Act.put, List.setIfInBounds_toArray, List.set_cons_zero, List.set_cons_succ]
                        refine wpAnyH_done (by kernel_rfl) ?_ _
                        have HK1 := Lib.hid hHeld.1
                        clear hHeld HK HK0
                        have HK := HK1
                        clear HK1
                        go_wp2_with fail
                        go_meet
                        case rel => exact ⟨rfl, HK.out⟩
                      · have e0 : (En_2 == 0) = false := by simpa using h2
                        clear q1 q2 q3 q4 h2 Q0
                        have HAll : Hid (∀ W, KT w [⟨wz.heap.size, A, (.slice p A.z.length cap), T, (.slice pwr2 T.z.length cwr2), R, (.slice pwr1 R.z.length cwr1)⟩, ⟨wa.heap.size, Ps_0, (.slice as0 Ps_0.z.length ds0), Ps_1, (.slice as1 Ps_1.z.length ds1), Xs_2, (.slice as2 Xs_2.z.length ds2)⟩, ⟨(wa.heap.size + 1), Pl_0, (.slice al0 Pl_0.z.length dl0), Pl_1, (.slice al1 Pl_1.z.length dl1), Xl_2, (.slice al2 Xl_2.z.length dl2)⟩, ⟨(wa.heap.size + 2), Po_0, (.slice ao0 Po_0.z.length do0), Po_1, (.slice ao1 Po_1.z.length do1), Xo_2, (.slice ao2 Xo_2.z.length do2)⟩] [⟨(wa.heap.size + 3), Gs_0, Gs_1, Es_2⟩, ⟨(wa.heap.size + 4), Gl_0, Gl_1, En_2⟩, ⟨(wa.heap.size + 5), Go_0, Go_1, En_2⟩] W → (fun W => KT w [⟨wz.heap.size, A, (.slice p A.z.length cap), T, (.slice pwr2 T.z.length cwr2), R, (.slice pwr1 R.z.length cwr1)⟩, ⟨wa.heap.size, Ps_0, (.slice as0 Ps_0.z.length ds0), Ps_1, (.slice as1 Ps_1.z.length ds1), Xs_2, (.slice as2 Xs_2.z.length ds2)⟩, ⟨(wa.heap.size + 1), Pl_0, (.slice al0 Pl_0.z.length dl0), Pl_1, (.slice al1 Pl_1.z.length dl1), Xl_2, (.slice al2 Xl_2.z.length dl2)⟩, ⟨(wa.heap.size + 2), Po_0, (.slice ao0 Po_0.z.length do0), Po_1, (.slice ao1 Po_1.z.length do1), Xo_2, (.slice ao2 Xo_2.z.length do2)⟩] [⟨(wa.heap.size + 3), Gs_0, Gs_1, Es_2⟩, ⟨(wa.heap.size + 4), Gl_0, Gl_1, En_2⟩, ⟨(wa.heap.size + 5), Go_0, Go_1, En_2⟩] W ∧ W.cell? ⟨(wa.heap.size + 4), 2, none⟩ = some (.int .i64 En_2)) W) := fun W hX => ⟨hX, (hX.e _ (.tail _ (.head _))).c2⟩
                        have HK0 := Lib.hid (HK.out.next (Below.refl _ _).drew)
                        refine wp_region_held_drew (S := (fun W => KT w [⟨wz.heap.size, A, (.slice p A.z.length cap), T, (.slice pwr2 T.z.length cwr2), R, (.slice pwr1 R.z.length cwr1)⟩, ⟨wa.heap.size, Ps_0, (.slice as0 Ps_0.z.length ds0), Ps_1, (.slice as1 Ps_1.z.length ds1), Xs_2, (.slice as2 Xs_2.z.length ds2)⟩, ⟨(wa.heap.size + 1), Pl_0, (.slice al0 Pl_0.z.length dl0), Pl_1, (.slice al1 Pl_1.z.length dl1), Xl_2, (.slice al2 Xl_2.z.length dl2)⟩, ⟨(wa.heap.size + 2), Po_0, (.slice ao0 Po_0.z.length do0), Po_1, (.slice ao1 Po_1.z.length do1), Xo_2, (.slice ao2 Xo_2.z.length do2)⟩] [⟨(wa.heap.size + 3), Gs_0, Gs_1, Es_2⟩, ⟨(wa.heap.size + 4), Gl_0, Gl_1, En_2⟩, ⟨(wa.heap.size + 5), Go_0, Go_1, En_2⟩] W ∧ W.cell? ⟨(wa.heap.size + 4), 2, none⟩ = some (.int .i64 En_2))) (by kernel_rfl) ?_ (fun hHeld => ?_)
                        · exact HAll.out _ HK0.out
                        refine wpAnyH_take (i := 0) (v := ?_) rfl (by kernel_rfl) (by kernel_rfl) (by kernel_rfl) (fun _ _ _ h => h) (Or.inl ⟨by rfl, ?_⟩) (by assumption) ?_
                        rotate_left
                        · ((intro w0 hSw); (try dsimp only at hSw); go_simp; (try with_reducible rfl))
                        change wpAnyH _ _ _ _ _ _ _ (Act.put _ (some 175) _) _
                        try simp only [Act.put, List.setIfInBounds_toArray, List.set_cons_zero, List.set_cons_succ]
                        refine wpAnyH_take (i := 1) (v := ?_) rfl (by kernel_rfl) (by kernel_rfl) (by kernel_rfl) (fun _ _ _ h => h) (Or.inl ⟨by rfl, ?_⟩) (by assumption) ?_
                        rotate_left
                        · ((intro w0 hSw); (try dsimp only at hSw); go_simp; (try with_reducible rfl))
                        change wpAnyH _ _ _ _ _ _ _ (Act.put _ (some 176) _) _
                        try simp only [Act.put, List.setIfInBounds_toArray, List.set_cons_zero, List.set_cons_succ]
                        refine wpAnyH_take (i := 2) (v := ?_) rfl (by kernel_rfl) (by kernel_rfl) (by kernel_rfl) (fun _ _ _ h => h) (Or.inl ⟨by rfl, ?_⟩) (by assumption) ?_
                        rotate_left
                        · ((intro w0 hSw); (try dsimp only at hSw); go_simp; (try with_reducible rfl))
                        change wpAnyH _ _ _ _ _ _ _ (Act.put _ (some 177) _) _
                        try simp only [Act.put, List.setIfInBounds_toArray, List.set_cons_zero, List.set_cons_succ]
                        refine wpAnyH_take (i := 3) (v := ?_) rfl (by kernel_rfl) (by kernel_rfl) (by kernel_rfl) (fun _ _ _ h => h) (Or.inl ⟨by rfl, ?_⟩) (by assumption) ?_
                        rotate_left
                        · ((intro w0 hSw); (try dsimp only at hSw); go_simp; (try with_reducible rfl))
                        change wpAnyH _ _ _ _ _ _ _ (Act.put _ (some 178) _) _
                        try simp only [Act.put, List.setIfInBounds_toArray, List.set_cons_zero, List.set_cons_succ]
                        refine wpAnyH_take (i := 4) (v := undef) rfl (by kernel_rfl) (by kernel_rfl) (by kernel_rfl) (fun _ _ _ h => h) (Or.inr ⟨by rfl, rfl⟩) (by assumption) ?_
                        change wpAnyH _ _ _ _ _ _ _ (Act.put _ (some 179) _) _
                        try simp only [Act.put, List.setIfInBounds_toArray, List.set_cons_zero, List.set_cons_succ]
                        refine wpAnyH_take (i := 5) (v := undef) rfl (by kernel_rfl) (by kernel_rfl) (by kernel_rfl) (fun _ _ _ h => h) (Or.inr ⟨by rfl, rfl⟩) (by assumption) ?_
                        change wpAnyH _ _ _ _ _ _ _ (Act.put _ (some 180) _) _
                        try simp only [Act.put, List.setIfInBounds_toArray, List.set_cons_zero, List.set_cons_succ]
                        refine wpAnyH_take (i := 6) (v := undef) rfl (by kernel_rfl) (by kernel_rfl) (by kernel_rfl) (fun _ _ _ h => h) (Or.inr ⟨by rfl, rfl⟩) (by assumption) ?_
                        change wpAnyH _ _ _ _ _ _ _ (Act.put _ (some 181) _) _
                        try simp only [Act.put, List.setIfInBounds_toArray, List.set_cons_zero, List.set_cons_succ]
                        refine wpAnyH_take (i := 7) (v := undef) rfl (by kernel_rfl) (by kernel_rfl) (by kernel_rfl) (fun _ _ _ h => h) (Or.inr ⟨by rfl, rfl⟩) (by assumption) ?_
                        change wpAnyH _ _ _ _ _ _ _ (Act.put _ (some 182) _) _
                        try simp only [Act.put, List.setIfInBounds_toArray, List.set_cons_zero, List.set_cons_succ]
                        refine wpAnyH_take (i := 8) (v := undef) rfl (by kernel_rfl) (by kernel_rfl) (by kernel_rfl) (fun _ _ _ h => h) (Or.inr ⟨by rfl, rfl⟩) (by assumption) ?_
                        change wpAnyH _ _ _ _ _ _ _ (Act.put _ (some 183) _) _
                        try simp only [Act.put, List.setIfInBounds_toArray, List.set_cons_zero, List.set_cons_succ]
                        refine wpAnyH_take (i := 9) (v := undef) rfl (by kernel_rfl) (by kernel_rfl) (by kernel_rfl) (fun _ _ _ h => h) (Or.inr ⟨by rfl, rfl⟩) (by assumption) ?_
                        change wpAnyH _ _ _ _ _ _ _ (Act.put _ (some 184) _) _
                        try simp only [Act.put, List.setIfInBounds_toArray, List.set_cons_zero, List.set_cons_succ]
                        refine wpAnyH_take (i := 10) (v := undef) rfl (by kernel_rfl) (by kernel_rfl) (by kernel_rfl) (fun _ _ _ h => h) (Or.inr ⟨by rfl, rfl⟩) (by assumption) ?_
                        change wpAnyH _ _ _ _ _ _ _ (Act.put _ (some 185) _) _
                        try simp only [Act.put, List.setIfInBounds_toArray, List.set_cons_zero, List.set_cons_succ]
                        refine wpAnyH_take (i := 11) (v := undef) rfl (by kernel_rfl) (by kernel_rfl) (by kernel_rfl) (fun _ _ _ h => h) (Or.inr ⟨by rfl, rfl⟩) (by assumption) ?_
                        change wpAnyH _ _ _ _ _ _ _ (Act.put _ (some 186) _) _
                        try simp only [Act.put, List.setIfInBounds_toArray, List.set_cons_zero, List.set_cons_succ]
                        refine wpAnyH_take (i := 12) (v := undef) rfl (by kernel_rfl) (by kernel_rfl) (by kernel_rfl) (fun _ _ _ h => h) (Or.inr ⟨by rfl, rfl⟩) (by assumption) ?_
                        change wpAnyH _ _ _ _ _ _ _ (Act.put _ (some 187) _) _
                        try simp only [Act.put, List.setIfInBounds_toArray, List.set_cons_zero, List.set_cons_succ]
                        refine wpAnyH_take (i := 13) (v := undef) rfl (by kernel_rfl) (by kernel_rfl) (by kernel_rfl) (fun _ _ _ h => h) (Or.inr ⟨by rfl, rfl⟩) (by assumption) ?_
                        change wpAnyH _ _ _ _ _ _ _ (Act.put _ (some 188) _) _
                        try simp only [Act.put, List.setIfInBounds_toArray, List.set_cons_zero, List.set_cons_succ]
                        refine wpAnyH_take (i := 14) (v := undef) rfl (by kernel_rfl) (by kernel_rfl) (by kernel_rfl) (fun _ _ _ h => h) (Or.inr ⟨by rfl, rfl⟩) (by assumption) ?_
                        change wpAnyH _ _ _ _ _ _ _ (Act.put _ (some 189) _) _
                        try simp only [Act.put, List.setIfInBounds_toArray, List.set_cons_zero, List.set_cons_succ]
                        refine wpAnyH_take (i := 15) (v := undef) rfl (by kernel_rfl) (by kernel_rfl) (by kernel_rfl) (fun _ _ _ h => h) (Or.inr ⟨by rfl, rfl⟩) (by assumption) ?_
                        change wpAnyH _ _ _ _ _ _ _ (Act.put _ (some 190) _) _
                        try simp only [Act.put, List.setIfInBounds_toArray, List.set_cons_zero, List.set_cons_succ]
                        refine wpAnyH_take (i := 16) (v := undef) rfl (by kernel_rfl) (by kernel_rfl) (by kernel_rfl) (fun _ _ _ h => h) (Or.inr ⟨by rfl, rfl⟩) (by assumption) ?_
                        change wpAnyH _ _ _ _ _ _ _ (Act.put _ (some 191) _) _
                        try simp only [Act.put, List.setIfInBounds_toArray, List.set_cons_zero, List.set_cons_succ]
                        refine wpAnyH_take (i := 17) (v := undef) rfl (by kernel_rfl) (by kernel_rfl) (by kernel_rfl) (fun _ _ _ h => h) (Or.inr ⟨by rfl, rfl⟩) (by assumption) ?_
                        change wpAnyH _ _ _ _ _ _ _ (Act.put _ (some 192) _) _
                        try simp only [Act.put, List.setIfInBounds_toArray, List.set_cons_zero, List.set_cons_succ]
                        refine wpAnyH_take (i := 18) (v := undef) rfl (by kernel_rfl) (by kernel_rfl) (by kernel_rfl) (fun _ _ _ h => h) (Or.inr ⟨by rfl, rfl⟩) (by assumption) ?_
                        change wpAnyH _ _ _ _ _ _ _ (Act.put _ (some 193) _) _
                        try simp only [Act.put, List.setIfInBounds_toArray, List.set_cons_zero, List.set_cons_succ]
                        refine wpAnyH_take (i := 19) (v := undef) rfl (by kernel_rfl) (by kernel_rfl) (by kernel_rfl) (fun _ _ _ h => h) (Or.inr ⟨by rfl, rfl⟩) (by assumption) ?_
                        change wpAnyH _ _ _ _ _ _ _ (Act.put _ (some 194) _) _
                        try simp only [Act.put, List.setIfInBounds_toArray, List.set_cons_zero, List.set_cons_succ]
                        refine wpAnyH_take (i := 20) (v := ?_) rfl (by kernel_rfl) (by kernel_rfl) (by kernel_rfl) (fun _ _ _ h => h) (Or.inl ⟨by rfl, ?_⟩) (by assumption) ?_
                        rotate_left
                        · ((intro w0 hSw); (try dsimp only at hSw); go_simp; (try with_reducible rfl))
                        change wpAnyH _ _ _ _ _ _ _ (Act.put _ (some 195) _) _
                        try simp only [Act.put, List.setIfInBounds_toArray, List.set_cons_zero, List.set_cons_succ]
                        refine wpAnyH_done (by kernel_rfl) ?_ _
                        have HK1 := Lib.hid hHeld.1
                        clear hHeld HK HK0
                        have HK := HK1
                        clear HK1
                        go_wp2_with fail
                        go_meet
                        case rel => exact ⟨rfl, HK.out⟩
                  case rest =>
                    obtain ⟨rfl, hk⟩ := hcut
                    clear HK
                    have HK := Lib.hid hk
                    clear hk
                    go_wp2_with fail
                    go_roundg 1
                    case measure => omega
                    case rel => exact .inr (.inl ⟨rfl, by go_num, HK.out⟩)
            · have HK := Lib.hid hk
              clear hk Q0 HAw
              go_upto_region 24 with fail
              go_cut [156] (fun s wx => s = .bool false ∧ KT w [⟨wz.heap.size, A, (.slice p A.z.length cap), T, (.slice pwr2 T.z.length cwr2), R, (.slice pwr1 R.z.length cwr1)⟩, ⟨wa.heap.size, Ps_0, (.slice as0 Ps_0.z.length ds0), Ps_1, (.slice as1 Ps_1.z.length ds1), Xs_2, (.slice as2 Xs_2.z.length ds2)⟩, ⟨(wa.heap.size + 1), Pl_0, (.slice al0 Pl_0.z.length dl0), Pl_1, (.slice al1 Pl_1.z.length dl1), Xl_2, (.slice al2 Xl_2.z.length dl2)⟩, ⟨(wa.heap.size + 2), Po_0, (.slice ao0 Po_0.z.length do0), Po_1, (.slice ao1 Po_1.z.length do1), Xo_2, (.slice ao2 Xo_2.z.length do2)⟩] [⟨(wa.heap.size + 3), Gs_0, Gs_1, Es_2⟩, ⟨(wa.heap.size + 4), Gl_0, Gl_1, En_2⟩, ⟨(wa.heap.size + 5), Go_0, Go_1, En_2⟩] wx)
              case first =>
                as_aux_lemma =>
                  by_cases h1 : Gs_1 = 0
                  · have e1 : (Gs_1 == 0) = true := by simpa using h1
                    by_cases h2 : Es_2 = 0
                    · have e2 : (Es_2 == 0) = true := by simpa using h2
                      have HSms : Hid (∀ v u W, RdI W.heap.size W v Ps_1.z → RdI W.heap.size W u Xs_2.z → Calls Tryd.prog 19 #[A5 Ps_1.k Ps_1.r Ps_1.a Ps_1.b v, A5 Xs_2.k Xs_2.r Xs_2.a Xs_2.b u] W fun e w' => e = .returned (.bool true) ∧ Below W.heap.size W w') := by
                        intro v u W g1 g2
                        have h := Q1.out.1 h1 h2
                        rw [h] at g1 ⊢
                        exact same_eq _ _ _ _ _ v u W g1 g2 Ns.out
                      clear Q1 h1 h2
                      have HAll : Hid (∀ W, KT w [⟨wz.heap.size, A, (.slice p A.z.length cap), T, (.slice pwr2 T.z.length cwr2), R, (.slice pwr1 R.z.length cwr1)⟩, ⟨wa.heap.size, Ps_0, (.slice as0 Ps_0.z.length ds0), Ps_1, (.slice as1 Ps_1.z.length ds1), Xs_2, (.slice as2 Xs_2.z.length ds2)⟩, ⟨(wa.heap.size + 1), Pl_0, (.slice al0 Pl_0.z.length dl0), Pl_1, (.slice al1 Pl_1.z.length dl1), Xl_2, (.slice al2 Xl_2.z.length dl2)⟩, ⟨(wa.heap.size + 2), Po_0, (.slice ao0 Po_0.z.length do0), Po_1, (.slice ao1 Po_1.z.length do1), Xo_2, (.slice ao2 Xo_2.z.length do2)⟩] [⟨(wa.heap.size + 3), Gs_0, Gs_1, Es_2⟩, ⟨(wa.heap.size + 4), Gl_0, Gl_1, En_2⟩, ⟨(wa.heap.size + 5), Go_0, Go_1, En_2⟩] W → (fun W => KT w [⟨wz.heap.size, A, (.slice p A.z.length cap), T, (.slice pwr2 T.z.length cwr2), R, (.slice pwr1 R.z.length cwr1)⟩, ⟨wa.heap.size, Ps_0, (.slice as0 Ps_0.z.length ds0), Ps_1, (.slice as1 Ps_1.z.length ds1), Xs_2, (.slice as2 Xs_2.z.length ds2)⟩, ⟨(wa.heap.size + 1), Pl_0, (.slice al0 Pl_0.z.length dl0), Pl_1, (.slice al1 Pl_1.z.length dl1), Xl_2, (.slice al2 Xl_2.z.length dl2)⟩, ⟨(wa.heap.size + 2), Po_0, (.slice ao0 Po_0.z.length do0), Po_1, (.slice ao1 Po_1.z.length do1), Xo_2, (.slice ao2 Xo_2.z.length do2)⟩] [⟨(wa.heap.size + 3), Gs_0, Gs_1, Es_2⟩, ⟨(wa.heap.size + 4), Gl_0, Gl_1, En_2⟩, ⟨(wa.heap.size + 5), Go_0, Go_1, En_2⟩] W ∧ W.cell? ⟨(wa.heap.size + 3), 1, none⟩ = some (.int .i64 Gs_1) ∧ W.cell? ⟨(wa.heap.size + 3), 2, none⟩ = some (.int .i64 Es_2) ∧ W.cell? ⟨wa.heap.size, 5, none⟩ = some (.int .i64 Ps_1.k) ∧ W.cell? ⟨wa.heap.size, 6, none⟩ = some (.int .i64 Ps_1.r) ∧ W.cell? ⟨wa.heap.size, 7, none⟩ = some (.int .i64 Ps_1.a) ∧ W.cell? ⟨wa.heap.size, 8, none⟩ = some (.int .i64 Ps_1.b) ∧ W.cell? ⟨wa.heap.size, 9, none⟩ = some ((.slice as1 Ps_1.z.length ds1)) ∧ W.cell? ⟨wa.heap.size, 10, none⟩ = some (.int .i64 Xs_2.k) ∧ W.cell? ⟨wa.heap.size, 11, none⟩ = some (.int .i64 Xs_2.r) ∧ W.cell? ⟨wa.heap.size, 12, none⟩ = some (.int .i64 Xs_2.a) ∧ W.cell? ⟨wa.heap.size, 13, none⟩ = some (.int .i64 Xs_2.b) ∧ W.cell? ⟨wa.heap.size, 14, none⟩ = some ((.slice as2 Xs_2.z.length ds2))) W) := fun W hX => ⟨hX, (hX.e _ (.head _)).c1, (hX.e _ (.head _)).c2, (hX.b _ (.tail _ (.head _))).c5, (hX.b _ (.tail _ (.head _))).c6, (hX.b _ (.tail _ (.head _))).c7, (hX.b _ (.tail _ (.head _))).c8, (hX.b _ (.tail _ (.head _))).c9, (hX.b _ (.tail _ (.head _))).c10, (hX.b _ (.tail _ (.head _))).c11, (hX.b _ (.tail _ (.head _))).c12, (hX.b _ (.tail _ (.head _))).c13, (hX.b _ (.tail _ (.head _))).c14⟩
                      have HK0 := Lib.hid (HK.out.next (Below.refl _ _).drew)
                      refine wp_region_held_drew (S := (fun W => KT w [⟨wz.heap.size, A, (.slice p A.z.length cap), T, (.slice pwr2 T.z.length cwr2), R, (.slice pwr1 R.z.length cwr1)⟩, ⟨wa.heap.size, Ps_0, (.slice as0 Ps_0.z.length ds0), Ps_1, (.slice as1 Ps_1.z.length ds1), Xs_2, (.slice as2 Xs_2.z.length ds2)⟩, ⟨(wa.heap.size + 1), Pl_0, (.slice al0 Pl_0.z.length dl0), Pl_1, (.slice al1 Pl_1.z.length dl1), Xl_2, (.slice al2 Xl_2.z.length dl2)⟩, ⟨(wa.heap.size + 2), Po_0, (.slice ao0 Po_0.z.length do0), Po_1, (.slice ao1 Po_1.z.length do1), Xo_2, (.slice ao2 Xo_2.z.length do2)⟩] [⟨(wa.heap.size + 3), Gs_0, Gs_1, Es_2⟩, ⟨(wa.heap.size + 4), Gl_0, Gl_1, En_2⟩, ⟨(wa.heap.size + 5), Go_0, Go_1, En_2⟩] W ∧ W.cell? ⟨(wa.heap.size + 3), 1, none⟩ = some (.int .i64 Gs_1) ∧ W.cell? ⟨(wa.heap.size + 3), 2, none⟩ = some (.int .i64 Es_2) ∧ W.cell? ⟨wa.heap.size, 5, none⟩ = some (.int .i64 Ps_1.k) ∧ W.cell? ⟨wa.heap.size, 6, none⟩ = some (.int .i64 Ps_1.r) ∧ W.cell? ⟨wa.heap.size, 7, none⟩ = some (.int .i64 Ps_1.a) ∧ W.cell? ⟨wa.heap.size, 8, none⟩ = some (.int .i64 Ps_1.b) ∧ W.cell? ⟨wa.heap.size, 9, none⟩ = some ((.slice as1 Ps_1.z.length ds1)) ∧ W.cell? ⟨wa.heap.size, 10, none⟩ = some (.int .i64 Xs_2.k) ∧ W.cell? ⟨wa.heap.size, 11, none⟩ = some (.int .i64 Xs_2.r) ∧ W.cell? ⟨wa.heap.size, 12, none⟩ = some (.int .i64 Xs_2.a) ∧ W.cell? ⟨wa.heap.size, 13, none⟩ = some (.int .i64 Xs_2.b) ∧ W.cell? ⟨wa.heap.size, 14, none⟩ = some ((.slice as2 Xs_2.z.length ds2)))) (by kernel_rfl) ?_ (fun hHeld => ?_)
                      · exact HAll.out _ HK0.out
                      refine wpAnyH_take (i := 0) (v := ?_) rfl (by kernel_rfl) (by kernel_rfl) (by kernel_rfl) (fun _ _ _ h => h) (Or.inl ⟨by rfl, ?_⟩) (by assumption) ?_
                      rotate_left
                      · ((intro w0 hSw); (try dsimp only at hSw); go_simp; (try with_reducible rfl))
                      change wpAnyH _ _ _ _ _ _ _ (Act.put _ (some 139) _) _
                      try simp only [Act.put, List.setIfInBounds_toArray, List.set_cons_zero, List.set_cons_succ]
                      refine wpAnyH_take (i := 1) (v := ?_) rfl (by kernel_rfl) (by kernel_rfl) (by kernel_rfl) (fun _ _ _ h => h) (Or.inl ⟨by rfl, ?_⟩) (by assumption) ?_
                      rotate_left
                      · ((intro w0 hSw); (try dsimp only at hSw); go_simp; (try with_reducible rfl))
                      change wpAnyH _ _ _ _ _ _ _ (Act.put _ (some 140) _) _
                      try simp only [Act.put, List.setIfInBounds_toArray, List.set_cons_zero, List.set_cons_succ]
                      refine wpAnyH_take (i := 2) (v := ?_) rfl (by kernel_rfl) (by kernel_rfl) (by kernel_rfl) (fun _ _ _ h => h) (Or.inl ⟨by rfl, ?_⟩) (by assumption) ?_
                      rotate_left
                      · ((intro w0 hSw); (try dsimp only at hSw); go_simp; (try with_reducible rfl))
                      change wpAnyH _ _ _ _ _ _ _ (Act.put _ (some 141) _) _
                      try simp only [Act.put, List.setIfInBounds_toArray, List.set_cons_zero, List.set_cons_succ]
                      refine wpAnyH_take (i := 3) (v := ?_) rfl (by kernel_rfl) (by kernel_rfl) (by kernel_rfl) (fun _ _ _ h => h) (Or.inl ⟨by rfl, ?_⟩) (by assumption) ?_
                      rotate_left
                      · ((intro w0 hSw); (try dsimp only at hSw); go_simp; (try with_reducible rfl))
                      change wpAnyH _ _ _ _ _ _ _ (Act.put _ (some 142) _) _
                      try simp only [Act.put, List.setIfInBounds_toArray, List.set_cons_zero, List.set_cons_succ]
                      refine wpAnyH_take (i := 4) (v := ?_) rfl (by kernel_rfl) (by kernel_rfl) (by kernel_rfl) (fun _ _ _ h => h) (Or.inl ⟨by rfl, ?_⟩) (by assumption) ?_
                      rotate_left
                      · ((intro w0 hSw); (try dsimp only at hSw); go_simp; (try with_reducible rfl))
                      change wpAnyH _ _ _ _ _ _ _ (Act.put _ (some 143) _) _
                      try simp only [Act.put, List.setIfInBounds_toArray, List.set_cons_zero, List.set_cons_succ]
                      refine wpAnyH_take (i := 5) (v := ?_) rfl (by kernel_rfl) (by kernel_rfl) (by kernel_rfl) (fun _ _ _ h => h) (Or.inl ⟨by rfl, ?_⟩) (by assumption) ?_
                      rotate_left
                      · ((intro w0 hSw); (try dsimp only at hSw); go_simp; (try with_reducible rfl))
                      change wpAnyH _ _ _ _ _ _ _ (Act.put _ (some 144) _) _
                      try simp only [Act.put, List.setIfInBounds_toArray, List.set_cons_zero, List.set_cons_succ]
                      refine wpAnyH_take (i := 6) (v := ?_) rfl (by kernel_rfl) (by kernel_rfl) (by kernel_rfl) (fun _ _ _ h => h) (Or.inl ⟨by rfl, ?_⟩) (by assumption) ?_
                      rotate_left
                      · ((intro w0 hSw); (try dsimp only at hSw); go_simp; (try with_reducible rfl))
                      change wpAnyH _ _ _ _ _ _ _ (Act.put _ (some 145) _) _
                      try simp only [Act.put, List.setIfInBounds_toArray, List.set_cons_zero, List.set_cons_succ]
                      refine wpAnyH_take (i := 7) (v := ?_) rfl (by kernel_rfl) (by kernel_rfl) (by kernel_rfl) (fun _ _ _ h => h) (Or.inl ⟨by rfl, ?_⟩) (by assumption) ?_
                      rotate_left
                      · ((intro w0 hSw); (try dsimp only at hSw); go_simp; (try with_reducible rfl))
                      change wpAnyH _ _ _ _ _ _ _ (Act.put _ (some 146) _) _
                      try simp only [Act.put, List.setIfInBounds_toArray, List.set_cons_zero, List.set_cons_succ]
                      refine wpAnyH_take (i := 8) (v := ?_) rfl (by kernel_rfl) (by kernel_rfl) (by kernel_rfl) (fun _ _ _ h => h) (Or.inl ⟨by rfl, ?_⟩) (by assumption) ?_
                      rotate_left
                      · ((intro w0 hSw); (try dsimp only at hSw); go_simp; (try with_reducible rfl))
                      change wpAnyH _ _ _ _ _ _ _ (Act.put _ (some 147) _) _
                      try simp only [Act.put, List.setIfInBounds_toArray, List.set_cons_zero, List.set_cons_succ]
                      refine wpAnyH_take (i := 9) (v := ?_) rfl (by kernel_rfl) (by kernel_rfl) (by kernel_rfl) (fun _ _ _ h => h) (Or.inl ⟨by rfl, ?_⟩) (by assumption) ?_
                      rotate_left
                      · ((intro w0 hSw); (try dsimp only at hSw); go_simp; (try with_reducible rfl))
                      change wpAnyH _ _ _ _ _ _ _ (Act.put _ (some 148) _) _
                      try simp only [Act.put, List.setIfInBounds_toArray, List.set_cons_zero, List.set_cons_succ]
                      refine wpAnyH_take (i := 10) (v := ?_) rfl (by kernel_rfl) (by kernel_rfl) (by kernel_rfl) (fun _ _ _ h => h) (Or.inl ⟨by rfl, ?_⟩) (by assumption) ?_
                      rotate_left
                      · ((intro w0 hSw); (try dsimp only at hSw); go_simp; (try with_reducible rfl))
                      change wpAnyH _ _ _ _ _ _ _ (Act.put _ (some 149) _) _
                      try simp only [Act.put, List.setIfInBounds_toArray, List.set_cons_zero, List.set_cons_succ]
                      refine wpAnyH_take (i := 11) (v := ?_) rfl (by kernel_rfl) (by kernel_rfl) (by kernel_rfl) (fun _ _ _ h => h) (Or.inl ⟨by rfl, ?_⟩) (by assumption) ?_
                      rotate_left
                      · ((intro w0 hSw); (try dsimp only at hSw); go_simp; (try with_reducible rfl))
                      change wpAnyH _ _ _ _ _ _ _ (Act.put _ (some 150) _) _
                      try simp only [Act.put, List.setIfInBounds_toArray, List.set_cons_zero, List.set_cons_succ]
                      refine wpAnyH_take (i := 12) (v := ?_) rfl (by kernel_rfl) (by kernel_rfl) (by kernel_rfl) (fun _ _ _ h => h) (Or.inl ⟨by rfl, ?_⟩) (by assumption) ?_
                      rotate_left
                      · ((intro w0 hSw); (try dsimp only at hSw); go_simp; (try with_reducible rfl))
                      change wpAnyH _ _ _ _ _ _ _ (Act.put _ (some 151) _) _
                      try simp only [Act.put, List.setIfInBounds_toArray, List.set_cons_zero, List.set_cons_succ]
                      refine wpAnyH_take (i := 13) (v := ?_) rfl (by kernel_rfl) (by kernel_rfl) (by kernel_rfl) (fun _ _ _ h => h) (Or.inl ⟨by rfl, ?_⟩) (by assumption) ?_
                      rotate_left
                      · ((intro w0 hSw); (try dsimp only at hSw); go_simp; (try with_reducible rfl))
                      change wpAnyH _ _ _ _ _ _ _ (Act.put _ (some 152) _) _
                      try simp only [Act.put, List.setIfInBounds_toArray, List.set_cons_zero, List.set_cons_succ]
                      refine wpAnyH_take (i := 14) (v := ?_) rfl (by kernel_rfl) (by kernel_rfl) (by kernel_rfl) (fun _ _ _ h => h) (Or.inl ⟨by rfl, ?_⟩) (by assumption) ?_
                      rotate_left
                      · ((intro w0 hSw); (try dsimp only at hSw); go_simp; (try with_reducible rfl))
                      change wpAnyH _ _ _ _ _ _ _ (Act.put _ (some 153) _) _
                      try simp only [Act.put, List.setIfInBounds_toArray, List.set_cons_zero, List.set_cons_succ]
                      refine wpAnyH_ready (rs := [15]) (by kernel_rfl) (by simp) ?_
                      refine AllReadyH.cons rfl (fun K hK => ?_) AllReadyH.nil
                      go_simp
                      go_at_call 19; (with_reducible refine (HSms.out _ _ _ (by with_unfolding_all exact hHeld.1.r1 _ (.tail _ (.head _))) (by with_unfolding_all exact hHeld.1.r2 _ (.tail _ (.head _)))).mono ?_); rintro e wn ⟨rfl, hbn⟩
                      refine hK.out _ _ ?_ (fun hHeld2 => ?_)
                      · exact (HAll.out _ (hHeld.1.next hbn))
                      clear hK K hHeld
                      have hHeld := hHeld2; clear hHeld2
                      try change wpAnyH _ _ _ _ _ _ _ (Act.put _ (some 154) _) _
                      try simp only [Act.put, List.setIfInBounds_toArray, List.set_cons_zero, List.set_cons_succ]
                      refine wpAnyH_take (i := 16) (v := ?_) rfl (by kernel_rfl) (by kernel_rfl) (by kernel_rfl) (fun _ _ _ h => h) (Or.inl ⟨by rfl, ?_⟩) (by assumption) ?_
                      rotate_left
                      · ((intro w0 hSw); (try dsimp only at hSw); go_simp; (try with_reducible rfl))
                      change wpAnyH _ _ _ _ _ _ _ (Act.put _ (some 155) _) _
                      try simp only [Act.put, List.setIfInBounds_toArray, List.set_cons_zero, List.set_cons_succ]
                      refine wpAnyH_take (i := 17) (v := ?_) rfl (by kernel_rfl) (by kernel_rfl) (by kernel_rfl) (fun _ _ _ h => h) (Or.inl ⟨by rfl, ?_⟩) (by assumption) ?_
                      rotate_left
                      · ((intro w0 hSw); (try dsimp only at hSw); go_simp; (try with_reducible rfl))
                      change wpAnyH _ _ _ _ _ _ _ (Act.put _ (some 156) _) _
                      try simp only [Act.put, List.setIfInBounds_toArray, List.set_cons_zero, List.set_cons_succ]
                      refine wpAnyH_done (by kernel_rfl) ?_ _
                      have HK1 := Lib.hid hHeld.1
                      clear hHeld HK HK0
                      have HK := HK1
                      clear HK1
                      go_wp2_with fail
                      go_meet
                      case rel => exact ⟨rfl, HK.out⟩
                    · have e2 : (Es_2 == 0) = false := by simpa using h2
                      clear Q1 h1 h2
                      have HAll : Hid (∀ W, KT w [⟨wz.heap.size, A, (.slice p A.z.length cap), T, (.slice pwr2 T.z.length cwr2), R, (.slice pwr1 R.z.length cwr1)⟩, ⟨wa.heap.size, Ps_0, (.slice as0 Ps_0.z.length ds0), Ps_1, (.slice as1 Ps_1.z.length ds1), Xs_2, (.slice as2 Xs_2.z.length ds2)⟩, ⟨(wa.heap.size + 1), Pl_0, (.slice al0 Pl_0.z.length dl0), Pl_1, (.slice al1 Pl_1.z.length dl1), Xl_2, (.slice al2 Xl_2.z.length dl2)⟩, ⟨(wa.heap.size + 2), Po_0, (.slice ao0 Po_0.z.length do0), Po_1, (.slice ao1 Po_1.z.length do1), Xo_2, (.slice ao2 Xo_2.z.length do2)⟩] [⟨(wa.heap.size + 3), Gs_0, Gs_1, Es_2⟩, ⟨(wa.heap.size + 4), Gl_0, Gl_1, En_2⟩, ⟨(wa.heap.size + 5), Go_0, Go_1, En_2⟩] W → (fun W => KT w [⟨wz.heap.size, A, (.slice p A.z.length cap), T, (.slice pwr2 T.z.length cwr2), R, (.slice pwr1 R.z.length cwr1)⟩, ⟨wa.heap.size, Ps_0, (.slice as0 Ps_0.z.length ds0), Ps_1, (.slice as1 Ps_1.z.length ds1), Xs_2, (.slice as2 Xs_2.z.length ds2)⟩, ⟨(wa.heap.size + 1), Pl_0, (.slice al0 Pl_0.z.length dl0), Pl_1, (.slice al1 Pl_1.z.length dl1), Xl_2, (.slice al2 Xl_2.z.length dl2)⟩, ⟨(wa.heap.size + 2), Po_0, (.slice ao0 Po_0.z.length do0), Po_1, (.slice ao1 Po_1.z.length do1), Xo_2, (.slice ao2 Xo_2.z.length do2)⟩] [⟨(wa.heap.size + 3), Gs_0, Gs_1, Es_2⟩, ⟨(wa.heap.size + 4), Gl_0, Gl_1, En_2⟩, ⟨(wa.heap.size + 5), Go_0, Go_1, En_2⟩] W ∧ W.cell? ⟨(wa.heap.size + 3), 1, none⟩ = some (.int .i64 Gs_1) ∧ W.cell? ⟨(wa.heap.size + 3), 2, none⟩ = some (.int .i64 Es_2)) W) := fun W hX => ⟨hX, (hX.e _ (.head _)).c1, (hX.e _ (.head _)).c2⟩
                      have HK0 := Lib.hid (HK.out.next (Below.refl _ _).drew)
                      refine wp_region_held_drew (S := (fun W => KT w [⟨wz.heap.size, A, (.slice p A.z.length cap), T, (.slice pwr2 T.z.length cwr2), R, (.slice pwr1 R.z.length cwr1)⟩, ⟨wa.heap.size, Ps_0, (.slice as0 Ps_0.z.length ds0), Ps_1, (.slice as1 Ps_1.z.length ds1), Xs_2, (.slice as2 Xs_2.z.length ds2)⟩, ⟨(wa.heap.size + 1), Pl_0, (.slice al0 Pl_0.z.length dl0), Pl_1, (.slice al1 Pl_1.z.length dl1), Xl_2, (.slice al2 Xl_2.z.length dl2)⟩, ⟨(wa.heap.size + 2), Po_0, (.slice ao0 Po_0.z.length do0), Po_1, (.slice ao1 Po_1.z.length do1), Xo_2, (.slice ao2 Xo_2.z.length do2)⟩] [⟨(wa.heap.size + 3), Gs_0, Gs_1, Es_2⟩, ⟨(wa.heap.size + 4), Gl_0, Gl_1, En_2⟩, ⟨(wa.heap.size + 5), Go_0, Go_1, En_2⟩] W ∧ W.cell? ⟨(wa.heap.size + 3), 1, none⟩ = some (.int .i64 Gs_1) ∧ W.cell? ⟨(wa.heap.size + 3), 2, none⟩ = some (.int .i64 Es_2))) (by kernel_rfl) ?_ (fun hHeld => ?_)
                      · exact HAll.out _ HK0.out
                      refine wpAnyH_take (i := 0) (v := ?_) rfl (by kernel_rfl) (by kernel_rfl) (by kernel_rfl) (fun _ _ _ h => h) (Or.inl ⟨by rfl, ?_⟩) (by assumption) ?_
                      rotate_left
                      · ((intro w0 hSw); (try dsimp only at hSw); go_simp; (try with_reducible rfl))
                      change wpAnyH _ _ _ _ _ _ _ (Act.put _ (some 139) _) _
                      try simp only [Act.put, List.setIfInBounds_toArray, List.set_cons_zero, List.set_cons_succ]
                      refine wpAnyH_take (i := 1) (v := ?_) rfl (by kernel_rfl) (by kernel_rfl) (by kernel_rfl) (fun _ _ _ h => h) (Or.inl ⟨by rfl, ?_⟩) (by assumption) ?_
                      rotate_left
                      · ((intro w0 hSw); (try dsimp only at hSw); go_simp; (try with_reducible rfl))
                      change wpAnyH _ _ _ _ _ _ _ (Act.put _ (some 140) _) _
                      try simp only [Act.put, List.setIfInBounds_toArray, List.set_cons_zero, List.set_cons_succ]
                      refine wpAnyH_take (i := 2) (v := ?_) rfl (by kernel_rfl) (by kernel_rfl) (by kernel_rfl) (fun _ _ _ h => h) (Or.inl ⟨by rfl, ?_⟩) (by assumption) ?_
                      rotate_left
                      · ((intro w0 hSw); (try dsimp only at hSw); go_simp; (try with_reducible rfl))
                      change wpAnyH _ _ _ _ _ _ _ (Act.put _ (some 141) _) _
                      try simp only [Act.put, List.setIfInBounds_toArray, List.set_cons_zero, List.set_cons_succ]
                      refine wpAnyH_take (i := 3) (v := ?_) rfl (by kernel_rfl) (by kernel_rfl) (by kernel_rfl) (fun _ _ _ h => h) (Or.inl ⟨by rfl, ?_⟩) (by assumption) ?_
                      rotate_left
                      · ((intro w0 hSw); (try dsimp only at hSw); go_simp; (try with_reducible rfl))
                      change wpAnyH _ _ _ _ _ _ _ (Act.put _ (some 142) _) _
                      try simp only [Act.put, List.setIfInBounds_toArray, List.set_cons_zero, List.set_cons_succ]
                      refine wpAnyH_take (i := 4) (v := ?_) rfl (by kernel_rfl) (by kernel_rfl) (by kernel_rfl) (fun _ _ _ h => h) (Or.inl ⟨by rfl, ?_⟩) (by assumption) ?_
                      rotate_left
                      · ((intro w0 hSw); (try dsimp only at hSw); go_simp; (try with_reducible rfl))
                      change wpAnyH _ _ _ _ _ _ _ (Act.put _ (some 143) _) _
                      try simp only [Act.put, List.setIfInBounds_toArray, List.set_cons_zero, List.set_cons_succ]
                      refine wpAnyH_take (i := 5) (v := ?_) rfl (by kernel_rfl) (by kernel_rfl) (by kernel_rfl) (fun _ _ _ h => h) (Or.inl ⟨by rfl, ?_⟩) (by assumption) ?_
                      rotate_left
                      · ((intro w0 hSw); (try dsimp only at hSw); go_simp; (try with_reducible rfl))
                      change wpAnyH _ _ _ _ _ _ _ (Act.put _ (some 144) _) _
                      try simp only [Act.put, List.setIfInBounds_toArray, List.set_cons_zero, List.set_cons_succ]
                      refine wpAnyH_take (i := 6) (v := ?_) rfl (by kernel_rfl) (by kernel_rfl) (by kernel_rfl) (fun _ _ _ h => h) (Or.inl ⟨by rfl, ?_⟩) (by assumption) ?_
                      rotate_left
                      · ((intro w0 hSw); (try dsimp only at hSw); go_simp; (try with_reducible rfl))
                      change wpAnyH _ _ _ _ _ _ _ (Act.put _ (some 145) _) _
                      try simp only [Act.put, List.setIfInBounds_toArray, List.set_cons_zero, List.set_cons_succ]
                      refine wpAnyH_take (i := 7) (v := ?_) rfl (by kernel_rfl) (by kernel_rfl) (by kernel_rfl) (fun _ _ _ h => h) (Or.inl ⟨by rfl, ?_⟩) (by assumption) ?_
                      rotate_left
                      · ((intro w0 hSw); (try dsimp only at hSw); go_simp; (try with_reducible rfl))
                      change wpAnyH _ _ _ _ _ _ _ (Act.put _ (some 146) _) _
                      try simp only [Act.put, List.setIfInBounds_toArray, List.set_cons_zero, List.set_cons_succ]
                      refine wpAnyH_take (i := 8) (v := ?_) rfl (by kernel_rfl) (by kernel_rfl) (by kernel_rfl) (fun _ _ _ h => h) (Or.inl ⟨by rfl, ?_⟩) (by assumption) ?_
                      rotate_left
                      · ((intro w0 hSw); (try dsimp only at hSw); go_simp; (try with_reducible rfl))
                      change wpAnyH _ _ _ _ _ _ _ (Act.put _ (some 147) _) _
                      try simp only [Act.put, List.setIfInBounds_toArray, List.set_cons_zero, List.set_cons_succ]
                      refine wpAnyH_take (i := 9) (v := ?_) rfl (by kernel_rfl) (by kernel_rfl) (by kernel_rfl) (fun _ _ _ h => h) (Or.inl ⟨by rfl, ?_⟩) (by assumption) ?_
                      rotate_left
                      · ((intro w0 hSw); (try dsimp only at hSw); go_simp; (try with_reducible rfl))
                      change wpAnyH _ _ _ _ _ _ _ (Act.put _ (some 148) _) _
                      try simp only [Act.put, List.setIfInBounds_toArray, List.set_cons_zero, List.set_cons_succ]
                      refine wpAnyH_take (i := 10) (v := undef) rfl (by kernel_rfl) (by kernel_rfl) (by kernel_rfl) (fun _ _ _ h => h) (Or.inr ⟨by rfl, rfl⟩) (by assumption) ?_
                      change wpAnyH _ _ _ _ _ _ _ (Act.put _ (some 149) _) _
                      try simp only [Act.put, List.setIfInBounds_toArray, List.set_cons_zero, List.set_cons_succ]
                      refine wpAnyH_take (i := 11) (v := undef) rfl (by kernel_rfl) (by kernel_rfl) (by kernel_rfl) (fun _ _ _ h => h) (Or.inr ⟨by rfl, rfl⟩) (by assumption) ?_
                      change wpAnyH _ _ _ _ _ _ _ (Act.put _ (some 150) _) _
                      try simp only [Act.put, List.setIfInBounds_toArray, List.set_cons_zero, List.set_cons_succ]
                      refine wpAnyH_take (i := 12) (v := undef) rfl (by kernel_rfl) (by kernel_rfl) (by kernel_rfl) (fun _ _ _ h => h) (Or.inr ⟨by rfl, rfl⟩) (by assumption) ?_
                      change wpAnyH _ _ _ _ _ _ _ (Act.put _ (some 151) _) _
                      try simp only [Act.put, List.setIfInBounds_toArray, List.set_cons_zero, List.set_cons_succ]
                      refine wpAnyH_take (i := 13) (v := undef) rfl (by kernel_rfl) (by kernel_rfl) (by kernel_rfl) (fun _ _ _ h => h) (Or.inr ⟨by rfl, rfl⟩) (by assumption) ?_
                      change wpAnyH _ _ _ _ _ _ _ (Act.put _ (some 152) _) _
                      try simp only [Act.put, List.setIfInBounds_toArray, List.set_cons_zero, List.set_cons_succ]
                      refine wpAnyH_take (i := 14) (v := undef) rfl (by kernel_rfl) (by kernel_rfl) (by kernel_rfl) (fun _ _ _ h => h) (Or.inr ⟨by rfl, rfl⟩) (by assumption) ?_
                      change wpAnyH _ _ _ _ _ _ _ (Act.put _ (some 153) _) _
                      try simp only [Act.put, List.setIfInBounds_toArray, List.set_cons_zero, List.set_cons_succ]
                      refine wpAnyH_take (i := 15) (v := undef) rfl (by kernel_rfl) (by kernel_rfl) (by kernel_rfl) (fun _ _ _ h => h) (Or.inr ⟨by rfl, rfl⟩) (by assumption) ?_
                      change wpAnyH _ _ _ _ _ _ _ (Act.put _ (some 154) _) _
                      try simp only [Act.put, List.setIfInBounds_toArray, List.set_cons_zero, List.set_cons_succ]
                      refine wpAnyH_take (i := 16) (v := undef) rfl (by kernel_rfl) (by kernel_rfl) (by kernel_rfl) (fun _ _ _ h => h) (Or.inr ⟨by rfl, rfl⟩) (by assumption) ?_
                      change wpAnyH _ _ _ _ _ _ _ (Act.put _ (some 155) _) _
                      try simp only [Act.put, List.setIfInBounds_toArray, List.set_cons_zero, List.set_cons_succ]
                      refine wpAnyH_take (i := 17) (v := ?_) rfl (by kernel_rfl) (by kernel_rfl) (by kernel_rfl) (fun _ _ _ h => h) (Or.inl ⟨by rfl, ?_⟩) (by assumption) ?_
                      rotate_left
                      · ((intro w0 hSw); (try dsimp only at hSw); go_simp; (try with_reducible rfl))
                      change wpAnyH _ _ _ _ _ _ _ (Act.put _ (some 156) _) _
                      try simp only [Act.put, List.setIfInBounds_toArray, List.set_cons_zero, List.set_cons_succ]
                      refine wpAnyH_done (by kernel_rfl) ?_ _
                      have HK1 := Lib.hid hHeld.1
                      clear hHeld HK HK0
                      have HK := HK1
                      clear HK1
                      go_wp2_with fail
                      go_meet
                      case rel => exact ⟨rfl, HK.out⟩
                  · have e1 : (Gs_1 == 0) = false := by simpa using h1
                    clear Q1 h1
                    have HAll : Hid (∀ W, KT w [⟨wz.heap.size, A, (.slice p A.z.length cap), T, (.slice pwr2 T.z.length cwr2), R, (.slice pwr1 R.z.length cwr1)⟩, ⟨wa.heap.size, Ps_0, (.slice as0 Ps_0.z.length ds0), Ps_1, (.slice as1 Ps_1.z.length ds1), Xs_2, (.slice as2 Xs_2.z.length ds2)⟩, ⟨(wa.heap.size + 1), Pl_0, (.slice al0 Pl_0.z.length dl0), Pl_1, (.slice al1 Pl_1.z.length dl1), Xl_2, (.slice al2 Xl_2.z.length dl2)⟩, ⟨(wa.heap.size + 2), Po_0, (.slice ao0 Po_0.z.length do0), Po_1, (.slice ao1 Po_1.z.length do1), Xo_2, (.slice ao2 Xo_2.z.length do2)⟩] [⟨(wa.heap.size + 3), Gs_0, Gs_1, Es_2⟩, ⟨(wa.heap.size + 4), Gl_0, Gl_1, En_2⟩, ⟨(wa.heap.size + 5), Go_0, Go_1, En_2⟩] W → (fun W => KT w [⟨wz.heap.size, A, (.slice p A.z.length cap), T, (.slice pwr2 T.z.length cwr2), R, (.slice pwr1 R.z.length cwr1)⟩, ⟨wa.heap.size, Ps_0, (.slice as0 Ps_0.z.length ds0), Ps_1, (.slice as1 Ps_1.z.length ds1), Xs_2, (.slice as2 Xs_2.z.length ds2)⟩, ⟨(wa.heap.size + 1), Pl_0, (.slice al0 Pl_0.z.length dl0), Pl_1, (.slice al1 Pl_1.z.length dl1), Xl_2, (.slice al2 Xl_2.z.length dl2)⟩, ⟨(wa.heap.size + 2), Po_0, (.slice ao0 Po_0.z.length do0), Po_1, (.slice ao1 Po_1.z.length do1), Xo_2, (.slice ao2 Xo_2.z.length do2)⟩] [⟨(wa.heap.size + 3), Gs_0, Gs_1, Es_2⟩, ⟨(wa.heap.size + 4), Gl_0, Gl_1, En_2⟩, ⟨(wa.heap.size + 5), Go_0, Go_1, En_2⟩] W ∧ W.cell? ⟨(wa.heap.size + 3), 1, none⟩ = some (.int .i64 Gs_1)) W) := fun W hX => ⟨hX, (hX.e _ (.head _)).c1⟩
                    have HK0 := Lib.hid (HK.out.next (Below.refl _ _).drew)
                    refine wp_region_held_drew (S := (fun W => KT w [⟨wz.heap.size, A, (.slice p A.z.length cap), T, (.slice pwr2 T.z.length cwr2), R, (.slice pwr1 R.z.length cwr1)⟩, ⟨wa.heap.size, Ps_0, (.slice as0 Ps_0.z.length ds0), Ps_1, (.slice as1 Ps_1.z.length ds1), Xs_2, (.slice as2 Xs_2.z.length ds2)⟩, ⟨(wa.heap.size + 1), Pl_0, (.slice al0 Pl_0.z.length dl0), Pl_1, (.slice al1 Pl_1.z.length dl1), Xl_2, (.slice al2 Xl_2.z.length dl2)⟩, ⟨(wa.heap.size + 2), Po_0, (.slice ao0 Po_0.z.length do0), Po_1, (.slice ao1 Po_1.z.length do1), Xo_2, (.slice ao2 Xo_2.z.length do2)⟩] [⟨(wa.heap.size + 3), Gs_0, Gs_1, Es_2⟩, ⟨(wa.heap.size + 4), Gl_0, Gl_1, En_2⟩, ⟨(wa.heap.size + 5), Go_0, Go_1, En_2⟩] W ∧ W.cell? ⟨(wa.heap.size + 3), 1, none⟩ = some (.int .i64 Gs_1))) (by kernel_rfl) ?_ (fun hHeld => ?_)
                    · exact HAll.out _ HK0.out
                    refine wpAnyH_take (i := 0) (v := ?_) rfl (by kernel_rfl) (by kernel_rfl) (by kernel_rfl) (fun _ _ _ h => h) (Or.inl ⟨by rfl, ?_⟩) (by assumption) ?_
                    rotate_left
                    · ((intro w0 hSw); (try dsimp only at hSw); go_simp; (try with_reducible rfl))
                    change wpAnyH _ _ _ _ _ _ _ (Act.put _ (some 139) _) _
                    try simp only [Act.put, List.setIfInBounds_toArray, List.set_cons_zero, List.set_cons_succ]
                    refine wpAnyH_take (i := 1) (v := ?_) rfl (by kernel_rfl) (by kernel_rfl) (by kernel_rfl) (fun _ _ _ h => h) (Or.inl ⟨by rfl, ?_⟩) (by assumption) ?_
                    rotate_left
                    · ((intro w0 hSw); (try dsimp only at hSw); go_simp; (try with_reducible rfl))
                    change wpAnyH _ _ _ _ _ _ _ (Act.put _ (some 140) _) _
                    try simp only [Act.put, List.setIfInBounds_toArray, List.set_cons_zero, List.set_cons_succ]
                    refine wpAnyH_take (i := 2) (v := ?_) rfl (by kernel_rfl) (by kernel_rfl) (by kernel_rfl) (fun _ _ _ h => h) (Or.inl ⟨by rfl, ?_⟩) (by assumption) ?_
                    rotate_left
                    · ((intro w0 hSw); (try dsimp only at hSw); go_simp; (try with_reducible rfl))
                    change wpAnyH _ _ _ _ _ _ _ (Act.put _ (some 141) _) _
                    try simp only [Act.put, List.setIfInBounds_toArray, List.set_cons_zero, List.set_cons_succ]
                    refine wpAnyH_take (i := 3) (v := ?_) rfl (by kernel_rfl) (by kernel_rfl) (by kernel_rfl) (fun _ _ _ h => h) (Or.inl ⟨by rfl, ?_⟩) (by assumption) ?_
                    rotate_left
                    · ((intro w0 hSw); (try dsimp only at hSw); go_simp; (try with_reducible rfl))
                    change wpAnyH _ _ _ _ _ _ _ (Act.put _ (some 142) _) _
                    try simp only [Act.put, List.setIfInBounds_toArray, List.set_cons_zero, List.set_cons_succ]
                    refine wpAnyH_take (i := 4) (v := ?_) rfl (by kernel_rfl) (by kernel_rfl) (by kernel_rfl) (fun _ _ _ h => h) (Or.inl ⟨by rfl, ?_⟩) (by assumption) ?_
                    rotate_left
                    · ((intro w0 hSw); (try dsimp only at hSw); go_simp; (try with_reducible rfl))
                    change wpAnyH _ _ _ _ _ _ _ (Act.put _ (some 143) _) _
                    try simp only [Act.put, List.setIfInBounds_toArray, List.set_cons_zero, List.set_cons_succ]
                    refine wpAnyH_take (i := 5) (v := undef) rfl (by kernel_rfl) (by kernel_rfl) (by kernel_rfl) (fun _ _ _ h => h) (Or.inr ⟨by rfl, rfl⟩) (by assumption) ?_
                    change wpAnyH _ _ _ _ _ _ _ (Act.put _ (some 144) _) _
                    try simp only [Act.put, List.setIfInBounds_toArray, List.set_cons_zero, List.set_cons_succ]
                    refine wpAnyH_take (i := 6) (v := undef) rfl (by kernel_rfl) (by kernel_rfl) (by kernel_rfl) (fun _ _ _ h => h) (Or.inr ⟨by rfl, rfl⟩) (by assumption) ?_
                    change wpAnyH _ _ _ _ _ _ _ (Act.put _ (some 145) _) _
                    try simp only [Act.put, List.setIfInBounds_toArray, List.set_cons_zero, List.set_cons_succ]
                    refine wpAnyH_take (i := 7) (v := undef) rfl (by kernel_rfl) (by kernel_rfl) (by kernel_rfl) (fun _ _ _ h => h) (Or.inr ⟨by rfl, rfl⟩) (by assumption) ?_
                    change wpAnyH _ _ _ _ _ _ _ (Act.put _ (some 146) _) _
                    try simp only [Act.put, List.setIfInBounds_toArray, List.set_cons_zero, List.set_cons_succ]
                    refine wpAnyH_take (i := 8) (v := ?_) rfl (by kernel_rfl) (by kernel_rfl) (by kernel_rfl) (fun _ _ _ h => h) (Or.inl ⟨by rfl, ?_⟩) (by assumption) ?_
                    rotate_left
                    · ((intro w0 hSw); (try dsimp only at hSw); go_simp; (try with_reducible rfl))
                    change wpAnyH _ _ _ _ _ _ _ (Act.put _ (some 147) _) _
                    try simp only [Act.put, List.setIfInBounds_toArray, List.set_cons_zero, List.set_cons_succ]
                    refine wpAnyH_take (i := 9) (v := ?_) rfl (by kernel_rfl) (by kernel_rfl) (by kernel_rfl) (fun _ _ _ h => h) (Or.inl ⟨by rfl, ?_⟩) (by assumption) ?_
                    rotate_left
                    · ((intro w0 hSw); (try dsimp only at hSw); go_simp; (try with_reducible rfl))
                    change wpAnyH _ _ _ _ _ _ _ (Act.put _ (some 148) _) _
                    try simp only [Act.put, List.setIfInBounds_toArray, List.set_cons_zero, List.set_cons_succ]
                    refine wpAnyH_take (i := 10) (v := undef) rfl (by kernel_rfl) (by kernel_rfl) (by kernel_rfl) (fun _ _ _ h => h) (Or.inr ⟨by rfl, rfl⟩) (by assumption) ?_
                    change wpAnyH _ _ _ _ _ _ _ (Act.put _ (some 149) _) _
                    try simp only [Act.put, List.setIfInBounds_toArray, List.set_cons_zero, List.set_cons_succ]
                    refine wpAnyH_take (i := 11) (v := undef) rfl (by kernel_rfl) (by kernel_rfl) (by kernel_rfl) (fun _ _ _ h => h) (Or.inr ⟨by rfl, rfl⟩) (by assumption) ?_
                    change wpAnyH _ _ _ _ _ _ _ (Act.put _ (some 150) _) _
                    try simp only [Act.put, List.setIfInBounds_toArray, List.set_cons_zero, List.set_cons_succ]
                    refine wpAnyH_take (i := 12) (v := undef) rfl (by kernel_rfl) (by kernel_rfl) (by kernel_rfl) (fun _ _ _ h => h) (Or.inr ⟨by rfl, rfl⟩) (by assumption) ?_
                    change wpAnyH _ _ _ _ _ _ _ (Act.put _ (some 151) _) _
                    try simp only [Act.put, List.setIfInBounds_toArray, List.set_cons_zero, List.set_cons_succ]
                    refine wpAnyH_take (i := 13) (v := undef) rfl (by kernel_rfl) (by kernel_rfl) (by kernel_rfl) (fun _ _ _ h => h) (Or.inr ⟨by rfl, rfl⟩) (by assumption) ?_
                    change wpAnyH _ _ _ _ _ _ _ (Act.put _ (some 152) _) _
                    try simp only [Act.put, List.setIfInBounds_toArray, List.set_cons_zero, List.set_cons_succ]
                    refine wpAnyH_take (i := 14) (v := undef) rfl (by kernel_rfl) (by kernel_rfl) (by kernel_rfl) (fun _ _ _ h => h) (Or.inr ⟨by rfl, rfl⟩) (by assumption) ?_
                    change wpAnyH _ _ _ _ _ _ _ (Act.put _ (some 153) _) _
                    try simp only [Act.put, List.setIfInBounds_toArray, List.set_cons_zero, List.set_cons_succ]
                    refine wpAnyH_take (i := 15) (v := undef) rfl (by kernel_rfl) (by kernel_rfl) (by kernel_rfl) (fun _ _ _ h => h) (Or.inr ⟨by rfl, rfl⟩) (by assumption) ?_
                    change wpAnyH _ _ _ _ _ _ _ (Act.put _ (some 154) _) _
                    try simp only [Act.put, List.setIfInBounds_toArray, List.set_cons_zero, List.set_cons_succ]
                    refine wpAnyH_take (i := 16) (v := undef) rfl (by kernel_rfl) (by kernel_rfl) (by kernel_rfl) (fun _ _ _ h => h) (Or.inr ⟨by rfl, rfl⟩) (by assumption) ?_
                    change wpAnyH _ _ _ _ _ _ _ (Act.put _ (some 155) _) _
                    try simp only [Act.put, List.setIfInBounds_toArray, List.set_cons_zero, List.set_cons_succ]
                    refine wpAnyH_take (i := 17) (v := ?_) rfl (by kernel_rfl) (by kernel_rfl) (by kernel_rfl) (fun _ _ _ h => h) (Or.inl ⟨by rfl, ?_⟩) (by assumption) ?_
                    rotate_left
                    · ((intro w0 hSw); (try dsimp only at hSw); go_simp; (try with_reducible rfl))
                    change wpAnyH _ _ _ _ _ _ _ (Act.put _ (some 156) _) _
                    try simp only [Act.put, List.setIfInBounds_toArray, List.set_cons_zero, List.set_cons_succ]
                    refine wpAnyH_done (by kernel_rfl) ?_ _
                    have HK1 := Lib.hid hHeld.1
                    clear hHeld HK HK0
                    have HK := HK1
                    clear HK1
                    go_wp2_with fail
                    go_meet
                    case rel => exact ⟨rfl, HK.out⟩
              case rest =>
                obtain ⟨rfl, hk⟩ := hcut
                clear HK
                have HK := Lib.hid hk
                clear hk
                go_upto_region 26 with fail
                go_cut [174] (fun s wx => s = .bool false ∧ KT w [⟨wz.heap.size, A, (.slice p A.z.length cap), T, (.slice pwr2 T.z.length cwr2), R, (.slice pwr1 R.z.length cwr1)⟩, ⟨wa.heap.size, Ps_0, (.slice as0 Ps_0.z.length ds0), Ps_1, (.slice as1 Ps_1.z.length ds1), Xs_2, (.slice as2 Xs_2.z.length ds2)⟩, ⟨(wa.heap.size + 1), Pl_0, (.slice al0 Pl_0.z.length dl0), Pl_1, (.slice al1 Pl_1.z.length dl1), Xl_2, (.slice al2 Xl_2.z.length dl2)⟩, ⟨(wa.heap.size + 2), Po_0, (.slice ao0 Po_0.z.length do0), Po_1, (.slice ao1 Po_1.z.length do1), Xo_2, (.slice ao2 Xo_2.z.length do2)⟩] [⟨(wa.heap.size + 3), Gs_0, Gs_1, Es_2⟩, ⟨(wa.heap.size + 4), Gl_0, Gl_1, En_2⟩, ⟨(wa.heap.size + 5), Go_0, Go_1, En_2⟩] wx)
                case first =>
                  as_aux_lemma =>
                    obtain ⟨_, ⟨q1, _⟩, ⟨q2, _⟩⟩ := Q1.out
                    by_cases h2 : En_2 = 0
                    · have e0 : (En_2 == 0) = true := by simpa using h2
                      have e1 : (Gl_1 == 0) = true := by simpa using q1.2 h2
                      have e2 : (Go_1 == 0) = true := by simpa using q2.2 h2
                      clear q1 q2 h2 Q1
                      have HAll : Hid (∀ W, KT w [⟨wz.heap.size, A, (.slice p A.z.length cap), T, (.slice pwr2 T.z.length cwr2), R, (.slice pwr1 R.z.length cwr1)⟩, ⟨wa.heap.size, Ps_0, (.slice as0 Ps_0.z.length ds0), Ps_1, (.slice as1 Ps_1.z.length ds1), Xs_2, (.slice as2 Xs_2.z.length ds2)⟩, ⟨(wa.heap.size + 1), Pl_0, (.slice al0 Pl_0.z.length dl0), Pl_1, (.slice al1 Pl_1.z.length dl1), Xl_2, (.slice al2 Xl_2.z.length dl2)⟩, ⟨(wa.heap.size + 2), Po_0, (.slice ao0 Po_0.z.length do0), Po_1, (.slice ao1 Po_1.z.length do1), Xo_2, (.slice ao2 Xo_2.z.length do2)⟩] [⟨(wa.heap.size + 3), Gs_0, Gs_1, Es_2⟩, ⟨(wa.heap.size + 4), Gl_0, Gl_1, En_2⟩, ⟨(wa.heap.size + 5), Go_0, Go_1, En_2⟩] W → (fun W => KT w [⟨wz.heap.size, A, (.slice p A.z.length cap), T, (.slice pwr2 T.z.length cwr2), R, (.slice pwr1 R.z.length cwr1)⟩, ⟨wa.heap.size, Ps_0, (.slice as0 Ps_0.z.length ds0), Ps_1, (.slice as1 Ps_1.z.length ds1), Xs_2, (.slice as2 Xs_2.z.length ds2)⟩, ⟨(wa.heap.size + 1), Pl_0, (.slice al0 Pl_0.z.length dl0), Pl_1, (.slice al1 Pl_1.z.length dl1), Xl_2, (.slice al2 Xl_2.z.length dl2)⟩, ⟨(wa.heap.size + 2), Po_0, (.slice ao0 Po_0.z.length do0), Po_1, (.slice ao1 Po_1.z.length do1), Xo_2, (.slice ao2 Xo_2.z.length do2)⟩] [⟨(wa.heap.size + 3), Gs_0, Gs_1, Es_2⟩, ⟨(wa.heap.size + 4), Gl_0, Gl_1, En_2⟩, ⟨(wa.heap.size + 5), Go_0, Go_1, En_2⟩] W ∧ W.cell? ⟨(wa.heap.size + 4), 1, none⟩ = some (.int .i64 Gl_1) ∧ W.cell? ⟨(wa.heap.size + 4), 2, none⟩ = some (.int .i64 En_2) ∧ W.cell? ⟨(wa.heap.size + 5), 1, none⟩ = some (.int .i64 Go_1) ∧ W.cell? ⟨(wa.heap.size + 5), 2, none⟩ = some (.int .i64 En_2)) W) := fun W hX => ⟨hX, (hX.e _ (.tail _ (.head _))).c1, (hX.e _ (.tail _ (.head _))).c2, (hX.e _ (.tail _ (.tail _ (.head _)))).c1, (hX.e _ (.tail _ (.tail _ (.head _)))).c2⟩
                      have HK0 := Lib.hid (HK.out.next (Below.refl _ _).drew)
                      refine wp_region_held_drew (S := (fun W => KT w [⟨wz.heap.size, A, (.slice p A.z.length cap), T, (.slice pwr2 T.z.length cwr2), R, (.slice pwr1 R.z.length cwr1)⟩, ⟨wa.heap.size, Ps_0, (.slice as0 Ps_0.z.length ds0), Ps_1, (.slice as1 Ps_1.z.length ds1), Xs_2, (.slice as2 Xs_2.z.length ds2)⟩, ⟨(wa.heap.size + 1), Pl_0, (.slice al0 Pl_0.z.length dl0), Pl_1, (.slice al1 Pl_1.z.length dl1), Xl_2, (.slice al2 Xl_2.z.length dl2)⟩, ⟨(wa.heap.size + 2), Po_0, (.slice ao0 Po_0.z.length do0), Po_1, (.slice ao1 Po_1.z.length do1), Xo_2, (.slice ao2 Xo_2.z.length do2)⟩] [⟨(wa.heap.size + 3), Gs_0, Gs_1, Es_2⟩, ⟨(wa.heap.size + 4), Gl_0, Gl_1, En_2⟩, ⟨(wa.heap.size + 5), Go_0, Go_1, En_2⟩] W ∧ W.cell? ⟨(wa.heap.size + 4), 1, none⟩ = some (.int .i64 Gl_1) ∧ W.cell? ⟨(wa.heap.size + 4), 2, none⟩ = some (.int .i64 En_2) ∧ W.cell? ⟨(wa.heap.size + 5), 1, none⟩ = some (.int .i64 Go_1) ∧ W.cell? ⟨(wa.heap.size + 5), 2, none⟩ = some (.int .i64 En_2))) (by kernel_rfl) ?_ (fun hHeld => ?_)
                      · exact HAll.out _ HK0.out
                      refine wpAnyH_take (i := 0) (v := ?_) rfl (by kernel_rfl) (by kernel_rfl) (by kernel_rfl) (fun _ _ _ h => h) (Or.inl ⟨by rfl, ?_⟩) (by assumption) ?_
                      rotate_left
                      · ((intro w0 hSw); (try dsimp only at hSw); go_simp; (try with_reducible rfl))
                      change wpAnyH _ _ _ _ _ _ _ (Act.put _ (some 157) _) _
                      try simp only [Act.put, List.setIfInBounds_toArray, List.set_cons_zero, List.set_cons_succ]
                      refine wpAnyH_take (i := 1) (v := ?_) rfl (by kernel_rfl) (by kernel_rfl) (by kernel_rfl) (fun _ _ _ h => h) (Or.inl ⟨by rfl, ?_⟩) (by assumption) ?_
                      rotate_left
                      · ((intro w0 hSw); (try dsimp only at hSw); go_simp; (try with_reducible rfl))
                      change wpAnyH _ _ _ _ _ _ _ (Act.put _ (some 158) _) _
                      try simp only [Act.put, List.setIfInBounds_toArray, List.set_cons_zero, List.set_cons_succ]
                      refine wpAnyH_take (i := 2) (v := ?_) rfl (by kernel_rfl) (by kernel_rfl) (by kernel_rfl) (fun _ _ _ h => h) (Or.inl ⟨by rfl, ?_⟩) (by assumption) ?_
                      rotate_left
                      · ((intro w0 hSw); (try dsimp only at hSw); go_simp; (try with_reducible rfl))
                      change wpAnyH _ _ _ _ _ _ _ (Act.put _ (some 159) _) _
                      try simp only [Act.put, List.setIfInBounds_toArray, List.set_cons_zero, List.set_cons_succ]
                      refine wpAnyH_take (i := 3) (v := ?_) rfl (by kernel_rfl) (by kernel_rfl) (by kernel_rfl) (fun _ _ _ h => h) (Or.inl ⟨by rfl, ?_⟩) (by assumption) ?_
                      rotate_left
                      · ((intro w0 hSw); (try dsimp only at hSw); go_simp; (try with_reducible rfl))
                      change wpAnyH _ _ _ _ _ _ _ (Act.put _ (some 160) _) _
                      try simp only [Act.put, List.setIfInBounds_toArray, List.set_cons_zero, List.set_cons_succ]
                      refine wpAnyH_take (i := 4) (v := ?_) rfl (by kernel_rfl) (by kernel_rfl) (by kernel_rfl) (fun _ _ _ h => h) (Or.inl ⟨by rfl, ?_⟩) (by assumption) ?_
                      rotate_left
                      · ((intro w0 hSw); (try dsimp only at hSw); go_simp; (try with_reducible rfl))
                      change wpAnyH _ _ _ _ _ _ _ (Act.put _ (some 161) _) _
                      try simp only [Act.put, List.setIfInBounds_toArray, List.set_cons_zero, List.set_cons_succ]
                      refine wpAnyH_take (i := 5) (v := ?_) rfl (by kernel_rfl) (by kernel_rfl) (by kernel_rfl) (fun _ _ _ h => h) (Or.inl ⟨by rfl, ?_⟩) (by assumption) ?_
                      rotate_left
                      · ((intro w0 hSw); (try dsimp only at hSw); go_simp; (try with_reducible rfl))
                      change wpAnyH _ _ _ _ _ _ _ (Act.put _ (some 162) _) _
                      try simp only [Act.put, List.setIfInBounds_toArray, List.set_cons_zero, List.set_cons_succ]
                      refine wpAnyH_take (i := 6) (v := ?_) rfl (by kernel_rfl) (by kernel_rfl) (by kernel_rfl) (fun _ _ _ h => h) (Or.inl ⟨by rfl, ?_⟩) (by assumption) ?_
                      rotate_left
                      · ((intro w0 hSw); (try dsimp only at hSw); go_simp; (try with_reducible rfl))
                      change wpAnyH _ _ _ _ _ _ _ (Act.put _ (some 163) _) _
                      try simp only [Act.put, List.setIfInBounds_toArray, List.set_cons_zero, List.set_cons_succ]
                      refine wpAnyH_take (i := 7) (v := ?_) rfl (by kernel_rfl) (by kernel_rfl) (by kernel_rfl) (fun _ _ _ h => h) (Or.inl ⟨by rfl, ?_⟩) (by assumption) ?_
                      rotate_left
                      · ((intro w0 hSw); (try dsimp only at hSw); go_simp; (try with_reducible rfl))
                      change wpAnyH _ _ _ _ _ _ _ (Act.put _ (some 164) _) _
                      try simp only [Act.put, List.setIfInBounds_toArray, List.set_cons_zero, List.set_cons_succ]
                      refine wpAnyH_take (i := 8) (v := ?_) rfl (by kernel_rfl) (by kernel_rfl) (by kernel_rfl) (fun _ _ _ h => h) (Or.inl ⟨by rfl, ?_⟩) (by assumption) ?_
                      rotate_left
                      · ((intro w0 hSw); (try dsimp only at hSw); go_simp; (try with_reducible rfl))
                      change wpAnyH _ _ _ _ _ _ _ (Act.put _ (some 165) _) _
                      try simp only [Act.put, List.setIfInBounds_toArray, List.set_cons_zero, List.set_cons_succ]
                      refine wpAnyH_take (i := 9) (v := ?_) rfl (by kernel_rfl) (by kernel_rfl) (by kernel_rfl) (fun _ _ _ h => h) (Or.inl ⟨by rfl, ?_⟩) (by assumption) ?_
                      rotate_left
                      · ((intro w0 hSw); (try dsimp only at hSw); go_simp; (try with_reducible rfl))
                      change wpAnyH _ _ _ _ _ _ _ (Act.put _ (some 166) _) _
                      try simp only [Act.put, List.setIfInBounds_toArray, List.set_cons_zero, List.set_cons_succ]
                      refine wpAnyH_take (i := 10) (v := ?_) rfl (by kernel_rfl) (by kernel_rfl) (by kernel_rfl) (fun _ _ _ h => h) (Or.inl ⟨by rfl, ?_⟩) (by assumption) ?_
                      rotate_left
                      · ((intro w0 hSw); (try dsimp only at hSw); go_simp; (try with_reducible rfl))
                      change wpAnyH _ _ _ _ _ _ _ (Act.put _ (some 167) _) _
                      try simp only [Act.put, List.setIfInBounds_toArray, List.set_cons_zero, List.set_cons_succ]
                      refine wpAnyH_take (i := 11) (v := ?_) rfl (by kernel_rfl) (by kernel_rfl) (by kernel_rfl) (fun _ _ _ h => h) (Or.inl ⟨by rfl, ?_⟩) (by assumption) ?_
                      rotate_left
                      · ((intro w0 hSw); (try dsimp only at hSw); go_simp; (try with_reducible rfl))
                      change wpAnyH _ _ _ _ _ _ _ (Act.put _ (some 168) _) _
                      try simp only [Act.put, List.setIfInBounds_toArray, List.set_cons_zero, List.set_cons_succ]
                      refine wpAnyH_take (i := 12) (v := ?_) rfl (by kernel_rfl) (by kernel_rfl) (by kernel_rfl) (fun _ _ _ h => h) (Or.inl ⟨by rfl, ?_⟩) (by assumption) ?_
                      rotate_left
                      · ((intro w0 hSw); (try dsimp only at hSw); go_simp; (try with_reducible rfl))
                      change wpAnyH _ _ _ _ _ _ _ (Act.put _ (some 169) _) _
                      try simp only [Act.put, List.setIfInBounds_toArray, List.set_cons_zero, List.set_cons_succ]
                      refine wpAnyH_take (i := 13) (v := ?_) rfl (by kernel_rfl) (by kernel_rfl) (by kernel_rfl) (fun _ _ _ h => h) (Or.inl ⟨by rfl, ?_⟩) (by assumption) ?_
                      rotate_left
                      · ((intro w0 hSw); (try dsimp only at hSw); go_simp; (try with_reducible rfl))
                      change wpAnyH _ _ _ _ _ _ _ (Act.put _ (some 170) _) _
                      try simp only [Act.put, List.setIfInBounds_toArray, List.set_cons_zero, List.set_cons_succ]
                      refine wpAnyH_take (i := 14) (v := ?_) rfl (by kernel_rfl) (by kernel_rfl) (by kernel_rfl) (fun _ _ _ h => h) (Or.inl ⟨by rfl, ?_⟩) (by assumption) ?_
                      rotate_left
                      · ((intro w0 hSw); (try dsimp only at hSw); go_simp; (try with_reducible rfl))
                      change wpAnyH _ _ _ _ _ _ _ (Act.put _ (some 171) _) _
                      try simp only [Act.put, List.setIfInBounds_toArray, List.set_cons_zero, List.set_cons_succ]
                      refine wpAnyH_take (i := 15) (v := ?_) rfl (by kernel_rfl) (by kernel_rfl) (by kernel_rfl) (fun _ _ _ h => h) (Or.inl ⟨by rfl, ?_⟩) (by assumption) ?_
                      rotate_left
                      · ((intro w0 hSw); (try dsimp only at hSw); go_simp; (try with_reducible rfl))
                      change wpAnyH _ _ _ _ _ _ _ (Act.put _ (some 172) _) _
                      try simp only [Act.put, List.setIfInBounds_toArray, List.set_cons_zero, List.set_cons_succ]
                      refine wpAnyH_take (i := 16) (v := ?_) rfl (by kernel_rfl) (by kernel_rfl) (by kernel_rfl) (fun _ _ _ h => h) (Or.inl ⟨by rfl, ?_⟩) (by assumption) ?_
                      rotate_left
                      · ((intro w0 hSw); (try dsimp only at hSw); go_simp; (try with_reducible rfl))
                      change wpAnyH _ _ _ _ _ _ _ (Act.put _ (some 173) _) _
                      try simp only [Act.put, List.setIfInBounds_toArray, List.set_cons_zero, List.set_cons_succ]
                      refine wpAnyH_take (i := 17) (v := ?_) rfl (by kernel_rfl) (by kernel_rfl) (by kernel_rfl) (fun _ _ _ h => h) (Or.inl ⟨by rfl, ?_⟩) (by assumption) ?_
                      rotate_left
                      · ((intro w0 hSw); (try dsimp only at hSw); go_simp; (try with_reducible rfl))
                      change wpAnyH _ _ _ _ _ _ _ (Act.put _ (some 174) _) _
                      try simp only [Act.put, List.setIfInBounds_toArray, List.set_cons_zero, List.set_cons_succ]
                      refine wpAnyH_done (by kernel_rfl) ?_ _
                      have HK1 := Lib.hid hHeld.1
                      clear hHeld HK HK0
                      have HK := HK1
                      clear HK1
                      go_wp2_with fail
                      go_meet
                      case rel => exact ⟨rfl, HK.out⟩
                    · have e0 : (En_2 == 0) = false := by simpa using h2
                      have e1 : (Gl_1 == 0) = false := by simpa using fun h => h2 (q1.1 h)
                      have e2 : (Go_1 == 0) = false := by simpa using fun h => h2 (q2.1 h)
                      clear q1 q2 h2 Q1
                      have HAll : Hid (∀ W, KT w [⟨wz.heap.size, A, (.slice p A.z.length cap), T, (.slice pwr2 T.z.length cwr2), R, (.slice pwr1 R.z.length cwr1)⟩, ⟨wa.heap.size, Ps_0, (.slice as0 Ps_0.z.length ds0), Ps_1, (.slice as1 Ps_1.z.length ds1), Xs_2, (.slice as2 Xs_2.z.length ds2)⟩, ⟨(wa.heap.size + 1), Pl_0, (.slice al0 Pl_0.z.length dl0), Pl_1, (.slice al1 Pl_1.z.length dl1), Xl_2, (.slice al2 Xl_2.z.length dl2)⟩, ⟨(wa.heap.size + 2), Po_0, (.slice ao0 Po_0.z.length do0), Po_1, (.slice ao1 Po_1.z.length do1), Xo_2, (.slice ao2 Xo_2.z.length do2)⟩] [⟨(wa.heap.size + 3), Gs_0, Gs_1, Es_2⟩, ⟨(wa.heap.size + 4), Gl_0, Gl_1, En_2⟩, ⟨(wa.heap.size + 5), Go_0, Go_1, En_2⟩] W → (fun W => KT w [⟨wz.heap.size, A, (.slice p A.z.length cap), T, (.slice pwr2 T.z.length cwr2), R, (.slice pwr1 R.z.length cwr1)⟩, ⟨wa.heap.size, Ps_0, (.slice as0 Ps_0.z.length ds0), Ps_1, (.slice as1 Ps_1.z.length ds1), Xs_2, (.slice as2 Xs_2.z.length ds2)⟩, ⟨(wa.heap.size + 1), Pl_0, (.slice al0 Pl_0.z.length dl0), Pl_1, (.slice al1 Pl_1.z.length dl1), Xl_2, (.slice al2 Xl_2.z.length dl2)⟩, ⟨(wa.heap.size + 2), Po_0, (.slice ao0 Po_0.z.length do0), Po_1, (.slice ao1 Po_1.z.length do1), Xo_2, (.slice ao2 Xo_2.z.length do2)⟩] [⟨(wa.heap.size + 3), Gs_0, Gs_1, Es_2⟩, ⟨(wa.heap.size + 4), Gl_0, Gl_1, En_2⟩, ⟨(wa.heap.size + 5), Go_0, Go_1, En_2⟩] W ∧ W.cell? ⟨(wa.heap.size + 4), 1, none⟩ = some (.int .i64 Gl_1) ∧ W.cell? ⟨(wa.heap.size + 4), 2, none⟩ = some (.int .i64 En_2) ∧ W.cell? ⟨(wa.heap.size + 5), 1, none⟩ = some (.int .i64 Go_1) ∧ W.cell? ⟨(wa.heap.size + 5), 2, none⟩ = some (.int .i64 En_2)) W) := fun W hX => ⟨hX, (hX.e _ (.tail _ (.head _))).c1, (hX.e _ (.tail _ (.head _))).c2, (hX.e _ (.tail _ (.tail _ (.head _)))).c1, (hX.e _ (.tail _ (.tail _ (.head _)))).c2⟩
                      have HK0 := Lib.hid (HK.out.next (Below.refl _ _).drew)
                      refine wp_region_held_drew (S := (fun W => KT w [⟨wz.heap.size, A, (.slice p A.z.length cap), T, (.slice pwr2 T.z.length cwr2), R, (.slice pwr1 R.z.length cwr1)⟩, ⟨wa.heap.size, Ps_0, (.slice as0 Ps_0.z.length ds0), Ps_1, (.slice as1 Ps_1.z.length ds1), Xs_2, (.slice as2 Xs_2.z.length ds2)⟩, ⟨(wa.heap.size + 1), Pl_0, (.slice al0 Pl_0.z.length dl0), Pl_1, (.slice al1 Pl_1.z.length dl1), Xl_2, (.slice al2 Xl_2.z.length dl2)⟩, ⟨(wa.heap.size + 2), Po_0, (.slice ao0 Po_0.z.length do0), Po_1, (.slice ao1 Po_1.z.length do1), Xo_2, (.slice ao2 Xo_2.z.length do2)⟩] [⟨(wa.heap.size + 3), Gs_0, Gs_1, Es_2⟩, ⟨(wa.heap.size + 4), Gl_0, Gl_1, En_2⟩, ⟨(wa.heap.size + 5), Go_0, Go_1, En_2⟩] W ∧ W.cell? ⟨(wa.heap.size + 4), 1, none⟩ = some (.int .i64 Gl_1) ∧ W.cell? ⟨(wa.heap.size + 4), 2, none⟩ = some (.int .i64 En_2) ∧ W.cell? ⟨(wa.heap.size + 5), 1, none⟩ = some (.int .i64 Go_1) ∧ W.cell? ⟨(wa.heap.size + 5), 2, none⟩ = some (.int .i64 En_2))) (by kernel_rfl) ?_ (fun hHeld => ?_)
                      · exact HAll.out _ HK0.out
                      refine wpAnyH_take (i := 0) (v := ?_) rfl (by kernel_rfl) (by kernel_rfl) (by kernel_rfl) (fun _ _ _ h => h) (Or.inl ⟨by rfl, ?_⟩) (by assumption) ?_
                      rotate_left
                      · ((intro w0 hSw); (try dsimp only at hSw); go_simp; (try with_reducible rfl))
                      change wpAnyH _ _ _ _ _ _ _ (Act.put _ (some 157) _) _
                      try simp only [Act.put, List.setIfInBounds_toArray, List.set_cons_zero, List.set_cons_succ]
                      refine wpAnyH_take (i := 1) (v := ?_) rfl (by kernel_rfl) (by kernel_rfl) (by kernel_rfl) (fun _ _ _ h => h) (Or.inl ⟨by rfl, ?_⟩) (by assumption) ?_
                      rotate_left
                      · ((intro w0 hSw); (try dsimp only at hSw); go_simp; (try with_reducible rfl))
                      change wpAnyH _ _ _ _ _ _ _ (Act.put _ (some 158) _) _
                      try simp only [Act.put, List.setIfInBounds_toArray, List.set_cons_zero, List.set_cons_succ]
                      refine wpAnyH_take (i := 2) (v := ?_) rfl (by kernel_rfl) (by kernel_rfl) (by kernel_rfl) (fun _ _ _ h => h) (Or.inl ⟨by rfl, ?_⟩) (by assumption) ?_
                      rotate_left
                      · ((intro w0 hSw); (try dsimp only at hSw); go_simp; (try with_reducible rfl))
                      change wpAnyH _ _ _ _ _ _ _ (Act.put _ (some 159) _) _
                      try simp only [Act.put, List.setIfInBounds_toArray, List.set_cons_zero, List.set_cons_succ]
                      refine wpAnyH_take (i := 3) (v := ?_) rfl (by kernel_rfl) (by kernel_rfl) (by kernel_rfl) (fun _ _ _ h => h) (Or.inl ⟨by rfl, ?_⟩) (by assumption) ?_
                      rotate_left
                      · ((intro w0 hSw); (try dsimp only at hSw); go_simp; (try with_reducible rfl))
                      change wpAnyH _ _ _ _ _ _ _ (Act.put _ (some 160) _) _
                      try simp only [Act.put, List.setIfInBounds_toArray, List.set_cons_zero, List.set_cons_succ]
                      refine wpAnyH_take (i := 4) (v := ?_) rfl (by kernel_rfl) (by kernel_rfl) (by kernel_rfl) (fun _ _ _ h => h) (Or.inl ⟨by rfl, ?_⟩) (by assumption) ?_
                      rotate_left
                      · ((intro w0 hSw); (try dsimp only at hSw); go_simp; (try with_reducible rfl))
                      change wpAnyH _ _ _ _ _ _ _ (Act.put _ (some 161) _) _
                      try simp only [Act.put, List.setIfInBounds_toArray, List.set_cons_zero, List.set_cons_succ]
                      refine wpAnyH_take (i := 5) (v := ?_) rfl (by kernel_rfl) (by kernel_rfl) (by kernel_rfl) (fun _ _ _ h => h) (Or.inl ⟨by rfl, ?_⟩) (by assumption) ?_
                      rotate_left
                      · ((intro w0 hSw); (try dsimp only at hSw); go_simp; (try with_reducible rfl))
                      change wpAnyH _ _ _ _ _ _ _ (Act.put _ (some 162) _) _
                      try simp only [Act.put, List.setIfInBounds_toArray, List.set_cons_zero, List.set_cons_succ]
                      refine wpAnyH_take (i := 6) (v := ?_) rfl (by kernel_rfl) (by kernel_rfl) (by kernel_rfl) (fun _ _ _ h => h) (Or.inl ⟨by rfl, ?_⟩) (by assumption) ?_
                      rotate_left
                      · ((intro w0 hSw); (try dsimp only at hSw); go_simp; (try with_reducible rfl))
                      change wpAnyH _ _ _ _ _ _ _ (Act.put _ (some 163) _) _
                      try simp only [Act.put, List.setIfInBounds_toArray, List.set_cons_zero, List.set_cons_succ]
                      refine wpAnyH_take (i := 7) (v := ?_) rfl (by kernel_rfl) (by kernel_rfl) (by kernel_rfl) (fun _ _ _ h => h) (Or.inl ⟨by rfl, ?_⟩) (by assumption) ?_
                      rotate_left
                      · ((intro w0 hSw); (try dsimp only at hSw); go_simp; (try with_reducible rfl))
                      change wpAnyH _ _ _ _ _ _ _ (Act.put _ (some 164) _) _
                      try simp only [Act.put, List.setIfInBounds_toArray, List.set_cons_zero, List.set_cons_succ]
                      refine wpAnyH_take (i := 8) (v := ?_) rfl (by kernel_rfl) (by kernel_rfl) (by kernel_rfl) (fun _ _ _ h => h) (Or.inl ⟨by rfl, ?_⟩) (by assumption) ?_
                      rotate_left
                      · ((intro w0 hSw); (try dsimp only at hSw); go_simp; (try with_reducible rfl))
                      change wpAnyH _ _ _ _ _ _ _ (Act.put _ (some 165) _) _
                      try simp only [Act.put, List.setIfInBounds_toArray, List.set_cons_zero, List.set_cons_succ]
                      refine wpAnyH_take (i := 9) (v := ?_) rfl (by kernel_rfl) (by kernel_rfl) (by kernel_rfl) (fun _ _ _ h => h) (Or.inl ⟨by rfl, ?_⟩) (by assumption) ?_
                      rotate_left
                      · ((intro w0 hSw); (try dsimp only at hSw); go_simp; (try with_reducible rfl))
                      change wpAnyH _ _ _ _ _ _ _ (Act.put _ (some 166) _) _
                      try simp only [Act.put, List.setIfInBounds_toArray, List.set_cons_zero, List.set_cons_succ]
                      refine wpAnyH_take (i := 10) (v := ?_) rfl (by kernel_rfl) (by kernel_rfl) (by kernel_rfl) (fun _ _ _ h => h) (Or.inl ⟨by rfl, ?_⟩) (by assumption) ?_
                      rotate_left
                      · ((intro w0 hSw); (try dsimp only at hSw); go_simp; (try with_reducible rfl))
                      change wpAnyH _ _ _ _ _ _ _ (Act.put _ (some 167) _) _
                      try simp only [Act.put, List.setIfInBounds_toArray, List.set_cons_zero, List.set_cons_succ]
                      refine wpAnyH_take (i := 11) (v := ?_) rfl (by kernel_rfl) (by kernel_rfl) (by kernel_rfl) (fun _ _ _ h => h) (Or.inl ⟨by rfl, ?_⟩) (by assumption) ?_
                      rotate_left
                      · ((intro w0 hSw); (try dsimp only at hSw); go_simp; (try with_reducible rfl))
                      change wpAnyH _ _ _ _ _ _ _ (Act.put _ (some 168) _) _
                      try simp only [Act.put, List.setIfInBounds_toArray, List.set_cons_zero, List.set_cons_succ]
                      refine wpAnyH_take (i := 12) (v := ?_) rfl (by kernel_rfl) (by kernel_rfl) (by kernel_rfl) (fun _ _ _ h => h) (Or.inl ⟨by rfl, ?_⟩) (by assumption) ?_
                      rotate_left
                      · ((intro w0 hSw); (try dsimp only at hSw); go_simp; (try with_reducible rfl))
                      change wpAnyH _ _ _ _ _ _ _ (Act.put _ (some 169) _) _
                      try simp only [Act.put, List.setIfInBounds_toArray, List.set_cons_zero, List.set_cons_succ]
                      refine wpAnyH_take (i := 13) (v := ?_) rfl (by kernel_rfl) (by kernel_rfl) (by kernel_rfl) (fun _ _ _ h => h) (Or.inl ⟨by rfl, ?_⟩) (by assumption) ?_
                      rotate_left
                      · ((intro w0 hSw); (try dsimp only at hSw); go_simp; (try with_reducible rfl))
                      change wpAnyH _ _ _ _ _ _ _ (Act.put _ (some 170) _) _
                      try simp only [Act.put, List.setIfInBounds_toArray, List.set_cons_zero, List.set_cons_succ]
                      refine wpAnyH_take (i := 14) (v := ?_) rfl (by kernel_rfl) (by kernel_rfl) (by kernel_rfl) (fun _ _ _ h => h) (Or.inl ⟨by rfl, ?_⟩) (by assumption) ?_
                      rotate_left
                      · ((intro w0 hSw); (try dsimp only at hSw); go_simp; (try with_reducible rfl))
                      change wpAnyH _ _ _ _ _ _ _ (Act.put _ (some 171) _) _
                      try simp only [Act.put, List.setIfInBounds_toArray, List.set_cons_zero, List.set_cons_succ]
                      refine wpAnyH_take (i := 15) (v := ?_) rfl (by kernel_rfl) (by kernel_rfl) (by kernel_rfl) (fun _ _ _ h => h) (Or.inl ⟨by rfl, ?_⟩) (by assumption) ?_
                      rotate_left
                      · ((intro w0 hSw); (try dsimp only at hSw); go_simp; (try with_reducible rfl))
                      change wpAnyH _ _ _ _ _ _ _ (Act.put _ (some 172) _) _
                      try simp only [Act.put, List.setIfInBounds_toArray, List.set_cons_zero, List.set_cons_succ]
                      refine wpAnyH_take (i := 16) (v := ?_) rfl (by kernel_rfl) (by kernel_rfl) (by kernel_rfl) (fun _ _ _ h => h) (Or.inl ⟨by rfl, ?_⟩) (by assumption) ?_
                      rotate_left
                      · ((intro w0 hSw); (try dsimp only at hSw); go_simp; (try with_reducible rfl))
                      change wpAnyH _ _ _ _ _ _ _ (Act.put _ (some 173) _) _
                      try simp only [Act.put, List.setIfInBounds_toArray, List.set_cons_zero, List.set_cons_succ]
                      refine wpAnyH_take (i := 17) (v := ?_) rfl (by kernel_rfl) (by kernel_rfl) (by kernel_rfl) (fun _ _ _ h => h) (Or.inl ⟨by rfl, ?_⟩) (by assumption) ?_
                      rotate_left
                      · ((intro w0 hSw); (try dsimp only at hSw); go_simp; (try with_reducible rfl))
                      change wpAnyH _ _ _ _ _ _ _ (Act.put _ (some 174) _) _
                      try simp only [Act.put, List.setIfInBounds_toArray, List.set_cons_zero, List.set_cons_succ]
                      refine wpAnyH_done (by kernel_rfl) ?_ _
                      have HK1 := Lib.hid hHeld.1
                      clear hHeld HK HK0
                      have HK := HK1
                      clear HK1
                      go_wp2_with fail
                      go_meet
                      case rel => exact ⟨rfl, HK.out⟩
                case rest =>
                  obtain ⟨rfl, hk⟩ := hcut
                  clear HK
                  have HK := Lib.hid hk
                  clear hk
                  go_upto_region 28 with fail
                  go_cut [195] (fun s wx => s = .bool false ∧ KT w [⟨wz.heap.size, A, (.slice p A.z.length cap), T, (.slice pwr2 T.z.length cwr2), R, (.slice pwr1 R.z.length cwr1)⟩, ⟨wa.heap.size, Ps_0, (.slice as0 Ps_0.z.length ds0), Ps_1, (.slice as1 Ps_1.z.length ds1), Xs_2, (.slice as2 Xs_2.z.length ds2)⟩, ⟨(wa.heap.size + 1), Pl_0, (.slice al0 Pl_0.z.length dl0), Pl_1, (.slice al1 Pl_1.z.length dl1), Xl_2, (.slice al2 Xl_2.z.length dl2)⟩, ⟨(wa.heap.size + 2), Po_0, (.slice ao0 Po_0.z.length do0), Po_1, (.slice ao1 Po_1.z.length do1), Xo_2, (.slice ao2 Xo_2.z.length do2)⟩] [⟨(wa.heap.size + 3), Gs_0, Gs_1, Es_2⟩, ⟨(wa.heap.size + 4), Gl_0, Gl_1, En_2⟩, ⟨(wa.heap.size + 5), Go_0, Go_1, En_2⟩] wx)
                  case first =>
                    as_aux_lemma =>
                      obtain ⟨_, ⟨q1, q3⟩, ⟨q2, q4⟩⟩ := Q1.out
                      by_cases h2 : En_2 = 0
                      · have e0 : (En_2 == 0) = true := by simpa using h2
                        have HSml : Hid (∀ v u W, RdI W.heap.size W v Pl_1.z → RdI W.heap.size W u Xl_2.z → Calls Tryd.prog 19 #[A5 Pl_1.k Pl_1.r Pl_1.a Pl_1.b v, A5 Xl_2.k Xl_2.r Xl_2.a Xl_2.b u] W fun e w' => e = .returned (.bool true) ∧ Below W.heap.size W w') := by
                          intro v u W g1 g2
                          have h := q3 h2
                          rw [h] at g1 ⊢
                          exact same_eq _ _ _ _ _ v u W g1 g2 Nl.out
                        have HSmo : Hid (∀ v u W, RdI W.heap.size W v Po_1.z → RdI W.heap.size W u Xo_2.z → Calls Tryd.prog 19 #[A5 Po_1.k Po_1.r Po_1.a Po_1.b v, A5 Xo_2.k Xo_2.r Xo_2.a Xo_2.b u] W fun e w' => e = .returned (.bool true) ∧ Below W.heap.size W w') := by
                          intro v u W g1 g2
                          have h := q4 h2
                          rw [h] at g1 ⊢
                          exact same_eq _ _ _ _ _ v u W g1 g2 No.out
                        clear q1 q2 q3 q4 h2 Q1
                        have HAll : Hid (∀ W, KT w [⟨wz.heap.size, A, (.slice p A.z.length cap), T, (.slice pwr2 T.z.length cwr2), R, (.slice pwr1 R.z.length cwr1)⟩, ⟨wa.heap.size, Ps_0, (.slice as0 Ps_0.z.length ds0), Ps_1, (.slice as1 Ps_1.z.length ds1), Xs_2, (.slice as2 Xs_2.z.length ds2)⟩, ⟨(wa.heap.size + 1), Pl_0, (.slice al0 Pl_0.z.length dl0), Pl_1, (.slice al1 Pl_1.z.length dl1), Xl_2, (.slice al2 Xl_2.z.length dl2)⟩, ⟨(wa.heap.size + 2), Po_0, (.slice ao0 Po_0.z.length do0), Po_1, (.slice ao1 Po_1.z.length do1), Xo_2, (.slice ao2 Xo_2.z.length do2)⟩] [⟨(wa.heap.size + 3), Gs_0, Gs_1, Es_2⟩, ⟨(wa.heap.size + 4), Gl_0, Gl_1, En_2⟩, ⟨(wa.heap.size + 5), Go_0, Go_1, En_2⟩] W → (fun W => KT w [⟨wz.heap.size, A, (.slice p A.z.length cap), T, (.slice pwr2 T.z.length cwr2), R, (.slice pwr1 R.z.length cwr1)⟩, ⟨wa.heap.size, Ps_0, (.slice as0 Ps_0.z.length ds0), Ps_1, (.slice as1 Ps_1.z.length ds1), Xs_2, (.slice as2 Xs_2.z.length ds2)⟩, ⟨(wa.heap.size + 1), Pl_0, (.slice al0 Pl_0.z.length dl0), Pl_1, (.slice al1 Pl_1.z.length dl1), Xl_2, (.slice al2 Xl_2.z.length dl2)⟩, ⟨(wa.heap.size + 2), Po_0, (.slice ao0 Po_0.z.length do0), Po_1, (.slice ao1 Po_1.z.length do1), Xo_2, (.slice ao2 Xo_2.z.length do2)⟩] [⟨(wa.heap.size + 3), Gs_0, Gs_1, Es_2⟩, ⟨(wa.heap.size + 4), Gl_0, Gl_1, En_2⟩, ⟨(wa.heap.size + 5), Go_0, Go_1, En_2⟩] W ∧ W.cell? ⟨(wa.heap.size + 4), 2, none⟩ = some (.int .i64 En_2) ∧ W.cell? ⟨(wa.heap.size + 1), 5, none⟩ = some (.int .i64 Pl_1.k) ∧ W.cell? ⟨(wa.heap.size + 1), 6, none⟩ = some (.int .i64 Pl_1.r) ∧ W.cell? ⟨(wa.heap.size + 1), 7, none⟩ = some (.int .i64 Pl_1.a) ∧ W.cell? ⟨(wa.heap.size + 1), 8, none⟩ = some (.int .i64 Pl_1.b) ∧ W.cell? ⟨(wa.heap.size + 1), 9, none⟩ = some ((.slice al1 Pl_1.z.length dl1)) ∧ W.cell? ⟨(wa.heap.size + 1), 10, none⟩ = some (.int .i64 Xl_2.k) ∧ W.cell? ⟨(wa.heap.size + 1), 11, none⟩ = some (.int .i64 Xl_2.r) ∧ W.cell? ⟨(wa.heap.size + 1), 12, none⟩ = some (.int .i64 Xl_2.a) ∧ W.cell? ⟨(wa.heap.size + 1), 13, none⟩ = some (.int .i64 Xl_2.b) ∧ W.cell? ⟨(wa.heap.size + 1), 14, none⟩ = some ((.slice al2 Xl_2.z.length dl2)) ∧ W.cell? ⟨(wa.heap.size + 2), 5, none⟩ = some (.int .i64 Po_1.k) ∧ W.cell? ⟨(wa.heap.size + 2), 6, none⟩ = some (.int .i64 Po_1.r) ∧ W.cell? ⟨(wa.heap.size + 2), 7, none⟩ = some (.int .i64 Po_1.a) ∧ W.cell? ⟨(wa.heap.size + 2), 8, none⟩ = some (.int .i64 Po_1.b) ∧ W.cell? ⟨(wa.heap.size + 2), 9, none⟩ = some ((.slice ao1 Po_1.z.length do1)) ∧ W.cell? ⟨(wa.heap.size + 2), 10, none⟩ = some (.int .i64 Xo_2.k) ∧ W.cell? ⟨(wa.heap.size + 2), 11, none⟩ = some (.int .i64 Xo_2.r) ∧ W.cell? ⟨(wa.heap.size + 2), 12, none⟩ = some (.int .i64 Xo_2.a) ∧ W.cell? ⟨(wa.heap.size + 2), 13, none⟩ = some (.int .i64 Xo_2.b) ∧ W.cell? ⟨(wa.heap.size + 2), 14, none⟩ = some ((.slice ao2 Xo_2.z.length do2))) W) := fun W hX => ⟨hX, (hX.e _ (.tail _ (.head _))).c2, (hX.b _ (.tail _ (.tail _ (.head _)))).c5, (hX.b _ (.tail _ (.tail _ (.head _)))).c6, (hX.b _ (.tail _ (.tail _ (.head _)))).c7, (hX.b _ (.tail _ (.tail _ (.head _)))).c8, (hX.b _ (.tail _ (.tail _ (.head _)))).c9, (hX.b _ (.tail _ (.tail _ (.head _)))).c10, (hX.b _ (.tail _ (.tail _ (.head _)))).c11, (hX.b _ (.tail _ (.tail _ (.head _)))).c12, (hX.b _ (.tail _ (.tail _ (.head _)))).c13, (hX.b _ (.tail _ (.tail _ (.head _)))).c14, (hX.b _ (.tail _ (.tail _ (.tail _ (.head _))))).c5, (hX.b _ (.tail _ (.tail _ (.tail _ (.head _))))).c6, (hX.b _ (.tail _ (.tail _ (.tail _ (.head _))))).c7, (hX.b _ (.tail _ (.tail _ (.tail _ (.head _))))).c8, (hX.b _ (.tail _ (.tail _ (.tail _ (.head _))))).c9, (hX.b _ (.tail _ (.tail _ (.tail _ (.head _))))).c10, (hX.b _ (.tail _ (.tail _ (.tail _ (.head _))))).c11, (hX.b _ (.tail _ (.tail _ (.tail _ (.head _))))).c12, (hX.b _ (.tail _ (.tail _ (.tail _ (.head _))))).c13, (hX.b _ (.tail _ (.tail _ (.tail _ (.head _))))).c14⟩
                        have HK0 := Lib.hid (HK.out.next (Below.refl _ _).drew)
                        refine wp_region_held_drew (S := (fun W => KT w [⟨wz.heap.size, A, (.slice p A.z.length cap), T, (.slice pwr2 T.z.length cwr2), R, (.slice pwr1 R.z.length cwr1)⟩, ⟨wa.heap.size, Ps_0, (.slice as0 Ps_0.z.length ds0), Ps_1, (.slice as1 Ps_1.z.length ds1), Xs_2, (.slice as2 Xs_2.z.length ds2)⟩, ⟨(wa.heap.size + 1), Pl_0, (.slice al0 Pl_0.z.length dl0), Pl_1, (.slice al1 Pl_1.z.length dl1), Xl_2, (.slice al2 Xl_2.z.length dl2)⟩, ⟨(wa.heap.size + 2), Po_0, (.slice ao0 Po_0.z.length do0), Po_1, (.slice ao1 Po_1.z.length do1), Xo_2, (.slice ao2 Xo_2.z.length do2)⟩] [⟨(wa.heap.size + 3), Gs_0, Gs_1, Es_2⟩, ⟨(wa.heap.size + 4), Gl_0, Gl_1, En_2⟩, ⟨(wa.heap.size + 5), Go_0, Go_1, En_2⟩] W ∧ W.cell? ⟨(wa.heap.size + 4), 2, none⟩ = some (.int .i64 En_2) ∧ W.cell? ⟨(wa.heap.size + 1), 5, none⟩ = some (.int .i64 Pl_1.k) ∧ W.cell? ⟨(wa.heap.size + 1), 6, none⟩ = some (.int .i64 Pl_1.r) ∧ W.cell? ⟨(wa.heap.size + 1), 7, none⟩ = some (.int .i64 Pl_1.a) ∧ W.cell? ⟨(wa.heap.size + 1), 8, none⟩ = some (.int .i64 Pl_1.b) ∧ W.cell? ⟨(wa.heap.size + 1), 9, none⟩ = some ((.slice al1 Pl_1.z.length dl1)) ∧ W.cell? ⟨(wa.heap.size + 1), 10, none⟩ = some (.int .i64 Xl_2.k) ∧ W.cell? ⟨(wa.heap.size + 1), 11, none⟩ = some (.int .i64 Xl_2.r) ∧ W.cell? ⟨(wa.heap.size + 1), 12, none⟩ = some (.int .i64 Xl_2.a) ∧ W.cell? ⟨(wa.heap.size + 1), 13, none⟩ = some (.int .i64 Xl_2.b) ∧ W.cell? ⟨(wa.heap.size + 1), 14, none⟩ = some ((.slice al2 Xl_2.z.length dl2)) ∧ W.cell? ⟨(wa.heap.size + 2), 5, none⟩ = some (.int .i64 Po_1.k) ∧ W.cell? ⟨(wa.heap.size + 2), 6, none⟩ = some (.int .i64 Po_1.r) ∧ W.cell? ⟨(wa.heap.size + 2), 7, none⟩ = some (.int .i64 Po_1.a) ∧ W.cell? ⟨(wa.heap.size + 2), 8, none⟩ = some (.int .i64 Po_1.b) ∧ W.cell? ⟨(wa.heap.size + 2), 9, none⟩ = some ((.slice ao1 Po_1.z.length do1)) ∧ W.cell? ⟨(wa.heap.size + 2), 10, none⟩ = some (.int .i64 Xo_2.k) ∧ W.cell? ⟨(wa.heap.size + 2), 11, none⟩ = some (.int .i64 Xo_2.r) ∧ W.cell? ⟨(wa.heap.size + 2), 12, none⟩ = some (.int .i64 Xo_2.a) ∧ W.cell? ⟨(wa.heap.size + 2), 13, none⟩ = some (.int .i64 Xo_2.b) ∧ W.cell? ⟨(wa.heap.size + 2), 14, none⟩ = some ((.slice ao2 Xo_2.z.length do2)))) (by kernel_rfl) ?_ (fun hHeld => ?_)
                        · exact HAll.out _ HK0.out
                        refine wpAnyH_take (i := 0) (v := ?_) rfl (by kernel_rfl) (by kernel_rfl) (by kernel_rfl) (fun _ _ _ h => h) (Or.inl ⟨by rfl, ?_⟩) (by assumption) ?_
                        rotate_left
                        · ((intro w0 hSw); (try dsimp only at hSw); go_simp; (try with_reducible rfl))
                        change wpAnyH _ _ _ _ _ _ _ (Act.put _ (some 175) _) _
                        try simp only [Act.put, List.setIfInBounds_toArray, List.set_cons_zero, List.set_cons_succ]
                        refine wpAnyH_take (i := 1) (v := ?_) rfl (by kernel_rfl) (by kernel_rfl) (by kernel_rfl) (fun _ _ _ h => h) (Or.inl ⟨by rfl, ?_⟩) (by assumption) ?_
                        rotate_left
                        · ((intro w0 hSw); (try dsimp only at hSw); go_simp; (try with_reducible rfl))
                        change wpAnyH _ _ _ _ _ _ _ (Act.put _ (some 176) _) _
                        try simp only [Act.put, List.setIfInBounds_toArray, List.set_cons_zero, List.set_cons_succ]
                        refine wpAnyH_take (i := 2) (v := ?_) rfl (by kernel_rfl) (by kernel_rfl) (by kernel_rfl) (fun _ _ _ h => h) (Or.inl ⟨by rfl, ?_⟩) (by assumption) ?_
                        rotate_left
                        · ((intro w0 hSw); (try dsimp only at hSw); go_simp; (try with_reducible rfl))
                        change wpAnyH _ _ _ _ _ _ _ (Act.put _ (some 177) _) _
                        try simp only [Act.put, List.setIfInBounds_toArray, List.set_cons_zero, List.set_cons_succ]
                        refine wpAnyH_take (i := 3) (v := ?_) rfl (by kernel_rfl) (by kernel_rfl) (by kernel_rfl) (fun _ _ _ h => h) (Or.inl ⟨by rfl, ?_⟩) (by assumption) ?_
                        rotate_left
                        · ((intro w0 hSw); (try dsimp only at hSw); go_simp; (try with_reducible rfl))
                        change wpAnyH _ _ _ _ _ _ _ (Act.put _ (some 178) _) _
                        try simp only [Act.put, List.setIfInBounds_toArray, List.set_cons_zero, List.set_cons_succ]
                        refine wpAnyH_take (i := 4) (v := ?_) rfl (by kernel_rfl) (by kernel_rfl) (by kernel_rfl) (fun _ _ _ h => h) (Or.inl ⟨by rfl, ?_⟩) (by assumption) ?_
                        rotate_left
                        · ((intro w0 hSw); (try dsimp only at hSw); go_simp; (try with_reducible rfl))
                        change wpAnyH _ _ _ _ _ _ _ (Act.put _ (some 179) _) _
                        try simp only [Act.put, List.setIfInBounds_toArray, List.set_cons_zero, List.set_cons_succ]
                        refine wpAnyH_take (i := 5) (v := ?_) rfl (by kernel_rfl) (by kernel_rfl) (by kernel_rfl) (fun _ _ _ h => h) (Or.inl ⟨by rfl, ?_⟩) (by assumption) ?_
                        rotate_left
                        · ((intro w0 hSw); (try dsimp only at hSw); go_simp; (try with_reducible rfl))
                        change wpAnyH _ _ _ _ _ _ _ (Act.put _ (some 180) _) _
                        try simp only [Act.put, List.setIfInBounds_toArray, List.set_cons_zero, List.set_cons_succ]
                        refine wpAnyH_take (i := 6) (v := ?_) rfl (by kernel_rfl) (by kernel_rfl) (by kernel_rfl) (fun _ _ _ h => h) (Or.inl ⟨by rfl, ?_⟩) (by assumption) ?_
                        rotate_left
                        · ((intro w0 hSw); (try dsimp only at hSw); go_simp; (try with_reducible rfl))
                        change wpAnyH _ _ _ _ _ _ _ (Act.put _ (some 181) _) _
                        try simp only [Act.put, List.setIfInBounds_toArray, List.set_cons_zero, List.set_cons_succ]
                        refine wpAnyH_take (i := 7) (v := ?_) rfl (by kernel_rfl) (by kernel_rfl) (by kernel_rfl) (fun _ _ _ h => h) (Or.inl ⟨by rfl, ?_⟩) (by assumption) ?_
                        rotate_left
                        · ((intro w0 hSw); (try dsimp only at hSw); go_simp; (try with_reducible rfl))
                        change wpAnyH _ _ _ _ _ _ _ (Act.put _ (some 182) _) _
                        try simp only [Act.put, List.setIfInBounds_toArray, List.set_cons_zero, List.set_cons_succ]
                        refine wpAnyH_take (i := 8) (v := ?_) rfl (by kernel_rfl) (by kernel_rfl) (by kernel_rfl) (fun _ _ _ h => h) (Or.inl ⟨by rfl, ?_⟩) (by assumption) ?_
                        rotate_left
                        · ((intro w0 hSw); (try dsimp only at hSw); go_simp; (try with_reducible rfl))
                        change wpAnyH _ _ _ _ _ _ _ (Act.put _ (some 183) _) _
                        try simp only [Act.put, List.setIfInBounds_toArray, List.set_cons_zero, List.set_cons_succ]
                        refine wpAnyH_ready (rs := [9]) (by kernel_rfl) (by simp) ?_
                        refine AllReadyH.cons rfl (fun K hK => ?_) AllReadyH.nil
                        go_simp
                        go_at_call 19; (with_reducible refine (HSml.out _ _ _ (by with_unfolding_all exact hHeld.1.r1 _ (.tail _ (.tail _ (.head _)))) (by with_unfolding_all exact hHeld.1.r2 _ (.tail _ (.tail _ (.head _))))).mono ?_); rintro e wn ⟨rfl, hbn⟩
                        refine hK.out _ _ ?_ (fun hHeld2 => ?_)
                        · exact (HAll.out _ (hHeld.1.next hbn))
                        clear hK K hHeld
                        have hHeld := hHeld2; clear hHeld2
                        try change wpAnyH _ _ _ _ _ _ _ (Act.put _ (some 184) _) _
                        try simp only [Act.put, List.setIfInBounds_toArray, List.set_cons_zero, List.set_cons_succ]
                        refine wpAnyH_take (i := 10) (v := ?_) rfl (by kernel_rfl) (by kernel_rfl) (by kernel_rfl) (fun _ _ _ h => h) (Or.inl ⟨by rfl, ?_⟩) (by assumption) ?_
                        rotate_left
                        · ((intro w0 hSw); (try dsimp only at hSw); go_simp; (try with_reducible rfl))
                        change wpAnyH _ _ _ _ _ _ _ (Act.put _ (some 185) _) _
                        try simp only [Act.put, List.setIfInBounds_toArray, List.set_cons_zero, List.set_cons_succ]
                        refine wpAnyH_take (i := 11) (v := ?_) rfl (by kernel_rfl) (by kernel_rfl) (by kernel_rfl) (fun _ _ _ h => h) (Or.inl ⟨by rfl, ?_⟩) (by assumption) ?_
                        rotate_left
                        · ((intro w0 hSw); (try dsimp only at hSw); go_simp; (try with_reducible rfl))
                        change wpAnyH _ _ _ _ _ _ _ (Act.put _ (some 186) _) _
                        try simp only [Act.put, List.setIfInBounds_toArray, List.set_cons_zero, List.set_cons_succ]
                        refine wpAnyH_take (i := 12) (v := ?_) rfl (by kernel_rfl) (by kernel_rfl) (by kernel_rfl) (fun _ _ _ h => h) (Or.inl ⟨by rfl, ?_⟩) (by assumption) ?_
                        rotate_left
                        · ((intro w0 hSw); (try dsimp only at hSw); go_simp; (try with_reducible rfl))
                        change wpAnyH _ _ _ _ _ _ _ (Act.put _ (some 187) _) _
                        try simp only [Act.put, List.setIfInBounds_toArray, List.set_cons_zero, List.set_cons_succ]
                        refine wpAnyH_take (i := 13) (v := ?_) rfl (by kernel_rfl) (by kernel_rfl) (by kernel_rfl) (fun _ _ _ h => h) (Or.inl ⟨by rfl, ?_⟩) (by assumption) ?_
                        rotate_left
                        · ((intro w0 hSw); (try dsimp only at hSw); go_simp; (try with_reducible rfl))
                        change wpAnyH _ _ _ _ _ _ _ (Act.put _ (some 188) _) _
                        try simp only [Act.put, List.setIfInBounds_toArray, List.set_cons_zero, List.set_cons_succ]
                        refine wpAnyH_take (i := 14) (v := ?_) rfl (by kernel_rfl) (by kernel_rfl) (by kernel_rfl) (fun _ _ _ h => h) (Or.inl ⟨by rfl, ?_⟩) (by assumption) ?_
                        rotate_left
                        · ((intro w0 hSw); (try dsimp only at hSw); go_simp; (try with_reducible rfl))
                        change wpAnyH _ _ _ _ _ _ _ (Act.put _ (some 189) _) _
                        try simp only [Act.put, List.setIfInBounds_toArray, List.set_cons_zero, List.set_cons_succ]
                        refine wpAnyH_take (i := 15) (v := ?_) rfl (by kernel_rfl) (by kernel_rfl) (by kernel_rfl) (fun _ _ _ h => h) (Or.inl ⟨by rfl, ?_⟩) (by assumption) ?_
                        rotate_left
                        · ((intro w0 hSw); (try dsimp only at hSw); go_simp; (try with_reducible rfl))
                        change wpAnyH _ _ _ _ _ _ _ (Act.put _ (some 190) _) _
                        try simp only [Act.put, List.setIfInBounds_toArray, List.set_cons_zero, List.set_cons_succ]
                        refine wpAnyH_take (i := 16) (v := ?_) rfl (by kernel_rfl) (by kernel_rfl) (by kernel_rfl) (fun _ _ _ h => h) (Or.inl ⟨by rfl, ?_⟩) (by assumption) ?_
                        rotate_left
                        · ((intro w0 hSw); (try dsimp only at hSw); go_simp; (try with_reducible rfl))
                        change wpAnyH _ _ _ _ _ _ _ (Act.put _ (some 191) _) _
                        try simp only [Act.put, List.setIfInBounds_toArray, List.set_cons_zero, List.set_cons_succ]
                        refine wpAnyH_ready (rs := [17]) (by kernel_rfl) (by simp) ?_
                        refine AllReadyH.cons rfl (fun K hK => ?_) AllReadyH.nil
                        go_simp
                        go_at_call 19; (with_reducible refine (HSmo.out _ _ _ (by with_unfolding_all exact hHeld.1.r1 _ (.tail _ (.tail _ (.tail _ (.head _))))) (by with_unfolding_all exact hHeld.1.r2 _ (.tail _ (.tail _ (.tail _ (.head _)))))).mono ?_); rintro e wn ⟨rfl, hbn⟩
                        refine hK.out _ _ ?_ (fun hHeld2 => ?_)
                        · exact (HAll.out _ (hHeld.1.next hbn))
                        clear hK K hHeld
                        have hHeld := hHeld2; clear hHeld2
                        try change wpAnyH _ _ _ _ _ _ _ (Act.put _ (some 192) _) _
                        try simp only [Act.put, List.setIfInBounds_toArray, List.set_cons_zero, List.set_cons_succ]
                        refine wpAnyH_take (i := 18) (v := ?_) rfl (by kernel_rfl) (by kernel_rfl) (by kernel_rfl) (fun _ _ _ h => h) (Or.inl ⟨by rfl, ?_⟩) (by assumption) ?_
                        rotate_left
                        · ((intro w0 hSw); (try dsimp only at hSw); go_simp; (try with_reducible rfl))
                        change wpAnyH _ _ _ _ _ _ _ (Act.put _ (some 193) _) _
                        try simp only [Act.put, List.setIfInBounds_toArray, List.set_cons_zero, List.set_cons_succ]
                        refine wpAnyH_take (i := 19) (v := ?_) rfl (by kernel_rfl) (by kernel_rfl) (by kernel_rfl) (fun _ _ _ h => h) (Or.inl ⟨by rfl, ?_⟩) (by assumption) ?_
                        rotate_left
                        · ((intro w0 hSw); (try dsimp only at hSw); go_simp; (try with_reducible rfl))
                        change wpAnyH _ _ _ _ _ _ _ (Act.put _ (some 194) _) _
                        try simp only [Act.put, List.setIfInBounds_toArray, List.set_cons_zero, List.set_cons_succ]
                        refine wpAnyH_take (i := 20) (v := ?_) rfl (by kernel_rfl) (by kernel_rfl) (by kernel_rfl) (fun _ _ _ h => h) (Or.inl ⟨by rfl, ?_⟩) (by assumption) ?_
                        rotate_left
                        · ((intro w0 hSw); (try dsimp only at hSw); go_simp; (try with_reducible rfl))
                        change wpAnyH _ _ _ _ _ _ _ (Act.put _ (some 195) _) _
                        try simp only [Act.put, List.setIfInBounds_toArray, List.set_cons_zero, List.set_cons_succ]
                        refine wpAnyH_done (by kernel_rfl) ?_ _
                        have HK1 := Lib.hid hHeld.1
                        clear hHeld HK HK0
                        have HK := HK1
                        clear HK1
                        go_wp2_with fail
                        go_meet
                        case rel => exact ⟨rfl, HK.out⟩
                      · have e0 : (En_2 == 0) = false := by simpa using h2
                        clear q1 q2 q3 q4 h2 Q1
                        have HAll : Hid (∀ W, KT w [⟨wz.heap.size, A, (.slice p A.z.length cap), T, (.slice pwr2 T.z.length cwr2), R, (.slice pwr1 R.z.length cwr1)⟩, ⟨wa.heap.size, Ps_0, (.slice as0 Ps_0.z.length ds0), Ps_1, (.slice as1 Ps_1.z.length ds1), Xs_2, (.slice as2 Xs_2.z.length ds2)⟩, ⟨(wa.heap.size + 1), Pl_0, (.slice al0 Pl_0.z.length dl0), Pl_1, (.slice al1 Pl_1.z.length dl1), Xl_2, (.slice al2 Xl_2.z.length dl2)⟩, ⟨(wa.heap.size + 2), Po_0, (.slice ao0 Po_0.z.length do0), Po_1, (.slice ao1 Po_1.z.length do1), Xo_2, (.slice ao2 Xo_2.z.length do2)⟩] [⟨(wa.heap.size + 3), Gs_0, Gs_1, Es_2⟩, ⟨(wa.heap.size + 4), Gl_0, Gl_1, En_2⟩, ⟨(wa.heap.size + 5), Go_0, Go_1, En_2⟩] W → (fun W => KT w [⟨wz.heap.size, A, (.slice p A.z.length cap), T, (.slice pwr2 T.z.length cwr2), R, (.slice pwr1 R.z.length cwr1)⟩, ⟨wa.heap.size, Ps_0, (.slice as0 Ps_0.z.length ds0), Ps_1, (.slice as1 Ps_1.z.length ds1), Xs_2, (.slice as2 Xs_2.z.length ds2)⟩, ⟨(wa.heap.size + 1), Pl_0, (.slice al0 Pl_0.z.length dl0), Pl_1, (.slice al1 Pl_1.z.length dl1), Xl_2, (.slice al2 Xl_2.z.length dl2)⟩, ⟨(wa.heap.size + 2), Po_0, (.slice ao0 Po_0.z.length do0), Po_1, (.slice ao1 Po_1.z.length do1), Xo_2, (.slice ao2 Xo_2.z.length do2)⟩] [⟨(wa.heap.size + 3), Gs_0, Gs_1, Es_2⟩, ⟨(wa.heap.size + 4), Gl_0, Gl_1, En_2⟩, ⟨(wa.heap.size + 5), Go_0, Go_1, En_2⟩] W ∧ W.cell? ⟨(wa.heap.size + 4), 2, none⟩ = some (.int .i64 En_2)) W) := fun W hX => ⟨hX, (hX.e _ (.tail _ (.head _))).c2⟩
                        have HK0 := Lib.hid (HK.out.next (Below.refl _ _).drew)
                        refine wp_region_held_drew (S := (fun W => KT w [⟨wz.heap.size, A, (.slice p A.z.length cap), T, (.slice pwr2 T.z.length cwr2), R, (.slice pwr1 R.z.length cwr1)⟩, ⟨wa.heap.size, Ps_0, (.slice as0 Ps_0.z.length ds0), Ps_1, (.slice as1 Ps_1.z.length ds1), Xs_2, (.slice as2 Xs_2.z.length ds2)⟩, ⟨(wa.heap.size + 1), Pl_0, (.slice al0 Pl_0.z.length dl0), Pl_1, (.slice al1 Pl_1.z.length dl1), Xl_2, (.slice al2 Xl_2.z.length dl2)⟩, ⟨(wa.heap.size + 2), Po_0, (.slice ao0 Po_0.z.length do0), Po_1, (.slice ao1 Po_1.z.length do1), Xo_2, (.slice ao2 Xo_2.z.length do2)⟩] [⟨(wa.heap.size + 3), Gs_0, Gs_1, Es_2⟩, ⟨(wa.heap.size + 4), Gl_0, Gl_1, En_2⟩, ⟨(wa.heap.size + 5), Go_0, Go_1, En_2⟩] W ∧ W.cell? ⟨(wa.heap.size + 4), 2, none⟩ = some (.int .i64 En_2))) (by kernel_rfl) ?_ (fun hHeld => ?_)
                        · exact HAll.out _ HK0.out
                        refine wpAnyH_take (i := 0) (v := ?_) rfl (by kernel_rfl) (by kernel_rfl) (by kernel_rfl) (fun _ _ _ h => h) (Or.inl ⟨by rfl, ?_⟩) (by assumption) ?_
                        rotate_left
                        · ((intro w0 hSw); (try dsimp only at hSw); go_simp; (try with_reducible rfl))
                        change wpAnyH _ _ _ _ _ _ _ (Act.put _ (some 175) _) _
                        try simp only [Act.put, List.setIfInBounds_toArray, List.set_cons_zero, List.set_cons_succ]
                        refine wpAnyH_take (i := 1) (v := ?_) rfl (by kernel_rfl) (by kernel_rfl) (by kernel_rfl) (fun _ _ _ h => h) (Or.inl ⟨by rfl, ?_⟩) (by assumption) ?_
                        rotate_left
                        · ((intro w0 hSw); (try dsimp only at hSw); go_simp; (try with_reducible rfl))
                        change wpAnyH _ _ _ _ _ _ _ (Act.put _ (some 176) _) _
                        try simp only [Act.put, List.setIfInBounds_toArray, List.set_cons_zero, List.set_cons_succ]
                        refine wpAnyH_take (i := 2) (v := ?_) rfl (by kernel_rfl) (by kernel_rfl) (by kernel_rfl) (fun _ _ _ h => h) (Or.inl ⟨by rfl, ?_⟩) (by assumption) ?_
                        rotate_left
                        · ((intro w0 hSw); (try dsimp only at hSw); go_simp; (try with_reducible rfl))
                        change wpAnyH _ _ _ _ _ _ _ (Act.put _ (some 177) _) _
                        try simp only [Act.put, List.setIfInBounds_toArray, List.set_cons_zero, List.set_cons_succ]
                        refine wpAnyH_take (i := 3) (v := ?_) rfl (by kernel_rfl) (by kernel_rfl) (by kernel_rfl) (fun _ _ _ h => h) (Or.inl ⟨by rfl, ?_⟩) (by assumption) ?_
                        rotate_left
                        · ((intro w0 hSw); (try dsimp only at hSw); go_simp; (try with_reducible rfl))
                        change wpAnyH _ _ _ _ _ _ _ (Act.put _ (some 178) _) _
                        try simp only [Act.put, List.setIfInBounds_toArray, List.set_cons_zero, List.set_cons_succ]
                        refine wpAnyH_take (i := 4) (v := undef) rfl (by kernel_rfl) (by kernel_rfl) (by kernel_rfl) (fun _ _ _ h => h) (Or.inr ⟨by rfl, rfl⟩) (by assumption) ?_
                        change wpAnyH _ _ _ _ _ _ _ (Act.put _ (some 179) _) _
                        try simp only [Act.put, List.setIfInBounds_toArray, List.set_cons_zero, List.set_cons_succ]
                        refine wpAnyH_take (i := 5) (v := undef) rfl (by kernel_rfl) (by kernel_rfl) (by kernel_rfl) (fun _ _ _ h => h) (Or.inr ⟨by rfl, rfl⟩) (by assumption) ?_
                        change wpAnyH _ _ _ _ _ _ _ (Act.put _ (some 180) _) _
                        try simp only [Act.put, List.setIfInBounds_toArray, List.set_cons_zero, List.set_cons_succ]
                        refine wpAnyH_take (i := 6) (v := undef) rfl (by kernel_rfl) (by kernel_rfl) (by kernel_rfl) (fun _ _ _ h => h) (Or.inr ⟨by rfl, rfl⟩) (by assumption) ?_
                        change wpAnyH _ _ _ _ _ _ _ (Act.put _ (some 181) _) _
                        try simp only [Act.put, List.setIfInBounds_toArray, List.set_cons_zero, List.set_cons_succ]
                        refine wpAnyH_take (i := 7) (v := undef) rfl (by kernel_rfl) (by kernel_rfl) (by kernel_rfl) (fun _ _ _ h => h) (Or.inr ⟨by rfl, rfl⟩) (by assumption) ?_
                        change wpAnyH _ _ _ _ _ _ _ (Act.put _ (some 182) _) _
                        try simp only [Act.put, List.setIfInBounds_toArray, List.set_cons_zero, List.set_cons_succ]
                        refine wpAnyH_take (i := 8) (v := undef) rfl (by kernel_rfl) (by kernel_rfl) (by kernel_rfl) (fun _ _ _ h => h) (Or.inr ⟨by rfl, rfl⟩) (by assumption) ?_
                        change wpAnyH _ _ _ _ _ _ _ (Act.put _ (some 183) _) _
                        try simp only [Act.put, List.setIfInBounds_toArray, List.set_cons_zero, List.set_cons_succ]
                        refine wpAnyH_take (i := 9) (v := undef) rfl (by kernel_rfl) (by kernel_rfl) (by kernel_rfl) (fun _ _ _ h => h) (Or.inr ⟨by rfl, rfl⟩) (by assumption) ?_
                        change wpAnyH _ _ _ _ _ _ _ (Act.put _ (some 184) _) _
                        try simp only [Act.put, List.setIfInBounds_toArray, List.set_cons_zero, List.set_cons_succ]
                        refine wpAnyH_take (i := 10) (v := undef) rfl (by kernel_rfl) (by kernel_rfl) (by kernel_rfl) (fun _ _ _ h => h) (Or.inr ⟨by rfl, rfl⟩) (by assumption) ?_
                        change wpAnyH _ _ _ _ _ _ _ (Act.put _ (some 185) _) _
                        try simp only [Act.put, List.setIfInBounds_toArray, List.set_cons_zero, List.set_cons_succ]
                        refine wpAnyH_take (i := 11) (v := undef) rfl (by kernel_rfl) (by kernel_rfl) (by kernel_rfl) (fun _ _ _ h => h) (Or.inr ⟨by rfl, rfl⟩) (by assumption) ?_
                        change wpAnyH _ _ _ _ _ _ _ (Act.put _ (some 186) _) _
                        try simp only [Act.put, List.setIfInBounds_toArray, List.set_cons_zero, List.set_cons_succ]
                        refine wpAnyH_take (i := 12) (v := undef) rfl (by kernel_rfl) (by kernel_rfl) (by kernel_rfl) (fun _ _ _ h => h) (Or.inr ⟨by rfl, rfl⟩) (by assumption) ?_
                        change wpAnyH _ _ _ _ _ _ _ (Act.put _ (some 187) _) _
                        try simp only [Act.put, List.setIfInBounds_toArray, List.set_cons_zero, List.set_cons_succ]
                        refine wpAnyH_take (i := 13) (v := undef) rfl (by kernel_rfl) (by kernel_rfl) (by kernel_rfl) (fun _ _ _ h => h) (Or.inr ⟨by rfl, rfl⟩) (by assumption) ?_
                        change wpAnyH _ _ _ _ _ _ _ (Act.put _ (some 188) _) _
                        try simp only [Act.put, List.setIfInBounds_toArray, List.set_cons_zero, List.set_cons_succ]
                        refine wpAnyH_take (i := 14) (v := undef) rfl (by kernel_rfl) (by kernel_rfl) (by kernel_rfl) (fun _ _ _ h => h) (Or.inr ⟨by rfl, rfl⟩) (by assumption) ?_
                        change wpAnyH _ _ _ _ _ _ _ (Act.put _ (some 189) _) _
                        try simp only [Act.put, List.setIfInBounds_toArray, List.set_cons_zero, List.set_cons_succ]
                        refine wpAnyH_take (i := 15) (v := undef) rfl (by kernel_rfl) (by kernel_rfl) (by kernel_rfl) (fun _ _ _ h => h) (Or.inr ⟨by rfl, rfl⟩) (by assumption) ?_
                        change wpAnyH _ _ _ _ _ _ _ (Act.put _ (some 190) _) _
                        try simp only [Act.put, List.setIfInBounds_toArray, List.set_cons_zero, List.set_cons_succ]
                        refine wpAnyH_take (i := 16) (v := undef) rfl (by kernel_rfl) (by kernel_rfl) (by kernel_rfl) (fun _ _ _ h => h) (Or.inr ⟨by rfl, rfl⟩) (by assumption) ?_
                        change wpAnyH _ _ _ _ _ _ _ (Act.put _ (some 191) _) _
                        try simp only [Act.put, List.setIfInBounds_toArray, List.set_cons_zero, List.set_cons_succ]
                        refine wpAnyH_take (i := 17) (v := undef) rfl (by kernel_rfl) (by kernel_rfl) (by kernel_rfl) (fun _ _ _ h => h) (Or.inr ⟨by rfl, rfl⟩) (by assumption) ?_
                        change wpAnyH _ _ _ _ _ _ _ (Act.put _ (some 192) _) _
                        try simp only [Act.put, List.setIfInBounds_toArray, List.set_cons_zero, List.set_cons_succ]
                        refine wpAnyH_take (i := 18) (v := undef) rfl (by kernel_rfl) (by kernel_rfl) (by kernel_rfl) (fun _ _ _ h => h) (Or.inr ⟨by rfl, rfl⟩) (by assumption) ?_
                        change wpAnyH _ _ _ _ _ _ _ (Act.put _ (some 193) _) _
                        try simp only [Act.put, List.setIfInBounds_toArray, List.set_cons_zero, List.set_cons_succ]
                        refine wpAnyH_take (i := 19) (v := undef) rfl (by kernel_rfl) (by kernel_rfl) (by kernel_rfl) (fun _ _ _ h => h) (Or.inr ⟨by rfl, rfl⟩) (by assumption) ?_
                        change wpAnyH _ _ _ _ _ _ _ (Act.put _ (some 194) _) _
                        try simp only [Act.put, List.setIfInBounds_toArray, List.set_cons_zero, List.set_cons_succ]
                        refine wpAnyH_take (i := 20) (v := ?_) rfl (by kernel_rfl) (by kernel_rfl) (by kernel_rfl) (fun _ _ _ h => h) (Or.inl ⟨by rfl, ?_⟩) (by assumption) ?_
                        rotate_left
                        · ((intro w0 hSw); (try dsimp only at hSw); go_simp; (try with_reducible rfl))
                        change wpAnyH _ _ _ _ _ _ _ (Act.put _ (some 195) _) _
                        try simp only [Act.put, List.setIfInBounds_toArray, List.set_cons_zero, List.set_cons_succ]
                        refine wpAnyH_done (by kernel_rfl) ?_ _
                        have HK1 := Lib.hid hHeld.1
                        clear hHeld HK HK0
                        have HK := HK1
                        clear HK1
                        go_wp2_with fail
                        go_meet
                        case rel => exact ⟨rfl, HK.out⟩
                  case rest =>
                    obtain ⟨rfl, hk⟩ := hcut
                    clear HK
                    have HK := Lib.hid hk
                    clear hk
                    go_wp2_with fail
                    go_roundg 0
                    case measure => omega
                    case rel => exact .inr (.inr ⟨rfl, by go_num, HK.out⟩)
            · as_aux_lemma =>
                have HK := Lib.hid hk
                clear hk Q0 Q1 Ns Nl No
                go_wp2_with (first
                  | (go_at_call 13; (with_reducible refine (HAw.out _ (by with_unfolding_all exact HK.out.lay)).mono ?_); rintro e wz2 ⟨rfl, hb⟩; have HK2 := Lib.hid (HK.out.next hb); clear HK hb; have HK := HK2; clear HK2)
                  | fail)
                go_ret
                exact ⟨rfl, HK.out.bel⟩
  · have k2 : (A.r != 2) = true := by simpa using hr
    clear hr hg hg0
    go_enter Tryd.func3, Tryd.ntmps3
    go_wp2_with (first
      | (go_at_call 12; (with_reducible refine (HG.out _ (by with_unfolding_all exact HK.out.r _ (.head _))).mono ?_); rintro e wz ⟨rfl, hb⟩; have HK2 := Lib.hid (HK.out.next hb); clear HK x0 x1 x2 x3 x4; have HK := HK2; clear HK2; clear hb; have x0 := (HK.out.a _ (.head _)).c0; have x1 := (HK.out.a _ (.head _)).c1; have x2 := (HK.out.a _ (.head _)).c2; have x3 := (HK.out.a _ (.head _)).c3; have x4 := (HK.out.a _ (.head _)).c4)
      | (go_at_call 13; (with_reducible refine (HAw.out _ (by with_unfolding_all exact HK.out.lay)).mono ?_); rintro e wz ⟨rfl, hb⟩; have HK2 := Lib.hid (HK.out.next hb); clear HK x0 x1 x2 x3 x4; have HK := HK2; clear HK2; clear hb; have x0 := (HK.out.a _ (.head _)).c0; have x1 := (HK.out.a _ (.head _)).c1; have x2 := (HK.out.a _ (.head _)).c2; have x3 := (HK.out.a _ (.head _)).c3; have x4 := (HK.out.a _ (.head _)).c4)
      | fail)
    go_ret
    exact ⟨rfl, HK.out.bel⟩
end Go.Proofs.YthfpmpmhoegicaaDoor
