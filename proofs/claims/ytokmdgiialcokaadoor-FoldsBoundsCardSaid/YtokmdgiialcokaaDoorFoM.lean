/- The law Scans. -/
import Derived.Test.YtokmdgiialcokaaDoorFoL
import Derived.Deep.DeepCutAuto
namespace Go.Proofs.YtokmdgiialcokaaDoor
open Go.RowKit

theorem eq2t11 (a b : Int) (w : World) : (Op.equalIn 10000 22 (.agg #[.int .i64 a, .int .i64 b]) (.agg #[.int .i64 a, .int .i64 b])).run Tryd.prog w = .ok true w := (eq2 a b a b w).trans (by rw [decide_eq_true ⟨rfl, rfl⟩])
theorem ofR_r {A : Ar} (hr : A.r = 1 ∨ A.r = 2) (z : List Int) : (ofR A z).k = 1 ∧ (ofR A z).r = A.r - 1 := by
  unfold ofR
  rcases hr with e | e
  · rw [if_pos e, e]; exact ⟨rfl, rfl⟩
  · rw [if_neg (by omega), e]; exact ⟨rfl, rfl⟩

set_option maxRecDepth 100000 in
set_option maxHeartbeats 16000000 in
theorem lawScans_any (A : Ar) (v : Value) (w : World) (hw : Ru.Lay w) (hv : RdI w.heap.size w v A.z) (hn : Ru.NilC v) (h64 : in64 A.z) (haw : ∀ W, Ru.Lay W → Calls Tryd.prog 25 #[] W fun e w' => e = .returned (.bool true) ∧ Below W.heap.size W w') :
    Calls Tryd.prog 7 #[A5 A.k A.r A.a A.b v] w fun e w' => e = .returned (.bool true) ∧ Below w.heap.size w w' := by
  have HG := Lib.hid (fun W h => good_any A v W h)
  have HAw := Lib.hid haw
  clear haw
  have HK : Hid (KVar w [⟨w.heap.size, A, v⟩] (w.alloc (.cells #[.int .i64 A.k, .int .i64 A.r, .int .i64 A.a, .int .i64 A.b, v] 25))) := (KVar.start w hw).arg A hv hn
  have HI := Lib.hid h64
  obtain ⟨p, cap, rfl, _, _, _⟩ := hv
  clear hw hn h64
  have x0 := (HK.out.a _ (.head _)).c0
  have x1 := (HK.out.a _ (.head _)).c1
  have x2 := (HK.out.a _ (.head _)).c2
  have x3 := (HK.out.a _ (.head _)).c3
  have x4 := (HK.out.a _ (.head _)).c4
  by_cases hg0 : gdB A = false
  · rw [hg0] at HG
    clear hg0
    go_enter Tryd.func7, Tryd.ntmps7
    go_wp2_with (first
      | (go_at_call 36; (with_reducible refine (HG.out _ (by with_unfolding_all exact HK.out.r _ (.head _))).mono ?_); rintro e wz ⟨rfl, hb⟩; have HK2 := Lib.hid (HK.out.next hb); clear HK x0 x1 x2 x3 x4; have HK := HK2; clear HK2; clear hb; have x0 := (HK.out.a _ (.head _)).c0; have x1 := (HK.out.a _ (.head _)).c1; have x2 := (HK.out.a _ (.head _)).c2; have x3 := (HK.out.a _ (.head _)).c3; have x4 := (HK.out.a _ (.head _)).c4)
      | (go_at_call 25; (with_reducible refine (HAw.out _ (by with_unfolding_all exact HK.out.lay)).mono ?_); rintro e wz ⟨rfl, hb⟩; have HK2 := Lib.hid (HK.out.next hb); clear HK x0 x1 x2 x3 x4; have HK := HK2; clear HK2; clear hb; have x0 := (HK.out.a _ (.head _)).c0; have x1 := (HK.out.a _ (.head _)).c1; have x2 := (HK.out.a _ (.head _)).c2; have x3 := (HK.out.a _ (.head _)).c3; have x4 := (HK.out.a _ (.head _)).c4) | fail)
    go_ret
    exact ⟨rfl, HK.out.bel⟩
  have hg : gdB A = true := by simpa using hg0
  rw [hg] at HG
  have hA := gdB_yes hg
  have hl := hA.l
  have HS := Lib.hid (fun v W h0 h1 h2 => fsum_any A v W h0 h1 h2 (by omega) HI.out)
  have HC := Lib.hid (fun v W h0 h1 h2 => fscan_any A v W h0 h1 h2 (by omega) HI.out)
  have HWi := Lib.hid (fun v W h => width_any A v W hA h)
  clear hg hg0
  by_cases h0n : smE A ≠ 0
  · have h0 := h0n
    have e12 := hA.sm12 h0
    rw [e12, show smV A = ⟨0, 0, 0, 0, []⟩ from orNo_no h0] at HS
    rw [e12, show sncV A = ⟨0, 0, 0, 0, []⟩ from orNo_no h0] at HC
    clear e12 h0 h0n hA hl HI HWi
    go_enter Tryd.func7, Tryd.ntmps7
    go_wp2_with (first
      | (go_at_call 36; (with_reducible refine (HG.out _ (by with_unfolding_all exact HK.out.r _ (.head _))).mono ?_); rintro e wz ⟨rfl, hb⟩; have HK2 := Lib.hid (HK.out.next hb); clear HK x0 x1 x2 x3 x4; have HK := HK2; clear HK2; clear hb; have x0 := (HK.out.a _ (.head _)).c0; have x1 := (HK.out.a _ (.head _)).c1; have x2 := (HK.out.a _ (.head _)).c2; have x3 := (HK.out.a _ (.head _)).c3; have x4 := (HK.out.a _ (.head _)).c4)
      | (go_at_call 26; (with_reducible refine (HS.out _ _ (by with_unfolding_all exact HK.out.lay) (by with_unfolding_all exact HK.out.r _ (.head _)) (by with_unfolding_all exact HK.out.n _ (.head _))).mono ?_); rintro e wa ⟨uwa, rfl, hu, hb⟩; obtain ⟨pwa, cwa, hpwa, _, _⟩ := hu.form; have hqwa : uwa = (.slice pwa 0 cwa) := hpwa; subst hqwa; clear hpwa; have hltxs : w.heap.size < wa.heap.size := Nat.lt_of_lt_of_le (HK.out.lt _ (.head _)) hb.size; have HK2 := Lib.hid (HK.out.res hb ⟨0, 0, 0, 0, []⟩ hu); clear HK x0 x1 x2 x3 x4; have HK := HK2; clear HK2; clear hb hu; have x0 := (HK.out.a _ (.tail _ (.head _))).c0; have x1 := (HK.out.a _ (.tail _ (.head _))).c1; have x2 := (HK.out.a _ (.tail _ (.head _))).c2; have x3 := (HK.out.a _ (.tail _ (.head _))).c3; have x4 := (HK.out.a _ (.tail _ (.head _))).c4; have s0 := (HK.out.a _ (.head _)).c0; have s1 := (HK.out.a _ (.head _)).c1; have s2 := (HK.out.a _ (.head _)).c2; have s3 := (HK.out.a _ (.head _)).c3; have s4 := (HK.out.a _ (.head _)).c4)
      | (go_at_call 28; (with_reducible refine (HC.out _ _ (by with_unfolding_all exact HK.out.lay) (by with_unfolding_all exact HK.out.r _ (.tail _ (.head _))) (by with_unfolding_all exact HK.out.n _ (.tail _ (.head _)))).mono ?_); rintro e wb ⟨uwb, rfl, hu, hb⟩; obtain ⟨pwb, cwb, hpwb, _, _⟩ := hu.form; have hqwb : uwb = (.slice pwb 0 cwb) := hpwb; subst hqwb; clear hpwb; have hltsc : wa.heap.size < wb.heap.size := Nat.lt_of_lt_of_le (HK.out.lt _ (.head _)) hb.size; have hltxc : w.heap.size < wb.heap.size := Nat.lt_of_lt_of_le (HK.out.lt _ (.tail _ (.head _))) hb.size; have HK2 := Lib.hid (HK.out.res hb ⟨0, 0, 0, 0, []⟩ hu); clear HK x0 x1 x2 x3 x4 s0 s1 s2 s3 s4; have HK := HK2; clear HK2; clear hb hu; have x0 := (HK.out.a _ (.tail _ (.tail _ (.head _)))).c0; have x1 := (HK.out.a _ (.tail _ (.tail _ (.head _)))).c1; have x2 := (HK.out.a _ (.tail _ (.tail _ (.head _)))).c2; have x3 := (HK.out.a _ (.tail _ (.tail _ (.head _)))).c3; have x4 := (HK.out.a _ (.tail _ (.tail _ (.head _)))).c4; have s0 := (HK.out.a _ (.tail _ (.head _))).c0; have s1 := (HK.out.a _ (.tail _ (.head _))).c1; have s2 := (HK.out.a _ (.tail _ (.head _))).c2; have s3 := (HK.out.a _ (.tail _ (.head _))).c3; have s4 := (HK.out.a _ (.tail _ (.head _))).c4; have c0 := (HK.out.a _ (.head _)).c0; have c1 := (HK.out.a _ (.head _)).c1; have c2 := (HK.out.a _ (.head _)).c2; have c3 := (HK.out.a _ (.head _)).c3; have c4 := (HK.out.a _ (.head _)).c4)
      | (go_at_call 25; (with_reducible refine (HAw.out _ (by with_unfolding_all exact HK.out.lay)).mono ?_); rintro e wz ⟨rfl, hb⟩; have HK2 := Lib.hid (HK.out.next hb); clear HK x0 x1 x2 x3 x4 s0 s1 s2 s3 s4 c0 c1 c2 c3 c4; have HK := HK2; clear HK2; clear hb; have x0 := (HK.out.a _ (.tail _ (.tail _ (.head _)))).c0; have x1 := (HK.out.a _ (.tail _ (.tail _ (.head _)))).c1; have x2 := (HK.out.a _ (.tail _ (.tail _ (.head _)))).c2; have x3 := (HK.out.a _ (.tail _ (.tail _ (.head _)))).c3; have x4 := (HK.out.a _ (.tail _ (.tail _ (.head _)))).c4; have s0 := (HK.out.a _ (.tail _ (.head _))).c0; have s1 := (HK.out.a _ (.tail _ (.head _))).c1; have s2 := (HK.out.a _ (.tail _ (.head _))).c2; have s3 := (HK.out.a _ (.tail _ (.head _))).c3; have s4 := (HK.out.a _ (.tail _ (.head _))).c4; have c0 := (HK.out.a _ (.head _)).c0; have c1 := (HK.out.a _ (.head _)).c1; have c2 := (HK.out.a _ (.head _)).c2; have c3 := (HK.out.a _ (.head _)).c3; have c4 := (HK.out.a _ (.head _)).c4)
      | fail)
    go_ret
    exact ⟨rfl, HK.out.bel⟩
  have h0 : smE A = 0 := by omega
  have hAt := fun {i : Nat} (hi : i < rwN A) => smV_at hA h0 hi
  have hBt := fun {i k : Nat} (hi : i < rwN A) (hk : k < rwM A) => snc_at hA h0 hi hk
  have hCt := fun {i k : Nat} (hi : i < rwN A) (hk : k < rwM A) => cell_row hA.c hi hk
  have hIl := fun {i : Nat} (hi : i < rwN A) => rwI_len (ck_good hA.c) hi
  have hck : ck A = 0 := hA.c
  obtain ⟨_, _, r2, r3, r4⟩ := rw_good (ck_good hck)
  have hsl : (smV A).z.length = rwN A := by unfold smV; rw [orNo_yes h0, ofR_z, vsL_len, sm_len hck]
  have hcl : (sncV A).z.length = A.z.length := by unfold sncV; rw [orNo_yes h0]; exact flt_len hck
  have hs1 : (smV A).k = 1 ∧ (smV A).r = A.r - 1 := by unfold smV; rw [orNo_yes h0]; exact ofR_r hA.r _
  have hc1 : (sncV A).k = 1 ∧ (sncV A).r = A.r ∧ (sncV A).a = A.a ∧ (sncV A).b = A.b := by unfold sncV; rw [orNo_yes h0]; exact ⟨rfl, rfl, rfl, rfl⟩
  rw [h0] at HS HC
  have hwq : IntKind.i64.wrap (A.r - 1) = A.r - 1 := by rw [IntKind.wrap_i64]; rcases hA.r with e | e <;> rw [e] <;> decide
  generalize smV A = S at HS hAt hsl hs1
  generalize sncV A = C at HC hBt hcl hc1
  obtain ⟨S1, S2, S3, S4, sz⟩ := S
  obtain ⟨C1, C2, C3, C4, cz⟩ := C
  obtain ⟨Ak, Ar, Aa, Ab, Az⟩ := A
  simp only at *
  obtain ⟨rfl, hq⟩ := hs1
  obtain ⟨rfl, rfl, rfl, rfl⟩ := hc1
  have hk1 : Ak = 1 := hA.k
  subst hk1
  have hwq2 : IntKind.i64.wrap (C2 - 1) = S2 := hwq.trans hq.symm
  clear hwq
  have hwq := hwq2
  clear hwq2
  have heq := fun W => eq2t11 C3 C4 W
  obtain ⟨n, hn⟩ : ∃ n, rwN ⟨1, C2, C3, C4, Az⟩ = n := ⟨_, rfl⟩
  obtain ⟨m, hm⟩ : ∃ m, rwM ⟨1, C2, C3, C4, Az⟩ = m := ⟨_, rfl⟩
  rw [hn] at r2 r3 HWi hsl
  rw [hm] at r2 r4 HWi
  have k1 : ((sz.length : Int) != (n : Int)) = false := by rw [hsl]; simp
  have k2 : ((cz.length : Int) != (Az.length : Int)) = false := by rw [hcl]; simp
  have HSl := Lib.hid hsl
  have HCl := Lib.hid hcl
  have HR2 := Lib.hid r2
  have HAt : Hid (∀ i, i < n → sz.getD i 0 = (rwI ⟨1, C2, C3, C4, Az⟩ i).sum) := fun i hi => hAt (by rw [hn]; exact hi)
  have HBt : Hid (∀ i k, i < n → k < m → cz.getD (i * m + k) 0 = ((rwI ⟨1, C2, C3, C4, Az⟩ i).take (k + 1)).sum) := fun i k hi hk => by have := hBt (i := i) (k := k) (by rw [hn]; exact hi) (by rw [hm]; exact hk); rw [hm] at this; exact this
  have HCt : Hid (∀ i k, i < n → k < m → Az.getD (i * m + k) 0 = (rwI ⟨1, C2, C3, C4, Az⟩ i).getD k 0) := fun i k hi hk => by have := hCt (i := i) (k := k) (by rw [hn]; exact hi) (by rw [hm]; exact hk); rw [hm] at this; exact this
  have HIl : Hid (∀ i, i < n → (rwI ⟨1, C2, C3, C4, Az⟩ i).length = m) := fun i hi => by have := hIl (i := i) (by rw [hn]; exact hi); rw [hm] at this; exact this
  clear hAt hBt hCt hIl hsl hcl r2 hn hm h0 hA hck hq
  go_enter Tryd.func7, Tryd.ntmps7
  go_wp2_with (first
    | (go_at_call 36; (with_reducible refine (HG.out _ (by with_unfolding_all exact HK.out.r _ (.head _))).mono ?_); rintro e wz ⟨rfl, hb⟩; have HK2 := Lib.hid (HK.out.next hb); clear HK x0 x1 x2 x3 x4; have HK := HK2; clear HK2; clear hb; have x0 := (HK.out.a _ (.head _)).c0; have x1 := (HK.out.a _ (.head _)).c1; have x2 := (HK.out.a _ (.head _)).c2; have x3 := (HK.out.a _ (.head _)).c3; have x4 := (HK.out.a _ (.head _)).c4)
    | (go_at_call 26; (with_reducible refine (HS.out _ _ (by with_unfolding_all exact HK.out.lay) (by with_unfolding_all exact HK.out.r _ (.head _)) (by with_unfolding_all exact HK.out.n _ (.head _))).mono ?_); rintro e wa ⟨uwa, rfl, hu, hb⟩; obtain ⟨pwa, cwa, hpwa, _, _⟩ := hu.form; have hqwa : uwa = (.slice pwa sz.length cwa) := hpwa; subst hqwa; clear hpwa; have hltxs : w.heap.size < wa.heap.size := Nat.lt_of_lt_of_le (HK.out.lt _ (.head _)) hb.size; have HK2 := Lib.hid (HK.out.res hb ⟨1, S2, S3, S4, sz⟩ hu); clear HK x0 x1 x2 x3 x4; have HK := HK2; clear HK2; clear hb hu; have x0 := (HK.out.a _ (.tail _ (.head _))).c0; have x1 := (HK.out.a _ (.tail _ (.head _))).c1; have x2 := (HK.out.a _ (.tail _ (.head _))).c2; have x3 := (HK.out.a _ (.tail _ (.head _))).c3; have x4 := (HK.out.a _ (.tail _ (.head _))).c4; have s0 := (HK.out.a _ (.head _)).c0; have s1 := (HK.out.a _ (.head _)).c1; have s2 := (HK.out.a _ (.head _)).c2; have s3 := (HK.out.a _ (.head _)).c3; have s4 := (HK.out.a _ (.head _)).c4)
    | (go_at_call 28; (with_reducible refine (HC.out _ _ (by with_unfolding_all exact HK.out.lay) (by with_unfolding_all exact HK.out.r _ (.tail _ (.head _))) (by with_unfolding_all exact HK.out.n _ (.tail _ (.head _)))).mono ?_); rintro e wb ⟨uwb, rfl, hu, hb⟩; obtain ⟨pwb, cwb, hpwb, _, _⟩ := hu.form; have hqwb : uwb = (.slice pwb cz.length cwb) := hpwb; subst hqwb; clear hpwb; have hltsc : wa.heap.size < wb.heap.size := Nat.lt_of_lt_of_le (HK.out.lt _ (.head _)) hb.size; have hltxc : w.heap.size < wb.heap.size := Nat.lt_of_lt_of_le (HK.out.lt _ (.tail _ (.head _))) hb.size; have HK2 := Lib.hid (HK.out.res hb ⟨1, C2, C3, C4, cz⟩ hu); clear HK x0 x1 x2 x3 x4 s0 s1 s2 s3 s4; have HK := HK2; clear HK2; clear hb hu; have x0 := (HK.out.a _ (.tail _ (.tail _ (.head _)))).c0; have x1 := (HK.out.a _ (.tail _ (.tail _ (.head _)))).c1; have x2 := (HK.out.a _ (.tail _ (.tail _ (.head _)))).c2; have x3 := (HK.out.a _ (.tail _ (.tail _ (.head _)))).c3; have x4 := (HK.out.a _ (.tail _ (.tail _ (.head _)))).c4; have s0 := (HK.out.a _ (.tail _ (.head _))).c0; have s1 := (HK.out.a _ (.tail _ (.head _))).c1; have s2 := (HK.out.a _ (.tail _ (.head _))).c2; have s3 := (HK.out.a _ (.tail _ (.head _))).c3; have s4 := (HK.out.a _ (.tail _ (.head _))).c4; have c0 := (HK.out.a _ (.head _)).c0; have c1 := (HK.out.a _ (.head _)).c1; have c2 := (HK.out.a _ (.head _)).c2; have c3 := (HK.out.a _ (.head _)).c3; have c4 := (HK.out.a _ (.head _)).c4)
    | (go_at_call 37; (with_reducible refine (HWi.out _ _ (by with_unfolding_all exact HK.out.r _ (.tail _ (.tail _ (.head _))))).mono ?_); rintro e wz ⟨rfl, hb⟩; have HK2 := Lib.hid (HK.out.next hb); clear HK x0 x1 x2 x3 x4 s0 s1 s2 s3 s4 c0 c1 c2 c3 c4; have HK := HK2; clear HK2; clear hb; have x0 := (HK.out.a _ (.tail _ (.tail _ (.head _)))).c0; have x1 := (HK.out.a _ (.tail _ (.tail _ (.head _)))).c1; have x2 := (HK.out.a _ (.tail _ (.tail _ (.head _)))).c2; have x3 := (HK.out.a _ (.tail _ (.tail _ (.head _)))).c3; have x4 := (HK.out.a _ (.tail _ (.tail _ (.head _)))).c4; have s0 := (HK.out.a _ (.tail _ (.head _))).c0; have s1 := (HK.out.a _ (.tail _ (.head _))).c1; have s2 := (HK.out.a _ (.tail _ (.head _))).c2; have s3 := (HK.out.a _ (.tail _ (.head _))).c3; have s4 := (HK.out.a _ (.tail _ (.head _))).c4; have c0 := (HK.out.a _ (.head _)).c0; have c1 := (HK.out.a _ (.head _)).c1; have c2 := (HK.out.a _ (.head _)).c2; have c3 := (HK.out.a _ (.head _)).c3; have c4 := (HK.out.a _ (.head _)).c4)
    | fail)
  clear HG HS HC HWi heq k1 k2 hwq x0 x1 x2 x3 x4 s0 s1 s2 s3 s4 c0 c1 c2 c3 c4
  have hgw : wa.heap.size < wz.heap.size ∧ wb.heap.size < wz.heap.size ∧ w.heap.size < wz.heap.size := ⟨HK.out.lt _ (.tail _ (.head _)), HK.out.lt _ (.head _), HK.out.lt _ (.tail _ (.tail _ (.head _)))⟩
  go_loopg [9] n (fun gk i wr => ∃ j : Nat, j + gk = n ∧ i = .int .i64 j ∧ KVar w [⟨wb.heap.size, ⟨1, C2, C3, C4, cz⟩, (.slice pwb cz.length cwb)⟩, ⟨wa.heap.size, ⟨1, S2, S3, S4, sz⟩, (.slice pwa sz.length cwa)⟩, ⟨w.heap.size, ⟨1, C2, C3, C4, Az⟩, (.slice p Az.length cap)⟩] wr)
  case atStart => exact ⟨0, by omega, rfl, HK.out⟩
  case round =>
    obtain ⟨j, hjg, rfl, hk⟩ := hrel
    have HK2 := Lib.hid hk
    clear hk HK
    have HK := HK2
    clear HK2
    cases gk with
    | zero =>
      have hjz : ¬ ((j : Int) < (n : Int)) := by omega
      clear HAt HBt HCt HIl
      go_wp2_with (first | (go_at_call 25; (with_reducible refine (HAw.out _ (by with_unfolding_all exact HK.out.lay)).mono ?_); rintro e wz ⟨rfl, hb⟩; have HK2 := Lib.hid (HK.out.next hb); clear HK; have HK := HK2; clear HK2; clear hb) | fail)
      go_ret
      exact ⟨rfl, HK.out.bel⟩
    | succ g2 =>
      have hjz : (j : Int) < (n : Int) := by omega
      have hj : j < n := by omega
      have hw0 : IntKind.i64.wrap ((j : Int) + 1) = (j : Int) + 1 := by rw [IntKind.wrap_i64]; omega
      have HAj := Lib.hid (HAt.out j hj)
      have HBj := Lib.hid (fun k hk => HBt.out j k hj hk)
      have HCj := Lib.hid (fun k hk => HCt.out j k hj hk)
      have HIj := Lib.hid (HIl.out j hj)
      generalize rwI ⟨1, C2, C3, C4, Az⟩ j = row at HAj HBj HCj HIj
      have hle := Nat.mul_le_mul_right m (show j + 1 ≤ n by omega)
      rw [Nat.add_mul, Nat.one_mul] at hle
      have hla : j * m + m ≤ Az.length := by rw [← HR2.out]; exact hle
      clear HAt HBt HCt HIl hle
      obtain ⟨d, hd⟩ : ∃ d, j * m = d := ⟨_, rfl⟩
      have hwa : IntKind.i64.wrap ((j : Int) * (m : Int)) = (d : Int) := by rw [← Int.natCast_mul, IntKind.wrap_i64, hd]; omega
      rw [hd] at hla HBj HCj
      clear hd
      go_wp2_with fail
      go_loopg [10, 11] m (fun gk l i wr => ∃ (t : Nat) (x : Int), t + gk = m ∧ l = .int .i64 x ∧ i = .int .i64 t ∧ x = (row.take t).sum ∧ KVar w [⟨wb.heap.size, ⟨1, C2, C3, C4, cz⟩, (.slice pwb cz.length cwb)⟩, ⟨wa.heap.size, ⟨1, S2, S3, S4, sz⟩, (.slice pwa sz.length cwa)⟩, ⟨w.heap.size, ⟨1, C2, C3, C4, Az⟩, (.slice p Az.length cap)⟩] wr)
      case atStart => exact ⟨0, _, by omega, rfl, rfl, rfl, HK.out⟩
      case round =>
        obtain ⟨t, x, htg, rfl, rfl, hx, hk⟩ := hrel
        have HX := Lib.hid hx
        have HK2 := Lib.hid hk
        clear hk hx HK
        have HK := HK2
        clear HK2
        have x0 := (HK.out.a _ (.tail _ (.tail _ (.head _)))).c0
        have x1 := (HK.out.a _ (.tail _ (.tail _ (.head _)))).c1
        have x2 := (HK.out.a _ (.tail _ (.tail _ (.head _)))).c2
        have x3 := (HK.out.a _ (.tail _ (.tail _ (.head _)))).c3
        have x4 := (HK.out.a _ (.tail _ (.tail _ (.head _)))).c4
        have s0 := (HK.out.a _ (.tail _ (.head _))).c0
        have s1 := (HK.out.a _ (.tail _ (.head _))).c1
        have s2 := (HK.out.a _ (.tail _ (.head _))).c2
        have s3 := (HK.out.a _ (.tail _ (.head _))).c3
        have s4 := (HK.out.a _ (.tail _ (.head _))).c4
        have c0 := (HK.out.a _ (.head _)).c0
        have c1 := (HK.out.a _ (.head _)).c1
        have c2 := (HK.out.a _ (.head _)).c2
        have c3 := (HK.out.a _ (.head _)).c3
        have c4 := (HK.out.a _ (.head _)).c4
        cases gk with
        | zero =>
          have htz : ¬ ((t : Int) < (m : Int)) := by omega
          have hsj : j < sz.length := by rw [HSl.out]; exact hj
          have hsx : sz.getD j 0 = x := by rw [HAj.out, HX.out, List.take_of_length_le (by rw [HIj.out]; omega)]
          obtain ⟨bs, os, hps, hbs, hcs⟩ := (HK.out.r _ (.tail _ (.head _))).cells (by intro e; have e2 : sz = [] := e; rw [e2] at hsj; simp at hsj)
          subst hps
          have hy : wr.cell? ⟨bs, os + j, none⟩ = some (.int .i64 sz[j]) := hcs j hsj
          rw [← show sz.getD j 0 = sz[j] by simp [List.getD_eq_getElem?_getD, hsj], hsx] at hy
          clear hcs hsx HX HAj HBj HCj HIj
          go_wp2_with fail
          go_roundg g2
          case measure => omega
          case rel => exact ⟨j + 1, by omega, by go_num, HK.out⟩
        | succ g3 =>
          have htz : (t : Int) < (m : Int) := by omega
          have ht : t < m := by omega
          have hw1 : IntKind.i64.wrap ((t : Int) + 1) = (t : Int) + 1 := by rw [IntKind.wrap_i64]; omega
          have hlc : d + t < Az.length := by omega
          have hlz : d + t < cz.length := by rw [HCl.out]; exact hlc
          obtain ⟨ba, oa, hpa, hba, hca⟩ := (HK.out.r _ (.tail _ (.tail _ (.head _)))).cells (by intro e; have e2 : Az = [] := e; rw [e2] at hlc; simp at hlc)
          obtain ⟨bc, oc, hpc, hbc, hcc⟩ := (HK.out.r _ (.head _)).cells (by intro e; have e2 : cz = [] := e; rw [e2] at hlz; simp at hlz)
          subst hpa hpc
          have hya : wr.cell? ⟨ba, oa + (d + t), none⟩ = some (.int .i64 Az[d + t]) := hca (d + t) hlc
          have hyc : wr.cell? ⟨bc, oc + (d + t), none⟩ = some (.int .i64 cz[d + t]) := hcc (d + t) hlz
          rw [← show Az.getD (d + t) 0 = Az[d + t] by simp [List.getD_eq_getElem?_getD, hlc], HCj.out t ht] at hya
          rw [← show cz.getD (d + t) 0 = cz[d + t] by simp [List.getD_eq_getElem?_getD, hlz], HBj.out t ht] at hyc
          have hts := take_sum (row := row) (t := t) (by rw [HIj.out]; exact ht)
          rw [← HX.out] at hts
          have hin : Sc.inr (row.getD t 0) = true := by rw [← HCj.out t ht]; exact HI.out.get (d + t)
          have hwd : IntKind.i64.wrap ((row.take (t + 1)).sum - x) = row.getD t 0 := by rw [hts, show x + row.getD t 0 - x = row.getD t 0 by omega, IntKind.wrap_i64]; have := Sc.inr_iff.1 hin; omega
          clear hca hcc hts hin HX
          generalize row.getD t 0 = cc at hya hwd
          obtain ⟨yy, hyy⟩ : ∃ yy, (row.take (t + 1)).sum = yy := ⟨_, rfl⟩
          rw [hyy] at hyc hwd
          have HTk := Lib.hid hyy.symm
          clear hyy
          have hwe : IntKind.i64.wrap ((d : Int) + (t : Int)) = ((d + t : Nat) : Int) := by rw [IntKind.wrap_i64]; omega
          generalize hde : d + t = e at *
          clear HBj HCj HIj HAj hde
          go_wp2_with fail
          go_quiet (fail)
          generalize hW1 : World.drewN _ nq = W1
          have hd1 : Below wr.heap.size wr W1 := by rw [← hW1]; exact drewN_below _ nq
          have HK1 := Lib.hid (HK.out.next hd1)
          have hyc1 : W1.cell? ⟨bc, oc + e, none⟩ = some (.int .i64 yy) := (hd1.cell (p := ⟨bc, oc + e, none⟩) hbc).trans hyc
          clear hW1 hd1 hya hyc HK x0 x1 x2 x3 x4 s0 s1 s2 s3 s4 c0 c1 c2 c3 c4
          have HK := HK1
          clear HK1
          have x0 := (HK.out.a _ (.tail _ (.tail _ (.head _)))).c0
          have x1 := (HK.out.a _ (.tail _ (.tail _ (.head _)))).c1
          have x2 := (HK.out.a _ (.tail _ (.tail _ (.head _)))).c2
          have x3 := (HK.out.a _ (.tail _ (.tail _ (.head _)))).c3
          have x4 := (HK.out.a _ (.tail _ (.tail _ (.head _)))).c4
          have s0 := (HK.out.a _ (.tail _ (.head _))).c0
          have s1 := (HK.out.a _ (.tail _ (.head _))).c1
          have s2 := (HK.out.a _ (.tail _ (.head _))).c2
          have s3 := (HK.out.a _ (.tail _ (.head _))).c3
          have s4 := (HK.out.a _ (.tail _ (.head _))).c4
          have c0 := (HK.out.a _ (.head _)).c0
          have c1 := (HK.out.a _ (.head _)).c1
          have c2 := (HK.out.a _ (.head _)).c2
          have c3 := (HK.out.a _ (.head _)).c3
          have c4 := (HK.out.a _ (.head _)).c4
          go_wp2_with fail
          go_roundg g3
          case measure => omega
          case rel => exact ⟨t + 1, yy, by omega, rfl, by go_num, HTk.out, HK.out⟩
end Go.Proofs.YtokmdgiialcokaaDoor
