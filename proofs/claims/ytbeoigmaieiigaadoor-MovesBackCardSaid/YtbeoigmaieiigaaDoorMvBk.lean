/- The law MovesBack. -/
import Derived.Test.YtbeoigmaieiigaaDoorMvKb
import Derived.Test.YtbeoigmaieiigaaDoorMvPb
import Derived.Test.YtbeoigmaieiigaaDoorMvV
namespace Go.Proofs.YtbeoigmaieiigaaDoor
open Go.RowKit

set_option maxRecDepth 100000 in
set_option maxHeartbeats 32000000 in
theorem lawBack_any (A : Ar) (v : Value) (w : World) (hw : Ru.Lay w) (hv : RdI w.heap.size w v A.z) (hn : Ru.NilC v) (haw : ∀ W, Ru.Lay W → Calls Tryd.prog 12 #[] W fun e w' => e = .returned (.bool true) ∧ Below W.heap.size W w') :
    Calls Tryd.prog 7 #[A5 A.k A.r A.a A.b v] w fun e w' => e = .returned (.bool true) ∧ Below w.heap.size w w' := by
  have HF := Lib.hid (fun W h => far7_any A v W h)
  have HAw := Lib.hid haw
  clear haw
  have HK := Lib.hid ((KVar.start w hw).arg A hv hn)
  have HN := Lib.hid hn
  obtain ⟨p, cap, rfl, _, _, _⟩ := hv
  clear hw hn
  have x0 := (HK.out.a _ (.head _)).c0
  have x1 := (HK.out.a _ (.head _)).c1
  have x2 := (HK.out.a _ (.head _)).c2
  have x3 := (HK.out.a _ (.head _)).c3
  have x4 := (HK.out.a _ (.head _)).c4
  by_cases hf : 405 < A.z.length
  · rw [decide_eq_true hf] at HF
    clear hf
    go_enter Tryd.func7, Tryd.ntmps7
    go_wp2_with (first
      | (go_at_call 11; (with_reducible refine (HF.out _ (by with_unfolding_all exact HK.out.r _ (.head _))).mono ?_); rintro e wz ⟨rfl, hb⟩; have HK2 := Lib.hid (HK.out.next hb); clear HK x0 x1 x2 x3 x4; have HK := HK2; clear HK2; clear hb; have x0 := (HK.out.a _ (.head _)).c0; have x1 := (HK.out.a _ (.head _)).c1; have x2 := (HK.out.a _ (.head _)).c2; have x3 := (HK.out.a _ (.head _)).c3; have x4 := (HK.out.a _ (.head _)).c4)
      | (go_at_call 12; (with_reducible refine (HAw.out _ (by with_unfolding_all exact HK.out.lay)).mono ?_); rintro e wz ⟨rfl, hb⟩; have HK2 := Lib.hid (HK.out.next hb); clear HK x0 x1 x2 x3 x4; have HK := HK2; clear HK2; clear hb; have x0 := (HK.out.a _ (.head _)).c0; have x1 := (HK.out.a _ (.head _)).c1; have x2 := (HK.out.a _ (.head _)).c2; have x3 := (HK.out.a _ (.head _)).c3; have x4 := (HK.out.a _ (.head _)).c4))
    go_ret
    exact ⟨rfl, HK.out.bel⟩
  · rw [decide_eq_false hf] at HF
    have hl : A.z.length ≤ 1000000 := by omega
    have HCh := Lib.hid (fun W h => archeck_any A (.slice p A.z.length cap) W h hl)
    by_cases hc : ck A = 0
    rotate_left
    · obtain ⟨E, hE⟩ : ∃ E, ck A = E := ⟨_, rfl⟩
      rw [hE] at hc HCh
      have k1 : (E != 0) = true := by simpa using hc
      clear hE hc hf
      go_enter Tryd.func7, Tryd.ntmps7
      go_wp2_with (first
        | (go_at_call 11; (with_reducible refine (HF.out _ (by with_unfolding_all exact HK.out.r _ (.head _))).mono ?_); rintro e wz ⟨rfl, hb⟩; have HK2 := Lib.hid (HK.out.next hb); clear HK x0 x1 x2 x3 x4; have HK := HK2; clear HK2; clear hb; have x0 := (HK.out.a _ (.head _)).c0; have x1 := (HK.out.a _ (.head _)).c1; have x2 := (HK.out.a _ (.head _)).c2; have x3 := (HK.out.a _ (.head _)).c3; have x4 := (HK.out.a _ (.head _)).c4)
        | (go_at_call 30; (with_reducible refine (HCh.out _ (by with_unfolding_all exact HK.out.r _ (.head _))).mono ?_); rintro e wz ⟨rfl, hb⟩; have HK2 := Lib.hid (HK.out.next hb); clear HK x0 x1 x2 x3 x4; have HK := HK2; clear HK2; clear hb; have x0 := (HK.out.a _ (.head _)).c0; have x1 := (HK.out.a _ (.head _)).c1; have x2 := (HK.out.a _ (.head _)).c2; have x3 := (HK.out.a _ (.head _)).c3; have x4 := (HK.out.a _ (.head _)).c4)
        | (go_at_call 12; (with_reducible refine (HAw.out _ (by with_unfolding_all exact HK.out.lay)).mono ?_); rintro e wz ⟨rfl, hb⟩; have HK2 := Lib.hid (HK.out.next hb); clear HK x0 x1 x2 x3 x4; have HK := HK2; clear HK2; clear hb; have x0 := (HK.out.a _ (.head _)).c0; have x1 := (HK.out.a _ (.head _)).c1; have x2 := (HK.out.a _ (.head _)).c2; have x3 := (HK.out.a _ (.head _)).c3; have x4 := (HK.out.a _ (.head _)).c4))
      go_ret
      exact ⟨rfl, HK.out.bel⟩
    rw [hc] at HCh
    have hA := ck_good hc
    clear hc hf
    have HV1 := Lib.hid (fun W h0 h1 => mreverse_any A (.slice p A.z.length cap) W h0 h1 hl)
    have hr3 : A.r = 0 ∨ A.r = 1 ∨ A.r = 2 := by
      have := hA.sh
      obtain ⟨k, r, a, b, z⟩ := A
      simp only at this ⊢
      cases this <;> omega
    rcases hr3 with hr | hr | hr
    · have hE : rvE A = 22 := by unfold rvE oneE; rw [if_pos (good_ck hA), if_pos (by omega)]
      rw [show rvV A = ⟨0, 0, 0, 0, []⟩ from orNo_no (by rw [hE]; decide), hE] at HV1
      have HFl := Lib.hid (fun p c W => fails_no 22 p c W)
      have HR0 := Lib.hid hr
      have k1 : (A.r == 0) = true := by simpa using hr
      clear hE hA hr hl
      go_enter Tryd.func7, Tryd.ntmps7
      go_wp2_with (first
        | (go_at_call 11; (with_reducible refine (HF.out _ (by with_unfolding_all exact HK.out.r _ (.head _))).mono ?_); rintro e wz ⟨rfl, hb⟩; have HK2 := Lib.hid (HK.out.next hb); clear HK x0 x1 x2 x3 x4; have HK := HK2; clear HK2; clear hb; have x0 := (HK.out.a _ (.head _)).c0; have x1 := (HK.out.a _ (.head _)).c1; have x2 := (HK.out.a _ (.head _)).c2; have x3 := (HK.out.a _ (.head _)).c3; have x4 := (HK.out.a _ (.head _)).c4)
        | (go_at_call 30; (with_reducible refine (HCh.out _ (by with_unfolding_all exact HK.out.r _ (.head _))).mono ?_); rintro e wz ⟨rfl, hb⟩; have HK2 := Lib.hid (HK.out.next hb); clear HK x0 x1 x2 x3 x4; have HK := HK2; clear HK2; clear hb; have x0 := (HK.out.a _ (.head _)).c0; have x1 := (HK.out.a _ (.head _)).c1; have x2 := (HK.out.a _ (.head _)).c2; have x3 := (HK.out.a _ (.head _)).c3; have x4 := (HK.out.a _ (.head _)).c4)
        | (go_at_call 16; (with_reducible refine (HV1.out _ (by with_unfolding_all exact HK.out.lay) (by with_unfolding_all exact HK.out.r _ (.head _))).mono ?_); rintro e wa ⟨uwa, rfl, hu, hb⟩; obtain ⟨pwa, cwa, hpwa, _, _⟩ := hu.form; have hqwa : uwa = (.slice pwa 0 cwa) := hpwa; subst hqwa; clear hpwa; have hltxy : w.heap.size < wa.heap.size := Nat.lt_of_lt_of_le (HK.out.lt _ (.head _)) hb.size; have HK2 := Lib.hid (HK.out.res hb ⟨0, 0, 0, 0, []⟩ hu); clear HK x0 x1 x2 x3 x4; have HK := HK2; clear HK2; clear hb hu; have x0 := (HK.out.a _ (.tail _ (.head _))).c0; have x1 := (HK.out.a _ (.tail _ (.head _))).c1; have x2 := (HK.out.a _ (.tail _ (.head _))).c2; have x3 := (HK.out.a _ (.tail _ (.head _))).c3; have x4 := (HK.out.a _ (.tail _ (.head _))).c4; have y0 := (HK.out.a _ (.head _)).c0; have y1 := (HK.out.a _ (.head _)).c1; have y2 := (HK.out.a _ (.head _)).c2; have y3 := (HK.out.a _ (.head _)).c3; have y4 := (HK.out.a _ (.head _)).c4)
        | (go_at_call 31; (with_reducible refine (HFl.out _ _ _).mono ?_); rintro e wz ⟨rfl, hb⟩; have HK2 := Lib.hid (HK.out.next hb); clear HK x0 x1 x2 x3 x4 y0 y1 y2 y3 y4; have HK := HK2; clear HK2; clear hb; have x0 := (HK.out.a _ (.tail _ (.head _))).c0; have x1 := (HK.out.a _ (.tail _ (.head _))).c1; have x2 := (HK.out.a _ (.tail _ (.head _))).c2; have x3 := (HK.out.a _ (.tail _ (.head _))).c3; have x4 := (HK.out.a _ (.tail _ (.head _))).c4; have y0 := (HK.out.a _ (.head _)).c0; have y1 := (HK.out.a _ (.head _)).c1; have y2 := (HK.out.a _ (.head _)).c2; have y3 := (HK.out.a _ (.head _)).c3; have y4 := (HK.out.a _ (.head _)).c4)
        | (go_at_call 12; (with_reducible refine (HAw.out _ (by with_unfolding_all exact HK.out.lay)).mono ?_); rintro e wz ⟨rfl, hb⟩; have HK2 := Lib.hid (HK.out.next hb); clear HK x0 x1 x2 x3 x4 y0 y1 y2 y3 y4; have HK := HK2; clear HK2; clear hb; have x0 := (HK.out.a _ (.tail _ (.head _))).c0; have x1 := (HK.out.a _ (.tail _ (.head _))).c1; have x2 := (HK.out.a _ (.tail _ (.head _))).c2; have x3 := (HK.out.a _ (.tail _ (.head _))).c3; have x4 := (HK.out.a _ (.tail _ (.head _))).c4; have y0 := (HK.out.a _ (.head _)).c0; have y1 := (HK.out.a _ (.head _)).c1; have y2 := (HK.out.a _ (.head _)).c2; have y3 := (HK.out.a _ (.head _)).c3; have y4 := (HK.out.a _ (.head _)).c4)
        | fail)
      go_ret
      exact ⟨rfl, HK.out.bel⟩
    · obtain ⟨t1, t2, t3⟩ := rv_twice hA (.inl hr)
      have hlB : (rvV A).z.length ≤ 1000000 := by rw [rvV_ok hA (.inl hr)]; show (rvZ A).length ≤ _; rw [rvZ_len hA]; exact hl
      have HV2 := Lib.hid (fun u W h0 h1 => mreverse_any (rvV A) u W h0 h1 hlB)
      rw [t1] at HV1
      rw [t2, t3] at HV2
      generalize rvV A = B at HV1 HV2
      obtain ⟨b1, b2, b3, b4, b5⟩ := B
      have HIs := Lib.hid (fun v u W h1 h2 => is_eq A v u W h1 h2 hl)
      have k1 : (A.r == 0) = false := by rw [hr]; rfl
      have k2 : (A.r == 1) = true := by rw [hr]; rfl
      clear t1 t2 t3 hlB hA hr hl
      go_enter Tryd.func7, Tryd.ntmps7
      go_wp2_with (first
        | (go_at_call 11; (with_reducible refine (HF.out _ (by with_unfolding_all exact HK.out.r _ (.head _))).mono ?_); rintro e wz ⟨rfl, hb⟩; have HK2 := Lib.hid (HK.out.next hb); clear HK x0 x1 x2 x3 x4; have HK := HK2; clear HK2; clear hb; have x0 := (HK.out.a _ (.head _)).c0; have x1 := (HK.out.a _ (.head _)).c1; have x2 := (HK.out.a _ (.head _)).c2; have x3 := (HK.out.a _ (.head _)).c3; have x4 := (HK.out.a _ (.head _)).c4)
        | (go_at_call 30; (with_reducible refine (HCh.out _ (by with_unfolding_all exact HK.out.r _ (.head _))).mono ?_); rintro e wz ⟨rfl, hb⟩; have HK2 := Lib.hid (HK.out.next hb); clear HK x0 x1 x2 x3 x4; have HK := HK2; clear HK2; clear hb; have x0 := (HK.out.a _ (.head _)).c0; have x1 := (HK.out.a _ (.head _)).c1; have x2 := (HK.out.a _ (.head _)).c2; have x3 := (HK.out.a _ (.head _)).c3; have x4 := (HK.out.a _ (.head _)).c4)
        | (go_at_call 16; (with_reducible refine (HV2.out _ _ (by with_unfolding_all exact HK.out.lay) (by with_unfolding_all exact HK.out.r _ (.head _))).mono ?_); rintro e wb ⟨uwb, rfl, hu, hb⟩; obtain ⟨pwb, cwb, hpwb, _, _⟩ := hu.form; have hqwb : uwb = (.slice pwb A.z.length cwb) := hpwb; subst hqwb; clear hpwb; have hltyz : wa.heap.size < wb.heap.size := Nat.lt_of_lt_of_le (HK.out.lt _ (.head _)) hb.size; have hltxz : w.heap.size < wb.heap.size := Nat.lt_of_lt_of_le (HK.out.lt _ (.tail _ (.head _))) hb.size; have HK2 := Lib.hid (HK.out.res hb ⟨A.k, A.r, A.a, A.b, A.z⟩ hu); clear HK x0 x1 x2 x3 x4 y0 y1 y2 y3 y4; have HK := HK2; clear HK2; clear hb hu; have x0 := (HK.out.a _ (.tail _ (.tail _ (.head _)))).c0; have x1 := (HK.out.a _ (.tail _ (.tail _ (.head _)))).c1; have x2 := (HK.out.a _ (.tail _ (.tail _ (.head _)))).c2; have x3 := (HK.out.a _ (.tail _ (.tail _ (.head _)))).c3; have x4 := (HK.out.a _ (.tail _ (.tail _ (.head _)))).c4; have y0 := (HK.out.a _ (.tail _ (.head _))).c0; have y1 := (HK.out.a _ (.tail _ (.head _))).c1; have y2 := (HK.out.a _ (.tail _ (.head _))).c2; have y3 := (HK.out.a _ (.tail _ (.head _))).c3; have y4 := (HK.out.a _ (.tail _ (.head _))).c4; have z0 := (HK.out.a _ (.head _)).c0; have z1 := (HK.out.a _ (.head _)).c1; have z2 := (HK.out.a _ (.head _)).c2; have z3 := (HK.out.a _ (.head _)).c3; have z4 := (HK.out.a _ (.head _)).c4)
        | (go_at_call 16; (with_reducible refine (HV1.out _ (by with_unfolding_all exact HK.out.lay) (by with_unfolding_all exact HK.out.r _ (.head _))).mono ?_); rintro e wa ⟨uwa, rfl, hu, hb⟩; obtain ⟨pwa, cwa, hpwa, _, _⟩ := hu.form; have hqwa : uwa = (.slice pwa b5.length cwa) := hpwa; subst hqwa; clear hpwa; have hltxy : w.heap.size < wa.heap.size := Nat.lt_of_lt_of_le (HK.out.lt _ (.head _)) hb.size; have HK2 := Lib.hid (HK.out.res hb ⟨b1, b2, b3, b4, b5⟩ hu); clear HK x0 x1 x2 x3 x4; have HK := HK2; clear HK2; clear hb hu; have x0 := (HK.out.a _ (.tail _ (.head _))).c0; have x1 := (HK.out.a _ (.tail _ (.head _))).c1; have x2 := (HK.out.a _ (.tail _ (.head _))).c2; have x3 := (HK.out.a _ (.tail _ (.head _))).c3; have x4 := (HK.out.a _ (.tail _ (.head _))).c4; have y0 := (HK.out.a _ (.head _)).c0; have y1 := (HK.out.a _ (.head _)).c1; have y2 := (HK.out.a _ (.head _)).c2; have y3 := (HK.out.a _ (.head _)).c3; have y4 := (HK.out.a _ (.head _)).c4)
        | (go_at_call 32; (with_reducible refine (HIs.out _ _ _ (by with_unfolding_all exact HK.out.r _ (.head _)) (by with_unfolding_all exact HK.out.r _ (.tail _ (.tail _ (.head _))))).mono ?_); rintro e wz ⟨rfl, hb⟩; have HK2 := Lib.hid (HK.out.next hb); clear HK x0 x1 x2 x3 x4 y0 y1 y2 y3 y4 z0 z1 z2 z3 z4; have HK := HK2; clear HK2; clear hb; have x0 := (HK.out.a _ (.tail _ (.tail _ (.head _)))).c0; have x1 := (HK.out.a _ (.tail _ (.tail _ (.head _)))).c1; have x2 := (HK.out.a _ (.tail _ (.tail _ (.head _)))).c2; have x3 := (HK.out.a _ (.tail _ (.tail _ (.head _)))).c3; have x4 := (HK.out.a _ (.tail _ (.tail _ (.head _)))).c4; have y0 := (HK.out.a _ (.tail _ (.head _))).c0; have y1 := (HK.out.a _ (.tail _ (.head _))).c1; have y2 := (HK.out.a _ (.tail _ (.head _))).c2; have y3 := (HK.out.a _ (.tail _ (.head _))).c3; have y4 := (HK.out.a _ (.tail _ (.head _))).c4; have z0 := (HK.out.a _ (.head _)).c0; have z1 := (HK.out.a _ (.head _)).c1; have z2 := (HK.out.a _ (.head _)).c2; have z3 := (HK.out.a _ (.head _)).c3; have z4 := (HK.out.a _ (.head _)).c4)
        | (go_at_call 12; (with_reducible refine (HAw.out _ (by with_unfolding_all exact HK.out.lay)).mono ?_); rintro e wz ⟨rfl, hb⟩; have HK2 := Lib.hid (HK.out.next hb); clear HK x0 x1 x2 x3 x4 y0 y1 y2 y3 y4 z0 z1 z2 z3 z4; have HK := HK2; clear HK2; clear hb; have x0 := (HK.out.a _ (.tail _ (.tail _ (.head _)))).c0; have x1 := (HK.out.a _ (.tail _ (.tail _ (.head _)))).c1; have x2 := (HK.out.a _ (.tail _ (.tail _ (.head _)))).c2; have x3 := (HK.out.a _ (.tail _ (.tail _ (.head _)))).c3; have x4 := (HK.out.a _ (.tail _ (.tail _ (.head _)))).c4; have y0 := (HK.out.a _ (.tail _ (.head _))).c0; have y1 := (HK.out.a _ (.tail _ (.head _))).c1; have y2 := (HK.out.a _ (.tail _ (.head _))).c2; have y3 := (HK.out.a _ (.tail _ (.head _))).c3; have y4 := (HK.out.a _ (.tail _ (.head _))).c4; have z0 := (HK.out.a _ (.head _)).c0; have z1 := (HK.out.a _ (.head _)).c1; have z2 := (HK.out.a _ (.head _)).c2; have z3 := (HK.out.a _ (.head _)).c3; have z4 := (HK.out.a _ (.head _)).c4)
        | fail)
      go_ret
      exact ⟨rfl, HK.out.bel⟩
    · obtain ⟨t1, t2, t3⟩ := rv_twice hA (.inr hr)
      obtain ⟨f1, f2, f3⟩ := fp_twice hA hr
      have hlB : (rvV A).z.length ≤ 1000000 := by rw [rvV_ok hA (.inr hr)]; show (rvZ A).length ≤ _; rw [rvZ_len hA]; exact hl
      have hlF : (fpV A).z.length ≤ 1000000 := by rw [fpV_ok hA hr]; show (fpZ A).length ≤ _; rw [fpZ_len hA]; exact hl
      have HV2 := Lib.hid (fun u W h0 h1 => mreverse_any (rvV A) u W h0 h1 hlB)
      have HP1 := Lib.hid (fun W h0 h1 => mflip_any A (.slice p A.z.length cap) W h0 h1 HN.out hl)
      have HP2 := Lib.hid (fun u W h0 h1 h2 => mflip_any (fpV A) u W h0 h1 h2 hlF)
      rw [t1] at HV1
      rw [t2, t3] at HV2
      rw [f1] at HP1
      rw [f2, f3] at HP2
      have HTq : Hid (∀ (i : Nat) (u : Value) (W : World), Ru.Lay W → RdI W.heap.size W u (tqN i A).z → Ru.NilC u → Calls Tryd.prog 18 #[A5 (tqN i A).k (tqN i A).r (tqN i A).a (tqN i A).b u] W (RetE (fpV (tqN i A)) 0 W)) := fun i u W h0 h1 h2 => by
        have hi := tqN_ok hA hr i
        have := mflip_any (tqN i A) u W h0 h1 h2 (by rw [hi.2.2]; exact hl)
        rwa [(tq_eq hi.1 hi.2.1).1] at this
      have HTr : Hid (∀ (i : Nat) (u : Value) (W : World), Ru.Lay W → RdI W.heap.size W u (fpV (tqN i A)).z → Calls Tryd.prog 16 #[A5 (fpV (tqN i A)).k (fpV (tqN i A)).r (fpV (tqN i A)).a (fpV (tqN i A)).b u] W (RetE (tqN (i + 1) A) 0 W)) := fun i u W h0 h1 => by
        have hi := tqN_ok hA hr i
        have := mreverse_any (fpV (tqN i A)) u W h0 h1 (by rw [fpV_ok hi.1 hi.2.1]; show (fpZ (tqN i A)).length ≤ _; rw [fpZ_len hi.1, hi.2.2]; exact hl)
        rwa [(tq_eq hi.1 hi.2.1).2.1, (tq_eq hi.1 hi.2.1).2.2] at this
      have HT4 := Lib.hid (tqN_four hA hr)
      generalize rvV A = B at HV1 HV2
      obtain ⟨b1, b2, b3, b4, b5⟩ := B
      generalize fpV A = F at HP1 HP2
      obtain ⟨f1', f2', f3', f4', f5'⟩ := F
      have HIs := Lib.hid (fun v u W h1 h2 => is_eq A v u W h1 h2 hl)
      have HSm := Lib.hid (fun v u W h1 h2 => same_eq A.k A.r A.a A.b A.z v u W h1 h2 hl)
      have k1 : (A.r == 0) = false := by rw [hr]; rfl
      have k2 : (A.r == 1) = false := by rw [hr]; rfl
      clear t1 t2 t3 f1 f2 f3 hlB hlF hA hr hl
      go_enter Tryd.func7, Tryd.ntmps7
      go_wp2_with (first
        | (go_at_call 11; (with_reducible refine (HF.out _ (by with_unfolding_all exact HK.out.r _ (.head _))).mono ?_); rintro e wz ⟨rfl, hb⟩; have HK2 := Lib.hid (HK.out.next hb); clear HK x0 x1 x2 x3 x4; have HK := HK2; clear HK2; clear hb; have x0 := (HK.out.a _ (.head _)).c0; have x1 := (HK.out.a _ (.head _)).c1; have x2 := (HK.out.a _ (.head _)).c2; have x3 := (HK.out.a _ (.head _)).c3; have x4 := (HK.out.a _ (.head _)).c4)
        | (go_at_call 30; (with_reducible refine (HCh.out _ (by with_unfolding_all exact HK.out.r _ (.head _))).mono ?_); rintro e wz ⟨rfl, hb⟩; have HK2 := Lib.hid (HK.out.next hb); clear HK x0 x1 x2 x3 x4; have HK := HK2; clear HK2; clear hb; have x0 := (HK.out.a _ (.head _)).c0; have x1 := (HK.out.a _ (.head _)).c1; have x2 := (HK.out.a _ (.head _)).c2; have x3 := (HK.out.a _ (.head _)).c3; have x4 := (HK.out.a _ (.head _)).c4)
        | (go_at_call 16; (with_reducible refine (HV2.out _ _ (by with_unfolding_all exact HK.out.lay) (by with_unfolding_all exact HK.out.r _ (.head _))).mono ?_); rintro e wb ⟨uwb, rfl, hu, hb⟩; obtain ⟨pwb, cwb, hpwb, _, _⟩ := hu.form; have hqwb : uwb = (.slice pwb A.z.length cwb) := hpwb; subst hqwb; clear hpwb; have hltyz : wa.heap.size < wb.heap.size := Nat.lt_of_lt_of_le (HK.out.lt _ (.head _)) hb.size; have hltxz : w.heap.size < wb.heap.size := Nat.lt_of_lt_of_le (HK.out.lt _ (.tail _ (.head _))) hb.size; have HK2 := Lib.hid (HK.out.res hb ⟨A.k, A.r, A.a, A.b, A.z⟩ hu); clear HK x0 x1 x2 x3 x4 y0 y1 y2 y3 y4; have HK := HK2; clear HK2; clear hb hu; have x0 := (HK.out.a _ (.tail _ (.tail _ (.head _)))).c0; have x1 := (HK.out.a _ (.tail _ (.tail _ (.head _)))).c1; have x2 := (HK.out.a _ (.tail _ (.tail _ (.head _)))).c2; have x3 := (HK.out.a _ (.tail _ (.tail _ (.head _)))).c3; have x4 := (HK.out.a _ (.tail _ (.tail _ (.head _)))).c4; have y0 := (HK.out.a _ (.tail _ (.head _))).c0; have y1 := (HK.out.a _ (.tail _ (.head _))).c1; have y2 := (HK.out.a _ (.tail _ (.head _))).c2; have y3 := (HK.out.a _ (.tail _ (.head _))).c3; have y4 := (HK.out.a _ (.tail _ (.head _))).c4; have z0 := (HK.out.a _ (.head _)).c0; have z1 := (HK.out.a _ (.head _)).c1; have z2 := (HK.out.a _ (.head _)).c2; have z3 := (HK.out.a _ (.head _)).c3; have z4 := (HK.out.a _ (.head _)).c4)
        | (go_at_call 16; (with_reducible refine (HV1.out _ (by with_unfolding_all exact HK.out.lay) (by with_unfolding_all exact HK.out.r _ (.head _))).mono ?_); rintro e wa ⟨uwa, rfl, hu, hb⟩; obtain ⟨pwa, cwa, hpwa, _, _⟩ := hu.form; have hqwa : uwa = (.slice pwa b5.length cwa) := hpwa; subst hqwa; clear hpwa; have hltxy : w.heap.size < wa.heap.size := Nat.lt_of_lt_of_le (HK.out.lt _ (.head _)) hb.size; have HK2 := Lib.hid (HK.out.res hb ⟨b1, b2, b3, b4, b5⟩ hu); clear HK x0 x1 x2 x3 x4; have HK := HK2; clear HK2; clear hb hu; have x0 := (HK.out.a _ (.tail _ (.head _))).c0; have x1 := (HK.out.a _ (.tail _ (.head _))).c1; have x2 := (HK.out.a _ (.tail _ (.head _))).c2; have x3 := (HK.out.a _ (.tail _ (.head _))).c3; have x4 := (HK.out.a _ (.tail _ (.head _))).c4; have y0 := (HK.out.a _ (.head _)).c0; have y1 := (HK.out.a _ (.head _)).c1; have y2 := (HK.out.a _ (.head _)).c2; have y3 := (HK.out.a _ (.head _)).c3; have y4 := (HK.out.a _ (.head _)).c4)
        | (go_at_call 18; (with_reducible refine (HP2.out _ _ (by with_unfolding_all exact HK.out.lay) (by with_unfolding_all exact HK.out.r _ (.head _)) (by with_unfolding_all exact HK.out.n _ (.head _))).mono ?_); rintro e wd ⟨uwd, rfl, hu, hb⟩; obtain ⟨pwd, cwd, hpwd, _, _⟩ := hu.form; have hqwd : uwd = (.slice pwd A.z.length cwd) := hpwd; subst hqwd; clear hpwd; have HKo := HK.out.next hb; have o0 := (HKo.a _ (.tail _ (.head _))).c0; have o1 := (HKo.a _ (.tail _ (.head _))).c1; have o2 := (HKo.a _ (.tail _ (.head _))).c2; have o3 := (HKo.a _ (.tail _ (.head _))).c3; have o4 := (HKo.a _ (.tail _ (.head _))).c4; have of0 := (HKo.a _ (.tail _ (.head _))).fr 0; have of1 := (HKo.a _ (.tail _ (.head _))).fr 1; have of2 := (HKo.a _ (.tail _ (.head _))).fr 2; have of3 := (HKo.a _ (.tail _ (.head _))).fr 3; have of4 := (HKo.a _ (.tail _ (.head _))).fr 4; clear HKo; have HK2 := Lib.hid (HK.out.put (l' := [⟨wa.heap.size, ⟨f1', f2', f3', f4', f5'⟩, (.slice pwc f5'.length cwc)⟩, ⟨w.heap.size, A, (.slice p A.z.length cap)⟩]) hb ⟨A.k, A.r, A.a, A.b, A.z⟩ hu _ (.tail _ (.head _)) (fun b m => by simp only [List.mem_cons, List.not_mem_nil, or_false] at m; rcases m with rfl | rfl <;> exact ⟨by simp, by dsimp only; omega⟩)); clear HK hb hu x0 x1 x2 x3 x4 y0 y1 y2 y3 y4 z0 z1 z2 z3 z4; have HK := HK2; clear HK2; have x0 := (HK.out.a _ (.tail _ (.tail _ (.head _)))).c0; have x1 := (HK.out.a _ (.tail _ (.tail _ (.head _)))).c1; have x2 := (HK.out.a _ (.tail _ (.tail _ (.head _)))).c2; have x3 := (HK.out.a _ (.tail _ (.tail _ (.head _)))).c3; have x4 := (HK.out.a _ (.tail _ (.tail _ (.head _)))).c4; have y0 := (HK.out.a _ (.tail _ (.head _))).c0; have y1 := (HK.out.a _ (.tail _ (.head _))).c1; have y2 := (HK.out.a _ (.tail _ (.head _))).c2; have y3 := (HK.out.a _ (.tail _ (.head _))).c3; have y4 := (HK.out.a _ (.tail _ (.head _))).c4; have z0 := (HK.out.a _ (.head _)).c0; have z1 := (HK.out.a _ (.head _)).c1; have z2 := (HK.out.a _ (.head _)).c2; have z3 := (HK.out.a _ (.head _)).c3; have z4 := (HK.out.a _ (.head _)).c4)
        | (go_at_call 18; (with_reducible refine (HP1.out _ (by with_unfolding_all exact HK.out.lay) (by with_unfolding_all exact HK.out.r _ (.tail _ (.tail _ (.head _))))).mono ?_); rintro e wc ⟨uwc, rfl, hu, hb⟩; obtain ⟨pwc, cwc, hpwc, _, _⟩ := hu.form; have hqwc : uwc = (.slice pwc f5'.length cwc) := hpwc; subst hqwc; clear hpwc; have HKo := HK.out.next hb; have o0 := (HKo.a _ (.tail _ (.head _))).c0; have o1 := (HKo.a _ (.tail _ (.head _))).c1; have o2 := (HKo.a _ (.tail _ (.head _))).c2; have o3 := (HKo.a _ (.tail _ (.head _))).c3; have o4 := (HKo.a _ (.tail _ (.head _))).c4; have of0 := (HKo.a _ (.tail _ (.head _))).fr 0; have of1 := (HKo.a _ (.tail _ (.head _))).fr 1; have of2 := (HKo.a _ (.tail _ (.head _))).fr 2; have of3 := (HKo.a _ (.tail _ (.head _))).fr 3; have of4 := (HKo.a _ (.tail _ (.head _))).fr 4; clear HKo; have HK2 := Lib.hid (HK.out.put (l' := [⟨wb.heap.size, ⟨A.k, A.r, A.a, A.b, A.z⟩, (.slice pwb A.z.length cwb)⟩, ⟨w.heap.size, A, (.slice p A.z.length cap)⟩]) hb ⟨f1', f2', f3', f4', f5'⟩ hu _ (.tail _ (.head _)) (fun b m => by simp only [List.mem_cons, List.not_mem_nil, or_false] at m; rcases m with rfl | rfl <;> exact ⟨by simp, by dsimp only; omega⟩)); clear HK hb hu x0 x1 x2 x3 x4 y0 y1 y2 y3 y4 z0 z1 z2 z3 z4; have HK := HK2; clear HK2; have x0 := (HK.out.a _ (.tail _ (.tail _ (.head _)))).c0; have x1 := (HK.out.a _ (.tail _ (.tail _ (.head _)))).c1; have x2 := (HK.out.a _ (.tail _ (.tail _ (.head _)))).c2; have x3 := (HK.out.a _ (.tail _ (.tail _ (.head _)))).c3; have x4 := (HK.out.a _ (.tail _ (.tail _ (.head _)))).c4; have y0 := (HK.out.a _ (.head _)).c0; have y1 := (HK.out.a _ (.head _)).c1; have y2 := (HK.out.a _ (.head _)).c2; have y3 := (HK.out.a _ (.head _)).c3; have y4 := (HK.out.a _ (.head _)).c4; have z0 := (HK.out.a _ (.tail _ (.head _))).c0; have z1 := (HK.out.a _ (.tail _ (.head _))).c1; have z2 := (HK.out.a _ (.tail _ (.head _))).c2; have z3 := (HK.out.a _ (.tail _ (.head _))).c3; have z4 := (HK.out.a _ (.tail _ (.head _))).c4)
        | (go_at_call 32; (with_reducible refine (HIs.out _ _ _ (by with_unfolding_all exact HK.out.r _ (.head _)) (by with_unfolding_all exact HK.out.r _ (.tail _ (.tail _ (.head _))))).mono ?_); rintro e wz ⟨rfl, hb⟩; have HK2 := Lib.hid (HK.out.next hb); clear HK x0 x1 x2 x3 x4 y0 y1 y2 y3 y4 z0 z1 z2 z3 z4; have HK := HK2; clear HK2; clear hb; have x0 := (HK.out.a _ (.tail _ (.tail _ (.head _)))).c0; have x1 := (HK.out.a _ (.tail _ (.tail _ (.head _)))).c1; have x2 := (HK.out.a _ (.tail _ (.tail _ (.head _)))).c2; have x3 := (HK.out.a _ (.tail _ (.tail _ (.head _)))).c3; have x4 := (HK.out.a _ (.tail _ (.tail _ (.head _)))).c4; have y0 := (HK.out.a _ (.tail _ (.head _))).c0; have y1 := (HK.out.a _ (.tail _ (.head _))).c1; have y2 := (HK.out.a _ (.tail _ (.head _))).c2; have y3 := (HK.out.a _ (.tail _ (.head _))).c3; have y4 := (HK.out.a _ (.tail _ (.head _))).c4; have z0 := (HK.out.a _ (.head _)).c0; have z1 := (HK.out.a _ (.head _)).c1; have z2 := (HK.out.a _ (.head _)).c2; have z3 := (HK.out.a _ (.head _)).c3; have z4 := (HK.out.a _ (.head _)).c4)
        | (go_at_call 32; (with_reducible refine (HIs.out _ _ _ (by with_unfolding_all exact HK.out.r _ (.head _)) (by with_unfolding_all exact HK.out.r _ (.tail _ (.tail _ (.head _))))).mono ?_); rintro e wz ⟨rfl, hb⟩; have HK2 := Lib.hid (HK.out.next hb); clear HK x0 x1 x2 x3 x4 y0 y1 y2 y3 y4 z0 z1 z2 z3 z4; have HK := HK2; clear HK2; clear hb; have x0 := (HK.out.a _ (.tail _ (.tail _ (.head _)))).c0; have x1 := (HK.out.a _ (.tail _ (.tail _ (.head _)))).c1; have x2 := (HK.out.a _ (.tail _ (.tail _ (.head _)))).c2; have x3 := (HK.out.a _ (.tail _ (.tail _ (.head _)))).c3; have x4 := (HK.out.a _ (.tail _ (.tail _ (.head _)))).c4; have y0 := (HK.out.a _ (.tail _ (.head _))).c0; have y1 := (HK.out.a _ (.tail _ (.head _))).c1; have y2 := (HK.out.a _ (.tail _ (.head _))).c2; have y3 := (HK.out.a _ (.tail _ (.head _))).c3; have y4 := (HK.out.a _ (.tail _ (.head _))).c4; have z0 := (HK.out.a _ (.head _)).c0; have z1 := (HK.out.a _ (.head _)).c1; have z2 := (HK.out.a _ (.head _)).c2; have z3 := (HK.out.a _ (.head _)).c3; have z4 := (HK.out.a _ (.head _)).c4)
        | fail)
      have hgt : w.heap.size < wz.heap.size := HK.out.lt _ (.tail _ (.tail _ (.head _)))
      have HK2 : Hid (KVar w [⟨wz.heap.size, A, (.slice p A.z.length cap)⟩, ⟨w.heap.size, A, (.slice p A.z.length cap)⟩] (wz.alloc (.cells #[.int .i64 A.k, .int .i64 A.r, .int .i64 A.a, .int .i64 A.b, (.slice p A.z.length cap)] 25))) := (HK.out.copyNew ⟨w.heap.size, A, (.slice p A.z.length cap)⟩ (.tail _ (.tail _ (.head _)))).drop (by intro b m; simp only [List.mem_cons, List.not_mem_nil, or_false] at m ⊢; rcases m with rfl | rfl <;> simp)
      clear HK HF HCh HV1 HV2 HP1 HP2 HIs x0 x1 x2 x3 x4 y0 y1 y2 y3 y4 z0 z1 z2 z3 z4
      generalize wz.alloc (.cells #[.int .i64 A.k, .int .i64 A.r, .int .i64 A.a, .int .i64 A.b, (.slice p A.z.length cap)] 25) = W0 at HK2 ⊢
      generalize wz.heap.size = gt at HK2 hgt ⊢
      go_loopg [10] 4 (fun gk q wr => ∃ (i : Nat) (u : Value), i + gk = 4 ∧ q = .int .i64 i ∧ KVar w [⟨gt, tqN i A, u⟩, ⟨w.heap.size, A, (.slice p A.z.length cap)⟩] wr)
      case atStart => exact ⟨0, _, by omega, rfl, HK2.out⟩
      case round =>
        obtain ⟨i, u, hig, rfl, hk⟩ := hrel
        cases gk with
        | zero =>
          obtain rfl : i = 4 := by omega
          rw [HT4.out] at hk
          have hr0 : RdI wr.heap.size wr u A.z := hk.r _ (.head _)
          obtain ⟨pu, cu, rfl, _, _, _⟩ := hr0
          have HK := Lib.hid hk
          clear hk HK2 HT4 HTq HTr
          have x0 := (HK.out.a _ (.tail _ (.head _))).c0
          have x1 := (HK.out.a _ (.tail _ (.head _))).c1
          have x2 := (HK.out.a _ (.tail _ (.head _))).c2
          have x3 := (HK.out.a _ (.tail _ (.head _))).c3
          have x4 := (HK.out.a _ (.tail _ (.head _))).c4
          have t0 := (HK.out.a _ (.head _)).c0
          have t1 := (HK.out.a _ (.head _)).c1
          have t2 := (HK.out.a _ (.head _)).c2
          have t3 := (HK.out.a _ (.head _)).c3
          have t4 := (HK.out.a _ (.head _)).c4
          go_wp2_with (first
            | (go_at_call 33; (with_reducible refine (HSm.out _ _ _ (by with_unfolding_all exact HK.out.r _ (.head _)) (by with_unfolding_all exact HK.out.r _ (.tail _ (.head _)))).mono ?_); rintro e wz ⟨rfl, hb⟩; have HK2 := Lib.hid (HK.out.next hb); clear HK x0 x1 x2 x3 x4 t0 t1 t2 t3 t4; have HK := HK2; clear HK2; clear hb; have x0 := (HK.out.a _ (.tail _ (.head _))).c0; have x1 := (HK.out.a _ (.tail _ (.head _))).c1; have x2 := (HK.out.a _ (.tail _ (.head _))).c2; have x3 := (HK.out.a _ (.tail _ (.head _))).c3; have x4 := (HK.out.a _ (.tail _ (.head _))).c4; have t0 := (HK.out.a _ (.head _)).c0; have t1 := (HK.out.a _ (.head _)).c1; have t2 := (HK.out.a _ (.head _)).c2; have t3 := (HK.out.a _ (.head _)).c3; have t4 := (HK.out.a _ (.head _)).c4)
            | (go_at_call 12; (with_reducible refine (HAw.out _ (by with_unfolding_all exact HK.out.lay)).mono ?_); rintro e wz ⟨rfl, hb⟩; have HK2 := Lib.hid (HK.out.next hb); clear HK x0 x1 x2 x3 x4 t0 t1 t2 t3 t4; have HK := HK2; clear HK2; clear hb; have x0 := (HK.out.a _ (.tail _ (.head _))).c0; have x1 := (HK.out.a _ (.tail _ (.head _))).c1; have x2 := (HK.out.a _ (.tail _ (.head _))).c2; have x3 := (HK.out.a _ (.tail _ (.head _))).c3; have x4 := (HK.out.a _ (.tail _ (.head _))).c4; have t0 := (HK.out.a _ (.head _)).c0; have t1 := (HK.out.a _ (.head _)).c1; have t2 := (HK.out.a _ (.head _)).c2; have t3 := (HK.out.a _ (.head _)).c3; have t4 := (HK.out.a _ (.head _)).c4))
          go_ret
          exact ⟨rfl, HK.out.bel⟩
        | succ g2 =>
          have HTqi := Lib.hid (HTq.out i)
          have HTri := Lib.hid (HTr.out i)
          generalize hY : tqN (i + 1) A = Y at HTri
          generalize fpV (tqN i A) = X at HTqi HTri
          generalize tqN i A = T at HTqi hk
          have HY := Lib.hid hY
          obtain ⟨j1, j2, j3, j4, j5⟩ := T
          obtain ⟨x1', x2', x3', x4', x5'⟩ := X
          obtain ⟨y1', y2', y3', y4', y5'⟩ := Y
          have hr0 : RdI wr.heap.size wr u j5 := hk.r _ (.head _)
          obtain ⟨pu, cu, rfl, _, _, _⟩ := hr0
          have HK := Lib.hid hk
          have hwi : IntKind.i64.wrap ((i : Int) + 1) = (i : Int) + 1 := by rw [IntKind.wrap_i64]; omega
          have hi4 : (i : Int) < 4 := by omega
          clear hk hY HK2 HT4 HTq HTr HSm
          have t0 := (HK.out.a _ (.head _)).c0
          have t1 := (HK.out.a _ (.head _)).c1
          have t2 := (HK.out.a _ (.head _)).c2
          have t3 := (HK.out.a _ (.head _)).c3
          have t4 := (HK.out.a _ (.head _)).c4
          go_wp2_with (first
            | (go_at_call 18; (with_reducible refine (HTqi.out _ _ (by with_unfolding_all exact HK.out.lay) (by with_unfolding_all exact HK.out.r _ (.head _)) (by with_unfolding_all exact HK.out.n _ (.head _))).mono ?_); rintro e we ⟨uwe, rfl, hu, hb⟩; obtain ⟨pwe, cwe, hpwe, _, _⟩ := hu.form; have hqwe : uwe = (.slice pwe x5'.length cwe) := hpwe; subst hqwe; clear hpwe; have hlttp : gt < we.heap.size := Nat.lt_of_lt_of_le (HK.out.lt _ (.head _)) hb.size; have hltxp : w.heap.size < we.heap.size := Nat.lt_of_lt_of_le (HK.out.lt _ (.tail _ (.head _))) hb.size; have HK2 := Lib.hid (HK.out.res hb ⟨x1', x2', x3', x4', x5'⟩ hu); clear HK t0 t1 t2 t3 t4; have HK := HK2; clear HK2; clear hb hu; have t0 := (HK.out.a _ (.tail _ (.head _))).c0; have t1 := (HK.out.a _ (.tail _ (.head _))).c1; have t2 := (HK.out.a _ (.tail _ (.head _))).c2; have t3 := (HK.out.a _ (.tail _ (.head _))).c3; have t4 := (HK.out.a _ (.tail _ (.head _))).c4; have p0 := (HK.out.a _ (.head _)).c0; have p1 := (HK.out.a _ (.head _)).c1; have p2 := (HK.out.a _ (.head _)).c2; have p3 := (HK.out.a _ (.head _)).c3; have p4 := (HK.out.a _ (.head _)).c4)
            | (go_at_call 16; (with_reducible refine (HTri.out _ _ (by with_unfolding_all exact HK.out.lay) (by with_unfolding_all exact HK.out.r _ (.head _))).mono ?_); rintro e wf ⟨uwf, rfl, hu, hb⟩; obtain ⟨pwf, cwf, hpwf, _, _⟩ := hu.form; have hqwf : uwf = (.slice pwf y5'.length cwf) := hpwf; subst hqwf; clear hpwf; have HKw := HK.out.next hb; have hltw : gt < wf.heap.size := HKw.lt _ (.tail _ (.head _)); have tw0 := (HKw.a _ (.tail _ (.head _))).c0; have tw1 := (HKw.a _ (.tail _ (.head _))).c1; have tw2 := (HKw.a _ (.tail _ (.head _))).c2; have tw3 := (HKw.a _ (.tail _ (.head _))).c3; have tw4 := (HKw.a _ (.tail _ (.head _))).c4; have tf0 := (HKw.a _ (.tail _ (.head _))).fr 0; have tf1 := (HKw.a _ (.tail _ (.head _))).fr 1; have tf2 := (HKw.a _ (.tail _ (.head _))).fr 2; have tf3 := (HKw.a _ (.tail _ (.head _))).fr 3; have tf4 := (HKw.a _ (.tail _ (.head _))).fr 4; have HKs := Lib.hid ((HK.out.put (l' := [⟨w.heap.size, A, (.slice p A.z.length cap)⟩]) hb ⟨y1', y2', y3', y4', y5'⟩ hu ⟨gt, ⟨j1, j2, j3, j4, j5⟩, (.slice pu j5.length cu)⟩ (.tail _ (.head _)) (by intro b m; simp only [List.mem_cons, List.not_mem_nil, or_false] at m; subst m; exact ⟨by simp, by dsimp only; omega⟩)).next (bel1 _ (.cells #[.int .i64 y1', .int .i64 y2', .int .i64 y3', .int .i64 y4', .slice pwf y5'.length cwf] 25))); clear HK HKw hu hb t0 t1 t2 t3 t4 p0 p1 p2 p3 p4)
            | fail)
          go_roundg g2
          case measure => omega
          case rel => exact ⟨i + 1, _, by omega, by go_num, by rw [HY.out]; exact HKs.out⟩
end Go.Proofs.YtbeoigmaieiigaaDoor
