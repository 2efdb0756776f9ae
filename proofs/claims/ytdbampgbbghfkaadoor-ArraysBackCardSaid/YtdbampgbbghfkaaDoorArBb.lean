/- The law ArraysBack. -/
import Derived.Test.YtdbampgbbghfkaaDoorArR0
import Derived.Test.YtdbampgbbghfkaaDoorArBa
import Derived.Test.YtdbampgbbghfkaaDoorArW
import Derived.Deep.DeepCutAuto
import Derived.Deep.QuietTactic
namespace Go.Proofs.YtdbampgbbghfkaaDoor
open Go.RowKit

theorem KLs.tail {w W : World} {b : Bk} {l : List Bk} {ps : List (Nat × Int × Int)} (h : KLs w (b :: l) ps W) : KLs w l ps W :=
  ⟨h.bel, h.lay, fun c m => h.all c (.tail _ m), h.prs⟩
theorem KLs.rebase {w W : World} {l : List Bk} {ps : List (Nat × Int × Int)} (h : KLs w l ps W) : KLs W l ps W := ⟨Below.refl _ _, h.lay, h.all, h.prs⟩
theorem str_byt (s : ByteArray) : (⟨(byt s).toArray⟩ : ByteArray) = s := by
  cases s with
  | mk d => simp [byt]
set_option maxRecDepth 100000 in
set_option maxHeartbeats 8000000 in
theorem lawBack_any (A : Ar) (u : Value) (s : ByteArray) (v : Int) (w : World) (hw : Ru.Lay w) (hv : RdI w.heap.size w u A.z) (hn : Ru.NilC u) :
    Calls Tryd.prog 4 #[A5 A.k A.r A.a A.b u, .string s, .int .i64 v] w fun e w' => e = .returned (.bool true) ∧ Below w.heap.size w w' := by
  have HFar := Lib.hid (fun W h => far_any A u W h)
  have HAw := Lib.hid (fun W h => awake_any W h)
  have HK : Hid (KLs w [⟨w.heap.size, A, u⟩] [] (w.alloc (.cells #[.int .i64 A.k, .int .i64 A.r, .int .i64 A.a, .int .i64 A.b, u] 27))) := (KLs.start w hw).push A hv
  have HN := Lib.hid hn
  obtain ⟨t, cap, rfl, hcap, hcap2, hcell⟩ := hv
  clear hcell hw hn
  have x0 := (HK.out.a _ (.head _)).c0
  have x1 := (HK.out.a _ (.head _)).c1
  have x2 := (HK.out.a _ (.head _)).c2
  have x3 := (HK.out.a _ (.head _)).c3
  have x4 := (HK.out.a _ (.head _)).c4
  by_cases hf : 500 < A.z.length
  · rw [decide_eq_true hf] at HFar
    clear hf
    go_enter Tryd.func4, Tryd.ntmps4
    go_wp2_with (first
      | (go_at_call 15; (with_reducible refine (HFar.out _ (by with_unfolding_all exact HK.out.r _ (.head _))).mono ?_); rintro e wz ⟨rfl, hb⟩; have HK2 := Lib.hid (HK.out.next hb); clear HK x0 x1 x2 x3 x4; have HK := HK2; clear HK2; clear hb; have x0 := (HK.out.a _ (.head _)).c0; have x1 := (HK.out.a _ (.head _)).c1; have x2 := (HK.out.a _ (.head _)).c2; have x3 := (HK.out.a _ (.head _)).c3; have x4 := (HK.out.a _ (.head _)).c4)
      | (go_at_call 5; (with_reducible refine (HAw.out _ HK.out.lay).mono ?_); rintro e wz ⟨rfl, hb⟩; have HK2 := Lib.hid (HK.out.next hb); clear HK x0 x1 x2 x3 x4; have HK := HK2; clear HK2; clear hb; have x0 := (HK.out.a _ (.head _)).c0; have x1 := (HK.out.a _ (.head _)).c1; have x2 := (HK.out.a _ (.head _)).c2; have x3 := (HK.out.a _ (.head _)).c3; have x4 := (HK.out.a _ (.head _)).c4)
      | fail)
    go_ret
    exact ⟨rfl, HK.out.bel⟩
  · rw [decide_eq_false hf] at HFar
    by_cases hl : 2000 < s.size
    · have hl1 : decide ((2000 : Int) < (s.size : Int)) = true := decide_eq_true (by omega)
      clear hl hf
      go_enter Tryd.func4, Tryd.ntmps4
      go_wp2_with (first
      | (go_at_call 15; (with_reducible refine (HFar.out _ (by with_unfolding_all exact HK.out.r _ (.head _))).mono ?_); rintro e wz ⟨rfl, hb⟩; have HK2 := Lib.hid (HK.out.next hb); clear HK x0 x1 x2 x3 x4; have HK := HK2; clear HK2; clear hb; have x0 := (HK.out.a _ (.head _)).c0; have x1 := (HK.out.a _ (.head _)).c1; have x2 := (HK.out.a _ (.head _)).c2; have x3 := (HK.out.a _ (.head _)).c3; have x4 := (HK.out.a _ (.head _)).c4)
      | (go_at_call 5; (with_reducible refine (HAw.out _ HK.out.lay).mono ?_); rintro e wz ⟨rfl, hb⟩; have HK2 := Lib.hid (HK.out.next hb); clear HK x0 x1 x2 x3 x4; have HK := HK2; clear HK2; clear hb; have x0 := (HK.out.a _ (.head _)).c0; have x1 := (HK.out.a _ (.head _)).c1; have x2 := (HK.out.a _ (.head _)).c2; have x3 := (HK.out.a _ (.head _)).c3; have x4 := (HK.out.a _ (.head _)).c4)
      | fail)
      go_ret
      exact ⟨rfl, HK.out.bel⟩
    · have hl1 : decide ((2000 : Int) < (s.size : Int)) = false := decide_eq_false (by omega)
      obtain ⟨T, hT⟩ : ∃ T, txV (byt s) = T := ⟨_, rfl⟩
      obtain ⟨E1, hE1⟩ : ∃ E, txE (byt s) = E := ⟨_, rfl⟩
      have HTx : Hid (E1 = 0 → Good T ∧ sgE T = 0 ∧ sgV T = byt s ∧ T.z.length ≤ 400) := by
        intro h
        have := text_back (byt s) (by rw [byt_len]; omega) (by rw [hE1]; exact h)
        rwa [hT] at this
      have HT1 := Lib.hid (fun W h => text_lay s W h (by omega))
      rw [hT, hE1] at HT1
      clear hT hE1
      obtain ⟨q1, q2, q3, q4, q5⟩ := T
      have hA : A.z.length ≤ 500 := by omega
      have HlA := Lib.hid hA
      clear hl hf hA
      go_enter Tryd.func4, Tryd.ntmps4
      go_upto_if 39 with (first
      | (go_at_call 15; (with_reducible refine (HFar.out _ (by with_unfolding_all exact HK.out.r _ (.head _))).mono ?_); rintro e wz ⟨rfl, hb⟩; have HK2 := Lib.hid (HK.out.next hb); clear HK x0 x1 x2 x3 x4; have HK := HK2; clear HK2; clear hb; have x0 := (HK.out.a _ (.head _)).c0; have x1 := (HK.out.a _ (.head _)).c1; have x2 := (HK.out.a _ (.head _)).c2; have x3 := (HK.out.a _ (.head _)).c3; have x4 := (HK.out.a _ (.head _)).c4)
      | (go_at_call 11; (with_reducible refine (HT1.out _ HK.out.lay).mono ?_); rintro e wt ⟨uwt, rfl, hu, hb⟩; obtain ⟨pwt, cwt, hpwt, _, _⟩ := hu.form; have hqwt : uwt = (.slice pwt q5.length cwt) := hpwt; subst hqwt; clear hpwt; have HK2 := Lib.hid ((HK.out.next hb).push ⟨q1, q2, q3, q4, q5⟩ hu.rd); clear HK x0 x1 x2 x3 x4; have HK := HK2; clear HK2; clear hb hu; have x0 := (HK.out.a _ (.tail _ (.head _))).c0; have x1 := (HK.out.a _ (.tail _ (.head _))).c1; have x2 := (HK.out.a _ (.tail _ (.head _))).c2; have x3 := (HK.out.a _ (.tail _ (.head _))).c3; have x4 := (HK.out.a _ (.tail _ (.head _))).c4)
      | fail)
      go_cut [] (fun wx => KLs w [⟨w.heap.size, A, (.slice t A.z.length cap)⟩] [] wx)
      case first =>
        as_aux_lemma =>
          by_cases hE : E1 = 0
          · have hE0 : (E1 == 0) = true := by simpa using hE
            obtain ⟨hG, hg1, hg2, hg3⟩ := HTx.out hE
            have HS1 := Lib.hid (fun v W h1 h2 => string_any ⟨q1, q2, q3, q4, q5⟩ v W h1 h2 (by show q5.length ≤ 1000; omega))
            have HC1 := Lib.hid (fun v W h1 h2 => acheck_any ⟨q1, q2, q3, q4, q5⟩ v W h1 h2 (by show q5.length ≤ 1000000; omega))
            rw [hg1, hg2, str_byt] at HS1
            rw [good_ck hG] at HC1
            clear hG hg1 hg2 hg3 hE HTx
            have r0 := (HK.out.a _ (.head _)).c0
            have r1 := (HK.out.a _ (.head _)).c1
            have r2 := (HK.out.a _ (.head _)).c2
            have r3 := (HK.out.a _ (.head _)).c3
            have r4 := (HK.out.a _ (.head _)).c4
            go_wp2_with (first
      | (go_at_call 16; (with_reducible refine (HS1.out _ _ HK.out.lay (by with_unfolding_all exact HK.out.r _ (.head _))).mono ?_); rintro e wz ⟨rfl, hb⟩; have HK2 := Lib.hid (HK.out.next hb); clear HK x0 x1 x2 x3 x4 r0 r1 r2 r3 r4; have HK := HK2; clear HK2; clear hb; have x0 := (HK.out.a _ (.tail _ (.head _))).c0; have x1 := (HK.out.a _ (.tail _ (.head _))).c1; have x2 := (HK.out.a _ (.tail _ (.head _))).c2; have x3 := (HK.out.a _ (.tail _ (.head _))).c3; have x4 := (HK.out.a _ (.tail _ (.head _))).c4; have r0 := (HK.out.a _ (.head _)).c0; have r1 := (HK.out.a _ (.head _)).c1; have r2 := (HK.out.a _ (.head _)).c2; have r3 := (HK.out.a _ (.head _)).c3; have r4 := (HK.out.a _ (.head _)).c4)
      | (go_at_call 17; (with_reducible refine (HC1.out _ _ HK.out.lay (by with_unfolding_all exact HK.out.r _ (.head _))).mono ?_); rintro e wz ⟨rfl, hb⟩; have HK2 := Lib.hid (HK.out.next hb); clear HK x0 x1 x2 x3 x4 r0 r1 r2 r3 r4; have HK := HK2; clear HK2; clear hb; have x0 := (HK.out.a _ (.tail _ (.head _))).c0; have x1 := (HK.out.a _ (.tail _ (.head _))).c1; have x2 := (HK.out.a _ (.tail _ (.head _))).c2; have x3 := (HK.out.a _ (.tail _ (.head _))).c3; have x4 := (HK.out.a _ (.tail _ (.head _))).c4; have r0 := (HK.out.a _ (.head _)).c0; have r1 := (HK.out.a _ (.head _)).c1; have r2 := (HK.out.a _ (.head _)).c2; have r3 := (HK.out.a _ (.head _)).c3; have r4 := (HK.out.a _ (.head _)).c4)
      | fail)
            go_meet
            case rel => exact HK.out.tail
          · have hE0 : (E1 == 0) = false := by simpa using hE
            clear hE HTx
            go_wp2_with fail
            go_meet
            case rel => exact HK.out.tail
      case rest =>
        clear HTx HT1
        have hB := hcut
        clear hcut
        clear HK x0 x1 x2 x3 x4
        have HK := Lib.hid hB
        clear hB
        have x0 := (HK.out.a _ (.head _)).c0
        have x1 := (HK.out.a _ (.head _)).c1
        have x2 := (HK.out.a _ (.head _)).c2
        have x3 := (HK.out.a _ (.head _)).c3
        have x4 := (HK.out.a _ (.head _)).c4
        obtain ⟨C, hC⟩ : ∃ C, ck A = C := ⟨_, rfl⟩
        have HCk := Lib.hid (fun v W h1 h2 => acheck_any A v W h1 h2 (by have := HlA.out; omega))
        by_cases hc : ck A = 0
        · rw [hc] at HCk
          have hG := Lib.hid (ck_good hc)
          have HckA := Lib.hid hc
          clear hC hc
          obtain ⟨E2, hE2⟩ : ∃ E, sgE A = E := ⟨_, rfl⟩
          obtain ⟨S2, hS2⟩ : ∃ S, sgV A = S := ⟨_, rfl⟩
          have HS2 := Lib.hid (fun v W h1 h2 => string_any A v W h1 h2 (by have := HlA.out; omega))
          have HTb : Hid (E2 = 0 → txE S2 = 0 ∧ txV S2 = A) := by
            intro h
            have := string_back (A := A) (by rw [hE2]; exact h)
            rwa [hS2] at this
          have HSl : Hid (S2.length ≤ 2000) := by
            have h1 := HlA.out
            have h2 := bytL_len A.z
            unfold Hid
            rw [← hS2]
            unfold sgV
            split
            · omega
            · simp
          rw [hE2, hS2] at HS2
          clear hE2 hS2
          go_upto_if 67 with (first
      | (go_at_call 17; (with_reducible refine (HCk.out _ _ HK.out.lay (by with_unfolding_all exact HK.out.r _ (.head _))).mono ?_); rintro e wz ⟨rfl, hb⟩; have HK2 := Lib.hid (HK.out.next hb); clear HK x0 x1 x2 x3 x4; have HK := HK2; clear HK2; clear hb; have x0 := (HK.out.a _ (.head _)).c0; have x1 := (HK.out.a _ (.head _)).c1; have x2 := (HK.out.a _ (.head _)).c2; have x3 := (HK.out.a _ (.head _)).c3; have x4 := (HK.out.a _ (.head _)).c4)
      | (go_at_call 16; (with_reducible refine (HS2.out _ _ HK.out.lay (by with_unfolding_all exact HK.out.r _ (.head _))).mono ?_); rintro e wz ⟨rfl, hb⟩; have HK2 := Lib.hid (HK.out.next hb); clear HK x0 x1 x2 x3 x4; have HK := HK2; clear HK2; clear hb; have x0 := (HK.out.a _ (.head _)).c0; have x1 := (HK.out.a _ (.head _)).c1; have x2 := (HK.out.a _ (.head _)).c2; have x3 := (HK.out.a _ (.head _)).c3; have x4 := (HK.out.a _ (.head _)).c4)
      | fail)
          go_cut [] (fun wx => KLs w [⟨w.heap.size, A, (.slice t A.z.length cap)⟩] [] wx)
          case first =>
            as_aux_lemma =>
              by_cases hE : E2 = 0
              · have hE0 : (E2 == 0) = true := by simpa using hE
                obtain ⟨hb1, hb2⟩ := HTb.out hE
                have HT2 := Lib.hid (fun W h => text_lay ⟨S2.toArray⟩ W h (by rw [size_mk]; have := HSl.out; omega))
                rw [byt_mk, hb1, hb2] at HT2
                have HSm := Lib.hid (fun v u W h1 h2 => same_eq A.k A.r A.a A.b A.z v u W h1 h2 (by have := HlA.out; omega))
                clear hb1 hb2 hE HTb
                go_wp2_with (first
      | (go_at_call 11; (with_reducible refine (HT2.out _ HK.out.lay).mono ?_); rintro e wt ⟨uwt, rfl, hu, hb⟩; obtain ⟨pwt, cwt, hpwt, _, _⟩ := hu.form; have hqwt : uwt = (.slice pwt A.z.length cwt) := hpwt; subst hqwt; clear hpwt; have HK2 := Lib.hid ((HK.out.next hb).push ⟨A.k, A.r, A.a, A.b, A.z⟩ hu.rd); clear HK x0 x1 x2 x3 x4; have HK := HK2; clear HK2; clear hb hu; have x0 := (HK.out.a _ (.tail _ (.head _))).c0; have x1 := (HK.out.a _ (.tail _ (.head _))).c1; have x2 := (HK.out.a _ (.tail _ (.head _))).c2; have x3 := (HK.out.a _ (.tail _ (.head _))).c3; have x4 := (HK.out.a _ (.tail _ (.head _))).c4; have r0 := (HK.out.a _ (.head _)).c0; have r1 := (HK.out.a _ (.head _)).c1; have r2 := (HK.out.a _ (.head _)).c2; have r3 := (HK.out.a _ (.head _)).c3; have r4 := (HK.out.a _ (.head _)).c4)
      | (go_at_call 8; (with_reducible refine (HSm.out _ _ _ (by with_unfolding_all exact HK.out.r _ (.head _)) (by with_unfolding_all exact HK.out.r _ (.tail _ (.head _)))).mono ?_); rintro e wz ⟨rfl, hb⟩; have HK2 := Lib.hid (HK.out.next hb); clear HK x0 x1 x2 x3 x4 r0 r1 r2 r3 r4; have HK := HK2; clear HK2; clear hb; have x0 := (HK.out.a _ (.tail _ (.head _))).c0; have x1 := (HK.out.a _ (.tail _ (.head _))).c1; have x2 := (HK.out.a _ (.tail _ (.head _))).c2; have x3 := (HK.out.a _ (.tail _ (.head _))).c3; have x4 := (HK.out.a _ (.tail _ (.head _))).c4; have r0 := (HK.out.a _ (.head _)).c0; have r1 := (HK.out.a _ (.head _)).c1; have r2 := (HK.out.a _ (.head _)).c2; have r3 := (HK.out.a _ (.head _)).c3; have r4 := (HK.out.a _ (.head _)).c4)
      | fail)
                go_meet
                case rel => exact HK.out.tail
              · have hE0 : (E2 == 0) = false := by simpa using hE
                clear hE HTb
                go_wp2_with fail
                go_meet
                case rel => exact HK.out
          case rest =>
            clear HTb HS2 HSl
            have hB := hcut
            clear hcut
            clear HK x0 x1 x2 x3 x4
            have HK := Lib.hid hB
            clear hB
            have x0 := (HK.out.a _ (.head _)).c0
            have x1 := (HK.out.a _ (.head _)).c1
            have x2 := (HK.out.a _ (.head _)).c2
            have x3 := (HK.out.a _ (.head _)).c3
            have x4 := (HK.out.a _ (.head _)).c4
            have HRw := Lib.hid (fun W h1 h2 => rows_code A (.slice t A.z.length cap) W h1 h2 HN.out (by have := HlA.out; omega))
            rw [HckA.out] at HRw
            go_upto_region 18 with (first
      | (go_at_call 18; (with_reducible refine (HRw.out _ HK.out.lay (by with_unfolding_all exact HK.out.r _ (.head _))).mono ?_); rintro e wr ⟨ur, rfl, hM, hb⟩; have HM := Lib.hid hM; clear hM; have HK2 := Lib.hid (HK.out.next hb); clear HK x0 x1 x2 x3 x4; have HK := HK2; clear HK2; clear hb; have x0 := (HK.out.a _ (.head _)).c0; have x1 := (HK.out.a _ (.head _)).c1; have x2 := (HK.out.a _ (.head _)).c2; have x3 := (HK.out.a _ (.head _)).c3; have x4 := (HK.out.a _ (.head _)).c4)
      | fail)
            go_cut [107] (fun t' wx => wx = wr ∧ t' = .bool (A.k == 1 && (A.r == 2 && (decide (0 < A.a) || A.b == 0))))
            case first =>
              as_aux_lemma =>
                cases h1 : (A.k == 1)
                · skip
                  have hg : Hid ((A.k == 1 && (A.r == 2 && (decide (0 < A.a) || A.b == 0))) = false) := by unfold Hid; rw [h1]; rfl
                  go_wp2_with fail
                  go_meet
                  case rel => exact ⟨rfl, by rw [hg.out]⟩
                · cases h2 : (A.r == 2)
                  · skip
                    have hg : Hid ((A.k == 1 && (A.r == 2 && (decide (0 < A.a) || A.b == 0))) = false) := by unfold Hid; rw [h1, h2]; rfl
                    go_wp2_with fail
                    go_meet
                    case rel => exact ⟨rfl, by rw [hg.out]⟩
                  · cases h3 : decide (0 < A.a)
                    · cases h4 : (A.b == 0)
                      · skip
                        have hg : Hid ((A.k == 1 && (A.r == 2 && (decide (0 < A.a) || A.b == 0))) = false) := by unfold Hid; rw [h1, h2, h3, h4]; rfl
                        go_wp2_with fail
                        go_meet
                        case rel => exact ⟨rfl, by rw [hg.out]⟩
                      · skip
                        have hg : Hid ((A.k == 1 && (A.r == 2 && (decide (0 < A.a) || A.b == 0))) = true) := by unfold Hid; rw [h1, h2, h3, h4]; rfl
                        go_wp2_with fail
                        go_meet
                        case rel => exact ⟨rfl, by rw [hg.out]⟩
                    · skip
                      have hg : Hid ((A.k == 1 && (A.r == 2 && (decide (0 < A.a) || A.b == 0))) = true) := by unfold Hid; rw [h1, h2, h3]; rfl
                      go_wp2_with fail
                      go_meet
                      case rel => exact ⟨rfl, by rw [hg.out]⟩
            case rest =>
              obtain ⟨rfl, rfl⟩ := hcut
              go_upto_if 107 with fail
              go_cut [] (fun wx => KLs w [⟨w.heap.size, A, (.slice t A.z.length cap)⟩] [] wx)
              case first =>
                as_aux_lemma =>
                  cases hc : (A.k == 1 && (A.r == 2 && (decide (0 < A.a) || A.b == 0)))
                  · go_wp2_with fail
                    go_meet
                    case rel => exact HK.out
                  · have hR : mtE (rwL A) = 0 ∧ mtV (rwL A) = A ∧ (∀ r ∈ rwL A, r.length ≤ 1000000) := by
                      simp at hc
                      exact rows_back hG.out hc.1 hc.2.1 hc.2.2
                    have HMx := Lib.hid (fun W h => matrix_code ur (rwL A) W h hR.2.2)
                    rw [hR.1, hR.2.1] at HMx
                    have HSm := Lib.hid (fun v u W h1 h2 => same_eq A.k A.r A.a A.b A.z v u W h1 h2 (by have := HlA.out; omega))
                    clear hR
                    go_wp2_with (first
      | (go_at_call 13; (with_reducible refine (HMx.out _ HM.out).mono ?_); rintro e wt ⟨uwt, rfl, hu, hb⟩; obtain ⟨pwt, cwt, hpwt, _, _⟩ := hu.form; have hqwt : uwt = (.slice pwt A.z.length cwt) := hpwt; subst hqwt; clear hpwt; have HK2 := Lib.hid ((HK.out.next hb).push ⟨A.k, A.r, A.a, A.b, A.z⟩ hu.rd); clear HK x0 x1 x2 x3 x4; have HK := HK2; clear HK2; clear hb hu; have x0 := (HK.out.a _ (.tail _ (.head _))).c0; have x1 := (HK.out.a _ (.tail _ (.head _))).c1; have x2 := (HK.out.a _ (.tail _ (.head _))).c2; have x3 := (HK.out.a _ (.tail _ (.head _))).c3; have x4 := (HK.out.a _ (.tail _ (.head _))).c4; have r0 := (HK.out.a _ (.head _)).c0; have r1 := (HK.out.a _ (.head _)).c1; have r2 := (HK.out.a _ (.head _)).c2; have r3 := (HK.out.a _ (.head _)).c3; have r4 := (HK.out.a _ (.head _)).c4)
      | (go_at_call 8; (with_reducible refine (HSm.out _ _ _ (by with_unfolding_all exact HK.out.r _ (.head _)) (by with_unfolding_all exact HK.out.r _ (.tail _ (.head _)))).mono ?_); rintro e wz ⟨rfl, hb⟩; have HK2 := Lib.hid (HK.out.next hb); clear HK x0 x1 x2 x3 x4 r0 r1 r2 r3 r4; have HK := HK2; clear HK2; clear hb; have x0 := (HK.out.a _ (.tail _ (.head _))).c0; have x1 := (HK.out.a _ (.tail _ (.head _))).c1; have x2 := (HK.out.a _ (.tail _ (.head _))).c2; have x3 := (HK.out.a _ (.tail _ (.head _))).c3; have x4 := (HK.out.a _ (.tail _ (.head _))).c4; have r0 := (HK.out.a _ (.head _)).c0; have r1 := (HK.out.a _ (.head _)).c1; have r2 := (HK.out.a _ (.head _)).c2; have r3 := (HK.out.a _ (.head _)).c3; have r4 := (HK.out.a _ (.head _)).c4)
      | fail)
                    go_meet
                    case rel => exact HK.out.tail
              case rest =>
                clear HM HRw
                have hB := hcut
                clear hcut
                clear HK x0 x1 x2 x3 x4
                have HK := Lib.hid hB
                clear hB
                have x0 := (HK.out.a _ (.head _)).c0
                have x1 := (HK.out.a _ (.head _)).c1
                have x2 := (HK.out.a _ (.head _)).c2
                have x3 := (HK.out.a _ (.head _)).c3
                have x4 := (HK.out.a _ (.head _)).c4
                have HIl := Lib.hid (ins_lit wc)
                have HK1 := Lib.hid (HK.out.next (bel1 wc (.cells #[] 2)))
                have z4 := (HK1.out.a _ (.head _)).c4
                have HRd := Lib.hid (HK1.out.r _ (.head _))
                have hl5 := HlA.out
                go_upto_region 23 with (at_builtin; refine Ru.wpList_append_is (by simp [Region.wanted]) _ _ rfl wc.heap.size _ [] rfl HIl.out _ A.z rfl _ HRd.out.ru HN.out (by simp; omega) (by simp) ?_; intro uo w2 hu hg; rw [List.nil_append] at hu; have hgb := ins_grown HIl.out (by simp) hg; obtain ⟨qo, qc, rfl, hqc, hqd⟩ := (ins_new hu).form; have HO := Lib.hid (ins_new hu).rd; have HB2 := Lib.hid ((bel1 wc (.cells #[] 2)).trans hgb); clear hu hg hgb z4)
                have HKb := Lib.hid (HK.out.next HB2.out)
                have HBs := Lib.hid HKb.out.bel
                have HK0 := Lib.hid HKb.out.rebase
                clear HIl HK1 HRd HB2 HK HKb x0 x1 x2 x3 x4 hqc hqd
                have HK := HK0
                clear HK0
                have HA2 := Lib.hid (HK.out.r _ (.head _))
                have HLk0 := Lib.hid (fun B v u W h1 h2 => alike_any A B v u W h1 h2)
                go_wp2_with fail
                go_loopg [17] A.z.length (fun g i wr => ∃ j : Nat, A.z.length ≤ j + g ∧ j ≤ 700 ∧ i = .int .i64 j ∧ KLs w2 [⟨w.heap.size, A, (.slice t A.z.length cap)⟩] [] wr)
                case atStart => exact ⟨0, by omega, by omega, rfl, HK.out⟩
                case round =>
                  obtain ⟨j, hjg, hj7, rfl, hK⟩ := hrel
                  clear HK
                  have HK := Lib.hid hK
                  clear hK
                  have x0 := (HK.out.a _ (.head _)).c0
                  have x1 := (HK.out.a _ (.head _)).c1
                  have x2 := (HK.out.a _ (.head _)).c2
                  have x3 := (HK.out.a _ (.head _)).c3
                  have x4 := (HK.out.a _ (.head _)).c4
                  by_cases hj : j < A.z.length
                  · cases gk with
                    | zero => omega
                    | succ g =>
                      have hji : (j : Int) < (A.z.length : Int) := by omega
                      obtain ⟨ba, offa, rfl, hba, hca⟩ := HA2.out.cells (by intro e; rw [e] at hj; simp at hj)
                      obtain ⟨bo, offo, rfl, hbo, hco⟩ := HO.out.cells (by intro e; rw [e] at hj; simp at hj)
                      clear hca hco
                      obtain ⟨p, q, hp, hq, hE, hP⟩ := place_back hG.out hj
                      obtain ⟨X, hX⟩ : ∃ X, ixE A.r A.a A.b j = X := ⟨_, rfl⟩
                      have HIx := Lib.hid (fun W => rindex_any A.r A.a A.b (j : Int) W (by omega) (by omega))
                      rw [hp, hq, hX] at HIx
                      clear hp hq hX
                      have HWt := Lib.hid (fun W h1 h2 => with_any A (.slice (some ⟨ba, offa, none⟩) A.z.length cap) p q v W h1 h2 HN.out (by have := HlA.out; omega))
                      by_cases hw : wtE A p q v = 0
                      · obtain ⟨hV, hV1, hV2, hV3⟩ := with_back (v := v) hE hP hw
                        rw [hV, hw] at HWt
                        have HZl : Hid ((A.z.set j v).length = A.z.length) := by simp [Hid]
                        have HZk : Hid (∀ k, k ≠ j → (A.z.set j v)[k]? = A.z[k]?) := by intro k hk; simp [Ne.symm hk]
                        obtain ⟨Z, hZ⟩ : ∃ Z, A.z.set j v = Z := ⟨_, rfl⟩
                        rw [hZ] at HWt hV1 hV2 hV3 HZl HZk
                        have hZ5 : Z.length ≤ 500 := by rw [HZl.out]; exact HlA.out
                        have HAt := Lib.hid (fun u W h1 h2 => at_any ⟨A.k, A.r, A.a, A.b, Z⟩ u p q W h1 h2 (by show Z.length ≤ 1000000; omega))
                        rw [hV2, hV3] at HAt
                        have HC2 := Lib.hid (fun u W h1 h2 => acheck_any ⟨A.k, A.r, A.a, A.b, Z⟩ u W h1 h2 (by show Z.length ≤ 1000000; omega))
                        rw [hV1] at HC2
                        have HLk := Lib.hid (fun u u' W h1 h2 => HLk0.out ⟨A.k, A.r, A.a, A.b, Z⟩ u u' W h1 h2)
                        rw [show likeB A ⟨A.k, A.r, A.a, A.b, Z⟩ = true by simp [likeB]] at HLk
                        clear hV hV1 hV2 hV3 hw hZ hE hP
                        go_upto_region 31 with (first
      | (go_at_call 19; (with_reducible refine (HIx.out _).mono ?_); rintro e wi ⟨rfl, hb⟩; have HK2 := Lib.hid ((HK.out.next hb).pair p q); clear HK x0 x1 x2 x3 x4; have HK := HK2; clear HK2; clear hb; have x0 := (HK.out.a _ (.head _)).c0; have x1 := (HK.out.a _ (.head _)).c1; have x2 := (HK.out.a _ (.head _)).c2; have x3 := (HK.out.a _ (.head _)).c3; have x4 := (HK.out.a _ (.head _)).c4; have y0 := (HK.out.b _ (.head _)).c0; have y1 := (HK.out.b _ (.head _)).c1)
      | (go_at_call 20; (with_reducible refine (HWt.out _ HK.out.lay (by with_unfolding_all exact HK.out.r _ (.head _))).mono ?_); rintro e wb ⟨uwb, rfl, hu, hb⟩; obtain ⟨pwb, cwb, hpwb, _, _⟩ := hu.form; have hqwb : uwb = (.slice pwb Z.length cwb) := hpwb; subst hqwb; clear hpwb; have HK2 := Lib.hid ((HK.out.next hb).push ⟨A.k, A.r, A.a, A.b, Z⟩ hu.rd); clear HK x0 x1 x2 x3 x4 y0 y1; have HK := HK2; clear HK2; clear hb hu; have x0 := (HK.out.a _ (.tail _ (.head _))).c0; have x1 := (HK.out.a _ (.tail _ (.head _))).c1; have x2 := (HK.out.a _ (.tail _ (.head _))).c2; have x3 := (HK.out.a _ (.tail _ (.head _))).c3; have x4 := (HK.out.a _ (.tail _ (.head _))).c4; have y0 := (HK.out.b _ (.head _)).c0; have y1 := (HK.out.b _ (.head _)).c1; have r0 := (HK.out.a _ (.head _)).c0; have r1 := (HK.out.a _ (.head _)).c1; have r2 := (HK.out.a _ (.head _)).c2; have r3 := (HK.out.a _ (.head _)).c3; have r4 := (HK.out.a _ (.head _)).c4)
      | (go_at_call 21; (with_reducible refine (HAt.out _ _ HK.out.lay (by with_unfolding_all exact HK.out.r _ (.head _))).mono ?_); rintro e wz ⟨rfl, hb⟩; have HK2 := Lib.hid (HK.out.next hb); clear HK x0 x1 x2 x3 x4 r0 r1 r2 r3 r4 y0 y1; have HK := HK2; clear HK2; clear hb; have x0 := (HK.out.a _ (.tail _ (.head _))).c0; have x1 := (HK.out.a _ (.tail _ (.head _))).c1; have x2 := (HK.out.a _ (.tail _ (.head _))).c2; have x3 := (HK.out.a _ (.tail _ (.head _))).c3; have x4 := (HK.out.a _ (.tail _ (.head _))).c4; have r0 := (HK.out.a _ (.head _)).c0; have r1 := (HK.out.a _ (.head _)).c1; have r2 := (HK.out.a _ (.head _)).c2; have r3 := (HK.out.a _ (.head _)).c3; have r4 := (HK.out.a _ (.head _)).c4; have y0 := (HK.out.b _ (.head _)).c0; have y1 := (HK.out.b _ (.head _)).c1)
      | fail)
                        have HBZ := Lib.hid (HK.out.r _ (.head _))
                        obtain ⟨c, hcz⟩ : ∃ c, A.z[j] = c := ⟨_, rfl⟩
                        have HXa : Hid (∀ W, Below w2.heap.size w2 W → W.cell? ⟨ba, offa + j, none⟩ = some (.int .i64 c)) := by
                          intro W hb
                          obtain ⟨b1, o1, e1, _, h1⟩ := (HA2.out.below hb).cells (by intro e; rw [e] at hj; simp at hj)
                          cases e1
                          rw [← hcz]
                          exact h1 j hj
                        have HXo : Hid (∀ W, Below w2.heap.size w2 W → W.cell? ⟨bo, offo + j, none⟩ = some (.int .i64 c)) := by
                          intro W hb
                          obtain ⟨b1, o1, e1, _, h1⟩ := (HO.out.below hb).cells (by intro e; rw [e] at hj; simp at hj)
                          cases e1
                          rw [← hcz]
                          exact h1 j hj
                        clear hcz
                        go_cut [198] (fun t' wx => t' = .bool false ∧ KLs w2 [⟨wb.heap.size, ⟨A.k, A.r, A.a, A.b, Z⟩, (.slice pwb Z.length cwb)⟩, ⟨w.heap.size, A, (.slice (some ⟨ba, offa, none⟩) A.z.length cap)⟩] [(wi.heap.size, p, q)] wx)
                        case first =>
                          as_aux_lemma =>
                            have HAll : ∀ W, KLs w2 [⟨wb.heap.size, ⟨A.k, A.r, A.a, A.b, Z⟩, (.slice pwb Z.length cwb)⟩, ⟨w.heap.size, A, (.slice (some ⟨ba, offa, none⟩) A.z.length cap)⟩] [(wi.heap.size, p, q)] W → ((fun W => KLs w2 [⟨wb.heap.size, ⟨A.k, A.r, A.a, A.b, Z⟩, (.slice pwb Z.length cwb)⟩, ⟨w.heap.size, A, (.slice (some ⟨ba, offa, none⟩) A.z.length cap)⟩] [(wi.heap.size, p, q)] W ∧ W.cell? ⟨wb.heap.size, 0, none⟩ = some (.int .i64 A.k) ∧ W.cell? ⟨wb.heap.size, 1, none⟩ = some (.int .i64 A.r) ∧ W.cell? ⟨wb.heap.size, 2, none⟩ = some (.int .i64 A.a) ∧ W.cell? ⟨wb.heap.size, 3, none⟩ = some (.int .i64 A.b) ∧ W.cell? ⟨wb.heap.size, 4, none⟩ = some (.slice pwb Z.length cwb) ∧ W.cell? ⟨w.heap.size, 0, none⟩ = some (.int .i64 A.k) ∧ W.cell? ⟨w.heap.size, 1, none⟩ = some (.int .i64 A.r) ∧ W.cell? ⟨w.heap.size, 2, none⟩ = some (.int .i64 A.a) ∧ W.cell? ⟨w.heap.size, 3, none⟩ = some (.int .i64 A.b) ∧ W.cell? ⟨w.heap.size, 4, none⟩ = some (.slice (some ⟨ba, offa, none⟩) A.z.length cap) ∧ W.cell? ⟨ba, offa + j, none⟩ = some (.int .i64 c) ∧ W.cell? ⟨bo, offo + j, none⟩ = some (.int .i64 c)) W) := fun W h => ⟨h, (h.a _ (.head _)).c0, (h.a _ (.head _)).c1, (h.a _ (.head _)).c2, (h.a _ (.head _)).c3, (h.a _ (.head _)).c4, (h.a _ (.tail _ (.head _))).c0, (h.a _ (.tail _ (.head _))).c1, (h.a _ (.tail _ (.head _))).c2, (h.a _ (.tail _ (.head _))).c3, (h.a _ (.tail _ (.head _))).c4, HXa.out W h.bel, HXo.out W h.bel⟩
                            have hS := HK.out
                            clear HK x0 x1 x2 x3 x4 r0 r1 r2 r3 r4 y0 y1
                            go_region_held3 (fun W => KLs w2 [⟨wb.heap.size, ⟨A.k, A.r, A.a, A.b, Z⟩, (.slice pwb Z.length cwb)⟩, ⟨w.heap.size, A, (.slice (some ⟨ba, offa, none⟩) A.z.length cap)⟩] [(wi.heap.size, p, q)] W ∧ W.cell? ⟨wb.heap.size, 0, none⟩ = some (.int .i64 A.k) ∧ W.cell? ⟨wb.heap.size, 1, none⟩ = some (.int .i64 A.r) ∧ W.cell? ⟨wb.heap.size, 2, none⟩ = some (.int .i64 A.a) ∧ W.cell? ⟨wb.heap.size, 3, none⟩ = some (.int .i64 A.b) ∧ W.cell? ⟨wb.heap.size, 4, none⟩ = some (.slice pwb Z.length cwb) ∧ W.cell? ⟨w.heap.size, 0, none⟩ = some (.int .i64 A.k) ∧ W.cell? ⟨w.heap.size, 1, none⟩ = some (.int .i64 A.r) ∧ W.cell? ⟨w.heap.size, 2, none⟩ = some (.int .i64 A.a) ∧ W.cell? ⟨w.heap.size, 3, none⟩ = some (.int .i64 A.b) ∧ W.cell? ⟨w.heap.size, 4, none⟩ = some (.slice (some ⟨ba, offa, none⟩) A.z.length cap) ∧ W.cell? ⟨ba, offa + j, none⟩ = some (.int .i64 c) ∧ W.cell? ⟨bo, offo + j, none⟩ = some (.int .i64 c))
                              ((first | exact HAll _ ((by assumption : KLs _ _ _ _ ∧ _).1.next hbn) | exact HAll _ (by assumption : KLs _ _ _ _ ∧ _).1 | exact HAll _ (hS.next (Below.refl _ _).drew) | fail))
                              (first
                                | (go_at_call 22; (with_reducible refine (HLk.out _ _ _ ((by with_unfolding_all exact (by assumption : KLs _ _ _ _ ∧ _).1.r _ (.tail _ (.head _)))) ((by with_unfolding_all exact (by assumption : KLs _ _ _ _ ∧ _).1.r _ (.head _)))).mono ?_); rintro e wn ⟨rfl, hbn⟩)
                                | (go_at_call 17; (with_reducible refine (HC2.out _ _ (by with_unfolding_all exact (by assumption : KLs _ _ _ _ ∧ _).1.lay) ((by with_unfolding_all exact (by assumption : KLs _ _ _ _ ∧ _).1.r _ (.head _)))).mono ?_); rintro e wn ⟨rfl, hbn⟩)
                                | fail)
                            all_goals
                              have HB := Lib.hid (by assumption : KLs _ _ _ _ ∧ _).1
                              go_wp2_with fail
                              go_meet
                              case rel => exact ⟨rfl, HB.out⟩
                        case rest =>
                          clear HK x0 x1 x2 x3 x4 r0 r1 r2 r3 r4 y0 y1
                          obtain ⟨rfl, hB⟩ := hcut
                          have HK := Lib.hid hB
                          clear hB
                          have x0 := (HK.out.a _ (.tail _ (.head _))).c0
                          have x1 := (HK.out.a _ (.tail _ (.head _))).c1
                          have x2 := (HK.out.a _ (.tail _ (.head _))).c2
                          have x3 := (HK.out.a _ (.tail _ (.head _))).c3
                          have x4 := (HK.out.a _ (.tail _ (.head _))).c4
                          have r0 := (HK.out.a _ (.head _)).c0
                          have r1 := (HK.out.a _ (.head _)).c1
                          have r2 := (HK.out.a _ (.head _)).c2
                          have r3 := (HK.out.a _ (.head _)).c3
                          have r4 := (HK.out.a _ (.head _)).c4
                          have y0 := (HK.out.b _ (.head _)).c0
                          have y1 := (HK.out.b _ (.head _)).c1
                          have hZi : 0 < Z.length := by rw [HZl.out]; omega
                          obtain ⟨bb, offb, rfl, hbb, hcb⟩ := HBZ.out.cells (by intro e; simp only at e; rw [e] at hZi; simp at hZi)
                          clear hcb hZi
                          go_wp2_with fail
                          go_loopg [24] A.z.length (fun g i wr => ∃ k : Nat, k + g = A.z.length ∧ i = .int .i64 k ∧ KLs w2 [⟨wb.heap.size, ⟨A.k, A.r, A.a, A.b, Z⟩, (.slice (some ⟨bb, offb, none⟩) Z.length cwb)⟩, ⟨w.heap.size, A, (.slice (some ⟨ba, offa, none⟩) A.z.length cap)⟩] [(wi.heap.size, p, q)] wr)
                          case atStart => exact ⟨0, by omega, rfl, HK.out⟩
                          case round =>
                            obtain ⟨k, hkg, rfl, hK⟩ := hrel
                            clear HK x0 x1 x2 x3 x4 r0 r1 r2 r3 r4 y0 y1
                            have HK := Lib.hid hK
                            clear hK
                            have x0 := (HK.out.a _ (.tail _ (.head _))).c0
                            have x1 := (HK.out.a _ (.tail _ (.head _))).c1
                            have x2 := (HK.out.a _ (.tail _ (.head _))).c2
                            have x3 := (HK.out.a _ (.tail _ (.head _))).c3
                            have x4 := (HK.out.a _ (.tail _ (.head _))).c4
                            have r0 := (HK.out.a _ (.head _)).c0
                            have r1 := (HK.out.a _ (.head _)).c1
                            have r2 := (HK.out.a _ (.head _)).c2
                            have r3 := (HK.out.a _ (.head _)).c3
                            have r4 := (HK.out.a _ (.head _)).c4
                            have y0 := (HK.out.b _ (.head _)).c0
                            have y1 := (HK.out.b _ (.head _)).c1
                            cases gk with
                            | zero =>
                              have hki : ¬ (k : Int) < (A.z.length : Int) := by omega
                              have ed : (j : Int).tdiv 8 = ((j / 8 : Nat) : Int) := by rw [Int.tdiv_eq_ediv_of_nonneg (by omega)]; rfl
                              go_wp2_with fail
                              go_roundg g
                              case measure => omega
                              case rel => exact ⟨j + 1 + j / 8, by omega, by omega, by go_num, ⟨HK.out.bel, HK.out.lay, fun b m => HK.out.all b (.tail _ m), fun p m => by cases m⟩⟩
                            | succ g2 =>
                              have hki : (k : Int) < (A.z.length : Int) := by omega
                              have hkz : (k : Int) < (Z.length : Int) := by rw [HZl.out]; omega
                              by_cases hkj : k = j
                              · have hkn : ((k : Int) != (j : Int)) = false := by simp; omega
                                clear hkj
                                go_wp2_with fail
                                go_quiet (fail)
                                go_wp2_with fail
                                go_roundg g2
                                case measure => omega
                                case rel => exact ⟨k + 1, by omega, by go_num, HK.out.next (drewN_below _ _)⟩
                              · have hkn : ((k : Int) != (j : Int)) = true := by simp; omega
                                have hk1 : k < A.z.length := by omega
                                have hk2 : k < Z.length := by omega
                                obtain ⟨c2, hc2⟩ : ∃ c2, A.z[k] = c2 := ⟨_, rfl⟩
                                have e1 : wr.cell? ⟨bb, offb + k, none⟩ = some (.int .i64 c2) := by
                                  obtain ⟨b1, o1, q1', _, h1⟩ := (HK.out.r _ (.head _)).cells (by intro e; simp only at e; rw [e] at hk2; simp at hk2)
                                  cases q1'
                                  have := h1 k hk2
                                  rw [this]
                                  have hz := HZk.out k hkj
                                  rw [List.getElem?_eq_getElem hk2, List.getElem?_eq_getElem hk1] at hz
                                  rw [← hc2, Option.some.inj hz]
                                have e2 : wr.cell? ⟨bo, offo + k, none⟩ = some (.int .i64 c2) := by
                                  obtain ⟨b1, o1, q1', _, h1⟩ := (HO.out.below HK.out.bel).cells (by intro e; rw [e] at hk1; simp at hk1)
                                  cases q1'
                                  rw [← hc2]
                                  exact h1 k hk1
                                clear hkj hc2
                                go_wp2_with fail
                                go_quiet (fail)
                                go_wp2_with fail
                                go_roundg g2
                                case measure => omega
                                case rel => exact ⟨k + 1, by omega, by go_num, HK.out.next (drewN_below _ _)⟩
                      · obtain ⟨hk2, hw7⟩ := with_no hE hw
                        have hk2b : (A.k == 2) = true := by simpa using hk2
                        obtain ⟨M, hM⟩ : ∃ M, wtV A p q v = M := ⟨_, rfl⟩
                        rw [hw7, hM] at HWt
                        clear hw hw7 hM hk2 hE hP
                        obtain ⟨m1, m2, m3, m4, m5⟩ := M
                        go_wp2_with (first
      | (go_at_call 19; (with_reducible refine (HIx.out _).mono ?_); rintro e wi ⟨rfl, hb⟩; have HK2 := Lib.hid ((HK.out.next hb).pair p q); clear HK x0 x1 x2 x3 x4; have HK := HK2; clear HK2; clear hb; have x0 := (HK.out.a _ (.head _)).c0; have x1 := (HK.out.a _ (.head _)).c1; have x2 := (HK.out.a _ (.head _)).c2; have x3 := (HK.out.a _ (.head _)).c3; have x4 := (HK.out.a _ (.head _)).c4; have y0 := (HK.out.b _ (.head _)).c0; have y1 := (HK.out.b _ (.head _)).c1)
      | (go_at_call 20; (with_reducible refine (HWt.out _ HK.out.lay (by with_unfolding_all exact HK.out.r _ (.head _))).mono ?_); rintro e wb ⟨uwb, rfl, hu, hb⟩; obtain ⟨pwb, cwb, hpwb, _, _⟩ := hu.form; have hqwb : uwb = (.slice pwb m5.length cwb) := hpwb; subst hqwb; clear hpwb; have HK2 := Lib.hid ((HK.out.next hb).push ⟨m1, m2, m3, m4, m5⟩ hu.rd); clear HK x0 x1 x2 x3 x4 y0 y1; have HK := HK2; clear HK2; clear hb hu; have x0 := (HK.out.a _ (.tail _ (.head _))).c0; have x1 := (HK.out.a _ (.tail _ (.head _))).c1; have x2 := (HK.out.a _ (.tail _ (.head _))).c2; have x3 := (HK.out.a _ (.tail _ (.head _))).c3; have x4 := (HK.out.a _ (.tail _ (.head _))).c4; have y0 := (HK.out.b _ (.head _)).c0; have y1 := (HK.out.b _ (.head _)).c1)
      | (go_at_call 5; (with_reducible refine (HAw.out _ HK.out.lay).mono ?_); rintro e wz ⟨rfl, hb⟩; have HK2 := Lib.hid (HK.out.next hb); clear HK x0 x1 x2 x3 x4 y0 y1; have HK := HK2; clear HK2; clear hb; have x0 := (HK.out.a _ (.tail _ (.head _))).c0; have x1 := (HK.out.a _ (.tail _ (.head _))).c1; have x2 := (HK.out.a _ (.tail _ (.head _))).c2; have x3 := (HK.out.a _ (.tail _ (.head _))).c3; have x4 := (HK.out.a _ (.tail _ (.head _))).c4; have y0 := (HK.out.b _ (.head _)).c0; have y1 := (HK.out.b _ (.head _)).c1)
      | fail)
                        go_ret
                        exact ⟨rfl, HBs.out.trans (HK.out.bel.mono HBs.out.size)⟩
                  · have hji : ¬ (j : Int) < (A.z.length : Int) := by omega
                    go_wp2_with (first
      | (go_at_call 5; (with_reducible refine (HAw.out _ HK.out.lay).mono ?_); rintro e wz ⟨rfl, hb⟩; have HK2 := Lib.hid (HK.out.next hb); clear HK x0 x1 x2 x3 x4; have HK := HK2; clear HK2; clear hb; have x0 := (HK.out.a _ (.head _)).c0; have x1 := (HK.out.a _ (.head _)).c1; have x2 := (HK.out.a _ (.head _)).c2; have x3 := (HK.out.a _ (.head _)).c3; have x4 := (HK.out.a _ (.head _)).c4)
      | fail)
                    go_ret
                    exact ⟨rfl, HBs.out.trans (HK.out.bel.mono HBs.out.size)⟩
        · have hC0 : (C == 0) = false := by simp; omega
          have hC1 : (C != 0) = true := by simp; omega
          rw [hC] at HCk
          clear hC hc
          go_wp2_with (first
      | (go_at_call 17; (with_reducible refine (HCk.out _ _ HK.out.lay (by with_unfolding_all exact HK.out.r _ (.head _))).mono ?_); rintro e wz ⟨rfl, hb⟩; have HK2 := Lib.hid (HK.out.next hb); clear HK x0 x1 x2 x3 x4; have HK := HK2; clear HK2; clear hb; have x0 := (HK.out.a _ (.head _)).c0; have x1 := (HK.out.a _ (.head _)).c1; have x2 := (HK.out.a _ (.head _)).c2; have x3 := (HK.out.a _ (.head _)).c3; have x4 := (HK.out.a _ (.head _)).c4)
      | (go_at_call 5; (with_reducible refine (HAw.out _ HK.out.lay).mono ?_); rintro e wz ⟨rfl, hb⟩; have HK2 := Lib.hid (HK.out.next hb); clear HK x0 x1 x2 x3 x4; have HK := HK2; clear HK2; clear hb; have x0 := (HK.out.a _ (.head _)).c0; have x1 := (HK.out.a _ (.head _)).c1; have x2 := (HK.out.a _ (.head _)).c2; have x3 := (HK.out.a _ (.head _)).c3; have x4 := (HK.out.a _ (.head _)).c4)
      | fail)
          go_ret
          exact ⟨rfl, HK.out.bel⟩
end Go.Proofs.YtdbampgbbghfkaaDoor
