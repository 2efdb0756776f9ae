/- The law ScalarsExact. -/
import Derived.Test.YtbjongajpppfjaaScJ
import Derived.Deep.DeepCutAuto
namespace Go.Proofs.Ytbjongajpppfjaa
open Go.RowKit

set_option maxRecDepth 100000 in
set_option maxHeartbeats 8000000 in
theorem lawExact_any (x y : Int) (w : World) (ix : inr x = true) (iy : inr y = true) :
    Calls Try.prog 5 #[.int .i64 x, .int .i64 y] w fun e w' => e = .returned (.bool true) ∧ Below w.heap.size w w' := by
  have HB := Lib.hid (Below.refl w.heap.size w)
  obtain ⟨s, ba, HA, HAt, -, -⟩ := b_add x y ix iy
  obtain ⟨d, bd, HD, HDt, -, -⟩ := b_sub x y ix iy
  obtain ⟨m, bm, HM, HMt, -, -⟩ := b_mul x y ix iy
  obtain ⟨q, bq, HQ, HQt, HQf⟩ := b_div x y ix iy
  obtain ⟨r, br, HR, HRt, HRf, -⟩ := b_mod x y ix iy
  have HAt := Lib.hid HAt
  have HDt := Lib.hid HDt
  have HMt := Lib.hid HMt
  have HQt := Lib.hid HQt
  have HQf := Lib.hid HQf
  have HRt := Lib.hid HRt
  have HRf := Lib.hid HRf
  go_enter Try.func5, Try.ntmps5
  go_upto_region 2 with (first
      | (go_at_call 20; (with_reducible refine (HA.out _).mono ?_); rintro e wz ⟨rfl, hb⟩; have HB2 := Lib.hid (HB.out.trans (hb.mono HB.out.size)); clear HB hb; have HB := HB2; clear HB2)
      | (go_at_call 20; (with_reducible refine (HD.out _).mono ?_); rintro e wz ⟨rfl, hb⟩; have HB2 := Lib.hid (HB.out.trans (hb.mono HB.out.size)); clear HB hb; have HB := HB2; clear HB2)
      | (go_at_call 20; (with_reducible refine (HM.out _).mono ?_); rintro e wz ⟨rfl, hb⟩; have HB2 := Lib.hid (HB.out.trans (hb.mono HB.out.size)); clear HB hb; have HB := HB2; clear HB2)
      | (go_at_call 20; (with_reducible refine (HQ.out _).mono ?_); rintro e wz ⟨rfl, hb⟩; have HB2 := Lib.hid (HB.out.trans (hb.mono HB.out.size)); clear HB hb; have HB := HB2; clear HB2)
      | (go_at_call 20; (with_reducible refine (HR.out _).mono ?_); rintro e wz ⟨rfl, hb⟩; have HB2 := Lib.hid (HB.out.trans (hb.mono HB.out.size)); clear HB hb; have HB := HB2; clear HB2)
      | (go_at_call 17; (with_reducible refine (awake9_any _).mono ?_); rintro e wz ⟨rfl, hb⟩; have HB2 := Lib.hid (HB.out.trans (hb.mono HB.out.size)); clear HB hb; have HB := HB2; clear HB2)
      | fail)
  go_cut [42] (fun t wx => t = .bool false ∧ Below w.heap.size w wx)
  case first =>
    as_aux_lemma =>
      cases ba with
      | false =>
        go_wp2_with (first
            | (go_at_call 17; (with_reducible refine (awake9_any _).mono ?_); rintro e wz ⟨rfl, hb⟩; have HB2 := Lib.hid (HB.out.trans (hb.mono HB.out.size)); clear HB hb; have HB := HB2; clear HB2)
            | fail)
        go_meet
        case rel => exact ⟨rfl, HB.out⟩
      | true =>
        obtain ⟨hs, is⟩ := HAt.out rfl
        have C1 : CI 16 s y x := ci_of is iy (t16 (by omega) ix)
        have C2 : CI 16 s x y := ci_of is ix (t16 (by omega) iy)
        have C3 : CI 15 y x s := ci_of iy ix (t15 (by omega) is)
        clear hs is
        go_wp2_with (first
            | (go_at_call 21; (with_reducible refine (C1.out _).mono ?_); rintro e wz ⟨rfl, hb⟩; have HB2 := Lib.hid (HB.out.trans (hb.mono HB.out.size)); clear HB hb; have HB := HB2; clear HB2)
            | (go_at_call 21; (with_reducible refine (C2.out _).mono ?_); rintro e wz ⟨rfl, hb⟩; have HB2 := Lib.hid (HB.out.trans (hb.mono HB.out.size)); clear HB hb; have HB := HB2; clear HB2)
            | (go_at_call 21; (with_reducible refine (C3.out _).mono ?_); rintro e wz ⟨rfl, hb⟩; have HB2 := Lib.hid (HB.out.trans (hb.mono HB.out.size)); clear HB hb; have HB := HB2; clear HB2)
            | (go_at_call 17; (with_reducible refine (awake9_any _).mono ?_); rintro e wz ⟨rfl, hb⟩; have HB2 := Lib.hid (HB.out.trans (hb.mono HB.out.size)); clear HB hb; have HB := HB2; clear HB2)
            | fail)
        go_meet
        case rel => exact ⟨rfl, HB.out⟩
  case rest =>
    clear HB
    obtain ⟨rfl, hB⟩ := hcut
    have HB := Lib.hid hB
    clear hB
    go_upto_region 5 with (first
      | (go_at_call 20; (with_reducible refine (HA.out _).mono ?_); rintro e wz ⟨rfl, hb⟩; have HB2 := Lib.hid (HB.out.trans (hb.mono HB.out.size)); clear HB hb; have HB := HB2; clear HB2)
      | (go_at_call 20; (with_reducible refine (HD.out _).mono ?_); rintro e wz ⟨rfl, hb⟩; have HB2 := Lib.hid (HB.out.trans (hb.mono HB.out.size)); clear HB hb; have HB := HB2; clear HB2)
      | (go_at_call 20; (with_reducible refine (HM.out _).mono ?_); rintro e wz ⟨rfl, hb⟩; have HB2 := Lib.hid (HB.out.trans (hb.mono HB.out.size)); clear HB hb; have HB := HB2; clear HB2)
      | (go_at_call 20; (with_reducible refine (HQ.out _).mono ?_); rintro e wz ⟨rfl, hb⟩; have HB2 := Lib.hid (HB.out.trans (hb.mono HB.out.size)); clear HB hb; have HB := HB2; clear HB2)
      | (go_at_call 20; (with_reducible refine (HR.out _).mono ?_); rintro e wz ⟨rfl, hb⟩; have HB2 := Lib.hid (HB.out.trans (hb.mono HB.out.size)); clear HB hb; have HB := HB2; clear HB2)
      | (go_at_call 17; (with_reducible refine (awake9_any _).mono ?_); rintro e wz ⟨rfl, hb⟩; have HB2 := Lib.hid (HB.out.trans (hb.mono HB.out.size)); clear HB hb; have HB := HB2; clear HB2)
      | fail)
    go_cut [56] (fun t wx => t = .bool false ∧ Below w.heap.size w wx)
    case first =>
      as_aux_lemma =>
        cases bd with
        | false =>
          go_wp2_with (first
              | (go_at_call 17; (with_reducible refine (awake9_any _).mono ?_); rintro e wz ⟨rfl, hb⟩; have HB2 := Lib.hid (HB.out.trans (hb.mono HB.out.size)); clear HB hb; have HB := HB2; clear HB2)
              | fail)
          go_meet
          case rel => exact ⟨rfl, HB.out⟩
        | true =>
          obtain ⟨hs, is⟩ := HDt.out rfl
          have C1 : CI 15 d y x := ci_of is iy (t15 (by omega) ix)
          clear hs is
          go_wp2_with (first
              | (go_at_call 21; (with_reducible refine (C1.out _).mono ?_); rintro e wz ⟨rfl, hb⟩; have HB2 := Lib.hid (HB.out.trans (hb.mono HB.out.size)); clear HB hb; have HB := HB2; clear HB2)
              | (go_at_call 17; (with_reducible refine (awake9_any _).mono ?_); rintro e wz ⟨rfl, hb⟩; have HB2 := Lib.hid (HB.out.trans (hb.mono HB.out.size)); clear HB hb; have HB := HB2; clear HB2)
              | fail)
          go_meet
          case rel => exact ⟨rfl, HB.out⟩
    case rest =>
      clear HB
      obtain ⟨rfl, hB⟩ := hcut
      have HB := Lib.hid hB
      clear hB
      go_upto_region 8 with (first
      | (go_at_call 20; (with_reducible refine (HA.out _).mono ?_); rintro e wz ⟨rfl, hb⟩; have HB2 := Lib.hid (HB.out.trans (hb.mono HB.out.size)); clear HB hb; have HB := HB2; clear HB2)
      | (go_at_call 20; (with_reducible refine (HD.out _).mono ?_); rintro e wz ⟨rfl, hb⟩; have HB2 := Lib.hid (HB.out.trans (hb.mono HB.out.size)); clear HB hb; have HB := HB2; clear HB2)
      | (go_at_call 20; (with_reducible refine (HM.out _).mono ?_); rintro e wz ⟨rfl, hb⟩; have HB2 := Lib.hid (HB.out.trans (hb.mono HB.out.size)); clear HB hb; have HB := HB2; clear HB2)
      | (go_at_call 20; (with_reducible refine (HQ.out _).mono ?_); rintro e wz ⟨rfl, hb⟩; have HB2 := Lib.hid (HB.out.trans (hb.mono HB.out.size)); clear HB hb; have HB := HB2; clear HB2)
      | (go_at_call 20; (with_reducible refine (HR.out _).mono ?_); rintro e wz ⟨rfl, hb⟩; have HB2 := Lib.hid (HB.out.trans (hb.mono HB.out.size)); clear HB hb; have HB := HB2; clear HB2)
      | (go_at_call 17; (with_reducible refine (awake9_any _).mono ?_); rintro e wz ⟨rfl, hb⟩; have HB2 := Lib.hid (HB.out.trans (hb.mono HB.out.size)); clear HB hb; have HB := HB2; clear HB2)
      | fail)
      go_cut [87] (fun t wx => t = .bool false ∧ Below w.heap.size w wx)
      case first =>
        as_aux_lemma =>
          cases bm with
          | false =>
            go_wp2_with (first
                | (go_at_call 17; (with_reducible refine (awake9_any _).mono ?_); rintro e wz ⟨rfl, hb⟩; have HB2 := Lib.hid (HB.out.trans (hb.mono HB.out.size)); clear HB hb; have HB := HB2; clear HB2)
                | fail)
            go_meet
            case rel => exact ⟨rfl, HB.out⟩
          | true =>
            obtain ⟨hs, is⟩ := HMt.out rfl
            have C1 : CI 17 y x m := ci_of iy ix (t17 (by rw [Int.mul_comm]; exact hs) is)
            by_cases hy : y = 0
            · have hz : (y != 0) = false := by simpa using hy
              clear hs is hy
              go_wp2_with (first
                | (go_at_call 21; (with_reducible refine (C1.out _).mono ?_); rintro e wz ⟨rfl, hb⟩; have HB2 := Lib.hid (HB.out.trans (hb.mono HB.out.size)); clear HB hb; have HB := HB2; clear HB2)
                | (go_at_call 17; (with_reducible refine (awake9_any _).mono ?_); rintro e wz ⟨rfl, hb⟩; have HB2 := Lib.hid (HB.out.trans (hb.mono HB.out.size)); clear HB hb; have HB := HB2; clear HB2)
                | fail)
              go_meet
              case rel => exact ⟨rfl, HB.out⟩
            · have hz : (y != 0) = true := by simpa using hy
              have C2 : CI 18 m y x := ci_of is iy (t18 hy (by rw [← hs]; exact mul_fdiv x y hy) ix)
              have C3 : CI 19 m y 0 := ci_of is iy (t19 hy (by rw [← hs]; exact mul_fmod x y))
              clear hs is hy
              go_wp2_with (first
                | (go_at_call 21; (with_reducible refine (C1.out _).mono ?_); rintro e wz ⟨rfl, hb⟩; have HB2 := Lib.hid (HB.out.trans (hb.mono HB.out.size)); clear HB hb; have HB := HB2; clear HB2)
                | (go_at_call 21; (with_reducible refine (C2.out _).mono ?_); rintro e wz ⟨rfl, hb⟩; have HB2 := Lib.hid (HB.out.trans (hb.mono HB.out.size)); clear HB hb; have HB := HB2; clear HB2)
                | (go_at_call 21; (with_reducible refine (C3.out _).mono ?_); rintro e wz ⟨rfl, hb⟩; have HB2 := Lib.hid (HB.out.trans (hb.mono HB.out.size)); clear HB hb; have HB := HB2; clear HB2)
                | (go_at_call 17; (with_reducible refine (awake9_any _).mono ?_); rintro e wz ⟨rfl, hb⟩; have HB2 := Lib.hid (HB.out.trans (hb.mono HB.out.size)); clear HB hb; have HB := HB2; clear HB2)
                | fail)
              go_meet
              case rel => exact ⟨rfl, HB.out⟩
      case rest =>
        clear HB
        obtain ⟨rfl, hB⟩ := hcut
        have HB := Lib.hid hB
        clear hB
        go_upto_region 12 with (first
      | (go_at_call 20; (with_reducible refine (HA.out _).mono ?_); rintro e wz ⟨rfl, hb⟩; have HB2 := Lib.hid (HB.out.trans (hb.mono HB.out.size)); clear HB hb; have HB := HB2; clear HB2)
      | (go_at_call 20; (with_reducible refine (HD.out _).mono ?_); rintro e wz ⟨rfl, hb⟩; have HB2 := Lib.hid (HB.out.trans (hb.mono HB.out.size)); clear HB hb; have HB := HB2; clear HB2)
      | (go_at_call 20; (with_reducible refine (HM.out _).mono ?_); rintro e wz ⟨rfl, hb⟩; have HB2 := Lib.hid (HB.out.trans (hb.mono HB.out.size)); clear HB hb; have HB := HB2; clear HB2)
      | (go_at_call 20; (with_reducible refine (HQ.out _).mono ?_); rintro e wz ⟨rfl, hb⟩; have HB2 := Lib.hid (HB.out.trans (hb.mono HB.out.size)); clear HB hb; have HB := HB2; clear HB2)
      | (go_at_call 20; (with_reducible refine (HR.out _).mono ?_); rintro e wz ⟨rfl, hb⟩; have HB2 := Lib.hid (HB.out.trans (hb.mono HB.out.size)); clear HB hb; have HB := HB2; clear HB2)
      | (go_at_call 17; (with_reducible refine (awake9_any _).mono ?_); rintro e wz ⟨rfl, hb⟩; have HB2 := Lib.hid (HB.out.trans (hb.mono HB.out.size)); clear HB hb; have HB := HB2; clear HB2)
      | fail)
        go_cut [1, 135] (fun y' t wx => y' = .int .i64 y ∧ t = .bool false ∧ Below w.heap.size w wx)
        case first =>
          as_aux_lemma =>
            cases br with
            | false =>
              obtain rfl := HRf.out rfl
              go_wp2_with (first
                  | (go_at_call 17; (with_reducible refine (awake9_any _).mono ?_); rintro e wz ⟨rfl, hb⟩; have HB2 := Lib.hid (HB.out.trans (hb.mono HB.out.size)); clear HB hb; have HB := HB2; clear HB2)
                  | fail)
              go_meet
              case rel => exact ⟨rfl, rfl, HB.out⟩
            | true =>
              obtain ⟨hy, hr⟩ := HRt.out rfl
              have hz : (y != 0) = true := by simpa using hy
              have hf := fmod_bd x y hy
              rw [hr] at hf
              clear hr
              by_cases h0 : r = 0
              · have z0 : (r != 0) = false := by simpa using h0
                clear hf hy h0
                go_wp2_with (first
                  | (go_at_call 17; (with_reducible refine (awake9_any _).mono ?_); rintro e wz ⟨rfl, hb⟩; have HB2 := Lib.hid (HB.out.trans (hb.mono HB.out.size)); clear HB hb; have HB := HB2; clear HB2)
                  | fail)
                go_meet
                case rel => exact ⟨rfl, rfl, HB.out⟩
              · have z0 : (r != 0) = true := by simpa using h0
                by_cases hp : 0 < y
                · have z1 : decide (r < 0) = false := decide_eq_false (by omega)
                  have z2 : decide (y < 0) = false := decide_eq_false (by omega)
                  have z3 : decide (0 < y) = true := decide_eq_true (by omega)
                  have z4 : decide (y ≤ r) = false := decide_eq_false (by omega)
                  clear hf hy h0 hp
                  go_wp2_with (first
                  | (go_at_call 17; (with_reducible refine (awake9_any _).mono ?_); rintro e wz ⟨rfl, hb⟩; have HB2 := Lib.hid (HB.out.trans (hb.mono HB.out.size)); clear HB hb; have HB := HB2; clear HB2)
                  | fail)
                  go_meet
                  case rel => exact ⟨rfl, rfl, HB.out⟩
                · have z1 : decide (r < 0) = true := decide_eq_true (by omega)
                  have z2 : decide (y < 0) = true := decide_eq_true (by omega)
                  have z3 : decide (0 < y) = false := decide_eq_false (by omega)
                  have z4 : decide (r ≤ y) = false := decide_eq_false (by omega)
                  clear hf hy h0 hp
                  go_wp2_with (first
                  | (go_at_call 17; (with_reducible refine (awake9_any _).mono ?_); rintro e wz ⟨rfl, hb⟩; have HB2 := Lib.hid (HB.out.trans (hb.mono HB.out.size)); clear HB hb; have HB := HB2; clear HB2)
                  | fail)
                  go_meet
                  case rel => exact ⟨rfl, rfl, HB.out⟩
        case rest =>
          clear HB
          obtain ⟨rfl, rfl, hB⟩ := hcut
          have HB := Lib.hid hB
          clear hB
          cases bq with
          | true =>
            obtain ⟨hy, hq, iq⟩ := HQt.out rfl
            have hr : x.fmod y = r := by
              cases br with
              | true => exact (HRt.out rfl).2
              | false => exact absurd (HRf.out rfl) hy
            have hz : (y == 0) = false := by simpa using hy
            have hw : wrap64 (wrap64 (y * q) + r) = x := by
              have h1 := div_mod x y
              rw [hq, hr] at h1
              have x0 := inr_lo ix
              have x1 := inr_hi ix
              generalize y * q = g at h1 ⊢
              unfold wrap64
              omega
            clear hy hq iq hr
            go_wp2_with (first
      | (go_at_call 17; (with_reducible refine (awake9_any _).mono ?_); rintro e wz ⟨rfl, hb⟩; have HB2 := Lib.hid (HB.out.trans (hb.mono HB.out.size)); clear HB hb; have HB := HB2; clear HB2)
      | fail)
            go_ret
            exact ⟨rfl, HB.out⟩
          | false =>
            rcases HQf.out rfl with hy | ⟨rfl, rfl⟩
            · have hz : (y == 0) = true := by simpa using hy
              clear hy
              go_wp2_with (first
      | (go_at_call 17; (with_reducible refine (awake9_any _).mono ?_); rintro e wz ⟨rfl, hb⟩; have HB2 := Lib.hid (HB.out.trans (hb.mono HB.out.size)); clear HB hb; have HB := HB2; clear HB2)
      | fail)
              go_ret
              exact ⟨rfl, HB.out⟩
            · go_wp2_with (first
      | (go_at_call 17; (with_reducible refine (awake9_any _).mono ?_); rintro e wz ⟨rfl, hb⟩; have HB2 := Lib.hid (HB.out.trans (hb.mono HB.out.size)); clear HB hb; have HB := HB2; clear HB2)
      | fail)
              go_ret
              exact ⟨rfl, HB.out⟩
end Go.Proofs.Ytbjongajpppfjaa
