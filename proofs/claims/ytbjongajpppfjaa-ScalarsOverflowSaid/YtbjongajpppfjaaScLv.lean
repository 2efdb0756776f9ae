/- The law ScalarsOverflow. -/
import Derived.Test.YtbjongajpppfjaaScJ
import Derived.Deep.DeepCutAuto
namespace Go.Proofs.Ytbjongajpppfjaa
open Go.RowKit

set_option maxRecDepth 100000 in
set_option maxHeartbeats 8000000 in
theorem lawOverflow_any (x y : Int) (w : World) (ix : inr x = true) (iy : inr y = true) :
    Calls Try.prog 6 #[.int .i64 x, .int .i64 y] w fun e w' => e = .returned (.bool true) ∧ Below w.heap.size w w' := by
  have HB := Lib.hid (Below.refl w.heap.size w)
  obtain ⟨a, e, N1, N1c⟩ : ∃ a e, CO 1 x a e ∧ ((x = -9223372036854775808 ∧ a = 0 ∧ e = 12) ∨ (x ≠ -9223372036854775808 ∧ a = -x ∧ e = 0)) := by
    by_cases h : x = -9223372036854775808
    · subst h; exact ⟨0, 12, co_of ix (by decide), .inl ⟨rfl, rfl, rfl⟩⟩
    · have hi : inr (-x) = true := by rw [inr_iff] at ix ⊢; omega
      exact ⟨-x, 0, co_of ix (by show (fit _, fitE _) = _; rw [(fit_in hi).1, (fit_in hi).2]), .inr ⟨h, rfl, rfl⟩⟩
  obtain ⟨c, f, N2, N2c⟩ : ∃ a e, CO 2 x a e ∧ ((x = -9223372036854775808 ∧ a = 0 ∧ e = 12) ∨ (x ≠ -9223372036854775808 ∧ x < 0 ∧ a = -x ∧ e = 0) ∨ (0 ≤ x ∧ x = a ∧ e = 0)) := by
    by_cases h : x = -9223372036854775808
    · subst h; exact ⟨0, 12, co_of ix (by decide), .inl ⟨rfl, rfl, rfl⟩⟩
    · by_cases h0 : x < 0
      · have hi : inr (-x) = true := by rw [inr_iff] at ix ⊢; omega
        exact ⟨-x, 0, co_of ix (by show (if x < 0 then (fit _, fitE _) else _) = _; rw [if_pos h0, (fit_in hi).1, (fit_in hi).2]), .inr (.inl ⟨h, h0, rfl, rfl⟩)⟩
      · exact ⟨x, 0, co_of ix (by show (if x < 0 then _ else _) = _; rw [if_neg h0]), .inr (.inr ⟨by omega, rfl, rfl⟩)⟩
  obtain ⟨v1, g, bo, G1, G1c, HO⟩ : ∃ v e b, CW 15 x y v e ∧ (e == 12) = b ∧ b = !inr (x + y) := by
    cases h : inr (x + y) with
    | true => exact ⟨_, 0, false, cw_of ix iy (t15 rfl h), rfl, rfl⟩
    | false => exact ⟨0, 12, true, cw_of ix iy (t15o h), rfl, rfl⟩
  obtain ⟨v2, h, bu, G2, G2c, HU⟩ : ∃ v e b, CW 16 x y v e ∧ (e == 12) = b ∧ b = !inr (x - y) := by
    cases h : inr (x - y) with
    | true => exact ⟨_, 0, false, cw_of ix iy (t16 rfl h), rfl, rfl⟩
    | false => exact ⟨0, 12, true, cw_of ix iy (t16o h), rfl, rfl⟩
  obtain ⟨v3, i, bm, G3, G3c, HM⟩ : ∃ v e b, CW 17 x y v e ∧ (e == 12) = b ∧ b = !inr (x * y) := by
    cases h : inr (x * y) with
    | true => exact ⟨_, 0, false, cw_of ix iy (t17 rfl h), rfl, rfl⟩
    | false => exact ⟨0, 12, true, cw_of ix iy (t17o h), rfl, rfl⟩
  have HN1 := Lib.hid N1c
  have HN2 := Lib.hid N2c
  have HG1 := Lib.hid G1c
  have HG2 := Lib.hid G2c
  have HG3 := Lib.hid G3c
  have HHO := Lib.hid HO
  have HHU := Lib.hid HU
  have HHM := Lib.hid HM
  clear N1c N2c G1c G2c G3c HO HU HM
  have x0 := inr_lo ix
  have x1 := inr_hi ix
  have y0 := inr_lo iy
  have y1 := inr_hi iy
  clear ix iy
  go_enter Try.func6, Try.ntmps6
  go_upto_region 3 with (first
      | (go_at_call 15; (with_reducible refine (N1.out _).mono ?_); rintro e wz ⟨rfl, hb⟩; have HB2 := Lib.hid (HB.out.trans (hb.mono HB.out.size)); clear HB hb; have HB := HB2; clear HB2)
      | (go_at_call 15; (with_reducible refine (N2.out _).mono ?_); rintro e wz ⟨rfl, hb⟩; have HB2 := Lib.hid (HB.out.trans (hb.mono HB.out.size)); clear HB hb; have HB := HB2; clear HB2)
      | (go_at_call 18; (with_reducible refine (G1.out _).mono ?_); rintro e wz ⟨rfl, hb⟩; have HB2 := Lib.hid (HB.out.trans (hb.mono HB.out.size)); clear HB hb; have HB := HB2; clear HB2)
      | (go_at_call 18; (with_reducible refine (G2.out _).mono ?_); rintro e wz ⟨rfl, hb⟩; have HB2 := Lib.hid (HB.out.trans (hb.mono HB.out.size)); clear HB hb; have HB := HB2; clear HB2)
      | (go_at_call 18; (with_reducible refine (G3.out _).mono ?_); rintro e wz ⟨rfl, hb⟩; have HB2 := Lib.hid (HB.out.trans (hb.mono HB.out.size)); clear HB hb; have HB := HB2; clear HB2)
      | (go_at_call 17; (with_reducible refine (awake9_any _).mono ?_); rintro e wz ⟨rfl, hb⟩; have HB2 := Lib.hid (HB.out.trans (hb.mono HB.out.size)); clear HB hb; have HB := HB2; clear HB2)
      | fail)
  go_cut [71] (fun t wx => t = .bool false ∧ Below w.heap.size w wx)
  case first =>
    as_aux_lemma =>
      rcases HN1.out with ⟨hx, rfl, rfl⟩ | ⟨hx, rfl, rfl⟩
      · subst hx
        rcases HN2.out with ⟨-, rfl, rfl⟩ | ⟨hn, -, -⟩ | ⟨hn, -⟩
        · clear HN1 HN2
          go_wp2_with (first
            | (go_at_call 17; (with_reducible refine (awake9_any _).mono ?_); rintro e wz ⟨rfl, hb⟩; have HB2 := Lib.hid (HB.out.trans (hb.mono HB.out.size)); clear HB hb; have HB := HB2; clear HB2)
            | fail)
          go_meet
          case rel => exact ⟨rfl, HB.out⟩
        · exact absurd rfl hn
        · omega
      · have f1 : (x == -9223372036854775808) = false := beq_eq_false_iff_ne.2 hx
        have f2 : wrap64 (-x) = -x := by unfold wrap64; omega
        rcases HN2.out with ⟨hn, -⟩ | ⟨-, hn, rfl, rfl⟩ | ⟨hn, rfl, rfl⟩
        · exact absurd hn hx
        · have f3 : decide (0 < x) = false := decide_eq_false (by omega)
          have f4 : (-x != x) = true := bne_iff_ne.2 (by omega)
          clear HN1 HN2 hx hn
          go_wp2_with (first
            | (go_at_call 17; (with_reducible refine (awake9_any _).mono ?_); rintro e wz ⟨rfl, hb⟩; have HB2 := Lib.hid (HB.out.trans (hb.mono HB.out.size)); clear HB hb; have HB := HB2; clear HB2)
            | fail)
          go_meet
          case rel => exact ⟨rfl, HB.out⟩
        · have f3 : decide (x < 0) = false := decide_eq_false (by omega)
          clear HN1 HN2 hx hn
          go_wp2_with (first
            | (go_at_call 17; (with_reducible refine (awake9_any _).mono ?_); rintro e wz ⟨rfl, hb⟩; have HB2 := Lib.hid (HB.out.trans (hb.mono HB.out.size)); clear HB hb; have HB := HB2; clear HB2)
            | fail)
          go_meet
          case rel => exact ⟨rfl, HB.out⟩
  case rest =>
    clear HB
    obtain ⟨rfl, hB⟩ := hcut
    have HB := Lib.hid hB
    clear hB
    go_upto_region 6 with (first
      | (go_at_call 15; (with_reducible refine (N1.out _).mono ?_); rintro e wz ⟨rfl, hb⟩; have HB2 := Lib.hid (HB.out.trans (hb.mono HB.out.size)); clear HB hb; have HB := HB2; clear HB2)
      | (go_at_call 15; (with_reducible refine (N2.out _).mono ?_); rintro e wz ⟨rfl, hb⟩; have HB2 := Lib.hid (HB.out.trans (hb.mono HB.out.size)); clear HB hb; have HB := HB2; clear HB2)
      | (go_at_call 18; (with_reducible refine (G1.out _).mono ?_); rintro e wz ⟨rfl, hb⟩; have HB2 := Lib.hid (HB.out.trans (hb.mono HB.out.size)); clear HB hb; have HB := HB2; clear HB2)
      | (go_at_call 18; (with_reducible refine (G2.out _).mono ?_); rintro e wz ⟨rfl, hb⟩; have HB2 := Lib.hid (HB.out.trans (hb.mono HB.out.size)); clear HB hb; have HB := HB2; clear HB2)
      | (go_at_call 18; (with_reducible refine (G3.out _).mono ?_); rintro e wz ⟨rfl, hb⟩; have HB2 := Lib.hid (HB.out.trans (hb.mono HB.out.size)); clear HB hb; have HB := HB2; clear HB2)
      | (go_at_call 17; (with_reducible refine (awake9_any _).mono ?_); rintro e wz ⟨rfl, hb⟩; have HB2 := Lib.hid (HB.out.trans (hb.mono HB.out.size)); clear HB hb; have HB := HB2; clear HB2)
      | fail)
    go_cut [10] (fun t wx => t = .bool bo ∧ Below w.heap.size w wx)
    case first =>
      as_aux_lemma =>
        by_cases sx : x < 0
        · by_cases sy : y < 0
          · skip
            have f1 : decide (x < 0) = true := decide_eq_true (by omega)
            have f2 : decide (y < 0) = true := decide_eq_true (by omega)
            cases hi : inr (x + y) with
            | true =>
              obtain rfl : bo = false := by rw [HHO.out, hi]; rfl
              rw [inr_iff] at hi
              have f3 : decide (wrap64 (x + y) < 0) = true := decide_eq_true (by unfold wrap64; omega)
              clear hi sx sy
              go_wp2_with (first
              | (go_at_call 17; (with_reducible refine (awake9_any _).mono ?_); rintro e wz ⟨rfl, hb⟩; have HB2 := Lib.hid (HB.out.trans (hb.mono HB.out.size)); clear HB hb; have HB := HB2; clear HB2)
              | fail)
              go_meet
              case rel => exact ⟨rfl, HB.out⟩
            | false =>
              obtain rfl : bo = true := by rw [HHO.out, hi]; rfl
              rw [inr_not] at hi
              have f3 : decide (wrap64 (x + y) < 0) = false := decide_eq_false (by unfold wrap64; omega)
              clear hi sx sy
              go_wp2_with (first
              | (go_at_call 17; (with_reducible refine (awake9_any _).mono ?_); rintro e wz ⟨rfl, hb⟩; have HB2 := Lib.hid (HB.out.trans (hb.mono HB.out.size)); clear HB hb; have HB := HB2; clear HB2)
              | fail)
              go_meet
              case rel => exact ⟨rfl, HB.out⟩
          · skip
            have f1 : decide (x < 0) = true := decide_eq_true (by omega)
            have f2 : decide (y < 0) = false := decide_eq_false (by omega)
            obtain rfl : bo = false := by rw [HHO.out, show inr (x + y) = true by rw [inr_iff]; omega]; rfl
            clear sx sy
            go_wp2_with (first
              | (go_at_call 17; (with_reducible refine (awake9_any _).mono ?_); rintro e wz ⟨rfl, hb⟩; have HB2 := Lib.hid (HB.out.trans (hb.mono HB.out.size)); clear HB hb; have HB := HB2; clear HB2)
              | fail)
            go_meet
            case rel => exact ⟨rfl, HB.out⟩
        · by_cases sy : y < 0
          · skip
            have f1 : decide (x < 0) = false := decide_eq_false (by omega)
            have f2 : decide (y < 0) = true := decide_eq_true (by omega)
            obtain rfl : bo = false := by rw [HHO.out, show inr (x + y) = true by rw [inr_iff]; omega]; rfl
            clear sx sy
            go_wp2_with (first
              | (go_at_call 17; (with_reducible refine (awake9_any _).mono ?_); rintro e wz ⟨rfl, hb⟩; have HB2 := Lib.hid (HB.out.trans (hb.mono HB.out.size)); clear HB hb; have HB := HB2; clear HB2)
              | fail)
            go_meet
            case rel => exact ⟨rfl, HB.out⟩
          · skip
            have f1 : decide (x < 0) = false := decide_eq_false (by omega)
            have f2 : decide (y < 0) = false := decide_eq_false (by omega)
            cases hi : inr (x + y) with
            | true =>
              obtain rfl : bo = false := by rw [HHO.out, hi]; rfl
              rw [inr_iff] at hi
              have f3 : decide (wrap64 (x + y) < 0) = false := decide_eq_false (by unfold wrap64; omega)
              clear hi sx sy
              go_wp2_with (first
              | (go_at_call 17; (with_reducible refine (awake9_any _).mono ?_); rintro e wz ⟨rfl, hb⟩; have HB2 := Lib.hid (HB.out.trans (hb.mono HB.out.size)); clear HB hb; have HB := HB2; clear HB2)
              | fail)
              go_meet
              case rel => exact ⟨rfl, HB.out⟩
            | false =>
              obtain rfl : bo = true := by rw [HHO.out, hi]; rfl
              rw [inr_not] at hi
              have f3 : decide (wrap64 (x + y) < 0) = true := decide_eq_true (by unfold wrap64; omega)
              clear hi sx sy
              go_wp2_with (first
              | (go_at_call 17; (with_reducible refine (awake9_any _).mono ?_); rintro e wz ⟨rfl, hb⟩; have HB2 := Lib.hid (HB.out.trans (hb.mono HB.out.size)); clear HB hb; have HB := HB2; clear HB2)
              | fail)
              go_meet
              case rel => exact ⟨rfl, HB.out⟩
    case rest =>
      clear HB
      obtain ⟨rfl, hB⟩ := hcut
      have HB := Lib.hid hB
      clear hB
      go_upto_region 9 with (first
      | (go_at_call 15; (with_reducible refine (N1.out _).mono ?_); rintro e wz ⟨rfl, hb⟩; have HB2 := Lib.hid (HB.out.trans (hb.mono HB.out.size)); clear HB hb; have HB := HB2; clear HB2)
      | (go_at_call 15; (with_reducible refine (N2.out _).mono ?_); rintro e wz ⟨rfl, hb⟩; have HB2 := Lib.hid (HB.out.trans (hb.mono HB.out.size)); clear HB hb; have HB := HB2; clear HB2)
      | (go_at_call 18; (with_reducible refine (G1.out _).mono ?_); rintro e wz ⟨rfl, hb⟩; have HB2 := Lib.hid (HB.out.trans (hb.mono HB.out.size)); clear HB hb; have HB := HB2; clear HB2)
      | (go_at_call 18; (with_reducible refine (G2.out _).mono ?_); rintro e wz ⟨rfl, hb⟩; have HB2 := Lib.hid (HB.out.trans (hb.mono HB.out.size)); clear HB hb; have HB := HB2; clear HB2)
      | (go_at_call 18; (with_reducible refine (G3.out _).mono ?_); rintro e wz ⟨rfl, hb⟩; have HB2 := Lib.hid (HB.out.trans (hb.mono HB.out.size)); clear HB hb; have HB := HB2; clear HB2)
      | (go_at_call 17; (with_reducible refine (awake9_any _).mono ?_); rintro e wz ⟨rfl, hb⟩; have HB2 := Lib.hid (HB.out.trans (hb.mono HB.out.size)); clear HB hb; have HB := HB2; clear HB2)
      | fail)
      go_cut [14] (fun t wx => t = .bool bu ∧ Below w.heap.size w wx)
      case first =>
        as_aux_lemma =>
          by_cases sx : x < 0
          · by_cases sy : y < 0
            · skip
              have f1 : decide (x < 0) = true := decide_eq_true (by omega)
              have f2 : decide (y < 0) = true := decide_eq_true (by omega)
              obtain rfl : bu = false := by rw [HHU.out, show inr (x - y) = true by rw [inr_iff]; omega]; rfl
              clear sx sy
              go_wp2_with (first
                | (go_at_call 17; (with_reducible refine (awake9_any _).mono ?_); rintro e wz ⟨rfl, hb⟩; have HB2 := Lib.hid (HB.out.trans (hb.mono HB.out.size)); clear HB hb; have HB := HB2; clear HB2)
                | fail)
              go_meet
              case rel => exact ⟨rfl, HB.out⟩
            · skip
              have f1 : decide (x < 0) = true := decide_eq_true (by omega)
              have f2 : decide (y < 0) = false := decide_eq_false (by omega)
              cases hi : inr (x - y) with
              | true =>
                obtain rfl : bu = false := by rw [HHU.out, hi]; rfl
                rw [inr_iff] at hi
                have f3 : decide (wrap64 (x - y) < 0) = true := decide_eq_true (by unfold wrap64; omega)
                clear hi sx sy
                go_wp2_with (first
                | (go_at_call 17; (with_reducible refine (awake9_any _).mono ?_); rintro e wz ⟨rfl, hb⟩; have HB2 := Lib.hid (HB.out.trans (hb.mono HB.out.size)); clear HB hb; have HB := HB2; clear HB2)
                | fail)
                go_meet
                case rel => exact ⟨rfl, HB.out⟩
              | false =>
                obtain rfl : bu = true := by rw [HHU.out, hi]; rfl
                rw [inr_not] at hi
                have f3 : decide (wrap64 (x - y) < 0) = false := decide_eq_false (by unfold wrap64; omega)
                clear hi sx sy
                go_wp2_with (first
                | (go_at_call 17; (with_reducible refine (awake9_any _).mono ?_); rintro e wz ⟨rfl, hb⟩; have HB2 := Lib.hid (HB.out.trans (hb.mono HB.out.size)); clear HB hb; have HB := HB2; clear HB2)
                | fail)
                go_meet
                case rel => exact ⟨rfl, HB.out⟩
          · by_cases sy : y < 0
            · skip
              have f1 : decide (x < 0) = false := decide_eq_false (by omega)
              have f2 : decide (y < 0) = true := decide_eq_true (by omega)
              cases hi : inr (x - y) with
              | true =>
                obtain rfl : bu = false := by rw [HHU.out, hi]; rfl
                rw [inr_iff] at hi
                have f3 : decide (wrap64 (x - y) < 0) = false := decide_eq_false (by unfold wrap64; omega)
                clear hi sx sy
                go_wp2_with (first
                | (go_at_call 17; (with_reducible refine (awake9_any _).mono ?_); rintro e wz ⟨rfl, hb⟩; have HB2 := Lib.hid (HB.out.trans (hb.mono HB.out.size)); clear HB hb; have HB := HB2; clear HB2)
                | fail)
                go_meet
                case rel => exact ⟨rfl, HB.out⟩
              | false =>
                obtain rfl : bu = true := by rw [HHU.out, hi]; rfl
                rw [inr_not] at hi
                have f3 : decide (wrap64 (x - y) < 0) = true := decide_eq_true (by unfold wrap64; omega)
                clear hi sx sy
                go_wp2_with (first
                | (go_at_call 17; (with_reducible refine (awake9_any _).mono ?_); rintro e wz ⟨rfl, hb⟩; have HB2 := Lib.hid (HB.out.trans (hb.mono HB.out.size)); clear HB hb; have HB := HB2; clear HB2)
                | fail)
                go_meet
                case rel => exact ⟨rfl, HB.out⟩
            · skip
              have f1 : decide (x < 0) = false := decide_eq_false (by omega)
              have f2 : decide (y < 0) = false := decide_eq_false (by omega)
              obtain rfl : bu = false := by rw [HHU.out, show inr (x - y) = true by rw [inr_iff]; omega]; rfl
              clear sx sy
              go_wp2_with (first
                | (go_at_call 17; (with_reducible refine (awake9_any _).mono ?_); rintro e wz ⟨rfl, hb⟩; have HB2 := Lib.hid (HB.out.trans (hb.mono HB.out.size)); clear HB hb; have HB := HB2; clear HB2)
                | fail)
              go_meet
              case rel => exact ⟨rfl, HB.out⟩
      case rest =>
        clear HB
        obtain ⟨rfl, hB⟩ := hcut
        have HB := Lib.hid hB
        clear hB
        go_upto_region 11 with (first
      | (go_at_call 15; (with_reducible refine (N1.out _).mono ?_); rintro e wz ⟨rfl, hb⟩; have HB2 := Lib.hid (HB.out.trans (hb.mono HB.out.size)); clear HB hb; have HB := HB2; clear HB2)
      | (go_at_call 15; (with_reducible refine (N2.out _).mono ?_); rintro e wz ⟨rfl, hb⟩; have HB2 := Lib.hid (HB.out.trans (hb.mono HB.out.size)); clear HB hb; have HB := HB2; clear HB2)
      | (go_at_call 18; (with_reducible refine (G1.out _).mono ?_); rintro e wz ⟨rfl, hb⟩; have HB2 := Lib.hid (HB.out.trans (hb.mono HB.out.size)); clear HB hb; have HB := HB2; clear HB2)
      | (go_at_call 18; (with_reducible refine (G2.out _).mono ?_); rintro e wz ⟨rfl, hb⟩; have HB2 := Lib.hid (HB.out.trans (hb.mono HB.out.size)); clear HB hb; have HB := HB2; clear HB2)
      | (go_at_call 18; (with_reducible refine (G3.out _).mono ?_); rintro e wz ⟨rfl, hb⟩; have HB2 := Lib.hid (HB.out.trans (hb.mono HB.out.size)); clear HB hb; have HB := HB2; clear HB2)
      | (go_at_call 17; (with_reducible refine (awake9_any _).mono ?_); rintro e wz ⟨rfl, hb⟩; have HB2 := Lib.hid (HB.out.trans (hb.mono HB.out.size)); clear HB hb; have HB := HB2; clear HB2)
      | fail)
        go_cut [123] (fun t wx => t = .bool false ∧ Below w.heap.size w wx)
        case first =>
          as_aux_lemma =>
            have f1 := HG1.out
            have f2 := HG2.out
            cases bo
            · cases bu
              · skip
                go_wp2_with (first
                  | (go_at_call 17; (with_reducible refine (awake9_any _).mono ?_); rintro e wz ⟨rfl, hb⟩; have HB2 := Lib.hid (HB.out.trans (hb.mono HB.out.size)); clear HB hb; have HB := HB2; clear HB2)
                  | fail)
                go_meet
                case rel => exact ⟨rfl, HB.out⟩
              · skip
                go_wp2_with (first
                  | (go_at_call 17; (with_reducible refine (awake9_any _).mono ?_); rintro e wz ⟨rfl, hb⟩; have HB2 := Lib.hid (HB.out.trans (hb.mono HB.out.size)); clear HB hb; have HB := HB2; clear HB2)
                  | fail)
                go_meet
                case rel => exact ⟨rfl, HB.out⟩
            · cases bu
              · skip
                go_wp2_with (first
                  | (go_at_call 17; (with_reducible refine (awake9_any _).mono ?_); rintro e wz ⟨rfl, hb⟩; have HB2 := Lib.hid (HB.out.trans (hb.mono HB.out.size)); clear HB hb; have HB := HB2; clear HB2)
                  | fail)
                go_meet
                case rel => exact ⟨rfl, HB.out⟩
              · skip
                go_wp2_with (first
                  | (go_at_call 17; (with_reducible refine (awake9_any _).mono ?_); rintro e wz ⟨rfl, hb⟩; have HB2 := Lib.hid (HB.out.trans (hb.mono HB.out.size)); clear HB hb; have HB := HB2; clear HB2)
                  | fail)
                go_meet
                case rel => exact ⟨rfl, HB.out⟩
        case rest =>
          clear HB
          obtain ⟨rfl, hB⟩ := hcut
          have HB := Lib.hid hB
          clear hB
          go_upto_region 14 with (first
      | (go_at_call 15; (with_reducible refine (N1.out _).mono ?_); rintro e wz ⟨rfl, hb⟩; have HB2 := Lib.hid (HB.out.trans (hb.mono HB.out.size)); clear HB hb; have HB := HB2; clear HB2)
      | (go_at_call 15; (with_reducible refine (N2.out _).mono ?_); rintro e wz ⟨rfl, hb⟩; have HB2 := Lib.hid (HB.out.trans (hb.mono HB.out.size)); clear HB hb; have HB := HB2; clear HB2)
      | (go_at_call 18; (with_reducible refine (G1.out _).mono ?_); rintro e wz ⟨rfl, hb⟩; have HB2 := Lib.hid (HB.out.trans (hb.mono HB.out.size)); clear HB hb; have HB := HB2; clear HB2)
      | (go_at_call 18; (with_reducible refine (G2.out _).mono ?_); rintro e wz ⟨rfl, hb⟩; have HB2 := Lib.hid (HB.out.trans (hb.mono HB.out.size)); clear HB hb; have HB := HB2; clear HB2)
      | (go_at_call 18; (with_reducible refine (G3.out _).mono ?_); rintro e wz ⟨rfl, hb⟩; have HB2 := Lib.hid (HB.out.trans (hb.mono HB.out.size)); clear HB hb; have HB := HB2; clear HB2)
      | (go_at_call 17; (with_reducible refine (awake9_any _).mono ?_); rintro e wz ⟨rfl, hb⟩; have HB2 := Lib.hid (HB.out.trans (hb.mono HB.out.size)); clear HB hb; have HB := HB2; clear HB2)
      | fail)
          go_cut [18] (fun t wx => t = .bool bm ∧ Below w.heap.size w wx)
          case first =>
            as_aux_lemma =>
              by_cases hx : x = 0
              · subst hx
                obtain rfl : bm = false := by rw [HHM.out, Int.zero_mul]; decide
                go_wp2_with (first
                    | (go_at_call 17; (with_reducible refine (awake9_any _).mono ?_); rintro e wz ⟨rfl, hb⟩; have HB2 := Lib.hid (HB.out.trans (hb.mono HB.out.size)); clear HB hb; have HB := HB2; clear HB2)
                    | fail)
                go_meet
                case rel => exact ⟨rfl, HB.out⟩
              · by_cases hy : y = 0
                · subst hy
                  obtain rfl : bm = false := by rw [HHM.out, Int.mul_zero]; decide
                  have f1 : (x != 0) = true := bne_iff_ne.2 hx
                  clear hx
                  go_wp2_with (first
                    | (go_at_call 17; (with_reducible refine (awake9_any _).mono ?_); rintro e wz ⟨rfl, hb⟩; have HB2 := Lib.hid (HB.out.trans (hb.mono HB.out.size)); clear HB hb; have HB := HB2; clear HB2)
                    | fail)
                  go_meet
                  case rel => exact ⟨rfl, HB.out⟩
                · have f1 : (x != 0) = true := bne_iff_ne.2 hx
                  have f2 : (y != 0) = true := bne_iff_ne.2 hy
                  have f2' : (y == 0) = false := beq_eq_false_iff_ne.2 hy
                  by_cases s1 : x = -1 ∧ y = -9223372036854775808
                  · obtain ⟨rfl, rfl⟩ := s1
                    obtain rfl : bm = true := by rw [HHM.out]; decide
                    clear hx hy f1 f2 f2'
                    go_wp2_with (first
                    | (go_at_call 17; (with_reducible refine (awake9_any _).mono ?_); rintro e wz ⟨rfl, hb⟩; have HB2 := Lib.hid (HB.out.trans (hb.mono HB.out.size)); clear HB hb; have HB := HB2; clear HB2)
                    | fail)
                    go_meet
                    case rel => exact ⟨rfl, HB.out⟩
                  · by_cases s2 : y = -1 ∧ x = -9223372036854775808
                    · obtain ⟨rfl, rfl⟩ := s2
                      obtain rfl : bm = true := by rw [HHM.out]; decide
                      clear hx hy f1 f2 f2'
                      go_wp2_with (first
                    | (go_at_call 17; (with_reducible refine (awake9_any _).mono ?_); rintro e wz ⟨rfl, hb⟩; have HB2 := Lib.hid (HB.out.trans (hb.mono HB.out.size)); clear HB hb; have HB := HB2; clear HB2)
                    | fail)
                      go_meet
                      case rel => exact ⟨rfl, HB.out⟩
                    · have k1 : (x == -1 && y == -9223372036854775808) = false := by
                        cases hq : (x == -1 && y == -9223372036854775808) with
                        | false => rfl
                        | true => simp at hq; exact absurd hq s1
                      have k2 : (y == -1 && x == -9223372036854775808) = false := by
                        cases hq : (y == -1 && x == -9223372036854775808) with
                        | false => rfl
                        | true => simp at hq; exact absurd hq s2
                      have hq : (wrap64 ((wrap64 (x * y)).tdiv y) != x) = bm := by
                        rw [HHM.out]
                        cases hi : inr (x * y) with
                        | true =>
                          rw [mul_fore x y hy hi, show wrap64 x = x by unfold wrap64; omega]
                          simp
                        | false =>
                          rw [Bool.not_false, bne_iff_ne]
                          intro k
                          by_cases hy1 : y = -1
                          · subst hy1
                            rw [show x * -1 = -x by omega, inr_not] at hi
                            omega
                          · have hb := tdiv_bd (wrap64 (x * y)) y hy hy1 (by unfold wrap64; omega) (by unfold wrap64; omega)
                            rw [show wrap64 ((wrap64 (x * y)).tdiv y) = (wrap64 (x * y)).tdiv y by clear k; generalize (wrap64 (x * y)).tdiv y = q at hb ⊢; unfold wrap64; omega] at k
                            rw [mul_back x y hy y0 y1 k] at hi
                            cases hi
                      clear s1 s2 hx
                      cases b1 : (x == -1) <;> cases b2 : (y == -1) <;> rw [b1] at k1 <;> rw [b2] at k2 <;> simp only [Bool.true_and, Bool.false_and] at k1 k2
                      · cases bm
                        · skip
                          go_wp2_with (first
                    | (go_at_call 17; (with_reducible refine (awake9_any _).mono ?_); rintro e wz ⟨rfl, hb⟩; have HB2 := Lib.hid (HB.out.trans (hb.mono HB.out.size)); clear HB hb; have HB := HB2; clear HB2)
                    | fail)
                          go_meet
                          case rel => exact ⟨rfl, HB.out⟩
                        · skip
                          go_wp2_with (first
                    | (go_at_call 17; (with_reducible refine (awake9_any _).mono ?_); rintro e wz ⟨rfl, hb⟩; have HB2 := Lib.hid (HB.out.trans (hb.mono HB.out.size)); clear HB hb; have HB := HB2; clear HB2)
                    | fail)
                          go_meet
                          case rel => exact ⟨rfl, HB.out⟩
                      · cases bm
                        · skip
                          go_wp2_with (first
                    | (go_at_call 17; (with_reducible refine (awake9_any _).mono ?_); rintro e wz ⟨rfl, hb⟩; have HB2 := Lib.hid (HB.out.trans (hb.mono HB.out.size)); clear HB hb; have HB := HB2; clear HB2)
                    | fail)
                          go_meet
                          case rel => exact ⟨rfl, HB.out⟩
                        · skip
                          go_wp2_with (first
                    | (go_at_call 17; (with_reducible refine (awake9_any _).mono ?_); rintro e wz ⟨rfl, hb⟩; have HB2 := Lib.hid (HB.out.trans (hb.mono HB.out.size)); clear HB hb; have HB := HB2; clear HB2)
                    | fail)
                          go_meet
                          case rel => exact ⟨rfl, HB.out⟩
                      · cases bm
                        · skip
                          go_wp2_with (first
                    | (go_at_call 17; (with_reducible refine (awake9_any _).mono ?_); rintro e wz ⟨rfl, hb⟩; have HB2 := Lib.hid (HB.out.trans (hb.mono HB.out.size)); clear HB hb; have HB := HB2; clear HB2)
                    | fail)
                          go_meet
                          case rel => exact ⟨rfl, HB.out⟩
                        · skip
                          go_wp2_with (first
                    | (go_at_call 17; (with_reducible refine (awake9_any _).mono ?_); rintro e wz ⟨rfl, hb⟩; have HB2 := Lib.hid (HB.out.trans (hb.mono HB.out.size)); clear HB hb; have HB := HB2; clear HB2)
                    | fail)
                          go_meet
                          case rel => exact ⟨rfl, HB.out⟩
                      · cases bm
                        · skip
                          go_wp2_with (first
                    | (go_at_call 17; (with_reducible refine (awake9_any _).mono ?_); rintro e wz ⟨rfl, hb⟩; have HB2 := Lib.hid (HB.out.trans (hb.mono HB.out.size)); clear HB hb; have HB := HB2; clear HB2)
                    | fail)
                          go_meet
                          case rel => exact ⟨rfl, HB.out⟩
                        · skip
                          go_wp2_with (first
                    | (go_at_call 17; (with_reducible refine (awake9_any _).mono ?_); rintro e wz ⟨rfl, hb⟩; have HB2 := Lib.hid (HB.out.trans (hb.mono HB.out.size)); clear HB hb; have HB := HB2; clear HB2)
                    | fail)
                          go_meet
                          case rel => exact ⟨rfl, HB.out⟩
          case rest =>
            clear HB
            obtain ⟨rfl, hB⟩ := hcut
            have HB := Lib.hid hB
            clear hB
            have f1 := HG3.out
            cases bm
            · skip
              go_wp2_with (first
      | (go_at_call 15; (with_reducible refine (N1.out _).mono ?_); rintro e wz ⟨rfl, hb⟩; have HB2 := Lib.hid (HB.out.trans (hb.mono HB.out.size)); clear HB hb; have HB := HB2; clear HB2)
      | (go_at_call 15; (with_reducible refine (N2.out _).mono ?_); rintro e wz ⟨rfl, hb⟩; have HB2 := Lib.hid (HB.out.trans (hb.mono HB.out.size)); clear HB hb; have HB := HB2; clear HB2)
      | (go_at_call 18; (with_reducible refine (G1.out _).mono ?_); rintro e wz ⟨rfl, hb⟩; have HB2 := Lib.hid (HB.out.trans (hb.mono HB.out.size)); clear HB hb; have HB := HB2; clear HB2)
      | (go_at_call 18; (with_reducible refine (G2.out _).mono ?_); rintro e wz ⟨rfl, hb⟩; have HB2 := Lib.hid (HB.out.trans (hb.mono HB.out.size)); clear HB hb; have HB := HB2; clear HB2)
      | (go_at_call 18; (with_reducible refine (G3.out _).mono ?_); rintro e wz ⟨rfl, hb⟩; have HB2 := Lib.hid (HB.out.trans (hb.mono HB.out.size)); clear HB hb; have HB := HB2; clear HB2)
      | (go_at_call 17; (with_reducible refine (awake9_any _).mono ?_); rintro e wz ⟨rfl, hb⟩; have HB2 := Lib.hid (HB.out.trans (hb.mono HB.out.size)); clear HB hb; have HB := HB2; clear HB2)
      | fail)
              go_ret
              exact ⟨rfl, HB.out⟩
            · skip
              go_wp2_with (first
      | (go_at_call 15; (with_reducible refine (N1.out _).mono ?_); rintro e wz ⟨rfl, hb⟩; have HB2 := Lib.hid (HB.out.trans (hb.mono HB.out.size)); clear HB hb; have HB := HB2; clear HB2)
      | (go_at_call 15; (with_reducible refine (N2.out _).mono ?_); rintro e wz ⟨rfl, hb⟩; have HB2 := Lib.hid (HB.out.trans (hb.mono HB.out.size)); clear HB hb; have HB := HB2; clear HB2)
      | (go_at_call 18; (with_reducible refine (G1.out _).mono ?_); rintro e wz ⟨rfl, hb⟩; have HB2 := Lib.hid (HB.out.trans (hb.mono HB.out.size)); clear HB hb; have HB := HB2; clear HB2)
      | (go_at_call 18; (with_reducible refine (G2.out _).mono ?_); rintro e wz ⟨rfl, hb⟩; have HB2 := Lib.hid (HB.out.trans (hb.mono HB.out.size)); clear HB hb; have HB := HB2; clear HB2)
      | (go_at_call 18; (with_reducible refine (G3.out _).mono ?_); rintro e wz ⟨rfl, hb⟩; have HB2 := Lib.hid (HB.out.trans (hb.mono HB.out.size)); clear HB hb; have HB := HB2; clear HB2)
      | (go_at_call 17; (with_reducible refine (awake9_any _).mono ?_); rintro e wz ⟨rfl, hb⟩; have HB2 := Lib.hid (HB.out.trans (hb.mono HB.out.size)); clear HB hb; have HB := HB2; clear HB2)
      | fail)
              go_ret
              exact ⟨rfl, HB.out⟩
end Go.Proofs.Ytbjongajpppfjaa
