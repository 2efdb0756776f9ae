/- The law ScalarsLimits. -/
import Derived.Test.YtbjongajpppfjaaScJ
import Derived.Deep.DeepCutAuto
namespace Go.Proofs.Ytbjongajpppfjaa
open Go.RowKit

set_option maxRecDepth 100000 in
set_option maxHeartbeats 8000000 in
theorem lawLimits_any (x y : Int) (w : World) (ix : inr x = true) (iy : inr y = true) :
    Calls Try.prog 7 #[.int .i64 x, .int .i64 y] w fun e w' => e = .returned (.bool true) ∧ Below w.heap.size w w' := by
  have HB := Lib.hid (Below.refl w.heap.size w)
  go_enter Try.func7, Try.ntmps7
  go_wp2_with (first
      | (go_at_call 17; (with_reducible refine (awake9_any _).mono ?_); rintro e wz ⟨rfl, hb⟩; have HB2 := Lib.hid (HB.out.trans (hb.mono HB.out.size)); clear HB hb; have HB := HB2; clear HB2)
      | fail)
  go_loopg [5] 3 (fun g i wr => ∃ k : Int, 0 ≤ k ∧ k + g = 3 ∧ i = .int .i64 k ∧ Below w.heap.size w wr)
  case atStart => exact ⟨0, by omega, by omega, rfl, HB.out⟩
  case round =>
    clear HB
    obtain ⟨k, hk, hkg, rfl, hB⟩ := hrel
    have HB := Lib.hid hB
    clear hB
    have x0 := inr_lo ix
    have x1 := inr_hi ix
    have y0 := inr_lo iy
    have y1 := inr_hi iy
    cases gk with
    | zero =>
      obtain rfl : k = 3 := by omega
      go_wp2_with (first
      | (go_at_call 17; (with_reducible refine (awake9_any _).mono ?_); rintro e wz ⟨rfl, hb⟩; have HB2 := Lib.hid (HB.out.trans (hb.mono HB.out.size)); clear HB hb; have HB := HB2; clear HB2)
      | fail)
      go_ret
      exact ⟨rfl, HB.out⟩
    | succ g =>
      rcases (show k = 0 ∨ k = 1 ∨ k = 2 by omega) with rfl | rfl | rfl
      · skip
        cases h : inr (x + y) with
        | true =>
          have hl := inr_iff.1 h
          have C1 : CW 15 x y (x + y) 0 := cw_of ix iy (t15 rfl h)
          have C2 : CW 20 x y (x + y) 0 := cw_of ix iy (t20 (by unfold clp; rw [if_neg (by omega), if_neg (by omega)]))
          clear ix iy x0 x1 y0 y1 h hl
          as_aux_lemma =>
            go_wp2_with (first
      | (go_at_call 18; (with_reducible refine (C1.out _).mono ?_); rintro e wz ⟨rfl, hb⟩; have HB2 := Lib.hid (HB.out.trans (hb.mono HB.out.size)); clear HB hb; have HB := HB2; clear HB2)
      | (go_at_call 18; (with_reducible refine (C2.out _).mono ?_); rintro e wz ⟨rfl, hb⟩; have HB2 := Lib.hid (HB.out.trans (hb.mono HB.out.size)); clear HB hb; have HB := HB2; clear HB2)
      | (go_at_call 17; (with_reducible refine (awake9_any _).mono ?_); rintro e wz ⟨rfl, hb⟩; have HB2 := Lib.hid (HB.out.trans (hb.mono HB.out.size)); clear HB hb; have HB := HB2; clear HB2)
      | fail)
            go_roundg g
            case measure => omega
            case rel => exact ⟨1, by omega, by omega, by first | rfl | go_num, HB.out⟩
        | false =>
          have hl := inr_not.1 h
          by_cases sx : x < 0
          · skip
            have C1 : CW 15 x y (0) 12 := cw_of ix iy (t15o h)
            have C2 : CW 20 x y (-9223372036854775808) 0 := cw_of ix iy (t20 (by unfold clp; rw [if_pos (by omega)]))
            have f0 : decide (x < 0) = true := decide_eq_true (by omega)
            clear ix iy x0 x1 y0 y1 h hl sx
            as_aux_lemma =>
              go_wp2_with (first
      | (go_at_call 18; (with_reducible refine (C1.out _).mono ?_); rintro e wz ⟨rfl, hb⟩; have HB2 := Lib.hid (HB.out.trans (hb.mono HB.out.size)); clear HB hb; have HB := HB2; clear HB2)
      | (go_at_call 18; (with_reducible refine (C2.out _).mono ?_); rintro e wz ⟨rfl, hb⟩; have HB2 := Lib.hid (HB.out.trans (hb.mono HB.out.size)); clear HB hb; have HB := HB2; clear HB2)
      | (go_at_call 17; (with_reducible refine (awake9_any _).mono ?_); rintro e wz ⟨rfl, hb⟩; have HB2 := Lib.hid (HB.out.trans (hb.mono HB.out.size)); clear HB hb; have HB := HB2; clear HB2)
      | fail)
              go_roundg g
              case measure => omega
              case rel => exact ⟨1, by omega, by omega, by first | rfl | go_num, HB.out⟩
          · skip
            have C1 : CW 15 x y (0) 12 := cw_of ix iy (t15o h)
            have C2 : CW 20 x y (9223372036854775807) 0 := cw_of ix iy (t20 (by unfold clp; rw [if_neg (by omega), if_pos (by omega)]))
            have f0 : decide (x < 0) = false := decide_eq_false (by omega)
            clear ix iy x0 x1 y0 y1 h hl sx
            as_aux_lemma =>
              go_wp2_with (first
      | (go_at_call 18; (with_reducible refine (C1.out _).mono ?_); rintro e wz ⟨rfl, hb⟩; have HB2 := Lib.hid (HB.out.trans (hb.mono HB.out.size)); clear HB hb; have HB := HB2; clear HB2)
      | (go_at_call 18; (with_reducible refine (C2.out _).mono ?_); rintro e wz ⟨rfl, hb⟩; have HB2 := Lib.hid (HB.out.trans (hb.mono HB.out.size)); clear HB hb; have HB := HB2; clear HB2)
      | (go_at_call 17; (with_reducible refine (awake9_any _).mono ?_); rintro e wz ⟨rfl, hb⟩; have HB2 := Lib.hid (HB.out.trans (hb.mono HB.out.size)); clear HB hb; have HB := HB2; clear HB2)
      | fail)
              go_roundg g
              case measure => omega
              case rel => exact ⟨1, by omega, by omega, by first | rfl | go_num, HB.out⟩
      · skip
        cases h : inr (x - y) with
        | true =>
          have hl := inr_iff.1 h
          have C1 : CW 16 x y (x - y) 0 := cw_of ix iy (t16 rfl h)
          have C2 : CW 21 x y (x - y) 0 := cw_of ix iy (t21 (by unfold clp; rw [if_neg (by omega), if_neg (by omega)]))
          clear ix iy x0 x1 y0 y1 h hl
          as_aux_lemma =>
            go_wp2_with (first
      | (go_at_call 18; (with_reducible refine (C1.out _).mono ?_); rintro e wz ⟨rfl, hb⟩; have HB2 := Lib.hid (HB.out.trans (hb.mono HB.out.size)); clear HB hb; have HB := HB2; clear HB2)
      | (go_at_call 18; (with_reducible refine (C2.out _).mono ?_); rintro e wz ⟨rfl, hb⟩; have HB2 := Lib.hid (HB.out.trans (hb.mono HB.out.size)); clear HB hb; have HB := HB2; clear HB2)
      | (go_at_call 17; (with_reducible refine (awake9_any _).mono ?_); rintro e wz ⟨rfl, hb⟩; have HB2 := Lib.hid (HB.out.trans (hb.mono HB.out.size)); clear HB hb; have HB := HB2; clear HB2)
      | fail)
            go_roundg g
            case measure => omega
            case rel => exact ⟨2, by omega, by omega, by first | rfl | go_num, HB.out⟩
        | false =>
          have hl := inr_not.1 h
          by_cases sx : x < 0
          · skip
            have C1 : CW 16 x y (0) 12 := cw_of ix iy (t16o h)
            have C2 : CW 21 x y (-9223372036854775808) 0 := cw_of ix iy (t21 (by unfold clp; rw [if_pos (by omega)]))
            have f0 : decide (x < 0) = true := decide_eq_true (by omega)
            clear ix iy x0 x1 y0 y1 h hl sx
            as_aux_lemma =>
              go_wp2_with (first
      | (go_at_call 18; (with_reducible refine (C1.out _).mono ?_); rintro e wz ⟨rfl, hb⟩; have HB2 := Lib.hid (HB.out.trans (hb.mono HB.out.size)); clear HB hb; have HB := HB2; clear HB2)
      | (go_at_call 18; (with_reducible refine (C2.out _).mono ?_); rintro e wz ⟨rfl, hb⟩; have HB2 := Lib.hid (HB.out.trans (hb.mono HB.out.size)); clear HB hb; have HB := HB2; clear HB2)
      | (go_at_call 17; (with_reducible refine (awake9_any _).mono ?_); rintro e wz ⟨rfl, hb⟩; have HB2 := Lib.hid (HB.out.trans (hb.mono HB.out.size)); clear HB hb; have HB := HB2; clear HB2)
      | fail)
              go_roundg g
              case measure => omega
              case rel => exact ⟨2, by omega, by omega, by first | rfl | go_num, HB.out⟩
          · skip
            have C1 : CW 16 x y (0) 12 := cw_of ix iy (t16o h)
            have C2 : CW 21 x y (9223372036854775807) 0 := cw_of ix iy (t21 (by unfold clp; rw [if_neg (by omega), if_pos (by omega)]))
            have f0 : decide (x < 0) = false := decide_eq_false (by omega)
            clear ix iy x0 x1 y0 y1 h hl sx
            as_aux_lemma =>
              go_wp2_with (first
      | (go_at_call 18; (with_reducible refine (C1.out _).mono ?_); rintro e wz ⟨rfl, hb⟩; have HB2 := Lib.hid (HB.out.trans (hb.mono HB.out.size)); clear HB hb; have HB := HB2; clear HB2)
      | (go_at_call 18; (with_reducible refine (C2.out _).mono ?_); rintro e wz ⟨rfl, hb⟩; have HB2 := Lib.hid (HB.out.trans (hb.mono HB.out.size)); clear HB hb; have HB := HB2; clear HB2)
      | (go_at_call 17; (with_reducible refine (awake9_any _).mono ?_); rintro e wz ⟨rfl, hb⟩; have HB2 := Lib.hid (HB.out.trans (hb.mono HB.out.size)); clear HB hb; have HB := HB2; clear HB2)
      | fail)
              go_roundg g
              case measure => omega
              case rel => exact ⟨2, by omega, by omega, by first | rfl | go_num, HB.out⟩
      · skip
        have hs : (x < 0 → y < 0 → 0 ≤ x * y) ∧ (0 ≤ x → 0 ≤ y → 0 ≤ x * y) ∧ (x < 0 → 0 ≤ y → x * y ≤ 0) ∧ (0 ≤ x → y < 0 → x * y ≤ 0) := ⟨fun a b => Int.mul_nonneg_of_nonpos_of_nonpos (by omega) (by omega), fun a b => Int.mul_nonneg a b, fun a b => Int.mul_nonpos_of_nonpos_of_nonneg (by omega) b, fun a b => Int.mul_nonpos_of_nonneg_of_nonpos a (by omega)⟩
        cases h : inr (x * y) with
        | true =>
          have hl := inr_iff.1 h
          have C1 : CW 17 x y (x * y) 0 := cw_of ix iy (t17 rfl h)
          have C2 : CW 22 x y (x * y) 0 := cw_of ix iy (t22 (by unfold clp; rw [if_neg (by omega), if_neg (by omega)]))
          clear ix iy x0 x1 y0 y1 h hl
          clear hs
          as_aux_lemma =>
            go_wp2_with (first
      | (go_at_call 18; (with_reducible refine (C1.out _).mono ?_); rintro e wz ⟨rfl, hb⟩; have HB2 := Lib.hid (HB.out.trans (hb.mono HB.out.size)); clear HB hb; have HB := HB2; clear HB2)
      | (go_at_call 18; (with_reducible refine (C2.out _).mono ?_); rintro e wz ⟨rfl, hb⟩; have HB2 := Lib.hid (HB.out.trans (hb.mono HB.out.size)); clear HB hb; have HB := HB2; clear HB2)
      | (go_at_call 17; (with_reducible refine (awake9_any _).mono ?_); rintro e wz ⟨rfl, hb⟩; have HB2 := Lib.hid (HB.out.trans (hb.mono HB.out.size)); clear HB hb; have HB := HB2; clear HB2)
      | fail)
            go_roundg g
            case measure => omega
            case rel => exact ⟨3, by omega, by omega, by first | rfl | go_num, HB.out⟩
        | false =>
          have hl := inr_not.1 h
          by_cases sx : x < 0
          · by_cases sy : y < 0
            · skip
              have C1 : CW 17 x y (0) 12 := cw_of ix iy (t17o h)
              have C2 : CW 22 x y (9223372036854775807) 0 := cw_of ix iy (t22 (by unfold clp; rw [if_neg (by omega), if_pos (by omega)]))
              have f0 : decide (x < 0) = true := decide_eq_true (by omega)
              have f1 : decide (y < 0) = true := decide_eq_true (by omega)
              clear ix iy x0 x1 y0 y1 h hl
              clear hs
              clear sx sy
              as_aux_lemma =>
                go_wp2_with (first
      | (go_at_call 18; (with_reducible refine (C1.out _).mono ?_); rintro e wz ⟨rfl, hb⟩; have HB2 := Lib.hid (HB.out.trans (hb.mono HB.out.size)); clear HB hb; have HB := HB2; clear HB2)
      | (go_at_call 18; (with_reducible refine (C2.out _).mono ?_); rintro e wz ⟨rfl, hb⟩; have HB2 := Lib.hid (HB.out.trans (hb.mono HB.out.size)); clear HB hb; have HB := HB2; clear HB2)
      | (go_at_call 17; (with_reducible refine (awake9_any _).mono ?_); rintro e wz ⟨rfl, hb⟩; have HB2 := Lib.hid (HB.out.trans (hb.mono HB.out.size)); clear HB hb; have HB := HB2; clear HB2)
      | fail)
                go_roundg g
                case measure => omega
                case rel => exact ⟨3, by omega, by omega, by first | rfl | go_num, HB.out⟩
            · skip
              have C1 : CW 17 x y (0) 12 := cw_of ix iy (t17o h)
              have C2 : CW 22 x y (-9223372036854775808) 0 := cw_of ix iy (t22 (by unfold clp; rw [if_pos (by omega)]))
              have f0 : decide (x < 0) = true := decide_eq_true (by omega)
              have f1 : decide (y < 0) = false := decide_eq_false (by omega)
              clear ix iy x0 x1 y0 y1 h hl
              clear hs
              clear sx sy
              as_aux_lemma =>
                go_wp2_with (first
      | (go_at_call 18; (with_reducible refine (C1.out _).mono ?_); rintro e wz ⟨rfl, hb⟩; have HB2 := Lib.hid (HB.out.trans (hb.mono HB.out.size)); clear HB hb; have HB := HB2; clear HB2)
      | (go_at_call 18; (with_reducible refine (C2.out _).mono ?_); rintro e wz ⟨rfl, hb⟩; have HB2 := Lib.hid (HB.out.trans (hb.mono HB.out.size)); clear HB hb; have HB := HB2; clear HB2)
      | (go_at_call 17; (with_reducible refine (awake9_any _).mono ?_); rintro e wz ⟨rfl, hb⟩; have HB2 := Lib.hid (HB.out.trans (hb.mono HB.out.size)); clear HB hb; have HB := HB2; clear HB2)
      | fail)
                go_roundg g
                case measure => omega
                case rel => exact ⟨3, by omega, by omega, by first | rfl | go_num, HB.out⟩
          · by_cases sy : y < 0
            · skip
              have C1 : CW 17 x y (0) 12 := cw_of ix iy (t17o h)
              have C2 : CW 22 x y (-9223372036854775808) 0 := cw_of ix iy (t22 (by unfold clp; rw [if_pos (by omega)]))
              have f0 : decide (x < 0) = false := decide_eq_false (by omega)
              have f1 : decide (y < 0) = true := decide_eq_true (by omega)
              clear ix iy x0 x1 y0 y1 h hl
              clear hs
              clear sx sy
              as_aux_lemma =>
                go_wp2_with (first
      | (go_at_call 18; (with_reducible refine (C1.out _).mono ?_); rintro e wz ⟨rfl, hb⟩; have HB2 := Lib.hid (HB.out.trans (hb.mono HB.out.size)); clear HB hb; have HB := HB2; clear HB2)
      | (go_at_call 18; (with_reducible refine (C2.out _).mono ?_); rintro e wz ⟨rfl, hb⟩; have HB2 := Lib.hid (HB.out.trans (hb.mono HB.out.size)); clear HB hb; have HB := HB2; clear HB2)
      | (go_at_call 17; (with_reducible refine (awake9_any _).mono ?_); rintro e wz ⟨rfl, hb⟩; have HB2 := Lib.hid (HB.out.trans (hb.mono HB.out.size)); clear HB hb; have HB := HB2; clear HB2)
      | fail)
                go_roundg g
                case measure => omega
                case rel => exact ⟨3, by omega, by omega, by first | rfl | go_num, HB.out⟩
            · skip
              have C1 : CW 17 x y (0) 12 := cw_of ix iy (t17o h)
              have C2 : CW 22 x y (9223372036854775807) 0 := cw_of ix iy (t22 (by unfold clp; rw [if_neg (by omega), if_pos (by omega)]))
              have f0 : decide (x < 0) = false := decide_eq_false (by omega)
              have f1 : decide (y < 0) = false := decide_eq_false (by omega)
              clear ix iy x0 x1 y0 y1 h hl
              clear hs
              clear sx sy
              as_aux_lemma =>
                go_wp2_with (first
      | (go_at_call 18; (with_reducible refine (C1.out _).mono ?_); rintro e wz ⟨rfl, hb⟩; have HB2 := Lib.hid (HB.out.trans (hb.mono HB.out.size)); clear HB hb; have HB := HB2; clear HB2)
      | (go_at_call 18; (with_reducible refine (C2.out _).mono ?_); rintro e wz ⟨rfl, hb⟩; have HB2 := Lib.hid (HB.out.trans (hb.mono HB.out.size)); clear HB hb; have HB := HB2; clear HB2)
      | (go_at_call 17; (with_reducible refine (awake9_any _).mono ?_); rintro e wz ⟨rfl, hb⟩; have HB2 := Lib.hid (HB.out.trans (hb.mono HB.out.size)); clear HB hb; have HB := HB2; clear HB2)
      | fail)
                go_roundg g
                case measure => omega
                case rel => exact ⟨3, by omega, by omega, by first | rfl | go_num, HB.out⟩
end Go.Proofs.Ytbjongajpppfjaa
