/- The law ScalarsOrders. -/
import Derived.Test.YtbjongajpppfjaaScJ
import Derived.Deep.DeepCutAuto
namespace Go.Proofs.Ytbjongajpppfjaa
open Go.RowKit

set_option maxRecDepth 100000 in
set_option maxHeartbeats 8000000 in
theorem lawOrders_any (x y z : Int) (w : World) (ix : inr x = true) (iy : inr y = true) (iz : inr z = true) :
    Calls Try.prog 8 #[.int .i64 x, .int .i64 y, .int .i64 z] w fun e w' => e = .returned (.bool true) ∧ Below w.heap.size w w' := by
  have HB := Lib.hid (Below.refl w.heap.size w)
  obtain ⟨lt, hlt⟩ : ∃ v, v = tr (decide (x < y)) := ⟨_, rfl⟩
  have C0 : CT 25 x y lt true := ct_ok ix iy (by rw [hlt]; rfl)
  obtain ⟨eq, heq⟩ : ∃ v, v = tr (x == y) := ⟨_, rfl⟩
  have C1 : CT 23 x y eq true := ct_ok ix iy (by rw [heq]; rfl)
  obtain ⟨gt, hgt⟩ : ∃ v, v = tr (decide (y < x)) := ⟨_, rfl⟩
  have C2 : CT 27 x y gt true := ct_ok ix iy (by rw [hgt]; rfl)
  obtain ⟨le, hle⟩ : ∃ v, v = tr (decide (x ≤ y)) := ⟨_, rfl⟩
  have C3 : CT 26 x y le true := ct_ok ix iy (by rw [hle]; rfl)
  obtain ⟨ne, hne⟩ : ∃ v, v = tr (x != y) := ⟨_, rfl⟩
  have C4 : CT 24 x y ne true := ct_ok ix iy (by rw [hne]; rfl)
  obtain ⟨ge, hge⟩ : ∃ v, v = tr (decide (y ≤ x)) := ⟨_, rfl⟩
  have C5 : CT 28 x y ge true := ct_ok ix iy (by rw [hge]; rfl)
  obtain ⟨lo, hlo⟩ : ∃ v, v = min x y := ⟨_, rfl⟩
  have C6 : CT 31 x y lo true := ct_ok ix iy (by rw [hlo]; rfl)
  obtain ⟨hi, hhi⟩ : ∃ v, v = max x y := ⟨_, rfl⟩
  have C7 : CT 32 x y hi true := ct_ok ix iy (by rw [hhi]; rfl)
  obtain ⟨yz, hyz⟩ : ∃ v, v = tr (decide (y < z)) := ⟨_, rfl⟩
  have C8 : CT 25 y z yz true := ct_ok iy iz (by rw [hyz]; rfl)
  obtain ⟨xz, hxz⟩ : ∃ v, v = tr (decide (x < z)) := ⟨_, rfl⟩
  have C9 : CT 25 x z xz true := ct_ok ix iz (by rw [hxz]; rfl)
  have HT : Hid ((x < y ∧ lt = 1 ∧ eq = 0 ∧ gt = 0 ∧ le = 1 ∧ ne = 1 ∧ ge = 0 ∧ lo = x ∧ hi = y) ∨ (x = y ∧ lt = 0 ∧ eq = 1 ∧ gt = 0 ∧ le = 1 ∧ ne = 0 ∧ ge = 1 ∧ lo = y ∧ hi = y) ∨ (y < x ∧ lt = 0 ∧ eq = 0 ∧ gt = 1 ∧ le = 0 ∧ ne = 1 ∧ ge = 1 ∧ lo = y ∧ hi = x)) := by
    unfold Hid
    rcases (show x < y ∨ x = y ∨ y < x by omega) with k | k | k
    · refine .inl ⟨k, ?_, ?_, ?_, ?_, ?_, ?_, by omega, by omega⟩
      · rw [hlt, decide_eq_true k]; rfl
      · rw [heq, beq_eq_false_iff_ne.2 (by omega)]; rfl
      · rw [hgt, decide_eq_false (by omega)]; rfl
      · rw [hle, decide_eq_true (by omega)]; rfl
      · rw [hne, bne_iff_ne.2 (by omega)]; rfl
      · rw [hge, decide_eq_false (by omega)]; rfl
    · subst k
      refine .inr (.inl ⟨rfl, ?_, ?_, ?_, ?_, ?_, ?_, by omega, by omega⟩)
      · rw [hlt, decide_eq_false (by omega)]; rfl
      · rw [heq]; simp [tr]
      · rw [hgt, decide_eq_false (by omega)]; rfl
      · rw [hle, decide_eq_true (by omega)]; rfl
      · rw [hne]; simp [tr]
      · rw [hge, decide_eq_true (by omega)]; rfl
    · refine .inr (.inr ⟨k, ?_, ?_, ?_, ?_, ?_, ?_, by omega, by omega⟩)
      · rw [hlt, decide_eq_false (by omega)]; rfl
      · rw [heq, beq_eq_false_iff_ne.2 (by omega)]; rfl
      · rw [hgt, decide_eq_true k]; rfl
      · rw [hle, decide_eq_false (by omega)]; rfl
      · rw [hne, bne_iff_ne.2 (by omega)]; rfl
      · rw [hge, decide_eq_true (by omega)]; rfl
  have HZ : Hid ((yz = 0 ∧ (xz = 0 ∨ xz = 1)) ∨ (yz = 1 ∧ xz = 1) ∨ (yz = 1 ∧ xz = 0 ∧ lt = 0)) := by
    unfold Hid
    have e0 : tr false = 0 := rfl
    have e1 : tr true = 1 := rfl
    by_cases k1 : y < z <;> by_cases k2 : x < z <;> simp only [hyz, hxz, hlt, k1, k2, decide_true, decide_false, e0, e1] <;> simp
    rw [show decide (x < y) = false from decide_eq_false (by omega)]; rfl
  clear hlt heq hgt hle hne hge hlo hhi hyz hxz ix iy iz
  go_enter Try.func8, Try.ntmps8
  go_upto_region 7 with (first
      | (go_at_call 20; (with_reducible refine (C0.out _).mono ?_); rintro e wz ⟨rfl, hb⟩; have HB2 := Lib.hid (HB.out.trans (hb.mono HB.out.size)); clear HB hb; have HB := HB2; clear HB2)
      | (go_at_call 20; (with_reducible refine (C1.out _).mono ?_); rintro e wz ⟨rfl, hb⟩; have HB2 := Lib.hid (HB.out.trans (hb.mono HB.out.size)); clear HB hb; have HB := HB2; clear HB2)
      | (go_at_call 20; (with_reducible refine (C2.out _).mono ?_); rintro e wz ⟨rfl, hb⟩; have HB2 := Lib.hid (HB.out.trans (hb.mono HB.out.size)); clear HB hb; have HB := HB2; clear HB2)
      | (go_at_call 20; (with_reducible refine (C3.out _).mono ?_); rintro e wz ⟨rfl, hb⟩; have HB2 := Lib.hid (HB.out.trans (hb.mono HB.out.size)); clear HB hb; have HB := HB2; clear HB2)
      | (go_at_call 20; (with_reducible refine (C4.out _).mono ?_); rintro e wz ⟨rfl, hb⟩; have HB2 := Lib.hid (HB.out.trans (hb.mono HB.out.size)); clear HB hb; have HB := HB2; clear HB2)
      | (go_at_call 20; (with_reducible refine (C5.out _).mono ?_); rintro e wz ⟨rfl, hb⟩; have HB2 := Lib.hid (HB.out.trans (hb.mono HB.out.size)); clear HB hb; have HB := HB2; clear HB2)
      | (go_at_call 20; (with_reducible refine (C6.out _).mono ?_); rintro e wz ⟨rfl, hb⟩; have HB2 := Lib.hid (HB.out.trans (hb.mono HB.out.size)); clear HB hb; have HB := HB2; clear HB2)
      | (go_at_call 20; (with_reducible refine (C7.out _).mono ?_); rintro e wz ⟨rfl, hb⟩; have HB2 := Lib.hid (HB.out.trans (hb.mono HB.out.size)); clear HB hb; have HB := HB2; clear HB2)
      | (go_at_call 20; (with_reducible refine (C8.out _).mono ?_); rintro e wz ⟨rfl, hb⟩; have HB2 := Lib.hid (HB.out.trans (hb.mono HB.out.size)); clear HB hb; have HB := HB2; clear HB2)
      | (go_at_call 20; (with_reducible refine (C9.out _).mono ?_); rintro e wz ⟨rfl, hb⟩; have HB2 := Lib.hid (HB.out.trans (hb.mono HB.out.size)); clear HB hb; have HB := HB2; clear HB2)
      | (go_at_call 17; (with_reducible refine (awake9_any _).mono ?_); rintro e wz ⟨rfl, hb⟩; have HB2 := Lib.hid (HB.out.trans (hb.mono HB.out.size)); clear HB hb; have HB := HB2; clear HB2)
      | fail)
  go_cut [128] (fun t wx => t = .bool false ∧ Below w.heap.size w wx)
  case first =>
    as_aux_lemma =>
      rcases HT.out with ⟨-, rfl, rfl, rfl, rfl, rfl, rfl, -⟩ | ⟨-, rfl, rfl, rfl, rfl, rfl, rfl, -⟩ | ⟨-, rfl, rfl, rfl, rfl, rfl, rfl, -⟩
      · clear HT HZ
        go_wp2_with (first
            | (go_at_call 17; (with_reducible refine (awake9_any _).mono ?_); rintro e wz ⟨rfl, hb⟩; have HB2 := Lib.hid (HB.out.trans (hb.mono HB.out.size)); clear HB hb; have HB := HB2; clear HB2)
            | fail)
        go_meet
        case rel => exact ⟨rfl, HB.out⟩
      · clear HT HZ
        go_wp2_with (first
            | (go_at_call 17; (with_reducible refine (awake9_any _).mono ?_); rintro e wz ⟨rfl, hb⟩; have HB2 := Lib.hid (HB.out.trans (hb.mono HB.out.size)); clear HB hb; have HB := HB2; clear HB2)
            | fail)
        go_meet
        case rel => exact ⟨rfl, HB.out⟩
      · clear HT HZ
        go_wp2_with (first
            | (go_at_call 17; (with_reducible refine (awake9_any _).mono ?_); rintro e wz ⟨rfl, hb⟩; have HB2 := Lib.hid (HB.out.trans (hb.mono HB.out.size)); clear HB hb; have HB := HB2; clear HB2)
            | fail)
        go_meet
        case rel => exact ⟨rfl, HB.out⟩
  case rest =>
    clear HB
    obtain ⟨rfl, hB⟩ := hcut
    have HB := Lib.hid hB
    clear hB
    go_upto_region 11 with (first
      | (go_at_call 20; (with_reducible refine (C0.out _).mono ?_); rintro e wz ⟨rfl, hb⟩; have HB2 := Lib.hid (HB.out.trans (hb.mono HB.out.size)); clear HB hb; have HB := HB2; clear HB2)
      | (go_at_call 20; (with_reducible refine (C1.out _).mono ?_); rintro e wz ⟨rfl, hb⟩; have HB2 := Lib.hid (HB.out.trans (hb.mono HB.out.size)); clear HB hb; have HB := HB2; clear HB2)
      | (go_at_call 20; (with_reducible refine (C2.out _).mono ?_); rintro e wz ⟨rfl, hb⟩; have HB2 := Lib.hid (HB.out.trans (hb.mono HB.out.size)); clear HB hb; have HB := HB2; clear HB2)
      | (go_at_call 20; (with_reducible refine (C3.out _).mono ?_); rintro e wz ⟨rfl, hb⟩; have HB2 := Lib.hid (HB.out.trans (hb.mono HB.out.size)); clear HB hb; have HB := HB2; clear HB2)
      | (go_at_call 20; (with_reducible refine (C4.out _).mono ?_); rintro e wz ⟨rfl, hb⟩; have HB2 := Lib.hid (HB.out.trans (hb.mono HB.out.size)); clear HB hb; have HB := HB2; clear HB2)
      | (go_at_call 20; (with_reducible refine (C5.out _).mono ?_); rintro e wz ⟨rfl, hb⟩; have HB2 := Lib.hid (HB.out.trans (hb.mono HB.out.size)); clear HB hb; have HB := HB2; clear HB2)
      | (go_at_call 20; (with_reducible refine (C6.out _).mono ?_); rintro e wz ⟨rfl, hb⟩; have HB2 := Lib.hid (HB.out.trans (hb.mono HB.out.size)); clear HB hb; have HB := HB2; clear HB2)
      | (go_at_call 20; (with_reducible refine (C7.out _).mono ?_); rintro e wz ⟨rfl, hb⟩; have HB2 := Lib.hid (HB.out.trans (hb.mono HB.out.size)); clear HB hb; have HB := HB2; clear HB2)
      | (go_at_call 20; (with_reducible refine (C8.out _).mono ?_); rintro e wz ⟨rfl, hb⟩; have HB2 := Lib.hid (HB.out.trans (hb.mono HB.out.size)); clear HB hb; have HB := HB2; clear HB2)
      | (go_at_call 20; (with_reducible refine (C9.out _).mono ?_); rintro e wz ⟨rfl, hb⟩; have HB2 := Lib.hid (HB.out.trans (hb.mono HB.out.size)); clear HB hb; have HB := HB2; clear HB2)
      | (go_at_call 17; (with_reducible refine (awake9_any _).mono ?_); rintro e wz ⟨rfl, hb⟩; have HB2 := Lib.hid (HB.out.trans (hb.mono HB.out.size)); clear HB hb; have HB := HB2; clear HB2)
      | fail)
    go_cut [191] (fun t wx => t = .bool false ∧ Below w.heap.size w wx)
    case first =>
      as_aux_lemma =>
        rcases HT.out with ⟨hc, -, -, -, -, -, -, hl, hh⟩ | ⟨hc, -, -, -, -, -, -, hl, hh⟩ | ⟨hc, -, -, -, -, -, -, hl, hh⟩
        · subst hl hh
          have f1 : (lo == hi) = false := beq_eq_false_iff_ne.2 (by omega)
          have f2 : (hi == lo) = false := beq_eq_false_iff_ne.2 (by omega)
          have f3 : (lo != hi) = true := bne_iff_ne.2 (by omega)
          have f4 : (hi != lo) = true := bne_iff_ne.2 (by omega)
          have f5 : decide (hi < lo) = false := decide_eq_false (by omega)
          clear HT HZ hc
          go_wp2_with (first
              | (go_at_call 17; (with_reducible refine (awake9_any _).mono ?_); rintro e wz ⟨rfl, hb⟩; have HB2 := Lib.hid (HB.out.trans (hb.mono HB.out.size)); clear HB hb; have HB := HB2; clear HB2)
              | fail)
          go_meet
          case rel => exact ⟨rfl, HB.out⟩
        · subst hc hl hh
          clear HT HZ
          go_wp2_with (first
              | (go_at_call 17; (with_reducible refine (awake9_any _).mono ?_); rintro e wz ⟨rfl, hb⟩; have HB2 := Lib.hid (HB.out.trans (hb.mono HB.out.size)); clear HB hb; have HB := HB2; clear HB2)
              | fail)
          go_meet
          case rel => exact ⟨rfl, HB.out⟩
        · subst hl hh
          have f1 : (hi == lo) = false := beq_eq_false_iff_ne.2 (by omega)
          have f2 : (lo == hi) = false := beq_eq_false_iff_ne.2 (by omega)
          have f3 : (hi != lo) = true := bne_iff_ne.2 (by omega)
          have f4 : (lo != hi) = true := bne_iff_ne.2 (by omega)
          have f5 : decide (hi < lo) = false := decide_eq_false (by omega)
          clear HT HZ hc
          go_wp2_with (first
              | (go_at_call 17; (with_reducible refine (awake9_any _).mono ?_); rintro e wz ⟨rfl, hb⟩; have HB2 := Lib.hid (HB.out.trans (hb.mono HB.out.size)); clear HB hb; have HB := HB2; clear HB2)
              | fail)
          go_meet
          case rel => exact ⟨rfl, HB.out⟩
    case rest =>
      clear HB
      obtain ⟨rfl, hB⟩ := hcut
      have HB := Lib.hid hB
      clear hB
      have HL : Hid (lt = 0 ∨ lt = 1) := by rcases HT.out with ⟨-, k, -⟩ | ⟨-, k, -⟩ | ⟨-, k, -⟩ <;> simp [Hid, k]
      clear HT
      rcases HZ.out with ⟨rfl, k⟩ | ⟨rfl, rfl⟩ | ⟨rfl, rfl, rfl⟩
      · rcases HL.out with rfl | rfl <;> rcases k with rfl | rfl
        · clear HL HZ
          go_wp2_with (first
      | (go_at_call 20; (with_reducible refine (C0.out _).mono ?_); rintro e wz ⟨rfl, hb⟩; have HB2 := Lib.hid (HB.out.trans (hb.mono HB.out.size)); clear HB hb; have HB := HB2; clear HB2)
      | (go_at_call 20; (with_reducible refine (C1.out _).mono ?_); rintro e wz ⟨rfl, hb⟩; have HB2 := Lib.hid (HB.out.trans (hb.mono HB.out.size)); clear HB hb; have HB := HB2; clear HB2)
      | (go_at_call 20; (with_reducible refine (C2.out _).mono ?_); rintro e wz ⟨rfl, hb⟩; have HB2 := Lib.hid (HB.out.trans (hb.mono HB.out.size)); clear HB hb; have HB := HB2; clear HB2)
      | (go_at_call 20; (with_reducible refine (C3.out _).mono ?_); rintro e wz ⟨rfl, hb⟩; have HB2 := Lib.hid (HB.out.trans (hb.mono HB.out.size)); clear HB hb; have HB := HB2; clear HB2)
      | (go_at_call 20; (with_reducible refine (C4.out _).mono ?_); rintro e wz ⟨rfl, hb⟩; have HB2 := Lib.hid (HB.out.trans (hb.mono HB.out.size)); clear HB hb; have HB := HB2; clear HB2)
      | (go_at_call 20; (with_reducible refine (C5.out _).mono ?_); rintro e wz ⟨rfl, hb⟩; have HB2 := Lib.hid (HB.out.trans (hb.mono HB.out.size)); clear HB hb; have HB := HB2; clear HB2)
      | (go_at_call 20; (with_reducible refine (C6.out _).mono ?_); rintro e wz ⟨rfl, hb⟩; have HB2 := Lib.hid (HB.out.trans (hb.mono HB.out.size)); clear HB hb; have HB := HB2; clear HB2)
      | (go_at_call 20; (with_reducible refine (C7.out _).mono ?_); rintro e wz ⟨rfl, hb⟩; have HB2 := Lib.hid (HB.out.trans (hb.mono HB.out.size)); clear HB hb; have HB := HB2; clear HB2)
      | (go_at_call 20; (with_reducible refine (C8.out _).mono ?_); rintro e wz ⟨rfl, hb⟩; have HB2 := Lib.hid (HB.out.trans (hb.mono HB.out.size)); clear HB hb; have HB := HB2; clear HB2)
      | (go_at_call 20; (with_reducible refine (C9.out _).mono ?_); rintro e wz ⟨rfl, hb⟩; have HB2 := Lib.hid (HB.out.trans (hb.mono HB.out.size)); clear HB hb; have HB := HB2; clear HB2)
      | (go_at_call 17; (with_reducible refine (awake9_any _).mono ?_); rintro e wz ⟨rfl, hb⟩; have HB2 := Lib.hid (HB.out.trans (hb.mono HB.out.size)); clear HB hb; have HB := HB2; clear HB2)
      | fail)
          go_ret
          exact ⟨rfl, HB.out⟩
        · clear HL HZ
          go_wp2_with (first
      | (go_at_call 20; (with_reducible refine (C0.out _).mono ?_); rintro e wz ⟨rfl, hb⟩; have HB2 := Lib.hid (HB.out.trans (hb.mono HB.out.size)); clear HB hb; have HB := HB2; clear HB2)
      | (go_at_call 20; (with_reducible refine (C1.out _).mono ?_); rintro e wz ⟨rfl, hb⟩; have HB2 := Lib.hid (HB.out.trans (hb.mono HB.out.size)); clear HB hb; have HB := HB2; clear HB2)
      | (go_at_call 20; (with_reducible refine (C2.out _).mono ?_); rintro e wz ⟨rfl, hb⟩; have HB2 := Lib.hid (HB.out.trans (hb.mono HB.out.size)); clear HB hb; have HB := HB2; clear HB2)
      | (go_at_call 20; (with_reducible refine (C3.out _).mono ?_); rintro e wz ⟨rfl, hb⟩; have HB2 := Lib.hid (HB.out.trans (hb.mono HB.out.size)); clear HB hb; have HB := HB2; clear HB2)
      | (go_at_call 20; (with_reducible refine (C4.out _).mono ?_); rintro e wz ⟨rfl, hb⟩; have HB2 := Lib.hid (HB.out.trans (hb.mono HB.out.size)); clear HB hb; have HB := HB2; clear HB2)
      | (go_at_call 20; (with_reducible refine (C5.out _).mono ?_); rintro e wz ⟨rfl, hb⟩; have HB2 := Lib.hid (HB.out.trans (hb.mono HB.out.size)); clear HB hb; have HB := HB2; clear HB2)
      | (go_at_call 20; (with_reducible refine (C6.out _).mono ?_); rintro e wz ⟨rfl, hb⟩; have HB2 := Lib.hid (HB.out.trans (hb.mono HB.out.size)); clear HB hb; have HB := HB2; clear HB2)
      | (go_at_call 20; (with_reducible refine (C7.out _).mono ?_); rintro e wz ⟨rfl, hb⟩; have HB2 := Lib.hid (HB.out.trans (hb.mono HB.out.size)); clear HB hb; have HB := HB2; clear HB2)
      | (go_at_call 20; (with_reducible refine (C8.out _).mono ?_); rintro e wz ⟨rfl, hb⟩; have HB2 := Lib.hid (HB.out.trans (hb.mono HB.out.size)); clear HB hb; have HB := HB2; clear HB2)
      | (go_at_call 20; (with_reducible refine (C9.out _).mono ?_); rintro e wz ⟨rfl, hb⟩; have HB2 := Lib.hid (HB.out.trans (hb.mono HB.out.size)); clear HB hb; have HB := HB2; clear HB2)
      | (go_at_call 17; (with_reducible refine (awake9_any _).mono ?_); rintro e wz ⟨rfl, hb⟩; have HB2 := Lib.hid (HB.out.trans (hb.mono HB.out.size)); clear HB hb; have HB := HB2; clear HB2)
      | fail)
          go_ret
          exact ⟨rfl, HB.out⟩
        · clear HL HZ
          go_wp2_with (first
      | (go_at_call 20; (with_reducible refine (C0.out _).mono ?_); rintro e wz ⟨rfl, hb⟩; have HB2 := Lib.hid (HB.out.trans (hb.mono HB.out.size)); clear HB hb; have HB := HB2; clear HB2)
      | (go_at_call 20; (with_reducible refine (C1.out _).mono ?_); rintro e wz ⟨rfl, hb⟩; have HB2 := Lib.hid (HB.out.trans (hb.mono HB.out.size)); clear HB hb; have HB := HB2; clear HB2)
      | (go_at_call 20; (with_reducible refine (C2.out _).mono ?_); rintro e wz ⟨rfl, hb⟩; have HB2 := Lib.hid (HB.out.trans (hb.mono HB.out.size)); clear HB hb; have HB := HB2; clear HB2)
      | (go_at_call 20; (with_reducible refine (C3.out _).mono ?_); rintro e wz ⟨rfl, hb⟩; have HB2 := Lib.hid (HB.out.trans (hb.mono HB.out.size)); clear HB hb; have HB := HB2; clear HB2)
      | (go_at_call 20; (with_reducible refine (C4.out _).mono ?_); rintro e wz ⟨rfl, hb⟩; have HB2 := Lib.hid (HB.out.trans (hb.mono HB.out.size)); clear HB hb; have HB := HB2; clear HB2)
      | (go_at_call 20; (with_reducible refine (C5.out _).mono ?_); rintro e wz ⟨rfl, hb⟩; have HB2 := Lib.hid (HB.out.trans (hb.mono HB.out.size)); clear HB hb; have HB := HB2; clear HB2)
      | (go_at_call 20; (with_reducible refine (C6.out _).mono ?_); rintro e wz ⟨rfl, hb⟩; have HB2 := Lib.hid (HB.out.trans (hb.mono HB.out.size)); clear HB hb; have HB := HB2; clear HB2)
      | (go_at_call 20; (with_reducible refine (C7.out _).mono ?_); rintro e wz ⟨rfl, hb⟩; have HB2 := Lib.hid (HB.out.trans (hb.mono HB.out.size)); clear HB hb; have HB := HB2; clear HB2)
      | (go_at_call 20; (with_reducible refine (C8.out _).mono ?_); rintro e wz ⟨rfl, hb⟩; have HB2 := Lib.hid (HB.out.trans (hb.mono HB.out.size)); clear HB hb; have HB := HB2; clear HB2)
      | (go_at_call 20; (with_reducible refine (C9.out _).mono ?_); rintro e wz ⟨rfl, hb⟩; have HB2 := Lib.hid (HB.out.trans (hb.mono HB.out.size)); clear HB hb; have HB := HB2; clear HB2)
      | (go_at_call 17; (with_reducible refine (awake9_any _).mono ?_); rintro e wz ⟨rfl, hb⟩; have HB2 := Lib.hid (HB.out.trans (hb.mono HB.out.size)); clear HB hb; have HB := HB2; clear HB2)
      | fail)
          go_ret
          exact ⟨rfl, HB.out⟩
        · clear HL HZ
          go_wp2_with (first
      | (go_at_call 20; (with_reducible refine (C0.out _).mono ?_); rintro e wz ⟨rfl, hb⟩; have HB2 := Lib.hid (HB.out.trans (hb.mono HB.out.size)); clear HB hb; have HB := HB2; clear HB2)
      | (go_at_call 20; (with_reducible refine (C1.out _).mono ?_); rintro e wz ⟨rfl, hb⟩; have HB2 := Lib.hid (HB.out.trans (hb.mono HB.out.size)); clear HB hb; have HB := HB2; clear HB2)
      | (go_at_call 20; (with_reducible refine (C2.out _).mono ?_); rintro e wz ⟨rfl, hb⟩; have HB2 := Lib.hid (HB.out.trans (hb.mono HB.out.size)); clear HB hb; have HB := HB2; clear HB2)
      | (go_at_call 20; (with_reducible refine (C3.out _).mono ?_); rintro e wz ⟨rfl, hb⟩; have HB2 := Lib.hid (HB.out.trans (hb.mono HB.out.size)); clear HB hb; have HB := HB2; clear HB2)
      | (go_at_call 20; (with_reducible refine (C4.out _).mono ?_); rintro e wz ⟨rfl, hb⟩; have HB2 := Lib.hid (HB.out.trans (hb.mono HB.out.size)); clear HB hb; have HB := HB2; clear HB2)
      | (go_at_call 20; (with_reducible refine (C5.out _).mono ?_); rintro e wz ⟨rfl, hb⟩; have HB2 := Lib.hid (HB.out.trans (hb.mono HB.out.size)); clear HB hb; have HB := HB2; clear HB2)
      | (go_at_call 20; (with_reducible refine (C6.out _).mono ?_); rintro e wz ⟨rfl, hb⟩; have HB2 := Lib.hid (HB.out.trans (hb.mono HB.out.size)); clear HB hb; have HB := HB2; clear HB2)
      | (go_at_call 20; (with_reducible refine (C7.out _).mono ?_); rintro e wz ⟨rfl, hb⟩; have HB2 := Lib.hid (HB.out.trans (hb.mono HB.out.size)); clear HB hb; have HB := HB2; clear HB2)
      | (go_at_call 20; (with_reducible refine (C8.out _).mono ?_); rintro e wz ⟨rfl, hb⟩; have HB2 := Lib.hid (HB.out.trans (hb.mono HB.out.size)); clear HB hb; have HB := HB2; clear HB2)
      | (go_at_call 20; (with_reducible refine (C9.out _).mono ?_); rintro e wz ⟨rfl, hb⟩; have HB2 := Lib.hid (HB.out.trans (hb.mono HB.out.size)); clear HB hb; have HB := HB2; clear HB2)
      | (go_at_call 17; (with_reducible refine (awake9_any _).mono ?_); rintro e wz ⟨rfl, hb⟩; have HB2 := Lib.hid (HB.out.trans (hb.mono HB.out.size)); clear HB hb; have HB := HB2; clear HB2)
      | fail)
          go_ret
          exact ⟨rfl, HB.out⟩
      · rcases HL.out with rfl | rfl
        · clear HL HZ
          go_wp2_with (first
      | (go_at_call 20; (with_reducible refine (C0.out _).mono ?_); rintro e wz ⟨rfl, hb⟩; have HB2 := Lib.hid (HB.out.trans (hb.mono HB.out.size)); clear HB hb; have HB := HB2; clear HB2)
      | (go_at_call 20; (with_reducible refine (C1.out _).mono ?_); rintro e wz ⟨rfl, hb⟩; have HB2 := Lib.hid (HB.out.trans (hb.mono HB.out.size)); clear HB hb; have HB := HB2; clear HB2)
      | (go_at_call 20; (with_reducible refine (C2.out _).mono ?_); rintro e wz ⟨rfl, hb⟩; have HB2 := Lib.hid (HB.out.trans (hb.mono HB.out.size)); clear HB hb; have HB := HB2; clear HB2)
      | (go_at_call 20; (with_reducible refine (C3.out _).mono ?_); rintro e wz ⟨rfl, hb⟩; have HB2 := Lib.hid (HB.out.trans (hb.mono HB.out.size)); clear HB hb; have HB := HB2; clear HB2)
      | (go_at_call 20; (with_reducible refine (C4.out _).mono ?_); rintro e wz ⟨rfl, hb⟩; have HB2 := Lib.hid (HB.out.trans (hb.mono HB.out.size)); clear HB hb; have HB := HB2; clear HB2)
      | (go_at_call 20; (with_reducible refine (C5.out _).mono ?_); rintro e wz ⟨rfl, hb⟩; have HB2 := Lib.hid (HB.out.trans (hb.mono HB.out.size)); clear HB hb; have HB := HB2; clear HB2)
      | (go_at_call 20; (with_reducible refine (C6.out _).mono ?_); rintro e wz ⟨rfl, hb⟩; have HB2 := Lib.hid (HB.out.trans (hb.mono HB.out.size)); clear HB hb; have HB := HB2; clear HB2)
      | (go_at_call 20; (with_reducible refine (C7.out _).mono ?_); rintro e wz ⟨rfl, hb⟩; have HB2 := Lib.hid (HB.out.trans (hb.mono HB.out.size)); clear HB hb; have HB := HB2; clear HB2)
      | (go_at_call 20; (with_reducible refine (C8.out _).mono ?_); rintro e wz ⟨rfl, hb⟩; have HB2 := Lib.hid (HB.out.trans (hb.mono HB.out.size)); clear HB hb; have HB := HB2; clear HB2)
      | (go_at_call 20; (with_reducible refine (C9.out _).mono ?_); rintro e wz ⟨rfl, hb⟩; have HB2 := Lib.hid (HB.out.trans (hb.mono HB.out.size)); clear HB hb; have HB := HB2; clear HB2)
      | (go_at_call 17; (with_reducible refine (awake9_any _).mono ?_); rintro e wz ⟨rfl, hb⟩; have HB2 := Lib.hid (HB.out.trans (hb.mono HB.out.size)); clear HB hb; have HB := HB2; clear HB2)
      | fail)
          go_ret
          exact ⟨rfl, HB.out⟩
        · clear HL HZ
          go_wp2_with (first
      | (go_at_call 20; (with_reducible refine (C0.out _).mono ?_); rintro e wz ⟨rfl, hb⟩; have HB2 := Lib.hid (HB.out.trans (hb.mono HB.out.size)); clear HB hb; have HB := HB2; clear HB2)
      | (go_at_call 20; (with_reducible refine (C1.out _).mono ?_); rintro e wz ⟨rfl, hb⟩; have HB2 := Lib.hid (HB.out.trans (hb.mono HB.out.size)); clear HB hb; have HB := HB2; clear HB2)
      | (go_at_call 20; (with_reducible refine (C2.out _).mono ?_); rintro e wz ⟨rfl, hb⟩; have HB2 := Lib.hid (HB.out.trans (hb.mono HB.out.size)); clear HB hb; have HB := HB2; clear HB2)
      | (go_at_call 20; (with_reducible refine (C3.out _).mono ?_); rintro e wz ⟨rfl, hb⟩; have HB2 := Lib.hid (HB.out.trans (hb.mono HB.out.size)); clear HB hb; have HB := HB2; clear HB2)
      | (go_at_call 20; (with_reducible refine (C4.out _).mono ?_); rintro e wz ⟨rfl, hb⟩; have HB2 := Lib.hid (HB.out.trans (hb.mono HB.out.size)); clear HB hb; have HB := HB2; clear HB2)
      | (go_at_call 20; (with_reducible refine (C5.out _).mono ?_); rintro e wz ⟨rfl, hb⟩; have HB2 := Lib.hid (HB.out.trans (hb.mono HB.out.size)); clear HB hb; have HB := HB2; clear HB2)
      | (go_at_call 20; (with_reducible refine (C6.out _).mono ?_); rintro e wz ⟨rfl, hb⟩; have HB2 := Lib.hid (HB.out.trans (hb.mono HB.out.size)); clear HB hb; have HB := HB2; clear HB2)
      | (go_at_call 20; (with_reducible refine (C7.out _).mono ?_); rintro e wz ⟨rfl, hb⟩; have HB2 := Lib.hid (HB.out.trans (hb.mono HB.out.size)); clear HB hb; have HB := HB2; clear HB2)
      | (go_at_call 20; (with_reducible refine (C8.out _).mono ?_); rintro e wz ⟨rfl, hb⟩; have HB2 := Lib.hid (HB.out.trans (hb.mono HB.out.size)); clear HB hb; have HB := HB2; clear HB2)
      | (go_at_call 20; (with_reducible refine (C9.out _).mono ?_); rintro e wz ⟨rfl, hb⟩; have HB2 := Lib.hid (HB.out.trans (hb.mono HB.out.size)); clear HB hb; have HB := HB2; clear HB2)
      | (go_at_call 17; (with_reducible refine (awake9_any _).mono ?_); rintro e wz ⟨rfl, hb⟩; have HB2 := Lib.hid (HB.out.trans (hb.mono HB.out.size)); clear HB hb; have HB := HB2; clear HB2)
      | fail)
          go_ret
          exact ⟨rfl, HB.out⟩
      · clear HL HZ
        go_wp2_with (first
      | (go_at_call 20; (with_reducible refine (C0.out _).mono ?_); rintro e wz ⟨rfl, hb⟩; have HB2 := Lib.hid (HB.out.trans (hb.mono HB.out.size)); clear HB hb; have HB := HB2; clear HB2)
      | (go_at_call 20; (with_reducible refine (C1.out _).mono ?_); rintro e wz ⟨rfl, hb⟩; have HB2 := Lib.hid (HB.out.trans (hb.mono HB.out.size)); clear HB hb; have HB := HB2; clear HB2)
      | (go_at_call 20; (with_reducible refine (C2.out _).mono ?_); rintro e wz ⟨rfl, hb⟩; have HB2 := Lib.hid (HB.out.trans (hb.mono HB.out.size)); clear HB hb; have HB := HB2; clear HB2)
      | (go_at_call 20; (with_reducible refine (C3.out _).mono ?_); rintro e wz ⟨rfl, hb⟩; have HB2 := Lib.hid (HB.out.trans (hb.mono HB.out.size)); clear HB hb; have HB := HB2; clear HB2)
      | (go_at_call 20; (with_reducible refine (C4.out _).mono ?_); rintro e wz ⟨rfl, hb⟩; have HB2 := Lib.hid (HB.out.trans (hb.mono HB.out.size)); clear HB hb; have HB := HB2; clear HB2)
      | (go_at_call 20; (with_reducible refine (C5.out _).mono ?_); rintro e wz ⟨rfl, hb⟩; have HB2 := Lib.hid (HB.out.trans (hb.mono HB.out.size)); clear HB hb; have HB := HB2; clear HB2)
      | (go_at_call 20; (with_reducible refine (C6.out _).mono ?_); rintro e wz ⟨rfl, hb⟩; have HB2 := Lib.hid (HB.out.trans (hb.mono HB.out.size)); clear HB hb; have HB := HB2; clear HB2)
      | (go_at_call 20; (with_reducible refine (C7.out _).mono ?_); rintro e wz ⟨rfl, hb⟩; have HB2 := Lib.hid (HB.out.trans (hb.mono HB.out.size)); clear HB hb; have HB := HB2; clear HB2)
      | (go_at_call 20; (with_reducible refine (C8.out _).mono ?_); rintro e wz ⟨rfl, hb⟩; have HB2 := Lib.hid (HB.out.trans (hb.mono HB.out.size)); clear HB hb; have HB := HB2; clear HB2)
      | (go_at_call 20; (with_reducible refine (C9.out _).mono ?_); rintro e wz ⟨rfl, hb⟩; have HB2 := Lib.hid (HB.out.trans (hb.mono HB.out.size)); clear HB hb; have HB := HB2; clear HB2)
      | (go_at_call 17; (with_reducible refine (awake9_any _).mono ?_); rintro e wz ⟨rfl, hb⟩; have HB2 := Lib.hid (HB.out.trans (hb.mono HB.out.size)); clear HB hb; have HB := HB2; clear HB2)
      | fail)
        go_ret
        exact ⟨rfl, HB.out⟩
end Go.Proofs.Ytbjongajpppfjaa
