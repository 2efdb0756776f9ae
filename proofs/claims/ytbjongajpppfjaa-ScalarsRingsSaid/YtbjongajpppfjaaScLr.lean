/- The law ScalarsRings. -/
import Derived.Test.YtbjongajpppfjaaScJ
import Derived.Deep.DeepCutAuto
namespace Go.Proofs.Ytbjongajpppfjaa
open Go.RowKit

set_option maxRecDepth 100000 in
set_option maxHeartbeats 8000000 in
theorem lawRings_any (x y z : Int) (w : World) (ix : inr x = true) (iy : inr y = true) (iz : inr z = true) :
    Calls Try.prog 10 #[.int .i64 x, .int .i64 y, .int .i64 z] w fun e w' => e = .returned (.bool true) ∧ Below w.heap.size w w' := by
  have HB := Lib.hid (Below.refl w.heap.size w)
  obtain ⟨xy, a, A1, A1t, A1f, ixy⟩ := b_add x y ix iy
  obtain ⟨yz, b, A2, A2t, A2f, iyz⟩ := b_add y z iy iz
  obtain ⟨lf, c, A3, A3t, A3f, ilf⟩ := b_add xy z ixy iz
  obtain ⟨rt, d, A4, A4t, A4f, irt⟩ := b_add x yz ix iyz
  obtain ⟨mxy, e, M1, M1t, M1f, imxy⟩ := b_mul x y ix iy
  obtain ⟨mxz, f, M2, M2t, M2f, imxz⟩ := b_mul x z ix iz
  obtain ⟨sm, g, A5, A5t, A5f, ism⟩ := b_add mxy mxz imxy imxz
  obtain ⟨al, h, M3, M3t, M3f, ial⟩ := b_mul x yz ix iyz
  obtain ⟨m, i, D1, D1t, D1f, im⟩ := b_mod x y ix iy
  obtain ⟨nn, j, D2, D2t, D2f, inn⟩ := b_mod xy y ixy iy
  obtain ⟨myz, k, M4, M4t, M4f, imyz⟩ := b_mul y z iy iz
  obtain ⟨fi, l, M5, M5t, M5f, ifi⟩ := b_mul mxy z imxy iz
  obtain ⟨se, o, M6, M6t, M6f, ise⟩ := b_mul x myz ix imyz
  have HA1t := Lib.hid A1t
  have HA1f := Lib.hid A1f
  clear A1t A1f
  have HA2t := Lib.hid A2t
  have HA2f := Lib.hid A2f
  clear A2t A2f
  have HA3t := Lib.hid A3t
  have HA3f := Lib.hid A3f
  clear A3t A3f
  have HA4t := Lib.hid A4t
  have HA4f := Lib.hid A4f
  clear A4t A4f
  have HM1t := Lib.hid M1t
  have HM1f := Lib.hid M1f
  clear M1t M1f
  have HM2t := Lib.hid M2t
  have HM2f := Lib.hid M2f
  clear M2t M2f
  have HA5t := Lib.hid A5t
  have HA5f := Lib.hid A5f
  clear A5t A5f
  have HM3t := Lib.hid M3t
  have HM3f := Lib.hid M3f
  clear M3t M3f
  have HD1t := Lib.hid D1t
  have HD1f := Lib.hid D1f
  clear D1t D1f
  have HD2t := Lib.hid D2t
  have HD2f := Lib.hid D2f
  clear D2t D2f
  have HM4t := Lib.hid M4t
  have HM4f := Lib.hid M4f
  clear M4t M4f
  have HM5t := Lib.hid M5t
  have HM5f := Lib.hid M5f
  clear M5t M5f
  have HM6t := Lib.hid M6t
  have HM6f := Lib.hid M6f
  clear M6t M6f
  go_enter Try.func10, Try.ntmps10
  go_upto_region 5 with (first
      | (go_at_call 20; (with_reducible refine (A1.out _).mono ?_); rintro e wz ⟨rfl, hb⟩; have HB2 := Lib.hid (HB.out.trans (hb.mono HB.out.size)); clear HB hb; have HB := HB2; clear HB2)
      | (go_at_call 20; (with_reducible refine (A2.out _).mono ?_); rintro e wz ⟨rfl, hb⟩; have HB2 := Lib.hid (HB.out.trans (hb.mono HB.out.size)); clear HB hb; have HB := HB2; clear HB2)
      | (go_at_call 20; (with_reducible refine (A3.out _).mono ?_); rintro e wz ⟨rfl, hb⟩; have HB2 := Lib.hid (HB.out.trans (hb.mono HB.out.size)); clear HB hb; have HB := HB2; clear HB2)
      | (go_at_call 20; (with_reducible refine (A4.out _).mono ?_); rintro e wz ⟨rfl, hb⟩; have HB2 := Lib.hid (HB.out.trans (hb.mono HB.out.size)); clear HB hb; have HB := HB2; clear HB2)
      | (go_at_call 20; (with_reducible refine (M1.out _).mono ?_); rintro e wz ⟨rfl, hb⟩; have HB2 := Lib.hid (HB.out.trans (hb.mono HB.out.size)); clear HB hb; have HB := HB2; clear HB2)
      | (go_at_call 20; (with_reducible refine (M2.out _).mono ?_); rintro e wz ⟨rfl, hb⟩; have HB2 := Lib.hid (HB.out.trans (hb.mono HB.out.size)); clear HB hb; have HB := HB2; clear HB2)
      | (go_at_call 20; (with_reducible refine (A5.out _).mono ?_); rintro e wz ⟨rfl, hb⟩; have HB2 := Lib.hid (HB.out.trans (hb.mono HB.out.size)); clear HB hb; have HB := HB2; clear HB2)
      | (go_at_call 20; (with_reducible refine (M3.out _).mono ?_); rintro e wz ⟨rfl, hb⟩; have HB2 := Lib.hid (HB.out.trans (hb.mono HB.out.size)); clear HB hb; have HB := HB2; clear HB2)
      | (go_at_call 20; (with_reducible refine (D1.out _).mono ?_); rintro e wz ⟨rfl, hb⟩; have HB2 := Lib.hid (HB.out.trans (hb.mono HB.out.size)); clear HB hb; have HB := HB2; clear HB2)
      | (go_at_call 20; (with_reducible refine (D2.out _).mono ?_); rintro e wz ⟨rfl, hb⟩; have HB2 := Lib.hid (HB.out.trans (hb.mono HB.out.size)); clear HB hb; have HB := HB2; clear HB2)
      | (go_at_call 20; (with_reducible refine (M4.out _).mono ?_); rintro e wz ⟨rfl, hb⟩; have HB2 := Lib.hid (HB.out.trans (hb.mono HB.out.size)); clear HB hb; have HB := HB2; clear HB2)
      | (go_at_call 20; (with_reducible refine (M5.out _).mono ?_); rintro e wz ⟨rfl, hb⟩; have HB2 := Lib.hid (HB.out.trans (hb.mono HB.out.size)); clear HB hb; have HB := HB2; clear HB2)
      | (go_at_call 20; (with_reducible refine (M6.out _).mono ?_); rintro e wz ⟨rfl, hb⟩; have HB2 := Lib.hid (HB.out.trans (hb.mono HB.out.size)); clear HB hb; have HB := HB2; clear HB2)
      | (go_at_call 17; (with_reducible refine (awake9_any _).mono ?_); rintro e wz ⟨rfl, hb⟩; have HB2 := Lib.hid (HB.out.trans (hb.mono HB.out.size)); clear HB hb; have HB := HB2; clear HB2)
      | fail)
  go_cut [73] (fun t wx => t = .bool false ∧ Below w.heap.size w wx)
  case first =>
    as_aux_lemma =>
      cases a with
      | false =>
        go_wp2_with (first
            | (go_at_call 17; (with_reducible refine (awake9_any _).mono ?_); rintro e wz ⟨rfl, hb⟩; have HB2 := Lib.hid (HB.out.trans (hb.mono HB.out.size)); clear HB hb; have HB := HB2; clear HB2)
            | fail)
        go_meet
        case rel => exact ⟨rfl, HB.out⟩
      | true =>
        cases b with
        | false =>
          go_wp2_with (first
            | (go_at_call 17; (with_reducible refine (awake9_any _).mono ?_); rintro e wz ⟨rfl, hb⟩; have HB2 := Lib.hid (HB.out.trans (hb.mono HB.out.size)); clear HB hb; have HB := HB2; clear HB2)
            | fail)
          go_meet
          case rel => exact ⟨rfl, HB.out⟩
        | true =>
          have hE : xy + z = x + yz := by rw [← (HA1t.out rfl).1, ← (HA2t.out rfl).1]; omega
          cases c with
          | false =>
            cases d with
            | false =>
              go_wp2_with (first
            | (go_at_call 17; (with_reducible refine (awake9_any _).mono ?_); rintro e wz ⟨rfl, hb⟩; have HB2 := Lib.hid (HB.out.trans (hb.mono HB.out.size)); clear HB hb; have HB := HB2; clear HB2)
            | fail)
              go_meet
              case rel => exact ⟨rfl, HB.out⟩
            | true =>
              exfalso
              obtain ⟨h1, h2⟩ := HA4t.out rfl
              have h3 := HA3f.out rfl
              rw [hE, h1, h2] at h3
              cases h3
          | true =>
            cases d with
            | false =>
              exfalso
              obtain ⟨h1, h2⟩ := HA3t.out rfl
              have h3 := HA4f.out rfl
              rw [← hE, h1, h2] at h3
              cases h3
            | true =>
              obtain rfl : rt = lf := by rw [← (HA4t.out rfl).1, ← (HA3t.out rfl).1, hE]
              clear hE
              go_wp2_with (first
            | (go_at_call 17; (with_reducible refine (awake9_any _).mono ?_); rintro e wz ⟨rfl, hb⟩; have HB2 := Lib.hid (HB.out.trans (hb.mono HB.out.size)); clear HB hb; have HB := HB2; clear HB2)
            | fail)
              go_meet
              case rel => exact ⟨rfl, HB.out⟩
  case rest =>
    clear HB
    obtain ⟨rfl, hB⟩ := hcut
    have HB := Lib.hid hB
    clear hB
    go_upto_region 11 with (first
      | (go_at_call 20; (with_reducible refine (A1.out _).mono ?_); rintro e wz ⟨rfl, hb⟩; have HB2 := Lib.hid (HB.out.trans (hb.mono HB.out.size)); clear HB hb; have HB := HB2; clear HB2)
      | (go_at_call 20; (with_reducible refine (A2.out _).mono ?_); rintro e wz ⟨rfl, hb⟩; have HB2 := Lib.hid (HB.out.trans (hb.mono HB.out.size)); clear HB hb; have HB := HB2; clear HB2)
      | (go_at_call 20; (with_reducible refine (A3.out _).mono ?_); rintro e wz ⟨rfl, hb⟩; have HB2 := Lib.hid (HB.out.trans (hb.mono HB.out.size)); clear HB hb; have HB := HB2; clear HB2)
      | (go_at_call 20; (with_reducible refine (A4.out _).mono ?_); rintro e wz ⟨rfl, hb⟩; have HB2 := Lib.hid (HB.out.trans (hb.mono HB.out.size)); clear HB hb; have HB := HB2; clear HB2)
      | (go_at_call 20; (with_reducible refine (M1.out _).mono ?_); rintro e wz ⟨rfl, hb⟩; have HB2 := Lib.hid (HB.out.trans (hb.mono HB.out.size)); clear HB hb; have HB := HB2; clear HB2)
      | (go_at_call 20; (with_reducible refine (M2.out _).mono ?_); rintro e wz ⟨rfl, hb⟩; have HB2 := Lib.hid (HB.out.trans (hb.mono HB.out.size)); clear HB hb; have HB := HB2; clear HB2)
      | (go_at_call 20; (with_reducible refine (A5.out _).mono ?_); rintro e wz ⟨rfl, hb⟩; have HB2 := Lib.hid (HB.out.trans (hb.mono HB.out.size)); clear HB hb; have HB := HB2; clear HB2)
      | (go_at_call 20; (with_reducible refine (M3.out _).mono ?_); rintro e wz ⟨rfl, hb⟩; have HB2 := Lib.hid (HB.out.trans (hb.mono HB.out.size)); clear HB hb; have HB := HB2; clear HB2)
      | (go_at_call 20; (with_reducible refine (D1.out _).mono ?_); rintro e wz ⟨rfl, hb⟩; have HB2 := Lib.hid (HB.out.trans (hb.mono HB.out.size)); clear HB hb; have HB := HB2; clear HB2)
      | (go_at_call 20; (with_reducible refine (D2.out _).mono ?_); rintro e wz ⟨rfl, hb⟩; have HB2 := Lib.hid (HB.out.trans (hb.mono HB.out.size)); clear HB hb; have HB := HB2; clear HB2)
      | (go_at_call 20; (with_reducible refine (M4.out _).mono ?_); rintro e wz ⟨rfl, hb⟩; have HB2 := Lib.hid (HB.out.trans (hb.mono HB.out.size)); clear HB hb; have HB := HB2; clear HB2)
      | (go_at_call 20; (with_reducible refine (M5.out _).mono ?_); rintro e wz ⟨rfl, hb⟩; have HB2 := Lib.hid (HB.out.trans (hb.mono HB.out.size)); clear HB hb; have HB := HB2; clear HB2)
      | (go_at_call 20; (with_reducible refine (M6.out _).mono ?_); rintro e wz ⟨rfl, hb⟩; have HB2 := Lib.hid (HB.out.trans (hb.mono HB.out.size)); clear HB hb; have HB := HB2; clear HB2)
      | (go_at_call 17; (with_reducible refine (awake9_any _).mono ?_); rintro e wz ⟨rfl, hb⟩; have HB2 := Lib.hid (HB.out.trans (hb.mono HB.out.size)); clear HB hb; have HB := HB2; clear HB2)
      | fail)
    go_cut [117] (fun t wx => t = .bool false ∧ Below w.heap.size w wx)
    case first =>
      as_aux_lemma =>
        cases b with
        | false =>
          go_wp2_with (first
              | (go_at_call 17; (with_reducible refine (awake9_any _).mono ?_); rintro e wz ⟨rfl, hb⟩; have HB2 := Lib.hid (HB.out.trans (hb.mono HB.out.size)); clear HB hb; have HB := HB2; clear HB2)
              | fail)
          go_meet
          case rel => exact ⟨rfl, HB.out⟩
        | true =>
          cases e with
          | false =>
            go_wp2_with (first
              | (go_at_call 17; (with_reducible refine (awake9_any _).mono ?_); rintro e wz ⟨rfl, hb⟩; have HB2 := Lib.hid (HB.out.trans (hb.mono HB.out.size)); clear HB hb; have HB := HB2; clear HB2)
              | fail)
            go_meet
            case rel => exact ⟨rfl, HB.out⟩
          | true =>
            cases f with
            | false =>
              go_wp2_with (first
              | (go_at_call 17; (with_reducible refine (awake9_any _).mono ?_); rintro e wz ⟨rfl, hb⟩; have HB2 := Lib.hid (HB.out.trans (hb.mono HB.out.size)); clear HB hb; have HB := HB2; clear HB2)
              | fail)
              go_meet
              case rel => exact ⟨rfl, HB.out⟩
            | true =>
              have hE : mxy + mxz = x * yz := by rw [← (HM1t.out rfl).1, ← (HM2t.out rfl).1, ← (HA2t.out rfl).1, Int.mul_add]
              cases g with
              | false =>
                cases h with
                | false =>
                  go_wp2_with (first
              | (go_at_call 17; (with_reducible refine (awake9_any _).mono ?_); rintro e wz ⟨rfl, hb⟩; have HB2 := Lib.hid (HB.out.trans (hb.mono HB.out.size)); clear HB hb; have HB := HB2; clear HB2)
              | fail)
                  go_meet
                  case rel => exact ⟨rfl, HB.out⟩
                | true =>
                  exfalso
                  obtain ⟨h1, h2⟩ := HM3t.out rfl
                  have h3 := HA5f.out rfl
                  rw [hE, h1, h2] at h3
                  cases h3
              | true =>
                cases h with
                | false =>
                  exfalso
                  obtain ⟨h1, h2⟩ := HA5t.out rfl
                  have h3 := HM3f.out rfl
                  rw [← hE, h1, h2] at h3
                  cases h3
                | true =>
                  obtain rfl : al = sm := by rw [← (HM3t.out rfl).1, ← (HA5t.out rfl).1, hE]
                  clear hE
                  go_wp2_with (first
              | (go_at_call 17; (with_reducible refine (awake9_any _).mono ?_); rintro e wz ⟨rfl, hb⟩; have HB2 := Lib.hid (HB.out.trans (hb.mono HB.out.size)); clear HB hb; have HB := HB2; clear HB2)
              | fail)
                  go_meet
                  case rel => exact ⟨rfl, HB.out⟩
    case rest =>
      clear HB
      obtain ⟨rfl, hB⟩ := hcut
      have HB := Lib.hid hB
      clear hB
      go_upto_region 15 with (first
      | (go_at_call 20; (with_reducible refine (A1.out _).mono ?_); rintro e wz ⟨rfl, hb⟩; have HB2 := Lib.hid (HB.out.trans (hb.mono HB.out.size)); clear HB hb; have HB := HB2; clear HB2)
      | (go_at_call 20; (with_reducible refine (A2.out _).mono ?_); rintro e wz ⟨rfl, hb⟩; have HB2 := Lib.hid (HB.out.trans (hb.mono HB.out.size)); clear HB hb; have HB := HB2; clear HB2)
      | (go_at_call 20; (with_reducible refine (A3.out _).mono ?_); rintro e wz ⟨rfl, hb⟩; have HB2 := Lib.hid (HB.out.trans (hb.mono HB.out.size)); clear HB hb; have HB := HB2; clear HB2)
      | (go_at_call 20; (with_reducible refine (A4.out _).mono ?_); rintro e wz ⟨rfl, hb⟩; have HB2 := Lib.hid (HB.out.trans (hb.mono HB.out.size)); clear HB hb; have HB := HB2; clear HB2)
      | (go_at_call 20; (with_reducible refine (M1.out _).mono ?_); rintro e wz ⟨rfl, hb⟩; have HB2 := Lib.hid (HB.out.trans (hb.mono HB.out.size)); clear HB hb; have HB := HB2; clear HB2)
      | (go_at_call 20; (with_reducible refine (M2.out _).mono ?_); rintro e wz ⟨rfl, hb⟩; have HB2 := Lib.hid (HB.out.trans (hb.mono HB.out.size)); clear HB hb; have HB := HB2; clear HB2)
      | (go_at_call 20; (with_reducible refine (A5.out _).mono ?_); rintro e wz ⟨rfl, hb⟩; have HB2 := Lib.hid (HB.out.trans (hb.mono HB.out.size)); clear HB hb; have HB := HB2; clear HB2)
      | (go_at_call 20; (with_reducible refine (M3.out _).mono ?_); rintro e wz ⟨rfl, hb⟩; have HB2 := Lib.hid (HB.out.trans (hb.mono HB.out.size)); clear HB hb; have HB := HB2; clear HB2)
      | (go_at_call 20; (with_reducible refine (D1.out _).mono ?_); rintro e wz ⟨rfl, hb⟩; have HB2 := Lib.hid (HB.out.trans (hb.mono HB.out.size)); clear HB hb; have HB := HB2; clear HB2)
      | (go_at_call 20; (with_reducible refine (D2.out _).mono ?_); rintro e wz ⟨rfl, hb⟩; have HB2 := Lib.hid (HB.out.trans (hb.mono HB.out.size)); clear HB hb; have HB := HB2; clear HB2)
      | (go_at_call 20; (with_reducible refine (M4.out _).mono ?_); rintro e wz ⟨rfl, hb⟩; have HB2 := Lib.hid (HB.out.trans (hb.mono HB.out.size)); clear HB hb; have HB := HB2; clear HB2)
      | (go_at_call 20; (with_reducible refine (M5.out _).mono ?_); rintro e wz ⟨rfl, hb⟩; have HB2 := Lib.hid (HB.out.trans (hb.mono HB.out.size)); clear HB hb; have HB := HB2; clear HB2)
      | (go_at_call 20; (with_reducible refine (M6.out _).mono ?_); rintro e wz ⟨rfl, hb⟩; have HB2 := Lib.hid (HB.out.trans (hb.mono HB.out.size)); clear HB hb; have HB := HB2; clear HB2)
      | (go_at_call 17; (with_reducible refine (awake9_any _).mono ?_); rintro e wz ⟨rfl, hb⟩; have HB2 := Lib.hid (HB.out.trans (hb.mono HB.out.size)); clear HB hb; have HB := HB2; clear HB2)
      | fail)
      go_cut [142] (fun t wx => t = .bool false ∧ Below w.heap.size w wx)
      case first =>
        as_aux_lemma =>
          cases a with
          | false =>
            go_wp2_with (first
                | (go_at_call 17; (with_reducible refine (awake9_any _).mono ?_); rintro e wz ⟨rfl, hb⟩; have HB2 := Lib.hid (HB.out.trans (hb.mono HB.out.size)); clear HB hb; have HB := HB2; clear HB2)
                | fail)
            go_meet
            case rel => exact ⟨rfl, HB.out⟩
          | true =>
            cases i with
            | false =>
              go_wp2_with (first
                | (go_at_call 17; (with_reducible refine (awake9_any _).mono ?_); rintro e wz ⟨rfl, hb⟩; have HB2 := Lib.hid (HB.out.trans (hb.mono HB.out.size)); clear HB hb; have HB := HB2; clear HB2)
                | fail)
              go_meet
              case rel => exact ⟨rfl, HB.out⟩
            | true =>
              obtain ⟨hy, hm⟩ := HD1t.out rfl
              cases j with
              | false => exact absurd (HD2f.out rfl) hy
              | true =>
                obtain rfl : nn = m := by rw [← (HD2t.out rfl).2, ← hm, ← (HA1t.out rfl).1]; exact Int.add_fmod_right x y
                clear hy hm
                go_wp2_with (first
                | (go_at_call 17; (with_reducible refine (awake9_any _).mono ?_); rintro e wz ⟨rfl, hb⟩; have HB2 := Lib.hid (HB.out.trans (hb.mono HB.out.size)); clear HB hb; have HB := HB2; clear HB2)
                | fail)
                go_meet
                case rel => exact ⟨rfl, HB.out⟩
      case rest =>
        clear HB
        obtain ⟨rfl, hB⟩ := hcut
        have HB := Lib.hid hB
        clear hB
        go_upto_region 20 with (first
      | (go_at_call 20; (with_reducible refine (A1.out _).mono ?_); rintro e wz ⟨rfl, hb⟩; have HB2 := Lib.hid (HB.out.trans (hb.mono HB.out.size)); clear HB hb; have HB := HB2; clear HB2)
      | (go_at_call 20; (with_reducible refine (A2.out _).mono ?_); rintro e wz ⟨rfl, hb⟩; have HB2 := Lib.hid (HB.out.trans (hb.mono HB.out.size)); clear HB hb; have HB := HB2; clear HB2)
      | (go_at_call 20; (with_reducible refine (A3.out _).mono ?_); rintro e wz ⟨rfl, hb⟩; have HB2 := Lib.hid (HB.out.trans (hb.mono HB.out.size)); clear HB hb; have HB := HB2; clear HB2)
      | (go_at_call 20; (with_reducible refine (A4.out _).mono ?_); rintro e wz ⟨rfl, hb⟩; have HB2 := Lib.hid (HB.out.trans (hb.mono HB.out.size)); clear HB hb; have HB := HB2; clear HB2)
      | (go_at_call 20; (with_reducible refine (M1.out _).mono ?_); rintro e wz ⟨rfl, hb⟩; have HB2 := Lib.hid (HB.out.trans (hb.mono HB.out.size)); clear HB hb; have HB := HB2; clear HB2)
      | (go_at_call 20; (with_reducible refine (M2.out _).mono ?_); rintro e wz ⟨rfl, hb⟩; have HB2 := Lib.hid (HB.out.trans (hb.mono HB.out.size)); clear HB hb; have HB := HB2; clear HB2)
      | (go_at_call 20; (with_reducible refine (A5.out _).mono ?_); rintro e wz ⟨rfl, hb⟩; have HB2 := Lib.hid (HB.out.trans (hb.mono HB.out.size)); clear HB hb; have HB := HB2; clear HB2)
      | (go_at_call 20; (with_reducible refine (M3.out _).mono ?_); rintro e wz ⟨rfl, hb⟩; have HB2 := Lib.hid (HB.out.trans (hb.mono HB.out.size)); clear HB hb; have HB := HB2; clear HB2)
      | (go_at_call 20; (with_reducible refine (D1.out _).mono ?_); rintro e wz ⟨rfl, hb⟩; have HB2 := Lib.hid (HB.out.trans (hb.mono HB.out.size)); clear HB hb; have HB := HB2; clear HB2)
      | (go_at_call 20; (with_reducible refine (D2.out _).mono ?_); rintro e wz ⟨rfl, hb⟩; have HB2 := Lib.hid (HB.out.trans (hb.mono HB.out.size)); clear HB hb; have HB := HB2; clear HB2)
      | (go_at_call 20; (with_reducible refine (M4.out _).mono ?_); rintro e wz ⟨rfl, hb⟩; have HB2 := Lib.hid (HB.out.trans (hb.mono HB.out.size)); clear HB hb; have HB := HB2; clear HB2)
      | (go_at_call 20; (with_reducible refine (M5.out _).mono ?_); rintro e wz ⟨rfl, hb⟩; have HB2 := Lib.hid (HB.out.trans (hb.mono HB.out.size)); clear HB hb; have HB := HB2; clear HB2)
      | (go_at_call 20; (with_reducible refine (M6.out _).mono ?_); rintro e wz ⟨rfl, hb⟩; have HB2 := Lib.hid (HB.out.trans (hb.mono HB.out.size)); clear HB hb; have HB := HB2; clear HB2)
      | (go_at_call 17; (with_reducible refine (awake9_any _).mono ?_); rintro e wz ⟨rfl, hb⟩; have HB2 := Lib.hid (HB.out.trans (hb.mono HB.out.size)); clear HB hb; have HB := HB2; clear HB2)
      | fail)
        go_cut [177] (fun t wx => t = .bool false ∧ Below w.heap.size w wx)
        case first =>
          as_aux_lemma =>
            cases e with
            | false =>
              go_wp2_with (first
                  | (go_at_call 17; (with_reducible refine (awake9_any _).mono ?_); rintro e wz ⟨rfl, hb⟩; have HB2 := Lib.hid (HB.out.trans (hb.mono HB.out.size)); clear HB hb; have HB := HB2; clear HB2)
                  | fail)
              go_meet
              case rel => exact ⟨rfl, HB.out⟩
            | true =>
              cases k with
              | false =>
                go_wp2_with (first
                  | (go_at_call 17; (with_reducible refine (awake9_any _).mono ?_); rintro e wz ⟨rfl, hb⟩; have HB2 := Lib.hid (HB.out.trans (hb.mono HB.out.size)); clear HB hb; have HB := HB2; clear HB2)
                  | fail)
                go_meet
                case rel => exact ⟨rfl, HB.out⟩
              | true =>
                have hE : mxy * z = x * myz := by rw [← (HM1t.out rfl).1, ← (HM4t.out rfl).1, Int.mul_assoc]
                cases l with
                | false =>
                  cases o with
                  | false =>
                    go_wp2_with (first
                  | (go_at_call 17; (with_reducible refine (awake9_any _).mono ?_); rintro e wz ⟨rfl, hb⟩; have HB2 := Lib.hid (HB.out.trans (hb.mono HB.out.size)); clear HB hb; have HB := HB2; clear HB2)
                  | fail)
                    go_meet
                    case rel => exact ⟨rfl, HB.out⟩
                  | true =>
                    exfalso
                    obtain ⟨h1, h2⟩ := HM6t.out rfl
                    have h3 := HM5f.out rfl
                    rw [hE, h1, h2] at h3
                    cases h3
                | true =>
                  cases o with
                  | false =>
                    exfalso
                    obtain ⟨h1, h2⟩ := HM5t.out rfl
                    have h3 := HM6f.out rfl
                    rw [← hE, h1, h2] at h3
                    cases h3
                  | true =>
                    obtain rfl : se = fi := by rw [← (HM6t.out rfl).1, ← (HM5t.out rfl).1, hE]
                    clear hE
                    go_wp2_with (first
                  | (go_at_call 17; (with_reducible refine (awake9_any _).mono ?_); rintro e wz ⟨rfl, hb⟩; have HB2 := Lib.hid (HB.out.trans (hb.mono HB.out.size)); clear HB hb; have HB := HB2; clear HB2)
                  | fail)
                    go_meet
                    case rel => exact ⟨rfl, HB.out⟩
        case rest =>
          clear HB
          obtain ⟨rfl, hB⟩ := hcut
          have HB := Lib.hid hB
          clear hB
          go_wp2_with (first
      | (go_at_call 17; (with_reducible refine (awake9_any _).mono ?_); rintro e wz ⟨rfl, hb⟩; have HB2 := Lib.hid (HB.out.trans (hb.mono HB.out.size)); clear HB hb; have HB := HB2; clear HB2)
      | fail)
          go_ret
          exact ⟨rfl, HB.out⟩
end Go.Proofs.Ytbjongajpppfjaa
