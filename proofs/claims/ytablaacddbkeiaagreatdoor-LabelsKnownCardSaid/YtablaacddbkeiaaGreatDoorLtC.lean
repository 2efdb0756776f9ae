/- meeting. -/
import Derived.Test.YtablaacddbkeiaaGreatDoorLtB
import Derived.Deep.LoopGhost
import Derived.Deep.RegionWith
namespace Go.Proofs.YtablaacddbkeiaaGreatDoor
open Go.RowKit

theorem meth_up (p : Option Addr) (n cap : Nat) (w : World) : (method 254 87 (.slice p n cap) "invigilator/lattice.leads").run Tryz.prog w = .ok (75, .slice p n cap) w := by kernel_rfl
theorem meth_down (p : Option Addr) (n cap : Nat) (w : World) : (method 254 84 (.slice p n cap) "invigilator/lattice.leads").run Tryz.prog w = .ok (85, .slice p n cap) w := by kernel_rfl

set_option maxRecDepth 100000 in
set_option maxHeartbeats 2000000 in
theorem meetU_any (v : Value) (up : List UInt8) (a b : Nat) (w : World) (hv : RdB w.heap.size w v up) (ha : a < up.length) (hb : b < up.length) (hl : up.length ≤ 8) :
    Calls Tryz.prog 76 #[v, .int .i64 a, .int .i64 b] w fun e w' => e = .returned (.tuple #[.int .i64 (J (le up) up.length a b), .bool (mt (le up) up.length a b).isSome]) ∧ w = w' := by
  have HV := Lib.hid hv
  obtain ⟨p, cap, rfl, hc, hc2, h⟩ := hv
  clear h
  have hm := meth_up p up.length cap
  go_enter Tryz.func76, Tryz.ntmps76
  go_wp2
  go_step3
  go_wp2
  go_step3
  go_wp2
  go_loopg [12] up.length (fun g i wr => ∃ k : Nat, k + g = up.length ∧ i = .int .i64 k ∧ w = wr ∧ Hid ((List.range k).find? (gd (le up) up.length a b) = none))
  case atStart => exact ⟨0, by omega, rfl, rfl, rfl⟩
  case round =>
    obtain ⟨k, hkg, rfl, rfl, hq⟩ := hrel
    cases gk with
    | zero =>
      have hkz : ¬ ((k : Int) < (up.length : Int)) := by omega
      have HM : Hid (mt (le up) up.length a b = none) := by
        have := hq.out
        rw [show k = up.length by omega] at this
        exact this
      clear hq
      go_wp2
      try rw [Exit.noGoto_ret]
      go_ret2
      refine ⟨ret_two ?_ ?_, rfl⟩
      · rw [J_no HM.out]; rfl
      · rw [HM.out]; rfl
    | succ g =>
      have hlt : (k : Int) < (up.length : Int) := by omega
      cases h1 : le up a k with
      | false =>
        go_wp2_with (go_at_call 75; refine (up_any _ up _ _ w.heap.size _ HV.out (by omega) (by omega)).mono ?_; rintro e w' ⟨rfl, rfl⟩)
        go_roundg g
        case measure => omega
        case rel => exact ⟨k + 1, by omega, by go_num, rfl, find_succ hq.out (gd_f1 h1)⟩
      | true =>
        cases h2 : le up b k with
        | false =>
          go_wp2_with (go_at_call 75; refine (up_any _ up _ _ w.heap.size _ HV.out (by omega) (by omega)).mono ?_; rintro e w' ⟨rfl, rfl⟩)
          go_roundg g
          case measure => omega
          case rel => exact ⟨k + 1, by omega, by go_num, rfl, find_succ hq.out (gd_f2 h2)⟩
        | true =>
          go_wp2_with (go_at_call 75; refine (up_any _ up _ _ w.heap.size _ HV.out (by omega) (by omega)).mono ?_; rintro e w' ⟨rfl, rfl⟩)
          have H12 := Lib.hid (And.intro h1 h2)
          clear h1 h2
          go_loopg [31] up.length (fun g i wr => ∃ j : Nat, j + g = up.length ∧ i = .int .i64 j ∧ w = wr ∧ Hid ((List.range j).all (okk (le up) a b k) = true))
          case atStart => exact ⟨0, by omega, rfl, rfl, rfl⟩
          case round =>
            obtain ⟨j, hjg, rfl, rfl, hj⟩ := hrel
            cases gk with
            | zero =>
              have hjz : ¬ ((j : Int) < (up.length : Int)) := by omega
              have HM : Hid (mt (le up) up.length a b = some k) := by
                have := hj.out
                rw [show j = up.length by omega] at this
                exact mt_at hq.out (gd_t H12.out.1 H12.out.2 this) (by omega)
              clear hq hj H12
              go_wp2
              try rw [Exit.noGoto_ret]
              go_ret2
              refine ⟨ret_two ?_ ?_, rfl⟩
              · rw [J_at HM.out]; rfl
              · rw [HM.out]; rfl
            | succ g3 =>
              have hjlt : (j : Int) < (up.length : Int) := by omega
              go_wp2_with (go_at_call 75; refine (up_any _ up _ _ w.heap.size _ HV.out (by omega) (by omega)).mono ?_; rintro e w' ⟨rfl, rfl⟩)
              · have h3 : le up k j = false := nt (by assumption)
                go_roundg g
                case measure => omega
                case rel => exact ⟨k + 1, by omega, by go_num, rfl, find_succ hq.out (gd_f3 (o := j) (by omega) (by assumption) (by assumption) h3)⟩
              · have h3 : le up k j = true := nf (by assumption)
                go_roundg g3
                case measure => omega
                case rel => exact ⟨j + 1, by omega, by go_num, rfl, all_succ hj.out (okk_3 h3)⟩
              · have h3 : le up b j = false := eq_false_of_ne_true (by assumption)
                go_roundg g3
                case measure => omega
                case rel => exact ⟨j + 1, by omega, by go_num, rfl, all_succ hj.out (okk_2 h3)⟩
              · have h3 : le up a j = false := eq_false_of_ne_true (by assumption)
                go_roundg g3
                case measure => omega
                case rel => exact ⟨j + 1, by omega, by go_num, rfl, all_succ hj.out (okk_1 h3)⟩

set_option maxRecDepth 100000 in
set_option maxHeartbeats 2000000 in
theorem meetD_any (v : Value) (up : List UInt8) (a b : Nat) (w : World) (hv : RdB w.heap.size w v up) (ha : a < up.length) (hb : b < up.length) (hl : up.length ≤ 8) :
    Calls Tryz.prog 77 #[v, .int .i64 a, .int .i64 b] w fun e w' => e = .returned (.tuple #[.int .i64 (J (ge up) up.length a b), .bool (mt (ge up) up.length a b).isSome]) ∧ w = w' := by
  have HV := Lib.hid hv
  obtain ⟨p, cap, rfl, hc, hc2, h⟩ := hv
  clear h
  have hm := meth_down p up.length cap
  go_enter Tryz.func77, Tryz.ntmps77
  go_wp2
  go_step3
  go_wp2
  go_step3
  go_wp2
  go_loopg [12] up.length (fun g i wr => ∃ k : Nat, k + g = up.length ∧ i = .int .i64 k ∧ w = wr ∧ Hid ((List.range k).find? (gd (ge up) up.length a b) = none))
  case atStart => exact ⟨0, by omega, rfl, rfl, rfl⟩
  case round =>
    obtain ⟨k, hkg, rfl, rfl, hq⟩ := hrel
    cases gk with
    | zero =>
      have hkz : ¬ ((k : Int) < (up.length : Int)) := by omega
      have HM : Hid (mt (ge up) up.length a b = none) := by
        have := hq.out
        rw [show k = up.length by omega] at this
        exact this
      clear hq
      go_wp2
      try rw [Exit.noGoto_ret]
      go_ret2
      refine ⟨ret_two ?_ ?_, rfl⟩
      · rw [J_no HM.out]; rfl
      · rw [HM.out]; rfl
    | succ g =>
      have hlt : (k : Int) < (up.length : Int) := by omega
      cases h1 : ge up a k with
      | false =>
        go_wp2_with (go_at_call 85; refine (down_any _ up _ _ w.heap.size _ HV.out (by omega) (by omega)).mono ?_; rintro e w' ⟨rfl, rfl⟩)
        go_roundg g
        case measure => omega
        case rel => exact ⟨k + 1, by omega, by go_num, rfl, find_succ hq.out (gd_f1 h1)⟩
      | true =>
        cases h2 : ge up b k with
        | false =>
          go_wp2_with (go_at_call 85; refine (down_any _ up _ _ w.heap.size _ HV.out (by omega) (by omega)).mono ?_; rintro e w' ⟨rfl, rfl⟩)
          go_roundg g
          case measure => omega
          case rel => exact ⟨k + 1, by omega, by go_num, rfl, find_succ hq.out (gd_f2 h2)⟩
        | true =>
          go_wp2_with (go_at_call 85; refine (down_any _ up _ _ w.heap.size _ HV.out (by omega) (by omega)).mono ?_; rintro e w' ⟨rfl, rfl⟩)
          have H12 := Lib.hid (And.intro h1 h2)
          clear h1 h2
          go_loopg [31] up.length (fun g i wr => ∃ j : Nat, j + g = up.length ∧ i = .int .i64 j ∧ w = wr ∧ Hid ((List.range j).all (okk (ge up) a b k) = true))
          case atStart => exact ⟨0, by omega, rfl, rfl, rfl⟩
          case round =>
            obtain ⟨j, hjg, rfl, rfl, hj⟩ := hrel
            cases gk with
            | zero =>
              have hjz : ¬ ((j : Int) < (up.length : Int)) := by omega
              have HM : Hid (mt (ge up) up.length a b = some k) := by
                have := hj.out
                rw [show j = up.length by omega] at this
                exact mt_at hq.out (gd_t H12.out.1 H12.out.2 this) (by omega)
              clear hq hj H12
              go_wp2
              try rw [Exit.noGoto_ret]
              go_ret2
              refine ⟨ret_two ?_ ?_, rfl⟩
              · rw [J_at HM.out]; rfl
              · rw [HM.out]; rfl
            | succ g3 =>
              have hjlt : (j : Int) < (up.length : Int) := by omega
              go_wp2_with (go_at_call 85; refine (down_any _ up _ _ w.heap.size _ HV.out (by omega) (by omega)).mono ?_; rintro e w' ⟨rfl, rfl⟩)
              · have h3 : ge up k j = false := nt (by assumption)
                go_roundg g
                case measure => omega
                case rel => exact ⟨k + 1, by omega, by go_num, rfl, find_succ hq.out (gd_f3 (o := j) (by omega) (by assumption) (by assumption) h3)⟩
              · have h3 : ge up k j = true := nf (by assumption)
                go_roundg g3
                case measure => omega
                case rel => exact ⟨j + 1, by omega, by go_num, rfl, all_succ hj.out (okk_3 h3)⟩
              · have h3 : ge up b j = false := eq_false_of_ne_true (by assumption)
                go_roundg g3
                case measure => omega
                case rel => exact ⟨j + 1, by omega, by go_num, rfl, all_succ hj.out (okk_2 h3)⟩
              · have h3 : ge up a j = false := eq_false_of_ne_true (by assumption)
                go_roundg g3
                case measure => omega
                case rel => exact ⟨j + 1, by omega, by go_num, rfl, all_succ hj.out (okk_1 h3)⟩
end Go.Proofs.YtablaacddbkeiaaGreatDoor
