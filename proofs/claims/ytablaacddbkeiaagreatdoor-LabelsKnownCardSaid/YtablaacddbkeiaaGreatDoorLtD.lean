/- end, of both directions; unbounded. -/
import Derived.Test.YtablaacddbkeiaaGreatDoorLtC
import Derived.Deep.LoopGhost
namespace Go.Proofs.YtablaacddbkeiaaGreatDoor
open Go.RowKit

set_option maxRecDepth 100000 in
set_option maxHeartbeats 1000000 in
theorem endU_any (v : Value) (up : List UInt8) (w : World) (hv : RdB w.heap.size w v up) (hn : 0 < up.length) (hl : up.length ≤ 8) (ho : Ord (le up) up.length) :
    Calls Tryz.prog 66 #[v] w fun e w' => e = .returned (.int .i64 (endF (le up) up.length up.length)) ∧ w = w' := by
  have HV := Lib.hid hv
  obtain ⟨p, cap, rfl, hc, hc2, h⟩ := hv
  clear h
  have HO := Lib.hid ho
  clear ho
  go_enter Tryz.func66, Tryz.ntmps66
  go_wp2
  go_loopg [3, 7] up.length (fun g x i wr => ∃ k : Nat, k + g = up.length ∧ i = .int .i64 k ∧ x = .int .i64 (endF (le up) up.length k) ∧ w = wr)
  case atStart => exact ⟨0, by omega, rfl, rfl, rfl⟩
  case round =>
    obtain ⟨k, hkg, rfl, rfl, rfl⟩ := hrel
    cases gk with
    | zero =>
      have hkz : ¬ ((k : Int) < (up.length : Int)) := by omega
      have hk : k = up.length := by omega
      have HK := Lib.hid hk; clear hk
      go_wp2
      go_ret
      exact ⟨ret_int (by rw [HK.out]), rfl⟩
    | succ g =>
      have hlt : (k : Int) < (up.length : Int) := by omega
      have hel := HO.out.end_lt k (by omega) hn
      have HE : Hid (endF (le up) up.length (k + 1) = J (le up) up.length (endF (le up) up.length k) k) := Ord.end_succ k
      go_wp2_with (go_at_call 76; refine (meetU_any _ up _ _ w HV.out (by omega) (by omega) hl).mono ?_; rintro e w' ⟨rfl, rfl⟩)
      go_roundg g
      case measure => omega
      case rel => exact ⟨k + 1, by omega, by go_num, by rw [HE.out], rfl⟩

set_option maxRecDepth 100000 in
set_option maxHeartbeats 1000000 in
theorem endD_any (v : Value) (up : List UInt8) (w : World) (hv : RdB w.heap.size w v up) (hn : 0 < up.length) (hl : up.length ≤ 8) (ho : Ord (ge up) up.length) :
    Calls Tryz.prog 64 #[v] w fun e w' => e = .returned (.int .i64 (endF (ge up) up.length up.length)) ∧ w = w' := by
  have HV := Lib.hid hv
  obtain ⟨p, cap, rfl, hc, hc2, h⟩ := hv
  clear h
  have HO := Lib.hid ho
  clear ho
  go_enter Tryz.func64, Tryz.ntmps64
  go_wp2
  go_loopg [3, 7] up.length (fun g x i wr => ∃ k : Nat, k + g = up.length ∧ i = .int .i64 k ∧ x = .int .i64 (endF (ge up) up.length k) ∧ w = wr)
  case atStart => exact ⟨0, by omega, rfl, rfl, rfl⟩
  case round =>
    obtain ⟨k, hkg, rfl, rfl, rfl⟩ := hrel
    cases gk with
    | zero =>
      have hkz : ¬ ((k : Int) < (up.length : Int)) := by omega
      have hk : k = up.length := by omega
      have HK := Lib.hid hk; clear hk
      go_wp2
      go_ret
      exact ⟨ret_int (by rw [HK.out]), rfl⟩
    | succ g =>
      have hlt : (k : Int) < (up.length : Int) := by omega
      have hel := HO.out.end_lt k (by omega) hn
      have HE : Hid (endF (ge up) up.length (k + 1) = J (ge up) up.length (endF (ge up) up.length k) k) := Ord.end_succ k
      go_wp2_with (go_at_call 77; refine (meetD_any _ up _ _ w HV.out (by omega) (by omega) hl).mono ?_; rintro e w' ⟨rfl, rfl⟩)
      go_roundg g
      case measure => omega
      case rel => exact ⟨k + 1, by omega, by go_num, by rw [HE.out], rfl⟩

theorem unb1_no (up : List UInt8) (k j : Nat) (h : (mt (le up) up.length k j).isSome = true) (h2 : (mt (ge up) up.length k j).isSome = true) : unb1 up k j = false := by
  unfold unb1
  cases e : mt (le up) up.length k j
  · rw [e] at h; cases h
  · cases e2 : mt (ge up) up.length k j
    · rw [e2] at h2; cases h2
    · rfl
theorem unb1_yes (up : List UInt8) (k j : Nat) (h : (mt (le up) up.length k j).isSome = false ∨ (mt (ge up) up.length k j).isSome = false) : unb1 up k j = true := by
  unfold unb1
  cases e : mt (le up) up.length k j
  · rfl
  · cases e2 : mt (ge up) up.length k j
    · simp
    · rw [e, e2] at h; simp at h
theorem unb_yes (up : List UInt8) (k j : Nat) (hj : j < up.length) (h : unb1 up k j = true) : unb up k = true := any_at h hj

set_option maxRecDepth 100000 in
set_option maxHeartbeats 4000000 in
theorem unbounded_any (v : Value) (up : List UInt8) (w : World) (hv : RdB w.heap.size w v up) (hl : up.length ≤ 8) :
    Calls Tryz.prog 54 #[v] w fun e w' => e = .returned (.tuple #[.int .i64 ((unbF up).getD 0 : Nat), .bool (unbF up).isSome]) ∧ w = w' := by
  have HV := Lib.hid hv
  obtain ⟨p, cap, rfl, hc, hc2, h⟩ := hv
  clear h
  go_enter Tryz.func54, Tryz.ntmps54
  go_wp2
  go_step3
  go_wp2
  go_step3
  go_wp2
  go_loopg [2, 3, 12] up.length (fun g x y i wr => ∃ k : Nat, k + g = up.length ∧ i = .int .i64 k ∧ x = .int .i64 0 ∧ y = .bool false ∧ w = wr ∧ Hid ((List.range k).find? (unb up) = none))
  case atStart => exact ⟨0, by omega, rfl, rfl, rfl, rfl, rfl⟩
  case round =>
    obtain ⟨k, hkg, rfl, rfl, rfl, rfl, hq⟩ := hrel
    cases gk with
    | zero =>
      have hkz : ¬ ((k : Int) < (up.length : Int)) := by omega
      have HM : Hid (unbF up = none) := by
        have := hq.out
        rw [show k = up.length by omega] at this
        exact this
      clear hq
      go_wp2
      try rw [Exit.noGoto_ret]
      go_ret2
      exact ⟨ret_two (by rw [HM.out]; rfl) (by rw [HM.out]; rfl), rfl⟩
    | succ g =>
      have hlt : (k : Int) < (up.length : Int) := by omega
      have hk : k < up.length := by omega
      have HF : Hid (unb up k = true → unbF up = some k) := fun h => find_at hq.out h hk
      go_wp2
      go_loopg [2, 3, 17] up.length (fun g x y i wr => ∃ j : Nat, j + g = up.length ∧ i = .int .i64 j ∧ x = .int .i64 0 ∧ y = .bool false ∧ w = wr ∧ Hid ((List.range j).any (unb1 up k) = false))
      case atStart => exact ⟨0, by omega, rfl, rfl, rfl, rfl, rfl⟩
      case round =>
        obtain ⟨j, hjg, rfl, rfl, rfl, rfl, hj⟩ := hrel
        cases gk with
        | zero =>
          have hjz : ¬ ((j : Int) < (up.length : Int)) := by omega
          have HB : Hid (unb up k = false) := by
            have := hj.out
            rw [show j = up.length by omega] at this
            exact this
          go_wp2
          go_roundg g
          case measure => omega
          case rel => exact ⟨k + 1, by omega, by go_num, rfl, rfl, rfl, find_succ hq.out HB.out⟩
        | succ g3 =>
          have hjlt : (j : Int) < (up.length : Int) := by omega
          cases e1 : (mt (le up) up.length k j).isSome with
          | false =>
            have HB := Lib.hid (HF.out (unb_yes up k j (by omega) (unb1_yes up k j (.inl e1))))
            go_wp2_with (first | (go_at_call 76; refine (meetU_any _ up _ _ w HV.out (by omega) (by omega) hl).mono ?_; rintro e w' ⟨rfl, rfl⟩) | (go_at_call 77; refine (meetD_any _ up _ _ w HV.out (by omega) (by omega) hl).mono ?_; rintro e w' ⟨rfl, rfl⟩))
            try rw [Exit.noGoto_ret]
            go_ret2
            exact ⟨ret_two (by rw [HB.out]; rfl) (by rw [HB.out]; rfl), rfl⟩
          | true =>
            cases e2 : (mt (ge up) up.length k j).isSome with
            | false =>
              have HB := Lib.hid (HF.out (unb_yes up k j (by omega) (unb1_yes up k j (.inr e2))))
              go_wp2_with (first | (go_at_call 76; refine (meetU_any _ up _ _ w HV.out (by omega) (by omega) hl).mono ?_; rintro e w' ⟨rfl, rfl⟩) | (go_at_call 77; refine (meetD_any _ up _ _ w HV.out (by omega) (by omega) hl).mono ?_; rintro e w' ⟨rfl, rfl⟩))
              try rw [Exit.noGoto_ret]
              go_ret2
              exact ⟨ret_two (by rw [HB.out]; rfl) (by rw [HB.out]; rfl), rfl⟩
            | true =>
              go_wp2_with (first | (go_at_call 76; refine (meetU_any _ up _ _ w HV.out (by omega) (by omega) hl).mono ?_; rintro e w' ⟨rfl, rfl⟩) | (go_at_call 77; refine (meetD_any _ up _ _ w HV.out (by omega) (by omega) hl).mono ?_; rintro e w' ⟨rfl, rfl⟩))
              go_roundg g3
              case measure => omega
              case rel => exact ⟨j + 1, by omega, by go_num, rfl, rfl, rfl, any_succ hj.out (unb1_no up k j e1 e2)⟩
end Go.Proofs.YtablaacddbkeiaaGreatDoor
