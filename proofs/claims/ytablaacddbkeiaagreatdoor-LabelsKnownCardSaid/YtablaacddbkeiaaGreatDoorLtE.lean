/- disordered. -/
import Derived.Test.YtablaacddbkeiaaGreatDoorLtB
import Derived.Deep.LoopGhost
namespace Go.Proofs.YtablaacddbkeiaaGreatDoor
open Go.RowKit

theorem u8_div (c : UInt8) (n : Nat) : (((c.toNat : Int) / 2 ^ n) != 0) = !(c.toNat / 2 ^ n == 0) := by
  have e : ((c.toNat : Int) / 2 ^ n) = ((c.toNat / 2 ^ n : Nat) : Int) := by push_cast; rfl
  rw [e, Bool.eq_iff_iff]
  generalize c.toNat / 2 ^ n = d
  simp
theorem bad_1 (up : List UInt8) (k : Nat) (hk : k < up.length) (h : (((up[k].toNat : Int) / 2 ^ up.length) != 0) = true) : bad up k = true := by
  rw [u8_div] at h
  unfold bad; rw [List.getD_eq_getElem?_getD, List.getElem?_eq_getElem hk]; simp only [Option.getD_some]; rw [h]; rfl
theorem bad_2 (up : List UInt8) (k : Nat) (h : le up k k = false) : bad up k = true := by
  unfold bad; rw [h]; simp
theorem bad_3 (up : List UInt8) (k j : Nat) (hj : j < up.length) (h : bad1 up k j = true) : bad up k = true := by
  unfold bad; rw [any_at h hj]; simp
theorem bad_no (up : List UInt8) (k : Nat) (hk : k < up.length) (h : (((up[k].toNat : Int) / 2 ^ up.length) != 0) = false) (h2 : le up k k = true) (h3 : (List.range up.length).any (bad1 up k) = false) : bad up k = false := by
  rw [u8_div] at h
  unfold bad; rw [List.getD_eq_getElem?_getD, List.getElem?_eq_getElem hk]; simp only [Option.getD_some]; rw [h, h2, h3]; rfl
theorem bad1_eq (up : List UInt8) (k j : Nat) (h : ((k : Int) == (j : Int)) = true) : bad1 up k j = false := by
  have : k = j := by have := eq_of_beq h; omega
  subst this
  unfold bad1; simp
theorem bad1_le (up : List UInt8) (k j : Nat) (h : le up k j = false) : bad1 up k j = false := by unfold bad1; rw [h]; simp
theorem bad1_yes (up : List UInt8) (k j : Nat) (h : ((k : Int) == (j : Int)) = false) (h2 : le up k j = true) (h3 : le up j k = true ∨ bad2 up k j = true) : bad1 up k j = true := by
  have h0 : (k == j) = false := by simp at h ⊢; omega
  unfold bad1; rw [h0, h2]; rcases h3 with h3 | h3 <;> rw [h3] <;> simp
theorem bad1_no (up : List UInt8) (k j : Nat) (h3 : le up j k = false) (h4 : bad2 up k j = false) : bad1 up k j = false := by
  unfold bad1; rw [h3, h4]; simp
def bad3 (up : List UInt8) (a b c : Nat) : Bool := le up b c && !le up a c
theorem bad2_def (up : List UInt8) (a b : Nat) : bad2 up a b = (List.range up.length).any (bad3 up a b) := rfl

set_option maxRecDepth 100000 in
set_option maxHeartbeats 4000000 in
theorem disordered_any (v : Value) (up : List UInt8) (w : World) (hv : RdB w.heap.size w v up) (hn : 0 < up.length) (hl : up.length ≤ 8) :
    Calls Tryz.prog 53 #[v] w fun e w' => e = .returned (.tuple #[.int .i64 ((badF up).getD 0 : Nat), .bool (badF up).isSome]) ∧ w = w' := by
  have HV := Lib.hid hv
  obtain ⟨p, cap, rfl, hc, hc2, h⟩ := hv
  obtain ⟨b0, off, rfl, hlt0, hcell⟩ := h (by intro e; rw [e] at hn; simp at hn)
  clear h
  have HC := Lib.hid hcell; clear hcell
  go_enter Tryz.func53, Tryz.ntmps53
  go_wp2
  go_step3
  go_wp2
  go_step3
  go_wp2
  go_loopg [2, 3, 9] up.length (fun g x y i wr => ∃ k : Nat, k + g = up.length ∧ i = .int .i64 k ∧ x = .int .i64 0 ∧ y = .bool false ∧ w = wr ∧ Hid ((List.range k).find? (bad up) = none))
  case atStart => exact ⟨0, by omega, rfl, rfl, rfl, rfl, rfl⟩
  case round =>
    obtain ⟨k, hkg, rfl, rfl, rfl, rfl, hq⟩ := hrel
    cases gk with
    | zero =>
      have hkz : ¬ ((k : Int) < (up.length : Int)) := by omega
      have HM : Hid (badF up = none) := by
        have := hq.out
        rw [show k = up.length by omega] at this
        exact this
      clear hq
      go_wp2
      try rw [Exit.noGoto_ret]
      go_ret2
      exact ⟨ret_two (by rw [HM.out]; rfl) (by rw [HM.out]; rfl), rfl⟩
    | succ g =>
      have hlt : (k : Int) < (up.length : Int) := by omega
      have hk : k < up.length := by omega
      have hx := HC.out k hk
      have hlo := up[k].toNat_lt
      have HF : Hid (bad up k = true → badF up = some k) := fun h => find_at hq.out h hk
      cases e0 : (((up[k].toNat : Int) / 2 ^ up.length) != 0) with
      | true =>
        have HB := Lib.hid (HF.out (bad_1 up k hk e0))
        clear HF hq
        go_wp2_with (go_at_call 75; refine (up_any _ up _ _ w.heap.size _ HV.out (by omega) (by omega)).mono ?_; rintro e w' ⟨rfl, rfl⟩)
        try rw [Exit.noGoto_ret]
        go_ret2
        exact ⟨ret_two (by rw [HB.out]; rfl) (by rw [HB.out]; rfl), rfl⟩
      | false =>
        cases e1 : le up k k with
        | false =>
          have HB := Lib.hid (HF.out (bad_2 up k e1))
          clear HF hq
          go_wp2_with (go_at_call 75; refine (up_any _ up _ _ w.heap.size _ HV.out (by omega) (by omega)).mono ?_; rintro e w' ⟨rfl, rfl⟩)
          try rw [Exit.noGoto_ret]
          go_ret2
          exact ⟨ret_two (by rw [HB.out]; rfl) (by rw [HB.out]; rfl), rfl⟩
        | true =>
          go_wp2_with (go_at_call 75; refine (up_any _ up _ _ w.heap.size _ HV.out (by omega) (by omega)).mono ?_; rintro e w' ⟨rfl, rfl⟩)
          have HN : Hid ((List.range up.length).any (bad1 up k) = false → bad up k = false) := bad_no up k hk e0 e1
          clear e0 e1 hx
          go_loopg [2, 3, 30] up.length (fun g x y i wr => ∃ j : Nat, j + g = up.length ∧ i = .int .i64 j ∧ x = .int .i64 0 ∧ y = .bool false ∧ w = wr ∧ Hid ((List.range j).any (bad1 up k) = false))
          case atStart => exact ⟨0, by omega, rfl, rfl, rfl, rfl, rfl⟩
          case round =>
            obtain ⟨j, hjg, rfl, rfl, rfl, rfl, hj⟩ := hrel
            cases gk with
            | zero =>
              have hjz : ¬ ((j : Int) < (up.length : Int)) := by omega
              have HB : Hid (bad up k = false) := by
                have := hj.out
                rw [show j = up.length by omega] at this
                exact HN.out this
              go_wp2
              go_roundg g
              case measure => omega
              case rel => exact ⟨k + 1, by omega, by go_num, rfl, rfl, rfl, find_succ hq.out HB.out⟩
            | succ g3 =>
              have hjlt : (j : Int) < (up.length : Int) := by omega
              cases e2 : ((k : Int) == (j : Int)) with
              | true =>
                go_wp2_with (go_at_call 75; refine (up_any _ up _ _ w.heap.size _ HV.out (by omega) (by omega)).mono ?_; rintro e w' ⟨rfl, rfl⟩)
                go_roundg g3
                case measure => omega
                case rel => exact ⟨j + 1, by omega, by go_num, rfl, rfl, rfl, any_succ hj.out (bad1_eq up k j e2)⟩
              | false =>
                cases e3 : le up k j with
                | false =>
                  go_wp2_with (go_at_call 75; refine (up_any _ up _ _ w.heap.size _ HV.out (by omega) (by omega)).mono ?_; rintro e w' ⟨rfl, rfl⟩)
                  go_roundg g3
                  case measure => omega
                  case rel => exact ⟨j + 1, by omega, by go_num, rfl, rfl, rfl, any_succ hj.out (bad1_le up k j e3)⟩
                | true =>
                  cases e4 : le up j k with
                  | true =>
                    have HB := Lib.hid (HF.out (bad_3 up k j (by omega) (bad1_yes up k j e2 e3 (.inl e4))))
                    go_wp2_with (go_at_call 75; refine (up_any _ up _ _ w.heap.size _ HV.out (by omega) (by omega)).mono ?_; rintro e w' ⟨rfl, rfl⟩)
                    try rw [Exit.noGoto_ret]
                    go_ret2
                    exact ⟨ret_two (by rw [HB.out]; rfl) (by rw [HB.out]; rfl), rfl⟩
                  | false =>
                    go_wp2_with (go_at_call 75; refine (up_any _ up _ _ w.heap.size _ HV.out (by omega) (by omega)).mono ?_; rintro e w' ⟨rfl, rfl⟩)
                    have HY : Hid (bad2 up k j = true → badF up = some k) := fun h => HF.out (bad_3 up k j (by omega) (bad1_yes up k j e2 e3 (.inr h)))
                    have HNo : Hid (bad2 up k j = false → bad1 up k j = false) := bad1_no up k j e4
                    clear e2 e3 e4
                    go_loopg [2, 3, 50] up.length (fun g x y i wr => ∃ c : Nat, c + g = up.length ∧ i = .int .i64 c ∧ x = .int .i64 0 ∧ y = .bool false ∧ w = wr ∧ Hid ((List.range c).any (bad3 up k j) = false))
                    case atStart => exact ⟨0, by omega, rfl, rfl, rfl, rfl, rfl⟩
                    case round =>
                      obtain ⟨c, hcg, rfl, rfl, rfl, rfl, hcq⟩ := hrel
                      cases gk with
                      | zero =>
                        have hcz : ¬ ((c : Int) < (up.length : Int)) := by omega
                        have HB : Hid (bad1 up k j = false) := by
                          have := hcq.out
                          rw [show c = up.length by omega] at this
                          exact HNo.out this
                        go_wp2
                        go_roundg g3
                        case measure => omega
                        case rel => exact ⟨j + 1, by omega, by go_num, rfl, rfl, rfl, any_succ hj.out HB.out⟩
                      | succ g4 =>
                        have hclt : (c : Int) < (up.length : Int) := by omega
                        cases e5 : le up j c with
                        | false =>
                          go_wp2_with (go_at_call 75; refine (up_any _ up _ _ w.heap.size _ HV.out (by omega) (by omega)).mono ?_; rintro e w' ⟨rfl, rfl⟩)
                          go_roundg g4
                          case measure => omega
                          case rel => exact ⟨c + 1, by omega, by go_num, rfl, rfl, rfl, any_succ hcq.out (by unfold bad3; rw [e5]; rfl)⟩
                        | true =>
                          cases e6 : le up k c with
                          | true =>
                            go_wp2_with (go_at_call 75; refine (up_any _ up _ _ w.heap.size _ HV.out (by omega) (by omega)).mono ?_; rintro e w' ⟨rfl, rfl⟩)
                            go_roundg g4
                            case measure => omega
                            case rel => exact ⟨c + 1, by omega, by go_num, rfl, rfl, rfl, any_succ hcq.out (by unfold bad3; rw [e6]; simp)⟩
                          | false =>
                            have HB := Lib.hid (HY.out (any_at (p := bad3 up k j) (k := c) (by unfold bad3; rw [e5, e6]; rfl) (by omega)))
                            go_wp2_with (go_at_call 75; refine (up_any _ up _ _ w.heap.size _ HV.out (by omega) (by omega)).mono ?_; rintro e w' ⟨rfl, rfl⟩)
                            try rw [Exit.noGoto_ret]
                            go_ret2
                            exact ⟨ret_two (by rw [HB.out]; rfl) (by rw [HB.out]; rfl), rfl⟩
end Go.Proofs.YtablaacddbkeiaaGreatDoor
