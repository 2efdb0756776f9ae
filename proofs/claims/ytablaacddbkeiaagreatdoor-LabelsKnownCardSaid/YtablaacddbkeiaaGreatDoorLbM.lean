/- The reference: Check, level, has, sorted. -/
import Derived.Test.YtablaacddbkeiaaGreatDoorLbL
namespace Go.Proofs.YtablaacddbkeiaaGreatDoor
open Go.RowKit

theorem isL_f1 {n : Nat} {z : Int} (h : z < 0) : isL n z = false := by unfold isL; rw [decide_eq_false (by omega), Bool.false_and]
theorem isL_f2 {n : Nat} {z : Int} (h : (n : Int) ≤ z) : isL n z = false := by unfold isL; rw [decide_eq_false (p := z < (n : Int)) (by omega), Bool.and_false]
theorem isL_t {n : Nat} {z : Int} (h : ¬ z < 0) (h2 : ¬ (n : Int) ≤ z) : isL n z = true := by unfold isL; rw [decide_eq_true (by omega), decide_eq_true (by omega)]; rfl

set_option maxRecDepth 100000 in
set_option maxHeartbeats 4000000 in
theorem rcheck4_any (v u : Value) (ns : List ByteArray) (up : List UInt8) (zs : List Int) (w : World) (hv : RdL w.heap.size w v ns up) (hz : RdI w.heap.size w u zs) :
    Calls Tryz.prog 25 #[v, u] w fun e w' => e = .returned (.tuple #[.int .i64 (lck ns up zs).1, .int .i64 (lck ns up zs).2]) ∧ Below w.heap.size w w' := by
  have HL := Lib.hid hv
  obtain ⟨⟨vn, vu, rfl, hS, hB⟩, hsz⟩ := hv
  obtain ⟨q1, cap, rfl, hc, hc2, h⟩ := hS
  obtain ⟨q, cap', rfl, hc', hc2', h'⟩ := hB
  clear h h' hsz
  have HZ := Lib.hid hz
  obtain ⟨a, c, rfl, hl, hl2, h⟩ := hz
  clear h
  have HI := Lib.hid (Bx.new HL.out)
  cases e0 : ((ck ns up).2 != 0) with
  | true =>
    have HK : Hid (lck ns up zs = (-1, (ck ns up).2)) := lck_A e0
    go_enter Tryz.func25, Tryz.ntmps25
    go_wp2_with (go_at_call 31; refine (rcheck_any _ ns up _ HI.out.rd).mono ?_; rintro e w' ⟨rfl, hbn⟩; have HI2 := Lib.hid (HI.out.next hbn); clear HI hbn; have HI := HI2; clear HI2)
    go_ret2
    exact ⟨ret_two (by rw [HK.out]; rfl) (by rw [HK.out]; rfl), HI.out.bel⟩
  | false =>
    by_cases h6 : (64 : Int) < (zs.length : Int)
    · have HK : Hid (lck ns up zs = (-1, 3)) := lck_B e0 (by omega)
      go_enter Tryz.func25, Tryz.ntmps25
      go_wp2_with (go_at_call 31; refine (rcheck_any _ ns up _ HI.out.rd).mono ?_; rintro e w' ⟨rfl, hbn⟩; have HI2 := Lib.hid (HI.out.next hbn); clear HI hbn; have HI := HI2; clear HI2)
      go_ret2
      exact ⟨ret_two (by rw [HK.out]; rfl) (by rw [HK.out]; rfl), HI.out.bel⟩
    · have HK : Hid (lck ns up zs = lbV ns.length zs) := lck_C e0 (by omega)
      go_enter Tryz.func25, Tryz.ntmps25
      go_wp2_with (go_at_call 31; refine (rcheck_any _ ns up _ HI.out.rd).mono ?_; rintro e w' ⟨rfl, hbn⟩; have HI2 := Lib.hid (HI.out.next hbn); clear HI hbn; have HI := HI2; clear HI2)
      clear e0
      go_loopg [8] zs.length (fun g i wr => ∃ k : Nat, k + g = zs.length ∧ i = .int .i64 k ∧ Bx w (.slice q1 ns.length cap) (.slice q up.length cap') ns up wr ∧ Hid ((List.range k).find? (noL ns.length zs) = none))
      case atStart => exact ⟨0, by omega, rfl, HI.out, rfl⟩
      case round =>
        clear HI
        obtain ⟨k, hkg, rfl, hix, hq⟩ := hrel
        have HI := Lib.hid hix
        have hx0 := hix.x0
        have hx1 := hix.x1
        cases gk with
        | zero =>
          have hkz : ¬ ((k : Int) < (zs.length : Int)) := by omega
          have HM : Hid (lbV ns.length zs = (0, 0)) := lbV_no (by
            have := hq.out
            rwa [show k = zs.length by omega] at this)
          clear hq hix
          go_wp2_with fail
          go_ret2
          exact ⟨ret_two (by rw [HK.out, HM.out]; rfl) (by rw [HK.out, HM.out]; rfl), HI.out.bel⟩
        | succ g =>
          have hlt : (k : Int) < (zs.length : Int) := by omega
          have hk : k < zs.length := by omega
          obtain ⟨b0, off, rfl, hlt0, hx⟩ := (HZ.out.below hix.bel).at k hk
          have HN : Hid (noL ns.length zs k = !isL ns.length zs[k]) := noL_get hk
          generalize zs[k] = z at hx HN
          clear hix
          by_cases c1 : z < 0
          · have c1d : decide (z < 0) = true := decide_eq_true c1
            have HM : Hid (lbV ns.length zs = ((k : Int), 7)) := lbV_at (find_at hq.out (by rw [HN.out, isL_f1 c1]; rfl) hk)
            go_wp2_with fail
            go_quiet (fail)
            go_wp2_with fail
            go_ret2
            exact ⟨ret_two (by rw [HK.out, HM.out]; rfl) (by rw [HK.out, HM.out]; rfl), below_drewN HI.out.bel _⟩
          · have c1d : decide (z < 0) = false := decide_eq_false c1
            by_cases c2 : (ns.length : Int) ≤ z
            · have c2d : decide ((ns.length : Int) ≤ z) = true := decide_eq_true c2
              have HM : Hid (lbV ns.length zs = ((k : Int), 7)) := lbV_at (find_at hq.out (by rw [HN.out, isL_f2 c2]; rfl) hk)
              go_wp2_with fail
              go_quiet (fail)
              go_wp2_with fail
              go_ret2
              exact ⟨ret_two (by rw [HK.out, HM.out]; rfl) (by rw [HK.out, HM.out]; rfl), below_drewN HI.out.bel _⟩
            · have c2d : decide ((ns.length : Int) ≤ z) = false := decide_eq_false c2
              have HQ := Lib.hid (find_succ hq.out (by rw [HN.out, isL_t c1 c2]; rfl))
              go_wp2_with fail
              go_quiet (fail)
              go_wp2_with fail
              go_roundg g
              case measure => omega
              case rel => exact ⟨k + 1, by omega, by go_num, HI.out.next (drewN_below _ _), HQ⟩

def hsK (ls : List Nat) (a k : Nat) : Bool := ls.getD k 0 == a
theorem hsK_get {ls : List Nat} {a k : Nat} (h : k < ls.length) : hsK ls a k = (((ls[k] : Nat) : Int) == (a : Int)) := by
  unfold hsK; rw [nat_beq, List.getD_eq_getElem?_getD, List.getElem?_eq_getElem h]; rfl
theorem hs_no {ls : List Nat} {a : Nat} (h : (List.range ls.length).any (hsK ls a) = false) : decide (a ∈ ls) = false := by
  rw [decide_eq_false_iff_not]
  intro hm
  obtain ⟨i, hi, e⟩ := List.getElem_of_mem hm
  have := range_any_false h i hi
  rw [hsK_get hi, e] at this
  simp at this
theorem hs_yes {ls : List Nat} {a k : Nat} (h : k < ls.length) (h2 : hsK ls a k = true) : decide (a ∈ ls) = true := by
  rw [hsK_get h, beq_iff_eq] at h2
  refine decide_eq_true ?_
  rw [show a = ls[k] by omega]
  exact List.getElem_mem h

end Go.Proofs.YtablaacddbkeiaaGreatDoor
