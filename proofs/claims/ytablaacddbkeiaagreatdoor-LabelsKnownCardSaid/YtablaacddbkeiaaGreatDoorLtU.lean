/- The reference's Check. -/
import Derived.Test.YtablaacddbkeiaaGreatDoorLtT
namespace Go.Proofs.YtablaacddbkeiaaGreatDoor
open Go.RowKit

theorem Bx.up {w W : World} {vn vu : Value} {ns : List ByteArray} {up : List UInt8} (h : Bx w vn vu ns up W) : RdB W.heap.size W vu up := by
  obtain ⟨⟨v1, v2, hv, h1, h2⟩, _⟩ := h.rd
  injection hv with hv
  obtain ⟨rfl, rfl⟩ : v1 = vn ∧ v2 = vu := by simpa [eq_comm] using hv
  exact h2
theorem Bx.nm {w W : World} {vn vu : Value} {ns : List ByteArray} {up : List UInt8} (h : Bx w vn vu ns up W) : RdS W.heap.size W vn ns := by
  obtain ⟨⟨v1, v2, hv, h1, h2⟩, _⟩ := h.rd
  injection hv with hv
  obtain ⟨rfl, rfl⟩ : v1 = vn ∧ v2 = vu := by simpa [eq_comm] using hv
  exact h1
theorem rn_t {ns : List ByteArray} {up : List UInt8} (h : ((rnV ns).2 != 0) = true) : ck ns up = rnV ns := by
  by_cases hA : ns.length < 1 ∨ 8 < ns.length
  · rw [rnV_A hA, ck_A hA]
  · rw [rnV_B hA] at h ⊢
    exact ck_C (by omega) (by omega) h
theorem rn_f {ns : List ByteArray} (h : ((rnV ns).2 != 0) = false) : 1 ≤ ns.length ∧ ns.length ≤ 8 ∧ ((nmV ns).2 != 0) = false := by
  by_cases hA : ns.length < 1 ∨ 8 < ns.length
  · rw [rnV_A hA] at h; cases h
  · rw [rnV_B hA] at h
    exact ⟨by omega, by omega, h⟩

set_option maxRecDepth 100000 in
set_option maxHeartbeats 4000000 in
theorem rcheck_any (v : Value) (ns : List ByteArray) (up : List UInt8) (w : World) (hv : RdL w.heap.size w v ns up) :
    Calls Tryz.prog 31 #[v] w fun e w' => e = .returned (.tuple #[.int .i64 (ck ns up).1, .int .i64 (ck ns up).2]) ∧ Below w.heap.size w w' := by
  have HL := Lib.hid hv
  obtain ⟨⟨vn, vu, rfl, hS, hB⟩, hsz⟩ := hv
  obtain ⟨p, cap, rfl, hc, hc2, h⟩ := hS
  obtain ⟨q, cap', rfl, hc', hc2', h'⟩ := hB
  have HZ := Lib.hid hsz
  clear h h' hsz
  have HI := Lib.hid (Bx.new HL.out)
  cases e0 : ((rnV ns).2 != 0) with
  | true =>
    have HK : Hid (ck ns up = rnV ns) := rn_t e0
    go_enter Tryz.func31, Tryz.ntmps31
    go_wp2_with (go_at_call 60; refine (rnames_any _ ns _ HI.out.nm HZ.out).mono ?_; rintro e w' ⟨rfl, hbn⟩; have HI2 := Lib.hid (HI.out.next hbn); clear HI; have HI := HI2; clear HI2; have hx0 := HI.out.x0; have hx1 := HI.out.x1; clear hbn)
    go_ret2
    exact ⟨ret_two (by rw [HK.out]; rfl) (by rw [HK.out]; rfl), HI.out.bel⟩
  | false =>
    obtain ⟨h1, h8, e1⟩ := rn_f e0
    have HN1 := Lib.hid e1; clear e1
    by_cases hu : up.length = ns.length
    · have hu1 : ((up.length : Int) != (ns.length : Int)) = false := by rw [hu]; simp
      have HLE := Lib.hid hu
      have hle1 : ns.length ≤ up.length := by omega
      have hle2 : up.length ≤ ns.length := by omega
      clear hu
      go_enter Tryz.func31, Tryz.ntmps31
      go_wp2_with (go_at_call 60; refine (rnames_any _ ns _ HI.out.nm HZ.out).mono ?_; rintro e w' ⟨rfl, hbn⟩; have HI2 := Lib.hid (HI.out.next hbn); clear HI; have HI := HI2; clear HI2; have hx0 := HI.out.x0; have hx1 := HI.out.x1; clear hbn)
      clear hx0 hx1 e0
      go_loopg [7] ns.length (fun g i wr => ∃ k : Nat, k + g = ns.length ∧ i = .int .i64 k ∧ Bx w (.slice p ns.length cap) (.slice q up.length cap') ns up wr ∧ Hid ((List.range k).find? (bad up) = none))
      case atStart => exact ⟨0, by omega, rfl, HI.out, rfl⟩
      case round =>
        clear HI
        obtain ⟨k, hkg, rfl, hix, hq⟩ := hrel
        have HI := Lib.hid hix
        have hx0 := hix.x0
        have hx1 := hix.x1
        clear hix
        cases gk with
        | succ g =>
          have hklt : (k : Int) < (ns.length : Int) := by omega
          cases c0 : bad up k with
          | true =>
            have HF : Hid (badF up = some k) := find_at hq.out c0 (by omega)
            have HK : Hid (ck ns up = ((k : Int), 6)) := by
              unfold Hid
              rw [ck_F h1 h8 HN1.out HLE.out (by rw [HF.out]; rfl), HF.out]; rfl
            go_wp2_with (go_at_call 61; refine (ordered_any _ ns up _ _ HI.out.rd (by omega) HLE.out h8).mono ?_; rintro e w' ⟨rfl, hbn⟩; clear hx0 hx1; have HI2 := Lib.hid (HI.out.next hbn); clear HI; have HI := HI2; clear HI2; have hx0 := HI.out.x0; have hx1 := HI.out.x1; clear hbn)
            go_ret2
            exact ⟨ret_two (by rw [HK.out]; rfl) (by rw [HK.out]; rfl), HI.out.bel⟩
          | false =>
            have HQ := Lib.hid (find_succ hq.out c0)
            go_wp2_with (go_at_call 61; refine (ordered_any _ ns up _ _ HI.out.rd (by omega) HLE.out h8).mono ?_; rintro e w' ⟨rfl, hbn⟩; clear hx0 hx1; have HI2 := Lib.hid (HI.out.next hbn); clear HI; have HI := HI2; clear HI2; have hx0 := HI.out.x0; have hx1 := HI.out.x1; clear hbn)
            go_roundg g
            case measure => omega
            case rel => exact ⟨k + 1, by omega, by go_num, HI.out, HQ⟩
        | zero =>
          have hkz : ¬ ((k : Int) < (ns.length : Int)) := by omega
          have HNo : Hid (badF up = none) := by
            have := hq.out
            rw [show k = up.length by omega] at this
            exact this
          clear hq
          have HPre := Lib.hid (pre_of HNo.out).1
          go_wp2_with fail
          refine (downs_any _ ns up _ HI.out.rd HLE.out h8).mono ?_
          rintro e w2 ⟨u, rfl, hdn, hbn⟩
          clear hx0 hx1
          have HD := Lib.hid hdn
          obtain ⟨ua, uc, rfl, k1, k2, k3⟩ := hdn
          clear k3
          have HI2 := Lib.hid (HI.out.next hbn)
          clear HI
          have HI := HI2
          clear HI2
          have hx0 := HI.out.x0
          have hx1 := HI.out.x1
          clear hbn
          go_wp2_with fail
          clear hx0 hx1
          go_loopg [9] ns.length (fun g i wr => ∃ a : Nat, a + g = ns.length ∧ i = .int .i64 a ∧ Bx w (.slice p ns.length cap) (.slice q up.length cap') ns up wr ∧ RdB wr.heap.size wr (.slice ua (dnU up).length uc) (dnU up) ∧ Hid ((List.range a).find? (unb up) = none))
          case atStart => exact ⟨0, by omega, rfl, HI.out, HD.out, rfl⟩
          case round =>
            clear HI HD
            obtain ⟨a, hag, rfl, hix, hd, hq⟩ := hrel
            have HI := Lib.hid hix
            have HD := Lib.hid hd
            have hx0 := hix.x0
            have hx1 := hix.x1
            clear hix hd
            cases gk with
            | zero =>
              have haz : ¬ ((a : Int) < (ns.length : Int)) := by omega
              have HK : Hid (ck ns up = (0, 0)) := ck_Z h1 h8 HN1.out HLE.out (by rw [HNo.out]; rfl) (by
                have := hq.out
                rw [show a = up.length by omega] at this
                rw [show unbF up = none from this]; rfl)
              go_wp2_with fail
              go_ret2
              exact ⟨ret_two (by rw [HK.out]; rfl) (by rw [HK.out]; rfl), HI.out.bel⟩
            | succ g =>
              have halt : (a : Int) < (ns.length : Int) := by omega
              go_wp2_with fail
              clear hx0 hx1
              go_loopg [10] ns.length (fun g i wr => ∃ b : Nat, b + g = ns.length ∧ i = .int .i64 b ∧ Bx w (.slice p ns.length cap) (.slice q up.length cap') ns up wr ∧ RdB wr.heap.size wr (.slice ua (dnU up).length uc) (dnU up) ∧ Hid ((List.range b).any (unb1 up a) = false))
              case atStart => exact ⟨0, by omega, rfl, HI.out, HD.out, rfl⟩
              case round =>
                clear HI HD
                obtain ⟨b, hbg, rfl, hix, hd, hj⟩ := hrel
                have HI := Lib.hid hix
                have HD := Lib.hid hd
                have hx0 := hix.x0
                have hx1 := hix.x1
                clear hix hd
                cases gk with
                | zero =>
                  have hbz : ¬ ((b : Int) < (ns.length : Int)) := by omega
                  have HQ := Lib.hid (find_succ (p := unb up) hq.out (by have := hj.out; rwa [show b = up.length by omega] at this))
                  go_wp2_with fail
                  go_roundg g
                  case measure => omega
                  case rel => exact ⟨a + 1, by omega, by go_num, HI.out, HD.out, HQ⟩
                | succ g3 =>
                  have hblt : (b : Int) < (ns.length : Int) := by omega
                  have E1 : Hid (decide (nrV up a b < 0) = !(mt (le up) up.length a b).isSome) := nrV_neg (nr_mt HPre.out (by omega) (by omega))
                  have E2 : Hid (decide (nrV (dnU up) a b < 0) = !(mt (ge up) up.length a b).isSome) := nrV_neg (nr_dn HPre.out (by omega) (by omega) (by omega))
                  have HYes : Hid (unb1 up a b = true → ck ns up = ((a : Int), 4)) := fun h => by
                    have hf : unbF up = some a := find_at hq.out (unb_yes up a b (by omega) h) (by omega)
                    rw [ck_G h1 h8 HN1.out HLE.out (by rw [HNo.out]; rfl) (by rw [hf]; rfl), hf]; rfl
                  cases c1 : (mt (le up) up.length a b).isSome with
                  | false =>
                    have HK := Lib.hid (HYes.out (unb1_yes up a b (.inl c1)))
                    have d1 : nrV up a b < 0 := of_decide_eq_true (by rw [E1.out, c1]; rfl)
                    go_wp2_with (first
      | (go_at_call 63; ((with_reducible refine (nearest_any _ up _ _ _ HI.out.up (by omega) (by omega) (by omega)).mono ?_); rintro e w' ⟨rfl, hbn⟩; clear hx0 hx1; have HD2 := Lib.hid (HD.out.next hbn); clear HD; have HD := HD2; clear HD2; have HI2 := Lib.hid (HI.out.next hbn); clear HI; have HI := HI2; clear HI2; have hx0 := HI.out.x0; have hx1 := HI.out.x1; clear hbn))
      | (go_at_call 63; ((with_reducible refine (nearest_any _ (dnU up) _ _ _ HD.out (by rw [dnU_len]; omega) (by rw [dnU_len]; omega) (by rw [dnU_len]; omega)).mono ?_); rintro e w' ⟨rfl, hbn⟩; clear hx0 hx1; have HD2 := Lib.hid (HD.out.next hbn); clear HD; have HD := HD2; clear HD2; have HI2 := Lib.hid (HI.out.next hbn); clear HI; have HI := HI2; clear HI2; have hx0 := HI.out.x0; have hx1 := HI.out.x1; clear hbn)))
                    go_ret2
                    exact ⟨ret_two (by rw [HK.out]; rfl) (by rw [HK.out]; rfl), HI.out.bel⟩
                  | true =>
                    have d1 : ¬ nrV up a b < 0 := of_decide_eq_false (by rw [E1.out, c1]; rfl)
                    cases c2 : (mt (ge up) up.length a b).isSome with
                    | false =>
                      have HK := Lib.hid (HYes.out (unb1_yes up a b (.inr c2)))
                      have d2 : nrV (dnU up) a b < 0 := of_decide_eq_true (by rw [E2.out, c2]; rfl)
                      go_wp2_with (first
      | (go_at_call 63; ((with_reducible refine (nearest_any _ up _ _ _ HI.out.up (by omega) (by omega) (by omega)).mono ?_); rintro e w' ⟨rfl, hbn⟩; clear hx0 hx1; have HD2 := Lib.hid (HD.out.next hbn); clear HD; have HD := HD2; clear HD2; have HI2 := Lib.hid (HI.out.next hbn); clear HI; have HI := HI2; clear HI2; have hx0 := HI.out.x0; have hx1 := HI.out.x1; clear hbn))
      | (go_at_call 63; ((with_reducible refine (nearest_any _ (dnU up) _ _ _ HD.out (by rw [dnU_len]; omega) (by rw [dnU_len]; omega) (by rw [dnU_len]; omega)).mono ?_); rintro e w' ⟨rfl, hbn⟩; clear hx0 hx1; have HD2 := Lib.hid (HD.out.next hbn); clear HD; have HD := HD2; clear HD2; have HI2 := Lib.hid (HI.out.next hbn); clear HI; have HI := HI2; clear HI2; have hx0 := HI.out.x0; have hx1 := HI.out.x1; clear hbn)))
                      go_ret2
                      exact ⟨ret_two (by rw [HK.out]; rfl) (by rw [HK.out]; rfl), HI.out.bel⟩
                    | true =>
                      have d2 : ¬ nrV (dnU up) a b < 0 := of_decide_eq_false (by rw [E2.out, c2]; rfl)
                      have HQ := Lib.hid (any_succ hj.out (unb1_no up a b c1 c2))
                      go_wp2_with (first
      | (go_at_call 63; ((with_reducible refine (nearest_any _ up _ _ _ HI.out.up (by omega) (by omega) (by omega)).mono ?_); rintro e w' ⟨rfl, hbn⟩; clear hx0 hx1; have HD2 := Lib.hid (HD.out.next hbn); clear HD; have HD := HD2; clear HD2; have HI2 := Lib.hid (HI.out.next hbn); clear HI; have HI := HI2; clear HI2; have hx0 := HI.out.x0; have hx1 := HI.out.x1; clear hbn))
      | (go_at_call 63; ((with_reducible refine (nearest_any _ (dnU up) _ _ _ HD.out (by rw [dnU_len]; omega) (by rw [dnU_len]; omega) (by rw [dnU_len]; omega)).mono ?_); rintro e w' ⟨rfl, hbn⟩; clear hx0 hx1; have HD2 := Lib.hid (HD.out.next hbn); clear HD; have HD := HD2; clear HD2; have HI2 := Lib.hid (HI.out.next hbn); clear HI; have HI := HI2; clear HI2; have hx0 := HI.out.x0; have hx1 := HI.out.x1; clear hbn)))
                      go_roundg g3
                      case measure => omega
                      case rel => exact ⟨b + 1, by omega, by go_num, HI.out, HD.out, HQ⟩
    · have hu1 : ((up.length : Int) != (ns.length : Int)) = true := by rw [bne_iff_ne]; omega
      have HK : Hid (ck ns up = (-1, 6)) := ck_E h1 h8 HN1.out hu
      go_enter Tryz.func31, Tryz.ntmps31
      go_wp2_with (go_at_call 60; refine (rnames_any _ ns _ HI.out.nm HZ.out).mono ?_; rintro e w' ⟨rfl, hbn⟩; have HI2 := Lib.hid (HI.out.next hbn); clear HI; have HI := HI2; clear HI2; have hx0 := HI.out.x0; have hx1 := HI.out.x1; clear hbn)
      go_ret2
      exact ⟨ret_two (by rw [HK.out]; rfl) (by rw [HK.out]; rfl), HI.out.bel⟩
end Go.Proofs.YtablaacddbkeiaaGreatDoor
