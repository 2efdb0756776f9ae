/- The law RunesTexts as a walk. -/
import Derived.Test.YtomffjaeafcpdaaDoorRfK
import Derived.Test.YtomffjaeafcpdaaDoorRfO
import Derived.Test.YtomffjaeafcpdaaDoorRuS
namespace Go.Proofs.YtomffjaeafcpdaaDoor
open Go.RowKit

theorem run_small (s : List UInt8) : (runV s).length ≤ 8000 := by
  unfold runV
  by_cases h : chkE s = 0
  · rw [if_pos h]
    have := rns_len s
    have := ((chkE_ok s).1 h).1
    simp; omega
  · rw [if_neg h]; simp
set_option maxRecDepth 100000
set_option maxHeartbeats 1000000 in
theorem texts_mid_any (vb vl : Value) (b : List UInt8) (l : List Int) (w : World) (hw : Lay w) (hv : RdB w.heap.size w vb b) (hu : RdI w.heap.size w vl l) (h : 200 < b.length ∧ b.length ≤ 8000) :
    Calls Tryd.prog 4 #[vb, vl] w fun e w' => e = .returned (.bool true) ∧ Below w.heap.size w w' := by
  have HL := Lib.hid hw
  have HV := Lib.hid hv
  have HU := Lib.hid hu
  obtain ⟨a, cap, rfl, hcap, hc2, _⟩ := hv
  obtain ⟨a2, cap2, rfl, hcap2, _⟩ := hu
  have db0 : decide ((200 : Int) < (b.length : Int)) = true := decide_eq_true (by omega)
  have db1 : decide ((b.length : Int) ≤ 8000) = true := decide_eq_true (by omega)
  clear h hw
  go_enter Tryd.func4, Tryd.ntmps4
  go_wp2_with (go_at_call 6; refine (awake_any _ HL.out).mono ?_; rintro e w' ⟨rfl, hb⟩; have HB2 := Lib.hid hb; clear hb)
  go_ret
  exact ⟨rfl, HB2.out⟩
set_option maxHeartbeats 1000000 in
theorem texts_far_any (vb vl : Value) (b : List UInt8) (l : List Int) (w : World) (hw : Lay w) (hv : RdB w.heap.size w vb b) (hu : RdI w.heap.size w vl l) (h : 8100 < b.length) :
    Calls Tryd.prog 4 #[vb, vl] w fun e w' => e = .returned (.bool true) ∧ Below w.heap.size w w' := by
  have HL := Lib.hid hw
  have HV := Lib.hid hv
  have HU := Lib.hid hu
  obtain ⟨a, cap, rfl, hcap, hc2, _⟩ := hv
  obtain ⟨a2, cap2, rfl, hcap2, _⟩ := hu
  have db0 : decide ((200 : Int) < (b.length : Int)) = true := decide_eq_true (by omega)
  have db1 : decide ((b.length : Int) ≤ 8000) = false := decide_eq_false (by omega)
  have db2 : decide ((8100 : Int) < (b.length : Int)) = true := decide_eq_true (by omega)
  clear h hw
  go_enter Tryd.func4, Tryd.ntmps4
  go_wp2_with (go_at_call 6; refine (awake_any _ HL.out).mono ?_; rintro e w' ⟨rfl, hb⟩; have HB2 := Lib.hid hb; clear hb)
  go_ret
  exact ⟨rfl, HB2.out⟩
set_option maxHeartbeats 1000000 in
theorem texts_short_mid (vb vl : Value) (b : List UInt8) (l : List Int) (w : World) (hw : Lay w) (hv : RdB w.heap.size w vb b) (hu : RdI w.heap.size w vl l) (h : b.length ≤ 200) (h2 : 100 < l.length ∧ l.length ≤ 2000) :
    Calls Tryd.prog 4 #[vb, vl] w fun e w' => e = .returned (.bool true) ∧ Below w.heap.size w w' := by
  have HL := Lib.hid hw
  have HV := Lib.hid hv
  have HU := Lib.hid hu
  obtain ⟨a, cap, rfl, hcap, hc2, _⟩ := hv
  obtain ⟨a2, cap2, rfl, hcap2, _⟩ := hu
  have db0 : decide ((200 : Int) < (b.length : Int)) = false := decide_eq_false (by omega)
  have db2 : decide ((8100 : Int) < (b.length : Int)) = false := decide_eq_false (by omega)
  have dl0 : decide ((100 : Int) < (l.length : Int)) = true := decide_eq_true (by omega)
  have dl1 : decide ((l.length : Int) ≤ 2000) = true := decide_eq_true (by omega)
  clear h hw h2
  go_enter Tryd.func4, Tryd.ntmps4
  go_wp2_with (go_at_call 6; refine (awake_any _ HL.out).mono ?_; rintro e w' ⟨rfl, hb⟩; have HB2 := Lib.hid hb; clear hb)
  go_ret
  exact ⟨rfl, HB2.out⟩
set_option maxHeartbeats 1000000 in
theorem texts_short_far (vb vl : Value) (b : List UInt8) (l : List Int) (w : World) (hw : Lay w) (hv : RdB w.heap.size w vb b) (hu : RdI w.heap.size w vl l) (h : b.length ≤ 200) (h2 : 8100 < l.length) :
    Calls Tryd.prog 4 #[vb, vl] w fun e w' => e = .returned (.bool true) ∧ Below w.heap.size w w' := by
  have HL := Lib.hid hw
  have HV := Lib.hid hv
  have HU := Lib.hid hu
  obtain ⟨a, cap, rfl, hcap, hc2, _⟩ := hv
  obtain ⟨a2, cap2, rfl, hcap2, _⟩ := hu
  have db0 : decide ((200 : Int) < (b.length : Int)) = false := decide_eq_false (by omega)
  have db2 : decide ((8100 : Int) < (b.length : Int)) = false := decide_eq_false (by omega)
  have dl0 : decide ((100 : Int) < (l.length : Int)) = true := decide_eq_true (by omega)
  have dl1 : decide ((l.length : Int) ≤ 2000) = false := decide_eq_false (by omega)
  have dl2 : decide ((8100 : Int) < (l.length : Int)) = true := decide_eq_true (by omega)
  clear h hw h2
  go_enter Tryd.func4, Tryd.ntmps4
  go_wp2_with (go_at_call 6; refine (awake_any _ HL.out).mono ?_; rintro e w' ⟨rfl, hb⟩; have HB2 := Lib.hid hb; clear hb)
  go_ret
  exact ⟨rfl, HB2.out⟩
set_option maxHeartbeats 1000000 in
theorem texts_long_mid (vb vl : Value) (b : List UInt8) (l : List Int) (w : World) (hw : Lay w) (hv : RdB w.heap.size w vb b) (hu : RdI w.heap.size w vl l) (h : 8000 < b.length ∧ b.length ≤ 8100) (h2 : 100 < l.length ∧ l.length ≤ 2000) :
    Calls Tryd.prog 4 #[vb, vl] w fun e w' => e = .returned (.bool true) ∧ Below w.heap.size w w' := by
  have HL := Lib.hid hw
  have HV := Lib.hid hv
  have HU := Lib.hid hu
  obtain ⟨a, cap, rfl, hcap, hc2, _⟩ := hv
  obtain ⟨a2, cap2, rfl, hcap2, _⟩ := hu
  have db0 : decide ((200 : Int) < (b.length : Int)) = true := decide_eq_true (by omega)
  have db1 : decide ((b.length : Int) ≤ 8000) = false := decide_eq_false (by omega)
  have db2 : decide ((8100 : Int) < (b.length : Int)) = false := decide_eq_false (by omega)
  have dl0 : decide ((100 : Int) < (l.length : Int)) = true := decide_eq_true (by omega)
  have dl1 : decide ((l.length : Int) ≤ 2000) = true := decide_eq_true (by omega)
  clear h hw h2
  go_enter Tryd.func4, Tryd.ntmps4
  go_wp2_with (go_at_call 6; refine (awake_any _ HL.out).mono ?_; rintro e w' ⟨rfl, hb⟩; have HB2 := Lib.hid hb; clear hb)
  go_ret
  exact ⟨rfl, HB2.out⟩
set_option maxHeartbeats 1000000 in
theorem texts_long_far (vb vl : Value) (b : List UInt8) (l : List Int) (w : World) (hw : Lay w) (hv : RdB w.heap.size w vb b) (hu : RdI w.heap.size w vl l) (h : 8000 < b.length ∧ b.length ≤ 8100) (h2 : 8100 < l.length) :
    Calls Tryd.prog 4 #[vb, vl] w fun e w' => e = .returned (.bool true) ∧ Below w.heap.size w w' := by
  have HL := Lib.hid hw
  have HV := Lib.hid hv
  have HU := Lib.hid hu
  obtain ⟨a, cap, rfl, hcap, hc2, _⟩ := hv
  obtain ⟨a2, cap2, rfl, hcap2, _⟩ := hu
  have db0 : decide ((200 : Int) < (b.length : Int)) = true := decide_eq_true (by omega)
  have db1 : decide ((b.length : Int) ≤ 8000) = false := decide_eq_false (by omega)
  have db2 : decide ((8100 : Int) < (b.length : Int)) = false := decide_eq_false (by omega)
  have dl0 : decide ((100 : Int) < (l.length : Int)) = true := decide_eq_true (by omega)
  have dl1 : decide ((l.length : Int) ≤ 2000) = false := decide_eq_false (by omega)
  have dl2 : decide ((8100 : Int) < (l.length : Int)) = true := decide_eq_true (by omega)
  clear h hw h2
  go_enter Tryd.func4, Tryd.ntmps4
  go_wp2_with (go_at_call 6; refine (awake_any _ HL.out).mono ?_; rintro e w' ⟨rfl, hb⟩; have HB2 := Lib.hid hb; clear hb)
  go_ret
  exact ⟨rfl, HB2.out⟩
set_option maxHeartbeats 4000000 in
theorem texts_short_short (vb vl : Value) (b : List UInt8) (l : List Int) (w : World) (hw : Lay w) (hv : RdB w.heap.size w vb b) (hu : RdI w.heap.size w vl l) (h : b.length ≤ 200) (h2 : l.length ≤ 100) :
    Calls Tryd.prog 4 #[vb, vl] w fun e w' => e = .returned (.bool true) ∧ Below w.heap.size w w' := by
  have HL := Lib.hid hw
  have HV := Lib.hid hv
  have HU := Lib.hid hu
  obtain ⟨a, cap, rfl, hcap, hc2, _⟩ := hv
  obtain ⟨a2, cap2, rfl, hcap2, _⟩ := hu
  have HB0 := Lib.hid (Below.refl w.heap.size w)
  have HSm := Lib.hid (run_small b)
  have db0 : decide ((200 : Int) < (b.length : Int)) = false := decide_eq_false (by omega)
  have db2 : decide ((8100 : Int) < (b.length : Int)) = false := decide_eq_false (by omega)
  have dl0 : decide ((100 : Int) < (l.length : Int)) = false := decide_eq_false (by omega)
  have dl2 : decide ((8100 : Int) < (l.length : Int)) = false := decide_eq_false (by omega)
  have hll : l.length ≤ 1000000 := by omega
  have H1 := Lib.hid (fun W hW hv => check_any (.slice a b.length cap) b W hW hv)
  have H2 := Lib.hid (fun W hv => rcheck_any (.slice a b.length cap) b W hv)
  have H3 := Lib.hid (fun W hW hv => count_any (.slice a b.length cap) b W hW hv)
  have H4 := Lib.hid (fun W hv => rcount_any (.slice a b.length cap) b W hv)
  have H5 := Lib.hid (fun W hW hv => runes_any (.slice a b.length cap) b W hW hv)
  have H6 := Lib.hid (fun W hv => rruns_any (.slice a b.length cap) b W hv)
  have H7 := Lib.hid (fun W hW hv => bytes_any (.slice a2 l.length cap2) l W hW hv hll)
  have H8 := Lib.hid (fun W hv => rbytes_any (.slice a2 l.length cap2) l W hv hll)
  generalize runV b = rv at HSm H3 H4 H5 H6
  generalize chkE b = ce at H1 H2 H3 H4 H5 H6
  generalize chkA b = ca at H1 H2
  generalize bytA l = ba at H7 H8
  generalize bytE l = be at H7 H8
  generalize bytV l = bv at H7 H8
  clear h h2 hw hll
  go_enter Tryd.func4, Tryd.ntmps4
  go_wp2_with (first
    | (go_at_call 6; refine (awake_any _ (HL.out.next HB9.out)).mono ?_; rintro e w10 ⟨rfl, hb⟩; have HB10 := Lib.hid (HB9.out.trans (hb.mono HB9.out.size)); clear hb)
    | (go_at_call 21; refine (same_any _ _ _ _ _ I1.out I2.out (by have := HSm.out; omega)).mono ?_; rintro e w9 ⟨rfl, hb⟩; have HB9 := Lib.hid (HB8.out.trans (hb.mono HB8.out.size)); have cP := conv_bys (own_below P1.out hb); have cQ := conv_bys (own_below P2.out hb); clear hb; simp only [decide_true])
    | (go_at_call 20; refine (H8.out _ (HU.out.next HB7.out)).mono ?_; rintro e w8 ⟨u8, rfl, hu, hb⟩; have HB8 := Lib.hid (HB7.out.trans (hb.mono HB7.out.size)); have I1n := Lib.hid (I1.out.next hb); have I2n := Lib.hid (I2.out.next hb); have P1n := Lib.hid (own_below P1.out hb); clear I1; have I1 := I1n; clear I1n; clear I2; have I2 := I2n; clear I2n; clear P1; have P1 := P1n; clear P1n; have P2 := Lib.hid hu; obtain ⟨ua8, uc8, rfl⟩ := bys_len hu; clear hu; clear hb)
    | (go_at_call 19; refine (H7.out _ (HL.out.next HB6.out) (HU.out.next HB6.out)).mono ?_; rintro e w7 ⟨u7, rfl, hu, hb⟩; have HB7 := Lib.hid (HB6.out.trans (hb.mono HB6.out.size)); have I1n := Lib.hid (I1.out.next hb); have I2n := Lib.hid (I2.out.next hb); clear I1; have I1 := I1n; clear I1n; clear I2; have I2 := I2n; clear I2n; have P1 := Lib.hid hu; obtain ⟨ua7, uc7, rfl⟩ := bys_len hu; clear hu; clear hb)
    | (go_at_call 18; refine (H6.out _ (HV.out.next HB5.out)).mono ?_; rintro e w6 ⟨u6, rfl, hu, hb⟩; have HB6 := Lib.hid (HB5.out.trans (hb.mono HB5.out.size)); have I1n := Lib.hid (I1.out.next hb); clear I1; have I1 := I1n; clear I1n; have I2 := Lib.hid hu.rd; obtain ⟨ua6, uc6, rfl⟩ := own_len hu; clear hu; clear hb)
    | (go_at_call 17; refine (H5.out _ (HL.out.next HB4.out) (HV.out.next HB4.out)).mono ?_; rintro e w5 ⟨u5, rfl, hu, hb⟩; have HB5 := Lib.hid (HB4.out.trans (hb.mono HB4.out.size)); have I1 := Lib.hid hu.rd; obtain ⟨ua5, uc5, rfl⟩ := own_len hu; clear hu; clear hb)
    | (go_at_call 16; refine (H4.out _ (HV.out.next HB3.out)).mono ?_; rintro e w4 ⟨rfl, hb⟩; have HB4 := Lib.hid (HB3.out.trans (hb.mono HB3.out.size)); clear hb)
    | (go_at_call 15; refine (H3.out _ (HL.out.next HB2.out) (HV.out.next HB2.out)).mono ?_; rintro e w3 ⟨rfl, hb⟩; have HB3 := Lib.hid (HB2.out.trans (hb.mono HB2.out.size)); clear hb)
    | (go_at_call 14; refine (H2.out _ (HV.out.next HB1.out)).mono ?_; rintro e w2 ⟨rfl, hb⟩; have HB2 := Lib.hid (HB1.out.trans (hb.mono HB1.out.size)); clear hb)
    | (go_at_call 13; refine (H1.out _ (HL.out.next HB0.out) (HV.out.next HB0.out)).mono ?_; rintro e w1 ⟨rfl, hb⟩; have HB1 := Lib.hid (HB0.out.trans (hb.mono HB0.out.size)); clear hb))
  go_ret
  exact ⟨rfl, HB10.out⟩
set_option maxHeartbeats 4000000 in
theorem texts_short_long (vb vl : Value) (b : List UInt8) (l : List Int) (w : World) (hw : Lay w) (hv : RdB w.heap.size w vb b) (hu : RdI w.heap.size w vl l) (h : b.length ≤ 200) (h2 : 2000 < l.length ∧ l.length ≤ 8100) :
    Calls Tryd.prog 4 #[vb, vl] w fun e w' => e = .returned (.bool true) ∧ Below w.heap.size w w' := by
  have HL := Lib.hid hw
  have HV := Lib.hid hv
  have HU := Lib.hid hu
  obtain ⟨a, cap, rfl, hcap, hc2, _⟩ := hv
  obtain ⟨a2, cap2, rfl, hcap2, _⟩ := hu
  have HB0 := Lib.hid (Below.refl w.heap.size w)
  have HSm := Lib.hid (run_small b)
  have db0 : decide ((200 : Int) < (b.length : Int)) = false := decide_eq_false (by omega)
  have db2 : decide ((8100 : Int) < (b.length : Int)) = false := decide_eq_false (by omega)
  have dl0 : decide ((100 : Int) < (l.length : Int)) = true := decide_eq_true (by omega)
  have dl1 : decide ((l.length : Int) ≤ 2000) = false := decide_eq_false (by omega)
  have dl2 : decide ((8100 : Int) < (l.length : Int)) = false := decide_eq_false (by omega)
  have hll : l.length ≤ 1000000 := by omega
  have H1 := Lib.hid (fun W hW hv => check_any (.slice a b.length cap) b W hW hv)
  have H2 := Lib.hid (fun W hv => rcheck_any (.slice a b.length cap) b W hv)
  have H3 := Lib.hid (fun W hW hv => count_any (.slice a b.length cap) b W hW hv)
  have H4 := Lib.hid (fun W hv => rcount_any (.slice a b.length cap) b W hv)
  have H5 := Lib.hid (fun W hW hv => runes_any (.slice a b.length cap) b W hW hv)
  have H6 := Lib.hid (fun W hv => rruns_any (.slice a b.length cap) b W hv)
  have H7 := Lib.hid (fun W hW hv => bytes_any (.slice a2 l.length cap2) l W hW hv hll)
  have H8 := Lib.hid (fun W hv => rbytes_any (.slice a2 l.length cap2) l W hv hll)
  generalize runV b = rv at HSm H3 H4 H5 H6
  generalize chkE b = ce at H1 H2 H3 H4 H5 H6
  generalize chkA b = ca at H1 H2
  generalize bytA l = ba at H7 H8
  generalize bytE l = be at H7 H8
  generalize bytV l = bv at H7 H8
  clear h h2 hw hll
  go_enter Tryd.func4, Tryd.ntmps4
  go_wp2_with (first
    | (go_at_call 6; refine (awake_any _ (HL.out.next HB9.out)).mono ?_; rintro e w10 ⟨rfl, hb⟩; have HB10 := Lib.hid (HB9.out.trans (hb.mono HB9.out.size)); clear hb)
    | (go_at_call 21; refine (same_any _ _ _ _ _ I1.out I2.out (by have := HSm.out; omega)).mono ?_; rintro e w9 ⟨rfl, hb⟩; have HB9 := Lib.hid (HB8.out.trans (hb.mono HB8.out.size)); have cP := conv_bys (own_below P1.out hb); have cQ := conv_bys (own_below P2.out hb); clear hb; simp only [decide_true])
    | (go_at_call 20; refine (H8.out _ (HU.out.next HB7.out)).mono ?_; rintro e w8 ⟨u8, rfl, hu, hb⟩; have HB8 := Lib.hid (HB7.out.trans (hb.mono HB7.out.size)); have I1n := Lib.hid (I1.out.next hb); have I2n := Lib.hid (I2.out.next hb); have P1n := Lib.hid (own_below P1.out hb); clear I1; have I1 := I1n; clear I1n; clear I2; have I2 := I2n; clear I2n; clear P1; have P1 := P1n; clear P1n; have P2 := Lib.hid hu; obtain ⟨ua8, uc8, rfl⟩ := bys_len hu; clear hu; clear hb)
    | (go_at_call 19; refine (H7.out _ (HL.out.next HB6.out) (HU.out.next HB6.out)).mono ?_; rintro e w7 ⟨u7, rfl, hu, hb⟩; have HB7 := Lib.hid (HB6.out.trans (hb.mono HB6.out.size)); have I1n := Lib.hid (I1.out.next hb); have I2n := Lib.hid (I2.out.next hb); clear I1; have I1 := I1n; clear I1n; clear I2; have I2 := I2n; clear I2n; have P1 := Lib.hid hu; obtain ⟨ua7, uc7, rfl⟩ := bys_len hu; clear hu; clear hb)
    | (go_at_call 18; refine (H6.out _ (HV.out.next HB5.out)).mono ?_; rintro e w6 ⟨u6, rfl, hu, hb⟩; have HB6 := Lib.hid (HB5.out.trans (hb.mono HB5.out.size)); have I1n := Lib.hid (I1.out.next hb); clear I1; have I1 := I1n; clear I1n; have I2 := Lib.hid hu.rd; obtain ⟨ua6, uc6, rfl⟩ := own_len hu; clear hu; clear hb)
    | (go_at_call 17; refine (H5.out _ (HL.out.next HB4.out) (HV.out.next HB4.out)).mono ?_; rintro e w5 ⟨u5, rfl, hu, hb⟩; have HB5 := Lib.hid (HB4.out.trans (hb.mono HB4.out.size)); have I1 := Lib.hid hu.rd; obtain ⟨ua5, uc5, rfl⟩ := own_len hu; clear hu; clear hb)
    | (go_at_call 16; refine (H4.out _ (HV.out.next HB3.out)).mono ?_; rintro e w4 ⟨rfl, hb⟩; have HB4 := Lib.hid (HB3.out.trans (hb.mono HB3.out.size)); clear hb)
    | (go_at_call 15; refine (H3.out _ (HL.out.next HB2.out) (HV.out.next HB2.out)).mono ?_; rintro e w3 ⟨rfl, hb⟩; have HB3 := Lib.hid (HB2.out.trans (hb.mono HB2.out.size)); clear hb)
    | (go_at_call 14; refine (H2.out _ (HV.out.next HB1.out)).mono ?_; rintro e w2 ⟨rfl, hb⟩; have HB2 := Lib.hid (HB1.out.trans (hb.mono HB1.out.size)); clear hb)
    | (go_at_call 13; refine (H1.out _ (HL.out.next HB0.out) (HV.out.next HB0.out)).mono ?_; rintro e w1 ⟨rfl, hb⟩; have HB1 := Lib.hid (HB0.out.trans (hb.mono HB0.out.size)); clear hb))
  go_ret
  exact ⟨rfl, HB10.out⟩
set_option maxHeartbeats 4000000 in
theorem texts_long_short (vb vl : Value) (b : List UInt8) (l : List Int) (w : World) (hw : Lay w) (hv : RdB w.heap.size w vb b) (hu : RdI w.heap.size w vl l) (h : 8000 < b.length ∧ b.length ≤ 8100) (h2 : l.length ≤ 100) :
    Calls Tryd.prog 4 #[vb, vl] w fun e w' => e = .returned (.bool true) ∧ Below w.heap.size w w' := by
  have HL := Lib.hid hw
  have HV := Lib.hid hv
  have HU := Lib.hid hu
  obtain ⟨a, cap, rfl, hcap, hc2, _⟩ := hv
  obtain ⟨a2, cap2, rfl, hcap2, _⟩ := hu
  have HB0 := Lib.hid (Below.refl w.heap.size w)
  have HSm := Lib.hid (run_small b)
  have db0 : decide ((200 : Int) < (b.length : Int)) = true := decide_eq_true (by omega)
  have db1 : decide ((b.length : Int) ≤ 8000) = false := decide_eq_false (by omega)
  have db2 : decide ((8100 : Int) < (b.length : Int)) = false := decide_eq_false (by omega)
  have dl0 : decide ((100 : Int) < (l.length : Int)) = false := decide_eq_false (by omega)
  have dl2 : decide ((8100 : Int) < (l.length : Int)) = false := decide_eq_false (by omega)
  have hll : l.length ≤ 1000000 := by omega
  have H1 := Lib.hid (fun W hW hv => check_any (.slice a b.length cap) b W hW hv)
  have H2 := Lib.hid (fun W hv => rcheck_any (.slice a b.length cap) b W hv)
  have H3 := Lib.hid (fun W hW hv => count_any (.slice a b.length cap) b W hW hv)
  have H4 := Lib.hid (fun W hv => rcount_any (.slice a b.length cap) b W hv)
  have H5 := Lib.hid (fun W hW hv => runes_any (.slice a b.length cap) b W hW hv)
  have H6 := Lib.hid (fun W hv => rruns_any (.slice a b.length cap) b W hv)
  have H7 := Lib.hid (fun W hW hv => bytes_any (.slice a2 l.length cap2) l W hW hv hll)
  have H8 := Lib.hid (fun W hv => rbytes_any (.slice a2 l.length cap2) l W hv hll)
  generalize runV b = rv at HSm H3 H4 H5 H6
  generalize chkE b = ce at H1 H2 H3 H4 H5 H6
  generalize chkA b = ca at H1 H2
  generalize bytA l = ba at H7 H8
  generalize bytE l = be at H7 H8
  generalize bytV l = bv at H7 H8
  clear h h2 hw hll
  go_enter Tryd.func4, Tryd.ntmps4
  go_wp2_with (first
    | (go_at_call 6; refine (awake_any _ (HL.out.next HB9.out)).mono ?_; rintro e w10 ⟨rfl, hb⟩; have HB10 := Lib.hid (HB9.out.trans (hb.mono HB9.out.size)); clear hb)
    | (go_at_call 21; refine (same_any _ _ _ _ _ I1.out I2.out (by have := HSm.out; omega)).mono ?_; rintro e w9 ⟨rfl, hb⟩; have HB9 := Lib.hid (HB8.out.trans (hb.mono HB8.out.size)); have cP := conv_bys (own_below P1.out hb); have cQ := conv_bys (own_below P2.out hb); clear hb; simp only [decide_true])
    | (go_at_call 20; refine (H8.out _ (HU.out.next HB7.out)).mono ?_; rintro e w8 ⟨u8, rfl, hu, hb⟩; have HB8 := Lib.hid (HB7.out.trans (hb.mono HB7.out.size)); have I1n := Lib.hid (I1.out.next hb); have I2n := Lib.hid (I2.out.next hb); have P1n := Lib.hid (own_below P1.out hb); clear I1; have I1 := I1n; clear I1n; clear I2; have I2 := I2n; clear I2n; clear P1; have P1 := P1n; clear P1n; have P2 := Lib.hid hu; obtain ⟨ua8, uc8, rfl⟩ := bys_len hu; clear hu; clear hb)
    | (go_at_call 19; refine (H7.out _ (HL.out.next HB6.out) (HU.out.next HB6.out)).mono ?_; rintro e w7 ⟨u7, rfl, hu, hb⟩; have HB7 := Lib.hid (HB6.out.trans (hb.mono HB6.out.size)); have I1n := Lib.hid (I1.out.next hb); have I2n := Lib.hid (I2.out.next hb); clear I1; have I1 := I1n; clear I1n; clear I2; have I2 := I2n; clear I2n; have P1 := Lib.hid hu; obtain ⟨ua7, uc7, rfl⟩ := bys_len hu; clear hu; clear hb)
    | (go_at_call 18; refine (H6.out _ (HV.out.next HB5.out)).mono ?_; rintro e w6 ⟨u6, rfl, hu, hb⟩; have HB6 := Lib.hid (HB5.out.trans (hb.mono HB5.out.size)); have I1n := Lib.hid (I1.out.next hb); clear I1; have I1 := I1n; clear I1n; have I2 := Lib.hid hu.rd; obtain ⟨ua6, uc6, rfl⟩ := own_len hu; clear hu; clear hb)
    | (go_at_call 17; refine (H5.out _ (HL.out.next HB4.out) (HV.out.next HB4.out)).mono ?_; rintro e w5 ⟨u5, rfl, hu, hb⟩; have HB5 := Lib.hid (HB4.out.trans (hb.mono HB4.out.size)); have I1 := Lib.hid hu.rd; obtain ⟨ua5, uc5, rfl⟩ := own_len hu; clear hu; clear hb)
    | (go_at_call 16; refine (H4.out _ (HV.out.next HB3.out)).mono ?_; rintro e w4 ⟨rfl, hb⟩; have HB4 := Lib.hid (HB3.out.trans (hb.mono HB3.out.size)); clear hb)
    | (go_at_call 15; refine (H3.out _ (HL.out.next HB2.out) (HV.out.next HB2.out)).mono ?_; rintro e w3 ⟨rfl, hb⟩; have HB3 := Lib.hid (HB2.out.trans (hb.mono HB2.out.size)); clear hb)
    | (go_at_call 14; refine (H2.out _ (HV.out.next HB1.out)).mono ?_; rintro e w2 ⟨rfl, hb⟩; have HB2 := Lib.hid (HB1.out.trans (hb.mono HB1.out.size)); clear hb)
    | (go_at_call 13; refine (H1.out _ (HL.out.next HB0.out) (HV.out.next HB0.out)).mono ?_; rintro e w1 ⟨rfl, hb⟩; have HB1 := Lib.hid (HB0.out.trans (hb.mono HB0.out.size)); clear hb))
  go_ret
  exact ⟨rfl, HB10.out⟩
set_option maxHeartbeats 4000000 in
theorem texts_long_long (vb vl : Value) (b : List UInt8) (l : List Int) (w : World) (hw : Lay w) (hv : RdB w.heap.size w vb b) (hu : RdI w.heap.size w vl l) (h : 8000 < b.length ∧ b.length ≤ 8100) (h2 : 2000 < l.length ∧ l.length ≤ 8100) :
    Calls Tryd.prog 4 #[vb, vl] w fun e w' => e = .returned (.bool true) ∧ Below w.heap.size w w' := by
  have HL := Lib.hid hw
  have HV := Lib.hid hv
  have HU := Lib.hid hu
  obtain ⟨a, cap, rfl, hcap, hc2, _⟩ := hv
  obtain ⟨a2, cap2, rfl, hcap2, _⟩ := hu
  have HB0 := Lib.hid (Below.refl w.heap.size w)
  have HSm := Lib.hid (run_small b)
  have db0 : decide ((200 : Int) < (b.length : Int)) = true := decide_eq_true (by omega)
  have db1 : decide ((b.length : Int) ≤ 8000) = false := decide_eq_false (by omega)
  have db2 : decide ((8100 : Int) < (b.length : Int)) = false := decide_eq_false (by omega)
  have dl0 : decide ((100 : Int) < (l.length : Int)) = true := decide_eq_true (by omega)
  have dl1 : decide ((l.length : Int) ≤ 2000) = false := decide_eq_false (by omega)
  have dl2 : decide ((8100 : Int) < (l.length : Int)) = false := decide_eq_false (by omega)
  have hll : l.length ≤ 1000000 := by omega
  have H1 := Lib.hid (fun W hW hv => check_any (.slice a b.length cap) b W hW hv)
  have H2 := Lib.hid (fun W hv => rcheck_any (.slice a b.length cap) b W hv)
  have H3 := Lib.hid (fun W hW hv => count_any (.slice a b.length cap) b W hW hv)
  have H4 := Lib.hid (fun W hv => rcount_any (.slice a b.length cap) b W hv)
  have H5 := Lib.hid (fun W hW hv => runes_any (.slice a b.length cap) b W hW hv)
  have H6 := Lib.hid (fun W hv => rruns_any (.slice a b.length cap) b W hv)
  have H7 := Lib.hid (fun W hW hv => bytes_any (.slice a2 l.length cap2) l W hW hv hll)
  have H8 := Lib.hid (fun W hv => rbytes_any (.slice a2 l.length cap2) l W hv hll)
  generalize runV b = rv at HSm H3 H4 H5 H6
  generalize chkE b = ce at H1 H2 H3 H4 H5 H6
  generalize chkA b = ca at H1 H2
  generalize bytA l = ba at H7 H8
  generalize bytE l = be at H7 H8
  generalize bytV l = bv at H7 H8
  clear h h2 hw hll
  go_enter Tryd.func4, Tryd.ntmps4
  go_wp2_with (first
    | (go_at_call 6; refine (awake_any _ (HL.out.next HB9.out)).mono ?_; rintro e w10 ⟨rfl, hb⟩; have HB10 := Lib.hid (HB9.out.trans (hb.mono HB9.out.size)); clear hb)
    | (go_at_call 21; refine (same_any _ _ _ _ _ I1.out I2.out (by have := HSm.out; omega)).mono ?_; rintro e w9 ⟨rfl, hb⟩; have HB9 := Lib.hid (HB8.out.trans (hb.mono HB8.out.size)); have cP := conv_bys (own_below P1.out hb); have cQ := conv_bys (own_below P2.out hb); clear hb; simp only [decide_true])
    | (go_at_call 20; refine (H8.out _ (HU.out.next HB7.out)).mono ?_; rintro e w8 ⟨u8, rfl, hu, hb⟩; have HB8 := Lib.hid (HB7.out.trans (hb.mono HB7.out.size)); have I1n := Lib.hid (I1.out.next hb); have I2n := Lib.hid (I2.out.next hb); have P1n := Lib.hid (own_below P1.out hb); clear I1; have I1 := I1n; clear I1n; clear I2; have I2 := I2n; clear I2n; clear P1; have P1 := P1n; clear P1n; have P2 := Lib.hid hu; obtain ⟨ua8, uc8, rfl⟩ := bys_len hu; clear hu; clear hb)
    | (go_at_call 19; refine (H7.out _ (HL.out.next HB6.out) (HU.out.next HB6.out)).mono ?_; rintro e w7 ⟨u7, rfl, hu, hb⟩; have HB7 := Lib.hid (HB6.out.trans (hb.mono HB6.out.size)); have I1n := Lib.hid (I1.out.next hb); have I2n := Lib.hid (I2.out.next hb); clear I1; have I1 := I1n; clear I1n; clear I2; have I2 := I2n; clear I2n; have P1 := Lib.hid hu; obtain ⟨ua7, uc7, rfl⟩ := bys_len hu; clear hu; clear hb)
    | (go_at_call 18; refine (H6.out _ (HV.out.next HB5.out)).mono ?_; rintro e w6 ⟨u6, rfl, hu, hb⟩; have HB6 := Lib.hid (HB5.out.trans (hb.mono HB5.out.size)); have I1n := Lib.hid (I1.out.next hb); clear I1; have I1 := I1n; clear I1n; have I2 := Lib.hid hu.rd; obtain ⟨ua6, uc6, rfl⟩ := own_len hu; clear hu; clear hb)
    | (go_at_call 17; refine (H5.out _ (HL.out.next HB4.out) (HV.out.next HB4.out)).mono ?_; rintro e w5 ⟨u5, rfl, hu, hb⟩; have HB5 := Lib.hid (HB4.out.trans (hb.mono HB4.out.size)); have I1 := Lib.hid hu.rd; obtain ⟨ua5, uc5, rfl⟩ := own_len hu; clear hu; clear hb)
    | (go_at_call 16; refine (H4.out _ (HV.out.next HB3.out)).mono ?_; rintro e w4 ⟨rfl, hb⟩; have HB4 := Lib.hid (HB3.out.trans (hb.mono HB3.out.size)); clear hb)
    | (go_at_call 15; refine (H3.out _ (HL.out.next HB2.out) (HV.out.next HB2.out)).mono ?_; rintro e w3 ⟨rfl, hb⟩; have HB3 := Lib.hid (HB2.out.trans (hb.mono HB2.out.size)); clear hb)
    | (go_at_call 14; refine (H2.out _ (HV.out.next HB1.out)).mono ?_; rintro e w2 ⟨rfl, hb⟩; have HB2 := Lib.hid (HB1.out.trans (hb.mono HB1.out.size)); clear hb)
    | (go_at_call 13; refine (H1.out _ (HL.out.next HB0.out) (HV.out.next HB0.out)).mono ?_; rintro e w1 ⟨rfl, hb⟩; have HB1 := Lib.hid (HB0.out.trans (hb.mono HB0.out.size)); clear hb))
  go_ret
  exact ⟨rfl, HB10.out⟩
theorem lawTexts_any (vb vl : Value) (b : List UInt8) (l : List Int) (w : World) (hw : Lay w) (hv : RdB w.heap.size w vb b) (hu : RdI w.heap.size w vl l) :
    Calls Tryd.prog 4 #[vb, vl] w fun e w' => e = .returned (.bool true) ∧ Below w.heap.size w w' := by
  by_cases h1 : b.length ≤ 200
  · skip
    by_cases g1 : l.length ≤ 100
    · exact texts_short_short vb vl b l w hw hv hu (by omega) g1
    · by_cases g2 : l.length ≤ 2000
      · exact texts_short_mid vb vl b l w hw hv hu (by omega) (by omega)
      · by_cases g3 : l.length ≤ 8100
        · exact texts_short_long vb vl b l w hw hv hu (by omega) (by omega)
        · exact texts_short_far vb vl b l w hw hv hu (by omega) (by omega)
  · by_cases h2 : b.length ≤ 8000
    · exact texts_mid_any vb vl b l w hw hv hu (by omega)
    · by_cases h3 : b.length ≤ 8100
      · skip
        by_cases g1 : l.length ≤ 100
        · exact texts_long_short vb vl b l w hw hv hu (by omega) g1
        · by_cases g2 : l.length ≤ 2000
          · exact texts_long_mid vb vl b l w hw hv hu (by omega) (by omega)
          · by_cases g3 : l.length ≤ 8100
            · exact texts_long_long vb vl b l w hw hv hu (by omega) (by omega)
            · exact texts_long_far vb vl b l w hw hv hu (by omega) (by omega)
      · exact texts_far_any vb vl b l w hw hv hu (by omega)
end Go.Proofs.YtomffjaeafcpdaaDoor
