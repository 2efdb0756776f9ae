/- The law RunesStarts as a walk. -/
import Derived.Test.YtomffjaeafcpdaaDoorRfM
import Derived.Test.YtomffjaeafcpdaaDoorRuS
namespace Go.Proofs.YtomffjaeafcpdaaDoor
open Go.RowKit

theorem sta_small (s : List UInt8) : (staV s).length ≤ 8001 := by
  unfold staV
  by_cases h : chkE s = 0
  · rw [if_pos h]
    have := rns_len s
    have := ((chkE_ok s).1 h).1
    unfold sts; simp; omega
  · rw [if_neg h]; simp
set_option maxRecDepth 100000
set_option maxHeartbeats 1000000 in
theorem starts_mid (vb : Value) (b : List UInt8) (k : Int) (w : World) (hw : Lay w) (hv : RdB w.heap.size w vb b) (h : 200 < b.length ∧ b.length ≤ 8000) :
    Calls Tryd.prog 5 #[vb, .int .i64 k] w fun e w' => e = .returned (.bool true) ∧ Below w.heap.size w w' := by
  have HL := Lib.hid hw
  obtain ⟨a, cap, rfl, hcap, hc2, _⟩ := hv
  have d0 : decide ((200 : Int) < (b.length : Int)) = true := decide_eq_true (by omega)
  have d1 : decide ((b.length : Int) ≤ 8000) = true := decide_eq_true (by omega)
  clear h hw
  go_enter Tryd.func5, Tryd.ntmps5
  go_wp2_with (go_at_call 6; refine (awake_any _ HL.out).mono ?_; rintro e w' ⟨rfl, hb⟩; have HB2 := Lib.hid hb; clear hb)
  go_ret
  exact ⟨rfl, HB2.out⟩
set_option maxHeartbeats 1000000 in
theorem starts_far (vb : Value) (b : List UInt8) (k : Int) (w : World) (hw : Lay w) (hv : RdB w.heap.size w vb b) (h : 8100 < b.length) :
    Calls Tryd.prog 5 #[vb, .int .i64 k] w fun e w' => e = .returned (.bool true) ∧ Below w.heap.size w w' := by
  have HL := Lib.hid hw
  obtain ⟨a, cap, rfl, hcap, hc2, _⟩ := hv
  have d0 : decide ((200 : Int) < (b.length : Int)) = true := decide_eq_true (by omega)
  have d1 : decide ((b.length : Int) ≤ 8000) = false := decide_eq_false (by omega)
  have d2 : decide ((8100 : Int) < (b.length : Int)) = true := decide_eq_true (by omega)
  clear h hw
  go_enter Tryd.func5, Tryd.ntmps5
  go_wp2_with (go_at_call 6; refine (awake_any _ HL.out).mono ?_; rintro e w' ⟨rfl, hb⟩; have HB2 := Lib.hid hb; clear hb)
  go_ret
  exact ⟨rfl, HB2.out⟩
set_option maxHeartbeats 4000000 in
theorem starts_short (vb : Value) (b : List UInt8) (k : Int) (w : World) (hw : Lay w) (hv : RdB w.heap.size w vb b) (h : b.length ≤ 200) :
    Calls Tryd.prog 5 #[vb, .int .i64 k] w fun e w' => e = .returned (.bool true) ∧ Below w.heap.size w w' := by
  have HL := Lib.hid hw
  have HV := Lib.hid hv
  have HB0 := Lib.hid (Below.refl w.heap.size w)
  have HSm := Lib.hid (sta_small b)
  obtain ⟨a, cap, rfl, hcap, hc2, _⟩ := hv
  have d0 : decide ((200 : Int) < (b.length : Int)) = false := decide_eq_false (by omega)
  have d2 : decide ((8100 : Int) < (b.length : Int)) = false := decide_eq_false (by omega)
  have H1 := Lib.hid (fun W hW hv => starts_any (.slice a b.length cap) b W hW hv)
  have H2 := Lib.hid (fun W hv => rstarts_any (.slice a b.length cap) b W hv)
  have H3 := Lib.hid (fun W hW hv => on_any (.slice a b.length cap) b k W hW hv)
  have H4 := Lib.hid (fun W hv => ron_any (.slice a b.length cap) b k W hv)
  have H5 := Lib.hid (fun W hW hv => back_any (.slice a b.length cap) b k W hW hv)
  have H6 := Lib.hid (fun W hv => rback_any (.slice a b.length cap) b k W hv)
  generalize staV b = sv at HSm H1 H2
  generalize chkE b = ce at H1 H2
  generalize onV b k = ov at H3 H4
  generalize bakE b k = be at H3 H4 H5 H6
  generalize bakV b k = bv at H5 H6
  clear h hw
  go_enter Tryd.func5, Tryd.ntmps5
  go_wp2_with (first
    | (go_at_call 6; refine (awake_any _ (HL.out.next HB7.out)).mono ?_; rintro e w8 ⟨rfl, hb⟩; have HB8 := Lib.hid (HB7.out.trans (hb.mono HB7.out.size)); clear hb)
    | (go_at_call 28; refine (sameInts_any _ _ _ _ _ I1.out I2.out (by have := HSm.out; omega)).mono ?_; rintro e w7 ⟨rfl, hb⟩; have HB7 := Lib.hid (HB6.out.trans (hb.mono HB6.out.size)); clear hb; simp only [decide_true])
    | (go_at_call 27; refine (H6.out _ (HV.out.next HB5.out)).mono ?_; rintro e w6 ⟨rfl, hb⟩; have HB6 := Lib.hid (HB5.out.trans (hb.mono HB5.out.size)); have I1n := Lib.hid (I1.out.next hb); have I2n := Lib.hid (I2.out.next hb); clear I1; have I1 := I1n; clear I1n; clear I2; have I2 := I2n; clear I2n; clear hb)
    | (go_at_call 26; refine (H5.out _ (HL.out.next HB4.out) (HV.out.next HB4.out)).mono ?_; rintro e w5 ⟨rfl, hb⟩; have HB5 := Lib.hid (HB4.out.trans (hb.mono HB4.out.size)); have I1n := Lib.hid (I1.out.next hb); have I2n := Lib.hid (I2.out.next hb); clear I1; have I1 := I1n; clear I1n; clear I2; have I2 := I2n; clear I2n; clear hb)
    | (go_at_call 25; refine (H4.out _ (HV.out.next HB3.out)).mono ?_; rintro e w4 ⟨rfl, hb⟩; have HB4 := Lib.hid (HB3.out.trans (hb.mono HB3.out.size)); have I1n := Lib.hid (I1.out.next hb); have I2n := Lib.hid (I2.out.next hb); clear I1; have I1 := I1n; clear I1n; clear I2; have I2 := I2n; clear I2n; clear hb)
    | (go_at_call 24; refine (H3.out _ (HL.out.next HB2.out) (HV.out.next HB2.out)).mono ?_; rintro e w3 ⟨rfl, hb⟩; have HB3 := Lib.hid (HB2.out.trans (hb.mono HB2.out.size)); have I1n := Lib.hid (I1.out.next hb); have I2n := Lib.hid (I2.out.next hb); clear I1; have I1 := I1n; clear I1n; clear I2; have I2 := I2n; clear I2n; clear hb)
    | (go_at_call 23; refine (H2.out _ (HV.out.next HB1.out)).mono ?_; rintro e w2 ⟨u2, rfl, hu, hb⟩; have HB2 := Lib.hid (HB1.out.trans (hb.mono HB1.out.size)); have I1n := Lib.hid (I1.out.next hb); clear I1; have I1 := I1n; clear I1n; have I2 := Lib.hid hu.rd; obtain ⟨ua2, uc2, rfl⟩ := own_len hu; clear hu; clear hb)
    | (go_at_call 22; refine (H1.out _ (HL.out.next HB0.out) (HV.out.next HB0.out)).mono ?_; rintro e w1 ⟨u1, rfl, hu, hb⟩; have HB1 := Lib.hid (HB0.out.trans (hb.mono HB0.out.size)); have I1 := Lib.hid hu.rd; obtain ⟨ua1, uc1, rfl⟩ := own_len hu; clear hu; clear hb))
  go_ret
  exact ⟨rfl, HB8.out⟩
set_option maxHeartbeats 4000000 in
theorem starts_long (vb : Value) (b : List UInt8) (k : Int) (w : World) (hw : Lay w) (hv : RdB w.heap.size w vb b) (h : 8000 < b.length ∧ b.length ≤ 8100) :
    Calls Tryd.prog 5 #[vb, .int .i64 k] w fun e w' => e = .returned (.bool true) ∧ Below w.heap.size w w' := by
  have HL := Lib.hid hw
  have HV := Lib.hid hv
  have HB0 := Lib.hid (Below.refl w.heap.size w)
  have HSm := Lib.hid (sta_small b)
  obtain ⟨a, cap, rfl, hcap, hc2, _⟩ := hv
  have d0 : decide ((200 : Int) < (b.length : Int)) = true := decide_eq_true (by omega)
  have d1 : decide ((b.length : Int) ≤ 8000) = false := decide_eq_false (by omega)
  have d2 : decide ((8100 : Int) < (b.length : Int)) = false := decide_eq_false (by omega)
  have H1 := Lib.hid (fun W hW hv => starts_any (.slice a b.length cap) b W hW hv)
  have H2 := Lib.hid (fun W hv => rstarts_any (.slice a b.length cap) b W hv)
  have H3 := Lib.hid (fun W hW hv => on_any (.slice a b.length cap) b k W hW hv)
  have H4 := Lib.hid (fun W hv => ron_any (.slice a b.length cap) b k W hv)
  have H5 := Lib.hid (fun W hW hv => back_any (.slice a b.length cap) b k W hW hv)
  have H6 := Lib.hid (fun W hv => rback_any (.slice a b.length cap) b k W hv)
  generalize staV b = sv at HSm H1 H2
  generalize chkE b = ce at H1 H2
  generalize onV b k = ov at H3 H4
  generalize bakE b k = be at H3 H4 H5 H6
  generalize bakV b k = bv at H5 H6
  clear h hw
  go_enter Tryd.func5, Tryd.ntmps5
  go_wp2_with (first
    | (go_at_call 6; refine (awake_any _ (HL.out.next HB7.out)).mono ?_; rintro e w8 ⟨rfl, hb⟩; have HB8 := Lib.hid (HB7.out.trans (hb.mono HB7.out.size)); clear hb)
    | (go_at_call 28; refine (sameInts_any _ _ _ _ _ I1.out I2.out (by have := HSm.out; omega)).mono ?_; rintro e w7 ⟨rfl, hb⟩; have HB7 := Lib.hid (HB6.out.trans (hb.mono HB6.out.size)); clear hb; simp only [decide_true])
    | (go_at_call 27; refine (H6.out _ (HV.out.next HB5.out)).mono ?_; rintro e w6 ⟨rfl, hb⟩; have HB6 := Lib.hid (HB5.out.trans (hb.mono HB5.out.size)); have I1n := Lib.hid (I1.out.next hb); have I2n := Lib.hid (I2.out.next hb); clear I1; have I1 := I1n; clear I1n; clear I2; have I2 := I2n; clear I2n; clear hb)
    | (go_at_call 26; refine (H5.out _ (HL.out.next HB4.out) (HV.out.next HB4.out)).mono ?_; rintro e w5 ⟨rfl, hb⟩; have HB5 := Lib.hid (HB4.out.trans (hb.mono HB4.out.size)); have I1n := Lib.hid (I1.out.next hb); have I2n := Lib.hid (I2.out.next hb); clear I1; have I1 := I1n; clear I1n; clear I2; have I2 := I2n; clear I2n; clear hb)
    | (go_at_call 25; refine (H4.out _ (HV.out.next HB3.out)).mono ?_; rintro e w4 ⟨rfl, hb⟩; have HB4 := Lib.hid (HB3.out.trans (hb.mono HB3.out.size)); have I1n := Lib.hid (I1.out.next hb); have I2n := Lib.hid (I2.out.next hb); clear I1; have I1 := I1n; clear I1n; clear I2; have I2 := I2n; clear I2n; clear hb)
    | (go_at_call 24; refine (H3.out _ (HL.out.next HB2.out) (HV.out.next HB2.out)).mono ?_; rintro e w3 ⟨rfl, hb⟩; have HB3 := Lib.hid (HB2.out.trans (hb.mono HB2.out.size)); have I1n := Lib.hid (I1.out.next hb); have I2n := Lib.hid (I2.out.next hb); clear I1; have I1 := I1n; clear I1n; clear I2; have I2 := I2n; clear I2n; clear hb)
    | (go_at_call 23; refine (H2.out _ (HV.out.next HB1.out)).mono ?_; rintro e w2 ⟨u2, rfl, hu, hb⟩; have HB2 := Lib.hid (HB1.out.trans (hb.mono HB1.out.size)); have I1n := Lib.hid (I1.out.next hb); clear I1; have I1 := I1n; clear I1n; have I2 := Lib.hid hu.rd; obtain ⟨ua2, uc2, rfl⟩ := own_len hu; clear hu; clear hb)
    | (go_at_call 22; refine (H1.out _ (HL.out.next HB0.out) (HV.out.next HB0.out)).mono ?_; rintro e w1 ⟨u1, rfl, hu, hb⟩; have HB1 := Lib.hid (HB0.out.trans (hb.mono HB0.out.size)); have I1 := Lib.hid hu.rd; obtain ⟨ua1, uc1, rfl⟩ := own_len hu; clear hu; clear hb))
  go_ret
  exact ⟨rfl, HB8.out⟩
theorem lawStarts_any (vb : Value) (b : List UInt8) (k : Int) (w : World) (hw : Lay w) (hv : RdB w.heap.size w vb b) :
    Calls Tryd.prog 5 #[vb, .int .i64 k] w fun e w' => e = .returned (.bool true) ∧ Below w.heap.size w w' := by
  by_cases h1 : b.length ≤ 200
  · exact starts_short vb b k w hw hv h1
  · by_cases h2 : b.length ≤ 8000
    · exact starts_mid vb b k w hw hv (by omega)
    · by_cases h3 : b.length ≤ 8100
      · exact starts_long vb b k w hw hv (by omega)
      · exact starts_far vb b k w hw hv (by omega)
end Go.Proofs.YtomffjaeafcpdaaDoor
