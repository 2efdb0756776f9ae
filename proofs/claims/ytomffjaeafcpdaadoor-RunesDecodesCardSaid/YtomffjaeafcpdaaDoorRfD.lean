/- The law RunesDecodes as a walk. -/
import Derived.Test.YtomffjaeafcpdaaDoorRfV
import Derived.Test.YtomffjaeafcpdaaDoorRfC
import Derived.Test.YtomffjaeafcpdaaDoorRuS
namespace Go.Proofs.YtomffjaeafcpdaaDoor
open Go.RowKit

theorem class_two (r : Int) : ∃ cv ce : Int, (∀ W, Lay W → Calls Tryd.prog 11 #[.int .i64 r] W fun e w' => e = .returned (.tuple #[.int .i64 cv, .int .i64 ce]) ∧ Below W.heap.size W w') ∧
    (∀ W, Calls Tryd.prog 12 #[.int .i64 r] W fun e w' => e = .returned (.tuple #[.int .i64 cv, .int .i64 ce]) ∧ Below W.heap.size W w') := by
  cases h : isR r
  · exact ⟨0, 7, fun W _ => (class_bad r W h).mono fun e w' k => ⟨k.1, k.2 ▸ Below.refl _ _⟩, fun W => (rclass_bad r W h).mono fun e w' k => ⟨k.1, k.2 ▸ Below.refl _ _⟩⟩
  · exact ⟨((clsV r : Nat) : Int), 0, fun W hW => class_ok r W hW h, fun W => (rclass_any r W h).mono fun e w' k => ⟨k.1, k.2 ▸ Below.refl _ _⟩⟩

set_option maxRecDepth 100000 in
set_option maxHeartbeats 4000000 in
theorem lawDecodes_any (vb : Value) (b : List UInt8) (k r : Int) (w : World) (hw : Lay w) (hv : RdB w.heap.size w vb b) :
    Calls Tryd.prog 3 #[vb, .int .i64 k, .int .i64 r] w fun e w' => e = .returned (.bool true) ∧ Below w.heap.size w w' := by
  have HL := Lib.hid hw
  have HV := Lib.hid hv
  have HB := Lib.hid (Below.refl w.heap.size w)
  obtain ⟨a, cap, rfl, hcap, hc2, _⟩ := hv
  by_cases hl : (200 : Int) < (b.length : Int)
  · clear hw
    go_enter Tryd.func3, Tryd.ntmps3
    go_wp2_with (go_at_call 6; refine (awake_any _ HL.out).mono ?_; rintro e w' ⟨rfl, hb⟩; have HB2 := Lib.hid hb; clear hb)
    go_ret
    exact ⟨rfl, HB2.out⟩
  · have hlen : b.length ≤ 1000000 := by omega
    obtain ⟨cv, ce, H1, H2⟩ := class_two r
    have HC1 := Lib.hid H1
    have HC2 := Lib.hid H2
    have HD1 := Lib.hid (fun W hW h => decode_any b (.slice a b.length cap) k W hW h)
    have HD2 := Lib.hid (fun W h => rdecode_any b (.slice a b.length cap) k W h hlen)
    have HE1 := Lib.hid (fun W hW => encode_any r W hW)
    have HE2 := Lib.hid (fun W => refEncode_any r W)
    rcases decI b k with ⟨x, n, e⟩
    unfold tup3 at HD1 HD2
    generalize encE r = ee at HE1 HE2
    generalize encB r = eb at HE1 HE2
    clear H1 H2 hlen hw
    go_enter Tryd.func3, Tryd.ntmps3
    go_wp2_with (first
      | (go_at_call 6; refine (awake_any _ (HL.out.next HBf.out)).mono ?_; rintro e w7 ⟨rfl, hb⟩; have HBg := Lib.hid (HBf.out.trans (hb.mono HBf.out.size)); clear hb cC cD)
      | (go_at_call 12; refine (HC2.out _).mono ?_; rintro e w6 ⟨rfl, hb⟩; have HBf := Lib.hid (HBe.out.trans (hb.mono HBe.out.size)); have cC := conv_bys (own_below (own_below HA.out hbE.out) hb); have cD := conv_bys (own_below HG.out hb); clear hb)
      | (go_at_call 11; refine (HC1.out _ (HL.out.next HBd.out)).mono ?_; rintro e w5 ⟨rfl, hb⟩; have HBe := Lib.hid (HBd.out.trans (hb.mono HBd.out.size)); have HAn := Lib.hid (own_below HA.out (hbE.out.trans (hb.mono hbE.out.size))); have HGn := Lib.hid (own_below HG.out hb); have hbn := Lib.hid (Below.refl w5.heap.size w5); clear HA HG hbE hb; have HA := HAn; have HG := HGn; have hbE := hbn; clear HAn HGn hbn)
      | (go_at_call 10; refine (HE2.out _).mono ?_; rintro e w4 ⟨d, rfl, hG, hb⟩; have HBd := Lib.hid (HBc.out.trans (hb.mono HBc.out.size)); have HG := Lib.hid hG; have hbE := Lib.hid hb; clear hb hG)
      | (go_at_call 9; refine (HE1.out _ (HL.out.next HBb.out)).mono ?_; rintro e w3 ⟨c, rfl, hA, hb⟩; have HBc := Lib.hid (HBb.out.trans (hb.mono HBb.out.size)); have HA := Lib.hid hA; clear hb hA)
      | (go_at_call 8; refine (HD2.out _ (HV.out.next HBa.out)).mono ?_; rintro e w2 ⟨rfl, hb⟩; have HBb := Lib.hid (HBa.out.trans (hb.mono HBa.out.size)); clear hb)
      | (go_at_call 7; refine (HD1.out _ HL.out HV.out).mono ?_; rintro e w1 ⟨rfl, hb⟩; have HBa := Lib.hid hb; clear hb))
    go_ret
    exact ⟨rfl, HBg.out⟩
end Go.Proofs.YtomffjaeafcpdaaDoor
