/- The reference's Check, Runes and Count. -/
import Derived.Test.YtomffjaeafcpdaaDoorRfV
import Derived.Test.YtomffjaeafcpdaaDoorRfI
namespace Go.Proofs.YtomffjaeafcpdaaDoor
open Go.RowKit

theorem rdec_at {s : List UInt8} {v : Value} {w : World} {k r n e : Nat} (hv : RdB w.heap.size w v s) (hl : s.length ≤ 1000000) (hk : k < s.length) (hd : dec (s.drop k) = (r, n, e)) :
    Calls Tryd.prog 8 #[v, .int .i64 (k : Int)] w fun x w' => x = .returned (.tuple #[.int .i64 (r : Int), .int .i64 (n : Int), .int .i64 (e : Int)]) ∧ Below w.heap.size w w' := by
  have := rdecode_any s v (k : Int) w hv hl
  unfold decI at this
  rw [if_neg (by omega), Int.toNat_natCast, hd] at this
  exact this

set_option maxRecDepth 100000 in
set_option maxHeartbeats 4000000 in
theorem rcheck_any (v : Value) (s : List UInt8) (w : World) (hv : RdB w.heap.size w v s) :
    Calls Tryd.prog 14 #[v] w fun e w' => e = .returned (.tuple #[.int .i64 ((chkA s : Nat) : Int), .int .i64 ((chkE s : Nat) : Int)]) ∧ Below w.heap.size w w' := by
  have HV := Lib.hid hv
  obtain ⟨a, cap, rfl, hcap, hc2, _⟩ := hv
  by_cases hl : 8000 < s.length
  · have d0 : (8000 : Int) < (s.length : Int) := by omega
    have HQ : Hid (chkA s = 0 ∧ chkE s = 3) := by unfold Hid chkA chkE; rw [if_pos hl, if_pos hl]; exact ⟨rfl, rfl⟩
    clear hl
    go_enter Tryd.func14, Tryd.ntmps14
    go_wp2_with fail
    go_ret2
    rw [HQ.out.1, HQ.out.2]
    exact ⟨rfl, Below.refl _ _⟩
  · have d0 : ¬ (8000 : Int) < (s.length : Int) := by omega
    have HL := Lib.hid hl
    have hs1 : (s.length : Int) ≤ 8000 := by omega
    clear hl
    go_enter Tryd.func14, Tryd.ntmps14
    go_wp2_with fail
    go_loopg [4] s.length (fun g i wr => ∃ (k : Nat) (pre : List (Nat × Nat)), Way s k pre ∧ s.length ≤ k + g ∧ i = .int .i64 (k : Int) ∧ Below w.heap.size w wr)
    case atStart => exact ⟨0, [], Way.start s, by omega, rfl, Below.refl _ _⟩
    case round =>
      obtain ⟨k, pre, hi, hg, rfl, hb⟩ := hrel
      have HI := Lib.hid hi
      have HB := Lib.hid hb
      have hle := hi.le
      clear hi hb
      by_cases hk : k < s.length
      · have hki : (k : Int) < (s.length : Int) := by omega
        rcases hd : dec (s.drop k) with ⟨r, n, e⟩
        have HD := Lib.hid (rdec_at (HV.out.next HB.out) (by omega) hk hd)
        by_cases he : e = 0
        · subst he
          obtain ⟨n1, n2, n4, hst⟩ := HI.out.step hk hd
          have HS := Lib.hid hst
          have hn4 : (n : Int) ≤ 4 := by omega
          have hkn : (k : Int) + (n : Int) ≤ 8000 := by omega
          cases gk with
          | zero => omega
          | succ g =>
            have hgg : s.length ≤ k + n + g := by omega
            clear hst hd HL HI hk hle hg n1 n2 n4
            go_wp2_with (go_at_call 8; refine HD.out.mono ?_; rintro e w1 ⟨rfl, hb1⟩; have HB2 := Lib.hid (HB.out.trans (hb1.mono HB.out.size)); clear hb1)
            go_roundg g
            case measure => omega
            case rel => exact ⟨k + n, _, HS.out, hgg, by go_num, HB2.out⟩
        · have HQ := Lib.hid (HI.out.chk_stop HL.out hk hd he)
          have e0 : ((e : Int) != 0) = true := by rw [bne_iff_ne]; omega
          clear hd HL HI hk hle hg he
          go_wp2_with (go_at_call 8; refine HD.out.mono ?_; rintro e w1 ⟨rfl, hb1⟩; have HB2 := Lib.hid (HB.out.trans (hb1.mono HB.out.size)); clear hb1)
          go_ret2
          rw [HQ.out.1, HQ.out.2]
          exact ⟨rfl, HB2.out⟩
      · have hki : ¬ (k : Int) < (s.length : Int) := by omega
        have HQ := Lib.hid (HI.out.chk_done HL.out hk)
        clear HL HI hk hle hg
        go_wp2_with fail
        go_ret2
        rw [HQ.out.1, HQ.out.2]
        exact ⟨rfl, HB.out⟩
end Go.Proofs.YtomffjaeafcpdaaDoor
