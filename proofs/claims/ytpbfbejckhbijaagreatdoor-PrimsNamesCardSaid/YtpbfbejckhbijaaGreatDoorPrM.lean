/- The law of names. -/
import Derived.Test.YtpbfbejckhbijaaGreatDoorPrL
import Derived.Test.YtpbfbejckhbijaaGreatDoorPrD
import Derived.Test.YtpbfbejckhbijaaGreatDoorPrF
import Derived.Deep.DeepCutAuto
namespace Go.Proofs.YtpbfbejckhbijaaGreatDoor
open Go.RowKit

theorem len_erL (p : Int) : (erL p).length ≤ 3 := by
  unfold erL erN
  split
  · simp
  · have := fl12_le [e0P p.toNat, e1P p.toNat, e2P p.toNat]
    simpa using this
set_option maxRecDepth 100000 in
set_option maxHeartbeats 16000000 in
theorem law_names (p : Int) (s : ByteArray) (w : World) (hw : Ru.Lay w) : Calls Tryz.prog 3 #[.int .i64 p, .string s] w fun e w' => e = .returned (.bool true) ∧ Below w.heap.size w w' := by
  have HL := Lib.hid hw
  have HA := Lib.hid (show At12 w w from Below.refl _ _)
  have HAw := Lib.hid (fun W h => awake12_any W h)
  clear hw
  by_cases hs : (100 : Int) < (s.size : Int)
  · have q1 : decide ((100 : Int) < (s.size : Int)) = true := decide_eq_true hs
    go_enter Tryz.func3, Tryz.ntmps3
    go_wp2_with (first | (go_at_call 11; (with_reducible refine (HAw.out _ HL.out).mono ?_); rintro e w1 ⟨rfl, hb⟩; have HB := Lib.hid hb; clear hb) | fail)
    go_ret
    exact ⟨rfl, HB.out⟩
  · have q1 : decide ((100 : Int) < (s.size : Int)) = false := decide_eq_false hs
    have C1 := Lib.hid (find_any s)
    have C2 := Lib.hid (rfind_any s)
    have C3 := Lib.hid (name_any p)
    have C4 := Lib.hid (rname_any p)
    have C5 := Lib.hid (arity_any p)
    have C6 := Lib.hid (rarity_any p)
    have C7 := Lib.hid (errors_any p)
    have C8 := Lib.hid (rerrors_any p)
    have C9 := Lib.hid (fun v u W h1 h2 => same12_eq (erL p) v u W h1 h2 (by have := len_erL p; omega))
    generalize ((fdP s : Nat) : Int) = k1 at C1 C2
    generalize fdE s = k2 at C1 C2
    generalize nmS p = k3 at C3 C4
    generalize arE p = k4 at C3 C4 C5 C6 C7 C8
    generalize arN p = k5 at C5 C6
    generalize erL p = k6 at C7 C8 C9
    have r1 : (k1 == k1) = true := by simp
    have r2 : (k2 == k2) = true := by simp
    have r3 : (k3.toList == k3.toList) = true := by simp
    have r4 : (k4 == k4) = true := by simp
    have r5 : (k5 == k5) = true := by simp
    go_enter Tryz.func3, Tryz.ntmps3
    go_upto_region 11 with (first
      | (go_at_call 12; (with_reducible refine (C1.out _).mono ?_); rintro e w1 ⟨rfl, hb⟩; have HA2 := Lib.hid (HA.out.next hb); clear HA; have HA := HA2; clear HA2)
      | (go_at_call 13; (with_reducible refine (C2.out _).mono ?_); rintro e w2 ⟨rfl, hb⟩; have HA2 := Lib.hid (HA.out.next hb); clear HA; have HA := HA2; clear HA2)
      | (go_at_call 14; (with_reducible refine (C3.out _).mono ?_); rintro e w3 ⟨rfl, hb⟩; have HA2 := Lib.hid (HA.out.next hb); clear HA; have HA := HA2; clear HA2)
      | (go_at_call 15; (with_reducible refine (C4.out _).mono ?_); rintro e w4 ⟨rfl, hb⟩; have HA2 := Lib.hid (HA.out.next hb); clear HA; have HA := HA2; clear HA2)
      | (go_at_call 16; (with_reducible refine (C5.out _).mono ?_); rintro e w5 ⟨rfl, rfl⟩; have HA2 := Lib.hid (HA.out.next (Below.refl _ _)); clear HA; have HA := HA2; clear HA2)
      | (go_at_call 17; (with_reducible refine (C6.out _).mono ?_); rintro e w6 ⟨rfl, rfl⟩; have HA2 := Lib.hid (HA.out.next (Below.refl _ _)); clear HA; have HA := HA2; clear HA2)
      | (go_at_call 18; (with_reducible refine (C7.out _).mono ?_); rintro e w7 ⟨u7, rfl, hu, hn, hb⟩; have HU7 := Lib.hid hu; have HA2 := Lib.hid (HA.out.next hb); clear HA hu hn hb; have HA := HA2; clear HA2)
      | (go_at_call 19; (with_reducible refine (C8.out _).mono ?_); rintro e w8 ⟨u8, rfl, hu, hn, hb⟩; have HU8 := Lib.hid hu; have HU9 := Lib.hid (HU7.out.next hb); have HA2 := Lib.hid (HA.out.next hb); clear HA hu hn hb HU7; have HA := HA2; clear HA2)
      | fail)
    go_wp2_with (first
      | (go_at_call 20; (with_reducible refine (C9.out _ _ _ HU9.out HU8.out).mono ?_); rintro e w9 ⟨rfl, hb⟩; have HA2 := Lib.hid (HA.out.next hb); clear HA hb; have HA := HA2; clear HA2)
      | (go_at_call 11; (with_reducible refine (HAw.out _ (HL.out.next HA.out)).mono ?_); rintro e wa ⟨rfl, hb⟩; have HB := Lib.hid (HA.out.next hb); clear hb)
      | fail)
    go_ret
    exact ⟨rfl, HB.out⟩
end Go.Proofs.YtpbfbejckhbijaaGreatDoor
