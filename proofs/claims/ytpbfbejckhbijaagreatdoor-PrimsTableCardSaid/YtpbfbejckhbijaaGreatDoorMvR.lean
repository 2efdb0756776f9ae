/- The reference's Two, taken, Take and Drop. -/
import Derived.Test.YtpbfbejckhbijaaGreatDoorMvZ
import Derived.Test.YtpbfbejckhbijaaGreatDoorMvP
namespace Go.Proofs.YtpbfbejckhbijaaGreatDoor
open Go.RowKit

set_option maxRecDepth 100000 in
set_option maxHeartbeats 8000000 in
theorem two_any (A B : Ar) (r s : Int) (v u : Value) (w : World) (hw : Ru.Lay w) (hv : RdI w.heap.size w v A.z) (hu : RdI w.heap.size w u B.z) (hlA : A.z.length ≤ 1000000) (hlB : B.z.length ≤ 1000000) :
    Calls Tryz.prog 138 #[A5 A.k A.r A.a A.b v, A5 B.k B.r B.a B.b u, .int .i64 r, .int .i64 s] w fun e w' => e = .returned (.int .i64 (twoE A B 1 B.k r r s s)) ∧ Below w.heap.size w w' := by
  have HA := Lib.hid (fun W h => archeck_any A v W h hlA)
  have HB := Lib.hid (fun W h => archeck_any B u W h hlB)
  have HK := Lib.hid (MC2.new (A := A) (B := B) hw hv hu)
  have x0 := HK.out.boxA.c0; have x1 := HK.out.boxA.c1; have x2 := HK.out.boxA.c2; have x3 := HK.out.boxA.c3; have x4 := HK.out.boxA.c4; have y0 := HK.out.boxB.c0; have y1 := HK.out.boxB.c1; have y2 := HK.out.boxB.c2; have y3 := HK.out.boxB.c3; have y4 := HK.out.boxB.c4
  obtain ⟨p, cap, rfl, _, _, _⟩ := hv
  obtain ⟨q, dap, rfl, _, _, _⟩ := hu
  unfold twoE
  clear hw
  by_cases h1 : ck A = 0
  · rw [if_pos h1]
    rw [h1] at HA
    by_cases h2 : ck B = 0
    · rw [if_pos h2]
      rw [h2] at HB
      by_cases h3 : A.k = 1
      · rw [if_pos ⟨h3, rfl⟩]
        have e3 : (A.k != 1) = false := by simpa using h3
        have H3 := Lib.hid e3
        by_cases h4 : A.r = r
        · have e4 : (A.r != r) = false := by simpa using h4
          have H4 := Lib.hid e4
          by_cases h5 : B.r = s
          · rw [if_neg (by omega)]
            have e5 : (B.r != s) = false := by simpa using h5
            have H5 := Lib.hid e5
            clear h1 h2 h3 h4 h5 e3 e4 e5
            go_enter Tryz.func138, Tryz.ntmps138
            go_wp2_with (first
              | (go_at_call 27; (with_reducible refine (HA.out _ HK.out.rdnA).mono ?_); rintro e w1 ⟨rfl, hb⟩; have HK2 := Lib.hid (HK.out.next hb); clear HK x0 x1 x2 x3 x4 y0 y1 y2 y3 y4; have HK := HK2; clear HK2; have x0 := HK.out.boxA.c0; have x1 := HK.out.boxA.c1; have x2 := HK.out.boxA.c2; have x3 := HK.out.boxA.c3; have x4 := HK.out.boxA.c4; have y0 := HK.out.boxB.c0; have y1 := HK.out.boxB.c1; have y2 := HK.out.boxB.c2; have y3 := HK.out.boxB.c3; have y4 := HK.out.boxB.c4; clear hb)
              | (go_at_call 27; (with_reducible refine (HB.out _ HK.out.rdnB).mono ?_); rintro e w1 ⟨rfl, hb⟩; have HK2 := Lib.hid (HK.out.next hb); clear HK x0 x1 x2 x3 x4 y0 y1 y2 y3 y4; have HK := HK2; clear HK2; have x0 := HK.out.boxA.c0; have x1 := HK.out.boxA.c1; have x2 := HK.out.boxA.c2; have x3 := HK.out.boxA.c3; have x4 := HK.out.boxA.c4; have y0 := HK.out.boxB.c0; have y1 := HK.out.boxB.c1; have y2 := HK.out.boxB.c2; have y3 := HK.out.boxB.c3; have y4 := HK.out.boxB.c4; clear hb; have h3z := H3.out; have h4z := H4.out; have h5z := H5.out)
              | fail)
            go_ret
            exact ⟨rfl, HK.out.bel⟩
          · rw [if_pos (by omega)]
            have e5 : (B.r != s) = true := by simpa using h5
            have H5 := Lib.hid e5
            clear h1 h2 h3 h4 h5 e3 e4 e5
            go_enter Tryz.func138, Tryz.ntmps138
            go_wp2_with (first
              | (go_at_call 27; (with_reducible refine (HA.out _ HK.out.rdnA).mono ?_); rintro e w1 ⟨rfl, hb⟩; have HK2 := Lib.hid (HK.out.next hb); clear HK x0 x1 x2 x3 x4 y0 y1 y2 y3 y4; have HK := HK2; clear HK2; have x0 := HK.out.boxA.c0; have x1 := HK.out.boxA.c1; have x2 := HK.out.boxA.c2; have x3 := HK.out.boxA.c3; have x4 := HK.out.boxA.c4; have y0 := HK.out.boxB.c0; have y1 := HK.out.boxB.c1; have y2 := HK.out.boxB.c2; have y3 := HK.out.boxB.c3; have y4 := HK.out.boxB.c4; clear hb)
              | (go_at_call 27; (with_reducible refine (HB.out _ HK.out.rdnB).mono ?_); rintro e w1 ⟨rfl, hb⟩; have HK2 := Lib.hid (HK.out.next hb); clear HK x0 x1 x2 x3 x4 y0 y1 y2 y3 y4; have HK := HK2; clear HK2; have x0 := HK.out.boxA.c0; have x1 := HK.out.boxA.c1; have x2 := HK.out.boxA.c2; have x3 := HK.out.boxA.c3; have x4 := HK.out.boxA.c4; have y0 := HK.out.boxB.c0; have y1 := HK.out.boxB.c1; have y2 := HK.out.boxB.c2; have y3 := HK.out.boxB.c3; have y4 := HK.out.boxB.c4; clear hb; have h3z := H3.out; have h4z := H4.out; have h5z := H5.out)
              | fail)
            go_ret
            exact ⟨rfl, HK.out.bel⟩
        · rw [if_pos (by omega)]
          have e4 : (A.r != r) = true := by simpa using h4
          have H4 := Lib.hid e4
          clear h1 h2 h3 h4 e3 e4
          go_enter Tryz.func138, Tryz.ntmps138
          go_wp2_with (first
            | (go_at_call 27; (with_reducible refine (HA.out _ HK.out.rdnA).mono ?_); rintro e w1 ⟨rfl, hb⟩; have HK2 := Lib.hid (HK.out.next hb); clear HK x0 x1 x2 x3 x4 y0 y1 y2 y3 y4; have HK := HK2; clear HK2; have x0 := HK.out.boxA.c0; have x1 := HK.out.boxA.c1; have x2 := HK.out.boxA.c2; have x3 := HK.out.boxA.c3; have x4 := HK.out.boxA.c4; have y0 := HK.out.boxB.c0; have y1 := HK.out.boxB.c1; have y2 := HK.out.boxB.c2; have y3 := HK.out.boxB.c3; have y4 := HK.out.boxB.c4; clear hb)
            | (go_at_call 27; (with_reducible refine (HB.out _ HK.out.rdnB).mono ?_); rintro e w1 ⟨rfl, hb⟩; have HK2 := Lib.hid (HK.out.next hb); clear HK x0 x1 x2 x3 x4 y0 y1 y2 y3 y4; have HK := HK2; clear HK2; have x0 := HK.out.boxA.c0; have x1 := HK.out.boxA.c1; have x2 := HK.out.boxA.c2; have x3 := HK.out.boxA.c3; have x4 := HK.out.boxA.c4; have y0 := HK.out.boxB.c0; have y1 := HK.out.boxB.c1; have y2 := HK.out.boxB.c2; have y3 := HK.out.boxB.c3; have y4 := HK.out.boxB.c4; clear hb; have h3z := H3.out; have h4z := H4.out)
            | fail)
          go_ret
          exact ⟨rfl, HK.out.bel⟩
      · rw [if_neg (fun h => h3 h.1)]
        have e3 : (A.k != 1) = true := by simpa using h3
        have H3 := Lib.hid e3
        clear h1 h2 h3 e3
        go_enter Tryz.func138, Tryz.ntmps138
        go_wp2_with (first
          | (go_at_call 27; (with_reducible refine (HA.out _ HK.out.rdnA).mono ?_); rintro e w1 ⟨rfl, hb⟩; have HK2 := Lib.hid (HK.out.next hb); clear HK x0 x1 x2 x3 x4 y0 y1 y2 y3 y4; have HK := HK2; clear HK2; have x0 := HK.out.boxA.c0; have x1 := HK.out.boxA.c1; have x2 := HK.out.boxA.c2; have x3 := HK.out.boxA.c3; have x4 := HK.out.boxA.c4; have y0 := HK.out.boxB.c0; have y1 := HK.out.boxB.c1; have y2 := HK.out.boxB.c2; have y3 := HK.out.boxB.c3; have y4 := HK.out.boxB.c4; clear hb)
          | (go_at_call 27; (with_reducible refine (HB.out _ HK.out.rdnB).mono ?_); rintro e w1 ⟨rfl, hb⟩; have HK2 := Lib.hid (HK.out.next hb); clear HK x0 x1 x2 x3 x4 y0 y1 y2 y3 y4; have HK := HK2; clear HK2; have x0 := HK.out.boxA.c0; have x1 := HK.out.boxA.c1; have x2 := HK.out.boxA.c2; have x3 := HK.out.boxA.c3; have x4 := HK.out.boxA.c4; have y0 := HK.out.boxB.c0; have y1 := HK.out.boxB.c1; have y2 := HK.out.boxB.c2; have y3 := HK.out.boxB.c3; have y4 := HK.out.boxB.c4; clear hb; have h3z := H3.out)
          | fail)
        go_ret
        exact ⟨rfl, HK.out.bel⟩
    · rw [if_neg h2]
      generalize ck B = E at h2 HB ⊢
      have e2 : (E == 0) = false := by simpa using h2
      clear h1 h2
      go_enter Tryz.func138, Tryz.ntmps138
      go_wp2_with (first
        | (go_at_call 27; (with_reducible refine (HA.out _ HK.out.rdnA).mono ?_); rintro e w1 ⟨rfl, hb⟩; have HK2 := Lib.hid (HK.out.next hb); clear HK x0 x1 x2 x3 x4 y0 y1 y2 y3 y4; have HK := HK2; clear HK2; have x0 := HK.out.boxA.c0; have x1 := HK.out.boxA.c1; have x2 := HK.out.boxA.c2; have x3 := HK.out.boxA.c3; have x4 := HK.out.boxA.c4; have y0 := HK.out.boxB.c0; have y1 := HK.out.boxB.c1; have y2 := HK.out.boxB.c2; have y3 := HK.out.boxB.c3; have y4 := HK.out.boxB.c4; clear hb)
        | (go_at_call 27; (with_reducible refine (HB.out _ HK.out.rdnB).mono ?_); rintro e w1 ⟨rfl, hb⟩; have HK2 := Lib.hid (HK.out.next hb); clear HK x0 x1 x2 x3 x4 y0 y1 y2 y3 y4; have HK := HK2; clear HK2; have x0 := HK.out.boxA.c0; have x1 := HK.out.boxA.c1; have x2 := HK.out.boxA.c2; have x3 := HK.out.boxA.c3; have x4 := HK.out.boxA.c4; have y0 := HK.out.boxB.c0; have y1 := HK.out.boxB.c1; have y2 := HK.out.boxB.c2; have y3 := HK.out.boxB.c3; have y4 := HK.out.boxB.c4; clear hb; )
        | fail)
      go_ret
      exact ⟨rfl, HK.out.bel⟩
  · rw [if_neg h1]
    generalize ck A = E at h1 HA ⊢
    have e1 : (E == 0) = false := by simpa using h1
    clear h1 HB
    go_enter Tryz.func138, Tryz.ntmps138
    go_wp2_with (first
      | (go_at_call 27; (with_reducible refine (HA.out _ HK.out.rdnA).mono ?_); rintro e w1 ⟨rfl, hb⟩; have HK2 := Lib.hid (HK.out.next hb); clear HK x0 x1 x2 x3 x4 y0 y1 y2 y3 y4; have HK := HK2; clear HK2; have x0 := HK.out.boxA.c0; have x1 := HK.out.boxA.c1; have x2 := HK.out.boxA.c2; have x3 := HK.out.boxA.c3; have x4 := HK.out.boxA.c4; have y0 := HK.out.boxB.c0; have y1 := HK.out.boxB.c1; have y2 := HK.out.boxB.c2; have y3 := HK.out.boxB.c3; have y4 := HK.out.boxB.c4; clear hb)
      | fail)
    go_ret
    exact ⟨rfl, HK.out.bel⟩

/-- How many cells are taken, and from which end. -/
def tknN (n : Int) (m : Nat) : Nat := if n < 0 then m - ((m : Int) + n).toNat else min n.toNat m
set_option maxHeartbeats 1000000 in
theorem taken_any (n : Int) (m : Nat) (w : World) (hm : m ≤ 1000000) (hn : -9223372036854775808 ≤ n ∧ n ≤ 9223372036854775807) :
    Calls Tryz.prog 139 #[.int .i64 n, .int .i64 m] w fun e w' => e = .returned (.tuple #[.int .i64 (tknN n m), .bool (decide (n < 0))]) ∧ w' = w := by
  have HE : Hid ((if n < 0 then -(max n (-(m : Int))) else min n (m : Int)) = (tknN n m : Int)) := by
    unfold Hid tknN
    by_cases h : n < 0
    · rw [if_pos h, if_pos h]; omega
    · rw [if_neg h, if_neg h]; omega
  by_cases h : n < 0
  · rw [if_pos h] at HE
    rw [decide_eq_true h]
    have hge : ¬ n ≥ 0 := by omega
    have hw1 : IntKind.i64.wrap (-(m : Int)) = -(m : Int) := by rw [IntKind.wrap_i64]; omega
    have hw2 : IntKind.i64.wrap (-(max n (-(m : Int)))) = (tknN n m : Int) := by rw [← HE.out, IntKind.wrap_i64]; omega
    go_enter Tryz.func139, Tryz.ntmps139
    go_wp2
    go_ret2
    exact ⟨rfl, rfl⟩
  · rw [if_neg h] at HE
    rw [decide_eq_false h]
    have hge : n ≥ 0 := by omega
    have hmn : min n (m : Int) = (tknN n m : Int) := HE.out
    go_enter Tryz.func139, Tryz.ntmps139
    go_wp2
    go_ret2
    exact ⟨rfl, rfl⟩
end Go.Proofs.YtpbfbejckhbijaaGreatDoor
