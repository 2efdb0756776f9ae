/- The reference's Encode. -/
import Derived.Test.YtomffjaeafcpdaaDoorRuOr
namespace Go.Proofs.YtomffjaeafcpdaaDoor
open Go.RowKit

theorem lit_bys (w : World) (xs : List Nat) (vals : Array Value) (hx : ∀ x ∈ xs, x < 256) (hv : vals.toList = xs.map fun (x : Nat) => Value.int .u8 (x : Int)) (hl : xs.length ≤ 1000) :
    Bys (w.alloc (.cells vals 5)) w.heap.size (.slice (some ⟨w.heap.size, 0, none⟩) xs.length xs.length) (xs.map UInt8.ofNat) := by
  have hs : vals.size = xs.length := by rw [← Array.length_toList, hv, List.length_map]
  have h := World.ownsRow_lit (e := 5) (size := 1) w vals xs.length (Nat.le_refl _) (by unfold maxLen; omega) (by omega)
  unfold Bys
  rw [List.length_map, List.map_map]
  have e : xs.map ((fun c : UInt8 => Value.int .u8 (c.toNat : Int)) ∘ UInt8.ofNat) = vals.toList := by
    rw [hv]
    refine List.map_congr_left fun x hm => ?_
    simp only [Function.comp, on x (hx x hm)]
  rw [e]
  exact h

set_option maxRecDepth 100000 in
set_option maxHeartbeats 1000000 in
theorem refEncode_ok (n : Nat) (w : World) (h : isR (n : Int) = true) :
    Calls Tryd.prog 10 #[.int .i64 (n : Int)] w fun e w' => ∃ v, e = .returned (.tuple #[v, .int .i64 0]) ∧ Bys w' w.heap.size v (enc n) ∧ Below w.heap.size w w' := by
  have h2 : (n : Int) ≤ 1114111 := by simp [isR] at h; omega
  have HI := Lib.hid (rIs_any (n : Int) w)
  rw [h] at HI
  clear h
  have HL := Lib.hid (encN_lt n (by omega))
  unfold enc
  by_cases a : n < 128
  · have hN : encN n = [n] := by unfold encN; rw [if_pos a]
    rw [hN] at HL ⊢
    clear hN
    have d0 : decide ((n : Int) < 128) = true := decide_eq_true (by omega)
    have Hr := Lib.hid h2
    clear a
    go_enter Tryd.func10, Tryd.ntmps10
    go_wp2_with (go_at_call 35; refine HI.out.mono ?_; rintro e w' ⟨rfl, rfl⟩)
    go_ret2
    refine ⟨_, rfl, lit_bys w _ _ HL.out ?_ (by simp), (Below.refl _ _).alloc (Nat.le_refl _) _⟩
    have := Hr.out
    have e0 := of_decide_eq_true d0
    simp only [List.map_cons, List.map_nil, List.cons.injEq, Value.int.injEq, true_and, and_true]
    omega
  · by_cases b : n < 2048
    · have hN : encN n = [192 + n / 64, 128 + n % 64] := by unfold encN; rw [if_neg a, if_pos b]
      rw [hN] at HL ⊢
      clear hN
      have d0 : decide ((n : Int) < 128) = false := decide_eq_false (by omega)
      have d1 : decide ((n : Int) < 2048) = true := decide_eq_true (by omega)
      have Hr := Lib.hid h2
      clear a b
      go_enter Tryd.func10, Tryd.ntmps10
      go_wp2_with (go_at_call 35; refine HI.out.mono ?_; rintro e w' ⟨rfl, rfl⟩)
      go_ret2
      refine ⟨_, rfl, lit_bys w _ _ HL.out ?_ (by simp), (Below.refl _ _).alloc (Nat.le_refl _) _⟩
      have := Hr.out
      have e0 := of_decide_eq_false d0
      have e1 := of_decide_eq_true d1
      simp only [List.map_cons, List.map_nil, List.cons.injEq, Value.int.injEq, true_and, and_true]
      omega
    · by_cases c : n < 65536
      · have hN : encN n = [224 + n / 4096, 128 + n / 64 % 64, 128 + n % 64] := by unfold encN; rw [if_neg a, if_neg b, if_pos c]
        rw [hN] at HL ⊢
        clear hN
        have d0 : decide ((n : Int) < 128) = false := decide_eq_false (by omega)
        have d1 : decide ((n : Int) < 2048) = false := decide_eq_false (by omega)
        have d2 : decide ((n : Int) < 65536) = true := decide_eq_true (by omega)
        have Hr := Lib.hid h2
        clear a b c
        go_enter Tryd.func10, Tryd.ntmps10
        go_wp2_with (go_at_call 35; refine HI.out.mono ?_; rintro e w' ⟨rfl, rfl⟩)
        go_ret2
        refine ⟨_, rfl, lit_bys w _ _ HL.out ?_ (by simp), (Below.refl _ _).alloc (Nat.le_refl _) _⟩
        have := Hr.out
        have e0 := of_decide_eq_false d0
        have e1 := of_decide_eq_false d1
        have e2 := of_decide_eq_true d2
        simp only [List.map_cons, List.map_nil, List.cons.injEq, Value.int.injEq, true_and, and_true]
        omega
      · have hN : encN n = [240 + n / 262144, 128 + n / 4096 % 64, 128 + n / 64 % 64, 128 + n % 64] := by unfold encN; rw [if_neg a, if_neg b, if_neg c]
        rw [hN] at HL ⊢
        clear hN
        have d0 : decide ((n : Int) < 128) = false := decide_eq_false (by omega)
        have d1 : decide ((n : Int) < 2048) = false := decide_eq_false (by omega)
        have d2 : decide ((n : Int) < 65536) = false := decide_eq_false (by omega)
        have Hr := Lib.hid h2
        clear a b c
        go_enter Tryd.func10, Tryd.ntmps10
        go_wp2_with (go_at_call 35; refine HI.out.mono ?_; rintro e w' ⟨rfl, rfl⟩)
        go_ret2
        refine ⟨_, rfl, lit_bys w _ _ HL.out ?_ (by simp), (Below.refl _ _).alloc (Nat.le_refl _) _⟩
        have := Hr.out
        have e0 := of_decide_eq_false d0
        have e1 := of_decide_eq_false d1
        have e2 := of_decide_eq_false d2
        simp only [List.map_cons, List.map_nil, List.cons.injEq, Value.int.injEq, true_and, and_true]
        omega

set_option maxHeartbeats 400000 in
theorem refEncode_any (r : Int) (w : World) :
    Calls Tryd.prog 10 #[.int .i64 r] w fun e w' => ∃ v, e = .returned (.tuple #[v, .int .i64 (encE r)]) ∧ Bys w' w.heap.size v (encB r) ∧ Below w.heap.size w w' := by
  cases h : isR r
  · have HI := Lib.hid (rIs_any r w)
    rw [h] at HI
    have hB : encB r = [] := if_neg (by rw [h]; decide)
    rw [encE_no r h, hB]
    clear h hB
    go_enter Tryd.func10, Tryd.ntmps10
    go_wp2_with (go_at_call 35; refine HI.out.mono ?_; rintro e w' ⟨rfl, rfl⟩)
    go_ret2
    exact ⟨_, rfl, World.ownsRow_nil _ _ _ _, Below.refl _ _⟩
  · have h0 : 0 ≤ r := by simp [isR] at h; omega
    obtain ⟨n, rfl⟩ : ∃ n : Nat, r = n := ⟨r.toNat, by omega⟩
    rw [encE_ok _ h, encB_ok _ h, Int.toNat_natCast]
    exact refEncode_ok n w h
end Go.Proofs.YtomffjaeafcpdaaDoor
