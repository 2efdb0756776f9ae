/- The reference's Decode. -/
import Derived.Test.YtomffjaeafcpdaaDoorRfU
namespace Go.Proofs.YtomffjaeafcpdaaDoor
open Go.RowKit

theorem tk_ne {m : List UInt8} {n : Nat} (h : 1 ≤ n ∧ 1 ≤ m.length) : m.take n ≠ [] := by
  intro e
  have := congrArg List.length e
  rw [List.length_take, List.length_nil] at this
  omega
set_option maxRecDepth 100000
set_option maxHeartbeats 1000000 in
theorem rdecode_out (l : List UInt8) (v : Value) (k : Int) (w : World) (hv : RdB w.heap.size w v l) (hk : k < 0 ∨ (l.length : Int) ≤ k) :
    Calls Tryd.prog 8 #[v, .int .i64 k] w fun e w' => e = .returned (.tuple #[.int .i64 0, .int .i64 0, .int .i64 7]) ∧ w = w' := by
  obtain ⟨a, cap, rfl, _, _, _⟩ := hv
  rcases hk with hk | hk
  · go_enter Tryd.func8, Tryd.ntmps8
    go_wp2
    go_ret3
    exact ⟨rfl, rfl⟩
  · by_cases h0 : k < 0
    · go_enter Tryd.func8, Tryd.ntmps8
      go_wp2
      go_ret3
      exact ⟨rfl, rfl⟩
    · go_enter Tryd.func8, Tryd.ntmps8
      go_wp2
      go_ret3
      exact ⟨rfl, rfl⟩
set_option maxHeartbeats 4000000 in
theorem rdecode_ok1 (blk off cap n k : Nat) (m : List UInt8) (w : World) (hk : k < n) (hcap : n ≤ cap) (hn : n ≤ 1000000) (hm : m.length = n - k) (hv : RdB w.heap.size w (.slice (some ⟨blk, off + k, none⟩) (n - k) (cap - k)) m) (hK : 1 ≤ m.length) (s1 : stB (m.take 1) = true) (r : Int) (hr : stV (m.take 1) = r) :
    Calls Tryd.prog 8 #[.slice (some ⟨blk, off, none⟩) n cap, .int .i64 (k : Int)] w fun e w' => e = .returned (.tuple #[.int .i64 r, .int .i64 1, .int .i64 0]) ∧ Below w.heap.size w w' := by
  have h0 : ¬ (k : Int) < 0 := by omega
  have h1 : ¬ (n : Int) ≤ (k : Int) := by omega
  have hkc : ¬ cap = k := by omega
  have hne : m ≠ [] := by intro e; rw [e] at hm; simp at hm; omega
  have HV := Lib.hid hv
  have k1 : (k : Int) ≤ 1000000 := by omega
  have n1 : (n : Int) ≤ 1000000 := by omega
  have e1 : decide ((k : Int) + 1 ≤ (n : Int)) = true := decide_eq_true (by omega)
  have z1 : (k : Int) + 1 ≤ (cap : Int) := by omega
  have HS1 : Hid (∀ W, Below w.heap.size w W → Calls Tryd.prog 31 #[.slice (some ⟨blk, off + k, none⟩) 1 (cap - k)] W fun e w' => e = .returned (.tuple #[.int .i64 (stV (m.take 1)), .bool true]) ∧ Below W.heap.size W w') := fun W hW => by have := stands_any _ (m.take 1) W ((HV.out.next hW).takeB 1 (by omega)) (tk_ne (by omega)) (by rw [List.length_take]; omega); rwa [s1] at this
  rw [hr] at HS1
  have hkn : (k : Int) < (n : Int) := by omega
  have hnc : (n : Int) ≤ (cap : Int) := by omega
  clear hm hv hne hK s1 hr
  have HB := Lib.hid (Below.refl w.heap.size w)
  go_enter Tryd.func8, Tryd.ntmps8
  go_wp2_with fail
  refine wp_loop_rounds 6 ?_
  rw [rounds_succ]
  go_wp2_with (go_at_call 31; refine (HS1.out _ HB.out).mono ?_; rintro e w1 ⟨rfl, hb⟩; have HB2 := Lib.hid (HB.out.trans (hb.mono HB.out.size)); clear hb HB; have HB := HB2; clear HB2)
  go_ret3
  exact ⟨rfl, HB.out⟩
set_option maxHeartbeats 4000000 in
theorem rdecode_ok2 (blk off cap n k : Nat) (m : List UInt8) (w : World) (hk : k < n) (hcap : n ≤ cap) (hn : n ≤ 1000000) (hm : m.length = n - k) (hv : RdB w.heap.size w (.slice (some ⟨blk, off + k, none⟩) (n - k) (cap - k)) m) (hK : 2 ≤ m.length) (s1 : stB (m.take 1) = false) (s2 : stB (m.take 2) = true) (r : Int) (hr : stV (m.take 2) = r) :
    Calls Tryd.prog 8 #[.slice (some ⟨blk, off, none⟩) n cap, .int .i64 (k : Int)] w fun e w' => e = .returned (.tuple #[.int .i64 r, .int .i64 2, .int .i64 0]) ∧ Below w.heap.size w w' := by
  have h0 : ¬ (k : Int) < 0 := by omega
  have h1 : ¬ (n : Int) ≤ (k : Int) := by omega
  have hkc : ¬ cap = k := by omega
  have hne : m ≠ [] := by intro e; rw [e] at hm; simp at hm; omega
  have HV := Lib.hid hv
  have k1 : (k : Int) ≤ 1000000 := by omega
  have n1 : (n : Int) ≤ 1000000 := by omega
  have e1 : decide ((k : Int) + 1 ≤ (n : Int)) = true := decide_eq_true (by omega)
  have z1 : (k : Int) + 1 ≤ (cap : Int) := by omega
  have HS1 : Hid (∀ W, Below w.heap.size w W → Calls Tryd.prog 31 #[.slice (some ⟨blk, off + k, none⟩) 1 (cap - k)] W fun e w' => e = .returned (.tuple #[.int .i64 (stV (m.take 1)), .bool false]) ∧ Below W.heap.size W w') := fun W hW => by have := stands_any _ (m.take 1) W ((HV.out.next hW).takeB 1 (by omega)) (tk_ne (by omega)) (by rw [List.length_take]; omega); rwa [s1] at this
  have e2 : decide ((k : Int) + 2 ≤ (n : Int)) = true := decide_eq_true (by omega)
  have z2 : (k : Int) + 2 ≤ (cap : Int) := by omega
  have HS2 : Hid (∀ W, Below w.heap.size w W → Calls Tryd.prog 31 #[.slice (some ⟨blk, off + k, none⟩) 2 (cap - k)] W fun e w' => e = .returned (.tuple #[.int .i64 (stV (m.take 2)), .bool true]) ∧ Below W.heap.size W w') := fun W hW => by have := stands_any _ (m.take 2) W ((HV.out.next hW).takeB 2 (by omega)) (tk_ne (by omega)) (by rw [List.length_take]; omega); rwa [s2] at this
  rw [hr] at HS2
  have hkn : (k : Int) < (n : Int) := by omega
  have hnc : (n : Int) ≤ (cap : Int) := by omega
  clear hm hv hne hK s1 s2 hr
  have HB := Lib.hid (Below.refl w.heap.size w)
  go_enter Tryd.func8, Tryd.ntmps8
  go_wp2_with fail
  refine wp_loop_rounds 6 ?_
  rw [rounds_succ]
  go_wp2_with (go_at_call 31; refine (HS1.out _ HB.out).mono ?_; rintro e w1 ⟨rfl, hb⟩; have HB2 := Lib.hid (HB.out.trans (hb.mono HB.out.size)); clear hb HB; have HB := HB2; clear HB2)
  rw [rounds_succ]
  go_wp2_with (go_at_call 31; refine (HS2.out _ HB.out).mono ?_; rintro e w2 ⟨rfl, hb⟩; have HB2 := Lib.hid (HB.out.trans (hb.mono HB.out.size)); clear hb HB; have HB := HB2; clear HB2)
  go_ret3
  exact ⟨rfl, HB.out⟩
set_option maxHeartbeats 4000000 in
theorem rdecode_ok3 (blk off cap n k : Nat) (m : List UInt8) (w : World) (hk : k < n) (hcap : n ≤ cap) (hn : n ≤ 1000000) (hm : m.length = n - k) (hv : RdB w.heap.size w (.slice (some ⟨blk, off + k, none⟩) (n - k) (cap - k)) m) (hK : 3 ≤ m.length) (s1 : stB (m.take 1) = false) (s2 : stB (m.take 2) = false) (s3 : stB (m.take 3) = true) (r : Int) (hr : stV (m.take 3) = r) :
    Calls Tryd.prog 8 #[.slice (some ⟨blk, off, none⟩) n cap, .int .i64 (k : Int)] w fun e w' => e = .returned (.tuple #[.int .i64 r, .int .i64 3, .int .i64 0]) ∧ Below w.heap.size w w' := by
  have h0 : ¬ (k : Int) < 0 := by omega
  have h1 : ¬ (n : Int) ≤ (k : Int) := by omega
  have hkc : ¬ cap = k := by omega
  have hne : m ≠ [] := by intro e; rw [e] at hm; simp at hm; omega
  have HV := Lib.hid hv
  have k1 : (k : Int) ≤ 1000000 := by omega
  have n1 : (n : Int) ≤ 1000000 := by omega
  have e1 : decide ((k : Int) + 1 ≤ (n : Int)) = true := decide_eq_true (by omega)
  have z1 : (k : Int) + 1 ≤ (cap : Int) := by omega
  have HS1 : Hid (∀ W, Below w.heap.size w W → Calls Tryd.prog 31 #[.slice (some ⟨blk, off + k, none⟩) 1 (cap - k)] W fun e w' => e = .returned (.tuple #[.int .i64 (stV (m.take 1)), .bool false]) ∧ Below W.heap.size W w') := fun W hW => by have := stands_any _ (m.take 1) W ((HV.out.next hW).takeB 1 (by omega)) (tk_ne (by omega)) (by rw [List.length_take]; omega); rwa [s1] at this
  have e2 : decide ((k : Int) + 2 ≤ (n : Int)) = true := decide_eq_true (by omega)
  have z2 : (k : Int) + 2 ≤ (cap : Int) := by omega
  have HS2 : Hid (∀ W, Below w.heap.size w W → Calls Tryd.prog 31 #[.slice (some ⟨blk, off + k, none⟩) 2 (cap - k)] W fun e w' => e = .returned (.tuple #[.int .i64 (stV (m.take 2)), .bool false]) ∧ Below W.heap.size W w') := fun W hW => by have := stands_any _ (m.take 2) W ((HV.out.next hW).takeB 2 (by omega)) (tk_ne (by omega)) (by rw [List.length_take]; omega); rwa [s2] at this
  have e3 : decide ((k : Int) + 3 ≤ (n : Int)) = true := decide_eq_true (by omega)
  have z3 : (k : Int) + 3 ≤ (cap : Int) := by omega
  have HS3 : Hid (∀ W, Below w.heap.size w W → Calls Tryd.prog 31 #[.slice (some ⟨blk, off + k, none⟩) 3 (cap - k)] W fun e w' => e = .returned (.tuple #[.int .i64 (stV (m.take 3)), .bool true]) ∧ Below W.heap.size W w') := fun W hW => by have := stands_any _ (m.take 3) W ((HV.out.next hW).takeB 3 (by omega)) (tk_ne (by omega)) (by rw [List.length_take]; omega); rwa [s3] at this
  rw [hr] at HS3
  have hkn : (k : Int) < (n : Int) := by omega
  have hnc : (n : Int) ≤ (cap : Int) := by omega
  clear hm hv hne hK s1 s2 s3 hr
  have HB := Lib.hid (Below.refl w.heap.size w)
  go_enter Tryd.func8, Tryd.ntmps8
  go_wp2_with fail
  refine wp_loop_rounds 6 ?_
  rw [rounds_succ]
  go_wp2_with (go_at_call 31; refine (HS1.out _ HB.out).mono ?_; rintro e w1 ⟨rfl, hb⟩; have HB2 := Lib.hid (HB.out.trans (hb.mono HB.out.size)); clear hb HB; have HB := HB2; clear HB2)
  rw [rounds_succ]
  go_wp2_with (go_at_call 31; refine (HS2.out _ HB.out).mono ?_; rintro e w2 ⟨rfl, hb⟩; have HB2 := Lib.hid (HB.out.trans (hb.mono HB.out.size)); clear hb HB; have HB := HB2; clear HB2)
  rw [rounds_succ]
  go_wp2_with (go_at_call 31; refine (HS3.out _ HB.out).mono ?_; rintro e w3 ⟨rfl, hb⟩; have HB2 := Lib.hid (HB.out.trans (hb.mono HB.out.size)); clear hb HB; have HB := HB2; clear HB2)
  go_ret3
  exact ⟨rfl, HB.out⟩
set_option maxHeartbeats 4000000 in
theorem rdecode_ok4 (blk off cap n k : Nat) (m : List UInt8) (w : World) (hk : k < n) (hcap : n ≤ cap) (hn : n ≤ 1000000) (hm : m.length = n - k) (hv : RdB w.heap.size w (.slice (some ⟨blk, off + k, none⟩) (n - k) (cap - k)) m) (hK : 4 ≤ m.length) (s1 : stB (m.take 1) = false) (s2 : stB (m.take 2) = false) (s3 : stB (m.take 3) = false) (s4 : stB (m.take 4) = true) (r : Int) (hr : stV (m.take 4) = r) :
    Calls Tryd.prog 8 #[.slice (some ⟨blk, off, none⟩) n cap, .int .i64 (k : Int)] w fun e w' => e = .returned (.tuple #[.int .i64 r, .int .i64 4, .int .i64 0]) ∧ Below w.heap.size w w' := by
  have h0 : ¬ (k : Int) < 0 := by omega
  have h1 : ¬ (n : Int) ≤ (k : Int) := by omega
  have hkc : ¬ cap = k := by omega
  have hne : m ≠ [] := by intro e; rw [e] at hm; simp at hm; omega
  have HV := Lib.hid hv
  have k1 : (k : Int) ≤ 1000000 := by omega
  have n1 : (n : Int) ≤ 1000000 := by omega
  have e1 : decide ((k : Int) + 1 ≤ (n : Int)) = true := decide_eq_true (by omega)
  have z1 : (k : Int) + 1 ≤ (cap : Int) := by omega
  have HS1 : Hid (∀ W, Below w.heap.size w W → Calls Tryd.prog 31 #[.slice (some ⟨blk, off + k, none⟩) 1 (cap - k)] W fun e w' => e = .returned (.tuple #[.int .i64 (stV (m.take 1)), .bool false]) ∧ Below W.heap.size W w') := fun W hW => by have := stands_any _ (m.take 1) W ((HV.out.next hW).takeB 1 (by omega)) (tk_ne (by omega)) (by rw [List.length_take]; omega); rwa [s1] at this
  have e2 : decide ((k : Int) + 2 ≤ (n : Int)) = true := decide_eq_true (by omega)
  have z2 : (k : Int) + 2 ≤ (cap : Int) := by omega
  have HS2 : Hid (∀ W, Below w.heap.size w W → Calls Tryd.prog 31 #[.slice (some ⟨blk, off + k, none⟩) 2 (cap - k)] W fun e w' => e = .returned (.tuple #[.int .i64 (stV (m.take 2)), .bool false]) ∧ Below W.heap.size W w') := fun W hW => by have := stands_any _ (m.take 2) W ((HV.out.next hW).takeB 2 (by omega)) (tk_ne (by omega)) (by rw [List.length_take]; omega); rwa [s2] at this
  have e3 : decide ((k : Int) + 3 ≤ (n : Int)) = true := decide_eq_true (by omega)
  have z3 : (k : Int) + 3 ≤ (cap : Int) := by omega
  have HS3 : Hid (∀ W, Below w.heap.size w W → Calls Tryd.prog 31 #[.slice (some ⟨blk, off + k, none⟩) 3 (cap - k)] W fun e w' => e = .returned (.tuple #[.int .i64 (stV (m.take 3)), .bool false]) ∧ Below W.heap.size W w') := fun W hW => by have := stands_any _ (m.take 3) W ((HV.out.next hW).takeB 3 (by omega)) (tk_ne (by omega)) (by rw [List.length_take]; omega); rwa [s3] at this
  have e4 : decide ((k : Int) + 4 ≤ (n : Int)) = true := decide_eq_true (by omega)
  have z4 : (k : Int) + 4 ≤ (cap : Int) := by omega
  have HS4 : Hid (∀ W, Below w.heap.size w W → Calls Tryd.prog 31 #[.slice (some ⟨blk, off + k, none⟩) 4 (cap - k)] W fun e w' => e = .returned (.tuple #[.int .i64 (stV (m.take 4)), .bool true]) ∧ Below W.heap.size W w') := fun W hW => by have := stands_any _ (m.take 4) W ((HV.out.next hW).takeB 4 (by omega)) (tk_ne (by omega)) (by rw [List.length_take]; omega); rwa [s4] at this
  rw [hr] at HS4
  have hkn : (k : Int) < (n : Int) := by omega
  have hnc : (n : Int) ≤ (cap : Int) := by omega
  clear hm hv hne hK s1 s2 s3 s4 hr
  have HB := Lib.hid (Below.refl w.heap.size w)
  go_enter Tryd.func8, Tryd.ntmps8
  go_wp2_with fail
  refine wp_loop_rounds 6 ?_
  rw [rounds_succ]
  go_wp2_with (go_at_call 31; refine (HS1.out _ HB.out).mono ?_; rintro e w1 ⟨rfl, hb⟩; have HB2 := Lib.hid (HB.out.trans (hb.mono HB.out.size)); clear hb HB; have HB := HB2; clear HB2)
  rw [rounds_succ]
  go_wp2_with (go_at_call 31; refine (HS2.out _ HB.out).mono ?_; rintro e w2 ⟨rfl, hb⟩; have HB2 := Lib.hid (HB.out.trans (hb.mono HB.out.size)); clear hb HB; have HB := HB2; clear HB2)
  rw [rounds_succ]
  go_wp2_with (go_at_call 31; refine (HS3.out _ HB.out).mono ?_; rintro e w3 ⟨rfl, hb⟩; have HB2 := Lib.hid (HB.out.trans (hb.mono HB.out.size)); clear hb HB; have HB := HB2; clear HB2)
  rw [rounds_succ]
  go_wp2_with (go_at_call 31; refine (HS4.out _ HB.out).mono ?_; rintro e w4 ⟨rfl, hb⟩; have HB2 := Lib.hid (HB.out.trans (hb.mono HB.out.size)); clear hb HB; have HB := HB2; clear HB2)
  go_ret3
  exact ⟨rfl, HB.out⟩
set_option maxHeartbeats 4000000 in
theorem rdecode_no1t (blk off cap n k : Nat) (m : List UInt8) (w : World) (hk : k < n) (hcap : n ≤ cap) (hn : n ≤ 1000000) (hm : m.length = n - k) (hv : RdB w.heap.size w (.slice (some ⟨blk, off + k, none⟩) (n - k) (cap - k)) m) (hK : m.length = 1) (s1 : stB (m.take 1) = false) (sb : bgB m = true) :
    Calls Tryd.prog 8 #[.slice (some ⟨blk, off, none⟩) n cap, .int .i64 (k : Int)] w fun e w' => e = .returned (.tuple #[.int .i64 0, .int .i64 0, .int .i64 370]) ∧ Below w.heap.size w w' := by
  have h0 : ¬ (k : Int) < 0 := by omega
  have h1 : ¬ (n : Int) ≤ (k : Int) := by omega
  have hkc : ¬ cap = k := by omega
  have hne : m ≠ [] := by intro e; rw [e] at hm; simp at hm; omega
  have HV := Lib.hid hv
  have k1 : (k : Int) ≤ 1000000 := by omega
  have n1 : (n : Int) ≤ 1000000 := by omega
  have e1 : decide ((k : Int) + 1 ≤ (n : Int)) = true := decide_eq_true (by omega)
  have z1 : (k : Int) + 1 ≤ (cap : Int) := by omega
  have HS1 : Hid (∀ W, Below w.heap.size w W → Calls Tryd.prog 31 #[.slice (some ⟨blk, off + k, none⟩) 1 (cap - k)] W fun e w' => e = .returned (.tuple #[.int .i64 (stV (m.take 1)), .bool false]) ∧ Below W.heap.size W w') := fun W hW => by have := stands_any _ (m.take 1) W ((HV.out.next hW).takeB 1 (by omega)) (tk_ne (by omega)) (by rw [List.length_take]; omega); rwa [s1] at this
  have e2 : decide ((k : Int) + 2 ≤ (n : Int)) = false := decide_eq_false (by omega)
  have HG : Hid (∀ W, Below w.heap.size w W → Calls Tryd.prog 32 #[.slice (some ⟨blk, off + k, none⟩) (n - k) (cap - k)] W fun e w' => e = .returned (.bool true) ∧ Below W.heap.size W w') := fun W hW => by have := begins_any _ m W (HV.out.next hW) hne (by omega); rwa [sb] at this
  have hd : decide ((n : Int) - (k : Int) < 4) = true := decide_eq_true (by omega)
  have hkn : (k : Int) < (n : Int) := by omega
  have hnc : (n : Int) ≤ (cap : Int) := by omega
  clear hm hv hne hK s1 sb
  have HB := Lib.hid (Below.refl w.heap.size w)
  go_enter Tryd.func8, Tryd.ntmps8
  go_wp2_with fail
  refine wp_loop_rounds 6 ?_
  rw [rounds_succ]
  go_wp2_with (go_at_call 31; refine (HS1.out _ HB.out).mono ?_; rintro e w1 ⟨rfl, hb⟩; have HB2 := Lib.hid (HB.out.trans (hb.mono HB.out.size)); clear hb HB; have HB := HB2; clear HB2)
  rw [rounds_succ]
  go_wp2_with (go_at_call 32; refine (HG.out _ HB.out).mono ?_; rintro e wb ⟨rfl, hb⟩; have HB2 := Lib.hid (HB.out.trans (hb.mono HB.out.size)); clear hb HB; have HB := HB2; clear HB2)
  go_ret3
  exact ⟨rfl, HB.out⟩
set_option maxHeartbeats 4000000 in
theorem rdecode_no1f (blk off cap n k : Nat) (m : List UInt8) (w : World) (hk : k < n) (hcap : n ≤ cap) (hn : n ≤ 1000000) (hm : m.length = n - k) (hv : RdB w.heap.size w (.slice (some ⟨blk, off + k, none⟩) (n - k) (cap - k)) m) (hK : m.length = 1) (s1 : stB (m.take 1) = false) (sb : bgB m = false) :
    Calls Tryd.prog 8 #[.slice (some ⟨blk, off, none⟩) n cap, .int .i64 (k : Int)] w fun e w' => e = .returned (.tuple #[.int .i64 0, .int .i64 0, .int .i64 6]) ∧ Below w.heap.size w w' := by
  have h0 : ¬ (k : Int) < 0 := by omega
  have h1 : ¬ (n : Int) ≤ (k : Int) := by omega
  have hkc : ¬ cap = k := by omega
  have hne : m ≠ [] := by intro e; rw [e] at hm; simp at hm; omega
  have HV := Lib.hid hv
  have k1 : (k : Int) ≤ 1000000 := by omega
  have n1 : (n : Int) ≤ 1000000 := by omega
  have e1 : decide ((k : Int) + 1 ≤ (n : Int)) = true := decide_eq_true (by omega)
  have z1 : (k : Int) + 1 ≤ (cap : Int) := by omega
  have HS1 : Hid (∀ W, Below w.heap.size w W → Calls Tryd.prog 31 #[.slice (some ⟨blk, off + k, none⟩) 1 (cap - k)] W fun e w' => e = .returned (.tuple #[.int .i64 (stV (m.take 1)), .bool false]) ∧ Below W.heap.size W w') := fun W hW => by have := stands_any _ (m.take 1) W ((HV.out.next hW).takeB 1 (by omega)) (tk_ne (by omega)) (by rw [List.length_take]; omega); rwa [s1] at this
  have e2 : decide ((k : Int) + 2 ≤ (n : Int)) = false := decide_eq_false (by omega)
  have HG : Hid (∀ W, Below w.heap.size w W → Calls Tryd.prog 32 #[.slice (some ⟨blk, off + k, none⟩) (n - k) (cap - k)] W fun e w' => e = .returned (.bool false) ∧ Below W.heap.size W w') := fun W hW => by have := begins_any _ m W (HV.out.next hW) hne (by omega); rwa [sb] at this
  have hd : decide ((n : Int) - (k : Int) < 4) = true := decide_eq_true (by omega)
  have hkn : (k : Int) < (n : Int) := by omega
  have hnc : (n : Int) ≤ (cap : Int) := by omega
  clear hm hv hne hK s1 sb
  have HB := Lib.hid (Below.refl w.heap.size w)
  go_enter Tryd.func8, Tryd.ntmps8
  go_wp2_with fail
  refine wp_loop_rounds 6 ?_
  rw [rounds_succ]
  go_wp2_with (go_at_call 31; refine (HS1.out _ HB.out).mono ?_; rintro e w1 ⟨rfl, hb⟩; have HB2 := Lib.hid (HB.out.trans (hb.mono HB.out.size)); clear hb HB; have HB := HB2; clear HB2)
  rw [rounds_succ]
  go_wp2_with (go_at_call 32; refine (HG.out _ HB.out).mono ?_; rintro e wb ⟨rfl, hb⟩; have HB2 := Lib.hid (HB.out.trans (hb.mono HB.out.size)); clear hb HB; have HB := HB2; clear HB2)
  go_ret3
  exact ⟨rfl, HB.out⟩
set_option maxHeartbeats 4000000 in
theorem rdecode_no2t (blk off cap n k : Nat) (m : List UInt8) (w : World) (hk : k < n) (hcap : n ≤ cap) (hn : n ≤ 1000000) (hm : m.length = n - k) (hv : RdB w.heap.size w (.slice (some ⟨blk, off + k, none⟩) (n - k) (cap - k)) m) (hK : m.length = 2) (s1 : stB (m.take 1) = false) (s2 : stB (m.take 2) = false) (sb : bgB m = true) :
    Calls Tryd.prog 8 #[.slice (some ⟨blk, off, none⟩) n cap, .int .i64 (k : Int)] w fun e w' => e = .returned (.tuple #[.int .i64 0, .int .i64 0, .int .i64 370]) ∧ Below w.heap.size w w' := by
  have h0 : ¬ (k : Int) < 0 := by omega
  have h1 : ¬ (n : Int) ≤ (k : Int) := by omega
  have hkc : ¬ cap = k := by omega
  have hne : m ≠ [] := by intro e; rw [e] at hm; simp at hm; omega
  have HV := Lib.hid hv
  have k1 : (k : Int) ≤ 1000000 := by omega
  have n1 : (n : Int) ≤ 1000000 := by omega
  have e1 : decide ((k : Int) + 1 ≤ (n : Int)) = true := decide_eq_true (by omega)
  have z1 : (k : Int) + 1 ≤ (cap : Int) := by omega
  have HS1 : Hid (∀ W, Below w.heap.size w W → Calls Tryd.prog 31 #[.slice (some ⟨blk, off + k, none⟩) 1 (cap - k)] W fun e w' => e = .returned (.tuple #[.int .i64 (stV (m.take 1)), .bool false]) ∧ Below W.heap.size W w') := fun W hW => by have := stands_any _ (m.take 1) W ((HV.out.next hW).takeB 1 (by omega)) (tk_ne (by omega)) (by rw [List.length_take]; omega); rwa [s1] at this
  have e2 : decide ((k : Int) + 2 ≤ (n : Int)) = true := decide_eq_true (by omega)
  have z2 : (k : Int) + 2 ≤ (cap : Int) := by omega
  have HS2 : Hid (∀ W, Below w.heap.size w W → Calls Tryd.prog 31 #[.slice (some ⟨blk, off + k, none⟩) 2 (cap - k)] W fun e w' => e = .returned (.tuple #[.int .i64 (stV (m.take 2)), .bool false]) ∧ Below W.heap.size W w') := fun W hW => by have := stands_any _ (m.take 2) W ((HV.out.next hW).takeB 2 (by omega)) (tk_ne (by omega)) (by rw [List.length_take]; omega); rwa [s2] at this
  have e3 : decide ((k : Int) + 3 ≤ (n : Int)) = false := decide_eq_false (by omega)
  have HG : Hid (∀ W, Below w.heap.size w W → Calls Tryd.prog 32 #[.slice (some ⟨blk, off + k, none⟩) (n - k) (cap - k)] W fun e w' => e = .returned (.bool true) ∧ Below W.heap.size W w') := fun W hW => by have := begins_any _ m W (HV.out.next hW) hne (by omega); rwa [sb] at this
  have hd : decide ((n : Int) - (k : Int) < 4) = true := decide_eq_true (by omega)
  have hkn : (k : Int) < (n : Int) := by omega
  have hnc : (n : Int) ≤ (cap : Int) := by omega
  clear hm hv hne hK s1 s2 sb
  have HB := Lib.hid (Below.refl w.heap.size w)
  go_enter Tryd.func8, Tryd.ntmps8
  go_wp2_with fail
  refine wp_loop_rounds 6 ?_
  rw [rounds_succ]
  go_wp2_with (go_at_call 31; refine (HS1.out _ HB.out).mono ?_; rintro e w1 ⟨rfl, hb⟩; have HB2 := Lib.hid (HB.out.trans (hb.mono HB.out.size)); clear hb HB; have HB := HB2; clear HB2)
  rw [rounds_succ]
  go_wp2_with (go_at_call 31; refine (HS2.out _ HB.out).mono ?_; rintro e w2 ⟨rfl, hb⟩; have HB2 := Lib.hid (HB.out.trans (hb.mono HB.out.size)); clear hb HB; have HB := HB2; clear HB2)
  rw [rounds_succ]
  go_wp2_with (go_at_call 32; refine (HG.out _ HB.out).mono ?_; rintro e wb ⟨rfl, hb⟩; have HB2 := Lib.hid (HB.out.trans (hb.mono HB.out.size)); clear hb HB; have HB := HB2; clear HB2)
  go_ret3
  exact ⟨rfl, HB.out⟩
set_option maxHeartbeats 4000000 in
theorem rdecode_no2f (blk off cap n k : Nat) (m : List UInt8) (w : World) (hk : k < n) (hcap : n ≤ cap) (hn : n ≤ 1000000) (hm : m.length = n - k) (hv : RdB w.heap.size w (.slice (some ⟨blk, off + k, none⟩) (n - k) (cap - k)) m) (hK : m.length = 2) (s1 : stB (m.take 1) = false) (s2 : stB (m.take 2) = false) (sb : bgB m = false) :
    Calls Tryd.prog 8 #[.slice (some ⟨blk, off, none⟩) n cap, .int .i64 (k : Int)] w fun e w' => e = .returned (.tuple #[.int .i64 0, .int .i64 0, .int .i64 6]) ∧ Below w.heap.size w w' := by
  have h0 : ¬ (k : Int) < 0 := by omega
  have h1 : ¬ (n : Int) ≤ (k : Int) := by omega
  have hkc : ¬ cap = k := by omega
  have hne : m ≠ [] := by intro e; rw [e] at hm; simp at hm; omega
  have HV := Lib.hid hv
  have k1 : (k : Int) ≤ 1000000 := by omega
  have n1 : (n : Int) ≤ 1000000 := by omega
  have e1 : decide ((k : Int) + 1 ≤ (n : Int)) = true := decide_eq_true (by omega)
  have z1 : (k : Int) + 1 ≤ (cap : Int) := by omega
  have HS1 : Hid (∀ W, Below w.heap.size w W → Calls Tryd.prog 31 #[.slice (some ⟨blk, off + k, none⟩) 1 (cap - k)] W fun e w' => e = .returned (.tuple #[.int .i64 (stV (m.take 1)), .bool false]) ∧ Below W.heap.size W w') := fun W hW => by have := stands_any _ (m.take 1) W ((HV.out.next hW).takeB 1 (by omega)) (tk_ne (by omega)) (by rw [List.length_take]; omega); rwa [s1] at this
  have e2 : decide ((k : Int) + 2 ≤ (n : Int)) = true := decide_eq_true (by omega)
  have z2 : (k : Int) + 2 ≤ (cap : Int) := by omega
  have HS2 : Hid (∀ W, Below w.heap.size w W → Calls Tryd.prog 31 #[.slice (some ⟨blk, off + k, none⟩) 2 (cap - k)] W fun e w' => e = .returned (.tuple #[.int .i64 (stV (m.take 2)), .bool false]) ∧ Below W.heap.size W w') := fun W hW => by have := stands_any _ (m.take 2) W ((HV.out.next hW).takeB 2 (by omega)) (tk_ne (by omega)) (by rw [List.length_take]; omega); rwa [s2] at this
  have e3 : decide ((k : Int) + 3 ≤ (n : Int)) = false := decide_eq_false (by omega)
  have HG : Hid (∀ W, Below w.heap.size w W → Calls Tryd.prog 32 #[.slice (some ⟨blk, off + k, none⟩) (n - k) (cap - k)] W fun e w' => e = .returned (.bool false) ∧ Below W.heap.size W w') := fun W hW => by have := begins_any _ m W (HV.out.next hW) hne (by omega); rwa [sb] at this
  have hd : decide ((n : Int) - (k : Int) < 4) = true := decide_eq_true (by omega)
  have hkn : (k : Int) < (n : Int) := by omega
  have hnc : (n : Int) ≤ (cap : Int) := by omega
  clear hm hv hne hK s1 s2 sb
  have HB := Lib.hid (Below.refl w.heap.size w)
  go_enter Tryd.func8, Tryd.ntmps8
  go_wp2_with fail
  refine wp_loop_rounds 6 ?_
  rw [rounds_succ]
  go_wp2_with (go_at_call 31; refine (HS1.out _ HB.out).mono ?_; rintro e w1 ⟨rfl, hb⟩; have HB2 := Lib.hid (HB.out.trans (hb.mono HB.out.size)); clear hb HB; have HB := HB2; clear HB2)
  rw [rounds_succ]
  go_wp2_with (go_at_call 31; refine (HS2.out _ HB.out).mono ?_; rintro e w2 ⟨rfl, hb⟩; have HB2 := Lib.hid (HB.out.trans (hb.mono HB.out.size)); clear hb HB; have HB := HB2; clear HB2)
  rw [rounds_succ]
  go_wp2_with (go_at_call 32; refine (HG.out _ HB.out).mono ?_; rintro e wb ⟨rfl, hb⟩; have HB2 := Lib.hid (HB.out.trans (hb.mono HB.out.size)); clear hb HB; have HB := HB2; clear HB2)
  go_ret3
  exact ⟨rfl, HB.out⟩
set_option maxHeartbeats 4000000 in
theorem rdecode_no3t (blk off cap n k : Nat) (m : List UInt8) (w : World) (hk : k < n) (hcap : n ≤ cap) (hn : n ≤ 1000000) (hm : m.length = n - k) (hv : RdB w.heap.size w (.slice (some ⟨blk, off + k, none⟩) (n - k) (cap - k)) m) (hK : m.length = 3) (s1 : stB (m.take 1) = false) (s2 : stB (m.take 2) = false) (s3 : stB (m.take 3) = false) (sb : bgB m = true) :
    Calls Tryd.prog 8 #[.slice (some ⟨blk, off, none⟩) n cap, .int .i64 (k : Int)] w fun e w' => e = .returned (.tuple #[.int .i64 0, .int .i64 0, .int .i64 370]) ∧ Below w.heap.size w w' := by
  have h0 : ¬ (k : Int) < 0 := by omega
  have h1 : ¬ (n : Int) ≤ (k : Int) := by omega
  have hkc : ¬ cap = k := by omega
  have hne : m ≠ [] := by intro e; rw [e] at hm; simp at hm; omega
  have HV := Lib.hid hv
  have k1 : (k : Int) ≤ 1000000 := by omega
  have n1 : (n : Int) ≤ 1000000 := by omega
  have e1 : decide ((k : Int) + 1 ≤ (n : Int)) = true := decide_eq_true (by omega)
  have z1 : (k : Int) + 1 ≤ (cap : Int) := by omega
  have HS1 : Hid (∀ W, Below w.heap.size w W → Calls Tryd.prog 31 #[.slice (some ⟨blk, off + k, none⟩) 1 (cap - k)] W fun e w' => e = .returned (.tuple #[.int .i64 (stV (m.take 1)), .bool false]) ∧ Below W.heap.size W w') := fun W hW => by have := stands_any _ (m.take 1) W ((HV.out.next hW).takeB 1 (by omega)) (tk_ne (by omega)) (by rw [List.length_take]; omega); rwa [s1] at this
  have e2 : decide ((k : Int) + 2 ≤ (n : Int)) = true := decide_eq_true (by omega)
  have z2 : (k : Int) + 2 ≤ (cap : Int) := by omega
  have HS2 : Hid (∀ W, Below w.heap.size w W → Calls Tryd.prog 31 #[.slice (some ⟨blk, off + k, none⟩) 2 (cap - k)] W fun e w' => e = .returned (.tuple #[.int .i64 (stV (m.take 2)), .bool false]) ∧ Below W.heap.size W w') := fun W hW => by have := stands_any _ (m.take 2) W ((HV.out.next hW).takeB 2 (by omega)) (tk_ne (by omega)) (by rw [List.length_take]; omega); rwa [s2] at this
  have e3 : decide ((k : Int) + 3 ≤ (n : Int)) = true := decide_eq_true (by omega)
  have z3 : (k : Int) + 3 ≤ (cap : Int) := by omega
  have HS3 : Hid (∀ W, Below w.heap.size w W → Calls Tryd.prog 31 #[.slice (some ⟨blk, off + k, none⟩) 3 (cap - k)] W fun e w' => e = .returned (.tuple #[.int .i64 (stV (m.take 3)), .bool false]) ∧ Below W.heap.size W w') := fun W hW => by have := stands_any _ (m.take 3) W ((HV.out.next hW).takeB 3 (by omega)) (tk_ne (by omega)) (by rw [List.length_take]; omega); rwa [s3] at this
  have e4 : decide ((k : Int) + 4 ≤ (n : Int)) = false := decide_eq_false (by omega)
  have HG : Hid (∀ W, Below w.heap.size w W → Calls Tryd.prog 32 #[.slice (some ⟨blk, off + k, none⟩) (n - k) (cap - k)] W fun e w' => e = .returned (.bool true) ∧ Below W.heap.size W w') := fun W hW => by have := begins_any _ m W (HV.out.next hW) hne (by omega); rwa [sb] at this
  have hd : decide ((n : Int) - (k : Int) < 4) = true := decide_eq_true (by omega)
  have hkn : (k : Int) < (n : Int) := by omega
  have hnc : (n : Int) ≤ (cap : Int) := by omega
  clear hm hv hne hK s1 s2 s3 sb
  have HB := Lib.hid (Below.refl w.heap.size w)
  go_enter Tryd.func8, Tryd.ntmps8
  go_wp2_with fail
  refine wp_loop_rounds 6 ?_
  rw [rounds_succ]
  go_wp2_with (go_at_call 31; refine (HS1.out _ HB.out).mono ?_; rintro e w1 ⟨rfl, hb⟩; have HB2 := Lib.hid (HB.out.trans (hb.mono HB.out.size)); clear hb HB; have HB := HB2; clear HB2)
  rw [rounds_succ]
  go_wp2_with (go_at_call 31; refine (HS2.out _ HB.out).mono ?_; rintro e w2 ⟨rfl, hb⟩; have HB2 := Lib.hid (HB.out.trans (hb.mono HB.out.size)); clear hb HB; have HB := HB2; clear HB2)
  rw [rounds_succ]
  go_wp2_with (go_at_call 31; refine (HS3.out _ HB.out).mono ?_; rintro e w3 ⟨rfl, hb⟩; have HB2 := Lib.hid (HB.out.trans (hb.mono HB.out.size)); clear hb HB; have HB := HB2; clear HB2)
  rw [rounds_succ]
  go_wp2_with (go_at_call 32; refine (HG.out _ HB.out).mono ?_; rintro e wb ⟨rfl, hb⟩; have HB2 := Lib.hid (HB.out.trans (hb.mono HB.out.size)); clear hb HB; have HB := HB2; clear HB2)
  go_ret3
  exact ⟨rfl, HB.out⟩
set_option maxHeartbeats 4000000 in
theorem rdecode_no3f (blk off cap n k : Nat) (m : List UInt8) (w : World) (hk : k < n) (hcap : n ≤ cap) (hn : n ≤ 1000000) (hm : m.length = n - k) (hv : RdB w.heap.size w (.slice (some ⟨blk, off + k, none⟩) (n - k) (cap - k)) m) (hK : m.length = 3) (s1 : stB (m.take 1) = false) (s2 : stB (m.take 2) = false) (s3 : stB (m.take 3) = false) (sb : bgB m = false) :
    Calls Tryd.prog 8 #[.slice (some ⟨blk, off, none⟩) n cap, .int .i64 (k : Int)] w fun e w' => e = .returned (.tuple #[.int .i64 0, .int .i64 0, .int .i64 6]) ∧ Below w.heap.size w w' := by
  have h0 : ¬ (k : Int) < 0 := by omega
  have h1 : ¬ (n : Int) ≤ (k : Int) := by omega
  have hkc : ¬ cap = k := by omega
  have hne : m ≠ [] := by intro e; rw [e] at hm; simp at hm; omega
  have HV := Lib.hid hv
  have k1 : (k : Int) ≤ 1000000 := by omega
  have n1 : (n : Int) ≤ 1000000 := by omega
  have e1 : decide ((k : Int) + 1 ≤ (n : Int)) = true := decide_eq_true (by omega)
  have z1 : (k : Int) + 1 ≤ (cap : Int) := by omega
  have HS1 : Hid (∀ W, Below w.heap.size w W → Calls Tryd.prog 31 #[.slice (some ⟨blk, off + k, none⟩) 1 (cap - k)] W fun e w' => e = .returned (.tuple #[.int .i64 (stV (m.take 1)), .bool false]) ∧ Below W.heap.size W w') := fun W hW => by have := stands_any _ (m.take 1) W ((HV.out.next hW).takeB 1 (by omega)) (tk_ne (by omega)) (by rw [List.length_take]; omega); rwa [s1] at this
  have e2 : decide ((k : Int) + 2 ≤ (n : Int)) = true := decide_eq_true (by omega)
  have z2 : (k : Int) + 2 ≤ (cap : Int) := by omega
  have HS2 : Hid (∀ W, Below w.heap.size w W → Calls Tryd.prog 31 #[.slice (some ⟨blk, off + k, none⟩) 2 (cap - k)] W fun e w' => e = .returned (.tuple #[.int .i64 (stV (m.take 2)), .bool false]) ∧ Below W.heap.size W w') := fun W hW => by have := stands_any _ (m.take 2) W ((HV.out.next hW).takeB 2 (by omega)) (tk_ne (by omega)) (by rw [List.length_take]; omega); rwa [s2] at this
  have e3 : decide ((k : Int) + 3 ≤ (n : Int)) = true := decide_eq_true (by omega)
  have z3 : (k : Int) + 3 ≤ (cap : Int) := by omega
  have HS3 : Hid (∀ W, Below w.heap.size w W → Calls Tryd.prog 31 #[.slice (some ⟨blk, off + k, none⟩) 3 (cap - k)] W fun e w' => e = .returned (.tuple #[.int .i64 (stV (m.take 3)), .bool false]) ∧ Below W.heap.size W w') := fun W hW => by have := stands_any _ (m.take 3) W ((HV.out.next hW).takeB 3 (by omega)) (tk_ne (by omega)) (by rw [List.length_take]; omega); rwa [s3] at this
  have e4 : decide ((k : Int) + 4 ≤ (n : Int)) = false := decide_eq_false (by omega)
  have HG : Hid (∀ W, Below w.heap.size w W → Calls Tryd.prog 32 #[.slice (some ⟨blk, off + k, none⟩) (n - k) (cap - k)] W fun e w' => e = .returned (.bool false) ∧ Below W.heap.size W w') := fun W hW => by have := begins_any _ m W (HV.out.next hW) hne (by omega); rwa [sb] at this
  have hd : decide ((n : Int) - (k : Int) < 4) = true := decide_eq_true (by omega)
  have hkn : (k : Int) < (n : Int) := by omega
  have hnc : (n : Int) ≤ (cap : Int) := by omega
  clear hm hv hne hK s1 s2 s3 sb
  have HB := Lib.hid (Below.refl w.heap.size w)
  go_enter Tryd.func8, Tryd.ntmps8
  go_wp2_with fail
  refine wp_loop_rounds 6 ?_
  rw [rounds_succ]
  go_wp2_with (go_at_call 31; refine (HS1.out _ HB.out).mono ?_; rintro e w1 ⟨rfl, hb⟩; have HB2 := Lib.hid (HB.out.trans (hb.mono HB.out.size)); clear hb HB; have HB := HB2; clear HB2)
  rw [rounds_succ]
  go_wp2_with (go_at_call 31; refine (HS2.out _ HB.out).mono ?_; rintro e w2 ⟨rfl, hb⟩; have HB2 := Lib.hid (HB.out.trans (hb.mono HB.out.size)); clear hb HB; have HB := HB2; clear HB2)
  rw [rounds_succ]
  go_wp2_with (go_at_call 31; refine (HS3.out _ HB.out).mono ?_; rintro e w3 ⟨rfl, hb⟩; have HB2 := Lib.hid (HB.out.trans (hb.mono HB.out.size)); clear hb HB; have HB := HB2; clear HB2)
  rw [rounds_succ]
  go_wp2_with (go_at_call 32; refine (HG.out _ HB.out).mono ?_; rintro e wb ⟨rfl, hb⟩; have HB2 := Lib.hid (HB.out.trans (hb.mono HB.out.size)); clear hb HB; have HB := HB2; clear HB2)
  go_ret3
  exact ⟨rfl, HB.out⟩
set_option maxHeartbeats 4000000 in
theorem rdecode_no4 (blk off cap n k : Nat) (m : List UInt8) (w : World) (hk : k < n) (hcap : n ≤ cap) (hn : n ≤ 1000000) (hm : m.length = n - k) (hv : RdB w.heap.size w (.slice (some ⟨blk, off + k, none⟩) (n - k) (cap - k)) m) (hK : 4 ≤ m.length) (s1 : stB (m.take 1) = false) (s2 : stB (m.take 2) = false) (s3 : stB (m.take 3) = false) (s4 : stB (m.take 4) = false) :
    Calls Tryd.prog 8 #[.slice (some ⟨blk, off, none⟩) n cap, .int .i64 (k : Int)] w fun e w' => e = .returned (.tuple #[.int .i64 0, .int .i64 0, .int .i64 6]) ∧ Below w.heap.size w w' := by
  have h0 : ¬ (k : Int) < 0 := by omega
  have h1 : ¬ (n : Int) ≤ (k : Int) := by omega
  have hkc : ¬ cap = k := by omega
  have hne : m ≠ [] := by intro e; rw [e] at hm; simp at hm; omega
  have HV := Lib.hid hv
  have k1 : (k : Int) ≤ 1000000 := by omega
  have n1 : (n : Int) ≤ 1000000 := by omega
  have e1 : decide ((k : Int) + 1 ≤ (n : Int)) = true := decide_eq_true (by omega)
  have z1 : (k : Int) + 1 ≤ (cap : Int) := by omega
  have HS1 : Hid (∀ W, Below w.heap.size w W → Calls Tryd.prog 31 #[.slice (some ⟨blk, off + k, none⟩) 1 (cap - k)] W fun e w' => e = .returned (.tuple #[.int .i64 (stV (m.take 1)), .bool false]) ∧ Below W.heap.size W w') := fun W hW => by have := stands_any _ (m.take 1) W ((HV.out.next hW).takeB 1 (by omega)) (tk_ne (by omega)) (by rw [List.length_take]; omega); rwa [s1] at this
  have e2 : decide ((k : Int) + 2 ≤ (n : Int)) = true := decide_eq_true (by omega)
  have z2 : (k : Int) + 2 ≤ (cap : Int) := by omega
  have HS2 : Hid (∀ W, Below w.heap.size w W → Calls Tryd.prog 31 #[.slice (some ⟨blk, off + k, none⟩) 2 (cap - k)] W fun e w' => e = .returned (.tuple #[.int .i64 (stV (m.take 2)), .bool false]) ∧ Below W.heap.size W w') := fun W hW => by have := stands_any _ (m.take 2) W ((HV.out.next hW).takeB 2 (by omega)) (tk_ne (by omega)) (by rw [List.length_take]; omega); rwa [s2] at this
  have e3 : decide ((k : Int) + 3 ≤ (n : Int)) = true := decide_eq_true (by omega)
  have z3 : (k : Int) + 3 ≤ (cap : Int) := by omega
  have HS3 : Hid (∀ W, Below w.heap.size w W → Calls Tryd.prog 31 #[.slice (some ⟨blk, off + k, none⟩) 3 (cap - k)] W fun e w' => e = .returned (.tuple #[.int .i64 (stV (m.take 3)), .bool false]) ∧ Below W.heap.size W w') := fun W hW => by have := stands_any _ (m.take 3) W ((HV.out.next hW).takeB 3 (by omega)) (tk_ne (by omega)) (by rw [List.length_take]; omega); rwa [s3] at this
  have e4 : decide ((k : Int) + 4 ≤ (n : Int)) = true := decide_eq_true (by omega)
  have z4 : (k : Int) + 4 ≤ (cap : Int) := by omega
  have HS4 : Hid (∀ W, Below w.heap.size w W → Calls Tryd.prog 31 #[.slice (some ⟨blk, off + k, none⟩) 4 (cap - k)] W fun e w' => e = .returned (.tuple #[.int .i64 (stV (m.take 4)), .bool false]) ∧ Below W.heap.size W w') := fun W hW => by have := stands_any _ (m.take 4) W ((HV.out.next hW).takeB 4 (by omega)) (tk_ne (by omega)) (by rw [List.length_take]; omega); rwa [s4] at this
  have hd : decide ((n : Int) - (k : Int) < 4) = false := decide_eq_false (by omega)
  have hkn : (k : Int) < (n : Int) := by omega
  have hnc : (n : Int) ≤ (cap : Int) := by omega
  clear hm hv hne hK s1 s2 s3 s4
  have HB := Lib.hid (Below.refl w.heap.size w)
  go_enter Tryd.func8, Tryd.ntmps8
  go_wp2_with fail
  refine wp_loop_rounds 6 ?_
  rw [rounds_succ]
  go_wp2_with (go_at_call 31; refine (HS1.out _ HB.out).mono ?_; rintro e w1 ⟨rfl, hb⟩; have HB2 := Lib.hid (HB.out.trans (hb.mono HB.out.size)); clear hb HB; have HB := HB2; clear HB2)
  rw [rounds_succ]
  go_wp2_with (go_at_call 31; refine (HS2.out _ HB.out).mono ?_; rintro e w2 ⟨rfl, hb⟩; have HB2 := Lib.hid (HB.out.trans (hb.mono HB.out.size)); clear hb HB; have HB := HB2; clear HB2)
  rw [rounds_succ]
  go_wp2_with (go_at_call 31; refine (HS3.out _ HB.out).mono ?_; rintro e w3 ⟨rfl, hb⟩; have HB2 := Lib.hid (HB.out.trans (hb.mono HB.out.size)); clear hb HB; have HB := HB2; clear HB2)
  rw [rounds_succ]
  go_wp2_with (go_at_call 31; refine (HS4.out _ HB.out).mono ?_; rintro e w4 ⟨rfl, hb⟩; have HB2 := Lib.hid (HB.out.trans (hb.mono HB.out.size)); clear hb HB; have HB := HB2; clear HB2)
  rw [rounds_succ]
  go_wp2_with fail
  go_ret3
  exact ⟨rfl, HB.out⟩
theorem rdecode_any (l : List UInt8) (v : Value) (k : Int) (w : World) (hv : RdB w.heap.size w v l) (hl : l.length ≤ 1000000) :
    Calls Tryd.prog 8 #[v, .int .i64 k] w fun e w' => e = .returned (tup3 (decI l k)) ∧ Below w.heap.size w w' := by
  by_cases hk : k < 0 ∨ (l.length : Int) ≤ k
  · unfold decI
    rw [if_pos hk]
    refine (rdecode_out l v k w hv hk).mono fun e w' h => ⟨h.1, ?_⟩
    rw [h.2]
    exact Below.refl _ _
  · obtain ⟨n, rfl⟩ : ∃ n : Nat, k = n := ⟨k.toNat, by omega⟩
    unfold decI
    rw [if_neg hk, Int.toNat_natCast]
    have hn : n < l.length := by omega
    obtain ⟨a, cap, rfl, hcap, hc2, hx⟩ := hv
    obtain ⟨blk, off, rfl, hb, hc⟩ := hx (by intro e; rw [e] at hn; simp at hn)
    have hR := RdB.tail n hn hcap hc2 hb hc
    have hm : (l.drop n).length = l.length - n := List.length_drop
    have hne : l.drop n ≠ [] := by intro e; rw [e] at hm; simp at hm; omega
    clear hc hx
    rcases hd : dec (l.drop n) with ⟨r, K, E⟩
    by_cases hE : E = 0
    · subst hE
      obtain ⟨_, f2, f3, f4, _⟩ := enc_dec _ r K hd
      obtain ⟨g1, g2, g3⟩ := st_find hd
      have hK : K = 1 ∨ K = 2 ∨ K = 3 ∨ K = 4 := by omega
      rcases hK with rfl | rfl | rfl | rfl
      · exact rdecode_ok1 blk off cap l.length n (l.drop n) w hn hcap hl hm hR f3 g2 (r : Int) g3
      · exact rdecode_ok2 blk off cap l.length n (l.drop n) w hn hcap hl hm hR f3 (g1 1 (by omega) (by omega)) g2 (r : Int) g3
      · exact rdecode_ok3 blk off cap l.length n (l.drop n) w hn hcap hl hm hR f3 (g1 1 (by omega) (by omega)) (g1 2 (by omega) (by omega)) g2 (r : Int) g3
      · exact rdecode_ok4 blk off cap l.length n (l.drop n) w hn hcap hl hm hR f3 (g1 1 (by omega) (by omega)) (g1 2 (by omega) (by omega)) (g1 3 (by omega) (by omega)) g2 (r : Int) g3
    · have hs := fun j => st_none (m := l.drop n) (by rw [hd]; exact hE) j
      have hr := dec_err (l.drop n) hne
      rw [hd] at hr
      by_cases h4 : 4 ≤ (l.drop n).length
      · rcases hr with h | h | ⟨_, h⟩
        · exact absurd h hE
        · rw [h]
          exact rdecode_no4 blk off cap l.length n (l.drop n) w hn hcap hl hm hR h4 (hs 1) (hs 2) (hs 3) (hs 4)
        · omega
      · have hg := bg_dec (l.drop n) hne (by omega)
        rw [hd] at hg
        have hK : (l.drop n).length = 1 ∨ (l.drop n).length = 2 ∨ (l.drop n).length = 3 := by omega
        rcases hr with h | h | ⟨h, _⟩
        · exact absurd h hE
        · rw [h] at hg ⊢
          rcases hK with q | q | q
          · exact rdecode_no1f blk off cap l.length n (l.drop n) w hn hcap hl hm hR q (hs 1) hg
          · exact rdecode_no2f blk off cap l.length n (l.drop n) w hn hcap hl hm hR q (hs 1) (hs 2) hg
          · exact rdecode_no3f blk off cap l.length n (l.drop n) w hn hcap hl hm hR q (hs 1) (hs 2) (hs 3) hg
        · rw [h] at hg ⊢
          rcases hK with q | q | q
          · exact rdecode_no1t blk off cap l.length n (l.drop n) w hn hcap hl hm hR q (hs 1) hg
          · exact rdecode_no2t blk off cap l.length n (l.drop n) w hn hcap hl hm hR q (hs 1) (hs 2) hg
          · exact rdecode_no3t blk off cap l.length n (l.drop n) w hn hcap hl hm hR q (hs 1) (hs 2) (hs 3) hg
end Go.Proofs.YtomffjaeafcpdaaDoor
