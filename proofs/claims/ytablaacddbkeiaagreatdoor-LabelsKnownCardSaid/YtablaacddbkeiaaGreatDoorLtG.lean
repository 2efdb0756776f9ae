/- Check. -/
import Derived.Test.YtablaacddbkeiaaGreatDoorLtD
import Derived.Test.YtablaacddbkeiaaGreatDoorLtE
import Derived.Test.YtablaacddbkeiaaGreatDoorLtF
namespace Go.Proofs.YtablaacddbkeiaaGreatDoor
open Go.RowKit

theorem Rd.al {α : Type} {f : α → Value} {w : World} {v : Value} {l : List α} (h : Rd f w.heap.size w v l) (o : Obj) : Rd f (w.alloc o).heap.size (w.alloc o) v l := h.next ((Below.refl _ _).alloc (Nat.le_refl _) o)
theorem RdL.al {w : World} {v : Value} {ns : List ByteArray} {up : List UInt8} (h : RdL w.heap.size w v ns up) (o : Obj) : RdL (w.alloc o).heap.size (w.alloc o) v ns up := h.next ((Below.refl _ _).alloc (Nat.le_refl _) o)
theorem bel1 (w : World) (o : Obj) : Below w.heap.size w (w.alloc o) := (Below.refl _ _).alloc (Nat.le_refl _) o

/-- What Check returns. -/
def ck (ns : List ByteArray) (up : List UInt8) : Int × Int := chk nameB (ns.map byt) up

theorem nmV_ne {ns : List ByteArray} {i : Nat} {e : Int} (h : nmF nameB (ns.map byt) = some (i, e)) : e = 6 ∨ e = 8 := by
  unfold nmF at h
  obtain ⟨k, _, hk⟩ := List.exists_of_findSome?_eq_some h
  unfold nm1 at hk
  split at hk
  · cases hk; exact .inl rfl
  · split at hk
    · cases hk; exact .inr rfl
    · cases hk
theorem ck_A {ns : List ByteArray} {up : List UInt8} (h : ns.length < 1 ∨ 8 < ns.length) : ck ns up = (-1, 3) := by
  unfold ck chk; rw [List.length_map, if_pos h]
theorem ck_C {ns : List ByteArray} {up : List UInt8} (h1 : 1 ≤ ns.length) (h2 : ns.length ≤ 8) (h : ((nmV ns).2 != 0) = true) : ck ns up = nmV ns := by
  unfold ck chk; rw [List.length_map, if_neg (by omega)]
  cases e : nmF nameB (ns.map byt) with
  | none => rw [nmV_no e] at h; cases h
  | some x => rw [nmV_at e]
theorem nm_none {ns : List ByteArray} (h : ((nmV ns).2 != 0) = false) : nmF nameB (ns.map byt) = none := by
  cases e : nmF nameB (ns.map byt) with
  | none => rfl
  | some x =>
    rw [nmV_at e] at h
    rcases nmV_ne e with h2 | h2 <;> rw [h2] at h <;> cases h
theorem ck_E {ns : List ByteArray} {up : List UInt8} (h1 : 1 ≤ ns.length) (h2 : ns.length ≤ 8) (h : ((nmV ns).2 != 0) = false) (hu : up.length ≠ ns.length) : ck ns up = (-1, 6) := by
  unfold ck chk; rw [List.length_map, if_neg (by omega), nm_none h]; simp only; rw [if_pos hu]
theorem ck_F {ns : List ByteArray} {up : List UInt8} (h1 : 1 ≤ ns.length) (h2 : ns.length ≤ 8) (h : ((nmV ns).2 != 0) = false) (hu : up.length = ns.length) (hb : (badF up).isSome = true) : ck ns up = ((((badF up).getD 0 : Nat) : Int), 6) := by
  unfold ck chk; rw [List.length_map, if_neg (by omega), nm_none h]; simp only; rw [if_neg (by omega)]
  cases e : badF up with
  | none => rw [e] at hb; cases hb
  | some x => rfl
theorem ck_G {ns : List ByteArray} {up : List UInt8} (h1 : 1 ≤ ns.length) (h2 : ns.length ≤ 8) (h : ((nmV ns).2 != 0) = false) (hu : up.length = ns.length) (hb : (badF up).isSome = false) (hc : (unbF up).isSome = true) : ck ns up = ((((unbF up).getD 0 : Nat) : Int), 4) := by
  unfold ck chk; rw [List.length_map, if_neg (by omega), nm_none h]; simp only; rw [if_neg (by omega)]
  cases e : badF up with
  | some x => rw [e] at hb; cases hb
  | none =>
    cases e2 : unbF up with
    | none => rw [e2] at hc; cases hc
    | some x => rfl
theorem ck_Z {ns : List ByteArray} {up : List UInt8} (h1 : 1 ≤ ns.length) (h2 : ns.length ≤ 8) (h : ((nmV ns).2 != 0) = false) (hu : up.length = ns.length) (hb : (badF up).isSome = false) (hc : (unbF up).isSome = false) : ck ns up = (0, 0) := by
  unfold ck chk; rw [List.length_map, if_neg (by omega), nm_none h]; simp only; rw [if_neg (by omega)]
  cases e : badF up with
  | some x => rw [e] at hb; cases hb
  | none =>
    cases e2 : unbF up with
    | none => rfl
    | some x => rw [e2] at hc; cases hc

set_option maxRecDepth 100000 in
set_option maxHeartbeats 2000000 in
theorem check_any (v : Value) (ns : List ByteArray) (up : List UInt8) (w : World) (hv : RdL w.heap.size w v ns up) :
    Calls Tryz.prog 26 #[v] w fun e w' => e = .returned (.tuple #[.int .i64 (ck ns up).1, .int .i64 (ck ns up).2]) ∧ Below w.heap.size w w' := by
  obtain ⟨⟨vn, vu, rfl, hS, hB⟩, hsz⟩ := hv
  have HS := Lib.hid hS
  have HB := Lib.hid hB
  have HZ := Lib.hid hsz
  obtain ⟨p, cap, rfl, hc, hc2, h⟩ := hS
  obtain ⟨q, cap', rfl, hc', hc2', h'⟩ := hB
  clear h h' hsz
  by_cases h1 : ns.length < 1
  · have HK : Hid (ck ns up = (-1, 3)) := ck_A (.inl h1)
    go_enter Tryz.func26, Tryz.ntmps26
    go_wp2
    go_ret2
    exact ⟨ret_two (by rw [HK.out]; rfl) (by rw [HK.out]; rfl), bel1 _ _⟩
  by_cases h8 : 8 < ns.length
  · have HK : Hid (ck ns up = (-1, 3)) := ck_A (.inr h8)
    go_enter Tryz.func26, Tryz.ntmps26
    go_wp2
    go_ret2
    exact ⟨ret_two (by rw [HK.out]; rfl) (by rw [HK.out]; rfl), bel1 _ _⟩
  cases e0 : ((nmV ns).2 != 0) with
  | true =>
    have HK : Hid (ck ns up = nmV ns) := ck_C (by omega) (by omega) e0
    go_enter Tryz.func26, Tryz.ntmps26
    go_wp2_with (go_at_call 52; refine (checkNames_any _ ns _ (HS.out.al _) HZ.out).mono ?_; rintro e w' ⟨rfl, rfl⟩)
    go_ret2
    exact ⟨ret_two (by rw [HK.out]; rfl) (by rw [HK.out]; rfl), bel1 _ _⟩
  | false =>
    by_cases hu : up.length = ns.length
    · have hu1 : ((up.length : Int) != (ns.length : Int)) = false := by rw [hu]; simp
      have hn0 : 0 < up.length := by omega
      have hn8 : up.length ≤ 8 := by omega
      cases e1 : (badF up).isSome with
      | true =>
        have HK : Hid (ck ns up = ((((badF up).getD 0 : Nat) : Int), 6)) := ck_F (by omega) (by omega) e0 hu e1
        have HU := Lib.hid hu; clear hu
        go_enter Tryz.func26, Tryz.ntmps26
        go_wp2_with (first | (go_at_call 52; refine (checkNames_any _ ns _ (HS.out.al _) HZ.out).mono ?_; rintro e w' ⟨rfl, rfl⟩) | (go_at_call 53; refine (disordered_any _ up _ (HB.out.al _) hn0 hn8).mono ?_; rintro e w' ⟨rfl, rfl⟩))
        go_ret2
        exact ⟨ret_two (by rw [HK.out]; rfl) (by rw [HK.out]; rfl), bel1 _ _⟩
      | false =>
        cases e2 : (unbF up).isSome with
        | true =>
          have HK : Hid (ck ns up = ((((unbF up).getD 0 : Nat) : Int), 4)) := ck_G (by omega) (by omega) e0 hu e1 e2
          have HU := Lib.hid hu; clear hu
          go_enter Tryz.func26, Tryz.ntmps26
          go_wp2_with (first | (go_at_call 52; refine (checkNames_any _ ns _ (HS.out.al _) HZ.out).mono ?_; rintro e w' ⟨rfl, rfl⟩) | (go_at_call 53; refine (disordered_any _ up _ (HB.out.al _) hn0 hn8).mono ?_; rintro e w' ⟨rfl, rfl⟩) | (go_at_call 54; refine (unbounded_any _ up _ (HB.out.al _) hn8).mono ?_; rintro e w' ⟨rfl, rfl⟩))
          go_ret2
          exact ⟨ret_two (by rw [HK.out]; rfl) (by rw [HK.out]; rfl), bel1 _ _⟩
        | false =>
          have HK : Hid (ck ns up = (0, 0)) := ck_Z (by omega) (by omega) e0 hu e1 e2
          have HU := Lib.hid hu; clear hu
          go_enter Tryz.func26, Tryz.ntmps26
          go_wp2_with (first | (go_at_call 52; refine (checkNames_any _ ns _ (HS.out.al _) HZ.out).mono ?_; rintro e w' ⟨rfl, rfl⟩) | (go_at_call 53; refine (disordered_any _ up _ (HB.out.al _) hn0 hn8).mono ?_; rintro e w' ⟨rfl, rfl⟩) | (go_at_call 54; refine (unbounded_any _ up _ (HB.out.al _) hn8).mono ?_; rintro e w' ⟨rfl, rfl⟩))
          go_ret2
          exact ⟨ret_two (by rw [HK.out]; rfl) (by rw [HK.out]; rfl), bel1 _ _⟩
    · have hu1 : ((up.length : Int) != (ns.length : Int)) = true := by rw [bne_iff_ne]; omega
      have HK : Hid (ck ns up = (-1, 6)) := ck_E (by omega) (by omega) e0 hu
      go_enter Tryz.func26, Tryz.ntmps26
      go_wp2_with (go_at_call 52; refine (checkNames_any _ ns _ (HS.out.al _) HZ.out).mono ?_; rintro e w' ⟨rfl, rfl⟩)
      go_ret2
      exact ⟨ret_two (by rw [HK.out]; rfl) (by rw [HK.out]; rfl), bel1 _ _⟩
end Go.Proofs.YtablaacddbkeiaaGreatDoor
