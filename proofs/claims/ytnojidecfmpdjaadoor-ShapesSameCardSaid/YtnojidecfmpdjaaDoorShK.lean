/- Print of shapes, of the code and of the reference. -/
import Derived.Test.YtnojidecfmpdjaaDoorShH
import Derived.Test.YtnojidecfmpdjaaDoorWaF
namespace Go.Proofs.YtnojidecfmpdjaaDoor
open Go.RowKit

theorem sv {l m : List UInt8} {s : ByteArray} (h : l = m) (k : s = ⟨m.toArray⟩) : Value.string s = Value.string ⟨l.toArray⟩ := by rw [h, k]
theorem cat3 {a b c : List UInt8} : (⟨a.toArray⟩ : ByteArray) ++ ((⟨b.toArray⟩ : ByteArray) ++ ⟨c.toArray⟩) = ⟨(a ++ (b ++ c)).toArray⟩ := by rw [cat_mk, cat_mk]
theorem cat3' {a b c : List UInt8} : (⟨a.toArray⟩ : ByteArray) ++ (⟨b.toArray⟩ : ByteArray) ++ ⟨c.toArray⟩ = ⟨(a ++ (b ++ c)).toArray⟩ := by rw [cat_mk, cat_mk, List.append_assoc]
set_option maxHeartbeats 2000000 in
theorem print_any (r a b : Int) (w : World) (hw : Lay w) : Calls Tryd.prog 13 #[.int .i64 r, P2 a b] w fun e w' => e = .returned (.tuple #[.string ⟨(prV r a b).toArray⟩, .int .i64 (ckS r a b)]) ∧ Below w.heap.size w w' := by
  have HL := Lib.hid hw
  clear hw
  have HK := Lib.hid (K1.new w a b)
  have x0 := HK.out.r0.c0; have x1 := HK.out.r0.c1
  rcases sh_dec r a b with ⟨hk, hs⟩ | ⟨hk, hs⟩
  · obtain ⟨h0, h1, h2, h3, h4, h5, h6, h7⟩ := hs.bd
    have HE : Hid (ckS r a b = 0) := hk
    have HCk : Hid (∀ W, Calls Tryd.prog 15 #[.int .i64 r, P2 a b] W fun e w' => e = .returned (.int .i64 0) ∧ Below W.heap.size W w') := fun W => by have := check_any r a b W; rwa [hk] at this
    cases hs with
    | s0 =>
      have HV : Hid (prV 0 0 0 = [115, 99, 97, 108, 97, 114]) := by unfold Hid prV; rw [if_pos hk]; simp
      clear hk
      go_enter Tryd.func13, Tryd.ntmps13
      go_wp2_with (first | (go_at_call 15; refine (HCk.out _).mono ?_; rintro e w' ⟨rfl, hb⟩; have HK2 := Lib.hid (HK.out.next hb); clear HK hb x0 x1; have HK := HK2; clear HK2; have x0 := HK.out.r0.c0; have x1 := HK.out.r0.c1) | (go_at_call 32; refine (digits_any _ _ (HL.out.next HK.out.bel) (by omega) (by omega)).mono ?_; rintro e w' ⟨rfl, hb⟩; have HK2 := Lib.hid (HK.out.next hb); clear HK hb x0 x1; have HK := HK2; clear HK2; have x0 := HK.out.r0.c0; have x1 := HK.out.r0.c1))
      go_ret2
      exact ⟨ret_two (sv HV.out rfl) (iv HE.out), HK.out.bel⟩
    | s1 _ g0 g1 =>
      have HV : Hid (prV 1 a 0 = Lib.itoa a) := by unfold Hid prV; rw [if_pos hk]; simp
      clear hk
      have la := itoa_len a (by omega) (by omega)
      go_enter Tryd.func13, Tryd.ntmps13
      go_wp2_with (first | (go_at_call 15; refine (HCk.out _).mono ?_; rintro e w' ⟨rfl, hb⟩; have HK2 := Lib.hid (HK.out.next hb); clear HK hb x0 x1; have HK := HK2; clear HK2; have x0 := HK.out.r0.c0; have x1 := HK.out.r0.c1) | (go_at_call 32; refine (digits_any _ _ (HL.out.next HK.out.bel) (by omega) (by omega)).mono ?_; rintro e w' ⟨rfl, hb⟩; have HK2 := Lib.hid (HK.out.next hb); clear HK hb x0 x1; have HK := HK2; clear HK2; have x0 := HK.out.r0.c0; have x1 := HK.out.r0.c1))
      go_ret2
      exact ⟨ret_two (sv HV.out rfl) (iv HE.out), HK.out.bel⟩
    | s2 _ _ g0 g1 g2 g3 g4 =>
      have HV : Hid (prV 2 a b = Lib.itoa a ++ ([120] ++ Lib.itoa b)) := by unfold Hid prV; rw [if_pos hk]; simp
      clear hk
      have la := itoa_len a (by omega) (by omega)
      have lb := itoa_len b (by omega) (by omega)
      go_enter Tryd.func13, Tryd.ntmps13
      go_wp2_with (first | (go_at_call 15; refine (HCk.out _).mono ?_; rintro e w' ⟨rfl, hb⟩; have HK2 := Lib.hid (HK.out.next hb); clear HK hb x0 x1; have HK := HK2; clear HK2; have x0 := HK.out.r0.c0; have x1 := HK.out.r0.c1) | (go_at_call 32; refine (digits_any _ _ (HL.out.next HK.out.bel) (by omega) (by omega)).mono ?_; rintro e w' ⟨rfl, hb⟩; have HK2 := Lib.hid (HK.out.next hb); clear HK hb x0 x1; have HK := HK2; clear HK2; have x0 := HK.out.r0.c0; have x1 := HK.out.r0.c1))
      go_ret2
      exact ⟨ret_two (sv HV.out cat3) (iv HE.out), HK.out.bel⟩
  · obtain ⟨k, hkk⟩ : ∃ k, k = ckS r a b := ⟨_, rfl⟩
    have HCk : Hid (∀ W, Calls Tryd.prog 15 #[.int .i64 r, P2 a b] W fun e w' => e = .returned (.int .i64 k) ∧ Below W.heap.size W w') := fun W => by rw [hkk]; exact check_any r a b W
    have HV : Hid (prV r a b = []) := by unfold Hid prV; rw [if_neg hk]
    rw [← hkk] at hk
    have HKK := Lib.hid hkk.symm
    have k1 : (k != 0) = true := by simpa using hk
    have k2 : (k == 0) = false := by simpa using hk
    clear hk hkk hs
    go_enter Tryd.func13, Tryd.ntmps13
    go_wp2_with (first | (go_at_call 15; refine (HCk.out _).mono ?_; rintro e w' ⟨rfl, hb⟩; have HK2 := Lib.hid (HK.out.next hb); clear HK hb x0 x1; have HK := HK2; clear HK2; have x0 := HK.out.r0.c0; have x1 := HK.out.r0.c1))
    go_ret2
    exact ⟨ret_two (sv HV.out rfl) (iv HKK.out), HK.out.bel⟩
set_option maxHeartbeats 2000000 in
theorem rprint_any (r a b : Int) (w : World) (hw : Lay w) : Calls Tryd.prog 14 #[.int .i64 r, P2 a b] w fun e w' => e = .returned (.tuple #[.string ⟨(prV r a b).toArray⟩, .int .i64 (ckS r a b)]) ∧ Below w.heap.size w w' := by
  have HL := Lib.hid hw
  clear hw
  have HK := Lib.hid (K1.new w a b)
  have x0 := HK.out.r0.c0; have x1 := HK.out.r0.c1
  rcases sh_dec r a b with ⟨hk, hs⟩ | ⟨hk, hs⟩
  · obtain ⟨h0, h1, h2, h3, h4, h5, h6, h7⟩ := hs.bd
    have HE : Hid (ckS r a b = 0) := hk
    have HCk : Hid (∀ W, Calls Tryd.prog 16 #[.int .i64 r, P2 a b] W fun e w' => e = .returned (.int .i64 0) ∧ Below W.heap.size W w') := fun W => by have := rcheck_any r a b W; rwa [hk] at this
    cases hs with
    | s0 =>
      have HV : Hid (prV 0 0 0 = [115, 99, 97, 108, 97, 114]) := by unfold Hid prV; rw [if_pos hk]; simp
      clear hk
      go_enter Tryd.func14, Tryd.ntmps14
      go_wp2_with (first | (go_at_call 16; refine (HCk.out _).mono ?_; rintro e w' ⟨rfl, hb⟩; have HK2 := Lib.hid (HK.out.next hb); clear HK hb x0 x1; have HK := HK2; clear HK2; have x0 := HK.out.r0.c0; have x1 := HK.out.r0.c1) | (go_at_call 33; refine (rdigits_any _ _ (by omega) (by omega)).mono ?_; rintro e w' ⟨rfl, hb⟩; have HK2 := Lib.hid (HK.out.next hb); clear HK hb x0 x1; have HK := HK2; clear HK2; have x0 := HK.out.r0.c0; have x1 := HK.out.r0.c1))
      go_ret2
      exact ⟨ret_two (sv HV.out rfl) (iv HE.out), HK.out.bel⟩
    | s1 _ g0 g1 =>
      have HV : Hid (prV 1 a 0 = Lib.itoa a) := by unfold Hid prV; rw [if_pos hk]; simp
      clear hk
      have la := itoa_len a (by omega) (by omega)
      go_enter Tryd.func14, Tryd.ntmps14
      go_wp2_with (first | (go_at_call 16; refine (HCk.out _).mono ?_; rintro e w' ⟨rfl, hb⟩; have HK2 := Lib.hid (HK.out.next hb); clear HK hb x0 x1; have HK := HK2; clear HK2; have x0 := HK.out.r0.c0; have x1 := HK.out.r0.c1) | (go_at_call 33; refine (rdigits_any _ _ (by omega) (by omega)).mono ?_; rintro e w' ⟨rfl, hb⟩; have HK2 := Lib.hid (HK.out.next hb); clear HK hb x0 x1; have HK := HK2; clear HK2; have x0 := HK.out.r0.c0; have x1 := HK.out.r0.c1))
      go_ret2
      exact ⟨ret_two (sv HV.out rfl) (iv HE.out), HK.out.bel⟩
    | s2 _ _ g0 g1 g2 g3 g4 =>
      have HV : Hid (prV 2 a b = Lib.itoa a ++ ([120] ++ Lib.itoa b)) := by unfold Hid prV; rw [if_pos hk]; simp
      clear hk
      have la := itoa_len a (by omega) (by omega)
      have lb := itoa_len b (by omega) (by omega)
      go_enter Tryd.func14, Tryd.ntmps14
      go_wp2_with (first | (go_at_call 16; refine (HCk.out _).mono ?_; rintro e w' ⟨rfl, hb⟩; have HK2 := Lib.hid (HK.out.next hb); clear HK hb x0 x1; have HK := HK2; clear HK2; have x0 := HK.out.r0.c0; have x1 := HK.out.r0.c1) | (go_at_call 33; refine (rdigits_any _ _ (by omega) (by omega)).mono ?_; rintro e w' ⟨rfl, hb⟩; have HK2 := Lib.hid (HK.out.next hb); clear HK hb x0 x1; have HK := HK2; clear HK2; have x0 := HK.out.r0.c0; have x1 := HK.out.r0.c1))
      go_ret2
      exact ⟨ret_two (sv HV.out cat3') (iv HE.out), HK.out.bel⟩
  · obtain ⟨k, hkk⟩ : ∃ k, k = ckS r a b := ⟨_, rfl⟩
    have HCk : Hid (∀ W, Calls Tryd.prog 16 #[.int .i64 r, P2 a b] W fun e w' => e = .returned (.int .i64 k) ∧ Below W.heap.size W w') := fun W => by rw [hkk]; exact rcheck_any r a b W
    have HV : Hid (prV r a b = []) := by unfold Hid prV; rw [if_neg hk]
    rw [← hkk] at hk
    have HKK := Lib.hid hkk.symm
    have k1 : (k != 0) = true := by simpa using hk
    have k2 : (k == 0) = false := by simpa using hk
    clear hk hkk hs
    go_enter Tryd.func14, Tryd.ntmps14
    go_wp2_with (first | (go_at_call 16; refine (HCk.out _).mono ?_; rintro e w' ⟨rfl, hb⟩; have HK2 := Lib.hid (HK.out.next hb); clear HK hb x0 x1; have HK := HK2; clear HK2; have x0 := HK.out.r0.c0; have x1 := HK.out.r0.c1))
    go_ret2
    exact ⟨ret_two (sv HV.out rfl) (iv HKK.out), HK.out.bel⟩
end Go.Proofs.YtnojidecfmpdjaaDoor
