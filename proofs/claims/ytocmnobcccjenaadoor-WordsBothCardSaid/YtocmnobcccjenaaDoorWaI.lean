/- readByte. -/
import Derived.Test.YtocmnobcccjenaaDoorWaH
namespace Go.Proofs.YtocmnobcccjenaaDoor
open Go.RowKit

/-- The byte that a letter after a backslash stands for. -/
def unV (d : Int) : Int := if d = 34 then 34 else if d = 92 then 92 else if d = 110 then 10 else if d = 114 then 13 else if d = 116 then 9 else 0
def unB (d : Int) : Bool := decide (d = 34 ∨ d = 92 ∨ d = 110 ∨ d = 114 ∨ d = 116)
def unN (d : Int) : Int := if unB d then 2 else 0
theorem hasPrefix_any (s p : ByteArray) (w : World) : Calls Tryd.prog 46 #[.string s, .string p] w fun e w' => e = .returned (.bool (Lib.hasPrefix s.data.toList p.data.toList)) ∧ w = w' :=
  (Tryd.strings_HasPrefix s p w).mono fun _ _ h => ⟨h.1, h.2.symm⟩
theorem b92_t {c : UInt8} (h : c = 92) : ((c.toNat : Int) != 92) = false := by rw [h]; rfl
theorem b92_f {c : UInt8} (h : c ≠ 92) : ((c.toNat : Int) != 92) = true := by
  rw [bne_iff_ne]; intro e; apply h; rw [← UInt8.toNat_inj]; simp; omega

set_option maxHeartbeats 2000000 in
theorem readByte_plain (s : ByteArray) (w : World) (h0 : 0 < s.size) (hc : s[0] ≠ 92) :
    Calls Tryd.prog 47 #[.string s] w fun e w' => e = .returned (.tuple #[.int .u8 s[0].toNat, .int .i64 1, .bool (pl8 s[0])]) ∧ Below w.heap.size w w' := by
  have hb := b92_f hc
  have hz : (0 : Int) < (s.size : Int) := by omega
  clear hc
  go_enter Tryd.func47, Tryd.ntmps47
  go_wp2_with fail
  go_quiet ((go_at_call 32; exact Calls.quiet_of_same ((isPlain_b _ _).mono fun e w' h => ⟨h.1, h.2.symm⟩)))
  go_wp2_with fail
  go_ret3
  exact ⟨rfl, below_drewN (Below.refl _ _) _⟩

set_option maxHeartbeats 2000000 in
theorem readByte_hex (s : ByteArray) (w : World) (h0 : 0 < s.size) (hc : s[0] = 92) (hp : Lib.hasPrefix (byt s) [92, 120] = true)
    (a b : Int) (ok : Bool) (hr : ∀ w1, w1 = w → Calls Tryd.prog 60 #[.string s] w1 fun e w' => e = .returned (.tuple #[.int .u8 a, .int .i64 b, .bool ok]) ∧ Below w1.heap.size w1 w') :
    Calls Tryd.prog 47 #[.string s] w fun e w' => e = .returned (.tuple #[.int .u8 a, .int .i64 b, .bool ok]) ∧ Below w.heap.size w w' := by
  have hb := b92_t hc
  have HR := Lib.hid (hr w rfl); clear hr hc
  have hp' : Lib.hasPrefix s.data.toList [92, 120] = true := hp
  clear hp
  go_enter Tryd.func47, Tryd.ntmps47
  go_wp2_with (first | (go_at_call 46; refine (hasPrefix_any _ _ _).mono ?_; rintro e w' ⟨rfl, rfl⟩) | (go_at_call 60; refine (HR.out).mono ?_; rintro e w' ⟨rfl, hbl⟩))
  go_ret3
  exact ⟨rfl, hbl⟩

set_option maxHeartbeats 4000000 in
theorem readByte_short (s : ByteArray) (w : World) (hw : Lay w) (h0 : 0 < s.size) (hc : s[0] = 92) (hp : Lib.hasPrefix (byt s) [92, 120] = false) (h1 : ¬ 1 < s.size) :
    Calls Tryd.prog 47 #[.string s] w fun e w' => e = .returned (.tuple #[.int .u8 0, .int .i64 0, .bool false]) ∧ Below w.heap.size w w' := by
  have hb := b92_t hc
  have hp' : Lib.hasPrefix s.data.toList [92, 120] = false := hp
  clear hp hc
  obtain ⟨t, z, hesc⟩ := hw.esc
  have i0 := escIx0
  have i1 := escIx1
  have i2 := escIx2
  have i3 := escIx3
  have i4 := escIx4
  have hd : decide (1 < (s.size : Int)) = false := decide_eq_false (by omega)
  go_enter Tryd.func47, Tryd.ntmps47
  go_wp2_with (first | (go_at_call 46; refine (hasPrefix_any _ _ _).mono ?_; rintro e w' ⟨rfl, rfl⟩) | (refine wpList_load_row rfl 88 (.global 0) rfl 0 rfl t escV z escU hesc esc113 rfl esc113s ?_))
  go_loopw [23] (fun i wr => ∃ k : Nat, k ≤ 5 ∧ i = .int .i64 k ∧ Below w.heap.size w wr) (fun i _ => 5 - (intOf i).toNat)
  case atStart => exact ⟨0, by omega, rfl, Below.refl _ _⟩
  case round =>
    obtain ⟨k, hk, rfl, hb2⟩ := hrel
    have hsz := hb2.size
    rcases (show k = 0 ∨ k = 1 ∨ k = 2 ∨ k = 3 ∨ k = 4 ∨ k = 5 by omega) with rfl | rfl | rfl | rfl | rfl | rfl
    · go_wp2_with fail
      go_quiet (fail)
      go_wp2_with fail
      go_roundw
      case rel => exact ⟨1, by omega, rfl, below_drewN (hb2.alloc hsz _) _⟩
      case measure => simp [intOf]
    · go_wp2_with fail
      go_quiet (fail)
      go_wp2_with fail
      go_roundw
      case rel => exact ⟨2, by omega, rfl, below_drewN (hb2.alloc hsz _) _⟩
      case measure => simp [intOf]
    · go_wp2_with fail
      go_quiet (fail)
      go_wp2_with fail
      go_roundw
      case rel => exact ⟨3, by omega, rfl, below_drewN (hb2.alloc hsz _) _⟩
      case measure => simp [intOf]
    · go_wp2_with fail
      go_quiet (fail)
      go_wp2_with fail
      go_roundw
      case rel => exact ⟨4, by omega, rfl, below_drewN (hb2.alloc hsz _) _⟩
      case measure => simp [intOf]
    · go_wp2_with fail
      go_quiet (fail)
      go_wp2_with fail
      go_roundw
      case rel => exact ⟨5, by omega, rfl, below_drewN (hb2.alloc hsz _) _⟩
      case measure => simp [intOf]
    · go_wp2_with fail
      go_ret3
      exact ⟨rfl, hb2⟩

set_option maxHeartbeats 4000000 in
theorem readByte_esc (s : ByteArray) (w : World) (hw : Lay w) (h0 : 0 < s.size) (hc : s[0] = 92) (hp : Lib.hasPrefix (byt s) [92, 120] = false) (h1 : 1 < s.size) :
    Calls Tryd.prog 47 #[.string s] w fun e w' => e = .returned (.tuple #[.int .u8 (unV s[1].toNat), .int .i64 (unN s[1].toNat), .bool (unB s[1].toNat)]) ∧ Below w.heap.size w w' := by
  have hb := b92_t hc
  have hp' : Lib.hasPrefix s.data.toList [92, 120] = false := hp
  clear hp hc
  obtain ⟨t, z, hesc⟩ := hw.esc
  have i0 := escIx0
  have i1 := escIx1
  have i2 := escIx2
  have i3 := escIx3
  have i4 := escIx4
  have hd : (1 : Int) < (s.size : Int) := by omega
  have hu8 := u8_lt s[1]
  obtain ⟨d, hd1⟩ : ∃ d : Int, d = (s[1].toNat : Int) := ⟨_, rfl⟩
  rw [← hd1]
  have HD := Lib.hid hd1; clear hd1
  go_enter Tryd.func47, Tryd.ntmps47
  go_wp2_with (first | (go_at_call 46; refine (hasPrefix_any _ _ _).mono ?_; rintro e w' ⟨rfl, rfl⟩) | (refine wpList_load_row rfl 88 (.global 0) rfl 0 rfl t escV z escU hesc esc113 rfl esc113s ?_))
  go_loopw [23] (fun i wr => ∃ k : Nat, k ≤ 5 ∧ i = .int .i64 k ∧ Below w.heap.size w wr ∧ Hid (∀ x ∈ ([34, 92, 110, 114, 116] : List Int).take k, d ≠ x)) (fun i _ => 5 - (intOf i).toNat)
  case atStart => exact ⟨0, by omega, rfl, Below.refl _ _, by simp [Hid]⟩
  case round =>
    obtain ⟨k, hk, rfl, hb2, hq⟩ := hrel
    have hsz := hb2.size
    rcases (show k = 0 ∨ k = 1 ∨ k = 2 ∨ k = 3 ∨ k = 4 ∨ k = 5 by omega) with rfl | rfl | rfl | rfl | rfl | rfl
    · go_wp2_with fail
      go_quiet (fail)
      rw [← HD.out]
      go_wp2_with fail
      · have h : (d == (34 : Int)) = true := by assumption
        have hc : d = 34 := by simpa using h
        go_ret3
        exact ⟨ret_three (by rw [hc]; rfl) (by rw [hc]; rfl) (by rw [hc]; rfl), below_drewN (hb2.alloc hsz _) _⟩
      · have h : (d == (34 : Int)) = false := by assumption
        have hc : d ≠ 34 := by intro e; rw [e] at h; simp at h
        go_roundw
        case rel => exact ⟨1, by omega, rfl, below_drewN (hb2.alloc hsz _) _, by unfold Hid at hq ⊢; simp at hq ⊢; omega⟩
        case measure => simp [intOf]
    · go_wp2_with fail
      go_quiet (fail)
      rw [← HD.out]
      go_wp2_with fail
      · have h : (d == (92 : Int)) = true := by assumption
        have hc : d = 92 := by simpa using h
        go_ret3
        exact ⟨ret_three (by rw [hc]; rfl) (by rw [hc]; rfl) (by rw [hc]; rfl), below_drewN (hb2.alloc hsz _) _⟩
      · have h : (d == (92 : Int)) = false := by assumption
        have hc : d ≠ 92 := by intro e; rw [e] at h; simp at h
        go_roundw
        case rel => exact ⟨2, by omega, rfl, below_drewN (hb2.alloc hsz _) _, by unfold Hid at hq ⊢; simp at hq ⊢; omega⟩
        case measure => simp [intOf]
    · go_wp2_with fail
      go_quiet (fail)
      rw [← HD.out]
      go_wp2_with fail
      · have h : (d == (110 : Int)) = true := by assumption
        have hc : d = 110 := by simpa using h
        go_ret3
        exact ⟨ret_three (by rw [hc]; rfl) (by rw [hc]; rfl) (by rw [hc]; rfl), below_drewN (hb2.alloc hsz _) _⟩
      · have h : (d == (110 : Int)) = false := by assumption
        have hc : d ≠ 110 := by intro e; rw [e] at h; simp at h
        go_roundw
        case rel => exact ⟨3, by omega, rfl, below_drewN (hb2.alloc hsz _) _, by unfold Hid at hq ⊢; simp at hq ⊢; omega⟩
        case measure => simp [intOf]
    · go_wp2_with fail
      go_quiet (fail)
      rw [← HD.out]
      go_wp2_with fail
      · have h : (d == (114 : Int)) = true := by assumption
        have hc : d = 114 := by simpa using h
        go_ret3
        exact ⟨ret_three (by rw [hc]; rfl) (by rw [hc]; rfl) (by rw [hc]; rfl), below_drewN (hb2.alloc hsz _) _⟩
      · have h : (d == (114 : Int)) = false := by assumption
        have hc : d ≠ 114 := by intro e; rw [e] at h; simp at h
        go_roundw
        case rel => exact ⟨4, by omega, rfl, below_drewN (hb2.alloc hsz _) _, by unfold Hid at hq ⊢; simp at hq ⊢; omega⟩
        case measure => simp [intOf]
    · go_wp2_with fail
      go_quiet (fail)
      rw [← HD.out]
      go_wp2_with fail
      · have h : (d == (116 : Int)) = true := by assumption
        have hc : d = 116 := by simpa using h
        go_ret3
        exact ⟨ret_three (by rw [hc]; rfl) (by rw [hc]; rfl) (by rw [hc]; rfl), below_drewN (hb2.alloc hsz _) _⟩
      · have h : (d == (116 : Int)) = false := by assumption
        have hc : d ≠ 116 := by intro e; rw [e] at h; simp at h
        go_roundw
        case rel => exact ⟨5, by omega, rfl, below_drewN (hb2.alloc hsz _) _, by unfold Hid at hq ⊢; simp at hq ⊢; omega⟩
        case measure => simp [intOf]
    · go_wp2_with fail
      go_ret3
      unfold Hid at hq
      simp at hq
      have hub : unB d = false := by unfold unB; rw [decide_eq_false (by omega)]
      exact ⟨ret_three (by unfold unV; rw [if_neg (by omega), if_neg (by omega), if_neg (by omega), if_neg (by omega), if_neg (by omega)]; rfl) (by unfold unN; rw [hub]; rfl) (by rw [hub]; rfl), hb2⟩
end Go.Proofs.YtocmnobcccjenaaDoor
