/- Names: what a byte is; Name, of words and of the reference. -/
import Derived.Test.YtablaacddbkeiaaGreatDoorRows
import Derived.Test.YtablaacddbkeiaaGreatDoorLtA
import Derived.WalkKit
import Derived.WalkSpells
import Derived.WalkLawsBesides
import Derived.Lib.Hide
import Derived.Lib.Strings
import Derived.Deep.Cut
import Derived.Deep.CutBlock
import Derived.Deep.CutRange
import Derived.Deep.DeepCutAuto
namespace Go.Proofs.YtablaacddbkeiaaGreatDoor
open Go.RowKit

def letB (c : Int) : Bool := decide (97 ≤ c ∧ c ≤ 122)
def digB (c : Int) : Bool := decide (48 ≤ c ∧ c ≤ 57)
def plainB (c : Int) : Bool := decide (32 ≤ c ∧ c ≤ 126 ∧ c ≠ 34 ∧ c ≠ 92)

theorem ret_bool {a b : Bool} (h : a = b) : Ending.returned (.bool a) = .returned (.bool b) := by rw [h]

set_option maxHeartbeats 400000 in
theorem isLetter_any (c : Int) (w : World) (h0 : 0 ≤ c) (h1 : c ≤ 255) :
    Calls Tryz.prog 89 #[.int .u8 c] w fun e w' => e = .returned (.bool (letB c)) ∧ w = w' := by
  go_enter Tryz.func89, Tryz.ntmps89
  go_wp2
  all_goals (go_ret; exact ⟨ret_bool (by rw [Bool.eq_iff_iff]; simp [letB]; try omega), rfl⟩)

set_option maxHeartbeats 400000 in
theorem isDigit_any (c : Int) (w : World) (h0 : 0 ≤ c) (h1 : c ≤ 255) :
    Calls Tryz.prog 90 #[.int .u8 c] w fun e w' => e = .returned (.bool (digB c)) ∧ w = w' := by
  go_enter Tryz.func90, Tryz.ntmps90
  go_wp2
  all_goals (go_ret; exact ⟨ret_bool (by rw [Bool.eq_iff_iff]; simp [digB]; try omega), rfl⟩)

set_option maxHeartbeats 400000 in
theorem lower_any (c : Int) (w : World) (h0 : 0 ≤ c) (h1 : c ≤ 255) :
    Calls Tryz.prog 96 #[.int .u8 c] w fun e w' => e = .returned (.bool (letB c)) ∧ w = w' := by
  go_enter Tryz.func96, Tryz.ntmps96
  go_wp2
  all_goals (go_ret; exact ⟨ret_bool (by rw [Bool.eq_iff_iff]; simp [letB]; try omega), rfl⟩)

set_option maxHeartbeats 400000 in
theorem digit_any (c : Int) (w : World) (h0 : 0 ≤ c) (h1 : c ≤ 255) :
    Calls Tryz.prog 97 #[.int .u8 c] w fun e w' => e = .returned (.bool (digB c)) ∧ w = w' := by
  go_enter Tryz.func97, Tryz.ntmps97
  go_wp2
  all_goals (go_ret; exact ⟨ret_bool (by rw [Bool.eq_iff_iff]; simp [digB]; try omega), rfl⟩)


def lt8 (c : UInt8) : Bool := letB c.toNat
def dg8 (c : UInt8) : Bool := digB c.toNat
def pl8 (c : UInt8) : Bool := plainB c.toNat
theorem u8_lt (c : UInt8) : (c.toNat : Int) ≤ 255 := by have := c.toNat_lt; omega
theorem isLetter_b (c : UInt8) (w : World) : Calls Tryz.prog 89 #[.int .u8 c.toNat] w fun e w' => e = .returned (.bool (lt8 c)) ∧ w = w' := isLetter_any _ w (by omega) (u8_lt c)
theorem isDigit_b (c : UInt8) (w : World) : Calls Tryz.prog 90 #[.int .u8 c.toNat] w fun e w' => e = .returned (.bool (dg8 c)) ∧ w = w' := isDigit_any _ w (by omega) (u8_lt c)
theorem lower_b (c : UInt8) (w : World) : Calls Tryz.prog 96 #[.int .u8 c.toNat] w fun e w' => e = .returned (.bool (lt8 c)) ∧ w = w' := lower_any _ w (by omega) (u8_lt c)
theorem digit_b (c : UInt8) (w : World) : Calls Tryz.prog 97 #[.int .u8 c.toNat] w fun e w' => e = .returned (.bool (dg8 c)) ∧ w = w' := digit_any _ w (by omega) (u8_lt c)

theorem nt {b : Bool} (h : (!b) = true) : b = false := by simpa using h
theorem nf {b : Bool} (h : (!b) = false) : b = true := by simpa using h
/-- The bytes of a string. -/
def byt (s : ByteArray) : List UInt8 := s.data.toList
theorem byt_eq (s : ByteArray) : s.toList = byt s := Lib.toList_data s
theorem byt_len (s : ByteArray) : (byt s).length = s.size := by simp [byt]
theorem byt_get (s : ByteArray) (k : Nat) (h : k < s.size) : (byt s)[k]'(by rw [byt_len]; exact h) = s[k] := rfl
theorem take_snoc (s : ByteArray) (k : Nat) (h : k < s.size) : (byt s).take (k + 1) = (byt s).take k ++ [s[k]] := by
  rw [List.take_succ_eq_append_getElem (by simpa [byt] using h)]; rfl
theorem all_snoc (p : UInt8 → Bool) (s : ByteArray) (k : Nat) (h : k < s.size) : ((byt s).take (k + 1)).all p = (((byt s).take k).all p && p s[k]) := by
  rw [take_snoc s k h]; simp
theorem all_of_take (p : UInt8 → Bool) (s : ByteArray) (k : Nat) (h : s.size ≤ k) : ((byt s).take k).all p = (byt s).all p := by
  rw [List.take_of_length_le (by rw [byt_len]; exact h)]
theorem all_no (p : UInt8 → Bool) (s : ByteArray) (k : Nat) (h : k < s.size) (hp : p s[k] = false) : (byt s).all p = false := by
  rw [← List.take_append_drop (k+1) (byt s), List.all_append, all_snoc p s k h, hp]; simp
theorem byt_cons (s : ByteArray) (h : 0 < s.size) : byt s = s[0] :: (byt s).tail := by
  have := byt_get s 0 h
  match hb : byt s, byt_len s with
  | [], hl => simp at hl; omega
  | a :: r, _ => simp only [hb] at this; simpa using this
theorem nil_of_size (s : ByteArray) (h : ¬ 0 < s.size) : s.toList = [] := by
  rw [byt_eq]; exact List.eq_nil_of_length_eq_zero (by rw [byt_len]; omega)
theorem byt_mk (l : List UInt8) : byt ⟨l.toArray⟩ = l := by simp [byt]
theorem size_mk (l : List UInt8) : (⟨l.toArray⟩ : ByteArray).size = l.length := by simp [ByteArray.size]
theorem mk_byt (s : ByteArray) : (⟨(byt s).toArray⟩ : ByteArray) = s := by simp [byt]
theorem ret_i64' {a b : Int} (h : a = b) : Ending.returned (.int .i64 a) = .returned (.int .i64 b) := by rw [h]
theorem ret_two {a b c d : Value} (h : a = c) (k : b = d) : Ending.returned (.tuple #[a, b]) = .returned (.tuple #[c, d]) := by rw [h, k]

def nm8 (c : UInt8) : Bool := lt8 c || dg8 c || c == 45
/-- A name. -/
def nameB (l : List UInt8) : Bool := decide (1 ≤ l.length ∧ l.length ≤ 16) && (l.head?.map lt8 == some true) && l.all nm8

theorem nm8_t {c : UInt8} (h : lt8 c = true ∨ (dg8 c = true ∨ ((c.toNat : Int) != 45) = false)) : nm8 c = true := by
  unfold nm8; rcases h with h | h | h
  · simp [h]
  · simp [h]
  · have : c = 45 := by rw [← UInt8.toNat_inj]; simp at h; simp; omega
    simp [this]
theorem nm8_f {c : UInt8} (h : lt8 c = false) (h2 : dg8 c = false) (h3 : ((c.toNat : Int) != 45) = true) : nm8 c = false := by
  unfold nm8; rw [h, h2]; simp at h3; simp; intro e; rw [e] at h3; simp at h3
theorem name_len (s : ByteArray) (h : ¬ 0 < s.size ∨ ¬ s.size ≤ 16) : nameB (byt s) = false := by
  unfold nameB; rw [byt_len, decide_eq_false (by omega)]; rfl
theorem name_head (s : ByteArray) (h0 : 0 < s.size) (hl : lt8 s[0] = false) : nameB (byt s) = false := by
  unfold nameB; rw [byt_cons s h0]; simp [hl]
theorem name_no (s : ByteArray) (ha : (byt s).all nm8 = false) : nameB (byt s) = false := by
  unfold nameB; rw [ha]; simp
theorem name_yes (s : ByteArray) (h0 : 0 < s.size) (h16 : s.size ≤ 16) (hl : lt8 s[0] = true) (ha : (byt s).all nm8 = true) : nameB (byt s) = true := by
  unfold nameB; rw [ha, byt_len, decide_eq_true (by omega), byt_cons s h0]; simp [hl]
theorem ne_nil_of_size (s : ByteArray) (h : 0 < s.size) : ¬ s.toList = [] := by rw [byt_eq, byt_cons s h]; simp
theorem not_empty_of_size (s : ByteArray) (h : 0 < s.size) : s.toList.isEmpty = false := by rw [byt_eq, byt_cons s h]; simp

set_option maxHeartbeats 2000000 in
theorem name_any (s : ByteArray) (w : World) (hs : s.size ≤ 9223372036854775807) :
    Calls Tryz.prog 74 #[.string s] w fun e w' => e = .returned (.bool (nameB (byt s))) ∧ w = w' := by
  by_cases h0 : 0 < s.size
  · have hne := ne_nil_of_size s h0
    have hem := not_empty_of_size s h0
    by_cases h16 : s.size ≤ 16
    · cases hl : lt8 s[0]
      · have HF := Lib.hid (name_head s h0 hl)
        go_enter Tryz.func74, Tryz.ntmps74
        go_wp2_with (go_at_call 89; refine (isLetter_b _ _).mono ?_; rintro e w' ⟨rfl, rfl⟩)
        go_ret; exact ⟨ret_bool HF.out.symm, rfl⟩
      · have HY := Lib.hid (name_yes s h0 h16 hl)
        go_enter Tryz.func74, Tryz.ntmps74
        go_wp2_with (go_at_call 89; refine (isLetter_b _ _).mono ?_; rintro e w' ⟨rfl, rfl⟩)
        clear hl
        go_loop [19] (fun i => ∃ k : Nat, k ≤ s.size ∧ i = .int .i64 k ∧ Hid (((byt s).take k).all nm8 = true)) (fun i => s.size - (intOf i).toNat)
        case atStart => exact ⟨0, Nat.zero_le _, rfl, by simp [Hid]⟩
        case round =>
          obtain ⟨k, hk, rfl, hq⟩ := hrel
          by_cases hlt : k < s.size
          · have Ha := Lib.hid (all_snoc nm8 s k hlt)
            have Hn := Lib.hid (all_no nm8 s k hlt)
            go_wp2_with (first | (go_at_call 89; refine (isLetter_b _ _).mono ?_; rintro e w' ⟨rfl, rfl⟩) | (go_at_call 90; refine (isDigit_b _ _).mono ?_; rintro e w' ⟨rfl, rfl⟩))
            all_goals first
              | (go_ret; exact ⟨ret_bool (name_no s (Hn.out (nm8_f (eq_false_of_ne_true (by assumption)) (eq_false_of_ne_true (by assumption)) (by assumption)))).symm, rfl⟩)
              | (go_round
                 case rel => exact ⟨k + 1, by omega, by go_num, by unfold Hid; rw [Ha.out, hq.out, nm8_t (c := s[k]) (by first | exact Or.inl (by assumption) | exact Or.inr (Or.inl (by assumption)) | exact Or.inr (Or.inr (by assumption)))]; rfl⟩
                 case measure => simp [intOf]; try omega)
          · have hall : Hid ((byt s).all nm8 = true) := by unfold Hid; rw [← all_of_take nm8 s k (by omega)]; exact hq
            clear hq
            go_wp2
            go_ret; exact ⟨ret_bool (HY.out hall.out).symm, rfl⟩
    · have HF := Lib.hid (name_len s (.inr h16))
      go_enter Tryz.func74, Tryz.ntmps74
      go_wp2_with (go_at_call 89; refine (isLetter_b _ _).mono ?_; rintro e w' ⟨rfl, rfl⟩)
      go_ret; exact ⟨ret_bool HF.out.symm, rfl⟩
  · have HF := Lib.hid (name_len s (.inl h0))
    have hnl := nil_of_size s h0
    have hz0 : s.size = 0 := by omega
    have hlt1 : (s.size : Int) < 1 := by omega
    go_enter Tryz.func74, Tryz.ntmps74
    go_wp2_with (go_at_call 89; refine (isLetter_b _ _).mono ?_; rintro e w' ⟨rfl, rfl⟩)
    go_ret; exact ⟨ret_bool HF.out.symm, rfl⟩

set_option maxHeartbeats 2000000 in
theorem rname_any (s : ByteArray) (w : World) (hs : s.size ≤ 9223372036854775807) :
    Calls Tryz.prog 80 #[.string s] w fun e w' => e = .returned (.bool (nameB (byt s))) ∧ w = w' := by
  by_cases h0 : 0 < s.size
  · have hne := ne_nil_of_size s h0
    have hem := not_empty_of_size s h0
    by_cases h16 : s.size ≤ 16
    · cases hl : lt8 s[0]
      · have HF := Lib.hid (name_head s h0 hl)
        go_enter Tryz.func80, Tryz.ntmps80
        go_wp2_with (go_at_call 96; refine (lower_b _ _).mono ?_; rintro e w' ⟨rfl, rfl⟩)
        go_ret; exact ⟨ret_bool HF.out.symm, rfl⟩
      · have HY := Lib.hid (name_yes s h0 h16 hl)
        go_enter Tryz.func80, Tryz.ntmps80
        go_wp2_with (go_at_call 96; refine (lower_b _ _).mono ?_; rintro e w' ⟨rfl, rfl⟩)
        clear hl
        go_loop [3] (fun i => ∃ k : Nat, k ≤ s.size ∧ i = .int .i64 k ∧ Hid (((byt s).take k).all nm8 = true)) (fun i => s.size - (intOf i).toNat)
        case atStart => exact ⟨0, Nat.zero_le _, rfl, by simp [Hid]⟩
        case round =>
          obtain ⟨k, hk, rfl, hq⟩ := hrel
          by_cases hlt : k < s.size
          · have Ha := Lib.hid (all_snoc nm8 s k hlt)
            have Hn := Lib.hid (all_no nm8 s k hlt)
            go_wp2_with (first | (go_at_call 96; refine (lower_b _ _).mono ?_; rintro e w' ⟨rfl, rfl⟩) | (go_at_call 97; refine (digit_b _ _).mono ?_; rintro e w' ⟨rfl, rfl⟩))
            all_goals first
              | (go_ret; exact ⟨ret_bool (name_no s (Hn.out (nm8_f (eq_false_of_ne_true (by assumption)) (eq_false_of_ne_true (by assumption)) (by assumption)))).symm, rfl⟩)
              | (go_round
                 case rel => exact ⟨k + 1, by omega, by go_num, by unfold Hid; rw [Ha.out, hq.out, nm8_t (c := s[k]) (by first | exact Or.inl (by assumption) | exact Or.inr (Or.inl (by assumption)) | exact Or.inr (Or.inr (by assumption)))]; rfl⟩
                 case measure => simp [intOf]; try omega)
          · have hall : Hid ((byt s).all nm8 = true) := by unfold Hid; rw [← all_of_take nm8 s k (by omega)]; exact hq
            clear hq
            go_wp2
            go_ret; exact ⟨ret_bool (HY.out hall.out).symm, rfl⟩
    · have HF := Lib.hid (name_len s (.inr h16))
      go_enter Tryz.func80, Tryz.ntmps80
      go_wp2_with (go_at_call 96; refine (lower_b _ _).mono ?_; rintro e w' ⟨rfl, rfl⟩)
      go_ret; exact ⟨ret_bool HF.out.symm, rfl⟩
  · have HF := Lib.hid (name_len s (.inl h0))
    have hnl := nil_of_size s h0
    have hz0 : s.size = 0 := by omega
    have hlt1 : (s.size : Int) < 1 := by omega
    go_enter Tryz.func80, Tryz.ntmps80
    go_wp2_with (go_at_call 96; refine (lower_b _ _).mono ?_; rintro e w' ⟨rfl, rfl⟩)
    go_ret; exact ⟨ret_bool HF.out.symm, rfl⟩

end Go.Proofs.YtablaacddbkeiaaGreatDoor
