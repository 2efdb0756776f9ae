/- Name, of words and of the reference; bare and bareWidth. -/
import Derived.Test.YtocmnobcccjenaaDoorWaB
namespace Go.Proofs.YtocmnobcccjenaaDoor
open Go.RowKit

def nm8 (c : UInt8) : Bool := lt8 c || dg8 c || c == 45
/-- A name. -/
def nameB (l : List UInt8) : Bool := decide (1 ≤ l.length ∧ l.length ≤ 16) && (l.head?.map lt8 == some true) && l.all nm8

theorem nm8_t {c : UInt8} (h : lt8 c = true ∨ (dg8 c = true ∨ ((c.toNat : Int) != 45) = false)) : nm8 c = true := by
  unfold nm8; rcases h with h | h | h
  · simp [h]
  · simp [h]
  · have : c = 45 := by rw [← UInt8.toNat_inj]; simp at h; simp; omega
    simp [this]
theorem nm8_f {c : UInt8} (h : lt8 c = false) (h2 : dg8 c = false) (h3 : ((c.toNat : Int) != 45) = true) : nm8 c = false := by
  unfold nm8; rw [h, h2]; simp at h3; simp; intro e; rw [e] at h3; simp at h3
theorem name_len (s : ByteArray) (h : ¬ 0 < s.size ∨ ¬ s.size ≤ 16) : nameB (byt s) = false := by
  unfold nameB; rw [byt_len, decide_eq_false (by omega)]; rfl
theorem name_head (s : ByteArray) (h0 : 0 < s.size) (hl : lt8 s[0] = false) : nameB (byt s) = false := by
  unfold nameB; rw [byt_cons s h0]; simp [hl]
theorem name_no (s : ByteArray) (ha : (byt s).all nm8 = false) : nameB (byt s) = false := by
  unfold nameB; rw [ha]; simp
theorem name_yes (s : ByteArray) (h0 : 0 < s.size) (h16 : s.size ≤ 16) (hl : lt8 s[0] = true) (ha : (byt s).all nm8 = true) : nameB (byt s) = true := by
  unfold nameB; rw [ha, byt_len, decide_eq_true (by omega), byt_cons s h0]; simp [hl]
theorem ne_nil_of_size (s : ByteArray) (h : 0 < s.size) : ¬ s.toList = [] := by rw [byt_eq, byt_cons s h]; simp
theorem not_empty_of_size (s : ByteArray) (h : 0 < s.size) : s.toList.isEmpty = false := by rw [byt_eq, byt_cons s h]; simp

set_option maxHeartbeats 2000000 in
theorem name_any (s : ByteArray) (w : World) (hs : s.size ≤ 9223372036854775807) :
    Calls Tryd.prog 14 #[.string s] w fun e w' => e = .returned (.bool (nameB (byt s))) ∧ w = w' := by
  by_cases h0 : 0 < s.size
  · have hne := ne_nil_of_size s h0
    have hem := not_empty_of_size s h0
    by_cases h16 : s.size ≤ 16
    · cases hl : lt8 s[0]
      · have HF := Lib.hid (name_head s h0 hl)
        go_enter Tryd.func14, Tryd.ntmps14
        go_wp2_with (go_at_call 29; refine (isLetter_b _ _).mono ?_; rintro e w' ⟨rfl, rfl⟩)
        go_ret; exact ⟨ret_bool HF.out.symm, rfl⟩
      · have HY := Lib.hid (name_yes s h0 h16 hl)
        go_enter Tryd.func14, Tryd.ntmps14
        go_wp2_with (go_at_call 29; refine (isLetter_b _ _).mono ?_; rintro e w' ⟨rfl, rfl⟩)
        clear hl
        go_loop [19] (fun i => ∃ k : Nat, k ≤ s.size ∧ i = .int .i64 k ∧ Hid (((byt s).take k).all nm8 = true)) (fun i => s.size - (intOf i).toNat)
        case atStart => exact ⟨0, Nat.zero_le _, rfl, by simp [Hid]⟩
        case round =>
          obtain ⟨k, hk, rfl, hq⟩ := hrel
          by_cases hlt : k < s.size
          · have Ha := Lib.hid (all_snoc nm8 s k hlt)
            have Hn := Lib.hid (all_no nm8 s k hlt)
            go_wp2_with (first | (go_at_call 29; refine (isLetter_b _ _).mono ?_; rintro e w' ⟨rfl, rfl⟩) | (go_at_call 30; refine (isDigit_b _ _).mono ?_; rintro e w' ⟨rfl, rfl⟩))
            all_goals first
              | (go_ret; exact ⟨ret_bool (name_no s (Hn.out (nm8_f (eq_false_of_ne_true (by assumption)) (eq_false_of_ne_true (by assumption)) (by assumption)))).symm, rfl⟩)
              | (go_round
                 case rel => exact ⟨k + 1, by omega, by go_num, by unfold Hid; rw [Ha.out, hq.out, nm8_t (c := s[k]) (by first | exact Or.inl (by assumption) | exact Or.inr (Or.inl (by assumption)) | exact Or.inr (Or.inr (by assumption)))]; rfl⟩
                 case measure => simp [intOf]; try omega)
          · have hall : Hid ((byt s).all nm8 = true) := by unfold Hid; rw [← all_of_take nm8 s k (by omega)]; exact hq
            clear hq
            go_wp2
            go_ret; exact ⟨ret_bool (HY.out hall.out).symm, rfl⟩
    · have HF := Lib.hid (name_len s (.inr h16))
      go_enter Tryd.func14, Tryd.ntmps14
      go_wp2_with (go_at_call 29; refine (isLetter_b _ _).mono ?_; rintro e w' ⟨rfl, rfl⟩)
      go_ret; exact ⟨ret_bool HF.out.symm, rfl⟩
  · have HF := Lib.hid (name_len s (.inl h0))
    have hnl := nil_of_size s h0
    have hz0 : s.size = 0 := by omega
    have hlt1 : (s.size : Int) < 1 := by omega
    go_enter Tryd.func14, Tryd.ntmps14
    go_wp2_with (go_at_call 29; refine (isLetter_b _ _).mono ?_; rintro e w' ⟨rfl, rfl⟩)
    go_ret; exact ⟨ret_bool HF.out.symm, rfl⟩

end Go.Proofs.YtocmnobcccjenaaDoor
