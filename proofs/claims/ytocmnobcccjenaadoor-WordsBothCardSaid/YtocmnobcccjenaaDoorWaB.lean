/- Loops over the bytes of a string that only read: isNatural, decimal, Name, bare, bareWidth. -/
import Derived.Test.YtocmnobcccjenaaDoorWaA2
import Derived.Deep.Cut
import Derived.Deep.CutBlock
import Derived.Deep.CutRange
import Derived.Deep.DeepCutAuto
namespace Go.Proofs.YtocmnobcccjenaaDoor
open Go.RowKit

/-- The decimal form of a natural number, of any size. -/
def natB (l : List UInt8) : Bool := l.all dg8 && (l == [48] || (l != [] && l.head? != some 48))

theorem natB_48 (s : ByteArray) (h : s.toList = [48]) (ha : (byt s).all dg8 = true) : natB (byt s) = true := by
  rw [byt_eq] at h; unfold natB; rw [ha, h]; rfl
theorem natB_nil (s : ByteArray) (h : s.toList = []) : natB (byt s) = false := by
  rw [byt_eq] at h; unfold natB; rw [h]; rfl
theorem natB_no (s : ByteArray) (ha : (byt s).all dg8 = false) : natB (byt s) = false := by unfold natB; rw [ha]; rfl
theorem natB_cons (s : ByteArray) (h0 : 0 < s.size) (ha : (byt s).all dg8 = true) :
   (s.toList == [48] || !s.toList.isEmpty && (s[0].toNat : Int) != 48) = natB (byt s) := by
  unfold natB; rw [ha, byt_eq, Bool.true_and, byt_cons s h0]
  congr 1
  simp
  rw [Bool.eq_iff_iff]; simp
  constructor
  · intro h e; rw [e] at h; simp at h
  · intro h e; apply h; apply UInt8.toNat_inj.1; simp; omega

set_option maxHeartbeats 400000 in
theorem isNatural_any (s : ByteArray) (w : World) (hs : s.size ≤ 9223372036854775807) :
    Calls Tryd.prog 42 #[.string s] w fun e w' => e = .returned (.bool (natB (byt s))) ∧ w = w' := by
  go_enter Tryd.func42, Tryd.ntmps42
  go_wp2
  go_loop [6] (fun i => ∃ k : Nat, k ≤ s.size ∧ i = .int .i64 k ∧ Hid (((byt s).take k).all dg8 = true)) (fun i => s.size - (intOf i).toNat)
  case atStart => exact ⟨0, Nat.zero_le _, rfl, by simp [Hid]⟩
  case round =>
    obtain ⟨k, hk, rfl, hq⟩ := hrel
    by_cases hlt : k < s.size
    · have ha := all_snoc dg8 s k hlt
      have hn := all_no dg8 s k hlt
      have Ha := Lib.hid ha; clear ha
      have Hn := Lib.hid hn; clear hn
      go_wp2_with (go_at_call 30; refine (isDigit_b _ _).mono ?_; rintro e w' ⟨rfl, rfl⟩)
      · go_ret
        exact ⟨ret_bool (natB_no s (Hn.out (nt (by assumption)))).symm, rfl⟩
      · go_round
        case rel => exact ⟨k + 1, by omega, by go_num, by unfold Hid; rw [Ha.out, hq.out, nf (b := dg8 s[k]) (by assumption)]; rfl⟩
        case measure => simp [intOf]; omega
    · have hall : Hid ((byt s).all dg8 = true) := by unfold Hid; rw [← all_of_take dg8 s k (by omega)]; exact hq
      clear hq
      by_cases h0 : 0 < s.size
      · go_wp2
        · go_ret; exact ⟨ret_bool (natB_48 s (by assumption) hall.out).symm, rfl⟩
        · go_ret; exact ⟨ret_bool (natB_nil s (by assumption)).symm, rfl⟩
        · go_ret; exact ⟨ret_bool (natB_cons s h0 hall.out), rfl⟩
      · go_wp2
        · go_ret; exact ⟨ret_bool (natB_48 s (by assumption) hall.out).symm, rfl⟩
        · go_ret; exact ⟨ret_bool (natB_nil s (by assumption)).symm, rfl⟩
        · exact absurd (nil_of_size s h0) (by assumption)

/-- ref: the decimal form of an integer, of any size. -/
def decB (l : List UInt8) : Bool :=
  if l.head? = some 45 ∧ l[1]? ≠ some 48 ∧ 1 < l.length then natB l.tail else natB l

theorem byt_tail (s : ByteArray) : byt (s.extract 1 s.size) = (byt s).tail := by
  simp only [byt, ByteArray.data_extract, Array.toList_extract, List.extract_eq_take_drop, List.drop_one]
  exact List.take_of_length_le (by simp)

theorem decB_neg (s : ByteArray) (h0 : 1 < s.size) (ha : ((s[0].toNat : Int) == 45) = true) (hb : ((s[1].toNat : Int) != 48) = true) : decB (byt s) = natB (byt (s.extract 1 s.size)) := by
  have h1 : (byt s)[1]? = some s[1] := by rw [List.getElem?_eq_getElem (by rw [byt_len]; exact h0)]; rfl
  unfold decB
  rw [byt_tail, if_pos]
  refine ⟨?_, ?_, by rw [byt_len]; exact h0⟩
  · rw [byt_cons s (by omega)]; simp at ha; simp; rw [← UInt8.toNat_inj]; simp; omega
  · rw [h1]; simp at hb; simp; rw [← UInt8.toNat_inj]; simp; omega
theorem decB_pos (s : ByteArray) (h : ¬ 1 < s.size ∨ ∃ h0 : 1 < s.size, ((s[0].toNat : Int) == 45) = false ∨ ((s[1].toNat : Int) != 48) = false) : decB (byt s) = natB (byt s) := by
  unfold decB; rw [if_neg]
  rintro ⟨ha, hb, hc⟩
  rw [byt_len] at hc
  rcases h with h | ⟨h0, h | h⟩
  · exact h hc
  · rw [byt_cons s (by omega)] at ha; simp at ha; simp [ha] at h
  · have h1 : (byt s)[1]? = some s[1] := by rw [List.getElem?_eq_getElem (by rw [byt_len]; exact h0)]; rfl
    rw [h1] at hb; apply hb; simp at h; congr 1; rw [← UInt8.toNat_inj] ; simp; omega

theorem natR_nil (t : ByteArray) (h : ¬ 0 < t.size) : natB (byt t) = false := by
  apply natB_nil; exact nil_of_size t h
theorem natR_zero (t : ByteArray) (h : 1 < t.size) (hz : ((t[0].toNat : Int) == 48) = true) : natB (byt t) = false := by
  unfold natB
  have h0 : t[0] = 48 := by simp at hz; rw [← UInt8.toNat_inj]; simp; omega
  have hl : (byt t).length = t.size := byt_len t
  rw [byt_cons t (by omega)] at hl ⊢
  rw [h0]; have hl' := hl; simp only [List.length_cons] at hl'; simp
  intro _ _ h2; rw [h2] at hl'; simp at hl'; omega
theorem natR_all (t : ByteArray) (h0 : 0 < t.size) (h : ¬ 1 < t.size ∨ ((t[0].toNat : Int) == 48) = false) (ha : (byt t).all dg8 = true) : natB (byt t) = true := by
  rw [← natB_cons t h0 ha]
  by_cases hz : ((t[0].toNat : Int) == 48) = false
  · have : t.toList ≠ [] := by rw [byt_eq, byt_cons t h0]; simp
    simp at hz; simp [this, hz]
  · have h1 : ¬ 1 < t.size := by rcases h with h | h; exact h; exact absurd h hz
    have hb : t[0] = 48 := by simp at hz; rw [← UInt8.toNat_inj]; simp; omega
    have : t.toList = [48] := by
      rw [byt_eq]
      have hl : (byt t).length = t.size := byt_len t
      rw [byt_cons t h0] at hl ⊢
      simp at hl
      rw [hb, List.eq_nil_of_length_eq_zero (l := (byt t).tail) (by simp; omega)]
    simp [this]

theorem dec_cases (t : ByteArray) : ¬ 0 < t.size ∨ (∃ _ : 1 < t.size, ((t[0].toNat : Int) == 48) = true) ∨ (∃ _ : 0 < t.size, 1 < t.size ∧ ((t[0].toNat : Int) == 48) = false) ∨ (0 < t.size ∧ ¬ 1 < t.size) := by
  by_cases h0 : 0 < t.size
  · by_cases h1 : 1 < t.size
    · cases hz : ((t[0].toNat : Int) == 48)
      · exact .inr (.inr (.inl ⟨h0, h1, hz⟩))
      · exact .inr (.inl ⟨h1, hz⟩)
    · exact .inr (.inr (.inr ⟨h0, h1⟩))
  · exact .inl h0

end Go.Proofs.YtocmnobcccjenaaDoor
