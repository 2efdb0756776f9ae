/- Several texts as one (a claim has at most 60 files): RuA, RuB, RuC, RuL, RuD, RuE, RuG, RuM, RuN, RuR, RuX, RuY. -/
import GoSem.Op.String
import Derived.Test.YtpbfbejckhbijaaGreatDoorRows
import Derived.WalkKit
import Derived.WalkSpells
import Derived.WalkLawsBesides
import Derived.Below
import Derived.Lib.Hide
import Derived.Lib.DecodeNEq
import Derived.Laws.BitsLemmas
import Derived.Deep.RegionLaw
import Derived.Deep.AppendLies
import Derived.RangeFuncRecord
import Derived.RangeFuncBox
import Derived.Deep.QuietTactic
import Derived.BigQuiet
import Derived.Laws.AppendOwnNone
import Derived.OwnWalk
namespace Go.Proofs.YtpbfbejckhbijaaGreatDoor.Ru

def isR (r : Int) : Bool := decide ((0 ≤ r ∧ r < 55296) ∨ (57343 < r ∧ r ≤ 1114111))
def gb (l : List UInt8) (i : Nat) : Nat := (l.getD i 0).toNat
/-- Rune, width, error of the bytes at the head: n bytes, the first four (0 beyond the end). -/
def decT (n b0 b1 b2 b3 : Nat) : Nat × Nat × Nat :=
  if b0 < 128 then (b0, 1, 0)
  else if b0 < 194 then (0, 0, 6)
  else if b0 < 224 then
    (if n < 2 then (0, 0, 370) else if b1 / 64 = 2 then (b0 % 32 * 64 + b1 % 64, 2, 0) else (0, 0, 6))
  else if b0 < 240 then
    (if n < 2 then (0, 0, 370) else if b1 / 64 ≠ 2 ∨ (b0 = 224 ∧ b1 < 160) ∨ (b0 = 237 ∧ 159 < b1) then (0, 0, 6)
     else if n < 3 then (0, 0, 370) else if b2 / 64 = 2 then (b0 % 16 * 4096 + b1 % 64 * 64 + b2 % 64, 3, 0) else (0, 0, 6))
  else if b0 < 245 then
    (if n < 2 then (0, 0, 370) else if b1 / 64 ≠ 2 ∨ (b0 = 240 ∧ b1 < 144) ∨ (b0 = 244 ∧ 143 < b1) then (0, 0, 6)
     else if n < 3 then (0, 0, 370) else if b2 / 64 ≠ 2 then (0, 0, 6)
     else if n < 4 then (0, 0, 370) else if b3 / 64 = 2 then (b0 % 8 * 262144 + b1 % 64 * 4096 + b2 % 64 * 64 + b3 % 64, 4, 0) else (0, 0, 6))
  else (0, 0, 6)
def dec (l : List UInt8) : Nat × Nat × Nat := if l = [] then (0, 0, 7) else decT l.length (gb l 0) (gb l 1) (gb l 2) (gb l 3)

def encN (r : Nat) : List Nat :=
  if r < 128 then [r] else if r < 2048 then [192 + r / 64, 128 + r % 64]
  else if r < 65536 then [224 + r / 4096, 128 + r / 64 % 64, 128 + r % 64]
  else [240 + r / 262144, 128 + r / 4096 % 64, 128 + r / 64 % 64, 128 + r % 64]
def enc (r : Nat) : List UInt8 := (encN r).map UInt8.ofNat

theorem gb0 (c : UInt8) (l) : gb (c :: l) 0 = c.toNat := rfl
theorem gb1 (a c : UInt8) (l) : gb (a :: c :: l) 1 = c.toNat := rfl
theorem gb2 (a b c : UInt8) (l) : gb (a :: b :: c :: l) 2 = c.toNat := rfl
theorem gb3 (a b d c : UInt8) (l) : gb (a :: b :: d :: c :: l) 3 = c.toNat := rfl
theorem on (n : Nat) (h : n < 256) : (UInt8.ofNat n).toNat = n := by simp; omega
theorem gb_lt (l : List UInt8) (i : Nat) : gb l i < 256 := UInt8.toNat_lt _

theorem decT_ok (n b0 b1 b2 b3 : Nat) (h : (decT n b0 b1 b2 b3).2.2 = 0) :
    (b0 < 128 ∧ decT n b0 b1 b2 b3 = (b0, 1, 0)) ∨
    (2 ≤ n ∧ 194 ≤ b0 ∧ b0 < 224 ∧ b1 / 64 = 2 ∧ decT n b0 b1 b2 b3 = (b0 % 32 * 64 + b1 % 64, 2, 0)) ∨
    (3 ≤ n ∧ 224 ≤ b0 ∧ b0 < 240 ∧ b1 / 64 = 2 ∧ b2 / 64 = 2 ∧ ¬ (b0 = 224 ∧ b1 < 160) ∧ ¬ (b0 = 237 ∧ 159 < b1) ∧ decT n b0 b1 b2 b3 = (b0 % 16 * 4096 + b1 % 64 * 64 + b2 % 64, 3, 0)) ∨
    (4 ≤ n ∧ 240 ≤ b0 ∧ b0 < 245 ∧ b1 / 64 = 2 ∧ b2 / 64 = 2 ∧ b3 / 64 = 2 ∧ ¬ (b0 = 240 ∧ b1 < 144) ∧ ¬ (b0 = 244 ∧ 143 < b1) ∧ decT n b0 b1 b2 b3 = (b0 % 8 * 262144 + b1 % 64 * 4096 + b2 % 64 * 64 + b3 % 64, 4, 0)) := by
  unfold decT at h ⊢
  by_cases h0 : b0 < 128
  · rw [if_pos h0] at h ⊢; exact .inl ⟨h0, rfl⟩
  rw [if_neg h0] at h ⊢
  by_cases h1 : b0 < 194
  · rw [if_pos h1] at h; simp at h
  rw [if_neg h1] at h ⊢
  by_cases h2 : b0 < 224
  · rw [if_pos h2] at h ⊢
    by_cases hn : n < 2
    · rw [if_pos hn] at h; simp at h
    rw [if_neg hn] at h ⊢
    by_cases hb : b1 / 64 = 2
    · rw [if_pos hb] at h ⊢; exact .inr (.inl ⟨by omega, by omega, h2, hb, rfl⟩)
    · rw [if_neg hb] at h; simp at h
  rw [if_neg h2] at h ⊢
  by_cases h3 : b0 < 240
  · rw [if_pos h3] at h ⊢
    by_cases hn : n < 2
    · rw [if_pos hn] at h; simp at h
    rw [if_neg hn] at h ⊢
    by_cases hb : b1 / 64 ≠ 2 ∨ (b0 = 224 ∧ b1 < 160) ∨ (b0 = 237 ∧ 159 < b1)
    · rw [if_pos hb] at h; simp at h
    rw [if_neg hb] at h ⊢
    by_cases hn3 : n < 3
    · rw [if_pos hn3] at h; simp at h
    rw [if_neg hn3] at h ⊢
    by_cases hb2 : b2 / 64 = 2
    · rw [if_pos hb2] at h ⊢; exact .inr (.inr (.inl ⟨by omega, by omega, h3, by omega, hb2, by omega, by omega, rfl⟩))
    · rw [if_neg hb2] at h; simp at h
  rw [if_neg h3] at h ⊢
  by_cases h4 : b0 < 245
  · rw [if_pos h4] at h ⊢
    by_cases hn : n < 2
    · rw [if_pos hn] at h; simp at h
    rw [if_neg hn] at h ⊢
    by_cases hb : b1 / 64 ≠ 2 ∨ (b0 = 240 ∧ b1 < 144) ∨ (b0 = 244 ∧ 143 < b1)
    · rw [if_pos hb] at h; simp at h
    rw [if_neg hb] at h ⊢
    by_cases hn3 : n < 3
    · rw [if_pos hn3] at h; simp at h
    rw [if_neg hn3] at h ⊢
    by_cases hb2 : b2 / 64 ≠ 2
    · rw [if_pos hb2] at h; simp at h
    rw [if_neg hb2] at h ⊢
    by_cases hn4 : n < 4
    · rw [if_pos hn4] at h; simp at h
    rw [if_neg hn4] at h ⊢
    by_cases hb3 : b3 / 64 = 2
    · rw [if_pos hb3] at h ⊢; exact .inr (.inr (.inr ⟨by omega, by omega, h4, by omega, by omega, hb3, by omega, by omega, rfl⟩))
    · rw [if_neg hb3] at h; simp at h
  rw [if_neg h4] at h; simp at h

theorem encN_decT (n b0 b1 b2 b3 r k : Nat) (h : decT n b0 b1 b2 b3 = (r, k, 0)) (hn : 1 ≤ n) :
    isR r = true ∧ 1 ≤ k ∧ k ≤ n ∧ k ≤ 4 ∧ encN r = [b0, b1, b2, b3].take k := by
  have h0 : (decT n b0 b1 b2 b3).2.2 = 0 := by rw [h]
  rcases decT_ok n b0 b1 b2 b3 h0 with ⟨a, e⟩ | ⟨hn', a1, a2, a3, e⟩ | ⟨hn', a1, a2, a3, a4, a5, a6, e⟩ | ⟨hn', a1, a2, a3, a4, a5, a6, a7, e⟩
  all_goals
    rw [e] at h
    simp only [Prod.mk.injEq] at h
    obtain ⟨rfl, rfl, _⟩ := h
    refine ⟨by simp [isR]; omega, by omega, by omega, by omega, ?_⟩
    unfold encN
  · rw [if_pos a]; rfl
  · rw [if_neg (by omega), if_pos (by omega)]; simp; omega
  · rw [if_neg (by omega), if_neg (by omega), if_pos (by omega)]; simp; omega
  · rw [if_neg (by omega), if_neg (by omega), if_neg (by omega)]; simp; omega

theorem decT_encN (r n : Nat) (h : isR (r : Int) = true) :
    (r < 128 → ∀ b1 b2 b3, decT n r b1 b2 b3 = (r, 1, 0)) ∧
    (128 ≤ r → r < 2048 → 2 ≤ n → ∀ b2 b3, decT n (192 + r / 64) (128 + r % 64) b2 b3 = (r, 2, 0)) ∧
    (2048 ≤ r → r < 65536 → 3 ≤ n → ∀ b3, decT n (224 + r / 4096) (128 + r / 64 % 64) (128 + r % 64) b3 = (r, 3, 0)) ∧
    (65536 ≤ r → 4 ≤ n → decT n (240 + r / 262144) (128 + r / 4096 % 64) (128 + r / 64 % 64) (128 + r % 64) = (r, 4, 0)) := by
  simp [isR] at h
  refine ⟨?_, ?_, ?_, ?_⟩
  · intro h1 b1 b2 b3; unfold decT; rw [if_pos h1]
  · intro h1 h2 hn b2 b3; unfold decT
    rw [if_neg (by omega), if_neg (by omega), if_pos (by omega), if_neg (by omega), if_pos (by omega)]
    simp; omega
  · intro h1 h2 hn b3; unfold decT
    rw [if_neg (by omega), if_neg (by omega), if_neg (by omega), if_pos (by omega), if_neg (by omega), if_neg (by omega), if_neg (by omega), if_pos (by omega)]
    simp; omega
  · intro h1 hn; unfold decT
    rw [if_neg (by omega), if_neg (by omega), if_neg (by omega), if_neg (by omega), if_pos (by omega), if_neg (by omega), if_neg (by omega), if_neg (by omega), if_neg (by omega), if_neg (by omega), if_pos (by omega)]
    simp; omega

theorem enc_len (r : Nat) : (enc r).length = (if r < 128 then 1 else if r < 2048 then 2 else if r < 65536 then 3 else 4) := by
  unfold enc encN; split
  · rfl
  · split
    · rfl
    · split <;> rfl

/-- Decode of Encode. -/
theorem dec_enc (r : Nat) (h : isR (r : Int) = true) (m : List UInt8) : dec (enc r ++ m) = (r, (enc r).length, 0) := by
  have hh := decT_encN r (enc r ++ m).length h
  have hb : r ≤ 1114111 := by simp [isR] at h; omega
  obtain ⟨h1, h2, h3, h4⟩ := hh
  by_cases a : r < 128
  · have e : enc r = [UInt8.ofNat r] := by unfold enc encN; rw [if_pos a]; rfl
    rw [e] at h1 ⊢
    simp only [dec, List.cons_append, List.nil_append, reduceCtorEq, if_false, gb0, on r (by omega)]
    exact h1 a _ _ _
  by_cases b : r < 2048
  · have e : enc r = [UInt8.ofNat (192 + r / 64), UInt8.ofNat (128 + r % 64)] := by unfold enc encN; rw [if_neg a, if_pos b]; rfl
    rw [e] at h2 ⊢
    simp only [dec, List.cons_append, List.nil_append, reduceCtorEq, if_false, gb0, gb1, on (192 + r / 64) (by omega), on (128 + r % 64) (by omega)]
    exact h2 (by omega) b (by simp) _ _
  by_cases c : r < 65536
  · have e : enc r = [UInt8.ofNat (224 + r / 4096), UInt8.ofNat (128 + r / 64 % 64), UInt8.ofNat (128 + r % 64)] := by unfold enc encN; rw [if_neg a, if_neg b, if_pos c]; rfl
    rw [e] at h3 ⊢
    simp only [dec, List.cons_append, List.nil_append, reduceCtorEq, if_false, gb0, gb1, gb2, on (224 + r / 4096) (by omega), on (128 + r / 64 % 64) (by omega), on (128 + r % 64) (by omega)]
    exact h3 (by omega) c (by simp) _
  · have e : enc r = [UInt8.ofNat (240 + r / 262144), UInt8.ofNat (128 + r / 4096 % 64), UInt8.ofNat (128 + r / 64 % 64), UInt8.ofNat (128 + r % 64)] := by unfold enc encN; rw [if_neg a, if_neg b, if_neg c]; rfl
    rw [e] at h4 ⊢
    simp only [dec, List.cons_append, List.nil_append, reduceCtorEq, if_false, gb0, gb1, gb2, gb3, on (240 + r / 262144) (by omega), on (128 + r / 4096 % 64) (by omega), on (128 + r / 64 % 64) (by omega), on (128 + r % 64) (by omega)]
    exact h4 (by omega) (by simp)

theorem take4 (l : List UInt8) (k : Nat) (hk : k ≤ 4) (hl : k ≤ l.length) : ([gb l 0, gb l 1, gb l 2, gb l 3].take k).map UInt8.ofNat = l.take k := by
  apply List.ext_getElem
  · simp; omega
  · intro i h1 h2
    simp at h1 h2
    simp only [List.getElem_map, List.getElem_take]
    have hi : i = 0 ∨ i = 1 ∨ i = 2 ∨ i = 3 := by omega
    have hg : (l.getD i 0) = l[i]'(by omega) := by simp [List.getD, List.getElem?_eq_getElem (show i < l.length by omega)]
    rcases hi with rfl | rfl | rfl | rfl <;> simp only [gb, hg, List.getElem_cons_zero, List.getElem_cons_succ, UInt8.ofNat_toNat]

/-- What Decode accepts are the bytes of Encode. -/
theorem enc_dec (l : List UInt8) (r k : Nat) (h : dec l = (r, k, 0)) : isR (r : Int) = true ∧ 1 ≤ k ∧ k ≤ l.length ∧ k ≤ 4 ∧ enc r = l.take k := by
  unfold dec at h
  by_cases hl : l = []
  · rw [if_pos hl] at h; simp at h
  rw [if_neg hl] at h
  have hp : 1 ≤ l.length := by cases l with | nil => exact absurd rfl hl | cons _ _ => simp
  obtain ⟨a, b, c, d, e⟩ := encN_decT _ _ _ _ _ r k h hp
  refine ⟨a, b, c, d, ?_⟩
  unfold enc
  rw [e, take4 l k d c]

theorem decT_more (r n : Nat) (h : isR (r : Int) = true) :
    (128 ≤ r → r < 2048 → n < 2 → ∀ b1 b2 b3, decT n (192 + r / 64) b1 b2 b3 = (0, 0, 370)) ∧
    (2048 ≤ r → r < 65536 → n < 2 → ∀ b1 b2 b3, decT n (224 + r / 4096) b1 b2 b3 = (0, 0, 370)) ∧
    (2048 ≤ r → r < 65536 → n = 2 → ∀ b2 b3, decT n (224 + r / 4096) (128 + r / 64 % 64) b2 b3 = (0, 0, 370)) ∧
    (65536 ≤ r → n < 2 → ∀ b1 b2 b3, decT n (240 + r / 262144) b1 b2 b3 = (0, 0, 370)) ∧
    (65536 ≤ r → n = 2 → ∀ b2 b3, decT n (240 + r / 262144) (128 + r / 4096 % 64) b2 b3 = (0, 0, 370)) ∧
    (65536 ≤ r → n = 3 → ∀ b3, decT n (240 + r / 262144) (128 + r / 4096 % 64) (128 + r / 64 % 64) b3 = (0, 0, 370)) := by
  simp [isR] at h
  refine ⟨?_, ?_, ?_, ?_, ?_, ?_⟩
  · intro h1 h2 hn b1 b2 b3; unfold decT
    rw [if_neg (by omega), if_neg (by omega), if_pos (by omega), if_pos hn]
  · intro h1 h2 hn b1 b2 b3; unfold decT
    rw [if_neg (by omega), if_neg (by omega), if_neg (by omega), if_pos (by omega), if_pos hn]
  · intro h1 h2 hn b2 b3; unfold decT
    rw [if_neg (by omega), if_neg (by omega), if_neg (by omega), if_pos (by omega), if_neg (by omega), if_neg (by omega), if_pos (by omega)]
  · intro h1 hn b1 b2 b3; unfold decT
    rw [if_neg (by omega), if_neg (by omega), if_neg (by omega), if_neg (by omega), if_pos (by omega), if_pos hn]
  · intro h1 hn b2 b3; unfold decT
    rw [if_neg (by omega), if_neg (by omega), if_neg (by omega), if_neg (by omega), if_pos (by omega), if_neg (by omega), if_neg (by omega), if_pos (by omega)]
  · intro h1 hn b3; unfold decT
    rw [if_neg (by omega), if_neg (by omega), if_neg (by omega), if_neg (by omega), if_pos (by omega), if_neg (by omega), if_neg (by omega), if_neg (by omega), if_neg (by omega), if_pos (by omega)]

/-- A beginning of a rune's bytes wants more. -/
theorem dec_part (r : Nat) (h : isR (r : Int) = true) (i : Nat) (h0 : 0 < i) (h1 : i < (enc r).length) : dec ((enc r).take i) = (0, 0, 370) := by
  have hh := decT_more r i h
  have hb : r ≤ 1114111 := by simp [isR] at h; omega
  obtain ⟨m1, m2, m3, m4, m5, m6⟩ := hh
  by_cases a : r < 128
  · rw [enc_len, if_pos a] at h1; omega
  by_cases b : r < 2048
  · have e : enc r = [UInt8.ofNat (192 + r / 64), UInt8.ofNat (128 + r % 64)] := by unfold enc encN; rw [if_neg a, if_pos b]; rfl
    rw [e] at h1 ⊢
    obtain rfl : i = 1 := by simp at h1; omega
    simp only [dec, List.take_succ_cons, List.take_zero, reduceCtorEq, if_false, gb0, on (192 + r / 64) (by omega)]
    exact m1 (by omega) b (by decide) _ _ _
  by_cases c : r < 65536
  · have e : enc r = [UInt8.ofNat (224 + r / 4096), UInt8.ofNat (128 + r / 64 % 64), UInt8.ofNat (128 + r % 64)] := by unfold enc encN; rw [if_neg a, if_neg b, if_pos c]; rfl
    rw [e] at h1 ⊢
    rcases (show i = 1 ∨ i = 2 by simp at h1; omega) with rfl | rfl
    · simp only [dec, List.take_succ_cons, List.take_zero, reduceCtorEq, if_false, gb0, on (224 + r / 4096) (by omega)]
      exact m2 (by omega) c (by decide) _ _ _
    · simp only [dec, List.take_succ_cons, List.take_zero, reduceCtorEq, if_false, gb0, gb1, on (224 + r / 4096) (by omega), on (128 + r / 64 % 64) (by omega)]
      exact m3 (by omega) c rfl _ _
  · have e : enc r = [UInt8.ofNat (240 + r / 262144), UInt8.ofNat (128 + r / 4096 % 64), UInt8.ofNat (128 + r / 64 % 64), UInt8.ofNat (128 + r % 64)] := by unfold enc encN; rw [if_neg a, if_neg b, if_neg c]; rfl
    rw [e] at h1 ⊢
    rcases (show i = 1 ∨ i = 2 ∨ i = 3 by simp at h1; omega) with rfl | rfl | rfl
    · simp only [dec, List.take_succ_cons, List.take_zero, reduceCtorEq, if_false, gb0, on (240 + r / 262144) (by omega)]
      exact m4 (by omega) (by decide) _ _ _
    · simp only [dec, List.take_succ_cons, List.take_zero, reduceCtorEq, if_false, gb0, gb1, on (240 + r / 262144) (by omega), on (128 + r / 4096 % 64) (by omega)]
      exact m5 (by omega) rfl _ _
    · simp only [dec, List.take_succ_cons, List.take_zero, reduceCtorEq, if_false, gb0, gb1, gb2, on (240 + r / 262144) (by omega), on (128 + r / 4096 % 64) (by omega), on (128 + r / 64 % 64) (by omega)]
      exact m6 (by omega) rfl _
end Go.Proofs.YtpbfbejckhbijaaGreatDoor.Ru
namespace Go.Proofs.YtpbfbejckhbijaaGreatDoor.Ru

/-- The runes at the head, each with the place behind it. -/
def rnF : Nat → Nat → List UInt8 → List (Nat × Nat)
  | 0, _, _ => []
  | f + 1, k, l => if (dec l).2.2 = 0 then ((dec l).1, k + (dec l).2.1) :: rnF f (k + (dec l).2.1) (l.drop (dec l).2.1) else []
def rns (l : List UInt8) : List (Nat × Nat) := rnF l.length 0 l
/-- Where the runes at the head end. -/
def endF : Nat → Nat → List UInt8 → Nat
  | 0, k, _ => k
  | f + 1, k, l => if (dec l).2.2 = 0 then endF f (k + (dec l).2.1) (l.drop (dec l).2.1) else k
def endA (l : List UInt8) : Nat := endF l.length 0 l
def chkA (l : List UInt8) : Nat := if 8000 < l.length then 0 else endA l
def chkE (l : List UInt8) : Nat := if 8000 < l.length then 3 else if endA l < l.length then (dec (l.drop (endA l))).2.2 else 0
def okB (l : List UInt8) : Bool := decide (chkE l = 0)

theorem dec_nil : dec [] = (0, 0, 7) := rfl
theorem dec_w (l : List UInt8) (h : (dec l).2.2 = 0) : 1 ≤ (dec l).2.1 ∧ (dec l).2.1 ≤ l.length ∧ (dec l).2.1 ≤ 4 := by
  obtain ⟨a, b, c, d, e⟩ := enc_dec l (dec l).1 (dec l).2.1 (by rw [← h])
  exact ⟨b, c, d⟩
theorem decT_err (n b0 b1 b2 b3 : Nat) : (decT n b0 b1 b2 b3).2.2 = 0 ∨ decT n b0 b1 b2 b3 = (0, 0, 6) ∨ (decT n b0 b1 b2 b3 = (0, 0, 370) ∧ n < 4) := by
  by_cases h : (decT n b0 b1 b2 b3).2.2 = 0
  · exact .inl h
  · refine .inr ?_
    unfold decT at h ⊢
    by_cases h0 : b0 < 128
    · rw [if_pos h0] at h; simp at h
    rw [if_neg h0] at h ⊢
    by_cases h1 : b0 < 194
    · rw [if_pos h1]; exact .inl rfl
    rw [if_neg h1] at h ⊢
    by_cases h2 : b0 < 224
    · rw [if_pos h2] at h ⊢
      by_cases hn : n < 2
      · rw [if_pos hn]; exact .inr ⟨rfl, by omega⟩
      rw [if_neg hn] at h ⊢
      by_cases hb : b1 / 64 = 2
      · rw [if_pos hb] at h; simp at h
      · rw [if_neg hb]; exact .inl rfl
    rw [if_neg h2] at h ⊢
    by_cases h3 : b0 < 240
    · rw [if_pos h3] at h ⊢
      by_cases hn : n < 2
      · rw [if_pos hn]; exact .inr ⟨rfl, by omega⟩
      rw [if_neg hn] at h ⊢
      by_cases hb : b1 / 64 ≠ 2 ∨ (b0 = 224 ∧ b1 < 160) ∨ (b0 = 237 ∧ 159 < b1)
      · rw [if_pos hb]; exact .inl rfl
      rw [if_neg hb] at h ⊢
      by_cases hn3 : n < 3
      · rw [if_pos hn3]; exact .inr ⟨rfl, by omega⟩
      rw [if_neg hn3] at h ⊢
      by_cases hb2 : b2 / 64 = 2
      · rw [if_pos hb2] at h; simp at h
      · rw [if_neg hb2]; exact .inl rfl
    rw [if_neg h3] at h ⊢
    by_cases h4 : b0 < 245
    · rw [if_pos h4] at h ⊢
      by_cases hn : n < 2
      · rw [if_pos hn]; exact .inr ⟨rfl, by omega⟩
      rw [if_neg hn] at h ⊢
      by_cases hb : b1 / 64 ≠ 2 ∨ (b0 = 240 ∧ b1 < 144) ∨ (b0 = 244 ∧ 143 < b1)
      · rw [if_pos hb]; exact .inl rfl
      rw [if_neg hb] at h ⊢
      by_cases hn3 : n < 3
      · rw [if_pos hn3]; exact .inr ⟨rfl, by omega⟩
      rw [if_neg hn3] at h ⊢
      by_cases hb2 : b2 / 64 ≠ 2
      · rw [if_pos hb2]; exact .inl rfl
      rw [if_neg hb2] at h ⊢
      by_cases hn4 : n < 4
      · rw [if_pos hn4]; exact .inr ⟨rfl, by omega⟩
      rw [if_neg hn4] at h ⊢
      by_cases hb3 : b3 / 64 = 2
      · rw [if_pos hb3] at h; simp at h
      · rw [if_neg hb3]; exact .inl rfl
    rw [if_neg h4]; exact .inl rfl
theorem dec_err (l : List UInt8) (hl : l ≠ []) : (dec l).2.2 = 0 ∨ dec l = (0, 0, 6) ∨ (dec l = (0, 0, 370) ∧ l.length < 4) := by
  unfold dec; rw [if_neg hl]; exact decT_err _ _ _ _ _
theorem dec_b (l : List UInt8) : (dec l).1 ≤ 1114111 ∧ (dec l).2.1 ≤ 4 := by
  by_cases h : (dec l).2.2 = 0
  · obtain ⟨a, b, c, d, e⟩ := enc_dec l (dec l).1 (dec l).2.1 (by rw [← h])
    simp [isR] at a
    exact ⟨by omega, d⟩
  · by_cases hl : l = []
    · subst hl; simp [dec_nil]
    · rcases dec_err l hl with e | e | ⟨e, _⟩
      · exact absurd e h
      · rw [e]; simp
      · rw [e]; simp

theorem rnF_more (f : Nat) : ∀ (g k : Nat) (l : List UInt8), l.length ≤ f → l.length ≤ g → rnF f k l = rnF g k l := by
  induction f with
  | zero =>
    intro g k l hf hg
    have : l = [] := List.length_eq_zero_iff.1 (by omega)
    subst this
    cases g <;> simp [rnF, dec_nil]
  | succ f ih =>
    intro g k l hf hg
    cases g with
    | zero =>
      have : l = [] := List.length_eq_zero_iff.1 (by omega)
      subst this; simp [rnF, dec_nil]
    | succ g =>
      simp only [rnF]
      by_cases h : (dec l).2.2 = 0
      · rw [if_pos h, if_pos h]
        have := dec_w l h
        rw [ih g _ _ (by simp; omega) (by simp; omega)]
      · rw [if_neg h, if_neg h]
theorem endF_more (f : Nat) : ∀ (g k : Nat) (l : List UInt8), l.length ≤ f → l.length ≤ g → endF f k l = endF g k l := by
  induction f with
  | zero =>
    intro g k l hf hg
    have : l = [] := List.length_eq_zero_iff.1 (by omega)
    subst this
    cases g <;> simp [endF, dec_nil]
  | succ f ih =>
    intro g k l hf hg
    cases g with
    | zero =>
      have : l = [] := List.length_eq_zero_iff.1 (by omega)
      subst this; simp [endF, dec_nil]
    | succ g =>
      simp only [endF]
      by_cases h : (dec l).2.2 = 0
      · rw [if_pos h, if_pos h]
        have := dec_w l h
        rw [ih g _ _ (by simp; omega) (by simp; omega)]
      · rw [if_neg h, if_neg h]
theorem endF_ge (f : Nat) : ∀ (k : Nat) (l : List UInt8), k ≤ endF f k l ∧ endF f k l ≤ k + l.length := by
  induction f with
  | zero => intro k l; simp [endF]
  | succ f ih =>
    intro k l
    simp only [endF]
    split
    · rename_i h
      have h1 := dec_w l h
      have h2 := ih (k + (dec l).2.1) (l.drop (dec l).2.1)
      simp at h2
      omega
    · omega
theorem endA_le (l : List UInt8) : endA l ≤ l.length := by have := endF_ge l.length 0 l; unfold endA; omega
/-- The last place behind a rune is where they end. -/
theorem rnF_last (f : Nat) : ∀ (k : Nat) (l : List UInt8), ((rnF f k l).map (·.2)).getLastD k = endF f k l := by
  induction f with
  | zero => intro k l; simp [rnF, endF]
  | succ f ih =>
    intro k l
    simp only [rnF, endF]
    split
    · rw [List.map_cons, List.getLastD_cons, ih]
    · simp
theorem rnF_shift (f : Nat) : ∀ (k d : Nat) (l : List UInt8), rnF f (k + d) l = (rnF f k l).map fun p => (p.1, p.2 + d) := by
  induction f with
  | zero => intro k d l; simp [rnF]
  | succ f ih =>
    intro k d l
    simp only [rnF]
    split
    · rw [show k + d + (dec l).2.1 = k + (dec l).2.1 + d by omega, ih, List.map_cons]
    · simp
theorem endF_shift (f : Nat) : ∀ (k d : Nat) (l : List UInt8), endF f (k + d) l = endF f k l + d := by
  induction f with
  | zero => intro k d l; simp [endF]
  | succ f ih =>
    intro k d l
    simp only [endF]
    split
    · rw [show k + d + (dec l).2.1 = k + (dec l).2.1 + d by omega, ih]
    · simp
/-- What comes behind accepted bytes makes no difference. -/
theorem dec_ext (l m : List UInt8) (h : (dec l).2.2 = 0) : dec (l ++ m) = dec l := by
  obtain ⟨a, b, c, d, e⟩ := enc_dec l (dec l).1 (dec l).2.1 (by rw [← h])
  have h2 : l ++ m = enc (dec l).1 ++ (l.drop (dec l).2.1 ++ m) := by rw [e, ← List.append_assoc, List.take_append_drop]
  rw [h2, dec_enc _ a, e]
  have : (l.take (dec l).2.1).length = (dec l).2.1 := by simp; omega
  rw [this, ← h]
theorem decT_form (n m b0 b1 b2 b3 c1 c2 c3 : Nat) (hm : n ≤ m) (e1 : 1 < n → c1 = b1) (e2 : 2 < n → c2 = b2) (e3 : 3 < n → c3 = b3) (h : decT n b0 b1 b2 b3 = (0, 0, 6)) : decT m b0 c1 c2 c3 = (0, 0, 6) := by
  unfold decT at h ⊢
  by_cases h0 : b0 < 128
  · rw [if_pos h0] at h; simp at h
  rw [if_neg h0] at h ⊢
  by_cases h1 : b0 < 194
  · rw [if_pos h1]
  rw [if_neg h1] at h ⊢
  by_cases h2 : b0 < 224
  · rw [if_pos h2] at h ⊢
    by_cases hn : n < 2
    · rw [if_pos hn] at h; simp at h
    rw [if_neg hn] at h
    rw [if_neg (by omega)]
    obtain rfl := e1 (by omega)
    exact h
  rw [if_neg h2] at h ⊢
  by_cases h3 : b0 < 240
  · rw [if_pos h3] at h ⊢
    by_cases hn : n < 2
    · rw [if_pos hn] at h; simp at h
    rw [if_neg hn] at h
    rw [if_neg (by omega)]
    obtain rfl := e1 (by omega)
    by_cases hb : c1 / 64 ≠ 2 ∨ (b0 = 224 ∧ c1 < 160) ∨ (b0 = 237 ∧ 159 < c1)
    · rw [if_pos hb]
    rw [if_neg hb] at h ⊢
    by_cases hn3 : n < 3
    · rw [if_pos hn3] at h; simp at h
    rw [if_neg hn3] at h
    rw [if_neg (by omega)]
    obtain rfl := e2 (by omega)
    exact h
  rw [if_neg h3] at h ⊢
  by_cases h4 : b0 < 245
  · rw [if_pos h4] at h ⊢
    by_cases hn : n < 2
    · rw [if_pos hn] at h; simp at h
    rw [if_neg hn] at h
    rw [if_neg (by omega)]
    obtain rfl := e1 (by omega)
    by_cases hb : c1 / 64 ≠ 2 ∨ (b0 = 240 ∧ c1 < 144) ∨ (b0 = 244 ∧ 143 < c1)
    · rw [if_pos hb]
    rw [if_neg hb] at h ⊢
    by_cases hn3 : n < 3
    · rw [if_pos hn3] at h; simp at h
    rw [if_neg hn3] at h
    rw [if_neg (by omega)]
    obtain rfl := e2 (by omega)
    by_cases hb2 : c2 / 64 ≠ 2
    · rw [if_pos hb2]
    rw [if_neg hb2] at h ⊢
    by_cases hn4 : n < 4
    · rw [if_pos hn4] at h; simp at h
    rw [if_neg hn4] at h
    rw [if_neg (by omega)]
    obtain rfl := e3 (by omega)
    exact h
  rw [if_neg h4]
theorem gb_app (l m : List UInt8) (i : Nat) (h : i < l.length) : gb (l ++ m) i = gb l i := by
  simp [gb, List.getElem?_append_left h]
theorem dec_form (l m : List UInt8) (h : dec l = (0, 0, 6)) : dec (l ++ m) = (0, 0, 6) := by
  unfold dec at h ⊢
  by_cases hl : l = []
  · rw [if_pos hl] at h; simp at h
  rw [if_neg hl] at h
  rw [if_neg (by simp [hl])]
  have hp : 0 < l.length := List.length_pos_iff.2 hl
  rw [gb_app l m 0 hp]
  exact decT_form _ _ _ _ _ _ _ _ _ (by simp) (fun h => gb_app l m 1 h) (fun h => gb_app l m 2 h) (fun h => gb_app l m 3 h) h

/-- The runes of a beginning that is whole come first. -/
theorem rnF_app (f : Nat) : ∀ (k : Nat) (l m : List UInt8), l.length ≤ f → endF f k l = k + l.length → ∀ g, (l ++ m).length ≤ g → rnF g k (l ++ m) = rnF f k l ++ rnF g (k + l.length) m ∧ endF g k (l ++ m) = endF g (k + l.length) m := by
  induction f with
  | zero =>
    intro k l m hf he g hg
    have : l = [] := List.length_eq_zero_iff.1 (by omega)
    subst this
    simp [rnF]
  | succ f ih =>
    intro k l m hf he g hg
    by_cases hl : l = []
    · subst hl; simp [rnF, dec_nil]
    simp only [endF] at he
    by_cases h : (dec l).2.2 = 0
    · rw [if_pos h] at he
      have hw := dec_w l h
      obtain ⟨g', rfl⟩ : ∃ g', g = g' + 1 := ⟨g - 1, by simp at hg; omega⟩
      have hd : (l ++ m).drop (dec l).2.1 = l.drop (dec l).2.1 ++ m := by rw [List.drop_append_of_le_length hw.2.1]
      have hlen : (l.drop (dec l).2.1).length = l.length - (dec l).2.1 := by simp
      simp at hg
      obtain ⟨r1, r2⟩ := ih (k + (dec l).2.1) (l.drop (dec l).2.1) m (by omega) (by rw [he, hlen]; omega) g' (by simp; omega)
      rw [hlen, show k + (dec l).2.1 + (l.length - (dec l).2.1) = k + l.length by omega] at r1 r2
      have hm : rnF g' (k + l.length) m = rnF (g' + 1) (k + l.length) m := rnF_more _ _ _ _ (by omega) (by omega)
      have hm2 : endF g' (k + l.length) m = endF (g' + 1) (k + l.length) m := endF_more _ _ _ _ (by omega) (by omega)
      constructor
      · rw [← hm]
        simp only [rnF, dec_ext l m h, h, if_true, hd, r1, List.cons_append]
      · rw [← hm2, ← r2]
        simp only [endF, dec_ext l m h, h, if_true, hd]
    · rw [if_neg h] at he
      have : 0 < l.length := List.length_pos_iff.2 hl
      omega
theorem chkE_ok (l : List UInt8) : chkE l = 0 ↔ l.length ≤ 8000 ∧ endA l = l.length := by
  unfold chkE
  by_cases h : 8000 < l.length
  · rw [if_pos h]; simp; omega
  rw [if_neg h]
  have h1 := endA_le l
  by_cases h2 : endA l < l.length
  · rw [if_pos h2]
    constructor
    · intro h3
      exfalso
      -- the runes would go on
      have key : ∀ (f k : Nat) (m : List UInt8), m.length ≤ f → (dec (m.drop (endF f k m - k))).2.2 = 0 → False := by
        intro f
        induction f with
        | zero =>
          intro k m hm h4
          have : m = [] := List.length_eq_zero_iff.1 (by omega)
          subst this
          simp [endF, dec_nil] at h4
        | succ f ih =>
          intro k m hm h4
          simp only [endF] at h4
          by_cases hd : (dec m).2.2 = 0
          · rw [if_pos hd] at h4
            have hw := dec_w m hd
            have hg := endF_ge f (k + (dec m).2.1) (m.drop (dec m).2.1)
            refine ih (k + (dec m).2.1) (m.drop (dec m).2.1) (by simp; omega) ?_
            rw [List.drop_drop, show (dec m).2.1 + (endF f (k + (dec m).2.1) (m.drop (dec m).2.1) - (k + (dec m).2.1)) = endF f (k + (dec m).2.1) (m.drop (dec m).2.1) - k by omega]
            exact h4
          · rw [if_neg hd] at h4
            simp at h4
            exact hd h4
      exact key l.length 0 l (Nat.le_refl _) (by simpa [endA] using h3)
    · intro h3; omega
  · rw [if_neg h2]; simp; omega

/-- The bytes of the runes are the bytes. -/
theorem rn_back (f : Nat) : ∀ (k : Nat) (l : List UInt8), (rnF f k l).flatMap (fun p => enc p.1) = l.take (endF f k l - k) := by
  induction f with
  | zero => intro k l; simp [rnF, endF]
  | succ f ih =>
    intro k l
    simp only [rnF, endF]
    by_cases h : (dec l).2.2 = 0
    · rw [if_pos h, if_pos h, List.flatMap_cons, ih]
      obtain ⟨a, b, c, d, e⟩ := enc_dec l (dec l).1 (dec l).2.1 (by rw [← h])
      have hg := endF_ge f (k + (dec l).2.1) (l.drop (dec l).2.1)
      simp only []
      rw [e, show endF f (k + (dec l).2.1) (l.drop (dec l).2.1) - k = (dec l).2.1 + (endF f (k + (dec l).2.1) (l.drop (dec l).2.1) - (k + (dec l).2.1)) by omega, List.take_add]
    · rw [if_neg h, if_neg h]; simp
theorem rns_back (l : List UInt8) (h : chkE l = 0) : ((rns l).map (·.1)).flatMap enc = l := by
  have h2 := ((chkE_ok l).1 h).2
  have := rn_back l.length 0 l
  rw [List.flatMap_map]
  unfold rns
  rw [this, show endF l.length 0 l - 0 = l.length by unfold endA at h2; omega, List.take_length]
/-- The runes of the bytes of runes are the runes. -/
theorem rn_fore (rs : List Nat) : (∀ r ∈ rs, isR (r : Int) = true) → ∀ (f k : Nat), (rs.flatMap enc).length ≤ f → (rnF f k (rs.flatMap enc)).map (·.1) = rs ∧ endF f k (rs.flatMap enc) = k + (rs.flatMap enc).length := by
  induction rs with
  | nil => intro _ f k _; cases f <;> simp [rnF, endF, dec_nil]
  | cons r rs ih =>
    intro hr f k hf
    have h1 := dec_enc r (hr r (by simp)) (rs.flatMap enc)
    have hl : 1 ≤ (enc r).length := by rw [enc_len]; split; (· decide); split; (· decide); split <;> decide
    rw [List.flatMap_cons] at hf ⊢
    rw [List.length_append] at hf
    obtain ⟨f', rfl⟩ : ∃ f', f = f' + 1 := ⟨f - 1, by omega⟩
    obtain ⟨i1, i2⟩ := ih (fun x hx => hr x (by simp [hx])) f' (k + (enc r).length) (by omega)
    have hd : (enc r ++ rs.flatMap enc).drop (enc r).length = rs.flatMap enc := by simp
    constructor
    · simp only [rnF, h1, if_true, hd, List.map_cons, i1]
    · simp only [endF, h1, if_true, hd, i2, List.length_append]; omega
end Go.Proofs.YtpbfbejckhbijaaGreatDoor.Ru
namespace Go.Proofs.YtpbfbejckhbijaaGreatDoor.Ru
open Go

theorem lt8 (a b : Nat) (ha : a < 256) (hb : b < 256) : (UInt8.ofNat a < UInt8.ofNat b) = (a < b) := by
  rw [UInt8.lt_iff_toNat_lt, on a ha, on b hb]
theorem eq8 (a b : Nat) (ha : a < 256) (hb : b < 256) : (UInt8.ofNat a == UInt8.ofNat b) = decide (a = b) := by
  rw [Bool.eq_iff_iff]; simp only [beq_iff_eq, decide_eq_true_eq]
  constructor
  · intro h; have := congrArg UInt8.toNat h; rw [on a ha, on b hb] at this; exact this
  · intro h; rw [h]
def nl : List Nat → List Nat → Bool
  | _, [] => false
  | [], _ :: _ => true
  | a :: x, b :: y => decide (a < b) || (decide (a = b) && nl x y)
theorem bl_nl : ∀ (x y : List Nat), (∀ a ∈ x, a < 256) → (∀ a ∈ y, a < 256) → Op.bytesLess (x.map UInt8.ofNat) (y.map UInt8.ofNat) = nl x y
  | _, [], _, _ => by simp [Op.bytesLess, nl]
  | [], b :: y, _, _ => by simp [Op.bytesLess, nl]
  | a :: x, b :: y, hx, hy => by
    simp only [List.map_cons, Op.bytesLess, nl]
    rw [bl_nl x y (fun c hc => hx c (by simp [hc])) (fun c hc => hy c (by simp [hc])), eq8 a b (hx a (by simp)) (hy b (by simp))]
    congr 1
    rw [decide_eq_decide, lt8 a b (hx a (by simp)) (hy b (by simp))]
theorem encN_lt (r : Nat) (h : r ≤ 1114111) : ∀ a ∈ encN r, a < 256 := by
  unfold encN
  split
  · intro a ha; simp at ha; omega
  · split
    · intro a ha; simp at ha; omega
    · split
      · intro a ha; simp at ha; omega
      · intro a ha; simp at ha; omega
theorem nl_enc (r s : Nat) (hr : r ≤ 1114111) (hs : s ≤ 1114111) : nl (encN r) (encN s) = decide (r < s) := by
  unfold encN
  by_cases a : r < 128
  · rw [if_pos a]
    by_cases a' : s < 128
    · rw [if_pos a']; rw [Bool.eq_iff_iff]; simp [nl]
    rw [if_neg a']
    by_cases b' : s < 2048
    · rw [if_pos b']; rw [Bool.eq_iff_iff]; simp [nl]; omega
    rw [if_neg b']
    by_cases c' : s < 65536
    · rw [if_pos c']; rw [Bool.eq_iff_iff]; simp [nl]; omega
    rw [if_neg c']; rw [Bool.eq_iff_iff]; simp [nl]; omega
  rw [if_neg a]
  by_cases b : r < 2048
  · rw [if_pos b]
    by_cases a' : s < 128
    · rw [if_pos a']; rw [Bool.eq_iff_iff]; simp [nl]; omega
    rw [if_neg a']
    by_cases b' : s < 2048
    · rw [if_pos b']; rw [Bool.eq_iff_iff]; simp [nl]; omega
    rw [if_neg b']
    by_cases c' : s < 65536
    · rw [if_pos c']; rw [Bool.eq_iff_iff]; simp [nl]; omega
    rw [if_neg c']; rw [Bool.eq_iff_iff]; simp [nl]; omega
  rw [if_neg b]
  by_cases c : r < 65536
  · rw [if_pos c]
    by_cases a' : s < 128
    · rw [if_pos a']; rw [Bool.eq_iff_iff]; simp [nl]; omega
    rw [if_neg a']
    by_cases b' : s < 2048
    · rw [if_pos b']; rw [Bool.eq_iff_iff]; simp [nl]; omega
    rw [if_neg b']
    by_cases c' : s < 65536
    · rw [if_pos c']; rw [Bool.eq_iff_iff]; simp [nl]; omega
    rw [if_neg c']; rw [Bool.eq_iff_iff]; simp [nl]; omega
  rw [if_neg c]
  by_cases a' : s < 128
  · rw [if_pos a']; rw [Bool.eq_iff_iff]; simp [nl]; omega
  rw [if_neg a']
  by_cases b' : s < 2048
  · rw [if_pos b']; rw [Bool.eq_iff_iff]; simp [nl]; omega
  rw [if_neg b']
  by_cases c' : s < 65536
  · rw [if_pos c']; rw [Bool.eq_iff_iff]; simp [nl]; omega
  rw [if_neg c']; rw [Bool.eq_iff_iff]; simp [nl]; omega
/-- The bytes of runes are ordered as runes are. -/
theorem enc_less (r s : Nat) (hr : r ≤ 1114111) (hs : s ≤ 1114111) : Op.bytesLess (enc r) (enc s) = decide (r < s) := by
  unfold enc; rw [bl_nl _ _ (encN_lt r hr) (encN_lt s hs), nl_enc r s hr hs]
theorem enc_eq (r s : Nat) (hr : r ≤ 1114111) (hs : s ≤ 1114111) : (enc r == enc s) = decide (r = s) := by
  rw [Bool.eq_iff_iff]; simp only [beq_iff_eq, decide_eq_true_eq]
  constructor
  · intro h
    have h1 := enc_less r s hr hs
    have h2 := enc_less s r hs hr
    rw [h] at h1 h2
    have : ∀ l : List UInt8, Op.bytesLess l l = false := by
      intro l; induction l with
      | nil => rfl
      | cons a l ih => simp [Op.bytesLess, ih]
    rw [this] at h1 h2
    have h1 := of_decide_eq_false h1.symm
    have h2 := of_decide_eq_false h2.symm
    omega
  · intro h; rw [h]

/-- The whole runes at the head, alone. -/
theorem rnF_take (f : Nat) : ∀ (k : Nat) (l : List UInt8) (n : Nat), endF f k l = k + n → endF f k (l.take n) = k + n ∧ rnF f k (l.take n) = rnF f k l := by
  induction f with
  | zero => intro k l n h; simp [endF] at h; subst h; simp [endF, rnF]
  | succ f ih =>
    intro k l n h
    simp only [endF] at h
    by_cases hd : (dec l).2.2 = 0
    · rw [if_pos hd] at h
      obtain ⟨a, b, c, d, e⟩ := enc_dec l (dec l).1 (dec l).2.1 (by rw [← hd])
      have hg := endF_ge f (k + (dec l).2.1) (l.drop (dec l).2.1)
      have hle : (dec l).2.1 ≤ n := by omega
      have h2 : l.take n = enc (dec l).1 ++ (l.drop (dec l).2.1).take (n - (dec l).2.1) := by
        rw [e]
        conv => lhs; rw [show n = (dec l).2.1 + (n - (dec l).2.1) by omega]
        rw [List.take_add]
      have hw : (enc (dec l).1).length = (dec l).2.1 := by rw [e]; simp; omega
      have hd2 : dec (l.take n) = dec l := by
        rw [h2, dec_enc _ a, hw, ← hd]
      obtain ⟨i1, i2⟩ := ih (k + (dec l).2.1) (l.drop (dec l).2.1) (n - (dec l).2.1) (by omega)
      have hdr : (l.take n).drop (dec l).2.1 = (l.drop (dec l).2.1).take (n - (dec l).2.1) := by
        rw [List.drop_take]
      constructor
      · simp only [endF, hd2, hd, if_true, hdr, i1]; omega
      · simp only [rnF, hd2, hd, if_true, hdr, i2]
    · rw [if_neg hd] at h
      have : n = 0 := by omega
      subst this
      simp [endF, rnF, hd, dec_nil]
theorem endA_take (l : List UInt8) : endA (l.take (endA l)) = endA l ∧ rns (l.take (endA l)) = rns l := by
  have h := rnF_take l.length 0 l (endA l) (by unfold endA; omega)
  have hl := endA_le l
  have hlen : (l.take (endA l)).length ≤ l.length := by rw [List.length_take]; omega
  constructor
  · show endF (l.take (endA l)).length 0 (l.take (endA l)) = endA l
    rw [endF_more _ l.length 0 _ (Nat.le_refl _) hlen, h.1]; omega
  · show rnF (l.take (endA l)).length 0 (l.take (endA l)) = rns l
    rw [rnF_more _ l.length 0 _ (Nat.le_refl _) hlen, h.2]; rfl
/-- A whole string with another one behind it. -/
theorem rns_app (a b : List UInt8) (h : endA a = a.length) : rns (a ++ b) = rns a ++ (rns b).map (fun p => (p.1, p.2 + a.length)) ∧ endA (a ++ b) = a.length + endA b := by
  have := rnF_app a.length 0 a b (Nat.le_refl _) (by unfold endA at h; omega) (a ++ b).length (Nat.le_refl _)
  obtain ⟨h1, h2⟩ := this
  have hb : b.length ≤ (a ++ b).length := by simp
  constructor
  · unfold rns
    rw [h1, ← rnF_shift, rnF_more (a ++ b).length b.length (0 + a.length) b hb (Nat.le_refl _)]
  · unfold endA
    rw [h2, endF_more (a ++ b).length b.length _ b hb (Nat.le_refl _), endF_shift]; omega
theorem chk_app (a b : List UInt8) (ha : chkE a = 0) (hb : chkE b = 0) (hl : a.length + b.length ≤ 8000) : chkE (a ++ b) = 0 := by
  rw [chkE_ok] at ha hb ⊢
  rw [(rns_app a b ha.2).2, hb.2]; simp; omega
/-- Bytes that are no rune's stay so. -/
theorem chk_bad (a b : List UInt8) (ha : chkE a ≠ 0) (h3 : chkE a ≠ 370) (hl : a.length + b.length ≤ 8000) : chkE (a ++ b) = chkE a := by
  have hn1 : ¬ 8000 < a.length := by omega
  have hn2 : ¬ 8000 < (a ++ b).length := by rw [List.length_append]; omega
  unfold chkE at ha h3 ⊢
  rw [if_neg hn1] at ha h3
  rw [if_neg hn1, if_neg hn2]
  have hle := endA_le a
  by_cases hlt : endA a < a.length
  · rw [if_pos hlt] at ha h3 ⊢
    have hne : a.drop (endA a) ≠ [] := by intro e; have := congrArg List.length e; simp at this; omega
    have h6 : dec (a.drop (endA a)) = (0, 0, 6) := by
      rcases dec_err _ hne with e | e | ⟨e, _⟩
      · exact absurd e ha
      · exact e
      · rw [e] at h3; exact absurd rfl h3
    have hf := dec_form _ b h6
    have hsplit : a ++ b = a.take (endA a) ++ (a.drop (endA a) ++ b) := by rw [← List.append_assoc, List.take_append_drop]
    have ht := (endA_take a).1
    have hlen : (a.take (endA a)).length = endA a := by simp; omega
    have he : endA (a ++ b) = endA a := by
      rw [hsplit, (rns_app _ _ (by rw [ht, hlen])).2, hlen]
      have : endA (a.drop (endA a) ++ b) = 0 := by
        unfold endA
        have hp : 0 < (a.drop (endF a.length 0 a) ++ b).length := by
          have : 0 < (a.drop (endA a)).length := List.length_pos_iff.2 hne
          unfold endA at this
          rw [List.length_append]; omega
        obtain ⟨g, hg⟩ : ∃ g, (a.drop (endF a.length 0 a) ++ b).length = g + 1 := ⟨_, (Nat.succ_pred_eq_of_pos hp).symm⟩
        rw [hg]
        unfold endA at hf
        simp only [endF, hf]
        rfl
      rw [this]; rfl
    rw [he, if_pos (by simp; omega)]
    rw [show (a ++ b).drop (endA a) = a.drop (endA a) ++ b by rw [List.drop_append_of_le_length (by omega)], hf, h6]
  · rw [if_neg hlt] at ha; exact absurd rfl ha

/-- The places where runes begin, and the end. -/
def sts (l : List UInt8) : List Nat := 0 :: (rns l).map (·.2)
/-- The last of these places that is not above n. -/
def backF (n : Nat) : Nat → List Nat → Nat
  | c, [] => c
  | c, e :: r => if n < e then c else backF n e r
def backV (l : List UInt8) (n : Nat) : Nat := backF n 0 ((rns l).map (·.2))
/-- Places ascend, in steps of 1 to 4. -/
def ups : Nat → List Nat → Prop
  | _, [] => True
  | c, e :: r => c < e ∧ e ≤ c + 4 ∧ ups e r
theorem rnF_ups (f : Nat) : ∀ (k : Nat) (l : List UInt8), ups k ((rnF f k l).map (·.2)) := by
  induction f with
  | zero => intro k l; simp [rnF, ups]
  | succ f ih =>
    intro k l
    simp only [rnF]
    split
    · rename_i h
      have := dec_w l h
      rw [List.map_cons]
      exact ⟨by simp only []; omega, by simp only []; omega, ih _ _⟩
    · simp [ups]
theorem rns_ups (l : List UInt8) : ups 0 ((rns l).map (·.2)) := rnF_ups _ _ _
theorem ups_lt : ∀ (es : List Nat) (c : Nat), ups c es → ∀ e ∈ es, c < e
  | [], _, _, _, h => by cases h
  | x :: r, c, ⟨h1, _, h3⟩, e, h => by
    rcases List.mem_cons.1 h with rfl | h
    · exact h1
    · have := ups_lt r x h3 e h; omega
theorem back_spec : ∀ (es : List Nat) (c n : Nat), ups c es → c ≤ n → n ≤ es.getLastD c → backF n c es ≤ n ∧ n ≤ backF n c es + 3 ∧ (backF n c es = n ↔ n ∈ c :: es)
  | [], c, n, _, h1, h2 => by simp at h2; simp [backF]; omega
  | e :: r, c, n, ⟨u1, u2, u3⟩, h1, h2 => by
    unfold backF
    by_cases h : n < e
    · rw [if_pos h]
      refine ⟨h1, by omega, ?_⟩
      constructor
      · intro e'; subst e'; simp
      · intro hm
        rcases List.mem_cons.1 hm with hm | hm
        · exact hm.symm
        · rcases List.mem_cons.1 hm with hm | hm
          · omega
          · have := ups_lt r e u3 n hm; omega
    · rw [if_neg h]
      obtain ⟨b1, b2, b3⟩ := back_spec r e n u3 (by omega) (by rwa [List.getLastD_cons] at h2)
      refine ⟨b1, b2, b3.trans ?_⟩
      constructor
      · intro hm; exact List.mem_cons_of_mem _ hm
      · intro hm
        rcases List.mem_cons.1 hm with hm | hm
        · omega
        · exact hm
theorem backV_spec (l : List UInt8) (h : chkE l = 0) (n : Nat) (hn : n ≤ l.length) : backV l n ≤ n ∧ n ≤ backV l n + 3 ∧ (backV l n = n ↔ n ∈ sts l) := by
  have h2 := ((chkE_ok l).1 h).2
  refine back_spec _ 0 n (rns_ups l) (Nat.zero_le _) ?_
  have := rnF_last l.length 0 l
  unfold rns
  rw [this]; unfold endA at h2; omega
/-- A string is cut at its starts, and nowhere else, into two strings. -/
theorem cut_sts (l : List UInt8) (h : chkE l = 0) (n : Nat) (hn : n ≤ l.length) : n ∈ sts l ↔ chkE (l.take n) = 0 ∧ chkE (l.drop n) = 0 := by
  obtain ⟨h1, h2⟩ := (chkE_ok l).1 h
  constructor
  · intro hm
    -- by the fuel: at a start both halves are whole
    have key : ∀ (f k : Nat) (m : List UInt8), m.length ≤ f → endF f k m = k + m.length → ∀ j, k + j ∈ k :: (rnF f k m).map (·.2) → j ≤ m.length → endF f k (m.take j) = k + j ∧ endF f (k + j) (m.drop j) = k + m.length := by
      intro f
      induction f with
      | zero =>
        intro k m hf he j hj hjm
        have : m = [] := List.length_eq_zero_iff.1 (by omega)
        subst this
        simp at hjm; subst hjm; simp [endF]
      | succ f ih =>
        intro k m hf he j hj hjm
        by_cases hd : (dec m).2.2 = 0
        · have hw := dec_w m hd
          obtain ⟨a, b, c, d, e⟩ := enc_dec m (dec m).1 (dec m).2.1 (by rw [← hd])
          simp only [rnF, hd, if_true, List.map_cons] at hj
          simp only [endF, hd, if_true] at he
          by_cases hj0 : j = 0
          · subst hj0
            simp only [List.take_zero, List.drop_zero, Nat.add_zero]
            refine ⟨by simp [endF, dec_nil], ?_⟩
            simp only [endF, hd, if_true, he]
          · have hjw : (dec m).2.1 ≤ j ∧ k + j ∈ (k + (dec m).2.1) :: (rnF f (k + (dec m).2.1) (m.drop (dec m).2.1)).map (·.2) := by
              rcases List.mem_cons.1 hj with hj | hj
              · omega
              · refine ⟨?_, hj⟩
                rcases List.mem_cons.1 hj with hj | hj
                · omega
                · have := ups_lt _ _ (rnF_ups f (k + (dec m).2.1) (m.drop (dec m).2.1)) _ hj; omega
            obtain ⟨i1, i2⟩ := ih (k + (dec m).2.1) (m.drop (dec m).2.1) (by simp; omega) (by rw [he]; simp; omega) (j - (dec m).2.1) (by rw [show k + (dec m).2.1 + (j - (dec m).2.1) = k + j by omega]; exact hjw.2) (by simp; omega)
            have ht : m.take j = enc (dec m).1 ++ (m.drop (dec m).2.1).take (j - (dec m).2.1) := by
              rw [e]
              conv => lhs; rw [show j = (dec m).2.1 + (j - (dec m).2.1) by omega]
              rw [List.take_add]
            have hwl : (enc (dec m).1).length = (dec m).2.1 := by rw [e]; simp; omega
            have hd2 : dec (m.take j) = dec m := by rw [ht, dec_enc _ a, hwl, ← hd]
            constructor
            · simp only [endF, hd2, hd, if_true, List.drop_take, i1]; omega
            · rw [List.drop_drop, show (dec m).2.1 + (j - (dec m).2.1) = j by omega, show k + (dec m).2.1 + (j - (dec m).2.1) = k + j by omega] at i2
              rw [endF_more (f + 1) f _ _ (by simp; omega) (by simp; omega), i2]
              simp; omega
        · simp only [endF] at he
          rw [if_neg hd] at he
          have : m = [] := List.length_eq_zero_iff.1 (by omega)
          subst this
          simp at hjm; subst hjm; simp [endF, dec_nil]
    obtain ⟨k1, k2⟩ := key l.length 0 l (Nat.le_refl _) (by unfold endA at h2; omega) n (by simpa [sts, rns] using hm) hn
    constructor
    · rw [chkE_ok]
      refine ⟨by simp; omega, ?_⟩
      unfold endA
      rw [endF_more _ l.length 0 _ (Nat.le_refl _) (by rw [List.length_take]; omega), k1]; simp; omega
    · rw [chkE_ok]
      refine ⟨by simp; omega, ?_⟩
      unfold endA
      have hs := endF_shift l.length 0 n (l.drop n)
      rw [Nat.zero_add] at hs k2
      rw [endF_more _ l.length 0 _ (Nat.le_refl _) (by simp)]
      rw [hs] at k2
      simp; omega
  · rintro ⟨c1, _⟩
    have e1 := ((chkE_ok _).1 c1).2
    have ha := (rns_app (l.take n) (l.drop n) e1).1
    rw [List.take_append_drop] at ha
    have hl := rnF_last (l.take n).length 0 (l.take n)
    have hend : endF (l.take n).length 0 (l.take n) = n := by unfold endA at e1; rw [e1]; simp; omega
    rw [hend] at hl
    unfold sts
    rw [ha, List.map_append]
    by_cases hr : (rns (l.take n)).map (·.2) = []
    · unfold rns at hr; rw [hr] at hl; simp at hl; subst hl; simp
    · have : ((rns (l.take n)).map (·.2)).getLast hr = n := by
        have h9 : ∀ (m : List Nat) (hm : m ≠ []), m.getLast hm = m.getLastD 0 := by
          intro m hm
          cases m with
          | nil => exact absurd rfl hm
          | cons x m => rfl
        rw [h9]; exact hl
      have hmem := List.getLast_mem hr
      rw [this] at hmem
      exact List.mem_cons_of_mem _ (List.mem_append_left _ hmem)
end Go.Proofs.YtpbfbejckhbijaaGreatDoor.Ru
namespace Go.Proofs.YtpbfbejckhbijaaGreatDoor.Ru
open Go.RowKit

/-- The listed variables, by their blocks. -/
structure Lay (w : World) : Prop where
  size : 0 + 1 ≤ w.heap.size
  leads : ∃ t z, w.heap[0]? = some (.cells #[.int .u8 0, .int .u8 0, .int .u8 192, .int .u8 224, .int .u8 240] t z)

theorem Lay.below {w w' : World} (h : Lay w) {B : Nat} (hB : 0 + 1 ≤ B) (hb : Below B w w') : Lay w' where
  size := Nat.le_trans h.size hb.size
  leads := by obtain ⟨t, z, e⟩ := h.leads; exact ⟨t, z, (hb.block _ (by omega)).trans e⟩
theorem Lay.next {w w' : World} (h : Lay w) (hb : Below w.heap.size w w') : Lay w' := h.below h.size hb
theorem Lay.alloc {w : World} (h : Lay w) (o : Obj) : Lay (w.alloc o) := h.next ((Below.refl _ _).alloc (Nat.le_refl _) o)
theorem Lay.drew {w : World} (h : Lay w) : Lay w.drew := h.next (Below.refl _ _).drew

theorem cell_of_block {w : World} {b : Nat} {cs : Array Value} {t : TypeId} {z : Nat × Nat} (h : w.heap[b]? = some (.cells cs t z)) (i : Nat) : w.cell? ⟨b, i, none⟩ = cs[i]? := by
  simp [World.cell?, h]

/-- A slice of bytes that can be read, its cells below B. -/
def RdB (B : Nat) (w : World) (v : Value) (l : List UInt8) : Prop :=
  ∃ a cap, v = .slice a l.length cap ∧ l.length ≤ cap ∧ cap ≤ 9223372036854775807 ∧ (l ≠ [] → ∃ b off, a = some ⟨b, off, none⟩ ∧ b < B ∧ ∀ j (h : j < l.length), w.cell? ⟨b, off + j, none⟩ = some (.int .u8 (l[j].toNat : Int)))
theorem RdB.below {B : Nat} {w w' : World} {v : Value} {l : List UInt8} (h : RdB B w v l) (hb : Below B w w') : RdB B w' v l := by
  obtain ⟨a, cap, hv, hc, hc2, h⟩ := h
  refine ⟨a, cap, hv, hc, hc2, fun hn => ?_⟩
  obtain ⟨b, off, ha, hlt, hcell⟩ := h hn
  exact ⟨b, off, ha, hlt, fun j hj => (hb.cell (p := ⟨b, off + j, none⟩) hlt).trans (hcell j hj)⟩
theorem RdB.mono {B B' : Nat} {w : World} {v : Value} {l : List UInt8} (h : RdB B w v l) (hb : B ≤ B') : RdB B' w v l := by
  obtain ⟨a, cap, hv, hc, hc2, h⟩ := h
  refine ⟨a, cap, hv, hc, hc2, fun hn => ?_⟩
  obtain ⟨b, off, ha, hlt, hcell⟩ := h hn
  exact ⟨b, off, ha, Nat.lt_of_lt_of_le hlt hb, hcell⟩
theorem RdB.next {w w' : World} {v : Value} {l : List UInt8} (h : RdB w.heap.size w v l) (hb : Below w.heap.size w w') : RdB w'.heap.size w' v l :=
  (h.below hb).mono hb.size
/-- Its bytes from a place on, that is within it. -/
theorem RdB.tail {B : Nat} {w : World} {b off cap : Nat} {l : List UInt8} (k : Nat) (hk : k < l.length) (hcap : l.length ≤ cap) (hc2 : cap ≤ 9223372036854775807) (hb : b < B)
    (hc : ∀ j (h : j < l.length), w.cell? ⟨b, off + j, none⟩ = some (.int .u8 (l[j].toNat : Int))) : RdB B w (.slice (some ⟨b, off + k, none⟩) (l.length - k) (cap - k)) (l.drop k) := by
  refine ⟨_, _, by rw [List.length_drop], by rw [List.length_drop]; omega, by omega, fun _ => ⟨b, off + k, rfl, hb, fun j hj => ?_⟩⟩
  rw [List.length_drop] at hj
  have := hc (k + j) (by omega)
  rw [Nat.add_assoc, this]
  simp

theorem ret_bool {a b : Bool} (h : a = b) : Ending.returned (.bool a) = .returned (.bool b) := by rw [h]
theorem ret_int {k : IntKind} {a b : Int} (h : a = b) : Ending.returned (.int k a) = .returned (.int k b) := by rw [h]
end Go.Proofs.YtpbfbejckhbijaaGreatDoor.Ru
namespace Go.Proofs.YtpbfbejckhbijaaGreatDoor.Ru
open Go.RowKit

set_option maxHeartbeats 400000 in
theorem isRune_any (r : Int) (w : World) :
    Calls Tryz.prog 184 #[.int .i64 r] w fun e w' => e = .returned (.bool (isR r)) ∧ w = w' := by
  go_enter Tryz.func184, Tryz.ntmps184
  go_wp2
  all_goals (go_ret; exact ⟨ret_bool (by rw [Bool.eq_iff_iff]; simp [isR]; try omega), rfl⟩)

set_option maxHeartbeats 400000 in
theorem width_1 (r : Int) (w : World) (h : r < 128) :
    Calls Tryz.prog 200 #[.int .i64 r] w fun e w' => e = .returned (.int .i64 1) ∧ w = w' := by
  go_enter Tryz.func200, Tryz.ntmps200
  go_wp2
  all_goals (go_ret; exact ⟨rfl, rfl⟩)
set_option maxHeartbeats 400000 in
theorem width_2 (r : Int) (w : World) (h0 : ¬ r < 128) (h : r < 2048) :
    Calls Tryz.prog 200 #[.int .i64 r] w fun e w' => e = .returned (.int .i64 2) ∧ w = w' := by
  go_enter Tryz.func200, Tryz.ntmps200
  go_wp2
  all_goals (go_ret; exact ⟨rfl, rfl⟩)
set_option maxHeartbeats 400000 in
theorem width_3 (r : Int) (w : World) (h0 : ¬ r < 2048) (h : r < 65536) :
    Calls Tryz.prog 200 #[.int .i64 r] w fun e w' => e = .returned (.int .i64 3) ∧ w = w' := by
  have h1 : ¬ r < 128 := by omega
  go_enter Tryz.func200, Tryz.ntmps200
  go_wp2
  all_goals (go_ret; exact ⟨rfl, rfl⟩)
set_option maxHeartbeats 400000 in
theorem width_4 (r : Int) (w : World) (h0 : ¬ r < 65536) :
    Calls Tryz.prog 200 #[.int .i64 r] w fun e w' => e = .returned (.int .i64 4) ∧ w = w' := by
  have h1 : ¬ r < 128 := by omega
  have h2 : ¬ r < 2048 := by omega
  go_enter Tryz.func200, Tryz.ntmps200
  go_wp2
  all_goals (go_ret; exact ⟨rfl, rfl⟩)

set_option maxHeartbeats 400000 in
theorem tailByte_any (n : Int) (w : World) (h0 : 0 ≤ n) (h1 : n ≤ 1114111) :
    Calls Tryz.prog 201 #[.int .i64 n] w fun e w' => e = .returned (.int .u8 (128 + n % 64)) ∧ w = w' := by
  have ha : bits BinOp.and IntKind.i64 n 63 = n % 64 := bits_mask .i64 32 (by decide) (fun n h0 h1 => by rw [IntKind.wrap_i64]; omega) 6 (by decide) n h0 (by omega)
  go_enter Tryz.func201, Tryz.ntmps201
  go_wp2
  go_ret
  exact ⟨rfl, rfl⟩
end Go.Proofs.YtpbfbejckhbijaaGreatDoor.Ru
namespace Go.Proofs.YtpbfbejckhbijaaGreatDoor.Ru
open Go.RowKit

set_option maxRecDepth 100000
/-- A row of bytes of the call's own. -/
def Bys (w : World) (base : Nat) (v : Value) (l : List UInt8) : Prop := w.ownsRow base 5 1 v l.length (l.map fun c => .int .u8 (c.toNat : Int))
theorem own_below {w w' : World} {base : Nat} {e : TypeId} {size : Nat} {v : Value} {n : Nat} {xs : List Value} (h : w.ownsRow base e size v n xs) (hb : Below w.heap.size w w') : w'.ownsRow base e size v n xs := by
  obtain ⟨h1, h2⟩ := h
  refine ⟨h1, ?_⟩
  rcases h2 with h2 | ⟨g, cap, cur, hv, hg, hh, r⟩
  · exact .inl h2
  · exact .inr ⟨g, cap, cur, hv, hg, by rw [hb.block g (Array.getElem?_eq_some_iff.1 hh).1]; exact hh, r⟩
theorem info5 : (Tryz.prog.info? 5).map (fun i => (i.zero, i.size, i.bytes)) = some (some (.int .u8 0), 1, 1) := by kernel_rfl
/-- What stands at the head of a new block. -/
theorem cells_new (w : World) (cs : Array Value) (t : TypeId) (z : Nat × Nat) : ∀ j u, cs.toList[j]? = some u → (w.alloc (.cells cs t z)).cell? ((⟨w.heap.size, 0, none⟩ : Addr).add j) = some u := by
  intro j u h
  have e : (⟨w.heap.size, 0, none⟩ : Addr).add j = ⟨w.heap.size, j, none⟩ := by simp [Addr.add]; intro h; exact h.symm
  rw [e]
  have h2 : (w.alloc (.cells cs t z)).heap[w.heap.size]? = some (.cells cs t z) := World.alloc_heap_new w _
  rw [cell_of_block h2 j]
  simpa using h
theorem cells_new' (w : World) (cs : Array Value) (news : List Value) (t : TypeId) (z : Nat × Nat) (h : cs.toList = news) : ∀ j u, news[j]? = some u → (w.alloc (.cells cs t z)).cell? ((⟨w.heap.size, 0, none⟩ : Addr).add j) = some u := by
  subst h; exact cells_new w cs t z
theorem cells_newD (w : World) (cs : Array Value) (news : List Value) (t : TypeId) (z : Nat × Nat) (h : cs.toList = news) : ∀ j u, news[j]? = some u → (w.alloc (.cells cs t z)).drew.cell? ((⟨w.heap.size, 0, none⟩ : Addr).add j) = some u :=
  cells_new' w cs news t z h

theorem bys_snoc {w : World} {B : Nat} {v : Value} {l : List UInt8} {c : UInt8} {z : Int} (hz : (c.toNat : Int) = z) (h : w.ownsRow B 5 1 v (l.length + 1) ((l.map fun c => .int .u8 (c.toNat : Int)) ++ [.int .u8 z])) : Bys w B v (l ++ [c]) := by
  unfold Bys; subst hz; rw [List.length_append, List.map_append]; exact h
theorem on8 (n : Nat) (h : n < 256) {z : Int} (hz : (n : Int) = z) : ((UInt8.ofNat n).toNat : Int) = z := by rw [on n h]; exact hz
theorem lead_cells (x y z : Int) (h : bits BinOp.or IntKind.u8 x (IntKind.u8.wrap y) = z) : (#[.int .u8 (bits BinOp.or IntKind.u8 x (IntKind.u8.wrap y))] : Array Value).toList = [.int .u8 z] := by rw [h]
theorem or0 (y : Int) (h0 : 0 ≤ y) (h1 : y < 256) : bits BinOp.or IntKind.u8 0 (IntKind.u8.wrap y) = y := by
  rw [IntKind.wrap_u8, Int.emod_eq_of_lt h0 h1]
  have key : ∀ c : Fin 256, bits BinOp.or IntKind.u8 0 ((c.val : Nat) : Int) = ((c.val : Nat) : Int) := by decide +kernel
  have := key ⟨y.toNat, by omega⟩
  simpa [Int.toNat_of_nonneg h0] using this
theorem or192 (y : Int) (h0 : 0 ≤ y) (h1 : y < 32) : bits BinOp.or IntKind.u8 192 (IntKind.u8.wrap y) = 192 + y := by
  rw [IntKind.wrap_u8, Int.emod_eq_of_lt h0 (by omega), u8_or192 y h0 h1]
theorem or224 (y : Int) (h0 : 0 ≤ y) (h1 : y < 16) : bits BinOp.or IntKind.u8 224 (IntKind.u8.wrap y) = 224 + y := by
  rw [IntKind.wrap_u8, Int.emod_eq_of_lt h0 (by omega), u8_or224 y h0 h1]
theorem or240 (y : Int) (h0 : 0 ≤ y) (h1 : y < 8) : bits BinOp.or IntKind.u8 240 (IntKind.u8.wrap y) = 240 + y := by
  rw [IntKind.wrap_u8, Int.emod_eq_of_lt h0 (by omega), u8_or240 y h0 h1]

set_option maxHeartbeats 4000000 in
theorem append_1 (B : Nat) (r : Nat) (v : Value) (l : List UInt8) (w : World) (hw : Lay w) (hB : B ≤ w.heap.size) (hown : Bys w B v l) (hl : l.length ≤ 70368744177664) (h1 : (r : Int) < 128) :
    Calls Tryz.prog 185 #[v, .int .i64 r] w fun e w' => ∃ v', e = .returned v' ∧ Bys w' B v' (l ++ enc r) ∧ Below B w w' := by
  obtain ⟨i0, hi, hz0, hz1, hz2⟩ := info_parts info5
  obtain ⟨t, z, hld⟩ := hw.leads
  have hc := cell_of_block hld 1
  simp at hc
  have e0 : IntKind.i64.wrap 0 = 0 := by decide
  go_enter Tryz.func185, Tryz.ntmps185
  go_wp2_with (first
    | (go_at_call 200; refine (width_1 _ _ h1).mono ?_; rintro e w' ⟨rfl, rfl⟩))
  go_region_law (refine step_append_lies _ rfl (.tmp 8) (.tmp 19) 154 rfl B 5 i0 (.int .u8 0) 1 1 Tryz.underlying154 hi hz0 hz1 hz2 rfl (by decide) v l.length (l.map fun c => .int .u8 (c.toNat : Int)) rfl ((hown.alloc _).drew) ⟨w.heap.size, 0, none⟩ 1 1 [.int .u8 (r)] rfl rfl (cells_newD _ _ _ _ _ (lead_cells _ _ _ (or0 _ (by omega) (by omega)))) (by simp [Value.oneCell']) (by decide) (by unfold maxLen; omega) (by omega) (by simp; omega) _ rfl ?_; intro g cap w1 hown' hgrow hat hlt)
  all_goals go_wp2_with fail
  all_goals go_ret
  all_goals exact ⟨_, rfl, by rw [show enc r = [UInt8.ofNat r] by unfold enc encN; rw [if_pos (by omega)]; rfl]; exact bys_snoc (on8 _ (by omega) rfl) hown', (((Below.refl B w).alloc (by omega) _).drew).grown hgrow (by simp; omega) (fun j e => (hown.lt j e).1)⟩

set_option maxHeartbeats 4000000 in
theorem append_2 (B : Nat) (r : Nat) (v : Value) (l : List UInt8) (w : World) (hw : Lay w) (hB : B ≤ w.heap.size) (hown : Bys w B v l) (hl : l.length ≤ 70368744177664) (h0 : ¬ (r : Int) < 128) (h1 : (r : Int) < 2048) :
    Calls Tryz.prog 185 #[v, .int .i64 r] w fun e w' => ∃ v', e = .returned v' ∧ Bys w' B v' (l ++ enc r) ∧ Below B w w' := by
  obtain ⟨i0, hi, hz0, hz1, hz2⟩ := info_parts info5
  obtain ⟨t, z, hld⟩ := hw.leads
  have hc := cell_of_block hld 2
  simp at hc
  have e0 : IntKind.i64.wrap 1 = 1 := by decide
  have e1 : IntKind.i64.wrap 6 = 6 := by decide
  go_enter Tryz.func185, Tryz.ntmps185
  go_wp2_with (first
    | (go_at_call 200; refine (width_2 _ _ h0 h1).mono ?_; rintro e w' ⟨rfl, rfl⟩))
  go_region_law (refine step_append_lies _ rfl (.tmp 8) (.tmp 19) 154 rfl B 5 i0 (.int .u8 0) 1 1 Tryz.underlying154 hi hz0 hz1 hz2 rfl (by decide) v l.length (l.map fun c => .int .u8 (c.toNat : Int)) rfl ((hown.alloc _).drew) ⟨w.heap.size, 0, none⟩ 1 1 [.int .u8 (192 + (r : Int) / 64)] rfl rfl (cells_newD _ _ _ _ _ (lead_cells _ _ _ (or192 _ (by omega) (by omega)))) (by simp [Value.oneCell']) (by decide) (by unfold maxLen; omega) (by omega) (by simp; omega) _ rfl ?_; intro g1 cap1 w1 hown1 hgrow1 hat1 hlt1)
  have hb1 := (((Below.refl B w).alloc (by omega) _).drew).grown hgrow1 (by simp; omega) (fun j e => (hown.lt j e).1)
  have hs1 := hb1.size
  clear hat1 hlt1 hgrow1 hc e0 e1
  go_wp2_with fail
  refine (tailByte_any _ _ (by omega) (by omega)).mono ?_
  rintro e w' ⟨rfl, rfl⟩
  go_wp2_with (at_builtin; refine wpList_append_own _ rfl _ _ 154 rfl B 5 i0 (.int .u8 0) 1 1 Tryz.underlying154 hi hz0 hz1 hz2 rfl (by decide) _ _ _ rfl (hown1.alloc _) ⟨w1.heap.size, 0, none⟩ 1 1 [.int .u8 (128 + (r : Int) % 64)] rfl rfl ?c11 ?c21 ?c31 ?c41 ?c51 ?_; rotate_left 5; intro v2 w2 hown2 hgrow2 _; obtain ⟨g2, cap2, rfl⟩ := ownsRow_succ hown2)
  case c11 => exact cells_new' _ _ _ _ _ rfl
  case c21 => simp [Value.oneCell']
  case c31 => unfold maxLen; omega
  case c41 => omega
  case c51 => simp; omega
  have hb2 := (hb1.alloc (by omega) _).grown hgrow2 (by simp; omega) (fun j e => (hown1.lt j e).1)
  have hs2 := hb2.size
  clear hgrow2
  go_ret
  have q : enc r = [UInt8.ofNat (192 + r / 64), UInt8.ofNat (128 + r % 64)] := by unfold enc encN; rw [if_neg (by omega), if_pos (by omega)]; rfl
  refine ⟨_, rfl, ?_, hb2⟩
  unfold Bys
  rw [q]
  have q2 : (l ++ [UInt8.ofNat (192 + r / 64), UInt8.ofNat (128 + r % 64)]).map (fun c => Value.int .u8 (c.toNat : Int)) = (l.map fun c => Value.int .u8 (c.toNat : Int)) ++ [.int .u8 (192 + (r : Int) / 64), .int .u8 (128 + (r : Int) % 64)] := by
    rw [List.map_append]; simp only [List.map_cons, List.map_nil]
    rw [on (192 + r / 64) (by omega), on (128 + r % 64) (by omega)]
    rfl
  rw [q2, List.length_append]
  simpa [List.append_assoc, Nat.add_assoc] using hown2

set_option maxHeartbeats 4000000 in
theorem append_3 (B : Nat) (r : Nat) (v : Value) (l : List UInt8) (w : World) (hw : Lay w) (hB : B ≤ w.heap.size) (hown : Bys w B v l) (hl : l.length ≤ 70368744177664) (h0 : ¬ (r : Int) < 2048) (h1 : (r : Int) < 65536) :
    Calls Tryz.prog 185 #[v, .int .i64 r] w fun e w' => ∃ v', e = .returned v' ∧ Bys w' B v' (l ++ enc r) ∧ Below B w w' := by
  obtain ⟨i0, hi, hz0, hz1, hz2⟩ := info_parts info5
  obtain ⟨t, z, hld⟩ := hw.leads
  have hc := cell_of_block hld 3
  simp at hc
  have e0 : IntKind.i64.wrap 2 = 2 := by decide
  have e1 : IntKind.i64.wrap 12 = 12 := by decide
  go_enter Tryz.func185, Tryz.ntmps185
  go_wp2_with (first
    | (go_at_call 200; refine (width_3 _ _ h0 h1).mono ?_; rintro e w' ⟨rfl, rfl⟩))
  go_region_law (refine step_append_lies _ rfl (.tmp 8) (.tmp 19) 154 rfl B 5 i0 (.int .u8 0) 1 1 Tryz.underlying154 hi hz0 hz1 hz2 rfl (by decide) v l.length (l.map fun c => .int .u8 (c.toNat : Int)) rfl ((hown.alloc _).drew) ⟨w.heap.size, 0, none⟩ 1 1 [.int .u8 (224 + (r : Int) / 4096)] rfl rfl (cells_newD _ _ _ _ _ (lead_cells _ _ _ (or224 _ (by omega) (by omega)))) (by simp [Value.oneCell']) (by decide) (by unfold maxLen; omega) (by omega) (by simp; omega) _ rfl ?_; intro g1 cap1 w1 hown1 hgrow1 hat1 hlt1)
  have hb1 := (((Below.refl B w).alloc (by omega) _).drew).grown hgrow1 (by simp; omega) (fun j e => (hown.lt j e).1)
  have hs1 := hb1.size
  clear hat1 hlt1 hgrow1 hc e0 e1
  go_wp2_with fail
  refine (tailByte_any _ _ (by omega) (by omega)).mono ?_
  rintro e w' ⟨rfl, rfl⟩
  go_wp2_with (at_builtin; refine wpList_append_own _ rfl _ _ 154 rfl B 5 i0 (.int .u8 0) 1 1 Tryz.underlying154 hi hz0 hz1 hz2 rfl (by decide) _ _ _ rfl (hown1.alloc _) ⟨w1.heap.size, 0, none⟩ 1 1 [.int .u8 (128 + (r : Int) / 64 % 64)] rfl rfl ?c11 ?c21 ?c31 ?c41 ?c51 ?_; rotate_left 5; intro v2 w2 hown2 hgrow2 _; obtain ⟨g2, cap2, rfl⟩ := ownsRow_succ hown2)
  case c11 => exact cells_new' _ _ _ _ _ rfl
  case c21 => simp [Value.oneCell']
  case c31 => unfold maxLen; omega
  case c41 => omega
  case c51 => simp; omega
  have hb2 := (hb1.alloc (by omega) _).grown hgrow2 (by simp; omega) (fun j e => (hown1.lt j e).1)
  have hs2 := hb2.size
  clear hgrow2
  go_wp2_with fail
  refine (tailByte_any _ _ (by omega) (by omega)).mono ?_
  rintro e w' ⟨rfl, rfl⟩
  go_wp2_with (at_builtin; refine wpList_append_own _ rfl _ _ 154 rfl B 5 i0 (.int .u8 0) 1 1 Tryz.underlying154 hi hz0 hz1 hz2 rfl (by decide) _ _ _ rfl (hown2.alloc _) ⟨w2.heap.size, 0, none⟩ 1 1 [.int .u8 (128 + (r : Int) % 64)] rfl rfl ?c12 ?c22 ?c32 ?c42 ?c52 ?_; rotate_left 5; intro v3 w3 hown3 hgrow3 _; obtain ⟨g3, cap3, rfl⟩ := ownsRow_succ hown3)
  case c12 => exact cells_new' _ _ _ _ _ rfl
  case c22 => simp [Value.oneCell']
  case c32 => unfold maxLen; omega
  case c42 => omega
  case c52 => simp; omega
  have hb3 := (hb2.alloc (by omega) _).grown hgrow3 (by simp; omega) (fun j e => (hown2.lt j e).1)
  have hs3 := hb3.size
  clear hgrow3
  go_ret
  have q : enc r = [UInt8.ofNat (224 + r / 4096), UInt8.ofNat (128 + r / 64 % 64), UInt8.ofNat (128 + r % 64)] := by unfold enc encN; rw [if_neg (by omega), if_neg (by omega), if_pos (by omega)]; rfl
  refine ⟨_, rfl, ?_, hb3⟩
  unfold Bys
  rw [q]
  have q2 : (l ++ [UInt8.ofNat (224 + r / 4096), UInt8.ofNat (128 + r / 64 % 64), UInt8.ofNat (128 + r % 64)]).map (fun c => Value.int .u8 (c.toNat : Int)) = (l.map fun c => Value.int .u8 (c.toNat : Int)) ++ [.int .u8 (224 + (r : Int) / 4096), .int .u8 (128 + (r : Int) / 64 % 64), .int .u8 (128 + (r : Int) % 64)] := by
    rw [List.map_append]; simp only [List.map_cons, List.map_nil]
    rw [on (224 + r / 4096) (by omega), on (128 + r / 64 % 64) (by omega), on (128 + r % 64) (by omega)]
    rfl
  rw [q2, List.length_append]
  simpa [List.append_assoc, Nat.add_assoc] using hown3

set_option maxHeartbeats 4000000 in
theorem append_4 (B : Nat) (r : Nat) (v : Value) (l : List UInt8) (w : World) (hw : Lay w) (hB : B ≤ w.heap.size) (hown : Bys w B v l) (hl : l.length ≤ 70368744177664) (h0 : ¬ (r : Int) < 65536) (h1 : (r : Int) ≤ 1114111) :
    Calls Tryz.prog 185 #[v, .int .i64 r] w fun e w' => ∃ v', e = .returned v' ∧ Bys w' B v' (l ++ enc r) ∧ Below B w w' := by
  obtain ⟨i0, hi, hz0, hz1, hz2⟩ := info_parts info5
  obtain ⟨t, z, hld⟩ := hw.leads
  have hc := cell_of_block hld 4
  simp at hc
  have e0 : IntKind.i64.wrap 3 = 3 := by decide
  have e1 : IntKind.i64.wrap 18 = 18 := by decide
  go_enter Tryz.func185, Tryz.ntmps185
  go_wp2_with (first
    | (go_at_call 200; refine (width_4 _ _ h0).mono ?_; rintro e w' ⟨rfl, rfl⟩))
  go_region_law (refine step_append_lies _ rfl (.tmp 8) (.tmp 19) 154 rfl B 5 i0 (.int .u8 0) 1 1 Tryz.underlying154 hi hz0 hz1 hz2 rfl (by decide) v l.length (l.map fun c => .int .u8 (c.toNat : Int)) rfl ((hown.alloc _).drew) ⟨w.heap.size, 0, none⟩ 1 1 [.int .u8 (240 + (r : Int) / 262144)] rfl rfl (cells_newD _ _ _ _ _ (lead_cells _ _ _ (or240 _ (by omega) (by omega)))) (by simp [Value.oneCell']) (by decide) (by unfold maxLen; omega) (by omega) (by simp; omega) _ rfl ?_; intro g1 cap1 w1 hown1 hgrow1 hat1 hlt1)
  have hb1 := (((Below.refl B w).alloc (by omega) _).drew).grown hgrow1 (by simp; omega) (fun j e => (hown.lt j e).1)
  have hs1 := hb1.size
  clear hat1 hlt1 hgrow1 hc e0 e1
  go_wp2_with fail
  refine (tailByte_any _ _ (by omega) (by omega)).mono ?_
  rintro e w' ⟨rfl, rfl⟩
  go_wp2_with (at_builtin; refine wpList_append_own _ rfl _ _ 154 rfl B 5 i0 (.int .u8 0) 1 1 Tryz.underlying154 hi hz0 hz1 hz2 rfl (by decide) _ _ _ rfl (hown1.alloc _) ⟨w1.heap.size, 0, none⟩ 1 1 [.int .u8 (128 + (r : Int) / 4096 % 64)] rfl rfl ?c11 ?c21 ?c31 ?c41 ?c51 ?_; rotate_left 5; intro v2 w2 hown2 hgrow2 _; obtain ⟨g2, cap2, rfl⟩ := ownsRow_succ hown2)
  case c11 => exact cells_new' _ _ _ _ _ rfl
  case c21 => simp [Value.oneCell']
  case c31 => unfold maxLen; omega
  case c41 => omega
  case c51 => simp; omega
  have hb2 := (hb1.alloc (by omega) _).grown hgrow2 (by simp; omega) (fun j e => (hown1.lt j e).1)
  have hs2 := hb2.size
  clear hgrow2
  go_wp2_with fail
  refine (tailByte_any _ _ (by omega) (by omega)).mono ?_
  rintro e w' ⟨rfl, rfl⟩
  go_wp2_with (at_builtin; refine wpList_append_own _ rfl _ _ 154 rfl B 5 i0 (.int .u8 0) 1 1 Tryz.underlying154 hi hz0 hz1 hz2 rfl (by decide) _ _ _ rfl (hown2.alloc _) ⟨w2.heap.size, 0, none⟩ 1 1 [.int .u8 (128 + (r : Int) / 64 % 64)] rfl rfl ?c12 ?c22 ?c32 ?c42 ?c52 ?_; rotate_left 5; intro v3 w3 hown3 hgrow3 _; obtain ⟨g3, cap3, rfl⟩ := ownsRow_succ hown3)
  case c12 => exact cells_new' _ _ _ _ _ rfl
  case c22 => simp [Value.oneCell']
  case c32 => unfold maxLen; omega
  case c42 => omega
  case c52 => simp; omega
  have hb3 := (hb2.alloc (by omega) _).grown hgrow3 (by simp; omega) (fun j e => (hown2.lt j e).1)
  have hs3 := hb3.size
  clear hgrow3
  go_wp2_with fail
  refine (tailByte_any _ _ (by omega) (by omega)).mono ?_
  rintro e w' ⟨rfl, rfl⟩
  go_wp2_with (at_builtin; refine wpList_append_own _ rfl _ _ 154 rfl B 5 i0 (.int .u8 0) 1 1 Tryz.underlying154 hi hz0 hz1 hz2 rfl (by decide) _ _ _ rfl (hown3.alloc _) ⟨w3.heap.size, 0, none⟩ 1 1 [.int .u8 (128 + (r : Int) % 64)] rfl rfl ?c13 ?c23 ?c33 ?c43 ?c53 ?_; rotate_left 5; intro v4 w4 hown4 hgrow4 _; obtain ⟨g4, cap4, rfl⟩ := ownsRow_succ hown4)
  case c13 => exact cells_new' _ _ _ _ _ rfl
  case c23 => simp [Value.oneCell']
  case c33 => unfold maxLen; omega
  case c43 => omega
  case c53 => simp; omega
  have hb4 := (hb3.alloc (by omega) _).grown hgrow4 (by simp; omega) (fun j e => (hown3.lt j e).1)
  have hs4 := hb4.size
  clear hgrow4
  go_ret
  have q : enc r = [UInt8.ofNat (240 + r / 262144), UInt8.ofNat (128 + r / 4096 % 64), UInt8.ofNat (128 + r / 64 % 64), UInt8.ofNat (128 + r % 64)] := by unfold enc encN; rw [if_neg (by omega), if_neg (by omega), if_neg (by omega)]; rfl
  refine ⟨_, rfl, ?_, hb4⟩
  unfold Bys
  rw [q]
  have q2 : (l ++ [UInt8.ofNat (240 + r / 262144), UInt8.ofNat (128 + r / 4096 % 64), UInt8.ofNat (128 + r / 64 % 64), UInt8.ofNat (128 + r % 64)]).map (fun c => Value.int .u8 (c.toNat : Int)) = (l.map fun c => Value.int .u8 (c.toNat : Int)) ++ [.int .u8 (240 + (r : Int) / 262144), .int .u8 (128 + (r : Int) / 4096 % 64), .int .u8 (128 + (r : Int) / 64 % 64), .int .u8 (128 + (r : Int) % 64)] := by
    rw [List.map_append]; simp only [List.map_cons, List.map_nil]
    rw [on (240 + r / 262144) (by omega), on (128 + r / 4096 % 64) (by omega), on (128 + r / 64 % 64) (by omega), on (128 + r % 64) (by omega)]
    rfl
  rw [q2, List.length_append]
  simpa [List.append_assoc, Nat.add_assoc] using hown4

end Go.Proofs.YtpbfbejckhbijaaGreatDoor.Ru
namespace Go.Proofs.YtpbfbejckhbijaaGreatDoor.Ru
open Go.RowKit

theorem append_any (B : Nat) (r : Nat) (v : Value) (l : List UInt8) (w : World) (hw : Lay w) (hB : B ≤ w.heap.size) (hown : Bys w B v l) (hl : l.length ≤ 70368744177664) (hr : isR (r : Int) = true) :
    Calls Tryz.prog 185 #[v, .int .i64 r] w fun e w' => ∃ v', e = .returned v' ∧ Bys w' B v' (l ++ enc r) ∧ Below B w w' := by
  have hb : (r : Int) ≤ 1114111 := by simp [isR] at hr; omega
  by_cases h1 : (r : Int) < 128
  · exact append_1 B r v l w hw hB hown hl h1
  by_cases h2 : (r : Int) < 2048
  · exact append_2 B r v l w hw hB hown hl h1 h2
  by_cases h3 : (r : Int) < 65536
  · exact append_3 B r v l w hw hB hown hl h2 h3
  · exact append_4 B r v l w hw hB hown hl h3 hb

end Go.Proofs.YtpbfbejckhbijaaGreatDoor.Ru
namespace Go.Proofs.YtpbfbejckhbijaaGreatDoor.Ru
open Go

def fullT (n b0 b1 b2 : Nat) : Bool :=
  decide (Lib.firstT b0 % 8 ≤ n) || (decide (1 < n) && (decide (b1 < Lib.accLo (Lib.firstT b0 / 16)) || decide (Lib.accHi (Lib.firstT b0 / 16) < b1))) || (decide (2 < n) && (decide (b2 < 128) || decide (191 < b2)))

theorem decN_ok (n b0 b1 b2 b3 r k : Nat) (h : decT n b0 b1 b2 b3 = (r, k, 0)) : Lib.decodeN n b0 b1 b2 b3 = (r, k) ∧ (r = 65533 → 1 < k) := by
  have h0 : (decT n b0 b1 b2 b3).2.2 = 0 := by rw [h]
  rcases decT_ok n b0 b1 b2 b3 h0 with ⟨a, e⟩ | ⟨hn', a1, a2, a3, e⟩ | ⟨hn', a1, a2, a3, a4, a5, a6, e⟩ | ⟨hn', a1, a2, a3, a4, a5, a6, a7, e⟩
  all_goals
    rw [e] at h
    simp only [Prod.mk.injEq] at h
    obtain ⟨rfl, rfl, _⟩ := h
    refine ⟨?_, by omega⟩
    unfold Lib.decodeN
  · rw [if_pos a]
  · rw [if_neg (by omega), if_pos (by omega), if_pos (by omega)]
  · rw [if_neg (by omega), if_neg (by omega), if_pos (by omega), if_pos (by omega)]
  · rw [if_neg (by omega), if_neg (by omega), if_neg (by omega), if_pos (by omega), if_pos (by omega)]
theorem decN_bad (n b0 b1 b2 b3 : Nat) (h : (decT n b0 b1 b2 b3).2.2 ≠ 0) : Lib.decodeN n b0 b1 b2 b3 = (65533, 1) := by
  have key : ∀ r k, Lib.decodeN n b0 b1 b2 b3 = (r, k) → (r, k) ≠ (65533, 1) → (decT n b0 b1 b2 b3).2.2 = 0 := by
    intro r k e hne
    unfold Lib.decodeN at e
    unfold decT
    by_cases h0 : b0 < 128
    · rw [if_pos h0]
    rw [if_neg h0] at e ⊢
    by_cases h1 : b0 / 32 = 6 ∧ (1 < n ∧ b1 / 64 = 2)
    · rw [if_pos h1] at e
      split at e
      · rw [if_neg (by omega), if_pos (by omega), if_neg (by omega), if_pos (by omega)]
      · exact absurd e.symm hne
    rw [if_neg h1] at e
    by_cases h2 : b0 / 16 = 14 ∧ (1 < n ∧ b1 / 64 = 2) ∧ (2 < n ∧ b2 / 64 = 2)
    · rw [if_pos h2] at e
      split at e
      · rw [if_neg (by omega), if_neg (by omega), if_pos (by omega), if_neg (by omega), if_neg (by omega), if_neg (by omega), if_pos (by omega)]
      · exact absurd e.symm hne
    rw [if_neg h2] at e
    by_cases h3 : b0 / 8 = 30 ∧ (1 < n ∧ b1 / 64 = 2) ∧ (2 < n ∧ b2 / 64 = 2) ∧ (3 < n ∧ b3 / 64 = 2)
    · rw [if_pos h3] at e
      split at e
      · rw [if_neg (by omega), if_neg (by omega), if_neg (by omega), if_pos (by omega), if_neg (by omega), if_neg (by omega), if_neg (by omega), if_neg (by omega), if_neg (by omega), if_pos (by omega)]
      · exact absurd e.symm hne
    rw [if_neg h3] at e
    exact absurd e.symm hne
  by_cases hne : ((Lib.decodeN n b0 b1 b2 b3).1, (Lib.decodeN n b0 b1 b2 b3).2) = (65533, 1)
  · exact hne
  · exact absurd (key _ _ rfl hne) h
def fB (sz lo hi n b1 b2 : Nat) : Bool := decide (sz ≤ n) || (decide (1 < n) && (decide (b1 < lo) || decide (hi < b1))) || (decide (2 < n) && (decide (b2 < 128) || decide (191 < b2)))
theorem fB_t {sz lo hi n b1 b2 : Nat} (h : sz ≤ n ∨ (1 < n ∧ (b1 < lo ∨ hi < b1)) ∨ (2 < n ∧ (b2 < 128 ∨ 191 < b2))) : fB sz lo hi n b1 b2 = true := by
  simp only [fB, Bool.or_eq_true, Bool.and_eq_true, decide_eq_true_eq]; omega
theorem fB_f {sz lo hi n b1 b2 : Nat} (h : ¬ (sz ≤ n ∨ (1 < n ∧ (b1 < lo ∨ hi < b1)) ∨ (2 < n ∧ (b2 < 128 ∨ 191 < b2)))) : fB sz lo hi n b1 b2 = false := by
  rw [Bool.eq_false_iff]; simp only [fB, ne_eq, Bool.or_eq_true, Bool.and_eq_true, decide_eq_true_eq]; omega
theorem fullT_fB (n b0 b1 b2 X : Nat) (h : Lib.firstT b0 = X) : fullT n b0 b1 b2 = fB (X % 8) (Lib.accLo (X / 16)) (Lib.accHi (X / 16)) n b1 b2 := by subst h; rfl
theorem f3 (n b1 b2 lo hi v : Nat) (C : Prop) [Decidable C] (hC : C ↔ (b1 < lo ∨ hi < b1)) (_ : b2 < 256) :
    ((if n < 2 then (0, 0, 370) else if C then (0, 0, 6) else if n < 3 then (0, 0, 370) else if b2 / 64 = 2 then (v, 3, 0) else (0, 0, 6) : Nat × Nat × Nat) = (0, 0, 6) → fB 3 lo hi n b1 b2 = true) ∧
    ((if n < 2 then (0, 0, 370) else if C then (0, 0, 6) else if n < 3 then (0, 0, 370) else if b2 / 64 = 2 then (v, 3, 0) else (0, 0, 6) : Nat × Nat × Nat) = (0, 0, 370) → fB 3 lo hi n b1 b2 = false) := by
  by_cases a : n < 2
  · rw [if_pos a]; exact ⟨fun h => by simp at h, fun _ => fB_f (by omega)⟩
  rw [if_neg a]
  by_cases c : C
  · rw [if_pos c]; have := hC.1 c; exact ⟨fun _ => fB_t (by omega), fun h => by simp at h⟩
  rw [if_neg c]
  have hc : ¬ (b1 < lo ∨ hi < b1) := fun h => c (hC.2 h)
  by_cases d : n < 3
  · rw [if_pos d]; exact ⟨fun h => by simp at h, fun _ => fB_f (by omega)⟩
  rw [if_neg d]
  by_cases e : b2 / 64 = 2
  · rw [if_pos e]; exact ⟨fun h => by simp at h, fun h => by simp at h⟩
  · rw [if_neg e]; exact ⟨fun _ => fB_t (by omega), fun h => by simp at h⟩
theorem f4 (n b1 b2 b3 lo hi v : Nat) (C : Prop) [Decidable C] (hC : C ↔ (b1 < lo ∨ hi < b1)) (h2 : b2 < 256) :
    ((if n < 2 then (0, 0, 370) else if C then (0, 0, 6) else if n < 3 then (0, 0, 370) else if b2 / 64 ≠ 2 then (0, 0, 6) else if n < 4 then (0, 0, 370) else if b3 / 64 = 2 then (v, 4, 0) else (0, 0, 6) : Nat × Nat × Nat) = (0, 0, 6) → fB 4 lo hi n b1 b2 = true) ∧
    ((if n < 2 then (0, 0, 370) else if C then (0, 0, 6) else if n < 3 then (0, 0, 370) else if b2 / 64 ≠ 2 then (0, 0, 6) else if n < 4 then (0, 0, 370) else if b3 / 64 = 2 then (v, 4, 0) else (0, 0, 6) : Nat × Nat × Nat) = (0, 0, 370) → fB 4 lo hi n b1 b2 = false) := by
  by_cases a : n < 2
  · rw [if_pos a]; exact ⟨fun h => by simp at h, fun _ => fB_f (by omega)⟩
  rw [if_neg a]
  by_cases c : C
  · rw [if_pos c]; have := hC.1 c; exact ⟨fun _ => fB_t (by omega), fun h => by simp at h⟩
  rw [if_neg c]
  have hc : ¬ (b1 < lo ∨ hi < b1) := fun h => c (hC.2 h)
  by_cases d : n < 3
  · rw [if_pos d]; exact ⟨fun h => by simp at h, fun _ => fB_f (by omega)⟩
  rw [if_neg d]
  by_cases e : b2 / 64 ≠ 2
  · rw [if_pos e]; exact ⟨fun _ => fB_t (by omega), fun h => by simp at h⟩
  rw [if_neg e]
  by_cases f : n < 4
  · rw [if_pos f]; exact ⟨fun h => by simp at h, fun _ => fB_f (by omega)⟩
  rw [if_neg f]
  by_cases g : b3 / 64 = 2
  · rw [if_pos g]; exact ⟨fun h => by simp at h, fun h => by simp at h⟩
  · rw [if_neg g]; exact ⟨fun _ => fB_t (by omega), fun h => by simp at h⟩
theorem full_form (n b0 b1 b2 b3 : Nat) (hn : 1 ≤ n) (h0 : b0 < 256) (h1 : b1 < 256) (h2 : b2 < 256) :
    (decT n b0 b1 b2 b3 = (0, 0, 6) → fullT n b0 b1 b2 = true) ∧ (decT n b0 b1 b2 b3 = (0, 0, 370) → fullT n b0 b1 b2 = false) := by
  have hf : (b0 < 128 ∧ Lib.firstT b0 = 240) ∨ (128 ≤ b0 ∧ b0 < 194 ∧ Lib.firstT b0 = 241) ∨ (194 ≤ b0 ∧ b0 < 224 ∧ Lib.firstT b0 = 2) ∨ (b0 = 224 ∧ Lib.firstT b0 = 19) ∨ (224 < b0 ∧ b0 < 240 ∧ b0 ≠ 237 ∧ Lib.firstT b0 = 3) ∨ (b0 = 237 ∧ Lib.firstT b0 = 35) ∨ (b0 = 240 ∧ Lib.firstT b0 = 52) ∨ (240 < b0 ∧ b0 < 244 ∧ Lib.firstT b0 = 4) ∨ (b0 = 244 ∧ Lib.firstT b0 = 68) ∨ (244 < b0 ∧ Lib.firstT b0 = 241) := by
    unfold Lib.firstT
    repeat' split
    all_goals omega
  rcases hf with ⟨a, e⟩ | ⟨a, a', e⟩ | ⟨a, a', e⟩ | ⟨a, e⟩ | ⟨a, a', a'', e⟩ | ⟨a, e⟩ | ⟨a, e⟩ | ⟨a, a', e⟩ | ⟨a, e⟩ | ⟨a, e⟩
  all_goals
    rw [fullT_fB n b0 b1 b2 _ e]
    unfold decT
  · rw [if_pos a]; constructor <;> intro h <;> simp at h
  · rw [if_neg (by omega), if_pos (by omega)]; exact ⟨fun _ => fB_t (by omega), fun h => by simp at h⟩
  · rw [if_neg (by omega), if_neg (by omega), if_pos (by omega)]
    by_cases c : n < 2
    · rw [if_pos c]; exact ⟨fun h => by simp at h, fun _ => fB_f (by omega)⟩
    rw [if_neg c]
    by_cases d : b1 / 64 = 2
    · rw [if_pos d]; exact ⟨fun h => by simp at h, fun h => by simp at h⟩
    · rw [if_neg d]; exact ⟨fun _ => fB_t (by omega), fun h => by simp at h⟩
  · rw [if_neg (by omega), if_neg (by omega), if_neg (by omega), if_pos (by omega)]
    exact f3 n b1 b2 160 191 _ _ (by omega) h2
  · rw [if_neg (by omega), if_neg (by omega), if_neg (by omega), if_pos (by omega)]
    exact f3 n b1 b2 128 191 _ _ (by omega) h2
  · rw [if_neg (by omega), if_neg (by omega), if_neg (by omega), if_pos (by omega)]
    exact f3 n b1 b2 128 159 _ _ (by omega) h2
  · rw [if_neg (by omega), if_neg (by omega), if_neg (by omega), if_neg (by omega), if_pos (by omega)]
    exact f4 n b1 b2 b3 144 191 _ _ (by omega) h2
  · rw [if_neg (by omega), if_neg (by omega), if_neg (by omega), if_neg (by omega), if_pos (by omega)]
    exact f4 n b1 b2 b3 128 191 _ _ (by omega) h2
  · rw [if_neg (by omega), if_neg (by omega), if_neg (by omega), if_neg (by omega), if_pos (by omega)]
    exact f4 n b1 b2 b3 128 143 _ _ (by omega) h2
  · rw [if_neg (by omega), if_neg (by omega), if_neg (by omega), if_neg (by omega), if_neg (by omega)]
    exact ⟨fun _ => fB_t (by omega), fun h => by simp at h⟩
end Go.Proofs.YtpbfbejckhbijaaGreatDoor.Ru
namespace Go.Proofs.YtpbfbejckhbijaaGreatDoor.Ru
open Go.RowKit

/-- A row of numbers of the call's own. -/
def Ins (t : TypeId) (w : World) (base : Nat) (v : Value) (l : List Int) : Prop := w.ownsRow base t 1 v l.length (l.map fun z => .int .i64 z)
theorem infoI : (Tryz.prog.info? 2).map (fun i => (i.zero, i.size, i.bytes)) = some (some (.int .i64 0), 1, 8) := by kernel_rfl
theorem infoN : (Tryz.prog.info? 3).map (fun i => (i.zero, i.size, i.bytes)) = some (some (.int .i64 0), 1, 8) := by kernel_rfl
theorem own_slice {w : World} {base : Nat} {e : TypeId} {size : Nat} {v : Value} {n : Nat} {xs : List Value} (h : w.ownsRow base e size v n xs) : ∃ a k c, v = .slice a k c := by
  rcases h.2 with ⟨rfl, _⟩ | ⟨g, cap, cur, rfl, _⟩
  · exact ⟨_, _, _, rfl⟩
  · exact ⟨_, _, _, rfl⟩
theorem own_mono {w : World} {base base' : Nat} {e : TypeId} {size : Nat} {v : Value} {n : Nat} {xs : List Value} (h : w.ownsRow base e size v n xs) (hb : base' ≤ base) : w.ownsRow base' e size v n xs := by
  obtain ⟨h1, h2⟩ := h
  refine ⟨h1, ?_⟩
  rcases h2 with h2 | ⟨g, cap, cur, hv, hg, r⟩
  · exact .inl h2
  · exact .inr ⟨g, cap, cur, hv, Nat.le_trans hb hg, r⟩
theorem own_len {w : World} {base : Nat} {t : TypeId} {v : Value} {l : List Int} (h : Ins t w base v l) : ∃ a c, v = .slice a l.length c := by
  rcases h.2 with ⟨rfl, h0⟩ | ⟨g, cap, cur, rfl, _⟩
  · exact ⟨none, 0, by rw [show l.length = 0 from h0]⟩
  · exact ⟨_, _, rfl⟩
end Go.Proofs.YtpbfbejckhbijaaGreatDoor.Ru
namespace Go.Proofs.YtpbfbejckhbijaaGreatDoor.Ru
open Go.RowKit

/-- A slice of numbers that can be read. -/
def RdI (B : Nat) (w : World) (v : Value) (zs : List Int) : Prop :=
  ∃ a cap, v = .slice a zs.length cap ∧ zs.length ≤ cap ∧ (zs ≠ [] → ∃ b off, a = some ⟨b, off, none⟩ ∧ b < B ∧ ∀ j (h : j < zs.length), w.cell? ⟨b, off + j, none⟩ = some (.int .i64 zs[j]))
theorem RdI.below {B : Nat} {w w' : World} {v : Value} {zs : List Int} (h : RdI B w v zs) (hb : Below B w w') : RdI B w' v zs := by
  obtain ⟨a, cap, hv, hc, h⟩ := h
  refine ⟨a, cap, hv, hc, fun hn => ?_⟩
  obtain ⟨b, off, ha, hlt, hcell⟩ := h hn
  exact ⟨b, off, ha, hlt, fun j hj => (hb.cell (p := ⟨b, off + j, none⟩) hlt).trans (hcell j hj)⟩
theorem RdI.next {w w' : World} {v : Value} {zs : List Int} (h : RdI w.heap.size w v zs) (hb : Below w.heap.size w w') : RdI w'.heap.size w' v zs := by
  obtain ⟨a, cap, hv, hc, h⟩ := h.below hb
  refine ⟨a, cap, hv, hc, fun hn => ?_⟩
  obtain ⟨b, off, ha, hlt, hcell⟩ := h hn
  exact ⟨b, off, ha, Nat.lt_of_lt_of_le hlt hb.size, hcell⟩
theorem Ins.rd {t : TypeId} {w : World} {base : Nat} {v : Value} {l : List Int} (h : Ins t w base v l) : RdI w.heap.size w v l := by
  rcases h.2 with ⟨rfl, h0⟩ | ⟨g, cap, cur, rfl, hg, hh, r1, r2, r3, r4⟩
  · have : l = [] := List.length_eq_zero_iff.1 h0
    subst this
    exact ⟨none, 0, rfl, Nat.le_refl _, fun h => absurd rfl h⟩
  · have hlt : g < w.heap.size := (Array.getElem?_eq_some_iff.1 hh).1
    refine ⟨_, cap, rfl, r1, fun _ => ⟨g, 0, rfl, hlt, fun j hj => ?_⟩⟩
    have := World.ownsRow.cellAt h j (by omega)
    rw [Nat.zero_add, this]
    simp [List.getElem?_eq_getElem hj]
theorem Bys.rd {w : World} {base : Nat} {v : Value} {l : List UInt8} (h : Bys w base v l) : RdB w.heap.size w v l := by
  rcases h.2 with ⟨rfl, h0⟩ | ⟨g, cap, cur, rfl, hg, hh, r1, r2, r3, r4⟩
  · have : l = [] := List.length_eq_zero_iff.1 h0
    subst this
    exact ⟨none, 0, rfl, Nat.le_refl _, by omega, fun h => absurd rfl h⟩
  · have hlt : g < w.heap.size := (Array.getElem?_eq_some_iff.1 hh).1
    refine ⟨_, cap, rfl, r1, by unfold maxLen at r2; omega, fun _ => ⟨g, 0, rfl, hlt, fun j hj => ?_⟩⟩
    have := World.ownsRow.cellAt h j (by omega)
    rw [Nat.zero_add, this]
    simp [List.getElem?_eq_getElem hj]

theorem conv_bys {W : World} {base : Nat} {v : Value} {l : List UInt8} (h : Bys W base v l) :
    (convert 154 9 v).run Tryz.prog W = .ok (.string ⟨l.toArray⟩) W := by
  obtain ⟨h1, h2⟩ := h
  rcases h2 with ⟨rfl, hl⟩ | ⟨g, cap, cur, rfl, hg, hh, hc, hm, hs, ht⟩
  · have : l = [] := List.eq_nil_of_length_eq_zero hl
    subst this
    exact run_convert_bytes_nil W 154 5 Tryz.underlying154 Tryz.underlying5 0 0 9 Tryz.underlying9
  · exact run_convert_bytes_back W 154 9 5 ⟨g, 0, none⟩ cap l Tryz.underlying154 Tryz.underlying5 Tryz.underlying9 (fun j hj => by
      have e : (⟨g, 0, none⟩ : Addr).add j = ⟨g, j, none⟩ := by simp [Addr.add]; intro h; exact h.symm
      rw [e, cell_of_block hh j]
      have : (cur.toList.take (l.length * 1))[j]? = some (.int .u8 (l[j].toNat : Int)) := by rw [ht]; simp [hj]
      rw [List.getElem?_take, if_pos (by omega)] at this
      simpa using this)
/-- .. of bytes that can be read. -/
theorem conv_rd {W : World} {B : Nat} {v : Value} {l : List UInt8} (h : RdB B W v l) :
    (convert 154 9 v).run Tryz.prog W = .ok (.string ⟨l.toArray⟩) W := by
  obtain ⟨a, cap, rfl, h1, h2, h3⟩ := h
  by_cases hl : l = []
  · subst hl
    cases a with
    | none => exact run_convert_bytes_nil W 154 5 Tryz.underlying154 Tryz.underlying5 _ cap 9 Tryz.underlying9
    | some a => exact run_convert_bytes_back W 154 9 5 a cap [] Tryz.underlying154 Tryz.underlying5 Tryz.underlying9 (fun j hj => by simp at hj)
  · obtain ⟨b, off, rfl, hb, hc⟩ := h3 hl
    exact run_convert_bytes_back W 154 9 5 ⟨b, off, none⟩ cap l Tryz.underlying154 Tryz.underlying5 Tryz.underlying9 (fun j hj => by
      have e : (⟨b, off, none⟩ : Addr).add j = ⟨b, off + j, none⟩ := by simp [Addr.add]
      rw [e]; exact hc j hj)
end Go.Proofs.YtpbfbejckhbijaaGreatDoor.Ru
namespace Go.Proofs.YtpbfbejckhbijaaGreatDoor.Ru
open Go.RowKit

/-- The index of the first number that is no rune; -1: there is none. -/
def idxF : Nat → List Int → Int
  | _, [] => -1
  | k, r :: l => if isR r = true then idxF (k + 1) l else (k : Int)
def idxV (l : List Int) : Int := idxF 0 l
def bytL (l : List Int) : List UInt8 := l.flatMap fun r => enc r.toNat
def bytE (l : List Int) : Nat := if 0 ≤ idxV l then 7 else if 8000 < (bytL l).length then 3 else 0
def bytV (l : List Int) : List UInt8 := if bytE l = 0 then bytL l else []
def bytA (l : List Int) : Int := if 0 ≤ idxV l then idxV l else 0
theorem idxF_yes (k : Nat) (l : List Int) (j : Nat) (hj : j < l.length) (h : isR l[j] = true) : idxF (k + j) (l.drop j) = idxF (k + (j + 1)) (l.drop (j + 1)) := by
  rw [List.drop_eq_getElem_cons hj]
  simp only [idxF, h, if_true]; rfl
theorem idxF_no (k : Nat) (l : List Int) (j : Nat) (hj : j < l.length) (h : isR l[j] = false) : idxF (k + j) (l.drop j) = ((k + j : Nat) : Int) := by
  rw [List.drop_eq_getElem_cons hj]
  simp [idxF, h]
theorem idxF_all : ∀ (l : List Int) (k : Nat), idxF k l = -1 → ∀ r ∈ l, isR r = true
  | [], _, _, r, h => by cases h
  | x :: l, k, hi, r, h => by
    unfold idxF at hi
    by_cases hx : isR x = true
    · rw [if_pos hx] at hi
      rcases List.mem_cons.1 h with rfl | h
      · exact hx
      · exact idxF_all l _ hi r h
    · rw [if_neg hx] at hi; omega
theorem idxF_ge : ∀ (l : List Int) (k : Nat), idxF k l = -1 ∨ 0 ≤ idxF k l
  | [], _ => .inl rfl
  | x :: l, k => by
    unfold idxF
    split
    · exact idxF_ge l _
    · exact .inr (by omega)

set_option maxHeartbeats 400000 in
theorem lit_any (r : Int) (w : World) :
    Calls Tryz.prog 183 #[.int .i64 r] w fun e w' => e = .returned (.bool (!isR r)) ∧ w = w' := by
  go_enter Tryz.func183, Tryz.ntmps183
  go_wp2_with (go_at_call 184; refine (isRune_any _ _).mono ?_; rintro e w' ⟨rfl, rfl⟩)
  go_ret
  exact ⟨rfl, rfl⟩

set_option maxHeartbeats 4000000 in
theorem index_any (v : Value) (l : List Int) (w : World) (hv : RdI w.heap.size w v l) (hl : l.length ≤ 1000000) :
    Calls Tryz.prog 182 #[v, .func (.func 183) #[] #[]] w fun e w' => e = .returned (.int .i64 (idxV l)) ∧ w = w' := by
  obtain ⟨a, cap, rfl, hcap, hcell⟩ := hv
  go_enter Tryz.func182, Tryz.ntmps182
  go_wp2
  go_loop [5, 8] (fun _ i => ∃ k : Nat, k ≤ l.length ∧ i = .int .i64 k ∧ Hid (idxV l = idxF (0 + k) (l.drop k))) (fun _ i => l.length - (intOf i).toNat)
  case atStart => exact ⟨0, by omega, rfl, rfl⟩
  case round =>
    obtain ⟨k, hk, rfl, hq⟩ := hrel
    by_cases hlt : k < l.length
    · obtain ⟨b, off, rfl, hbb, hc⟩ := hcell (by intro e; rw [e] at hlt; simp at hlt)
      have x1 := hc k hlt
      have HY := Lib.hid (idxF_yes 0 l k hlt)
      have HN := Lib.hid (idxF_no 0 l k hlt)
      obtain ⟨z, hz⟩ : ∃ z, l[k] = z := ⟨_, rfl⟩
      rw [hz] at x1 HY HN
      clear hcell hc hz
      cases hr : isR z
      · have HR := Lib.hid hr
        have HL : Hid (∀ w, Calls Tryz.prog 183 #[.int .i64 z] w fun e w' => e = .returned (.bool true) ∧ w = w') := by
          intro w; have := lit_any z w; rw [hr] at this; exact this
        clear hr
        go_wp2_with (go_at_call 183; refine (HL.out _).mono ?_; rintro e w' ⟨rfl, rfl⟩)
        go_ret
        exact ⟨ret_int (by rw [hq.out, HN.out HR.out]; simp), rfl⟩
      · have HR := Lib.hid hr
        have HL : Hid (∀ w, Calls Tryz.prog 183 #[.int .i64 z] w fun e w' => e = .returned (.bool false) ∧ w = w') := by
          intro w; have := lit_any z w; rw [hr] at this; exact this
        clear hr
        go_wp2_with (go_at_call 183; refine (HL.out _).mono ?_; rintro e w' ⟨rfl, rfl⟩)
        go_round
        case rel => exact ⟨k + 1, by omega, by go_num, hq.out.trans (HY.out HR.out)⟩
        case measure => simp [intOf]; omega
    · clear hcell
      go_wp2
      go_ret
      exact ⟨ret_int (by rw [hq.out, List.drop_eq_nil_of_le (by omega)]; rfl), rfl⟩

theorem bys_len {w : World} {base : Nat} {v : Value} {l : List UInt8} (h : Bys w base v l) : ∃ a c, v = .slice a l.length c := by
  rcases h.2 with ⟨rfl, h0⟩ | ⟨g, cap, cur, rfl, _⟩
  · exact ⟨none, 0, by rw [show l.length = 0 from h0]⟩
  · exact ⟨_, _, rfl⟩
theorem bytL_take (l : List Int) (k : Nat) (h : k < l.length) : bytL (l.take (k + 1)) = bytL (l.take k) ++ enc l[k].toNat := by
  unfold bytL
  rw [List.take_succ_eq_append_getElem h, List.flatMap_append]; simp
theorem bytL_le (l : List Int) (k : Nat) : (bytL (l.take k)).length ≤ (bytL l).length := by
  conv => rhs; rw [← List.take_append_drop k l]
  unfold bytL
  rw [List.flatMap_append, List.length_append]; omega

set_option maxRecDepth 100000 in
set_option maxHeartbeats 4000000 in
theorem bytes_bad (v : Value) (l : List Int) (w : World) (hv : RdI w.heap.size w v l) (hl : l.length ≤ 1000000) (h : 0 ≤ idxV l) :
    Calls Tryz.prog 147 #[v] w fun e w' => e = .returned (.tuple #[.slice none 0 0, .int .i64 (idxV l), .int .i64 7]) ∧ w = w' := by
  have HI := Lib.hid (index_any v l w hv hl)
  obtain ⟨i, hi⟩ : ∃ i, idxV l = i := ⟨_, rfl⟩
  rw [hi] at HI h ⊢
  clear hi
  go_enter Tryz.func147, Tryz.ntmps147
  go_wp2_with (go_at_call 182; refine HI.out.mono ?_; rintro e w' ⟨rfl, rfl⟩)
  go_ret3
  exact ⟨rfl, rfl⟩

def BytOut (l : List Int) (w : World) (e : Ending) (w' : World) : Prop :=
  ∃ u, e = .returned (.tuple #[u, .int .i64 0, .int .i64 ((bytE l : Nat) : Int)]) ∧ Bys w' w.heap.size u (bytV l) ∧ Below w.heap.size w w'
set_option maxRecDepth 100000 in
set_option maxHeartbeats 4000000 in
theorem bytes_ok (v : Value) (l : List Int) (w : World) (hw : Lay w) (hv : RdI w.heap.size w v l) (hl : l.length ≤ 1000000) (h : ¬ 0 ≤ idxV l) :
    Calls Tryz.prog 147 #[v] w (BytOut l w) := by
  have hi : idxV l = -1 := by rcases idxF_ge l 0 with e | e; exact e; exact absurd e h
  have hall := idxF_all l 0 hi
  have HI := Lib.hid (index_any v l w hv hl)
  rw [hi] at HI
  have HE : Hid (8000 < (bytL l).length → bytE l = 3 ∧ bytV l = []) := by
    intro h8
    have : bytE l = 3 := by unfold bytE; rw [if_neg h, if_pos h8]
    exact ⟨this, by unfold bytV; rw [this]; rfl⟩
  have HO : Hid (¬ 8000 < (bytL l).length → bytE l = 0 ∧ bytV l = bytL l) := by
    intro h8
    have : bytE l = 0 := by unfold bytE; rw [if_neg h, if_neg h8]
    exact ⟨this, by unfold bytV; rw [this]; rfl⟩
  obtain ⟨va, cap, rfl, hcap, hcell⟩ := hv
  clear h hi
  have HA := Lib.hid hall
  have HT := Lib.hid (bytL_take l)
  have HC := Lib.hid hcell
  clear hall hcell
  go_enter Tryz.func147, Tryz.ntmps147
  go_wp2_with (go_at_call 182; refine HI.out.mono ?_; rintro e w' ⟨rfl, rfl⟩)
  go_loopw [2, 6, 14] (fun b _ i wr => ∃ (k n c : Nat) (a : Option Addr), k ≤ l.length ∧ i = .int .i64 k ∧ b = .slice a n c ∧ n ≤ 8000 ∧ Hid (n = (bytL (l.take k)).length) ∧ Bys wr w.heap.size (.slice a n c) (bytL (l.take k)) ∧ Below w.heap.size w wr) (fun _ _ i _ => l.length - (intOf i).toNat)
  case atStart => exact ⟨0, 0, 0, none, by omega, rfl, rfl, by omega, rfl, World.ownsRow_nil _ _ _ _, Below.refl _ _⟩
  case round =>
    obtain ⟨k, n, c, a, hk, rfl, rfl, hn8, hn, hB, hbl⟩ := hrel
    have hsz := hbl.size
    by_cases hlt : k < l.length
    · obtain ⟨b, off, rfl, hbb, hc⟩ := HC.out (by intro e; rw [e] at hlt; simp at hlt)
      have x1 := (hbl.cell (p := ⟨b, off + k, none⟩) hbb).trans (hc k hlt)
      have hT := HT.out k hlt
      have hr := HA.out l[k] (List.getElem_mem hlt)
      obtain ⟨z, hz⟩ : ∃ z, l[k] = z := ⟨_, rfl⟩
      rw [hz] at x1 hT hr
      have hz0 : 0 ≤ z := by simp [isR] at hr; omega
      obtain ⟨m, rfl⟩ : ∃ m : Nat, z = m := ⟨z.toNat, by omega⟩
      have hlw := bytL_le l (k + 1)
      have hle4 : (enc m).length ≤ 4 := by rw [enc_len]; split; (· decide); split; (· decide); split <;> decide
      have hnn := hn.out
      have HP := Lib.hid (append_any w.heap.size m (.slice a n c) (bytL (l.take k)) wr (hw.next hbl) hsz hB (by omega) hr)
      rw [Int.toNat_natCast] at hT
      rw [← hT] at HP
      have hlen2 : (bytL (l.take (k + 1))).length ≤ 8004 := by rw [hT, List.length_append]; omega
      obtain ⟨y, hy⟩ : ∃ y, (bytL (l.take (k + 1))).length = y := ⟨_, rfl⟩
      rw [hy] at hlen2 hlw
      have HY := Lib.hid hy
      clear hz hc hT hr hz0 hnn hy hle4
      by_cases h8 : 8000 < y
      · have h8i : (8000 : Int) < (y : Int) := by omega
        have HR := HE.out (by omega)
        go_wp2_with (go_at_call 185; refine HP.out.mono ?_; rintro e w2 ⟨v2, rfl, hv2, hb2⟩; obtain ⟨a2, c2, rfl⟩ := bys_len hv2; rw [HY.out])
        go_ret3
        exact ⟨_, by rw [HR.1]; rfl, by rw [HR.2]; exact World.ownsRow_nil _ _ _ _, hbl.trans hb2⟩
      · have h8i : ¬ (8000 : Int) < (y : Int) := by omega
        go_wp2_with (go_at_call 185; refine HP.out.mono ?_; rintro e w2 ⟨v2, rfl, hv2, hb2⟩; obtain ⟨a2, c2, rfl⟩ := bys_len hv2; rw [HY.out] at hv2 ⊢)
        go_roundw
        case rel => exact ⟨k + 1, y, c2, a2, by omega, by go_num, rfl, by omega, HY.out.symm, hv2, hbl.trans hb2⟩
        case measure => simp [intOf]; omega
    · have hall : l.take k = l := List.take_of_length_le (by omega)
      have hR := HO.out (by rw [hall] at hn; have := hn.out; omega)
      have HR := Lib.hid hR
      rw [hall] at hB
      clear hR hall
      go_wp2
      go_ret3
      exact ⟨_, by rw [HR.out.1]; rfl, by rw [HR.out.2]; exact hB, hbl⟩

theorem bytes_any (v : Value) (l : List Int) (w : World) (hw : Lay w) (hv : RdI w.heap.size w v l) (hl : l.length ≤ 1000000) :
    Calls Tryz.prog 147 #[v] w fun e w' => ∃ u, e = .returned (.tuple #[u, .int .i64 (bytA l), .int .i64 ((bytE l : Nat) : Int)]) ∧ Bys w' w.heap.size u (bytV l) ∧ Below w.heap.size w w' := by
  by_cases h : 0 ≤ idxV l
  · have e1 : bytE l = 7 := by unfold bytE; rw [if_pos h]
    have e2 : bytV l = [] := by unfold bytV; rw [e1]; rfl
    have e3 : bytA l = idxV l := by unfold bytA; rw [if_pos h]
    rw [e1, e2, e3]
    refine (bytes_bad v l w hv hl h).mono ?_
    rintro e w' ⟨rfl, rfl⟩
    exact ⟨_, rfl, World.ownsRow_nil _ _ _ _, Below.refl _ _⟩
  · have e3 : bytA l = 0 := by unfold bytA; rw [if_neg h]
    rw [e3]
    exact bytes_ok v l w hw hv hl h
end Go.Proofs.YtpbfbejckhbijaaGreatDoor.Ru
namespace Go.Proofs.YtpbfbejckhbijaaGreatDoor.Ru
open Go.RowKit

/-- A nil slice has no capacity. -/
def NilC (v : Value) : Prop := ∀ n c, v = .slice none n c → c = 0
theorem NilC.own {w : World} {base : Nat} {e : TypeId} {size : Nat} {v : Value} {n : Nat} {xs : List Value} (h : w.ownsRow base e size v n xs) : NilC v := by
  rcases h.2 with ⟨rfl, _⟩ | ⟨g, cap, cur, rfl, _⟩
  · intro n c e; cases e; rfl
  · intro n c e; cases e
theorem add_off (b off j : Nat) : (⟨b, off, none⟩ : Addr).add j = ⟨b, off + j, none⟩ := by simp [Addr.add]

theorem wpList_met {P : Program} {w : World} {ops : Array Oper} {rest : List Oper} {o : Oper} {a : Act} {Q : Exit → Act → World → Prop} (hw : Region.wanted o (yielded ops a.tmps) = true)
    (h : ∀ K : Act → World → Prop, (∀ a w, wpList P ops Q rest a w → K a w) → o.wp P a w K Q) : wpList P ops Q (o :: rest) a w :=
  wpList_step fun K hK => by rw [if_pos hw]; exact h K hK
theorem wp_append_none {P : Program} {w : World} {o : Oper} {a : Act} {K : Act → World → Prop} {Q : Exit → Act → World → Prop} (s x : Operand) (t : TypeId)
    (ho : o.op = .call { callee := .builtin .append, args := #[s, x], argTypes := #[t, t] })
    (base : Nat) (e : TypeId) (i : TypeInfo) (size : Nat) (ht : P.underlying t = some (.slice e)) (hi : P.info? e = some i)
    (v : Value) (n : Nat) (xs : List Value) (hs : a.eval s = v) (hown : w.ownsRow base e size v n xs) (hx : a.eval x = .slice none 0 0)
    (h : K (a.put o.dst v) w) : o.wp P a w K Q := by
  have hrun := run_append_owned_none (P := P) (w := w) base t o.type e i size ht hi v n xs hown
  unfold Oper.wp
  simp [execOp, ho, resolve, invoke, builtin, hs, hx, hrun, Result.andThen]
  exact h

theorem wpList_append_bs {w : World} {ops : Array Oper} {rest : List Oper} {o : Oper} {a : Act} {Q : Exit → Act → World → Prop} (hgd : Region.wanted o (yielded ops a.tmps) = true) (s x : Operand)
    (ho : o.op = .call { callee := .builtin .append, args := #[s, x], argTypes := #[154, 154] }) (B : Nat) (v : Value) (l : List UInt8) (hs : a.eval s = v) (hown : Bys w B v l)
    (u : Value) (m : List UInt8) (hx : a.eval x = u) (B' : Nat) (hu : RdB B' w u m) (hn : NilC u) (hl : l.length + m.length ≤ 1000000) (hB : B ≤ w.heap.size)
    (h : ∀ v' w', Bys w' B v' (l ++ m) → w.grownBy w' v.ownBlock → wpList Tryz.prog ops Q rest (a.put o.dst v') w') : wpList Tryz.prog ops Q (o :: rest) a w := by
  obtain ⟨i0, hi, hz0, hz1, hz2⟩ := info_parts info5
  obtain ⟨ua, cap, rfl, hc1, hc2, hcell⟩ := hu
  cases ua with
  | none =>
    have hm : m = [] := by
      rcases m with _ | ⟨c, m⟩
      · rfl
      · obtain ⟨b, off, e, _⟩ := hcell (by simp); cases e
    subst hm
    have hcap := hn _ _ rfl
    subst hcap
    refine wpList_met hgd fun K hK => wp_append_none s x 154 ho B 5 i0 1 Tryz.underlying154 hi v l.length _ hs hown hx (hK _ _ ?_)
    have := h v w (by rw [List.append_nil]; exact hown) (World.grownBy.refl w _)
    exact this
  | some ad =>
    refine wpList_met hgd fun K hK => wp_append_own _ s x 154 ho B 5 i0 (.int .u8 0) 1 1 Tryz.underlying154 hi hz0 hz1 hz2 rfl (by decide) v l.length _ hs hown ad m.length cap (m.map fun c => .int .u8 (c.toNat : Int)) hx (by simp) ?_ (by simp [Value.oneCell']) (by unfold maxLen; omega) (by omega) hB ?_
    · intro j z hz
      have hj : j < m.length := by
        rcases Nat.lt_or_ge j m.length with hj | hj
        · exact hj
        · rw [List.getElem?_eq_none (by simp; omega)] at hz; cases hz
      obtain ⟨b, off, e, _, hc⟩ := hcell (by intro e; subst e; simp at hj)
      cases e
      rw [add_off, hc j hj]
      rw [List.getElem?_map, List.getElem?_eq_getElem hj] at hz
      exact hz
    · intro v' w' hown' hg _
      exact hK _ _ (h v' w' (by unfold Bys; rw [List.length_append, List.map_append]; exact hown') hg)

theorem wpList_append_is {w : World} {ops : Array Oper} {rest : List Oper} {o : Oper} {a : Act} {Q : Exit → Act → World → Prop} (hgd : Region.wanted o (yielded ops a.tmps) = true) (s x : Operand)
    (ho : o.op = .call { callee := .builtin .append, args := #[s, x], argTypes := #[41, 41] }) (B : Nat) (v : Value) (l : List Int) (hs : a.eval s = v) (hown : Ins 2 w B v l)
    (u : Value) (m : List Int) (hx : a.eval x = u) (B' : Nat) (hu : RdI B' w u m) (hn : NilC u) (hl : l.length + m.length ≤ 1000000) (hB : B ≤ w.heap.size)
    (h : ∀ v' w', Ins 2 w' B v' (l ++ m) → w.grownBy w' v.ownBlock → wpList Tryz.prog ops Q rest (a.put o.dst v') w') : wpList Tryz.prog ops Q (o :: rest) a w := by
  obtain ⟨i0, hi, hz0, hz1, hz2⟩ := info_parts infoI
  obtain ⟨ua, cap, rfl, hc1, hcell⟩ := hu
  cases ua with
  | none =>
    have hm : m = [] := by
      rcases m with _ | ⟨c, m⟩
      · rfl
      · obtain ⟨b, off, e, _⟩ := hcell (by simp); cases e
    subst hm
    have hcap := hn _ _ rfl
    subst hcap
    refine wpList_met hgd fun K hK => wp_append_none s x 41 ho B 2 i0 1 Tryz.underlying41 hi v l.length _ hs hown hx (hK _ _ ?_)
    have := h v w (by rw [List.append_nil]; exact hown) (World.grownBy.refl w _)
    exact this
  | some ad =>
    refine wpList_met hgd fun K hK => wp_append_own _ s x 41 ho B 2 i0 (.int .i64 0) 1 8 Tryz.underlying41 hi hz0 hz1 hz2 rfl (by decide) v l.length _ hs hown ad m.length cap (m.map fun c => .int .i64 c) hx (by simp) ?_ (by simp [Value.oneCell']) (by unfold maxLen; omega) (by omega) hB ?_
    · intro j z hz
      have hj : j < m.length := by
        rcases Nat.lt_or_ge j m.length with hj | hj
        · exact hj
        · rw [List.getElem?_eq_none (by simp; omega)] at hz; cases hz
      obtain ⟨b, off, e, _, hc⟩ := hcell (by intro e; subst e; simp at hj)
      cases e
      rw [add_off, hc j hj]
      rw [List.getElem?_map, List.getElem?_eq_getElem hj] at hz
      exact hz
    · intro v' w' hown' hg _
      exact hK _ _ (h v' w' (by unfold Ins; rw [List.length_append, List.map_append]; exact hown') hg)
end Go.Proofs.YtpbfbejckhbijaaGreatDoor.Ru
