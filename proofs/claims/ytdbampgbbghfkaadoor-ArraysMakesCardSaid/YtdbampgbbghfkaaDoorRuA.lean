/- The bytes of runes, as plain lists: 'enc' writes, 'dec' reads. No run in this text. -/
namespace Go.Proofs.YtdbampgbbghfkaaDoor.Ru

def isR (r : Int) : Bool := decide ((0 ≤ r ∧ r < 55296) ∨ (57343 < r ∧ r ≤ 1114111))
def gb (l : List UInt8) (i : Nat) : Nat := (l.getD i 0).toNat
/-- Rune, width, error of the bytes at the head: n bytes, the first four (0 beyond the end). -/
def decT (n b0 b1 b2 b3 : Nat) : Nat × Nat × Nat :=
  if b0 < 128 then (b0, 1, 0)
  else if b0 < 194 then (0, 0, 6)
  else if b0 < 224 then
    (if n < 2 then (0, 0, 370) else if b1 / 64 = 2 then (b0 % 32 * 64 + b1 % 64, 2, 0) else (0, 0, 6))
  else if b0 < 240 then
    (if n < 2 then (0, 0, 370) else if b1 / 64 ≠ 2 ∨ (b0 = 224 ∧ b1 < 160) ∨ (b0 = 237 ∧ 159 < b1) then (0, 0, 6)
     else if n < 3 then (0, 0, 370) else if b2 / 64 = 2 then (b0 % 16 * 4096 + b1 % 64 * 64 + b2 % 64, 3, 0) else (0, 0, 6))
  else if b0 < 245 then
    (if n < 2 then (0, 0, 370) else if b1 / 64 ≠ 2 ∨ (b0 = 240 ∧ b1 < 144) ∨ (b0 = 244 ∧ 143 < b1) then (0, 0, 6)
     else if n < 3 then (0, 0, 370) else if b2 / 64 ≠ 2 then (0, 0, 6)
     else if n < 4 then (0, 0, 370) else if b3 / 64 = 2 then (b0 % 8 * 262144 + b1 % 64 * 4096 + b2 % 64 * 64 + b3 % 64, 4, 0) else (0, 0, 6))
  else (0, 0, 6)
def dec (l : List UInt8) : Nat × Nat × Nat := if l = [] then (0, 0, 7) else decT l.length (gb l 0) (gb l 1) (gb l 2) (gb l 3)

def encN (r : Nat) : List Nat :=
  if r < 128 then [r] else if r < 2048 then [192 + r / 64, 128 + r % 64]
  else if r < 65536 then [224 + r / 4096, 128 + r / 64 % 64, 128 + r % 64]
  else [240 + r / 262144, 128 + r / 4096 % 64, 128 + r / 64 % 64, 128 + r % 64]
def enc (r : Nat) : List UInt8 := (encN r).map UInt8.ofNat

theorem gb0 (c : UInt8) (l) : gb (c :: l) 0 = c.toNat := rfl
theorem gb1 (a c : UInt8) (l) : gb (a :: c :: l) 1 = c.toNat := rfl
theorem gb2 (a b c : UInt8) (l) : gb (a :: b :: c :: l) 2 = c.toNat := rfl
theorem gb3 (a b d c : UInt8) (l) : gb (a :: b :: d :: c :: l) 3 = c.toNat := rfl
theorem on (n : Nat) (h : n < 256) : (UInt8.ofNat n).toNat = n := by simp; omega
theorem gb_lt (l : List UInt8) (i : Nat) : gb l i < 256 := UInt8.toNat_lt _

theorem decT_ok (n b0 b1 b2 b3 : Nat) (h : (decT n b0 b1 b2 b3).2.2 = 0) :
    (b0 < 128 ∧ decT n b0 b1 b2 b3 = (b0, 1, 0)) ∨
    (2 ≤ n ∧ 194 ≤ b0 ∧ b0 < 224 ∧ b1 / 64 = 2 ∧ decT n b0 b1 b2 b3 = (b0 % 32 * 64 + b1 % 64, 2, 0)) ∨
    (3 ≤ n ∧ 224 ≤ b0 ∧ b0 < 240 ∧ b1 / 64 = 2 ∧ b2 / 64 = 2 ∧ ¬ (b0 = 224 ∧ b1 < 160) ∧ ¬ (b0 = 237 ∧ 159 < b1) ∧ decT n b0 b1 b2 b3 = (b0 % 16 * 4096 + b1 % 64 * 64 + b2 % 64, 3, 0)) ∨
    (4 ≤ n ∧ 240 ≤ b0 ∧ b0 < 245 ∧ b1 / 64 = 2 ∧ b2 / 64 = 2 ∧ b3 / 64 = 2 ∧ ¬ (b0 = 240 ∧ b1 < 144) ∧ ¬ (b0 = 244 ∧ 143 < b1) ∧ decT n b0 b1 b2 b3 = (b0 % 8 * 262144 + b1 % 64 * 4096 + b2 % 64 * 64 + b3 % 64, 4, 0)) := by
  unfold decT at h ⊢
  by_cases h0 : b0 < 128
  · rw [if_pos h0] at h ⊢; exact .inl ⟨h0, rfl⟩
  rw [if_neg h0] at h ⊢
  by_cases h1 : b0 < 194
  · rw [if_pos h1] at h; simp at h
  rw [if_neg h1] at h ⊢
  by_cases h2 : b0 < 224
  · rw [if_pos h2] at h ⊢
    by_cases hn : n < 2
    · rw [if_pos hn] at h; simp at h
    rw [if_neg hn] at h ⊢
    by_cases hb : b1 / 64 = 2
    · rw [if_pos hb] at h ⊢; exact .inr (.inl ⟨by omega, by omega, h2, hb, rfl⟩)
    · rw [if_neg hb] at h; simp at h
  rw [if_neg h2] at h ⊢
  by_cases h3 : b0 < 240
  · rw [if_pos h3] at h ⊢
    by_cases hn : n < 2
    · rw [if_pos hn] at h; simp at h
    rw [if_neg hn] at h ⊢
    by_cases hb : b1 / 64 ≠ 2 ∨ (b0 = 224 ∧ b1 < 160) ∨ (b0 = 237 ∧ 159 < b1)
    · rw [if_pos hb] at h; simp at h
    rw [if_neg hb] at h ⊢
    by_cases hn3 : n < 3
    · rw [if_pos hn3] at h; simp at h
    rw [if_neg hn3] at h ⊢
    by_cases hb2 : b2 / 64 = 2
    · rw [if_pos hb2] at h ⊢; exact .inr (.inr (.inl ⟨by omega, by omega, h3, by omega, hb2, by omega, by omega, rfl⟩))
    · rw [if_neg hb2] at h; simp at h
  rw [if_neg h3] at h ⊢
  by_cases h4 : b0 < 245
  · rw [if_pos h4] at h ⊢
    by_cases hn : n < 2
    · rw [if_pos hn] at h; simp at h
    rw [if_neg hn] at h ⊢
    by_cases hb : b1 / 64 ≠ 2 ∨ (b0 = 240 ∧ b1 < 144) ∨ (b0 = 244 ∧ 143 < b1)
    · rw [if_pos hb] at h; simp at h
    rw [if_neg hb] at h ⊢
    by_cases hn3 : n < 3
    · rw [if_pos hn3] at h; simp at h
    rw [if_neg hn3] at h ⊢
    by_cases hb2 : b2 / 64 ≠ 2
    · rw [if_pos hb2] at h; simp at h
    rw [if_neg hb2] at h ⊢
    by_cases hn4 : n < 4
    · rw [if_pos hn4] at h; simp at h
    rw [if_neg hn4] at h ⊢
    by_cases hb3 : b3 / 64 = 2
    · rw [if_pos hb3] at h ⊢; exact .inr (.inr (.inr ⟨by omega, by omega, h4, by omega, by omega, hb3, by omega, by omega, rfl⟩))
    · rw [if_neg hb3] at h; simp at h
  rw [if_neg h4] at h; simp at h

theorem encN_decT (n b0 b1 b2 b3 r k : Nat) (h : decT n b0 b1 b2 b3 = (r, k, 0)) (hn : 1 ≤ n) :
    isR r = true ∧ 1 ≤ k ∧ k ≤ n ∧ k ≤ 4 ∧ encN r = [b0, b1, b2, b3].take k := by
  have h0 : (decT n b0 b1 b2 b3).2.2 = 0 := by rw [h]
  rcases decT_ok n b0 b1 b2 b3 h0 with ⟨a, e⟩ | ⟨hn', a1, a2, a3, e⟩ | ⟨hn', a1, a2, a3, a4, a5, a6, e⟩ | ⟨hn', a1, a2, a3, a4, a5, a6, a7, e⟩
  all_goals
    rw [e] at h
    simp only [Prod.mk.injEq] at h
    obtain ⟨rfl, rfl, _⟩ := h
    refine ⟨by simp [isR]; omega, by omega, by omega, by omega, ?_⟩
    unfold encN
  · rw [if_pos a]; rfl
  · rw [if_neg (by omega), if_pos (by omega)]; simp; omega
  · rw [if_neg (by omega), if_neg (by omega), if_pos (by omega)]; simp; omega
  · rw [if_neg (by omega), if_neg (by omega), if_neg (by omega)]; simp; omega

theorem decT_encN (r n : Nat) (h : isR (r : Int) = true) :
    (r < 128 → ∀ b1 b2 b3, decT n r b1 b2 b3 = (r, 1, 0)) ∧
    (128 ≤ r → r < 2048 → 2 ≤ n → ∀ b2 b3, decT n (192 + r / 64) (128 + r % 64) b2 b3 = (r, 2, 0)) ∧
    (2048 ≤ r → r < 65536 → 3 ≤ n → ∀ b3, decT n (224 + r / 4096) (128 + r / 64 % 64) (128 + r % 64) b3 = (r, 3, 0)) ∧
    (65536 ≤ r → 4 ≤ n → decT n (240 + r / 262144) (128 + r / 4096 % 64) (128 + r / 64 % 64) (128 + r % 64) = (r, 4, 0)) := by
  simp [isR] at h
  refine ⟨?_, ?_, ?_, ?_⟩
  · intro h1 b1 b2 b3; unfold decT; rw [if_pos h1]
  · intro h1 h2 hn b2 b3; unfold decT
    rw [if_neg (by omega), if_neg (by omega), if_pos (by omega), if_neg (by omega), if_pos (by omega)]
    simp; omega
  · intro h1 h2 hn b3; unfold decT
    rw [if_neg (by omega), if_neg (by omega), if_neg (by omega), if_pos (by omega), if_neg (by omega), if_neg (by omega), if_neg (by omega), if_pos (by omega)]
    simp; omega
  · intro h1 hn; unfold decT
    rw [if_neg (by omega), if_neg (by omega), if_neg (by omega), if_neg (by omega), if_pos (by omega), if_neg (by omega), if_neg (by omega), if_neg (by omega), if_neg (by omega), if_neg (by omega), if_pos (by omega)]
    simp; omega

theorem enc_len (r : Nat) : (enc r).length = (if r < 128 then 1 else if r < 2048 then 2 else if r < 65536 then 3 else 4) := by
  unfold enc encN; split
  · rfl
  · split
    · rfl
    · split <;> rfl

/-- Decode of Encode. -/
theorem dec_enc (r : Nat) (h : isR (r : Int) = true) (m : List UInt8) : dec (enc r ++ m) = (r, (enc r).length, 0) := by
  have hh := decT_encN r (enc r ++ m).length h
  have hb : r ≤ 1114111 := by simp [isR] at h; omega
  obtain ⟨h1, h2, h3, h4⟩ := hh
  by_cases a : r < 128
  · have e : enc r = [UInt8.ofNat r] := by unfold enc encN; rw [if_pos a]; rfl
    rw [e] at h1 ⊢
    simp only [dec, List.cons_append, List.nil_append, reduceCtorEq, if_false, gb0, on r (by omega)]
    exact h1 a _ _ _
  by_cases b : r < 2048
  · have e : enc r = [UInt8.ofNat (192 + r / 64), UInt8.ofNat (128 + r % 64)] := by unfold enc encN; rw [if_neg a, if_pos b]; rfl
    rw [e] at h2 ⊢
    simp only [dec, List.cons_append, List.nil_append, reduceCtorEq, if_false, gb0, gb1, on (192 + r / 64) (by omega), on (128 + r % 64) (by omega)]
    exact h2 (by omega) b (by simp) _ _
  by_cases c : r < 65536
  · have e : enc r = [UInt8.ofNat (224 + r / 4096), UInt8.ofNat (128 + r / 64 % 64), UInt8.ofNat (128 + r % 64)] := by unfold enc encN; rw [if_neg a, if_neg b, if_pos c]; rfl
    rw [e] at h3 ⊢
    simp only [dec, List.cons_append, List.nil_append, reduceCtorEq, if_false, gb0, gb1, gb2, on (224 + r / 4096) (by omega), on (128 + r / 64 % 64) (by omega), on (128 + r % 64) (by omega)]
    exact h3 (by omega) c (by simp) _
  · have e : enc r = [UInt8.ofNat (240 + r / 262144), UInt8.ofNat (128 + r / 4096 % 64), UInt8.ofNat (128 + r / 64 % 64), UInt8.ofNat (128 + r % 64)] := by unfold enc encN; rw [if_neg a, if_neg b, if_neg c]; rfl
    rw [e] at h4 ⊢
    simp only [dec, List.cons_append, List.nil_append, reduceCtorEq, if_false, gb0, gb1, gb2, gb3, on (240 + r / 262144) (by omega), on (128 + r / 4096 % 64) (by omega), on (128 + r / 64 % 64) (by omega), on (128 + r % 64) (by omega)]
    exact h4 (by omega) (by simp)

theorem take4 (l : List UInt8) (k : Nat) (hk : k ≤ 4) (hl : k ≤ l.length) : ([gb l 0, gb l 1, gb l 2, gb l 3].take k).map UInt8.ofNat = l.take k := by
  apply List.ext_getElem
  · simp; omega
  · intro i h1 h2
    simp at h1 h2
    simp only [List.getElem_map, List.getElem_take]
    have hi : i = 0 ∨ i = 1 ∨ i = 2 ∨ i = 3 := by omega
    have hg : (l.getD i 0) = l[i]'(by omega) := by simp [List.getD, List.getElem?_eq_getElem (show i < l.length by omega)]
    rcases hi with rfl | rfl | rfl | rfl <;> simp only [gb, hg, List.getElem_cons_zero, List.getElem_cons_succ, UInt8.ofNat_toNat]

/-- What Decode accepts are the bytes of Encode. -/
theorem enc_dec (l : List UInt8) (r k : Nat) (h : dec l = (r, k, 0)) : isR (r : Int) = true ∧ 1 ≤ k ∧ k ≤ l.length ∧ k ≤ 4 ∧ enc r = l.take k := by
  unfold dec at h
  by_cases hl : l = []
  · rw [if_pos hl] at h; simp at h
  rw [if_neg hl] at h
  have hp : 1 ≤ l.length := by cases l with | nil => exact absurd rfl hl | cons _ _ => simp
  obtain ⟨a, b, c, d, e⟩ := encN_decT _ _ _ _ _ r k h hp
  refine ⟨a, b, c, d, ?_⟩
  unfold enc
  rw [e, take4 l k d c]

theorem decT_more (r n : Nat) (h : isR (r : Int) = true) :
    (128 ≤ r → r < 2048 → n < 2 → ∀ b1 b2 b3, decT n (192 + r / 64) b1 b2 b3 = (0, 0, 370)) ∧
    (2048 ≤ r → r < 65536 → n < 2 → ∀ b1 b2 b3, decT n (224 + r / 4096) b1 b2 b3 = (0, 0, 370)) ∧
    (2048 ≤ r → r < 65536 → n = 2 → ∀ b2 b3, decT n (224 + r / 4096) (128 + r / 64 % 64) b2 b3 = (0, 0, 370)) ∧
    (65536 ≤ r → n < 2 → ∀ b1 b2 b3, decT n (240 + r / 262144) b1 b2 b3 = (0, 0, 370)) ∧
    (65536 ≤ r → n = 2 → ∀ b2 b3, decT n (240 + r / 262144) (128 + r / 4096 % 64) b2 b3 = (0, 0, 370)) ∧
    (65536 ≤ r → n = 3 → ∀ b3, decT n (240 + r / 262144) (128 + r / 4096 % 64) (128 + r / 64 % 64) b3 = (0, 0, 370)) := by
  simp [isR] at h
  refine ⟨?_, ?_, ?_, ?_, ?_, ?_⟩
  · intro h1 h2 hn b1 b2 b3; unfold decT
    rw [if_neg (by omega), if_neg (by omega), if_pos (by omega), if_pos hn]
  · intro h1 h2 hn b1 b2 b3; unfold decT
    rw [if_neg (by omega), if_neg (by omega), if_neg (by omega), if_pos (by omega), if_pos hn]
  · intro h1 h2 hn b2 b3; unfold decT
    rw [if_neg (by omega), if_neg (by omega), if_neg (by omega), if_pos (by omega), if_neg (by omega), if_neg (by omega), if_pos (by omega)]
  · intro h1 hn b1 b2 b3; unfold decT
    rw [if_neg (by omega), if_neg (by omega), if_neg (by omega), if_neg (by omega), if_pos (by omega), if_pos hn]
  · intro h1 hn b2 b3; unfold decT
    rw [if_neg (by omega), if_neg (by omega), if_neg (by omega), if_neg (by omega), if_pos (by omega), if_neg (by omega), if_neg (by omega), if_pos (by omega)]
  · intro h1 hn b3; unfold decT
    rw [if_neg (by omega), if_neg (by omega), if_neg (by omega), if_neg (by omega), if_pos (by omega), if_neg (by omega), if_neg (by omega), if_neg (by omega), if_neg (by omega), if_pos (by omega)]

/-- A beginning of a rune's bytes wants more. -/
theorem dec_part (r : Nat) (h : isR (r : Int) = true) (i : Nat) (h0 : 0 < i) (h1 : i < (enc r).length) : dec ((enc r).take i) = (0, 0, 370) := by
  have hh := decT_more r i h
  have hb : r ≤ 1114111 := by simp [isR] at h; omega
  obtain ⟨m1, m2, m3, m4, m5, m6⟩ := hh
  by_cases a : r < 128
  · rw [enc_len, if_pos a] at h1; omega
  by_cases b : r < 2048
  · have e : enc r = [UInt8.ofNat (192 + r / 64), UInt8.ofNat (128 + r % 64)] := by unfold enc encN; rw [if_neg a, if_pos b]; rfl
    rw [e] at h1 ⊢
    obtain rfl : i = 1 := by simp at h1; omega
    simp only [dec, List.take_succ_cons, List.take_zero, reduceCtorEq, if_false, gb0, on (192 + r / 64) (by omega)]
    exact m1 (by omega) b (by decide) _ _ _
  by_cases c : r < 65536
  · have e : enc r = [UInt8.ofNat (224 + r / 4096), UInt8.ofNat (128 + r / 64 % 64), UInt8.ofNat (128 + r % 64)] := by unfold enc encN; rw [if_neg a, if_neg b, if_pos c]; rfl
    rw [e] at h1 ⊢
    rcases (show i = 1 ∨ i = 2 by simp at h1; omega) with rfl | rfl
    · simp only [dec, List.take_succ_cons, List.take_zero, reduceCtorEq, if_false, gb0, on (224 + r / 4096) (by omega)]
      exact m2 (by omega) c (by decide) _ _ _
    · simp only [dec, List.take_succ_cons, List.take_zero, reduceCtorEq, if_false, gb0, gb1, on (224 + r / 4096) (by omega), on (128 + r / 64 % 64) (by omega)]
      exact m3 (by omega) c rfl _ _
  · have e : enc r = [UInt8.ofNat (240 + r / 262144), UInt8.ofNat (128 + r / 4096 % 64), UInt8.ofNat (128 + r / 64 % 64), UInt8.ofNat (128 + r % 64)] := by unfold enc encN; rw [if_neg a, if_neg b, if_neg c]; rfl
    rw [e] at h1 ⊢
    rcases (show i = 1 ∨ i = 2 ∨ i = 3 by simp at h1; omega) with rfl | rfl | rfl
    · simp only [dec, List.take_succ_cons, List.take_zero, reduceCtorEq, if_false, gb0, on (240 + r / 262144) (by omega)]
      exact m4 (by omega) (by decide) _ _ _
    · simp only [dec, List.take_succ_cons, List.take_zero, reduceCtorEq, if_false, gb0, gb1, on (240 + r / 262144) (by omega), on (128 + r / 4096 % 64) (by omega)]
      exact m5 (by omega) rfl _ _
    · simp only [dec, List.take_succ_cons, List.take_zero, reduceCtorEq, if_false, gb0, gb1, gb2, on (240 + r / 262144) (by omega), on (128 + r / 4096 % 64) (by omega), on (128 + r / 64 % 64) (by omega)]
      exact m6 (by omega) rfl _
end Go.Proofs.YtdbampgbbghfkaaDoor.Ru
