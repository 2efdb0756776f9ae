/- Plain facts for the reference's Decode: what number, stands and begins answer, by 'dec'. No run in this text. -/
import Derived.Test.YtomffjaeafcpdaaDoorRuB
namespace Go.Proofs.YtomffjaeafcpdaaDoor

/-- The number that some bytes give of which the first says that they are so many. -/
def numN : List Nat → Int
  | [a] => if a < 128 then a else -1
  | [a, b] => if (192 ≤ a ∧ a < 224) ∧ 128 ≤ b ∧ b < 192 then 64 * ((a : Int) - 192) + b - 128 else -1
  | [a, b, c] => if (224 ≤ a ∧ a < 240) ∧ (128 ≤ b ∧ b < 192) ∧ 128 ≤ c ∧ c < 192 then 64 * (64 * ((a : Int) - 224) + b - 128) + c - 128 else -1
  | [a, b, c, d] => if (240 ≤ a ∧ a < 248) ∧ (128 ≤ b ∧ b < 192) ∧ (128 ≤ c ∧ c < 192) ∧ 128 ≤ d ∧ d < 192 then 64 * (64 * (64 * ((a : Int) - 240) + b - 128) + c - 128) + d - 128 else -1
  | _ => -1
def numV (l : List UInt8) : Int := numN (l.map UInt8.toNat)
def stB (l : List UInt8) : Bool := isR (numV l) && (l == enc (numV l).toNat)
def stV (l : List UInt8) : Int := if isR (numV l) = true then numV l else 0
def manyN (b0 : Nat) : Nat := if 192 ≤ b0 ∧ b0 < 224 then 2 else if 224 ≤ b0 ∧ b0 < 240 then 3 else if 240 ≤ b0 ∧ b0 < 248 then 4 else 0
def bgB (l : List UInt8) : Bool := if manyN (gb l 0) ≤ l.length then false else stB (l ++ List.replicate (manyN (gb l 0) - l.length) 128) || stB (l ++ List.replicate (manyN (gb l 0) - l.length) 191)

theorem encN_map (r : Nat) (h : isR (r : Int) = true) : (enc r).map UInt8.toNat = encN r := by
  have hl : ∀ a ∈ encN r, a < 256 := by
    simp [isR] at h
    unfold encN
    split
    · intro a ha; simp at ha; omega
    · split
      · intro a ha; simp at ha; omega
      · split
        · intro a ha; simp at ha; omega
        · intro a ha; simp at ha; omega
  unfold enc
  rw [List.map_map]
  conv => rhs; rw [← List.map_id (encN r)]
  exact List.map_congr_left fun a ha => on a (hl a ha)
theorem num_enc (r : Nat) (h : isR (r : Int) = true) : numV (enc r) = r := by
  unfold numV
  rw [encN_map r h]
  simp [isR] at h
  unfold encN
  split
  · rename_i h1; simp [numN, h1]
  · split
    · simp only [numN]; rw [if_pos (by omega)]; omega
    · split
      · simp only [numN]; rw [if_pos (by omega)]; omega
      · simp only [numN]; rw [if_pos (by omega)]; omega
theorem st_ok {l : List UInt8} (h : stB l = true) : ∃ r : Nat, isR (r : Int) = true ∧ l = enc r ∧ numV l = r := by
  unfold stB at h
  rw [Bool.and_eq_true] at h
  obtain ⟨h1, h2⟩ := h
  have h3 : 0 ≤ numV l := by simp [isR] at h1; omega
  refine ⟨(numV l).toNat, ?_, ?_, ?_⟩
  · rw [Int.toNat_of_nonneg h3]; exact h1
  · exact eq_of_beq h2
  · rw [Int.toNat_of_nonneg h3]
theorem st_to {l : List UInt8} (h : stB l = true) : dec l = ((stV l).toNat, l.length, 0) ∧ 0 ≤ stV l := by
  obtain ⟨r, h1, h2, h3⟩ := st_ok h
  have e := dec_enc r h1 []
  rw [List.append_nil, ← h2] at e
  have hv : stV l = r := by unfold stV; rw [h3, if_pos h1]
  rw [e, hv]
  exact ⟨by simp, by omega⟩
theorem st_of {l : List UInt8} {r k : Nat} (h : dec l = (r, k, 0)) (hk : k = l.length) : stB l = true ∧ stV l = r := by
  obtain ⟨h1, h2, h3, h4, h5⟩ := enc_dec l r k h
  rw [hk, List.take_length] at h5
  have e : numV l = r := by rw [← h5]; exact num_enc r h1
  refine ⟨?_, by unfold stV; rw [e, if_pos h1]⟩
  unfold stB
  rw [e, h1, Int.toNat_natCast, ← h5]
  simp
/-- The first beginning that stands is the rune that Decode finds. -/
theorem st_find {m : List UInt8} {r k : Nat} (h : dec m = (r, k, 0)) : (∀ n, n ≤ m.length → n < k → stB (m.take n) = false) ∧ stB (m.take k) = true ∧ stV (m.take k) = r := by
  obtain ⟨h1, h2, h3, h4, h5⟩ := enc_dec m r k h
  refine ⟨fun n hn hk => ?_, ?_⟩
  · cases hs : stB (m.take n)
    · rfl
    · have e := (st_to hs).1
      have e2 := dec_ext (m.take n) (m.drop n) (by rw [e])
      rw [List.take_append_drop, h, e] at e2
      simp only [Prod.mk.injEq, List.length_take] at e2
      omega
  · have e := dec_enc r h1 []
    rw [List.append_nil, h5] at e
    exact st_of e rfl
theorem st_none {m : List UInt8} (h : (dec m).2.2 ≠ 0) (n : Nat) : stB (m.take n) = false := by
  cases hs : stB (m.take n)
  · rfl
  · have e := (st_to hs).1
    have e2 := dec_ext (m.take n) (m.drop n) (by rw [e])
    rw [List.take_append_drop, e] at e2
    rw [e2] at h
    exact absurd rfl h
theorem bg_part {l x : List UInt8} (h : stB (l ++ x) = true) (h0 : l ≠ []) (hx : x ≠ []) : (dec l).2.2 = 370 := by
  obtain ⟨r, h1, h2, _⟩ := st_ok h
  have hl : (enc r).length = l.length + x.length := by rw [← h2, List.length_append]
  have hx0 : 0 < x.length := List.length_pos_iff.2 hx
  have := dec_part r h1 l.length (List.length_pos_iff.2 h0) (by omega)
  rw [← h2, List.take_left] at this
  rw [this]
theorem rep_ne {n m : Nat} (h : ¬ n ≤ m) (x : UInt8) : List.replicate (n - m) x ≠ [] := by
  intro e
  have := congrArg List.length e
  simp at this
  omega
theorem stT {l : List UInt8} {n b0 b1 b2 b3 : Nat} (hn : l.length = n) (h0 : gb l 0 = b0) (h1 : gb l 1 = b1) (h2 : gb l 2 = b2) (h3 : gb l 3 = b3) (hn0 : 0 < n) {r : Nat} (h : decT n b0 b1 b2 b3 = (r, n, 0)) : stB l = true := by
  refine (st_of (r := r) (k := n) ?_ hn.symm).1
  unfold dec
  rw [if_neg (by intro e; rw [e] at hn; simp at hn; omega), hn, h0, h1, h2, h3]
  exact h
theorem decT_370 (n b0 b1 b2 b3 : Nat) (h : (decT n b0 b1 b2 b3).2.2 = 370) :
    (194 ≤ b0 ∧ b0 < 224 ∧ n < 2) ∨ (224 ≤ b0 ∧ b0 < 240 ∧ (n < 2 ∨ (¬ (b1 / 64 ≠ 2 ∨ (b0 = 224 ∧ b1 < 160) ∨ (b0 = 237 ∧ 159 < b1)) ∧ n < 3))) ∨
    (240 ≤ b0 ∧ b0 < 245 ∧ (n < 2 ∨ (¬ (b1 / 64 ≠ 2 ∨ (b0 = 240 ∧ b1 < 144) ∨ (b0 = 244 ∧ 143 < b1)) ∧ (n < 3 ∨ (¬ b2 / 64 ≠ 2 ∧ n < 4))))) := by
  unfold decT at h
  by_cases c0 : b0 < 128
  · rw [if_pos c0] at h; exact absurd h (Nat.zero_ne_add_one _)
  rw [if_neg c0] at h
  by_cases c1 : b0 < 194
  · rw [if_pos c1] at h; exact absurd h (by decide)
  rw [if_neg c1] at h
  by_cases c2 : b0 < 224
  · rw [if_pos c2] at h
    by_cases c : n < 2
    · exact .inl ⟨by omega, c2, c⟩
    · rw [if_neg c] at h
      by_cases d : b1 / 64 = 2
      · rw [if_pos d] at h; exact absurd h (Nat.zero_ne_add_one _)
      · rw [if_neg d] at h; exact absurd h (by decide)
  rw [if_neg c2] at h
  by_cases c3 : b0 < 240
  · rw [if_pos c3] at h
    refine .inr (.inl ⟨by omega, c3, ?_⟩)
    by_cases c : n < 2
    · exact .inl c
    · rw [if_neg c] at h
      by_cases d : b1 / 64 ≠ 2 ∨ (b0 = 224 ∧ b1 < 160) ∨ (b0 = 237 ∧ 159 < b1)
      · rw [if_pos d] at h; exact absurd h (by decide)
      · rw [if_neg d] at h
        by_cases e : n < 3
        · exact .inr ⟨d, e⟩
        · rw [if_neg e] at h
          by_cases g : b2 / 64 = 2
          · rw [if_pos g] at h; exact absurd h (Nat.zero_ne_add_one _)
          · rw [if_neg g] at h; exact absurd h (by decide)
  rw [if_neg c3] at h
  by_cases c4 : b0 < 245
  · rw [if_pos c4] at h
    refine .inr (.inr ⟨by omega, c4, ?_⟩)
    by_cases c : n < 2
    · exact .inl c
    · rw [if_neg c] at h
      by_cases d : b1 / 64 ≠ 2 ∨ (b0 = 240 ∧ b1 < 144) ∨ (b0 = 244 ∧ 143 < b1)
      · rw [if_pos d] at h; exact absurd h (by decide)
      · rw [if_neg d] at h
        refine .inr ⟨d, ?_⟩
        by_cases e : n < 3
        · exact .inl e
        · rw [if_neg e] at h
          refine .inr ?_
          by_cases g : b2 / 64 ≠ 2
          · rw [if_pos g] at h; exact absurd h (by decide)
          · rw [if_neg g] at h
            refine ⟨g, ?_⟩
            by_cases k : n < 4
            · exact k
            · rw [if_neg k] at h
              by_cases m : b3 / 64 = 2
              · rw [if_pos m] at h; exact absurd h (Nat.zero_ne_add_one _)
              · rw [if_neg m] at h; exact absurd h (by decide)
  · rw [if_neg c4] at h; exact absurd h (by decide)
theorem bg_dec (l : List UInt8) (h1 : l ≠ []) (h4 : l.length < 4) : bgB l = decide ((dec l).2.2 = 370) := by
  by_cases h : (dec l).2.2 = 370
  · rw [decide_eq_true h]
    have hd : dec l = decT l.length (gb l 0) (gb l 1) (gb l 2) (gb l 3) := by unfold dec; rw [if_neg h1]
    rw [hd] at h
    have g0 := gb_lt l 0
    have g1 := gb_lt l 1
    have g2 := gb_lt l 2
    match l, h1, h4 with
    | [a], _, _ =>
      have ha := gb0 a []
      generalize a.toNat = x at ha
      rw [ha] at h g0
      unfold bgB
      rw [ha]
      change (decT 1 x _ _ _).2.2 = 370 at h
      change (if manyN x ≤ 1 then false else _) = true
      have h2 : 194 ≤ x ∧ x < 245 := by rcases decT_370 _ _ _ _ _ h with k | k | k <;> omega
      by_cases c1 : x < 224
      · have hm : manyN x = 2 := by unfold manyN; rw [if_pos (by omega)]
        rw [hm, if_neg (by decide)]
        have : stB ([a] ++ List.replicate (2 - [a].length) 128) = true := by
          refine stT (n := 2) (r := x % 32 * 64 + 128 % 64) rfl ha (gb1 a 128 []) rfl rfl (by decide) ?_
          unfold decT
          rw [if_neg (by omega), if_neg (by omega), if_pos c1, if_neg (by decide), if_pos (by decide)]; rfl
        rw [this]; rfl
      · by_cases c2 : x < 240
        · have hm : manyN x = 3 := by unfold manyN; rw [if_neg (by omega), if_pos (by omega)]
          rw [hm, if_neg (by decide)]
          by_cases c3 : x = 224
          · have : stB ([a] ++ List.replicate (3 - [a].length) 191) = true := by
              refine stT (n := 3) (b1 := 191) (b2 := 191) (b3 := 0) (r := x % 16 * 4096 + 191 % 64 * 64 + 191 % 64) rfl ha rfl rfl rfl (by decide) ?_
              unfold decT
              rw [if_neg (by omega), if_neg (by omega), if_neg c1, if_pos c2, if_neg (by decide), if_neg (by omega), if_neg (by decide), if_pos (by decide)]
            rw [this, Bool.or_true]
          · have : stB ([a] ++ List.replicate (3 - [a].length) 128) = true := by
              refine stT (n := 3) (b1 := 128) (b2 := 128) (b3 := 0) (r := x % 16 * 4096 + 128 % 64 * 64 + 128 % 64) rfl ha rfl rfl rfl (by decide) ?_
              unfold decT
              rw [if_neg (by omega), if_neg (by omega), if_neg c1, if_pos c2, if_neg (by decide), if_neg (by omega), if_neg (by decide), if_pos (by decide)]
            rw [this]; rfl
        · have hm : manyN x = 4 := by unfold manyN; rw [if_neg (by omega), if_neg (by omega), if_pos (by omega)]
          rw [hm, if_neg (by decide)]
          by_cases c3 : x = 240
          · have : stB ([a] ++ List.replicate (4 - [a].length) 191) = true := by
              refine stT (n := 4) (b1 := 191) (b2 := 191) (b3 := 191) (r := x % 8 * 262144 + 191 % 64 * 4096 + 191 % 64 * 64 + 191 % 64) rfl ha rfl rfl rfl (by decide) ?_
              unfold decT
              rw [if_neg (by omega), if_neg (by omega), if_neg c1, if_neg c2, if_pos (by omega), if_neg (by decide), if_neg (by omega), if_neg (by decide), if_neg (by decide), if_neg (by decide), if_pos (by decide)]
            rw [this, Bool.or_true]
          · have : stB ([a] ++ List.replicate (4 - [a].length) 128) = true := by
              refine stT (n := 4) (b1 := 128) (b2 := 128) (b3 := 128) (r := x % 8 * 262144 + 128 % 64 * 4096 + 128 % 64 * 64 + 128 % 64) rfl ha rfl rfl rfl (by decide) ?_
              unfold decT
              rw [if_neg (by omega), if_neg (by omega), if_neg c1, if_neg c2, if_pos (by omega), if_neg (by decide), if_neg (by omega), if_neg (by decide), if_neg (by decide), if_neg (by decide), if_pos (by decide)]
            rw [this]; rfl
    | [a, b], _, _ =>
      have ha := gb0 a [b]
      have hb := gb1 a b []
      generalize a.toNat = x at ha
      generalize b.toNat = y at hb
      rw [ha, hb] at h
      unfold bgB
      rw [ha]
      change (decT 2 x y _ _).2.2 = 370 at h
      change (if manyN x ≤ 2 then false else _) = true
      have h2 : 224 ≤ x ∧ x < 245 ∧ (x < 240 → ¬ (y / 64 ≠ 2 ∨ (x = 224 ∧ y < 160) ∨ (x = 237 ∧ 159 < y))) ∧ (240 ≤ x → ¬ (y / 64 ≠ 2 ∨ (x = 240 ∧ y < 144) ∨ (x = 244 ∧ 143 < y))) := by rcases decT_370 _ _ _ _ _ h with k | k | k <;> omega
      obtain ⟨h2, h3, h5, h6⟩ := h2
      by_cases c2 : x < 240
      · have hm : manyN x = 3 := by unfold manyN; rw [if_neg (by omega), if_pos (by omega)]
        rw [hm, if_neg (by decide)]
        have : stB ([a, b] ++ List.replicate (3 - [a, b].length) 128) = true := by
          refine stT (n := 3) (b2 := 128) (b3 := 0) (r := x % 16 * 4096 + y % 64 * 64 + 128 % 64) rfl ha hb rfl rfl (by decide) ?_
          unfold decT
          rw [if_neg (by omega), if_neg (by omega), if_neg (by omega), if_pos c2, if_neg (by decide), if_neg (h5 c2), if_neg (by decide), if_pos (by decide)]
        rw [this]; rfl
      · have hm : manyN x = 4 := by unfold manyN; rw [if_neg (by omega), if_neg (by omega), if_pos (by omega)]
        rw [hm, if_neg (by decide)]
        have : stB ([a, b] ++ List.replicate (4 - [a, b].length) 128) = true := by
          refine stT (n := 4) (b2 := 128) (b3 := 128) (r := x % 8 * 262144 + y % 64 * 4096 + 128 % 64 * 64 + 128 % 64) rfl ha hb rfl rfl (by decide) ?_
          unfold decT
          rw [if_neg (by omega), if_neg (by omega), if_neg (by omega), if_neg c2, if_pos (by omega), if_neg (by decide), if_neg (h6 (by omega)), if_neg (by decide), if_neg (by decide), if_neg (by decide), if_pos (by decide)]
        rw [this]; rfl
    | [a, b, c], _, _ =>
      have ha := gb0 a [b, c]
      have hb := gb1 a b [c]
      have hc := gb2 a b c []
      generalize a.toNat = x at ha
      generalize b.toNat = y at hb
      generalize c.toNat = z at hc
      rw [ha, hb, hc] at h
      unfold bgB
      rw [ha]
      change (decT 3 x y z _).2.2 = 370 at h
      change (if manyN x ≤ 3 then false else _) = true
      have h2 : 240 ≤ x ∧ x < 245 ∧ ¬ (y / 64 ≠ 2 ∨ (x = 240 ∧ y < 144) ∨ (x = 244 ∧ 143 < y)) ∧ ¬ z / 64 ≠ 2 := by rcases decT_370 _ _ _ _ _ h with k | k | k <;> omega
      obtain ⟨h2, h3, h5, h6⟩ := h2
      have hm : manyN x = 4 := by unfold manyN; rw [if_neg (by omega), if_neg (by omega), if_pos (by omega)]
      rw [hm, if_neg (by decide)]
      have : stB ([a, b, c] ++ List.replicate (4 - [a, b, c].length) 128) = true := by
        refine stT (n := 4) (b3 := 128) (r := x % 8 * 262144 + y % 64 * 4096 + z % 64 * 64 + 128 % 64) rfl ha hb hc rfl (by decide) ?_
        unfold decT
        rw [if_neg (by omega), if_neg (by omega), if_neg (by omega), if_neg (by omega), if_pos (by omega), if_neg (by decide), if_neg h5, if_neg (by decide), if_neg h6, if_neg (by decide), if_pos (by decide)]
      rw [this]; rfl
  · rw [decide_eq_false h]
    unfold bgB
    by_cases c : manyN (gb l 0) ≤ l.length
    · rw [if_pos c]
    · rw [if_neg c]
      have e : ∀ x, stB (l ++ List.replicate (manyN (gb l 0) - l.length) x) = false := fun x => by
        cases hs : stB (l ++ List.replicate (manyN (gb l 0) - l.length) x)
        · rfl
        · exact absurd (bg_part hs h1 (rep_ne c x)) h
      rw [e, e]; rfl
end Go.Proofs.YtomffjaeafcpdaaDoor
