/- The runes of a string of bytes, one after the other. No run in this text. -/
import Derived.Test.YtdbampgbbghfkaaDoorRuA
namespace Go.Proofs.YtdbampgbbghfkaaDoor.Ru

/-- The runes at the head, each with the place behind it. -/
def rnF : Nat → Nat → List UInt8 → List (Nat × Nat)
  | 0, _, _ => []
  | f + 1, k, l => if (dec l).2.2 = 0 then ((dec l).1, k + (dec l).2.1) :: rnF f (k + (dec l).2.1) (l.drop (dec l).2.1) else []
def rns (l : List UInt8) : List (Nat × Nat) := rnF l.length 0 l
/-- Where the runes at the head end. -/
def endF : Nat → Nat → List UInt8 → Nat
  | 0, k, _ => k
  | f + 1, k, l => if (dec l).2.2 = 0 then endF f (k + (dec l).2.1) (l.drop (dec l).2.1) else k
def endA (l : List UInt8) : Nat := endF l.length 0 l
def chkA (l : List UInt8) : Nat := if 8000 < l.length then 0 else endA l
def chkE (l : List UInt8) : Nat := if 8000 < l.length then 3 else if endA l < l.length then (dec (l.drop (endA l))).2.2 else 0
def okB (l : List UInt8) : Bool := decide (chkE l = 0)

theorem dec_nil : dec [] = (0, 0, 7) := rfl
theorem dec_w (l : List UInt8) (h : (dec l).2.2 = 0) : 1 ≤ (dec l).2.1 ∧ (dec l).2.1 ≤ l.length ∧ (dec l).2.1 ≤ 4 := by
  obtain ⟨a, b, c, d, e⟩ := enc_dec l (dec l).1 (dec l).2.1 (by rw [← h])
  exact ⟨b, c, d⟩
theorem decT_err (n b0 b1 b2 b3 : Nat) : (decT n b0 b1 b2 b3).2.2 = 0 ∨ decT n b0 b1 b2 b3 = (0, 0, 6) ∨ (decT n b0 b1 b2 b3 = (0, 0, 370) ∧ n < 4) := by
  by_cases h : (decT n b0 b1 b2 b3).2.2 = 0
  · exact .inl h
  · refine .inr ?_
    unfold decT at h ⊢
    by_cases h0 : b0 < 128
    · rw [if_pos h0] at h; simp at h
    rw [if_neg h0] at h ⊢
    by_cases h1 : b0 < 194
    · rw [if_pos h1]; exact .inl rfl
    rw [if_neg h1] at h ⊢
    by_cases h2 : b0 < 224
    · rw [if_pos h2] at h ⊢
      by_cases hn : n < 2
      · rw [if_pos hn]; exact .inr ⟨rfl, by omega⟩
      rw [if_neg hn] at h ⊢
      by_cases hb : b1 / 64 = 2
      · rw [if_pos hb] at h; simp at h
      · rw [if_neg hb]; exact .inl rfl
    rw [if_neg h2] at h ⊢
    by_cases h3 : b0 < 240
    · rw [if_pos h3] at h ⊢
      by_cases hn : n < 2
      · rw [if_pos hn]; exact .inr ⟨rfl, by omega⟩
      rw [if_neg hn] at h ⊢
      by_cases hb : b1 / 64 ≠ 2 ∨ (b0 = 224 ∧ b1 < 160) ∨ (b0 = 237 ∧ 159 < b1)
      · rw [if_pos hb]; exact .inl rfl
      rw [if_neg hb] at h ⊢
      by_cases hn3 : n < 3
      · rw [if_pos hn3]; exact .inr ⟨rfl, by omega⟩
      rw [if_neg hn3] at h ⊢
      by_cases hb2 : b2 / 64 = 2
      · rw [if_pos hb2] at h; simp at h
      · rw [if_neg hb2]; exact .inl rfl
    rw [if_neg h3] at h ⊢
    by_cases h4 : b0 < 245
    · rw [if_pos h4] at h ⊢
      by_cases hn : n < 2
      · rw [if_pos hn]; exact .inr ⟨rfl, by omega⟩
      rw [if_neg hn] at h ⊢
      by_cases hb : b1 / 64 ≠ 2 ∨ (b0 = 240 ∧ b1 < 144) ∨ (b0 = 244 ∧ 143 < b1)
      · rw [if_pos hb]; exact .inl rfl
      rw [if_neg hb] at h ⊢
      by_cases hn3 : n < 3
      · rw [if_pos hn3]; exact .inr ⟨rfl, by omega⟩
      rw [if_neg hn3] at h ⊢
      by_cases hb2 : b2 / 64 ≠ 2
      · rw [if_pos hb2]; exact .inl rfl
      rw [if_neg hb2] at h ⊢
      by_cases hn4 : n < 4
      · rw [if_pos hn4]; exact .inr ⟨rfl, by omega⟩
      rw [if_neg hn4] at h ⊢
      by_cases hb3 : b3 / 64 = 2
      · rw [if_pos hb3] at h; simp at h
      · rw [if_neg hb3]; exact .inl rfl
    rw [if_neg h4]; exact .inl rfl
theorem dec_err (l : List UInt8) (hl : l ≠ []) : (dec l).2.2 = 0 ∨ dec l = (0, 0, 6) ∨ (dec l = (0, 0, 370) ∧ l.length < 4) := by
  unfold dec; rw [if_neg hl]; exact decT_err _ _ _ _ _
theorem dec_b (l : List UInt8) : (dec l).1 ≤ 1114111 ∧ (dec l).2.1 ≤ 4 := by
  by_cases h : (dec l).2.2 = 0
  · obtain ⟨a, b, c, d, e⟩ := enc_dec l (dec l).1 (dec l).2.1 (by rw [← h])
    simp [isR] at a
    exact ⟨by omega, d⟩
  · by_cases hl : l = []
    · subst hl; simp [dec_nil]
    · rcases dec_err l hl with e | e | ⟨e, _⟩
      · exact absurd e h
      · rw [e]; simp
      · rw [e]; simp

theorem rnF_more (f : Nat) : ∀ (g k : Nat) (l : List UInt8), l.length ≤ f → l.length ≤ g → rnF f k l = rnF g k l := by
  induction f with
  | zero =>
    intro g k l hf hg
    have : l = [] := List.length_eq_zero_iff.1 (by omega)
    subst this
    cases g <;> simp [rnF, dec_nil]
  | succ f ih =>
    intro g k l hf hg
    cases g with
    | zero =>
      have : l = [] := List.length_eq_zero_iff.1 (by omega)
      subst this; simp [rnF, dec_nil]
    | succ g =>
      simp only [rnF]
      by_cases h : (dec l).2.2 = 0
      · rw [if_pos h, if_pos h]
        have := dec_w l h
        rw [ih g _ _ (by simp; omega) (by simp; omega)]
      · rw [if_neg h, if_neg h]
theorem endF_more (f : Nat) : ∀ (g k : Nat) (l : List UInt8), l.length ≤ f → l.length ≤ g → endF f k l = endF g k l := by
  induction f with
  | zero =>
    intro g k l hf hg
    have : l = [] := List.length_eq_zero_iff.1 (by omega)
    subst this
    cases g <;> simp [endF, dec_nil]
  | succ f ih =>
    intro g k l hf hg
    cases g with
    | zero =>
      have : l = [] := List.length_eq_zero_iff.1 (by omega)
      subst this; simp [endF, dec_nil]
    | succ g =>
      simp only [endF]
      by_cases h : (dec l).2.2 = 0
      · rw [if_pos h, if_pos h]
        have := dec_w l h
        rw [ih g _ _ (by simp; omega) (by simp; omega)]
      · rw [if_neg h, if_neg h]
theorem endF_ge (f : Nat) : ∀ (k : Nat) (l : List UInt8), k ≤ endF f k l ∧ endF f k l ≤ k + l.length := by
  induction f with
  | zero => intro k l; simp [endF]
  | succ f ih =>
    intro k l
    simp only [endF]
    split
    · rename_i h
      have h1 := dec_w l h
      have h2 := ih (k + (dec l).2.1) (l.drop (dec l).2.1)
      simp at h2
      omega
    · omega
theorem endA_le (l : List UInt8) : endA l ≤ l.length := by have := endF_ge l.length 0 l; unfold endA; omega
/-- The last place behind a rune is where they end. -/
theorem rnF_last (f : Nat) : ∀ (k : Nat) (l : List UInt8), ((rnF f k l).map (·.2)).getLastD k = endF f k l := by
  induction f with
  | zero => intro k l; simp [rnF, endF]
  | succ f ih =>
    intro k l
    simp only [rnF, endF]
    split
    · rw [List.map_cons, List.getLastD_cons, ih]
    · simp
theorem rnF_shift (f : Nat) : ∀ (k d : Nat) (l : List UInt8), rnF f (k + d) l = (rnF f k l).map fun p => (p.1, p.2 + d) := by
  induction f with
  | zero => intro k d l; simp [rnF]
  | succ f ih =>
    intro k d l
    simp only [rnF]
    split
    · rw [show k + d + (dec l).2.1 = k + (dec l).2.1 + d by omega, ih, List.map_cons]
    · simp
theorem endF_shift (f : Nat) : ∀ (k d : Nat) (l : List UInt8), endF f (k + d) l = endF f k l + d := by
  induction f with
  | zero => intro k d l; simp [endF]
  | succ f ih =>
    intro k d l
    simp only [endF]
    split
    · rw [show k + d + (dec l).2.1 = k + (dec l).2.1 + d by omega, ih]
    · simp
/-- What comes behind accepted bytes makes no difference. -/
theorem dec_ext (l m : List UInt8) (h : (dec l).2.2 = 0) : dec (l ++ m) = dec l := by
  obtain ⟨a, b, c, d, e⟩ := enc_dec l (dec l).1 (dec l).2.1 (by rw [← h])
  have h2 : l ++ m = enc (dec l).1 ++ (l.drop (dec l).2.1 ++ m) := by rw [e, ← List.append_assoc, List.take_append_drop]
  rw [h2, dec_enc _ a, e]
  have : (l.take (dec l).2.1).length = (dec l).2.1 := by simp; omega
  rw [this, ← h]
theorem decT_form (n m b0 b1 b2 b3 c1 c2 c3 : Nat) (hm : n ≤ m) (e1 : 1 < n → c1 = b1) (e2 : 2 < n → c2 = b2) (e3 : 3 < n → c3 = b3) (h : decT n b0 b1 b2 b3 = (0, 0, 6)) : decT m b0 c1 c2 c3 = (0, 0, 6) := by
  unfold decT at h ⊢
  by_cases h0 : b0 < 128
  · rw [if_pos h0] at h; simp at h
  rw [if_neg h0] at h ⊢
  by_cases h1 : b0 < 194
  · rw [if_pos h1]
  rw [if_neg h1] at h ⊢
  by_cases h2 : b0 < 224
  · rw [if_pos h2] at h ⊢
    by_cases hn : n < 2
    · rw [if_pos hn] at h; simp at h
    rw [if_neg hn] at h
    rw [if_neg (by omega)]
    obtain rfl := e1 (by omega)
    exact h
  rw [if_neg h2] at h ⊢
  by_cases h3 : b0 < 240
  · rw [if_pos h3] at h ⊢
    by_cases hn : n < 2
    · rw [if_pos hn] at h; simp at h
    rw [if_neg hn] at h
    rw [if_neg (by omega)]
    obtain rfl := e1 (by omega)
    by_cases hb : c1 / 64 ≠ 2 ∨ (b0 = 224 ∧ c1 < 160) ∨ (b0 = 237 ∧ 159 < c1)
    · rw [if_pos hb]
    rw [if_neg hb] at h ⊢
    by_cases hn3 : n < 3
    · rw [if_pos hn3] at h; simp at h
    rw [if_neg hn3] at h
    rw [if_neg (by omega)]
    obtain rfl := e2 (by omega)
    exact h
  rw [if_neg h3] at h ⊢
  by_cases h4 : b0 < 245
  · rw [if_pos h4] at h ⊢
    by_cases hn : n < 2
    · rw [if_pos hn] at h; simp at h
    rw [if_neg hn] at h
    rw [if_neg (by omega)]
    obtain rfl := e1 (by omega)
    by_cases hb : c1 / 64 ≠ 2 ∨ (b0 = 240 ∧ c1 < 144) ∨ (b0 = 244 ∧ 143 < c1)
    · rw [if_pos hb]
    rw [if_neg hb] at h ⊢
    by_cases hn3 : n < 3
    · rw [if_pos hn3] at h; simp at h
    rw [if_neg hn3] at h
    rw [if_neg (by omega)]
    obtain rfl := e2 (by omega)
    by_cases hb2 : c2 / 64 ≠ 2
    · rw [if_pos hb2]
    rw [if_neg hb2] at h ⊢
    by_cases hn4 : n < 4
    · rw [if_pos hn4] at h; simp at h
    rw [if_neg hn4] at h
    rw [if_neg (by omega)]
    obtain rfl := e3 (by omega)
    exact h
  rw [if_neg h4]
theorem gb_app (l m : List UInt8) (i : Nat) (h : i < l.length) : gb (l ++ m) i = gb l i := by
  simp [gb, List.getElem?_append_left h]
theorem dec_form (l m : List UInt8) (h : dec l = (0, 0, 6)) : dec (l ++ m) = (0, 0, 6) := by
  unfold dec at h ⊢
  by_cases hl : l = []
  · rw [if_pos hl] at h; simp at h
  rw [if_neg hl] at h
  rw [if_neg (by simp [hl])]
  have hp : 0 < l.length := List.length_pos_iff.2 hl
  rw [gb_app l m 0 hp]
  exact decT_form _ _ _ _ _ _ _ _ _ (by simp) (fun h => gb_app l m 1 h) (fun h => gb_app l m 2 h) (fun h => gb_app l m 3 h) h

/-- The runes of a beginning that is whole come first. -/
theorem rnF_app (f : Nat) : ∀ (k : Nat) (l m : List UInt8), l.length ≤ f → endF f k l = k + l.length → ∀ g, (l ++ m).length ≤ g → rnF g k (l ++ m) = rnF f k l ++ rnF g (k + l.length) m ∧ endF g k (l ++ m) = endF g (k + l.length) m := by
  induction f with
  | zero =>
    intro k l m hf he g hg
    have : l = [] := List.length_eq_zero_iff.1 (by omega)
    subst this
    simp [rnF]
  | succ f ih =>
    intro k l m hf he g hg
    by_cases hl : l = []
    · subst hl; simp [rnF, dec_nil]
    simp only [endF] at he
    by_cases h : (dec l).2.2 = 0
    · rw [if_pos h] at he
      have hw := dec_w l h
      obtain ⟨g', rfl⟩ : ∃ g', g = g' + 1 := ⟨g - 1, by simp at hg; omega⟩
      have hd : (l ++ m).drop (dec l).2.1 = l.drop (dec l).2.1 ++ m := by rw [List.drop_append_of_le_length hw.2.1]
      have hlen : (l.drop (dec l).2.1).length = l.length - (dec l).2.1 := by simp
      simp at hg
      obtain ⟨r1, r2⟩ := ih (k + (dec l).2.1) (l.drop (dec l).2.1) m (by omega) (by rw [he, hlen]; omega) g' (by simp; omega)
      rw [hlen, show k + (dec l).2.1 + (l.length - (dec l).2.1) = k + l.length by omega] at r1 r2
      have hm : rnF g' (k + l.length) m = rnF (g' + 1) (k + l.length) m := rnF_more _ _ _ _ (by omega) (by omega)
      have hm2 : endF g' (k + l.length) m = endF (g' + 1) (k + l.length) m := endF_more _ _ _ _ (by omega) (by omega)
      constructor
      · rw [← hm]
        simp only [rnF, dec_ext l m h, h, if_true, hd, r1, List.cons_append]
      · rw [← hm2, ← r2]
        simp only [endF, dec_ext l m h, h, if_true, hd]
    · rw [if_neg h] at he
      have : 0 < l.length := List.length_pos_iff.2 hl
      omega
theorem chkE_ok (l : List UInt8) : chkE l = 0 ↔ l.length ≤ 8000 ∧ endA l = l.length := by
  unfold chkE
  by_cases h : 8000 < l.length
  · rw [if_pos h]; simp; omega
  rw [if_neg h]
  have h1 := endA_le l
  by_cases h2 : endA l < l.length
  · rw [if_pos h2]
    constructor
    · intro h3
      exfalso
      -- the runes would go on
      have key : ∀ (f k : Nat) (m : List UInt8), m.length ≤ f → (dec (m.drop (endF f k m - k))).2.2 = 0 → False := by
        intro f
        induction f with
        | zero =>
          intro k m hm h4
          have : m = [] := List.length_eq_zero_iff.1 (by omega)
          subst this
          simp [endF, dec_nil] at h4
        | succ f ih =>
          intro k m hm h4
          simp only [endF] at h4
          by_cases hd : (dec m).2.2 = 0
          · rw [if_pos hd] at h4
            have hw := dec_w m hd
            have hg := endF_ge f (k + (dec m).2.1) (m.drop (dec m).2.1)
            refine ih (k + (dec m).2.1) (m.drop (dec m).2.1) (by simp; omega) ?_
            rw [List.drop_drop, show (dec m).2.1 + (endF f (k + (dec m).2.1) (m.drop (dec m).2.1) - (k + (dec m).2.1)) = endF f (k + (dec m).2.1) (m.drop (dec m).2.1) - k by omega]
            exact h4
          · rw [if_neg hd] at h4
            simp at h4
            exact hd h4
      exact key l.length 0 l (Nat.le_refl _) (by simpa [endA] using h3)
    · intro h3; omega
  · rw [if_neg h2]; simp; omega

/-- The bytes of the runes are the bytes. -/
theorem rn_back (f : Nat) : ∀ (k : Nat) (l : List UInt8), (rnF f k l).flatMap (fun p => enc p.1) = l.take (endF f k l - k) := by
  induction f with
  | zero => intro k l; simp [rnF, endF]
  | succ f ih =>
    intro k l
    simp only [rnF, endF]
    by_cases h : (dec l).2.2 = 0
    · rw [if_pos h, if_pos h, List.flatMap_cons, ih]
      obtain ⟨a, b, c, d, e⟩ := enc_dec l (dec l).1 (dec l).2.1 (by rw [← h])
      have hg := endF_ge f (k + (dec l).2.1) (l.drop (dec l).2.1)
      simp only []
      rw [e, show endF f (k + (dec l).2.1) (l.drop (dec l).2.1) - k = (dec l).2.1 + (endF f (k + (dec l).2.1) (l.drop (dec l).2.1) - (k + (dec l).2.1)) by omega, List.take_add]
    · rw [if_neg h, if_neg h]; simp
theorem rns_back (l : List UInt8) (h : chkE l = 0) : ((rns l).map (·.1)).flatMap enc = l := by
  have h2 := ((chkE_ok l).1 h).2
  have := rn_back l.length 0 l
  rw [List.flatMap_map]
  unfold rns
  rw [this, show endF l.length 0 l - 0 = l.length by unfold endA at h2; omega, List.take_length]
/-- The runes of the bytes of runes are the runes. -/
theorem rn_fore (rs : List Nat) : (∀ r ∈ rs, isR (r : Int) = true) → ∀ (f k : Nat), (rs.flatMap enc).length ≤ f → (rnF f k (rs.flatMap enc)).map (·.1) = rs ∧ endF f k (rs.flatMap enc) = k + (rs.flatMap enc).length := by
  induction rs with
  | nil => intro _ f k _; cases f <;> simp [rnF, endF, dec_nil]
  | cons r rs ih =>
    intro hr f k hf
    have h1 := dec_enc r (hr r (by simp)) (rs.flatMap enc)
    have hl : 1 ≤ (enc r).length := by rw [enc_len]; split; (· decide); split; (· decide); split <;> decide
    rw [List.flatMap_cons] at hf ⊢
    rw [List.length_append] at hf
    obtain ⟨f', rfl⟩ : ∃ f', f = f' + 1 := ⟨f - 1, by omega⟩
    obtain ⟨i1, i2⟩ := ih (fun x hx => hr x (by simp [hx])) f' (k + (enc r).length) (by omega)
    have hd : (enc r ++ rs.flatMap enc).drop (enc r).length = rs.flatMap enc := by simp
    constructor
    · simp only [rnF, h1, if_true, hd, List.map_cons, i1]
    · simp only [endF, h1, if_true, hd, i2, List.length_append]; omega
end Go.Proofs.YtdbampgbbghfkaaDoor.Ru
