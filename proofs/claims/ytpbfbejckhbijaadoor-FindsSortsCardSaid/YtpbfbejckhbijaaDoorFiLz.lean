/- Several texts as one (a claim has at most 60 files): FiL, FiN, FiM, FiO. -/
import Derived.Test.YtpbfbejckhbijaaDoorFiJ
import Derived.Sort.WalkA
namespace Go.Proofs.YtpbfbejckhbijaaDoor

/-- A stretch in order. -/
def Asc {α : Type} (lt : α → α → Prop) (f : Nat → α) (a b : Nat) : Prop := ∀ i j, a ≤ i → i < j → j < b → lt (f i) (f j)
/-- Where two neighbouring stretches are in order, and their parts [s, m), [m, e) change places: all that then stands left is below all that stands right. -/
theorem sym_split {α : Type} {lt : α → α → Prop} (tr : ∀ x y z, lt x y → lt y z → lt x z) {f : Nat → α} {a m b s e : Nat} (h1 : Asc lt f a m) (h2 : Asc lt f m b) (hsm : s ≤ m) (he : m ≤ e)
    (hl : a < s → e < b → lt (f (s - 1)) (f e)) (hr : s < m → m < e → lt (f (e - 1)) (f s)) {x y : Nat} (hx : (a ≤ x ∧ x < s) ∨ (m ≤ x ∧ x < e)) (hy : (s ≤ y ∧ y < m) ∨ (e ≤ y ∧ y < b)) (hb : e ≤ b) (ha : a ≤ s) : lt (f x) (f y) := by
  have le1 : ∀ {i j}, a ≤ i → i ≤ j → j < m → ∀ z, lt (f j) z → lt (f i) z := fun {i j} g1 g2 g3 z hz => by
    rcases Nat.lt_or_eq_of_le g2 with g | rfl
    · exact tr _ _ _ (h1 i j g1 g g3) hz
    · exact hz
  have ge1 : ∀ {i j}, a ≤ i → i ≤ j → j < m → ∀ z, lt z (f i) → lt z (f j) := fun {i j} g1 g2 g3 z hz => by
    rcases Nat.lt_or_eq_of_le g2 with g | rfl
    · exact tr _ _ _ hz (h1 i j g1 g g3)
    · exact hz
  have le2 : ∀ {i j}, m ≤ i → i ≤ j → j < b → ∀ z, lt (f j) z → lt (f i) z := fun {i j} g1 g2 g3 z hz => by
    rcases Nat.lt_or_eq_of_le g2 with g | rfl
    · exact tr _ _ _ (h2 i j g1 g g3) hz
    · exact hz
  have ge2 : ∀ {i j}, m ≤ i → i ≤ j → j < b → ∀ z, lt z (f i) → lt z (f j) := fun {i j} g1 g2 g3 z hz => by
    rcases Nat.lt_or_eq_of_le g2 with g | rfl
    · exact tr _ _ _ hz (h2 i j g1 g g3)
    · exact hz
  rcases hx with ⟨x1, x2⟩ | ⟨x1, x2⟩ <;> rcases hy with ⟨y1, y2⟩ | ⟨y1, y2⟩
  · exact h1 x y x1 (by omega) y2
  · exact le1 x1 (show x ≤ s - 1 by omega) (by omega) _ (ge2 he y1 y2 _ (hl (by omega) (by omega)))
  · exact le2 x1 (show x ≤ e - 1 by omega) (by omega) _ (ge1 (by omega) y1 y2 _ (hr (by omega) (by omega)))
  · exact h2 x y x1 (by omega) y2
/-- The search's two ends, as Go's symMerge keeps them: below s the left one is the lower, from r on the right one is the lower. -/
structure Sym {α : Type} (lt : α → α → Prop) (f : Nat → α) (p s0 r0 s r : Nat) : Prop where
  lo : s0 ≤ s
  hi : r ≤ r0
  le : s ≤ r
  left : ∀ c, s0 ≤ c → c < s → lt (f c) (f (p - c))
  right : ∀ c, r ≤ c → c < r0 → lt (f (p - c)) (f c)
theorem Sym.start {α : Type} (lt : α → α → Prop) (f : Nat → α) (p : Nat) {s0 r0 : Nat} (h : s0 ≤ r0) : Sym lt f p s0 r0 s0 r0 :=
  ⟨Nat.le_refl _, Nat.le_refl _, h, fun _ h1 h2 => absurd h2 (by omega), fun _ h1 h2 => absurd h2 (by omega)⟩
/-- One round: the middle is looked at. -/
theorem Sym.step {α : Type} {lt : α → α → Prop} (tr : ∀ x y z, lt x y → lt y z → lt x z) {f : Nat → α} {p a m b s0 r0 s r c : Nat} (h : Sym lt f p s0 r0 s r) (h1 : Asc lt f a m) (h2 : Asc lt f m b)
    (ha : a ≤ s0) (hm : r0 ≤ m) (hp : ∀ c, s0 ≤ c → c < r0 → m ≤ p - c ∧ p - c < b ∧ c ≤ p) (hc1 : s ≤ c) (hc2 : c < r) :
    (lt (f (p - c)) (f c) → Sym lt f p s0 r0 s c) ∧ (lt (f c) (f (p - c)) → Sym lt f p s0 r0 (c + 1) r) := by
  obtain ⟨g1, g2, g3, g4, g5⟩ := h
  constructor
  · intro hq
    refine ⟨g1, by omega, hc1, g4, fun d d1 d2 => ?_⟩
    rcases Nat.lt_or_eq_of_le d1 with g | rfl
    · have e1 := h1 c d (by omega) g (by omega)
      obtain ⟨w1, w2, w3⟩ := hp d (by omega) d2
      obtain ⟨v1, v2, v3⟩ := hp c (by omega) (by omega)
      exact tr _ _ _ (tr _ _ _ (h2 (p - d) (p - c) w1 (by omega) v2) hq) e1
    · exact hq
  · intro hq
    refine ⟨by omega, g2, by omega, fun d d1 d2 => ?_, g5⟩
    rcases Nat.lt_or_eq_of_le (show d ≤ c by omega) with g | rfl
    · have e1 := h1 d c (by omega) g (by omega)
      obtain ⟨w1, w2, w3⟩ := hp d d1 (by omega)
      obtain ⟨v1, v2, v3⟩ := hp c (by omega) (by omega)
      exact tr _ _ _ (tr _ _ _ e1 hq) (h2 (p - c) (p - d) v1 (by omega) w2)
    · exact hq
/-- Where the search has ended: s is the place; e = n - s. -/
theorem Sym.split {α : Type} {lt : α → α → Prop} {f : Nat → α} {a m b mid s : Nat} (_ : a ≤ m) (_ : m ≤ b) (hmid : mid = (a + b) / 2)
    (h : Sym lt f (mid + m - 1) (if m > mid then mid + m - b else a) (if m > mid then mid else m) s s) :
    a ≤ s ∧ s ≤ m ∧ m ≤ mid + m - s ∧ mid + m - s ≤ b ∧ (a < s → mid + m - s < b → lt (f (s - 1)) (f (mid + m - s))) ∧ (s < m → m < mid + m - s → lt (f (mid + m - s - 1)) (f s)) := by
  obtain ⟨g1, g2, g3, g4, g5⟩ := h
  split at g1 <;> rename_i hc
  · rw [if_pos hc] at g2 g4 g5
    refine ⟨by omega, by omega, by omega, by omega, fun h1 h2 => ?_, fun h1 h2 => ?_⟩
    · have h3 := g4 (s - 1) (by omega) (by omega)
      rwa [show mid + m - 1 - (s - 1) = mid + m - s by omega] at h3
    · have h3 := g5 s (Nat.le_refl _) (by omega)
      rwa [show mid + m - 1 - s = mid + m - s - 1 by omega] at h3
  · rw [if_neg hc] at g2 g4 g5
    refine ⟨by omega, by omega, by omega, by omega, fun h1 h2 => ?_, fun h1 h2 => ?_⟩
    · have h3 := g4 (s - 1) (by omega) (by omega)
      rwa [show mid + m - 1 - (s - 1) = mid + m - s by omega] at h3
    · have h3 := g5 s (Nat.le_refl _) (by omega)
      rwa [show mid + m - 1 - s = mid + m - s - 1 by omega] at h3
/-- Two stretches of one length change places (Go's swapRange). -/
def swp {α : Type} (f : Nat → α) (p q n x : Nat) : α := if p ≤ x ∧ x < p + n then f (x - p + q) else if q ≤ x ∧ x < q + n then f (x - q + p) else f x
/-- Two neighbouring stretches change places (Go's rotate). -/
def rtt {α : Type} (f : Nat → α) (a m b x : Nat) : α := if a ≤ x ∧ x < a + (b - m) then f (x + (m - a)) else if a + (b - m) ≤ x ∧ x < b then f (x - (b - m)) else f x
theorem rtt_left {α : Type} (f : Nat → α) {a m b : Nat} (h1 : a ≤ m) (h2 : m ≤ b) (h : b - m < m - a) : rtt f a m b = rtt (swp f a m (b - m)) (a + (b - m)) m b := by
  funext x
  unfold rtt swp
  repeat' split
  all_goals first | (exfalso; omega) | rfl | (congr 1; omega)
theorem rtt_right {α : Type} (f : Nat → α) {a m b : Nat} (h1 : a ≤ m) (h2 : m ≤ b) (h : m - a < b - m) : rtt f a m b = rtt (swp f a (b - (m - a)) (m - a)) a m (b - (m - a)) := by
  funext x
  unfold rtt swp
  repeat' split
  all_goals first | (exfalso; omega) | rfl | (congr 1; omega)
theorem rtt_same {α : Type} (f : Nat → α) {a m b : Nat} (h1 : a ≤ m) (h2 : m ≤ b) (h : m - a = b - m) : rtt f a m b = swp f a m (m - a) := by
  funext x
  unfold rtt swp
  repeat' split
  all_goals first | (exfalso; omega) | rfl | (congr 1; omega)
theorem rtt_none {α : Type} (f : Nat → α) {a m b : Nat} (h : a = m ∨ m = b) (h1 : a ≤ m) (h2 : m ≤ b) : rtt f a m b = f := by
  funext x
  unfold rtt
  repeat' split
  all_goals first | (exfalso; omega) | rfl | (congr 1; omega)
/-- One swap more. -/
theorem swp_succ {α : Type} (f : Nat → α) {p q n : Nat} (h : p + n < q ∨ q + n < p) : swp f p q (n + 1) = swp (swp f p q n) (p + n) (q + n) 1 := by
  funext x
  unfold swp
  repeat' split
  all_goals first | (exfalso; omega) | rfl | (congr 1; omega)
/-- What is in order after the turn: the two halves by themselves. -/
theorem rtt_asc {α : Type} {lt : α → α → Prop} (tr : ∀ x y z, lt x y → lt y z → lt x z) {f : Nat → α} {a m b s e : Nat} (h1 : Asc lt f a m) (h2 : Asc lt f m b) (ha : a ≤ s) (hsm : s ≤ m) (he : m ≤ e) (hb : e ≤ b) :
    Asc lt (rtt f s m e) a s ∧ Asc lt (rtt f s m e) s (s + (e - m)) ∧ Asc lt (rtt f s m e) (s + (e - m)) e ∧ Asc lt (rtt f s m e) e b := by
  have _ := tr
  refine ⟨fun i j g1 g2 g3 => ?_, fun i j g1 g2 g3 => ?_, fun i j g1 g2 g3 => ?_, fun i j g1 g2 g3 => ?_⟩ <;> unfold rtt
  · rw [if_neg (by omega), if_neg (by omega), if_neg (by omega), if_neg (by omega)]; exact h1 i j g1 g2 (by omega)
  · rw [if_pos (by omega), if_pos (by omega)]; exact h2 _ _ (by omega) (by omega) (by omega)
  · rw [if_neg (by omega), if_pos (by omega), if_neg (by omega), if_pos (by omega)]; exact h1 _ _ (by omega) (by omega) (by omega)
  · rw [if_neg (by omega), if_neg (by omega), if_neg (by omega), if_neg (by omega)]; exact h2 i j (by omega) g2 g3
/-- All that stands left of the middle is below all that stands right, after the turn. -/
theorem rtt_below {α : Type} {lt : α → α → Prop} (tr : ∀ x y z, lt x y → lt y z → lt x z) {f : Nat → α} {a m b s e : Nat} (h1 : Asc lt f a m) (h2 : Asc lt f m b) (ha : a ≤ s) (hsm : s ≤ m) (he : m ≤ e) (hb : e ≤ b)
    (hl : a < s → e < b → lt (f (s - 1)) (f e)) (hr : s < m → m < e → lt (f (e - 1)) (f s)) {x y : Nat} (x1 : a ≤ x) (x2 : x < s + (e - m)) (y1 : s + (e - m) ≤ y) (y2 : y < b) : lt (rtt f s m e x) (rtt f s m e y) := by
  have key := fun {x y} hx hy => sym_split tr h1 h2 hsm he hl hr (x := x) (y := y) hx hy hb ha
  unfold rtt
  by_cases hx : x < s
  · rw [if_neg (by omega), if_neg (by omega)]
    by_cases hy : y < e
    · rw [if_neg (by omega), if_pos (by omega)]; exact key (.inl ⟨x1, hx⟩) (.inl (by omega))
    · rw [if_neg (by omega), if_neg (by omega)]; exact key (.inl ⟨x1, hx⟩) (.inr (by omega))
  · rw [if_pos (by omega)]
    by_cases hy : y < e
    · rw [if_neg (by omega), if_pos (by omega)]; exact key (.inr (by omega)) (.inl (by omega))
    · rw [if_neg (by omega), if_neg (by omega)]; exact key (.inr (by omega)) (.inr (by omega))
end Go.Proofs.YtpbfbejckhbijaaDoor
namespace Go.Proofs.YtpbfbejckhbijaaDoor
open Go.RowKit Go.Sort
/-- The order of places: by their cells, then by themselves. -/
def ltZ (z : List Int) {m : Nat} (x y : Fin m) : Prop := z.getD x.val 0 < z.getD y.val 0 ∨ (z.getD x.val 0 = z.getD y.val 0 ∧ x.val < y.val)
theorem ltZ_tr (z : List Int) {m : Nat} (x y w : Fin m) (h1 : ltZ z x y) (h2 : ltZ z y w) : ltZ z x w := by unfold ltZ at *; omega
theorem ltZ_irr (z : List Int) {m : Nat} (x : Fin m) : ¬ ltZ z x x := by unfold ltZ; omega
theorem ask_lt (z : List Int) {m : Nat} {x y : Fin m} (_ : x.val < y.val) (hc : cfF z y x < 0) : ltZ z y x := by unfold cfF cmZ at hc; unfold ltZ; split at hc <;> omega
theorem ask_ge (z : List Int) {m : Nat} {x y : Fin m} (h : x.val < y.val) (hc : ¬ cfF z y x < 0) : ltZ z x y := by unfold cfF cmZ at hc; unfold ltZ; split at hc <;> omega
/-- Two neighbouring stretches, each in order, the left one's places below the right one's. -/
structure Two (z : List Int) {m : Nat} (f : Nat → Fin m) (a k b : Nat) : Prop where
  l : Asc (ltZ z) f a k
  r : Asc (ltZ z) f k b
  p : ∀ i j, a ≤ i → i < k → k ≤ j → j < b → (f i).val < (f j).val
/-- What a merge of a stretch makes of a row. -/
structure Mrg (z : List Int) {m : Nat} (f g : Nat → Fin m) (a b : Nat) : Prop where
  asc : Asc (ltZ z) g a b
  out : ∀ x, x < a ∨ b ≤ x → g x = f x
  inn : ∀ x, a ≤ x → x < b → ∃ y, a ≤ y ∧ y < b ∧ g x = f y
theorem rtt_out {α : Type} (f : Nat → α) {a m b x : Nat} (h1 : a ≤ m) (h2 : m ≤ b) (h : x < a ∨ b ≤ x) : rtt f a m b x = f x := by
  unfold rtt
  rw [if_neg (by omega), if_neg (by omega)]
theorem rtt_inn {α : Type} (f : Nat → α) {a m b x : Nat} (h1 : a ≤ m) (h2 : m ≤ b) (h3 : a ≤ x) (h4 : x < b) : ∃ y, a ≤ y ∧ y < b ∧ rtt f a m b x = f y := by
  unfold rtt
  by_cases h : x < a + (b - m)
  · exact ⟨x + (m - a), by omega, by omega, by rw [if_pos (by omega)]⟩
  · exact ⟨x - (b - m), by omega, by omega, by rw [if_neg (by omega), if_pos (by omega)]⟩
theorem Asc.join {α : Type} {lt : α → α → Prop} {f : Nat → α} {a k b : Nat} (h1 : Asc lt f a k) (h2 : Asc lt f k b) (h : ∀ x y, a ≤ x → x < k → k ≤ y → y < b → lt (f x) (f y)) : Asc lt f a b := by
  intro i j g1 g2 g3
  by_cases c1 : j < k
  · exact h1 i j g1 g2 c1
  · by_cases c2 : i < k
    · exact h i j g1 c2 (by omega) g3
    · exact h2 i j (by omega) g2 g3
theorem Asc.part {α : Type} {lt : α → α → Prop} {f : Nat → α} {a b c d : Nat} (h : Asc lt f a b) (h1 : a ≤ c) (h2 : d ≤ b) : Asc lt f c d := fun i j g1 g2 g3 => h i j (by omega) g2 (by omega)
theorem Asc.same {α : Type} {lt : α → α → Prop} {f g : Nat → α} {a b : Nat} (h : Asc lt f a b) (hg : ∀ x, a ≤ x → x < b → g x = f x) : Asc lt g a b := fun i j g1 g2 g3 => by rw [hg i g1 (by omega), hg j (by omega) g3]; exact h i j g1 g2 g3
theorem mrg_rtt {z : List Int} {m : Nat} {f : Nat → Fin m} {a s k e b : Nat} (h : Two z f a k b) (h1 : a ≤ s) (h2 : s ≤ k) (h3 : k ≤ e) (h4 : e ≤ b) (hj : Asc (ltZ z) (rtt f s k e) a b) : Mrg z f (rtt f s k e) a b := by
  have _ := h
  refine ⟨hj, fun x hx => rtt_out f h2 h3 (by omega), fun x x1 x2 => ?_⟩
  by_cases c : s ≤ x ∧ x < e
  · obtain ⟨y, y1, y2, y3⟩ := rtt_inn f h2 h3 c.1 c.2
    exact ⟨y, by omega, by omega, y3⟩
  · exact ⟨x, x1, x2, rtt_out f h2 h3 (by omega)⟩
/-- The first stretch is one place alone: it is put before the first that is not below it. -/
theorem mrg_one {z : List Int} {m : Nat} {f : Nat → Fin m} {a b i : Nat} (h : Two z f a (a + 1) b) (h1 : a + 1 ≤ i) (h2 : i ≤ b) (hlo : ∀ t, a + 1 ≤ t → t < i → ltZ z (f t) (f a)) (hhi : ∀ t, i ≤ t → t < b → ltZ z (f a) (f t)) : Mrg z f (rtt f a (a + 1) i) a b := by
  refine mrg_rtt h (Nat.le_refl _) (by omega) h1 h2 ?_
  intro x y x1 x2 x3
  unfold rtt
  by_cases c1 : y < a + (i - (a + 1))
  · rw [if_pos (by omega), if_pos (by omega)]; exact h.r _ _ (by omega) (by omega) (by omega)
  · by_cases c2 : y < i
    · rw [if_pos (by omega), if_neg (by omega), if_pos (by omega), show y - (i - (a + 1)) = a by omega]; exact hlo _ (by omega) (by omega)
    · rw [if_neg (c := a ≤ y ∧ _) (by omega), if_neg (c := a + (i - (a + 1)) ≤ y ∧ _) (by omega)]
      by_cases c3 : x < a + (i - (a + 1))
      · rw [if_pos (by omega)]; exact h.r _ _ (by omega) (by omega) (by omega)
      · by_cases c4 : x < i
        · rw [if_neg (by omega), if_pos (by omega), show x - (i - (a + 1)) = a by omega]; exact hhi _ (by omega) (by omega)
        · rw [if_neg (by omega), if_neg (by omega)]; exact h.r _ _ (by omega) (by omega) (by omega)
/-- The second stretch is one place alone: it is put before the first that is above it. -/
theorem mrg_last {z : List Int} {m : Nat} {f : Nat → Fin m} {a k i : Nat} (h : Two z f a k (k + 1)) (h1 : a ≤ i) (h2 : i ≤ k) (hlo : ∀ t, a ≤ t → t < i → ltZ z (f t) (f k)) (hhi : ∀ t, i ≤ t → t < k → ltZ z (f k) (f t)) : Mrg z f (rtt f i k (k + 1)) a (k + 1) := by
  refine mrg_rtt h h1 h2 (by omega) (Nat.le_refl _) ?_
  intro x y x1 x2 x3
  unfold rtt
  by_cases c1 : y < i
  · rw [if_neg (by omega), if_neg (by omega), if_neg (by omega), if_neg (by omega)]; exact h.l _ _ x1 x2 (by omega)
  · by_cases c2 : y < i + (k + 1 - k)
    · rw [if_neg (c := i ≤ x ∧ _) (by omega), if_neg (c := i + (k + 1 - k) ≤ x ∧ _) (by omega), if_pos (by omega), show y + (k - i) = k by omega]; exact hlo _ x1 (by omega)
    · rw [if_neg (c := i ≤ y ∧ _) (by omega), if_pos (c := i + (k + 1 - k) ≤ y ∧ _) (by omega)]
      by_cases c3 : x < i
      · rw [if_neg (by omega), if_neg (by omega)]; exact h.l _ _ x1 (by omega) (by omega)
      · by_cases c4 : x < i + (k + 1 - k)
        · rw [if_pos (by omega), show x + (k - i) = k by omega]; exact hhi _ (by omega) (by omega)
        · rw [if_neg (by omega), if_pos (by omega)]; exact h.l _ _ (by omega) (by omega) (by omega)
/-- Nothing is to be merged. -/
theorem Two.skip {z : List Int} {m : Nat} {f : Nat → Fin m} {a k b : Nat} (h : Two z f a k b) (hk : k ≤ a ∨ b ≤ k) : Mrg z f f a b :=
  ⟨fun i j g1 g2 g3 => by
    rcases hk with c | c
    · exact h.r i j (by omega) g2 g3
    · exact h.l i j g1 g2 (by omega), fun _ _ => rfl, fun x x1 x2 => ⟨x, x1, x2, rfl⟩⟩
/-- The turn leaves two smaller merges, and all of the left one is below all of the right one. -/
theorem Two.turn {z : List Int} {n : Nat} {f : Nat → Fin n} {a m b s e mid : Nat} (h : Two z f a m b) (ha : a ≤ s) (hsm : s ≤ m) (he : m ≤ e) (hb : e ≤ b) (hmid : mid + m = s + e)
    (hl : a < s → e < b → ltZ z (f (s - 1)) (f e)) (hr : s < m → m < e → ltZ z (f (e - 1)) (f s)) :
    Two z (rtt f s m e) a s mid ∧ Two z (rtt f s m e) mid e b ∧ ∀ x y, a ≤ x → x < mid → mid ≤ y → y < b → ltZ z (rtt f s m e x) (rtt f s m e y) := by
  obtain ⟨q1, q2, q3, q4⟩ := rtt_asc (ltZ_tr z) h.l h.r ha hsm he hb
  have em : s + (e - m) = mid := by omega
  rw [em] at q2 q3
  refine ⟨⟨q1, q2, fun i j i1 i2 j1 j2 => ?_⟩, ⟨q3, q4, fun i j i1 i2 j1 j2 => ?_⟩, fun x y x1 x2 y1 y2 => rtt_below (ltZ_tr z) h.l h.r ha hsm he hb hl hr x1 (by omega) (by omega) y2⟩
  · unfold rtt
    rw [if_neg (by omega), if_neg (by omega), if_pos (by omega)]
    exact h.p _ _ i1 (by omega) (by omega) (by omega)
  · unfold rtt
    rw [if_neg (by omega), if_pos (by omega), if_neg (by omega), if_neg (by omega)]
    exact h.p _ _ (by omega) (by omega) (by omega) j2
theorem Two.keep {z : List Int} {m : Nat} {f g : Nat → Fin m} {a k b : Nat} (h : Two z f a k b) (hg : ∀ x, a ≤ x → x < b → g x = f x) (ha : a ≤ k) (hb : k ≤ b) : Two z g a k b :=
  ⟨h.l.same fun x x1 x2 => hg x x1 (by omega), h.r.same fun x x1 x2 => hg x (by omega) x2, fun i j i1 i2 j1 j2 => by rw [hg i i1 (by omega), hg j (by omega) j2]; exact h.p i j i1 i2 j1 j2⟩
/-- Both merges done. -/
theorem mrg_join {z : List Int} {n : Nat} {f g1 g2 : Nat → Fin n} {a m b s e mid : Nat} (ha : a ≤ s) (hsm : s ≤ m) (he : m ≤ e) (hb : e ≤ b) (hmid : mid + m = s + e)
    (hbl : ∀ x y, a ≤ x → x < mid → mid ≤ y → y < b → ltZ z (rtt f s m e x) (rtt f s m e y)) (h1 : Mrg z (rtt f s m e) g1 a mid) (h2 : Mrg z g1 g2 mid b) : Mrg z f g2 a b := by
  have key : ∀ x, a ≤ x → x < mid → ∃ y, a ≤ y ∧ y < mid ∧ g2 x = rtt f s m e y := fun x x1 x2 => by
    rw [h2.out x (by omega)]; exact h1.inn x x1 x2
  have key2 : ∀ x, mid ≤ x → x < b → ∃ y, mid ≤ y ∧ y < b ∧ g2 x = rtt f s m e y := fun x x1 x2 => by
    obtain ⟨y, y1, y2, y3⟩ := h2.inn x x1 x2
    exact ⟨y, y1, y2, by rw [y3]; exact h1.out y (by omega)⟩
  refine ⟨Asc.join (h1.asc.same fun x _ x2 => h2.out x (by omega)) h2.asc fun x y x1 x2 y1 y2 => ?_, fun x hx => ?_, fun x x1 x2 => ?_⟩
  · obtain ⟨u, u1, u2, u3⟩ := key x x1 x2
    obtain ⟨v, v1, v2, v3⟩ := key2 y y1 y2
    rw [u3, v3]
    exact hbl u v u1 u2 v1 v2
  · rw [h2.out x (by omega), h1.out x (by omega), rtt_out f hsm he (by omega)]
  · have : ∃ y, a ≤ y ∧ y < b ∧ g2 x = rtt f s m e y := by
      by_cases c : x < mid
      · obtain ⟨y, y1, y2, y3⟩ := key x x1 c; exact ⟨y, y1, by omega, y3⟩
      · obtain ⟨y, y1, y2, y3⟩ := key2 x (by omega) x2; exact ⟨y, by omega, y2, y3⟩
    obtain ⟨y, y1, y2, y3⟩ := this
    by_cases c : s ≤ y ∧ y < e
    · obtain ⟨u, u1, u2, u3⟩ := rtt_inn f hsm he c.1 c.2
      exact ⟨u, by omega, by omega, by rw [y3, u3]⟩
    · exact ⟨y, y1, y2, by rw [y3, rtt_out f hsm he (by omega)]⟩
/-- A turn by one more swap: the place at the left goes on to the right. -/
theorem rtt_swap_up {α : Type} (f : Nat → α) {a k : Nat} (h : a ≤ k) (x : Nat) : rtt f a (a + 1) (k + 2) x = if x = k + 1 then rtt f a (a + 1) (k + 1) k else if x = k then rtt f a (a + 1) (k + 1) (k + 1) else rtt f a (a + 1) (k + 1) x := by
  unfold rtt
  repeat' split
  all_goals first | (exfalso; omega) | rfl | (congr 1; omega)
/-- A turn by one more swap: the place at the right goes on to the left. -/
theorem rtt_swap_down {α : Type} (f : Nat → α) {m k : Nat} (h : k + 1 ≤ m) (x : Nat) : rtt f k m (m + 1) x = if x = k then rtt f (k + 1) m (m + 1) (k + 1) else if x = k + 1 then rtt f (k + 1) m (m + 1) k else rtt f (k + 1) m (m + 1) x := by
  unfold rtt
  repeat' split
  all_goals first | (exfalso; omega) | rfl | (congr 1; omega)
/-- A search for the first place that is not: below i all are, from j on none is. -/
structure Bin {m : Nat} (P Q : Fin m → Prop) (f : Nat → Fin m) (lo hi i j : Nat) : Prop where
  li : lo ≤ i
  ij : i ≤ j
  jh : j ≤ hi
  yes : ∀ t, lo ≤ t → t < i → P (f t)
  no : ∀ t, j ≤ t → t < hi → Q (f t)
theorem Bin.start {m : Nat} (P Q : Fin m → Prop) (f : Nat → Fin m) {lo hi : Nat} (h : lo ≤ hi) : Bin P Q f lo hi lo hi := ⟨Nat.le_refl _, h, Nat.le_refl _, fun _ h1 h2 => absurd h2 (by omega), fun _ h1 h2 => absurd h2 (by omega)⟩
theorem Bin.up {m : Nat} {P Q : Fin m → Prop} {f : Nat → Fin m} {lo hi i j c : Nat} (h : Bin P Q f lo hi i j) (hP : ∀ t, lo ≤ t → t < c → P (f c) → P (f t)) (h1 : i ≤ c) (h2 : c < j) (hc : P (f c)) : Bin P Q f lo hi (c + 1) j :=
  ⟨by have := h.li; omega, by omega, h.jh, fun t t1 t2 => by
    by_cases e : t = c
    · rw [e]; exact hc
    · exact hP t t1 (by omega) hc, h.no⟩
theorem Bin.down {m : Nat} {P Q : Fin m → Prop} {f : Nat → Fin m} {lo hi i j c : Nat} (h : Bin P Q f lo hi i j) (hQ : ∀ t, c < t → t < hi → Q (f c) → Q (f t)) (h1 : i ≤ c) (h2 : c < j) (hc : Q (f c)) : Bin P Q f lo hi i c :=
  ⟨h.li, h1, by have := h.jh; omega, h.yes, fun t t1 t2 => by
    by_cases e : t = c
    · rw [e]; exact hc
    · exact hQ t (by omega) t2 hc⟩
/-- A stretch in order that holds its own places. -/
def Bl (z : List Int) {m : Nat} (f : Nat → Fin m) (a b : Nat) : Prop := Asc (ltZ z) f a b ∧ ∀ x, a ≤ x → x < b → a ≤ (f x).val ∧ (f x).val < b
theorem Bl.none (z : List Int) {m : Nat} (f : Nat → Fin m) {a b : Nat} (h : b ≤ a) : Bl z f a b := ⟨fun i j h1 h2 h3 => by omega, fun x h1 h2 => by omega⟩
theorem Bl.keep {z : List Int} {m : Nat} {f g : Nat → Fin m} {a b : Nat} (h : Bl z f a b) (hg : ∀ x, a ≤ x → x < b → g x = f x) : Bl z g a b := ⟨h.1.same hg, fun x x1 x2 => by rw [hg x x1 x2]; exact h.2 x x1 x2⟩
theorem Bl.two {z : List Int} {m : Nat} {f : Nat → Fin m} {a k b : Nat} (h1 : Bl z f a k) (h2 : Bl z f k b) : Two z f a k b := ⟨h1.1, h2.1, fun i j i1 i2 j1 j2 => by have := (h1.2 i i1 i2).2; have := (h2.2 j j1 j2).1; omega⟩
theorem Bl.mrg {z : List Int} {m : Nat} {f g : Nat → Fin m} {a k b : Nat} (h1 : Bl z f a k) (h2 : Bl z f k b) (hk : a ≤ k) (hk2 : k ≤ b) (h : Mrg z f g a b) : Bl z g a b := ⟨h.asc, fun x x1 x2 => by
  obtain ⟨y, y1, y2, y3⟩ := h.inn x x1 x2
  rw [y3]
  by_cases c : y < k
  · have := h1.2 y y1 c; omega
  · have := h2.2 y (by omega) y2; omega⟩
/-- All stretches of a size are in order. -/
def Bls (z : List Int) {m : Nat} (f : Nat → Fin m) (bs n : Nat) : Prop := ∀ j, Bl z f (min (j * bs) n) (min ((j + 1) * bs) n)
/-- Of stretches of twice the size, so many are done; the others are as they were. -/
structure Half (z : List Int) {m : Nat} (f : Nat → Fin m) (bs n k : Nat) : Prop where
  le : k * (2 * bs) ≤ n
  done : ∀ j, j < k → Bl z f (j * (2 * bs)) ((j + 1) * (2 * bs))
  rest : ∀ j, 2 * k ≤ j → Bl z f (min (j * bs) n) (min ((j + 1) * bs) n)
theorem Half.start {z : List Int} {m : Nat} {f : Nat → Fin m} {bs n : Nat} (h : Bls z f bs n) : Half z f bs n 0 := ⟨by omega, fun j hj => by omega, fun j _ => h j⟩
theorem half_eqs (bs k : Nat) : 2 * k * bs = k * (2 * bs) ∧ (2 * k + 1) * bs = k * (2 * bs) + bs ∧ (2 * k + 1 + 1) * bs = k * (2 * bs) + 2 * bs ∧ (k + 1) * (2 * bs) = k * (2 * bs) + 2 * bs := by
  have e : 2 * k * bs = k * (2 * bs) := by rw [Nat.mul_comm 2 k, Nat.mul_assoc]
  refine ⟨e, ?_, ?_, ?_⟩
  · rw [Nat.succ_mul, e]
  · rw [Nat.succ_mul, Nat.succ_mul, e]; omega
  · rw [Nat.succ_mul]
theorem Half.two {z : List Int} {m : Nat} {f : Nat → Fin m} {bs n k : Nat} (h : Half z f bs n k) (hb : k * (2 * bs) + bs ≤ n) : Bl z f (k * (2 * bs)) (k * (2 * bs) + bs) ∧ Bl z f (k * (2 * bs) + bs) (min (k * (2 * bs) + 2 * bs) n) := by
  obtain ⟨e1, e2, e3, _⟩ := half_eqs bs k
  have h1 := h.rest (2 * k) (Nat.le_refl _)
  have h2 := h.rest (2 * k + 1) (by omega)
  rw [e1, e2, Nat.min_eq_left (by omega), Nat.min_eq_left hb] at h1
  rw [e2, e3, Nat.min_eq_left hb] at h2
  exact ⟨h1, h2⟩
theorem Half.next {z : List Int} {m : Nat} {f g : Nat → Fin m} {bs n k : Nat} (h : Half z f bs n k) (hb : k * (2 * bs) + 2 * bs ≤ n) (hm : Mrg z f g (k * (2 * bs)) (k * (2 * bs) + 2 * bs)) : Half z g bs n (k + 1) := by
  obtain ⟨e1, e2, e3, e4⟩ := half_eqs bs k
  obtain ⟨b1, b2⟩ := h.two (by omega)
  rw [Nat.min_eq_left hb] at b2
  refine ⟨by rw [e4]; exact hb, fun j hj => ?_, fun j hj => ?_⟩
  · by_cases c : j = k
    · subst c; rw [e4]; exact b1.mrg b2 (by omega) (by omega) hm
    · have hle := Nat.mul_le_mul_right (2 * bs) (show j + 1 ≤ k by omega)
      exact (h.done j (by omega)).keep fun x x1 x2 => hm.out x (.inl (by omega))
  · have hle := Nat.mul_le_mul_right bs (show 2 * k + 1 + 1 ≤ j by omega)
    exact (h.rest j (by omega)).keep fun x x1 x2 => hm.out x (.inr (by omega))
theorem Half.last {z : List Int} {m : Nat} {f g : Nat → Fin m} {bs n k : Nat} (h : Half z f bs n k) (hb : n < k * (2 * bs) + 2 * bs) (hg : Bl z g (k * (2 * bs)) n) (ho : ∀ x, x < k * (2 * bs) → g x = f x) : Bls z g (2 * bs) n := by
  obtain ⟨e1, e2, e3, e4⟩ := half_eqs bs k
  intro j
  rcases Nat.lt_trichotomy j k with c | c | c
  · have hle := Nat.mul_le_mul_right (2 * bs) (show j + 1 ≤ k by omega)
    have hle2 := Nat.mul_le_mul_right (2 * bs) (show j ≤ j + 1 by omega)
    have := h.le
    rw [Nat.min_eq_left (by omega), Nat.min_eq_left (by omega)]
    exact (h.done j c).keep fun x x1 x2 => ho x (by omega)
  · subst c
    rw [e4, Nat.min_eq_left h.le, Nat.min_eq_right (by omega)]
    exact hg
  · have hle := Nat.mul_le_mul_right (2 * bs) (show k + 1 ≤ j by omega)
    have hle2 := Nat.mul_le_mul_right (2 * bs) (show j ≤ j + 1 by omega)
    rw [Nat.min_eq_right (by omega), Nat.min_eq_right (by omega)]
    exact Bl.none z g (Nat.le_refl _)
theorem Half.end1 {z : List Int} {m : Nat} {f : Nat → Fin m} {bs n k : Nat} (h : Half z f bs n k) (hb : n ≤ k * (2 * bs) + bs) (hbs : 0 < bs) : Bls z f (2 * bs) n := by
  obtain ⟨e1, e2, e3, e4⟩ := half_eqs bs k
  have h1 := h.rest (2 * k) (Nat.le_refl _)
  rw [e1, e2, Nat.min_eq_left h.le, Nat.min_eq_right hb] at h1
  exact h.last (by omega) h1 fun _ _ => rfl
theorem Half.end2 {z : List Int} {m : Nat} {f g : Nat → Fin m} {bs n k : Nat} (h : Half z f bs n k) (hb : n < k * (2 * bs) + 2 * bs) (hb2 : k * (2 * bs) + bs < n) (hm : Mrg z f g (k * (2 * bs)) n) : Bls z g (2 * bs) n := by
  obtain ⟨b1, b2⟩ := h.two (by omega)
  rw [Nat.min_eq_right (by omega)] at b2
  exact h.last hb (b1.mrg b2 (by omega) (by omega) hm) fun x hx => hm.out x (.inl hx)
end Go.Proofs.YtpbfbejckhbijaaDoor
namespace Go.Proofs.YtpbfbejckhbijaaDoor
open Go.RowKit Go.Sort

/-- So many swaps, one after another. -/
def swN {α : Type} [Inhabited α] (d : Array α) (a b : Nat) : Nat → Array α
  | 0 => d
  | k + 1 => Sort.swp (swN d a b k) (a + k) (b + k)
theorem swN_size {α : Type} [Inhabited α] (d : Array α) (a b : Nat) : ∀ k, (swN d a b k).size = d.size
  | 0 => rfl
  | k + 1 => by unfold swN; rw [size_swp, swN_size d a b k]
set_option maxRecDepth 100000 in
set_option maxHeartbeats 4000000 in
theorem swapRange_any {N : Nat} (d : Array (Fin (N + 1))) (blk a b k : Nat) (c : Value) (w : World) (hH : Holds encF w blk 0 d) (hab : a + k ≤ b ∨ b + k ≤ a) (ha : a + k ≤ d.size) (hb : b + k ≤ d.size) (hs : d.size ≤ 100000) :
    Calls Tryd.prog 61 #[.slice (some ⟨blk, 0, none⟩) d.size d.size, .int .i64 a, .int .i64 b, .int .i64 k, c] w fun e w' => e = .returned (.tuple #[]) ∧ ∃ m, w' = putRow encF (Sort.ahead w m) blk 0 (swN d a b k) := by
  go_enter Tryd.func61, Tryd.ntmps61
  go_wp2
  go_loopw [10] (fun vi wr => ∃ (i m : Nat), vi = .int .i64 i ∧ i ≤ k ∧ wr = putRow encF (Sort.ahead w m) blk 0 (swN d a b i)) (fun vi _ => k - (intOf vi).toNat)
  case atStart => exact ⟨0, 0, rfl, Nat.zero_le _, by show w = putRow encF w blk 0 d; exact (putRow_self _ _ _ _ _ hH).symm⟩
  case round =>
    obtain ⟨i, m, rfl, hik, hw2⟩ := hrel
    by_cases hlt : i < k
    · obtain ⟨dj, hdj⟩ : ∃ dj, swN d a b i = dj := ⟨_, rfl⟩
      have hsj : dj.size = d.size := by rw [← hdj]; exact swN_size _ _ _ _
      have hnx : swN d a b (i + 1) = Sort.swp dj (a + i) (b + i) := by rw [← hdj]; rfl
      rw [hdj] at hw2
      obtain ⟨p, hp⟩ : ∃ p, a + i = p := ⟨_, rfl⟩
      obtain ⟨q, hq⟩ : ∃ q, b + i = q := ⟨_, rfl⟩
      rw [hp, hq] at hnx
      have hpd : p < d.size := by omega
      have hqd : q < d.size := by omega
      have hpq : p ≠ q := by omega
      have hcp : wr.cell? ⟨blk, p, none⟩ = some (.int .i64 (dj[p]!.val : Int)) := by
        have h := cell?_putRow encF (Sort.ahead w m) blk 0 d dj (holds_ahead _ _ _ _ _ _ hH) hsj p (by omega)
        rw [hw2]; rw [Nat.zero_add] at h; exact h
      have hcq : wr.cell? ⟨blk, q, none⟩ = some (.int .i64 (dj[q]!.val : Int)) := by
        have h := cell?_putRow encF (Sort.ahead w m) blk 0 d dj (holds_ahead _ _ _ _ _ _ hH) hsj q (by omega)
        rw [hw2]; rw [Nat.zero_add] at h; exact h
      have hfp : wr.frozen? ⟨blk, p, none⟩ = false := by
        have h := (holds_ahead encF w m blk 0 d hH p hpd).2
        rw [Nat.zero_add] at h
        rw [hw2, frozen?_putRow]; exact h
      have hfq : wr.frozen? ⟨blk, q, none⟩ = false := by
        have h := (holds_ahead encF w m blk 0 d hH q hqd).2
        rw [Nat.zero_add] at h
        rw [hw2, frozen?_putRow]; exact h
      have HE : Hid (∀ n, ((wr.drewN n).setCell ⟨blk, p, none⟩ (.int .i64 (dj[q]!.val : Int))).setCell ⟨blk, q, none⟩ (.int .i64 (dj[p]!.val : Int)) = putRow encF (Sort.ahead w (m + n)) blk 0 (swN d a b (i + 1))) := fun n => by
        have h := swap_worldA (enc := encF) w m n blk 0 dj p q (by omega) (by omega)
        rw [hnx, hw2]
        rw [Nat.zero_add, Nat.zero_add] at h
        exact h
      have k1 : IntKind.i64.wrap ((a : Int) + (i : Int)) = (p : Int) := by rw [IntKind.wrap_i64]; omega
      have k2 : IntKind.i64.wrap ((b : Int) + (i : Int)) = (q : Int) := by rw [IntKind.wrap_i64]; omega
      have k3 : IntKind.i64.wrap ((i : Int) + 1) = (i : Int) + 1 := by rw [IntKind.wrap_i64]; omega
      have k4 : (i : Int) < (k : Int) := by omega
      have k5 : (a : Int) + (i : Int) = (p : Int) := by omega
      have k6 : (b : Int) + (i : Int) = (q : Int) := by omega
      have hpz : (p : Int) < (d.size : Int) := by omega
      have hqz : (q : Int) < (d.size : Int) := by omega
      clear hw2 hnx hdj hH
      generalize (dj[p]!.val : Int) = x at hcp HE
      generalize (dj[q]!.val : Int) = y at hcq HE
      go_wp2
      go_region
      all_goals go_wp2
      go_roundw
      case rel => exact ⟨i + 1, _, by go_num, by omega, HE.out _⟩
      case measure => simp [intOf]; omega
    · have hie : i = k := by omega
      have k4 : ¬ ((i : Int) < (k : Int)) := by omega
      have HE : Hid (wr = putRow encF (Sort.ahead w m) blk 0 (swN d a b k)) := by rw [← hie]; exact hw2
      clear hw2 hH
      go_wp2
      go_end0
      exact ⟨rfl, m, HE.out⟩
theorem swN_get {α : Type} [Inhabited α] (d : Array α) {a b : Nat} : ∀ k, (a + k ≤ b ∨ b + k ≤ a) → a + k ≤ d.size → b + k ≤ d.size → (fun t => (swN d a b k)[t]!) = _root_.Go.Proofs.YtpbfbejckhbijaaDoor.swp (fun t => d[t]!) a b k
  | 0, _, _, _ => by
    funext x
    unfold _root_.Go.Proofs.YtpbfbejckhbijaaDoor.swp swN
    rw [if_neg (by omega), if_neg (by omega)]
  | k + 1, h, ha, hb => by
    have ih := swN_get d (a := a) (b := b) k (by omega) (by omega) (by omega)
    rw [_root_.Go.Proofs.YtpbfbejckhbijaaDoor.swp_succ _ (by omega), ← ih]
    funext x
    show (Sort.swp (swN d a b k) (a + k) (b + k))[x]! = _
    rw [swp_get _ (by rw [swN_size]; omega) (by rw [swN_size]; omega)]
    generalize swN d a b k = e
    unfold _root_.Go.Proofs.YtpbfbejckhbijaaDoor.swp
    by_cases h2 : x = b + k
    · subst h2; rw [if_pos rfl, if_neg (by omega), if_pos (by omega)]; simp
    · rw [if_neg h2]
      by_cases h1 : x = a + k
      · subst h1; rw [if_pos rfl, if_pos (by omega)]; simp
      · rw [if_neg h1, if_neg (by omega), if_neg (by omega)]
set_option maxRecDepth 100000 in
set_option maxHeartbeats 4000000 in
theorem rotate_any {N : Nat} (d : Array (Fin (N + 1))) (blk a m b : Nat) (c : Value) (w : World) (hH : Holds encF w blk 0 d) (ham : a < m) (hmb : m < b) (hb : b ≤ d.size) (hs : d.size ≤ 100000) :
    Calls Tryd.prog 54 #[.slice (some ⟨blk, 0, none⟩) d.size d.size, .int .i64 a, .int .i64 m, .int .i64 b, c] w fun e w' => e = .returned (.tuple #[]) ∧ ∃ n dk, dk.size = d.size ∧ (fun t => dk[t]!) = rtt (fun t => d[t]!) a m b ∧ w' = putRow encF (Sort.ahead w n) blk 0 dk := by
  obtain ⟨G, hG⟩ : ∃ G, rtt (fun t => d[t]!) a m b = G := ⟨_, rfl⟩
  rw [hG]
  have k1 : IntKind.i64.wrap ((m : Int) - (a : Int)) = ((m - a : Nat) : Int) := by rw [IntKind.wrap_i64]; omega
  have k2 : IntKind.i64.wrap ((b : Int) - (m : Int)) = ((b - m : Nat) : Int) := by rw [IntKind.wrap_i64]; omega
  go_enter Tryd.func54, Tryd.ntmps54
  go_wp2
  go_loopw [10, 11] (fun vi vj wr => ∃ (x y n : Nat) (dk : Array (Fin (N + 1))), vi = .int .i64 x ∧ vj = .int .i64 y ∧ 0 < x ∧ 0 < y ∧ x ≤ m ∧ m + y ≤ d.size ∧ dk.size = d.size ∧ wr = putRow encF (Sort.ahead w n) blk 0 dk ∧ rtt (fun t => dk[t]!) (m - x) m (m + y) = G) (fun vi vj _ => (intOf vi).toNat + (intOf vj).toNat)
  case atStart => exact ⟨m - a, b - m, 0, d, by go_num, by go_num, by omega, by omega, by omega, by omega, rfl, (putRow_self _ _ _ _ _ hH).symm, by rw [show m - (m - a) = a by omega, show m + (b - m) = b by omega]; exact hG⟩
  case round =>
    obtain ⟨x, y, n, dk, rfl, rfl, hx, hy, hxm, hyd, hsk, hw2, hR⟩ := hrel
    have hHk : Holds encF wr blk 0 dk := by rw [hw2]; exact holds_putRow encF _ blk 0 d dk (holds_ahead _ _ _ _ _ _ hH) hsk
    have HS := fun (p q k : Nat) (h1 : p + k ≤ q ∨ q + k ≤ p) (h2 : p + k ≤ d.size) (h3 : q + k ≤ d.size) => swapRange_any dk blk p q k c wr hHk h1 (by omega) (by omega) (by omega)
    have HP : Hid (∀ k dk2, dk2.size = d.size → putRow encF (Sort.ahead wr k) blk 0 dk2 = putRow encF (Sort.ahead w (n + k)) blk 0 dk2) := fun k dk2 h2 => by
      rw [hw2]; exact putRow_ahead_putRow encF w n k blk 0 dk dk2 (by omega)
    rw [hsk] at HS
    have HR := Lib.hid hR
    have HK := Lib.hid hsk
    clear hw2 hR hHk hH k1 k2 hG hsk
    have k3 : IntKind.i64.wrap ((m : Int) - (x : Int)) = ((m - x : Nat) : Int) := by rw [IntKind.wrap_i64]; omega
    by_cases hxy : x = y
    · subst hxy
      have HC := Lib.hid (HS (m - x) m x (by omega) (by omega) (by omega))
      have HG : Hid ((fun t => (swN dk (m - x) m x)[t]!) = G) := by
        have h := HR.out
        rw [rtt_same _ (by omega) (by omega) (by omega), show m - (m - x) = x by omega] at h
        unfold Hid
        rw [swN_get dk x (by omega) (by rw [HK.out]; omega) (by rw [HK.out]; omega)]; exact h
      clear HS HR
      go_wp2_with (go_at_call 61; refine HC.out.mono ?_; rintro e w1 ⟨rfl, k, rfl⟩)
      go_end0
      exact ⟨rfl, n + k, swN dk (m - x) m x, by rw [swN_size]; exact HK.out, HG.out, HP.out k _ (by rw [swN_size]; exact HK.out)⟩
    · have k0 : ((x : Int) != (y : Int)) = true := by rw [bne_iff_ne]; omega
      by_cases hlt : y < x
      · have HC := Lib.hid (HS (m - x) m y (by omega) (by omega) (by omega))
        have HG : Hid (rtt (fun t => (swN dk (m - x) m y)[t]!) (m - (x - y)) m (m + y) = G) := by
          have h := HR.out
          rw [rtt_left _ (by omega) (by omega) (by omega), show m + y - m = y by omega, show m - x + y = m - (x - y) by omega] at h
          unfold Hid
          rw [swN_get dk y (by omega) (by rw [HK.out]; omega) (by rw [HK.out]; omega)]; exact h
        have k4 : (y : Int) < (x : Int) := by omega
        have k5 : IntKind.i64.wrap ((x : Int) - (y : Int)) = ((x - y : Nat) : Int) := by rw [IntKind.wrap_i64]; omega
        clear HS HR
        go_wp2_with (go_at_call 61; refine HC.out.mono ?_; rintro e w1 ⟨rfl, k, rfl⟩)
        go_roundw
        case rel => exact ⟨x - y, y, n + k, swN dk (m - x) m y, by go_num, rfl, by omega, hy, by omega, hyd, by rw [swN_size]; exact HK.out, HP.out k _ (by rw [swN_size]; exact HK.out), HG.out⟩
        case measure => simp [intOf]; omega
      · have HC := Lib.hid (HS (m - x) (m + y - x) x (by omega) (by omega) (by omega))
        have HG : Hid (rtt (fun t => (swN dk (m - x) (m + y - x) x)[t]!) (m - x) m (m + (y - x)) = G) := by
          have h := HR.out
          rw [rtt_right _ (by omega) (by omega) (by omega), show m - (m - x) = x by omega, show m + y - x = m + (y - x) by omega] at h
          unfold Hid
          rw [show m + y - x = m + (y - x) by omega, swN_get dk x (by omega) (by rw [HK.out]; omega) (by rw [HK.out]; omega)]; exact h
        have k4 : ¬ ((y : Int) < (x : Int)) := by omega
        have k5 : IntKind.i64.wrap ((y : Int) - (x : Int)) = ((y - x : Nat) : Int) := by rw [IntKind.wrap_i64]; omega
        have k6 : IntKind.i64.wrap ((m : Int) + (y : Int)) = (m : Int) + (y : Int) := by rw [IntKind.wrap_i64]; omega
        have k7 : IntKind.i64.wrap ((m : Int) + (y : Int) - (x : Int)) = ((m + y - x : Nat) : Int) := by rw [IntKind.wrap_i64]; omega
        clear HS HR
        go_wp2_with (go_at_call 61; refine HC.out.mono ?_; rintro e w1 ⟨rfl, k, rfl⟩)
        go_roundw
        case rel => exact ⟨x, y - x, n + k, swN dk (m - x) (m + y - x) x, rfl, by go_num, hx, by omega, hxm, by omega, by rw [swN_size]; exact HK.out, HP.out k _ (by rw [swN_size]; exact HK.out), HG.out⟩
        case measure => simp [intOf]; omega
end Go.Proofs.YtpbfbejckhbijaaDoor
namespace Go.Proofs.YtpbfbejckhbijaaDoor
open Go.RowKit Go.Sort
/-! The insertion sort keeps places of equal cells in order. -/
theorem insInner_asc (z : List Int) {N : Nat} (a i : Nat) : ∀ (j : Nat) (d : Array (Fin (N + 1))), a ≤ j → j ≤ i → i < d.size →
    (∀ s t, a ≤ s → s < t → t ≤ i → s ≠ j → t ≠ j → ltZ z d[s]! d[t]!) → (∀ t, j < t → t ≤ i → ltZ z d[j]! d[t]!) → (∀ t, a ≤ t → t < j → (d[t]!).val < (d[j]!).val) →
    Asc (ltZ z) (fun t => (insInner (ltOf (cfF z)) a j d)[t]!) a (i + 1) ∧ (∀ t, t < a ∨ i < t → (insInner (ltOf (cfF z)) a j d)[t]! = d[t]!) ∧ (∀ t, a ≤ t → t ≤ i → ∃ s, a ≤ s ∧ s ≤ i ∧ (insInner (ltOf (cfF z)) a j d)[t]! = d[s]!) := by
  intro j
  induction j with
  | zero =>
    intro d h1 h2 h3 H1 H2 H3
    rw [insInner_stop _ _ _ _ (.inl (Nat.zero_le a))]
    refine ⟨fun s t q1 q2 q3 => ?_, fun _ _ => rfl, fun t t1 t2 => ⟨t, t1, t2, rfl⟩⟩
    by_cases c : s = 0
    · subst c; exact H2 t q2 (by omega)
    · exact H1 s t q1 q2 (by omega) c (by omega)
  | succ j ih =>
    intro d h1 h2 h3 H1 H2 H3
    by_cases ha : a < j + 1
    · by_cases hl : ltOf (cfF z) d[j + 1]! d[j]! = true
      · rw [insInner_go _ _ _ _ ha hl]
        simp only [Nat.add_sub_cancel]
        have hg := fun k => swp_get d (i := j + 1) (j := j) (by omega) (by omega) k
        have hlt : ltZ z d[j + 1]! d[j]! := ask_lt z (H3 j (by omega) (by omega)) (by unfold ltOf at hl; simpa using hl)
        have h := ih (Sort.swp d (j + 1) j) (by omega) (by omega) (by rw [size_swp]; exact h3) (fun s t q1 q2 q3 q4 q5 => ?_) (fun t q1 q2 => ?_) (fun t q1 q2 => ?_)
        · refine ⟨h.1, fun t ht => ?_, fun t t1 t2 => ?_⟩
          · rw [h.2.1 t ht, hg, if_neg (by omega), if_neg (by omega)]
          · obtain ⟨s, s1, s2, s3⟩ := h.2.2 t t1 t2
            rw [s3, hg]
            by_cases e1 : s = j
            · rw [if_pos e1]; exact ⟨j + 1, by omega, by omega, rfl⟩
            · rw [if_neg e1]
              by_cases e2 : s = j + 1
              · rw [if_pos e2]; exact ⟨j, by omega, by omega, rfl⟩
              · rw [if_neg e2]; exact ⟨s, s1, s2, rfl⟩
        · rw [hg, hg, if_neg q4, if_neg q5]
          by_cases e1 : s = j + 1
          · rw [if_pos e1, if_neg (by omega)]; exact H1 j t (by omega) (by omega) q3 (by omega) (by omega)
          · rw [if_neg e1]
            by_cases e2 : t = j + 1
            · rw [if_pos e2]; exact H1 s j q1 (by omega) (by omega) (by omega) (by omega)
            · rw [if_neg e2]; exact H1 s t q1 q2 q3 e1 e2
        · rw [hg, hg, if_pos rfl, if_neg (by omega)]
          by_cases e : t = j + 1
          · rw [if_pos e]; exact hlt
          · rw [if_neg e]; exact H2 t (by omega) q2
        · rw [hg, hg, if_pos rfl, if_neg (by omega), if_neg (by omega)]; exact H3 t q1 (by omega)
      · have hl' : ltOf (cfF z) d[j + 1]! d[j]! = false := by simpa using hl
        rw [insInner_stop _ _ _ _ (.inr (by simpa using hl'))]
        have hge : ltZ z d[j]! d[j + 1]! := ask_ge z (H3 j (by omega) (by omega)) (by unfold ltOf at hl; simpa using hl)
        refine ⟨fun s t q1 q2 q3 => ?_, fun _ _ => rfl, fun t t1 t2 => ⟨t, t1, t2, rfl⟩⟩
        by_cases e1 : s = j + 1
        · subst e1; exact H2 t q2 (by omega)
        · by_cases e2 : t = j + 1
          · subst e2
            by_cases e3 : s = j
            · subst e3; exact hge
            · exact ltZ_tr z _ _ _ (H1 s j q1 (by omega) (by omega) (by omega) (by omega)) hge
          · exact H1 s t q1 q2 (by omega) e1 e2
    · rw [insInner_stop _ _ _ _ (.inl (by omega))]
      refine ⟨fun s t q1 q2 q3 => ?_, fun _ _ => rfl, fun t t1 t2 => ⟨t, t1, t2, rfl⟩⟩
      by_cases e1 : s = j + 1
      · subst e1; exact H2 t q2 (by omega)
      · exact H1 s t q1 q2 (by omega) e1 (by omega)
theorem insOuter_bl (z : List Int) {N : Nat} (a b : Nat) : ∀ (k i : Nat) (d : Array (Fin (N + 1))), b - i = k → a < i → i ≤ b → b ≤ d.size → Bl z (fun t => d[t]!) a i → (∀ t, i ≤ t → t < b → (d[t]!).val = t) →
    Bl z (fun t => (insOuter (ltOf (cfF z)) a b i d)[t]!) a b ∧ ∀ t, t < a ∨ b ≤ t → (insOuter (ltOf (cfF z)) a b i d)[t]! = d[t]! := by
  intro k
  induction k with
  | zero =>
    intro i d h1 h2 h3 h4 hb hr
    rw [insOuter_stop _ _ _ _ _ (by omega)]
    have : i = b := by omega
    subst this
    exact ⟨hb, fun _ _ => rfl⟩
  | succ k ih =>
    intro i d h1 h2 h3 h4 hb hr
    rw [insOuter_go _ _ _ _ _ (by omega)]
    have hi := insInner_asc z a i i d (by omega) (Nat.le_refl _) (by omega) (fun s t q1 q2 q3 q4 q5 => hb.1 s t q1 q2 (by omega)) (fun t q1 q2 => by omega) (fun t q1 q2 => by have := (hb.2 t q1 q2).2; rw [hr i (Nat.le_refl _) (by omega)]; exact this)
    have h := ih (i + 1) (insInner (ltOf (cfF z)) a i d) (by omega) (by omega) (by omega) (by rw [insInner_size]; exact h4) ⟨hi.1, fun t t1 t2 => ?_⟩ (fun t t1 t2 => by rw [hi.2.1 t (.inr (by omega))]; exact hr t (by omega) t2)
    · exact ⟨h.1, fun t ht => by rw [h.2 t ht, hi.2.1 t (by omega)]⟩
    · obtain ⟨s, s1, s2, s3⟩ := hi.2.2 t t1 (by omega)
      show a ≤ ((insInner (ltOf (cfF z)) a i d)[t]!).val ∧ ((insInner (ltOf (cfF z)) a i d)[t]!).val < i + 1
      rw [s3]
      by_cases e : s = i
      · subst e; rw [hr s (Nat.le_refl _) (by omega)]; omega
      · have h9 : a ≤ (d[s]!).val ∧ (d[s]!).val < i := hb.2 s s1 (by omega)
        omega
theorem insSort_bl (z : List Int) {N : Nat} {a b : Nat} (d : Array (Fin (N + 1))) (h1 : a ≤ b) (h2 : b ≤ d.size) (hr : ∀ t, a ≤ t → t < b → (d[t]!).val = t) :
    Bl z (fun t => (Sort.insertionSort (ltOf (cfF z)) d a b)[t]!) a b ∧ ∀ t, t < a ∨ b ≤ t → (Sort.insertionSort (ltOf (cfF z)) d a b)[t]! = d[t]! := by
  unfold Sort.insertionSort
  by_cases h : a < b
  · refine insOuter_bl z a b _ (a + 1) d rfl (by omega) h h2 ⟨fun i j q1 q2 q3 => by omega, fun x x1 x2 => ?_⟩ (fun t t1 t2 => hr t (by omega) t2)
    have : x = a := by omega
    subst this
    show x ≤ (d[x]!).val ∧ (d[x]!).val < x + 1
    rw [hr x (Nat.le_refl _) h]; omega
  · rw [insOuter_stop _ _ _ _ _ (by omega)]
    exact ⟨Bl.none z _ (by omega), fun _ _ => rfl⟩
/-! What is in order is so in one way alone. -/
theorem perm_of_within {α : Type} [BEq α] [LawfulBEq α] : ∀ (l m : List α), l.Nodup → (∀ x, x ∈ l → x ∈ m) → m.length ≤ l.length → l.Perm m
  | [], m, _, _, h => by
    have : m = [] := List.length_eq_zero_iff.mp (by simpa using h)
    rw [this]
  | a :: l, m, hn, hs, hl => by
    have ha : a ∈ m := hs a (by simp)
    rw [List.nodup_cons] at hn
    have h1 := perm_of_within l (m.erase a) hn.2 (fun x hx => (List.mem_erase_of_ne (fun e : x = a => hn.1 (by rw [← e]; exact hx))).mpr (hs x (by simp [hx]))) (by rw [List.length_erase_of_mem ha]; simp at hl; omega)
    exact (List.Perm.cons a h1).trans (List.perm_cons_erase ha).symm
theorem asc_pairwise {z : List Int} {n : Nat} {f : Nat → Fin n} {k : Nat} (h : Asc (ltZ z) f 0 k) : ((List.range k).map f).Pairwise (ltZ z) := by
  rw [List.pairwise_map]
  refine List.Pairwise.imp_of_mem ?_ List.pairwise_lt_range
  intro x y hx hy hxy
  exact h x y (Nat.zero_le _) hxy (by simpa using hy)
theorem asc_perm {z : List Int} {n : Nat} {f : Nat → Fin n} (h : Asc (ltZ z) f 0 n) : ((List.range n).map f).Perm (List.finRange n) :=
  perm_of_within _ _ (List.Pairwise.imp (fun {a b} (hxy : ltZ z a b) (e : a = b) => ltZ_irr z b (by rw [e] at hxy; exact hxy)) (asc_pairwise h)) (fun x _ => List.mem_finRange x) (by simp)
theorem asc_one {z : List Int} {n : Nat} {f g : Nat → Fin n} (hf : Asc (ltZ z) f 0 n) (hg : Asc (ltZ z) g 0 n) {t : Nat} (ht : t < n) : f t = g t := by
  have h := List.Perm.eq_of_pairwise (le := ltZ z) (fun a b _ _ h1 h2 => absurd (ltZ_tr z _ _ _ h1 h2) (ltZ_irr z a)) (asc_pairwise hf) (asc_pairwise hg) ((asc_perm hf).trans (asc_perm hg).symm)
  have h2 := congrArg (fun l => l[t]?) h
  simpa [ht] using h2
/-- How many places come before one. -/
def rkP (z : List Int) (i k : Nat) : Bool := decide (z.getD k 0 < z.getD i 0) || (decide (k < i) && decide (z.getD k 0 = z.getD i 0))
theorem countP_below (p : Nat) : ∀ n, (List.range n).countP (fun k => decide (k < p)) = min p n
  | 0 => by simp
  | n + 1 => by
    rw [List.range_succ, List.countP_append, countP_below p n]
    by_cases h : n < p
    · simp [h]; omega
    · simp [h]; omega
theorem asc_rank {z : List Int} {n : Nat} {f : Nat → Fin n} (h : Asc (ltZ z) f 0 n) {p : Nat} (hp : p < n) : (List.range n).countP (rkP z (f p).val) = p := by
  have h1 : (List.range n).countP (rkP z (f p).val) = (List.finRange n).countP (fun k => rkP z (f p).val k.val) := by
    have : List.range n = (List.finRange n).map Fin.val := by
      apply List.ext_getElem
      · simp
      · intro i h1 h2; simp
    rw [this, List.countP_map]
    rfl
  rw [h1, ← (asc_perm h).countP_eq, List.countP_map]
  have h2 : ∀ k, k ∈ List.range n → ((fun k : Fin n => rkP z (f p).val k.val) ∘ f) k = decide (k < p) := fun k hk => by
    have hk2 : k < n := by simpa using hk
    have e : ∀ x y : Fin n, rkP z y.val x.val = true ↔ ltZ z x y := fun x y => by unfold rkP ltZ; simp [and_comm]
    rw [Bool.eq_iff_iff]
    show rkP z (f p).val (f k).val = true ↔ _
    rw [e]
    rcases Nat.lt_trichotomy k p with c | c | c
    · simp [c, h k p (Nat.zero_le _) c hp]
    · subst c; simp [ltZ_irr]
    · have := h p k (Nat.zero_le _) c hk2
      have h3 : ¬ ltZ z (f k) (f p) := fun h4 => ltZ_irr z _ (ltZ_tr z _ _ _ this h4)
      simp [h3]; omega
  rw [List.countP_congr fun k hk => by rw [h2 k hk], countP_below]
  omega
theorem asc_onto {z : List Int} {n : Nat} {f : Nat → Fin n} (h : Asc (ltZ z) f 0 n) {i : Nat} (hi : i < n) : ∃ p, p < n ∧ (f p).val = i := by
  have h1 : (⟨i, hi⟩ : Fin n) ∈ (List.range n).map f := (asc_perm h).mem_iff.mpr (List.mem_finRange _)
  rw [List.mem_map] at h1
  obtain ⟨p, hp, e⟩ := h1
  exact ⟨p, by simpa using hp, by rw [e]⟩
end Go.Proofs.YtpbfbejckhbijaaDoor
