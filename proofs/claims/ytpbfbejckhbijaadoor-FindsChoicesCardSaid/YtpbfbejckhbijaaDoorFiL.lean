/- Plain facts for the stable merge of Go's library (symMerge), at an order without ties: what the search for the place to turn at gives. -/
import Derived.Test.YtpbfbejckhbijaaDoorFiJ
namespace Go.Proofs.YtpbfbejckhbijaaDoor

/-- A stretch in order. -/
def Asc {α : Type} (lt : α → α → Prop) (f : Nat → α) (a b : Nat) : Prop := ∀ i j, a ≤ i → i < j → j < b → lt (f i) (f j)
/-- Where two neighbouring stretches are in order, and their parts [s, m), [m, e) change places: all that then stands left is below all that stands right. -/
theorem sym_split {α : Type} {lt : α → α → Prop} (tr : ∀ x y z, lt x y → lt y z → lt x z) {f : Nat → α} {a m b s e : Nat} (h1 : Asc lt f a m) (h2 : Asc lt f m b) (hsm : s ≤ m) (he : m ≤ e)
    (hl : a < s → e < b → lt (f (s - 1)) (f e)) (hr : s < m → m < e → lt (f (e - 1)) (f s)) {x y : Nat} (hx : (a ≤ x ∧ x < s) ∨ (m ≤ x ∧ x < e)) (hy : (s ≤ y ∧ y < m) ∨ (e ≤ y ∧ y < b)) (hb : e ≤ b) (ha : a ≤ s) : lt (f x) (f y) := by
  have le1 : ∀ {i j}, a ≤ i → i ≤ j → j < m → ∀ z, lt (f j) z → lt (f i) z := fun {i j} g1 g2 g3 z hz => by
    rcases Nat.lt_or_eq_of_le g2 with g | rfl
    · exact tr _ _ _ (h1 i j g1 g g3) hz
    · exact hz
  have ge1 : ∀ {i j}, a ≤ i → i ≤ j → j < m → ∀ z, lt z (f i) → lt z (f j) := fun {i j} g1 g2 g3 z hz => by
    rcases Nat.lt_or_eq_of_le g2 with g | rfl
    · exact tr _ _ _ hz (h1 i j g1 g g3)
    · exact hz
  have le2 : ∀ {i j}, m ≤ i → i ≤ j → j < b → ∀ z, lt (f j) z → lt (f i) z := fun {i j} g1 g2 g3 z hz => by
    rcases Nat.lt_or_eq_of_le g2 with g | rfl
    · exact tr _ _ _ (h2 i j g1 g g3) hz
    · exact hz
  have ge2 : ∀ {i j}, m ≤ i → i ≤ j → j < b → ∀ z, lt z (f i) → lt z (f j) := fun {i j} g1 g2 g3 z hz => by
    rcases Nat.lt_or_eq_of_le g2 with g | rfl
    · exact tr _ _ _ hz (h2 i j g1 g g3)
    · exact hz
  rcases hx with ⟨x1, x2⟩ | ⟨x1, x2⟩ <;> rcases hy with ⟨y1, y2⟩ | ⟨y1, y2⟩
  · exact h1 x y x1 (by omega) y2
  · exact le1 x1 (show x ≤ s - 1 by omega) (by omega) _ (ge2 he y1 y2 _ (hl (by omega) (by omega)))
  · exact le2 x1 (show x ≤ e - 1 by omega) (by omega) _ (ge1 (by omega) y1 y2 _ (hr (by omega) (by omega)))
  · exact h2 x y x1 (by omega) y2
/-- The search's two ends, as Go's symMerge keeps them: below s the left one is the lower, from r on the right one is the lower. -/
structure Sym {α : Type} (lt : α → α → Prop) (f : Nat → α) (p s0 r0 s r : Nat) : Prop where
  lo : s0 ≤ s
  hi : r ≤ r0
  le : s ≤ r
  left : ∀ c, s0 ≤ c → c < s → lt (f c) (f (p - c))
  right : ∀ c, r ≤ c → c < r0 → lt (f (p - c)) (f c)
theorem Sym.start {α : Type} (lt : α → α → Prop) (f : Nat → α) (p : Nat) {s0 r0 : Nat} (h : s0 ≤ r0) : Sym lt f p s0 r0 s0 r0 :=
  ⟨Nat.le_refl _, Nat.le_refl _, h, fun _ h1 h2 => absurd h2 (by omega), fun _ h1 h2 => absurd h2 (by omega)⟩
/-- One round: the middle is looked at. -/
theorem Sym.step {α : Type} {lt : α → α → Prop} (tr : ∀ x y z, lt x y → lt y z → lt x z) {f : Nat → α} {p a m b s0 r0 s r c : Nat} (h : Sym lt f p s0 r0 s r) (h1 : Asc lt f a m) (h2 : Asc lt f m b)
    (ha : a ≤ s0) (hm : r0 ≤ m) (hp : ∀ c, s0 ≤ c → c < r0 → m ≤ p - c ∧ p - c < b ∧ c ≤ p) (hc1 : s ≤ c) (hc2 : c < r) :
    (lt (f (p - c)) (f c) → Sym lt f p s0 r0 s c) ∧ (lt (f c) (f (p - c)) → Sym lt f p s0 r0 (c + 1) r) := by
  obtain ⟨g1, g2, g3, g4, g5⟩ := h
  constructor
  · intro hq
    refine ⟨g1, by omega, hc1, g4, fun d d1 d2 => ?_⟩
    rcases Nat.lt_or_eq_of_le d1 with g | rfl
    · have e1 := h1 c d (by omega) g (by omega)
      obtain ⟨w1, w2, w3⟩ := hp d (by omega) d2
      obtain ⟨v1, v2, v3⟩ := hp c (by omega) (by omega)
      exact tr _ _ _ (tr _ _ _ (h2 (p - d) (p - c) w1 (by omega) v2) hq) e1
    · exact hq
  · intro hq
    refine ⟨by omega, g2, by omega, fun d d1 d2 => ?_, g5⟩
    rcases Nat.lt_or_eq_of_le (show d ≤ c by omega) with g | rfl
    · have e1 := h1 d c (by omega) g (by omega)
      obtain ⟨w1, w2, w3⟩ := hp d d1 (by omega)
      obtain ⟨v1, v2, v3⟩ := hp c (by omega) (by omega)
      exact tr _ _ _ (tr _ _ _ e1 hq) (h2 (p - c) (p - d) v1 (by omega) w2)
    · exact hq
/-- Where the search has ended: s is the place; e = n - s. -/
theorem Sym.split {α : Type} {lt : α → α → Prop} {f : Nat → α} {a m b mid s : Nat} (_ : a ≤ m) (_ : m ≤ b) (hmid : mid = (a + b) / 2)
    (h : Sym lt f (mid + m - 1) (if m > mid then mid + m - b else a) (if m > mid then mid else m) s s) :
    a ≤ s ∧ s ≤ m ∧ m ≤ mid + m - s ∧ mid + m - s ≤ b ∧ (a < s → mid + m - s < b → lt (f (s - 1)) (f (mid + m - s))) ∧ (s < m → m < mid + m - s → lt (f (mid + m - s - 1)) (f s)) := by
  obtain ⟨g1, g2, g3, g4, g5⟩ := h
  split at g1 <;> rename_i hc
  · rw [if_pos hc] at g2 g4 g5
    refine ⟨by omega, by omega, by omega, by omega, fun h1 h2 => ?_, fun h1 h2 => ?_⟩
    · have h3 := g4 (s - 1) (by omega) (by omega)
      rwa [show mid + m - 1 - (s - 1) = mid + m - s by omega] at h3
    · have h3 := g5 s (Nat.le_refl _) (by omega)
      rwa [show mid + m - 1 - s = mid + m - s - 1 by omega] at h3
  · rw [if_neg hc] at g2 g4 g5
    refine ⟨by omega, by omega, by omega, by omega, fun h1 h2 => ?_, fun h1 h2 => ?_⟩
    · have h3 := g4 (s - 1) (by omega) (by omega)
      rwa [show mid + m - 1 - (s - 1) = mid + m - s by omega] at h3
    · have h3 := g5 s (Nat.le_refl _) (by omega)
      rwa [show mid + m - 1 - s = mid + m - s - 1 by omega] at h3
/-- Two stretches of one length change places (Go's swapRange). -/
def swp {α : Type} (f : Nat → α) (p q n x : Nat) : α := if p ≤ x ∧ x < p + n then f (x - p + q) else if q ≤ x ∧ x < q + n then f (x - q + p) else f x
/-- Two neighbouring stretches change places (Go's rotate). -/
def rtt {α : Type} (f : Nat → α) (a m b x : Nat) : α := if a ≤ x ∧ x < a + (b - m) then f (x + (m - a)) else if a + (b - m) ≤ x ∧ x < b then f (x - (b - m)) else f x
theorem rtt_left {α : Type} (f : Nat → α) {a m b : Nat} (h1 : a ≤ m) (h2 : m ≤ b) (h : b - m < m - a) : rtt f a m b = rtt (swp f a m (b - m)) (a + (b - m)) m b := by
  funext x
  unfold rtt swp
  repeat' split
  all_goals first | (exfalso; omega) | rfl | (congr 1; omega)
theorem rtt_right {α : Type} (f : Nat → α) {a m b : Nat} (h1 : a ≤ m) (h2 : m ≤ b) (h : m - a < b - m) : rtt f a m b = rtt (swp f a (b - (m - a)) (m - a)) a m (b - (m - a)) := by
  funext x
  unfold rtt swp
  repeat' split
  all_goals first | (exfalso; omega) | rfl | (congr 1; omega)
theorem rtt_same {α : Type} (f : Nat → α) {a m b : Nat} (h1 : a ≤ m) (h2 : m ≤ b) (h : m - a = b - m) : rtt f a m b = swp f a m (m - a) := by
  funext x
  unfold rtt swp
  repeat' split
  all_goals first | (exfalso; omega) | rfl | (congr 1; omega)
theorem rtt_none {α : Type} (f : Nat → α) {a m b : Nat} (h : a = m ∨ m = b) (h1 : a ≤ m) (h2 : m ≤ b) : rtt f a m b = f := by
  funext x
  unfold rtt
  repeat' split
  all_goals first | (exfalso; omega) | rfl | (congr 1; omega)
/-- One swap more. -/
theorem swp_succ {α : Type} (f : Nat → α) {p q n : Nat} (h : p + n < q ∨ q + n < p) : swp f p q (n + 1) = swp (swp f p q n) (p + n) (q + n) 1 := by
  funext x
  unfold swp
  repeat' split
  all_goals first | (exfalso; omega) | rfl | (congr 1; omega)
/-- What is in order after the turn: the two halves by themselves. -/
theorem rtt_asc {α : Type} {lt : α → α → Prop} (tr : ∀ x y z, lt x y → lt y z → lt x z) {f : Nat → α} {a m b s e : Nat} (h1 : Asc lt f a m) (h2 : Asc lt f m b) (ha : a ≤ s) (hsm : s ≤ m) (he : m ≤ e) (hb : e ≤ b) :
    Asc lt (rtt f s m e) a s ∧ Asc lt (rtt f s m e) s (s + (e - m)) ∧ Asc lt (rtt f s m e) (s + (e - m)) e ∧ Asc lt (rtt f s m e) e b := by
  have _ := tr
  refine ⟨fun i j g1 g2 g3 => ?_, fun i j g1 g2 g3 => ?_, fun i j g1 g2 g3 => ?_, fun i j g1 g2 g3 => ?_⟩ <;> unfold rtt
  · rw [if_neg (by omega), if_neg (by omega), if_neg (by omega), if_neg (by omega)]; exact h1 i j g1 g2 (by omega)
  · rw [if_pos (by omega), if_pos (by omega)]; exact h2 _ _ (by omega) (by omega) (by omega)
  · rw [if_neg (by omega), if_pos (by omega), if_neg (by omega), if_pos (by omega)]; exact h1 _ _ (by omega) (by omega) (by omega)
  · rw [if_neg (by omega), if_neg (by omega), if_neg (by omega), if_neg (by omega)]; exact h2 i j (by omega) g2 g3
/-- All that stands left of the middle is below all that stands right, after the turn. -/
theorem rtt_below {α : Type} {lt : α → α → Prop} (tr : ∀ x y z, lt x y → lt y z → lt x z) {f : Nat → α} {a m b s e : Nat} (h1 : Asc lt f a m) (h2 : Asc lt f m b) (ha : a ≤ s) (hsm : s ≤ m) (he : m ≤ e) (hb : e ≤ b)
    (hl : a < s → e < b → lt (f (s - 1)) (f e)) (hr : s < m → m < e → lt (f (e - 1)) (f s)) {x y : Nat} (x1 : a ≤ x) (x2 : x < s + (e - m)) (y1 : s + (e - m) ≤ y) (y2 : y < b) : lt (rtt f s m e x) (rtt f s m e y) := by
  have key := fun {x y} hx hy => sym_split tr h1 h2 hsm he hl hr (x := x) (y := y) hx hy hb ha
  unfold rtt
  by_cases hx : x < s
  · rw [if_neg (by omega), if_neg (by omega)]
    by_cases hy : y < e
    · rw [if_neg (by omega), if_pos (by omega)]; exact key (.inl ⟨x1, hx⟩) (.inl (by omega))
    · rw [if_neg (by omega), if_neg (by omega)]; exact key (.inl ⟨x1, hx⟩) (.inr (by omega))
  · rw [if_pos (by omega)]
    by_cases hy : y < e
    · rw [if_neg (by omega), if_pos (by omega)]; exact key (.inr (by omega)) (.inl (by omega))
    · rw [if_neg (by omega), if_neg (by omega)]; exact key (.inr (by omega)) (.inr (by omega))
end Go.Proofs.YtpbfbejckhbijaaDoor
