/- Plain facts for the stable merge: places in the order of their cells, then of themselves; what one merge makes of a row; stretches of a size. -/
import Derived.Test.YtpbfbejckhbijaaDoorFiL
namespace Go.Proofs.YtpbfbejckhbijaaDoor
open Go.RowKit Go.Sort
/-- The order of places: by their cells, then by themselves. -/
def ltZ (z : List Int) {m : Nat} (x y : Fin m) : Prop := z.getD x.val 0 < z.getD y.val 0 ∨ (z.getD x.val 0 = z.getD y.val 0 ∧ x.val < y.val)
theorem ltZ_tr (z : List Int) {m : Nat} (x y w : Fin m) (h1 : ltZ z x y) (h2 : ltZ z y w) : ltZ z x w := by unfold ltZ at *; omega
theorem ltZ_irr (z : List Int) {m : Nat} (x : Fin m) : ¬ ltZ z x x := by unfold ltZ; omega
theorem ask_lt (z : List Int) {m : Nat} {x y : Fin m} (_ : x.val < y.val) (hc : cfF z y x < 0) : ltZ z y x := by unfold cfF cmZ at hc; unfold ltZ; split at hc <;> omega
theorem ask_ge (z : List Int) {m : Nat} {x y : Fin m} (h : x.val < y.val) (hc : ¬ cfF z y x < 0) : ltZ z x y := by unfold cfF cmZ at hc; unfold ltZ; split at hc <;> omega
/-- Two neighbouring stretches, each in order, the left one's places below the right one's. -/
structure Two (z : List Int) {m : Nat} (f : Nat → Fin m) (a k b : Nat) : Prop where
  l : Asc (ltZ z) f a k
  r : Asc (ltZ z) f k b
  p : ∀ i j, a ≤ i → i < k → k ≤ j → j < b → (f i).val < (f j).val
/-- What a merge of a stretch makes of a row. -/
structure Mrg (z : List Int) {m : Nat} (f g : Nat → Fin m) (a b : Nat) : Prop where
  asc : Asc (ltZ z) g a b
  out : ∀ x, x < a ∨ b ≤ x → g x = f x
  inn : ∀ x, a ≤ x → x < b → ∃ y, a ≤ y ∧ y < b ∧ g x = f y
theorem rtt_out {α : Type} (f : Nat → α) {a m b x : Nat} (h1 : a ≤ m) (h2 : m ≤ b) (h : x < a ∨ b ≤ x) : rtt f a m b x = f x := by
  unfold rtt
  rw [if_neg (by omega), if_neg (by omega)]
theorem rtt_inn {α : Type} (f : Nat → α) {a m b x : Nat} (h1 : a ≤ m) (h2 : m ≤ b) (h3 : a ≤ x) (h4 : x < b) : ∃ y, a ≤ y ∧ y < b ∧ rtt f a m b x = f y := by
  unfold rtt
  by_cases h : x < a + (b - m)
  · exact ⟨x + (m - a), by omega, by omega, by rw [if_pos (by omega)]⟩
  · exact ⟨x - (b - m), by omega, by omega, by rw [if_neg (by omega), if_pos (by omega)]⟩
theorem Asc.join {α : Type} {lt : α → α → Prop} {f : Nat → α} {a k b : Nat} (h1 : Asc lt f a k) (h2 : Asc lt f k b) (h : ∀ x y, a ≤ x → x < k → k ≤ y → y < b → lt (f x) (f y)) : Asc lt f a b := by
  intro i j g1 g2 g3
  by_cases c1 : j < k
  · exact h1 i j g1 g2 c1
  · by_cases c2 : i < k
    · exact h i j g1 c2 (by omega) g3
    · exact h2 i j (by omega) g2 g3
theorem Asc.part {α : Type} {lt : α → α → Prop} {f : Nat → α} {a b c d : Nat} (h : Asc lt f a b) (h1 : a ≤ c) (h2 : d ≤ b) : Asc lt f c d := fun i j g1 g2 g3 => h i j (by omega) g2 (by omega)
theorem Asc.same {α : Type} {lt : α → α → Prop} {f g : Nat → α} {a b : Nat} (h : Asc lt f a b) (hg : ∀ x, a ≤ x → x < b → g x = f x) : Asc lt g a b := fun i j g1 g2 g3 => by rw [hg i g1 (by omega), hg j (by omega) g3]; exact h i j g1 g2 g3
theorem mrg_rtt {z : List Int} {m : Nat} {f : Nat → Fin m} {a s k e b : Nat} (h : Two z f a k b) (h1 : a ≤ s) (h2 : s ≤ k) (h3 : k ≤ e) (h4 : e ≤ b) (hj : Asc (ltZ z) (rtt f s k e) a b) : Mrg z f (rtt f s k e) a b := by
  have _ := h
  refine ⟨hj, fun x hx => rtt_out f h2 h3 (by omega), fun x x1 x2 => ?_⟩
  by_cases c : s ≤ x ∧ x < e
  · obtain ⟨y, y1, y2, y3⟩ := rtt_inn f h2 h3 c.1 c.2
    exact ⟨y, by omega, by omega, y3⟩
  · exact ⟨x, x1, x2, rtt_out f h2 h3 (by omega)⟩
/-- The first stretch is one place alone: it is put before the first that is not below it. -/
theorem mrg_one {z : List Int} {m : Nat} {f : Nat → Fin m} {a b i : Nat} (h : Two z f a (a + 1) b) (h1 : a + 1 ≤ i) (h2 : i ≤ b) (hlo : ∀ t, a + 1 ≤ t → t < i → ltZ z (f t) (f a)) (hhi : ∀ t, i ≤ t → t < b → ltZ z (f a) (f t)) : Mrg z f (rtt f a (a + 1) i) a b := by
  refine mrg_rtt h (Nat.le_refl _) (by omega) h1 h2 ?_
  intro x y x1 x2 x3
  unfold rtt
  by_cases c1 : y < a + (i - (a + 1))
  · rw [if_pos (by omega), if_pos (by omega)]; exact h.r _ _ (by omega) (by omega) (by omega)
  · by_cases c2 : y < i
    · rw [if_pos (by omega), if_neg (by omega), if_pos (by omega), show y - (i - (a + 1)) = a by omega]; exact hlo _ (by omega) (by omega)
    · rw [if_neg (c := a ≤ y ∧ _) (by omega), if_neg (c := a + (i - (a + 1)) ≤ y ∧ _) (by omega)]
      by_cases c3 : x < a + (i - (a + 1))
      · rw [if_pos (by omega)]; exact h.r _ _ (by omega) (by omega) (by omega)
      · by_cases c4 : x < i
        · rw [if_neg (by omega), if_pos (by omega), show x - (i - (a + 1)) = a by omega]; exact hhi _ (by omega) (by omega)
        · rw [if_neg (by omega), if_neg (by omega)]; exact h.r _ _ (by omega) (by omega) (by omega)
/-- The second stretch is one place alone: it is put before the first that is above it. -/
theorem mrg_last {z : List Int} {m : Nat} {f : Nat → Fin m} {a k i : Nat} (h : Two z f a k (k + 1)) (h1 : a ≤ i) (h2 : i ≤ k) (hlo : ∀ t, a ≤ t → t < i → ltZ z (f t) (f k)) (hhi : ∀ t, i ≤ t → t < k → ltZ z (f k) (f t)) : Mrg z f (rtt f i k (k + 1)) a (k + 1) := by
  refine mrg_rtt h h1 h2 (by omega) (Nat.le_refl _) ?_
  intro x y x1 x2 x3
  unfold rtt
  by_cases c1 : y < i
  · rw [if_neg (by omega), if_neg (by omega), if_neg (by omega), if_neg (by omega)]; exact h.l _ _ x1 x2 (by omega)
  · by_cases c2 : y < i + (k + 1 - k)
    · rw [if_neg (c := i ≤ x ∧ _) (by omega), if_neg (c := i + (k + 1 - k) ≤ x ∧ _) (by omega), if_pos (by omega), show y + (k - i) = k by omega]; exact hlo _ x1 (by omega)
    · rw [if_neg (c := i ≤ y ∧ _) (by omega), if_pos (c := i + (k + 1 - k) ≤ y ∧ _) (by omega)]
      by_cases c3 : x < i
      · rw [if_neg (by omega), if_neg (by omega)]; exact h.l _ _ x1 (by omega) (by omega)
      · by_cases c4 : x < i + (k + 1 - k)
        · rw [if_pos (by omega), show x + (k - i) = k by omega]; exact hhi _ (by omega) (by omega)
        · rw [if_neg (by omega), if_pos (by omega)]; exact h.l _ _ (by omega) (by omega) (by omega)
/-- Nothing is to be merged. -/
theorem Two.skip {z : List Int} {m : Nat} {f : Nat → Fin m} {a k b : Nat} (h : Two z f a k b) (hk : k ≤ a ∨ b ≤ k) : Mrg z f f a b :=
  ⟨fun i j g1 g2 g3 => by
    rcases hk with c | c
    · exact h.r i j (by omega) g2 g3
    · exact h.l i j g1 g2 (by omega), fun _ _ => rfl, fun x x1 x2 => ⟨x, x1, x2, rfl⟩⟩
/-- The turn leaves two smaller merges, and all of the left one is below all of the right one. -/
theorem Two.turn {z : List Int} {n : Nat} {f : Nat → Fin n} {a m b s e mid : Nat} (h : Two z f a m b) (ha : a ≤ s) (hsm : s ≤ m) (he : m ≤ e) (hb : e ≤ b) (hmid : mid + m = s + e)
    (hl : a < s → e < b → ltZ z (f (s - 1)) (f e)) (hr : s < m → m < e → ltZ z (f (e - 1)) (f s)) :
    Two z (rtt f s m e) a s mid ∧ Two z (rtt f s m e) mid e b ∧ ∀ x y, a ≤ x → x < mid → mid ≤ y → y < b → ltZ z (rtt f s m e x) (rtt f s m e y) := by
  obtain ⟨q1, q2, q3, q4⟩ := rtt_asc (ltZ_tr z) h.l h.r ha hsm he hb
  have em : s + (e - m) = mid := by omega
  rw [em] at q2 q3
  refine ⟨⟨q1, q2, fun i j i1 i2 j1 j2 => ?_⟩, ⟨q3, q4, fun i j i1 i2 j1 j2 => ?_⟩, fun x y x1 x2 y1 y2 => rtt_below (ltZ_tr z) h.l h.r ha hsm he hb hl hr x1 (by omega) (by omega) y2⟩
  · unfold rtt
    rw [if_neg (by omega), if_neg (by omega), if_pos (by omega)]
    exact h.p _ _ i1 (by omega) (by omega) (by omega)
  · unfold rtt
    rw [if_neg (by omega), if_pos (by omega), if_neg (by omega), if_neg (by omega)]
    exact h.p _ _ (by omega) (by omega) (by omega) j2
theorem Two.keep {z : List Int} {m : Nat} {f g : Nat → Fin m} {a k b : Nat} (h : Two z f a k b) (hg : ∀ x, a ≤ x → x < b → g x = f x) (ha : a ≤ k) (hb : k ≤ b) : Two z g a k b :=
  ⟨h.l.same fun x x1 x2 => hg x x1 (by omega), h.r.same fun x x1 x2 => hg x (by omega) x2, fun i j i1 i2 j1 j2 => by rw [hg i i1 (by omega), hg j (by omega) j2]; exact h.p i j i1 i2 j1 j2⟩
/-- Both merges done. -/
theorem mrg_join {z : List Int} {n : Nat} {f g1 g2 : Nat → Fin n} {a m b s e mid : Nat} (ha : a ≤ s) (hsm : s ≤ m) (he : m ≤ e) (hb : e ≤ b) (hmid : mid + m = s + e)
    (hbl : ∀ x y, a ≤ x → x < mid → mid ≤ y → y < b → ltZ z (rtt f s m e x) (rtt f s m e y)) (h1 : Mrg z (rtt f s m e) g1 a mid) (h2 : Mrg z g1 g2 mid b) : Mrg z f g2 a b := by
  have key : ∀ x, a ≤ x → x < mid → ∃ y, a ≤ y ∧ y < mid ∧ g2 x = rtt f s m e y := fun x x1 x2 => by
    rw [h2.out x (by omega)]; exact h1.inn x x1 x2
  have key2 : ∀ x, mid ≤ x → x < b → ∃ y, mid ≤ y ∧ y < b ∧ g2 x = rtt f s m e y := fun x x1 x2 => by
    obtain ⟨y, y1, y2, y3⟩ := h2.inn x x1 x2
    exact ⟨y, y1, y2, by rw [y3]; exact h1.out y (by omega)⟩
  refine ⟨Asc.join (h1.asc.same fun x _ x2 => h2.out x (by omega)) h2.asc fun x y x1 x2 y1 y2 => ?_, fun x hx => ?_, fun x x1 x2 => ?_⟩
  · obtain ⟨u, u1, u2, u3⟩ := key x x1 x2
    obtain ⟨v, v1, v2, v3⟩ := key2 y y1 y2
    rw [u3, v3]
    exact hbl u v u1 u2 v1 v2
  · rw [h2.out x (by omega), h1.out x (by omega), rtt_out f hsm he (by omega)]
  · have : ∃ y, a ≤ y ∧ y < b ∧ g2 x = rtt f s m e y := by
      by_cases c : x < mid
      · obtain ⟨y, y1, y2, y3⟩ := key x x1 c; exact ⟨y, y1, by omega, y3⟩
      · obtain ⟨y, y1, y2, y3⟩ := key2 x (by omega) x2; exact ⟨y, by omega, y2, y3⟩
    obtain ⟨y, y1, y2, y3⟩ := this
    by_cases c : s ≤ y ∧ y < e
    · obtain ⟨u, u1, u2, u3⟩ := rtt_inn f hsm he c.1 c.2
      exact ⟨u, by omega, by omega, by rw [y3, u3]⟩
    · exact ⟨y, y1, y2, by rw [y3, rtt_out f hsm he (by omega)]⟩
/-- A turn by one more swap: the place at the left goes on to the right. -/
theorem rtt_swap_up {α : Type} (f : Nat → α) {a k : Nat} (h : a ≤ k) (x : Nat) : rtt f a (a + 1) (k + 2) x = if x = k + 1 then rtt f a (a + 1) (k + 1) k else if x = k then rtt f a (a + 1) (k + 1) (k + 1) else rtt f a (a + 1) (k + 1) x := by
  unfold rtt
  repeat' split
  all_goals first | (exfalso; omega) | rfl | (congr 1; omega)
/-- A turn by one more swap: the place at the right goes on to the left. -/
theorem rtt_swap_down {α : Type} (f : Nat → α) {m k : Nat} (h : k + 1 ≤ m) (x : Nat) : rtt f k m (m + 1) x = if x = k then rtt f (k + 1) m (m + 1) (k + 1) else if x = k + 1 then rtt f (k + 1) m (m + 1) k else rtt f (k + 1) m (m + 1) x := by
  unfold rtt
  repeat' split
  all_goals first | (exfalso; omega) | rfl | (congr 1; omega)
/-- A search for the first place that is not: below i all are, from j on none is. -/
structure Bin {m : Nat} (P Q : Fin m → Prop) (f : Nat → Fin m) (lo hi i j : Nat) : Prop where
  li : lo ≤ i
  ij : i ≤ j
  jh : j ≤ hi
  yes : ∀ t, lo ≤ t → t < i → P (f t)
  no : ∀ t, j ≤ t → t < hi → Q (f t)
theorem Bin.start {m : Nat} (P Q : Fin m → Prop) (f : Nat → Fin m) {lo hi : Nat} (h : lo ≤ hi) : Bin P Q f lo hi lo hi := ⟨Nat.le_refl _, h, Nat.le_refl _, fun _ h1 h2 => absurd h2 (by omega), fun _ h1 h2 => absurd h2 (by omega)⟩
theorem Bin.up {m : Nat} {P Q : Fin m → Prop} {f : Nat → Fin m} {lo hi i j c : Nat} (h : Bin P Q f lo hi i j) (hP : ∀ t, lo ≤ t → t < c → P (f c) → P (f t)) (h1 : i ≤ c) (h2 : c < j) (hc : P (f c)) : Bin P Q f lo hi (c + 1) j :=
  ⟨by have := h.li; omega, by omega, h.jh, fun t t1 t2 => by
    by_cases e : t = c
    · rw [e]; exact hc
    · exact hP t t1 (by omega) hc, h.no⟩
theorem Bin.down {m : Nat} {P Q : Fin m → Prop} {f : Nat → Fin m} {lo hi i j c : Nat} (h : Bin P Q f lo hi i j) (hQ : ∀ t, c < t → t < hi → Q (f c) → Q (f t)) (h1 : i ≤ c) (h2 : c < j) (hc : Q (f c)) : Bin P Q f lo hi i c :=
  ⟨h.li, h1, by have := h.jh; omega, h.yes, fun t t1 t2 => by
    by_cases e : t = c
    · rw [e]; exact hc
    · exact hQ t (by omega) t2 hc⟩
/-- A stretch in order that holds its own places. -/
def Bl (z : List Int) {m : Nat} (f : Nat → Fin m) (a b : Nat) : Prop := Asc (ltZ z) f a b ∧ ∀ x, a ≤ x → x < b → a ≤ (f x).val ∧ (f x).val < b
theorem Bl.none (z : List Int) {m : Nat} (f : Nat → Fin m) {a b : Nat} (h : b ≤ a) : Bl z f a b := ⟨fun i j h1 h2 h3 => by omega, fun x h1 h2 => by omega⟩
theorem Bl.keep {z : List Int} {m : Nat} {f g : Nat → Fin m} {a b : Nat} (h : Bl z f a b) (hg : ∀ x, a ≤ x → x < b → g x = f x) : Bl z g a b := ⟨h.1.same hg, fun x x1 x2 => by rw [hg x x1 x2]; exact h.2 x x1 x2⟩
theorem Bl.two {z : List Int} {m : Nat} {f : Nat → Fin m} {a k b : Nat} (h1 : Bl z f a k) (h2 : Bl z f k b) : Two z f a k b := ⟨h1.1, h2.1, fun i j i1 i2 j1 j2 => by have := (h1.2 i i1 i2).2; have := (h2.2 j j1 j2).1; omega⟩
theorem Bl.mrg {z : List Int} {m : Nat} {f g : Nat → Fin m} {a k b : Nat} (h1 : Bl z f a k) (h2 : Bl z f k b) (hk : a ≤ k) (hk2 : k ≤ b) (h : Mrg z f g a b) : Bl z g a b := ⟨h.asc, fun x x1 x2 => by
  obtain ⟨y, y1, y2, y3⟩ := h.inn x x1 x2
  rw [y3]
  by_cases c : y < k
  · have := h1.2 y y1 c; omega
  · have := h2.2 y (by omega) y2; omega⟩
/-- All stretches of a size are in order. -/
def Bls (z : List Int) {m : Nat} (f : Nat → Fin m) (bs n : Nat) : Prop := ∀ j, Bl z f (min (j * bs) n) (min ((j + 1) * bs) n)
/-- Of stretches of twice the size, so many are done; the others are as they were. -/
structure Half (z : List Int) {m : Nat} (f : Nat → Fin m) (bs n k : Nat) : Prop where
  le : k * (2 * bs) ≤ n
  done : ∀ j, j < k → Bl z f (j * (2 * bs)) ((j + 1) * (2 * bs))
  rest : ∀ j, 2 * k ≤ j → Bl z f (min (j * bs) n) (min ((j + 1) * bs) n)
theorem Half.start {z : List Int} {m : Nat} {f : Nat → Fin m} {bs n : Nat} (h : Bls z f bs n) : Half z f bs n 0 := ⟨by omega, fun j hj => by omega, fun j _ => h j⟩
theorem half_eqs (bs k : Nat) : 2 * k * bs = k * (2 * bs) ∧ (2 * k + 1) * bs = k * (2 * bs) + bs ∧ (2 * k + 1 + 1) * bs = k * (2 * bs) + 2 * bs ∧ (k + 1) * (2 * bs) = k * (2 * bs) + 2 * bs := by
  have e : 2 * k * bs = k * (2 * bs) := by rw [Nat.mul_comm 2 k, Nat.mul_assoc]
  refine ⟨e, ?_, ?_, ?_⟩
  · rw [Nat.succ_mul, e]
  · rw [Nat.succ_mul, Nat.succ_mul, e]; omega
  · rw [Nat.succ_mul]
theorem Half.two {z : List Int} {m : Nat} {f : Nat → Fin m} {bs n k : Nat} (h : Half z f bs n k) (hb : k * (2 * bs) + bs ≤ n) : Bl z f (k * (2 * bs)) (k * (2 * bs) + bs) ∧ Bl z f (k * (2 * bs) + bs) (min (k * (2 * bs) + 2 * bs) n) := by
  obtain ⟨e1, e2, e3, _⟩ := half_eqs bs k
  have h1 := h.rest (2 * k) (Nat.le_refl _)
  have h2 := h.rest (2 * k + 1) (by omega)
  rw [e1, e2, Nat.min_eq_left (by omega), Nat.min_eq_left hb] at h1
  rw [e2, e3, Nat.min_eq_left hb] at h2
  exact ⟨h1, h2⟩
theorem Half.next {z : List Int} {m : Nat} {f g : Nat → Fin m} {bs n k : Nat} (h : Half z f bs n k) (hb : k * (2 * bs) + 2 * bs ≤ n) (hm : Mrg z f g (k * (2 * bs)) (k * (2 * bs) + 2 * bs)) : Half z g bs n (k + 1) := by
  obtain ⟨e1, e2, e3, e4⟩ := half_eqs bs k
  obtain ⟨b1, b2⟩ := h.two (by omega)
  rw [Nat.min_eq_left hb] at b2
  refine ⟨by rw [e4]; exact hb, fun j hj => ?_, fun j hj => ?_⟩
  · by_cases c : j = k
    · subst c; rw [e4]; exact b1.mrg b2 (by omega) (by omega) hm
    · have hle := Nat.mul_le_mul_right (2 * bs) (show j + 1 ≤ k by omega)
      exact (h.done j (by omega)).keep fun x x1 x2 => hm.out x (.inl (by omega))
  · have hle := Nat.mul_le_mul_right bs (show 2 * k + 1 + 1 ≤ j by omega)
    exact (h.rest j (by omega)).keep fun x x1 x2 => hm.out x (.inr (by omega))
theorem Half.last {z : List Int} {m : Nat} {f g : Nat → Fin m} {bs n k : Nat} (h : Half z f bs n k) (hb : n < k * (2 * bs) + 2 * bs) (hg : Bl z g (k * (2 * bs)) n) (ho : ∀ x, x < k * (2 * bs) → g x = f x) : Bls z g (2 * bs) n := by
  obtain ⟨e1, e2, e3, e4⟩ := half_eqs bs k
  intro j
  rcases Nat.lt_trichotomy j k with c | c | c
  · have hle := Nat.mul_le_mul_right (2 * bs) (show j + 1 ≤ k by omega)
    have hle2 := Nat.mul_le_mul_right (2 * bs) (show j ≤ j + 1 by omega)
    have := h.le
    rw [Nat.min_eq_left (by omega), Nat.min_eq_left (by omega)]
    exact (h.done j c).keep fun x x1 x2 => ho x (by omega)
  · subst c
    rw [e4, Nat.min_eq_left h.le, Nat.min_eq_right (by omega)]
    exact hg
  · have hle := Nat.mul_le_mul_right (2 * bs) (show k + 1 ≤ j by omega)
    have hle2 := Nat.mul_le_mul_right (2 * bs) (show j ≤ j + 1 by omega)
    rw [Nat.min_eq_right (by omega), Nat.min_eq_right (by omega)]
    exact Bl.none z g (Nat.le_refl _)
theorem Half.end1 {z : List Int} {m : Nat} {f : Nat → Fin m} {bs n k : Nat} (h : Half z f bs n k) (hb : n ≤ k * (2 * bs) + bs) (hbs : 0 < bs) : Bls z f (2 * bs) n := by
  obtain ⟨e1, e2, e3, e4⟩ := half_eqs bs k
  have h1 := h.rest (2 * k) (Nat.le_refl _)
  rw [e1, e2, Nat.min_eq_left h.le, Nat.min_eq_right hb] at h1
  exact h.last (by omega) h1 fun _ _ => rfl
theorem Half.end2 {z : List Int} {m : Nat} {f g : Nat → Fin m} {bs n k : Nat} (h : Half z f bs n k) (hb : n < k * (2 * bs) + 2 * bs) (hb2 : k * (2 * bs) + bs < n) (hm : Mrg z f g (k * (2 * bs)) n) : Bls z g (2 * bs) n := by
  obtain ⟨b1, b2⟩ := h.two (by omega)
  rw [Nat.min_eq_right (by omega)] at b2
  exact h.last hb (b1.mrg b2 (by omega) (by omega) hm) fun x hx => hm.out x (.inl hx)
end Go.Proofs.YtpbfbejckhbijaaDoor
