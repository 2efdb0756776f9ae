/- Pure, for LatticeDuals: the order is what the covers lead to, one after the other. -/
import Derived.Test.YtfjnapmhnfjopaaLtPu
import Derived.Test.YtfjnapmhnfjopaaLtX
namespace Go.Proofs.Ytfjnapmhnfjopaa
open Go.RowKit

theorem countP_lt {p q : Nat → Bool} : ∀ (l : List Nat) (_ : ∀ c, c ∈ l → p c = true → q c = true) (x : Nat) (_ : x ∈ l) (_ : q x = true) (_ : p x = false), l.countP p < l.countP q := by
  intro l
  induction l with
  | nil => intro _ x hx; cases hx
  | cons y l ih =>
    intro h x hx hq hp
    rw [List.countP_cons, List.countP_cons]
    rcases List.mem_cons.1 hx with rfl | hx
    · have hle : l.countP p ≤ l.countP q := List.countP_mono_left fun c hc => h c (List.mem_cons_of_mem _ hc)
      rw [hq, hp]; simp; omega
    · have hlt := ih (fun c hc => h c (List.mem_cons_of_mem _ hc)) x hx hq hp
      have hy := h y (List.mem_cons_self ..)
      cases e : p y
      · simp; omega
      · rw [hy e]; simp; omega
/-- How many labels lie between a and b. -/
def btw (up : List UInt8) (a b : Nat) : Nat := (List.range up.length).countP fun c => le up a c && le up c b
theorem btw_l {up : List UInt8} (h : Ord (le up) up.length) {a o b : Nat} (ha : a < up.length) (ho : o < up.length) (hb : b < up.length) (h1 : le up a o = true) (h2 : le up o b = true) (hne : a ≠ o) : btw up o b < btw up a b := by
  refine countP_lt _ (fun c hc h3 => ?_) a (List.mem_range.2 ha) ?_ ?_
  · have hc := List.mem_range.1 hc
    rw [Bool.and_eq_true] at h3 ⊢
    exact ⟨h.trans a o c ha ho hc h1 h3.1, h3.2⟩
  · rw [h.refl a ha, h.trans a o b ha ho hb h1 h2]; rfl
  · cases e : le up o a
    · rfl
    · exact absurd (h.anti a o ha ho h1 e) hne
theorem btw_r {up : List UInt8} (h : Ord (le up) up.length) {a o b : Nat} (ha : a < up.length) (ho : o < up.length) (hb : b < up.length) (h1 : le up a o = true) (h2 : le up o b = true) (hne : o ≠ b) : btw up a o < btw up a b := by
  refine countP_lt _ (fun c hc h3 => ?_) b (List.mem_range.2 hb) ?_ ?_
  · have hc := List.mem_range.1 hc
    rw [Bool.and_eq_true] at h3 ⊢
    exact ⟨h3.1, h.trans c o b hc ho hb h3.2 h2⟩
  · rw [h.refl b hb, h.trans a o b ha ho hb h1 h2]; rfl
  · cases e : le up b o
    · simp
    · exact absurd (h.anti o b ho hb h2 e) hne
/-- Below b, and not it: one that b covers. -/
theorem last_st {up : List UInt8} (h : Ord (le up) up.length) {b : Nat} (hb : b < up.length) : ∀ (m a : Nat), btw up a b ≤ m → a < up.length → le up a b = true → a ≠ b → ∃ c, c < up.length ∧ le up a c = true ∧ st up c b = true := by
  intro m
  induction m with
  | zero =>
    intro a hm ha hl hne
    exact absurd (btw_l h ha hb hb hl (h.refl b hb) hne) (by omega)
  | succ m ih =>
    intro a hm ha hl hne
    cases e : (List.range up.length).any (st1 up a b)
    · refine ⟨a, ha, h.refl a ha, ?_⟩
      unfold st
      rw [e, hl]; simp; omega
    · obtain ⟨o, ho, h1⟩ := List.any_eq_true.1 e
      have ho := List.mem_range.1 ho
      unfold st1 at h1
      simp only [Bool.and_eq_true] at h1
      obtain ⟨⟨⟨h2, h3⟩, h4⟩, h5⟩ := h1
      have hoa : a ≠ o := fun e => by subst e; simp at h2
      have hob : o ≠ b := fun e => by subst e; simp at h3
      obtain ⟨c, hc, h6, h7⟩ := ih o (by have := btw_l h ha ho hb h4 h5 hoa; omega) ho h5 hob
      exact ⟨c, hc, h.trans a o c ha ho hc h4 h6, h7⟩

/-- One pair of the covers: whoever leads to its first leads to its second. -/
def rstp (r : Nat → Nat → Bool) (x : Nat × Nat) : Nat → Nat → Bool := fun a b => if b = x.2 then r a b || r a x.1 else r a b
def rrnd (l : List (Nat × Nat)) (r : Nat → Nat → Bool) : Nat → Nat → Bool := l.foldl rstp r
def rch (l : List (Nat × Nat)) : Nat → Nat → Nat → Bool
  | 0 => fun a b => decide (a = b)
  | k + 1 => rrnd l (rch l k)
theorem rrnd_mono (l : List (Nat × Nat)) : ∀ (r : Nat → Nat → Bool) {a b : Nat}, r a b = true → rrnd l r a b = true := by
  induction l with
  | nil => intro r a b h; exact h
  | cons x l ih =>
    intro r a b h
    show rrnd l (rstp r x) a b = true
    refine ih _ ?_
    unfold rstp
    split
    · rw [h]; rfl
    · exact h
theorem rrnd_mem (l : List (Nat × Nat)) : ∀ (r : Nat → Nat → Bool) {a c b : Nat}, (c, b) ∈ l → r a c = true → rrnd l r a b = true := by
  induction l with
  | nil => intro r a c b h; cases h
  | cons x l ih =>
    intro r a c b h h1
    show rrnd l (rstp r x) a b = true
    rcases List.mem_cons.1 h with rfl | h
    · refine rrnd_mono l _ ?_
      unfold rstp; rw [if_pos rfl, h1]; simp
    · refine ih _ h ?_
      unfold rstp
      split
      · rw [h1]; rfl
      · exact h1
theorem rrnd_sound {up : List UInt8} (h : Ord (le up) up.length) (l : List (Nat × Nat)) : ∀ (r : Nat → Nat → Bool), (∀ x, x ∈ l → x.1 < up.length ∧ x.2 < up.length ∧ le up x.1 x.2 = true) → (∀ a b, a < up.length → b < up.length → r a b = true → le up a b = true) → ∀ a b, a < up.length → b < up.length → rrnd l r a b = true → le up a b = true := by
  induction l with
  | nil => intro r _ h2; exact h2
  | cons x l ih =>
    intro r h1 h2
    refine ih (rstp r x) (fun y hy => h1 y (List.mem_cons_of_mem _ hy)) fun a b ha hb h3 => ?_
    obtain ⟨h4, h5, h6⟩ := h1 x (List.mem_cons_self ..)
    unfold rstp at h3
    split at h3
    · rename_i e
      subst e
      rcases Bool.or_eq_true .. ▸ h3 with h3 | h3
      · exact h2 a _ ha hb h3
      · exact h.trans a x.1 x.2 ha h4 h5 (h2 a _ ha h4 h3) h6
    · exact h2 a b ha hb h3
theorem mem_cov {up : List UInt8} {c b : Nat} : (c, b) ∈ cov up up.length ↔ c < up.length ∧ b < up.length ∧ st up c b = true := by
  unfold cov covR
  simp only [List.mem_flatMap, List.mem_range, List.mem_map, List.mem_filter, Prod.mk.injEq]
  constructor
  · rintro ⟨a, ha, d, ⟨hd, h⟩, rfl, rfl⟩; exact ⟨ha, hd, h⟩
  · rintro ⟨h1, h2, h3⟩; exact ⟨c, h1, b, ⟨h2, h3⟩, rfl, rfl⟩
theorem st_le {up : List UInt8} {a b : Nat} (h : st up a b = true) : a ≠ b ∧ le up a b = true := by
  unfold st at h
  simp only [Bool.and_eq_true] at h
  refine ⟨fun e => ?_, h.1.2⟩
  subst e
  simp at h
theorem rch_le {up : List UInt8} (h : Ord (le up) up.length) (k : Nat) : ∀ a b, a < up.length → b < up.length → rch (cov up up.length) k a b = true → le up a b = true := by
  induction k with
  | zero =>
    intro a b ha hb h1
    have : a = b := of_decide_eq_true h1
    subst this; exact h.refl a ha
  | succ k ih =>
    refine rrnd_sound h _ _ (fun x hx => ?_) ih
    obtain ⟨c, b⟩ := x
    obtain ⟨h1, h2, h3⟩ := mem_cov.1 hx
    exact ⟨h1, h2, (st_le h3).2⟩
theorem le_rch {up : List UInt8} (h : Ord (le up) up.length) (k : Nat) : ∀ a b, a < up.length → b < up.length → le up a b = true → btw up a b ≤ k + 1 → rch (cov up up.length) k a b = true := by
  induction k with
  | zero =>
    intro a b ha hb h1 h2
    refine decide_eq_true ?_
    by_cases e : a = b
    · exact e
    · have h3 := btw_l h ha hb hb h1 (h.refl b hb) e
      have h4 : 0 < btw up b b := List.countP_pos_iff.2 ⟨b, List.mem_range.2 hb, by rw [h.refl b hb]; rfl⟩
      omega
  | succ k ih =>
    intro a b ha hb h1 h2
    by_cases e : a = b
    · subst e
      refine rrnd_mono _ _ (ih a a ha ha h1 ?_)
      have h3 : btw up a a ≤ 1 := by
        have h4 : btw up a a = ((List.range up.length).countP fun c => c == a) := by
          refine List.countP_congr fun c hc => ?_
          have hc := List.mem_range.1 hc
          rw [Bool.and_eq_true, beq_iff_eq]
          exact ⟨fun h5 => h.anti c a hc ha h5.2 h5.1, fun h5 => by subst h5; exact ⟨h1, h1⟩⟩
        rw [h4]
        have := List.nodup_range (n := up.length)
        have := List.nodup_iff_count.1 this a
        exact this
      omega
    · obtain ⟨c, hc, h3, h4⟩ := last_st h hb _ a (Nat.le_refl _) ha h1 e
      have h5 := st_le h4
      refine rrnd_mem _ _ (mem_cov.2 ⟨hc, hb, h4⟩) (ih a c ha hc h3 ?_)
      have := btw_r h ha hc hb h3 h5.2 h5.1
      omega
/-- The order is what the covers lead to. -/
theorem rch_eq {up : List UInt8} (h : Ord (le up) up.length) {a b : Nat} (ha : a < up.length) (hb : b < up.length) : rch (cov up up.length) up.length a b = le up a b := by
  cases e : le up a b
  · cases e2 : rch (cov up up.length) up.length a b
    · rfl
    · rw [rch_le h _ a b ha hb e2] at e; cases e
  · refine le_rch h _ a b ha hb e ?_
    have := List.countP_le_length (p := fun c => le up a c && le up c b) (l := List.range up.length)
    rw [List.length_range] at this
    exact Nat.le_succ_of_le this
end Go.Proofs.Ytfjnapmhnfjopaa
