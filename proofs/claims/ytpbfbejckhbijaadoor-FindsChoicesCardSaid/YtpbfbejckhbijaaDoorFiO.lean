/- Plain facts for the stable sort: the insertion sort of a stretch keeps places of equal cells in order; what is in order is so in one way alone; how many places come before one. -/
import Derived.Test.YtpbfbejckhbijaaDoorFiN
import Derived.Sort.WalkA
namespace Go.Proofs.YtpbfbejckhbijaaDoor
open Go.RowKit Go.Sort
/-! The insertion sort keeps places of equal cells in order. -/
theorem insInner_asc (z : List Int) {N : Nat} (a i : Nat) : ∀ (j : Nat) (d : Array (Fin (N + 1))), a ≤ j → j ≤ i → i < d.size →
    (∀ s t, a ≤ s → s < t → t ≤ i → s ≠ j → t ≠ j → ltZ z d[s]! d[t]!) → (∀ t, j < t → t ≤ i → ltZ z d[j]! d[t]!) → (∀ t, a ≤ t → t < j → (d[t]!).val < (d[j]!).val) →
    Asc (ltZ z) (fun t => (insInner (ltOf (cfF z)) a j d)[t]!) a (i + 1) ∧ (∀ t, t < a ∨ i < t → (insInner (ltOf (cfF z)) a j d)[t]! = d[t]!) ∧ (∀ t, a ≤ t → t ≤ i → ∃ s, a ≤ s ∧ s ≤ i ∧ (insInner (ltOf (cfF z)) a j d)[t]! = d[s]!) := by
  intro j
  induction j with
  | zero =>
    intro d h1 h2 h3 H1 H2 H3
    rw [insInner_stop _ _ _ _ (.inl (Nat.zero_le a))]
    refine ⟨fun s t q1 q2 q3 => ?_, fun _ _ => rfl, fun t t1 t2 => ⟨t, t1, t2, rfl⟩⟩
    by_cases c : s = 0
    · subst c; exact H2 t q2 (by omega)
    · exact H1 s t q1 q2 (by omega) c (by omega)
  | succ j ih =>
    intro d h1 h2 h3 H1 H2 H3
    by_cases ha : a < j + 1
    · by_cases hl : ltOf (cfF z) d[j + 1]! d[j]! = true
      · rw [insInner_go _ _ _ _ ha hl]
        simp only [Nat.add_sub_cancel]
        have hg := fun k => swp_get d (i := j + 1) (j := j) (by omega) (by omega) k
        have hlt : ltZ z d[j + 1]! d[j]! := ask_lt z (H3 j (by omega) (by omega)) (by unfold ltOf at hl; simpa using hl)
        have h := ih (Sort.swp d (j + 1) j) (by omega) (by omega) (by rw [size_swp]; exact h3) (fun s t q1 q2 q3 q4 q5 => ?_) (fun t q1 q2 => ?_) (fun t q1 q2 => ?_)
        · refine ⟨h.1, fun t ht => ?_, fun t t1 t2 => ?_⟩
          · rw [h.2.1 t ht, hg, if_neg (by omega), if_neg (by omega)]
          · obtain ⟨s, s1, s2, s3⟩ := h.2.2 t t1 t2
            rw [s3, hg]
            by_cases e1 : s = j
            · rw [if_pos e1]; exact ⟨j + 1, by omega, by omega, rfl⟩
            · rw [if_neg e1]
              by_cases e2 : s = j + 1
              · rw [if_pos e2]; exact ⟨j, by omega, by omega, rfl⟩
              · rw [if_neg e2]; exact ⟨s, s1, s2, rfl⟩
        · rw [hg, hg, if_neg q4, if_neg q5]
          by_cases e1 : s = j + 1
          · rw [if_pos e1, if_neg (by omega)]; exact H1 j t (by omega) (by omega) q3 (by omega) (by omega)
          · rw [if_neg e1]
            by_cases e2 : t = j + 1
            · rw [if_pos e2]; exact H1 s j q1 (by omega) (by omega) (by omega) (by omega)
            · rw [if_neg e2]; exact H1 s t q1 q2 q3 e1 e2
        · rw [hg, hg, if_pos rfl, if_neg (by omega)]
          by_cases e : t = j + 1
          · rw [if_pos e]; exact hlt
          · rw [if_neg e]; exact H2 t (by omega) q2
        · rw [hg, hg, if_pos rfl, if_neg (by omega), if_neg (by omega)]; exact H3 t q1 (by omega)
      · have hl' : ltOf (cfF z) d[j + 1]! d[j]! = false := by simpa using hl
        rw [insInner_stop _ _ _ _ (.inr (by simpa using hl'))]
        have hge : ltZ z d[j]! d[j + 1]! := ask_ge z (H3 j (by omega) (by omega)) (by unfold ltOf at hl; simpa using hl)
        refine ⟨fun s t q1 q2 q3 => ?_, fun _ _ => rfl, fun t t1 t2 => ⟨t, t1, t2, rfl⟩⟩
        by_cases e1 : s = j + 1
        · subst e1; exact H2 t q2 (by omega)
        · by_cases e2 : t = j + 1
          · subst e2
            by_cases e3 : s = j
            · subst e3; exact hge
            · exact ltZ_tr z _ _ _ (H1 s j q1 (by omega) (by omega) (by omega) (by omega)) hge
          · exact H1 s t q1 q2 (by omega) e1 e2
    · rw [insInner_stop _ _ _ _ (.inl (by omega))]
      refine ⟨fun s t q1 q2 q3 => ?_, fun _ _ => rfl, fun t t1 t2 => ⟨t, t1, t2, rfl⟩⟩
      by_cases e1 : s = j + 1
      · subst e1; exact H2 t q2 (by omega)
      · exact H1 s t q1 q2 (by omega) e1 (by omega)
theorem insOuter_bl (z : List Int) {N : Nat} (a b : Nat) : ∀ (k i : Nat) (d : Array (Fin (N + 1))), b - i = k → a < i → i ≤ b → b ≤ d.size → Bl z (fun t => d[t]!) a i → (∀ t, i ≤ t → t < b → (d[t]!).val = t) →
    Bl z (fun t => (insOuter (ltOf (cfF z)) a b i d)[t]!) a b ∧ ∀ t, t < a ∨ b ≤ t → (insOuter (ltOf (cfF z)) a b i d)[t]! = d[t]! := by
  intro k
  induction k with
  | zero =>
    intro i d h1 h2 h3 h4 hb hr
    rw [insOuter_stop _ _ _ _ _ (by omega)]
    have : i = b := by omega
    subst this
    exact ⟨hb, fun _ _ => rfl⟩
  | succ k ih =>
    intro i d h1 h2 h3 h4 hb hr
    rw [insOuter_go _ _ _ _ _ (by omega)]
    have hi := insInner_asc z a i i d (by omega) (Nat.le_refl _) (by omega) (fun s t q1 q2 q3 q4 q5 => hb.1 s t q1 q2 (by omega)) (fun t q1 q2 => by omega) (fun t q1 q2 => by have := (hb.2 t q1 q2).2; rw [hr i (Nat.le_refl _) (by omega)]; exact this)
    have h := ih (i + 1) (insInner (ltOf (cfF z)) a i d) (by omega) (by omega) (by omega) (by rw [insInner_size]; exact h4) ⟨hi.1, fun t t1 t2 => ?_⟩ (fun t t1 t2 => by rw [hi.2.1 t (.inr (by omega))]; exact hr t (by omega) t2)
    · exact ⟨h.1, fun t ht => by rw [h.2 t ht, hi.2.1 t (by omega)]⟩
    · obtain ⟨s, s1, s2, s3⟩ := hi.2.2 t t1 (by omega)
      show a ≤ ((insInner (ltOf (cfF z)) a i d)[t]!).val ∧ ((insInner (ltOf (cfF z)) a i d)[t]!).val < i + 1
      rw [s3]
      by_cases e : s = i
      · subst e; rw [hr s (Nat.le_refl _) (by omega)]; omega
      · have h9 : a ≤ (d[s]!).val ∧ (d[s]!).val < i := hb.2 s s1 (by omega)
        omega
theorem insSort_bl (z : List Int) {N : Nat} {a b : Nat} (d : Array (Fin (N + 1))) (h1 : a ≤ b) (h2 : b ≤ d.size) (hr : ∀ t, a ≤ t → t < b → (d[t]!).val = t) :
    Bl z (fun t => (Sort.insertionSort (ltOf (cfF z)) d a b)[t]!) a b ∧ ∀ t, t < a ∨ b ≤ t → (Sort.insertionSort (ltOf (cfF z)) d a b)[t]! = d[t]! := by
  unfold Sort.insertionSort
  by_cases h : a < b
  · refine insOuter_bl z a b _ (a + 1) d rfl (by omega) h h2 ⟨fun i j q1 q2 q3 => by omega, fun x x1 x2 => ?_⟩ (fun t t1 t2 => hr t (by omega) t2)
    have : x = a := by omega
    subst this
    show x ≤ (d[x]!).val ∧ (d[x]!).val < x + 1
    rw [hr x (Nat.le_refl _) h]; omega
  · rw [insOuter_stop _ _ _ _ _ (by omega)]
    exact ⟨Bl.none z _ (by omega), fun _ _ => rfl⟩
/-! What is in order is so in one way alone. -/
theorem perm_of_within {α : Type} [BEq α] [LawfulBEq α] : ∀ (l m : List α), l.Nodup → (∀ x, x ∈ l → x ∈ m) → m.length ≤ l.length → l.Perm m
  | [], m, _, _, h => by
    have : m = [] := List.length_eq_zero_iff.mp (by simpa using h)
    rw [this]
  | a :: l, m, hn, hs, hl => by
    have ha : a ∈ m := hs a (by simp)
    rw [List.nodup_cons] at hn
    have h1 := perm_of_within l (m.erase a) hn.2 (fun x hx => (List.mem_erase_of_ne (fun e : x = a => hn.1 (by rw [← e]; exact hx))).mpr (hs x (by simp [hx]))) (by rw [List.length_erase_of_mem ha]; simp at hl; omega)
    exact (List.Perm.cons a h1).trans (List.perm_cons_erase ha).symm
theorem asc_pairwise {z : List Int} {n : Nat} {f : Nat → Fin n} {k : Nat} (h : Asc (ltZ z) f 0 k) : ((List.range k).map f).Pairwise (ltZ z) := by
  rw [List.pairwise_map]
  refine List.Pairwise.imp_of_mem ?_ List.pairwise_lt_range
  intro x y hx hy hxy
  exact h x y (Nat.zero_le _) hxy (by simpa using hy)
theorem asc_perm {z : List Int} {n : Nat} {f : Nat → Fin n} (h : Asc (ltZ z) f 0 n) : ((List.range n).map f).Perm (List.finRange n) :=
  perm_of_within _ _ (List.Pairwise.imp (fun {a b} (hxy : ltZ z a b) (e : a = b) => ltZ_irr z b (by rw [e] at hxy; exact hxy)) (asc_pairwise h)) (fun x _ => List.mem_finRange x) (by simp)
theorem asc_one {z : List Int} {n : Nat} {f g : Nat → Fin n} (hf : Asc (ltZ z) f 0 n) (hg : Asc (ltZ z) g 0 n) {t : Nat} (ht : t < n) : f t = g t := by
  have h := List.Perm.eq_of_pairwise (le := ltZ z) (fun a b _ _ h1 h2 => absurd (ltZ_tr z _ _ _ h1 h2) (ltZ_irr z a)) (asc_pairwise hf) (asc_pairwise hg) ((asc_perm hf).trans (asc_perm hg).symm)
  have h2 := congrArg (fun l => l[t]?) h
  simpa [ht] using h2
/-- How many places come before one. -/
def rkP (z : List Int) (i k : Nat) : Bool := decide (z.getD k 0 < z.getD i 0) || (decide (k < i) && decide (z.getD k 0 = z.getD i 0))
theorem countP_below (p : Nat) : ∀ n, (List.range n).countP (fun k => decide (k < p)) = min p n
  | 0 => by simp
  | n + 1 => by
    rw [List.range_succ, List.countP_append, countP_below p n]
    by_cases h : n < p
    · simp [h]; omega
    · simp [h]; omega
theorem asc_rank {z : List Int} {n : Nat} {f : Nat → Fin n} (h : Asc (ltZ z) f 0 n) {p : Nat} (hp : p < n) : (List.range n).countP (rkP z (f p).val) = p := by
  have h1 : (List.range n).countP (rkP z (f p).val) = (List.finRange n).countP (fun k => rkP z (f p).val k.val) := by
    have : List.range n = (List.finRange n).map Fin.val := by
      apply List.ext_getElem
      · simp
      · intro i h1 h2; simp
    rw [this, List.countP_map]
    rfl
  rw [h1, ← (asc_perm h).countP_eq, List.countP_map]
  have h2 : ∀ k, k ∈ List.range n → ((fun k : Fin n => rkP z (f p).val k.val) ∘ f) k = decide (k < p) := fun k hk => by
    have hk2 : k < n := by simpa using hk
    have e : ∀ x y : Fin n, rkP z y.val x.val = true ↔ ltZ z x y := fun x y => by unfold rkP ltZ; simp [and_comm]
    rw [Bool.eq_iff_iff]
    show rkP z (f p).val (f k).val = true ↔ _
    rw [e]
    rcases Nat.lt_trichotomy k p with c | c | c
    · simp [c, h k p (Nat.zero_le _) c hp]
    · subst c; simp [ltZ_irr]
    · have := h p k (Nat.zero_le _) c hk2
      have h3 : ¬ ltZ z (f k) (f p) := fun h4 => ltZ_irr z _ (ltZ_tr z _ _ _ this h4)
      simp [h3]; omega
  rw [List.countP_congr fun k hk => by rw [h2 k hk], countP_below]
  omega
theorem asc_onto {z : List Int} {n : Nat} {f : Nat → Fin n} (h : Asc (ltZ z) f 0 n) {i : Nat} (hi : i < n) : ∃ p, p < n ∧ (f p).val = i := by
  have h1 : (⟨i, hi⟩ : Fin n) ∈ (List.range n).map f := (asc_perm h).mem_iff.mpr (List.mem_finRange _)
  rw [List.mem_map] at h1
  obtain ⟨p, hp, e⟩ := h1
  exact ⟨p, by simpa using hp, by rw [e]⟩
end Go.Proofs.YtpbfbejckhbijaaDoor
