/- Pure: sets of labels as numbers, levels, sorted lists, chains, least labels, folds. -/
import Derived.Test.YtablaacddbkeiaaGreatDoorLtPu
import Derived.Sort.Statements
namespace Go.Proofs.YtablaacddbkeiaaGreatDoor

/-! Sets. -/
def bt (ls : List Nat) : Nat := ls.foldl (fun s a => s ||| 2 ^ a) 0
theorem bt_snoc (ls : List Nat) (a : Nat) : bt (ls ++ [a]) = bt ls ||| 2 ^ a := by unfold bt; rw [List.foldl_append]; rfl
theorem bt_fold (ls : List Nat) (s b : Nat) : (ls.foldl (fun s a => s ||| 2 ^ a) s).testBit b = (s.testBit b || decide (b ∈ ls)) := by
  induction ls generalizing s with
  | nil => simp
  | cons a r ih =>
    rw [List.foldl_cons, ih, Nat.testBit_or, Nat.testBit_two_pow, Bool.or_assoc]
    congr 1
    rw [Bool.eq_iff_iff]
    simp only [Bool.or_eq_true, decide_eq_true_eq, List.mem_cons]
    constructor
    · rintro (h | h)
      · exact .inl h.symm
      · exact .inr h
    · rintro (h | h)
      · exact .inl h.symm
      · exact .inr h
theorem bt_bit (ls : List Nat) (b : Nat) : (bt ls).testBit b = decide (b ∈ ls) := by
  unfold bt; rw [bt_fold]; simp
theorem or_pow_lt {s a k : Nat} (hs : s < 2 ^ k) (ha : a < k) : s ||| 2 ^ a < 2 ^ k := Nat.or_lt_two_pow hs (Nat.pow_lt_pow_right (by decide) ha)
theorem fold_lt (ls : List Nat) (s : Nat) (hs : s < 256) (h : ∀ a ∈ ls, a < 8) : ls.foldl (fun s a => s ||| 2 ^ a) s < 256 := by
  induction ls generalizing s with
  | nil => exact hs
  | cons a r ih =>
    rw [List.foldl_cons]
    exact ih _ (or_pow_lt (k := 8) hs (h a (by simp))) (fun b hb => h b (by simp [hb]))
theorem bt_lt (ls : List Nat) (h : ∀ a ∈ ls, a < 8) : bt ls < 256 := fold_lt ls 0 (by decide) h
theorem bt_take {ls : List Nat} {k : Nat} (h : k < ls.length) : bt (ls.take (k + 1)) = bt (ls.take k) ||| 2 ^ ls[k] := by
  rw [List.take_succ_eq_append_getElem h, bt_snoc]
theorem bt_take_lt {ls : List Nat} (h : ∀ a ∈ ls, a < 8) (k : Nat) : bt (ls.take k) < 256 := bt_lt _ fun a ha => h a (List.mem_of_mem_take ha)

/-- The labels of a set, by their numbers, as far as k. -/
def lbK (s k : Nat) : List Nat := (List.range k).filter s.testBit
def lbl (s : Nat) : List Nat := lbK s 8
theorem lbK_yes {s k : Nat} (h : s.testBit k = true) : lbK s (k + 1) = lbK s k ++ [k] := by
  unfold lbK; rw [List.range_succ, List.filter_append]; simp [h]
theorem lbK_no {s k : Nat} (h : s.testBit k = false) : lbK s (k + 1) = lbK s k := by
  unfold lbK; rw [List.range_succ, List.filter_append]; simp [h]
theorem lbK_len (s k : Nat) : (lbK s k).length ≤ k := by
  have := List.length_filter_le s.testBit (List.range k)
  rwa [List.length_range] at this
theorem mem_lbl {s a : Nat} : a ∈ lbl s ↔ a < 8 ∧ s.testBit a = true := by
  unfold lbl lbK; rw [List.mem_filter, List.mem_range]
theorem lbl_nodup (s : Nat) : (lbl s).Nodup := by
  unfold lbl lbK; exact List.Nodup.sublist List.filter_sublist List.nodup_range
theorem lbl_lt {s a : Nat} (h : a ∈ lbl s) : a < 8 := (mem_lbl.1 h).1
theorem lbl_bt {ls : List Nat} (h : ∀ a ∈ ls, a < 8) (a : Nat) : a ∈ lbl (bt ls) ↔ a ∈ ls := by
  rw [mem_lbl, bt_bit]
  simp only [decide_eq_true_eq]
  exact ⟨fun h => h.2, fun hm => ⟨h a hm, hm⟩⟩
/-- How many. -/
def pop (s : Nat) : Nat := (lbl s).length
theorem pop_le (s : Nat) : pop s ≤ 8 := lbK_len s 8

/-! Levels. -/
def lv (up : List UInt8) (a : Nat) : Nat := ((List.range up.length).filter fun b => le up b a).length
def lvK (up : List UInt8) (a k : Nat) : Nat := ((List.range k).filter fun b => le up b a).length
theorem lvK_t {up : List UInt8} {a k : Nat} (h : le up k a = true) : lvK up a (k + 1) = lvK up a k + 1 := by
  unfold lvK; rw [List.range_succ, List.filter_append]; simp [h]
theorem lvK_f {up : List UInt8} {a k : Nat} (h : le up k a = false) : lvK up a (k + 1) = lvK up a k := by
  unfold lvK; rw [List.range_succ, List.filter_append]; simp [h]
theorem lvK_le (up : List UInt8) (a k : Nat) : lvK up a k ≤ k := by
  have := List.length_filter_le (fun b => le up b a) (List.range k)
  rwa [List.length_range] at this
theorem lv_le (up : List UInt8) (a : Nat) : lv up a ≤ up.length := lvK_le up a up.length
theorem filter_range_ext {n m : Nat} {p : Nat → Bool} (hnm : n ≤ m) (h : ∀ a, n ≤ a → a < m → p a = false) : (List.range m).filter p = (List.range n).filter p := by
  obtain ⟨k, rfl⟩ : ∃ k, m = n + k := ⟨m - n, by omega⟩
  clear hnm
  induction k with
  | zero => rfl
  | succ k ih =>
    rw [← Nat.add_assoc, List.range_succ, List.filter_append, ih fun a h1 h2 => h a h1 (by omega)]
    simp [h (n + k) (by omega) (by omega)]
theorem filter_congr' {n : Nat} {p q : Nat → Bool} (h : ∀ a, a < n → p a = q a) : (List.range n).filter p = (List.range n).filter q :=
  List.filter_congr fun a ha => h a (List.mem_range.1 ha)
/-- The labels at or below a. -/
theorem pop_dn (up : List UInt8) (a : Nat) (hn : up.length ≤ 8) : pop (dn1 up a up.length) = lv up a := by
  unfold pop lbl lbK lv
  rw [filter_range_ext hn fun b h1 h2 => by rw [dn1_bit, decide_eq_false (by omega)]; rfl]
  rw [filter_congr' (q := fun b => le up b a) fun b hb => by rw [dn1_bit, decide_eq_true hb]; rfl]
theorem lv_pos {up : List UInt8} {a : Nat} (ha : a < up.length) (h : le up a a = true) : 1 ≤ lv up a :=
  List.length_pos_of_mem (a := a) (List.mem_filter.2 ⟨List.mem_range.2 ha, h⟩)
theorem sub_len {l1 l2 : List Nat} (h1 : l1.Nodup) (h : ∀ x ∈ l1, x ∈ l2) : l1.length ≤ l2.length := by
  induction l1 generalizing l2 with
  | nil => exact Nat.zero_le _
  | cons a r ih =>
    have ha : a ∈ l2 := h a (by simp)
    have hr := (List.nodup_cons.1 h1)
    have := ih (l2 := l2.erase a) hr.2 fun x hx => (List.mem_erase_of_ne (by intro e; subst e; exact hr.1 hx)).2 (h x (by simp [hx]))
    rw [List.length_erase_of_mem ha] at this
    have hp := List.length_pos_of_mem ha
    rw [List.length_cons]; omega
theorem sub_lt {l1 l2 : List Nat} {b : Nat} (h1 : l1.Nodup) (h : ∀ x ∈ l1, x ∈ l2) (hb : b ∈ l2) (hn : b ∉ l1) : l1.length < l2.length := by
  have := sub_len (l1 := b :: l1) (l2 := l2) (List.nodup_cons.2 ⟨hn, h1⟩) fun x hx => by
    rcases List.mem_cons.1 hx with rfl | hx
    · exact hb
    · exact h x hx
  rw [List.length_cons] at this; omega
theorem rf_nodup (n : Nat) (p : Nat → Bool) : ((List.range n).filter p).Nodup := List.Nodup.sublist List.filter_sublist List.nodup_range
/-- Below means a lower level. -/
theorem lv_lt {up : List UInt8} (ho : Ord (le up) up.length) {a b : Nat} (ha : a < up.length) (hb : b < up.length) (h : le up a b = true) (hne : a ≠ b) : lv up a < lv up b := by
  unfold lv
  refine sub_lt (b := b) (rf_nodup _ _) (fun x hx => ?_) (List.mem_filter.2 ⟨List.mem_range.2 hb, ho.refl b hb⟩) fun hx => ?_
  · rw [List.mem_filter, List.mem_range] at hx ⊢
    exact ⟨hx.1, ho.trans x a b hx.1 ha hb hx.2 h⟩
  · rw [List.mem_filter] at hx
    exact hne (ho.anti a b ha hb h hx.2)

/-! Sorted lists. -/
def lt2 (up : List UInt8) (a b : Nat) : Bool := decide (lv up a < lv up b) || (decide (lv up a = lv up b) && decide (a < b))
theorem lt2_iff {up : List UInt8} {a b : Nat} : lt2 up a b = true ↔ lv up a < lv up b ∨ (lv up a = lv up b ∧ a < b) := by
  unfold lt2; simp
theorem lt2_no {up : List UInt8} {a b : Nat} : lt2 up a b = false ↔ lv up b < lv up a ∨ (lv up a = lv up b ∧ b ≤ a) := by
  rw [← Bool.not_eq_true, lt2_iff]; omega
/-- The labels that are so, sorted: of the k lowest levels, and of the next one those below j. -/
def srR (up : List UInt8) (p : Nat → Bool) (k j : Nat) : List Nat := (List.range j).filter fun a => decide (lv up a = k + 1) && p a
def srK (up : List UInt8) (p : Nat → Bool) (k : Nat) : List Nat := (List.range k).flatMap fun i => srR up p i up.length
def srt (up : List UInt8) (p : Nat → Bool) : List Nat := srK up p up.length
theorem srR_yes {up : List UInt8} {p : Nat → Bool} {k j : Nat} (h : decide (lv up j = k + 1) = true) (h2 : p j = true) : srR up p k (j + 1) = srR up p k j ++ [j] := by
  unfold srR; rw [List.range_succ, List.filter_append]; simp [h2, of_decide_eq_true h]
theorem srR_no {up : List UInt8} {p : Nat → Bool} {k j : Nat} (h : decide (lv up j = k + 1) = false ∨ p j = false) : srR up p k (j + 1) = srR up p k j := by
  unfold srR; rw [List.range_succ, List.filter_append]
  rcases h with h | h
  · simp [of_decide_eq_false h]
  · simp [h]
theorem srK_succ (up : List UInt8) (p : Nat → Bool) (k : Nat) : srK up p (k + 1) = srK up p k ++ srR up p k up.length := by
  unfold srK; rw [List.range_succ, List.flatMap_append]; simp
theorem mem_srR {up : List UInt8} {p : Nat → Bool} {k j a : Nat} : a ∈ srR up p k j ↔ a < j ∧ lv up a = k + 1 ∧ p a = true := by
  unfold srR; rw [List.mem_filter, List.mem_range]; simp
theorem mem_srK {up : List UInt8} {p : Nat → Bool} {k a : Nat} : a ∈ srK up p k ↔ a < up.length ∧ 1 ≤ lv up a ∧ lv up a ≤ k ∧ p a = true := by
  unfold srK; rw [List.mem_flatMap]
  constructor
  · rintro ⟨i, hi, h⟩
    rw [List.mem_range] at hi
    obtain ⟨h1, h2, h3⟩ := mem_srR.1 h
    exact ⟨h1, by omega, by omega, h3⟩
  · rintro ⟨h1, h2, h3, h4⟩
    exact ⟨lv up a - 1, List.mem_range.2 (by omega), mem_srR.2 ⟨h1, by omega, h4⟩⟩
theorem mem_srt {up : List UInt8} {p : Nat → Bool} (ho : Ord (le up) up.length) {a : Nat} : a ∈ srt up p ↔ a < up.length ∧ p a = true := by
  unfold srt; rw [mem_srK]
  constructor
  · rintro ⟨h1, _, _, h4⟩; exact ⟨h1, h4⟩
  · rintro ⟨h1, h4⟩; exact ⟨h1, lv_pos h1 (ho.refl a h1), lv_le up a, h4⟩
theorem srK_pair (up : List UInt8) (p : Nat → Bool) (k : Nat) : (srK up p k).Pairwise fun a b => lt2 up a b = true := by
  unfold srK
  rw [List.pairwise_flatMap]
  constructor
  · intro i _
    unfold srR
    rw [List.pairwise_filter]
    refine List.Pairwise.imp ?_ (List.pairwise_lt_range (n := up.length))
    intro a b hab h1 h2
    simp only [Bool.and_eq_true, decide_eq_true_eq] at h1 h2
    exact lt2_iff.2 (.inr ⟨by omega, hab⟩)
  · refine List.Pairwise.imp ?_ (List.pairwise_lt_range (n := k))
    intro i j hij x hx y hy
    have h1 := mem_srR.1 hx
    have h2 := mem_srR.1 hy
    exact lt2_iff.2 (.inl (by omega))
theorem srt_pair (up : List UInt8) (p : Nat → Bool) : (srt up p).Pairwise fun a b => lt2 up a b = true := srK_pair up p _
theorem srt_nodup (up : List UInt8) (p : Nat → Bool) : (srt up p).Nodup := by
  refine List.Pairwise.imp ?_ (srt_pair up p)
  intro a b h e
  subst e
  rcases lt2_iff.1 h with h | h <;> omega
theorem srK_len (up : List UInt8) (p : Nat → Bool) (k : Nat) : (srK up p k).length ≤ up.length := by
  have hd : (srK up p k).Nodup := by
    refine List.Pairwise.imp ?_ (srK_pair up p k)
    intro a b h e
    subst e
    rcases lt2_iff.1 h with h | h <;> omega
  have := sub_len (l2 := List.range up.length) hd fun x hx => List.mem_range.2 (mem_srK.1 hx).1
  rwa [List.length_range] at this
theorem srR_len (up : List UInt8) (p : Nat → Bool) (k j : Nat) : (srR up p k j).length ≤ j := by
  have := List.length_filter_le (fun a => decide (lv up a = k + 1) && p a) (List.range j)
  rwa [List.length_range] at this
theorem srt_len (up : List UInt8) (p : Nat → Bool) : (srt up p).length ≤ up.length := srK_len up p _
theorem srt_congr (up : List UInt8) {p q : Nat → Bool} (h : ∀ a, a < up.length → p a = q a) : srt up p = srt up q := by
  unfold srt srK
  have : ∀ i, srR up p i up.length = srR up q i up.length := fun i => by
    unfold srR; exact filter_congr' fun a ha => by rw [h a ha]
  simp only [this]
/-- There is one sorted list of the same labels. -/
theorem pair_uniq (up : List UInt8) : ∀ {l1 l2 : List Nat}, l1.Pairwise (fun a b => lt2 up a b = true) → l2.Pairwise (fun a b => lt2 up a b = true) → (∀ x, x ∈ l1 ↔ x ∈ l2) → l1 = l2
  | [], l2, _, _, h => by
    cases l2 with
    | nil => rfl
    | cons b r => exact absurd ((h b).2 (by simp)) (by simp)
  | a :: r, [], _, _, h => absurd ((h a).1 (by simp)) (by simp)
  | a :: r, b :: r2, h1, h2, h => by
    have p1 := List.pairwise_cons.1 h1
    have p2 := List.pairwise_cons.1 h2
    have hab : a = b := by
      rcases List.mem_cons.1 ((h a).1 (by simp)) with e | e
      · exact e
      · rcases List.mem_cons.1 ((h b).2 (by simp)) with e2 | e2
        · exact e2.symm
        · have q1 := lt2_iff.1 (p2.1 a e)
          have q2 := lt2_iff.1 (p1.1 b e2)
          omega
    subst hab
    have hirr : ∀ x, lt2 up x x = false := fun x => lt2_no.2 (.inr ⟨rfl, Nat.le_refl _⟩)
    rw [pair_uniq up p1.2 p2.2 fun x => ?_]
    constructor
    · intro hx
      rcases List.mem_cons.1 ((h x).1 (by simp [hx])) with e | e
      · subst e; exact absurd (p1.1 x hx) (by rw [hirr]; decide)
      · exact e
    · intro hx
      rcases List.mem_cons.1 ((h x).2 (by simp [hx])) with e | e
      · subst e; exact absurd (p2.1 x hx) (by rw [hirr]; decide)
      · exact e

/-! Chains, least labels. -/
def cmpB (up : List UInt8) (a b : Nat) : Bool := le up b a || le up a b
def chB (up : List UInt8) (ls : List Nat) : Bool := ls.all fun a => ls.all fun b => cmpB up a b
def leB (up : List UInt8) (ls : List Nat) (a : Nat) : Bool := decide (a ∈ ls) && ls.all fun b => decide (b = a) || !le up b a
theorem chB_iff {up : List UInt8} {ls : List Nat} : chB up ls = true ↔ ∀ a ∈ ls, ∀ b ∈ ls, le up b a = true ∨ le up a b = true := by
  unfold chB cmpB; simp
theorem leB_iff {up : List UInt8} {ls : List Nat} {a : Nat} : leB up ls a = true ↔ a ∈ ls ∧ ∀ b ∈ ls, b = a ∨ le up b a = false := by
  unfold leB; simp
/-- Each label of a list is at or above a least one. -/
theorem ls_least {up : List UInt8} (ho : Ord (le up) up.length) {ls : List Nat} (hl : ∀ a ∈ ls, a < up.length) : ∀ (k a : Nat), lv up a ≤ k → a ∈ ls → ∃ m, m < up.length ∧ leB up ls m = true ∧ le up m a = true
  | 0, a, hk, ha => by have := lv_pos (hl a ha) (ho.refl a (hl a ha)); omega
  | k + 1, a, hk, ha => by
    by_cases h : ∃ b, b ∈ ls ∧ b ≠ a ∧ le up b a = true
    · obtain ⟨b, hb, hne, hba⟩ := h
      have h1 := lv_lt ho (hl b hb) (hl a ha) hba hne
      obtain ⟨m, hm, h2, h3⟩ := ls_least ho hl k b (by omega) hb
      exact ⟨m, hm, h2, ho.trans m b a hm (hl b hb) (hl a ha) h3 hba⟩
    · refine ⟨a, hl a ha, leB_iff.2 ⟨ha, fun b hb => ?_⟩, ho.refl a (hl a ha)⟩
      by_cases e : b = a
      · exact .inl e
      · right
        cases hba : le up b a
        · rfl
        · exact absurd ⟨b, hb, e, hba⟩ h

/-! Folds. -/
def jn (R : Nat → Nat → Bool) (n b : Nat) (ls : List Nat) : Nat := ls.foldl (fun r a => J R n r a) b
theorem jn_snoc (R : Nat → Nat → Bool) (n b : Nat) (ls : List Nat) (a : Nat) : jn R n b (ls ++ [a]) = J R n (jn R n b ls) a := by unfold jn; rw [List.foldl_append]; rfl
theorem jn_take {R : Nat → Nat → Bool} {n b : Nat} {ls : List Nat} {k : Nat} (h : k < ls.length) : jn R n b (ls.take (k + 1)) = J R n (jn R n b (ls.take k)) ls[k] := by
  rw [List.take_succ_eq_append_getElem h, jn_snoc]
theorem jn_lt {R : Nat → Nat → Bool} {n : Nat} (ho : Ord R n) : ∀ {ls : List Nat} {b : Nat}, b < n → (∀ a ∈ ls, a < n) → jn R n b ls < n
  | [], _, hb, _ => hb
  | a :: r, b, hb, h => by
    show jn R n (J R n b a) r < n
    exact jn_lt ho (ho.J_lt hb (h a (by simp))) fun x hx => h x (by simp [hx])
/-- The join of a list: at or below what all are at or below. -/
theorem jn_le {R : Nat → Nat → Bool} {n : Nat} (ho : Ord R n) : ∀ {ls : List Nat} {b t : Nat}, b < n → t < n → (∀ a ∈ ls, a < n) → (R (jn R n b ls) t = true ↔ R b t = true ∧ ∀ a ∈ ls, R a t = true)
  | [], b, t, hb, ht, h => by
    show R b t = true ↔ _
    simp
  | a :: r, b, t, hb, ht, h => by
    have ha : a < n := h a (by simp)
    have hJ := ho.J_lt hb ha
    show R (jn R n (J R n b a) r) t = true ↔ _
    rw [jn_le ho hJ ht fun x hx => h x (by simp [hx])]
    constructor
    · rintro ⟨h1, h2⟩
      refine ⟨ho.trans _ _ _ hb hJ ht (ho.J_l hb ha) h1, fun x hx => ?_⟩
      rcases List.mem_cons.1 hx with rfl | hx
      · exact ho.trans _ _ _ ha hJ ht (ho.J_r hb ha) h1
      · exact h2 x hx
    · rintro ⟨h1, h2⟩
      exact ⟨ho.J_min hb ha ht h1 (h2 a (by simp)), fun x hx => h2 x (by simp [hx])⟩
/-- Two labels that are at or below the same ones are one. -/
theorem eq_of_le {R : Nat → Nat → Bool} {n : Nat} (ho : Ord R n) {a b : Nat} (ha : a < n) (hb : b < n) (h : ∀ t, t < n → (R a t = true ↔ R b t = true)) : a = b :=
  ho.anti a b ha hb ((h b hb).2 (ho.refl b hb)) ((h a ha).1 (ho.refl a ha))
/-- The order of a list does not matter to its join, nor what stands there twice. -/
theorem jn_mem {R : Nat → Nat → Bool} {n : Nat} (ho : Ord R n) {l1 l2 : List Nat} {b : Nat} (hb : b < n) (h1 : ∀ a ∈ l1, a < n) (h2 : ∀ a ∈ l2, a < n) (h : ∀ x, x ∈ l1 ↔ x ∈ l2) : jn R n b l1 = jn R n b l2 :=
  eq_of_le ho (jn_lt ho hb h1) (jn_lt ho hb h2) fun t ht => by
    rw [jn_le ho hb ht h1, jn_le ho hb ht h2]
    exact ⟨fun ⟨p, q⟩ => ⟨p, fun a ha => q a ((h a).2 ha)⟩, fun ⟨p, q⟩ => ⟨p, fun a ha => q a ((h a).1 ha)⟩⟩
/-- Of two lists together. -/
theorem jn_app {R : Nat → Nat → Bool} {n : Nat} (ho : Ord R n) {l1 l2 : List Nat} {b : Nat} (hb : b < n) (h1 : ∀ a ∈ l1, a < n) (h2 : ∀ a ∈ l2, a < n) : jn R n b (l1 ++ l2) = J R n (jn R n b l1) (jn R n b l2) := by
  have h3 : ∀ a ∈ l1 ++ l2, a < n := fun a ha => (List.mem_append.1 ha).elim (h1 a) (h2 a)
  have q1 := jn_lt ho hb h1
  have q2 := jn_lt ho hb h2
  refine eq_of_le ho (jn_lt ho hb h3) (ho.J_lt q1 q2) fun t ht => ?_
  rw [jn_le ho hb ht h3]
  constructor
  · rintro ⟨p, q⟩
    exact ho.J_min q1 q2 ht ((jn_le ho hb ht h1).2 ⟨p, fun a ha => q a (by simp [ha])⟩) ((jn_le ho hb ht h2).2 ⟨p, fun a ha => q a (by simp [ha])⟩)
  · intro h
    have r1 := (jn_le ho hb ht h1).1 (ho.trans _ _ _ q1 (ho.J_lt q1 q2) ht (ho.J_l q1 q2) h)
    have r2 := (jn_le ho hb ht h2).1 (ho.trans _ _ _ q2 (ho.J_lt q1 q2) ht (ho.J_r q1 q2) h)
    exact ⟨r1.1, fun a ha => (List.mem_append.1 ha).elim (r1.2 a) (r2.2 a)⟩

/-! What flows. -/
def fl1 (up : List UInt8) (ls : List Nat) (t : Nat) (i : Nat) : Bool := !le up (ls.getD i 0) t
def flF (up : List UInt8) (ls : List Nat) (t : Nat) : Option Nat := (List.range ls.length).find? (fl1 up ls t)
end Go.Proofs.YtablaacddbkeiaaGreatDoor
