/- Pure: orders of few labels; joins by search; what follows for a lattice. -/
namespace Go.Proofs.YtablaacddbkeiaaGreatDoor

/-- Of a relation R on the labels below n: c is one that both lead to, and that leads to all such ones. -/
def gd (R : Nat → Nat → Bool) (n a b c : Nat) : Bool := R a c && R b c && (List.range n).all fun o => !(R a o && R b o) || R c o
def mt (R : Nat → Nat → Bool) (n a b : Nat) : Option Nat := (List.range n).find? (gd R n a b)
def J (R : Nat → Nat → Bool) (n a b : Nat) : Nat := (mt R n a b).getD 0
def endF (R : Nat → Nat → Bool) (n k : Nat) : Nat := (List.range k).foldl (fun t a => J R n t a) 0
def flp (R : Nat → Nat → Bool) : Nat → Nat → Bool := fun a b => R b a

structure Ord (R : Nat → Nat → Bool) (n : Nat) : Prop where
  refl : ∀ a, a < n → R a a = true
  anti : ∀ a b, a < n → b < n → R a b = true → R b a = true → a = b
  trans : ∀ a b c, a < n → b < n → c < n → R a b = true → R b c = true → R a c = true
  ex : ∀ a b, a < n → b < n → ∃ c, mt R n a b = some c

theorem gd_iff {R : Nat → Nat → Bool} {n a b c : Nat} : gd R n a b c = true ↔ R a c = true ∧ R b c = true ∧ ∀ o, o < n → R a o = true → R b o = true → R c o = true := by
  unfold gd
  simp only [Bool.and_eq_true, List.all_eq_true, List.mem_range, Bool.or_eq_true, Bool.not_eq_true', and_assoc]
  constructor
  · rintro ⟨h1, h2, h3⟩
    refine ⟨h1, h2, fun o ho ha hb => ?_⟩
    rcases h3 o ho with h | h
    · rw [ha, hb] at h; cases h
    · exact h
  · rintro ⟨h1, h2, h3⟩
    refine ⟨h1, h2, fun o ho => ?_⟩
    cases ha : R a o
    · exact .inl rfl
    · cases hb : R b o
      · exact .inl rfl
      · exact .inr (h3 o ho ha hb)

theorem mt_some {R : Nat → Nat → Bool} {n a b c : Nat} (h : mt R n a b = some c) : c < n ∧ R a c = true ∧ R b c = true ∧ ∀ o, o < n → R a o = true → R b o = true → R c o = true := by
  have h1 := List.find?_some h
  have h2 := List.mem_of_find?_eq_some h
  rw [List.mem_range] at h2
  exact ⟨h2, gd_iff.1 h1⟩

theorem find_succ {p : Nat → Bool} {k : Nat} (h : (List.range k).find? p = none) (hk : p k = false) : (List.range (k + 1)).find? p = none := by
  rw [List.range_succ, List.find?_append, h]; simp [hk]
theorem find_at {p : Nat → Bool} {k n : Nat} (h : (List.range k).find? p = none) (hk : p k = true) (hn : k < n) : (List.range n).find? p = some k := by
  obtain ⟨m, rfl⟩ : ∃ m, n = (k + 1) + m := ⟨n - (k + 1), by omega⟩
  rw [List.range_add, List.find?_append, List.range_succ, List.find?_append, h]; simp [hk]
theorem any_succ {p : Nat → Bool} {k : Nat} (h : (List.range k).any p = false) (hk : p k = false) : (List.range (k + 1)).any p = false := by
  rw [List.range_succ, List.any_append, h]; simp [hk]
theorem any_at {p : Nat → Bool} {k n : Nat} (hk : p k = true) (hn : k < n) : (List.range n).any p = true :=
  List.any_eq_true.2 ⟨k, List.mem_range.2 hn, hk⟩
/-- What one asks of each other label. -/
def okk (R : Nat → Nat → Bool) (a b c o : Nat) : Bool := !(R a o && R b o) || R c o
theorem all_succ {p : Nat → Bool} {k : Nat} (h : (List.range k).all p = true) (hk : p k = true) : (List.range (k + 1)).all p = true := by
  rw [List.range_succ, List.all_append, h]; simp [hk]
theorem all_at {p : Nat → Bool} {k n : Nat} (hk : p k = false) (hn : k < n) : (List.range n).all p = false := by
  cases h : (List.range n).all p
  · rfl
  · rw [List.all_eq_true] at h; rw [h k (List.mem_range.2 hn)] at hk; cases hk
theorem gd_t {R : Nat → Nat → Bool} {n a b c : Nat} (h1 : R a c = true) (h2 : R b c = true) (h : (List.range n).all (okk R a b c) = true) : gd R n a b c = true := by
  unfold gd; rw [h1, h2]; exact h
theorem gd_f1 {R : Nat → Nat → Bool} {n a b c : Nat} (h1 : R a c = false) : gd R n a b c = false := by unfold gd; rw [h1]; rfl
theorem gd_f2 {R : Nat → Nat → Bool} {n a b c : Nat} (h1 : R b c = false) : gd R n a b c = false := by unfold gd; rw [h1]; simp
theorem gd_f3 {R : Nat → Nat → Bool} {n a b c o : Nat} (ho : o < n) (h1 : R a o = true) (h2 : R b o = true) (h3 : R c o = false) : gd R n a b c = false := by
  unfold gd
  rw [show (List.range n).all (fun o => !(R a o && R b o) || R c o) = false from all_at (by rw [h1, h2, h3]; rfl) ho]; simp
theorem okk_1 {R : Nat → Nat → Bool} {a b c o : Nat} (h : R a o = false) : okk R a b c o = true := by unfold okk; rw [h]; rfl
theorem okk_2 {R : Nat → Nat → Bool} {a b c o : Nat} (h : R b o = false) : okk R a b c o = true := by unfold okk; rw [h]; simp
theorem okk_3 {R : Nat → Nat → Bool} {a b c o : Nat} (h : R c o = true) : okk R a b c o = true := by unfold okk; rw [h]; simp
theorem mt_at {R : Nat → Nat → Bool} {n a b k : Nat} (h : (List.range k).find? (gd R n a b) = none) (hk : gd R n a b k = true) (hn : k < n) : mt R n a b = some k := find_at h hk hn
theorem J_at {R : Nat → Nat → Bool} {n a b k : Nat} (h : mt R n a b = some k) : J R n a b = k := by unfold J; rw [h]; rfl
theorem J_no {R : Nat → Nat → Bool} {n a b : Nat} (h : mt R n a b = none) : J R n a b = 0 := by unfold J; rw [h]; rfl

namespace Ord
variable {R : Nat → Nat → Bool} {n : Nat}
theorem J_eq (h : Ord R n) {a b : Nat} (ha : a < n) (hb : b < n) : mt R n a b = some (J R n a b) := by
  obtain ⟨c, hc⟩ := h.ex a b ha hb
  unfold J; rw [hc]; rfl
theorem J_lt (h : Ord R n) {a b : Nat} (ha : a < n) (hb : b < n) : J R n a b < n := (mt_some (h.J_eq ha hb)).1
theorem J_l (h : Ord R n) {a b : Nat} (ha : a < n) (hb : b < n) : R a (J R n a b) = true := (mt_some (h.J_eq ha hb)).2.1
theorem J_r (h : Ord R n) {a b : Nat} (ha : a < n) (hb : b < n) : R b (J R n a b) = true := (mt_some (h.J_eq ha hb)).2.2.1
theorem J_min (h : Ord R n) {a b o : Nat} (ha : a < n) (hb : b < n) (ho : o < n) (h1 : R a o = true) (h2 : R b o = true) : R (J R n a b) o = true := (mt_some (h.J_eq ha hb)).2.2.2 o ho h1 h2
/-- The least one above both is the join. -/
theorem J_uniq (h : Ord R n) {a b c : Nat} (ha : a < n) (hb : b < n) (hc : c < n) (h1 : R a c = true) (h2 : R b c = true) (h3 : ∀ o, o < n → R a o = true → R b o = true → R c o = true) : J R n a b = c :=
  h.anti _ _ (h.J_lt ha hb) hc (h.J_min ha hb hc h1 h2) (h3 _ (h.J_lt ha hb) (h.J_l ha hb) (h.J_r ha hb))
theorem J_idem (h : Ord R n) {a : Nat} (ha : a < n) : J R n a a = a :=
  h.J_uniq ha ha ha (h.refl a ha) (h.refl a ha) fun _ _ h1 _ => h1
theorem J_comm (h : Ord R n) {a b : Nat} (ha : a < n) (hb : b < n) : J R n a b = J R n b a :=
  h.J_uniq ha hb (h.J_lt hb ha) (h.J_r hb ha) (h.J_l hb ha) fun _ ho h1 h2 => h.J_min hb ha ho h2 h1
theorem J_of_le (h : Ord R n) {a b : Nat} (ha : a < n) (hb : b < n) (hab : R a b = true) : J R n a b = b :=
  h.J_uniq ha hb hb hab (h.refl b hb) fun _ _ _ h2 => h2
theorem le_iff (h : Ord R n) {a b : Nat} (ha : a < n) (hb : b < n) : R a b = decide (J R n a b = b) := by
  rw [Bool.eq_iff_iff, decide_eq_true_iff]
  exact ⟨h.J_of_le ha hb, fun e => by have := h.J_l ha hb; rwa [e] at this⟩
theorem J_assoc (h : Ord R n) {a b c : Nat} (ha : a < n) (hb : b < n) (hc : c < n) : J R n (J R n a b) c = J R n a (J R n b c) := by
  have hab := h.J_lt ha hb
  have hbc := h.J_lt hb hc
  have hx := h.J_lt ha hbc
  refine h.J_uniq hab hc hx (h.J_min ha hb hx (h.J_l ha hbc) (h.trans _ _ _ hb hbc hx (h.J_l hb hc) (h.J_r ha hbc))) (h.trans _ _ _ hc hbc hx (h.J_r hb hc) (h.J_r ha hbc)) ?_
  intro o ho h1 h2
  refine h.J_min ha hbc ho (h.trans _ _ _ ha hab ho (h.J_l ha hb) h1) (h.J_min hb hc ho (h.trans _ _ _ hb hab ho (h.J_r ha hb) h1) h2)
/-- Absorption. -/
theorem absorb (h : Ord R n) (h' : Ord (flp R) n) {a b : Nat} (ha : a < n) (hb : b < n) : J R n a (J (flp R) n a b) = a :=
  h.J_uniq ha (h'.J_lt ha hb) ha (h.refl a ha) (h'.J_l ha hb) fun _ _ h1 _ => h1
theorem end_succ (k : Nat) : endF R n (k + 1) = J R n (endF R n k) k := by
  unfold endF; rw [List.range_succ, List.foldl_append]; rfl
theorem end_lt (h : Ord R n) (k : Nat) (hk : k ≤ n) (hn : 0 < n) : endF R n k < n := by
  induction k with
  | zero => exact hn
  | succ k ih => rw [end_succ]; exact h.J_lt (ih (by omega)) (by omega)
theorem end_top (h : Ord R n) (k : Nat) (hk : k ≤ n) (hn : 0 < n) : ∀ a, a < k → R a (endF R n k) = true := by
  induction k with
  | zero => intro a ha; omega
  | succ k ih =>
    intro a ha
    rw [end_succ]
    have hl := h.end_lt k (by omega) hn
    by_cases e : a = k
    · subst e; exact h.J_r hl (by omega)
    · exact h.trans _ _ _ (by omega) hl (h.J_lt hl (by omega)) (ih (by omega) a (by omega)) (h.J_l hl (by omega))
end Ord
theorem flp_flp (R : Nat → Nat → Bool) : flp (flp R) = R := rfl

/-! The numbers of an order. -/
def le (up : List UInt8) (a b : Nat) : Bool := (up.getD a 0).toNat.testBit b
def ge (up : List UInt8) : Nat → Nat → Bool := flp (le up)
/-- What follows b, and is not above a. -/
def bad2 (up : List UInt8) (a b : Nat) : Bool := (List.range up.length).any fun c => le up b c && !le up a c
def bad1 (up : List UInt8) (a b : Nat) : Bool := !(a == b) && le up a b && (le up b a || bad2 up a b)
def bad (up : List UInt8) (a : Nat) : Bool := !((up.getD a 0).toNat / 2 ^ up.length == 0) || !le up a a || (List.range up.length).any (bad1 up a)
def unb1 (up : List UInt8) (a b : Nat) : Bool := (mt (le up) up.length a b).isNone || (mt (ge up) up.length a b).isNone
def unb (up : List UInt8) (a : Nat) : Bool := (List.range up.length).any (unb1 up a)
def badF (up : List UInt8) : Option Nat := (List.range up.length).find? (bad up)
def unbF (up : List UInt8) : Option Nat := (List.range up.length).find? (unb up)
/-- The i-th one is there before. -/
def twF (ns : List (List UInt8)) (i : Nat) : Bool := (List.range i).any fun j => ns.getD i [] == ns.getD j []
/-- The fault of the i-th name. -/
def nm1 (nm : List UInt8 → Bool) (ns : List (List UInt8)) (i : Nat) : Option (Nat × Int) := if nm (ns.getD i []) = false then some (i, 6) else if twF ns i then some (i, 8) else none
/-- The first name that is none, or is there twice. -/
def nmF (nm : List UInt8 → Bool) (ns : List (List UInt8)) : Option (Nat × Int) := (List.range ns.length).findSome? (nm1 nm ns)
theorem fs_succ {α : Type} {f : Nat → Option α} {k : Nat} (h : (List.range k).findSome? f = none) (hk : f k = none) : (List.range (k + 1)).findSome? f = none := by
  rw [List.range_succ, List.findSome?_append, h]; simp [hk]
theorem fs_at {α : Type} {f : Nat → Option α} {k n : Nat} {x : α} (h : (List.range k).findSome? f = none) (hk : f k = some x) (hn : k < n) : (List.range n).findSome? f = some x := by
  obtain ⟨m, rfl⟩ : ∃ m, n = (k + 1) + m := ⟨n - (k + 1), by omega⟩
  rw [List.range_add, List.findSome?_append, List.range_succ, List.findSome?_append, h]; simp [hk]
theorem nm1_6 {nm : List UInt8 → Bool} {ns : List (List UInt8)} {i : Nat} (h : nm (ns.getD i []) = false) : nm1 nm ns i = some (i, 6) := if_pos h
theorem nm1_8 {nm : List UInt8 → Bool} {ns : List (List UInt8)} {i : Nat} (h : nm (ns.getD i []) = true) (h2 : twF ns i = true) : nm1 nm ns i = some (i, 8) := by
  unfold nm1; rw [if_neg (by rw [h]; decide), if_pos h2]
theorem nm1_0 {nm : List UInt8 → Bool} {ns : List (List UInt8)} {i : Nat} (h : nm (ns.getD i []) = true) (h2 : twF ns i = false) : nm1 nm ns i = none := by
  unfold nm1; rw [if_neg (by rw [h]; decide), if_neg (by rw [h2]; decide)]
def chk (nm : List UInt8 → Bool) (ns : List (List UInt8)) (up : List UInt8) : Int × Int :=
  if ns.length < 1 ∨ 8 < ns.length then (-1, 3) else
  match nmF nm ns with
  | some (i, e) => (i, e)
  | none => if up.length ≠ ns.length then (-1, 6) else
    match badF up with
    | some a => (a, 6)
    | none => match unbF up with
      | some a => (a, 4)
      | none => (0, 0)

theorem range_find_none {n : Nat} {p : Nat → Bool} (h : (List.range n).find? p = none) : ∀ a, a < n → p a = false := by
  intro a ha
  have := List.find?_eq_none.1 h a (List.mem_range.2 ha)
  simpa using this
theorem range_any_false {n : Nat} {p : Nat → Bool} (h : (List.range n).any p = false) : ∀ a, a < n → p a = false := by
  intro a ha
  have := List.any_eq_false.1 h a (List.mem_range.2 ha)
  simpa using this

theorem ord_of (up : List UInt8) (h1 : badF up = none) (h2 : unbF up = none) : Ord (le up) up.length ∧ Ord (ge up) up.length := by
  have hb := range_find_none h1
  have hu := range_find_none h2
  have h0 : ∀ a, a < up.length → le up a a = true := by
    intro a ha
    have := hb a ha
    unfold bad at this
    simp only [Bool.or_eq_false_iff] at this
    simpa using this.1.2
  have h3 : ∀ a b, a < up.length → b < up.length → bad1 up a b = false := by
    intro a b ha hb'
    have := hb a ha
    unfold bad at this
    simp only [Bool.or_eq_false_iff] at this
    exact range_any_false this.2 b hb'
  have h4 : ∀ a b, a < up.length → b < up.length → a ≠ b → le up a b = true → le up b a = false ∧ bad2 up a b = false := by
    intro a b ha hb' hne hl
    have := h3 a b ha hb'
    unfold bad1 at this
    rw [hl] at this
    simpa [hne] using this
  have hanti : ∀ a b, a < up.length → b < up.length → le up a b = true → le up b a = true → a = b := by
    intro a b ha hb' h5 h6
    by_cases e : a = b
    · exact e
    · rw [(h4 a b ha hb' e h5).1] at h6; cases h6
  have htr : ∀ a b c, a < up.length → b < up.length → c < up.length → le up a b = true → le up b c = true → le up a c = true := by
    intro a b c ha hb' hc h5 h6
    by_cases e : a = b
    · subst e; exact h6
    · have := range_any_false (h4 a b ha hb' e h5).2 c hc
      rw [h6] at this
      simpa using this
  have hex : ∀ a b, a < up.length → b < up.length → (∃ c, mt (le up) up.length a b = some c) ∧ ∃ c, mt (ge up) up.length a b = some c := by
    intro a b ha hb'
    have := range_any_false (hu a ha) b hb'
    unfold unb1 at this
    simp only [Bool.or_eq_false_iff, Option.isNone_eq_false_iff, Option.isSome_iff_exists] at this
    exact this
  exact ⟨⟨h0, hanti, htr, fun a b ha hb' => (hex a b ha hb').1⟩, ⟨h0, fun a b ha hb' h5 h6 => hanti a b ha hb' h6 h5, fun a b c ha hb' hc h5 h6 => htr c b a hc hb' ha h6 h5, fun a b ha hb' => (hex a b ha hb').2⟩⟩

theorem chk_ok {nm : List UInt8 → Bool} {ns : List (List UInt8)} {up : List UInt8} (h : (chk nm ns up).2 = 0) :
    1 ≤ ns.length ∧ ns.length ≤ 8 ∧ up.length = ns.length ∧ badF up = none ∧ unbF up = none ∧ nmF nm ns = none ∧ (chk nm ns up).1 = 0 := by
  unfold chk at h ⊢
  split at h
  · cases h
  · rename_i hl
    rw [if_neg hl]
    split at h
    · rename_i i e he
      exfalso
      unfold nmF at he
      obtain ⟨k, _, hk⟩ := List.exists_of_findSome?_eq_some he
      unfold nm1 at hk
      split at hk
      · cases hk; cases h
      · split at hk
        · cases hk; cases h
        · cases hk
    · rename_i hn
      split at h
      · cases h
      · rename_i hu
        have hu' : up.length = ns.length := by simpa using hu
        split at h
        · cases h
        · rename_i hb
          split at h
          · cases h
          · rename_i hun
            refine ⟨by omega, by omega, hu', hb, hun, hn, ?_⟩
            rw [if_neg hu]
end Go.Proofs.YtablaacddbkeiaaGreatDoor
