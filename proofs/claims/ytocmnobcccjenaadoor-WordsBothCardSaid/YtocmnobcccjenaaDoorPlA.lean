/- Plain facts on decimal forms: what a form spells, how it is parsed, how it is written. -/
import Derived.Test.YtocmnobcccjenaaDoorWaB
import Derived.Lib.ParseIntB
import Derived.Lib.ItoaNum
import Derived.Lib.Strings
namespace Go.Proofs.YtocmnobcccjenaaDoor

def decS : List UInt8 → Bool
  | [] => false
  | c :: r => if c = 45 then natB r && !(r == [48]) else natB (c :: r)
def decW (l : List UInt8) : Bool := natB (Lib.trimPrefix l [45]) && !(Lib.hasPrefix l [45] && Lib.trimPrefix l [45] == [48])

theorem natB_minus (r : List UInt8) : natB (45 :: r) = false := by
  unfold natB; simp [show dg8 45 = false from by decide]
theorem natB_nil' : natB [] = false := rfl
theorem decW_eq (l : List UInt8) : decW l = decS l := by
  cases l with
  | nil => rfl
  | cons c r =>
    unfold decW decS
    by_cases h : c = 45
    · subst h; simp [Lib.trimPrefix, Lib.hasPrefix]
    · have h' : (45 == c) = false := by simpa using fun e => h e.symm
      have e : Lib.hasPrefix (c :: r) [45] = false := by simp [Lib.hasPrefix, List.isPrefixOf, h']
      simp [Lib.trimPrefix, e, h]
theorem decB_eq (l : List UInt8) : decB l = decS l := by
  cases l with
  | nil => rfl
  | cons c r =>
    unfold decB decS
    by_cases h : c = 45
    · subst h
      rw [natB_minus]
      cases r with
      | nil => simp [natB_nil']
      | cons d t =>
        by_cases hd : d = 48
        · subst hd
          simp
          intro hn
          unfold natB at hn
          simp at hn
          exact hn.2
        · simp [hd]
    · simp [h]

/-- What digits spell, behind what was spelt before. -/
def fv (acc : Nat) : List UInt8 → Nat
  | [] => acc
  | c :: r => fv (acc * 10 + (c.toNat - 48)) r
def valI : List UInt8 → Int
  | [] => 0
  | c :: r => if c = 45 then -(fv 0 r : Int) else (fv 0 (c :: r) : Int)
theorem fv_le (l : List UInt8) : ∀ acc : Nat, acc ≤ fv acc l := by
  induction l with
  | nil => intro acc; exact Nat.le_refl _
  | cons c r ih =>
    intro acc
    have := ih (acc * 10 + (c.toNat - 48))
    show acc ≤ fv (acc * 10 + (c.toNat - 48)) r
    omega
theorem fv_append (l m : List UInt8) : ∀ acc : Nat, fv acc (l ++ m) = fv (fv acc l) m := by
  induction l with
  | nil => intro acc; rfl
  | cons c r ih => intro acc; exact ih _
theorem dg8_iff (c : UInt8) : dg8 c = true ↔ 48 ≤ c.toNat ∧ c.toNat ≤ 57 := by
  unfold dg8 digB; simp; omega
theorem pu_cons (M acc : Nat) (c : UInt8) (r : List UInt8) : Lib.parseUintM M acc (c :: r) = if 48 ≤ c.toNat ∧ c.toNat ≤ 57 then (if 1844674407370955162 ≤ acc then .range else if M < acc * 10 + (c.toNat - 48) then .range else Lib.parseUintM M (acc * 10 + (c.toNat - 48)) r) else Lib.NumEnd.syntax := rfl
theorem pu_ok (M : Nat) (hM : M < 18446744073709551620) (l : List UInt8) : ∀ acc : Nat, l.all dg8 = true → fv acc l ≤ M → Lib.parseUintM M acc l = .ok (fv acc l) := by
  induction l with
  | nil => intro acc _ _; rfl
  | cons c r ih =>
    intro acc ha hf
    simp only [List.all_cons, Bool.and_eq_true] at ha
    have hd := (dg8_iff c).1 ha.1
    have hle := fv_le r (acc * 10 + (c.toNat - 48))
    have hf' : fv (acc * 10 + (c.toNat - 48)) r ≤ M := hf
    have e : fv acc (c :: r) = fv (acc * 10 + (c.toNat - 48)) r := rfl
    rw [pu_cons, if_pos hd, if_neg (by omega), if_neg (by omega), e]
    exact ih _ ha.2 hf'
theorem pu_range (M : Nat) (l : List UInt8) : ∀ acc : Nat, acc ≤ M → l.all dg8 = true → M < fv acc l → Lib.parseUintM M acc l = .range := by
  induction l with
  | nil => intro acc h _ h2; exact absurd h2 (by show ¬ M < acc; omega)
  | cons c r ih =>
    intro acc h ha hf
    simp only [List.all_cons, Bool.and_eq_true] at ha
    have hd := (dg8_iff c).1 ha.1
    have hf' : M < fv (acc * 10 + (c.toNat - 48)) r := hf
    rw [pu_cons, if_pos hd]
    by_cases h1 : 1844674407370955162 ≤ acc
    · rw [if_pos h1]
    · rw [if_neg h1]
      by_cases h2 : M < acc * 10 + (c.toNat - 48)
      · rw [if_pos h2]
      · rw [if_neg h2]; exact ih _ (by omega) ha.2 hf'
theorem natB_all {l : List UInt8} (h : natB l = true) : l.all dg8 = true := by
  unfold natB at h; simp only [Bool.and_eq_true] at h; exact h.1
theorem natB_ne {l : List UInt8} (h : natB l = true) : l ≠ [] := by intro e; rw [e] at h; cases h

theorem pi_cons (c : UInt8) (r : List UInt8) : Lib.parseIntB 64 (c :: r) =
    match Lib.parseUintB 64 (if c.toNat = 43 ∨ c.toNat = 45 then r else c :: r) with
    | Lib.NumEnd.syntax => Lib.NumEnd.syntax
    | .range => .range
    | .ok u =>
      if ¬ (c.toNat = 45) ∧ 2 ^ (64 - 1) ≤ u then .range
      else if (c.toNat = 45) ∧ 2 ^ (64 - 1) < u then .range
      else .ok (if (c.toNat = 45) then -(u : Int) else u) := rfl
theorem pub_ok (l : List UInt8) (hn : l ≠ []) (ha : l.all dg8 = true) (h : fv 0 l ≤ 18446744073709551615) : Lib.parseUintB 64 l = .ok (fv 0 l) := by
  unfold Lib.parseUintB; rw [if_neg hn]; exact pu_ok _ (by decide) l 0 ha h
theorem pub_range (l : List UInt8) (hn : l ≠ []) (ha : l.all dg8 = true) (h : 18446744073709551615 < fv 0 l) : Lib.parseUintB 64 l = .range := by
  unfold Lib.parseUintB; rw [if_neg hn]; exact pu_range _ l 0 (Nat.zero_le _) ha h
theorem u8_45 {c : UInt8} : c.toNat = 45 ↔ c = 45 := by
  constructor
  · intro h; rw [← UInt8.toNat_inj]; exact h
  · intro h; rw [h]; rfl

theorem parse_ok (l : List UInt8) (h : decS l = true) (h1 : -9223372036854775808 ≤ valI l) (h2 : valI l ≤ 9223372036854775807) :
    Lib.parseIntB 64 l = .ok (valI l) := by
  cases l with
  | nil => cases h
  | cons c r =>
    rw [pi_cons]
    by_cases hc : c = 45
    · subst hc
      simp only [decS, if_true, Bool.and_eq_true] at h
      have e : valI (45 :: r) = -(fv 0 r : Int) := rfl
      rw [e] at h1 h2 ⊢
      rw [if_pos (show UInt8.toNat 45 = 43 ∨ UInt8.toNat 45 = 45 from Or.inr rfl), pub_ok r (natB_ne h.1) (natB_all h.1) (by omega)]
      show (if _ then _ else if _ then _ else _) = _
      rw [if_neg (by simp), if_neg (by intro ⟨_, h⟩; have : (2 : Nat) ^ (64 - 1) = 9223372036854775808 := rfl; omega), if_pos (show UInt8.toNat 45 = 45 from rfl)]
    · simp only [decS, if_neg hc] at h
      have e : valI (c :: r) = (fv 0 (c :: r) : Int) := if_neg hc
      rw [e] at h1 h2 ⊢
      have hd := (dg8_iff c).1 (by have := natB_all h; simp only [List.all_cons, Bool.and_eq_true] at this; exact this.1)
      rw [if_neg (by omega), pub_ok (c :: r) (by simp) (natB_all h) (by omega)]
      show (if _ then _ else if _ then _ else _) = _
      rw [if_neg (by intro ⟨_, h⟩; have : (2 : Nat) ^ (64 - 1) = 9223372036854775808 := rfl; omega), if_neg (by intro ⟨h, _⟩; omega), if_neg (by omega)]
theorem parse_range (l : List UInt8) (h : decS l = true) (h1 : valI l < -9223372036854775808 ∨ 9223372036854775807 < valI l) :
    Lib.parseIntB 64 l = .range := by
  cases l with
  | nil => cases h
  | cons c r =>
    rw [pi_cons]
    by_cases hc : c = 45
    · subst hc
      simp only [decS, if_true, Bool.and_eq_true] at h
      have e : valI (45 :: r) = -(fv 0 r : Int) := rfl
      rw [e] at h1
      rw [if_pos (show UInt8.toNat 45 = 43 ∨ UInt8.toNat 45 = 45 from Or.inr rfl)]
      by_cases hb : fv 0 r ≤ 18446744073709551615
      · rw [pub_ok r (natB_ne h.1) (natB_all h.1) hb]
        show (if _ then _ else if _ then _ else _) = _
        rw [if_neg (by simp), if_pos ⟨rfl, by have : (2 : Nat) ^ (64 - 1) = 9223372036854775808 := rfl; omega⟩]
      · rw [pub_range r (natB_ne h.1) (natB_all h.1) (by omega)]
    · simp only [decS, if_neg hc] at h
      have e : valI (c :: r) = (fv 0 (c :: r) : Int) := if_neg hc
      rw [e] at h1
      have hd := (dg8_iff c).1 (by have := natB_all h; simp only [List.all_cons, Bool.and_eq_true] at this; exact this.1)
      rw [if_neg (by omega)]
      by_cases hb : fv 0 (c :: r) ≤ 18446744073709551615
      · rw [pub_ok (c :: r) (by simp) (natB_all h) hb]
        show (if _ then _ else if _ then _ else _) = _
        rw [if_pos ⟨by omega, by have : (2 : Nat) ^ (64 - 1) = 9223372036854775808 := rfl; omega⟩]
      · rw [pub_range (c :: r) (by simp) (natB_all h) (by omega)]
end Go.Proofs.YtocmnobcccjenaaDoor
