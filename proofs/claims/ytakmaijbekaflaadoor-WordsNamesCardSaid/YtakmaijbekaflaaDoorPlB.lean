/- Plain facts on how the reference builds a number up. -/
import Derived.Test.YtakmaijbekaflaaDoorPlA
namespace Go.Proofs.YtakmaijbekaflaaDoor

/-- What digits spell, a minus sign passed over. -/
def fm (acc : Nat) : List UInt8 → Nat
  | [] => acc
  | c :: r => if c = 45 then fm acc r else fm (acc * 10 + (c.toNat - 48)) r
theorem fm_append (l m : List UInt8) : ∀ acc : Nat, fm acc (l ++ m) = fm (fm acc l) m := by
  induction l with
  | nil => intro acc; rfl
  | cons c r ih =>
    intro acc
    show (if c = 45 then _ else _) = fm (if c = 45 then _ else _) m
    by_cases h : c = 45
    · rw [if_pos h, if_pos h]; exact ih _
    · rw [if_neg h, if_neg h]; exact ih _
theorem fm_le (l : List UInt8) : ∀ acc : Nat, acc ≤ fm acc l := by
  induction l with
  | nil => intro acc; exact Nat.le_refl _
  | cons c r ih =>
    intro acc
    show acc ≤ (if c = 45 then _ else _)
    by_cases h : c = 45
    · rw [if_pos h]; exact ih _
    · rw [if_neg h]; exact Nat.le_trans (by omega) (ih _)
theorem fm_take (l : List UInt8) (k : Nat) : fm 0 (l.take k) ≤ fm 0 l := by
  conv => rhs; rw [← List.take_append_drop k l, fm_append]
  exact fm_le _ _
theorem fm_dig (l : List UInt8) : ∀ acc : Nat, l.all dg8 = true → fm acc l = fv acc l := by
  induction l with
  | nil => intro acc _; rfl
  | cons c r ih =>
    intro acc h
    simp only [List.all_cons, Bool.and_eq_true] at h
    have hc : ¬ c = 45 := by intro e; rw [e] at h; exact absurd h.1 (by decide)
    show (if c = 45 then _ else _) = fv (acc * 10 + (c.toNat - 48)) r
    rw [if_neg hc]; exact ih _ h.2
theorem valI_fm (l : List UInt8) (h : decS l = true) : valI l = if l.head? = some 45 then -(fm 0 l : Int) else (fm 0 l : Int) := by
  cases l with
  | nil => cases h
  | cons c r =>
    by_cases hc : c = 45
    · subst hc
      simp only [decS, if_true, Bool.and_eq_true] at h
      show -(fv 0 r : Int) = _
      rw [if_pos (show (45 :: r).head? = some (45 : UInt8) from rfl), show fm 0 (45 :: r) = fm 0 r from rfl, fm_dig r 0 (natB_all h.1)]
    · simp only [decS, if_neg hc] at h
      rw [if_neg (by simpa using hc), fm_dig _ 0 (natB_all h)]
      exact if_neg hc
theorem dec_get (l : List UInt8) (h : decS l = true) (k : Nat) (hk : k < l.length) : (l[k] = 45 ∧ k = 0) ∨ (l[k] ≠ 45 ∧ 48 ≤ l[k].toNat ∧ l[k].toNat ≤ 57) := by
  have key : ∀ (m : List UInt8) (j : Nat) (hj : j < m.length), m.all dg8 = true → m[j] ≠ 45 ∧ 48 ≤ m[j].toNat ∧ m[j].toNat ≤ 57 := by
    intro m j hj ha
    have hd := (List.all_eq_true.1 ha) m[j] (List.getElem_mem hj)
    refine ⟨?_, (dg8_iff _).1 hd⟩
    intro e; rw [e] at hd; exact absurd hd (by decide)
  cases l with
  | nil => cases h
  | cons c r =>
    by_cases hc : c = 45
    · subst hc
      simp only [decS, if_true, Bool.and_eq_true] at h
      cases k with
      | zero => exact .inl ⟨rfl, rfl⟩
      | succ k => exact .inr (key r k (by simpa using hk) (natB_all h.1))
    · simp only [decS, if_neg hc] at h
      exact .inr (key _ k hk (natB_all h))
theorem dec_ne {l : List UInt8} (h : decS l = true) : 0 < l.length := by
  cases l with
  | nil => cases h
  | cons c r => simp
theorem tdiv10 (d : Int) (h0 : 0 ≤ d) (h9 : d ≤ 9) (m : Nat) : (-(m : Int) < (-9223372036854775808 + d).tdiv 10) ↔ 9223372036854775808 < 10 * (m : Int) + d := by
  have : (-9223372036854775808 + d).tdiv 10 = -((9223372036854775808 - d) / 10) := by
    rw [show (-9223372036854775808 + d) = -(9223372036854775808 - d) from by omega, Int.neg_tdiv, Int.tdiv_eq_ediv_of_nonneg (by omega)]
  rw [this]; omega
end Go.Proofs.YtakmaijbekaflaaDoor
