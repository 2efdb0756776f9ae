/- The reference's lengths and Grid. -/
import Derived.Test.YtokmdgiialcokaaDoorMvX
namespace Go.Proofs.YtokmdgiialcokaaDoor
open Go.RowKit

/-- The error of the lengths of a grid. -/
def leE (l : List Int) : Int := if l.length = 2 then (if l.getD 0 0 < 0 ∨ l.getD 1 0 < 0 then 13 else if 400 < l.getD 0 0 ∨ 400 < l.getD 1 0 ∨ 400 < l.getD 0 0 * l.getD 1 0 then 15 else 0) else 11
theorem le_no {L V : Ar} (h : twoE L V 1 V.k 1 1 1 1 = 0) (hl : leE L.z ≠ 0) : gdE L V = leE L.z := by
  unfold gdE
  rw [if_pos h]
  unfold leE at hl ⊢
  by_cases h2 : L.z.length = 2
  · rw [if_pos h2] at hl ⊢
    rw [if_pos h2]
    by_cases h3 : L.z.getD 0 0 < 0 ∨ L.z.getD 1 0 < 0
    · rw [if_pos h3, if_pos h3]
    · rw [if_neg h3] at hl ⊢
      rw [if_neg h3]
      by_cases h4 : 400 < L.z.getD 0 0 ∨ 400 < L.z.getD 1 0 ∨ 400 < L.z.getD 0 0 * L.z.getD 1 0
      · rw [if_pos h4, if_pos h4]
      · rw [if_neg h4] at hl; exact absurd rfl hl
  · rw [if_neg h2, if_neg h2]
theorem le_ok {L V : Ar} (h : twoE L V 1 V.k 1 1 1 1 = 0) (hl : leE L.z = 0) : L.z.length = 2 ∧ (0 ≤ L.z.getD 0 0 ∧ L.z.getD 0 0 ≤ 400) ∧ (0 ≤ L.z.getD 1 0 ∧ L.z.getD 1 0 ≤ 400) ∧ L.z.getD 0 0 * L.z.getD 1 0 ≤ 400 ∧
    gdE L V = (if V.z.length = 0 ∧ 0 < L.z.getD 0 0 * L.z.getD 1 0 then 13 else 0) := by
  unfold leE at hl
  by_cases h2 : L.z.length = 2
  · rw [if_pos h2] at hl
    by_cases h3 : L.z.getD 0 0 < 0 ∨ L.z.getD 1 0 < 0
    · rw [if_pos h3] at hl; cases hl
    · rw [if_neg h3] at hl
      by_cases h4 : 400 < L.z.getD 0 0 ∨ 400 < L.z.getD 1 0 ∨ 400 < L.z.getD 0 0 * L.z.getD 1 0
      · rw [if_pos h4] at hl; cases hl
      · refine ⟨h2, ⟨by omega, by omega⟩, ⟨by omega, by omega⟩, by omega, ?_⟩
        unfold gdE
        rw [if_pos h, if_pos h2, if_neg h3, if_neg h4]
  · rw [if_neg h2] at hl; cases hl
theorem rd_two {B : Nat} {w : World} {p : Option Addr} {n cap : Nat} {l : List Int} (h : RdI B w (.slice p n cap) l) (hl : l.length = 2) : ∃ b off, p = some ⟨b, off, none⟩ ∧ w.cell? ⟨b, off, none⟩ = some (.int .i64 (l.getD 0 0)) ∧ w.cell? ⟨b, off + 1, none⟩ = some (.int .i64 (l.getD 1 0)) := by
  obtain ⟨p', cap', e, h1, h2, h3⟩ := h
  cases e
  obtain ⟨b, off, e, hb, hc⟩ := h3 (List.length_pos_iff.1 (by omega))
  have c0 := hc 0 (by omega)
  have c1 := hc 1 (by omega)
  rw [Nat.add_zero] at c0
  refine ⟨b, off, e, ?_, ?_⟩
  · rw [c0, List.getD_eq_getElem?_getD, List.getElem?_eq_getElem (by omega)]; rfl
  · rw [c1, List.getD_eq_getElem?_getD, List.getElem?_eq_getElem (by omega)]; rfl

theorem agn_snoc {t j : Nat} {z : List Int} (hj : j < t) : (agn t z).take j ++ [z.getD (j % z.length) 0] = (agn t z).take (j + 1) := by
  rw [← takeI_snoc (by rw [agn_len]; exact hj), agn_getD hj]

end Go.Proofs.YtokmdgiialcokaaDoor
