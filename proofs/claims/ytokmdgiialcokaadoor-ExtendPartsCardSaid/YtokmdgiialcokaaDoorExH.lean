/- Lens of the reference. -/
import Derived.Test.YtokmdgiialcokaaDoorExG
namespace Go.Proofs.YtokmdgiialcokaaDoor
open Go.RowKit

theorem bo_err {A B : Ar} (h1 : A.r ≠ B.r) (h2 : A.r ≠ 0) (h3 : B.r ≠ 0) : boE A B = 22 := by unfold boE; rw [if_neg h3, if_neg h2, if_pos h1]
theorem bo_len {A B : Ar} (h1 : A.r = B.r) (h2 : A.r ≠ 0) (h : ¬ (A.a = B.a ∧ A.b = B.b)) : boE A B = 11 := by unfold boE; rw [if_neg (by omega), if_neg h2, if_neg (not_not_intro h1), if_pos (by omega)]
theorem bo_sl {A B : Ar} (h : A.r = 0) : boE A B = 0 := by unfold boE; split <;> first | rfl | rw [if_pos h]
theorem bo_sr {A B : Ar} (h : B.r = 0) : boE A B = 0 := by unfold boE; rw [if_pos h]
theorem bo_eq {A B : Ar} (h1 : A.r = B.r) (h2 : A.r ≠ 0) (h : A.a = B.a ∧ A.b = B.b) : boE A B = 0 := by unfold boE; rw [if_neg (by omega), if_neg h2, if_neg (not_not_intro h1), if_neg (by omega)]
theorem bv_l {A B : Ar} (h : A.r ≠ 0) : boV A B = A := by unfold boV; split <;> first | rfl | rw [if_neg h]
theorem bv_s {A B : Ar} (hA : Good A) (hB : Good B) (h : A.r = 0) : (boV A B).r = B.r ∧ (boV A B).a = B.a ∧ (boV A B).b = B.b := by
  unfold boV
  by_cases h2 : B.r = 0
  · rw [if_pos h2]
    have := hA.r0 h
    have := hB.r0 h2
    omega
  · rw [if_neg h2, if_pos h]; exact ⟨rfl, rfl, rfl⟩
theorem ln_of {A B : Ar} {E : Int} (hA : ck A = 0) (hB : ck B = 0) (h : boE A B = E) : lnF A B = E ∧ (E ≠ 0 → lnR A B = 0 ∧ lnA A B = 0 ∧ lnB A B = 0) ∧ (E = 0 → lnR A B = (boV A B).r ∧ lnA A B = (boV A B).a ∧ lnB A B = (boV A B).b) := by
  have hF : lnF A B = E := by unfold lnF; rw [if_neg (not_not_intro hA), if_neg (not_not_intro hB)]; exact h
  refine ⟨hF, fun he => ln_bad (by rw [hF]; exact he), fun he => ?_⟩
  unfold lnR lnA lnB
  rw [hF, if_pos he, if_pos he, if_pos he]
  exact ⟨rfl, rfl, rfl⟩
end Go.Proofs.YtokmdgiialcokaaDoor
