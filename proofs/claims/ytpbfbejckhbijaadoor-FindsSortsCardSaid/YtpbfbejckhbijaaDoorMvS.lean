/- The reference's Take and Drop. -/
import Derived.Test.YtpbfbejckhbijaaDoorMvR
import Derived.BigQuiet
import Derived.StillTailTactics
namespace Go.Proofs.YtpbfbejckhbijaaDoor
open Go.RowKit

theorem tkn_le (n : Int) (m : Nat) : tknN n m ≤ m := by unfold tknN; split <;> omega
theorem tk_neg' {n : Int} {z : List Int} (h : n < 0) : tkZ n z = z.drop (z.length - tknN n z.length) ∧ drZ n z = z.take (z.length - tknN n z.length) := by
  unfold tkZ drZ tknN
  rw [if_pos h, if_pos h, if_pos h]
  have : z.length - (z.length - ((z.length : Int) + n).toNat) = ((z.length : Int) + n).toNat := by omega
  rw [this]; exact ⟨rfl, rfl⟩
theorem tk_pos' {n : Int} {z : List Int} (h : ¬ n < 0) : tkZ n z = z.take (tknN n z.length) ∧ drZ n z = z.drop (tknN n z.length) := by
  unfold tkZ drZ tknN
  rw [if_neg h, if_neg h, if_neg h]
  by_cases h1 : n.toNat ≤ z.length
  · rw [Nat.min_eq_left h1]; exact ⟨rfl, rfl⟩
  · rw [Nat.min_eq_right (by omega), List.take_of_length_le (by omega), List.take_of_length_le (Nat.le_refl _), List.drop_eq_nil_of_le (by omega), List.drop_eq_nil_of_le (Nat.le_refl _)]; exact ⟨rfl, rfl⟩
theorem vec_lit {k : Int} {z : List Int} {v : Value} {w : World} (hv : RdI w.heap.size w v z) (hn : Ru.NilC v) (hl : z.length ≤ 100000) :
    Calls Tryd.prog 23 #[.int .i64 k, v] w fun e w' => ∃ q c, e = .returned (A5 k 1 z.length 0 (.slice q z.length c)) ∧ RdN w.heap.size w' (.slice q z.length c) z ∧ Below w.heap.size w w' := by
  refine (vector7_any k z v w hv hn hl).mono ?_
  rintro e w' ⟨u, h1, h2, h3⟩
  obtain ⟨q, c, hq, _⟩ := h2.form
  have hq2 : u = .slice q z.length c := hq
  subst hq2
  exact ⟨q, c, h1, h2, h3⟩

end Go.Proofs.YtpbfbejckhbijaaDoor
