/- The laws Sums and Ends. -/
import Derived.Test.YthfpmpmhoegicaaDoorFoZ
import Derived.Test.YthfpmpmhoegicaaDoorMvKc
import Derived.Test.YthfpmpmhoegicaaDoorMvP
namespace Go.Proofs.YthfpmpmhoegicaaDoor
open Go.RowKit

theorem orNo_len {E : Int} {R : Ar} {n : Nat} (h : E = 0 → R.z.length ≤ n) : (orNo E R).z.length ≤ n := by
  unfold orNo
  split
  · next e => exact h e
  · simp [Ar.no]
theorem smE_ok {A : Ar} (h : smE A = 0) : ck A = 0 ∧ (A.k == 1) = true ∧ (A.r = 1 ∨ A.r = 2) ∧ feL ((rwL A).map sm1) = 0 := by
  unfold smE at h
  by_cases h1 : faE (A.k == 1) A = 0
  · rw [if_pos h1] at h
    obtain ⟨a, b, c⟩ := faE_ok h1
    exact ⟨a, b, c, h⟩
  · rw [if_neg h1] at h; exact absurd h h1
theorem enE_ok {A : Ar} (h : enE A = 0) : ck A = 0 ∧ (A.k == 1) = true ∧ (A.r = 1 ∨ A.r = 2) ∧ ¬ (0 < rwN A ∧ rwM A = 0) := by
  unfold enE at h
  by_cases h1 : faE (A.k == 1) A = 0
  · rw [if_pos h1] at h
    obtain ⟨a, b, c⟩ := faE_ok h1
    refine ⟨a, b, c, fun hn => ?_⟩
    rw [if_pos hn] at h; cases h
  · rw [if_neg h1] at h; exact absurd h h1
theorem rwN_le {A : Ar} (h : ck A = 0) : rwN A ≤ 400 := (rw_good (ck_good h)).2.2.2.1
theorem smV_len (A : Ar) : (smV A).z.length ≤ 400 := orNo_len fun h => by
  obtain ⟨a, _⟩ := smE_ok h
  rw [ofR_z, vsL_len, sm_len a]; exact rwN_le a
theorem sncV_len (A : Ar) : (sncV A).z.length ≤ 400 := orNo_len fun h => by
  obtain ⟨a, _⟩ := smE_ok h
  show (flt ((rwL A).map (scL 0))).length ≤ 400
  rw [flt_len a]; exact (ck_good a).len4
theorem enV_len (p : Int) (A : Ar) : (enV p A).z.length ≤ 400 := orNo_len fun h => by
  obtain ⟨a, _⟩ := enE_ok h
  rw [ofR_z, List.length_map, rwL_len a]; exact rwN_le a
theorem cntV_len (A : Ar) : (cntV A).z.length ≤ 400 := orNo_len fun h => by
  obtain ⟨a, _⟩ := faE_ok h
  rw [ofR_z, List.length_replicate]; exact rwN_le a

end Go.Proofs.YthfpmpmhoegicaaDoor
