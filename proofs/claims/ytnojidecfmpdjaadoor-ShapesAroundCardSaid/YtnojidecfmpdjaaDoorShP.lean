/- Plain facts for the law ShapesOrder: places and indices. -/
import Derived.Test.YtnojidecfmpdjaaDoorShF
namespace Go.Proofs.YtnojidecfmpdjaaDoor
open Go.RowKit

theorem dm {k y : Int} (h : 0 < y) (hk : 0 ≤ k) : k / y * y + k % y = k ∧ 0 ≤ k % y ∧ k % y < y ∧ 0 ≤ k / y :=
  ⟨by rw [Int.mul_comm]; exact Int.mul_ediv_add_emod k y, Int.emod_nonneg _ (by omega), Int.emod_lt_of_pos _ h, Int.ediv_nonneg hk (by omega)⟩
/-- The index before the k-th. -/
def lst (y : Int) (k : Nat) : Int × Int := if k = 0 then (-1, -1) else (((k : Int) - 1) / y, ((k : Int) - 1) % y)
theorem dm_uniq {q q' m m' y : Int} (hm : 0 ≤ m) (h : m < y) (hm' : 0 ≤ m') (h' : m' < y) (e : q * y + m = q' * y + m') : q = q' ∧ m = m' := by
  have h1 : (q * y + m) / y = q := by
    rw [Int.add_comm, Int.add_mul_ediv_right _ _ (by omega), Int.ediv_eq_zero_of_lt hm h]; omega
  have h2 : (q' * y + m') / y = q' := by
    rw [Int.add_comm, Int.add_mul_ediv_right _ _ (by omega), Int.ediv_eq_zero_of_lt hm' h']; omega
  have hq : q = q' := by rw [← h1, e, h2]
  subst hq
  exact ⟨rfl, by omega⟩
theorem lst_lt {y : Int} (h : 0 < y) (k : Nat) : (lst y k).1 < (k : Int) / y ∨ ((lst y k).1 = (k : Int) / y ∧ (lst y k).2 < (k : Int) % y) := by
  obtain ⟨e, m0, m1, q0⟩ := dm (k := (k : Int)) h (by omega)
  unfold lst
  by_cases hk : k = 0
  · rw [if_pos hk]; left; show -1 < _; omega
  · rw [if_neg hk]
    obtain ⟨e', m0', m1', q0'⟩ := dm (k := (k : Int) - 1) h (by omega)
    show ((k : Int) - 1) / y < _ ∨ (((k : Int) - 1) / y = _ ∧ ((k : Int) - 1) % y < _)
    generalize (k : Int) / y = q at *
    generalize (k : Int) % y = m at *
    generalize ((k : Int) - 1) / y = q' at *
    generalize ((k : Int) - 1) % y = m' at *
    by_cases hm : m = 0
    · left
      have e2 : q' * y + m' = (q - 1) * y + (y - 1) := by rw [Int.sub_mul]; omega
      have := (dm_uniq m0' m1' (by omega) (by omega) e2).1
      omega
    · right
      have e2 : q' * y + m' = q * y + (m - 1) := by omega
      have := dm_uniq m0' m1' (by omega) (by omega) e2
      omega
theorem mxb_pos {r a b i : Int} (hs : Sh r a b) (h0 : 0 ≤ i) (h1 : i < cn r a b) : 0 < mxb r b := by
  have hm := mx_cn r a b hs.bd.1
  obtain ⟨_, _, m2, m3, _⟩ := hs.mx
  by_cases e : mxb r b = 0
  · rw [e] at hm; simp at hm; omega
  · omega
theorem ord_at {r a b i : Int} (hs : Sh r a b) (h0 : 0 ≤ i) (h1 : i < cn r a b) :
    (ix0 r a b i = i / mxb r b ∧ ix1 r a b i = i % mxb r b ∧ ixE r a b i = 0) ∧ (plV r a b (i / mxb r b) (i % mxb r b) = i ∧ plE r a b (i / mxb r b) (i % mxb r b) = 0) ∧ i / mxb r b < mxa r a := by
  have hy := mxb_pos hs h0 h1
  obtain ⟨e, m0, m1, q0⟩ := dm (k := i) hy h0
  have hq : i / mxb r b < mxa r a := Int.ediv_lt_of_lt_mul hy (by rw [mx_cn r a b hs.bd.1]; exact h1)
  have hE : ixE r a b i = 0 := by unfold ixE; rw [if_pos (sh_ok hs), if_pos ⟨h0, h1⟩]
  have hP : plE r a b (i / mxb r b) (i % mxb r b) = 0 := by unfold plE; rw [if_pos (sh_ok hs), if_pos ⟨q0, hq, m0, m1⟩]
  refine ⟨⟨?_, ?_, hE⟩, ⟨?_, hP⟩, hq⟩
  · unfold ix0; rw [hE]; rfl
  · unfold ix1; rw [hE]; rfl
  · unfold plV; rw [hP]; exact e
theorem ord_out {r a b i : Int} (hs : Sh r a b) (h : i < 0 ∨ cn r a b ≤ i) : ix0 r a b i = 0 ∧ ix1 r a b i = 0 ∧ ixE r a b i = 4 := by
  have hE : ixE r a b i = 4 := by unfold ixE; rw [if_pos (sh_ok hs), if_neg (by omega)]
  refine ⟨?_, ?_, hE⟩
  · unfold ix0; rw [hE]; rfl
  · unfold ix1; rw [hE]; rfl
end Go.Proofs.YtnojidecfmpdjaaDoor
