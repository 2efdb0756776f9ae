/- Plain facts for the law Members. -/
import Derived.Test.YtpbfbejckhbijaaDoorFiS
import Derived.Test.YtpbfbejckhbijaaDoorMvPj
namespace Go.Proofs.YtpbfbejckhbijaaDoor
open Go.RowKit

/-- The numbers of a list that lie in another. -/
def mem8 (V A : List Int) : List Int := A.filter fun x => decide (x ∈ V)
theorem pk_mb (V : List Int) : ∀ A : List Int, pkZ (A.map fun x => if x ∈ V then 1 else 0) A = mem8 V A
  | [] => rfl
  | x :: l => by
    have := pk_mb V l
    unfold mem8 at this ⊢
    rw [List.map_cons, List.filter_cons, pkZ]
    by_cases h : x ∈ V
    · rw [if_pos h, if_neg (by decide), if_pos (by simpa using h), this]
    · rw [if_neg h, if_pos rfl, if_neg (by simpa using h), this]
theorem mem8_split {V A : List Int} {j : Nat} (hj : j < A.length) : mem8 V (A.take (j + 1)) = mem8 V (A.take j) ++ (if A[j] ∈ V then [A[j]] else []) ∧ mem8 V A = mem8 V (A.take (j + 1)) ++ mem8 V (A.drop (j + 1)) := by
  constructor
  · rw [← takeI_snoc hj, List.getD_eq_getElem?_getD, List.getElem?_eq_getElem hj]
    unfold mem8
    rw [List.filter_append]
    by_cases h : A[j] ∈ V
    · simp [h]
    · simp [h]
  · unfold mem8
    rw [← List.filter_append, List.take_append_drop]
theorem mem8_hit {V A : List Int} {j : Nat} (hj : j < A.length) (h : A[j] ∈ V) : (mem8 V (A.take j)).length < (mem8 V A).length ∧ (mem8 V A)[(mem8 V (A.take j)).length]? = some A[j] ∧ (mem8 V (A.take (j + 1))).length = (mem8 V (A.take j)).length + 1 := by
  obtain ⟨h1, h2⟩ := mem8_split (V := V) hj
  rw [if_pos h] at h1
  rw [h1] at h2
  refine ⟨?_, ?_, by rw [h1]; simp⟩
  · rw [h2]; simp
  · rw [h2]; simp
theorem mem8_miss {V A : List Int} {j : Nat} (hj : j < A.length) (h : ¬ A[j] ∈ V) : (mem8 V (A.take (j + 1))).length = (mem8 V (A.take j)).length := by
  obtain ⟨h1, h2⟩ := mem8_split (V := V) hj
  rw [if_neg h] at h1
  rw [h1]; simp
theorem mem8_le (V A : List Int) : (mem8 V A).length ≤ A.length := List.length_filter_le _ _
theorem mbE_vec {A V : Ar} (hA : ck A = 0) (hV : ck V = 0) (hk : A.k = V.k) (h1 : A.r = 1) (h2 : V.r = 1) : mbE A V = 0 :=
  (if_pos hA).trans ((if_pos hV).trans ((if_pos ⟨hk, rfl⟩).trans (if_neg (by omega))))
theorem vec_ab {A : Ar} (h : ck A = 0) (h1 : A.r = 1) : A.a = (A.z.length : Int) := by
  have hg := ck_good h
  have hl := hg.len
  rw [h1] at hl
  rw [hl]; simp [cn]
theorem ct_rw {A : Ar} (h : ck A = 0) (h1 : A.r = 1) : rwN A = 1 ∧ rwM A = A.z.length := by
  obtain ⟨a1, a2, a3, _, _⟩ := rw_good (ck_good h)
  have hs := sh_ok (ck_good h).sh
  have e1 : rwN A = 1 := by
    unfold rwN rw0
    rw [if_pos hs, if_neg (by omega)]; rfl
  exact ⟨e1, by rw [e1] at a3; omega⟩
/-- Cat of two vectors. -/
theorem ct_vec {B C : Ar} (hB : ck B = 0) (hC : ck C = 0) (h1 : B.r = 1) (h2 : C.r = 1) (hk : B.k = C.k) (h : ctE B C = 0) : ctV B C = ⟨B.k, 1, (B.z ++ C.z).length, 0, B.z ++ C.z⟩ ∧ ck ⟨B.k, 1, (B.z ++ C.z).length, 0, B.z ++ C.z⟩ = 0 := by
  obtain ⟨n1, m1⟩ := ct_rw hB h1
  obtain ⟨n2, m2⟩ := ct_rw hC h2
  have gB := ck_good hB
  have gC := ck_good hC
  have hz : ctZ B C = B.z ++ C.z := by
    refine ext_getD (by rw [ctZ_len, n1, m1, m2, List.length_append, Nat.one_mul]) fun t ht => ?_
    rw [ctZ_len, n1, m1, m2, Nat.one_mul] at ht
    unfold ctZ gl
    rw [n1, m1, m2, Nat.one_mul, List.getD_eq_getElem?_getD, List.getElem?_map, List.getElem?_range ht]
    show (if t % (B.z.length + C.z.length) < B.z.length then B.z.getD (t / (B.z.length + C.z.length) * B.z.length + t % (B.z.length + C.z.length)) 0 else C.z.getD (t / (B.z.length + C.z.length) * C.z.length + (t % (B.z.length + C.z.length) - B.z.length)) 0) = _
    rw [Nat.mod_eq_of_lt ht, Nat.div_eq_of_lt ht, Nat.zero_mul, Nat.zero_mul, Nat.zero_add, Nat.zero_add, List.getD_eq_getElem?_getD, List.getD_eq_getElem?_getD, List.getD_eq_getElem?_getD]
    by_cases hc : t < B.z.length
    · rw [if_pos hc, List.getElem?_append_left hc]
    · rw [if_neg hc, List.getElem?_append_right (by omega)]
  have hV : ctV B C = ⟨B.k, 1, (B.z ++ C.z).length, 0, B.z ++ C.z⟩ := by
    unfold ctV
    rw [orNo_yes h, if_neg (by omega), hz]
    rfl
  have hlen : (B.z ++ C.z).length ≤ 400 := by
    rw [List.length_append]
    by_cases hc : 400 < B.z.length + C.z.length
    · exfalso
      unfold ctE at h
      have ht : twoE B C B.k B.k 1 2 B.r B.r = 0 := (if_pos hB).trans ((if_pos hC).trans ((if_pos ⟨rfl, hk.symm⟩).trans (if_neg (by omega))))
      rw [if_pos ht, if_neg (by omega), if_pos (.inl hc)] at h
      simp at h
    · omega
  exact ⟨hV, ck_vec (k := B.k) gB.kind hlen fun e => by rw [List.all_append, gB.runes e, gC.runes (by rw [← hk]; exact e)]; rfl⟩
/-- What Members looks at: at each place the greater of two marks. -/
theorem mb_max (A B C : Ar) {t : Nat} (ht : t < A.z.length) : (mbZ A ⟨B.k, 1, (B.z ++ C.z).length, 0, B.z ++ C.z⟩).getD t 0 = if (mbZ A C).getD t 0 > (mbZ A B).getD t 0 then (mbZ A C).getD t 0 else (mbZ A B).getD t 0 := by
  unfold mbZ
  simp only [List.getD_eq_getElem?_getD, List.getElem?_map, List.getElem?_eq_getElem ht, Option.map_some, Option.getD_some, List.mem_append]
  by_cases h1 : A.z[t] ∈ B.z <;> by_cases h2 : A.z[t] ∈ C.z <;> simp [h1, h2]
theorem mbZ_len (A B : Ar) : (mbZ A B).length = A.z.length := by unfold mbZ; rw [List.length_map]
/-- Whether a number has been met. -/
def metB (V : List Int) (x : Int) (n : Nat) : Bool := decide (x ∈ V.take n)
theorem metB_zero (V : List Int) (x : Int) : metB V x 0 = false := by simp [metB]
theorem metB_snoc {V : List Int} {x : Int} {n : Nat} (hn : n < V.length) : metB V x (n + 1) = (metB V x n || (V[n] == x)) := by
  have e : x ∈ V.take (n + 1) ↔ (x ∈ V.take n ∨ x = V[n]) := by
    rw [← takeI_snoc hn, List.getD_eq_getElem?_getD, List.getElem?_eq_getElem hn]
    exact List.mem_append.trans (or_congr Iff.rfl List.mem_singleton)
  unfold metB
  rw [Bool.eq_iff_iff, decide_eq_true_iff, Bool.or_eq_true, decide_eq_true_iff, beq_iff_eq]
  exact e.trans (or_congr Iff.rfl eq_comm)
theorem metB_all (V : List Int) (x : Int) : metB V x V.length = decide (x ∈ V) := by rw [metB, List.take_length]
end Go.Proofs.YtpbfbejckhbijaaDoor
