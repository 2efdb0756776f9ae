/- Plain facts of Take, Drop and Cat of vectors. -/
import Derived.Test.YthfpmpmhoegicaaDoorMvPj
namespace Go.Proofs.YthfpmpmhoegicaaDoor
open Go.RowKit

theorem ar_vec {A : Ar} (h : Good A) (hr : A.r = 1) : vecA A.k A.z = A := by
  obtain ⟨_, _, e1, e2⟩ := rw_vec h hr
  obtain ⟨k, r, a, b, z⟩ := A
  simp only at hr e1 e2
  subst hr e1 e2
  rfl
theorem vec_good {A : Ar} (h : Good A) {z : List Int} (hl : z.length ≤ A.z.length) (hm : ∀ x ∈ z, x ∈ A.z) : Good (vecA A.k z) := ck_good (good_vec h hl hm)
theorem ct_vecs {k : Int} {x y : List Int} (hx : Good (vecA k x)) (hy : Good (vecA k y)) (hl : x.length + y.length ≤ 400) : ctE (vecA k x) (vecA k y) = 0 ∧ ctV (vecA k x) (vecA k y) = vecA k (x ++ y) := by
  obtain ⟨a1, a2, _, _⟩ := rw_vec hx rfl
  obtain ⟨b1, b2, _, _⟩ := rw_vec hy rfl
  have a2' : rwM (vecA k x) = x.length := a2
  have b2' : rwM (vecA k y) = y.length := b2
  have i : CatIs (vecA k x) (vecA k y) := ⟨⟨hx, hy, rfl, .inl rfl, rfl⟩, a1.trans b1.symm, by rw [a2', b2']; exact hl, by rw [a1, a2', b2', Nat.one_mul]; exact hl⟩
  refine ⟨i.e, ?_⟩
  rw [i.v]
  have hz : ctZ (vecA k x) (vecA k y) = x ++ y := by
    have hlen := ctZ_len (vecA k x) (vecA k y)
    rw [a1, a2', b2', Nat.one_mul] at hlen
    refine ext_getD (by rw [hlen, List.length_append]) fun t ht => ?_
    rw [hlen] at ht
    have hg : (ctZ (vecA k x) (vecA k y)).getD t 0 = if t < x.length then x.getD t 0 else y.getD (t - x.length) 0 := by
      unfold ctZ
      have := gl_at (n := rwN (vecA k x)) (m := rwM (vecA k x) + rwM (vecA k y)) (f := fun i k_1 => if k_1 < rwM (vecA k x) then (vecA k x).z.getD (i * rwM (vecA k x) + k_1) 0 else (vecA k y).z.getD (i * rwM (vecA k y) + (k_1 - rwM (vecA k x))) 0) (i := 0) (k := t) (by rw [a1]; exact Nat.one_pos) (by rw [a2', b2']; exact ht)
      rw [Nat.zero_mul, Nat.zero_add] at this
      rw [this]
      simp only [Nat.zero_mul, Nat.zero_add, a2']
      rfl
    rw [hg]
    by_cases h1 : t < x.length
    · rw [if_pos h1, List.getD_eq_getElem?_getD, List.getD_eq_getElem?_getD, List.getElem?_append_left h1]
    · rw [if_neg h1, List.getD_eq_getElem?_getD, List.getD_eq_getElem?_getD, List.getElem?_append_right (by omega)]
  rw [hz]
  show (⟨k, 1, (x.length : Int) + (y.length : Int), 0, x ++ y⟩ : Ar) = ⟨k, 1, ((x ++ y).length : Int), 0, x ++ y⟩
  rw [List.length_append, Int.natCast_add]
theorem in_good (n : Int) : Good (inA n) := ⟨.inl rfl, Sh.s0, by simp [inA, cn], by intro e; cases e⟩
theorem tk_in {A : Ar} (h : Good A) (hr : A.r = 1) (n : Int) : tkE (inA n) A = 0 := by
  unfold tkE twoE
  rw [if_pos (good_ck (in_good n)), if_pos (good_ck h), if_pos ⟨rfl, rfl⟩, if_neg (by show ¬ ((0 : Int) < 0 ∨ (0 : Int) < 0 ∨ A.r < 1 ∨ 1 < A.r); omega)]
/-- Cat of Take and Drop. -/
theorem parts_one {A : Ar} (h : Good A) (hr : A.r = 1) (n : Int) : tkE (inA n) A = 0 ∧ (n < 0 → ctE (drV (inA n) A) (tkV (inA n) A) = 0 ∧ ctV (drV (inA n) A) (tkV (inA n) A) = A) ∧ (¬ n < 0 → ctE (tkV (inA n) A) (drV (inA n) A) = 0 ∧ ctV (tkV (inA n) A) (drV (inA n) A) = A) := by
  have he := tk_in h hr n
  have hT : tkV (inA n) A = vecA A.k (tkZ n A.z) := orNo_yes he
  have hD : drV (inA n) A = vecA A.k (drZ n A.z) := orNo_yes he
  have gT := vec_good h (len_take n A.z) fun _ => mem_take
  have gD := vec_good h (len_drop n A.z) fun _ => mem_drop
  have h4 := h.len4
  refine ⟨he, fun hn => ?_, fun hn => ?_⟩
  · have e : drZ n A.z ++ tkZ n A.z = A.z := by unfold drZ tkZ; rw [if_pos hn, if_pos hn, List.take_append_drop]
    have hl : (drZ n A.z).length + (tkZ n A.z).length ≤ 400 := by rw [← List.length_append, e]; exact h4
    obtain ⟨c1, c2⟩ := ct_vecs gD gT hl
    rw [hT, hD]
    exact ⟨c1, by rw [c2, e]; exact ar_vec h hr⟩
  · have e : tkZ n A.z ++ drZ n A.z = A.z := by unfold drZ tkZ; rw [if_neg hn, if_neg hn, List.take_append_drop]
    have hl : (tkZ n A.z).length + (drZ n A.z).length ≤ 400 := by rw [← List.length_append, e]; exact h4
    obtain ⟨c1, c2⟩ := ct_vecs gT gD hl
    rw [hT, hD]
    exact ⟨c1, by rw [c2, e]; exact ar_vec h hr⟩
/-- Take and Drop of Cat. -/
theorem parts_two {A B : Ar} (hr : A.r = 1) (he : ctE A B = 0) : tkE (inA A.z.length) (ctV A B) = 0 ∧ tkV (inA A.z.length) (ctV A B) = A ∧ drV (inA A.z.length) (ctV A B) = B := by
  have i := cat_is he
  have hrB : B.r = 1 := i.ok.same.trans hr
  have e1 : tkE (inA A.z.length) (ctV A B) = 0 := tk_in i.good (by rw [i.kr.2.1]; exact hr) _
  have hA := ar_vec i.ok.gA hr
  have hB := ar_vec i.ok.gB hrB
  obtain ⟨a1, a2, _, _⟩ := rw_vec i.ok.gA hr
  obtain ⟨b1, b2, _, _⟩ := rw_vec i.ok.gB hrB
  have hl : A.z.length + B.z.length ≤ 400 := by have := i.many; rw [a1, a2, b2, Nat.one_mul] at this; exact this
  have gA : Good (vecA A.k A.z) := by rw [hA]; exact i.ok.gA
  have gB : Good (vecA A.k B.z) := by rw [← i.ok.kind, hB]; exact i.ok.gB
  have hC : ctV A B = vecA A.k (A.z ++ B.z) := by
    obtain ⟨_, c2⟩ := ct_vecs gA gB hl
    rw [← c2, hA, ← i.ok.kind, hB]
  have hn : ¬ ((A.z.length : Int) < 0) := by omega
  refine ⟨e1, ?_, ?_⟩
  · show orNo (tkE (inA A.z.length) (ctV A B)) (vecA (ctV A B).k (tkZ (A.z.length : Int) (ctV A B).z)) = A
    rw [orNo_yes e1, hC]
    show vecA A.k (tkZ (A.z.length : Int) (A.z ++ B.z)) = A
    unfold tkZ
    rw [if_neg hn, Int.toNat_natCast, List.take_left]
    exact hA
  · show orNo (tkE (inA A.z.length) (ctV A B)) (vecA (ctV A B).k (drZ (A.z.length : Int) (ctV A B).z)) = B
    rw [orNo_yes e1, hC]
    show vecA A.k (drZ (A.z.length : Int) (A.z ++ B.z)) = B
    unfold drZ
    rw [if_neg hn, Int.toNat_natCast, List.drop_left, ← i.ok.kind]
    exact hB
end Go.Proofs.YthfpmpmhoegicaaDoor
