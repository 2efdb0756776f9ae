/- Plain facts of Cat: when it has no error, what it is then; that it is associative; of its reverse. -/
import Derived.Test.YtpbfbejckhbijaaDoorMvPb
namespace Go.Proofs.YtpbfbejckhbijaaDoor
open Go.RowKit

theorem ok_two {A B : Ar} (h : CatOk A B) : twoE A B A.k A.k 1 2 A.r A.r = 0 := by
  unfold twoE
  have := h.rank
  have := h.same
  rw [if_pos (good_ck h.gA), if_pos (good_ck h.gB), if_pos ⟨rfl, h.kind⟩, if_neg (by omega)]
theorem ctE_eq {A B : Ar} (h : CatOk A B) : ctE A B = (if rwN A ≠ rwN B then 11 else if 400 < rwM A + rwM B ∨ 400 < rwN A * (rwM A + rwM B) then 15 else 0) := by
  have hE : ctE A B = (if A.r = 2 ∧ A.a ≠ B.a then 11 else if 400 < A.z.length + B.z.length ∨ 400 < A.b + B.b then 15 else 0) := if_pos (ok_two h)
  rw [hE]
  rcases h.rank with hr | hr
  · obtain ⟨a1, a2, a3, a4⟩ := rw_vec h.gA hr
    obtain ⟨b1, b2, b3, b4⟩ := rw_vec h.gB (h.same.trans hr)
    rw [if_neg (show ¬ (A.r = 2 ∧ A.a ≠ B.a) by omega), if_neg (show ¬ (rwN A ≠ rwN B) by omega), a1, a2, b2, Nat.one_mul]
    by_cases h4 : 400 < A.z.length + B.z.length
    · rw [if_pos (.inl h4), if_pos (.inl h4)]
    · rw [if_neg (by omega), if_neg (by omega)]
  · obtain ⟨a1, a2, a3, a4, a5⟩ := rw_mat h.gA hr
    obtain ⟨b1, b2, b3, b4, b5⟩ := rw_mat h.gB (h.same.trans hr)
    by_cases hn : rwN A = rwN B
    · rw [if_neg (show ¬ (A.r = 2 ∧ A.a ≠ B.a) by omega), if_neg (show ¬ (rwN A ≠ rwN B) by omega)]
      have hp : rwN A * (rwM A + rwM B) = A.z.length + B.z.length := by rw [Nat.mul_add, a3, b3, hn]
      rw [hp]
      by_cases h4 : 400 < A.z.length + B.z.length ∨ 400 < A.b + B.b
      · rw [if_pos h4, if_pos (by omega)]
      · rw [if_neg h4, if_neg (by omega)]
    · rw [if_pos (show A.r = 2 ∧ A.a ≠ B.a by omega), if_pos hn]
/-- Cat without an error. -/
structure CatIs (A B : Ar) : Prop where
  ok : CatOk A B
  rows : rwN A = rwN B
  wide : rwM A + rwM B ≤ 400
  many : rwN A * (rwM A + rwM B) ≤ 400
theorem cat_is {A B : Ar} (h : ctE A B = 0) : CatIs A B := by
  have h0 : twoE A B A.k A.k 1 2 A.r A.r = 0 := by
    by_cases h1 : twoE A B A.k A.k 1 2 A.r A.r = 0
    · exact h1
    · unfold ctE at h
      rw [if_neg h1] at h
      exact absurd h h1
  have hc := ct_ok h0
  rw [ctE_eq hc] at h
  by_cases h2 : rwN A = rwN B
  · rw [if_neg (fun e => e h2)] at h
    by_cases h3 : 400 < rwM A + rwM B ∨ 400 < rwN A * (rwM A + rwM B)
    · rw [if_pos h3] at h; cases h
    · exact ⟨hc, h2, by omega, by omega⟩
  · rw [if_pos h2] at h; cases h
section
variable {A B C : Ar}
theorem CatIs.e (h : CatIs A B) : ctE A B = 0 := by
  rw [ctE_eq h.ok, if_neg (fun e => e h.rows), if_neg (by have := h.wide; have := h.many; omega)]
theorem CatIs.v (h : CatIs A B) : ctV A B = ⟨A.k, A.r, ctA A B, ctB A B, ctZ A B⟩ := by
  obtain ⟨_, hyes⟩ := ct_rows (ok_two h.ok)
  obtain ⟨n, _, _, _, _, h5⟩ := hyes h.rows
  exact (h5 h.e).1
theorem CatIs.good' (h : CatIs A B) : Good ⟨A.k, A.r, ctA A B, ctB A B, ctZ A B⟩ := by
  obtain ⟨_, hyes⟩ := ct_rows (ok_two h.ok)
  obtain ⟨n, hn, _, _, h4, h5⟩ := hyes h.rows
  rw [h.e] at h4
  have hg := ck_good h4.symm
  have hl : (ctZ A B).length = (List.replicate n (0 : Int)).length := by rw [ctZ_len, List.length_replicate, hn]
  refine good_same hg hl fun e => gl_isR fun i k => ?_
  have e' : A.k = 2 := e
  by_cases hk : k < rwM A
  · rw [if_pos hk]; exact isR_getD (h.ok.gA.runes e') _
  · rw [if_neg hk]; exact isR_getD (h.ok.gB.runes (h.ok.kind.trans e')) _
theorem CatIs.good (h : CatIs A B) : Good (ctV A B) := by rw [h.v]; exact h.good'
theorem CatIs.rw (h : CatIs A B) : rwN (ctV A B) = rwN A ∧ rwM (ctV A B) = rwM A + rwM B := by
  rw [h.v]
  have hg := h.good'
  rcases h.ok.rank with hr | hr
  · obtain ⟨a1, a2, a3, a4⟩ := rw_vec h.ok.gA hr
    obtain ⟨c1, c2, c3, c4⟩ := rw_vec hg hr
    refine ⟨c1.trans a1.symm, c2.trans ?_⟩
    show (ctZ A B).length = _
    rw [ctZ_len, a1, Nat.one_mul]
  · obtain ⟨a1, a2, a3, a4, a5⟩ := rw_mat h.ok.gA hr
    obtain ⟨b1, b2, b3, b4, b5⟩ := rw_mat h.ok.gB (h.ok.same.trans hr)
    obtain ⟨c1, c2, c3, c4, c5⟩ := rw_mat hg hr
    have e1 : ctA A B = A.a := if_neg (by omega)
    have e2 : ctB A B = A.b + B.b := if_neg (by omega)
    simp only at c1 c2
    constructor <;> omega
theorem CatIs.at (h : CatIs A B) {i k : Nat} (hi : i < rwN A) (hk : k < rwM A + rwM B) : (ctV A B).z.getD (i * (rwM A + rwM B) + k) 0 = if k < rwM A then A.z.getD (i * rwM A + k) 0 else B.z.getD (i * rwM B + (k - rwM A)) 0 := by
  rw [h.v]
  show (ctZ A B).getD _ 0 = _
  unfold ctZ
  rw [gl_at hi hk]
theorem CatIs.kr (h : CatIs A B) : (ctV A B).k = A.k ∧ (ctV A B).r = A.r ∧ (ctV A B).a = ctA A B ∧ (ctV A B).b = ctB A B := by rw [h.v]; exact ⟨rfl, rfl, rfl, rfl⟩
theorem CatIs.len (h : CatIs A B) : (ctV A B).z.length ≤ 400 := by
  rw [h.v]
  show (ctZ A B).length ≤ _
  rw [ctZ_len]; exact h.many
/-- Cat is associative. -/
theorem cat_assoc (h1 : CatIs A B) (h2 : CatIs B C) : ctE (ctV A B) C = ctE A (ctV B C) ∧ ctV (ctV A B) C = ctV A (ctV B C) := by
  obtain ⟨n1, m1⟩ := h1.rw
  obtain ⟨n2, m2⟩ := h2.rw
  obtain ⟨k1, r1, x1, y1⟩ := h1.kr
  obtain ⟨k2, r2, x2, y2⟩ := h2.kr
  have o1 : CatOk (ctV A B) C := ⟨h1.good, h2.ok.gB, by rw [k1, h2.ok.kind, h1.ok.kind], by rw [r1]; exact h1.ok.rank, by rw [r1, h2.ok.same, h1.ok.same]⟩
  have o2 : CatOk A (ctV B C) := ⟨h1.ok.gA, h2.good, by rw [k2, h1.ok.kind], h1.ok.rank, by rw [r2, h1.ok.same]⟩
  have hE : ctE (ctV A B) C = ctE A (ctV B C) := by
    rw [ctE_eq o1, ctE_eq o2, n1, m1, n2, m2, if_neg (show ¬ (rwN A ≠ rwN C) from fun e => e (h1.rows.trans h2.rows)), if_neg (show ¬ (rwN A ≠ rwN B) from fun e => e h1.rows), Nat.add_assoc]
  refine ⟨hE, ?_⟩
  by_cases h0 : ctE (ctV A B) C = 0
  · have i1 := cat_is h0
    have i2 := cat_is (hE ▸ h0)
    rw [i1.v, i2.v, k1, r1]
    have eA : ctA (ctV A B) C = ctA A (ctV B C) := by
      unfold ctA
      rw [r1, x1, x2]
      have := h1.ok.same
      unfold ctA
      by_cases hr : A.r = 1
      · rw [if_pos hr, if_pos hr, if_pos hr, if_pos (by omega), Int.add_assoc]
      · rw [if_neg hr, if_neg hr, if_neg hr]
    have eB : ctB (ctV A B) C = ctB A (ctV B C) := by
      unfold ctB
      rw [r1, y1, y2]
      have := h1.ok.same
      unfold ctB
      by_cases hr : A.r = 1
      · rw [if_pos hr, if_pos hr, if_pos hr]
      · rw [if_neg hr, if_neg hr, if_neg hr, if_neg (by omega), Int.add_assoc]
    have eZ : ctZ (ctV A B) C = ctZ A (ctV B C) := by
      unfold ctZ
      rw [n1, m1, m2, Nat.add_assoc]
      refine gl_congr fun i hi k hk => ?_
      by_cases q1 : k < rwM A
      · rw [if_pos q1, if_pos (by omega), h1.at hi (by omega), if_pos q1]
      · rw [if_neg q1]
        have hi2 : i < rwN B := by rw [← h1.rows]; exact hi
        rw [h2.at hi2 (show k - rwM A < rwM B + rwM C by omega)]
        by_cases q2 : k < rwM A + rwM B
        · rw [if_pos q2, h1.at hi q2, if_neg q1, if_pos (by omega)]
        · rw [if_neg q2, if_neg (by omega), Nat.sub_sub]
    rw [eA, eB, eZ]
  · have h0' : ctE A (ctV B C) ≠ 0 := hE ▸ h0
    unfold ctV at *
    rw [orNo_no h0, orNo_no h0']
/-- Reverse of Cat is Cat of the reverses in the other order. -/
theorem cat_rev (h : CatIs A B) : rvE (ctV A B) = 0 ∧ rvE A = 0 ∧ rvE B = 0 ∧ ctE (rvV B) (rvV A) = 0 ∧ ctV (rvV B) (rvV A) = rvV (ctV A B) := by
  have hrB : B.r = 1 ∨ B.r = 2 := by rw [h.ok.same]; exact h.ok.rank
  obtain ⟨k1, r1, x1, y1⟩ := h.kr
  obtain ⟨n1, m1⟩ := h.rw
  have hr1 : (ctV A B).r = 1 ∨ (ctV A B).r = 2 := by rw [r1]; exact h.ok.rank
  refine ⟨rvE_ok h.good hr1, rvE_ok h.ok.gA h.ok.rank, rvE_ok h.ok.gB hrB, ?_⟩
  rw [rvV_ok h.ok.gA h.ok.rank, rvV_ok h.ok.gB hrB, rvV_ok h.good hr1]
  have i : CatIs ⟨B.k, B.r, B.a, B.b, rvZ B⟩ ⟨A.k, A.r, A.a, A.b, rvZ A⟩ :=
    ⟨⟨rv_good h.ok.gB, rv_good h.ok.gA, h.ok.kind.symm, hrB, h.ok.same.symm⟩, h.rows.symm, by
      show rwM B + rwM A ≤ 400
      have := h.wide
      omega, by
      show rwN B * (rwM B + rwM A) ≤ 400
      rw [← h.rows, Nat.add_comm]; exact h.many⟩
  refine ⟨i.e, ?_⟩
  rw [i.v, k1, r1, x1, y1]
  have eZ : ctZ ⟨B.k, B.r, B.a, B.b, rvZ B⟩ ⟨A.k, A.r, A.a, A.b, rvZ A⟩ = rvZ (ctV A B) := by
    show (gl (rwN B) (rwM B + rwM A) fun i k => if k < rwM B then (rvZ B).getD (i * rwM B + k) 0 else (rvZ A).getD (i * rwM A + (k - rwM B)) 0) = _
    unfold rvZ
    rw [n1, m1, ← h.rows, Nat.add_comm (rwM B)]
    refine gl_congr fun i hi k hk => ?_
    rw [h.at hi (by omega)]
    have hi2 : i < rwN B := by rw [← h.rows]; exact hi
    by_cases q : k < rwM B
    · rw [if_pos q, if_neg (by omega), gl_at hi q, show rwM A + rwM B - 1 - k - rwM A = rwM B - 1 - k by omega]
    · rw [if_neg q, if_pos (by omega), gl_at hi (by omega), show rwM A - 1 - (k - rwM B) = rwM A + rwM B - 1 - k by omega]
  rw [eZ]
  have eA : ctA ⟨B.k, B.r, B.a, B.b, rvZ B⟩ ⟨A.k, A.r, A.a, A.b, rvZ A⟩ = ctA A B := by
    unfold ctA
    have hs := h.ok.same
    by_cases hr : A.r = 1
    · rw [if_pos hr, if_pos (by show B.r = 1; omega), Int.add_comm]
    · rw [if_neg hr, if_neg (by show ¬ B.r = 1; omega)]
      have hr2 : A.r = 2 := by rcases h.ok.rank with e | e; (exact absurd e hr); exact e
      obtain ⟨a1, _⟩ := rw_mat h.ok.gA hr2
      obtain ⟨b1, _⟩ := rw_mat h.ok.gB (hs.trans hr2)
      have := h.rows
      show B.a = A.a
      omega
  have eB : ctB ⟨B.k, B.r, B.a, B.b, rvZ B⟩ ⟨A.k, A.r, A.a, A.b, rvZ A⟩ = ctB A B := by
    unfold ctB
    have hs := h.ok.same
    by_cases hr : A.r = 1
    · rw [if_pos hr, if_pos (by show B.r = 1; omega)]
      obtain ⟨_, _, _, a4⟩ := rw_vec h.ok.gA hr
      obtain ⟨_, _, _, b4⟩ := rw_vec h.ok.gB (hs.trans hr)
      show B.b = A.b
      omega
    · rw [if_neg hr, if_neg (by show ¬ B.r = 1; omega), Int.add_comm]
  rw [eA, eB]
  have := h.ok.kind
  have := h.ok.same
  simp only [*]
end
end Go.Proofs.YtpbfbejckhbijaaDoor
