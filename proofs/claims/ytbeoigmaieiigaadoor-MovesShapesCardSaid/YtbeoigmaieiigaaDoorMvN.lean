/- Pure facts on Cat; rows of an argument. -/
import Derived.Test.YtbeoigmaieiigaaDoorMvM
namespace Go.Proofs.YtbeoigmaieiigaaDoor
open Go.RowKit

theorem rwI_getD {A : Ar} (h : Good A) {i k : Nat} (hi : i < rwN A) (hk : k < rwM A) : (rwI A i).getD k 0 = A.z.getD (i * rwM A + k) 0 := by
  obtain ⟨_, _, e3, _, _⟩ := rw_good h
  have hl := rwI_len h hi
  have hlt := lt_at (n := rwN A) hi hk
  rw [getD_lt (by omega), getD_lt (by omega), rwI_get (by omega)]
/-- A row of an argument can be read. -/
theorem rp_rd {A : Ar} (h : Good A) {B : Nat} {w : World} {p : Option Addr} {n cap : Nat} (hv : RdI B w (.slice p n cap) A.z) {i : Nat} (hi : i < rwN A) : RdI B w (rp p (rwM A) i) (rwI A i) := by
  obtain ⟨_, _, e3, _, e5⟩ := rw_good h
  have hl := rwI_len h hi
  obtain ⟨p', cap', e, h1, h2, h3⟩ := hv
  cases e
  by_cases hm : rwM A = 0
  · have : rwI A i = [] := List.length_eq_zero_iff.1 (by omega)
    rw [this, hm]
    cases p with
    | none => exact rdI_none (by omega)
    | some ad => exact rdI_none (by omega)
  · have hz : A.z ≠ [] := by
      intro e
      have := Nat.mul_pos (show 0 < rwN A by omega) (show 0 < rwM A by omega)
      rw [e3, e] at this
      simp at this
    obtain ⟨b, off, rfl, hb, hc⟩ := h3 hz
    have hlt := lt_at (n := rwN A) hi (show rwM A - 1 < rwM A by omega)
    refine ⟨some ⟨b, off + i * rwM A, none⟩, rwM A, by rw [hl]; rfl, by omega, by omega, fun _ => ⟨b, off + i * rwM A, rfl, hb, fun j hj => ?_⟩⟩
    rw [Nat.add_assoc, hc _ (by omega), rwI_get hj]
/-- The cells of Cat, of which the first rows have been written. -/
def ctF (A B : Ar) (j x : Nat) : Int := if x < j * (rwM A + rwM B) then (ctZ A B).getD x 0 else 0
theorem ctF_zero (A B : Ar) (x : Nat) : ctF A B 0 x = 0 := by unfold ctF; rw [Nat.zero_mul, if_neg (by omega)]
theorem ctF_next {A B : Ar} (hA : Good A) (hB : Good B) {j : Nat} (hj : j < rwN A) (hj2 : j < rwN B) (x : Nat) :
    (if j * (rwM A + rwM B) + rwM A ≤ x ∧ x < j * (rwM A + rwM B) + rwM A + rwM B then (rwI B j).getD (x - (j * (rwM A + rwM B) + rwM A)) 0 else
      if j * (rwM A + rwM B) ≤ x ∧ x < j * (rwM A + rwM B) + rwM A then (rwI A j).getD (x - j * (rwM A + rwM B)) 0 else ctF A B j x) = ctF A B (j + 1) x := by
  have e : (j + 1) * (rwM A + rwM B) = j * (rwM A + rwM B) + (rwM A + rwM B) := by rw [Nat.add_mul, Nat.one_mul]
  unfold ctF
  rw [e]
  generalize hd : j * (rwM A + rwM B) = d
  by_cases h1 : d + rwM A ≤ x ∧ x < d + rwM A + rwM B
  · rw [if_pos h1, if_pos (by omega)]
    obtain ⟨k, rfl⟩ : ∃ k, x = d + (rwM A + k) := ⟨x - d - rwM A, by omega⟩
    rw [show d + (rwM A + k) - (d + rwM A) = k by omega, rwI_getD hB hj2 (by omega), ← hd]
    unfold ctZ
    rw [gl_at hj (by omega), if_neg (by omega), show rwM A + k - rwM A = k by omega]
  · rw [if_neg h1]
    by_cases h2 : d ≤ x ∧ x < d + rwM A
    · rw [if_pos h2, if_pos (by omega)]
      obtain ⟨k, rfl⟩ : ∃ k, x = d + k := ⟨x - d, by omega⟩
      rw [show d + k - d = k by omega, rwI_getD hA hj (by omega), ← hd]
      unfold ctZ
      rw [gl_at hj (by omega), if_pos (by omega)]
    · rw [if_neg h2]
      by_cases h3 : x < d
      · rw [if_pos h3, if_pos (by omega)]
      · rw [if_neg h3, if_neg (by omega)]
/-- The lengths of what Cat makes. -/
def ctA (A B : Ar) : Int := if A.r = 1 then A.a + B.a else A.a
def ctB (A B : Ar) : Int := if A.r = 1 then A.b else A.b + B.b
structure CatOk (A B : Ar) : Prop where
  gA : Good A
  gB : Good B
  kind : B.k = A.k
  rank : A.r = 1 ∨ A.r = 2
  same : B.r = A.r
theorem ct_ok {A B : Ar} (h : twoE A B A.k A.k 1 2 A.r A.r = 0) : CatOk A B := by
  obtain ⟨h1, h2, _, h4, h5, h6, h7, h8⟩ := two_ok h
  exact ⟨h1, h2, h4, by omega, by omega⟩
theorem ckS_vec {n : Int} (h : 0 ≤ n) : ckS 1 n 0 = if 400 < n then 15 else 0 := by
  have e : cn 1 n 0 = n := by simp [cn]
  unfold ckS
  rw [e, if_neg (by omega), if_neg (by omega)]
  by_cases h4 : 400 < n
  · rw [if_pos (by omega), if_pos h4]
  · rw [if_neg (by omega), if_neg h4]
theorem ckS_mat {a b : Int} (h : 0 ≤ a) (h2 : a ≤ 400) (h3 : 0 ≤ b) : ckS 2 a b = if 400 < b ∨ 400 < a * b then 15 else 0 := by
  have e : cn 2 a b = a * b := by simp [cn]
  unfold ckS
  rw [e, if_neg (by omega), if_neg (by omega)]
  by_cases h4 : 400 < b ∨ 400 < a * b
  · rw [if_pos (by omega), if_pos h4]
  · rw [if_neg (by omega), if_neg h4]
/-- What Cat returns where both have as many rows. -/
theorem ct_rows {A B : Ar} (h0 : twoE A B A.k A.k 1 2 A.r A.r = 0) : (rwN A ≠ rwN B → ctE A B = 11) ∧
    (rwN A = rwN B → ∃ n : Nat, n = rwN A * (rwM A + rwM B) ∧ n ≤ 1000000 ∧ (if A.r = 2 then ctA A B * ctB A B else ctA A B) = (n : Int) ∧ ctE A B = ck ⟨A.k, A.r, ctA A B, ctB A B, List.replicate n 0⟩ ∧
      (ctE A B = 0 → ctV A B = ⟨A.k, A.r, ctA A B, ctB A B, ctZ A B⟩ ∧ n ≤ 400)) := by
  have hc := ct_ok h0
  obtain ⟨gA, gB, hk, hr, hs⟩ := hc
  have hE : ctE A B = (if A.r = 2 ∧ A.a ≠ B.a then 11 else if 400 < A.z.length + B.z.length ∨ 400 < A.b + B.b then 15 else 0) := if_pos h0
  rcases hr with hr | hr
  · obtain ⟨a1, a2, a3, a4⟩ := rw_vec gA hr
    obtain ⟨b1, b2, b3, b4⟩ := rw_vec gB (hs.trans hr)
    rw [if_neg (by omega)] at hE
    refine ⟨fun h => absurd (a1.trans b1.symm) h, fun _ => ⟨_, rfl, ?_, ?_, ?_, fun he => ?_⟩⟩
    · rw [a1, a2, b2, Nat.one_mul]; have := gA.len4; have := gB.len4; omega
    · rw [if_neg (by omega), a1, a2, b2]; unfold ctA; rw [if_pos hr, a3, b3]; omega
    · rw [hE, ck_zeros gA.kind (fun _ => by rw [a1, a2, b2]; unfold ctA ctB cn; rw [if_pos hr, if_neg (by omega), if_pos hr, a3, b3]; omega)]
      unfold ctA ctB
      rw [if_pos hr, if_pos hr, hr, a4, ckS_vec (by omega), a3, b3, b4]
      by_cases h : 400 < A.z.length + B.z.length
      · rw [if_pos (.inl h), if_pos (by omega)]
      · rw [if_neg (by omega), if_neg (by omega)]
    · have hl : (ctZ A B).length = A.z.length + B.z.length := by rw [ctZ, gl_len, a1, a2, b2, Nat.one_mul]
      refine ⟨?_, ?_⟩
      · unfold ctV
        rw [orNo_yes he, if_neg (by omega)]
        unfold vecA ctA ctB
        rw [if_pos hr, if_pos hr, hr, hl, a3, b3, a4]
        congr 1
      · rw [a1, a2, b2, Nat.one_mul]
        rw [hE] at he
        by_cases h : 400 < A.z.length + B.z.length ∨ 400 < A.b + B.b
        · rw [if_pos h] at he; cases he
        · omega
  · obtain ⟨a1, a2, a3, a4, a5⟩ := rw_mat gA hr
    obtain ⟨b1, b2, b3, b4, b5⟩ := rw_mat gB (hs.trans hr)
    refine ⟨fun h => by rw [hE, if_pos ⟨hr, by omega⟩], fun h => ?_⟩
    rw [if_neg (by omega)] at hE
    have hp : rwN A * (rwM A + rwM B) = A.z.length + B.z.length := by rw [Nat.mul_add, a3, b3, h]
    refine ⟨_, rfl, ?_, ?_, ?_, fun he => ?_⟩
    · rw [hp]; have := gA.len4; have := gB.len4; omega
    · rw [if_pos hr]; unfold ctA ctB; rw [if_neg (by omega), if_neg (by omega), a1, a2, b2, Int.natCast_mul, Int.natCast_add]
    · have hprod : A.a * (A.b + B.b) = ((A.z.length + B.z.length : Nat) : Int) := by rw [← hp, a1, a2, b2, Int.natCast_mul, Int.natCast_add]
      rw [hE, ck_zeros gA.kind (fun _ => by rw [hp]; unfold ctA ctB cn; rw [if_neg (by omega), if_neg (by omega), if_neg (by omega), if_neg (by omega), hprod])]
      have c1 : ctA A B = A.a := if_neg (by omega)
      have c2 : ctB A B = A.b + B.b := if_neg (by omega)
      rw [c1, c2, hr, ckS_mat (by omega) (by omega) (by omega), hprod]
      by_cases hb : 400 < A.z.length + B.z.length ∨ 400 < A.b + B.b
      · rw [if_pos hb, if_pos (by omega)]
      · rw [if_neg hb, if_neg (by omega)]
    · refine ⟨?_, ?_⟩
      · unfold ctV
        rw [orNo_yes he, if_pos hr]
        unfold ctA ctB
        rw [if_neg (by omega), if_neg (by omega), hr]
      · rw [hp]
        rw [hE] at he
        by_cases hb : 400 < A.z.length + B.z.length ∨ 400 < A.b + B.b
        · rw [if_pos hb] at he; cases he
        · omega
/-- rows of what Cat makes. -/
theorem ct_mrows {A B : Ar} (hc : CatOk A B) {n : Nat} (hn : n = rwN A * (rwM A + rwM B)) (h4 : n ≤ 400) (hm : rwM A + rwM B ≤ 400) (g : Nat) (W : World) :
    Calls Tryd.prog 42 #[A5 A.k A.r (ctA A B) (ctB A B) (.slice (some ⟨g, 0, none⟩) n n)] W fun e w' => ∃ h, e = .returned (.slice (some ⟨h, 0, none⟩) (rwN A) (rwN A)) ∧ W.heap.size ≤ h ∧ w'.rowIs h 23 (rwN A) (rp (some ⟨g, 0, none⟩) (rwM A + rwM B)) ∧ Below W.heap.size W w' := by
  rcases hc.rank with hr | hr
  · obtain ⟨a1, a2, a3, a4⟩ := rw_vec hc.gA hr
    obtain ⟨b1, b2, b3, b4⟩ := rw_vec hc.gB (hc.same.trans hr)
    have e : ctA A B = (n : Int) := by unfold ctA; rw [if_pos hr, a3, b3, hn, a1, a2, b2]; omega
    rw [e, hr, a1]
    have e2 : rwM A + rwM B = n := by rw [hn, a1]; omega
    rw [e2]
    exact mrows1_any A.k n _ _ n W (by omega) (Nat.le_refl _) (by omega) (fun _ => ⟨g, 0, rfl⟩) (fun e => by cases e)
  · obtain ⟨a1, a2, a3, a4, a5⟩ := rw_mat hc.gA hr
    obtain ⟨b1, b2, b3, b4, b5⟩ := rw_mat hc.gB (hc.same.trans hr)
    have e : ctA A B = (rwN A : Int) := by unfold ctA; rw [if_neg (by omega), a1]
    have e2 : ctB A B = ((rwM A + rwM B : Nat) : Int) := by unfold ctB; rw [if_neg (by omega), a2, b2]; omega
    rw [e, e2, hr]
    exact mrows2_any A.k (rwN A) (rwM A + rwM B) n _ n W hn.symm a4 hm (Nat.le_refl _) (by omega) (fun _ => ⟨g, 0, rfl⟩) (fun e => by cases e)
/-- Rows are not too long, if there is no error. -/
theorem ct_wide {A B : Ar} (h0 : twoE A B A.k A.k 1 2 A.r A.r = 0) (he : ctE A B = 0) : rwM A + rwM B ≤ 400 := by
  have hc := ct_ok h0
  obtain ⟨gA, gB, hk, hr, hs⟩ := hc
  have hE : ctE A B = (if A.r = 2 ∧ A.a ≠ B.a then 11 else if 400 < A.z.length + B.z.length ∨ 400 < A.b + B.b then 15 else 0) := if_pos h0
  rw [hE] at he
  have h1 : ¬ (A.r = 2 ∧ A.a ≠ B.a) := fun h => by rw [if_pos h] at he; cases he
  rw [if_neg h1] at he
  have h2 : ¬ (400 < A.z.length + B.z.length ∨ 400 < A.b + B.b) := fun h => by rw [if_pos h] at he; cases he
  rcases hr with hr | hr
  · obtain ⟨a1, a2, a3, a4⟩ := rw_vec gA hr
    obtain ⟨b1, b2, b3, b4⟩ := rw_vec gB (hs.trans hr)
    omega
  · obtain ⟨a1, a2, a3, a4, a5⟩ := rw_mat gA hr
    obtain ⟨b1, b2, b3, b4, b5⟩ := rw_mat gB (hs.trans hr)
    omega
theorem ctZ_len (A B : Ar) : (ctZ A B).length = rwN A * (rwM A + rwM B) := by rw [ctZ, gl_len]
end Go.Proofs.YtbeoigmaieiigaaDoor
