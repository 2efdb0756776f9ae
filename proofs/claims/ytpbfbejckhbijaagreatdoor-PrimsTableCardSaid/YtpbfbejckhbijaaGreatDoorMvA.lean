/- Plain facts for the moves: grids of cells, what the functions return. -/
import Derived.Test.YtpbfbejckhbijaaGreatDoorArY
namespace Go.Proofs.YtpbfbejckhbijaaGreatDoor
open Go.RowKit

/-- Cells of n rows with m numbers each. -/
def gl (n m : Nat) (f : Nat → Nat → Int) : List Int := (List.range (n * m)).map fun t => f (t / m) (t % m)
theorem gl_len (n m : Nat) (f : Nat → Nat → Int) : (gl n m f).length = n * m := by simp [gl]
theorem div_at {i k m : Nat} (h : k < m) : (i * m + k) / m = i := by
  rw [Nat.mul_comm, Nat.mul_add_div (by omega), Nat.div_eq_of_lt h, Nat.add_zero]
theorem mod_at {i k m : Nat} (h : k < m) : (i * m + k) % m = k := by
  rw [Nat.mul_comm, Nat.mul_add_mod, Nat.mod_eq_of_lt h]
theorem lt_at {i k n m : Nat} (hi : i < n) (hk : k < m) : i * m + k < n * m := by
  have := Nat.mul_le_mul_right m (show i + 1 ≤ n by omega)
  rw [Nat.add_mul] at this; omega
theorem gl_getD {n m : Nat} {f : Nat → Nat → Int} {t : Nat} (h : t < n * m) : (gl n m f).getD t 0 = f (t / m) (t % m) := by
  simp [gl, List.getD_eq_getElem?_getD, h]
theorem gl_at {n m : Nat} {f : Nat → Nat → Int} {i k : Nat} (hi : i < n) (hk : k < m) : (gl n m f).getD (i * m + k) 0 = f i k := by
  rw [gl_getD (lt_at hi hk), div_at hk, mod_at hk]
theorem ext_getD {l m : List Int} (hl : l.length = m.length) (h : ∀ t, t < l.length → l.getD t 0 = m.getD t 0) : l = m := by
  refine List.ext_getElem hl fun t h1 h2 => ?_
  have := h t h1
  simpa [List.getD_eq_getElem?_getD, h1, h2] using this
theorem split_lt {t n m : Nat} (h : t < n * m) : t / m < n ∧ t % m < m ∧ t = t / m * m + t % m := by
  have hm : 0 < m := by
    rcases Nat.eq_zero_or_pos m with e | e
    · subst e; omega
    · exact e
  refine ⟨(Nat.div_lt_iff_lt_mul hm).2 h, Nat.mod_lt _ hm, ?_⟩
  have := Nat.div_add_mod t m
  rw [Nat.mul_comm] at this; omega
/-- A list is a grid, if its numbers are those of the grid, row by row. -/
theorem gl_ext {l : List Int} {n m : Nat} {f : Nat → Nat → Int} (hl : l.length = n * m) (h : ∀ i, i < n → ∀ k, k < m → l.getD (i * m + k) 0 = f i k) : l = gl n m f := by
  refine ext_getD (by rw [gl_len, hl]) fun t ht => ?_
  rw [hl] at ht
  obtain ⟨h1, h2, h3⟩ := split_lt ht
  rw [gl_getD ht, ← h _ h1 _ h2, ← h3]
theorem gl_self {l : List Int} {n m : Nat} (hl : l.length = n * m) : l = gl n m fun i k => l.getD (i * m + k) 0 := gl_ext hl fun _ _ _ _ => rfl
theorem gl_congr {n m : Nat} {f g : Nat → Nat → Int} (h : ∀ i, i < n → ∀ k, k < m → f i k = g i k) : gl n m f = gl n m g :=
  gl_ext (gl_len _ _ _) fun i hi k hk => by rw [gl_at hi hk, h i hi k hk]
theorem gl_none {n m : Nat} {f : Nat → Nat → Int} (h : n * m = 0) : gl n m f = [] := List.length_eq_zero_iff.1 (by rw [gl_len]; exact h)

/-- Errors of one operand, whose rank is to be from l to m. -/
def oneE (A : Ar) (l m : Int) : Int := if ck A = 0 then (if A.r < l ∨ m < A.r then 22 else 0) else ck A
/-- Errors of two operands, the first of which is to be of a kind. -/
def twoE (A B : Ar) (kA kB lA mA lB mB : Int) : Int :=
  if ck A = 0 then (if ck B = 0 then (if A.k = kA ∧ B.k = kB then (if A.r < lA ∨ mA < A.r ∨ B.r < lB ∨ mB < B.r then 22 else 0) else 21) else ck B) else ck A
def orNo (e : Int) (A : Ar) : Ar := if e = 0 then A else Ar.no

def raV (A : Ar) : Ar := orNo (ck A) ⟨A.k, 1, A.z.length, 0, A.z⟩
def rvE (A : Ar) : Int := oneE A 1 2
def rvZ (A : Ar) : List Int := gl (rwN A) (rwM A) fun i k => A.z.getD (i * rwM A + (rwM A - 1 - k)) 0
def rvV (A : Ar) : Ar := orNo (rvE A) ⟨A.k, A.r, A.a, A.b, rvZ A⟩
def fpEE (A : Ar) : Int := oneE A 2 2
def fpZ (A : Ar) : List Int := gl (rwM A) (rwN A) fun k i => A.z.getD (i * rwM A + k) 0
def fpV (A : Ar) : Ar := orNo (fpEE A) ⟨A.k, 2, A.b, A.a, fpZ A⟩
/-- The first number of an array. -/
def fst1 (A : Ar) : Int := A.z.getD 0 0
def tkE (N V : Ar) : Int := twoE N V 1 V.k 0 0 1 1
def tkZ (n : Int) (z : List Int) : List Int := if n < 0 then z.drop (z.length + n).toNat else z.take n.toNat
def drZ (n : Int) (z : List Int) : List Int := if n < 0 then z.take (z.length + n).toNat else z.drop n.toNat
def vecA (k : Int) (z : List Int) : Ar := ⟨k, 1, z.length, 0, z⟩
def tkV (N V : Ar) : Ar := orNo (tkE N V) (vecA V.k (tkZ (fst1 N) V.z))
def drV (N V : Ar) : Ar := orNo (tkE N V) (vecA V.k (drZ (fst1 N) V.z))
def fiE (N S : Ar) : Int := if twoE N S 1 S.k 0 0 0 0 = 0 then (if fst1 N < 0 then 13 else if 400 < fst1 N then 15 else 0) else twoE N S 1 S.k 0 0 0 0
def fiV (N S : Ar) : Ar := orNo (fiE N S) (vecA S.k (List.replicate (fst1 N).toNat (fst1 S)))
def gdE (L V : Ar) : Int :=
  if twoE L V 1 V.k 1 1 1 1 = 0 then
    (if L.z.length = 2 then
      (if L.z.getD 0 0 < 0 ∨ L.z.getD 1 0 < 0 then 13 else if 400 < L.z.getD 0 0 ∨ 400 < L.z.getD 1 0 ∨ 400 < L.z.getD 0 0 * L.z.getD 1 0 then 15 else
        if V.z.length = 0 ∧ 0 < L.z.getD 0 0 * L.z.getD 1 0 then 13 else 0) else 11)
  else twoE L V 1 V.k 1 1 1 1
/-- The numbers of a list, again and again. -/
def agn (n : Nat) (z : List Int) : List Int := (List.range n).map fun t => z.getD (t % z.length) 0
theorem agn_len (n : Nat) (z : List Int) : (agn n z).length = n := by simp [agn]
theorem agn_getD {n : Nat} {z : List Int} {t : Nat} (h : t < n) : (agn n z).getD t 0 = z.getD (t % z.length) 0 := by simp [agn, List.getD_eq_getElem?_getD, h]
def gdV (L V : Ar) : Ar := orNo (gdE L V) ⟨V.k, 2, L.z.getD 0 0, L.z.getD 1 0, agn (L.z.getD 0 0 * L.z.getD 1 0).toNat V.z⟩
def ctE (A B : Ar) : Int :=
  if twoE A B A.k A.k 1 2 A.r A.r = 0 then (if A.r = 2 ∧ A.a ≠ B.a then 11 else if 400 < A.z.length + B.z.length ∨ 400 < A.b + B.b then 15 else 0)
  else twoE A B A.k A.k 1 2 A.r A.r
def ctZ (A B : Ar) : List Int := gl (rwN A) (rwM A + rwM B) fun i k => if k < rwM A then A.z.getD (i * rwM A + k) 0 else B.z.getD (i * rwM B + (k - rwM A)) 0
def ctV (A B : Ar) : Ar := orNo (ctE A B) (if A.r = 2 then ⟨A.k, 2, A.a, A.b + B.b, ctZ A B⟩ else vecA A.k (ctZ A B))

theorem orNo_yes {e : Int} {A : Ar} (h : e = 0) : orNo e A = A := if_pos h
theorem orNo_no {e : Int} {A : Ar} (h : e ≠ 0) : orNo e A = Ar.no := if_neg h
theorem one_ok {A : Ar} {l m : Int} (h : oneE A l m = 0) : Good A ∧ l ≤ A.r ∧ A.r ≤ m := by
  unfold oneE at h
  by_cases h1 : ck A = 0
  · rw [if_pos h1] at h
    by_cases h2 : A.r < l ∨ m < A.r
    · rw [if_pos h2] at h; cases h
    · exact ⟨ck_good h1, by omega, by omega⟩
  · rw [if_neg h1] at h; exact absurd h h1
theorem two_ok {A B : Ar} {kA kB lA mA lB mB : Int} (h : twoE A B kA kB lA mA lB mB = 0) : Good A ∧ Good B ∧ A.k = kA ∧ B.k = kB ∧ lA ≤ A.r ∧ A.r ≤ mA ∧ lB ≤ B.r ∧ B.r ≤ mB := by
  unfold twoE at h
  by_cases h1 : ck A = 0
  · rw [if_pos h1] at h
    by_cases h2 : ck B = 0
    · rw [if_pos h2] at h
      by_cases h3 : A.k = kA ∧ B.k = kB
      · rw [if_pos h3] at h
        by_cases h4 : A.r < lA ∨ mA < A.r ∨ B.r < lB ∨ mB < B.r
        · rw [if_pos h4] at h; cases h
        · exact ⟨ck_good h1, ck_good h2, h3.1, h3.2, by omega, by omega, by omega, by omega⟩
      · rw [if_neg h3] at h; cases h
    · rw [if_neg h2] at h; exact absurd h h2
  · rw [if_neg h1] at h; exact absurd h h1
/-- Rows and lengths of vectors and matrices. -/
theorem rw_vec {A : Ar} (h : Good A) (hr : A.r = 1) : rwN A = 1 ∧ rwM A = A.z.length ∧ A.a = A.z.length ∧ A.b = 0 := by
  obtain ⟨k, r, a, b, z⟩ := A
  simp only at hr
  subst hr
  have hs := h.sh
  have hl := h.len
  simp only at hs hl
  cases hs with
  | s1 _ h0 h1 =>
    have hk := sh_ok (Sh.s1 a h0 h1)
    have hl2 : (z.length : Int) = a := by rw [hl]; simp [cn]
    refine ⟨?_, ?_, hl2.symm, rfl⟩
    · show (rw0 1 a 0).toNat = 1
      unfold rw0; rw [if_pos hk, if_neg (by decide)]; rfl
    · show (rw1 1 a 0).toNat = z.length
      unfold rw1; rw [if_pos hk, if_neg (by decide)]; simp [cn]; omega
theorem rw_mat {A : Ar} (h : Good A) (hr : A.r = 2) : A.a = rwN A ∧ A.b = rwM A ∧ A.z.length = rwN A * rwM A ∧ rwN A ≤ 400 ∧ rwM A ≤ 400 := by
  obtain ⟨e1, e2, e3, e4, e5⟩ := rw_good h
  have hs := sh_ok h.sh
  unfold rw0 at e1
  unfold rw1 at e2
  rw [if_pos hs, if_pos hr] at e1 e2
  exact ⟨e1, e2, e3.symm, e4, e5⟩
theorem isR0 : Ru.isR 0 = true := by decide
/-- A vector of some cells of an array is one. -/
theorem ck_vec {k : Int} {z : List Int} (hk : k = 1 ∨ k = 2) (hl : z.length ≤ 400) (hr : k = 2 → z.all Ru.isR = true) : ck (vecA k z) = 0 :=
  good_ck ⟨hk, Sh.s1 _ (by show (0:Int) ≤ z.length; omega) (by show (z.length:Int) ≤ 400; omega), by simp [vecA, cn], hr⟩
theorem good_vec {A : Ar} (h : Good A) {z : List Int} (hl : z.length ≤ A.z.length) (hm : ∀ x ∈ z, x ∈ A.z) : ck (vecA A.k z) = 0 :=
  ck_vec h.kind (Nat.le_trans hl h.len4) fun e => List.all_eq_true.2 fun x hx => List.all_eq_true.1 (h.runes e) x (hm x hx)
theorem ck_mat {k a b : Int} {z : List Int} (hk : k = 1 ∨ k = 2) (hs : Sh 2 a b) (hl : (z.length : Int) = a * b) (hr : k = 2 → z.all Ru.isR = true) : ck ⟨k, 2, a, b, z⟩ = 0 :=
  good_ck ⟨hk, hs, by simp [cn, hl], hr⟩
theorem zeros_all (n : Nat) : (List.replicate n (0 : Int)).all Ru.isR = true := List.all_eq_true.2 fun x hx => by rw [List.eq_of_mem_replicate hx]; exact isR0
/-- What Check says of an array of zeros: what its shape says. -/
theorem ck_zeros {k r a b : Int} {n : Nat} (hk : k = 1 ∨ k = 2) (hn : ckS r a b = 0 → (n : Int) = cn r a b) : ck ⟨k, r, a, b, List.replicate n 0⟩ = ckS r a b := by
  unfold ck
  simp only
  rw [if_neg (by rcases hk with e | e <;> omega)]
  by_cases hs : ckS r a b = 0
  · rw [if_neg (by rw [hs]; simp), if_neg (by rw [List.length_replicate, hn hs]; simp), if_neg (by rw [zeros_all]; simp), hs]
  · rw [if_pos hs]
theorem mem_take {n : Int} {z : List Int} {x : Int} (h : x ∈ tkZ n z) : x ∈ z := by
  unfold tkZ at h
  split at h
  · exact List.mem_of_mem_drop h
  · exact List.mem_of_mem_take h
theorem mem_drop {n : Int} {z : List Int} {x : Int} (h : x ∈ drZ n z) : x ∈ z := by
  unfold drZ at h
  split at h
  · exact List.mem_of_mem_take h
  · exact List.mem_of_mem_drop h
theorem len_take (n : Int) (z : List Int) : (tkZ n z).length ≤ z.length := by unfold tkZ; split <;> simp <;> omega
theorem len_drop (n : Int) (z : List Int) : (drZ n z).length ≤ z.length := by unfold drZ; split <;> simp <;> omega
theorem rvZ_len {A : Ar} (h : Good A) : (rvZ A).length = A.z.length := by
  obtain ⟨_, _, e3, _, _⟩ := rw_good h
  rw [rvZ, gl_len, e3]
theorem fpZ_len {A : Ar} (h : Good A) : (fpZ A).length = A.z.length := by
  obtain ⟨_, _, e3, _, _⟩ := rw_good h
  rw [fpZ, gl_len, ← e3, Nat.mul_comm]
end Go.Proofs.YtpbfbejckhbijaaGreatDoor
