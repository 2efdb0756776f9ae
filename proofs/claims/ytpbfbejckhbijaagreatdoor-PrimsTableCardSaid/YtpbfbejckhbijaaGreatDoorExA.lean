/- Plain facts: what primitives of numbers make of the cells of arrays. -/
import Derived.Test.YtpbfbejckhbijaaGreatDoorMvA
import Derived.Test.YtpbfbejckhbijaaGreatDoorScX
namespace Go.Proofs.YtpbfbejckhbijaaGreatDoor
open Go.RowKit

/-- The error of the first cell that has one. -/
def feL : List (Int × Int) → Int
  | [] => 0
  | c :: l => if c.2 = 0 then feL l else c.2
def vsL (l : List (Int × Int)) : List Int := l.map Prod.fst
/-- The cell of an operand at a place. -/
def celI (A : Ar) (i : Nat) : Int := A.z.getD (if A.r = 0 then 0 else i) 0
def c1 (p : Int) (A : Ar) : List (Int × Int) := A.z.map (Sc.oneV p)
def boV (A B : Ar) : Ar := if B.r = 0 then A else if A.r = 0 then B else A
def boE (A B : Ar) : Int := if B.r = 0 then 0 else if A.r = 0 then 0 else if A.r ≠ B.r then 22 else if A.a ≠ B.a ∨ A.b ≠ B.b then 11 else 0
def c2 (p : Int) (A B : Ar) : List (Int × Int) := (List.range (boV A B).z.length).map fun i => Sc.twoV p (celI A i) (celI B i)
def kdB (p : Int) (A B : Ar) : Bool := if p = 23 ∨ p = 24 then A.k == B.k else A.k == 1 && B.k == 1
def onF (p : Int) (A : Ar) : Int := if Sc.arV p ≠ 1 then 2 else if ck A ≠ 0 then ck A else if A.k ≠ 1 then 21 else 0
def twF (p : Int) (A B : Ar) : Int := if Sc.arV p ≠ 2 then 2 else if ck A ≠ 0 then ck A else if ck B ≠ 0 then ck B else if kdB p A B = false then 21 else boE A B
def lnF (A B : Ar) : Int := if ck A ≠ 0 then ck A else if ck B ≠ 0 then ck B else boE A B
def exE (E : Int) (cs : List (Int × Int)) : Int := if E = 0 then feL cs else E
def exV (E : Int) (L : Ar) (cs : List (Int × Int)) : Ar := orNo (exE E cs) ⟨1, L.r, L.a, L.b, vsL cs⟩
def onE (p : Int) (A : Ar) : Int := exE (onF p A) (c1 p A)
def onV (p : Int) (A : Ar) : Ar := exV (onF p A) A (c1 p A)
def twE (p : Int) (A B : Ar) : Int := exE (twF p A B) (c2 p A B)
def twV (p : Int) (A B : Ar) : Ar := exV (twF p A B) (boV A B) (c2 p A B)
def lnR (A B : Ar) : Int := if lnF A B = 0 then (boV A B).r else 0
def lnA (A B : Ar) : Int := if lnF A B = 0 then (boV A B).a else 0
def lnB (A B : Ar) : Int := if lnF A B = 0 then (boV A B).b else 0

theorem c1_len (p : Int) (A : Ar) : (c1 p A).length = A.z.length := by simp [c1]
theorem c2_len (p : Int) (A B : Ar) : (c2 p A B).length = (boV A B).z.length := by simp [c2]
theorem vsL_len (l : List (Int × Int)) : (vsL l).length = l.length := by simp [vsL]
theorem c1_at {p : Int} {A : Ar} {i : Nat} (h : i < A.z.length) : (c1 p A)[i]? = some (Sc.oneV p (A.z.getD i 0)) := by
  simp [c1, List.getD_eq_getElem?_getD, h]
theorem c2_at {p : Int} {A B : Ar} {i : Nat} (h : i < (boV A B).z.length) : (c2 p A B)[i]? = some (Sc.twoV p (celI A i) (celI B i)) := by
  simp [c2, h]
theorem feL_cons0 {c : Int × Int} {l : List (Int × Int)} (h : c.2 = 0) : feL (c :: l) = feL l := by show (if c.2 = 0 then feL l else c.2) = _; rw [if_pos h]
theorem feL_cons1 {c : Int × Int} {l : List (Int × Int)} (h : c.2 ≠ 0) : feL (c :: l) = c.2 := by show (if c.2 = 0 then feL l else c.2) = _; rw [if_neg h]
theorem feL_app0 : ∀ {l : List (Int × Int)} (m : List (Int × Int)), feL l = 0 → feL (l ++ m) = feL m
  | [], _, _ => rfl
  | c :: l, m, h => by
    by_cases hc : c.2 = 0
    · rw [feL_cons0 hc] at h
      rw [List.cons_append, feL_cons0 hc]
      exact feL_app0 m h
    · rw [feL_cons1 hc] at h; exact absurd h hc
theorem feL_app1 : ∀ {l : List (Int × Int)} (m : List (Int × Int)), feL l ≠ 0 → feL (l ++ m) = feL l
  | [], _, h => absurd rfl h
  | c :: l, m, h => by
    by_cases hc : c.2 = 0
    · rw [feL_cons0 hc] at h
      rw [List.cons_append, feL_cons0 hc, feL_cons0 hc]
      exact feL_app1 m h
    · rw [List.cons_append, feL_cons1 hc, feL_cons1 hc]
theorem feL_zero {l : List (Int × Int)} : feL l = 0 ↔ ∀ c ∈ l, c.2 = 0 := by
  induction l with
  | nil => simp [feL]
  | cons c l ih =>
    rw [List.forall_mem_cons]
    by_cases h : c.2 = 0
    · rw [feL_cons0 h, ih]; simp [h]
    · rw [feL_cons1 h]; simp [h]
/-- The cells before place i have no error. -/
def okT (l : List (Int × Int)) (i : Nat) : Prop := feL (l.take i) = 0
theorem okT_zero (l : List (Int × Int)) : okT l 0 := rfl
theorem okT_next {l : List (Int × Int)} {i : Nat} {v : Int} (h : okT l i) (hi : l[i]? = some (v, 0)) : okT l (i + 1) := by
  unfold okT at *
  have hlt : i < l.length := by
    rcases Nat.lt_or_ge i l.length with h | h
    · exact h
    · rw [List.getElem?_eq_none h] at hi; cases hi
  have e : l[i] = (v, 0) := by rw [List.getElem?_eq_getElem hlt] at hi; exact Option.some.inj hi
  rw [List.take_succ_eq_append_getElem hlt, feL_app0 _ h, e]
  rfl
theorem okT_bad {l : List (Int × Int)} {i : Nat} {v e : Int} (h : okT l i) (hi : l[i]? = some (v, e)) (he : e ≠ 0) : feL l = e := by
  unfold okT at *
  have hlt : i < l.length := by
    rcases Nat.lt_or_ge i l.length with h | h
    · exact h
    · rw [List.getElem?_eq_none h] at hi; cases hi
  have e2 : l[i] = (v, e) := by rw [List.getElem?_eq_getElem hlt] at hi; exact Option.some.inj hi
  rw [← List.take_append_drop i l, feL_app0 _ h, List.drop_eq_getElem_cons hlt, e2]
  exact feL_cons1 (c := (v, e)) he
theorem okT_all {l : List (Int × Int)} {n : Nat} (h : okT l n) (hn : l.length = n) : feL l = 0 := by
  unfold okT at h
  rwa [List.take_of_length_le (by omega)] at h
theorem vsL_at {l : List (Int × Int)} {i : Nat} {v e : Int} (hi : l[i]? = some (v, e)) : (vsL l).getD i 0 = v := by
  simp [vsL, List.getD_eq_getElem?_getD, hi]
theorem Good.r3 {A : Ar} (h : Good A) : A.r = 0 ∨ A.r = 1 ∨ A.r = 2 := by
  have := h.sh
  obtain ⟨k, r, a, b, z⟩ := A
  simp only at this ⊢
  cases this <;> omega
theorem Good.r0 {A : Ar} (h : Good A) (hr : A.r = 0) : A.a = 0 ∧ A.b = 0 ∧ A.z.length = 1 := by
  have h1 := h.sh
  have h2 := h.len
  obtain ⟨k, r, a, b, z⟩ := A
  simp only at h1 h2 hr ⊢
  subst hr
  cases h1
  simp [cn] at h2
  exact ⟨rfl, rfl, by omega⟩
/-- What is made of a good array's rank and lengths is an array. -/
theorem ex_ck {L : Ar} (hL : Good L) {z : List Int} (hl : z.length = L.z.length) : ck ⟨1, L.r, L.a, L.b, z⟩ = 0 :=
  good_ck ⟨.inl rfl, hL.sh, by have := hL.len; simp only; omega, fun e => by cases e⟩
theorem bo_good {A B : Ar} (hA : Good A) (hB : Good B) : Good (boV A B) := by unfold boV; split; (· exact hA); split; (· exact hB); exact hA
theorem bo_same {A B : Ar} (hA : Good A) (hB : Good B) (h : boE A B = 0) (h1 : A.r ≠ 0) (h2 : B.r ≠ 0) : A.r = B.r ∧ A.a = B.a ∧ A.b = B.b ∧ A.z.length = B.z.length := by
  unfold boE at h
  rw [if_neg h2, if_neg h1] at h
  by_cases h3 : A.r = B.r
  · rw [if_neg (not_not_intro h3)] at h
    by_cases h4 : A.a ≠ B.a ∨ A.b ≠ B.b
    · rw [if_pos h4] at h; cases h
    · have h5 : A.a = B.a ∧ A.b = B.b := by omega
      refine ⟨h3, h5.1, h5.2, ?_⟩
      have e1 := hA.len; have e2 := hB.len
      rw [h3, h5.1, h5.2] at e1
      omega
  · rw [if_pos h3] at h; cases h
theorem bo_lt {A B : Ar} (hA : Good A) (hB : Good B) (h : boE A B = 0) {j : Nat} (hj : j < (boV A B).z.length) : (if A.r = 0 then 0 else j) < A.z.length ∧ (if B.r = 0 then 0 else j) < B.z.length := by
  unfold boV at hj
  by_cases h2 : B.r = 0
  · rw [if_pos h2] at hj
    rw [if_pos h2]
    have := (hB.r0 h2).2.2
    exact ⟨by split <;> omega, by omega⟩
  · rw [if_neg h2] at hj
    rw [if_neg h2]
    by_cases h1 : A.r = 0
    · rw [if_pos h1] at hj
      rw [if_pos h1]
      have := (hA.r0 h1).2.2
      exact ⟨by omega, hj⟩
    · rw [if_neg h1] at hj
      rw [if_neg h1]
      have := (bo_same hA hB h h1 h2).2.2.2
      exact ⟨hj, by omega⟩
def faV (kd : Bool) (E : Int) : Int := if E = 0 then (if kd = true then 0 else 21) else E
theorem fa_ok {kd : Bool} {E : Int} (h : faV kd E = 0) : E = 0 ∧ kd = true := by
  unfold faV at h
  by_cases h0 : E = 0
  · rw [if_pos h0] at h
    refine ⟨h0, ?_⟩
    cases kd
    · cases h
    · rfl
  · rw [if_neg h0] at h; exact absurd h h0
theorem onF_two {p : Int} {A : Ar} (h : Sc.arV p ≠ 1) : onF p A = 2 := by unfold onF; rw [if_pos h]
theorem onF_fa {p : Int} {A : Ar} (h : Sc.arV p = 1) : onF p A = faV (A.k == 1) (ck A) := by
  unfold onF faV
  rw [if_neg (not_not_intro h)]
  by_cases h0 : ck A = 0
  · rw [if_neg (not_not_intro h0), if_pos h0]
    by_cases h1 : A.k = 1
    · rw [if_neg (not_not_intro h1), if_pos (by simpa using h1)]
    · rw [if_pos h1, if_neg (by simpa using h1)]
  · rw [if_pos h0, if_neg h0]
theorem twF_two {p : Int} {A B : Ar} (h : Sc.arV p ≠ 2) : twF p A B = 2 := by unfold twF; rw [if_pos h]
theorem twF_fa {p : Int} {A B : Ar} (h : Sc.arV p = 2) : twF p A B = if faV (kdB p A B) (if ck A ≠ 0 then ck A else ck B) ≠ 0 then faV (kdB p A B) (if ck A ≠ 0 then ck A else ck B) else boE A B := by
  unfold twF faV
  rw [if_neg (not_not_intro h)]
  by_cases h0 : ck A = 0
  · rw [if_neg (not_not_intro h0), if_neg (not_not_intro h0)]
    by_cases h1 : ck B = 0
    · rw [if_neg (not_not_intro h1), if_pos h1]
      cases kdB p A B <;> simp
    · rw [if_pos h1, if_neg h1, if_pos h1]
  · rw [if_pos h0, if_pos h0, if_neg h0, if_pos h0]
theorem lnF_fa {A B : Ar} : lnF A B = if faV true (if ck A ≠ 0 then ck A else ck B) ≠ 0 then faV true (if ck A ≠ 0 then ck A else ck B) else boE A B := by
  unfold lnF faV
  by_cases h0 : ck A = 0
  · rw [if_neg (not_not_intro h0), if_neg (not_not_intro h0)]
    by_cases h1 : ck B = 0
    · rw [if_neg (not_not_intro h1), if_pos h1]; simp
    · rw [if_pos h1, if_neg h1, if_pos h1]
  · rw [if_pos h0, if_pos h0, if_neg h0, if_pos h0]
theorem exE_ok (cs : List (Int × Int)) : exE 0 cs = feL cs := if_pos rfl
theorem exE_bad {E : Int} (h : E ≠ 0) (cs : List (Int × Int)) : exE E cs = E := if_neg h
theorem exV_no {E : Int} (h : E ≠ 0) (L : Ar) (cs : List (Int × Int)) : exV E L cs = Ar.no := by unfold exV; rw [exE_bad h]; exact orNo_no h
theorem ck_two {A B : Ar} (h : (if ck A ≠ 0 then ck A else ck B) = 0) : Good A ∧ Good B := by
  by_cases h0 : ck A = 0
  · rw [if_neg (not_not_intro h0)] at h
    exact ⟨ck_good h0, ck_good h⟩
  · rw [if_pos h0] at h; exact absurd h h0
end Go.Proofs.YtpbfbejckhbijaaGreatDoor
