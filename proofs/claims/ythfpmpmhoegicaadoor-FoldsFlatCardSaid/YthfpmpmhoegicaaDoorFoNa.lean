/- joined; folds of vectors. -/
import Derived.Test.YthfpmpmhoegicaaDoorFoL
import Derived.Test.YthfpmpmhoegicaaDoorMvY
import Derived.Test.YthfpmpmhoegicaaDoorMvPp
import Derived.Deep.DeepCutAuto
namespace Go.Proofs.YthfpmpmhoegicaaDoor
open Go.RowKit

theorem isG.good {A : Ar} (h : isG A) : Good A := ck_good h.c
/-- Cat of two vectors. -/
theorem cat_vec {A B : Ar} (hA : isG A) (hr : A.r = 1) (he : ctE A B = 0) : ctV A B = vecA 1 (A.z ++ B.z) ∧ isG (ctV A B) ∧ (ctV A B).r = 1 ∧ (ctV A B).z = A.z ++ B.z := by
  have i := cat_is he
  have hrB : B.r = 1 := i.ok.same.trans hr
  have eA := ar_vec i.ok.gA hr
  have eB := ar_vec i.ok.gB hrB
  obtain ⟨a1, a2, _, _⟩ := rw_vec i.ok.gA hr
  obtain ⟨b1, b2, _, _⟩ := rw_vec i.ok.gB hrB
  have hl : A.z.length + B.z.length ≤ 400 := by have := i.many; rw [a1, a2, b2, Nat.one_mul] at this; exact this
  have gA : Good (vecA A.k A.z) := by rw [eA]; exact i.ok.gA
  have gB : Good (vecA A.k B.z) := by rw [← i.ok.kind, eB]; exact i.ok.gB
  have hC : ctV A B = vecA A.k (A.z ++ B.z) := by
    obtain ⟨_, c2⟩ := ct_vecs gA gB hl
    rw [← c2, eA, ← i.ok.kind, eB]
  have hC1 : ctV A B = vecA 1 (A.z ++ B.z) := by rw [hC, hA.k]
  have hz : (ctV A B).z = A.z ++ B.z := by rw [hC]; rfl
  refine ⟨hC1, ⟨by have := i.len; omega, good_ck i.good, by rw [hC1]; rfl, .inl (by rw [hC1]; rfl)⟩, by rw [hC1]; rfl, hz⟩
theorem sm_vec {A : Ar} (h : isG A) (hr : A.r = 1) : smE A = (sm1 A.z).2 ∧ (smE A = 0 → okS 0 A.z = true ∧ smV A = ⟨1, 0, 0, 0, [A.z.sum]⟩) := by
  have e1 : smE A = (sm1 A.z).2 := by
    rw [h.sm, rwL_vec h.c hr]
    show (if (sm1 A.z).2 = 0 then (0 : Int) else (sm1 A.z).2) = _
    split
    · next e => exact e.symm
    · rfl
  refine ⟨e1, fun h0 => ?_⟩
  have ho : okS 0 A.z = true := by
    by_cases e : okS 0 A.z = true
    · exact e
    · rw [e1] at h0; unfold sm1 at h0; rw [if_neg e] at h0; cases h0
  refine ⟨ho, ?_⟩
  unfold smV
  rw [orNo_yes h0, rwL_vec h.c hr, List.map_cons, sm1_yes ho]
  unfold ofR
  rw [if_pos hr]
  rfl
theorem en_vec {A : Ar} (h : isG A) (hr : A.r = 1) (p : Int) : enE A = (if A.z.length = 0 then 13 else 0) ∧ (enE A = 0 → A.z ≠ [] ∧ enV p A = ⟨1, 0, 0, 0, [en1 p A.z]⟩) := by
  obtain ⟨q1, q2, _, _⟩ := rw_vec h.good hr
  have e1 : enE A = (if A.z.length = 0 then 13 else 0) := by
    rw [h.en, q1, q2]
    by_cases e : A.z.length = 0
    · rw [if_pos ⟨by omega, e⟩, if_pos e]
    · rw [if_neg (fun x => e x.2), if_neg e]
  refine ⟨e1, fun h0 => ?_⟩
  have hne : A.z ≠ [] := fun e => by rw [e1, e] at h0; exact absurd h0 (by decide)
  refine ⟨hne, ?_⟩
  unfold enV
  rw [orNo_yes h0, rwL_vec h.c hr]
  unfold ofR
  rw [if_pos hr]
  rfl
theorem cnt_vec {A : Ar} (h : isG A) (hr : A.r = 1) : cntE A = 0 ∧ cntV A = ⟨1, 0, 0, 0, [(A.z.length : Int)]⟩ := by
  obtain ⟨q1, q2, _, _⟩ := rw_vec h.good hr
  have e1 : cntE A = 0 := h.fa true rfl
  refine ⟨e1, ?_⟩
  unfold cntV
  rw [orNo_yes e1, q1, q2]
  unfold ofR
  rw [if_pos hr]
  rfl
theorem mm_assoc (p x y z : Int) : mm p (mm p x y) z = mm p x (mm p y z) := by unfold mm; split <;> omega
theorem foldl_mm (p x y : Int) : ∀ l : List Int, l.foldl (mm p) (mm p x y) = mm p x (l.foldl (mm p) y)
  | [] => rfl
  | c :: l => by show l.foldl (mm p) (mm p (mm p x y) c) = mm p x (l.foldl (mm p) (mm p y c)); rw [mm_assoc, foldl_mm]
theorem en1_app {p : Int} {x y : List Int} (hx : x ≠ []) (hy : y ≠ []) : en1 p (x ++ y) = mm p (en1 p x) (en1 p y) := by
  cases x with
  | nil => exact absurd rfl hx
  | cons a x =>
    cases y with
    | nil => exact absurd rfl hy
    | cons b y =>
      show (x ++ b :: y).foldl (mm p) a = mm p (x.foldl (mm p) a) (y.foldl (mm p) b)
      rw [List.foldl_append]
      show y.foldl (mm p) (mm p (x.foldl (mm p) a) b) = _
      rw [foldl_mm]
theorem mm_inr {p x y : Int} (hx : Sc.inr x = true) (hy : Sc.inr y = true) : Sc.inr (mm p x y) = true := by
  have h1 := Sc.inr_iff.1 hx
  have h2 := Sc.inr_iff.1 hy
  rw [Sc.inr_iff]
  unfold mm
  split <;> omega
theorem fold_inr {p : Int} : ∀ {l : List Int} {b : Int}, Sc.inr b = true → in64 l → Sc.inr (l.foldl (mm p) b) = true
  | [], _, hb, _ => hb
  | c :: l, b, hb, h => fold_inr (l := l) (mm_inr hb (h c (by simp))) fun x hx => h x (by simp [hx])
theorem en1_inr {p : Int} {l : List Int} (h : in64 l) : Sc.inr (en1 p l) = true := by
  cases l with
  | nil => exact inr0
  | cons c l => exact fold_inr (h c (by simp)) fun x hx => h x (List.mem_cons_of_mem _ hx)
theorem sum_inr {l : List Int} (h : okS 0 l = true) : Sc.inr l.sum = true := by
  have := okS_inr (row := l) (t := l.length) (Nat.le_refl _) (by rw [List.take_length]; exact h)
  rwa [List.take_length] at this
theorem add_or {a b c : Int} (h : c = a + b) : (Sc.twoV 15 a b).2 ≠ 0 ∨ (Sc.twoV 15 a b).1 = c := by
  subst h
  by_cases e : Sc.inr (a + b) = true
  · right; rw [Sc.t15 rfl e]
  · left; rw [Sc.t15o (by simpa using e)]; decide
/-- What joined is asked of. -/
def JoP (p e f g : Int) (x y z : List Int) : Prop := e = 0 → f = 0 → g = 0 → ∃ a b c, x = [a] ∧ y = [b] ∧ z = [c] ∧ Sc.inr a = true ∧ Sc.inr b = true ∧ ((Sc.twoV p a b).2 ≠ 0 ∨ (Sc.twoV p a b).1 = c)

end Go.Proofs.YthfpmpmhoegicaaDoor
