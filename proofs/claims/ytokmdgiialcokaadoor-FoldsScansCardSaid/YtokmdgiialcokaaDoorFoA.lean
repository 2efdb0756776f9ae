/- Plain facts: what is carried along the rows of an array, sums, least and greatest cells. -/
import Derived.Test.YtokmdgiialcokaaDoorExC
import Derived.Test.YtokmdgiialcokaaDoorArY
import Derived.Test.YtokmdgiialcokaaDoorScY
namespace Go.Proofs.YtokmdgiialcokaaDoor
open Go.RowKit

/-- What is carried to the end of a row, or the first error. -/
def fdL (f : Int → Int → Int × Int) : Int → List Int → Int × Int
  | b, [] => (b, 0)
  | b, c :: l => if (f b c).2 = 0 then fdL f (f b c).1 l else (0, (f b c).2)
theorem fdL_nil (f : Int → Int → Int × Int) (b : Int) : fdL f b [] = (b, 0) := rfl
theorem fdL_ok {f : Int → Int → Int × Int} {b c : Int} (l : List Int) (h : (f b c).2 = 0) : fdL f b (c :: l) = fdL f (f b c).1 l := by
  show (if _ then _ else _) = _; rw [if_pos h]
theorem fdL_bad {f : Int → Int → Int × Int} {b c : Int} (l : List Int) (h : (f b c).2 ≠ 0) : fdL f b (c :: l) = (0, (f b c).2) := by
  show (if _ then _ else _) = _; rw [if_neg h]
/-- One step of a row. -/
theorem fdL_at {f : Int → Int → Int × Int} {b : Int} {l : List Int} {j : Nat} (h : j < l.length) :
    fdL f b (l.drop j) = if (f b (l.getD j 0)).2 = 0 then fdL f (f b (l.getD j 0)).1 (l.drop (j + 1)) else (0, (f b (l.getD j 0)).2) := by
  have e : l.getD j 0 = l[j] := by simp [List.getD_eq_getElem?_getD, h]
  rw [List.drop_eq_getElem_cons h, e]
  rfl
theorem fdL_end {f : Int → Int → Int × Int} {b : Int} {l : List Int} {j : Nat} (h : l.length ≤ j) : fdL f b (l.drop j) = (b, 0) := by
  rw [List.drop_eq_nil_of_le h]; rfl
/-- What is carried, of each row. -/
def csF (f : Int → Int → Int × Int) (b : Int) (A : Ar) : List (Int × Int) := (rwL A).map (fdL f b)
theorem csF_len {f : Int → Int → Int × Int} {b : Int} {A : Ar} (h : ck A = 0) : (csF f b A).length = rwN A := by unfold csF; rw [List.length_map, rwL_len h]
theorem csF_at {f : Int → Int → Int × Int} {b : Int} {A : Ar} (h : ck A = 0) {i : Nat} (hi : i < rwN A) : (csF f b A)[i]? = some (fdL f b (rwI A i)) := by
  have h1 : i < (rwL A).length := by rw [rwL_len h]; exact hi
  unfold csF
  rw [List.getElem?_map, List.getElem?_eq_getElem h1, rwL_get h]
  rfl
/-- The errors of an operand. -/
def faE (kd : Bool) (A : Ar) : Int := if ck A ≠ 0 then ck A else if kd = false then 21 else if A.r = 0 then 22 else 0
theorem faE_ok {kd : Bool} {A : Ar} (h : faE kd A = 0) : ck A = 0 ∧ kd = true ∧ (A.r = 1 ∨ A.r = 2) := by
  unfold faE at h
  by_cases h1 : ck A = 0
  · rw [if_neg (not_not_intro h1)] at h
    cases kd
    · cases h
    · rw [if_neg (by decide)] at h
      by_cases h2 : A.r = 0
      · rw [if_pos h2] at h; cases h
      · exact ⟨h1, rfl, by rcases (ck_good h1).r3 with e | e | e <;> omega⟩
  · rw [if_pos h1] at h; exact absurd h h1
theorem faE_yes {kd : Bool} {A : Ar} (h : ck A = 0) (hk : kd = true) (hr : A.r = 1 ∨ A.r = 2) : faE kd A = 0 := by
  unfold faE; rw [if_neg (not_not_intro h), hk, if_neg (by decide), if_neg (by omega)]
/-- The array of a cell for each row. -/
def ofR (A : Ar) (z : List Int) : Ar := if A.r = 1 then ⟨1, 0, 0, 0, z⟩ else ⟨1, 1, z.length, 0, z⟩
theorem ofR_z (A : Ar) (z : List Int) : (ofR A z).z = z := by unfold ofR; split <;> rfl
theorem ofR_ck {A : Ar} (h : Good A) (hr : A.r = 1 ∨ A.r = 2) {z : List Int} (hz : z.length = rwN A) : ck (ofR A z) = 0 := by
  unfold ofR
  rcases hr with hr | hr
  · rw [if_pos hr]
    obtain ⟨q1, _⟩ := rw_vec h hr
    exact good_ck ⟨.inl rfl, Sh.s0, by simp [cn, hz, q1], fun e => by cases e⟩
  · rw [if_neg (by omega)]
    obtain ⟨_, _, _, q4, _⟩ := rw_mat h hr
    exact ck_vec (.inl rfl) (by omega) (fun e => by cases e)

/-- The sums on the way. -/
def scL : Int → List Int → List Int
  | _, [] => []
  | b, c :: l => (b + c) :: scL (b + c) l
def okS (b : Int) (l : List Int) : Bool := (scL b l).all Sc.inr
/-- The sum of a row, or its error. -/
def sm1 (l : List Int) : Int × Int := if okS 0 l = true then (l.sum, 0) else (0, 12)
theorem scL_len (b : Int) : ∀ l : List Int, (scL b l).length = l.length
  | [] => rfl
  | c :: l => by show (scL (b + c) l).length + 1 = _; rw [scL_len (b + c) l]; rfl
theorem scL_app : ∀ (b : Int) (l m : List Int), scL b (l ++ m) = scL b l ++ scL (b + l.sum) m
  | b, [], m => by simp [scL]
  | b, c :: l, m => by
    show (b + c) :: scL (b + c) (l ++ m) = _
    rw [scL_app (b + c) l m, List.sum_cons, ← Int.add_assoc]; rfl
theorem scL_snoc (b : Int) (l : List Int) (c : Int) : scL b (l ++ [c]) = scL b l ++ [b + l.sum + c] := scL_app b l [c]
theorem scL_add (b d : Int) : ∀ l : List Int, scL (b + d) l = (scL b l).map (· + d)
  | [] => rfl
  | c :: l => by
    show (b + d + c) :: scL (b + d + c) l = (b + c + d) :: (scL (b + c) l).map (· + d)
    rw [show b + d + c = b + c + d by omega, scL_add (b + c) d l]
theorem scL_at (b : Int) {l : List Int} {j : Nat} (h : j < l.length) : (scL b l).getD j 0 = b + (l.take (j + 1)).sum := by
  induction l generalizing b j with
  | nil => simp at h
  | cons c l ih =>
    cases j with
    | zero => simp [scL]
    | succ j =>
      have := ih (b + c) (j := j) (by simpa using h)
      simp only [scL, List.getD_cons_succ, List.take_succ_cons, List.sum_cons, this]
      omega
theorem okS_cons (b c : Int) (l : List Int) : okS b (c :: l) = (Sc.inr (b + c) && okS (b + c) l) := rfl
theorem okS_app (b : Int) (l m : List Int) : okS b (l ++ m) = (okS b l && okS (b + l.sum) m) := by unfold okS; rw [scL_app, List.all_append]
theorem fd_sum : ∀ (b : Int) (l : List Int), fdL (Sc.twoV 15) b l = if okS b l = true then (b + l.sum, 0) else (0, 12)
  | b, [] => by simp [fdL, okS, scL]
  | b, c :: l => by
    rw [okS_cons]
    by_cases h : Sc.inr (b + c) = true
    · have e : Sc.twoV 15 b c = (b + c, 0) := Sc.t15 rfl h
      rw [fdL_ok l (by rw [e]), e, fd_sum (b + c) l, h, Bool.true_and, List.sum_cons, Int.add_assoc]
    · have h' : Sc.inr (b + c) = false := by simpa using h
      have e : Sc.twoV 15 b c = (0, 12) := Sc.t15o h'
      rw [fdL_bad l (by rw [e]; decide), e, h', Bool.false_and, if_neg (by decide)]
theorem fd_sum0 (l : List Int) : fdL (Sc.twoV 15) 0 l = sm1 l := by rw [fd_sum, Int.zero_add]; rfl
/-- The least or the greatest number. -/
def mm (p : Int) (x y : Int) : Int := if p = 31 then min x y else max x y
theorem mm_two {p : Int} (hp : p = 31 ∨ p = 32) (x y : Int) : Sc.twoV p x y = (mm p x y, 0) := by
  rcases hp with rfl | rfl <;> simp [Sc.twoV, mm]
def bgn (p : Int) : Int := if p = 31 then 9223372036854775807 else -9223372036854775808
/-- The end of a row. -/
def en1 (p : Int) (l : List Int) : Int := l.tail.foldl (mm p) (l.headD 0)
theorem fd_mm {p : Int} (hp : p = 31 ∨ p = 32) : ∀ (b : Int) (l : List Int), fdL (Sc.twoV p) b l = (l.foldl (mm p) b, 0)
  | b, [] => rfl
  | b, c :: l => by rw [fdL_ok l (by rw [mm_two hp]), mm_two hp, fd_mm hp]; rfl
theorem mm_bgn {p : Int} (hp : p = 31 ∨ p = 32) {x : Int} (hx : Sc.inr x = true) : mm p (bgn p) x = x := by
  have := Sc.inr_iff.1 hx
  rcases hp with rfl | rfl <;> simp [mm, bgn] <;> omega
theorem en_fold {p : Int} (hp : p = 31 ∨ p = 32) {l : List Int} (hl : l ≠ []) (h : in64 l) : l.foldl (mm p) (bgn p) = en1 p l := by
  cases l with
  | nil => exact absurd rfl hl
  | cons c l => show l.foldl (mm p) (mm p (bgn p) c) = _; rw [mm_bgn hp (h c (by simp))]; rfl
theorem rwI_mem {A : Ar} {i : Nat} {x : Int} (h : x ∈ rwI A i) : x ∈ A.z := List.mem_of_mem_drop (List.mem_of_mem_take h)
theorem in64.row {A : Ar} (h : in64 A.z) (i : Nat) : in64 (rwI A i) := fun x hx => h x (rwI_mem hx)
/-- Sum, Scan, the ends, Count. -/
def smE (A : Ar) : Int := if faE (A.k == 1) A = 0 then feL ((rwL A).map sm1) else faE (A.k == 1) A
def smV (A : Ar) : Ar := orNo (smE A) (ofR A (vsL ((rwL A).map sm1)))
def sncV (A : Ar) : Ar := orNo (smE A) ⟨1, A.r, A.a, A.b, flt ((rwL A).map (scL 0))⟩
def enE (A : Ar) : Int := if faE (A.k == 1) A = 0 then (if 0 < rwN A ∧ rwM A = 0 then 13 else 0) else faE (A.k == 1) A
def enV (p : Int) (A : Ar) : Ar := orNo (enE A) (ofR A ((rwL A).map (en1 p)))
def cntE (A : Ar) : Int := faE true A
def cntV (A : Ar) : Ar := orNo (cntE A) (ofR A (List.replicate (rwN A) (rwM A : Int)))
theorem cs_sum (A : Ar) : csF (Sc.twoV 15) 0 A = (rwL A).map sm1 := List.map_congr_left fun l _ => fd_sum0 l
theorem rwL_nil {A : Ar} (h : ¬ ck A = 0) : rwL A = [] := if_neg h
theorem feL_pure {α : Type} (l : List α) (g : α → Int) : feL (l.map fun x => (g x, (0 : Int))) = 0 := feL_zero.2 fun c hc => by
  obtain ⟨x, _, rfl⟩ := List.mem_map.1 hc; rfl
theorem vsL_pure {α : Type} (l : List α) (g : α → Int) : vsL (l.map fun x => (g x, (0 : Int))) = l.map g := by simp [vsL]
theorem cs_end {p : Int} (hp : p = 31 ∨ p = 32) {A : Ar} (h : ck A = 0) (h64 : in64 A.z) (hm : ¬ (0 < rwN A ∧ rwM A = 0)) : csF (Sc.twoV p) (bgn p) A = (rwL A).map fun l => (en1 p l, 0) := by
  refine List.map_congr_left fun l hl => ?_
  obtain ⟨i, hi, e⟩ := List.mem_iff_getElem.1 hl
  have hi2 : i < rwN A := by rw [← rwL_len h]; exact hi
  rw [rwL_get h] at e
  subst e
  rw [fd_mm hp, en_fold hp _ (h64.row i)]
  intro e
  have := rwI_len (ck_good h) hi2
  rw [e] at this
  simp at this
  omega
/-- What counts. -/
def cntf (m _c : Int) : Int × Int := (m + 1, 0)
theorem fd_cnt : ∀ (b : Int) (l : List Int), fdL cntf b l = (b + l.length, 0)
  | b, [] => by simp [fdL]
  | b, c :: l => by
    rw [fdL_ok l rfl, show (cntf b c).1 = b + 1 from rfl, fd_cnt (b + 1) l, List.length_cons]
    simp; omega
theorem cs_cnt {A : Ar} (h : ck A = 0) : csF cntf 0 A = (List.range (rwN A)).map fun _ => ((rwM A : Int), 0) := by
  unfold csF rwL
  rw [if_pos h, List.map_map]
  refine List.map_congr_left fun i hi => ?_
  show fdL cntf 0 (rwI A i) = _
  rw [fd_cnt, rwI_len (ck_good h) (List.mem_range.1 hi), Int.zero_add]
theorem sm_len {A : Ar} (h : ck A = 0) : ((rwL A).map sm1).length = rwN A := by rw [List.length_map, rwL_len h]
end Go.Proofs.YtokmdgiialcokaaDoor
