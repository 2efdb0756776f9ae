/- Several texts as one (a claim has at most 60 files): FoA, FoB, FoC, FoD, FoE, FoF, FoG, FoH, FoI. -/
import Derived.Test.YthfpmpmhoegicaaDoorExC
import Derived.Test.YthfpmpmhoegicaaDoorArY
import Derived.Test.YthfpmpmhoegicaaDoorScY
import Derived.Test.YthfpmpmhoegicaaDoorMvZ
import Derived.BigQuiet
import Derived.Test.YthfpmpmhoegicaaDoorMvV
import Derived.Test.YthfpmpmhoegicaaDoorExE
import Derived.Test.YthfpmpmhoegicaaDoorMvY
namespace Go.Proofs.YthfpmpmhoegicaaDoor
open Go.RowKit

/-- What is carried to the end of a row, or the first error. -/
def fdL (f : Int → Int → Int × Int) : Int → List Int → Int × Int
  | b, [] => (b, 0)
  | b, c :: l => if (f b c).2 = 0 then fdL f (f b c).1 l else (0, (f b c).2)
theorem fdL_nil (f : Int → Int → Int × Int) (b : Int) : fdL f b [] = (b, 0) := rfl
theorem fdL_ok {f : Int → Int → Int × Int} {b c : Int} (l : List Int) (h : (f b c).2 = 0) : fdL f b (c :: l) = fdL f (f b c).1 l := by
  show (if _ then _ else _) = _; rw [if_pos h]
theorem fdL_bad {f : Int → Int → Int × Int} {b c : Int} (l : List Int) (h : (f b c).2 ≠ 0) : fdL f b (c :: l) = (0, (f b c).2) := by
  show (if _ then _ else _) = _; rw [if_neg h]
/-- One step of a row. -/
theorem fdL_at {f : Int → Int → Int × Int} {b : Int} {l : List Int} {j : Nat} (h : j < l.length) :
    fdL f b (l.drop j) = if (f b (l.getD j 0)).2 = 0 then fdL f (f b (l.getD j 0)).1 (l.drop (j + 1)) else (0, (f b (l.getD j 0)).2) := by
  have e : l.getD j 0 = l[j] := by simp [List.getD_eq_getElem?_getD, h]
  rw [List.drop_eq_getElem_cons h, e]
  rfl
theorem fdL_end {f : Int → Int → Int × Int} {b : Int} {l : List Int} {j : Nat} (h : l.length ≤ j) : fdL f b (l.drop j) = (b, 0) := by
  rw [List.drop_eq_nil_of_le h]; rfl
/-- What is carried, of each row. -/
def csF (f : Int → Int → Int × Int) (b : Int) (A : Ar) : List (Int × Int) := (rwL A).map (fdL f b)
theorem csF_len {f : Int → Int → Int × Int} {b : Int} {A : Ar} (h : ck A = 0) : (csF f b A).length = rwN A := by unfold csF; rw [List.length_map, rwL_len h]
theorem csF_at {f : Int → Int → Int × Int} {b : Int} {A : Ar} (h : ck A = 0) {i : Nat} (hi : i < rwN A) : (csF f b A)[i]? = some (fdL f b (rwI A i)) := by
  have h1 : i < (rwL A).length := by rw [rwL_len h]; exact hi
  unfold csF
  rw [List.getElem?_map, List.getElem?_eq_getElem h1, rwL_get h]
  rfl
/-- The errors of an operand. -/
def faE (kd : Bool) (A : Ar) : Int := if ck A ≠ 0 then ck A else if kd = false then 21 else if A.r = 0 then 22 else 0
theorem faE_ok {kd : Bool} {A : Ar} (h : faE kd A = 0) : ck A = 0 ∧ kd = true ∧ (A.r = 1 ∨ A.r = 2) := by
  unfold faE at h
  by_cases h1 : ck A = 0
  · rw [if_neg (not_not_intro h1)] at h
    cases kd
    · cases h
    · rw [if_neg (by decide)] at h
      by_cases h2 : A.r = 0
      · rw [if_pos h2] at h; cases h
      · exact ⟨h1, rfl, by rcases (ck_good h1).r3 with e | e | e <;> omega⟩
  · rw [if_pos h1] at h; exact absurd h h1
theorem faE_yes {kd : Bool} {A : Ar} (h : ck A = 0) (hk : kd = true) (hr : A.r = 1 ∨ A.r = 2) : faE kd A = 0 := by
  unfold faE; rw [if_neg (not_not_intro h), hk, if_neg (by decide), if_neg (by omega)]
/-- The array of a cell for each row. -/
def ofR (A : Ar) (z : List Int) : Ar := if A.r = 1 then ⟨1, 0, 0, 0, z⟩ else ⟨1, 1, z.length, 0, z⟩
theorem ofR_z (A : Ar) (z : List Int) : (ofR A z).z = z := by unfold ofR; split <;> rfl
theorem ofR_ck {A : Ar} (h : Good A) (hr : A.r = 1 ∨ A.r = 2) {z : List Int} (hz : z.length = rwN A) : ck (ofR A z) = 0 := by
  unfold ofR
  rcases hr with hr | hr
  · rw [if_pos hr]
    obtain ⟨q1, _⟩ := rw_vec h hr
    exact good_ck ⟨.inl rfl, Sh.s0, by simp [cn, hz, q1], fun e => by cases e⟩
  · rw [if_neg (by omega)]
    obtain ⟨_, _, _, q4, _⟩ := rw_mat h hr
    exact ck_vec (.inl rfl) (by omega) (fun e => by cases e)

/-- The sums on the way. -/
def scL : Int → List Int → List Int
  | _, [] => []
  | b, c :: l => (b + c) :: scL (b + c) l
def okS (b : Int) (l : List Int) : Bool := (scL b l).all Sc.inr
/-- The sum of a row, or its error. -/
def sm1 (l : List Int) : Int × Int := if okS 0 l = true then (l.sum, 0) else (0, 12)
theorem scL_len (b : Int) : ∀ l : List Int, (scL b l).length = l.length
  | [] => rfl
  | c :: l => by show (scL (b + c) l).length + 1 = _; rw [scL_len (b + c) l]; rfl
theorem scL_app : ∀ (b : Int) (l m : List Int), scL b (l ++ m) = scL b l ++ scL (b + l.sum) m
  | b, [], m => by simp [scL]
  | b, c :: l, m => by
    show (b + c) :: scL (b + c) (l ++ m) = _
    rw [scL_app (b + c) l m, List.sum_cons, ← Int.add_assoc]; rfl
theorem scL_snoc (b : Int) (l : List Int) (c : Int) : scL b (l ++ [c]) = scL b l ++ [b + l.sum + c] := scL_app b l [c]
theorem scL_add (b d : Int) : ∀ l : List Int, scL (b + d) l = (scL b l).map (· + d)
  | [] => rfl
  | c :: l => by
    show (b + d + c) :: scL (b + d + c) l = (b + c + d) :: (scL (b + c) l).map (· + d)
    rw [show b + d + c = b + c + d by omega, scL_add (b + c) d l]
theorem scL_at (b : Int) {l : List Int} {j : Nat} (h : j < l.length) : (scL b l).getD j 0 = b + (l.take (j + 1)).sum := by
  induction l generalizing b j with
  | nil => simp at h
  | cons c l ih =>
    cases j with
    | zero => simp [scL]
    | succ j =>
      have := ih (b + c) (j := j) (by simpa using h)
      simp only [scL, List.getD_cons_succ, List.take_succ_cons, List.sum_cons, this]
      omega
theorem okS_cons (b c : Int) (l : List Int) : okS b (c :: l) = (Sc.inr (b + c) && okS (b + c) l) := rfl
theorem okS_app (b : Int) (l m : List Int) : okS b (l ++ m) = (okS b l && okS (b + l.sum) m) := by unfold okS; rw [scL_app, List.all_append]
theorem fd_sum : ∀ (b : Int) (l : List Int), fdL (Sc.twoV 15) b l = if okS b l = true then (b + l.sum, 0) else (0, 12)
  | b, [] => by simp [fdL, okS, scL]
  | b, c :: l => by
    rw [okS_cons]
    by_cases h : Sc.inr (b + c) = true
    · have e : Sc.twoV 15 b c = (b + c, 0) := Sc.t15 rfl h
      rw [fdL_ok l (by rw [e]), e, fd_sum (b + c) l, h, Bool.true_and, List.sum_cons, Int.add_assoc]
    · have h' : Sc.inr (b + c) = false := by simpa using h
      have e : Sc.twoV 15 b c = (0, 12) := Sc.t15o h'
      rw [fdL_bad l (by rw [e]; decide), e, h', Bool.false_and, if_neg (by decide)]
theorem fd_sum0 (l : List Int) : fdL (Sc.twoV 15) 0 l = sm1 l := by rw [fd_sum, Int.zero_add]; rfl
/-- The least or the greatest number. -/
def mm (p : Int) (x y : Int) : Int := if p = 31 then min x y else max x y
theorem mm_two {p : Int} (hp : p = 31 ∨ p = 32) (x y : Int) : Sc.twoV p x y = (mm p x y, 0) := by
  rcases hp with rfl | rfl <;> simp [Sc.twoV, mm]
def bgn (p : Int) : Int := if p = 31 then 9223372036854775807 else -9223372036854775808
/-- The end of a row. -/
def en1 (p : Int) (l : List Int) : Int := l.tail.foldl (mm p) (l.headD 0)
theorem fd_mm {p : Int} (hp : p = 31 ∨ p = 32) : ∀ (b : Int) (l : List Int), fdL (Sc.twoV p) b l = (l.foldl (mm p) b, 0)
  | b, [] => rfl
  | b, c :: l => by rw [fdL_ok l (by rw [mm_two hp]), mm_two hp, fd_mm hp]; rfl
theorem mm_bgn {p : Int} (hp : p = 31 ∨ p = 32) {x : Int} (hx : Sc.inr x = true) : mm p (bgn p) x = x := by
  have := Sc.inr_iff.1 hx
  rcases hp with rfl | rfl <;> simp [mm, bgn] <;> omega
theorem en_fold {p : Int} (hp : p = 31 ∨ p = 32) {l : List Int} (hl : l ≠ []) (h : in64 l) : l.foldl (mm p) (bgn p) = en1 p l := by
  cases l with
  | nil => exact absurd rfl hl
  | cons c l => show l.foldl (mm p) (mm p (bgn p) c) = _; rw [mm_bgn hp (h c (by simp))]; rfl
theorem rwI_mem {A : Ar} {i : Nat} {x : Int} (h : x ∈ rwI A i) : x ∈ A.z := List.mem_of_mem_drop (List.mem_of_mem_take h)
theorem in64.row {A : Ar} (h : in64 A.z) (i : Nat) : in64 (rwI A i) := fun x hx => h x (rwI_mem hx)
/-- Sum, Scan, the ends, Count. -/
def smE (A : Ar) : Int := if faE (A.k == 1) A = 0 then feL ((rwL A).map sm1) else faE (A.k == 1) A
def smV (A : Ar) : Ar := orNo (smE A) (ofR A (vsL ((rwL A).map sm1)))
def sncV (A : Ar) : Ar := orNo (smE A) ⟨1, A.r, A.a, A.b, flt ((rwL A).map (scL 0))⟩
def enE (A : Ar) : Int := if faE (A.k == 1) A = 0 then (if 0 < rwN A ∧ rwM A = 0 then 13 else 0) else faE (A.k == 1) A
def enV (p : Int) (A : Ar) : Ar := orNo (enE A) (ofR A ((rwL A).map (en1 p)))
def cntE (A : Ar) : Int := faE true A
def cntV (A : Ar) : Ar := orNo (cntE A) (ofR A (List.replicate (rwN A) (rwM A : Int)))
theorem cs_sum (A : Ar) : csF (Sc.twoV 15) 0 A = (rwL A).map sm1 := List.map_congr_left fun l _ => fd_sum0 l
theorem rwL_nil {A : Ar} (h : ¬ ck A = 0) : rwL A = [] := if_neg h
theorem feL_pure {α : Type} (l : List α) (g : α → Int) : feL (l.map fun x => (g x, (0 : Int))) = 0 := feL_zero.2 fun c hc => by
  obtain ⟨x, _, rfl⟩ := List.mem_map.1 hc; rfl
theorem vsL_pure {α : Type} (l : List α) (g : α → Int) : vsL (l.map fun x => (g x, (0 : Int))) = l.map g := by simp [vsL]
theorem cs_end {p : Int} (hp : p = 31 ∨ p = 32) {A : Ar} (h : ck A = 0) (h64 : in64 A.z) (hm : ¬ (0 < rwN A ∧ rwM A = 0)) : csF (Sc.twoV p) (bgn p) A = (rwL A).map fun l => (en1 p l, 0) := by
  refine List.map_congr_left fun l hl => ?_
  obtain ⟨i, hi, e⟩ := List.mem_iff_getElem.1 hl
  have hi2 : i < rwN A := by rw [← rwL_len h]; exact hi
  rw [rwL_get h] at e
  subst e
  rw [fd_mm hp, en_fold hp _ (h64.row i)]
  intro e
  have := rwI_len (ck_good h) hi2
  rw [e] at this
  simp at this
  omega
/-- What counts. -/
def cntf (m _c : Int) : Int × Int := (m + 1, 0)
theorem fd_cnt : ∀ (b : Int) (l : List Int), fdL cntf b l = (b + l.length, 0)
  | b, [] => by simp [fdL]
  | b, c :: l => by
    rw [fdL_ok l rfl, show (cntf b c).1 = b + 1 from rfl, fd_cnt (b + 1) l, List.length_cons]
    simp; omega
theorem cs_cnt {A : Ar} (h : ck A = 0) : csF cntf 0 A = (List.range (rwN A)).map fun _ => ((rwM A : Int), 0) := by
  unfold csF rwL
  rw [if_pos h, List.map_map]
  refine List.map_congr_left fun i hi => ?_
  show fdL cntf 0 (rwI A i) = _
  rw [fd_cnt, rwI_len (ck_good h) (List.mem_range.1 hi), Int.zero_add]
theorem sm_len {A : Ar} (h : ck A = 0) : ((rwL A).map sm1).length = rwN A := by rw [List.length_map, rwL_len h]
end Go.Proofs.YthfpmpmhoegicaaDoor
namespace Go.Proofs.YthfpmpmhoegicaaDoor
open Go.RowKit

set_option maxRecDepth 100000 in
set_option maxHeartbeats 8000000 in
theorem frows2_any (k : Int) (n m : Nat) (l : Nat) (p : Option Addr) (cap : Nat) (w : World) (hl : n * m = l) (hn : n ≤ 400) (hm : m ≤ 400) (hcap : l ≤ cap) (hcap2 : cap ≤ 9223372036854775807)
    (hp : 0 < l → ∃ b off, p = some ⟨b, off, none⟩) (hp0 : p = none → cap = 0) :
    Calls Tryd.prog 74 #[A5 k 2 n m (.slice p l cap)] w fun e w' => ∃ h, e = .returned (.slice (some ⟨h, 0, none⟩) n n) ∧ w.heap.size ≤ h ∧ w'.rowIs h 23 n (rp p m) ∧ Below w.heap.size w w' := by
  obtain ⟨i0, hi, hz0, hz1, hz2⟩ := info_parts infoS
  have hmk := fun W : World => run_make (P := Tryd.prog) W 81 23 i0 (.slice none 0 0) Tryd.underlying81 hi hz0 .i64 .i64 n n (by omega) (by omega) (by rw [hz2]; omega) (by omega)
  simp only [Int.toNat_natCast, hz1, Nat.mul_one] at hmk
  have HK := Lib.hid (KE.new w ⟨k, 2, n, m, []⟩ (.slice p l cap))
  have x0 := HK.out.blk.c0; have x1 := HK.out.blk.c1; have x2 := HK.out.blk.c2; have x3 := HK.out.blk.c3; have x4 := HK.out.blk.c4
  simp only at x0 x1 x2 x3 x4
  have HP := Lib.hid (And.intro hp hp0)
  clear hp hp0
  go_enter Tryd.func74, Tryd.ntmps74
  go_wp2_with fail
  go_quiet (fail)
  generalize hW1 : World.drewN _ nq = W1
  have HK1 : Hid (KE w ⟨k, 2, n, m, []⟩ (.slice p l cap) W1) := by rw [← hW1]; exact HK.out.next (drewN_below _ nq)
  clear hW1 HK x0 x1 x2 x3 x4
  have x1 := HK1.out.blk.c1; have x2 := HK1.out.blk.c2; have x3 := HK1.out.blk.c3
  simp only at x1 x2 x3
  go_wp2_with fail
  go_quiet (fail)
  generalize hW2 : World.drewN W1 _ = W2
  have HK2 : Hid (KE w ⟨k, 2, n, m, []⟩ (.slice p l cap) W2) := by rw [← hW2]; exact HK1.out.next (drewN_below _ _)
  clear hW2 HK1 x1 x2 x3
  have hmk1 := hmk W2
  go_wp2_with fail
  have hws : w.heap.size < W2.heap.size := HK2.out.sz
  have HM0 := Lib.hid (HK2.out.next (bel1 W2 (.cells (madeCells (Value.slice none 0 0).cells n) 23)))
  have HR0 : Hid ((W2.alloc (.cells (madeCells (Value.slice none 0 0).cells n) 23)).rowIs W2.heap.size 23 n (rq p m 0)) := (World.rowIs_made W2 (.slice none 0 0) n 23).congr fun i _ => by unfold rq; rw [if_neg (by omega)]
  clear hmk1 hmk HK2
  go_loopg [25] n (fun gk i wr => ∃ j : Nat, j + gk = n ∧ i = .int .i64 j ∧ KE w ⟨k, 2, n, m, []⟩ (.slice p l cap) wr ∧ wr.rowIs W2.heap.size 23 n (rq p m j))
  case atStart => exact ⟨0, by omega, rfl, HM0.out, HR0.out⟩
  case round =>
    obtain ⟨j, hjg, rfl, hk, hrow⟩ := hrel
    have HK := Lib.hid hk
    have HRo := Lib.hid hrow
    clear hk hrow HM0 HR0
    cases gk with
    | zero =>
      have hjz : ¬ ((j : Int) < (n : Int)) := by omega
      go_wp2
      obtain rfl : j = n := by omega
      go_ret
      exact ⟨_, rfl, by omega, rq_all HRo.out, HK.out.bel⟩
    | succ g2 =>
      have hjz : (j : Int) < (n : Int) := by omega
      have hj : j < n := by omega
      have x4 := HK.out.blk.c4
      have hw0 : IntKind.i64.wrap ((j : Int) + 1) = (j : Int) + 1 := by rw [IntKind.wrap_i64]; omega
      have hy : wr.cell? ⟨W2.heap.size, j, none⟩ = some (.slice none 0 0) := by
        rw [HRo.out.cell hj]; unfold rq; rw [if_neg (by omega)]
      have hyf : wr.frozen? ⟨W2.heap.size, j, none⟩ = false := HRo.out.frozen j
      by_cases hm0 : m = 0
      · subst hm0
        have hl0 : l = 0 := by rw [← hl, Nat.mul_zero]
        subst hl0
        have hw1 : IntKind.i64.wrap 0 = 0 := by rw [IntKind.wrap_i64]; omega
        rcases p with _ | ad
        · have hc0 : cap = 0 := HP.out.2 rfl
          subst hc0
          clear hl hcap hcap2
          go_wp2
          go_roundg g2
          case measure => omega
          case rel => exact ⟨j + 1, by omega, by go_num, HK.out.put (by omega) _ _, rq_next HRo.out (by rw [rp_nil])⟩
        · clear hl
          go_wp2
          go_roundg g2
          case measure => omega
          case rel => exact ⟨j + 1, by omega, by go_num, HK.out.put (by omega) _ _, rq_next HRo.out (by rw [rp_zero])⟩
      · have hle : (j + 1) * m ≤ n * m := Nat.mul_le_mul_right _ (by omega)
        have hjm : (j + 1) * m = j * m + m := by rw [Nat.add_mul]; omega
        have hw1 : IntKind.i64.wrap ((j : Int) * (m : Int)) = ((j * m : Nat) : Int) := by rw [← Int.natCast_mul, IntKind.wrap_i64]; omega
        have hw2 : IntKind.i64.wrap (((j : Int) + 1) * (m : Int)) = (((j + 1) * m : Nat) : Int) := by rw [show ((j : Int) + 1) = ((j + 1 : Nat) : Int) by omega, ← Int.natCast_mul, IntKind.wrap_i64]; omega
        have hj0 : (0 : Int) ≤ (j : Int) * (m : Int) := by rw [← Int.natCast_mul]; omega
        have hb1 : (j : Int) * (m : Int) + (m : Int) ≤ (cap : Int) := by rw [← Int.natCast_mul]; omega
        have hl0 : 0 < l := by rw [← hl]; exact Nat.mul_pos (by omega) (by omega)
        obtain ⟨b, off, rfl⟩ := HP.out.1 hl0
        have hmp : 0 < m := by omega
        clear hm0
        go_wp2
        go_roundg g2
        case measure => omega
        case rel => exact ⟨j + 1, by omega, by go_num, HK.out.put (by omega) _ _, rq_next HRo.out (by rw [rp_some])⟩

set_option maxRecDepth 100000 in
set_option maxHeartbeats 8000000 in
theorem frows1_any (k : Int) (l : Nat) (b : Int) (p : Option Addr) (cap : Nat) (w : World) (hl : l ≤ 1000000) (hcap : l ≤ cap) (hcap2 : cap ≤ 9223372036854775807)
    (hp : 0 < l → ∃ b off, p = some ⟨b, off, none⟩) (hp0 : p = none → cap = 0) :
    Calls Tryd.prog 74 #[A5 k 1 l b (.slice p l cap)] w fun e w' => ∃ h, e = .returned (.slice (some ⟨h, 0, none⟩) 1 1) ∧ w.heap.size ≤ h ∧ w'.rowIs h 23 1 (rp p l) ∧ Below w.heap.size w w' := by
  obtain ⟨i0, hi, hz0, hz1, hz2⟩ := info_parts infoS
  have hmk := fun W : World => run_make (P := Tryd.prog) W 81 23 i0 (.slice none 0 0) Tryd.underlying81 hi hz0 .i64 .i64 1 1 (by omega) (by omega) (by rw [hz2]; omega) (by omega)
  simp only [hz1, Nat.mul_one, show (1 : Int).toNat = 1 from rfl] at hmk
  have HK := Lib.hid (KE.new w ⟨k, 1, l, b, []⟩ (.slice p l cap))
  have x0 := HK.out.blk.c0; have x1 := HK.out.blk.c1; have x2 := HK.out.blk.c2; have x3 := HK.out.blk.c3; have x4 := HK.out.blk.c4
  simp only at x0 x1 x2 x3 x4
  have HP := Lib.hid (And.intro hp hp0)
  clear hp hp0
  go_enter Tryd.func74, Tryd.ntmps74
  go_wp2_with fail
  go_quiet (fail)
  generalize hW1 : World.drewN _ nq = W2
  have HK2 : Hid (KE w ⟨k, 1, l, b, []⟩ (.slice p l cap) W2) := by rw [← hW1]; exact HK.out.next (drewN_below _ nq)
  clear hW1 HK x0 x1 x2 x3 x4
  have x1 := HK2.out.blk.c1
  simp only at x1
  have hmk1 := hmk W2
  have hws : w.heap.size < W2.heap.size := HK2.out.sz
  have HM0 := Lib.hid (HK2.out.next (bel1 W2 (.cells (madeCells (Value.slice none 0 0).cells 1) 23)))
  have HR0 : Hid ((W2.alloc (.cells (madeCells (Value.slice none 0 0).cells 1) 23)).rowIs W2.heap.size 23 1 (rq p l 0)) := (World.rowIs_made W2 (.slice none 0 0) 1 23).congr fun i _ => by unfold rq; rw [if_neg (by omega)]
  clear hmk HM0
  go_wp2_with fail
  clear hmk1 x1
  generalize hWr : World.alloc W2 _ = wr
  have HM0 : Hid (KE w ⟨k, 1, l, b, []⟩ (.slice p l cap) wr) := by rw [← hWr]; exact HK2.out.next (bel1 _ _)
  have HR1 : Hid (wr.rowIs W2.heap.size 23 1 (rq p l 0)) := by rw [← hWr]; exact HR0.out
  clear HR0 hWr HK2
  have HR0 := HR1
  clear HR1
  have x4 := HM0.out.blk.c4
  have hy : wr.cell? ⟨W2.heap.size, 0, none⟩ = some (.slice none 0 0) := by
    rw [HR0.out.cell (by omega)]; unfold rq; rw [if_neg (by omega)]
  have hyf : wr.frozen? ⟨W2.heap.size, 0, none⟩ = false := HR0.out.frozen 0
  have hw1 : IntKind.i64.wrap 0 = 0 := by rw [IntKind.wrap_i64]; omega
  have hw2 : IntKind.i64.wrap 1 = 1 := by rw [IntKind.wrap_i64]; omega
  have hw3 : IntKind.i64.wrap (l : Int) = (l : Int) := by rw [IntKind.wrap_i64]; omega
  refine wp_loop_rounds 4 ?_
  rw [rounds_succ]
  by_cases hl0 : l = 0
  · subst hl0
    clear hw3 hl
    rcases p with _ | ad
    · have hc0 : cap = 0 := HP.out.2 rfl
      subst hc0
      clear hcap hcap2
      have HF : Hid ((wr.setCell ⟨W2.heap.size, 0, none⟩ (.slice none 0 0)).rowIs W2.heap.size 23 1 (rp none 0)) := rq_all (rq_next HR0.out (by rw [rp_nil]))
      have HG := Lib.hid (HM0.out.put hws 0 (.slice none 0 0))
      go_wp2
      rw [rounds_succ]
      go_wp2
      go_ret
      exact ⟨_, rfl, by omega, HF.out, HG.out.bel⟩
    · have HF : Hid ((wr.setCell ⟨W2.heap.size, 0, none⟩ (.slice (some ad) 0 0)).rowIs W2.heap.size 23 1 (rp (some ad) 0)) := rq_all (rq_next HR0.out (by rw [rp_zero]))
      have HG := Lib.hid (HM0.out.put hws 0 (.slice (some ad) 0 0))
      go_wp2
      rw [rounds_succ]
      go_wp2
      go_ret
      exact ⟨_, rfl, by omega, HF.out, HG.out.bel⟩
  · obtain ⟨bk, off, rfl⟩ := HP.out.1 (by omega)
    have hlp : 0 < l := by omega
    have HF : Hid ((wr.setCell ⟨W2.heap.size, 0, none⟩ (.slice (some ⟨bk, off, none⟩) l l)).rowIs W2.heap.size 23 1 (rp (some ⟨bk, off, none⟩) l)) := rq_all (rq_next HR0.out (by rw [rp_some, Nat.zero_mul, Nat.add_zero]))
    have HG := Lib.hid (HM0.out.put hws 0 (.slice (some ⟨bk, off, none⟩) l l))
    clear hl0
    go_wp2
    rw [rounds_succ]
    go_wp2
    go_ret
    exact ⟨_, rfl, by omega, HF.out, HG.out.bel⟩
/-- rows, of vectors and matrices. -/
theorem frows_any (A : Ar) (v : Value) (w : World) (hA : Good A) (hr : A.r = 1 ∨ A.r = 2) (hv : RdI w.heap.size w v A.z) (hn : Ru.NilC v) :
    ∃ p cap, v = .slice p A.z.length cap ∧ ∀ W, Calls Tryd.prog 74 #[A5 A.k A.r A.a A.b v] W fun e w' => ∃ h, e = .returned (.slice (some ⟨h, 0, none⟩) (rwN A) (rwN A)) ∧ W.heap.size ≤ h ∧ w'.rowIs h 23 (rwN A) (rp p (rwM A)) ∧ Below W.heap.size W w' := by
  obtain ⟨p, cap, rfl, hcap, hcap2, hcell⟩ := hv
  refine ⟨p, cap, rfl, fun W => ?_⟩
  have hp : 0 < A.z.length → ∃ b off, p = some ⟨b, off, none⟩ := fun h => by
    obtain ⟨b, off, e, _⟩ := hcell (List.length_pos_iff.1 h)
    exact ⟨b, off, e⟩
  have hp0 : p = none → cap = 0 := fun e => by subst e; exact hn _ _ rfl
  rcases hr with hr | hr
  · obtain ⟨q1, q2, q3, q4⟩ := rw_vec hA hr
    rw [q1, q2, hr, q3]
    exact frows1_any A.k A.z.length A.b p cap W (by have := hA.len4; omega) hcap hcap2 hp hp0
  · obtain ⟨q1, q2, q3, q4, q5⟩ := rw_mat hA hr
    rw [hr, q1, q2]
    exact frows2_any A.k (rwN A) (rwM A) A.z.length p cap W q3.symm q4 q5 hcap hcap2 hp hp0

/-- A row of an array's own cells. -/
theorem frp_rd {A : Ar} (h : ck A = 0) {B : Nat} {w : World} {p : Option Addr} {cap : Nat} (hv : RdI B w (.slice p A.z.length cap) A.z) {j : Nat} (hj : j < rwN A) :
    ∃ q, rp p (rwM A) j = .slice q (rwM A) (rwM A) ∧ ∀ t, t < rwM A → ∃ bk off, q = some ⟨bk, off, none⟩ ∧ bk < B ∧ w.cell? ⟨bk, off + t, none⟩ = some (.int .i64 ((rwI A j).getD t 0)) := by
  obtain ⟨_, _, r2, r3, r4⟩ := rw_good (ck_good h)
  have hI := rwI_len (ck_good h) hj
  have hle := Nat.mul_le_mul_right (rwM A) (show j + 1 ≤ rwN A by omega)
  rw [Nat.add_mul, Nat.one_mul] at hle
  obtain ⟨p', c, e, h1, h2, h3⟩ := hv
  cases e
  cases p with
  | none =>
    have hz : A.z = [] := by
      rcases hA : A.z with _ | ⟨x, l⟩
      · rfl
      · obtain ⟨b, off, e, _⟩ := h3 (by rw [hA]; simp)
        cases e
    have hm : rwM A = 0 := by
      have : A.z.length = 0 := by rw [hz]; rfl
      omega
    rw [hm]
    exact ⟨none, rfl, fun t ht => absurd ht (by omega)⟩
  | some ad =>
    refine ⟨_, rfl, fun t ht => ?_⟩
    obtain ⟨b, off, e, hb, hc⟩ := h3 (List.length_pos_iff.1 (by omega))
    cases e
    refine ⟨b, off + j * rwM A, rfl, hb, ?_⟩
    rw [Nat.add_assoc, hc _ (by omega), List.getD_eq_getElem?_getD, List.getElem?_eq_getElem (by omega), Option.getD_some, rwI_get (by omega)]

set_option maxRecDepth 100000 in
set_option maxHeartbeats 4000000 in
theorem ffault_any (kd : Bool) (A : Ar) (v : Value) (w : World) (hw : Ru.Lay w) (hv : RdI w.heap.size w v A.z) (hl : A.z.length ≤ 1000000) :
    Calls Tryd.prog 47 #[.bool kd, A5 A.k A.r A.a A.b v] w fun e w' => e = .returned (.int .i64 (faE kd A)) ∧ Below w.heap.size w w' := by
  have HC := Lib.hid (fun W h1 h2 => acheck_any A v W h1 h2 hl)
  have HK := Lib.hid (KA.new A.k A.r A.a A.b hw hv)
  have x0 := HK.out.blk.c0; have x1 := HK.out.blk.c1; have x2 := HK.out.blk.c2; have x3 := HK.out.blk.c3; have x4 := HK.out.blk.c4
  obtain ⟨p, cap, rfl, hcap, hcap2, hcell⟩ := hv
  clear hcell hw
  unfold faE
  by_cases h1 : ck A = 0
  · rw [if_neg (not_not_intro h1)]
    rw [h1] at HC
    clear h1
    cases kd
    · rw [if_pos rfl]
      go_enter Tryd.func47, Tryd.ntmps47
      go_wp2_with (first | (go_at_call 51; (with_reducible refine (HC.out _ HK.out.lay HK.out.rd).mono ?_); rintro e w' ⟨rfl, hb⟩; have HK2 := Lib.hid (HK.out.next hb); clear HK hb x0 x1 x2 x3 x4; have HK := HK2; clear HK2; have x1 := HK.out.blk.c1) | fail)
      go_ret
      exact ⟨rfl, HK.out.bel⟩
    · rw [if_neg (by decide)]
      by_cases h2 : A.r = 0
      · rw [if_pos h2]
        have k2 : (A.r == 0) = true := by simpa using h2
        clear h2
        go_enter Tryd.func47, Tryd.ntmps47
        go_wp2_with (first | (go_at_call 51; (with_reducible refine (HC.out _ HK.out.lay HK.out.rd).mono ?_); rintro e w' ⟨rfl, hb⟩; have HK2 := Lib.hid (HK.out.next hb); clear HK hb x0 x1 x2 x3 x4; have HK := HK2; clear HK2; have x1 := HK.out.blk.c1) | fail)
        go_ret
        exact ⟨rfl, HK.out.bel⟩
      · rw [if_neg h2]
        have k2 : (A.r == 0) = false := by simpa using h2
        clear h2
        go_enter Tryd.func47, Tryd.ntmps47
        go_wp2_with (first | (go_at_call 51; (with_reducible refine (HC.out _ HK.out.lay HK.out.rd).mono ?_); rintro e w' ⟨rfl, hb⟩; have HK2 := Lib.hid (HK.out.next hb); clear HK hb x0 x1 x2 x3 x4; have HK := HK2; clear HK2; have x1 := HK.out.blk.c1) | fail)
        go_ret
        exact ⟨rfl, HK.out.bel⟩
  · rw [if_pos h1]
    generalize ck A = E at HC h1 ⊢
    have k1 : (E != 0) = true := by simpa using h1
    clear h1
    go_enter Tryd.func47, Tryd.ntmps47
    go_wp2_with (first | (go_at_call 51; (with_reducible refine (HC.out _ HK.out.lay HK.out.rd).mono ?_); rintro e w' ⟨rfl, hb⟩; have HK2 := Lib.hid (HK.out.next hb); clear HK hb x0 x1 x2 x3 x4; have HK := HK2; clear HK2; have x1 := HK.out.blk.c1) | fail)
    go_ret
    exact ⟨rfl, HK.out.bel⟩

/-- Make of an array that is one: spelled out, its result anywhere. -/
theorem fmake_ok {k r a b : Int} {z : List Int} (h : ck ⟨k, r, a, b, z⟩ = 0) (v : Value) (w : World) (hw : Ru.Lay w) (hv : RdI w.heap.size w v z) (hl : z.length ≤ 1000000) :
    Calls Tryd.prog 56 #[.int .i64 k, .int .i64 r, P2 a b, v] w fun e w' => ∃ q c, e = .returned (.tuple #[A5 k r a b (.slice q z.length c), .int .i64 0]) ∧ RdN w.heap.size w' (.slice q z.length c) z ∧ Below w.heap.size w w' := by
  refine (make_any k r a b z v w hw hv hl).mono ?_
  rw [h, mk_yes h]
  rintro e w' ⟨u, h1, h2, h3⟩
  obtain ⟨q, c, e2, _⟩ := h2.form
  have e3 : u = .slice q z.length c := e2
  subst e3
  exact ⟨q, c, h1, h2, h3⟩
set_option maxRecDepth 100000 in
set_option maxHeartbeats 4000000 in
theorem ofrows_any (A : Ar) (v u : Value) (z : List Int) (w : World) (hw : Ru.Lay w) (hv : RdI w.heap.size w v A.z) (hu : RdI w.heap.size w u z) (hl : z.length ≤ 1000000) (hA : ck (ofR A z) = 0) :
    Calls Tryd.prog 71 #[A5 A.k A.r A.a A.b v, u] w (RetE (ofR A z) 0 w) := by
  have HK := Lib.hid (MK1.new (A := A) hw hv)
  have x0 := HK.out.box.c0; have x1 := HK.out.box.c1; have x2 := HK.out.box.c2; have x3 := HK.out.box.c3; have x4 := HK.out.box.c4
  have HU : Hid (RdI ((w.alloc (.cells #[.int .i64 A.k, .int .i64 A.r, .int .i64 A.a, .int .i64 A.b, v] 25)).alloc (.cells #[.int .i64 0, .int .i64 0, .int .i64 0, .int .i64 0, .slice none 0 0] 25)).heap.size ((w.alloc (.cells #[.int .i64 A.k, .int .i64 A.r, .int .i64 A.a, .int .i64 A.b, v] 25)).alloc (.cells #[.int .i64 0, .int .i64 0, .int .i64 0, .int .i64 0, .slice none 0 0] 25)) u z) := (hu.next (bel1 _ _)).next (bel1 _ _)
  obtain ⟨p, cap, rfl, hcap, hcap2, hcell⟩ := hv
  obtain ⟨p', cap', rfl, hcap', hcap2', hcell'⟩ := hu
  clear hcell hcell' hw
  unfold ofR at hA ⊢
  by_cases h1 : A.r = 1
  · rw [if_pos h1] at hA ⊢
    have HMk := Lib.hid (fun W h1 h2 => fmake_ok hA (.slice p' z.length cap') W h1 h2 hl)
    have k1 : (A.r == 1) = true := by simpa using h1
    clear h1 hA
    go_enter Tryd.func71, Tryd.ntmps71
    go_wp2_with (first | (go_at_call 56; (with_reducible refine (HMk.out _ HK.out.lay HU.out).mono ?_); rintro e w2 ⟨q, qc, rfl, hu, hb⟩; have HR := Lib.hid hu; have hlt := HK.out.sz; have HK2 := Lib.hid (HK.out.next hb); clear HK x0 x1 x2 x3 x4; have HK := HK2; clear HK2; have x0 := HK.out.box.c0; have x1 := HK.out.box.c1; have x2 := HK.out.box.c2; have x3 := HK.out.box.c3; have x4 := HK.out.box.c4; clear hu hb HU; have y0 := HK.out.res.c0; have y1 := HK.out.res.c1; have y2 := HK.out.res.c2; have y3 := HK.out.res.c3; have y4 := HK.out.res.c4; have f0 := HK.out.res.fr 0; have f1 := HK.out.res.fr 1; have f2 := HK.out.res.fr 2; have f3 := HK.out.res.fr 3; have f4 := HK.out.res.fr 4; have HS := Lib.hid (HK.out.res.set 1 0 0 0 (.slice q z.length qc)); have z0 := HS.out.c0; have z1 := HS.out.c1; have z2 := HS.out.c2; have z3 := HS.out.c3; have z4 := HS.out.c4) | fail)
    refine bodyPost_ret (v := .tuple #[A5 1 0 0 0 (.slice q z.length qc), .int .i64 0]) (by simp [results, Tryd.results71, go_sem, z0, z1, z2, z3, z4]) rfl ?_
    exact ⟨_, rfl, (HR.out.st5 (by omega) _ _ _ _ _).mono (by omega), st5_below _ _ _ _ _ (by omega) HK.out.bel⟩
  · rw [if_neg h1] at hA ⊢
    have HMk := Lib.hid (fun W h1 h2 => fmake_ok hA (.slice p' z.length cap') W h1 h2 hl)
    have k1 : (A.r == 1) = false := by simpa using h1
    clear h1 hA
    go_enter Tryd.func71, Tryd.ntmps71
    go_wp2_with (first | (go_at_call 56; (with_reducible refine (HMk.out _ HK.out.lay HU.out).mono ?_); rintro e w2 ⟨q, qc, rfl, hu, hb⟩; have HR := Lib.hid hu; have hlt := HK.out.sz; have HK2 := Lib.hid (HK.out.next hb); clear HK x0 x1 x2 x3 x4; have HK := HK2; clear HK2; have x0 := HK.out.box.c0; have x1 := HK.out.box.c1; have x2 := HK.out.box.c2; have x3 := HK.out.box.c3; have x4 := HK.out.box.c4; clear hu hb HU; have y0 := HK.out.res.c0; have y1 := HK.out.res.c1; have y2 := HK.out.res.c2; have y3 := HK.out.res.c3; have y4 := HK.out.res.c4; have f0 := HK.out.res.fr 0; have f1 := HK.out.res.fr 1; have f2 := HK.out.res.fr 2; have f3 := HK.out.res.fr 3; have f4 := HK.out.res.fr 4; have HS := Lib.hid (HK.out.res.set 1 1 (z.length : Int) 0 (.slice q z.length qc)); have z0 := HS.out.c0; have z1 := HS.out.c1; have z2 := HS.out.c2; have z3 := HS.out.c3; have z4 := HS.out.c4) | fail)
    refine bodyPost_ret (v := .tuple #[A5 1 1 (z.length : Int) 0 (.slice q z.length qc), .int .i64 0]) (by simp [results, Tryd.results71, go_sem, z0, z1, z2, z3, z4]) rfl ?_
    exact ⟨_, rfl, (HR.out.st5 (by omega) _ _ _ _ _).mono (by omega), st5_below _ _ _ _ _ (by omega) HK.out.bel⟩
end Go.Proofs.YthfpmpmhoegicaaDoor
namespace Go.Proofs.YthfpmpmhoegicaaDoor
open Go.RowKit

set_option maxRecDepth 100000 in
set_option maxHeartbeats 4000000 in
theorem prim1_any (p x c : Int) (gp : Nat) (w : World) (hp : w.cell? ⟨gp, 0, none⟩ = some (.int .i64 p)) (hx : Sc.inr x = true) (hc : Sc.inr c = true) :
    Calls Tryd.prog 72 #[.int .i64 x, .int .i64 c, .pointer (some ⟨gp, 0, none⟩)] w fun e w' => e = .returned (.tuple #[.int .i64 (Sc.twoV p x c).1, .int .i64 (Sc.twoV p x c).2]) ∧ Below w.heap.size w w' := by
  have HC : Hid (∀ W, Calls Tryd.prog 73 #[.int .i64 p, .int .i64 x, .int .i64 c] W fun e w' => e = .returned (.tuple #[.int .i64 (Sc.twoV p x c).1, .int .i64 (Sc.twoV p x c).2]) ∧ Below W.heap.size W w') := fun W => Sc.stwo_any p x c W (inr_lo hx) (inr_hi hx) (inr_lo hc) (inr_hi hc)
  generalize (Sc.twoV p x c).1 = a at HC ⊢
  generalize (Sc.twoV p x c).2 = b at HC ⊢
  clear hx hc
  go_enter Tryd.func72, Tryd.ntmps72
  go_wp2_with (go_at_call 73; (with_reducible refine (HC.out _).mono ?_); rintro e w' ⟨rfl, hb⟩)
  go_ret2
  exact ⟨rfl, hb⟩
set_option maxRecDepth 100000 in
set_option maxHeartbeats 4000000 in
theorem cnt1_any (x c : Int) (w : World) (h0 : 0 ≤ x) (h1 : x ≤ 1000000) :
    Calls Tryd.prog 70 #[.int .i64 x, .int .i64 c] w fun e w' => e = .returned (.tuple #[.int .i64 (x + 1), .int .i64 0]) ∧ Below w.heap.size w w' := by
  have hw : IntKind.i64.wrap (x + 1) = x + 1 := by rw [IntKind.wrap_i64]; omega
  go_enter Tryd.func70, Tryd.ntmps70
  go_wp2
  go_ret2
  exact ⟨rfl, Below.refl _ _⟩
/-- What fold returns. -/
def FdE (B : Nat) (cs : List (Int × Int)) (e : Ending) (w' : World) : Prop := ∃ u, e = .returned (.tuple #[u, .int .i64 (feL cs)]) ∧ (feL cs = 0 → RdN B w' u (vsL cs))

theorem ins_next7 {w w' : World} {B : Nat} {x : Value} {m : List Int} (h : Ru.Ins 2 w B x m) (hb : Below w.heap.size w w') : Ru.Ins 2 w' B x m := by
  obtain ⟨h1, h2⟩ := h
  refine ⟨h1, ?_⟩
  rcases h2 with h2 | ⟨g, cap, cur, hv, hg, hh, r⟩
  · exact .inl h2
  · exact .inr ⟨g, cap, cur, hv, hg, (hb.block g (Array.getElem?_eq_some_iff.1 hh).1).trans hh, r⟩
set_option maxRecDepth 100000 in
set_option maxHeartbeats 8000000 in
theorem foldp_any (p b : Int) (gp : Nat) (A : Ar) (v : Value) (w : World) (hA : ck A = 0) (hr : A.r = 1 ∨ A.r = 2) (hv : RdI w.heap.size w v A.z) (hn : Ru.NilC v) (h64 : in64 A.z) (hb : Sc.inr b = true) (hp : w.cell? ⟨gp, 0, none⟩ = some (.int .i64 p)) (hst : ∀ x c, Sc.inr x = true → Sc.inr c = true → Sc.inr (Sc.twoV p x c).1 = true) :
    Calls Tryd.prog 69 #[A5 A.k A.r A.a A.b v, .int .i64 b, .func (.func 72) #[] #[.pointer (some ⟨gp, 0, none⟩)]] w fun e w' => FdE w.heap.size (csF (Sc.twoV p) b A) e w' ∧ Below w.heap.size w w' := by
  obtain ⟨_, _, r2, r3, r4⟩ := rw_good (ck_good hA)
  obtain ⟨p0, cap, rfl, hrw⟩ := frows_any A v w (ck_good hA) hr hv hn
  have HRw := Lib.hid hrw
  have HV := Lib.hid hv
  have HLen : Hid ((csF (Sc.twoV p) b A).length = rwN A) := csF_len hA
  have HAt : Hid (∀ i, i < rwN A → (csF (Sc.twoV p) b A)[i]? = some (fdL (Sc.twoV p) b (rwI A i))) := fun i hi => csF_at hA hi
  have HRp : Hid (∀ (w' : World) (j : Nat), RdI w.heap.size w' (.slice p0 A.z.length cap) A.z → j < rwN A → ∃ q, rp p0 (rwM A) j = .slice q (rwM A) (rwM A) ∧ ∀ t, t < rwM A → ∃ bk off, q = some ⟨bk, off, none⟩ ∧ bk < w.heap.size ∧ w'.cell? ⟨bk, off + t, none⟩ = some (.int .i64 ((rwI A j).getD t 0))) := fun w' j h hj => frp_rd hA h hj
  have HIl : Hid (∀ j, j < rwN A → (rwI A j).length = rwM A) := fun j hj => rwI_len (ck_good hA) hj
  have HK := Lib.hid (KE.new w A (.slice p0 A.z.length cap))
  have x0 := HK.out.blk.c0; have x1 := HK.out.blk.c1; have x2 := HK.out.blk.c2; have x3 := HK.out.blk.c3; have x4 := HK.out.blk.c4
  clear hrw hv hn hA hr r2
  have HGp : Hid (gp < w.heap.size) := World.block_lt_of_cell? w _ hp
  have HP := Lib.hid hp
  have HSt := Lib.hid hst
  have HI64r : Hid (∀ j, in64 (rwI A j)) := fun j => h64.row j
  have HIb := Lib.hid hb
  clear h64 hp hst hb
  obtain ⟨n, hn⟩ : ∃ n, rwN A = n := ⟨_, rfl⟩
  obtain ⟨m, hm⟩ : ∃ m, rwM A = m := ⟨_, rfl⟩
  rw [hn] at r3 HRw HLen HAt HRp HIl
  rw [hm] at r4 HRw HRp HIl
  clear hn hm
  generalize hcs : csF (Sc.twoV p) b A = cs at HLen HAt ⊢
  clear hcs
  go_enter Tryd.func69, Tryd.ntmps69
  go_wp2_with (first | (go_at_call 74; (with_reducible refine (HRw.out _).mono ?_); rintro e w1 ⟨h, rfl, hh, hrow, hb⟩; have HB1 := Lib.hid (HK.out.bel.trans (hb.mono HK.out.bel.size)); have HRow := Lib.hid hrow; have HV1 := Lib.hid (HV.out.below HB1.out); have hh1 : h < w1.heap.size := hrow.lt; clear hrow hb hh HK HV HRw x0 x1 x2 x3 x4) | fail)
  go_loopg [8, 18] n (fun gk u i wr => ∃ (j : Nat) (U : Value), j + gk = n ∧ U = u ∧ i = .int .i64 j ∧ okT cs j ∧ Ru.Ins 2 wr w1.heap.size U ((vsL cs).take j) ∧ Below w1.heap.size w1 wr)
  case atStart => exact ⟨0, _, by omega, rfl, rfl, okT_zero _, ins_nil _ _, Below.refl _ _⟩
  case round =>
    obtain ⟨j, u0, hjg, rfl, rfl, hok, hins, hbl⟩ := hrel
    obtain ⟨wo, rfl⟩ : ∃ wo, wo = wr := ⟨_, rfl⟩
    have HOk := Lib.hid hok
    have HIn := Lib.hid hins
    have HB := Lib.hid hbl
    clear hok hins hbl
    cases gk with
    | zero =>
      have hjz : ¬ ((j : Int) < (n : Int)) := by omega
      have hjn : j = n := by omega
      have HF : Hid (feL cs = 0) := by
        have h := HOk.out
        rw [hjn] at h
        exact okT_all h HLen.out
      have HR : Hid (RdN w.heap.size wo u0 (vsL cs)) := by
        have h := HIn.out
        rw [hjn, List.take_of_length_le (by rw [vsL_len, HLen.out]; exact Nat.le_refl _)] at h
        exact (ins_new h).mono HB1.out.size
      have HE := Lib.hid (HB1.out.trans (HB.out.mono HB1.out.size))
      clear HAt HRp HIl HRow HV1 HOk HIn hjn
      go_wp2
      go_ret2
      exact ⟨⟨_, by rw [HF.out]; rfl, fun _ => HR.out⟩, HE.out⟩
    | succ g2 =>
      have hjz : (j : Int) < (n : Int) := by omega
      have hj : j < n := by omega
      have hBs := HB.out.size
      have HBa : Hid (Below w.heap.size w wo) := HB1.out.trans (HB.out.mono HB1.out.size)
      have HVr : Hid (RdI w.heap.size wo (.slice p0 A.z.length cap) A.z) := HV1.out.below (HB.out.mono HB1.out.size)
      obtain ⟨q, hq, hcell⟩ := HRp.out wo j HVr.out hj
      have HCell := Lib.hid hcell
      have x0 : wo.cell? ⟨h, j, none⟩ = some (.slice q m m) := by rw [(HRow.out.of_block (HB.out.block h hh1)).cell hj, hq]
      have HAj := Lib.hid (HAt.out j hj)
      have hIl := HIl.out j hj
      have HI6 := Lib.hid (HI64r.out j)
      generalize rwI A j = row at HCell HAj hIl HI6
      have HIlr := Lib.hid hIl
      clear HRp HIl HVr hq hcell HAt hIl
      have hw0 : IntKind.i64.wrap ((j : Int) + 1) = (j : Int) + 1 := by rw [IntKind.wrap_i64]; omega
      go_wp2_with fail
      clear x0
      generalize hrs : fdL (Sc.twoV p) b row = rs at HAj
      have HRs := Lib.hid hrs
      clear hrs
      go_loopg [11, 25] m (fun gk c i wt => ∃ (t : Nat) (x : Int), t + gk = m ∧ c = .int .i64 x ∧ i = .int .i64 t ∧ Sc.inr x = true ∧ fdL (Sc.twoV p) x (row.drop t) = rs ∧ Below wo.heap.size wo wt)
      case atStart => exact ⟨0, _, by omega, rfl, rfl, HIb.out, HRs.out, Below.refl _ _⟩
      case round =>
        obtain ⟨t, x, htg, rfl, rfl, hinv, hfd, hbt⟩ := hrel
        have HFd := Lib.hid hfd
        have HBt := Lib.hid hbt
        have HIv := Lib.hid hinv
        clear hfd hbt hinv
        cases gk with
        | zero =>
          have htz : ¬ ((t : Int) < (m : Int)) := by omega
          have HRx : Hid (cs[j]? = some (x, 0)) := by
            have h := HFd.out
            rw [fdL_end (by rw [HIlr.out]; omega)] at h
            rw [h]; exact HAj.out
          have HOk2 : Hid (okT cs (j + 1)) := okT_next HOk.out HRx.out
          have HSn : Hid ((vsL cs).take j ++ [x] = (vsL cs).take (j + 1)) := by
            unfold Hid
            rw [← takeI_snoc (by rw [vsL_len, HLen.out]; exact hj), vsL_at HRx.out]
          have hlt : ((vsL cs).take j).length ≤ 400 := by rw [List.length_take]; omega
          have HIn2 := Lib.hid (ins_next7 HIn.out HBt.out)
          have HB2 := Lib.hid (HB.out.trans (HBt.out.mono HB.out.size))
          clear HRs HAj HFd HIv HCell HIlr HOk HIn HRx HRow HV1 HBa
          go_wp2_with (at_builtin; refine wpList_app1 (by simp [Region.wanted]) _ _ rfl w1.heap.size _ _ rfl HIn2.out x rfl (by omega) (by have := HB2.out.size; omega) ?_; intro u2 w2 hu2 hb2; rw [HSn.out] at hu2; have HU2 := Lib.hid hu2; have HB3 := Lib.hid (HB2.out.trans hb2); clear hu2 hb2)
          go_roundg g2
          case measure => omega
          case rel => exact ⟨j + 1, _, by omega, rfl, by go_num, HOk2.out, HU2.out, HB3.out⟩
        | succ g3 =>
          have htz : (t : Int) < (m : Int) := by omega
          have ht : t < m := by omega
          obtain ⟨bk, off, rfl, hbk, hc0⟩ := HCell.out t ht
          have hc : wr.cell? ⟨bk, off + t, none⟩ = some (.int .i64 (row.getD t 0)) := (HBt.out.cell (p := ⟨bk, off + t, none⟩) (by have := HBa.out.size; show bk < _; omega)).trans hc0
          clear hc0
          have hst := HFd.out
          rw [fdL_at (by rw [HIlr.out]; exact ht)] at hst
          have hic : Sc.inr (row.getD t 0) = true := HI6.out.get t
          generalize row.getD t 0 = c at hc hst hic
          have hw1 : IntKind.i64.wrap ((t : Int) + 1) = (t : Int) + 1 := by rw [IntKind.wrap_i64]; omega
          have HCl : Hid (Calls Tryd.prog 72 #[.int .i64 x, .int .i64 c, .pointer (some ⟨gp, 0, none⟩)] wr fun e w' => e = .returned (.tuple #[.int .i64 (Sc.twoV p x c).1, .int .i64 (Sc.twoV p x c).2]) ∧ Below wr.heap.size wr w') := prim1_any p x c gp wr (by rw [(HBt.out.cell (p := ⟨gp, 0, none⟩) (by have := HBa.out.size; have := HGp.out; show gp < _; omega)), (HBa.out.cell (p := ⟨gp, 0, none⟩) (by have := HGp.out; show gp < _; omega))]; exact HP.out) HIv.out hic
          have HIx : Hid (Sc.inr (Sc.twoV p x c).1 = true) := HSt.out x c HIv.out hic
          clear hic HIv
          obtain ⟨⟨d, E⟩, hd⟩ : ∃ d, Sc.twoV p x c = d := ⟨_, rfl⟩
          rw [hd] at HCl HIx hst
          simp only at HCl HIx hst
          clear hd
          by_cases hE : E = 0
          · subst hE
            rw [if_pos rfl] at hst
            have HSt2 := Lib.hid hst
            clear hst HFd HAj HRs
            go_wp2_with (first | (go_at_call 72; (with_reducible refine HCl.out.mono ?_); rintro e w2 ⟨rfl, hb⟩; have HB2 := Lib.hid (HBt.out.trans (hb.mono HBt.out.size)); clear hb HCl hc) | fail)
            go_roundg g3
            case measure => omega
            case rel => exact ⟨t + 1, d, by omega, rfl, by go_num, HIx.out, HSt2.out, HB2.out⟩
          · rw [if_neg hE] at hst
            have HBad : Hid (feL cs = E) := okT_bad HOk.out (by rw [hst]; exact HAj.out) hE
            have k1 : (E != 0) = true := by simpa using hE
            have HNz := Lib.hid hE
            clear hst HFd HAj HRs hE HOk
            go_wp2_with (first | (go_at_call 72; (with_reducible refine HCl.out.mono ?_); rintro e w2 ⟨rfl, hb⟩; have HB2 := Lib.hid (HBa.out.trans ((HBt.out.trans (hb.mono HBt.out.size)).mono HBa.out.size)); clear hb HCl hc) | fail)
            go_ret2
            exact ⟨⟨_, by rw [HBad.out]; rfl, fun h => absurd (HBad.out.symm.trans h) HNz.out⟩, HB2.out⟩


set_option maxRecDepth 100000 in
set_option maxHeartbeats 8000000 in
theorem foldc_any (A : Ar) (v : Value) (w : World) (hA : ck A = 0) (hr : A.r = 1 ∨ A.r = 2) (hv : RdI w.heap.size w v A.z) (hn : Ru.NilC v) :
    Calls Tryd.prog 69 #[A5 A.k A.r A.a A.b v, .int .i64 0, .func (.func 70) #[] #[]] w fun e w' => FdE w.heap.size (csF cntf 0 A) e w' ∧ Below w.heap.size w w' := by
  obtain ⟨_, _, r2, r3, r4⟩ := rw_good (ck_good hA)
  obtain ⟨p0, cap, rfl, hrw⟩ := frows_any A v w (ck_good hA) hr hv hn
  have HRw := Lib.hid hrw
  have HV := Lib.hid hv
  have HLen : Hid ((csF cntf 0 A).length = rwN A) := csF_len hA
  have HAt : Hid (∀ i, i < rwN A → (csF cntf 0 A)[i]? = some (fdL cntf 0 (rwI A i))) := fun i hi => csF_at hA hi
  have HRp : Hid (∀ (w' : World) (j : Nat), RdI w.heap.size w' (.slice p0 A.z.length cap) A.z → j < rwN A → ∃ q, rp p0 (rwM A) j = .slice q (rwM A) (rwM A) ∧ ∀ t, t < rwM A → ∃ bk off, q = some ⟨bk, off, none⟩ ∧ bk < w.heap.size ∧ w'.cell? ⟨bk, off + t, none⟩ = some (.int .i64 ((rwI A j).getD t 0))) := fun w' j h hj => frp_rd hA h hj
  have HIl : Hid (∀ j, j < rwN A → (rwI A j).length = rwM A) := fun j hj => rwI_len (ck_good hA) hj
  have HK := Lib.hid (KE.new w A (.slice p0 A.z.length cap))
  have x0 := HK.out.blk.c0; have x1 := HK.out.blk.c1; have x2 := HK.out.blk.c2; have x3 := HK.out.blk.c3; have x4 := HK.out.blk.c4
  clear hrw hv hn hA hr r2
  obtain ⟨n, hn⟩ : ∃ n, rwN A = n := ⟨_, rfl⟩
  obtain ⟨m, hm⟩ : ∃ m, rwM A = m := ⟨_, rfl⟩
  rw [hn] at r3 HRw HLen HAt HRp HIl
  rw [hm] at r4 HRw HRp HIl
  clear hn hm
  generalize hcs : csF cntf 0 A = cs at HLen HAt ⊢
  clear hcs
  go_enter Tryd.func69, Tryd.ntmps69
  go_wp2_with (first | (go_at_call 74; (with_reducible refine (HRw.out _).mono ?_); rintro e w1 ⟨h, rfl, hh, hrow, hb⟩; have HB1 := Lib.hid (HK.out.bel.trans (hb.mono HK.out.bel.size)); have HRow := Lib.hid hrow; have HV1 := Lib.hid (HV.out.below HB1.out); have hh1 : h < w1.heap.size := hrow.lt; clear hrow hb hh HK HV HRw x0 x1 x2 x3 x4) | fail)
  go_loopg [8, 18] n (fun gk u i wr => ∃ (j : Nat) (U : Value), j + gk = n ∧ U = u ∧ i = .int .i64 j ∧ okT cs j ∧ Ru.Ins 2 wr w1.heap.size U ((vsL cs).take j) ∧ Below w1.heap.size w1 wr)
  case atStart => exact ⟨0, _, by omega, rfl, rfl, okT_zero _, ins_nil _ _, Below.refl _ _⟩
  case round =>
    obtain ⟨j, u0, hjg, rfl, rfl, hok, hins, hbl⟩ := hrel
    obtain ⟨wo, rfl⟩ : ∃ wo, wo = wr := ⟨_, rfl⟩
    have HOk := Lib.hid hok
    have HIn := Lib.hid hins
    have HB := Lib.hid hbl
    clear hok hins hbl
    cases gk with
    | zero =>
      have hjz : ¬ ((j : Int) < (n : Int)) := by omega
      have hjn : j = n := by omega
      have HF : Hid (feL cs = 0) := by
        have h := HOk.out
        rw [hjn] at h
        exact okT_all h HLen.out
      have HR : Hid (RdN w.heap.size wo u0 (vsL cs)) := by
        have h := HIn.out
        rw [hjn, List.take_of_length_le (by rw [vsL_len, HLen.out]; exact Nat.le_refl _)] at h
        exact (ins_new h).mono HB1.out.size
      have HE := Lib.hid (HB1.out.trans (HB.out.mono HB1.out.size))
      clear HAt HRp HIl HRow HV1 HOk HIn hjn
      go_wp2
      go_ret2
      exact ⟨⟨_, by rw [HF.out]; rfl, fun _ => HR.out⟩, HE.out⟩
    | succ g2 =>
      have hjz : (j : Int) < (n : Int) := by omega
      have hj : j < n := by omega
      have hBs := HB.out.size
      have HBa : Hid (Below w.heap.size w wo) := HB1.out.trans (HB.out.mono HB1.out.size)
      have HVr : Hid (RdI w.heap.size wo (.slice p0 A.z.length cap) A.z) := HV1.out.below (HB.out.mono HB1.out.size)
      obtain ⟨q, hq, hcell⟩ := HRp.out wo j HVr.out hj
      have HCell := Lib.hid hcell
      have x0 : wo.cell? ⟨h, j, none⟩ = some (.slice q m m) := by rw [(HRow.out.of_block (HB.out.block h hh1)).cell hj, hq]
      have HAj := Lib.hid (HAt.out j hj)
      have hIl := HIl.out j hj
      generalize rwI A j = row at HCell HAj hIl
      have HIlr := Lib.hid hIl
      clear HRp HIl HVr hq hcell HAt hIl
      have hw0 : IntKind.i64.wrap ((j : Int) + 1) = (j : Int) + 1 := by rw [IntKind.wrap_i64]; omega
      go_wp2_with fail
      clear x0
      generalize hrs : fdL cntf 0 row = rs at HAj
      have HRs := Lib.hid hrs
      clear hrs
      go_loopg [11, 25] m (fun gk c i wt => ∃ (t : Nat) (x : Int), t + gk = m ∧ c = .int .i64 x ∧ i = .int .i64 t ∧ x = (t : Int) ∧ fdL cntf x (row.drop t) = rs ∧ Below wo.heap.size wo wt)
      case atStart => exact ⟨0, _, by omega, rfl, rfl, rfl, HRs.out, Below.refl _ _⟩
      case round =>
        obtain ⟨t, x, htg, rfl, rfl, hinv, hfd, hbt⟩ := hrel
        have HFd := Lib.hid hfd
        have HBt := Lib.hid hbt
        have HIv := Lib.hid hinv
        clear hfd hbt hinv
        cases gk with
        | zero =>
          have htz : ¬ ((t : Int) < (m : Int)) := by omega
          have HRx : Hid (cs[j]? = some (x, 0)) := by
            have h := HFd.out
            rw [fdL_end (by rw [HIlr.out]; omega)] at h
            rw [h]; exact HAj.out
          have HOk2 : Hid (okT cs (j + 1)) := okT_next HOk.out HRx.out
          have HSn : Hid ((vsL cs).take j ++ [x] = (vsL cs).take (j + 1)) := by
            unfold Hid
            rw [← takeI_snoc (by rw [vsL_len, HLen.out]; exact hj), vsL_at HRx.out]
          have hlt : ((vsL cs).take j).length ≤ 400 := by rw [List.length_take]; omega
          have HIn2 := Lib.hid (ins_next7 HIn.out HBt.out)
          have HB2 := Lib.hid (HB.out.trans (HBt.out.mono HB.out.size))
          clear HRs HAj HFd HIv HCell HIlr HOk HIn HRx HRow HV1 HBa
          go_wp2_with (at_builtin; refine wpList_app1 (by simp [Region.wanted]) _ _ rfl w1.heap.size _ _ rfl HIn2.out x rfl (by omega) (by have := HB2.out.size; omega) ?_; intro u2 w2 hu2 hb2; rw [HSn.out] at hu2; have HU2 := Lib.hid hu2; have HB3 := Lib.hid (HB2.out.trans hb2); clear hu2 hb2)
          go_roundg g2
          case measure => omega
          case rel => exact ⟨j + 1, _, by omega, rfl, by go_num, HOk2.out, HU2.out, HB3.out⟩
        | succ g3 =>
          have htz : (t : Int) < (m : Int) := by omega
          have ht : t < m := by omega
          obtain ⟨bk, off, rfl, hbk, hc0⟩ := HCell.out t ht
          have hc : wr.cell? ⟨bk, off + t, none⟩ = some (.int .i64 (row.getD t 0)) := (HBt.out.cell (p := ⟨bk, off + t, none⟩) (by have := HBa.out.size; show bk < _; omega)).trans hc0
          clear hc0
          have hst := HFd.out
          rw [fdL_at (by rw [HIlr.out]; exact ht)] at hst
          generalize row.getD t 0 = c at hc hst
          have hw1 : IntKind.i64.wrap ((t : Int) + 1) = (t : Int) + 1 := by rw [IntKind.wrap_i64]; omega
          have HCl : Hid (Calls Tryd.prog 70 #[.int .i64 x, .int .i64 c] wr fun e w' => e = .returned (.tuple #[.int .i64 (x + 1), .int .i64 0]) ∧ Below wr.heap.size wr w') := cnt1_any x c wr (by have := HIv.out; omega) (by have := HIv.out; omega)
          have HIx : Hid (x + 1 = ((t + 1 : Nat) : Int)) := by have := HIv.out; unfold Hid; omega
          have HSt2 : Hid (fdL cntf (x + 1) (row.drop (t + 1)) = rs) := hst
          clear hst HFd HAj HRs HIv
          go_wp2_with (first | (go_at_call 70; (with_reducible refine HCl.out.mono ?_); rintro e w2 ⟨rfl, hb⟩; have HB2 := Lib.hid (HBt.out.trans (hb.mono HBt.out.size)); clear hb HCl hc) | fail)
          go_roundg g3
          case measure => omega
          case rel => exact ⟨t + 1, x + 1, by omega, rfl, by go_num, HIx.out, HSt2.out, HB2.out⟩

end Go.Proofs.YthfpmpmhoegicaaDoor
namespace Go.Proofs.YthfpmpmhoegicaaDoor
open Go.RowKit

theorem RetE.lit {R : Ar} {E : Int} {w : World} {e : Ending} {w' : World} (h : RetE R E w e w') : ∃ q c, e = .returned (.tuple #[A5 R.k R.r R.a R.b (.slice q R.z.length c), .int .i64 E]) ∧ RdN w.heap.size w' (.slice q R.z.length c) R.z ∧ Below w.heap.size w w' := by
  obtain ⟨u, h1, h2, h3⟩ := h
  obtain ⟨q, c, e2, _⟩ := h2.form
  have e3 : u = .slice q R.z.length c := e2
  subst e3
  exact ⟨q, c, h1, h2, h3⟩

set_option maxRecDepth 100000 in
set_option maxHeartbeats 8000000 in
theorem fprim_any (p b : Int) (A : Ar) (v : Value) (w : World) (hw : Ru.Lay w) (hA : ck A = 0) (hr : A.r = 1 ∨ A.r = 2) (hv : RdI w.heap.size w v A.z) (hn : Ru.NilC v) (h64 : in64 A.z) (hb : Sc.inr b = true)
    (hst : ∀ x c, Sc.inr x = true → Sc.inr c = true → Sc.inr (Sc.twoV p x c).1 = true) :
    Calls Tryd.prog 48 #[.int .i64 p, .int .i64 b, A5 A.k A.r A.a A.b v] w (RetE (orNo (feL (csF (Sc.twoV p) b A)) (ofR A (vsL (csF (Sc.twoV p) b A)))) (feL (csF (Sc.twoV p) b A)) w) := by
  have HFd : Hid (∀ W, W.cell? ⟨w.heap.size, 0, none⟩ = some (.int .i64 p) → RdI W.heap.size W v A.z → Calls Tryd.prog 69 #[A5 A.k A.r A.a A.b v, .int .i64 b, .func (.func 72) #[] #[.pointer (some ⟨w.heap.size, 0, none⟩)]] W fun e w' => FdE W.heap.size (csF (Sc.twoV p) b A) e w' ∧ Below W.heap.size W w') := fun W h1 h2 => foldp_any p b w.heap.size A v W hA hr h2 hn h64 hb h1 hst
  have hln : (vsL (csF (Sc.twoV p) b A)).length = rwN A := by rw [vsL_len, csF_len hA]
  have hlz : (vsL (csF (Sc.twoV p) b A)).length ≤ 1000000 := by obtain ⟨_, _, _, q4, _⟩ := rw_good (ck_good hA); omega
  have hck := ofR_ck (ck_good hA) hr hln
  have HOr : Hid (∀ (u : Value) W, Ru.Lay W → RdI W.heap.size W v A.z → RdI W.heap.size W u (vsL (csF (Sc.twoV p) b A)) → Calls Tryd.prog 71 #[A5 A.k A.r A.a A.b v, u] W (RetE (ofR A (vsL (csF (Sc.twoV p) b A))) 0 W)) := fun u W h1 h2 h3 => ofrows_any A v u _ W h1 h2 h3 hlz hck
  have HK := Lib.hid (KOn.new (A := A) p hw hv)
  have x0 := HK.out.box.c0; have x1 := HK.out.box.c1; have x2 := HK.out.box.c2; have x3 := HK.out.box.c3; have x4 := HK.out.box.c4; have xp := HK.out.pb
  clear hA hr hn h64 hb hst hln hlz hck hw
  obtain ⟨p0, cap, rfl, hcap, hcap2, hcell⟩ := hv
  clear hcell
  generalize csF (Sc.twoV p) b A = cs at HFd HOr ⊢
  generalize ofR A (vsL cs) = R at HOr ⊢
  unfold FdE at HFd
  by_cases h1 : feL cs = 0
  · rw [orNo_yes h1, h1]
    rw [h1] at HFd
    clear h1
    obtain ⟨R1, R2, R3, R4, rz⟩ := R
    go_enter Tryd.func48, Tryd.ntmps48
    go_wp2_with (first
      | (go_at_call 69; (with_reducible refine (HFd.out _ HK.out.pb HK.out.rd).mono ?_); rintro e w1 ⟨⟨u, rfl, hu⟩, hb⟩; have HU := Lib.hid ((hu rfl).rd); have HK2 := Lib.hid (HK.out.next hb); clear HK x0 x1 x2 x3 x4; have HK := HK2; clear HK2; have x0 := HK.out.box.c0; have x1 := HK.out.box.c1; have x2 := HK.out.box.c2; have x3 := HK.out.box.c3; have x4 := HK.out.box.c4; clear hu hb xp)
      | (go_at_call 71; (with_reducible refine (HOr.out _ _ HK.out.lay HK.out.rd HU.out).mono ?_); intro e w2 hret; obtain ⟨q, qc, rfl, hu, hb⟩ := hret.lit; have HR := Lib.hid hu; have hlt := HK.out.res.lt; have hge := HK.out.bel.size; have HK2 := Lib.hid (HK.out.next hb); clear HK x0 x1 x2 x3 x4; have HK := HK2; clear HK2; have x0 := HK.out.box.c0; have x1 := HK.out.box.c1; have x2 := HK.out.box.c2; have x3 := HK.out.box.c3; have x4 := HK.out.box.c4; clear hu hb HU hret; have y0 := HK.out.res.c0; have y1 := HK.out.res.c1; have y2 := HK.out.res.c2; have y3 := HK.out.res.c3; have y4 := HK.out.res.c4; have f0 := HK.out.res.fr 0; have f1 := HK.out.res.fr 1; have f2 := HK.out.res.fr 2; have f3 := HK.out.res.fr 3; have f4 := HK.out.res.fr 4; have HS := Lib.hid (HK.out.res.set R1 R2 R3 R4 (.slice q rz.length qc)); have z0 := HS.out.c0; have z1 := HS.out.c1; have z2 := HS.out.c2; have z3 := HS.out.c3; have z4 := HS.out.c4)
      | fail)
    refine bodyPost_ret (v := .tuple #[A5 R1 R2 R3 R4 (.slice q rz.length qc), .int .i64 0]) (by simp [results, Tryd.results48, go_sem, z0, z1, z2, z3, z4]) rfl ?_
    exact ⟨_, rfl, (HR.out.st5 (by omega) _ _ _ _ _).mono (by omega), st5_below _ _ _ _ _ (by omega) HK.out.bel⟩
  · rw [orNo_no h1]
    generalize feL cs = E at HFd h1 ⊢
    have k1 : (E != 0) = true := by simpa using h1
    clear h1 HOr
    go_enter Tryd.func48, Tryd.ntmps48
    go_wp2_with (first | (go_at_call 69; (with_reducible refine (HFd.out _ HK.out.pb HK.out.rd).mono ?_); rintro e w1 ⟨⟨u, rfl, hu⟩, hb⟩; have HK2 := Lib.hid (HK.out.next hb); clear HK x0 x1 x2 x3 x4; have HK := HK2; clear HK2; have x0 := HK.out.box.c0; have x1 := HK.out.box.c1; have x2 := HK.out.box.c2; have x3 := HK.out.box.c3; have x4 := HK.out.box.c4; clear hu hb xp; have y0 := HK.out.res.c0; have y1 := HK.out.res.c1; have y2 := HK.out.res.c2; have y3 := HK.out.res.c3; have y4 := HK.out.res.c4; have f0 := HK.out.res.fr 0; have f1 := HK.out.res.fr 1; have f2 := HK.out.res.fr 2; have f3 := HK.out.res.fr 3; have f4 := HK.out.res.fr 4; have HS := Lib.hid (HK.out.res.set 0 0 0 0 (.slice none 0 0)); have z0 := HS.out.c0; have z1 := HS.out.c1; have z2 := HS.out.c2; have z3 := HS.out.c3; have z4 := HS.out.c4) | fail)
    exact bodyPost_ret (v := .tuple #[A5 0 0 0 0 (.slice none 0 0), .int .i64 E]) (by simp [results, Tryd.results48, go_sem, z0, z1, z2, z3, z4]) rfl (retE_no _ (st5_below _ _ _ _ _ (by omega) HK.out.bel))

theorem st_sum (x c : Int) (_ : Sc.inr x = true) (_ : Sc.inr c = true) : Sc.inr (Sc.twoV 15 x c).1 = true := by
  show Sc.inr (Sc.fit (x + c)) = true
  unfold Sc.fit; split
  · assumption
  · decide
theorem st_mm {p : Int} (hp : p = 31 ∨ p = 32) (x c : Int) (hx : Sc.inr x = true) (hc : Sc.inr c = true) : Sc.inr (Sc.twoV p x c).1 = true := by
  rw [mm_two hp]
  show Sc.inr (mm p x c) = true
  unfold mm
  have h1 := Sc.inr_iff.1 hx
  have h2 := Sc.inr_iff.1 hc
  rw [Sc.inr_iff]
  split <;> omega
set_option maxRecDepth 100000 in
set_option maxHeartbeats 8000000 in
theorem fsum_any (A : Ar) (v : Value) (w : World) (hw : Ru.Lay w) (hv : RdI w.heap.size w v A.z) (hn : Ru.NilC v) (hl : A.z.length ≤ 1000000) (h64 : in64 A.z) :
    Calls Tryd.prog 16 #[A5 A.k A.r A.a A.b v] w (RetE (smV A) (smE A) w) := by
  have HFa := Lib.hid (fun W h1 h2 => ffault_any (A.k == 1) A v W h1 h2 hl)
  have HK := Lib.hid (MK1.new (A := A) hw hv)
  have x0 := HK.out.box.c0; have x1 := HK.out.box.c1; have x2 := HK.out.box.c2; have x3 := HK.out.box.c3; have x4 := HK.out.box.c4
  unfold smV
  by_cases h1 : faE (A.k == 1) A = 0
  · obtain ⟨hA, hk, hr⟩ := faE_ok h1
    clear hk
    have HPr : Hid (∀ W, Ru.Lay W → RdI W.heap.size W v A.z → Calls Tryd.prog 48 #[.int .i64 15, .int .i64 0, A5 A.k A.r A.a A.b v] W (RetE (orNo (smE A) (ofR A (vsL ((rwL A).map sm1)))) (smE A) W)) := fun W h2 h3 => by
      have h := fprim_any 15 0 A v W h2 hA hr h3 hn h64 (by decide) st_sum
      rw [cs_sum] at h
      have e : smE A = feL ((rwL A).map sm1) := if_pos h1
      rw [e]; exact h
    rw [h1] at HFa
    generalize orNo (smE A) (ofR A (vsL ((rwL A).map sm1))) = R at HPr ⊢
    generalize smE A = E at HPr ⊢
    clear h1 hA hr hn h64 hw
    obtain ⟨p0, cap, rfl, hcap, hcap2, hcell⟩ := hv
    clear hcell
    obtain ⟨R1, R2, R3, R4, rz⟩ := R
    go_enter Tryd.func16, Tryd.ntmps16
    go_wp2_with (first
      | (go_at_call 47; (with_reducible refine (HFa.out _ HK.out.lay HK.out.rdn).mono ?_); rintro e w1 ⟨rfl, hb⟩; have HK2 := Lib.hid (HK.out.next hb); clear HK x0 x1 x2 x3 x4; have HK := HK2; clear HK2; have x0 := HK.out.box.c0; have x1 := HK.out.box.c1; have x2 := HK.out.box.c2; have x3 := HK.out.box.c3; have x4 := HK.out.box.c4; clear hb)
      | (go_at_call 48; (with_reducible refine (HPr.out _ HK.out.lay HK.out.rdn).mono ?_); intro e w2 hret; obtain ⟨q, qc, rfl, hu, hb⟩ := hret.lit; have HR := Lib.hid hu; have hlt := HK.out.res.lt; have hge := HK.out.bel.size; have HK2 := Lib.hid (HK.out.next hb); clear HK x0 x1 x2 x3 x4; have HK := HK2; clear HK2; have x0 := HK.out.box.c0; have x1 := HK.out.box.c1; have x2 := HK.out.box.c2; have x3 := HK.out.box.c3; have x4 := HK.out.box.c4; clear hu hb hret; have y0 := HK.out.res.c0; have y1 := HK.out.res.c1; have y2 := HK.out.res.c2; have y3 := HK.out.res.c3; have y4 := HK.out.res.c4; have f0 := HK.out.res.fr 0; have f1 := HK.out.res.fr 1; have f2 := HK.out.res.fr 2; have f3 := HK.out.res.fr 3; have f4 := HK.out.res.fr 4; have HS := Lib.hid (HK.out.res.set R1 R2 R3 R4 (.slice q rz.length qc)); have z0 := HS.out.c0; have z1 := HS.out.c1; have z2 := HS.out.c2; have z3 := HS.out.c3; have z4 := HS.out.c4)
      | fail)
    refine bodyPost_ret (v := .tuple #[A5 R1 R2 R3 R4 (.slice q rz.length qc), .int .i64 E]) (by simp [results, Tryd.results16, go_sem, z0, z1, z2, z3, z4]) rfl ?_
    exact ⟨_, rfl, (HR.out.st5 (by omega) _ _ _ _ _).mono (by omega), st5_below _ _ _ _ _ (by omega) HK.out.bel⟩
  · have e : smE A = faE (A.k == 1) A := if_neg h1
    rw [e, orNo_no h1]
    generalize faE (A.k == 1) A = E at HFa h1 ⊢
    have k1 : (E != 0) = true := by simpa using h1
    clear h1 e hn h64 hw
    obtain ⟨p0, cap, rfl, hcap, hcap2, hcell⟩ := hv
    clear hcell
    go_enter Tryd.func16, Tryd.ntmps16
    go_wp2_with (first | (go_at_call 47; (with_reducible refine (HFa.out _ HK.out.lay HK.out.rdn).mono ?_); rintro e w1 ⟨rfl, hb⟩; have HK2 := Lib.hid (HK.out.next hb); clear HK x0 x1 x2 x3 x4; have HK := HK2; clear HK2; have x0 := HK.out.box.c0; have x1 := HK.out.box.c1; have x2 := HK.out.box.c2; have x3 := HK.out.box.c3; have x4 := HK.out.box.c4; clear hb; have y0 := HK.out.res.c0; have y1 := HK.out.res.c1; have y2 := HK.out.res.c2; have y3 := HK.out.res.c3; have y4 := HK.out.res.c4; have f0 := HK.out.res.fr 0; have f1 := HK.out.res.fr 1; have f2 := HK.out.res.fr 2; have f3 := HK.out.res.fr 3; have f4 := HK.out.res.fr 4; have HS := Lib.hid (HK.out.res.set 0 0 0 0 (.slice none 0 0)); have z0 := HS.out.c0; have z1 := HS.out.c1; have z2 := HS.out.c2; have z3 := HS.out.c3; have z4 := HS.out.c4) | fail)
    exact bodyPost_ret (v := .tuple #[A5 0 0 0 0 (.slice none 0 0), .int .i64 E]) (by simp [results, Tryd.results16, go_sem, z0, z1, z2, z3, z4]) rfl (retE_no _ (st5_below _ _ _ _ _ (by omega) HK.out.bel))

set_option maxRecDepth 100000 in
set_option maxHeartbeats 8000000 in
theorem fend_any {p b : Int} (hp : p = 31 ∨ p = 32) (hbg : b = bgn p) (A : Ar) (v : Value) (w : World) (hw : Ru.Lay w) (hv : RdI w.heap.size w v A.z) (hn : Ru.NilC v) (hl : A.z.length ≤ 1000000) (h64 : in64 A.z) :
    Calls Tryd.prog 49 #[.int .i64 p, .int .i64 b, A5 A.k A.r A.a A.b v] w (RetE (enV p A) (enE A) w) := by
  subst hbg
  have HFa := Lib.hid (fun W h1 h2 => ffault_any (A.k == 1) A v W h1 h2 hl)
  have HK := Lib.hid (MK1.new (A := A) hw hv)
  have x0 := HK.out.box.c0; have x1 := HK.out.box.c1; have x2 := HK.out.box.c2; have x3 := HK.out.box.c3; have x4 := HK.out.box.c4
  unfold enV
  by_cases h1 : faE (A.k == 1) A = 0
  · obtain ⟨hA, hk, hr⟩ := faE_ok h1
    clear hk
    obtain ⟨_, _, r2, r3, r4⟩ := rw_good (ck_good hA)
    have e0 : enE A = (if 0 < rwN A ∧ rwM A = 0 then 13 else 0) := if_pos h1
    have HPr : Hid (∀ W, ¬ (0 < rwN A ∧ rwM A = 0) → Ru.Lay W → RdI W.heap.size W v A.z → Calls Tryd.prog 48 #[.int .i64 p, .int .i64 (bgn p), A5 A.k A.r A.a A.b v] W (RetE (ofR A ((rwL A).map (en1 p))) 0 W)) := fun W hm h2 h3 => by
      have h := fprim_any p (bgn p) A v W h2 hA hr h3 hn h64 (by rcases hp with rfl | rfl <;> decide) (st_mm hp)
      rw [cs_end hp hA h64 hm, feL_pure, vsL_pure, orNo_yes rfl] at h
      exact h
    rw [e0]
    rw [h1] at HFa
    obtain ⟨p0, cap, rfl, hrw⟩ := frows_any A v w (ck_good hA) hr hv hn
    have HRw := Lib.hid hrw
    have hpos : ∀ j, j < rwN A → ∃ q, rp p0 (rwM A) j = .slice q (rwM A) (rwM A) := fun j hj => by
      obtain ⟨q, hq, _⟩ := frp_rd hA hv hj
      exact ⟨q, hq⟩
    have HPos := Lib.hid hpos
    clear hrw hpos
    obtain ⟨n, hn'⟩ : ∃ n, rwN A = n := ⟨_, rfl⟩
    obtain ⟨m, hm'⟩ : ∃ m, rwM A = m := ⟨_, rfl⟩
    rw [hn'] at r3 HRw HPr HPos ⊢
    rw [hm'] at r4 HRw HPr HPos ⊢
    clear hn' hm' h1 hA hr hn h64 hw e0 r2
    obtain ⟨p', cap', hpe, hcap, hcap2, hcell⟩ := hv
    cases hpe
    clear hcell
    by_cases hz : 0 < n ∧ m = 0
    · obtain ⟨hn0, rfl⟩ := hz
      rw [if_pos ⟨hn0, rfl⟩, orNo_no (by decide)]
      clear HPr
      go_enter Tryd.func49, Tryd.ntmps49
      go_wp2_with (first | (go_at_call 47; (with_reducible refine (HFa.out _ HK.out.lay HK.out.rdn).mono ?_); rintro e w1 ⟨rfl, hb⟩; have HK2 := Lib.hid (HK.out.next hb); clear HK x0 x1 x2 x3 x4; have HK := HK2; clear HK2; have x0 := HK.out.box.c0; have x1 := HK.out.box.c1; have x2 := HK.out.box.c2; have x3 := HK.out.box.c3; have x4 := HK.out.box.c4; clear hb) | (go_at_call 74; (with_reducible refine (HRw.out _).mono ?_); rintro e w2 ⟨h, rfl, hh, hrow, hb⟩; have HRow := Lib.hid hrow; have HK2 := Lib.hid (HK.out.next hb); clear HK x0 x1 x2 x3 x4; have HK := HK2; clear HK2; have x0 := HK.out.box.c0; have x1 := HK.out.box.c1; have x2 := HK.out.box.c2; have x3 := HK.out.box.c3; have x4 := HK.out.box.c4; clear hb hrow hh) | fail)
      go_loopg [23] n (fun gk i wr => i = .int .i64 0 ∧ gk = n ∧ w2 = wr)
      case atStart => exact ⟨rfl, rfl, rfl⟩
      case round =>
        obtain ⟨rfl, hgk, rfl⟩ := hrel
        cases gk with
        | zero => omega
        | succ g2 =>
          have hjz : (0 : Int) < (n : Int) := by omega
          obtain ⟨q, hq⟩ := HPos.out 0 hn0
          have y0 : w2.cell? ⟨h, 0, none⟩ = some (.slice q 0 0) := by rw [HRow.out.cell hn0, hq]
          clear hq hgk
          have v0 := HK.out.res.c0; have v1 := HK.out.res.c1; have v2 := HK.out.res.c2; have v3 := HK.out.res.c3; have v4 := HK.out.res.c4; have f0 := HK.out.res.fr 0; have f1 := HK.out.res.fr 1; have f2 := HK.out.res.fr 2; have f3 := HK.out.res.fr 3; have f4 := HK.out.res.fr 4; have HS := Lib.hid (HK.out.res.set 0 0 0 0 (.slice none 0 0)); have z0 := HS.out.c0; have z1 := HS.out.c1; have z2 := HS.out.c2; have z3 := HS.out.c3; have z4 := HS.out.c4
          go_wp2_with fail
          exact bodyPost_ret (v := .tuple #[A5 0 0 0 0 (.slice none 0 0), .int .i64 13]) (by simp [results, Tryd.results49, go_sem, z0, z1, z2, z3, z4]) rfl (retE_no _ (st5_below _ _ _ _ _ (by omega) HK.out.bel))
    · rw [if_neg hz, orNo_yes rfl]
      have HPr2 : Hid (∀ W, Ru.Lay W → RdI W.heap.size W (.slice p0 A.z.length cap) A.z → Calls Tryd.prog 48 #[.int .i64 p, .int .i64 (bgn p), A5 A.k A.r A.a A.b (.slice p0 A.z.length cap)] W (RetE (ofR A ((rwL A).map (en1 p))) 0 W)) := fun W => HPr.out W hz
      generalize ofR A ((rwL A).map (en1 p)) = R at HPr2 ⊢
      obtain ⟨R1, R2, R3, R4, rz⟩ := R
      clear HPr
      generalize bgn p = bg at HPr2 ⊢
      go_enter Tryd.func49, Tryd.ntmps49
      go_wp2_with (first | (go_at_call 47; (with_reducible refine (HFa.out _ HK.out.lay HK.out.rdn).mono ?_); rintro e w1 ⟨rfl, hb⟩; have HK2 := Lib.hid (HK.out.next hb); clear HK x0 x1 x2 x3 x4; have HK := HK2; clear HK2; have x0 := HK.out.box.c0; have x1 := HK.out.box.c1; have x2 := HK.out.box.c2; have x3 := HK.out.box.c3; have x4 := HK.out.box.c4; clear hb) | (go_at_call 74; (with_reducible refine (HRw.out _).mono ?_); rintro e w2 ⟨h, rfl, hh, hrow, hb⟩; have HRow := Lib.hid hrow; have HK2 := Lib.hid (HK.out.next hb); clear HK x0 x1 x2 x3 x4; have HK := HK2; clear HK2; have x0 := HK.out.box.c0; have x1 := HK.out.box.c1; have x2 := HK.out.box.c2; have x3 := HK.out.box.c3; have x4 := HK.out.box.c4; clear hb hrow hh) | fail)
      go_loopg [23] n (fun gk i wr => ∃ j : Nat, j + gk = n ∧ i = .int .i64 j ∧ w2 = wr)
      case atStart => exact ⟨0, by omega, rfl, rfl⟩
      case round =>
        obtain ⟨j, hjg, rfl, rfl⟩ := hrel
        cases gk with
        | zero =>
          have hjz : ¬ ((j : Int) < (n : Int)) := by omega
          clear hz HRow HPos
          go_wp2_with (first | (go_at_call 48; (with_reducible refine (HPr2.out _ HK.out.lay HK.out.rdn).mono ?_); intro e w3 hret; obtain ⟨q, qc, rfl, hu, hb⟩ := hret.lit; have HR := Lib.hid hu; have hlt := HK.out.res.lt; have hge := HK.out.bel.size; have HK2 := Lib.hid (HK.out.next hb); clear HK x0 x1 x2 x3 x4; have HK := HK2; clear HK2; have x0 := HK.out.box.c0; have x1 := HK.out.box.c1; have x2 := HK.out.box.c2; have x3 := HK.out.box.c3; have x4 := HK.out.box.c4; clear hu hb hret; have y0 := HK.out.res.c0; have y1 := HK.out.res.c1; have y2 := HK.out.res.c2; have y3 := HK.out.res.c3; have y4 := HK.out.res.c4; have f0 := HK.out.res.fr 0; have f1 := HK.out.res.fr 1; have f2 := HK.out.res.fr 2; have f3 := HK.out.res.fr 3; have f4 := HK.out.res.fr 4; have HS := Lib.hid (HK.out.res.set R1 R2 R3 R4 (.slice q rz.length qc)); have z0 := HS.out.c0; have z1 := HS.out.c1; have z2 := HS.out.c2; have z3 := HS.out.c3; have z4 := HS.out.c4) | fail)
          refine bodyPost_ret (v := .tuple #[A5 R1 R2 R3 R4 (.slice q rz.length qc), .int .i64 0]) (by simp [results, Tryd.results49, go_sem, z0, z1, z2, z3, z4]) rfl ?_
          exact ⟨_, rfl, (HR.out.st5 (by omega) _ _ _ _ _).mono (by omega), st5_below _ _ _ _ _ (by omega) HK.out.bel⟩
        | succ g2 =>
          have hjz : (j : Int) < (n : Int) := by omega
          have hj : j < n := by omega
          have hm0 : ¬ m = 0 := fun e => hz ⟨by omega, e⟩
          have k3 : ((m : Int) == 0) = false := by rw [beq_eq_false_iff_ne]; omega
          obtain ⟨q, hq⟩ := HPos.out j hj
          have y0 : w2.cell? ⟨h, j, none⟩ = some (.slice q m m) := by rw [HRow.out.cell hj, hq]
          have hw0 : IntKind.i64.wrap ((j : Int) + 1) = (j : Int) + 1 := by rw [IntKind.wrap_i64]; omega
          clear hq hz hm0
          go_wp2_with fail
          go_roundg g2
          case measure => omega
          case rel => exact ⟨j + 1, by omega, by go_num, rfl⟩
  · have e : enE A = faE (A.k == 1) A := if_neg h1
    rw [e, orNo_no h1]
    generalize faE (A.k == 1) A = E at HFa h1 ⊢
    have k1 : (E != 0) = true := by simpa using h1
    clear h1 e hn h64 hw
    obtain ⟨p0, cap, rfl, hcap, hcap2, hcell⟩ := hv
    clear hcell
    go_enter Tryd.func49, Tryd.ntmps49
    go_wp2_with (first | (go_at_call 47; (with_reducible refine (HFa.out _ HK.out.lay HK.out.rdn).mono ?_); rintro e w1 ⟨rfl, hb⟩; have HK2 := Lib.hid (HK.out.next hb); clear HK x0 x1 x2 x3 x4; have HK := HK2; clear HK2; have x0 := HK.out.box.c0; have x1 := HK.out.box.c1; have x2 := HK.out.box.c2; have x3 := HK.out.box.c3; have x4 := HK.out.box.c4; clear hb; have y0 := HK.out.res.c0; have y1 := HK.out.res.c1; have y2 := HK.out.res.c2; have y3 := HK.out.res.c3; have y4 := HK.out.res.c4; have f0 := HK.out.res.fr 0; have f1 := HK.out.res.fr 1; have f2 := HK.out.res.fr 2; have f3 := HK.out.res.fr 3; have f4 := HK.out.res.fr 4; have HS := Lib.hid (HK.out.res.set 0 0 0 0 (.slice none 0 0)); have z0 := HS.out.c0; have z1 := HS.out.c1; have z2 := HS.out.c2; have z3 := HS.out.c3; have z4 := HS.out.c4) | fail)
    exact bodyPost_ret (v := .tuple #[A5 0 0 0 0 (.slice none 0 0), .int .i64 E]) (by simp [results, Tryd.results49, go_sem, z0, z1, z2, z3, z4]) rfl (retE_no _ (st5_below _ _ _ _ _ (by omega) HK.out.bel))

set_option maxRecDepth 100000 in
set_option maxHeartbeats 8000000 in
theorem fleast_any (A : Ar) (v : Value) (w : World) (hw : Ru.Lay w) (hv : RdI w.heap.size w v A.z) (hn : Ru.NilC v) (hl : A.z.length ≤ 1000000) (h64 : in64 A.z) :
    Calls Tryd.prog 17 #[A5 A.k A.r A.a A.b v] w (RetE (enV 31 A) (enE A) w) := by
  have HPr : Hid (∀ W, Ru.Lay W → RdI W.heap.size W v A.z → Calls Tryd.prog 49 #[.int .i64 31, .int .i64 9223372036854775807, A5 A.k A.r A.a A.b v] W (RetE (enV 31 A) (enE A) W)) := fun W h2 h3 => fend_any (p := 31) (by omega) rfl A v W h2 h3 hn hl h64
  have HK := Lib.hid (MK1.new (A := A) hw hv)
  have x0 := HK.out.box.c0; have x1 := HK.out.box.c1; have x2 := HK.out.box.c2; have x3 := HK.out.box.c3; have x4 := HK.out.box.c4
  generalize enV 31 A = R at HPr ⊢
  generalize enE A = E at HPr ⊢
  clear hn h64 hw
  obtain ⟨p0, cap, rfl, hcap, hcap2, hcell⟩ := hv
  clear hcell
  obtain ⟨R1, R2, R3, R4, rz⟩ := R
  go_enter Tryd.func17, Tryd.ntmps17
  go_wp2_with (first
    | (go_at_call 49; (with_reducible refine (HPr.out _ HK.out.lay HK.out.rdn).mono ?_); intro e w2 hret; obtain ⟨q, qc, rfl, hu, hb⟩ := hret.lit; have HR := Lib.hid hu; have hlt := HK.out.res.lt; have hge := HK.out.bel.size; have HK2 := Lib.hid (HK.out.next hb); clear HK x0 x1 x2 x3 x4; have HK := HK2; clear HK2; have x0 := HK.out.box.c0; have x1 := HK.out.box.c1; have x2 := HK.out.box.c2; have x3 := HK.out.box.c3; have x4 := HK.out.box.c4; clear hu hb hret; have y0 := HK.out.res.c0; have y1 := HK.out.res.c1; have y2 := HK.out.res.c2; have y3 := HK.out.res.c3; have y4 := HK.out.res.c4; have f0 := HK.out.res.fr 0; have f1 := HK.out.res.fr 1; have f2 := HK.out.res.fr 2; have f3 := HK.out.res.fr 3; have f4 := HK.out.res.fr 4; have HS := Lib.hid (HK.out.res.set R1 R2 R3 R4 (.slice q rz.length qc)); have z0 := HS.out.c0; have z1 := HS.out.c1; have z2 := HS.out.c2; have z3 := HS.out.c3; have z4 := HS.out.c4)
    | fail)
  refine bodyPost_ret (v := .tuple #[A5 R1 R2 R3 R4 (.slice q rz.length qc), .int .i64 E]) (by simp [results, Tryd.results17, go_sem, z0, z1, z2, z3, z4]) rfl ?_
  exact ⟨_, rfl, (HR.out.st5 (by omega) _ _ _ _ _).mono (by omega), st5_below _ _ _ _ _ (by omega) HK.out.bel⟩

set_option maxRecDepth 100000 in
set_option maxHeartbeats 8000000 in
theorem fmost_any (A : Ar) (v : Value) (w : World) (hw : Ru.Lay w) (hv : RdI w.heap.size w v A.z) (hn : Ru.NilC v) (hl : A.z.length ≤ 1000000) (h64 : in64 A.z) :
    Calls Tryd.prog 18 #[A5 A.k A.r A.a A.b v] w (RetE (enV 32 A) (enE A) w) := by
  have HPr : Hid (∀ W, Ru.Lay W → RdI W.heap.size W v A.z → Calls Tryd.prog 49 #[.int .i64 32, .int .i64 (-9223372036854775808), A5 A.k A.r A.a A.b v] W (RetE (enV 32 A) (enE A) W)) := fun W h2 h3 => fend_any (p := 32) (by omega) rfl A v W h2 h3 hn hl h64
  have HK := Lib.hid (MK1.new (A := A) hw hv)
  have x0 := HK.out.box.c0; have x1 := HK.out.box.c1; have x2 := HK.out.box.c2; have x3 := HK.out.box.c3; have x4 := HK.out.box.c4
  generalize enV 32 A = R at HPr ⊢
  generalize enE A = E at HPr ⊢
  clear hn h64 hw
  obtain ⟨p0, cap, rfl, hcap, hcap2, hcell⟩ := hv
  clear hcell
  obtain ⟨R1, R2, R3, R4, rz⟩ := R
  go_enter Tryd.func18, Tryd.ntmps18
  go_wp2_with (first
    | (go_at_call 49; (with_reducible refine (HPr.out _ HK.out.lay HK.out.rdn).mono ?_); intro e w2 hret; obtain ⟨q, qc, rfl, hu, hb⟩ := hret.lit; have HR := Lib.hid hu; have hlt := HK.out.res.lt; have hge := HK.out.bel.size; have HK2 := Lib.hid (HK.out.next hb); clear HK x0 x1 x2 x3 x4; have HK := HK2; clear HK2; have x0 := HK.out.box.c0; have x1 := HK.out.box.c1; have x2 := HK.out.box.c2; have x3 := HK.out.box.c3; have x4 := HK.out.box.c4; clear hu hb hret; have y0 := HK.out.res.c0; have y1 := HK.out.res.c1; have y2 := HK.out.res.c2; have y3 := HK.out.res.c3; have y4 := HK.out.res.c4; have f0 := HK.out.res.fr 0; have f1 := HK.out.res.fr 1; have f2 := HK.out.res.fr 2; have f3 := HK.out.res.fr 3; have f4 := HK.out.res.fr 4; have HS := Lib.hid (HK.out.res.set R1 R2 R3 R4 (.slice q rz.length qc)); have z0 := HS.out.c0; have z1 := HS.out.c1; have z2 := HS.out.c2; have z3 := HS.out.c3; have z4 := HS.out.c4)
    | fail)
  refine bodyPost_ret (v := .tuple #[A5 R1 R2 R3 R4 (.slice q rz.length qc), .int .i64 E]) (by simp [results, Tryd.results18, go_sem, z0, z1, z2, z3, z4]) rfl ?_
  exact ⟨_, rfl, (HR.out.st5 (by omega) _ _ _ _ _).mono (by omega), st5_below _ _ _ _ _ (by omega) HK.out.bel⟩

set_option maxRecDepth 100000 in
set_option maxHeartbeats 8000000 in
theorem fcount_any (A : Ar) (v : Value) (w : World) (hw : Ru.Lay w) (hv : RdI w.heap.size w v A.z) (hn : Ru.NilC v) (hl : A.z.length ≤ 1000000) :
    Calls Tryd.prog 44 #[A5 A.k A.r A.a A.b v] w (RetE (cntV A) (cntE A) w) := by
  have HFa := Lib.hid (fun W h1 h2 => ffault_any true A v W h1 h2 hl)
  have HK := Lib.hid (MK1.new (A := A) hw hv)
  have x0 := HK.out.box.c0; have x1 := HK.out.box.c1; have x2 := HK.out.box.c2; have x3 := HK.out.box.c3; have x4 := HK.out.box.c4
  unfold cntV cntE
  by_cases h1 : faE true A = 0
  · obtain ⟨hA, _, hr⟩ := faE_ok h1
    have HFd : Hid (∀ W, RdI W.heap.size W v A.z → Calls Tryd.prog 69 #[A5 A.k A.r A.a A.b v, .int .i64 0, .func (.func 70) #[] #[]] W fun e w' => (∃ u, e = .returned (.tuple #[u, .int .i64 0]) ∧ RdN W.heap.size w' u (List.replicate (rwN A) (rwM A : Int))) ∧ Below W.heap.size W w') := fun W h2 => by
      refine (foldc_any A v W hA hr h2 hn).mono ?_
      rintro e w' ⟨⟨u, h3, h4⟩, hb⟩
      rw [cs_cnt hA, feL_pure (List.range (rwN A)) (fun _ => (rwM A : Int)), vsL_pure (List.range (rwN A)) (fun _ => (rwM A : Int)), List.map_const', List.length_range] at h4
      rw [cs_cnt hA, feL_pure (List.range (rwN A)) (fun _ => (rwM A : Int))] at h3
      exact ⟨⟨u, h3, h4 rfl⟩, hb⟩
    have hln : (List.replicate (rwN A) (rwM A : Int)).length = rwN A := List.length_replicate
    have hlz : (List.replicate (rwN A) (rwM A : Int)).length ≤ 1000000 := by obtain ⟨_, _, _, q4, _⟩ := rw_good (ck_good hA); omega
    have hck := ofR_ck (ck_good hA) hr hln
    have HOr : Hid (∀ (u : Value) W, Ru.Lay W → RdI W.heap.size W v A.z → RdI W.heap.size W u (List.replicate (rwN A) (rwM A : Int)) → Calls Tryd.prog 71 #[A5 A.k A.r A.a A.b v, u] W (RetE (ofR A (List.replicate (rwN A) (rwM A : Int))) 0 W)) := fun u W h1 h2 h3 => ofrows_any A v u _ W h1 h2 h3 hlz hck
    rw [orNo_yes h1, h1]
    rw [h1] at HFa
    generalize List.replicate (rwN A) (rwM A : Int) = L at HFd HOr ⊢
    generalize ofR A L = R at HOr ⊢
    clear h1 hA hr hn hw hln hlz hck
    obtain ⟨p0, cap, rfl, hcap, hcap2, hcell⟩ := hv
    clear hcell
    obtain ⟨R1, R2, R3, R4, rz⟩ := R
    go_enter Tryd.func44, Tryd.ntmps44
    go_wp2_with (first
      | (go_at_call 47; (with_reducible refine (HFa.out _ HK.out.lay HK.out.rdn).mono ?_); rintro e w1 ⟨rfl, hb⟩; have HK2 := Lib.hid (HK.out.next hb); clear HK x0 x1 x2 x3 x4; have HK := HK2; clear HK2; have x0 := HK.out.box.c0; have x1 := HK.out.box.c1; have x2 := HK.out.box.c2; have x3 := HK.out.box.c3; have x4 := HK.out.box.c4; clear hb)
      | (go_at_call 69; (with_reducible refine (HFd.out _ HK.out.rdn).mono ?_); rintro e w1 ⟨⟨u, rfl, hu⟩, hb⟩; have HU := Lib.hid hu.rd; have HK2 := Lib.hid (HK.out.next hb); clear HK x0 x1 x2 x3 x4; have HK := HK2; clear HK2; have x0 := HK.out.box.c0; have x1 := HK.out.box.c1; have x2 := HK.out.box.c2; have x3 := HK.out.box.c3; have x4 := HK.out.box.c4; clear hu hb)
      | (go_at_call 71; (with_reducible refine (HOr.out _ _ HK.out.lay HK.out.rdn HU.out).mono ?_); intro e w2 hret; obtain ⟨q, qc, rfl, hu, hb⟩ := hret.lit; have HR := Lib.hid hu; have hlt := HK.out.res.lt; have hge := HK.out.bel.size; have HK2 := Lib.hid (HK.out.next hb); clear HK x0 x1 x2 x3 x4; have HK := HK2; clear HK2; have x0 := HK.out.box.c0; have x1 := HK.out.box.c1; have x2 := HK.out.box.c2; have x3 := HK.out.box.c3; have x4 := HK.out.box.c4; clear hu hb HU hret; have y0 := HK.out.res.c0; have y1 := HK.out.res.c1; have y2 := HK.out.res.c2; have y3 := HK.out.res.c3; have y4 := HK.out.res.c4; have f0 := HK.out.res.fr 0; have f1 := HK.out.res.fr 1; have f2 := HK.out.res.fr 2; have f3 := HK.out.res.fr 3; have f4 := HK.out.res.fr 4; have HS := Lib.hid (HK.out.res.set R1 R2 R3 R4 (.slice q rz.length qc)); have z0 := HS.out.c0; have z1 := HS.out.c1; have z2 := HS.out.c2; have z3 := HS.out.c3; have z4 := HS.out.c4)
      | fail)
    refine bodyPost_ret (v := .tuple #[A5 R1 R2 R3 R4 (.slice q rz.length qc), .int .i64 0]) (by simp [results, Tryd.results44, go_sem, z0, z1, z2, z3, z4]) rfl ?_
    exact ⟨_, rfl, (HR.out.st5 (by omega) _ _ _ _ _).mono (by omega), st5_below _ _ _ _ _ (by omega) HK.out.bel⟩
  · rw [orNo_no h1]
    generalize faE true A = E at HFa h1 ⊢
    have k1 : (E != 0) = true := by simpa using h1
    clear h1 hn hw
    obtain ⟨p0, cap, rfl, hcap, hcap2, hcell⟩ := hv
    clear hcell
    go_enter Tryd.func44, Tryd.ntmps44
    go_wp2_with (first | (go_at_call 47; (with_reducible refine (HFa.out _ HK.out.lay HK.out.rdn).mono ?_); rintro e w1 ⟨rfl, hb⟩; have HK2 := Lib.hid (HK.out.next hb); clear HK x0 x1 x2 x3 x4; have HK := HK2; clear HK2; have x0 := HK.out.box.c0; have x1 := HK.out.box.c1; have x2 := HK.out.box.c2; have x3 := HK.out.box.c3; have x4 := HK.out.box.c4; clear hb; have y0 := HK.out.res.c0; have y1 := HK.out.res.c1; have y2 := HK.out.res.c2; have y3 := HK.out.res.c3; have y4 := HK.out.res.c4; have f0 := HK.out.res.fr 0; have f1 := HK.out.res.fr 1; have f2 := HK.out.res.fr 2; have f3 := HK.out.res.fr 3; have f4 := HK.out.res.fr 4; have HS := Lib.hid (HK.out.res.set 0 0 0 0 (.slice none 0 0)); have z0 := HS.out.c0; have z1 := HS.out.c1; have z2 := HS.out.c2; have z3 := HS.out.c3; have z4 := HS.out.c4) | fail)
    exact bodyPost_ret (v := .tuple #[A5 0 0 0 0 (.slice none 0 0), .int .i64 E]) (by simp [results, Tryd.results44, go_sem, z0, z1, z2, z3, z4]) rfl (retE_no _ (st5_below _ _ _ _ _ (by omega) HK.out.bel))
end Go.Proofs.YthfpmpmhoegicaaDoor
namespace Go.Proofs.YthfpmpmhoegicaaDoor
open Go.RowKit

/-- A block that holds the sums so far. -/
def S2 (w : World) (g : Nat) (x : Int) (u : Value) : Prop := w.heap[g]? = some (.cells #[.int .i64 x, u] 72 (0, 0))
theorem S2.c0 {w : World} {g : Nat} {x : Int} {u : Value} (h : S2 w g x u) : w.cell? ⟨g, 0, none⟩ = some (.int .i64 x) := by unfold S2 at h; simp [World.cell?, h]
theorem S2.c1 {w : World} {g : Nat} {x : Int} {u : Value} (h : S2 w g x u) : w.cell? ⟨g, 1, none⟩ = some u := by unfold S2 at h; simp [World.cell?, h]
theorem S2.fr {w : World} {g : Nat} {x : Int} {u : Value} (h : S2 w g x u) (i : Nat) : w.frozen? ⟨g, i, none⟩ = false := Lib.frozen_of_heap h i
theorem S2.lt {w : World} {g : Nat} {x : Int} {u : Value} (h : S2 w g x u) : g < w.heap.size := (Array.getElem?_eq_some_iff.1 h).1
theorem S2.next {w w' : World} {g : Nat} {x : Int} {u : Value} (h : S2 w g x u) (hb : Below w.heap.size w w') : S2 w' g x u := (hb.block g h.lt).trans h
theorem S2.new (w : World) (x : Int) (u : Value) : S2 (w.alloc (.cells #[.int .i64 x, u] 72)) w.heap.size x u := heap_alloc_last w _
abbrev st2 (w : World) (g : Nat) (x : Int) (u : Value) : World := (w.setCell ⟨g, 0, none⟩ (.int .i64 x)).setCell ⟨g, 1, none⟩ u
theorem S2.set {w : World} {g : Nat} {x : Int} {u : Value} (h : S2 w g x u) (y : Int) (v : Value) : S2 (st2 w g y v) g y v := by
  unfold S2 at h ⊢
  simp [World.setCell, Array.getElem?_modify, h]
theorem st2_other {w : World} {g : Nat} (x : Int) (u : Value) {c : Nat} (hc : c ≠ g) : (st2 w g x u).heap[c]? = w.heap[c]? := by
  have : g ≠ c := fun e => hc e.symm
  simp [World.setCell, Array.getElem?_modify, this]
theorem st2_below {B : Nat} {w w' : World} {g : Nat} (x : Int) (u : Value) (hg : B ≤ g) (h : Below B w w') : Below B w (st2 w' g x u) :=
  (h.setCell (p := ⟨g, 0, none⟩) hg _).setCell (p := ⟨g, 1, none⟩) hg _
theorem own_keep7 {w w' : World} {B : Nat} {e : TypeId} {s : Nat} {v : Value} {n : Nat} {xs : List Value} (h : w.ownsRow B e s v n xs) (hb : ∀ (g : Nat) (c : Array Value), w.heap[g]? = some (Obj.cells c e (0, 0)) → w'.heap[g]? = w.heap[g]?) : w'.ownsRow B e s v n xs := by
  obtain ⟨h1, h2⟩ := h
  refine ⟨h1, ?_⟩
  rcases h2 with h2 | ⟨g, cap, cur, hv, hg, hh, r⟩
  · exact .inl h2
  · exact .inr ⟨g, cap, cur, hv, hg, (hb g cur hh).trans hh, r⟩
theorem ins_st2 {w : World} {B g : Nat} {u : Value} {l : List Int} {x0 : Int} {u0 : Value} (h : Ru.Ins 2 w B u l) (hs : S2 w g x0 u0) (x : Int) (v : Value) : Ru.Ins 2 (st2 w g x v) B u l :=
  own_keep7 h fun k c hk => st2_other _ _ fun e => by
    subst e
    unfold S2 at hs
    rw [hs] at hk
    simp at hk
theorem ins_form7 {B : Nat} {w : World} {v : Value} {l : List Int} (h : Ru.Ins 2 w B v l) : ∃ a c, v = .slice a l.length c := by
  obtain ⟨a, c, h1, _⟩ := (ins_new h).form
  exact ⟨a, c, h1⟩
/-- append of one number, laid in a block of its own just before; what stays. -/
theorem wpList_app1k {w0 : World} {ops : Array Oper} {rest : List Oper} {o : Oper} {a : Act} {Q : Exit → Act → World → Prop} (hgd : Region.wanted o (yielded ops a.tmps) = true) (s x : Operand)
    (ho : o.op = .call { callee := .builtin .append, args := #[s, x], argTypes := #[23, 23] }) (B : Nat) (v : Value) (l : List Int) (hs : a.eval s = v) (hown : Ru.Ins 2 w0 B v l) (m : Int)
    (hx : a.eval x = .slice (some ⟨w0.heap.size, 0, none⟩) 1 1) (hl : l.length + 1 ≤ 1000000) (hB : B ≤ w0.heap.size)
    (h : ∀ v' w', Ru.Ins 2 w' B v' (l ++ [m]) → Below B w0 w' → (∀ k, k < w0.heap.size → v.ownBlock ≠ some k → w'.heap[k]? = w0.heap[k]?) → wpList Tryd.prog ops Q rest (a.put o.dst v') w') : wpList Tryd.prog ops Q (o :: rest) a (w0.alloc (.cells #[.int .i64 m] 2)) := by
  have hb := bel1 w0 (.cells #[.int .i64 m] 2)
  have ho2 : Ru.Ins 2 (w0.alloc (.cells #[.int .i64 m] 2)) B v l := World.ownsRow.alloc hown _
  refine Ru.wpList_append_is hgd s x ho B v l hs ho2 _ [m] hx _ (blk_rd (l := [m]) rfl (by simp) (heap_alloc_last w0 _)).ru (nil_some _ _ _) (by simpa using hl) (by simp; omega) ?_
  intro v' w' h1 h2
  exact h v' w' h1 ((hb.mono hB).trans (ins_grown ho2 (by simp; omega) h2)) fun k hk hne => (h2.block k (by simp; omega) fun e => hne e.symm).trans (hb.block k hk)
set_option maxRecDepth 100000 in
set_option maxHeartbeats 4000000 in
theorem and_any (x c : Int) (B : Nat) (q : Option Addr) (n cap : Nat) (l : List Int) (w : World) (hu : Ru.Ins 2 w B (.slice q n cap) l) (hB : B ≤ w.heap.size) (hx : Sc.inr x = true) (hc : Sc.inr c = true) (hl : l.length ≤ 1000) :
    Calls Tryd.prog 68 #[.agg #[.int .i64 x, .slice q n cap], .int .i64 c] w fun e w' => ∃ q' c', e = .returned (.tuple #[.agg #[.int .i64 (Sc.twoV 15 x c).1, .slice q' (n + 1) c'], .int .i64 (Sc.twoV 15 x c).2]) ∧ Ru.Ins 2 w' B (.slice q' (n + 1) c') (l ++ [(Sc.twoV 15 x c).1]) ∧ Below B w w' := by
  have HC : Hid (∀ W, Calls Tryd.prog 73 #[.int .i64 15, .int .i64 x, .int .i64 c] W fun e w' => e = .returned (.tuple #[.int .i64 (Sc.twoV 15 x c).1, .int .i64 (Sc.twoV 15 x c).2]) ∧ Below W.heap.size W w') := fun W => Sc.stwo_any 15 x c W (inr_lo hx) (inr_hi hx) (inr_lo hc) (inr_hi hc)
  generalize (Sc.twoV 15 x c).1 = a at HC ⊢
  generalize (Sc.twoV 15 x c).2 = b at HC ⊢
  have hnl : n = l.length := by
    obtain ⟨_, _, e⟩ := ins_form7 hu
    injection e
  have HNl := Lib.hid hnl
  have hl2 : n ≤ 1000 := by omega
  clear hnl hl
  have HIn := Lib.hid hu
  have HOw : Hid (∀ k, Value.ownBlock (.slice q n cap) = some k → k < w.heap.size) := fun k e => (World.ownsRow.lt hu k e).2
  have h0 := bel1 w (.cells #[.int .i64 x, .slice q n cap] 72)
  have e1 : (w.alloc (.cells #[.int .i64 x, .slice q n cap] 72)).heap.size = w.heap.size + 1 := by simp
  have hs0 := S2.new w x (.slice q n cap)
  have hbx : S2 ((w.alloc (.cells #[.int .i64 x, .slice q n cap] 72)).alloc (.cells #[.int .i64 0, .slice none 0 0] 72)) w.heap.size x (.slice q n cap) := hs0.next (bel1 _ _)
  have hrs : S2 ((w.alloc (.cells #[.int .i64 x, .slice q n cap] 72)).alloc (.cells #[.int .i64 0, .slice none 0 0] 72)) (w.heap.size + 1) 0 (.slice none 0 0) := by rw [← e1]; exact S2.new _ _ _
  have HBx := Lib.hid hbx
  have HRs := Lib.hid hrs
  have HB0 : Hid (Below w.heap.size w ((w.alloc (.cells #[.int .i64 x, .slice q n cap] 72)).alloc (.cells #[.int .i64 0, .slice none 0 0] 72))) := h0.trans ((bel1 _ _).mono (by simp))
  have x0 := HBx.out.c0
  have x1 := HBx.out.c1
  clear hu hx hc h0 e1 hs0 hbx hrs
  go_enter Tryd.func68, Tryd.ntmps68
  go_wp2_with (first
    | (go_at_call 73; (with_reducible refine (HC.out _).mono ?_); rintro e w1 ⟨rfl, hb⟩; have HBx1 := Lib.hid (HBx.out.next hb); have HRs1 := Lib.hid (HRs.out.next hb); have HB1 := Lib.hid (HB0.out.trans (hb.mono HB0.out.size)); have HIn1 := Lib.hid (ins_next7 HIn.out HB1.out); have hsz := HB1.out.size; clear hb HBx HRs x0 x1; have x1 := HBx1.out.c1)
    | (at_builtin; refine wpList_app1k (by simp [Region.wanted]) _ _ rfl B _ _ rfl HIn1.out a rfl (by rw [← HNl.out]; omega) (by omega) ?_; intro u2 w2 hu2 hb2 hk2; obtain ⟨va, vc, hv⟩ := ins_form7 hu2; rw [List.length_append, List.length_singleton, ← HNl.out] at hv; subst hv; have HU2 := Lib.hid hu2; have HR2 : Hid (S2 w2 (w.heap.size + 1) 0 (.slice none 0 0)) := (hk2 _ HRs1.out.lt (fun e => absurd (HOw.out _ e) (by omega))).trans HRs1.out; have HB2 := Lib.hid ((HB1.out.mono hB).trans hb2); clear hu2 hb2 hk2; have y0 := HR2.out.c0; have y1 := HR2.out.c1; have f0 := HR2.out.fr 0; have f1 := HR2.out.fr 1; have HS := Lib.hid (HR2.out.set a (.slice va (n + 1) vc)); have z0 := HS.out.c0; have z1 := HS.out.c1)
    | fail)
  refine bodyPost_ret (v := .tuple #[.agg #[.int .i64 a, .slice va (n + 1) vc], .int .i64 b]) (by simp [results, Tryd.results68, go_sem, z0, z1]) rfl ?_
  exact ⟨_, _, rfl, ins_st2 HU2.out HR2.out _ _, st2_below _ _ (by omega) HB2.out⟩

/-- A slice of sums that the call has made. -/
def MS (w : World) (B : Nat) (u : Value) (L : List (List Int)) : Prop :=
  ∃ xs, w.ownsRow B 72 2 u L.length xs ∧ ∀ t (h : t < L.length), ∃ x y, xs[t * 2]? = some (.int .i64 x) ∧ xs[t * 2 + 1]? = some y ∧ Ru.Ins 2 w B y L[t]
theorem MS.next {w w' : World} {B : Nat} {u : Value} {l : List (List Int)} (h : MS w B u l) (hb : Below w.heap.size w w') : MS w' B u l := by
  obtain ⟨xs, h1, h2⟩ := h
  refine ⟨xs, own_keep7 h1 fun g _ hg => hb.block g (Array.getElem?_eq_some_iff.1 hg).1, fun t ht => ?_⟩
  obtain ⟨x, y, e, e2, hi⟩ := h2 t ht
  exact ⟨x, y, e, e2, own_keep7 hi fun g _ hg => hb.block g (Array.getElem?_eq_some_iff.1 hg).1⟩
theorem MS.nil (w : World) (B : Nat) : MS w B (.slice none 0 0) [] := ⟨[], World.ownsRow_nil _ _ _ _, fun t h => absurd h (by simp)⟩
theorem infoSums : (Tryd.prog.info? 72).map (fun i => (i.zero, i.size, i.bytes)) = some (some (.agg #[.int .i64 0, .slice none 0 0]), 2, 32) := by kernel_rfl
theorem MS.mono {w : World} {B B' : Nat} {u : Value} {l : List (List Int)} (h : MS w B u l) (hB : B' ≤ B) : MS w B' u l := by
  obtain ⟨xs, h1, h2⟩ := h
  refine ⟨xs, Ru.own_mono h1 hB, fun t ht => ?_⟩
  obtain ⟨x, y, e, e2, hi⟩ := h2 t ht
  exact ⟨x, y, e, e2, Ru.own_mono hi hB⟩
/-- append of one, laid in a block of its own just before. -/
theorem wpList_append_ms {w0 : World} {ops : Array Oper} {rest : List Oper} {o : Oper} {a : Act} {Q : Exit → Act → World → Prop} (hgd : Region.wanted o (yielded ops a.tmps) = true) (s x : Operand)
    (ho : o.op = .call { callee := .builtin .append, args := #[s, x], argTypes := #[68, 68] }) (B : Nat) (v : Value) (L : List (List Int)) (hs : a.eval s = v) (hm : MS w0 B v L) (z : Int) (y : Value) (m : List Int) (hi : Ru.Ins 2 w0 B y m)
    (hx : a.eval x = .slice (some ⟨w0.heap.size, 0, none⟩) 1 1) (hl : L.length ≤ 1000) (hB : B ≤ w0.heap.size)
    (h : ∀ v' w', MS w' B v' (L ++ [m]) → Below B w0 w' → wpList Tryd.prog ops Q rest (a.put o.dst v') w') : wpList Tryd.prog ops Q (o :: rest) a (w0.alloc (.cells #[.int .i64 z, y] 72)) := by
  obtain ⟨i0, hi0, hz0, hz1, hz2⟩ := info_parts infoSums
  obtain ⟨xs, h1, h2⟩ := hm
  have hone : y.oneCell' = true := by
    obtain ⟨a, c, rfl⟩ := ins_form7 hi
    rfl
  have hb0 := bel1 w0 (.cells #[.int .i64 z, y] 72)
  have h1a := World.ownsRow.alloc h1 (.cells #[.int .i64 z, y] 72)
  refine Ru.wpList_met hgd fun K hK => wp_append_own _ s x 68 ho B 72 i0 (.agg #[.int .i64 0, .slice none 0 0]) 2 32 Tryd.underlying68 hi0 hz0 hz1 hz2 rfl (by decide) v L.length _ hs h1a ⟨w0.heap.size, 0, none⟩ 1 1 [.int .i64 z, y] hx (by simp) ?_ (by simpa [Value.oneCell'] using hone) (by unfold maxLen; omega) (by omega) (by simp; omega) ?_
  · intro j t ht
    rw [Ru.add_off, Nat.zero_add]
    have hj : j = 0 ∨ j = 1 := by
      rcases Nat.lt_or_ge j 2 with e | e
      · omega
      · rw [List.getElem?_eq_none (by simp; omega)] at ht; cases ht
    have c0 := (S2.new w0 z y).c0
    have c1 := (S2.new w0 z y).c1
    rcases hj with rfl | rfl
    · rw [c0]; simpa using ht
    · rw [c1]; simpa using ht
  · intro v' w' hown' hg _
    have hb : Below B w0 w' := (hb0.mono hB).trans ((Below.refl B _).grown hg (by simp; omega) (fun j e => (World.ownsRow.lt h1a j e).1))
    have hkeep : ∀ {z : Value} {r : List Int}, Ru.Ins 2 w0 B z r → Ru.Ins 2 w' B z r := fun hz => own_keep7 hz fun k _ hk => by
      have hk2 : k < w0.heap.size := (Array.getElem?_eq_some_iff.1 hk).1
      refine (hg.block k (by simp; omega) fun e => ?_).trans (hb0.block k hk2)
      rcases h1.2 with ⟨rfl, _⟩ | ⟨g', cap, cur, rfl, _, hh, _⟩
      · cases e
      · have : g' = k := by simpa [Value.ownBlock] using e.symm
        subst this
        rw [hk] at hh
        simp at hh
    refine hK _ _ (h v' w' ⟨xs ++ [.int .i64 z, y], by rw [List.length_append]; exact hown', fun t ht => ?_⟩ hb)
    have hlx : xs.length = L.length * 2 := h1.1
    rw [List.length_append, List.length_singleton] at ht
    by_cases e : t < L.length
    · obtain ⟨x1, y1, e1, e2, hz⟩ := h2 t e
      exact ⟨x1, y1, by rw [List.getElem?_append_left (by omega)]; exact e1, by rw [List.getElem?_append_left (by omega)]; exact e2, by rw [List.getElem_append_left e]; exact hkeep hz⟩
    · have : t = L.length := by omega
      subst this
      exact ⟨z, y, by rw [List.getElem?_append_right (by omega), hlx]; simp, by rw [List.getElem?_append_right (by omega), hlx, show L.length * 2 + 1 - L.length * 2 = 1 by omega]; rfl, by simpa using hkeep hi⟩
end Go.Proofs.YthfpmpmhoegicaaDoor
namespace Go.Proofs.YthfpmpmhoegicaaDoor
open Go.RowKit

/-- One more cell, when all sums up to it are numbers. -/
theorem take_sum {row : List Int} {t : Nat} (h : t < row.length) : (row.take (t + 1)).sum = (row.take t).sum + row.getD t 0 := by
  rw [← takeI_snoc h, List.sum_append]; simp
theorem take_okS {row : List Int} {t : Nat} (h : t < row.length) (h1 : okS 0 (row.take t) = true) (h2 : Sc.inr ((row.take t).sum + row.getD t 0) = true) : okS 0 (row.take (t + 1)) = true := by
  rw [← takeI_snoc h, okS_app, h1, Int.zero_add]
  show (Sc.inr _ && okS _ []) = true
  rw [h2]; rfl
theorem take_scL {row : List Int} {t : Nat} (h : t < row.length) : scL 0 (row.take t) ++ [(row.take t).sum + row.getD t 0] = scL 0 (row.take (t + 1)) := by
  rw [← takeI_snoc h, scL_snoc, Int.zero_add]
theorem take_bad {row : List Int} {t : Nat} (h : t < row.length) (h2 : ¬ Sc.inr ((row.take t).sum + row.getD t 0) = true) : sm1 row = (0, 12) := by
  have e : okS 0 row = false := by
    have e1 : row = row.take (t + 1) ++ row.drop (t + 1) := (List.take_append_drop _ _).symm
    rw [e1, ← takeI_snoc h, okS_app, okS_app, Int.zero_add]
    show ((_ && (Sc.inr _ && okS _ [])) && _) = false
    rw [show Sc.inr ((row.take t).sum + row.getD t 0) = false by simpa using h2]
    simp
  unfold sm1; rw [e]; rfl
theorem sm1_yes {row : List Int} (h : okS 0 row = true) : sm1 row = (row.sum, 0) := if_pos h
theorem inr0 : Sc.inr 0 = true := by decide
theorem okS_inr {row : List Int} {t : Nat} (h : t ≤ row.length) (h1 : okS 0 (row.take t) = true) : Sc.inr (row.take t).sum = true := by
  cases t with
  | zero => simpa using inr0
  | succ t =>
    rw [← takeI_snoc (by omega), okS_app, Int.zero_add] at h1
    have h2 := (Bool.and_eq_true_iff.1 h1).2
    have h3 : (Sc.inr ((row.take t).sum + row.getD t 0) && okS _ []) = true := h2
    rw [take_sum (by omega)]
    exact (Bool.and_eq_true_iff.1 h3).1
set_option maxRecDepth 100000 in
set_option maxHeartbeats 8000000 in
theorem folds_any (A : Ar) (v : Value) (w : World) (hA : ck A = 0) (hr : A.r = 1 ∨ A.r = 2) (hv : RdI w.heap.size w v A.z) (hn : Ru.NilC v) (h64 : in64 A.z) :
    Calls Tryd.prog 67 #[A5 A.k A.r A.a A.b v, .agg #[.int .i64 0, .slice none 0 0], .func (.func 68) #[] #[]] w fun e w' => (∃ u, e = .returned (.tuple #[u, .int .i64 (feL ((rwL A).map sm1))]) ∧ (feL ((rwL A).map sm1) = 0 → MS w' w.heap.size u ((rwL A).map (scL 0)))) ∧ Below w.heap.size w w' := by
  obtain ⟨_, _, r2, r3, r4⟩ := rw_good (ck_good hA)
  obtain ⟨p0, cap, rfl, hrw⟩ := frows_any A v w (ck_good hA) hr hv hn
  have HRw := Lib.hid hrw
  have HV := Lib.hid hv
  have HLen : Hid (((rwL A).map sm1).length = rwN A) := sm_len hA
  have HLen2 : Hid (((rwL A).map (scL 0)).length = rwN A) := by unfold Hid; rw [List.length_map, rwL_len hA]
  have HAt : Hid (∀ i, i < rwN A → ((rwL A).map sm1)[i]? = some (sm1 (rwI A i))) := fun i hi => by
    have h1 : i < (rwL A).length := by rw [rwL_len hA]; exact hi
    rw [List.getElem?_map, List.getElem?_eq_getElem h1, rwL_get hA]; rfl
  have HSn : Hid (∀ i, i < rwN A → ((rwL A).map (scL 0)).take i ++ [scL 0 (rwI A i)] = ((rwL A).map (scL 0)).take (i + 1)) := fun i hi => by
    have h1 : i < (rwL A).length := by rw [rwL_len hA]; exact hi
    rw [List.take_succ_eq_append_getElem (by rw [List.length_map]; exact h1), List.getElem_map, rwL_get hA]
  have HRp : Hid (∀ (w' : World) (j : Nat), RdI w.heap.size w' (.slice p0 A.z.length cap) A.z → j < rwN A → ∃ q, rp p0 (rwM A) j = .slice q (rwM A) (rwM A) ∧ ∀ t, t < rwM A → ∃ bk off, q = some ⟨bk, off, none⟩ ∧ bk < w.heap.size ∧ w'.cell? ⟨bk, off + t, none⟩ = some (.int .i64 ((rwI A j).getD t 0))) := fun w' j h hj => frp_rd hA h hj
  have HIl : Hid (∀ j, j < rwN A → (rwI A j).length = rwM A) := fun j hj => rwI_len (ck_good hA) hj
  have HI64r : Hid (∀ j, in64 (rwI A j)) := fun j => h64.row j
  have HK0 := Lib.hid (KE.new w A (.slice p0 A.z.length cap))
  have hks0 : (w.alloc (.cells #[.int .i64 A.k, .int .i64 A.r, .int .i64 A.a, .int .i64 A.b, .slice p0 A.z.length cap] 25)).heap.size = w.heap.size + 1 := by simp
  have HK := Lib.hid (HK0.out.next (bel1 _ (.cells #[.int .i64 0, .slice none 0 0] 72)))
  have HZb0 : Hid (S2 ((w.alloc (.cells #[.int .i64 A.k, .int .i64 A.r, .int .i64 A.a, .int .i64 A.b, .slice p0 A.z.length cap] 25)).alloc (.cells #[.int .i64 0, .slice none 0 0] 72)) (w.heap.size + 1) 0 (.slice none 0 0)) := by
    unfold Hid; rw [← hks0]; exact S2.new _ _ _
  have x0 := HK.out.blk.c0; have x1 := HK.out.blk.c1; have x2 := HK.out.blk.c2; have x3 := HK.out.blk.c3; have x4 := HK.out.blk.c4
  clear hrw hv hn hA hr r2 h64 HK0 hks0
  obtain ⟨n, hn⟩ : ∃ n, rwN A = n := ⟨_, rfl⟩
  obtain ⟨m, hm⟩ : ∃ m, rwM A = m := ⟨_, rfl⟩
  rw [hn] at r3 HRw HLen HLen2 HAt HSn HRp HIl
  rw [hm] at r4 HRw HRp HIl
  clear hn hm
  generalize (rwL A).map sm1 = cs at HLen HAt ⊢
  generalize (rwL A).map (scL 0) = LL at HLen2 HSn ⊢
  go_enter Tryd.func67, Tryd.ntmps67
  go_wp2_with (first | (go_at_call 74; (with_reducible refine (HRw.out _).mono ?_); rintro e w1 ⟨h, rfl, hh, hrow, hb⟩; have HB1 := Lib.hid (HK.out.bel.trans (hb.mono HK.out.bel.size)); have HZb := Lib.hid (HZb0.out.next hb); have HRow := Lib.hid hrow; have HV1 := Lib.hid (HV.out.below HB1.out); have hh1 : h < w1.heap.size := hrow.lt; clear hrow hb hh HK HV HRw HZb0 x0 x1 x2 x3 x4) | fail)
  go_loopg [8, 18] n (fun gk u i wr => ∃ (j : Nat) (U : Value), j + gk = n ∧ U = u ∧ i = .int .i64 j ∧ okT cs j ∧ MS wr w1.heap.size U (LL.take j) ∧ Below w1.heap.size w1 wr)
  case atStart => exact ⟨0, _, by omega, rfl, rfl, okT_zero _, MS.nil _ _, Below.refl _ _⟩
  case round =>
    obtain ⟨j, u0, hjg, rfl, rfl, hok, hins, hbl⟩ := hrel
    obtain ⟨wo, rfl⟩ : ∃ wo, wo = wr := ⟨_, rfl⟩
    have HOk := Lib.hid hok
    have HIn := Lib.hid hins
    have HB := Lib.hid hbl
    clear hok hins hbl
    cases gk with
    | zero =>
      have hjz : ¬ ((j : Int) < (n : Int)) := by omega
      have hjn : j = n := by omega
      have HF : Hid (feL cs = 0) := by
        have h := HOk.out
        rw [hjn] at h
        exact okT_all h HLen.out
      have HR : Hid (MS wo w.heap.size u0 LL) := by
        have h := HIn.out
        rw [hjn, List.take_of_length_le (by rw [HLen2.out]; exact Nat.le_refl _)] at h
        exact h.mono HB1.out.size
      have HE := Lib.hid (HB1.out.trans (HB.out.mono HB1.out.size))
      clear HAt HRp HIl HRow HV1 HOk HIn hjn HSn HI64r HZb
      go_wp2
      go_ret2
      exact ⟨⟨_, by rw [HF.out]; rfl, fun _ => HR.out⟩, HE.out⟩
    | succ g2 =>
      have hjz : (j : Int) < (n : Int) := by omega
      have hj : j < n := by omega
      have hBs := HB.out.size
      have HBa : Hid (Below w.heap.size w wo) := HB1.out.trans (HB.out.mono HB1.out.size)
      have HVr : Hid (RdI w.heap.size wo (.slice p0 A.z.length cap) A.z) := HV1.out.below (HB.out.mono HB1.out.size)
      obtain ⟨q, hq, hcell⟩ := HRp.out wo j HVr.out hj
      have HCell := Lib.hid hcell
      have x0 : wo.cell? ⟨h, j, none⟩ = some (.slice q m m) := by rw [(HRow.out.of_block (HB.out.block h hh1)).cell hj, hq]
      have HAj := Lib.hid (HAt.out j hj)
      have HSj := Lib.hid (HSn.out j hj)
      have hIl := HIl.out j hj
      have HI6 := Lib.hid (HI64r.out j)
      generalize rwI A j = row at HCell HAj hIl HI6 HSj
      have HIlr := Lib.hid hIl
      clear HRp HIl HVr hq hcell HAt hIl HI64r HSn
      have hw0 : IntKind.i64.wrap ((j : Int) + 1) = (j : Int) + 1 := by rw [IntKind.wrap_i64]; omega
      have HZo := Lib.hid (HZb.out.next HB.out)
      have z0 := HZo.out.c0
      have z1 := HZo.out.c1
      go_wp2_with fail
      clear x0 z0 z1 HZo
      go_loopg [25] m (fun gk i wt => ∃ (t : Nat) (qa : Option Addr) (ca : Nat), t + gk = m ∧ i = .int .i64 t ∧ okS 0 (row.take t) = true ∧ S2 wt wo.heap.size (row.take t).sum (.slice qa t ca) ∧ Ru.Ins 2 wt (wo.heap.size + 1) (.slice qa t ca) (scL 0 (row.take t)) ∧ Below wo.heap.size wo wt)
      case atStart => exact ⟨0, none, 0, by omega, rfl, rfl, S2.new _ _ _, ins_nil _ _, bel1 _ _⟩
      case round =>
        obtain ⟨t, qa, ca, htg, rfl, hoks, hbx, hins, hbt⟩ := hrel
        have HOs := Lib.hid hoks
        have HBx := Lib.hid hbx
        have HIw := Lib.hid hins
        have HBt := Lib.hid hbt
        clear hoks hbx hins hbt
        have x0 := HBx.out.c0
        have x1 := HBx.out.c1
        cases gk with
        | zero =>
          have htz : ¬ ((t : Int) < (m : Int)) := by omega
          have htk : row.take t = row := List.take_of_length_le (by rw [HIlr.out]; omega)
          have HRx : Hid (cs[j]? = some (row.sum, 0)) := by
            have h := HOs.out
            rw [htk] at h
            have h2 := HAj.out
            rw [sm1_yes h] at h2
            exact h2
          have HOk2 : Hid (okT cs (j + 1)) := okT_next HOk.out HRx.out
          have hlt : (LL.take j).length ≤ 400 := by rw [List.length_take]; omega
          have HIn2 := Lib.hid (HIn.out.next HBt.out)
          have HIx : Hid (Ru.Ins 2 wr w1.heap.size (.slice qa t ca) (scL 0 row)) := by
            have h := HIw.out
            rw [htk] at h
            exact Ru.own_mono h (by omega)
          have HB2 := Lib.hid (HB.out.trans (HBt.out.mono HB.out.size))
          have hB2s := HB2.out.size
          generalize (row.take t).sum = sx at x0
          clear htk HAj HCell HIlr HOk HIn HRx HRow HV1 HBa HOs HBx HIw HI6 HZb
          go_wp2_with (at_builtin; refine wpList_append_ms (by simp [Region.wanted]) _ _ rfl w1.heap.size _ _ rfl HIn2.out sx _ _ HIx.out rfl (by omega) (by omega) ?_; intro u2 w2 hu2 hb2; rw [HSj.out] at hu2; have HU2 := Lib.hid hu2; have HB3 := Lib.hid (HB2.out.trans hb2); clear hu2 hb2)
          go_roundg g2
          case measure => omega
          case rel => exact ⟨j + 1, _, by omega, rfl, by go_num, HOk2.out, HU2.out, HB3.out⟩
        | succ g3 =>
          have htz : (t : Int) < (m : Int) := by omega
          have ht : t < m := by omega
          have hBts := HBt.out.size
          have hbl := HBx.out.lt
          obtain ⟨bk, off, rfl, hbk, hc0⟩ := HCell.out t ht
          have hc : wr.cell? ⟨bk, off + t, none⟩ = some (.int .i64 (row.getD t 0)) := (HBt.out.cell (p := ⟨bk, off + t, none⟩) (by have := HBa.out.size; show bk < _; omega)).trans hc0
          clear hc0
          have hw1 : IntKind.i64.wrap ((t : Int) + 1) = (t : Int) + 1 := by rw [IntKind.wrap_i64]; omega
          have hlr : t < row.length := by rw [HIlr.out]; exact ht
          have hic : Sc.inr (row.getD t 0) = true := HI6.out.get t
          have his : Sc.inr (row.take t).sum = true := okS_inr (by omega) HOs.out
          have HAn := Lib.hid (and_any (row.take t).sum (row.getD t 0) (wo.heap.size + 1) qa t ca (scL 0 (row.take t)) wr HIw.out (by omega) his hic (by rw [scL_len, List.length_take]; omega))
          have hts := take_sum hlr
          by_cases hi : Sc.inr ((row.take t).sum + row.getD t 0) = true
          · have HOs2 := Lib.hid (take_okS hlr HOs.out hi)
            have HSc := Lib.hid (take_scL hlr)
            rw [show Sc.twoV 15 (row.take t).sum (row.getD t 0) = ((row.take t).sum + row.getD t 0, 0) from Sc.t15 rfl hi] at HAn
            have HTs := Lib.hid hts
            clear hts hi his hic hlr HOs HAj HI6 HIw
            generalize row.getD t 0 = c at hc HAn HSc HTs
            generalize (row.take t).sum = s at x0 HBx HAn HSc HTs
            go_wp2_with (first | (go_at_call 68; (with_reducible refine HAn.out.mono ?_); rintro e w2 ⟨qb, cb, rfl, hi2, hb⟩; rw [HSc.out] at hi2; have HI2 := Lib.hid hi2; have HBy : Hid (S2 w2 wo.heap.size s (.slice qa t ca)) := (hb.block _ (by omega)).trans HBx.out; have HB2 := Lib.hid (HBt.out.trans (hb.mono (by omega))); clear hb hi2 HAn HBx hc x0 x1; have y0 := HBy.out.c0; have y1 := HBy.out.c1; have f0 := HBy.out.fr 0; have f1 := HBy.out.fr 1; have HS := Lib.hid (HBy.out.set (s + c) (.slice qb (t + 1) cb)); have z0 := HS.out.c0; have z1 := HS.out.c1) | fail)
            go_roundg g3
            case measure => omega
            case rel => exact ⟨t + 1, qb, cb, by omega, by go_num, HOs2.out, by rw [HTs.out]; exact HS.out, ins_st2 HI2.out HBy.out _ _, st2_below _ _ (Nat.le_refl _) HB2.out⟩
          · have hbad := take_bad hlr hi
            have HBad : Hid (feL cs = 12) := okT_bad HOk.out (by rw [HAj.out, hbad]) (by decide)
            rw [show Sc.twoV 15 (row.take t).sum (row.getD t 0) = (0, 12) from Sc.t15o (by simpa using hi)] at HAn
            clear hts hi his hic hlr HOs HAj HI6 HIw hbad HOk
            generalize row.getD t 0 = c at hc HAn
            generalize (row.take t).sum = s at x0 HBx HAn
            go_wp2_with (first | (go_at_call 68; (with_reducible refine HAn.out.mono ?_); rintro e w2 ⟨qb, cb, rfl, hi2, hb⟩; have HBy : Hid (S2 w2 wo.heap.size s (.slice qa t ca)) := (hb.block _ (by omega)).trans HBx.out; have HB2 := Lib.hid (HBt.out.trans (hb.mono (by omega))); clear hb hi2 HAn HBx hc x0 x1; have y0 := HBy.out.c0; have y1 := HBy.out.c1; have f0 := HBy.out.fr 0; have f1 := HBy.out.fr 1; have HS := Lib.hid (HBy.out.set 0 (.slice qb (t + 1) cb)); have z0 := HS.out.c0; have z1 := HS.out.c1) | fail)
            go_ret2
            exact ⟨⟨_, by rw [HBad.out]; rfl, fun h => absurd (HBad.out.symm.trans h) (by decide)⟩, HBa.out.trans (st2_below _ _ HBa.out.size (HB2.out.mono HBa.out.size))⟩

theorem flt_len {A : Ar} (h : ck A = 0) : (flt ((rwL A).map (scL 0))).length = A.z.length := by
  obtain ⟨_, _, r2, _, _⟩ := rw_good (ck_good h)
  unfold flt
  rw [List.length_flatten, List.map_map, ← r2]
  have e : (rwL A).map (List.length ∘ scL 0) = List.replicate (rwN A) (rwM A) := by
    unfold rwL
    rw [if_pos h, List.map_map]
    refine List.eq_replicate_iff.2 ⟨by simp, fun b hb => ?_⟩
    obtain ⟨i, hi, rfl⟩ := List.mem_map.1 hb
    show (scL 0 (rwI A i)).length = _
    rw [scL_len, rwI_len (ck_good h) (List.mem_range.1 hi)]
  rw [e, List.sum_replicate_nat]
theorem MS.cells {w : World} {B : Nat} {u : Value} {L : List (List Int)} (h : MS w B u L) {j : Nat} (hj : j < L.length) :
    ∃ b n c x y, u = .slice (some ⟨b, 0, none⟩) n c ∧ n = L.length ∧ w.cell? ⟨b, j * 2, none⟩ = some (.int .i64 x) ∧ w.cell? ⟨b, j * 2 + 1, none⟩ = some y ∧ Ru.Ins 2 w B y L[j] := by
  obtain ⟨xs, h1, h2⟩ := h
  obtain ⟨x, y, e1, e2, hi⟩ := h2 j hj
  rcases h1.2 with ⟨_, h0⟩ | ⟨g, cap, cur, rfl, _⟩
  · omega
  · exact ⟨g, _, cap, x, y, rfl, rfl, (World.ownsRow.cellAt h1 _ (by omega)).trans e1, (World.ownsRow.cellAt h1 _ (by omega)).trans e2, hi⟩
theorem MS.form {w : World} {B : Nat} {u : Value} {L : List (List Int)} (h : MS w B u L) : ∃ a c, u = .slice a L.length c := by
  obtain ⟨xs, ⟨_, ⟨rfl, h0⟩ | ⟨g, cap, cur, rfl, _⟩⟩, _⟩ := h
  · exact ⟨none, 0, by rw [h0]⟩
  · exact ⟨_, cap, rfl⟩
set_option maxRecDepth 100000 in
set_option maxHeartbeats 8000000 in
theorem fscan_any (A : Ar) (v : Value) (w : World) (hw : Ru.Lay w) (hv : RdI w.heap.size w v A.z) (hn : Ru.NilC v) (hl : A.z.length ≤ 1000000) (h64 : in64 A.z) :
    Calls Tryd.prog 43 #[A5 A.k A.r A.a A.b v] w (RetE (sncV A) (smE A) w) := by
  have HFa := Lib.hid (fun W h1 h2 => ffault_any (A.k == 1) A v W h1 h2 hl)
  have HK := Lib.hid (MK1.new (A := A) hw hv)
  have x0 := HK.out.box.c0; have x1 := HK.out.box.c1; have x2 := HK.out.box.c2; have x3 := HK.out.box.c3; have x4 := HK.out.box.c4
  unfold sncV
  by_cases h1 : faE (A.k == 1) A = 0
  · obtain ⟨hA, hk, hr⟩ := faE_ok h1
    clear hk
    have e0 : smE A = feL ((rwL A).map sm1) := if_pos h1
    rw [h1] at HFa
    rw [e0]
    have HFd := Lib.hid (fun W (h2 : RdI W.heap.size W v A.z) => folds_any A v W hA hr h2 hn h64)
    have hfl := flt_len hA
    have hck : ck ⟨1, A.r, A.a, A.b, flt ((rwL A).map (scL 0))⟩ = 0 := ex_ck (ck_good hA) hfl
    have h4 := (ck_good hA).len4
    have HMk := Lib.hid (fun (u : Value) W h1 h2 => fmake_ok hck u W h1 h2 (by rw [hfl]; omega))
    have HFl : Hid ((flt ((rwL A).map (scL 0))).length ≤ 400) := by unfold Hid; omega
    have HLl : Hid (((rwL A).map (scL 0)).length ≤ 400) := by obtain ⟨_, _, _, q, _⟩ := rw_good (ck_good hA); unfold Hid; rw [List.length_map, rwL_len hA]; exact q
    generalize (rwL A).map sm1 = cs at HFd ⊢
    generalize (rwL A).map (scL 0) = L at HFd HMk HFl HLl ⊢
    clear h1 e0 hA hr hn h64 hw hfl hck h4
    obtain ⟨p0, cap, rfl, hcap, hcap2, hcell⟩ := hv
    clear hcell
    by_cases h1 : feL cs = 0
    · rw [orNo_yes h1, h1]
      rw [h1] at HFd
      clear h1
      obtain ⟨n, hnl⟩ : ∃ n, L.length = n := ⟨_, rfl⟩
      have HNl := Lib.hid hnl
      clear hnl
      have hn4 : n ≤ 400 := by have := HLl.out; rw [HNl.out] at this; exact this
      obtain ⟨fz, hfz⟩ : ∃ fz, flt L = fz := ⟨_, rfl⟩
      have HFz := Lib.hid hfz
      rw [hfz] at HMk HFl ⊢
      clear hfz
      go_enter Tryd.func43, Tryd.ntmps43
      go_wp2_with (first
        | (go_at_call 47; (with_reducible refine (HFa.out _ HK.out.lay HK.out.rdn).mono ?_); rintro e w1 ⟨rfl, hb⟩; have HK2 := Lib.hid (HK.out.next hb); clear HK x0 x1 x2 x3 x4; have HK := HK2; clear HK2; have x0 := HK.out.box.c0; have x1 := HK.out.box.c1; have x2 := HK.out.box.c2; have x3 := HK.out.box.c3; have x4 := HK.out.box.c4; clear hb)
        | (go_at_call 67; (with_reducible refine (HFd.out _ HK.out.rdn).mono ?_); rintro e w2 ⟨⟨u, rfl, hu⟩, hb⟩; have hm := hu (by trivial); obtain ⟨qu, cu, hq⟩ := hm.form; rw [HNl.out] at hq; subst hq; have HM := Lib.hid hm; have hsz1 := HK.out.sz; have HK2 := Lib.hid (HK.out.next hb); clear HK x0 x1 x2 x3 x4; have HK := HK2; clear HK2; have x0 := HK.out.box.c0; have x1 := HK.out.box.c1; have x2 := HK.out.box.c2; have x3 := HK.out.box.c3; have x4 := HK.out.box.c4; clear hu hb hm)
        | fail)
      have HB0 := Lib.hid HK.out.bel.size
      clear HFa HFd
      go_loopg [7, 31] n (fun gk c i wr => ∃ (j : Nat) (U : Value), j + gk = n ∧ U = c ∧ i = .int .i64 j ∧ Ru.Ins 2 wr w2.heap.size U (flt (L.take j)) ∧ Below w2.heap.size w2 wr)
      case atStart => exact ⟨0, _, by omega, rfl, rfl, ins_nil _ _, Below.refl _ _⟩
      case round =>
        obtain ⟨j, u0, hjg, rfl, rfl, hins, hbl⟩ := hrel
        have HIn := Lib.hid hins
        have HBl := Lib.hid hbl
        clear hins hbl
        have HKr := Lib.hid (HK.out.next HBl.out)
        cases gk with
        | zero =>
          have hjz : ¬ ((j : Int) < (n : Int)) := by omega
          have HU : Hid (RdI wr.heap.size wr u0 fz) := by
            have h := HIn.out
            rw [List.take_of_length_le (by rw [HNl.out]; omega), HFz.out] at h
            exact (ins_new h).rd
          clear HK x0 x1 x2 x3 x4
          have HK := HKr
          have x0 := HK.out.box.c0; have x1 := HK.out.box.c1; have x2 := HK.out.box.c2; have x3 := HK.out.box.c3; have x4 := HK.out.box.c4
          clear HM HIn HKr HBl HNl HFz HLl
          go_wp2_with (first | (go_at_call 56; (with_reducible refine (HMk.out _ _ HK.out.lay HU.out).mono ?_); rintro e w3 ⟨q, qc, rfl, hu, hb⟩; have HR := Lib.hid hu; have hlt := HK.out.res.lt; have hge := HK.out.bel.size; have HK2 := Lib.hid (HK.out.next hb); clear HK x0 x1 x2 x3 x4; have HK := HK2; clear HK2; have x0 := HK.out.box.c0; have x1 := HK.out.box.c1; have x2 := HK.out.box.c2; have x3 := HK.out.box.c3; have x4 := HK.out.box.c4; clear hu hb; have y0 := HK.out.res.c0; have y1 := HK.out.res.c1; have y2 := HK.out.res.c2; have y3 := HK.out.res.c3; have y4 := HK.out.res.c4; have f0 := HK.out.res.fr 0; have f1 := HK.out.res.fr 1; have f2 := HK.out.res.fr 2; have f3 := HK.out.res.fr 3; have f4 := HK.out.res.fr 4; have HS := Lib.hid (HK.out.res.set 1 A.r A.a A.b (.slice q fz.length qc)); have z0 := HS.out.c0; have z1 := HS.out.c1; have z2 := HS.out.c2; have z3 := HS.out.c3; have z4 := HS.out.c4) | fail)
          refine bodyPost_ret (v := .tuple #[A5 1 A.r A.a A.b (.slice q fz.length qc), .int .i64 0]) (by simp [results, Tryd.results43, go_sem, z0, z1, z2, z3, z4]) rfl ?_
          exact ⟨_, rfl, (HR.out.st5 (by omega) _ _ _ _ _).mono (by omega), st5_below _ _ _ _ _ (by omega) HK.out.bel⟩
        | succ g2 =>
          have hjz : (j : Int) < (n : Int) := by omega
          have hj : j < n := by omega
          have hjL : j < L.length := by rw [HNl.out]; exact hj
          obtain ⟨b, nb, cb, x, y, hub, _, hc0, hc1, hiy⟩ := (HM.out.next HBl.out).cells hjL
          injection hub with e1 e2 e3
          subst e1
          have hw0 : IntKind.i64.wrap ((j : Int) + 1) = (j : Int) + 1 := by rw [IntKind.wrap_i64]; omega
          have HSn : Hid (flt (L.take (j + 1)) = flt (L.take j) ++ L[j]) := flt_take hjL
          have hfle := flt_le L (j + 1)
          rw [HSn.out, List.length_append, HFz.out] at hfle
          have hfl4 := HFl.out
          obtain ⟨ya, yc, rfl⟩ := ins_form7 hiy
          have HY := Lib.hid (ins_new (ins_next7 hiy (bel1 wr (.cells #[.int .i64 x, .slice ya L[j].length yc] 72))))
          have HNy := Lib.hid (ins_new hiy).nilC
          have HIn2 := Lib.hid (ins_next7 HIn.out (bel1 wr (.cells #[.int .i64 x, .slice ya L[j].length yc] 72)))
          have HBl2 := Lib.hid (HBl.out.trans ((bel1 wr (.cells #[.int .i64 x, .slice ya L[j].length yc] 72)).mono HBl.out.size))
          have HSz := Lib.hid HBl2.out.size
          clear hiy e2 e3 HIn HBl HKr HK x0 x1 x2 x3 x4
          go_wp2_with (at_builtin; refine Ru.wpList_append_is (by simp [Region.wanted]) _ _ rfl w2.heap.size _ _ rfl HIn2.out _ L[j] rfl _ HY.out.rd.ru HNy.out (by omega) HSz.out ?_; intro u2 w3 hu2 hg2; have HB3 := Lib.hid (HBl2.out.trans (ins_grown HIn2.out HSz.out hg2)); rw [← HSn.out] at hu2; have HU2 := Lib.hid hu2; clear hu2 hg2)
          go_roundg g2
          case measure => omega
          case rel => exact ⟨j + 1, _, by omega, rfl, by go_num, HU2.out, HB3.out⟩
    · rw [orNo_no h1]
      generalize feL cs = E at HFd h1 ⊢
      have k1 : (E != 0) = true := by simpa using h1
      clear h1 HMk HFl HLl
      go_enter Tryd.func43, Tryd.ntmps43
      go_wp2_with (first
        | (go_at_call 47; (with_reducible refine (HFa.out _ HK.out.lay HK.out.rdn).mono ?_); rintro e w1 ⟨rfl, hb⟩; have HK2 := Lib.hid (HK.out.next hb); clear HK x0 x1 x2 x3 x4; have HK := HK2; clear HK2; have x0 := HK.out.box.c0; have x1 := HK.out.box.c1; have x2 := HK.out.box.c2; have x3 := HK.out.box.c3; have x4 := HK.out.box.c4; clear hb)
        | (go_at_call 67; (with_reducible refine (HFd.out _ HK.out.rdn).mono ?_); rintro e w2 ⟨⟨u, rfl, hu⟩, hb⟩; have HK2 := Lib.hid (HK.out.next hb); clear HK x0 x1 x2 x3 x4; have HK := HK2; clear HK2; have x0 := HK.out.box.c0; have x1 := HK.out.box.c1; have x2 := HK.out.box.c2; have x3 := HK.out.box.c3; have x4 := HK.out.box.c4; clear hu hb; have y0 := HK.out.res.c0; have y1 := HK.out.res.c1; have y2 := HK.out.res.c2; have y3 := HK.out.res.c3; have y4 := HK.out.res.c4; have f0 := HK.out.res.fr 0; have f1 := HK.out.res.fr 1; have f2 := HK.out.res.fr 2; have f3 := HK.out.res.fr 3; have f4 := HK.out.res.fr 4; have HS := Lib.hid (HK.out.res.set 0 0 0 0 (.slice none 0 0)); have z0 := HS.out.c0; have z1 := HS.out.c1; have z2 := HS.out.c2; have z3 := HS.out.c3; have z4 := HS.out.c4)
        | fail)
      exact bodyPost_ret (v := .tuple #[A5 0 0 0 0 (.slice none 0 0), .int .i64 E]) (by simp [results, Tryd.results43, go_sem, z0, z1, z2, z3, z4]) rfl (retE_no _ (st5_below _ _ _ _ _ (by omega) HK.out.bel))
  · have e : smE A = faE (A.k == 1) A := if_neg h1
    rw [e, orNo_no h1]
    generalize faE (A.k == 1) A = E at HFa h1 ⊢
    have k1 : (E != 0) = true := by simpa using h1
    clear h1 e hn h64 hw
    obtain ⟨p0, cap, rfl, hcap, hcap2, hcell⟩ := hv
    clear hcell
    go_enter Tryd.func43, Tryd.ntmps43
    go_wp2_with (first | (go_at_call 47; (with_reducible refine (HFa.out _ HK.out.lay HK.out.rdn).mono ?_); rintro e w1 ⟨rfl, hb⟩; have HK2 := Lib.hid (HK.out.next hb); clear HK x0 x1 x2 x3 x4; have HK := HK2; clear HK2; have x0 := HK.out.box.c0; have x1 := HK.out.box.c1; have x2 := HK.out.box.c2; have x3 := HK.out.box.c3; have x4 := HK.out.box.c4; clear hb; have y0 := HK.out.res.c0; have y1 := HK.out.res.c1; have y2 := HK.out.res.c2; have y3 := HK.out.res.c3; have y4 := HK.out.res.c4; have f0 := HK.out.res.fr 0; have f1 := HK.out.res.fr 1; have f2 := HK.out.res.fr 2; have f3 := HK.out.res.fr 3; have f4 := HK.out.res.fr 4; have HS := Lib.hid (HK.out.res.set 0 0 0 0 (.slice none 0 0)); have z0 := HS.out.c0; have z1 := HS.out.c1; have z2 := HS.out.c2; have z3 := HS.out.c3; have z4 := HS.out.c4) | fail)
    exact bodyPost_ret (v := .tuple #[A5 0 0 0 0 (.slice none 0 0), .int .i64 E]) (by simp [results, Tryd.results43, go_sem, z0, z1, z2, z3, z4]) rfl (retE_no _ (st5_below _ _ _ _ _ (by omega) HK.out.bel))
end Go.Proofs.YthfpmpmhoegicaaDoor
namespace Go.Proofs.YthfpmpmhoegicaaDoor
open Go.RowKit

theorem infoSl : (Tryd.prog.info? 23).map (fun i => (i.zero, i.size, i.bytes)) = some (some (.slice none 0 0), 1, 24) := by kernel_rfl
/-- append of one row, laid in a block of its own just before. -/
theorem wpList_append_mx {w0 : World} {ops : Array Oper} {rest : List Oper} {o : Oper} {a : Act} {Q : Exit → Act → World → Prop} (hgd : Region.wanted o (yielded ops a.tmps) = true) (s x : Operand)
    (ho : o.op = .call { callee := .builtin .append, args := #[s, x], argTypes := #[81, 81] }) (B : Nat) (v : Value) (n : Nat) (xs : List Value) (hs : a.eval s = v) (hm : w0.ownsRow B 23 1 v n xs) (y : Value) (hone : y.oneCell' = true)
    (hx : a.eval x = .slice (some ⟨w0.heap.size, 0, none⟩) 1 1) (hl : n ≤ 1000) (hB : B ≤ w0.heap.size)
    (h : ∀ v' w', w'.ownsRow B 23 1 v' (n + 1) (xs ++ [y]) → Below B w0 w' → wpList Tryd.prog ops Q rest (a.put o.dst v') w') : wpList Tryd.prog ops Q (o :: rest) a (w0.alloc (.cells #[y] 23)) := by
  obtain ⟨i0, hi0, hz0, hz1, hz2⟩ := info_parts infoSl
  have hb0 := bel1 w0 (.cells #[y] 23)
  have h1a := World.ownsRow.alloc hm (.cells #[y] 23)
  have hc : (w0.alloc (.cells #[y] 23)).cell? ⟨w0.heap.size, 0, none⟩ = some y := by unfold World.cell?; rw [heap_alloc_last]; rfl
  refine Ru.wpList_met hgd fun K hK => wp_append_own _ s x 81 ho B 23 i0 (.slice none 0 0) 1 24 Tryd.underlying81 hi0 hz0 hz1 hz2 rfl (by decide) v n _ hs h1a ⟨w0.heap.size, 0, none⟩ 1 1 [y] hx (by simp) ?_ (by simpa using hone) (by unfold maxLen; omega) (by omega) (by simp; omega) ?_
  · intro j t ht
    have hj : j = 0 := by
      rcases Nat.eq_zero_or_pos j with e | e
      · exact e
      · rw [List.getElem?_eq_none (by simp; omega)] at ht; cases ht
    subst hj
    rw [Ru.add_off, hc]
    simpa using ht
  · intro v' w' hown' hg _
    exact hK _ _ (h v' w' hown' ((hb0.mono hB).trans ((Below.refl B _).grown hg (by simp; omega) (fun j e => (World.ownsRow.lt h1a j e).1))))
/-- The rows that have been cut. -/
def cutL (p : Option Addr) (cap m j : Nat) : List Value := (List.range j).map fun i => cutS p (i * m) (i * m + m) cap
theorem cutL_next (p : Option Addr) (cap m j : Nat) : cutL p cap m j ++ [cutS p (j * m) (j * m + m) cap] = cutL p cap m (j + 1) := by simp [cutL, List.range_succ]
theorem cutL_at {p : Option Addr} {cap m n j : Nat} (h : j < n) : (cutL p cap m n)[j]? = some (cutS p (j * m) (j * m + m) cap) := by simp [cutL, h]
/-- A slice of rows, that lies in a block from g0 on and below N; the rows' cells lie below G. -/
def RW (G g0 N : Nat) (w : World) (u : Value) (L : List (List Int)) : Prop :=
  ∃ a cap, u = .slice a L.length cap ∧ (L ≠ [] → ∃ b, a = some ⟨b, 0, none⟩ ∧ (g0 ≤ b ∧ b < N) ∧ ∀ j (hj : j < L.length), ∃ x, w.cell? ⟨b, j, none⟩ = some x ∧ RdI G w x L[j] ∧ Ru.NilC x)
theorem RW.keep {G g0 N : Nat} {w w' : World} {u : Value} {L : List (List Int)} (h : RW G g0 N w u L) (hb : ∀ c, c < G ∨ (g0 ≤ c ∧ c < N) → w'.heap[c]? = w.heap[c]?) : RW G g0 N w' u L := by
  obtain ⟨a, cap, h1, h2⟩ := h
  refine ⟨a, cap, h1, fun hn => ?_⟩
  obtain ⟨b, e, hbb, hc⟩ := h2 hn
  refine ⟨b, e, hbb, fun j hj => ?_⟩
  obtain ⟨x, e1, e2, e3⟩ := hc j hj
  have hk : w'.cell? ⟨b, j, none⟩ = w.cell? ⟨b, j, none⟩ := World.cell?_of_block (hb b (.inr hbb))
  refine ⟨x, hk.trans e1, ?_, e3⟩
  obtain ⟨q, c, f1, f2, f3, f4⟩ := e2
  refine ⟨q, c, f1, f2, f3, fun hn => ?_⟩
  obtain ⟨b2, off, g1, g2, g3⟩ := f4 hn
  exact ⟨b2, off, g1, g2, fun t ht => (World.cell?_of_block (hb b2 (.inl g2))).trans (g3 t ht)⟩
theorem RW.next {G g0 N : Nat} {w w' : World} {u : Value} {L : List (List Int)} (h : RW G g0 N w u L) (hG : G ≤ N) (hb : Below N w w') : RW G g0 N w' u L :=
  h.keep fun c hc => hb.block c (by omega)
theorem RW.row {G g0 N : Nat} {w : World} {u : Value} {L : List (List Int)} (h : RW G g0 N w u L) {j : Nat} (hj : j < L.length) : ∃ b cap q c, u = .slice (some ⟨b, 0, none⟩) L.length cap ∧ w.cell? ⟨b, j, none⟩ = some (.slice q L[j].length c) ∧ RdI G w (.slice q L[j].length c) L[j] := by
  obtain ⟨a, cap, h1, h2⟩ := h
  obtain ⟨b, e, hbb, hc⟩ := h2 (by intro e; rw [e] at hj; simp at hj)
  obtain ⟨x, e1, e2, e3⟩ := hc j hj
  obtain ⟨q, c, f1, f2⟩ := e2
  subst e f1
  exact ⟨b, cap, q, c, h1, e1, _, _, rfl, f2⟩
theorem RW.form {G g0 N : Nat} {w : World} {u : Value} {L : List (List Int)} (h : RW G g0 N w u L) : ∃ a cap, u = .slice a L.length cap := by
  obtain ⟨a, cap, h1, _⟩ := h
  exact ⟨a, cap, h1⟩
theorem rw_cut {A : Ar} (hA : ck A = 0) {B G N : Nat} {w : World} {p : Option Addr} {cap : Nat} {u : Value} (hv : RdI G w (.slice p A.z.length cap) A.z) (hn : Ru.NilC (.slice p A.z.length cap)) (h1 : w.ownsRow B 23 1 u (rwN A) (cutL p cap (rwM A) (rwN A))) (hN : w.heap.size ≤ N) : RW G B N w u (rwL A) := by
  have hl := rwL_len hA
  rcases h1.2 with ⟨rfl, h0⟩ | ⟨g, cap', cur, rfl, hg, hh, r1, r2, r3, r4⟩
  · have : rwL A = [] := List.length_eq_zero_iff.1 (by omega)
    rw [this]
    exact ⟨none, 0, rfl, fun h => absurd rfl h⟩
  · refine ⟨_, cap', by rw [hl], fun _ => ⟨g, rfl, ⟨hg, Nat.lt_of_lt_of_le (Array.getElem?_eq_some_iff.1 hh).1 hN⟩, fun j hj => ?_⟩⟩
    have hj2 : j < rwN A := by omega
    refine ⟨_, (World.ownsRow.cellAt h1 j (by omega)).trans (cutL_at hj2), ?_, cut_nil hn⟩
    rw [rwL_get hA]
    exact cut_rd (ck_good hA) hv hj2
theorem rwL_vec {A : Ar} (hA : ck A = 0) (hr : A.r = 1) : rwL A = [A.z] := by
  obtain ⟨q1, q2, _, _⟩ := rw_vec (ck_good hA) hr
  unfold rwL
  rw [if_pos hA, q1]
  show [rwI A 0] = _
  unfold rwI
  rw [Nat.zero_mul, List.drop_zero, List.take_of_length_le (by omega)]
end Go.Proofs.YthfpmpmhoegicaaDoor
namespace Go.Proofs.YthfpmpmhoegicaaDoor
open Go.RowKit

theorem scL_last {row : List Int} (h : 0 < row.length) : (scL 0 row).getD (row.length - 1) 0 = row.sum := by
  rw [scL_at 0 (by omega), Int.zero_add, show row.length - 1 + 1 = row.length by omega, List.take_of_length_le (Nat.le_refl _)]

theorem en1_take {p : Int} {row : List Int} {t : Nat} (h1 : 1 ≤ t) (h : t < row.length) : en1 p (row.take (t + 1)) = mm p (en1 p (row.take t)) (row.getD t 0) := by
  cases row with
  | nil => simp at h
  | cons c l =>
    obtain ⟨s, rfl⟩ : ∃ s, t = s + 1 := ⟨t - 1, by omega⟩
    have hs : s < l.length := by simpa using h
    unfold en1
    simp only [List.take_succ_cons, List.tail_cons, List.headD_cons, List.getD_cons_succ]
    rw [← takeI_snoc hs, List.foldl_append]
    rfl
theorem en1_one {p : Int} {row : List Int} (h : 0 < row.length) : en1 p (row.take 1) = row.getD 0 0 := by
  cases row with
  | nil => simp at h
  | cons c l => simp [en1]
end Go.Proofs.YthfpmpmhoegicaaDoor
namespace Go.Proofs.YthfpmpmhoegicaaDoor
open Go.RowKit

/-- What the loop of Scan keeps; the sums so far lie in the block g, and in blocks from B on. -/
structure KS (w : World) (A : Ar) (v : Value) (g g0 B : Nat) (ul U : Value) (l : List Int) (W : World) : Prop where
  m : MK1 w A v W
  o : R5 W g 1 A.r A.a A.b U
  i : Ru.Ins 2 W B U l
  r : RW w.heap.size g0 B W ul (rwL A)
  le : B ≤ W.heap.size
theorem KS.next {w W W' : World} {A : Ar} {v : Value} {g g0 B : Nat} {ul U : Value} {l : List Int} (k : KS w A v g g0 B ul U l W) (hB : w.heap.size ≤ B) (hb : Below W.heap.size W W') : KS w A v g g0 B ul U l W' :=
  ⟨k.m.next hb, k.o.next hb, ins_next7 k.i hb, k.r.next hB (hb.mono k.le), Nat.le_trans k.le hb.size⟩
theorem R5.put47 {w : World} {g : Nat} {k r a b : Int} {v : Value} (h : R5 w g k r a b v) (u : Value) : R5 (w.setCell ⟨g, 4, none⟩ u) g k r a b u := by
  unfold R5 at h ⊢
  simp [World.setCell, Array.getElem?_modify, h]
theorem ins_put4 {w : World} {B g : Nat} {u v0 : Value} {l : List Int} {k r a b : Int} (h : Ru.Ins 2 w B u l) (hs : R5 w g k r a b v0) (v : Value) : Ru.Ins 2 (w.setCell ⟨g, 4, none⟩ v) B u l :=
  own_keep7 h fun j c hk => blkO _ _ _ _ fun e => by
    subst e
    unfold R5 at hs
    rw [hs] at hk
    simp at hk
theorem KS.step {w W W' : World} {A : Ar} {v : Value} {g g0 B : Nat} {ul U U' : Value} {l l' : List Int} (k : KS w A v g g0 B ul U l W) (hw : Ru.Lay w) (hB : w.heap.size + 2 ≤ g) (hg : g < g0) (hg0 : g0 ≤ B) (hb : Below B W W') (hi : Ru.Ins 2 W' B U' l') :
    KS w A v g g0 B ul U' l' (W'.setCell ⟨g, 4, none⟩ U') := by
  have h3 := hw.size
  have ho : R5 W' g 1 A.r A.a A.b U := (hb.block _ (by omega)).trans k.o
  have hr := k.r.next (by omega) hb
  have hm : MK1 w A v W' := k.m.far (hb.mono (by omega)) (k.m.lay.below (by omega) hb)
  refine ⟨?_, ho.put47 U', ins_put4 hi ho U', hr.keep fun c hc => blkO _ _ _ _ (by omega), by have := hb.size; have := k.le; simp; omega⟩
  exact hm.far ((Below.refl _ _).setCell (p := ⟨g, 4, none⟩) hB _) (hm.lay.below (by omega) ((Below.refl _ _).setCell (p := ⟨g, 4, none⟩) hB _))

end Go.Proofs.YthfpmpmhoegicaaDoor
