/- Plain facts for the law Flat: sums and ends of all cells, row by row. -/
import Derived.Test.YthfpmpmhoegicaaDoorFoNa
import Derived.Test.YthfpmpmhoegicaaDoorMvPb
namespace Go.Proofs.YthfpmpmhoegicaaDoor
open Go.RowKit

theorem rows_take (A : Ar) : ∀ j, ((List.range j).map (rwI A)).flatten = A.z.take (j * rwM A)
  | 0 => by simp
  | j + 1 => by
    rw [List.range_succ, List.map_append, List.flatten_append, rows_take A j]
    simp only [List.map_cons, List.map_nil, List.flatten_cons, List.flatten_nil, List.append_nil]
    unfold rwI
    rw [Nat.add_mul, Nat.one_mul, List.take_add]
/-- The rows, one after the other, are the cells. -/
theorem rows_flat {A : Ar} (h : ck A = 0) : (rwL A).flatten = A.z := by
  obtain ⟨_, _, hl, _, _⟩ := rw_good (ck_good h)
  unfold rwL
  rw [if_pos h, rows_take, hl, List.take_length]
theorem sum_flat : ∀ L : List (List Int), L.flatten.sum = (L.map List.sum).sum
  | [] => rfl
  | l :: L => by rw [List.flatten_cons, List.sum_append_int, sum_flat L, List.map_cons, List.sum_cons]
theorem vec_isG {z : List Int} (hl : z.length ≤ 400) : isG (vecA 1 z) := ⟨by show z.length ≤ _; omega, ck_vec (.inl rfl) hl (fun e => by cases e), rfl, .inl rfl⟩
theorem rows_le {A : Ar} (h : ck A = 0) {α : Type} (g : List Int → α) : ((rwL A).map g).length = rwN A ∧ rwN A ≤ 400 := ⟨by rw [List.length_map, rwL_len h], (rw_good (ck_good h)).2.2.2.1⟩
/-- Sum of a matrix. -/
theorem sm_mat {A : Ar} (h : isG A) (hr : A.r = 2) (h0 : smE A = 0) : smV A = vecA 1 ((rwL A).map List.sum) := by
  have hv : (rwL A).map sm1 = (rwL A).map fun l => (l.sum, 0) := List.map_congr_left fun l hl => by
    have hz := feL_zero.1 (h.sm.symm.trans h0) (sm1 l) (List.mem_map.2 ⟨l, hl, rfl⟩)
    by_cases e : okS 0 l = true
    · exact sm1_yes e
    · unfold sm1 at hz; rw [if_neg e] at hz; cases hz
  unfold smV
  rw [orNo_yes h0, hv, vsL_pure]
  unfold ofR
  rw [if_neg (by omega)]
  rfl
def s2E (A : Ar) : Int := if smE A = 0 then smE (smV A) else smE A
def s2V (A : Ar) : Ar := if smE A = 0 then smV (smV A) else smV A
/-- The sum of the sums of a matrix. -/
theorem s2_mat {A : Ar} (h : isG A) (hr : A.r = 2) (h0 : s2E A = 0) : s2V A = ⟨1, 0, 0, 0, [A.z.sum]⟩ := by
  unfold s2E at h0
  unfold s2V
  by_cases e : smE A = 0
  · rw [if_pos e] at h0 ⊢
    have hm := sm_mat h hr e
    obtain ⟨hl, hl2⟩ := rows_le h.c List.sum
    have hG := vec_isG (z := (rwL A).map List.sum) (by omega)
    rw [hm] at h0 ⊢
    have := (sm_vec hG rfl).2 h0
    rw [this.2]
    show (⟨1, 0, 0, 0, [((rwL A).map List.sum).sum]⟩ : Ar) = _
    rw [← sum_flat, rows_flat h.c]
  · rw [if_neg e] at h0; exact absurd h0 e
/-- The ends of a matrix. -/
theorem en_mat {A : Ar} (hr : A.r = 2) (p : Int) (h0 : enE A = 0) : enV p A = vecA 1 ((rwL A).map (en1 p)) := by
  unfold enV
  rw [orNo_yes h0]
  unfold ofR
  rw [if_neg (by omega)]
  rfl
def e2E (p : Int) (A : Ar) : Int := if enE A = 0 then enE (enV p A) else enE A
def e2V (p : Int) (A : Ar) : Ar := if enE A = 0 then enV p (enV p A) else enV p A
theorem en_flat (p : Int) : ∀ L : List (List Int), (∀ l ∈ L, l ≠ []) → L ≠ [] → L.flatten ≠ [] ∧ en1 p L.flatten = en1 p (L.map (en1 p))
  | [], _, h => absurd rfl h
  | [l], h, _ => by
    rw [List.flatten_cons, List.flatten_nil, List.append_nil]
    exact ⟨h l (by simp), rfl⟩
  | l :: l' :: L, h, _ => by
    obtain ⟨h1, h2⟩ := en_flat p (l' :: L) (fun x hx => h x (List.mem_cons_of_mem _ hx)) (by simp)
    have hl := h l (by simp)
    have hm : ((l' :: L).map (en1 p)) ≠ [] := by simp
    refine ⟨by rw [List.flatten_cons]; simp [hl], ?_⟩
    rw [List.flatten_cons, en1_app hl h1, h2, List.map_cons]
    show _ = en1 p ([en1 p l] ++ (l' :: L).map (en1 p))
    rw [en1_app (by simp) hm]
    rfl
/-- The end of the ends of a matrix. -/
theorem e2_mat {A : Ar} (h : isG A) (hr : A.r = 2) (p : Int) : (e2E p A = 0 ↔ A.z.length ≠ 0) ∧ (e2E p A = 0 → e2V p A = ⟨1, 0, 0, 0, [en1 p A.z]⟩) := by
  obtain ⟨_, _, hl, _, _⟩ := rw_good h.good
  obtain ⟨hl1, hl2⟩ := rows_le h.c (en1 p)
  unfold e2E e2V
  by_cases e : enE A = 0
  · simp only [if_pos e]
    have hm := en_mat hr p e
    have hG := vec_isG (z := (rwL A).map (en1 p)) (by omega)
    obtain ⟨v1, v2⟩ := en_vec hG rfl p
    rw [hm]
    have v1' : enE (vecA 1 ((rwL A).map (en1 p))) = if rwN A = 0 then 13 else 0 := by
      rw [v1]
      show (if ((rwL A).map (en1 p)).length = 0 then (13 : Int) else 0) = _
      rw [hl1]
    have hn : ¬ (0 < rwN A ∧ rwM A = 0) := by
      intro x
      rw [h.en, if_pos x] at e
      cases e
    refine ⟨?_, fun h0 => ?_⟩
    · rw [v1']
      by_cases hz : rwN A = 0
      · rw [if_pos hz, ← hl, hz, Nat.zero_mul]
        simp
      · rw [if_neg hz]
        refine ⟨fun _ => ?_, fun _ => rfl⟩
        rw [← hl]
        have h1 : 0 < rwN A := by omega
        have h2 : 0 < rwM A := by omega
        have := Nat.mul_pos h1 h2
        omega
    · rw [(v2 h0).2]
      have hz : rwN A ≠ 0 := by
        intro x
        rw [v1', if_pos x] at h0
        cases h0
      have h2 : 0 < rwM A := by omega
      show (⟨1, 0, 0, 0, [en1 p ((rwL A).map (en1 p))]⟩ : Ar) = _
      rw [← (en_flat p (rwL A) (fun l hl3 => ?_) (fun x => ?_)).2, rows_flat h.c]
      · obtain ⟨i, hi, rfl⟩ := List.mem_iff_getElem.1 hl3
        rw [rwL_get h.c]
        intro x
        have := rwI_len h.good (i := i) (by rw [← rwL_len h.c]; exact hi)
        rw [x] at this
        simp at this
        omega
      · have := rwL_len h.c
        rw [x] at this
        simp at this
        omega
  · simp only [if_neg e]
    refine ⟨⟨fun x => absurd x e, fun x => ?_⟩, fun x => absurd x e⟩
    rw [h.en] at e
    by_cases y : 0 < rwN A ∧ rwM A = 0
    · exact absurd (by rw [← hl, y.2, Nat.mul_zero]) x
    · rw [if_neg y] at e; exact absurd rfl e
/-- Sums of grids. -/
def rsum (n : Nat) (g : Nat → Int) : Int := ((List.range n).map g).sum
theorem rsum_succ (n : Nat) (g : Nat → Int) : rsum (n + 1) g = rsum n g + g n := by
  unfold rsum
  rw [List.range_succ, List.map_append, List.sum_append_int]
  simp
theorem rsum_congr {n : Nat} {f g : Nat → Int} (h : ∀ k, k < n → f k = g k) : rsum n f = rsum n g := by
  unfold rsum
  rw [List.map_congr_left fun k hk => h k (List.mem_range.1 hk)]
theorem rsum_add (n : Nat) (f g : Nat → Int) : rsum n (fun k => f k + g k) = rsum n f + rsum n g := by
  induction n with
  | zero => rfl
  | succ n ih => rw [rsum_succ, rsum_succ, rsum_succ, ih]; omega
theorem rsum_zero (n : Nat) : rsum n (fun _ => 0) = 0 := by
  induction n with
  | zero => rfl
  | succ n ih => rw [rsum_succ, ih]; rfl
theorem rsum_swap (n m : Nat) (f : Nat → Nat → Int) : rsum n (fun i => rsum m (f i)) = rsum m (fun k => rsum n fun i => f i k) := by
  induction n with
  | zero => exact (rsum_zero m).symm
  | succ n ih =>
    rw [rsum_succ, ih, ← rsum_add]
    exact rsum_congr fun k _ => (rsum_succ n fun i => f i k).symm
theorem gl_sum (n m : Nat) (f : Nat → Nat → Int) : (gl n m f).sum = rsum n fun i => rsum m (f i) := by
  induction n with
  | zero => simp [gl, rsum]
  | succ n ih =>
    rw [rsum_succ, ← ih]
    unfold gl rsum
    rw [Nat.add_mul, Nat.one_mul, List.range_add, List.map_append, List.sum_append_int, List.map_map]
    congr 2
    refine List.map_congr_left fun k hk => ?_
    have hk := List.mem_range.1 hk
    show f ((n * m + k) / m) ((n * m + k) % m) = f n k
    rw [div_at hk, mod_at hk]
theorem fp_sum {A : Ar} (h : Good A) : (fpZ A).sum = A.z.sum := by
  obtain ⟨_, _, hl, _, _⟩ := rw_good h
  have e : A.z.sum = (gl (rwN A) (rwM A) fun i k => A.z.getD (i * rwM A + k) 0).sum := by rw [← gl_self hl.symm]
  rw [e, gl_sum, rsum_swap]
  unfold fpZ
  rw [gl_sum]
theorem mem_getD {l : List Int} {x : Int} : x ∈ l ↔ ∃ t, t < l.length ∧ l.getD t 0 = x := by
  rw [List.mem_iff_getElem]
  refine ⟨fun ⟨t, ht, e⟩ => ⟨t, ht, by rw [List.getD_eq_getElem?_getD, List.getElem?_eq_getElem ht]; exact e⟩, fun ⟨t, ht, e⟩ => ⟨t, ht, by rw [List.getD_eq_getElem?_getD, List.getElem?_eq_getElem ht] at e; exact e⟩⟩
theorem fp_mem {A : Ar} (h : Good A) (x : Int) : x ∈ fpZ A ↔ x ∈ A.z := by
  obtain ⟨_, _, hl, _, _⟩ := rw_good h
  have hf : (fpZ A).length = rwM A * rwN A := gl_len _ _ _
  rw [mem_getD, mem_getD]
  constructor
  · rintro ⟨t, ht, e⟩
    rw [hf] at ht
    obtain ⟨h1, h2, _⟩ := split_lt ht
    unfold fpZ at e
    rw [gl_getD ht] at e
    exact ⟨_, by rw [← hl]; exact lt_at h2 h1, e⟩
  · rintro ⟨t, ht, e⟩
    rw [← hl] at ht
    obtain ⟨h1, h2, h3⟩ := split_lt ht
    refine ⟨t % rwM A * rwN A + t / rwM A, by rw [hf]; exact lt_at h2 h1, ?_⟩
    unfold fpZ
    rw [gl_at h2 h1, ← h3]
    exact e
/-- An end is one of the cells, and no cell goes beyond it: it depends on the set of the cells alone. -/
theorem mm_abs {p F b c : Int} (h : mm p F (mm p b c) = F) : mm p F b = F ∧ mm p F c = F := by
  unfold mm at h ⊢
  by_cases e : p = 31
  · simp only [if_pos e] at h ⊢
    omega
  · simp only [if_neg e] at h ⊢
    omega
theorem mm_self (p x : Int) : mm p x x = x := by unfold mm; split <;> omega
theorem mm_comm (p x y : Int) : mm p x y = mm p y x := by unfold mm; split <;> omega
theorem mm_one (p x y : Int) : mm p x y = x ∨ mm p x y = y := by unfold mm; split <;> omega
theorem fold_keep (p : Int) : ∀ (l : List Int) (b : Int), mm p (l.foldl (mm p) b) b = l.foldl (mm p) b ∧ (∀ x ∈ l, mm p (l.foldl (mm p) b) x = l.foldl (mm p) b) ∧ (l.foldl (mm p) b = b ∨ l.foldl (mm p) b ∈ l)
  | [], b => ⟨mm_self p b, fun _ h => by simp at h, .inl rfl⟩
  | c :: l, b => by
    obtain ⟨h1, h2, h3⟩ := fold_keep p l (mm p b c)
    rw [List.foldl_cons]
    generalize l.foldl (mm p) (mm p b c) = F at h1 h2 h3
    obtain ⟨h4, h5⟩ := mm_abs h1
    refine ⟨h4, fun x hx => ?_, ?_⟩
    · rcases List.mem_cons.1 hx with rfl | hx
      · exact h5
      · exact h2 x hx
    · rcases h3 with h3 | h3
      · rcases mm_one p b c with e | e
        · exact .inl (h3.trans e)
        · exact .inr (by rw [h3, e]; simp)
      · exact .inr (List.mem_cons_of_mem _ h3)
theorem en_keep (p : Int) {l : List Int} (h : l ≠ []) : (∀ x ∈ l, mm p (en1 p l) x = en1 p l) ∧ en1 p l ∈ l := by
  cases l with
  | nil => exact absurd rfl h
  | cons c l =>
    obtain ⟨h1, h2, h3⟩ := fold_keep p l c
    show (∀ x ∈ c :: l, mm p (l.foldl (mm p) c) x = l.foldl (mm p) c) ∧ l.foldl (mm p) c ∈ c :: l
    refine ⟨fun x hx => ?_, ?_⟩
    · rcases List.mem_cons.1 hx with rfl | hx
      · exact h1
      · exact h2 x hx
    · rcases h3 with e | e
      · rw [e]; simp
      · exact List.mem_cons_of_mem _ e
theorem en_set (p : Int) {l m : List Int} (hl : l ≠ []) (hm : m ≠ []) (h : ∀ x, x ∈ l ↔ x ∈ m) : en1 p l = en1 p m := by
  obtain ⟨a1, a2⟩ := en_keep p hl
  obtain ⟨b1, b2⟩ := en_keep p hm
  rw [← a1 _ ((h _).2 b2), mm_comm, b1 _ ((h _).1 a2)]
theorem fp_isG {A : Ar} (h : isG A) (hr : A.r = 2) : isG (fpV A) ∧ (fpV A).r = 2 ∧ (fpV A).z = fpZ A := by
  have e := fpV_ok h.good hr
  rw [e]
  exact ⟨⟨by show (fpZ A).length ≤ _; rw [fpZ_len h.good]; exact h.l, good_ck (fp_good h.good hr), h.k, .inr rfl⟩, rfl, rfl⟩
theorem ra_isG {A : Ar} (h : isG A) : isG (raV A) ∧ (raV A).r = 1 ∧ (raV A).z = A.z := by
  have e : raV A = vecA A.k A.z := orNo_yes h.c
  rw [e, h.k]
  exact ⟨vec_isG (by have := (rw_good h.good); have := h.good.len4; omega), rfl, rfl⟩
/-- What the law Flat says, for a matrix B with the cells of A in any order. -/
theorem flat11 {A B : Ar} (h : isG A) (hB : isG B) (hr : B.r = 2) (hs : B.z.sum = A.z.sum) (hl : B.z.length = A.z.length) (hm : ∀ x, x ∈ B.z ↔ x ∈ A.z) :
    (s2E B = 0 → smE (raV A) = 0 → s2V B = smV (raV A)) ∧ (∀ p, (e2E p B = 0 ↔ enE (raV A) = 0) ∧ (enE (raV A) = 0 → e2V p B = enV p (raV A))) := by
  obtain ⟨g, g1, gz⟩ := ra_isG h
  refine ⟨fun h1 h2 => ?_, fun p => ?_⟩
  · rw [s2_mat hB hr h1, ((sm_vec g g1).2 h2).2, gz, hs]
  · obtain ⟨x1, x2⟩ := e2_mat hB hr p
    obtain ⟨y1, y2⟩ := en_vec g g1 p
    have hi : e2E p B = 0 ↔ enE (raV A) = 0 := by
      rw [x1, y1, gz, hl]
      by_cases e : A.z.length = 0
      · rw [if_pos e]; simp [e]
      · rw [if_neg e]; simp [e]
    refine ⟨hi, fun h0 => ?_⟩
    obtain ⟨y3, y4⟩ := y2 h0
    rw [gz] at y3
    have hne : B.z ≠ [] := fun e => y3 (List.length_eq_zero_iff.1 (by rw [← hl, e]; rfl))
    rw [x2 (hi.2 h0), y4, gz, en_set p hne y3 hm]
end Go.Proofs.YthfpmpmhoegicaaDoor
