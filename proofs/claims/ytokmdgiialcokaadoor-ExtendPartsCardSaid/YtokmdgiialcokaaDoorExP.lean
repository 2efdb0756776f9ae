/- Plain facts: primitives of numbers commute with Flip, Ravel and Reverse. -/
import Derived.Test.YtokmdgiialcokaaDoorExA
import Derived.Test.YtokmdgiialcokaaDoorMvPs
namespace Go.Proofs.YtokmdgiialcokaaDoor
open Go.RowKit

theorem fe2_zero {p : Int} {A B : Ar} : feL (c2 p A B) = 0 ↔ ∀ i, i < (boV A B).z.length → (Sc.twoV p (celI A i) (celI B i)).2 = 0 := by
  rw [feL_zero]
  constructor
  · intro h i hi
    exact h _ (List.mem_of_getElem? (c2_at (p := p) hi))
  · intro h c hc
    obtain ⟨i, hi⟩ := List.getElem?_of_mem hc
    have hl : i < (boV A B).z.length := by
      rcases Nat.lt_or_ge i (boV A B).z.length with h' | h'
      · exact h'
      · rw [List.getElem?_eq_none (by rw [c2_len]; exact h')] at hi; cases hi
    rw [c2_at hl] at hi
    rw [← Option.some.inj hi]
    exact h i hl
theorem vs2_at {p : Int} {A B : Ar} {i : Nat} (hi : i < (boV A B).z.length) : (vsL (c2 p A B)).getD i 0 = (Sc.twoV p (celI A i) (celI B i)).1 := vsL_at (e := (Sc.twoV p (celI A i) (celI B i)).2) (c2_at hi)
theorem fe1_zero {p : Int} {A : Ar} : feL (c1 p A) = 0 ↔ ∀ x ∈ A.z, (Sc.oneV p x).2 = 0 := by
  rw [feL_zero]
  unfold c1
  simp
theorem vs1_at {p : Int} {A : Ar} {i : Nat} (hi : i < A.z.length) : (vsL (c1 p A)).getD i 0 = (Sc.oneV p (A.z.getD i 0)).1 := vsL_at (e := (Sc.oneV p (A.z.getD i 0)).2) (c1_at hi)
theorem kd_same {p : Int} {A B A' B' : Ar} (h : A'.k = A.k) (h' : B'.k = B.k) : kdB p A' B' = kdB p A B := by unfold kdB; rw [h, h']
theorem twF_same {p : Int} {A B A' B' : Ar} (hA : Good A) (hB : Good B) (hA' : Good A') (hB' : Good B') (h : A'.k = A.k) (h' : B'.k = B.k) (hb : boE A' B' = boE A B) : twF p A' B' = twF p A B := by
  unfold twF
  rw [good_ck hA, good_ck hB, good_ck hA', good_ck hB', kd_same h h', hb]
theorem onF_same {p : Int} {A A' : Ar} (hA : Good A) (hA' : Good A') (h : A'.k = A.k) : onF p A' = onF p A := by
  unfold onF
  rw [good_ck hA, good_ck hA', h]
theorem bo_two {A B : Ar} (ha : A.r = B.r) (hb : A.a = B.a ∧ A.b = B.b) : boE A B = 0 := by
  unfold boE
  split
  · rfl
  · split
    · rfl
    · rw [if_neg (not_not_intro ha), if_neg (by omega)]
theorem bv_two {A B : Ar} (ha : A.r ≠ 0) : boV A B = A := by unfold boV; split <;> first | rfl | rw [if_neg ha]
theorem cel_vec {A : Ar} (h : A.r ≠ 0) (i : Nat) : celI A i = A.z.getD i 0 := by unfold celI; rw [if_neg h]
/-- With an error of cells or none: what comes of equal errors before. -/
theorem exE_zero {E : Int} {cs : List (Int × Int)} : exE E cs = 0 ↔ E = 0 ∧ feL cs = 0 := by
  unfold exE
  by_cases h : E = 0
  · rw [if_pos h]; exact ⟨fun h' => ⟨h, h'⟩, fun h' => h'.2⟩
  · rw [if_neg h]; exact ⟨fun h' => absurd h' h, fun h' => absurd h'.1 h⟩
theorem twV_ok {p : Int} {A B : Ar} (h : twE p A B = 0) : twV p A B = ⟨1, (boV A B).r, (boV A B).a, (boV A B).b, vsL (c2 p A B)⟩ := by unfold twV exV; exact orNo_yes h
theorem onV_ok {p : Int} {A : Ar} (h : onE p A = 0) : onV p A = ⟨1, A.r, A.a, A.b, vsL (c1 p A)⟩ := by unfold onV exV; exact orNo_yes h
theorem tw_good {p : Int} {A B : Ar} (hA : Good A) (hB : Good B) (h : twE p A B = 0) : Good (twV p A B) := by
  rw [twV_ok h]
  exact ck_good (ex_ck (bo_good hA hB) ((vsL_len _).trans (c2_len p A B)))
theorem on_good {p : Int} {A : Ar} (hA : Good A) (h : onE p A = 0) : Good (onV p A) := by
  rw [onV_ok h]
  exact ck_good (ex_ck hA ((vsL_len _).trans (c1_len p A)))
/-- Two matrices of one shape. -/
structure Mats (A B : Ar) : Prop where
  a : Good A
  b : Good B
  ra : A.r = 2
  rb : B.r = 2
  la : A.a = B.a
  lb : A.b = B.b
theorem Mats.rw {A B : Ar} (h : Mats A B) : rwN B = rwN A ∧ rwM B = rwM A := by unfold rwN rwM; rw [h.ra, h.rb, h.la, h.lb]; exact ⟨rfl, rfl⟩
theorem Mats.flip {A B : Ar} (h : Mats A B) : Mats (fpV A) (fpV B) := by
  rw [fpV_ok h.a h.ra, fpV_ok h.b h.rb]
  exact ⟨fp_good h.a h.ra, fp_good h.b h.rb, rfl, rfl, h.lb, h.la⟩
theorem Mats.fl {p : Int} {A B : Ar} (h : Mats A B) : twF p (fpV A) (fpV B) = twF p A B := by
  have hf := h.flip
  refine twF_same h.a h.b hf.a hf.b ?_ ?_ ?_
  · rw [fpV_ok h.a h.ra]
  · rw [fpV_ok h.b h.rb]
  · rw [bo_two (hf.ra.trans hf.rb.symm) ⟨hf.la, hf.lb⟩, bo_two (h.ra.trans h.rb.symm) ⟨h.la, h.lb⟩]
theorem Mats.at {A B : Ar} (h : Mats A B) {t : Nat} (ht : t < rwM A * rwN A) : t % rwN A * rwM A + t / rwN A < A.z.length ∧ celI (fpV A) t = celI A (t % rwN A * rwM A + t / rwN A) ∧ celI (fpV B) t = celI B (t % rwN A * rwM A + t / rwN A) := by
  obtain ⟨_, _, hl, _⟩ := rw_mat h.a h.ra
  obtain ⟨h1, h2, _⟩ := split_lt ht
  have hr := h.rw
  refine ⟨by rw [hl]; exact lt_at h2 h1, ?_, ?_⟩
  · rw [cel_vec (by rw [h.flip.ra]; decide), cel_vec (by rw [h.ra]; decide), fpV_ok h.a h.ra]
    show (fpZ A).getD t 0 = _
    unfold fpZ
    rw [gl_getD ht]
  · rw [cel_vec (by rw [h.flip.rb]; decide), cel_vec (by rw [h.rb]; decide), fpV_ok h.b h.rb]
    show (fpZ B).getD t 0 = _
    unfold fpZ
    rw [hr.1, hr.2, gl_getD ht]
theorem Mats.len {A B : Ar} (h : Mats A B) : (boV A B).z.length = rwN A * rwM A ∧ (boV (fpV A) (fpV B)).z.length = rwM A * rwN A := by
  obtain ⟨_, _, hl, _⟩ := rw_mat h.a h.ra
  rw [bv_two (by rw [h.ra]; decide), bv_two (by rw [h.flip.ra]; decide), fpV_ok h.a h.ra]
  refine ⟨hl, ?_⟩
  show (fpZ A).length = _
  unfold fpZ
  rw [gl_len]
theorem Mats.zero {p : Int} {A B : Ar} (h : Mats A B) (hz : feL (c2 p A B) = 0) : feL (c2 p (fpV A) (fpV B)) = 0 := by
  rw [fe2_zero] at hz ⊢
  intro t ht
  rw [h.len.2] at ht
  obtain ⟨h1, h2, h3⟩ := h.at ht
  rw [h2, h3]
  obtain ⟨_, _, hl, _⟩ := rw_mat h.a h.ra
  exact hz _ (by rw [h.len.1, ← hl]; exact h1)
theorem Mats.twice {A B : Ar} (h : Mats A B) : fpV (fpV A) = A ∧ fpV (fpV B) = B := ⟨(fp_twice h.a h.ra).2.2, (fp_twice h.b h.rb).2.2⟩
theorem Mats.both {p : Int} {A B : Ar} (h : Mats A B) : twE p (fpV A) (fpV B) = 0 ↔ twE p A B = 0 := by
  unfold twE
  rw [exE_zero, exE_zero, h.fl]
  refine ⟨fun hz => ⟨hz.1, ?_⟩, fun hz => ⟨hz.1, h.zero hz.2⟩⟩
  have := h.flip.zero hz.2
  rwa [h.twice.1, h.twice.2] at this
theorem Mats.val {p : Int} {A B : Ar} (h : Mats A B) (hz : twE p A B = 0) : fpEE (twV p A B) = 0 ∧ twV p (fpV A) (fpV B) = fpV (twV p A B) := by
  have hg := tw_good h.a h.b hz
  have hb : boV A B = A := bv_two (by rw [h.ra]; decide)
  have hr2 : (twV p A B).r = 2 := by rw [twV_ok hz, hb]; exact h.ra
  refine ⟨fpEE_ok hg hr2, ?_⟩
  rw [fpV_ok hg hr2, twV_ok (h.both.2 hz), bv_two (by rw [h.flip.ra]; decide), h.flip.ra]
  have ea : (fpV A).a = (twV p A B).b := by rw [fpV_ok h.a h.ra, twV_ok hz, hb]
  have eb : (fpV A).b = (twV p A B).a := by rw [fpV_ok h.a h.ra, twV_ok hz, hb]
  have ek : (twV p A B).k = 1 := by rw [twV_ok hz]
  rw [ea, eb, ek]
  have hN : rwN (twV p A B) = rwN A ∧ rwM (twV p A B) = rwM A := by unfold rwN rwM; rw [twV_ok hz, hb]; exact ⟨rfl, rfl⟩
  have hzz : (twV p A B).z = vsL (c2 p A B) := by rw [twV_ok hz]
  have : vsL (c2 p (fpV A) (fpV B)) = fpZ (twV p A B) := by
    refine ext_getD ?_ fun t ht => ?_
    · rw [vsL_len, c2_len, h.len.2, fpZ, gl_len, hN.1, hN.2]
    · rw [vsL_len, c2_len, h.len.2] at ht
      obtain ⟨h1, h2, h3⟩ := h.at ht
      rw [vs2_at (by rw [h.len.2]; exact ht), h2, h3]
      unfold fpZ
      rw [hN.1, hN.2, gl_getD ht, hzz, vs2_at (by rw [hb]; exact h1)]
  rw [this]
/-- Ravel. -/
theorem rav_good {A : Ar} (h : Good A) : Good (vecA A.k A.z) := ck_good (ck_vec h.kind (by have := h.len4; omega) h.runes)
theorem Mats.len2 {A B : Ar} (h : Mats A B) : A.z.length = B.z.length := by
  have h1 := h.a.len; have h2 := h.b.len
  rw [h.ra, h.la, h.lb] at h1
  rw [h.rb] at h2
  omega
theorem Mats.c2v {p : Int} {A B : Ar} (h : Mats A B) : c2 p (vecA A.k A.z) (vecA B.k B.z) = c2 p A B := by
  have e1 : boV (vecA A.k A.z) (vecA B.k B.z) = vecA A.k A.z := bv_two (by show (1 : Int) ≠ 0; decide)
  have e2 : boV A B = A := bv_two (by rw [h.ra]; decide)
  unfold c2
  rw [e1, e2]
  refine List.map_congr_left fun i _ => ?_
  rw [cel_vec (A := vecA A.k A.z) (by show (1 : Int) ≠ 0; decide), cel_vec (A := vecA B.k B.z) (by show (1 : Int) ≠ 0; decide), cel_vec (by rw [h.ra]; decide), cel_vec (by rw [h.rb]; decide)]
  rfl
theorem Mats.rav {p : Int} {A B : Ar} (h : Mats A B) : twE p (raV A) (raV B) = twE p A B ∧ (twE p A B = 0 → ck (twV p A B) = 0 ∧ twV p (raV A) (raV B) = raV (twV p A B)) := by
  rw [ra_good h.a, ra_good h.b]
  have hl := h.len2
  have hF : twF p (vecA A.k A.z) (vecA B.k B.z) = twF p A B := by
    refine twF_same h.a h.b (rav_good h.a) (rav_good h.b) rfl rfl ?_
    rw [bo_two (A := vecA A.k A.z) (B := vecA B.k B.z) rfl ⟨by show (A.z.length : Int) = B.z.length; omega, rfl⟩, bo_two (h.ra.trans h.rb.symm) ⟨h.la, h.lb⟩]
  have hE : twE p (vecA A.k A.z) (vecA B.k B.z) = twE p A B := by unfold twE; rw [hF, h.c2v]
  refine ⟨hE, fun hz => ⟨good_ck (tw_good h.a h.b hz), ?_⟩⟩
  rw [ra_good (tw_good h.a h.b hz), twV_ok (hE.trans hz), twV_ok hz, h.c2v, bv_two (A := vecA A.k A.z) (by show (1 : Int) ≠ 0; decide)]
  have e2 : boV A B = A := bv_two (by rw [h.ra]; decide)
  have : (vsL (c2 p A B)).length = A.z.length := by rw [vsL_len, c2_len, e2]
  show (⟨1, 1, (A.z.length : Int), 0, vsL (c2 p A B)⟩ : Ar) = ⟨1, 1, ((vsL (c2 p A B)).length : Int), 0, vsL (c2 p A B)⟩
  rw [this]
theorem on_rav {p : Int} {A : Ar} (h : Good A) : onE p (raV A) = onE p A ∧ (onE p A = 0 → ck (onV p A) = 0 ∧ onV p (raV A) = raV (onV p A)) := by
  rw [ra_good h]
  have hF : onF p (vecA A.k A.z) = onF p A := onF_same h (rav_good h) rfl
  have hE : onE p (vecA A.k A.z) = onE p A := by unfold onE; rw [hF]; rfl
  refine ⟨hE, fun hz => ⟨good_ck (on_good h hz), ?_⟩⟩
  rw [ra_good (on_good h hz), onV_ok (hE.trans hz), onV_ok hz]
  have : (vsL (c1 p A)).length = A.z.length := by rw [vsL_len, c1_len]
  show (⟨1, 1, (A.z.length : Int), 0, vsL (c1 p A)⟩ : Ar) = ⟨1, 1, ((vsL (c1 p A)).length : Int), 0, vsL (c1 p A)⟩
  rw [this]
end Go.Proofs.YtokmdgiialcokaaDoor
