/- Plain facts: primitives of numbers commute with Reverse, and some with the order of their operands. -/
import Derived.Test.YtokmdgiialcokaaDoorExP
import Derived.Test.YtokmdgiialcokaaDoorExH
namespace Go.Proofs.YtokmdgiialcokaaDoor
open Go.RowKit

/-- Reversed, but for a scalar. -/
def rxV (A : Ar) : Ar := if A.r = 0 then A else rvV A
structure RxIs (A : Ar) (X : Ar) : Prop where
  k : X.k = A.k
  r : X.r = A.r
  a : X.a = A.a
  b : X.b = A.b
  g : Good X
  l : X.z.length = A.z.length
  t : rxV X = A
theorem rx_is {A : Ar} (h : Good A) : RxIs A (rxV A) := by
  unfold rxV
  by_cases hr : A.r = 0
  · rw [if_pos hr]
    exact ⟨rfl, rfl, rfl, rfl, h, rfl, by unfold rxV; rw [if_pos hr]⟩
  · rw [if_neg hr]
    have hr2 : A.r = 1 ∨ A.r = 2 := by rcases h.r3 with e | e | e <;> omega
    have h2 := (rv_twice h hr2).2.2
    rw [rvV_ok h hr2] at h2 ⊢
    exact ⟨rfl, rfl, rfl, rfl, rv_good h, rvZ_len h, by unfold rxV; rw [if_neg hr]; exact h2⟩
def sgm (m t : Nat) : Nat := t / m * m + (m - 1 - t % m)
theorem sgm_lt {n m t : Nat} (h : t < n * m) : sgm m t < n * m := by
  obtain ⟨h1, h2, _⟩ := split_lt h
  exact lt_at h1 (by omega)
theorem rx_at {A : Ar} (h : Good A) (hr : A.r ≠ 0) {t : Nat} (ht : t < A.z.length) : (rxV A).z.getD t 0 = A.z.getD (sgm (rwM A) t) 0 := by
  have hr2 : A.r = 1 ∨ A.r = 2 := by rcases h.r3 with e | e | e <;> omega
  obtain ⟨_, _, e3, _, _⟩ := rw_good h
  unfold rxV
  rw [if_neg hr, rvV_ok h hr2]
  show (rvZ A).getD t 0 = _
  unfold rvZ
  rw [gl_getD (by rw [e3]; exact ht)]
  rfl
theorem bo_rx {A B : Ar} (hA : Good A) (hB : Good B) : boE (rxV A) (rxV B) = boE A B := by
  have h1 := rx_is hA; have h2 := rx_is hB
  unfold boE
  rw [h1.r, h2.r, h1.a, h2.a, h1.b, h2.b]
theorem bv_rx {A B : Ar} (hA : Good A) (hB : Good B) : (boV (rxV A) (rxV B)).r = (boV A B).r ∧ (boV (rxV A) (rxV B)).a = (boV A B).a ∧ (boV (rxV A) (rxV B)).b = (boV A B).b ∧ (boV (rxV A) (rxV B)).z.length = (boV A B).z.length := by
  have h1 := rx_is hA; have h2 := rx_is hB
  unfold boV
  rw [h1.r, h2.r]
  split
  · exact ⟨h1.r, h1.a, h1.b, h1.l⟩
  · split
    · exact ⟨h2.r, h2.a, h2.b, h2.l⟩
    · exact ⟨h1.r, h1.a, h1.b, h1.l⟩
theorem cel_rx {A : Ar} {m t : Nat} (h : Good A) (hm : A.r ≠ 0 → rwM A = m) (ht : A.r ≠ 0 → t < A.z.length) : celI (rxV A) t = celI A (sgm m t) := by
  by_cases hr : A.r = 0
  · have : rxV A = A := by unfold rxV; rw [if_pos hr]
    rw [this]; unfold celI; rw [if_pos hr, if_pos hr]
  · rw [cel_vec (A := rxV A) (by rw [(rx_is h).r]; exact hr), cel_vec hr, rx_at h hr (ht hr), hm hr]
theorem tn_at {A B : Ar} (hA : Good A) (hB : Good B) (hb : boE A B = 0) {t : Nat} (ht : t < (boV A B).z.length) : sgm (rwM (boV A B)) t < (boV A B).z.length ∧ celI (rxV A) t = celI A (sgm (rwM (boV A B)) t) ∧ celI (rxV B) t = celI B (sgm (rwM (boV A B)) t) := by
  obtain ⟨_, _, e3, _, _⟩ := rw_good (bo_good hA hB)
  refine ⟨by rw [← e3] at ht ⊢; exact sgm_lt ht, cel_rx hA ?_ ?_, cel_rx hB ?_ ?_⟩
  · intro hr; rw [bv_two hr]
  · intro hr; rw [bv_two hr] at ht; exact ht
  · intro hr
    by_cases h1 : A.r = 0
    · have : boV A B = B := by unfold boV; rw [if_neg hr, if_pos h1]
      rw [this]
    · rw [bv_two h1]
      obtain ⟨a1, a2, a3, _⟩ := bo_same hA hB hb h1 hr
      unfold rwM; rw [a1, a2, a3]
  · intro hr
    by_cases h1 : A.r = 0
    · have : boV A B = B := by unfold boV; rw [if_neg hr, if_pos h1]
      rwa [this] at ht
    · rw [bv_two h1] at ht
      obtain ⟨_, _, _, a4⟩ := bo_same hA hB hb h1 hr
      omega
theorem tn_F {p : Int} {A B : Ar} (hA : Good A) (hB : Good B) : twF p (rxV A) (rxV B) = twF p A B :=
  twF_same hA hB (rx_is hA).g (rx_is hB).g (rx_is hA).k (rx_is hB).k (bo_rx hA hB)
theorem bo_of {p : Int} {A B : Ar} (hA : Good A) (hB : Good B) (h : twF p A B = 0) : boE A B = 0 := by
  unfold twF at h
  rw [good_ck hA, good_ck hB] at h
  split at h
  · cases h
  · simp only [ne_eq, not_true_eq_false, if_false] at h
    split at h
    · cases h
    · exact h
theorem tn_zero {p : Int} {A B : Ar} (hA : Good A) (hB : Good B) (hb : boE A B = 0) (h : feL (c2 p A B) = 0) : feL (c2 p (rxV A) (rxV B)) = 0 := by
  rw [fe2_zero] at h ⊢
  intro t ht
  rw [(bv_rx hA hB).2.2.2] at ht
  obtain ⟨h1, h2, h3⟩ := tn_at hA hB hb ht
  rw [h2, h3]
  exact h _ h1
theorem tn_both {p : Int} {A B : Ar} (hA : Good A) (hB : Good B) : twE p (rxV A) (rxV B) = 0 ↔ twE p A B = 0 := by
  unfold twE
  rw [exE_zero, exE_zero, tn_F hA hB]
  constructor
  · intro h
    have hb := bo_of hA hB h.1
    have := tn_zero (rx_is hA).g (rx_is hB).g (by rw [bo_rx hA hB]; exact hb) h.2
    rw [(rx_is hA).t, (rx_is hB).t] at this
    exact ⟨h.1, this⟩
  · intro h
    exact ⟨h.1, tn_zero hA hB (bo_of hA hB h.1) h.2⟩
theorem tn_val {p : Int} {A B : Ar} (hA : Good A) (hB : Good B) (h : twE p A B = 0) : twV p (rxV A) (rxV B) = rxV (twV p A B) := by
  have hF : twF p A B = 0 := by have := h; unfold twE at this; exact (exE_zero.1 this).1
  have hb := bo_of hA hB hF
  have hg := tw_good hA hB h
  obtain ⟨b1, b2, b3, b4⟩ := bv_rx hA hB
  rw [twV_ok ((tn_both hA hB).2 h), b1, b2, b3]
  have hC := twV_ok h
  have hz : (twV p A B).z = vsL (c2 p A B) := by rw [hC]
  have hX := rx_is hg
  have e : vsL (c2 p (rxV A) (rxV B)) = (rxV (twV p A B)).z := by
    refine ext_getD ?_ fun t ht => ?_
    · rw [hX.l, hz, vsL_len, vsL_len, c2_len, c2_len, b4]
    · rw [vsL_len, c2_len, b4] at ht
      obtain ⟨h1, h2, h3⟩ := tn_at hA hB hb ht
      rw [vs2_at (by rw [b4]; exact ht), h2, h3]
      by_cases hr : (twV p A B).r = 0
      · have hr' : (boV A B).r = 0 := by rw [hC] at hr; exact hr
        have : rxV (twV p A B) = twV p A B := by unfold rxV; rw [if_pos hr]
        rw [this, hz]
        have hl := ((bo_good hA hB).r0 hr').2.2
        have t0 : t = 0 := by omega
        have s0 : sgm (rwM (boV A B)) t = 0 := by omega
        rw [s0, t0, vs2_at (by omega)]
      · rw [rx_at hg hr (by rw [hz, vsL_len, c2_len]; exact ht), hz]
        have hm : rwM (twV p A B) = rwM (boV A B) := by unfold rwM; rw [hC]
        rw [hm, vs2_at h1]
  rw [e]
  have e1 := hX.k; have e2 := hX.r; have e3 := hX.a; have e4 := hX.b
  rw [hC] at e1 e2 e3 e4
  simp only at e1 e2 e3 e4
  rw [← hC] at e1 e2 e3 e4
  generalize rxV (twV p A B) = Y at e1 e2 e3 e4 ⊢
  obtain ⟨y1, y2, y3, y4, y5⟩ := Y
  simp only at e1 e2 e3 e4
  rw [e1, e2, e3, e4]
theorem mem_rx {A : Ar} (h : Good A) {x : Int} (hx : x ∈ (rxV A).z) : x ∈ A.z := by
  by_cases hr : A.r = 0
  · unfold rxV at hx; rwa [if_pos hr] at hx
  · obtain ⟨t, ht, rfl⟩ := List.getElem_of_mem hx
    rw [(rx_is h).l] at ht
    have e : (rxV A).z[t] = (rxV A).z.getD t 0 := by rw [List.getD_eq_getElem?_getD, List.getElem?_eq_getElem]; rfl
    rw [e, rx_at h hr ht]
    obtain ⟨_, _, e3, _, _⟩ := rw_good h
    have hs : sgm (rwM A) t < A.z.length := by rw [← e3] at ht ⊢; exact sgm_lt ht
    rw [List.getD_eq_getElem?_getD, List.getElem?_eq_getElem hs]
    exact List.getElem_mem hs
theorem on_F {p : Int} {A : Ar} (h : Good A) : onF p (rxV A) = onF p A := onF_same h (rx_is h).g (rx_is h).k
theorem on_both {p : Int} {A : Ar} (h : Good A) : onE p (rxV A) = 0 ↔ onE p A = 0 := by
  unfold onE
  rw [exE_zero, exE_zero, on_F h, fe1_zero, fe1_zero]
  constructor
  · intro hz
    refine ⟨hz.1, fun x hx => hz.2 x ?_⟩
    have := mem_rx (rx_is h).g (x := x) (by rw [(rx_is h).t]; exact hx)
    exact this
  · intro hz
    exact ⟨hz.1, fun x hx => hz.2 x (mem_rx h hx)⟩
theorem on_val {p : Int} {A : Ar} (h : Good A) (hz : onE p A = 0) : onV p (rxV A) = rxV (onV p A) := by
  have hg := on_good h hz
  have hC := onV_ok hz
  have hzz : (onV p A).z = vsL (c1 p A) := by rw [hC]
  have hX := rx_is hg
  have hA := rx_is h
  rw [onV_ok ((on_both h).2 hz), hA.r, hA.a, hA.b]
  have e : vsL (c1 p (rxV A)) = (rxV (onV p A)).z := by
    refine ext_getD ?_ fun t ht => ?_
    · rw [hX.l, hzz, vsL_len, vsL_len, c1_len, c1_len, hA.l]
    · rw [vsL_len, c1_len, hA.l] at ht
      rw [vs1_at (by rw [hA.l]; exact ht)]
      by_cases hr : A.r = 0
      · have h1 : rxV A = A := by unfold rxV; rw [if_pos hr]
        have h2 : rxV (onV p A) = onV p A := by unfold rxV; rw [if_pos (by rw [hC]; exact hr)]
        rw [h1, h2, hzz, vs1_at ht]
      · rw [rx_at h hr ht, rx_at hg (by rw [hC]; exact hr) (by rw [hzz, vsL_len, c1_len]; exact ht), hzz]
        have hm : rwM (onV p A) = rwM A := by unfold rwM; rw [hC]
        obtain ⟨_, _, e3, _, _⟩ := rw_good h
        have hs : sgm (rwM A) t < A.z.length := by rw [← e3] at ht ⊢; exact sgm_lt ht
        rw [hm, vs1_at hs]
  rw [e]
  have e1 := hX.k; have e2 := hX.r; have e3 := hX.a; have e4 := hX.b
  rw [hC] at e1 e2 e3 e4
  simp only at e1 e2 e3 e4
  rw [← hC] at e1 e2 e3 e4
  generalize rxV (onV p A) = Y at e1 e2 e3 e4 ⊢
  obtain ⟨y1, y2, y3, y4, y5⟩ := Y
  simp only at e1 e2 e3 e4
  rw [e1, e2, e3, e4]
/-- The primitives for which the order of the operands makes no difference. -/
def tnB (p : Int) : Bool := decide (p = 15 ∨ p = 17 ∨ p = 20 ∨ p = 22 ∨ p = 23 ∨ p = 24 ∨ p = 29 ∨ p = 30 ∨ p = 31 ∨ p = 32)
theorem beqc (x y : Int) : (x == y) = (y == x) := by rw [Bool.eq_iff_iff, beq_iff_eq, beq_iff_eq]; exact eq_comm
theorem two_sym {p : Int} (h : tnB p = true) (x y : Int) : Sc.twoV p x y = Sc.twoV p y x := by
  unfold tnB at h
  rcases of_decide_eq_true h with rfl | rfl | rfl | rfl | rfl | rfl | rfl | rfl | rfl | rfl
  · show (Sc.fit (x + y), Sc.fitE (x + y)) = (Sc.fit (y + x), Sc.fitE (y + x)); rw [Int.add_comm]
  · show (Sc.fit (x * y), Sc.fitE (x * y)) = (Sc.fit (y * x), Sc.fitE (y * x)); rw [Int.mul_comm]
  · show (Sc.clp (x + y), (0 : Int)) = (Sc.clp (y + x), 0); rw [Int.add_comm]
  · show (Sc.clp (x * y), (0 : Int)) = (Sc.clp (y * x), 0); rw [Int.mul_comm]
  · show (Sc.tr (x == y), (0 : Int)) = (Sc.tr (y == x), 0); rw [beqc]
  · show (Sc.tr (x != y), (0 : Int)) = (Sc.tr (y != x), 0); unfold bne; rw [beqc]
  · show (Sc.tr (x != 0 && y != 0), (0 : Int)) = (Sc.tr (y != 0 && x != 0), 0); rw [Bool.and_comm]
  · show (Sc.tr (x != 0 || y != 0), (0 : Int)) = (Sc.tr (y != 0 || x != 0), 0); rw [Bool.or_comm]
  · show (min x y, (0 : Int)) = (min y x, 0); rw [Int.min_comm]
  · show (max x y, (0 : Int)) = (max y x, 0); rw [Int.max_comm]
theorem bo_sym (A B : Ar) : boE A B = boE B A := by
  unfold boE
  split <;> split <;> (try rfl) <;> (try split) <;> (try split) <;> (try split) <;> (try split) <;> (first | rfl | omega)
theorem kd_sym (p : Int) (A B : Ar) : kdB p A B = kdB p B A := by
  unfold kdB
  split
  · exact beqc _ _
  · rw [Bool.and_comm]
theorem tw_sym {p : Int} {A B : Ar} (hA : Good A) (hB : Good B) (h : tnB p = true) : twE p A B = twE p B A ∧ twV p A B = twV p B A := by
  have hF : twF p A B = twF p B A := by unfold twF; rw [good_ck hA, good_ck hB, kd_sym p A B, bo_sym A B]
  by_cases h0 : twF p A B = 0
  rotate_left
  · unfold twE twV
    have h1 := h0
    rw [hF] at h1
    rw [exE_bad h0, exE_bad h1, exV_no h0, exV_no h1]
    exact ⟨hF, rfl⟩
  have hb := bo_of hA hB h0
  have hs : (boV A B).r = (boV B A).r ∧ (boV A B).a = (boV B A).a ∧ (boV A B).b = (boV B A).b ∧ (boV A B).z.length = (boV B A).z.length := by
    unfold boV
    by_cases h1 : A.r = 0
    · by_cases h2 : B.r = 0
      · rw [if_pos h2, if_pos h1]
        have a0 := hA.r0 h1; have b0 := hB.r0 h2
        omega
      · rw [if_neg h2, if_pos h1, if_pos h1]; exact ⟨rfl, rfl, rfl, rfl⟩
    · by_cases h2 : B.r = 0
      · rw [if_pos h2, if_neg h1, if_pos h2]; exact ⟨rfl, rfl, rfl, rfl⟩
      · rw [if_neg h2, if_neg h1, if_neg h1, if_neg h2]
        exact bo_same hA hB hb h1 h2
  have hc : c2 p A B = c2 p B A := by
    unfold c2
    rw [hs.2.2.2]
    exact List.map_congr_left fun i _ => two_sym h _ _
  unfold twE twV exV
  rw [← hF, hc, hs.1, hs.2.1, hs.2.2.1]
  exact ⟨rfl, rfl⟩
end Go.Proofs.YtokmdgiialcokaaDoor
