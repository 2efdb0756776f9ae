/- Plain facts of what moves twice, and of quarter turns. -/
import Derived.Test.YtpbfbejckhbijaaDoorMvZ
namespace Go.Proofs.YtpbfbejckhbijaaDoor
open Go.RowKit

theorem isR_getD {z : List Int} (h : z.all Ru.isR = true) (t : Nat) : Ru.isR (z.getD t 0) = true := by
  rw [List.getD_eq_getElem?_getD]
  rcases Nat.lt_or_ge t z.length with ht | ht
  · rw [List.getElem?_eq_getElem ht]
    exact List.all_eq_true.1 h _ (List.getElem_mem ht)
  · rw [List.getElem?_eq_none ht]; exact isR0
theorem gl_isR {n m : Nat} {f : Nat → Nat → Int} (h : ∀ i k, Ru.isR (f i k) = true) : (gl n m f).all Ru.isR = true :=
  List.all_eq_true.2 fun x hx => by
    obtain ⟨t, _, rfl⟩ := List.mem_map.1 hx
    exact h _ _
theorem good_same {A : Ar} (h : Good A) {z : List Int} (hl : z.length = A.z.length) (hr : A.k = 2 → z.all Ru.isR = true) : Good ⟨A.k, A.r, A.a, A.b, z⟩ :=
  ⟨h.kind, h.sh, by show (z.length : Int) = _; rw [hl]; exact h.len, hr⟩
theorem rv_good {A : Ar} (h : Good A) : Good ⟨A.k, A.r, A.a, A.b, rvZ A⟩ := good_same h (rvZ_len h) fun e => gl_isR fun _ _ => isR_getD (h.runes e) _
theorem rvE_ok {A : Ar} (h : Good A) (hr : A.r = 1 ∨ A.r = 2) : rvE A = 0 := by
  unfold rvE oneE
  rw [if_pos (good_ck h), if_neg (by omega)]
theorem rvV_ok {A : Ar} (h : Good A) (hr : A.r = 1 ∨ A.r = 2) : rvV A = ⟨A.k, A.r, A.a, A.b, rvZ A⟩ := orNo_yes (rvE_ok h hr)
theorem rv_rv {A : Ar} (h : Good A) : rvZ ⟨A.k, A.r, A.a, A.b, rvZ A⟩ = A.z := by
  obtain ⟨_, _, e3, _, _⟩ := rw_good h
  refine Eq.trans (gl_congr fun i hi k hk => ?_) (gl_self e3.symm).symm
  have hk' : k < rwM A := hk
  have hi' : i < rwN A := hi
  show (rvZ A).getD (i * rwM A + (rwM A - 1 - k)) 0 = _
  unfold rvZ
  rw [gl_at hi' (by omega), show rwM A - 1 - (rwM A - 1 - k) = k by omega]
/-- Reverse twice. -/
theorem rv_twice {A : Ar} (h : Good A) (hr : A.r = 1 ∨ A.r = 2) : rvE A = 0 ∧ rvE (rvV A) = 0 ∧ rvV (rvV A) = A := by
  have hg := rv_good h
  rw [rvV_ok h hr]
  refine ⟨rvE_ok h hr, rvE_ok hg hr, ?_⟩
  rw [rvV_ok hg hr, rv_rv h]
theorem fpEE_ok {A : Ar} (h : Good A) (hr : A.r = 2) : fpEE A = 0 := by
  unfold fpEE oneE
  rw [if_pos (good_ck h), if_neg (by omega)]
theorem fpV_ok {A : Ar} (h : Good A) (hr : A.r = 2) : fpV A = ⟨A.k, 2, A.b, A.a, fpZ A⟩ := orNo_yes (fpEE_ok h hr)
/-- A matrix of the cells of another one, of its lengths the other way. -/
theorem good_turn {A : Ar} (h : Good A) (hr : A.r = 2) {z : List Int} (hl : z.length = A.z.length) (hz : A.k = 2 → z.all Ru.isR = true) : Good ⟨A.k, 2, A.b, A.a, z⟩ := by
  obtain ⟨k, r, a, b, y⟩ := A
  simp only at hr hz hl ⊢
  subst hr
  have hs := h.sh
  have hy := h.len
  simp only at hs hy
  have e : (z.length : Int) = b * a := by rw [hl, hy, Int.mul_comm]; simp [cn]
  cases hs with
  | s2 _ _ h0 h1 h2 h3 h4 =>
    exact ck_good (ck_mat h.kind (Sh.s2 b a h2 h3 h0 h1 (by rw [Int.mul_comm]; exact h4)) e hz)
theorem rw_turn {A : Ar} (h : Good A) (hr : A.r = 2) {z : List Int} (hg : Good ⟨A.k, 2, A.b, A.a, z⟩) : rwN ⟨A.k, 2, A.b, A.a, z⟩ = rwM A ∧ rwM ⟨A.k, 2, A.b, A.a, z⟩ = rwN A := by
  obtain ⟨e1, e2, _, _, _⟩ := rw_mat h hr
  obtain ⟨f1, f2, _, _, _⟩ := rw_mat hg rfl
  simp only at f1 f2
  constructor <;> omega
theorem fp_good {A : Ar} (h : Good A) (hr : A.r = 2) : Good ⟨A.k, 2, A.b, A.a, fpZ A⟩ := good_turn h hr (fpZ_len h) fun e => gl_isR fun _ _ => isR_getD (h.runes e) _
theorem ar_mat {A : Ar} (hr : A.r = 2) : (⟨A.k, 2, A.a, A.b, A.z⟩ : Ar) = A := by
  obtain ⟨k, r, a, b, z⟩ := A
  simp only at hr
  subst hr
  rfl
/-- Flip twice. -/
theorem fp_twice {A : Ar} (h : Good A) (hr : A.r = 2) : fpEE A = 0 ∧ fpEE (fpV A) = 0 ∧ fpV (fpV A) = A := by
  have hg := fp_good h hr
  obtain ⟨q1, q2⟩ := rw_turn h hr hg
  obtain ⟨_, _, e3, _, _⟩ := rw_good h
  rw [fpV_ok h hr]
  refine ⟨fpEE_ok h hr, fpEE_ok hg rfl, ?_⟩
  rw [fpV_ok hg rfl]
  have hz : fpZ ⟨A.k, 2, A.b, A.a, fpZ A⟩ = A.z := by
    refine Eq.trans ?_ (gl_self e3.symm).symm
    show (gl (rwM ⟨A.k, 2, A.b, A.a, fpZ A⟩) (rwN ⟨A.k, 2, A.b, A.a, fpZ A⟩) fun k i => (fpZ A).getD (i * rwM ⟨A.k, 2, A.b, A.a, fpZ A⟩ + k) 0) = _
    rw [q1, q2]
    refine gl_congr fun i hi k hk => ?_
    unfold fpZ
    rw [gl_at hk hi]
  rw [hz]
  exact ar_mat hr
/-- A quarter turn. -/
def tqV (A : Ar) : Ar := ⟨A.k, 2, A.b, A.a, gl (rwM A) (rwN A) fun i k => A.z.getD ((rwN A - 1 - k) * rwM A + i) 0⟩
theorem tq_good {A : Ar} (h : Good A) (hr : A.r = 2) : Good (tqV A) := by
  obtain ⟨_, _, e3, _, _⟩ := rw_good h
  exact good_turn h hr (by rw [gl_len, ← e3, Nat.mul_comm]) fun e => gl_isR fun _ _ => isR_getD (h.runes e) _
theorem tq_rw {A : Ar} (h : Good A) (hr : A.r = 2) : rwN (tqV A) = rwM A ∧ rwM (tqV A) = rwN A := rw_turn h hr (tq_good h hr)
theorem tq_len {A : Ar} (h : Good A) : (tqV A).z.length = A.z.length := by
  obtain ⟨_, _, e3, _, _⟩ := rw_good h
  rw [← e3, Nat.mul_comm]
  exact gl_len (rwM A) (rwN A) fun i k => A.z.getD ((rwN A - 1 - k) * rwM A + i) 0
/-- Flip, and Reverse of it. -/
theorem tq_eq {A : Ar} (h : Good A) (hr : A.r = 2) : fpEE A = 0 ∧ rvE (fpV A) = 0 ∧ rvV (fpV A) = tqV A := by
  have hg := fp_good h hr
  obtain ⟨q1, q2⟩ := rw_turn h hr hg
  rw [fpV_ok h hr]
  refine ⟨fpEE_ok h hr, rvE_ok hg (.inr rfl), ?_⟩
  rw [rvV_ok hg (.inr rfl)]
  unfold tqV
  have : rvZ ⟨A.k, 2, A.b, A.a, fpZ A⟩ = gl (rwM A) (rwN A) fun i k => A.z.getD ((rwN A - 1 - k) * rwM A + i) 0 := by
    unfold rvZ
    rw [q1, q2]
    refine gl_congr fun i hi k hk => ?_
    show (fpZ A).getD (i * rwN A + (rwN A - 1 - k)) 0 = _
    unfold fpZ
    rw [gl_at hi (by omega)]
  rw [this]
/-- Half a turn. -/
def thV (A : Ar) : Ar := ⟨A.k, 2, A.a, A.b, gl (rwN A) (rwM A) fun i k => A.z.getD ((rwN A - 1 - i) * rwM A + (rwM A - 1 - k)) 0⟩
theorem tq_tq {A : Ar} (h : Good A) (hr : A.r = 2) : tqV (tqV A) = thV A := by
  obtain ⟨q1, q2⟩ := tq_rw h hr
  have hz : (gl (rwM (tqV A)) (rwN (tqV A)) fun i k => (tqV A).z.getD ((rwN (tqV A) - 1 - k) * rwM (tqV A) + i) 0) = gl (rwN A) (rwM A) fun i k => A.z.getD ((rwN A - 1 - i) * rwM A + (rwM A - 1 - k)) 0 := by
    rw [q1, q2]
    refine gl_congr fun i hi k hk => ?_
    show (gl (rwM A) (rwN A) fun i k => A.z.getD ((rwN A - 1 - k) * rwM A + i) 0).getD ((rwM A - 1 - k) * rwN A + i) 0 = _
    rw [gl_at (by omega) hi]
  show (⟨A.k, 2, A.a, A.b, _⟩ : Ar) = thV A
  rw [hz]; rfl
theorem th_good {A : Ar} (h : Good A) (hr : A.r = 2) : Good (thV A) := by
  rw [← tq_tq h hr]
  exact tq_good (tq_good h hr) rfl
theorem th_th {A : Ar} (h : Good A) (hr : A.r = 2) : thV (thV A) = A := by
  obtain ⟨e1, e2, _, _, _⟩ := rw_mat h hr
  obtain ⟨_, _, e3, _, _⟩ := rw_good h
  obtain ⟨f1, f2, _, _, _⟩ := rw_mat (th_good h hr) rfl
  have q1 : rwN (thV A) = rwN A := by
    have : (thV A).a = A.a := rfl
    omega
  have q2 : rwM (thV A) = rwM A := by
    have : (thV A).b = A.b := rfl
    omega
  have hz : (gl (rwN (thV A)) (rwM (thV A)) fun i k => (thV A).z.getD ((rwN (thV A) - 1 - i) * rwM (thV A) + (rwM (thV A) - 1 - k)) 0) = A.z := by
    rw [q1, q2]
    refine Eq.trans (gl_congr fun i hi k hk => ?_) (gl_self e3.symm).symm
    show (gl (rwN A) (rwM A) fun i k => A.z.getD ((rwN A - 1 - i) * rwM A + (rwM A - 1 - k)) 0).getD ((rwN A - 1 - i) * rwM A + (rwM A - 1 - k)) 0 = _
    rw [gl_at (by omega) (by omega), show rwN A - 1 - (rwN A - 1 - i) = i by omega, show rwM A - 1 - (rwM A - 1 - k) = k by omega]
  show (⟨A.k, 2, A.a, A.b, _⟩ : Ar) = A
  rw [hz]
  exact ar_mat hr
/-- Some quarter turns. -/
def tqN : Nat → Ar → Ar
  | 0, A => A
  | i + 1, A => tqV (tqN i A)
theorem tqN_ok {A : Ar} (h : Good A) (hr : A.r = 2) (i : Nat) : Good (tqN i A) ∧ (tqN i A).r = 2 ∧ (tqN i A).z.length = A.z.length := by
  induction i with
  | zero => exact ⟨h, hr, rfl⟩
  | succ i ih => exact ⟨tq_good ih.1 ih.2.1, rfl, by rw [← ih.2.2]; exact tq_len ih.1⟩
theorem tqN_four {A : Ar} (h : Good A) (hr : A.r = 2) : tqN 4 A = A := by
  show tqV (tqV (tqV (tqV A))) = A
  rw [tq_tq h hr, tq_tq (th_good h hr) rfl, th_th h hr]
end Go.Proofs.YtpbfbejckhbijaaDoor
