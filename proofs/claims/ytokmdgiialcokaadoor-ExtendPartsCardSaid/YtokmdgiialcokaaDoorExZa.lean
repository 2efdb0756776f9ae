/- Plain facts for the law Parts of extend: parts of vectors; parts of slices. -/
import Derived.Test.YtokmdgiialcokaaDoorExX
import Derived.Test.YtokmdgiialcokaaDoorMvPp
import Derived.Test.YtokmdgiialcokaaDoorMvY
namespace Go.Proofs.YtokmdgiialcokaaDoor
open Go.RowKit

/-- What a primitive makes of two lists of cells. -/
def zc (p : Int) (x y : List Int) : List (Int × Int) := (List.range x.length).map fun i => Sc.twoV p (x.getD i 0) (y.getD i 0)
theorem zc_len (p : Int) (x y : List Int) : (zc p x y).length = x.length := by simp [zc]
theorem zc_take (p : Int) {x y : List Int} {n : Nat} (hn : n ≤ x.length) : zc p (x.take n) (y.take n) = (zc p x y).take n := by
  refine List.ext_getElem (by rw [zc_len, List.length_take, List.length_take, zc_len]) fun i h1 h2 => ?_
  rw [zc_len, List.length_take] at h1
  have hi : i < n := by omega
  simp [zc, List.getD_eq_getElem?_getD, hi]
theorem zc_drop (p : Int) {x y : List Int} {n : Nat} : zc p (x.drop n) (y.drop n) = (zc p x y).drop n := by
  refine List.ext_getElem (by rw [zc_len, List.length_drop, List.length_drop, zc_len]) fun i h1 h2 => ?_
  simp [zc, List.getD_eq_getElem?_getD]
theorem c2_zc {p : Int} {A B : Ar} (hA : A.r = 1) (hB : B.r = 1) : c2 p A B = zc p A.z B.z := by
  unfold c2 zc
  rw [bv_two (by omega)]
  refine List.map_congr_left fun i _ => ?_
  rw [cel_vec (by omega), cel_vec (by omega)]
theorem vec_bo {A B : Ar} (hA : Good A) (hB : Good B) (ha : A.r = 1) (hb : B.r = 1) (hl : A.z.length = B.z.length) : boE A B = 0 := by
  obtain ⟨_, _, a1, a2⟩ := rw_vec hA ha
  obtain ⟨_, _, b1, b2⟩ := rw_vec hB hb
  exact bo_two (by omega) ⟨by omega, by omega⟩
theorem vec_twV {p : Int} {A B : Ar} (hA : Good A) (ha : A.r = 1) (hb : B.r = 1) (h : twE p A B = 0) : twV p A B = vecA 1 (vsL (zc p A.z B.z)) := by
  obtain ⟨_, _, a1, a2⟩ := rw_vec hA ha
  rw [twV_ok h, bv_two (by omega), c2_zc ha hb, ha, a1, a2]
  show (⟨1, 1, (A.z.length : Int), 0, _⟩ : Ar) = ⟨1, 1, ((vsL (zc p A.z B.z)).length : Int), 0, _⟩
  rw [vsL_len, zc_len]
theorem vsL_app (l m : List (Int × Int)) : vsL (l ++ m) = vsL l ++ vsL m := by simp [vsL]
/-- Parts of vectors, put together. -/
theorem parts10 {p : Int} {A B : Ar} {n : Nat} (hA : Good A) (hB : Good B) (ha : A.r = 1) (hb : B.r = 1) (hl : A.z.length = B.z.length) (hn : n ≤ A.z.length) :
    (twE p (vecA A.k (A.z.take n)) (vecA B.k (B.z.take n)) ≠ 0 → twE p A B = twE p (vecA A.k (A.z.take n)) (vecA B.k (B.z.take n))) ∧
    (twE p (vecA A.k (A.z.take n)) (vecA B.k (B.z.take n)) = 0 → twE p (vecA A.k (A.z.drop n)) (vecA B.k (B.z.drop n)) ≠ 0 → twE p A B = twE p (vecA A.k (A.z.drop n)) (vecA B.k (B.z.drop n))) ∧
    (twE p (vecA A.k (A.z.take n)) (vecA B.k (B.z.take n)) = 0 → twE p (vecA A.k (A.z.drop n)) (vecA B.k (B.z.drop n)) = 0 → twE p A B = 0 ∧
      ctE (twV p (vecA A.k (A.z.take n)) (vecA B.k (B.z.take n))) (twV p (vecA A.k (A.z.drop n)) (vecA B.k (B.z.drop n))) = 0 ∧
      ctV (twV p (vecA A.k (A.z.take n)) (vecA B.k (B.z.take n))) (twV p (vecA A.k (A.z.drop n)) (vecA B.k (B.z.drop n))) = twV p A B) := by
  have gA1 : Good (vecA A.k (A.z.take n)) := vec_good hA (by rw [List.length_take]; omega) (fun x hx => List.mem_of_mem_take hx)
  have gA2 : Good (vecA A.k (A.z.drop n)) := vec_good hA (by simp) (fun x hx => List.mem_of_mem_drop hx)
  have gB1 : Good (vecA B.k (B.z.take n)) := vec_good hB (by rw [List.length_take]; omega) (fun x hx => List.mem_of_mem_take hx)
  have gB2 : Good (vecA B.k (B.z.drop n)) := vec_good hB (by simp) (fun x hx => List.mem_of_mem_drop hx)
  have b0 := vec_bo hA hB ha hb hl
  have b1 : boE (vecA A.k (A.z.take n)) (vecA B.k (B.z.take n)) = 0 := vec_bo gA1 gB1 rfl rfl (by show (A.z.take n).length = (B.z.take n).length; simp; omega)
  have b2 : boE (vecA A.k (A.z.drop n)) (vecA B.k (B.z.drop n)) = 0 := vec_bo gA2 gB2 rfl rfl (by show (A.z.drop n).length = (B.z.drop n).length; simp; omega)
  have f1 : twF p (vecA A.k (A.z.take n)) (vecA B.k (B.z.take n)) = twF p A B := twF_same hA hB gA1 gB1 rfl rfl (b1.trans b0.symm)
  have f2 : twF p (vecA A.k (A.z.drop n)) (vecA B.k (B.z.drop n)) = twF p A B := twF_same hA hB gA2 gB2 rfl rfl (b2.trans b0.symm)
  have c0 : c2 p A B = zc p A.z B.z := c2_zc ha hb
  have c1 : c2 p (vecA A.k (A.z.take n)) (vecA B.k (B.z.take n)) = (zc p A.z B.z).take n := (c2_zc rfl rfl).trans (zc_take p hn)
  have c2' : c2 p (vecA A.k (A.z.drop n)) (vecA B.k (B.z.drop n)) = (zc p A.z B.z).drop n := (c2_zc rfl rfl).trans (zc_drop p)
  have e0 : twE p A B = exE (twF p A B) (zc p A.z B.z) := by unfold twE; rw [c0]
  have e1 : twE p (vecA A.k (A.z.take n)) (vecA B.k (B.z.take n)) = exE (twF p A B) ((zc p A.z B.z).take n) := by unfold twE; rw [c1, f1]
  have e2 : twE p (vecA A.k (A.z.drop n)) (vecA B.k (B.z.drop n)) = exE (twF p A B) ((zc p A.z B.z).drop n) := by unfold twE; rw [c2', f2]
  have hsp : zc p A.z B.z = (zc p A.z B.z).take n ++ (zc p A.z B.z).drop n := (List.take_append_drop _ _).symm
  have hE : (exE (twF p A B) ((zc p A.z B.z).take n) ≠ 0 → exE (twF p A B) (zc p A.z B.z) = exE (twF p A B) ((zc p A.z B.z).take n)) ∧ (exE (twF p A B) ((zc p A.z B.z).take n) = 0 → exE (twF p A B) (zc p A.z B.z) = exE (twF p A B) ((zc p A.z B.z).drop n)) := by
    by_cases hF : twF p A B = 0
    · rw [hF, exE_ok, exE_ok, exE_ok]
      refine ⟨fun h => ?_, fun h => ?_⟩
      · conv => lhs; rw [hsp]
        exact feL_app1 _ h
      · conv => lhs; rw [hsp]
        exact feL_app0 _ h
    · rw [exE_bad hF, exE_bad hF, exE_bad hF]
      exact ⟨fun _ => rfl, fun _ => rfl⟩
  refine ⟨fun h => ?_, fun h h' => ?_, fun h h' => ?_⟩
  · rw [e1] at h ⊢
    rw [e0]; exact hE.1 h
  · rw [e1] at h
    rw [e2, e0]; exact hE.2 h
  · have h0 : twE p A B = 0 := by
      rw [e0, hE.2 (by rw [← e1]; exact h), ← e2]; exact h'
    have v1 := vec_twV gA1 rfl rfl h
    have v2 := vec_twV gA2 rfl rfl h'
    have v0 := vec_twV hA ha hb h0
    have t1 : zc p (vecA A.k (A.z.take n)).z (vecA B.k (B.z.take n)).z = (zc p A.z B.z).take n := zc_take p hn
    have t2 : zc p (vecA A.k (A.z.drop n)).z (vecA B.k (B.z.drop n)).z = (zc p A.z B.z).drop n := zc_drop p
    rw [t1] at v1
    rw [t2] at v2
    have g1 := tw_good gA1 gB1 h
    have g2 := tw_good gA2 gB2 h'
    rw [v1] at g1 ⊢
    rw [v2] at g2 ⊢
    have h4 := hA.len4
    obtain ⟨q1, q2⟩ := ct_vecs g1 g2 (by rw [vsL_len, vsL_len, List.length_take, List.length_drop, zc_len]; omega)
    refine ⟨h0, q1, ?_⟩
    rw [q2, v0, ← vsL_app, List.take_append_drop]
/-- The first cells of a slice, the others. -/
theorem hi_run (p : Option Addr) (l cap n : Nat) (h : n ≤ cap) (W : World) : (Instr.slice 23 (.slice p l cap) none (some (.int .i64 (n : Int))) none).run Tryd.prog W = .ok (.slice p n cap) W := by
  rw [run_slice_h W 23 p l cap (by kernel_rfl) .i64 (n : Int) (by omega) (by omega)]
  have hs : (sizeOf (Tryd.prog.elem 23)).run Tryd.prog W = .ok 1 W := by kernel_rfl
  rw [hs]
  simp [Result.andThen, sliced]
  intro _
  cases p with
  | none => rfl
  | some a => simp [Addr.add]
theorem lo_run (p : Option Addr) (l cap n : Nat) (h : n ≤ l) (_h' : l ≤ cap) (W : World) : (Instr.slice 23 (.slice p l cap) (some (.int .i64 (n : Int))) none none).run Tryd.prog W = .ok (cutS p n l cap) W := by
  rw [run_slice_l W 23 p l cap (by kernel_rfl) .i64 (n : Int) (by omega) (by omega)]
  have hs : (sizeOf (Tryd.prog.elem 23)).run Tryd.prog W = .ok 1 W := by kernel_rfl
  rw [hs]
  simp [Result.andThen, sliced, cutS]
theorem rd_take {B : Nat} {w : World} {p : Option Addr} {l : List Int} {cap n : Nat} (h : RdI B w (.slice p l.length cap) l) (hn : n ≤ l.length) : RdI B w (.slice p n cap) (l.take n) := by
  obtain ⟨p', c, e, h1, h2, h3⟩ := h
  cases e
  have hl : (l.take n).length = n := by simp; omega
  refine ⟨_, _, by rw [hl], by omega, h2, fun hne => ?_⟩
  obtain ⟨b, off, e, hb, hc⟩ := h3 (by intro e; rw [e] at hne; simp at hne)
  exact ⟨b, off, e, hb, fun j hj => by rw [hc j (by omega), List.getElem_take]⟩
theorem rd_drop {B : Nat} {w : World} {p : Option Addr} {l : List Int} {cap n : Nat} (h : RdI B w (.slice p l.length cap) l) (hn : n ≤ l.length) : RdI B w (cutS p n l.length cap) (l.drop n) := by
  obtain ⟨p', c, e, h1, h2, h3⟩ := h
  cases e
  have hl : (l.drop n).length = l.length - n := by simp
  unfold cutS
  refine ⟨_, _, by rw [hl], by omega, by omega, fun hne => ?_⟩
  have hpos : n < l.length := by have := List.length_pos_iff.2 hne; omega
  obtain ⟨b, off, rfl, hb, hc⟩ := h3 (List.length_pos_iff.1 (by omega))
  refine ⟨b, off + n, ?_, hb, fun j hj => ?_⟩
  · rw [if_neg (by omega)]
    show some (Addr.add _ _) = _
    rw [Ru.add_off]
  · rw [Nat.add_assoc, hc _ (by omega), List.getElem_drop]
theorem nil_take {p : Option Addr} {l cap n : Nat} (h : Ru.NilC (.slice p l cap)) : Ru.NilC (.slice p n cap) := by
  intro a b e
  cases e
  exact h _ _ rfl
end Go.Proofs.YtokmdgiialcokaaDoor
