/- The reference's Cat. -/
import Derived.Test.YthfpmpmhoegicaaDoorMvXg
import Derived.Test.YthfpmpmhoegicaaDoorMvPj
namespace Go.Proofs.YthfpmpmhoegicaaDoor
open Go.RowKit

/-- A part of a slice. -/
def cutS (a : Option Addr) (lo hi cap : Nat) : Value := .slice (if cap = lo then a else a.map (·.add lo)) (hi - lo) (cap - lo)
theorem cut_run (p : Option Addr) (n cap lo hi : Nat) (h1 : lo ≤ hi) (h2 : hi ≤ cap) (W : World) :
    (Instr.slice 23 (.slice p n cap) (some (.int .i64 lo)) (some (.int .i64 hi)) none).run Tryd.prog W = .ok (cutS p lo hi cap) W := by
  rw [run_slice_lh W 23 p n cap (by kernel_rfl) .i64 .i64 (lo : Int) (hi : Int) (by omega) (by omega) (by omega)]
  have hs : (sizeOf (Tryd.prog.elem 23)).run Tryd.prog W = .ok 1 W := by kernel_rfl
  rw [hs]
  simp [Result.andThen, sliced, cutS]
theorem cut_rd {A : Ar} (h : Good A) {B : Nat} {w : World} {p : Option Addr} {cap : Nat} (hv : RdI B w (.slice p A.z.length cap) A.z) {i : Nat} (hi : i < rwN A) :
    RdI B w (cutS p (i * rwM A) (i * rwM A + rwM A) cap) (rwI A i) := by
  obtain ⟨_, _, e3, _, _⟩ := rw_good h
  have hl := rwI_len h hi
  have hle := Nat.mul_le_mul_right (rwM A) (show i + 1 ≤ rwN A by omega)
  rw [Nat.add_mul, Nat.one_mul] at hle
  obtain ⟨p', cap', e, h1, h2, h3⟩ := hv
  cases e
  unfold cutS
  refine ⟨_, _, by rw [hl, Nat.add_sub_cancel_left], by omega, by omega, fun hn => ?_⟩
  have hm : 0 < rwM A := by have := List.length_pos_iff.2 hn; omega
  obtain ⟨b, off, rfl, hb, hc⟩ := h3 (List.length_pos_iff.1 (by omega))
  refine ⟨b, off + i * rwM A, ?_, hb, fun j hj => ?_⟩
  · rw [if_neg (by omega)]
    show some (Addr.add _ _) = _
    rw [Ru.add_off]
  · rw [Nat.add_assoc, hc _ (by omega), rwI_get hj]
theorem cut_nil {p : Option Addr} {n cap lo hi : Nat} (h : Ru.NilC (.slice p n cap)) : Ru.NilC (cutS p lo hi cap) := by
  intro n' c e
  unfold cutS at e
  cases p with
  | none =>
    have := h _ _ rfl
    injection e with e1 e2 e3
    omega
  | some ad =>
    injection e with e1 e2 e3
    by_cases hc : cap = lo
    · rw [if_pos hc] at e1; cases e1
    · rw [if_neg hc] at e1; cases e1
theorem ct_snoc {A B : Ar} (h : CatIs A B) {i : Nat} (hi : i < rwN A) : ((ctZ A B).take (i * (rwM A + rwM B)) ++ rwI A i) ++ rwI B i = (ctZ A B).take ((i + 1) * (rwM A + rwM B)) := by
  have hi2 : i < rwN B := by rw [← h.rows]; exact hi
  have lA := rwI_len h.ok.gA hi
  have lB := rwI_len h.ok.gB hi2
  have hle := Nat.mul_le_mul_right (rwM A + rwM B) (show i + 1 ≤ rwN A by omega)
  have e : (i + 1) * (rwM A + rwM B) = i * (rwM A + rwM B) + (rwM A + rwM B) := by rw [Nat.add_mul, Nat.one_mul]
  have hz : (ctZ A B).length = rwN A * (rwM A + rwM B) := ctZ_len A B
  have l1 : ((ctZ A B).take (i * (rwM A + rwM B))).length = i * (rwM A + rwM B) := by rw [List.length_take, hz]; omega
  refine ext_getD (by rw [List.length_append, List.length_append, l1, lA, lB, List.length_take, hz]; omega) fun t ht => ?_
  rw [List.length_append, List.length_append, l1, lA, lB] at ht
  have hr : ((ctZ A B).take ((i + 1) * (rwM A + rwM B))).getD t 0 = (ctZ A B).getD t 0 := by
    rw [List.getD_eq_getElem?_getD, List.getD_eq_getElem?_getD, List.getElem?_take, if_pos (by omega)]
  rw [hr]
  by_cases h1 : t < i * (rwM A + rwM B)
  · rw [List.getD_eq_getElem?_getD, List.append_assoc, List.getElem?_append_left (by omega), List.getElem?_take, if_pos h1, ← List.getD_eq_getElem?_getD]
  · obtain ⟨k, rfl⟩ : ∃ k, t = i * (rwM A + rwM B) + k := ⟨t - i * (rwM A + rwM B), by omega⟩
    have hR : (ctZ A B).getD (i * (rwM A + rwM B) + k) 0 = if k < rwM A then A.z.getD (i * rwM A + k) 0 else B.z.getD (i * rwM B + (k - rwM A)) 0 := by
      unfold ctZ
      rw [gl_at hi (by omega)]
    rw [hR]
    by_cases h2 : k < rwM A
    · rw [if_pos h2, List.getD_eq_getElem?_getD, List.getElem?_append_left (by rw [List.length_append, l1, lA]; omega), List.getElem?_append_right (by omega), l1, show i * (rwM A + rwM B) + k - i * (rwM A + rwM B) = k by omega, ← List.getD_eq_getElem?_getD, rwI_getD h.ok.gA hi h2]
    · rw [if_neg h2, List.getD_eq_getElem?_getD, List.getElem?_append_right (by rw [List.length_append, l1, lA]; omega), List.length_append, l1, lA, show i * (rwM A + rwM B) + k - (i * (rwM A + rwM B) + rwM A) = k - rwM A by omega, ← List.getD_eq_getElem?_getD, rwI_getD h.ok.gB hi2 (by omega)]
theorem ct_two {A B : Ar} {E : Int} (h : twoE A B A.k A.k 1 2 A.r A.r = E) (hE : E ≠ 0) : ctE A B = E ∧ ctV A B = Ar.no := by
  have h1 : ctE A B = E := by unfold ctE; rw [h, if_neg hE]
  refine ⟨h1, ?_⟩
  unfold ctV
  exact orNo_no (by rw [h1]; exact hE)

set_option maxRecDepth 100000 in
set_option maxHeartbeats 32000000 in
theorem rcat7_any (A B : Ar) (v u : Value) (w : World) (hw : Ru.Lay w) (hv : RdI w.heap.size w v A.z) (hu : RdI w.heap.size w u B.z) (hnv : Ru.NilC v) (hnu : Ru.NilC u) (hlA : A.z.length ≤ 100000) (hlB : B.z.length ≤ 100000) :
    Calls Tryd.prog 39 #[A5 A.k A.r A.a A.b v, A5 B.k B.r B.a B.b u] w (RetE (ctV A B) (ctE A B) w) := by
  have HCA := Lib.hid (fun W h => archeck_any A v W h (by omega))
  have HCB := Lib.hid (fun W h => archeck_any B u W h (by omega))
  have HK := Lib.hid (MK2.new (A := A) (B := B) hw hv hu)
  have HW3 := Lib.hid hw.size
  have HNA := Lib.hid hnv
  have HNB := Lib.hid hnu
  have x0 := HK.out.c.boxA.c0; have x1 := HK.out.c.boxA.c1; have x2 := HK.out.c.boxA.c2; have x3 := HK.out.c.boxA.c3; have x4 := HK.out.c.boxA.c4; have y0 := HK.out.c.boxB.c0; have y1 := HK.out.c.boxB.c1; have y2 := HK.out.c.boxB.c2; have y3 := HK.out.c.boxB.c3; have y4 := HK.out.c.boxB.c4
  obtain ⟨p, cap, rfl, hcA, hcA2, _⟩ := hv
  obtain ⟨q, dap, rfl, hcB, hcB2, _⟩ := hu
  clear hw hnv hnu
  by_cases h1 : ck A = 0
  rotate_left
  · obtain ⟨E, hE⟩ : ∃ E, ck A = E := ⟨_, rfl⟩
    obtain ⟨e1, e2⟩ := ct_two (A := A) (B := B) (E := E) (by unfold twoE; rw [if_neg h1, hE]) (by rw [← hE]; exact h1)
    rw [e1, e2]
    rw [hE] at h1 HCA
    have k1 : (E != 0) = true := by simpa using h1
    have k2 : (E == 0) = false := by simpa using h1
    clear h1 hE e1 e2
    go_enter Tryd.func39, Tryd.ntmps39
    go_wp2_with (go_at_call 40; (with_reducible refine (HCA.out _ HK.out.c.rdnA).mono ?_); rintro e w1 ⟨rfl, hb⟩; have HK2 := Lib.hid (HK.out.next hb); clear HK x0 x1 x2 x3 x4 y0 y1 y2 y3 y4; have HK := HK2; clear HK2; have x0 := HK.out.c.boxA.c0; have x1 := HK.out.c.boxA.c1; have x2 := HK.out.c.boxA.c2; have x3 := HK.out.c.boxA.c3; have x4 := HK.out.c.boxA.c4; have y0 := HK.out.c.boxB.c0; have y1 := HK.out.c.boxB.c1; have y2 := HK.out.c.boxB.c2; have y3 := HK.out.c.boxB.c3; have y4 := HK.out.c.boxB.c4; clear hb; have y0 := HK.out.res.c0; have y1 := HK.out.res.c1; have y2 := HK.out.res.c2; have y3 := HK.out.res.c3; have y4 := HK.out.res.c4; have f0 := HK.out.res.fr 0; have f1 := HK.out.res.fr 1; have f2 := HK.out.res.fr 2; have f3 := HK.out.res.fr 3; have f4 := HK.out.res.fr 4; have HS := Lib.hid (HK.out.res.set 0 0 0 0 (.slice none 0 0)); have z0 := HS.out.c0; have z1 := HS.out.c1; have z2 := HS.out.c2; have z3 := HS.out.c3; have z4 := HS.out.c4)
    exact bodyPost_ret (v := .tuple #[A5 0 0 0 0 (.slice none 0 0), .int .i64 E]) (by simp [results, Tryd.results39, go_sem, z0, z1, z2, z3, z4]) rfl (retE_no _ (st5_below _ _ _ _ _ (by omega) HK.out.c.bel))
  rw [h1] at HCA
  by_cases h2 : ck B = 0
  rotate_left
  · obtain ⟨E, hE⟩ : ∃ E, ck B = E := ⟨_, rfl⟩
    obtain ⟨e1, e2⟩ := ct_two (A := A) (B := B) (E := E) (by unfold twoE; rw [if_pos h1, if_neg h2, hE]) (by rw [← hE]; exact h2)
    rw [e1, e2]
    rw [hE] at h2 HCB
    have k1 : (E != 0) = true := by simpa using h2
    have k2 : (E == 0) = false := by simpa using h2
    clear h1 h2 hE e1 e2
    go_enter Tryd.func39, Tryd.ntmps39
    go_wp2_with (first
      | (go_at_call 40; (with_reducible refine (HCA.out _ HK.out.c.rdnA).mono ?_); rintro e w1 ⟨rfl, hb⟩; have HK2 := Lib.hid (HK.out.next hb); clear HK x0 x1 x2 x3 x4 y0 y1 y2 y3 y4; have HK := HK2; clear HK2; have x0 := HK.out.c.boxA.c0; have x1 := HK.out.c.boxA.c1; have x2 := HK.out.c.boxA.c2; have x3 := HK.out.c.boxA.c3; have x4 := HK.out.c.boxA.c4; have y0 := HK.out.c.boxB.c0; have y1 := HK.out.c.boxB.c1; have y2 := HK.out.c.boxB.c2; have y3 := HK.out.c.boxB.c3; have y4 := HK.out.c.boxB.c4; clear hb)
      | (go_at_call 40; (with_reducible refine (HCB.out _ HK.out.c.rdnB).mono ?_); rintro e w2 ⟨rfl, hb⟩; have HK2 := Lib.hid (HK.out.next hb); clear HK x0 x1 x2 x3 x4 y0 y1 y2 y3 y4; have HK := HK2; clear HK2; have x0 := HK.out.c.boxA.c0; have x1 := HK.out.c.boxA.c1; have x2 := HK.out.c.boxA.c2; have x3 := HK.out.c.boxA.c3; have x4 := HK.out.c.boxA.c4; have y0 := HK.out.c.boxB.c0; have y1 := HK.out.c.boxB.c1; have y2 := HK.out.c.boxB.c2; have y3 := HK.out.c.boxB.c3; have y4 := HK.out.c.boxB.c4; clear hb; have y0 := HK.out.res.c0; have y1 := HK.out.res.c1; have y2 := HK.out.res.c2; have y3 := HK.out.res.c3; have y4 := HK.out.res.c4; have f0 := HK.out.res.fr 0; have f1 := HK.out.res.fr 1; have f2 := HK.out.res.fr 2; have f3 := HK.out.res.fr 3; have f4 := HK.out.res.fr 4; have HS := Lib.hid (HK.out.res.set 0 0 0 0 (.slice none 0 0)); have z0 := HS.out.c0; have z1 := HS.out.c1; have z2 := HS.out.c2; have z3 := HS.out.c3; have z4 := HS.out.c4))
    exact bodyPost_ret (v := .tuple #[A5 0 0 0 0 (.slice none 0 0), .int .i64 E]) (by simp [results, Tryd.results39, go_sem, z0, z1, z2, z3, z4]) rfl (retE_no _ (st5_below _ _ _ _ _ (by omega) HK.out.c.bel))
  rw [h2] at HCB
  by_cases h3 : B.k = A.k
  rotate_left
  · obtain ⟨e1, e2⟩ := ct_two (A := A) (B := B) (E := 21) (by unfold twoE; rw [if_pos h1, if_pos h2, if_neg (fun e => h3 e.2)]) (by decide)
    rw [e1, e2]
    have k1 : (A.k != B.k) = true := by simp; omega
    clear h1 h2 h3 e1 e2
    go_enter Tryd.func39, Tryd.ntmps39
    go_wp2_with (first
      | (go_at_call 40; (with_reducible refine (HCA.out _ HK.out.c.rdnA).mono ?_); rintro e w1 ⟨rfl, hb⟩; have HK2 := Lib.hid (HK.out.next hb); clear HK x0 x1 x2 x3 x4 y0 y1 y2 y3 y4; have HK := HK2; clear HK2; have x0 := HK.out.c.boxA.c0; have x1 := HK.out.c.boxA.c1; have x2 := HK.out.c.boxA.c2; have x3 := HK.out.c.boxA.c3; have x4 := HK.out.c.boxA.c4; have y0 := HK.out.c.boxB.c0; have y1 := HK.out.c.boxB.c1; have y2 := HK.out.c.boxB.c2; have y3 := HK.out.c.boxB.c3; have y4 := HK.out.c.boxB.c4; clear hb)
      | (go_at_call 40; (with_reducible refine (HCB.out _ HK.out.c.rdnB).mono ?_); rintro e w2 ⟨rfl, hb⟩; have HK2 := Lib.hid (HK.out.next hb); clear HK x0 x1 x2 x3 x4 y0 y1 y2 y3 y4; have HK := HK2; clear HK2; have x0 := HK.out.c.boxA.c0; have x1 := HK.out.c.boxA.c1; have x2 := HK.out.c.boxA.c2; have x3 := HK.out.c.boxA.c3; have x4 := HK.out.c.boxA.c4; have y0 := HK.out.c.boxB.c0; have y1 := HK.out.c.boxB.c1; have y2 := HK.out.c.boxB.c2; have y3 := HK.out.c.boxB.c3; have y4 := HK.out.c.boxB.c4; clear hb; have y0 := HK.out.res.c0; have y1 := HK.out.res.c1; have y2 := HK.out.res.c2; have y3 := HK.out.res.c3; have y4 := HK.out.res.c4; have f0 := HK.out.res.fr 0; have f1 := HK.out.res.fr 1; have f2 := HK.out.res.fr 2; have f3 := HK.out.res.fr 3; have f4 := HK.out.res.fr 4; have HS := Lib.hid (HK.out.res.set 0 0 0 0 (.slice none 0 0)); have z0 := HS.out.c0; have z1 := HS.out.c1; have z2 := HS.out.c2; have z3 := HS.out.c3; have z4 := HS.out.c4))
    exact bodyPost_ret (v := .tuple #[A5 0 0 0 0 (.slice none 0 0), .int .i64 21]) (by simp [results, Tryd.results39, go_sem, z0, z1, z2, z3, z4]) rfl (retE_no _ (st5_below _ _ _ _ _ (by omega) HK.out.c.bel))
  have k3 : (A.k != B.k) = false := by rw [h3]; simp
  by_cases h4 : A.r = B.r
  rotate_left
  · obtain ⟨e1, e2⟩ := ct_two (A := A) (B := B) (E := 22) (by unfold twoE; rw [if_pos h1, if_pos h2, if_pos ⟨rfl, h3⟩, if_pos (by omega)]) (by decide)
    rw [e1, e2]
    have k1 : (A.r != B.r) = true := by simpa using h4
    clear h1 h2 h3 h4 e1 e2
    go_enter Tryd.func39, Tryd.ntmps39
    go_wp2_with (first
      | (go_at_call 40; (with_reducible refine (HCA.out _ HK.out.c.rdnA).mono ?_); rintro e w1 ⟨rfl, hb⟩; have HK2 := Lib.hid (HK.out.next hb); clear HK x0 x1 x2 x3 x4 y0 y1 y2 y3 y4; have HK := HK2; clear HK2; have x0 := HK.out.c.boxA.c0; have x1 := HK.out.c.boxA.c1; have x2 := HK.out.c.boxA.c2; have x3 := HK.out.c.boxA.c3; have x4 := HK.out.c.boxA.c4; have y0 := HK.out.c.boxB.c0; have y1 := HK.out.c.boxB.c1; have y2 := HK.out.c.boxB.c2; have y3 := HK.out.c.boxB.c3; have y4 := HK.out.c.boxB.c4; clear hb)
      | (go_at_call 40; (with_reducible refine (HCB.out _ HK.out.c.rdnB).mono ?_); rintro e w2 ⟨rfl, hb⟩; have HK2 := Lib.hid (HK.out.next hb); clear HK x0 x1 x2 x3 x4 y0 y1 y2 y3 y4; have HK := HK2; clear HK2; have x0 := HK.out.c.boxA.c0; have x1 := HK.out.c.boxA.c1; have x2 := HK.out.c.boxA.c2; have x3 := HK.out.c.boxA.c3; have x4 := HK.out.c.boxA.c4; have y0 := HK.out.c.boxB.c0; have y1 := HK.out.c.boxB.c1; have y2 := HK.out.c.boxB.c2; have y3 := HK.out.c.boxB.c3; have y4 := HK.out.c.boxB.c4; clear hb; have y0 := HK.out.res.c0; have y1 := HK.out.res.c1; have y2 := HK.out.res.c2; have y3 := HK.out.res.c3; have y4 := HK.out.res.c4; have f0 := HK.out.res.fr 0; have f1 := HK.out.res.fr 1; have f2 := HK.out.res.fr 2; have f3 := HK.out.res.fr 3; have f4 := HK.out.res.fr 4; have HS := Lib.hid (HK.out.res.set 0 0 0 0 (.slice none 0 0)); have z0 := HS.out.c0; have z1 := HS.out.c1; have z2 := HS.out.c2; have z3 := HS.out.c3; have z4 := HS.out.c4))
    exact bodyPost_ret (v := .tuple #[A5 0 0 0 0 (.slice none 0 0), .int .i64 22]) (by simp [results, Tryd.results39, go_sem, z0, z1, z2, z3, z4]) rfl (retE_no _ (st5_below _ _ _ _ _ (by omega) HK.out.c.bel))
  have k4 : (A.r != B.r) = false := by simpa using h4
  by_cases h5 : A.r = 0
  · obtain ⟨e1, e2⟩ := ct_two (A := A) (B := B) (E := 22) (by unfold twoE; rw [if_pos h1, if_pos h2, if_pos ⟨rfl, h3⟩, if_pos (by omega)]) (by decide)
    rw [e1, e2]
    have HR0 : Hid ((A.r == 0) = true) := by unfold Hid; simpa using h5
    clear h1 h2 h3 h4 h5 e1 e2
    have k5 := HR0.out
    clear HR0
    go_enter Tryd.func39, Tryd.ntmps39
    go_wp2_with (first
      | (go_at_call 40; (with_reducible refine (HCA.out _ HK.out.c.rdnA).mono ?_); rintro e w1 ⟨rfl, hb⟩; have HK2 := Lib.hid (HK.out.next hb); clear HK x0 x1 x2 x3 x4 y0 y1 y2 y3 y4; have HK := HK2; clear HK2; have x0 := HK.out.c.boxA.c0; have x1 := HK.out.c.boxA.c1; have x2 := HK.out.c.boxA.c2; have x3 := HK.out.c.boxA.c3; have x4 := HK.out.c.boxA.c4; have y0 := HK.out.c.boxB.c0; have y1 := HK.out.c.boxB.c1; have y2 := HK.out.c.boxB.c2; have y3 := HK.out.c.boxB.c3; have y4 := HK.out.c.boxB.c4; clear hb)
      | (go_at_call 40; (with_reducible refine (HCB.out _ HK.out.c.rdnB).mono ?_); rintro e w2 ⟨rfl, hb⟩; have HK2 := Lib.hid (HK.out.next hb); clear HK x0 x1 x2 x3 x4 y0 y1 y2 y3 y4; have HK := HK2; clear HK2; have x0 := HK.out.c.boxA.c0; have x1 := HK.out.c.boxA.c1; have x2 := HK.out.c.boxA.c2; have x3 := HK.out.c.boxA.c3; have x4 := HK.out.c.boxA.c4; have y0 := HK.out.c.boxB.c0; have y1 := HK.out.c.boxB.c1; have y2 := HK.out.c.boxB.c2; have y3 := HK.out.c.boxB.c3; have y4 := HK.out.c.boxB.c4; clear hb; have y0 := HK.out.res.c0; have y1 := HK.out.res.c1; have y2 := HK.out.res.c2; have y3 := HK.out.res.c3; have y4 := HK.out.res.c4; have f0 := HK.out.res.fr 0; have f1 := HK.out.res.fr 1; have f2 := HK.out.res.fr 2; have f3 := HK.out.res.fr 3; have f4 := HK.out.res.fr 4; have HS := Lib.hid (HK.out.res.set 0 0 0 0 (.slice none 0 0)); have z0 := HS.out.c0; have z1 := HS.out.c1; have z2 := HS.out.c2; have z3 := HS.out.c3; have z4 := HS.out.c4))
    exact bodyPost_ret (v := .tuple #[A5 0 0 0 0 (.slice none 0 0), .int .i64 22]) (by simp [results, Tryd.results39, go_sem, z0, z1, z2, z3, z4]) rfl (retE_no _ (st5_below _ _ _ _ _ (by omega) HK.out.c.bel))
  have k5 : (A.r == 0) = false := by simpa using h5
  have hrank : A.r = 1 ∨ A.r = 2 := by
    have := (ck_good h1).sh
    obtain ⟨k, r, a, b, z⟩ := A
    simp only at this h5 ⊢
    cases this <;> omega
  have hok : CatOk A B := ⟨ck_good h1, ck_good h2, h3, hrank, h4.symm⟩
  have hE : ctE A B = (if A.r = 2 ∧ A.a ≠ B.a then 11 else if 400 < A.z.length + B.z.length ∨ 400 < A.b + B.b then 15 else 0) := if_pos (ok_two hok)
  have hl4 := (ck_good h1).len4
  have hl5 := (ck_good h2).len4
  have hbb : -1000 ≤ A.b + B.b ∧ A.b + B.b ≤ 1000 := by
    rcases hrank with hr | hr
    · obtain ⟨_, _, _, x4'⟩ := rw_vec hok.gA hr
      obtain ⟨_, _, _, y4'⟩ := rw_vec hok.gB (hok.same.trans hr)
      omega
    · obtain ⟨_, b1, _, _, b2⟩ := rw_mat hok.gA hr
      obtain ⟨_, c1, _, _, c2⟩ := rw_mat hok.gB (hok.same.trans hr)
      omega
  obtain ⟨S, hS⟩ : ∃ S : Nat, A.z.length + B.z.length = S := ⟨_, rfl⟩
  obtain ⟨T, hT⟩ : ∃ T : Int, A.b + B.b = T := ⟨_, rfl⟩
  have hw1 : IntKind.i64.wrap ((A.z.length : Int) + (B.z.length : Int)) = (S : Int) := by rw [IntKind.wrap_i64]; omega
  have hw2 : IntKind.i64.wrap (A.b + B.b) = T := by rw [IntKind.wrap_i64]; omega
  rw [hS, hT] at hE
  clear h1 h2 h3 h4 h5
  by_cases h6 : A.r = 2 ∧ A.a ≠ B.a
  · rw [if_pos h6] at hE
    rw [show ctV A B = Ar.no from orNo_no (by rw [hE]; decide), hE]
    have k6 : (A.r == 2) = true := by simpa using h6.1
    have k7 : (A.a != B.a) = true := by simpa using h6.2
    clear hE h6 hrank hok hbb hS hT hl4 hl5
    go_enter Tryd.func39, Tryd.ntmps39
    go_wp2_with (first
      | (go_at_call 40; (with_reducible refine (HCA.out _ HK.out.c.rdnA).mono ?_); rintro e w1 ⟨rfl, hb⟩; have HK2 := Lib.hid (HK.out.next hb); clear HK x0 x1 x2 x3 x4 y0 y1 y2 y3 y4; have HK := HK2; clear HK2; have x0 := HK.out.c.boxA.c0; have x1 := HK.out.c.boxA.c1; have x2 := HK.out.c.boxA.c2; have x3 := HK.out.c.boxA.c3; have x4 := HK.out.c.boxA.c4; have y0 := HK.out.c.boxB.c0; have y1 := HK.out.c.boxB.c1; have y2 := HK.out.c.boxB.c2; have y3 := HK.out.c.boxB.c3; have y4 := HK.out.c.boxB.c4; clear hb)
      | (go_at_call 40; (with_reducible refine (HCB.out _ HK.out.c.rdnB).mono ?_); rintro e w2 ⟨rfl, hb⟩; have HK2 := Lib.hid (HK.out.next hb); clear HK x0 x1 x2 x3 x4 y0 y1 y2 y3 y4; have HK := HK2; clear HK2; have x0 := HK.out.c.boxA.c0; have x1 := HK.out.c.boxA.c1; have x2 := HK.out.c.boxA.c2; have x3 := HK.out.c.boxA.c3; have x4 := HK.out.c.boxA.c4; have y0 := HK.out.c.boxB.c0; have y1 := HK.out.c.boxB.c1; have y2 := HK.out.c.boxB.c2; have y3 := HK.out.c.boxB.c3; have y4 := HK.out.c.boxB.c4; clear hb; have y0 := HK.out.res.c0; have y1 := HK.out.res.c1; have y2 := HK.out.res.c2; have y3 := HK.out.res.c3; have y4 := HK.out.res.c4; have f0 := HK.out.res.fr 0; have f1 := HK.out.res.fr 1; have f2 := HK.out.res.fr 2; have f3 := HK.out.res.fr 3; have f4 := HK.out.res.fr 4; have HS := Lib.hid (HK.out.res.set 0 0 0 0 (.slice none 0 0)); have z0 := HS.out.c0; have z1 := HS.out.c1; have z2 := HS.out.c2; have z3 := HS.out.c3; have z4 := HS.out.c4))
    exact bodyPost_ret (v := .tuple #[A5 0 0 0 0 (.slice none 0 0), .int .i64 11]) (by simp [results, Tryd.results39, go_sem, z0, z1, z2, z3, z4]) rfl (retE_no _ (st5_below _ _ _ _ _ (by omega) HK.out.c.bel))
  rw [if_neg h6] at hE
  have k6 : (A.r == 2) = true ∧ (A.a != B.a) = false ∨ (A.r == 2) = false := by
    rcases hrank with hr | hr
    · exact .inr (by rw [hr]; rfl)
    · exact .inl ⟨by rw [hr]; rfl, by simp; omega⟩
  by_cases h7 : 400 < S
  · rw [if_pos (.inl h7)] at hE
    rw [show ctV A B = Ar.no from orNo_no (by rw [hE]; decide), hE]
    have k8 : decide ((400 : Int) < (S : Int)) = true := decide_eq_true (by omega)
    clear hE h6 hrank hok hbb hS hT hl4 hl5 h7 hw2
    rcases k6 with ⟨k6, k7⟩ | k6
    · skip
      go_enter Tryd.func39, Tryd.ntmps39
      go_wp2_with (first
        | (go_at_call 40; (with_reducible refine (HCA.out _ HK.out.c.rdnA).mono ?_); rintro e w1 ⟨rfl, hb⟩; have HK2 := Lib.hid (HK.out.next hb); clear HK x0 x1 x2 x3 x4 y0 y1 y2 y3 y4; have HK := HK2; clear HK2; have x0 := HK.out.c.boxA.c0; have x1 := HK.out.c.boxA.c1; have x2 := HK.out.c.boxA.c2; have x3 := HK.out.c.boxA.c3; have x4 := HK.out.c.boxA.c4; have y0 := HK.out.c.boxB.c0; have y1 := HK.out.c.boxB.c1; have y2 := HK.out.c.boxB.c2; have y3 := HK.out.c.boxB.c3; have y4 := HK.out.c.boxB.c4; clear hb)
        | (go_at_call 40; (with_reducible refine (HCB.out _ HK.out.c.rdnB).mono ?_); rintro e w2 ⟨rfl, hb⟩; have HK2 := Lib.hid (HK.out.next hb); clear HK x0 x1 x2 x3 x4 y0 y1 y2 y3 y4; have HK := HK2; clear HK2; have x0 := HK.out.c.boxA.c0; have x1 := HK.out.c.boxA.c1; have x2 := HK.out.c.boxA.c2; have x3 := HK.out.c.boxA.c3; have x4 := HK.out.c.boxA.c4; have y0 := HK.out.c.boxB.c0; have y1 := HK.out.c.boxB.c1; have y2 := HK.out.c.boxB.c2; have y3 := HK.out.c.boxB.c3; have y4 := HK.out.c.boxB.c4; clear hb; have y0 := HK.out.res.c0; have y1 := HK.out.res.c1; have y2 := HK.out.res.c2; have y3 := HK.out.res.c3; have y4 := HK.out.res.c4; have f0 := HK.out.res.fr 0; have f1 := HK.out.res.fr 1; have f2 := HK.out.res.fr 2; have f3 := HK.out.res.fr 3; have f4 := HK.out.res.fr 4; have HS := Lib.hid (HK.out.res.set 0 0 0 0 (.slice none 0 0)); have z0 := HS.out.c0; have z1 := HS.out.c1; have z2 := HS.out.c2; have z3 := HS.out.c3; have z4 := HS.out.c4))
      exact bodyPost_ret (v := .tuple #[A5 0 0 0 0 (.slice none 0 0), .int .i64 15]) (by simp [results, Tryd.results39, go_sem, z0, z1, z2, z3, z4]) rfl (retE_no _ (st5_below _ _ _ _ _ (by omega) HK.out.c.bel))
    · skip
      go_enter Tryd.func39, Tryd.ntmps39
      go_wp2_with (first
        | (go_at_call 40; (with_reducible refine (HCA.out _ HK.out.c.rdnA).mono ?_); rintro e w1 ⟨rfl, hb⟩; have HK2 := Lib.hid (HK.out.next hb); clear HK x0 x1 x2 x3 x4 y0 y1 y2 y3 y4; have HK := HK2; clear HK2; have x0 := HK.out.c.boxA.c0; have x1 := HK.out.c.boxA.c1; have x2 := HK.out.c.boxA.c2; have x3 := HK.out.c.boxA.c3; have x4 := HK.out.c.boxA.c4; have y0 := HK.out.c.boxB.c0; have y1 := HK.out.c.boxB.c1; have y2 := HK.out.c.boxB.c2; have y3 := HK.out.c.boxB.c3; have y4 := HK.out.c.boxB.c4; clear hb)
        | (go_at_call 40; (with_reducible refine (HCB.out _ HK.out.c.rdnB).mono ?_); rintro e w2 ⟨rfl, hb⟩; have HK2 := Lib.hid (HK.out.next hb); clear HK x0 x1 x2 x3 x4 y0 y1 y2 y3 y4; have HK := HK2; clear HK2; have x0 := HK.out.c.boxA.c0; have x1 := HK.out.c.boxA.c1; have x2 := HK.out.c.boxA.c2; have x3 := HK.out.c.boxA.c3; have x4 := HK.out.c.boxA.c4; have y0 := HK.out.c.boxB.c0; have y1 := HK.out.c.boxB.c1; have y2 := HK.out.c.boxB.c2; have y3 := HK.out.c.boxB.c3; have y4 := HK.out.c.boxB.c4; clear hb; have y0 := HK.out.res.c0; have y1 := HK.out.res.c1; have y2 := HK.out.res.c2; have y3 := HK.out.res.c3; have y4 := HK.out.res.c4; have f0 := HK.out.res.fr 0; have f1 := HK.out.res.fr 1; have f2 := HK.out.res.fr 2; have f3 := HK.out.res.fr 3; have f4 := HK.out.res.fr 4; have HS := Lib.hid (HK.out.res.set 0 0 0 0 (.slice none 0 0)); have z0 := HS.out.c0; have z1 := HS.out.c1; have z2 := HS.out.c2; have z3 := HS.out.c3; have z4 := HS.out.c4))
      exact bodyPost_ret (v := .tuple #[A5 0 0 0 0 (.slice none 0 0), .int .i64 15]) (by simp [results, Tryd.results39, go_sem, z0, z1, z2, z3, z4]) rfl (retE_no _ (st5_below _ _ _ _ _ (by omega) HK.out.c.bel))
  have k8 : decide ((400 : Int) < (S : Int)) = false := decide_eq_false (by omega)
  by_cases h8 : 400 < T
  · rw [if_pos (.inr h8)] at hE
    rw [show ctV A B = Ar.no from orNo_no (by rw [hE]; decide), hE]
    have k9 : decide (400 < T) = true := decide_eq_true h8
    clear hE h6 hrank hok hbb hS hT hl4 hl5 h7 h8
    rcases k6 with ⟨k6, k7⟩ | k6
    · skip
      go_enter Tryd.func39, Tryd.ntmps39
      go_wp2_with (first
        | (go_at_call 40; (with_reducible refine (HCA.out _ HK.out.c.rdnA).mono ?_); rintro e w1 ⟨rfl, hb⟩; have HK2 := Lib.hid (HK.out.next hb); clear HK x0 x1 x2 x3 x4 y0 y1 y2 y3 y4; have HK := HK2; clear HK2; have x0 := HK.out.c.boxA.c0; have x1 := HK.out.c.boxA.c1; have x2 := HK.out.c.boxA.c2; have x3 := HK.out.c.boxA.c3; have x4 := HK.out.c.boxA.c4; have y0 := HK.out.c.boxB.c0; have y1 := HK.out.c.boxB.c1; have y2 := HK.out.c.boxB.c2; have y3 := HK.out.c.boxB.c3; have y4 := HK.out.c.boxB.c4; clear hb)
        | (go_at_call 40; (with_reducible refine (HCB.out _ HK.out.c.rdnB).mono ?_); rintro e w2 ⟨rfl, hb⟩; have HK2 := Lib.hid (HK.out.next hb); clear HK x0 x1 x2 x3 x4 y0 y1 y2 y3 y4; have HK := HK2; clear HK2; have x0 := HK.out.c.boxA.c0; have x1 := HK.out.c.boxA.c1; have x2 := HK.out.c.boxA.c2; have x3 := HK.out.c.boxA.c3; have x4 := HK.out.c.boxA.c4; have y0 := HK.out.c.boxB.c0; have y1 := HK.out.c.boxB.c1; have y2 := HK.out.c.boxB.c2; have y3 := HK.out.c.boxB.c3; have y4 := HK.out.c.boxB.c4; clear hb; have y0 := HK.out.res.c0; have y1 := HK.out.res.c1; have y2 := HK.out.res.c2; have y3 := HK.out.res.c3; have y4 := HK.out.res.c4; have f0 := HK.out.res.fr 0; have f1 := HK.out.res.fr 1; have f2 := HK.out.res.fr 2; have f3 := HK.out.res.fr 3; have f4 := HK.out.res.fr 4; have HS := Lib.hid (HK.out.res.set 0 0 0 0 (.slice none 0 0)); have z0 := HS.out.c0; have z1 := HS.out.c1; have z2 := HS.out.c2; have z3 := HS.out.c3; have z4 := HS.out.c4))
      exact bodyPost_ret (v := .tuple #[A5 0 0 0 0 (.slice none 0 0), .int .i64 15]) (by simp [results, Tryd.results39, go_sem, z0, z1, z2, z3, z4]) rfl (retE_no _ (st5_below _ _ _ _ _ (by omega) HK.out.c.bel))
    · skip
      go_enter Tryd.func39, Tryd.ntmps39
      go_wp2_with (first
        | (go_at_call 40; (with_reducible refine (HCA.out _ HK.out.c.rdnA).mono ?_); rintro e w1 ⟨rfl, hb⟩; have HK2 := Lib.hid (HK.out.next hb); clear HK x0 x1 x2 x3 x4 y0 y1 y2 y3 y4; have HK := HK2; clear HK2; have x0 := HK.out.c.boxA.c0; have x1 := HK.out.c.boxA.c1; have x2 := HK.out.c.boxA.c2; have x3 := HK.out.c.boxA.c3; have x4 := HK.out.c.boxA.c4; have y0 := HK.out.c.boxB.c0; have y1 := HK.out.c.boxB.c1; have y2 := HK.out.c.boxB.c2; have y3 := HK.out.c.boxB.c3; have y4 := HK.out.c.boxB.c4; clear hb)
        | (go_at_call 40; (with_reducible refine (HCB.out _ HK.out.c.rdnB).mono ?_); rintro e w2 ⟨rfl, hb⟩; have HK2 := Lib.hid (HK.out.next hb); clear HK x0 x1 x2 x3 x4 y0 y1 y2 y3 y4; have HK := HK2; clear HK2; have x0 := HK.out.c.boxA.c0; have x1 := HK.out.c.boxA.c1; have x2 := HK.out.c.boxA.c2; have x3 := HK.out.c.boxA.c3; have x4 := HK.out.c.boxA.c4; have y0 := HK.out.c.boxB.c0; have y1 := HK.out.c.boxB.c1; have y2 := HK.out.c.boxB.c2; have y3 := HK.out.c.boxB.c3; have y4 := HK.out.c.boxB.c4; clear hb; have y0 := HK.out.res.c0; have y1 := HK.out.res.c1; have y2 := HK.out.res.c2; have y3 := HK.out.res.c3; have y4 := HK.out.res.c4; have f0 := HK.out.res.fr 0; have f1 := HK.out.res.fr 1; have f2 := HK.out.res.fr 2; have f3 := HK.out.res.fr 3; have f4 := HK.out.res.fr 4; have HS := Lib.hid (HK.out.res.set 0 0 0 0 (.slice none 0 0)); have z0 := HS.out.c0; have z1 := HS.out.c1; have z2 := HS.out.c2; have z3 := HS.out.c3; have z4 := HS.out.c4))
      exact bodyPost_ret (v := .tuple #[A5 0 0 0 0 (.slice none 0 0), .int .i64 15]) (by simp [results, Tryd.results39, go_sem, z0, z1, z2, z3, z4]) rfl (retE_no _ (st5_below _ _ _ _ _ (by omega) HK.out.c.bel))
  have k9 : decide (400 < T) = false := decide_eq_false h8
  rw [if_neg (by omega)] at hE
  have hci := cat_is hE
  rw [hci.v, hE]
  have HRoA := Lib.hid (fun W h => rows7_any A (.slice p A.z.length cap) W hok.gA hrank h)
  have HRoB := Lib.hid (fun W h => rows7_any B (.slice q B.z.length dap) W hok.gB (by rw [hok.same]; exact hrank) h)
  have HCut : Hid (∀ i, i < rwN A → (i * rwM A + rwM A ≤ A.z.length) ∧ (i * rwM B + rwM B ≤ B.z.length) ∧ (∀ W, RdI W.heap.size W (.slice p A.z.length cap) A.z → RdI W.heap.size W (cutS p (i * rwM A) (i * rwM A + rwM A) cap) (rwI A i)) ∧ (∀ W, RdI W.heap.size W (.slice q B.z.length dap) B.z → RdI W.heap.size W (cutS q (i * rwM B) (i * rwM B + rwM B) dap) (rwI B i)) ∧
      ((ctZ A B).take (i * (rwM A + rwM B)) ++ rwI A i) ++ rwI B i = (ctZ A B).take ((i + 1) * (rwM A + rwM B)) ∧ ((ctZ A B).take (i * (rwM A + rwM B))).length ≤ 400 ∧ (rwI A i).length ≤ 400 ∧ (rwI B i).length ≤ 400) := fun i hi => by
    have hi2 : i < rwN B := by rw [← hci.rows]; exact hi
    obtain ⟨_, _, a3, _, a5⟩ := rw_good hok.gA
    obtain ⟨_, _, b3, _, b5⟩ := rw_good hok.gB
    have q1 := Nat.mul_le_mul_right (rwM A) (show i + 1 ≤ rwN A by omega)
    have q2 := Nat.mul_le_mul_right (rwM B) (show i + 1 ≤ rwN B by omega)
    rw [Nat.add_mul, Nat.one_mul] at q1 q2
    refine ⟨by omega, by omega, fun W h => cut_rd hok.gA h hi, fun W h => cut_rd hok.gB h hi2, ct_snoc hci hi, ?_, by rw [rwI_len hok.gA hi]; exact a5, by rw [rwI_len hok.gB hi2]; exact b5⟩
    rw [List.length_take, ctZ_len]
    have := hci.many
    omega
  have HZl := Lib.hid (ctZ_len A B)
  have hmany := hci.many
  have hwide := hci.wide
  have hnn : rwN A ≤ 400 := (rw_good hok.gA).2.2.2.1
  rw [← hci.rows] at HRoB
  have hsh : (A.r = 1 → ctA A B = ((rwN A * (rwM A + rwM B) : Nat) : Int) ∧ ctB A B = 0) ∧ (A.r = 2 → ctA A B = (rwN A : Int) ∧ ctB A B = ((rwM A + rwM B : Nat) : Int)) := by
    constructor
    · intro hr
      obtain ⟨a1, a2, a3, a4⟩ := rw_vec hok.gA hr
      obtain ⟨b1, b2, b3, b4⟩ := rw_vec hok.gB (hok.same.trans hr)
      unfold ctA ctB
      rw [if_pos hr, if_pos hr, a1, Nat.one_mul]
      omega
    · intro hr
      obtain ⟨a1, a2, a3, a4, a5⟩ := rw_mat hok.gA hr
      obtain ⟨b1, b2, b3, b4, b5⟩ := rw_mat hok.gB (hok.same.trans hr)
      unfold ctA ctB
      rw [if_neg (by omega), if_neg (by omega)]
      omega
  generalize rwN A = n at *
  generalize rwM A = mA at *
  generalize rwM B = mB at *
  obtain ⟨mm, hmm⟩ : ∃ mm, mA + mB = mm := ⟨_, rfl⟩
  have hwm : IntKind.i64.wrap ((mA : Int) + (mB : Int)) = (mm : Int) := by rw [IntKind.wrap_i64]; omega
  have HMm := Lib.hid hmm
  clear hmm
  clear hE hci hok hbb hS hT hl4 hl5 h7 h8
  rcases hrank with hr | hr
  · have HSh := Lib.hid (hsh.1 hr)
    have k6' : (A.r == 2) = false := by rw [hr]; rfl
    have k10 : (A.r == 1) = true := by rw [hr]; rfl
    have HRk := Lib.hid hr
    clear hsh h6 k6 hr
    go_enter Tryd.func39, Tryd.ntmps39
    go_wp2_with (first
      | (go_at_call 40; (with_reducible refine (HCA.out _ HK.out.c.rdnA).mono ?_); rintro e w1 ⟨rfl, hb⟩; have HK2 := Lib.hid (HK.out.next hb); clear HK x0 x1 x2 x3 x4 y0 y1 y2 y3 y4; have HK := HK2; clear HK2; have x0 := HK.out.c.boxA.c0; have x1 := HK.out.c.boxA.c1; have x2 := HK.out.c.boxA.c2; have x3 := HK.out.c.boxA.c3; have x4 := HK.out.c.boxA.c4; have y0 := HK.out.c.boxB.c0; have y1 := HK.out.c.boxB.c1; have y2 := HK.out.c.boxB.c2; have y3 := HK.out.c.boxB.c3; have y4 := HK.out.c.boxB.c4; clear hb)
      | (go_at_call 40; (with_reducible refine (HCB.out _ HK.out.c.rdnB).mono ?_); rintro e w2 ⟨rfl, hb⟩; have HK2 := Lib.hid (HK.out.next hb); clear HK x0 x1 x2 x3 x4 y0 y1 y2 y3 y4; have HK := HK2; clear HK2; have x0 := HK.out.c.boxA.c0; have x1 := HK.out.c.boxA.c1; have x2 := HK.out.c.boxA.c2; have x3 := HK.out.c.boxA.c3; have x4 := HK.out.c.boxA.c4; have y0 := HK.out.c.boxB.c0; have y1 := HK.out.c.boxB.c1; have y2 := HK.out.c.boxB.c2; have y3 := HK.out.c.boxB.c3; have y4 := HK.out.c.boxB.c4; clear hb)
      | (go_at_call 63; (with_reducible refine (HRoA.out _ HK.out.c.rdnA).mono ?_); rintro e w3 ⟨rfl, hb⟩; have HK2 := Lib.hid (HK.out.next hb); clear HK x0 x1 x2 x3 x4 y0 y1 y2 y3 y4; have HK := HK2; clear HK2; have x0 := HK.out.c.boxA.c0; have x1 := HK.out.c.boxA.c1; have x2 := HK.out.c.boxA.c2; have x3 := HK.out.c.boxA.c3; have x4 := HK.out.c.boxA.c4; have y0 := HK.out.c.boxB.c0; have y1 := HK.out.c.boxB.c1; have y2 := HK.out.c.boxB.c2; have y3 := HK.out.c.boxB.c3; have y4 := HK.out.c.boxB.c4; clear hb)
      | (go_at_call 63; (with_reducible refine (HRoB.out _ HK.out.c.rdnB).mono ?_); rintro e w4 ⟨rfl, hb⟩; have HK2 := Lib.hid (HK.out.next hb); clear HK x0 x1 x2 x3 x4 y0 y1 y2 y3 y4; have HK := HK2; clear HK2; have x0 := HK.out.c.boxA.c0; have x1 := HK.out.c.boxA.c1; have x2 := HK.out.c.boxA.c2; have x3 := HK.out.c.boxA.c3; have x4 := HK.out.c.boxA.c4; have y0 := HK.out.c.boxB.c0; have y1 := HK.out.c.boxB.c1; have y2 := HK.out.c.boxB.c2; have y3 := HK.out.c.boxB.c3; have y4 := HK.out.c.boxB.c4; clear hb))
    have HK0 : Hid (K27 w A (.slice p A.z.length cap) B (.slice q B.z.length dap) (.slice none 0 0) [] w4) := ⟨HK.out, ins_nil _ _⟩
    clear HK HCA HCB HRoA HRoB x0 x1 x2 x3 x4 y0 y1 y2 y3 y4
    go_loopg [7, 12] n (fun gk s v wr => ∃ (i : Nat) (U : Value), i + gk = n ∧ s = U ∧ v = .int .i64 i ∧ K27 w A (.slice p A.z.length cap) B (.slice q B.z.length dap) U ((ctZ A B).take (i * (mA + mB))) wr)
    case atStart => exact ⟨0, _, by omega, rfl, rfl, by rw [Nat.zero_mul]; exact HK0.out⟩
    case round =>
      obtain ⟨i, s0, hig, rfl, rfl, hk⟩ := hrel
      have HV := Lib.hid hk
      clear hk HK0
      have x0 := HV.out.m.c.boxA.c0; have x1 := HV.out.m.c.boxA.c1; have x4 := HV.out.m.c.boxA.c4; have y4 := HV.out.m.c.boxB.c4
      cases gk with
      | zero =>
        have hiz : ¬ ((i : Int) < (n : Int)) := by omega
        obtain ⟨Z, hZ⟩ : ∃ Z, ctZ A B = Z := ⟨_, rfl⟩
        have hZl : Z.length = n * (mA + mB) := by rw [← hZ]; exact HZl.out
        have HO : Hid (RdI wr.heap.size wr u7 Z) := by
          have h := (ins_new HV.out.own).rd
          have e : i = n := by omega
          rw [e, hZ, List.take_of_length_le (by omega)] at h
          exact h
        have HNl := Lib.hid (ins_nilC HV.out.own)
        have HZe : Hid ((⟨A.k, A.r, ctA A B, ctB A B, ctZ A B⟩ : Ar) = ⟨A.k, 1, Z.length, 0, Z⟩) := by unfold Hid; rw [hZ, HSh.out.1, HSh.out.2, hZl, HRk.out]
        have HVe := Lib.hid (vec_lit (k := A.k) HO.out HNl.out (by omega))
        have HK := Lib.hid HV.out.m
        clear HV HO HNl hZ hZl HZl
        go_wp2_with (go_at_call 45; (with_reducible refine HVe.out.mono ?_); rintro e w3 ⟨q', qc, rfl, hu, hb⟩; have HU := Lib.hid hu; have hlt := HK.out.sz; have HK2 := Lib.hid (HK.out.next hb); clear hu hb HK; have y0 := HK2.out.res.c0; have y1 := HK2.out.res.c1; have y2 := HK2.out.res.c2; have y3 := HK2.out.res.c3; have y4 := HK2.out.res.c4; have f0 := HK2.out.res.fr 0; have f1 := HK2.out.res.fr 1; have f2 := HK2.out.res.fr 2; have f3 := HK2.out.res.fr 3; have f4 := HK2.out.res.fr 4; have HS := Lib.hid (HK2.out.res.set A.k 1 Z.length 0 (.slice q' Z.length qc)); have z0 := HS.out.c0; have z1 := HS.out.c1; have z2 := HS.out.c2; have z3 := HS.out.c3; have z4 := HS.out.c4)
        rw [HZe.out]
        refine bodyPost_ret (v := .tuple #[A5 A.k 1 Z.length 0 (.slice q' Z.length qc), .int .i64 0]) (by simp [results, Tryd.results39, go_sem, z0, z1, z2, z3, z4]) rfl ?_
        exact ⟨_, rfl, (HU.out.st5 (by omega) _ _ _ _ _).mono (by omega), st5_below _ _ _ _ _ (by omega) HK2.out.c.bel⟩
      | succ g2 =>
        have hiz : (i : Int) < (n : Int) := by omega
        have hi : i < n := by omega
        have hwi : IntKind.i64.wrap ((i : Int) + 1) = (i : Int) + 1 := by rw [IntKind.wrap_i64]; omega
        obtain ⟨hbA, hbB, hRA, hRB, hSq, hl1, hl2, hl3⟩ := HCut.out i hi
        obtain ⟨d1, hd1⟩ : ∃ d, i * mA = d := ⟨_, rfl⟩
        obtain ⟨d2, hd2⟩ : ∃ d, i * mB = d := ⟨_, rfl⟩
        rw [hd1] at hbA hRA
        rw [hd2] at hbB hRB
        have hwa : IntKind.i64.wrap ((i : Int) * (mA : Int)) = (d1 : Int) := by rw [← Int.natCast_mul, IntKind.wrap_i64, hd1]; omega
        have hwb : IntKind.i64.wrap ((i : Int) * (mB : Int)) = (d2 : Int) := by rw [← Int.natCast_mul, IntKind.wrap_i64, hd2]; omega
        have hwc : IntKind.i64.wrap ((d1 : Int) + (mA : Int)) = ((d1 + mA : Nat) : Int) := by rw [IntKind.wrap_i64]; omega
        have hwd : IntKind.i64.wrap ((d2 : Int) + (mB : Int)) = ((d2 + mB : Nat) : Int) := by rw [IntKind.wrap_i64]; omega
        have hcA3 := fun W => cut_run p A.z.length cap d1 (d1 + mA) (by omega) (by omega) W
        have hcB3 := fun W => cut_run q B.z.length dap d2 (d2 + mB) (by omega) (by omega) W
        have HRA := Lib.hid hRA
        have HRB := Lib.hid hRB
        have HSq := Lib.hid hSq
        have HNCA := Lib.hid (cut_nil (lo := d1) (hi := d1 + mA) HNA.out)
        have HNCB := Lib.hid (cut_nil (lo := d2) (hi := d2 + mB) HNB.out)
        generalize (ctZ A B).take (i * (mA + mB)) = L at HV HSq hl1
        generalize rwI A i = RA at HRA HSq hl2
        generalize rwI B i = RB at HRB HSq hl3
        have hlen1 : L.length + RA.length ≤ 1000000 := by omega
        have hlen2 : (L ++ RA).length + RB.length ≤ 1000000 := by rw [List.length_append]; omega
        generalize hh1 : d1 + mA = h1 at *
        generalize hh2 : d2 + mB = h2 at *
        clear hd1 hd2 hRA hRB hSq hl1 hl2 hl3 hbA hbB hh1 hh2
        go_wp2_with fail
        have HAll : Hid (∀ W, MK2 w A (.slice p A.z.length cap) B (.slice q B.z.length dap) W → (fun W => MK2 w A (.slice p A.z.length cap) B (.slice q B.z.length dap) W ∧ W.cell? ⟨w.heap.size, 4, none⟩ = some (.slice p A.z.length cap) ∧ W.cell? ⟨w.heap.size + 1, 4, none⟩ = some (.slice q B.z.length dap)) W) := fun W h => ⟨h, h.c.boxA.c4, h.c.boxB.c4⟩
        refine wp_region_held_drew (S := (fun W => MK2 w A (.slice p A.z.length cap) B (.slice q B.z.length dap) W ∧ W.cell? ⟨w.heap.size, 4, none⟩ = some (.slice p A.z.length cap) ∧ W.cell? ⟨w.heap.size + 1, 4, none⟩ = some (.slice q B.z.length dap))) (by kernel_rfl) ?_ (fun hHeld => ?_)
        · exact HAll.out _ (HV.out.m.next (Below.refl _ _).drew)
        have HO : Hid (Ru.Ins 2 (World.drew wr) (w.heap.size + 3) u7 L) := World.ownsRow.drew HV.out.own
        generalize World.drew wr = wd at hHeld HO ⊢
        clear HV x1 x4 y4 x0
        refine wpAnyH_take (i := 0) (v := ?_) rfl (by kernel_rfl) (by kernel_rfl) (by kernel_rfl) (fun _ _ _ h => h) (Or.inl ⟨by rfl, ?_⟩) (by assumption) ?_
        rotate_left
        · ((intro w0 hSw); (try dsimp only at hSw); go_simp; (try with_reducible rfl))
        change wpAnyH _ _ _ _ _ _ _ (Act.put _ (some 99) _) _
        try simp only [Act.put, List.setIfInBounds_toArray, List.set_cons_zero, List.set_cons_succ]
        refine wpAnyH_take (i := 1) (v := ?_) rfl (by kernel_rfl) (by kernel_rfl) (by kernel_rfl) (fun _ _ _ h => h) (Or.inl ⟨by rfl, ?_⟩) (by assumption) ?_
        rotate_left
        · ((intro w0 hSw); (try dsimp only at hSw); go_simp; (try with_reducible rfl))
        change wpAnyH _ _ _ _ _ _ _ (Act.put _ (some 100) _) _
        try simp only [Act.put, List.setIfInBounds_toArray, List.set_cons_zero, List.set_cons_succ]
        refine wpAnyH_take (i := 2) (v := ?_) rfl (by kernel_rfl) (by kernel_rfl) (by kernel_rfl) (fun _ _ _ h => h) (Or.inl ⟨by rfl, ?_⟩) (by assumption) ?_
        rotate_left
        · ((intro w0 hSw); (try dsimp only at hSw); go_simp; (try with_reducible rfl))
        change wpAnyH _ _ _ _ _ _ _ (Act.put _ (some 101) _) _
        try simp only [Act.put, List.setIfInBounds_toArray, List.set_cons_zero, List.set_cons_succ]
        refine wpAnyH_take (i := 3) (v := ?_) rfl (by kernel_rfl) (by kernel_rfl) (by kernel_rfl) (fun _ _ _ h => h) (Or.inl ⟨by rfl, ?_⟩) (by assumption) ?_
        rotate_left
        · ((intro w0 hSw); (try dsimp only at hSw); go_simp; (try with_reducible rfl))
        change wpAnyH _ _ _ _ _ _ _ (Act.put _ (some 102) _) _
        try simp only [Act.put, List.setIfInBounds_toArray, List.set_cons_zero, List.set_cons_succ]
        refine wpAnyH_take (i := 4) (v := ?_) rfl (by kernel_rfl) (by kernel_rfl) (by kernel_rfl) (fun _ _ _ h => h) (Or.inl ⟨by rfl, ?_⟩) (by assumption) ?_
        rotate_left
        · ((intro w0 hSw); (try dsimp only at hSw); go_simp; (try with_reducible rfl))
        change wpAnyH _ _ _ _ _ _ _ (Act.put _ (some 103) _) _
        try simp only [Act.put, List.setIfInBounds_toArray, List.set_cons_zero, List.set_cons_succ]
        refine wpAnyH_take (i := 5) (v := ?_) rfl (by kernel_rfl) (by kernel_rfl) (by kernel_rfl) (fun _ _ _ h => h) (Or.inl ⟨by rfl, ?_⟩) (by assumption) ?_
        rotate_left
        · ((intro w0 hSw); (try dsimp only at hSw); go_simp; (try with_reducible rfl))
        change wpAnyH _ _ _ _ _ _ _ (Act.put _ (some 104) _) _
        try simp only [Act.put, List.setIfInBounds_toArray, List.set_cons_zero, List.set_cons_succ]
        refine wpAnyH_take (i := 6) (v := ?_) rfl (by kernel_rfl) (by kernel_rfl) (by kernel_rfl) (fun _ _ _ h => h) (Or.inl ⟨by rfl, ?_⟩) (by assumption) ?_
        rotate_left
        · ((intro w0 hSw); (try dsimp only at hSw); go_simp; (try with_reducible rfl))
        change wpAnyH _ _ _ _ _ _ _ (Act.put _ (some 105) _) _
        try simp only [Act.put, List.setIfInBounds_toArray, List.set_cons_zero, List.set_cons_succ]
        refine wpAnyH_take (i := 7) (v := ?_) rfl (by kernel_rfl) (by kernel_rfl) (by kernel_rfl) (fun _ _ _ h => h) (Or.inl ⟨by rfl, ?_⟩) (by assumption) ?_
        rotate_left
        · ((intro w0 hSw); (try dsimp only at hSw); go_simp; (try with_reducible rfl))
        change wpAnyH _ _ _ _ _ _ _ (Act.put _ (some 106) _) _
        try simp only [Act.put, List.setIfInBounds_toArray, List.set_cons_zero, List.set_cons_succ]
        refine wpAnyH_take (i := 8) (v := ?_) rfl (by kernel_rfl) (by kernel_rfl) (by kernel_rfl) (fun _ _ _ h => h) (Or.inl ⟨by rfl, ?_⟩) (by assumption) ?_
        rotate_left
        · ((intro w0 hSw); (try dsimp only at hSw); go_simp; (try with_reducible rfl))
        change wpAnyH _ _ _ _ _ _ _ (Act.put _ (some 107) _) _
        try simp only [Act.put, List.setIfInBounds_toArray, List.set_cons_zero, List.set_cons_succ]
        refine wpAnyH_take (i := 9) (v := ?_) rfl (by kernel_rfl) (by kernel_rfl) (by kernel_rfl) (fun _ _ _ h => h) (Or.inl ⟨by rfl, ?_⟩) (by assumption) ?_
        rotate_left
        · ((intro w0 hSw); (try dsimp only at hSw); go_simp; (try with_reducible rfl))
        change wpAnyH _ _ _ _ _ _ _ (Act.put _ (some 108) _) _
        try simp only [Act.put, List.setIfInBounds_toArray, List.set_cons_zero, List.set_cons_succ]
        refine wpAnyH_take (i := 10) (v := ?_) rfl (by kernel_rfl) (by kernel_rfl) (by kernel_rfl) (fun _ _ _ h => h) (Or.inl ⟨by rfl, ?_⟩) (by assumption) ?_
        rotate_left
        · ((intro w0 hSw); (try dsimp only at hSw); go_simp; (try with_reducible rfl))
        change wpAnyH _ _ _ _ _ _ _ (Act.put _ (some 109) _) _
        try simp only [Act.put, List.setIfInBounds_toArray, List.set_cons_zero, List.set_cons_succ]
        refine wpAnyH_take (i := 11) (v := ?_) rfl (by kernel_rfl) (by kernel_rfl) (by kernel_rfl) (fun _ _ _ h => h) (Or.inl ⟨by rfl, ?_⟩) (by assumption) ?_
        rotate_left
        · ((intro w0 hSw); (try dsimp only at hSw); go_simp; (try with_reducible rfl))
        change wpAnyH _ _ _ _ _ _ _ (Act.put _ (some 110) _) _
        try simp only [Act.put, List.setIfInBounds_toArray, List.set_cons_zero, List.set_cons_succ]
        refine wpAnyH_take (i := 13) (v := ?_) rfl (by kernel_rfl) (by kernel_rfl) (by kernel_rfl) (fun _ _ _ h => h) (Or.inl ⟨by rfl, ?_⟩) (by assumption) ?_
        rotate_left
        · ((intro w0 hSw); (try dsimp only at hSw); go_simp; (try with_reducible rfl))
        change wpAnyH _ _ _ _ _ _ _ (Act.put _ (some 112) _) _
        try simp only [Act.put, List.setIfInBounds_toArray, List.set_cons_zero, List.set_cons_succ]
        refine wpAnyH_take (i := 14) (v := ?_) rfl (by kernel_rfl) (by kernel_rfl) (by kernel_rfl) (fun _ _ _ h => h) (Or.inl ⟨by rfl, ?_⟩) (by assumption) ?_
        rotate_left
        · ((intro w0 hSw); (try dsimp only at hSw); go_simp; (try with_reducible rfl))
        change wpAnyH _ _ _ _ _ _ _ (Act.put _ (some 113) _) _
        try simp only [Act.put, List.setIfInBounds_toArray, List.set_cons_zero, List.set_cons_succ]
        refine wpAnyH_take (i := 15) (v := ?_) rfl (by kernel_rfl) (by kernel_rfl) (by kernel_rfl) (fun _ _ _ h => h) (Or.inl ⟨by rfl, ?_⟩) (by assumption) ?_
        rotate_left
        · ((intro w0 hSw); (try dsimp only at hSw); go_simp; (try with_reducible rfl))
        change wpAnyH _ _ _ _ _ _ _ (Act.put _ (some 114) _) _
        try simp only [Act.put, List.setIfInBounds_toArray, List.set_cons_zero, List.set_cons_succ]
        refine wpAnyH_take (i := 16) (v := ?_) rfl (by kernel_rfl) (by kernel_rfl) (by kernel_rfl) (fun _ _ _ h => h) (Or.inl ⟨by rfl, ?_⟩) (by assumption) ?_
        rotate_left
        · ((intro w0 hSw); (try dsimp only at hSw); go_simp; (try with_reducible rfl))
        change wpAnyH _ _ _ _ _ _ _ (Act.put _ (some 115) _) _
        try simp only [Act.put, List.setIfInBounds_toArray, List.set_cons_zero, List.set_cons_succ]
        refine wpAnyH_take (i := 17) (v := ?_) rfl (by kernel_rfl) (by kernel_rfl) (by kernel_rfl) (fun _ _ _ h => h) (Or.inl ⟨by rfl, ?_⟩) (by assumption) ?_
        rotate_left
        · ((intro w0 hSw); (try dsimp only at hSw); go_simp; (try with_reducible rfl))
        change wpAnyH _ _ _ _ _ _ _ (Act.put _ (some 116) _) _
        try simp only [Act.put, List.setIfInBounds_toArray, List.set_cons_zero, List.set_cons_succ]
        refine wpAnyH_take (i := 18) (v := ?_) rfl (by kernel_rfl) (by kernel_rfl) (by kernel_rfl) (fun _ _ _ h => h) (Or.inl ⟨by rfl, ?_⟩) (by assumption) ?_
        rotate_left
        · ((intro w0 hSw); (try dsimp only at hSw); go_simp; (try with_reducible rfl))
        change wpAnyH _ _ _ _ _ _ _ (Act.put _ (some 117) _) _
        try simp only [Act.put, List.setIfInBounds_toArray, List.set_cons_zero, List.set_cons_succ]
        refine wpAnyH_take (i := 19) (v := ?_) rfl (by kernel_rfl) (by kernel_rfl) (by kernel_rfl) (fun _ _ _ h => h) (Or.inl ⟨by rfl, ?_⟩) (by assumption) ?_
        rotate_left
        · ((intro w0 hSw); (try dsimp only at hSw); go_simp; (try with_reducible rfl))
        change wpAnyH _ _ _ _ _ _ _ (Act.put _ (some 118) _) _
        try simp only [Act.put, List.setIfInBounds_toArray, List.set_cons_zero, List.set_cons_succ]
        refine wpAnyH_take (i := 20) (v := ?_) rfl (by kernel_rfl) (by kernel_rfl) (by kernel_rfl) (fun _ _ _ h => h) (Or.inl ⟨by rfl, ?_⟩) (by assumption) ?_
        rotate_left
        · ((intro w0 hSw); (try dsimp only at hSw); go_simp; (try with_reducible rfl))
        change wpAnyH _ _ _ _ _ _ _ (Act.put _ (some 119) _) _
        try simp only [Act.put, List.setIfInBounds_toArray, List.set_cons_zero, List.set_cons_succ]
        refine wpAnyH_take (i := 21) (v := ?_) rfl (by kernel_rfl) (by kernel_rfl) (by kernel_rfl) (fun _ _ _ h => h) (Or.inl ⟨by rfl, ?_⟩) (by assumption) ?_
        rotate_left
        · ((intro w0 hSw); (try dsimp only at hSw); go_simp; (try with_reducible rfl))
        change wpAnyH _ _ _ _ _ _ _ (Act.put _ (some 120) _) _
        try simp only [Act.put, List.setIfInBounds_toArray, List.set_cons_zero, List.set_cons_succ]
        refine wpAnyH_take (i := 22) (v := ?_) rfl (by kernel_rfl) (by kernel_rfl) (by kernel_rfl) (fun _ _ _ h => h) (Or.inl ⟨by rfl, ?_⟩) (by assumption) ?_
        rotate_left
        · ((intro w0 hSw); (try dsimp only at hSw); go_simp; (try with_reducible rfl))
        change wpAnyH _ _ _ _ _ _ _ (Act.put _ (some 121) _) _
        try simp only [Act.put, List.setIfInBounds_toArray, List.set_cons_zero, List.set_cons_succ]
        refine wpAnyH_take (i := 23) (v := ?_) rfl (by kernel_rfl) (by kernel_rfl) (by kernel_rfl) (fun _ _ _ h => h) (Or.inl ⟨by rfl, ?_⟩) (by assumption) ?_
        rotate_left
        · ((intro w0 hSw); (try dsimp only at hSw); go_simp; (try with_reducible rfl))
        change wpAnyH _ _ _ _ _ _ _ (Act.put _ (some 122) _) _
        try simp only [Act.put, List.setIfInBounds_toArray, List.set_cons_zero, List.set_cons_succ]
        refine wpAnyH_ready (rs := [12]) (by kernel_rfl) (by simp) ?_
        refine AllReadyH.cons rfl (fun K hK => ?_) (AllReadyH.nil)
        refine wp_append_is (.tmp 99) (.tmp 110) rfl (w.heap.size + 3) _ L (by rfl) HO.out (cutS p d1 h1 cap) RA (by rfl) _ (HRA.out _ hHeld.1.c.rdnA) HNCA.out hlen1 hHeld.1.sz ?_
        intro u2 w2 hu2 hg2
        have hb2 := ins_grown HO.out hHeld.1.sz hg2
        refine hK.out _ _ ?_ (fun hHeld2 => ?_)
        · exact HAll.out _ (hHeld.1.far hb2 (hHeld.1.c.lay.below (by have := HW3.out; omega) hb2))
        clear hK K hHeld
        have hHeld := hHeld2; clear hHeld2
        try change wpAnyH _ _ _ _ _ _ _ (Act.put _ (some 111) _) _
        try simp only [Act.put, List.setIfInBounds_toArray, List.set_cons_zero, List.set_cons_succ]
        have HO2 := Lib.hid hu2
        clear hu2 hg2 hb2 HO
        refine wpAnyH_ready (rs := [24]) (by kernel_rfl) (by simp) ?_
        refine AllReadyH.cons rfl (fun K hK => ?_) (AllReadyH.nil)
        refine wp_append_is (.tmp 111) (.tmp 122) rfl (w.heap.size + 3) _ (L ++ RA) (by rfl) HO2.out (cutS q d2 h2 dap) RB (by rfl) _ (HRB.out _ hHeld.1.c.rdnB) HNCB.out hlen2 hHeld.1.sz ?_
        intro u3 w3 hu3 hg3
        have hb2 := ins_grown HO2.out hHeld.1.sz hg3
        refine hK.out _ _ ?_ (fun hHeld2 => ?_)
        · exact HAll.out _ (hHeld.1.far hb2 (hHeld.1.c.lay.below (by have := HW3.out; omega) hb2))
        clear hK K hHeld
        have hHeld := hHeld2; clear hHeld2
        try change wpAnyH _ _ _ _ _ _ _ (Act.put _ (some 123) _) _
        try simp only [Act.put, List.setIfInBounds_toArray, List.set_cons_zero, List.set_cons_succ]
        have HV2 : Hid (K27 w A (.slice p A.z.length cap) B (.slice q B.z.length dap) u3 ((L ++ RA) ++ RB) w3) := ⟨hHeld.1, hu3⟩
        clear hu3 hg3 hb2 HO2 HAll
        rw [HSq.out] at HV2
        refine wpAnyH_take (i := 25) (v := ?_) rfl (by kernel_rfl) (by kernel_rfl) (by kernel_rfl) (fun _ _ _ h => h) (Or.inl ⟨by rfl, ?_⟩) (by assumption) ?_
        rotate_left
        · ((intro w0 hSw); (try dsimp only at hSw); go_simp; (try with_reducible rfl))
        change wpAnyH _ _ _ _ _ _ _ (Act.put _ (some 7) _) _
        try simp only [Act.put, List.setIfInBounds_toArray, List.set_cons_zero, List.set_cons_succ]
        refine wpAnyH_done (by kernel_rfl) ?_ _
        go_wp2_with fail
        go_roundg g2
        case measure => omega
        case rel => exact ⟨i + 1, _, by omega, rfl, by go_num, HV2.out⟩
  · have HSh := Lib.hid (hsh.2 hr)
    have k6' : (A.r == 2) = true := by rw [hr]; rfl
    have k7 : (A.a != B.a) = false := by rcases k6 with ⟨_, h⟩ | h; (exact h); (rw [k6'] at h; cases h)
    have k10 : (A.r == 1) = false := by rw [hr]; rfl
    have HRk := Lib.hid hr
    clear hsh h6 k6 hr
    go_enter Tryd.func39, Tryd.ntmps39
    go_wp2_with (first
      | (go_at_call 40; (with_reducible refine (HCA.out _ HK.out.c.rdnA).mono ?_); rintro e w1 ⟨rfl, hb⟩; have HK2 := Lib.hid (HK.out.next hb); clear HK x0 x1 x2 x3 x4 y0 y1 y2 y3 y4; have HK := HK2; clear HK2; have x0 := HK.out.c.boxA.c0; have x1 := HK.out.c.boxA.c1; have x2 := HK.out.c.boxA.c2; have x3 := HK.out.c.boxA.c3; have x4 := HK.out.c.boxA.c4; have y0 := HK.out.c.boxB.c0; have y1 := HK.out.c.boxB.c1; have y2 := HK.out.c.boxB.c2; have y3 := HK.out.c.boxB.c3; have y4 := HK.out.c.boxB.c4; clear hb)
      | (go_at_call 40; (with_reducible refine (HCB.out _ HK.out.c.rdnB).mono ?_); rintro e w2 ⟨rfl, hb⟩; have HK2 := Lib.hid (HK.out.next hb); clear HK x0 x1 x2 x3 x4 y0 y1 y2 y3 y4; have HK := HK2; clear HK2; have x0 := HK.out.c.boxA.c0; have x1 := HK.out.c.boxA.c1; have x2 := HK.out.c.boxA.c2; have x3 := HK.out.c.boxA.c3; have x4 := HK.out.c.boxA.c4; have y0 := HK.out.c.boxB.c0; have y1 := HK.out.c.boxB.c1; have y2 := HK.out.c.boxB.c2; have y3 := HK.out.c.boxB.c3; have y4 := HK.out.c.boxB.c4; clear hb)
      | (go_at_call 63; (with_reducible refine (HRoA.out _ HK.out.c.rdnA).mono ?_); rintro e w3 ⟨rfl, hb⟩; have HK2 := Lib.hid (HK.out.next hb); clear HK x0 x1 x2 x3 x4 y0 y1 y2 y3 y4; have HK := HK2; clear HK2; have x0 := HK.out.c.boxA.c0; have x1 := HK.out.c.boxA.c1; have x2 := HK.out.c.boxA.c2; have x3 := HK.out.c.boxA.c3; have x4 := HK.out.c.boxA.c4; have y0 := HK.out.c.boxB.c0; have y1 := HK.out.c.boxB.c1; have y2 := HK.out.c.boxB.c2; have y3 := HK.out.c.boxB.c3; have y4 := HK.out.c.boxB.c4; clear hb)
      | (go_at_call 63; (with_reducible refine (HRoB.out _ HK.out.c.rdnB).mono ?_); rintro e w4 ⟨rfl, hb⟩; have HK2 := Lib.hid (HK.out.next hb); clear HK x0 x1 x2 x3 x4 y0 y1 y2 y3 y4; have HK := HK2; clear HK2; have x0 := HK.out.c.boxA.c0; have x1 := HK.out.c.boxA.c1; have x2 := HK.out.c.boxA.c2; have x3 := HK.out.c.boxA.c3; have x4 := HK.out.c.boxA.c4; have y0 := HK.out.c.boxB.c0; have y1 := HK.out.c.boxB.c1; have y2 := HK.out.c.boxB.c2; have y3 := HK.out.c.boxB.c3; have y4 := HK.out.c.boxB.c4; clear hb))
    have HK0 : Hid (K27 w A (.slice p A.z.length cap) B (.slice q B.z.length dap) (.slice none 0 0) [] w4) := ⟨HK.out, ins_nil _ _⟩
    clear HK HCA HCB HRoA HRoB x0 x1 x2 x3 x4 y0 y1 y2 y3 y4
    go_loopg [7, 12] n (fun gk s v wr => ∃ (i : Nat) (U : Value), i + gk = n ∧ s = U ∧ v = .int .i64 i ∧ K27 w A (.slice p A.z.length cap) B (.slice q B.z.length dap) U ((ctZ A B).take (i * (mA + mB))) wr)
    case atStart => exact ⟨0, _, by omega, rfl, rfl, by rw [Nat.zero_mul]; exact HK0.out⟩
    case round =>
      obtain ⟨i, s0, hig, rfl, rfl, hk⟩ := hrel
      have HV := Lib.hid hk
      clear hk HK0
      have x0 := HV.out.m.c.boxA.c0; have x1 := HV.out.m.c.boxA.c1; have x4 := HV.out.m.c.boxA.c4; have y4 := HV.out.m.c.boxB.c4
      cases gk with
      | zero =>
        have hiz : ¬ ((i : Int) < (n : Int)) := by omega
        obtain ⟨Z, hZ⟩ : ∃ Z, ctZ A B = Z := ⟨_, rfl⟩
        have hZl : Z.length = n * (mA + mB) := by rw [← hZ]; exact HZl.out
        have HO : Hid (RdI wr.heap.size wr u7 Z) := by
          have h := (ins_new HV.out.own).rd
          have e : i = n := by omega
          rw [e, hZ, List.take_of_length_le (by omega)] at h
          exact h
        have HNl := Lib.hid (ins_nilC HV.out.own)
        have HZe : Hid ((⟨A.k, A.r, ctA A B, ctB A B, ctZ A B⟩ : Ar) = ⟨A.k, 2, (n : Int), (mm : Int), Z⟩) := by unfold Hid; rw [hZ, HSh.out.1, HSh.out.2, HRk.out, HMm.out]
        have HVe := Lib.hid (mat_lit7 (k := A.k) (m := (n : Int)) (n := (mm : Int)) HO.out HNl.out (by omega))
        have HK := Lib.hid HV.out.m
        clear HV HO HNl hZ hZl HZl
        go_wp2_with (go_at_call 42; (with_reducible refine HVe.out.mono ?_); rintro e w3 ⟨q', qc, rfl, hu, hb⟩; have HU := Lib.hid hu; have hlt := HK.out.sz; have HK2 := Lib.hid (HK.out.next hb); clear hu hb HK; have y0 := HK2.out.res.c0; have y1 := HK2.out.res.c1; have y2 := HK2.out.res.c2; have y3 := HK2.out.res.c3; have y4 := HK2.out.res.c4; have f0 := HK2.out.res.fr 0; have f1 := HK2.out.res.fr 1; have f2 := HK2.out.res.fr 2; have f3 := HK2.out.res.fr 3; have f4 := HK2.out.res.fr 4; have HS := Lib.hid (HK2.out.res.set A.k 2 (n : Int) (mm : Int) (.slice q' Z.length qc)); have z0 := HS.out.c0; have z1 := HS.out.c1; have z2 := HS.out.c2; have z3 := HS.out.c3; have z4 := HS.out.c4)
        rw [HZe.out]
        refine bodyPost_ret (v := .tuple #[A5 A.k 2 (n : Int) (mm : Int) (.slice q' Z.length qc), .int .i64 0]) (by simp [results, Tryd.results39, go_sem, z0, z1, z2, z3, z4]) rfl ?_
        exact ⟨_, rfl, (HU.out.st5 (by omega) _ _ _ _ _).mono (by omega), st5_below _ _ _ _ _ (by omega) HK2.out.c.bel⟩
      | succ g2 =>
        have hiz : (i : Int) < (n : Int) := by omega
        have hi : i < n := by omega
        have hwi : IntKind.i64.wrap ((i : Int) + 1) = (i : Int) + 1 := by rw [IntKind.wrap_i64]; omega
        obtain ⟨hbA, hbB, hRA, hRB, hSq, hl1, hl2, hl3⟩ := HCut.out i hi
        obtain ⟨d1, hd1⟩ : ∃ d, i * mA = d := ⟨_, rfl⟩
        obtain ⟨d2, hd2⟩ : ∃ d, i * mB = d := ⟨_, rfl⟩
        rw [hd1] at hbA hRA
        rw [hd2] at hbB hRB
        have hwa : IntKind.i64.wrap ((i : Int) * (mA : Int)) = (d1 : Int) := by rw [← Int.natCast_mul, IntKind.wrap_i64, hd1]; omega
        have hwb : IntKind.i64.wrap ((i : Int) * (mB : Int)) = (d2 : Int) := by rw [← Int.natCast_mul, IntKind.wrap_i64, hd2]; omega
        have hwc : IntKind.i64.wrap ((d1 : Int) + (mA : Int)) = ((d1 + mA : Nat) : Int) := by rw [IntKind.wrap_i64]; omega
        have hwd : IntKind.i64.wrap ((d2 : Int) + (mB : Int)) = ((d2 + mB : Nat) : Int) := by rw [IntKind.wrap_i64]; omega
        have hcA3 := fun W => cut_run p A.z.length cap d1 (d1 + mA) (by omega) (by omega) W
        have hcB3 := fun W => cut_run q B.z.length dap d2 (d2 + mB) (by omega) (by omega) W
        have HRA := Lib.hid hRA
        have HRB := Lib.hid hRB
        have HSq := Lib.hid hSq
        have HNCA := Lib.hid (cut_nil (lo := d1) (hi := d1 + mA) HNA.out)
        have HNCB := Lib.hid (cut_nil (lo := d2) (hi := d2 + mB) HNB.out)
        generalize (ctZ A B).take (i * (mA + mB)) = L at HV HSq hl1
        generalize rwI A i = RA at HRA HSq hl2
        generalize rwI B i = RB at HRB HSq hl3
        have hlen1 : L.length + RA.length ≤ 1000000 := by omega
        have hlen2 : (L ++ RA).length + RB.length ≤ 1000000 := by rw [List.length_append]; omega
        generalize hh1 : d1 + mA = h1 at *
        generalize hh2 : d2 + mB = h2 at *
        clear hd1 hd2 hRA hRB hSq hl1 hl2 hl3 hbA hbB hh1 hh2
        go_wp2_with fail
        have HAll : Hid (∀ W, MK2 w A (.slice p A.z.length cap) B (.slice q B.z.length dap) W → (fun W => MK2 w A (.slice p A.z.length cap) B (.slice q B.z.length dap) W ∧ W.cell? ⟨w.heap.size, 4, none⟩ = some (.slice p A.z.length cap) ∧ W.cell? ⟨w.heap.size + 1, 4, none⟩ = some (.slice q B.z.length dap)) W) := fun W h => ⟨h, h.c.boxA.c4, h.c.boxB.c4⟩
        refine wp_region_held_drew (S := (fun W => MK2 w A (.slice p A.z.length cap) B (.slice q B.z.length dap) W ∧ W.cell? ⟨w.heap.size, 4, none⟩ = some (.slice p A.z.length cap) ∧ W.cell? ⟨w.heap.size + 1, 4, none⟩ = some (.slice q B.z.length dap))) (by kernel_rfl) ?_ (fun hHeld => ?_)
        · exact HAll.out _ (HV.out.m.next (Below.refl _ _).drew)
        have HO : Hid (Ru.Ins 2 (World.drew wr) (w.heap.size + 3) u7 L) := World.ownsRow.drew HV.out.own
        generalize World.drew wr = wd at hHeld HO ⊢
        clear HV x1 x4 y4 x0
        refine wpAnyH_take (i := 0) (v := ?_) rfl (by kernel_rfl) (by kernel_rfl) (by kernel_rfl) (fun _ _ _ h => h) (Or.inl ⟨by rfl, ?_⟩) (by assumption) ?_
        rotate_left
        · ((intro w0 hSw); (try dsimp only at hSw); go_simp; (try with_reducible rfl))
        change wpAnyH _ _ _ _ _ _ _ (Act.put _ (some 99) _) _
        try simp only [Act.put, List.setIfInBounds_toArray, List.set_cons_zero, List.set_cons_succ]
        refine wpAnyH_take (i := 1) (v := ?_) rfl (by kernel_rfl) (by kernel_rfl) (by kernel_rfl) (fun _ _ _ h => h) (Or.inl ⟨by rfl, ?_⟩) (by assumption) ?_
        rotate_left
        · ((intro w0 hSw); (try dsimp only at hSw); go_simp; (try with_reducible rfl))
        change wpAnyH _ _ _ _ _ _ _ (Act.put _ (some 100) _) _
        try simp only [Act.put, List.setIfInBounds_toArray, List.set_cons_zero, List.set_cons_succ]
        refine wpAnyH_take (i := 2) (v := ?_) rfl (by kernel_rfl) (by kernel_rfl) (by kernel_rfl) (fun _ _ _ h => h) (Or.inl ⟨by rfl, ?_⟩) (by assumption) ?_
        rotate_left
        · ((intro w0 hSw); (try dsimp only at hSw); go_simp; (try with_reducible rfl))
        change wpAnyH _ _ _ _ _ _ _ (Act.put _ (some 101) _) _
        try simp only [Act.put, List.setIfInBounds_toArray, List.set_cons_zero, List.set_cons_succ]
        refine wpAnyH_take (i := 3) (v := ?_) rfl (by kernel_rfl) (by kernel_rfl) (by kernel_rfl) (fun _ _ _ h => h) (Or.inl ⟨by rfl, ?_⟩) (by assumption) ?_
        rotate_left
        · ((intro w0 hSw); (try dsimp only at hSw); go_simp; (try with_reducible rfl))
        change wpAnyH _ _ _ _ _ _ _ (Act.put _ (some 102) _) _
        try simp only [Act.put, List.setIfInBounds_toArray, List.set_cons_zero, List.set_cons_succ]
        refine wpAnyH_take (i := 4) (v := ?_) rfl (by kernel_rfl) (by kernel_rfl) (by kernel_rfl) (fun _ _ _ h => h) (Or.inl ⟨by rfl, ?_⟩) (by assumption) ?_
        rotate_left
        · ((intro w0 hSw); (try dsimp only at hSw); go_simp; (try with_reducible rfl))
        change wpAnyH _ _ _ _ _ _ _ (Act.put _ (some 103) _) _
        try simp only [Act.put, List.setIfInBounds_toArray, List.set_cons_zero, List.set_cons_succ]
        refine wpAnyH_take (i := 5) (v := ?_) rfl (by kernel_rfl) (by kernel_rfl) (by kernel_rfl) (fun _ _ _ h => h) (Or.inl ⟨by rfl, ?_⟩) (by assumption) ?_
        rotate_left
        · ((intro w0 hSw); (try dsimp only at hSw); go_simp; (try with_reducible rfl))
        change wpAnyH _ _ _ _ _ _ _ (Act.put _ (some 104) _) _
        try simp only [Act.put, List.setIfInBounds_toArray, List.set_cons_zero, List.set_cons_succ]
        refine wpAnyH_take (i := 6) (v := ?_) rfl (by kernel_rfl) (by kernel_rfl) (by kernel_rfl) (fun _ _ _ h => h) (Or.inl ⟨by rfl, ?_⟩) (by assumption) ?_
        rotate_left
        · ((intro w0 hSw); (try dsimp only at hSw); go_simp; (try with_reducible rfl))
        change wpAnyH _ _ _ _ _ _ _ (Act.put _ (some 105) _) _
        try simp only [Act.put, List.setIfInBounds_toArray, List.set_cons_zero, List.set_cons_succ]
        refine wpAnyH_take (i := 7) (v := ?_) rfl (by kernel_rfl) (by kernel_rfl) (by kernel_rfl) (fun _ _ _ h => h) (Or.inl ⟨by rfl, ?_⟩) (by assumption) ?_
        rotate_left
        · ((intro w0 hSw); (try dsimp only at hSw); go_simp; (try with_reducible rfl))
        change wpAnyH _ _ _ _ _ _ _ (Act.put _ (some 106) _) _
        try simp only [Act.put, List.setIfInBounds_toArray, List.set_cons_zero, List.set_cons_succ]
        refine wpAnyH_take (i := 8) (v := ?_) rfl (by kernel_rfl) (by kernel_rfl) (by kernel_rfl) (fun _ _ _ h => h) (Or.inl ⟨by rfl, ?_⟩) (by assumption) ?_
        rotate_left
        · ((intro w0 hSw); (try dsimp only at hSw); go_simp; (try with_reducible rfl))
        change wpAnyH _ _ _ _ _ _ _ (Act.put _ (some 107) _) _
        try simp only [Act.put, List.setIfInBounds_toArray, List.set_cons_zero, List.set_cons_succ]
        refine wpAnyH_take (i := 9) (v := ?_) rfl (by kernel_rfl) (by kernel_rfl) (by kernel_rfl) (fun _ _ _ h => h) (Or.inl ⟨by rfl, ?_⟩) (by assumption) ?_
        rotate_left
        · ((intro w0 hSw); (try dsimp only at hSw); go_simp; (try with_reducible rfl))
        change wpAnyH _ _ _ _ _ _ _ (Act.put _ (some 108) _) _
        try simp only [Act.put, List.setIfInBounds_toArray, List.set_cons_zero, List.set_cons_succ]
        refine wpAnyH_take (i := 10) (v := ?_) rfl (by kernel_rfl) (by kernel_rfl) (by kernel_rfl) (fun _ _ _ h => h) (Or.inl ⟨by rfl, ?_⟩) (by assumption) ?_
        rotate_left
        · ((intro w0 hSw); (try dsimp only at hSw); go_simp; (try with_reducible rfl))
        change wpAnyH _ _ _ _ _ _ _ (Act.put _ (some 109) _) _
        try simp only [Act.put, List.setIfInBounds_toArray, List.set_cons_zero, List.set_cons_succ]
        refine wpAnyH_take (i := 11) (v := ?_) rfl (by kernel_rfl) (by kernel_rfl) (by kernel_rfl) (fun _ _ _ h => h) (Or.inl ⟨by rfl, ?_⟩) (by assumption) ?_
        rotate_left
        · ((intro w0 hSw); (try dsimp only at hSw); go_simp; (try with_reducible rfl))
        change wpAnyH _ _ _ _ _ _ _ (Act.put _ (some 110) _) _
        try simp only [Act.put, List.setIfInBounds_toArray, List.set_cons_zero, List.set_cons_succ]
        refine wpAnyH_take (i := 13) (v := ?_) rfl (by kernel_rfl) (by kernel_rfl) (by kernel_rfl) (fun _ _ _ h => h) (Or.inl ⟨by rfl, ?_⟩) (by assumption) ?_
        rotate_left
        · ((intro w0 hSw); (try dsimp only at hSw); go_simp; (try with_reducible rfl))
        change wpAnyH _ _ _ _ _ _ _ (Act.put _ (some 112) _) _
        try simp only [Act.put, List.setIfInBounds_toArray, List.set_cons_zero, List.set_cons_succ]
        refine wpAnyH_take (i := 14) (v := ?_) rfl (by kernel_rfl) (by kernel_rfl) (by kernel_rfl) (fun _ _ _ h => h) (Or.inl ⟨by rfl, ?_⟩) (by assumption) ?_
        rotate_left
        · ((intro w0 hSw); (try dsimp only at hSw); go_simp; (try with_reducible rfl))
        change wpAnyH _ _ _ _ _ _ _ (Act.put _ (some 113) _) _
        try simp only [Act.put, List.setIfInBounds_toArray, List.set_cons_zero, List.set_cons_succ]
        refine wpAnyH_take (i := 15) (v := ?_) rfl (by kernel_rfl) (by kernel_rfl) (by kernel_rfl) (fun _ _ _ h => h) (Or.inl ⟨by rfl, ?_⟩) (by assumption) ?_
        rotate_left
        · ((intro w0 hSw); (try dsimp only at hSw); go_simp; (try with_reducible rfl))
        change wpAnyH _ _ _ _ _ _ _ (Act.put _ (some 114) _) _
        try simp only [Act.put, List.setIfInBounds_toArray, List.set_cons_zero, List.set_cons_succ]
        refine wpAnyH_take (i := 16) (v := ?_) rfl (by kernel_rfl) (by kernel_rfl) (by kernel_rfl) (fun _ _ _ h => h) (Or.inl ⟨by rfl, ?_⟩) (by assumption) ?_
        rotate_left
        · ((intro w0 hSw); (try dsimp only at hSw); go_simp; (try with_reducible rfl))
        change wpAnyH _ _ _ _ _ _ _ (Act.put _ (some 115) _) _
        try simp only [Act.put, List.setIfInBounds_toArray, List.set_cons_zero, List.set_cons_succ]
        refine wpAnyH_take (i := 17) (v := ?_) rfl (by kernel_rfl) (by kernel_rfl) (by kernel_rfl) (fun _ _ _ h => h) (Or.inl ⟨by rfl, ?_⟩) (by assumption) ?_
        rotate_left
        · ((intro w0 hSw); (try dsimp only at hSw); go_simp; (try with_reducible rfl))
        change wpAnyH _ _ _ _ _ _ _ (Act.put _ (some 116) _) _
        try simp only [Act.put, List.setIfInBounds_toArray, List.set_cons_zero, List.set_cons_succ]
        refine wpAnyH_take (i := 18) (v := ?_) rfl (by kernel_rfl) (by kernel_rfl) (by kernel_rfl) (fun _ _ _ h => h) (Or.inl ⟨by rfl, ?_⟩) (by assumption) ?_
        rotate_left
        · ((intro w0 hSw); (try dsimp only at hSw); go_simp; (try with_reducible rfl))
        change wpAnyH _ _ _ _ _ _ _ (Act.put _ (some 117) _) _
        try simp only [Act.put, List.setIfInBounds_toArray, List.set_cons_zero, List.set_cons_succ]
        refine wpAnyH_take (i := 19) (v := ?_) rfl (by kernel_rfl) (by kernel_rfl) (by kernel_rfl) (fun _ _ _ h => h) (Or.inl ⟨by rfl, ?_⟩) (by assumption) ?_
        rotate_left
        · ((intro w0 hSw); (try dsimp only at hSw); go_simp; (try with_reducible rfl))
        change wpAnyH _ _ _ _ _ _ _ (Act.put _ (some 118) _) _
        try simp only [Act.put, List.setIfInBounds_toArray, List.set_cons_zero, List.set_cons_succ]
        refine wpAnyH_take (i := 20) (v := ?_) rfl (by kernel_rfl) (by kernel_rfl) (by kernel_rfl) (fun _ _ _ h => h) (Or.inl ⟨by rfl, ?_⟩) (by assumption) ?_
        rotate_left
        · ((intro w0 hSw); (try dsimp only at hSw); go_simp; (try with_reducible rfl))
        change wpAnyH _ _ _ _ _ _ _ (Act.put _ (some 119) _) _
        try simp only [Act.put, List.setIfInBounds_toArray, List.set_cons_zero, List.set_cons_succ]
        refine wpAnyH_take (i := 21) (v := ?_) rfl (by kernel_rfl) (by kernel_rfl) (by kernel_rfl) (fun _ _ _ h => h) (Or.inl ⟨by rfl, ?_⟩) (by assumption) ?_
        rotate_left
        · ((intro w0 hSw); (try dsimp only at hSw); go_simp; (try with_reducible rfl))
        change wpAnyH _ _ _ _ _ _ _ (Act.put _ (some 120) _) _
        try simp only [Act.put, List.setIfInBounds_toArray, List.set_cons_zero, List.set_cons_succ]
        refine wpAnyH_take (i := 22) (v := ?_) rfl (by kernel_rfl) (by kernel_rfl) (by kernel_rfl) (fun _ _ _ h => h) (Or.inl ⟨by rfl, ?_⟩) (by assumption) ?_
        rotate_left
        · ((intro w0 hSw); (try dsimp only at hSw); go_simp; (try with_reducible rfl))
        change wpAnyH _ _ _ _ _ _ _ (Act.put _ (some 121) _) _
        try simp only [Act.put, List.setIfInBounds_toArray, List.set_cons_zero, List.set_cons_succ]
        refine wpAnyH_take (i := 23) (v := ?_) rfl (by kernel_rfl) (by kernel_rfl) (by kernel_rfl) (fun _ _ _ h => h) (Or.inl ⟨by rfl, ?_⟩) (by assumption) ?_
        rotate_left
        · ((intro w0 hSw); (try dsimp only at hSw); go_simp; (try with_reducible rfl))
        change wpAnyH _ _ _ _ _ _ _ (Act.put _ (some 122) _) _
        try simp only [Act.put, List.setIfInBounds_toArray, List.set_cons_zero, List.set_cons_succ]
        refine wpAnyH_ready (rs := [12]) (by kernel_rfl) (by simp) ?_
        refine AllReadyH.cons rfl (fun K hK => ?_) (AllReadyH.nil)
        refine wp_append_is (.tmp 99) (.tmp 110) rfl (w.heap.size + 3) _ L (by rfl) HO.out (cutS p d1 h1 cap) RA (by rfl) _ (HRA.out _ hHeld.1.c.rdnA) HNCA.out hlen1 hHeld.1.sz ?_
        intro u2 w2 hu2 hg2
        have hb2 := ins_grown HO.out hHeld.1.sz hg2
        refine hK.out _ _ ?_ (fun hHeld2 => ?_)
        · exact HAll.out _ (hHeld.1.far hb2 (hHeld.1.c.lay.below (by have := HW3.out; omega) hb2))
        clear hK K hHeld
        have hHeld := hHeld2; clear hHeld2
        try change wpAnyH _ _ _ _ _ _ _ (Act.put _ (some 111) _) _
        try simp only [Act.put, List.setIfInBounds_toArray, List.set_cons_zero, List.set_cons_succ]
        have HO2 := Lib.hid hu2
        clear hu2 hg2 hb2 HO
        refine wpAnyH_ready (rs := [24]) (by kernel_rfl) (by simp) ?_
        refine AllReadyH.cons rfl (fun K hK => ?_) (AllReadyH.nil)
        refine wp_append_is (.tmp 111) (.tmp 122) rfl (w.heap.size + 3) _ (L ++ RA) (by rfl) HO2.out (cutS q d2 h2 dap) RB (by rfl) _ (HRB.out _ hHeld.1.c.rdnB) HNCB.out hlen2 hHeld.1.sz ?_
        intro u3 w3 hu3 hg3
        have hb2 := ins_grown HO2.out hHeld.1.sz hg3
        refine hK.out _ _ ?_ (fun hHeld2 => ?_)
        · exact HAll.out _ (hHeld.1.far hb2 (hHeld.1.c.lay.below (by have := HW3.out; omega) hb2))
        clear hK K hHeld
        have hHeld := hHeld2; clear hHeld2
        try change wpAnyH _ _ _ _ _ _ _ (Act.put _ (some 123) _) _
        try simp only [Act.put, List.setIfInBounds_toArray, List.set_cons_zero, List.set_cons_succ]
        have HV2 : Hid (K27 w A (.slice p A.z.length cap) B (.slice q B.z.length dap) u3 ((L ++ RA) ++ RB) w3) := ⟨hHeld.1, hu3⟩
        clear hu3 hg3 hb2 HO2 HAll
        rw [HSq.out] at HV2
        refine wpAnyH_take (i := 25) (v := ?_) rfl (by kernel_rfl) (by kernel_rfl) (by kernel_rfl) (fun _ _ _ h => h) (Or.inl ⟨by rfl, ?_⟩) (by assumption) ?_
        rotate_left
        · ((intro w0 hSw); (try dsimp only at hSw); go_simp; (try with_reducible rfl))
        change wpAnyH _ _ _ _ _ _ _ (Act.put _ (some 7) _) _
        try simp only [Act.put, List.setIfInBounds_toArray, List.set_cons_zero, List.set_cons_succ]
        refine wpAnyH_done (by kernel_rfl) ?_ _
        go_wp2_with fail
        go_roundg g2
        case measure => omega
        case rel => exact ⟨i + 1, _, by omega, rfl, by go_num, HV2.out⟩
end Go.Proofs.YthfpmpmhoegicaaDoor
