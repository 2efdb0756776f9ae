/- The reference's At, In and Pick. -/
import Derived.Test.YthfpmpmhoegicaaDoorFiG
import Derived.Deep.DeepCutAuto
namespace Go.Proofs.YthfpmpmhoegicaaDoor
open Go.RowKit

theorem twoE_a {A B : Ar} {kA kB lA mA lB mB : Int} (h : ck A ≠ 0) : twoE A B kA kB lA mA lB mB = ck A := if_neg h
theorem twoE_b {A B : Ar} {kA kB lA mA lB mB : Int} (h : ck A = 0) (h2 : ck B ≠ 0) : twoE A B kA kB lA mA lB mB = ck B := (if_pos h).trans (if_neg h2)
theorem twoE_k {A B : Ar} {kA kB lA mA lB mB : Int} (h : ck A = 0) (h2 : ck B = 0) (h3 : ¬ (A.k = kA ∧ B.k = kB)) : twoE A B kA kB lA mA lB mB = 21 := (if_pos h).trans ((if_pos h2).trans (if_neg h3))
theorem twoE_r {A B : Ar} {kA kB lA mA lB mB : Int} (h : ck A = 0) (h2 : ck B = 0) (h3 : A.k = kA ∧ B.k = kB) (h4 : A.r < lA ∨ mA < A.r ∨ B.r < lB ∨ mB < B.r) : twoE A B kA kB lA mA lB mB = 22 := (if_pos h).trans ((if_pos h2).trans ((if_pos h3).trans (if_pos h4)))
theorem twoE_y {A B : Ar} {kA kB lA mA lB mB : Int} (h : ck A = 0) (h2 : ck B = 0) (h3 : A.k = kA ∧ B.k = kB) (h4 : ¬ (A.r < lA ∨ mA < A.r ∨ B.r < lB ∨ mB < B.r)) : twoE A B kA kB lA mA lB mB = 0 := (if_pos h).trans ((if_pos h2).trans ((if_pos h3).trans (if_neg h4)))
set_option maxRecDepth 100000 in
set_option maxHeartbeats 32000000 in
theorem rat_any8 (A B : Ar) (v u : Value) (w : World) (hw : Ru.Lay w) (hv : RdI w.heap.size w v A.z) (hu : RdI w.heap.size w u B.z) (hl : A.z.length ≤ 100000) (hl' : B.z.length ≤ 100000) :
    Calls Tryd.prog 28 #[A5 A.k A.r A.a A.b v, A5 B.k B.r B.a B.b u] w (RetE (lkV A B) (lkE A B) w) := by
  have HCa := Lib.hid (fun W h => archeck_any A v W h (by omega))
  have HCb := Lib.hid (fun W h => archeck_any B u W h (by omega))
  have HK := Lib.hid (MK2.new (A := A) (B := B) hw hv hu)
  have HW3 := Lib.hid hw.size
  have x0 := HK.out.c.boxA.c0; have x1 := HK.out.c.boxA.c1; have x2 := HK.out.c.boxA.c2; have x3 := HK.out.c.boxA.c3; have x4 := HK.out.c.boxA.c4; have b0 := HK.out.c.boxB.c0; have b1 := HK.out.c.boxB.c1; have b2 := HK.out.c.boxB.c2; have b3 := HK.out.c.boxB.c3; have b4 := HK.out.c.boxB.c4
  obtain ⟨p, cap, rfl, _, _, _⟩ := hv
  obtain ⟨q, cap', rfl, _, _, _⟩ := hu
  clear hw
  by_cases h1 : ck A ≠ 0
  · have hT : lkT A B = ck A := twoE_a h1
    have hE : lkE A B = lkT A B := if_neg (by rw [hT]; exact h1)
    rw [show lkV A B = Ar.no from orNo_no (by rw [hE]; exact (by rw [hT]; exact h1)), hE, hT]
    clear hT hE
    generalize ck A = E at h1 HCa ⊢
    have k1 : (E == 0) = false := by simpa using h1
    have k2 : (E != 0) = true := by simpa using h1
    clear h1
    go_enter Tryd.func28, Tryd.ntmps28
    go_wp2_with (go_at_call 40; (with_reducible refine (HCa.out _ HK.out.c.rdnA).mono ?_); rintro e w1 ⟨rfl, hb⟩; have HK2 := Lib.hid (HK.out.next hb); clear HK x0 x1 x2 x3 x4 b0 b1 b2 b3 b4; have HK := HK2; clear HK2; have x0 := HK.out.c.boxA.c0; have x1 := HK.out.c.boxA.c1; have x2 := HK.out.c.boxA.c2; have x3 := HK.out.c.boxA.c3; have x4 := HK.out.c.boxA.c4; have b0 := HK.out.c.boxB.c0; have b1 := HK.out.c.boxB.c1; have b2 := HK.out.c.boxB.c2; have b3 := HK.out.c.boxB.c3; have b4 := HK.out.c.boxB.c4; clear hb; have y0 := HK.out.res.c0; have y1 := HK.out.res.c1; have y2 := HK.out.res.c2; have y3 := HK.out.res.c3; have y4 := HK.out.res.c4; have f0 := HK.out.res.fr 0; have f1 := HK.out.res.fr 1; have f2 := HK.out.res.fr 2; have f3 := HK.out.res.fr 3; have f4 := HK.out.res.fr 4; have HS := Lib.hid (HK.out.res.set 0 0 0 0 (.slice none 0 0)); have z0 := HS.out.c0; have z1 := HS.out.c1; have z2 := HS.out.c2; have z3 := HS.out.c3; have z4 := HS.out.c4)
    exact bodyPost_ret (v := .tuple #[A5 0 0 0 0 (.slice none 0 0), .int .i64 E]) (by simp [results, Tryd.results28, go_sem, z0, z1, z2, z3, z4]) rfl (retE_no _ (st5_below _ _ _ _ _ (by omega) HK.out.c.bel))
  have h1a : ck A = 0 := by omega
  rw [h1a] at HCa
  by_cases h2 : ck B ≠ 0
  · have hT : lkT A B = ck B := twoE_b h1a h2
    have hE : lkE A B = lkT A B := if_neg (by rw [hT]; exact h2)
    rw [show lkV A B = Ar.no from orNo_no (by rw [hE]; exact (by rw [hT]; exact h2)), hE, hT]
    clear hT hE
    clear h1 h1a
    generalize ck B = E at h2 HCb ⊢
    have k1 : (E == 0) = false := by simpa using h2
    have k2 : (E != 0) = true := by simpa using h2
    clear h2
    go_enter Tryd.func28, Tryd.ntmps28
    go_wp2_with (first
      | (go_at_call 40; (with_reducible refine (HCb.out _ HK.out.c.rdnB).mono ?_); rintro e w2 ⟨rfl, hb⟩; have HK2 := Lib.hid (HK.out.next hb); clear HK x0 x1 x2 x3 x4 b0 b1 b2 b3 b4; have HK := HK2; clear HK2; have x0 := HK.out.c.boxA.c0; have x1 := HK.out.c.boxA.c1; have x2 := HK.out.c.boxA.c2; have x3 := HK.out.c.boxA.c3; have x4 := HK.out.c.boxA.c4; have b0 := HK.out.c.boxB.c0; have b1 := HK.out.c.boxB.c1; have b2 := HK.out.c.boxB.c2; have b3 := HK.out.c.boxB.c3; have b4 := HK.out.c.boxB.c4; clear hb; have y0 := HK.out.res.c0; have y1 := HK.out.res.c1; have y2 := HK.out.res.c2; have y3 := HK.out.res.c3; have y4 := HK.out.res.c4; have f0 := HK.out.res.fr 0; have f1 := HK.out.res.fr 1; have f2 := HK.out.res.fr 2; have f3 := HK.out.res.fr 3; have f4 := HK.out.res.fr 4; have HS := Lib.hid (HK.out.res.set 0 0 0 0 (.slice none 0 0)); have z0 := HS.out.c0; have z1 := HS.out.c1; have z2 := HS.out.c2; have z3 := HS.out.c3; have z4 := HS.out.c4)
      | (go_at_call 40; (with_reducible refine (HCa.out _ HK.out.c.rdnA).mono ?_); rintro e w1 ⟨rfl, hb⟩; have HK2 := Lib.hid (HK.out.next hb); clear HK x0 x1 x2 x3 x4 b0 b1 b2 b3 b4; have HK := HK2; clear HK2; have x0 := HK.out.c.boxA.c0; have x1 := HK.out.c.boxA.c1; have x2 := HK.out.c.boxA.c2; have x3 := HK.out.c.boxA.c3; have x4 := HK.out.c.boxA.c4; have b0 := HK.out.c.boxB.c0; have b1 := HK.out.c.boxB.c1; have b2 := HK.out.c.boxB.c2; have b3 := HK.out.c.boxB.c3; have b4 := HK.out.c.boxB.c4; clear hb)
      | fail)
    exact bodyPost_ret (v := .tuple #[A5 0 0 0 0 (.slice none 0 0), .int .i64 E]) (by simp [results, Tryd.results28, go_sem, z0, z1, z2, z3, z4]) rfl (retE_no _ (st5_below _ _ _ _ _ (by omega) HK.out.c.bel))
  have h2a : ck B = 0 := by omega
  rw [h2a] at HCb
  clear h1 h2
  by_cases h3 : B.k = 1
  rotate_left
  · have hT : lkT A B = 21 := twoE_k h1a h2a (fun h => h3 h.2)
    have hE : lkE A B = lkT A B := if_neg (by rw [hT]; decide)
    rw [show lkV A B = Ar.no from orNo_no (by rw [hE]; exact (by rw [hT]; decide)), hE, hT]
    clear hT hE
    have k3 : (B.k != 1) = true := by simpa using h3
    clear h1a h2a h3
    go_enter Tryd.func28, Tryd.ntmps28
    go_wp2_with (first
      | (go_at_call 40; (with_reducible refine (HCb.out _ HK.out.c.rdnB).mono ?_); rintro e w2 ⟨rfl, hb⟩; have HK2 := Lib.hid (HK.out.next hb); clear HK x0 x1 x2 x3 x4 b0 b1 b2 b3 b4; have HK := HK2; clear HK2; have x0 := HK.out.c.boxA.c0; have x1 := HK.out.c.boxA.c1; have x2 := HK.out.c.boxA.c2; have x3 := HK.out.c.boxA.c3; have x4 := HK.out.c.boxA.c4; have b0 := HK.out.c.boxB.c0; have b1 := HK.out.c.boxB.c1; have b2 := HK.out.c.boxB.c2; have b3 := HK.out.c.boxB.c3; have b4 := HK.out.c.boxB.c4; clear hb; have y0 := HK.out.res.c0; have y1 := HK.out.res.c1; have y2 := HK.out.res.c2; have y3 := HK.out.res.c3; have y4 := HK.out.res.c4; have f0 := HK.out.res.fr 0; have f1 := HK.out.res.fr 1; have f2 := HK.out.res.fr 2; have f3 := HK.out.res.fr 3; have f4 := HK.out.res.fr 4; have HS := Lib.hid (HK.out.res.set 0 0 0 0 (.slice none 0 0)); have z0 := HS.out.c0; have z1 := HS.out.c1; have z2 := HS.out.c2; have z3 := HS.out.c3; have z4 := HS.out.c4)
      | (go_at_call 40; (with_reducible refine (HCa.out _ HK.out.c.rdnA).mono ?_); rintro e w1 ⟨rfl, hb⟩; have HK2 := Lib.hid (HK.out.next hb); clear HK x0 x1 x2 x3 x4 b0 b1 b2 b3 b4; have HK := HK2; clear HK2; have x0 := HK.out.c.boxA.c0; have x1 := HK.out.c.boxA.c1; have x2 := HK.out.c.boxA.c2; have x3 := HK.out.c.boxA.c3; have x4 := HK.out.c.boxA.c4; have b0 := HK.out.c.boxB.c0; have b1 := HK.out.c.boxB.c1; have b2 := HK.out.c.boxB.c2; have b3 := HK.out.c.boxB.c3; have b4 := HK.out.c.boxB.c4; clear hb)
      | fail)
    exact bodyPost_ret (v := .tuple #[A5 0 0 0 0 (.slice none 0 0), .int .i64 21]) (by simp [results, Tryd.results28, go_sem, z0, z1, z2, z3, z4]) rfl (retE_no _ (st5_below _ _ _ _ _ (by omega) HK.out.c.bel))
  have k3 : (B.k != 1) = false := by simpa using h3
  by_cases h4 : A.r = 1
  rotate_left
  · have hT : lkT A B = 22 := twoE_r h1a h2a ⟨rfl, h3⟩ (by omega)
    have hE : lkE A B = lkT A B := if_neg (by rw [hT]; decide)
    rw [show lkV A B = Ar.no from orNo_no (by rw [hE]; exact (by rw [hT]; decide)), hE, hT]
    clear hT hE
    have k4 : (A.r != 1) = true := by simpa using h4
    clear h1a h2a h3 h4
    go_enter Tryd.func28, Tryd.ntmps28
    go_wp2_with (first
      | (go_at_call 40; (with_reducible refine (HCb.out _ HK.out.c.rdnB).mono ?_); rintro e w2 ⟨rfl, hb⟩; have HK2 := Lib.hid (HK.out.next hb); clear HK x0 x1 x2 x3 x4 b0 b1 b2 b3 b4; have HK := HK2; clear HK2; have x0 := HK.out.c.boxA.c0; have x1 := HK.out.c.boxA.c1; have x2 := HK.out.c.boxA.c2; have x3 := HK.out.c.boxA.c3; have x4 := HK.out.c.boxA.c4; have b0 := HK.out.c.boxB.c0; have b1 := HK.out.c.boxB.c1; have b2 := HK.out.c.boxB.c2; have b3 := HK.out.c.boxB.c3; have b4 := HK.out.c.boxB.c4; clear hb; have y0 := HK.out.res.c0; have y1 := HK.out.res.c1; have y2 := HK.out.res.c2; have y3 := HK.out.res.c3; have y4 := HK.out.res.c4; have f0 := HK.out.res.fr 0; have f1 := HK.out.res.fr 1; have f2 := HK.out.res.fr 2; have f3 := HK.out.res.fr 3; have f4 := HK.out.res.fr 4; have HS := Lib.hid (HK.out.res.set 0 0 0 0 (.slice none 0 0)); have z0 := HS.out.c0; have z1 := HS.out.c1; have z2 := HS.out.c2; have z3 := HS.out.c3; have z4 := HS.out.c4)
      | (go_at_call 40; (with_reducible refine (HCa.out _ HK.out.c.rdnA).mono ?_); rintro e w1 ⟨rfl, hb⟩; have HK2 := Lib.hid (HK.out.next hb); clear HK x0 x1 x2 x3 x4 b0 b1 b2 b3 b4; have HK := HK2; clear HK2; have x0 := HK.out.c.boxA.c0; have x1 := HK.out.c.boxA.c1; have x2 := HK.out.c.boxA.c2; have x3 := HK.out.c.boxA.c3; have x4 := HK.out.c.boxA.c4; have b0 := HK.out.c.boxB.c0; have b1 := HK.out.c.boxB.c1; have b2 := HK.out.c.boxB.c2; have b3 := HK.out.c.boxB.c3; have b4 := HK.out.c.boxB.c4; clear hb)
      | fail)
    exact bodyPost_ret (v := .tuple #[A5 0 0 0 0 (.slice none 0 0), .int .i64 22]) (by simp [results, Tryd.results28, go_sem, z0, z1, z2, z3, z4]) rfl (retE_no _ (st5_below _ _ _ _ _ (by omega) HK.out.c.bel))
  have k4 : (A.r != 1) = false := by simpa using h4
  by_cases h5 : B.r = 2
  · have hT : lkT A B = 22 := twoE_r h1a h2a ⟨rfl, h3⟩ (by omega)
    have hE : lkE A B = lkT A B := if_neg (by rw [hT]; decide)
    rw [show lkV A B = Ar.no from orNo_no (by rw [hE]; exact (by rw [hT]; decide)), hE, hT]
    clear hT hE
    have k5 : (B.r == 2) = true := by simpa using h5
    clear h1a h2a h3 h4 h5
    go_enter Tryd.func28, Tryd.ntmps28
    go_wp2_with (first
      | (go_at_call 40; (with_reducible refine (HCb.out _ HK.out.c.rdnB).mono ?_); rintro e w2 ⟨rfl, hb⟩; have HK2 := Lib.hid (HK.out.next hb); clear HK x0 x1 x2 x3 x4 b0 b1 b2 b3 b4; have HK := HK2; clear HK2; have x0 := HK.out.c.boxA.c0; have x1 := HK.out.c.boxA.c1; have x2 := HK.out.c.boxA.c2; have x3 := HK.out.c.boxA.c3; have x4 := HK.out.c.boxA.c4; have b0 := HK.out.c.boxB.c0; have b1 := HK.out.c.boxB.c1; have b2 := HK.out.c.boxB.c2; have b3 := HK.out.c.boxB.c3; have b4 := HK.out.c.boxB.c4; clear hb; have y0 := HK.out.res.c0; have y1 := HK.out.res.c1; have y2 := HK.out.res.c2; have y3 := HK.out.res.c3; have y4 := HK.out.res.c4; have f0 := HK.out.res.fr 0; have f1 := HK.out.res.fr 1; have f2 := HK.out.res.fr 2; have f3 := HK.out.res.fr 3; have f4 := HK.out.res.fr 4; have HS := Lib.hid (HK.out.res.set 0 0 0 0 (.slice none 0 0)); have z0 := HS.out.c0; have z1 := HS.out.c1; have z2 := HS.out.c2; have z3 := HS.out.c3; have z4 := HS.out.c4)
      | (go_at_call 40; (with_reducible refine (HCa.out _ HK.out.c.rdnA).mono ?_); rintro e w1 ⟨rfl, hb⟩; have HK2 := Lib.hid (HK.out.next hb); clear HK x0 x1 x2 x3 x4 b0 b1 b2 b3 b4; have HK := HK2; clear HK2; have x0 := HK.out.c.boxA.c0; have x1 := HK.out.c.boxA.c1; have x2 := HK.out.c.boxA.c2; have x3 := HK.out.c.boxA.c3; have x4 := HK.out.c.boxA.c4; have b0 := HK.out.c.boxB.c0; have b1 := HK.out.c.boxB.c1; have b2 := HK.out.c.boxB.c2; have b3 := HK.out.c.boxB.c3; have b4 := HK.out.c.boxB.c4; clear hb)
      | fail)
    exact bodyPost_ret (v := .tuple #[A5 0 0 0 0 (.slice none 0 0), .int .i64 22]) (by simp [results, Tryd.results28, go_sem, z0, z1, z2, z3, z4]) rfl (retE_no _ (st5_below _ _ _ _ _ (by omega) HK.out.c.bel))
  have k5 : (B.r == 2) = false := by simpa using h5
  have h0 : lkT A B = 0 := twoE_y h1a h2a ⟨rfl, h3⟩ (by have := (ck_good h2a).r3; omega)
  have hl4 := (ck_good h1a).len4
  have hl5 := (ck_good h2a).len4
  have HBad := Lib.hid (fun j hj hx => lk_bad (A := A) (B := B) (j := j) h0 hj hx)
  have HAll0 := Lib.hid (fun h => lk_all (A := A) (B := B) h0 h)
  have HSn := Lib.hid (fun j t hj ht => lk_snoc (A := A) (B := B) (j := j) (t := t) hj ht)
  have HZl : Hid ((lkZ A B).length = B.z.length) := by unfold Hid lkZ; rw [List.length_map]
  clear h0 h1a h2a h3 h4 h5
  generalize lkZ A B = Z at HSn HZl HAll0
  generalize lkV A B = VV at HBad HAll0 ⊢
  generalize lkE A B = EE at HBad HAll0 ⊢
  go_enter Tryd.func28, Tryd.ntmps28
  go_wp2_with (first
    | (go_at_call 40; (with_reducible refine (HCb.out _ HK.out.c.rdnB).mono ?_); rintro e w2 ⟨rfl, hb⟩; have HK2 := Lib.hid (HK.out.next hb); clear HK x0 x1 x2 x3 x4 b0 b1 b2 b3 b4; have HK := HK2; clear HK2; have x0 := HK.out.c.boxA.c0; have x1 := HK.out.c.boxA.c1; have x2 := HK.out.c.boxA.c2; have x3 := HK.out.c.boxA.c3; have x4 := HK.out.c.boxA.c4; have b0 := HK.out.c.boxB.c0; have b1 := HK.out.c.boxB.c1; have b2 := HK.out.c.boxB.c2; have b3 := HK.out.c.boxB.c3; have b4 := HK.out.c.boxB.c4; clear hb)
    | (go_at_call 40; (with_reducible refine (HCa.out _ HK.out.c.rdnA).mono ?_); rintro e w1 ⟨rfl, hb⟩; have HK2 := Lib.hid (HK.out.next hb); clear HK x0 x1 x2 x3 x4 b0 b1 b2 b3 b4; have HK := HK2; clear HK2; have x0 := HK.out.c.boxA.c0; have x1 := HK.out.c.boxA.c1; have x2 := HK.out.c.boxA.c2; have x3 := HK.out.c.boxA.c3; have x4 := HK.out.c.boxA.c4; have b0 := HK.out.c.boxB.c0; have b1 := HK.out.c.boxB.c1; have b2 := HK.out.c.boxB.c2; have b3 := HK.out.c.boxB.c3; have b4 := HK.out.c.boxB.c4; clear hb)
    | fail)
  have HK0 : Hid (KO2 w A (.slice p A.z.length cap) B (.slice q B.z.length cap') w2.heap.size A.k B.r B.a B.b (.slice none 0 0) (Z.take 0) (w2.alloc (.cells #[.int .i64 A.k, .int .i64 B.r, .int .i64 B.a, .int .i64 B.b, .slice none 0 0] 25))) := ⟨HK.out.next (bel1 _ _), R5.new _ _ _ _ _ _, ins_nil _ _, HK.out.sz⟩
  clear HK HCa HCb k3 k4 k5 x0 x1 x2 x3 x4 b0 b1 b2 b3 b4
  go_loopg [8] B.z.length (fun gk q9 wr => ∃ (j : Nat) (U : Value), j + gk = B.z.length ∧ q9 = .int .i64 j ∧ (B.z.take j).all (inS A.z.length) = true ∧ KO2 w A (.slice p A.z.length cap) B (.slice q B.z.length cap') w2.heap.size A.k B.r B.a B.b U (Z.take j) wr)
  case atStart => exact ⟨0, _, by omega, rfl, by simp, HK0.out⟩
  case round =>
    obtain ⟨j, u_, hjg, rfl, hal, hk⟩ := hrel
    have HV := Lib.hid hk
    have HAl := Lib.hid hal
    clear hk HK0 hal
    cases gk with
    | zero =>
      have hjz : ¬ ((j : Int) < (B.z.length : Int)) := by omega
      obtain ⟨he, hve⟩ := HAll0.out (by have h := HAl.out; rwa [List.take_of_length_le (by omega)] at h)
      have HVe := Lib.hid hve
      have HEe := Lib.hid he
      have HO : Hid (Ru.Ins 2 wr (w2.heap.size + 1) u_ Z) := by
        have h := HV.out.own
        rwa [List.take_of_length_le (by rw [HZl.out]; omega)] at h
      obtain ⟨qa, qc, hq2, _, _⟩ := (ins_new HO.out).form
      subst hq2
      have b4 := HV.out.m.c.boxB.c4
      have hgw := HV.out.gw
      have o0 := HV.out.box.c0; have o1 := HV.out.box.c1; have o2 := HV.out.box.c2; have o3 := HV.out.box.c3; have o4 := HV.out.box.c4
      have HK := Lib.hid HV.out.m
      clear HV HAl HAll0 HBad HSn he hve
      have y0 := HK.out.res.c0; have y1 := HK.out.res.c1; have y2 := HK.out.res.c2; have y3 := HK.out.res.c3; have y4 := HK.out.res.c4; have f0 := HK.out.res.fr 0; have f1 := HK.out.res.fr 1; have f2 := HK.out.res.fr 2; have f3 := HK.out.res.fr 3; have f4 := HK.out.res.fr 4; have HS := Lib.hid (HK.out.res.set A.k B.r B.a B.b (.slice qa Z.length qc)); have z0 := HS.out.c0; have z1 := HS.out.c1; have z2 := HS.out.c2; have z3 := HS.out.c3; have z4 := HS.out.c4
      go_wp2_with fail
      refine bodyPost_ret (v := .tuple #[A5 A.k B.r B.a B.b (.slice qa Z.length qc), .int .i64 0]) (by simp [results, Tryd.results28, go_sem, z0, z1, z2, z3, z4]) rfl ?_
      rw [HVe.out, HEe.out]
      exact ⟨_, rfl, ((ins_new HO.out).st5 (by omega) _ _ _ _ _).mono (by omega), st5_below _ _ _ _ _ (by omega) HK.out.c.bel⟩
    | succ g2 =>
      have hjz : (j : Int) < (B.z.length : Int) := by omega
      have hj : j < B.z.length := by omega
      have hwi : IntKind.i64.wrap ((j : Int) + 1) = (j : Int) + 1 := by rw [IntKind.wrap_i64]; omega
      obtain ⟨bB, oB, hpB, hbB, hcB⟩ := HV.out.m.c.rdB.cells (by intro e; rw [e] at hj; simp at hj)
      subst hpB
      have hyc := hcB j hj
      have hgx : B.z.getD j 0 = B.z[j] := by rw [List.getD_eq_getElem?_getD, List.getElem?_eq_getElem hj]; rfl
      have HGx := Lib.hid hgx
      clear hcB hgx
      generalize B.z[j] = x at hyc HGx
      have x4 := HV.out.m.c.boxA.c4
      have b4 := HV.out.m.c.boxB.c4
      by_cases hx : inS A.z.length x = true
      · unfold inS at hx
        rw [Bool.and_eq_true, decide_eq_true_iff, decide_eq_true_iff] at hx
        obtain ⟨t, ht⟩ : ∃ t : Nat, x = (t : Int) := ⟨x.toNat, by omega⟩
        subst ht
        have htl : t < A.z.length := by omega
        obtain ⟨bA, oA, hpA, hbA, hcA⟩ := HV.out.m.c.rdA.cells (by intro e; rw [e] at htl; simp at htl)
        subst hpA
        have hxc := hcA t htl
        have hgz : A.z.getD t 0 = A.z[t] := by rw [List.getD_eq_getElem?_getD, List.getElem?_eq_getElem htl]; rfl
        have HSq := Lib.hid (HSn.out j t hj HGx.out)
        have HAn : Hid ((B.z.take (j + 1)).all (inS A.z.length) = true) := all_snocI hj HAl.out (by rw [HGx.out]; unfold inS; rw [Bool.and_eq_true, decide_eq_true_iff, decide_eq_true_iff]; omega)
        rw [hgz] at HSq
        clear hcA hgz HBad HAl HSn HAll0
        generalize A.z[t] = c at hxc HSq
        have k1 : decide ((t : Int) < 0) = false := decide_eq_false (by omega)
        have k2 : decide ((A.z.length : Int) ≤ (t : Int)) = false := decide_eq_false (by omega)
        have k3 : (t : Int) < (A.z.length : Int) := by omega
        have hlen : (Z.take j).length + 1 ≤ 1000000 := by rw [List.length_take]; omega
        clear hx
        go_wp2_with fail
        go_quiet (fail)
        generalize hW1 : World.drewN _ nq = W1
        have hd1 : Below wr.heap.size wr W1 := by rw [← hW1]; exact drewN_below _ _
        have HV1 := Lib.hid (HV.out.next hd1)
        have hlA : bA < wr.heap.size := Nat.lt_of_lt_of_le hbA HV.out.m.c.bel.size
        have hlB : bB < wr.heap.size := Nat.lt_of_lt_of_le hbB HV.out.m.c.bel.size
        have hxc1 : W1.cell? ⟨bA, oA + t, none⟩ = some (.int .i64 c) := (hd1.cell (p := ⟨bA, oA + t, none⟩) hlA).trans hxc
        have hyc1 : W1.cell? ⟨bB, oB + j, none⟩ = some (.int .i64 (t : Int)) := (hd1.cell (p := ⟨bB, oB + j, none⟩) hlB).trans hyc
        clear hW1 hd1 HV hxc hyc x4 b4
        have hxc := hxc1
        have hyc := hyc1
        clear hxc1 hyc1
        have x4 := HV1.out.m.c.boxA.c4
        have b4 := HV1.out.m.c.boxB.c4
        go_wp2_with fail
        have HAll : Hid (∀ W, Below (w.heap.size + 3) W1 W → (fun W => W.cell? ⟨w.heap.size, 4, none⟩ = some (.slice (some ⟨bA, oA, none⟩) A.z.length cap) ∧ W.cell? ⟨w.heap.size + 1, 4, none⟩ = some (.slice (some ⟨bB, oB, none⟩) B.z.length cap') ∧ W.cell? ⟨bA, oA + t, none⟩ = some (.int .i64 c) ∧ W.cell? ⟨bB, oB + j, none⟩ = some (.int .i64 (t : Int))) W) := fun W h => ⟨(h.cell (p := ⟨w.heap.size, 4, none⟩) (by show w.heap.size < w.heap.size + 3; omega)).trans x4, (h.cell (p := ⟨w.heap.size + 1, 4, none⟩) (by show w.heap.size + 1 < w.heap.size + 3; omega)).trans b4, (h.cell (p := ⟨bA, oA + t, none⟩) (by show bA < w.heap.size + 3; omega)).trans hxc, (h.cell (p := ⟨bB, oB + j, none⟩) (by show bB < w.heap.size + 3; omega)).trans hyc⟩
        refine wp_region_held_drew (S := (fun W => W.cell? ⟨w.heap.size, 4, none⟩ = some (.slice (some ⟨bA, oA, none⟩) A.z.length cap) ∧ W.cell? ⟨w.heap.size + 1, 4, none⟩ = some (.slice (some ⟨bB, oB, none⟩) B.z.length cap') ∧ W.cell? ⟨bA, oA + t, none⟩ = some (.int .i64 c) ∧ W.cell? ⟨bB, oB + j, none⟩ = some (.int .i64 (t : Int)))) (by kernel_rfl) ?_ (fun hHeld => ?_)
        · exact HAll.out _ (Below.refl _ _).drew
        have HVd := Lib.hid (HV1.out.next (Below.refl _ _).drew)
        have HBd : Hid (Below (w.heap.size + 3) W1 (World.drew W1)) := (Below.refl _ _).drew
        generalize World.drew W1 = wd at hHeld HVd HBd ⊢
        clear HV1 x4 b4 hxc hyc
        have hGw := HVd.out.gw
        have hGs := HVd.out.sz
        refine wpAnyH_take (i := 0) (v := ?_) rfl (by kernel_rfl) (by kernel_rfl) (by kernel_rfl) (fun _ _ _ h => h) (Or.inl ⟨by rfl, ?_⟩) (by assumption) ?_
        rotate_left
        · ((intro w0 hSw); (try dsimp only at hSw); go_simp; (try with_reducible rfl))
        change wpAnyH _ _ _ _ _ _ _ (Act.put _ (some 70) _) _
        try simp only [Act.put, List.setIfInBounds_toArray, List.set_cons_zero, List.set_cons_succ]
        refine wpAnyH_take (i := 2) (v := ?_) rfl (by kernel_rfl) (by kernel_rfl) (by kernel_rfl) (fun _ _ _ h => h) (Or.inl ⟨by rfl, ?_⟩) (by assumption) ?_
        rotate_left
        · ((intro w0 hSw); (try dsimp only at hSw); go_simp; (try with_reducible rfl))
        change wpAnyH _ _ _ _ _ _ _ (Act.put _ (some 72) _) _
        try simp only [Act.put, List.setIfInBounds_toArray, List.set_cons_zero, List.set_cons_succ]
        refine wpAnyH_take (i := 3) (v := ?_) rfl (by kernel_rfl) (by kernel_rfl) (by kernel_rfl) (fun _ _ _ h => h) (Or.inl ⟨by rfl, ?_⟩) (by assumption) ?_
        rotate_left
        · ((intro w0 hSw); (try dsimp only at hSw); go_simp; (try with_reducible rfl))
        change wpAnyH _ _ _ _ _ _ _ (Act.put _ (some 73) _) _
        try simp only [Act.put, List.setIfInBounds_toArray, List.set_cons_zero, List.set_cons_succ]
        refine wpAnyH_take (i := 4) (v := ?_) rfl (by kernel_rfl) (by kernel_rfl) (by kernel_rfl) (fun _ _ _ h => h) (Or.inl ⟨by rfl, ?_⟩) (by assumption) ?_
        rotate_left
        · ((intro w0 hSw); (try dsimp only at hSw); go_simp; (try with_reducible rfl))
        change wpAnyH _ _ _ _ _ _ _ (Act.put _ (some 74) _) _
        try simp only [Act.put, List.setIfInBounds_toArray, List.set_cons_zero, List.set_cons_succ]
        refine wpAnyH_take (i := 5) (v := ?_) rfl (by kernel_rfl) (by kernel_rfl) (by kernel_rfl) (fun _ _ _ h => h) (Or.inl ⟨by rfl, ?_⟩) (by assumption) ?_
        rotate_left
        · ((intro w0 hSw); (try dsimp only at hSw); go_simp; (try with_reducible rfl))
        change wpAnyH _ _ _ _ _ _ _ (Act.put _ (some 75) _) _
        try simp only [Act.put, List.setIfInBounds_toArray, List.set_cons_zero, List.set_cons_succ]
        refine wpAnyH_take (i := 6) (v := ?_) rfl (by kernel_rfl) (by kernel_rfl) (by kernel_rfl) (fun _ _ _ h => h) (Or.inl ⟨by rfl, ?_⟩) (by assumption) ?_
        rotate_left
        · ((intro w0 hSw); (try dsimp only at hSw); go_simp; (try with_reducible rfl))
        change wpAnyH _ _ _ _ _ _ _ (Act.put _ (some 76) _) _
        try simp only [Act.put, List.setIfInBounds_toArray, List.set_cons_zero, List.set_cons_succ]
        refine wpAnyH_take (i := 7) (v := ?_) rfl (by kernel_rfl) (by kernel_rfl) (by kernel_rfl) (fun _ _ _ h => h) (Or.inl ⟨by rfl, ?_⟩) (by assumption) ?_
        rotate_left
        · ((intro w0 hSw); (try dsimp only at hSw); go_simp; (try with_reducible rfl))
        change wpAnyH _ _ _ _ _ _ _ (Act.put _ (some 77) _) _
        try simp only [Act.put, List.setIfInBounds_toArray, List.set_cons_zero, List.set_cons_succ]
        refine wpAnyH_take (i := 8) (v := ?_) rfl (by kernel_rfl) (by kernel_rfl) (by kernel_rfl) (fun _ _ _ h => h) (Or.inl ⟨by rfl, ?_⟩) (by assumption) ?_
        rotate_left
        · ((intro w0 hSw); (try dsimp only at hSw); go_simp; (try with_reducible rfl))
        change wpAnyH _ _ _ _ _ _ _ (Act.put _ (some 78) _) _
        try simp only [Act.put, List.setIfInBounds_toArray, List.set_cons_zero, List.set_cons_succ]
        refine wpAnyH_take (i := 9) (v := ?_) rfl (by kernel_rfl) (by kernel_rfl) (by kernel_rfl) (fun _ _ _ h => h) (Or.inl ⟨by rfl, ?_⟩) (by assumption) ?_
        rotate_left
        · ((intro w0 hSw); (try dsimp only at hSw); go_simp; (try with_reducible rfl))
        change wpAnyH _ _ _ _ _ _ _ (Act.put _ (some 79) _) _
        try simp only [Act.put, List.setIfInBounds_toArray, List.set_cons_zero, List.set_cons_succ]
        refine wpAnyH_take (i := 10) (v := ?_) rfl (by kernel_rfl) (by kernel_rfl) (by kernel_rfl) (fun _ _ _ h => h) (Or.inl ⟨by rfl, ?_⟩) (by assumption) ?_
        rotate_left
        · ((intro w0 hSw); (try dsimp only at hSw); go_simp; (try with_reducible rfl))
        change wpAnyH _ _ _ _ _ _ _ (Act.put _ (some 80) _) _
        try simp only [Act.put, List.setIfInBounds_toArray, List.set_cons_zero, List.set_cons_succ]
        refine wpAnyH_ready (rs := [1, 11]) (by kernel_rfl) (by simp) ?_
        refine AllReadyH.cons rfl (fun K hK => ?_) (AllReadyH.cons rfl (fun K hK => ?_) (AllReadyH.nil))
        · have o4 := HVd.out.box.c4
          go_simp
          clear o4
          refine hK.out _ _ ?_ (fun hHeld2 => ?_)
          · exact HAll.out _ HBd.out
          clear hK K hHeld
          have hHeld := hHeld2; clear hHeld2
          try change wpAnyH _ _ _ _ _ _ _ (Act.put _ (some 71) _) _
          try simp only [Act.put, List.setIfInBounds_toArray, List.set_cons_zero, List.set_cons_succ]
          refine wpAnyH_ready (rs := [11]) (by kernel_rfl) (by simp) ?_
          refine AllReadyH.cons rfl (fun K hK => ?_) (AllReadyH.nil)
          go_simp
          refine hK.out _ _ ?_ (fun hHeld2 => ?_)
          · exact HAll.out _ (HBd.out.trans ((bel1 wd _).mono (by omega)))
          clear hK K hHeld
          have hHeld := hHeld2; clear hHeld2
          try change wpAnyH _ _ _ _ _ _ _ (Act.put _ (some 81) _) _
          try simp only [Act.put, List.setIfInBounds_toArray, List.set_cons_zero, List.set_cons_succ]
          have HVa : Hid (KO2 w A (.slice (some ⟨bA, oA, none⟩) A.z.length cap) B (.slice (some ⟨bB, oB, none⟩) B.z.length cap') w2.heap.size A.k B.r B.a B.b u_ (Z.take j) (World.alloc wd (.cells #[.int .i64 c] 2))) := HVd.out.next (bel1 wd _)
          have HBa : Hid (Below (w.heap.size + 3) W1 (World.alloc wd (.cells #[.int .i64 c] 2))) := HBd.out.trans ((bel1 wd _).mono (by omega))
          have HBl : Hid ((World.alloc wd (.cells #[.int .i64 c] 2)).heap[wd.heap.size]? = some (.cells #[.int .i64 c] 2)) := heap_alloc_last wd _
          have hgA : w2.heap.size + 1 ≤ (World.alloc wd (.cells #[.int .i64 c] 2)).heap.size := HVa.out.sz
          refine wpAnyH_ready (rs := [12]) (by kernel_rfl) (by simp) ?_
          refine AllReadyH.cons rfl (fun K hK => ?_) (AllReadyH.nil)
          refine wp_append_is (.tmp 71) (.tmp 81) rfl (w2.heap.size + 1) u_ (Z.take j) rfl HVa.out.own _ [c] rfl _ (blk_rd (l := [c]) rfl (by simp) (heap_alloc_last wd _)) (nil_some _ _ _) (by simp; omega) hgA ?_
          intro v' w' hi' hg'
          have hbp : Below (w2.heap.size + 1) (World.alloc wd (.cells #[.int .i64 c] 2)) w' := ins_grown HVa.out.own hgA hg'
          obtain ⟨qa, qc, hq2, _, _⟩ := (ins_new hi').form
          rw [List.length_append, List.length_singleton, List.length_take, Nat.min_eq_left (by rw [HZl.out]; omega)] at hq2
          subst hq2
          have HIp := Lib.hid hi'
          have HBp := Lib.hid hbp
          clear hi' hg'
          refine hK.out _ _ ?_ (fun hHeld2 => ?_)
          · exact HAll.out _ (HBa.out.trans (hbp.mono (by omega)))
          clear hK K hHeld
          have hHeld := hHeld2; clear hHeld2
          try change wpAnyH _ _ _ _ _ _ _ (Act.put _ (some 82) _) _
          try simp only [Act.put, List.setIfInBounds_toArray, List.set_cons_zero, List.set_cons_succ]
          refine wpAnyH_take (i := 13) (v := ?_) rfl (by kernel_rfl) (by kernel_rfl) (by kernel_rfl) (fun _ _ _ h => h) (Or.inl ⟨by rfl, ?_⟩) (by assumption) ?_
          rotate_left
          · ((intro w0 hSw); (try dsimp only at hSw); go_simp; (try with_reducible rfl))
          change wpAnyH _ _ _ _ _ _ _ (Act.put _ (some 83) _) _
          try simp only [Act.put, List.setIfInBounds_toArray, List.set_cons_zero, List.set_cons_succ]
          refine wpAnyH_ready (rs := [14]) (by kernel_rfl) (by simp) ?_
          refine AllReadyH.cons rfl (fun K hK => ?_) (AllReadyH.nil)
          have HOb := Lib.hid (HVa.out.box.below (Nat.lt_succ_self _) HBp.out)
          have p4 := HOb.out.c4
          have pf := HOb.out.fr 4
          go_simp
          clear p4 pf
          refine hK.out _ _ ?_ (fun hHeld2 => ?_)
          · exact HAll.out _ ((HBa.out.trans (HBp.out.mono (by omega))).setCell (p := ⟨w2.heap.size, 4, none⟩) hGw _)
          clear hK K hHeld
          have hHeld := hHeld2; clear hHeld2
          try simp only [Act.put, List.setIfInBounds_toArray, List.set_cons_zero, List.set_cons_succ]
          refine wpAnyH_done (by kernel_rfl) ?_ _
          have HVn := Lib.hid (HVa.out.put HW3.out HIp.out HBp.out)
          rw [HSq.out] at HVn
          clear HVa HVd HIp HBp
          go_wp2_with fail
          go_roundg g2
          case measure => omega
          case rel => exact ⟨j + 1, _, by omega, by go_num, HAn.out, HVn.out⟩
        · go_simp
          refine hK.out _ _ ?_ (fun hHeld2 => ?_)
          · exact HAll.out _ (HBd.out.trans ((bel1 wd _).mono (by omega)))
          clear hK K hHeld
          have hHeld := hHeld2; clear hHeld2
          try change wpAnyH _ _ _ _ _ _ _ (Act.put _ (some 81) _) _
          try simp only [Act.put, List.setIfInBounds_toArray, List.set_cons_zero, List.set_cons_succ]
          have HVa : Hid (KO2 w A (.slice (some ⟨bA, oA, none⟩) A.z.length cap) B (.slice (some ⟨bB, oB, none⟩) B.z.length cap') w2.heap.size A.k B.r B.a B.b u_ (Z.take j) (World.alloc wd (.cells #[.int .i64 c] 2))) := HVd.out.next (bel1 wd _)
          have HBa : Hid (Below (w.heap.size + 3) W1 (World.alloc wd (.cells #[.int .i64 c] 2))) := HBd.out.trans ((bel1 wd _).mono (by omega))
          have HBl : Hid ((World.alloc wd (.cells #[.int .i64 c] 2)).heap[wd.heap.size]? = some (.cells #[.int .i64 c] 2)) := heap_alloc_last wd _
          have hgA : w2.heap.size + 1 ≤ (World.alloc wd (.cells #[.int .i64 c] 2)).heap.size := HVa.out.sz
          refine wpAnyH_ready (rs := [1]) (by kernel_rfl) (by simp) ?_
          refine AllReadyH.cons rfl (fun K hK => ?_) (AllReadyH.nil)
          have o4 := HVa.out.box.c4
          go_simp
          clear o4
          refine hK.out _ _ ?_ (fun hHeld2 => ?_)
          · exact HAll.out _ HBa.out
          clear hK K hHeld
          have hHeld := hHeld2; clear hHeld2
          try change wpAnyH _ _ _ _ _ _ _ (Act.put _ (some 71) _) _
          try simp only [Act.put, List.setIfInBounds_toArray, List.set_cons_zero, List.set_cons_succ]
          refine wpAnyH_ready (rs := [12]) (by kernel_rfl) (by simp) ?_
          refine AllReadyH.cons rfl (fun K hK => ?_) (AllReadyH.nil)
          refine wp_append_is (.tmp 71) (.tmp 81) rfl (w2.heap.size + 1) u_ (Z.take j) rfl HVa.out.own _ [c] rfl _ (blk_rd (l := [c]) rfl (by simp) (heap_alloc_last wd _)) (nil_some _ _ _) (by simp; omega) hgA ?_
          intro v' w' hi' hg'
          have hbp : Below (w2.heap.size + 1) (World.alloc wd (.cells #[.int .i64 c] 2)) w' := ins_grown HVa.out.own hgA hg'
          obtain ⟨qa, qc, hq2, _, _⟩ := (ins_new hi').form
          rw [List.length_append, List.length_singleton, List.length_take, Nat.min_eq_left (by rw [HZl.out]; omega)] at hq2
          subst hq2
          have HIp := Lib.hid hi'
          have HBp := Lib.hid hbp
          clear hi' hg'
          refine hK.out _ _ ?_ (fun hHeld2 => ?_)
          · exact HAll.out _ (HBa.out.trans (hbp.mono (by omega)))
          clear hK K hHeld
          have hHeld := hHeld2; clear hHeld2
          try change wpAnyH _ _ _ _ _ _ _ (Act.put _ (some 82) _) _
          try simp only [Act.put, List.setIfInBounds_toArray, List.set_cons_zero, List.set_cons_succ]
          refine wpAnyH_take (i := 13) (v := ?_) rfl (by kernel_rfl) (by kernel_rfl) (by kernel_rfl) (fun _ _ _ h => h) (Or.inl ⟨by rfl, ?_⟩) (by assumption) ?_
          rotate_left
          · ((intro w0 hSw); (try dsimp only at hSw); go_simp; (try with_reducible rfl))
          change wpAnyH _ _ _ _ _ _ _ (Act.put _ (some 83) _) _
          try simp only [Act.put, List.setIfInBounds_toArray, List.set_cons_zero, List.set_cons_succ]
          refine wpAnyH_ready (rs := [14]) (by kernel_rfl) (by simp) ?_
          refine AllReadyH.cons rfl (fun K hK => ?_) (AllReadyH.nil)
          have HOb := Lib.hid (HVa.out.box.below (Nat.lt_succ_self _) HBp.out)
          have p4 := HOb.out.c4
          have pf := HOb.out.fr 4
          go_simp
          clear p4 pf
          refine hK.out _ _ ?_ (fun hHeld2 => ?_)
          · exact HAll.out _ ((HBa.out.trans (HBp.out.mono (by omega))).setCell (p := ⟨w2.heap.size, 4, none⟩) hGw _)
          clear hK K hHeld
          have hHeld := hHeld2; clear hHeld2
          try simp only [Act.put, List.setIfInBounds_toArray, List.set_cons_zero, List.set_cons_succ]
          refine wpAnyH_done (by kernel_rfl) ?_ _
          have HVn := Lib.hid (HVa.out.put HW3.out HIp.out HBp.out)
          rw [HSq.out] at HVn
          clear HVa HVd HIp HBp
          go_wp2_with fail
          go_roundg g2
          case measure => omega
          case rel => exact ⟨j + 1, _, by omega, by go_num, HAn.out, HVn.out⟩
      · obtain ⟨he, hve⟩ := HBad.out j hj (by rw [HGx.out]; simpa using hx)
        have HVe := Lib.hid hve
        have HEe := Lib.hid he
        clear HAll0 HBad HSn he hve
        unfold inS at hx
        rw [Bool.and_eq_true, decide_eq_true_iff, decide_eq_true_iff] at hx
        by_cases hx0 : x < 0
        · have k1 : decide (x < 0) = true := decide_eq_true hx0
          clear hx
          go_wp2_with fail
          go_quiet (fail)
          generalize hW1 : World.drewN _ nq = W1
          have hd1 : Below wr.heap.size wr W1 := by rw [← hW1]; exact drewN_below _ _
          have HK := Lib.hid (HV.out.next hd1).m
          clear hW1 hd1 HV hyc x4 b4
          have y0 := HK.out.res.c0; have y1 := HK.out.res.c1; have y2 := HK.out.res.c2; have y3 := HK.out.res.c3; have y4 := HK.out.res.c4; have f0 := HK.out.res.fr 0; have f1 := HK.out.res.fr 1; have f2 := HK.out.res.fr 2; have f3 := HK.out.res.fr 3; have f4 := HK.out.res.fr 4; have HS := Lib.hid (HK.out.res.set 0 0 0 0 (.slice none 0 0)); have z0 := HS.out.c0; have z1 := HS.out.c1; have z2 := HS.out.c2; have z3 := HS.out.c3; have z4 := HS.out.c4
          go_wp2_with fail
          refine bodyPost_ret (v := .tuple #[A5 0 0 0 0 (.slice none 0 0), .int .i64 14]) (by simp [results, Tryd.results28, go_sem, z0, z1, z2, z3, z4]) rfl ?_
          rw [HVe.out, HEe.out]
          exact retE_no _ (st5_below _ _ _ _ _ (by omega) HK.out.c.bel)
        · have k1 : decide (x < 0) = false := decide_eq_false hx0
          have k2 : decide ((A.z.length : Int) ≤ x) = true := decide_eq_true (by omega)
          clear hx hx0
          go_wp2_with fail
          go_quiet (fail)
          generalize hW1 : World.drewN _ nq = W1
          have hd1 : Below wr.heap.size wr W1 := by rw [← hW1]; exact drewN_below _ _
          have HK := Lib.hid (HV.out.next hd1).m
          clear hW1 hd1 HV hyc x4 b4
          have y0 := HK.out.res.c0; have y1 := HK.out.res.c1; have y2 := HK.out.res.c2; have y3 := HK.out.res.c3; have y4 := HK.out.res.c4; have f0 := HK.out.res.fr 0; have f1 := HK.out.res.fr 1; have f2 := HK.out.res.fr 2; have f3 := HK.out.res.fr 3; have f4 := HK.out.res.fr 4; have HS := Lib.hid (HK.out.res.set 0 0 0 0 (.slice none 0 0)); have z0 := HS.out.c0; have z1 := HS.out.c1; have z2 := HS.out.c2; have z3 := HS.out.c3; have z4 := HS.out.c4
          go_wp2_with fail
          refine bodyPost_ret (v := .tuple #[A5 0 0 0 0 (.slice none 0 0), .int .i64 14]) (by simp [results, Tryd.results28, go_sem, z0, z1, z2, z3, z4]) rfl ?_
          rw [HVe.out, HEe.out]
          exact retE_no _ (st5_below _ _ _ _ _ (by omega) HK.out.c.bel)
end Go.Proofs.YthfpmpmhoegicaaDoor
