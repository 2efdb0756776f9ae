/- Lens of the reference. -/
import Derived.Test.YtmmnoldhiobgdaaDoorExG
namespace Go.Proofs.YtmmnoldhiobgdaaDoor
open Go.RowKit

theorem bo_err {A B : Ar} (h1 : A.r ≠ B.r) (h2 : A.r ≠ 0) (h3 : B.r ≠ 0) : boE A B = 22 := by unfold boE; rw [if_neg h3, if_neg h2, if_pos h1]
theorem bo_len {A B : Ar} (h1 : A.r = B.r) (h2 : A.r ≠ 0) (h : ¬ (A.a = B.a ∧ A.b = B.b)) : boE A B = 11 := by unfold boE; rw [if_neg (by omega), if_neg h2, if_neg (not_not_intro h1), if_pos (by omega)]
theorem bo_sl {A B : Ar} (h : A.r = 0) : boE A B = 0 := by unfold boE; split <;> first | rfl | rw [if_pos h]
theorem bo_sr {A B : Ar} (h : B.r = 0) : boE A B = 0 := by unfold boE; rw [if_pos h]
theorem bo_eq {A B : Ar} (h1 : A.r = B.r) (h2 : A.r ≠ 0) (h : A.a = B.a ∧ A.b = B.b) : boE A B = 0 := by unfold boE; rw [if_neg (by omega), if_neg h2, if_neg (not_not_intro h1), if_neg (by omega)]
theorem bv_l {A B : Ar} (h : A.r ≠ 0) : boV A B = A := by unfold boV; split <;> first | rfl | rw [if_neg h]
theorem bv_s {A B : Ar} (hA : Good A) (hB : Good B) (h : A.r = 0) : (boV A B).r = B.r ∧ (boV A B).a = B.a ∧ (boV A B).b = B.b := by
  unfold boV
  by_cases h2 : B.r = 0
  · rw [if_pos h2]
    have := hA.r0 h
    have := hB.r0 h2
    omega
  · rw [if_neg h2, if_pos h]; exact ⟨rfl, rfl, rfl⟩
theorem ln_of {A B : Ar} {E : Int} (hA : ck A = 0) (hB : ck B = 0) (h : boE A B = E) : lnF A B = E ∧ (E ≠ 0 → lnR A B = 0 ∧ lnA A B = 0 ∧ lnB A B = 0) ∧ (E = 0 → lnR A B = (boV A B).r ∧ lnA A B = (boV A B).a ∧ lnB A B = (boV A B).b) := by
  have hF : lnF A B = E := by unfold lnF; rw [if_neg (not_not_intro hA), if_neg (not_not_intro hB)]; exact h
  refine ⟨hF, fun he => ln_bad (by rw [hF]; exact he), fun he => ?_⟩
  unfold lnR lnA lnB
  rw [hF, if_pos he, if_pos he, if_pos he]
  exact ⟨rfl, rfl, rfl⟩
set_option maxRecDepth 100000 in
set_option maxHeartbeats 16000000 in
theorem rlens10_any (A B : Ar) (v u : Value) (w : World) (hw : Ru.Lay w) (hv : RdI w.heap.size w v A.z) (hu : RdI w.heap.size w u B.z) (hl : A.z.length ≤ 1000000) (hl' : B.z.length ≤ 1000000) :
    Calls Tryd.prog 19 #[A5 A.k A.r A.a A.b v, A5 B.k B.r B.a B.b u] w fun e w' => e = .returned (.tuple #[.int .i64 (lnR A B), P2 (lnA A B) (lnB A B), .int .i64 (lnF A B)]) ∧ Below w.heap.size w w' := by
  have HK := Lib.hid (KLn.new (A := A) (B := B) hw hv hu)
  have HCa := Lib.hid (fun W h => archeck_any A v W h hl)
  have HCb := Lib.hid (fun W h => archeck_any B u W h hl')
  have HQ := fun W => eq2 A.a A.b B.a B.b W
  obtain ⟨q, cap, rfl, hv1, hv2, hv3⟩ := hv
  obtain ⟨q', cap', rfl, hu1, hu2, hu3⟩ := hu
  clear hv3 hu3 hv2 hu2 hv1 hu1 hw hl hl'
  have x0 := HK.out.ba.c0; have x1 := HK.out.ba.c1; have x2 := HK.out.ba.c2; have x3 := HK.out.ba.c3; have x4 := HK.out.ba.c4; have t0' := HK.out.bb.c0; have t1' := HK.out.bb.c1; have t2' := HK.out.bb.c2; have t3' := HK.out.bb.c3; have t4' := HK.out.bb.c4
  by_cases h1 : ck A ≠ 0
  · have hF : lnF A B = ck A := by unfold lnF; rw [if_pos h1]
    obtain ⟨e1, e2, e3⟩ := ln_bad (A := A) (B := B) (by rw [hF]; exact h1)
    rw [hF, e1, e2, e3]
    generalize ck A = E at HCa h1 ⊢
    have k1 : (E == 0) = false := by simpa using h1
    have k2 : (E != 0) = true := by simpa using h1
    clear h1 hF e1 e2 e3
    have y0 := HK.out.res.c0; have y1 := HK.out.res.c1; have f0 := HK.out.res.fr 0; have f1 := HK.out.res.fr 1
    go_enter Tryd.func19, Tryd.ntmps19
    go_wp2_with (first
      | (go_at_call 21; (with_reducible refine (HCb.out _ HK.out.rb).mono ?_); rintro e wz ⟨rfl, hb⟩; have HK2 := Lib.hid (HK.out.next hb); clear HK x0 x1 x2 x3 x4 t0' t1' t2' t3' t4'; have HK := HK2; clear HK2; clear hb; clear y0 y1 f0 f1; have y0 := HK.out.res.c0; have y1 := HK.out.res.c1; have f0 := HK.out.res.fr 0; have f1 := HK.out.res.fr 1; have x0 := HK.out.ba.c0; have x1 := HK.out.ba.c1; have x2 := HK.out.ba.c2; have x3 := HK.out.ba.c3; have x4 := HK.out.ba.c4; have t0' := HK.out.bb.c0; have t1' := HK.out.bb.c1; have t2' := HK.out.bb.c2; have t3' := HK.out.bb.c3; have t4' := HK.out.bb.c4)
      | (go_at_call 21; (with_reducible refine (HCa.out _ HK.out.ra).mono ?_); rintro e wz ⟨rfl, hb⟩; have HK2 := Lib.hid (HK.out.next hb); clear HK x0 x1 x2 x3 x4 t0' t1' t2' t3' t4'; have HK := HK2; clear HK2; clear hb; clear y0 y1 f0 f1; have y0 := HK.out.res.c0; have y1 := HK.out.res.c1; have f0 := HK.out.res.fr 0; have f1 := HK.out.res.fr 1; have x0 := HK.out.ba.c0; have x1 := HK.out.ba.c1; have x2 := HK.out.ba.c2; have x3 := HK.out.ba.c3; have x4 := HK.out.ba.c4; have t0' := HK.out.bb.c0; have t1' := HK.out.bb.c1; have t2' := HK.out.bb.c2; have t3' := HK.out.bb.c3; have t4' := HK.out.bb.c4)
      | fail)
    have HS := Lib.hid ((HK.out.res.put0 0).put1 0); have z0 := HS.out.c0; have z1 := HS.out.c1
    refine bodyPost_ret (v := .tuple #[.int .i64 0, P2 0 0, .int .i64 E]) (by simp [results, Tryd.results19, go_sem, z0, z1]) rfl ?_
    exact ⟨rfl, (HK.out.bel.setCell (p := ⟨w.heap.size + 2, 0, none⟩) (by show w.heap.size ≤ w.heap.size + 2; omega) _).setCell (p := ⟨w.heap.size + 2, 1, none⟩) (by show w.heap.size ≤ w.heap.size + 2; omega) _⟩
  · have h1' : ck A = 0 := by omega
    rw [h1'] at HCa
    clear h1
    by_cases h2 : ck B ≠ 0
    · have hF : lnF A B = ck B := by unfold lnF; rw [if_neg (not_not_intro h1'), if_pos h2]
      obtain ⟨e1, e2, e3⟩ := ln_bad (A := A) (B := B) (by rw [hF]; exact h2)
      rw [hF, e1, e2, e3]
      generalize ck B = E at HCb h2 ⊢
      have k1 : (E == 0) = false := by simpa using h2
      have k2 : (E != 0) = true := by simpa using h2
      clear h1' h2 hF e1 e2 e3
      have y0 := HK.out.res.c0; have y1 := HK.out.res.c1; have f0 := HK.out.res.fr 0; have f1 := HK.out.res.fr 1
      go_enter Tryd.func19, Tryd.ntmps19
      go_wp2_with (first
        | (go_at_call 21; (with_reducible refine (HCb.out _ HK.out.rb).mono ?_); rintro e wz ⟨rfl, hb⟩; have HK2 := Lib.hid (HK.out.next hb); clear HK x0 x1 x2 x3 x4 t0' t1' t2' t3' t4'; have HK := HK2; clear HK2; clear hb; clear y0 y1 f0 f1; have y0 := HK.out.res.c0; have y1 := HK.out.res.c1; have f0 := HK.out.res.fr 0; have f1 := HK.out.res.fr 1; have x0 := HK.out.ba.c0; have x1 := HK.out.ba.c1; have x2 := HK.out.ba.c2; have x3 := HK.out.ba.c3; have x4 := HK.out.ba.c4; have t0' := HK.out.bb.c0; have t1' := HK.out.bb.c1; have t2' := HK.out.bb.c2; have t3' := HK.out.bb.c3; have t4' := HK.out.bb.c4)
        | (go_at_call 21; (with_reducible refine (HCa.out _ HK.out.ra).mono ?_); rintro e wz ⟨rfl, hb⟩; have HK2 := Lib.hid (HK.out.next hb); clear HK x0 x1 x2 x3 x4 t0' t1' t2' t3' t4'; have HK := HK2; clear HK2; clear hb; clear y0 y1 f0 f1; have y0 := HK.out.res.c0; have y1 := HK.out.res.c1; have f0 := HK.out.res.fr 0; have f1 := HK.out.res.fr 1; have x0 := HK.out.ba.c0; have x1 := HK.out.ba.c1; have x2 := HK.out.ba.c2; have x3 := HK.out.ba.c3; have x4 := HK.out.ba.c4; have t0' := HK.out.bb.c0; have t1' := HK.out.bb.c1; have t2' := HK.out.bb.c2; have t3' := HK.out.bb.c3; have t4' := HK.out.bb.c4)
        | fail)
      have HS := Lib.hid ((HK.out.res.put0 0).put1 0); have z0 := HS.out.c0; have z1 := HS.out.c1
      refine bodyPost_ret (v := .tuple #[.int .i64 0, P2 0 0, .int .i64 E]) (by simp [results, Tryd.results19, go_sem, z0, z1]) rfl ?_
      exact ⟨rfl, (HK.out.bel.setCell (p := ⟨w.heap.size + 2, 0, none⟩) (by show w.heap.size ≤ w.heap.size + 2; omega) _).setCell (p := ⟨w.heap.size + 2, 1, none⟩) (by show w.heap.size ≤ w.heap.size + 2; omega) _⟩
    · have h2' : ck B = 0 := by omega
      rw [h2'] at HCb
      have hA := ck_good h1'
      have hB := ck_good h2'
      clear h2
      by_cases h3 : A.r = 0
      · obtain ⟨e0, _, e2⟩ := ln_of h1' h2' (bo_sl h3)
        obtain ⟨e3, e4, e5⟩ := e2 rfl
        obtain ⟨e6, e7, e8⟩ := bv_s hA hB h3
        rw [e0, e3, e4, e5, e6, e7, e8]
        have k1 : (A.r != 0) = false := by simpa using h3
        have k2 : (A.r == 0) = true := by simpa using h3
        have a0 := hA.r0 h3
        by_cases h4 : B.r = 0
        · have b0 := hB.r0 h4
          have k3 : (A.r != B.r) = false := by rw [h3, h4]; rfl
          have k4 : (A.r == B.r) = true := by rw [h3, h4]; rfl
          rw [decide_eq_true (show A.a = B.a ∧ A.b = B.b by omega)] at HQ
          clear h1' h2' hA hB h3 h4 e0 e2 e3 e4 e5 e6 e7 e8 a0 b0
          have y0 := HK.out.res.c0; have y1 := HK.out.res.c1; have f0 := HK.out.res.fr 0; have f1 := HK.out.res.fr 1
          go_enter Tryd.func19, Tryd.ntmps19
          go_wp2_with (first
            | (go_at_call 21; (with_reducible refine (HCb.out _ HK.out.rb).mono ?_); rintro e wz ⟨rfl, hb⟩; have HK2 := Lib.hid (HK.out.next hb); clear HK x0 x1 x2 x3 x4 t0' t1' t2' t3' t4'; have HK := HK2; clear HK2; clear hb; clear y0 y1 f0 f1; have y0 := HK.out.res.c0; have y1 := HK.out.res.c1; have f0 := HK.out.res.fr 0; have f1 := HK.out.res.fr 1; have x0 := HK.out.ba.c0; have x1 := HK.out.ba.c1; have x2 := HK.out.ba.c2; have x3 := HK.out.ba.c3; have x4 := HK.out.ba.c4; have t0' := HK.out.bb.c0; have t1' := HK.out.bb.c1; have t2' := HK.out.bb.c2; have t3' := HK.out.bb.c3; have t4' := HK.out.bb.c4)
            | (go_at_call 21; (with_reducible refine (HCa.out _ HK.out.ra).mono ?_); rintro e wz ⟨rfl, hb⟩; have HK2 := Lib.hid (HK.out.next hb); clear HK x0 x1 x2 x3 x4 t0' t1' t2' t3' t4'; have HK := HK2; clear HK2; clear hb; clear y0 y1 f0 f1; have y0 := HK.out.res.c0; have y1 := HK.out.res.c1; have f0 := HK.out.res.fr 0; have f1 := HK.out.res.fr 1; have x0 := HK.out.ba.c0; have x1 := HK.out.ba.c1; have x2 := HK.out.ba.c2; have x3 := HK.out.ba.c3; have x4 := HK.out.ba.c4; have t0' := HK.out.bb.c0; have t1' := HK.out.bb.c1; have t2' := HK.out.bb.c2; have t3' := HK.out.bb.c3; have t4' := HK.out.bb.c4)
            | fail)
          go_region
          go_wp2_with fail
          have HS := Lib.hid ((HK.out.res.put0 B.a).put1 B.b); have z0 := HS.out.c0; have z1 := HS.out.c1
          refine bodyPost_ret (v := .tuple #[.int .i64 B.r, P2 B.a B.b, .int .i64 0]) (by simp [results, Tryd.results19, go_sem, z0, z1]) rfl ?_
          exact ⟨rfl, ((HK.out.bel.setCell (p := ⟨w.heap.size + 2, 0, none⟩) (by show w.heap.size ≤ w.heap.size + 2; omega) _).setCell (p := ⟨w.heap.size + 2, 1, none⟩) (by show w.heap.size ≤ w.heap.size + 2; omega) _).drew⟩
        · have k3 : (A.r != B.r) = true := by rw [h3]; simpa using fun e => h4 e.symm
          have k4 : (A.r == B.r) = false := by rw [h3]; simpa using fun e => h4 e.symm
          have k5 : (B.r != 0) = true := by simpa using h4
          clear h1' h2' hA hB h3 h4 e0 e2 e3 e4 e5 e6 e7 e8 a0
          have y0 := HK.out.res.c0; have y1 := HK.out.res.c1; have f0 := HK.out.res.fr 0; have f1 := HK.out.res.fr 1
          go_enter Tryd.func19, Tryd.ntmps19
          go_wp2_with (first
            | (go_at_call 21; (with_reducible refine (HCb.out _ HK.out.rb).mono ?_); rintro e wz ⟨rfl, hb⟩; have HK2 := Lib.hid (HK.out.next hb); clear HK x0 x1 x2 x3 x4 t0' t1' t2' t3' t4'; have HK := HK2; clear HK2; clear hb; clear y0 y1 f0 f1; have y0 := HK.out.res.c0; have y1 := HK.out.res.c1; have f0 := HK.out.res.fr 0; have f1 := HK.out.res.fr 1; have x0 := HK.out.ba.c0; have x1 := HK.out.ba.c1; have x2 := HK.out.ba.c2; have x3 := HK.out.ba.c3; have x4 := HK.out.ba.c4; have t0' := HK.out.bb.c0; have t1' := HK.out.bb.c1; have t2' := HK.out.bb.c2; have t3' := HK.out.bb.c3; have t4' := HK.out.bb.c4)
            | (go_at_call 21; (with_reducible refine (HCa.out _ HK.out.ra).mono ?_); rintro e wz ⟨rfl, hb⟩; have HK2 := Lib.hid (HK.out.next hb); clear HK x0 x1 x2 x3 x4 t0' t1' t2' t3' t4'; have HK := HK2; clear HK2; clear hb; clear y0 y1 f0 f1; have y0 := HK.out.res.c0; have y1 := HK.out.res.c1; have f0 := HK.out.res.fr 0; have f1 := HK.out.res.fr 1; have x0 := HK.out.ba.c0; have x1 := HK.out.ba.c1; have x2 := HK.out.ba.c2; have x3 := HK.out.ba.c3; have x4 := HK.out.ba.c4; have t0' := HK.out.bb.c0; have t1' := HK.out.bb.c1; have t2' := HK.out.bb.c2; have t3' := HK.out.bb.c3; have t4' := HK.out.bb.c4)
            | fail)
          go_region
          go_wp2_with fail
          have HS := Lib.hid ((HK.out.res.put0 B.a).put1 B.b); have z0 := HS.out.c0; have z1 := HS.out.c1
          refine bodyPost_ret (v := .tuple #[.int .i64 B.r, P2 B.a B.b, .int .i64 0]) (by simp [results, Tryd.results19, go_sem, z0, z1]) rfl ?_
          exact ⟨rfl, ((HK.out.bel.setCell (p := ⟨w.heap.size + 2, 0, none⟩) (by show w.heap.size ≤ w.heap.size + 2; omega) _).setCell (p := ⟨w.heap.size + 2, 1, none⟩) (by show w.heap.size ≤ w.heap.size + 2; omega) _).drew⟩
      · have k1 : (A.r != 0) = true := by simpa using h3
        have k2 : (A.r == 0) = false := by simpa using h3
        by_cases h4 : B.r = 0
        · obtain ⟨e0, _, e2⟩ := ln_of h1' h2' (bo_sr (A := A) h4)
          obtain ⟨e3, e4, e5⟩ := e2 rfl
          rw [bv_l h3] at e3 e4 e5
          rw [e0, e3, e4, e5]
          have k3 : (A.r != B.r) = true := by rw [h4]; simpa using h3
          have k4 : (A.r == B.r) = false := by rw [h4]; simpa using h3
          have k5 : (B.r != 0) = false := by simpa using h4
          clear h1' h2' hA hB h3 h4 e0 e2 e3 e4 e5
          have y0 := HK.out.res.c0; have y1 := HK.out.res.c1; have f0 := HK.out.res.fr 0; have f1 := HK.out.res.fr 1
          go_enter Tryd.func19, Tryd.ntmps19
          go_wp2_with (first
            | (go_at_call 21; (with_reducible refine (HCb.out _ HK.out.rb).mono ?_); rintro e wz ⟨rfl, hb⟩; have HK2 := Lib.hid (HK.out.next hb); clear HK x0 x1 x2 x3 x4 t0' t1' t2' t3' t4'; have HK := HK2; clear HK2; clear hb; clear y0 y1 f0 f1; have y0 := HK.out.res.c0; have y1 := HK.out.res.c1; have f0 := HK.out.res.fr 0; have f1 := HK.out.res.fr 1; have x0 := HK.out.ba.c0; have x1 := HK.out.ba.c1; have x2 := HK.out.ba.c2; have x3 := HK.out.ba.c3; have x4 := HK.out.ba.c4; have t0' := HK.out.bb.c0; have t1' := HK.out.bb.c1; have t2' := HK.out.bb.c2; have t3' := HK.out.bb.c3; have t4' := HK.out.bb.c4)
            | (go_at_call 21; (with_reducible refine (HCa.out _ HK.out.ra).mono ?_); rintro e wz ⟨rfl, hb⟩; have HK2 := Lib.hid (HK.out.next hb); clear HK x0 x1 x2 x3 x4 t0' t1' t2' t3' t4'; have HK := HK2; clear HK2; clear hb; clear y0 y1 f0 f1; have y0 := HK.out.res.c0; have y1 := HK.out.res.c1; have f0 := HK.out.res.fr 0; have f1 := HK.out.res.fr 1; have x0 := HK.out.ba.c0; have x1 := HK.out.ba.c1; have x2 := HK.out.ba.c2; have x3 := HK.out.ba.c3; have x4 := HK.out.ba.c4; have t0' := HK.out.bb.c0; have t1' := HK.out.bb.c1; have t2' := HK.out.bb.c2; have t3' := HK.out.bb.c3; have t4' := HK.out.bb.c4)
            | fail)
          go_region
          go_wp2_with fail
          have HS := Lib.hid ((HK.out.res.put0 A.a).put1 A.b); have z0 := HS.out.c0; have z1 := HS.out.c1
          refine bodyPost_ret (v := .tuple #[.int .i64 A.r, P2 A.a A.b, .int .i64 0]) (by simp [results, Tryd.results19, go_sem, z0, z1]) rfl ?_
          exact ⟨rfl, ((HK.out.bel.setCell (p := ⟨w.heap.size + 2, 0, none⟩) (by show w.heap.size ≤ w.heap.size + 2; omega) _).setCell (p := ⟨w.heap.size + 2, 1, none⟩) (by show w.heap.size ≤ w.heap.size + 2; omega) _).drew⟩
        · have k5 : (B.r != 0) = true := by simpa using h4
          by_cases h5 : A.r = B.r
          · have k3 : (A.r != B.r) = false := by simpa using h5
            have k4 : (A.r == B.r) = true := by simpa using h5
            by_cases h6 : A.a = B.a ∧ A.b = B.b
            · obtain ⟨e0, _, e2⟩ := ln_of h1' h2' (bo_eq h5 h3 h6)
              obtain ⟨e3, e4, e5⟩ := e2 rfl
              rw [bv_l h3] at e3 e4 e5
              rw [e0, e3, e4, e5]
              rw [decide_eq_true h6] at HQ
              clear h1' h2' hA hB h3 h4 h5 h6 e0 e2 e3 e4 e5
              have y0 := HK.out.res.c0; have y1 := HK.out.res.c1; have f0 := HK.out.res.fr 0; have f1 := HK.out.res.fr 1
              go_enter Tryd.func19, Tryd.ntmps19
              go_wp2_with (first
                | (go_at_call 21; (with_reducible refine (HCb.out _ HK.out.rb).mono ?_); rintro e wz ⟨rfl, hb⟩; have HK2 := Lib.hid (HK.out.next hb); clear HK x0 x1 x2 x3 x4 t0' t1' t2' t3' t4'; have HK := HK2; clear HK2; clear hb; clear y0 y1 f0 f1; have y0 := HK.out.res.c0; have y1 := HK.out.res.c1; have f0 := HK.out.res.fr 0; have f1 := HK.out.res.fr 1; have x0 := HK.out.ba.c0; have x1 := HK.out.ba.c1; have x2 := HK.out.ba.c2; have x3 := HK.out.ba.c3; have x4 := HK.out.ba.c4; have t0' := HK.out.bb.c0; have t1' := HK.out.bb.c1; have t2' := HK.out.bb.c2; have t3' := HK.out.bb.c3; have t4' := HK.out.bb.c4)
                | (go_at_call 21; (with_reducible refine (HCa.out _ HK.out.ra).mono ?_); rintro e wz ⟨rfl, hb⟩; have HK2 := Lib.hid (HK.out.next hb); clear HK x0 x1 x2 x3 x4 t0' t1' t2' t3' t4'; have HK := HK2; clear HK2; clear hb; clear y0 y1 f0 f1; have y0 := HK.out.res.c0; have y1 := HK.out.res.c1; have f0 := HK.out.res.fr 0; have f1 := HK.out.res.fr 1; have x0 := HK.out.ba.c0; have x1 := HK.out.ba.c1; have x2 := HK.out.ba.c2; have x3 := HK.out.ba.c3; have x4 := HK.out.ba.c4; have t0' := HK.out.bb.c0; have t1' := HK.out.bb.c1; have t2' := HK.out.bb.c2; have t3' := HK.out.bb.c3; have t4' := HK.out.bb.c4)
                | fail)
              go_region
              go_wp2_with fail
              have HS := Lib.hid ((HK.out.res.put0 A.a).put1 A.b); have z0 := HS.out.c0; have z1 := HS.out.c1
              refine bodyPost_ret (v := .tuple #[.int .i64 A.r, P2 A.a A.b, .int .i64 0]) (by simp [results, Tryd.results19, go_sem, z0, z1]) rfl ?_
              exact ⟨rfl, ((HK.out.bel.setCell (p := ⟨w.heap.size + 2, 0, none⟩) (by show w.heap.size ≤ w.heap.size + 2; omega) _).setCell (p := ⟨w.heap.size + 2, 1, none⟩) (by show w.heap.size ≤ w.heap.size + 2; omega) _).drew⟩
            · obtain ⟨e0, e2, _⟩ := ln_of h1' h2' (bo_len h5 h3 h6)
              obtain ⟨e3, e4, e5⟩ := e2 (by decide)
              rw [e0, e3, e4, e5]
              rw [decide_eq_false h6] at HQ
              clear h1' h2' hA hB h3 h4 h5 h6 e0 e2 e3 e4 e5
              have y0 := HK.out.res.c0; have y1 := HK.out.res.c1; have f0 := HK.out.res.fr 0; have f1 := HK.out.res.fr 1
              go_enter Tryd.func19, Tryd.ntmps19
              go_wp2_with (first
                | (go_at_call 21; (with_reducible refine (HCb.out _ HK.out.rb).mono ?_); rintro e wz ⟨rfl, hb⟩; have HK2 := Lib.hid (HK.out.next hb); clear HK x0 x1 x2 x3 x4 t0' t1' t2' t3' t4'; have HK := HK2; clear HK2; clear hb; clear y0 y1 f0 f1; have y0 := HK.out.res.c0; have y1 := HK.out.res.c1; have f0 := HK.out.res.fr 0; have f1 := HK.out.res.fr 1; have x0 := HK.out.ba.c0; have x1 := HK.out.ba.c1; have x2 := HK.out.ba.c2; have x3 := HK.out.ba.c3; have x4 := HK.out.ba.c4; have t0' := HK.out.bb.c0; have t1' := HK.out.bb.c1; have t2' := HK.out.bb.c2; have t3' := HK.out.bb.c3; have t4' := HK.out.bb.c4)
                | (go_at_call 21; (with_reducible refine (HCa.out _ HK.out.ra).mono ?_); rintro e wz ⟨rfl, hb⟩; have HK2 := Lib.hid (HK.out.next hb); clear HK x0 x1 x2 x3 x4 t0' t1' t2' t3' t4'; have HK := HK2; clear HK2; clear hb; clear y0 y1 f0 f1; have y0 := HK.out.res.c0; have y1 := HK.out.res.c1; have f0 := HK.out.res.fr 0; have f1 := HK.out.res.fr 1; have x0 := HK.out.ba.c0; have x1 := HK.out.ba.c1; have x2 := HK.out.ba.c2; have x3 := HK.out.ba.c3; have x4 := HK.out.ba.c4; have t0' := HK.out.bb.c0; have t1' := HK.out.bb.c1; have t2' := HK.out.bb.c2; have t3' := HK.out.bb.c3; have t4' := HK.out.bb.c4)
                | fail)
              have HS := Lib.hid ((HK.out.res.put0 0).put1 0); have z0 := HS.out.c0; have z1 := HS.out.c1
              refine bodyPost_ret (v := .tuple #[.int .i64 0, P2 0 0, .int .i64 11]) (by simp [results, Tryd.results19, go_sem, z0, z1]) rfl ?_
              exact ⟨rfl, (HK.out.bel.setCell (p := ⟨w.heap.size + 2, 0, none⟩) (by show w.heap.size ≤ w.heap.size + 2; omega) _).setCell (p := ⟨w.heap.size + 2, 1, none⟩) (by show w.heap.size ≤ w.heap.size + 2; omega) _⟩
          · obtain ⟨e0, e2, _⟩ := ln_of h1' h2' (bo_err h5 h3 h4)
            obtain ⟨e3, e4, e5⟩ := e2 (by decide)
            rw [e0, e3, e4, e5]
            have k3 : (A.r != B.r) = true := by simpa using h5
            have k4 : (A.r == B.r) = false := by simpa using h5
            clear h1' h2' hA hB h3 h4 h5 e0 e2 e3 e4 e5
            have y0 := HK.out.res.c0; have y1 := HK.out.res.c1; have f0 := HK.out.res.fr 0; have f1 := HK.out.res.fr 1
            go_enter Tryd.func19, Tryd.ntmps19
            go_wp2_with (first
              | (go_at_call 21; (with_reducible refine (HCb.out _ HK.out.rb).mono ?_); rintro e wz ⟨rfl, hb⟩; have HK2 := Lib.hid (HK.out.next hb); clear HK x0 x1 x2 x3 x4 t0' t1' t2' t3' t4'; have HK := HK2; clear HK2; clear hb; clear y0 y1 f0 f1; have y0 := HK.out.res.c0; have y1 := HK.out.res.c1; have f0 := HK.out.res.fr 0; have f1 := HK.out.res.fr 1; have x0 := HK.out.ba.c0; have x1 := HK.out.ba.c1; have x2 := HK.out.ba.c2; have x3 := HK.out.ba.c3; have x4 := HK.out.ba.c4; have t0' := HK.out.bb.c0; have t1' := HK.out.bb.c1; have t2' := HK.out.bb.c2; have t3' := HK.out.bb.c3; have t4' := HK.out.bb.c4)
              | (go_at_call 21; (with_reducible refine (HCa.out _ HK.out.ra).mono ?_); rintro e wz ⟨rfl, hb⟩; have HK2 := Lib.hid (HK.out.next hb); clear HK x0 x1 x2 x3 x4 t0' t1' t2' t3' t4'; have HK := HK2; clear HK2; clear hb; clear y0 y1 f0 f1; have y0 := HK.out.res.c0; have y1 := HK.out.res.c1; have f0 := HK.out.res.fr 0; have f1 := HK.out.res.fr 1; have x0 := HK.out.ba.c0; have x1 := HK.out.ba.c1; have x2 := HK.out.ba.c2; have x3 := HK.out.ba.c3; have x4 := HK.out.ba.c4; have t0' := HK.out.bb.c0; have t1' := HK.out.bb.c1; have t2' := HK.out.bb.c2; have t3' := HK.out.bb.c3; have t4' := HK.out.bb.c4)
              | fail)
            have HS := Lib.hid ((HK.out.res.put0 0).put1 0); have z0 := HS.out.c0; have z1 := HS.out.c1
            refine bodyPost_ret (v := .tuple #[.int .i64 0, P2 0 0, .int .i64 22]) (by simp [results, Tryd.results19, go_sem, z0, z1]) rfl ?_
            exact ⟨rfl, (HK.out.bel.setCell (p := ⟨w.heap.size + 2, 0, none⟩) (by show w.heap.size ≤ w.heap.size + 2; omega) _).setCell (p := ⟨w.heap.size + 2, 1, none⟩) (by show w.heap.size ≤ w.heap.size + 2; omega) _⟩
end Go.Proofs.YtmmnoldhiobgdaaDoor
