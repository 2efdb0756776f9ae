/- Two of the reference. -/
import Derived.Test.YtmmnoldhiobgdaaDoorExH
import Derived.Test.YtmmnoldhiobgdaaDoorExI
namespace Go.Proofs.YtmmnoldhiobgdaaDoor
open Go.RowKit

/-- What the reference's Two keeps. -/
structure KRt (w : World) (A : Ar) (v : Value) (B : Ar) (u : Value) (W : World) : Prop where
  bel : Below w.heap.size w W
  ba : R5 W w.heap.size A.k A.r A.a A.b v
  bb : R5 W (w.heap.size + 1) B.k B.r B.a B.b u
  res : R5 W (w.heap.size + 2) 0 0 0 0 (.slice none 0 0)
  ra : RdI W.heap.size W v A.z
  rb : RdI W.heap.size W u B.z
  lay : Ru.Lay W
theorem KRt.next {w W W' : World} {A B : Ar} {v u : Value} (h : KRt w A v B u W) (hb : Below W.heap.size W W') : KRt w A v B u W' :=
  ⟨h.bel.trans (hb.mono h.bel.size), h.ba.next hb, h.bb.next hb, h.res.next hb, h.ra.next hb, h.rb.next hb, h.lay.next hb⟩
theorem KRt.new {w : World} {v u : Value} {A B : Ar} (hw : Ru.Lay w) (hv : RdI w.heap.size w v A.z) (hu : RdI w.heap.size w u B.z) : KRt w A v B u (((w.alloc (.cells #[.int .i64 A.k, .int .i64 A.r, .int .i64 A.a, .int .i64 A.b, v] 25)).alloc (.cells #[.int .i64 B.k, .int .i64 B.r, .int .i64 B.a, .int .i64 B.b, u] 25)).alloc (.cells #[.int .i64 0, .int .i64 0, .int .i64 0, .int .i64 0, .slice none 0 0] 25)) := by
  have h2 := bel1 w (.cells #[.int .i64 A.k, .int .i64 A.r, .int .i64 A.a, .int .i64 A.b, v] 25)
  have s2 : (w.alloc (.cells #[.int .i64 A.k, .int .i64 A.r, .int .i64 A.a, .int .i64 A.b, v] 25)).heap.size = w.heap.size + 1 := by simp
  have ha := R5.new w A.k A.r A.a A.b v
  generalize w.alloc (.cells #[.int .i64 A.k, .int .i64 A.r, .int .i64 A.a, .int .i64 A.b, v] 25) = w2 at h2 s2 ha ⊢
  have h3 := bel1 w2 (.cells #[.int .i64 B.k, .int .i64 B.r, .int .i64 B.a, .int .i64 B.b, u] 25)
  have s3 : (w2.alloc (.cells #[.int .i64 B.k, .int .i64 B.r, .int .i64 B.a, .int .i64 B.b, u] 25)).heap.size = w.heap.size + 2 := by simp [s2]
  have hb := R5.new w2 B.k B.r B.a B.b u
  rw [s2] at hb
  generalize w2.alloc (.cells #[.int .i64 B.k, .int .i64 B.r, .int .i64 B.a, .int .i64 B.b, u] 25) = w3 at h3 s3 hb ⊢
  have h4 := bel1 w3 (.cells #[.int .i64 0, .int .i64 0, .int .i64 0, .int .i64 0, .slice none 0 0] 25)
  have hr := R5.new w3 0 0 0 0 (.slice none 0 0)
  rw [s3] at hr
  have h13 := h2.trans (h3.mono h2.size)
  exact ⟨h13.trans (h4.mono h13.size), (ha.next h3).next h4, hb.next h4, hr, ((hv.next h2).next h3).next h4, ((hu.next h2).next h3).next h4, ((hw.next h2).next h3).next h4⟩
theorem bo_many {A B : Ar} (hA : Good A) (hB : Good B) : (boV A B).z.length = if A.r = 0 then B.z.length else A.z.length := by
  unfold boV
  by_cases h : A.r = 0
  · by_cases h2 : B.r = 0
    · simp only [if_pos h, if_pos h2]
      have := (hA.r0 h).2.2
      have := (hB.r0 h2).2.2
      omega
    · simp only [if_pos h, if_neg h2]
  · simp only [if_neg h, ite_self]
set_option maxRecDepth 100000 in
set_option maxHeartbeats 16000000 in
theorem rtwo10_any (p : Int) (A B : Ar) (v u : Value) (w : World) (hw : Ru.Lay w) (hv : RdI w.heap.size w v A.z) (hu : RdI w.heap.size w u B.z) (hl : A.z.length ≤ 100000) (hl' : B.z.length ≤ 100000) (h64 : in64 A.z) (h64' : in64 B.z) :
    Calls Tryd.prog 17 #[.int .i64 p, A5 A.k A.r A.a A.b v, A5 B.k B.r B.a B.b u] w (RetE (twV p A B) (twE p A B) w) := by
  have HAr := Lib.hid (fun W => Sc.rarity_any p W)
  have HCa := Lib.hid (fun W h => archeck_any A v W h (by omega))
  have HCb := Lib.hid (fun W h => archeck_any B u W h (by omega))
  have HKi := Lib.hid (fun W h1 h2 => rkinds_any p A B v u W h1 h2)
  have HLn := Lib.hid (fun W h0 h1 h2 => rlens10_any A B v u W h0 h1 h2 (by omega) (by omega))
  have HK := Lib.hid (KRt.new (A := A) (B := B) hw hv hu)
  have HTw : Hid (∀ (x y : Int) (W : World), Sc.inr x = true → Sc.inr y = true → Calls Tryd.prog 22 #[.int .i64 p, .int .i64 x, .int .i64 y] W fun e w' => e = .returned (.tuple #[.int .i64 (Sc.twoV p x y).1, .int .i64 (Sc.twoV p x y).2]) ∧ Below W.heap.size W w') := fun x y W h h' => Sc.rtwo_any p x y W (inr_lo h) (inr_hi h) (inr_lo h') (inr_hi h')
  have HI := Lib.hid h64
  have HJ := Lib.hid h64'
  have HEa : Hid (∀ (i : Nat) (W : World), RdI W.heap.size W v A.z → (if A.r = 0 then 0 else i) < A.z.length → Calls Tryd.prog 48 #[A5 A.k A.r A.a A.b v, .int .i64 i] W fun e w' => e = .returned (.int .i64 (celI A i)) ∧ Below W.heap.size W w') := fun i W h hi => rcell_any A v i W h hi
  have HEb : Hid (∀ (i : Nat) (W : World), RdI W.heap.size W u B.z → (if B.r = 0 then 0 else i) < B.z.length → Calls Tryd.prog 48 #[A5 B.k B.r B.a B.b u, .int .i64 i] W fun e w' => e = .returned (.int .i64 (celI B i)) ∧ Below W.heap.size W w') := fun i W h hi => rcell_any B u i W h hi
  obtain ⟨q, cap, rfl, hv1, hv2, hv3⟩ := hv
  obtain ⟨q', cap', rfl, hu1, hu2, hu3⟩ := hu
  clear hv1 hv2 hv3 hu1 hu2 hu3 hw h64 h64'
  have x0 := HK.out.ba.c0; have x1 := HK.out.ba.c1; have x2 := HK.out.ba.c2; have x3 := HK.out.ba.c3; have x4 := HK.out.ba.c4; have t0' := HK.out.bb.c0; have t1' := HK.out.bb.c1; have t2' := HK.out.bb.c2; have t3' := HK.out.bb.c3; have t4' := HK.out.bb.c4
  have hac := ar_cases p
  by_cases h1 : Sc.arV p ≠ 2
  · have h0 := twF_two (A := A) (B := B) h1
    have e0 : twV p A B = Ar.no := by unfold twV; rw [h0]; exact exV_no (by decide) _ _
    have e1 : twE p A B = 2 := by unfold twE; rw [h0]; exact exE_bad (by decide) _
    rw [e0, e1]
    clear e0 e1
    clear HTw HI HJ HEa HEb HKi HLn HCa HCb h0
    rcases hac with ⟨h2, h3⟩ | ⟨h2, h3⟩
    · have h4 : Sc.arV p = 1 := by omega
      rw [h2, h4] at HAr
      clear h1 h2 h3 h4
      go_enter Tryd.func17, Tryd.ntmps17
      go_wp2_with (first
        | (go_at_call 20; (with_reducible refine (HAr.out _).mono ?_); rintro e wz ⟨rfl, rfl⟩)
        | fail)
      refine bodyPost_ret (v := .tuple #[A5 0 0 0 0 (.slice none 0 0), .int .i64 2]) (by simp [results, Tryd.results17, go_sem]) rfl ?_
      exact retE_no _ HK.out.bel
    · rw [h2, h3] at HAr
      clear h1 h2 h3
      go_enter Tryd.func17, Tryd.ntmps17
      go_wp2_with (first
        | (go_at_call 20; (with_reducible refine (HAr.out _).mono ?_); rintro e wz ⟨rfl, rfl⟩)
        | fail)
      refine bodyPost_ret (v := .tuple #[A5 0 0 0 0 (.slice none 0 0), .int .i64 2]) (by simp [results, Tryd.results17, go_sem]) rfl ?_
      exact retE_no _ HK.out.bel
  · have h1' : Sc.arV p = 2 := by omega
    have h2 : Sc.arE p = 0 := by omega
    rw [h1', h2] at HAr
    have hF := twF_fa (p := p) (A := A) (B := B) h1'
    clear h1 h2 hac h1'
    by_cases h3 : ck A ≠ 0
    · rw [if_pos h3] at hF
      have h4 : twF p A B = ck A := by rw [hF]; unfold faV; rw [if_neg h3, if_pos h3]
      have e0 : twV p A B = Ar.no := by unfold twV; rw [h4]; exact exV_no h3 _ _
      have e1 : twE p A B = ck A := by unfold twE; rw [h4]; exact exE_bad h3 _
      rw [e0, e1]
      clear e0 e1
      generalize ck A = E at HCa h3 ⊢
      have k1 : (E == 0) = false := by simpa using h3
      have k2 : (E != 0) = true := by simpa using h3
      clear h3 h4 hF HTw HI HJ HEa HEb HKi HLn HCb
      have y0 := HK.out.res.c0
      have y1 := HK.out.res.c1
      have y2 := HK.out.res.c2
      have y3 := HK.out.res.c3
      have y4 := HK.out.res.c4
      have f0 := HK.out.res.fr 0
      have f1 := HK.out.res.fr 1
      have f2 := HK.out.res.fr 2
      have f3 := HK.out.res.fr 3
      have f4 := HK.out.res.fr 4
      have HS := Lib.hid (HK.out.res.set 0 0 0 0 (.slice none 0 0))
      have z0 := HS.out.c0
      have z1 := HS.out.c1
      have z2 := HS.out.c2
      have z3 := HS.out.c3
      have z4 := HS.out.c4
      go_enter Tryd.func17, Tryd.ntmps17
      go_wp2_with (first
        | (go_at_call 20; (with_reducible refine (HAr.out _).mono ?_); rintro e wz ⟨rfl, rfl⟩)
        | (go_at_call 21; (with_reducible refine (HCa.out _ HK.out.ra).mono ?_); rintro e wz ⟨rfl, hb⟩; clear y0 f0 y1 f1 y2 f2 y3 f3 y4 f4 HS z0 z1 z2 z3 z4; have HK2 := Lib.hid (HK.out.next hb); clear HK x0 x1 x2 x3 x4 t0' t1' t2' t3' t4'; have HK := HK2; clear HK2; clear hb; have x0 := HK.out.ba.c0; have x1 := HK.out.ba.c1; have x2 := HK.out.ba.c2; have x3 := HK.out.ba.c3; have x4 := HK.out.ba.c4; have t0' := HK.out.bb.c0; have t1' := HK.out.bb.c1; have t2' := HK.out.bb.c2; have t3' := HK.out.bb.c3; have t4' := HK.out.bb.c4; have y0 := HK.out.res.c0; have y1 := HK.out.res.c1; have y2 := HK.out.res.c2; have y3 := HK.out.res.c3; have y4 := HK.out.res.c4; have f0 := HK.out.res.fr 0; have f1 := HK.out.res.fr 1; have f2 := HK.out.res.fr 2; have f3 := HK.out.res.fr 3; have f4 := HK.out.res.fr 4; have HS := Lib.hid (HK.out.res.set 0 0 0 0 (.slice none 0 0)); have z0 := HS.out.c0; have z1 := HS.out.c1; have z2 := HS.out.c2; have z3 := HS.out.c3; have z4 := HS.out.c4)
        | fail)
      refine bodyPost_ret (v := .tuple #[A5 0 0 0 0 (.slice none 0 0), .int .i64 E]) (by simp [results, Tryd.results17, go_sem, z0, z1, z2, z3, z4]) rfl ?_
      exact retE_no _ (st5_below _ _ _ _ _ (by omega) HK.out.bel)
    · have h3' : ck A = 0 := by omega
      rw [if_neg h3] at hF
      rw [h3'] at HCa
      clear h3
      by_cases h5 : ck B ≠ 0
      · have h4 : twF p A B = ck B := by rw [hF]; unfold faV; rw [if_neg h5, if_pos h5]
        have e0 : twV p A B = Ar.no := by unfold twV; rw [h4]; exact exV_no h5 _ _
        have e1 : twE p A B = ck B := by unfold twE; rw [h4]; exact exE_bad h5 _
        rw [e0, e1]
        clear e0 e1
        generalize ck B = E at HCb h5 ⊢
        have k1 : (E == 0) = false := by simpa using h5
        have k2 : (E != 0) = true := by simpa using h5
        clear h3' h4 h5 hF HTw HI HJ HEa HEb HKi HLn
        have y0 := HK.out.res.c0
        have y1 := HK.out.res.c1
        have y2 := HK.out.res.c2
        have y3 := HK.out.res.c3
        have y4 := HK.out.res.c4
        have f0 := HK.out.res.fr 0
        have f1 := HK.out.res.fr 1
        have f2 := HK.out.res.fr 2
        have f3 := HK.out.res.fr 3
        have f4 := HK.out.res.fr 4
        have HS := Lib.hid (HK.out.res.set 0 0 0 0 (.slice none 0 0))
        have z0 := HS.out.c0
        have z1 := HS.out.c1
        have z2 := HS.out.c2
        have z3 := HS.out.c3
        have z4 := HS.out.c4
        go_enter Tryd.func17, Tryd.ntmps17
        go_wp2_with (first
          | (go_at_call 20; (with_reducible refine (HAr.out _).mono ?_); rintro e wz ⟨rfl, rfl⟩)
          | (go_at_call 21; (with_reducible refine (HCb.out _ HK.out.rb).mono ?_); rintro e wz ⟨rfl, hb⟩; clear y0 f0 y1 f1 y2 f2 y3 f3 y4 f4 HS z0 z1 z2 z3 z4; have HK2 := Lib.hid (HK.out.next hb); clear HK x0 x1 x2 x3 x4 t0' t1' t2' t3' t4'; have HK := HK2; clear HK2; clear hb; have x0 := HK.out.ba.c0; have x1 := HK.out.ba.c1; have x2 := HK.out.ba.c2; have x3 := HK.out.ba.c3; have x4 := HK.out.ba.c4; have t0' := HK.out.bb.c0; have t1' := HK.out.bb.c1; have t2' := HK.out.bb.c2; have t3' := HK.out.bb.c3; have t4' := HK.out.bb.c4; have y0 := HK.out.res.c0; have y1 := HK.out.res.c1; have y2 := HK.out.res.c2; have y3 := HK.out.res.c3; have y4 := HK.out.res.c4; have f0 := HK.out.res.fr 0; have f1 := HK.out.res.fr 1; have f2 := HK.out.res.fr 2; have f3 := HK.out.res.fr 3; have f4 := HK.out.res.fr 4; have HS := Lib.hid (HK.out.res.set 0 0 0 0 (.slice none 0 0)); have z0 := HS.out.c0; have z1 := HS.out.c1; have z2 := HS.out.c2; have z3 := HS.out.c3; have z4 := HS.out.c4)
          | (go_at_call 21; (with_reducible refine (HCa.out _ HK.out.ra).mono ?_); rintro e wz ⟨rfl, hb⟩; clear y0 f0 y1 f1 y2 f2 y3 f3 y4 f4 HS z0 z1 z2 z3 z4; have HK2 := Lib.hid (HK.out.next hb); clear HK x0 x1 x2 x3 x4 t0' t1' t2' t3' t4'; have HK := HK2; clear HK2; clear hb; have x0 := HK.out.ba.c0; have x1 := HK.out.ba.c1; have x2 := HK.out.ba.c2; have x3 := HK.out.ba.c3; have x4 := HK.out.ba.c4; have t0' := HK.out.bb.c0; have t1' := HK.out.bb.c1; have t2' := HK.out.bb.c2; have t3' := HK.out.bb.c3; have t4' := HK.out.bb.c4; have y0 := HK.out.res.c0; have y1 := HK.out.res.c1; have y2 := HK.out.res.c2; have y3 := HK.out.res.c3; have y4 := HK.out.res.c4; have f0 := HK.out.res.fr 0; have f1 := HK.out.res.fr 1; have f2 := HK.out.res.fr 2; have f3 := HK.out.res.fr 3; have f4 := HK.out.res.fr 4; have HS := Lib.hid (HK.out.res.set 0 0 0 0 (.slice none 0 0)); have z0 := HS.out.c0; have z1 := HS.out.c1; have z2 := HS.out.c2; have z3 := HS.out.c3; have z4 := HS.out.c4)
          | fail)
        refine bodyPost_ret (v := .tuple #[A5 0 0 0 0 (.slice none 0 0), .int .i64 E]) (by simp [results, Tryd.results17, go_sem, z0, z1, z2, z3, z4]) rfl ?_
        exact retE_no _ (st5_below _ _ _ _ _ (by omega) HK.out.bel)
      · have h5' : ck B = 0 := by omega
        rw [h5'] at hF
        rw [h5'] at HCb
        clear h5
        by_cases h6 : kdB p A B = true
        rotate_left
        · have h6' : kdB p A B = false := by simpa using h6
          rw [h6'] at hF HKi
          have h4 : twF p A B = 21 := by rw [hF]; unfold faV; simp
          have e0 : twV p A B = Ar.no := by unfold twV; rw [h4]; exact exV_no (by decide) _ _
          have e1 : twE p A B = 21 := by unfold twE; rw [h4]; exact exE_bad (by decide) _
          rw [e0, e1]
          clear e0 e1
          clear h3' h4 h5' h6 h6' hF HTw HI HJ HEa HEb HLn
          have y0 := HK.out.res.c0
          have y1 := HK.out.res.c1
          have y2 := HK.out.res.c2
          have y3 := HK.out.res.c3
          have y4 := HK.out.res.c4
          have f0 := HK.out.res.fr 0
          have f1 := HK.out.res.fr 1
          have f2 := HK.out.res.fr 2
          have f3 := HK.out.res.fr 3
          have f4 := HK.out.res.fr 4
          have HS := Lib.hid (HK.out.res.set 0 0 0 0 (.slice none 0 0))
          have z0 := HS.out.c0
          have z1 := HS.out.c1
          have z2 := HS.out.c2
          have z3 := HS.out.c3
          have z4 := HS.out.c4
          go_enter Tryd.func17, Tryd.ntmps17
          go_wp2_with (first
            | (go_at_call 20; (with_reducible refine (HAr.out _).mono ?_); rintro e wz ⟨rfl, rfl⟩)
            | (go_at_call 21; (with_reducible refine (HCb.out _ HK.out.rb).mono ?_); rintro e wz ⟨rfl, hb⟩; clear y0 f0 y1 f1 y2 f2 y3 f3 y4 f4 HS z0 z1 z2 z3 z4; have HK2 := Lib.hid (HK.out.next hb); clear HK x0 x1 x2 x3 x4 t0' t1' t2' t3' t4'; have HK := HK2; clear HK2; clear hb; have x0 := HK.out.ba.c0; have x1 := HK.out.ba.c1; have x2 := HK.out.ba.c2; have x3 := HK.out.ba.c3; have x4 := HK.out.ba.c4; have t0' := HK.out.bb.c0; have t1' := HK.out.bb.c1; have t2' := HK.out.bb.c2; have t3' := HK.out.bb.c3; have t4' := HK.out.bb.c4; have y0 := HK.out.res.c0; have y1 := HK.out.res.c1; have y2 := HK.out.res.c2; have y3 := HK.out.res.c3; have y4 := HK.out.res.c4; have f0 := HK.out.res.fr 0; have f1 := HK.out.res.fr 1; have f2 := HK.out.res.fr 2; have f3 := HK.out.res.fr 3; have f4 := HK.out.res.fr 4; have HS := Lib.hid (HK.out.res.set 0 0 0 0 (.slice none 0 0)); have z0 := HS.out.c0; have z1 := HS.out.c1; have z2 := HS.out.c2; have z3 := HS.out.c3; have z4 := HS.out.c4)
            | (go_at_call 21; (with_reducible refine (HCa.out _ HK.out.ra).mono ?_); rintro e wz ⟨rfl, hb⟩; clear y0 f0 y1 f1 y2 f2 y3 f3 y4 f4 HS z0 z1 z2 z3 z4; have HK2 := Lib.hid (HK.out.next hb); clear HK x0 x1 x2 x3 x4 t0' t1' t2' t3' t4'; have HK := HK2; clear HK2; clear hb; have x0 := HK.out.ba.c0; have x1 := HK.out.ba.c1; have x2 := HK.out.ba.c2; have x3 := HK.out.ba.c3; have x4 := HK.out.ba.c4; have t0' := HK.out.bb.c0; have t1' := HK.out.bb.c1; have t2' := HK.out.bb.c2; have t3' := HK.out.bb.c3; have t4' := HK.out.bb.c4; have y0 := HK.out.res.c0; have y1 := HK.out.res.c1; have y2 := HK.out.res.c2; have y3 := HK.out.res.c3; have y4 := HK.out.res.c4; have f0 := HK.out.res.fr 0; have f1 := HK.out.res.fr 1; have f2 := HK.out.res.fr 2; have f3 := HK.out.res.fr 3; have f4 := HK.out.res.fr 4; have HS := Lib.hid (HK.out.res.set 0 0 0 0 (.slice none 0 0)); have z0 := HS.out.c0; have z1 := HS.out.c1; have z2 := HS.out.c2; have z3 := HS.out.c3; have z4 := HS.out.c4)
            | (go_at_call 47; (with_reducible refine (HKi.out _ HK.out.ra HK.out.rb).mono ?_); rintro e wz ⟨rfl, hb⟩; clear y0 f0 y1 f1 y2 f2 y3 f3 y4 f4 HS z0 z1 z2 z3 z4; have HK2 := Lib.hid (HK.out.next hb); clear HK x0 x1 x2 x3 x4 t0' t1' t2' t3' t4'; have HK := HK2; clear HK2; clear hb; have x0 := HK.out.ba.c0; have x1 := HK.out.ba.c1; have x2 := HK.out.ba.c2; have x3 := HK.out.ba.c3; have x4 := HK.out.ba.c4; have t0' := HK.out.bb.c0; have t1' := HK.out.bb.c1; have t2' := HK.out.bb.c2; have t3' := HK.out.bb.c3; have t4' := HK.out.bb.c4; have y0 := HK.out.res.c0; have y1 := HK.out.res.c1; have y2 := HK.out.res.c2; have y3 := HK.out.res.c3; have y4 := HK.out.res.c4; have f0 := HK.out.res.fr 0; have f1 := HK.out.res.fr 1; have f2 := HK.out.res.fr 2; have f3 := HK.out.res.fr 3; have f4 := HK.out.res.fr 4; have HS := Lib.hid (HK.out.res.set 0 0 0 0 (.slice none 0 0)); have z0 := HS.out.c0; have z1 := HS.out.c1; have z2 := HS.out.c2; have z3 := HS.out.c3; have z4 := HS.out.c4)
            | fail)
          refine bodyPost_ret (v := .tuple #[A5 0 0 0 0 (.slice none 0 0), .int .i64 21]) (by simp [results, Tryd.results17, go_sem, z0, z1, z2, z3, z4]) rfl ?_
          exact retE_no _ (st5_below _ _ _ _ _ (by omega) HK.out.bel)
        · rw [h6] at hF HKi
          have hA := ck_good h3'
          have hB := ck_good h5'
          have h4 : twF p A B = boE A B := by rw [hF]; unfold faV; simp
          clear hF h6
          by_cases h7 : boE A B ≠ 0
          · obtain ⟨e0, e2, _⟩ := ln_of h3' h5' (rfl : boE A B = boE A B)
            obtain ⟨e3, e4, e5⟩ := e2 h7
            rw [e0, e3, e4, e5] at HLn
            clear e0 e2 e3 e4 e5
            have e0 : twV p A B = Ar.no := by unfold twV; rw [h4]; exact exV_no h7 _ _
            have e1 : twE p A B = boE A B := by unfold twE; rw [h4]; exact exE_bad h7 _
            rw [e0, e1]
            clear e0 e1
            generalize boE A B = E at HLn h7 ⊢
            have k2 : (E != 0) = true := by simpa using h7
            clear h3' h5' h7 h4 hA hB HTw HI HJ HEa HEb
            have y0 := HK.out.res.c0
            have y1 := HK.out.res.c1
            have y2 := HK.out.res.c2
            have y3 := HK.out.res.c3
            have y4 := HK.out.res.c4
            have f0 := HK.out.res.fr 0
            have f1 := HK.out.res.fr 1
            have f2 := HK.out.res.fr 2
            have f3 := HK.out.res.fr 3
            have f4 := HK.out.res.fr 4
            have HS := Lib.hid (HK.out.res.set 0 0 0 0 (.slice none 0 0))
            have z0 := HS.out.c0
            have z1 := HS.out.c1
            have z2 := HS.out.c2
            have z3 := HS.out.c3
            have z4 := HS.out.c4
            go_enter Tryd.func17, Tryd.ntmps17
            go_wp2_with (first
              | (go_at_call 20; (with_reducible refine (HAr.out _).mono ?_); rintro e wz ⟨rfl, rfl⟩)
              | (go_at_call 21; (with_reducible refine (HCb.out _ HK.out.rb).mono ?_); rintro e wz ⟨rfl, hb⟩; clear y0 f0 y1 f1 y2 f2 y3 f3 y4 f4 HS z0 z1 z2 z3 z4; have HK2 := Lib.hid (HK.out.next hb); clear HK x0 x1 x2 x3 x4 t0' t1' t2' t3' t4'; have HK := HK2; clear HK2; clear hb; have x0 := HK.out.ba.c0; have x1 := HK.out.ba.c1; have x2 := HK.out.ba.c2; have x3 := HK.out.ba.c3; have x4 := HK.out.ba.c4; have t0' := HK.out.bb.c0; have t1' := HK.out.bb.c1; have t2' := HK.out.bb.c2; have t3' := HK.out.bb.c3; have t4' := HK.out.bb.c4; have y0 := HK.out.res.c0; have y1 := HK.out.res.c1; have y2 := HK.out.res.c2; have y3 := HK.out.res.c3; have y4 := HK.out.res.c4; have f0 := HK.out.res.fr 0; have f1 := HK.out.res.fr 1; have f2 := HK.out.res.fr 2; have f3 := HK.out.res.fr 3; have f4 := HK.out.res.fr 4; have HS := Lib.hid (HK.out.res.set 0 0 0 0 (.slice none 0 0)); have z0 := HS.out.c0; have z1 := HS.out.c1; have z2 := HS.out.c2; have z3 := HS.out.c3; have z4 := HS.out.c4)
              | (go_at_call 21; (with_reducible refine (HCa.out _ HK.out.ra).mono ?_); rintro e wz ⟨rfl, hb⟩; clear y0 f0 y1 f1 y2 f2 y3 f3 y4 f4 HS z0 z1 z2 z3 z4; have HK2 := Lib.hid (HK.out.next hb); clear HK x0 x1 x2 x3 x4 t0' t1' t2' t3' t4'; have HK := HK2; clear HK2; clear hb; have x0 := HK.out.ba.c0; have x1 := HK.out.ba.c1; have x2 := HK.out.ba.c2; have x3 := HK.out.ba.c3; have x4 := HK.out.ba.c4; have t0' := HK.out.bb.c0; have t1' := HK.out.bb.c1; have t2' := HK.out.bb.c2; have t3' := HK.out.bb.c3; have t4' := HK.out.bb.c4; have y0 := HK.out.res.c0; have y1 := HK.out.res.c1; have y2 := HK.out.res.c2; have y3 := HK.out.res.c3; have y4 := HK.out.res.c4; have f0 := HK.out.res.fr 0; have f1 := HK.out.res.fr 1; have f2 := HK.out.res.fr 2; have f3 := HK.out.res.fr 3; have f4 := HK.out.res.fr 4; have HS := Lib.hid (HK.out.res.set 0 0 0 0 (.slice none 0 0)); have z0 := HS.out.c0; have z1 := HS.out.c1; have z2 := HS.out.c2; have z3 := HS.out.c3; have z4 := HS.out.c4)
              | (go_at_call 47; (with_reducible refine (HKi.out _ HK.out.ra HK.out.rb).mono ?_); rintro e wz ⟨rfl, hb⟩; clear y0 f0 y1 f1 y2 f2 y3 f3 y4 f4 HS z0 z1 z2 z3 z4; have HK2 := Lib.hid (HK.out.next hb); clear HK x0 x1 x2 x3 x4 t0' t1' t2' t3' t4'; have HK := HK2; clear HK2; clear hb; have x0 := HK.out.ba.c0; have x1 := HK.out.ba.c1; have x2 := HK.out.ba.c2; have x3 := HK.out.ba.c3; have x4 := HK.out.ba.c4; have t0' := HK.out.bb.c0; have t1' := HK.out.bb.c1; have t2' := HK.out.bb.c2; have t3' := HK.out.bb.c3; have t4' := HK.out.bb.c4; have y0 := HK.out.res.c0; have y1 := HK.out.res.c1; have y2 := HK.out.res.c2; have y3 := HK.out.res.c3; have y4 := HK.out.res.c4; have f0 := HK.out.res.fr 0; have f1 := HK.out.res.fr 1; have f2 := HK.out.res.fr 2; have f3 := HK.out.res.fr 3; have f4 := HK.out.res.fr 4; have HS := Lib.hid (HK.out.res.set 0 0 0 0 (.slice none 0 0)); have z0 := HS.out.c0; have z1 := HS.out.c1; have z2 := HS.out.c2; have z3 := HS.out.c3; have z4 := HS.out.c4)
              | (go_at_call 19; (with_reducible refine (HLn.out _ HK.out.lay HK.out.ra HK.out.rb).mono ?_); rintro e wz ⟨rfl, hb⟩; clear y0 f0 y1 f1 y2 f2 y3 f3 y4 f4 HS z0 z1 z2 z3 z4; have HK2 := Lib.hid ((HK.out.next hb).next (bel1 _ (.cells #[.int .i64 0, .int .i64 0] 22))); clear HK x0 x1 x2 x3 x4 t0' t1' t2' t3' t4'; have HK := HK2; clear HK2; clear hb; have x0 := HK.out.ba.c0; have x1 := HK.out.ba.c1; have x2 := HK.out.ba.c2; have x3 := HK.out.ba.c3; have x4 := HK.out.ba.c4; have t0' := HK.out.bb.c0; have t1' := HK.out.bb.c1; have t2' := HK.out.bb.c2; have t3' := HK.out.bb.c3; have t4' := HK.out.bb.c4; have y0 := HK.out.res.c0; have y1 := HK.out.res.c1; have y2 := HK.out.res.c2; have y3 := HK.out.res.c3; have y4 := HK.out.res.c4; have f0 := HK.out.res.fr 0; have f1 := HK.out.res.fr 1; have f2 := HK.out.res.fr 2; have f3 := HK.out.res.fr 3; have f4 := HK.out.res.fr 4; have HS := Lib.hid (HK.out.res.set 0 0 0 0 (.slice none 0 0)); have z0 := HS.out.c0; have z1 := HS.out.c1; have z2 := HS.out.c2; have z3 := HS.out.c3; have z4 := HS.out.c4)
              | fail)
            refine bodyPost_ret (v := .tuple #[A5 0 0 0 0 (.slice none 0 0), .int .i64 E]) (by simp [results, Tryd.results17, go_sem, z0, z1, z2, z3, z4]) rfl ?_
            exact retE_no _ (st5_below _ _ _ _ _ (by omega) HK.out.bel)
          · have h7' : boE A B = 0 := by omega
            obtain ⟨e0, _, e2⟩ := ln_of h3' h5' h7'
            obtain ⟨e3, e4, e5⟩ := e2 rfl
            rw [e0, e3, e4, e5] at HLn
            have HX : Hid (twV p A B = exV 0 (boV A B) (c2 p A B)) := by unfold Hid twV; rw [h4, h7']
            have HY : Hid (twE p A B = feL (c2 p A B)) := by unfold Hid twE; rw [h4, h7']; exact exE_ok _
            have HOV : Hid (feL (c2 p A B) = 0 → exV 0 (boV A B) (c2 p A B) = ⟨1, (boV A B).r, (boV A B).a, (boV A B).b, vsL (c2 p A B)⟩) := exV_ok
            have HOB : Hid (feL (c2 p A B) ≠ 0 → exV 0 (boV A B) (c2 p A B) = Ar.no) := exV_bad
            have HAt : Hid (∀ j, j < (boV A B).z.length → (c2 p A B)[j]? = some (Sc.twoV p (celI A j) (celI B j))) := fun j hj => c2_at hj
            have HLc : Hid ((c2 p A B).length = (boV A B).z.length) := c2_len p A B
            have HBl : Hid (∀ j, j < (boV A B).z.length → (if A.r = 0 then 0 else j) < A.z.length ∧ (if B.r = 0 then 0 else j) < B.z.length) := fun j hj => bo_lt hA hB h7' hj
            have h400 := (bo_good hA hB).len4
            have hmany := bo_many hA hB
            clear e0 e2 e3 e4 e5 h3' h5' h7 h7' h4 hA hB
            generalize exV 0 (boV A B) (c2 p A B) = X at HX HOV HOB
            generalize c2 p A B = cs at HY HOV HOB HAt HLc
            generalize boV A B = L at HLn HOV HAt HLc HBl h400 hmany
            obtain ⟨lk, lr, la, lb, lz⟩ := L
            simp only at HLn HOV HAt HLc HBl h400 hmany
            obtain ⟨n, hn⟩ : ∃ n, lz.length = n := ⟨_, rfl⟩
            rw [hn] at HAt HLc HBl h400 hmany
            clear hn
            have HMn := Lib.hid hmany
            by_cases hr : A.r = 0
            all_goals
              first
                | (have k5 : (A.r == 0) = true := by simpa using hr
                   rw [if_pos hr] at hmany)
                | (have k5 : (A.r == 0) = false := by simpa using hr
                   rw [if_neg hr] at hmany)
              clear hr HMn
              go_enter Tryd.func17, Tryd.ntmps17
              go_wp2_with (first
                | (go_at_call 20; (with_reducible refine (HAr.out _).mono ?_); rintro e wz ⟨rfl, rfl⟩)
                | (go_at_call 21; (with_reducible refine (HCb.out _ HK.out.rb).mono ?_); rintro e wz ⟨rfl, hb⟩; have HK2 := Lib.hid (HK.out.next hb); clear HK x0 x1 x2 x3 x4 t0' t1' t2' t3' t4'; have HK := HK2; clear HK2; clear hb; have x0 := HK.out.ba.c0; have x1 := HK.out.ba.c1; have x2 := HK.out.ba.c2; have x3 := HK.out.ba.c3; have x4 := HK.out.ba.c4; have t0' := HK.out.bb.c0; have t1' := HK.out.bb.c1; have t2' := HK.out.bb.c2; have t3' := HK.out.bb.c3; have t4' := HK.out.bb.c4)
                | (go_at_call 21; (with_reducible refine (HCa.out _ HK.out.ra).mono ?_); rintro e wz ⟨rfl, hb⟩; have HK2 := Lib.hid (HK.out.next hb); clear HK x0 x1 x2 x3 x4 t0' t1' t2' t3' t4'; have HK := HK2; clear HK2; clear hb; have x0 := HK.out.ba.c0; have x1 := HK.out.ba.c1; have x2 := HK.out.ba.c2; have x3 := HK.out.ba.c3; have x4 := HK.out.ba.c4; have t0' := HK.out.bb.c0; have t1' := HK.out.bb.c1; have t2' := HK.out.bb.c2; have t3' := HK.out.bb.c3; have t4' := HK.out.bb.c4)
                | (go_at_call 47; (with_reducible refine (HKi.out _ HK.out.ra HK.out.rb).mono ?_); rintro e wz ⟨rfl, hb⟩; have HK2 := Lib.hid (HK.out.next hb); clear HK x0 x1 x2 x3 x4 t0' t1' t2' t3' t4'; have HK := HK2; clear HK2; clear hb; have x0 := HK.out.ba.c0; have x1 := HK.out.ba.c1; have x2 := HK.out.ba.c2; have x3 := HK.out.ba.c3; have x4 := HK.out.ba.c4; have t0' := HK.out.bb.c0; have t1' := HK.out.bb.c1; have t2' := HK.out.bb.c2; have t3' := HK.out.bb.c3; have t4' := HK.out.bb.c4)
                | (go_at_call 19; (with_reducible refine (HLn.out _ HK.out.lay HK.out.ra HK.out.rb).mono ?_); rintro e w1 ⟨rfl, hb⟩; have HK2 := Lib.hid ((HK.out.next hb).next (bel1 _ (.cells #[.int .i64 la, .int .i64 lb] 22))); clear HK x0 x1 x2 x3 x4 t0' t1' t2' t3' t4'; have HK := HK2; clear HK2; clear hb; have x0 := HK.out.ba.c0; have x1 := HK.out.ba.c1; have x2 := HK.out.ba.c2; have x3 := HK.out.ba.c3; have x4 := HK.out.ba.c4; have t0' := HK.out.bb.c0; have t1' := HK.out.bb.c1; have t2' := HK.out.bb.c2; have t3' := HK.out.bb.c3; have t4' := HK.out.bb.c4; have v1 := (HK.out.next (bel1 _ (.cells #[.int .i64 1, .int .i64 lr, .int .i64 la, .int .i64 lb, .slice none 0 0] 25))).ba.c1; have v4 := (HK.out.next (bel1 _ (.cells #[.int .i64 1, .int .i64 lr, .int .i64 la, .int .i64 lb, .slice none 0 0] 25))).ba.c4; have w4' := (HK.out.next (bel1 _ (.cells #[.int .i64 1, .int .i64 lr, .int .i64 la, .int .i64 lb, .slice none 0 0] 25))).bb.c4)
                | fail)
              have hs2 : (w1.alloc (.cells #[.int .i64 la, .int .i64 lb] 22)).heap.size = w1.heap.size + 1 := by simp
              have hw0 : w.heap.size + 2 < w1.heap.size + 1 := by
                have := HK.out.res.lt
                rw [hs2] at this
                exact this
              generalize w1.alloc (.cells #[.int .i64 la, .int .i64 lb] 22) = w2 at HK hs2 v1 v4 w4' ⊢
              have HB0 : Hid (Below (w1.heap.size + 1) w2 (w2.alloc (.cells #[.int .i64 1, .int .i64 lr, .int .i64 la, .int .i64 lb, .slice none 0 0] 25))) := by rw [← hs2]; exact bel1 _ _
              have HO0 : Hid (R5 (w2.alloc (.cells #[.int .i64 1, .int .i64 lr, .int .i64 la, .int .i64 lb, .slice none 0 0] 25)) (w1.heap.size + 1) 1 lr la lb (.slice none 0 0)) := by rw [← hs2]; exact R5.new _ _ _ _ _ _
              clear HAr HCa HCb HKi HLn v1 v4 w4' x0 x1 x2 x3 x4 t0' t1' t2' t3' t4'
              go_loopg [14] n (fun g i wr => ∃ (j : Nat) (u : Value), j + g = n ∧ i = .int .i64 j ∧ okT cs j ∧ Below (w1.heap.size + 1) w2 wr ∧ R5 wr (w1.heap.size + 1) 1 lr la lb u ∧ Ru.Ins 2 wr (w1.heap.size + 2) u ((vsL cs).take j))
              case atStart => exact ⟨0, _, by omega, rfl, okT_zero _, HB0.out, HO0.out, ins_nil _ _⟩
              case round =>
                obtain ⟨j, u, hjg, rfl, hok, hbl, h5, hin⟩ := hrel
                have HOk := Lib.hid hok
                have HB := Lib.hid hbl
                have HO := Lib.hid h5
                have HN := Lib.hid hin
                have HM := Lib.hid (HK.out.next (by rw [hs2]; exact hbl))
                clear hok hbl h5 hin HB0 HO0
                cases gk with
                | zero =>
                  have hjz : ¬ ((j : Int) < (n : Int)) := by omega
                  have hjz2 := hjz
                  rw [hmany] at hjz2
                  have HZ : Hid (feL cs = 0) := okT_all HOk.out (by rw [HLc.out]; omega)
                  have HU : Hid (RdN (w1.heap.size + 2) wr u (vsL cs)) := by
                    have h := ins_new HN.out
                    rwa [List.take_of_length_le (by rw [vsL_len, HLc.out]; omega)] at h
                  clear HOk HN HK
                  obtain ⟨qu, cu, hqu, hu1, hu2⟩ := HU.out.form
                  subst hqu
                  clear hu1 hu2
                  have o0 := HO.out.c0; have o1 := HO.out.c1; have o2 := HO.out.c2; have o3 := HO.out.c3; have o4 := HO.out.c4
                  have y0 := HM.out.res.c0; have y1 := HM.out.res.c1; have y2 := HM.out.res.c2; have y3 := HM.out.res.c3; have y4 := HM.out.res.c4; have f0 := HM.out.res.fr 0; have f1 := HM.out.res.fr 1; have f2 := HM.out.res.fr 2; have f3 := HM.out.res.fr 3; have f4 := HM.out.res.fr 4
                  have HS := Lib.hid (HM.out.res.set 1 lr la lb (.slice qu (vsL cs).length cu))
                  have z0 := HS.out.c0; have z1 := HS.out.c1; have z2 := HS.out.c2; have z3 := HS.out.c3; have z4 := HS.out.c4
                  go_wp2_with fail
                  refine bodyPost_ret (v := .tuple #[A5 1 lr la lb (.slice qu (vsL cs).length cu), .int .i64 0]) (by simp [results, Tryd.results17, go_sem, z0, z1, z2, z3, z4]) rfl ?_
                  rw [HX.out, HY.out, HOV.out HZ.out, HZ.out]
                  exact ⟨_, rfl, (HU.out.st5 (by omega) _ _ _ _ _).mono (by omega), st5_below _ _ _ _ _ (by omega) HM.out.bel⟩
                | succ g =>
                  have hjz : (j : Int) < (n : Int) := by omega
                  have hjz2 := hjz
                  rw [hmany] at hjz2
                  have hj : j < n := by omega
                  have hcs := HAt.out j hj
                  have hbl := HBl.out j hj
                  have hia : Sc.inr (celI A j) = true := HI.out.get _
                  have hib : Sc.inr (celI B j) = true := HJ.out.get _
                  have HEa1 := Lib.hid (fun W h => HEa.out j W h hbl.1)
                  have HEb1 := Lib.hid (fun W h => HEb.out j W h hbl.2)
                  generalize celI A j = x at HEa1 hcs hia
                  generalize celI B j = y at HEb1 hcs hib
                  have HC := Lib.hid (fun W => HTw.out x y W hia hib)
                  generalize Sc.twoV p x y = c at HC hcs
                  obtain ⟨c, E⟩ := c
                  simp only at HC
                  clear hia hib hbl
                  have x0 := HM.out.ba.c0; have x1 := HM.out.ba.c1; have x2 := HM.out.ba.c2; have x3 := HM.out.ba.c3; have x4 := HM.out.ba.c4; have t0' := HM.out.bb.c0; have t1' := HM.out.bb.c1; have t2' := HM.out.bb.c2; have t3' := HM.out.bb.c3; have t4' := HM.out.bb.c4
                  go_wp2_with fail
                  clear x0 x1 x2 x3 x4 t0' t1' t2' t3' t4'
                  go_cut [15, 16] (fun sx se wx => sx = .int .i64 c ∧ se = .int .i64 E ∧ Below wr.heap.size wr wx)
                  case first =>
                    as_aux_lemma =>
                      have HAll : Hid (∀ W, Below wr.heap.size wr W → (fun W => Below wr.heap.size wr W ∧ W.cell? ⟨w.heap.size, 0, none⟩ = some (.int .i64 A.k) ∧ W.cell? ⟨w.heap.size, 1, none⟩ = some (.int .i64 A.r) ∧ W.cell? ⟨w.heap.size, 2, none⟩ = some (.int .i64 A.a) ∧ W.cell? ⟨w.heap.size, 3, none⟩ = some (.int .i64 A.b) ∧ W.cell? ⟨w.heap.size, 4, none⟩ = some ((.slice q A.z.length cap)) ∧ W.cell? ⟨w.heap.size + 1, 0, none⟩ = some (.int .i64 B.k) ∧ W.cell? ⟨w.heap.size + 1, 1, none⟩ = some (.int .i64 B.r) ∧ W.cell? ⟨w.heap.size + 1, 2, none⟩ = some (.int .i64 B.a) ∧ W.cell? ⟨w.heap.size + 1, 3, none⟩ = some (.int .i64 B.b) ∧ W.cell? ⟨w.heap.size + 1, 4, none⟩ = some ((.slice q' B.z.length cap'))) W) := fun W h => ⟨h, (HM.out.next h).ba.c0, (HM.out.next h).ba.c1, (HM.out.next h).ba.c2, (HM.out.next h).ba.c3, (HM.out.next h).ba.c4, (HM.out.next h).bb.c0, (HM.out.next h).bb.c1, (HM.out.next h).bb.c2, (HM.out.next h).bb.c3, (HM.out.next h).bb.c4⟩
                      clear HX HY HOV HOB HAt HLc HBl HOk HB HO HN HK HI HJ HEa HEb HTw hcs
                      refine wp_region_held_drew (S := (fun W => Below wr.heap.size wr W ∧ W.cell? ⟨w.heap.size, 0, none⟩ = some (.int .i64 A.k) ∧ W.cell? ⟨w.heap.size, 1, none⟩ = some (.int .i64 A.r) ∧ W.cell? ⟨w.heap.size, 2, none⟩ = some (.int .i64 A.a) ∧ W.cell? ⟨w.heap.size, 3, none⟩ = some (.int .i64 A.b) ∧ W.cell? ⟨w.heap.size, 4, none⟩ = some ((.slice q A.z.length cap)) ∧ W.cell? ⟨w.heap.size + 1, 0, none⟩ = some (.int .i64 B.k) ∧ W.cell? ⟨w.heap.size + 1, 1, none⟩ = some (.int .i64 B.r) ∧ W.cell? ⟨w.heap.size + 1, 2, none⟩ = some (.int .i64 B.a) ∧ W.cell? ⟨w.heap.size + 1, 3, none⟩ = some (.int .i64 B.b) ∧ W.cell? ⟨w.heap.size + 1, 4, none⟩ = some ((.slice q' B.z.length cap')))) (by kernel_rfl) ?_ (fun hHeld => ?_)
                      · exact HAll.out _ (Below.refl _ _).drew
                      have HB0 : Hid (Below wr.heap.size wr (World.drew wr)) := (Below.refl _ _).drew
                      generalize World.drew wr = wd at hHeld HB0 ⊢
                      refine wpAnyH_take (i := 0) (v := ?_) rfl (by kernel_rfl) (by kernel_rfl) (by kernel_rfl) (fun _ _ _ h => h) (Or.inl ⟨by rfl, ?_⟩) (by assumption) ?_
                      rotate_left
                      · ((intro w0 hSw); (try dsimp only at hSw); go_simp; (try with_reducible rfl))
                      change wpAnyH _ _ _ _ _ _ _ (Act.put _ (some 74) _) _
                      try simp only [Act.put, List.setIfInBounds_toArray, List.set_cons_zero, List.set_cons_succ]
                      refine wpAnyH_take (i := 1) (v := ?_) rfl (by kernel_rfl) (by kernel_rfl) (by kernel_rfl) (fun _ _ _ h => h) (Or.inl ⟨by rfl, ?_⟩) (by assumption) ?_
                      rotate_left
                      · ((intro w0 hSw); (try dsimp only at hSw); go_simp; (try with_reducible rfl))
                      change wpAnyH _ _ _ _ _ _ _ (Act.put _ (some 75) _) _
                      try simp only [Act.put, List.setIfInBounds_toArray, List.set_cons_zero, List.set_cons_succ]
                      refine wpAnyH_take (i := 2) (v := ?_) rfl (by kernel_rfl) (by kernel_rfl) (by kernel_rfl) (fun _ _ _ h => h) (Or.inl ⟨by rfl, ?_⟩) (by assumption) ?_
                      rotate_left
                      · ((intro w0 hSw); (try dsimp only at hSw); go_simp; (try with_reducible rfl))
                      change wpAnyH _ _ _ _ _ _ _ (Act.put _ (some 76) _) _
                      try simp only [Act.put, List.setIfInBounds_toArray, List.set_cons_zero, List.set_cons_succ]
                      refine wpAnyH_take (i := 4) (v := ?_) rfl (by kernel_rfl) (by kernel_rfl) (by kernel_rfl) (fun _ _ _ h => h) (Or.inl ⟨by rfl, ?_⟩) (by assumption) ?_
                      rotate_left
                      · ((intro w0 hSw); (try dsimp only at hSw); go_simp; (try with_reducible rfl))
                      change wpAnyH _ _ _ _ _ _ _ (Act.put _ (some 78) _) _
                      try simp only [Act.put, List.setIfInBounds_toArray, List.set_cons_zero, List.set_cons_succ]
                      refine wpAnyH_take (i := 5) (v := ?_) rfl (by kernel_rfl) (by kernel_rfl) (by kernel_rfl) (fun _ _ _ h => h) (Or.inl ⟨by rfl, ?_⟩) (by assumption) ?_
                      rotate_left
                      · ((intro w0 hSw); (try dsimp only at hSw); go_simp; (try with_reducible rfl))
                      change wpAnyH _ _ _ _ _ _ _ (Act.put _ (some 79) _) _
                      try simp only [Act.put, List.setIfInBounds_toArray, List.set_cons_zero, List.set_cons_succ]
                      refine wpAnyH_ready (rs := [3]) (by kernel_rfl) (by simp) ?_
                      refine AllReadyH.cons rfl (fun K hK => ?_) (AllReadyH.nil)
                      go_simp
                      go_at_call 48
                      with_reducible refine (HEa1.out _ (HM.out.next HB0.out).ra).mono ?_
                      rintro e wn ⟨rfl, hb⟩
                      have HB1 := Lib.hid (HB0.out.trans (hb.mono HB0.out.size))
                      clear hb
                      refine hK.out _ _ ?_ (fun hHeld2 => ?_)
                      · exact HAll.out _ HB1.out
                      clear hK K hHeld
                      have hHeld := hHeld2; clear hHeld2
                      try change wpAnyH _ _ _ _ _ _ _ (Act.put _ (some 77) _) _
                      try dsimp only
                      try simp only [Act.put, List.setIfInBounds_toArray, List.set_cons_zero, List.set_cons_succ]
                      refine wpAnyH_ready (rs := [6]) (by kernel_rfl) (by simp) ?_
                      refine AllReadyH.cons rfl (fun K hK => ?_) (AllReadyH.nil)
                      go_simp
                      go_at_call 48
                      with_reducible refine (HEb1.out _ (HM.out.next HB1.out).rb).mono ?_
                      rintro e wn ⟨rfl, hb⟩
                      have HB2 := Lib.hid (HB1.out.trans (hb.mono HB1.out.size))
                      clear hb
                      refine hK.out _ _ ?_ (fun hHeld2 => ?_)
                      · exact HAll.out _ HB2.out
                      clear hK K hHeld
                      have hHeld := hHeld2; clear hHeld2
                      try change wpAnyH _ _ _ _ _ _ _ (Act.put _ (some 80) _) _
                      try dsimp only
                      try simp only [Act.put, List.setIfInBounds_toArray, List.set_cons_zero, List.set_cons_succ]
                      refine wpAnyH_ready (rs := [7]) (by kernel_rfl) (by simp) ?_
                      refine AllReadyH.cons rfl (fun K hK => ?_) (AllReadyH.nil)
                      go_simp
                      go_at_call 22
                      with_reducible refine (HC.out _).mono ?_
                      rintro e wn ⟨rfl, hb⟩
                      have HB3 := Lib.hid (HB2.out.trans (hb.mono HB2.out.size))
                      clear hb
                      refine hK.out _ _ ?_ (fun hHeld2 => ?_)
                      · exact HAll.out _ HB3.out
                      clear hK K hHeld
                      have hHeld := hHeld2; clear hHeld2
                      try change wpAnyH _ _ _ _ _ _ _ (Act.put _ (some 81) _) _
                      try dsimp only
                      try simp only [Act.put, List.setIfInBounds_toArray, List.set_cons_zero, List.set_cons_succ]
                      refine wpAnyH_take (i := 8) (v := ?_) rfl (by kernel_rfl) (by kernel_rfl) (by kernel_rfl) (fun _ _ _ h => h) (Or.inl ⟨by rfl, ?_⟩) (by assumption) ?_
                      rotate_left
                      · ((intro w0 hSw); (try dsimp only at hSw); go_simp; (try with_reducible rfl))
                      change wpAnyH _ _ _ _ _ _ _ (Act.put _ (some 73) _) _
                      try simp only [Act.put, List.setIfInBounds_toArray, List.set_cons_zero, List.set_cons_succ]
                      refine wpAnyH_take (i := 9) (v := ?_) rfl (by kernel_rfl) (by kernel_rfl) (by kernel_rfl) (fun _ _ _ h => h) (Or.inl ⟨by rfl, ?_⟩) (by assumption) ?_
                      rotate_left
                      · ((intro w0 hSw); (try dsimp only at hSw); go_simp; (try with_reducible rfl))
                      change wpAnyH _ _ _ _ _ _ _ (Act.put _ (some 82) _) _
                      try simp only [Act.put, List.setIfInBounds_toArray, List.set_cons_zero, List.set_cons_succ]
                      refine wpAnyH_take (i := 10) (v := ?_) rfl (by kernel_rfl) (by kernel_rfl) (by kernel_rfl) (fun _ _ _ h => h) (Or.inl ⟨by rfl, ?_⟩) (by assumption) ?_
                      rotate_left
                      · ((intro w0 hSw); (try dsimp only at hSw); go_simp; (try with_reducible rfl))
                      change wpAnyH _ _ _ _ _ _ _ (Act.put _ (some 83) _) _
                      try simp only [Act.put, List.setIfInBounds_toArray, List.set_cons_zero, List.set_cons_succ]
                      refine wpAnyH_take (i := 11) (v := ?_) rfl (by kernel_rfl) (by kernel_rfl) (by kernel_rfl) (fun _ _ _ h => h) (Or.inl ⟨by rfl, ?_⟩) (by assumption) ?_
                      rotate_left
                      · ((intro w0 hSw); (try dsimp only at hSw); go_simp; (try with_reducible rfl))
                      change wpAnyH _ _ _ _ _ _ _ (Act.put _ (some 15) _) _
                      try simp only [Act.put, List.setIfInBounds_toArray, List.set_cons_zero, List.set_cons_succ]
                      refine wpAnyH_take (i := 12) (v := ?_) rfl (by kernel_rfl) (by kernel_rfl) (by kernel_rfl) (fun _ _ _ h => h) (Or.inl ⟨by rfl, ?_⟩) (by assumption) ?_
                      rotate_left
                      · ((intro w0 hSw); (try dsimp only at hSw); go_simp; (try with_reducible rfl))
                      change wpAnyH _ _ _ _ _ _ _ (Act.put _ (some 16) _) _
                      try simp only [Act.put, List.setIfInBounds_toArray, List.set_cons_zero, List.set_cons_succ]
                      refine wpAnyH_done (by kernel_rfl) ?_ _
                      go_wp2_with fail
                      go_meet
                      case rel => exact ⟨rfl, rfl, HB3.out⟩
                  case rest =>
                    obtain ⟨rfl, rfl, hbx⟩ := hcut
                    have HM2 := Lib.hid (HM.out.next hbx)
                    have HO2 := Lib.hid (HO.out.next hbx)
                    have HN2 := Lib.hid (ins_next10 HN.out hbx)
                    have HB2 := Lib.hid (HB.out.trans (hbx.mono (Nat.le_of_lt HO.out.lt)))
                    clear HM HO HN HB hbx HC HEa1 HEb1
                    by_cases hE : E = 0
                    · subst hE
                      have HOk2 : Hid (okT cs (j + 1)) := okT_next HOk.out hcs
                      have HTk : Hid ((vsL cs).take j ++ [c] = (vsL cs).take (j + 1)) := take_vs hcs
                      have hlen : ((vsL cs).take j).length + 1 ≤ 1000000 := by rw [List.length_take, vsL_len, HLc.out]; omega
                      have o4 := HO2.out.c4
                      have hsz2 : w1.heap.size + 2 ≤ wc.heap.size := HO2.out.lt
                      generalize (vsL cs).take j = T at HN2 HTk hlen
                      clear hcs HOk HAt HLc HBl HTw HEa HEb HI HJ HX HY HOV HOB HK
                      go_wp2_with (first
                        | (at_builtin; refine wpList_app1 (by simp [Region.wanted]) _ _ rfl (w1.heap.size + 2) _ T rfl HN2.out c rfl hlen hsz2 ?_; intro u2 w3 hu2 hb2; obtain ⟨qa, qc, hq2, _, _⟩ := (ins_new hu2).form; rw [List.length_append, List.length_singleton] at hq2; subst hq2; have HO3 : Hid (R5 w3 (w1.heap.size + 1) 1 lr la lb u) := HO2.out.below (by omega) hb2; have HB3 := Lib.hid (HB2.out.trans (hb2.mono (by omega))); have HN3 := Lib.hid hu2; have p4 := HO3.out.c4; have pf := HO3.out.fr 4; clear hu2 hb2 o4)
                        | fail)
                      go_roundg g
                      case measure => omega
                      case rel => exact ⟨j + 1, _, by omega, by go_num, HOk2.out, HB3.out.setCell (p := ⟨w1.heap.size + 1, 4, none⟩) (Nat.le_refl _) _, HO3.out.put4 _, by rw [← HTk.out]; exact ins_far HN3.out (by omega) _ _⟩
                    · have HFe : Hid (feL cs = E) := okT_bad HOk.out hcs hE
                      have HNz := Lib.hid hE
                      have k2' : (E != 0) = true := by simpa using hE
                      have y0 := HM2.out.res.c0; have y1 := HM2.out.res.c1; have y2 := HM2.out.res.c2; have y3 := HM2.out.res.c3; have y4 := HM2.out.res.c4; have f0 := HM2.out.res.fr 0; have f1 := HM2.out.res.fr 1; have f2 := HM2.out.res.fr 2; have f3 := HM2.out.res.fr 3; have f4 := HM2.out.res.fr 4
                      have HS := Lib.hid (HM2.out.res.set 0 0 0 0 (.slice none 0 0))
                      have z0 := HS.out.c0; have z1 := HS.out.c1; have z2 := HS.out.c2; have z3 := HS.out.c3; have z4 := HS.out.c4
                      clear hcs HOk HAt HLc HBl HTw HEa HEb HI HJ hE HN2 HK
                      go_wp2_with fail
                      refine bodyPost_ret (v := .tuple #[A5 0 0 0 0 (.slice none 0 0), .int .i64 E]) (by simp [results, Tryd.results17, go_sem, z0, z1, z2, z3, z4]) rfl ?_
                      rw [HX.out, HY.out, HOB.out (by rw [HFe.out]; exact HNz.out), HFe.out]
                      exact retE_no _ (st5_below _ _ _ _ _ (by omega) HM2.out.bel)
end Go.Proofs.YtmmnoldhiobgdaaDoor
