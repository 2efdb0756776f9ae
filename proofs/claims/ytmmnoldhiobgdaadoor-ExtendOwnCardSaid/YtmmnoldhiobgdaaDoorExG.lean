/- Lens of the code. -/
import Derived.Test.YtmmnoldhiobgdaaDoorExF
namespace Go.Proofs.YtmmnoldhiobgdaaDoor
open Go.RowKit

/-- What Lens' walk keeps. -/
structure KLn (w : World) (A : Ar) (v : Value) (B : Ar) (u : Value) (W : World) : Prop where
  bel : Below w.heap.size w W
  ba : R5 W w.heap.size A.k A.r A.a A.b v
  bb : R5 W (w.heap.size + 1) B.k B.r B.a B.b u
  res : R2 W (w.heap.size + 2) 0 0
  ra : RdI W.heap.size W v A.z
  rb : RdI W.heap.size W u B.z
  lay : Ru.Lay W
theorem KLn.next {w W W' : World} {A B : Ar} {v u : Value} (h : KLn w A v B u W) (hb : Below W.heap.size W W') : KLn w A v B u W' :=
  ⟨h.bel.trans (hb.mono h.bel.size), h.ba.next hb, h.bb.next hb, h.res.next hb, h.ra.next hb, h.rb.next hb, h.lay.next hb⟩
theorem KLn.new {w : World} {v u : Value} {A B : Ar} (hw : Ru.Lay w) (hv : RdI w.heap.size w v A.z) (hu : RdI w.heap.size w u B.z) : KLn w A v B u (((w.alloc (.cells #[.int .i64 A.k, .int .i64 A.r, .int .i64 A.a, .int .i64 A.b, v] 25)).alloc (.cells #[.int .i64 B.k, .int .i64 B.r, .int .i64 B.a, .int .i64 B.b, u] 25)).alloc (.cells #[.int .i64 0, .int .i64 0] 22)) := by
  have h2 := bel1 w (.cells #[.int .i64 A.k, .int .i64 A.r, .int .i64 A.a, .int .i64 A.b, v] 25)
  have s2 : (w.alloc (.cells #[.int .i64 A.k, .int .i64 A.r, .int .i64 A.a, .int .i64 A.b, v] 25)).heap.size = w.heap.size + 1 := by simp
  have ha := R5.new w A.k A.r A.a A.b v
  generalize w.alloc (.cells #[.int .i64 A.k, .int .i64 A.r, .int .i64 A.a, .int .i64 A.b, v] 25) = w2 at h2 s2 ha ⊢
  have h3 := bel1 w2 (.cells #[.int .i64 B.k, .int .i64 B.r, .int .i64 B.a, .int .i64 B.b, u] 25)
  have s3 : (w2.alloc (.cells #[.int .i64 B.k, .int .i64 B.r, .int .i64 B.a, .int .i64 B.b, u] 25)).heap.size = w.heap.size + 2 := by simp [s2]
  have hb := R5.new w2 B.k B.r B.a B.b u
  rw [s2] at hb
  generalize w2.alloc (.cells #[.int .i64 B.k, .int .i64 B.r, .int .i64 B.a, .int .i64 B.b, u] 25) = w3 at h3 s3 hb ⊢
  have h4 := bel1 w3 (.cells #[.int .i64 0, .int .i64 0] 22)
  have hr := R2.new w3 0 0
  rw [s3] at hr
  have h13 := h2.trans (h3.mono h2.size)
  exact ⟨h13.trans (h4.mono h13.size), (ha.next h3).next h4, hb.next h4, hr, ((hv.next h2).next h3).next h4, ((hu.next h2).next h3).next h4, ((hw.next h2).next h3).next h4⟩
theorem efault2_new (kd : Bool) (A B : Ar) (v u : Value) (W : World) (g : Nat) (hg : W.heap.size = g) (hw : Ru.Lay W) (hv : RdI W.heap.size W v A.z) (hu : RdI W.heap.size W u B.z) (hl : A.z.length ≤ 1000000) (hl' : B.z.length ≤ 1000000) :
    Calls Tryd.prog 36 #[.bool kd, .slice (some ⟨g, 0, none⟩) 2 2] (W.alloc (.cells #[.int .i64 A.k, .int .i64 A.r, .int .i64 A.a, .int .i64 A.b, v, .int .i64 B.k, .int .i64 B.r, .int .i64 B.a, .int .i64 B.b, u] 25)) fun e w' => e = .returned (.int .i64 (faV kd (if ck A ≠ 0 then ck A else ck B))) ∧ Below W.heap.size W w' := by
  subst hg
  have hb := bel1 W (.cells #[.int .i64 A.k, .int .i64 A.r, .int .i64 A.a, .int .i64 A.b, v, .int .i64 B.k, .int .i64 B.r, .int .i64 B.a, .int .i64 B.b, u] 25)
  have ha := at2_new A B v u W
  exact (efault2_at kd A B v u _ W.heap.size (by simp) ha.1 ha.2 (hw.next hb) (hv.next hb) (hu.next hb) hl hl').mono fun e w' ⟨h1, h2⟩ => ⟨h1, hb.trans (h2.mono hb.size)⟩
theorem ln_bad {A B : Ar} (h : lnF A B ≠ 0) : lnR A B = 0 ∧ lnA A B = 0 ∧ lnB A B = 0 := by unfold lnR lnA lnB; rw [if_neg h, if_neg h, if_neg h]; exact ⟨rfl, rfl, rfl⟩
theorem ln_bo {A B : Ar} (h : lnF A B = boE A B) : lnR A B = (orNo (boE A B) (boV A B)).r ∧ lnA A B = (orNo (boE A B) (boV A B)).a ∧ lnB A B = (orNo (boE A B) (boV A B)).b := by
  unfold lnR lnA lnB
  rw [h]
  by_cases h0 : boE A B = 0
  · rw [if_pos h0, if_pos h0, if_pos h0, orNo_yes h0]; exact ⟨rfl, rfl, rfl⟩
  · rw [if_neg h0, if_neg h0, if_neg h0, orNo_no h0]; exact ⟨rfl, rfl, rfl⟩
set_option maxRecDepth 100000 in
set_option maxHeartbeats 8000000 in
theorem elens_any (A B : Ar) (v u : Value) (w : World) (hw : Ru.Lay w) (hv : RdI w.heap.size w v A.z) (hu : RdI w.heap.size w u B.z) (hl : A.z.length ≤ 1000000) (hl' : B.z.length ≤ 1000000) :
    Calls Tryd.prog 18 #[A5 A.k A.r A.a A.b v, A5 B.k B.r B.a B.b u] w fun e w' => e = .returned (.tuple #[.int .i64 (lnR A B), P2 (lnA A B) (lnB A B), .int .i64 (lnF A B)]) ∧ Below w.heap.size w w' := by
  have HK := Lib.hid (KLn.new (A := A) (B := B) hw hv hu)
  have HFa := Lib.hid (fun W g hg h3 h4 h5 => efault2_new true A B v u W g hg h3 h4 h5 hl hl')
  have HBo := Lib.hid (fun W h1 h2 => eboth_any A B v u W h1 h2)
  obtain ⟨q, cap, rfl, hv1, hv2, hv3⟩ := hv
  obtain ⟨q', cap', rfl, hu1, hu2, hu3⟩ := hu
  clear hv3 hu3 hv2 hu2 hv1 hu1 hw hl hl'
  have HBs := fun W => bs2 A.k A.r A.a A.b q A.z.length cap B.k B.r B.a B.b q' B.z.length cap' W
  have HF := Lib.hid (lnF_fa (A := A) (B := B))
  generalize faV true (if ck A ≠ 0 then ck A else ck B) = E at HF HFa
  have x0 := HK.out.ba.c0; have x1 := HK.out.ba.c1; have x2 := HK.out.ba.c2; have x3 := HK.out.ba.c3; have x4 := HK.out.ba.c4; have t0' := HK.out.bb.c0; have t1' := HK.out.bb.c1; have t2' := HK.out.bb.c2; have t3' := HK.out.bb.c3; have t4' := HK.out.bb.c4
  by_cases h2 : E ≠ 0
  · have h3 : lnF A B = E := by rw [HF.out, if_pos h2]
    obtain ⟨e1, e2, e3⟩ := ln_bad (A := A) (B := B) (by rw [h3]; exact h2)
    rw [h3, e1, e2, e3]
    have k1 : (E != 0) = true := by simpa using h2
    clear h2 h3 e1 e2 e3 HBo HF
    go_enter Tryd.func18, Tryd.ntmps18
    go_wp2_with (first
      | (go_at_call 36; (with_reducible refine (HFa.out _ _ (by first | rfl | simp) HK.out.lay HK.out.ra HK.out.rb).mono ?_); rintro e w2 ⟨rfl, hb⟩; have HK2 := Lib.hid (HK.out.next hb); clear HK x0 x1 x2 x3 x4 t0' t1' t2' t3' t4'; have HK := HK2; clear HK2; clear hb; have x0 := HK.out.ba.c0; have x1 := HK.out.ba.c1; have x2 := HK.out.ba.c2; have x3 := HK.out.ba.c3; have x4 := HK.out.ba.c4; have t0' := HK.out.bb.c0; have t1' := HK.out.bb.c1; have t2' := HK.out.bb.c2; have t3' := HK.out.bb.c3; have t4' := HK.out.bb.c4; have y0 := HK.out.res.c0; have y1 := HK.out.res.c1; have f0 := HK.out.res.fr 0; have f1 := HK.out.res.fr 1; have HS := Lib.hid ((HK.out.res.put0 0).put1 0); have z0 := HS.out.c0; have z1 := HS.out.c1)
      | fail)
    refine bodyPost_ret (v := .tuple #[.int .i64 0, P2 0 0, .int .i64 E]) (by simp [results, Tryd.results18, go_sem, z0, z1]) rfl ?_
    exact ⟨rfl, (HK.out.bel.setCell (p := ⟨w.heap.size + 2, 0, none⟩) (by show w.heap.size ≤ w.heap.size + 2; omega) _).setCell (p := ⟨w.heap.size + 2, 1, none⟩) (by show w.heap.size ≤ w.heap.size + 2; omega) _⟩
  · have h3 : E = 0 := by omega
    subst h3
    have hF : lnF A B = boE A B := by rw [HF.out, if_neg h2]
    obtain ⟨e1, e2, e3⟩ := ln_bo hF
    rw [hF, e1, e2, e3]
    clear h2 hF e1 e2 e3 HF
    generalize orNo (boE A B) (boV A B) = X at HBo ⊢
    generalize boE A B = E2 at HBo ⊢
    obtain ⟨lk, lr, la, lb, lz⟩ := X
    go_enter Tryd.func18, Tryd.ntmps18
    go_wp2_with (first
      | (go_at_call 36; (with_reducible refine (HFa.out _ _ (by first | rfl | simp) HK.out.lay HK.out.ra HK.out.rb).mono ?_); rintro e w2 ⟨rfl, hb⟩; have HK2 := Lib.hid (HK.out.next hb); clear HK x0 x1 x2 x3 x4 t0' t1' t2' t3' t4'; have HK := HK2; clear HK2; clear hb; have x0 := HK.out.ba.c0; have x1 := HK.out.ba.c1; have x2 := HK.out.ba.c2; have x3 := HK.out.ba.c3; have x4 := HK.out.ba.c4; have t0' := HK.out.bb.c0; have t1' := HK.out.bb.c1; have t2' := HK.out.bb.c2; have t3' := HK.out.bb.c3; have t4' := HK.out.bb.c4)
      | (go_at_call 43; (with_reducible refine (HBo.out _ HK.out.ra HK.out.rb).mono ?_); rintro e w3 ⟨ul, rfl, hul, hb⟩; obtain ⟨ql, cl, hql, _, _, _⟩ := hul; have hql2 : ul = .slice ql lz.length cl := hql; subst hql2; clear hql; have HL := Lib.hid (R5.new w3 lk lr la lb (.slice ql lz.length cl)); have HK2 := Lib.hid ((HK.out.next hb).next (bel1 _ (.cells #[.int .i64 lk, .int .i64 lr, .int .i64 la, .int .i64 lb, .slice ql lz.length cl] 25))); clear HK x0 x1 x2 x3 x4 t0' t1' t2' t3' t4' hb; have HK := HK2; clear HK2)
      | fail)
    clear HFa HBs
    generalize w3.alloc _ = W4 at HK HL ⊢
    generalize w3.heap.size = g4 at HL ⊢
    have x1 := HL.out.c1; have x2 := HL.out.c2; have x3 := HL.out.c3
    have y0 := HK.out.res.c0; have y1 := HK.out.res.c1; have f0 := HK.out.res.fr 0; have f1 := HK.out.res.fr 1
    have HS := Lib.hid ((HK.out.res.put0 la).put1 lb); have z0 := HS.out.c0; have z1 := HS.out.c1
    clear HBo
    go_region
    go_wp2_with fail
    refine bodyPost_ret (v := .tuple #[.int .i64 lr, P2 la lb, .int .i64 E2]) (by simp [results, Tryd.results18, go_sem, z0, z1]) rfl ?_
    exact ⟨rfl, ((HK.out.bel.setCell (p := ⟨w.heap.size + 2, 0, none⟩) (by show w.heap.size ≤ w.heap.size + 2; omega) _).setCell (p := ⟨w.heap.size + 2, 1, none⟩) (by show w.heap.size ≤ w.heap.size + 2; omega) _).drew⟩
end Go.Proofs.YtmmnoldhiobgdaaDoor
