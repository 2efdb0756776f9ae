/- Ravel and Reverse of the code. -/
import Derived.Test.YtbeoigmaieiigaaDoorMvF
namespace Go.Proofs.YtbeoigmaieiigaaDoor
open Go.RowKit

/-- What a walk over one array keeps. -/
structure MK1 (w : World) (A : Ar) (v : Value) (W : World) : Prop where
  bel : Below w.heap.size w W
  sz : w.heap.size + 2 ≤ W.heap.size
  box : R5 W w.heap.size A.k A.r A.a A.b v
  res : R5 W (w.heap.size + 1) 0 0 0 0 (.slice none 0 0)
  rd : RdI w.heap.size W v A.z
  lay : Ru.Lay W
theorem MK1.far {w W W' : World} {A : Ar} {v : Value} (h : MK1 w A v W) (hb : Below (w.heap.size + 2) W W') (hl : Ru.Lay W') : MK1 w A v W' :=
  ⟨h.bel.trans (hb.mono (by omega)), Nat.le_trans h.sz hb.size, (hb.block _ (by omega)).trans h.box, (hb.block _ (by omega)).trans h.res, h.rd.below (hb.mono (by omega)), hl⟩
theorem MK1.next {w W W' : World} {A : Ar} {v : Value} (h : MK1 w A v W) (hb : Below W.heap.size W W') : MK1 w A v W' := h.far (hb.mono h.sz) (h.lay.next hb)
theorem MK1.rdn {w W : World} {A : Ar} {v : Value} (h : MK1 w A v W) : RdI W.heap.size W v A.z := h.rd.mono h.bel.size
theorem MK1.new {w : World} {A : Ar} {v : Value} (hw : Ru.Lay w) (hv : RdI w.heap.size w v A.z) : MK1 w A v ((w.alloc (.cells #[.int .i64 A.k, .int .i64 A.r, .int .i64 A.a, .int .i64 A.b, v] 25)).alloc (.cells #[.int .i64 0, .int .i64 0, .int .i64 0, .int .i64 0, .slice none 0 0] 25)) := by
  have e : (w.alloc (.cells #[.int .i64 A.k, .int .i64 A.r, .int .i64 A.a, .int .i64 A.b, v] 25)).heap.size = w.heap.size + 1 := by simp
  have hb : Below w.heap.size w ((w.alloc (.cells #[.int .i64 A.k, .int .i64 A.r, .int .i64 A.a, .int .i64 A.b, v] 25)).alloc (.cells #[.int .i64 0, .int .i64 0, .int .i64 0, .int .i64 0, .slice none 0 0] 25)) := (bel1 _ _).trans ((bel1 _ _).mono (by simp))
  refine ⟨hb, by simp, (R5.new _ _ _ _ _ _).alloc _, ?_, hv.below hb, (hw.alloc _).alloc _⟩
  rw [← e]; exact R5.new _ _ _ _ _ _
theorem one_all (A : Ar) : oneE A 0 2 = ck A := by
  unfold oneE
  by_cases h : ck A = 0
  · rw [if_pos h, if_neg, h]
    have := (ck_good h).sh
    obtain ⟨k, r, a, b, z⟩ := A
    simp only at this ⊢
    cases this <;> omega
  · rw [if_neg h]
theorem ra_vec {A : Ar} (h : Good A) : ck (vecA A.k A.z) = 0 ∧ mk (vecA A.k A.z) = vecA A.k A.z := ⟨good_vec h (Nat.le_refl _) fun _ h => h, mk_yes (good_vec h (Nat.le_refl _) fun _ h => h)⟩
/-- vector of cells that are good: spelled out. -/
theorem mvec_ok {k : Int} {z : List Int} (h : ck (vecA k z) = 0) (v : Value) (w : World) (hw : Ru.Lay w) (hv : RdI w.heap.size w v z) (hl : z.length ≤ 1000000) :
    Calls Tryd.prog 40 #[.int .i64 k, v] w fun e w' => ∃ q c, e = .returned (.tuple #[A5 k 1 z.length 0 (.slice q z.length c), .int .i64 0]) ∧ RdN w.heap.size w' (.slice q z.length c) z ∧ Below w.heap.size w w' := by
  refine (mvector_any k z v w hw hv hl).mono ?_
  rw [h, mk_yes h]
  rintro e w' ⟨u, h1, h2, h3⟩
  obtain ⟨q, c, e2, _⟩ := h2.form
  subst e2
  exact ⟨q, c, h1, h2, h3⟩

set_option maxRecDepth 100000 in
set_option maxHeartbeats 8000000 in
theorem ravel_any (A : Ar) (v : Value) (w : World) (hw : Ru.Lay w) (hv : RdI w.heap.size w v A.z) (hl : A.z.length ≤ 1000000) :
    Calls Tryd.prog 13 #[A5 A.k A.r A.a A.b v] w (RetE (raV A) (ck A) w) := by
  have HFa := Lib.hid (fun W g hg h1 h2 => fault1_any A v 0 2 W g hg h1 h2 hl)
  have HK := Lib.hid (MK1.new (A := A) hw hv)
  have x0 := HK.out.box.c0; have x1 := HK.out.box.c1; have x2 := HK.out.box.c2; have x3 := HK.out.box.c3; have x4 := HK.out.box.c4
  obtain ⟨p, cap, rfl, hcap, hcap2, hcell⟩ := hv
  clear hcell hw
  rw [one_all] at HFa
  unfold raV
  by_cases h1 : ck A = 0
  · have HVe := Lib.hid (fun W hw hv => mvec_ok (ra_vec (ck_good h1)).1 (.slice p A.z.length cap) W hw hv hl)
    rw [orNo_yes h1, h1]
    rw [h1] at HFa
    clear h1
    go_enter Tryd.func13, Tryd.ntmps13
    go_wp2_with (first
      | (go_at_call 39; (with_reducible refine (HFa.out _ _ (by first | rfl | simp) HK.out.lay HK.out.rdn).mono ?_); rintro e w1 ⟨rfl, hb⟩; have HK2 := Lib.hid (HK.out.next hb); clear HK x0 x1 x2 x3 x4; have HK := HK2; clear HK2; have x0 := HK.out.box.c0; have x1 := HK.out.box.c1; have x2 := HK.out.box.c2; have x3 := HK.out.box.c3; have x4 := HK.out.box.c4; clear hb)
      | (go_at_call 40; (with_reducible refine (HVe.out _ HK.out.lay HK.out.rdn).mono ?_); rintro e w2 ⟨q, qc, rfl, hu, hb⟩; have HU := Lib.hid hu; have hlt := HK.out.sz; have HK2 := Lib.hid (HK.out.next hb); clear HK x0 x1 x2 x3 x4; have HK := HK2; clear HK2; have x0 := HK.out.box.c0; have x1 := HK.out.box.c1; have x2 := HK.out.box.c2; have x3 := HK.out.box.c3; have x4 := HK.out.box.c4; clear hu hb; have y0 := HK.out.res.c0; have y1 := HK.out.res.c1; have y2 := HK.out.res.c2; have y3 := HK.out.res.c3; have y4 := HK.out.res.c4; have f0 := HK.out.res.fr 0; have f1 := HK.out.res.fr 1; have f2 := HK.out.res.fr 2; have f3 := HK.out.res.fr 3; have f4 := HK.out.res.fr 4; have HS := Lib.hid (HK.out.res.set A.k 1 A.z.length 0 (.slice q A.z.length qc)); have z0 := HS.out.c0; have z1 := HS.out.c1; have z2 := HS.out.c2; have z3 := HS.out.c3; have z4 := HS.out.c4))
    refine bodyPost_ret (v := .tuple #[A5 A.k 1 A.z.length 0 (.slice q A.z.length qc), .int .i64 0]) (by simp [results, Tryd.results13, go_sem, z0, z1, z2, z3, z4]) rfl ?_
    exact ⟨_, rfl, (HU.out.st5 (by omega) _ _ _ _ _).mono (by omega), st5_below _ _ _ _ _ (by omega) HK.out.bel⟩
  · rw [orNo_no h1]
    obtain ⟨E, hE⟩ : ∃ E, ck A = E := ⟨_, rfl⟩
    rw [hE] at h1 HFa ⊢
    have k1 : (E != 0) = true := by simpa using h1
    clear h1 hE
    go_enter Tryd.func13, Tryd.ntmps13
    go_wp2_with (go_at_call 39; (with_reducible refine (HFa.out _ _ (by first | rfl | simp) HK.out.lay HK.out.rdn).mono ?_); rintro e w1 ⟨rfl, hb⟩; have HK2 := Lib.hid (HK.out.next hb); clear HK x0 x1 x2 x3 x4; have HK := HK2; clear HK2; have x0 := HK.out.box.c0; have x1 := HK.out.box.c1; have x2 := HK.out.box.c2; have x3 := HK.out.box.c3; have x4 := HK.out.box.c4; clear hb; have y0 := HK.out.res.c0; have y1 := HK.out.res.c1; have y2 := HK.out.res.c2; have y3 := HK.out.res.c3; have y4 := HK.out.res.c4; have f0 := HK.out.res.fr 0; have f1 := HK.out.res.fr 1; have f2 := HK.out.res.fr 2; have f3 := HK.out.res.fr 3; have f4 := HK.out.res.fr 4; have HS := Lib.hid (HK.out.res.set 0 0 0 0 (.slice none 0 0)); have z0 := HS.out.c0; have z1 := HS.out.c1; have z2 := HS.out.c2; have z3 := HS.out.c3; have z4 := HS.out.c4)
    exact bodyPost_ret (v := .tuple #[A5 0 0 0 0 (.slice none 0 0), .int .i64 E]) (by simp [results, Tryd.results13, go_sem, z0, z1, z2, z3, z4]) rfl (retE_no _ (st5_below _ _ _ _ _ (by omega) HK.out.bel))
end Go.Proofs.YtbeoigmaieiigaaDoor
