/- The law ExtendOwn. -/
import Derived.Test.YtmmnoldhiobgdaaDoorExL
namespace Go.Proofs.YtmmnoldhiobgdaaDoor
open Go.RowKit

/-- What the law's loop keeps. -/
structure KOw (w : World) (A : Ar) (v : Value) (go : Nat) (u : Value) (gb : Nat) (B : Ar) (vb : Value) (gc : Nat) (C : Ar) (vc : Value) (nb nc : Nat) (W : World) : Prop where
  bel : Below w.heap.size w W
  x : R5 W w.heap.size A.k A.r A.a A.b v
  own : R5 W go A.k A.r A.a A.b u
  b : R5 W gb B.k B.r B.a B.b vb
  c : R5 W gc C.k C.r C.a C.b vc
  rb : RdN nb W vb B.z
  rc : RdN nc W vc C.z
section
variable {w W W' : World} {A B C : Ar} {v u vb vc : Value} {go gb gc nb nc : Nat}
theorem KOw.next (h : KOw w A v go u gb B vb gc C vc nb nc W) (hb : Below W.heap.size W W') : KOw w A v go u gb B vb gc C vc nb nc W' :=
  ⟨h.bel.trans (hb.mono h.bel.size), h.x.next hb, h.own.next hb, h.b.next hb, h.c.next hb, h.rb.next hb, h.rc.next hb⟩
theorem KOw.put (h : KOw w A v go u gb B vb gc C vc nb nc W) {g : Nat} (h0 : w.heap.size < g) (h1 : g ≠ go) (h2 : g ≠ gb) (h3 : g ≠ gc) (h4 : g < nb) (h5 : g < nc) (i : Nat) (x : Value) : KOw w A v go u gb B vb gc C vc nb nc (W.setCell ⟨g, i, none⟩ x) :=
  ⟨h.bel.setCell (p := ⟨g, i, none⟩) (Nat.le_of_lt h0) _, h.x.setO (by omega) _ _, h.own.setO h1 _ _, h.b.setO h2 _ _, h.c.setO h3 _ _, h.rb.put1 h4 _ _, h.rc.put1 h5 _ _⟩
end
theorem ins_store {W : World} {B g n cap : Nat} {l : List Int} (h : Ru.Ins 2 W B (.slice (some ⟨g, 0, none⟩) n cap) l) (hn : l.length = n) {j : Nat} (hj : j < n) (x : Int) : Ru.Ins 2 (W.setCell ⟨g, j, none⟩ (.int .i64 x)) B (.slice (some ⟨g, 0, none⟩) n cap) (l.set j x) := by
  subst hn
  unfold Ru.Ins at *
  have := (World.ownsRow.stored h j (.int .i64 x)).1
  simpa [List.map_set] using this
set_option maxRecDepth 100000 in
set_option maxHeartbeats 32000000 in
theorem lawOwn_any (p : Int) (A : Ar) (v : Value) (w : World) (hw : Ru.Lay w) (hv : RdI w.heap.size w v A.z) (hn : Ru.NilC v) (h64 : in64 A.z) (haw : ∀ W, Ru.Lay W → Calls Tryd.prog 12 #[] W fun e w' => e = .returned (.bool true) ∧ Below W.heap.size W w') :
    Calls Tryd.prog 10 #[.int .i64 p, A5 A.k A.r A.a A.b v] w fun e w' => e = .returned (.bool true) ∧ Below w.heap.size w w' := by
  have HF := Lib.hid (fun W h => far7_any A v W h)
  have HAw := Lib.hid haw
  clear haw
  have HK := Lib.hid ((KVar.start w hw).arg A hv hn)
  have HI := Lib.hid h64
  have HN := Lib.hid hn
  have HW := Lib.hid hw
  have HV := Lib.hid hv
  obtain ⟨q, cap, rfl, hv1, hv2, hv3⟩ := hv
  clear hw hn hv1 hv2 hv3 h64
  have x0 := (HK.out.a _ (.head _)).c0
  have x1 := (HK.out.a _ (.head _)).c1
  have x2 := (HK.out.a _ (.head _)).c2
  have x3 := (HK.out.a _ (.head _)).c3
  have x4 := (HK.out.a _ (.head _)).c4
  by_cases hf : 405 < A.z.length
  · rw [decide_eq_true hf] at HF
    clear hf
    go_enter Tryd.func10, Tryd.ntmps10
    go_wp2_with (first
      | (go_at_call 11; (with_reducible refine (HF.out _ (by with_unfolding_all exact HK.out.r _ (.head _))).mono ?_); rintro e wz ⟨rfl, hb⟩; have HK2 := Lib.hid (HK.out.next hb); clear HK x0 x1 x2 x3 x4; have HK := HK2; clear HK2; clear hb; have x0 := (HK.out.a _ (.head _)).c0; have x1 := (HK.out.a _ (.head _)).c1; have x2 := (HK.out.a _ (.head _)).c2; have x3 := (HK.out.a _ (.head _)).c3; have x4 := (HK.out.a _ (.head _)).c4)
      | (go_at_call 12; (with_reducible refine (HAw.out _ (by with_unfolding_all exact HK.out.lay)).mono ?_); rintro e wz ⟨rfl, hb⟩; have HK2 := Lib.hid (HK.out.next hb); clear HK x0 x1 x2 x3 x4; have HK := HK2; clear HK2; clear hb; have x0 := (HK.out.a _ (.head _)).c0; have x1 := (HK.out.a _ (.head _)).c1; have x2 := (HK.out.a _ (.head _)).c2; have x3 := (HK.out.a _ (.head _)).c3; have x4 := (HK.out.a _ (.head _)).c4))
    go_ret
    exact ⟨rfl, HK.out.bel⟩
  rw [decide_eq_false hf] at HF
  have hl : A.z.length ≤ 100000 := by omega
  have hlb : (twV p A A).z.length ≤ 1000000 := Nat.le_trans (twV_len p A A) (by omega)
  have hlc : (onV p A).z.length ≤ 1000000 := Nat.le_trans (onV_len p A) (by omega)
  have HT1 := Lib.hid (fun v u W h0 h1 h2 => etwo_any p A A v u W h0 h1 h2 (by omega) (by omega) HI.out HI.out)
  have HO1 := Lib.hid (fun v W h0 h1 => eone_any p A v W h0 h1 (by omega) HI.out)
  have HT2 := Lib.hid (fun v u W h0 h1 h2 => rtwo10_any p A A v u W h0 h1 h2 hl hl HI.out HI.out)
  have HO2 := Lib.hid (fun v W h0 h1 => rone10_any p A v W h0 h1 hl HI.out)
  have HS := Lib.hid (fun v u W h1 h2 => same_eq A.k A.r A.a A.b A.z v u W h1 h2 (by omega))
  generalize twV p A A = B at HT1 HT2 hlb
  generalize twE p A A = E1 at HT1 HT2
  generalize onV p A = C at HO1 HO2 hlc
  generalize onE p A = E2 at HO1 HO2
  have HAl1 := Lib.hid (fun v u W h1 h2 => alike_lit10 B.k B.r B.a B.b B.z E1 v u W h1 h2 hlb)
  have HAl2 := Lib.hid (fun v u W h1 h2 => alike_lit10 C.k C.r C.a C.b C.z E2 v u W h1 h2 hlc)
  clear hf hlb hlc HI
  go_enter Tryd.func10, Tryd.ntmps10
  go_wp2_with (first
    | (go_at_call 11; (with_reducible refine (HF.out _ (by with_unfolding_all exact HK.out.r _ (.head _))).mono ?_); rintro e wz ⟨rfl, hb⟩; have hlt := Nat.lt_of_lt_of_le (HK.out.lt _ (.head _)) hb.size; have HK2 := Lib.hid (HK.out.next hb); clear HK hb x0 x1 x2 x3 x4; have HK := HK2; clear HK2; have x0 := (HK.out.a _ (.head _)).c0; have x1 := (HK.out.a _ (.head _)).c1; have x2 := (HK.out.a _ (.head _)).c2; have x3 := (HK.out.a _ (.head _)).c3; have x4 := (HK.out.a _ (.head _)).c4; have HKx := Lib.hid ((HK.out.next (bel1 _ (.cells #[.int .i64 A.k, .int .i64 A.r, .int .i64 A.a, .int .i64 A.b, (.slice q A.z.length cap)] 25))).next (bel1 _ (.cells #[] 2))); have xw := (HKx.out.a _ (.head _)).c4; have hs1 : (wz.alloc (.cells #[.int .i64 A.k, .int .i64 A.r, .int .i64 A.a, .int .i64 A.b, (.slice q A.z.length cap)] 25)).heap.size = wz.heap.size + 1 := (by simp); have HIl : Hid (Ru.Ins 2 ((wz.alloc (.cells #[.int .i64 A.k, .int .i64 A.r, .int .i64 A.a, .int .i64 A.b, (.slice q A.z.length cap)] 25)).alloc (.cells #[] 2)) (wz.heap.size + 1) (.slice (some ⟨wz.heap.size + 1, 0, none⟩) 0 0) []) := (by have h := ins_lit (wz.alloc (.cells #[.int .i64 A.k, .int .i64 A.r, .int .i64 A.a, .int .i64 A.b, (.slice q A.z.length cap)] 25)); rwa [hs1] at h); have HRd2 : Hid (RdI ((wz.alloc (.cells #[.int .i64 A.k, .int .i64 A.r, .int .i64 A.a, .int .i64 A.b, (.slice q A.z.length cap)] 25)).alloc (.cells #[] 2)).heap.size ((wz.alloc (.cells #[.int .i64 A.k, .int .i64 A.r, .int .i64 A.a, .int .i64 A.b, (.slice q A.z.length cap)] 25)).alloc (.cells #[] 2)) (.slice q A.z.length cap) A.z) := HKx.out.r _ (.head _); have HX2 : Hid (R5 ((wz.alloc (.cells #[.int .i64 A.k, .int .i64 A.r, .int .i64 A.a, .int .i64 A.b, (.slice q A.z.length cap)] 25)).alloc (.cells #[] 2)) w.heap.size A.k A.r A.a A.b (.slice q A.z.length cap)) := HKx.out.a _ (.head _); have HO2' : Hid (R5 ((wz.alloc (.cells #[.int .i64 A.k, .int .i64 A.r, .int .i64 A.a, .int .i64 A.b, (.slice q A.z.length cap)] 25)).alloc (.cells #[] 2)) wz.heap.size A.k A.r A.a A.b (.slice q A.z.length cap)) := (R5.new wz A.k A.r A.a A.b (.slice q A.z.length cap)).next (bel1 _ _); have HB2 : Hid (Below w.heap.size w ((wz.alloc (.cells #[.int .i64 A.k, .int .i64 A.r, .int .i64 A.a, .int .i64 A.b, (.slice q A.z.length cap)] 25)).alloc (.cells #[] 2))) := HKx.out.bel; clear HKx HK hs1)
    | (at_builtin; refine Ru.wpList_append_is (by simp [Region.wanted]) _ _ rfl (wz.heap.size + 1) _ [] rfl HIl.out _ A.z rfl _ HRd2.out.ru HN.out (by simp; omega) (by simp) ?_; intro u w2 hu hg; rw [List.nil_append] at hu; have hgb := ins_grown HIl.out (by simp) hg; obtain ⟨qo, co, hqo, hqc, hqd⟩ := (ins_new hu).form; subst hqo; clear hqc hqd; have HX : Hid (R5 w2 w.heap.size A.k A.r A.a A.b (.slice q A.z.length cap)) := HX2.out.below (by omega) hgb; have HOw : Hid (R5 w2 wz.heap.size A.k A.r A.a A.b (.slice q A.z.length cap)) := HO2'.out.below (by omega) hgb; have HBl : Hid (Below w.heap.size w w2) := HB2.out.trans (hgb.mono (by omega)); clear hg hgb x0 x1 x2 x3 x4 xw HX2 HO2' HB2 HIl HRd2; have s4 := HOw.out.c4; have sf := HOw.out.fr 4; have HO := Lib.hid (HOw.out.put4 (.slice qo A.z.length co)); have HX3 := Lib.hid (HX.out.setO (g' := wz.heap.size) (by omega) 4 (.slice qo A.z.length co)); have HB := Lib.hid (HBl.out.setCell (p := ⟨wz.heap.size, 4, none⟩) (by show w.heap.size ≤ wz.heap.size; omega) (.slice qo A.z.length co)); have HU : Hid (Ru.Ins 2 (w2.setCell ⟨wz.heap.size, 4, none⟩ (.slice qo A.z.length co)) (wz.heap.size + 1) (.slice qo A.z.length co) A.z) := ins_far hu (by omega) 4 _; have HLy : Hid (Ru.Lay (w2.setCell ⟨wz.heap.size, 4, none⟩ (.slice qo A.z.length co))) := HW.out.below HW.out.size HB.out; have HR : Hid (RdI (w2.setCell ⟨wz.heap.size, 4, none⟩ (.slice qo A.z.length co)).heap.size (w2.setCell ⟨wz.heap.size, 4, none⟩ (.slice qo A.z.length co)) (.slice qo A.z.length co) A.z) := (ins_new HU.out).rd; have HG : Hid (∀ g, qo = some ⟨g, 0, none⟩ → wz.heap.size + 1 ≤ g ∧ g < (w2.setCell ⟨wz.heap.size, 4, none⟩ (.slice qo A.z.length co)).heap.size) := (fun g hg => World.ownsRow.lt HU.out g (by rw [hg]; rfl)); clear hu HX HOw HBl; have y0 := HO.out.c0; have y1 := HO.out.c1; have y2 := HO.out.c2; have y3 := HO.out.c3; have y4 := HO.out.c4; have x0 := HX3.out.c0; have x1 := HX3.out.c1; have x2 := HX3.out.c2; have x3 := HX3.out.c3; have x4 := HX3.out.c4)
    | (go_at_call 16; (with_reducible refine (HT1.out _ _ _ HLy.out HR.out HR.out).mono ?_); rintro e w4 ⟨uqb, rfl, hu, hb⟩; obtain ⟨qb, cqb, hp, _, _⟩ := hu.form; have hp2 : uqb = (.slice qb B.z.length cqb) := hp; subst hp2; clear hp; have HUx := Lib.hid (ins_next10 (ins_next10 HU.out hb) (bel1 w4 (.cells #[.int .i64 B.k, .int .i64 B.r, .int .i64 B.a, .int .i64 B.b, (.slice qb B.z.length cqb)] 25))); clear HU; have HU := HUx; clear HUx; have HBx := Lib.hid (HB.out.trans ((hb.trans ((bel1 w4 (.cells #[.int .i64 B.k, .int .i64 B.r, .int .i64 B.a, .int .i64 B.b, (.slice qb B.z.length cqb)] 25)).mono hb.size)).mono HB.out.size)); clear HB; have HB := HBx; clear HBx; have HX3x := Lib.hid ((HX3.out.next hb).next (bel1 w4 (.cells #[.int .i64 B.k, .int .i64 B.r, .int .i64 B.a, .int .i64 B.b, (.slice qb B.z.length cqb)] 25))); clear HX3; have HX3 := HX3x; clear HX3x; have HOx := Lib.hid ((HO.out.next hb).next (bel1 w4 (.cells #[.int .i64 B.k, .int .i64 B.r, .int .i64 B.a, .int .i64 B.b, (.slice qb B.z.length cqb)] 25))); clear HO; have HO := HOx; clear HOx; have HRb : Hid (RdN (w2.setCell ⟨wz.heap.size, 4, none⟩ (.slice qo A.z.length co)).heap.size (w4.alloc (.cells #[.int .i64 B.k, .int .i64 B.r, .int .i64 B.a, .int .i64 B.b, (.slice qb B.z.length cqb)] 25)) (.slice qb B.z.length cqb) B.z) := hu.next (bel1 w4 (.cells #[.int .i64 B.k, .int .i64 B.r, .int .i64 B.a, .int .i64 B.b, (.slice qb B.z.length cqb)] 25)); have HBb := Lib.hid (R5.new w4 B.k B.r B.a B.b (.slice qb B.z.length cqb)); have hzb := hb.size; have HLx : Hid (Ru.Lay (w4.alloc (.cells #[.int .i64 B.k, .int .i64 B.r, .int .i64 B.a, .int .i64 B.b, (.slice qb B.z.length cqb)] 25))) := HW.out.below HW.out.size HB.out; clear HLy HR; have HLy := HLx; clear HLx; have HR := Lib.hid (ins_new HU.out).rd; clear hu hb; clear y0 y1 y2 y3 y4 x0 x1 x2 x3 x4; have y0 := HO.out.c0; have y1 := HO.out.c1; have y2 := HO.out.c2; have y3 := HO.out.c3; have y4 := HO.out.c4; have x0 := HX3.out.c0; have x1 := HX3.out.c1; have x2 := HX3.out.c2; have x3 := HX3.out.c3; have x4 := HX3.out.c4)
    | (go_at_call 13; (with_reducible refine (HO1.out _ _ HLy.out HR.out).mono ?_); rintro e w5 ⟨uqc, rfl, hu, hb⟩; obtain ⟨qc, cqc, hp, _, _⟩ := hu.form; have hp2 : uqc = (.slice qc C.z.length cqc) := hp; subst hp2; clear hp; have HUx := Lib.hid (ins_next10 (ins_next10 HU.out hb) (bel1 w5 (.cells #[.int .i64 C.k, .int .i64 C.r, .int .i64 C.a, .int .i64 C.b, (.slice qc C.z.length cqc)] 25))); clear HU; have HU := HUx; clear HUx; have HBx := Lib.hid (HB.out.trans ((hb.trans ((bel1 w5 (.cells #[.int .i64 C.k, .int .i64 C.r, .int .i64 C.a, .int .i64 C.b, (.slice qc C.z.length cqc)] 25)).mono hb.size)).mono HB.out.size)); clear HB; have HB := HBx; clear HBx; have HX3x := Lib.hid ((HX3.out.next hb).next (bel1 w5 (.cells #[.int .i64 C.k, .int .i64 C.r, .int .i64 C.a, .int .i64 C.b, (.slice qc C.z.length cqc)] 25))); clear HX3; have HX3 := HX3x; clear HX3x; have HOx := Lib.hid ((HO.out.next hb).next (bel1 w5 (.cells #[.int .i64 C.k, .int .i64 C.r, .int .i64 C.a, .int .i64 C.b, (.slice qc C.z.length cqc)] 25))); clear HO; have HO := HOx; clear HOx; have HRbx := Lib.hid ((HRb.out.next hb).next (bel1 w5 (.cells #[.int .i64 C.k, .int .i64 C.r, .int .i64 C.a, .int .i64 C.b, (.slice qc C.z.length cqc)] 25))); clear HRb; have HRb := HRbx; clear HRbx; have HBbx := Lib.hid ((HBb.out.next hb).next (bel1 w5 (.cells #[.int .i64 C.k, .int .i64 C.r, .int .i64 C.a, .int .i64 C.b, (.slice qc C.z.length cqc)] 25))); clear HBb; have HBb := HBbx; clear HBbx; have HRc : Hid (RdN (w4.alloc (.cells #[.int .i64 B.k, .int .i64 B.r, .int .i64 B.a, .int .i64 B.b, (.slice qb B.z.length cqb)] 25)).heap.size (w5.alloc (.cells #[.int .i64 C.k, .int .i64 C.r, .int .i64 C.a, .int .i64 C.b, (.slice qc C.z.length cqc)] 25)) (.slice qc C.z.length cqc) C.z) := hu.next (bel1 w5 (.cells #[.int .i64 C.k, .int .i64 C.r, .int .i64 C.a, .int .i64 C.b, (.slice qc C.z.length cqc)] 25)); have HBc := Lib.hid (R5.new w5 C.k C.r C.a C.b (.slice qc C.z.length cqc)); have hzc := hb.size; clear HLy HR; have HR := Lib.hid (ins_new HU.out).rd; clear hu hb; clear y0 y1 y2 y3 y4 x0 x1 x2 x3 x4; have y0 := HO.out.c0; have y1 := HO.out.c1; have y2 := HO.out.c2; have y3 := HO.out.c3; have y4 := HO.out.c4; have x0 := HX3.out.c0; have x1 := HX3.out.c1; have x2 := HX3.out.c2; have x3 := HX3.out.c3; have x4 := HX3.out.c4)
    | (go_at_call 27; (with_reducible refine (HS.out _ _ _ HR.out ((HV.out.below HB.out).mono HB.out.size)).mono ?_); rintro e w6 ⟨rfl, hb⟩; have HK : Hid (KOw w A (.slice q A.z.length cap) wz.heap.size (.slice qo A.z.length co) w4.heap.size B (.slice qb B.z.length cqb) w5.heap.size C (.slice qc C.z.length cqc) (w2.setCell ⟨wz.heap.size, 4, none⟩ (.slice qo A.z.length co)).heap.size (w4.alloc (.cells #[.int .i64 B.k, .int .i64 B.r, .int .i64 B.a, .int .i64 B.b, (.slice qb B.z.length cqb)] 25)).heap.size w6) := ⟨HB.out.trans (hb.mono HB.out.size), HX3.out.next hb, HO.out.next hb, HBb.out.next hb, HBc.out.next hb, HRb.out.next hb, HRc.out.next hb⟩; have HU6 := Lib.hid (ins_next10 HU.out hb); clear HU HB HX3 HO HBb HBc HRb HRc HR hb y0 y1 y2 y3 y4 x0 x1 x2 x3 x4; have y4 := HK.out.own.c4)
    | fail)
  have hs3 : (w2.setCell ⟨wz.heap.size, 4, none⟩ (.slice qo A.z.length co)).heap.size = w2.heap.size := by simp
  have hs4 : (w4.alloc (.cells #[.int .i64 B.k, .int .i64 B.r, .int .i64 B.a, .int .i64 B.b, (.slice qb B.z.length cqb)] 25)).heap.size = w4.heap.size + 1 := by simp
  rw [hs3] at HG hzb HK
  rw [hs4] at hzc HK
  clear hs3 hs4 HT1 HO1 HF HS y4
  go_loopg [10] A.z.length (fun g i wr => ∃ (j : Nat) (l : List Int), j + g = A.z.length ∧ i = .int .i64 j ∧ l.length = A.z.length ∧ Ru.Ins 2 wr (wz.heap.size + 1) (.slice qo A.z.length co) l ∧ KOw w A (.slice q A.z.length cap) wz.heap.size (.slice qo A.z.length co) w4.heap.size B (.slice qb B.z.length cqb) w5.heap.size C (.slice qc C.z.length cqc) w2.heap.size (w4.heap.size + 1) wr)
  case atStart => exact ⟨0, A.z, by omega, rfl, rfl, HU6.out, HK.out⟩
  case round =>
    obtain ⟨j, l, hjg, rfl, hll, hin, hk⟩ := hrel
    clear HU6 HK
    have HU := Lib.hid hin
    have HK := Lib.hid hk
    have HLl := Lib.hid hll
    clear hin hk hll
    have y4 := HK.out.own.c4
    cases gk with
    | zero =>
      have hjz : ¬ ((j : Int) < (A.z.length : Int)) := by omega
      have HLy : Hid (Ru.Lay wr) := HW.out.below HW.out.size HK.out.bel
      have HRx : Hid (RdI wr.heap.size wr (.slice q A.z.length cap) A.z) := (HV.out.below HK.out.bel).mono HK.out.bel.size
      clear HU HLl HG
      have x0 := HK.out.x.c0; have x1 := HK.out.x.c1; have x2 := HK.out.x.c2; have x3 := HK.out.x.c3; have x4 := HK.out.x.c4
      go_wp2_with (first
        | (go_at_call 17; (with_reducible refine (HT2.out _ _ _ HLy.out HRx.out HRx.out).mono ?_); rintro e w7 ⟨uqd, rfl, hu, hb⟩; obtain ⟨qd, cqd, hp, _, _⟩ := hu.form; have hp2 : uqd = (.slice qd B.z.length cqd) := hp; subst hp2; clear hp; have HK2 := Lib.hid ((HK.out.next hb).next (bel1 w7 (.cells #[.int .i64 B.k, .int .i64 B.r, .int .i64 B.a, .int .i64 B.b, (.slice qd B.z.length cqd)] 25))); have HRd := Lib.hid (hu.next (bel1 w7 (.cells #[.int .i64 B.k, .int .i64 B.r, .int .i64 B.a, .int .i64 B.b, (.slice qd B.z.length cqd)] 25))); have HBd := Lib.hid (R5.new w7 B.k B.r B.a B.b (.slice qd B.z.length cqd)); clear hu hb HK; have HK := HK2; clear HK2 HLy HRx; have HLy : Hid (Ru.Lay _) := HW.out.below HW.out.size HK.out.bel; have HRx := Lib.hid ((HV.out.below HK.out.bel).mono HK.out.bel.size); clear x0 x1 x2 x3 x4; have x0 := HK.out.x.c0; have x1 := HK.out.x.c1; have x2 := HK.out.x.c2; have x3 := HK.out.x.c3; have x4 := HK.out.x.c4)
        | (go_at_call 14; (with_reducible refine (HO2.out _ _ HLy.out HRx.out).mono ?_); rintro e w8 ⟨uqh, rfl, hu, hb⟩; obtain ⟨qh, cqh, hp, _, _⟩ := hu.form; have hp2 : uqh = (.slice qh C.z.length cqh) := hp; subst hp2; clear hp; have HK2 := Lib.hid ((HK.out.next hb).next (bel1 w8 (.cells #[.int .i64 C.k, .int .i64 C.r, .int .i64 C.a, .int .i64 C.b, (.slice qh C.z.length cqh)] 25))); have HBdx := Lib.hid ((HBd.out.next hb).next (bel1 w8 (.cells #[.int .i64 C.k, .int .i64 C.r, .int .i64 C.a, .int .i64 C.b, (.slice qh C.z.length cqh)] 25))); clear HBd; have HBd := HBdx; clear HBdx; have HRdx := Lib.hid ((HRd.out.next hb).next (bel1 w8 (.cells #[.int .i64 C.k, .int .i64 C.r, .int .i64 C.a, .int .i64 C.b, (.slice qh C.z.length cqh)] 25))); clear HRd; have HRd := HRdx; clear HRdx; have HRh := Lib.hid (hu.next (bel1 w8 (.cells #[.int .i64 C.k, .int .i64 C.r, .int .i64 C.a, .int .i64 C.b, (.slice qh C.z.length cqh)] 25))); have HBh := Lib.hid (R5.new w8 C.k C.r C.a C.b (.slice qh C.z.length cqh)); clear hu hb HK; have HK := HK2; clear HK2 HLy HRx; have HLy : Hid (Ru.Lay _) := HW.out.below HW.out.size HK.out.bel; have HRx := Lib.hid ((HV.out.below HK.out.bel).mono HK.out.bel.size); clear x0 x1 x2 x3 x4; have b0 := HK.out.b.c0; have b1 := HK.out.b.c1; have b2 := HK.out.b.c2; have b3 := HK.out.b.c3; have b4 := HK.out.b.c4; have d0 := HBd.out.c0; have d1 := HBd.out.c1; have d2 := HBd.out.c2; have d3 := HBd.out.c3; have d4 := HBd.out.c4)
        | (go_at_call 15; (with_reducible refine (HAl1.out _ _ _ HK.out.rb.rd HRd.out.rd).mono ?_); rintro e w9 ⟨rfl, hb⟩; have HK2 := Lib.hid (HK.out.next hb); have HRh2 := Lib.hid (HRh.out.next hb); have HBh2 := Lib.hid (HBh.out.next hb); clear HK HRh HBh HRd HBd HLy HRx hb b0 b1 b2 b3 b4 d0 d1 d2 d3 d4; have HK := HK2; clear HK2; have c0 := HK.out.c.c0; have c1 := HK.out.c.c1; have c2 := HK.out.c.c2; have c3 := HK.out.c.c3; have c4 := HK.out.c.c4; have h0 := HBh2.out.c0; have h1 := HBh2.out.c1; have h2 := HBh2.out.c2; have h3 := HBh2.out.c3; have h4 := HBh2.out.c4)
        | (go_at_call 15; (with_reducible refine (HAl2.out _ _ _ HK.out.rc.rd HRh2.out.rd).mono ?_); rintro e wa ⟨rfl, hb⟩; have HK2 := Lib.hid (HK.out.next hb); clear HK HRh2 HBh2 hb c0 c1 c2 c3 c4 h0 h1 h2 h3 h4; have HK := HK2; clear HK2; have HLy : Hid (Ru.Lay _) := HW.out.below HW.out.size HK.out.bel)
        | (go_at_call 12; (with_reducible refine (HAw.out _ HLy.out).mono ?_); rintro e wb ⟨rfl, hb⟩; have HK2 := Lib.hid (HK.out.next hb); clear HK hb; have HK := HK2; clear HK2)
        | fail)
      go_ret
      exact ⟨rfl, HK.out.bel⟩
    | succ g =>
      have hjz : (j : Int) < (A.z.length : Int) := by omega
      have hj : j < l.length := by rw [HLl.out]; omega
      obtain ⟨g0, c0, he, hg0, hcell, hfr, hset⟩ := ins_some HU.out (by intro e; rw [e] at hj; simp at hj)
      obtain rfl : qo = some ⟨g0, 0, none⟩ := (Value.slice.inj he).1
      have hG := HG.out g0 rfl
      have xc := hcell j hj
      have xf := hfr j
      have HSet := Lib.hid (fun x => hset j x hj)
      generalize l[j] = x at xc
      have HKp : Hid (∀ x, KOw w A (.slice q A.z.length cap) wz.heap.size (.slice (some ⟨g0, 0, none⟩) A.z.length co) w4.heap.size B (.slice qb B.z.length cqb) w5.heap.size C (.slice qc C.z.length cqc) w2.heap.size (w4.heap.size + 1) (wr.setCell ⟨g0, j, none⟩ x)) := fun x => HK.out.put (by omega) (by omega) (by omega) (by omega) (by omega) (by omega) j x
      clear he hg0 hcell hfr hset hG HK HU hj
      go_wp2_with fail
      go_roundg g
      case measure => omega
      case rel => exact ⟨j + 1, l.set j _, by omega, by go_num, by rw [List.length_set]; exact HLl.out, HSet.out _, HKp.out _⟩
end Go.Proofs.YtmmnoldhiobgdaaDoor
