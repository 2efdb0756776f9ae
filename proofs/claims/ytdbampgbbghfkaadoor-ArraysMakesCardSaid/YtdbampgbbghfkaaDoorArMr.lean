/- The reference's Matrix. -/
import Derived.Test.YtdbampgbbghfkaaDoorArNb
import Derived.Test.YtdbampgbbghfkaaDoorArF
import Derived.Deep.QuietTactic
namespace Go.Proofs.YtdbampgbbghfkaaDoor
open Go.RowKit

structure KMr (w : World) (v : Value) (l : List (List Int)) (X : Int) (cv : Value) (W : World) : Prop where
  bel : Below w.heap.size w W
  res : R5 W w.heap.size 0 0 0 0 (.slice none 0 0)
  box : R5 W (w.heap.size + 1) 1 2 (l.length : Int) X cv
  rd : RdM w.heap.size W v l
theorem KMr.next {w W W' : World} {v cv : Value} {l : List (List Int)} {X : Int} (h : KMr w v l X cv W) (hb : Below W.heap.size W W') : KMr w v l X cv W' :=
  ⟨h.bel.trans (hb.mono h.bel.size), h.res.next hb, h.box.next hb, h.rd.below (hb.mono h.bel.size)⟩
theorem R5.put3 {w : World} {g : Nat} {k r a b : Int} {v : Value} (h : R5 w g k r a b v) (b' : Int) : R5 (w.setCell ⟨g, 3, none⟩ (.int .i64 b')) g k r a b' v := by
  unfold R5 at h ⊢
  simp [World.setCell, Array.getElem?_modify, h]
theorem KMr.put3 {w W : World} {v cv : Value} {l : List (List Int)} {X : Int} (h : KMr w v l X cv W) (X' : Int) : KMr w v l X' cv (W.setCell ⟨w.heap.size + 1, 3, none⟩ (.int .i64 X')) :=
  ⟨h.bel.setCell (p := ⟨w.heap.size + 1, 3, none⟩) (by show w.heap.size ≤ w.heap.size + 1; omega) _, (blkO _ _ _ _ (by omega)).trans h.res, h.box.put3 X', h.rd.below ((Below.refl _ _).setCell (p := ⟨w.heap.size + 1, 3, none⟩) (by show w.heap.size ≤ w.heap.size + 1; omega) _)⟩
theorem KMr.new {w : World} {v : Value} {l : List (List Int)} (hv : RdM w.heap.size w v l) : KMr w v l 0 (.slice none 0 0) ((w.alloc (.cells #[.int .i64 0, .int .i64 0, .int .i64 0, .int .i64 0, .slice none 0 0] 27)).alloc (.cells #[.int .i64 1, .int .i64 2, .int .i64 (l.length : Int), .int .i64 0, .slice none 0 0] 27)) := by
  have hb1 := bel1 w (.cells #[.int .i64 0, .int .i64 0, .int .i64 0, .int .i64 0, .slice none 0 0] 27)
  have hb2 := bel1 (w.alloc (.cells #[.int .i64 0, .int .i64 0, .int .i64 0, .int .i64 0, .slice none 0 0] 27)) (.cells #[.int .i64 1, .int .i64 2, .int .i64 (l.length : Int), .int .i64 0, .slice none 0 0] 27)
  have hb := hb1.trans (hb2.mono hb1.size)
  refine ⟨hb, (R5.new w _ _ _ _ _).next hb2, ?_, hv.below hb⟩
  have := R5.new (w.alloc (.cells #[.int .i64 0, .int .i64 0, .int .i64 0, .int .i64 0, .slice none 0 0] 27)) 1 2 (l.length : Int) 0 (.slice none 0 0)
  simpa using this
theorem own_keep9 {w w' : World} {B : Nat} {e : TypeId} {s : Nat} {v : Value} {n : Nat} {xs : List Value} (h : w.ownsRow B e s v n xs) (hb : ∀ (g : Nat) (c : Array Value), w.heap[g]? = some (Obj.cells c e (0, 0)) → w'.heap[g]? = w.heap[g]?) : w'.ownsRow B e s v n xs := by
  obtain ⟨h1, h2⟩ := h
  refine ⟨h1, ?_⟩
  rcases h2 with h2 | ⟨g, cap, cur, hv, hg, hh, r⟩
  · exact .inl h2
  · exact .inr ⟨g, cap, cur, hv, hg, (hb g cur hh).trans hh, r⟩
/-- A slice of rows that the call has made. -/
def MM (w : World) (B : Nat) (u : Value) (l : List (List Int)) : Prop :=
  ∃ xs, w.ownsRow B 22 1 u l.length xs ∧ ∀ t (h : t < l.length), ∃ x, xs[t]? = some x ∧ Ru.Ins 2 w B x l[t]
theorem R5.put4 {w : World} {g : Nat} {k r a b : Int} {v : Value} (h : R5 w g k r a b v) (v' : Value) : R5 (w.setCell ⟨g, 4, none⟩ v') g k r a b v' := by
  unfold R5 at h ⊢
  simp [World.setCell, Array.getElem?_modify, h]
theorem KMr.put4 {w W : World} {v cv : Value} {l : List (List Int)} {X : Int} (h : KMr w v l X cv W) (u : Value) : KMr w v l X u (W.setCell ⟨w.heap.size + 1, 4, none⟩ u) :=
  ⟨h.bel.setCell (p := ⟨w.heap.size + 1, 4, none⟩) (by show w.heap.size ≤ w.heap.size + 1; omega) _, (blkO _ _ _ _ (by omega)).trans h.res, h.box.put4 u, h.rd.below ((Below.refl _ _).setCell (p := ⟨w.heap.size + 1, 4, none⟩) (by show w.heap.size ≤ w.heap.size + 1; omega) _)⟩
theorem KMr.grow {w W W' : World} {v cv : Value} {l : List (List Int)} {X : Int} (h : KMr w v l X cv W) (hb : Below (w.heap.size + 2) W W') : KMr w v l X cv W' :=
  ⟨h.bel.trans (hb.mono (by omega)), (hb.block w.heap.size (by omega)).trans h.res, (hb.block (w.heap.size + 1) (by omega)).trans h.box, h.rd.below (hb.mono (by omega))⟩
theorem KMr.own4 {w W : World} {v cv : Value} {l : List (List Int)} {X : Int} (h : KMr w v l X cv W) {B : Nat} {u : Value} {z : List Int} (hi : Ru.Ins 2 W B u z) (x : Value) : Ru.Ins 2 (W.setCell ⟨w.heap.size + 1, 4, none⟩ x) B u z := by
  refine own_keep9 hi fun g c hg => ?_
  by_cases hgg : g = w.heap.size + 1
  · exfalso
    have := h.box
    unfold R5 at this
    rw [hgg, this] at hg
    simp at hg
  · exact blkO _ _ _ _ hgg
theorem drew_bel (w : World) (n : Nat) : Below w.heap.size w (w.drewN n) := below_drewN (Below.refl _ _) n
set_option maxRecDepth 100000 in
set_option maxHeartbeats 8000000 in
theorem rmatrix_any (v : Value) (l : List (List Int)) (w : World) (hv : RdM w.heap.size w v l) :
    Calls Tryd.prog 14 #[v] w (RetE (mtV l) (mtE l) w) := by
  have HK := Lib.hid (KMr.new hv)
  have HR := Lib.hid (R5.new w 0 0 0 0 (.slice none 0 0))
  obtain ⟨p, cap, rfl, ⟨hcap, hcap2⟩, hcell⟩ := hv
  clear hcell
  by_cases h4 : 400 < l.length
  · have HE : Hid (mtE l = 15 ∧ mtV l = Ar.no) := by
      have e : mtE l = 15 := if_pos h4
      exact ⟨e, by unfold mtV; rw [e]; rfl⟩
    rw [HE.out.1, HE.out.2]
    have h4i : decide ((400 : Int) < (l.length : Int)) = true := decide_eq_true (by omega)
    clear h4 HK
    go_enter Tryd.func14, Tryd.ntmps14
    go_wp2
    exact bodyPost_ret (v := .tuple #[A5 0 0 0 0 (.slice none 0 0), .int .i64 15]) (by simp [results, Tryd.results14, go_sem]) rfl (retE_no 15 (bel1 _ _))
  · have h4n : l.length ≤ 400 := by omega
    have h4i : decide ((400 : Int) < (l.length : Int)) = false := decide_eq_false (by omega)
    clear h4 HR
    go_enter Tryd.func14, Tryd.ntmps14
    go_wp2_with fail
    clear h4i
    go_loopg [5] l.length (fun g i wr => ∃ j : Nat, j + g = l.length ∧ i = .int .i64 j ∧ KMr w (.slice p l.length cap) l (if j = 0 then 0 else (wid l : Int)) (.slice none 0 0) wr ∧ ∀ i (hi : i < l.length), i < j → l[i].length = wid l)
    case atStart => exact ⟨0, by omega, rfl, HK.out, fun i _ h => absurd h (by omega)⟩
    case round =>
      obtain ⟨j, hjg, rfl, hk, hall⟩ := hrel
      clear HK
      have HK := Lib.hid hk
      have HAll := Lib.hid hall
      clear hk hall
      cases gk with
      | zero =>
        have hjz : decide (j < l.length) = false := decide_eq_false (by omega)
        have hjzi : decide ((j : Int) < (l.length : Int)) = false := decide_eq_false (by omega)
        have HEv : Hid (evn l = true) := evn_all fun i hi => HAll.out i hi (by omega)
        have HX : Hid (KMr w (.slice p l.length cap) l (wid l : Int) (.slice none 0 0) wr) := by
          have := HK.out
          by_cases hj : j = 0
          · have hl : l = [] := List.length_eq_zero_iff.1 (by omega)
            rw [if_pos hj] at this
            subst hl
            exact this
          · rwa [if_neg hj] at this
        clear HAll HK
        have HR3 := Lib.hid HX.out.res
        have HB3 := Lib.hid HX.out.bel
        have HBx := Lib.hid HX.out.box
        have hlt := HR3.out.lt
        have b3 := HBx.out.c3
        obtain ⟨W, hW⟩ : ∃ W, wid l = W := ⟨_, rfl⟩
        have HWd := Lib.hid hW
        rw [hW] at HX HBx b3
        clear hW
        by_cases hb : 400 < W ∨ 400 < l.length * W
        · have HE : Hid (mtE l = 15 ∧ mtV l = Ar.no) := by
            have e : mtE l = 15 := by unfold mtE; rw [if_neg (by omega), if_neg (by rw [HEv.out]; decide), HWd.out, if_pos hb]
            exact ⟨e, by unfold mtV; rw [e]; rfl⟩
          have y0 := HR3.out.c0
          have y1 := HR3.out.c1
          have y2 := HR3.out.c2
          have y3 := HR3.out.c3
          have y4 := HR3.out.c4
          have f0 := HR3.out.fr 0
          have f1 := HR3.out.fr 1
          have f2 := HR3.out.fr 2
          have f3 := HR3.out.fr 3
          have f4 := HR3.out.fr 4
          have HS := Lib.hid (HR3.out.set 0 0 0 0 (.slice none 0 0))
          have z0 := HS.out.c0
          have z1 := HS.out.c1
          have z2 := HS.out.c2
          have z3 := HS.out.c3
          have z4 := HS.out.c4
          by_cases hb1 : 400 < W
          · have t1 : decide ((400 : Int) < (W : Int)) = true := decide_eq_true (by omega)
            clear hb hb1 HX
            go_wp2_with fail
            refine bodyPost_ret (v := .tuple #[A5 0 0 0 0 (.slice none 0 0), .int .i64 15]) (by simp [results, Tryd.results14, go_sem, z0, z1, z2, z3, z4]) rfl ?_
            rw [HE.out.1, HE.out.2]
            exact retE_no 15 (st5_below _ _ _ _ _ (by omega) HB3.out)
          · have t1 : decide ((400 : Int) < (W : Int)) = false := decide_eq_false (by omega)
            have hp : l.length * W ≤ 400 * 400 := Nat.mul_le_mul h4n (by omega)
            have t2 : (l.length : Int) * (W : Int) = ((l.length * W : Nat) : Int) := (Int.natCast_mul _ _).symm
            obtain ⟨P, hP⟩ : ∃ P, l.length * W = P := ⟨_, rfl⟩
            rw [hP] at t2 hp hb
            have t3 : decide ((400 : Int) < (P : Int)) = true := decide_eq_true (by omega)
            clear hb hb1 HX hP
            go_wp2_with fail
            refine bodyPost_ret (v := .tuple #[A5 0 0 0 0 (.slice none 0 0), .int .i64 15]) (by simp [results, Tryd.results14, go_sem, z0, z1, z2, z3, z4]) rfl ?_
            rw [HE.out.1, HE.out.2]
            exact retE_no 15 (st5_below _ _ _ _ _ (by omega) HB3.out)
        · have HE : Hid (mtE l = 0 ∧ mtV l = ⟨1, 2, (l.length : Int), (W : Int), flt l⟩) := by
            have e : mtE l = 0 := by unfold mtE; rw [if_neg (by omega), if_neg (by rw [HEv.out]; decide), HWd.out, if_neg hb]
            exact ⟨e, by unfold mtV; rw [if_pos e, HWd.out]⟩
          have HFl : Hid ((flt l).length ≤ 400) := by unfold Hid; rw [flt_evn HEv.out, HWd.out]; omega
          have t1 : decide ((400 : Int) < (W : Int)) = false := decide_eq_false (by omega)
          have t2 : (l.length : Int) * (W : Int) = ((l.length * W : Nat) : Int) := (Int.natCast_mul _ _).symm
          obtain ⟨P, hP⟩ : ∃ P, l.length * W = P := ⟨_, rfl⟩
          rw [hP] at t2 hb
          have hP4 : P ≤ 400 := by omega
          have t3 : decide ((400 : Int) < (P : Int)) = false := decide_eq_false (by omega)
          clear hb hP
          go_wp2_with fail
          clear t1 t2 t3 b3 hP4 HR3 HB3 HBx
          go_loopg [6] l.length (fun g i wr => ∃ (j : Nat) (cv : Value), j + g = l.length ∧ i = .int .i64 j ∧ KMr w (.slice p l.length cap) l (W : Int) cv wr ∧ Ru.Ins 2 wr (w.heap.size + 2) cv (flt (l.take j)))
          case atStart => exact ⟨0, .slice none 0 0, by omega, rfl, HX.out, World.ownsRow_nil _ _ _ _⟩
          case round =>
            obtain ⟨j2, cv, hjg2, rfl, hk2, hi2⟩ := hrel
            clear HX
            have HX := Lib.hid hk2
            have HI0 := Lib.hid hi2
            obtain ⟨qa, qc, hq⟩ := ins_form hi2
            generalize hfl : (flt (List.take j2 l)).length = m0 at hq
            subst hq
            clear hk2 hi2
            have HBx := Lib.hid HX.out.box
            have b4 := HBx.out.c4
            cases gk with
            | zero =>
              have hjz : decide (j2 < l.length) = false := decide_eq_false (by omega)
              have hjzi : decide ((j2 : Int) < (l.length : Int)) = false := decide_eq_false (by omega)
              have HI1 : Hid (Ru.Ins 2 wr (w.heap.size + 2) (.slice qa m0 qc) (flt l)) := by
                have := HI0.out
                rwa [show l.take j2 = l from List.take_of_length_le (by omega)] at this
              have HR3 := Lib.hid HX.out.res
              have HB3 := Lib.hid HX.out.bel
              have hlt := HR3.out.lt
              have y0 := HR3.out.c0
              have y1 := HR3.out.c1
              have y2 := HR3.out.c2
              have y3 := HR3.out.c3
              have y4 := HR3.out.c4
              have f0 := HR3.out.fr 0
              have f1 := HR3.out.fr 1
              have f2 := HR3.out.fr 2
              have f3 := HR3.out.fr 3
              have f4 := HR3.out.fr 4
              have b0 := HBx.out.c0
              have b1 := HBx.out.c1
              have b2 := HBx.out.c2
              have b3 := HBx.out.c3
              have HS := Lib.hid (HR3.out.set 1 2 (l.length : Int) (W : Int) (.slice qa m0 qc))
              have z0 := HS.out.c0
              have z1 := HS.out.c1
              have z2 := HS.out.c2
              have z3 := HS.out.c3
              have z4 := HS.out.c4
              clear hfl HX HI0
              go_wp2_with fail
              refine bodyPost_ret (v := .tuple #[A5 1 2 (l.length : Int) (W : Int) (.slice qa m0 qc), .int .i64 0]) (by simp [results, Tryd.results14, go_sem, z0, z1, z2, z3, z4]) rfl ?_
              rw [HE.out.1, HE.out.2]
              exact ⟨_, rfl, (st_new HI1.out HR3.out 1 2 (l.length : Int) (W : Int) (.slice qa m0 qc)).mono (by omega), st5_below _ _ _ _ _ (by omega) HB3.out⟩
            | succ g =>
              have hjl : j2 < l.length := by omega
              have hjz : decide (j2 < l.length) = true := decide_eq_true (by omega)
              have hjzi : decide ((j2 : Int) < (l.length : Int)) = true := decide_eq_true (by omega)
              have hji : (j2 : Int) < (l.length : Int) := by omega
              obtain ⟨b, off, rfl, hbb, hc⟩ := HX.out.rd.cells (by intro e; rw [e] at hjl; simp at hjl)
              obtain ⟨y, hy, hyr, hyn⟩ := hc j2 hjl
              have HYr := Lib.hid hyr
              have HYn := Lib.hid hyn
              obtain ⟨ya, yc, rfl, hy1, hy2, _⟩ := hyr
              clear hc hyn
              have HF1 : Hid (flt (l.take (j2 + 1)) = flt (l.take j2) ++ l[j2]) := flt_take hjl
              have HF2 : Hid ((flt (l.take j2)).length + l[j2].length ≤ 400) := by
                have h1 := flt_le l (j2 + 1)
                rw [HF1.out, List.length_append] at h1
                have := HFl.out
                unfold Hid
                omega
              obtain ⟨r, hr⟩ : ∃ r, l[j2] = r := ⟨_, rfl⟩
              rw [hr] at hy hy1 HYr HYn HF1 HF2
              clear hr hfl
              have g4 := HBx.out.fr 4
              go_wp2_with fail
              have HI : Hid (Ru.Ins 2 (World.drew wr) (w.heap.size + 2) (.slice qa m0 qc) (flt (l.take j2))) := Lib.hid (Ru.own_below HI0.out (Below.refl _ _).drew)
              have HRow : Hid (RdI w.heap.size (World.drew wr) (.slice ya r.length yc) r) := Lib.hid (HYr.out.below (Below.refl _ _).drew)
              have HX9 := Lib.hid (HX.out.next (Below.refl _ _).drew)
              have hs2 : w.heap.size + 2 ≤ (World.drew wr).heap.size := HX9.out.box.lt
              refine wp_region_held_drew (S := (fun W9 => W9.cell? ⟨b, off + j2, none⟩ = some (.slice ya r.length yc))) (by kernel_rfl) ?_ (fun hHeld => ?_)
              · exact hy
              clear HBx b4 g4
              generalize World.drew _ = wd at hHeld HI HRow HX9 hs2 ⊢
              have b4 := HX9.out.box.c4
              refine wpAnyH_take (i := 0) (v := ?_) rfl (by kernel_rfl) (by kernel_rfl) (by kernel_rfl) (fun _ _ _ h => h) (Or.inl ⟨by rfl, ?_⟩) (by assumption) ?_
              rotate_left
              · ((intro w0 hSw); (try dsimp only at hSw); go_simp; (try with_reducible rfl))
              change wpAnyH _ _ _ _ _ _ _ (Act.put _ (some 58) _) _
              try simp only [Act.put, List.setIfInBounds_toArray, List.set_cons_zero, List.set_cons_succ]
              refine wpAnyH_take (i := 2) (v := ?_) rfl (by kernel_rfl) (by kernel_rfl) (by kernel_rfl) (fun _ _ _ h => h) (Or.inl ⟨by rfl, ?_⟩) (by assumption) ?_
              rotate_left
              · ((intro w0 hSw); (try dsimp only at hSw); go_simp; (try with_reducible rfl))
              change wpAnyH _ _ _ _ _ _ _ (Act.put _ (some 60) _) _
              try simp only [Act.put, List.setIfInBounds_toArray, List.set_cons_zero, List.set_cons_succ]
              refine wpAnyH_take (i := 3) (v := ?_) rfl (by kernel_rfl) (by kernel_rfl) (by kernel_rfl) (fun _ _ _ h => h) (Or.inl ⟨by rfl, ?_⟩) (by assumption) ?_
              rotate_left
              · ((intro w0 hSw); (try dsimp only at hSw); go_simp; (try with_reducible rfl))
              change wpAnyH _ _ _ _ _ _ _ (Act.put _ (some 61) _) _
              try simp only [Act.put, List.setIfInBounds_toArray, List.set_cons_zero, List.set_cons_succ]
              refine wpAnyH_take (i := 4) (v := ?_) rfl (by kernel_rfl) (by kernel_rfl) (by kernel_rfl) (fun _ _ _ h => h) (Or.inl ⟨by rfl, ?_⟩) (by assumption) ?_
              rotate_left
              · ((intro w0 hSw); (try dsimp only at hSw); go_simp; (try with_reducible rfl))
              change wpAnyH _ _ _ _ _ _ _ (Act.put _ (some 62) _) _
              try simp only [Act.put, List.setIfInBounds_toArray, List.set_cons_zero, List.set_cons_succ]
              refine wpAnyH_take (i := 5) (v := ?_) rfl (by kernel_rfl) (by kernel_rfl) (by kernel_rfl) (fun _ _ _ h => h) (Or.inl ⟨by rfl, ?_⟩) (by assumption) ?_
              rotate_left
              · ((intro w0 hSw); (try dsimp only at hSw); go_simp; (try with_reducible rfl))
              change wpAnyH _ _ _ _ _ _ _ (Act.put _ (some 63) _) _
              try simp only [Act.put, List.setIfInBounds_toArray, List.set_cons_zero, List.set_cons_succ]
              refine wpAnyH_ready (rs := [1]) (by kernel_rfl) (by simp) ?_
              refine AllReadyH.cons rfl (fun K hK => ?_) (AllReadyH.nil)
              go_simp
              refine hK.out _ _ ?_ (fun hHeld2 => ?_)
              · exact hHeld
              clear hK K hHeld
              have hHeld := hHeld2; clear hHeld2
              try change wpAnyH _ _ _ _ _ _ _ (Act.put _ (some 59) _) _
              try simp only [Act.put, List.setIfInBounds_toArray, List.set_cons_zero, List.set_cons_succ]
              refine wpAnyH_ready (rs := [6]) (by kernel_rfl) (by simp) ?_
              refine AllReadyH.cons rfl (fun K hK => ?_) (AllReadyH.nil)
              refine wp_append_is (.tmp 59) (.tmp 63) rfl (w.heap.size + 2) _ (flt (l.take j2)) (by rfl) HI.out _ r (by rfl) _ HRow.out HYn.out (by have := HF2.out; omega) hs2 ?_
              intro u w2 hu hg
              have hgb := ins_grown HI.out hs2 hg
              rw [← HF1.out] at hu
              obtain ⟨ua, uc, hue⟩ := ins_form hu
              generalize hfl3 : (flt (l.take (j2 + 1))).length = m3 at hue
              subst hue
              have HU := Lib.hid hu
              have HXb := Lib.hid (HX9.out.grow hgb)
              have HCy := Lib.hid ((hgb.cell (p := ⟨b, off + j2, none⟩) (by show b < w.heap.size + 2; omega)).trans hHeld)
              clear hu hg hfl3 b4
              go_simp
              refine hK.out _ _ ?_ (fun hHeld2 => ?_)
              · exact HCy.out
              clear hK K hHeld
              have hHeld := hHeld2; clear hHeld2
              try change wpAnyH _ _ _ _ _ _ _ (Act.put _ (some 64) _) _
              try simp only [Act.put, List.setIfInBounds_toArray, List.set_cons_zero, List.set_cons_succ]
              refine wpAnyH_take (i := 7) (v := ?_) rfl (by kernel_rfl) (by kernel_rfl) (by kernel_rfl) (fun _ _ _ h => h) (Or.inl ⟨by rfl, ?_⟩) (by assumption) ?_
              rotate_left
              · ((intro w0 hSw); (try dsimp only at hSw); go_simp; (try with_reducible rfl))
              change wpAnyH _ _ _ _ _ _ _ (Act.put _ (some 65) _) _
              try simp only [Act.put, List.setIfInBounds_toArray, List.set_cons_zero, List.set_cons_succ]
              refine wpAnyH_ready (rs := [8]) (by kernel_rfl) (by simp) ?_
              refine AllReadyH.cons rfl (fun K hK => ?_) (AllReadyH.nil)
              have HXn := Lib.hid (HXb.out.put4 (.slice ua m3 uc))
              have HUn := Lib.hid (HXb.out.own4 HU.out (.slice ua m3 uc))
              have b4' := HXb.out.box.c4
              have g4' := HXb.out.box.fr 4
              go_simp
              refine hK.out _ _ ?_ (fun hHeld2 => ?_)
              · exact (((Below.refl (w.heap.size + 1) w2).setCell (p := ⟨w.heap.size + 1, 4, none⟩) (Nat.le_refl _) _).cell (p := ⟨b, off + j2, none⟩) (by show b < w.heap.size + 1; omega)).trans hHeld
              clear hK K hHeld hHeld2
              refine wpAnyH_done (by kernel_rfl) ?_ _
              go_wp2_with fail
              go_roundg g
              case measure => omega
              case rel => exact ⟨j2 + 1, _, by omega, by go_num, HXn.out, HUn.out⟩
      | succ g =>
        have hjl : j < l.length := by omega
        have hjz : decide (j < l.length) = true := decide_eq_true (by omega)
        have hjzi : decide ((j : Int) < (l.length : Int)) = true := decide_eq_true (by omega)
        have hji : (j : Int) < (l.length : Int) := by omega
        have h0 : 0 < l.length := by omega
        have h0i : (0 : Int) < (l.length : Int) := by omega
        have HW : Hid (wid l = l[0].length) := by
          unfold Hid wid
          cases l with
          | nil => simp at h0
          | cons r l => rfl
        obtain ⟨b, off, rfl, hbb, hc⟩ := HK.out.rd.cells (by intro e; rw [e] at h0; simp at h0)
        obtain ⟨x, hx, hxr, _⟩ := hc 0 h0
        obtain ⟨y, hy, hyr, _⟩ := hc j hjl
        obtain ⟨xa, xc, rfl, hx1, hx2, _⟩ := hxr
        obtain ⟨ya, yc, rfl, hy1, hy2, _⟩ := hyr
        rw [← HW.out] at hx hx1
        rw [Nat.add_zero] at hx
        clear hc
        have HR3 := Lib.hid HK.out.res
        have HB3 := Lib.hid HK.out.bel
        have HBx := Lib.hid HK.out.box
        have hlt := HR3.out.lt
        obtain ⟨m, hm⟩ : ∃ m, l[j].length = m := ⟨_, rfl⟩
        rw [hm] at hy hy1
        by_cases hne : m = wid l
        · have hne0 : ((m : Int) != (wid l : Int)) = false := by simp; omega
          have b3 := HBx.out.c3
          have g3 := HBx.out.fr 3
          have HAl2 : Hid (∀ i (hi : i < l.length), i < j + 1 → l[i].length = wid l) := by
            intro i hi h
            by_cases hij : i = j
            · subst hij; rw [hm]; exact hne
            · exact HAll.out i hi (by omega)
          clear HAll hne hm
          go_wp2_with fail
          go_quiet (fail)
          go_wp2_with fail
          go_roundg g
          case measure => omega
          case rel => exact ⟨j + 1, by omega, by go_num, by rw [if_neg (by omega)]; exact (HK.out.next (drew_bel _ _)).put3 _, HAl2.out⟩
        · have hne0 : ((m : Int) != (wid l : Int)) = true := by simp; omega
          have HE : Hid (mtE l = 11 ∧ mtV l = Ar.no) := by
            have e : mtE l = 11 := by unfold mtE; rw [if_neg (by omega), if_pos (evn_at hjl (by rw [hm]; exact hne))]
            exact ⟨e, by unfold mtV; rw [e]; rfl⟩
          have y0 := HR3.out.c0
          have y1 := HR3.out.c1
          have y2 := HR3.out.c2
          have y3 := HR3.out.c3
          have y4 := HR3.out.c4
          have f0 := HR3.out.fr 0
          have f1 := HR3.out.fr 1
          have f2 := HR3.out.fr 2
          have f3 := HR3.out.fr 3
          have f4 := HR3.out.fr 4
          clear HAll hne hm HK HBx
          go_wp2_with fail
          go_quiet (fail)
          go_wp2_with fail
          have HR4 := Lib.hid (HR3.out.next (drew_bel wr nq))
          have HS := Lib.hid (HR4.out.set 0 0 0 0 (.slice none 0 0))
          have z0 := HS.out.c0
          have z1 := HS.out.c1
          have z2 := HS.out.c2
          have z3 := HS.out.c3
          have z4 := HS.out.c4
          refine bodyPost_ret (v := .tuple #[A5 0 0 0 0 (.slice none 0 0), .int .i64 11]) (by simp [results, Tryd.results14, go_sem, z0, z1, z2, z3, z4]) rfl ?_
          rw [HE.out.1, HE.out.2]
          exact retE_no 11 (st5_below _ _ _ _ _ (by omega) (below_drewN HB3.out nq))
end Go.Proofs.YtdbampgbbghfkaaDoor
