/- Matrix of the code. -/
import Derived.Test.YtdbampgbbghfkaaDoorArM
import Derived.Test.YtdbampgbbghfkaaDoorArF
namespace Go.Proofs.YtdbampgbbghfkaaDoor
open Go.RowKit

/-- How long the first row is, and whether all are as long. -/
def wid (l : List (List Int)) : Nat := (l.headD []).length
def evn (l : List (List Int)) : Bool := l.all fun r => r.length == wid l
def mtE (l : List (List Int)) : Int := if 400 < l.length then 15 else if evn l = false then 11 else if 400 < wid l ∨ 400 < l.length * wid l then 15 else 0
def mtV (l : List (List Int)) : Ar := if mtE l = 0 then ⟨1, 2, l.length, wid l, flt l⟩ else Ar.no
theorem flt_evn {l : List (List Int)} (h : evn l = true) : (flt l).length = l.length * wid l := by
  have key : ∀ (m : List (List Int)) (n : Nat), (∀ r ∈ m, r.length = n) → m.flatten.length = m.length * n := by
    intro m n hm
    induction m with
    | nil => simp
    | cons r m ih =>
      rw [List.flatten_cons, List.length_append, ih (fun r hr => hm r (by simp [hr])), hm r (by simp), List.length_cons, Nat.succ_mul]
      omega
  refine key l (wid l) fun r hr => ?_
  have := List.all_eq_true.1 h r hr
  simpa using this
theorem ln_mat (n m : Nat) (hn : n ≤ 400) : lnE 2 [(n : Int), (m : Int)] = (if 400 < m ∨ 400 < n * m then 15 else 0) ∧ ln0 2 [(n : Int), (m : Int)] = (if 400 < m ∨ 400 < n * m then 0 else (n : Int)) ∧ ln1 2 [(n : Int), (m : Int)] = (if 400 < m ∨ 400 < n * m then 0 else (m : Int)) := by
  have h : lnE 2 [(n : Int), (m : Int)] = (if 400 < m ∨ 400 < n * m then 15 else 0) := by
    unfold lnE
    rw [if_neg (by omega), if_pos (by simp)]
    show ckS 2 n m = _
    unfold ckS
    rw [if_neg (by omega), if_neg (by omega)]
    have e : cn 2 (n : Int) (m : Int) = ((n * m : Nat) : Int) := by unfold cn; rw [if_neg (by decide), if_neg (by decide), Int.natCast_mul]
    rw [e]
    by_cases hb : 400 < m ∨ 400 < n * m
    · rw [if_pos (by omega), if_pos hb]
    · rw [if_neg (by omega), if_neg hb]
  unfold ln0 ln1
  rw [h]
  by_cases hb : 400 < m ∨ 400 < n * m
  · rw [if_pos hb, if_pos hb, if_pos hb]; exact ⟨rfl, rfl, rfl⟩
  · rw [if_neg hb, if_neg hb, if_neg hb]; exact ⟨rfl, rfl, rfl⟩
theorem two_int (W : World) (n m : Int) : RdI (W.alloc (.cells #[.int .i64 n, .int .i64 m] 3)).heap.size (W.alloc (.cells #[.int .i64 n, .int .i64 m] 3)) (.slice (some ⟨W.heap.size, 0, none⟩) 2 2) [n, m] := by
  refine ⟨_, 2, rfl, Nat.le_refl _, by omega, fun _ => ⟨W.heap.size, 0, rfl, by simp, fun j hj => ?_⟩⟩
  match j, hj with
  | 0, _ => simp [World.cell?_alloc_new]
  | 1, _ => simp [World.cell?_alloc_new]
/-- What a walk of Matrix keeps. -/
structure KX (w : World) (v : Value) (l : List (List Int)) (W : World) : Prop where
  bel : Below w.heap.size w W
  res : R5 W w.heap.size 0 0 0 0 (.slice none 0 0)
  rd : RdM w.heap.size W v l
theorem KX.next {w W W' : World} {v : Value} {l : List (List Int)} (h : KX w v l W) (hb : Below W.heap.size W W') : KX w v l W' := ⟨h.bel.trans (hb.mono h.bel.size), h.res.next hb, h.rd.below (hb.mono h.bel.size)⟩
theorem KX.new {w : World} {v : Value} {l : List (List Int)} (hv : RdM w.heap.size w v l) : KX w v l (w.alloc (.cells #[.int .i64 0, .int .i64 0, .int .i64 0, .int .i64 0, .slice none 0 0] 27)) := ⟨bel1 _ _, R5.new _ _ _ _ _ _, hv.below (bel1 _ _)⟩
/-- What its last region keeps. -/
structure KY (w : World) (g : Nat) (n m : Int) (W : World) : Prop where
  bel : Below w.heap.size w W
  box : R2 W g n m
abbrev KY2 (w : World) (g : Nat) (n m : Int) (W : World) : Prop := KY w g n m W ∧ W.cell? ⟨g, 0, none⟩ = some (.int .i64 n) ∧ W.cell? ⟨g, 1, none⟩ = some (.int .i64 m)
theorem KY.all {w W : World} {g : Nat} {n m : Int} (h : KY w g n m W) : KY2 w g n m W := ⟨h, h.box.c0, h.box.c1⟩
theorem KY.next {w W W' : World} {g : Nat} {n m : Int} (h : KY w g n m W) (hb : Below W.heap.size W W') : KY2 w g n m W' := KY.all ⟨h.bel.trans (hb.mono h.bel.size), h.box.next hb⟩
theorem KY.drew {w W : World} {g : Nat} {n m : Int} (h : KY w g n m W) : KY2 w g n m W.drew := h.next (Below.refl _ _).drew
theorem KY.st {w W : World} {g : Nat} {n m : Int} (h : KY w g n m W) (hg : g ≠ w.heap.size) (k r a b : Int) (u : Value) : KY2 w g n m (st5 W w.heap.size k r a b u) :=
  KY.all ⟨st5_below k r a b u (Nat.le_refl _) h.bel, (st5_other k r a b u hg).trans h.box⟩
theorem evn_at {l : List (List Int)} {j : Nat} (h : j < l.length) (hn : l[j].length ≠ wid l) : evn l = false := by
  unfold evn
  rw [List.all_eq_false]
  exact ⟨l[j], List.getElem_mem h, by simpa using hn⟩
theorem evn_all {l : List (List Int)} (h : ∀ j (hj : j < l.length), l[j].length = wid l) : evn l = true := by
  unfold evn
  rw [List.all_eq_true]
  intro r hr
  obtain ⟨j, hj, rfl⟩ := List.getElem_of_mem hr
  simpa using h j hj

set_option maxRecDepth 100000 in
set_option maxHeartbeats 8000000 in
theorem matrix_code (v : Value) (l : List (List Int)) (w : World) (hv : RdM w.heap.size w v l) (hsz : ∀ r ∈ l, r.length ≤ 1000000) :
    Calls Tryd.prog 13 #[v] w (RetE (mtV l) (mtE l) w) := by
  have HK := Lib.hid (KX.new hv)
  have HV := Lib.hid hv
  obtain ⟨p, cap, rfl, ⟨hcap, hcap2⟩, hcell⟩ := hv
  clear hcell
  have y0 := HK.out.res.c0; have y1 := HK.out.res.c1; have y2 := HK.out.res.c2; have y3 := HK.out.res.c3; have y4 := HK.out.res.c4
  by_cases h4 : 400 < l.length
  · have HE : Hid (mtE l = 15 ∧ mtV l = Ar.no) := by
      have e : mtE l = 15 := if_pos h4
      exact ⟨e, by unfold mtV; rw [e]; rfl⟩
    rw [HE.out.1, HE.out.2]
    have h4i : (400 : Int) < (l.length : Int) := by omega
    clear h4
    go_enter Tryd.func13, Tryd.ntmps13
    go_wp2
    exact bodyPost_ret (v := .tuple #[A5 0 0 0 0 (.slice none 0 0), .int .i64 15]) (by simp [results, Tryd.results13, go_sem]) rfl (retE_no 15 (bel1 _ _))
  · have h4n : l.length ≤ 400 := by omega
    have h4i : ¬ (400 : Int) < (l.length : Int) := by omega
    have HSz := Lib.hid hsz
    clear hsz h4
    by_cases h0 : 0 < l.length
    · have h0i : (0 : Int) < (l.length : Int) := by omega
      have HW : Hid (wid l = l[0].length) := by
        unfold Hid wid
        cases l with
        | nil => simp at h0
        | cons r l => rfl
      obtain ⟨b, off, rfl, hbb, hc⟩ := HK.out.rd.cells (by intro e; rw [e] at h0; simp at h0)
      obtain ⟨x, hx, hxr, hxn⟩ := hc 0 h0
      obtain ⟨xa, xc, rfl, hx1, hx2, hx3⟩ := hxr
      rw [← HW.out] at hx hx1
      rw [Nat.add_zero] at hx
      clear hx3 hxn hc
      go_enter Tryd.func13, Tryd.ntmps13
      go_wp2
      clear hx y0 y1 y2 y3 y4
      go_loopg [22] l.length (fun g i wr => ∃ j : Nat, j + g = l.length ∧ i = .int .i64 j ∧ KX w (.slice (some ⟨b, off, none⟩) l.length cap) l wr ∧ ∀ i (hi : i < l.length), i < j → l[i].length = wid l)
      case atStart => exact ⟨0, by omega, rfl, HK.out, fun i _ h => absurd h (by omega)⟩
      case round =>
        obtain ⟨j, hjg, rfl, hk, hall⟩ := hrel
        have HK2 := Lib.hid hk
        have HAll := Lib.hid hall
        clear hk hall HK
        cases gk with
        | zero =>
          have hjz : ¬ ((j : Int) < (l.length : Int)) := by omega
          have HEv : Hid (evn l = true) := evn_all fun i hi => HAll.out i hi (by omega)
          clear HAll
          have HL : Hid (∀ (W : World) (g : Nat), W.heap.size = g → Calls Tryd.prog 31 #[.int .i64 2, .slice (some ⟨g, 0, none⟩) 2 2] (W.alloc (.cells #[.int .i64 (l.length : Int), .int .i64 (wid l : Int)] 3)) fun e w' => e = .returned (.tuple #[P2 (if 400 < wid l ∨ 400 < l.length * wid l then 0 else (l.length : Int)) (if 400 < wid l ∨ 400 < l.length * wid l then 0 else (wid l : Int)), .int .i64 (if 400 < wid l ∨ 400 < l.length * wid l then 15 else 0)]) ∧ Below W.heap.size W w') := fun W g hg => by
            subst hg
            have := lens_any 2 _ [(l.length : Int), (wid l : Int)] (W.alloc (.cells #[.int .i64 (l.length : Int), .int .i64 (wid l : Int)] 3)) (two_int W l.length (wid l))
            rw [(ln_mat l.length (wid l) h4n).1, (ln_mat l.length (wid l) h4n).2.1, (ln_mat l.length (wid l) h4n).2.2] at this
            exact this.mono fun e w' ⟨h1, h2⟩ => ⟨h1, (bel1 _ _).trans (h2.mono (by simp))⟩
          by_cases hb : 400 < wid l ∨ 400 < l.length * wid l
          · have HE : Hid (mtE l = 15 ∧ mtV l = Ar.no) := by
              have e : mtE l = 15 := by unfold mtE; rw [if_neg (by omega), if_neg (by rw [HEv.out]; decide), if_pos hb]
              exact ⟨e, by unfold mtV; rw [e]; rfl⟩
            rw [if_pos hb, if_pos hb, if_pos hb] at HL
            clear hb
            go_wp2_with (go_at_call 31; refine (HL.out _ _ (by simp)).mono ?_; rintro e w' ⟨rfl, hb⟩; have HK3 := Lib.hid ((HK2.out.next hb).next (bel1 _ (.cells #[.int .i64 0, .int .i64 0] 25))); clear HK2 hb; have HR := Lib.hid HK3.out.res; have y0 := HR.out.c0; have y1 := HR.out.c1; have y2 := HR.out.c2; have y3 := HR.out.c3; have y4 := HR.out.c4; have f0 := HR.out.fr 0; have f1 := HR.out.fr 1; have f2 := HR.out.fr 2; have f3 := HR.out.fr 3; have f4 := HR.out.fr 4; have HS := Lib.hid (HR.out.set 0 0 0 0 (.slice none 0 0)); have z0 := HS.out.c0; have z1 := HS.out.c1; have z2 := HS.out.c2; have z3 := HS.out.c3; have z4 := HS.out.c4)
            refine bodyPost_ret (v := .tuple #[A5 0 0 0 0 (.slice none 0 0), .int .i64 15]) (by simp [results, Tryd.results13, go_sem, z0, z1, z2, z3, z4]) rfl ?_
            rw [HE.out.1, HE.out.2]
            exact retE_no 15 (st5_below _ _ _ _ _ (by omega) HK3.out.bel)
          · have HE : Hid (mtE l = 0 ∧ mtV l = ⟨1, 2, l.length, wid l, flt l⟩) := by
              have e : mtE l = 0 := by unfold mtE; rw [if_neg (by omega), if_neg (by rw [HEv.out]; decide), if_neg hb]
              exact ⟨e, by unfold mtV; rw [if_pos e]⟩
            rw [if_neg hb, if_neg hb, if_neg hb] at HL
            have hfl : (flt l).length ≤ 400 := by rw [flt_evn HEv.out]; omega
            have HCo := Lib.hid (fun W (h : RdM W.heap.size W (.slice (some ⟨b, off, none⟩) l.length cap) l) => concat_any _ l W h (by omega) (by omega))
            have HFi := Lib.hid (fun u W h => filled_any 1 2 l.length (wid l) u (flt l) W h (by omega))
            clear hb
            go_wp2_with (go_at_call 31; refine (HL.out _ _ (by simp)).mono ?_; rintro e w6 ⟨rfl, hb⟩; have HK3 := Lib.hid (HK2.out.next hb); clear HK2 hb; have HX0 := Lib.hid (R2.new w6 (l.length : Int) (wid l : Int)); have u0 := HX0.out.c0; have u1 := HX0.out.c1)
            have hgl : w.heap.size < w6.heap.size := HK3.out.res.lt
            have hS : KY w w6.heap.size (l.length : Int) (wid l : Int) (w6.alloc (.cells #[.int .i64 (l.length : Int), .int .i64 (wid l : Int)] 25)) := ⟨HK3.out.bel.trans ((bel1 _ _).mono HK3.out.bel.size), HX0.out⟩
            have HG : Hid (R5 (w6.alloc (.cells #[.int .i64 (l.length : Int), .int .i64 (wid l : Int)] 25)).drew w.heap.size 0 0 0 0 (.slice none 0 0)) := (HK3.out.res.next (bel1 _ _)).next (Below.refl _ _).drew
            have HM : Hid (RdM w.heap.size (w6.alloc (.cells #[.int .i64 (l.length : Int), .int .i64 (wid l : Int)] 25)).drew (.slice (some ⟨b, off, none⟩) l.length cap) l) := (HK3.out.next (bel1 _ _)).rd
            clear u0 u1 HX0 HK3
            refine wp_region_held_drew (S := (KY2 w w6.heap.size (l.length : Int) (wid l : Int))) (by kernel_rfl) ?_ (fun hHeld => ?_)
            · exact hS.drew
            clear hS
            generalize World.drew _ = wd at hHeld HG HM ⊢
            refine wpAnyH_take (i := 0) (v := ?_) rfl (by kernel_rfl) (by kernel_rfl) (by kernel_rfl) (fun _ _ _ h => h) (Or.inl ⟨by rfl, ?_⟩) (by assumption) ?_
            rotate_left
            · ((intro w0 hSw); (try dsimp only at hSw); go_simp; (try with_reducible rfl))
            change wpAnyH _ _ _ _ _ _ _ (Act.put _ (some 44) _) _
            try simp only [Act.put, List.setIfInBounds_toArray, List.set_cons_zero, List.set_cons_succ]
            refine wpAnyH_take (i := 1) (v := ?_) rfl (by kernel_rfl) (by kernel_rfl) (by kernel_rfl) (fun _ _ _ h => h) (Or.inl ⟨by rfl, ?_⟩) (by assumption) ?_
            rotate_left
            · ((intro w0 hSw); (try dsimp only at hSw); go_simp; (try with_reducible rfl))
            change wpAnyH _ _ _ _ _ _ _ (Act.put _ (some 45) _) _
            try simp only [Act.put, List.setIfInBounds_toArray, List.set_cons_zero, List.set_cons_succ]
            refine wpAnyH_ready (rs := [2]) (by kernel_rfl) (by simp) ?_
            refine AllReadyH.cons rfl (fun K hK => ?_) (AllReadyH.nil)
            go_simp
            go_at_call 32
            refine (HCo.out _ (HM.out.mono hHeld.1.bel.size)).mono ?_
            rintro e wc ⟨u, rfl, hu, hbn⟩
            obtain ⟨qa, qc, rfl⟩ := ins_form hu
            have HU := Lib.hid hu
            clear hu
            have HG2 := Lib.hid (HG.out.next hbn)
            clear HG
            refine hK.out _ _ ?_ (fun hHeld2 => ?_)
            · exact hHeld.1.next hbn
            clear hK K hHeld
            have hHeld := hHeld2; clear hHeld2
            try change wpAnyH _ _ _ _ _ _ _ (Act.put _ (some 46) _) _
            try simp only [Act.put, List.setIfInBounds_toArray, List.set_cons_zero, List.set_cons_succ]
            refine wpAnyH_ready (rs := [3]) (by kernel_rfl) (by simp) ?_
            refine AllReadyH.cons rfl (fun K hK => ?_) (AllReadyH.nil)
            go_simp
            go_at_call 27
            refine (HFi.out _ _ (ins_new HU.out).rd).mono ?_
            rintro e wf ⟨u2, rfl, hu2, hbn⟩
            obtain ⟨ra, rc, rfl, hr1, hr2⟩ := hu2.form
            have HU2 := Lib.hid hu2
            have hlt2 := HG2.out.lt
            clear hu2
            have HG3 := Lib.hid (HG2.out.next hbn)
            clear HG2 HU
            refine hK.out _ _ ?_ (fun hHeld2 => ?_)
            · exact hHeld.1.next hbn
            clear hK K hHeld
            have hHeld := hHeld2; clear hHeld2
            try change wpAnyH _ _ _ _ _ _ _ (Act.put _ (some 47) _) _
            try dsimp only
            try simp only [Act.put, List.setIfInBounds_toArray, List.set_cons_zero, List.set_cons_succ]
            have y0 := HG3.out.c0; have y1 := HG3.out.c1; have y2 := HG3.out.c2; have y3 := HG3.out.c3; have y4 := HG3.out.c4
            have f0 := HG3.out.fr 0; have f1 := HG3.out.fr 1; have f2 := HG3.out.fr 2; have f3 := HG3.out.fr 3; have f4 := HG3.out.fr 4
            have HS := Lib.hid (HG3.out.set 1 2 (l.length : Int) (wid l : Int) (.slice ra (flt l).length rc))
            refine wpAnyH_ready (rs := [4]) (by kernel_rfl) (by simp) ?_
            refine AllReadyH.cons rfl (fun K hK => ?_) (AllReadyH.nil)
            go_simp
            refine hK.out _ _ ?_ (fun hHeld2 => ?_)
            · exact hHeld.1.st (by omega) _ _ _ _ _
            clear hK K hHeld
            have hHeld := hHeld2; clear hHeld2
            try change wpAnyH _ _ _ _ _ _ _ (Act.put _ (none) _) _
            try simp only [Act.put, List.setIfInBounds_toArray, List.set_cons_zero, List.set_cons_succ]
            refine wpAnyH_take (i := 5) (v := ?_) rfl (by kernel_rfl) (by kernel_rfl) (by kernel_rfl) (fun _ _ _ h => h) (Or.inl ⟨by rfl, ?_⟩) (by assumption) ?_
            rotate_left
            · ((intro w0 hSw); (try dsimp only at hSw); go_simp; (try with_reducible rfl))
            change wpAnyH _ _ _ _ _ _ _ (Act.put _ (some 3) _) _
            try simp only [Act.put, List.setIfInBounds_toArray, List.set_cons_zero, List.set_cons_succ]
            refine wpAnyH_done (by kernel_rfl) ?_ _
            have HB := Lib.hid hHeld.1.bel
            clear hHeld y0 y1 y2 y3 y4 f0 f1 f2 f3 f4
            have z0 := HS.out.c0; have z1 := HS.out.c1; have z2 := HS.out.c2; have z3 := HS.out.c3; have z4 := HS.out.c4
            go_wp2
            refine bodyPost_ret (v := .tuple #[A5 1 2 (l.length : Int) (wid l : Int) (.slice ra (flt l).length rc), .int .i64 0]) (by simp [results, Tryd.results13, go_sem, z0, z1, z2, z3, z4]) rfl ?_
            rw [HE.out.1, HE.out.2]
            exact ⟨_, rfl, (HU2.out.st5 hlt2 _ _ _ _ _).mono (by omega), HB.out⟩
        | succ g =>
          have hjz : (j : Int) < (l.length : Int) := by omega
          have hj : j < l.length := by omega
          obtain ⟨b, off, hpe, hbb, hc⟩ := HK2.out.rd.cells (by intro e; rw [e] at hj; simp at hj)
          cases hpe
          obtain ⟨x, hx, hxr, hxn⟩ := hc j hj
          obtain ⟨xa, xc, rfl, hx1, hx2, hx3⟩ := hxr
          clear hx3 hxn hc
          by_cases he : l[j].length = wid l
          · have he1 : ((l[j].length : Int) != (wid l : Int)) = false := by simp [he]
            have HEq := Lib.hid he
            clear he
            go_wp2
            go_roundg g
            case measure => omega
            case rel => exact ⟨j + 1, by omega, by go_num, HK2.out, fun i hi hij => by
              by_cases e : i = j
              · subst e; exact HEq.out
              · exact HAll.out i hi (by omega)⟩
          · have he1 : ((l[j].length : Int) != (wid l : Int)) = true := by rw [bne_iff_ne]; omega
            have HE : Hid (mtE l = 11 ∧ mtV l = Ar.no) := by
              have e : mtE l = 11 := by unfold mtE; rw [if_neg (by omega), if_pos (evn_at hj he)]
              exact ⟨e, by unfold mtV; rw [e]; rfl⟩
            clear he
            have HR := Lib.hid HK2.out.res
            have y0 := HR.out.c0; have y1 := HR.out.c1; have y2 := HR.out.c2; have y3 := HR.out.c3; have y4 := HR.out.c4
            have f0 := HR.out.fr 0; have f1 := HR.out.fr 1; have f2 := HR.out.fr 2; have f3 := HR.out.fr 3; have f4 := HR.out.fr 4
            have HS := Lib.hid (HR.out.set 0 0 0 0 (.slice none 0 0))
            have z0 := HS.out.c0; have z1 := HS.out.c1; have z2 := HS.out.c2; have z3 := HS.out.c3; have z4 := HS.out.c4
            go_wp2
            refine bodyPost_ret (v := .tuple #[A5 0 0 0 0 (.slice none 0 0), .int .i64 11]) (by simp [results, Tryd.results13, go_sem, z0, z1, z2, z3, z4]) rfl ?_
            rw [HE.out.1, HE.out.2]
            exact retE_no 11 (st5_below _ _ _ _ _ (by omega) HK2.out.bel)
    · obtain rfl : l = [] := List.length_eq_zero_iff.1 (by omega)
      have HE : Hid (mtE [] = 0 ∧ mtV [] = ⟨1, 2, 0, 0, []⟩) := by unfold Hid; exact ⟨by decide, rfl⟩
      have HL : Hid (∀ (W : World) (g : Nat), W.heap.size = g → Calls Tryd.prog 31 #[.int .i64 2, .slice (some ⟨g, 0, none⟩) 2 2] (W.alloc (.cells #[.int .i64 0, .int .i64 0] 3)) fun e w' => e = .returned (.tuple #[P2 0 0, .int .i64 0]) ∧ Below W.heap.size W w') := fun W g hg => by
        subst hg
        have := lens_any 2 _ [0, 0] (W.alloc (.cells #[.int .i64 0, .int .i64 0] 3)) (two_int W 0 0)
        rw [show lnE 2 [0, 0] = 0 by decide, show ln0 2 [0, 0] = 0 by decide, show ln1 2 [0, 0] = 0 by decide] at this
        exact this.mono fun e w' ⟨h1, h2⟩ => ⟨h1, (bel1 _ _).trans (h2.mono (by simp))⟩
      have HCo := Lib.hid (fun W (h : RdM W.heap.size W (.slice p 0 cap) []) => concat_any _ [] W h (by decide) (by decide))
      have HFi := Lib.hid (fun u W h => filled_any 1 2 0 0 u [] W h (by decide))
      simp only [List.length_nil] at HK HV ⊢
      clear h0 h4n h4i HSz
      go_enter Tryd.func13, Tryd.ntmps13
      go_wp2
      refine wp_loop_rounds 4 ?_
      rw [rounds_succ]
      have HK2 := HK
      clear y0 y1 y2 y3 y4 HK
      go_wp2_with (go_at_call 31; refine (HL.out _ _ (by simp)).mono ?_; rintro e w6 ⟨rfl, hb⟩; have HK3 := Lib.hid (HK2.out.next hb); clear HK2 hb; have HX0 := Lib.hid (R2.new w6 0 0); have u0 := HX0.out.c0; have u1 := HX0.out.c1)
      have hgl : w.heap.size < w6.heap.size := HK3.out.res.lt
      have hS : KY w w6.heap.size 0 0 (w6.alloc (.cells #[.int .i64 0, .int .i64 0] 25)) := ⟨HK3.out.bel.trans ((bel1 _ _).mono HK3.out.bel.size), HX0.out⟩
      have HG : Hid (R5 (w6.alloc (.cells #[.int .i64 0, .int .i64 0] 25)).drew w.heap.size 0 0 0 0 (.slice none 0 0)) := (HK3.out.res.next (bel1 _ _)).next (Below.refl _ _).drew
      have HM : Hid (RdM w.heap.size (w6.alloc (.cells #[.int .i64 0, .int .i64 0] 25)).drew (.slice p 0 cap) []) := (HK3.out.next (bel1 _ _)).rd
      clear u0 u1 HX0 HK3
      refine wp_region_held_drew (S := (KY2 w w6.heap.size 0 0)) (by kernel_rfl) ?_ (fun hHeld => ?_)
      · exact hS.drew
      clear hS
      generalize World.drew _ = wd at hHeld HG HM ⊢
      refine wpAnyH_take (i := 0) (v := ?_) rfl (by kernel_rfl) (by kernel_rfl) (by kernel_rfl) (fun _ _ _ h => h) (Or.inl ⟨by rfl, ?_⟩) (by assumption) ?_
      rotate_left
      · ((intro w0 hSw); (try dsimp only at hSw); go_simp; (try with_reducible rfl))
      change wpAnyH _ _ _ _ _ _ _ (Act.put _ (some 44) _) _
      try simp only [Act.put, List.setIfInBounds_toArray, List.set_cons_zero, List.set_cons_succ]
      refine wpAnyH_take (i := 1) (v := ?_) rfl (by kernel_rfl) (by kernel_rfl) (by kernel_rfl) (fun _ _ _ h => h) (Or.inl ⟨by rfl, ?_⟩) (by assumption) ?_
      rotate_left
      · ((intro w0 hSw); (try dsimp only at hSw); go_simp; (try with_reducible rfl))
      change wpAnyH _ _ _ _ _ _ _ (Act.put _ (some 45) _) _
      try simp only [Act.put, List.setIfInBounds_toArray, List.set_cons_zero, List.set_cons_succ]
      refine wpAnyH_ready (rs := [2]) (by kernel_rfl) (by simp) ?_
      refine AllReadyH.cons rfl (fun K hK => ?_) (AllReadyH.nil)
      go_simp
      go_at_call 32
      refine (HCo.out _ (HM.out.mono hHeld.1.bel.size)).mono ?_
      rintro e wc ⟨u, rfl, hu, hbn⟩
      obtain ⟨qa, qc, rfl⟩ := ins_form hu
      have HU := Lib.hid hu
      clear hu
      have HG2 := Lib.hid (HG.out.next hbn)
      clear HG
      refine hK.out _ _ ?_ (fun hHeld2 => ?_)
      · exact hHeld.1.next hbn
      clear hK K hHeld
      have hHeld := hHeld2; clear hHeld2
      try change wpAnyH _ _ _ _ _ _ _ (Act.put _ (some 46) _) _
      try simp only [Act.put, List.setIfInBounds_toArray, List.set_cons_zero, List.set_cons_succ]
      refine wpAnyH_ready (rs := [3]) (by kernel_rfl) (by simp) ?_
      refine AllReadyH.cons rfl (fun K hK => ?_) (AllReadyH.nil)
      go_simp
      go_at_call 27
      refine (HFi.out _ _ (ins_new HU.out).rd).mono ?_
      rintro e wf ⟨u2, rfl, hu2, hbn⟩
      obtain ⟨ra, rc, rfl, hr1, hr2⟩ := hu2.form
      have HU2 := Lib.hid hu2
      have hlt2 := HG2.out.lt
      clear hu2
      have HG3 := Lib.hid (HG2.out.next hbn)
      clear HG2 HU
      refine hK.out _ _ ?_ (fun hHeld2 => ?_)
      · exact hHeld.1.next hbn
      clear hK K hHeld
      have hHeld := hHeld2; clear hHeld2
      try change wpAnyH _ _ _ _ _ _ _ (Act.put _ (some 47) _) _
      try dsimp only
      try simp only [Act.put, List.setIfInBounds_toArray, List.set_cons_zero, List.set_cons_succ]
      have y0 := HG3.out.c0; have y1 := HG3.out.c1; have y2 := HG3.out.c2; have y3 := HG3.out.c3; have y4 := HG3.out.c4
      have f0 := HG3.out.fr 0; have f1 := HG3.out.fr 1; have f2 := HG3.out.fr 2; have f3 := HG3.out.fr 3; have f4 := HG3.out.fr 4
      have HS := Lib.hid (HG3.out.set 1 2 0 0 (.slice ra 0 rc))
      refine wpAnyH_ready (rs := [4]) (by kernel_rfl) (by simp) ?_
      refine AllReadyH.cons rfl (fun K hK => ?_) (AllReadyH.nil)
      go_simp
      refine hK.out _ _ ?_ (fun hHeld2 => ?_)
      · exact hHeld.1.st (by omega) _ _ _ _ _
      clear hK K hHeld
      have hHeld := hHeld2; clear hHeld2
      try change wpAnyH _ _ _ _ _ _ _ (Act.put _ (none) _) _
      try simp only [Act.put, List.setIfInBounds_toArray, List.set_cons_zero, List.set_cons_succ]
      refine wpAnyH_take (i := 5) (v := ?_) rfl (by kernel_rfl) (by kernel_rfl) (by kernel_rfl) (fun _ _ _ h => h) (Or.inl ⟨by rfl, ?_⟩) (by assumption) ?_
      rotate_left
      · ((intro w0 hSw); (try dsimp only at hSw); go_simp; (try with_reducible rfl))
      change wpAnyH _ _ _ _ _ _ _ (Act.put _ (some 3) _) _
      try simp only [Act.put, List.setIfInBounds_toArray, List.set_cons_zero, List.set_cons_succ]
      refine wpAnyH_done (by kernel_rfl) ?_ _
      have HB := Lib.hid hHeld.1.bel
      clear hHeld y0 y1 y2 y3 y4 f0 f1 f2 f3 f4
      have z0 := HS.out.c0; have z1 := HS.out.c1; have z2 := HS.out.c2; have z3 := HS.out.c3; have z4 := HS.out.c4
      go_wp2
      refine bodyPost_ret (v := .tuple #[A5 1 2 0 0 (.slice ra 0 rc), .int .i64 0]) (by simp [results, Tryd.results13, go_sem, z0, z1, z2, z3, z4]) rfl ?_
      rw [HE.out.1, HE.out.2]
      exact ⟨_, rfl, (HU2.out.st5 hlt2 _ _ _ _ _).mono (by omega), HB.out⟩
end Go.Proofs.YtdbampgbbghfkaaDoor
