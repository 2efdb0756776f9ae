/- The reference's Make. -/
import Derived.Test.YtmacimkkgiogbaaDoorArE
import Derived.Deep.RegionHeld3
namespace Go.Proofs.YtmacimkkgiogbaaDoor
open Go.RowKit

/-- append of whatever numbers to what the call has made, as one operation. -/
theorem wp_append_is {w : World} {o : Oper} {a : Act} {K : Act → World → Prop} {Q : Exit → Act → World → Prop} (s x : Operand)
    (ho : o.op = .call { callee := .builtin .append, args := #[s, x], argTypes := #[23, 23] }) (B : Nat) (v : Value) (l : List Int) (hs : a.eval s = v) (hown : Ru.Ins 2 w B v l)
    (u : Value) (m : List Int) (hx : a.eval x = u) (B' : Nat) (hu : RdI B' w u m) (hn : Ru.NilC u) (hl : l.length + m.length ≤ 1000000) (hB : B ≤ w.heap.size)
    (h : ∀ v' w', Ru.Ins 2 w' B v' (l ++ m) → w.grownBy w' v.ownBlock → K (a.put o.dst v') w') : o.wp Tryd.prog a w K Q := by
  obtain ⟨i0, hi, hz0, hz1, hz2⟩ := info_parts info64
  obtain ⟨ua, cap, rfl, hc1, hc2, hcell⟩ := hu
  cases ua with
  | none =>
    have hm : m = [] := by
      rcases m with _ | ⟨c, m⟩
      · rfl
      · obtain ⟨b, off, e, _⟩ := hcell (by simp); cases e
    subst hm
    have hcap := hn _ _ rfl
    subst hcap
    refine Ru.wp_append_none s x 23 ho B 2 i0 1 Tryd.underlying23 hi v l.length _ hs hown hx ?_
    exact h v w (by rw [List.append_nil]; exact hown) (World.grownBy.refl w _)
  | some ad =>
    refine wp_append_own _ s x 23 ho B 2 i0 (.int .i64 0) 1 8 Tryd.underlying23 hi hz0 hz1 hz2 rfl (by decide) v l.length _ hs hown ad m.length cap (m.map fun c => .int .i64 c) hx (by simp) ?_ (by simp [Value.oneCell']) (by unfold maxLen; omega) (by omega) hB ?_
    · intro j z hz
      have hj : j < m.length := by
        rcases Nat.lt_or_ge j m.length with hj | hj
        · exact hj
        · rw [List.getElem?_eq_none (by simp; omega)] at hz; cases hz
      obtain ⟨b, off, e, _, hc⟩ := hcell (by intro e; subst e; simp at hj)
      cases e
      rw [Ru.add_off, hc j hj]
      rw [List.getElem?_map, List.getElem?_eq_getElem hj] at hz
      exact hz
    · intro v' w' hown' hg _
      exact h v' w' (by unfold Ru.Ins; rw [List.length_append, List.map_append]; exact hown') hg
/-- What the call has made is new memory. -/
theorem ins_new {B : Nat} {w : World} {v : Value} {l : List Int} (h : Ru.Ins 2 w B v l) : RdN B w v l := by
  rcases h.2 with ⟨rfl, h0⟩ | ⟨g, cap, cur, rfl, hg, hh, r1, r2, r3, r4⟩
  · have : l = [] := List.length_eq_zero_iff.1 h0
    subst this
    exact RdN.nil _ _
  · have hlt : g < w.heap.size := (Array.getElem?_eq_some_iff.1 hh).1
    refine ⟨_, cap, rfl, ⟨r1, by unfold maxLen at r2; omega, fun e => by cases e⟩, fun _ => ⟨g, 0, rfl, ⟨hg, hlt⟩, fun j hj => ?_⟩⟩
    have := World.ownsRow.cellAt h j (by omega)
    rw [Nat.zero_add, this]
    simp [List.getElem?_eq_getElem hj]
theorem ins_lit (W : World) : Ru.Ins 2 (W.alloc (.cells #[] 2)) W.heap.size (.slice (some ⟨W.heap.size, 0, none⟩) 0 0) [] := World.ownsRow_lit W #[] 0 (Nat.le_refl _) (by decide) rfl
theorem ins_grown {B : Nat} {w w' : World} {v : Value} {l : List Int} (h : Ru.Ins 2 w B v l) (hB : B ≤ w.heap.size) (hg : w.grownBy w' v.ownBlock) : Below B w w' :=
  (Below.refl B w).grown hg hB (fun j e => (World.ownsRow.lt h j e).1)
/-- The store of an array into a block of its own leaves the numbers that the call has made. -/
theorem st_new {W : World} {g B : Nat} {v u : Value} {l : List Int} {k0 r0 a0 b0 : Int} (hi : Ru.Ins 2 W B v l) (hg : R5 W g k0 r0 a0 b0 u) (k r a b : Int) (x : Value) : RdN B (st5 W g k r a b x) v l := by
  rcases hi.2 with ⟨rfl, h0⟩ | ⟨c, cap, cur, rfl, hc, hh, r1, r2, r3, r4⟩
  · have : l = [] := List.length_eq_zero_iff.1 h0
    subst this
    exact RdN.nil _ _
  · have hlt : c < W.heap.size := (Array.getElem?_eq_some_iff.1 hh).1
    have hne : c ≠ g := by
      intro e
      subst e
      unfold R5 at hg
      rw [hh] at hg
      simp at hg
    refine ⟨_, cap, rfl, ⟨r1, by unfold maxLen at r2; omega, fun e => by cases e⟩, fun _ => ⟨c, 0, rfl, ⟨hc, by rw [st5_size]; exact hlt⟩, fun j hj => ?_⟩⟩
    have := World.ownsRow.cellAt hi j (by omega)
    rw [Nat.zero_add, World.cell?, st5_other k r a b x hne]
    rw [World.cell?] at this
    rw [this]
    simp [List.getElem?_eq_getElem hj]
/-- What the region of the reference's Make keeps. -/
structure KC (w : World) (B : Nat) (a b : Int) (v : Value) (z : List Int) (W : World) : Prop where
  bel : Below w.heap.size w W
  box : R2 W w.heap.size a b
  res : R5 W (w.heap.size + 1) 0 0 0 0 (.slice none 0 0)
  rd : RdI B W v z
  lt : w.heap.size + 1 < B
  sz : B ≤ W.heap.size
theorem KC.next {w W W' : World} {B : Nat} {a b : Int} {v : Value} {z : List Int} (h : KC w B a b v z W) (hb : Below B W W') : KC w B a b v z W' :=
  ⟨h.bel.trans (hb.mono (by have := h.lt; omega)), (hb.block _ (by have := h.lt; omega)).trans h.box, (hb.block _ h.lt).trans h.res, h.rd.below hb, h.lt, Nat.le_trans h.sz hb.size⟩
abbrev KC2 (w : World) (B : Nat) (a b : Int) (v : Value) (z : List Int) (W : World) : Prop := KC w B a b v z W ∧ W.cell? ⟨w.heap.size, 0, none⟩ = some (.int .i64 a) ∧ W.cell? ⟨w.heap.size, 1, none⟩ = some (.int .i64 b)
theorem KC.all {w W : World} {B : Nat} {a b : Int} {v : Value} {z : List Int} (h : KC w B a b v z W) : KC2 w B a b v z W := ⟨h, h.box.c0, h.box.c1⟩
theorem KC.up {w W : World} {B : Nat} {a b : Int} {v : Value} {z : List Int} (h : KC w B a b v z W) (o : Obj) : KC2 w B a b v z (W.alloc o) := (h.next ((Below.refl _ _).alloc h.sz o)).all
theorem KC.st {w W : World} {B g : Nat} {a b : Int} {v : Value} {z : List Int} (h : KC w B a b v z W) (hg : B ≤ g) (k r x y : Int) (u : Value) : KC2 w B a b v z (st5 W g k r x y u) := (h.next (st5_below k r x y u hg (Below.refl _ _))).all
theorem KC.of {w W : World} {a b : Int} {v : Value} {z : List Int} (h : KB w a b v z W) : KC w W.heap.size a b v z W := ⟨h.bel, h.box, h.res, h.rd, h.res.lt, Nat.le_refl _⟩
theorem KC.drew {w W : World} {B : Nat} {a b : Int} {v : Value} {z : List Int} (h : KC w B a b v z W) : KC w B a b v z W.drew := h.next (Below.refl _ _).drew

set_option maxRecDepth 100000 in
set_option maxHeartbeats 8000000 in
theorem rmake_any (k r a b : Int) (z : List Int) (v : Value) (w : World) (hw : Ru.Lay w) (hv : RdI w.heap.size w v z) (hn : Ru.NilC v) (hl : z.length ≤ 100000) :
    Calls Tryd.prog 14 #[.int .i64 k, .int .i64 r, P2 a b, v] w (RetE (mk ⟨k, r, a, b, z⟩) (ck ⟨k, r, a, b, z⟩) w) := by
  have HC : Hid (∀ W u, RdI W.heap.size W u z → Calls Tryd.prog 18 #[A5 k r a b u] W fun e w' => e = .returned (.int .i64 (ck ⟨k, r, a, b, z⟩)) ∧ Below W.heap.size W w') := fun W u h2 => archeck_any ⟨k, r, a, b, z⟩ u W h2 (by simp only; omega)
  have HK := Lib.hid (KC.of (KB.new a b hw hv))
  obtain ⟨p, cap, rfl, hcap, hcap2, hcell⟩ := hv
  clear hcell hw
  have HN := Lib.hid hn
  clear hn
  have HE : Hid ((ck ⟨k, r, a, b, z⟩ = 0 ∧ mk ⟨k, r, a, b, z⟩ = ⟨k, r, a, b, z⟩) ∨ (ck ⟨k, r, a, b, z⟩ ≠ 0 ∧ mk ⟨k, r, a, b, z⟩ = Ar.no)) := by
    by_cases hk : ck ⟨k, r, a, b, z⟩ = 0
    · exact .inl ⟨hk, mk_yes hk⟩
    · exact .inr ⟨hk, mk_no hk⟩
  generalize ck ⟨k, r, a, b, z⟩ = E at HC HE ⊢
  generalize mk ⟨k, r, a, b, z⟩ = M at HE ⊢
  go_enter Tryd.func14, Tryd.ntmps14
  go_wp2
  have hS := (HK.out).drew
  generalize hB : ((w.alloc _).alloc _).heap.size = B at hS
  clear HK hB
  have hlB : w.heap.size + 1 < B := hS.lt
  refine wp_region_held_drew (S := (KC2 w B a b (.slice p z.length cap) z)) (by kernel_rfl) ?_ (fun hHeld => ?_)
  · exact KC.all hS
  generalize World.drew _ = wd at hHeld ⊢
  clear hS
  have hHB : B ≤ wd.heap.size := hHeld.1.sz
  refine wpAnyH_take (i := 0) (v := ?_) rfl (by kernel_rfl) (by kernel_rfl) (by kernel_rfl) (fun _ _ _ h => h) (Or.inl ⟨by rfl, ?_⟩) (by assumption) ?_
  rotate_left
  · ((intro w0 hSw); (try dsimp only at hSw); go_simp; (try with_reducible rfl))
  change wpAnyH _ _ _ _ _ _ _ (Act.put _ (some 12) _) _
  try simp only [Act.put, List.setIfInBounds_toArray, List.set_cons_zero, List.set_cons_succ]
  refine wpAnyH_take (i := 1) (v := ?_) rfl (by kernel_rfl) (by kernel_rfl) (by kernel_rfl) (fun _ _ _ h => h) (Or.inl ⟨by rfl, ?_⟩) (by assumption) ?_
  rotate_left
  · ((intro w0 hSw); (try dsimp only at hSw); go_simp; (try with_reducible rfl))
  change wpAnyH _ _ _ _ _ _ _ (Act.put _ (some 13) _) _
  try simp only [Act.put, List.setIfInBounds_toArray, List.set_cons_zero, List.set_cons_succ]
  refine wpAnyH_take (i := 2) (v := ?_) rfl (by kernel_rfl) (by kernel_rfl) (by kernel_rfl) (fun _ _ _ h => h) (Or.inl ⟨by rfl, ?_⟩) (by assumption) ?_
  rotate_left
  · ((intro w0 hSw); (try dsimp only at hSw); go_simp; (try with_reducible rfl))
  change wpAnyH _ _ _ _ _ _ _ (Act.put _ (some 14) _) _
  try simp only [Act.put, List.setIfInBounds_toArray, List.set_cons_zero, List.set_cons_succ]
  refine wpAnyH_take (i := 4) (v := ?_) rfl (by kernel_rfl) (by kernel_rfl) (by kernel_rfl) (fun _ _ _ h => h) (Or.inl ⟨by rfl, ?_⟩) (by assumption) ?_
  rotate_left
  · ((intro w0 hSw); (try dsimp only at hSw); go_simp; (try with_reducible rfl))
  change wpAnyH _ _ _ _ _ _ _ (Act.put _ (some 16) _) _
  try simp only [Act.put, List.setIfInBounds_toArray, List.set_cons_zero, List.set_cons_succ]
  refine wpAnyH_ready (rs := [3, 7]) (by kernel_rfl) (by simp) ?_
  refine AllReadyH.cons rfl (fun K hK => ?_) (AllReadyH.cons rfl (fun K hK => ?_) (AllReadyH.nil))
  · have HI : Hid (Ru.Ins 2 (wd.alloc (.cells #[] 2)) (wd.heap.size) (.slice (some ⟨wd.heap.size, 0, none⟩) 0 0) []) := by have := ins_lit wd; unfold Hid; simpa using this
    go_simp
    refine hK.out _ _ ?_ (fun hHeld2 => ?_)
    · exact hHeld.1.up _
    clear hK K hHeld
    have hHeld := hHeld2; clear hHeld2
    try change wpAnyH _ _ _ _ _ _ _ (Act.put _ (some 15) _) _
    try simp only [Act.put, List.setIfInBounds_toArray, List.set_cons_zero, List.set_cons_succ]
    refine wpAnyH_ready (rs := [5, 7]) (by kernel_rfl) (by simp) ?_
    refine AllReadyH.cons rfl (fun K hK => ?_) (AllReadyH.cons rfl (fun K hK => ?_) (AllReadyH.nil))
    · refine wp_append_is (.tmp 15) (.tmp 16) rfl (wd.heap.size) _ [] (by rfl) HI.out _ z (by rfl) B hHeld.1.rd HN.out (by simp; omega) (by first | omega | (simp; done) | (simp; omega)) ?_
      intro u w2 hu hg
      rw [List.nil_append] at hu
      have hgb := ins_grown HI.out (by first | omega | (simp; done) | (simp; omega)) hg
      obtain ⟨q, qc, rfl, hqc, hqd⟩ := (ins_new hu).form
      have hsz2 := hgb.size
      simp at hsz2
      clear HI
      have HI := Lib.hid hu
      clear hu hg
      go_simp
      refine hK.out _ _ ?_ (fun hHeld2 => ?_)
      · exact (hHeld.1.next (hgb.mono hHB)).all
      clear hK K hHeld
      have hHeld := hHeld2; clear hHeld2
      try change wpAnyH _ _ _ _ _ _ _ (Act.put _ (some 17) _) _
      try simp only [Act.put, List.setIfInBounds_toArray, List.set_cons_zero, List.set_cons_succ]
      clear hgb
      refine wpAnyH_take (i := 6) (v := ?_) rfl (by kernel_rfl) (by kernel_rfl) (by kernel_rfl) (fun _ _ _ h => h) (Or.inl ⟨by rfl, ?_⟩) (by assumption) ?_
      rotate_left
      · ((intro w0 hSw); (try dsimp only at hSw); go_simp; (try with_reducible rfl))
      change wpAnyH _ _ _ _ _ _ _ (Act.put _ (some 18) _) _
      try simp only [Act.put, List.setIfInBounds_toArray, List.set_cons_zero, List.set_cons_succ]
      have HI2 := Lib.hid (Ru.own_below HI.out (bel1 w2 (.cells #[.int .i64 0, .int .i64 0, .int .i64 0, .int .i64 0, .slice none 0 0] 25)))
      refine wpAnyH_ready (rs := [7]) (by kernel_rfl) (by simp) ?_
      refine AllReadyH.cons rfl (fun K hK => ?_) (AllReadyH.nil)
      have HG : Hid (R5 (w2.alloc (.cells #[.int .i64 0, .int .i64 0, .int .i64 0, .int .i64 0, .slice none 0 0] 25)) (w2.heap.size) 0 0 0 0 (.slice none 0 0)) := by have := R5.new w2 0 0 0 0 (.slice none 0 0); unfold Hid; simpa using this
      go_simp
      refine hK.out _ _ ?_ (fun hHeld2 => ?_)
      · exact hHeld.1.up _
      clear hK K hHeld
      have hHeld := hHeld2; clear hHeld2
      try change wpAnyH _ _ _ _ _ _ _ (Act.put _ (some 10) _) _
      try simp only [Act.put, List.setIfInBounds_toArray, List.set_cons_zero, List.set_cons_succ]
      clear HI
      have HI := HI2; clear HI2
      generalize hW4 : w2.alloc (.cells #[.int .i64 0, .int .i64 0, .int .i64 0, .int .i64 0, .slice none 0 0] 25) = w4 at hHeld HG HI ⊢
      clear hW4
      have g0 := HG.out.c0; have g1 := HG.out.c1; have g2 := HG.out.c2; have g3 := HG.out.c3; have g4 := HG.out.c4
      have f0 := HG.out.fr 0; have f1 := HG.out.fr 1; have f2 := HG.out.fr 2; have f3 := HG.out.fr 3; have f4 := HG.out.fr 4
      have hBg : B ≤ w2.heap.size := by omega
      refine wpAnyH_ready (rs := [8]) (by kernel_rfl) (by simp) ?_
      refine AllReadyH.cons rfl (fun K hK => ?_) (AllReadyH.nil)
      go_simp
      refine hK.out _ _ ?_ (fun hHeld2 => ?_)
      · exact hHeld.1.st hBg _ _ _ _ _
      clear hK K hHeld
      have hHeld := hHeld2; clear hHeld2
      try change wpAnyH _ _ _ _ _ _ _ (Act.put _ (none) _) _
      try simp only [Act.put, List.setIfInBounds_toArray, List.set_cons_zero, List.set_cons_succ]
      have HX := Lib.hid (HG.out.set k r a b (.slice q z.length qc))
      have HU := Lib.hid ((st_new HI.out HG.out k r a b (.slice q z.length qc)).mono hHB)
      clear g0 f0 g1 f1 g2 f2 g3 f3 g4 f4 HG HI
      refine wpAnyH_done (by kernel_rfl) ?_ _
      have HB := Lib.hid hHeld.1.bel
      have HR := Lib.hid hHeld.1.res
      clear hHeld
      have y0 := HX.out.c0; have y1 := HX.out.c1; have y2 := HX.out.c2; have y3 := HX.out.c3; have y4 := HX.out.c4
      obtain ⟨hE, hM⟩ | ⟨hE, hM⟩ := HE.out
      · subst hE hM
        go_wp2_with (go_at_call 18; refine (HC.out _ _ HU.out.rd).mono ?_; rintro e w3 ⟨rfl, hb⟩; have HX2 := Lib.hid (HX.out.next hb); have HR2 := Lib.hid (HR.out.next hb); have HB2 := Lib.hid (HB.out.trans (hb.mono HB.out.size)); have HU2 := Lib.hid (HU.out.next hb); clear HX HR HB HU hb y0 y1 y2 y3 y4; have y0 := HX2.out.c0; have y1 := HX2.out.c1; have y2 := HX2.out.c2; have y3 := HX2.out.c3; have y4 := HX2.out.c4; have r0 := HR2.out.c0; have r1 := HR2.out.c1; have r2 := HR2.out.c2; have r3 := HR2.out.c3; have r4 := HR2.out.c4; have f0 := HR2.out.fr 0; have f1 := HR2.out.fr 1; have f2 := HR2.out.fr 2; have f3 := HR2.out.fr 3; have f4 := HR2.out.fr 4; have HS := Lib.hid (HR2.out.set k r a b (.slice q z.length qc)); have z0 := HS.out.c0; have z1 := HS.out.c1; have z2 := HS.out.c2; have z3 := HS.out.c3; have z4 := HS.out.c4)
        refine bodyPost_ret (v := .tuple #[A5 k r a b (.slice q z.length qc), .int .i64 0]) (by simp [results, Tryd.results14, go_sem, z0, z1, z2, z3, z4]) rfl ?_
        exact ⟨_, rfl, (HU2.out.st5 hlB _ _ _ _ _).mono (by omega), st5_below _ _ _ _ _ (by omega) HB2.out⟩
      · subst hM
        have e1 : (E != 0) = true := by simpa using hE
        clear hE
        go_wp2_with (go_at_call 18; refine (HC.out _ _ HU.out.rd).mono ?_; rintro e w3 ⟨rfl, hb⟩; have HX2 := Lib.hid (HX.out.next hb); have HR2 := Lib.hid (HR.out.next hb); have HB2 := Lib.hid (HB.out.trans (hb.mono HB.out.size)); have HU2 := Lib.hid (HU.out.next hb); clear HX HR HB HU hb y0 y1 y2 y3 y4; have y0 := HX2.out.c0; have y1 := HX2.out.c1; have y2 := HX2.out.c2; have y3 := HX2.out.c3; have y4 := HX2.out.c4; have r0 := HR2.out.c0; have r1 := HR2.out.c1; have r2 := HR2.out.c2; have r3 := HR2.out.c3; have r4 := HR2.out.c4; have f0 := HR2.out.fr 0; have f1 := HR2.out.fr 1; have f2 := HR2.out.fr 2; have f3 := HR2.out.fr 3; have f4 := HR2.out.fr 4; have HS := Lib.hid (HR2.out.set 0 0 0 0 (.slice none 0 0)); have z0 := HS.out.c0; have z1 := HS.out.c1; have z2 := HS.out.c2; have z3 := HS.out.c3; have z4 := HS.out.c4)
        exact bodyPost_ret (v := .tuple #[A5 0 0 0 0 (.slice none 0 0), .int .i64 E]) (by simp [results, Tryd.results14, go_sem, z0, z1, z2, z3, z4]) rfl (retE_no E (st5_below _ _ _ _ _ (by omega) HB2.out))
    · have HI2 := Lib.hid (Ru.own_below HI.out (bel1 (wd.alloc (.cells #[] 2)) (.cells #[.int .i64 0, .int .i64 0, .int .i64 0, .int .i64 0, .slice none 0 0] 25)))
      have HG : Hid (R5 ((wd.alloc (.cells #[] 2)).alloc (.cells #[.int .i64 0, .int .i64 0, .int .i64 0, .int .i64 0, .slice none 0 0] 25)) (wd.heap.size + 1) 0 0 0 0 (.slice none 0 0)) := by have := R5.new (wd.alloc (.cells #[] 2)) 0 0 0 0 (.slice none 0 0); unfold Hid; simpa using this
      go_simp
      refine hK.out _ _ ?_ (fun hHeld2 => ?_)
      · exact hHeld.1.up _
      clear hK K hHeld
      have hHeld := hHeld2; clear hHeld2
      try change wpAnyH _ _ _ _ _ _ _ (Act.put _ (some 10) _) _
      try simp only [Act.put, List.setIfInBounds_toArray, List.set_cons_zero, List.set_cons_succ]
      clear HI
      have HI := HI2; clear HI2
      refine wpAnyH_ready (rs := [5]) (by kernel_rfl) (by simp) ?_
      refine AllReadyH.cons rfl (fun K hK => ?_) (AllReadyH.nil)
      refine wp_append_is (.tmp 15) (.tmp 16) rfl (wd.heap.size) _ [] (by rfl) HI.out _ z (by rfl) B hHeld.1.rd HN.out (by simp; omega) (by first | omega | (simp; done) | (simp; omega)) ?_
      intro u w2 hu hg
      rw [List.nil_append] at hu
      have hgb := ins_grown HI.out (by first | omega | (simp; done) | (simp; omega)) hg
      have HG2 : Hid (R5 w2 (wd.heap.size + 1) 0 0 0 0 (.slice none 0 0)) := (hg.block _ HG.out.lt (by simp [Value.ownBlock])).trans HG.out
      clear HG
      have HG := HG2; clear HG2
      obtain ⟨q, qc, rfl, hqc, hqd⟩ := (ins_new hu).form
      have hsz2 := hgb.size
      simp at hsz2
      clear HI
      have HI := Lib.hid hu
      clear hu hg
      go_simp
      refine hK.out _ _ ?_ (fun hHeld2 => ?_)
      · exact (hHeld.1.next (hgb.mono hHB)).all
      clear hK K hHeld
      have hHeld := hHeld2; clear hHeld2
      try change wpAnyH _ _ _ _ _ _ _ (Act.put _ (some 17) _) _
      try simp only [Act.put, List.setIfInBounds_toArray, List.set_cons_zero, List.set_cons_succ]
      clear hgb
      refine wpAnyH_take (i := 6) (v := ?_) rfl (by kernel_rfl) (by kernel_rfl) (by kernel_rfl) (fun _ _ _ h => h) (Or.inl ⟨by rfl, ?_⟩) (by assumption) ?_
      rotate_left
      · ((intro w0 hSw); (try dsimp only at hSw); go_simp; (try with_reducible rfl))
      change wpAnyH _ _ _ _ _ _ _ (Act.put _ (some 18) _) _
      try simp only [Act.put, List.setIfInBounds_toArray, List.set_cons_zero, List.set_cons_succ]
      have g0 := HG.out.c0; have g1 := HG.out.c1; have g2 := HG.out.c2; have g3 := HG.out.c3; have g4 := HG.out.c4
      have f0 := HG.out.fr 0; have f1 := HG.out.fr 1; have f2 := HG.out.fr 2; have f3 := HG.out.fr 3; have f4 := HG.out.fr 4
      have hBg : B ≤ (wd.heap.size + 1) := by omega
      refine wpAnyH_ready (rs := [8]) (by kernel_rfl) (by simp) ?_
      refine AllReadyH.cons rfl (fun K hK => ?_) (AllReadyH.nil)
      go_simp
      refine hK.out _ _ ?_ (fun hHeld2 => ?_)
      · exact hHeld.1.st hBg _ _ _ _ _
      clear hK K hHeld
      have hHeld := hHeld2; clear hHeld2
      try change wpAnyH _ _ _ _ _ _ _ (Act.put _ (none) _) _
      try simp only [Act.put, List.setIfInBounds_toArray, List.set_cons_zero, List.set_cons_succ]
      have HX := Lib.hid (HG.out.set k r a b (.slice q z.length qc))
      have HU := Lib.hid ((st_new HI.out HG.out k r a b (.slice q z.length qc)).mono hHB)
      clear g0 f0 g1 f1 g2 f2 g3 f3 g4 f4 HG HI
      refine wpAnyH_done (by kernel_rfl) ?_ _
      have HB := Lib.hid hHeld.1.bel
      have HR := Lib.hid hHeld.1.res
      clear hHeld
      have y0 := HX.out.c0; have y1 := HX.out.c1; have y2 := HX.out.c2; have y3 := HX.out.c3; have y4 := HX.out.c4
      obtain ⟨hE, hM⟩ | ⟨hE, hM⟩ := HE.out
      · subst hE hM
        go_wp2_with (go_at_call 18; refine (HC.out _ _ HU.out.rd).mono ?_; rintro e w3 ⟨rfl, hb⟩; have HX2 := Lib.hid (HX.out.next hb); have HR2 := Lib.hid (HR.out.next hb); have HB2 := Lib.hid (HB.out.trans (hb.mono HB.out.size)); have HU2 := Lib.hid (HU.out.next hb); clear HX HR HB HU hb y0 y1 y2 y3 y4; have y0 := HX2.out.c0; have y1 := HX2.out.c1; have y2 := HX2.out.c2; have y3 := HX2.out.c3; have y4 := HX2.out.c4; have r0 := HR2.out.c0; have r1 := HR2.out.c1; have r2 := HR2.out.c2; have r3 := HR2.out.c3; have r4 := HR2.out.c4; have f0 := HR2.out.fr 0; have f1 := HR2.out.fr 1; have f2 := HR2.out.fr 2; have f3 := HR2.out.fr 3; have f4 := HR2.out.fr 4; have HS := Lib.hid (HR2.out.set k r a b (.slice q z.length qc)); have z0 := HS.out.c0; have z1 := HS.out.c1; have z2 := HS.out.c2; have z3 := HS.out.c3; have z4 := HS.out.c4)
        refine bodyPost_ret (v := .tuple #[A5 k r a b (.slice q z.length qc), .int .i64 0]) (by simp [results, Tryd.results14, go_sem, z0, z1, z2, z3, z4]) rfl ?_
        exact ⟨_, rfl, (HU2.out.st5 hlB _ _ _ _ _).mono (by omega), st5_below _ _ _ _ _ (by omega) HB2.out⟩
      · subst hM
        have e1 : (E != 0) = true := by simpa using hE
        clear hE
        go_wp2_with (go_at_call 18; refine (HC.out _ _ HU.out.rd).mono ?_; rintro e w3 ⟨rfl, hb⟩; have HX2 := Lib.hid (HX.out.next hb); have HR2 := Lib.hid (HR.out.next hb); have HB2 := Lib.hid (HB.out.trans (hb.mono HB.out.size)); have HU2 := Lib.hid (HU.out.next hb); clear HX HR HB HU hb y0 y1 y2 y3 y4; have y0 := HX2.out.c0; have y1 := HX2.out.c1; have y2 := HX2.out.c2; have y3 := HX2.out.c3; have y4 := HX2.out.c4; have r0 := HR2.out.c0; have r1 := HR2.out.c1; have r2 := HR2.out.c2; have r3 := HR2.out.c3; have r4 := HR2.out.c4; have f0 := HR2.out.fr 0; have f1 := HR2.out.fr 1; have f2 := HR2.out.fr 2; have f3 := HR2.out.fr 3; have f4 := HR2.out.fr 4; have HS := Lib.hid (HR2.out.set 0 0 0 0 (.slice none 0 0)); have z0 := HS.out.c0; have z1 := HS.out.c1; have z2 := HS.out.c2; have z3 := HS.out.c3; have z4 := HS.out.c4)
        exact bodyPost_ret (v := .tuple #[A5 0 0 0 0 (.slice none 0 0), .int .i64 E]) (by simp [results, Tryd.results14, go_sem, z0, z1, z2, z3, z4]) rfl (retE_no E (st5_below _ _ _ _ _ (by omega) HB2.out))
  · have HG : Hid (R5 (wd.alloc (.cells #[.int .i64 0, .int .i64 0, .int .i64 0, .int .i64 0, .slice none 0 0] 25)) (wd.heap.size) 0 0 0 0 (.slice none 0 0)) := by have := R5.new wd 0 0 0 0 (.slice none 0 0); unfold Hid; simpa using this
    go_simp
    refine hK.out _ _ ?_ (fun hHeld2 => ?_)
    · exact hHeld.1.up _
    clear hK K hHeld
    have hHeld := hHeld2; clear hHeld2
    try change wpAnyH _ _ _ _ _ _ _ (Act.put _ (some 10) _) _
    try simp only [Act.put, List.setIfInBounds_toArray, List.set_cons_zero, List.set_cons_succ]
    refine wpAnyH_ready (rs := [3]) (by kernel_rfl) (by simp) ?_
    refine AllReadyH.cons rfl (fun K hK => ?_) (AllReadyH.nil)
    have HI : Hid (Ru.Ins 2 ((wd.alloc (.cells #[.int .i64 0, .int .i64 0, .int .i64 0, .int .i64 0, .slice none 0 0] 25)).alloc (.cells #[] 2)) (wd.heap.size + 1) (.slice (some ⟨wd.heap.size + 1, 0, none⟩) 0 0) []) := by have := ins_lit (wd.alloc (.cells #[.int .i64 0, .int .i64 0, .int .i64 0, .int .i64 0, .slice none 0 0] 25)); unfold Hid; simpa using this
    go_simp
    refine hK.out _ _ ?_ (fun hHeld2 => ?_)
    · exact hHeld.1.up _
    clear hK K hHeld
    have hHeld := hHeld2; clear hHeld2
    try change wpAnyH _ _ _ _ _ _ _ (Act.put _ (some 15) _) _
    try simp only [Act.put, List.setIfInBounds_toArray, List.set_cons_zero, List.set_cons_succ]
    have HG2 := Lib.hid (HG.out.alloc (.cells #[] 2))
    clear HG
    have HG := HG2; clear HG2
    have hHB1 := hHB
    clear hHB
    have hHB : B ≤ wd.heap.size + 1 := by omega
    refine wpAnyH_ready (rs := [5]) (by kernel_rfl) (by simp) ?_
    refine AllReadyH.cons rfl (fun K hK => ?_) (AllReadyH.nil)
    refine wp_append_is (.tmp 15) (.tmp 16) rfl (wd.heap.size + 1) _ [] (by rfl) HI.out _ z (by rfl) B hHeld.1.rd HN.out (by simp; omega) (by first | omega | (simp; done) | (simp; omega)) ?_
    intro u w2 hu hg
    rw [List.nil_append] at hu
    have hgb := ins_grown HI.out (by first | omega | (simp; done) | (simp; omega)) hg
    have HG2 : Hid (R5 w2 (wd.heap.size) 0 0 0 0 (.slice none 0 0)) := (hgb.block _ (by omega)).trans HG.out
    clear HG
    have HG := HG2; clear HG2
    obtain ⟨q, qc, rfl, hqc, hqd⟩ := (ins_new hu).form
    have hsz2 := hgb.size
    simp at hsz2
    clear HI
    have HI := Lib.hid hu
    clear hu hg
    go_simp
    refine hK.out _ _ ?_ (fun hHeld2 => ?_)
    · exact (hHeld.1.next (hgb.mono hHB)).all
    clear hK K hHeld
    have hHeld := hHeld2; clear hHeld2
    try change wpAnyH _ _ _ _ _ _ _ (Act.put _ (some 17) _) _
    try simp only [Act.put, List.setIfInBounds_toArray, List.set_cons_zero, List.set_cons_succ]
    clear hgb
    refine wpAnyH_take (i := 6) (v := ?_) rfl (by kernel_rfl) (by kernel_rfl) (by kernel_rfl) (fun _ _ _ h => h) (Or.inl ⟨by rfl, ?_⟩) (by assumption) ?_
    rotate_left
    · ((intro w0 hSw); (try dsimp only at hSw); go_simp; (try with_reducible rfl))
    change wpAnyH _ _ _ _ _ _ _ (Act.put _ (some 18) _) _
    try simp only [Act.put, List.setIfInBounds_toArray, List.set_cons_zero, List.set_cons_succ]
    have g0 := HG.out.c0; have g1 := HG.out.c1; have g2 := HG.out.c2; have g3 := HG.out.c3; have g4 := HG.out.c4
    have f0 := HG.out.fr 0; have f1 := HG.out.fr 1; have f2 := HG.out.fr 2; have f3 := HG.out.fr 3; have f4 := HG.out.fr 4
    have hBg : B ≤ wd.heap.size := by omega
    refine wpAnyH_ready (rs := [8]) (by kernel_rfl) (by simp) ?_
    refine AllReadyH.cons rfl (fun K hK => ?_) (AllReadyH.nil)
    go_simp
    refine hK.out _ _ ?_ (fun hHeld2 => ?_)
    · exact hHeld.1.st hBg _ _ _ _ _
    clear hK K hHeld
    have hHeld := hHeld2; clear hHeld2
    try change wpAnyH _ _ _ _ _ _ _ (Act.put _ (none) _) _
    try simp only [Act.put, List.setIfInBounds_toArray, List.set_cons_zero, List.set_cons_succ]
    have HX := Lib.hid (HG.out.set k r a b (.slice q z.length qc))
    have HU := Lib.hid ((st_new HI.out HG.out k r a b (.slice q z.length qc)).mono hHB)
    clear g0 f0 g1 f1 g2 f2 g3 f3 g4 f4 HG HI
    refine wpAnyH_done (by kernel_rfl) ?_ _
    have HB := Lib.hid hHeld.1.bel
    have HR := Lib.hid hHeld.1.res
    clear hHeld
    have y0 := HX.out.c0; have y1 := HX.out.c1; have y2 := HX.out.c2; have y3 := HX.out.c3; have y4 := HX.out.c4
    obtain ⟨hE, hM⟩ | ⟨hE, hM⟩ := HE.out
    · subst hE hM
      go_wp2_with (go_at_call 18; refine (HC.out _ _ HU.out.rd).mono ?_; rintro e w3 ⟨rfl, hb⟩; have HX2 := Lib.hid (HX.out.next hb); have HR2 := Lib.hid (HR.out.next hb); have HB2 := Lib.hid (HB.out.trans (hb.mono HB.out.size)); have HU2 := Lib.hid (HU.out.next hb); clear HX HR HB HU hb y0 y1 y2 y3 y4; have y0 := HX2.out.c0; have y1 := HX2.out.c1; have y2 := HX2.out.c2; have y3 := HX2.out.c3; have y4 := HX2.out.c4; have r0 := HR2.out.c0; have r1 := HR2.out.c1; have r2 := HR2.out.c2; have r3 := HR2.out.c3; have r4 := HR2.out.c4; have f0 := HR2.out.fr 0; have f1 := HR2.out.fr 1; have f2 := HR2.out.fr 2; have f3 := HR2.out.fr 3; have f4 := HR2.out.fr 4; have HS := Lib.hid (HR2.out.set k r a b (.slice q z.length qc)); have z0 := HS.out.c0; have z1 := HS.out.c1; have z2 := HS.out.c2; have z3 := HS.out.c3; have z4 := HS.out.c4)
      refine bodyPost_ret (v := .tuple #[A5 k r a b (.slice q z.length qc), .int .i64 0]) (by simp [results, Tryd.results14, go_sem, z0, z1, z2, z3, z4]) rfl ?_
      exact ⟨_, rfl, (HU2.out.st5 hlB _ _ _ _ _).mono (by omega), st5_below _ _ _ _ _ (by omega) HB2.out⟩
    · subst hM
      have e1 : (E != 0) = true := by simpa using hE
      clear hE
      go_wp2_with (go_at_call 18; refine (HC.out _ _ HU.out.rd).mono ?_; rintro e w3 ⟨rfl, hb⟩; have HX2 := Lib.hid (HX.out.next hb); have HR2 := Lib.hid (HR.out.next hb); have HB2 := Lib.hid (HB.out.trans (hb.mono HB.out.size)); have HU2 := Lib.hid (HU.out.next hb); clear HX HR HB HU hb y0 y1 y2 y3 y4; have y0 := HX2.out.c0; have y1 := HX2.out.c1; have y2 := HX2.out.c2; have y3 := HX2.out.c3; have y4 := HX2.out.c4; have r0 := HR2.out.c0; have r1 := HR2.out.c1; have r2 := HR2.out.c2; have r3 := HR2.out.c3; have r4 := HR2.out.c4; have f0 := HR2.out.fr 0; have f1 := HR2.out.fr 1; have f2 := HR2.out.fr 2; have f3 := HR2.out.fr 3; have f4 := HR2.out.fr 4; have HS := Lib.hid (HR2.out.set 0 0 0 0 (.slice none 0 0)); have z0 := HS.out.c0; have z1 := HS.out.c1; have z2 := HS.out.c2; have z3 := HS.out.c3; have z4 := HS.out.c4)
      exact bodyPost_ret (v := .tuple #[A5 0 0 0 0 (.slice none 0 0), .int .i64 E]) (by simp [results, Tryd.results14, go_sem, z0, z1, z2, z3, z4]) rfl (retE_no E (st5_below _ _ _ _ _ (by omega) HB2.out))
end Go.Proofs.YtmacimkkgiogbaaDoor
