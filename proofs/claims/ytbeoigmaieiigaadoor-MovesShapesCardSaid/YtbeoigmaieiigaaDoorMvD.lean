/- vector and blank of the moves. -/
import Derived.Test.YtbeoigmaieiigaaDoorMvC
import Derived.Deep.RegionHeld3
namespace Go.Proofs.YtbeoigmaieiigaaDoor
open Go.RowKit

theorem RetW.toE {A : Ar} {n : Int} {w w' : World} {e : Ending} (hl : A.z.length ≤ 1000000) (h : RetW A n w e w') : RetE A n w e w' := by
  obtain ⟨u, h1, h2, h3⟩ := h
  refine ⟨u, h1, ?_, h3⟩
  rcases h2 with ⟨_, rfl, hz⟩ | h2
  · rw [hz]; exact RdN.nil _ _
  · exact h2.rdn hl
/-- What a walk keeps: the result's block, a slice. -/
structure KM (w : World) (v : Value) (z : List Int) (w' : World) : Prop where
  bel : Below w.heap.size w w'
  res : R5 w' w.heap.size 0 0 0 0 (.slice none 0 0)
  rd : RdI w'.heap.size w' v z
  lay : Ru.Lay w'
theorem KM.new {w : World} {v : Value} {z : List Int} (hw : Ru.Lay w) (hv : RdI w.heap.size w v z) : KM w v z (w.alloc (.cells #[.int .i64 0, .int .i64 0, .int .i64 0, .int .i64 0, .slice none 0 0] 25)) := ⟨bel1 _ _, R5.new _ _ _ _ _ _, hv.next (bel1 _ _), hw.alloc _⟩

set_option maxRecDepth 100000 in
set_option maxHeartbeats 4000000 in
theorem mvector_any (k : Int) (z : List Int) (v : Value) (w : World) (hw : Ru.Lay w) (hv : RdI w.heap.size w v z) (hl : z.length ≤ 1000000) :
    Calls Tryd.prog 40 #[.int .i64 k, v] w (RetE (mk (vecA k z)) (ck (vecA k z)) w) := by
  have HM : Hid (∀ W, Ru.Lay W → RdI W.heap.size W v z → Calls Tryd.prog 41 #[.int .i64 k, .int .i64 1, P2 (z.length : Int) 0, v] W (RetE (mk (vecA k z)) (ck (vecA k z)) W)) := fun W h1 h2 => make_any k 1 z.length 0 z v W h1 h2 hl
  have HK := Lib.hid (KM.new hw hv)
  generalize mk (vecA k z) = M at HM ⊢
  generalize ck (vecA k z) = E at HM ⊢
  obtain ⟨a1, a2, a3, a4, a5⟩ := M
  obtain ⟨p, cap, rfl, hcap, hcap2, hcell⟩ := hv
  clear hcell hw
  go_enter Tryd.func40, Tryd.ntmps40
  go_wp2_with (go_at_call 41; (with_reducible refine (HM.out _ HK.out.lay HK.out.rd).mono ?_); rintro e w1 ⟨u, rfl, hu, hb⟩; obtain ⟨q, qc, rfl, hqc, hqd⟩ := hu.form; have HU := Lib.hid hu; have HB := Lib.hid (HK.out.bel.trans (hb.mono HK.out.bel.size)); have HR := Lib.hid (HK.out.res.next hb); have hlt := HK.out.res.lt; clear hu; have y0 := HR.out.c0; have y1 := HR.out.c1; have y2 := HR.out.c2; have y3 := HR.out.c3; have y4 := HR.out.c4; have f0 := HR.out.fr 0; have f1 := HR.out.fr 1; have f2 := HR.out.fr 2; have f3 := HR.out.fr 3; have f4 := HR.out.fr 4; have HS := Lib.hid (HR.out.set a1 a2 a3 a4 (.slice q a5.length qc)); have z0 := HS.out.c0; have z1 := HS.out.c1; have z2 := HS.out.c2; have z3 := HS.out.c3; have z4 := HS.out.c4)
  refine bodyPost_ret (v := .tuple #[A5 a1 a2 a3 a4 (.slice q a5.length qc), .int .i64 E]) (by simp [results, Tryd.results40, go_sem, z0, z1, z2, z3, z4]) rfl ?_
  exact ⟨_, rfl, (HU.out.st5 hlt _ _ _ _ _).mono (by omega), st5_below _ _ _ _ _ (by omega) HB.out⟩

/-- What the region of blank keeps. -/
structure KL (w : World) (a b : Int) (w' : World) : Prop where
  bel : Below w.heap.size w w'
  box : R2 w' w.heap.size a b
  sz : w.heap.size + 1 < w'.heap.size
theorem KL.next {w W W' : World} {a b : Int} (h : KL w a b W) (hb : Below (w.heap.size + 1) W W') : KL w a b W' :=
  ⟨h.bel.trans (hb.mono (by omega)), (hb.block _ (by omega)).trans h.box, Nat.lt_of_lt_of_le h.sz hb.size⟩
abbrev KL2 (w : World) (a b : Int) (W : World) : Prop := KL w a b W ∧ W.cell? ⟨w.heap.size, 0, none⟩ = some (.int .i64 a) ∧ W.cell? ⟨w.heap.size, 1, none⟩ = some (.int .i64 b)
theorem KL.all {w W : World} {a b : Int} (h : KL w a b W) : KL2 w a b W := ⟨h, h.box.c0, h.box.c1⟩
/-- The world of blank, as its call begins. -/
theorem KL.new (w : World) (a b : Int) : KL w a b ((w.alloc (.cells #[.int .i64 a, .int .i64 b] 22)).alloc (.cells #[.int .i64 0, .int .i64 0, .int .i64 0, .int .i64 0, .slice none 0 0] 25)) :=
  ⟨(bel1 _ _).trans ((bel1 _ _).mono (by simp)), (R2.new w a b).alloc _, by simp⟩
theorem res_new (w : World) (a b : Int) : R5 ((w.alloc (.cells #[.int .i64 a, .int .i64 b] 22)).alloc (.cells #[.int .i64 0, .int .i64 0, .int .i64 0, .int .i64 0, .slice none 0 0] 25)) (w.heap.size + 1) 0 0 0 0 (.slice none 0 0) := by
  have : (w.alloc (.cells #[.int .i64 a, .int .i64 b] 22)).heap.size = w.heap.size + 1 := by simp
  rw [← this]; exact R5.new _ _ _ _ _ _
theorem made_zeros (n : Nat) (W : World) (hn : n ≤ 1000000) : RdI (W.alloc (.cells (madeCells (Value.int .i64 0).cells n) 2)).heap.size (W.alloc (.cells (madeCells (Value.int .i64 0).cells n) 2)) (.slice (some ⟨W.heap.size, 0, none⟩) n n) (List.replicate n 0) := by
  refine zf_all (by simp) ((made_row n W).congr fun i hi => ?_) hn
  unfold zf
  rw [if_pos hi, List.getD_eq_getElem?_getD, List.getElem?_replicate]
  simp [hi]

set_option maxRecDepth 100000 in
set_option maxHeartbeats 8000000 in
theorem blank_any (k r a b : Int) (n : Nat) (w : World) (hw : Ru.Lay w) (hn : (if r = 2 then a * b else a) = (n : Int)) (hl : n ≤ 1000000) :
    Calls Tryd.prog 45 #[.int .i64 k, .int .i64 r, P2 a b] w (RetW (mk ⟨k, r, a, b, List.replicate n 0⟩) (ck ⟨k, r, a, b, List.replicate n 0⟩) w) := by
  have HM : Hid (∀ W v, Ru.Lay W → RdI W.heap.size W v (List.replicate n 0) → Calls Tryd.prog 41 #[.int .i64 k, .int .i64 r, P2 a b, v] W (RetW (mk ⟨k, r, a, b, List.replicate n 0⟩) (ck ⟨k, r, a, b, List.replicate n 0⟩) W)) := fun W v h1 h2 => makeW_any k r a b _ v W h1 h2 (by simpa using hl)
  have HK := Lib.hid (KL.new w a b)
  have HR := Lib.hid (res_new w a b)
  have HL := Lib.hid ((hw.alloc (.cells #[.int .i64 a, .int .i64 b] 22)).alloc (.cells #[.int .i64 0, .int .i64 0, .int .i64 0, .int .i64 0, .slice none 0 0] 25))
  generalize mk ⟨k, r, a, b, List.replicate n 0⟩ = M at HM ⊢
  generalize ck ⟨k, r, a, b, List.replicate n 0⟩ = E at HM ⊢
  obtain ⟨a1, a2, a3, a4, a5⟩ := M
  have HMd := Lib.hid (fun W => made_zeros n W hl)
  obtain ⟨i0, hi, hz0, hz1, hz2⟩ := info_parts info64
  have hmk := fun W : World => run_make (P := Tryd.prog) W 23 2 i0 (.int .i64 0) Tryd.underlying23 hi hz0 .i64 .i64 n n (by omega) (by omega) (by rw [hz2]; omega) (by omega)
  rw [Int.toNat_natCast, hz1, Nat.mul_one] at hmk
  have x0 := HK.out.box.c0; have x1 := HK.out.box.c1
  clear hw
  by_cases h2 : r = 2
  · rw [if_pos h2] at hn
    have h2b : (r == 2) = true := by simpa using h2
    have hw2 : IntKind.i64.wrap (a * b) = (n : Int) := by rw [hn, IntKind.wrap_i64]; omega
    clear h2 hn
    go_enter Tryd.func45, Tryd.ntmps45
    go_wp2_with fail
    generalize hW : (w.alloc (.cells #[.int .i64 a, .int .i64 b] 22)).alloc (.cells #[.int .i64 0, .int .i64 0, .int .i64 0, .int .i64 0, .slice none 0 0] 25) = W0 at HK HR HL x0 x1 ⊢
    clear hW
    have HSz : Hid (w.heap.size + 1 < W0.heap.size) := HK.out.sz
    refine wp_region_held_drew (S := KL2 w a b) (by kernel_rfl) ?_ (fun hHeld => ?_)
    · exact KL.all (HK.out.next (Below.refl _ _).drew)
    have HRd : Hid (R5 (World.drew W0) (w.heap.size + 1) 0 0 0 0 (.slice none 0 0)) := HR.out.next (Below.refl _ _).drew
    have HLd : Hid (Ru.Lay (World.drew W0)) := HL.out.next (Below.refl _ _).drew
    have HSd : Hid (w.heap.size + 1 < (World.drew W0).heap.size) := HSz.out
    generalize World.drew W0 = wd at hHeld HRd HLd HSd ⊢
    clear HK HR HL x0 x1
    have hmk1 := hmk wd
    have HB1 := Lib.hid hHeld.1.bel
    have HBm := Lib.hid (HB1.out.trans ((bel1 wd (.cells (madeCells (Value.int .i64 0).cells n) 2)).mono HB1.out.size))
    have HRm := Lib.hid (HRd.out.next (bel1 wd (.cells (madeCells (Value.int .i64 0).cells n) 2)))
    have HLm := Lib.hid (HLd.out.next (bel1 wd (.cells (madeCells (Value.int .i64 0).cells n) 2)))
    refine wpAnyH_take (i := 0) (v := ?_) rfl (by kernel_rfl) (by kernel_rfl) (by kernel_rfl) (fun _ _ _ h => h) (Or.inl ⟨by rfl, ?_⟩) (by assumption) ?_
    rotate_left
    · ((intro w0 hSw); (try dsimp only at hSw); go_simp; (try with_reducible rfl))
    change wpAnyH _ _ _ _ _ _ _ (Act.put _ (some 17) _) _
    try simp only [Act.put, List.setIfInBounds_toArray, List.set_cons_zero, List.set_cons_succ]
    refine wpAnyH_take (i := 1) (v := ?_) rfl (by kernel_rfl) (by kernel_rfl) (by kernel_rfl) (fun _ _ _ h => h) (Or.inl ⟨by rfl, ?_⟩) (by assumption) ?_
    rotate_left
    · ((intro w0 hSw); (try dsimp only at hSw); go_simp; (try with_reducible rfl))
    change wpAnyH _ _ _ _ _ _ _ (Act.put _ (some 18) _) _
    try simp only [Act.put, List.setIfInBounds_toArray, List.set_cons_zero, List.set_cons_succ]
    refine wpAnyH_take (i := 2) (v := ?_) rfl (by kernel_rfl) (by kernel_rfl) (by kernel_rfl) (fun _ _ _ h => h) (Or.inl ⟨by rfl, ?_⟩) (by assumption) ?_
    rotate_left
    · ((intro w0 hSw); (try dsimp only at hSw); go_simp; (try with_reducible rfl))
    change wpAnyH _ _ _ _ _ _ _ (Act.put _ (some 19) _) _
    try simp only [Act.put, List.setIfInBounds_toArray, List.set_cons_zero, List.set_cons_succ]
    refine wpAnyH_take (i := 3) (v := ?_) rfl (by kernel_rfl) (by kernel_rfl) (by kernel_rfl) (fun _ _ _ h => h) (Or.inl ⟨by rfl, ?_⟩) (by assumption) ?_
    rotate_left
    · ((intro w0 hSw); (try dsimp only at hSw); go_simp; (try with_reducible rfl))
    change wpAnyH _ _ _ _ _ _ _ (Act.put _ (some 20) _) _
    try simp only [Act.put, List.setIfInBounds_toArray, List.set_cons_zero, List.set_cons_succ]
    refine wpAnyH_ready (rs := [4]) (by kernel_rfl) (by simp) ?_
    refine AllReadyH.cons rfl (fun K hK => ?_) (AllReadyH.nil)
    go_simp
    refine hK.out _ _ ?_ (fun hHeld2 => ?_)
    · exact (KL.next hHeld.1 ((bel1 wd _).mono (by have := hHeld.1.sz; omega))).all
    clear hK K hHeld
    have hHeld := hHeld2; clear hHeld2
    try change wpAnyH _ _ _ _ _ _ _ (Act.put _ (some 21) _) _
    try simp only [Act.put, List.setIfInBounds_toArray, List.set_cons_zero, List.set_cons_succ]
    refine wpAnyH_ready (rs := [5]) (by kernel_rfl) (by simp) ?_
    refine AllReadyH.cons rfl (fun K hK => ?_) (AllReadyH.nil)
    go_simp
    go_at_call 41
    refine (HM.out _ _ HLm.out (HMd.out _)).mono ?_
    rintro e w1 ⟨u, rfl, hu, hb⟩
    have hbl : Below (w.heap.size + 1) (wd.alloc (.cells (madeCells (Value.int .i64 0).cells n) 2)) w1 := hb.mono (by simp; have := HSd.out; omega)
    have HR2 := Lib.hid (HRm.out.next hb)
    have HB2 := Lib.hid (HBm.out.trans (hb.mono HBm.out.size))
    refine hK.out _ _ ?_ (fun hHeld2 => ?_)
    · exact (KL.next hHeld.1 hbl).all
    clear hK K hHeld
    have hHeld := hHeld2; clear hHeld2
    try change wpAnyH _ _ _ _ _ _ _ (Act.put _ (some 22) _) _
    try dsimp only
    try simp only [Act.put, List.setIfInBounds_toArray, List.set_cons_zero, List.set_cons_succ]
    refine wpAnyH_take (i := 6) (v := ?_) rfl (by kernel_rfl) (by kernel_rfl) (by kernel_rfl) (fun _ _ _ h => h) (Or.inl ⟨by rfl, ?_⟩) (by assumption) ?_
    rotate_left
    · ((intro w0 hSw); (try dsimp only at hSw); go_simp; (try with_reducible rfl))
    change wpAnyH _ _ _ _ _ _ _ (Act.put _ (some 23) _) _
    try simp only [Act.put, List.setIfInBounds_toArray, List.set_cons_zero, List.set_cons_succ]
    refine wpAnyH_take (i := 7) (v := ?_) rfl (by kernel_rfl) (by kernel_rfl) (by kernel_rfl) (fun _ _ _ h => h) (Or.inl ⟨by rfl, ?_⟩) (by assumption) ?_
    rotate_left
    · ((intro w0 hSw); (try dsimp only at hSw); go_simp; (try with_reducible rfl))
    change wpAnyH _ _ _ _ _ _ _ (Act.put _ (some 24) _) _
    try simp only [Act.put, List.setIfInBounds_toArray, List.set_cons_zero, List.set_cons_succ]
    rcases hu with ⟨hne, rfl, hz⟩ | ⟨g, rfl, hBg, hrow⟩
    · have HZ := Lib.hid (And.intro hne hz)
      clear hz hne
      refine wpAnyH_ready (rs := [8]) (by kernel_rfl) (by simp) ?_
      refine AllReadyH.cons rfl (fun K hK => ?_) (AllReadyH.nil)
      have y0 := HR2.out.c0; have y1 := HR2.out.c1; have y2 := HR2.out.c2; have y3 := HR2.out.c3; have y4 := HR2.out.c4; have f0 := HR2.out.fr 0; have f1 := HR2.out.fr 1; have f2 := HR2.out.fr 2; have f3 := HR2.out.fr 3; have f4 := HR2.out.fr 4; have HS := Lib.hid (HR2.out.set a1 a2 a3 a4 (.slice none 0 0)); have z0 := HS.out.c0; have z1 := HS.out.c1; have z2 := HS.out.c2; have z3 := HS.out.c3; have z4 := HS.out.c4
      go_simp
      refine hK.out _ _ ?_ (fun hHeld2 => ?_)
      · exact (KL.next hHeld.1 (st5_below _ _ _ _ _ (Nat.le_refl _) (Below.refl _ _))).all
      clear hK K hHeld
      have hHeld := hHeld2; clear hHeld2
      try change wpAnyH _ _ _ _ _ _ _ (Act.put _ (none) _) _
      try simp only [Act.put, List.setIfInBounds_toArray, List.set_cons_zero, List.set_cons_succ]
      refine wpAnyH_take (i := 9) (v := ?_) rfl (by kernel_rfl) (by kernel_rfl) (by kernel_rfl) (fun _ _ _ h => h) (Or.inl ⟨by rfl, ?_⟩) (by assumption) ?_
      rotate_left
      · ((intro w0 hSw); (try dsimp only at hSw); go_simp; (try with_reducible rfl))
      change wpAnyH _ _ _ _ _ _ _ (Act.put _ (some 7) _) _
      try simp only [Act.put, List.setIfInBounds_toArray, List.set_cons_zero, List.set_cons_succ]
      refine wpAnyH_done (by kernel_rfl) ?_ _
      go_wp2_with fail
      refine bodyPost_ret (v := .tuple #[A5 a1 a2 a3 a4 (.slice none 0 0), .int .i64 E]) (by simp [results, Tryd.results45, go_sem, z0, z1, z2, z3, z4]) rfl ?_
      exact ⟨_, rfl, .inl ⟨HZ.out.1, rfl, HZ.out.2⟩, st5_below _ _ _ _ _ (by omega) HB2.out⟩
    · have HRo := Lib.hid hrow
      have HBs : Hid (w.heap.size + 1 < g) := by have := HSd.out; simp at hBg; unfold Hid; omega
      clear hBg hrow
      refine wpAnyH_ready (rs := [8]) (by kernel_rfl) (by simp) ?_
      refine AllReadyH.cons rfl (fun K hK => ?_) (AllReadyH.nil)
      have y0 := HR2.out.c0; have y1 := HR2.out.c1; have y2 := HR2.out.c2; have y3 := HR2.out.c3; have y4 := HR2.out.c4; have f0 := HR2.out.fr 0; have f1 := HR2.out.fr 1; have f2 := HR2.out.fr 2; have f3 := HR2.out.fr 3; have f4 := HR2.out.fr 4; have HS := Lib.hid (HR2.out.set a1 a2 a3 a4 (.slice (some ⟨g, 0, none⟩) a5.length a5.length)); have z0 := HS.out.c0; have z1 := HS.out.c1; have z2 := HS.out.c2; have z3 := HS.out.c3; have z4 := HS.out.c4
      go_simp
      refine hK.out _ _ ?_ (fun hHeld2 => ?_)
      · exact (KL.next hHeld.1 (st5_below _ _ _ _ _ (Nat.le_refl _) (Below.refl _ _))).all
      clear hK K hHeld
      have hHeld := hHeld2; clear hHeld2
      try change wpAnyH _ _ _ _ _ _ _ (Act.put _ (none) _) _
      try simp only [Act.put, List.setIfInBounds_toArray, List.set_cons_zero, List.set_cons_succ]
      refine wpAnyH_take (i := 9) (v := ?_) rfl (by kernel_rfl) (by kernel_rfl) (by kernel_rfl) (fun _ _ _ h => h) (Or.inl ⟨by rfl, ?_⟩) (by assumption) ?_
      rotate_left
      · ((intro w0 hSw); (try dsimp only at hSw); go_simp; (try with_reducible rfl))
      change wpAnyH _ _ _ _ _ _ _ (Act.put _ (some 7) _) _
      try simp only [Act.put, List.setIfInBounds_toArray, List.set_cons_zero, List.set_cons_succ]
      refine wpAnyH_done (by kernel_rfl) ?_ _
      go_wp2_with fail
      refine bodyPost_ret (v := .tuple #[A5 a1 a2 a3 a4 (.slice (some ⟨g, 0, none⟩) a5.length a5.length), .int .i64 E]) (by simp [results, Tryd.results45, go_sem, z0, z1, z2, z3, z4]) rfl ?_
      exact ⟨_, rfl, .inr ⟨g, rfl, by have := HBs.out; omega, HRo.out.of_block (st5_other _ _ _ _ _ (by have := HBs.out; omega))⟩, st5_below _ _ _ _ _ (by omega) HB2.out⟩
  · rw [if_neg h2] at hn
    have h2b : (r == 2) = false := by simpa using h2
    rw [← hn] at hmk
    clear h2 hn
    go_enter Tryd.func45, Tryd.ntmps45
    go_wp2_with fail
    generalize hW : (w.alloc (.cells #[.int .i64 a, .int .i64 b] 22)).alloc (.cells #[.int .i64 0, .int .i64 0, .int .i64 0, .int .i64 0, .slice none 0 0] 25) = W0 at HK HR HL x0 x1 ⊢
    clear hW
    have HSz : Hid (w.heap.size + 1 < W0.heap.size) := HK.out.sz
    refine wp_region_held_drew (S := KL2 w a b) (by kernel_rfl) ?_ (fun hHeld => ?_)
    · exact KL.all (HK.out.next (Below.refl _ _).drew)
    have HRd : Hid (R5 (World.drew W0) (w.heap.size + 1) 0 0 0 0 (.slice none 0 0)) := HR.out.next (Below.refl _ _).drew
    have HLd : Hid (Ru.Lay (World.drew W0)) := HL.out.next (Below.refl _ _).drew
    have HSd : Hid (w.heap.size + 1 < (World.drew W0).heap.size) := HSz.out
    generalize World.drew W0 = wd at hHeld HRd HLd HSd ⊢
    clear HK HR HL x0 x1
    have hmk1 := hmk wd
    have HB1 := Lib.hid hHeld.1.bel
    have HBm := Lib.hid (HB1.out.trans ((bel1 wd (.cells (madeCells (Value.int .i64 0).cells n) 2)).mono HB1.out.size))
    have HRm := Lib.hid (HRd.out.next (bel1 wd (.cells (madeCells (Value.int .i64 0).cells n) 2)))
    have HLm := Lib.hid (HLd.out.next (bel1 wd (.cells (madeCells (Value.int .i64 0).cells n) 2)))
    refine wpAnyH_take (i := 0) (v := ?_) rfl (by kernel_rfl) (by kernel_rfl) (by kernel_rfl) (fun _ _ _ h => h) (Or.inl ⟨by rfl, ?_⟩) (by assumption) ?_
    rotate_left
    · ((intro w0 hSw); (try dsimp only at hSw); go_simp; (try with_reducible rfl))
    change wpAnyH _ _ _ _ _ _ _ (Act.put _ (some 17) _) _
    try simp only [Act.put, List.setIfInBounds_toArray, List.set_cons_zero, List.set_cons_succ]
    refine wpAnyH_take (i := 1) (v := ?_) rfl (by kernel_rfl) (by kernel_rfl) (by kernel_rfl) (fun _ _ _ h => h) (Or.inl ⟨by rfl, ?_⟩) (by assumption) ?_
    rotate_left
    · ((intro w0 hSw); (try dsimp only at hSw); go_simp; (try with_reducible rfl))
    change wpAnyH _ _ _ _ _ _ _ (Act.put _ (some 18) _) _
    try simp only [Act.put, List.setIfInBounds_toArray, List.set_cons_zero, List.set_cons_succ]
    refine wpAnyH_take (i := 2) (v := ?_) rfl (by kernel_rfl) (by kernel_rfl) (by kernel_rfl) (fun _ _ _ h => h) (Or.inl ⟨by rfl, ?_⟩) (by assumption) ?_
    rotate_left
    · ((intro w0 hSw); (try dsimp only at hSw); go_simp; (try with_reducible rfl))
    change wpAnyH _ _ _ _ _ _ _ (Act.put _ (some 19) _) _
    try simp only [Act.put, List.setIfInBounds_toArray, List.set_cons_zero, List.set_cons_succ]
    refine wpAnyH_take (i := 3) (v := ?_) rfl (by kernel_rfl) (by kernel_rfl) (by kernel_rfl) (fun _ _ _ h => h) (Or.inl ⟨by rfl, ?_⟩) (by assumption) ?_
    rotate_left
    · ((intro w0 hSw); (try dsimp only at hSw); go_simp; (try with_reducible rfl))
    change wpAnyH _ _ _ _ _ _ _ (Act.put _ (some 20) _) _
    try simp only [Act.put, List.setIfInBounds_toArray, List.set_cons_zero, List.set_cons_succ]
    refine wpAnyH_ready (rs := [4]) (by kernel_rfl) (by simp) ?_
    refine AllReadyH.cons rfl (fun K hK => ?_) (AllReadyH.nil)
    go_simp
    refine hK.out _ _ ?_ (fun hHeld2 => ?_)
    · exact (KL.next hHeld.1 ((bel1 wd _).mono (by have := hHeld.1.sz; omega))).all
    clear hK K hHeld
    have hHeld := hHeld2; clear hHeld2
    try change wpAnyH _ _ _ _ _ _ _ (Act.put _ (some 21) _) _
    try simp only [Act.put, List.setIfInBounds_toArray, List.set_cons_zero, List.set_cons_succ]
    refine wpAnyH_ready (rs := [5]) (by kernel_rfl) (by simp) ?_
    refine AllReadyH.cons rfl (fun K hK => ?_) (AllReadyH.nil)
    go_simp
    go_at_call 41
    refine (HM.out _ _ HLm.out (HMd.out _)).mono ?_
    rintro e w1 ⟨u, rfl, hu, hb⟩
    have hbl : Below (w.heap.size + 1) (wd.alloc (.cells (madeCells (Value.int .i64 0).cells n) 2)) w1 := hb.mono (by simp; have := HSd.out; omega)
    have HR2 := Lib.hid (HRm.out.next hb)
    have HB2 := Lib.hid (HBm.out.trans (hb.mono HBm.out.size))
    refine hK.out _ _ ?_ (fun hHeld2 => ?_)
    · exact (KL.next hHeld.1 hbl).all
    clear hK K hHeld
    have hHeld := hHeld2; clear hHeld2
    try change wpAnyH _ _ _ _ _ _ _ (Act.put _ (some 22) _) _
    try dsimp only
    try simp only [Act.put, List.setIfInBounds_toArray, List.set_cons_zero, List.set_cons_succ]
    refine wpAnyH_take (i := 6) (v := ?_) rfl (by kernel_rfl) (by kernel_rfl) (by kernel_rfl) (fun _ _ _ h => h) (Or.inl ⟨by rfl, ?_⟩) (by assumption) ?_
    rotate_left
    · ((intro w0 hSw); (try dsimp only at hSw); go_simp; (try with_reducible rfl))
    change wpAnyH _ _ _ _ _ _ _ (Act.put _ (some 23) _) _
    try simp only [Act.put, List.setIfInBounds_toArray, List.set_cons_zero, List.set_cons_succ]
    refine wpAnyH_take (i := 7) (v := ?_) rfl (by kernel_rfl) (by kernel_rfl) (by kernel_rfl) (fun _ _ _ h => h) (Or.inl ⟨by rfl, ?_⟩) (by assumption) ?_
    rotate_left
    · ((intro w0 hSw); (try dsimp only at hSw); go_simp; (try with_reducible rfl))
    change wpAnyH _ _ _ _ _ _ _ (Act.put _ (some 24) _) _
    try simp only [Act.put, List.setIfInBounds_toArray, List.set_cons_zero, List.set_cons_succ]
    rcases hu with ⟨hne, rfl, hz⟩ | ⟨g, rfl, hBg, hrow⟩
    · have HZ := Lib.hid (And.intro hne hz)
      clear hz hne
      refine wpAnyH_ready (rs := [8]) (by kernel_rfl) (by simp) ?_
      refine AllReadyH.cons rfl (fun K hK => ?_) (AllReadyH.nil)
      have y0 := HR2.out.c0; have y1 := HR2.out.c1; have y2 := HR2.out.c2; have y3 := HR2.out.c3; have y4 := HR2.out.c4; have f0 := HR2.out.fr 0; have f1 := HR2.out.fr 1; have f2 := HR2.out.fr 2; have f3 := HR2.out.fr 3; have f4 := HR2.out.fr 4; have HS := Lib.hid (HR2.out.set a1 a2 a3 a4 (.slice none 0 0)); have z0 := HS.out.c0; have z1 := HS.out.c1; have z2 := HS.out.c2; have z3 := HS.out.c3; have z4 := HS.out.c4
      go_simp
      refine hK.out _ _ ?_ (fun hHeld2 => ?_)
      · exact (KL.next hHeld.1 (st5_below _ _ _ _ _ (Nat.le_refl _) (Below.refl _ _))).all
      clear hK K hHeld
      have hHeld := hHeld2; clear hHeld2
      try change wpAnyH _ _ _ _ _ _ _ (Act.put _ (none) _) _
      try simp only [Act.put, List.setIfInBounds_toArray, List.set_cons_zero, List.set_cons_succ]
      refine wpAnyH_take (i := 9) (v := ?_) rfl (by kernel_rfl) (by kernel_rfl) (by kernel_rfl) (fun _ _ _ h => h) (Or.inl ⟨by rfl, ?_⟩) (by assumption) ?_
      rotate_left
      · ((intro w0 hSw); (try dsimp only at hSw); go_simp; (try with_reducible rfl))
      change wpAnyH _ _ _ _ _ _ _ (Act.put _ (some 7) _) _
      try simp only [Act.put, List.setIfInBounds_toArray, List.set_cons_zero, List.set_cons_succ]
      refine wpAnyH_done (by kernel_rfl) ?_ _
      go_wp2_with fail
      refine bodyPost_ret (v := .tuple #[A5 a1 a2 a3 a4 (.slice none 0 0), .int .i64 E]) (by simp [results, Tryd.results45, go_sem, z0, z1, z2, z3, z4]) rfl ?_
      exact ⟨_, rfl, .inl ⟨HZ.out.1, rfl, HZ.out.2⟩, st5_below _ _ _ _ _ (by omega) HB2.out⟩
    · have HRo := Lib.hid hrow
      have HBs : Hid (w.heap.size + 1 < g) := by have := HSd.out; simp at hBg; unfold Hid; omega
      clear hBg hrow
      refine wpAnyH_ready (rs := [8]) (by kernel_rfl) (by simp) ?_
      refine AllReadyH.cons rfl (fun K hK => ?_) (AllReadyH.nil)
      have y0 := HR2.out.c0; have y1 := HR2.out.c1; have y2 := HR2.out.c2; have y3 := HR2.out.c3; have y4 := HR2.out.c4; have f0 := HR2.out.fr 0; have f1 := HR2.out.fr 1; have f2 := HR2.out.fr 2; have f3 := HR2.out.fr 3; have f4 := HR2.out.fr 4; have HS := Lib.hid (HR2.out.set a1 a2 a3 a4 (.slice (some ⟨g, 0, none⟩) a5.length a5.length)); have z0 := HS.out.c0; have z1 := HS.out.c1; have z2 := HS.out.c2; have z3 := HS.out.c3; have z4 := HS.out.c4
      go_simp
      refine hK.out _ _ ?_ (fun hHeld2 => ?_)
      · exact (KL.next hHeld.1 (st5_below _ _ _ _ _ (Nat.le_refl _) (Below.refl _ _))).all
      clear hK K hHeld
      have hHeld := hHeld2; clear hHeld2
      try change wpAnyH _ _ _ _ _ _ _ (Act.put _ (none) _) _
      try simp only [Act.put, List.setIfInBounds_toArray, List.set_cons_zero, List.set_cons_succ]
      refine wpAnyH_take (i := 9) (v := ?_) rfl (by kernel_rfl) (by kernel_rfl) (by kernel_rfl) (fun _ _ _ h => h) (Or.inl ⟨by rfl, ?_⟩) (by assumption) ?_
      rotate_left
      · ((intro w0 hSw); (try dsimp only at hSw); go_simp; (try with_reducible rfl))
      change wpAnyH _ _ _ _ _ _ _ (Act.put _ (some 7) _) _
      try simp only [Act.put, List.setIfInBounds_toArray, List.set_cons_zero, List.set_cons_succ]
      refine wpAnyH_done (by kernel_rfl) ?_ _
      go_wp2_with fail
      refine bodyPost_ret (v := .tuple #[A5 a1 a2 a3 a4 (.slice (some ⟨g, 0, none⟩) a5.length a5.length), .int .i64 E]) (by simp [results, Tryd.results45, go_sem, z0, z1, z2, z3, z4]) rfl ?_
      exact ⟨_, rfl, .inr ⟨g, rfl, by have := HBs.out; omega, HRo.out.of_block (st5_other _ _ _ _ _ (by have := HBs.out; omega))⟩, st5_below _ _ _ _ _ (by omega) HB2.out⟩
end Go.Proofs.YtbeoigmaieiigaaDoor
