/- The law's is, at one array twice; awake. -/
import Derived.Test.YtpbfbejckhbijaaDoorFiAz
import Derived.Test.YtpbfbejckhbijaaDoorFiF
import Derived.Test.YtpbfbejckhbijaaDoorFiK
import Derived.Test.YtpbfbejckhbijaaDoorMvQ
import Derived.Deep.DeepCutAuto
import Derived.Test.YtpbfbejckhbijaaDoorMvP
namespace Go.Proofs.YtpbfbejckhbijaaDoor
open Go.RowKit

set_option maxRecDepth 100000 in
set_option maxHeartbeats 4000000 in
theorem is8_eq (A : Ar) (v u : Value) (w : World) (hv : RdI w.heap.size w v A.z) (hu : RdI w.heap.size w u A.z) (hl : A.z.length ≤ 1000000) :
    Calls Tryd.prog 16 #[A5 A.k A.r A.a A.b v, .int .i64 0, A5 A.k A.r A.a A.b u] w fun e w' => e = .returned (.bool true) ∧ Below w.heap.size w w' := by
  have HS := Lib.hid (fun v u W h1 h2 => same_eq A.k A.r A.a A.b A.z v u W h1 h2 hl)
  have HK := Lib.hid (KD.new hv hu)
  have x0 := HK.out.b0.c0; have x1 := HK.out.b0.c1; have x2 := HK.out.b0.c2; have x3 := HK.out.b0.c3; have x4 := HK.out.b0.c4
  have y0 := HK.out.b1.c0; have y1 := HK.out.b1.c1; have y2 := HK.out.b1.c2; have y3 := HK.out.b1.c3; have y4 := HK.out.b1.c4
  obtain ⟨p, cap, rfl, _, _, _⟩ := hv
  obtain ⟨q, cap', rfl, _, _, _⟩ := hu
  go_enter Tryd.func16, Tryd.ntmps16
  go_wp2_with (go_at_call 30; (with_reducible refine (HS.out _ _ _ HK.out.rd0 HK.out.rd1).mono ?_); rintro e w1 ⟨rfl, hb⟩; have HB := Lib.hid (HK.out.next hb).bel; clear hb)
  go_ret
  exact ⟨rfl, HB.out⟩
theorem in64_lit8 {z : List Int} (h : z.all Sc.inr = true) : in64 z := fun x hx => List.all_eq_true.1 h x hx
theorem igrade_lit (v : Value) (W : World) (h1 : Ru.Lay W) (h2 : RdI W.heap.size W v [5, 3, 5, 1]) : Calls Tryd.prog 9 #[A5 1 1 4 0 v] W (RetE ⟨1, 1, 4, 0, [3, 1, 0, 2]⟩ 0 W) := by
  have h := igrade_small ⟨1, 1, 4, 0, [5, 3, 5, 1]⟩ v W h1 h2 (by decide) (by decide) (by decide)
  simp only [grS_lit] at h
  exact h

set_option maxRecDepth 100000 in
set_option maxHeartbeats 32000000 in
theorem awake8_any (w : World) (hw : Ru.Lay w) : Calls Tryd.prog 6 #[] w fun e w' => e = .returned (.bool true) ∧ Below w.heap.size w w' := by
  have HK0 := Lib.hid (KLs.start w hw)
  clear hw
  have HV : Hid (∀ (W : World) (g : Nat), W.heap.size = g → Calls Tryd.prog 17 #[.slice (some ⟨g, 0, none⟩) 4 4] (W.alloc (.cells #[.int .i64 5, .int .i64 3, .int .i64 5, .int .i64 1] 2)) fun e w' => ∃ q c, e = .returned (A5 1 1 4 0 (.slice q 4 c)) ∧ RdN (g + 1) w' (.slice q 4 c) [5, 3, 5, 1] ∧ Below W.heap.size W w') := fun W g hg => ints_lit [5, 3, 5, 1] 4 rfl (by decide) W g hg
  have HSh : Hid (∀ (v : Value) (W : World), Ru.Lay W → RdI W.heap.size W v [5, 3, 5, 1] → Calls Tryd.prog 18 #[A5 1 1 4 0 v] W fun e w' => ∃ q c, e = .returned (.tuple #[A5 1 1 1 0 (.slice q 1 c), .int .i64 0]) ∧ RdN W.heap.size w' (.slice q 1 c) [4] ∧ Below W.heap.size W w') := fun v W h1 h2 => one_lit (E := 0) (ishape_any ⟨1, 1, 4, 0, [5, 3, 5, 1]⟩ v W h1 h2 (by decide)) 1 1 1 0 1 [4] (by rfl) rfl
  have HI3 := Lib.hid (fun W => int_lit 3 W)
  have HI401 := Lib.hid (fun W => int_lit 401 W)
  have HI4 := Lib.hid (fun W => int_lit 4 W)
  have HIo : Hid (∀ (v : Value) (W : World), Ru.Lay W → RdI W.heap.size W v [3] → Calls Tryd.prog 14 #[A5 1 0 0 0 v] W fun e w' => ∃ q c, e = .returned (.tuple #[A5 1 1 3 0 (.slice q 3 c), .int .i64 0]) ∧ RdN W.heap.size w' (.slice q 3 c) [0, 1, 2] ∧ Below W.heap.size W w') := fun v W h1 h2 => one_lit (E := 0) (iiota_any ⟨1, 0, 0, 0, [3]⟩ v W h1 h2 (by decide)) 1 1 3 0 3 [0, 1, 2] (by rfl) rfl
  have HIb : Hid (∀ (v : Value) (W : World), Ru.Lay W → RdI W.heap.size W v [401] → Calls Tryd.prog 14 #[A5 1 0 0 0 v] W fun e w' => ∃ q c, e = .returned (.tuple #[A5 0 0 0 0 (.slice q 0 c), .int .i64 15]) ∧ RdN W.heap.size w' (.slice q 0 c) [] ∧ Below W.heap.size W w') := fun v W h1 h2 => one_lit (E := 15) (iiota_any ⟨1, 0, 0, 0, [401]⟩ v W h1 h2 (by decide)) 0 0 0 0 0 [] (by rfl) rfl
  have HIa : Hid (∀ (v : Value) (W : World), RdI W.heap.size W v [3, 0] → Ru.NilC v → Calls Tryd.prog 17 #[v] W fun e w' => ∃ q c, e = .returned (A5 1 1 2 0 (.slice q 2 c)) ∧ RdN W.heap.size w' (.slice q 2 c) [3, 0] ∧ Below W.heap.size W w') := fun v W h1 h2 => ints_gen [3, 0] 2 rfl (by decide) v W h1 h2
  have HAt : Hid (∀ (v u : Value) (W : World), Ru.Lay W → RdI W.heap.size W v [5, 3, 5, 1] → RdI W.heap.size W u [3, 0] → Calls Tryd.prog 13 #[A5 1 1 4 0 v, A5 1 1 2 0 u] W fun e w' => ∃ q c, e = .returned (.tuple #[A5 1 1 2 0 (.slice q 2 c), .int .i64 0]) ∧ RdN W.heap.size w' (.slice q 2 c) [1, 5] ∧ Below W.heap.size W w') := fun v u W h1 h2 h3 => two_lit (E := 0) (iat_any ⟨1, 1, 4, 0, [5, 3, 5, 1]⟩ ⟨1, 1, 2, 0, [3, 0]⟩ v u W h1 h2 h3 (by decide) (by decide)) 1 1 2 0 2 [1, 5] (by rfl) rfl
  have HAx : Hid (∀ (v u : Value) (W : World), Ru.Lay W → RdI W.heap.size W v [5, 3, 5, 1] → RdI W.heap.size W u [4] → Calls Tryd.prog 13 #[A5 1 1 4 0 v, A5 1 0 0 0 u] W fun e w' => ∃ q c, e = .returned (.tuple #[A5 0 0 0 0 (.slice q 0 c), .int .i64 14]) ∧ RdN W.heap.size w' (.slice q 0 c) [] ∧ Below W.heap.size W w') := fun v u W h1 h2 h3 => two_lit (E := 14) (iat_any ⟨1, 1, 4, 0, [5, 3, 5, 1]⟩ ⟨1, 0, 0, 0, [4]⟩ v u W h1 h2 h3 (by decide) (by decide)) 0 0 0 0 0 [] (by rfl) rfl
  have HIn5 : Hid (∀ (v : Value) (W : World), RdI W.heap.size W v [5, 9] → Ru.NilC v → Calls Tryd.prog 17 #[v] W fun e w' => ∃ q c, e = .returned (A5 1 1 2 0 (.slice q 2 c)) ∧ RdN W.heap.size w' (.slice q 2 c) [5, 9] ∧ Below W.heap.size W w') := fun v W h1 h2 => ints_gen [5, 9] 2 rfl (by decide) v W h1 h2
  have HIn : Hid (∀ (v u : Value) (W : World), Ru.Lay W → RdI W.heap.size W v [5, 3, 5, 1] → RdI W.heap.size W u [5, 9] → Calls Tryd.prog 19 #[A5 1 1 4 0 v, A5 1 1 2 0 u] W fun e w' => ∃ q c, e = .returned (.tuple #[A5 1 1 4 0 (.slice q 4 c), .int .i64 0]) ∧ RdN W.heap.size w' (.slice q 4 c) [1, 0, 1, 0] ∧ Below W.heap.size W w') := fun v u W h1 h2 h3 => two_lit (E := 0) (iin_any ⟨1, 1, 4, 0, [5, 3, 5, 1]⟩ ⟨1, 1, 2, 0, [5, 9]⟩ v u W h1 h2 h3 (by decide) (by decide) (in64_lit8 (by decide)) (in64_lit8 (by decide))) 1 1 4 0 4 [1, 0, 1, 0] (by rfl) rfl
  have HIp : Hid (∀ (v : Value) (W : World), RdI W.heap.size W v [1, 0, 7, 0] → Ru.NilC v → Calls Tryd.prog 17 #[v] W fun e w' => ∃ q c, e = .returned (A5 1 1 4 0 (.slice q 4 c)) ∧ RdN W.heap.size w' (.slice q 4 c) [1, 0, 7, 0] ∧ Below W.heap.size W w') := fun v W h1 h2 => ints_gen [1, 0, 7, 0] 4 rfl (by decide) v W h1 h2
  have HPk : Hid (∀ (v u : Value) (W : World), Ru.Lay W → RdI W.heap.size W v [1, 0, 7, 0] → RdI W.heap.size W u [5, 3, 5, 1] → Calls Tryd.prog 7 #[A5 1 1 4 0 v, A5 1 1 4 0 u] W fun e w' => ∃ q c, e = .returned (.tuple #[A5 1 1 2 0 (.slice q 2 c), .int .i64 0]) ∧ RdN W.heap.size w' (.slice q 2 c) [5, 5] ∧ Below W.heap.size W w') := fun v u W h1 h2 h3 => two_lit (E := 0) (ipick_any ⟨1, 1, 4, 0, [1, 0, 7, 0]⟩ ⟨1, 1, 4, 0, [5, 3, 5, 1]⟩ v u W h1 h2 h3 (by decide) (by decide)) 1 1 2 0 2 [5, 5] (by rfl) rfl
  have HGr : Hid (∀ (v : Value) (W : World), Ru.Lay W → RdI W.heap.size W v [5, 3, 5, 1] → Calls Tryd.prog 9 #[A5 1 1 4 0 v] W fun e w' => ∃ q c, e = .returned (.tuple #[A5 1 1 4 0 (.slice q 4 c), .int .i64 0]) ∧ RdN W.heap.size w' (.slice q 4 c) [3, 1, 0, 2] ∧ Below W.heap.size W w') := fun v W h1 h2 => one_lit (E := 0) (igrade_lit v W h1 h2) 1 1 4 0 4 [3, 1, 0, 2] (by rfl) rfl
  go_enter Tryd.func6, Tryd.ntmps6
  go_upto_region 5 with (first
    | (go_at_call 17; (with_reducible refine (HV.out _ _ (by first | rfl | simp)).mono ?_); rintro e w1 ⟨qv, cv, rfl, hu, hb⟩; have HK := Lib.hid ((HK0.out.next hb).push ⟨1, 1, 4, 0, [5, 3, 5, 1]⟩ (u := .slice qv 4 cv) hu.rd); clear hu hb HK0; have x0 := (HK.out.a _ (.head _)).c0; have x1 := (HK.out.a _ (.head _)).c1; have x2 := (HK.out.a _ (.head _)).c2; have x3 := (HK.out.a _ (.head _)).c3; have x4 := (HK.out.a _ (.head _)).c4)
    | (go_at_call 18; (with_reducible refine (HSh.out _ _ HK.out.lay (by with_unfolding_all exact HK.out.r _ (.head _))).mono ?_); rintro e w2 ⟨qa, ca, rfl, hu, hb⟩; have HKn := Lib.hid ((HK.out.next hb).push ⟨1, 1, 1, 0, [4]⟩ (u := .slice qa 1 ca) hu.rd); clear HK x0 x1 x2 x3 x4; have HK := HKn; clear HKn; clear hu hb; have x0 := (HK.out.a _ (.tail _ (.head _))).c0; have x1 := (HK.out.a _ (.tail _ (.head _))).c1; have x2 := (HK.out.a _ (.tail _ (.head _))).c2; have x3 := (HK.out.a _ (.tail _ (.head _))).c3; have x4 := (HK.out.a _ (.tail _ (.head _))).c4)
    | (go_at_call 15; (with_reducible refine (HI3.out _).mono ?_); rintro e w3 ⟨q_, c_, rfl, hu, hb⟩; have HU3 := Lib.hid hu.rd; have HKn := Lib.hid (HK.out.next hb); clear HK x0 x1 x2 x3 x4; have HK := HKn; clear HKn; clear hu hb; have x0 := (HK.out.a _ (.tail _ (.head _))).c0; have x1 := (HK.out.a _ (.tail _ (.head _))).c1; have x2 := (HK.out.a _ (.tail _ (.head _))).c2; have x3 := (HK.out.a _ (.tail _ (.head _))).c3; have x4 := (HK.out.a _ (.tail _ (.head _))).c4)
    | (go_at_call 14; (with_reducible refine (HIo.out _ _ HK.out.lay HU3.out).mono ?_); rintro e w4 ⟨qb, cb, rfl, hu, hb⟩; have HKn := Lib.hid ((HK.out.next hb).push ⟨1, 1, 3, 0, [0, 1, 2]⟩ (u := .slice qb 3 cb) hu.rd); clear HK x0 x1 x2 x3 x4; have HK := HKn; clear HKn; clear hu hb; have x0 := (HK.out.a _ (.tail _ (.tail _ (.head _)))).c0; have x1 := (HK.out.a _ (.tail _ (.tail _ (.head _)))).c1; have x2 := (HK.out.a _ (.tail _ (.tail _ (.head _)))).c2; have x3 := (HK.out.a _ (.tail _ (.tail _ (.head _)))).c3; have x4 := (HK.out.a _ (.tail _ (.tail _ (.head _)))).c4)
    | (go_at_call 15; (with_reducible refine (HI401.out _).mono ?_); rintro e w5 ⟨q_, c_, rfl, hu, hb⟩; have HU401 := Lib.hid hu.rd; have HKn := Lib.hid (HK.out.next hb); clear HK x0 x1 x2 x3 x4; have HK := HKn; clear HKn; clear hu hb; have x0 := (HK.out.a _ (.tail _ (.tail _ (.head _)))).c0; have x1 := (HK.out.a _ (.tail _ (.tail _ (.head _)))).c1; have x2 := (HK.out.a _ (.tail _ (.tail _ (.head _)))).c2; have x3 := (HK.out.a _ (.tail _ (.tail _ (.head _)))).c3; have x4 := (HK.out.a _ (.tail _ (.tail _ (.head _)))).c4)
    | (go_at_call 14; (with_reducible refine (HIb.out _ _ HK.out.lay HU401.out).mono ?_); rintro e w6 ⟨qn, cn, rfl, hu, hb⟩; have HKn := Lib.hid ((HK.out.next hb).push ⟨0, 0, 0, 0, []⟩ (u := .slice qn 0 cn) hu.rd); clear HK x0 x1 x2 x3 x4; have HK := HKn; clear HKn; clear hu hb; have x0 := (HK.out.a _ (.tail _ (.tail _ (.tail _ (.head _))))).c0; have x1 := (HK.out.a _ (.tail _ (.tail _ (.tail _ (.head _))))).c1; have x2 := (HK.out.a _ (.tail _ (.tail _ (.tail _ (.head _))))).c2; have x3 := (HK.out.a _ (.tail _ (.tail _ (.tail _ (.head _))))).c3; have x4 := (HK.out.a _ (.tail _ (.tail _ (.tail _ (.head _))))).c4)
    | fail)
  generalize World.alloc w6 _ = W6 at HK ⊢
  clear x0 x1 x2 x3 x4
  generalize w6.heap.size = gn at HK ⊢
  generalize w4.heap.size = gb at HK ⊢
  generalize w2.heap.size = ga at HK ⊢
  generalize w1.heap.size = gv at HK ⊢
  go_cut [8, 9] (fun sp se wx => CutA w [⟨gn, ⟨0, 0, 0, 0, []⟩, .slice qn 0 cn⟩, ⟨gb, ⟨1, 1, 3, 0, [0, 1, 2]⟩, .slice qb 3 cb⟩, ⟨ga, ⟨1, 1, 1, 0, [4]⟩, .slice qa 1 ca⟩, ⟨gv, ⟨1, 1, 4, 0, [5, 3, 5, 1]⟩, .slice qv 4 cv⟩] sp se 1 1 2 0 0 2 [1, 5] wx)
  case first =>
    clear HV HSh HI3 HI401 HI4 HIo HIb HAx HIn5 HIn HIp HPk HGr
    have HAll : Hid (∀ W, Below W6.heap.size W6 W → (fun W => Below W6.heap.size W6 W ∧ W.cell? ⟨gv, 0, none⟩ = some (.int .i64 1) ∧ W.cell? ⟨gv, 1, none⟩ = some (.int .i64 1) ∧ W.cell? ⟨gv, 2, none⟩ = some (.int .i64 4) ∧ W.cell? ⟨gv, 3, none⟩ = some (.int .i64 0) ∧ W.cell? ⟨gv, 4, none⟩ = some (.slice qv 4 cv)) W) := fun W h => ⟨h, ((HK.out.next h).a _ (.tail _ (.tail _ (.tail _ (.head _))))).c0, ((HK.out.next h).a _ (.tail _ (.tail _ (.tail _ (.head _))))).c1, ((HK.out.next h).a _ (.tail _ (.tail _ (.tail _ (.head _))))).c2, ((HK.out.next h).a _ (.tail _ (.tail _ (.tail _ (.head _))))).c3, ((HK.out.next h).a _ (.tail _ (.tail _ (.tail _ (.head _))))).c4⟩
    refine wp_region_held_drew (S := (fun W => Below W6.heap.size W6 W ∧ W.cell? ⟨gv, 0, none⟩ = some (.int .i64 1) ∧ W.cell? ⟨gv, 1, none⟩ = some (.int .i64 1) ∧ W.cell? ⟨gv, 2, none⟩ = some (.int .i64 4) ∧ W.cell? ⟨gv, 3, none⟩ = some (.int .i64 0) ∧ W.cell? ⟨gv, 4, none⟩ = some (.slice qv 4 cv))) (by kernel_rfl) ?_ (fun hHeld => ?_)
    · exact HAll.out _ (Below.refl _ _).drew
    have HB0 : Hid (Below W6.heap.size W6 (World.drew W6)) := (Below.refl _ _).drew
    generalize World.drew W6 = wd at hHeld HB0 ⊢
    refine wpAnyH_take (i := 0) (v := ?_) rfl (by kernel_rfl) (by kernel_rfl) (by kernel_rfl) (fun _ _ _ h => h) (Or.inl ⟨by rfl, ?_⟩) (by assumption) ?_
    rotate_left
    · ((intro w0 hSw); (try dsimp only at hSw); go_simp; (try with_reducible rfl))
    change wpAnyH _ _ _ _ _ _ _ (Act.put _ (some 36) _) _
    try simp only [Act.put, List.setIfInBounds_toArray, List.set_cons_zero, List.set_cons_succ]
    refine wpAnyH_ready (rs := [1, 7]) (by kernel_rfl) (by simp) ?_
    refine AllReadyH.cons rfl (fun K hK => ?_) (AllReadyH.cons rfl (fun K hK => ?_) (AllReadyH.nil))
    · go_simp
      refine hK.out _ _ ?_ (fun hHeld2 => ?_)
      · exact HAll.out _ (HB0.out.trans ((bel1 wd _).mono HB0.out.size))
      clear hK K hHeld
      have hHeld := hHeld2; clear hHeld2
      try change wpAnyH _ _ _ _ _ _ _ (Act.put _ (some 37) _) _
      try simp only [Act.put, List.setIfInBounds_toArray, List.set_cons_zero, List.set_cons_succ]
      generalize hwx3 : World.alloc wd _ = wn1 at hHeld ⊢
      have HB2 : Hid (Below W6.heap.size W6 wn1) := by rw [← hwx3]; exact HB0.out.trans ((bel1 wd _).mono HB0.out.size)
      have HU4 : Hid (RdI wn1.heap.size wn1 (.slice (some ⟨wd.heap.size, 0, none⟩) 2 2) [3, 0]) := by rw [← hwx3]; exact blk_rd (l := [3, 0]) rfl (by decide) (heap_alloc_last wd _)
      clear hwx3
      refine wpAnyH_ready (rs := [2, 7]) (by kernel_rfl) (by simp) ?_
      refine AllReadyH.cons rfl (fun K hK => ?_) (AllReadyH.cons rfl (fun K hK => ?_) (AllReadyH.nil))
      · go_simp
        go_at_call 17
        with_reducible refine (HIa.out _ _ HU4.out (nil_some _ _ _)).mono ?_
        rintro e wn5 ⟨qz7, cz8, rfl, hu9, hb10⟩
        have HB6 := Lib.hid (HB2.out.trans (hb10.mono HB2.out.size))
        refine hK.out _ _ ?_ (fun hHeld2 => ?_)
        · exact HAll.out _ HB6.out
        clear hK K hHeld
        have hHeld := hHeld2; clear hHeld2
        try change wpAnyH _ _ _ _ _ _ _ (Act.put _ (some 38) _) _
        try dsimp only
        try simp only [Act.put, List.setIfInBounds_toArray, List.set_cons_zero, List.set_cons_succ]
        have HU12 := Lib.hid (HU4.out.next hb10)
        have HU11 := Lib.hid hu9.rd
        clear hu9 hb10
        refine wpAnyH_ready (rs := [3, 7]) (by kernel_rfl) (by simp) ?_
        refine AllReadyH.cons rfl (fun K hK => ?_) (AllReadyH.cons rfl (fun K hK => ?_) (AllReadyH.nil))
        · go_simp
          go_at_call 13
          with_reducible refine (HAt.out _ _ _ (HK.out.next HB6.out).lay (by with_unfolding_all exact (HK.out.next HB6.out).r _ (.tail _ (.tail _ (.tail _ (.head _))))) HU11.out).mono ?_
          rintro e wn13 ⟨qz15, cz16, rfl, hu17, hb18⟩
          have HB14 := Lib.hid (HB6.out.trans (hb18.mono HB6.out.size))
          refine hK.out _ _ ?_ (fun hHeld2 => ?_)
          · exact HAll.out _ HB14.out
          clear hK K hHeld
          have hHeld := hHeld2; clear hHeld2
          try change wpAnyH _ _ _ _ _ _ _ (Act.put _ (some 39) _) _
          try dsimp only
          try simp only [Act.put, List.setIfInBounds_toArray, List.set_cons_zero, List.set_cons_succ]
          have HU20 := Lib.hid (HU12.out.next hb18)
          have HU21 := Lib.hid (HU11.out.next hb18)
          have HU19 := Lib.hid hu17
          clear hu17 hb18
          refine wpAnyH_take (i := 4) (v := ?_) rfl (by kernel_rfl) (by kernel_rfl) (by kernel_rfl) (fun _ _ _ h => h) (Or.inl ⟨by rfl, ?_⟩) (by assumption) ?_
          rotate_left
          · ((intro w0 hSw); (try dsimp only at hSw); go_simp; (try with_reducible rfl))
          change wpAnyH _ _ _ _ _ _ _ (Act.put _ (some 35) _) _
          try simp only [Act.put, List.setIfInBounds_toArray, List.set_cons_zero, List.set_cons_succ]
          refine wpAnyH_take (i := 5) (v := ?_) rfl (by kernel_rfl) (by kernel_rfl) (by kernel_rfl) (fun _ _ _ h => h) (Or.inl ⟨by rfl, ?_⟩) (by assumption) ?_
          rotate_left
          · ((intro w0 hSw); (try dsimp only at hSw); go_simp; (try with_reducible rfl))
          change wpAnyH _ _ _ _ _ _ _ (Act.put _ (some 40) _) _
          try simp only [Act.put, List.setIfInBounds_toArray, List.set_cons_zero, List.set_cons_succ]
          refine wpAnyH_take (i := 6) (v := ?_) rfl (by kernel_rfl) (by kernel_rfl) (by kernel_rfl) (fun _ _ _ h => h) (Or.inl ⟨by rfl, ?_⟩) (by assumption) ?_
          rotate_left
          · ((intro w0 hSw); (try dsimp only at hSw); go_simp; (try with_reducible rfl))
          change wpAnyH _ _ _ _ _ _ _ (Act.put _ (some 41) _) _
          try simp only [Act.put, List.setIfInBounds_toArray, List.set_cons_zero, List.set_cons_succ]
          refine wpAnyH_ready (rs := [7]) (by kernel_rfl) (by simp) ?_
          refine AllReadyH.cons rfl (fun K hK => ?_) (AllReadyH.nil)
          go_simp
          refine hK.out _ _ ?_ (fun hHeld2 => ?_)
          · exact HAll.out _ (HB14.out.trans ((bel1 wn13 _).mono HB14.out.size))
          clear hK K hHeld
          have hHeld := hHeld2; clear hHeld2
          try change wpAnyH _ _ _ _ _ _ _ (Act.put _ (some 8) _) _
          try simp only [Act.put, List.setIfInBounds_toArray, List.set_cons_zero, List.set_cons_succ]
          generalize hwx23 : World.alloc wn13 _ = wa22 at hHeld ⊢
          have HB24 : Hid (Below W6.heap.size W6 wa22) := by rw [← hwx23]; exact HB14.out.trans ((bel1 wn13 _).mono HB14.out.size)
          have HG25 : Hid (R5 wa22 wn13.heap.size 0 0 0 0 (.slice none 0 0)) := by rw [← hwx23]; exact R5.new _ _ _ _ _ _
          have HLE26 := Lib.hid HB14.out.size
          have HU27 : Hid (RdI wa22.heap.size wa22 (.slice (some ⟨wd.heap.size, 0, none⟩) 2 2) [3, 0]) := by rw [← hwx23]; exact HU20.out.next (bel1 _ _)
          have HU28 : Hid (RdI wa22.heap.size wa22 (.slice qz7 2 cz8) [3, 0]) := by rw [← hwx23]; exact HU21.out.next (bel1 _ _)
          have H929 : Hid (Below wn13.heap.size wn13 wa22) := by rw [← hwx23]; exact bel1 _ _
          clear hwx23
          refine wpAnyH_ready (rs := [8]) (by kernel_rfl) (by simp) ?_
          refine AllReadyH.cons rfl (fun K hK => ?_) (AllReadyH.nil)
          have y0 := HG25.out.c0; have y1 := HG25.out.c1; have y2 := HG25.out.c2; have y3 := HG25.out.c3; have y4 := HG25.out.c4; have f0 := HG25.out.fr 0; have f1 := HG25.out.fr 1; have f2 := HG25.out.fr 2; have f3 := HG25.out.fr 3; have f4 := HG25.out.fr 4; have HS := Lib.hid (HG25.out.set 1 1 2 0 (.slice qz15 2 cz16)); have z0 := HS.out.c0; have z1 := HS.out.c1; have z2 := HS.out.c2; have z3 := HS.out.c3; have z4 := HS.out.c4
          go_simp
          refine hK.out _ _ ?_ (fun hHeld2 => ?_)
          · exact HAll.out _ (st5_below _ _ _ _ _ HLE26.out HB24.out)
          clear hK K hHeld
          have hHeld := hHeld2; clear hHeld2
          try simp only [Act.put, List.setIfInBounds_toArray, List.set_cons_zero, List.set_cons_succ]
          refine wpAnyH_take (i := 9) (v := ?_) rfl (by kernel_rfl) (by kernel_rfl) (by kernel_rfl) (fun _ _ _ h => h) (Or.inl ⟨by rfl, ?_⟩) (by assumption) ?_
          rotate_left
          · ((intro w0 hSw); (try dsimp only at hSw); go_simp; (try with_reducible rfl))
          change wpAnyH _ _ _ _ _ _ _ (Act.put _ (some 9) _) _
          try simp only [Act.put, List.setIfInBounds_toArray, List.set_cons_zero, List.set_cons_succ]
          refine wpAnyH_done (by kernel_rfl) ?_ _
          go_wp2_with fail
          go_meet
          case rel => exact ⟨wn13.heap.size, _, _, rfl, rfl, (HK.out.next (st5_below _ _ _ _ _ HLE26.out HB24.out)).add HS.out (HU19.out.rd.next (st5_below _ _ _ _ _ (Nat.le_refl _) H929.out))⟩
        · go_simp
          refine hK.out _ _ ?_ (fun hHeld2 => ?_)
          · exact HAll.out _ (HB6.out.trans ((bel1 wn5 _).mono HB6.out.size))
          clear hK K hHeld
          have hHeld := hHeld2; clear hHeld2
          try change wpAnyH _ _ _ _ _ _ _ (Act.put _ (some 8) _) _
          try simp only [Act.put, List.setIfInBounds_toArray, List.set_cons_zero, List.set_cons_succ]
          generalize hwx31 : World.alloc wn5 _ = wa30 at hHeld ⊢
          have HB32 : Hid (Below W6.heap.size W6 wa30) := by rw [← hwx31]; exact HB6.out.trans ((bel1 wn5 _).mono HB6.out.size)
          have HG33 : Hid (R5 wa30 wn5.heap.size 0 0 0 0 (.slice none 0 0)) := by rw [← hwx31]; exact R5.new _ _ _ _ _ _
          have HLE34 := Lib.hid HB6.out.size
          have HU35 : Hid (RdI wa30.heap.size wa30 (.slice (some ⟨wd.heap.size, 0, none⟩) 2 2) [3, 0]) := by rw [← hwx31]; exact HU12.out.next (bel1 _ _)
          have HU36 : Hid (RdI wa30.heap.size wa30 (.slice qz7 2 cz8) [3, 0]) := by rw [← hwx31]; exact HU11.out.next (bel1 _ _)
          clear hwx31
          refine wpAnyH_ready (rs := [3]) (by kernel_rfl) (by simp) ?_
          refine AllReadyH.cons rfl (fun K hK => ?_) (AllReadyH.nil)
          go_simp
          go_at_call 13
          with_reducible refine (HAt.out _ _ _ (HK.out.next HB32.out).lay (by with_unfolding_all exact (HK.out.next HB32.out).r _ (.tail _ (.tail _ (.tail _ (.head _))))) HU36.out).mono ?_
          rintro e wn37 ⟨qz39, cz40, rfl, hu41, hb42⟩
          have HB38 := Lib.hid (HB32.out.trans (hb42.mono HB32.out.size))
          refine hK.out _ _ ?_ (fun hHeld2 => ?_)
          · exact HAll.out _ HB38.out
          clear hK K hHeld
          have hHeld := hHeld2; clear hHeld2
          try change wpAnyH _ _ _ _ _ _ _ (Act.put _ (some 39) _) _
          try dsimp only
          try simp only [Act.put, List.setIfInBounds_toArray, List.set_cons_zero, List.set_cons_succ]
          have HLT44 := Lib.hid HG33.out.lt
          have HG45 := Lib.hid (HG33.out.next hb42)
          have HU46 := Lib.hid (HU35.out.next hb42)
          have HU47 := Lib.hid (HU36.out.next hb42)
          have HU43 := Lib.hid hu41
          clear hu41 hb42
          refine wpAnyH_take (i := 4) (v := ?_) rfl (by kernel_rfl) (by kernel_rfl) (by kernel_rfl) (fun _ _ _ h => h) (Or.inl ⟨by rfl, ?_⟩) (by assumption) ?_
          rotate_left
          · ((intro w0 hSw); (try dsimp only at hSw); go_simp; (try with_reducible rfl))
          change wpAnyH _ _ _ _ _ _ _ (Act.put _ (some 35) _) _
          try simp only [Act.put, List.setIfInBounds_toArray, List.set_cons_zero, List.set_cons_succ]
          refine wpAnyH_take (i := 5) (v := ?_) rfl (by kernel_rfl) (by kernel_rfl) (by kernel_rfl) (fun _ _ _ h => h) (Or.inl ⟨by rfl, ?_⟩) (by assumption) ?_
          rotate_left
          · ((intro w0 hSw); (try dsimp only at hSw); go_simp; (try with_reducible rfl))
          change wpAnyH _ _ _ _ _ _ _ (Act.put _ (some 40) _) _
          try simp only [Act.put, List.setIfInBounds_toArray, List.set_cons_zero, List.set_cons_succ]
          refine wpAnyH_take (i := 6) (v := ?_) rfl (by kernel_rfl) (by kernel_rfl) (by kernel_rfl) (fun _ _ _ h => h) (Or.inl ⟨by rfl, ?_⟩) (by assumption) ?_
          rotate_left
          · ((intro w0 hSw); (try dsimp only at hSw); go_simp; (try with_reducible rfl))
          change wpAnyH _ _ _ _ _ _ _ (Act.put _ (some 41) _) _
          try simp only [Act.put, List.setIfInBounds_toArray, List.set_cons_zero, List.set_cons_succ]
          refine wpAnyH_ready (rs := [8]) (by kernel_rfl) (by simp) ?_
          refine AllReadyH.cons rfl (fun K hK => ?_) (AllReadyH.nil)
          have y0 := HG45.out.c0; have y1 := HG45.out.c1; have y2 := HG45.out.c2; have y3 := HG45.out.c3; have y4 := HG45.out.c4; have f0 := HG45.out.fr 0; have f1 := HG45.out.fr 1; have f2 := HG45.out.fr 2; have f3 := HG45.out.fr 3; have f4 := HG45.out.fr 4; have HS := Lib.hid (HG45.out.set 1 1 2 0 (.slice qz39 2 cz40)); have z0 := HS.out.c0; have z1 := HS.out.c1; have z2 := HS.out.c2; have z3 := HS.out.c3; have z4 := HS.out.c4
          go_simp
          refine hK.out _ _ ?_ (fun hHeld2 => ?_)
          · exact HAll.out _ (st5_below _ _ _ _ _ HLE34.out HB38.out)
          clear hK K hHeld
          have hHeld := hHeld2; clear hHeld2
          try simp only [Act.put, List.setIfInBounds_toArray, List.set_cons_zero, List.set_cons_succ]
          refine wpAnyH_take (i := 9) (v := ?_) rfl (by kernel_rfl) (by kernel_rfl) (by kernel_rfl) (fun _ _ _ h => h) (Or.inl ⟨by rfl, ?_⟩) (by assumption) ?_
          rotate_left
          · ((intro w0 hSw); (try dsimp only at hSw); go_simp; (try with_reducible rfl))
          change wpAnyH _ _ _ _ _ _ _ (Act.put _ (some 9) _) _
          try simp only [Act.put, List.setIfInBounds_toArray, List.set_cons_zero, List.set_cons_succ]
          refine wpAnyH_done (by kernel_rfl) ?_ _
          go_wp2_with fail
          go_meet
          case rel => exact ⟨wn5.heap.size, _, _, rfl, rfl, (HK.out.next (st5_below _ _ _ _ _ HLE34.out HB38.out)).add HS.out ((HU43.out.st5 HLT44.out _ _ _ _ _).rd)⟩
      · go_simp
        refine hK.out _ _ ?_ (fun hHeld2 => ?_)
        · exact HAll.out _ (HB2.out.trans ((bel1 wn1 _).mono HB2.out.size))
        clear hK K hHeld
        have hHeld := hHeld2; clear hHeld2
        try change wpAnyH _ _ _ _ _ _ _ (Act.put _ (some 8) _) _
        try simp only [Act.put, List.setIfInBounds_toArray, List.set_cons_zero, List.set_cons_succ]
        generalize hwx49 : World.alloc wn1 _ = wa48 at hHeld ⊢
        have HB50 : Hid (Below W6.heap.size W6 wa48) := by rw [← hwx49]; exact HB2.out.trans ((bel1 wn1 _).mono HB2.out.size)
        have HG51 : Hid (R5 wa48 wn1.heap.size 0 0 0 0 (.slice none 0 0)) := by rw [← hwx49]; exact R5.new _ _ _ _ _ _
        have HLE52 := Lib.hid HB2.out.size
        have HU53 : Hid (RdI wa48.heap.size wa48 (.slice (some ⟨wd.heap.size, 0, none⟩) 2 2) [3, 0]) := by rw [← hwx49]; exact HU4.out.next (bel1 _ _)
        clear hwx49
        refine wpAnyH_ready (rs := [2]) (by kernel_rfl) (by simp) ?_
        refine AllReadyH.cons rfl (fun K hK => ?_) (AllReadyH.nil)
        go_simp
        go_at_call 17
        with_reducible refine (HIa.out _ _ HU53.out (nil_some _ _ _)).mono ?_
        rintro e wn54 ⟨qz56, cz57, rfl, hu58, hb59⟩
        have HB55 := Lib.hid (HB50.out.trans (hb59.mono HB50.out.size))
        refine hK.out _ _ ?_ (fun hHeld2 => ?_)
        · exact HAll.out _ HB55.out
        clear hK K hHeld
        have hHeld := hHeld2; clear hHeld2
        try change wpAnyH _ _ _ _ _ _ _ (Act.put _ (some 38) _) _
        try dsimp only
        try simp only [Act.put, List.setIfInBounds_toArray, List.set_cons_zero, List.set_cons_succ]
        have HG61 := Lib.hid (HG51.out.next hb59)
        have HU62 := Lib.hid (HU53.out.next hb59)
        have HU60 := Lib.hid hu58.rd
        clear hu58 hb59
        refine wpAnyH_ready (rs := [3]) (by kernel_rfl) (by simp) ?_
        refine AllReadyH.cons rfl (fun K hK => ?_) (AllReadyH.nil)
        go_simp
        go_at_call 13
        with_reducible refine (HAt.out _ _ _ (HK.out.next HB55.out).lay (by with_unfolding_all exact (HK.out.next HB55.out).r _ (.tail _ (.tail _ (.tail _ (.head _))))) HU60.out).mono ?_
        rintro e wn63 ⟨qz65, cz66, rfl, hu67, hb68⟩
        have HB64 := Lib.hid (HB55.out.trans (hb68.mono HB55.out.size))
        refine hK.out _ _ ?_ (fun hHeld2 => ?_)
        · exact HAll.out _ HB64.out
        clear hK K hHeld
        have hHeld := hHeld2; clear hHeld2
        try change wpAnyH _ _ _ _ _ _ _ (Act.put _ (some 39) _) _
        try dsimp only
        try simp only [Act.put, List.setIfInBounds_toArray, List.set_cons_zero, List.set_cons_succ]
        have HLT70 := Lib.hid HG61.out.lt
        have HG71 := Lib.hid (HG61.out.next hb68)
        have HU72 := Lib.hid (HU62.out.next hb68)
        have HU73 := Lib.hid (HU60.out.next hb68)
        have HU69 := Lib.hid hu67
        clear hu67 hb68
        refine wpAnyH_take (i := 4) (v := ?_) rfl (by kernel_rfl) (by kernel_rfl) (by kernel_rfl) (fun _ _ _ h => h) (Or.inl ⟨by rfl, ?_⟩) (by assumption) ?_
        rotate_left
        · ((intro w0 hSw); (try dsimp only at hSw); go_simp; (try with_reducible rfl))
        change wpAnyH _ _ _ _ _ _ _ (Act.put _ (some 35) _) _
        try simp only [Act.put, List.setIfInBounds_toArray, List.set_cons_zero, List.set_cons_succ]
        refine wpAnyH_take (i := 5) (v := ?_) rfl (by kernel_rfl) (by kernel_rfl) (by kernel_rfl) (fun _ _ _ h => h) (Or.inl ⟨by rfl, ?_⟩) (by assumption) ?_
        rotate_left
        · ((intro w0 hSw); (try dsimp only at hSw); go_simp; (try with_reducible rfl))
        change wpAnyH _ _ _ _ _ _ _ (Act.put _ (some 40) _) _
        try simp only [Act.put, List.setIfInBounds_toArray, List.set_cons_zero, List.set_cons_succ]
        refine wpAnyH_take (i := 6) (v := ?_) rfl (by kernel_rfl) (by kernel_rfl) (by kernel_rfl) (fun _ _ _ h => h) (Or.inl ⟨by rfl, ?_⟩) (by assumption) ?_
        rotate_left
        · ((intro w0 hSw); (try dsimp only at hSw); go_simp; (try with_reducible rfl))
        change wpAnyH _ _ _ _ _ _ _ (Act.put _ (some 41) _) _
        try simp only [Act.put, List.setIfInBounds_toArray, List.set_cons_zero, List.set_cons_succ]
        refine wpAnyH_ready (rs := [8]) (by kernel_rfl) (by simp) ?_
        refine AllReadyH.cons rfl (fun K hK => ?_) (AllReadyH.nil)
        have y0 := HG71.out.c0; have y1 := HG71.out.c1; have y2 := HG71.out.c2; have y3 := HG71.out.c3; have y4 := HG71.out.c4; have f0 := HG71.out.fr 0; have f1 := HG71.out.fr 1; have f2 := HG71.out.fr 2; have f3 := HG71.out.fr 3; have f4 := HG71.out.fr 4; have HS := Lib.hid (HG71.out.set 1 1 2 0 (.slice qz65 2 cz66)); have z0 := HS.out.c0; have z1 := HS.out.c1; have z2 := HS.out.c2; have z3 := HS.out.c3; have z4 := HS.out.c4
        go_simp
        refine hK.out _ _ ?_ (fun hHeld2 => ?_)
        · exact HAll.out _ (st5_below _ _ _ _ _ HLE52.out HB64.out)
        clear hK K hHeld
        have hHeld := hHeld2; clear hHeld2
        try simp only [Act.put, List.setIfInBounds_toArray, List.set_cons_zero, List.set_cons_succ]
        refine wpAnyH_take (i := 9) (v := ?_) rfl (by kernel_rfl) (by kernel_rfl) (by kernel_rfl) (fun _ _ _ h => h) (Or.inl ⟨by rfl, ?_⟩) (by assumption) ?_
        rotate_left
        · ((intro w0 hSw); (try dsimp only at hSw); go_simp; (try with_reducible rfl))
        change wpAnyH _ _ _ _ _ _ _ (Act.put _ (some 9) _) _
        try simp only [Act.put, List.setIfInBounds_toArray, List.set_cons_zero, List.set_cons_succ]
        refine wpAnyH_done (by kernel_rfl) ?_ _
        go_wp2_with fail
        go_meet
        case rel => exact ⟨wn1.heap.size, _, _, rfl, rfl, (HK.out.next (st5_below _ _ _ _ _ HLE52.out HB64.out)).add HS.out ((HU69.out.st5 HLT70.out _ _ _ _ _).rd)⟩
    · go_simp
      refine hK.out _ _ ?_ (fun hHeld2 => ?_)
      · exact HAll.out _ (HB0.out.trans ((bel1 wd _).mono HB0.out.size))
      clear hK K hHeld
      have hHeld := hHeld2; clear hHeld2
      try change wpAnyH _ _ _ _ _ _ _ (Act.put _ (some 8) _) _
      try simp only [Act.put, List.setIfInBounds_toArray, List.set_cons_zero, List.set_cons_succ]
      generalize hwx75 : World.alloc wd _ = wa74 at hHeld ⊢
      have HB76 : Hid (Below W6.heap.size W6 wa74) := by rw [← hwx75]; exact HB0.out.trans ((bel1 wd _).mono HB0.out.size)
      have HG77 : Hid (R5 wa74 wd.heap.size 0 0 0 0 (.slice none 0 0)) := by rw [← hwx75]; exact R5.new _ _ _ _ _ _
      have HLE78 := Lib.hid HB0.out.size
      clear hwx75
      refine wpAnyH_ready (rs := [1]) (by kernel_rfl) (by simp) ?_
      refine AllReadyH.cons rfl (fun K hK => ?_) (AllReadyH.nil)
      go_simp
      refine hK.out _ _ ?_ (fun hHeld2 => ?_)
      · exact HAll.out _ (HB76.out.trans ((bel1 wa74 _).mono HB76.out.size))
      clear hK K hHeld
      have hHeld := hHeld2; clear hHeld2
      try change wpAnyH _ _ _ _ _ _ _ (Act.put _ (some 37) _) _
      try simp only [Act.put, List.setIfInBounds_toArray, List.set_cons_zero, List.set_cons_succ]
      generalize hwx81 : World.alloc wa74 _ = wn79 at hHeld ⊢
      have HB80 : Hid (Below W6.heap.size W6 wn79) := by rw [← hwx81]; exact HB76.out.trans ((bel1 wa74 _).mono HB76.out.size)
      have HU82 : Hid (RdI wn79.heap.size wn79 (.slice (some ⟨wa74.heap.size, 0, none⟩) 2 2) [3, 0]) := by rw [← hwx81]; exact blk_rd (l := [3, 0]) rfl (by decide) (heap_alloc_last wa74 _)
      have HG83 : Hid (R5 wn79 wd.heap.size 0 0 0 0 (.slice none 0 0)) := by rw [← hwx81]; exact HG77.out.next (bel1 _ _)
      clear hwx81
      refine wpAnyH_ready (rs := [2]) (by kernel_rfl) (by simp) ?_
      refine AllReadyH.cons rfl (fun K hK => ?_) (AllReadyH.nil)
      go_simp
      go_at_call 17
      with_reducible refine (HIa.out _ _ HU82.out (nil_some _ _ _)).mono ?_
      rintro e wn84 ⟨qz86, cz87, rfl, hu88, hb89⟩
      have HB85 := Lib.hid (HB80.out.trans (hb89.mono HB80.out.size))
      refine hK.out _ _ ?_ (fun hHeld2 => ?_)
      · exact HAll.out _ HB85.out
      clear hK K hHeld
      have hHeld := hHeld2; clear hHeld2
      try change wpAnyH _ _ _ _ _ _ _ (Act.put _ (some 38) _) _
      try dsimp only
      try simp only [Act.put, List.setIfInBounds_toArray, List.set_cons_zero, List.set_cons_succ]
      have HG91 := Lib.hid (HG83.out.next hb89)
      have HU92 := Lib.hid (HU82.out.next hb89)
      have HU90 := Lib.hid hu88.rd
      clear hu88 hb89
      refine wpAnyH_ready (rs := [3]) (by kernel_rfl) (by simp) ?_
      refine AllReadyH.cons rfl (fun K hK => ?_) (AllReadyH.nil)
      go_simp
      go_at_call 13
      with_reducible refine (HAt.out _ _ _ (HK.out.next HB85.out).lay (by with_unfolding_all exact (HK.out.next HB85.out).r _ (.tail _ (.tail _ (.tail _ (.head _))))) HU90.out).mono ?_
      rintro e wn93 ⟨qz95, cz96, rfl, hu97, hb98⟩
      have HB94 := Lib.hid (HB85.out.trans (hb98.mono HB85.out.size))
      refine hK.out _ _ ?_ (fun hHeld2 => ?_)
      · exact HAll.out _ HB94.out
      clear hK K hHeld
      have hHeld := hHeld2; clear hHeld2
      try change wpAnyH _ _ _ _ _ _ _ (Act.put _ (some 39) _) _
      try dsimp only
      try simp only [Act.put, List.setIfInBounds_toArray, List.set_cons_zero, List.set_cons_succ]
      have HLT100 := Lib.hid HG91.out.lt
      have HG101 := Lib.hid (HG91.out.next hb98)
      have HU102 := Lib.hid (HU92.out.next hb98)
      have HU103 := Lib.hid (HU90.out.next hb98)
      have HU99 := Lib.hid hu97
      clear hu97 hb98
      refine wpAnyH_take (i := 4) (v := ?_) rfl (by kernel_rfl) (by kernel_rfl) (by kernel_rfl) (fun _ _ _ h => h) (Or.inl ⟨by rfl, ?_⟩) (by assumption) ?_
      rotate_left
      · ((intro w0 hSw); (try dsimp only at hSw); go_simp; (try with_reducible rfl))
      change wpAnyH _ _ _ _ _ _ _ (Act.put _ (some 35) _) _
      try simp only [Act.put, List.setIfInBounds_toArray, List.set_cons_zero, List.set_cons_succ]
      refine wpAnyH_take (i := 5) (v := ?_) rfl (by kernel_rfl) (by kernel_rfl) (by kernel_rfl) (fun _ _ _ h => h) (Or.inl ⟨by rfl, ?_⟩) (by assumption) ?_
      rotate_left
      · ((intro w0 hSw); (try dsimp only at hSw); go_simp; (try with_reducible rfl))
      change wpAnyH _ _ _ _ _ _ _ (Act.put _ (some 40) _) _
      try simp only [Act.put, List.setIfInBounds_toArray, List.set_cons_zero, List.set_cons_succ]
      refine wpAnyH_take (i := 6) (v := ?_) rfl (by kernel_rfl) (by kernel_rfl) (by kernel_rfl) (fun _ _ _ h => h) (Or.inl ⟨by rfl, ?_⟩) (by assumption) ?_
      rotate_left
      · ((intro w0 hSw); (try dsimp only at hSw); go_simp; (try with_reducible rfl))
      change wpAnyH _ _ _ _ _ _ _ (Act.put _ (some 41) _) _
      try simp only [Act.put, List.setIfInBounds_toArray, List.set_cons_zero, List.set_cons_succ]
      refine wpAnyH_ready (rs := [8]) (by kernel_rfl) (by simp) ?_
      refine AllReadyH.cons rfl (fun K hK => ?_) (AllReadyH.nil)
      have y0 := HG101.out.c0; have y1 := HG101.out.c1; have y2 := HG101.out.c2; have y3 := HG101.out.c3; have y4 := HG101.out.c4; have f0 := HG101.out.fr 0; have f1 := HG101.out.fr 1; have f2 := HG101.out.fr 2; have f3 := HG101.out.fr 3; have f4 := HG101.out.fr 4; have HS := Lib.hid (HG101.out.set 1 1 2 0 (.slice qz95 2 cz96)); have z0 := HS.out.c0; have z1 := HS.out.c1; have z2 := HS.out.c2; have z3 := HS.out.c3; have z4 := HS.out.c4
      go_simp
      refine hK.out _ _ ?_ (fun hHeld2 => ?_)
      · exact HAll.out _ (st5_below _ _ _ _ _ HLE78.out HB94.out)
      clear hK K hHeld
      have hHeld := hHeld2; clear hHeld2
      try simp only [Act.put, List.setIfInBounds_toArray, List.set_cons_zero, List.set_cons_succ]
      refine wpAnyH_take (i := 9) (v := ?_) rfl (by kernel_rfl) (by kernel_rfl) (by kernel_rfl) (fun _ _ _ h => h) (Or.inl ⟨by rfl, ?_⟩) (by assumption) ?_
      rotate_left
      · ((intro w0 hSw); (try dsimp only at hSw); go_simp; (try with_reducible rfl))
      change wpAnyH _ _ _ _ _ _ _ (Act.put _ (some 9) _) _
      try simp only [Act.put, List.setIfInBounds_toArray, List.set_cons_zero, List.set_cons_succ]
      refine wpAnyH_done (by kernel_rfl) ?_ _
      go_wp2_with fail
      go_meet
      case rel => exact ⟨wd.heap.size, _, _, rfl, rfl, (HK.out.next (st5_below _ _ _ _ _ HLE78.out HB94.out)).add HS.out ((HU99.out.st5 HLT100.out _ _ _ _ _).rd)⟩
  case rest =>
    obtain ⟨g8, q8, c8, rfl, rfl, hk⟩ := hcut
    have HKn := Lib.hid hk
    clear HK hk
    have HK := HKn
    clear HKn
    go_wp2_with fail
    go_cut [10, 11] (fun sp se wx => CutA w [⟨g8, ⟨1, 1, 2, 0, [1, 5]⟩, .slice q8 2 c8⟩, ⟨gn, ⟨0, 0, 0, 0, []⟩, .slice qn 0 cn⟩, ⟨gb, ⟨1, 1, 3, 0, [0, 1, 2]⟩, .slice qb 3 cb⟩, ⟨ga, ⟨1, 1, 1, 0, [4]⟩, .slice qa 1 ca⟩, ⟨gv, ⟨1, 1, 4, 0, [5, 3, 5, 1]⟩, .slice qv 4 cv⟩] sp se 0 0 0 0 14 0 [] wx)
    case first =>
      clear HV HSh HI3 HI401 HIo HIb HIa HAt HIn5 HIn HIp HPk HGr
      have HAll : Hid (∀ W, Below wc.heap.size wc W → (fun W => Below wc.heap.size wc W ∧ W.cell? ⟨gv, 0, none⟩ = some (.int .i64 1) ∧ W.cell? ⟨gv, 1, none⟩ = some (.int .i64 1) ∧ W.cell? ⟨gv, 2, none⟩ = some (.int .i64 4) ∧ W.cell? ⟨gv, 3, none⟩ = some (.int .i64 0) ∧ W.cell? ⟨gv, 4, none⟩ = some (.slice qv 4 cv)) W) := fun W h => ⟨h, ((HK.out.next h).a _ (.tail _ (.tail _ (.tail _ (.tail _ (.head _)))))).c0, ((HK.out.next h).a _ (.tail _ (.tail _ (.tail _ (.tail _ (.head _)))))).c1, ((HK.out.next h).a _ (.tail _ (.tail _ (.tail _ (.tail _ (.head _)))))).c2, ((HK.out.next h).a _ (.tail _ (.tail _ (.tail _ (.tail _ (.head _)))))).c3, ((HK.out.next h).a _ (.tail _ (.tail _ (.tail _ (.tail _ (.head _)))))).c4⟩
      refine wp_region_held_drew (S := (fun W => Below wc.heap.size wc W ∧ W.cell? ⟨gv, 0, none⟩ = some (.int .i64 1) ∧ W.cell? ⟨gv, 1, none⟩ = some (.int .i64 1) ∧ W.cell? ⟨gv, 2, none⟩ = some (.int .i64 4) ∧ W.cell? ⟨gv, 3, none⟩ = some (.int .i64 0) ∧ W.cell? ⟨gv, 4, none⟩ = some (.slice qv 4 cv))) (by kernel_rfl) ?_ (fun hHeld => ?_)
      · exact HAll.out _ (Below.refl _ _).drew
      have HB0 : Hid (Below wc.heap.size wc (World.drew wc)) := (Below.refl _ _).drew
      generalize World.drew wc = wd at hHeld HB0 ⊢
      refine wpAnyH_take (i := 0) (v := ?_) rfl (by kernel_rfl) (by kernel_rfl) (by kernel_rfl) (fun _ _ _ h => h) (Or.inl ⟨by rfl, ?_⟩) (by assumption) ?_
      rotate_left
      · ((intro w0 hSw); (try dsimp only at hSw); go_simp; (try with_reducible rfl))
      change wpAnyH _ _ _ _ _ _ _ (Act.put _ (some 43) _) _
      try simp only [Act.put, List.setIfInBounds_toArray, List.set_cons_zero, List.set_cons_succ]
      refine wpAnyH_ready (rs := [1, 6]) (by kernel_rfl) (by simp) ?_
      refine AllReadyH.cons rfl (fun K hK => ?_) (AllReadyH.cons rfl (fun K hK => ?_) (AllReadyH.nil))
      · go_simp
        go_at_call 15
        with_reducible refine (HI4.out _).mono ?_
        rintro e wn104 ⟨qz106, cz107, rfl, hu108, hb109⟩
        have HB105 := Lib.hid (HB0.out.trans (hb109.mono HB0.out.size))
        refine hK.out _ _ ?_ (fun hHeld2 => ?_)
        · exact HAll.out _ HB105.out
        clear hK K hHeld
        have hHeld := hHeld2; clear hHeld2
        try change wpAnyH _ _ _ _ _ _ _ (Act.put _ (some 44) _) _
        try dsimp only
        try simp only [Act.put, List.setIfInBounds_toArray, List.set_cons_zero, List.set_cons_succ]
        have HU110 := Lib.hid hu108.rd
        clear hu108 hb109
        refine wpAnyH_ready (rs := [2, 6]) (by kernel_rfl) (by simp) ?_
        refine AllReadyH.cons rfl (fun K hK => ?_) (AllReadyH.cons rfl (fun K hK => ?_) (AllReadyH.nil))
        · go_simp
          go_at_call 13
          with_reducible refine (HAx.out _ _ _ (HK.out.next HB105.out).lay (by with_unfolding_all exact (HK.out.next HB105.out).r _ (.tail _ (.tail _ (.tail _ (.tail _ (.head _)))))) HU110.out).mono ?_
          rintro e wn111 ⟨qz113, cz114, rfl, hu115, hb116⟩
          have HB112 := Lib.hid (HB105.out.trans (hb116.mono HB105.out.size))
          refine hK.out _ _ ?_ (fun hHeld2 => ?_)
          · exact HAll.out _ HB112.out
          clear hK K hHeld
          have hHeld := hHeld2; clear hHeld2
          try change wpAnyH _ _ _ _ _ _ _ (Act.put _ (some 45) _) _
          try dsimp only
          try simp only [Act.put, List.setIfInBounds_toArray, List.set_cons_zero, List.set_cons_succ]
          have HU118 := Lib.hid (HU110.out.next hb116)
          have HU117 := Lib.hid hu115
          clear hu115 hb116
          refine wpAnyH_take (i := 3) (v := ?_) rfl (by kernel_rfl) (by kernel_rfl) (by kernel_rfl) (fun _ _ _ h => h) (Or.inl ⟨by rfl, ?_⟩) (by assumption) ?_
          rotate_left
          · ((intro w0 hSw); (try dsimp only at hSw); go_simp; (try with_reducible rfl))
          change wpAnyH _ _ _ _ _ _ _ (Act.put _ (some 42) _) _
          try simp only [Act.put, List.setIfInBounds_toArray, List.set_cons_zero, List.set_cons_succ]
          refine wpAnyH_take (i := 4) (v := ?_) rfl (by kernel_rfl) (by kernel_rfl) (by kernel_rfl) (fun _ _ _ h => h) (Or.inl ⟨by rfl, ?_⟩) (by assumption) ?_
          rotate_left
          · ((intro w0 hSw); (try dsimp only at hSw); go_simp; (try with_reducible rfl))
          change wpAnyH _ _ _ _ _ _ _ (Act.put _ (some 46) _) _
          try simp only [Act.put, List.setIfInBounds_toArray, List.set_cons_zero, List.set_cons_succ]
          refine wpAnyH_take (i := 5) (v := ?_) rfl (by kernel_rfl) (by kernel_rfl) (by kernel_rfl) (fun _ _ _ h => h) (Or.inl ⟨by rfl, ?_⟩) (by assumption) ?_
          rotate_left
          · ((intro w0 hSw); (try dsimp only at hSw); go_simp; (try with_reducible rfl))
          change wpAnyH _ _ _ _ _ _ _ (Act.put _ (some 47) _) _
          try simp only [Act.put, List.setIfInBounds_toArray, List.set_cons_zero, List.set_cons_succ]
          refine wpAnyH_ready (rs := [6]) (by kernel_rfl) (by simp) ?_
          refine AllReadyH.cons rfl (fun K hK => ?_) (AllReadyH.nil)
          go_simp
          refine hK.out _ _ ?_ (fun hHeld2 => ?_)
          · exact HAll.out _ (HB112.out.trans ((bel1 wn111 _).mono HB112.out.size))
          clear hK K hHeld
          have hHeld := hHeld2; clear hHeld2
          try change wpAnyH _ _ _ _ _ _ _ (Act.put _ (some 10) _) _
          try simp only [Act.put, List.setIfInBounds_toArray, List.set_cons_zero, List.set_cons_succ]
          generalize hwx120 : World.alloc wn111 _ = wa119 at hHeld ⊢
          have HB121 : Hid (Below wc.heap.size wc wa119) := by rw [← hwx120]; exact HB112.out.trans ((bel1 wn111 _).mono HB112.out.size)
          have HG122 : Hid (R5 wa119 wn111.heap.size 0 0 0 0 (.slice none 0 0)) := by rw [← hwx120]; exact R5.new _ _ _ _ _ _
          have HLE123 := Lib.hid HB112.out.size
          have HU124 : Hid (RdI wa119.heap.size wa119 (.slice qz106 1 cz107) [4]) := by rw [← hwx120]; exact HU118.out.next (bel1 _ _)
          have H9125 : Hid (Below wn111.heap.size wn111 wa119) := by rw [← hwx120]; exact bel1 _ _
          clear hwx120
          refine wpAnyH_ready (rs := [7]) (by kernel_rfl) (by simp) ?_
          refine AllReadyH.cons rfl (fun K hK => ?_) (AllReadyH.nil)
          have y0 := HG122.out.c0; have y1 := HG122.out.c1; have y2 := HG122.out.c2; have y3 := HG122.out.c3; have y4 := HG122.out.c4; have f0 := HG122.out.fr 0; have f1 := HG122.out.fr 1; have f2 := HG122.out.fr 2; have f3 := HG122.out.fr 3; have f4 := HG122.out.fr 4; have HS := Lib.hid (HG122.out.set 0 0 0 0 (.slice qz113 0 cz114)); have z0 := HS.out.c0; have z1 := HS.out.c1; have z2 := HS.out.c2; have z3 := HS.out.c3; have z4 := HS.out.c4
          go_simp
          refine hK.out _ _ ?_ (fun hHeld2 => ?_)
          · exact HAll.out _ (st5_below _ _ _ _ _ HLE123.out HB121.out)
          clear hK K hHeld
          have hHeld := hHeld2; clear hHeld2
          try simp only [Act.put, List.setIfInBounds_toArray, List.set_cons_zero, List.set_cons_succ]
          refine wpAnyH_take (i := 8) (v := ?_) rfl (by kernel_rfl) (by kernel_rfl) (by kernel_rfl) (fun _ _ _ h => h) (Or.inl ⟨by rfl, ?_⟩) (by assumption) ?_
          rotate_left
          · ((intro w0 hSw); (try dsimp only at hSw); go_simp; (try with_reducible rfl))
          change wpAnyH _ _ _ _ _ _ _ (Act.put _ (some 11) _) _
          try simp only [Act.put, List.setIfInBounds_toArray, List.set_cons_zero, List.set_cons_succ]
          refine wpAnyH_done (by kernel_rfl) ?_ _
          go_wp2_with fail
          go_meet
          case rel => exact ⟨wn111.heap.size, _, _, rfl, rfl, (HK.out.next (st5_below _ _ _ _ _ HLE123.out HB121.out)).add HS.out (HU117.out.rd.next (st5_below _ _ _ _ _ (Nat.le_refl _) H9125.out))⟩
        · go_simp
          refine hK.out _ _ ?_ (fun hHeld2 => ?_)
          · exact HAll.out _ (HB105.out.trans ((bel1 wn104 _).mono HB105.out.size))
          clear hK K hHeld
          have hHeld := hHeld2; clear hHeld2
          try change wpAnyH _ _ _ _ _ _ _ (Act.put _ (some 10) _) _
          try simp only [Act.put, List.setIfInBounds_toArray, List.set_cons_zero, List.set_cons_succ]
          generalize hwx127 : World.alloc wn104 _ = wa126 at hHeld ⊢
          have HB128 : Hid (Below wc.heap.size wc wa126) := by rw [← hwx127]; exact HB105.out.trans ((bel1 wn104 _).mono HB105.out.size)
          have HG129 : Hid (R5 wa126 wn104.heap.size 0 0 0 0 (.slice none 0 0)) := by rw [← hwx127]; exact R5.new _ _ _ _ _ _
          have HLE130 := Lib.hid HB105.out.size
          have HU131 : Hid (RdI wa126.heap.size wa126 (.slice qz106 1 cz107) [4]) := by rw [← hwx127]; exact HU110.out.next (bel1 _ _)
          clear hwx127
          refine wpAnyH_ready (rs := [2]) (by kernel_rfl) (by simp) ?_
          refine AllReadyH.cons rfl (fun K hK => ?_) (AllReadyH.nil)
          go_simp
          go_at_call 13
          with_reducible refine (HAx.out _ _ _ (HK.out.next HB128.out).lay (by with_unfolding_all exact (HK.out.next HB128.out).r _ (.tail _ (.tail _ (.tail _ (.tail _ (.head _)))))) HU131.out).mono ?_
          rintro e wn132 ⟨qz134, cz135, rfl, hu136, hb137⟩
          have HB133 := Lib.hid (HB128.out.trans (hb137.mono HB128.out.size))
          refine hK.out _ _ ?_ (fun hHeld2 => ?_)
          · exact HAll.out _ HB133.out
          clear hK K hHeld
          have hHeld := hHeld2; clear hHeld2
          try change wpAnyH _ _ _ _ _ _ _ (Act.put _ (some 45) _) _
          try dsimp only
          try simp only [Act.put, List.setIfInBounds_toArray, List.set_cons_zero, List.set_cons_succ]
          have HLT139 := Lib.hid HG129.out.lt
          have HG140 := Lib.hid (HG129.out.next hb137)
          have HU141 := Lib.hid (HU131.out.next hb137)
          have HU138 := Lib.hid hu136
          clear hu136 hb137
          refine wpAnyH_take (i := 3) (v := ?_) rfl (by kernel_rfl) (by kernel_rfl) (by kernel_rfl) (fun _ _ _ h => h) (Or.inl ⟨by rfl, ?_⟩) (by assumption) ?_
          rotate_left
          · ((intro w0 hSw); (try dsimp only at hSw); go_simp; (try with_reducible rfl))
          change wpAnyH _ _ _ _ _ _ _ (Act.put _ (some 42) _) _
          try simp only [Act.put, List.setIfInBounds_toArray, List.set_cons_zero, List.set_cons_succ]
          refine wpAnyH_take (i := 4) (v := ?_) rfl (by kernel_rfl) (by kernel_rfl) (by kernel_rfl) (fun _ _ _ h => h) (Or.inl ⟨by rfl, ?_⟩) (by assumption) ?_
          rotate_left
          · ((intro w0 hSw); (try dsimp only at hSw); go_simp; (try with_reducible rfl))
          change wpAnyH _ _ _ _ _ _ _ (Act.put _ (some 46) _) _
          try simp only [Act.put, List.setIfInBounds_toArray, List.set_cons_zero, List.set_cons_succ]
          refine wpAnyH_take (i := 5) (v := ?_) rfl (by kernel_rfl) (by kernel_rfl) (by kernel_rfl) (fun _ _ _ h => h) (Or.inl ⟨by rfl, ?_⟩) (by assumption) ?_
          rotate_left
          · ((intro w0 hSw); (try dsimp only at hSw); go_simp; (try with_reducible rfl))
          change wpAnyH _ _ _ _ _ _ _ (Act.put _ (some 47) _) _
          try simp only [Act.put, List.setIfInBounds_toArray, List.set_cons_zero, List.set_cons_succ]
          refine wpAnyH_ready (rs := [7]) (by kernel_rfl) (by simp) ?_
          refine AllReadyH.cons rfl (fun K hK => ?_) (AllReadyH.nil)
          have y0 := HG140.out.c0; have y1 := HG140.out.c1; have y2 := HG140.out.c2; have y3 := HG140.out.c3; have y4 := HG140.out.c4; have f0 := HG140.out.fr 0; have f1 := HG140.out.fr 1; have f2 := HG140.out.fr 2; have f3 := HG140.out.fr 3; have f4 := HG140.out.fr 4; have HS := Lib.hid (HG140.out.set 0 0 0 0 (.slice qz134 0 cz135)); have z0 := HS.out.c0; have z1 := HS.out.c1; have z2 := HS.out.c2; have z3 := HS.out.c3; have z4 := HS.out.c4
          go_simp
          refine hK.out _ _ ?_ (fun hHeld2 => ?_)
          · exact HAll.out _ (st5_below _ _ _ _ _ HLE130.out HB133.out)
          clear hK K hHeld
          have hHeld := hHeld2; clear hHeld2
          try simp only [Act.put, List.setIfInBounds_toArray, List.set_cons_zero, List.set_cons_succ]
          refine wpAnyH_take (i := 8) (v := ?_) rfl (by kernel_rfl) (by kernel_rfl) (by kernel_rfl) (fun _ _ _ h => h) (Or.inl ⟨by rfl, ?_⟩) (by assumption) ?_
          rotate_left
          · ((intro w0 hSw); (try dsimp only at hSw); go_simp; (try with_reducible rfl))
          change wpAnyH _ _ _ _ _ _ _ (Act.put _ (some 11) _) _
          try simp only [Act.put, List.setIfInBounds_toArray, List.set_cons_zero, List.set_cons_succ]
          refine wpAnyH_done (by kernel_rfl) ?_ _
          go_wp2_with fail
          go_meet
          case rel => exact ⟨wn104.heap.size, _, _, rfl, rfl, (HK.out.next (st5_below _ _ _ _ _ HLE130.out HB133.out)).add HS.out ((HU138.out.st5 HLT139.out _ _ _ _ _).rd)⟩
      · go_simp
        refine hK.out _ _ ?_ (fun hHeld2 => ?_)
        · exact HAll.out _ (HB0.out.trans ((bel1 wd _).mono HB0.out.size))
        clear hK K hHeld
        have hHeld := hHeld2; clear hHeld2
        try change wpAnyH _ _ _ _ _ _ _ (Act.put _ (some 10) _) _
        try simp only [Act.put, List.setIfInBounds_toArray, List.set_cons_zero, List.set_cons_succ]
        generalize hwx143 : World.alloc wd _ = wa142 at hHeld ⊢
        have HB144 : Hid (Below wc.heap.size wc wa142) := by rw [← hwx143]; exact HB0.out.trans ((bel1 wd _).mono HB0.out.size)
        have HG145 : Hid (R5 wa142 wd.heap.size 0 0 0 0 (.slice none 0 0)) := by rw [← hwx143]; exact R5.new _ _ _ _ _ _
        have HLE146 := Lib.hid HB0.out.size
        clear hwx143
        refine wpAnyH_ready (rs := [1]) (by kernel_rfl) (by simp) ?_
        refine AllReadyH.cons rfl (fun K hK => ?_) (AllReadyH.nil)
        go_simp
        go_at_call 15
        with_reducible refine (HI4.out _).mono ?_
        rintro e wn147 ⟨qz149, cz150, rfl, hu151, hb152⟩
        have HB148 := Lib.hid (HB144.out.trans (hb152.mono HB144.out.size))
        refine hK.out _ _ ?_ (fun hHeld2 => ?_)
        · exact HAll.out _ HB148.out
        clear hK K hHeld
        have hHeld := hHeld2; clear hHeld2
        try change wpAnyH _ _ _ _ _ _ _ (Act.put _ (some 44) _) _
        try dsimp only
        try simp only [Act.put, List.setIfInBounds_toArray, List.set_cons_zero, List.set_cons_succ]
        have HG154 := Lib.hid (HG145.out.next hb152)
        have HU153 := Lib.hid hu151.rd
        clear hu151 hb152
        refine wpAnyH_ready (rs := [2]) (by kernel_rfl) (by simp) ?_
        refine AllReadyH.cons rfl (fun K hK => ?_) (AllReadyH.nil)
        go_simp
        go_at_call 13
        with_reducible refine (HAx.out _ _ _ (HK.out.next HB148.out).lay (by with_unfolding_all exact (HK.out.next HB148.out).r _ (.tail _ (.tail _ (.tail _ (.tail _ (.head _)))))) HU153.out).mono ?_
        rintro e wn155 ⟨qz157, cz158, rfl, hu159, hb160⟩
        have HB156 := Lib.hid (HB148.out.trans (hb160.mono HB148.out.size))
        refine hK.out _ _ ?_ (fun hHeld2 => ?_)
        · exact HAll.out _ HB156.out
        clear hK K hHeld
        have hHeld := hHeld2; clear hHeld2
        try change wpAnyH _ _ _ _ _ _ _ (Act.put _ (some 45) _) _
        try dsimp only
        try simp only [Act.put, List.setIfInBounds_toArray, List.set_cons_zero, List.set_cons_succ]
        have HLT162 := Lib.hid HG154.out.lt
        have HG163 := Lib.hid (HG154.out.next hb160)
        have HU164 := Lib.hid (HU153.out.next hb160)
        have HU161 := Lib.hid hu159
        clear hu159 hb160
        refine wpAnyH_take (i := 3) (v := ?_) rfl (by kernel_rfl) (by kernel_rfl) (by kernel_rfl) (fun _ _ _ h => h) (Or.inl ⟨by rfl, ?_⟩) (by assumption) ?_
        rotate_left
        · ((intro w0 hSw); (try dsimp only at hSw); go_simp; (try with_reducible rfl))
        change wpAnyH _ _ _ _ _ _ _ (Act.put _ (some 42) _) _
        try simp only [Act.put, List.setIfInBounds_toArray, List.set_cons_zero, List.set_cons_succ]
        refine wpAnyH_take (i := 4) (v := ?_) rfl (by kernel_rfl) (by kernel_rfl) (by kernel_rfl) (fun _ _ _ h => h) (Or.inl ⟨by rfl, ?_⟩) (by assumption) ?_
        rotate_left
        · ((intro w0 hSw); (try dsimp only at hSw); go_simp; (try with_reducible rfl))
        change wpAnyH _ _ _ _ _ _ _ (Act.put _ (some 46) _) _
        try simp only [Act.put, List.setIfInBounds_toArray, List.set_cons_zero, List.set_cons_succ]
        refine wpAnyH_take (i := 5) (v := ?_) rfl (by kernel_rfl) (by kernel_rfl) (by kernel_rfl) (fun _ _ _ h => h) (Or.inl ⟨by rfl, ?_⟩) (by assumption) ?_
        rotate_left
        · ((intro w0 hSw); (try dsimp only at hSw); go_simp; (try with_reducible rfl))
        change wpAnyH _ _ _ _ _ _ _ (Act.put _ (some 47) _) _
        try simp only [Act.put, List.setIfInBounds_toArray, List.set_cons_zero, List.set_cons_succ]
        refine wpAnyH_ready (rs := [7]) (by kernel_rfl) (by simp) ?_
        refine AllReadyH.cons rfl (fun K hK => ?_) (AllReadyH.nil)
        have y0 := HG163.out.c0; have y1 := HG163.out.c1; have y2 := HG163.out.c2; have y3 := HG163.out.c3; have y4 := HG163.out.c4; have f0 := HG163.out.fr 0; have f1 := HG163.out.fr 1; have f2 := HG163.out.fr 2; have f3 := HG163.out.fr 3; have f4 := HG163.out.fr 4; have HS := Lib.hid (HG163.out.set 0 0 0 0 (.slice qz157 0 cz158)); have z0 := HS.out.c0; have z1 := HS.out.c1; have z2 := HS.out.c2; have z3 := HS.out.c3; have z4 := HS.out.c4
        go_simp
        refine hK.out _ _ ?_ (fun hHeld2 => ?_)
        · exact HAll.out _ (st5_below _ _ _ _ _ HLE146.out HB156.out)
        clear hK K hHeld
        have hHeld := hHeld2; clear hHeld2
        try simp only [Act.put, List.setIfInBounds_toArray, List.set_cons_zero, List.set_cons_succ]
        refine wpAnyH_take (i := 8) (v := ?_) rfl (by kernel_rfl) (by kernel_rfl) (by kernel_rfl) (fun _ _ _ h => h) (Or.inl ⟨by rfl, ?_⟩) (by assumption) ?_
        rotate_left
        · ((intro w0 hSw); (try dsimp only at hSw); go_simp; (try with_reducible rfl))
        change wpAnyH _ _ _ _ _ _ _ (Act.put _ (some 11) _) _
        try simp only [Act.put, List.setIfInBounds_toArray, List.set_cons_zero, List.set_cons_succ]
        refine wpAnyH_done (by kernel_rfl) ?_ _
        go_wp2_with fail
        go_meet
        case rel => exact ⟨wd.heap.size, _, _, rfl, rfl, (HK.out.next (st5_below _ _ _ _ _ HLE146.out HB156.out)).add HS.out ((HU161.out.st5 HLT162.out _ _ _ _ _).rd)⟩
    case rest =>
      obtain ⟨g10, q10, c10, rfl, rfl, hk⟩ := hcut
      have HKn := Lib.hid hk
      clear HK hk
      have HK := HKn
      clear HKn
      go_wp2_with fail
      go_cut [12, 13] (fun sp se wx => CutA w [⟨g10, ⟨0, 0, 0, 0, []⟩, .slice q10 0 c10⟩, ⟨g8, ⟨1, 1, 2, 0, [1, 5]⟩, .slice q8 2 c8⟩, ⟨gn, ⟨0, 0, 0, 0, []⟩, .slice qn 0 cn⟩, ⟨gb, ⟨1, 1, 3, 0, [0, 1, 2]⟩, .slice qb 3 cb⟩, ⟨ga, ⟨1, 1, 1, 0, [4]⟩, .slice qa 1 ca⟩, ⟨gv, ⟨1, 1, 4, 0, [5, 3, 5, 1]⟩, .slice qv 4 cv⟩] sp se 1 1 4 0 0 4 [1, 0, 1, 0] wx)
      case first =>
        clear HV HSh HI3 HI401 HI4 HIo HIb HIa HAt HAx HIp HPk HGr
        have HAll : Hid (∀ W, Below wc.heap.size wc W → (fun W => Below wc.heap.size wc W ∧ W.cell? ⟨gv, 0, none⟩ = some (.int .i64 1) ∧ W.cell? ⟨gv, 1, none⟩ = some (.int .i64 1) ∧ W.cell? ⟨gv, 2, none⟩ = some (.int .i64 4) ∧ W.cell? ⟨gv, 3, none⟩ = some (.int .i64 0) ∧ W.cell? ⟨gv, 4, none⟩ = some (.slice qv 4 cv)) W) := fun W h => ⟨h, ((HK.out.next h).a _ (.tail _ (.tail _ (.tail _ (.tail _ (.tail _ (.head _))))))).c0, ((HK.out.next h).a _ (.tail _ (.tail _ (.tail _ (.tail _ (.tail _ (.head _))))))).c1, ((HK.out.next h).a _ (.tail _ (.tail _ (.tail _ (.tail _ (.tail _ (.head _))))))).c2, ((HK.out.next h).a _ (.tail _ (.tail _ (.tail _ (.tail _ (.tail _ (.head _))))))).c3, ((HK.out.next h).a _ (.tail _ (.tail _ (.tail _ (.tail _ (.tail _ (.head _))))))).c4⟩
        refine wp_region_held_drew (S := (fun W => Below wc.heap.size wc W ∧ W.cell? ⟨gv, 0, none⟩ = some (.int .i64 1) ∧ W.cell? ⟨gv, 1, none⟩ = some (.int .i64 1) ∧ W.cell? ⟨gv, 2, none⟩ = some (.int .i64 4) ∧ W.cell? ⟨gv, 3, none⟩ = some (.int .i64 0) ∧ W.cell? ⟨gv, 4, none⟩ = some (.slice qv 4 cv))) (by kernel_rfl) ?_ (fun hHeld => ?_)
        · exact HAll.out _ (Below.refl _ _).drew
        have HB0 : Hid (Below wc.heap.size wc (World.drew wc)) := (Below.refl _ _).drew
        generalize World.drew wc = wd at hHeld HB0 ⊢
        refine wpAnyH_take (i := 0) (v := ?_) rfl (by kernel_rfl) (by kernel_rfl) (by kernel_rfl) (fun _ _ _ h => h) (Or.inl ⟨by rfl, ?_⟩) (by assumption) ?_
        rotate_left
        · ((intro w0 hSw); (try dsimp only at hSw); go_simp; (try with_reducible rfl))
        change wpAnyH _ _ _ _ _ _ _ (Act.put _ (some 49) _) _
        try simp only [Act.put, List.setIfInBounds_toArray, List.set_cons_zero, List.set_cons_succ]
        refine wpAnyH_ready (rs := [1, 7]) (by kernel_rfl) (by simp) ?_
        refine AllReadyH.cons rfl (fun K hK => ?_) (AllReadyH.cons rfl (fun K hK => ?_) (AllReadyH.nil))
        · go_simp
          refine hK.out _ _ ?_ (fun hHeld2 => ?_)
          · exact HAll.out _ (HB0.out.trans ((bel1 wd _).mono HB0.out.size))
          clear hK K hHeld
          have hHeld := hHeld2; clear hHeld2
          try change wpAnyH _ _ _ _ _ _ _ (Act.put _ (some 50) _) _
          try simp only [Act.put, List.setIfInBounds_toArray, List.set_cons_zero, List.set_cons_succ]
          generalize hwx167 : World.alloc wd _ = wn165 at hHeld ⊢
          have HB166 : Hid (Below wc.heap.size wc wn165) := by rw [← hwx167]; exact HB0.out.trans ((bel1 wd _).mono HB0.out.size)
          have HU168 : Hid (RdI wn165.heap.size wn165 (.slice (some ⟨wd.heap.size, 0, none⟩) 2 2) [5, 9]) := by rw [← hwx167]; exact blk_rd (l := [5, 9]) rfl (by decide) (heap_alloc_last wd _)
          clear hwx167
          refine wpAnyH_ready (rs := [2, 7]) (by kernel_rfl) (by simp) ?_
          refine AllReadyH.cons rfl (fun K hK => ?_) (AllReadyH.cons rfl (fun K hK => ?_) (AllReadyH.nil))
          · go_simp
            go_at_call 17
            with_reducible refine (HIn5.out _ _ HU168.out (nil_some _ _ _)).mono ?_
            rintro e wn169 ⟨qz171, cz172, rfl, hu173, hb174⟩
            have HB170 := Lib.hid (HB166.out.trans (hb174.mono HB166.out.size))
            refine hK.out _ _ ?_ (fun hHeld2 => ?_)
            · exact HAll.out _ HB170.out
            clear hK K hHeld
            have hHeld := hHeld2; clear hHeld2
            try change wpAnyH _ _ _ _ _ _ _ (Act.put _ (some 51) _) _
            try dsimp only
            try simp only [Act.put, List.setIfInBounds_toArray, List.set_cons_zero, List.set_cons_succ]
            have HU176 := Lib.hid (HU168.out.next hb174)
            have HU175 := Lib.hid hu173.rd
            clear hu173 hb174
            refine wpAnyH_ready (rs := [3, 7]) (by kernel_rfl) (by simp) ?_
            refine AllReadyH.cons rfl (fun K hK => ?_) (AllReadyH.cons rfl (fun K hK => ?_) (AllReadyH.nil))
            · go_simp
              go_at_call 19
              with_reducible refine (HIn.out _ _ _ (HK.out.next HB170.out).lay (by with_unfolding_all exact (HK.out.next HB170.out).r _ (.tail _ (.tail _ (.tail _ (.tail _ (.tail _ (.head _))))))) HU175.out).mono ?_
              rintro e wn177 ⟨qz179, cz180, rfl, hu181, hb182⟩
              have HB178 := Lib.hid (HB170.out.trans (hb182.mono HB170.out.size))
              refine hK.out _ _ ?_ (fun hHeld2 => ?_)
              · exact HAll.out _ HB178.out
              clear hK K hHeld
              have hHeld := hHeld2; clear hHeld2
              try change wpAnyH _ _ _ _ _ _ _ (Act.put _ (some 52) _) _
              try dsimp only
              try simp only [Act.put, List.setIfInBounds_toArray, List.set_cons_zero, List.set_cons_succ]
              have HU184 := Lib.hid (HU176.out.next hb182)
              have HU185 := Lib.hid (HU175.out.next hb182)
              have HU183 := Lib.hid hu181
              clear hu181 hb182
              refine wpAnyH_take (i := 4) (v := ?_) rfl (by kernel_rfl) (by kernel_rfl) (by kernel_rfl) (fun _ _ _ h => h) (Or.inl ⟨by rfl, ?_⟩) (by assumption) ?_
              rotate_left
              · ((intro w0 hSw); (try dsimp only at hSw); go_simp; (try with_reducible rfl))
              change wpAnyH _ _ _ _ _ _ _ (Act.put _ (some 48) _) _
              try simp only [Act.put, List.setIfInBounds_toArray, List.set_cons_zero, List.set_cons_succ]
              refine wpAnyH_take (i := 5) (v := ?_) rfl (by kernel_rfl) (by kernel_rfl) (by kernel_rfl) (fun _ _ _ h => h) (Or.inl ⟨by rfl, ?_⟩) (by assumption) ?_
              rotate_left
              · ((intro w0 hSw); (try dsimp only at hSw); go_simp; (try with_reducible rfl))
              change wpAnyH _ _ _ _ _ _ _ (Act.put _ (some 53) _) _
              try simp only [Act.put, List.setIfInBounds_toArray, List.set_cons_zero, List.set_cons_succ]
              refine wpAnyH_take (i := 6) (v := ?_) rfl (by kernel_rfl) (by kernel_rfl) (by kernel_rfl) (fun _ _ _ h => h) (Or.inl ⟨by rfl, ?_⟩) (by assumption) ?_
              rotate_left
              · ((intro w0 hSw); (try dsimp only at hSw); go_simp; (try with_reducible rfl))
              change wpAnyH _ _ _ _ _ _ _ (Act.put _ (some 54) _) _
              try simp only [Act.put, List.setIfInBounds_toArray, List.set_cons_zero, List.set_cons_succ]
              refine wpAnyH_ready (rs := [7]) (by kernel_rfl) (by simp) ?_
              refine AllReadyH.cons rfl (fun K hK => ?_) (AllReadyH.nil)
              go_simp
              refine hK.out _ _ ?_ (fun hHeld2 => ?_)
              · exact HAll.out _ (HB178.out.trans ((bel1 wn177 _).mono HB178.out.size))
              clear hK K hHeld
              have hHeld := hHeld2; clear hHeld2
              try change wpAnyH _ _ _ _ _ _ _ (Act.put _ (some 12) _) _
              try simp only [Act.put, List.setIfInBounds_toArray, List.set_cons_zero, List.set_cons_succ]
              generalize hwx187 : World.alloc wn177 _ = wa186 at hHeld ⊢
              have HB188 : Hid (Below wc.heap.size wc wa186) := by rw [← hwx187]; exact HB178.out.trans ((bel1 wn177 _).mono HB178.out.size)
              have HG189 : Hid (R5 wa186 wn177.heap.size 0 0 0 0 (.slice none 0 0)) := by rw [← hwx187]; exact R5.new _ _ _ _ _ _
              have HLE190 := Lib.hid HB178.out.size
              have HU191 : Hid (RdI wa186.heap.size wa186 (.slice (some ⟨wd.heap.size, 0, none⟩) 2 2) [5, 9]) := by rw [← hwx187]; exact HU184.out.next (bel1 _ _)
              have HU192 : Hid (RdI wa186.heap.size wa186 (.slice qz171 2 cz172) [5, 9]) := by rw [← hwx187]; exact HU185.out.next (bel1 _ _)
              have H9193 : Hid (Below wn177.heap.size wn177 wa186) := by rw [← hwx187]; exact bel1 _ _
              clear hwx187
              refine wpAnyH_ready (rs := [8]) (by kernel_rfl) (by simp) ?_
              refine AllReadyH.cons rfl (fun K hK => ?_) (AllReadyH.nil)
              have y0 := HG189.out.c0; have y1 := HG189.out.c1; have y2 := HG189.out.c2; have y3 := HG189.out.c3; have y4 := HG189.out.c4; have f0 := HG189.out.fr 0; have f1 := HG189.out.fr 1; have f2 := HG189.out.fr 2; have f3 := HG189.out.fr 3; have f4 := HG189.out.fr 4; have HS := Lib.hid (HG189.out.set 1 1 4 0 (.slice qz179 4 cz180)); have z0 := HS.out.c0; have z1 := HS.out.c1; have z2 := HS.out.c2; have z3 := HS.out.c3; have z4 := HS.out.c4
              go_simp
              refine hK.out _ _ ?_ (fun hHeld2 => ?_)
              · exact HAll.out _ (st5_below _ _ _ _ _ HLE190.out HB188.out)
              clear hK K hHeld
              have hHeld := hHeld2; clear hHeld2
              try simp only [Act.put, List.setIfInBounds_toArray, List.set_cons_zero, List.set_cons_succ]
              refine wpAnyH_take (i := 9) (v := ?_) rfl (by kernel_rfl) (by kernel_rfl) (by kernel_rfl) (fun _ _ _ h => h) (Or.inl ⟨by rfl, ?_⟩) (by assumption) ?_
              rotate_left
              · ((intro w0 hSw); (try dsimp only at hSw); go_simp; (try with_reducible rfl))
              change wpAnyH _ _ _ _ _ _ _ (Act.put _ (some 13) _) _
              try simp only [Act.put, List.setIfInBounds_toArray, List.set_cons_zero, List.set_cons_succ]
              refine wpAnyH_done (by kernel_rfl) ?_ _
              go_wp2_with fail
              go_meet
              case rel => exact ⟨wn177.heap.size, _, _, rfl, rfl, (HK.out.next (st5_below _ _ _ _ _ HLE190.out HB188.out)).add HS.out (HU183.out.rd.next (st5_below _ _ _ _ _ (Nat.le_refl _) H9193.out))⟩
            · go_simp
              refine hK.out _ _ ?_ (fun hHeld2 => ?_)
              · exact HAll.out _ (HB170.out.trans ((bel1 wn169 _).mono HB170.out.size))
              clear hK K hHeld
              have hHeld := hHeld2; clear hHeld2
              try change wpAnyH _ _ _ _ _ _ _ (Act.put _ (some 12) _) _
              try simp only [Act.put, List.setIfInBounds_toArray, List.set_cons_zero, List.set_cons_succ]
              generalize hwx195 : World.alloc wn169 _ = wa194 at hHeld ⊢
              have HB196 : Hid (Below wc.heap.size wc wa194) := by rw [← hwx195]; exact HB170.out.trans ((bel1 wn169 _).mono HB170.out.size)
              have HG197 : Hid (R5 wa194 wn169.heap.size 0 0 0 0 (.slice none 0 0)) := by rw [← hwx195]; exact R5.new _ _ _ _ _ _
              have HLE198 := Lib.hid HB170.out.size
              have HU199 : Hid (RdI wa194.heap.size wa194 (.slice (some ⟨wd.heap.size, 0, none⟩) 2 2) [5, 9]) := by rw [← hwx195]; exact HU176.out.next (bel1 _ _)
              have HU200 : Hid (RdI wa194.heap.size wa194 (.slice qz171 2 cz172) [5, 9]) := by rw [← hwx195]; exact HU175.out.next (bel1 _ _)
              clear hwx195
              refine wpAnyH_ready (rs := [3]) (by kernel_rfl) (by simp) ?_
              refine AllReadyH.cons rfl (fun K hK => ?_) (AllReadyH.nil)
              go_simp
              go_at_call 19
              with_reducible refine (HIn.out _ _ _ (HK.out.next HB196.out).lay (by with_unfolding_all exact (HK.out.next HB196.out).r _ (.tail _ (.tail _ (.tail _ (.tail _ (.tail _ (.head _))))))) HU200.out).mono ?_
              rintro e wn201 ⟨qz203, cz204, rfl, hu205, hb206⟩
              have HB202 := Lib.hid (HB196.out.trans (hb206.mono HB196.out.size))
              refine hK.out _ _ ?_ (fun hHeld2 => ?_)
              · exact HAll.out _ HB202.out
              clear hK K hHeld
              have hHeld := hHeld2; clear hHeld2
              try change wpAnyH _ _ _ _ _ _ _ (Act.put _ (some 52) _) _
              try dsimp only
              try simp only [Act.put, List.setIfInBounds_toArray, List.set_cons_zero, List.set_cons_succ]
              have HLT208 := Lib.hid HG197.out.lt
              have HG209 := Lib.hid (HG197.out.next hb206)
              have HU210 := Lib.hid (HU199.out.next hb206)
              have HU211 := Lib.hid (HU200.out.next hb206)
              have HU207 := Lib.hid hu205
              clear hu205 hb206
              refine wpAnyH_take (i := 4) (v := ?_) rfl (by kernel_rfl) (by kernel_rfl) (by kernel_rfl) (fun _ _ _ h => h) (Or.inl ⟨by rfl, ?_⟩) (by assumption) ?_
              rotate_left
              · ((intro w0 hSw); (try dsimp only at hSw); go_simp; (try with_reducible rfl))
              change wpAnyH _ _ _ _ _ _ _ (Act.put _ (some 48) _) _
              try simp only [Act.put, List.setIfInBounds_toArray, List.set_cons_zero, List.set_cons_succ]
              refine wpAnyH_take (i := 5) (v := ?_) rfl (by kernel_rfl) (by kernel_rfl) (by kernel_rfl) (fun _ _ _ h => h) (Or.inl ⟨by rfl, ?_⟩) (by assumption) ?_
              rotate_left
              · ((intro w0 hSw); (try dsimp only at hSw); go_simp; (try with_reducible rfl))
              change wpAnyH _ _ _ _ _ _ _ (Act.put _ (some 53) _) _
              try simp only [Act.put, List.setIfInBounds_toArray, List.set_cons_zero, List.set_cons_succ]
              refine wpAnyH_take (i := 6) (v := ?_) rfl (by kernel_rfl) (by kernel_rfl) (by kernel_rfl) (fun _ _ _ h => h) (Or.inl ⟨by rfl, ?_⟩) (by assumption) ?_
              rotate_left
              · ((intro w0 hSw); (try dsimp only at hSw); go_simp; (try with_reducible rfl))
              change wpAnyH _ _ _ _ _ _ _ (Act.put _ (some 54) _) _
              try simp only [Act.put, List.setIfInBounds_toArray, List.set_cons_zero, List.set_cons_succ]
              refine wpAnyH_ready (rs := [8]) (by kernel_rfl) (by simp) ?_
              refine AllReadyH.cons rfl (fun K hK => ?_) (AllReadyH.nil)
              have y0 := HG209.out.c0; have y1 := HG209.out.c1; have y2 := HG209.out.c2; have y3 := HG209.out.c3; have y4 := HG209.out.c4; have f0 := HG209.out.fr 0; have f1 := HG209.out.fr 1; have f2 := HG209.out.fr 2; have f3 := HG209.out.fr 3; have f4 := HG209.out.fr 4; have HS := Lib.hid (HG209.out.set 1 1 4 0 (.slice qz203 4 cz204)); have z0 := HS.out.c0; have z1 := HS.out.c1; have z2 := HS.out.c2; have z3 := HS.out.c3; have z4 := HS.out.c4
              go_simp
              refine hK.out _ _ ?_ (fun hHeld2 => ?_)
              · exact HAll.out _ (st5_below _ _ _ _ _ HLE198.out HB202.out)
              clear hK K hHeld
              have hHeld := hHeld2; clear hHeld2
              try simp only [Act.put, List.setIfInBounds_toArray, List.set_cons_zero, List.set_cons_succ]
              refine wpAnyH_take (i := 9) (v := ?_) rfl (by kernel_rfl) (by kernel_rfl) (by kernel_rfl) (fun _ _ _ h => h) (Or.inl ⟨by rfl, ?_⟩) (by assumption) ?_
              rotate_left
              · ((intro w0 hSw); (try dsimp only at hSw); go_simp; (try with_reducible rfl))
              change wpAnyH _ _ _ _ _ _ _ (Act.put _ (some 13) _) _
              try simp only [Act.put, List.setIfInBounds_toArray, List.set_cons_zero, List.set_cons_succ]
              refine wpAnyH_done (by kernel_rfl) ?_ _
              go_wp2_with fail
              go_meet
              case rel => exact ⟨wn169.heap.size, _, _, rfl, rfl, (HK.out.next (st5_below _ _ _ _ _ HLE198.out HB202.out)).add HS.out ((HU207.out.st5 HLT208.out _ _ _ _ _).rd)⟩
          · go_simp
            refine hK.out _ _ ?_ (fun hHeld2 => ?_)
            · exact HAll.out _ (HB166.out.trans ((bel1 wn165 _).mono HB166.out.size))
            clear hK K hHeld
            have hHeld := hHeld2; clear hHeld2
            try change wpAnyH _ _ _ _ _ _ _ (Act.put _ (some 12) _) _
            try simp only [Act.put, List.setIfInBounds_toArray, List.set_cons_zero, List.set_cons_succ]
            generalize hwx213 : World.alloc wn165 _ = wa212 at hHeld ⊢
            have HB214 : Hid (Below wc.heap.size wc wa212) := by rw [← hwx213]; exact HB166.out.trans ((bel1 wn165 _).mono HB166.out.size)
            have HG215 : Hid (R5 wa212 wn165.heap.size 0 0 0 0 (.slice none 0 0)) := by rw [← hwx213]; exact R5.new _ _ _ _ _ _
            have HLE216 := Lib.hid HB166.out.size
            have HU217 : Hid (RdI wa212.heap.size wa212 (.slice (some ⟨wd.heap.size, 0, none⟩) 2 2) [5, 9]) := by rw [← hwx213]; exact HU168.out.next (bel1 _ _)
            clear hwx213
            refine wpAnyH_ready (rs := [2]) (by kernel_rfl) (by simp) ?_
            refine AllReadyH.cons rfl (fun K hK => ?_) (AllReadyH.nil)
            go_simp
            go_at_call 17
            with_reducible refine (HIn5.out _ _ HU217.out (nil_some _ _ _)).mono ?_
            rintro e wn218 ⟨qz220, cz221, rfl, hu222, hb223⟩
            have HB219 := Lib.hid (HB214.out.trans (hb223.mono HB214.out.size))
            refine hK.out _ _ ?_ (fun hHeld2 => ?_)
            · exact HAll.out _ HB219.out
            clear hK K hHeld
            have hHeld := hHeld2; clear hHeld2
            try change wpAnyH _ _ _ _ _ _ _ (Act.put _ (some 51) _) _
            try dsimp only
            try simp only [Act.put, List.setIfInBounds_toArray, List.set_cons_zero, List.set_cons_succ]
            have HG225 := Lib.hid (HG215.out.next hb223)
            have HU226 := Lib.hid (HU217.out.next hb223)
            have HU224 := Lib.hid hu222.rd
            clear hu222 hb223
            refine wpAnyH_ready (rs := [3]) (by kernel_rfl) (by simp) ?_
            refine AllReadyH.cons rfl (fun K hK => ?_) (AllReadyH.nil)
            go_simp
            go_at_call 19
            with_reducible refine (HIn.out _ _ _ (HK.out.next HB219.out).lay (by with_unfolding_all exact (HK.out.next HB219.out).r _ (.tail _ (.tail _ (.tail _ (.tail _ (.tail _ (.head _))))))) HU224.out).mono ?_
            rintro e wn227 ⟨qz229, cz230, rfl, hu231, hb232⟩
            have HB228 := Lib.hid (HB219.out.trans (hb232.mono HB219.out.size))
            refine hK.out _ _ ?_ (fun hHeld2 => ?_)
            · exact HAll.out _ HB228.out
            clear hK K hHeld
            have hHeld := hHeld2; clear hHeld2
            try change wpAnyH _ _ _ _ _ _ _ (Act.put _ (some 52) _) _
            try dsimp only
            try simp only [Act.put, List.setIfInBounds_toArray, List.set_cons_zero, List.set_cons_succ]
            have HLT234 := Lib.hid HG225.out.lt
            have HG235 := Lib.hid (HG225.out.next hb232)
            have HU236 := Lib.hid (HU226.out.next hb232)
            have HU237 := Lib.hid (HU224.out.next hb232)
            have HU233 := Lib.hid hu231
            clear hu231 hb232
            refine wpAnyH_take (i := 4) (v := ?_) rfl (by kernel_rfl) (by kernel_rfl) (by kernel_rfl) (fun _ _ _ h => h) (Or.inl ⟨by rfl, ?_⟩) (by assumption) ?_
            rotate_left
            · ((intro w0 hSw); (try dsimp only at hSw); go_simp; (try with_reducible rfl))
            change wpAnyH _ _ _ _ _ _ _ (Act.put _ (some 48) _) _
            try simp only [Act.put, List.setIfInBounds_toArray, List.set_cons_zero, List.set_cons_succ]
            refine wpAnyH_take (i := 5) (v := ?_) rfl (by kernel_rfl) (by kernel_rfl) (by kernel_rfl) (fun _ _ _ h => h) (Or.inl ⟨by rfl, ?_⟩) (by assumption) ?_
            rotate_left
            · ((intro w0 hSw); (try dsimp only at hSw); go_simp; (try with_reducible rfl))
            change wpAnyH _ _ _ _ _ _ _ (Act.put _ (some 53) _) _
            try simp only [Act.put, List.setIfInBounds_toArray, List.set_cons_zero, List.set_cons_succ]
            refine wpAnyH_take (i := 6) (v := ?_) rfl (by kernel_rfl) (by kernel_rfl) (by kernel_rfl) (fun _ _ _ h => h) (Or.inl ⟨by rfl, ?_⟩) (by assumption) ?_
            rotate_left
            · ((intro w0 hSw); (try dsimp only at hSw); go_simp; (try with_reducible rfl))
            change wpAnyH _ _ _ _ _ _ _ (Act.put _ (some 54) _) _
            try simp only [Act.put, List.setIfInBounds_toArray, List.set_cons_zero, List.set_cons_succ]
            refine wpAnyH_ready (rs := [8]) (by kernel_rfl) (by simp) ?_
            refine AllReadyH.cons rfl (fun K hK => ?_) (AllReadyH.nil)
            have y0 := HG235.out.c0; have y1 := HG235.out.c1; have y2 := HG235.out.c2; have y3 := HG235.out.c3; have y4 := HG235.out.c4; have f0 := HG235.out.fr 0; have f1 := HG235.out.fr 1; have f2 := HG235.out.fr 2; have f3 := HG235.out.fr 3; have f4 := HG235.out.fr 4; have HS := Lib.hid (HG235.out.set 1 1 4 0 (.slice qz229 4 cz230)); have z0 := HS.out.c0; have z1 := HS.out.c1; have z2 := HS.out.c2; have z3 := HS.out.c3; have z4 := HS.out.c4
            go_simp
            refine hK.out _ _ ?_ (fun hHeld2 => ?_)
            · exact HAll.out _ (st5_below _ _ _ _ _ HLE216.out HB228.out)
            clear hK K hHeld
            have hHeld := hHeld2; clear hHeld2
            try simp only [Act.put, List.setIfInBounds_toArray, List.set_cons_zero, List.set_cons_succ]
            refine wpAnyH_take (i := 9) (v := ?_) rfl (by kernel_rfl) (by kernel_rfl) (by kernel_rfl) (fun _ _ _ h => h) (Or.inl ⟨by rfl, ?_⟩) (by assumption) ?_
            rotate_left
            · ((intro w0 hSw); (try dsimp only at hSw); go_simp; (try with_reducible rfl))
            change wpAnyH _ _ _ _ _ _ _ (Act.put _ (some 13) _) _
            try simp only [Act.put, List.setIfInBounds_toArray, List.set_cons_zero, List.set_cons_succ]
            refine wpAnyH_done (by kernel_rfl) ?_ _
            go_wp2_with fail
            go_meet
            case rel => exact ⟨wn165.heap.size, _, _, rfl, rfl, (HK.out.next (st5_below _ _ _ _ _ HLE216.out HB228.out)).add HS.out ((HU233.out.st5 HLT234.out _ _ _ _ _).rd)⟩
        · go_simp
          refine hK.out _ _ ?_ (fun hHeld2 => ?_)
          · exact HAll.out _ (HB0.out.trans ((bel1 wd _).mono HB0.out.size))
          clear hK K hHeld
          have hHeld := hHeld2; clear hHeld2
          try change wpAnyH _ _ _ _ _ _ _ (Act.put _ (some 12) _) _
          try simp only [Act.put, List.setIfInBounds_toArray, List.set_cons_zero, List.set_cons_succ]
          generalize hwx239 : World.alloc wd _ = wa238 at hHeld ⊢
          have HB240 : Hid (Below wc.heap.size wc wa238) := by rw [← hwx239]; exact HB0.out.trans ((bel1 wd _).mono HB0.out.size)
          have HG241 : Hid (R5 wa238 wd.heap.size 0 0 0 0 (.slice none 0 0)) := by rw [← hwx239]; exact R5.new _ _ _ _ _ _
          have HLE242 := Lib.hid HB0.out.size
          clear hwx239
          refine wpAnyH_ready (rs := [1]) (by kernel_rfl) (by simp) ?_
          refine AllReadyH.cons rfl (fun K hK => ?_) (AllReadyH.nil)
          go_simp
          refine hK.out _ _ ?_ (fun hHeld2 => ?_)
          · exact HAll.out _ (HB240.out.trans ((bel1 wa238 _).mono HB240.out.size))
          clear hK K hHeld
          have hHeld := hHeld2; clear hHeld2
          try change wpAnyH _ _ _ _ _ _ _ (Act.put _ (some 50) _) _
          try simp only [Act.put, List.setIfInBounds_toArray, List.set_cons_zero, List.set_cons_succ]
          generalize hwx245 : World.alloc wa238 _ = wn243 at hHeld ⊢
          have HB244 : Hid (Below wc.heap.size wc wn243) := by rw [← hwx245]; exact HB240.out.trans ((bel1 wa238 _).mono HB240.out.size)
          have HU246 : Hid (RdI wn243.heap.size wn243 (.slice (some ⟨wa238.heap.size, 0, none⟩) 2 2) [5, 9]) := by rw [← hwx245]; exact blk_rd (l := [5, 9]) rfl (by decide) (heap_alloc_last wa238 _)
          have HG247 : Hid (R5 wn243 wd.heap.size 0 0 0 0 (.slice none 0 0)) := by rw [← hwx245]; exact HG241.out.next (bel1 _ _)
          clear hwx245
          refine wpAnyH_ready (rs := [2]) (by kernel_rfl) (by simp) ?_
          refine AllReadyH.cons rfl (fun K hK => ?_) (AllReadyH.nil)
          go_simp
          go_at_call 17
          with_reducible refine (HIn5.out _ _ HU246.out (nil_some _ _ _)).mono ?_
          rintro e wn248 ⟨qz250, cz251, rfl, hu252, hb253⟩
          have HB249 := Lib.hid (HB244.out.trans (hb253.mono HB244.out.size))
          refine hK.out _ _ ?_ (fun hHeld2 => ?_)
          · exact HAll.out _ HB249.out
          clear hK K hHeld
          have hHeld := hHeld2; clear hHeld2
          try change wpAnyH _ _ _ _ _ _ _ (Act.put _ (some 51) _) _
          try dsimp only
          try simp only [Act.put, List.setIfInBounds_toArray, List.set_cons_zero, List.set_cons_succ]
          have HG255 := Lib.hid (HG247.out.next hb253)
          have HU256 := Lib.hid (HU246.out.next hb253)
          have HU254 := Lib.hid hu252.rd
          clear hu252 hb253
          refine wpAnyH_ready (rs := [3]) (by kernel_rfl) (by simp) ?_
          refine AllReadyH.cons rfl (fun K hK => ?_) (AllReadyH.nil)
          go_simp
          go_at_call 19
          with_reducible refine (HIn.out _ _ _ (HK.out.next HB249.out).lay (by with_unfolding_all exact (HK.out.next HB249.out).r _ (.tail _ (.tail _ (.tail _ (.tail _ (.tail _ (.head _))))))) HU254.out).mono ?_
          rintro e wn257 ⟨qz259, cz260, rfl, hu261, hb262⟩
          have HB258 := Lib.hid (HB249.out.trans (hb262.mono HB249.out.size))
          refine hK.out _ _ ?_ (fun hHeld2 => ?_)
          · exact HAll.out _ HB258.out
          clear hK K hHeld
          have hHeld := hHeld2; clear hHeld2
          try change wpAnyH _ _ _ _ _ _ _ (Act.put _ (some 52) _) _
          try dsimp only
          try simp only [Act.put, List.setIfInBounds_toArray, List.set_cons_zero, List.set_cons_succ]
          have HLT264 := Lib.hid HG255.out.lt
          have HG265 := Lib.hid (HG255.out.next hb262)
          have HU266 := Lib.hid (HU256.out.next hb262)
          have HU267 := Lib.hid (HU254.out.next hb262)
          have HU263 := Lib.hid hu261
          clear hu261 hb262
          refine wpAnyH_take (i := 4) (v := ?_) rfl (by kernel_rfl) (by kernel_rfl) (by kernel_rfl) (fun _ _ _ h => h) (Or.inl ⟨by rfl, ?_⟩) (by assumption) ?_
          rotate_left
          · ((intro w0 hSw); (try dsimp only at hSw); go_simp; (try with_reducible rfl))
          change wpAnyH _ _ _ _ _ _ _ (Act.put _ (some 48) _) _
          try simp only [Act.put, List.setIfInBounds_toArray, List.set_cons_zero, List.set_cons_succ]
          refine wpAnyH_take (i := 5) (v := ?_) rfl (by kernel_rfl) (by kernel_rfl) (by kernel_rfl) (fun _ _ _ h => h) (Or.inl ⟨by rfl, ?_⟩) (by assumption) ?_
          rotate_left
          · ((intro w0 hSw); (try dsimp only at hSw); go_simp; (try with_reducible rfl))
          change wpAnyH _ _ _ _ _ _ _ (Act.put _ (some 53) _) _
          try simp only [Act.put, List.setIfInBounds_toArray, List.set_cons_zero, List.set_cons_succ]
          refine wpAnyH_take (i := 6) (v := ?_) rfl (by kernel_rfl) (by kernel_rfl) (by kernel_rfl) (fun _ _ _ h => h) (Or.inl ⟨by rfl, ?_⟩) (by assumption) ?_
          rotate_left
          · ((intro w0 hSw); (try dsimp only at hSw); go_simp; (try with_reducible rfl))
          change wpAnyH _ _ _ _ _ _ _ (Act.put _ (some 54) _) _
          try simp only [Act.put, List.setIfInBounds_toArray, List.set_cons_zero, List.set_cons_succ]
          refine wpAnyH_ready (rs := [8]) (by kernel_rfl) (by simp) ?_
          refine AllReadyH.cons rfl (fun K hK => ?_) (AllReadyH.nil)
          have y0 := HG265.out.c0; have y1 := HG265.out.c1; have y2 := HG265.out.c2; have y3 := HG265.out.c3; have y4 := HG265.out.c4; have f0 := HG265.out.fr 0; have f1 := HG265.out.fr 1; have f2 := HG265.out.fr 2; have f3 := HG265.out.fr 3; have f4 := HG265.out.fr 4; have HS := Lib.hid (HG265.out.set 1 1 4 0 (.slice qz259 4 cz260)); have z0 := HS.out.c0; have z1 := HS.out.c1; have z2 := HS.out.c2; have z3 := HS.out.c3; have z4 := HS.out.c4
          go_simp
          refine hK.out _ _ ?_ (fun hHeld2 => ?_)
          · exact HAll.out _ (st5_below _ _ _ _ _ HLE242.out HB258.out)
          clear hK K hHeld
          have hHeld := hHeld2; clear hHeld2
          try simp only [Act.put, List.setIfInBounds_toArray, List.set_cons_zero, List.set_cons_succ]
          refine wpAnyH_take (i := 9) (v := ?_) rfl (by kernel_rfl) (by kernel_rfl) (by kernel_rfl) (fun _ _ _ h => h) (Or.inl ⟨by rfl, ?_⟩) (by assumption) ?_
          rotate_left
          · ((intro w0 hSw); (try dsimp only at hSw); go_simp; (try with_reducible rfl))
          change wpAnyH _ _ _ _ _ _ _ (Act.put _ (some 13) _) _
          try simp only [Act.put, List.setIfInBounds_toArray, List.set_cons_zero, List.set_cons_succ]
          refine wpAnyH_done (by kernel_rfl) ?_ _
          go_wp2_with fail
          go_meet
          case rel => exact ⟨wd.heap.size, _, _, rfl, rfl, (HK.out.next (st5_below _ _ _ _ _ HLE242.out HB258.out)).add HS.out ((HU263.out.st5 HLT264.out _ _ _ _ _).rd)⟩
      case rest =>
        obtain ⟨g12, q12, c12, rfl, rfl, hk⟩ := hcut
        have HKn := Lib.hid hk
        clear HK hk
        have HK := HKn
        clear HKn
        go_wp2_with fail
        go_cut [14, 15] (fun sp se wx => CutA w [⟨g12, ⟨1, 1, 4, 0, [1, 0, 1, 0]⟩, .slice q12 4 c12⟩, ⟨g10, ⟨0, 0, 0, 0, []⟩, .slice q10 0 c10⟩, ⟨g8, ⟨1, 1, 2, 0, [1, 5]⟩, .slice q8 2 c8⟩, ⟨gn, ⟨0, 0, 0, 0, []⟩, .slice qn 0 cn⟩, ⟨gb, ⟨1, 1, 3, 0, [0, 1, 2]⟩, .slice qb 3 cb⟩, ⟨ga, ⟨1, 1, 1, 0, [4]⟩, .slice qa 1 ca⟩, ⟨gv, ⟨1, 1, 4, 0, [5, 3, 5, 1]⟩, .slice qv 4 cv⟩] sp se 1 1 2 0 0 2 [5, 5] wx)
        case first =>
          clear HV HSh HI3 HI401 HI4 HIo HIb HIa HAt HAx HIn5 HIn HGr
          have HAll : Hid (∀ W, Below wc.heap.size wc W → (fun W => Below wc.heap.size wc W ∧ W.cell? ⟨gv, 0, none⟩ = some (.int .i64 1) ∧ W.cell? ⟨gv, 1, none⟩ = some (.int .i64 1) ∧ W.cell? ⟨gv, 2, none⟩ = some (.int .i64 4) ∧ W.cell? ⟨gv, 3, none⟩ = some (.int .i64 0) ∧ W.cell? ⟨gv, 4, none⟩ = some (.slice qv 4 cv)) W) := fun W h => ⟨h, ((HK.out.next h).a _ (.tail _ (.tail _ (.tail _ (.tail _ (.tail _ (.tail _ (.head _)))))))).c0, ((HK.out.next h).a _ (.tail _ (.tail _ (.tail _ (.tail _ (.tail _ (.tail _ (.head _)))))))).c1, ((HK.out.next h).a _ (.tail _ (.tail _ (.tail _ (.tail _ (.tail _ (.tail _ (.head _)))))))).c2, ((HK.out.next h).a _ (.tail _ (.tail _ (.tail _ (.tail _ (.tail _ (.tail _ (.head _)))))))).c3, ((HK.out.next h).a _ (.tail _ (.tail _ (.tail _ (.tail _ (.tail _ (.tail _ (.head _)))))))).c4⟩
          refine wp_region_held_drew (S := (fun W => Below wc.heap.size wc W ∧ W.cell? ⟨gv, 0, none⟩ = some (.int .i64 1) ∧ W.cell? ⟨gv, 1, none⟩ = some (.int .i64 1) ∧ W.cell? ⟨gv, 2, none⟩ = some (.int .i64 4) ∧ W.cell? ⟨gv, 3, none⟩ = some (.int .i64 0) ∧ W.cell? ⟨gv, 4, none⟩ = some (.slice qv 4 cv))) (by kernel_rfl) ?_ (fun hHeld => ?_)
          · exact HAll.out _ (Below.refl _ _).drew
          have HB0 : Hid (Below wc.heap.size wc (World.drew wc)) := (Below.refl _ _).drew
          generalize World.drew wc = wd at hHeld HB0 ⊢
          refine wpAnyH_take (i := 2) (v := ?_) rfl (by kernel_rfl) (by kernel_rfl) (by kernel_rfl) (fun _ _ _ h => h) (Or.inl ⟨by rfl, ?_⟩) (by assumption) ?_
          rotate_left
          · ((intro w0 hSw); (try dsimp only at hSw); go_simp; (try with_reducible rfl))
          change wpAnyH _ _ _ _ _ _ _ (Act.put _ (some 58) _) _
          try simp only [Act.put, List.setIfInBounds_toArray, List.set_cons_zero, List.set_cons_succ]
          refine wpAnyH_ready (rs := [0, 7]) (by kernel_rfl) (by simp) ?_
          refine AllReadyH.cons rfl (fun K hK => ?_) (AllReadyH.cons rfl (fun K hK => ?_) (AllReadyH.nil))
          · go_simp
            refine hK.out _ _ ?_ (fun hHeld2 => ?_)
            · exact HAll.out _ (HB0.out.trans ((bel1 wd _).mono HB0.out.size))
            clear hK K hHeld
            have hHeld := hHeld2; clear hHeld2
            try change wpAnyH _ _ _ _ _ _ _ (Act.put _ (some 56) _) _
            try simp only [Act.put, List.setIfInBounds_toArray, List.set_cons_zero, List.set_cons_succ]
            generalize hwx270 : World.alloc wd _ = wn268 at hHeld ⊢
            have HB269 : Hid (Below wc.heap.size wc wn268) := by rw [← hwx270]; exact HB0.out.trans ((bel1 wd _).mono HB0.out.size)
            have HU271 : Hid (RdI wn268.heap.size wn268 (.slice (some ⟨wd.heap.size, 0, none⟩) 4 4) [1, 0, 7, 0]) := by rw [← hwx270]; exact blk_rd (l := [1, 0, 7, 0]) rfl (by decide) (heap_alloc_last wd _)
            clear hwx270
            refine wpAnyH_ready (rs := [1, 7]) (by kernel_rfl) (by simp) ?_
            refine AllReadyH.cons rfl (fun K hK => ?_) (AllReadyH.cons rfl (fun K hK => ?_) (AllReadyH.nil))
            · go_simp
              go_at_call 17
              with_reducible refine (HIp.out _ _ HU271.out (nil_some _ _ _)).mono ?_
              rintro e wn272 ⟨qz274, cz275, rfl, hu276, hb277⟩
              have HB273 := Lib.hid (HB269.out.trans (hb277.mono HB269.out.size))
              refine hK.out _ _ ?_ (fun hHeld2 => ?_)
              · exact HAll.out _ HB273.out
              clear hK K hHeld
              have hHeld := hHeld2; clear hHeld2
              try change wpAnyH _ _ _ _ _ _ _ (Act.put _ (some 57) _) _
              try dsimp only
              try simp only [Act.put, List.setIfInBounds_toArray, List.set_cons_zero, List.set_cons_succ]
              have HU279 := Lib.hid (HU271.out.next hb277)
              have HU278 := Lib.hid hu276.rd
              clear hu276 hb277
              refine wpAnyH_ready (rs := [3, 7]) (by kernel_rfl) (by simp) ?_
              refine AllReadyH.cons rfl (fun K hK => ?_) (AllReadyH.cons rfl (fun K hK => ?_) (AllReadyH.nil))
              · go_simp
                go_at_call 7
                with_reducible refine (HPk.out _ _ _ (HK.out.next HB273.out).lay HU278.out (by with_unfolding_all exact (HK.out.next HB273.out).r _ (.tail _ (.tail _ (.tail _ (.tail _ (.tail _ (.tail _ (.head _))))))))).mono ?_
                rintro e wn280 ⟨qz282, cz283, rfl, hu284, hb285⟩
                have HB281 := Lib.hid (HB273.out.trans (hb285.mono HB273.out.size))
                refine hK.out _ _ ?_ (fun hHeld2 => ?_)
                · exact HAll.out _ HB281.out
                clear hK K hHeld
                have hHeld := hHeld2; clear hHeld2
                try change wpAnyH _ _ _ _ _ _ _ (Act.put _ (some 59) _) _
                try dsimp only
                try simp only [Act.put, List.setIfInBounds_toArray, List.set_cons_zero, List.set_cons_succ]
                have HU287 := Lib.hid (HU279.out.next hb285)
                have HU288 := Lib.hid (HU278.out.next hb285)
                have HU286 := Lib.hid hu284
                clear hu284 hb285
                refine wpAnyH_take (i := 4) (v := ?_) rfl (by kernel_rfl) (by kernel_rfl) (by kernel_rfl) (fun _ _ _ h => h) (Or.inl ⟨by rfl, ?_⟩) (by assumption) ?_
                rotate_left
                · ((intro w0 hSw); (try dsimp only at hSw); go_simp; (try with_reducible rfl))
                change wpAnyH _ _ _ _ _ _ _ (Act.put _ (some 55) _) _
                try simp only [Act.put, List.setIfInBounds_toArray, List.set_cons_zero, List.set_cons_succ]
                refine wpAnyH_take (i := 5) (v := ?_) rfl (by kernel_rfl) (by kernel_rfl) (by kernel_rfl) (fun _ _ _ h => h) (Or.inl ⟨by rfl, ?_⟩) (by assumption) ?_
                rotate_left
                · ((intro w0 hSw); (try dsimp only at hSw); go_simp; (try with_reducible rfl))
                change wpAnyH _ _ _ _ _ _ _ (Act.put _ (some 60) _) _
                try simp only [Act.put, List.setIfInBounds_toArray, List.set_cons_zero, List.set_cons_succ]
                refine wpAnyH_take (i := 6) (v := ?_) rfl (by kernel_rfl) (by kernel_rfl) (by kernel_rfl) (fun _ _ _ h => h) (Or.inl ⟨by rfl, ?_⟩) (by assumption) ?_
                rotate_left
                · ((intro w0 hSw); (try dsimp only at hSw); go_simp; (try with_reducible rfl))
                change wpAnyH _ _ _ _ _ _ _ (Act.put _ (some 61) _) _
                try simp only [Act.put, List.setIfInBounds_toArray, List.set_cons_zero, List.set_cons_succ]
                refine wpAnyH_ready (rs := [7]) (by kernel_rfl) (by simp) ?_
                refine AllReadyH.cons rfl (fun K hK => ?_) (AllReadyH.nil)
                go_simp
                refine hK.out _ _ ?_ (fun hHeld2 => ?_)
                · exact HAll.out _ (HB281.out.trans ((bel1 wn280 _).mono HB281.out.size))
                clear hK K hHeld
                have hHeld := hHeld2; clear hHeld2
                try change wpAnyH _ _ _ _ _ _ _ (Act.put _ (some 14) _) _
                try simp only [Act.put, List.setIfInBounds_toArray, List.set_cons_zero, List.set_cons_succ]
                generalize hwx290 : World.alloc wn280 _ = wa289 at hHeld ⊢
                have HB291 : Hid (Below wc.heap.size wc wa289) := by rw [← hwx290]; exact HB281.out.trans ((bel1 wn280 _).mono HB281.out.size)
                have HG292 : Hid (R5 wa289 wn280.heap.size 0 0 0 0 (.slice none 0 0)) := by rw [← hwx290]; exact R5.new _ _ _ _ _ _
                have HLE293 := Lib.hid HB281.out.size
                have HU294 : Hid (RdI wa289.heap.size wa289 (.slice (some ⟨wd.heap.size, 0, none⟩) 4 4) [1, 0, 7, 0]) := by rw [← hwx290]; exact HU287.out.next (bel1 _ _)
                have HU295 : Hid (RdI wa289.heap.size wa289 (.slice qz274 4 cz275) [1, 0, 7, 0]) := by rw [← hwx290]; exact HU288.out.next (bel1 _ _)
                have H9296 : Hid (Below wn280.heap.size wn280 wa289) := by rw [← hwx290]; exact bel1 _ _
                clear hwx290
                refine wpAnyH_ready (rs := [8]) (by kernel_rfl) (by simp) ?_
                refine AllReadyH.cons rfl (fun K hK => ?_) (AllReadyH.nil)
                have y0 := HG292.out.c0; have y1 := HG292.out.c1; have y2 := HG292.out.c2; have y3 := HG292.out.c3; have y4 := HG292.out.c4; have f0 := HG292.out.fr 0; have f1 := HG292.out.fr 1; have f2 := HG292.out.fr 2; have f3 := HG292.out.fr 3; have f4 := HG292.out.fr 4; have HS := Lib.hid (HG292.out.set 1 1 2 0 (.slice qz282 2 cz283)); have z0 := HS.out.c0; have z1 := HS.out.c1; have z2 := HS.out.c2; have z3 := HS.out.c3; have z4 := HS.out.c4
                go_simp
                refine hK.out _ _ ?_ (fun hHeld2 => ?_)
                · exact HAll.out _ (st5_below _ _ _ _ _ HLE293.out HB291.out)
                clear hK K hHeld
                have hHeld := hHeld2; clear hHeld2
                try simp only [Act.put, List.setIfInBounds_toArray, List.set_cons_zero, List.set_cons_succ]
                refine wpAnyH_take (i := 9) (v := ?_) rfl (by kernel_rfl) (by kernel_rfl) (by kernel_rfl) (fun _ _ _ h => h) (Or.inl ⟨by rfl, ?_⟩) (by assumption) ?_
                rotate_left
                · ((intro w0 hSw); (try dsimp only at hSw); go_simp; (try with_reducible rfl))
                change wpAnyH _ _ _ _ _ _ _ (Act.put _ (some 15) _) _
                try simp only [Act.put, List.setIfInBounds_toArray, List.set_cons_zero, List.set_cons_succ]
                refine wpAnyH_done (by kernel_rfl) ?_ _
                go_wp2_with fail
                go_meet
                case rel => exact ⟨wn280.heap.size, _, _, rfl, rfl, (HK.out.next (st5_below _ _ _ _ _ HLE293.out HB291.out)).add HS.out (HU286.out.rd.next (st5_below _ _ _ _ _ (Nat.le_refl _) H9296.out))⟩
              · go_simp
                refine hK.out _ _ ?_ (fun hHeld2 => ?_)
                · exact HAll.out _ (HB273.out.trans ((bel1 wn272 _).mono HB273.out.size))
                clear hK K hHeld
                have hHeld := hHeld2; clear hHeld2
                try change wpAnyH _ _ _ _ _ _ _ (Act.put _ (some 14) _) _
                try simp only [Act.put, List.setIfInBounds_toArray, List.set_cons_zero, List.set_cons_succ]
                generalize hwx298 : World.alloc wn272 _ = wa297 at hHeld ⊢
                have HB299 : Hid (Below wc.heap.size wc wa297) := by rw [← hwx298]; exact HB273.out.trans ((bel1 wn272 _).mono HB273.out.size)
                have HG300 : Hid (R5 wa297 wn272.heap.size 0 0 0 0 (.slice none 0 0)) := by rw [← hwx298]; exact R5.new _ _ _ _ _ _
                have HLE301 := Lib.hid HB273.out.size
                have HU302 : Hid (RdI wa297.heap.size wa297 (.slice (some ⟨wd.heap.size, 0, none⟩) 4 4) [1, 0, 7, 0]) := by rw [← hwx298]; exact HU279.out.next (bel1 _ _)
                have HU303 : Hid (RdI wa297.heap.size wa297 (.slice qz274 4 cz275) [1, 0, 7, 0]) := by rw [← hwx298]; exact HU278.out.next (bel1 _ _)
                clear hwx298
                refine wpAnyH_ready (rs := [3]) (by kernel_rfl) (by simp) ?_
                refine AllReadyH.cons rfl (fun K hK => ?_) (AllReadyH.nil)
                go_simp
                go_at_call 7
                with_reducible refine (HPk.out _ _ _ (HK.out.next HB299.out).lay HU303.out (by with_unfolding_all exact (HK.out.next HB299.out).r _ (.tail _ (.tail _ (.tail _ (.tail _ (.tail _ (.tail _ (.head _))))))))).mono ?_
                rintro e wn304 ⟨qz306, cz307, rfl, hu308, hb309⟩
                have HB305 := Lib.hid (HB299.out.trans (hb309.mono HB299.out.size))
                refine hK.out _ _ ?_ (fun hHeld2 => ?_)
                · exact HAll.out _ HB305.out
                clear hK K hHeld
                have hHeld := hHeld2; clear hHeld2
                try change wpAnyH _ _ _ _ _ _ _ (Act.put _ (some 59) _) _
                try dsimp only
                try simp only [Act.put, List.setIfInBounds_toArray, List.set_cons_zero, List.set_cons_succ]
                have HLT311 := Lib.hid HG300.out.lt
                have HG312 := Lib.hid (HG300.out.next hb309)
                have HU313 := Lib.hid (HU302.out.next hb309)
                have HU314 := Lib.hid (HU303.out.next hb309)
                have HU310 := Lib.hid hu308
                clear hu308 hb309
                refine wpAnyH_take (i := 4) (v := ?_) rfl (by kernel_rfl) (by kernel_rfl) (by kernel_rfl) (fun _ _ _ h => h) (Or.inl ⟨by rfl, ?_⟩) (by assumption) ?_
                rotate_left
                · ((intro w0 hSw); (try dsimp only at hSw); go_simp; (try with_reducible rfl))
                change wpAnyH _ _ _ _ _ _ _ (Act.put _ (some 55) _) _
                try simp only [Act.put, List.setIfInBounds_toArray, List.set_cons_zero, List.set_cons_succ]
                refine wpAnyH_take (i := 5) (v := ?_) rfl (by kernel_rfl) (by kernel_rfl) (by kernel_rfl) (fun _ _ _ h => h) (Or.inl ⟨by rfl, ?_⟩) (by assumption) ?_
                rotate_left
                · ((intro w0 hSw); (try dsimp only at hSw); go_simp; (try with_reducible rfl))
                change wpAnyH _ _ _ _ _ _ _ (Act.put _ (some 60) _) _
                try simp only [Act.put, List.setIfInBounds_toArray, List.set_cons_zero, List.set_cons_succ]
                refine wpAnyH_take (i := 6) (v := ?_) rfl (by kernel_rfl) (by kernel_rfl) (by kernel_rfl) (fun _ _ _ h => h) (Or.inl ⟨by rfl, ?_⟩) (by assumption) ?_
                rotate_left
                · ((intro w0 hSw); (try dsimp only at hSw); go_simp; (try with_reducible rfl))
                change wpAnyH _ _ _ _ _ _ _ (Act.put _ (some 61) _) _
                try simp only [Act.put, List.setIfInBounds_toArray, List.set_cons_zero, List.set_cons_succ]
                refine wpAnyH_ready (rs := [8]) (by kernel_rfl) (by simp) ?_
                refine AllReadyH.cons rfl (fun K hK => ?_) (AllReadyH.nil)
                have y0 := HG312.out.c0; have y1 := HG312.out.c1; have y2 := HG312.out.c2; have y3 := HG312.out.c3; have y4 := HG312.out.c4; have f0 := HG312.out.fr 0; have f1 := HG312.out.fr 1; have f2 := HG312.out.fr 2; have f3 := HG312.out.fr 3; have f4 := HG312.out.fr 4; have HS := Lib.hid (HG312.out.set 1 1 2 0 (.slice qz306 2 cz307)); have z0 := HS.out.c0; have z1 := HS.out.c1; have z2 := HS.out.c2; have z3 := HS.out.c3; have z4 := HS.out.c4
                go_simp
                refine hK.out _ _ ?_ (fun hHeld2 => ?_)
                · exact HAll.out _ (st5_below _ _ _ _ _ HLE301.out HB305.out)
                clear hK K hHeld
                have hHeld := hHeld2; clear hHeld2
                try simp only [Act.put, List.setIfInBounds_toArray, List.set_cons_zero, List.set_cons_succ]
                refine wpAnyH_take (i := 9) (v := ?_) rfl (by kernel_rfl) (by kernel_rfl) (by kernel_rfl) (fun _ _ _ h => h) (Or.inl ⟨by rfl, ?_⟩) (by assumption) ?_
                rotate_left
                · ((intro w0 hSw); (try dsimp only at hSw); go_simp; (try with_reducible rfl))
                change wpAnyH _ _ _ _ _ _ _ (Act.put _ (some 15) _) _
                try simp only [Act.put, List.setIfInBounds_toArray, List.set_cons_zero, List.set_cons_succ]
                refine wpAnyH_done (by kernel_rfl) ?_ _
                go_wp2_with fail
                go_meet
                case rel => exact ⟨wn272.heap.size, _, _, rfl, rfl, (HK.out.next (st5_below _ _ _ _ _ HLE301.out HB305.out)).add HS.out ((HU310.out.st5 HLT311.out _ _ _ _ _).rd)⟩
            · go_simp
              refine hK.out _ _ ?_ (fun hHeld2 => ?_)
              · exact HAll.out _ (HB269.out.trans ((bel1 wn268 _).mono HB269.out.size))
              clear hK K hHeld
              have hHeld := hHeld2; clear hHeld2
              try change wpAnyH _ _ _ _ _ _ _ (Act.put _ (some 14) _) _
              try simp only [Act.put, List.setIfInBounds_toArray, List.set_cons_zero, List.set_cons_succ]
              generalize hwx316 : World.alloc wn268 _ = wa315 at hHeld ⊢
              have HB317 : Hid (Below wc.heap.size wc wa315) := by rw [← hwx316]; exact HB269.out.trans ((bel1 wn268 _).mono HB269.out.size)
              have HG318 : Hid (R5 wa315 wn268.heap.size 0 0 0 0 (.slice none 0 0)) := by rw [← hwx316]; exact R5.new _ _ _ _ _ _
              have HLE319 := Lib.hid HB269.out.size
              have HU320 : Hid (RdI wa315.heap.size wa315 (.slice (some ⟨wd.heap.size, 0, none⟩) 4 4) [1, 0, 7, 0]) := by rw [← hwx316]; exact HU271.out.next (bel1 _ _)
              clear hwx316
              refine wpAnyH_ready (rs := [1]) (by kernel_rfl) (by simp) ?_
              refine AllReadyH.cons rfl (fun K hK => ?_) (AllReadyH.nil)
              go_simp
              go_at_call 17
              with_reducible refine (HIp.out _ _ HU320.out (nil_some _ _ _)).mono ?_
              rintro e wn321 ⟨qz323, cz324, rfl, hu325, hb326⟩
              have HB322 := Lib.hid (HB317.out.trans (hb326.mono HB317.out.size))
              refine hK.out _ _ ?_ (fun hHeld2 => ?_)
              · exact HAll.out _ HB322.out
              clear hK K hHeld
              have hHeld := hHeld2; clear hHeld2
              try change wpAnyH _ _ _ _ _ _ _ (Act.put _ (some 57) _) _
              try dsimp only
              try simp only [Act.put, List.setIfInBounds_toArray, List.set_cons_zero, List.set_cons_succ]
              have HG328 := Lib.hid (HG318.out.next hb326)
              have HU329 := Lib.hid (HU320.out.next hb326)
              have HU327 := Lib.hid hu325.rd
              clear hu325 hb326
              refine wpAnyH_ready (rs := [3]) (by kernel_rfl) (by simp) ?_
              refine AllReadyH.cons rfl (fun K hK => ?_) (AllReadyH.nil)
              go_simp
              go_at_call 7
              with_reducible refine (HPk.out _ _ _ (HK.out.next HB322.out).lay HU327.out (by with_unfolding_all exact (HK.out.next HB322.out).r _ (.tail _ (.tail _ (.tail _ (.tail _ (.tail _ (.tail _ (.head _))))))))).mono ?_
              rintro e wn330 ⟨qz332, cz333, rfl, hu334, hb335⟩
              have HB331 := Lib.hid (HB322.out.trans (hb335.mono HB322.out.size))
              refine hK.out _ _ ?_ (fun hHeld2 => ?_)
              · exact HAll.out _ HB331.out
              clear hK K hHeld
              have hHeld := hHeld2; clear hHeld2
              try change wpAnyH _ _ _ _ _ _ _ (Act.put _ (some 59) _) _
              try dsimp only
              try simp only [Act.put, List.setIfInBounds_toArray, List.set_cons_zero, List.set_cons_succ]
              have HLT337 := Lib.hid HG328.out.lt
              have HG338 := Lib.hid (HG328.out.next hb335)
              have HU339 := Lib.hid (HU329.out.next hb335)
              have HU340 := Lib.hid (HU327.out.next hb335)
              have HU336 := Lib.hid hu334
              clear hu334 hb335
              refine wpAnyH_take (i := 4) (v := ?_) rfl (by kernel_rfl) (by kernel_rfl) (by kernel_rfl) (fun _ _ _ h => h) (Or.inl ⟨by rfl, ?_⟩) (by assumption) ?_
              rotate_left
              · ((intro w0 hSw); (try dsimp only at hSw); go_simp; (try with_reducible rfl))
              change wpAnyH _ _ _ _ _ _ _ (Act.put _ (some 55) _) _
              try simp only [Act.put, List.setIfInBounds_toArray, List.set_cons_zero, List.set_cons_succ]
              refine wpAnyH_take (i := 5) (v := ?_) rfl (by kernel_rfl) (by kernel_rfl) (by kernel_rfl) (fun _ _ _ h => h) (Or.inl ⟨by rfl, ?_⟩) (by assumption) ?_
              rotate_left
              · ((intro w0 hSw); (try dsimp only at hSw); go_simp; (try with_reducible rfl))
              change wpAnyH _ _ _ _ _ _ _ (Act.put _ (some 60) _) _
              try simp only [Act.put, List.setIfInBounds_toArray, List.set_cons_zero, List.set_cons_succ]
              refine wpAnyH_take (i := 6) (v := ?_) rfl (by kernel_rfl) (by kernel_rfl) (by kernel_rfl) (fun _ _ _ h => h) (Or.inl ⟨by rfl, ?_⟩) (by assumption) ?_
              rotate_left
              · ((intro w0 hSw); (try dsimp only at hSw); go_simp; (try with_reducible rfl))
              change wpAnyH _ _ _ _ _ _ _ (Act.put _ (some 61) _) _
              try simp only [Act.put, List.setIfInBounds_toArray, List.set_cons_zero, List.set_cons_succ]
              refine wpAnyH_ready (rs := [8]) (by kernel_rfl) (by simp) ?_
              refine AllReadyH.cons rfl (fun K hK => ?_) (AllReadyH.nil)
              have y0 := HG338.out.c0; have y1 := HG338.out.c1; have y2 := HG338.out.c2; have y3 := HG338.out.c3; have y4 := HG338.out.c4; have f0 := HG338.out.fr 0; have f1 := HG338.out.fr 1; have f2 := HG338.out.fr 2; have f3 := HG338.out.fr 3; have f4 := HG338.out.fr 4; have HS := Lib.hid (HG338.out.set 1 1 2 0 (.slice qz332 2 cz333)); have z0 := HS.out.c0; have z1 := HS.out.c1; have z2 := HS.out.c2; have z3 := HS.out.c3; have z4 := HS.out.c4
              go_simp
              refine hK.out _ _ ?_ (fun hHeld2 => ?_)
              · exact HAll.out _ (st5_below _ _ _ _ _ HLE319.out HB331.out)
              clear hK K hHeld
              have hHeld := hHeld2; clear hHeld2
              try simp only [Act.put, List.setIfInBounds_toArray, List.set_cons_zero, List.set_cons_succ]
              refine wpAnyH_take (i := 9) (v := ?_) rfl (by kernel_rfl) (by kernel_rfl) (by kernel_rfl) (fun _ _ _ h => h) (Or.inl ⟨by rfl, ?_⟩) (by assumption) ?_
              rotate_left
              · ((intro w0 hSw); (try dsimp only at hSw); go_simp; (try with_reducible rfl))
              change wpAnyH _ _ _ _ _ _ _ (Act.put _ (some 15) _) _
              try simp only [Act.put, List.setIfInBounds_toArray, List.set_cons_zero, List.set_cons_succ]
              refine wpAnyH_done (by kernel_rfl) ?_ _
              go_wp2_with fail
              go_meet
              case rel => exact ⟨wn268.heap.size, _, _, rfl, rfl, (HK.out.next (st5_below _ _ _ _ _ HLE319.out HB331.out)).add HS.out ((HU336.out.st5 HLT337.out _ _ _ _ _).rd)⟩
          · go_simp
            refine hK.out _ _ ?_ (fun hHeld2 => ?_)
            · exact HAll.out _ (HB0.out.trans ((bel1 wd _).mono HB0.out.size))
            clear hK K hHeld
            have hHeld := hHeld2; clear hHeld2
            try change wpAnyH _ _ _ _ _ _ _ (Act.put _ (some 14) _) _
            try simp only [Act.put, List.setIfInBounds_toArray, List.set_cons_zero, List.set_cons_succ]
            generalize hwx342 : World.alloc wd _ = wa341 at hHeld ⊢
            have HB343 : Hid (Below wc.heap.size wc wa341) := by rw [← hwx342]; exact HB0.out.trans ((bel1 wd _).mono HB0.out.size)
            have HG344 : Hid (R5 wa341 wd.heap.size 0 0 0 0 (.slice none 0 0)) := by rw [← hwx342]; exact R5.new _ _ _ _ _ _
            have HLE345 := Lib.hid HB0.out.size
            clear hwx342
            refine wpAnyH_ready (rs := [0]) (by kernel_rfl) (by simp) ?_
            refine AllReadyH.cons rfl (fun K hK => ?_) (AllReadyH.nil)
            go_simp
            refine hK.out _ _ ?_ (fun hHeld2 => ?_)
            · exact HAll.out _ (HB343.out.trans ((bel1 wa341 _).mono HB343.out.size))
            clear hK K hHeld
            have hHeld := hHeld2; clear hHeld2
            try change wpAnyH _ _ _ _ _ _ _ (Act.put _ (some 56) _) _
            try simp only [Act.put, List.setIfInBounds_toArray, List.set_cons_zero, List.set_cons_succ]
            generalize hwx348 : World.alloc wa341 _ = wn346 at hHeld ⊢
            have HB347 : Hid (Below wc.heap.size wc wn346) := by rw [← hwx348]; exact HB343.out.trans ((bel1 wa341 _).mono HB343.out.size)
            have HU349 : Hid (RdI wn346.heap.size wn346 (.slice (some ⟨wa341.heap.size, 0, none⟩) 4 4) [1, 0, 7, 0]) := by rw [← hwx348]; exact blk_rd (l := [1, 0, 7, 0]) rfl (by decide) (heap_alloc_last wa341 _)
            have HG350 : Hid (R5 wn346 wd.heap.size 0 0 0 0 (.slice none 0 0)) := by rw [← hwx348]; exact HG344.out.next (bel1 _ _)
            clear hwx348
            refine wpAnyH_ready (rs := [1]) (by kernel_rfl) (by simp) ?_
            refine AllReadyH.cons rfl (fun K hK => ?_) (AllReadyH.nil)
            go_simp
            go_at_call 17
            with_reducible refine (HIp.out _ _ HU349.out (nil_some _ _ _)).mono ?_
            rintro e wn351 ⟨qz353, cz354, rfl, hu355, hb356⟩
            have HB352 := Lib.hid (HB347.out.trans (hb356.mono HB347.out.size))
            refine hK.out _ _ ?_ (fun hHeld2 => ?_)
            · exact HAll.out _ HB352.out
            clear hK K hHeld
            have hHeld := hHeld2; clear hHeld2
            try change wpAnyH _ _ _ _ _ _ _ (Act.put _ (some 57) _) _
            try dsimp only
            try simp only [Act.put, List.setIfInBounds_toArray, List.set_cons_zero, List.set_cons_succ]
            have HG358 := Lib.hid (HG350.out.next hb356)
            have HU359 := Lib.hid (HU349.out.next hb356)
            have HU357 := Lib.hid hu355.rd
            clear hu355 hb356
            refine wpAnyH_ready (rs := [3]) (by kernel_rfl) (by simp) ?_
            refine AllReadyH.cons rfl (fun K hK => ?_) (AllReadyH.nil)
            go_simp
            go_at_call 7
            with_reducible refine (HPk.out _ _ _ (HK.out.next HB352.out).lay HU357.out (by with_unfolding_all exact (HK.out.next HB352.out).r _ (.tail _ (.tail _ (.tail _ (.tail _ (.tail _ (.tail _ (.head _))))))))).mono ?_
            rintro e wn360 ⟨qz362, cz363, rfl, hu364, hb365⟩
            have HB361 := Lib.hid (HB352.out.trans (hb365.mono HB352.out.size))
            refine hK.out _ _ ?_ (fun hHeld2 => ?_)
            · exact HAll.out _ HB361.out
            clear hK K hHeld
            have hHeld := hHeld2; clear hHeld2
            try change wpAnyH _ _ _ _ _ _ _ (Act.put _ (some 59) _) _
            try dsimp only
            try simp only [Act.put, List.setIfInBounds_toArray, List.set_cons_zero, List.set_cons_succ]
            have HLT367 := Lib.hid HG358.out.lt
            have HG368 := Lib.hid (HG358.out.next hb365)
            have HU369 := Lib.hid (HU359.out.next hb365)
            have HU370 := Lib.hid (HU357.out.next hb365)
            have HU366 := Lib.hid hu364
            clear hu364 hb365
            refine wpAnyH_take (i := 4) (v := ?_) rfl (by kernel_rfl) (by kernel_rfl) (by kernel_rfl) (fun _ _ _ h => h) (Or.inl ⟨by rfl, ?_⟩) (by assumption) ?_
            rotate_left
            · ((intro w0 hSw); (try dsimp only at hSw); go_simp; (try with_reducible rfl))
            change wpAnyH _ _ _ _ _ _ _ (Act.put _ (some 55) _) _
            try simp only [Act.put, List.setIfInBounds_toArray, List.set_cons_zero, List.set_cons_succ]
            refine wpAnyH_take (i := 5) (v := ?_) rfl (by kernel_rfl) (by kernel_rfl) (by kernel_rfl) (fun _ _ _ h => h) (Or.inl ⟨by rfl, ?_⟩) (by assumption) ?_
            rotate_left
            · ((intro w0 hSw); (try dsimp only at hSw); go_simp; (try with_reducible rfl))
            change wpAnyH _ _ _ _ _ _ _ (Act.put _ (some 60) _) _
            try simp only [Act.put, List.setIfInBounds_toArray, List.set_cons_zero, List.set_cons_succ]
            refine wpAnyH_take (i := 6) (v := ?_) rfl (by kernel_rfl) (by kernel_rfl) (by kernel_rfl) (fun _ _ _ h => h) (Or.inl ⟨by rfl, ?_⟩) (by assumption) ?_
            rotate_left
            · ((intro w0 hSw); (try dsimp only at hSw); go_simp; (try with_reducible rfl))
            change wpAnyH _ _ _ _ _ _ _ (Act.put _ (some 61) _) _
            try simp only [Act.put, List.setIfInBounds_toArray, List.set_cons_zero, List.set_cons_succ]
            refine wpAnyH_ready (rs := [8]) (by kernel_rfl) (by simp) ?_
            refine AllReadyH.cons rfl (fun K hK => ?_) (AllReadyH.nil)
            have y0 := HG368.out.c0; have y1 := HG368.out.c1; have y2 := HG368.out.c2; have y3 := HG368.out.c3; have y4 := HG368.out.c4; have f0 := HG368.out.fr 0; have f1 := HG368.out.fr 1; have f2 := HG368.out.fr 2; have f3 := HG368.out.fr 3; have f4 := HG368.out.fr 4; have HS := Lib.hid (HG368.out.set 1 1 2 0 (.slice qz362 2 cz363)); have z0 := HS.out.c0; have z1 := HS.out.c1; have z2 := HS.out.c2; have z3 := HS.out.c3; have z4 := HS.out.c4
            go_simp
            refine hK.out _ _ ?_ (fun hHeld2 => ?_)
            · exact HAll.out _ (st5_below _ _ _ _ _ HLE345.out HB361.out)
            clear hK K hHeld
            have hHeld := hHeld2; clear hHeld2
            try simp only [Act.put, List.setIfInBounds_toArray, List.set_cons_zero, List.set_cons_succ]
            refine wpAnyH_take (i := 9) (v := ?_) rfl (by kernel_rfl) (by kernel_rfl) (by kernel_rfl) (fun _ _ _ h => h) (Or.inl ⟨by rfl, ?_⟩) (by assumption) ?_
            rotate_left
            · ((intro w0 hSw); (try dsimp only at hSw); go_simp; (try with_reducible rfl))
            change wpAnyH _ _ _ _ _ _ _ (Act.put _ (some 15) _) _
            try simp only [Act.put, List.setIfInBounds_toArray, List.set_cons_zero, List.set_cons_succ]
            refine wpAnyH_done (by kernel_rfl) ?_ _
            go_wp2_with fail
            go_meet
            case rel => exact ⟨wd.heap.size, _, _, rfl, rfl, (HK.out.next (st5_below _ _ _ _ _ HLE345.out HB361.out)).add HS.out ((HU366.out.st5 HLT367.out _ _ _ _ _).rd)⟩
        case rest =>
          obtain ⟨g14, q14, c14, rfl, rfl, hk⟩ := hcut
          have HKn := Lib.hid hk
          clear HK hk
          have HK := HKn
          clear HKn
          have x0 := (HK.out.a _ (.tail _ (.tail _ (.tail _ (.tail _ (.tail _ (.tail _ (.tail _ (.head _))))))))).c0; have x1 := (HK.out.a _ (.tail _ (.tail _ (.tail _ (.tail _ (.tail _ (.tail _ (.tail _ (.head _))))))))).c1; have x2 := (HK.out.a _ (.tail _ (.tail _ (.tail _ (.tail _ (.tail _ (.tail _ (.tail _ (.head _))))))))).c2; have x3 := (HK.out.a _ (.tail _ (.tail _ (.tail _ (.tail _ (.tail _ (.tail _ (.tail _ (.head _))))))))).c3; have x4 := (HK.out.a _ (.tail _ (.tail _ (.tail _ (.tail _ (.tail _ (.tail _ (.tail _ (.head _))))))))).c4
          go_wp2_with (first
            | (go_at_call 9; (with_reducible refine (HGr.out _ _ HK.out.lay (by with_unfolding_all exact HK.out.r _ (.tail _ (.tail _ (.tail _ (.tail _ (.tail _ (.tail _ (.tail _ (.head _)))))))))).mono ?_); rintro e w9 ⟨q16, c16, rfl, hu, hb⟩; have HKn := Lib.hid ((HK.out.next hb).push ⟨1, 1, 4, 0, [3, 1, 0, 2]⟩ (u := .slice q16 4 c16) hu.rd); clear HK hu hb x0 x1 x2 x3 x4; have HK := HKn; clear HKn)
            | fail)
          generalize hW9 : World.alloc w9 _ = W9 at HK ⊢
          clear hW9
          generalize w9.heap.size = g16 at HK ⊢
          clear HV HSh HI3 HI401 HI4 HIo HIb HIa HAt HAx HIn5 HIn HIp HPk HGr
          have HI9a : Hid (∀ (W : World) (g : Nat), W.heap.size = g → Calls Tryd.prog 17 #[.slice (some ⟨g, 0, none⟩) 1 1] ((W.alloc (.cells #[.int .i64 4] 2))) fun e w' => ∃ q c, e = .returned (A5 1 1 1 0 (.slice q 1 c)) ∧ RdN ((W.alloc (.cells #[.int .i64 4] 2))).heap.size w' (.slice q 1 c) [4] ∧ Below ((W.alloc (.cells #[.int .i64 4] 2))).heap.size ((W.alloc (.cells #[.int .i64 4] 2))) w') := fun W g hg => by subst hg; exact ints_gen [4] 1 rfl (by decide) _ _ (blk_rd (l := [4]) rfl (by decide) (heap_alloc_last W _)) (nil_some _ _ _)
          have HI9ad : Hid (∀ (W : World) (g : Nat), W.heap.size = g → Calls Tryd.prog 17 #[.slice (some ⟨g, 0, none⟩) 1 1] ((W.alloc (.cells #[.int .i64 4] 2)).drew) fun e w' => ∃ q c, e = .returned (A5 1 1 1 0 (.slice q 1 c)) ∧ RdN ((W.alloc (.cells #[.int .i64 4] 2)).drew).heap.size w' (.slice q 1 c) [4] ∧ Below ((W.alloc (.cells #[.int .i64 4] 2)).drew).heap.size ((W.alloc (.cells #[.int .i64 4] 2)).drew) w') := fun W g hg => by subst hg; exact ints_gen [4] 1 rfl (by decide) _ _ ((blk_rd (l := [4]) rfl (by decide) (heap_alloc_last W _)).next (Below.refl _ _).drew) (nil_some _ _ _)
          have HS_ga : Hid (∀ (v u : Value) (W : World), RdI W.heap.size W v [4] → RdI W.heap.size W u [4] → Calls Tryd.prog 16 #[A5 1 1 1 0 v, .int .i64 0, A5 1 1 1 0 u] W fun e w' => e = .returned (.bool true) ∧ Below W.heap.size W w') := fun v u W h1 h2 => is8_eq ⟨1, 1, 1, 0, [4]⟩ v u W h1 h2 (by decide)
          have HI9b : Hid (∀ (W : World) (g : Nat), W.heap.size = g → Calls Tryd.prog 17 #[.slice (some ⟨g, 0, none⟩) 3 3] ((W.alloc (.cells #[.int .i64 0, .int .i64 1, .int .i64 2] 2))) fun e w' => ∃ q c, e = .returned (A5 1 1 3 0 (.slice q 3 c)) ∧ RdN ((W.alloc (.cells #[.int .i64 0, .int .i64 1, .int .i64 2] 2))).heap.size w' (.slice q 3 c) [0, 1, 2] ∧ Below ((W.alloc (.cells #[.int .i64 0, .int .i64 1, .int .i64 2] 2))).heap.size ((W.alloc (.cells #[.int .i64 0, .int .i64 1, .int .i64 2] 2))) w') := fun W g hg => by subst hg; exact ints_gen [0, 1, 2] 3 rfl (by decide) _ _ (blk_rd (l := [0, 1, 2]) rfl (by decide) (heap_alloc_last W _)) (nil_some _ _ _)
          have HS_gb : Hid (∀ (v u : Value) (W : World), RdI W.heap.size W v [0, 1, 2] → RdI W.heap.size W u [0, 1, 2] → Calls Tryd.prog 16 #[A5 1 1 3 0 v, .int .i64 0, A5 1 1 3 0 u] W fun e w' => e = .returned (.bool true) ∧ Below W.heap.size W w') := fun v u W h1 h2 => is8_eq ⟨1, 1, 3, 0, [0, 1, 2]⟩ v u W h1 h2 (by decide)
          have HI9c : Hid (∀ (W : World) (g : Nat), W.heap.size = g → Calls Tryd.prog 17 #[.slice (some ⟨g, 0, none⟩) 2 2] ((W.alloc (.cells #[.int .i64 1, .int .i64 5] 2))) fun e w' => ∃ q c, e = .returned (A5 1 1 2 0 (.slice q 2 c)) ∧ RdN ((W.alloc (.cells #[.int .i64 1, .int .i64 5] 2))).heap.size w' (.slice q 2 c) [1, 5] ∧ Below ((W.alloc (.cells #[.int .i64 1, .int .i64 5] 2))).heap.size ((W.alloc (.cells #[.int .i64 1, .int .i64 5] 2))) w') := fun W g hg => by subst hg; exact ints_gen [1, 5] 2 rfl (by decide) _ _ (blk_rd (l := [1, 5]) rfl (by decide) (heap_alloc_last W _)) (nil_some _ _ _)
          have HS_g8 : Hid (∀ (v u : Value) (W : World), RdI W.heap.size W v [1, 5] → RdI W.heap.size W u [1, 5] → Calls Tryd.prog 16 #[A5 1 1 2 0 v, .int .i64 0, A5 1 1 2 0 u] W fun e w' => e = .returned (.bool true) ∧ Below W.heap.size W w') := fun v u W h1 h2 => is8_eq ⟨1, 1, 2, 0, [1, 5]⟩ v u W h1 h2 (by decide)
          have HI9d : Hid (∀ (W : World) (g : Nat), W.heap.size = g → Calls Tryd.prog 17 #[.slice (some ⟨g, 0, none⟩) 4 4] ((W.alloc (.cells #[.int .i64 1, .int .i64 0, .int .i64 1, .int .i64 0] 2))) fun e w' => ∃ q c, e = .returned (A5 1 1 4 0 (.slice q 4 c)) ∧ RdN ((W.alloc (.cells #[.int .i64 1, .int .i64 0, .int .i64 1, .int .i64 0] 2))).heap.size w' (.slice q 4 c) [1, 0, 1, 0] ∧ Below ((W.alloc (.cells #[.int .i64 1, .int .i64 0, .int .i64 1, .int .i64 0] 2))).heap.size ((W.alloc (.cells #[.int .i64 1, .int .i64 0, .int .i64 1, .int .i64 0] 2))) w') := fun W g hg => by subst hg; exact ints_gen [1, 0, 1, 0] 4 rfl (by decide) _ _ (blk_rd (l := [1, 0, 1, 0]) rfl (by decide) (heap_alloc_last W _)) (nil_some _ _ _)
          have HS_g12 : Hid (∀ (v u : Value) (W : World), RdI W.heap.size W v [1, 0, 1, 0] → RdI W.heap.size W u [1, 0, 1, 0] → Calls Tryd.prog 16 #[A5 1 1 4 0 v, .int .i64 0, A5 1 1 4 0 u] W fun e w' => e = .returned (.bool true) ∧ Below W.heap.size W w') := fun v u W h1 h2 => is8_eq ⟨1, 1, 4, 0, [1, 0, 1, 0]⟩ v u W h1 h2 (by decide)
          have HI9e : Hid (∀ (W : World) (g : Nat), W.heap.size = g → Calls Tryd.prog 17 #[.slice (some ⟨g, 0, none⟩) 2 2] ((W.alloc (.cells #[.int .i64 5, .int .i64 5] 2))) fun e w' => ∃ q c, e = .returned (A5 1 1 2 0 (.slice q 2 c)) ∧ RdN ((W.alloc (.cells #[.int .i64 5, .int .i64 5] 2))).heap.size w' (.slice q 2 c) [5, 5] ∧ Below ((W.alloc (.cells #[.int .i64 5, .int .i64 5] 2))).heap.size ((W.alloc (.cells #[.int .i64 5, .int .i64 5] 2))) w') := fun W g hg => by subst hg; exact ints_gen [5, 5] 2 rfl (by decide) _ _ (blk_rd (l := [5, 5]) rfl (by decide) (heap_alloc_last W _)) (nil_some _ _ _)
          have HS_g14 : Hid (∀ (v u : Value) (W : World), RdI W.heap.size W v [5, 5] → RdI W.heap.size W u [5, 5] → Calls Tryd.prog 16 #[A5 1 1 2 0 v, .int .i64 0, A5 1 1 2 0 u] W fun e w' => e = .returned (.bool true) ∧ Below W.heap.size W w') := fun v u W h1 h2 => is8_eq ⟨1, 1, 2, 0, [5, 5]⟩ v u W h1 h2 (by decide)
          have HI9f : Hid (∀ (W : World) (g : Nat), W.heap.size = g → Calls Tryd.prog 17 #[.slice (some ⟨g, 0, none⟩) 4 4] ((W.alloc (.cells #[.int .i64 3, .int .i64 1, .int .i64 0, .int .i64 2] 2))) fun e w' => ∃ q c, e = .returned (A5 1 1 4 0 (.slice q 4 c)) ∧ RdN ((W.alloc (.cells #[.int .i64 3, .int .i64 1, .int .i64 0, .int .i64 2] 2))).heap.size w' (.slice q 4 c) [3, 1, 0, 2] ∧ Below ((W.alloc (.cells #[.int .i64 3, .int .i64 1, .int .i64 0, .int .i64 2] 2))).heap.size ((W.alloc (.cells #[.int .i64 3, .int .i64 1, .int .i64 0, .int .i64 2] 2))) w') := fun W g hg => by subst hg; exact ints_gen [3, 1, 0, 2] 4 rfl (by decide) _ _ (blk_rd (l := [3, 1, 0, 2]) rfl (by decide) (heap_alloc_last W _)) (nil_some _ _ _)
          have HS_g16 : Hid (∀ (v u : Value) (W : World), RdI W.heap.size W v [3, 1, 0, 2] → RdI W.heap.size W u [3, 1, 0, 2] → Calls Tryd.prog 16 #[A5 1 1 4 0 v, .int .i64 0, A5 1 1 4 0 u] W fun e w' => e = .returned (.bool true) ∧ Below W.heap.size W w') := fun v u W h1 h2 => is8_eq ⟨1, 1, 4, 0, [3, 1, 0, 2]⟩ v u W h1 h2 (by decide)
          have HAll : ∀ W, KLs w [⟨g16, ⟨1, 1, 4, 0, [3, 1, 0, 2]⟩, .slice q16 4 c16⟩, ⟨g14, ⟨1, 1, 2, 0, [5, 5]⟩, .slice q14 2 c14⟩, ⟨g12, ⟨1, 1, 4, 0, [1, 0, 1, 0]⟩, .slice q12 4 c12⟩, ⟨g10, ⟨0, 0, 0, 0, []⟩, .slice q10 0 c10⟩, ⟨g8, ⟨1, 1, 2, 0, [1, 5]⟩, .slice q8 2 c8⟩, ⟨gn, ⟨0, 0, 0, 0, []⟩, .slice qn 0 cn⟩, ⟨gb, ⟨1, 1, 3, 0, [0, 1, 2]⟩, .slice qb 3 cb⟩, ⟨ga, ⟨1, 1, 1, 0, [4]⟩, .slice qa 1 ca⟩, ⟨gv, ⟨1, 1, 4, 0, [5, 3, 5, 1]⟩, .slice qv 4 cv⟩] [] W → (fun W => KLs w [⟨g16, ⟨1, 1, 4, 0, [3, 1, 0, 2]⟩, .slice q16 4 c16⟩, ⟨g14, ⟨1, 1, 2, 0, [5, 5]⟩, .slice q14 2 c14⟩, ⟨g12, ⟨1, 1, 4, 0, [1, 0, 1, 0]⟩, .slice q12 4 c12⟩, ⟨g10, ⟨0, 0, 0, 0, []⟩, .slice q10 0 c10⟩, ⟨g8, ⟨1, 1, 2, 0, [1, 5]⟩, .slice q8 2 c8⟩, ⟨gn, ⟨0, 0, 0, 0, []⟩, .slice qn 0 cn⟩, ⟨gb, ⟨1, 1, 3, 0, [0, 1, 2]⟩, .slice qb 3 cb⟩, ⟨ga, ⟨1, 1, 1, 0, [4]⟩, .slice qa 1 ca⟩, ⟨gv, ⟨1, 1, 4, 0, [5, 3, 5, 1]⟩, .slice qv 4 cv⟩] [] W ∧ W.cell? ⟨ga, 0, none⟩ = some (.int .i64 1) ∧ W.cell? ⟨ga, 1, none⟩ = some (.int .i64 1) ∧ W.cell? ⟨ga, 2, none⟩ = some (.int .i64 1) ∧ W.cell? ⟨ga, 3, none⟩ = some (.int .i64 0) ∧ W.cell? ⟨ga, 4, none⟩ = some (.slice qa 1 ca) ∧ W.cell? ⟨gb, 0, none⟩ = some (.int .i64 1) ∧ W.cell? ⟨gb, 1, none⟩ = some (.int .i64 1) ∧ W.cell? ⟨gb, 2, none⟩ = some (.int .i64 3) ∧ W.cell? ⟨gb, 3, none⟩ = some (.int .i64 0) ∧ W.cell? ⟨gb, 4, none⟩ = some (.slice qb 3 cb) ∧ W.cell? ⟨g8, 0, none⟩ = some (.int .i64 1) ∧ W.cell? ⟨g8, 1, none⟩ = some (.int .i64 1) ∧ W.cell? ⟨g8, 2, none⟩ = some (.int .i64 2) ∧ W.cell? ⟨g8, 3, none⟩ = some (.int .i64 0) ∧ W.cell? ⟨g8, 4, none⟩ = some (.slice q8 2 c8) ∧ W.cell? ⟨g12, 0, none⟩ = some (.int .i64 1) ∧ W.cell? ⟨g12, 1, none⟩ = some (.int .i64 1) ∧ W.cell? ⟨g12, 2, none⟩ = some (.int .i64 4) ∧ W.cell? ⟨g12, 3, none⟩ = some (.int .i64 0) ∧ W.cell? ⟨g12, 4, none⟩ = some (.slice q12 4 c12) ∧ W.cell? ⟨g14, 0, none⟩ = some (.int .i64 1) ∧ W.cell? ⟨g14, 1, none⟩ = some (.int .i64 1) ∧ W.cell? ⟨g14, 2, none⟩ = some (.int .i64 2) ∧ W.cell? ⟨g14, 3, none⟩ = some (.int .i64 0) ∧ W.cell? ⟨g14, 4, none⟩ = some (.slice q14 2 c14) ∧ W.cell? ⟨g16, 0, none⟩ = some (.int .i64 1) ∧ W.cell? ⟨g16, 1, none⟩ = some (.int .i64 1) ∧ W.cell? ⟨g16, 2, none⟩ = some (.int .i64 4) ∧ W.cell? ⟨g16, 3, none⟩ = some (.int .i64 0) ∧ W.cell? ⟨g16, 4, none⟩ = some (.slice q16 4 c16)) W := fun W h => ⟨h, (h.a _ (.tail _ (.tail _ (.tail _ (.tail _ (.tail _ (.tail _ (.tail _ (.head _))))))))).c0, (h.a _ (.tail _ (.tail _ (.tail _ (.tail _ (.tail _ (.tail _ (.tail _ (.head _))))))))).c1, (h.a _ (.tail _ (.tail _ (.tail _ (.tail _ (.tail _ (.tail _ (.tail _ (.head _))))))))).c2, (h.a _ (.tail _ (.tail _ (.tail _ (.tail _ (.tail _ (.tail _ (.tail _ (.head _))))))))).c3, (h.a _ (.tail _ (.tail _ (.tail _ (.tail _ (.tail _ (.tail _ (.tail _ (.head _))))))))).c4, (h.a _ (.tail _ (.tail _ (.tail _ (.tail _ (.tail _ (.tail _ (.head _)))))))).c0, (h.a _ (.tail _ (.tail _ (.tail _ (.tail _ (.tail _ (.tail _ (.head _)))))))).c1, (h.a _ (.tail _ (.tail _ (.tail _ (.tail _ (.tail _ (.tail _ (.head _)))))))).c2, (h.a _ (.tail _ (.tail _ (.tail _ (.tail _ (.tail _ (.tail _ (.head _)))))))).c3, (h.a _ (.tail _ (.tail _ (.tail _ (.tail _ (.tail _ (.tail _ (.head _)))))))).c4, (h.a _ (.tail _ (.tail _ (.tail _ (.tail _ (.head _)))))).c0, (h.a _ (.tail _ (.tail _ (.tail _ (.tail _ (.head _)))))).c1, (h.a _ (.tail _ (.tail _ (.tail _ (.tail _ (.head _)))))).c2, (h.a _ (.tail _ (.tail _ (.tail _ (.tail _ (.head _)))))).c3, (h.a _ (.tail _ (.tail _ (.tail _ (.tail _ (.head _)))))).c4, (h.a _ (.tail _ (.tail _ (.head _)))).c0, (h.a _ (.tail _ (.tail _ (.head _)))).c1, (h.a _ (.tail _ (.tail _ (.head _)))).c2, (h.a _ (.tail _ (.tail _ (.head _)))).c3, (h.a _ (.tail _ (.tail _ (.head _)))).c4, (h.a _ (.tail _ (.head _))).c0, (h.a _ (.tail _ (.head _))).c1, (h.a _ (.tail _ (.head _))).c2, (h.a _ (.tail _ (.head _))).c3, (h.a _ (.tail _ (.head _))).c4, (h.a _ (.head _)).c0, (h.a _ (.head _)).c1, (h.a _ (.head _)).c2, (h.a _ (.head _)).c3, (h.a _ (.head _)).c4⟩
          have hS := HK.out
          clear HK
          go_region_held3 (fun W => KLs w [⟨g16, ⟨1, 1, 4, 0, [3, 1, 0, 2]⟩, .slice q16 4 c16⟩, ⟨g14, ⟨1, 1, 2, 0, [5, 5]⟩, .slice q14 2 c14⟩, ⟨g12, ⟨1, 1, 4, 0, [1, 0, 1, 0]⟩, .slice q12 4 c12⟩, ⟨g10, ⟨0, 0, 0, 0, []⟩, .slice q10 0 c10⟩, ⟨g8, ⟨1, 1, 2, 0, [1, 5]⟩, .slice q8 2 c8⟩, ⟨gn, ⟨0, 0, 0, 0, []⟩, .slice qn 0 cn⟩, ⟨gb, ⟨1, 1, 3, 0, [0, 1, 2]⟩, .slice qb 3 cb⟩, ⟨ga, ⟨1, 1, 1, 0, [4]⟩, .slice qa 1 ca⟩, ⟨gv, ⟨1, 1, 4, 0, [5, 3, 5, 1]⟩, .slice qv 4 cv⟩] [] W ∧ W.cell? ⟨ga, 0, none⟩ = some (.int .i64 1) ∧ W.cell? ⟨ga, 1, none⟩ = some (.int .i64 1) ∧ W.cell? ⟨ga, 2, none⟩ = some (.int .i64 1) ∧ W.cell? ⟨ga, 3, none⟩ = some (.int .i64 0) ∧ W.cell? ⟨ga, 4, none⟩ = some (.slice qa 1 ca) ∧ W.cell? ⟨gb, 0, none⟩ = some (.int .i64 1) ∧ W.cell? ⟨gb, 1, none⟩ = some (.int .i64 1) ∧ W.cell? ⟨gb, 2, none⟩ = some (.int .i64 3) ∧ W.cell? ⟨gb, 3, none⟩ = some (.int .i64 0) ∧ W.cell? ⟨gb, 4, none⟩ = some (.slice qb 3 cb) ∧ W.cell? ⟨g8, 0, none⟩ = some (.int .i64 1) ∧ W.cell? ⟨g8, 1, none⟩ = some (.int .i64 1) ∧ W.cell? ⟨g8, 2, none⟩ = some (.int .i64 2) ∧ W.cell? ⟨g8, 3, none⟩ = some (.int .i64 0) ∧ W.cell? ⟨g8, 4, none⟩ = some (.slice q8 2 c8) ∧ W.cell? ⟨g12, 0, none⟩ = some (.int .i64 1) ∧ W.cell? ⟨g12, 1, none⟩ = some (.int .i64 1) ∧ W.cell? ⟨g12, 2, none⟩ = some (.int .i64 4) ∧ W.cell? ⟨g12, 3, none⟩ = some (.int .i64 0) ∧ W.cell? ⟨g12, 4, none⟩ = some (.slice q12 4 c12) ∧ W.cell? ⟨g14, 0, none⟩ = some (.int .i64 1) ∧ W.cell? ⟨g14, 1, none⟩ = some (.int .i64 1) ∧ W.cell? ⟨g14, 2, none⟩ = some (.int .i64 2) ∧ W.cell? ⟨g14, 3, none⟩ = some (.int .i64 0) ∧ W.cell? ⟨g14, 4, none⟩ = some (.slice q14 2 c14) ∧ W.cell? ⟨g16, 0, none⟩ = some (.int .i64 1) ∧ W.cell? ⟨g16, 1, none⟩ = some (.int .i64 1) ∧ W.cell? ⟨g16, 2, none⟩ = some (.int .i64 4) ∧ W.cell? ⟨g16, 3, none⟩ = some (.int .i64 0) ∧ W.cell? ⟨g16, 4, none⟩ = some (.slice q16 4 c16))
            ((first | exact HAll _ ((by assumption : KLs _ _ _ _ ∧ _).1.next hbn) | exact HAll _ ((by assumption : KLs _ _ _ _ ∧ _).1.next (bel1 _ _)) | exact HAll _ (by assumption : KLs _ _ _ _ ∧ _).1 | exact HAll _ (hS.next (Below.refl _ _).drew) | fail))
            (first
              | (go_at_call 17; (with_reducible refine (HI9a.out _ _ (by first | rfl | simp)).mono ?_); rintro e wn ⟨qn, cn, rfl, hrv, hbn⟩)
              | (go_at_call 17; (with_reducible refine (HI9ad.out _ _ (by first | rfl | simp)).mono ?_); rintro e wn ⟨qn, cn, rfl, hrv, hbn⟩)
              | (go_at_call 16; (with_reducible refine (HS_ga.out _ _ _ (by with_unfolding_all exact (by assumption : KLs _ _ _ _ ∧ _).1.r _ (.tail _ (.tail _ (.tail _ (.tail _ (.tail _ (.tail _ (.tail _ (.head _))))))))) hrv.rd).mono ?_); rintro e wn ⟨rfl, hbn⟩)
              | (go_at_call 17; (with_reducible refine (HI9b.out _ _ (by first | rfl | simp)).mono ?_); rintro e wn ⟨qn, cn, rfl, hrv, hbn⟩)
              | (go_at_call 16; (with_reducible refine (HS_gb.out _ _ _ (by with_unfolding_all exact (by assumption : KLs _ _ _ _ ∧ _).1.r _ (.tail _ (.tail _ (.tail _ (.tail _ (.tail _ (.tail _ (.head _)))))))) hrv.rd).mono ?_); rintro e wn ⟨rfl, hbn⟩)
              | (go_at_call 17; (with_reducible refine (HI9c.out _ _ (by first | rfl | simp)).mono ?_); rintro e wn ⟨qn, cn, rfl, hrv, hbn⟩)
              | (go_at_call 16; (with_reducible refine (HS_g8.out _ _ _ (by with_unfolding_all exact (by assumption : KLs _ _ _ _ ∧ _).1.r _ (.tail _ (.tail _ (.tail _ (.tail _ (.head _)))))) hrv.rd).mono ?_); rintro e wn ⟨rfl, hbn⟩)
              | (go_at_call 17; (with_reducible refine (HI9d.out _ _ (by first | rfl | simp)).mono ?_); rintro e wn ⟨qn, cn, rfl, hrv, hbn⟩)
              | (go_at_call 16; (with_reducible refine (HS_g12.out _ _ _ (by with_unfolding_all exact (by assumption : KLs _ _ _ _ ∧ _).1.r _ (.tail _ (.tail _ (.head _)))) hrv.rd).mono ?_); rintro e wn ⟨rfl, hbn⟩)
              | (go_at_call 17; (with_reducible refine (HI9e.out _ _ (by first | rfl | simp)).mono ?_); rintro e wn ⟨qn, cn, rfl, hrv, hbn⟩)
              | (go_at_call 16; (with_reducible refine (HS_g14.out _ _ _ (by with_unfolding_all exact (by assumption : KLs _ _ _ _ ∧ _).1.r _ (.tail _ (.head _))) hrv.rd).mono ?_); rintro e wn ⟨rfl, hbn⟩)
              | (go_at_call 17; (with_reducible refine (HI9f.out _ _ (by first | rfl | simp)).mono ?_); rintro e wn ⟨qn, cn, rfl, hrv, hbn⟩)
              | (go_at_call 16; (with_reducible refine (HS_g16.out _ _ _ (by with_unfolding_all exact (by assumption : KLs _ _ _ _ ∧ _).1.r _ (.head _)) hrv.rd).mono ?_); rintro e wn ⟨rfl, hbn⟩)
              | fail)
          all_goals
            have HB := Lib.hid (by assumption : KLs _ _ _ _ ∧ _).1.bel
            go_wp2_with fail
            go_ret
            exact ⟨rfl, HB.out⟩
end Go.Proofs.YtpbfbejckhbijaaDoor
