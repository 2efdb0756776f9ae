/- The awake of the laws of extend. -/
import Derived.Test.YtokmdgiialcokaaDoorExR
import Derived.Test.YtokmdgiialcokaaDoorMvQ
import Derived.Deep.DeepCutAuto
namespace Go.Proofs.YtokmdgiialcokaaDoor
open Go.RowKit

theorem two_lit10 {F : FuncId} {p k r a b l s d f : Int} {v u : Value} {W : World} {R : Ar} {E : Int} (h : Calls Tryd.prog F #[.int .i64 p, A5 k r a b v, A5 l s d f u] W (RetE R E W)) (k' r' a' b' : Int) (n : Nat) (z' : List Int) (E' : Int) (hE : E = E') (hR : R = ⟨k', r', a', b', z'⟩) (hn : z'.length = n) :
    Calls Tryd.prog F #[.int .i64 p, A5 k r a b v, A5 l s d f u] W fun e w' => ∃ q c, e = .returned (.tuple #[A5 k' r' a' b' (.slice q n c), .int .i64 E']) ∧ RdN W.heap.size w' (.slice q n c) z' ∧ Below W.heap.size W w' := by
  subst hE hR hn
  refine h.mono ?_
  rintro e w' ⟨u, h1, h2, h3⟩
  obtain ⟨q, c, hq, _⟩ := h2.form
  have hq2 : u = .slice q z'.length c := hq
  subst hq2
  exact ⟨q, c, h1, h2, h3⟩
theorem one_lit10 {F : FuncId} {p k r a b : Int} {v : Value} {W : World} {R : Ar} {E : Int} (h : Calls Tryd.prog F #[.int .i64 p, A5 k r a b v] W (RetE R E W)) (k' r' a' b' : Int) (n : Nat) (z' : List Int) (E' : Int) (hE : E = E') (hR : R = ⟨k', r', a', b', z'⟩) (hn : z'.length = n) :
    Calls Tryd.prog F #[.int .i64 p, A5 k r a b v] W fun e w' => ∃ q c, e = .returned (.tuple #[A5 k' r' a' b' (.slice q n c), .int .i64 E']) ∧ RdN W.heap.size w' (.slice q n c) z' ∧ Below W.heap.size W w' := by
  subst hE hR hn
  refine h.mono ?_
  rintro e w' ⟨u, h1, h2, h3⟩
  obtain ⟨q, c, hq, _⟩ := h2.form
  have hq2 : u = .slice q z'.length c := hq
  subst hq2
  exact ⟨q, c, h1, h2, h3⟩
/-- The reference's Vector of a slice that is written out, its Scalar. -/
theorem vec_lit10 (k : Int) (z : List Int) (len : Nat) (hlen : z.length = len) (h4 : len ≤ 1000) (W : World) (g : Nat) (hg : W.heap.size = g) :
    Calls Tryd.prog 22 #[.int .i64 k, .slice (some ⟨g, 0, none⟩) len len] (W.alloc (.cells (z.map vi).toArray 2)) fun e w' => ∃ q c, e = .returned (A5 k 1 len 0 (.slice q len c)) ∧ RdN (g + 1) w' (.slice q len c) z ∧ Below W.heap.size W w' := by
  subst hg hlen
  have hb := bel1 W (.cells (z.map vi).toArray 2)
  refine (vector7_any k z (.slice (some ⟨W.heap.size, 0, none⟩) z.length z.length) _ (blk_rd rfl (by omega) (heap_alloc_last W _)) (nil_some _ _ _) (by omega)).mono ?_
  rintro e w' ⟨u, h1, h2, h3⟩
  obtain ⟨q, c, hq, _⟩ := h2.form
  have hq2 : u = .slice q z.length c := hq
  subst hq2
  exact ⟨q, c, h1, h2.mono (by simp), hb.trans (h3.mono hb.size)⟩
theorem sca_lit10 (k n : Int) (W : World) : Calls Tryd.prog 47 #[.int .i64 k, .int .i64 n] W fun e w' => ∃ q c, e = .returned (A5 k 0 0 0 (.slice q 1 c)) ∧ RdN W.heap.size w' (.slice q 1 c) [n] ∧ Below W.heap.size W w' := by
  refine (scalar7_any k n W).mono ?_
  rintro e w' ⟨u, h1, h2, h3⟩
  obtain ⟨q, c, hq, _⟩ := h2.form
  have hq2 : u = .slice q 1 c := hq
  subst hq2
  exact ⟨q, c, h1, h2, h3⟩
theorem in64_lit {z : List Int} (h : z.all Sc.inr = true) : in64 z := fun x hx => List.all_eq_true.1 h x hx

set_option maxRecDepth 100000 in
set_option maxHeartbeats 32000000 in
theorem awake10_any (w : World) (hw : Ru.Lay w) : Calls Tryd.prog 15 #[] w fun e w' => e = .returned (.bool true) ∧ Below w.heap.size w w' := by
  have HK0 := Lib.hid (KLs.start w hw)
  clear hw
  have HV : Hid (∀ (W : World) (g : Nat), W.heap.size = g → Calls Tryd.prog 45 #[.slice (some ⟨g, 0, none⟩) 3 3] (W.alloc (.cells #[.int .i64 1, .int .i64 2, .int .i64 3] 2)) fun e w' => ∃ q c, e = .returned (A5 1 1 3 0 (.slice q 3 c)) ∧ RdN (g + 1) w' (.slice q 3 c) [1, 2, 3] ∧ Below W.heap.size W w') := fun W g hg => ints_lit [1, 2, 3] 3 rfl (by decide) W g hg
  have HI10 := Lib.hid (fun W => int_lit 10 W)
  have HI97 := Lib.hid (fun W => int_lit 97 W)
  have HT2 : Hid (∀ (v u : Value) (W : World), Ru.Lay W → RdI W.heap.size W v [10] → RdI W.heap.size W u [1, 2, 3] → Calls Tryd.prog 16 #[.int .i64 15, A5 1 0 0 0 v, A5 1 1 3 0 u] W fun e w' => ∃ q c, e = .returned (.tuple #[A5 1 1 3 0 (.slice q 3 c), .int .i64 0]) ∧ RdN W.heap.size w' (.slice q 3 c) [11, 12, 13] ∧ Below W.heap.size W w') := fun v u W h1 h2 h3 => two_lit10 (etwo_any 15 ⟨1, 0, 0, 0, [10]⟩ ⟨1, 1, 3, 0, [1, 2, 3]⟩ v u W h1 h2 h3 (by decide) (by decide) (in64_lit (by decide)) (in64_lit (by decide))) 1 1 3 0 3 [11, 12, 13] 0 (by decide) (by rfl) rfl
  have HVc : Hid (∀ (W : World) (g : Nat), W.heap.size = g → Calls Tryd.prog 22 #[.int .i64 2, .slice (some ⟨g, 0, none⟩) 3 3] (W.alloc (.cells #[.int .i64 97, .int .i64 98, .int .i64 97] 2)) fun e w' => ∃ q c, e = .returned (A5 2 1 3 0 (.slice q 3 c)) ∧ RdN (g + 1) w' (.slice q 3 c) [97, 98, 97] ∧ Below W.heap.size W w') := fun W g hg => vec_lit10 2 [97, 98, 97] 3 rfl (by decide) W g hg
  have HSc := Lib.hid (fun W => sca_lit10 2 97 W)
  have HT3 : Hid (∀ (v u : Value) (W : World), Ru.Lay W → RdI W.heap.size W v [97, 98, 97] → RdI W.heap.size W u [97] → Calls Tryd.prog 16 #[.int .i64 23, A5 2 1 3 0 v, A5 2 0 0 0 u] W fun e w' => ∃ q c, e = .returned (.tuple #[A5 1 1 3 0 (.slice q 3 c), .int .i64 0]) ∧ RdN W.heap.size w' (.slice q 3 c) [1, 0, 1] ∧ Below W.heap.size W w') := fun v u W h1 h2 h3 => two_lit10 (etwo_any 23 ⟨2, 1, 3, 0, [97, 98, 97]⟩ ⟨2, 0, 0, 0, [97]⟩ v u W h1 h2 h3 (by decide) (by decide) (in64_lit (by decide)) (in64_lit (by decide))) 1 1 3 0 3 [1, 0, 1] 0 (by decide) (by rfl) rfl
  have HT4 : Hid (∀ (v u : Value) (W : World), Ru.Lay W → RdI W.heap.size W v [97] → RdI W.heap.size W u [97] → Calls Tryd.prog 16 #[.int .i64 23, A5 2 0 0 0 v, A5 1 0 0 0 u] W fun e w' => ∃ q c, e = .returned (.tuple #[A5 0 0 0 0 (.slice q 0 c), .int .i64 21]) ∧ RdN W.heap.size w' (.slice q 0 c) [] ∧ Below W.heap.size W w') := fun v u W h1 h2 h3 => two_lit10 (etwo_any 23 ⟨2, 0, 0, 0, [97]⟩ ⟨1, 0, 0, 0, [97]⟩ v u W h1 h2 h3 (by decide) (by decide) (in64_lit (by decide)) (in64_lit (by decide))) 0 0 0 0 0 [] 21 (by decide) (by rfl) rfl
  have HIg : Hid (∀ (v : Value) (W : World), RdI W.heap.size W v [1, 2] → Ru.NilC v → Calls Tryd.prog 45 #[v] W fun e w' => ∃ q c, e = .returned (A5 1 1 2 0 (.slice q 2 c)) ∧ RdN W.heap.size w' (.slice q 2 c) [1, 2] ∧ Below W.heap.size W w') := fun v W h1 h2 => ints_gen [1, 2] 2 rfl (by decide) v W h1 h2
  have HT5 : Hid (∀ (v u : Value) (W : World), Ru.Lay W → RdI W.heap.size W v [1, 2] → RdI W.heap.size W u [1, 2, 3] → Calls Tryd.prog 16 #[.int .i64 15, A5 1 1 2 0 v, A5 1 1 3 0 u] W fun e w' => ∃ q c, e = .returned (.tuple #[A5 0 0 0 0 (.slice q 0 c), .int .i64 11]) ∧ RdN W.heap.size w' (.slice q 0 c) [] ∧ Below W.heap.size W w') := fun v u W h1 h2 h3 => two_lit10 (etwo_any 15 ⟨1, 1, 2, 0, [1, 2]⟩ ⟨1, 1, 3, 0, [1, 2, 3]⟩ v u W h1 h2 h3 (by decide) (by decide) (in64_lit (by decide)) (in64_lit (by decide))) 0 0 0 0 0 [] 11 (by decide) (by rfl) rfl
  have HIa : Hid (∀ (W : World) (g : Nat), W.heap.size = g → Calls Tryd.prog 45 #[.slice (some ⟨g, 0, none⟩) 2 2] (W.alloc (.cells #[.int .i64 (-9223372036854775808), .int .i64 1] 2)) fun e w' => ∃ q c, e = .returned (A5 1 1 2 0 (.slice q 2 c)) ∧ RdN (g + 1) w' (.slice q 2 c) [-9223372036854775808, 1] ∧ Below W.heap.size W w') := fun W g hg => ints_lit [-9223372036854775808, 1] 2 rfl (by decide) W g hg
  have HIb : Hid (∀ (W : World) (g : Nat), W.heap.size = g → Calls Tryd.prog 45 #[.slice (some ⟨g, 0, none⟩) 2 2] (W.alloc (.cells #[.int .i64 (-1), .int .i64 0] 2)) fun e w' => ∃ q c, e = .returned (A5 1 1 2 0 (.slice q 2 c)) ∧ RdN (g + 1) w' (.slice q 2 c) [-1, 0] ∧ Below W.heap.size W w') := fun W g hg => ints_lit [-1, 0] 2 rfl (by decide) W g hg
  have HT6 : Hid (∀ (v u : Value) (W : World), Ru.Lay W → RdI W.heap.size W v [-9223372036854775808, 1] → RdI W.heap.size W u [-1, 0] → Calls Tryd.prog 16 #[.int .i64 18, A5 1 1 2 0 v, A5 1 1 2 0 u] W fun e w' => ∃ q c, e = .returned (.tuple #[A5 0 0 0 0 (.slice q 0 c), .int .i64 12]) ∧ RdN W.heap.size w' (.slice q 0 c) [] ∧ Below W.heap.size W w') := fun v u W h1 h2 h3 => two_lit10 (etwo_any 18 ⟨1, 1, 2, 0, [-9223372036854775808, 1]⟩ ⟨1, 1, 2, 0, [-1, 0]⟩ v u W h1 h2 h3 (by decide) (by decide) (in64_lit (by decide)) (in64_lit (by decide))) 0 0 0 0 0 [] 12 (by decide) (by rfl) rfl
  have HIc : Hid (∀ (W : World) (g : Nat), W.heap.size = g → Calls Tryd.prog 45 #[.slice (some ⟨g, 0, none⟩) 2 2] (W.alloc (.cells #[.int .i64 1, .int .i64 (-9223372036854775808)] 2)) fun e w' => ∃ q c, e = .returned (A5 1 1 2 0 (.slice q 2 c)) ∧ RdN (g + 1) w' (.slice q 2 c) [1, -9223372036854775808] ∧ Below W.heap.size W w') := fun W g hg => ints_lit [1, -9223372036854775808] 2 rfl (by decide) W g hg
  have HId : Hid (∀ (W : World) (g : Nat), W.heap.size = g → Calls Tryd.prog 45 #[.slice (some ⟨g, 0, none⟩) 2 2] (W.alloc (.cells #[.int .i64 0, .int .i64 (-1)] 2)) fun e w' => ∃ q c, e = .returned (A5 1 1 2 0 (.slice q 2 c)) ∧ RdN (g + 1) w' (.slice q 2 c) [0, -1] ∧ Below W.heap.size W w') := fun W g hg => ints_lit [0, -1] 2 rfl (by decide) W g hg
  have HT7 : Hid (∀ (v u : Value) (W : World), Ru.Lay W → RdI W.heap.size W v [1, -9223372036854775808] → RdI W.heap.size W u [0, -1] → Calls Tryd.prog 16 #[.int .i64 18, A5 1 1 2 0 v, A5 1 1 2 0 u] W fun e w' => ∃ q c, e = .returned (.tuple #[A5 0 0 0 0 (.slice q 0 c), .int .i64 13]) ∧ RdN W.heap.size w' (.slice q 0 c) [] ∧ Below W.heap.size W w') := fun v u W h1 h2 h3 => two_lit10 (etwo_any 18 ⟨1, 1, 2, 0, [1, -9223372036854775808]⟩ ⟨1, 1, 2, 0, [0, -1]⟩ v u W h1 h2 h3 (by decide) (by decide) (in64_lit (by decide)) (in64_lit (by decide))) 0 0 0 0 0 [] 13 (by decide) (by rfl) rfl
  have HIe : Hid (∀ (W : World) (g : Nat), W.heap.size = g → Calls Tryd.prog 45 #[.slice (some ⟨g, 0, none⟩) 2 2] (W.alloc (.cells #[.int .i64 1, .int .i64 (-2)] 2)) fun e w' => ∃ q c, e = .returned (A5 1 1 2 0 (.slice q 2 c)) ∧ RdN (g + 1) w' (.slice q 2 c) [1, -2] ∧ Below W.heap.size W w') := fun W g hg => ints_lit [1, -2] 2 rfl (by decide) W g hg
  have HO8 : Hid (∀ (v : Value) (W : World), Ru.Lay W → RdI W.heap.size W v [1, -2] → Calls Tryd.prog 21 #[.int .i64 1, A5 1 1 2 0 v] W fun e w' => ∃ q c, e = .returned (.tuple #[A5 1 1 2 0 (.slice q 2 c), .int .i64 0]) ∧ RdN W.heap.size w' (.slice q 2 c) [-1, 2] ∧ Below W.heap.size W w') := fun v W h1 h2 => one_lit10 (eone_any 1 ⟨1, 1, 2, 0, [1, -2]⟩ v W h1 h2 (by decide) (in64_lit (by decide))) 1 1 2 0 2 [-1, 2] 0 (by decide) (by rfl) rfl
  go_enter Tryd.func15, Tryd.ntmps15
  go_wp2_with (first
    | (go_at_call 45; (with_reducible refine (HV.out _ _ (by first | rfl | simp)).mono ?_); rintro e w1 ⟨qv, cv, rfl, hu, hb⟩; have HK := Lib.hid ((HK0.out.next hb).push ⟨1, 1, 3, 0, [1, 2, 3]⟩ (u := .slice qv 3 cv) hu.rd); clear HK0 hu hb)
    | fail)
  generalize World.alloc w1 _ = W4 at HK ⊢
  generalize w1.heap.size = gv at HK ⊢
  go_cut [2, 3] (fun sp se wx => CutA w [⟨gv, ⟨1, 1, 3, 0, [1, 2, 3]⟩, .slice qv 3 cv⟩] sp se 1 1 3 0 0 3 [11, 12, 13] wx)
  case first =>
    clear HV HI97 HVc HSc HT3 HT4 HIg HT5 HIa HIb HT6 HIc HId HT7 HIe HO8
    have HAll : Hid (∀ W, Below W4.heap.size W4 W → (fun W => Below W4.heap.size W4 W ∧ W.cell? ⟨gv, 0, none⟩ = some (.int .i64 1) ∧ W.cell? ⟨gv, 1, none⟩ = some (.int .i64 1) ∧ W.cell? ⟨gv, 2, none⟩ = some (.int .i64 3) ∧ W.cell? ⟨gv, 3, none⟩ = some (.int .i64 0) ∧ W.cell? ⟨gv, 4, none⟩ = some (.slice qv 3 cv)) W) := fun W h => ⟨h, ((HK.out.next h).a _ (.head _)).c0, ((HK.out.next h).a _ (.head _)).c1, ((HK.out.next h).a _ (.head _)).c2, ((HK.out.next h).a _ (.head _)).c3, ((HK.out.next h).a _ (.head _)).c4⟩
    refine wp_region_held_drew (S := (fun W => Below W4.heap.size W4 W ∧ W.cell? ⟨gv, 0, none⟩ = some (.int .i64 1) ∧ W.cell? ⟨gv, 1, none⟩ = some (.int .i64 1) ∧ W.cell? ⟨gv, 2, none⟩ = some (.int .i64 3) ∧ W.cell? ⟨gv, 3, none⟩ = some (.int .i64 0) ∧ W.cell? ⟨gv, 4, none⟩ = some (.slice qv 3 cv))) (by kernel_rfl) ?_ (fun hHeld => ?_)
    · exact HAll.out _ (Below.refl _ _).drew
    have HB0 : Hid (Below W4.heap.size W4 (World.drew W4)) := (Below.refl _ _).drew
    generalize World.drew W4 = wd at hHeld HB0 ⊢
    refine wpAnyH_take (i := 1) (v := ?_) rfl (by kernel_rfl) (by kernel_rfl) (by kernel_rfl) (fun _ _ _ h => h) (Or.inl ⟨by rfl, ?_⟩) (by assumption) ?_
    rotate_left
    · ((intro w0 hSw); (try dsimp only at hSw); go_simp; (try with_reducible rfl))
    change wpAnyH _ _ _ _ _ _ _ (Act.put _ (some 20) _) _
    try simp only [Act.put, List.setIfInBounds_toArray, List.set_cons_zero, List.set_cons_succ]
    refine wpAnyH_ready (rs := [0, 6]) (by kernel_rfl) (by simp) ?_
    refine AllReadyH.cons rfl (fun K hK => ?_) (AllReadyH.cons rfl (fun K hK => ?_) (AllReadyH.nil))
    · go_simp
      go_at_call 46
      with_reducible refine (HI10.out _).mono ?_
      rintro e wn1 ⟨qz3, cz4, rfl, hu5, hb6⟩
      have HB2 := Lib.hid (HB0.out.trans (hb6.mono HB0.out.size))
      refine hK.out _ _ ?_ (fun hHeld2 => ?_)
      · exact HAll.out _ HB2.out
      clear hK K hHeld
      have hHeld := hHeld2; clear hHeld2
      try change wpAnyH _ _ _ _ _ _ _ (Act.put _ (some 19) _) _
      try dsimp only
      try simp only [Act.put, List.setIfInBounds_toArray, List.set_cons_zero, List.set_cons_succ]
      have HU7 := Lib.hid hu5.rd
      clear hu5 hb6
      refine wpAnyH_ready (rs := [2, 6]) (by kernel_rfl) (by simp) ?_
      refine AllReadyH.cons rfl (fun K hK => ?_) (AllReadyH.cons rfl (fun K hK => ?_) (AllReadyH.nil))
      · go_simp
        go_at_call 16
        with_reducible refine (HT2.out _ _ _ (HK.out.next HB2.out).lay HU7.out (by with_unfolding_all exact (HK.out.next HB2.out).r _ (.head _))).mono ?_
        rintro e wn8 ⟨qz10, cz11, rfl, hu12, hb13⟩
        have HB9 := Lib.hid (HB2.out.trans (hb13.mono HB2.out.size))
        refine hK.out _ _ ?_ (fun hHeld2 => ?_)
        · exact HAll.out _ HB9.out
        clear hK K hHeld
        have hHeld := hHeld2; clear hHeld2
        try change wpAnyH _ _ _ _ _ _ _ (Act.put _ (some 21) _) _
        try dsimp only
        try simp only [Act.put, List.setIfInBounds_toArray, List.set_cons_zero, List.set_cons_succ]
        have HU15 := Lib.hid (HU7.out.next hb13)
        have HU14 := Lib.hid hu12
        clear hu12 hb13
        refine wpAnyH_take (i := 3) (v := ?_) rfl (by kernel_rfl) (by kernel_rfl) (by kernel_rfl) (fun _ _ _ h => h) (Or.inl ⟨by rfl, ?_⟩) (by assumption) ?_
        rotate_left
        · ((intro w0 hSw); (try dsimp only at hSw); go_simp; (try with_reducible rfl))
        change wpAnyH _ _ _ _ _ _ _ (Act.put _ (some 18) _) _
        try simp only [Act.put, List.setIfInBounds_toArray, List.set_cons_zero, List.set_cons_succ]
        refine wpAnyH_take (i := 4) (v := ?_) rfl (by kernel_rfl) (by kernel_rfl) (by kernel_rfl) (fun _ _ _ h => h) (Or.inl ⟨by rfl, ?_⟩) (by assumption) ?_
        rotate_left
        · ((intro w0 hSw); (try dsimp only at hSw); go_simp; (try with_reducible rfl))
        change wpAnyH _ _ _ _ _ _ _ (Act.put _ (some 22) _) _
        try simp only [Act.put, List.setIfInBounds_toArray, List.set_cons_zero, List.set_cons_succ]
        refine wpAnyH_take (i := 5) (v := ?_) rfl (by kernel_rfl) (by kernel_rfl) (by kernel_rfl) (fun _ _ _ h => h) (Or.inl ⟨by rfl, ?_⟩) (by assumption) ?_
        rotate_left
        · ((intro w0 hSw); (try dsimp only at hSw); go_simp; (try with_reducible rfl))
        change wpAnyH _ _ _ _ _ _ _ (Act.put _ (some 23) _) _
        try simp only [Act.put, List.setIfInBounds_toArray, List.set_cons_zero, List.set_cons_succ]
        refine wpAnyH_ready (rs := [6]) (by kernel_rfl) (by simp) ?_
        refine AllReadyH.cons rfl (fun K hK => ?_) (AllReadyH.nil)
        go_simp
        refine hK.out _ _ ?_ (fun hHeld2 => ?_)
        · exact HAll.out _ (HB9.out.trans ((bel1 wn8 _).mono HB9.out.size))
        clear hK K hHeld
        have hHeld := hHeld2; clear hHeld2
        try change wpAnyH _ _ _ _ _ _ _ (Act.put _ (some 2) _) _
        try simp only [Act.put, List.setIfInBounds_toArray, List.set_cons_zero, List.set_cons_succ]
        generalize hwx17 : World.alloc wn8 _ = wa16 at hHeld ⊢
        have HB18 : Hid (Below W4.heap.size W4 wa16) := by rw [← hwx17]; exact HB9.out.trans ((bel1 wn8 _).mono HB9.out.size)
        have HG19 : Hid (R5 wa16 wn8.heap.size 0 0 0 0 (.slice none 0 0)) := by rw [← hwx17]; exact R5.new _ _ _ _ _ _
        have HLE20 := Lib.hid HB9.out.size
        have HU21 : Hid (RdI wa16.heap.size wa16 (.slice qz3 1 cz4) [10]) := by rw [← hwx17]; exact HU15.out.next (bel1 _ _)
        have H922 : Hid (Below wn8.heap.size wn8 wa16) := by rw [← hwx17]; exact bel1 _ _
        clear hwx17
        refine wpAnyH_ready (rs := [7]) (by kernel_rfl) (by simp) ?_
        refine AllReadyH.cons rfl (fun K hK => ?_) (AllReadyH.nil)
        have y0 := HG19.out.c0; have y1 := HG19.out.c1; have y2 := HG19.out.c2; have y3 := HG19.out.c3; have y4 := HG19.out.c4; have f0 := HG19.out.fr 0; have f1 := HG19.out.fr 1; have f2 := HG19.out.fr 2; have f3 := HG19.out.fr 3; have f4 := HG19.out.fr 4; have HS := Lib.hid (HG19.out.set 1 1 3 0 (.slice qz10 3 cz11)); have z0 := HS.out.c0; have z1 := HS.out.c1; have z2 := HS.out.c2; have z3 := HS.out.c3; have z4 := HS.out.c4
        go_simp
        refine hK.out _ _ ?_ (fun hHeld2 => ?_)
        · exact HAll.out _ (st5_below _ _ _ _ _ HLE20.out HB18.out)
        clear hK K hHeld
        have hHeld := hHeld2; clear hHeld2
        try simp only [Act.put, List.setIfInBounds_toArray, List.set_cons_zero, List.set_cons_succ]
        refine wpAnyH_take (i := 8) (v := ?_) rfl (by kernel_rfl) (by kernel_rfl) (by kernel_rfl) (fun _ _ _ h => h) (Or.inl ⟨by rfl, ?_⟩) (by assumption) ?_
        rotate_left
        · ((intro w0 hSw); (try dsimp only at hSw); go_simp; (try with_reducible rfl))
        change wpAnyH _ _ _ _ _ _ _ (Act.put _ (some 3) _) _
        try simp only [Act.put, List.setIfInBounds_toArray, List.set_cons_zero, List.set_cons_succ]
        refine wpAnyH_done (by kernel_rfl) ?_ _
        go_wp2_with fail
        go_meet
        case rel => exact ⟨wn8.heap.size, _, _, rfl, rfl, (HK.out.next (st5_below _ _ _ _ _ HLE20.out HB18.out)).add HS.out (HU14.out.rd.next (st5_below _ _ _ _ _ (Nat.le_refl _) H922.out))⟩
      · go_simp
        refine hK.out _ _ ?_ (fun hHeld2 => ?_)
        · exact HAll.out _ (HB2.out.trans ((bel1 wn1 _).mono HB2.out.size))
        clear hK K hHeld
        have hHeld := hHeld2; clear hHeld2
        try change wpAnyH _ _ _ _ _ _ _ (Act.put _ (some 2) _) _
        try simp only [Act.put, List.setIfInBounds_toArray, List.set_cons_zero, List.set_cons_succ]
        generalize hwx24 : World.alloc wn1 _ = wa23 at hHeld ⊢
        have HB25 : Hid (Below W4.heap.size W4 wa23) := by rw [← hwx24]; exact HB2.out.trans ((bel1 wn1 _).mono HB2.out.size)
        have HG26 : Hid (R5 wa23 wn1.heap.size 0 0 0 0 (.slice none 0 0)) := by rw [← hwx24]; exact R5.new _ _ _ _ _ _
        have HLE27 := Lib.hid HB2.out.size
        have HU28 : Hid (RdI wa23.heap.size wa23 (.slice qz3 1 cz4) [10]) := by rw [← hwx24]; exact HU7.out.next (bel1 _ _)
        clear hwx24
        refine wpAnyH_ready (rs := [2]) (by kernel_rfl) (by simp) ?_
        refine AllReadyH.cons rfl (fun K hK => ?_) (AllReadyH.nil)
        go_simp
        go_at_call 16
        with_reducible refine (HT2.out _ _ _ (HK.out.next HB25.out).lay HU28.out (by with_unfolding_all exact (HK.out.next HB25.out).r _ (.head _))).mono ?_
        rintro e wn29 ⟨qz31, cz32, rfl, hu33, hb34⟩
        have HB30 := Lib.hid (HB25.out.trans (hb34.mono HB25.out.size))
        refine hK.out _ _ ?_ (fun hHeld2 => ?_)
        · exact HAll.out _ HB30.out
        clear hK K hHeld
        have hHeld := hHeld2; clear hHeld2
        try change wpAnyH _ _ _ _ _ _ _ (Act.put _ (some 21) _) _
        try dsimp only
        try simp only [Act.put, List.setIfInBounds_toArray, List.set_cons_zero, List.set_cons_succ]
        have HLT36 := Lib.hid HG26.out.lt
        have HG37 := Lib.hid (HG26.out.next hb34)
        have HU38 := Lib.hid (HU28.out.next hb34)
        have HU35 := Lib.hid hu33
        clear hu33 hb34
        refine wpAnyH_take (i := 3) (v := ?_) rfl (by kernel_rfl) (by kernel_rfl) (by kernel_rfl) (fun _ _ _ h => h) (Or.inl ⟨by rfl, ?_⟩) (by assumption) ?_
        rotate_left
        · ((intro w0 hSw); (try dsimp only at hSw); go_simp; (try with_reducible rfl))
        change wpAnyH _ _ _ _ _ _ _ (Act.put _ (some 18) _) _
        try simp only [Act.put, List.setIfInBounds_toArray, List.set_cons_zero, List.set_cons_succ]
        refine wpAnyH_take (i := 4) (v := ?_) rfl (by kernel_rfl) (by kernel_rfl) (by kernel_rfl) (fun _ _ _ h => h) (Or.inl ⟨by rfl, ?_⟩) (by assumption) ?_
        rotate_left
        · ((intro w0 hSw); (try dsimp only at hSw); go_simp; (try with_reducible rfl))
        change wpAnyH _ _ _ _ _ _ _ (Act.put _ (some 22) _) _
        try simp only [Act.put, List.setIfInBounds_toArray, List.set_cons_zero, List.set_cons_succ]
        refine wpAnyH_take (i := 5) (v := ?_) rfl (by kernel_rfl) (by kernel_rfl) (by kernel_rfl) (fun _ _ _ h => h) (Or.inl ⟨by rfl, ?_⟩) (by assumption) ?_
        rotate_left
        · ((intro w0 hSw); (try dsimp only at hSw); go_simp; (try with_reducible rfl))
        change wpAnyH _ _ _ _ _ _ _ (Act.put _ (some 23) _) _
        try simp only [Act.put, List.setIfInBounds_toArray, List.set_cons_zero, List.set_cons_succ]
        refine wpAnyH_ready (rs := [7]) (by kernel_rfl) (by simp) ?_
        refine AllReadyH.cons rfl (fun K hK => ?_) (AllReadyH.nil)
        have y0 := HG37.out.c0; have y1 := HG37.out.c1; have y2 := HG37.out.c2; have y3 := HG37.out.c3; have y4 := HG37.out.c4; have f0 := HG37.out.fr 0; have f1 := HG37.out.fr 1; have f2 := HG37.out.fr 2; have f3 := HG37.out.fr 3; have f4 := HG37.out.fr 4; have HS := Lib.hid (HG37.out.set 1 1 3 0 (.slice qz31 3 cz32)); have z0 := HS.out.c0; have z1 := HS.out.c1; have z2 := HS.out.c2; have z3 := HS.out.c3; have z4 := HS.out.c4
        go_simp
        refine hK.out _ _ ?_ (fun hHeld2 => ?_)
        · exact HAll.out _ (st5_below _ _ _ _ _ HLE27.out HB30.out)
        clear hK K hHeld
        have hHeld := hHeld2; clear hHeld2
        try simp only [Act.put, List.setIfInBounds_toArray, List.set_cons_zero, List.set_cons_succ]
        refine wpAnyH_take (i := 8) (v := ?_) rfl (by kernel_rfl) (by kernel_rfl) (by kernel_rfl) (fun _ _ _ h => h) (Or.inl ⟨by rfl, ?_⟩) (by assumption) ?_
        rotate_left
        · ((intro w0 hSw); (try dsimp only at hSw); go_simp; (try with_reducible rfl))
        change wpAnyH _ _ _ _ _ _ _ (Act.put _ (some 3) _) _
        try simp only [Act.put, List.setIfInBounds_toArray, List.set_cons_zero, List.set_cons_succ]
        refine wpAnyH_done (by kernel_rfl) ?_ _
        go_wp2_with fail
        go_meet
        case rel => exact ⟨wn1.heap.size, _, _, rfl, rfl, (HK.out.next (st5_below _ _ _ _ _ HLE27.out HB30.out)).add HS.out ((HU35.out.st5 HLT36.out _ _ _ _ _).rd)⟩
    · go_simp
      refine hK.out _ _ ?_ (fun hHeld2 => ?_)
      · exact HAll.out _ (HB0.out.trans ((bel1 wd _).mono HB0.out.size))
      clear hK K hHeld
      have hHeld := hHeld2; clear hHeld2
      try change wpAnyH _ _ _ _ _ _ _ (Act.put _ (some 2) _) _
      try simp only [Act.put, List.setIfInBounds_toArray, List.set_cons_zero, List.set_cons_succ]
      generalize hwx40 : World.alloc wd _ = wa39 at hHeld ⊢
      have HB41 : Hid (Below W4.heap.size W4 wa39) := by rw [← hwx40]; exact HB0.out.trans ((bel1 wd _).mono HB0.out.size)
      have HG42 : Hid (R5 wa39 wd.heap.size 0 0 0 0 (.slice none 0 0)) := by rw [← hwx40]; exact R5.new _ _ _ _ _ _
      have HLE43 := Lib.hid HB0.out.size
      clear hwx40
      refine wpAnyH_ready (rs := [0]) (by kernel_rfl) (by simp) ?_
      refine AllReadyH.cons rfl (fun K hK => ?_) (AllReadyH.nil)
      go_simp
      go_at_call 46
      with_reducible refine (HI10.out _).mono ?_
      rintro e wn44 ⟨qz46, cz47, rfl, hu48, hb49⟩
      have HB45 := Lib.hid (HB41.out.trans (hb49.mono HB41.out.size))
      refine hK.out _ _ ?_ (fun hHeld2 => ?_)
      · exact HAll.out _ HB45.out
      clear hK K hHeld
      have hHeld := hHeld2; clear hHeld2
      try change wpAnyH _ _ _ _ _ _ _ (Act.put _ (some 19) _) _
      try dsimp only
      try simp only [Act.put, List.setIfInBounds_toArray, List.set_cons_zero, List.set_cons_succ]
      have HG51 := Lib.hid (HG42.out.next hb49)
      have HU50 := Lib.hid hu48.rd
      clear hu48 hb49
      refine wpAnyH_ready (rs := [2]) (by kernel_rfl) (by simp) ?_
      refine AllReadyH.cons rfl (fun K hK => ?_) (AllReadyH.nil)
      go_simp
      go_at_call 16
      with_reducible refine (HT2.out _ _ _ (HK.out.next HB45.out).lay HU50.out (by with_unfolding_all exact (HK.out.next HB45.out).r _ (.head _))).mono ?_
      rintro e wn52 ⟨qz54, cz55, rfl, hu56, hb57⟩
      have HB53 := Lib.hid (HB45.out.trans (hb57.mono HB45.out.size))
      refine hK.out _ _ ?_ (fun hHeld2 => ?_)
      · exact HAll.out _ HB53.out
      clear hK K hHeld
      have hHeld := hHeld2; clear hHeld2
      try change wpAnyH _ _ _ _ _ _ _ (Act.put _ (some 21) _) _
      try dsimp only
      try simp only [Act.put, List.setIfInBounds_toArray, List.set_cons_zero, List.set_cons_succ]
      have HLT59 := Lib.hid HG51.out.lt
      have HG60 := Lib.hid (HG51.out.next hb57)
      have HU61 := Lib.hid (HU50.out.next hb57)
      have HU58 := Lib.hid hu56
      clear hu56 hb57
      refine wpAnyH_take (i := 3) (v := ?_) rfl (by kernel_rfl) (by kernel_rfl) (by kernel_rfl) (fun _ _ _ h => h) (Or.inl ⟨by rfl, ?_⟩) (by assumption) ?_
      rotate_left
      · ((intro w0 hSw); (try dsimp only at hSw); go_simp; (try with_reducible rfl))
      change wpAnyH _ _ _ _ _ _ _ (Act.put _ (some 18) _) _
      try simp only [Act.put, List.setIfInBounds_toArray, List.set_cons_zero, List.set_cons_succ]
      refine wpAnyH_take (i := 4) (v := ?_) rfl (by kernel_rfl) (by kernel_rfl) (by kernel_rfl) (fun _ _ _ h => h) (Or.inl ⟨by rfl, ?_⟩) (by assumption) ?_
      rotate_left
      · ((intro w0 hSw); (try dsimp only at hSw); go_simp; (try with_reducible rfl))
      change wpAnyH _ _ _ _ _ _ _ (Act.put _ (some 22) _) _
      try simp only [Act.put, List.setIfInBounds_toArray, List.set_cons_zero, List.set_cons_succ]
      refine wpAnyH_take (i := 5) (v := ?_) rfl (by kernel_rfl) (by kernel_rfl) (by kernel_rfl) (fun _ _ _ h => h) (Or.inl ⟨by rfl, ?_⟩) (by assumption) ?_
      rotate_left
      · ((intro w0 hSw); (try dsimp only at hSw); go_simp; (try with_reducible rfl))
      change wpAnyH _ _ _ _ _ _ _ (Act.put _ (some 23) _) _
      try simp only [Act.put, List.setIfInBounds_toArray, List.set_cons_zero, List.set_cons_succ]
      refine wpAnyH_ready (rs := [7]) (by kernel_rfl) (by simp) ?_
      refine AllReadyH.cons rfl (fun K hK => ?_) (AllReadyH.nil)
      have y0 := HG60.out.c0; have y1 := HG60.out.c1; have y2 := HG60.out.c2; have y3 := HG60.out.c3; have y4 := HG60.out.c4; have f0 := HG60.out.fr 0; have f1 := HG60.out.fr 1; have f2 := HG60.out.fr 2; have f3 := HG60.out.fr 3; have f4 := HG60.out.fr 4; have HS := Lib.hid (HG60.out.set 1 1 3 0 (.slice qz54 3 cz55)); have z0 := HS.out.c0; have z1 := HS.out.c1; have z2 := HS.out.c2; have z3 := HS.out.c3; have z4 := HS.out.c4
      go_simp
      refine hK.out _ _ ?_ (fun hHeld2 => ?_)
      · exact HAll.out _ (st5_below _ _ _ _ _ HLE43.out HB53.out)
      clear hK K hHeld
      have hHeld := hHeld2; clear hHeld2
      try simp only [Act.put, List.setIfInBounds_toArray, List.set_cons_zero, List.set_cons_succ]
      refine wpAnyH_take (i := 8) (v := ?_) rfl (by kernel_rfl) (by kernel_rfl) (by kernel_rfl) (fun _ _ _ h => h) (Or.inl ⟨by rfl, ?_⟩) (by assumption) ?_
      rotate_left
      · ((intro w0 hSw); (try dsimp only at hSw); go_simp; (try with_reducible rfl))
      change wpAnyH _ _ _ _ _ _ _ (Act.put _ (some 3) _) _
      try simp only [Act.put, List.setIfInBounds_toArray, List.set_cons_zero, List.set_cons_succ]
      refine wpAnyH_done (by kernel_rfl) ?_ _
      go_wp2_with fail
      go_meet
      case rel => exact ⟨wd.heap.size, _, _, rfl, rfl, (HK.out.next (st5_below _ _ _ _ _ HLE43.out HB53.out)).add HS.out ((HU58.out.st5 HLT59.out _ _ _ _ _).rd)⟩
  case rest =>
    obtain ⟨g2, q2, c2, rfl, rfl, hk⟩ := hcut
    have HKn := Lib.hid hk
    clear HK hk
    have HK := HKn
    clear HKn
    go_wp2_with (first
      | (go_at_call 22; (with_reducible refine (HVc.out _ _ (by first | rfl | simp)).mono ?_); rintro e wz ⟨qz, cz, rfl, hu, hb⟩; have HUv := Lib.hid hu.rd; have HKn := Lib.hid (HK.out.next hb); clear HK; have HK := HKn; clear HKn; clear hu hb)
      | (go_at_call 47; (with_reducible refine (HSc.out _).mono ?_); rintro e wz' ⟨qz', cz', rfl, hu, hb⟩; have HUs := Lib.hid hu.rd; have HUw := Lib.hid (HUv.out.next hb); have HKn := Lib.hid (HK.out.next hb); clear HK; have HK := HKn; clear HKn; clear hu hb HUv)
      | (go_at_call 47; (with_reducible refine (HSc.out _).mono ?_); rintro e wz ⟨qz, cz, rfl, hu, hb⟩; have HUt := Lib.hid hu.rd; have HKn := Lib.hid (HK.out.next hb); clear HK; have HK := HKn; clear HKn; clear hu hb)
      | (go_at_call 16; (with_reducible refine (HT3.out _ _ _ HK.out.lay HUw.out HUs.out).mono ?_); rintro e wb3 ⟨q3, c3, rfl, hu, hb⟩; have HKn := Lib.hid ((HK.out.next hb).push ⟨1, 1, 3, 0, [1, 0, 1]⟩ (u := .slice q3 3 c3) hu.rd); clear HK; have HK := HKn; clear HKn; clear hu hb HUw HUs)
      | (go_at_call 46; (with_reducible refine (HI97.out _).mono ?_); rintro e wz' ⟨qz', cz', rfl, hu, hb⟩; have HUi := Lib.hid hu.rd; have HUj := Lib.hid (HUt.out.next hb); have HKn := Lib.hid (HK.out.next hb); clear HK; have HK := HKn; clear HKn; clear hu hb HUt)
      | (go_at_call 16; (with_reducible refine (HT4.out _ _ _ HK.out.lay HUj.out HUi.out).mono ?_); rintro e wb4 ⟨q4, c4, rfl, hu, hb⟩; have HKn := Lib.hid ((HK.out.next hb).push ⟨0, 0, 0, 0, []⟩ (u := .slice q4 0 c4) hu.rd); clear HK; have HK := HKn; clear HKn; clear hu hb HUi HUj)
      | fail)
    generalize World.alloc wb4 _ = W5 at HK ⊢
    generalize wb4.heap.size = g4 at HK ⊢
    generalize wb3.heap.size = g3 at HK ⊢
    go_cut [8, 9] (fun sp se wx => CutA w [⟨g4, ⟨0, 0, 0, 0, []⟩, .slice q4 0 c4⟩, ⟨g3, ⟨1, 1, 3, 0, [1, 0, 1]⟩, .slice q3 3 c3⟩, ⟨g2, ⟨1, 1, 3, 0, [11, 12, 13]⟩, .slice q2 3 c2⟩, ⟨gv, ⟨1, 1, 3, 0, [1, 2, 3]⟩, .slice qv 3 cv⟩] sp se 0 0 0 0 11 0 [] wx)
    case first =>
      clear HV HI10 HI97 HT2 HVc HSc HT3 HT4 HIa HIb HT6 HIc HId HT7 HIe HO8
      have HAll : Hid (∀ W, Below W5.heap.size W5 W → (fun W => Below W5.heap.size W5 W ∧ W.cell? ⟨gv, 0, none⟩ = some (.int .i64 1) ∧ W.cell? ⟨gv, 1, none⟩ = some (.int .i64 1) ∧ W.cell? ⟨gv, 2, none⟩ = some (.int .i64 3) ∧ W.cell? ⟨gv, 3, none⟩ = some (.int .i64 0) ∧ W.cell? ⟨gv, 4, none⟩ = some (.slice qv 3 cv)) W) := fun W h => ⟨h, ((HK.out.next h).a _ (.tail _ (.tail _ (.tail _ (.head _))))).c0, ((HK.out.next h).a _ (.tail _ (.tail _ (.tail _ (.head _))))).c1, ((HK.out.next h).a _ (.tail _ (.tail _ (.tail _ (.head _))))).c2, ((HK.out.next h).a _ (.tail _ (.tail _ (.tail _ (.head _))))).c3, ((HK.out.next h).a _ (.tail _ (.tail _ (.tail _ (.head _))))).c4⟩
      refine wp_region_held_drew (S := (fun W => Below W5.heap.size W5 W ∧ W.cell? ⟨gv, 0, none⟩ = some (.int .i64 1) ∧ W.cell? ⟨gv, 1, none⟩ = some (.int .i64 1) ∧ W.cell? ⟨gv, 2, none⟩ = some (.int .i64 3) ∧ W.cell? ⟨gv, 3, none⟩ = some (.int .i64 0) ∧ W.cell? ⟨gv, 4, none⟩ = some (.slice qv 3 cv))) (by kernel_rfl) ?_ (fun hHeld => ?_)
      · exact HAll.out _ (Below.refl _ _).drew
      have HB0 : Hid (Below W5.heap.size W5 (World.drew W5)) := (Below.refl _ _).drew
      generalize World.drew W5 = wd at hHeld HB0 ⊢
      refine wpAnyH_take (i := 2) (v := ?_) rfl (by kernel_rfl) (by kernel_rfl) (by kernel_rfl) (fun _ _ _ h => h) (Or.inl ⟨by rfl, ?_⟩) (by assumption) ?_
      rotate_left
      · ((intro w0 hSw); (try dsimp only at hSw); go_simp; (try with_reducible rfl))
      change wpAnyH _ _ _ _ _ _ _ (Act.put _ (some 40) _) _
      try simp only [Act.put, List.setIfInBounds_toArray, List.set_cons_zero, List.set_cons_succ]
      refine wpAnyH_ready (rs := [0, 7]) (by kernel_rfl) (by simp) ?_
      refine AllReadyH.cons rfl (fun K hK => ?_) (AllReadyH.cons rfl (fun K hK => ?_) (AllReadyH.nil))
      · go_simp
        refine hK.out _ _ ?_ (fun hHeld2 => ?_)
        · exact HAll.out _ (HB0.out.trans ((bel1 wd _).mono HB0.out.size))
        clear hK K hHeld
        have hHeld := hHeld2; clear hHeld2
        try change wpAnyH _ _ _ _ _ _ _ (Act.put _ (some 38) _) _
        try simp only [Act.put, List.setIfInBounds_toArray, List.set_cons_zero, List.set_cons_succ]
        generalize hwx64 : World.alloc wd _ = wn62 at hHeld ⊢
        have HB63 : Hid (Below W5.heap.size W5 wn62) := by rw [← hwx64]; exact HB0.out.trans ((bel1 wd _).mono HB0.out.size)
        have HU65 : Hid (RdI wn62.heap.size wn62 (.slice (some ⟨wd.heap.size, 0, none⟩) 2 2) [1, 2]) := by rw [← hwx64]; exact blk_rd (l := [1, 2]) rfl (by decide) (heap_alloc_last wd _)
        clear hwx64
        refine wpAnyH_ready (rs := [1, 7]) (by kernel_rfl) (by simp) ?_
        refine AllReadyH.cons rfl (fun K hK => ?_) (AllReadyH.cons rfl (fun K hK => ?_) (AllReadyH.nil))
        · go_simp
          go_at_call 45
          with_reducible refine (HIg.out _ _ HU65.out (nil_some _ _ _)).mono ?_
          rintro e wn66 ⟨qz68, cz69, rfl, hu70, hb71⟩
          have HB67 := Lib.hid (HB63.out.trans (hb71.mono HB63.out.size))
          refine hK.out _ _ ?_ (fun hHeld2 => ?_)
          · exact HAll.out _ HB67.out
          clear hK K hHeld
          have hHeld := hHeld2; clear hHeld2
          try change wpAnyH _ _ _ _ _ _ _ (Act.put _ (some 39) _) _
          try dsimp only
          try simp only [Act.put, List.setIfInBounds_toArray, List.set_cons_zero, List.set_cons_succ]
          have HU73 := Lib.hid (HU65.out.next hb71)
          have HU72 := Lib.hid hu70.rd
          clear hu70 hb71
          refine wpAnyH_ready (rs := [3, 7]) (by kernel_rfl) (by simp) ?_
          refine AllReadyH.cons rfl (fun K hK => ?_) (AllReadyH.cons rfl (fun K hK => ?_) (AllReadyH.nil))
          · go_simp
            go_at_call 16
            with_reducible refine (HT5.out _ _ _ (HK.out.next HB67.out).lay HU72.out (by with_unfolding_all exact (HK.out.next HB67.out).r _ (.tail _ (.tail _ (.tail _ (.head _)))))).mono ?_
            rintro e wn74 ⟨qz76, cz77, rfl, hu78, hb79⟩
            have HB75 := Lib.hid (HB67.out.trans (hb79.mono HB67.out.size))
            refine hK.out _ _ ?_ (fun hHeld2 => ?_)
            · exact HAll.out _ HB75.out
            clear hK K hHeld
            have hHeld := hHeld2; clear hHeld2
            try change wpAnyH _ _ _ _ _ _ _ (Act.put _ (some 41) _) _
            try dsimp only
            try simp only [Act.put, List.setIfInBounds_toArray, List.set_cons_zero, List.set_cons_succ]
            have HU81 := Lib.hid (HU73.out.next hb79)
            have HU82 := Lib.hid (HU72.out.next hb79)
            have HU80 := Lib.hid hu78
            clear hu78 hb79
            refine wpAnyH_take (i := 4) (v := ?_) rfl (by kernel_rfl) (by kernel_rfl) (by kernel_rfl) (fun _ _ _ h => h) (Or.inl ⟨by rfl, ?_⟩) (by assumption) ?_
            rotate_left
            · ((intro w0 hSw); (try dsimp only at hSw); go_simp; (try with_reducible rfl))
            change wpAnyH _ _ _ _ _ _ _ (Act.put _ (some 37) _) _
            try simp only [Act.put, List.setIfInBounds_toArray, List.set_cons_zero, List.set_cons_succ]
            refine wpAnyH_take (i := 5) (v := ?_) rfl (by kernel_rfl) (by kernel_rfl) (by kernel_rfl) (fun _ _ _ h => h) (Or.inl ⟨by rfl, ?_⟩) (by assumption) ?_
            rotate_left
            · ((intro w0 hSw); (try dsimp only at hSw); go_simp; (try with_reducible rfl))
            change wpAnyH _ _ _ _ _ _ _ (Act.put _ (some 42) _) _
            try simp only [Act.put, List.setIfInBounds_toArray, List.set_cons_zero, List.set_cons_succ]
            refine wpAnyH_take (i := 6) (v := ?_) rfl (by kernel_rfl) (by kernel_rfl) (by kernel_rfl) (fun _ _ _ h => h) (Or.inl ⟨by rfl, ?_⟩) (by assumption) ?_
            rotate_left
            · ((intro w0 hSw); (try dsimp only at hSw); go_simp; (try with_reducible rfl))
            change wpAnyH _ _ _ _ _ _ _ (Act.put _ (some 43) _) _
            try simp only [Act.put, List.setIfInBounds_toArray, List.set_cons_zero, List.set_cons_succ]
            refine wpAnyH_ready (rs := [7]) (by kernel_rfl) (by simp) ?_
            refine AllReadyH.cons rfl (fun K hK => ?_) (AllReadyH.nil)
            go_simp
            refine hK.out _ _ ?_ (fun hHeld2 => ?_)
            · exact HAll.out _ (HB75.out.trans ((bel1 wn74 _).mono HB75.out.size))
            clear hK K hHeld
            have hHeld := hHeld2; clear hHeld2
            try change wpAnyH _ _ _ _ _ _ _ (Act.put _ (some 8) _) _
            try simp only [Act.put, List.setIfInBounds_toArray, List.set_cons_zero, List.set_cons_succ]
            generalize hwx84 : World.alloc wn74 _ = wa83 at hHeld ⊢
            have HB85 : Hid (Below W5.heap.size W5 wa83) := by rw [← hwx84]; exact HB75.out.trans ((bel1 wn74 _).mono HB75.out.size)
            have HG86 : Hid (R5 wa83 wn74.heap.size 0 0 0 0 (.slice none 0 0)) := by rw [← hwx84]; exact R5.new _ _ _ _ _ _
            have HLE87 := Lib.hid HB75.out.size
            have HU88 : Hid (RdI wa83.heap.size wa83 (.slice (some ⟨wd.heap.size, 0, none⟩) 2 2) [1, 2]) := by rw [← hwx84]; exact HU81.out.next (bel1 _ _)
            have HU89 : Hid (RdI wa83.heap.size wa83 (.slice qz68 2 cz69) [1, 2]) := by rw [← hwx84]; exact HU82.out.next (bel1 _ _)
            have H990 : Hid (Below wn74.heap.size wn74 wa83) := by rw [← hwx84]; exact bel1 _ _
            clear hwx84
            refine wpAnyH_ready (rs := [8]) (by kernel_rfl) (by simp) ?_
            refine AllReadyH.cons rfl (fun K hK => ?_) (AllReadyH.nil)
            have y0 := HG86.out.c0; have y1 := HG86.out.c1; have y2 := HG86.out.c2; have y3 := HG86.out.c3; have y4 := HG86.out.c4; have f0 := HG86.out.fr 0; have f1 := HG86.out.fr 1; have f2 := HG86.out.fr 2; have f3 := HG86.out.fr 3; have f4 := HG86.out.fr 4; have HS := Lib.hid (HG86.out.set 0 0 0 0 (.slice qz76 0 cz77)); have z0 := HS.out.c0; have z1 := HS.out.c1; have z2 := HS.out.c2; have z3 := HS.out.c3; have z4 := HS.out.c4
            go_simp
            refine hK.out _ _ ?_ (fun hHeld2 => ?_)
            · exact HAll.out _ (st5_below _ _ _ _ _ HLE87.out HB85.out)
            clear hK K hHeld
            have hHeld := hHeld2; clear hHeld2
            try simp only [Act.put, List.setIfInBounds_toArray, List.set_cons_zero, List.set_cons_succ]
            refine wpAnyH_take (i := 9) (v := ?_) rfl (by kernel_rfl) (by kernel_rfl) (by kernel_rfl) (fun _ _ _ h => h) (Or.inl ⟨by rfl, ?_⟩) (by assumption) ?_
            rotate_left
            · ((intro w0 hSw); (try dsimp only at hSw); go_simp; (try with_reducible rfl))
            change wpAnyH _ _ _ _ _ _ _ (Act.put _ (some 9) _) _
            try simp only [Act.put, List.setIfInBounds_toArray, List.set_cons_zero, List.set_cons_succ]
            refine wpAnyH_done (by kernel_rfl) ?_ _
            go_wp2_with fail
            go_meet
            case rel => exact ⟨wn74.heap.size, _, _, rfl, rfl, (HK.out.next (st5_below _ _ _ _ _ HLE87.out HB85.out)).add HS.out (HU80.out.rd.next (st5_below _ _ _ _ _ (Nat.le_refl _) H990.out))⟩
          · go_simp
            refine hK.out _ _ ?_ (fun hHeld2 => ?_)
            · exact HAll.out _ (HB67.out.trans ((bel1 wn66 _).mono HB67.out.size))
            clear hK K hHeld
            have hHeld := hHeld2; clear hHeld2
            try change wpAnyH _ _ _ _ _ _ _ (Act.put _ (some 8) _) _
            try simp only [Act.put, List.setIfInBounds_toArray, List.set_cons_zero, List.set_cons_succ]
            generalize hwx92 : World.alloc wn66 _ = wa91 at hHeld ⊢
            have HB93 : Hid (Below W5.heap.size W5 wa91) := by rw [← hwx92]; exact HB67.out.trans ((bel1 wn66 _).mono HB67.out.size)
            have HG94 : Hid (R5 wa91 wn66.heap.size 0 0 0 0 (.slice none 0 0)) := by rw [← hwx92]; exact R5.new _ _ _ _ _ _
            have HLE95 := Lib.hid HB67.out.size
            have HU96 : Hid (RdI wa91.heap.size wa91 (.slice (some ⟨wd.heap.size, 0, none⟩) 2 2) [1, 2]) := by rw [← hwx92]; exact HU73.out.next (bel1 _ _)
            have HU97 : Hid (RdI wa91.heap.size wa91 (.slice qz68 2 cz69) [1, 2]) := by rw [← hwx92]; exact HU72.out.next (bel1 _ _)
            clear hwx92
            refine wpAnyH_ready (rs := [3]) (by kernel_rfl) (by simp) ?_
            refine AllReadyH.cons rfl (fun K hK => ?_) (AllReadyH.nil)
            go_simp
            go_at_call 16
            with_reducible refine (HT5.out _ _ _ (HK.out.next HB93.out).lay HU97.out (by with_unfolding_all exact (HK.out.next HB93.out).r _ (.tail _ (.tail _ (.tail _ (.head _)))))).mono ?_
            rintro e wn98 ⟨qz100, cz101, rfl, hu102, hb103⟩
            have HB99 := Lib.hid (HB93.out.trans (hb103.mono HB93.out.size))
            refine hK.out _ _ ?_ (fun hHeld2 => ?_)
            · exact HAll.out _ HB99.out
            clear hK K hHeld
            have hHeld := hHeld2; clear hHeld2
            try change wpAnyH _ _ _ _ _ _ _ (Act.put _ (some 41) _) _
            try dsimp only
            try simp only [Act.put, List.setIfInBounds_toArray, List.set_cons_zero, List.set_cons_succ]
            have HLT105 := Lib.hid HG94.out.lt
            have HG106 := Lib.hid (HG94.out.next hb103)
            have HU107 := Lib.hid (HU96.out.next hb103)
            have HU108 := Lib.hid (HU97.out.next hb103)
            have HU104 := Lib.hid hu102
            clear hu102 hb103
            refine wpAnyH_take (i := 4) (v := ?_) rfl (by kernel_rfl) (by kernel_rfl) (by kernel_rfl) (fun _ _ _ h => h) (Or.inl ⟨by rfl, ?_⟩) (by assumption) ?_
            rotate_left
            · ((intro w0 hSw); (try dsimp only at hSw); go_simp; (try with_reducible rfl))
            change wpAnyH _ _ _ _ _ _ _ (Act.put _ (some 37) _) _
            try simp only [Act.put, List.setIfInBounds_toArray, List.set_cons_zero, List.set_cons_succ]
            refine wpAnyH_take (i := 5) (v := ?_) rfl (by kernel_rfl) (by kernel_rfl) (by kernel_rfl) (fun _ _ _ h => h) (Or.inl ⟨by rfl, ?_⟩) (by assumption) ?_
            rotate_left
            · ((intro w0 hSw); (try dsimp only at hSw); go_simp; (try with_reducible rfl))
            change wpAnyH _ _ _ _ _ _ _ (Act.put _ (some 42) _) _
            try simp only [Act.put, List.setIfInBounds_toArray, List.set_cons_zero, List.set_cons_succ]
            refine wpAnyH_take (i := 6) (v := ?_) rfl (by kernel_rfl) (by kernel_rfl) (by kernel_rfl) (fun _ _ _ h => h) (Or.inl ⟨by rfl, ?_⟩) (by assumption) ?_
            rotate_left
            · ((intro w0 hSw); (try dsimp only at hSw); go_simp; (try with_reducible rfl))
            change wpAnyH _ _ _ _ _ _ _ (Act.put _ (some 43) _) _
            try simp only [Act.put, List.setIfInBounds_toArray, List.set_cons_zero, List.set_cons_succ]
            refine wpAnyH_ready (rs := [8]) (by kernel_rfl) (by simp) ?_
            refine AllReadyH.cons rfl (fun K hK => ?_) (AllReadyH.nil)
            have y0 := HG106.out.c0; have y1 := HG106.out.c1; have y2 := HG106.out.c2; have y3 := HG106.out.c3; have y4 := HG106.out.c4; have f0 := HG106.out.fr 0; have f1 := HG106.out.fr 1; have f2 := HG106.out.fr 2; have f3 := HG106.out.fr 3; have f4 := HG106.out.fr 4; have HS := Lib.hid (HG106.out.set 0 0 0 0 (.slice qz100 0 cz101)); have z0 := HS.out.c0; have z1 := HS.out.c1; have z2 := HS.out.c2; have z3 := HS.out.c3; have z4 := HS.out.c4
            go_simp
            refine hK.out _ _ ?_ (fun hHeld2 => ?_)
            · exact HAll.out _ (st5_below _ _ _ _ _ HLE95.out HB99.out)
            clear hK K hHeld
            have hHeld := hHeld2; clear hHeld2
            try simp only [Act.put, List.setIfInBounds_toArray, List.set_cons_zero, List.set_cons_succ]
            refine wpAnyH_take (i := 9) (v := ?_) rfl (by kernel_rfl) (by kernel_rfl) (by kernel_rfl) (fun _ _ _ h => h) (Or.inl ⟨by rfl, ?_⟩) (by assumption) ?_
            rotate_left
            · ((intro w0 hSw); (try dsimp only at hSw); go_simp; (try with_reducible rfl))
            change wpAnyH _ _ _ _ _ _ _ (Act.put _ (some 9) _) _
            try simp only [Act.put, List.setIfInBounds_toArray, List.set_cons_zero, List.set_cons_succ]
            refine wpAnyH_done (by kernel_rfl) ?_ _
            go_wp2_with fail
            go_meet
            case rel => exact ⟨wn66.heap.size, _, _, rfl, rfl, (HK.out.next (st5_below _ _ _ _ _ HLE95.out HB99.out)).add HS.out ((HU104.out.st5 HLT105.out _ _ _ _ _).rd)⟩
        · go_simp
          refine hK.out _ _ ?_ (fun hHeld2 => ?_)
          · exact HAll.out _ (HB63.out.trans ((bel1 wn62 _).mono HB63.out.size))
          clear hK K hHeld
          have hHeld := hHeld2; clear hHeld2
          try change wpAnyH _ _ _ _ _ _ _ (Act.put _ (some 8) _) _
          try simp only [Act.put, List.setIfInBounds_toArray, List.set_cons_zero, List.set_cons_succ]
          generalize hwx110 : World.alloc wn62 _ = wa109 at hHeld ⊢
          have HB111 : Hid (Below W5.heap.size W5 wa109) := by rw [← hwx110]; exact HB63.out.trans ((bel1 wn62 _).mono HB63.out.size)
          have HG112 : Hid (R5 wa109 wn62.heap.size 0 0 0 0 (.slice none 0 0)) := by rw [← hwx110]; exact R5.new _ _ _ _ _ _
          have HLE113 := Lib.hid HB63.out.size
          have HU114 : Hid (RdI wa109.heap.size wa109 (.slice (some ⟨wd.heap.size, 0, none⟩) 2 2) [1, 2]) := by rw [← hwx110]; exact HU65.out.next (bel1 _ _)
          clear hwx110
          refine wpAnyH_ready (rs := [1]) (by kernel_rfl) (by simp) ?_
          refine AllReadyH.cons rfl (fun K hK => ?_) (AllReadyH.nil)
          go_simp
          go_at_call 45
          with_reducible refine (HIg.out _ _ HU114.out (nil_some _ _ _)).mono ?_
          rintro e wn115 ⟨qz117, cz118, rfl, hu119, hb120⟩
          have HB116 := Lib.hid (HB111.out.trans (hb120.mono HB111.out.size))
          refine hK.out _ _ ?_ (fun hHeld2 => ?_)
          · exact HAll.out _ HB116.out
          clear hK K hHeld
          have hHeld := hHeld2; clear hHeld2
          try change wpAnyH _ _ _ _ _ _ _ (Act.put _ (some 39) _) _
          try dsimp only
          try simp only [Act.put, List.setIfInBounds_toArray, List.set_cons_zero, List.set_cons_succ]
          have HG122 := Lib.hid (HG112.out.next hb120)
          have HU123 := Lib.hid (HU114.out.next hb120)
          have HU121 := Lib.hid hu119.rd
          clear hu119 hb120
          refine wpAnyH_ready (rs := [3]) (by kernel_rfl) (by simp) ?_
          refine AllReadyH.cons rfl (fun K hK => ?_) (AllReadyH.nil)
          go_simp
          go_at_call 16
          with_reducible refine (HT5.out _ _ _ (HK.out.next HB116.out).lay HU121.out (by with_unfolding_all exact (HK.out.next HB116.out).r _ (.tail _ (.tail _ (.tail _ (.head _)))))).mono ?_
          rintro e wn124 ⟨qz126, cz127, rfl, hu128, hb129⟩
          have HB125 := Lib.hid (HB116.out.trans (hb129.mono HB116.out.size))
          refine hK.out _ _ ?_ (fun hHeld2 => ?_)
          · exact HAll.out _ HB125.out
          clear hK K hHeld
          have hHeld := hHeld2; clear hHeld2
          try change wpAnyH _ _ _ _ _ _ _ (Act.put _ (some 41) _) _
          try dsimp only
          try simp only [Act.put, List.setIfInBounds_toArray, List.set_cons_zero, List.set_cons_succ]
          have HLT131 := Lib.hid HG122.out.lt
          have HG132 := Lib.hid (HG122.out.next hb129)
          have HU133 := Lib.hid (HU123.out.next hb129)
          have HU134 := Lib.hid (HU121.out.next hb129)
          have HU130 := Lib.hid hu128
          clear hu128 hb129
          refine wpAnyH_take (i := 4) (v := ?_) rfl (by kernel_rfl) (by kernel_rfl) (by kernel_rfl) (fun _ _ _ h => h) (Or.inl ⟨by rfl, ?_⟩) (by assumption) ?_
          rotate_left
          · ((intro w0 hSw); (try dsimp only at hSw); go_simp; (try with_reducible rfl))
          change wpAnyH _ _ _ _ _ _ _ (Act.put _ (some 37) _) _
          try simp only [Act.put, List.setIfInBounds_toArray, List.set_cons_zero, List.set_cons_succ]
          refine wpAnyH_take (i := 5) (v := ?_) rfl (by kernel_rfl) (by kernel_rfl) (by kernel_rfl) (fun _ _ _ h => h) (Or.inl ⟨by rfl, ?_⟩) (by assumption) ?_
          rotate_left
          · ((intro w0 hSw); (try dsimp only at hSw); go_simp; (try with_reducible rfl))
          change wpAnyH _ _ _ _ _ _ _ (Act.put _ (some 42) _) _
          try simp only [Act.put, List.setIfInBounds_toArray, List.set_cons_zero, List.set_cons_succ]
          refine wpAnyH_take (i := 6) (v := ?_) rfl (by kernel_rfl) (by kernel_rfl) (by kernel_rfl) (fun _ _ _ h => h) (Or.inl ⟨by rfl, ?_⟩) (by assumption) ?_
          rotate_left
          · ((intro w0 hSw); (try dsimp only at hSw); go_simp; (try with_reducible rfl))
          change wpAnyH _ _ _ _ _ _ _ (Act.put _ (some 43) _) _
          try simp only [Act.put, List.setIfInBounds_toArray, List.set_cons_zero, List.set_cons_succ]
          refine wpAnyH_ready (rs := [8]) (by kernel_rfl) (by simp) ?_
          refine AllReadyH.cons rfl (fun K hK => ?_) (AllReadyH.nil)
          have y0 := HG132.out.c0; have y1 := HG132.out.c1; have y2 := HG132.out.c2; have y3 := HG132.out.c3; have y4 := HG132.out.c4; have f0 := HG132.out.fr 0; have f1 := HG132.out.fr 1; have f2 := HG132.out.fr 2; have f3 := HG132.out.fr 3; have f4 := HG132.out.fr 4; have HS := Lib.hid (HG132.out.set 0 0 0 0 (.slice qz126 0 cz127)); have z0 := HS.out.c0; have z1 := HS.out.c1; have z2 := HS.out.c2; have z3 := HS.out.c3; have z4 := HS.out.c4
          go_simp
          refine hK.out _ _ ?_ (fun hHeld2 => ?_)
          · exact HAll.out _ (st5_below _ _ _ _ _ HLE113.out HB125.out)
          clear hK K hHeld
          have hHeld := hHeld2; clear hHeld2
          try simp only [Act.put, List.setIfInBounds_toArray, List.set_cons_zero, List.set_cons_succ]
          refine wpAnyH_take (i := 9) (v := ?_) rfl (by kernel_rfl) (by kernel_rfl) (by kernel_rfl) (fun _ _ _ h => h) (Or.inl ⟨by rfl, ?_⟩) (by assumption) ?_
          rotate_left
          · ((intro w0 hSw); (try dsimp only at hSw); go_simp; (try with_reducible rfl))
          change wpAnyH _ _ _ _ _ _ _ (Act.put _ (some 9) _) _
          try simp only [Act.put, List.setIfInBounds_toArray, List.set_cons_zero, List.set_cons_succ]
          refine wpAnyH_done (by kernel_rfl) ?_ _
          go_wp2_with fail
          go_meet
          case rel => exact ⟨wn62.heap.size, _, _, rfl, rfl, (HK.out.next (st5_below _ _ _ _ _ HLE113.out HB125.out)).add HS.out ((HU130.out.st5 HLT131.out _ _ _ _ _).rd)⟩
      · go_simp
        refine hK.out _ _ ?_ (fun hHeld2 => ?_)
        · exact HAll.out _ (HB0.out.trans ((bel1 wd _).mono HB0.out.size))
        clear hK K hHeld
        have hHeld := hHeld2; clear hHeld2
        try change wpAnyH _ _ _ _ _ _ _ (Act.put _ (some 8) _) _
        try simp only [Act.put, List.setIfInBounds_toArray, List.set_cons_zero, List.set_cons_succ]
        generalize hwx136 : World.alloc wd _ = wa135 at hHeld ⊢
        have HB137 : Hid (Below W5.heap.size W5 wa135) := by rw [← hwx136]; exact HB0.out.trans ((bel1 wd _).mono HB0.out.size)
        have HG138 : Hid (R5 wa135 wd.heap.size 0 0 0 0 (.slice none 0 0)) := by rw [← hwx136]; exact R5.new _ _ _ _ _ _
        have HLE139 := Lib.hid HB0.out.size
        clear hwx136
        refine wpAnyH_ready (rs := [0]) (by kernel_rfl) (by simp) ?_
        refine AllReadyH.cons rfl (fun K hK => ?_) (AllReadyH.nil)
        go_simp
        refine hK.out _ _ ?_ (fun hHeld2 => ?_)
        · exact HAll.out _ (HB137.out.trans ((bel1 wa135 _).mono HB137.out.size))
        clear hK K hHeld
        have hHeld := hHeld2; clear hHeld2
        try change wpAnyH _ _ _ _ _ _ _ (Act.put _ (some 38) _) _
        try simp only [Act.put, List.setIfInBounds_toArray, List.set_cons_zero, List.set_cons_succ]
        generalize hwx142 : World.alloc wa135 _ = wn140 at hHeld ⊢
        have HB141 : Hid (Below W5.heap.size W5 wn140) := by rw [← hwx142]; exact HB137.out.trans ((bel1 wa135 _).mono HB137.out.size)
        have HU143 : Hid (RdI wn140.heap.size wn140 (.slice (some ⟨wa135.heap.size, 0, none⟩) 2 2) [1, 2]) := by rw [← hwx142]; exact blk_rd (l := [1, 2]) rfl (by decide) (heap_alloc_last wa135 _)
        have HG144 : Hid (R5 wn140 wd.heap.size 0 0 0 0 (.slice none 0 0)) := by rw [← hwx142]; exact HG138.out.next (bel1 _ _)
        clear hwx142
        refine wpAnyH_ready (rs := [1]) (by kernel_rfl) (by simp) ?_
        refine AllReadyH.cons rfl (fun K hK => ?_) (AllReadyH.nil)
        go_simp
        go_at_call 45
        with_reducible refine (HIg.out _ _ HU143.out (nil_some _ _ _)).mono ?_
        rintro e wn145 ⟨qz147, cz148, rfl, hu149, hb150⟩
        have HB146 := Lib.hid (HB141.out.trans (hb150.mono HB141.out.size))
        refine hK.out _ _ ?_ (fun hHeld2 => ?_)
        · exact HAll.out _ HB146.out
        clear hK K hHeld
        have hHeld := hHeld2; clear hHeld2
        try change wpAnyH _ _ _ _ _ _ _ (Act.put _ (some 39) _) _
        try dsimp only
        try simp only [Act.put, List.setIfInBounds_toArray, List.set_cons_zero, List.set_cons_succ]
        have HG152 := Lib.hid (HG144.out.next hb150)
        have HU153 := Lib.hid (HU143.out.next hb150)
        have HU151 := Lib.hid hu149.rd
        clear hu149 hb150
        refine wpAnyH_ready (rs := [3]) (by kernel_rfl) (by simp) ?_
        refine AllReadyH.cons rfl (fun K hK => ?_) (AllReadyH.nil)
        go_simp
        go_at_call 16
        with_reducible refine (HT5.out _ _ _ (HK.out.next HB146.out).lay HU151.out (by with_unfolding_all exact (HK.out.next HB146.out).r _ (.tail _ (.tail _ (.tail _ (.head _)))))).mono ?_
        rintro e wn154 ⟨qz156, cz157, rfl, hu158, hb159⟩
        have HB155 := Lib.hid (HB146.out.trans (hb159.mono HB146.out.size))
        refine hK.out _ _ ?_ (fun hHeld2 => ?_)
        · exact HAll.out _ HB155.out
        clear hK K hHeld
        have hHeld := hHeld2; clear hHeld2
        try change wpAnyH _ _ _ _ _ _ _ (Act.put _ (some 41) _) _
        try dsimp only
        try simp only [Act.put, List.setIfInBounds_toArray, List.set_cons_zero, List.set_cons_succ]
        have HLT161 := Lib.hid HG152.out.lt
        have HG162 := Lib.hid (HG152.out.next hb159)
        have HU163 := Lib.hid (HU153.out.next hb159)
        have HU164 := Lib.hid (HU151.out.next hb159)
        have HU160 := Lib.hid hu158
        clear hu158 hb159
        refine wpAnyH_take (i := 4) (v := ?_) rfl (by kernel_rfl) (by kernel_rfl) (by kernel_rfl) (fun _ _ _ h => h) (Or.inl ⟨by rfl, ?_⟩) (by assumption) ?_
        rotate_left
        · ((intro w0 hSw); (try dsimp only at hSw); go_simp; (try with_reducible rfl))
        change wpAnyH _ _ _ _ _ _ _ (Act.put _ (some 37) _) _
        try simp only [Act.put, List.setIfInBounds_toArray, List.set_cons_zero, List.set_cons_succ]
        refine wpAnyH_take (i := 5) (v := ?_) rfl (by kernel_rfl) (by kernel_rfl) (by kernel_rfl) (fun _ _ _ h => h) (Or.inl ⟨by rfl, ?_⟩) (by assumption) ?_
        rotate_left
        · ((intro w0 hSw); (try dsimp only at hSw); go_simp; (try with_reducible rfl))
        change wpAnyH _ _ _ _ _ _ _ (Act.put _ (some 42) _) _
        try simp only [Act.put, List.setIfInBounds_toArray, List.set_cons_zero, List.set_cons_succ]
        refine wpAnyH_take (i := 6) (v := ?_) rfl (by kernel_rfl) (by kernel_rfl) (by kernel_rfl) (fun _ _ _ h => h) (Or.inl ⟨by rfl, ?_⟩) (by assumption) ?_
        rotate_left
        · ((intro w0 hSw); (try dsimp only at hSw); go_simp; (try with_reducible rfl))
        change wpAnyH _ _ _ _ _ _ _ (Act.put _ (some 43) _) _
        try simp only [Act.put, List.setIfInBounds_toArray, List.set_cons_zero, List.set_cons_succ]
        refine wpAnyH_ready (rs := [8]) (by kernel_rfl) (by simp) ?_
        refine AllReadyH.cons rfl (fun K hK => ?_) (AllReadyH.nil)
        have y0 := HG162.out.c0; have y1 := HG162.out.c1; have y2 := HG162.out.c2; have y3 := HG162.out.c3; have y4 := HG162.out.c4; have f0 := HG162.out.fr 0; have f1 := HG162.out.fr 1; have f2 := HG162.out.fr 2; have f3 := HG162.out.fr 3; have f4 := HG162.out.fr 4; have HS := Lib.hid (HG162.out.set 0 0 0 0 (.slice qz156 0 cz157)); have z0 := HS.out.c0; have z1 := HS.out.c1; have z2 := HS.out.c2; have z3 := HS.out.c3; have z4 := HS.out.c4
        go_simp
        refine hK.out _ _ ?_ (fun hHeld2 => ?_)
        · exact HAll.out _ (st5_below _ _ _ _ _ HLE139.out HB155.out)
        clear hK K hHeld
        have hHeld := hHeld2; clear hHeld2
        try simp only [Act.put, List.setIfInBounds_toArray, List.set_cons_zero, List.set_cons_succ]
        refine wpAnyH_take (i := 9) (v := ?_) rfl (by kernel_rfl) (by kernel_rfl) (by kernel_rfl) (fun _ _ _ h => h) (Or.inl ⟨by rfl, ?_⟩) (by assumption) ?_
        rotate_left
        · ((intro w0 hSw); (try dsimp only at hSw); go_simp; (try with_reducible rfl))
        change wpAnyH _ _ _ _ _ _ _ (Act.put _ (some 9) _) _
        try simp only [Act.put, List.setIfInBounds_toArray, List.set_cons_zero, List.set_cons_succ]
        refine wpAnyH_done (by kernel_rfl) ?_ _
        go_wp2_with fail
        go_meet
        case rel => exact ⟨wd.heap.size, _, _, rfl, rfl, (HK.out.next (st5_below _ _ _ _ _ HLE139.out HB155.out)).add HS.out ((HU160.out.st5 HLT161.out _ _ _ _ _).rd)⟩
    case rest =>
      obtain ⟨g5, q5, c5, rfl, rfl, hk⟩ := hcut
      have HKn := Lib.hid hk
      clear HK hk
      have HK := HKn
      clear HKn
      go_wp2_with (first
        | (go_at_call 45; (with_reducible refine (HIa.out _ _ (by first | rfl | simp)).mono ?_); rintro e wza ⟨qza, cza, rfl, hu, hb⟩; have HU1 := Lib.hid hu.rd; have HKn := Lib.hid (HK.out.next hb); clear HK; have HK := HKn; clear HKn; clear hu hb)
        | (go_at_call 45; (with_reducible refine (HIb.out _ _ (by first | rfl | simp)).mono ?_); rintro e wzb ⟨qzb, czb, rfl, hu, hb⟩; have HU2 := Lib.hid hu.rd; have HU3 := Lib.hid (HU1.out.next hb); have HKn := Lib.hid (HK.out.next hb); clear HK; have HK := HKn; clear HKn; clear hu hb HU1)
        | (go_at_call 16; (with_reducible refine (HT6.out _ _ _ HK.out.lay HU3.out HU2.out).mono ?_); rintro e wb6 ⟨q6, c6, rfl, hu, hb⟩; have HKn := Lib.hid ((HK.out.next hb).push ⟨0, 0, 0, 0, []⟩ (u := .slice q6 0 c6) hu.rd); clear HK; have HK := HKn; clear HKn; clear hu hb HU2 HU3)
        | (go_at_call 45; (with_reducible refine (HIc.out _ _ (by first | rfl | simp)).mono ?_); rintro e wzc ⟨qzc, czc, rfl, hu, hb⟩; have HU4 := Lib.hid hu.rd; have HKn := Lib.hid (HK.out.next hb); clear HK; have HK := HKn; clear HKn; clear hu hb)
        | (go_at_call 45; (with_reducible refine (HId.out _ _ (by first | rfl | simp)).mono ?_); rintro e wzd ⟨qzd, czd, rfl, hu, hb⟩; have HU5 := Lib.hid hu.rd; have HU6 := Lib.hid (HU4.out.next hb); have HKn := Lib.hid (HK.out.next hb); clear HK; have HK := HKn; clear HKn; clear hu hb HU4)
        | (go_at_call 16; (with_reducible refine (HT7.out _ _ _ HK.out.lay HU6.out HU5.out).mono ?_); rintro e wb7 ⟨q7, c7, rfl, hu, hb⟩; have HKn := Lib.hid ((HK.out.next hb).push ⟨0, 0, 0, 0, []⟩ (u := .slice q7 0 c7) hu.rd); clear HK; have HK := HKn; clear HKn; clear hu hb HU5 HU6)
        | (go_at_call 45; (with_reducible refine (HIe.out _ _ (by first | rfl | simp)).mono ?_); rintro e wze ⟨qze, cze, rfl, hu, hb⟩; have HU7 := Lib.hid hu.rd; have HKn := Lib.hid (HK.out.next hb); clear HK; have HK := HKn; clear HKn; clear hu hb)
        | (go_at_call 21; (with_reducible refine (HO8.out _ _ HK.out.lay HU7.out).mono ?_); rintro e wb8 ⟨q8, c8, rfl, hu, hb⟩; have HKn := Lib.hid ((HK.out.next hb).push ⟨1, 1, 2, 0, [-1, 2]⟩ (u := .slice q8 2 c8) hu.rd); clear HK; have HK := HKn; clear HKn; clear hu hb HU7)
        | fail)
      generalize hW9 : World.alloc wb8 _ = W9 at HK ⊢
      clear hW9
      generalize wb8.heap.size = g8 at HK ⊢
      generalize wb7.heap.size = g7 at HK ⊢
      generalize wb6.heap.size = g6 at HK ⊢
      clear HV HI10 HI97 HT2 HVc HSc HT3 HT4 HIg HT5 HIa HIb HT6 HIc HId HT7 HIe HO8
      have HI9a : Hid (∀ (W : World) (g : Nat), W.heap.size = g → Calls Tryd.prog 45 #[.slice (some ⟨g, 0, none⟩) 3 3] ((W.alloc (.cells #[.int .i64 11, .int .i64 12, .int .i64 13] 2))) fun e w' => ∃ q c, e = .returned (A5 1 1 3 0 (.slice q 3 c)) ∧ RdN ((W.alloc (.cells #[.int .i64 11, .int .i64 12, .int .i64 13] 2))).heap.size w' (.slice q 3 c) [11, 12, 13] ∧ Below ((W.alloc (.cells #[.int .i64 11, .int .i64 12, .int .i64 13] 2))).heap.size ((W.alloc (.cells #[.int .i64 11, .int .i64 12, .int .i64 13] 2))) w') := fun W g hg => by subst hg; exact ints_gen [11, 12, 13] 3 rfl (by decide) _ _ (blk_rd (l := [11, 12, 13]) rfl (by decide) (heap_alloc_last W _)) (nil_some _ _ _)
      have HI9ad : Hid (∀ (W : World) (g : Nat), W.heap.size = g → Calls Tryd.prog 45 #[.slice (some ⟨g, 0, none⟩) 3 3] ((W.alloc (.cells #[.int .i64 11, .int .i64 12, .int .i64 13] 2)).drew) fun e w' => ∃ q c, e = .returned (A5 1 1 3 0 (.slice q 3 c)) ∧ RdN ((W.alloc (.cells #[.int .i64 11, .int .i64 12, .int .i64 13] 2)).drew).heap.size w' (.slice q 3 c) [11, 12, 13] ∧ Below ((W.alloc (.cells #[.int .i64 11, .int .i64 12, .int .i64 13] 2)).drew).heap.size ((W.alloc (.cells #[.int .i64 11, .int .i64 12, .int .i64 13] 2)).drew) w') := fun W g hg => by subst hg; exact ints_gen [11, 12, 13] 3 rfl (by decide) _ _ ((blk_rd (l := [11, 12, 13]) rfl (by decide) (heap_alloc_last W _)).next (Below.refl _ _).drew) (nil_some _ _ _)
      have HS_g2 : Hid (∀ (v u : Value) (W : World), RdI W.heap.size W v [11, 12, 13] → RdI W.heap.size W u [11, 12, 13] → Calls Tryd.prog 24 #[A5 1 1 3 0 v, .int .i64 0, A5 1 1 3 0 u] W fun e w' => e = .returned (.bool true) ∧ Below W.heap.size W w') := fun v u W h1 h2 => is10_eq ⟨1, 1, 3, 0, [11, 12, 13]⟩ v u W h1 h2 (by decide)
      have HI9b : Hid (∀ (W : World) (g : Nat), W.heap.size = g → Calls Tryd.prog 45 #[.slice (some ⟨g, 0, none⟩) 3 3] ((W.alloc (.cells #[.int .i64 1, .int .i64 0, .int .i64 1] 2))) fun e w' => ∃ q c, e = .returned (A5 1 1 3 0 (.slice q 3 c)) ∧ RdN ((W.alloc (.cells #[.int .i64 1, .int .i64 0, .int .i64 1] 2))).heap.size w' (.slice q 3 c) [1, 0, 1] ∧ Below ((W.alloc (.cells #[.int .i64 1, .int .i64 0, .int .i64 1] 2))).heap.size ((W.alloc (.cells #[.int .i64 1, .int .i64 0, .int .i64 1] 2))) w') := fun W g hg => by subst hg; exact ints_gen [1, 0, 1] 3 rfl (by decide) _ _ (blk_rd (l := [1, 0, 1]) rfl (by decide) (heap_alloc_last W _)) (nil_some _ _ _)
      have HS_g3 : Hid (∀ (v u : Value) (W : World), RdI W.heap.size W v [1, 0, 1] → RdI W.heap.size W u [1, 0, 1] → Calls Tryd.prog 24 #[A5 1 1 3 0 v, .int .i64 0, A5 1 1 3 0 u] W fun e w' => e = .returned (.bool true) ∧ Below W.heap.size W w') := fun v u W h1 h2 => is10_eq ⟨1, 1, 3, 0, [1, 0, 1]⟩ v u W h1 h2 (by decide)
      have HI9c : Hid (∀ (W : World) (g : Nat), W.heap.size = g → Calls Tryd.prog 45 #[.slice (some ⟨g, 0, none⟩) 2 2] ((W.alloc (.cells #[.int .i64 (-1), .int .i64 2] 2))) fun e w' => ∃ q c, e = .returned (A5 1 1 2 0 (.slice q 2 c)) ∧ RdN ((W.alloc (.cells #[.int .i64 (-1), .int .i64 2] 2))).heap.size w' (.slice q 2 c) [-1, 2] ∧ Below ((W.alloc (.cells #[.int .i64 (-1), .int .i64 2] 2))).heap.size ((W.alloc (.cells #[.int .i64 (-1), .int .i64 2] 2))) w') := fun W g hg => by subst hg; exact ints_gen [-1, 2] 2 rfl (by decide) _ _ (blk_rd (l := [-1, 2]) rfl (by decide) (heap_alloc_last W _)) (nil_some _ _ _)
      have HS_g8 : Hid (∀ (v u : Value) (W : World), RdI W.heap.size W v [-1, 2] → RdI W.heap.size W u [-1, 2] → Calls Tryd.prog 24 #[A5 1 1 2 0 v, .int .i64 0, A5 1 1 2 0 u] W fun e w' => e = .returned (.bool true) ∧ Below W.heap.size W w') := fun v u W h1 h2 => is10_eq ⟨1, 1, 2, 0, [-1, 2]⟩ v u W h1 h2 (by decide)
      have HAll : ∀ W, KLs w [⟨g8, ⟨1, 1, 2, 0, [-1, 2]⟩, .slice q8 2 c8⟩, ⟨g7, ⟨0, 0, 0, 0, []⟩, .slice q7 0 c7⟩, ⟨g6, ⟨0, 0, 0, 0, []⟩, .slice q6 0 c6⟩, ⟨g5, ⟨0, 0, 0, 0, []⟩, .slice q5 0 c5⟩, ⟨g4, ⟨0, 0, 0, 0, []⟩, .slice q4 0 c4⟩, ⟨g3, ⟨1, 1, 3, 0, [1, 0, 1]⟩, .slice q3 3 c3⟩, ⟨g2, ⟨1, 1, 3, 0, [11, 12, 13]⟩, .slice q2 3 c2⟩, ⟨gv, ⟨1, 1, 3, 0, [1, 2, 3]⟩, .slice qv 3 cv⟩] [] W → (fun W => KLs w [⟨g8, ⟨1, 1, 2, 0, [-1, 2]⟩, .slice q8 2 c8⟩, ⟨g7, ⟨0, 0, 0, 0, []⟩, .slice q7 0 c7⟩, ⟨g6, ⟨0, 0, 0, 0, []⟩, .slice q6 0 c6⟩, ⟨g5, ⟨0, 0, 0, 0, []⟩, .slice q5 0 c5⟩, ⟨g4, ⟨0, 0, 0, 0, []⟩, .slice q4 0 c4⟩, ⟨g3, ⟨1, 1, 3, 0, [1, 0, 1]⟩, .slice q3 3 c3⟩, ⟨g2, ⟨1, 1, 3, 0, [11, 12, 13]⟩, .slice q2 3 c2⟩, ⟨gv, ⟨1, 1, 3, 0, [1, 2, 3]⟩, .slice qv 3 cv⟩] [] W ∧ W.cell? ⟨g2, 0, none⟩ = some (.int .i64 1) ∧ W.cell? ⟨g2, 1, none⟩ = some (.int .i64 1) ∧ W.cell? ⟨g2, 2, none⟩ = some (.int .i64 3) ∧ W.cell? ⟨g2, 3, none⟩ = some (.int .i64 0) ∧ W.cell? ⟨g2, 4, none⟩ = some (.slice q2 3 c2) ∧ W.cell? ⟨g3, 0, none⟩ = some (.int .i64 1) ∧ W.cell? ⟨g3, 1, none⟩ = some (.int .i64 1) ∧ W.cell? ⟨g3, 2, none⟩ = some (.int .i64 3) ∧ W.cell? ⟨g3, 3, none⟩ = some (.int .i64 0) ∧ W.cell? ⟨g3, 4, none⟩ = some (.slice q3 3 c3) ∧ W.cell? ⟨g8, 0, none⟩ = some (.int .i64 1) ∧ W.cell? ⟨g8, 1, none⟩ = some (.int .i64 1) ∧ W.cell? ⟨g8, 2, none⟩ = some (.int .i64 2) ∧ W.cell? ⟨g8, 3, none⟩ = some (.int .i64 0) ∧ W.cell? ⟨g8, 4, none⟩ = some (.slice q8 2 c8)) W := fun W h => ⟨h, (h.a _ (.tail _ (.tail _ (.tail _ (.tail _ (.tail _ (.tail _ (.head _)))))))).c0, (h.a _ (.tail _ (.tail _ (.tail _ (.tail _ (.tail _ (.tail _ (.head _)))))))).c1, (h.a _ (.tail _ (.tail _ (.tail _ (.tail _ (.tail _ (.tail _ (.head _)))))))).c2, (h.a _ (.tail _ (.tail _ (.tail _ (.tail _ (.tail _ (.tail _ (.head _)))))))).c3, (h.a _ (.tail _ (.tail _ (.tail _ (.tail _ (.tail _ (.tail _ (.head _)))))))).c4, (h.a _ (.tail _ (.tail _ (.tail _ (.tail _ (.tail _ (.head _))))))).c0, (h.a _ (.tail _ (.tail _ (.tail _ (.tail _ (.tail _ (.head _))))))).c1, (h.a _ (.tail _ (.tail _ (.tail _ (.tail _ (.tail _ (.head _))))))).c2, (h.a _ (.tail _ (.tail _ (.tail _ (.tail _ (.tail _ (.head _))))))).c3, (h.a _ (.tail _ (.tail _ (.tail _ (.tail _ (.tail _ (.head _))))))).c4, (h.a _ (.head _)).c0, (h.a _ (.head _)).c1, (h.a _ (.head _)).c2, (h.a _ (.head _)).c3, (h.a _ (.head _)).c4⟩
      have hS := HK.out
      clear HK
      go_region_held3 (fun W => KLs w [⟨g8, ⟨1, 1, 2, 0, [-1, 2]⟩, .slice q8 2 c8⟩, ⟨g7, ⟨0, 0, 0, 0, []⟩, .slice q7 0 c7⟩, ⟨g6, ⟨0, 0, 0, 0, []⟩, .slice q6 0 c6⟩, ⟨g5, ⟨0, 0, 0, 0, []⟩, .slice q5 0 c5⟩, ⟨g4, ⟨0, 0, 0, 0, []⟩, .slice q4 0 c4⟩, ⟨g3, ⟨1, 1, 3, 0, [1, 0, 1]⟩, .slice q3 3 c3⟩, ⟨g2, ⟨1, 1, 3, 0, [11, 12, 13]⟩, .slice q2 3 c2⟩, ⟨gv, ⟨1, 1, 3, 0, [1, 2, 3]⟩, .slice qv 3 cv⟩] [] W ∧ W.cell? ⟨g2, 0, none⟩ = some (.int .i64 1) ∧ W.cell? ⟨g2, 1, none⟩ = some (.int .i64 1) ∧ W.cell? ⟨g2, 2, none⟩ = some (.int .i64 3) ∧ W.cell? ⟨g2, 3, none⟩ = some (.int .i64 0) ∧ W.cell? ⟨g2, 4, none⟩ = some (.slice q2 3 c2) ∧ W.cell? ⟨g3, 0, none⟩ = some (.int .i64 1) ∧ W.cell? ⟨g3, 1, none⟩ = some (.int .i64 1) ∧ W.cell? ⟨g3, 2, none⟩ = some (.int .i64 3) ∧ W.cell? ⟨g3, 3, none⟩ = some (.int .i64 0) ∧ W.cell? ⟨g3, 4, none⟩ = some (.slice q3 3 c3) ∧ W.cell? ⟨g8, 0, none⟩ = some (.int .i64 1) ∧ W.cell? ⟨g8, 1, none⟩ = some (.int .i64 1) ∧ W.cell? ⟨g8, 2, none⟩ = some (.int .i64 2) ∧ W.cell? ⟨g8, 3, none⟩ = some (.int .i64 0) ∧ W.cell? ⟨g8, 4, none⟩ = some (.slice q8 2 c8))
        ((first | exact HAll _ ((by assumption : KLs _ _ _ _ ∧ _).1.next hbn) | exact HAll _ ((by assumption : KLs _ _ _ _ ∧ _).1.next (bel1 _ _)) | exact HAll _ (by assumption : KLs _ _ _ _ ∧ _).1 | exact HAll _ (hS.next (Below.refl _ _).drew) | fail))
        (first
          | (go_at_call 45; (with_reducible refine (HI9a.out _ _ (by first | rfl | simp)).mono ?_); rintro e wn ⟨qn, cn, rfl, hrv, hbn⟩)
          | (go_at_call 45; (with_reducible refine (HI9ad.out _ _ (by first | rfl | simp)).mono ?_); rintro e wn ⟨qn, cn, rfl, hrv, hbn⟩)
          | (go_at_call 24; (with_reducible refine (HS_g2.out _ _ _ (by with_unfolding_all exact (by assumption : KLs _ _ _ _ ∧ _).1.r _ (.tail _ (.tail _ (.tail _ (.tail _ (.tail _ (.tail _ (.head _)))))))) hrv.rd).mono ?_); rintro e wn ⟨rfl, hbn⟩)
          | (go_at_call 45; (with_reducible refine (HI9b.out _ _ (by first | rfl | simp)).mono ?_); rintro e wn ⟨qn, cn, rfl, hrv, hbn⟩)
          | (go_at_call 24; (with_reducible refine (HS_g3.out _ _ _ (by with_unfolding_all exact (by assumption : KLs _ _ _ _ ∧ _).1.r _ (.tail _ (.tail _ (.tail _ (.tail _ (.tail _ (.head _))))))) hrv.rd).mono ?_); rintro e wn ⟨rfl, hbn⟩)
          | (go_at_call 45; (with_reducible refine (HI9c.out _ _ (by first | rfl | simp)).mono ?_); rintro e wn ⟨qn, cn, rfl, hrv, hbn⟩)
          | (go_at_call 24; (with_reducible refine (HS_g8.out _ _ _ (by with_unfolding_all exact (by assumption : KLs _ _ _ _ ∧ _).1.r _ (.head _)) hrv.rd).mono ?_); rintro e wn ⟨rfl, hbn⟩)
          | fail)
      all_goals
        have HB := Lib.hid (by assumption : KLs _ _ _ _ ∧ _).1.bel
        go_wp2_with fail
        go_ret
        exact ⟨rfl, HB.out⟩
end Go.Proofs.YtokmdgiialcokaaDoor
