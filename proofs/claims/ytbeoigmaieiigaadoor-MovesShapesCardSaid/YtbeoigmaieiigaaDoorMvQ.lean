/- The moves' awake. -/
import Derived.Test.YtbeoigmaieiigaaDoorMvO
import Derived.Test.YtbeoigmaieiigaaDoorMvP
import Derived.Deep.DeepCutAuto
namespace Go.Proofs.YtbeoigmaieiigaaDoor
open Go.RowKit

theorem KLs.add {w W : World} {l : List Bk} {ps : List (Nat × Int × Int)} (h : KLs w l ps W) {g : Nat} {A : Ar} {u : Value} (h5 : R5 W g A.k A.r A.a A.b u) (hr : RdI W.heap.size W u A.z) : KLs w (⟨g, A, u⟩ :: l) ps W :=
  ⟨h.bel, h.lay, fun b m => by
    rcases List.mem_cons.1 m with rfl | m
    · exact ⟨h5, hr⟩
    · exact h.all b m, h.prs⟩
/-- The reference's Matrix of a slice that is written out. -/
theorem mat_lit (m n : Int) (z : List Int) (len : Nat) (hlen : z.length = len) (h4 : len ≤ 1000) (W : World) (g : Nat) (hg : W.heap.size = g) :
    Calls Tryd.prog 38 #[.int .i64 1, .int .i64 m, .int .i64 n, .slice (some ⟨g, 0, none⟩) len len] (W.alloc (.cells (z.map vi).toArray 2)) fun e w' => ∃ q c, e = .returned (A5 1 2 m n (.slice q len c)) ∧ RdN (g + 1) w' (.slice q len c) z ∧ Below W.heap.size W w' := by
  subst hg hlen
  have hb := bel1 W (.cells (z.map vi).toArray 2)
  refine (matrix7_any 1 m n z (.slice (some ⟨W.heap.size, 0, none⟩) z.length z.length) _ (blk_rd rfl (by omega) (heap_alloc_last W _)) (nil_some _ _ _) (by omega)).mono ?_
  rintro e w' ⟨u, h1, h2, h3⟩
  obtain ⟨q, c, hq, _⟩ := h2.form
  subst hq
  exact ⟨q, c, h1, h2.mono (by simp), hb.trans (h3.mono hb.size)⟩
/-- The law's Ints of a slice that is written out. -/
theorem ints_lit (z : List Int) (len : Nat) (hlen : z.length = len) (h4 : len ≤ 1000) (W : World) (g : Nat) (hg : W.heap.size = g) :
    Calls Tryd.prog 35 #[.slice (some ⟨g, 0, none⟩) len len] (W.alloc (.cells (z.map vi).toArray 2)) fun e w' => ∃ q c, e = .returned (A5 1 1 len 0 (.slice q len c)) ∧ RdN (g + 1) w' (.slice q len c) z ∧ Below W.heap.size W w' := by
  subst hg hlen
  have hb := bel1 W (.cells (z.map vi).toArray 2)
  refine (lints_any z (.slice (some ⟨W.heap.size, 0, none⟩) z.length z.length) _ (blk_rd rfl (by omega) (heap_alloc_last W _)) (nil_some _ _ _) (by omega)).mono ?_
  rintro e w' ⟨u, h1, h2, h3⟩
  obtain ⟨q, c, hq, _⟩ := h2.form
  have hq2 : u = .slice q z.length c := hq
  subst hq2
  exact ⟨q, c, h1, h2.mono (by simp), hb.trans (h3.mono hb.size)⟩
/-- The law's Int. -/
theorem int_lit (n : Int) (W : World) : Calls Tryd.prog 34 #[.int .i64 n] W fun e w' => ∃ q c, e = .returned (A5 1 0 0 0 (.slice q 1 c)) ∧ RdN W.heap.size w' (.slice q 1 c) [n] ∧ Below W.heap.size W w' := by
  refine (lint_any n W).mono ?_
  rintro e w' ⟨u, h1, h2, h3⟩
  obtain ⟨q, c, hq, _⟩ := h2.form
  have hq2 : u = .slice q 1 c := hq
  subst hq2
  exact ⟨q, c, h1, h2, h3⟩
/-- The reference's Matrix, the law's Ints. -/
theorem mat_gen (m n : Int) (z : List Int) (len : Nat) (hlen : z.length = len) (h4 : len ≤ 1000) (v : Value) (W : World) (hv : RdI W.heap.size W v z) (hn : Ru.NilC v) :
    Calls Tryd.prog 38 #[.int .i64 1, .int .i64 m, .int .i64 n, v] W fun e w' => ∃ q c, e = .returned (A5 1 2 m n (.slice q len c)) ∧ RdN W.heap.size w' (.slice q len c) z ∧ Below W.heap.size W w' := by
  subst hlen
  refine (matrix7_any 1 m n z v W hv hn (by omega)).mono ?_
  rintro e w' ⟨u, h1, h2, h3⟩
  obtain ⟨q, c, hq, _⟩ := h2.form
  have hq2 : u = .slice q z.length c := hq
  subst hq2
  exact ⟨q, c, h1, h2, h3⟩
theorem ints_gen (z : List Int) (len : Nat) (hlen : z.length = len) (h4 : len ≤ 1000) (v : Value) (W : World) (hv : RdI W.heap.size W v z) (hn : Ru.NilC v) :
    Calls Tryd.prog 35 #[v] W fun e w' => ∃ q c, e = .returned (A5 1 1 len 0 (.slice q len c)) ∧ RdN W.heap.size w' (.slice q len c) z ∧ Below W.heap.size W w' := by
  subst hlen
  refine (lints_any z v W hv hn (by omega)).mono ?_
  rintro e w' ⟨u, h1, h2, h3⟩
  obtain ⟨q, c, hq, _⟩ := h2.form
  have hq2 : u = .slice q z.length c := hq
  subst hq2
  exact ⟨q, c, h1, h2, h3⟩
/-- What a region that lays a result leaves. -/
def CutA (w : World) (L : List Bk) (sp se : Value) (k r a b E : Int) (n : Nat) (z : List Int) (W : World) : Prop :=
  ∃ g q c, sp = .pointer (some ⟨g, 0, none⟩) ∧ se = .int .i64 E ∧ KLs w (⟨g, ⟨k, r, a, b, z⟩, .slice q n c⟩ :: L) [] W
theorem rdI_nilC {B : Nat} {w : World} {v : Value} {z : List Int} (h : RdI B w v z) (hz : z ≠ []) : Ru.NilC v := by
  obtain ⟨p, cap, rfl, _, _, h3⟩ := h
  obtain ⟨b, off, rfl, _⟩ := h3 hz
  exact nil_some _ _ _
/-- A contract of a function of one array, and of two, at arrays that are written out. -/
theorem one_lit {F : FuncId} {k r a b : Int} {v : Value} {W : World} {R : Ar} {E : Int} (h : Calls Tryd.prog F #[A5 k r a b v] W (RetE R E W)) (k' r' a' b' : Int) (n : Nat) (z' : List Int) (hR : R = ⟨k', r', a', b', z'⟩) (hn : z'.length = n) :
    Calls Tryd.prog F #[A5 k r a b v] W fun e w' => ∃ q c, e = .returned (.tuple #[A5 k' r' a' b' (.slice q n c), .int .i64 E]) ∧ RdN W.heap.size w' (.slice q n c) z' ∧ Below W.heap.size W w' := by
  subst hR hn
  refine h.mono ?_
  rintro e w' ⟨u, h1, h2, h3⟩
  obtain ⟨q, c, hq, _⟩ := h2.form
  have hq2 : u = .slice q z'.length c := hq
  subst hq2
  exact ⟨q, c, h1, h2, h3⟩
theorem two_lit {F : FuncId} {k r a b l s d f : Int} {v u : Value} {W : World} {R : Ar} {E : Int} (h : Calls Tryd.prog F #[A5 k r a b v, A5 l s d f u] W (RetE R E W)) (k' r' a' b' : Int) (n : Nat) (z' : List Int) (hR : R = ⟨k', r', a', b', z'⟩) (hn : z'.length = n) :
    Calls Tryd.prog F #[A5 k r a b v, A5 l s d f u] W fun e w' => ∃ q c, e = .returned (.tuple #[A5 k' r' a' b' (.slice q n c), .int .i64 E]) ∧ RdN W.heap.size w' (.slice q n c) z' ∧ Below W.heap.size W w' := by
  subst hR hn
  refine h.mono ?_
  rintro e w' ⟨u, h1, h2, h3⟩
  obtain ⟨q, c, hq, _⟩ := h2.form
  have hq2 : u = .slice q z'.length c := hq
  subst hq2
  exact ⟨q, c, h1, h2, h3⟩

set_option maxRecDepth 100000 in
set_option maxHeartbeats 32000000 in
theorem awake7_any (w : World) (hw : Ru.Lay w) : Calls Tryd.prog 12 #[] w fun e w' => e = .returned (.bool true) ∧ Below w.heap.size w w' := by
  have HK0 := Lib.hid (KLs.start w hw)
  clear hw
  have HV : Hid (∀ (W : World) (g : Nat), W.heap.size = g → Calls Tryd.prog 35 #[.slice (some ⟨g, 0, none⟩) 3 3] (W.alloc (.cells #[.int .i64 1, .int .i64 2, .int .i64 3] 2)) fun e w' => ∃ q c, e = .returned (A5 1 1 3 0 (.slice q 3 c)) ∧ RdN (g + 1) w' (.slice q 3 c) [1, 2, 3] ∧ Below W.heap.size W w') := fun W g hg => ints_lit [1, 2, 3] 3 rfl (by decide) W g hg
  have HM : Hid (∀ (W : World) (g : Nat), W.heap.size = g → Calls Tryd.prog 38 #[.int .i64 1, .int .i64 2, .int .i64 3, .slice (some ⟨g, 0, none⟩) 6 6] (W.alloc (.cells #[.int .i64 1, .int .i64 2, .int .i64 3, .int .i64 4, .int .i64 5, .int .i64 6] 2)) fun e w' => ∃ q c, e = .returned (A5 1 2 2 3 (.slice q 6 c)) ∧ RdN (g + 1) w' (.slice q 6 c) [1, 2, 3, 4, 5, 6] ∧ Below W.heap.size W w') := fun W g hg => mat_lit 2 3 [1, 2, 3, 4, 5, 6] 6 rfl (by decide) W g hg
  have HRv : Hid (∀ (v : Value) (W : World), Ru.Lay W → RdI W.heap.size W v [1, 2, 3, 4, 5, 6] → Calls Tryd.prog 16 #[A5 1 2 2 3 v] W fun e w' => ∃ q c, e = .returned (.tuple #[A5 1 2 2 3 (.slice q 6 c), .int .i64 0]) ∧ RdN W.heap.size w' (.slice q 6 c) [3, 2, 1, 6, 5, 4] ∧ Below W.heap.size W w') := fun v W h1 h2 => one_lit (E := 0) (mreverse_any ⟨1, 2, 2, 3, [1, 2, 3, 4, 5, 6]⟩ v W h1 h2 (by decide)) 1 2 2 3 6 [3, 2, 1, 6, 5, 4] (by rfl) rfl
  have HFl : Hid (∀ (v : Value) (W : World), Ru.Lay W → RdI W.heap.size W v [1, 2, 3, 4, 5, 6] → Calls Tryd.prog 18 #[A5 1 2 2 3 v] W fun e w' => ∃ q c, e = .returned (.tuple #[A5 1 2 3 2 (.slice q 6 c), .int .i64 0]) ∧ RdN W.heap.size w' (.slice q 6 c) [1, 4, 2, 5, 3, 6] ∧ Below W.heap.size W w') := fun v W h1 h2 => one_lit (E := 0) (mflip_any ⟨1, 2, 2, 3, [1, 2, 3, 4, 5, 6]⟩ v W h1 h2 (rdI_nilC h2 (by simp)) (by decide)) 1 2 3 2 6 [1, 4, 2, 5, 3, 6] (by rfl) rfl
  have HI2 := Lib.hid (fun W => int_lit (-2) W)
  have HI1 := Lib.hid (fun W => int_lit (-1) W)
  have HI0 := Lib.hid (fun W => int_lit 0 W)
  have HTk : Hid (∀ (v u : Value) (W : World), Ru.Lay W → RdI W.heap.size W v [-2] → RdI W.heap.size W u [1, 2, 3] → Calls Tryd.prog 20 #[A5 1 0 0 0 v, A5 1 1 3 0 u] W fun e w' => ∃ q c, e = .returned (.tuple #[A5 1 1 2 0 (.slice q 2 c), .int .i64 0]) ∧ RdN W.heap.size w' (.slice q 2 c) [2, 3] ∧ Below W.heap.size W w') := fun v u W h1 h2 h3 => two_lit (E := 0) (mtake_any ⟨1, 0, 0, 0, [-2]⟩ ⟨1, 1, 3, 0, [1, 2, 3]⟩ v u W h1 h2 h3 (rdI_nilC h3 (by simp)) (by decide) (by decide) (by decide)) 1 1 2 0 2 [2, 3] (by rfl) rfl
  have HDr : Hid (∀ (v u : Value) (W : World), Ru.Lay W → RdI W.heap.size W v [-1] → RdI W.heap.size W u [1, 2, 3] → Calls Tryd.prog 22 #[A5 1 0 0 0 v, A5 1 1 3 0 u] W fun e w' => ∃ q c, e = .returned (.tuple #[A5 1 1 2 0 (.slice q 2 c), .int .i64 0]) ∧ RdN W.heap.size w' (.slice q 2 c) [1, 2] ∧ Below W.heap.size W w') := fun v u W h1 h2 h3 => two_lit (E := 0) (mdrop_any ⟨1, 0, 0, 0, [-1]⟩ ⟨1, 1, 3, 0, [1, 2, 3]⟩ v u W h1 h2 h3 (rdI_nilC h3 (by simp)) (by decide) (by decide) (by decide)) 1 1 2 0 2 [1, 2] (by rfl) rfl
  have HL2 : Hid (∀ (W : World) (g : Nat), W.heap.size = g → Calls Tryd.prog 35 #[.slice (some ⟨g, 0, none⟩) 2 2] (W.alloc (.cells #[.int .i64 2, .int .i64 2] 2)) fun e w' => ∃ q c, e = .returned (A5 1 1 2 0 (.slice q 2 c)) ∧ RdN (g + 1) w' (.slice q 2 c) [2, 2] ∧ Below W.heap.size W w') := fun W g hg => ints_lit [2, 2] 2 rfl (by decide) W g hg
  have HGd : Hid (∀ (v u : Value) (W : World), Ru.Lay W → RdI W.heap.size W v [2, 2] → RdI W.heap.size W u [1, 2, 3] → Calls Tryd.prog 26 #[A5 1 1 2 0 v, A5 1 1 3 0 u] W fun e w' => ∃ q c, e = .returned (.tuple #[A5 1 2 2 2 (.slice q 4 c), .int .i64 0]) ∧ RdN W.heap.size w' (.slice q 4 c) [1, 2, 3, 1] ∧ Below W.heap.size W w') := fun v u W h1 h2 h3 => two_lit (E := 0) (mgrid_any ⟨1, 1, 2, 0, [2, 2]⟩ ⟨1, 1, 3, 0, [1, 2, 3]⟩ v u W h1 h2 h3 (by decide) (by decide)) 1 2 2 2 4 [1, 2, 3, 1] (by rfl) rfl
  have HM7 : Hid (∀ (W : World) (g : Nat), W.heap.size = g → Calls Tryd.prog 38 #[.int .i64 1, .int .i64 1, .int .i64 1, .slice (some ⟨g, 0, none⟩) 1 1] (W.alloc (.cells #[.int .i64 7] 2)) fun e w' => ∃ q c, e = .returned (A5 1 2 1 1 (.slice q 1 c)) ∧ RdN (g + 1) w' (.slice q 1 c) [7] ∧ Below W.heap.size W w') := fun W g hg => mat_lit 1 1 [7] 1 rfl (by decide) W g hg
  have HIg : Hid (∀ (v : Value) (W : World), RdI W.heap.size W v [2, 2] → Ru.NilC v → Calls Tryd.prog 35 #[v] W fun e w' => ∃ q c, e = .returned (A5 1 1 2 0 (.slice q 2 c)) ∧ RdN W.heap.size w' (.slice q 2 c) [2, 2] ∧ Below W.heap.size W w') := fun v W h1 h2 => ints_gen [2, 2] 2 rfl (by decide) v W h1 h2
  have HMg : Hid (∀ (v : Value) (W : World), RdI W.heap.size W v [7] → Ru.NilC v → Calls Tryd.prog 38 #[.int .i64 1, .int .i64 1, .int .i64 1, v] W fun e w' => ∃ q c, e = .returned (A5 1 2 1 1 (.slice q 1 c)) ∧ RdN W.heap.size w' (.slice q 1 c) [7] ∧ Below W.heap.size W w') := fun v W h1 h2 => mat_gen 1 1 [7] 1 rfl (by decide) v W h1 h2
  have HCt : Hid (∀ (v u : Value) (W : World), Ru.Lay W → RdI W.heap.size W v [1, 2, 3, 4, 5, 6] → RdI W.heap.size W u [7] → Calls Tryd.prog 28 #[A5 1 2 2 3 v, A5 1 2 1 1 u] W fun e w' => ∃ q c, e = .returned (.tuple #[A5 0 0 0 0 (.slice q 0 c), .int .i64 11]) ∧ RdN W.heap.size w' (.slice q 0 c) [] ∧ Below W.heap.size W w') := fun v u W h1 h2 h3 => two_lit (E := 11) (mcat_any ⟨1, 2, 2, 3, [1, 2, 3, 4, 5, 6]⟩ ⟨1, 2, 1, 1, [7]⟩ v u W h1 h2 h3 (rdI_nilC h2 (by simp)) (rdI_nilC h3 (by simp)) (by decide) (by decide)) 0 0 0 0 0 [] (by rfl) rfl
  have HFi : Hid (∀ (v u : Value) (W : World), Ru.Lay W → RdI W.heap.size W v [-1] → RdI W.heap.size W u [0] → Calls Tryd.prog 24 #[A5 1 0 0 0 v, A5 1 0 0 0 u] W fun e w' => ∃ q c, e = .returned (.tuple #[A5 0 0 0 0 (.slice q 0 c), .int .i64 13]) ∧ RdN W.heap.size w' (.slice q 0 c) [] ∧ Below W.heap.size W w') := fun v u W h1 h2 h3 => two_lit (E := 13) (mfill_any ⟨1, 0, 0, 0, [-1]⟩ ⟨1, 0, 0, 0, [0]⟩ v u W h1 h2 h3 (by decide) (by decide)) 0 0 0 0 0 [] (by rfl) rfl
  go_enter Tryd.func12, Tryd.ntmps12
  go_wp2_with (first
    | (go_at_call 35; (with_reducible refine (HV.out _ _ (by first | rfl | simp)).mono ?_); rintro e w1 ⟨qv, cv, rfl, hu, hb⟩; have HU := Lib.hid hu; have HB := Lib.hid hb; clear hu hb)
    | (go_at_call 38; (with_reducible refine (HM.out _ _ (by first | rfl | simp)).mono ?_); rintro e w2 ⟨qm, cm, rfl, hu, hb⟩; have HUv := Lib.hid (HU.out.next hb); have h2 := ((HK0.out.next (HB.out.trans (hb.mono HB.out.size))).push ⟨1, 1, 3, 0, [1, 2, 3]⟩ (u := .slice qv 3 cv) HUv.out.rd).push ⟨1, 2, 2, 3, [1, 2, 3, 4, 5, 6]⟩ (u := .slice qm 6 cm) (hu.rd.next (bel1 _ _)); have hsz : (w2.alloc (.cells #[.int .i64 1, .int .i64 1, .int .i64 3, .int .i64 0, .slice qv 3 cv] 25)).heap.size = w2.heap.size + 1 := (by simp); rw [hsz] at h2; have HK := Lib.hid h2; clear hu hb HU HB HUv h2 hsz HK0; have x0 := (HK.out.a _ (.tail _ (.head _))).c0; have x1 := (HK.out.a _ (.tail _ (.head _))).c1; have x2 := (HK.out.a _ (.tail _ (.head _))).c2; have x3 := (HK.out.a _ (.tail _ (.head _))).c3; have x4 := (HK.out.a _ (.tail _ (.head _))).c4; have y0 := (HK.out.a _ (.head _)).c0; have y1 := (HK.out.a _ (.head _)).c1; have y2 := (HK.out.a _ (.head _)).c2; have y3 := (HK.out.a _ (.head _)).c3; have y4 := (HK.out.a _ (.head _)).c4)
    | (go_at_call 16; (with_reducible refine (HRv.out _ _ HK.out.lay (by with_unfolding_all exact HK.out.r _ (.head _))).mono ?_); rintro e w3 ⟨q3, c3, rfl, hu, hb⟩; have HKn := Lib.hid ((HK.out.next hb).push ⟨1, 2, 2, 3, [3, 2, 1, 6, 5, 4]⟩ (u := .slice q3 6 c3) hu.rd); clear HK x0 x1 x2 x3 x4 y0 y1 y2 y3 y4; have HK := HKn; clear HKn; clear hu hb; have x0 := (HK.out.a _ (.tail _ (.tail _ (.head _)))).c0; have x1 := (HK.out.a _ (.tail _ (.tail _ (.head _)))).c1; have x2 := (HK.out.a _ (.tail _ (.tail _ (.head _)))).c2; have x3 := (HK.out.a _ (.tail _ (.tail _ (.head _)))).c3; have x4 := (HK.out.a _ (.tail _ (.tail _ (.head _)))).c4; have y0 := (HK.out.a _ (.tail _ (.head _))).c0; have y1 := (HK.out.a _ (.tail _ (.head _))).c1; have y2 := (HK.out.a _ (.tail _ (.head _))).c2; have y3 := (HK.out.a _ (.tail _ (.head _))).c3; have y4 := (HK.out.a _ (.tail _ (.head _))).c4)
    | (go_at_call 18; (with_reducible refine (HFl.out _ _ HK.out.lay (by with_unfolding_all exact HK.out.r _ (.tail _ (.head _)))).mono ?_); rintro e w4 ⟨q4, c4, rfl, hu, hb⟩; have HKn := Lib.hid ((HK.out.next hb).push ⟨1, 2, 3, 2, [1, 4, 2, 5, 3, 6]⟩ (u := .slice q4 6 c4) hu.rd); clear HK x0 x1 x2 x3 x4 y0 y1 y2 y3 y4; have HK := HKn; clear HKn; clear hu hb; have x0 := (HK.out.a _ (.tail _ (.tail _ (.tail _ (.head _))))).c0; have x1 := (HK.out.a _ (.tail _ (.tail _ (.tail _ (.head _))))).c1; have x2 := (HK.out.a _ (.tail _ (.tail _ (.tail _ (.head _))))).c2; have x3 := (HK.out.a _ (.tail _ (.tail _ (.tail _ (.head _))))).c3; have x4 := (HK.out.a _ (.tail _ (.tail _ (.tail _ (.head _))))).c4; have y0 := (HK.out.a _ (.tail _ (.tail _ (.head _)))).c0; have y1 := (HK.out.a _ (.tail _ (.tail _ (.head _)))).c1; have y2 := (HK.out.a _ (.tail _ (.tail _ (.head _)))).c2; have y3 := (HK.out.a _ (.tail _ (.tail _ (.head _)))).c3; have y4 := (HK.out.a _ (.tail _ (.tail _ (.head _)))).c4)
    | fail)
  generalize World.alloc w4 _ = W4 at HK ⊢
  clear x0 x1 x2 x3 x4 y0 y1 y2 y3 y4
  generalize w2.heap.size + 1 = gm at HK ⊢
  generalize w2.heap.size = gv at HK ⊢
  generalize w3.heap.size = g3 at HK ⊢
  generalize w4.heap.size = g4 at HK ⊢
  go_cut [7, 8] (fun sp se wx => CutA w [⟨g4, ⟨1, 2, 3, 2, [1, 4, 2, 5, 3, 6]⟩, .slice q4 6 c4⟩, ⟨g3, ⟨1, 2, 2, 3, [3, 2, 1, 6, 5, 4]⟩, .slice q3 6 c3⟩, ⟨gm, ⟨1, 2, 2, 3, [1, 2, 3, 4, 5, 6]⟩, .slice qm 6 cm⟩, ⟨gv, ⟨1, 1, 3, 0, [1, 2, 3]⟩, .slice qv 3 cv⟩] sp se 1 1 2 0 0 2 [2, 3] wx)
  case first =>
    clear HV HM HRv HFl HI1 HI0 HDr HL2 HGd HM7 HIg HMg HCt HFi
    have HAll : Hid (∀ W, Below W4.heap.size W4 W → (fun W => Below W4.heap.size W4 W ∧ W.cell? ⟨gv, 0, none⟩ = some (.int .i64 1) ∧ W.cell? ⟨gv, 1, none⟩ = some (.int .i64 1) ∧ W.cell? ⟨gv, 2, none⟩ = some (.int .i64 3) ∧ W.cell? ⟨gv, 3, none⟩ = some (.int .i64 0) ∧ W.cell? ⟨gv, 4, none⟩ = some (.slice qv 3 cv)) W) := fun W h => ⟨h, ((HK.out.next h).a _ (.tail _ (.tail _ (.tail _ (.head _))))).c0, ((HK.out.next h).a _ (.tail _ (.tail _ (.tail _ (.head _))))).c1, ((HK.out.next h).a _ (.tail _ (.tail _ (.tail _ (.head _))))).c2, ((HK.out.next h).a _ (.tail _ (.tail _ (.tail _ (.head _))))).c3, ((HK.out.next h).a _ (.tail _ (.tail _ (.tail _ (.head _))))).c4⟩
    refine wp_region_held_drew (S := (fun W => Below W4.heap.size W4 W ∧ W.cell? ⟨gv, 0, none⟩ = some (.int .i64 1) ∧ W.cell? ⟨gv, 1, none⟩ = some (.int .i64 1) ∧ W.cell? ⟨gv, 2, none⟩ = some (.int .i64 3) ∧ W.cell? ⟨gv, 3, none⟩ = some (.int .i64 0) ∧ W.cell? ⟨gv, 4, none⟩ = some (.slice qv 3 cv))) (by kernel_rfl) ?_ (fun hHeld => ?_)
    · exact HAll.out _ (Below.refl _ _).drew
    have HB0 : Hid (Below W4.heap.size W4 (World.drew W4)) := (Below.refl _ _).drew
    generalize World.drew W4 = wd at hHeld HB0 ⊢
    refine wpAnyH_take (i := 1) (v := ?_) rfl (by kernel_rfl) (by kernel_rfl) (by kernel_rfl) (fun _ _ _ h => h) (Or.inl ⟨by rfl, ?_⟩) (by assumption) ?_
    rotate_left
    · ((intro w0 hSw); (try dsimp only at hSw); go_simp; (try with_reducible rfl))
    change wpAnyH _ _ _ _ _ _ _ (Act.put _ (some 33) _) _
    try simp only [Act.put, List.setIfInBounds_toArray, List.set_cons_zero, List.set_cons_succ]
    refine wpAnyH_ready (rs := [0, 6]) (by kernel_rfl) (by simp) ?_
    refine AllReadyH.cons rfl (fun K hK => ?_) (AllReadyH.cons rfl (fun K hK => ?_) (AllReadyH.nil))
    · go_simp
      go_at_call 34
      with_reducible refine (HI2.out _).mono ?_
      rintro e wn1 ⟨qz3, cz4, rfl, hu5, hb6⟩
      have HB2 := Lib.hid (HB0.out.trans (hb6.mono HB0.out.size))
      refine hK.out _ _ ?_ (fun hHeld2 => ?_)
      · exact HAll.out _ HB2.out
      clear hK K hHeld
      have hHeld := hHeld2; clear hHeld2
      try change wpAnyH _ _ _ _ _ _ _ (Act.put _ (some 32) _) _
      try dsimp only
      try simp only [Act.put, List.setIfInBounds_toArray, List.set_cons_zero, List.set_cons_succ]
      have HU7 := Lib.hid hu5.rd
      clear hu5 hb6
      refine wpAnyH_ready (rs := [2, 6]) (by kernel_rfl) (by simp) ?_
      refine AllReadyH.cons rfl (fun K hK => ?_) (AllReadyH.cons rfl (fun K hK => ?_) (AllReadyH.nil))
      · go_simp
        go_at_call 20
        with_reducible refine (HTk.out _ _ _ (HK.out.next HB2.out).lay HU7.out (by with_unfolding_all exact (HK.out.next HB2.out).r _ (.tail _ (.tail _ (.tail _ (.head _)))))).mono ?_
        rintro e wn8 ⟨qz10, cz11, rfl, hu12, hb13⟩
        have HB9 := Lib.hid (HB2.out.trans (hb13.mono HB2.out.size))
        refine hK.out _ _ ?_ (fun hHeld2 => ?_)
        · exact HAll.out _ HB9.out
        clear hK K hHeld
        have hHeld := hHeld2; clear hHeld2
        try change wpAnyH _ _ _ _ _ _ _ (Act.put _ (some 34) _) _
        try dsimp only
        try simp only [Act.put, List.setIfInBounds_toArray, List.set_cons_zero, List.set_cons_succ]
        have HU15 := Lib.hid (HU7.out.next hb13)
        have HU14 := Lib.hid hu12
        clear hu12 hb13
        refine wpAnyH_take (i := 3) (v := ?_) rfl (by kernel_rfl) (by kernel_rfl) (by kernel_rfl) (fun _ _ _ h => h) (Or.inl ⟨by rfl, ?_⟩) (by assumption) ?_
        rotate_left
        · ((intro w0 hSw); (try dsimp only at hSw); go_simp; (try with_reducible rfl))
        change wpAnyH _ _ _ _ _ _ _ (Act.put _ (some 31) _) _
        try simp only [Act.put, List.setIfInBounds_toArray, List.set_cons_zero, List.set_cons_succ]
        refine wpAnyH_take (i := 4) (v := ?_) rfl (by kernel_rfl) (by kernel_rfl) (by kernel_rfl) (fun _ _ _ h => h) (Or.inl ⟨by rfl, ?_⟩) (by assumption) ?_
        rotate_left
        · ((intro w0 hSw); (try dsimp only at hSw); go_simp; (try with_reducible rfl))
        change wpAnyH _ _ _ _ _ _ _ (Act.put _ (some 35) _) _
        try simp only [Act.put, List.setIfInBounds_toArray, List.set_cons_zero, List.set_cons_succ]
        refine wpAnyH_take (i := 5) (v := ?_) rfl (by kernel_rfl) (by kernel_rfl) (by kernel_rfl) (fun _ _ _ h => h) (Or.inl ⟨by rfl, ?_⟩) (by assumption) ?_
        rotate_left
        · ((intro w0 hSw); (try dsimp only at hSw); go_simp; (try with_reducible rfl))
        change wpAnyH _ _ _ _ _ _ _ (Act.put _ (some 36) _) _
        try simp only [Act.put, List.setIfInBounds_toArray, List.set_cons_zero, List.set_cons_succ]
        refine wpAnyH_ready (rs := [6]) (by kernel_rfl) (by simp) ?_
        refine AllReadyH.cons rfl (fun K hK => ?_) (AllReadyH.nil)
        go_simp
        refine hK.out _ _ ?_ (fun hHeld2 => ?_)
        · exact HAll.out _ (HB9.out.trans ((bel1 wn8 _).mono HB9.out.size))
        clear hK K hHeld
        have hHeld := hHeld2; clear hHeld2
        try change wpAnyH _ _ _ _ _ _ _ (Act.put _ (some 7) _) _
        try simp only [Act.put, List.setIfInBounds_toArray, List.set_cons_zero, List.set_cons_succ]
        generalize hwx17 : World.alloc wn8 _ = wa16 at hHeld ⊢
        have HB18 : Hid (Below W4.heap.size W4 wa16) := by rw [← hwx17]; exact HB9.out.trans ((bel1 wn8 _).mono HB9.out.size)
        have HG19 : Hid (R5 wa16 wn8.heap.size 0 0 0 0 (.slice none 0 0)) := by rw [← hwx17]; exact R5.new _ _ _ _ _ _
        have HLE20 := Lib.hid HB9.out.size
        have HU21 : Hid (RdI wa16.heap.size wa16 (.slice qz3 1 cz4) [-2]) := by rw [← hwx17]; exact HU15.out.next (bel1 _ _)
        have H922 : Hid (Below wn8.heap.size wn8 wa16) := by rw [← hwx17]; exact bel1 _ _
        clear hwx17
        refine wpAnyH_ready (rs := [7]) (by kernel_rfl) (by simp) ?_
        refine AllReadyH.cons rfl (fun K hK => ?_) (AllReadyH.nil)
        have y0 := HG19.out.c0; have y1 := HG19.out.c1; have y2 := HG19.out.c2; have y3 := HG19.out.c3; have y4 := HG19.out.c4; have f0 := HG19.out.fr 0; have f1 := HG19.out.fr 1; have f2 := HG19.out.fr 2; have f3 := HG19.out.fr 3; have f4 := HG19.out.fr 4; have HS := Lib.hid (HG19.out.set 1 1 2 0 (.slice qz10 2 cz11)); have z0 := HS.out.c0; have z1 := HS.out.c1; have z2 := HS.out.c2; have z3 := HS.out.c3; have z4 := HS.out.c4
        go_simp
        refine hK.out _ _ ?_ (fun hHeld2 => ?_)
        · exact HAll.out _ (st5_below _ _ _ _ _ HLE20.out HB18.out)
        clear hK K hHeld
        have hHeld := hHeld2; clear hHeld2
        try simp only [Act.put, List.setIfInBounds_toArray, List.set_cons_zero, List.set_cons_succ]
        refine wpAnyH_take (i := 8) (v := ?_) rfl (by kernel_rfl) (by kernel_rfl) (by kernel_rfl) (fun _ _ _ h => h) (Or.inl ⟨by rfl, ?_⟩) (by assumption) ?_
        rotate_left
        · ((intro w0 hSw); (try dsimp only at hSw); go_simp; (try with_reducible rfl))
        change wpAnyH _ _ _ _ _ _ _ (Act.put _ (some 8) _) _
        try simp only [Act.put, List.setIfInBounds_toArray, List.set_cons_zero, List.set_cons_succ]
        refine wpAnyH_done (by kernel_rfl) ?_ _
        go_wp2_with fail
        go_meet
        case rel => exact ⟨wn8.heap.size, _, _, rfl, rfl, (HK.out.next (st5_below _ _ _ _ _ HLE20.out HB18.out)).add HS.out (HU14.out.rd.next (st5_below _ _ _ _ _ (Nat.le_refl _) H922.out))⟩
      · go_simp
        refine hK.out _ _ ?_ (fun hHeld2 => ?_)
        · exact HAll.out _ (HB2.out.trans ((bel1 wn1 _).mono HB2.out.size))
        clear hK K hHeld
        have hHeld := hHeld2; clear hHeld2
        try change wpAnyH _ _ _ _ _ _ _ (Act.put _ (some 7) _) _
        try simp only [Act.put, List.setIfInBounds_toArray, List.set_cons_zero, List.set_cons_succ]
        generalize hwx24 : World.alloc wn1 _ = wa23 at hHeld ⊢
        have HB25 : Hid (Below W4.heap.size W4 wa23) := by rw [← hwx24]; exact HB2.out.trans ((bel1 wn1 _).mono HB2.out.size)
        have HG26 : Hid (R5 wa23 wn1.heap.size 0 0 0 0 (.slice none 0 0)) := by rw [← hwx24]; exact R5.new _ _ _ _ _ _
        have HLE27 := Lib.hid HB2.out.size
        have HU28 : Hid (RdI wa23.heap.size wa23 (.slice qz3 1 cz4) [-2]) := by rw [← hwx24]; exact HU7.out.next (bel1 _ _)
        clear hwx24
        refine wpAnyH_ready (rs := [2]) (by kernel_rfl) (by simp) ?_
        refine AllReadyH.cons rfl (fun K hK => ?_) (AllReadyH.nil)
        go_simp
        go_at_call 20
        with_reducible refine (HTk.out _ _ _ (HK.out.next HB25.out).lay HU28.out (by with_unfolding_all exact (HK.out.next HB25.out).r _ (.tail _ (.tail _ (.tail _ (.head _)))))).mono ?_
        rintro e wn29 ⟨qz31, cz32, rfl, hu33, hb34⟩
        have HB30 := Lib.hid (HB25.out.trans (hb34.mono HB25.out.size))
        refine hK.out _ _ ?_ (fun hHeld2 => ?_)
        · exact HAll.out _ HB30.out
        clear hK K hHeld
        have hHeld := hHeld2; clear hHeld2
        try change wpAnyH _ _ _ _ _ _ _ (Act.put _ (some 34) _) _
        try dsimp only
        try simp only [Act.put, List.setIfInBounds_toArray, List.set_cons_zero, List.set_cons_succ]
        have HLT36 := Lib.hid HG26.out.lt
        have HG37 := Lib.hid (HG26.out.next hb34)
        have HU38 := Lib.hid (HU28.out.next hb34)
        have HU35 := Lib.hid hu33
        clear hu33 hb34
        refine wpAnyH_take (i := 3) (v := ?_) rfl (by kernel_rfl) (by kernel_rfl) (by kernel_rfl) (fun _ _ _ h => h) (Or.inl ⟨by rfl, ?_⟩) (by assumption) ?_
        rotate_left
        · ((intro w0 hSw); (try dsimp only at hSw); go_simp; (try with_reducible rfl))
        change wpAnyH _ _ _ _ _ _ _ (Act.put _ (some 31) _) _
        try simp only [Act.put, List.setIfInBounds_toArray, List.set_cons_zero, List.set_cons_succ]
        refine wpAnyH_take (i := 4) (v := ?_) rfl (by kernel_rfl) (by kernel_rfl) (by kernel_rfl) (fun _ _ _ h => h) (Or.inl ⟨by rfl, ?_⟩) (by assumption) ?_
        rotate_left
        · ((intro w0 hSw); (try dsimp only at hSw); go_simp; (try with_reducible rfl))
        change wpAnyH _ _ _ _ _ _ _ (Act.put _ (some 35) _) _
        try simp only [Act.put, List.setIfInBounds_toArray, List.set_cons_zero, List.set_cons_succ]
        refine wpAnyH_take (i := 5) (v := ?_) rfl (by kernel_rfl) (by kernel_rfl) (by kernel_rfl) (fun _ _ _ h => h) (Or.inl ⟨by rfl, ?_⟩) (by assumption) ?_
        rotate_left
        · ((intro w0 hSw); (try dsimp only at hSw); go_simp; (try with_reducible rfl))
        change wpAnyH _ _ _ _ _ _ _ (Act.put _ (some 36) _) _
        try simp only [Act.put, List.setIfInBounds_toArray, List.set_cons_zero, List.set_cons_succ]
        refine wpAnyH_ready (rs := [7]) (by kernel_rfl) (by simp) ?_
        refine AllReadyH.cons rfl (fun K hK => ?_) (AllReadyH.nil)
        have y0 := HG37.out.c0; have y1 := HG37.out.c1; have y2 := HG37.out.c2; have y3 := HG37.out.c3; have y4 := HG37.out.c4; have f0 := HG37.out.fr 0; have f1 := HG37.out.fr 1; have f2 := HG37.out.fr 2; have f3 := HG37.out.fr 3; have f4 := HG37.out.fr 4; have HS := Lib.hid (HG37.out.set 1 1 2 0 (.slice qz31 2 cz32)); have z0 := HS.out.c0; have z1 := HS.out.c1; have z2 := HS.out.c2; have z3 := HS.out.c3; have z4 := HS.out.c4
        go_simp
        refine hK.out _ _ ?_ (fun hHeld2 => ?_)
        · exact HAll.out _ (st5_below _ _ _ _ _ HLE27.out HB30.out)
        clear hK K hHeld
        have hHeld := hHeld2; clear hHeld2
        try simp only [Act.put, List.setIfInBounds_toArray, List.set_cons_zero, List.set_cons_succ]
        refine wpAnyH_take (i := 8) (v := ?_) rfl (by kernel_rfl) (by kernel_rfl) (by kernel_rfl) (fun _ _ _ h => h) (Or.inl ⟨by rfl, ?_⟩) (by assumption) ?_
        rotate_left
        · ((intro w0 hSw); (try dsimp only at hSw); go_simp; (try with_reducible rfl))
        change wpAnyH _ _ _ _ _ _ _ (Act.put _ (some 8) _) _
        try simp only [Act.put, List.setIfInBounds_toArray, List.set_cons_zero, List.set_cons_succ]
        refine wpAnyH_done (by kernel_rfl) ?_ _
        go_wp2_with fail
        go_meet
        case rel => exact ⟨wn1.heap.size, _, _, rfl, rfl, (HK.out.next (st5_below _ _ _ _ _ HLE27.out HB30.out)).add HS.out ((HU35.out.st5 HLT36.out _ _ _ _ _).rd)⟩
    · go_simp
      refine hK.out _ _ ?_ (fun hHeld2 => ?_)
      · exact HAll.out _ (HB0.out.trans ((bel1 wd _).mono HB0.out.size))
      clear hK K hHeld
      have hHeld := hHeld2; clear hHeld2
      try change wpAnyH _ _ _ _ _ _ _ (Act.put _ (some 7) _) _
      try simp only [Act.put, List.setIfInBounds_toArray, List.set_cons_zero, List.set_cons_succ]
      generalize hwx40 : World.alloc wd _ = wa39 at hHeld ⊢
      have HB41 : Hid (Below W4.heap.size W4 wa39) := by rw [← hwx40]; exact HB0.out.trans ((bel1 wd _).mono HB0.out.size)
      have HG42 : Hid (R5 wa39 wd.heap.size 0 0 0 0 (.slice none 0 0)) := by rw [← hwx40]; exact R5.new _ _ _ _ _ _
      have HLE43 := Lib.hid HB0.out.size
      clear hwx40
      refine wpAnyH_ready (rs := [0]) (by kernel_rfl) (by simp) ?_
      refine AllReadyH.cons rfl (fun K hK => ?_) (AllReadyH.nil)
      go_simp
      go_at_call 34
      with_reducible refine (HI2.out _).mono ?_
      rintro e wn44 ⟨qz46, cz47, rfl, hu48, hb49⟩
      have HB45 := Lib.hid (HB41.out.trans (hb49.mono HB41.out.size))
      refine hK.out _ _ ?_ (fun hHeld2 => ?_)
      · exact HAll.out _ HB45.out
      clear hK K hHeld
      have hHeld := hHeld2; clear hHeld2
      try change wpAnyH _ _ _ _ _ _ _ (Act.put _ (some 32) _) _
      try dsimp only
      try simp only [Act.put, List.setIfInBounds_toArray, List.set_cons_zero, List.set_cons_succ]
      have HG51 := Lib.hid (HG42.out.next hb49)
      have HU50 := Lib.hid hu48.rd
      clear hu48 hb49
      refine wpAnyH_ready (rs := [2]) (by kernel_rfl) (by simp) ?_
      refine AllReadyH.cons rfl (fun K hK => ?_) (AllReadyH.nil)
      go_simp
      go_at_call 20
      with_reducible refine (HTk.out _ _ _ (HK.out.next HB45.out).lay HU50.out (by with_unfolding_all exact (HK.out.next HB45.out).r _ (.tail _ (.tail _ (.tail _ (.head _)))))).mono ?_
      rintro e wn52 ⟨qz54, cz55, rfl, hu56, hb57⟩
      have HB53 := Lib.hid (HB45.out.trans (hb57.mono HB45.out.size))
      refine hK.out _ _ ?_ (fun hHeld2 => ?_)
      · exact HAll.out _ HB53.out
      clear hK K hHeld
      have hHeld := hHeld2; clear hHeld2
      try change wpAnyH _ _ _ _ _ _ _ (Act.put _ (some 34) _) _
      try dsimp only
      try simp only [Act.put, List.setIfInBounds_toArray, List.set_cons_zero, List.set_cons_succ]
      have HLT59 := Lib.hid HG51.out.lt
      have HG60 := Lib.hid (HG51.out.next hb57)
      have HU61 := Lib.hid (HU50.out.next hb57)
      have HU58 := Lib.hid hu56
      clear hu56 hb57
      refine wpAnyH_take (i := 3) (v := ?_) rfl (by kernel_rfl) (by kernel_rfl) (by kernel_rfl) (fun _ _ _ h => h) (Or.inl ⟨by rfl, ?_⟩) (by assumption) ?_
      rotate_left
      · ((intro w0 hSw); (try dsimp only at hSw); go_simp; (try with_reducible rfl))
      change wpAnyH _ _ _ _ _ _ _ (Act.put _ (some 31) _) _
      try simp only [Act.put, List.setIfInBounds_toArray, List.set_cons_zero, List.set_cons_succ]
      refine wpAnyH_take (i := 4) (v := ?_) rfl (by kernel_rfl) (by kernel_rfl) (by kernel_rfl) (fun _ _ _ h => h) (Or.inl ⟨by rfl, ?_⟩) (by assumption) ?_
      rotate_left
      · ((intro w0 hSw); (try dsimp only at hSw); go_simp; (try with_reducible rfl))
      change wpAnyH _ _ _ _ _ _ _ (Act.put _ (some 35) _) _
      try simp only [Act.put, List.setIfInBounds_toArray, List.set_cons_zero, List.set_cons_succ]
      refine wpAnyH_take (i := 5) (v := ?_) rfl (by kernel_rfl) (by kernel_rfl) (by kernel_rfl) (fun _ _ _ h => h) (Or.inl ⟨by rfl, ?_⟩) (by assumption) ?_
      rotate_left
      · ((intro w0 hSw); (try dsimp only at hSw); go_simp; (try with_reducible rfl))
      change wpAnyH _ _ _ _ _ _ _ (Act.put _ (some 36) _) _
      try simp only [Act.put, List.setIfInBounds_toArray, List.set_cons_zero, List.set_cons_succ]
      refine wpAnyH_ready (rs := [7]) (by kernel_rfl) (by simp) ?_
      refine AllReadyH.cons rfl (fun K hK => ?_) (AllReadyH.nil)
      have y0 := HG60.out.c0; have y1 := HG60.out.c1; have y2 := HG60.out.c2; have y3 := HG60.out.c3; have y4 := HG60.out.c4; have f0 := HG60.out.fr 0; have f1 := HG60.out.fr 1; have f2 := HG60.out.fr 2; have f3 := HG60.out.fr 3; have f4 := HG60.out.fr 4; have HS := Lib.hid (HG60.out.set 1 1 2 0 (.slice qz54 2 cz55)); have z0 := HS.out.c0; have z1 := HS.out.c1; have z2 := HS.out.c2; have z3 := HS.out.c3; have z4 := HS.out.c4
      go_simp
      refine hK.out _ _ ?_ (fun hHeld2 => ?_)
      · exact HAll.out _ (st5_below _ _ _ _ _ HLE43.out HB53.out)
      clear hK K hHeld
      have hHeld := hHeld2; clear hHeld2
      try simp only [Act.put, List.setIfInBounds_toArray, List.set_cons_zero, List.set_cons_succ]
      refine wpAnyH_take (i := 8) (v := ?_) rfl (by kernel_rfl) (by kernel_rfl) (by kernel_rfl) (fun _ _ _ h => h) (Or.inl ⟨by rfl, ?_⟩) (by assumption) ?_
      rotate_left
      · ((intro w0 hSw); (try dsimp only at hSw); go_simp; (try with_reducible rfl))
      change wpAnyH _ _ _ _ _ _ _ (Act.put _ (some 8) _) _
      try simp only [Act.put, List.setIfInBounds_toArray, List.set_cons_zero, List.set_cons_succ]
      refine wpAnyH_done (by kernel_rfl) ?_ _
      go_wp2_with fail
      go_meet
      case rel => exact ⟨wd.heap.size, _, _, rfl, rfl, (HK.out.next (st5_below _ _ _ _ _ HLE43.out HB53.out)).add HS.out ((HU58.out.st5 HLT59.out _ _ _ _ _).rd)⟩
  case rest =>
    obtain ⟨g7, q7, c7, rfl, rfl, hk⟩ := hcut
    have HKn := Lib.hid hk
    clear HK hk
    have HK := HKn
    clear HKn
    go_wp2_with fail
    go_cut [9, 10] (fun sp se wx => CutA w [⟨g7, ⟨1, 1, 2, 0, [2, 3]⟩, .slice q7 2 c7⟩, ⟨g4, ⟨1, 2, 3, 2, [1, 4, 2, 5, 3, 6]⟩, .slice q4 6 c4⟩, ⟨g3, ⟨1, 2, 2, 3, [3, 2, 1, 6, 5, 4]⟩, .slice q3 6 c3⟩, ⟨gm, ⟨1, 2, 2, 3, [1, 2, 3, 4, 5, 6]⟩, .slice qm 6 cm⟩, ⟨gv, ⟨1, 1, 3, 0, [1, 2, 3]⟩, .slice qv 3 cv⟩] sp se 1 1 2 0 0 2 [1, 2] wx)
    case first =>
      clear HV HM HRv HFl HI2 HI0 HTk HL2 HGd HM7 HIg HMg HCt HFi
      have HAll : Hid (∀ W, Below wc.heap.size wc W → (fun W => Below wc.heap.size wc W ∧ W.cell? ⟨gv, 0, none⟩ = some (.int .i64 1) ∧ W.cell? ⟨gv, 1, none⟩ = some (.int .i64 1) ∧ W.cell? ⟨gv, 2, none⟩ = some (.int .i64 3) ∧ W.cell? ⟨gv, 3, none⟩ = some (.int .i64 0) ∧ W.cell? ⟨gv, 4, none⟩ = some (.slice qv 3 cv)) W) := fun W h => ⟨h, ((HK.out.next h).a _ (.tail _ (.tail _ (.tail _ (.tail _ (.head _)))))).c0, ((HK.out.next h).a _ (.tail _ (.tail _ (.tail _ (.tail _ (.head _)))))).c1, ((HK.out.next h).a _ (.tail _ (.tail _ (.tail _ (.tail _ (.head _)))))).c2, ((HK.out.next h).a _ (.tail _ (.tail _ (.tail _ (.tail _ (.head _)))))).c3, ((HK.out.next h).a _ (.tail _ (.tail _ (.tail _ (.tail _ (.head _)))))).c4⟩
      refine wp_region_held_drew (S := (fun W => Below wc.heap.size wc W ∧ W.cell? ⟨gv, 0, none⟩ = some (.int .i64 1) ∧ W.cell? ⟨gv, 1, none⟩ = some (.int .i64 1) ∧ W.cell? ⟨gv, 2, none⟩ = some (.int .i64 3) ∧ W.cell? ⟨gv, 3, none⟩ = some (.int .i64 0) ∧ W.cell? ⟨gv, 4, none⟩ = some (.slice qv 3 cv))) (by kernel_rfl) ?_ (fun hHeld => ?_)
      · exact HAll.out _ (Below.refl _ _).drew
      have HB0 : Hid (Below wc.heap.size wc (World.drew wc)) := (Below.refl _ _).drew
      generalize World.drew wc = wd at hHeld HB0 ⊢
      refine wpAnyH_take (i := 1) (v := ?_) rfl (by kernel_rfl) (by kernel_rfl) (by kernel_rfl) (fun _ _ _ h => h) (Or.inl ⟨by rfl, ?_⟩) (by assumption) ?_
      rotate_left
      · ((intro w0 hSw); (try dsimp only at hSw); go_simp; (try with_reducible rfl))
      change wpAnyH _ _ _ _ _ _ _ (Act.put _ (some 39) _) _
      try simp only [Act.put, List.setIfInBounds_toArray, List.set_cons_zero, List.set_cons_succ]
      refine wpAnyH_ready (rs := [0, 6]) (by kernel_rfl) (by simp) ?_
      refine AllReadyH.cons rfl (fun K hK => ?_) (AllReadyH.cons rfl (fun K hK => ?_) (AllReadyH.nil))
      · go_simp
        go_at_call 34
        with_reducible refine (HI1.out _).mono ?_
        rintro e wn62 ⟨qz64, cz65, rfl, hu66, hb67⟩
        have HB63 := Lib.hid (HB0.out.trans (hb67.mono HB0.out.size))
        refine hK.out _ _ ?_ (fun hHeld2 => ?_)
        · exact HAll.out _ HB63.out
        clear hK K hHeld
        have hHeld := hHeld2; clear hHeld2
        try change wpAnyH _ _ _ _ _ _ _ (Act.put _ (some 38) _) _
        try dsimp only
        try simp only [Act.put, List.setIfInBounds_toArray, List.set_cons_zero, List.set_cons_succ]
        have HU68 := Lib.hid hu66.rd
        clear hu66 hb67
        refine wpAnyH_ready (rs := [2, 6]) (by kernel_rfl) (by simp) ?_
        refine AllReadyH.cons rfl (fun K hK => ?_) (AllReadyH.cons rfl (fun K hK => ?_) (AllReadyH.nil))
        · go_simp
          go_at_call 22
          with_reducible refine (HDr.out _ _ _ (HK.out.next HB63.out).lay HU68.out (by with_unfolding_all exact (HK.out.next HB63.out).r _ (.tail _ (.tail _ (.tail _ (.tail _ (.head _))))))).mono ?_
          rintro e wn69 ⟨qz71, cz72, rfl, hu73, hb74⟩
          have HB70 := Lib.hid (HB63.out.trans (hb74.mono HB63.out.size))
          refine hK.out _ _ ?_ (fun hHeld2 => ?_)
          · exact HAll.out _ HB70.out
          clear hK K hHeld
          have hHeld := hHeld2; clear hHeld2
          try change wpAnyH _ _ _ _ _ _ _ (Act.put _ (some 40) _) _
          try dsimp only
          try simp only [Act.put, List.setIfInBounds_toArray, List.set_cons_zero, List.set_cons_succ]
          have HU76 := Lib.hid (HU68.out.next hb74)
          have HU75 := Lib.hid hu73
          clear hu73 hb74
          refine wpAnyH_take (i := 3) (v := ?_) rfl (by kernel_rfl) (by kernel_rfl) (by kernel_rfl) (fun _ _ _ h => h) (Or.inl ⟨by rfl, ?_⟩) (by assumption) ?_
          rotate_left
          · ((intro w0 hSw); (try dsimp only at hSw); go_simp; (try with_reducible rfl))
          change wpAnyH _ _ _ _ _ _ _ (Act.put _ (some 37) _) _
          try simp only [Act.put, List.setIfInBounds_toArray, List.set_cons_zero, List.set_cons_succ]
          refine wpAnyH_take (i := 4) (v := ?_) rfl (by kernel_rfl) (by kernel_rfl) (by kernel_rfl) (fun _ _ _ h => h) (Or.inl ⟨by rfl, ?_⟩) (by assumption) ?_
          rotate_left
          · ((intro w0 hSw); (try dsimp only at hSw); go_simp; (try with_reducible rfl))
          change wpAnyH _ _ _ _ _ _ _ (Act.put _ (some 41) _) _
          try simp only [Act.put, List.setIfInBounds_toArray, List.set_cons_zero, List.set_cons_succ]
          refine wpAnyH_take (i := 5) (v := ?_) rfl (by kernel_rfl) (by kernel_rfl) (by kernel_rfl) (fun _ _ _ h => h) (Or.inl ⟨by rfl, ?_⟩) (by assumption) ?_
          rotate_left
          · ((intro w0 hSw); (try dsimp only at hSw); go_simp; (try with_reducible rfl))
          change wpAnyH _ _ _ _ _ _ _ (Act.put _ (some 42) _) _
          try simp only [Act.put, List.setIfInBounds_toArray, List.set_cons_zero, List.set_cons_succ]
          refine wpAnyH_ready (rs := [6]) (by kernel_rfl) (by simp) ?_
          refine AllReadyH.cons rfl (fun K hK => ?_) (AllReadyH.nil)
          go_simp
          refine hK.out _ _ ?_ (fun hHeld2 => ?_)
          · exact HAll.out _ (HB70.out.trans ((bel1 wn69 _).mono HB70.out.size))
          clear hK K hHeld
          have hHeld := hHeld2; clear hHeld2
          try change wpAnyH _ _ _ _ _ _ _ (Act.put _ (some 9) _) _
          try simp only [Act.put, List.setIfInBounds_toArray, List.set_cons_zero, List.set_cons_succ]
          generalize hwx78 : World.alloc wn69 _ = wa77 at hHeld ⊢
          have HB79 : Hid (Below wc.heap.size wc wa77) := by rw [← hwx78]; exact HB70.out.trans ((bel1 wn69 _).mono HB70.out.size)
          have HG80 : Hid (R5 wa77 wn69.heap.size 0 0 0 0 (.slice none 0 0)) := by rw [← hwx78]; exact R5.new _ _ _ _ _ _
          have HLE81 := Lib.hid HB70.out.size
          have HU82 : Hid (RdI wa77.heap.size wa77 (.slice qz64 1 cz65) [-1]) := by rw [← hwx78]; exact HU76.out.next (bel1 _ _)
          have H983 : Hid (Below wn69.heap.size wn69 wa77) := by rw [← hwx78]; exact bel1 _ _
          clear hwx78
          refine wpAnyH_ready (rs := [7]) (by kernel_rfl) (by simp) ?_
          refine AllReadyH.cons rfl (fun K hK => ?_) (AllReadyH.nil)
          have y0 := HG80.out.c0; have y1 := HG80.out.c1; have y2 := HG80.out.c2; have y3 := HG80.out.c3; have y4 := HG80.out.c4; have f0 := HG80.out.fr 0; have f1 := HG80.out.fr 1; have f2 := HG80.out.fr 2; have f3 := HG80.out.fr 3; have f4 := HG80.out.fr 4; have HS := Lib.hid (HG80.out.set 1 1 2 0 (.slice qz71 2 cz72)); have z0 := HS.out.c0; have z1 := HS.out.c1; have z2 := HS.out.c2; have z3 := HS.out.c3; have z4 := HS.out.c4
          go_simp
          refine hK.out _ _ ?_ (fun hHeld2 => ?_)
          · exact HAll.out _ (st5_below _ _ _ _ _ HLE81.out HB79.out)
          clear hK K hHeld
          have hHeld := hHeld2; clear hHeld2
          try simp only [Act.put, List.setIfInBounds_toArray, List.set_cons_zero, List.set_cons_succ]
          refine wpAnyH_take (i := 8) (v := ?_) rfl (by kernel_rfl) (by kernel_rfl) (by kernel_rfl) (fun _ _ _ h => h) (Or.inl ⟨by rfl, ?_⟩) (by assumption) ?_
          rotate_left
          · ((intro w0 hSw); (try dsimp only at hSw); go_simp; (try with_reducible rfl))
          change wpAnyH _ _ _ _ _ _ _ (Act.put _ (some 10) _) _
          try simp only [Act.put, List.setIfInBounds_toArray, List.set_cons_zero, List.set_cons_succ]
          refine wpAnyH_done (by kernel_rfl) ?_ _
          go_wp2_with fail
          go_meet
          case rel => exact ⟨wn69.heap.size, _, _, rfl, rfl, (HK.out.next (st5_below _ _ _ _ _ HLE81.out HB79.out)).add HS.out (HU75.out.rd.next (st5_below _ _ _ _ _ (Nat.le_refl _) H983.out))⟩
        · go_simp
          refine hK.out _ _ ?_ (fun hHeld2 => ?_)
          · exact HAll.out _ (HB63.out.trans ((bel1 wn62 _).mono HB63.out.size))
          clear hK K hHeld
          have hHeld := hHeld2; clear hHeld2
          try change wpAnyH _ _ _ _ _ _ _ (Act.put _ (some 9) _) _
          try simp only [Act.put, List.setIfInBounds_toArray, List.set_cons_zero, List.set_cons_succ]
          generalize hwx85 : World.alloc wn62 _ = wa84 at hHeld ⊢
          have HB86 : Hid (Below wc.heap.size wc wa84) := by rw [← hwx85]; exact HB63.out.trans ((bel1 wn62 _).mono HB63.out.size)
          have HG87 : Hid (R5 wa84 wn62.heap.size 0 0 0 0 (.slice none 0 0)) := by rw [← hwx85]; exact R5.new _ _ _ _ _ _
          have HLE88 := Lib.hid HB63.out.size
          have HU89 : Hid (RdI wa84.heap.size wa84 (.slice qz64 1 cz65) [-1]) := by rw [← hwx85]; exact HU68.out.next (bel1 _ _)
          clear hwx85
          refine wpAnyH_ready (rs := [2]) (by kernel_rfl) (by simp) ?_
          refine AllReadyH.cons rfl (fun K hK => ?_) (AllReadyH.nil)
          go_simp
          go_at_call 22
          with_reducible refine (HDr.out _ _ _ (HK.out.next HB86.out).lay HU89.out (by with_unfolding_all exact (HK.out.next HB86.out).r _ (.tail _ (.tail _ (.tail _ (.tail _ (.head _))))))).mono ?_
          rintro e wn90 ⟨qz92, cz93, rfl, hu94, hb95⟩
          have HB91 := Lib.hid (HB86.out.trans (hb95.mono HB86.out.size))
          refine hK.out _ _ ?_ (fun hHeld2 => ?_)
          · exact HAll.out _ HB91.out
          clear hK K hHeld
          have hHeld := hHeld2; clear hHeld2
          try change wpAnyH _ _ _ _ _ _ _ (Act.put _ (some 40) _) _
          try dsimp only
          try simp only [Act.put, List.setIfInBounds_toArray, List.set_cons_zero, List.set_cons_succ]
          have HLT97 := Lib.hid HG87.out.lt
          have HG98 := Lib.hid (HG87.out.next hb95)
          have HU99 := Lib.hid (HU89.out.next hb95)
          have HU96 := Lib.hid hu94
          clear hu94 hb95
          refine wpAnyH_take (i := 3) (v := ?_) rfl (by kernel_rfl) (by kernel_rfl) (by kernel_rfl) (fun _ _ _ h => h) (Or.inl ⟨by rfl, ?_⟩) (by assumption) ?_
          rotate_left
          · ((intro w0 hSw); (try dsimp only at hSw); go_simp; (try with_reducible rfl))
          change wpAnyH _ _ _ _ _ _ _ (Act.put _ (some 37) _) _
          try simp only [Act.put, List.setIfInBounds_toArray, List.set_cons_zero, List.set_cons_succ]
          refine wpAnyH_take (i := 4) (v := ?_) rfl (by kernel_rfl) (by kernel_rfl) (by kernel_rfl) (fun _ _ _ h => h) (Or.inl ⟨by rfl, ?_⟩) (by assumption) ?_
          rotate_left
          · ((intro w0 hSw); (try dsimp only at hSw); go_simp; (try with_reducible rfl))
          change wpAnyH _ _ _ _ _ _ _ (Act.put _ (some 41) _) _
          try simp only [Act.put, List.setIfInBounds_toArray, List.set_cons_zero, List.set_cons_succ]
          refine wpAnyH_take (i := 5) (v := ?_) rfl (by kernel_rfl) (by kernel_rfl) (by kernel_rfl) (fun _ _ _ h => h) (Or.inl ⟨by rfl, ?_⟩) (by assumption) ?_
          rotate_left
          · ((intro w0 hSw); (try dsimp only at hSw); go_simp; (try with_reducible rfl))
          change wpAnyH _ _ _ _ _ _ _ (Act.put _ (some 42) _) _
          try simp only [Act.put, List.setIfInBounds_toArray, List.set_cons_zero, List.set_cons_succ]
          refine wpAnyH_ready (rs := [7]) (by kernel_rfl) (by simp) ?_
          refine AllReadyH.cons rfl (fun K hK => ?_) (AllReadyH.nil)
          have y0 := HG98.out.c0; have y1 := HG98.out.c1; have y2 := HG98.out.c2; have y3 := HG98.out.c3; have y4 := HG98.out.c4; have f0 := HG98.out.fr 0; have f1 := HG98.out.fr 1; have f2 := HG98.out.fr 2; have f3 := HG98.out.fr 3; have f4 := HG98.out.fr 4; have HS := Lib.hid (HG98.out.set 1 1 2 0 (.slice qz92 2 cz93)); have z0 := HS.out.c0; have z1 := HS.out.c1; have z2 := HS.out.c2; have z3 := HS.out.c3; have z4 := HS.out.c4
          go_simp
          refine hK.out _ _ ?_ (fun hHeld2 => ?_)
          · exact HAll.out _ (st5_below _ _ _ _ _ HLE88.out HB91.out)
          clear hK K hHeld
          have hHeld := hHeld2; clear hHeld2
          try simp only [Act.put, List.setIfInBounds_toArray, List.set_cons_zero, List.set_cons_succ]
          refine wpAnyH_take (i := 8) (v := ?_) rfl (by kernel_rfl) (by kernel_rfl) (by kernel_rfl) (fun _ _ _ h => h) (Or.inl ⟨by rfl, ?_⟩) (by assumption) ?_
          rotate_left
          · ((intro w0 hSw); (try dsimp only at hSw); go_simp; (try with_reducible rfl))
          change wpAnyH _ _ _ _ _ _ _ (Act.put _ (some 10) _) _
          try simp only [Act.put, List.setIfInBounds_toArray, List.set_cons_zero, List.set_cons_succ]
          refine wpAnyH_done (by kernel_rfl) ?_ _
          go_wp2_with fail
          go_meet
          case rel => exact ⟨wn62.heap.size, _, _, rfl, rfl, (HK.out.next (st5_below _ _ _ _ _ HLE88.out HB91.out)).add HS.out ((HU96.out.st5 HLT97.out _ _ _ _ _).rd)⟩
      · go_simp
        refine hK.out _ _ ?_ (fun hHeld2 => ?_)
        · exact HAll.out _ (HB0.out.trans ((bel1 wd _).mono HB0.out.size))
        clear hK K hHeld
        have hHeld := hHeld2; clear hHeld2
        try change wpAnyH _ _ _ _ _ _ _ (Act.put _ (some 9) _) _
        try simp only [Act.put, List.setIfInBounds_toArray, List.set_cons_zero, List.set_cons_succ]
        generalize hwx101 : World.alloc wd _ = wa100 at hHeld ⊢
        have HB102 : Hid (Below wc.heap.size wc wa100) := by rw [← hwx101]; exact HB0.out.trans ((bel1 wd _).mono HB0.out.size)
        have HG103 : Hid (R5 wa100 wd.heap.size 0 0 0 0 (.slice none 0 0)) := by rw [← hwx101]; exact R5.new _ _ _ _ _ _
        have HLE104 := Lib.hid HB0.out.size
        clear hwx101
        refine wpAnyH_ready (rs := [0]) (by kernel_rfl) (by simp) ?_
        refine AllReadyH.cons rfl (fun K hK => ?_) (AllReadyH.nil)
        go_simp
        go_at_call 34
        with_reducible refine (HI1.out _).mono ?_
        rintro e wn105 ⟨qz107, cz108, rfl, hu109, hb110⟩
        have HB106 := Lib.hid (HB102.out.trans (hb110.mono HB102.out.size))
        refine hK.out _ _ ?_ (fun hHeld2 => ?_)
        · exact HAll.out _ HB106.out
        clear hK K hHeld
        have hHeld := hHeld2; clear hHeld2
        try change wpAnyH _ _ _ _ _ _ _ (Act.put _ (some 38) _) _
        try dsimp only
        try simp only [Act.put, List.setIfInBounds_toArray, List.set_cons_zero, List.set_cons_succ]
        have HG112 := Lib.hid (HG103.out.next hb110)
        have HU111 := Lib.hid hu109.rd
        clear hu109 hb110
        refine wpAnyH_ready (rs := [2]) (by kernel_rfl) (by simp) ?_
        refine AllReadyH.cons rfl (fun K hK => ?_) (AllReadyH.nil)
        go_simp
        go_at_call 22
        with_reducible refine (HDr.out _ _ _ (HK.out.next HB106.out).lay HU111.out (by with_unfolding_all exact (HK.out.next HB106.out).r _ (.tail _ (.tail _ (.tail _ (.tail _ (.head _))))))).mono ?_
        rintro e wn113 ⟨qz115, cz116, rfl, hu117, hb118⟩
        have HB114 := Lib.hid (HB106.out.trans (hb118.mono HB106.out.size))
        refine hK.out _ _ ?_ (fun hHeld2 => ?_)
        · exact HAll.out _ HB114.out
        clear hK K hHeld
        have hHeld := hHeld2; clear hHeld2
        try change wpAnyH _ _ _ _ _ _ _ (Act.put _ (some 40) _) _
        try dsimp only
        try simp only [Act.put, List.setIfInBounds_toArray, List.set_cons_zero, List.set_cons_succ]
        have HLT120 := Lib.hid HG112.out.lt
        have HG121 := Lib.hid (HG112.out.next hb118)
        have HU122 := Lib.hid (HU111.out.next hb118)
        have HU119 := Lib.hid hu117
        clear hu117 hb118
        refine wpAnyH_take (i := 3) (v := ?_) rfl (by kernel_rfl) (by kernel_rfl) (by kernel_rfl) (fun _ _ _ h => h) (Or.inl ⟨by rfl, ?_⟩) (by assumption) ?_
        rotate_left
        · ((intro w0 hSw); (try dsimp only at hSw); go_simp; (try with_reducible rfl))
        change wpAnyH _ _ _ _ _ _ _ (Act.put _ (some 37) _) _
        try simp only [Act.put, List.setIfInBounds_toArray, List.set_cons_zero, List.set_cons_succ]
        refine wpAnyH_take (i := 4) (v := ?_) rfl (by kernel_rfl) (by kernel_rfl) (by kernel_rfl) (fun _ _ _ h => h) (Or.inl ⟨by rfl, ?_⟩) (by assumption) ?_
        rotate_left
        · ((intro w0 hSw); (try dsimp only at hSw); go_simp; (try with_reducible rfl))
        change wpAnyH _ _ _ _ _ _ _ (Act.put _ (some 41) _) _
        try simp only [Act.put, List.setIfInBounds_toArray, List.set_cons_zero, List.set_cons_succ]
        refine wpAnyH_take (i := 5) (v := ?_) rfl (by kernel_rfl) (by kernel_rfl) (by kernel_rfl) (fun _ _ _ h => h) (Or.inl ⟨by rfl, ?_⟩) (by assumption) ?_
        rotate_left
        · ((intro w0 hSw); (try dsimp only at hSw); go_simp; (try with_reducible rfl))
        change wpAnyH _ _ _ _ _ _ _ (Act.put _ (some 42) _) _
        try simp only [Act.put, List.setIfInBounds_toArray, List.set_cons_zero, List.set_cons_succ]
        refine wpAnyH_ready (rs := [7]) (by kernel_rfl) (by simp) ?_
        refine AllReadyH.cons rfl (fun K hK => ?_) (AllReadyH.nil)
        have y0 := HG121.out.c0; have y1 := HG121.out.c1; have y2 := HG121.out.c2; have y3 := HG121.out.c3; have y4 := HG121.out.c4; have f0 := HG121.out.fr 0; have f1 := HG121.out.fr 1; have f2 := HG121.out.fr 2; have f3 := HG121.out.fr 3; have f4 := HG121.out.fr 4; have HS := Lib.hid (HG121.out.set 1 1 2 0 (.slice qz115 2 cz116)); have z0 := HS.out.c0; have z1 := HS.out.c1; have z2 := HS.out.c2; have z3 := HS.out.c3; have z4 := HS.out.c4
        go_simp
        refine hK.out _ _ ?_ (fun hHeld2 => ?_)
        · exact HAll.out _ (st5_below _ _ _ _ _ HLE104.out HB114.out)
        clear hK K hHeld
        have hHeld := hHeld2; clear hHeld2
        try simp only [Act.put, List.setIfInBounds_toArray, List.set_cons_zero, List.set_cons_succ]
        refine wpAnyH_take (i := 8) (v := ?_) rfl (by kernel_rfl) (by kernel_rfl) (by kernel_rfl) (fun _ _ _ h => h) (Or.inl ⟨by rfl, ?_⟩) (by assumption) ?_
        rotate_left
        · ((intro w0 hSw); (try dsimp only at hSw); go_simp; (try with_reducible rfl))
        change wpAnyH _ _ _ _ _ _ _ (Act.put _ (some 10) _) _
        try simp only [Act.put, List.setIfInBounds_toArray, List.set_cons_zero, List.set_cons_succ]
        refine wpAnyH_done (by kernel_rfl) ?_ _
        go_wp2_with fail
        go_meet
        case rel => exact ⟨wd.heap.size, _, _, rfl, rfl, (HK.out.next (st5_below _ _ _ _ _ HLE104.out HB114.out)).add HS.out ((HU119.out.st5 HLT120.out _ _ _ _ _).rd)⟩
    case rest =>
      obtain ⟨g9, q9, c9, rfl, rfl, hk⟩ := hcut
      have HKn := Lib.hid hk
      clear HK hk
      have HK := HKn
      clear HKn
      go_wp2_with fail
      go_cut [11, 12] (fun sp se wx => CutA w [⟨g9, ⟨1, 1, 2, 0, [1, 2]⟩, .slice q9 2 c9⟩, ⟨g7, ⟨1, 1, 2, 0, [2, 3]⟩, .slice q7 2 c7⟩, ⟨g4, ⟨1, 2, 3, 2, [1, 4, 2, 5, 3, 6]⟩, .slice q4 6 c4⟩, ⟨g3, ⟨1, 2, 2, 3, [3, 2, 1, 6, 5, 4]⟩, .slice q3 6 c3⟩, ⟨gm, ⟨1, 2, 2, 3, [1, 2, 3, 4, 5, 6]⟩, .slice qm 6 cm⟩, ⟨gv, ⟨1, 1, 3, 0, [1, 2, 3]⟩, .slice qv 3 cv⟩] sp se 1 2 2 2 0 4 [1, 2, 3, 1] wx)
      case first =>
        clear HV HM HRv HFl HI2 HI1 HI0 HTk HDr HL2 HM7 HMg HCt HFi
        have HAll : Hid (∀ W, Below wc.heap.size wc W → (fun W => Below wc.heap.size wc W ∧ W.cell? ⟨gv, 0, none⟩ = some (.int .i64 1) ∧ W.cell? ⟨gv, 1, none⟩ = some (.int .i64 1) ∧ W.cell? ⟨gv, 2, none⟩ = some (.int .i64 3) ∧ W.cell? ⟨gv, 3, none⟩ = some (.int .i64 0) ∧ W.cell? ⟨gv, 4, none⟩ = some (.slice qv 3 cv)) W) := fun W h => ⟨h, ((HK.out.next h).a _ (.tail _ (.tail _ (.tail _ (.tail _ (.tail _ (.head _))))))).c0, ((HK.out.next h).a _ (.tail _ (.tail _ (.tail _ (.tail _ (.tail _ (.head _))))))).c1, ((HK.out.next h).a _ (.tail _ (.tail _ (.tail _ (.tail _ (.tail _ (.head _))))))).c2, ((HK.out.next h).a _ (.tail _ (.tail _ (.tail _ (.tail _ (.tail _ (.head _))))))).c3, ((HK.out.next h).a _ (.tail _ (.tail _ (.tail _ (.tail _ (.tail _ (.head _))))))).c4⟩
        refine wp_region_held_drew (S := (fun W => Below wc.heap.size wc W ∧ W.cell? ⟨gv, 0, none⟩ = some (.int .i64 1) ∧ W.cell? ⟨gv, 1, none⟩ = some (.int .i64 1) ∧ W.cell? ⟨gv, 2, none⟩ = some (.int .i64 3) ∧ W.cell? ⟨gv, 3, none⟩ = some (.int .i64 0) ∧ W.cell? ⟨gv, 4, none⟩ = some (.slice qv 3 cv))) (by kernel_rfl) ?_ (fun hHeld => ?_)
        · exact HAll.out _ (Below.refl _ _).drew
        have HB0 : Hid (Below wc.heap.size wc (World.drew wc)) := (Below.refl _ _).drew
        generalize World.drew wc = wd at hHeld HB0 ⊢
        refine wpAnyH_take (i := 2) (v := ?_) rfl (by kernel_rfl) (by kernel_rfl) (by kernel_rfl) (fun _ _ _ h => h) (Or.inl ⟨by rfl, ?_⟩) (by assumption) ?_
        rotate_left
        · ((intro w0 hSw); (try dsimp only at hSw); go_simp; (try with_reducible rfl))
        change wpAnyH _ _ _ _ _ _ _ (Act.put _ (some 46) _) _
        try simp only [Act.put, List.setIfInBounds_toArray, List.set_cons_zero, List.set_cons_succ]
        refine wpAnyH_ready (rs := [0, 7]) (by kernel_rfl) (by simp) ?_
        refine AllReadyH.cons rfl (fun K hK => ?_) (AllReadyH.cons rfl (fun K hK => ?_) (AllReadyH.nil))
        · go_simp
          refine hK.out _ _ ?_ (fun hHeld2 => ?_)
          · exact HAll.out _ (HB0.out.trans ((bel1 wd _).mono HB0.out.size))
          clear hK K hHeld
          have hHeld := hHeld2; clear hHeld2
          try change wpAnyH _ _ _ _ _ _ _ (Act.put _ (some 44) _) _
          try simp only [Act.put, List.setIfInBounds_toArray, List.set_cons_zero, List.set_cons_succ]
          generalize hwx125 : World.alloc wd _ = wn123 at hHeld ⊢
          have HB124 : Hid (Below wc.heap.size wc wn123) := by rw [← hwx125]; exact HB0.out.trans ((bel1 wd _).mono HB0.out.size)
          have HU126 : Hid (RdI wn123.heap.size wn123 (.slice (some ⟨wd.heap.size, 0, none⟩) 2 2) [2, 2]) := by rw [← hwx125]; exact blk_rd (l := [2, 2]) rfl (by decide) (heap_alloc_last wd _)
          clear hwx125
          refine wpAnyH_ready (rs := [1, 7]) (by kernel_rfl) (by simp) ?_
          refine AllReadyH.cons rfl (fun K hK => ?_) (AllReadyH.cons rfl (fun K hK => ?_) (AllReadyH.nil))
          · go_simp
            go_at_call 35
            with_reducible refine (HIg.out _ _ HU126.out (nil_some _ _ _)).mono ?_
            rintro e wn127 ⟨qz129, cz130, rfl, hu131, hb132⟩
            have HB128 := Lib.hid (HB124.out.trans (hb132.mono HB124.out.size))
            refine hK.out _ _ ?_ (fun hHeld2 => ?_)
            · exact HAll.out _ HB128.out
            clear hK K hHeld
            have hHeld := hHeld2; clear hHeld2
            try change wpAnyH _ _ _ _ _ _ _ (Act.put _ (some 45) _) _
            try dsimp only
            try simp only [Act.put, List.setIfInBounds_toArray, List.set_cons_zero, List.set_cons_succ]
            have HU134 := Lib.hid (HU126.out.next hb132)
            have HU133 := Lib.hid hu131.rd
            clear hu131 hb132
            refine wpAnyH_ready (rs := [3, 7]) (by kernel_rfl) (by simp) ?_
            refine AllReadyH.cons rfl (fun K hK => ?_) (AllReadyH.cons rfl (fun K hK => ?_) (AllReadyH.nil))
            · go_simp
              go_at_call 26
              with_reducible refine (HGd.out _ _ _ (HK.out.next HB128.out).lay HU133.out (by with_unfolding_all exact (HK.out.next HB128.out).r _ (.tail _ (.tail _ (.tail _ (.tail _ (.tail _ (.head _)))))))).mono ?_
              rintro e wn135 ⟨qz137, cz138, rfl, hu139, hb140⟩
              have HB136 := Lib.hid (HB128.out.trans (hb140.mono HB128.out.size))
              refine hK.out _ _ ?_ (fun hHeld2 => ?_)
              · exact HAll.out _ HB136.out
              clear hK K hHeld
              have hHeld := hHeld2; clear hHeld2
              try change wpAnyH _ _ _ _ _ _ _ (Act.put _ (some 47) _) _
              try dsimp only
              try simp only [Act.put, List.setIfInBounds_toArray, List.set_cons_zero, List.set_cons_succ]
              have HU142 := Lib.hid (HU134.out.next hb140)
              have HU143 := Lib.hid (HU133.out.next hb140)
              have HU141 := Lib.hid hu139
              clear hu139 hb140
              refine wpAnyH_take (i := 4) (v := ?_) rfl (by kernel_rfl) (by kernel_rfl) (by kernel_rfl) (fun _ _ _ h => h) (Or.inl ⟨by rfl, ?_⟩) (by assumption) ?_
              rotate_left
              · ((intro w0 hSw); (try dsimp only at hSw); go_simp; (try with_reducible rfl))
              change wpAnyH _ _ _ _ _ _ _ (Act.put _ (some 43) _) _
              try simp only [Act.put, List.setIfInBounds_toArray, List.set_cons_zero, List.set_cons_succ]
              refine wpAnyH_take (i := 5) (v := ?_) rfl (by kernel_rfl) (by kernel_rfl) (by kernel_rfl) (fun _ _ _ h => h) (Or.inl ⟨by rfl, ?_⟩) (by assumption) ?_
              rotate_left
              · ((intro w0 hSw); (try dsimp only at hSw); go_simp; (try with_reducible rfl))
              change wpAnyH _ _ _ _ _ _ _ (Act.put _ (some 48) _) _
              try simp only [Act.put, List.setIfInBounds_toArray, List.set_cons_zero, List.set_cons_succ]
              refine wpAnyH_take (i := 6) (v := ?_) rfl (by kernel_rfl) (by kernel_rfl) (by kernel_rfl) (fun _ _ _ h => h) (Or.inl ⟨by rfl, ?_⟩) (by assumption) ?_
              rotate_left
              · ((intro w0 hSw); (try dsimp only at hSw); go_simp; (try with_reducible rfl))
              change wpAnyH _ _ _ _ _ _ _ (Act.put _ (some 49) _) _
              try simp only [Act.put, List.setIfInBounds_toArray, List.set_cons_zero, List.set_cons_succ]
              refine wpAnyH_ready (rs := [7]) (by kernel_rfl) (by simp) ?_
              refine AllReadyH.cons rfl (fun K hK => ?_) (AllReadyH.nil)
              go_simp
              refine hK.out _ _ ?_ (fun hHeld2 => ?_)
              · exact HAll.out _ (HB136.out.trans ((bel1 wn135 _).mono HB136.out.size))
              clear hK K hHeld
              have hHeld := hHeld2; clear hHeld2
              try change wpAnyH _ _ _ _ _ _ _ (Act.put _ (some 11) _) _
              try simp only [Act.put, List.setIfInBounds_toArray, List.set_cons_zero, List.set_cons_succ]
              generalize hwx145 : World.alloc wn135 _ = wa144 at hHeld ⊢
              have HB146 : Hid (Below wc.heap.size wc wa144) := by rw [← hwx145]; exact HB136.out.trans ((bel1 wn135 _).mono HB136.out.size)
              have HG147 : Hid (R5 wa144 wn135.heap.size 0 0 0 0 (.slice none 0 0)) := by rw [← hwx145]; exact R5.new _ _ _ _ _ _
              have HLE148 := Lib.hid HB136.out.size
              have HU149 : Hid (RdI wa144.heap.size wa144 (.slice (some ⟨wd.heap.size, 0, none⟩) 2 2) [2, 2]) := by rw [← hwx145]; exact HU142.out.next (bel1 _ _)
              have HU150 : Hid (RdI wa144.heap.size wa144 (.slice qz129 2 cz130) [2, 2]) := by rw [← hwx145]; exact HU143.out.next (bel1 _ _)
              have H9151 : Hid (Below wn135.heap.size wn135 wa144) := by rw [← hwx145]; exact bel1 _ _
              clear hwx145
              refine wpAnyH_ready (rs := [8]) (by kernel_rfl) (by simp) ?_
              refine AllReadyH.cons rfl (fun K hK => ?_) (AllReadyH.nil)
              have y0 := HG147.out.c0; have y1 := HG147.out.c1; have y2 := HG147.out.c2; have y3 := HG147.out.c3; have y4 := HG147.out.c4; have f0 := HG147.out.fr 0; have f1 := HG147.out.fr 1; have f2 := HG147.out.fr 2; have f3 := HG147.out.fr 3; have f4 := HG147.out.fr 4; have HS := Lib.hid (HG147.out.set 1 2 2 2 (.slice qz137 4 cz138)); have z0 := HS.out.c0; have z1 := HS.out.c1; have z2 := HS.out.c2; have z3 := HS.out.c3; have z4 := HS.out.c4
              go_simp
              refine hK.out _ _ ?_ (fun hHeld2 => ?_)
              · exact HAll.out _ (st5_below _ _ _ _ _ HLE148.out HB146.out)
              clear hK K hHeld
              have hHeld := hHeld2; clear hHeld2
              try simp only [Act.put, List.setIfInBounds_toArray, List.set_cons_zero, List.set_cons_succ]
              refine wpAnyH_take (i := 9) (v := ?_) rfl (by kernel_rfl) (by kernel_rfl) (by kernel_rfl) (fun _ _ _ h => h) (Or.inl ⟨by rfl, ?_⟩) (by assumption) ?_
              rotate_left
              · ((intro w0 hSw); (try dsimp only at hSw); go_simp; (try with_reducible rfl))
              change wpAnyH _ _ _ _ _ _ _ (Act.put _ (some 12) _) _
              try simp only [Act.put, List.setIfInBounds_toArray, List.set_cons_zero, List.set_cons_succ]
              refine wpAnyH_done (by kernel_rfl) ?_ _
              go_wp2_with fail
              go_meet
              case rel => exact ⟨wn135.heap.size, _, _, rfl, rfl, (HK.out.next (st5_below _ _ _ _ _ HLE148.out HB146.out)).add HS.out (HU141.out.rd.next (st5_below _ _ _ _ _ (Nat.le_refl _) H9151.out))⟩
            · go_simp
              refine hK.out _ _ ?_ (fun hHeld2 => ?_)
              · exact HAll.out _ (HB128.out.trans ((bel1 wn127 _).mono HB128.out.size))
              clear hK K hHeld
              have hHeld := hHeld2; clear hHeld2
              try change wpAnyH _ _ _ _ _ _ _ (Act.put _ (some 11) _) _
              try simp only [Act.put, List.setIfInBounds_toArray, List.set_cons_zero, List.set_cons_succ]
              generalize hwx153 : World.alloc wn127 _ = wa152 at hHeld ⊢
              have HB154 : Hid (Below wc.heap.size wc wa152) := by rw [← hwx153]; exact HB128.out.trans ((bel1 wn127 _).mono HB128.out.size)
              have HG155 : Hid (R5 wa152 wn127.heap.size 0 0 0 0 (.slice none 0 0)) := by rw [← hwx153]; exact R5.new _ _ _ _ _ _
              have HLE156 := Lib.hid HB128.out.size
              have HU157 : Hid (RdI wa152.heap.size wa152 (.slice (some ⟨wd.heap.size, 0, none⟩) 2 2) [2, 2]) := by rw [← hwx153]; exact HU134.out.next (bel1 _ _)
              have HU158 : Hid (RdI wa152.heap.size wa152 (.slice qz129 2 cz130) [2, 2]) := by rw [← hwx153]; exact HU133.out.next (bel1 _ _)
              clear hwx153
              refine wpAnyH_ready (rs := [3]) (by kernel_rfl) (by simp) ?_
              refine AllReadyH.cons rfl (fun K hK => ?_) (AllReadyH.nil)
              go_simp
              go_at_call 26
              with_reducible refine (HGd.out _ _ _ (HK.out.next HB154.out).lay HU158.out (by with_unfolding_all exact (HK.out.next HB154.out).r _ (.tail _ (.tail _ (.tail _ (.tail _ (.tail _ (.head _)))))))).mono ?_
              rintro e wn159 ⟨qz161, cz162, rfl, hu163, hb164⟩
              have HB160 := Lib.hid (HB154.out.trans (hb164.mono HB154.out.size))
              refine hK.out _ _ ?_ (fun hHeld2 => ?_)
              · exact HAll.out _ HB160.out
              clear hK K hHeld
              have hHeld := hHeld2; clear hHeld2
              try change wpAnyH _ _ _ _ _ _ _ (Act.put _ (some 47) _) _
              try dsimp only
              try simp only [Act.put, List.setIfInBounds_toArray, List.set_cons_zero, List.set_cons_succ]
              have HLT166 := Lib.hid HG155.out.lt
              have HG167 := Lib.hid (HG155.out.next hb164)
              have HU168 := Lib.hid (HU157.out.next hb164)
              have HU169 := Lib.hid (HU158.out.next hb164)
              have HU165 := Lib.hid hu163
              clear hu163 hb164
              refine wpAnyH_take (i := 4) (v := ?_) rfl (by kernel_rfl) (by kernel_rfl) (by kernel_rfl) (fun _ _ _ h => h) (Or.inl ⟨by rfl, ?_⟩) (by assumption) ?_
              rotate_left
              · ((intro w0 hSw); (try dsimp only at hSw); go_simp; (try with_reducible rfl))
              change wpAnyH _ _ _ _ _ _ _ (Act.put _ (some 43) _) _
              try simp only [Act.put, List.setIfInBounds_toArray, List.set_cons_zero, List.set_cons_succ]
              refine wpAnyH_take (i := 5) (v := ?_) rfl (by kernel_rfl) (by kernel_rfl) (by kernel_rfl) (fun _ _ _ h => h) (Or.inl ⟨by rfl, ?_⟩) (by assumption) ?_
              rotate_left
              · ((intro w0 hSw); (try dsimp only at hSw); go_simp; (try with_reducible rfl))
              change wpAnyH _ _ _ _ _ _ _ (Act.put _ (some 48) _) _
              try simp only [Act.put, List.setIfInBounds_toArray, List.set_cons_zero, List.set_cons_succ]
              refine wpAnyH_take (i := 6) (v := ?_) rfl (by kernel_rfl) (by kernel_rfl) (by kernel_rfl) (fun _ _ _ h => h) (Or.inl ⟨by rfl, ?_⟩) (by assumption) ?_
              rotate_left
              · ((intro w0 hSw); (try dsimp only at hSw); go_simp; (try with_reducible rfl))
              change wpAnyH _ _ _ _ _ _ _ (Act.put _ (some 49) _) _
              try simp only [Act.put, List.setIfInBounds_toArray, List.set_cons_zero, List.set_cons_succ]
              refine wpAnyH_ready (rs := [8]) (by kernel_rfl) (by simp) ?_
              refine AllReadyH.cons rfl (fun K hK => ?_) (AllReadyH.nil)
              have y0 := HG167.out.c0; have y1 := HG167.out.c1; have y2 := HG167.out.c2; have y3 := HG167.out.c3; have y4 := HG167.out.c4; have f0 := HG167.out.fr 0; have f1 := HG167.out.fr 1; have f2 := HG167.out.fr 2; have f3 := HG167.out.fr 3; have f4 := HG167.out.fr 4; have HS := Lib.hid (HG167.out.set 1 2 2 2 (.slice qz161 4 cz162)); have z0 := HS.out.c0; have z1 := HS.out.c1; have z2 := HS.out.c2; have z3 := HS.out.c3; have z4 := HS.out.c4
              go_simp
              refine hK.out _ _ ?_ (fun hHeld2 => ?_)
              · exact HAll.out _ (st5_below _ _ _ _ _ HLE156.out HB160.out)
              clear hK K hHeld
              have hHeld := hHeld2; clear hHeld2
              try simp only [Act.put, List.setIfInBounds_toArray, List.set_cons_zero, List.set_cons_succ]
              refine wpAnyH_take (i := 9) (v := ?_) rfl (by kernel_rfl) (by kernel_rfl) (by kernel_rfl) (fun _ _ _ h => h) (Or.inl ⟨by rfl, ?_⟩) (by assumption) ?_
              rotate_left
              · ((intro w0 hSw); (try dsimp only at hSw); go_simp; (try with_reducible rfl))
              change wpAnyH _ _ _ _ _ _ _ (Act.put _ (some 12) _) _
              try simp only [Act.put, List.setIfInBounds_toArray, List.set_cons_zero, List.set_cons_succ]
              refine wpAnyH_done (by kernel_rfl) ?_ _
              go_wp2_with fail
              go_meet
              case rel => exact ⟨wn127.heap.size, _, _, rfl, rfl, (HK.out.next (st5_below _ _ _ _ _ HLE156.out HB160.out)).add HS.out ((HU165.out.st5 HLT166.out _ _ _ _ _).rd)⟩
          · go_simp
            refine hK.out _ _ ?_ (fun hHeld2 => ?_)
            · exact HAll.out _ (HB124.out.trans ((bel1 wn123 _).mono HB124.out.size))
            clear hK K hHeld
            have hHeld := hHeld2; clear hHeld2
            try change wpAnyH _ _ _ _ _ _ _ (Act.put _ (some 11) _) _
            try simp only [Act.put, List.setIfInBounds_toArray, List.set_cons_zero, List.set_cons_succ]
            generalize hwx171 : World.alloc wn123 _ = wa170 at hHeld ⊢
            have HB172 : Hid (Below wc.heap.size wc wa170) := by rw [← hwx171]; exact HB124.out.trans ((bel1 wn123 _).mono HB124.out.size)
            have HG173 : Hid (R5 wa170 wn123.heap.size 0 0 0 0 (.slice none 0 0)) := by rw [← hwx171]; exact R5.new _ _ _ _ _ _
            have HLE174 := Lib.hid HB124.out.size
            have HU175 : Hid (RdI wa170.heap.size wa170 (.slice (some ⟨wd.heap.size, 0, none⟩) 2 2) [2, 2]) := by rw [← hwx171]; exact HU126.out.next (bel1 _ _)
            clear hwx171
            refine wpAnyH_ready (rs := [1]) (by kernel_rfl) (by simp) ?_
            refine AllReadyH.cons rfl (fun K hK => ?_) (AllReadyH.nil)
            go_simp
            go_at_call 35
            with_reducible refine (HIg.out _ _ HU175.out (nil_some _ _ _)).mono ?_
            rintro e wn176 ⟨qz178, cz179, rfl, hu180, hb181⟩
            have HB177 := Lib.hid (HB172.out.trans (hb181.mono HB172.out.size))
            refine hK.out _ _ ?_ (fun hHeld2 => ?_)
            · exact HAll.out _ HB177.out
            clear hK K hHeld
            have hHeld := hHeld2; clear hHeld2
            try change wpAnyH _ _ _ _ _ _ _ (Act.put _ (some 45) _) _
            try dsimp only
            try simp only [Act.put, List.setIfInBounds_toArray, List.set_cons_zero, List.set_cons_succ]
            have HG183 := Lib.hid (HG173.out.next hb181)
            have HU184 := Lib.hid (HU175.out.next hb181)
            have HU182 := Lib.hid hu180.rd
            clear hu180 hb181
            refine wpAnyH_ready (rs := [3]) (by kernel_rfl) (by simp) ?_
            refine AllReadyH.cons rfl (fun K hK => ?_) (AllReadyH.nil)
            go_simp
            go_at_call 26
            with_reducible refine (HGd.out _ _ _ (HK.out.next HB177.out).lay HU182.out (by with_unfolding_all exact (HK.out.next HB177.out).r _ (.tail _ (.tail _ (.tail _ (.tail _ (.tail _ (.head _)))))))).mono ?_
            rintro e wn185 ⟨qz187, cz188, rfl, hu189, hb190⟩
            have HB186 := Lib.hid (HB177.out.trans (hb190.mono HB177.out.size))
            refine hK.out _ _ ?_ (fun hHeld2 => ?_)
            · exact HAll.out _ HB186.out
            clear hK K hHeld
            have hHeld := hHeld2; clear hHeld2
            try change wpAnyH _ _ _ _ _ _ _ (Act.put _ (some 47) _) _
            try dsimp only
            try simp only [Act.put, List.setIfInBounds_toArray, List.set_cons_zero, List.set_cons_succ]
            have HLT192 := Lib.hid HG183.out.lt
            have HG193 := Lib.hid (HG183.out.next hb190)
            have HU194 := Lib.hid (HU184.out.next hb190)
            have HU195 := Lib.hid (HU182.out.next hb190)
            have HU191 := Lib.hid hu189
            clear hu189 hb190
            refine wpAnyH_take (i := 4) (v := ?_) rfl (by kernel_rfl) (by kernel_rfl) (by kernel_rfl) (fun _ _ _ h => h) (Or.inl ⟨by rfl, ?_⟩) (by assumption) ?_
            rotate_left
            · ((intro w0 hSw); (try dsimp only at hSw); go_simp; (try with_reducible rfl))
            change wpAnyH _ _ _ _ _ _ _ (Act.put _ (some 43) _) _
            try simp only [Act.put, List.setIfInBounds_toArray, List.set_cons_zero, List.set_cons_succ]
            refine wpAnyH_take (i := 5) (v := ?_) rfl (by kernel_rfl) (by kernel_rfl) (by kernel_rfl) (fun _ _ _ h => h) (Or.inl ⟨by rfl, ?_⟩) (by assumption) ?_
            rotate_left
            · ((intro w0 hSw); (try dsimp only at hSw); go_simp; (try with_reducible rfl))
            change wpAnyH _ _ _ _ _ _ _ (Act.put _ (some 48) _) _
            try simp only [Act.put, List.setIfInBounds_toArray, List.set_cons_zero, List.set_cons_succ]
            refine wpAnyH_take (i := 6) (v := ?_) rfl (by kernel_rfl) (by kernel_rfl) (by kernel_rfl) (fun _ _ _ h => h) (Or.inl ⟨by rfl, ?_⟩) (by assumption) ?_
            rotate_left
            · ((intro w0 hSw); (try dsimp only at hSw); go_simp; (try with_reducible rfl))
            change wpAnyH _ _ _ _ _ _ _ (Act.put _ (some 49) _) _
            try simp only [Act.put, List.setIfInBounds_toArray, List.set_cons_zero, List.set_cons_succ]
            refine wpAnyH_ready (rs := [8]) (by kernel_rfl) (by simp) ?_
            refine AllReadyH.cons rfl (fun K hK => ?_) (AllReadyH.nil)
            have y0 := HG193.out.c0; have y1 := HG193.out.c1; have y2 := HG193.out.c2; have y3 := HG193.out.c3; have y4 := HG193.out.c4; have f0 := HG193.out.fr 0; have f1 := HG193.out.fr 1; have f2 := HG193.out.fr 2; have f3 := HG193.out.fr 3; have f4 := HG193.out.fr 4; have HS := Lib.hid (HG193.out.set 1 2 2 2 (.slice qz187 4 cz188)); have z0 := HS.out.c0; have z1 := HS.out.c1; have z2 := HS.out.c2; have z3 := HS.out.c3; have z4 := HS.out.c4
            go_simp
            refine hK.out _ _ ?_ (fun hHeld2 => ?_)
            · exact HAll.out _ (st5_below _ _ _ _ _ HLE174.out HB186.out)
            clear hK K hHeld
            have hHeld := hHeld2; clear hHeld2
            try simp only [Act.put, List.setIfInBounds_toArray, List.set_cons_zero, List.set_cons_succ]
            refine wpAnyH_take (i := 9) (v := ?_) rfl (by kernel_rfl) (by kernel_rfl) (by kernel_rfl) (fun _ _ _ h => h) (Or.inl ⟨by rfl, ?_⟩) (by assumption) ?_
            rotate_left
            · ((intro w0 hSw); (try dsimp only at hSw); go_simp; (try with_reducible rfl))
            change wpAnyH _ _ _ _ _ _ _ (Act.put _ (some 12) _) _
            try simp only [Act.put, List.setIfInBounds_toArray, List.set_cons_zero, List.set_cons_succ]
            refine wpAnyH_done (by kernel_rfl) ?_ _
            go_wp2_with fail
            go_meet
            case rel => exact ⟨wn123.heap.size, _, _, rfl, rfl, (HK.out.next (st5_below _ _ _ _ _ HLE174.out HB186.out)).add HS.out ((HU191.out.st5 HLT192.out _ _ _ _ _).rd)⟩
        · go_simp
          refine hK.out _ _ ?_ (fun hHeld2 => ?_)
          · exact HAll.out _ (HB0.out.trans ((bel1 wd _).mono HB0.out.size))
          clear hK K hHeld
          have hHeld := hHeld2; clear hHeld2
          try change wpAnyH _ _ _ _ _ _ _ (Act.put _ (some 11) _) _
          try simp only [Act.put, List.setIfInBounds_toArray, List.set_cons_zero, List.set_cons_succ]
          generalize hwx197 : World.alloc wd _ = wa196 at hHeld ⊢
          have HB198 : Hid (Below wc.heap.size wc wa196) := by rw [← hwx197]; exact HB0.out.trans ((bel1 wd _).mono HB0.out.size)
          have HG199 : Hid (R5 wa196 wd.heap.size 0 0 0 0 (.slice none 0 0)) := by rw [← hwx197]; exact R5.new _ _ _ _ _ _
          have HLE200 := Lib.hid HB0.out.size
          clear hwx197
          refine wpAnyH_ready (rs := [0]) (by kernel_rfl) (by simp) ?_
          refine AllReadyH.cons rfl (fun K hK => ?_) (AllReadyH.nil)
          go_simp
          refine hK.out _ _ ?_ (fun hHeld2 => ?_)
          · exact HAll.out _ (HB198.out.trans ((bel1 wa196 _).mono HB198.out.size))
          clear hK K hHeld
          have hHeld := hHeld2; clear hHeld2
          try change wpAnyH _ _ _ _ _ _ _ (Act.put _ (some 44) _) _
          try simp only [Act.put, List.setIfInBounds_toArray, List.set_cons_zero, List.set_cons_succ]
          generalize hwx203 : World.alloc wa196 _ = wn201 at hHeld ⊢
          have HB202 : Hid (Below wc.heap.size wc wn201) := by rw [← hwx203]; exact HB198.out.trans ((bel1 wa196 _).mono HB198.out.size)
          have HU204 : Hid (RdI wn201.heap.size wn201 (.slice (some ⟨wa196.heap.size, 0, none⟩) 2 2) [2, 2]) := by rw [← hwx203]; exact blk_rd (l := [2, 2]) rfl (by decide) (heap_alloc_last wa196 _)
          have HG205 : Hid (R5 wn201 wd.heap.size 0 0 0 0 (.slice none 0 0)) := by rw [← hwx203]; exact HG199.out.next (bel1 _ _)
          clear hwx203
          refine wpAnyH_ready (rs := [1]) (by kernel_rfl) (by simp) ?_
          refine AllReadyH.cons rfl (fun K hK => ?_) (AllReadyH.nil)
          go_simp
          go_at_call 35
          with_reducible refine (HIg.out _ _ HU204.out (nil_some _ _ _)).mono ?_
          rintro e wn206 ⟨qz208, cz209, rfl, hu210, hb211⟩
          have HB207 := Lib.hid (HB202.out.trans (hb211.mono HB202.out.size))
          refine hK.out _ _ ?_ (fun hHeld2 => ?_)
          · exact HAll.out _ HB207.out
          clear hK K hHeld
          have hHeld := hHeld2; clear hHeld2
          try change wpAnyH _ _ _ _ _ _ _ (Act.put _ (some 45) _) _
          try dsimp only
          try simp only [Act.put, List.setIfInBounds_toArray, List.set_cons_zero, List.set_cons_succ]
          have HG213 := Lib.hid (HG205.out.next hb211)
          have HU214 := Lib.hid (HU204.out.next hb211)
          have HU212 := Lib.hid hu210.rd
          clear hu210 hb211
          refine wpAnyH_ready (rs := [3]) (by kernel_rfl) (by simp) ?_
          refine AllReadyH.cons rfl (fun K hK => ?_) (AllReadyH.nil)
          go_simp
          go_at_call 26
          with_reducible refine (HGd.out _ _ _ (HK.out.next HB207.out).lay HU212.out (by with_unfolding_all exact (HK.out.next HB207.out).r _ (.tail _ (.tail _ (.tail _ (.tail _ (.tail _ (.head _)))))))).mono ?_
          rintro e wn215 ⟨qz217, cz218, rfl, hu219, hb220⟩
          have HB216 := Lib.hid (HB207.out.trans (hb220.mono HB207.out.size))
          refine hK.out _ _ ?_ (fun hHeld2 => ?_)
          · exact HAll.out _ HB216.out
          clear hK K hHeld
          have hHeld := hHeld2; clear hHeld2
          try change wpAnyH _ _ _ _ _ _ _ (Act.put _ (some 47) _) _
          try dsimp only
          try simp only [Act.put, List.setIfInBounds_toArray, List.set_cons_zero, List.set_cons_succ]
          have HLT222 := Lib.hid HG213.out.lt
          have HG223 := Lib.hid (HG213.out.next hb220)
          have HU224 := Lib.hid (HU214.out.next hb220)
          have HU225 := Lib.hid (HU212.out.next hb220)
          have HU221 := Lib.hid hu219
          clear hu219 hb220
          refine wpAnyH_take (i := 4) (v := ?_) rfl (by kernel_rfl) (by kernel_rfl) (by kernel_rfl) (fun _ _ _ h => h) (Or.inl ⟨by rfl, ?_⟩) (by assumption) ?_
          rotate_left
          · ((intro w0 hSw); (try dsimp only at hSw); go_simp; (try with_reducible rfl))
          change wpAnyH _ _ _ _ _ _ _ (Act.put _ (some 43) _) _
          try simp only [Act.put, List.setIfInBounds_toArray, List.set_cons_zero, List.set_cons_succ]
          refine wpAnyH_take (i := 5) (v := ?_) rfl (by kernel_rfl) (by kernel_rfl) (by kernel_rfl) (fun _ _ _ h => h) (Or.inl ⟨by rfl, ?_⟩) (by assumption) ?_
          rotate_left
          · ((intro w0 hSw); (try dsimp only at hSw); go_simp; (try with_reducible rfl))
          change wpAnyH _ _ _ _ _ _ _ (Act.put _ (some 48) _) _
          try simp only [Act.put, List.setIfInBounds_toArray, List.set_cons_zero, List.set_cons_succ]
          refine wpAnyH_take (i := 6) (v := ?_) rfl (by kernel_rfl) (by kernel_rfl) (by kernel_rfl) (fun _ _ _ h => h) (Or.inl ⟨by rfl, ?_⟩) (by assumption) ?_
          rotate_left
          · ((intro w0 hSw); (try dsimp only at hSw); go_simp; (try with_reducible rfl))
          change wpAnyH _ _ _ _ _ _ _ (Act.put _ (some 49) _) _
          try simp only [Act.put, List.setIfInBounds_toArray, List.set_cons_zero, List.set_cons_succ]
          refine wpAnyH_ready (rs := [8]) (by kernel_rfl) (by simp) ?_
          refine AllReadyH.cons rfl (fun K hK => ?_) (AllReadyH.nil)
          have y0 := HG223.out.c0; have y1 := HG223.out.c1; have y2 := HG223.out.c2; have y3 := HG223.out.c3; have y4 := HG223.out.c4; have f0 := HG223.out.fr 0; have f1 := HG223.out.fr 1; have f2 := HG223.out.fr 2; have f3 := HG223.out.fr 3; have f4 := HG223.out.fr 4; have HS := Lib.hid (HG223.out.set 1 2 2 2 (.slice qz217 4 cz218)); have z0 := HS.out.c0; have z1 := HS.out.c1; have z2 := HS.out.c2; have z3 := HS.out.c3; have z4 := HS.out.c4
          go_simp
          refine hK.out _ _ ?_ (fun hHeld2 => ?_)
          · exact HAll.out _ (st5_below _ _ _ _ _ HLE200.out HB216.out)
          clear hK K hHeld
          have hHeld := hHeld2; clear hHeld2
          try simp only [Act.put, List.setIfInBounds_toArray, List.set_cons_zero, List.set_cons_succ]
          refine wpAnyH_take (i := 9) (v := ?_) rfl (by kernel_rfl) (by kernel_rfl) (by kernel_rfl) (fun _ _ _ h => h) (Or.inl ⟨by rfl, ?_⟩) (by assumption) ?_
          rotate_left
          · ((intro w0 hSw); (try dsimp only at hSw); go_simp; (try with_reducible rfl))
          change wpAnyH _ _ _ _ _ _ _ (Act.put _ (some 12) _) _
          try simp only [Act.put, List.setIfInBounds_toArray, List.set_cons_zero, List.set_cons_succ]
          refine wpAnyH_done (by kernel_rfl) ?_ _
          go_wp2_with fail
          go_meet
          case rel => exact ⟨wd.heap.size, _, _, rfl, rfl, (HK.out.next (st5_below _ _ _ _ _ HLE200.out HB216.out)).add HS.out ((HU221.out.st5 HLT222.out _ _ _ _ _).rd)⟩
      case rest =>
        obtain ⟨g11, q11, c11, rfl, rfl, hk⟩ := hcut
        have HKn := Lib.hid hk
        clear HK hk
        have HK := HKn
        clear HKn
        go_wp2_with fail
        go_cut [13, 14] (fun sp se wx => CutA w [⟨g11, ⟨1, 2, 2, 2, [1, 2, 3, 1]⟩, .slice q11 4 c11⟩, ⟨g9, ⟨1, 1, 2, 0, [1, 2]⟩, .slice q9 2 c9⟩, ⟨g7, ⟨1, 1, 2, 0, [2, 3]⟩, .slice q7 2 c7⟩, ⟨g4, ⟨1, 2, 3, 2, [1, 4, 2, 5, 3, 6]⟩, .slice q4 6 c4⟩, ⟨g3, ⟨1, 2, 2, 3, [3, 2, 1, 6, 5, 4]⟩, .slice q3 6 c3⟩, ⟨gm, ⟨1, 2, 2, 3, [1, 2, 3, 4, 5, 6]⟩, .slice qm 6 cm⟩, ⟨gv, ⟨1, 1, 3, 0, [1, 2, 3]⟩, .slice qv 3 cv⟩] sp se 0 0 0 0 11 0 [] wx)
        case first =>
          clear HV HM HRv HFl HI2 HI1 HI0 HTk HDr HL2 HGd HM7 HIg HFi
          have HAll : Hid (∀ W, Below wc.heap.size wc W → (fun W => Below wc.heap.size wc W ∧ W.cell? ⟨gm, 0, none⟩ = some (.int .i64 1) ∧ W.cell? ⟨gm, 1, none⟩ = some (.int .i64 2) ∧ W.cell? ⟨gm, 2, none⟩ = some (.int .i64 2) ∧ W.cell? ⟨gm, 3, none⟩ = some (.int .i64 3) ∧ W.cell? ⟨gm, 4, none⟩ = some (.slice qm 6 cm)) W) := fun W h => ⟨h, ((HK.out.next h).a _ (.tail _ (.tail _ (.tail _ (.tail _ (.tail _ (.head _))))))).c0, ((HK.out.next h).a _ (.tail _ (.tail _ (.tail _ (.tail _ (.tail _ (.head _))))))).c1, ((HK.out.next h).a _ (.tail _ (.tail _ (.tail _ (.tail _ (.tail _ (.head _))))))).c2, ((HK.out.next h).a _ (.tail _ (.tail _ (.tail _ (.tail _ (.tail _ (.head _))))))).c3, ((HK.out.next h).a _ (.tail _ (.tail _ (.tail _ (.tail _ (.tail _ (.head _))))))).c4⟩
          refine wp_region_held_drew (S := (fun W => Below wc.heap.size wc W ∧ W.cell? ⟨gm, 0, none⟩ = some (.int .i64 1) ∧ W.cell? ⟨gm, 1, none⟩ = some (.int .i64 2) ∧ W.cell? ⟨gm, 2, none⟩ = some (.int .i64 2) ∧ W.cell? ⟨gm, 3, none⟩ = some (.int .i64 3) ∧ W.cell? ⟨gm, 4, none⟩ = some (.slice qm 6 cm))) (by kernel_rfl) ?_ (fun hHeld => ?_)
          · exact HAll.out _ (Below.refl _ _).drew
          have HB0 : Hid (Below wc.heap.size wc (World.drew wc)) := (Below.refl _ _).drew
          generalize World.drew wc = wd at hHeld HB0 ⊢
          refine wpAnyH_take (i := 0) (v := ?_) rfl (by kernel_rfl) (by kernel_rfl) (by kernel_rfl) (fun _ _ _ h => h) (Or.inl ⟨by rfl, ?_⟩) (by assumption) ?_
          rotate_left
          · ((intro w0 hSw); (try dsimp only at hSw); go_simp; (try with_reducible rfl))
          change wpAnyH _ _ _ _ _ _ _ (Act.put _ (some 51) _) _
          try simp only [Act.put, List.setIfInBounds_toArray, List.set_cons_zero, List.set_cons_succ]
          refine wpAnyH_ready (rs := [1, 7]) (by kernel_rfl) (by simp) ?_
          refine AllReadyH.cons rfl (fun K hK => ?_) (AllReadyH.cons rfl (fun K hK => ?_) (AllReadyH.nil))
          · go_simp
            refine hK.out _ _ ?_ (fun hHeld2 => ?_)
            · exact HAll.out _ (HB0.out.trans ((bel1 wd _).mono HB0.out.size))
            clear hK K hHeld
            have hHeld := hHeld2; clear hHeld2
            try change wpAnyH _ _ _ _ _ _ _ (Act.put _ (some 52) _) _
            try simp only [Act.put, List.setIfInBounds_toArray, List.set_cons_zero, List.set_cons_succ]
            generalize hwx228 : World.alloc wd _ = wn226 at hHeld ⊢
            have HB227 : Hid (Below wc.heap.size wc wn226) := by rw [← hwx228]; exact HB0.out.trans ((bel1 wd _).mono HB0.out.size)
            have HU229 : Hid (RdI wn226.heap.size wn226 (.slice (some ⟨wd.heap.size, 0, none⟩) 1 1) [7]) := by rw [← hwx228]; exact blk_rd (l := [7]) rfl (by decide) (heap_alloc_last wd _)
            clear hwx228
            refine wpAnyH_ready (rs := [2, 7]) (by kernel_rfl) (by simp) ?_
            refine AllReadyH.cons rfl (fun K hK => ?_) (AllReadyH.cons rfl (fun K hK => ?_) (AllReadyH.nil))
            · go_simp
              go_at_call 38
              with_reducible refine (HMg.out _ _ HU229.out (nil_some _ _ _)).mono ?_
              rintro e wn230 ⟨qz232, cz233, rfl, hu234, hb235⟩
              have HB231 := Lib.hid (HB227.out.trans (hb235.mono HB227.out.size))
              refine hK.out _ _ ?_ (fun hHeld2 => ?_)
              · exact HAll.out _ HB231.out
              clear hK K hHeld
              have hHeld := hHeld2; clear hHeld2
              try change wpAnyH _ _ _ _ _ _ _ (Act.put _ (some 53) _) _
              try dsimp only
              try simp only [Act.put, List.setIfInBounds_toArray, List.set_cons_zero, List.set_cons_succ]
              have HU237 := Lib.hid (HU229.out.next hb235)
              have HU236 := Lib.hid hu234.rd
              clear hu234 hb235
              refine wpAnyH_ready (rs := [3, 7]) (by kernel_rfl) (by simp) ?_
              refine AllReadyH.cons rfl (fun K hK => ?_) (AllReadyH.cons rfl (fun K hK => ?_) (AllReadyH.nil))
              · go_simp
                go_at_call 28
                with_reducible refine (HCt.out _ _ _ (HK.out.next HB231.out).lay (by with_unfolding_all exact (HK.out.next HB231.out).r _ (.tail _ (.tail _ (.tail _ (.tail _ (.tail _ (.head _))))))) HU236.out).mono ?_
                rintro e wn238 ⟨qz240, cz241, rfl, hu242, hb243⟩
                have HB239 := Lib.hid (HB231.out.trans (hb243.mono HB231.out.size))
                refine hK.out _ _ ?_ (fun hHeld2 => ?_)
                · exact HAll.out _ HB239.out
                clear hK K hHeld
                have hHeld := hHeld2; clear hHeld2
                try change wpAnyH _ _ _ _ _ _ _ (Act.put _ (some 54) _) _
                try dsimp only
                try simp only [Act.put, List.setIfInBounds_toArray, List.set_cons_zero, List.set_cons_succ]
                have HU245 := Lib.hid (HU237.out.next hb243)
                have HU246 := Lib.hid (HU236.out.next hb243)
                have HU244 := Lib.hid hu242
                clear hu242 hb243
                refine wpAnyH_take (i := 4) (v := ?_) rfl (by kernel_rfl) (by kernel_rfl) (by kernel_rfl) (fun _ _ _ h => h) (Or.inl ⟨by rfl, ?_⟩) (by assumption) ?_
                rotate_left
                · ((intro w0 hSw); (try dsimp only at hSw); go_simp; (try with_reducible rfl))
                change wpAnyH _ _ _ _ _ _ _ (Act.put _ (some 50) _) _
                try simp only [Act.put, List.setIfInBounds_toArray, List.set_cons_zero, List.set_cons_succ]
                refine wpAnyH_take (i := 5) (v := ?_) rfl (by kernel_rfl) (by kernel_rfl) (by kernel_rfl) (fun _ _ _ h => h) (Or.inl ⟨by rfl, ?_⟩) (by assumption) ?_
                rotate_left
                · ((intro w0 hSw); (try dsimp only at hSw); go_simp; (try with_reducible rfl))
                change wpAnyH _ _ _ _ _ _ _ (Act.put _ (some 55) _) _
                try simp only [Act.put, List.setIfInBounds_toArray, List.set_cons_zero, List.set_cons_succ]
                refine wpAnyH_take (i := 6) (v := ?_) rfl (by kernel_rfl) (by kernel_rfl) (by kernel_rfl) (fun _ _ _ h => h) (Or.inl ⟨by rfl, ?_⟩) (by assumption) ?_
                rotate_left
                · ((intro w0 hSw); (try dsimp only at hSw); go_simp; (try with_reducible rfl))
                change wpAnyH _ _ _ _ _ _ _ (Act.put _ (some 56) _) _
                try simp only [Act.put, List.setIfInBounds_toArray, List.set_cons_zero, List.set_cons_succ]
                refine wpAnyH_ready (rs := [7]) (by kernel_rfl) (by simp) ?_
                refine AllReadyH.cons rfl (fun K hK => ?_) (AllReadyH.nil)
                go_simp
                refine hK.out _ _ ?_ (fun hHeld2 => ?_)
                · exact HAll.out _ (HB239.out.trans ((bel1 wn238 _).mono HB239.out.size))
                clear hK K hHeld
                have hHeld := hHeld2; clear hHeld2
                try change wpAnyH _ _ _ _ _ _ _ (Act.put _ (some 13) _) _
                try simp only [Act.put, List.setIfInBounds_toArray, List.set_cons_zero, List.set_cons_succ]
                generalize hwx248 : World.alloc wn238 _ = wa247 at hHeld ⊢
                have HB249 : Hid (Below wc.heap.size wc wa247) := by rw [← hwx248]; exact HB239.out.trans ((bel1 wn238 _).mono HB239.out.size)
                have HG250 : Hid (R5 wa247 wn238.heap.size 0 0 0 0 (.slice none 0 0)) := by rw [← hwx248]; exact R5.new _ _ _ _ _ _
                have HLE251 := Lib.hid HB239.out.size
                have HU252 : Hid (RdI wa247.heap.size wa247 (.slice (some ⟨wd.heap.size, 0, none⟩) 1 1) [7]) := by rw [← hwx248]; exact HU245.out.next (bel1 _ _)
                have HU253 : Hid (RdI wa247.heap.size wa247 (.slice qz232 1 cz233) [7]) := by rw [← hwx248]; exact HU246.out.next (bel1 _ _)
                have H9254 : Hid (Below wn238.heap.size wn238 wa247) := by rw [← hwx248]; exact bel1 _ _
                clear hwx248
                refine wpAnyH_ready (rs := [8]) (by kernel_rfl) (by simp) ?_
                refine AllReadyH.cons rfl (fun K hK => ?_) (AllReadyH.nil)
                have y0 := HG250.out.c0; have y1 := HG250.out.c1; have y2 := HG250.out.c2; have y3 := HG250.out.c3; have y4 := HG250.out.c4; have f0 := HG250.out.fr 0; have f1 := HG250.out.fr 1; have f2 := HG250.out.fr 2; have f3 := HG250.out.fr 3; have f4 := HG250.out.fr 4; have HS := Lib.hid (HG250.out.set 0 0 0 0 (.slice qz240 0 cz241)); have z0 := HS.out.c0; have z1 := HS.out.c1; have z2 := HS.out.c2; have z3 := HS.out.c3; have z4 := HS.out.c4
                go_simp
                refine hK.out _ _ ?_ (fun hHeld2 => ?_)
                · exact HAll.out _ (st5_below _ _ _ _ _ HLE251.out HB249.out)
                clear hK K hHeld
                have hHeld := hHeld2; clear hHeld2
                try simp only [Act.put, List.setIfInBounds_toArray, List.set_cons_zero, List.set_cons_succ]
                refine wpAnyH_take (i := 9) (v := ?_) rfl (by kernel_rfl) (by kernel_rfl) (by kernel_rfl) (fun _ _ _ h => h) (Or.inl ⟨by rfl, ?_⟩) (by assumption) ?_
                rotate_left
                · ((intro w0 hSw); (try dsimp only at hSw); go_simp; (try with_reducible rfl))
                change wpAnyH _ _ _ _ _ _ _ (Act.put _ (some 14) _) _
                try simp only [Act.put, List.setIfInBounds_toArray, List.set_cons_zero, List.set_cons_succ]
                refine wpAnyH_done (by kernel_rfl) ?_ _
                go_wp2_with fail
                go_meet
                case rel => exact ⟨wn238.heap.size, _, _, rfl, rfl, (HK.out.next (st5_below _ _ _ _ _ HLE251.out HB249.out)).add HS.out (HU244.out.rd.next (st5_below _ _ _ _ _ (Nat.le_refl _) H9254.out))⟩
              · go_simp
                refine hK.out _ _ ?_ (fun hHeld2 => ?_)
                · exact HAll.out _ (HB231.out.trans ((bel1 wn230 _).mono HB231.out.size))
                clear hK K hHeld
                have hHeld := hHeld2; clear hHeld2
                try change wpAnyH _ _ _ _ _ _ _ (Act.put _ (some 13) _) _
                try simp only [Act.put, List.setIfInBounds_toArray, List.set_cons_zero, List.set_cons_succ]
                generalize hwx256 : World.alloc wn230 _ = wa255 at hHeld ⊢
                have HB257 : Hid (Below wc.heap.size wc wa255) := by rw [← hwx256]; exact HB231.out.trans ((bel1 wn230 _).mono HB231.out.size)
                have HG258 : Hid (R5 wa255 wn230.heap.size 0 0 0 0 (.slice none 0 0)) := by rw [← hwx256]; exact R5.new _ _ _ _ _ _
                have HLE259 := Lib.hid HB231.out.size
                have HU260 : Hid (RdI wa255.heap.size wa255 (.slice (some ⟨wd.heap.size, 0, none⟩) 1 1) [7]) := by rw [← hwx256]; exact HU237.out.next (bel1 _ _)
                have HU261 : Hid (RdI wa255.heap.size wa255 (.slice qz232 1 cz233) [7]) := by rw [← hwx256]; exact HU236.out.next (bel1 _ _)
                clear hwx256
                refine wpAnyH_ready (rs := [3]) (by kernel_rfl) (by simp) ?_
                refine AllReadyH.cons rfl (fun K hK => ?_) (AllReadyH.nil)
                go_simp
                go_at_call 28
                with_reducible refine (HCt.out _ _ _ (HK.out.next HB257.out).lay (by with_unfolding_all exact (HK.out.next HB257.out).r _ (.tail _ (.tail _ (.tail _ (.tail _ (.tail _ (.head _))))))) HU261.out).mono ?_
                rintro e wn262 ⟨qz264, cz265, rfl, hu266, hb267⟩
                have HB263 := Lib.hid (HB257.out.trans (hb267.mono HB257.out.size))
                refine hK.out _ _ ?_ (fun hHeld2 => ?_)
                · exact HAll.out _ HB263.out
                clear hK K hHeld
                have hHeld := hHeld2; clear hHeld2
                try change wpAnyH _ _ _ _ _ _ _ (Act.put _ (some 54) _) _
                try dsimp only
                try simp only [Act.put, List.setIfInBounds_toArray, List.set_cons_zero, List.set_cons_succ]
                have HLT269 := Lib.hid HG258.out.lt
                have HG270 := Lib.hid (HG258.out.next hb267)
                have HU271 := Lib.hid (HU260.out.next hb267)
                have HU272 := Lib.hid (HU261.out.next hb267)
                have HU268 := Lib.hid hu266
                clear hu266 hb267
                refine wpAnyH_take (i := 4) (v := ?_) rfl (by kernel_rfl) (by kernel_rfl) (by kernel_rfl) (fun _ _ _ h => h) (Or.inl ⟨by rfl, ?_⟩) (by assumption) ?_
                rotate_left
                · ((intro w0 hSw); (try dsimp only at hSw); go_simp; (try with_reducible rfl))
                change wpAnyH _ _ _ _ _ _ _ (Act.put _ (some 50) _) _
                try simp only [Act.put, List.setIfInBounds_toArray, List.set_cons_zero, List.set_cons_succ]
                refine wpAnyH_take (i := 5) (v := ?_) rfl (by kernel_rfl) (by kernel_rfl) (by kernel_rfl) (fun _ _ _ h => h) (Or.inl ⟨by rfl, ?_⟩) (by assumption) ?_
                rotate_left
                · ((intro w0 hSw); (try dsimp only at hSw); go_simp; (try with_reducible rfl))
                change wpAnyH _ _ _ _ _ _ _ (Act.put _ (some 55) _) _
                try simp only [Act.put, List.setIfInBounds_toArray, List.set_cons_zero, List.set_cons_succ]
                refine wpAnyH_take (i := 6) (v := ?_) rfl (by kernel_rfl) (by kernel_rfl) (by kernel_rfl) (fun _ _ _ h => h) (Or.inl ⟨by rfl, ?_⟩) (by assumption) ?_
                rotate_left
                · ((intro w0 hSw); (try dsimp only at hSw); go_simp; (try with_reducible rfl))
                change wpAnyH _ _ _ _ _ _ _ (Act.put _ (some 56) _) _
                try simp only [Act.put, List.setIfInBounds_toArray, List.set_cons_zero, List.set_cons_succ]
                refine wpAnyH_ready (rs := [8]) (by kernel_rfl) (by simp) ?_
                refine AllReadyH.cons rfl (fun K hK => ?_) (AllReadyH.nil)
                have y0 := HG270.out.c0; have y1 := HG270.out.c1; have y2 := HG270.out.c2; have y3 := HG270.out.c3; have y4 := HG270.out.c4; have f0 := HG270.out.fr 0; have f1 := HG270.out.fr 1; have f2 := HG270.out.fr 2; have f3 := HG270.out.fr 3; have f4 := HG270.out.fr 4; have HS := Lib.hid (HG270.out.set 0 0 0 0 (.slice qz264 0 cz265)); have z0 := HS.out.c0; have z1 := HS.out.c1; have z2 := HS.out.c2; have z3 := HS.out.c3; have z4 := HS.out.c4
                go_simp
                refine hK.out _ _ ?_ (fun hHeld2 => ?_)
                · exact HAll.out _ (st5_below _ _ _ _ _ HLE259.out HB263.out)
                clear hK K hHeld
                have hHeld := hHeld2; clear hHeld2
                try simp only [Act.put, List.setIfInBounds_toArray, List.set_cons_zero, List.set_cons_succ]
                refine wpAnyH_take (i := 9) (v := ?_) rfl (by kernel_rfl) (by kernel_rfl) (by kernel_rfl) (fun _ _ _ h => h) (Or.inl ⟨by rfl, ?_⟩) (by assumption) ?_
                rotate_left
                · ((intro w0 hSw); (try dsimp only at hSw); go_simp; (try with_reducible rfl))
                change wpAnyH _ _ _ _ _ _ _ (Act.put _ (some 14) _) _
                try simp only [Act.put, List.setIfInBounds_toArray, List.set_cons_zero, List.set_cons_succ]
                refine wpAnyH_done (by kernel_rfl) ?_ _
                go_wp2_with fail
                go_meet
                case rel => exact ⟨wn230.heap.size, _, _, rfl, rfl, (HK.out.next (st5_below _ _ _ _ _ HLE259.out HB263.out)).add HS.out ((HU268.out.st5 HLT269.out _ _ _ _ _).rd)⟩
            · go_simp
              refine hK.out _ _ ?_ (fun hHeld2 => ?_)
              · exact HAll.out _ (HB227.out.trans ((bel1 wn226 _).mono HB227.out.size))
              clear hK K hHeld
              have hHeld := hHeld2; clear hHeld2
              try change wpAnyH _ _ _ _ _ _ _ (Act.put _ (some 13) _) _
              try simp only [Act.put, List.setIfInBounds_toArray, List.set_cons_zero, List.set_cons_succ]
              generalize hwx274 : World.alloc wn226 _ = wa273 at hHeld ⊢
              have HB275 : Hid (Below wc.heap.size wc wa273) := by rw [← hwx274]; exact HB227.out.trans ((bel1 wn226 _).mono HB227.out.size)
              have HG276 : Hid (R5 wa273 wn226.heap.size 0 0 0 0 (.slice none 0 0)) := by rw [← hwx274]; exact R5.new _ _ _ _ _ _
              have HLE277 := Lib.hid HB227.out.size
              have HU278 : Hid (RdI wa273.heap.size wa273 (.slice (some ⟨wd.heap.size, 0, none⟩) 1 1) [7]) := by rw [← hwx274]; exact HU229.out.next (bel1 _ _)
              clear hwx274
              refine wpAnyH_ready (rs := [2]) (by kernel_rfl) (by simp) ?_
              refine AllReadyH.cons rfl (fun K hK => ?_) (AllReadyH.nil)
              go_simp
              go_at_call 38
              with_reducible refine (HMg.out _ _ HU278.out (nil_some _ _ _)).mono ?_
              rintro e wn279 ⟨qz281, cz282, rfl, hu283, hb284⟩
              have HB280 := Lib.hid (HB275.out.trans (hb284.mono HB275.out.size))
              refine hK.out _ _ ?_ (fun hHeld2 => ?_)
              · exact HAll.out _ HB280.out
              clear hK K hHeld
              have hHeld := hHeld2; clear hHeld2
              try change wpAnyH _ _ _ _ _ _ _ (Act.put _ (some 53) _) _
              try dsimp only
              try simp only [Act.put, List.setIfInBounds_toArray, List.set_cons_zero, List.set_cons_succ]
              have HG286 := Lib.hid (HG276.out.next hb284)
              have HU287 := Lib.hid (HU278.out.next hb284)
              have HU285 := Lib.hid hu283.rd
              clear hu283 hb284
              refine wpAnyH_ready (rs := [3]) (by kernel_rfl) (by simp) ?_
              refine AllReadyH.cons rfl (fun K hK => ?_) (AllReadyH.nil)
              go_simp
              go_at_call 28
              with_reducible refine (HCt.out _ _ _ (HK.out.next HB280.out).lay (by with_unfolding_all exact (HK.out.next HB280.out).r _ (.tail _ (.tail _ (.tail _ (.tail _ (.tail _ (.head _))))))) HU285.out).mono ?_
              rintro e wn288 ⟨qz290, cz291, rfl, hu292, hb293⟩
              have HB289 := Lib.hid (HB280.out.trans (hb293.mono HB280.out.size))
              refine hK.out _ _ ?_ (fun hHeld2 => ?_)
              · exact HAll.out _ HB289.out
              clear hK K hHeld
              have hHeld := hHeld2; clear hHeld2
              try change wpAnyH _ _ _ _ _ _ _ (Act.put _ (some 54) _) _
              try dsimp only
              try simp only [Act.put, List.setIfInBounds_toArray, List.set_cons_zero, List.set_cons_succ]
              have HLT295 := Lib.hid HG286.out.lt
              have HG296 := Lib.hid (HG286.out.next hb293)
              have HU297 := Lib.hid (HU287.out.next hb293)
              have HU298 := Lib.hid (HU285.out.next hb293)
              have HU294 := Lib.hid hu292
              clear hu292 hb293
              refine wpAnyH_take (i := 4) (v := ?_) rfl (by kernel_rfl) (by kernel_rfl) (by kernel_rfl) (fun _ _ _ h => h) (Or.inl ⟨by rfl, ?_⟩) (by assumption) ?_
              rotate_left
              · ((intro w0 hSw); (try dsimp only at hSw); go_simp; (try with_reducible rfl))
              change wpAnyH _ _ _ _ _ _ _ (Act.put _ (some 50) _) _
              try simp only [Act.put, List.setIfInBounds_toArray, List.set_cons_zero, List.set_cons_succ]
              refine wpAnyH_take (i := 5) (v := ?_) rfl (by kernel_rfl) (by kernel_rfl) (by kernel_rfl) (fun _ _ _ h => h) (Or.inl ⟨by rfl, ?_⟩) (by assumption) ?_
              rotate_left
              · ((intro w0 hSw); (try dsimp only at hSw); go_simp; (try with_reducible rfl))
              change wpAnyH _ _ _ _ _ _ _ (Act.put _ (some 55) _) _
              try simp only [Act.put, List.setIfInBounds_toArray, List.set_cons_zero, List.set_cons_succ]
              refine wpAnyH_take (i := 6) (v := ?_) rfl (by kernel_rfl) (by kernel_rfl) (by kernel_rfl) (fun _ _ _ h => h) (Or.inl ⟨by rfl, ?_⟩) (by assumption) ?_
              rotate_left
              · ((intro w0 hSw); (try dsimp only at hSw); go_simp; (try with_reducible rfl))
              change wpAnyH _ _ _ _ _ _ _ (Act.put _ (some 56) _) _
              try simp only [Act.put, List.setIfInBounds_toArray, List.set_cons_zero, List.set_cons_succ]
              refine wpAnyH_ready (rs := [8]) (by kernel_rfl) (by simp) ?_
              refine AllReadyH.cons rfl (fun K hK => ?_) (AllReadyH.nil)
              have y0 := HG296.out.c0; have y1 := HG296.out.c1; have y2 := HG296.out.c2; have y3 := HG296.out.c3; have y4 := HG296.out.c4; have f0 := HG296.out.fr 0; have f1 := HG296.out.fr 1; have f2 := HG296.out.fr 2; have f3 := HG296.out.fr 3; have f4 := HG296.out.fr 4; have HS := Lib.hid (HG296.out.set 0 0 0 0 (.slice qz290 0 cz291)); have z0 := HS.out.c0; have z1 := HS.out.c1; have z2 := HS.out.c2; have z3 := HS.out.c3; have z4 := HS.out.c4
              go_simp
              refine hK.out _ _ ?_ (fun hHeld2 => ?_)
              · exact HAll.out _ (st5_below _ _ _ _ _ HLE277.out HB289.out)
              clear hK K hHeld
              have hHeld := hHeld2; clear hHeld2
              try simp only [Act.put, List.setIfInBounds_toArray, List.set_cons_zero, List.set_cons_succ]
              refine wpAnyH_take (i := 9) (v := ?_) rfl (by kernel_rfl) (by kernel_rfl) (by kernel_rfl) (fun _ _ _ h => h) (Or.inl ⟨by rfl, ?_⟩) (by assumption) ?_
              rotate_left
              · ((intro w0 hSw); (try dsimp only at hSw); go_simp; (try with_reducible rfl))
              change wpAnyH _ _ _ _ _ _ _ (Act.put _ (some 14) _) _
              try simp only [Act.put, List.setIfInBounds_toArray, List.set_cons_zero, List.set_cons_succ]
              refine wpAnyH_done (by kernel_rfl) ?_ _
              go_wp2_with fail
              go_meet
              case rel => exact ⟨wn226.heap.size, _, _, rfl, rfl, (HK.out.next (st5_below _ _ _ _ _ HLE277.out HB289.out)).add HS.out ((HU294.out.st5 HLT295.out _ _ _ _ _).rd)⟩
          · go_simp
            refine hK.out _ _ ?_ (fun hHeld2 => ?_)
            · exact HAll.out _ (HB0.out.trans ((bel1 wd _).mono HB0.out.size))
            clear hK K hHeld
            have hHeld := hHeld2; clear hHeld2
            try change wpAnyH _ _ _ _ _ _ _ (Act.put _ (some 13) _) _
            try simp only [Act.put, List.setIfInBounds_toArray, List.set_cons_zero, List.set_cons_succ]
            generalize hwx300 : World.alloc wd _ = wa299 at hHeld ⊢
            have HB301 : Hid (Below wc.heap.size wc wa299) := by rw [← hwx300]; exact HB0.out.trans ((bel1 wd _).mono HB0.out.size)
            have HG302 : Hid (R5 wa299 wd.heap.size 0 0 0 0 (.slice none 0 0)) := by rw [← hwx300]; exact R5.new _ _ _ _ _ _
            have HLE303 := Lib.hid HB0.out.size
            clear hwx300
            refine wpAnyH_ready (rs := [1]) (by kernel_rfl) (by simp) ?_
            refine AllReadyH.cons rfl (fun K hK => ?_) (AllReadyH.nil)
            go_simp
            refine hK.out _ _ ?_ (fun hHeld2 => ?_)
            · exact HAll.out _ (HB301.out.trans ((bel1 wa299 _).mono HB301.out.size))
            clear hK K hHeld
            have hHeld := hHeld2; clear hHeld2
            try change wpAnyH _ _ _ _ _ _ _ (Act.put _ (some 52) _) _
            try simp only [Act.put, List.setIfInBounds_toArray, List.set_cons_zero, List.set_cons_succ]
            generalize hwx306 : World.alloc wa299 _ = wn304 at hHeld ⊢
            have HB305 : Hid (Below wc.heap.size wc wn304) := by rw [← hwx306]; exact HB301.out.trans ((bel1 wa299 _).mono HB301.out.size)
            have HU307 : Hid (RdI wn304.heap.size wn304 (.slice (some ⟨wa299.heap.size, 0, none⟩) 1 1) [7]) := by rw [← hwx306]; exact blk_rd (l := [7]) rfl (by decide) (heap_alloc_last wa299 _)
            have HG308 : Hid (R5 wn304 wd.heap.size 0 0 0 0 (.slice none 0 0)) := by rw [← hwx306]; exact HG302.out.next (bel1 _ _)
            clear hwx306
            refine wpAnyH_ready (rs := [2]) (by kernel_rfl) (by simp) ?_
            refine AllReadyH.cons rfl (fun K hK => ?_) (AllReadyH.nil)
            go_simp
            go_at_call 38
            with_reducible refine (HMg.out _ _ HU307.out (nil_some _ _ _)).mono ?_
            rintro e wn309 ⟨qz311, cz312, rfl, hu313, hb314⟩
            have HB310 := Lib.hid (HB305.out.trans (hb314.mono HB305.out.size))
            refine hK.out _ _ ?_ (fun hHeld2 => ?_)
            · exact HAll.out _ HB310.out
            clear hK K hHeld
            have hHeld := hHeld2; clear hHeld2
            try change wpAnyH _ _ _ _ _ _ _ (Act.put _ (some 53) _) _
            try dsimp only
            try simp only [Act.put, List.setIfInBounds_toArray, List.set_cons_zero, List.set_cons_succ]
            have HG316 := Lib.hid (HG308.out.next hb314)
            have HU317 := Lib.hid (HU307.out.next hb314)
            have HU315 := Lib.hid hu313.rd
            clear hu313 hb314
            refine wpAnyH_ready (rs := [3]) (by kernel_rfl) (by simp) ?_
            refine AllReadyH.cons rfl (fun K hK => ?_) (AllReadyH.nil)
            go_simp
            go_at_call 28
            with_reducible refine (HCt.out _ _ _ (HK.out.next HB310.out).lay (by with_unfolding_all exact (HK.out.next HB310.out).r _ (.tail _ (.tail _ (.tail _ (.tail _ (.tail _ (.head _))))))) HU315.out).mono ?_
            rintro e wn318 ⟨qz320, cz321, rfl, hu322, hb323⟩
            have HB319 := Lib.hid (HB310.out.trans (hb323.mono HB310.out.size))
            refine hK.out _ _ ?_ (fun hHeld2 => ?_)
            · exact HAll.out _ HB319.out
            clear hK K hHeld
            have hHeld := hHeld2; clear hHeld2
            try change wpAnyH _ _ _ _ _ _ _ (Act.put _ (some 54) _) _
            try dsimp only
            try simp only [Act.put, List.setIfInBounds_toArray, List.set_cons_zero, List.set_cons_succ]
            have HLT325 := Lib.hid HG316.out.lt
            have HG326 := Lib.hid (HG316.out.next hb323)
            have HU327 := Lib.hid (HU317.out.next hb323)
            have HU328 := Lib.hid (HU315.out.next hb323)
            have HU324 := Lib.hid hu322
            clear hu322 hb323
            refine wpAnyH_take (i := 4) (v := ?_) rfl (by kernel_rfl) (by kernel_rfl) (by kernel_rfl) (fun _ _ _ h => h) (Or.inl ⟨by rfl, ?_⟩) (by assumption) ?_
            rotate_left
            · ((intro w0 hSw); (try dsimp only at hSw); go_simp; (try with_reducible rfl))
            change wpAnyH _ _ _ _ _ _ _ (Act.put _ (some 50) _) _
            try simp only [Act.put, List.setIfInBounds_toArray, List.set_cons_zero, List.set_cons_succ]
            refine wpAnyH_take (i := 5) (v := ?_) rfl (by kernel_rfl) (by kernel_rfl) (by kernel_rfl) (fun _ _ _ h => h) (Or.inl ⟨by rfl, ?_⟩) (by assumption) ?_
            rotate_left
            · ((intro w0 hSw); (try dsimp only at hSw); go_simp; (try with_reducible rfl))
            change wpAnyH _ _ _ _ _ _ _ (Act.put _ (some 55) _) _
            try simp only [Act.put, List.setIfInBounds_toArray, List.set_cons_zero, List.set_cons_succ]
            refine wpAnyH_take (i := 6) (v := ?_) rfl (by kernel_rfl) (by kernel_rfl) (by kernel_rfl) (fun _ _ _ h => h) (Or.inl ⟨by rfl, ?_⟩) (by assumption) ?_
            rotate_left
            · ((intro w0 hSw); (try dsimp only at hSw); go_simp; (try with_reducible rfl))
            change wpAnyH _ _ _ _ _ _ _ (Act.put _ (some 56) _) _
            try simp only [Act.put, List.setIfInBounds_toArray, List.set_cons_zero, List.set_cons_succ]
            refine wpAnyH_ready (rs := [8]) (by kernel_rfl) (by simp) ?_
            refine AllReadyH.cons rfl (fun K hK => ?_) (AllReadyH.nil)
            have y0 := HG326.out.c0; have y1 := HG326.out.c1; have y2 := HG326.out.c2; have y3 := HG326.out.c3; have y4 := HG326.out.c4; have f0 := HG326.out.fr 0; have f1 := HG326.out.fr 1; have f2 := HG326.out.fr 2; have f3 := HG326.out.fr 3; have f4 := HG326.out.fr 4; have HS := Lib.hid (HG326.out.set 0 0 0 0 (.slice qz320 0 cz321)); have z0 := HS.out.c0; have z1 := HS.out.c1; have z2 := HS.out.c2; have z3 := HS.out.c3; have z4 := HS.out.c4
            go_simp
            refine hK.out _ _ ?_ (fun hHeld2 => ?_)
            · exact HAll.out _ (st5_below _ _ _ _ _ HLE303.out HB319.out)
            clear hK K hHeld
            have hHeld := hHeld2; clear hHeld2
            try simp only [Act.put, List.setIfInBounds_toArray, List.set_cons_zero, List.set_cons_succ]
            refine wpAnyH_take (i := 9) (v := ?_) rfl (by kernel_rfl) (by kernel_rfl) (by kernel_rfl) (fun _ _ _ h => h) (Or.inl ⟨by rfl, ?_⟩) (by assumption) ?_
            rotate_left
            · ((intro w0 hSw); (try dsimp only at hSw); go_simp; (try with_reducible rfl))
            change wpAnyH _ _ _ _ _ _ _ (Act.put _ (some 14) _) _
            try simp only [Act.put, List.setIfInBounds_toArray, List.set_cons_zero, List.set_cons_succ]
            refine wpAnyH_done (by kernel_rfl) ?_ _
            go_wp2_with fail
            go_meet
            case rel => exact ⟨wd.heap.size, _, _, rfl, rfl, (HK.out.next (st5_below _ _ _ _ _ HLE303.out HB319.out)).add HS.out ((HU324.out.st5 HLT325.out _ _ _ _ _).rd)⟩
        case rest =>
          obtain ⟨g13, q13, c13, rfl, rfl, hk⟩ := hcut
          have HKn := Lib.hid hk
          clear HK hk
          have HK := HKn
          clear HKn
          go_wp2_with fail
          obtain ⟨W8, rfl⟩ : ∃ W8, W8 = wc := ⟨_, rfl⟩
          go_wp2_with (first
            | (go_at_call 34; (with_reducible refine (HI1.out _).mono ?_); rintro e w8 ⟨qa, ca, rfl, hu, hb⟩; have HUa := Lib.hid hu.rd; have HKn := Lib.hid (HK.out.next hb); clear HK hu hb; have HK := HKn; clear HKn)
            | (go_at_call 34; (with_reducible refine (HI0.out _).mono ?_); rintro e w8 ⟨qb, cb, rfl, hu, hb⟩; have HUb := Lib.hid hu.rd; have HUa2 := Lib.hid (HUa.out.next hb); have HKn := Lib.hid (HK.out.next hb); clear HK hu hb HUa; have HK := HKn; clear HKn)
            | (go_at_call 24; (with_reducible refine (HFi.out _ _ _ HK.out.lay HUa2.out HUb.out).mono ?_); rintro e w9 ⟨q15, c15, rfl, hu, hb⟩; have HKn := Lib.hid ((HK.out.next hb).push ⟨0, 0, 0, 0, []⟩ (u := .slice q15 0 c15) hu.rd); clear HK hu hb HUa2 HUb; have HK := HKn; clear HKn)
            | fail)
          generalize hW9 : World.alloc w9 _ = W9 at HK ⊢
          clear hW9
          generalize w9.heap.size = g15 at HK ⊢
          clear HV HM HRv HFl HI2 HI1 HI0 HTk HDr HL2 HGd HM7 HIg HMg HCt HFi
          have HM9a : Hid (∀ (W : World) (g : Nat), W.heap.size = g → Calls Tryd.prog 38 #[.int .i64 1, .int .i64 2, .int .i64 3, .slice (some ⟨g, 0, none⟩) 6 6] ((W.alloc (.cells #[.int .i64 3, .int .i64 2, .int .i64 1, .int .i64 6, .int .i64 5, .int .i64 4] 2))) fun e w' => ∃ q c, e = .returned (A5 1 2 2 3 (.slice q 6 c)) ∧ RdN ((W.alloc (.cells #[.int .i64 3, .int .i64 2, .int .i64 1, .int .i64 6, .int .i64 5, .int .i64 4] 2))).heap.size w' (.slice q 6 c) [3, 2, 1, 6, 5, 4] ∧ Below ((W.alloc (.cells #[.int .i64 3, .int .i64 2, .int .i64 1, .int .i64 6, .int .i64 5, .int .i64 4] 2))).heap.size ((W.alloc (.cells #[.int .i64 3, .int .i64 2, .int .i64 1, .int .i64 6, .int .i64 5, .int .i64 4] 2))) w') := fun W g hg => by subst hg; exact mat_gen 2 3 [3, 2, 1, 6, 5, 4] 6 rfl (by decide) _ _ (blk_rd (l := [3, 2, 1, 6, 5, 4]) rfl (by decide) (heap_alloc_last W _)) (nil_some _ _ _)
          have HM9ad : Hid (∀ (W : World) (g : Nat), W.heap.size = g → Calls Tryd.prog 38 #[.int .i64 1, .int .i64 2, .int .i64 3, .slice (some ⟨g, 0, none⟩) 6 6] ((W.alloc (.cells #[.int .i64 3, .int .i64 2, .int .i64 1, .int .i64 6, .int .i64 5, .int .i64 4] 2)).drew) fun e w' => ∃ q c, e = .returned (A5 1 2 2 3 (.slice q 6 c)) ∧ RdN ((W.alloc (.cells #[.int .i64 3, .int .i64 2, .int .i64 1, .int .i64 6, .int .i64 5, .int .i64 4] 2)).drew).heap.size w' (.slice q 6 c) [3, 2, 1, 6, 5, 4] ∧ Below ((W.alloc (.cells #[.int .i64 3, .int .i64 2, .int .i64 1, .int .i64 6, .int .i64 5, .int .i64 4] 2)).drew).heap.size ((W.alloc (.cells #[.int .i64 3, .int .i64 2, .int .i64 1, .int .i64 6, .int .i64 5, .int .i64 4] 2)).drew) w') := fun W g hg => by subst hg; exact mat_gen 2 3 [3, 2, 1, 6, 5, 4] 6 rfl (by decide) _ _ ((blk_rd (l := [3, 2, 1, 6, 5, 4]) rfl (by decide) (heap_alloc_last W _)).next (Below.refl _ _).drew) (nil_some _ _ _)
          have HS_g3 : Hid (∀ (v u : Value) (W : World), RdI W.heap.size W v [3, 2, 1, 6, 5, 4] → RdI W.heap.size W u [3, 2, 1, 6, 5, 4] → Calls Tryd.prog 32 #[A5 1 2 2 3 v, .int .i64 0, A5 1 2 2 3 u] W fun e w' => e = .returned (.bool true) ∧ Below W.heap.size W w') := fun v u W h1 h2 => is_eq ⟨1, 2, 2, 3, [3, 2, 1, 6, 5, 4]⟩ v u W h1 h2 (by decide)
          have HM9b : Hid (∀ (W : World) (g : Nat), W.heap.size = g → Calls Tryd.prog 38 #[.int .i64 1, .int .i64 3, .int .i64 2, .slice (some ⟨g, 0, none⟩) 6 6] ((W.alloc (.cells #[.int .i64 1, .int .i64 4, .int .i64 2, .int .i64 5, .int .i64 3, .int .i64 6] 2))) fun e w' => ∃ q c, e = .returned (A5 1 2 3 2 (.slice q 6 c)) ∧ RdN ((W.alloc (.cells #[.int .i64 1, .int .i64 4, .int .i64 2, .int .i64 5, .int .i64 3, .int .i64 6] 2))).heap.size w' (.slice q 6 c) [1, 4, 2, 5, 3, 6] ∧ Below ((W.alloc (.cells #[.int .i64 1, .int .i64 4, .int .i64 2, .int .i64 5, .int .i64 3, .int .i64 6] 2))).heap.size ((W.alloc (.cells #[.int .i64 1, .int .i64 4, .int .i64 2, .int .i64 5, .int .i64 3, .int .i64 6] 2))) w') := fun W g hg => by subst hg; exact mat_gen 3 2 [1, 4, 2, 5, 3, 6] 6 rfl (by decide) _ _ (blk_rd (l := [1, 4, 2, 5, 3, 6]) rfl (by decide) (heap_alloc_last W _)) (nil_some _ _ _)
          have HS_g4 : Hid (∀ (v u : Value) (W : World), RdI W.heap.size W v [1, 4, 2, 5, 3, 6] → RdI W.heap.size W u [1, 4, 2, 5, 3, 6] → Calls Tryd.prog 32 #[A5 1 2 3 2 v, .int .i64 0, A5 1 2 3 2 u] W fun e w' => e = .returned (.bool true) ∧ Below W.heap.size W w') := fun v u W h1 h2 => is_eq ⟨1, 2, 3, 2, [1, 4, 2, 5, 3, 6]⟩ v u W h1 h2 (by decide)
          have HI9a : Hid (∀ (W : World) (g : Nat), W.heap.size = g → Calls Tryd.prog 35 #[.slice (some ⟨g, 0, none⟩) 2 2] ((W.alloc (.cells #[.int .i64 2, .int .i64 3] 2))) fun e w' => ∃ q c, e = .returned (A5 1 1 2 0 (.slice q 2 c)) ∧ RdN ((W.alloc (.cells #[.int .i64 2, .int .i64 3] 2))).heap.size w' (.slice q 2 c) [2, 3] ∧ Below ((W.alloc (.cells #[.int .i64 2, .int .i64 3] 2))).heap.size ((W.alloc (.cells #[.int .i64 2, .int .i64 3] 2))) w') := fun W g hg => by subst hg; exact ints_gen [2, 3] 2 rfl (by decide) _ _ (blk_rd (l := [2, 3]) rfl (by decide) (heap_alloc_last W _)) (nil_some _ _ _)
          have HS_g7 : Hid (∀ (v u : Value) (W : World), RdI W.heap.size W v [2, 3] → RdI W.heap.size W u [2, 3] → Calls Tryd.prog 32 #[A5 1 1 2 0 v, .int .i64 0, A5 1 1 2 0 u] W fun e w' => e = .returned (.bool true) ∧ Below W.heap.size W w') := fun v u W h1 h2 => is_eq ⟨1, 1, 2, 0, [2, 3]⟩ v u W h1 h2 (by decide)
          have HI9b : Hid (∀ (W : World) (g : Nat), W.heap.size = g → Calls Tryd.prog 35 #[.slice (some ⟨g, 0, none⟩) 2 2] ((W.alloc (.cells #[.int .i64 1, .int .i64 2] 2))) fun e w' => ∃ q c, e = .returned (A5 1 1 2 0 (.slice q 2 c)) ∧ RdN ((W.alloc (.cells #[.int .i64 1, .int .i64 2] 2))).heap.size w' (.slice q 2 c) [1, 2] ∧ Below ((W.alloc (.cells #[.int .i64 1, .int .i64 2] 2))).heap.size ((W.alloc (.cells #[.int .i64 1, .int .i64 2] 2))) w') := fun W g hg => by subst hg; exact ints_gen [1, 2] 2 rfl (by decide) _ _ (blk_rd (l := [1, 2]) rfl (by decide) (heap_alloc_last W _)) (nil_some _ _ _)
          have HS_g9 : Hid (∀ (v u : Value) (W : World), RdI W.heap.size W v [1, 2] → RdI W.heap.size W u [1, 2] → Calls Tryd.prog 32 #[A5 1 1 2 0 v, .int .i64 0, A5 1 1 2 0 u] W fun e w' => e = .returned (.bool true) ∧ Below W.heap.size W w') := fun v u W h1 h2 => is_eq ⟨1, 1, 2, 0, [1, 2]⟩ v u W h1 h2 (by decide)
          have HM9c : Hid (∀ (W : World) (g : Nat), W.heap.size = g → Calls Tryd.prog 38 #[.int .i64 1, .int .i64 2, .int .i64 2, .slice (some ⟨g, 0, none⟩) 4 4] ((W.alloc (.cells #[.int .i64 1, .int .i64 2, .int .i64 3, .int .i64 1] 2))) fun e w' => ∃ q c, e = .returned (A5 1 2 2 2 (.slice q 4 c)) ∧ RdN ((W.alloc (.cells #[.int .i64 1, .int .i64 2, .int .i64 3, .int .i64 1] 2))).heap.size w' (.slice q 4 c) [1, 2, 3, 1] ∧ Below ((W.alloc (.cells #[.int .i64 1, .int .i64 2, .int .i64 3, .int .i64 1] 2))).heap.size ((W.alloc (.cells #[.int .i64 1, .int .i64 2, .int .i64 3, .int .i64 1] 2))) w') := fun W g hg => by subst hg; exact mat_gen 2 2 [1, 2, 3, 1] 4 rfl (by decide) _ _ (blk_rd (l := [1, 2, 3, 1]) rfl (by decide) (heap_alloc_last W _)) (nil_some _ _ _)
          have HS_g11 : Hid (∀ (v u : Value) (W : World), RdI W.heap.size W v [1, 2, 3, 1] → RdI W.heap.size W u [1, 2, 3, 1] → Calls Tryd.prog 32 #[A5 1 2 2 2 v, .int .i64 0, A5 1 2 2 2 u] W fun e w' => e = .returned (.bool true) ∧ Below W.heap.size W w') := fun v u W h1 h2 => is_eq ⟨1, 2, 2, 2, [1, 2, 3, 1]⟩ v u W h1 h2 (by decide)
          have HF13 : Hid (∀ W, Calls Tryd.prog 31 #[A5 0 0 0 0 (.slice q13 0 c13), .int .i64 11, .int .i64 11] W fun e w' => e = .returned (.bool true) ∧ Below W.heap.size W w') := fun W => fails_no 11 q13 c13 W
          have HF15 : Hid (∀ W, Calls Tryd.prog 31 #[A5 0 0 0 0 (.slice q15 0 c15), .int .i64 13, .int .i64 13] W fun e w' => e = .returned (.bool true) ∧ Below W.heap.size W w') := fun W => fails_no 13 q15 c15 W
          have HAll : ∀ W, KLs w [⟨g15, ⟨0, 0, 0, 0, []⟩, .slice q15 0 c15⟩, ⟨g13, ⟨0, 0, 0, 0, []⟩, .slice q13 0 c13⟩, ⟨g11, ⟨1, 2, 2, 2, [1, 2, 3, 1]⟩, .slice q11 4 c11⟩, ⟨g9, ⟨1, 1, 2, 0, [1, 2]⟩, .slice q9 2 c9⟩, ⟨g7, ⟨1, 1, 2, 0, [2, 3]⟩, .slice q7 2 c7⟩, ⟨g4, ⟨1, 2, 3, 2, [1, 4, 2, 5, 3, 6]⟩, .slice q4 6 c4⟩, ⟨g3, ⟨1, 2, 2, 3, [3, 2, 1, 6, 5, 4]⟩, .slice q3 6 c3⟩, ⟨gm, ⟨1, 2, 2, 3, [1, 2, 3, 4, 5, 6]⟩, .slice qm 6 cm⟩, ⟨gv, ⟨1, 1, 3, 0, [1, 2, 3]⟩, .slice qv 3 cv⟩] [] W → (fun W => KLs w [⟨g15, ⟨0, 0, 0, 0, []⟩, .slice q15 0 c15⟩, ⟨g13, ⟨0, 0, 0, 0, []⟩, .slice q13 0 c13⟩, ⟨g11, ⟨1, 2, 2, 2, [1, 2, 3, 1]⟩, .slice q11 4 c11⟩, ⟨g9, ⟨1, 1, 2, 0, [1, 2]⟩, .slice q9 2 c9⟩, ⟨g7, ⟨1, 1, 2, 0, [2, 3]⟩, .slice q7 2 c7⟩, ⟨g4, ⟨1, 2, 3, 2, [1, 4, 2, 5, 3, 6]⟩, .slice q4 6 c4⟩, ⟨g3, ⟨1, 2, 2, 3, [3, 2, 1, 6, 5, 4]⟩, .slice q3 6 c3⟩, ⟨gm, ⟨1, 2, 2, 3, [1, 2, 3, 4, 5, 6]⟩, .slice qm 6 cm⟩, ⟨gv, ⟨1, 1, 3, 0, [1, 2, 3]⟩, .slice qv 3 cv⟩] [] W ∧ W.cell? ⟨g3, 0, none⟩ = some (.int .i64 1) ∧ W.cell? ⟨g3, 1, none⟩ = some (.int .i64 2) ∧ W.cell? ⟨g3, 2, none⟩ = some (.int .i64 2) ∧ W.cell? ⟨g3, 3, none⟩ = some (.int .i64 3) ∧ W.cell? ⟨g3, 4, none⟩ = some (.slice q3 6 c3) ∧ W.cell? ⟨g4, 0, none⟩ = some (.int .i64 1) ∧ W.cell? ⟨g4, 1, none⟩ = some (.int .i64 2) ∧ W.cell? ⟨g4, 2, none⟩ = some (.int .i64 3) ∧ W.cell? ⟨g4, 3, none⟩ = some (.int .i64 2) ∧ W.cell? ⟨g4, 4, none⟩ = some (.slice q4 6 c4) ∧ W.cell? ⟨g7, 0, none⟩ = some (.int .i64 1) ∧ W.cell? ⟨g7, 1, none⟩ = some (.int .i64 1) ∧ W.cell? ⟨g7, 2, none⟩ = some (.int .i64 2) ∧ W.cell? ⟨g7, 3, none⟩ = some (.int .i64 0) ∧ W.cell? ⟨g7, 4, none⟩ = some (.slice q7 2 c7) ∧ W.cell? ⟨g9, 0, none⟩ = some (.int .i64 1) ∧ W.cell? ⟨g9, 1, none⟩ = some (.int .i64 1) ∧ W.cell? ⟨g9, 2, none⟩ = some (.int .i64 2) ∧ W.cell? ⟨g9, 3, none⟩ = some (.int .i64 0) ∧ W.cell? ⟨g9, 4, none⟩ = some (.slice q9 2 c9) ∧ W.cell? ⟨g11, 0, none⟩ = some (.int .i64 1) ∧ W.cell? ⟨g11, 1, none⟩ = some (.int .i64 2) ∧ W.cell? ⟨g11, 2, none⟩ = some (.int .i64 2) ∧ W.cell? ⟨g11, 3, none⟩ = some (.int .i64 2) ∧ W.cell? ⟨g11, 4, none⟩ = some (.slice q11 4 c11) ∧ W.cell? ⟨g13, 0, none⟩ = some (.int .i64 0) ∧ W.cell? ⟨g13, 1, none⟩ = some (.int .i64 0) ∧ W.cell? ⟨g13, 2, none⟩ = some (.int .i64 0) ∧ W.cell? ⟨g13, 3, none⟩ = some (.int .i64 0) ∧ W.cell? ⟨g13, 4, none⟩ = some (.slice q13 0 c13) ∧ W.cell? ⟨g15, 0, none⟩ = some (.int .i64 0) ∧ W.cell? ⟨g15, 1, none⟩ = some (.int .i64 0) ∧ W.cell? ⟨g15, 2, none⟩ = some (.int .i64 0) ∧ W.cell? ⟨g15, 3, none⟩ = some (.int .i64 0) ∧ W.cell? ⟨g15, 4, none⟩ = some (.slice q15 0 c15)) W := fun W h => ⟨h, (h.a _ (.tail _ (.tail _ (.tail _ (.tail _ (.tail _ (.tail _ (.head _)))))))).c0, (h.a _ (.tail _ (.tail _ (.tail _ (.tail _ (.tail _ (.tail _ (.head _)))))))).c1, (h.a _ (.tail _ (.tail _ (.tail _ (.tail _ (.tail _ (.tail _ (.head _)))))))).c2, (h.a _ (.tail _ (.tail _ (.tail _ (.tail _ (.tail _ (.tail _ (.head _)))))))).c3, (h.a _ (.tail _ (.tail _ (.tail _ (.tail _ (.tail _ (.tail _ (.head _)))))))).c4, (h.a _ (.tail _ (.tail _ (.tail _ (.tail _ (.tail _ (.head _))))))).c0, (h.a _ (.tail _ (.tail _ (.tail _ (.tail _ (.tail _ (.head _))))))).c1, (h.a _ (.tail _ (.tail _ (.tail _ (.tail _ (.tail _ (.head _))))))).c2, (h.a _ (.tail _ (.tail _ (.tail _ (.tail _ (.tail _ (.head _))))))).c3, (h.a _ (.tail _ (.tail _ (.tail _ (.tail _ (.tail _ (.head _))))))).c4, (h.a _ (.tail _ (.tail _ (.tail _ (.tail _ (.head _)))))).c0, (h.a _ (.tail _ (.tail _ (.tail _ (.tail _ (.head _)))))).c1, (h.a _ (.tail _ (.tail _ (.tail _ (.tail _ (.head _)))))).c2, (h.a _ (.tail _ (.tail _ (.tail _ (.tail _ (.head _)))))).c3, (h.a _ (.tail _ (.tail _ (.tail _ (.tail _ (.head _)))))).c4, (h.a _ (.tail _ (.tail _ (.tail _ (.head _))))).c0, (h.a _ (.tail _ (.tail _ (.tail _ (.head _))))).c1, (h.a _ (.tail _ (.tail _ (.tail _ (.head _))))).c2, (h.a _ (.tail _ (.tail _ (.tail _ (.head _))))).c3, (h.a _ (.tail _ (.tail _ (.tail _ (.head _))))).c4, (h.a _ (.tail _ (.tail _ (.head _)))).c0, (h.a _ (.tail _ (.tail _ (.head _)))).c1, (h.a _ (.tail _ (.tail _ (.head _)))).c2, (h.a _ (.tail _ (.tail _ (.head _)))).c3, (h.a _ (.tail _ (.tail _ (.head _)))).c4, (h.a _ (.tail _ (.head _))).c0, (h.a _ (.tail _ (.head _))).c1, (h.a _ (.tail _ (.head _))).c2, (h.a _ (.tail _ (.head _))).c3, (h.a _ (.tail _ (.head _))).c4, (h.a _ (.head _)).c0, (h.a _ (.head _)).c1, (h.a _ (.head _)).c2, (h.a _ (.head _)).c3, (h.a _ (.head _)).c4⟩
          have hS := HK.out
          clear HK
          go_region_held3 (fun W => KLs w [⟨g15, ⟨0, 0, 0, 0, []⟩, .slice q15 0 c15⟩, ⟨g13, ⟨0, 0, 0, 0, []⟩, .slice q13 0 c13⟩, ⟨g11, ⟨1, 2, 2, 2, [1, 2, 3, 1]⟩, .slice q11 4 c11⟩, ⟨g9, ⟨1, 1, 2, 0, [1, 2]⟩, .slice q9 2 c9⟩, ⟨g7, ⟨1, 1, 2, 0, [2, 3]⟩, .slice q7 2 c7⟩, ⟨g4, ⟨1, 2, 3, 2, [1, 4, 2, 5, 3, 6]⟩, .slice q4 6 c4⟩, ⟨g3, ⟨1, 2, 2, 3, [3, 2, 1, 6, 5, 4]⟩, .slice q3 6 c3⟩, ⟨gm, ⟨1, 2, 2, 3, [1, 2, 3, 4, 5, 6]⟩, .slice qm 6 cm⟩, ⟨gv, ⟨1, 1, 3, 0, [1, 2, 3]⟩, .slice qv 3 cv⟩] [] W ∧ W.cell? ⟨g3, 0, none⟩ = some (.int .i64 1) ∧ W.cell? ⟨g3, 1, none⟩ = some (.int .i64 2) ∧ W.cell? ⟨g3, 2, none⟩ = some (.int .i64 2) ∧ W.cell? ⟨g3, 3, none⟩ = some (.int .i64 3) ∧ W.cell? ⟨g3, 4, none⟩ = some (.slice q3 6 c3) ∧ W.cell? ⟨g4, 0, none⟩ = some (.int .i64 1) ∧ W.cell? ⟨g4, 1, none⟩ = some (.int .i64 2) ∧ W.cell? ⟨g4, 2, none⟩ = some (.int .i64 3) ∧ W.cell? ⟨g4, 3, none⟩ = some (.int .i64 2) ∧ W.cell? ⟨g4, 4, none⟩ = some (.slice q4 6 c4) ∧ W.cell? ⟨g7, 0, none⟩ = some (.int .i64 1) ∧ W.cell? ⟨g7, 1, none⟩ = some (.int .i64 1) ∧ W.cell? ⟨g7, 2, none⟩ = some (.int .i64 2) ∧ W.cell? ⟨g7, 3, none⟩ = some (.int .i64 0) ∧ W.cell? ⟨g7, 4, none⟩ = some (.slice q7 2 c7) ∧ W.cell? ⟨g9, 0, none⟩ = some (.int .i64 1) ∧ W.cell? ⟨g9, 1, none⟩ = some (.int .i64 1) ∧ W.cell? ⟨g9, 2, none⟩ = some (.int .i64 2) ∧ W.cell? ⟨g9, 3, none⟩ = some (.int .i64 0) ∧ W.cell? ⟨g9, 4, none⟩ = some (.slice q9 2 c9) ∧ W.cell? ⟨g11, 0, none⟩ = some (.int .i64 1) ∧ W.cell? ⟨g11, 1, none⟩ = some (.int .i64 2) ∧ W.cell? ⟨g11, 2, none⟩ = some (.int .i64 2) ∧ W.cell? ⟨g11, 3, none⟩ = some (.int .i64 2) ∧ W.cell? ⟨g11, 4, none⟩ = some (.slice q11 4 c11) ∧ W.cell? ⟨g13, 0, none⟩ = some (.int .i64 0) ∧ W.cell? ⟨g13, 1, none⟩ = some (.int .i64 0) ∧ W.cell? ⟨g13, 2, none⟩ = some (.int .i64 0) ∧ W.cell? ⟨g13, 3, none⟩ = some (.int .i64 0) ∧ W.cell? ⟨g13, 4, none⟩ = some (.slice q13 0 c13) ∧ W.cell? ⟨g15, 0, none⟩ = some (.int .i64 0) ∧ W.cell? ⟨g15, 1, none⟩ = some (.int .i64 0) ∧ W.cell? ⟨g15, 2, none⟩ = some (.int .i64 0) ∧ W.cell? ⟨g15, 3, none⟩ = some (.int .i64 0) ∧ W.cell? ⟨g15, 4, none⟩ = some (.slice q15 0 c15))
            ((first | exact HAll _ ((by assumption : KLs _ _ _ _ ∧ _).1.next hbn) | exact HAll _ ((by assumption : KLs _ _ _ _ ∧ _).1.next (bel1 _ _)) | exact HAll _ (by assumption : KLs _ _ _ _ ∧ _).1 | exact HAll _ (hS.next (Below.refl _ _).drew) | fail))
            (first
              | (go_at_call 38; (with_reducible refine (HM9a.out _ _ (by first | rfl | simp)).mono ?_); rintro e wn ⟨qn, cn, rfl, hrv, hbn⟩)
              | (go_at_call 38; (with_reducible refine (HM9ad.out _ _ (by first | rfl | simp)).mono ?_); rintro e wn ⟨qn, cn, rfl, hrv, hbn⟩)
              | (go_at_call 32; (with_reducible refine (HS_g3.out _ _ _ (by with_unfolding_all exact (by assumption : KLs _ _ _ _ ∧ _).1.r _ (.tail _ (.tail _ (.tail _ (.tail _ (.tail _ (.tail _ (.head _)))))))) hrv.rd).mono ?_); rintro e wn ⟨rfl, hbn⟩)
              | (go_at_call 38; (with_reducible refine (HM9b.out _ _ (by first | rfl | simp)).mono ?_); rintro e wn ⟨qn, cn, rfl, hrv, hbn⟩)
              | (go_at_call 32; (with_reducible refine (HS_g4.out _ _ _ (by with_unfolding_all exact (by assumption : KLs _ _ _ _ ∧ _).1.r _ (.tail _ (.tail _ (.tail _ (.tail _ (.tail _ (.head _))))))) hrv.rd).mono ?_); rintro e wn ⟨rfl, hbn⟩)
              | (go_at_call 35; (with_reducible refine (HI9a.out _ _ (by first | rfl | simp)).mono ?_); rintro e wn ⟨qn, cn, rfl, hrv, hbn⟩)
              | (go_at_call 32; (with_reducible refine (HS_g7.out _ _ _ (by with_unfolding_all exact (by assumption : KLs _ _ _ _ ∧ _).1.r _ (.tail _ (.tail _ (.tail _ (.tail _ (.head _)))))) hrv.rd).mono ?_); rintro e wn ⟨rfl, hbn⟩)
              | (go_at_call 35; (with_reducible refine (HI9b.out _ _ (by first | rfl | simp)).mono ?_); rintro e wn ⟨qn, cn, rfl, hrv, hbn⟩)
              | (go_at_call 32; (with_reducible refine (HS_g9.out _ _ _ (by with_unfolding_all exact (by assumption : KLs _ _ _ _ ∧ _).1.r _ (.tail _ (.tail _ (.tail _ (.head _))))) hrv.rd).mono ?_); rintro e wn ⟨rfl, hbn⟩)
              | (go_at_call 38; (with_reducible refine (HM9c.out _ _ (by first | rfl | simp)).mono ?_); rintro e wn ⟨qn, cn, rfl, hrv, hbn⟩)
              | (go_at_call 32; (with_reducible refine (HS_g11.out _ _ _ (by with_unfolding_all exact (by assumption : KLs _ _ _ _ ∧ _).1.r _ (.tail _ (.tail _ (.head _)))) hrv.rd).mono ?_); rintro e wn ⟨rfl, hbn⟩)
              | (go_at_call 31; (with_reducible refine (HF13.out _).mono ?_); rintro e wn ⟨rfl, hbn⟩)
              | (go_at_call 31; (with_reducible refine (HF15.out _).mono ?_); rintro e wn ⟨rfl, hbn⟩)
              | fail)
          all_goals
            have HB := Lib.hid (by assumption : KLs _ _ _ _ ∧ _).1.bel
            go_wp2_with fail
            go_ret
            exact ⟨rfl, HB.out⟩
end Go.Proofs.YtbeoigmaieiigaaDoor
