/- The moves' awake. -/
import Derived.Test.YtpbfbejckhbijaaDoorMvZ
import Derived.Test.YtpbfbejckhbijaaDoorMvP
import Derived.Deep.DeepCutAuto
namespace Go.Proofs.YtpbfbejckhbijaaDoor
open Go.RowKit

theorem KLs.add {w W : World} {l : List Bk} {ps : List (Nat × Int × Int)} (h : KLs w l ps W) {g : Nat} {A : Ar} {u : Value} (h5 : R5 W g A.k A.r A.a A.b u) (hr : RdI W.heap.size W u A.z) : KLs w (⟨g, A, u⟩ :: l) ps W :=
  ⟨h.bel, h.lay, fun b m => by
    rcases List.mem_cons.1 m with rfl | m
    · exact ⟨h5, hr⟩
    · exact h.all b m, h.prs⟩
/-- The law's Ints of a slice that is written out. -/
theorem ints_lit (z : List Int) (len : Nat) (hlen : z.length = len) (h4 : len ≤ 1000) (W : World) (g : Nat) (hg : W.heap.size = g) :
    Calls Tryd.prog 17 #[.slice (some ⟨g, 0, none⟩) len len] (W.alloc (.cells (z.map vi).toArray 2)) fun e w' => ∃ q c, e = .returned (A5 1 1 len 0 (.slice q len c)) ∧ RdN (g + 1) w' (.slice q len c) z ∧ Below W.heap.size W w' := by
  subst hg hlen
  have hb := bel1 W (.cells (z.map vi).toArray 2)
  refine (lints_any z (.slice (some ⟨W.heap.size, 0, none⟩) z.length z.length) _ (blk_rd rfl (by omega) (heap_alloc_last W _)) (nil_some _ _ _) (by omega)).mono ?_
  rintro e w' ⟨u, h1, h2, h3⟩
  obtain ⟨q, c, hq, _⟩ := h2.form
  have hq2 : u = .slice q z.length c := hq
  subst hq2
  exact ⟨q, c, h1, h2.mono (by simp), hb.trans (h3.mono hb.size)⟩
/-- The law's Int. -/
theorem int_lit (n : Int) (W : World) : Calls Tryd.prog 15 #[.int .i64 n] W fun e w' => ∃ q c, e = .returned (A5 1 0 0 0 (.slice q 1 c)) ∧ RdN W.heap.size w' (.slice q 1 c) [n] ∧ Below W.heap.size W w' := by
  refine (lint_any n W).mono ?_
  rintro e w' ⟨u, h1, h2, h3⟩
  obtain ⟨q, c, hq, _⟩ := h2.form
  have hq2 : u = .slice q 1 c := hq
  subst hq2
  exact ⟨q, c, h1, h2, h3⟩
theorem ints_gen (z : List Int) (len : Nat) (hlen : z.length = len) (h4 : len ≤ 1000) (v : Value) (W : World) (hv : RdI W.heap.size W v z) (hn : Ru.NilC v) :
    Calls Tryd.prog 17 #[v] W fun e w' => ∃ q c, e = .returned (A5 1 1 len 0 (.slice q len c)) ∧ RdN W.heap.size w' (.slice q len c) z ∧ Below W.heap.size W w' := by
  subst hlen
  refine (lints_any z v W hv hn (by omega)).mono ?_
  rintro e w' ⟨u, h1, h2, h3⟩
  obtain ⟨q, c, hq, _⟩ := h2.form
  have hq2 : u = .slice q z.length c := hq
  subst hq2
  exact ⟨q, c, h1, h2, h3⟩
/-- What a region that lays a result leaves. -/
def CutA (w : World) (L : List Bk) (sp se : Value) (k r a b E : Int) (n : Nat) (z : List Int) (W : World) : Prop :=
  ∃ g q c, sp = .pointer (some ⟨g, 0, none⟩) ∧ se = .int .i64 E ∧ KLs w (⟨g, ⟨k, r, a, b, z⟩, .slice q n c⟩ :: L) [] W
theorem rdI_nilC {B : Nat} {w : World} {v : Value} {z : List Int} (h : RdI B w v z) (hz : z ≠ []) : Ru.NilC v := by
  obtain ⟨p, cap, rfl, _, _, h3⟩ := h
  obtain ⟨b, off, rfl, _⟩ := h3 hz
  exact nil_some _ _ _
/-- A contract of a function of one array, and of two, at arrays that are written out. -/
theorem one_lit {F : FuncId} {k r a b : Int} {v : Value} {W : World} {R : Ar} {E : Int} (h : Calls Tryd.prog F #[A5 k r a b v] W (RetE R E W)) (k' r' a' b' : Int) (n : Nat) (z' : List Int) (hR : R = ⟨k', r', a', b', z'⟩) (hn : z'.length = n) :
    Calls Tryd.prog F #[A5 k r a b v] W fun e w' => ∃ q c, e = .returned (.tuple #[A5 k' r' a' b' (.slice q n c), .int .i64 E]) ∧ RdN W.heap.size w' (.slice q n c) z' ∧ Below W.heap.size W w' := by
  subst hR hn
  refine h.mono ?_
  rintro e w' ⟨u, h1, h2, h3⟩
  obtain ⟨q, c, hq, _⟩ := h2.form
  have hq2 : u = .slice q z'.length c := hq
  subst hq2
  exact ⟨q, c, h1, h2, h3⟩
theorem two_lit {F : FuncId} {k r a b l s d f : Int} {v u : Value} {W : World} {R : Ar} {E : Int} (h : Calls Tryd.prog F #[A5 k r a b v, A5 l s d f u] W (RetE R E W)) (k' r' a' b' : Int) (n : Nat) (z' : List Int) (hR : R = ⟨k', r', a', b', z'⟩) (hn : z'.length = n) :
    Calls Tryd.prog F #[A5 k r a b v, A5 l s d f u] W fun e w' => ∃ q c, e = .returned (.tuple #[A5 k' r' a' b' (.slice q n c), .int .i64 E]) ∧ RdN W.heap.size w' (.slice q n c) z' ∧ Below W.heap.size W w' := by
  subst hR hn
  refine h.mono ?_
  rintro e w' ⟨u, h1, h2, h3⟩
  obtain ⟨q, c, hq, _⟩ := h2.form
  have hq2 : u = .slice q z'.length c := hq
  subst hq2
  exact ⟨q, c, h1, h2, h3⟩

end Go.Proofs.YtpbfbejckhbijaaDoor
