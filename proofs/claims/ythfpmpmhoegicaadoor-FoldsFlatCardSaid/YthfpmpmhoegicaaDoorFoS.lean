/- Blocks that hold three arrays, or three errors, and are stored into at an index. -/
import Derived.Test.YthfpmpmhoegicaaDoorFoR
import Derived.Test.YthfpmpmhoegicaaDoorMvKb
namespace Go.Proofs.YthfpmpmhoegicaaDoor
open Go.RowKit

structure B3 where
  g : Nat
  A0 : Ar
  v0 : Value
  A1 : Ar
  v1 : Value
  A2 : Ar
  v2 : Value
structure E3 where
  g : Nat
  x0 : Int
  x1 : Int
  x2 : Int
def R15 (W : World) (b : B3) : Prop :=
  W.heap[b.g]? = some (.cells #[.int .i64 b.A0.k, .int .i64 b.A0.r, .int .i64 b.A0.a, .int .i64 b.A0.b, b.v0, .int .i64 b.A1.k, .int .i64 b.A1.r, .int .i64 b.A1.a, .int .i64 b.A1.b, b.v1, .int .i64 b.A2.k, .int .i64 b.A2.r, .int .i64 b.A2.a, .int .i64 b.A2.b, b.v2] 31 (0, 0))
def R3 (W : World) (e : E3) : Prop := W.heap[e.g]? = some (.cells #[.int .i64 e.x0, .int .i64 e.x1, .int .i64 e.x2] 32 (0, 0))
section
variable {w W W' : World} {b : B3} {e : E3}
theorem R15.c0 (h : R15 W b) : W.cell? ⟨b.g, 0, none⟩ = some (.int .i64 b.A0.k) := by unfold R15 at h; simp [World.cell?, h]
theorem R15.c1 (h : R15 W b) : W.cell? ⟨b.g, 1, none⟩ = some (.int .i64 b.A0.r) := by unfold R15 at h; simp [World.cell?, h]
theorem R15.c2 (h : R15 W b) : W.cell? ⟨b.g, 2, none⟩ = some (.int .i64 b.A0.a) := by unfold R15 at h; simp [World.cell?, h]
theorem R15.c3 (h : R15 W b) : W.cell? ⟨b.g, 3, none⟩ = some (.int .i64 b.A0.b) := by unfold R15 at h; simp [World.cell?, h]
theorem R15.c4 (h : R15 W b) : W.cell? ⟨b.g, 4, none⟩ = some (b.v0) := by unfold R15 at h; simp [World.cell?, h]
theorem R15.c5 (h : R15 W b) : W.cell? ⟨b.g, 5, none⟩ = some (.int .i64 b.A1.k) := by unfold R15 at h; simp [World.cell?, h]
theorem R15.c6 (h : R15 W b) : W.cell? ⟨b.g, 6, none⟩ = some (.int .i64 b.A1.r) := by unfold R15 at h; simp [World.cell?, h]
theorem R15.c7 (h : R15 W b) : W.cell? ⟨b.g, 7, none⟩ = some (.int .i64 b.A1.a) := by unfold R15 at h; simp [World.cell?, h]
theorem R15.c8 (h : R15 W b) : W.cell? ⟨b.g, 8, none⟩ = some (.int .i64 b.A1.b) := by unfold R15 at h; simp [World.cell?, h]
theorem R15.c9 (h : R15 W b) : W.cell? ⟨b.g, 9, none⟩ = some (b.v1) := by unfold R15 at h; simp [World.cell?, h]
theorem R15.c10 (h : R15 W b) : W.cell? ⟨b.g, 10, none⟩ = some (.int .i64 b.A2.k) := by unfold R15 at h; simp [World.cell?, h]
theorem R15.c11 (h : R15 W b) : W.cell? ⟨b.g, 11, none⟩ = some (.int .i64 b.A2.r) := by unfold R15 at h; simp [World.cell?, h]
theorem R15.c12 (h : R15 W b) : W.cell? ⟨b.g, 12, none⟩ = some (.int .i64 b.A2.a) := by unfold R15 at h; simp [World.cell?, h]
theorem R15.c13 (h : R15 W b) : W.cell? ⟨b.g, 13, none⟩ = some (.int .i64 b.A2.b) := by unfold R15 at h; simp [World.cell?, h]
theorem R15.c14 (h : R15 W b) : W.cell? ⟨b.g, 14, none⟩ = some (b.v2) := by unfold R15 at h; simp [World.cell?, h]
theorem R3.c0 (h : R3 W e) : W.cell? ⟨e.g, 0, none⟩ = some (.int .i64 e.x0) := by unfold R3 at h; simp [World.cell?, h]
theorem R3.c1 (h : R3 W e) : W.cell? ⟨e.g, 1, none⟩ = some (.int .i64 e.x1) := by unfold R3 at h; simp [World.cell?, h]
theorem R3.c2 (h : R3 W e) : W.cell? ⟨e.g, 2, none⟩ = some (.int .i64 e.x2) := by unfold R3 at h; simp [World.cell?, h]
theorem R15.fr (h : R15 W b) (i : Nat) : W.frozen? ⟨b.g, i, none⟩ = false := Lib.frozen_of_heap h i
theorem R3.fr (h : R3 W e) (i : Nat) : W.frozen? ⟨e.g, i, none⟩ = false := Lib.frozen_of_heap h i
theorem R15.lt (h : R15 W b) : b.g < W.heap.size := (Array.getElem?_eq_some_iff.1 h).1
theorem R3.lt (h : R3 W e) : e.g < W.heap.size := (Array.getElem?_eq_some_iff.1 h).1
end
abbrev s15_0 (w : World) (g : Nat) (k r a b : Int) (v : Value) : World := (((((w.setCell ⟨g, 0, none⟩ (.int .i64 k)).setCell ⟨g, 1, none⟩ (.int .i64 r)).setCell ⟨g, 2, none⟩ (.int .i64 a)).setCell ⟨g, 3, none⟩ (.int .i64 b)).setCell ⟨g, 4, none⟩ v)
abbrev B3.p0 (b : B3) (A : Ar) (v : Value) : B3 := ⟨b.g, A, v, b.A1, b.v1, b.A2, b.v2⟩
abbrev E3.p0 (e : E3) (x : Int) : E3 := ⟨e.g, x, e.x1, e.x2⟩
theorem R15.set0 {W : World} {b : B3} (h : R15 W b) (A : Ar) (v : Value) : R15 (s15_0 W b.g A.k A.r A.a A.b v) (b.p0 A v) := by
  unfold R15 at h ⊢
  simp [World.setCell, Array.getElem?_modify, h]
theorem s15_0_other {w : World} {g : Nat} (k r a b : Int) (v : Value) {c : Nat} (hc : c ≠ g) : (s15_0 w g k r a b v).heap[c]? = w.heap[c]? := by
  have : g ≠ c := fun e => hc e.symm
  simp [World.setCell, Array.getElem?_modify, this]
theorem s15_0_below {B : Nat} {w w' : World} {g : Nat} (k r a b : Int) (v : Value) (hg : B ≤ g) (h : Below B w w') : Below B w (s15_0 w' g k r a b v) :=
  ((((h.setCell (p := ⟨g, 0, none⟩) hg _).setCell (p := ⟨g, 1, none⟩) hg _).setCell (p := ⟨g, 2, none⟩) hg _).setCell (p := ⟨g, 3, none⟩) hg _).setCell (p := ⟨g, 4, none⟩) hg _
theorem s15_0_size (w : World) (g : Nat) (k r a b : Int) (v : Value) : (s15_0 w g k r a b v).heap.size = w.heap.size := by simp
theorem R3.set0 {W : World} {e : E3} (h : R3 W e) (x : Int) : R3 (W.setCell ⟨e.g, 0, none⟩ (.int .i64 x)) (e.p0 x) := by
  unfold R3 at h ⊢
  simp [World.setCell, Array.getElem?_modify, h]
abbrev s15_1 (w : World) (g : Nat) (k r a b : Int) (v : Value) : World := (((((w.setCell ⟨g, 5, none⟩ (.int .i64 k)).setCell ⟨g, 6, none⟩ (.int .i64 r)).setCell ⟨g, 7, none⟩ (.int .i64 a)).setCell ⟨g, 8, none⟩ (.int .i64 b)).setCell ⟨g, 9, none⟩ v)
abbrev B3.p1 (b : B3) (A : Ar) (v : Value) : B3 := ⟨b.g, b.A0, b.v0, A, v, b.A2, b.v2⟩
abbrev E3.p1 (e : E3) (x : Int) : E3 := ⟨e.g, e.x0, x, e.x2⟩
theorem R15.set1 {W : World} {b : B3} (h : R15 W b) (A : Ar) (v : Value) : R15 (s15_1 W b.g A.k A.r A.a A.b v) (b.p1 A v) := by
  unfold R15 at h ⊢
  simp [World.setCell, Array.getElem?_modify, h]
theorem s15_1_other {w : World} {g : Nat} (k r a b : Int) (v : Value) {c : Nat} (hc : c ≠ g) : (s15_1 w g k r a b v).heap[c]? = w.heap[c]? := by
  have : g ≠ c := fun e => hc e.symm
  simp [World.setCell, Array.getElem?_modify, this]
theorem s15_1_below {B : Nat} {w w' : World} {g : Nat} (k r a b : Int) (v : Value) (hg : B ≤ g) (h : Below B w w') : Below B w (s15_1 w' g k r a b v) :=
  ((((h.setCell (p := ⟨g, 5, none⟩) hg _).setCell (p := ⟨g, 6, none⟩) hg _).setCell (p := ⟨g, 7, none⟩) hg _).setCell (p := ⟨g, 8, none⟩) hg _).setCell (p := ⟨g, 9, none⟩) hg _
theorem s15_1_size (w : World) (g : Nat) (k r a b : Int) (v : Value) : (s15_1 w g k r a b v).heap.size = w.heap.size := by simp
theorem R3.set1 {W : World} {e : E3} (h : R3 W e) (x : Int) : R3 (W.setCell ⟨e.g, 1, none⟩ (.int .i64 x)) (e.p1 x) := by
  unfold R3 at h ⊢
  simp [World.setCell, Array.getElem?_modify, h]
abbrev s15_2 (w : World) (g : Nat) (k r a b : Int) (v : Value) : World := (((((w.setCell ⟨g, 10, none⟩ (.int .i64 k)).setCell ⟨g, 11, none⟩ (.int .i64 r)).setCell ⟨g, 12, none⟩ (.int .i64 a)).setCell ⟨g, 13, none⟩ (.int .i64 b)).setCell ⟨g, 14, none⟩ v)
abbrev B3.p2 (b : B3) (A : Ar) (v : Value) : B3 := ⟨b.g, b.A0, b.v0, b.A1, b.v1, A, v⟩
abbrev E3.p2 (e : E3) (x : Int) : E3 := ⟨e.g, e.x0, e.x1, x⟩
theorem R15.set2 {W : World} {b : B3} (h : R15 W b) (A : Ar) (v : Value) : R15 (s15_2 W b.g A.k A.r A.a A.b v) (b.p2 A v) := by
  unfold R15 at h ⊢
  simp [World.setCell, Array.getElem?_modify, h]
theorem s15_2_other {w : World} {g : Nat} (k r a b : Int) (v : Value) {c : Nat} (hc : c ≠ g) : (s15_2 w g k r a b v).heap[c]? = w.heap[c]? := by
  have : g ≠ c := fun e => hc e.symm
  simp [World.setCell, Array.getElem?_modify, this]
theorem s15_2_below {B : Nat} {w w' : World} {g : Nat} (k r a b : Int) (v : Value) (hg : B ≤ g) (h : Below B w w') : Below B w (s15_2 w' g k r a b v) :=
  ((((h.setCell (p := ⟨g, 10, none⟩) hg _).setCell (p := ⟨g, 11, none⟩) hg _).setCell (p := ⟨g, 12, none⟩) hg _).setCell (p := ⟨g, 13, none⟩) hg _).setCell (p := ⟨g, 14, none⟩) hg _
theorem s15_2_size (w : World) (g : Nat) (k r a b : Int) (v : Value) : (s15_2 w g k r a b v).heap.size = w.heap.size := by simp
theorem R3.set2 {W : World} {e : E3} (h : R3 W e) (x : Int) : R3 (W.setCell ⟨e.g, 2, none⟩ (.int .i64 x)) (e.p2 x) := by
  unfold R3 at h ⊢
  simp [World.setCell, Array.getElem?_modify, h]
/-- What the walk keeps: blocks of three arrays (with others, of one array each), and blocks of three errors. -/
structure KT (w : World) (l : List B3) (m : List E3) (W : World) : Prop where
  bel : Below w.heap.size w W
  lay : Ru.Lay W
  sz0 : 0 + 1 ≤ w.heap.size
  all : ∀ b ∈ l, (w.heap.size ≤ b.g ∧ b.g < W.heap.size) ∧ R15 W b ∧ (RdX (l.map B3.g ++ m.map E3.g) W b.v0 b.A0.z ∧ Ru.NilC b.v0) ∧ (RdX (l.map B3.g ++ m.map E3.g) W b.v1 b.A1.z ∧ Ru.NilC b.v1) ∧ (RdX (l.map B3.g ++ m.map E3.g) W b.v2 b.A2.z ∧ Ru.NilC b.v2)
  err : ∀ e ∈ m, (w.heap.size ≤ e.g ∧ e.g < W.heap.size) ∧ R3 W e
section
variable {w W W' : World} {l l' : List B3} {m m' : List E3}
theorem KT.b (h : KT w l m W) (b : B3) (hb : b ∈ l) : R15 W b := (h.all b hb).2.1
theorem KT.e (h : KT w l m W) (e : E3) (he : e ∈ m) : R3 W e := (h.err e he).2
theorem KT.r0 (h : KT w l m W) (b : B3) (hb : b ∈ l) : RdI W.heap.size W b.v0 b.A0.z := (h.all b hb).2.2.1.1.rd
theorem KT.r1 (h : KT w l m W) (b : B3) (hb : b ∈ l) : RdI W.heap.size W b.v1 b.A1.z := (h.all b hb).2.2.2.1.1.rd
theorem KT.r2 (h : KT w l m W) (b : B3) (hb : b ∈ l) : RdI W.heap.size W b.v2 b.A2.z := (h.all b hb).2.2.2.2.1.rd
theorem KT.n0 (h : KT w l m W) (b : B3) (hb : b ∈ l) : Ru.NilC b.v0 := (h.all b hb).2.2.1.2
theorem KT.n1 (h : KT w l m W) (b : B3) (hb : b ∈ l) : Ru.NilC b.v1 := (h.all b hb).2.2.2.1.2
theorem KT.n2 (h : KT w l m W) (b : B3) (hb : b ∈ l) : Ru.NilC b.v2 := (h.all b hb).2.2.2.2.2
theorem R15.keep {b : B3} (h : R15 W b) (hb : W'.heap[b.g]? = W.heap[b.g]?) : R15 W' b := hb.trans h
theorem R3.keep {e : E3} (h : R3 W e) (hb : W'.heap[e.g]? = W.heap[e.g]?) : R3 W' e := hb.trans h
theorem KT.next (h : KT w l m W) (hb : Below W.heap.size W W') : KT w l m W' :=
  ⟨h.bel.trans (hb.mono h.bel.size), h.lay.next hb, h.sz0, fun b m => by
    obtain ⟨⟨a1, a2⟩, a3, ⟨b1, b2⟩, ⟨c1, c2⟩, ⟨d1, d2⟩⟩ := h.all b m
    have k : ∀ {u : Value} {z : List Int} {gs : List Nat}, RdX gs W u z → RdX gs W' u z := fun hx => hx.keep hb.size fun c _ hc => hb.block c hc
    exact ⟨⟨a1, Nat.lt_of_lt_of_le a2 hb.size⟩, a3.keep (hb.block _ a2), ⟨k b1, b2⟩, ⟨k c1, c2⟩, ⟨k d1, d2⟩⟩, fun e m => by
    obtain ⟨⟨a1, a2⟩, a3⟩ := h.err e m
    exact ⟨⟨a1, Nat.lt_of_lt_of_le a2 hb.size⟩, a3.keep (hb.block _ a2)⟩⟩
theorem KT.gs (h : KT w l m W) : ∀ g ∈ l.map B3.g ++ m.map E3.g, w.heap.size ≤ g ∧ g < W.heap.size := fun g hg => by
  rcases List.mem_append.1 hg with hg | hg
  · obtain ⟨b, hb, rfl⟩ := List.mem_map.1 hg
    exact (h.all b hb).1
  · obtain ⟨b, hb, rfl⟩ := List.mem_map.1 hg
    exact (h.err b hb).1
/-- A store into one of the blocks: the other blocks stay, and so does what arrays have in others. -/
theorem KT.stored (h : KT w l m W) (g0 : Nat) (hg : g0 ∈ l.map B3.g ++ m.map E3.g) (hs : W'.heap.size = W.heap.size) (hbl : Below w.heap.size W W') (ho : ∀ c, c ≠ g0 → W'.heap[c]? = W.heap[c]?)
    (hgs : ∀ g ∈ l'.map B3.g ++ m'.map E3.g, g ∈ l.map B3.g ++ m.map E3.g)
    (hl : ∀ b ∈ l', (b ∈ l ∧ b.g ≠ g0) ∨ (b.g = g0 ∧ R15 W' b ∧ (RdX (l.map B3.g ++ m.map E3.g) W b.v0 b.A0.z ∧ Ru.NilC b.v0) ∧ (RdX (l.map B3.g ++ m.map E3.g) W b.v1 b.A1.z ∧ Ru.NilC b.v1) ∧ (RdX (l.map B3.g ++ m.map E3.g) W b.v2 b.A2.z ∧ Ru.NilC b.v2)))
    (hm : ∀ e ∈ m', (e ∈ m ∧ e.g ≠ g0) ∨ (e.g = g0 ∧ R3 W' e)) : KT w l' m' W' := by
  have k : ∀ {u : Value} {z : List Int}, RdX (l.map B3.g ++ m.map E3.g) W u z → RdX (l'.map B3.g ++ m'.map E3.g) W' u z := fun hx => (hx.keep (Nat.le_of_eq hs.symm) fun c hc _ => ho c fun e => hc (e ▸ hg)).sub hgs
  obtain ⟨q1, q2⟩ := h.gs g0 hg
  refine ⟨h.bel.trans hbl, h.lay.below h.sz0 hbl, h.sz0, fun b m => ?_, fun e m => ?_⟩
  · rcases hl b m with ⟨m2, hne⟩ | ⟨rfl, r, ⟨b1, b2⟩, ⟨c1, c2⟩, ⟨d1, d2⟩⟩
    · obtain ⟨⟨a1, a2⟩, a3, ⟨b1, b2⟩, ⟨c1, c2⟩, ⟨d1, d2⟩⟩ := h.all b m2
      exact ⟨⟨a1, by rw [hs]; exact a2⟩, a3.keep (ho _ hne), ⟨k b1, b2⟩, ⟨k c1, c2⟩, ⟨k d1, d2⟩⟩
    · exact ⟨⟨q1, by rw [hs]; exact q2⟩, r, ⟨k b1, b2⟩, ⟨k c1, c2⟩, ⟨k d1, d2⟩⟩
  · rcases hm e m with ⟨m2, hne⟩ | ⟨rfl, r⟩
    · obtain ⟨⟨a1, a2⟩, a3⟩ := h.err e m2
      exact ⟨⟨a1, by rw [hs]; exact a2⟩, a3.keep (ho _ hne)⟩
    · exact ⟨⟨q1, by rw [hs]; exact q2⟩, r⟩
/-- What a call has handed back is stored. -/
theorem KT.put0 (h : KT w l m W) (hb : Below W.heap.size W W') (A : Ar) {u : Value} (hu : RdN W.heap.size W' u A.z) (b0 : B3) (hb0 : b0 ∈ l) (hgs : l'.map B3.g = l.map B3.g)
    (hl : ∀ b ∈ l', (b ∈ l ∧ b.g ≠ b0.g) ∨ b = b0.p0 A u) (hm : ∀ e ∈ m, e.g ≠ b0.g) : KT w l' m (s15_0 W' b0.g A.k A.r A.a A.b u) := by
  have h2 := h.next hb
  have hw0 := (h.all b0 hb0).1.1
  have hx : RdX (l.map B3.g ++ m.map E3.g) W' u A.z := rdN_toX hu fun g hg => (h.gs g hg).2
  refine h2.stored b0.g (List.mem_append_left _ (List.mem_map.2 ⟨b0, hb0, rfl⟩)) (s15_0_size _ _ _ _ _ _ _) (s15_0_below _ _ _ _ _ hw0 (Below.refl _ _)) (fun c hc => s15_0_other _ _ _ _ _ hc) (by rw [hgs]; exact fun g hg => hg) (fun b mb => ?_) (fun e me => .inl ⟨me, hm e me⟩)
  rcases hl b mb with h1 | rfl
  · exact .inl h1
  · exact .inr ⟨rfl, (h2.b b0 hb0).set0 A u, ⟨hx, hu.nilC⟩, ((h2.all b0 hb0).2.2.2.1), ((h2.all b0 hb0).2.2.2.2)⟩
/-- An array that has stood before is stored. -/
theorem KT.cp0 (h : KT w l m W) (A : Ar) {u : Value} (hx : RdX (l.map B3.g ++ m.map E3.g) W u A.z) (hn : Ru.NilC u) (b0 : B3) (hb0 : b0 ∈ l) (hgs : l'.map B3.g = l.map B3.g)
    (hl : ∀ b ∈ l', (b ∈ l ∧ b.g ≠ b0.g) ∨ b = b0.p0 A u) (hm : ∀ e ∈ m, e.g ≠ b0.g) : KT w l' m (s15_0 W b0.g A.k A.r A.a A.b u) := by
  have hw0 := (h.all b0 hb0).1.1
  refine h.stored b0.g (List.mem_append_left _ (List.mem_map.2 ⟨b0, hb0, rfl⟩)) (s15_0_size _ _ _ _ _ _ _) (s15_0_below _ _ _ _ _ hw0 (Below.refl _ _)) (fun c hc => s15_0_other _ _ _ _ _ hc) (by rw [hgs]; exact fun g hg => hg) (fun b mb => ?_) (fun e me => .inl ⟨me, hm e me⟩)
  rcases hl b mb with h1 | rfl
  · exact .inl h1
  · exact .inr ⟨rfl, (h.b b0 hb0).set0 A u, ⟨hx, hn⟩, ((h.all b0 hb0).2.2.2.1), ((h.all b0 hb0).2.2.2.2)⟩
theorem KT.pe0 (h : KT w l m W) (x : Int) (e0 : E3) (he : e0 ∈ m) (hgs : m'.map E3.g = m.map E3.g)
    (hl : ∀ b ∈ l, b.g ≠ e0.g) (hm : ∀ e ∈ m', (e ∈ m ∧ e.g ≠ e0.g) ∨ e = e0.p0 x) : KT w l m' (W.setCell ⟨e0.g, 0, none⟩ (.int .i64 x)) := by
  have hw0 := (h.err e0 he).1.1
  refine h.stored e0.g (List.mem_append_right _ (List.mem_map.2 ⟨e0, he, rfl⟩)) (by simp) ((Below.refl _ _).setCell (p := ⟨e0.g, 0, none⟩) hw0 _) (fun c hc => blkO _ _ _ _ hc) (by rw [hgs]; exact fun g hg => hg) (fun b mb => .inl ⟨mb, hl b mb⟩) (fun e me => ?_)
  rcases hm e me with h1 | rfl
  · exact .inl h1
  · exact .inr ⟨rfl, (h.e e0 he).set0 x⟩
/-- What a call has handed back is stored. -/
theorem KT.put1 (h : KT w l m W) (hb : Below W.heap.size W W') (A : Ar) {u : Value} (hu : RdN W.heap.size W' u A.z) (b0 : B3) (hb0 : b0 ∈ l) (hgs : l'.map B3.g = l.map B3.g)
    (hl : ∀ b ∈ l', (b ∈ l ∧ b.g ≠ b0.g) ∨ b = b0.p1 A u) (hm : ∀ e ∈ m, e.g ≠ b0.g) : KT w l' m (s15_1 W' b0.g A.k A.r A.a A.b u) := by
  have h2 := h.next hb
  have hw0 := (h.all b0 hb0).1.1
  have hx : RdX (l.map B3.g ++ m.map E3.g) W' u A.z := rdN_toX hu fun g hg => (h.gs g hg).2
  refine h2.stored b0.g (List.mem_append_left _ (List.mem_map.2 ⟨b0, hb0, rfl⟩)) (s15_1_size _ _ _ _ _ _ _) (s15_1_below _ _ _ _ _ hw0 (Below.refl _ _)) (fun c hc => s15_1_other _ _ _ _ _ hc) (by rw [hgs]; exact fun g hg => hg) (fun b mb => ?_) (fun e me => .inl ⟨me, hm e me⟩)
  rcases hl b mb with h1 | rfl
  · exact .inl h1
  · exact .inr ⟨rfl, (h2.b b0 hb0).set1 A u, ((h2.all b0 hb0).2.2.1), ⟨hx, hu.nilC⟩, ((h2.all b0 hb0).2.2.2.2)⟩
/-- An array that has stood before is stored. -/
theorem KT.cp1 (h : KT w l m W) (A : Ar) {u : Value} (hx : RdX (l.map B3.g ++ m.map E3.g) W u A.z) (hn : Ru.NilC u) (b0 : B3) (hb0 : b0 ∈ l) (hgs : l'.map B3.g = l.map B3.g)
    (hl : ∀ b ∈ l', (b ∈ l ∧ b.g ≠ b0.g) ∨ b = b0.p1 A u) (hm : ∀ e ∈ m, e.g ≠ b0.g) : KT w l' m (s15_1 W b0.g A.k A.r A.a A.b u) := by
  have hw0 := (h.all b0 hb0).1.1
  refine h.stored b0.g (List.mem_append_left _ (List.mem_map.2 ⟨b0, hb0, rfl⟩)) (s15_1_size _ _ _ _ _ _ _) (s15_1_below _ _ _ _ _ hw0 (Below.refl _ _)) (fun c hc => s15_1_other _ _ _ _ _ hc) (by rw [hgs]; exact fun g hg => hg) (fun b mb => ?_) (fun e me => .inl ⟨me, hm e me⟩)
  rcases hl b mb with h1 | rfl
  · exact .inl h1
  · exact .inr ⟨rfl, (h.b b0 hb0).set1 A u, ((h.all b0 hb0).2.2.1), ⟨hx, hn⟩, ((h.all b0 hb0).2.2.2.2)⟩
theorem KT.pe1 (h : KT w l m W) (x : Int) (e0 : E3) (he : e0 ∈ m) (hgs : m'.map E3.g = m.map E3.g)
    (hl : ∀ b ∈ l, b.g ≠ e0.g) (hm : ∀ e ∈ m', (e ∈ m ∧ e.g ≠ e0.g) ∨ e = e0.p1 x) : KT w l m' (W.setCell ⟨e0.g, 1, none⟩ (.int .i64 x)) := by
  have hw0 := (h.err e0 he).1.1
  refine h.stored e0.g (List.mem_append_right _ (List.mem_map.2 ⟨e0, he, rfl⟩)) (by simp) ((Below.refl _ _).setCell (p := ⟨e0.g, 1, none⟩) hw0 _) (fun c hc => blkO _ _ _ _ hc) (by rw [hgs]; exact fun g hg => hg) (fun b mb => .inl ⟨mb, hl b mb⟩) (fun e me => ?_)
  rcases hm e me with h1 | rfl
  · exact .inl h1
  · exact .inr ⟨rfl, (h.e e0 he).set1 x⟩
/-- What a call has handed back is stored. -/
theorem KT.put2 (h : KT w l m W) (hb : Below W.heap.size W W') (A : Ar) {u : Value} (hu : RdN W.heap.size W' u A.z) (b0 : B3) (hb0 : b0 ∈ l) (hgs : l'.map B3.g = l.map B3.g)
    (hl : ∀ b ∈ l', (b ∈ l ∧ b.g ≠ b0.g) ∨ b = b0.p2 A u) (hm : ∀ e ∈ m, e.g ≠ b0.g) : KT w l' m (s15_2 W' b0.g A.k A.r A.a A.b u) := by
  have h2 := h.next hb
  have hw0 := (h.all b0 hb0).1.1
  have hx : RdX (l.map B3.g ++ m.map E3.g) W' u A.z := rdN_toX hu fun g hg => (h.gs g hg).2
  refine h2.stored b0.g (List.mem_append_left _ (List.mem_map.2 ⟨b0, hb0, rfl⟩)) (s15_2_size _ _ _ _ _ _ _) (s15_2_below _ _ _ _ _ hw0 (Below.refl _ _)) (fun c hc => s15_2_other _ _ _ _ _ hc) (by rw [hgs]; exact fun g hg => hg) (fun b mb => ?_) (fun e me => .inl ⟨me, hm e me⟩)
  rcases hl b mb with h1 | rfl
  · exact .inl h1
  · exact .inr ⟨rfl, (h2.b b0 hb0).set2 A u, ((h2.all b0 hb0).2.2.1), ((h2.all b0 hb0).2.2.2.1), ⟨hx, hu.nilC⟩⟩
/-- An array that has stood before is stored. -/
theorem KT.cp2 (h : KT w l m W) (A : Ar) {u : Value} (hx : RdX (l.map B3.g ++ m.map E3.g) W u A.z) (hn : Ru.NilC u) (b0 : B3) (hb0 : b0 ∈ l) (hgs : l'.map B3.g = l.map B3.g)
    (hl : ∀ b ∈ l', (b ∈ l ∧ b.g ≠ b0.g) ∨ b = b0.p2 A u) (hm : ∀ e ∈ m, e.g ≠ b0.g) : KT w l' m (s15_2 W b0.g A.k A.r A.a A.b u) := by
  have hw0 := (h.all b0 hb0).1.1
  refine h.stored b0.g (List.mem_append_left _ (List.mem_map.2 ⟨b0, hb0, rfl⟩)) (s15_2_size _ _ _ _ _ _ _) (s15_2_below _ _ _ _ _ hw0 (Below.refl _ _)) (fun c hc => s15_2_other _ _ _ _ _ hc) (by rw [hgs]; exact fun g hg => hg) (fun b mb => ?_) (fun e me => .inl ⟨me, hm e me⟩)
  rcases hl b mb with h1 | rfl
  · exact .inl h1
  · exact .inr ⟨rfl, (h.b b0 hb0).set2 A u, ((h.all b0 hb0).2.2.1), ((h.all b0 hb0).2.2.2.1), ⟨hx, hn⟩⟩
theorem KT.pe2 (h : KT w l m W) (x : Int) (e0 : E3) (he : e0 ∈ m) (hgs : m'.map E3.g = m.map E3.g)
    (hl : ∀ b ∈ l, b.g ≠ e0.g) (hm : ∀ e ∈ m', (e ∈ m ∧ e.g ≠ e0.g) ∨ e = e0.p2 x) : KT w l m' (W.setCell ⟨e0.g, 2, none⟩ (.int .i64 x)) := by
  have hw0 := (h.err e0 he).1.1
  refine h.stored e0.g (List.mem_append_right _ (List.mem_map.2 ⟨e0, he, rfl⟩)) (by simp) ((Below.refl _ _).setCell (p := ⟨e0.g, 2, none⟩) hw0 _) (fun c hc => blkO _ _ _ _ hc) (by rw [hgs]; exact fun g hg => hg) (fun b mb => .inl ⟨mb, hl b mb⟩) (fun e me => ?_)
  rcases hm e me with h1 | rfl
  · exact .inl h1
  · exact .inr ⟨rfl, (h.e e0 he).set2 x⟩
end
theorem sm_in64 {B : Ar} (h : isG B) (hr : B.r = 2) : in64 (smV B).z := by
  by_cases e : smE B = 0
  · rw [sm_mat h hr e]
    intro x hx
    have hx2 : x ∈ (rwL B).map List.sum := hx
    obtain ⟨l, hl, rfl⟩ := List.mem_map.1 hx2
    obtain ⟨i, hi, e2⟩ := List.mem_iff_getElem.1 hl
    rw [rwL_get h.c] at e2
    subst e2
    exact sum_inr (okS_row h e (by rw [← rwL_len h.c]; exact hi))
  · rw [show smV B = ⟨0, 0, 0, 0, []⟩ from orNo_no e]
    intro x hx
    cases hx
theorem en_in64 {B : Ar} (h : isG B) (hr : B.r = 2) (h64 : in64 B.z) (p : Int) : in64 (enV p B).z := by
  by_cases e : enE B = 0
  · rw [en_mat hr p e]
    intro x hx
    have hx2 : x ∈ (rwL B).map (en1 p) := hx
    obtain ⟨l, hl, rfl⟩ := List.mem_map.1 hx2
    obtain ⟨i, hi, e2⟩ := List.mem_iff_getElem.1 hl
    rw [rwL_get h.c] at e2
    subst e2
    exact en1_inr (h64.row i)
  · rw [show enV p B = ⟨0, 0, 0, 0, []⟩ from orNo_no e]
    intro x hx
    cases hx
theorem KT.start {w W : World} {l : List Bk} (h : KVar w l W) : KT w [] [] W := ⟨h.bel, h.lay, h.sz0, (fun _ h => by cases h), (fun _ h => by cases h)⟩
def B3.no (g : Nat) : B3 := ⟨g, Ar.no, .slice none 0 0, Ar.no, .slice none 0 0, Ar.no, .slice none 0 0⟩
theorem rdx_nil (gs : List Nat) (W : World) : RdX gs W (.slice none 0 0) [] ∧ Ru.NilC (.slice none 0 0) := ⟨⟨none, 0, rfl, Nat.le_refl _, by omega, fun h => absurd rfl h⟩, (RdN.nil 0 W).nilC⟩
section
variable {w W W' : World} {l l' : List B3} {m m' : List E3}
/-- A new block of three arrays, of three errors. -/
theorem KT.push15 (h : KT w l m W) : KT w (l ++ [B3.no W.heap.size]) m (W.alloc (.cells #[.int .i64 0, .int .i64 0, .int .i64 0, .int .i64 0, .slice none 0 0, .int .i64 0, .int .i64 0, .int .i64 0, .int .i64 0, .slice none 0 0, .int .i64 0, .int .i64 0, .int .i64 0, .int .i64 0, .slice none 0 0] 31)) := by
  have hb := bel1 W (.cells #[.int .i64 0, .int .i64 0, .int .i64 0, .int .i64 0, .slice none 0 0, .int .i64 0, .int .i64 0, .int .i64 0, .int .i64 0, .slice none 0 0, .int .i64 0, .int .i64 0, .int .i64 0, .int .i64 0, .slice none 0 0] 31)
  have h2 := h.next hb
  have k : ∀ {u : Value} {z : List Int}, RdX (l.map B3.g ++ m.map E3.g) W u z → RdX ((l ++ [B3.no W.heap.size]).map B3.g ++ m.map E3.g) (W.alloc (.cells #[.int .i64 0, .int .i64 0, .int .i64 0, .int .i64 0, .slice none 0 0, .int .i64 0, .int .i64 0, .int .i64 0, .int .i64 0, .slice none 0 0, .int .i64 0, .int .i64 0, .int .i64 0, .int .i64 0, .slice none 0 0] 31)) u z := fun hx => ((hx.more (Nat.le_refl _)).keep hb.size fun c _ hc => hb.block c hc).sub fun g hg => by
    simp only [List.map_append, List.mem_append, List.map_cons, List.map_nil, List.mem_cons, List.not_mem_nil, or_false] at hg ⊢
    rcases hg with (hg | hg) | hg
    · exact .inr (.inl hg)
    · exact .inl hg
    · exact .inr (.inr hg)
  refine ⟨h2.bel, h2.lay, h.sz0, fun b mb => ?_, h2.err⟩
  rcases List.mem_append.1 mb with mb | mb
  · obtain ⟨_, _, ⟨b1, b2⟩, ⟨c1, c2⟩, ⟨d1, d2⟩⟩ := h.all b mb
    exact ⟨(h2.all b mb).1, (h2.all b mb).2.1, ⟨k b1, b2⟩, ⟨k c1, c2⟩, ⟨k d1, d2⟩⟩
  · obtain rfl := List.mem_singleton.1 mb
    exact ⟨⟨h.bel.size, by show W.heap.size < _; simp⟩, heap_alloc_last W _, rdx_nil _ _, rdx_nil _ _, rdx_nil _ _⟩
theorem KT.push3 (h : KT w l m W) : KT w l (m ++ [E3.mk W.heap.size 0 0 0]) (W.alloc (.cells #[.int .i64 0, .int .i64 0, .int .i64 0] 32)) := by
  have hb := bel1 W (.cells #[.int .i64 0, .int .i64 0, .int .i64 0] 32)
  have h2 := h.next hb
  have k : ∀ {u : Value} {z : List Int}, RdX (l.map B3.g ++ m.map E3.g) W u z → RdX (l.map B3.g ++ (m ++ [E3.mk W.heap.size 0 0 0]).map E3.g) (W.alloc (.cells #[.int .i64 0, .int .i64 0, .int .i64 0] 32)) u z := fun hx => ((hx.more (Nat.le_refl _)).keep hb.size fun c _ hc => hb.block c hc).sub fun g hg => by
    simp only [List.map_append, List.mem_append, List.map_cons, List.map_nil, List.mem_cons, List.not_mem_nil, or_false] at hg ⊢
    rcases hg with hg | hg | hg
    · exact .inr (.inl hg)
    · exact .inr (.inr hg)
    · exact .inl hg
  refine ⟨h2.bel, h2.lay, h.sz0, fun b mb => ?_, fun e me => ?_⟩
  · obtain ⟨_, _, ⟨b1, b2⟩, ⟨c1, c2⟩, ⟨d1, d2⟩⟩ := h.all b mb
    exact ⟨(h2.all b mb).1, (h2.all b mb).2.1, ⟨k b1, b2⟩, ⟨k c1, c2⟩, ⟨k d1, d2⟩⟩
  · rcases List.mem_append.1 me with me | me
    · exact h2.err e me
    · obtain rfl := List.mem_singleton.1 me
      exact ⟨⟨h.bel.size, by show W.heap.size < _; simp⟩, heap_alloc_last W _⟩
end
abbrev z15 : Obj := .cells #[.int .i64 0, .int .i64 0, .int .i64 0, .int .i64 0, .slice none 0 0, .int .i64 0, .int .i64 0, .int .i64 0, .int .i64 0, .slice none 0 0, .int .i64 0, .int .i64 0, .int .i64 0, .int .i64 0, .slice none 0 0] 31
abbrev z3 : Obj := .cells #[.int .i64 0, .int .i64 0, .int .i64 0] 32
/-- Three blocks of arrays and three of errors, laid one after the other. -/
theorem KT.six {w W : World} {b : B3} (h : KT w [b] [] W) : KT w [b, B3.no W.heap.size, B3.no (W.heap.size + 1), B3.no (W.heap.size + 2)] [⟨W.heap.size + 3, 0, 0, 0⟩, ⟨W.heap.size + 4, 0, 0, 0⟩, ⟨W.heap.size + 5, 0, 0, 0⟩] ((((((W.alloc z15).alloc z15).alloc z15).alloc z3).alloc z3).alloc z3) := by
  have e : ∀ (V : World) (o : Obj), (V.alloc o).heap.size = V.heap.size + 1 := fun V o => by simp
  have h1 := h.push15
  have h2 := h1.push15
  have h3 := h2.push15
  have h4 := h3.push3
  have h5 := h4.push3
  have h6 := h5.push3
  rw [e, e, e, e, e, e, e, e, e, e, e, e, e, e, e] at h6
  exact h6
theorem KT.st00 {w W W' : World} {bm bs bl bo : B3} {be bf bg : E3} {n : Nat} (h : KT w [bm, bs, bl, bo] [be, bf, bg] W) (hn : bm.g < n ∧ bs.g = n ∧ bl.g = n + 1 ∧ bo.g = n + 2 ∧ be.g = n + 3 ∧ bf.g = n + 4 ∧ bg.g = n + 5)
    (hb : Below W.heap.size W W') (A : Ar) {u : Value} (hu : RdN W.heap.size W' u A.z) (E : Int) : KT w [bm, (bs.p0 A u), bl, bo] [(be.p0 E), bf, bg] ((s15_0 W' (n + 0) A.k A.r A.a A.b u).setCell ⟨n + 3, 0, none⟩ (.int .i64 E)) := by
  obtain ⟨n0, n1, n2, n3, n4, n5, n6⟩ := hn
  have H := (h.put0 (l' := [bm, (bs.p0 A u), bl, bo]) hb A hu bs (by simp) rfl (fun b m => by simp only [List.mem_cons, List.not_mem_nil, or_false] at m; rcases m with rfl | rfl | rfl | rfl; (· exact .inl ⟨by simp, by omega⟩); (· exact .inr rfl); (· exact .inl ⟨by simp, by omega⟩); (· exact .inl ⟨by simp, by omega⟩)) (fun b m => by simp only [List.mem_cons, List.not_mem_nil, or_false] at m; rcases m with rfl | rfl | rfl; (· omega); (· omega); (· omega))).pe0 (m' := [(be.p0 E), bf, bg]) E be (by simp) rfl (fun b m => by simp only [List.mem_cons, List.not_mem_nil, or_false] at m; rcases m with rfl | rfl | rfl | rfl; (· (try dsimp only [B3.p0]); omega); (· (try dsimp only [B3.p0]); omega); (· (try dsimp only [B3.p0]); omega); (· (try dsimp only [B3.p0]); omega)) (fun b m => by simp only [List.mem_cons, List.not_mem_nil, or_false] at m; rcases m with rfl | rfl | rfl; (· exact .inr rfl); (· exact .inl ⟨by simp, by omega⟩); (· exact .inl ⟨by simp, by omega⟩))
  rw [show bs.g = n + 0 from n1, show be.g = n + 3 from n4] at H
  exact H
theorem KT.st01 {w W W' : World} {bm bs bl bo : B3} {be bf bg : E3} {n : Nat} (h : KT w [bm, bs, bl, bo] [be, bf, bg] W) (hn : bm.g < n ∧ bs.g = n ∧ bl.g = n + 1 ∧ bo.g = n + 2 ∧ be.g = n + 3 ∧ bf.g = n + 4 ∧ bg.g = n + 5)
    (hb : Below W.heap.size W W') (A : Ar) {u : Value} (hu : RdN W.heap.size W' u A.z) (E : Int) : KT w [bm, (bs.p1 A u), bl, bo] [(be.p1 E), bf, bg] ((s15_1 W' (n + 0) A.k A.r A.a A.b u).setCell ⟨n + 3, 1, none⟩ (.int .i64 E)) := by
  obtain ⟨n0, n1, n2, n3, n4, n5, n6⟩ := hn
  have H := (h.put1 (l' := [bm, (bs.p1 A u), bl, bo]) hb A hu bs (by simp) rfl (fun b m => by simp only [List.mem_cons, List.not_mem_nil, or_false] at m; rcases m with rfl | rfl | rfl | rfl; (· exact .inl ⟨by simp, by omega⟩); (· exact .inr rfl); (· exact .inl ⟨by simp, by omega⟩); (· exact .inl ⟨by simp, by omega⟩)) (fun b m => by simp only [List.mem_cons, List.not_mem_nil, or_false] at m; rcases m with rfl | rfl | rfl; (· omega); (· omega); (· omega))).pe1 (m' := [(be.p1 E), bf, bg]) E be (by simp) rfl (fun b m => by simp only [List.mem_cons, List.not_mem_nil, or_false] at m; rcases m with rfl | rfl | rfl | rfl; (· (try dsimp only [B3.p1]); omega); (· (try dsimp only [B3.p1]); omega); (· (try dsimp only [B3.p1]); omega); (· (try dsimp only [B3.p1]); omega)) (fun b m => by simp only [List.mem_cons, List.not_mem_nil, or_false] at m; rcases m with rfl | rfl | rfl; (· exact .inr rfl); (· exact .inl ⟨by simp, by omega⟩); (· exact .inl ⟨by simp, by omega⟩))
  rw [show bs.g = n + 0 from n1, show be.g = n + 3 from n4] at H
  exact H
theorem KT.st02 {w W W' : World} {bm bs bl bo : B3} {be bf bg : E3} {n : Nat} (h : KT w [bm, bs, bl, bo] [be, bf, bg] W) (hn : bm.g < n ∧ bs.g = n ∧ bl.g = n + 1 ∧ bo.g = n + 2 ∧ be.g = n + 3 ∧ bf.g = n + 4 ∧ bg.g = n + 5)
    (hb : Below W.heap.size W W') (A : Ar) {u : Value} (hu : RdN W.heap.size W' u A.z) (E : Int) : KT w [bm, (bs.p2 A u), bl, bo] [(be.p2 E), bf, bg] ((s15_2 W' (n + 0) A.k A.r A.a A.b u).setCell ⟨n + 3, 2, none⟩ (.int .i64 E)) := by
  obtain ⟨n0, n1, n2, n3, n4, n5, n6⟩ := hn
  have H := (h.put2 (l' := [bm, (bs.p2 A u), bl, bo]) hb A hu bs (by simp) rfl (fun b m => by simp only [List.mem_cons, List.not_mem_nil, or_false] at m; rcases m with rfl | rfl | rfl | rfl; (· exact .inl ⟨by simp, by omega⟩); (· exact .inr rfl); (· exact .inl ⟨by simp, by omega⟩); (· exact .inl ⟨by simp, by omega⟩)) (fun b m => by simp only [List.mem_cons, List.not_mem_nil, or_false] at m; rcases m with rfl | rfl | rfl; (· omega); (· omega); (· omega))).pe2 (m' := [(be.p2 E), bf, bg]) E be (by simp) rfl (fun b m => by simp only [List.mem_cons, List.not_mem_nil, or_false] at m; rcases m with rfl | rfl | rfl | rfl; (· (try dsimp only [B3.p2]); omega); (· (try dsimp only [B3.p2]); omega); (· (try dsimp only [B3.p2]); omega); (· (try dsimp only [B3.p2]); omega)) (fun b m => by simp only [List.mem_cons, List.not_mem_nil, or_false] at m; rcases m with rfl | rfl | rfl; (· exact .inr rfl); (· exact .inl ⟨by simp, by omega⟩); (· exact .inl ⟨by simp, by omega⟩))
  rw [show bs.g = n + 0 from n1, show be.g = n + 3 from n4] at H
  exact H
theorem KT.st10 {w W W' : World} {bm bs bl bo : B3} {be bf bg : E3} {n : Nat} (h : KT w [bm, bs, bl, bo] [be, bf, bg] W) (hn : bm.g < n ∧ bs.g = n ∧ bl.g = n + 1 ∧ bo.g = n + 2 ∧ be.g = n + 3 ∧ bf.g = n + 4 ∧ bg.g = n + 5)
    (hb : Below W.heap.size W W') (A : Ar) {u : Value} (hu : RdN W.heap.size W' u A.z) (E : Int) : KT w [bm, bs, (bl.p0 A u), bo] [be, (bf.p0 E), bg] ((s15_0 W' (n + 1) A.k A.r A.a A.b u).setCell ⟨n + 4, 0, none⟩ (.int .i64 E)) := by
  obtain ⟨n0, n1, n2, n3, n4, n5, n6⟩ := hn
  have H := (h.put0 (l' := [bm, bs, (bl.p0 A u), bo]) hb A hu bl (by simp) rfl (fun b m => by simp only [List.mem_cons, List.not_mem_nil, or_false] at m; rcases m with rfl | rfl | rfl | rfl; (· exact .inl ⟨by simp, by omega⟩); (· exact .inl ⟨by simp, by omega⟩); (· exact .inr rfl); (· exact .inl ⟨by simp, by omega⟩)) (fun b m => by simp only [List.mem_cons, List.not_mem_nil, or_false] at m; rcases m with rfl | rfl | rfl; (· omega); (· omega); (· omega))).pe0 (m' := [be, (bf.p0 E), bg]) E bf (by simp) rfl (fun b m => by simp only [List.mem_cons, List.not_mem_nil, or_false] at m; rcases m with rfl | rfl | rfl | rfl; (· (try dsimp only [B3.p0]); omega); (· (try dsimp only [B3.p0]); omega); (· (try dsimp only [B3.p0]); omega); (· (try dsimp only [B3.p0]); omega)) (fun b m => by simp only [List.mem_cons, List.not_mem_nil, or_false] at m; rcases m with rfl | rfl | rfl; (· exact .inl ⟨by simp, by omega⟩); (· exact .inr rfl); (· exact .inl ⟨by simp, by omega⟩))
  rw [show bl.g = n + 1 from n2, show bf.g = n + 4 from n5] at H
  exact H
theorem KT.st11 {w W W' : World} {bm bs bl bo : B3} {be bf bg : E3} {n : Nat} (h : KT w [bm, bs, bl, bo] [be, bf, bg] W) (hn : bm.g < n ∧ bs.g = n ∧ bl.g = n + 1 ∧ bo.g = n + 2 ∧ be.g = n + 3 ∧ bf.g = n + 4 ∧ bg.g = n + 5)
    (hb : Below W.heap.size W W') (A : Ar) {u : Value} (hu : RdN W.heap.size W' u A.z) (E : Int) : KT w [bm, bs, (bl.p1 A u), bo] [be, (bf.p1 E), bg] ((s15_1 W' (n + 1) A.k A.r A.a A.b u).setCell ⟨n + 4, 1, none⟩ (.int .i64 E)) := by
  obtain ⟨n0, n1, n2, n3, n4, n5, n6⟩ := hn
  have H := (h.put1 (l' := [bm, bs, (bl.p1 A u), bo]) hb A hu bl (by simp) rfl (fun b m => by simp only [List.mem_cons, List.not_mem_nil, or_false] at m; rcases m with rfl | rfl | rfl | rfl; (· exact .inl ⟨by simp, by omega⟩); (· exact .inl ⟨by simp, by omega⟩); (· exact .inr rfl); (· exact .inl ⟨by simp, by omega⟩)) (fun b m => by simp only [List.mem_cons, List.not_mem_nil, or_false] at m; rcases m with rfl | rfl | rfl; (· omega); (· omega); (· omega))).pe1 (m' := [be, (bf.p1 E), bg]) E bf (by simp) rfl (fun b m => by simp only [List.mem_cons, List.not_mem_nil, or_false] at m; rcases m with rfl | rfl | rfl | rfl; (· (try dsimp only [B3.p1]); omega); (· (try dsimp only [B3.p1]); omega); (· (try dsimp only [B3.p1]); omega); (· (try dsimp only [B3.p1]); omega)) (fun b m => by simp only [List.mem_cons, List.not_mem_nil, or_false] at m; rcases m with rfl | rfl | rfl; (· exact .inl ⟨by simp, by omega⟩); (· exact .inr rfl); (· exact .inl ⟨by simp, by omega⟩))
  rw [show bl.g = n + 1 from n2, show bf.g = n + 4 from n5] at H
  exact H
theorem KT.st12 {w W W' : World} {bm bs bl bo : B3} {be bf bg : E3} {n : Nat} (h : KT w [bm, bs, bl, bo] [be, bf, bg] W) (hn : bm.g < n ∧ bs.g = n ∧ bl.g = n + 1 ∧ bo.g = n + 2 ∧ be.g = n + 3 ∧ bf.g = n + 4 ∧ bg.g = n + 5)
    (hb : Below W.heap.size W W') (A : Ar) {u : Value} (hu : RdN W.heap.size W' u A.z) (E : Int) : KT w [bm, bs, (bl.p2 A u), bo] [be, (bf.p2 E), bg] ((s15_2 W' (n + 1) A.k A.r A.a A.b u).setCell ⟨n + 4, 2, none⟩ (.int .i64 E)) := by
  obtain ⟨n0, n1, n2, n3, n4, n5, n6⟩ := hn
  have H := (h.put2 (l' := [bm, bs, (bl.p2 A u), bo]) hb A hu bl (by simp) rfl (fun b m => by simp only [List.mem_cons, List.not_mem_nil, or_false] at m; rcases m with rfl | rfl | rfl | rfl; (· exact .inl ⟨by simp, by omega⟩); (· exact .inl ⟨by simp, by omega⟩); (· exact .inr rfl); (· exact .inl ⟨by simp, by omega⟩)) (fun b m => by simp only [List.mem_cons, List.not_mem_nil, or_false] at m; rcases m with rfl | rfl | rfl; (· omega); (· omega); (· omega))).pe2 (m' := [be, (bf.p2 E), bg]) E bf (by simp) rfl (fun b m => by simp only [List.mem_cons, List.not_mem_nil, or_false] at m; rcases m with rfl | rfl | rfl | rfl; (· (try dsimp only [B3.p2]); omega); (· (try dsimp only [B3.p2]); omega); (· (try dsimp only [B3.p2]); omega); (· (try dsimp only [B3.p2]); omega)) (fun b m => by simp only [List.mem_cons, List.not_mem_nil, or_false] at m; rcases m with rfl | rfl | rfl; (· exact .inl ⟨by simp, by omega⟩); (· exact .inr rfl); (· exact .inl ⟨by simp, by omega⟩))
  rw [show bl.g = n + 1 from n2, show bf.g = n + 4 from n5] at H
  exact H
theorem KT.st20 {w W W' : World} {bm bs bl bo : B3} {be bf bg : E3} {n : Nat} (h : KT w [bm, bs, bl, bo] [be, bf, bg] W) (hn : bm.g < n ∧ bs.g = n ∧ bl.g = n + 1 ∧ bo.g = n + 2 ∧ be.g = n + 3 ∧ bf.g = n + 4 ∧ bg.g = n + 5)
    (hb : Below W.heap.size W W') (A : Ar) {u : Value} (hu : RdN W.heap.size W' u A.z) (E : Int) : KT w [bm, bs, bl, (bo.p0 A u)] [be, bf, (bg.p0 E)] ((s15_0 W' (n + 2) A.k A.r A.a A.b u).setCell ⟨n + 5, 0, none⟩ (.int .i64 E)) := by
  obtain ⟨n0, n1, n2, n3, n4, n5, n6⟩ := hn
  have H := (h.put0 (l' := [bm, bs, bl, (bo.p0 A u)]) hb A hu bo (by simp) rfl (fun b m => by simp only [List.mem_cons, List.not_mem_nil, or_false] at m; rcases m with rfl | rfl | rfl | rfl; (· exact .inl ⟨by simp, by omega⟩); (· exact .inl ⟨by simp, by omega⟩); (· exact .inl ⟨by simp, by omega⟩); (· exact .inr rfl)) (fun b m => by simp only [List.mem_cons, List.not_mem_nil, or_false] at m; rcases m with rfl | rfl | rfl; (· omega); (· omega); (· omega))).pe0 (m' := [be, bf, (bg.p0 E)]) E bg (by simp) rfl (fun b m => by simp only [List.mem_cons, List.not_mem_nil, or_false] at m; rcases m with rfl | rfl | rfl | rfl; (· (try dsimp only [B3.p0]); omega); (· (try dsimp only [B3.p0]); omega); (· (try dsimp only [B3.p0]); omega); (· (try dsimp only [B3.p0]); omega)) (fun b m => by simp only [List.mem_cons, List.not_mem_nil, or_false] at m; rcases m with rfl | rfl | rfl; (· exact .inl ⟨by simp, by omega⟩); (· exact .inl ⟨by simp, by omega⟩); (· exact .inr rfl))
  rw [show bo.g = n + 2 from n3, show bg.g = n + 5 from n6] at H
  exact H
theorem KT.st21 {w W W' : World} {bm bs bl bo : B3} {be bf bg : E3} {n : Nat} (h : KT w [bm, bs, bl, bo] [be, bf, bg] W) (hn : bm.g < n ∧ bs.g = n ∧ bl.g = n + 1 ∧ bo.g = n + 2 ∧ be.g = n + 3 ∧ bf.g = n + 4 ∧ bg.g = n + 5)
    (hb : Below W.heap.size W W') (A : Ar) {u : Value} (hu : RdN W.heap.size W' u A.z) (E : Int) : KT w [bm, bs, bl, (bo.p1 A u)] [be, bf, (bg.p1 E)] ((s15_1 W' (n + 2) A.k A.r A.a A.b u).setCell ⟨n + 5, 1, none⟩ (.int .i64 E)) := by
  obtain ⟨n0, n1, n2, n3, n4, n5, n6⟩ := hn
  have H := (h.put1 (l' := [bm, bs, bl, (bo.p1 A u)]) hb A hu bo (by simp) rfl (fun b m => by simp only [List.mem_cons, List.not_mem_nil, or_false] at m; rcases m with rfl | rfl | rfl | rfl; (· exact .inl ⟨by simp, by omega⟩); (· exact .inl ⟨by simp, by omega⟩); (· exact .inl ⟨by simp, by omega⟩); (· exact .inr rfl)) (fun b m => by simp only [List.mem_cons, List.not_mem_nil, or_false] at m; rcases m with rfl | rfl | rfl; (· omega); (· omega); (· omega))).pe1 (m' := [be, bf, (bg.p1 E)]) E bg (by simp) rfl (fun b m => by simp only [List.mem_cons, List.not_mem_nil, or_false] at m; rcases m with rfl | rfl | rfl | rfl; (· (try dsimp only [B3.p1]); omega); (· (try dsimp only [B3.p1]); omega); (· (try dsimp only [B3.p1]); omega); (· (try dsimp only [B3.p1]); omega)) (fun b m => by simp only [List.mem_cons, List.not_mem_nil, or_false] at m; rcases m with rfl | rfl | rfl; (· exact .inl ⟨by simp, by omega⟩); (· exact .inl ⟨by simp, by omega⟩); (· exact .inr rfl))
  rw [show bo.g = n + 2 from n3, show bg.g = n + 5 from n6] at H
  exact H
theorem KT.st22 {w W W' : World} {bm bs bl bo : B3} {be bf bg : E3} {n : Nat} (h : KT w [bm, bs, bl, bo] [be, bf, bg] W) (hn : bm.g < n ∧ bs.g = n ∧ bl.g = n + 1 ∧ bo.g = n + 2 ∧ be.g = n + 3 ∧ bf.g = n + 4 ∧ bg.g = n + 5)
    (hb : Below W.heap.size W W') (A : Ar) {u : Value} (hu : RdN W.heap.size W' u A.z) (E : Int) : KT w [bm, bs, bl, (bo.p2 A u)] [be, bf, (bg.p2 E)] ((s15_2 W' (n + 2) A.k A.r A.a A.b u).setCell ⟨n + 5, 2, none⟩ (.int .i64 E)) := by
  obtain ⟨n0, n1, n2, n3, n4, n5, n6⟩ := hn
  have H := (h.put2 (l' := [bm, bs, bl, (bo.p2 A u)]) hb A hu bo (by simp) rfl (fun b m => by simp only [List.mem_cons, List.not_mem_nil, or_false] at m; rcases m with rfl | rfl | rfl | rfl; (· exact .inl ⟨by simp, by omega⟩); (· exact .inl ⟨by simp, by omega⟩); (· exact .inl ⟨by simp, by omega⟩); (· exact .inr rfl)) (fun b m => by simp only [List.mem_cons, List.not_mem_nil, or_false] at m; rcases m with rfl | rfl | rfl; (· omega); (· omega); (· omega))).pe2 (m' := [be, bf, (bg.p2 E)]) E bg (by simp) rfl (fun b m => by simp only [List.mem_cons, List.not_mem_nil, or_false] at m; rcases m with rfl | rfl | rfl | rfl; (· (try dsimp only [B3.p2]); omega); (· (try dsimp only [B3.p2]); omega); (· (try dsimp only [B3.p2]); omega); (· (try dsimp only [B3.p2]); omega)) (fun b m => by simp only [List.mem_cons, List.not_mem_nil, or_false] at m; rcases m with rfl | rfl | rfl; (· exact .inl ⟨by simp, by omega⟩); (· exact .inl ⟨by simp, by omega⟩); (· exact .inr rfl))
  rw [show bo.g = n + 2 from n3, show bg.g = n + 5 from n6] at H
  exact H
theorem KT.cpS0 {w W : World} {b : B3} (h : KT w [b] [] W) (A : Ar) {u : Value} (hx : RdX [b.g] W u A.z) (hn : Ru.NilC u) : KT w [b.p0 A u] [] (s15_0 W b.g A.k A.r A.a A.b u) :=
  h.cp0 A hx hn b (.head _) rfl (fun c mc => .inr (List.mem_singleton.1 mc)) (fun _ h => by cases h)
set_option maxRecDepth 100000 in
theorem wp_s15_0 {o : Oper} {a : Act} {w : World} {next : Act → World → Prop} {Q : Exit → Act → World → Prop} (x y : Operand) (g : Nat) {b : B3} (hg : b.g = g) (A : Ar) (q : Option Addr) (n c : Nat)
    (ho : o.op = .store 25 x y) (hd : o.dst = none) (hx : a.eval x = .pointer (some ⟨g, 0, none⟩)) (hy : a.eval y = A5 A.k A.r A.a A.b (.slice q n c)) (hR : R15 w b)
    (hn : next a (s15_0 w g A.k A.r A.a A.b (.slice q n c))) : Oper.wp Tryd.prog o a w next Q := by
  subst hg
  obtain ⟨g, A0, v0, A1, v1, A2, v2⟩ := b
  have y0 := hR.c0; have f0 := hR.fr 0
  have y1 := hR.c1; have f1 := hR.fr 1
  have y2 := hR.c2; have f2 := hR.fr 2
  have y3 := hR.c3; have f3 := hR.fr 3
  have y4 := hR.c4; have f4 := hR.fr 4
  have HS := hR.set0 A (.slice q n c)
  have z0 := HS.c0
  have z1 := HS.c1
  have z2 := HS.c2
  have z3 := HS.c3
  have z4 := HS.c4
  simp only at hx hn y0 y1 y2 y3 y4 f0 f1 f2 f3 f4 z0 z1 z2 z3 z4
  unfold Oper.wp execOp
  rw [ho]
  have hd2 := hd
  clear hd2
  simp only [hx, hy]
  go_simp
  exact hn
theorem KT.cpS1 {w W : World} {b : B3} (h : KT w [b] [] W) (A : Ar) {u : Value} (hx : RdX [b.g] W u A.z) (hn : Ru.NilC u) : KT w [b.p1 A u] [] (s15_1 W b.g A.k A.r A.a A.b u) :=
  h.cp1 A hx hn b (.head _) rfl (fun c mc => .inr (List.mem_singleton.1 mc)) (fun _ h => by cases h)
set_option maxRecDepth 100000 in
theorem wp_s15_1 {o : Oper} {a : Act} {w : World} {next : Act → World → Prop} {Q : Exit → Act → World → Prop} (x y : Operand) (g : Nat) {b : B3} (hg : b.g = g) (A : Ar) (q : Option Addr) (n c : Nat)
    (ho : o.op = .store 25 x y) (hd : o.dst = none) (hx : a.eval x = .pointer (some ⟨g, 5, none⟩)) (hy : a.eval y = A5 A.k A.r A.a A.b (.slice q n c)) (hR : R15 w b)
    (hn : next a (s15_1 w g A.k A.r A.a A.b (.slice q n c))) : Oper.wp Tryd.prog o a w next Q := by
  subst hg
  obtain ⟨g, A0, v0, A1, v1, A2, v2⟩ := b
  have y0 := hR.c5; have f0 := hR.fr 5
  have y1 := hR.c6; have f1 := hR.fr 6
  have y2 := hR.c7; have f2 := hR.fr 7
  have y3 := hR.c8; have f3 := hR.fr 8
  have y4 := hR.c9; have f4 := hR.fr 9
  have HS := hR.set1 A (.slice q n c)
  have z0 := HS.c5
  have z1 := HS.c6
  have z2 := HS.c7
  have z3 := HS.c8
  have z4 := HS.c9
  simp only at hx hn y0 y1 y2 y3 y4 f0 f1 f2 f3 f4 z0 z1 z2 z3 z4
  unfold Oper.wp execOp
  rw [ho]
  have hd2 := hd
  clear hd2
  simp only [hx, hy]
  go_simp
  exact hn
theorem KT.cpS2 {w W : World} {b : B3} (h : KT w [b] [] W) (A : Ar) {u : Value} (hx : RdX [b.g] W u A.z) (hn : Ru.NilC u) : KT w [b.p2 A u] [] (s15_2 W b.g A.k A.r A.a A.b u) :=
  h.cp2 A hx hn b (.head _) rfl (fun c mc => .inr (List.mem_singleton.1 mc)) (fun _ h => by cases h)
set_option maxRecDepth 100000 in
theorem wp_s15_2 {o : Oper} {a : Act} {w : World} {next : Act → World → Prop} {Q : Exit → Act → World → Prop} (x y : Operand) (g : Nat) {b : B3} (hg : b.g = g) (A : Ar) (q : Option Addr) (n c : Nat)
    (ho : o.op = .store 25 x y) (hd : o.dst = none) (hx : a.eval x = .pointer (some ⟨g, 10, none⟩)) (hy : a.eval y = A5 A.k A.r A.a A.b (.slice q n c)) (hR : R15 w b)
    (hn : next a (s15_2 w g A.k A.r A.a A.b (.slice q n c))) : Oper.wp Tryd.prog o a w next Q := by
  subst hg
  obtain ⟨g, A0, v0, A1, v1, A2, v2⟩ := b
  have y0 := hR.c10; have f0 := hR.fr 10
  have y1 := hR.c11; have f1 := hR.fr 11
  have y2 := hR.c12; have f2 := hR.fr 12
  have y3 := hR.c13; have f3 := hR.fr 13
  have y4 := hR.c14; have f4 := hR.fr 14
  have HS := hR.set2 A (.slice q n c)
  have z0 := HS.c10
  have z1 := HS.c11
  have z2 := HS.c12
  have z3 := HS.c13
  have z4 := HS.c14
  simp only at hx hn y0 y1 y2 y3 y4 f0 f1 f2 f3 f4 z0 z1 z2 z3 z4
  unfold Oper.wp execOp
  rw [ho]
  have hd2 := hd
  clear hd2
  simp only [hx, hy]
  go_simp
  exact hn
end Go.Proofs.YthfpmpmhoegicaaDoor
