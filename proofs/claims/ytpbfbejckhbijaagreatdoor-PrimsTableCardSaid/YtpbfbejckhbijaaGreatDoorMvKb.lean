/- What the laws of the moves keep: variables that hold arrays, and that may be stored into again. -/
import Derived.Test.YtpbfbejckhbijaaGreatDoorArR0
namespace Go.Proofs.YtpbfbejckhbijaaGreatDoor
open Go.RowKit

/-- Cells that can be read, in a block that is none of the variables'. -/
def RdX (gs : List Nat) (w : World) (v : Value) (l : List Int) : Prop :=
  ∃ p cap, v = .slice p l.length cap ∧ l.length ≤ cap ∧ cap ≤ 9223372036854775807 ∧ (l ≠ [] → ∃ b off, p = some ⟨b, off, none⟩ ∧ (b < w.heap.size ∧ b ∉ gs) ∧ ∀ j (h : j < l.length), w.cell? ⟨b, off + j, none⟩ = some (vi l[j]))
section
variable {gs gs' : List Nat} {w w' : World} {v : Value} {l : List Int} {B : Nat}
theorem RdX.rd (h : RdX gs w v l) : RdI w.heap.size w v l := by
  obtain ⟨p, cap, hv, h1, h2, h3⟩ := h
  refine ⟨p, cap, hv, h1, h2, fun hn => ?_⟩
  obtain ⟨b, off, e, hb, hc⟩ := h3 hn
  exact ⟨b, off, e, hb.1, hc⟩
theorem RdX.keep (h : RdX gs w v l) (hs : w.heap.size ≤ w'.heap.size) (hb : ∀ b, b ∉ gs → b < w.heap.size → w'.heap[b]? = w.heap[b]?) : RdX gs w' v l := by
  obtain ⟨p, cap, hv, h1, h2, h3⟩ := h
  refine ⟨p, cap, hv, h1, h2, fun hn => ?_⟩
  obtain ⟨b, off, e, hb2, hc⟩ := h3 hn
  refine ⟨b, off, e, ⟨Nat.lt_of_lt_of_le hb2.1 hs, hb2.2⟩, fun j hj => ?_⟩
  have := hc j hj
  rw [World.cell?] at this ⊢
  rw [hb b hb2.2 hb2.1]
  exact this
theorem RdX.more (h : RdX gs w v l) {g : Nat} (hg : w.heap.size ≤ g) : RdX (g :: gs) w v l := by
  obtain ⟨p, cap, hv, h1, h2, h3⟩ := h
  refine ⟨p, cap, hv, h1, h2, fun hn => ?_⟩
  obtain ⟨b, off, e, hb2, hc⟩ := h3 hn
  refine ⟨b, off, e, ⟨hb2.1, fun m => ?_⟩, hc⟩
  rcases List.mem_cons.1 m with e2 | m
  · have := hb2.1
    omega
  · exact hb2.2 m
theorem RdX.sub (h : RdX gs w v l) (hs : ∀ g ∈ gs', g ∈ gs) : RdX gs' w v l := by
  obtain ⟨p, cap, hv, h1, h2, h3⟩ := h
  refine ⟨p, cap, hv, h1, h2, fun hn => ?_⟩
  obtain ⟨b, off, e, hb2, hc⟩ := h3 hn
  exact ⟨b, off, e, ⟨hb2.1, fun m => hb2.2 (hs b m)⟩, hc⟩
theorem rdI_toX (h : RdI B w v l) (hB : B ≤ w.heap.size) (hg : ∀ g ∈ gs, B ≤ g) : RdX gs w v l := by
  obtain ⟨p, cap, hv, h1, h2, h3⟩ := h
  refine ⟨p, cap, hv, h1, h2, fun hn => ?_⟩
  obtain ⟨b, off, e, hb2, hc⟩ := h3 hn
  exact ⟨b, off, e, ⟨Nat.lt_of_lt_of_le hb2 hB, fun m => absurd (hg b m) (by omega)⟩, hc⟩
theorem rdN_toX (h : RdN B w v l) (hg : ∀ g ∈ gs, g < B) : RdX gs w v l := by
  obtain ⟨p, cap, hv, ⟨h1, h2, _⟩, h3⟩ := h
  refine ⟨p, cap, hv, h1, h2, fun hn => ?_⟩
  obtain ⟨b, off, e, hb2, hc⟩ := h3 hn
  exact ⟨b, off, e, ⟨hb2.2, fun m => absurd (hg b m) (by omega)⟩, hc⟩
end
/-- What a law's walk keeps of its variables. -/
structure KVar (w : World) (l : List Bk) (W : World) : Prop where
  bel : Below w.heap.size w W
  lay : Ru.Lay W
  sz0 : 0 + 1 ≤ w.heap.size
  all : ∀ b ∈ l, (w.heap.size ≤ b.g ∧ b.g < W.heap.size) ∧ R5 W b.g b.A.k b.A.r b.A.a b.A.b b.v ∧ RdX (l.map Bk.g) W b.v b.A.z ∧ Ru.NilC b.v
section
variable {w W W' : World} {l l' : List Bk} {A : Ar} {u v : Value}
theorem KVar.a (h : KVar w l W) (b : Bk) (hb : b ∈ l) : R5 W b.g b.A.k b.A.r b.A.a b.A.b b.v := (h.all b hb).2.1
theorem KVar.r (h : KVar w l W) (b : Bk) (hb : b ∈ l) : RdI W.heap.size W b.v b.A.z := (h.all b hb).2.2.1.rd
theorem KVar.n (h : KVar w l W) (b : Bk) (hb : b ∈ l) : Ru.NilC b.v := (h.all b hb).2.2.2
theorem KVar.lt (h : KVar w l W) (b : Bk) (hb : b ∈ l) : b.g < W.heap.size := (h.all b hb).1.2
theorem KVar.start (w : World) (hw : Ru.Lay w) : KVar w [] w := ⟨Below.refl _ _, hw, hw.size, fun _ h => by cases h⟩
theorem KVar.next (h : KVar w l W) (hb : Below W.heap.size W W') : KVar w l W' :=
  ⟨h.bel.trans (hb.mono h.bel.size), h.lay.next hb, h.sz0, fun b m => ⟨⟨(h.all b m).1.1, Nat.lt_of_lt_of_le (h.all b m).1.2 hb.size⟩, (h.a b m).next hb, (h.all b m).2.2.1.keep hb.size fun c _ hc => hb.block c hc, h.n b m⟩⟩
theorem KVar.drop (h : KVar w l W) (hs : ∀ b ∈ l', b ∈ l) : KVar w l' W :=
  ⟨h.bel, h.lay, h.sz0, fun b m => ⟨(h.all b (hs b m)).1, h.a b (hs b m), (h.all b (hs b m)).2.2.1.sub fun g hg => by
    obtain ⟨c, hc, rfl⟩ := List.mem_map.1 hg
    exact List.mem_map.2 ⟨c, hs c hc, rfl⟩, h.n b (hs b m)⟩⟩
/-- A new variable, of an array whose cells are none of the variables' blocks. -/
theorem KVar.push (h : KVar w l W) (A : Ar) (hu : RdX (l.map Bk.g) W u A.z) (hn : Ru.NilC u) : KVar w (⟨W.heap.size, A, u⟩ :: l) (W.alloc (.cells #[.int .i64 A.k, .int .i64 A.r, .int .i64 A.a, .int .i64 A.b, u] 43)) := by
  have hb := bel1 W (.cells #[.int .i64 A.k, .int .i64 A.r, .int .i64 A.a, .int .i64 A.b, u] 43)
  have h2 := h.next hb
  refine ⟨h2.bel, h2.lay, h.sz0, fun b m => ?_⟩
  rcases List.mem_cons.1 m with rfl | m
  · exact ⟨⟨h.bel.size, by simp⟩, R5.new _ _ _ _ _ _, (hu.more (Nat.le_refl _)).keep hb.size fun c _ hc => hb.block c hc, hn⟩
  · exact ⟨(h2.all b m).1, h2.a b m, ((h.all b m).2.2.1.more (Nat.le_refl _)).keep hb.size fun c _ hc => hb.block c hc, h.n b m⟩
/-- A new variable, of an argument. -/
theorem KVar.arg (h : KVar w l W) (A : Ar) (hv : RdI w.heap.size w v A.z) (hn : Ru.NilC v) : KVar w (⟨W.heap.size, A, v⟩ :: l) (W.alloc (.cells #[.int .i64 A.k, .int .i64 A.r, .int .i64 A.a, .int .i64 A.b, v] 43)) :=
  h.push A (rdI_toX (hv.below h.bel) h.bel.size fun g hg => by
    obtain ⟨c, hc, rfl⟩ := List.mem_map.1 hg
    exact (h.all c hc).1.1) hn
/-- A new variable, of what a call has handed back. -/
theorem KVar.res (h : KVar w l W) (hb : Below W.heap.size W W') (A : Ar) (hu : RdN W.heap.size W' u A.z) : KVar w (⟨W'.heap.size, A, u⟩ :: l) (W'.alloc (.cells #[.int .i64 A.k, .int .i64 A.r, .int .i64 A.a, .int .i64 A.b, u] 43)) :=
  (h.next hb).push A (rdN_toX hu fun g hg => by
    obtain ⟨c, hc, rfl⟩ := List.mem_map.1 hg
    exact (h.all c hc).1.2) hu.nilC
/-- What a call has handed back is stored into a variable. -/
theorem KVar.put (h : KVar w l W) (hb : Below W.heap.size W W') (A : Ar) (hu : RdN W.heap.size W' u A.z) (b0 : Bk) (hm : b0 ∈ l) (hs : ∀ b ∈ l', b ∈ l ∧ b.g ≠ b0.g) :
    KVar w (⟨b0.g, A, u⟩ :: l') (st5 W' b0.g A.k A.r A.a A.b u) := by
  have h2 := h.next hb
  have hw0 := (h.all b0 hm).1.1
  have hbl : Below w.heap.size W' (st5 W' b0.g A.k A.r A.a A.b u) := st5_below _ _ _ _ _ hw0 (Below.refl _ _)
  have hg0 : b0.g ∈ l.map Bk.g := List.mem_map.2 ⟨b0, hm, rfl⟩
  have hsub : ∀ g ∈ b0.g :: l'.map Bk.g, g ∈ l.map Bk.g := fun g hg => by
    rcases List.mem_cons.1 hg with rfl | hg
    · exact hg0
    · obtain ⟨c, hc, rfl⟩ := List.mem_map.1 hg
      exact List.mem_map.2 ⟨c, (hs c hc).1, rfl⟩
  have hsz := st5_size W' b0.g A.k A.r A.a A.b u
  have hx : RdX (l.map Bk.g) W' u A.z := rdN_toX hu fun g hg => by
    obtain ⟨c, hc, rfl⟩ := List.mem_map.1 hg
    exact (h.all c hc).1.2
  have hkeep : ∀ c, c ∉ l.map Bk.g → (st5 W' b0.g A.k A.r A.a A.b u).heap[c]? = W'.heap[c]? := fun c hc => st5_other _ _ _ _ _ (fun e => hc (e ▸ hg0))
  refine ⟨h2.bel.trans hbl, h2.lay.below h.sz0 hbl, h.sz0, fun b m => ?_⟩
  rcases List.mem_cons.1 m with rfl | m
  · exact ⟨⟨hw0, by rw [hsz]; exact (h2.all b0 hm).1.2⟩, (h2.a b0 hm).set _ _ _ _ _, (hx.keep (Nat.le_of_eq hsz.symm) fun c hc _ => hkeep c hc).sub hsub, hu.nilC⟩
  · have hb2 := hs b m
    refine ⟨⟨(h2.all b hb2.1).1.1, by rw [hsz]; exact (h2.all b hb2.1).1.2⟩, ?_, ((h2.all b hb2.1).2.2.1.keep (Nat.le_of_eq hsz.symm) fun c hc _ => hkeep c hc).sub hsub, h.n b hb2.1⟩
    have := h2.a b hb2.1
    unfold R5 at this ⊢
    rw [st5_other _ _ _ _ _ hb2.2]
    exact this
/-- A new variable, of the array that another one holds. -/
theorem KVar.copyNew (h : KVar w l W) (b : Bk) (hb : b ∈ l) : KVar w (⟨W.heap.size, b.A, b.v⟩ :: l) (W.alloc (.cells #[.int .i64 b.A.k, .int .i64 b.A.r, .int .i64 b.A.a, .int .i64 b.A.b, b.v] 43)) :=
  h.push b.A (h.all b hb).2.2.1 (h.n b hb)
/-- The array that a variable holds is stored into another one. -/
theorem KVar.copyPut (h : KVar w l W) (b1 : Bk) (h1 : b1 ∈ l) (b0 : Bk) (hm : b0 ∈ l) (hs : ∀ b ∈ l', b ∈ l ∧ b.g ≠ b0.g) :
    KVar w (⟨b0.g, b1.A, b1.v⟩ :: l') (st5 W b0.g b1.A.k b1.A.r b1.A.a b1.A.b b1.v) := by
  have hw0 := (h.all b0 hm).1.1
  have hbl : Below w.heap.size W (st5 W b0.g b1.A.k b1.A.r b1.A.a b1.A.b b1.v) := st5_below _ _ _ _ _ hw0 (Below.refl _ _)
  have hg0 : b0.g ∈ l.map Bk.g := List.mem_map.2 ⟨b0, hm, rfl⟩
  have hsub : ∀ g ∈ b0.g :: l'.map Bk.g, g ∈ l.map Bk.g := fun g hg => by
    rcases List.mem_cons.1 hg with rfl | hg
    · exact hg0
    · obtain ⟨c, hc, rfl⟩ := List.mem_map.1 hg
      exact List.mem_map.2 ⟨c, (hs c hc).1, rfl⟩
  have hsz := st5_size W b0.g b1.A.k b1.A.r b1.A.a b1.A.b b1.v
  have hkeep : ∀ c, c ∉ l.map Bk.g → (st5 W b0.g b1.A.k b1.A.r b1.A.a b1.A.b b1.v).heap[c]? = W.heap[c]? := fun c hc => st5_other _ _ _ _ _ (fun e => hc (e ▸ hg0))
  refine ⟨h.bel.trans hbl, h.lay.below h.sz0 hbl, h.sz0, fun b m => ?_⟩
  rcases List.mem_cons.1 m with rfl | m
  · exact ⟨⟨hw0, by rw [hsz]; exact (h.all b0 hm).1.2⟩, (h.a b0 hm).set _ _ _ _ _, ((h.all b1 h1).2.2.1.keep (Nat.le_of_eq hsz.symm) fun c hc _ => hkeep c hc).sub hsub, h.n b1 h1⟩
  · have hb2 := hs b m
    refine ⟨⟨(h.all b hb2.1).1.1, by rw [hsz]; exact (h.all b hb2.1).1.2⟩, ?_, ((h.all b hb2.1).2.2.1.keep (Nat.le_of_eq hsz.symm) fun c hc _ => hkeep c hc).sub hsub, h.n b hb2.1⟩
    have := h.a b hb2.1
    unfold R5 at this ⊢
    rw [st5_other _ _ _ _ _ hb2.2]
    exact this
end
end Go.Proofs.YtpbfbejckhbijaaGreatDoor
