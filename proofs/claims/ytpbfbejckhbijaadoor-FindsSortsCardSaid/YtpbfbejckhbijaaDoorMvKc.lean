/- More of what the laws of the moves keep: a variable laid beside a call, an array stored whose cells are known to lie apart. -/
import Derived.Test.YtpbfbejckhbijaaDoorMvKb
import Derived.Test.YtpbfbejckhbijaaDoorMvP
namespace Go.Proofs.YtpbfbejckhbijaaDoor
open Go.RowKit

section
variable {w W W0 : World} {l l' : List Bk} {u : Value}
/-- A variable that has been laid since, and now holds an array whose cells lie apart from all variables. -/
theorem KVar.newAt (h : KVar w l W0) (hb : Below W0.heap.size W0 W) {g : Nat} (hg0 : W0.heap.size ≤ g) {k r a b : Int} {v : Value} (h5 : R5 W g k r a b v) (A : Ar) (hu : RdX (g :: l.map Bk.g) W u A.z) (hn : Ru.NilC u) :
    KVar w (⟨g, A, u⟩ :: l) (st5 W g A.k A.r A.a A.b u) := by
  have h2 := h.next hb
  have hsz := st5_size W g A.k A.r A.a A.b u
  have hgW : g < W.heap.size := (Array.getElem?_eq_some_iff.1 h5).1
  have hbl : Below W0.heap.size W (st5 W g A.k A.r A.a A.b u) := st5_below _ _ _ _ _ hg0 (Below.refl _ _)
  have hbl2 : Below w.heap.size W (st5 W g A.k A.r A.a A.b u) := hbl.mono h.bel.size
  refine ⟨h2.bel.trans hbl2, h2.lay.below h.sz0 hbl2, h.sz0, fun b m => ?_⟩
  rcases List.mem_cons.1 m with rfl | m
  · exact ⟨⟨Nat.le_trans h.bel.size hg0, by rw [hsz]; exact hgW⟩, h5.set _ _ _ _ _, hu.keep (Nat.le_of_eq hsz.symm) (fun c hc _ => st5_other _ _ _ _ _ (fun e => hc (e ▸ List.mem_cons_self))), hn⟩
  · have hlt := (h.all b m).1.2
    refine ⟨⟨(h.all b m).1.1, by rw [hsz]; exact (h2.all b m).1.2⟩, ?_, (((h.all b m).2.2.1.more hg0).keep hb.size fun c _ hc => hb.block c hc).keep (Nat.le_of_eq hsz.symm) (fun c hc _ => st5_other _ _ _ _ _ (fun e => hc (e ▸ List.mem_cons_self))), h.n b m⟩
    have := h2.a b m
    unfold R5 at this ⊢
    rw [st5_other _ _ _ _ _ (by omega)]
    exact this
/-- An array whose cells lie apart from all variables is stored into one of them. -/
theorem KVar.putX (h : KVar w l W) (A : Ar) (hu : RdX (l.map Bk.g) W u A.z) (hn : Ru.NilC u) (b0 : Bk) (hm : b0 ∈ l) (hs : ∀ b ∈ l', b ∈ l ∧ b.g ≠ b0.g) :
    KVar w (⟨b0.g, A, u⟩ :: l') (st5 W b0.g A.k A.r A.a A.b u) := by
  have hw0 := (h.all b0 hm).1.1
  have hbl : Below w.heap.size W (st5 W b0.g A.k A.r A.a A.b u) := st5_below _ _ _ _ _ hw0 (Below.refl _ _)
  have hg0 : b0.g ∈ l.map Bk.g := List.mem_map.2 ⟨b0, hm, rfl⟩
  have hsub : ∀ g ∈ b0.g :: l'.map Bk.g, g ∈ l.map Bk.g := fun g hg => by
    rcases List.mem_cons.1 hg with rfl | hg
    · exact hg0
    · obtain ⟨c, hc, rfl⟩ := List.mem_map.1 hg
      exact List.mem_map.2 ⟨c, (hs c hc).1, rfl⟩
  have hsz := st5_size W b0.g A.k A.r A.a A.b u
  have hkeep : ∀ c, c ∉ l.map Bk.g → (st5 W b0.g A.k A.r A.a A.b u).heap[c]? = W.heap[c]? := fun c hc => st5_other _ _ _ _ _ (fun e => hc (e ▸ hg0))
  refine ⟨h.bel.trans hbl, h.lay.below h.sz0 hbl, h.sz0, fun b m => ?_⟩
  rcases List.mem_cons.1 m with rfl | m
  · exact ⟨⟨hw0, by rw [hsz]; exact (h.all b0 hm).1.2⟩, (h.a b0 hm).set _ _ _ _ _, (hu.keep (Nat.le_of_eq hsz.symm) fun c hc _ => hkeep c hc).sub hsub, hn⟩
  · have hb2 := hs b m
    refine ⟨⟨(h.all b hb2.1).1.1, by rw [hsz]; exact (h.all b hb2.1).1.2⟩, ?_, ((h.all b hb2.1).2.2.1.keep (Nat.le_of_eq hsz.symm) fun c hc _ => hkeep c hc).sub hsub, h.n b hb2.1⟩
    have := h.a b hb2.1
    unfold R5 at this ⊢
    rw [st5_other _ _ _ _ _ hb2.2]
    exact this
/-- Two variables change their arrays. -/
theorem KVar.swap {b1 b2 : Bk} (h : KVar w (b2 :: b1 :: l) W) (h12 : b1.g ≠ b2.g) (hl : ∀ b ∈ l, b.g ≠ b1.g ∧ b.g ≠ b2.g) :
    KVar w (⟨b1.g, b2.A, b2.v⟩ :: b2 :: l) (st5 W b1.g b2.A.k b2.A.r b2.A.a b2.A.b b2.v) ∧
    KVar w (⟨b2.g, b1.A, b1.v⟩ :: ⟨b1.g, b2.A, b2.v⟩ :: l) (st5 (st5 W b1.g b2.A.k b2.A.r b2.A.a b2.A.b b2.v) b2.g b1.A.k b1.A.r b1.A.a b1.A.b b1.v) := by
  have m1 : b1 ∈ b2 :: b1 :: l := .tail _ (.head _)
  have m2 : b2 ∈ b2 :: b1 :: l := .head _
  have p1 := h.putX (l' := b2 :: l) b2.A (h.all b2 m2).2.2.1 (h.n b2 m2) b1 m1 (fun b m => by
    rcases List.mem_cons.1 m with rfl | m
    · exact ⟨.head _, h12.symm⟩
    · exact ⟨.tail _ (.tail _ m), (hl b m).1⟩)
  refine ⟨p1, ?_⟩
  have hx : RdX ((⟨b1.g, b2.A, b2.v⟩ :: b2 :: l).map Bk.g) (st5 W b1.g b2.A.k b2.A.r b2.A.a b2.A.b b2.v) b1.v b1.A.z :=
    ((h.all b1 m1).2.2.1.keep (Nat.le_of_eq (st5_size _ _ _ _ _ _ _).symm) (fun c hc _ => st5_other _ _ _ _ _ (fun e => hc (e ▸ List.mem_map.2 ⟨b1, m1, rfl⟩)))).sub fun g hg => by
      rcases List.mem_cons.1 hg with rfl | hg
      · exact List.mem_map.2 ⟨b1, m1, rfl⟩
      · rcases List.mem_cons.1 hg with rfl | hg
        · exact List.mem_map.2 ⟨b2, m2, rfl⟩
        · obtain ⟨c, hc, rfl⟩ := List.mem_map.1 hg
          exact List.mem_map.2 ⟨c, .tail _ (.tail _ hc), rfl⟩
  exact p1.putX (l' := ⟨b1.g, b2.A, b2.v⟩ :: l) b1.A hx (h.n b1 m1) b2 (.tail _ (.head _)) (fun b m => by
    rcases List.mem_cons.1 m with rfl | m
    · exact ⟨.head _, h12⟩
    · exact ⟨.tail _ (.tail _ m), (hl b m).2⟩)
end
/-- The law's Int, spelled out. -/
theorem int_lit7 (n : Int) (W : World) : Calls Tryd.prog 15 #[.int .i64 n] W fun e w' => ∃ q c, e = .returned (A5 1 0 0 0 (.slice q 1 c)) ∧ RdN W.heap.size w' (.slice q 1 c) [n] ∧ Below W.heap.size W w' := by
  refine (lint_any n W).mono ?_
  rintro e w' ⟨u, h1, h2, h3⟩
  obtain ⟨q, c, hq, _⟩ := h2.form
  have hq2 : u = .slice q 1 c := hq
  subst hq2
  exact ⟨q, c, h1, h2, h3⟩
end Go.Proofs.YtpbfbejckhbijaaDoor
