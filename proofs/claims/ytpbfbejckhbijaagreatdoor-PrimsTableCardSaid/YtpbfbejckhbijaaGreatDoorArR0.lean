/- What the laws keep: blocks that hold arrays, blocks that hold pairs. -/
import Derived.Test.YtpbfbejckhbijaaGreatDoorArY
namespace Go.Proofs.YtpbfbejckhbijaaGreatDoor
open Go.RowKit
theorem nil_some (a : Addr) (n c : Nat) : Ru.NilC (.slice (some a) n c) := by intro n c e; cases e
theorem blk_rd {W : World} {g : Nat} {l : List Int} {n : Nat} (hn : l.length = n) (hl : n ≤ 1000000) (h : W.heap[g]? = some (.cells (l.map vi).toArray 2 (0, 0))) : RdI W.heap.size W (.slice (some ⟨g, 0, none⟩) n n) l := by
  subst hn
  refine ⟨_, _, rfl, Nat.le_refl _, by omega, fun _ => ⟨g, 0, rfl, (Array.getElem?_eq_some_iff.1 h).1, fun j hj => ?_⟩⟩
  rw [Nat.zero_add]
  simp [World.cell?, h, List.getElem?_eq_getElem hj]

structure Bk where
  g : Nat
  A : Ar
  v : Value
/-- What a law's walk keeps. -/
structure KLs (w : World) (l : List Bk) (ps : List (Nat × Int × Int)) (W : World) : Prop where
  bel : Below w.heap.size w W
  lay : Ru.Lay W
  all : ∀ b ∈ l, R5 W b.g b.A.k b.A.r b.A.a b.A.b b.v ∧ RdI W.heap.size W b.v b.A.z
  prs : ∀ p ∈ ps, R2 W p.1 p.2.1 p.2.2
section
variable {w W W' : World} {l : List Bk} {ps : List (Nat × Int × Int)}
theorem KLs.a (h : KLs w l ps W) (b : Bk) (hb : b ∈ l) : R5 W b.g b.A.k b.A.r b.A.a b.A.b b.v := (h.all b hb).1
theorem KLs.r (h : KLs w l ps W) (b : Bk) (hb : b ∈ l) : RdI W.heap.size W b.v b.A.z := (h.all b hb).2
theorem KLs.b (h : KLs w l ps W) (p : Nat × Int × Int) (hp : p ∈ ps) : R2 W p.1 p.2.1 p.2.2 := h.prs p hp
theorem KLs.next (h : KLs w l ps W) (hb : Below W.heap.size W W') : KLs w l ps W' :=
  ⟨h.bel.trans (hb.mono h.bel.size), h.lay.next hb, fun b m => ⟨(h.a b m).next hb, (h.r b m).next hb⟩, fun p m => (h.b p m).next hb⟩
theorem KLs.push (h : KLs w l ps W) (A : Ar) {u : Value} (hu : RdI W.heap.size W u A.z) : KLs w (⟨W.heap.size, A, u⟩ :: l) ps (W.alloc (.cells #[.int .i64 A.k, .int .i64 A.r, .int .i64 A.a, .int .i64 A.b, u] 43)) := by
  have hb := bel1 W (.cells #[.int .i64 A.k, .int .i64 A.r, .int .i64 A.a, .int .i64 A.b, u] 43)
  have h2 := h.next hb
  refine ⟨h2.bel, h2.lay, fun b m => ?_, h2.prs⟩
  rcases List.mem_cons.1 m with rfl | m
  · exact ⟨R5.new _ _ _ _ _ _, hu.next hb⟩
  · exact h2.all b m
theorem KLs.pair (h : KLs w l ps W) (p q : Int) : KLs w l ((W.heap.size, p, q) :: ps) (W.alloc (.cells #[.int .i64 p, .int .i64 q] 40)) := by
  have h2 := h.next (bel1 W (.cells #[.int .i64 p, .int .i64 q] 40))
  refine ⟨h2.bel, h2.lay, h2.all, fun b m => ?_⟩
  rcases List.mem_cons.1 m with rfl | m
  · exact R2.new _ _ _
  · exact h2.prs b m
theorem KLs.start (w : World) (hw : Ru.Lay w) : KLs w [] [] w := ⟨Below.refl _ _, hw, (fun _ h => by cases h), (fun _ h => by cases h)⟩
end
/-- Of the same array, as the reference compares. -/
theorem same_eq (k r a b : Int) (z : List Int) (v u : Value) (W : World) (h1 : RdI W.heap.size W v z) (h2 : RdI W.heap.size W u z) (h0 : z.length ≤ 1000000) : Calls Tryz.prog 29 #[A5 k r a b v, A5 k r a b u] W fun e w' => e = .returned (.bool true) ∧ Below W.heap.size W w' := by
  have := rsame_any ⟨k, r, a, b, z⟩ ⟨k, r, a, b, z⟩ v u W h1 h2 h0
  rwa [smB_self] at this
theorem mk_len (A : Ar) : (mk A).z.length ≤ A.z.length := by
  unfold mk
  split
  · exact Nat.le_refl _
  · simp [Ar.no]
end Go.Proofs.YtpbfbejckhbijaaGreatDoor
