/- The reference's Make. -/
import Derived.Test.YtdbampgbbghfkaaDoorArE
import Derived.Deep.RegionHeld3
namespace Go.Proofs.YtdbampgbbghfkaaDoor
open Go.RowKit

/-- append of whatever numbers to what the call has made, as one operation. -/
theorem wp_append_is {w : World} {o : Oper} {a : Act} {K : Act → World → Prop} {Q : Exit → Act → World → Prop} (s x : Operand)
    (ho : o.op = .call { callee := .builtin .append, args := #[s, x], argTypes := #[22, 22] }) (B : Nat) (v : Value) (l : List Int) (hs : a.eval s = v) (hown : Ru.Ins 2 w B v l)
    (u : Value) (m : List Int) (hx : a.eval x = u) (B' : Nat) (hu : RdI B' w u m) (hn : Ru.NilC u) (hl : l.length + m.length ≤ 1000000) (hB : B ≤ w.heap.size)
    (h : ∀ v' w', Ru.Ins 2 w' B v' (l ++ m) → w.grownBy w' v.ownBlock → K (a.put o.dst v') w') : o.wp Tryd.prog a w K Q := by
  obtain ⟨i0, hi, hz0, hz1, hz2⟩ := info_parts info64
  obtain ⟨ua, cap, rfl, hc1, hc2, hcell⟩ := hu
  cases ua with
  | none =>
    have hm : m = [] := by
      rcases m with _ | ⟨c, m⟩
      · rfl
      · obtain ⟨b, off, e, _⟩ := hcell (by simp); cases e
    subst hm
    have hcap := hn _ _ rfl
    subst hcap
    refine Ru.wp_append_none s x 22 ho B 2 i0 1 Tryd.underlying22 hi v l.length _ hs hown hx ?_
    exact h v w (by rw [List.append_nil]; exact hown) (World.grownBy.refl w _)
  | some ad =>
    refine wp_append_own _ s x 22 ho B 2 i0 (.int .i64 0) 1 8 Tryd.underlying22 hi hz0 hz1 hz2 rfl (by decide) v l.length _ hs hown ad m.length cap (m.map fun c => .int .i64 c) hx (by simp) ?_ (by simp [Value.oneCell']) (by unfold maxLen; omega) (by omega) hB ?_
    · intro j z hz
      have hj : j < m.length := by
        rcases Nat.lt_or_ge j m.length with hj | hj
        · exact hj
        · rw [List.getElem?_eq_none (by simp; omega)] at hz; cases hz
      obtain ⟨b, off, e, _, hc⟩ := hcell (by intro e; subst e; simp at hj)
      cases e
      rw [Ru.add_off, hc j hj]
      rw [List.getElem?_map, List.getElem?_eq_getElem hj] at hz
      exact hz
    · intro v' w' hown' hg _
      exact h v' w' (by unfold Ru.Ins; rw [List.length_append, List.map_append]; exact hown') hg
/-- What the call has made is new memory. -/
theorem ins_new {B : Nat} {w : World} {v : Value} {l : List Int} (h : Ru.Ins 2 w B v l) : RdN B w v l := by
  rcases h.2 with ⟨rfl, h0⟩ | ⟨g, cap, cur, rfl, hg, hh, r1, r2, r3, r4⟩
  · have : l = [] := List.length_eq_zero_iff.1 h0
    subst this
    exact RdN.nil _ _
  · have hlt : g < w.heap.size := (Array.getElem?_eq_some_iff.1 hh).1
    refine ⟨_, cap, rfl, ⟨r1, by unfold maxLen at r2; omega, fun e => by cases e⟩, fun _ => ⟨g, 0, rfl, ⟨hg, hlt⟩, fun j hj => ?_⟩⟩
    have := World.ownsRow.cellAt h j (by omega)
    rw [Nat.zero_add, this]
    simp [List.getElem?_eq_getElem hj]
theorem ins_lit (W : World) : Ru.Ins 2 (W.alloc (.cells #[] 2)) W.heap.size (.slice (some ⟨W.heap.size, 0, none⟩) 0 0) [] := World.ownsRow_lit W #[] 0 (Nat.le_refl _) (by decide) rfl
theorem ins_grown {B : Nat} {w w' : World} {v : Value} {l : List Int} (h : Ru.Ins 2 w B v l) (hB : B ≤ w.heap.size) (hg : w.grownBy w' v.ownBlock) : Below B w w' :=
  (Below.refl B w).grown hg hB (fun j e => (World.ownsRow.lt h j e).1)
/-- The store of an array into a block of its own leaves the numbers that the call has made. -/
theorem st_new {W : World} {g B : Nat} {v u : Value} {l : List Int} {k0 r0 a0 b0 : Int} (hi : Ru.Ins 2 W B v l) (hg : R5 W g k0 r0 a0 b0 u) (k r a b : Int) (x : Value) : RdN B (st5 W g k r a b x) v l := by
  rcases hi.2 with ⟨rfl, h0⟩ | ⟨c, cap, cur, rfl, hc, hh, r1, r2, r3, r4⟩
  · have : l = [] := List.length_eq_zero_iff.1 h0
    subst this
    exact RdN.nil _ _
  · have hlt : c < W.heap.size := (Array.getElem?_eq_some_iff.1 hh).1
    have hne : c ≠ g := by
      intro e
      subst e
      unfold R5 at hg
      rw [hh] at hg
      simp at hg
    refine ⟨_, cap, rfl, ⟨r1, by unfold maxLen at r2; omega, fun e => by cases e⟩, fun _ => ⟨c, 0, rfl, ⟨hc, by rw [st5_size]; exact hlt⟩, fun j hj => ?_⟩⟩
    have := World.ownsRow.cellAt hi j (by omega)
    rw [Nat.zero_add, World.cell?, st5_other k r a b x hne]
    rw [World.cell?] at this
    rw [this]
    simp [List.getElem?_eq_getElem hj]
/-- What the region of the reference's Make keeps. -/
structure KC (w : World) (B : Nat) (a b : Int) (v : Value) (z : List Int) (W : World) : Prop where
  bel : Below w.heap.size w W
  box : R2 W w.heap.size a b
  res : R5 W (w.heap.size + 1) 0 0 0 0 (.slice none 0 0)
  rd : RdI B W v z
  lt : w.heap.size + 1 < B
  sz : B ≤ W.heap.size
theorem KC.next {w W W' : World} {B : Nat} {a b : Int} {v : Value} {z : List Int} (h : KC w B a b v z W) (hb : Below B W W') : KC w B a b v z W' :=
  ⟨h.bel.trans (hb.mono (by have := h.lt; omega)), (hb.block _ (by have := h.lt; omega)).trans h.box, (hb.block _ h.lt).trans h.res, h.rd.below hb, h.lt, Nat.le_trans h.sz hb.size⟩
abbrev KC2 (w : World) (B : Nat) (a b : Int) (v : Value) (z : List Int) (W : World) : Prop := KC w B a b v z W ∧ W.cell? ⟨w.heap.size, 0, none⟩ = some (.int .i64 a) ∧ W.cell? ⟨w.heap.size, 1, none⟩ = some (.int .i64 b)
theorem KC.all {w W : World} {B : Nat} {a b : Int} {v : Value} {z : List Int} (h : KC w B a b v z W) : KC2 w B a b v z W := ⟨h, h.box.c0, h.box.c1⟩
theorem KC.up {w W : World} {B : Nat} {a b : Int} {v : Value} {z : List Int} (h : KC w B a b v z W) (o : Obj) : KC2 w B a b v z (W.alloc o) := (h.next ((Below.refl _ _).alloc h.sz o)).all
theorem KC.st {w W : World} {B g : Nat} {a b : Int} {v : Value} {z : List Int} (h : KC w B a b v z W) (hg : B ≤ g) (k r x y : Int) (u : Value) : KC2 w B a b v z (st5 W g k r x y u) := (h.next (st5_below k r x y u hg (Below.refl _ _))).all
theorem KC.of {w W : World} {a b : Int} {v : Value} {z : List Int} (h : KB w a b v z W) : KC w W.heap.size a b v z W := ⟨h.bel, h.box, h.res, h.rd, h.res.lt, Nat.le_refl _⟩
theorem KC.drew {w W : World} {B : Nat} {a b : Int} {v : Value} {z : List Int} (h : KC w B a b v z W) : KC w B a b v z W.drew := h.next (Below.refl _ _).drew

end Go.Proofs.YtdbampgbbghfkaaDoor
