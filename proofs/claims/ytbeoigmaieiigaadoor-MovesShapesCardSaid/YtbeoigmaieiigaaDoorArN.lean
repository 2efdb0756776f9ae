/- Matrix of the code. -/
import Derived.Test.YtbeoigmaieiigaaDoorArM
import Derived.Test.YtbeoigmaieiigaaDoorArF
namespace Go.Proofs.YtbeoigmaieiigaaDoor
open Go.RowKit

/-- How long the first row is, and whether all are as long. -/
def wid (l : List (List Int)) : Nat := (l.headD []).length
def evn (l : List (List Int)) : Bool := l.all fun r => r.length == wid l
def mtE (l : List (List Int)) : Int := if 400 < l.length then 15 else if evn l = false then 11 else if 400 < wid l ∨ 400 < l.length * wid l then 15 else 0
def mtV (l : List (List Int)) : Ar := if mtE l = 0 then ⟨1, 2, l.length, wid l, flt l⟩ else Ar.no
theorem flt_evn {l : List (List Int)} (h : evn l = true) : (flt l).length = l.length * wid l := by
  have key : ∀ (m : List (List Int)) (n : Nat), (∀ r ∈ m, r.length = n) → m.flatten.length = m.length * n := by
    intro m n hm
    induction m with
    | nil => simp
    | cons r m ih =>
      rw [List.flatten_cons, List.length_append, ih (fun r hr => hm r (by simp [hr])), hm r (by simp), List.length_cons, Nat.succ_mul]
      omega
  refine key l (wid l) fun r hr => ?_
  have := List.all_eq_true.1 h r hr
  simpa using this
theorem ln_mat (n m : Nat) (hn : n ≤ 400) : lnE 2 [(n : Int), (m : Int)] = (if 400 < m ∨ 400 < n * m then 15 else 0) ∧ ln0 2 [(n : Int), (m : Int)] = (if 400 < m ∨ 400 < n * m then 0 else (n : Int)) ∧ ln1 2 [(n : Int), (m : Int)] = (if 400 < m ∨ 400 < n * m then 0 else (m : Int)) := by
  have h : lnE 2 [(n : Int), (m : Int)] = (if 400 < m ∨ 400 < n * m then 15 else 0) := by
    unfold lnE
    rw [if_neg (by omega), if_pos (by simp)]
    show ckS 2 n m = _
    unfold ckS
    rw [if_neg (by omega), if_neg (by omega)]
    have e : cn 2 (n : Int) (m : Int) = ((n * m : Nat) : Int) := by unfold cn; rw [if_neg (by decide), if_neg (by decide), Int.natCast_mul]
    rw [e]
    by_cases hb : 400 < m ∨ 400 < n * m
    · rw [if_pos (by omega), if_pos hb]
    · rw [if_neg (by omega), if_neg hb]
  unfold ln0 ln1
  rw [h]
  by_cases hb : 400 < m ∨ 400 < n * m
  · rw [if_pos hb, if_pos hb, if_pos hb]; exact ⟨rfl, rfl, rfl⟩
  · rw [if_neg hb, if_neg hb, if_neg hb]; exact ⟨rfl, rfl, rfl⟩
theorem two_int (W : World) (n m : Int) : RdI (W.alloc (.cells #[.int .i64 n, .int .i64 m] 3)).heap.size (W.alloc (.cells #[.int .i64 n, .int .i64 m] 3)) (.slice (some ⟨W.heap.size, 0, none⟩) 2 2) [n, m] := by
  refine ⟨_, 2, rfl, Nat.le_refl _, by omega, fun _ => ⟨W.heap.size, 0, rfl, by simp, fun j hj => ?_⟩⟩
  match j, hj with
  | 0, _ => simp [World.cell?_alloc_new]
  | 1, _ => simp [World.cell?_alloc_new]
/-- What a walk of Matrix keeps. -/
structure KX (w : World) (v : Value) (l : List (List Int)) (W : World) : Prop where
  bel : Below w.heap.size w W
  res : R5 W w.heap.size 0 0 0 0 (.slice none 0 0)
  rd : RdM w.heap.size W v l
theorem KX.next {w W W' : World} {v : Value} {l : List (List Int)} (h : KX w v l W) (hb : Below W.heap.size W W') : KX w v l W' := ⟨h.bel.trans (hb.mono h.bel.size), h.res.next hb, h.rd.below (hb.mono h.bel.size)⟩
theorem KX.new {w : World} {v : Value} {l : List (List Int)} (hv : RdM w.heap.size w v l) : KX w v l (w.alloc (.cells #[.int .i64 0, .int .i64 0, .int .i64 0, .int .i64 0, .slice none 0 0] 25)) := ⟨bel1 _ _, R5.new _ _ _ _ _ _, hv.below (bel1 _ _)⟩
/-- What its last region keeps. -/
structure KY (w : World) (g : Nat) (n m : Int) (W : World) : Prop where
  bel : Below w.heap.size w W
  box : R2 W g n m
abbrev KY2 (w : World) (g : Nat) (n m : Int) (W : World) : Prop := KY w g n m W ∧ W.cell? ⟨g, 0, none⟩ = some (.int .i64 n) ∧ W.cell? ⟨g, 1, none⟩ = some (.int .i64 m)
theorem KY.all {w W : World} {g : Nat} {n m : Int} (h : KY w g n m W) : KY2 w g n m W := ⟨h, h.box.c0, h.box.c1⟩
theorem KY.next {w W W' : World} {g : Nat} {n m : Int} (h : KY w g n m W) (hb : Below W.heap.size W W') : KY2 w g n m W' := KY.all ⟨h.bel.trans (hb.mono h.bel.size), h.box.next hb⟩
theorem KY.drew {w W : World} {g : Nat} {n m : Int} (h : KY w g n m W) : KY2 w g n m W.drew := h.next (Below.refl _ _).drew
theorem KY.st {w W : World} {g : Nat} {n m : Int} (h : KY w g n m W) (hg : g ≠ w.heap.size) (k r a b : Int) (u : Value) : KY2 w g n m (st5 W w.heap.size k r a b u) :=
  KY.all ⟨st5_below k r a b u (Nat.le_refl _) h.bel, (st5_other k r a b u hg).trans h.box⟩
theorem evn_at {l : List (List Int)} {j : Nat} (h : j < l.length) (hn : l[j].length ≠ wid l) : evn l = false := by
  unfold evn
  rw [List.all_eq_false]
  exact ⟨l[j], List.getElem_mem h, by simpa using hn⟩
theorem evn_all {l : List (List Int)} (h : ∀ j (hj : j < l.length), l[j].length = wid l) : evn l = true := by
  unfold evn
  rw [List.all_eq_true]
  intro r hr
  obtain ⟨j, hj, rfl⟩ := List.getElem_of_mem hr
  simpa using h j hj

end Go.Proofs.YtbeoigmaieiigaaDoor
