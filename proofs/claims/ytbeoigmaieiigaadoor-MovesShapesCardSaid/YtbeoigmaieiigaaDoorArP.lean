/- Compare of numbers and of slices; Compare of the code. -/
import Derived.Test.YtbeoigmaieiigaaDoorArG
import Derived.Deep.RegionHeld3
namespace Go.Proofs.YtbeoigmaieiigaaDoor
open Go.RowKit

def cmZ (a b : Int) : Int := if a < b then -1 else if b < a then 1 else 0
/-- The order of lists. -/
def lxZ : List Int → List Int → Int
  | [], [] => 0
  | [], _ :: _ => -1
  | _ :: _, [] => 1
  | x :: l, y :: m => if cmZ x y = 0 then lxZ l m else cmZ x y
/-- The first number that is not 0. -/
def orZ : List Int → Int
  | [] => 0
  | x :: l => if x = 0 then orZ l else x
def cmV (A B : Ar) : Int := orZ [cmZ A.k B.k, cmZ A.r B.r, lxZ [A.a, A.b] [B.a, B.b], lxZ A.z B.z]
def cpE (A B : Ar) : Int := if ck A = 0 then ck B else ck A
def cpV (A B : Ar) : Int := if cpE A B = 0 then cmV A B else 0
theorem lx_eq {l m : List Int} {j : Nat} (hl : j < l.length) (hm : j < m.length) (h : cmZ l[j] m[j] = 0) : lxZ (l.drop j) (m.drop j) = lxZ (l.drop (j + 1)) (m.drop (j + 1)) := by
  rw [List.drop_eq_getElem_cons hl, List.drop_eq_getElem_cons hm]
  simp only [lxZ, h, if_true]
theorem lx_ne {l m : List Int} {j : Nat} (hl : j < l.length) (hm : j < m.length) (h : cmZ l[j] m[j] ≠ 0) : lxZ (l.drop j) (m.drop j) = cmZ l[j] m[j] := by
  rw [List.drop_eq_getElem_cons hl, List.drop_eq_getElem_cons hm]
  simp only [lxZ]
  exact if_neg h
theorem lx_long {l m : List Int} {j : Nat} (hl : j < l.length) (hm : ¬ j < m.length) : lxZ (l.drop j) (m.drop j) = 1 := by
  rw [List.drop_eq_getElem_cons hl, List.drop_eq_nil_of_le (show m.length ≤ j by omega)]; rfl
theorem lx_end {l m : List Int} {j : Nat} (hl : ¬ j < l.length) : lxZ (l.drop j) (m.drop j) = if j < m.length then -1 else 0 := by
  rw [List.drop_eq_nil_of_le (show l.length ≤ j by omega)]
  by_cases hm : j < m.length
  · rw [List.drop_eq_getElem_cons hm, if_pos hm]; rfl
  · rw [List.drop_eq_nil_of_le (show m.length ≤ j by omega), if_neg hm]; rfl
theorem or_eq {l : List Int} {j : Nat} (hl : j < l.length) (h : l[j] = 0) : orZ (l.drop j) = orZ (l.drop (j + 1)) := by
  rw [List.drop_eq_getElem_cons hl]
  simp only [orZ, h, if_true]
theorem or_ne {l : List Int} {j : Nat} (hl : j < l.length) (h : l[j] ≠ 0) : orZ (l.drop j) = l[j] := by
  rw [List.drop_eq_getElem_cons hl]
  simp only [orZ]
  exact if_neg h

/-- The lengths of an array that is boxed, as a slice. -/
theorem R5.lens {w : World} {g : Nat} {k r a b : Int} {v : Value} (h : R5 w g k r a b v) : RdI w.heap.size w (.slice (some ⟨g, 2, none⟩) 2 2) [a, b] := by
  refine ⟨_, 2, rfl, Nat.le_refl _, by omega, fun _ => ⟨g, 2, rfl, h.lt, fun j hj => ?_⟩⟩
  match j, hj with
  | 0, _ => exact h.c2
  | 1, _ => exact h.c3
theorem four_int (W : World) (g : Nat) (hg : W.heap.size = g) (a b c d : Int) : RdI (W.alloc (.cells #[.int .i64 a, .int .i64 b, .int .i64 c, .int .i64 d] 3)).heap.size (W.alloc (.cells #[.int .i64 a, .int .i64 b, .int .i64 c, .int .i64 d] 3)) (.slice (some ⟨g, 0, none⟩) 4 4) [a, b, c, d] := by
  subst hg
  refine ⟨_, 4, rfl, Nat.le_refl _, by omega, fun _ => ⟨W.heap.size, 0, rfl, by simp, fun j hj => ?_⟩⟩
  match j, hj with
  | 0, _ => simp [World.cell?_alloc_new]
  | 1, _ => simp [World.cell?_alloc_new]
  | 2, _ => simp [World.cell?_alloc_new]
  | 3, _ => simp [World.cell?_alloc_new]
abbrev KD3 (w : World) (A : Ar) (v : Value) (B : Ar) (u : Value) (L : World → Prop) (W : World) : Prop := (KD w A v B u W ∧ L W) ∧ W.cell? ⟨w.heap.size, 0, none⟩ = some (.int .i64 A.k) ∧ W.cell? ⟨w.heap.size, 1, none⟩ = some (.int .i64 A.r) ∧ W.cell? ⟨w.heap.size, 4, none⟩ = some v ∧ W.cell? ⟨w.heap.size + 1, 0, none⟩ = some (.int .i64 B.k) ∧ W.cell? ⟨w.heap.size + 1, 1, none⟩ = some (.int .i64 B.r) ∧ W.cell? ⟨w.heap.size + 1, 4, none⟩ = some u ∧ w.heap.size < W.heap.size ∧ w.heap.size + 1 < W.heap.size
theorem KD.all {w W : World} {A B : Ar} {v u : Value} {L : World → Prop} (h : KD w A v B u W) (hL : L W) : KD3 w A v B u L W := ⟨⟨h, hL⟩, h.b0.c0, h.b0.c1, h.b0.c4, h.b1.c0, h.b1.c1, h.b1.c4, h.b0.lt, h.b1.lt⟩

end Go.Proofs.YtbeoigmaieiigaaDoor
