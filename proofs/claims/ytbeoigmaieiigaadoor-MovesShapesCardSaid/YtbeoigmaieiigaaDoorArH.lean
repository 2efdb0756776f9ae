/- Int, Ints, vector of numbers; the reference's Int, Ints; the law's vector. -/
import Derived.Test.YtbeoigmaieiigaaDoorArF
import Derived.Test.YtbeoigmaieiigaaDoorArG
namespace Go.Proofs.YtbeoigmaieiigaaDoor
open Go.RowKit

/-- A vector of a kind. -/
def vcE (l : List Int) : Int := if 400 < l.length then 15 else 0
def vcV (k : Int) (l : List Int) : Ar := if 400 < l.length then Ar.no else ⟨k, 1, l.length, 0, l⟩
theorem ln_vec (n : Nat) : lnE 1 [(n : Int)] = (if 400 < n then 15 else 0) ∧ ln0 1 [(n : Int)] = (if 400 < n then 0 else (n : Int)) ∧ ln1 1 [(n : Int)] = 0 := by
  have h : lnE 1 [(n : Int)] = (if 400 < n then 15 else 0) := by
    unfold lnE
    rw [if_neg (by omega), if_pos (by simp)]
    show ckS 1 n 0 = _
    unfold ckS cn
    rw [if_neg (by omega), if_neg (by omega)]
    by_cases hn : 400 < n
    · rw [if_pos (by omega), if_pos hn]
    · rw [if_neg (by simp; omega), if_neg hn]
  unfold ln0 ln1
  rw [h]
  by_cases hn : 400 < n
  · rw [if_pos hn, if_pos hn]; exact ⟨rfl, rfl, rfl⟩
  · rw [if_neg hn, if_neg hn]; exact ⟨rfl, rfl, rfl⟩
/-- What a walk keeps that hands back an array which it makes of numbers. -/
structure KV (w : World) (v : Value) (z : List Int) (w' : World) : Prop where
  bel : Below w.heap.size w w'
  res : R5 w' w.heap.size 0 0 0 0 (.slice none 0 0)
  rd : RdI w'.heap.size w' v z
theorem KV.next {w w' w'' : World} {v : Value} {z : List Int} (h : KV w v z w') (hb : Below w'.heap.size w' w'') : KV w v z w'' := ⟨h.bel.trans (hb.mono h.bel.size), h.res.next hb, h.rd.next hb⟩
theorem KV.new {w : World} {v : Value} {z : List Int} (hv : RdI w.heap.size w v z) : KV w v z (w.alloc (.cells #[.int .i64 0, .int .i64 0, .int .i64 0, .int .i64 0, .slice none 0 0] 25)) := ⟨bel1 _ _, R5.new _ _ _ _ _ _, hv.next (bel1 _ _)⟩
theorem one_int (W : World) (n : Int) : RdI (W.alloc (.cells #[.int .i64 n] 3)).heap.size (W.alloc (.cells #[.int .i64 n] 3)) (.slice (some ⟨W.heap.size, 0, none⟩) 1 1) [n] := by
  refine ⟨_, 1, rfl, Nat.le_refl _, by omega, fun _ => ⟨W.heap.size, 0, rfl, by simp, fun j hj => ?_⟩⟩
  simp at hj
  subst hj
  simp [World.cell?_alloc_new]

end Go.Proofs.YtbeoigmaieiigaaDoor
