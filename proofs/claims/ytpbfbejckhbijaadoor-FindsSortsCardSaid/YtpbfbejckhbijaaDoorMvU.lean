/- The reference's rows, Ravel and Reverse. -/
import Derived.Test.YtpbfbejckhbijaaDoorMvS
namespace Go.Proofs.YtpbfbejckhbijaaDoor
open Go.RowKit

/-- Cells of the reversed array, of which the first o have been written. -/
def rvP (A : Ar) (o t : Nat) : Int := if t < o then (rvZ A).getD t 0 else 0
theorem rvP_zero (A : Ar) (t : Nat) : rvP A 0 t = 0 := if_neg (Nat.not_lt_zero _)
theorem rvP_next {A : Ar} {i k : Nat} (hi : i < rwN A) (hk : k < rwM A) (t : Nat) : (if t = i * rwM A + k then A.z.getD (i * rwM A + (rwM A - 1 - k)) 0 else rvP A (i * rwM A + k) t) = rvP A (i * rwM A + k + 1) t := by
  unfold rvP
  by_cases h : t = i * rwM A + k
  · subst h
    rw [if_pos rfl, if_pos (Nat.lt_succ_self _)]
    unfold rvZ
    rw [gl_at hi hk]
  · rw [if_neg h]
    by_cases h2 : t < i * rwM A + k
    · rw [if_pos h2, if_pos (by omega)]
    · rw [if_neg h2, if_neg (by omega)]
theorem R5.put4 {w : World} {g : Nat} {k r a b : Int} {v : Value} (h : R5 w g k r a b v) (u : Value) : R5 (w.setCell ⟨g, 4, none⟩ u) g k r a b u := by
  unfold R5 at h ⊢
  simp [World.setCell, Array.getElem?_modify, h]
/-- What the loops of Reverse keep. -/
structure Kr7 (w : World) (A : Ar) (v : Value) (g gb o : Nat) (W : World) : Prop where
  m : MK1 w A v W
  bx : R5 W gb A.k A.r A.a A.b (.slice (some ⟨g, 0, none⟩) A.z.length A.z.length)
  row : rowZ W g A.z.length (rvP A o)
theorem Kr7.drew {w W : World} {A : Ar} {v : Value} {g gb o : Nat} (k : Kr7 w A v g gb o W) : Kr7 w A v g gb o W.drew :=
  have hb : Below W.heap.size W W.drew := (Below.refl _ _).drew
  ⟨k.m.next hb, k.bx.next hb, k.row.of_block (hb.block _ k.row.lt)⟩
theorem Kr7.put {w W : World} {A : Ar} {v : Value} {g gb i j : Nat} (k : Kr7 w A v g gb (i * rwM A + j) W) (q1 : w.heap.size + 1 < g) (q2 : gb ≠ g) (h3 : 0 + 1 ≤ w.heap.size) (hi : i < rwN A) (hj : j < rwM A) :
    Kr7 w A v g gb (i * rwM A + j + 1) (W.setCell ⟨g, i * rwM A + j, none⟩ (.int .i64 (A.z.getD (i * rwM A + (rwM A - 1 - j)) 0))) := by
  have hb : But g W (W.setCell ⟨g, i * rwM A + j, none⟩ (.int .i64 (A.z.getD (i * rwM A + (rwM A - 1 - j)) 0))) := (But.refl _ _).setCell _ _
  have hbl := hb.below (B := w.heap.size + 2) (by omega)
  exact ⟨k.m.far hbl (k.m.lay.below (by omega) hbl), (hb.block _ q2).trans k.bx, (k.row.put _ _).congr fun x _ => rvP_next hi hj x⟩

end Go.Proofs.YtpbfbejckhbijaaDoor
