/- slices.Clone; placeIn, At and With of the code. -/
import Derived.Test.YtbeoigmaieiigaaDoorArI
import Derived.Lib.SliceRun
namespace Go.Proofs.YtbeoigmaieiigaaDoor
open Go.RowKit

/-- What At, With return. -/
def atE (A : Ar) (p q : Int) : Int := if ck A = 0 then plE A.r A.a A.b p q else ck A
def atP (A : Ar) (p q : Int) : Int := if ck A = 0 then plV A.r A.a A.b p q else 0
def atV (A : Ar) (p q : Int) : Int := if atE A p q = 0 then A.z.getD (atP A p q).toNat 0 else 0
def wtA (A : Ar) (p q v : Int) : Ar := ⟨A.k, A.r, A.a, A.b, A.z.set (atP A p q).toNat v⟩
def wtE (A : Ar) (p q v : Int) : Int := if atE A p q = 0 then (if A.k = 2 ∧ Ru.isR v = false then 7 else 0) else atE A p q
def wtV (A : Ar) (p q v : Int) : Ar := if wtE A p q v = 0 then wtA A p q v else Ar.no
theorem atE_ok {A : Ar} {p q : Int} (h : atE A p q = 0) : Good A ∧ 0 ≤ atP A p q ∧ atP A p q < A.z.length := by
  unfold atE at h
  by_cases hk : ck A = 0
  · rw [if_pos hk] at h
    have hg := ck_good hk
    unfold atP
    rw [if_pos hk]
    unfold plE at h
    rw [if_pos (sh_ok hg.sh)] at h
    unfold plV plE
    rw [if_pos (sh_ok hg.sh), h, if_pos rfl]
    have hh : 0 ≤ p ∧ p < mxa A.r A.a ∧ 0 ≤ q ∧ q < mxb A.r A.b := by
      by_cases hc : 0 ≤ p ∧ p < mxa A.r A.a ∧ 0 ≤ q ∧ q < mxb A.r A.b
      · exact hc
      · rw [if_neg hc] at h; cases h
    obtain ⟨p0, p1, q0, q1⟩ := hh
    have hm := mx_cn A.r A.a A.b hg.sh.bd.1
    have hl := hg.len
    have e1 : p * mxb A.r A.b ≤ (mxa A.r A.a - 1) * mxb A.r A.b := Int.mul_le_mul_of_nonneg_right (by omega) (by omega)
    have e2 : (mxa A.r A.a - 1) * mxb A.r A.b = mxa A.r A.a * mxb A.r A.b - mxb A.r A.b := by rw [Int.sub_mul]; omega
    have e0 := Int.mul_nonneg p0 (show 0 ≤ mxb A.r A.b by omega)
    exact ⟨hg, by omega, by omega⟩
  · rw [if_neg hk] at h; exact absurd h hk
theorem all_set {z : List Int} {i : Nat} (hi : i < z.length) {v : Int} (h : z.all Ru.isR = true) : (z.set i v).all Ru.isR = Ru.isR v := by
  cases hv : Ru.isR v
  · rw [List.all_eq_false]
    exact ⟨v, List.mem_set hi v, by simp [hv]⟩
  · rw [List.all_eq_true]
    intro x hx
    rcases List.mem_or_eq_of_mem_set hx with hx | rfl
    · exact List.all_eq_true.1 h x hx
    · exact hv
theorem wt_ck {A : Ar} {p q v : Int} (h : atE A p q = 0) : ck (wtA A p q v) = wtE A p q v ∧ mk (wtA A p q v) = wtV A p q v := by
  obtain ⟨hg, h0, h1⟩ := atE_ok h
  have e : ck (wtA A p q v) = wtE A p q v := by
    unfold wtE
    rw [if_pos h]
    by_cases hk : A.k = 2
    · have ha := all_set (i := (atP A p q).toNat) (by omega) (v := v) (hg.runes hk)
      cases hv : Ru.isR v
      · rw [if_pos ⟨hk, rfl⟩]
        unfold ck wtA
        simp only
        rw [if_neg (by omega), if_neg (by rw [sh_ok hg.sh]; decide), if_neg (by rw [List.length_set, hg.len]; simp), if_pos ⟨hk, by rw [ha, hv]⟩]
      · rw [if_neg (by simp)]
        exact good_ck ⟨hg.kind, hg.sh, by unfold wtA; simp only [List.length_set]; exact hg.len, fun _ => by unfold wtA; simp only; rw [ha, hv]⟩
    · rw [if_neg (by simp [hk])]
      exact good_ck ⟨hg.kind, hg.sh, by unfold wtA; simp only [List.length_set]; exact hg.len, fun e => absurd e hk⟩
  refine ⟨e, ?_⟩
  unfold mk wtV
  rw [e]

/-- What a walk over an array and an index keeps. -/
structure KP (w : World) (A : Ar) (v : Value) (p q : Int) (w' : World) : Prop where
  bel : Below w.heap.size w w'
  blk : R5 w' w.heap.size A.k A.r A.a A.b v
  idx : R2 w' (w.heap.size + 1) p q
  rd : RdI w.heap.size w' v A.z
  lay : Ru.Lay w'
theorem KP.next {w w' w'' : World} {A : Ar} {v : Value} {p q : Int} (h : KP w A v p q w') (hb : Below w'.heap.size w' w'') : KP w A v p q w'' :=
  ⟨h.bel.trans (hb.mono h.bel.size), h.blk.next hb, h.idx.next hb, h.rd.below (hb.mono h.bel.size), h.lay.next hb⟩
theorem KP.rdn {w w' : World} {A : Ar} {v : Value} {p q : Int} (h : KP w A v p q w') : RdI w'.heap.size w' v A.z := h.rd.mono h.bel.size
theorem KP.new {w : World} {A : Ar} {v : Value} (p q : Int) (hw : Ru.Lay w) (hv : RdI w.heap.size w v A.z) : KP w A v p q ((w.alloc (.cells #[.int .i64 A.k, .int .i64 A.r, .int .i64 A.a, .int .i64 A.b, v] 25)).alloc (.cells #[.int .i64 p, .int .i64 q] 22)) := by
  have hb : Below w.heap.size w ((w.alloc (.cells #[.int .i64 A.k, .int .i64 A.r, .int .i64 A.a, .int .i64 A.b, v] 25)).alloc (.cells #[.int .i64 p, .int .i64 q] 22)) := (bel1 _ _).trans ((bel1 _ _).mono (by simp))
  refine ⟨hb, (R5.new w _ _ _ _ _).alloc _, ?_, hv.below hb, (hw.alloc _).alloc _⟩
  have : (w.alloc (.cells #[.int .i64 A.k, .int .i64 A.r, .int .i64 A.a, .int .i64 A.b, v] 25)).heap.size = w.heap.size + 1 := by simp
  rw [← this]; exact R2.new _ _ _

/-- A row of the call's own that is not empty. -/
theorem ins_some {W : World} {B : Nat} {u : Value} {z : List Int} (h : Ru.Ins 2 W B u z) (hz : z ≠ []) :
    ∃ g c, u = .slice (some ⟨g, 0, none⟩) z.length c ∧ (B ≤ g ∧ g < W.heap.size) ∧ (∀ j (hj : j < z.length), W.cell? ⟨g, j, none⟩ = some (.int .i64 z[j])) ∧ (∀ j, W.frozen? ⟨g, j, none⟩ = false) ∧ ∀ j v, j < z.length → Ru.Ins 2 (W.setCell ⟨g, j, none⟩ (.int .i64 v)) B u (z.set j v) := by
  have h' := h
  obtain ⟨h1, ⟨rfl, h0⟩ | ⟨g, cap, cur, rfl, hg, hh, r1, r2, r3, r4⟩⟩ := h
  · exact absurd (List.length_eq_zero_iff.1 h0) hz
  · refine ⟨g, cap, rfl, ⟨hg, (Array.getElem?_eq_some_iff.1 hh).1⟩, fun j hj => ?_, fun j => Lib.frozen_of_heap hh j, fun j v hj => ?_⟩
    · have := World.ownsRow.cellAt h' j (by omega)
      rw [this]
      simp [List.getElem?_eq_getElem hj]
    · refine ⟨by simp, .inr ⟨g, cap, cur.setIfInBounds j (.int .i64 v), by rw [List.length_set], hg, ?_, by rw [List.length_set]; exact r1, r2, by simpa using r3, ?_⟩⟩
      · simp [World.setCell, Array.getElem?_modify, hh]
      · rw [List.length_set, Array.toList_setIfInBounds, List.take_set, r4, List.map_set]
/-- What a walk of With keeps. -/
structure KW (w : World) (A : Ar) (v : Value) (p q : Int) (w' : World) : Prop where
  bel : Below w.heap.size w w'
  blk : R5 w' w.heap.size A.k A.r A.a A.b v
  idx : R2 w' (w.heap.size + 1) p q
  res : R5 w' (w.heap.size + 2) 0 0 0 0 (.slice none 0 0)
  rd : RdI w.heap.size w' v A.z
  lay : Ru.Lay w'
theorem KW.next {w w' w'' : World} {A : Ar} {v : Value} {p q : Int} (h : KW w A v p q w') (hb : Below w'.heap.size w' w'') : KW w A v p q w'' :=
  ⟨h.bel.trans (hb.mono h.bel.size), h.blk.next hb, h.idx.next hb, h.res.next hb, h.rd.below (hb.mono h.bel.size), h.lay.next hb⟩
theorem KW.rdn {w w' : World} {A : Ar} {v : Value} {p q : Int} (h : KW w A v p q w') : RdI w'.heap.size w' v A.z := h.rd.mono h.bel.size
theorem KW.put {w w' : World} {A : Ar} {v : Value} {p q : Int} (h : KW w A v p q w') (hs : 0 + 1 ≤ w.heap.size) {g : Nat} (hg : w.heap.size + 2 < g) (j : Nat) (x : Value) : KW w A v p q (w'.setCell ⟨g, j, none⟩ x) :=
  ⟨h.bel.setCell (p := ⟨g, j, none⟩) (by show w.heap.size ≤ g; omega) _, (blkO _ _ _ _ (by omega)).trans h.blk, (blkO _ _ _ _ (by omega)).trans h.idx, (blkO _ _ _ _ (by omega)).trans h.res,
    h.rd.below ((Below.refl _ w').setCell (p := ⟨g, j, none⟩) (by show w.heap.size ≤ g; omega) _), h.lay.below (B := w.heap.size + 2) (by omega) ((Below.refl _ w').setCell (p := ⟨g, j, none⟩) (by show w.heap.size + 2 ≤ g; omega) _)⟩
theorem KW.new {w : World} {A : Ar} {v : Value} (p q : Int) (hw : Ru.Lay w) (hv : RdI w.heap.size w v A.z) : KW w A v p q (((w.alloc (.cells #[.int .i64 A.k, .int .i64 A.r, .int .i64 A.a, .int .i64 A.b, v] 25)).alloc (.cells #[.int .i64 p, .int .i64 q] 22)).alloc (.cells #[.int .i64 0, .int .i64 0, .int .i64 0, .int .i64 0, .slice none 0 0] 25)) := by
  have h := KP.new (A := A) p q hw hv
  have h2 := h.next (bel1 _ (.cells #[.int .i64 0, .int .i64 0, .int .i64 0, .int .i64 0, .slice none 0 0] 25))
  refine ⟨h2.bel, h2.blk, h2.idx, ?_, h2.rd, h2.lay⟩
  have : ((w.alloc (.cells #[.int .i64 A.k, .int .i64 A.r, .int .i64 A.a, .int .i64 A.b, v] 25)).alloc (.cells #[.int .i64 p, .int .i64 q] 22)).heap.size = w.heap.size + 2 := by simp
  rw [← this]; exact R5.new _ _ _ _ _ _

end Go.Proofs.YtbeoigmaieiigaaDoor
