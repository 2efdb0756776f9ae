/- Rows of the code. -/
import Derived.Test.YtbeoigmaieiigaaDoorArO
import Derived.Test.YtbeoigmaieiigaaDoorArM
import Derived.Deep.OwnRows
namespace Go.Proofs.YtbeoigmaieiigaaDoor
open Go.RowKit

/-- How many rows an array has, and how many cells each has. -/
def rwN (A : Ar) : Nat := (rw0 A.r A.a A.b).toNat
def rwM (A : Ar) : Nat := (rw1 A.r A.a A.b).toNat
def rwI (A : Ar) (i : Nat) : List Int := (A.z.drop (i * rwM A)).take (rwM A)
def rwL (A : Ar) : List (List Int) := if ck A = 0 then (List.range (rwN A)).map (rwI A) else []
theorem rw_good {A : Ar} (h : Good A) : rw0 A.r A.a A.b = (rwN A : Int) ∧ rw1 A.r A.a A.b = (rwM A : Int) ∧ rwN A * rwM A = A.z.length ∧ rwN A ≤ 400 ∧ rwM A ≤ 400 := by
  have hl := h.len
  have hb := h.sh.bd
  have hk := sh_ok h.sh
  unfold rwN rwM rw0 rw1
  rw [if_pos hk, if_pos hk]
  by_cases h2 : A.r = 2
  · rw [if_pos h2, if_pos h2]
    unfold cn at hl
    rw [if_neg (by omega), if_neg (by omega)] at hl
    refine ⟨by omega, by omega, ?_, by omega, by omega⟩
    have e1 : A.a = (A.a.toNat : Int) := by omega
    have e2 : A.b = (A.b.toNat : Int) := by omega
    rw [e1, e2] at hl
    have : ((A.a.toNat * A.b.toNat : Nat) : Int) = (A.z.length : Int) := by rw [Int.natCast_mul]; exact hl.symm
    omega
  · rw [if_neg h2, if_neg h2]
    exact ⟨by omega, by omega, by simp; omega, by omega, by omega⟩
theorem rwI_len {A : Ar} (h : Good A) {i : Nat} (hi : i < rwN A) : (rwI A i).length = rwM A := by
  obtain ⟨_, _, h3, _, _⟩ := rw_good h
  unfold rwI
  rw [List.length_take, List.length_drop, ← h3]
  have : (i + 1) * rwM A ≤ rwN A * rwM A := Nat.mul_le_mul_right _ hi
  rw [Nat.add_mul] at this
  omega
theorem rwI_get {A : Ar} {i t : Nat} (ht : t < (rwI A i).length) {h : i * rwM A + t < A.z.length} : (rwI A i)[t] = A.z[i * rwM A + t] := by
  simp only [rwI, List.getElem_take, List.getElem_drop]
theorem rwL_len {A : Ar} (h : ck A = 0) : (rwL A).length = rwN A := by unfold rwL; rw [if_pos h]; simp
theorem rwL_get {A : Ar} (h : ck A = 0) (i : Nat) (hi : i < (rwL A).length) : (rwL A)[i] = rwI A i := by
  unfold rwL at hi ⊢
  simp only [if_pos h]
  simp
theorem infoS : (Tryd.prog.info? 23).map (fun i => (i.zero, i.size, i.bytes)) = some (some (.slice none 0 0), 1, 24) := by kernel_rfl

/-- The rows, as far as they have been cut. -/
def sf (g m k i : Nat) : Value := if i < k then .slice (some ⟨g, i * m, none⟩) m m else .slice none 0 0
theorem sf_next {w : World} {b g m k n : Nat} {x : Value} (h : w.rowIs b 23 n (sf g m k)) (hx : .slice (some ⟨g, k * m, none⟩) m m = x) : (w.setCell ⟨b, k, none⟩ x).rowIs b 23 n (sf g m (k + 1)) := by
  subst hx
  refine (h.set k _).congr fun i hi => ?_
  show (if i = k then Value.slice (some ⟨g, k * m, none⟩) m m else sf g m k i) = sf g m (k + 1) i
  unfold sf
  by_cases e : i = k
  · subst e; rw [if_pos rfl, if_pos (by omega)]
  · rw [if_neg e]
    by_cases e2 : i < k
    · rw [if_pos e2, if_pos (by omega)]
    · rw [if_neg e2, if_neg (by omega)]
/-- What a walk of Rows keeps. -/
structure KO (w : World) (A : Ar) (v : Value) (W : World) : Prop where
  bel : Below w.heap.size w W
  blk : R5 W w.heap.size A.k A.r A.a A.b v
  rd : RdI w.heap.size W v A.z
  lay : Ru.Lay W
theorem KO.next {w W W' : World} {A : Ar} {v : Value} (h : KO w A v W) (hb : Below W.heap.size W W') : KO w A v W' :=
  ⟨h.bel.trans (hb.mono h.bel.size), h.blk.next hb, h.rd.below (hb.mono h.bel.size), h.lay.next hb⟩
theorem KO.rdn {w W : World} {A : Ar} {v : Value} (h : KO w A v W) : RdI W.heap.size W v A.z := h.rd.mono h.bel.size
theorem KO.new {w : World} {A : Ar} {v : Value} (hw : Ru.Lay w) (hv : RdI w.heap.size w v A.z) : KO w A v (w.alloc (.cells #[.int .i64 A.k, .int .i64 A.r, .int .i64 A.a, .int .i64 A.b, v] 25)) :=
  ⟨bel1 _ _, R5.new _ _ _ _ _ _, hv.below (bel1 _ _), hw.alloc _⟩

theorem rows_done {A : Ar} (hk : ck A = 0) {W V : World} {b g : Nat} (hg : g < W.heap.size)
    (hcs : ∀ j (hj : j < A.z.length), W.cell? ⟨g, j, none⟩ = some (.int .i64 A.z[j])) (hgg : V.heap[g]? = W.heap[g]?)
    (hr : V.rowIs b 23 (rwN A) (sf g (rwM A) (rwN A))) : RdM V.heap.size V (.slice (some ⟨b, 0, none⟩) (rwN A) (rwN A)) (rwL A) := by
  obtain ⟨_, _, r2, r3, r4⟩ := rw_good (ck_good hk)
  have hgV : g < V.heap.size := by
    rw [Array.getElem?_eq_getElem hg] at hgg
    exact (Array.getElem?_eq_some_iff.1 hgg).1
  have hbV : b < V.heap.size := by
    obtain ⟨c, hc, _⟩ := hr
    exact (Array.getElem?_eq_some_iff.1 hc).1
  have hL := rwL_len hk
  refine ⟨some ⟨b, 0, none⟩, rwN A, by rw [hL], ⟨by rw [hL]; exact Nat.le_refl _, by omega⟩, fun _ => ⟨b, 0, rfl, hbV, fun i hi => ⟨_, (by rw [Nat.zero_add]; exact hr.cell (by omega)), ?_, ?_⟩⟩⟩
  · rw [rwL_get hk i hi]
    have hi' : i < rwN A := by omega
    have hI := rwI_len (ck_good hk) hi'
    unfold sf
    rw [if_pos hi']
    refine ⟨some ⟨g, i * rwM A, none⟩, rwM A, by rw [hI], by rw [hI]; exact Nat.le_refl _, by omega, fun _ => ⟨g, i * rwM A, rfl, hgV, fun t ht => ?_⟩⟩
    have hle : (i + 1) * rwM A ≤ rwN A * rwM A := Nat.mul_le_mul_right _ hi'
    rw [Nat.add_mul] at hle
    have hc : V.cell? ⟨g, i * rwM A + t, none⟩ = W.cell? ⟨g, i * rwM A + t, none⟩ := by
      unfold World.cell?
      show (match V.heap[g]? with | some (.cells c _ _) => _ | _ => none) = _
      rw [hgg]
      rfl
    rw [hc, hcs _ (by omega)]
    rw [rwI_get ht]
  · intro n c e
    unfold sf at e
    rw [if_pos (by omega)] at e
    cases e
theorem ins_none {W : World} {B : Nat} {u : Value} {z : List Int} (h : Ru.Ins 2 W B u z) (hz : z = []) : ∃ q c, u = .slice q 0 c ∧ c ≤ 9223372036854775807 ∧ ((q = none ∧ c = 0) ∨ ∃ g, q = some ⟨g, 0, none⟩) := by
  subst hz
  obtain ⟨h1, ⟨rfl, h0⟩ | ⟨g, cap, cur, rfl, hg, hh, r1, r2, r3, r4⟩⟩ := h
  · exact ⟨none, 0, rfl, by omega, .inl ⟨rfl, rfl⟩⟩
  · exact ⟨_, cap, rfl, r2, .inr ⟨g, rfl⟩⟩
/-- The same where there is nothing to cut. -/
def ef (q : Option Addr) (k i : Nat) : Value := if i < k then .slice q 0 0 else .slice none 0 0
theorem ef_next {w : World} {b k n : Nat} {q : Option Addr} {x : Value} (h : w.rowIs b 23 n (ef q k)) (hx : .slice q 0 0 = x) : (w.setCell ⟨b, k, none⟩ x).rowIs b 23 n (ef q (k + 1)) := by
  subst hx
  refine (h.set k _).congr fun i hi => ?_
  show (if i = k then Value.slice q 0 0 else ef q k i) = ef q (k + 1) i
  unfold ef
  by_cases e : i = k
  · subst e; rw [if_pos rfl, if_pos (by omega)]
  · rw [if_neg e]
    by_cases e2 : i < k
    · rw [if_pos e2, if_pos (by omega)]
    · rw [if_neg e2, if_neg (by omega)]
theorem rows_none {A : Ar} (hk : ck A = 0) (hz : A.z = []) {V : World} {b : Nat} {q : Option Addr}
    (hr : V.rowIs b 23 (rwN A) (ef q (rwN A))) : RdM V.heap.size V (.slice (some ⟨b, 0, none⟩) (rwN A) (rwN A)) (rwL A) := by
  obtain ⟨_, _, r2, r3, r4⟩ := rw_good (ck_good hk)
  have hbV : b < V.heap.size := by
    obtain ⟨c, hc, _⟩ := hr
    exact (Array.getElem?_eq_some_iff.1 hc).1
  have hL := rwL_len hk
  refine ⟨some ⟨b, 0, none⟩, rwN A, by rw [hL], ⟨by rw [hL]; exact Nat.le_refl _, by omega⟩, fun _ => ⟨b, 0, rfl, hbV, fun i hi => ⟨_, (by rw [Nat.zero_add]; exact hr.cell (by omega)), ?_, ?_⟩⟩⟩
  · rw [rwL_get hk i hi]
    have hi' : i < rwN A := by omega
    have hI : rwI A i = [] := by unfold rwI; rw [hz]; simp
    unfold ef
    rw [if_pos hi', hI]
    exact ⟨q, 0, rfl, Nat.le_refl _, by omega, fun h => absurd rfl h⟩
  · intro n c e
    unfold ef at e
    rw [if_pos (by omega)] at e
    cases e
    rfl
theorem ins_cap {W : World} {B g n c : Nat} {z : List Int} (h : Ru.Ins 2 W B (.slice (some ⟨g, 0, none⟩) n c) z) : n ≤ c ∧ c ≤ 9223372036854775807 := by
  obtain ⟨h1, ⟨h2, h0⟩ | ⟨g', cap, cur, h2, hg, hh, r1, r2, r3, r4⟩⟩ := h
  · cases h2
  · cases h2; exact ⟨r1, r2⟩
end Go.Proofs.YtbeoigmaieiigaaDoor
