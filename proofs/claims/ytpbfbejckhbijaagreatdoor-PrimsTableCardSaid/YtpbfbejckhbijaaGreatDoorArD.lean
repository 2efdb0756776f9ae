/- filled, of numbers. -/
import Derived.Test.YtpbfbejckhbijaaGreatDoorArB
import Derived.Test.YtpbfbejckhbijaaGreatDoorRuZ
import Derived.Deep.OwnRows
namespace Go.Proofs.YtpbfbejckhbijaaGreatDoor
open Go.RowKit

/-- A store of an array into its block. -/
abbrev st5 (w : World) (g : Nat) (k r a b : Int) (v : Value) : World :=
  ((((w.setCell ⟨g, 0, none⟩ (.int .i64 k)).setCell ⟨g, 1, none⟩ (.int .i64 r)).setCell ⟨g, 2, none⟩ (.int .i64 a)).setCell ⟨g, 3, none⟩ (.int .i64 b)).setCell ⟨g, 4, none⟩ v
theorem R5.set {w : World} {g : Nat} {k r a b : Int} {v : Value} (h : R5 w g k r a b v) (k' r' a' b' : Int) (v' : Value) : R5 (st5 w g k' r' a' b' v') g k' r' a' b' v' := by
  unfold R5 at h ⊢
  simp [World.setCell, Array.getElem?_modify, h]
theorem st5_other {w : World} {g : Nat} (k r a b : Int) (v : Value) {c : Nat} (hc : c ≠ g) : (st5 w g k r a b v).heap[c]? = w.heap[c]? := by
  have : g ≠ c := fun e => hc e.symm
  simp [World.setCell, Array.getElem?_modify, this]
theorem st5_below {B : Nat} {w w' : World} {g : Nat} (k r a b : Int) (v : Value) (hg : B ≤ g) (h : Below B w w') : Below B w (st5 w' g k r a b v) :=
  ((((h.setCell (p := ⟨g, 0, none⟩) hg _).setCell (p := ⟨g, 1, none⟩) hg _).setCell (p := ⟨g, 2, none⟩) hg _).setCell (p := ⟨g, 3, none⟩) hg _).setCell (p := ⟨g, 4, none⟩) hg _
theorem st5_size (w : World) (g : Nat) (k r a b : Int) (v : Value) : (st5 w g k r a b v).heap.size = w.heap.size := by simp
theorem blkO (w : World) (c : Nat) (i : Nat) (u : Value) {g : Nat} (h : g ≠ c) : (w.setCell ⟨c, i, none⟩ u).heap[g]? = w.heap[g]? := by
  have : c ≠ g := fun e => h e.symm
  simp [World.setCell, Array.getElem?_modify, this]
theorem info64 : (Tryz.prog.info? 2).map (fun i => (i.zero, i.size, i.bytes)) = some (some (.int .i64 0), 1, 8) := by kernel_rfl
theorem info_parts {t : TypeId} {z : Value} {n m : Nat} (h : (Tryz.prog.info? t).map (fun i => (i.zero, i.size, i.bytes)) = some (some z, n, m)) : ∃ i, Tryz.prog.info? t = some i ∧ i.zero = some z ∧ i.size = n ∧ i.bytes = m := by
  obtain ⟨i, hi, e⟩ := Option.map_eq_some_iff.1 h
  simp only [Prod.mk.injEq] at e
  exact ⟨i, hi, e.1, e.2.1, e.2.2⟩
/-- The numbers, as far as they have been written. -/
def zf (z : List Int) (k : Nat) (i : Nat) : Value := if i < k then .int .i64 (z.getD i 0) else .int .i64 0
theorem zf_next {w : World} {g : Nat} {z : List Int} {k m : Nat} {x : Int} (h : w.rowIs g 2 m (zf z k)) (hz : z.getD k 0 = x) : (w.setCell ⟨g, k, none⟩ (.int .i64 x)).rowIs g 2 m (zf z (k + 1)) := by
  refine (h.set k _).congr fun i hi => ?_
  show (if i = k then Value.int .i64 x else zf z k i) = zf z (k + 1) i
  unfold zf
  by_cases e : i = k
  · subst e; rw [if_pos rfl, if_pos (by omega), hz]
  · rw [if_neg e]
    by_cases e2 : i < k
    · rw [if_pos e2, if_pos (by omega)]
    · rw [if_neg e2, if_neg (by omega)]
theorem zf_all {w : World} {g : Nat} {z : List Int} {n : Nat} (hn : z.length = n) (h : w.rowIs g 2 n (zf z n)) (hl : n ≤ 1000000) : RdI w.heap.size w (.slice (some ⟨g, 0, none⟩) n n) z := by
  subst hn
  refine ⟨_, _, rfl, Nat.le_refl _, by omega, fun _ => ⟨g, 0, rfl, h.lt, fun j hj => ?_⟩⟩
  rw [Nat.zero_add, h.cell hj]
  unfold zf
  rw [if_pos hj, List.getD_eq_getElem?_getD, List.getElem?_eq_getElem hj]; rfl
/-- A slice of numbers in memory that is new from B on. -/
def RdN (B : Nat) (w : World) (v : Value) (l : List Int) : Prop :=
  ∃ a cap, v = .slice a l.length cap ∧ (l.length ≤ cap ∧ cap ≤ 9223372036854775807 ∧ (a = none → cap = 0)) ∧ (l ≠ [] → ∃ b off, a = some ⟨b, off, none⟩ ∧ (B ≤ b ∧ b < w.heap.size) ∧ ∀ j (h : j < l.length), w.cell? ⟨b, off + j, none⟩ = some (vi l[j]))
theorem RdN.rd {B : Nat} {w : World} {v : Value} {l : List Int} (h : RdN B w v l) : RdI w.heap.size w v l := by
  obtain ⟨a, cap, hv, ⟨h1, h2, _⟩, h⟩ := h
  refine ⟨a, cap, hv, h1, h2, fun hn => ?_⟩
  obtain ⟨b, off, ha, ⟨_, hlt⟩, hc⟩ := h hn
  exact ⟨b, off, ha, hlt, hc⟩
theorem RdN.nilC {B : Nat} {w : World} {v : Value} {l : List Int} (h : RdN B w v l) : Ru.NilC v := by
  obtain ⟨a, cap, rfl, ⟨_, _, h0⟩, _⟩ := h
  intro n c e
  cases e
  exact h0 rfl
theorem RdN.form {B : Nat} {w : World} {v : Value} {l : List Int} (h : RdN B w v l) : ∃ a cap, v = .slice a l.length cap ∧ l.length ≤ cap ∧ cap ≤ 9223372036854775807 := by
  obtain ⟨a, cap, hv, ⟨h1, h2, _⟩, _⟩ := h
  exact ⟨a, cap, hv, h1, h2⟩
theorem RdN.keep {B : Nat} {w w' : World} {v : Value} {l : List Int} (h : RdN B w v l) (hs : w.heap.size ≤ w'.heap.size) (hb : ∀ b, B ≤ b → b < w.heap.size → w'.heap[b]? = w.heap[b]?) : RdN B w' v l := by
  obtain ⟨a, cap, hv, h1, h⟩ := h
  refine ⟨a, cap, hv, h1, fun hn => ?_⟩
  obtain ⟨b, off, ha, ⟨hB, hlt⟩, hc⟩ := h hn
  refine ⟨b, off, ha, ⟨hB, Nat.lt_of_lt_of_le hlt hs⟩, fun j hj => ?_⟩
  rw [← hc j hj]
  simp only [World.cell?, hb b hB hlt]
theorem RdN.next {B : Nat} {w w' : World} {v : Value} {l : List Int} (h : RdN B w v l) (hb : Below w.heap.size w w') : RdN B w' v l := h.keep hb.size fun b _ hlt => hb.block b hlt
theorem RdN.mono {B B' : Nat} {w : World} {v : Value} {l : List Int} (h : RdN B w v l) (hB : B' ≤ B) : RdN B' w v l := by
  obtain ⟨a, cap, hv, h1, h⟩ := h
  refine ⟨a, cap, hv, h1, fun hn => ?_⟩
  obtain ⟨b, off, ha, ⟨hb, hlt⟩, hc⟩ := h hn
  exact ⟨b, off, ha, ⟨Nat.le_trans hB hb, hlt⟩, hc⟩
theorem RdN.st5 {B : Nat} {w : World} {v : Value} {l : List Int} (h : RdN B w v l) {g : Nat} (hg : g < B) (k r a b : Int) (u : Value) : RdN B (st5 w g k r a b u) v l :=
  h.keep (Nat.le_of_eq (st5_size w g k r a b u).symm) fun c hc _ => st5_other k r a b u (by omega)
theorem RdN.nil (B : Nat) (w : World) : RdN B w (.slice none 0 0) [] := ⟨none, 0, rfl, ⟨Nat.le_refl _, by omega, fun _ => rfl⟩, fun h => absurd rfl h⟩
theorem zf_new {B : Nat} {w : World} {g : Nat} {z : List Int} {n : Nat} (hn : z.length = n) (h : w.rowIs g 2 n (zf z n)) (hl : n ≤ 1000000) (hB : B ≤ g) : RdN B w (.slice (some ⟨g, 0, none⟩) n n) z := by
  subst hn
  refine ⟨_, _, rfl, ⟨Nat.le_refl _, by omega, fun e => by cases e⟩, fun _ => ⟨g, 0, rfl, ⟨hB, h.lt⟩, fun j hj => ?_⟩⟩
  rw [Nat.zero_add, h.cell hj]
  unfold zf
  rw [if_pos hj, List.getD_eq_getElem?_getD, List.getElem?_eq_getElem hj]; rfl
/-- An array that a call hands back, in new memory. -/
def RetA (A : Ar) (w : World) (e : Ending) (w' : World) : Prop := ∃ u, e = .returned (A5 A.k A.r A.a A.b u) ∧ RdN w.heap.size w' u A.z ∧ Below w.heap.size w w'
/-- An array and an error. -/
def RetE (A : Ar) (n : Int) (w : World) (e : Ending) (w' : World) : Prop := ∃ u, e = .returned (.tuple #[A5 A.k A.r A.a A.b u, .int .i64 n]) ∧ RdN w.heap.size w' u A.z ∧ Below w.heap.size w w'

set_option maxRecDepth 100000 in
set_option maxHeartbeats 4000000 in
theorem filled_any (k r a b : Int) (v : Value) (z : List Int) (w : World) (hv : RdI w.heap.size w v z) (hl : z.length ≤ 500) :
    Calls Tryz.prog 149 #[.int .i64 k, .int .i64 r, P2 a b, v] w (RetA ⟨k, r, a, b, z⟩ w) := by
  have HV := Lib.hid hv
  obtain ⟨p, cap, rfl, hcap, hcap2, hcell⟩ := hv
  clear hcell
  obtain ⟨i0, hi, hz0, hz1, hz2⟩ := info_parts info64
  generalize hO : Obj.cells #[Value.int .i64 a, Value.int .i64 b] 40 = O0
  generalize hO' : Obj.cells #[Value.int .i64 0, Value.int .i64 0, Value.int .i64 0, Value.int .i64 0, Value.slice none 0 0] 43 = O1
  have e1 : ((w.alloc O0).alloc O1).heap.size = w.heap.size + 2 := by simp
  have hmk := run_make (P := Tryz.prog) ((w.alloc O0).alloc O1) 41 2 i0 (.int .i64 0) Tryz.underlying41 hi hz0 .i64 .i64 z.length z.length (by omega) (by omega) (by rw [hz2]; omega) (by omega)
  rw [Int.toNat_natCast, hz1, Nat.mul_one, e1] at hmk
  have hr0 : (((w.alloc O0).alloc O1).alloc (.cells (madeCells (Value.int .i64 0).cells z.length) 2)).rowIs (w.heap.size + 2) 2 z.length (zf z 0) := by
    rw [← e1]
    exact (World.rowIs_made ((w.alloc O0).alloc O1) (.int .i64 0) z.length 2).congr fun i _ => by unfold zf; rw [if_neg (by omega)]
  have hb0 := bel1 ((w.alloc O0).alloc O1) (.cells (madeCells (Value.int .i64 0).cells z.length) 2)
  have hb00 : Below w.heap.size w ((w.alloc O0).alloc O1) := (bel1 w O0).trans ((bel1 _ O1).mono (by simp))
  have HA0 : Hid (R2 (((w.alloc O0).alloc O1).alloc (.cells (madeCells (Value.int .i64 0).cells z.length) 2)) w.heap.size a b) := by
    unfold Hid; rw [← hO]; exact ((R2.new w a b).alloc _).alloc _
  have HC0 : Hid (R5 (((w.alloc O0).alloc O1).alloc (.cells (madeCells (Value.int .i64 0).cells z.length) 2)) (w.heap.size + 1) 0 0 0 0 (.slice none 0 0)) := by
    unfold Hid
    have : (w.alloc O0).heap.size = w.heap.size + 1 := by simp
    rw [← hO', ← this]; exact (R5.new _ _ _ _ _ _).alloc _
  have HB0 := Lib.hid (hb00.trans (hb0.mono hb00.size))
  have HR0 := Lib.hid hr0
  clear hr0 hb0 hb00
  generalize hW1 : ((w.alloc O0).alloc O1).alloc (.cells (madeCells (Value.int .i64 0).cells z.length) 2) = W1 at hmk HC0 HA0 HB0 HR0
  clear hW1
  subst hO hO'
  clear e1
  have g0 := HA0.out.c0
  have g1 := HA0.out.c1
  go_enter Tryz.func149, Tryz.ntmps149
  go_wp2
  clear hmk
  go_loopg [17] z.length (fun g i wr => ∃ j : Nat, j + g = z.length ∧ i = .int .i64 j ∧ Below w.heap.size w wr ∧ R2 wr w.heap.size a b ∧ R5 wr (w.heap.size + 1) 0 0 0 0 (.slice none 0 0) ∧ wr.rowIs (w.heap.size + 2) 2 z.length (zf z j))
  case atStart => exact ⟨0, by omega, rfl, HB0.out, HA0.out, HC0.out, HR0.out⟩
  case round =>
    obtain ⟨j, hjg, rfl, hbl, h2, h5, hrow⟩ := hrel
    have x0 := h2.c0; have x1 := h2.c1
    have H2 := Lib.hid h2
    have H5 := Lib.hid h5
    have HRo := Lib.hid hrow
    clear h2 h5 hrow g0 g1
    cases gk with
    | zero =>
      have hjz : ¬ ((j : Int) < (z.length : Int)) := by omega
      have HJ : Hid (j = z.length) := by unfold Hid; omega
      have y0 := H5.out.c0; have y1 := H5.out.c1; have y2 := H5.out.c2; have y3 := H5.out.c3; have y4 := H5.out.c4
      have f0 := H5.out.fr 0; have f1 := H5.out.fr 1; have f2 := H5.out.fr 2; have f3 := H5.out.fr 3; have f4 := H5.out.fr 4
      have HF := Lib.hid (H5.out.set k r a b (.slice (some ⟨w.heap.size + 2, 0, none⟩) z.length z.length))
      have z0 := HF.out.c0; have z1 := HF.out.c1; have z2 := HF.out.c2; have z3 := HF.out.c3; have z4 := HF.out.c4
      go_wp2
      refine bodyPost_ret (v := A5 k r a b (.slice (some ⟨w.heap.size + 2, 0, none⟩) z.length z.length)) (by simp [results, Tryz.results149, go_sem, z0, z1, z2, z3, z4]) rfl ?_
      refine ⟨_, rfl, zf_new rfl ?_ (by omega) (by omega), st5_below _ _ _ _ _ (by omega) hbl⟩
      have := HRo.out
      rw [HJ.out] at this
      exact this.of_block (st5_other _ _ _ _ _ (by omega))
    | succ g =>
      have hjz : (j : Int) < (z.length : Int) := by omega
      have hj : j < z.length := by omega
      obtain ⟨bk, off, rfl, hbb, hc⟩ := (HV.out.below hbl).cells (by intro e; rw [e] at hj; simp at hj)
      have x2 := hc j hj
      have HG : Hid (z.getD j 0 = z[j]) := by unfold Hid; rw [List.getD_eq_getElem?_getD, List.getElem?_eq_getElem hj]; rfl
      obtain ⟨x, hx⟩ : ∃ x, z[j] = x := ⟨_, rfl⟩
      rw [hx] at x2 HG
      clear hc hx
      have hy : wr.cell? ⟨w.heap.size + 2, j, none⟩ = some (.int .i64 0) := by
        rw [HRo.out.cell hj]; unfold zf; rw [if_neg (by omega)]
      have hyf : wr.frozen? ⟨w.heap.size + 2, j, none⟩ = false := HRo.out.frozen j
      go_wp2
      go_roundg g
      case measure => omega
      case rel => exact ⟨j + 1, by omega, by go_num, hbl.setCell (p := ⟨w.heap.size + 2, j, none⟩) (by show w.heap.size ≤ w.heap.size + 2; omega) _, (blkO _ _ _ _ (by omega)).trans H2.out, (blkO _ _ _ _ (by omega)).trans H5.out, zf_next HRo.out HG.out⟩
end Go.Proofs.YtpbfbejckhbijaaGreatDoor
