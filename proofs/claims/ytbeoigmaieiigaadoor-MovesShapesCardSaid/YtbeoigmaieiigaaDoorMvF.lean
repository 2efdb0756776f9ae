/- slices.Reverse, of a part of a row of the call's own. -/
import Derived.Test.YtbeoigmaieiigaaDoorMvE
import Derived.Shelf.RegionOpenPlain
namespace Go.Proofs.YtbeoigmaieiigaaDoor
open Go.RowKit

/-- All blocks but one are as they were. -/
structure But (g : Nat) (w w' : World) : Prop where
  os : w'.os = w.os
  tape : w'.tape = w.tape
  output : w'.output = w.output
  size : w'.heap.size = w.heap.size
  block : ∀ k, k ≠ g → w'.heap[k]? = w.heap[k]?
theorem But.refl (g : Nat) (w : World) : But g w w := ⟨rfl, rfl, rfl, rfl, fun _ _ => rfl⟩
theorem But.trans {g : Nat} {a b c : World} (h : But g a b) (k : But g b c) : But g a c := ⟨k.os.trans h.os, k.tape.trans h.tape, k.output.trans h.output, k.size.trans h.size, fun i hi => (k.block i hi).trans (h.block i hi)⟩
theorem But.drew {g : Nat} {a w : World} (h : But g a w) : But g a w.drew := ⟨h.os, h.tape, h.output, h.size, h.block⟩
theorem But.setCell {g : Nat} {a w : World} (h : But g a w) (j : Nat) (x : Value) : But g a (w.setCell ⟨g, j, none⟩ x) :=
  h.trans ⟨rfl, rfl, rfl, by simp [World.setCell], fun k hk => Below.heap_setCell _ _ _ _ hk⟩
theorem But.below {g B : Nat} {w w' : World} (h : But g w w') (hB : B ≤ g) : Below B w w' := ⟨h.os, h.tape, h.output, Nat.le_of_eq h.size.symm, fun k hk => h.block k (by omega)⟩
/-- A row of numbers by its function. -/
abbrev rowZ (w : World) (g n : Nat) (f : Nat → Int) : Prop := w.rowIs g 2 n (fun i => .int .i64 (f i))
theorem rowZ.put {w : World} {g n : Nat} {f : Nat → Int} (h : rowZ w g n f) (k : Nat) (x : Int) : rowZ (w.setCell ⟨g, k, none⟩ (.int .i64 x)) g n (fun i => if i = k then x else f i) := by
  refine (h.set k _).congr fun i hi => ?_
  show (if i = k then Value.int .i64 x else .int .i64 (f i)) = .int .i64 (if i = k then x else f i)
  by_cases e : i = k
  · rw [if_pos e, if_pos e]
  · rw [if_neg e, if_neg e]
theorem rowZ.congr {w : World} {g n : Nat} {f h : Nat → Int} (hw : rowZ w g n f) (e : ∀ i, i < n → f i = h i) : rowZ w g n h := World.rowIs.congr hw fun i hi => by rw [e i hi]
/-- The part from o on, of m numbers, after t exchanges from both ends. -/
def rvF (f : Nat → Int) (o m t i : Nat) : Int := if o ≤ i ∧ i < o + m ∧ (i < o + t ∨ o + m ≤ i + t) then f (o + (m - 1 - (i - o))) else f i
theorem rvF_zero (f : Nat → Int) (o m i : Nat) : rvF f o m 0 i = f i := by unfold rvF; rw [if_neg (by omega)]
theorem rvF_end {f : Nat → Int} {o m t : Nat} (h : m ≤ 2 * t + 1) (i : Nat) : rvF f o m t i = if o ≤ i ∧ i < o + m then f (o + (m - 1 - (i - o))) else f i := by
  unfold rvF
  by_cases h1 : o ≤ i ∧ i < o + m
  · rw [if_pos h1]
    by_cases h2 : i < o + t ∨ o + m ≤ i + t
    · rw [if_pos ⟨h1.1, h1.2, h2⟩]
    · rw [if_neg (by omega)]
      congr 1; omega
  · rw [if_neg h1, if_neg (by omega)]
theorem rvF_next {f : Nat → Int} {o m t j : Nat} (h : t + j + 1 = m) (ht : t < j) (i : Nat) : rvF f o m (t + 1) i = if i = o + j then f (o + t) else if i = o + t then f (o + j) else rvF f o m t i := by
  by_cases h1 : i = o + j
  · rw [if_pos h1]
    unfold rvF
    rw [if_pos (by omega)]
    congr 1; omega
  · rw [if_neg h1]
    by_cases h2 : i = o + t
    · rw [if_pos h2]
      unfold rvF
      rw [if_pos (by omega)]
      congr 1; omega
    · rw [if_neg h2]
      unfold rvF
      by_cases h3 : o ≤ i ∧ i < o + m ∧ (i < o + t ∨ o + m ≤ i + t)
      · rw [if_pos h3, if_pos (by omega)]
      · rw [if_neg h3, if_neg (by omega)]
theorem rvF_mid {f : Nat → Int} {o m t j : Nat} (h : t + j + 1 = m) (ht : t < j) : rvF f o m t (o + t) = f (o + t) ∧ rvF f o m t (o + j) = f (o + j) := by
  unfold rvF
  rw [if_neg (by omega), if_neg (by omega)]
  exact ⟨rfl, rfl⟩
/-- What the loop keeps. -/
structure Rv (w : World) (g n : Nat) (f : Nat → Int) (o m t : Nat) (W : World) : Prop where
  row : rowZ W g n (rvF f o m t)
  but : But g w W
theorem Rv.swap {w W : World} {g n : Nat} {f : Nat → Int} {o m t j : Nat} (h : Rv w g n f o m t W) (hj : t + j + 1 = m) (ht : t < j) :
    Rv w g n f o m (t + 1) ((W.setCell ⟨g, o + t, none⟩ (.int .i64 (f (o + j)))).setCell ⟨g, o + j, none⟩ (.int .i64 (f (o + t)))) :=
  ⟨((h.row.put _ _).put _ _).congr fun i _ => by rw [rvF_next hj ht], (h.but.setCell _ _).setCell _ _⟩
theorem Rv.swap' {w W : World} {g n : Nat} {f : Nat → Int} {o m t j : Nat} (h : Rv w g n f o m t W) (hj : t + j + 1 = m) (ht : t < j) :
    Rv w g n f o m (t + 1) ((W.setCell ⟨g, o + j, none⟩ (.int .i64 (f (o + t)))).setCell ⟨g, o + t, none⟩ (.int .i64 (f (o + j)))) :=
  ⟨((h.row.put _ _).put _ _).congr fun i _ => by
    rw [rvF_next hj ht]
    by_cases e : i = o + j
    · rw [if_pos e, if_neg (by omega), if_pos e]
    · rw [if_neg e, if_neg e], (h.but.setCell _ _).setCell _ _⟩
theorem Rv.drew {w W : World} {g n : Nat} {f : Nat → Int} {o m t : Nat} (h : Rv w g n f o m t W) : Rv w g n f o m t W.drew := ⟨h.row.drew, h.but.drew⟩

set_option maxRecDepth 100000 in
set_option maxHeartbeats 8000000 in
theorem reverse_any (g o m n : Nat) (f : Nat → Int) (w : World) (hrow : rowZ w g n f) (hm : o + m ≤ n) (hn : n ≤ 1000000) :
    Calls Tryd.prog 43 #[.slice (some ⟨g, o, none⟩) m m] w fun e w' => e = .returned (.tuple #[]) ∧ rowZ w' g n (fun i => if o ≤ i ∧ i < o + m then f (o + (m - 1 - (i - o))) else f i) ∧ But g w w' := by
  have HR0 : Hid (Rv w g n f o m 0 w) := ⟨hrow.congr fun i _ => (rvF_zero f o m i).symm, But.refl _ _⟩
  clear hrow
  have hw1 : IntKind.i64.wrap ((m : Int) - 1) = (m : Int) - 1 := by rw [IntKind.wrap_i64]; omega
  have mixed : Tryd.prog.follows Departure.mixedOrders = true := by kernel_rfl
  go_enter Tryd.func43, Tryd.ntmps43
  go_wp2
  clear hw1
  go_loopg [2, 3] m (fun gk a b wr => ∃ (t : Nat) (jz : Int), t + gk = m ∧ a = .int .i64 t ∧ b = .int .i64 jz ∧ t + jz + 1 = m ∧ Rv w g n f o m t wr)
  case atStart => exact ⟨0, (m : Int) - 1, by omega, rfl, rfl, by omega, HR0.out⟩
  case round =>
    obtain ⟨t, jz, hgk, rfl, rfl, hj, hrv⟩ := hrel
    have HRv := Lib.hid hrv
    clear hrv HR0
    by_cases hlt : (t : Int) < jz
    · obtain ⟨j, rfl⟩ : ∃ j : Nat, jz = j := ⟨jz.toNat, by omega⟩
      have HJ : Hid (t + j + 1 = m) := by unfold Hid; omega
      have HT : Hid (t < j) := by unfold Hid; omega
      obtain ⟨q1, q2⟩ := rvF_mid (f := f) (o := o) HJ.out HT.out
      have x1 : wr.cell? ⟨g, o + t, none⟩ = some (.int .i64 (f (o + t))) := by rw [HRv.out.row.cell (by omega), q1]
      have x2 : wr.cell? ⟨g, o + j, none⟩ = some (.int .i64 (f (o + j))) := by rw [HRv.out.row.cell (by omega), q2]
      have f1 : wr.frozen? ⟨g, o + t, none⟩ = false := HRv.out.row.frozen _
      have f2 : wr.frozen? ⟨g, o + j, none⟩ = false := HRv.out.row.frozen _
      have hw1 : IntKind.i64.wrap ((t : Int) + 1) = (t : Int) + 1 := by rw [IntKind.wrap_i64]; omega
      have hw2 : IntKind.i64.wrap ((j : Int) - 1) = (j : Int) - 1 := by rw [IntKind.wrap_i64]; omega
      obtain ⟨gk2, rfl⟩ : ∃ gk2, gk = gk2 + 1 := ⟨gk - 1, by omega⟩
      clear q1 q2 hj
      have hjm : (j : Int) < (m : Int) := by have := HJ.out; omega
      have htm : (t : Int) < (m : Int) := by have := HJ.out; omega
      go_wp2_with fail
      go_region_o
      all_goals
        go_wp2
        go_roundg gk2
        case measure => omega
        case rel => exact ⟨t + 1, (j : Int) - 1, by omega, by go_num, rfl, by have := HJ.out; omega, by first | exact (HRv.out.swap HJ.out HT.out).drew | exact (HRv.out.swap' HJ.out HT.out).drew⟩
    · have HF := Lib.hid (HRv.out.row.congr fun i _ => rvF_end (show m ≤ 2 * t + 1 by omega) i)
      have HB := Lib.hid HRv.out.but
      clear HRv hj
      go_wp2
      go_end0
      exact ⟨rfl, HF.out, HB.out⟩
end Go.Proofs.YtbeoigmaieiigaaDoor
