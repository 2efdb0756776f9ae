/- Make. -/
import Derived.Test.YtablaacddbkeiaaGreatDoorLtK
namespace Go.Proofs.YtablaacddbkeiaaGreatDoor
open Go.RowKit

def mkBad (rows : List ByteArray) (n i : Nat) : Bool := !rrB (byt (rows.getD i ByteArray.empty)) n
def mkF (rows : List ByteArray) (n : Nat) : Option Nat := (List.range rows.length).find? (mkBad rows n)
def mkU (rows : List ByteArray) (n : Nat) : List UInt8 := (List.range rows.length).map fun i => UInt8.ofNat (rrN (byt (rows.getD i ByteArray.empty)) n)
theorem mkU_len (rows : List ByteArray) (n : Nat) : (mkU rows n).length = rows.length := by simp [mkU]
/-- What Make returns: the index, the error, the lattice. -/
def mkV (ns rows : List ByteArray) : Int × Int × List ByteArray × List UInt8 :=
  if ns.length < 1 ∨ 8 < ns.length ∨ rows.length ≠ ns.length then (-1, 3, [], []) else
  match mkF rows ns.length with
  | some i => (i, 6, [], [])
  | none => if ((ck ns (mkU rows ns.length)).2 != 0) = true then ((ck ns (mkU rows ns.length)).1, (ck ns (mkU rows ns.length)).2, [], []) else (0, 0, ns, mkU rows ns.length)
theorem mkV_A {ns rows : List ByteArray} (h : ns.length < 1 ∨ 8 < ns.length ∨ rows.length ≠ ns.length) : mkV ns rows = (-1, 3, [], []) := if_pos h
theorem mkV_B {ns rows : List ByteArray} {i : Nat} (h : ¬ (ns.length < 1 ∨ 8 < ns.length ∨ rows.length ≠ ns.length)) (h2 : mkF rows ns.length = some i) : mkV ns rows = ((i : Int), 6, [], []) := by
  unfold mkV; rw [if_neg h, h2]
theorem mkV_C {ns rows : List ByteArray} (h : ¬ (ns.length < 1 ∨ 8 < ns.length ∨ rows.length ≠ ns.length)) (h2 : mkF rows ns.length = none) (h3 : ((ck ns (mkU rows ns.length)).2 != 0) = true) : mkV ns rows = ((ck ns (mkU rows ns.length)).1, (ck ns (mkU rows ns.length)).2, [], []) := by
  unfold mkV; rw [if_neg h, h2]; simp only; rw [if_pos h3]
theorem mkV_D {ns rows : List ByteArray} (h : ¬ (ns.length < 1 ∨ 8 < ns.length ∨ rows.length ≠ ns.length)) (h2 : mkF rows ns.length = none) (h3 : ((ck ns (mkU rows ns.length)).2 != 0) = false) : mkV ns rows = (0, 0, ns, mkU rows ns.length) := by
  unfold mkV; rw [if_neg h, h2]; simp only; rw [if_neg (by rw [h3]; decide)]

theorem own_set {w : World} {base : Nat} {e : TypeId} {size : Nat} {v : Value} {n : Nat} {xs : List Value} (h : w.ownsRow base e size v n xs) {a : Addr} (ha : a.block < base) (x : Value) : (w.setCell a x).ownsRow base e size v n xs := by
  obtain ⟨h1, h2⟩ := h
  refine ⟨h1, ?_⟩
  rcases h2 with h2 | ⟨g, cap, cur, hv, hg, hh, r⟩
  · exact .inl h2
  · refine .inr ⟨g, cap, cur, hv, hg, ?_, r⟩
    have : a.block ≠ g := by omega
    simp [World.setCell, Array.getElem?_modify, this, hh]
theorem rdl_nil (B : Nat) (w : World) : RdL B w (.agg #[.slice none 0 0, .slice none 0 0]) [] [] :=
  ⟨⟨_, _, rfl, ⟨none, 0, rfl, Nat.le_refl _, by omega, fun h => absurd rfl h⟩, ⟨none, 0, rfl, Nat.le_refl _, by omega, fun h => absurd rfl h⟩⟩, by simp⟩
/-- The numbers of the rows, as far as they have been read. -/
def uf (rows : List ByteArray) (n k : Nat) (i : Nat) : Value := if i < k then .int .u8 (rrN (byt (rows.getD i ByteArray.empty)) n : Int) else .int .u8 0
theorem uf_next {w : World} {b : Nat} {rows : List ByteArray} {n k m : Nat} {z : Int} (h : w.rowIs b 5 m (uf rows n k)) (hz : (rrN (byt (rows.getD k ByteArray.empty)) n : Int) = z) : (w.setCell ⟨b, k, none⟩ (.int .u8 z)).rowIs b 5 m (uf rows n (k + 1)) := by
  refine (h.set k _).congr fun i hi => ?_
  show (if i = k then Value.int .u8 z else uf rows n k i) = uf rows n (k + 1) i
  unfold uf
  by_cases e : i = k
  · subst e; rw [if_pos rfl, if_pos (by omega), hz]
  · rw [if_neg e]
    by_cases e2 : i < k
    · rw [if_pos e2, if_pos (by omega)]
    · rw [if_neg e2, if_neg (by omega)]
theorem uf_all {w : World} {b : Nat} {rows : List ByteArray} {n : Nat} (h : w.rowIs b 5 rows.length (uf rows n rows.length)) (hn : n ≤ 8) (hr : rows.length ≤ 8) : RdB w.heap.size w (.slice (some ⟨b, 0, none⟩) rows.length rows.length) (mkU rows n) := by
  refine row_rd (mkU_len rows n) (by rw [mkU_len]; omega) (h.congr fun i hi => ?_)
  unfold uf
  rw [if_pos hi]
  unfold mkU vb
  rw [List.getD_eq_getElem?_getD (l := List.map _ _), List.getElem?_map, List.getElem?_range hi]
  simp only [Option.map_some, Option.getD_some, UInt8.toNat_ofNat']
  have h1 := rrN_lt (byt (rows.getD i ByteArray.empty)) n
  have h2 : 2 ^ n ≤ 2 ^ 8 := Nat.pow_le_pow_right (by decide) hn
  rw [Nat.mod_eq_of_lt (by omega)]

/-- What Make leaves. -/
def MkP (ns rows : List ByteArray) (w : World) (e : Ending) (w' : World) : Prop :=
  ∃ x, e = .returned (.tuple #[x, .int .i64 (mkV ns rows).1, .int .i64 (mkV ns rows).2.1]) ∧ RdL w'.heap.size w' x (mkV ns rows).2.2.1 (mkV ns rows).2.2.2 ∧ Below w.heap.size w w'
theorem mkP_zero {ns rows : List ByteArray} {w w' : World} {i e : Int} (h : mkV ns rows = (i, e, [], [])) (hb : Below w.heap.size w w') : MkP ns rows w (.returned (.tuple #[.agg #[.slice none 0 0, .slice none 0 0], .int .i64 i, .int .i64 e])) w' := by
  unfold MkP; rw [h]; exact ⟨_, rfl, rdl_nil _ _, hb⟩

end Go.Proofs.YtablaacddbkeiaaGreatDoor
