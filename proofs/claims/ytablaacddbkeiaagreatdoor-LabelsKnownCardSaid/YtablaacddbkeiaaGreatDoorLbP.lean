/- The reference: Chain, Least. -/
import Derived.Test.YtablaacddbkeiaaGreatDoorLbO
namespace Go.Proofs.YtablaacddbkeiaaGreatDoor
open Go.RowKit

theorem rd_cell {B b off n c : Nat} {W : World} {ls : List Nat} (h : RdN B W (.slice (some ⟨b, off, none⟩) n c) ls) (i : Nat) (hi : i < ls.length) : W.cell? ⟨b, off + i, none⟩ = some (vn ls[i]) := by
  obtain ⟨b', off', e, _, hx⟩ := h.at i hi
  cases e; exact hx
/-- What a region keeps that reads two places of a list. -/
def Kc (w : World) (vn vu lv : Value) (ns : List ByteArray) (up : List UInt8) (ls : List Nat) (p q : Addr) (x y : Nat) (W : World) : Prop :=
  Kl w vn vu lv ns up ls W ∧ W.cell? ⟨w.heap.size, 0, none⟩ = some vn ∧ W.cell? ⟨w.heap.size, 1, none⟩ = some vu ∧ W.cell? p = some (.int .i64 (x : Int)) ∧ W.cell? q = some (.int .i64 (y : Int))
section
variable {w : World} {vn vu : Value} {ns : List ByteArray} {up : List UInt8} {ls : List Nat} {b off c i k x y : Nat}
theorem kc5 {W : World} (h : Kl w vn vu (.slice (some ⟨b, off, none⟩) ls.length c) ns up ls W) (hi : i < ls.length) (hk : k < ls.length) (hx : ls[i] = x) (hy : ls[k] = y) :
    Kl w vn vu (.slice (some ⟨b, off, none⟩) ls.length c) ns up ls W ∧ W.cell? ⟨w.heap.size, 0, none⟩ = some vn ∧ W.cell? ⟨w.heap.size, 1, none⟩ = some vu ∧ W.cell? ⟨b, off + i, none⟩ = some (.int .i64 (x : Int)) ∧ W.cell? ⟨b, off + k, none⟩ = some (.int .i64 (y : Int)) :=
  ⟨h, h.1.x0, h.1.x1, by rw [← hx]; exact rd_cell h.2 i hi, by rw [← hy]; exact rd_cell h.2 k hk⟩
theorem kl_rd {lv : Value} {W : World} {p : Prop} (h : Kl w vn vu lv ns up ls W ∧ p) : RdL W.heap.size W (.agg #[vn, vu]) ns up := h.1.1.rd
theorem kl_next {lv : Value} {W W' : World} (h : Kl w vn vu lv ns up ls W) (hb : Below W.heap.size W W') : Kl w vn vu lv ns up ls W' := ⟨h.1.next hb, h.2.next hb⟩
theorem kc5n {W W' : World} {p : Prop} (h : Kl w vn vu (.slice (some ⟨b, off, none⟩) ls.length c) ns up ls W ∧ p) (hb : Below W.heap.size W W') (hi : i < ls.length) (hk : k < ls.length) (hx : ls[i] = x) (hy : ls[k] = y) :
    Kl w vn vu (.slice (some ⟨b, off, none⟩) ls.length c) ns up ls W' ∧ W'.cell? ⟨w.heap.size, 0, none⟩ = some vn ∧ W'.cell? ⟨w.heap.size, 1, none⟩ = some vu ∧ W'.cell? ⟨b, off + i, none⟩ = some (.int .i64 (x : Int)) ∧ W'.cell? ⟨b, off + k, none⟩ = some (.int .i64 (y : Int)) :=
  kc5 (kl_next h.1 hb) hi hk hx hy
theorem kc5d {W : World} (h : Kl w vn vu (.slice (some ⟨b, off, none⟩) ls.length c) ns up ls W) (hi : i < ls.length) (hk : k < ls.length) (hx : ls[i] = x) (hy : ls[k] = y) :
    Kl w vn vu (.slice (some ⟨b, off, none⟩) ls.length c) ns up ls W.drew ∧ W.drew.cell? ⟨w.heap.size, 0, none⟩ = some vn ∧ W.drew.cell? ⟨w.heap.size, 1, none⟩ = some vu ∧ W.drew.cell? ⟨b, off + i, none⟩ = some (.int .i64 (x : Int)) ∧ W.drew.cell? ⟨b, off + k, none⟩ = some (.int .i64 (y : Int)) :=
  kc5 (kl_next h (Below.refl _ _).drew) hi hk hx hy
end

/-- Whether two places of a list may be compared. -/
def cmI (up : List UInt8) (ls : List Nat) (i k : Nat) : Bool := le up (ls.getD i 0) (ls.getD k 0) || le up (ls.getD k 0) (ls.getD i 0)
def cmO (up : List UInt8) (ls : List Nat) (i : Nat) : Bool := (List.range i).all (cmI up ls i)
theorem cmI_get {up : List UInt8} {ls : List Nat} {i k : Nat} (hi : i < ls.length) (hk : k < ls.length) : cmI up ls i k = (le up ls[i] ls[k] || le up ls[k] ls[i]) := by
  unfold cmI; rw [List.getD_eq_getElem?_getD, List.getD_eq_getElem?_getD, List.getElem?_eq_getElem hi, List.getElem?_eq_getElem hk]; rfl
theorem cm_all {ns : List ByteArray} {up : List UInt8} {ls : List Nat} (hg : GL ns up ls) (h : (List.range ls.length).all (cmO up ls) = true) : chB up ls = true := by
  rw [chB_iff]
  have key : ∀ i k, i < ls.length → k < i → cmI up ls i k = true := fun i k hi hk =>
    List.all_eq_true.1 (List.all_eq_true.1 h i (List.mem_range.2 hi)) k (List.mem_range.2 hk)
  intro a ha b hb
  obtain ⟨i, hi, rfl⟩ := List.getElem_of_mem ha
  obtain ⟨k, hk, rfl⟩ := List.getElem_of_mem hb
  rcases Nat.lt_trichotomy i k with e | e | e
  · have := key k i hk e
    rw [cmI_get hk hi, Bool.or_eq_true] at this
    exact this
  · subst e; exact .inl (hg.good.ords.1.refl _ (hg.all _ ha))
  · have := key i k hi e
    rw [cmI_get hi hk, Bool.or_eq_true] at this
    exact this.symm
theorem cm_no {up : List UInt8} {ls : List Nat} {i k : Nat} (hi : i < ls.length) (hk : k < ls.length) (h : cmI up ls i k = false) : chB up ls = false := by
  rw [← Bool.not_eq_true, chB_iff]
  intro h2
  have h3 := h2 ls[i] (List.getElem_mem hi) ls[k] (List.getElem_mem hk)
  rw [cmI_get hi hk, Bool.or_eq_false_iff] at h
  rw [h.1, h.2] at h3
  rcases h3 with h3 | h3 <;> cases h3

end Go.Proofs.YtablaacddbkeiaaGreatDoor
