/- Print. -/
import Derived.Test.YtablaacddbkeiaaGreatDoorLtX
import Derived.Test.YtablaacddbkeiaaGreatDoorLtY
namespace Go.Proofs.YtablaacddbkeiaaGreatDoor
open Go.RowKit

theorem own_below {w w' : World} {base : Nat} {e : TypeId} {size : Nat} {v : Value} {n : Nat} {xs : List Value} (h : w.ownsRow base e size v n xs) (hb : Below w.heap.size w w') : w'.ownsRow base e size v n xs := by
  obtain ⟨h1, h2⟩ := h
  refine ⟨h1, ?_⟩
  rcases h2 with h2 | ⟨g, cap, cur, hv, hg, hh, r⟩
  · exact .inl h2
  · exact .inr ⟨g, cap, cur, hv, hg, by rw [hb.block g (Array.getElem?_eq_some_iff.1 hh).1]; exact hh, r⟩
theorem at_below {B b : Nat} {p : Value} {bs : List Value} {w w' : World} (h : Lib.BuilderAt 67 5 B b p bs w) (hb : Below w.heap.size w w') : Lib.BuilderAt 67 5 B b p bs w' := by
  obtain ⟨hB, v, hbk, hown, hne⟩ := h
  exact ⟨hB, v, by rw [hb.block b (Array.getElem?_eq_some_iff.1 hbk).1]; exact hbk, own_below hown hb, hne⟩
theorem bu_below {B b : Nat} {l : List UInt8} {w w' : World} (h : IsBu B b l w) (hb : Below w.heap.size w w') : IsBu B b l w' := by
  rcases h with h | h
  · exact .inl (at_below h hb)
  · exact .inr (at_below h hb)
theorem bu_new (w : World) : IsBu w.heap.size w.heap.size [] (w.alloc (.cells #[.pointer none, .slice none 0 0] 67)) :=
  .inl ⟨Nat.le_refl _, .slice none 0 0, heap_new _ _, World.ownsRow_nil _ _ _ _, by simp [Value.ownBlock]⟩

/-- A line of the text. -/
def lnB (ns : List ByteArray) (up : List UInt8) (i : Nat) : List UInt8 := byt (ns.getD i ByteArray.empty) ++ [32] ++ rowB up i ++ [10]
def prL (ns : List ByteArray) (up : List UInt8) (k : Nat) : List UInt8 := (List.range k).flatMap (lnB ns up)
theorem prL_succ (ns : List ByteArray) (up : List UInt8) (k : Nat) : prL ns up (k + 1) = prL ns up k ++ lnB ns up k := by
  unfold prL; rw [List.range_succ, List.flatMap_append]; simp
theorem getD_get {ns : List ByteArray} {i : Nat} (h : i < ns.length) : ns.getD i ByteArray.empty = ns[i] := by
  rw [List.getD_eq_getElem?_getD, List.getElem?_eq_getElem h]; rfl
theorem fs_none {α : Type} {f : Nat → Option α} {n : Nat} (h : (List.range n).findSome? f = none) : ∀ i, i < n → f i = none := by
  intro i hi
  exact List.findSome?_eq_none_iff.1 h i (List.mem_range.2 hi)
theorem Good.name {ns : List ByteArray} {up : List UInt8} (h : Good ns up) (i : Nat) (hi : i < ns.length) : nameB (byt ns[i]) = true := by
  have := fs_none h.nms i (by rw [List.length_map]; exact hi)
  unfold nm1 at this
  rw [get_map ns i hi] at this
  cases e : nameB (byt ns[i])
  · rw [e] at this; simp at this
  · rfl
theorem name16 {l : List UInt8} (h : nameB l = true) : l.length ≤ 16 := by
  unfold nameB at h
  simp only [Bool.and_eq_true, decide_eq_true_eq] at h
  exact h.1.1.2
theorem lnB_len {ns : List ByteArray} {up : List UInt8} (h : Good ns up) (i : Nat) (hi : i < ns.length) : (lnB ns up i).length ≤ 26 := by
  have := name16 (h.name i hi)
  have := h.len
  have := h.most
  unfold lnB
  rw [getD_get hi]
  simp only [List.length_append, List.length_cons, List.length_nil, rowB_len]
  omega
theorem prL_len {ns : List ByteArray} {up : List UInt8} (h : Good ns up) (k : Nat) (hk : k ≤ ns.length) : (prL ns up k).length ≤ k * 26 := by
  induction k with
  | zero => simp [prL]
  | succ k ih =>
    rw [prL_succ, List.length_append]
    have := lnB_len h k (by omega)
    have := ih (by omega)
    omega

end Go.Proofs.YtablaacddbkeiaaGreatDoor
