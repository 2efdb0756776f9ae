/- The reference: Least. -/
import Derived.Test.YtablaacddbkeiaaGreatDoorLbP
namespace Go.Proofs.YtablaacddbkeiaaGreatDoor
open Go.RowKit

/-- Whether the k-th one is not below the i-th one, or is it. -/
def lsI (up : List UInt8) (ls : List Nat) (i k : Nat) : Bool := decide (ls.getD k 0 = ls.getD i 0) || !le up (ls.getD k 0) (ls.getD i 0)
theorem lsI_get {up : List UInt8} {ls : List Nat} {i k : Nat} (hi : i < ls.length) (hk : k < ls.length) : lsI up ls i k = (decide (ls[k] = ls[i]) || !le up ls[k] ls[i]) := by
  unfold lsI; rw [List.getD_eq_getElem?_getD, List.getD_eq_getElem?_getD, List.getElem?_eq_getElem hi, List.getElem?_eq_getElem hk]; rfl
theorem ls_leB {up : List UInt8} {ls : List Nat} {i : Nat} (hi : i < ls.length) : leB up ls ls[i] = (List.range ls.length).all (lsI up ls i) := by
  rw [Bool.eq_iff_iff, leB_iff, List.all_eq_true]
  constructor
  · rintro ⟨_, h⟩ k hk
    rw [List.mem_range] at hk
    rw [lsI_get hi hk]
    rcases h ls[k] (List.getElem_mem hk) with e | e
    · rw [decide_eq_true e]; rfl
    · rw [e]; simp
  · intro h
    refine ⟨List.getElem_mem hi, fun b hb => ?_⟩
    obtain ⟨k, hk, rfl⟩ := List.getElem_of_mem hb
    have := h k (List.mem_range.2 hk)
    rw [lsI_get hi hk, Bool.or_eq_true, decide_eq_true_iff] at this
    rcases this with e | e
    · exact .inl e
    · exact .inr (by simpa using e)
/-- The least ones among the first k, in the order of the list. -/
def loF (up : List UInt8) (ls : List Nat) (k : Nat) : List Nat := (ls.take k).filter (leB up ls)
theorem loF_yes {up : List UInt8} {ls : List Nat} {k : Nat} (h : k < ls.length) (hb : leB up ls ls[k] = true) : loF up ls (k + 1) = loF up ls k ++ [ls[k]] := by
  unfold loF; rw [List.take_succ_eq_append_getElem h, List.filter_append, List.filter_cons, if_pos hb, List.filter_nil]
theorem loF_no {up : List UInt8} {ls : List Nat} {k : Nat} (h : k < ls.length) (hb : leB up ls ls[k] = false) : loF up ls (k + 1) = loF up ls k := by
  unfold loF; rw [List.take_succ_eq_append_getElem h, List.filter_append, List.filter_cons, if_neg (by rw [hb]; decide), List.filter_nil, List.append_nil]
theorem loF_len (up : List UInt8) (ls : List Nat) (k : Nat) : (loF up ls k).length ≤ k := by
  unfold loF
  exact Nat.le_trans (List.length_filter_le _ _) (List.length_take_le _ _)
theorem loF_srt (up : List UInt8) (ls : List Nat) : srt up (fun b => decide (b ∈ loF up ls ls.length)) = srt up (leB up ls) :=
  srt_congr up fun a _ => by
    unfold loF
    rw [List.take_of_length_le (Nat.le_refl _), Bool.eq_iff_iff, decide_eq_true_iff, List.mem_filter]
    exact ⟨fun h => h.2, fun h => ⟨(leB_iff.1 h).1, h⟩⟩
theorem fl_keep {f : Bool} {k : Nat} {p : Nat → Bool} (h : f = (List.range k).all p) (h2 : p k = true) : f = (List.range (k + 1)).all p := by
  rw [List.range_succ, List.all_append, ← h]; simp [h2]
theorem fl_drop {k : Nat} {p : Nat → Bool} (h2 : p k = false) : false = (List.range (k + 1)).all p := by
  rw [List.range_succ, List.all_append]; simp [h2]
theorem ko_n {w W W' : World} {vn vu V : Value} {ns : List ByteArray} {up : List UInt8} {ls L : List Nat} {b off c i k x y base : Nat} {p : Prop} (h : (Kl w vn vu (.slice (some ⟨b, off, none⟩) ls.length c) ns up ls W ∧ p) ∧ Own base W V L) (hb : Below W.heap.size W W') (hi : i < ls.length) (hk : k < ls.length) (hx : ls[i] = x) (hy : ls[k] = y) :
    (Kl w vn vu (.slice (some ⟨b, off, none⟩) ls.length c) ns up ls W' ∧ W'.cell? ⟨w.heap.size, 0, none⟩ = some vn ∧ W'.cell? ⟨w.heap.size, 1, none⟩ = some vu ∧ W'.cell? ⟨b, off + i, none⟩ = some (.int .i64 (x : Int)) ∧ W'.cell? ⟨b, off + k, none⟩ = some (.int .i64 (y : Int))) ∧ Own base W' V L :=
  ⟨kc5n h.1 hb hi hk hx hy, h.2.bel hb⟩
theorem kl_rd2 {w W : World} {vn vu lv : Value} {ns : List ByteArray} {up : List UInt8} {ls : List Nat} {p q : Prop} (h : (Kl w vn vu lv ns up ls W ∧ p) ∧ q) : RdL W.heap.size W (.agg #[vn, vu]) ns up := h.1.1.1.rd
theorem kl_up {w wr w' : World} {vn vu lv : Value} {ns : List ByteArray} {up : List UInt8} {ls : List Nat} (h : Kl w vn vu lv ns up ls wr) (hb : Below (w.heap.size + 1) wr w') (hr : RdL w.heap.size w (.agg #[vn, vu]) ns up) (hz : RdN w.heap.size w lv ls) : Kl w vn vu lv ns up ls w' :=
  ⟨bx_up h.1 hb hr, hz.next (bx_up h.1 hb hr).bel⟩
theorem lt_kl {w W : World} {vn vu lv : Value} {ns : List ByteArray} {up : List UInt8} {ls : List Nat} (h : Kl w vn vu lv ns up ls W) : w.heap.size < W.heap.size := h.1.lt

end Go.Proofs.YtablaacddbkeiaaGreatDoor
