/- isStep, Covers. -/
import Derived.Test.YtablaacddbkeiaaGreatDoorLtH
import Derived.Laws.AppendOwnNone
import Derived.OwnWalk
namespace Go.Proofs.YtablaacddbkeiaaGreatDoor
open Go.RowKit

def st1 (up : List UInt8) (a b c : Nat) : Bool := !((c : Int) == (a : Int)) && !((c : Int) == (b : Int)) && le up a c && le up c b
def st (up : List UInt8) (a b : Nat) : Bool := !((a : Int) == (b : Int)) && le up a b && !(List.range up.length).any (st1 up a b)
theorem st1_f {up : List UInt8} {a b c : Nat} (h : ((c : Int) != (a : Int)) = false ∨ ((c : Int) != (b : Int)) = false ∨ le up a c = false ∨ le up c b = false) : st1 up a b c = false := by
  unfold st1
  rcases h with h | h | h | h
  · rw [show ((c : Int) == (a : Int)) = true by simpa [bne] using h]; rfl
  · rw [show ((c : Int) == (b : Int)) = true by simpa [bne] using h]; simp
  · rw [h]; simp
  · rw [h]; simp
theorem st1_t {up : List UInt8} {a b c : Nat} (h1 : ((c : Int) != (a : Int)) = true) (h2 : ((c : Int) != (b : Int)) = true) (h3 : le up a c = true) (h4 : le up c b = true) : st1 up a b c = true := by
  unfold st1
  rw [show ((c : Int) == (a : Int)) = false by simpa [bne] using h1, show ((c : Int) == (b : Int)) = false by simpa [bne] using h2, h3, h4]; rfl

/-! Pairs. -/
def pv (x : Nat × Nat) : List Value := [.int .i64 (x.1 : Int), .int .i64 (x.2 : Int)]
def covR (up : List UInt8) (a k : Nat) : List (Nat × Nat) := ((List.range k).filter (st up a)).map fun b => (a, b)
def cov (up : List UInt8) (k : Nat) : List (Nat × Nat) := (List.range k).flatMap fun a => covR up a up.length
theorem covR_yes {up : List UInt8} {a k : Nat} (h : st up a k = true) : covR up a (k + 1) = covR up a k ++ [(a, k)] := by
  unfold covR; rw [List.range_succ, List.filter_append]; simp [h]
theorem covR_no {up : List UInt8} {a k : Nat} (h : st up a k = false) : covR up a (k + 1) = covR up a k := by
  unfold covR; rw [List.range_succ, List.filter_append]; simp [h]
theorem covR_len (up : List UInt8) (a k : Nat) : (covR up a k).length ≤ k := by
  unfold covR; rw [List.length_map]
  have := List.length_filter_le (st up a) (List.range k)
  rwa [List.length_range] at this
theorem cov_succ (up : List UInt8) (k : Nat) : cov up (k + 1) = cov up k ++ covR up k up.length := by
  unfold cov; rw [List.range_succ, List.flatMap_append]; simp
theorem cov_len (up : List UInt8) (k : Nat) : (cov up k).length ≤ k * up.length := by
  induction k with
  | zero => simp [cov]
  | succ k ih =>
    rw [cov_succ, List.length_append, Nat.add_mul]
    have := covR_len up k up.length
    omega

/-- Pairs that can be read. -/
def RdP (B : Nat) (w : World) (v : Value) (l : List (Nat × Nat)) : Prop :=
  ∃ a cap, v = .slice a l.length cap ∧ l.length ≤ cap ∧ (l ≠ [] → ∃ b off, a = some ⟨b, off, none⟩ ∧ b < B ∧ ∀ j (h : j < l.length), w.cell? ⟨b, off + j * 2, none⟩ = some (.int .i64 (l[j].1 : Int)) ∧ w.cell? ⟨b, off + j * 2 + 1, none⟩ = some (.int .i64 (l[j].2 : Int)))
theorem RdP.next {w w' : World} {v : Value} {l : List (Nat × Nat)} (h : RdP w.heap.size w v l) (hb : Below w.heap.size w w') : RdP w'.heap.size w' v l := by
  obtain ⟨a, cap, hv, hc, h⟩ := h
  refine ⟨a, cap, hv, hc, fun hn => ?_⟩
  obtain ⟨b, off, ha, hlt, hcell⟩ := h hn
  exact ⟨b, off, ha, Nat.lt_of_lt_of_le hlt hb.size, fun j hj => ⟨(hb.cell (p := ⟨b, off + j * 2, none⟩) hlt).trans (hcell j hj).1, (hb.cell (p := ⟨b, off + j * 2 + 1, none⟩) hlt).trans (hcell j hj).2⟩⟩
theorem flat_at (l : List (Nat × Nat)) : ∀ (j : Nat) (h : j < l.length), (l.flatMap pv)[j * 2]? = some (.int .i64 (l[j].1 : Int)) ∧ (l.flatMap pv)[j * 2 + 1]? = some (.int .i64 (l[j].2 : Int)) := by
  induction l with
  | nil => intro j h; simp at h
  | cons f r ih =>
    intro j h
    cases j with
    | zero => exact ⟨rfl, rfl⟩
    | succ j =>
      have := ih j (by simpa using h)
      rw [show (j + 1) * 2 = j * 2 + 1 + 1 from by omega]
      exact this
/-- What stands at the head of a new block. -/
theorem cells_new (w : World) (cs : Array Value) (t : TypeId) (z : Nat × Nat) : ∀ j u, cs.toList[j]? = some u → (w.alloc (.cells cs t z)).cell? ((⟨w.heap.size, 0, none⟩ : Addr).add j) = some u := by
  intro j u h
  have e : (⟨w.heap.size, 0, none⟩ : Addr).add j = ⟨w.heap.size, j, none⟩ := by simp [Addr.add]; intro h; exact h.symm
  rw [e]
  have h2 : (w.alloc (.cells cs t z)).heap[w.heap.size]? = some (.cells cs t z) := heap_new w _
  rw [cell_of_block h2 j]
  simpa using h

end Go.Proofs.YtablaacddbkeiaaGreatDoor
