/- Arguments: how a slice of fields opens, and that it reads again as it read. -/
import Derived.Test.YtocmnobcccjenaaDoorLaid
import Derived.Test.YtocmnobcccjenaaDoorJoD
import Derived.Deep.SlicePairs
import Derived.ChangeSlices
import Derived.ChangeAt
import Derived.Carry
import Derived.Lib.SmallJoins
namespace Go.Proofs.YtocmnobcccjenaaDoor
open Go.ChangeShapes Go.WideShapes Go.ChangeAt Go.RowKit Go.Deep

/-- A nil slice has no capacity. -/
def NilC (v : Value) : Prop := ∀ n c, v = .slice none n c → c = 0
def strOf : Value → List UInt8 | .string s => byt s | _ => []
def boolOf : Value → Bool | .bool b => b | _ => false
theorem laidOut : laidOutB Tryd.prog = true := by kernel_rfl
theorem c9w : Tryd.prog.cellsOf 9 = 1 := by kernel_rfl
theorem c4w : Tryd.prog.cellsOf 4 = 1 := by kernel_rfl
theorem cFw : Tryd.prog.cellsOf 30 = 2 := by kernel_rfl
section
variable {H : Type} {enc : TypeId × Value → H}
theorem shut_any {t : TypeId} (hr : Tryd.prog.readableRec t = true) (hrow : t < Tryd.prog.types.size) {W : World} {v : Value} {d : DataW H} {p : List MemPlace} (h : DataW.Trod enc Tryd.prog W 0 (fun _ => true) true t v d p) :
    ∀ W', Below W.heap.size W W' → DataW.Trod enc Tryd.prog W' 0 (fun b => decide (b < W.heap.size)) true t v d p := by
  intro W' hb
  refine Below.trod laidOut hr hrow h hb ?_
  obtain ⟨n, hn⟩ := h
  exact DataW.trod_lt n _ _ _ hn
theorem read_fs {W : World} {n : Nat} {v : Value} {y : DataW H × List MemPlace} (hf : DataW.trod enc Tryd.prog W 0 (fun _ => true) true n 22 [v] = some y) :
    ∃ l : List Fd, FldB W.heap.size W v l ∧ NilC v := by
  rcases open_slice_pairs Tryd.underlying22 Tryd.underlying30 cFw rfl rfl c9w c4w hf with ⟨hcs, hx⟩ | ⟨a, len, cap, m, k, V0, V1, D0, D1, P0, P1, hcs, hba, hl, hm, hmm, hx, hall⟩
  · simp at hcs
    subst hcs
    exact ⟨[], ⟨Option.none, 0, rfl, Nat.le_refl _, fun h => absurd rfl h⟩, fun n c e => by cases e; rfl⟩
  · simp at hcs
    subst hcs
    simp only [if_true] at hmm
    have hval : ∀ i, i < m → V0 i = .string ⟨(strOf (V0 i)).toArray⟩ ∧ V1 i = .bool (boolOf (V1 i)) := fun i hi => by
      obtain ⟨_, _, h0, h1⟩ := hall i hi
      obtain ⟨s, hs, _, _⟩ := DataW.trod_string Tryd.underlying9 h0
      obtain ⟨b, hb, _⟩ := DataW.trod_bool Tryd.underlying4 h1
      injection hs with hs _
      injection hb with hb _
      rw [hs, hb]
      exact ⟨by show Value.string s = .string ⟨(byt s).toArray⟩; rw [mk_byt], rfl⟩
    obtain ⟨ab, ao, spot⟩ := a
    have hspot : 0 < m → spot = Option.none := fun h => by simpa [Addr.add] using World.cell?_spot (hall 0 h).1
    have hblk : 0 < m → ab < W.heap.size := fun h => by
      have hc := (hall 0 h).1
      rw [hspot h, Addr.add_lit] at hc
      exact block_lt_of_cell hc
    have hlen : ((List.range len).map fun i => (strOf (V0 i), boolOf (V1 i))).length = len := by simp
    refine ⟨(List.range len).map fun i => (strOf (V0 i), boolOf (V1 i)), ⟨some ⟨ab, ao, spot⟩, cap, by rw [hlen], by rw [hlen]; exact hl, fun hne => ?_⟩, fun n c e => by cases e⟩
    have hpos : 0 < len := by
      rcases Nat.eq_zero_or_pos len with h | h
      · subst h; simp at hne
      · exact h
    have hs := hspot (by omega)
    subst hs
    refine ⟨ab, ao, rfl, hblk (by omega), fun j hj => ?_⟩
    rw [hlen] at hj
    obtain ⟨h0, h1, _, _⟩ := hall j (by omega)
    obtain ⟨e0, e1⟩ := hval j (by omega)
    rw [Addr.add_lit] at h0 h1
    rw [e0] at h0
    rw [e1] at h1
    have hg : ((List.range len).map fun i => (strOf (V0 i), boolOf (V1 i)))[j]'(by rw [hlen]; exact hj) = (strOf (V0 j), boolOf (V1 j)) := by simp
    exact ⟨by rw [hg]; exact h0, by rw [hg]; exact h1⟩
set_option maxRecDepth 100000 in
theorem open_fs {W : World} {base : Nat} {v : Value} {d : DataW H} {p : List MemPlace} (hval : Value.okWide Tryd.prog W .any base 22 v) (h1 : DataW.Trod enc Tryd.prog W 0 (fun _ => true) true 22 v d p) :
    ∃ l, FldB W.heap.size W v l ∧ NilC v ∧ ∀ W', Below W.heap.size W W' → DataW.Trod enc Tryd.prog W' 0 (fun b => decide (b < W.heap.size)) true 22 v d p := by
  have hs := shut_any (by kernel_rfl) (of_decide_eq_true (by kernel_rfl)) h1
  obtain ⟨a1, len, cap, rfl⟩ := okWide_slice Tryd.underlying22 hval
  obtain ⟨fuel, hf⟩ := h1
  obtain ⟨l, hn, hc⟩ := read_fs (by simpa [Value.cells] using hf)
  exact ⟨l, hn, hc, hs⟩
end
end Go.Proofs.YtocmnobcccjenaaDoor
