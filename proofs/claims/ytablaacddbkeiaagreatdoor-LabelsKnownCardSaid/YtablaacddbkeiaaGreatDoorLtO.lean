/- Arguments: how a lattice and a list of strings open, and that they read again as they read. -/
import Derived.Test.YtablaacddbkeiaaGreatDoorLtP
import Derived.OpenShut
import Derived.ChangeSlices
import Derived.ProofKit
import Derived.ChangeAt
import Derived.SliceStrings
import Derived.Carry
import Derived.Lib.SmallJoins
import Derived.Deep.DeepHandedRow
import Derived.Deep.DeepWitnessRowRef
namespace Go.Proofs.YtablaacddbkeiaaGreatDoor
open Go.ChangeShapes Go.WideShapes Go.ChangeAt Go.RowKit Go.Joins

theorem own : ownKnob Tryz.prog.godebug = Option.none := by kernel_rfl
theorem laidOut : laidOutB Tryz.prog = true := by kernel_rfl
theorem c5w : Tryz.prog.cellsOf 5 = 1 := by kernel_rfl
theorem c9w : Tryz.prog.cellsOf 9 = 1 := by kernel_rfl
theorem c25w : Tryz.prog.cellsOf 25 = 2 := by kernel_rfl

section
variable {H : Type} {enc : TypeId × Value → H}

theorem read_bs {W : World} {n : Nat} {v : Value} {y : DataW H × List MemPlace} (hf : DataW.trod enc Tryz.prog W 0 (fun _ => true) true n 23 [v] = some y) :
    ∃ l : List UInt8, RdB W.heap.size W v l := by
  rcases open_ints Tryz.underlying23 Tryz.underlying5 c5w hf with ⟨hcs, hx⟩ | ⟨a, len, cap, zs, hcs, hba, hl, hm, hz, hx, hcell, hwz⟩
  · simp at hcs
    subst hcs
    exact ⟨[], Option.none, 0, rfl, Nat.le_refl _, by omega, fun h => absurd rfl h⟩
  · simp at hcs
    subst hcs
    simp only [if_true] at hz
    have hlen : ((zs.take len).map fun n => UInt8.ofNat n.toNat).length = len := by simp; omega
    obtain ⟨ab, ao, spot⟩ := a
    have hspot : 0 < zs.length → spot = Option.none := fun h => by simpa [Addr.add] using World.cell?_spot (hcell 0 h)
    have hblk : 0 < zs.length → ab < W.heap.size := fun h => by
      have hc := hcell 0 h
      rw [hspot h, Addr.add_lit] at hc
      exact block_lt_of_cell hc
    refine ⟨(zs.take len).map fun n => UInt8.ofNat n.toNat, some ⟨ab, ao, spot⟩, cap, by rw [hlen], by rw [hlen]; exact hl, by unfold maxLen at hm; omega, fun hne => ?_⟩
    have hpos : 0 < len := by
      rcases Nat.eq_zero_or_pos len with h | h
      · subst h; simp at hne
      · exact h
    have hs := hspot (by omega)
    subst hs
    refine ⟨ab, ao, rfl, hblk (by omega), fun j hj => ?_⟩
    rw [hlen] at hj
    have hcj := hcell j (by omega)
    rw [Addr.add_lit] at hcj
    rw [hcj]
    have hr := range_u8 hwz j
    have e : zs[j]?.getD 0 = zs[j]'(by omega) := by simp [List.getElem?_eq_getElem (show j < zs.length by omega)]
    rw [e] at hr
    simp only [List.getElem_map, List.getElem_take, vb]
    rw [List.getD_eq_getElem?_getD, e]
    congr 2
    simp only [UInt8.toNat_ofNat']
    omega

theorem read_ss {W : World} {n : Nat} {v : Value} {y : DataW H × List MemPlace} (hf : DataW.trod enc Tryz.prog W 0 (fun _ => true) true n 22 [v] = some y) :
    ∃ l : List ByteArray, RdS W.heap.size W v l ∧ ∀ s ∈ l, s.size ≤ 9223372036854775807 := by
  rcases open_strings Tryz.underlying22 Tryz.underlying9 c9w hf with ⟨hcs, hx⟩ | ⟨a, len, cap, ss, hcs, hba, hl, hm, hz, hx, hcell, hws⟩
  · simp at hcs
    subst hcs
    exact ⟨[], ⟨Option.none, 0, rfl, Nat.le_refl _, by omega, fun h => absurd rfl h⟩, by simp⟩
  · simp at hcs
    subst hcs
    simp only [if_true] at hz
    have hlen : (ss.take len).length = len := by simp; omega
    obtain ⟨ab, ao, spot⟩ := a
    have hspot : 0 < ss.length → spot = Option.none := fun h => by simpa [Addr.add] using World.cell?_spot (hcell 0 h)
    have hblk : 0 < ss.length → ab < W.heap.size := fun h => by
      have hc := hcell 0 h
      rw [hspot h, Addr.add_lit] at hc
      exact block_lt_of_cell hc
    refine ⟨ss.take len, ⟨some ⟨ab, ao, spot⟩, cap, by rw [hlen], by rw [hlen]; exact hl, by unfold maxLen at hm; omega, fun hne => ?_⟩, fun s hs => ?_⟩
    · have hpos : 0 < len := by
        rcases Nat.eq_zero_or_pos len with h | h
        · subst h; simp at hne
        · exact h
      have hs := hspot (by omega)
      subst hs
      refine ⟨ab, ao, rfl, hblk (by omega), fun j hj => ?_⟩
      rw [hlen] at hj
      have hcj := hcell j (by omega)
      rw [Addr.add_lit] at hcj
      rw [hcj]
      have e : ss[j]?.getD ByteArray.empty = ss[j]'(by omega) := by simp [List.getElem?_eq_getElem (show j < ss.length by omega)]
      rw [List.getD_eq_getElem?_getD, e, List.getElem_take]
    · have := hws s (List.mem_of_mem_take hs)
      unfold maxLen at this
      omega

theorem shut_any {t : TypeId} (hr : Tryz.prog.readableRec t = true) (hrow : t < Tryz.prog.types.size) {W : World} {v : Value} {d : DataW H} {p : List MemPlace} (h : DataW.Trod enc Tryz.prog W 0 (fun _ => true) true t v d p) :
    ∀ W', Below W.heap.size W W' → DataW.Trod enc Tryz.prog W' 0 (fun b => decide (b < W.heap.size)) true t v d p := by
  intro W' hb
  refine Below.trod laidOut hr hrow h hb ?_
  obtain ⟨n, hn⟩ := h
  exact DataW.trod_lt n _ _ _ hn

set_option maxRecDepth 100000 in
theorem open_lat {W : World} {base : Nat} {v : Value} {d : DataW H} {p : List MemPlace} (hval : Value.okWide Tryz.prog W .any base 25 v) (h1 : DataW.Trod enc Tryz.prog W 0 (fun _ => true) true 25 v d p) :
    ∃ ns up, RdL W.heap.size W v ns up ∧ ∀ W', Below W.heap.size W W' → DataW.Trod enc Tryz.prog W' 0 (fun b => decide (b < W.heap.size)) true 25 v d p := by
  have hs := shut_any (by kernel_rfl) (of_decide_eq_true (by kernel_rfl)) h1
  obtain ⟨c0, c1, y0, y1, m, rfl, rfl, rfl, hy0, hy1⟩ := open_agg2 Tryz.underlying25 (by kernel_rfl) c25w hval h1
  obtain ⟨ns, hn, hz⟩ := read_ss hy0
  obtain ⟨up, hu⟩ := read_bs hy1
  exact ⟨ns, up, ⟨⟨_, _, rfl, hn, hu⟩, hz⟩, hs⟩
set_option maxRecDepth 100000 in
theorem open_ss {W : World} {base : Nat} {v : Value} {d : DataW H} {p : List MemPlace} (hval : Value.okWide Tryz.prog W .any base 22 v) (h1 : DataW.Trod enc Tryz.prog W 0 (fun _ => true) true 22 v d p) :
    ∃ ns, (RdS W.heap.size W v ns ∧ ∀ s ∈ ns, s.size ≤ 9223372036854775807) ∧ ∀ W', Below W.heap.size W W' → DataW.Trod enc Tryz.prog W' 0 (fun b => decide (b < W.heap.size)) true 22 v d p := by
  have hs := shut_any (by kernel_rfl) (of_decide_eq_true (by kernel_rfl)) h1
  obtain ⟨a1, len, cap, rfl⟩ := okWide_slice Tryz.underlying22 hval
  obtain ⟨fuel, hf⟩ := h1
  obtain ⟨ns, hn⟩ := read_ss (by simpa [Value.cells] using hf)
  exact ⟨ns, hn, hs⟩
end

theorem laid_nil (W : World) : laidMetH Tryz.prog [] W := ⟨[], rfl, List.nodup_nil, fun _ _ h => by cases h⟩
/-- A world for the witness. -/
noncomputable def laidWorld (os : Os) : World := World.holding Tryz.prog os ⟨#[], #[], []⟩
theorem laid_vars (os : Os) (args : Array Value) : ((laidWorld os).forCall (fun _ _ => 0) ⟨#[], args, []⟩).variablesRefB Tryz.prog = true := by kernel_rfl
theorem laid_heap (os : Os) (args : Array Value) : ((((laidWorld os).forCall (fun _ _ => 0) ⟨#[], args, []⟩).heap.toList.drop Tryz.prog.globals.size).take ((begin Tryz.prog (fun _ _ => 0) default).world.heap.size - Tryz.prog.globals.size)) =
      (begin Tryz.prog (fun _ _ => 0) default).world.heap.toList.drop Tryz.prog.globals.size := by kernel_rfl
end Go.Proofs.YtablaacddbkeiaaGreatDoor
