/- Arguments that are slices: how they open, and that they read again as they read. -/
import Derived.Test.YtomffjaeafcpdaaDoorRuY
import Derived.OpenShut
import Derived.ChangeSlices
import Derived.ProofKit
import Derived.ChangeAt
namespace Go.Proofs.YtomffjaeafcpdaaDoor
open Go.ChangeShapes Go.WideShapes Go.ChangeAt Go.RowKit

theorem cell5 : Tryd.prog.cellsOf 5 = 1 := by kernel_rfl
theorem cell2 : Tryd.prog.cellsOf 2 = 1 := by kernel_rfl

section
variable {H : Type} {enc : TypeId × Value → H}

theorem open_bs {W : World} {base : Nat} {v : Value} {d : DataW H} {p : List MemPlace} (hval : Value.okWide Tryd.prog W .any base 22 v) (h1 : DataW.Trod enc Tryd.prog W 0 (fun _ => true) true 22 v d p) :
    ∃ l : List UInt8, RdB W.heap.size W v l ∧ NilC v ∧ ∀ W', Below W.heap.size W W' → DataW.Trod enc Tryd.prog W' 0 (fun b => decide (b < W.heap.size)) true 22 v d p := by
  obtain ⟨a1, len, cap, rfl⟩ := okWide_slice Tryd.underlying22 hval
  obtain ⟨fuel, hf⟩ := h1
  rcases open_ints Tryd.underlying22 Tryd.underlying5 cell5 hf with ⟨hcs, hx⟩ | ⟨a, len', cap', zs, hcs, hba, hl, hm, hz, hx, hcell, hwz⟩
  · simp [Value.cells] at hcs
    obtain ⟨rfl, rfl, rfl⟩ := hcs
    simp only [Prod.mk.injEq] at hx
    obtain ⟨rfl, rfl⟩ := hx
    refine ⟨[], ⟨none, 0, rfl, Nat.le_refl _, by omega, fun h => absurd rfl h⟩, fun n c e => (by cases e; rfl), fun W' _ => ⟨2, ?_⟩⟩
    simp [DataW.trod, Tryd.underlying22, Value.cells]
  · simp [Value.cells] at hcs
    obtain ⟨rfl, rfl, rfl⟩ := hcs
    simp only [Prod.mk.injEq] at hx
    obtain ⟨rfl, rfl⟩ := hx
    simp only [if_true] at hz
    have hlen : ((zs.take len).map fun n => UInt8.ofNat n.toNat).length = len := by simp; omega
    obtain ⟨ab, ao, spot⟩ := a
    have hspot : 0 < zs.length → spot = none := fun h => by simpa [Addr.add] using World.cell?_spot (hcell 0 h)
    have hblk : 0 < zs.length → ab < W.heap.size := fun h => by
      have hc := hcell 0 h
      rw [hspot h, Addr.add_lit] at hc
      exact block_lt_of_cell hc
    refine ⟨(zs.take len).map fun n => UInt8.ofNat n.toNat, ⟨some ⟨ab, ao, spot⟩, cap, by rw [hlen], by rw [hlen]; exact hl, by unfold maxLen at hm; omega, fun hne => ?_⟩, fun n c e => (by cases e), fun W' hb => ⟨2, ?_⟩⟩
    · have hpos : 0 < len := by
        rcases Nat.eq_zero_or_pos len with h | h
        · subst h; simp at hne
        · exact h
      have hs := hspot (by omega)
      subst hs
      refine ⟨ab, ao, rfl, hblk (by omega), fun j hj => ?_⟩
      rw [hlen] at hj
      have hcj := hcell j (by omega)
      rw [Addr.add_lit] at hcj
      rw [hcj]
      have hr := range_u8 hwz j
      have e : zs[j]?.getD 0 = zs[j]'(by omega) := by simp [List.getElem?_eq_getElem (show j < zs.length by omega)]
      rw [e] at hr
      simp only [List.getElem_map, List.getElem_take]
      rw [List.getD_eq_getElem?_getD, e]
      congr 2
      simp only [UInt8.toNat_ofNat']
      omega
    · refine shut_ints (a := ⟨ab, ao, spot⟩) 0 Tryd.underlying22 Tryd.underlying5 cell5 hba hl hm (by
        rcases Nat.eq_zero_or_pos zs.length with h | h
        · split <;> omega
        · simp [hblk h, hz]) (fun i hi => ?_) hwz
      have hs := hspot (by omega)
      subst hs
      have hci := hcell i hi
      rw [Addr.add_lit] at hci ⊢
      exact (hb.cell (p := ⟨ab, ao + i, none⟩) (hblk (by omega))).trans hci

theorem open_is {W : World} {base : Nat} {v : Value} {d : DataW H} {p : List MemPlace} (hval : Value.okWide Tryd.prog W .any base 32 v) (h1 : DataW.Trod enc Tryd.prog W 0 (fun _ => true) true 32 v d p) :
    ∃ l : List Int, RdI W.heap.size W v l ∧ NilC v ∧ (∀ z ∈ l, -9223372036854775808 ≤ z ∧ z ≤ 9223372036854775807) ∧ ∀ W', Below W.heap.size W W' → DataW.Trod enc Tryd.prog W' 0 (fun b => decide (b < W.heap.size)) true 32 v d p := by
  obtain ⟨a1, len, cap, rfl⟩ := okWide_slice Tryd.underlying32 hval
  obtain ⟨fuel, hf⟩ := h1
  rcases open_ints Tryd.underlying32 Tryd.underlying2 cell2 hf with ⟨hcs, hx⟩ | ⟨a, len', cap', zs, hcs, hba, hl, hm, hz, hx, hcell, hwz⟩
  · simp [Value.cells] at hcs
    obtain ⟨rfl, rfl, rfl⟩ := hcs
    simp only [Prod.mk.injEq] at hx
    obtain ⟨rfl, rfl⟩ := hx
    refine ⟨[], ⟨none, 0, rfl, Nat.le_refl _, fun h => absurd rfl h⟩, fun n c e => (by cases e; rfl), by simp, fun W' _ => ⟨2, ?_⟩⟩
    simp [DataW.trod, Tryd.underlying32, Value.cells]
  · simp [Value.cells] at hcs
    obtain ⟨rfl, rfl, rfl⟩ := hcs
    simp only [Prod.mk.injEq] at hx
    obtain ⟨rfl, rfl⟩ := hx
    simp only [if_true] at hz
    have hlen : (zs.take len).length = len := by simp; omega
    obtain ⟨ab, ao, spot⟩ := a
    have hspot : 0 < zs.length → spot = none := fun h => by simpa [Addr.add] using World.cell?_spot (hcell 0 h)
    have hblk : 0 < zs.length → ab < W.heap.size := fun h => by
      have hc := hcell 0 h
      rw [hspot h, Addr.add_lit] at hc
      exact block_lt_of_cell hc
    refine ⟨zs.take len, ⟨some ⟨ab, ao, spot⟩, cap, by rw [hlen], by rw [hlen]; exact hl, fun hne => ?_⟩, fun n c e => (by cases e), fun z hz' => ?_, fun W' hb => ⟨2, ?_⟩⟩
    · have hpos : 0 < len := by
        rcases Nat.eq_zero_or_pos len with h | h
        · subst h; simp at hne
        · exact h
      have hs := hspot (by omega)
      subst hs
      refine ⟨ab, ao, rfl, hblk (by omega), fun j hj => ?_⟩
      rw [hlen] at hj
      have hcj := hcell j (by omega)
      rw [Addr.add_lit] at hcj
      rw [hcj]
      have e : zs[j]?.getD 0 = zs[j]'(by omega) := by simp [List.getElem?_eq_getElem (show j < zs.length by omega)]
      rw [List.getD_eq_getElem?_getD, e, List.getElem_take]
    · have := hwz z (List.mem_of_mem_take hz')
      simp only [Lit.wf, Bool.and_eq_true, decide_eq_true_eq] at this
      exact ⟨this.1, this.2⟩
    · refine shut_ints (a := ⟨ab, ao, spot⟩) 0 Tryd.underlying32 Tryd.underlying2 cell2 hba hl hm (by
        rcases Nat.eq_zero_or_pos zs.length with h | h
        · split <;> omega
        · simp [hblk h, hz]) (fun i hi => ?_) hwz
      have hs := hspot (by omega)
      subst hs
      have hci := hcell i hi
      rw [Addr.add_lit] at hci ⊢
      exact (hb.cell (p := ⟨ab, ao + i, none⟩) (hblk (by omega))).trans hci
end
end Go.Proofs.YtomffjaeafcpdaaDoor
