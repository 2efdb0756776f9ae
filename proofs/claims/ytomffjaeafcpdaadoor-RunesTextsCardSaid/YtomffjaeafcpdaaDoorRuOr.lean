/- The law RunesOrder as a walk. -/
import Derived.Test.YtomffjaeafcpdaaDoorRuZ
import Derived.Test.YtomffjaeafcpdaaDoorRuJo
import Derived.Deep.DeepCutAuto
namespace Go.Proofs.YtomffjaeafcpdaaDoor
open Go.RowKit

theorem RdB.takeB {B : Nat} {w : World} {a : Option Addr} {n cap : Nat} {zs : List UInt8} (h : RdB B w (.slice a n cap) zs) (k : Nat) (hk : k ≤ zs.length) : RdB B w (.slice a k cap) (zs.take k) := by
  obtain ⟨a', cap', e, hc, hc2, hh⟩ := h
  cases e
  have hl : (zs.take k).length = k := by simp; omega
  refine ⟨a, cap, by rw [hl], by rw [hl]; omega, hc2, fun hne => ?_⟩
  obtain ⟨b, off, ha, hb, hcell⟩ := hh (by intro e; subst e; simp at hne)
  refine ⟨b, off, ha, hb, fun j hj => ?_⟩
  rw [hl] at hj
  rw [hcell j (by omega)]; simp
theorem RdB.dropB {B : Nat} {w : World} {a : Option Addr} {n cap : Nat} {zs : List UInt8} (h : RdB B w (.slice a n cap) zs) (k : Nat) (hk : k ≤ zs.length) : RdB B w (.slice (a.map fun x => x.add k) (n - k) (cap - k)) (zs.drop k) := by
  obtain ⟨a', cap', e, hc, hc2, hh⟩ := h
  cases e
  have hl : (zs.drop k).length = zs.length - k := by simp
  refine ⟨a.map fun x => x.add k, cap - k, by rw [hl], by rw [hl]; omega, by omega, fun hne => ?_⟩
  have hlt : k < zs.length := by
    rcases Nat.lt_or_ge k zs.length with h | h
    · exact h
    · exact absurd (List.drop_eq_nil_of_le h) hne
  obtain ⟨b, off, rfl, hb, hcell⟩ := hh (by intro e; subst e; simp at hlt)
  refine ⟨b, off + k, by simp [Addr.add], hb, fun j hj => ?_⟩
  rw [hl] at hj
  have := hcell (k + j) (by omega)
  rw [Nat.add_assoc, this]; simp
theorem RdB.dropEnd {B : Nat} {w : World} {a : Option Addr} {n k cap : Nat} {zs : List UInt8} (h : RdB B w (.slice a n cap) zs) (e : cap = k) (hk : k ≤ zs.length) : RdB B w (.slice a (n - k) 0) (zs.drop k) := by
  subst e
  obtain ⟨a', cap', e, hc, hc2, hh⟩ := h
  cases e
  have hn : zs.drop cap = [] := List.drop_eq_nil_of_le hc
  rw [hn]
  exact ⟨a, 0, by simp; omega, Nat.le_refl _, by omega, fun hne => absurd rfl hne⟩
theorem rns_le (l : List UInt8) : (rns l).length ≤ l.length := rns_len l
theorem at_small {b : List UInt8} (h : b.length ≤ 200) (k : Nat) : ats b k ≤ 201 := by
  have h1 := ats_le b k
  have h2 := rns_len b
  unfold sts at h1
  rw [List.length_cons, List.length_map] at h1
  omega
theorem at_facts {b : List UInt8} {k gl cl : Nat} {B : Nat} {w : World} (h : chkE b = 0) (hm : k ∈ sts b) (hl : RdI B w (.slice (some ⟨gl, 0, none⟩) (staV b).length cl) (staV b)) :
    (ats b k : Int) < ((staV b).length : Int) ∧ gl < B ∧ w.cell? ⟨gl, ats b k, none⟩ = some (.int .i64 (k : Int)) ∧ ats b (k + 1) = ats b k + 1 := by
  have hk := sta_at b h k hm
  obtain ⟨hlt, he⟩ := List.getElem?_eq_some_iff.1 hk
  obtain ⟨a, cap, e, hc, hh⟩ := hl
  cases e
  obtain ⟨g, off, ha, hg, hcell⟩ := hh (by intro e; rw [e] at hlt; simp at hlt)
  cases ha
  have := hcell (ats b k) hlt
  rw [he, Nat.zero_add] at this
  exact ⟨by omega, hg, this, (ats_mem b k hm).2⟩
end Go.Proofs.YtomffjaeafcpdaaDoor
