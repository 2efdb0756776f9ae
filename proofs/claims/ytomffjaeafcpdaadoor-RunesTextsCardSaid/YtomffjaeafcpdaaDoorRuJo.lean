/- The law RunesJoins as a walk. -/
import Derived.Test.YtomffjaeafcpdaaDoorRuS
import Derived.Test.YtomffjaeafcpdaaDoorRuY
import Derived.Test.YtomffjaeafcpdaaDoorRuX
namespace Go.Proofs.YtomffjaeafcpdaaDoor
open Go.RowKit

theorem joins_pure (a b : List UInt8) (ha : chkE a = 0) (hb : chkE b = 0) (hl : a.length + b.length ≤ 8000) :
    chkE (a ++ b) = 0 ∧ runV (a ++ b) = runV a ++ runV b ∧ (staV (a ++ b)).take (staV a).length = staV a ∧ (staV a).length ≤ (staV (a ++ b)).length := by
  have hab := chk_app a b ha hb hl
  obtain ⟨h1, _⟩ := rns_app a b ((chkE_ok a).1 ha).2
  have hst : ∃ r, staV (a ++ b) = staV a ++ r := by
    unfold staV sts
    rw [if_pos hab, if_pos ha, h1]
    exact ⟨_, by rw [List.map_append, ← List.cons_append, List.map_append]⟩
  obtain ⟨r, hr⟩ := hst
  refine ⟨hab, ?_, by rw [hr]; simp, by rw [hr]; simp⟩
  unfold runV
  rw [if_pos hab, if_pos ha, if_pos hb, h1]
  simp [Function.comp_def]
theorem ownsRow_form' {t : TypeId} {w : World} {base : Nat} {v : Value} {l : List Int} (h : Ins t w base v l) (hl : 0 < l.length) : ∃ g c, v = .slice (some ⟨g, 0, none⟩) l.length c := by
  rcases h.2 with ⟨rfl, h0⟩ | ⟨g, cap, cur, rfl, _⟩
  · omega
  · exact ⟨g, cap, rfl⟩
theorem RdI.take {B : Nat} {w : World} {a : Option Addr} {n cap : Nat} {zs : List Int} (h : RdI B w (.slice a n cap) zs) (k : Nat) (hk : k ≤ zs.length) : RdI B w (.slice a k cap) (zs.take k) := by
  obtain ⟨a', cap', e, hc, hh⟩ := h
  cases e
  have hl : (zs.take k).length = k := by simp; omega
  refine ⟨a, cap, by rw [hl], by rw [hl]; omega, fun hne => ?_⟩
  obtain ⟨b, off, ha, hb, hcell⟩ := hh (by intro e; subst e; simp at hne)
  refine ⟨b, off, ha, hb, fun j hj => ?_⟩
  rw [hl] at hj
  rw [hcell j (by omega)]; simp

end Go.Proofs.YtomffjaeafcpdaaDoor
