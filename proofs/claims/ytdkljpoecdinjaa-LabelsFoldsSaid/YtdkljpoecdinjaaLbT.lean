/- Pure facts for the laws LabelsOrder, LabelsLeast, LabelsFolds. -/
import Derived.Test.YtdkljpoecdinjaaLbR
namespace Go.Proofs.Ytdkljpoecdinjaa
open Go.RowKit

/-! Sorted lists. -/
theorem srt_fore {up : List UInt8} (ho : Ord (le up) up.length) {p : Nat → Bool} {i k : Nat} (hi : i < (srt up p).length) (hk : k < i) (hk' : k < (srt up p).length) : le up (srt up p)[i] (srt up p)[k] = false := by
  have h := List.pairwise_iff_getElem.1 (srt_pair up p) k i hk' hi hk
  have hm := (mem_srt ho).1 (List.getElem_mem hi)
  have hm2 := (mem_srt ho).1 (List.getElem_mem hk')
  rw [← Bool.not_eq_true]
  intro hle
  by_cases e : (srt up p)[i] = (srt up p)[k]
  · rw [e] at h; have := lt2_iff.1 h; omega
  · have := lv_lt ho hm.1 hm2.1 hle e
    have := lt2_iff.1 h
    omega
theorem srt_again {up : List UInt8} (ho : Ord (le up) up.length) (p : Nat → Bool) : srt up (fun b => decide (b ∈ srt up p)) = srt up p :=
  srt_congr up fun a ha => by
    rw [Bool.eq_iff_iff, decide_eq_true_iff, mem_srt ho]
    exact ⟨fun h => h.2, fun h => ⟨ha, h⟩⟩
theorem srt_chain {up : List UInt8} (ho : Ord (le up) up.length) {ls : List Nat} (hc : chB up ls = true) {i k : Nat} (hi : i < (srt up (fun b => decide (b ∈ ls))).length) (hk : k < i) (hk' : k < (srt up (fun b => decide (b ∈ ls))).length) : le up (srt up (fun b => decide (b ∈ ls)))[k] (srt up (fun b => decide (b ∈ ls)))[i] = true := by
  have hm := ((mem_srt ho).1 (List.getElem_mem hi)).2
  have hm2 := ((mem_srt ho).1 (List.getElem_mem hk')).2
  rw [decide_eq_true_iff] at hm hm2
  have h := chB_iff.1 hc _ hm2 _ hm
  rcases h with h | h
  · rw [srt_fore ho hi hk hk'] at h; cases h
  · exact h
/-- What is known of the list that Sort returns. -/
structure Sd (up : List UInt8) (ls S : List Nat) (c : Bool) : Prop where
  all : ∀ a ∈ S, a < up.length
  nodup : S.Nodup
  mem : ∀ a, a ∈ S ↔ a ∈ ls
  fore : ∀ i k (_ : k < i) (hi : i < S.length) (hk' : k < S.length), le up S[i] S[k] = false
  chain : c = true → ∀ i k (_ : k < i) (hi : i < S.length) (hk' : k < S.length), le up S[k] S[i] = true
theorem sd_of {ns : List ByteArray} {up : List UInt8} {ls : List Nat} (hg : GL ns up ls) : Sd up ls (srt up (fun b => decide (b ∈ ls))) (chB up ls) where
  all a ha := ((mem_srt hg.good.ords.1).1 ha).1
  nodup := srt_nodup up _
  mem a := by
    rw [mem_srt hg.good.ords.1, decide_eq_true_iff]
    exact ⟨fun h => h.2, fun h => ⟨hg.all a h, h⟩⟩
  fore i k hk hi hk' := srt_fore hg.good.ords.1 hi hk hk'
  chain hc i k hk hi hk' := srt_chain hg.good.ords.1 hc hi hk hk'

/-! The law's arrays: which labels a list has. -/
def mB (l : List Nat) (i : Nat) : Value := .bool (decide (i ∈ l))
theorem mB_nil (i : Nat) : mB [] i = .bool false := by unfold mB; rw [decide_eq_false (by simp)]
theorem mB_set {w : World} {R : Nat} {t : TypeId} {l : List Nat} {k n : Nat} (hk : k < l.length) (h : w.rowIs R t n (mB (l.take k))) : (w.setCell ⟨R, l[k], none⟩ (.bool true)).rowIs R t n (mB (l.take (k + 1))) := by
  refine (h.set l[k] _).congr fun i hi => ?_
  show (if i = l[k] then Value.bool true else mB (l.take k) i) = mB (l.take (k + 1)) i
  unfold mB
  rw [List.take_succ_eq_append_getElem hk]
  by_cases e : i = l[k]
  · rw [if_pos e, decide_eq_true (by rw [e, List.mem_append]; exact .inr (by simp))]
  · rw [if_neg e]
    congr 1
    rw [Bool.eq_iff_iff, decide_eq_true_iff, decide_eq_true_iff, List.mem_append]
    simp [e]
theorem mB_new {l : List Nat} (hn : l.Nodup) {k : Nat} (hk : k < l.length) : mB (l.take k) l[k] = .bool false := by
  unfold mB
  rw [decide_eq_false ?_]
  intro hm
  obtain ⟨j, hj, e⟩ := List.getElem_of_mem hm
  rw [List.length_take] at hj
  rw [List.getElem_take] at e
  have := List.pairwise_iff_getElem.1 hn j k (by omega) hk (by omega)
  exact this e
end Go.Proofs.Ytdkljpoecdinjaa
