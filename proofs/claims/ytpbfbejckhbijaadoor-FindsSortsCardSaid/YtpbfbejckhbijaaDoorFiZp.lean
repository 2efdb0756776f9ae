/- Plain facts for the law Sorts: what is at the sorted places ascends; of it the sorted places are all in order; the sorted places of the sorted places say where each cell goes. -/
import Derived.Test.YtpbfbejckhbijaaDoorFiPz
import Derived.Test.YtpbfbejckhbijaaDoorFiX
namespace Go.Proofs.YtpbfbejckhbijaaDoor
open Go.RowKit Go.Sort

/-- Where some places stand in order, they are the sorted ones. -/
theorem grS_of {n : Nat} (z : List Int) (hz : z.length = n) (P : Nat → Nat) (hP : ∀ t, t < n → P t < n) (h : ∀ i j, i < j → j < n → z.getD (P i) 0 < z.getD (P j) 0 ∨ (z.getD (P i) 0 = z.getD (P j) 0 ∧ P i < P j)) : grS z = (List.range n).map fun t => (P t : Int) := by
  cases n with
  | zero => unfold grS; rw [hz]; rfl
  | succ m =>
    obtain ⟨d, hd⟩ : ∃ d : Array (Fin (m + 1)), d = Array.ofFn (fun i : Fin (m + 1) => (⟨P i.val, hP i.val i.isLt⟩ : Fin (m + 1))) := ⟨_, rfl⟩
    have hs : d.size = m + 1 := by rw [hd]; simp
    have hg : ∀ t, t < m + 1 → (d[t]!).val = P t := fun t ht => by
      subst hd
      rw [getElem!_pos _ t (by simpa using ht)]
      simp
    have hb : Bl z (fun t => d[t]!) 0 (m + 1) := by
      refine ⟨fun i j _ h2 h3 => ?_, fun x _ hx => ⟨Nat.zero_le _, (d[x]!).isLt⟩⟩
      show ltZ z d[i]! d[j]!
      unfold ltZ
      rw [hg i (by omega), hg j h3]
      exact h i j h2 h3
    rw [grS_is z hz d hs hb]
    apply List.ext_getElem
    · simp [hs]
    · intro t g1 g2
      have ht : t < m + 1 := by simpa using g2
      have := hg t ht
      rw [getElem!_pos _ t (by omega)] at this
      simp [this]
structure Srt (z G S : List Int) (F R : Nat → Nat) : Prop where
  gl : G.length = z.length
  sl : S.length = z.length
  gin : G.all (inS z.length) = true
  gf : ∀ t, t < z.length → F t < z.length ∧ G.getD t 0 = (F t : Int)
  fr : ∀ i, i < z.length → R i < z.length ∧ ∀ t, t < z.length → (F t = i ↔ t = R i)
  up : ∀ t, t + 1 < z.length → S.getD t 0 < S.getD (t + 1) 0 ∨ (S.getD t 0 = S.getD (t + 1) 0 ∧ F t < F (t + 1))
  again : grS S = upZ z.length
  back : (grS G).all (inS z.length) = true
  old : plZ S (grS G) = z
  bl : (grS G).length = z.length
theorem srt_of (z : List Int) : ∃ F R, Srt z (grS z) (plZ z (grS z)) F R := by
  by_cases h0 : z.length = 0
  · have hz : z = [] := List.length_eq_zero_iff.mp h0
    subst hz
    have hg : grS [] = [] := rfl
    refine ⟨fun t => t, fun t => t, ⟨?_, ?_, ?_, ?_, ?_, ?_, ?_, ?_, ?_, ?_⟩⟩ <;> simp [hg, plZ, upZ]
  obtain ⟨n, hn⟩ : ∃ n, z.length = n + 1 := ⟨z.length - 1, by omega⟩
  have hb := grS_asc z hn
  have hg : grS z = (Sort.insertionSort (ltOf (cfF z)) (Array.ofFn (fun i : Fin (n + 1) => i)) 0 (n + 1)).toList.map fun i => (i.val : Int) := by unfold grS; rw [hn]
  generalize hd : Sort.insertionSort (ltOf (cfF z)) (Array.ofFn (fun i : Fin (n + 1) => i)) 0 (n + 1) = d at hb hg
  have hds : d.size = n + 1 := by rw [← hd, insSort_size]; simp
  clear hd
  have ha : Asc (ltZ z) (fun t => d[t]!) 0 (n + 1) := hb.1
  have gl : (grS z).length = n + 1 := by rw [hg]; simp [hds]
  generalize grS z = G at hg gl ⊢
  have gf : ∀ t, t < n + 1 → G.getD t 0 = ((d[t]!).val : Int) := fun t ht => by
    rw [hg, List.getD_eq_getElem?_getD, List.getElem?_map, Array.getElem?_toList, getElem!_pos d t (by omega), Array.getElem?_eq_getElem (by omega)]
    rfl
  have sf : ∀ t, t < n + 1 → (plZ z G).getD t 0 = z.getD (d[t]!).val 0 := fun t ht => by
    have h1 := gf t ht
    rw [List.getD_eq_getElem?_getD, List.getElem?_eq_getElem (by omega)] at h1
    have h1' : G[t] = ((d[t]!).val : Int) := h1
    unfold plZ
    rw [List.getD_eq_getElem?_getD (l := G.map _), List.getElem?_map, List.getElem?_eq_getElem (by omega)]
    show z.getD (G[t]).toNat 0 = _
    rw [h1']
    rfl
  have sl : (plZ z G).length = n + 1 := by rw [plZ_len, gl]
  have up : ∀ i j, i < j → j < n + 1 → (plZ z G).getD i 0 < (plZ z G).getD j 0 ∨ ((plZ z G).getD i 0 = (plZ z G).getD j 0 ∧ (d[i]!).val < (d[j]!).val) := fun i j h1 h2 => by
    rw [sf i (by omega), sf j h2]
    exact ha i j (Nat.zero_le _) h1 h2
  have fr : ∀ i, i < n + 1 → rkN z i (n + 1) < n + 1 ∧ ∀ t, t < n + 1 → ((d[t]!).val = i ↔ t = rkN z i (n + 1)) := fun i hi => by
    obtain ⟨p, hp, e⟩ := asc_onto ha hi
    have hr := asc_rank ha hp
    have e' : (d[p]!).val = i := e
    have hr2 : rkN z i (n + 1) = p := by unfold rkN; rw [← e']; exact hr
    rw [hr2]
    refine ⟨hp, fun t ht => ⟨fun h => ?_, fun h => by rw [h]; exact e'⟩⟩
    have hr3 := asc_rank ha ht
    have h' : (d[t]!).val = i := h
    have : rkN z i (n + 1) = t := by unfold rkN; rw [← h']; exact hr3
    omega
  have hR : ∀ i, i < n + 1 → (d[rkN z i (n + 1)]!).val = i := fun i hi => ((fr i hi).2 _ (fr i hi).1).2 rfl
  have hback : grS G = (List.range (n + 1)).map fun t => ((rkN z t (n + 1) : Nat) : Int) := grS_of G gl (fun t => rkN z t (n + 1)) (fun t ht => (fr t ht).1) fun i j h1 h2 => by
    left
    show G.getD (rkN z i (n + 1)) 0 < G.getD (rkN z j (n + 1)) 0
    rw [gf _ (fr i (by omega)).1, gf _ (fr j h2).1, hR i (by omega), hR j h2]
    omega
  refine ⟨fun t => (d[t]!).val, fun i => rkN z i (n + 1), ⟨by omega, by omega, ?_, fun t ht => ⟨by rw [hn]; exact (d[t]!).isLt, gf t (by omega)⟩, fun i hi => ?_, fun t ht => up t (t + 1) (by omega) (by omega), ?_, ?_, ?_, ?_⟩⟩
  · rw [List.all_eq_true]
    intro x hx
    obtain ⟨t, ht, rfl⟩ := List.getElem_of_mem hx
    have h1 := gf t (by omega)
    rw [List.getD_eq_getElem?_getD, List.getElem?_eq_getElem ht] at h1
    have h1' : G[t] = ((d[t]!).val : Int) := h1
    rw [h1']
    unfold inS
    rw [Bool.and_eq_true, decide_eq_true_iff, decide_eq_true_iff]
    have := (d[t]!).isLt
    omega
  · have := fr i (by omega)
    rw [hn]
    exact this
  · rw [hn]
    have h1 := grS_of (plZ z G) sl (fun t => t) (fun t ht => ht) fun i j h1 h2 => by
      rcases up i j h1 h2 with h | h
      · exact .inl h
      · exact .inr ⟨h.1, h1⟩
    rw [h1]
    rfl
  · rw [hback, List.all_eq_true]
    intro x hx
    obtain ⟨t, ht, rfl⟩ := List.mem_map.1 hx
    have := (fr t (by simpa using ht)).1
    unfold inS
    rw [Bool.and_eq_true, decide_eq_true_iff, decide_eq_true_iff]
    omega
  · rw [hback]
    unfold plZ
    rw [List.map_map]
    apply List.ext_getElem
    · simp [hn]
    · intro t g1 g2
      have ht : t < n + 1 := by omega
      have h1 := sf _ (fr t ht).1
      rw [hR t ht] at h1
      simp only [List.getElem_map, List.getElem_range, Function.comp]
      show (plZ z G).getD (rkN z t (n + 1)) 0 = _
      rw [h1, List.getD_eq_getElem?_getD, List.getElem?_eq_getElem g2]
      rfl
  · rw [hback]; simp [hn]
end Go.Proofs.YtpbfbejckhbijaaDoor
