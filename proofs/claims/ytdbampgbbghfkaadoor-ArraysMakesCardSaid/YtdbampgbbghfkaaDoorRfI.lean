/- Plain facts on a way through a string, rune by rune. No run in this text. -/
import Derived.Test.YtdbampgbbghfkaaDoorRuC
namespace Go.Proofs.YtdbampgbbghfkaaDoor.Ru

/-- Where the last rune ends that has come. -/
def lastE (pre : List (Nat × Nat)) : Nat := (pre.map (·.2)).getLastD 0
theorem lastE_snoc (pre : List (Nat × Nat)) (x : Nat × Nat) : lastE (pre ++ [x]) = x.2 := by
  unfold lastE; rw [List.map_append, List.map_cons, List.map_nil]
  generalize pre.map (·.2) = l
  rw [List.getLastD_eq_getLast?, List.getLast?_append]; rfl

/-- At place k the runes before are pre. -/
structure Way (s : List UInt8) (k : Nat) (pre : List (Nat × Nat)) : Prop where
  rn : rns s = pre ++ rnF (s.length - k) k (s.drop k)
  en : endA s = endF (s.length - k) k (s.drop k)
  le : k ≤ s.length
  la : lastE pre = k
theorem Way.start (s : List UInt8) : Way s 0 [] := ⟨by simp [rns], by simp [endA], Nat.zero_le _, rfl⟩
theorem Way.step {s : List UInt8} {k : Nat} {pre : List (Nat × Nat)} (h : Way s k pre) {r n : Nat} (hk : k < s.length) (hd : dec (s.drop k) = (r, n, 0)) :
    1 ≤ n ∧ k + n ≤ s.length ∧ n ≤ 4 ∧ Way s (k + n) (pre ++ [(r, k + n)]) := by
  have hw := dec_w (s.drop k) (by rw [hd])
  rw [hd, List.length_drop] at hw
  simp only at hw
  obtain ⟨w1, w2, w3⟩ := hw
  obtain ⟨f, hf⟩ : ∃ f, s.length - k = f + 1 := ⟨s.length - k - 1, by omega⟩
  have e1 : rnF (s.length - k) k (s.drop k) = (r, k + n) :: rnF (s.length - (k + n)) (k + n) (s.drop (k + n)) := by
    rw [hf]
    simp only [rnF, hd, if_true]
    rw [List.drop_drop, rnF_more f (s.length - (k + n)) (k + n) (s.drop (k + n)) (by rw [List.length_drop]; omega) (by rw [List.length_drop]; omega)]
  have e2 : endF (s.length - k) k (s.drop k) = endF (s.length - (k + n)) (k + n) (s.drop (k + n)) := by
    rw [hf]
    simp only [endF, hd, if_true]
    rw [List.drop_drop, endF_more f (s.length - (k + n)) (k + n) (s.drop (k + n)) (by rw [List.length_drop]; omega) (by rw [List.length_drop]; omega)]
  exact ⟨w1, by omega, w3, by rw [h.rn, e1]; simp, by rw [h.en, e2], by omega, lastE_snoc _ _⟩
theorem Way.stop {s : List UInt8} {k : Nat} {pre : List (Nat × Nat)} (h : Way s k pre) (hk : k < s.length) (hd : (dec (s.drop k)).2.2 ≠ 0) : endA s = k ∧ rns s = pre := by
  obtain ⟨f, hf⟩ : ∃ f, s.length - k = f + 1 := ⟨s.length - k - 1, by omega⟩
  have h1 := h.rn
  have h2 := h.en
  rw [hf] at h1 h2
  simp only [rnF] at h1
  simp only [endF] at h2
  rw [if_neg hd] at h1 h2
  exact ⟨h2, by rw [h1, List.append_nil]⟩
theorem Way.done {s : List UInt8} {k : Nat} {pre : List (Nat × Nat)} (h : Way s k pre) (hk : ¬ k < s.length) : endA s = s.length ∧ rns s = pre := by
  have e : k = s.length := by have := h.le; omega
  subst e
  have h1 := h.rn
  have h2 := h.en
  rw [Nat.sub_self] at h1 h2
  exact ⟨h2, by rw [h1]; simp [rnF]⟩
theorem Way.chk_stop {s : List UInt8} {k : Nat} {pre : List (Nat × Nat)} (h : Way s k pre) (hl : ¬ 8000 < s.length) (hk : k < s.length) {r n e : Nat} (hd : dec (s.drop k) = (r, n, e)) (he : e ≠ 0) : chkA s = k ∧ chkE s = e := by
  have q := (h.stop hk (by rw [hd]; exact he)).1
  unfold chkA chkE
  rw [if_neg hl, if_neg hl, q, if_pos hk, hd]
  exact ⟨rfl, rfl⟩
theorem Way.chk_done {s : List UInt8} {k : Nat} {pre : List (Nat × Nat)} (h : Way s k pre) (hl : ¬ 8000 < s.length) (hk : ¬ k < s.length) : chkA s = k ∧ chkE s = 0 := by
  have q := (h.done hk).1
  have e : k = s.length := by have := h.le; omega
  unfold chkA chkE
  rw [if_neg hl, if_neg hl, q, if_neg (by omega)]
  exact ⟨e.symm, rfl⟩
/-- Where all is well, no rune fails. -/
theorem Way.ok {s : List UInt8} {k : Nat} {pre : List (Nat × Nat)} (h : Way s k pre) (hc : chkE s = 0) (hk : k < s.length) : ∃ r n, dec (s.drop k) = (r, n, 0) := by
  rcases hd : dec (s.drop k) with ⟨r, n, e⟩
  by_cases he : e = 0
  · subst he; exact ⟨r, n, rfl⟩
  · exfalso
    have q := (h.stop hk (by rw [hd]; exact he)).1
    have := ((chkE_ok s).1 hc).2
    omega
end Go.Proofs.YtdbampgbbghfkaaDoor.Ru
