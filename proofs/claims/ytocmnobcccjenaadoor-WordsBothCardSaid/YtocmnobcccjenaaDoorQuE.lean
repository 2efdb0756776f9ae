/- What the reference's quoted finds: the byte whose form stands at the head of a text is the one that readByte reads. -/
import Derived.Test.YtocmnobcccjenaaDoorQuD
namespace Go.Proofs.YtocmnobcccjenaaDoor
open Go.RowKit

set_option maxRecDepth 100000

def isPre : List UInt8 → List UInt8 → Bool
  | [], _ => true
  | _ :: _, [] => false
  | a :: p, b :: l => decide (a = b) && isPre p l
theorem isPre_iff (p l : List UInt8) : isPre p l = true ↔ ∃ t, l = p ++ t := by
  induction p generalizing l with
  | nil => exact ⟨fun _ => ⟨l, rfl⟩, fun _ => rfl⟩
  | cons a p ih =>
    cases l with
    | nil => exact ⟨fun h => (by cases h), fun ⟨t, h⟩ => (by cases h)⟩
    | cons b l =>
      simp only [isPre, Bool.and_eq_true, decide_eq_true_eq, ih]
      constructor
      · rintro ⟨rfl, t, rfl⟩; exact ⟨t, rfl⟩
      · rintro ⟨t, h⟩; injection h with h1 h2; exact ⟨h1.symm, t, h2⟩
/-- readByte reads every byte's form as that byte, whatever stands behind it. -/
theorem rb_escF (c : UInt8) (t : List UInt8) : rb (escF c ++ t) = some (c, (escF c).length) := by
  have e : ∀ a r, rb (a :: r) = if a = 92 then rbEsc r else if pl8 a = true then some (a, 1) else none := fun _ _ => rfl
  have e2 : ∀ d t, rbEsc (d :: t) = if d = 120 then rbHex t else if unB d.toNat = true then some (UInt8.ofNat (unV d.toNat).toNat, 2) else none := fun _ _ => rfl
  unfold escF
  by_cases hp : pl8 c = true
  · rw [if_pos hp]
    have hc : c ≠ 92 := by intro h; rw [h] at hp; revert hp; decide +kernel
    rw [List.singleton_append, e, if_neg hc, if_pos hp]; rfl
  · rw [if_neg hp]
    by_cases he : escB c.toNat = true
    · rw [if_pos he, List.cons_append, e, if_pos rfl, List.cons_append, e2]
      have key : ∀ c : Fin 256, escB (UInt8.ofNat c.val).toNat = true → ¬ (UInt8.ofNat (escL (UInt8.ofNat c.val).toNat).toNat = 120) ∧ unB (UInt8.ofNat (escL (UInt8.ofNat c.val).toNat).toNat).toNat = true ∧ UInt8.ofNat (unV (UInt8.ofNat (escL (UInt8.ofNat c.val).toNat).toNat).toNat).toNat = UInt8.ofNat c.val := by decide +kernel
      have k := key ⟨c.toNat, c.toNat_lt⟩
      simp only [UInt8.ofNat_toNat] at k
      obtain ⟨k1, k2, k3⟩ := k he
      rw [if_neg k1, if_pos k2, k3]; rfl
    · rw [if_neg he, List.cons_append, e, if_pos rfl, List.cons_append, e2, if_pos rfl]
      have key : ∀ c : Fin 256, pl8 (UInt8.ofNat c.val) = false → escB (UInt8.ofNat c.val).toNat = false → rbHex [hex8 ((UInt8.ofNat c.val).toNat / 16), hex8 ((UInt8.ofNat c.val).toNat % 16)] = some (UInt8.ofNat c.val, 4) := by decide +kernel
      have k := key ⟨c.toNat, c.toNat_lt⟩
      simp only [UInt8.ofNat_toNat] at k
      have k' := k (by simpa using hp) (by simpa using he)
      exact k'
theorem hex8_hexI (x : UInt8) (h : 0 ≤ hexI x) : hex8 (hexI x).toNat = x := by
  have key : ∀ c : Fin 256, 0 ≤ hexI (UInt8.ofNat c.val) → hex8 (hexI (UInt8.ofNat c.val)).toNat = UInt8.ofNat c.val := by decide +kernel
  have k := key ⟨x.toNat, x.toNat_lt⟩
  simp only [UInt8.ofNat_toNat] at k
  exact k h
theorem escF_rb (l : List UInt8) (c : UInt8) (n : Nat) (h : rb l = some (c, n)) : (∃ t, l = escF c ++ t) ∧ n = (escF c).length := by
  have e : ∀ a r, rb (a :: r) = if a = 92 then rbEsc r else if pl8 a = true then some (a, 1) else none := fun _ _ => rfl
  have e2 : ∀ d t, rbEsc (d :: t) = if d = 120 then rbHex t else if unB d.toNat = true then some (UInt8.ofNat (unV d.toNat).toNat, 2) else none := fun _ _ => rfl
  match l, h with
  | [], h => cases h
  | a :: r, h =>
    rw [e] at h
    by_cases ha : a = 92
    · rw [if_pos ha] at h
      match r, h with
      | [], h => cases h
      | d :: t, h =>
        rw [e2] at h
        by_cases hd : d = 120
        · rw [if_pos hd] at h
          match t, h with
          | [], h => cases h
          | [_], h => cases h
          | x :: y :: q, h =>
            simp only [rbHex] at h
            split at h
            · rename_i hc
              obtain ⟨hx, hy, hn⟩ := hc
              have lx := (hexI_le x).2
              have ly := (hexI_le y).2
              injection h with h
              injection h with h1 h2
              have hcn : (c.toNat : Int) = 16 * hexI x + hexI y := by
                rw [← h1]; simp only [UInt8.toNat_ofNat']; omega
              have hE : escF c = [92, 120, x, y] := by
                unfold escF
                rw [← hcn] at hn
                simp only [Bool.and_eq_true, Bool.not_eq_true'] at hn
                rw [if_neg (by unfold pl8; rw [hn.2]; simp), if_neg (by rw [hn.1]; simp)]
                have e1 : c.toNat / 16 = (hexI x).toNat := by omega
                have e3 : c.toNat % 16 = (hexI y).toNat := by omega
                rw [e1, e3, hex8_hexI x hx, hex8_hexI y hy]
              rw [hE, ha, hd]
              exact ⟨⟨q, rfl⟩, h2.symm⟩
            · cases h
        · rw [if_neg hd] at h
          split at h
          · rename_i hu
            injection h with h
            injection h with h1 h2
            have key : ∀ c : Fin 256, unB (UInt8.ofNat c.val).toNat = true → escF (UInt8.ofNat (unV (UInt8.ofNat c.val).toNat).toNat) = [92, UInt8.ofNat c.val] := by decide +kernel
            have k := key ⟨d.toNat, d.toNat_lt⟩
            simp only [UInt8.ofNat_toNat] at k
            have hE := k hu
            rw [h1] at hE
            rw [hE, ha]
            exact ⟨⟨t, rfl⟩, h2.symm⟩
          · cases h
    · rw [if_neg ha] at h
      split at h
      · rename_i hp
        injection h with h
        injection h with h1 h2
        subst h1
        have hE : escF a = [a] := by unfold escF; rw [if_pos hp]
        rw [hE]
        exact ⟨⟨r, rfl⟩, h2.symm⟩
      · cases h
/-- The only byte whose form stands at the head. -/
theorem isPre_rb (l : List UInt8) (c : UInt8) : isPre (escF c) l = true ↔ rb l = some (c, (escF c).length) := by
  constructor
  · intro h
    obtain ⟨t, rfl⟩ := (isPre_iff _ _).1 h
    exact rb_escF c t
  · intro h
    exact (isPre_iff _ _).2 (escF_rb l c _ h).1
end Go.Proofs.YtocmnobcccjenaaDoor
