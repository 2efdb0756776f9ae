/- Plain facts on arrays: what Check says, and what the functions return. -/
import Derived.Test.YtpbfbejckhbijaaGreatDoorShZ
import Derived.Test.YtpbfbejckhbijaaGreatDoorRuZ
namespace Go.Proofs.YtpbfbejckhbijaaGreatDoor
open Go.RowKit

/-- An array: kind, rank, lengths, cells. -/
structure Ar where
  k : Int
  r : Int
  a : Int
  b : Int
  z : List Int
def Ar.no : Ar := ⟨0, 0, 0, 0, []⟩
/-- The first fault of an array. -/
def ck (A : Ar) : Int :=
  if A.k ≠ 1 ∧ A.k ≠ 2 then 2 else if ckS A.r A.a A.b ≠ 0 then ckS A.r A.a A.b else
  if (A.z.length : Int) ≠ cn A.r A.a A.b then 6 else if A.k = 2 ∧ A.z.all Ru.isR = false then 7 else 0
def mk (A : Ar) : Ar := if ck A = 0 then A else Ar.no

structure Good (A : Ar) : Prop where
  kind : A.k = 1 ∨ A.k = 2
  sh : Sh A.r A.a A.b
  len : (A.z.length : Int) = cn A.r A.a A.b
  runes : A.k = 2 → A.z.all Ru.isR = true
theorem good_ck {A : Ar} (h : Good A) : ck A = 0 := by
  unfold ck
  rw [if_neg (by rcases h.kind with e | e <;> omega), if_neg (by rw [sh_ok h.sh]; decide), if_neg (by rw [h.len]; simp)]
  refine if_neg fun ⟨e, n⟩ => ?_
  rw [h.runes e] at n; cases n
theorem ck_good {A : Ar} (h : ck A = 0) : Good A := by
  unfold ck at h
  split at h
  · cases h
  · split at h
    · contradiction
    · split at h
      · cases h
      · split at h
        · cases h
        · rename_i h1 h2 h3 h4
          refine ⟨by omega, ok_sh (by simpa using h2), by simpa using h3, fun e => ?_⟩
          cases hb : A.z.all Ru.isR
          · exact absurd ⟨e, hb⟩ h4
          · rfl
theorem Good.len4 {A : Ar} (h : Good A) : A.z.length ≤ 400 := by have := h.sh.bd; have := h.len; omega
theorem idx_all : ∀ (l : List Int) (k : Nat), l.all Ru.isR = true → Ru.idxF k l = -1
  | [], _, _ => rfl
  | x :: l, k, h => by
    simp only [List.all_cons, Bool.and_eq_true] at h
    unfold Ru.idxF
    rw [if_pos h.1]
    exact idx_all l _ h.2
theorem idx_bad {l : List Int} (h : l.all Ru.isR = false) : 0 ≤ Ru.idxV l := by
  rcases Ru.idxF_ge l 0 with e | e
  · have := Ru.idxF_all l 0 e
    rw [show l.all Ru.isR = true from List.all_eq_true.2 this] at h
    cases h
  · exact e
theorem enc_le (r : Nat) : (Ru.enc r).length ≤ 4 := by rw [Ru.enc_len]; split; (· decide); split; (· decide); split <;> decide
theorem bytL_len (l : List Int) : (Ru.bytL l).length ≤ 4 * l.length := by
  unfold Ru.bytL
  induction l with
  | nil => simp
  | cons x l ih =>
    rw [List.flatMap_cons, List.length_append]
    have := enc_le x.toNat
    simp only [List.length_cons]; omega
theorem bytE_ok {l : List Int} (h : l.all Ru.isR = true) (hl : l.length ≤ 2000) : Ru.bytE l = 0 := by
  unfold Ru.bytE
  have := bytL_len l
  rw [if_neg (by unfold Ru.idxV; rw [idx_all l 0 h]; omega), if_neg (by omega)]
theorem bytE_bad {l : List Int} (h : l.all Ru.isR = false) : Ru.bytE l = 7 := by
  unfold Ru.bytE
  rw [if_pos (idx_bad h)]
theorem bytV_ok {l : List Int} (h : l.all Ru.isR = true) (hl : l.length ≤ 2000) : Ru.bytV l = Ru.bytL l := by
  unfold Ru.bytV
  rw [if_pos (bytE_ok h hl)]
end Go.Proofs.YtpbfbejckhbijaaGreatDoor
