/- Plain facts on texts: what the library's readers of runes see is what 'dec' says. -/
import Derived.Test.YtdbampgbbghfkaaDoorRfI
import Derived.Test.YtdbampgbbghfkaaDoorRuM
import Derived.Test.YtdbampgbbghfkaaDoorArI
import Derived.Lib.ValidU
import Derived.Lib.DecodeN
namespace Go.Proofs.YtdbampgbbghfkaaDoor
open Go

theorem get_byt (s : ByteArray) (i : Nat) : s.get! i = (byt s).getD i 0 := by
  cases s with
  | mk d =>
    simp only [ByteArray.get!, byt]
    rw [List.getD_eq_getElem?_getD, getElem!_def, Array.getElem?_toList]
    cases d[i]? <;> rfl
theorem gb_drop (l : List UInt8) (k i : Nat) : Ru.gb (l.drop k) i = (l.getD (k + i) 0).toNat := by
  unfold Ru.gb
  rw [List.getD_eq_getElem?_getD, List.getElem?_drop, ← List.getD_eq_getElem?_getD]
theorem dec_at (s : ByteArray) (k : Nat) (h : k < s.size) :
    ((Ru.dec ((byt s).drop k)).2.2 = 0 → Utf8.decode s k = ((Ru.dec ((byt s).drop k)).1, (Ru.dec ((byt s).drop k)).2.1) ∧ ((Ru.dec ((byt s).drop k)).1 = 65533 → 1 < (Ru.dec ((byt s).drop k)).2.1)) ∧
    ((Ru.dec ((byt s).drop k)).2.2 ≠ 0 → Utf8.decode s k = (65533, 1)) := by
  have hne : (byt s).drop k ≠ [] := by
    intro e
    have := congrArg List.length e
    rw [List.length_drop, byt_len] at this
    simp at this; omega
  have hd : Ru.dec ((byt s).drop k) = Ru.decT (s.size - k) (Ru.gb ((byt s).drop k) 0) (Ru.gb ((byt s).drop k) 1) (Ru.gb ((byt s).drop k) 2) (Ru.gb ((byt s).drop k) 3) := by
    unfold Ru.dec
    rw [if_neg hne, List.length_drop, byt_len]
  have hu : Utf8.decode s k = Lib.decodeN (s.size - k) (Ru.gb ((byt s).drop k) 0) (Ru.gb ((byt s).drop k) 1) (Ru.gb ((byt s).drop k) 2) (Ru.gb ((byt s).drop k) 3) := by
    rw [Lib.decode_at, get_byt, get_byt, get_byt, get_byt, gb_drop, gb_drop, gb_drop, gb_drop]
    all_goals rfl
  rw [hd, hu]
  refine ⟨fun h0 => ?_, fun h0 => Ru.decN_bad _ _ _ _ _ h0⟩
  rcases hc : Ru.decT (s.size - k) (Ru.gb ((byt s).drop k) 0) (Ru.gb ((byt s).drop k) 1) (Ru.gb ((byt s).drop k) 2) (Ru.gb ((byt s).drop k) 3) with ⟨r, n, e⟩
  rw [hc] at h0
  simp only at h0
  subst h0
  exact Ru.decN_ok _ _ _ _ _ _ _ hc
theorem decL_at (l : List UInt8) (h : l ≠ []) :
    ((Ru.dec l).2.2 = 0 → Lib.decodeL l = ((Ru.dec l).1, (Ru.dec l).2.1) ∧ ((Ru.dec l).1 = 65533 → 1 < (Ru.dec l).2.1)) ∧ ((Ru.dec l).2.2 ≠ 0 → Lib.decodeL l = (65533, 1)) := by
  have := dec_at ⟨l.toArray⟩ 0 (by rw [size_mk]; exact List.length_pos_iff.2 h)
  rw [byt_mk, List.drop_zero] at this
  exact this
theorem valid_go : ∀ (n k : Nat) (l : List UInt8), l.length ≤ n → (Lib.validGoD n l = true ↔ Ru.endF n k l = k + l.length)
  | 0, k, l, h => by
    have : l = [] := List.length_eq_zero_iff.1 (by omega)
    subst this
    simp [Lib.validGoD, Ru.endF]
  | n + 1, k, l, h => by
    unfold Lib.validGoD Ru.endF
    by_cases hl : l = []
    · subst hl
      rw [if_pos rfl, if_neg (by decide)]
      simp
    · rw [if_neg hl]
      by_cases hd : (Ru.dec l).2.2 = 0
      · obtain ⟨e, e2⟩ := (decL_at l hl).1 hd
        obtain ⟨w1, w2, _⟩ := Ru.dec_w l hd
        rw [if_pos hd, e, if_neg (by simp only; intro ⟨a, b⟩; have := e2 a; omega)]
        rw [valid_go n (k + (Ru.dec l).2.1) (l.drop (Ru.dec l).2.1) (by rw [List.length_drop]; omega), List.length_drop]
        constructor <;> intro q <;> omega
      · rw [if_neg hd, (decL_at l hl).2 hd, if_pos ⟨rfl, rfl⟩]
        have : 0 < l.length := List.length_pos_iff.2 hl
        constructor
        · intro q; cases q
        · intro q; omega
theorem valid_end (l : List UInt8) : Lib.validD l = decide (Ru.endA l = l.length) := by
  rw [Bool.eq_iff_iff, decide_eq_true_iff]
  have := valid_go l.length 0 l (Nat.le_refl _)
  rw [Nat.zero_add] at this
  exact this
/-- The runes of a text, and what Text returns. -/
def rnL (p : List (Nat × Nat)) : List Int := p.map fun x => (x.1 : Int)
def txE (s : List UInt8) : Int := if Ru.endA s = s.length then vcE (rnL (Ru.rns s)) else 6
def txV (s : List UInt8) : Ar := if Ru.endA s = s.length then vcV 2 (rnL (Ru.rns s)) else Ar.no
end Go.Proofs.YtdbampgbbghfkaaDoor
