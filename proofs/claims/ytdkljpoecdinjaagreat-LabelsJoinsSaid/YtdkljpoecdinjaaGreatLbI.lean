/- labels.Chain, Least. -/
import Derived.Test.YtdkljpoecdinjaaGreatLbH
namespace Go.Proofs.YtdkljpoecdinjaaGreat
open Go.RowKit

theorem or_n8 (x y : Nat) (hx : x < 256) (hy : y < 256) : bits BinOp.or IntKind.u8 (x : Int) (y : Int) = ((x ||| y : Nat) : Int) := (bits_nat .u8 8 (by decide) wraps_u8 x y hx hy).2
theorem and_n8 (x y : Nat) (hx : x < 256) (hy : y < 256) : bits BinOp.and IntKind.u8 (x : Int) (y : Int) = ((x &&& y : Nat) : Int) := (bits_nat .u8 8 (by decide) wraps_u8 x y hx hy).1
def andN (a b : Nat) : Nat := (BitVec.ofNat 8 a &&& ~~~BitVec.ofNat 8 b).toNat
theorem andN_eq (a b : Nat) : bits BinOp.andNot IntKind.u8 (a : Int) (b : Int) = ((andN a b : Nat) : Int) := by
  unfold andN
  simp only [bits, BitVec.ofInt_natCast]
  exact wraps_u8 _ (Int.natCast_nonneg _) (by exact_mod_cast (BitVec.isLt _))
theorem andN_lt (a b : Nat) : andN a b < 256 := BitVec.isLt _
theorem andN_bit (a b i : Nat) (h : i < 8) : (andN a b).testBit i = (a.testBit i && !b.testBit i) := by
  unfold andN
  rw [BitVec.testBit_toNat, BitVec.getLsbD_and, BitVec.getLsbD_not, BitVec.getLsbD_ofNat, BitVec.getLsbD_ofNat]
  simp [h]
theorem andN_0 (a b : Nat) : andN a b = 0 ↔ ∀ i, i < 8 → a.testBit i = true → b.testBit i = true := by
  constructor
  · intro h i hi h1
    have := andN_bit a b i hi
    rw [h, h1] at this
    simpa using this.symm
  · intro h
    refine Nat.eq_of_testBit_eq fun i => ?_
    rw [Nat.zero_testBit]
    by_cases hi : i < 8
    · rw [andN_bit a b i hi]
      cases h1 : a.testBit i
      · rfl
      · rw [h i hi h1]; rfl
    · exact Nat.testBit_lt_two_pow (Nat.lt_of_lt_of_le (andN_lt a b) (Nat.pow_le_pow_right (n := 2) (i := 8) (by decide) (by omega)))
/-- Whether a label may be compared with all of a list. -/
def rwB (up : List UInt8) (ls : List Nat) (a : Nat) : Bool := ls.all (cmpB up a)
theorem rw_test {up : List UInt8} {ls : List Nat} {a : Nat} (hn : up.length ≤ 8) (hl : ∀ b ∈ ls, b < up.length) (ha : a < up.length) : rwB up ls a = decide (andN (bt ls) (dnN up a ||| upN up a) = 0) := by
  rw [Bool.eq_iff_iff, decide_eq_true_iff, andN_0]
  unfold rwB
  rw [List.all_eq_true]
  have hb : ∀ b, b < up.length → ((dnN up a ||| upN up a).testBit b = cmpB up a b) := fun b hb => by
    rw [Nat.testBit_or]
    have h1 := dnN_bit ha hb hn
    unfold bB at h1
    rw [h1]; rfl
  constructor
  · intro h i hi h1
    rw [bt_bit, decide_eq_true_iff] at h1
    rw [hb i (hl i h1)]; exact h i h1
  · intro h b hm
    rw [← hb b (hl b hm)]
    have := hl b hm
    exact h b (by omega) (by rw [bt_bit, decide_eq_true hm])
def nrB (up : List UInt8) (ls : List Nat) (l : List Nat) (k : Nat) : Bool := !rwB up ls (l.getD k 0)
theorem nrB_get {up : List UInt8} {ls l : List Nat} {k : Nat} (h : k < l.length) : nrB up ls l k = !rwB up ls l[k] := by unfold nrB; rw [List.getD_eq_getElem?_getD, List.getElem?_eq_getElem h]; rfl
theorem chB_all {up : List UInt8} {ls l : List Nat} (hm : ∀ a, a ∈ l ↔ a ∈ ls) (h : (List.range l.length).any (nrB up ls l) = false) : chB up ls = true := by
  have h1 := range_any_false h
  show ls.all (rwB up ls) = true
  rw [List.all_eq_true]
  intro a ha
  obtain ⟨i, hi, rfl⟩ := List.getElem_of_mem ((hm a).2 ha)
  have := h1 i hi
  rw [nrB_get hi] at this
  simpa using this
theorem chB_no {up : List UInt8} {ls : List Nat} {a : Nat} (ha : a ∈ ls) (h : rwB up ls a = false) : chB up ls = false := by
  show ls.all (rwB up ls) = false
  rw [← Bool.not_eq_true, List.all_eq_true]
  intro h2
  rw [h2 a ha] at h; cases h

end Go.Proofs.YtdkljpoecdinjaaGreat
