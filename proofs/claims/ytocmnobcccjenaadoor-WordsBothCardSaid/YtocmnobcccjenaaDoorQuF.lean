/- The reference's quoted. -/
import Derived.Test.YtocmnobcccjenaaDoorQuE
namespace Go.Proofs.YtocmnobcccjenaaDoor
open Go.RowKit

set_option maxRecDepth 100000

theorem byt_inj {a b : ByteArray} (h : byt a = byt b) : a = b := ByteArray.ext (Array.ext' h)
theorem toList_inj {a b : ByteArray} (h : a.toList = b.toList) : a = b := by
  rw [ByteArray.toList_eq, ByteArray.toList_eq] at h; exact byt_inj h
theorem byt_mid (s : ByteArray) (k m : Nat) : byt (s.extract k (k + m)) = ((byt s).drop k).take m := by
  simp only [byt, ByteArray.data_extract, Array.toList_extract, List.extract_eq_take_drop]
  rw [Nat.add_sub_cancel_left]
theorem pre_iff (s : ByteArray) (k : Nat) (p : List UInt8) (form : ByteArray) (hf : byt form = p) :
    isPre p ((byt s).drop k) = true ↔ form.size ≤ s.size - k ∧ s.extract k (k + form.size) = form := by
  have hl : form.size = p.length := by rw [← hf, byt_len]
  rw [isPre_iff]
  constructor
  · rintro ⟨t, h⟩
    have h1 := congrArg List.length h
    rw [List.length_drop, byt_len, List.length_append] at h1
    refine ⟨by omega, byt_inj ?_⟩
    rw [byt_mid, h, hf, hl, List.take_left' rfl]
  · rintro ⟨_, h⟩
    refine ⟨((byt s).drop k).drop p.length, ?_⟩
    have h1 := congrArg byt h
    rw [byt_mid, hl, hf] at h1
    conv => rhs; rw [← h1]
    rw [List.length_take]
    by_cases hq : p.length ≤ ((byt s).drop k).length
    · rw [Nat.min_eq_left hq, List.take_append_drop]
    · have h2 := congrArg List.length h1
      rw [List.length_take] at h2
      omega
theorem rb_no (l : List UInt8) (h : ∀ x : UInt8, x.toNat < 256 → isPre (escF x) l = false) : rb l = none := by
  cases hr : rb l with
  | none => rfl
  | some p =>
    obtain ⟨c, n⟩ := p
    obtain ⟨t, ht⟩ := (escF_rb l c n hr).1
    have := (isPre_iff (escF c) l).2 ⟨t, ht⟩
    rw [h c c.toNat_lt] at this
    cases this
theorem escF_pos (c : UInt8) : 1 ≤ (escF c).length := by
  unfold escF; split
  · simp
  · split <;> simp
theorem pre34 (s : ByteArray) (h : 0 < s.size) : Lib.hasPrefix (byt s) [34] = decide (s[0] = 34) := by
  have h0 := byt_at s 0 h
  match hb : byt s, h0 with
  | c :: r, h0 =>
    simp at h0
    rw [← h0]
    simp only [Lib.hasPrefix]
    by_cases hc : c = 34
    · subst hc; rfl
    · have : ¬ (34 : UInt8) = c := fun e => hc e.symm
      rw [decide_eq_false hc]
      show ((34 : UInt8) == c && _) = false
      rw [beq_eq_false_iff_ne.2 this]; rfl
theorem b34n_t {c : UInt8} (h : c = 34) : ((c.toNat : Int) != 34) = false := by rw [h]; rfl
theorem b34n_f {c : UInt8} (h : c ≠ 34) : ((c.toNat : Int) != 34) = true := by
  rw [bne_iff_ne]; intro e; apply h; rw [← UInt8.toNat_inj]; simp; omega

/-- What the inner loop has found so far. -/
def Seen (s : ByteArray) (w : World) (k : Nat) (done : List UInt8) (j : Nat) (v at_ found : Value) (wr : World) : Prop :=
  (found = .bool false ∧ at_ = .int .i64 k ∧ Bys wr w.heap.size v done ∧ ∀ x : UInt8, x.toNat < j → isPre (escF x) ((byt s).drop k) = false) ∨
  (found = .bool true ∧ ∃ (x : UInt8) (n : Nat), rb ((byt s).drop k) = some (x, n) ∧ at_ = .int .i64 ((k + n : Nat) : Int) ∧ Bys wr w.heap.size v (done ++ [x]))

end Go.Proofs.YtocmnobcccjenaaDoor
