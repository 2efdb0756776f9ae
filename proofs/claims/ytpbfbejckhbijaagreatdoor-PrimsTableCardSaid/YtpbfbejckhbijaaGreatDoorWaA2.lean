/- The leaves once more, at a byte. -/
import Derived.Test.YtpbfbejckhbijaaGreatDoorWaA
import Derived.Lib.Hide
import Derived.Lib.Strings
namespace Go.Proofs.YtpbfbejckhbijaaGreatDoor
open Go.RowKit

def lt8 (c : UInt8) : Bool := letB c.toNat
def dg8 (c : UInt8) : Bool := digB c.toNat
def pl8 (c : UInt8) : Bool := plainB c.toNat
theorem u8_lt (c : UInt8) : (c.toNat : Int) ≤ 255 := by have := c.toNat_lt; omega
theorem nt {b : Bool} (h : (!b) = true) : b = false := by simpa using h
theorem nf {b : Bool} (h : (!b) = false) : b = true := by simpa using h
/-- The bytes of a string. -/
def byt (s : ByteArray) : List UInt8 := s.data.toList
theorem byt_eq (s : ByteArray) : s.toList = byt s := Lib.toList_data s
theorem byt_len (s : ByteArray) : (byt s).length = s.size := by simp [byt]
theorem byt_get (s : ByteArray) (k : Nat) (h : k < s.size) : (byt s)[k]'(by rw [byt_len]; exact h) = s[k] := rfl
theorem take_snoc (s : ByteArray) (k : Nat) (h : k < s.size) : (byt s).take (k + 1) = (byt s).take k ++ [s[k]] := by
  rw [List.take_succ_eq_append_getElem (by simpa [byt] using h)]; rfl
theorem all_snoc (p : UInt8 → Bool) (s : ByteArray) (k : Nat) (h : k < s.size) : ((byt s).take (k + 1)).all p = (((byt s).take k).all p && p s[k]) := by
  rw [take_snoc s k h]; simp
theorem all_of_take (p : UInt8 → Bool) (s : ByteArray) (k : Nat) (h : s.size ≤ k) : ((byt s).take k).all p = (byt s).all p := by
  rw [List.take_of_length_le (by rw [byt_len]; exact h)]
theorem all_no (p : UInt8 → Bool) (s : ByteArray) (k : Nat) (h : k < s.size) (hp : p s[k] = false) : (byt s).all p = false := by
  rw [← List.take_append_drop (k+1) (byt s), List.all_append, all_snoc p s k h, hp]; simp
theorem byt_cons (s : ByteArray) (h : 0 < s.size) : byt s = s[0] :: (byt s).tail := by
  have := byt_get s 0 h
  match hb : byt s, byt_len s with
  | [], hl => simp at hl; omega
  | a :: r, _ => simp only [hb] at this; simpa using this
theorem nil_of_size (s : ByteArray) (h : ¬ 0 < s.size) : s.toList = [] := by
  rw [byt_eq]; exact List.eq_nil_of_length_eq_zero (by rw [byt_len]; omega)
theorem byt_mk (l : List UInt8) : byt ⟨l.toArray⟩ = l := by simp [byt]
theorem size_mk (l : List UInt8) : (⟨l.toArray⟩ : ByteArray).size = l.length := by simp [ByteArray.size]
theorem mk_byt (s : ByteArray) : (⟨(byt s).toArray⟩ : ByteArray) = s := by simp [byt]
theorem ret_i64' {a b : Int} (h : a = b) : Ending.returned (.int .i64 a) = .returned (.int .i64 b) := by rw [h]
theorem ret_two {a b c d : Value} (h : a = c) (k : b = d) : Ending.returned (.tuple #[a, b]) = .returned (.tuple #[c, d]) := by rw [h, k]
end Go.Proofs.YtpbfbejckhbijaaGreatDoor
