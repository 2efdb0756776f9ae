/- leads, of both directions; meeting, end. -/
import Derived.Test.YtablaacddbkeiaaGreatDoorLtL
import Derived.Outline
namespace Go.Proofs.YtablaacddbkeiaaGreatDoor
open Go.RowKit

theorem and1 (y : Int) (h0 : 0 ≤ y) (h1 : y < 256) : bits BinOp.and IntKind.u8 y 1 = y % 2 := by
  have key : ∀ c : Fin 256, bits BinOp.and IntKind.u8 ((c.val : Nat) : Int) 1 = ((c.val : Nat) : Int) % 2 := by decide +kernel
  have := key ⟨y.toNat, by omega⟩
  simpa [Int.toNat_of_nonneg h0] using this
theorem bit_u8 (c : UInt8) (b : Nat) : (bits BinOp.and IntKind.u8 ((c.toNat : Int) / 2 ^ b) 1 == 1) = c.toNat.testBit b := by
  have h1 := c.toNat_lt
  have h2 : c.toNat / 2 ^ b ≤ c.toNat := Nat.div_le_self _ _
  have e : ((c.toNat : Int) / 2 ^ b) = ((c.toNat / 2 ^ b : Nat) : Int) := by push_cast; rfl
  have h3 : (0 : Int) ≤ (c.toNat : Int) / 2 ^ b ∧ (c.toNat : Int) / 2 ^ b < 256 := by
    rw [e]
    generalize c.toNat / 2 ^ b = d at h2
    omega
  rw [and1 _ h3.1 h3.2]
  exact bit_int _ _
theorem le_get (up : List UInt8) (a b : Nat) (ha : a < up.length) : le up a b = up[a].toNat.testBit b := by unfold le; rw [List.getD_eq_getElem?_getD, List.getElem?_eq_getElem ha]; rfl

set_option maxHeartbeats 400000 in
theorem up_any (v : Value) (up : List UInt8) (a b : Nat) (B : Nat) (w : World) (hv : RdB B w v up) (ha : a < up.length) (hb : b ≤ 8) :
    Calls Tryz.prog 75 #[v, .int .i64 a, .int .i64 b] w fun e w' => e = .returned (.bool (le up a b)) ∧ w = w' := by
  obtain ⟨p, cap, rfl, hc, hc2, h⟩ := hv
  obtain ⟨g, off, rfl, hg, hcell⟩ := h (by intro e; rw [e] at ha; simp at ha)
  have hx := hcell a ha
  have HB := Lib.hid (bit_u8 up[a] b)
  rw [le_get up a b ha]
  have hlo := up[a].toNat_lt
  clear hcell h
  go_enter Tryz.func75, Tryz.ntmps75
  go_wp2
  go_ret
  exact ⟨ret_bool HB.out, rfl⟩

set_option maxHeartbeats 400000 in
theorem down_any (v : Value) (up : List UInt8) (a b : Nat) (B : Nat) (w : World) (hv : RdB B w v up) (hb : b < up.length) (ha : a ≤ 8) :
    Calls Tryz.prog 85 #[v, .int .i64 a, .int .i64 b] w fun e w' => e = .returned (.bool (ge up a b)) ∧ w = w' := by
  obtain ⟨p, cap, rfl, hc, hc2, h⟩ := hv
  obtain ⟨g, off, rfl, hg, hcell⟩ := h (by intro e; rw [e] at hb; simp at hb)
  have hx := hcell b hb
  have HB := Lib.hid (bit_u8 up[b] a)
  have he : ge up a b = up[b].toNat.testBit a := le_get up b a hb
  rw [he]
  have hlo := up[b].toNat_lt
  clear hcell h he
  go_enter Tryz.func85, Tryz.ntmps85
  go_wp2
  go_ret
  exact ⟨ret_bool HB.out, rfl⟩
end Go.Proofs.YtablaacddbkeiaaGreatDoor
