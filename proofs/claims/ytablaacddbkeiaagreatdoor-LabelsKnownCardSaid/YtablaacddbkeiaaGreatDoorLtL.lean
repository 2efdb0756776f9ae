/- Slices of bytes and of strings that can be read; a lattice that can be read. -/
import Derived.Test.YtablaacddbkeiaaGreatDoorLtN
import Derived.Below
import Derived.Lib.DecodeNEq
import Derived.Deep.QuietTactic
import Derived.BigQuiet
namespace Go.Proofs.YtablaacddbkeiaaGreatDoor
open Go.RowKit

theorem cell_of_block {w : World} {b : Nat} {cs : Array Value} {t : TypeId} {z : Nat × Nat} (h : w.heap[b]? = some (.cells cs t z)) (i : Nat) : w.cell? ⟨b, i, none⟩ = cs[i]? := by
  simp [World.cell?, h]

/-- A slice that can be read, its cells below B. -/
def Rd {α : Type} (f : α → Value) (B : Nat) (w : World) (v : Value) (l : List α) : Prop :=
  ∃ a cap, v = .slice a l.length cap ∧ l.length ≤ cap ∧ cap ≤ 9223372036854775807 ∧ (l ≠ [] → ∃ b off, a = some ⟨b, off, none⟩ ∧ b < B ∧ ∀ j (h : j < l.length), w.cell? ⟨b, off + j, none⟩ = some (f l[j]))
theorem Rd.below {α : Type} {f : α → Value} {B : Nat} {w w' : World} {v : Value} {l : List α} (h : Rd f B w v l) (hb : Below B w w') : Rd f B w' v l := by
  obtain ⟨a, cap, hv, hc, hc2, h⟩ := h
  refine ⟨a, cap, hv, hc, hc2, fun hn => ?_⟩
  obtain ⟨b, off, ha, hlt, hcell⟩ := h hn
  exact ⟨b, off, ha, hlt, fun j hj => (hb.cell (p := ⟨b, off + j, none⟩) hlt).trans (hcell j hj)⟩
theorem Rd.mono {α : Type} {f : α → Value} {B B' : Nat} {w : World} {v : Value} {l : List α} (h : Rd f B w v l) (hb : B ≤ B') : Rd f B' w v l := by
  obtain ⟨a, cap, hv, hc, hc2, h⟩ := h
  refine ⟨a, cap, hv, hc, hc2, fun hn => ?_⟩
  obtain ⟨b, off, ha, hlt, hcell⟩ := h hn
  exact ⟨b, off, ha, Nat.lt_of_lt_of_le hlt hb, hcell⟩
theorem Rd.next {α : Type} {f : α → Value} {w w' : World} {v : Value} {l : List α} (h : Rd f w.heap.size w v l) (hb : Below w.heap.size w w') : Rd f w'.heap.size w' v l :=
  (h.below hb).mono hb.size
/-- The first k. -/
theorem Rd.take {α : Type} {f : α → Value} {B : Nat} {w : World} {a : Option Addr} {n cap : Nat} {l : List α} (h : Rd f B w (.slice a n cap) l) (k : Nat) (hk : k ≤ l.length) : Rd f B w (.slice a k cap) (l.take k) := by
  obtain ⟨a1, cap1, hv, hc, hc2, h⟩ := h
  injection hv with e1 e2 e3
  subst e1 e2 e3
  refine ⟨_, _, by rw [List.length_take, Nat.min_eq_left hk], by rw [List.length_take]; omega, hc2, fun hn => ?_⟩
  obtain ⟨b, off, ha, hlt, hcell⟩ := h (by intro e; rw [e] at hn; simp at hn)
  exact ⟨b, off, ha, hlt, fun j hj => by
    rw [List.length_take] at hj
    rw [hcell j (by omega)]; simp⟩
abbrev vb (c : UInt8) : Value := .int .u8 (c.toNat : Int)
abbrev vs (s : ByteArray) : Value := .string s
abbrev RdB := Rd vb
abbrev RdS := Rd vs
/-- A lattice that can be read. -/
def RdL (B : Nat) (w : World) (v : Value) (ns : List ByteArray) (up : List UInt8) : Prop :=
  (∃ vn vu, v = .agg #[vn, vu] ∧ RdS B w vn ns ∧ RdB B w vu up) ∧ ∀ s ∈ ns, s.size ≤ 9223372036854775807
theorem RdL.below {B : Nat} {w w' : World} {v : Value} {ns : List ByteArray} {up : List UInt8} (h : RdL B w v ns up) (hb : Below B w w') : RdL B w' v ns up := by
  obtain ⟨⟨vn, vu, hv, h1, h2⟩, hs⟩ := h
  exact ⟨⟨vn, vu, hv, h1.below hb, h2.below hb⟩, hs⟩
theorem RdL.mono {B B' : Nat} {w : World} {v : Value} {ns : List ByteArray} {up : List UInt8} (h : RdL B w v ns up) (hb : B ≤ B') : RdL B' w v ns up := by
  obtain ⟨⟨vn, vu, hv, h1, h2⟩, hs⟩ := h
  exact ⟨⟨vn, vu, hv, h1.mono hb, h2.mono hb⟩, hs⟩
theorem RdL.next {w w' : World} {v : Value} {ns : List ByteArray} {up : List UInt8} (h : RdL w.heap.size w v ns up) (hb : Below w.heap.size w w') : RdL w'.heap.size w' v ns up := (h.below hb).mono hb.size

theorem ret_int {k : IntKind} {a b : Int} (h : a = b) : Ending.returned (.int k a) = .returned (.int k b) := by rw [h]
theorem below_drewN {B : Nat} {a w : World} (h : Below B a w) (n : Nat) : Below B a (w.drewN n) := ⟨h.os, h.tape, h.output, h.size, h.block⟩

theorem le_bit (x b : Nat) : decide ((x / 2 ^ b) % 2 = 1) = x.testBit b := by
  rw [Nat.testBit_eq_decide_div_mod_eq]
theorem bit_int (x b : Nat) : ((((x : Int) / 2 ^ b) % 2) == 1) = x.testBit b := by
  rw [Nat.testBit_eq_decide_div_mod_eq, Bool.eq_iff_iff]
  simp only [beq_iff_eq, decide_eq_true_eq]
  constructor
  · intro h
    have : (((x / 2 ^ b % 2 : Nat) : Int)) = 1 := by push_cast; exact h
    omega
  · intro h
    have : (((x / 2 ^ b % 2 : Nat) : Int)) = 1 := by rw [h]; rfl
    push_cast at this; exact this
end Go.Proofs.YtablaacddbkeiaaGreatDoor
