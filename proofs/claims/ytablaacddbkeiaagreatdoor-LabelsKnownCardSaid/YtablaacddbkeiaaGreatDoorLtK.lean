/- cloneNames, readRow. -/
import Derived.Test.YtablaacddbkeiaaGreatDoorLtP
namespace Go.Proofs.YtablaacddbkeiaaGreatDoor
open Go.RowKit

theorem own_rd {α : Type} {f : α → Value} {w : World} {base : Nat} {e : TypeId} {v : Value} {l : List α} (h : w.ownsRow base e 1 v l.length (l.map f)) : Rd f w.heap.size w v l := by
  rcases h.2 with ⟨rfl, h0⟩ | ⟨g, cap, cur, rfl, hg, hh, r1, r2, r3, r4⟩
  · have : l = [] := List.length_eq_zero_iff.1 h0
    subst this
    exact ⟨none, 0, rfl, Nat.le_refl _, by omega, fun h => absurd rfl h⟩
  · have hlt : g < w.heap.size := (Array.getElem?_eq_some_iff.1 hh).1
    refine ⟨_, cap, rfl, r1, by unfold maxLen at r2; omega, fun _ => ⟨g, 0, rfl, hlt, fun j hj => ?_⟩⟩
    have := World.ownsRow.cellAt h j (by omega)
    rw [Nat.zero_add, this]
    simp [List.getElem?_eq_getElem hj]
theorem row_rd {w : World} {b : Nat} {l : List UInt8} {n : Nat} (hn : l.length = n) (hl : l.length ≤ 1000) (h : w.rowIs b 5 n (fun i => vb (l.getD i 0))) : RdB w.heap.size w (.slice (some ⟨b, 0, none⟩) n n) l := by
  subst hn
  refine ⟨_, _, rfl, Nat.le_refl _, by omega, fun _ => ⟨b, 0, rfl, h.lt, fun j hj => ?_⟩⟩
  rw [Nat.zero_add, h.cell hj, List.getD_eq_getElem?_getD, List.getElem?_eq_getElem hj]; rfl

theorem clone_any (s : ByteArray) (w : World) (hs : s.size ≤ 281474976710656) :
    Calls Tryz.prog 23 #[.string s] w fun e w' => e = .returned (.string s) ∧ Below w.heap.size w w' := by
  go_enter Tryz.func23, Tryz.ntmps23
  go_wp2_with (go_at_call 48; refine (Tryz.stringslite_Clone _ _ hs).mono ?_; rintro e w' ⟨rfl, hb⟩)
  go_ret
  exact ⟨rfl, hb⟩
theorem info9 : (Tryz.prog.info? 9).map (fun i => (i.zero, i.size, i.bytes)) = some (some (.string ByteArray.empty), 1, 16) := by kernel_rfl

set_option maxRecDepth 100000 in
set_option maxHeartbeats 2000000 in
theorem cloneNames_any (v : Value) (ns : List ByteArray) (w : World) (hv : RdS w.heap.size w v ns) (hs : ∀ s ∈ ns, s.size ≤ 281474976710656) (hn : ns.length ≤ 1000) :
    Calls Tryz.prog 86 #[v] w fun e w' => ∃ u, e = .returned u ∧ w'.ownsRow w.heap.size 9 1 u ns.length (ns.map vs) ∧ Below w.heap.size w w' := by
  have HV := Lib.hid hv
  obtain ⟨p, cap, rfl, hc, hc2, h⟩ := hv
  have HS := Lib.hid hs; clear hs
  clear h
  obtain ⟨i0, hi, hz0, hz1, hz2⟩ := info_parts info9
  obtain ⟨W1, hmk, hown0, hg0⟩ := run_make_own (P := Tryz.prog) (w := w) w.heap.size 22 9 i0 (.string ByteArray.empty) 1 Tryz.underlying22 hi hz0 hz1 .i64 .i64 ns.length (by rw [hz2]; omega) (by unfold maxLen; omega) (Nat.le_refl _)
  have HB0 : Hid (Below w.heap.size w W1) := (Below.refl _ _).grown hg0 (Nat.le_refl _) (by simp)
  clear hg0
  go_enter Tryz.func86, Tryz.ntmps86
  go_wp2
  clear hmk
  go_loopg [3, 11] ns.length (fun g u i wr => ∃ k : Nat, k + g = ns.length ∧ i = .int .i64 k ∧ Below w.heap.size w wr ∧ wr.ownsRow w.heap.size 9 1 u (ns.take k).length ((ns.take k).map vs))
  case atStart => exact ⟨0, by omega, rfl, HB0.out, hown0⟩
  case round =>
    obtain ⟨k, hkg, rfl, hbl, hrow⟩ := hrel
    cases gk with
    | zero =>
      have hkz : ¬ ((k : Int) < (ns.length : Int)) := by omega
      have HK : Hid (ns.take k = ns) := List.take_of_length_le (by omega)
      go_wp2
      go_ret
      exact ⟨_, rfl, by rw [HK.out] at hrow; exact hrow, hbl⟩
    | succ g =>
      have hlt : (k : Int) < (ns.length : Int) := by omega
      have hk : k < ns.length := by omega
      obtain ⟨b0, off, rfl, hlt0, hx⟩ := (HV.out.below hbl).at k hk
      have hsk := HS.out ns[k] (List.getElem_mem hk)
      have htl : (ns.take k).length ≤ 1000 := by rw [List.length_take]; omega
      have HT : Hid (ns.take (k + 1) = ns.take k ++ [ns[k]]) := List.take_succ_eq_append_getElem hk
      have hsz := hbl.size
      generalize hL : ns.take k = L at hrow htl HT
      clear hL
      go_wp2_with fail
      refine (clone_any ns[k] wr hsk).mono ?_
      rintro e w2 ⟨rfl, hb2⟩
      have hs2 := hb2.size
      have hrow2 := own_below hrow hb2
      have hbl2 := hbl.trans (hb2.mono hsz)
      clear hrow
      go_wp2_with (at_builtin; refine wpList_append_own _ rfl _ _ 22 rfl w.heap.size 9 i0 (.string ByteArray.empty) 1 16 Tryz.underlying22 hi hz0 hz1 hz2 rfl (by decide) _ _ _ rfl (World.ownsRow.alloc hrow2 _) ⟨w2.heap.size, 0, none⟩ 1 1 [.string ns[k]] rfl rfl (cells_new w2 #[.string ns[k]] _ _) (by simp [Value.oneCell']) (by unfold maxLen; omega) (by omega) (by simp; omega) ?_; intro v4 w4 hown4 hgrow4 _)
      go_roundg g
      case measure => omega
      case rel => exact ⟨k + 1, by omega, by go_num, (hbl2.alloc (by omega) _).grown hgrow4 (by simp; omega) (fun j e => (World.ownsRow.lt hrow2 j e).1), by rw [HT.out, List.length_append, List.map_append]; exact hown4⟩

/-! readRow. -/
def rrN (l : List UInt8) (k : Nat) : Nat := (List.range k).foldl (fun x i => if l.getD i 0 == 49 then x ||| 2 ^ i else x) 0
def rr1 (l : List UInt8) (i : Nat) : Bool := !(l.getD i 0 == 48) && !(l.getD i 0 == 49)
/-- Whether it is a row among n labels. -/
def rrB (l : List UInt8) (n : Nat) : Bool := decide (l.length = n) && !(List.range n).any (rr1 l)
def rowV (l : List UInt8) (n : Nat) : Int := if rrB l n then (rrN l n : Int) else 0
theorem rowV_no {l : List UInt8} {n : Nat} (h : rrB l n = false) : rowV l n = 0 := by unfold rowV; rw [h]; rfl
theorem rowV_yes {l : List UInt8} {n : Nat} (h : rrB l n = true) : rowV l n = (rrN l n : Int) := by unfold rowV; rw [h]; rfl
theorem or_u8 (x i : Nat) (hx : x < 256) (hi : i < 8) : bits BinOp.or IntKind.u8 (x : Int) (2 ^ i % 256) = ((x ||| 2 ^ i : Nat) : Int) := by
  have key : ∀ (c : Fin 256) (j : Fin 8), bits BinOp.or IntKind.u8 ((c.val : Nat) : Int) (2 ^ j.val % 256) = ((c.val ||| 2 ^ j.val : Nat) : Int) := by decide +kernel
  exact key ⟨x, hx⟩ ⟨i, hi⟩
theorem byt_at {s : ByteArray} {k : Nat} (h : k < s.size) : (byt s).getD k 0 = s[k] := by
  rw [List.getD_eq_getElem?_getD, List.getElem?_eq_getElem (by rw [byt_len]; exact h), byt_get s k h]; rfl
theorem is_byte {s : ByteArray} {k : Nat} (h : k < s.size) (c : UInt8) : ((byt s).getD k 0 == c) = ((s[k].toNat : Int) == (c.toNat : Int)) := by
  rw [byt_at h, Bool.eq_iff_iff]
  simp only [beq_iff_eq]
  constructor
  · intro e; rw [e]
  · intro e; exact UInt8.toNat_inj.1 (by omega)
theorem rrN_1 {l : List UInt8} {k : Nat} (h : (l.getD k 0 == 49) = true) : rrN l (k + 1) = rrN l k ||| 2 ^ k := by
  unfold rrN; rw [List.range_succ, List.foldl_append]; simp only [List.foldl_cons, List.foldl_nil]; rw [if_pos h]
theorem rrN_0 {l : List UInt8} {k : Nat} (h : (l.getD k 0 == 49) = false) : rrN l (k + 1) = rrN l k := by
  unfold rrN; rw [List.range_succ, List.foldl_append]; simp only [List.foldl_cons, List.foldl_nil]; rw [if_neg (by rw [h]; decide)]
theorem rrN_lt (l : List UInt8) (k : Nat) : rrN l k < 2 ^ k := by
  induction k with
  | zero => simp [rrN]
  | succ k ih =>
    cases h : (l.getD k 0 == 49)
    · rw [rrN_0 h]; rw [Nat.pow_succ]; omega
    · rw [rrN_1 h]
      exact Nat.or_lt_two_pow (by rw [Nat.pow_succ]; omega) (Nat.pow_lt_pow_right (by decide) (by omega))

end Go.Proofs.YtablaacddbkeiaaGreatDoor
