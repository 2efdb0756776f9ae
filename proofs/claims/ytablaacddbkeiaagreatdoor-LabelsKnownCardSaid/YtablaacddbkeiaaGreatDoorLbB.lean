/- Sets: with, has, size, setOf, labels; isLabel; upSet, downSet. -/
import Derived.Test.YtablaacddbkeiaaGreatDoorLbA
import Derived.Test.YtablaacddbkeiaaGreatDoorLtV
import Derived.Test.YtablaacddbkeiaaGreatDoorShelf
import Derived.Laws.BitsLemmas
namespace Go.Proofs.YtablaacddbkeiaaGreatDoor
open Go.RowKit

abbrev vi (z : Int) : Value := .int .i64 z
abbrev vn (a : Nat) : Value := .int .i64 (a : Int)
/-- A slice of numbers; of labels. -/
abbrev RdI := Rd vi
abbrev RdN := Rd vn
/-- A set. -/
abbrev vt (s : Nat) : Value := .int .u8 (s : Int)

theorem ones_pop (s : Nat) (h : s < 256) : Lib.onesCount s = pop s := by
  have key : ∀ i : Fin 256, Lib.onesCount i.val = pop i.val := by decide +kernel
  exact key ⟨s, h⟩
theorem shl_u8 (a : Nat) (h : a < 8) : IntKind.u8.wrap (2 ^ a) = ((2 ^ a : Nat) : Int) := by
  have key : ∀ i : Fin 8, IntKind.u8.wrap (2 ^ i.val) = ((2 ^ i.val : Nat) : Int) := by decide +kernel
  exact key ⟨a, h⟩

theorem ret_vt {s t : Int} (h : s = t) : Ending.returned (.int .u8 s) = .returned (.int .u8 t) := by rw [h]
theorem bit_nat (s a : Nat) (hs : s < 256) : (bits BinOp.and IntKind.u8 ((s : Int) / 2 ^ a) 1 == 1) = s.testBit a := by
  have := bit_u8 (UInt8.ofNat s) a
  rwa [show (UInt8.ofNat s).toNat = s by rw [UInt8.toNat_ofNat']; omega] at this
/-- Whether a label is in a set. -/
def bB (s a : Nat) : Bool := s.testBit a
theorem bB_bt (ls : List Nat) (a : Nat) : bB (bt ls) a = decide (a ∈ ls) := bt_bit ls a

set_option maxRecDepth 100000 in
set_option maxHeartbeats 1000000 in
theorem with_any (s a : Nat) (w : World) (hs : s < 256) (ha : a < 8) :
    Calls Tryz.prog 47 #[.int .u8 s, .int .i64 a] w fun e w' => e = .returned (.int .u8 ((s ||| 2 ^ a : Nat) : Int)) ∧ w = w' := by
  have HO := Lib.hid (or_u8 s a hs ha)
  go_enter Tryz.func47, Tryz.ntmps47
  go_wp2
  go_ret
  exact ⟨ret_vt HO.out, rfl⟩

set_option maxRecDepth 100000 in
set_option maxHeartbeats 1000000 in
theorem has_any (s a : Nat) (w : World) (hs : s < 256) (ha : a < 8) :
    Calls Tryz.prog 45 #[.int .u8 s, .int .i64 a] w fun e w' => e = .returned (.bool (bB s a)) ∧ w = w' := by
  have HB := Lib.hid (bit_nat s a hs)
  go_enter Tryz.func45, Tryz.ntmps45
  go_wp2
  go_ret
  exact ⟨ret_bool HB.out, rfl⟩

set_option maxRecDepth 100000 in
set_option maxHeartbeats 1000000 in
theorem size_any (s : Nat) (w : World) (hs : s < 256) :
    Calls Tryz.prog 46 #[.int .u8 s] w fun e w' => e = .returned (.int .i64 (pop s)) ∧ w = w' := by
  have h := Tryz.bits_OnesCount8 (s : Int) w (by omega) (by omega)
  rw [Int.toNat_natCast, ones_pop s hs] at h
  go_enter Tryz.func46, Tryz.ntmps46
  go_wp2_with (go_at_call 71; refine h.mono ?_; rintro e w' ⟨rfl, rfl⟩)
  go_ret
  exact ⟨rfl, rfl⟩

/-- Whether a number is that of a label. -/
def isL (n : Nat) (a : Int) : Bool := decide (0 ≤ a) && decide (a < (n : Int))
theorem isL_nat {n a : Nat} (h : a < n) : isL n (a : Int) = true := by unfold isL; simp; omega
theorem isL_iff {n : Nat} {a : Int} : isL n a = true ↔ 0 ≤ a ∧ a < n := by unfold isL; simp

set_option maxRecDepth 100000 in
set_option maxHeartbeats 1000000 in
theorem isLabel_any (v : Value) (ns : List ByteArray) (up : List UInt8) (a : Int) (w : World) (hv : RdL w.heap.size w v ns up) :
    Calls Tryz.prog 44 #[v, .int .i64 a] w fun e w' => e = .returned (.bool (isL ns.length a)) ∧ Below w.heap.size w w' := by
  obtain ⟨⟨vn, vu, rfl, hS, hB⟩, hsz⟩ := hv
  obtain ⟨p, cap, rfl, hc, hc2, h⟩ := hS
  obtain ⟨q, cap', rfl, hc', hc2', h'⟩ := hB
  clear h h' hsz
  by_cases h0 : 0 ≤ a
  · have HK : Hid (isL ns.length a = decide (a < (ns.length : Int))) := by unfold Hid isL; rw [decide_eq_true h0, Bool.true_and]
    go_enter Tryz.func44, Tryz.ntmps44
    go_wp2
    go_ret
    exact ⟨ret_bool HK.out.symm, bel1 _ _⟩
  · have HK : Hid (isL ns.length a = false) := by unfold Hid isL; rw [decide_eq_false h0, Bool.false_and]
    go_enter Tryz.func44, Tryz.ntmps44
    go_wp2
    go_ret
    exact ⟨ret_bool HK.out.symm, bel1 _ _⟩

set_option maxRecDepth 100000 in
set_option maxHeartbeats 1000000 in
theorem setOf_any (v : Value) (ls : List Nat) (w : World) (hv : RdN w.heap.size w v ls) (hl : ∀ a ∈ ls, a < 8) :
    Calls Tryz.prog 42 #[v] w fun e w' => e = .returned (.int .u8 (bt ls)) ∧ w = w' := by
  have HV := Lib.hid hv
  have HL := Lib.hid hl
  obtain ⟨p, cap, rfl, hc, hc2, h⟩ := hv
  clear h hl
  go_enter Tryz.func42, Tryz.ntmps42
  go_wp2
  go_loopg [3, 8] ls.length (fun g s i wr => ∃ k t : Nat, k + g = ls.length ∧ i = .int .i64 k ∧ s = .int .u8 t ∧ w = wr ∧ t < 256 ∧ Hid (bt (ls.take k) = t))
  case atStart => exact ⟨0, 0, by omega, rfl, rfl, rfl, by decide, rfl⟩
  case round =>
    obtain ⟨k, t, hkg, rfl, rfl, rfl, htl, hq⟩ := hrel
    cases gk with
    | zero =>
      have hkz : ¬ ((k : Int) < (ls.length : Int)) := by omega
      have HM : Hid (bt ls = t) := by
        have := hq.out
        rwa [List.take_of_length_le (by omega)] at this
      clear hq
      go_wp2
      go_ret
      exact ⟨ret_vt (by rw [HM.out]), rfl⟩
    | succ g =>
      have hlt : (k : Int) < (ls.length : Int) := by omega
      have hk : k < ls.length := by omega
      obtain ⟨b0, off, rfl, hlt0, hx⟩ := HV.out.at k hk
      have hl8 := HL.out ls[k] (List.getElem_mem hk)
      have HT : Hid (bt (ls.take (k + 1)) = t ||| 2 ^ ls[k]) := by unfold Hid; rw [bt_take hk, hq.out]
      go_wp2_with (go_at_call 47; refine (with_any _ _ _ htl hl8).mono ?_; rintro e w' ⟨rfl, rfl⟩)
      go_roundg g
      case measure => omega
      case rel => exact ⟨k + 1, t ||| 2 ^ ls[k], by omega, by go_num, rfl, rfl, or_pow_lt (k := 8) htl hl8, HT⟩

/-! Lists of the call's own. -/
/-- A row of labels of the call's own. -/
def Own (base : Nat) (w : World) (v : Value) (l : List Nat) : Prop := w.ownsRow base 3 1 v l.length (l.map vn)
theorem Own.rd {base : Nat} {w : World} {v : Value} {l : List Nat} (h : Own base w v l) : RdN w.heap.size w v l := own_rd h
theorem info3 : (Tryz.prog.info? 3).map (fun i => (i.zero, i.size, i.bytes)) = some (some (.int .i64 0), 1, 8) := by kernel_rfl
theorem own_snoc {base : Nat} {w : World} {v : Value} {l : List Nat} {a : Nat} (h : w.ownsRow base 3 1 v (l.length + 1) (l.map vn ++ [.int .i64 (a : Int)])) : Own base w v (l ++ [a]) := by
  unfold Own; rw [List.length_append, List.map_append]; exact h

set_option maxRecDepth 100000 in
set_option maxHeartbeats 2000000 in
theorem labels_any (s : Nat) (w : World) (hs : s < 256) :
    Calls Tryz.prog 43 #[.int .u8 s] w fun e w' => ∃ v, e = .returned v ∧ Own w.heap.size w' v (lbl s) ∧ Below w.heap.size w w' := by
  obtain ⟨i0, hi, hz0, hz1, hz2⟩ := info_parts info3
  go_enter Tryz.func43, Tryz.ntmps43
  go_wp2
  go_loopg [3, 5] 8 (fun g v i wr => ∃ k : Nat, k + g = 8 ∧ i = .int .i64 k ∧ Below w.heap.size w wr ∧ Own w.heap.size wr v (lbK s k))
  case atStart => exact ⟨0, by omega, rfl, Below.refl _ _, World.ownsRow_nil _ _ _ _⟩
  case round =>
    obtain ⟨k, hkg, rfl, hbl, hrow⟩ := hrel
    cases gk with
    | zero =>
      have hkz : ¬ ((k : Int) < 8) := by omega
      have HK : Hid (k = 8) := by unfold Hid; omega
      go_wp2
      go_ret
      exact ⟨_, rfl, by rw [HK.out] at hrow; exact hrow, hbl⟩
    | succ g =>
      have hlt : (k : Int) < 8 := by omega
      have hk8 : k < 8 := by omega
      have hsz := hbl.size
      cases c1 : bB s k with
      | false =>
        have HR : Hid (lbK s (k + 1) = lbK s k) := lbK_no c1
        go_wp2_with (go_at_call 45; refine (has_any _ _ _ hs hk8).mono ?_; rintro e w' ⟨rfl, rfl⟩)
        go_roundg g
        case measure => omega
        case rel => exact ⟨k + 1, by omega, by go_num, hbl, by rw [HR.out]; exact hrow⟩
      | true =>
        have HR : Hid (lbK s (k + 1) = lbK s k ++ [k]) := lbK_yes c1
        have hln : (lbK s k).length ≤ 8 := Nat.le_trans (lbK_len s k) (by omega)
        generalize hL : lbK s k = L at hrow hln HR
        clear hL
        go_wp2_with (first
          | (go_at_call 45; refine (has_any _ _ _ hs hk8).mono ?_; rintro e w' ⟨rfl, rfl⟩)
          | (at_builtin; refine wpList_append_own _ rfl _ _ 26 rfl w.heap.size 3 i0 (.int .i64 0) 1 8 Tryz.underlying26 hi hz0 hz1 hz2 rfl (by decide) _ _ _ rfl (World.ownsRow.alloc hrow _) ⟨wr.heap.size, 0, none⟩ 1 1 [.int .i64 k] rfl rfl (cells_new wr #[.int .i64 k] _ _) (by simp [Value.oneCell']) (by unfold maxLen; omega) (by omega) (by simp; omega) ?_; intro v4 w4 hown4 hgrow4 _))
        go_roundg g
        case measure => omega
        case rel => exact ⟨k + 1, by omega, by go_num, (hbl.alloc (by omega) _).grown hgrow4 (by simp; omega) (fun j e => (World.ownsRow.lt hrow j e).1), by rw [HR.out]; exact own_snoc hown4⟩

/-! The labels at or above, at or below one. -/
def upN (up : List UInt8) (a : Nat) : Nat := (up.getD a 0).toNat
theorem upN_lt (up : List UInt8) (a : Nat) : upN up a < 256 := UInt8.toNat_lt _
theorem upN_bit (up : List UInt8) (a b : Nat) : bB (upN up a) b = le up a b := rfl
/-- The labels at or below a. -/
def dnN (up : List UInt8) (a : Nat) : Nat := upN (dnU up) a
theorem dnN_lt (up : List UInt8) (a : Nat) : dnN up a < 256 := upN_lt _ _
theorem dnN_eq {up : List UInt8} {a : Nat} (ha : a < up.length) (hn : up.length ≤ 8) : dnN up a = dn1 up a up.length := by
  unfold dnN upN dnU
  rw [List.getD_eq_getElem?_getD, List.getElem?_map, List.getElem?_range ha]
  simp only [Option.map_some, Option.getD_some, UInt8.toNat_ofNat']
  have h1 := dn1_lt up a up.length
  have h2 : 2 ^ up.length ≤ 2 ^ 8 := Nat.pow_le_pow_right (by decide) hn
  rw [Nat.mod_eq_of_lt (by omega)]
theorem dnN_bit {up : List UInt8} {a b : Nat} (ha : a < up.length) (hb : b < up.length) (hn : up.length ≤ 8) : bB (dnN up a) b = le up b a := by
  rw [dnN_eq ha hn]; unfold bB; rw [dn1_bit, decide_eq_true hb]; rfl
theorem dnN_pop {up : List UInt8} {a : Nat} (ha : a < up.length) (hn : up.length ≤ 8) : pop (dnN up a) = lv up a := by rw [dnN_eq ha hn, pop_dn up a hn]

set_option maxRecDepth 100000 in
set_option maxHeartbeats 1000000 in
theorem upSet_any (v : Value) (ns : List ByteArray) (up : List UInt8) (a : Nat) (w : World) (hv : RdL w.heap.size w v ns up) (ha : a < up.length) :
    Calls Tryz.prog 41 #[v, .int .i64 a] w fun e w' => e = .returned (.int .u8 (upN up a)) ∧ Below w.heap.size w w' := by
  obtain ⟨⟨vn, vu, rfl, hS, hB⟩, hsz⟩ := hv
  obtain ⟨p, cap, rfl, hc, hc2, h⟩ := hS
  obtain ⟨q, cap', rfl, hc', hc2', h'⟩ := hB
  obtain ⟨g, off, rfl, hg, hcell⟩ := h' (by intro e; rw [e] at ha; simp at ha)
  have hx := hcell a ha
  have HU : Hid (upN up a = up[a].toNat) := by unfold Hid upN; rw [List.getD_eq_getElem?_getD, List.getElem?_eq_getElem ha]; rfl
  clear hcell h hsz
  go_enter Tryz.func41, Tryz.ntmps41
  go_wp2
  go_ret
  exact ⟨ret_vt (by rw [HU.out]), bel1 _ _⟩

set_option maxRecDepth 100000 in
set_option maxHeartbeats 1000000 in
theorem downSet_any (v : Value) (ns : List ByteArray) (up : List UInt8) (a : Nat) (w : World) (hv : RdL w.heap.size w v ns up) (hg : Good ns up) (ha : a < up.length) :
    Calls Tryz.prog 40 #[v, .int .i64 a] w fun e w' => e = .returned (.int .u8 (dnN up a)) ∧ Below w.heap.size w w' := by
  have HL := Lib.hid hv
  obtain ⟨⟨vn, vu, rfl, hS, hB⟩, hsz⟩ := hv
  obtain ⟨p, cap, rfl, hc, hc2, h⟩ := hS
  obtain ⟨q, cap', rfl, hc', hc2', h'⟩ := hB
  clear h h' hsz
  have HG := Lib.hid hg
  clear hg
  have hal : a < (dnU up).length := by rw [dnU_len]; exact ha
  have HI := Lib.hid (Bx.new HL.out)
  go_enter Tryz.func40, Tryz.ntmps40
  go_wp2_with (first
    | (go_at_call 70; refine (dual_ok _ ns up _ HI.out.rd HG.out).mono ?_; rintro e wc ⟨dv, rfl, hP, hbn⟩; have HP7 := Lib.hid hP; obtain ⟨⟨V1, V2, rfl, ⟨da, dc, rfl, V5⟩, ⟨db, dd, rfl, V8⟩⟩, V9⟩ := hP; clear V5 V8 V9; have HC := Lib.hid (Bx.new HP7.out); have hd0 := HC.out.x0; have hd1 := HC.out.x1; clear HP7; have HI2 := Lib.hid (HI.out.next hbn); clear HI; have HI := HI2; clear HI2; clear hbn)
    | (go_at_call 41; refine (upSet_any _ ns (dnU up) a _ HC.out.rd hal).mono ?_; rintro e w' ⟨rfl, hbn⟩))
  go_ret
  exact ⟨rfl, HI.out.bel.trans ((bel2 hbn).mono HI.out.bel.size)⟩
end Go.Proofs.YtablaacddbkeiaaGreatDoor
