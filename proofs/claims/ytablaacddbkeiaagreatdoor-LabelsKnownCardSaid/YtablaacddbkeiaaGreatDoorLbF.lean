/- labels.Check; folds. -/
import Derived.Test.YtablaacddbkeiaaGreatDoorLbE
namespace Go.Proofs.YtablaacddbkeiaaGreatDoor
open Go.RowKit

def noL (n : Nat) (zs : List Int) (i : Nat) : Bool := !isL n (zs.getD i 0)
def lbF (n : Nat) (zs : List Int) : Option Nat := (List.range zs.length).find? (noL n zs)
def lbV (n : Nat) (zs : List Int) : Int × Int := match lbF n zs with | some i => ((i : Int), 7) | none => (0, 0)
/-- What Check returns of a list. -/
def lck (ns : List ByteArray) (up : List UInt8) (zs : List Int) : Int × Int :=
  if ((ck ns up).2 != 0) = true then (-1, (ck ns up).2) else if 64 < zs.length then (-1, 3) else lbV ns.length zs
theorem lck_A {ns : List ByteArray} {up : List UInt8} {zs : List Int} (h : ((ck ns up).2 != 0) = true) : lck ns up zs = (-1, (ck ns up).2) := if_pos h
theorem lck_B {ns : List ByteArray} {up : List UInt8} {zs : List Int} (h : ((ck ns up).2 != 0) = false) (h2 : 64 < zs.length) : lck ns up zs = (-1, 3) := by
  unfold lck; rw [if_neg (by rw [h]; decide), if_pos h2]
theorem lck_C {ns : List ByteArray} {up : List UInt8} {zs : List Int} (h : ((ck ns up).2 != 0) = false) (h2 : ¬ 64 < zs.length) : lck ns up zs = lbV ns.length zs := by
  unfold lck; rw [if_neg (by rw [h]; decide), if_neg h2]
theorem lbV_at {n i : Nat} {zs : List Int} (h : lbF n zs = some i) : lbV n zs = ((i : Int), 7) := by unfold lbV; rw [h]
theorem lbV_no {n : Nat} {zs : List Int} (h : lbF n zs = none) : lbV n zs = (0, 0) := by unfold lbV; rw [h]
theorem noL_get {n k : Nat} {zs : List Int} (h : k < zs.length) : noL n zs k = !isL n zs[k] := by unfold noL; rw [List.getD_eq_getElem?_getD, List.getElem?_eq_getElem h]; rfl

set_option maxRecDepth 100000 in
set_option maxHeartbeats 2000000 in
theorem lcheck_any (v u : Value) (ns : List ByteArray) (up : List UInt8) (zs : List Int) (w : World) (hv : RdL w.heap.size w v ns up) (hz : RdI w.heap.size w u zs) :
    Calls Tryz.prog 22 #[v, u] w fun e w' => e = .returned (.tuple #[.int .i64 (lck ns up zs).1, .int .i64 (lck ns up zs).2]) ∧ Below w.heap.size w w' := by
  have HL := Lib.hid hv
  obtain ⟨⟨vn, vu, rfl, hS, hB⟩, hsz⟩ := hv
  obtain ⟨q1, cap, rfl, hc, hc2, h⟩ := hS
  obtain ⟨q, cap', rfl, hc', hc2', h'⟩ := hB
  clear h h' hsz
  have HZ := Lib.hid hz
  obtain ⟨a, c, rfl, hl, hl2, h⟩ := hz
  clear h
  have HI := Lib.hid (Bx.new HL.out)
  cases e0 : ((ck ns up).2 != 0) with
  | true =>
    have HK : Hid (lck ns up zs = (-1, (ck ns up).2)) := lck_A e0
    go_enter Tryz.func22, Tryz.ntmps22
    go_wp2_with (go_at_call 26; refine (check_any _ ns up _ HI.out.rd).mono ?_; rintro e w' ⟨rfl, hbn⟩; have HI2 := Lib.hid (HI.out.next hbn); clear HI hbn; have HI := HI2; clear HI2)
    go_ret2
    exact ⟨ret_two (by rw [HK.out]; rfl) (by rw [HK.out]; rfl), HI.out.bel⟩
  | false =>
    by_cases h6 : (64 : Int) < (zs.length : Int)
    · have HK : Hid (lck ns up zs = (-1, 3)) := lck_B e0 (by omega)
      go_enter Tryz.func22, Tryz.ntmps22
      go_wp2_with (go_at_call 26; refine (check_any _ ns up _ HI.out.rd).mono ?_; rintro e w' ⟨rfl, hbn⟩; have HI2 := Lib.hid (HI.out.next hbn); clear HI hbn; have HI := HI2; clear HI2)
      go_ret2
      exact ⟨ret_two (by rw [HK.out]; rfl) (by rw [HK.out]; rfl), HI.out.bel⟩
    · have HK : Hid (lck ns up zs = lbV ns.length zs) := lck_C e0 (by omega)
      go_enter Tryz.func22, Tryz.ntmps22
      go_wp2_with (go_at_call 26; refine (check_any _ ns up _ HI.out.rd).mono ?_; rintro e w' ⟨rfl, hbn⟩; have HI2 := Lib.hid (HI.out.next hbn); clear HI hbn; have HI := HI2; clear HI2)
      clear e0
      go_loopg [23] zs.length (fun g i wr => ∃ k : Nat, k + g = zs.length ∧ i = .int .i64 k ∧ Bx w (.slice q1 ns.length cap) (.slice q up.length cap') ns up wr ∧ Hid ((List.range k).find? (noL ns.length zs) = none))
      case atStart => exact ⟨0, by omega, rfl, HI.out, rfl⟩
      case round =>
        clear HI
        obtain ⟨k, hkg, rfl, hix, hq⟩ := hrel
        have HI := Lib.hid hix
        have hx0 := hix.x0
        have hx1 := hix.x1
        cases gk with
        | zero =>
          have hkz : ¬ ((k : Int) < (zs.length : Int)) := by omega
          have HM : Hid (lbV ns.length zs = (0, 0)) := lbV_no (by
            have := hq.out
            rwa [show k = zs.length by omega] at this)
          clear hq hix
          go_wp2_with fail
          go_ret2
          exact ⟨ret_two (by rw [HK.out, HM.out]; rfl) (by rw [HK.out, HM.out]; rfl), HI.out.bel⟩
        | succ g =>
          have hlt : (k : Int) < (zs.length : Int) := by omega
          have hk : k < zs.length := by omega
          obtain ⟨b0, off, rfl, hlt0, hx⟩ := (HZ.out.below hix.bel).at k hk
          have HN : Hid (noL ns.length zs k = !isL ns.length zs[k]) := noL_get hk
          clear hix
          cases c1 : isL ns.length zs[k] with
          | true =>
            have HQ := Lib.hid (find_succ hq.out (by rw [HN.out, c1]; rfl))
            go_wp2_with (go_at_call 44; refine (isLabel_any _ ns up _ _ HI.out.rd).mono ?_; rintro e w' ⟨rfl, hbn⟩; clear hx0 hx1 hx; have HI2 := Lib.hid (HI.out.next hbn); clear HI hbn; have HI := HI2; clear HI2)
            go_roundg g
            case measure => omega
            case rel => exact ⟨k + 1, by omega, by go_num, HI.out, HQ⟩
          | false =>
            have HM : Hid (lbV ns.length zs = ((k : Int), 7)) := lbV_at (find_at hq.out (by rw [HN.out, c1]; rfl) hk)
            go_wp2_with (go_at_call 44; refine (isLabel_any _ ns up _ _ HI.out.rd).mono ?_; rintro e w' ⟨rfl, hbn⟩; clear hx0 hx1 hx; have HI2 := Lib.hid (HI.out.next hbn); clear HI hbn; have HI := HI2; clear HI2)
            go_ret2
            exact ⟨ret_two (by rw [HK.out, HM.out]; rfl) (by rw [HK.out, HM.out]; rfl), HI.out.bel⟩

/-! A list of labels. -/
def ints (ls : List Nat) : List Int := ls.map fun a : Nat => (a : Int)
theorem ints_len (ls : List Nat) : (ints ls).length = ls.length := by simp [ints]
theorem ints_get {ls : List Nat} {j : Nat} (h : j < ls.length) : (ints ls)[j]'(by rw [ints_len]; exact h) = ((ls[j] : Nat) : Int) := by simp [ints]

/-- A list that is one of labels. -/
structure GL (ns : List ByteArray) (up : List UInt8) (ls : List Nat) : Prop where
  good : Good ns up
  most : ls.length ≤ 64
  all : ∀ a ∈ ls, a < up.length
theorem GL.all8 {ns : List ByteArray} {up : List UInt8} {ls : List Nat} (h : GL ns up ls) : ∀ a ∈ ls, a < 8 := fun a ha => by
  have := h.all a ha; have := h.good.most; have := h.good.len; omega
theorem rd_nat {B : Nat} {w : World} {v : Value} {ls : List Nat} (h : RdI B w v (ints ls)) : RdN B w v ls := by
  obtain ⟨a, cap, hv, hc, hc2, h⟩ := h
  rw [ints_len] at hv hc
  refine ⟨a, cap, hv, hc, hc2, fun hn => ?_⟩
  obtain ⟨b, off, ha, hlt, hcell⟩ := h (by simpa [ints] using hn)
  exact ⟨b, off, ha, hlt, fun j hj => by rw [hcell j (by rw [ints_len]; exact hj), ints_get hj]⟩
theorem rd_int {B : Nat} {w : World} {v : Value} {ls : List Nat} (h : RdN B w v ls) : RdI B w v (ints ls) := by
  obtain ⟨a, cap, hv, hc, hc2, h⟩ := h
  refine ⟨a, cap, by rw [ints_len]; exact hv, by rw [ints_len]; exact hc, hc2, fun hn => ?_⟩
  obtain ⟨b, off, ha, hlt, hcell⟩ := h (by intro e; rw [e] at hn; exact hn rfl)
  exact ⟨b, off, ha, hlt, fun j hj => by rw [ints_len] at hj; rw [hcell j hj, ints_get hj]⟩
/-- Labels, where Check says so. -/
theorem gl_of {ns : List ByteArray} {up : List UInt8} {zs : List Int} (h : ((lck ns up zs).2 != 0) = false) : ∃ ls : List Nat, zs = ints ls ∧ GL ns up ls := by
  cases e0 : ((ck ns up).2 != 0) with
  | true => rw [lck_A e0] at h; simp [e0] at h
  | false =>
    by_cases h6 : 64 < zs.length
    · rw [lck_B e0 h6] at h; simp at h
    · rw [lck_C e0 h6] at h
      cases e1 : lbF ns.length zs with
      | some i => rw [lbV_at e1] at h; simp at h
      | none =>
        have hg : Good ns up := good_of (by simpa using e0)
        have hall : ∀ z ∈ zs, 0 ≤ z ∧ z < ns.length := by
          intro z hz
          obtain ⟨i, hi, rfl⟩ := List.getElem_of_mem hz
          have := range_find_none e1 i hi
          rw [noL_get hi] at this
          exact isL_iff.1 (by simpa using this)
        refine ⟨zs.map Int.toNat, ?_, hg, by rw [List.length_map]; omega, fun a ha => ?_⟩
        · unfold ints
          rw [List.map_map]
          conv => lhs; rw [← List.map_id zs]
          refine List.map_congr_left fun z hz => ?_
          have := (hall z hz).1
          show z = ((z.toNat : Nat) : Int)
          omega
        · obtain ⟨z, hz, rfl⟩ := List.mem_map.1 ha
          have := hall z hz
          have := hg.len
          omega
theorem GL.lck {ns : List ByteArray} {up : List UInt8} {ls : List Nat} (h : GL ns up ls) : lck ns up (ints ls) = (0, 0) := by
  rw [lck_C (by rw [h.good.ck]; rfl) (by rw [ints_len]; have := h.most; omega)]
  refine lbV_no (List.find?_eq_none.2 fun i hi => ?_)
  rw [List.mem_range] at hi
  have hi' : i < ls.length := by rw [ints_len] at hi; exact hi
  have h1 := h.all ls[i] (List.getElem_mem hi')
  have h2 := h.good.len
  rw [noL_get hi, ints_get hi', isL_nat (by omega)]; decide
theorem lcheck_ok (v u : Value) (ns : List ByteArray) (up : List UInt8) (ls : List Nat) (w : World) (hv : RdL w.heap.size w v ns up) (hz : RdN w.heap.size w u ls) (hg : GL ns up ls) :
    Calls Tryz.prog 22 #[v, u] w fun e w' => e = .returned (.tuple #[.int .i64 0, .int .i64 0]) ∧ Below w.heap.size w w' := by
  have h := lcheck_any v u ns up _ w hv (rd_int hz)
  rw [hg.lck] at h
  exact h

/-! Folds. -/
set_option maxRecDepth 100000 in
set_option maxHeartbeats 1000000 in
theorem sjoin_any (v : Value) (ns : List ByteArray) (up : List UInt8) (a b : Nat) (w : World) (hv : RdL w.heap.size w v ns up) (hg : Good ns up) (ha : a < up.length) (hb : b < up.length) :
    Calls Tryz.prog 35 #[v, .int .i64 a, .int .i64 b] w fun e w' => e = .returned (.int .i64 (J (le up) up.length a b)) ∧ Below w.heap.size w w' := by
  have HL := Lib.hid hv
  obtain ⟨⟨vn, vu, rfl, hS, hB⟩, hsz⟩ := hv
  obtain ⟨q1, cap, rfl, hc, hc2, h⟩ := hS
  obtain ⟨q, cap', rfl, hc', hc2', h'⟩ := hB
  clear h h' hsz
  have HG := Lib.hid hg; clear hg
  go_enter Tryz.func35, Tryz.ntmps35
  go_wp2_with (go_at_call 65; refine (join_ok _ ns up _ _ _ (HL.out.al _) HG.out ha hb).mono ?_; rintro e w' ⟨rfl, hbn⟩)
  go_ret
  exact ⟨rfl, bel2 hbn⟩
set_option maxRecDepth 100000 in
set_option maxHeartbeats 1000000 in
theorem smeet_any (v : Value) (ns : List ByteArray) (up : List UInt8) (a b : Nat) (w : World) (hv : RdL w.heap.size w v ns up) (hg : Good ns up) (ha : a < up.length) (hb : b < up.length) :
    Calls Tryz.prog 37 #[v, .int .i64 a, .int .i64 b] w fun e w' => e = .returned (.int .i64 (J (ge up) up.length a b)) ∧ Below w.heap.size w w' := by
  have HL := Lib.hid hv
  obtain ⟨⟨vn, vu, rfl, hS, hB⟩, hsz⟩ := hv
  obtain ⟨q1, cap, rfl, hc, hc2, h⟩ := hS
  obtain ⟨q, cap', rfl, hc', hc2', h'⟩ := hB
  clear h h' hsz
  have HG := Lib.hid hg; clear hg
  go_enter Tryz.func37, Tryz.ntmps37
  go_wp2_with (go_at_call 67; refine (meet_ok _ ns up _ _ _ (HL.out.al _) HG.out ha hb).mono ?_; rintro e w' ⟨rfl, hbn⟩)
  go_ret
  exact ⟨rfl, bel2 hbn⟩

set_option maxRecDepth 100000 in
set_option maxHeartbeats 2000000 in
/-- fold, of a function that puts labels together as R has it. -/
theorem fold_any (R : Nat → Nat → Bool) (fn : Nat) (v u : Value) (ns : List ByteArray) (up : List UInt8) (ls : List Nat) (b : Nat) (w : World) (hv : RdL w.heap.size w v ns up) (hz : RdN w.heap.size w u ls) (ho : Ord R up.length) (hb : b < up.length) (hl : ∀ a ∈ ls, a < up.length)
    (eg : ∀ args w, (callFunc fn args).run Tryz.prog w = .ok (.enter fn args) w)
    (hf : ∀ a b W, RdL W.heap.size W v ns up → a < up.length → b < up.length → Calls Tryz.prog fn #[v, .int .i64 (a : Nat), .int .i64 (b : Nat)] W fun e w' => e = .returned (.int .i64 (J R up.length a b)) ∧ Below W.heap.size W w') :
    Calls Tryz.prog 34 #[u, .int .i64 b, .func (.func fn) #[v] #[]] w fun e w' => e = .returned (.int .i64 (jn R up.length b ls)) ∧ Below w.heap.size w w' := by
  have HL := Lib.hid hv
  have HZ := Lib.hid hz
  have HF := Lib.hid hf
  have HO := Lib.hid ho
  have HA := Lib.hid hl
  obtain ⟨a, c, rfl, hl, hl2, h⟩ := hz
  clear h hv hf ho
  go_enter Tryz.func34, Tryz.ntmps34
  go_wp2_with fail
  go_loopg [7, 13] ls.length (fun g r i wr => ∃ k t : Nat, k + g = ls.length ∧ i = .int .i64 k ∧ r = .int .i64 t ∧ t < up.length ∧ Below w.heap.size w wr ∧ Hid (jn R up.length b (ls.take k) = t))
  case atStart => exact ⟨0, b, by omega, rfl, rfl, hb, Below.refl _ _, rfl⟩
  case round =>
    obtain ⟨k, t, hkg, rfl, rfl, htl, hbl, hq⟩ := hrel
    cases gk with
    | zero =>
      have hkz : ¬ ((k : Int) < (ls.length : Int)) := by omega
      have HM : Hid (jn R up.length b ls = t) := by
        have := hq.out
        rwa [List.take_of_length_le (by omega)] at this
      clear hq
      go_wp2_with fail
      go_ret
      exact ⟨ret_int (by rw [HM.out]), hbl⟩
    | succ g =>
      have hlt : (k : Int) < (ls.length : Int) := by omega
      have hk : k < ls.length := by omega
      obtain ⟨b0, off, rfl, hlt0, hx⟩ := (HZ.out.below hbl).at k hk
      have hlk := HA.out ls[k] (List.getElem_mem hk)
      have HJ : Hid (jn R up.length b (ls.take (k + 1)) = J R up.length t ls[k]) := by unfold Hid; rw [jn_take hk, hq.out]
      have hjl := HO.out.J_lt htl hlk
      have hcon := HF.out t ls[k] wr (HL.out.next hbl) htl hlk
      generalize J R up.length t ls[k] = t2 at HJ hjl hcon
      have HC := Lib.hid hcon; clear hcon
      have HB := Lib.hid hbl; clear hbl hq
      go_wp2_with fail
      refine HC.out.mono ?_
      rintro e w' ⟨rfl, hbn⟩
      have HB2 := Lib.hid (HB.out.trans (hbn.mono HB.out.size))
      clear hbn
      go_wp2_with fail
      go_roundg g
      case measure => omega
      case rel => exact ⟨k + 1, t2, by omega, by go_num, rfl, hjl, HB2.out, HJ⟩
end Go.Proofs.YtablaacddbkeiaaGreatDoor
