/- Index and Contains of a list of strings; checkNames. -/
import Derived.Test.YtablaacddbkeiaaGreatDoorLtL
import Derived.Deep.LoopGhost
namespace Go.Proofs.YtablaacddbkeiaaGreatDoor
open Go.RowKit

theorem Rd.at {α : Type} {f : α → Value} {B : Nat} {w : World} {p : Option Addr} {n cap : Nat} {l : List α} (h : Rd f B w (.slice p n cap) l) (k : Nat) (hk : k < l.length) : ∃ b off, p = some ⟨b, off, none⟩ ∧ b < B ∧ w.cell? ⟨b, off + k, none⟩ = some (f l[k]) := by
  obtain ⟨a1, cap1, hv, hc, hc2, h⟩ := h
  injection hv with e1 e2 e3
  obtain ⟨b, off, ha, hlt, hcell⟩ := h (by intro e; rw [e] at hk; simp at hk)
  exact ⟨b, off, by rw [e1, ha], hlt, hcell k hk⟩

def eqs (s : ByteArray) (l : List ByteArray) (j : Nat) : Bool := s.toList == (l.getD j ByteArray.empty).toList
def ixF (l : List ByteArray) (s : ByteArray) : Option Nat := (List.range l.length).find? (eqs s l)
def ixV (l : List ByteArray) (s : ByteArray) : Int := match ixF l s with | some k => k | none => -1
theorem ixV_at {l : List ByteArray} {s : ByteArray} {k : Nat} (h : ixF l s = some k) : ixV l s = k := by unfold ixV; rw [h]
theorem ixV_no {l : List ByteArray} {s : ByteArray} (h : ixF l s = none) : ixV l s = -1 := by unfold ixV; rw [h]
theorem eqs_get {s : ByteArray} {l : List ByteArray} {j : Nat} (h : j < l.length) : eqs s l j = (s.toList == l[j].toList) := by
  unfold eqs; rw [List.getD_eq_getElem?_getD, List.getElem?_eq_getElem h]; rfl

set_option maxRecDepth 100000 in
set_option maxHeartbeats 1000000 in
theorem index_any (v : Value) (l : List ByteArray) (s : ByteArray) (w : World) (hv : RdS w.heap.size w v l) :
    Calls Tryz.prog 59 #[v, .string s] w fun e w' => e = .returned (.int .i64 (ixV l s)) ∧ w = w' := by
  have HV := Lib.hid hv
  obtain ⟨p, cap, rfl, hc, hc2, h⟩ := hv
  clear h
  go_enter Tryz.func59, Tryz.ntmps59
  go_wp2
  go_loopg [8] l.length (fun g i wr => ∃ k : Nat, k + g = l.length ∧ i = .int .i64 k ∧ w = wr ∧ Hid ((List.range k).find? (eqs s l) = none))
  case atStart => exact ⟨0, by omega, rfl, rfl, rfl⟩
  case round =>
    obtain ⟨k, hkg, rfl, rfl, hq⟩ := hrel
    cases gk with
    | zero =>
      have hkz : ¬ ((k : Int) < (l.length : Int)) := by omega
      have HM : Hid (ixF l s = none) := by
        have := hq.out
        rw [show k = l.length by omega] at this
        exact this
      clear hq
      go_wp2
      go_ret
      exact ⟨ret_int (ixV_no HM.out).symm, rfl⟩
    | succ g =>
      have hlt : (k : Int) < (l.length : Int) := by omega
      have hk : k < l.length := by omega
      obtain ⟨b0, off, rfl, hlt0, hx⟩ := HV.out.at k hk
      have HE := Lib.hid (eqs_get (s := s) hk)
      cases e0 : (s.toList == l[k].toList) with
      | true =>
        have HI : Hid (ixF l s = some k) := find_at hq.out (by rw [HE.out, e0]) hk
        go_wp2
        go_ret
        exact ⟨ret_int (ixV_at HI.out).symm, rfl⟩
      | false =>
        have HI : Hid ((List.range (k + 1)).find? (eqs s l) = none) := find_succ hq.out (by rw [HE.out, e0])
        go_wp2
        go_roundg g
        case measure => omega
        case rel => exact ⟨k + 1, by omega, by go_num, rfl, HI⟩

def cnB (l : List ByteArray) (s : ByteArray) : Bool := (List.range l.length).any (eqs s l)
theorem ixV_bool (l : List ByteArray) (s : ByteArray) : decide (0 ≤ ixV l s) = cnB l s := by
  unfold ixV cnB
  rw [Bool.eq_iff_iff, List.any_eq_true, decide_eq_true_iff]
  cases h : ixF l s with
  | none =>
    have := List.find?_eq_none.1 h
    constructor
    · intro h; exact absurd h (by decide)
    · rintro ⟨x, hx, h2⟩; exact absurd h2 (this x hx)
  | some k => exact ⟨fun _ => ⟨k, List.mem_of_find?_eq_some h, List.find?_some h⟩, fun _ => by simp⟩

set_option maxHeartbeats 1000000 in
theorem contains_any (v : Value) (l : List ByteArray) (s : ByteArray) (w : World) (hv : RdS w.heap.size w v l) :
    Calls Tryz.prog 29 #[v, .string s] w fun e w' => e = .returned (.bool (cnB l s)) ∧ w = w' := by
  have HB := Lib.hid (ixV_bool l s)
  go_enter Tryz.func29, Tryz.ntmps29
  go_wp2_with (go_at_call 59; refine (index_any _ l s _ hv).mono ?_; rintro e w' ⟨rfl, rfl⟩)
  go_ret
  exact ⟨ret_bool HB.out, rfl⟩

def nmV (ns : List ByteArray) : Int × Int := match nmF nameB (ns.map byt) with | some (i, e) => (i, e) | none => (0, 0)
theorem nmV_at {ns : List ByteArray} {i : Nat} {e : Int} (h : nmF nameB (ns.map byt) = some (i, e)) : nmV ns = ((i : Int), e) := by unfold nmV; rw [h]
theorem nmV_no {ns : List ByteArray} (h : nmF nameB (ns.map byt) = none) : nmV ns = (0, 0) := by unfold nmV; rw [h]
theorem get_map (ns : List ByteArray) (i : Nat) (h : i < ns.length) : (ns.map byt).getD i [] = byt ns[i] := by
  rw [List.getD_eq_getElem?_getD, List.getElem?_eq_getElem (by simpa using h)]; simp
theorem twF_eq (ns : List ByteArray) (i : Nat) (h : i < ns.length) : twF (ns.map byt) i = cnB (ns.take i) ns[i] := by
  unfold twF cnB
  rw [List.length_take, Nat.min_eq_left (by omega), get_map ns i h]
  rw [Bool.eq_iff_iff, List.any_eq_true, List.any_eq_true]
  constructor
  · rintro ⟨j, hj, e⟩
    have hj' := List.mem_range.1 hj
    refine ⟨j, hj, ?_⟩
    rw [get_map ns j (by omega)] at e
    rw [eqs_get (by rw [List.length_take]; omega), List.getElem_take, byt_eq, byt_eq]; exact e
  · rintro ⟨j, hj, e⟩
    have hj' := List.mem_range.1 hj
    refine ⟨j, hj, ?_⟩
    rw [eqs_get (by rw [List.length_take]; omega), List.getElem_take, byt_eq, byt_eq] at e
    rw [get_map ns j (by omega)]; exact e

set_option maxRecDepth 100000 in
set_option maxHeartbeats 1000000 in
theorem checkNames_any (v : Value) (ns : List ByteArray) (w : World) (hv : RdS w.heap.size w v ns) (hs : ∀ s ∈ ns, s.size ≤ 9223372036854775807) :
    Calls Tryz.prog 52 #[v] w fun e w' => e = .returned (.tuple #[.int .i64 (nmV ns).1, .int .i64 (nmV ns).2]) ∧ w = w' := by
  have HV := Lib.hid hv
  obtain ⟨p, cap, rfl, hc, hc2, h⟩ := hv
  clear h
  have HS := Lib.hid hs; clear hs
  go_enter Tryz.func52, Tryz.ntmps52
  go_wp2
  go_loopg [8] ns.length (fun g i wr => ∃ k : Nat, k + g = ns.length ∧ i = .int .i64 k ∧ w = wr ∧ Hid ((List.range k).findSome? (nm1 nameB (ns.map byt)) = none))
  case atStart => exact ⟨0, by omega, rfl, rfl, rfl⟩
  case round =>
    obtain ⟨k, hkg, rfl, rfl, hq⟩ := hrel
    cases gk with
    | zero =>
      have hkz : ¬ ((k : Int) < (ns.length : Int)) := by omega
      have HM : Hid (nmV ns = (0, 0)) := by
        have := hq.out
        rw [show k = (ns.map byt).length by rw [List.length_map]; omega] at this
        exact nmV_no this
      clear hq
      go_wp2
      go_ret2
      exact ⟨ret_two (by rw [HM.out]; rfl) (by rw [HM.out]; rfl), rfl⟩
    | succ g =>
      have hlt : (k : Int) < (ns.length : Int) := by omega
      have hk : k < ns.length := by omega
      obtain ⟨b0, off, rfl, hlt0, hx⟩ := HV.out.at k hk
      have hsz := HS.out ns[k] (List.getElem_mem hk)
      have HT := Lib.hid (HV.out.take k (by omega))
      have HW := Lib.hid (twF_eq ns k hk)
      have HG := Lib.hid (get_map ns k hk)
      have HF : Hid (∀ i e, nm1 nameB (ns.map byt) k = some (i, e) → nmV ns = ((i : Int), e)) := fun i e h => nmV_at (fs_at hq.out h (by rw [List.length_map]; exact hk))
      cases e0 : nameB (byt ns[k]) with
      | false =>
        have HN := Lib.hid (HF.out _ _ (nm1_6 (by rw [HG.out]; exact e0)))
        go_wp2_with (first | (go_at_call 74; refine (name_any _ _ (by omega)).mono ?_; rintro e w' ⟨rfl, rfl⟩))
        go_ret2
        exact ⟨ret_two (by rw [HN.out]; rfl) (by rw [HN.out]; rfl), rfl⟩
      | true =>
        cases e1 : cnB (ns.take k) ns[k] with
        | true =>
          have HN := Lib.hid (HF.out _ _ (nm1_8 (by rw [HG.out]; exact e0) (by rw [HW.out]; exact e1)))
          go_wp2_with (first | (go_at_call 74; refine (name_any _ _ (by omega)).mono ?_; rintro e w' ⟨rfl, rfl⟩) | (go_at_call 29; refine (contains_any _ _ _ _ HT.out).mono ?_; rintro e w' ⟨rfl, rfl⟩))
          go_ret2
          exact ⟨ret_two (by rw [HN.out]; rfl) (by rw [HN.out]; rfl), rfl⟩
        | false =>
          have HN := Lib.hid (fs_succ hq.out (nm1_0 (by rw [HG.out]; exact e0) (by rw [HW.out]; exact e1)))
          go_wp2_with (first | (go_at_call 74; refine (name_any _ _ (by omega)).mono ?_; rintro e w' ⟨rfl, rfl⟩) | (go_at_call 29; refine (contains_any _ _ _ _ HT.out).mono ?_; rintro e w' ⟨rfl, rfl⟩))
          go_roundg g
          case measure => omega
          case rel => exact ⟨k + 1, by omega, by go_num, rfl, HN⟩
end Go.Proofs.YtablaacddbkeiaaGreatDoor
