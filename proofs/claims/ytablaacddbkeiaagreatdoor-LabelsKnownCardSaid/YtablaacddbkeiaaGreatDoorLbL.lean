/- The reference's Same; the law's awake. -/
import Derived.Test.YtablaacddbkeiaaGreatDoorLbK
namespace Go.Proofs.YtablaacddbkeiaaGreatDoor
open Go.RowKit

def eqK (l m : List Nat) (k : Nat) : Bool := l.getD k 0 == m.getD k 0
theorem eqK_get {l m : List Nat} {k : Nat} (h : k < l.length) (h2 : k < m.length) : eqK l m k = (((l[k] : Nat) : Int) == ((m[k] : Nat) : Int)) := by
  unfold eqK; rw [nat_beq, List.getD_eq_getElem?_getD, List.getD_eq_getElem?_getD, List.getElem?_eq_getElem h, List.getElem?_eq_getElem h2]; rfl
theorem eq_all {l m : List Nat} (hl : l.length = m.length) (h : (List.range l.length).all (eqK l m) = true) : l = m := by
  refine List.ext_getElem hl fun k h1 h2 => ?_
  have := List.all_eq_true.1 h k (List.mem_range.2 h1)
  rw [eqK_get h1 h2, beq_iff_eq] at this
  omega
theorem eq_no {l m : List Nat} {k : Nat} (h1 : k < l.length) (h2 : k < m.length) (h : eqK l m k = false) : decide (l = m) = false := by
  rw [decide_eq_false_iff_not]
  rintro rfl
  rw [eqK_get h1 h2] at h
  simp at h

set_option maxRecDepth 100000 in
set_option maxHeartbeats 2000000 in
theorem same4_any (u v : Value) (l m : List Nat) (w : World) (hu : RdN w.heap.size w u l) (hv : RdN w.heap.size w v m) :
    Calls Tryz.prog 11 #[u, v] w fun e w' => e = .returned (.bool (decide (l = m))) ∧ Below w.heap.size w w' := by
  have HU := Lib.hid hu
  have HV := Lib.hid hv
  obtain ⟨a, c, rfl, hc, hc2, h⟩ := hu
  obtain ⟨b, d, rfl, hd, hd2, h'⟩ := hv
  clear h h'
  cases e0 : ((l.length : Int) != (m.length : Int)) with
  | true =>
    have HF : Hid (decide (l = m) = false) := by
      unfold Hid
      rw [decide_eq_false_iff_not]
      rintro rfl
      simp at e0
    go_enter Tryz.func11, Tryz.ntmps11
    go_wp2_with fail
    go_ret
    exact ⟨ret_bool HF.out.symm, Below.refl _ _⟩
  | false =>
    have HE : Hid (l.length = m.length) := by
      unfold Hid
      have : (l.length : Int) = m.length := by simpa [bne] using e0
      omega
    have hle1 : l.length ≤ m.length := by have := HE.out; omega
    have hle2 : m.length ≤ l.length := by have := HE.out; omega
    go_enter Tryz.func11, Tryz.ntmps11
    go_wp2_with fail
    clear e0
    go_loopg [5] l.length (fun g i wr => ∃ k : Nat, k + g = l.length ∧ i = .int .i64 k ∧ Below w.heap.size w wr ∧ Hid ((List.range k).all (eqK l m) = true))
    case atStart => exact ⟨0, by omega, rfl, Below.refl _ _, rfl⟩
    case round =>
      obtain ⟨k, hkg, rfl, hbl, hq⟩ := hrel
      cases gk with
      | zero =>
        have hkz : ¬ ((k : Int) < (l.length : Int)) := by omega
        have HT : Hid (decide (l = m) = true) := by
          have := hq.out
          rw [show k = l.length by omega] at this
          exact decide_eq_true (eq_all HE.out this)
        clear hq
        go_wp2_with fail
        go_ret
        exact ⟨ret_bool HT.out.symm, hbl⟩
      | succ g =>
        have hlt : (k : Int) < (l.length : Int) := by omega
        have hlt2 : (k : Int) < (m.length : Int) := by omega
        have hk : k < l.length := by omega
        have hk2 : k < m.length := by omega
        obtain ⟨b0, off, rfl, hlt0, hx⟩ := (HU.out.below hbl).at k hk
        obtain ⟨b1, off1, rfl, hlt1, hy⟩ := (HV.out.below hbl).at k hk2
        have HK := Lib.hid (eqK_get hk hk2)
        cases c1 : (((l[k] : Nat) : Int) == ((m[k] : Nat) : Int)) with
        | true =>
          have c2 : (((l[k] : Nat) : Int) != ((m[k] : Nat) : Int)) = false := by rw [bne, c1]; rfl
          have HQ := Lib.hid (all_succ hq.out (by rw [HK.out, c1]))
          go_wp2_with fail
          go_quiet (fail)
          go_wp2_with fail
          go_roundg g
          case measure => omega
          case rel => exact ⟨k + 1, by omega, by go_num, below_drewN hbl _, HQ⟩
        | false =>
          have c2 : (((l[k] : Nat) : Int) != ((m[k] : Nat) : Int)) = true := by rw [bne, c1]; rfl
          have HF := Lib.hid (eq_no hk hk2 (by rw [HK.out, c1]))
          go_wp2_with fail
          go_quiet (fail)
          go_wp2_with fail
          go_ret
          exact ⟨ret_bool HF.out.symm, below_drewN hbl _⟩

/-! The law's awake. -/
theorem d4_0 : (∀ a ∈ [1, 2], a < dU.length) ∧ (∀ a ∈ [0, 1, 2], a < dU.length) ∧ (∀ a ∈ [3, 2, 1, 2], a < dU.length) ∧ (∀ a ∈ [3, 2, 1], a < dU.length) ∧ (∀ a ∈ [1, 0], a < dU.length) := by decide
theorem d4_1 : jn (le dU) dU.length (endF (ge dU) dU.length dU.length) [1, 2] = 3 := by decide +kernel
theorem d4_2 : flV dU [0, 1, 2] 1 = (2, 25) := by decide +kernel
theorem d4_3 : srt dU (fun b => decide (b ∈ [3, 2, 1, 2])) = [1, 2, 3] := by decide +kernel
theorem d4_4 : srt dU (leB dU [3, 2, 1]) = [1, 2] := by decide +kernel
theorem d4_5 : shV dN [1, 0] = ⟨#[97, 110, 110, 44, 108, 111, 119]⟩ := by decide +kernel
/-- A list that stands in the text. -/
theorem lit_rd (W : World) (l : List Nat) (h : l.length ≤ 1000) : RdN (W.alloc (.cells (l.map vn).toArray 3)).heap.size (W.alloc (.cells (l.map vn).toArray 3)) (.slice (some ⟨W.heap.size, 0, none⟩) l.length l.length) l := rd_new vn W l 3 (0, 0) h
theorem a_join (W : World) (n : Nat) (hn : W.heap.size = n) (v : Value) (hv : RdL W.heap.size W v dN dU) : Calls Tryz.prog 13 #[v, .slice (some ⟨n, 0, none⟩) 2 2] (W.alloc (.cells #[.int .i64 1, .int .i64 2] 3)) fun e w' => e = .returned (.tuple #[.int .i64 3, .int .i64 0]) ∧ Below W.heap.size W w' := by
  subst hn
  have h := ljoin_ok v _ dN dU [1, 2] _ (hv.al _) (lit_rd W [1, 2] (by decide)) ⟨dGood, by decide, d4_0.1⟩
  rw [d4_1] at h
  exact h.mono fun e w' ⟨he, hb⟩ => ⟨he, bel2 hb⟩
theorem a_flows (W : World) (v : Value) (hv : RdL W.heap.size W v dN dU) : Calls Tryz.prog 19 #[v, .slice (some ⟨W.heap.size, 0, none⟩) 3 3, .int .i64 1] (W.alloc (.cells #[.int .i64 0, .int .i64 1, .int .i64 2] 3)) fun e w' => e = .returned (.tuple #[.int .i64 2, .int .i64 25]) ∧ Below W.heap.size W w' := by
  have h := lflows_ok v _ dN dU [0, 1, 2] 1 _ (hv.al _) (lit_rd W [0, 1, 2] (by decide)) ⟨dGood, by decide, d4_0.2.1⟩ (by decide)
  rw [d4_2] at h
  exact h.mono fun e w' ⟨he, hb⟩ => ⟨he, bel2 hb⟩
theorem a_sort (W : World) (v : Value) (hv : RdL W.heap.size W v dN dU) : Calls Tryz.prog 20 #[v, .slice (some ⟨W.heap.size, 0, none⟩) 4 4] (W.alloc (.cells #[.int .i64 3, .int .i64 2, .int .i64 1, .int .i64 2] 3)) fun e w' => ∃ a c, e = .returned (.tuple #[.slice a 3 c, .int .i64 0]) ∧ RdN w'.heap.size w' (.slice a 3 c) [1, 2, 3] ∧ Below W.heap.size W w' := by
  have h := lsort_ok v _ dN dU [3, 2, 1, 2] _ (hv.al _) (lit_rd W [3, 2, 1, 2] (by decide)) ⟨dGood, by decide, d4_0.2.2.1⟩
  unfold SoT at h
  rw [d4_3] at h
  exact h.mono fun e w' ⟨a, c, he, hr, hb⟩ => ⟨a, c, he, hr, bel2 hb⟩
theorem a_least (W : World) (v : Value) (hv : RdL W.heap.size W v dN dU) : Calls Tryz.prog 21 #[v, .slice (some ⟨W.heap.size, 0, none⟩) 3 3] (W.alloc (.cells #[.int .i64 3, .int .i64 2, .int .i64 1] 3)) fun e w' => ∃ a c, e = .returned (.tuple #[.slice a 2 c, .int .i64 0]) ∧ RdN w'.heap.size w' (.slice a 2 c) [1, 2] ∧ Below W.heap.size W w' := by
  have h := lleast_ok v _ dN dU [3, 2, 1] _ (hv.al _) (lit_rd W [3, 2, 1] (by decide)) ⟨dGood, by decide, d4_0.2.2.2.1⟩
  unfold SoT at h
  rw [d4_4] at h
  exact h.mono fun e w' ⟨a, c, he, hr, hb⟩ => ⟨a, c, he, hr, bel2 hb⟩
theorem a_show (W : World) (v : Value) (hv : RdL W.heap.size W v dN dU) : Calls Tryz.prog 7 #[v, .slice (some ⟨W.heap.size, 0, none⟩) 2 2] (W.alloc (.cells #[.int .i64 1, .int .i64 0] 3)) fun e w' => e = .returned (.tuple #[.string ⟨#[97, 110, 110, 44, 108, 111, 119]⟩, .int .i64 0]) ∧ Below W.heap.size W w' := by
  have h := lshow_ok v _ dN dU [1, 0] _ (hv.al _) (lit_rd W [1, 0] (by decide)) ⟨dGood, by decide, d4_0.2.2.2.2⟩
  rw [d4_5] at h
  exact h.mono fun e w' ⟨he, hb⟩ => ⟨he, bel2 hb⟩
theorem a_same3 (W : World) (a : Option Addr) (c : Nat) (hv : RdN W.heap.size W (.slice a 3 c) [1, 2, 3]) : Calls Tryz.prog 11 #[.slice a 3 c, .slice (some ⟨W.heap.size, 0, none⟩) 3 3] (W.alloc (.cells #[.int .i64 1, .int .i64 2, .int .i64 3] 3)) fun e w' => e = .returned (.bool true) ∧ Below W.heap.size W w' := by
  have h := same4_any _ _ [1, 2, 3] [1, 2, 3] _ (hv.al (.cells #[.int .i64 1, .int .i64 2, .int .i64 3] 3)) (lit_rd W [1, 2, 3] (by decide))
  rw [decide_eq_true rfl] at h
  exact h.mono fun e w' ⟨he, hb⟩ => ⟨he, bel2 hb⟩
theorem a_same2 (W : World) (a : Option Addr) (c : Nat) (hv : RdN W.heap.size W (.slice a 2 c) [1, 2]) : Calls Tryz.prog 11 #[.slice a 2 c, .slice (some ⟨W.heap.size, 0, none⟩) 2 2] (W.alloc (.cells #[.int .i64 1, .int .i64 2] 3)) fun e w' => e = .returned (.bool true) ∧ Below W.heap.size W w' := by
  have h := same4_any _ _ [1, 2] [1, 2] _ (hv.al (.cells #[.int .i64 1, .int .i64 2] 3)) (lit_rd W [1, 2] (by decide))
  rw [decide_eq_true rfl] at h
  exact h.mono fun e w' ⟨he, hb⟩ => ⟨he, bel2 hb⟩

set_option maxRecDepth 100000 in
set_option maxHeartbeats 4000000 in
theorem awake4_any (w : World) : Calls Tryz.prog 6 #[] w fun e w' => e = .returned (.bool true) ∧ Below w.heap.size w w' := by
  go_enter Tryz.func6, Tryz.ntmps6
  go_wp2_with fail
  refine (diamond_any w).mono ?_
  rintro e w1 ⟨v1, rfl, h1, hb1⟩
  have HL := Lib.hid h1
  obtain ⟨⟨vn, vu, rfl, ⟨da, dc, rfl, V1⟩, ⟨db, dd, rfl, V2⟩⟩, hsz⟩ := h1
  clear V1 V2 hsz
  have HB1 := Lib.hid hb1
  clear hb1
  have HI := Lib.hid (Bx.new HL.out)
  go_wp2_with fail
  refine (a_join _ _ (by simp) _ HI.out.rd).mono ?_
  rintro e w2 ⟨rfl, hbn⟩
  have HI2 := Lib.hid (HI.out.next hbn); clear HI; have HI := HI2; clear HI2
  clear hbn
  have hx0 := HI.out.x0
  have hx1 := HI.out.x1
  go_wp2_with fail
  refine (a_flows _ _ HI.out.rd).mono ?_
  rintro e w3 ⟨rfl, hbn⟩
  have HI2 := Lib.hid (HI.out.next hbn); clear HI; have HI := HI2; clear HI2
  clear hbn hx0 hx1
  have hx0 := HI.out.x0
  have hx1 := HI.out.x1
  go_wp2_with fail
  refine (a_sort _ _ HI.out.rd).mono ?_
  rintro e w4 ⟨sa, sc, rfl, hrs, hbn⟩
  have HI2 := Lib.hid (HI.out.next hbn); clear HI; have HI := HI2; clear HI2
  have HS := Lib.hid hrs
  clear hbn hx0 hx1 hrs
  have hx0 := HI.out.x0
  have hx1 := HI.out.x1
  go_wp2_with fail
  refine (a_least _ _ HI.out.rd).mono ?_
  rintro e w5 ⟨ma, mc, rfl, hrm, hbn⟩
  have HI2 := Lib.hid (HI.out.next hbn); clear HI; have HI := HI2; clear HI2
  have HS2 := Lib.hid (HS.out.next hbn)
  have HM := Lib.hid hrm
  clear hbn hx0 hx1 hrm HS
  have hx0 := HI.out.x0
  have hx1 := HI.out.x1
  go_wp2_with fail
  refine (a_show _ _ HI.out.rd).mono ?_
  rintro e w6 ⟨rfl, hbn⟩
  have HI2 := Lib.hid (HI.out.next hbn); clear HI; have HI := HI2; clear HI2
  have HS := Lib.hid (HS2.out.next hbn)
  have HM2 := Lib.hid (HM.out.next hbn)
  clear hbn hx0 hx1 HS2 HM
  go_wp2_with fail
  refine (a_same3 _ _ _ HS.out).mono ?_
  rintro e w7 ⟨rfl, hbn⟩
  have HI2 := Lib.hid (HI.out.next hbn); clear HI; have HI := HI2; clear HI2
  have HM := Lib.hid (HM2.out.next hbn)
  clear hbn HS HM2
  go_wp2_with fail
  refine (a_same2 _ _ _ HM.out).mono ?_
  rintro e w8 ⟨rfl, hbn⟩
  have HI2 := Lib.hid (HI.out.next hbn); clear HI; have HI := HI2; clear HI2
  clear hbn HM
  go_wp2_with fail
  go_ret
  exact ⟨rfl, HB1.out.trans (HI.out.bel.mono HB1.out.size)⟩
end Go.Proofs.YtablaacddbkeiaaGreatDoor
