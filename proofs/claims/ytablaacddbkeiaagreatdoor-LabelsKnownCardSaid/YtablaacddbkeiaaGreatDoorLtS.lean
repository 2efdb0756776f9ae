/- The reference: Below, nearest, ordered, downs. -/
import Derived.Test.YtablaacddbkeiaaGreatDoorLtR
import Derived.Test.YtablaacddbkeiaaGreatDoorLtQ
import Derived.Laws.BitsLemmas
namespace Go.Proofs.YtablaacddbkeiaaGreatDoor
open Go.RowKit

theorem and_u8 (x y : UInt8) : bits BinOp.and IntKind.u8 (x.toNat : Int) (y.toNat : Int) = ((x.toNat &&& y.toNat : Nat) : Int) :=
  (bits_nat .u8 8 (by decide) wraps_u8 x.toNat y.toNat x.toNat_lt y.toNat_lt).1
theorem wraps_i64 (n : Int) (h₀ : 0 ≤ n) (h₁ : n < 2 ^ 32) : IntKind.i64.wrap n = n := by rw [IntKind.wrap_i64]; omega
theorem and_i64 (x y : Nat) (hx : x < 2 ^ 32) (hy : y < 2 ^ 32) : bits BinOp.and IntKind.i64 (x : Int) (y : Int) = ((x &&& y : Nat) : Int) :=
  (bits_nat .i64 32 (by decide) wraps_i64 x y hx hy).1

set_option maxRecDepth 100000 in
set_option maxHeartbeats 1000000 in
theorem rbel_any (v : Value) (ns : List ByteArray) (up : List UInt8) (a b : Nat) (w : World) (hv : RdL w.heap.size w v ns up) (ha : a < up.length) (hb : b ≤ 8) :
    Calls Tryz.prog 81 #[v, .int .i64 a, .int .i64 b] w fun e w' => e = .returned (.bool (le up a b)) ∧ Below w.heap.size w w' := by
  obtain ⟨⟨vn, vu, rfl, hS, hB⟩, hsz⟩ := hv
  obtain ⟨p, cap, rfl, hc, hc2, h⟩ := hS
  obtain ⟨q, cap', rfl, hc', hc2', h'⟩ := hB
  obtain ⟨g, off, rfl, hg, hcell⟩ := h' (by intro e; rw [e] at ha; simp at ha)
  have hx := hcell a ha
  have HB := Lib.hid (bit_int up[a].toNat b)
  rw [le_get up a b ha]
  have hlo := up[a].toNat_lt
  have h0 : (0 : Int) ≤ (up[a].toNat : Int) / 2 ^ b := Int.ediv_nonneg (by omega) (by exact Int.pow_nonneg (by decide))
  clear hcell h hsz
  go_enter Tryz.func81, Tryz.ntmps81
  go_wp2
  go_ret
  exact ⟨ret_bool HB.out, bel1 _ _⟩

theorem wrap_mask (n : Nat) (h : n ≤ 8) : wrap64 (wrap64 (2 ^ n) - 1) = ((2 ^ n - 1 : Nat) : Int) := by
  have key : ∀ i : Fin 9, wrap64 (wrap64 (2 ^ i.val) - 1) = ((2 ^ i.val - 1 : Nat) : Int) := by decide +kernel
  exact key ⟨n, by omega⟩
theorem nat_beq (x m : Nat) : ((x : Int) == (m : Int)) = (x == m) := by
  rw [Bool.eq_iff_iff]; simp only [beq_iff_eq]; omega
set_option maxRecDepth 100000 in
set_option maxHeartbeats 1000000 in
theorem nearest_any (v : Value) (o : List UInt8) (a b : Nat) (w : World) (hv : RdB w.heap.size w v o) (ha : a < o.length) (hb : b < o.length) (hl : o.length ≤ 8) :
    Calls Tryz.prog 63 #[v, .int .i64 a, .int .i64 b] w fun e w' => e = .returned (.int .i64 (nrV o a b)) ∧ Below w.heap.size w w' := by
  obtain ⟨q, cap, rfl, hc, hc2, h⟩ := hv
  obtain ⟨g, off, rfl, hg, hcell⟩ := h (by intro e; rw [e] at ha; simp at ha)
  have hx := hcell a ha
  have hy := hcell b hb
  have HC := Lib.hid hcell
  obtain ⟨m, hm⟩ : ∃ m, m = (o[a].toNat &&& o[b].toNat) := ⟨_, rfl⟩
  have hand : bits BinOp.and IntKind.u8 (o[a].toNat : Int) (o[b].toNat : Int) = (m : Int) := by rw [hm]; exact and_u8 _ _
  have HN : Hid (∀ c (hc : c < o.length), nr1 o a b c = ((o[c].toNat : Int) == (m : Int))) := fun c hc => by
    unfold nr1
    rw [nat_beq, hm, List.getD_eq_getElem?_getD, List.getD_eq_getElem?_getD, List.getD_eq_getElem?_getD, List.getElem?_eq_getElem hc, List.getElem?_eq_getElem ha, List.getElem?_eq_getElem hb]; rfl
  clear hm hcell h
  go_enter Tryz.func63, Tryz.ntmps63
  go_wp2_with fail
  go_quiet (fail)
  go_wp2_with fail
  clear hx hy hand
  generalize hW : w.drewN nq = W1
  have HB : Hid (Below w.heap.size w W1) := by unfold Hid; rw [← hW]; exact drewN_below _ _
  clear hW
  go_loopg [8] o.length (fun g i wr => ∃ k : Nat, k + g = o.length ∧ i = .int .i64 k ∧ W1 = wr ∧ Hid ((List.range k).find? (nr1 o a b) = none))
  case atStart => exact ⟨0, by omega, rfl, rfl, rfl⟩
  case round =>
    obtain ⟨k, hkg, rfl, rfl, hq⟩ := hrel
    cases gk with
    | zero =>
      have hkz : ¬ ((k : Int) < (o.length : Int)) := by omega
      have HV : Hid (nrV o a b = -1) := by
        have := hq.out
        rw [show k = o.length by omega] at this
        exact nrV_of (m := none) this
      clear hq
      go_wp2_with fail
      go_ret
      exact ⟨ret_int HV.out.symm, HB.out⟩
    | succ g4 =>
      have hlt : (k : Int) < (o.length : Int) := by omega
      have hk : k < o.length := by omega
      have hz : W1.cell? ⟨g, off + k, none⟩ = some (vb o[k]) := (HB.out.cell (p := ⟨g, off + k, none⟩) hg).trans (HC.out k hk)
      cases c0 : ((o[k].toNat : Int) == (m : Int)) with
      | true =>
        have HV : Hid (nrV o a b = (k : Int)) := nrV_of (m := some k) (find_at hq.out (by rw [HN.out k hk, c0]) hk)
        go_wp2_with fail
        go_ret
        exact ⟨ret_int HV.out.symm, HB.out⟩
      | false =>
        have HV := Lib.hid (find_succ hq.out (by rw [HN.out k hk, c0]))
        go_wp2_with fail
        go_roundg g4
        case measure => omega
        case rel => exact ⟨k + 1, by omega, by go_num, rfl, HV⟩

set_option maxRecDepth 100000 in
set_option maxHeartbeats 2000000 in
theorem ordered_any (v : Value) (ns : List ByteArray) (up : List UInt8) (a : Nat) (w : World) (hv : RdL w.heap.size w v ns up) (ha : a < up.length) (hl : up.length = ns.length) (h8 : ns.length ≤ 8) :
    Calls Tryz.prog 61 #[v, .int .i64 a] w fun e w' => e = .returned (.bool (!bad up a)) ∧ Below w.heap.size w w' := by
  have HL := Lib.hid hv
  obtain ⟨⟨vn, vu, rfl, hS, hB⟩, hsz⟩ := hv
  obtain ⟨p, cap, rfl, hc, hc2, h⟩ := hS
  obtain ⟨q, cap', rfl, hc', hc2', h'⟩ := hB
  obtain ⟨g, off, rfl, hg, hcell⟩ := h' (by intro e; rw [e] at ha; simp at ha)
  have HC := Lib.hid hcell
  have hy : (w.alloc (.cells #[.slice p ns.length cap, .slice (some ⟨g, off, none⟩) up.length cap'] 25)).cell? ⟨g, off + a, none⟩ = some (vb up[a]) := ((bel1 w _).cell (p := ⟨g, off + a, none⟩) hg).trans (hcell a ha)
  have HLE := Lib.hid hl
  have ha2 : a < ns.length := by omega
  have hlo := up[a].toNat_lt
  have hle1 : ns.length ≤ up.length := by omega
  clear hcell h hsz hl
  have HI := Lib.hid (Bx.new HL.out)
  by_cases e0 : (0 : Int) < (up[a].toNat : Int) / 2 ^ ns.length
  · have HF : Hid (bad up a = true) := bad_1 up a ha (by rw [HLE.out, bne_iff_ne]; omega)
    go_enter Tryz.func61, Tryz.ntmps61
    go_wp2_with fail
    go_ret
    exact ⟨ret_bool (by rw [HF.out]; rfl), HI.out.bel⟩
  · have HF0 : Hid ((((up[a].toNat : Int) / 2 ^ up.length) != 0) = false) := by
      unfold Hid
      have : (0 : Int) ≤ (up[a].toNat : Int) / 2 ^ ns.length := Int.ediv_nonneg (by omega) (by exact Int.pow_nonneg (by decide))
      rw [HLE.out, bne_eq_false_iff_eq]; omega
    cases e1 : le up a a with
    | false =>
      have HF : Hid (bad up a = true) := bad_2 up a e1
      go_enter Tryz.func61, Tryz.ntmps61
      go_wp2_with (go_at_call 81; refine (rbel_any _ ns up _ _ _ HI.out.rd (by omega) (by omega)).mono ?_; rintro e w' ⟨rfl, hbn⟩; have HI2 := Lib.hid (HI.out.next hbn); clear HI hbn; have HI := HI2; clear HI2; have hx0 := HI.out.x0; have hx1 := HI.out.x1)
      go_ret
      exact ⟨ret_bool (by rw [HF.out]; rfl), HI.out.bel⟩
    | true =>
      have HNo : Hid ((List.range up.length).any (bad1 up a) = false → bad up a = false) := bad_no up a ha HF0.out e1
      have HYes : Hid (∀ j, j < up.length → bad1 up a j = true → bad up a = true) := fun j hj h => bad_3 up a j hj h
      go_enter Tryz.func61, Tryz.ntmps61
      go_wp2_with (go_at_call 81; refine (rbel_any _ ns up _ _ _ HI.out.rd (by omega) (by omega)).mono ?_; rintro e w' ⟨rfl, hbn⟩; have HI2 := Lib.hid (HI.out.next hbn); clear HI hbn; have HI := HI2; clear HI2; have hx0 := HI.out.x0; have hx1 := HI.out.x1)
      clear e1 hy hx0 hx1
      go_loopg [7] ns.length (fun g2 i wr => ∃ b : Nat, b + g2 = ns.length ∧ i = .int .i64 b ∧ Bx w (.slice p ns.length cap) (.slice (some ⟨g, off, none⟩) up.length cap') ns up wr ∧ Hid ((List.range b).any (bad1 up a) = false))
      case atStart => exact ⟨0, by omega, rfl, HI.out, rfl⟩
      case round =>
        clear HI
        obtain ⟨b, hbg, rfl, hix, hq⟩ := hrel
        have HI := Lib.hid hix
        have hx0 := hix.x0
        have hx1 := hix.x1
        clear hix
        cases gk with
        | zero =>
          have hbz : ¬ ((b : Int) < (ns.length : Int)) := by omega
          have HF : Hid (bad up a = false) := HNo.out (by have := hq.out; rwa [show b = up.length by have := HLE.out; omega] at this)
          clear hq
          go_wp2_with fail
          go_ret
          exact ⟨ret_bool (by rw [HF.out]; rfl), HI.out.bel⟩
        | succ g4 =>
          have hblt : (b : Int) < (ns.length : Int) := by omega
          have hbl : b < up.length := by omega
          cases c1 : le up a b with
          | false =>
            have HQ := Lib.hid (any_succ hq.out (bad1_le up a b c1))
            go_wp2_with (go_at_call 81; refine (rbel_any _ ns up _ _ _ HI.out.rd (by omega) (by omega)).mono ?_; rintro e w' ⟨rfl, hbn⟩; clear hx0 hx1; have HI2 := Lib.hid (HI.out.next hbn); clear HI hbn; have HI := HI2; clear HI2; have hx0 := HI.out.x0; have hx1 := HI.out.x1)
            go_roundg g4
            case measure => omega
            case rel => exact ⟨b + 1, by omega, by go_num, HI.out, HQ⟩
          | true =>
            have hyb : ∀ W, Below w.heap.size w W → W.cell? ⟨g, off + b, none⟩ = some (vb up[b]) := fun W hW => (hW.cell (p := ⟨g, off + b, none⟩) hg).trans (HC.out b hbl)
            have HYb := Lib.hid hyb; clear hyb
            have hlb := up[b].toNat_lt
            go_wp2_with ((go_at_call 81; refine (rbel_any _ ns up _ _ _ HI.out.rd (by omega) (by omega)).mono ?_; rintro e w' ⟨rfl, hbn⟩; clear hx0 hx1; have HI2 := Lib.hid (HI.out.next hbn); clear HI hbn; have HI := HI2; clear HI2; have hx0 := HI.out.x0; have hx1 := HI.out.x1); have hyb := HYb.out _ HI.out.bel)
            go_quiet (fail)
            have HI3 := Lib.hid (HI.out.next (drewN_below w' nq))
            clear HI hx0 hx1 hyb
            generalize w'.drewN nq = W2 at HI3 ⊢
            have HI := HI3
            clear HI3
            have hx0 := HI.out.x0
            have hx1 := HI.out.x1
            obtain ⟨bn, hbn⟩ : ∃ bn, bn = beyN up b := ⟨_, rfl⟩
            obtain ⟨tn, htn⟩ : ∃ tn, tn = (bn &&& up[a].toNat) := ⟨_, rfl⟩
            have hbl2 : bn < 2 ^ 32 := by rw [hbn]; exact Nat.lt_of_le_of_lt Nat.and_le_left (by rw [show up.getD b 0 = up[b] by rw [List.getD_eq_getElem?_getD, List.getElem?_eq_getElem hbl]; rfl]; omega)
            have hbey : bits BinOp.and IntKind.i64 (up[b].toNat : Int) (wrap64 (wrap64 (2 ^ ns.length) - 1)) = (bn : Int) := by
              rw [hbn, wrap_mask ns.length h8, and_i64 _ _ (by omega) (by have : 2 ^ ns.length ≤ 2 ^ 8 := Nat.pow_le_pow_right (by decide) h8
                                                                          omega)]
              unfold beyN
              rw [List.getD_eq_getElem?_getD, List.getElem?_eq_getElem hbl, HLE.out]; rfl
            have hand : bits BinOp.and IntKind.i64 (bn : Int) (up[a].toNat : Int) = (tn : Int) := by rw [htn]; exact and_i64 _ _ hbl2 (by omega)
            have HB1 : Hid (bad1 up a b = ((!((b : Int) == (a : Int)) && le up b a) || !((tn : Int) == (bn : Int)))) := by
              unfold Hid
              rw [← ro1_eq, nat_beq tn bn, htn, hbn]
              unfold ro1
              rw [c1, show up.getD a 0 = up[a] by rw [List.getD_eq_getElem?_getD, List.getElem?_eq_getElem ha]; rfl]; rfl
            clear hbn htn hbl2
            cases c4 : ((tn : Int) == (bn : Int)) with
            | true =>
              have c5 : ((tn : Int) != (bn : Int)) = false := by rw [bne, c4]; rfl
              cases c2 : ((b : Int) == (a : Int)) with
              | true =>
                have c3 : ((b : Int) != (a : Int)) = false := by rw [bne, c2]; rfl
                have HQ := Lib.hid (any_succ hq.out (by rw [HB1.out, c2, c4]; rfl))
                go_wp2_with (go_at_call 81; refine (rbel_any _ ns up _ _ _ HI.out.rd (by omega) (by omega)).mono ?_; rintro e w' ⟨rfl, hbn⟩; clear hx0 hx1; have HI2 := Lib.hid (HI.out.next hbn); clear HI hbn; have HI := HI2; clear HI2; have hx0 := HI.out.x0; have hx1 := HI.out.x1)
                go_roundg g4
                case measure => omega
                case rel => exact ⟨b + 1, by omega, by go_num, HI.out, HQ⟩
              | false =>
                have c3 : ((b : Int) != (a : Int)) = true := by rw [bne, c2]; rfl
                cases c6 : le up b a with
                | true =>
                  have HF : Hid (bad up a = true) := HYes.out b hbl (by rw [HB1.out, c2, c4, c6]; rfl)
                  go_wp2_with (go_at_call 81; refine (rbel_any _ ns up _ _ _ HI.out.rd (by omega) (by omega)).mono ?_; rintro e w' ⟨rfl, hbn⟩; clear hx0 hx1; have HI2 := Lib.hid (HI.out.next hbn); clear HI hbn; have HI := HI2; clear HI2; have hx0 := HI.out.x0; have hx1 := HI.out.x1)
                  go_ret
                  exact ⟨ret_bool (by rw [HF.out]; rfl), HI.out.bel⟩
                | false =>
                  have HQ := Lib.hid (any_succ hq.out (by rw [HB1.out, c2, c4, c6]; rfl))
                  go_wp2_with (go_at_call 81; refine (rbel_any _ ns up _ _ _ HI.out.rd (by omega) (by omega)).mono ?_; rintro e w' ⟨rfl, hbn⟩; clear hx0 hx1; have HI2 := Lib.hid (HI.out.next hbn); clear HI hbn; have HI := HI2; clear HI2; have hx0 := HI.out.x0; have hx1 := HI.out.x1)
                  go_roundg g4
                  case measure => omega
                  case rel => exact ⟨b + 1, by omega, by go_num, HI.out, HQ⟩
            | false =>
              have c5 : ((tn : Int) != (bn : Int)) = true := by rw [bne, c4]; rfl
              have HF : Hid (bad up a = true) := HYes.out b hbl (by rw [HB1.out, c4]; simp)
              cases c2 : ((b : Int) == (a : Int)) with
              | true =>
                have c3 : ((b : Int) != (a : Int)) = false := by rw [bne, c2]; rfl
                go_wp2_with (go_at_call 81; refine (rbel_any _ ns up _ _ _ HI.out.rd (by omega) (by omega)).mono ?_; rintro e w' ⟨rfl, hbn⟩; clear hx0 hx1; have HI2 := Lib.hid (HI.out.next hbn); clear HI hbn; have HI := HI2; clear HI2; have hx0 := HI.out.x0; have hx1 := HI.out.x1)
                go_ret
                exact ⟨ret_bool (by rw [HF.out]; rfl), HI.out.bel⟩
              | false =>
                have c3 : ((b : Int) != (a : Int)) = true := by rw [bne, c2]; rfl
                cases c6 : le up b a with
                | true =>
                  go_wp2_with (go_at_call 81; refine (rbel_any _ ns up _ _ _ HI.out.rd (by omega) (by omega)).mono ?_; rintro e w' ⟨rfl, hbn⟩; clear hx0 hx1; have HI2 := Lib.hid (HI.out.next hbn); clear HI hbn; have HI := HI2; clear HI2; have hx0 := HI.out.x0; have hx1 := HI.out.x1)
                  go_ret
                  exact ⟨ret_bool (by rw [HF.out]; rfl), HI.out.bel⟩
                | false =>
                  go_wp2_with (go_at_call 81; refine (rbel_any _ ns up _ _ _ HI.out.rd (by omega) (by omega)).mono ?_; rintro e w' ⟨rfl, hbn⟩; clear hx0 hx1; have HI2 := Lib.hid (HI.out.next hbn); clear HI hbn; have HI := HI2; clear HI2; have hx0 := HI.out.x0; have hx1 := HI.out.x1)
                  go_ret
                  exact ⟨ret_bool (by rw [HF.out]; rfl), HI.out.bel⟩
end Go.Proofs.YtablaacddbkeiaaGreatDoor
