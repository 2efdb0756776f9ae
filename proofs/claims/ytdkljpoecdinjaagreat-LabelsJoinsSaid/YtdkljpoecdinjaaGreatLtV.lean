/- The reference: asked, Leq, Join, Meet, Bottom, Top. -/
import Derived.Test.YtdkljpoecdinjaaGreatLtU
namespace Go.Proofs.YtdkljpoecdinjaaGreat
open Go.RowKit

set_option maxRecDepth 100000 in
set_option maxHeartbeats 2000000 in
theorem asked_any (v : Value) (ns : List ByteArray) (up : List UInt8) (a b : Int) (w : World) (hv : RdL w.heap.size w v ns up) :
    Calls Tryz.prog 54 #[v, .int .i64 a, .int .i64 b] w fun e w' => e = .returned (.int .i64 (cl ns up a b)) ∧ Below w.heap.size w w' := by
  have HL := Lib.hid hv
  obtain ⟨⟨vn, vu, rfl, hS, hB⟩, hsz⟩ := hv
  obtain ⟨p, cap, rfl, hc, hc2, h⟩ := hS
  obtain ⟨q, cap', rfl, hc', hc2', h'⟩ := hB
  clear h h' hsz
  have HI := Lib.hid (Bx.new HL.out)
  cases e0 : ((ck ns up).2 == 0) with
  | false =>
    have e1 : ((ck ns up).2 != 0) = true := by rw [bne, e0]; rfl
    have HK := Lib.hid (cl_1 (a := a) (b := b) e1)
    clear e1
    go_enter Tryz.func54, Tryz.ntmps54
    go_wp2_with (go_at_call 22; refine (rcheck_any _ ns up _ HI.out.rd).mono ?_; rintro e w' ⟨rfl, hbn⟩; have HI2 := Lib.hid (HI.out.next hbn); clear HI; have HI := HI2; clear HI2; have hx0 := HI.out.x0; have hx1 := HI.out.x1; clear hbn)
    go_ret
    exact ⟨ret_int HK.out.symm, HI.out.bel⟩
  | true =>
    have e1 : Hid (((ck ns up).2 != 0) = false) := by unfold Hid; rw [bne, e0]; rfl
    have e2 : Hid ((ck ns up).2 = 0) := by unfold Hid; simpa using e0
    go_enter Tryz.func54, Tryz.ntmps54
    go_wp2_with (go_at_call 22; refine (rcheck_any _ ns up _ HI.out.rd).mono ?_; rintro e w' ⟨rfl, hbn⟩; have HI2 := Lib.hid (HI.out.next hbn); clear HI; have HI := HI2; clear HI2; have hx0 := HI.out.x0; have hx1 := HI.out.x1; clear hbn)
    all_goals go_ret
    all_goals refine ⟨ret_int ?_, HI.out.bel⟩
    all_goals first | exact (cl_2 e1.out (by omega)).symm | (rw [e2.out]; exact (cl_3 e1.out (by omega)).symm) | (exact e2.out.trans (cl_3 e1.out (by omega)).symm)

theorem Good.pre {ns : List ByteArray} {up : List UInt8} (h : Good ns up) : Pre up := (pre_of h.bad).1
theorem Good.n8 {ns : List ByteArray} {up : List UInt8} (h : Good ns up) : up.length ≤ 8 := by have := h.most; have := h.len; omega
theorem Good.nrJ {ns : List ByteArray} {up : List UInt8} (h : Good ns up) {a b : Nat} (ha : a < up.length) (hb : b < up.length) : nrV up a b = (J (le up) up.length a b : Int) :=
  nrV_J (nr_mt h.pre ha hb) (h.ords.1.ex a b ha hb)
theorem Good.nrM {ns : List ByteArray} {up : List UInt8} (h : Good ns up) {a b : Nat} (ha : a < up.length) (hb : b < up.length) : nrV (dnU up) a b = (J (ge up) up.length a b : Int) :=
  nrV_J (nr_dn h.pre h.n8 ha hb) (h.ords.2.ex a b ha hb)

set_option maxRecDepth 100000 in
set_option maxHeartbeats 2000000 in
theorem rj_any (v : Value) (ns : List ByteArray) (up : List UInt8) (a b : Nat) (w : World) (hv : RdL w.heap.size w v ns up) (hg : Good ns up) (ha : a < up.length) (hb : b < up.length) :
    Calls Tryz.prog 55 #[v, .int .i64 a, .int .i64 b] w fun e w' => e = .returned (.int .i64 (J (le up) up.length a b)) ∧ Below w.heap.size w w' := by
  have HL := Lib.hid hv
  obtain ⟨⟨vn, vu, rfl, hS, hB⟩, hsz⟩ := hv
  obtain ⟨p, cap, rfl, hc, hc2, h⟩ := hS
  obtain ⟨q, cap', rfl, hc', hc2', h'⟩ := hB
  clear h h' hsz
  have HI := Lib.hid (Bx.new HL.out)
  have h8 := hg.n8
  have HJ := Lib.hid (hg.nrJ ha hb)
  clear hg
  go_enter Tryz.func55, Tryz.ntmps55
  go_wp2_with (go_at_call 47; refine (nearest_any _ up _ _ _ HI.out.up (by omega) (by omega) h8).mono ?_; rw [HJ.out]; rintro e w' ⟨rfl, hbn⟩; have HI2 := Lib.hid (HI.out.next hbn); clear HI; have HI := HI2; clear HI2; have hx0 := HI.out.x0; have hx1 := HI.out.x1; clear hbn)
  go_ret
  exact ⟨rfl, HI.out.bel⟩
set_option maxRecDepth 100000 in
set_option maxHeartbeats 2000000 in
theorem rm_any (v : Value) (ns : List ByteArray) (up : List UInt8) (a b : Nat) (w : World) (hv : RdL w.heap.size w v ns up) (hg : Good ns up) (ha : a < up.length) (hb : b < up.length) :
    Calls Tryz.prog 56 #[v, .int .i64 a, .int .i64 b] w fun e w' => e = .returned (.int .i64 (J (ge up) up.length a b)) ∧ Below w.heap.size w w' := by
  have HL := Lib.hid hv
  obtain ⟨⟨vn, vu, rfl, hS, hB⟩, hsz⟩ := hv
  obtain ⟨p, cap, rfl, hc, hc2, h⟩ := hS
  obtain ⟨q, cap', rfl, hc', hc2', h'⟩ := hB
  clear h h' hsz
  have HI := Lib.hid (Bx.new HL.out)
  have h8 := hg.n8
  have hn8 := hg.most
  have HLE := Lib.hid hg.len
  have HJ := Lib.hid (hg.nrM ha hb)
  clear hg
  go_enter Tryz.func56, Tryz.ntmps56
  go_wp2_with fail
  refine (downs_any _ ns up _ HI.out.rd HLE.out hn8).mono ?_
  rintro e w2 ⟨u, rfl, hdn, hbn⟩
  have HD := Lib.hid hdn
  obtain ⟨ua, uc, rfl, k1, k2, k3⟩ := hdn
  clear k3
  have HI2 := Lib.hid (HI.out.next hbn)
  clear HI
  have HI := HI2
  clear HI2
  have hx0 := HI.out.x0
  have hx1 := HI.out.x1
  clear hbn
  go_wp2_with (go_at_call 47; refine (nearest_any _ (dnU up) _ _ _ HD.out (by rw [dnU_len]; omega) (by rw [dnU_len]; omega) (by rw [dnU_len]; omega)).mono ?_; rw [HJ.out]; rintro e w' ⟨rfl, hbn⟩; clear hx0 hx1; have HI2 := Lib.hid (HI.out.next hbn); clear HI; have HI := HI2; clear HI2; have hx0 := HI.out.x0; have hx1 := HI.out.x1; clear hbn)
  go_ret
  exact ⟨rfl, HI.out.bel⟩

set_option maxRecDepth 100000 in
set_option maxHeartbeats 2000000 in
theorem rjoin_ok (v : Value) (ns : List ByteArray) (up : List UInt8) (a b : Nat) (w : World) (hv : RdL w.heap.size w v ns up) (hg : Good ns up) (ha : a < up.length) (hb : b < up.length) :
    Calls Tryz.prog 51 #[v, .int .i64 a, .int .i64 b] w fun e w' => e = .returned (.tuple #[.int .i64 (J (le up) up.length a b), .int .i64 0]) ∧ Below w.heap.size w w' := by
  have HL := Lib.hid hv
  obtain ⟨⟨vn, vu, rfl, hS, hB⟩, hsz⟩ := hv
  obtain ⟨p, cap, rfl, hc, hc2, h⟩ := hS
  obtain ⟨q, cap', rfl, hc', hc2', h'⟩ := hB
  clear h h' hsz
  have HI := Lib.hid (Bx.new HL.out)
  have H0 := Lib.hid (hg.cl0 ha hb)
  have HG := Lib.hid hg
  clear hg
  go_enter Tryz.func51, Tryz.ntmps51
  go_wp2_with (first
    | (go_at_call 54; refine (asked_any _ ns up _ _ _ HI.out.rd).mono ?_; rw [H0.out]; rintro e w' ⟨rfl, hbn⟩; have HI2 := Lib.hid (HI.out.next hbn); clear HI; have HI := HI2; clear HI2; have hx0 := HI.out.x0; have hx1 := HI.out.x1; clear hbn)
    | (go_at_call 55; refine (rj_any _ ns up _ _ _ HI.out.rd HG.out ha hb).mono ?_; rintro e w' ⟨rfl, hbn⟩; clear hx0 hx1; have HI2 := Lib.hid (HI.out.next hbn); clear HI; have HI := HI2; clear HI2; have hx0 := HI.out.x0; have hx1 := HI.out.x1; clear hbn))
  go_ret2
  exact ⟨rfl, HI.out.bel⟩

set_option maxRecDepth 100000 in
set_option maxHeartbeats 2000000 in
theorem rjoin_bad (v : Value) (ns : List ByteArray) (up : List UInt8) (a b : Int) (w : World) (hv : RdL w.heap.size w v ns up) (hc0 : (cl ns up a b != 0) = true) :
    Calls Tryz.prog 51 #[v, .int .i64 a, .int .i64 b] w fun e w' => e = .returned (.tuple #[.int .i64 0, .int .i64 (cl ns up a b)]) ∧ Below w.heap.size w w' := by
  have HL := Lib.hid hv
  obtain ⟨⟨vn, vu, rfl, hS, hB⟩, hsz⟩ := hv
  obtain ⟨p, cap, rfl, hc, hc2, h⟩ := hS
  obtain ⟨q, cap', rfl, hc', hc2', h'⟩ := hB
  clear h h' hsz
  have HI := Lib.hid (Bx.new HL.out)
  go_enter Tryz.func51, Tryz.ntmps51
  go_wp2_with (first
    | (go_at_call 54; refine (asked_any _ ns up _ _ _ HI.out.rd).mono ?_; rintro e w' ⟨rfl, hbn⟩; have HI2 := Lib.hid (HI.out.next hbn); clear HI; have HI := HI2; clear HI2; have hx0 := HI.out.x0; have hx1 := HI.out.x1; clear hbn))
  go_ret2
  exact ⟨rfl, HI.out.bel⟩

set_option maxRecDepth 100000 in
set_option maxHeartbeats 2000000 in
theorem rmeet_ok (v : Value) (ns : List ByteArray) (up : List UInt8) (a b : Nat) (w : World) (hv : RdL w.heap.size w v ns up) (hg : Good ns up) (ha : a < up.length) (hb : b < up.length) :
    Calls Tryz.prog 30 #[v, .int .i64 a, .int .i64 b] w fun e w' => e = .returned (.tuple #[.int .i64 (J (ge up) up.length a b), .int .i64 0]) ∧ Below w.heap.size w w' := by
  have HL := Lib.hid hv
  obtain ⟨⟨vn, vu, rfl, hS, hB⟩, hsz⟩ := hv
  obtain ⟨p, cap, rfl, hc, hc2, h⟩ := hS
  obtain ⟨q, cap', rfl, hc', hc2', h'⟩ := hB
  clear h h' hsz
  have HI := Lib.hid (Bx.new HL.out)
  have H0 := Lib.hid (hg.cl0 ha hb)
  have HG := Lib.hid hg
  clear hg
  go_enter Tryz.func30, Tryz.ntmps30
  go_wp2_with (first
    | (go_at_call 54; refine (asked_any _ ns up _ _ _ HI.out.rd).mono ?_; rw [H0.out]; rintro e w' ⟨rfl, hbn⟩; have HI2 := Lib.hid (HI.out.next hbn); clear HI; have HI := HI2; clear HI2; have hx0 := HI.out.x0; have hx1 := HI.out.x1; clear hbn)
    | (go_at_call 56; refine (rm_any _ ns up _ _ _ HI.out.rd HG.out ha hb).mono ?_; rintro e w' ⟨rfl, hbn⟩; clear hx0 hx1; have HI2 := Lib.hid (HI.out.next hbn); clear HI; have HI := HI2; clear HI2; have hx0 := HI.out.x0; have hx1 := HI.out.x1; clear hbn))
  go_ret2
  exact ⟨rfl, HI.out.bel⟩

set_option maxRecDepth 100000 in
set_option maxHeartbeats 2000000 in
theorem rmeet_bad (v : Value) (ns : List ByteArray) (up : List UInt8) (a b : Int) (w : World) (hv : RdL w.heap.size w v ns up) (hc0 : (cl ns up a b != 0) = true) :
    Calls Tryz.prog 30 #[v, .int .i64 a, .int .i64 b] w fun e w' => e = .returned (.tuple #[.int .i64 0, .int .i64 (cl ns up a b)]) ∧ Below w.heap.size w w' := by
  have HL := Lib.hid hv
  obtain ⟨⟨vn, vu, rfl, hS, hB⟩, hsz⟩ := hv
  obtain ⟨p, cap, rfl, hc, hc2, h⟩ := hS
  obtain ⟨q, cap', rfl, hc', hc2', h'⟩ := hB
  clear h h' hsz
  have HI := Lib.hid (Bx.new HL.out)
  go_enter Tryz.func30, Tryz.ntmps30
  go_wp2_with (first
    | (go_at_call 54; refine (asked_any _ ns up _ _ _ HI.out.rd).mono ?_; rintro e w' ⟨rfl, hbn⟩; have HI2 := Lib.hid (HI.out.next hbn); clear HI; have HI := HI2; clear HI2; have hx0 := HI.out.x0; have hx1 := HI.out.x1; clear hbn))
  go_ret2
  exact ⟨rfl, HI.out.bel⟩

theorem cl00 {ns : List ByteArray} {up : List UInt8} : cl ns up 0 0 = (ck ns up).2 := by
  cases h : ((ck ns up).2 != 0)
  · have hz : (ck ns up).2 = 0 := by simpa using h
    have := (good_of hz).pos
    rw [cl_3 h (by omega), hz]
  · exact cl_1 h
set_option maxRecDepth 100000 in
set_option maxHeartbeats 2000000 in
theorem rtop_ok (v : Value) (ns : List ByteArray) (up : List UInt8) (w : World) (hv : RdL w.heap.size w v ns up) (hg : Good ns up) :
    Calls Tryz.prog 29 #[v] w fun e w' => e = .returned (.tuple #[.int .i64 (endF (le up) up.length up.length), .int .i64 0]) ∧ Below w.heap.size w w' := by
  have HL := Lib.hid hv
  obtain ⟨⟨vn, vu, rfl, hS, hB⟩, hsz⟩ := hv
  obtain ⟨p, cap, rfl, hc, hc2, h⟩ := hS
  obtain ⟨q, cap', rfl, hc', hc2', h'⟩ := hB
  clear h h' hsz
  have HI := Lib.hid (Bx.new HL.out)
  have H0 : Hid (cl ns up 0 0 = 0) := by unfold Hid; rw [cl00, hg.ck]
  have HG := Lib.hid hg
  have HO := Lib.hid hg.ords
  have hle1 : ns.length ≤ up.length := by have := hg.len; omega
  have hle2 : up.length ≤ ns.length := by have := hg.len; omega
  have hn0 : 0 < up.length := by have := hg.pos; omega
  clear hg
  go_enter Tryz.func29, Tryz.ntmps29
  go_wp2_with (go_at_call 54; refine (asked_any _ ns up _ _ _ HI.out.rd).mono ?_; rw [H0.out]; rintro e w' ⟨rfl, hbn⟩; have HI2 := Lib.hid (HI.out.next hbn); clear HI; have HI := HI2; clear HI2; have hx0 := HI.out.x0; have hx1 := HI.out.x1; clear hbn)
  clear hx0 hx1
  go_loopg [5, 6] ns.length (fun g x i wr => ∃ k : Nat, k + g = ns.length ∧ i = .int .i64 k ∧ x = .int .i64 (endF (le up) up.length k) ∧ Bx w (.slice p ns.length cap) (.slice q up.length cap') ns up wr)
  case atStart => exact ⟨0, by omega, rfl, rfl, HI.out⟩
  case round =>
    clear HI
    obtain ⟨k, hkg, rfl, rfl, hix⟩ := hrel
    have HI := Lib.hid hix
    have hx0 := hix.x0
    have hx1 := hix.x1
    clear hix
    cases gk with
    | zero =>
      have hkz : ¬ ((k : Int) < (ns.length : Int)) := by omega
      have HK : Hid (k = up.length) := by unfold Hid; omega
      go_wp2_with fail
      go_ret2
      exact ⟨ret_two (by rw [HK.out]; rfl) rfl, HI.out.bel⟩
    | succ g =>
      have hlt : (k : Int) < (ns.length : Int) := by omega
      have hel := HO.out.1.end_lt k (by omega) hn0
      have HE : Hid (J (le up) up.length k (endF (le up) up.length k) = endF (le up) up.length (k + 1)) := by
        unfold Hid; rw [Ord.end_succ, HO.out.1.J_comm (by omega) hel]
      go_wp2_with (go_at_call 55; refine (rj_any _ ns up _ _ _ HI.out.rd HG.out (by omega) hel).mono ?_; rw [HE.out]; rintro e w' ⟨rfl, hbn⟩; clear hx0 hx1; have HI2 := Lib.hid (HI.out.next hbn); clear HI; have HI := HI2; clear HI2; have hx0 := HI.out.x0; have hx1 := HI.out.x1; clear hbn)
      go_roundg g
      case measure => omega
      case rel => exact ⟨k + 1, by omega, by go_num, rfl, HI.out⟩
set_option maxRecDepth 100000 in
set_option maxHeartbeats 2000000 in
theorem rbottom_ok (v : Value) (ns : List ByteArray) (up : List UInt8) (w : World) (hv : RdL w.heap.size w v ns up) (hg : Good ns up) :
    Calls Tryz.prog 50 #[v] w fun e w' => e = .returned (.tuple #[.int .i64 (endF (ge up) up.length up.length), .int .i64 0]) ∧ Below w.heap.size w w' := by
  have HL := Lib.hid hv
  obtain ⟨⟨vn, vu, rfl, hS, hB⟩, hsz⟩ := hv
  obtain ⟨p, cap, rfl, hc, hc2, h⟩ := hS
  obtain ⟨q, cap', rfl, hc', hc2', h'⟩ := hB
  clear h h' hsz
  have HI := Lib.hid (Bx.new HL.out)
  have H0 : Hid (cl ns up 0 0 = 0) := by unfold Hid; rw [cl00, hg.ck]
  have HG := Lib.hid hg
  have HO := Lib.hid hg.ords
  have HLE := Lib.hid hg.len
  have hn8 := hg.most
  have h8 := hg.n8
  have hle1 : ns.length ≤ up.length := by have := hg.len; omega
  have hle2 : up.length ≤ ns.length := by have := hg.len; omega
  have hn0 : 0 < up.length := by have := hg.pos; omega
  clear hg
  go_enter Tryz.func50, Tryz.ntmps50
  go_wp2_with (go_at_call 54; refine (asked_any _ ns up _ _ _ HI.out.rd).mono ?_; rw [H0.out]; rintro e w' ⟨rfl, hbn⟩; have HI2 := Lib.hid (HI.out.next hbn); clear HI; have HI := HI2; clear HI2; have hx0 := HI.out.x0; have hx1 := HI.out.x1; clear hbn)
  refine (downs_any _ ns up _ HI.out.rd HLE.out hn8).mono ?_
  rintro e w2 ⟨u, rfl, hdn, hbn⟩
  clear hx0 hx1
  have HD := Lib.hid hdn
  obtain ⟨ua, uc, rfl, k1, k2, k3⟩ := hdn
  clear k3
  have HI2 := Lib.hid (HI.out.next hbn)
  clear HI
  have HI := HI2
  clear HI2
  have hx0 := HI.out.x0
  have hx1 := HI.out.x1
  clear hbn
  go_wp2_with fail
  clear hx0 hx1
  go_loopg [6, 7] ns.length (fun g x i wr => ∃ k : Nat, k + g = ns.length ∧ i = .int .i64 k ∧ x = .int .i64 (endF (ge up) up.length k) ∧ Bx w (.slice p ns.length cap) (.slice q up.length cap') ns up wr ∧ RdB wr.heap.size wr (.slice ua (dnU up).length uc) (dnU up))
  case atStart => exact ⟨0, by omega, rfl, rfl, HI.out, HD.out⟩
  case round =>
    clear HI HD
    obtain ⟨k, hkg, rfl, rfl, hix, hd⟩ := hrel
    have HI := Lib.hid hix
    have HD := Lib.hid hd
    have hx0 := hix.x0
    have hx1 := hix.x1
    clear hix hd
    cases gk with
    | zero =>
      have hkz : ¬ ((k : Int) < (ns.length : Int)) := by omega
      have HK : Hid (k = up.length) := by unfold Hid; omega
      go_wp2_with fail
      go_ret2
      exact ⟨ret_two (by rw [HK.out]; rfl) rfl, HI.out.bel⟩
    | succ g =>
      have hlt : (k : Int) < (ns.length : Int) := by omega
      have hel := HO.out.2.end_lt k (by omega) hn0
      have HE : Hid (nrV (dnU up) k (endF (ge up) up.length k) = (endF (ge up) up.length (k + 1) : Int)) := by
        unfold Hid; rw [HG.out.nrM (by omega) hel, Ord.end_succ, HO.out.2.J_comm (by omega) hel]
      go_wp2_with (go_at_call 47; refine (nearest_any _ (dnU up) _ _ _ HD.out (by rw [dnU_len]; omega) (by rw [dnU_len]; exact hel) (by rw [dnU_len]; exact h8)).mono ?_; rw [HE.out]; rintro e w' ⟨rfl, hbn⟩; clear hx0 hx1; have HI2 := Lib.hid (HI.out.next hbn); clear HI; have HI := HI2; clear HI2; have hx0 := HI.out.x0; have hx1 := HI.out.x1; have HD2 := Lib.hid (HD.out.next hbn); clear HD; have HD := HD2; clear HD2; clear hbn)
      go_roundg g
      case measure => omega
      case rel => exact ⟨k + 1, by omega, by go_num, rfl, HI.out, HD.out⟩

set_option maxRecDepth 100000 in
set_option maxHeartbeats 2000000 in
theorem rbottom_bad (v : Value) (ns : List ByteArray) (up : List UInt8) (w : World) (hv : RdL w.heap.size w v ns up) (hc0 : ((ck ns up).2 != 0) = true) :
    Calls Tryz.prog 50 #[v] w fun e w' => e = .returned (.tuple #[.int .i64 0, .int .i64 (ck ns up).2]) ∧ Below w.heap.size w w' := by
  have HL := Lib.hid hv
  obtain ⟨⟨vn, vu, rfl, hS, hB⟩, hsz⟩ := hv
  obtain ⟨p, cap, rfl, hc, hc2, h⟩ := hS
  obtain ⟨q, cap', rfl, hc', hc2', h'⟩ := hB
  clear h h' hsz
  have HI := Lib.hid (Bx.new HL.out)
  have H0 : Hid (cl ns up 0 0 = (ck ns up).2) := cl00
  go_enter Tryz.func50, Tryz.ntmps50
  go_wp2_with (go_at_call 54; refine (asked_any _ ns up _ _ _ HI.out.rd).mono ?_; rw [H0.out]; rintro e w' ⟨rfl, hbn⟩; have HI2 := Lib.hid (HI.out.next hbn); clear HI; have HI := HI2; clear HI2; have hx0 := HI.out.x0; have hx1 := HI.out.x1; clear hbn)
  go_ret2
  exact ⟨rfl, HI.out.bel⟩

set_option maxRecDepth 100000 in
set_option maxHeartbeats 2000000 in
theorem rtop_bad (v : Value) (ns : List ByteArray) (up : List UInt8) (w : World) (hv : RdL w.heap.size w v ns up) (hc0 : ((ck ns up).2 != 0) = true) :
    Calls Tryz.prog 29 #[v] w fun e w' => e = .returned (.tuple #[.int .i64 0, .int .i64 (ck ns up).2]) ∧ Below w.heap.size w w' := by
  have HL := Lib.hid hv
  obtain ⟨⟨vn, vu, rfl, hS, hB⟩, hsz⟩ := hv
  obtain ⟨p, cap, rfl, hc, hc2, h⟩ := hS
  obtain ⟨q, cap', rfl, hc', hc2', h'⟩ := hB
  clear h h' hsz
  have HI := Lib.hid (Bx.new HL.out)
  have H0 : Hid (cl ns up 0 0 = (ck ns up).2) := cl00
  go_enter Tryz.func29, Tryz.ntmps29
  go_wp2_with (go_at_call 54; refine (asked_any _ ns up _ _ _ HI.out.rd).mono ?_; rw [H0.out]; rintro e w' ⟨rfl, hbn⟩; have HI2 := Lib.hid (HI.out.next hbn); clear HI; have HI := HI2; clear HI2; have hx0 := HI.out.x0; have hx1 := HI.out.x1; clear hbn)
  go_ret2
  exact ⟨rfl, HI.out.bel⟩
end Go.Proofs.YtdkljpoecdinjaaGreat
