/- The law LatticeOrders as a walk. -/
import Derived.Test.YtfjnapmhnfjopaaLtV
namespace Go.Proofs.Ytfjnapmhnfjopaa
open Go.RowKit

set_option maxRecDepth 100000 in
set_option maxHeartbeats 8000000 in
theorem lawOrders_far (v : Value) (ns : List ByteArray) (up : List UInt8) (a b : Int) (w : World) (hv : RdL w.heap.size w v ns up) (e0 : farB ns up = true) :
    Calls Try.prog 4 #[v, .int .i64 a, .int .i64 b] w fun e w' => e = .returned (.bool true) ∧ Below w.heap.size w w' := by
  have HL := Lib.hid hv
  obtain ⟨⟨vn, vu, rfl, hS, hB⟩, hsz⟩ := hv
  obtain ⟨p, cap, rfl, hc, hc2, h⟩ := hS
  obtain ⟨q, cap', rfl, hc', hc2', h'⟩ := hB
  clear h h' hsz
  have HI := Lib.hid (Bx.new HL.out)
  go_enter Try.func4, Try.ntmps4
  go_wp2_with (first
      | (go_at_call 11; refine (far_any _ ns up _ HI.out.rd).mono ?_; rintro e w' ⟨rfl, hbn⟩; have HI2 := Lib.hid (HI.out.next hbn); clear HI; have HI := HI2; clear HI2; have hx0 := HI.out.x0; have hx1 := HI.out.x1; clear hbn)
      | (go_at_call 13; refine (awake_any _).mono ?_; rintro e w' ⟨rfl, hbn⟩; clear hx0 hx1; have HI2 := Lib.hid (HI.out.next hbn); clear HI; have HI := HI2; clear HI2; have hx0 := HI.out.x0; have hx1 := HI.out.x1; clear hbn))
  go_ret
  exact ⟨rfl, HI.out.bel⟩

set_option maxRecDepth 100000 in
set_option maxHeartbeats 8000000 in
theorem lawOrders_bad (v : Value) (ns : List ByteArray) (up : List UInt8) (a b : Int) (w : World) (hv : RdL w.heap.size w v ns up) (e0 : farB ns up = false) (hck : ((ck ns up).2 != 0) = true) :
    Calls Try.prog 4 #[v, .int .i64 a, .int .i64 b] w fun e w' => e = .returned (.bool true) ∧ Below w.heap.size w w' := by
  have HL := Lib.hid hv
  obtain ⟨⟨vn, vu, rfl, hS, hB⟩, hsz⟩ := hv
  obtain ⟨p, cap, rfl, hc, hc2, h⟩ := hS
  obtain ⟨q, cap', rfl, hc', hc2', h'⟩ := hB
  clear h h' hsz
  have HI := Lib.hid (Bx.new HL.out)
  have hcl : (cl ns up a b != 0) = true := by rw [cl_1 hck]; exact hck
  go_enter Try.func4, Try.ntmps4
  go_wp2_with (first
      | (go_at_call 11; refine (far_any _ ns up _ HI.out.rd).mono ?_; rintro e w' ⟨rfl, hbn⟩; have HI2 := Lib.hid (HI.out.next hbn); clear HI; have HI := HI2; clear HI2; have hx0 := HI.out.x0; have hx1 := HI.out.x1; clear hbn)
      | (go_at_call 13; refine (awake_any _).mono ?_; rintro e w' ⟨rfl, hbn⟩; clear hx0 hx1; have HI2 := Lib.hid (HI.out.next hbn); clear HI; have HI := HI2; clear HI2; have hx0 := HI.out.x0; have hx1 := HI.out.x1; clear hbn)
      | (go_at_call 19; refine (leq_bad _ ns up _ _ _ HI.out.rd hcl).mono ?_; rintro e w' ⟨rfl, hbn⟩; clear hx0 hx1; have HI2 := Lib.hid (HI.out.next hbn); clear HI; have HI := HI2; clear HI2; have hx0 := HI.out.x0; have hx1 := HI.out.x1; clear hbn)
      | (go_at_call 20; refine (rleq_bad _ ns up _ _ _ HI.out.rd hcl).mono ?_; rintro e w' ⟨rfl, hbn⟩; clear hx0 hx1; have HI2 := Lib.hid (HI.out.next hbn); clear HI; have HI := HI2; clear HI2; have hx0 := HI.out.x0; have hx1 := HI.out.x1; clear hbn)
      | (go_at_call 21; refine (join_bad _ ns up _ _ _ HI.out.rd hcl).mono ?_; rintro e w' ⟨rfl, hbn⟩; clear hx0 hx1; have HI2 := Lib.hid (HI.out.next hbn); clear HI; have HI := HI2; clear HI2; have hx0 := HI.out.x0; have hx1 := HI.out.x1; clear hbn)
      | (go_at_call 22; refine (rjoin_bad _ ns up _ _ _ HI.out.rd hcl).mono ?_; rintro e w' ⟨rfl, hbn⟩; clear hx0 hx1; have HI2 := Lib.hid (HI.out.next hbn); clear HI; have HI := HI2; clear HI2; have hx0 := HI.out.x0; have hx1 := HI.out.x1; clear hbn)
      | (go_at_call 23; refine (meet_bad _ ns up _ _ _ HI.out.rd hcl).mono ?_; rintro e w' ⟨rfl, hbn⟩; clear hx0 hx1; have HI2 := Lib.hid (HI.out.next hbn); clear HI; have HI := HI2; clear HI2; have hx0 := HI.out.x0; have hx1 := HI.out.x1; clear hbn)
      | (go_at_call 24; refine (rmeet_bad _ ns up _ _ _ HI.out.rd hcl).mono ?_; rintro e w' ⟨rfl, hbn⟩; clear hx0 hx1; have HI2 := Lib.hid (HI.out.next hbn); clear HI; have HI := HI2; clear HI2; have hx0 := HI.out.x0; have hx1 := HI.out.x1; clear hbn)
      | (go_at_call 25; refine (bottom_bad _ ns up _ HI.out.rd hck).mono ?_; rintro e w' ⟨rfl, hbn⟩; clear hx0 hx1; have HI2 := Lib.hid (HI.out.next hbn); clear HI; have HI := HI2; clear HI2; have hx0 := HI.out.x0; have hx1 := HI.out.x1; clear hbn)
      | (go_at_call 26; refine (rbottom_bad _ ns up _ HI.out.rd hck).mono ?_; rintro e w' ⟨rfl, hbn⟩; clear hx0 hx1; have HI2 := Lib.hid (HI.out.next hbn); clear HI; have HI := HI2; clear HI2; have hx0 := HI.out.x0; have hx1 := HI.out.x1; clear hbn)
      | (go_at_call 27; refine (top_bad _ ns up _ HI.out.rd hck).mono ?_; rintro e w' ⟨rfl, hbn⟩; clear hx0 hx1; have HI2 := Lib.hid (HI.out.next hbn); clear HI; have HI := HI2; clear HI2; have hx0 := HI.out.x0; have hx1 := HI.out.x1; clear hbn)
      | (go_at_call 28; refine (rtop_bad _ ns up _ HI.out.rd hck).mono ?_; rintro e w' ⟨rfl, hbn⟩; clear hx0 hx1; have HI2 := Lib.hid (HI.out.next hbn); clear HI; have HI := HI2; clear HI2; have hx0 := HI.out.x0; have hx1 := HI.out.x1; clear hbn))
  go_ret
  exact ⟨rfl, HI.out.bel⟩

set_option maxRecDepth 100000 in
set_option maxHeartbeats 8000000 in
theorem lawOrders_rng (v : Value) (ns : List ByteArray) (up : List UInt8) (a b : Int) (w : World) (hv : RdL w.heap.size w v ns up) (e0 : farB ns up = false) (hg : Good ns up) (hcl : (cl ns up a b != 0) = true) :
    Calls Try.prog 4 #[v, .int .i64 a, .int .i64 b] w fun e w' => e = .returned (.bool true) ∧ Below w.heap.size w w' := by
  have HL := Lib.hid hv
  obtain ⟨⟨vn, vu, rfl, hS, hB⟩, hsz⟩ := hv
  obtain ⟨p, cap, rfl, hc, hc2, h⟩ := hS
  obtain ⟨q, cap', rfl, hc', hc2', h'⟩ := hB
  clear h h' hsz
  have HI := Lib.hid (Bx.new HL.out)
  have HG := Lib.hid hg
  clear hg
  go_enter Try.func4, Try.ntmps4
  go_wp2_with (first
      | (go_at_call 11; refine (far_any _ ns up _ HI.out.rd).mono ?_; rintro e w' ⟨rfl, hbn⟩; have HI2 := Lib.hid (HI.out.next hbn); clear HI; have HI := HI2; clear HI2; have hx0 := HI.out.x0; have hx1 := HI.out.x1; clear hbn)
      | (go_at_call 13; refine (awake_any _).mono ?_; rintro e w' ⟨rfl, hbn⟩; clear hx0 hx1; have HI2 := Lib.hid (HI.out.next hbn); clear HI; have HI := HI2; clear HI2; have hx0 := HI.out.x0; have hx1 := HI.out.x1; clear hbn)
      | (go_at_call 19; refine (leq_bad _ ns up _ _ _ HI.out.rd hcl).mono ?_; rintro e w' ⟨rfl, hbn⟩; clear hx0 hx1; have HI2 := Lib.hid (HI.out.next hbn); clear HI; have HI := HI2; clear HI2; have hx0 := HI.out.x0; have hx1 := HI.out.x1; clear hbn)
      | (go_at_call 20; refine (rleq_bad _ ns up _ _ _ HI.out.rd hcl).mono ?_; rintro e w' ⟨rfl, hbn⟩; clear hx0 hx1; have HI2 := Lib.hid (HI.out.next hbn); clear HI; have HI := HI2; clear HI2; have hx0 := HI.out.x0; have hx1 := HI.out.x1; clear hbn)
      | (go_at_call 21; refine (join_bad _ ns up _ _ _ HI.out.rd hcl).mono ?_; rintro e w' ⟨rfl, hbn⟩; clear hx0 hx1; have HI2 := Lib.hid (HI.out.next hbn); clear HI; have HI := HI2; clear HI2; have hx0 := HI.out.x0; have hx1 := HI.out.x1; clear hbn)
      | (go_at_call 22; refine (rjoin_bad _ ns up _ _ _ HI.out.rd hcl).mono ?_; rintro e w' ⟨rfl, hbn⟩; clear hx0 hx1; have HI2 := Lib.hid (HI.out.next hbn); clear HI; have HI := HI2; clear HI2; have hx0 := HI.out.x0; have hx1 := HI.out.x1; clear hbn)
      | (go_at_call 23; refine (meet_bad _ ns up _ _ _ HI.out.rd hcl).mono ?_; rintro e w' ⟨rfl, hbn⟩; clear hx0 hx1; have HI2 := Lib.hid (HI.out.next hbn); clear HI; have HI := HI2; clear HI2; have hx0 := HI.out.x0; have hx1 := HI.out.x1; clear hbn)
      | (go_at_call 24; refine (rmeet_bad _ ns up _ _ _ HI.out.rd hcl).mono ?_; rintro e w' ⟨rfl, hbn⟩; clear hx0 hx1; have HI2 := Lib.hid (HI.out.next hbn); clear HI; have HI := HI2; clear HI2; have hx0 := HI.out.x0; have hx1 := HI.out.x1; clear hbn)
      | (go_at_call 25; refine (bottom_ok _ ns up _ HI.out.rd HG.out).mono ?_; rintro e w' ⟨rfl, hbn⟩; clear hx0 hx1; have HI2 := Lib.hid (HI.out.next hbn); clear HI; have HI := HI2; clear HI2; have hx0 := HI.out.x0; have hx1 := HI.out.x1; clear hbn)
      | (go_at_call 26; refine (rbottom_ok _ ns up _ HI.out.rd HG.out).mono ?_; rintro e w' ⟨rfl, hbn⟩; clear hx0 hx1; have HI2 := Lib.hid (HI.out.next hbn); clear HI; have HI := HI2; clear HI2; have hx0 := HI.out.x0; have hx1 := HI.out.x1; clear hbn)
      | (go_at_call 27; refine (top_ok _ ns up _ HI.out.rd HG.out).mono ?_; rintro e w' ⟨rfl, hbn⟩; clear hx0 hx1; have HI2 := Lib.hid (HI.out.next hbn); clear HI; have HI := HI2; clear HI2; have hx0 := HI.out.x0; have hx1 := HI.out.x1; clear hbn)
      | (go_at_call 28; refine (rtop_ok _ ns up _ HI.out.rd HG.out).mono ?_; rintro e w' ⟨rfl, hbn⟩; clear hx0 hx1; have HI2 := Lib.hid (HI.out.next hbn); clear HI; have HI := HI2; clear HI2; have hx0 := HI.out.x0; have hx1 := HI.out.x1; clear hbn))
  go_ret
  exact ⟨rfl, HI.out.bel⟩

set_option maxRecDepth 100000 in
set_option maxHeartbeats 8000000 in
theorem lawOrders_ok (v : Value) (ns : List ByteArray) (up : List UInt8) (a b : Nat) (w : World) (hv : RdL w.heap.size w v ns up) (e0 : farB ns up = false) (hg : Good ns up) (ha : a < up.length) (hb : b < up.length) :
    Calls Try.prog 4 #[v, .int .i64 a, .int .i64 b] w fun e w' => e = .returned (.bool true) ∧ Below w.heap.size w w' := by
  have HL := Lib.hid hv
  obtain ⟨⟨vn, vu, rfl, hS, hB⟩, hsz⟩ := hv
  obtain ⟨p, cap, rfl, hc, hc2, h⟩ := hS
  obtain ⟨q, cap', rfl, hc', hc2', h'⟩ := hB
  clear h h' hsz
  have HI := Lib.hid (Bx.new HL.out)
  have HG := Lib.hid hg
  clear hg
  go_enter Try.func4, Try.ntmps4
  go_wp2_with (first
      | (go_at_call 11; refine (far_any _ ns up _ HI.out.rd).mono ?_; rintro e w' ⟨rfl, hbn⟩; have HI2 := Lib.hid (HI.out.next hbn); clear HI; have HI := HI2; clear HI2; have hx0 := HI.out.x0; have hx1 := HI.out.x1; clear hbn)
      | (go_at_call 13; refine (awake_any _).mono ?_; rintro e w' ⟨rfl, hbn⟩; clear hx0 hx1; have HI2 := Lib.hid (HI.out.next hbn); clear HI; have HI := HI2; clear HI2; have hx0 := HI.out.x0; have hx1 := HI.out.x1; clear hbn)
      | (go_at_call 19; refine (leq_ok _ ns up _ _ _ HI.out.rd HG.out ha hb).mono ?_; rintro e w' ⟨rfl, hbn⟩; clear hx0 hx1; have HI2 := Lib.hid (HI.out.next hbn); clear HI; have HI := HI2; clear HI2; have hx0 := HI.out.x0; have hx1 := HI.out.x1; clear hbn)
      | (go_at_call 20; refine (rleq_ok _ ns up _ _ _ HI.out.rd HG.out ha hb).mono ?_; rintro e w' ⟨rfl, hbn⟩; clear hx0 hx1; have HI2 := Lib.hid (HI.out.next hbn); clear HI; have HI := HI2; clear HI2; have hx0 := HI.out.x0; have hx1 := HI.out.x1; clear hbn)
      | (go_at_call 21; refine (join_ok _ ns up _ _ _ HI.out.rd HG.out ha hb).mono ?_; rintro e w' ⟨rfl, hbn⟩; clear hx0 hx1; have HI2 := Lib.hid (HI.out.next hbn); clear HI; have HI := HI2; clear HI2; have hx0 := HI.out.x0; have hx1 := HI.out.x1; clear hbn)
      | (go_at_call 22; refine (rjoin_ok _ ns up _ _ _ HI.out.rd HG.out ha hb).mono ?_; rintro e w' ⟨rfl, hbn⟩; clear hx0 hx1; have HI2 := Lib.hid (HI.out.next hbn); clear HI; have HI := HI2; clear HI2; have hx0 := HI.out.x0; have hx1 := HI.out.x1; clear hbn)
      | (go_at_call 23; refine (meet_ok _ ns up _ _ _ HI.out.rd HG.out ha hb).mono ?_; rintro e w' ⟨rfl, hbn⟩; clear hx0 hx1; have HI2 := Lib.hid (HI.out.next hbn); clear HI; have HI := HI2; clear HI2; have hx0 := HI.out.x0; have hx1 := HI.out.x1; clear hbn)
      | (go_at_call 24; refine (rmeet_ok _ ns up _ _ _ HI.out.rd HG.out ha hb).mono ?_; rintro e w' ⟨rfl, hbn⟩; clear hx0 hx1; have HI2 := Lib.hid (HI.out.next hbn); clear HI; have HI := HI2; clear HI2; have hx0 := HI.out.x0; have hx1 := HI.out.x1; clear hbn)
      | (go_at_call 25; refine (bottom_ok _ ns up _ HI.out.rd HG.out).mono ?_; rintro e w' ⟨rfl, hbn⟩; clear hx0 hx1; have HI2 := Lib.hid (HI.out.next hbn); clear HI; have HI := HI2; clear HI2; have hx0 := HI.out.x0; have hx1 := HI.out.x1; clear hbn)
      | (go_at_call 26; refine (rbottom_ok _ ns up _ HI.out.rd HG.out).mono ?_; rintro e w' ⟨rfl, hbn⟩; clear hx0 hx1; have HI2 := Lib.hid (HI.out.next hbn); clear HI; have HI := HI2; clear HI2; have hx0 := HI.out.x0; have hx1 := HI.out.x1; clear hbn)
      | (go_at_call 27; refine (top_ok _ ns up _ HI.out.rd HG.out).mono ?_; rintro e w' ⟨rfl, hbn⟩; clear hx0 hx1; have HI2 := Lib.hid (HI.out.next hbn); clear HI; have HI := HI2; clear HI2; have hx0 := HI.out.x0; have hx1 := HI.out.x1; clear hbn)
      | (go_at_call 28; refine (rtop_ok _ ns up _ HI.out.rd HG.out).mono ?_; rintro e w' ⟨rfl, hbn⟩; clear hx0 hx1; have HI2 := Lib.hid (HI.out.next hbn); clear HI; have HI := HI2; clear HI2; have hx0 := HI.out.x0; have hx1 := HI.out.x1; clear hbn))
  go_ret
  exact ⟨rfl, HI.out.bel⟩

theorem lawOrders_any (v : Value) (ns : List ByteArray) (up : List UInt8) (a b : Int) (w : World) (hv : RdL w.heap.size w v ns up) :
    Calls Try.prog 4 #[v, .int .i64 a, .int .i64 b] w fun e w' => e = .returned (.bool true) ∧ Below w.heap.size w w' := by
  cases e0 : farB ns up
  · cases e1 : ((ck ns up).2 != 0)
    · have hg : Good ns up := good_of (by simpa using e1)
      cases e2 : (cl ns up a b != 0)
      · obtain ⟨_, h1, h2, h3, h4⟩ := cl_ok (show cl ns up a b = 0 by simpa using e2)
        have hl := hg.len
        obtain ⟨a', rfl⟩ : ∃ n : Nat, a = n := ⟨a.toNat, by omega⟩
        obtain ⟨b', rfl⟩ : ∃ n : Nat, b = n := ⟨b.toNat, by omega⟩
        exact lawOrders_ok v ns up a' b' w hv e0 hg (by omega) (by omega)
      · exact lawOrders_rng v ns up a b w hv e0 hg e2
    · exact lawOrders_bad v ns up a b w hv e0 e1
  · exact lawOrders_far v ns up a b w hv e0
end Go.Proofs.Ytfjnapmhnfjopaa
