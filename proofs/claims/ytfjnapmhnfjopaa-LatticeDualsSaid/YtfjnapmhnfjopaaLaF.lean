/- The law LatticeFinds as a walk. -/
import Derived.Test.YtfjnapmhnfjopaaLtDu
import Derived.Deep.RegionHeld3
namespace Go.Proofs.Ytfjnapmhnfjopaa
open Go.RowKit

/-- What the region of the pairs keeps. -/
structure Fp (w : World) (vn vu : Value) (ns : List ByteArray) (up : List UInt8) (pv qv : Value) (l : List (Nat × Nat)) (W : World) : Prop where
  bx : Bx w vn vu ns up W
  p : RdP W.heap.size W pv l
  q : RdP W.heap.size W qv l
theorem fp_of {w W : World} {vn vu pv qv : Value} {ns : List ByteArray} {up : List UInt8} {l : List (Nat × Nat)} (h : Bx w vn vu ns up W) (hp : RdP W.heap.size W pv l) (hq : RdP W.heap.size W qv l) : Fp w vn vu ns up pv qv l W := ⟨h, hp, hq⟩
theorem fp_next {w W W' : World} {vn vu pv qv : Value} {ns : List ByteArray} {up : List UInt8} {l : List (Nat × Nat)} (h : Fp w vn vu ns up pv qv l W) (hb : Below W.heap.size W W') : Fp w vn vu ns up pv qv l W' := ⟨h.bx.next hb, h.p.next hb, h.q.next hb⟩
theorem fp_drew {w W : World} {vn vu pv qv : Value} {ns : List ByteArray} {up : List UInt8} {l : List (Nat × Nat)} (h : Fp w vn vu ns up pv qv l W) : Fp w vn vu ns up pv qv l W.drew := fp_next h (Below.refl _ _).drew
theorem fp_pairs {w W : World} {vn vu pv qv : Value} {ns : List ByteArray} {up : List UInt8} {l : List (Nat × Nat)} (h : Fp w vn vu ns up pv qv l W) (hl : l.length ≤ 1000) : Calls Try.prog 33 #[pv, qv] W fun e w' => e = .returned (.bool true) ∧ Below W.heap.size W w' := pairs_same _ _ l W h.p h.q hl
theorem smB_refl (ns : List ByteArray) (up : List UInt8) : smB ns up ns up = true := by unfold smB; rw [decide_eq_true rfl, decide_eq_true rfl]; rfl
theorem same_refl (v u : Value) (ns : List ByteArray) (up : List UInt8) (w : World) (hv : RdL w.heap.size w v ns up) (hu : RdL w.heap.size w u ns up) :
    Calls Try.prog 18 #[v, u] w fun e w' => e = .returned (.bool true) ∧ Below w.heap.size w w' := by
  have h := same_any v u ns up ns up w hv hu
  rw [smB_refl] at h
  exact h
theorem same_nil (w : World) :
    Calls Try.prog 18 #[.agg #[.slice none 0 0, .slice none 0 0], .agg #[.slice none 0 0, .slice none 0 0]] w fun e w' => e = .returned (.bool true) ∧ Below w.heap.size w w' :=
  same_refl _ _ [] [] w (rdl_nil _ _) (rdl_nil _ _)

set_option maxRecDepth 100000 in
set_option maxHeartbeats 8000000 in
theorem lawFinds_far (v : Value) (ns : List ByteArray) (up : List UInt8) (s : ByteArray) (w : World) (hv : RdL w.heap.size w v ns up) (e0 : farB ns up = true) :
    Calls Try.prog 5 #[v, .string s] w fun e w' => e = .returned (.bool true) ∧ Below w.heap.size w w' := by
  have HL := Lib.hid hv
  obtain ⟨⟨vn, vu, rfl, hS, hB⟩, hsz⟩ := hv
  obtain ⟨p, cap, rfl, hc, hc2, h⟩ := hS
  obtain ⟨q, cap', rfl, hc', hc2', h'⟩ := hB
  clear h h' hsz
  have HI := Lib.hid (Bx.new HL.out)
  go_enter Try.func5, Try.ntmps5
  go_wp2_with (first
      | (go_at_call 11; refine (far_any _ ns up _ HI.out.rd).mono ?_; rintro e w' ⟨rfl, hbn⟩; have HI2 := Lib.hid (HI.out.next hbn); clear HI; have HI := HI2; clear HI2; have hx0 := HI.out.x0; have hx1 := HI.out.x1; clear hbn)
      | (go_at_call 13; refine (awake_any _).mono ?_; rintro e w' ⟨rfl, hbn⟩; clear hx0 hx1; have HI2 := Lib.hid (HI.out.next hbn); clear HI; have HI := HI2; clear HI2; have hx0 := HI.out.x0; have hx1 := HI.out.x1; clear hbn))
  go_ret
  exact ⟨ret_bool (by first | rfl | simp), HI.out.bel⟩

set_option maxRecDepth 100000 in
set_option maxHeartbeats 8000000 in
theorem lawFinds_long (v : Value) (ns : List ByteArray) (up : List UInt8) (s : ByteArray) (w : World) (hv : RdL w.heap.size w v ns up) (e0 : farB ns up = false) (hs : (100 : Int) < (s.size : Int)) :
    Calls Try.prog 5 #[v, .string s] w fun e w' => e = .returned (.bool true) ∧ Below w.heap.size w w' := by
  have HL := Lib.hid hv
  obtain ⟨⟨vn, vu, rfl, hS, hB⟩, hsz⟩ := hv
  obtain ⟨p, cap, rfl, hc, hc2, h⟩ := hS
  obtain ⟨q, cap', rfl, hc', hc2', h'⟩ := hB
  clear h h' hsz
  have HI := Lib.hid (Bx.new HL.out)
  go_enter Try.func5, Try.ntmps5
  go_wp2_with (first
      | (go_at_call 11; refine (far_any _ ns up _ HI.out.rd).mono ?_; rintro e w' ⟨rfl, hbn⟩; have HI2 := Lib.hid (HI.out.next hbn); clear HI; have HI := HI2; clear HI2; have hx0 := HI.out.x0; have hx1 := HI.out.x1; clear hbn)
      | (go_at_call 13; refine (awake_any _).mono ?_; rintro e w' ⟨rfl, hbn⟩; clear hx0 hx1; have HI2 := Lib.hid (HI.out.next hbn); clear HI; have HI := HI2; clear HI2; have hx0 := HI.out.x0; have hx1 := HI.out.x1; clear hbn))
  go_ret
  exact ⟨ret_bool (by first | rfl | simp), HI.out.bel⟩

set_option maxRecDepth 100000 in
set_option maxHeartbeats 8000000 in
theorem lawFinds_bad (v : Value) (ns : List ByteArray) (up : List UInt8) (s : ByteArray) (w : World) (hv : RdL w.heap.size w v ns up) (e0 : farB ns up = false) (hs : ¬ (100 : Int) < (s.size : Int)) (hck : ((ck ns up).2 != 0) = true) :
    Calls Try.prog 5 #[v, .string s] w fun e w' => e = .returned (.bool true) ∧ Below w.heap.size w w' := by
  have HL := Lib.hid hv
  obtain ⟨⟨vn, vu, rfl, hS, hB⟩, hsz⟩ := hv
  obtain ⟨p, cap, rfl, hc, hc2, h⟩ := hS
  obtain ⟨q, cap', rfl, hc', hc2', h'⟩ := hB
  clear h h' hsz
  have HI := Lib.hid (Bx.new HL.out)
  go_enter Try.func5, Try.ntmps5
  go_wp2_with (first
      | (go_at_call 11; refine (far_any _ ns up _ HI.out.rd).mono ?_; rintro e w' ⟨rfl, hbn⟩; have HI2 := Lib.hid (HI.out.next hbn); clear HI; have HI := HI2; clear HI2; have hx0 := HI.out.x0; have hx1 := HI.out.x1; clear hbn)
      | (go_at_call 13; refine (awake_any _).mono ?_; rintro e w' ⟨rfl, hbn⟩; clear hx0 hx1; have HI2 := Lib.hid (HI.out.next hbn); clear HI; have HI := HI2; clear HI2; have hx0 := HI.out.x0; have hx1 := HI.out.x1; clear hbn)
      | (go_at_call 29; refine (find_bad _ ns up _ _ HI.out.rd hck).mono ?_; rintro e w' ⟨rfl, hbn⟩; clear hx0 hx1; have HI2 := Lib.hid (HI.out.next hbn); clear HI; have HI := HI2; clear HI2; have hx0 := HI.out.x0; have hx1 := HI.out.x1; clear hbn)
      | (go_at_call 30; refine (rfind_bad _ ns up _ _ HI.out.rd hck).mono ?_; rintro e w' ⟨rfl, hbn⟩; clear hx0 hx1; have HI2 := Lib.hid (HI.out.next hbn); clear HI; have HI := HI2; clear HI2; have hx0 := HI.out.x0; have hx1 := HI.out.x1; clear hbn)
      | (go_at_call 31; refine (covers_bad _ ns up _ HI.out.rd hck).mono ?_; rintro e w' ⟨rfl, hbn⟩; clear hx0 hx1; have HI2 := Lib.hid (HI.out.next hbn); clear HI; have HI := HI2; clear HI2; have hx0 := HI.out.x0; have hx1 := HI.out.x1; clear hbn)
      | (go_at_call 32; refine (rcovers_bad _ ns up _ HI.out.rd hck).mono ?_; rintro e w' ⟨rfl, hbn⟩; clear hx0 hx1; have HI2 := Lib.hid (HI.out.next hbn); clear HI; have HI := HI2; clear HI2; have hx0 := HI.out.x0; have hx1 := HI.out.x1; clear hbn)
      | (go_at_call 33; refine (pairs_same _ _ [] _ ⟨none, 0, rfl, Nat.le_refl _, fun h => absurd rfl h⟩ ⟨none, 0, rfl, Nat.le_refl _, fun h => absurd rfl h⟩ (by decide)).mono ?_; rintro e w' ⟨rfl, hbn⟩; clear hx0 hx1; have HI2 := Lib.hid (HI.out.next hbn); clear HI; have HI := HI2; clear HI2; have hx0 := HI.out.x0; have hx1 := HI.out.x1; clear hbn)
      | (go_at_call 34; refine (dual_bad _ ns up _ HI.out.rd hck).mono ?_; rintro e wc ⟨rfl, hbn⟩; clear hx0 hx1; have HI2 := Lib.hid ((HI.out.next hbn).next (bel1 wc (.cells #[Value.slice none 0 0, Value.slice none 0 0] 25))); clear HI; have HI := HI2; clear HI2; have hx0 := HI.out.x0; have hx1 := HI.out.x1; have HC := Lib.hid (Bx.new (rdl_nil wc.heap.size wc)); clear hbn)
      | (go_at_call 35; refine (rdual_bad _ ns up _ HI.out.rd hck).mono ?_; rintro e wd ⟨rfl, hbn⟩; clear hx0 hx1; have HI2 := Lib.hid ((HI.out.next hbn).next (bel1 wd (.cells #[Value.slice none 0 0, Value.slice none 0 0] 25))); clear HI; have HI := HI2; clear HI2; have hx0 := HI.out.x0; have hx1 := HI.out.x1; have HC2 := Lib.hid ((HC.out.next hbn).next (bel1 wd (.cells #[Value.slice none 0 0, Value.slice none 0 0] 25))); clear HC; have HC := HC2; clear HC2; have HD := Lib.hid (Bx.new (rdl_nil wd.heap.size wd)); have hc0 := HC.out.x0; have hc1 := HC.out.x1; have hd0 := HD.out.x0; have hd1 := HD.out.x1; clear hbn)
      | (go_at_call 18; refine (same_refl _ _ [] [] _ HC.out.rd HD.out.rd).mono ?_; rintro e w' ⟨rfl, hbn⟩; clear hx0 hx1; have HI2 := Lib.hid (HI.out.next hbn); clear HI; have HI := HI2; clear HI2; have hx0 := HI.out.x0; have hx1 := HI.out.x1; clear hbn))
  go_ret
  exact ⟨ret_bool (by first | rfl | simp), HI.out.bel⟩

set_option maxRecDepth 100000 in
set_option maxHeartbeats 8000000 in
theorem lawFinds_ok (v : Value) (ns : List ByteArray) (up : List UInt8) (s : ByteArray) (w : World) (hv : RdL w.heap.size w v ns up) (e0 : farB ns up = false) (hs : ¬ (100 : Int) < (s.size : Int)) (hg : Good ns up) :
    Calls Try.prog 5 #[v, .string s] w fun e w' => e = .returned (.bool true) ∧ Below w.heap.size w w' := by
  have HL := Lib.hid hv
  obtain ⟨⟨vn, vu, rfl, hS, hB⟩, hsz⟩ := hv
  obtain ⟨p, cap, rfl, hc, hc2, h⟩ := hS
  obtain ⟨q, cap', rfl, hc', hc2', h'⟩ := hB
  clear h h' hsz
  have HI := Lib.hid (Bx.new HL.out)
  have HG := Lib.hid hg
  have HCL : Hid ((cov up up.length).length ≤ 1000) := by
    have h1 := cov_len up up.length
    have h2 : up.length ≤ 8 := hg.n8
    have h3 := Nat.mul_le_mul h2 h2
    exact Nat.le_trans h1 (by omega)
  clear hg
  go_enter Try.func5, Try.ntmps5
  go_wp2_with (first
      | (go_at_call 11; refine (far_any _ ns up _ HI.out.rd).mono ?_; rintro e w' ⟨rfl, hbn⟩; have HI2 := Lib.hid (HI.out.next hbn); clear HI; have HI := HI2; clear HI2; have hx0 := HI.out.x0; have hx1 := HI.out.x1; clear hbn)
      | (go_at_call 13; refine (awake_any _).mono ?_; rintro e w' ⟨rfl, hbn⟩; clear hx0 hx1; have HI2 := Lib.hid (HI.out.next hbn); clear HI; have HI := HI2; clear HI2; have hx0 := HI.out.x0; have hx1 := HI.out.x1; clear hbn)
      | (go_at_call 29; refine (find_ok _ ns up _ _ HI.out.rd HG.out).mono ?_; rintro e w' ⟨rfl, hbn⟩; clear hx0 hx1; have HI2 := Lib.hid (HI.out.next hbn); clear HI; have HI := HI2; clear HI2; have hx0 := HI.out.x0; have hx1 := HI.out.x1; clear hbn)
      | (go_at_call 30; refine (rfind_ok _ ns up _ _ HI.out.rd HG.out).mono ?_; rintro e w' ⟨rfl, hbn⟩; clear hx0 hx1; have HI2 := Lib.hid (HI.out.next hbn); clear HI; have HI := HI2; clear HI2; have hx0 := HI.out.x0; have hx1 := HI.out.x1; clear hbn)
      | (go_at_call 31; refine (covers_ok _ ns up _ HI.out.rd HG.out).mono ?_; rintro e w' ⟨pv, rfl, hP, hbn⟩; clear hx0 hx1; have HI2 := Lib.hid (HI.out.next hbn); clear HI; have HI := HI2; clear HI2; have hx0 := HI.out.x0; have hx1 := HI.out.x1; have HP := Lib.hid hP; obtain ⟨pa, pc, rfl, V3⟩ := hP; clear V3; clear hbn)
      | (go_at_call 32; refine (rcovers_ok _ ns up _ HI.out.rd HG.out).mono ?_; rintro e w' ⟨qv, rfl, hQ, hbn⟩; clear hx0 hx1; have HI2 := Lib.hid (HI.out.next hbn); clear HI; have HI := HI2; clear HI2; have hx0 := HI.out.x0; have hx1 := HI.out.x1; have HP2 := Lib.hid (HP.out.next hbn); clear HP; have HP := HP2; clear HP2; have HQ := Lib.hid hQ; obtain ⟨qa, qc, rfl, V3⟩ := hQ; clear V3; clear hbn)
      | (go_at_call 33; refine (pairs_same _ _ (cov up up.length) _ HP.out HQ.out HCL.out).mono ?_; rintro e w' ⟨rfl, hbn⟩; clear hx0 hx1; have HI2 := Lib.hid (HI.out.next hbn); clear HI; have HI := HI2; clear HI2; have hx0 := HI.out.x0; have hx1 := HI.out.x1; clear hbn)
      | (go_at_call 34; refine (dual_ok _ ns up _ HI.out.rd HG.out).mono ?_; rintro e wc ⟨dv, rfl, hP, hbn⟩; have HP7 := Lib.hid hP; obtain ⟨⟨V1, V2, rfl, ⟨da, dc, rfl, V5⟩, ⟨db, dd, rfl, V8⟩⟩, V9⟩ := hP; clear V5 V8 V9; have HC := Lib.hid (Bx.new HP7.out); clear HP7; clear hx0 hx1; have HI2 := Lib.hid ((HI.out.next hbn).next (bel1 wc (.cells #[.slice da ns.length dc, .slice db (dnU up).length dd] 25))); clear HI; have HI := HI2; clear HI2; have hx0 := HI.out.x0; have hx1 := HI.out.x1; clear hbn)
      | (go_at_call 35; refine (rdual_ok _ ns up _ HI.out.rd HG.out).mono ?_; rintro e wd ⟨dv, rfl, hP, hbn⟩; have HP7 := Lib.hid hP; obtain ⟨⟨V1, V2, rfl, ⟨ea, ec, rfl, V5⟩, ⟨eb, ed, rfl, V8⟩⟩, V9⟩ := hP; clear V5 V8 V9; have HD := Lib.hid (Bx.new HP7.out); clear HP7; clear hx0 hx1; have HI2 := Lib.hid ((HI.out.next hbn).next (bel1 wd (.cells #[.slice ea ns.length ec, .slice eb (dnU up).length ed] 25))); clear HI; have HI := HI2; clear HI2; have hx0 := HI.out.x0; have hx1 := HI.out.x1; have HC2 := Lib.hid ((HC.out.next hbn).next (bel1 wd (.cells #[.slice ea ns.length ec, .slice eb (dnU up).length ed] 25))); clear HC; have HC := HC2; clear HC2; have hc0 := HC.out.x0; have hc1 := HC.out.x1; have hd0 := HD.out.x0; have hd1 := HD.out.x1; clear hbn)
      | (go_at_call 18; refine (same_refl _ _ ns (dnU up) _ HC.out.rd HD.out.rd).mono ?_; rintro e w' ⟨rfl, hbn⟩; clear hx0 hx1; have HI2 := Lib.hid (HI.out.next hbn); clear HI; have HI := HI2; clear HI2; have hx0 := HI.out.x0; have hx1 := HI.out.x1; clear hbn))
  go_ret
  exact ⟨ret_bool (by first | rfl | simp), HI.out.bel⟩

theorem lawFinds_any (v : Value) (ns : List ByteArray) (up : List UInt8) (s : ByteArray) (w : World) (hv : RdL w.heap.size w v ns up) :
    Calls Try.prog 5 #[v, .string s] w fun e w' => e = .returned (.bool true) ∧ Below w.heap.size w w' := by
  cases e0 : farB ns up
  · by_cases hs : (100 : Int) < (s.size : Int)
    · exact lawFinds_long v ns up s w hv e0 hs
    · cases e1 : ((ck ns up).2 != 0)
      · exact lawFinds_ok v ns up s w hv e0 hs (good_of (by simpa using e1))
      · exact lawFinds_bad v ns up s w hv e0 hs e1
  · exact lawFinds_far v ns up s w hv e0
end Go.Proofs.Ytfjnapmhnfjopaa
