/- The law LatticeChecks as a walk. -/
import Derived.Test.YtfjnapmhnfjopaaLtMk
import Derived.Test.YtfjnapmhnfjopaaLaF
import Derived.Test.YtfjnapmhnfjopaaLaK
namespace Go.Proofs.Ytfjnapmhnfjopaa
open Go.RowKit

theorem lnG_sz {ns : List ByteArray} (h : lnG ns = false) : ∀ s ∈ ns, s.size ≤ 281474976710656 := by
  unfold lnG at h
  rw [Bool.or_eq_false_iff] at h
  obtain ⟨h1, h2⟩ := h
  have h2 := of_decide_eq_false h2
  intro s hs
  obtain ⟨i, hi, rfl⟩ := List.getElem_of_mem hs
  have h3 := List.any_eq_false.1 h1 i (List.mem_range.2 (by omega))
  unfold bigS at h3
  rw [getD_get hi] at h3
  have h4 : ¬ 100 < ns[i].size := by simpa using h3
  omega
theorem mk_q {v u : Value} {ns rows mn : List ByteArray} {mu : List UInt8} {mi me : Int} {w : World} (h : mkV ns rows = (mi, me, mn, mu)) (hv : RdS w.heap.size w v ns) (hu : RdS w.heap.size w u rows) (hs : ∀ s ∈ ns, s.size ≤ 281474976710656) (ht : ∀ s ∈ rows, s.size ≤ 9223372036854775807) :
    Calls Try.prog 16 #[v, u] w (MkQ mn mu mi me w) := (make_any v u ns rows w hv hu hs ht).mono fun _ _ hm => mkQ_of h (Below.refl _ _) hm
theorem rmk_q {v u : Value} {ns rows mn : List ByteArray} {mu : List UInt8} {mi me : Int} {w : World} (h : mkV ns rows = (mi, me, mn, mu)) (hv : RdS w.heap.size w v ns) (hu : RdS w.heap.size w u rows) (hs : ∀ s ∈ ns, s.size ≤ 281474976710656) (ht : ∀ s ∈ rows, s.size ≤ 9223372036854775807) :
    Calls Try.prog 17 #[v, u] w (MkQ mn mu mi me w) := (rmake_any v u ns rows w hv hu hs ht).mono fun _ _ hm => mkQ_of h (Below.refl _ _) hm

set_option maxRecDepth 100000 in
set_option maxHeartbeats 8000000 in
theorem lawChecks_far (v x y : Value) (ns : List ByteArray) (up : List UInt8) (ms rows : List ByteArray) (w : World) (hv : RdL w.heap.size w v ns up) (hx : RdS w.heap.size w x ms) (hy : RdS w.heap.size w y rows) (e0 : farB ns up = true) :
    Calls Try.prog 3 #[v, x, y] w fun e w' => e = .returned (.bool true) ∧ Below w.heap.size w w' := by
  have HL := Lib.hid hv
  obtain ⟨⟨vn, vu, rfl, hS, hB⟩, hsz⟩ := hv
  obtain ⟨p, cap, rfl, hc, hc2, h⟩ := hS
  obtain ⟨q, cap', rfl, hc', hc2', h'⟩ := hB
  clear h h' hsz
  have HX := Lib.hid (hx.al (.cells #[.slice p ns.length cap, .slice q up.length cap'] 25))
  have HR := Lib.hid (hy.al (.cells #[.slice p ns.length cap, .slice q up.length cap'] 25))
  obtain ⟨xp, xc, rfl, hxc, hxc2, h⟩ := hx
  obtain ⟨yp, yc, rfl, hyc, hyc2, h'⟩ := hy
  clear h h'
  have HI := Lib.hid (Bx.new HL.out)
  go_enter Try.func3, Try.ntmps3
  go_wp2_with (first
      | (go_at_call 11; refine (far_any _ ns up _ HI.out.rd).mono ?_; rintro e w' ⟨rfl, hbn⟩; have HI2 := Lib.hid (HI.out.next hbn); clear HI; have HI := HI2; clear HI2; have hx0 := HI.out.x0; have hx1 := HI.out.x1; have HX2 := Lib.hid (HX.out.next hbn); clear HX; have HX := HX2; clear HX2; have HR2 := Lib.hid (HR.out.next hbn); clear HR; have HR := HR2; clear HR2; clear hbn)
      | (go_at_call 13; refine (awake_any _).mono ?_; rintro e w' ⟨rfl, hbn⟩; clear hx0 hx1; have HI2 := Lib.hid (HI.out.next hbn); clear HI; have HI := HI2; clear HI2; have hx0 := HI.out.x0; have hx1 := HI.out.x1; have HX2 := Lib.hid (HX.out.next hbn); clear HX; have HX := HX2; clear HX2; have HR2 := Lib.hid (HR.out.next hbn); clear HR; have HR := HR2; clear HR2; clear hbn))
  go_ret
  exact ⟨ret_bool (by first | rfl | simp), HI.out.bel⟩

set_option maxRecDepth 100000 in
set_option maxHeartbeats 8000000 in
theorem lawChecks_ln (v x y : Value) (ns : List ByteArray) (up : List UInt8) (ms rows : List ByteArray) (w : World) (hv : RdL w.heap.size w v ns up) (hx : RdS w.heap.size w x ms) (hy : RdS w.heap.size w y rows) (e0 : farB ns up = false) (e1 : lnG ms = true) :
    Calls Try.prog 3 #[v, x, y] w fun e w' => e = .returned (.bool true) ∧ Below w.heap.size w w' := by
  have HL := Lib.hid hv
  obtain ⟨⟨vn, vu, rfl, hS, hB⟩, hsz⟩ := hv
  obtain ⟨p, cap, rfl, hc, hc2, h⟩ := hS
  obtain ⟨q, cap', rfl, hc', hc2', h'⟩ := hB
  clear h h' hsz
  have HX := Lib.hid (hx.al (.cells #[.slice p ns.length cap, .slice q up.length cap'] 25))
  have HR := Lib.hid (hy.al (.cells #[.slice p ns.length cap, .slice q up.length cap'] 25))
  obtain ⟨xp, xc, rfl, hxc, hxc2, h⟩ := hx
  obtain ⟨yp, yc, rfl, hyc, hyc2, h'⟩ := hy
  clear h h'
  have HI := Lib.hid (Bx.new HL.out)
  go_enter Try.func3, Try.ntmps3
  go_wp2_with (first
      | (go_at_call 11; refine (far_any _ ns up _ HI.out.rd).mono ?_; rintro e w' ⟨rfl, hbn⟩; have HI2 := Lib.hid (HI.out.next hbn); clear HI; have HI := HI2; clear HI2; have hx0 := HI.out.x0; have hx1 := HI.out.x1; have HX2 := Lib.hid (HX.out.next hbn); clear HX; have HX := HX2; clear HX2; have HR2 := Lib.hid (HR.out.next hbn); clear HR; have HR := HR2; clear HR2; clear hbn)
      | (go_at_call 12; refine (long_any _ _ _ (by first | exact HX.out | exact HR.out)).mono ?_; rintro e w' ⟨rfl, rfl⟩)
      | (go_at_call 13; refine (awake_any _).mono ?_; rintro e w' ⟨rfl, hbn⟩; clear hx0 hx1; have HI2 := Lib.hid (HI.out.next hbn); clear HI; have HI := HI2; clear HI2; have hx0 := HI.out.x0; have hx1 := HI.out.x1; have HX2 := Lib.hid (HX.out.next hbn); clear HX; have HX := HX2; clear HX2; have HR2 := Lib.hid (HR.out.next hbn); clear HR; have HR := HR2; clear HR2; clear hbn))
  go_ret
  exact ⟨ret_bool (by first | rfl | simp), HI.out.bel⟩

set_option maxRecDepth 100000 in
set_option maxHeartbeats 8000000 in
theorem lawChecks_lr (v x y : Value) (ns : List ByteArray) (up : List UInt8) (ms rows : List ByteArray) (w : World) (hv : RdL w.heap.size w v ns up) (hx : RdS w.heap.size w x ms) (hy : RdS w.heap.size w y rows) (e0 : farB ns up = false) (e1 : lnG ms = false) (e2 : lnG rows = true) :
    Calls Try.prog 3 #[v, x, y] w fun e w' => e = .returned (.bool true) ∧ Below w.heap.size w w' := by
  have HL := Lib.hid hv
  obtain ⟨⟨vn, vu, rfl, hS, hB⟩, hsz⟩ := hv
  obtain ⟨p, cap, rfl, hc, hc2, h⟩ := hS
  obtain ⟨q, cap', rfl, hc', hc2', h'⟩ := hB
  clear h h' hsz
  have HX := Lib.hid (hx.al (.cells #[.slice p ns.length cap, .slice q up.length cap'] 25))
  have HR := Lib.hid (hy.al (.cells #[.slice p ns.length cap, .slice q up.length cap'] 25))
  obtain ⟨xp, xc, rfl, hxc, hxc2, h⟩ := hx
  obtain ⟨yp, yc, rfl, hyc, hyc2, h'⟩ := hy
  clear h h'
  have HI := Lib.hid (Bx.new HL.out)
  go_enter Try.func3, Try.ntmps3
  go_wp2_with (first
      | (go_at_call 11; refine (far_any _ ns up _ HI.out.rd).mono ?_; rintro e w' ⟨rfl, hbn⟩; have HI2 := Lib.hid (HI.out.next hbn); clear HI; have HI := HI2; clear HI2; have hx0 := HI.out.x0; have hx1 := HI.out.x1; have HX2 := Lib.hid (HX.out.next hbn); clear HX; have HX := HX2; clear HX2; have HR2 := Lib.hid (HR.out.next hbn); clear HR; have HR := HR2; clear HR2; clear hbn)
      | (go_at_call 12; refine (long_any _ _ _ (by first | exact HX.out | exact HR.out)).mono ?_; rintro e w' ⟨rfl, rfl⟩)
      | (go_at_call 13; refine (awake_any _).mono ?_; rintro e w' ⟨rfl, hbn⟩; clear hx0 hx1; have HI2 := Lib.hid (HI.out.next hbn); clear HI; have HI := HI2; clear HI2; have hx0 := HI.out.x0; have hx1 := HI.out.x1; have HX2 := Lib.hid (HX.out.next hbn); clear HX; have HX := HX2; clear HX2; have HR2 := Lib.hid (HR.out.next hbn); clear HR; have HR := HR2; clear HR2; clear hbn))
  go_ret
  exact ⟨ret_bool (by first | rfl | simp), HI.out.bel⟩

set_option maxRecDepth 100000 in
set_option maxHeartbeats 8000000 in
theorem lawChecks_ok (v x y : Value) (ns : List ByteArray) (up : List UInt8) (ms rows : List ByteArray) (w : World) (hv : RdL w.heap.size w v ns up) (hx : RdS w.heap.size w x ms) (hy : RdS w.heap.size w y rows) (e0 : farB ns up = false) (e1 : lnG ms = false) (e2 : lnG rows = false) :
    Calls Try.prog 3 #[v, x, y] w fun e w' => e = .returned (.bool true) ∧ Below w.heap.size w w' := by
  have HL := Lib.hid hv
  obtain ⟨⟨vn, vu, rfl, hS, hB⟩, hsz⟩ := hv
  obtain ⟨p, cap, rfl, hc, hc2, h⟩ := hS
  obtain ⟨q, cap', rfl, hc', hc2', h'⟩ := hB
  clear h h' hsz
  have HX := Lib.hid (hx.al (.cells #[.slice p ns.length cap, .slice q up.length cap'] 25))
  have HR := Lib.hid (hy.al (.cells #[.slice p ns.length cap, .slice q up.length cap'] 25))
  obtain ⟨xp, xc, rfl, hxc, hxc2, h⟩ := hx
  obtain ⟨yp, yc, rfl, hyc, hyc2, h'⟩ := hy
  clear h h'
  have HI := Lib.hid (Bx.new HL.out)
  have HMs := Lib.hid (lnG_sz e1)
  have HRs : Hid (∀ s ∈ rows, s.size ≤ 9223372036854775807) := fun s hs => by have := lnG_sz e2 s hs; omega
  obtain ⟨mi, me, mn, mu, hK⟩ : ∃ i e n u, mkV ms rows = (i, e, n, u) := ⟨_, _, _, _, rfl⟩
  have HK := Lib.hid hK
  clear hK
  go_enter Try.func3, Try.ntmps3
  go_wp2_with (first
      | (go_at_call 11; refine (far_any _ ns up _ HI.out.rd).mono ?_; rintro e w' ⟨rfl, hbn⟩; have HI2 := Lib.hid (HI.out.next hbn); clear HI; have HI := HI2; clear HI2; have hx0 := HI.out.x0; have hx1 := HI.out.x1; have HX2 := Lib.hid (HX.out.next hbn); clear HX; have HX := HX2; clear HX2; have HR2 := Lib.hid (HR.out.next hbn); clear HR; have HR := HR2; clear HR2; clear hbn)
      | (go_at_call 12; refine (long_any _ _ _ (by first | exact HX.out | exact HR.out)).mono ?_; rintro e w' ⟨rfl, rfl⟩)
      | (go_at_call 14; refine (check_any _ ns up _ HI.out.rd).mono ?_; rintro e w' ⟨rfl, hbn⟩; clear hx0 hx1; have HI2 := Lib.hid (HI.out.next hbn); clear HI; have HI := HI2; clear HI2; have hx0 := HI.out.x0; have hx1 := HI.out.x1; have HX2 := Lib.hid (HX.out.next hbn); clear HX; have HX := HX2; clear HX2; have HR2 := Lib.hid (HR.out.next hbn); clear HR; have HR := HR2; clear HR2; clear hbn)
      | (go_at_call 15; refine (rcheck_any _ ns up _ HI.out.rd).mono ?_; rintro e w' ⟨rfl, hbn⟩; clear hx0 hx1; have HI2 := Lib.hid (HI.out.next hbn); clear HI; have HI := HI2; clear HI2; have hx0 := HI.out.x0; have hx1 := HI.out.x1; have HX2 := Lib.hid (HX.out.next hbn); clear HX; have HX := HX2; clear HX2; have HR2 := Lib.hid (HR.out.next hbn); clear HR; have HR := HR2; clear HR2; clear hbn)
      | (go_at_call 16; refine (mk_q HK.out HX.out HR.out HMs.out HRs.out).mono ?_; rintro e wc ⟨da, dn, dc, db, dm, dd, rfl, hP, hbn⟩; have HP7 := Lib.hid hP; have HC := Lib.hid (Bx.new HP7.out); clear HP7; have hbn0 := hbn; have hbn := hbn0.trans ((bel1 wc (.cells #[.slice da dn dc, .slice db dm dd] 25)).mono hbn0.size); clear hbn0; clear hx0 hx1; have HI2 := Lib.hid (HI.out.next hbn); clear HI; have HI := HI2; clear HI2; have hx0 := HI.out.x0; have hx1 := HI.out.x1; have HX2 := Lib.hid (HX.out.next hbn); clear HX; have HX := HX2; clear HX2; have HR2 := Lib.hid (HR.out.next hbn); clear HR; have HR := HR2; clear HR2; clear hbn)
      | (go_at_call 17; refine (rmk_q HK.out HX.out HR.out HMs.out HRs.out).mono ?_; rintro e wd ⟨ea, en, ec, eb, em, ed, rfl, hP, hbn⟩; have HP7 := Lib.hid hP; have HD := Lib.hid (Bx.new HP7.out); clear HP7; have hbn0 := hbn; have hbn := hbn0.trans ((bel1 wd (.cells #[.slice ea en ec, .slice eb em ed] 25)).mono hbn0.size); clear hbn0; clear hx0 hx1; have HI2 := Lib.hid (HI.out.next hbn); clear HI; have HI := HI2; clear HI2; have hx0 := HI.out.x0; have hx1 := HI.out.x1; have HX2 := Lib.hid (HX.out.next hbn); clear HX; have HX := HX2; clear HX2; have HR2 := Lib.hid (HR.out.next hbn); clear HR; have HR := HR2; clear HR2; have HC2 := Lib.hid (HC.out.next hbn); clear HC; have HC := HC2; clear HC2; have hc0 := HC.out.x0; have hc1 := HC.out.x1; have hd0 := HD.out.x0; have hd1 := HD.out.x1; clear hbn)
      | (go_at_call 18; refine (same_refl _ _ _ _ _ HC.out.rd HD.out.rd).mono ?_; rintro e w' ⟨rfl, hbn⟩; clear hx0 hx1; have HI2 := Lib.hid (HI.out.next hbn); clear HI; have HI := HI2; clear HI2; have hx0 := HI.out.x0; have hx1 := HI.out.x1; have HX2 := Lib.hid (HX.out.next hbn); clear HX; have HX := HX2; clear HX2; have HR2 := Lib.hid (HR.out.next hbn); clear HR; have HR := HR2; clear HR2; clear hbn)
      | (go_at_call 13; refine (awake_any _).mono ?_; rintro e w' ⟨rfl, hbn⟩; clear hx0 hx1; have HI2 := Lib.hid (HI.out.next hbn); clear HI; have HI := HI2; clear HI2; have hx0 := HI.out.x0; have hx1 := HI.out.x1; have HX2 := Lib.hid (HX.out.next hbn); clear HX; have HX := HX2; clear HX2; have HR2 := Lib.hid (HR.out.next hbn); clear HR; have HR := HR2; clear HR2; clear hbn))
  go_ret
  exact ⟨ret_bool (by first | rfl | simp), HI.out.bel⟩

theorem lawChecks_any (v x y : Value) (ns : List ByteArray) (up : List UInt8) (ms rows : List ByteArray) (w : World) (hv : RdL w.heap.size w v ns up) (hx : RdS w.heap.size w x ms ∧ ∀ s ∈ ms, s.size ≤ 9223372036854775807) (hy : RdS w.heap.size w y rows ∧ ∀ s ∈ rows, s.size ≤ 9223372036854775807) :
    Calls Try.prog 3 #[v, x, y] w fun e w' => e = .returned (.bool true) ∧ Below w.heap.size w w' := by
  cases e0 : farB ns up
  · cases e1 : lnG ms
    · cases e2 : lnG rows
      · exact lawChecks_ok v x y ns up ms rows w hv hx.1 hy.1 e0 e1 e2
      · exact lawChecks_lr v x y ns up ms rows w hv hx.1 hy.1 e0 e1 e2
    · exact lawChecks_ln v x y ns up ms rows w hv hx.1 hy.1 e0 e1
  · exact lawChecks_far v x y ns up ms rows w hv hx.1 hy.1 e0
end Go.Proofs.Ytfjnapmhnfjopaa
