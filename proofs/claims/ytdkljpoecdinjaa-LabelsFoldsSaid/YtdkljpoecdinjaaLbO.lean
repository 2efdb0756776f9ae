/- The reference: Sort, Down, Up. -/
import Derived.Test.YtdkljpoecdinjaaLbN
namespace Go.Proofs.Ytdkljpoecdinjaa
open Go.RowKit

theorem lck_one (ns : List ByteArray) (up : List UInt8) (a : Int) : (lck ns up [a]).2 = cl1 ns up a := by
  cases e0 : ((ck ns up).2 != 0) with
  | true => rw [lck_A e0, cl1_A e0]
  | false =>
    rw [lck_C e0 (by simp)]
    cases e1 : isL ns.length a with
    | true =>
      rw [cl1_B e0 e1, lbV_no]
      unfold lbF
      refine List.find?_eq_none.2 fun i hi => ?_
      rw [List.mem_range] at hi
      rw [noL_get hi]
      have : ([a] : List Int)[i] = a := by simp
      rw [this, e1]; decide
    | false =>
      rw [cl1_C e0 e1, lbV_at (i := 0)]
      unfold lbF
      exact find_at (k := 0) rfl (by rw [noL_get (by simp)]; show (!isL ns.length a) = true; rw [e1]; rfl) (by simp)
theorem rd_one (W : World) (a : Int) : RdI (W.alloc (.cells #[.int .i64 a] 3)).heap.size (W.alloc (.cells #[.int .i64 a] 3)) (.slice (some ⟨W.heap.size, 0, none⟩) 1 1) [a] := rd_new vi W [a] 3 (0, 0) (by simp)
theorem rcheck_one (W : World) (n : Nat) (hn : W.heap.size = n) (v : Value) (ns : List ByteArray) (up : List UInt8) (a : Int) (hv : RdL W.heap.size W v ns up) : Calls Try.prog 35 #[v, .slice (some ⟨n, 0, none⟩) 1 1] (W.alloc (.cells #[.int .i64 a] 3)) fun e w' => (∃ i, e = .returned (.tuple #[.int .i64 i, .int .i64 (cl1 ns up a)])) ∧ Below W.heap.size W w' := by
  subst hn
  have h := rcheck4_any v _ ns up [a] _ (hv.al _) (rd_one W a)
  exact h.mono fun e w' ⟨he, hb⟩ => ⟨⟨(lck ns up [a]).1, by rw [he, lck_one]⟩, bel2 hb⟩

theorem rcheck4_ok (v u : Value) (ns : List ByteArray) (up : List UInt8) (ls : List Nat) (w : World) (hv : RdL w.heap.size w v ns up) (hz : RdN w.heap.size w u ls) (hg : GL ns up ls) :
    Calls Try.prog 35 #[v, u] w fun e w' => e = .returned (.tuple #[.int .i64 0, .int .i64 0]) ∧ Below w.heap.size w w' := by
  have h := rcheck4_any v u ns up _ w hv (rd_int hz)
  rw [hg.lck] at h
  exact h

set_option maxRecDepth 100000 in
set_option maxHeartbeats 1000000 in
theorem rsort_bad (v u : Value) (ns : List ByteArray) (up : List UInt8) (zs : List Int) (w : World) (hv : RdL w.heap.size w v ns up) (hz : RdI w.heap.size w u zs) (hk : ((lck ns up zs).2 != 0) = true) :
    Calls Try.prog 16 #[v, u] w fun e w' => e = .returned (.tuple #[.slice none 0 0, .int .i64 (lck ns up zs).2]) ∧ Below w.heap.size w w' := by
  have HL := Lib.hid hv
  obtain ⟨⟨vn, vu, rfl, hS, hB⟩, hsz⟩ := hv
  obtain ⟨q1, cap, rfl, hc, hc2, h⟩ := hS
  obtain ⟨q, cap', rfl, hc', hc2', h'⟩ := hB
  clear h h' hsz
  have HZ := Lib.hid hz
  obtain ⟨a, c, rfl, hl, hl2, h⟩ := hz
  clear h
  have HI := Lib.hid (Bx.new HL.out)
  go_enter Try.func16, Try.ntmps16
  go_wp2_with (go_at_call 35; refine (rcheck4_any _ _ ns up zs _ HI.out.rd (HZ.out.next HI.out.bel)).mono ?_; rintro e w' ⟨rfl, hbn⟩; have HI2 := Lib.hid (HI.out.next hbn); clear HI hbn; have HI := HI2; clear HI2)
  go_ret2
  exact ⟨rfl, HI.out.bel⟩

set_option maxRecDepth 100000 in
set_option maxHeartbeats 1000000 in
theorem rchain_bad (v u : Value) (ns : List ByteArray) (up : List UInt8) (zs : List Int) (w : World) (hv : RdL w.heap.size w v ns up) (hz : RdI w.heap.size w u zs) (hk : ((lck ns up zs).2 != 0) = true) :
    Calls Try.prog 18 #[v, u] w fun e w' => e = .returned (.tuple #[.bool false, .int .i64 (lck ns up zs).2]) ∧ Below w.heap.size w w' := by
  have HL := Lib.hid hv
  obtain ⟨⟨vn, vu, rfl, hS, hB⟩, hsz⟩ := hv
  obtain ⟨q1, cap, rfl, hc, hc2, h⟩ := hS
  obtain ⟨q, cap', rfl, hc', hc2', h'⟩ := hB
  clear h h' hsz
  have HZ := Lib.hid hz
  obtain ⟨a, c, rfl, hl, hl2, h⟩ := hz
  clear h
  have HI := Lib.hid (Bx.new HL.out)
  go_enter Try.func18, Try.ntmps18
  go_wp2_with (go_at_call 35; refine (rcheck4_any _ _ ns up zs _ HI.out.rd (HZ.out.next HI.out.bel)).mono ?_; rintro e w' ⟨rfl, hbn⟩; have HI2 := Lib.hid (HI.out.next hbn); clear HI hbn; have HI := HI2; clear HI2)
  go_ret2
  exact ⟨rfl, HI.out.bel⟩

set_option maxRecDepth 100000 in
set_option maxHeartbeats 1000000 in
theorem rleast_bad (v u : Value) (ns : List ByteArray) (up : List UInt8) (zs : List Int) (w : World) (hv : RdL w.heap.size w v ns up) (hz : RdI w.heap.size w u zs) (hk : ((lck ns up zs).2 != 0) = true) :
    Calls Try.prog 20 #[v, u] w fun e w' => e = .returned (.tuple #[.slice none 0 0, .int .i64 (lck ns up zs).2]) ∧ Below w.heap.size w w' := by
  have HL := Lib.hid hv
  obtain ⟨⟨vn, vu, rfl, hS, hB⟩, hsz⟩ := hv
  obtain ⟨q1, cap, rfl, hc, hc2, h⟩ := hS
  obtain ⟨q, cap', rfl, hc', hc2', h'⟩ := hB
  clear h h' hsz
  have HZ := Lib.hid hz
  obtain ⟨a, c, rfl, hl, hl2, h⟩ := hz
  clear h
  have HI := Lib.hid (Bx.new HL.out)
  go_enter Try.func20, Try.ntmps20
  go_wp2_with (go_at_call 35; refine (rcheck4_any _ _ ns up zs _ HI.out.rd (HZ.out.next HI.out.bel)).mono ?_; rintro e w' ⟨rfl, hbn⟩; have HI2 := Lib.hid (HI.out.next hbn); clear HI hbn; have HI := HI2; clear HI2)
  go_ret2
  exact ⟨rfl, HI.out.bel⟩

set_option maxRecDepth 100000 in
set_option maxHeartbeats 2000000 in
theorem rsort_ok (v u : Value) (ns : List ByteArray) (up : List UInt8) (ls : List Nat) (w : World) (hv : RdL w.heap.size w v ns up) (hz : RdN w.heap.size w u ls) (hg : GL ns up ls) :
    Calls Try.prog 16 #[v, u] w (SoT up (fun b => decide (b ∈ ls)) w) := by
  have HL := Lib.hid hv
  obtain ⟨⟨vn, vu, rfl, hS, hB⟩, hsz⟩ := hv
  obtain ⟨q1, cap, rfl, hc, hc2, h⟩ := hS
  obtain ⟨q, cap', rfl, hc', hc2', h'⟩ := hB
  clear h h' hsz
  have HZ := Lib.hid hz
  obtain ⟨a, c, rfl, hl, hl2, h⟩ := hz
  clear h
  have HI := Lib.hid (Bx.new HL.out)
  have HG := Lib.hid hg
  clear hg
  go_enter Try.func16, Try.ntmps16
  go_wp2_with (first
    | (go_at_call 35; refine (rcheck4_ok _ _ ns up ls _ HI.out.rd (HZ.out.next HI.out.bel) HG.out).mono ?_; rintro e w1 ⟨rfl, hbn⟩; have HI2 := Lib.hid (HI.out.next hbn); clear HI hbn; have HI := HI2; clear HI2; have hx0 := HI.out.x0; have hx1 := HI.out.x1)
    | (go_at_call 36; refine (rsorted_any _ _ ns up ls _ HI.out.rd (HZ.out.next HI.out.bel) HG.out.good).mono ?_; rintro e wn ⟨ra, rc, rfl, hrd, hbn⟩; clear hx0 hx1; have HE := Lib.hid (And.intro hrd (HI.out.next hbn)); clear hrd hbn))
  go_ret2
  exact ⟨ra, rc, rfl, HE.out.1, HE.out.2.bel⟩

/-! Down and Up. -/
def dnL (p : Nat → Bool) (k : Nat) : List Nat := (List.range k).filter p
theorem dnL_yes {p : Nat → Bool} {k : Nat} (h : p k = true) : dnL p (k + 1) = dnL p k ++ [k] := by
  unfold dnL; rw [List.range_succ, List.filter_append]; simp [h]
theorem dnL_no {p : Nat → Bool} {k : Nat} (h : p k = false) : dnL p (k + 1) = dnL p k := by
  unfold dnL; rw [List.range_succ, List.filter_append]; simp [h]
theorem dnL_len (p : Nat → Bool) (k : Nat) : (dnL p k).length ≤ k := by
  have := List.length_filter_le p (List.range k)
  rwa [List.length_range] at this
theorem dnL_srt (up : List UInt8) (p : Nat → Bool) : srt up (fun b => decide (b ∈ dnL p up.length)) = srt up p :=
  srt_congr up fun a ha => by
    unfold dnL
    rw [Bool.eq_iff_iff, decide_eq_true_iff, List.mem_filter, List.mem_range]
    exact ⟨fun h => h.2, fun h => ⟨ha, h⟩⟩
theorem soP_congr {up : List UInt8} {p q : Nat → Bool} {w : World} (h : srt up p = srt up q) {e : Ending} {w' : World} (hs : SoP up p w e w') : SoP up q w e w' := by
  unfold SoP at *; rw [← h]; exact hs

set_option maxRecDepth 100000 in
set_option maxHeartbeats 1000000 in
theorem rdown_bad (v : Value) (ns : List ByteArray) (up : List UInt8) (a : Int) (w : World) (hv : RdL w.heap.size w v ns up) (hk : (cl1 ns up a != 0) = true) :
    Calls Try.prog 11 #[v, .int .i64 a] w fun e w' => e = .returned (.tuple #[.slice none 0 0, .int .i64 (cl1 ns up a)]) ∧ Below w.heap.size w w' := by
  have HL := Lib.hid hv
  obtain ⟨⟨vn, vu, rfl, hS, hB⟩, hsz⟩ := hv
  obtain ⟨q1, cap, rfl, hc, hc2, h⟩ := hS
  obtain ⟨q, cap', rfl, hc', hc2', h'⟩ := hB
  clear h h' hsz
  have HI := Lib.hid (Bx.new HL.out)
  go_enter Try.func11, Try.ntmps11
  go_wp2_with (go_at_call 35; refine (rcheck_one _ _ (by simp) _ ns up _ HI.out.rd).mono ?_; rintro e w' ⟨⟨i, rfl⟩, hbn⟩; have HI2 := Lib.hid (HI.out.next hbn); clear HI hbn; have HI := HI2; clear HI2)
  go_ret2
  exact ⟨rfl, HI.out.bel⟩

set_option maxRecDepth 100000 in
set_option maxHeartbeats 4000000 in
theorem rdown_ok (v : Value) (ns : List ByteArray) (up : List UInt8) (a : Nat) (w : World) (hv : RdL w.heap.size w v ns up) (hg : Good ns up) (ha : a < up.length) :
    Calls Try.prog 11 #[v, .int .i64 a] w (SoT up (fun b => le up b a) w) := by
  have HL := Lib.hid hv
  obtain ⟨⟨vn, vu, rfl, hS, hB⟩, hsz⟩ := hv
  obtain ⟨q1, cap, rfl, hc, hc2, h⟩ := hS
  obtain ⟨q, cap', rfl, hc', hc2', h'⟩ := hB
  clear h h' hsz
  have HI := Lib.hid (Bx.new HL.out)
  have hu8 : up.length ≤ 8 := by have := hg.most; have := hg.len; omega
  have hle1 : ns.length ≤ up.length := by have := hg.len; omega
  have hle2 : up.length ≤ ns.length := by have := hg.len; omega
  have HG := Lib.hid hg
  have HK := Lib.hid (cl1_0 hg ha)
  clear hg
  obtain ⟨i0, hi, hz0, hz1, hz2⟩ := info_parts info3
  go_enter Try.func11, Try.ntmps11
  go_wp2_with (go_at_call 35; refine (rcheck_one _ _ (by simp) _ ns up _ HI.out.rd).mono ?_; rw [HK.out]; rintro e w' ⟨⟨i, rfl⟩, hbn⟩; have HI2 := Lib.hid (HI.out.next hbn); clear HI hbn; have HI := HI2; clear HI2)
  go_loopg [8, 9] ns.length (fun g o i wr => ∃ k : Nat, k + g = ns.length ∧ i = .int .i64 k ∧ Bx w (.slice q1 ns.length cap) (.slice q up.length cap') ns up wr ∧ Own (w.heap.size + 1) wr o (dnL (fun b => le up b a) k))
  case atStart => exact ⟨0, by omega, rfl, HI.out, World.ownsRow_nil _ _ _ _⟩
  case round =>
    clear HI
    obtain ⟨k, hkg, rfl, hix, hrow⟩ := hrel
    have HI := Lib.hid hix
    have hx0 := hix.x0
    have hx1 := hix.x1
    have HP := Lib.hid hrow
    clear hix
    cases gk with
    | zero =>
      have hkz : ¬ ((k : Int) < (ns.length : Int)) := by omega
      have HKe : Hid (k = up.length) := by unfold Hid; omega
      have hr := Own.rd hrow
      have HR := Lib.hid hr
      obtain ⟨oa, oc, rfl, V0, V1, V2⟩ := hr
      clear hrow V0 V1 V2 HP
      have HSo : Hid (Calls Try.prog 36 #[.agg #[.slice q1 ns.length cap, .slice q up.length cap'], .slice oa (dnL (fun b => le up b a) k).length oc] wr (SoP up (fun b => le up b a) wr)) :=
        (rsorted_any _ _ ns up _ _ HI.out.rd HR.out HG.out).mono fun e w' h => soP_congr (by rw [HKe.out]; exact dnL_srt up _) h
      go_wp2_with (go_at_call 36; refine HSo.out.mono ?_; rintro e wn ⟨ra, rc, rfl, hrd, hbn⟩; clear hx0 hx1; have HE := Lib.hid (And.intro hrd (HI.out.next hbn)); clear hrd hbn)
      go_ret2
      exact ⟨ra, rc, rfl, HE.out.1, HE.out.2.bel⟩
    | succ g =>
      have hlt : (k : Int) < (ns.length : Int) := by omega
      cases c1 : le up k a with
      | false =>
        have HS : Hid (dnL (fun b => le up b a) (k + 1) = dnL (fun b => le up b a) k) := dnL_no c1
        clear hrow
        go_wp2_with (go_at_call 28; refine (rbel_any _ ns up _ _ _ HI.out.rd (by omega) (by omega)).mono ?_; rintro e w9 ⟨rfl, hbn⟩; clear hx0 hx1; have HE := Lib.hid (And.intro (HI.out.next hbn) (HP.out.bel hbn)); clear hbn)
        go_roundg g
        case measure => omega
        case rel => exact ⟨k + 1, by omega, by go_num, HE.out.1, by rw [HS.out]; exact HE.out.2⟩
      | true =>
        have HS : Hid (dnL (fun b => le up b a) (k + 1) = dnL (fun b => le up b a) k ++ [k]) := dnL_yes c1
        have hln : (dnL (fun b => le up b a) k).length ≤ 8 := Nat.le_trans (dnL_len _ _) (by omega)
        clear HP
        generalize dnL (fun b => le up b a) k = L at hrow hln HS
        have HRw := Lib.hid hrow
        clear hrow
        go_wp2_with (first
          | (go_at_call 28; refine (rbel_any _ ns up _ _ _ HI.out.rd (by omega) (by omega)).mono ?_; rintro e w9 ⟨rfl, hbn⟩; clear hx0 hx1; have HE := Lib.hid (HI.out.next hbn); have hrow := HRw.out.bel hbn; have hw9 := HE.out.lt; clear hbn)
          | (at_builtin; refine wpList_append_own _ rfl _ _ 26 rfl (w.heap.size + 1) 3 i0 (.int .i64 0) 1 8 Try.underlying26 hi hz0 hz1 hz2 rfl (by decide) _ _ _ rfl (World.ownsRow.alloc hrow _) ⟨w9.heap.size, 0, none⟩ 1 1 [.int .i64 k] rfl rfl (cells_new w9 #[.int .i64 k] _ _) (by simp [Value.oneCell']) (by unfold maxLen; omega) (by omega) (by simp; omega) ?_; intro v4 w4 hown4 hgrow4 _))
        go_roundg g
        case measure => omega
        case rel => exact ⟨k + 1, by omega, by go_num, bx_up HE.out (((Below.refl (w.heap.size + 1) w9).alloc (by omega) _).grown hgrow4 (by simp; omega) (fun j e => (World.ownsRow.lt hrow j e).1)) HL.out, by rw [HS.out]; exact own_snoc hown4⟩

set_option maxRecDepth 100000 in
set_option maxHeartbeats 1000000 in
theorem rup_bad (v : Value) (ns : List ByteArray) (up : List UInt8) (a : Int) (w : World) (hv : RdL w.heap.size w v ns up) (hk : (cl1 ns up a != 0) = true) :
    Calls Try.prog 14 #[v, .int .i64 a] w fun e w' => e = .returned (.tuple #[.slice none 0 0, .int .i64 (cl1 ns up a)]) ∧ Below w.heap.size w w' := by
  have HL := Lib.hid hv
  obtain ⟨⟨vn, vu, rfl, hS, hB⟩, hsz⟩ := hv
  obtain ⟨q1, cap, rfl, hc, hc2, h⟩ := hS
  obtain ⟨q, cap', rfl, hc', hc2', h'⟩ := hB
  clear h h' hsz
  have HI := Lib.hid (Bx.new HL.out)
  go_enter Try.func14, Try.ntmps14
  go_wp2_with (go_at_call 35; refine (rcheck_one _ _ (by simp) _ ns up _ HI.out.rd).mono ?_; rintro e w' ⟨⟨i, rfl⟩, hbn⟩; have HI2 := Lib.hid (HI.out.next hbn); clear HI hbn; have HI := HI2; clear HI2)
  go_ret2
  exact ⟨rfl, HI.out.bel⟩

set_option maxRecDepth 100000 in
set_option maxHeartbeats 4000000 in
theorem rup_ok (v : Value) (ns : List ByteArray) (up : List UInt8) (a : Nat) (w : World) (hv : RdL w.heap.size w v ns up) (hg : Good ns up) (ha : a < up.length) :
    Calls Try.prog 14 #[v, .int .i64 a] w (SoT up (fun b => le up a b) w) := by
  have HL := Lib.hid hv
  obtain ⟨⟨vn, vu, rfl, hS, hB⟩, hsz⟩ := hv
  obtain ⟨q1, cap, rfl, hc, hc2, h⟩ := hS
  obtain ⟨q, cap', rfl, hc', hc2', h'⟩ := hB
  clear h h' hsz
  have HI := Lib.hid (Bx.new HL.out)
  have hu8 : up.length ≤ 8 := by have := hg.most; have := hg.len; omega
  have hle1 : ns.length ≤ up.length := by have := hg.len; omega
  have hle2 : up.length ≤ ns.length := by have := hg.len; omega
  have HG := Lib.hid hg
  have HK := Lib.hid (cl1_0 hg ha)
  clear hg
  obtain ⟨i0, hi, hz0, hz1, hz2⟩ := info_parts info3
  go_enter Try.func14, Try.ntmps14
  go_wp2_with (go_at_call 35; refine (rcheck_one _ _ (by simp) _ ns up _ HI.out.rd).mono ?_; rw [HK.out]; rintro e w' ⟨⟨i, rfl⟩, hbn⟩; have HI2 := Lib.hid (HI.out.next hbn); clear HI hbn; have HI := HI2; clear HI2)
  go_loopg [8, 9] ns.length (fun g o i wr => ∃ k : Nat, k + g = ns.length ∧ i = .int .i64 k ∧ Bx w (.slice q1 ns.length cap) (.slice q up.length cap') ns up wr ∧ Own (w.heap.size + 1) wr o (dnL (fun b => le up a b) k))
  case atStart => exact ⟨0, by omega, rfl, HI.out, World.ownsRow_nil _ _ _ _⟩
  case round =>
    clear HI
    obtain ⟨k, hkg, rfl, hix, hrow⟩ := hrel
    have HI := Lib.hid hix
    have hx0 := hix.x0
    have hx1 := hix.x1
    have HP := Lib.hid hrow
    clear hix
    cases gk with
    | zero =>
      have hkz : ¬ ((k : Int) < (ns.length : Int)) := by omega
      have HKe : Hid (k = up.length) := by unfold Hid; omega
      have hr := Own.rd hrow
      have HR := Lib.hid hr
      obtain ⟨oa, oc, rfl, V0, V1, V2⟩ := hr
      clear hrow V0 V1 V2 HP
      have HSo : Hid (Calls Try.prog 36 #[.agg #[.slice q1 ns.length cap, .slice q up.length cap'], .slice oa (dnL (fun b => le up a b) k).length oc] wr (SoP up (fun b => le up a b) wr)) :=
        (rsorted_any _ _ ns up _ _ HI.out.rd HR.out HG.out).mono fun e w' h => soP_congr (by rw [HKe.out]; exact dnL_srt up _) h
      go_wp2_with (go_at_call 36; refine HSo.out.mono ?_; rintro e wn ⟨ra, rc, rfl, hrd, hbn⟩; clear hx0 hx1; have HE := Lib.hid (And.intro hrd (HI.out.next hbn)); clear hrd hbn)
      go_ret2
      exact ⟨ra, rc, rfl, HE.out.1, HE.out.2.bel⟩
    | succ g =>
      have hlt : (k : Int) < (ns.length : Int) := by omega
      cases c1 : le up a k with
      | false =>
        have HS : Hid (dnL (fun b => le up a b) (k + 1) = dnL (fun b => le up a b) k) := dnL_no c1
        clear hrow
        go_wp2_with (go_at_call 28; refine (rbel_any _ ns up _ _ _ HI.out.rd (by omega) (by omega)).mono ?_; rintro e w9 ⟨rfl, hbn⟩; clear hx0 hx1; have HE := Lib.hid (And.intro (HI.out.next hbn) (HP.out.bel hbn)); clear hbn)
        go_roundg g
        case measure => omega
        case rel => exact ⟨k + 1, by omega, by go_num, HE.out.1, by rw [HS.out]; exact HE.out.2⟩
      | true =>
        have HS : Hid (dnL (fun b => le up a b) (k + 1) = dnL (fun b => le up a b) k ++ [k]) := dnL_yes c1
        have hln : (dnL (fun b => le up a b) k).length ≤ 8 := Nat.le_trans (dnL_len _ _) (by omega)
        clear HP
        generalize dnL (fun b => le up a b) k = L at hrow hln HS
        have HRw := Lib.hid hrow
        clear hrow
        go_wp2_with (first
          | (go_at_call 28; refine (rbel_any _ ns up _ _ _ HI.out.rd (by omega) (by omega)).mono ?_; rintro e w9 ⟨rfl, hbn⟩; clear hx0 hx1; have HE := Lib.hid (HI.out.next hbn); have hrow := HRw.out.bel hbn; have hw9 := HE.out.lt; clear hbn)
          | (at_builtin; refine wpList_append_own _ rfl _ _ 26 rfl (w.heap.size + 1) 3 i0 (.int .i64 0) 1 8 Try.underlying26 hi hz0 hz1 hz2 rfl (by decide) _ _ _ rfl (World.ownsRow.alloc hrow _) ⟨w9.heap.size, 0, none⟩ 1 1 [.int .i64 k] rfl rfl (cells_new w9 #[.int .i64 k] _ _) (by simp [Value.oneCell']) (by unfold maxLen; omega) (by omega) (by simp; omega) ?_; intro v4 w4 hown4 hgrow4 _))
        go_roundg g
        case measure => omega
        case rel => exact ⟨k + 1, by omega, by go_num, bx_up HE.out (((Below.refl (w.heap.size + 1) w9).alloc (by omega) _).grown hgrow4 (by simp; omega) (fun j e => (World.ownsRow.lt hrow j e).1)) HL.out, by rw [HS.out]; exact own_snoc hown4⟩
end Go.Proofs.Ytdkljpoecdinjaa
