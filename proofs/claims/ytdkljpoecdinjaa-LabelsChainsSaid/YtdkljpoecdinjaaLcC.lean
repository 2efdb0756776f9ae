/- The law LabelsChains as a walk. -/
import Derived.Test.YtdkljpoecdinjaaLbR
namespace Go.Proofs.Ytdkljpoecdinjaa
open Go.RowKit

set_option maxRecDepth 100000 in
set_option maxHeartbeats 4000000 in
theorem lawChains_far (v u : Value) (ns : List ByteArray) (up : List UInt8) (zs : List Int) (w : World) (hv : RdL w.heap.size w v ns up) (hz : RdI w.heap.size w u zs) (e0 : farB ns up = true) :
    Calls Try.prog 4 #[v, u] w fun e w' => e = .returned (.bool true) ∧ Below w.heap.size w w' := by
  have HL := Lib.hid hv
  obtain ⟨⟨vn, vu, rfl, hS, hB⟩, hsz⟩ := hv
  obtain ⟨q1, cap, rfl, hc, hc2, h⟩ := hS
  obtain ⟨q, cap', rfl, hc', hc2', h'⟩ := hB
  clear h h' hsz
  have HZ := Lib.hid hz
  obtain ⟨a, c, rfl, hl, hl2, h⟩ := hz
  clear h
  have HI := Lib.hid (Bx.new HL.out)
  go_enter Try.func4, Try.ntmps4
  go_wp2_with (first
    | (go_at_call 8; refine (far_any _ ns up _ HI.out.rd).mono ?_; rintro e w' ⟨rfl, hbn⟩; have HI2 := Lib.hid (HI.out.next hbn); clear HI; have HI := HI2; clear HI2; have hx0 := HI.out.x0; have hx1 := HI.out.x1; clear hbn)
    | (go_at_call 9; refine (awake4_any _).mono ?_; rintro e w' ⟨rfl, hbn⟩; clear hx0 hx1; have HI2 := Lib.hid (HI.out.next hbn); clear HI; have HI := HI2; clear HI2; have hx0 := HI.out.x0; have hx1 := HI.out.x1; clear hbn))
  go_ret
  exact ⟨ret_bool (by first | rfl | simp), HI.out.bel⟩

set_option maxRecDepth 100000 in
set_option maxHeartbeats 4000000 in
theorem lawChains_long (v u : Value) (ns : List ByteArray) (up : List UInt8) (zs : List Int) (w : World) (hv : RdL w.heap.size w v ns up) (hz : RdI w.heap.size w u zs) (e0 : farB ns up = false) (h8 : (80 : Int) < (zs.length : Int)) :
    Calls Try.prog 4 #[v, u] w fun e w' => e = .returned (.bool true) ∧ Below w.heap.size w w' := by
  have HL := Lib.hid hv
  obtain ⟨⟨vn, vu, rfl, hS, hB⟩, hsz⟩ := hv
  obtain ⟨q1, cap, rfl, hc, hc2, h⟩ := hS
  obtain ⟨q, cap', rfl, hc', hc2', h'⟩ := hB
  clear h h' hsz
  have HZ := Lib.hid hz
  obtain ⟨a, c, rfl, hl, hl2, h⟩ := hz
  clear h
  have HI := Lib.hid (Bx.new HL.out)
  go_enter Try.func4, Try.ntmps4
  go_wp2_with (first
    | (go_at_call 8; refine (far_any _ ns up _ HI.out.rd).mono ?_; rintro e w' ⟨rfl, hbn⟩; have HI2 := Lib.hid (HI.out.next hbn); clear HI; have HI := HI2; clear HI2; have hx0 := HI.out.x0; have hx1 := HI.out.x1; clear hbn)
    | (go_at_call 9; refine (awake4_any _).mono ?_; rintro e w' ⟨rfl, hbn⟩; clear hx0 hx1; have HI2 := Lib.hid (HI.out.next hbn); clear HI; have HI := HI2; clear HI2; have hx0 := HI.out.x0; have hx1 := HI.out.x1; clear hbn))
  go_ret
  exact ⟨ret_bool (by first | rfl | simp), HI.out.bel⟩

set_option maxRecDepth 100000 in
set_option maxHeartbeats 8000000 in
theorem lawChains_ok (v u : Value) (ns : List ByteArray) (up : List UInt8) (zs : List Int) (w : World) (hv : RdL w.heap.size w v ns up) (hz : RdI w.heap.size w u zs) (e0 : farB ns up = false) (h8 : ¬ (80 : Int) < (zs.length : Int)) :
    Calls Try.prog 4 #[v, u] w fun e w' => e = .returned (.bool true) ∧ Below w.heap.size w w' := by
  have HL := Lib.hid hv
  obtain ⟨⟨vn, vu, rfl, hS, hB⟩, hsz⟩ := hv
  obtain ⟨q1, cap, rfl, hc, hc2, h⟩ := hS
  obtain ⟨q, cap', rfl, hc', hc2', h'⟩ := hB
  clear h h' hsz
  have HZ := Lib.hid hz
  obtain ⟨a, c, rfl, hl, hl2, h⟩ := hz
  clear h
  have HI := Lib.hid (Bx.new HL.out)
  have HC1 : Hid (∀ W, Below w.heap.size w W → RdL W.heap.size W (.agg #[.slice q1 ns.length cap, .slice q up.length cap']) ns up → Calls Try.prog 17 #[.agg #[.slice q1 ns.length cap, .slice q up.length cap'], .slice a zs.length c] W (fun e w' => e = .returned (.tuple #[.bool (chV ns up zs), .int .i64 (lck ns up zs).2]) ∧ Below W.heap.size W w')) := fun W hb hW => lchain_any _ _ ns up zs W hW (HZ.out.next hb)
  have HC2 : Hid (∀ W, Below w.heap.size w W → RdL W.heap.size W (.agg #[.slice q1 ns.length cap, .slice q up.length cap']) ns up → Calls Try.prog 18 #[.agg #[.slice q1 ns.length cap, .slice q up.length cap'], .slice a zs.length c] W (fun e w' => e = .returned (.tuple #[.bool (chV ns up zs), .int .i64 (lck ns up zs).2]) ∧ Below W.heap.size W w')) := fun W hb hW => rchain_any _ _ ns up zs W hW (HZ.out.next hb)
  have HS1 : Hid (∀ W, Below w.heap.size w W → RdL W.heap.size W (.agg #[.slice q1 ns.length cap, .slice q up.length cap']) ns up → Calls Try.prog 19 #[.agg #[.slice q1 ns.length cap, .slice q up.length cap'], .slice a zs.length c] W (SoL (lsV ns up zs) (lck ns up zs).2 W)) := fun W hb hW => lleast_any _ _ ns up zs W hW (HZ.out.next hb)
  have HS2 : Hid (∀ W, Below w.heap.size w W → RdL W.heap.size W (.agg #[.slice q1 ns.length cap, .slice q up.length cap']) ns up → Calls Try.prog 20 #[.agg #[.slice q1 ns.length cap, .slice q up.length cap'], .slice a zs.length c] W (SoL (lsV ns up zs) (lck ns up zs).2 W)) := fun W hb hW => rleast_any _ _ ns up zs W hW (HZ.out.next hb)
  generalize chV ns up zs = C at HC1 HC2
  generalize lsV ns up zs = S at HS1 HS2
  generalize (lck ns up zs).2 = y at HC1 HC2 HS1 HS2
  go_enter Try.func4, Try.ntmps4
  go_wp2_with (first
    | (go_at_call 8; refine (far_any _ ns up _ HI.out.rd).mono ?_; rintro e w' ⟨rfl, hbn⟩; have HI2 := Lib.hid (HI.out.next hbn); clear HI; have HI := HI2; clear HI2; have hx0 := HI.out.x0; have hx1 := HI.out.x1; clear hbn)
    | (go_at_call 17; refine (HC1.out _ HI.out.bel HI.out.rd).mono ?_; rintro e w' ⟨rfl, hbn⟩; clear hx0 hx1; have HI2 := Lib.hid (HI.out.next hbn); clear HI; have HI := HI2; clear HI2; have hx0 := HI.out.x0; have hx1 := HI.out.x1; clear hbn)
    | (go_at_call 18; refine (HC2.out _ HI.out.bel HI.out.rd).mono ?_; rintro e w' ⟨rfl, hbn⟩; clear hx0 hx1; have HI2 := Lib.hid (HI.out.next hbn); clear HI; have HI := HI2; clear HI2; have hx0 := HI.out.x0; have hx1 := HI.out.x1; clear hbn)
    | (go_at_call 19; refine (HS1.out _ HI.out.bel HI.out.rd).mono ?_; rintro e w' ⟨psa, psc, rfl, hr, hbn⟩; clear hx0 hx1; have HI2 := Lib.hid (HI.out.next hbn); clear HI; have HI := HI2; clear HI2; have hx0 := HI.out.x0; have hx1 := HI.out.x1; have HX := Lib.hid hr; clear hr hbn)
    | (go_at_call 20; refine (HS2.out _ HI.out.bel HI.out.rd).mono ?_; rintro e w' ⟨qsa, qsc, rfl, hr, hbn⟩; clear hx0 hx1; have HI2 := Lib.hid (HI.out.next hbn); clear HI; have HI := HI2; clear HI2; have hx0 := HI.out.x0; have hx1 := HI.out.x1; have HQ := Lib.hid hr; have HY := Lib.hid (HX.out.next hbn); clear HX; have HX := HY; clear HY; clear hr hbn)
    | (go_at_call 12; refine (same4_refl _ _ _ _ HX.out HQ.out).mono ?_; rintro e w' ⟨rfl, hbn⟩; clear hx0 hx1; have HI2 := Lib.hid (HI.out.next hbn); clear HI; have HI := HI2; clear HI2; have hx0 := HI.out.x0; have hx1 := HI.out.x1; clear HX HQ hbn)
    | (go_at_call 9; refine (awake4_any _).mono ?_; rintro e w' ⟨rfl, hbn⟩; clear hx0 hx1; have HI2 := Lib.hid (HI.out.next hbn); clear HI; have HI := HI2; clear HI2; have hx0 := HI.out.x0; have hx1 := HI.out.x1; clear hbn))
  go_ret
  exact ⟨ret_bool (by first | rfl | simp), HI.out.bel⟩

theorem lawChains_any (v u : Value) (ns : List ByteArray) (up : List UInt8) (zs : List Int) (w : World) (hv : RdL w.heap.size w v ns up) (hz : RdI w.heap.size w u zs) :
    Calls Try.prog 4 #[v, u] w fun e w' => e = .returned (.bool true) ∧ Below w.heap.size w w' := by
  cases e0 : farB ns up
  · by_cases h8 : (80 : Int) < (zs.length : Int)
    · exact lawChains_long v u ns up zs w hv hz e0 h8
    · exact lawChains_ok v u ns up zs w hv hz e0 h8
  · exact lawChains_far v u ns up zs w hv hz e0
end Go.Proofs.Ytdkljpoecdinjaa
