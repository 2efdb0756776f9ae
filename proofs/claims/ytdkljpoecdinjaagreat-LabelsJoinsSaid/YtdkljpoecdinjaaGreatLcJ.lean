/- The law LabelsJoins as a walk. -/
import Derived.Test.YtdkljpoecdinjaaGreatLbY
namespace Go.Proofs.YtdkljpoecdinjaaGreat
open Go.RowKit

set_option maxRecDepth 100000 in
set_option maxHeartbeats 4000000 in
theorem lawJoins_far (v u : Value) (ns : List ByteArray) (up : List UInt8) (zs : List Int) (b : Int) (w : World) (hv : RdL w.heap.size w v ns up) (hz : RdI w.heap.size w u zs) (e0 : farB ns up = true) :
    Calls Tryz.prog 3 #[v, u, .int .i64 b] w fun e w' => e = .returned (.bool true) ∧ Below w.heap.size w w' := by
  have HL := Lib.hid hv
  obtain ⟨⟨vn, vu, rfl, hS, hB⟩, hsz⟩ := hv
  obtain ⟨q1, cap, rfl, hc, hc2, h⟩ := hS
  obtain ⟨q, cap', rfl, hc', hc2', h'⟩ := hB
  clear h h' hsz
  have HZ := Lib.hid hz
  obtain ⟨a, c, rfl, hl, hl2, h⟩ := hz
  clear h
  have HI := Lib.hid (Bx.new HL.out)
  go_enter Tryz.func3, Tryz.ntmps3
  go_wp2_with (first
    | (go_at_call 4; refine (far_any _ ns up _ HI.out.rd).mono ?_; rintro e w' ⟨rfl, hbn⟩; have HI2 := Lib.hid (HI.out.next hbn); clear HI; have HI := HI2; clear HI2; have hx0 := HI.out.x0; have hx1 := HI.out.x1; clear hbn)
    | (go_at_call 5; refine (awake4_any _).mono ?_; rintro e w' ⟨rfl, hbn⟩; clear hx0 hx1; have HI2 := Lib.hid (HI.out.next hbn); clear HI; have HI := HI2; clear HI2; have hx0 := HI.out.x0; have hx1 := HI.out.x1; clear hbn))
  go_ret
  exact ⟨ret_bool (by first | rfl | simp), HI.out.bel⟩

set_option maxRecDepth 100000 in
set_option maxHeartbeats 4000000 in
theorem lawJoins_long (v u : Value) (ns : List ByteArray) (up : List UInt8) (zs : List Int) (b : Int) (w : World) (hv : RdL w.heap.size w v ns up) (hz : RdI w.heap.size w u zs) (e0 : farB ns up = false) (h8 : (80 : Int) < (zs.length : Int)) :
    Calls Tryz.prog 3 #[v, u, .int .i64 b] w fun e w' => e = .returned (.bool true) ∧ Below w.heap.size w w' := by
  have HL := Lib.hid hv
  obtain ⟨⟨vn, vu, rfl, hS, hB⟩, hsz⟩ := hv
  obtain ⟨q1, cap, rfl, hc, hc2, h⟩ := hS
  obtain ⟨q, cap', rfl, hc', hc2', h'⟩ := hB
  clear h h' hsz
  have HZ := Lib.hid hz
  obtain ⟨a, c, rfl, hl, hl2, h⟩ := hz
  clear h
  have HI := Lib.hid (Bx.new HL.out)
  go_enter Tryz.func3, Tryz.ntmps3
  go_wp2_with (first
    | (go_at_call 4; refine (far_any _ ns up _ HI.out.rd).mono ?_; rintro e w' ⟨rfl, hbn⟩; have HI2 := Lib.hid (HI.out.next hbn); clear HI; have HI := HI2; clear HI2; have hx0 := HI.out.x0; have hx1 := HI.out.x1; clear hbn)
    | (go_at_call 5; refine (awake4_any _).mono ?_; rintro e w' ⟨rfl, hbn⟩; clear hx0 hx1; have HI2 := Lib.hid (HI.out.next hbn); clear HI; have HI := HI2; clear HI2; have hx0 := HI.out.x0; have hx1 := HI.out.x1; clear hbn))
  go_ret
  exact ⟨ret_bool (by first | rfl | simp), HI.out.bel⟩

set_option maxRecDepth 100000 in
set_option maxHeartbeats 8000000 in
theorem lawJoins_ok (v u : Value) (ns : List ByteArray) (up : List UInt8) (zs : List Int) (b : Int) (w : World) (hv : RdL w.heap.size w v ns up) (hz : RdI w.heap.size w u zs) (e0 : farB ns up = false) (h8 : ¬ (80 : Int) < (zs.length : Int)) :
    Calls Tryz.prog 3 #[v, u, .int .i64 b] w fun e w' => e = .returned (.bool true) ∧ Below w.heap.size w w' := by
  have HL := Lib.hid hv
  obtain ⟨⟨vn, vu, rfl, hS, hB⟩, hsz⟩ := hv
  obtain ⟨q1, cap, rfl, hc, hc2, h⟩ := hS
  obtain ⟨q, cap', rfl, hc', hc2', h'⟩ := hB
  clear h h' hsz
  have HZ := Lib.hid hz
  obtain ⟨a, c, rfl, hl, hl2, h⟩ := hz
  clear h
  have HI := Lib.hid (Bx.new HL.out)
  have HC1 : Hid (∀ W, Below w.heap.size w W → RdL W.heap.size W (.agg #[.slice q1 ns.length cap, .slice q up.length cap']) ns up → Calls Tryz.prog 6 #[.agg #[.slice q1 ns.length cap, .slice q up.length cap'], .slice a zs.length c] W (fun e w' => e = .returned (.tuple #[.int .i64 (lck ns up zs).1, .int .i64 (lck ns up zs).2]) ∧ Below W.heap.size W w')) := fun W hb hW => lcheck_any _ _ ns up zs W hW (HZ.out.next hb)
  have HC2 : Hid (∀ W, Below w.heap.size w W → RdL W.heap.size W (.agg #[.slice q1 ns.length cap, .slice q up.length cap']) ns up → Calls Tryz.prog 7 #[.agg #[.slice q1 ns.length cap, .slice q up.length cap'], .slice a zs.length c] W (fun e w' => e = .returned (.tuple #[.int .i64 (lck ns up zs).1, .int .i64 (lck ns up zs).2]) ∧ Below W.heap.size W w')) := fun W hb hW => rcheck4_any _ _ ns up zs W hW (HZ.out.next hb)
  have HJ1 : Hid (∀ W, Below w.heap.size w W → RdL W.heap.size W (.agg #[.slice q1 ns.length cap, .slice q up.length cap']) ns up → Calls Tryz.prog 8 #[.agg #[.slice q1 ns.length cap, .slice q up.length cap'], .slice a zs.length c] W (fun e w' => e = .returned (.tuple #[.int .i64 (jnV ns up zs), .int .i64 (lck ns up zs).2]) ∧ Below W.heap.size W w')) := fun W hb hW => ljoin_any _ _ ns up zs W hW (HZ.out.next hb)
  have HJ2 : Hid (∀ W, Below w.heap.size w W → RdL W.heap.size W (.agg #[.slice q1 ns.length cap, .slice q up.length cap']) ns up → Calls Tryz.prog 9 #[.agg #[.slice q1 ns.length cap, .slice q up.length cap'], .slice a zs.length c] W (fun e w' => e = .returned (.tuple #[.int .i64 (jnV ns up zs), .int .i64 (lck ns up zs).2]) ∧ Below W.heap.size W w')) := fun W hb hW => rjoin4_any _ _ ns up zs W hW (HZ.out.next hb)
  have HM1 : Hid (∀ W, Below w.heap.size w W → RdL W.heap.size W (.agg #[.slice q1 ns.length cap, .slice q up.length cap']) ns up → Calls Tryz.prog 10 #[.agg #[.slice q1 ns.length cap, .slice q up.length cap'], .slice a zs.length c] W (fun e w' => e = .returned (.tuple #[.int .i64 (mtV ns up zs), .int .i64 (lck ns up zs).2]) ∧ Below W.heap.size W w')) := fun W hb hW => lmeet_any _ _ ns up zs W hW (HZ.out.next hb)
  have HM2 : Hid (∀ W, Below w.heap.size w W → RdL W.heap.size W (.agg #[.slice q1 ns.length cap, .slice q up.length cap']) ns up → Calls Tryz.prog 11 #[.agg #[.slice q1 ns.length cap, .slice q up.length cap'], .slice a zs.length c] W (fun e w' => e = .returned (.tuple #[.int .i64 (mtV ns up zs), .int .i64 (lck ns up zs).2]) ∧ Below W.heap.size W w')) := fun W hb hW => rmeet4_any _ _ ns up zs W hW (HZ.out.next hb)
  have HF1 : Hid (∀ W, Below w.heap.size w W → RdL W.heap.size W (.agg #[.slice q1 ns.length cap, .slice q up.length cap']) ns up → Calls Tryz.prog 12 #[.agg #[.slice q1 ns.length cap, .slice q up.length cap'], .slice a zs.length c, .int .i64 b] W (fun e w' => e = .returned (.tuple #[.int .i64 (fwV ns up zs b).1, .int .i64 (fwV ns up zs b).2]) ∧ Below W.heap.size W w')) := fun W hb hW => lflows_any _ _ ns up zs b W hW (HZ.out.next hb)
  have HF2 : Hid (∀ W, Below w.heap.size w W → RdL W.heap.size W (.agg #[.slice q1 ns.length cap, .slice q up.length cap']) ns up → Calls Tryz.prog 13 #[.agg #[.slice q1 ns.length cap, .slice q up.length cap'], .slice a zs.length c, .int .i64 b] W (fun e w' => e = .returned (.tuple #[.int .i64 (fwV ns up zs b).1, .int .i64 (fwV ns up zs b).2]) ∧ Below W.heap.size W w')) := fun W hb hW => rflows4_any _ _ ns up zs b W hW (HZ.out.next hb)
  generalize (lck ns up zs).1 = c1 at HC1 HC2
  generalize (lck ns up zs).2 = c2 at HC1 HC2 HJ1 HJ2 HM1 HM2
  generalize jnV ns up zs = j1 at HJ1 HJ2
  generalize mtV ns up zs = m1 at HM1 HM2
  generalize (fwV ns up zs b).1 = f1 at HF1 HF2
  generalize (fwV ns up zs b).2 = f2 at HF1 HF2
  go_enter Tryz.func3, Tryz.ntmps3
  go_wp2_with (first
    | (go_at_call 4; refine (far_any _ ns up _ HI.out.rd).mono ?_; rintro e w' ⟨rfl, hbn⟩; have HI2 := Lib.hid (HI.out.next hbn); clear HI; have HI := HI2; clear HI2; have hx0 := HI.out.x0; have hx1 := HI.out.x1; clear hbn)
    | (go_at_call 6; refine (HC1.out _ HI.out.bel HI.out.rd).mono ?_; rintro e w' ⟨rfl, hbn⟩; clear hx0 hx1; have HI2 := Lib.hid (HI.out.next hbn); clear HI; have HI := HI2; clear HI2; have hx0 := HI.out.x0; have hx1 := HI.out.x1; clear hbn)
    | (go_at_call 7; refine (HC2.out _ HI.out.bel HI.out.rd).mono ?_; rintro e w' ⟨rfl, hbn⟩; clear hx0 hx1; have HI2 := Lib.hid (HI.out.next hbn); clear HI; have HI := HI2; clear HI2; have hx0 := HI.out.x0; have hx1 := HI.out.x1; clear hbn)
    | (go_at_call 8; refine (HJ1.out _ HI.out.bel HI.out.rd).mono ?_; rintro e w' ⟨rfl, hbn⟩; clear hx0 hx1; have HI2 := Lib.hid (HI.out.next hbn); clear HI; have HI := HI2; clear HI2; have hx0 := HI.out.x0; have hx1 := HI.out.x1; clear hbn)
    | (go_at_call 9; refine (HJ2.out _ HI.out.bel HI.out.rd).mono ?_; rintro e w' ⟨rfl, hbn⟩; clear hx0 hx1; have HI2 := Lib.hid (HI.out.next hbn); clear HI; have HI := HI2; clear HI2; have hx0 := HI.out.x0; have hx1 := HI.out.x1; clear hbn)
    | (go_at_call 10; refine (HM1.out _ HI.out.bel HI.out.rd).mono ?_; rintro e w' ⟨rfl, hbn⟩; clear hx0 hx1; have HI2 := Lib.hid (HI.out.next hbn); clear HI; have HI := HI2; clear HI2; have hx0 := HI.out.x0; have hx1 := HI.out.x1; clear hbn)
    | (go_at_call 11; refine (HM2.out _ HI.out.bel HI.out.rd).mono ?_; rintro e w' ⟨rfl, hbn⟩; clear hx0 hx1; have HI2 := Lib.hid (HI.out.next hbn); clear HI; have HI := HI2; clear HI2; have hx0 := HI.out.x0; have hx1 := HI.out.x1; clear hbn)
    | (go_at_call 12; refine (HF1.out _ HI.out.bel HI.out.rd).mono ?_; rintro e w' ⟨rfl, hbn⟩; clear hx0 hx1; have HI2 := Lib.hid (HI.out.next hbn); clear HI; have HI := HI2; clear HI2; have hx0 := HI.out.x0; have hx1 := HI.out.x1; clear hbn)
    | (go_at_call 13; refine (HF2.out _ HI.out.bel HI.out.rd).mono ?_; rintro e w' ⟨rfl, hbn⟩; clear hx0 hx1; have HI2 := Lib.hid (HI.out.next hbn); clear HI; have HI := HI2; clear HI2; have hx0 := HI.out.x0; have hx1 := HI.out.x1; clear hbn)
    | (go_at_call 5; refine (awake4_any _).mono ?_; rintro e w' ⟨rfl, hbn⟩; clear hx0 hx1; have HI2 := Lib.hid (HI.out.next hbn); clear HI; have HI := HI2; clear HI2; have hx0 := HI.out.x0; have hx1 := HI.out.x1; clear hbn))
  go_ret
  exact ⟨ret_bool (by first | rfl | simp), HI.out.bel⟩

theorem lawJoins_any (v u : Value) (ns : List ByteArray) (up : List UInt8) (zs : List Int) (b : Int) (w : World) (hv : RdL w.heap.size w v ns up) (hz : RdI w.heap.size w u zs) :
    Calls Tryz.prog 3 #[v, u, .int .i64 b] w fun e w' => e = .returned (.bool true) ∧ Below w.heap.size w w' := by
  cases e0 : farB ns up
  · by_cases h8 : (80 : Int) < (zs.length : Int)
    · exact lawJoins_long v u ns up zs b w hv hz e0 h8
    · exact lawJoins_ok v u ns up zs b w hv hz e0 h8
  · exact lawJoins_far v u ns up zs b w hv hz e0
end Go.Proofs.YtdkljpoecdinjaaGreat
