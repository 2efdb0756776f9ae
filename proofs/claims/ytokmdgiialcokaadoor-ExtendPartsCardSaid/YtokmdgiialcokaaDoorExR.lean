/- The law's is, at one array twice. -/
import Derived.Test.YtokmdgiialcokaaDoorExF
import Derived.Test.YtokmdgiialcokaaDoorMvP
namespace Go.Proofs.YtokmdgiialcokaaDoor
open Go.RowKit

set_option maxRecDepth 100000 in
set_option maxHeartbeats 4000000 in
theorem is10_eq (A : Ar) (v u : Value) (w : World) (hv : RdI w.heap.size w v A.z) (hu : RdI w.heap.size w u A.z) (hl : A.z.length ≤ 1000000) :
    Calls Tryd.prog 24 #[A5 A.k A.r A.a A.b v, .int .i64 0, A5 A.k A.r A.a A.b u] w fun e w' => e = .returned (.bool true) ∧ Below w.heap.size w w' := by
  have HS := Lib.hid (fun v u W h1 h2 => same_eq A.k A.r A.a A.b A.z v u W h1 h2 hl)
  have HK := Lib.hid (KD.new hv hu)
  have x0 := HK.out.b0.c0; have x1 := HK.out.b0.c1; have x2 := HK.out.b0.c2; have x3 := HK.out.b0.c3; have x4 := HK.out.b0.c4
  have y0 := HK.out.b1.c0; have y1 := HK.out.b1.c1; have y2 := HK.out.b1.c2; have y3 := HK.out.b1.c3; have y4 := HK.out.b1.c4
  obtain ⟨p, cap, rfl, _, _, _⟩ := hv
  obtain ⟨q, cap', rfl, _, _, _⟩ := hu
  go_enter Tryd.func24, Tryd.ntmps24
  go_wp2_with (go_at_call 20; (with_reducible refine (HS.out _ _ _ HK.out.rd0 HK.out.rd1).mono ?_); rintro e w1 ⟨rfl, hb⟩; have HB := Lib.hid (HK.out.next hb).bel; clear hb)
  go_ret
  exact ⟨rfl, HB.out⟩
end Go.Proofs.YtokmdgiialcokaaDoor
