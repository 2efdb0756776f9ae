/- What recover hands back is told apart by its type. -/
import Derived.Test.YtpbfbejckhbijaaGreatDoorExA
import Derived.Recover
namespace Go.Proofs.YtpbfbejckhbijaaGreatDoor
open Go.RowKit

set_option maxRecDepth 100000 in
theorem ta_er (E : Int) (w : World) : (Instr.typeAssert (.iface 23 (.int .i64 E)) 20 23 true).run Tryz.prog w = .ok (.tuple #[.int .i64 E, .bool true]) w := by kernel_rfl
set_option maxRecDepth 100000 in
theorem ta_nil (w : World) : (Instr.typeAssert .nilIface 20 23 true).run Tryz.prog w = .ok (.tuple #[.int .i64 0, .bool false]) w := by kernel_rfl
/-- The deferred function of a frame that panics. -/
theorem catch_bad (p : Addr) (x E : Int) (older : List PanicEntry) (w : World) (hc : w.cell? p = some (.int .i64 x)) (hz : w.frozen? p = false) :
    CallsD Tryz.prog 128 #[.pointer (some p)] (.panicking ({ v := .iface 23 (.int .i64 E), recovered := false } :: older)) w fun e u' w' =>
      e = .returned (.tuple #[]) ∧ u' = .panicking ({ v := .iface 23 (.int .i64 E), recovered := true } :: older) ∧ w' = w.setCell p (.int .i64 E) := by
  have H1 := fun w => ta_er E w
  refine callsD_of_wpS Tryz.func128 rfl fun c₀ cs hu => ?_
  apply wpS_seq
  apply wpS_region
  simp [wpOpsS, go_sem, recoverD, hu, Tryz.ntmps128, Exit.thenS, H1]
  apply wpS_seq
  apply wpS_region
  simp [wpOpsS, go_sem, Exit.thenS]
  refine wpS_cond (t := true) (by simp [Act.eval]) ?_
  simp only [if_true]
  apply wpS_region
  simp [wpOpsS, go_sem, hc, hz, bodyPostS, results, Tryz.results128]
theorem catch_ok (p : Addr) (w : World) :
    CallsD Tryz.prog 128 #[.pointer (some p)] .returning w fun e u' w' => e = .returned (.tuple #[]) ∧ u' = .returning ∧ w' = w := by
  have H1 := ta_nil
  refine callsD_of_wpS Tryz.func128 rfl fun c₀ cs hu => ?_
  apply wpS_seq
  apply wpS_region
  simp [wpOpsS, go_sem, recoverD, hu, Tryz.ntmps128, Exit.thenS, H1]
  apply wpS_seq
  apply wpS_region
  simp [wpOpsS, go_sem, Exit.thenS]
  refine wpS_cond (t := false) (by simp [Act.eval]) ?_
  simp only [Bool.false_eq_true, if_false]
  refine wpS_of_wp (wp_skip ?_)
  cases c₀
  simp_all [bodyPostS, results, Tryz.results128]
end Go.Proofs.YtpbfbejckhbijaaGreatDoor
