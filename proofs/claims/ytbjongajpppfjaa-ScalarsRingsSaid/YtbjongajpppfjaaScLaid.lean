/- The witness's world, and the row's empty lists. -/
import Derived.Test.YtbjongajpppfjaaScJ
import Derived.OpenShut
import Derived.ProofKit
import Derived.ChangeAt
import Derived.Carry
import Derived.Deep.DeepHandedRow
import Derived.Deep.DeepWitnessRowRef
namespace Go.Proofs.Ytbjongajpppfjaa
open Go.ChangeShapes Go.WideShapes Go.ChangeAt Go.RowKit
theorem own : ownKnob Try.prog.godebug = Option.none := by kernel_rfl
theorem inr_of {n : Int} (h : (Lit.int IntKind.i64 n).wf = true) : inr n = true := by
  simp only [Lit.wf, Bool.and_eq_true, decide_eq_true_eq] at h
  exact inr_iff.2 ⟨h.1, h.2⟩
theorem laid_nil (W : World) : laidMetH Try.prog [] W := ⟨[], rfl, List.nodup_nil, fun _ _ h => by cases h⟩
/-- A world for the witness. -/
noncomputable def laidWorld (os : Os) : World := World.holding Try.prog os ⟨#[], #[], []⟩
theorem laid_vars (os : Os) (args : Array Value) : ((laidWorld os).forCall (fun _ _ => 0) ⟨#[], args, []⟩).variablesRefB Try.prog = true := by kernel_rfl
theorem laid_heap (os : Os) (args : Array Value) : ((((laidWorld os).forCall (fun _ _ => 0) ⟨#[], args, []⟩).heap.toList.drop Try.prog.globals.size).take ((begin Try.prog (fun _ _ => 0) default).world.heap.size - Try.prog.globals.size)) =
      (begin Try.prog (fun _ _ => 0) default).world.heap.toList.drop Try.prog.globals.size := by kernel_rfl
end Go.Proofs.Ytbjongajpppfjaa
