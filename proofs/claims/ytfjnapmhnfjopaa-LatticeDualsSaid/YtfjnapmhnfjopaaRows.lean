/-
  No cell of these rows narrows 'for every input' (looked for: loops, veiled, ifaces, maps, wideKeys, modest, calm, conditions, laid).
  DERIVED. THE GIVEN ROWS OF THIS SEAT. 8 by the template 'for every input the law returns true; each argument reads behind the call as it read before'; 0 by the template 'total and deterministic' (their statements: YtfjnapmhnfjopaaTotals.lean).
  GIVEN WITH THE SEED: the statements are not yours to turn. If you find one false, say at which input.
  Laid BY PROGRAM, IN A SANDBOX (cutbox-rows.mjs): the forced cells as the released guide's own fill.sh prints them over the translation 76ceff51f9fa6b0c… (all of the seat's roots in one cut). By AI agents, Wed Nov 11 2026. No macro, syntax, notation, axiom, sorry.
-/
import Derived.Test.YtfjnapmhnfjopaaChecked
import GoSem.Claim
import GoSem.ClaimJoined
import GoSem.ClaimMapViews
import Derived.JoinedTies
import Derived.KernelRfl
namespace Go.Proofs.Ytfjnapmhnfjopaa
/- THE CELL 'sum', in the pinned program and in every row, IS THE sha256 OF THE DUMP (.gsa) THAT YtfjnapmhnfjopaaProg.lean LOADS. Nothing in Lean hashes anything: it is a label: what it is worth is what the hold of that sum in a sandbox is worth. -/
noncomputable def Try.pinned : Pinned := { name := "ytfjnapmhnfjopaa", sum := "76ceff51f9fa6b0c613cd6d149d379656efa776a1f258a549dd1b89735efb7aa", checked := Try.checked }
namespace Rows
def none {H : Type} : Left H := { results := [], args := [] }

/-- 'invigilatorlaw03.LatticeChecks': WHATEVER THE INPUT: true; the input reads as it did. -/
def latticeChecksSpec : ChangeSpec := { name := "latticeChecks", fn := fun _ => fun
  | [d1, d2, d3] => { results := [.lit (.bool true)], args := [d1, d2, d3] }
  | _ => none }
def latticeChecksRow : OpenClaim := { program := "ytfjnapmhnfjopaa", sum := "76ceff51f9fa6b0c613cd6d149d379656efa776a1f258a549dd1b89735efb7aa", func := "invigilator/invigilatorlaw03.LatticeChecks", spec := "latticeChecks", inPlace := ["internal/abi.NoEscape"], unfollowed := true, recurses := true, apart := false }
def LatticeChecksSaid : Prop := latticeChecksRow.holds Try.pinned (OpenSpec.ofChange latticeChecksSpec)

/-- ITS FALSE NEIGHBOUR: 'it returns false'. Refute it at one input. -/
def latticeChecksWrong : ChangeSpec := { name := "latticeChecks", fn := fun _ => fun
  | [d1, d2, d3] => { results := [.lit (.bool false)], args := [d1, d2, d3] }
  | _ => none }
def LatticeChecksWrongFalsely : Prop := latticeChecksRow.holds Try.pinned (OpenSpec.ofChange latticeChecksWrong)

/-- 'invigilatorlaw03.LatticeOrders': WHATEVER THE INPUT: true; the input reads as it did. -/
def latticeOrdersSpec : ChangeSpec := { name := "latticeOrders", fn := fun _ => fun
  | [d1, d2, d3] => { results := [.lit (.bool true)], args := [d1, d2, d3] }
  | _ => none }
def latticeOrdersRow : OpenClaim := { program := "ytfjnapmhnfjopaa", sum := "76ceff51f9fa6b0c613cd6d149d379656efa776a1f258a549dd1b89735efb7aa", func := "invigilator/invigilatorlaw03.LatticeOrders", spec := "latticeOrders", inPlace := ["internal/abi.NoEscape"], unfollowed := true, recurses := true, apart := false }
def LatticeOrdersSaid : Prop := latticeOrdersRow.holds Try.pinned (OpenSpec.ofChange latticeOrdersSpec)

/-- ITS FALSE NEIGHBOUR: 'it returns false'. Refute it at one input. -/
def latticeOrdersWrong : ChangeSpec := { name := "latticeOrders", fn := fun _ => fun
  | [d1, d2, d3] => { results := [.lit (.bool false)], args := [d1, d2, d3] }
  | _ => none }
def LatticeOrdersWrongFalsely : Prop := latticeOrdersRow.holds Try.pinned (OpenSpec.ofChange latticeOrdersWrong)

/-- 'invigilatorlaw03.LatticeFinds': WHATEVER THE INPUT: true; the input reads as it did. -/
def latticeFindsSpec : ChangeSpec := { name := "latticeFinds", fn := fun _ => fun
  | [d1, d2] => { results := [.lit (.bool true)], args := [d1, d2] }
  | _ => none }
def latticeFindsRow : OpenClaim := { program := "ytfjnapmhnfjopaa", sum := "76ceff51f9fa6b0c613cd6d149d379656efa776a1f258a549dd1b89735efb7aa", func := "invigilator/invigilatorlaw03.LatticeFinds", spec := "latticeFinds", inPlace := ["internal/abi.NoEscape"], unfollowed := true, recurses := true, apart := false }
def LatticeFindsSaid : Prop := latticeFindsRow.holds Try.pinned (OpenSpec.ofChange latticeFindsSpec)

/-- ITS FALSE NEIGHBOUR: 'it returns false'. Refute it at one input. -/
def latticeFindsWrong : ChangeSpec := { name := "latticeFinds", fn := fun _ => fun
  | [d1, d2] => { results := [.lit (.bool false)], args := [d1, d2] }
  | _ => none }
def LatticeFindsWrongFalsely : Prop := latticeFindsRow.holds Try.pinned (OpenSpec.ofChange latticeFindsWrong)

/-- 'invigilatorlaw03.LatticeTexts': WHATEVER THE INPUT: true; the input reads as it did. -/
def latticeTextsSpec : ChangeSpec := { name := "latticeTexts", fn := fun _ => fun
  | [d1, d2] => { results := [.lit (.bool true)], args := [d1, d2] }
  | _ => none }
def latticeTextsRow : OpenClaim := { program := "ytfjnapmhnfjopaa", sum := "76ceff51f9fa6b0c613cd6d149d379656efa776a1f258a549dd1b89735efb7aa", func := "invigilator/invigilatorlaw03.LatticeTexts", spec := "latticeTexts", inPlace := ["internal/abi.NoEscape", "internal/bytealg.CountString", "internal/bytealg.IndexByteString", "internal/bytealg.IndexString"], unfollowed := true, recurses := true, named := ["internal/bytealg.MaxLen"], apart := false }
def LatticeTextsSaid : Prop := latticeTextsRow.holds Try.pinned (OpenSpec.ofChange latticeTextsSpec)

/-- ITS FALSE NEIGHBOUR: 'it returns false'. Refute it at one input. -/
def latticeTextsWrong : ChangeSpec := { name := "latticeTexts", fn := fun _ => fun
  | [d1, d2] => { results := [.lit (.bool false)], args := [d1, d2] }
  | _ => none }
def LatticeTextsWrongFalsely : Prop := latticeTextsRow.holds Try.pinned (OpenSpec.ofChange latticeTextsWrong)

/-- 'invigilatorlaw03.LatticeBounds': WHATEVER THE INPUT: true; the input reads as it did. -/
def latticeBoundsSpec : ChangeSpec := { name := "latticeBounds", fn := fun _ => fun
  | [d] => { results := [.lit (.bool true)], args := [d] }
  | _ => none }
def latticeBoundsRow : OpenClaim := { program := "ytfjnapmhnfjopaa", sum := "76ceff51f9fa6b0c613cd6d149d379656efa776a1f258a549dd1b89735efb7aa", func := "invigilator/invigilatorlaw03.LatticeBounds", spec := "latticeBounds", inPlace := ["internal/abi.NoEscape"], unfollowed := true, recurses := true, apart := false }
def LatticeBoundsSaid : Prop := latticeBoundsRow.holds Try.pinned (OpenSpec.ofChange latticeBoundsSpec)

/-- ITS FALSE NEIGHBOUR: 'it returns false'. Refute it at one input. -/
def latticeBoundsWrong : ChangeSpec := { name := "latticeBounds", fn := fun _ => fun
  | [d] => { results := [.lit (.bool false)], args := [d] }
  | _ => none }
def LatticeBoundsWrongFalsely : Prop := latticeBoundsRow.holds Try.pinned (OpenSpec.ofChange latticeBoundsWrong)

/-- 'invigilatorlaw03.LatticeAlgebra': WHATEVER THE INPUT: true; the input reads as it did. -/
def latticeAlgebraSpec : ChangeSpec := { name := "latticeAlgebra", fn := fun _ => fun
  | [d] => { results := [.lit (.bool true)], args := [d] }
  | _ => none }
def latticeAlgebraRow : OpenClaim := { program := "ytfjnapmhnfjopaa", sum := "76ceff51f9fa6b0c613cd6d149d379656efa776a1f258a549dd1b89735efb7aa", func := "invigilator/invigilatorlaw03.LatticeAlgebra", spec := "latticeAlgebra", inPlace := ["internal/abi.NoEscape"], unfollowed := true, recurses := true, apart := false }
def LatticeAlgebraSaid : Prop := latticeAlgebraRow.holds Try.pinned (OpenSpec.ofChange latticeAlgebraSpec)

/-- ITS FALSE NEIGHBOUR: 'it returns false'. Refute it at one input. -/
def latticeAlgebraWrong : ChangeSpec := { name := "latticeAlgebra", fn := fun _ => fun
  | [d] => { results := [.lit (.bool false)], args := [d] }
  | _ => none }
def LatticeAlgebraWrongFalsely : Prop := latticeAlgebraRow.holds Try.pinned (OpenSpec.ofChange latticeAlgebraWrong)

/-- 'invigilatorlaw03.LatticeDuals': WHATEVER THE INPUT: true; the input reads as it did. -/
def latticeDualsSpec : ChangeSpec := { name := "latticeDuals", fn := fun _ => fun
  | [d] => { results := [.lit (.bool true)], args := [d] }
  | _ => none }
def latticeDualsRow : OpenClaim := { program := "ytfjnapmhnfjopaa", sum := "76ceff51f9fa6b0c613cd6d149d379656efa776a1f258a549dd1b89735efb7aa", func := "invigilator/invigilatorlaw03.LatticeDuals", spec := "latticeDuals", inPlace := ["internal/abi.NoEscape"], unfollowed := true, recurses := true, apart := false }
def LatticeDualsSaid : Prop := latticeDualsRow.holds Try.pinned (OpenSpec.ofChange latticeDualsSpec)

/-- ITS FALSE NEIGHBOUR: 'it returns false'. Refute it at one input. -/
def latticeDualsWrong : ChangeSpec := { name := "latticeDuals", fn := fun _ => fun
  | [d] => { results := [.lit (.bool false)], args := [d] }
  | _ => none }
def LatticeDualsWrongFalsely : Prop := latticeDualsRow.holds Try.pinned (OpenSpec.ofChange latticeDualsWrong)

/-- 'invigilatorlaw03.LatticeKnown': WHATEVER THE INPUT: true; the input reads as it did. -/
def latticeKnownSpec : ChangeSpec := { name := "latticeKnown", fn := fun _ => fun
  | [] => { results := [.lit (.bool true)], args := [] }
  | _ => none }
def latticeKnownRow : OpenClaim := { program := "ytfjnapmhnfjopaa", sum := "76ceff51f9fa6b0c613cd6d149d379656efa776a1f258a549dd1b89735efb7aa", func := "invigilator/invigilatorlaw03.LatticeKnown", spec := "latticeKnown", inPlace := ["internal/abi.NoEscape"], unfollowed := true, recurses := true, apart := false }
def LatticeKnownSaid : Prop := latticeKnownRow.holds Try.pinned (OpenSpec.ofChange latticeKnownSpec)

/-- ITS FALSE NEIGHBOUR: 'it returns false'. Refute it at one input. -/
def latticeKnownWrong : ChangeSpec := { name := "latticeKnown", fn := fun _ => fun
  | [] => { results := [.lit (.bool false)], args := [] }
  | _ => none }
def LatticeKnownWrongFalsely : Prop := latticeKnownRow.holds Try.pinned (OpenSpec.ofChange latticeKnownWrong)

/- THE SECOND FORM. 'bulk': how many values and letters a reading holds, each counted each time it is reached (what is shared counts as often as it is met; a slice's spare places count too). A statement '..UptoSaid' is the law's where the arguments, and the package variables that the reading takes, are together of bulk at most 1048576: NARROWER than '..Said'. Prove '..Said' where nothing that the law and all that it calls make is longer than what came in: it says more and counts as full. Else prove '..UptoSaid'. A law counts once. -/
mutual
def uptoBulk {H : Type} : DataW H → Nat
  | .lit (.string bytes) => bytes.length + 1
  | .lit _ => 1
  | .nil => 1
  | .ptr d => uptoBulk d + 1
  | .slice elems spare => uptoBulkAll elems + uptoBulkAll spare + 1
  | .agg parts => uptoBulkAll parts + 1
  | .iface _ d => uptoBulk d + 1
  | .map entries => uptoBulkEntries entries + 1
  | .held _ => 1
def uptoBulkAll {H : Type} : List (DataW H) → Nat
  | [] => 0
  | d :: r => uptoBulk d + uptoBulkAll r
def uptoBulkEntries {H : Type} : List (Lit × DataW H) → Nat
  | [] => 0
  | x :: r => uptoBulkEntry x + uptoBulkEntries r
def uptoBulkEntry {H : Type} : Lit × DataW H → Nat
  | (.string bytes, d) => bytes.length + uptoBulk d + 1
  | (_, d) => uptoBulk d + 1
 end
def uptoSmall : (H : Type) → List (DataW H) → Bool := fun _ ds => decide (uptoBulkAll ds ≤ 1048576)
def OpenSpec.upto (s : _root_.Go.ChangeSpec) : _root_.Go.OpenSpec := { _root_.Go.OpenSpec.ofChange s with cond := some uptoSmall }

/-- 'invigilatorlaw03.LatticeChecks', WHERE WHAT IT READS IS OF BULK AT MOST 1048576: true; the input reads as it did. -/
def latticeChecksUptoRow : OpenClaim := { program := "ytfjnapmhnfjopaa", sum := "76ceff51f9fa6b0c613cd6d149d379656efa776a1f258a549dd1b89735efb7aa", func := "invigilator/invigilatorlaw03.LatticeChecks", spec := "latticeChecks", inPlace := ["internal/abi.NoEscape"], unfollowed := true, recurses := true, apart := false, narrowed := true }
def LatticeChecksUptoSaid : Prop := latticeChecksUptoRow.holds Try.pinned (OpenSpec.upto latticeChecksSpec)

/-- 'invigilatorlaw03.LatticeOrders', WHERE WHAT IT READS IS OF BULK AT MOST 1048576: true; the input reads as it did. -/
def latticeOrdersUptoRow : OpenClaim := { program := "ytfjnapmhnfjopaa", sum := "76ceff51f9fa6b0c613cd6d149d379656efa776a1f258a549dd1b89735efb7aa", func := "invigilator/invigilatorlaw03.LatticeOrders", spec := "latticeOrders", inPlace := ["internal/abi.NoEscape"], unfollowed := true, recurses := true, apart := false, narrowed := true }
def LatticeOrdersUptoSaid : Prop := latticeOrdersUptoRow.holds Try.pinned (OpenSpec.upto latticeOrdersSpec)

/-- 'invigilatorlaw03.LatticeFinds', WHERE WHAT IT READS IS OF BULK AT MOST 1048576: true; the input reads as it did. -/
def latticeFindsUptoRow : OpenClaim := { program := "ytfjnapmhnfjopaa", sum := "76ceff51f9fa6b0c613cd6d149d379656efa776a1f258a549dd1b89735efb7aa", func := "invigilator/invigilatorlaw03.LatticeFinds", spec := "latticeFinds", inPlace := ["internal/abi.NoEscape"], unfollowed := true, recurses := true, apart := false, narrowed := true }
def LatticeFindsUptoSaid : Prop := latticeFindsUptoRow.holds Try.pinned (OpenSpec.upto latticeFindsSpec)

/-- 'invigilatorlaw03.LatticeTexts', WHERE WHAT IT READS IS OF BULK AT MOST 1048576: true; the input reads as it did. -/
def latticeTextsUptoRow : OpenClaim := { program := "ytfjnapmhnfjopaa", sum := "76ceff51f9fa6b0c613cd6d149d379656efa776a1f258a549dd1b89735efb7aa", func := "invigilator/invigilatorlaw03.LatticeTexts", spec := "latticeTexts", inPlace := ["internal/abi.NoEscape", "internal/bytealg.CountString", "internal/bytealg.IndexByteString", "internal/bytealg.IndexString"], unfollowed := true, recurses := true, named := ["internal/bytealg.MaxLen"], apart := false, narrowed := true }
def LatticeTextsUptoSaid : Prop := latticeTextsUptoRow.holds Try.pinned (OpenSpec.upto latticeTextsSpec)

/-- 'invigilatorlaw03.LatticeBounds', WHERE WHAT IT READS IS OF BULK AT MOST 1048576: true; the input reads as it did. -/
def latticeBoundsUptoRow : OpenClaim := { program := "ytfjnapmhnfjopaa", sum := "76ceff51f9fa6b0c613cd6d149d379656efa776a1f258a549dd1b89735efb7aa", func := "invigilator/invigilatorlaw03.LatticeBounds", spec := "latticeBounds", inPlace := ["internal/abi.NoEscape"], unfollowed := true, recurses := true, apart := false, narrowed := true }
def LatticeBoundsUptoSaid : Prop := latticeBoundsUptoRow.holds Try.pinned (OpenSpec.upto latticeBoundsSpec)

/-- 'invigilatorlaw03.LatticeAlgebra', WHERE WHAT IT READS IS OF BULK AT MOST 1048576: true; the input reads as it did. -/
def latticeAlgebraUptoRow : OpenClaim := { program := "ytfjnapmhnfjopaa", sum := "76ceff51f9fa6b0c613cd6d149d379656efa776a1f258a549dd1b89735efb7aa", func := "invigilator/invigilatorlaw03.LatticeAlgebra", spec := "latticeAlgebra", inPlace := ["internal/abi.NoEscape"], unfollowed := true, recurses := true, apart := false, narrowed := true }
def LatticeAlgebraUptoSaid : Prop := latticeAlgebraUptoRow.holds Try.pinned (OpenSpec.upto latticeAlgebraSpec)

/-- 'invigilatorlaw03.LatticeDuals', WHERE WHAT IT READS IS OF BULK AT MOST 1048576: true; the input reads as it did. -/
def latticeDualsUptoRow : OpenClaim := { program := "ytfjnapmhnfjopaa", sum := "76ceff51f9fa6b0c613cd6d149d379656efa776a1f258a549dd1b89735efb7aa", func := "invigilator/invigilatorlaw03.LatticeDuals", spec := "latticeDuals", inPlace := ["internal/abi.NoEscape"], unfollowed := true, recurses := true, apart := false, narrowed := true }
def LatticeDualsUptoSaid : Prop := latticeDualsUptoRow.holds Try.pinned (OpenSpec.upto latticeDualsSpec)

/-- 'invigilatorlaw03.LatticeKnown', WHERE WHAT IT READS IS OF BULK AT MOST 1048576: true; the input reads as it did. -/
def latticeKnownUptoRow : OpenClaim := { program := "ytfjnapmhnfjopaa", sum := "76ceff51f9fa6b0c613cd6d149d379656efa776a1f258a549dd1b89735efb7aa", func := "invigilator/invigilatorlaw03.LatticeKnown", spec := "latticeKnown", inPlace := ["internal/abi.NoEscape"], unfollowed := true, recurses := true, apart := false, narrowed := true }
def LatticeKnownUptoSaid : Prop := latticeKnownUptoRow.holds Try.pinned (OpenSpec.upto latticeKnownSpec)

end Rows
end Go.Proofs.Ytfjnapmhnfjopaa
