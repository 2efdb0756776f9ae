/-
  No cell of these rows narrows 'for every input' (looked for: loops, veiled, ifaces, maps, wideKeys, modest, calm, conditions, laid).
  DERIVED. THE GIVEN ROWS OF THIS SEAT. 5 by the template 'for every input the law returns true; each argument reads behind the call as it read before'; 0 by the template 'total and deterministic' (their statements: YtdkljpoecdinjaaTotals.lean).
  GIVEN WITH THE SEED: the statements are not yours to turn. If you find one false, say at which input.
  Laid BY PROGRAM, IN A SANDBOX (cutbox-rows.mjs): the forced cells as the released guide's own fill.sh prints them over the translation 3482be6dd7f747cc… (all of the seat's roots in one cut). By AI agents, Wed Nov 11 2026. No macro, syntax, notation, axiom, sorry.
-/
import Derived.Test.YtdkljpoecdinjaaChecked
import GoSem.Claim
import GoSem.ClaimJoined
import GoSem.ClaimMapViews
import Derived.JoinedTies
import Derived.KernelRfl
namespace Go.Proofs.Ytdkljpoecdinjaa
/- THE CELL 'sum', in the pinned program and in every row, IS THE sha256 OF THE DUMP (.gsa) THAT YtdkljpoecdinjaaProg.lean LOADS. Nothing in Lean hashes anything: it is a label: what it is worth is what the hold of that sum in a sandbox is worth. -/
noncomputable def Try.pinned : Pinned := { name := "ytdkljpoecdinjaa", sum := "3482be6dd7f747cc7cf46b062bf179ae1d3383459de1232eea74feae085e2d57", checked := Try.checked }
namespace Rows
def none {H : Type} : Left H := { results := [], args := [] }

/-- 'invigilatorlaw04.LabelsSorts': WHATEVER THE INPUT: true; the input reads as it did. -/
def labelsSortsSpec : ChangeSpec := { name := "labelsSorts", fn := fun _ => fun
  | [d1, d2, d3] => { results := [.lit (.bool true)], args := [d1, d2, d3] }
  | _ => none }
def labelsSortsRow : OpenClaim := { program := "ytdkljpoecdinjaa", sum := "3482be6dd7f747cc7cf46b062bf179ae1d3383459de1232eea74feae085e2d57", func := "invigilator/invigilatorlaw04.LabelsSorts", spec := "labelsSorts", inPlace := ["internal/abi.NoEscape", "internal/bytealg.MakeNoZero"], unfollowed := true, recurses := true, apart := false }
def LabelsSortsSaid : Prop := labelsSortsRow.holds Try.pinned (OpenSpec.ofChange labelsSortsSpec)

/-- ITS FALSE NEIGHBOUR: 'it returns false'. Refute it at one input. -/
def labelsSortsWrong : ChangeSpec := { name := "labelsSorts", fn := fun _ => fun
  | [d1, d2, d3] => { results := [.lit (.bool false)], args := [d1, d2, d3] }
  | _ => none }
def LabelsSortsWrongFalsely : Prop := labelsSortsRow.holds Try.pinned (OpenSpec.ofChange labelsSortsWrong)

/-- 'invigilatorlaw04.LabelsChains': WHATEVER THE INPUT: true; the input reads as it did. -/
def labelsChainsSpec : ChangeSpec := { name := "labelsChains", fn := fun _ => fun
  | [d1, d2] => { results := [.lit (.bool true)], args := [d1, d2] }
  | _ => none }
def labelsChainsRow : OpenClaim := { program := "ytdkljpoecdinjaa", sum := "3482be6dd7f747cc7cf46b062bf179ae1d3383459de1232eea74feae085e2d57", func := "invigilator/invigilatorlaw04.LabelsChains", spec := "labelsChains", inPlace := ["internal/abi.NoEscape", "internal/bytealg.MakeNoZero"], unfollowed := true, recurses := true, apart := false }
def LabelsChainsSaid : Prop := labelsChainsRow.holds Try.pinned (OpenSpec.ofChange labelsChainsSpec)

/-- ITS FALSE NEIGHBOUR: 'it returns false'. Refute it at one input. -/
def labelsChainsWrong : ChangeSpec := { name := "labelsChains", fn := fun _ => fun
  | [d1, d2] => { results := [.lit (.bool false)], args := [d1, d2] }
  | _ => none }
def LabelsChainsWrongFalsely : Prop := labelsChainsRow.holds Try.pinned (OpenSpec.ofChange labelsChainsWrong)

/-- 'invigilatorlaw04.LabelsFolds': WHATEVER THE INPUT: true; the input reads as it did. -/
def labelsFoldsSpec : ChangeSpec := { name := "labelsFolds", fn := fun _ => fun
  | [d1, d2, d3] => { results := [.lit (.bool true)], args := [d1, d2, d3] }
  | _ => none }
def labelsFoldsRow : OpenClaim := { program := "ytdkljpoecdinjaa", sum := "3482be6dd7f747cc7cf46b062bf179ae1d3383459de1232eea74feae085e2d57", func := "invigilator/invigilatorlaw04.LabelsFolds", spec := "labelsFolds", inPlace := ["internal/abi.NoEscape", "internal/bytealg.MakeNoZero"], unfollowed := true, recurses := true, apart := false }
def LabelsFoldsSaid : Prop := labelsFoldsRow.holds Try.pinned (OpenSpec.ofChange labelsFoldsSpec)

/-- ITS FALSE NEIGHBOUR: 'it returns false'. Refute it at one input. -/
def labelsFoldsWrong : ChangeSpec := { name := "labelsFolds", fn := fun _ => fun
  | [d1, d2, d3] => { results := [.lit (.bool false)], args := [d1, d2, d3] }
  | _ => none }
def LabelsFoldsWrongFalsely : Prop := labelsFoldsRow.holds Try.pinned (OpenSpec.ofChange labelsFoldsWrong)

/-- 'invigilatorlaw04.LabelsOrder': WHATEVER THE INPUT: true; the input reads as it did. -/
def labelsOrderSpec : ChangeSpec := { name := "labelsOrder", fn := fun _ => fun
  | [d1, d2] => { results := [.lit (.bool true)], args := [d1, d2] }
  | _ => none }
def labelsOrderRow : OpenClaim := { program := "ytdkljpoecdinjaa", sum := "3482be6dd7f747cc7cf46b062bf179ae1d3383459de1232eea74feae085e2d57", func := "invigilator/invigilatorlaw04.LabelsOrder", spec := "labelsOrder", inPlace := ["internal/abi.NoEscape", "internal/bytealg.MakeNoZero"], unfollowed := true, recurses := true, apart := false }
def LabelsOrderSaid : Prop := labelsOrderRow.holds Try.pinned (OpenSpec.ofChange labelsOrderSpec)

/-- ITS FALSE NEIGHBOUR: 'it returns false'. Refute it at one input. -/
def labelsOrderWrong : ChangeSpec := { name := "labelsOrder", fn := fun _ => fun
  | [d1, d2] => { results := [.lit (.bool false)], args := [d1, d2] }
  | _ => none }
def LabelsOrderWrongFalsely : Prop := labelsOrderRow.holds Try.pinned (OpenSpec.ofChange labelsOrderWrong)

/-- 'invigilatorlaw04.LabelsLeast': WHATEVER THE INPUT: true; the input reads as it did. -/
def labelsLeastSpec : ChangeSpec := { name := "labelsLeast", fn := fun _ => fun
  | [d1, d2, d3] => { results := [.lit (.bool true)], args := [d1, d2, d3] }
  | _ => none }
def labelsLeastRow : OpenClaim := { program := "ytdkljpoecdinjaa", sum := "3482be6dd7f747cc7cf46b062bf179ae1d3383459de1232eea74feae085e2d57", func := "invigilator/invigilatorlaw04.LabelsLeast", spec := "labelsLeast", inPlace := ["internal/abi.NoEscape", "internal/bytealg.MakeNoZero"], unfollowed := true, recurses := true, apart := false }
def LabelsLeastSaid : Prop := labelsLeastRow.holds Try.pinned (OpenSpec.ofChange labelsLeastSpec)

/-- ITS FALSE NEIGHBOUR: 'it returns false'. Refute it at one input. -/
def labelsLeastWrong : ChangeSpec := { name := "labelsLeast", fn := fun _ => fun
  | [d1, d2, d3] => { results := [.lit (.bool false)], args := [d1, d2, d3] }
  | _ => none }
def LabelsLeastWrongFalsely : Prop := labelsLeastRow.holds Try.pinned (OpenSpec.ofChange labelsLeastWrong)

/- THE SECOND FORM. 'bulk': how many values and letters a reading holds, each counted each time it is reached (what is shared counts as often as it is met; a slice's spare places count too). A statement '..UptoSaid' is the law's where the arguments, and the package variables that the reading takes, are together of bulk at most 1048576: NARROWER than '..Said'. Prove '..Said' where nothing that the law and all that it calls make is longer than what came in: it says more and counts as full. Else prove '..UptoSaid'. A law counts once. -/
mutual
def uptoBulk {H : Type} : DataW H → Nat
  | .lit (.string bytes) => bytes.length + 1
  | .lit _ => 1
  | .nil => 1
  | .ptr d => uptoBulk d + 1
  | .slice elems spare => uptoBulkAll elems + uptoBulkAll spare + 1
  | .agg parts => uptoBulkAll parts + 1
  | .iface _ d => uptoBulk d + 1
  | .map entries => uptoBulkEntries entries + 1
  | .held _ => 1
def uptoBulkAll {H : Type} : List (DataW H) → Nat
  | [] => 0
  | d :: r => uptoBulk d + uptoBulkAll r
def uptoBulkEntries {H : Type} : List (Lit × DataW H) → Nat
  | [] => 0
  | x :: r => uptoBulkEntry x + uptoBulkEntries r
def uptoBulkEntry {H : Type} : Lit × DataW H → Nat
  | (.string bytes, d) => bytes.length + uptoBulk d + 1
  | (_, d) => uptoBulk d + 1
 end
def uptoSmall : (H : Type) → List (DataW H) → Bool := fun _ ds => decide (uptoBulkAll ds ≤ 1048576)
def OpenSpec.upto (s : _root_.Go.ChangeSpec) : _root_.Go.OpenSpec := { _root_.Go.OpenSpec.ofChange s with cond := some uptoSmall }

/-- 'invigilatorlaw04.LabelsSorts', WHERE WHAT IT READS IS OF BULK AT MOST 1048576: true; the input reads as it did. -/
def labelsSortsUptoRow : OpenClaim := { program := "ytdkljpoecdinjaa", sum := "3482be6dd7f747cc7cf46b062bf179ae1d3383459de1232eea74feae085e2d57", func := "invigilator/invigilatorlaw04.LabelsSorts", spec := "labelsSorts", inPlace := ["internal/abi.NoEscape", "internal/bytealg.MakeNoZero"], unfollowed := true, recurses := true, apart := false, narrowed := true }
def LabelsSortsUptoSaid : Prop := labelsSortsUptoRow.holds Try.pinned (OpenSpec.upto labelsSortsSpec)

/-- 'invigilatorlaw04.LabelsChains', WHERE WHAT IT READS IS OF BULK AT MOST 1048576: true; the input reads as it did. -/
def labelsChainsUptoRow : OpenClaim := { program := "ytdkljpoecdinjaa", sum := "3482be6dd7f747cc7cf46b062bf179ae1d3383459de1232eea74feae085e2d57", func := "invigilator/invigilatorlaw04.LabelsChains", spec := "labelsChains", inPlace := ["internal/abi.NoEscape", "internal/bytealg.MakeNoZero"], unfollowed := true, recurses := true, apart := false, narrowed := true }
def LabelsChainsUptoSaid : Prop := labelsChainsUptoRow.holds Try.pinned (OpenSpec.upto labelsChainsSpec)

/-- 'invigilatorlaw04.LabelsFolds', WHERE WHAT IT READS IS OF BULK AT MOST 1048576: true; the input reads as it did. -/
def labelsFoldsUptoRow : OpenClaim := { program := "ytdkljpoecdinjaa", sum := "3482be6dd7f747cc7cf46b062bf179ae1d3383459de1232eea74feae085e2d57", func := "invigilator/invigilatorlaw04.LabelsFolds", spec := "labelsFolds", inPlace := ["internal/abi.NoEscape", "internal/bytealg.MakeNoZero"], unfollowed := true, recurses := true, apart := false, narrowed := true }
def LabelsFoldsUptoSaid : Prop := labelsFoldsUptoRow.holds Try.pinned (OpenSpec.upto labelsFoldsSpec)

/-- 'invigilatorlaw04.LabelsOrder', WHERE WHAT IT READS IS OF BULK AT MOST 1048576: true; the input reads as it did. -/
def labelsOrderUptoRow : OpenClaim := { program := "ytdkljpoecdinjaa", sum := "3482be6dd7f747cc7cf46b062bf179ae1d3383459de1232eea74feae085e2d57", func := "invigilator/invigilatorlaw04.LabelsOrder", spec := "labelsOrder", inPlace := ["internal/abi.NoEscape", "internal/bytealg.MakeNoZero"], unfollowed := true, recurses := true, apart := false, narrowed := true }
def LabelsOrderUptoSaid : Prop := labelsOrderUptoRow.holds Try.pinned (OpenSpec.upto labelsOrderSpec)

/-- 'invigilatorlaw04.LabelsLeast', WHERE WHAT IT READS IS OF BULK AT MOST 1048576: true; the input reads as it did. -/
def labelsLeastUptoRow : OpenClaim := { program := "ytdkljpoecdinjaa", sum := "3482be6dd7f747cc7cf46b062bf179ae1d3383459de1232eea74feae085e2d57", func := "invigilator/invigilatorlaw04.LabelsLeast", spec := "labelsLeast", inPlace := ["internal/abi.NoEscape", "internal/bytealg.MakeNoZero"], unfollowed := true, recurses := true, apart := false, narrowed := true }
def LabelsLeastUptoSaid : Prop := labelsLeastUptoRow.holds Try.pinned (OpenSpec.upto labelsLeastSpec)

end Rows
end Go.Proofs.Ytdkljpoecdinjaa
