/-
  NARROWER THAN 'FOR EVERY INPUT', by the rows' own cells (each row's printed sentence says how): ExtendTurns: laid · ExtendParts: laid · FoldsSums: laid · FoldsEnds: laid · FoldsScans: laid · FoldsBounds: laid · FoldsParts: laid · FoldsRows: laid · FoldsChains: laid · FoldsFlat: laid.
  DERIVED. THE GIVEN ROWS OF THIS SEAT. 10 by the template 'for every input the law returns true; each argument reads behind the call as it read before'; 0 by the template 'total and deterministic' (their statements: YtokmdgiialcokaaDoorTotals.lean).
  GIVEN WITH THE SEED: the statements are not yours to turn. If you find one false, say at which input.
  Laid BY PROGRAM, IN A SANDBOX (cutbox-rows.mjs): the forced cells as the released guide's own fill.sh prints them over the translation 0528e178129fd2e9… (all of the seat's roots in one cut). By AI agents, Wed Nov 11 2026. No macro, syntax, notation, axiom, sorry.
-/
import Derived.Test.YtokmdgiialcokaaDoorChecked
import GoSem.Claim
import GoSem.ClaimJoined
import GoSem.ClaimMapViews
import Derived.JoinedTies
import Derived.KernelRfl
namespace Go.Proofs.YtokmdgiialcokaaDoor
/- THE CELL 'sum', in the pinned program and in every row, IS THE sha256 OF THE DUMP (.gsa) THAT YtokmdgiialcokaaDoorProg.lean LOADS. Nothing in Lean hashes anything: it is a label: what it is worth is what the hold of that sum in a sandbox is worth. -/
noncomputable def Tryd.pinned : Pinned := { name := "ytokmdgiialcokaadoor", sum := "0528e178129fd2e9a3f9807721b54ae8d8010815c6453c450b4bb59783f49d4b", checked := Tryd.checked }
namespace Rows
def none {H : Type} : Left H := { results := [], args := [] }

/- WHAT THE LISTED PACKAGE-LEVEL VARIABLES READ AS WHEN THE CALL BEGINS. Each datum BY PROGRAM (the guide's laid-datum.mjs) off the statement by which the dump's own 'gosem.cut.vars' lays the variable. In a bare row this is a premise. The card (YtokmdgiialcokaaDoorCards.lean) ties it to the program's text. -/
def laid_invigilator_runes_leads {H : Type} : DataW H := .agg [.lit (.int .u8 0), .lit (.int .u8 0), .lit (.int .u8 192), .lit (.int .u8 224), .lit (.int .u8 240)]

/-- 'invigilatorlaw10.ExtendTurns': WHATEVER THE INPUT: true; the input reads as it did. -/
def extendTurnsSpec : ChangeSpec := { name := "extendTurns", fn := fun _ => fun
  | [d1, d2, d3] => { results := [.lit (.bool true)], args := [d1, d2, d3] }
  | _ => none }
def extendTurnsRow : OpenClaim := { program := "ytokmdgiialcokaadoor", sum := "0528e178129fd2e9a3f9807721b54ae8d8010815c6453c450b4bb59783f49d4b", func := "invigilator/invigilatorlaw10.ExtendTurns", spec := "extendTurns", unfollowed := true, recurses := true, named := ["invigilator/runes.leads"], apart := false, laid := [("invigilator/runes.leads", laid_invigilator_runes_leads)] }
def ExtendTurnsSaid : Prop := extendTurnsRow.holds Tryd.pinned (OpenSpec.ofChange extendTurnsSpec)

/-- ITS FALSE NEIGHBOUR: 'it returns false'. Refute it at one input. -/
def extendTurnsWrong : ChangeSpec := { name := "extendTurns", fn := fun _ => fun
  | [d1, d2, d3] => { results := [.lit (.bool false)], args := [d1, d2, d3] }
  | _ => none }
def ExtendTurnsWrongFalsely : Prop := extendTurnsRow.holds Tryd.pinned (OpenSpec.ofChange extendTurnsWrong)

/-- 'invigilatorlaw10.ExtendParts': WHATEVER THE INPUT: true; the input reads as it did. -/
def extendPartsSpec : ChangeSpec := { name := "extendParts", fn := fun _ => fun
  | [d1, d2, d3] => { results := [.lit (.bool true)], args := [d1, d2, d3] }
  | _ => none }
def extendPartsRow : OpenClaim := { program := "ytokmdgiialcokaadoor", sum := "0528e178129fd2e9a3f9807721b54ae8d8010815c6453c450b4bb59783f49d4b", func := "invigilator/invigilatorlaw10.ExtendParts", spec := "extendParts", unfollowed := true, recurses := true, named := ["invigilator/runes.leads"], apart := false, laid := [("invigilator/runes.leads", laid_invigilator_runes_leads)] }
def ExtendPartsSaid : Prop := extendPartsRow.holds Tryd.pinned (OpenSpec.ofChange extendPartsSpec)

/-- ITS FALSE NEIGHBOUR: 'it returns false'. Refute it at one input. -/
def extendPartsWrong : ChangeSpec := { name := "extendParts", fn := fun _ => fun
  | [d1, d2, d3] => { results := [.lit (.bool false)], args := [d1, d2, d3] }
  | _ => none }
def ExtendPartsWrongFalsely : Prop := extendPartsRow.holds Tryd.pinned (OpenSpec.ofChange extendPartsWrong)

/-- 'invigilatorlaw11.FoldsSums': WHATEVER THE INPUT: true; the input reads as it did. -/
def foldsSumsSpec : ChangeSpec := { name := "foldsSums", fn := fun _ => fun
  | [d] => { results := [.lit (.bool true)], args := [d] }
  | _ => none }
def foldsSumsRow : OpenClaim := { program := "ytokmdgiialcokaadoor", sum := "0528e178129fd2e9a3f9807721b54ae8d8010815c6453c450b4bb59783f49d4b", func := "invigilator/invigilatorlaw11.FoldsSums", spec := "foldsSums", unfollowed := true, recurses := true, named := ["invigilator/runes.leads"], apart := false, laid := [("invigilator/runes.leads", laid_invigilator_runes_leads)] }
def FoldsSumsSaid : Prop := foldsSumsRow.holds Tryd.pinned (OpenSpec.ofChange foldsSumsSpec)

/-- ITS FALSE NEIGHBOUR: 'it returns false'. Refute it at one input. -/
def foldsSumsWrong : ChangeSpec := { name := "foldsSums", fn := fun _ => fun
  | [d] => { results := [.lit (.bool false)], args := [d] }
  | _ => none }
def FoldsSumsWrongFalsely : Prop := foldsSumsRow.holds Tryd.pinned (OpenSpec.ofChange foldsSumsWrong)

/-- 'invigilatorlaw11.FoldsEnds': WHATEVER THE INPUT: true; the input reads as it did. -/
def foldsEndsSpec : ChangeSpec := { name := "foldsEnds", fn := fun _ => fun
  | [d] => { results := [.lit (.bool true)], args := [d] }
  | _ => none }
def foldsEndsRow : OpenClaim := { program := "ytokmdgiialcokaadoor", sum := "0528e178129fd2e9a3f9807721b54ae8d8010815c6453c450b4bb59783f49d4b", func := "invigilator/invigilatorlaw11.FoldsEnds", spec := "foldsEnds", unfollowed := true, recurses := true, named := ["invigilator/runes.leads"], apart := false, laid := [("invigilator/runes.leads", laid_invigilator_runes_leads)] }
def FoldsEndsSaid : Prop := foldsEndsRow.holds Tryd.pinned (OpenSpec.ofChange foldsEndsSpec)

/-- ITS FALSE NEIGHBOUR: 'it returns false'. Refute it at one input. -/
def foldsEndsWrong : ChangeSpec := { name := "foldsEnds", fn := fun _ => fun
  | [d] => { results := [.lit (.bool false)], args := [d] }
  | _ => none }
def FoldsEndsWrongFalsely : Prop := foldsEndsRow.holds Tryd.pinned (OpenSpec.ofChange foldsEndsWrong)

/-- 'invigilatorlaw11.FoldsScans': WHATEVER THE INPUT: true; the input reads as it did. -/
def foldsScansSpec : ChangeSpec := { name := "foldsScans", fn := fun _ => fun
  | [d] => { results := [.lit (.bool true)], args := [d] }
  | _ => none }
def foldsScansRow : OpenClaim := { program := "ytokmdgiialcokaadoor", sum := "0528e178129fd2e9a3f9807721b54ae8d8010815c6453c450b4bb59783f49d4b", func := "invigilator/invigilatorlaw11.FoldsScans", spec := "foldsScans", unfollowed := true, recurses := true, named := ["invigilator/runes.leads"], apart := false, laid := [("invigilator/runes.leads", laid_invigilator_runes_leads)] }
def FoldsScansSaid : Prop := foldsScansRow.holds Tryd.pinned (OpenSpec.ofChange foldsScansSpec)

/-- ITS FALSE NEIGHBOUR: 'it returns false'. Refute it at one input. -/
def foldsScansWrong : ChangeSpec := { name := "foldsScans", fn := fun _ => fun
  | [d] => { results := [.lit (.bool false)], args := [d] }
  | _ => none }
def FoldsScansWrongFalsely : Prop := foldsScansRow.holds Tryd.pinned (OpenSpec.ofChange foldsScansWrong)

/-- 'invigilatorlaw11.FoldsBounds': WHATEVER THE INPUT: true; the input reads as it did. -/
def foldsBoundsSpec : ChangeSpec := { name := "foldsBounds", fn := fun _ => fun
  | [d] => { results := [.lit (.bool true)], args := [d] }
  | _ => none }
def foldsBoundsRow : OpenClaim := { program := "ytokmdgiialcokaadoor", sum := "0528e178129fd2e9a3f9807721b54ae8d8010815c6453c450b4bb59783f49d4b", func := "invigilator/invigilatorlaw11.FoldsBounds", spec := "foldsBounds", unfollowed := true, recurses := true, named := ["invigilator/runes.leads"], apart := false, laid := [("invigilator/runes.leads", laid_invigilator_runes_leads)] }
def FoldsBoundsSaid : Prop := foldsBoundsRow.holds Tryd.pinned (OpenSpec.ofChange foldsBoundsSpec)

/-- ITS FALSE NEIGHBOUR: 'it returns false'. Refute it at one input. -/
def foldsBoundsWrong : ChangeSpec := { name := "foldsBounds", fn := fun _ => fun
  | [d] => { results := [.lit (.bool false)], args := [d] }
  | _ => none }
def FoldsBoundsWrongFalsely : Prop := foldsBoundsRow.holds Tryd.pinned (OpenSpec.ofChange foldsBoundsWrong)

/-- 'invigilatorlaw11.FoldsParts': WHATEVER THE INPUT: true; the input reads as it did. -/
def foldsPartsSpec : ChangeSpec := { name := "foldsParts", fn := fun _ => fun
  | [d1, d2] => { results := [.lit (.bool true)], args := [d1, d2] }
  | _ => none }
def foldsPartsRow : OpenClaim := { program := "ytokmdgiialcokaadoor", sum := "0528e178129fd2e9a3f9807721b54ae8d8010815c6453c450b4bb59783f49d4b", func := "invigilator/invigilatorlaw11.FoldsParts", spec := "foldsParts", unfollowed := true, recurses := true, named := ["invigilator/runes.leads"], apart := false, laid := [("invigilator/runes.leads", laid_invigilator_runes_leads)] }
def FoldsPartsSaid : Prop := foldsPartsRow.holds Tryd.pinned (OpenSpec.ofChange foldsPartsSpec)

/-- ITS FALSE NEIGHBOUR: 'it returns false'. Refute it at one input. -/
def foldsPartsWrong : ChangeSpec := { name := "foldsParts", fn := fun _ => fun
  | [d1, d2] => { results := [.lit (.bool false)], args := [d1, d2] }
  | _ => none }
def FoldsPartsWrongFalsely : Prop := foldsPartsRow.holds Tryd.pinned (OpenSpec.ofChange foldsPartsWrong)

/-- 'invigilatorlaw11.FoldsRows': WHATEVER THE INPUT: true; the input reads as it did. -/
def foldsRowsSpec : ChangeSpec := { name := "foldsRows", fn := fun _ => fun
  | [d] => { results := [.lit (.bool true)], args := [d] }
  | _ => none }
def foldsRowsRow : OpenClaim := { program := "ytokmdgiialcokaadoor", sum := "0528e178129fd2e9a3f9807721b54ae8d8010815c6453c450b4bb59783f49d4b", func := "invigilator/invigilatorlaw11.FoldsRows", spec := "foldsRows", unfollowed := true, recurses := true, named := ["invigilator/runes.leads"], apart := false, laid := [("invigilator/runes.leads", laid_invigilator_runes_leads)] }
def FoldsRowsSaid : Prop := foldsRowsRow.holds Tryd.pinned (OpenSpec.ofChange foldsRowsSpec)

/-- ITS FALSE NEIGHBOUR: 'it returns false'. Refute it at one input. -/
def foldsRowsWrong : ChangeSpec := { name := "foldsRows", fn := fun _ => fun
  | [d] => { results := [.lit (.bool false)], args := [d] }
  | _ => none }
def FoldsRowsWrongFalsely : Prop := foldsRowsRow.holds Tryd.pinned (OpenSpec.ofChange foldsRowsWrong)

/-- 'invigilatorlaw11.FoldsChains': WHATEVER THE INPUT: true; the input reads as it did. -/
def foldsChainsSpec : ChangeSpec := { name := "foldsChains", fn := fun _ => fun
  | [d1, d2] => { results := [.lit (.bool true)], args := [d1, d2] }
  | _ => none }
def foldsChainsRow : OpenClaim := { program := "ytokmdgiialcokaadoor", sum := "0528e178129fd2e9a3f9807721b54ae8d8010815c6453c450b4bb59783f49d4b", func := "invigilator/invigilatorlaw11.FoldsChains", spec := "foldsChains", unfollowed := true, recurses := true, named := ["invigilator/runes.leads"], apart := false, laid := [("invigilator/runes.leads", laid_invigilator_runes_leads)] }
def FoldsChainsSaid : Prop := foldsChainsRow.holds Tryd.pinned (OpenSpec.ofChange foldsChainsSpec)

/-- ITS FALSE NEIGHBOUR: 'it returns false'. Refute it at one input. -/
def foldsChainsWrong : ChangeSpec := { name := "foldsChains", fn := fun _ => fun
  | [d1, d2] => { results := [.lit (.bool false)], args := [d1, d2] }
  | _ => none }
def FoldsChainsWrongFalsely : Prop := foldsChainsRow.holds Tryd.pinned (OpenSpec.ofChange foldsChainsWrong)

/-- 'invigilatorlaw11.FoldsFlat': WHATEVER THE INPUT: true; the input reads as it did. -/
def foldsFlatSpec : ChangeSpec := { name := "foldsFlat", fn := fun _ => fun
  | [d] => { results := [.lit (.bool true)], args := [d] }
  | _ => none }
def foldsFlatRow : OpenClaim := { program := "ytokmdgiialcokaadoor", sum := "0528e178129fd2e9a3f9807721b54ae8d8010815c6453c450b4bb59783f49d4b", func := "invigilator/invigilatorlaw11.FoldsFlat", spec := "foldsFlat", unfollowed := true, recurses := true, named := ["invigilator/runes.leads"], apart := false, laid := [("invigilator/runes.leads", laid_invigilator_runes_leads)] }
def FoldsFlatSaid : Prop := foldsFlatRow.holds Tryd.pinned (OpenSpec.ofChange foldsFlatSpec)

/-- ITS FALSE NEIGHBOUR: 'it returns false'. Refute it at one input. -/
def foldsFlatWrong : ChangeSpec := { name := "foldsFlat", fn := fun _ => fun
  | [d] => { results := [.lit (.bool false)], args := [d] }
  | _ => none }
def FoldsFlatWrongFalsely : Prop := foldsFlatRow.holds Tryd.pinned (OpenSpec.ofChange foldsFlatWrong)

/- THE SECOND FORM. 'bulk': how many values and letters a reading holds, each counted each time it is reached (what is shared counts as often as it is met; a slice's spare places count too). A statement '..UptoSaid' is the law's where the arguments, and the package variables that the reading takes, are together of bulk at most 1048576: NARROWER than '..Said'. Prove '..Said' where nothing that the law and all that it calls make is longer than what came in: it says more and counts as full. Else prove '..UptoSaid'. A law counts once. -/
mutual
def uptoBulk {H : Type} : DataW H → Nat
  | .lit (.string bytes) => bytes.length + 1
  | .lit _ => 1
  | .nil => 1
  | .ptr d => uptoBulk d + 1
  | .slice elems spare => uptoBulkAll elems + uptoBulkAll spare + 1
  | .agg parts => uptoBulkAll parts + 1
  | .iface _ d => uptoBulk d + 1
  | .map entries => uptoBulkEntries entries + 1
  | .held _ => 1
def uptoBulkAll {H : Type} : List (DataW H) → Nat
  | [] => 0
  | d :: r => uptoBulk d + uptoBulkAll r
def uptoBulkEntries {H : Type} : List (Lit × DataW H) → Nat
  | [] => 0
  | x :: r => uptoBulkEntry x + uptoBulkEntries r
def uptoBulkEntry {H : Type} : Lit × DataW H → Nat
  | (.string bytes, d) => bytes.length + uptoBulk d + 1
  | (_, d) => uptoBulk d + 1
 end
def uptoSmall : (H : Type) → List (DataW H) → Bool := fun _ ds => decide (uptoBulkAll ds ≤ 1048576)
def OpenSpec.upto (s : _root_.Go.ChangeSpec) : _root_.Go.OpenSpec := { _root_.Go.OpenSpec.ofChange s with cond := some uptoSmall }

/-- 'invigilatorlaw10.ExtendTurns', WHERE WHAT IT READS IS OF BULK AT MOST 1048576: true; the input reads as it did. -/
def extendTurnsUptoRow : OpenClaim := { program := "ytokmdgiialcokaadoor", sum := "0528e178129fd2e9a3f9807721b54ae8d8010815c6453c450b4bb59783f49d4b", func := "invigilator/invigilatorlaw10.ExtendTurns", spec := "extendTurns", unfollowed := true, recurses := true, named := ["invigilator/runes.leads"], apart := false, laid := [("invigilator/runes.leads", laid_invigilator_runes_leads)], narrowed := true }
def ExtendTurnsUptoSaid : Prop := extendTurnsUptoRow.holds Tryd.pinned (OpenSpec.upto extendTurnsSpec)

/-- 'invigilatorlaw10.ExtendParts', WHERE WHAT IT READS IS OF BULK AT MOST 1048576: true; the input reads as it did. -/
def extendPartsUptoRow : OpenClaim := { program := "ytokmdgiialcokaadoor", sum := "0528e178129fd2e9a3f9807721b54ae8d8010815c6453c450b4bb59783f49d4b", func := "invigilator/invigilatorlaw10.ExtendParts", spec := "extendParts", unfollowed := true, recurses := true, named := ["invigilator/runes.leads"], apart := false, laid := [("invigilator/runes.leads", laid_invigilator_runes_leads)], narrowed := true }
def ExtendPartsUptoSaid : Prop := extendPartsUptoRow.holds Tryd.pinned (OpenSpec.upto extendPartsSpec)

/-- 'invigilatorlaw11.FoldsSums', WHERE WHAT IT READS IS OF BULK AT MOST 1048576: true; the input reads as it did. -/
def foldsSumsUptoRow : OpenClaim := { program := "ytokmdgiialcokaadoor", sum := "0528e178129fd2e9a3f9807721b54ae8d8010815c6453c450b4bb59783f49d4b", func := "invigilator/invigilatorlaw11.FoldsSums", spec := "foldsSums", unfollowed := true, recurses := true, named := ["invigilator/runes.leads"], apart := false, laid := [("invigilator/runes.leads", laid_invigilator_runes_leads)], narrowed := true }
def FoldsSumsUptoSaid : Prop := foldsSumsUptoRow.holds Tryd.pinned (OpenSpec.upto foldsSumsSpec)

/-- 'invigilatorlaw11.FoldsEnds', WHERE WHAT IT READS IS OF BULK AT MOST 1048576: true; the input reads as it did. -/
def foldsEndsUptoRow : OpenClaim := { program := "ytokmdgiialcokaadoor", sum := "0528e178129fd2e9a3f9807721b54ae8d8010815c6453c450b4bb59783f49d4b", func := "invigilator/invigilatorlaw11.FoldsEnds", spec := "foldsEnds", unfollowed := true, recurses := true, named := ["invigilator/runes.leads"], apart := false, laid := [("invigilator/runes.leads", laid_invigilator_runes_leads)], narrowed := true }
def FoldsEndsUptoSaid : Prop := foldsEndsUptoRow.holds Tryd.pinned (OpenSpec.upto foldsEndsSpec)

/-- 'invigilatorlaw11.FoldsScans', WHERE WHAT IT READS IS OF BULK AT MOST 1048576: true; the input reads as it did. -/
def foldsScansUptoRow : OpenClaim := { program := "ytokmdgiialcokaadoor", sum := "0528e178129fd2e9a3f9807721b54ae8d8010815c6453c450b4bb59783f49d4b", func := "invigilator/invigilatorlaw11.FoldsScans", spec := "foldsScans", unfollowed := true, recurses := true, named := ["invigilator/runes.leads"], apart := false, laid := [("invigilator/runes.leads", laid_invigilator_runes_leads)], narrowed := true }
def FoldsScansUptoSaid : Prop := foldsScansUptoRow.holds Tryd.pinned (OpenSpec.upto foldsScansSpec)

/-- 'invigilatorlaw11.FoldsBounds', WHERE WHAT IT READS IS OF BULK AT MOST 1048576: true; the input reads as it did. -/
def foldsBoundsUptoRow : OpenClaim := { program := "ytokmdgiialcokaadoor", sum := "0528e178129fd2e9a3f9807721b54ae8d8010815c6453c450b4bb59783f49d4b", func := "invigilator/invigilatorlaw11.FoldsBounds", spec := "foldsBounds", unfollowed := true, recurses := true, named := ["invigilator/runes.leads"], apart := false, laid := [("invigilator/runes.leads", laid_invigilator_runes_leads)], narrowed := true }
def FoldsBoundsUptoSaid : Prop := foldsBoundsUptoRow.holds Tryd.pinned (OpenSpec.upto foldsBoundsSpec)

/-- 'invigilatorlaw11.FoldsParts', WHERE WHAT IT READS IS OF BULK AT MOST 1048576: true; the input reads as it did. -/
def foldsPartsUptoRow : OpenClaim := { program := "ytokmdgiialcokaadoor", sum := "0528e178129fd2e9a3f9807721b54ae8d8010815c6453c450b4bb59783f49d4b", func := "invigilator/invigilatorlaw11.FoldsParts", spec := "foldsParts", unfollowed := true, recurses := true, named := ["invigilator/runes.leads"], apart := false, laid := [("invigilator/runes.leads", laid_invigilator_runes_leads)], narrowed := true }
def FoldsPartsUptoSaid : Prop := foldsPartsUptoRow.holds Tryd.pinned (OpenSpec.upto foldsPartsSpec)

/-- 'invigilatorlaw11.FoldsRows', WHERE WHAT IT READS IS OF BULK AT MOST 1048576: true; the input reads as it did. -/
def foldsRowsUptoRow : OpenClaim := { program := "ytokmdgiialcokaadoor", sum := "0528e178129fd2e9a3f9807721b54ae8d8010815c6453c450b4bb59783f49d4b", func := "invigilator/invigilatorlaw11.FoldsRows", spec := "foldsRows", unfollowed := true, recurses := true, named := ["invigilator/runes.leads"], apart := false, laid := [("invigilator/runes.leads", laid_invigilator_runes_leads)], narrowed := true }
def FoldsRowsUptoSaid : Prop := foldsRowsUptoRow.holds Tryd.pinned (OpenSpec.upto foldsRowsSpec)

/-- 'invigilatorlaw11.FoldsChains', WHERE WHAT IT READS IS OF BULK AT MOST 1048576: true; the input reads as it did. -/
def foldsChainsUptoRow : OpenClaim := { program := "ytokmdgiialcokaadoor", sum := "0528e178129fd2e9a3f9807721b54ae8d8010815c6453c450b4bb59783f49d4b", func := "invigilator/invigilatorlaw11.FoldsChains", spec := "foldsChains", unfollowed := true, recurses := true, named := ["invigilator/runes.leads"], apart := false, laid := [("invigilator/runes.leads", laid_invigilator_runes_leads)], narrowed := true }
def FoldsChainsUptoSaid : Prop := foldsChainsUptoRow.holds Tryd.pinned (OpenSpec.upto foldsChainsSpec)

/-- 'invigilatorlaw11.FoldsFlat', WHERE WHAT IT READS IS OF BULK AT MOST 1048576: true; the input reads as it did. -/
def foldsFlatUptoRow : OpenClaim := { program := "ytokmdgiialcokaadoor", sum := "0528e178129fd2e9a3f9807721b54ae8d8010815c6453c450b4bb59783f49d4b", func := "invigilator/invigilatorlaw11.FoldsFlat", spec := "foldsFlat", unfollowed := true, recurses := true, named := ["invigilator/runes.leads"], apart := false, laid := [("invigilator/runes.leads", laid_invigilator_runes_leads)], narrowed := true }
def FoldsFlatUptoSaid : Prop := foldsFlatUptoRow.holds Tryd.pinned (OpenSpec.upto foldsFlatSpec)

end Rows
end Go.Proofs.YtokmdgiialcokaaDoor
