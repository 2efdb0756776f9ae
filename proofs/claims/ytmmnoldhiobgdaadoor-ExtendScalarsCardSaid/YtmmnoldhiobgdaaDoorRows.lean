/-
  NARROWER THAN 'FOR EVERY INPUT', by the rows' own cells (each row's printed sentence says how): ExtendOnes: laid · ExtendTwos: laid · ExtendCells: laid · ExtendScalars: laid · ExtendTurns: laid · ExtendParts: laid · ExtendFlips: laid · ExtendOwn: laid.
  DERIVED. THE GIVEN ROWS OF THIS SEAT. 8 by the template 'for every input the law returns true; each argument reads behind the call as it read before'; 0 by the template 'total and deterministic' (their statements: YtmmnoldhiobgdaaDoorTotals.lean).
  GIVEN WITH THE SEED: the statements are not yours to turn. If you find one false, say at which input.
  Laid BY PROGRAM, IN A SANDBOX (cutbox-rows.mjs): the forced cells as the released guide's own fill.sh prints them over the translation c37c426aedd75b2e… (all of the seat's roots in one cut). By AI agents, Wed Nov 11 2026. No macro, syntax, notation, axiom, sorry.
-/
import Derived.Test.YtmmnoldhiobgdaaDoorChecked
import GoSem.Claim
import GoSem.ClaimJoined
import GoSem.ClaimMapViews
import Derived.JoinedTies
import Derived.KernelRfl
namespace Go.Proofs.YtmmnoldhiobgdaaDoor
/- THE CELL 'sum', in the pinned program and in every row, IS THE sha256 OF THE DUMP (.gsa) THAT YtmmnoldhiobgdaaDoorProg.lean LOADS. Nothing in Lean hashes anything: it is a label: what it is worth is what the hold of that sum in a sandbox is worth. -/
noncomputable def Tryd.pinned : Pinned := { name := "ytmmnoldhiobgdaadoor", sum := "c37c426aedd75b2ec84ee0b1150cb57e3404e78e6b93139aef117d8565d92e28", checked := Tryd.checked }
namespace Rows
def none {H : Type} : Left H := { results := [], args := [] }

/- WHAT THE LISTED PACKAGE-LEVEL VARIABLES READ AS WHEN THE CALL BEGINS. Each datum BY PROGRAM (the guide's laid-datum.mjs) off the statement by which the dump's own 'gosem.cut.vars' lays the variable. In a bare row this is a premise. The card (YtmmnoldhiobgdaaDoorCards.lean) ties it to the program's text. -/
def laid_invigilator_runes_leads {H : Type} : DataW H := .agg [.lit (.int .u8 0), .lit (.int .u8 0), .lit (.int .u8 192), .lit (.int .u8 224), .lit (.int .u8 240)]

/-- 'invigilatorlaw10.ExtendOnes': WHATEVER THE INPUT: true; the input reads as it did. -/
def extendOnesSpec : ChangeSpec := { name := "extendOnes", fn := fun _ => fun
  | [d1, d2] => { results := [.lit (.bool true)], args := [d1, d2] }
  | _ => none }
def extendOnesRow : OpenClaim := { program := "ytmmnoldhiobgdaadoor", sum := "c37c426aedd75b2ec84ee0b1150cb57e3404e78e6b93139aef117d8565d92e28", func := "invigilator/invigilatorlaw10.ExtendOnes", spec := "extendOnes", unfollowed := true, recurses := true, named := ["invigilator/runes.leads"], apart := false, laid := [("invigilator/runes.leads", laid_invigilator_runes_leads)] }
def ExtendOnesSaid : Prop := extendOnesRow.holds Tryd.pinned (OpenSpec.ofChange extendOnesSpec)

/-- ITS FALSE NEIGHBOUR: 'it returns false'. Refute it at one input. -/
def extendOnesWrong : ChangeSpec := { name := "extendOnes", fn := fun _ => fun
  | [d1, d2] => { results := [.lit (.bool false)], args := [d1, d2] }
  | _ => none }
def ExtendOnesWrongFalsely : Prop := extendOnesRow.holds Tryd.pinned (OpenSpec.ofChange extendOnesWrong)

/-- 'invigilatorlaw10.ExtendTwos': WHATEVER THE INPUT: true; the input reads as it did. -/
def extendTwosSpec : ChangeSpec := { name := "extendTwos", fn := fun _ => fun
  | [d1, d2, d3] => { results := [.lit (.bool true)], args := [d1, d2, d3] }
  | _ => none }
def extendTwosRow : OpenClaim := { program := "ytmmnoldhiobgdaadoor", sum := "c37c426aedd75b2ec84ee0b1150cb57e3404e78e6b93139aef117d8565d92e28", func := "invigilator/invigilatorlaw10.ExtendTwos", spec := "extendTwos", unfollowed := true, recurses := true, named := ["invigilator/runes.leads"], apart := false, laid := [("invigilator/runes.leads", laid_invigilator_runes_leads)] }
def ExtendTwosSaid : Prop := extendTwosRow.holds Tryd.pinned (OpenSpec.ofChange extendTwosSpec)

/-- ITS FALSE NEIGHBOUR: 'it returns false'. Refute it at one input. -/
def extendTwosWrong : ChangeSpec := { name := "extendTwos", fn := fun _ => fun
  | [d1, d2, d3] => { results := [.lit (.bool false)], args := [d1, d2, d3] }
  | _ => none }
def ExtendTwosWrongFalsely : Prop := extendTwosRow.holds Tryd.pinned (OpenSpec.ofChange extendTwosWrong)

/-- 'invigilatorlaw10.ExtendCells': WHATEVER THE INPUT: true; the input reads as it did. -/
def extendCellsSpec : ChangeSpec := { name := "extendCells", fn := fun _ => fun
  | [d1, d2, d3] => { results := [.lit (.bool true)], args := [d1, d2, d3] }
  | _ => none }
def extendCellsRow : OpenClaim := { program := "ytmmnoldhiobgdaadoor", sum := "c37c426aedd75b2ec84ee0b1150cb57e3404e78e6b93139aef117d8565d92e28", func := "invigilator/invigilatorlaw10.ExtendCells", spec := "extendCells", unfollowed := true, recurses := true, named := ["invigilator/runes.leads"], apart := false, laid := [("invigilator/runes.leads", laid_invigilator_runes_leads)] }
def ExtendCellsSaid : Prop := extendCellsRow.holds Tryd.pinned (OpenSpec.ofChange extendCellsSpec)

/-- ITS FALSE NEIGHBOUR: 'it returns false'. Refute it at one input. -/
def extendCellsWrong : ChangeSpec := { name := "extendCells", fn := fun _ => fun
  | [d1, d2, d3] => { results := [.lit (.bool false)], args := [d1, d2, d3] }
  | _ => none }
def ExtendCellsWrongFalsely : Prop := extendCellsRow.holds Tryd.pinned (OpenSpec.ofChange extendCellsWrong)

/-- 'invigilatorlaw10.ExtendScalars': WHATEVER THE INPUT: true; the input reads as it did. -/
def extendScalarsSpec : ChangeSpec := { name := "extendScalars", fn := fun _ => fun
  | [d1, d2, d3] => { results := [.lit (.bool true)], args := [d1, d2, d3] }
  | _ => none }
def extendScalarsRow : OpenClaim := { program := "ytmmnoldhiobgdaadoor", sum := "c37c426aedd75b2ec84ee0b1150cb57e3404e78e6b93139aef117d8565d92e28", func := "invigilator/invigilatorlaw10.ExtendScalars", spec := "extendScalars", unfollowed := true, recurses := true, named := ["invigilator/runes.leads"], apart := false, laid := [("invigilator/runes.leads", laid_invigilator_runes_leads)] }
def ExtendScalarsSaid : Prop := extendScalarsRow.holds Tryd.pinned (OpenSpec.ofChange extendScalarsSpec)

/-- ITS FALSE NEIGHBOUR: 'it returns false'. Refute it at one input. -/
def extendScalarsWrong : ChangeSpec := { name := "extendScalars", fn := fun _ => fun
  | [d1, d2, d3] => { results := [.lit (.bool false)], args := [d1, d2, d3] }
  | _ => none }
def ExtendScalarsWrongFalsely : Prop := extendScalarsRow.holds Tryd.pinned (OpenSpec.ofChange extendScalarsWrong)

/-- 'invigilatorlaw10.ExtendTurns': WHATEVER THE INPUT: true; the input reads as it did. -/
def extendTurnsSpec : ChangeSpec := { name := "extendTurns", fn := fun _ => fun
  | [d1, d2, d3] => { results := [.lit (.bool true)], args := [d1, d2, d3] }
  | _ => none }
def extendTurnsRow : OpenClaim := { program := "ytmmnoldhiobgdaadoor", sum := "c37c426aedd75b2ec84ee0b1150cb57e3404e78e6b93139aef117d8565d92e28", func := "invigilator/invigilatorlaw10.ExtendTurns", spec := "extendTurns", unfollowed := true, recurses := true, named := ["invigilator/runes.leads"], apart := false, laid := [("invigilator/runes.leads", laid_invigilator_runes_leads)] }
def ExtendTurnsSaid : Prop := extendTurnsRow.holds Tryd.pinned (OpenSpec.ofChange extendTurnsSpec)

/-- ITS FALSE NEIGHBOUR: 'it returns false'. Refute it at one input. -/
def extendTurnsWrong : ChangeSpec := { name := "extendTurns", fn := fun _ => fun
  | [d1, d2, d3] => { results := [.lit (.bool false)], args := [d1, d2, d3] }
  | _ => none }
def ExtendTurnsWrongFalsely : Prop := extendTurnsRow.holds Tryd.pinned (OpenSpec.ofChange extendTurnsWrong)

/-- 'invigilatorlaw10.ExtendParts': WHATEVER THE INPUT: true; the input reads as it did. -/
def extendPartsSpec : ChangeSpec := { name := "extendParts", fn := fun _ => fun
  | [d1, d2, d3] => { results := [.lit (.bool true)], args := [d1, d2, d3] }
  | _ => none }
def extendPartsRow : OpenClaim := { program := "ytmmnoldhiobgdaadoor", sum := "c37c426aedd75b2ec84ee0b1150cb57e3404e78e6b93139aef117d8565d92e28", func := "invigilator/invigilatorlaw10.ExtendParts", spec := "extendParts", unfollowed := true, recurses := true, named := ["invigilator/runes.leads"], apart := false, laid := [("invigilator/runes.leads", laid_invigilator_runes_leads)] }
def ExtendPartsSaid : Prop := extendPartsRow.holds Tryd.pinned (OpenSpec.ofChange extendPartsSpec)

/-- ITS FALSE NEIGHBOUR: 'it returns false'. Refute it at one input. -/
def extendPartsWrong : ChangeSpec := { name := "extendParts", fn := fun _ => fun
  | [d1, d2, d3] => { results := [.lit (.bool false)], args := [d1, d2, d3] }
  | _ => none }
def ExtendPartsWrongFalsely : Prop := extendPartsRow.holds Tryd.pinned (OpenSpec.ofChange extendPartsWrong)

/-- 'invigilatorlaw10.ExtendFlips': WHATEVER THE INPUT: true; the input reads as it did. -/
def extendFlipsSpec : ChangeSpec := { name := "extendFlips", fn := fun _ => fun
  | [d1, d2, d3] => { results := [.lit (.bool true)], args := [d1, d2, d3] }
  | _ => none }
def extendFlipsRow : OpenClaim := { program := "ytmmnoldhiobgdaadoor", sum := "c37c426aedd75b2ec84ee0b1150cb57e3404e78e6b93139aef117d8565d92e28", func := "invigilator/invigilatorlaw10.ExtendFlips", spec := "extendFlips", unfollowed := true, recurses := true, named := ["invigilator/runes.leads"], apart := false, laid := [("invigilator/runes.leads", laid_invigilator_runes_leads)] }
def ExtendFlipsSaid : Prop := extendFlipsRow.holds Tryd.pinned (OpenSpec.ofChange extendFlipsSpec)

/-- ITS FALSE NEIGHBOUR: 'it returns false'. Refute it at one input. -/
def extendFlipsWrong : ChangeSpec := { name := "extendFlips", fn := fun _ => fun
  | [d1, d2, d3] => { results := [.lit (.bool false)], args := [d1, d2, d3] }
  | _ => none }
def ExtendFlipsWrongFalsely : Prop := extendFlipsRow.holds Tryd.pinned (OpenSpec.ofChange extendFlipsWrong)

/-- 'invigilatorlaw10.ExtendOwn': WHATEVER THE INPUT: true; the input reads as it did. -/
def extendOwnSpec : ChangeSpec := { name := "extendOwn", fn := fun _ => fun
  | [d1, d2] => { results := [.lit (.bool true)], args := [d1, d2] }
  | _ => none }
def extendOwnRow : OpenClaim := { program := "ytmmnoldhiobgdaadoor", sum := "c37c426aedd75b2ec84ee0b1150cb57e3404e78e6b93139aef117d8565d92e28", func := "invigilator/invigilatorlaw10.ExtendOwn", spec := "extendOwn", unfollowed := true, recurses := true, named := ["invigilator/runes.leads"], apart := false, laid := [("invigilator/runes.leads", laid_invigilator_runes_leads)] }
def ExtendOwnSaid : Prop := extendOwnRow.holds Tryd.pinned (OpenSpec.ofChange extendOwnSpec)

/-- ITS FALSE NEIGHBOUR: 'it returns false'. Refute it at one input. -/
def extendOwnWrong : ChangeSpec := { name := "extendOwn", fn := fun _ => fun
  | [d1, d2] => { results := [.lit (.bool false)], args := [d1, d2] }
  | _ => none }
def ExtendOwnWrongFalsely : Prop := extendOwnRow.holds Tryd.pinned (OpenSpec.ofChange extendOwnWrong)

/- THE SECOND FORM. 'bulk': how many values and letters a reading holds, each counted each time it is reached (what is shared counts as often as it is met; a slice's spare places count too). A statement '..UptoSaid' is the law's where the arguments, and the package variables that the reading takes, are together of bulk at most 1048576: NARROWER than '..Said'. Prove '..Said' where nothing that the law and all that it calls make is longer than what came in: it says more and counts as full. Else prove '..UptoSaid'. A law counts once. -/
mutual
def uptoBulk {H : Type} : DataW H → Nat
  | .lit (.string bytes) => bytes.length + 1
  | .lit _ => 1
  | .nil => 1
  | .ptr d => uptoBulk d + 1
  | .slice elems spare => uptoBulkAll elems + uptoBulkAll spare + 1
  | .agg parts => uptoBulkAll parts + 1
  | .iface _ d => uptoBulk d + 1
  | .map entries => uptoBulkEntries entries + 1
  | .held _ => 1
def uptoBulkAll {H : Type} : List (DataW H) → Nat
  | [] => 0
  | d :: r => uptoBulk d + uptoBulkAll r
def uptoBulkEntries {H : Type} : List (Lit × DataW H) → Nat
  | [] => 0
  | x :: r => uptoBulkEntry x + uptoBulkEntries r
def uptoBulkEntry {H : Type} : Lit × DataW H → Nat
  | (.string bytes, d) => bytes.length + uptoBulk d + 1
  | (_, d) => uptoBulk d + 1
 end
def uptoSmall : (H : Type) → List (DataW H) → Bool := fun _ ds => decide (uptoBulkAll ds ≤ 1048576)
def OpenSpec.upto (s : _root_.Go.ChangeSpec) : _root_.Go.OpenSpec := { _root_.Go.OpenSpec.ofChange s with cond := some uptoSmall }

/-- 'invigilatorlaw10.ExtendOnes', WHERE WHAT IT READS IS OF BULK AT MOST 1048576: true; the input reads as it did. -/
def extendOnesUptoRow : OpenClaim := { program := "ytmmnoldhiobgdaadoor", sum := "c37c426aedd75b2ec84ee0b1150cb57e3404e78e6b93139aef117d8565d92e28", func := "invigilator/invigilatorlaw10.ExtendOnes", spec := "extendOnes", unfollowed := true, recurses := true, named := ["invigilator/runes.leads"], apart := false, laid := [("invigilator/runes.leads", laid_invigilator_runes_leads)], narrowed := true }
def ExtendOnesUptoSaid : Prop := extendOnesUptoRow.holds Tryd.pinned (OpenSpec.upto extendOnesSpec)

/-- 'invigilatorlaw10.ExtendTwos', WHERE WHAT IT READS IS OF BULK AT MOST 1048576: true; the input reads as it did. -/
def extendTwosUptoRow : OpenClaim := { program := "ytmmnoldhiobgdaadoor", sum := "c37c426aedd75b2ec84ee0b1150cb57e3404e78e6b93139aef117d8565d92e28", func := "invigilator/invigilatorlaw10.ExtendTwos", spec := "extendTwos", unfollowed := true, recurses := true, named := ["invigilator/runes.leads"], apart := false, laid := [("invigilator/runes.leads", laid_invigilator_runes_leads)], narrowed := true }
def ExtendTwosUptoSaid : Prop := extendTwosUptoRow.holds Tryd.pinned (OpenSpec.upto extendTwosSpec)

/-- 'invigilatorlaw10.ExtendCells', WHERE WHAT IT READS IS OF BULK AT MOST 1048576: true; the input reads as it did. -/
def extendCellsUptoRow : OpenClaim := { program := "ytmmnoldhiobgdaadoor", sum := "c37c426aedd75b2ec84ee0b1150cb57e3404e78e6b93139aef117d8565d92e28", func := "invigilator/invigilatorlaw10.ExtendCells", spec := "extendCells", unfollowed := true, recurses := true, named := ["invigilator/runes.leads"], apart := false, laid := [("invigilator/runes.leads", laid_invigilator_runes_leads)], narrowed := true }
def ExtendCellsUptoSaid : Prop := extendCellsUptoRow.holds Tryd.pinned (OpenSpec.upto extendCellsSpec)

/-- 'invigilatorlaw10.ExtendScalars', WHERE WHAT IT READS IS OF BULK AT MOST 1048576: true; the input reads as it did. -/
def extendScalarsUptoRow : OpenClaim := { program := "ytmmnoldhiobgdaadoor", sum := "c37c426aedd75b2ec84ee0b1150cb57e3404e78e6b93139aef117d8565d92e28", func := "invigilator/invigilatorlaw10.ExtendScalars", spec := "extendScalars", unfollowed := true, recurses := true, named := ["invigilator/runes.leads"], apart := false, laid := [("invigilator/runes.leads", laid_invigilator_runes_leads)], narrowed := true }
def ExtendScalarsUptoSaid : Prop := extendScalarsUptoRow.holds Tryd.pinned (OpenSpec.upto extendScalarsSpec)

/-- 'invigilatorlaw10.ExtendTurns', WHERE WHAT IT READS IS OF BULK AT MOST 1048576: true; the input reads as it did. -/
def extendTurnsUptoRow : OpenClaim := { program := "ytmmnoldhiobgdaadoor", sum := "c37c426aedd75b2ec84ee0b1150cb57e3404e78e6b93139aef117d8565d92e28", func := "invigilator/invigilatorlaw10.ExtendTurns", spec := "extendTurns", unfollowed := true, recurses := true, named := ["invigilator/runes.leads"], apart := false, laid := [("invigilator/runes.leads", laid_invigilator_runes_leads)], narrowed := true }
def ExtendTurnsUptoSaid : Prop := extendTurnsUptoRow.holds Tryd.pinned (OpenSpec.upto extendTurnsSpec)

/-- 'invigilatorlaw10.ExtendParts', WHERE WHAT IT READS IS OF BULK AT MOST 1048576: true; the input reads as it did. -/
def extendPartsUptoRow : OpenClaim := { program := "ytmmnoldhiobgdaadoor", sum := "c37c426aedd75b2ec84ee0b1150cb57e3404e78e6b93139aef117d8565d92e28", func := "invigilator/invigilatorlaw10.ExtendParts", spec := "extendParts", unfollowed := true, recurses := true, named := ["invigilator/runes.leads"], apart := false, laid := [("invigilator/runes.leads", laid_invigilator_runes_leads)], narrowed := true }
def ExtendPartsUptoSaid : Prop := extendPartsUptoRow.holds Tryd.pinned (OpenSpec.upto extendPartsSpec)

/-- 'invigilatorlaw10.ExtendFlips', WHERE WHAT IT READS IS OF BULK AT MOST 1048576: true; the input reads as it did. -/
def extendFlipsUptoRow : OpenClaim := { program := "ytmmnoldhiobgdaadoor", sum := "c37c426aedd75b2ec84ee0b1150cb57e3404e78e6b93139aef117d8565d92e28", func := "invigilator/invigilatorlaw10.ExtendFlips", spec := "extendFlips", unfollowed := true, recurses := true, named := ["invigilator/runes.leads"], apart := false, laid := [("invigilator/runes.leads", laid_invigilator_runes_leads)], narrowed := true }
def ExtendFlipsUptoSaid : Prop := extendFlipsUptoRow.holds Tryd.pinned (OpenSpec.upto extendFlipsSpec)

/-- 'invigilatorlaw10.ExtendOwn', WHERE WHAT IT READS IS OF BULK AT MOST 1048576: true; the input reads as it did. -/
def extendOwnUptoRow : OpenClaim := { program := "ytmmnoldhiobgdaadoor", sum := "c37c426aedd75b2ec84ee0b1150cb57e3404e78e6b93139aef117d8565d92e28", func := "invigilator/invigilatorlaw10.ExtendOwn", spec := "extendOwn", unfollowed := true, recurses := true, named := ["invigilator/runes.leads"], apart := false, laid := [("invigilator/runes.leads", laid_invigilator_runes_leads)], narrowed := true }
def ExtendOwnUptoSaid : Prop := extendOwnUptoRow.holds Tryd.pinned (OpenSpec.upto extendOwnSpec)

end Rows
end Go.Proofs.YtmmnoldhiobgdaaDoor
