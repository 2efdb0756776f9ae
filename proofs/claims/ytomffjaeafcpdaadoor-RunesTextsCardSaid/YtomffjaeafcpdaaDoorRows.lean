/-
  NARROWER THAN 'FOR EVERY INPUT', by the rows' own cells (each row's printed sentence says how): RunesDecodes: laid · RunesTexts: laid · RunesStarts: laid.
  DERIVED. THE GIVEN ROWS OF THIS SEAT. 3 by the template 'for every input the law returns true; each argument reads behind the call as it read before'; 0 by the template 'total and deterministic' (their statements: YtomffjaeafcpdaaDoorTotals.lean).
  GIVEN WITH THE SEED: the statements are not yours to turn. If you find one false, say at which input.
  Laid BY PROGRAM, IN A SANDBOX (cutbox-rows.mjs): the forced cells as the released guide's own fill.sh prints them over the translation c40c92a2565be35d… (all of the seat's roots in one cut). By AI agents, Wed Nov 11 2026. No macro, syntax, notation, axiom, sorry.
-/
import Derived.Test.YtomffjaeafcpdaaDoorChecked
import GoSem.PinnedTables
import GoSem.Claim
import GoSem.ClaimJoined
import GoSem.ClaimMapViews
import Derived.JoinedTies
import Derived.KernelRfl
namespace Go.Proofs.YtomffjaeafcpdaaDoor
/- THE CELL 'sum', in the pinned program and in every row, IS THE sha256 OF THE DUMP (.gsa) THAT YtomffjaeafcpdaaDoorProg.lean LOADS. Nothing in Lean hashes anything: it is a label: what it is worth is what the hold of that sum in a sandbox is worth. -/
noncomputable def Tryd.pinned : Pinned := { name := "ytomffjaeafcpdaadoor", sum := "c40c92a2565be35dab61ab6e7a00ab677cde6594ccf9b978f48f967bbf858b93", checked := Tryd.checked }
namespace Rows
def none {H : Type} : Left H := { results := [], args := [] }

/- WHAT THE LISTED PACKAGE-LEVEL VARIABLES READ AS WHEN THE CALL BEGINS. Each datum BY PROGRAM (the guide's laid-datum.mjs) off the statement by which the dump's own 'gosem.cut.vars' lays the variable. In a bare row this is a premise. The card (YtomffjaeafcpdaaDoorCards.lean) ties it to the program's text. -/
def laid_unicode_utf8_acceptRanges {H : Type} : DataW H := .agg [.agg [.lit (.int .u8 128), .lit (.int .u8 191)], .agg [.lit (.int .u8 160), .lit (.int .u8 191)], .agg [.lit (.int .u8 128), .lit (.int .u8 159)], .agg [.lit (.int .u8 144), .lit (.int .u8 191)], .agg [.lit (.int .u8 128), .lit (.int .u8 143)], .agg [.lit (.int .u8 0), .lit (.int .u8 0)], .agg [.lit (.int .u8 0), .lit (.int .u8 0)], .agg [.lit (.int .u8 0), .lit (.int .u8 0)], .agg [.lit (.int .u8 0), .lit (.int .u8 0)], .agg [.lit (.int .u8 0), .lit (.int .u8 0)], .agg [.lit (.int .u8 0), .lit (.int .u8 0)], .agg [.lit (.int .u8 0), .lit (.int .u8 0)], .agg [.lit (.int .u8 0), .lit (.int .u8 0)], .agg [.lit (.int .u8 0), .lit (.int .u8 0)], .agg [.lit (.int .u8 0), .lit (.int .u8 0)], .agg [.lit (.int .u8 0), .lit (.int .u8 0)]]
def laid_invigilator_runes_members {H : Type} : DataW H := .agg [.lit (.string []), .lit (.string [32]), .lit (.string [10]), .lit (.string [40, 91]), .lit (.string [41, 93]), .lit (.string [34]), .lit (.string [48, 49, 50, 51, 52, 53, 54, 55, 56, 57]), .lit (.string [45]), .lit (.string [97, 98, 99, 100, 101, 102, 103, 104, 105, 106, 107, 108, 109, 110, 111, 112, 113, 114, 115, 116, 117, 118, 119, 120, 121, 122]), .lit (.string [60, 61])]
def laid_invigilator_runes_leads {H : Type} : DataW H := .agg [.lit (.int .u8 0), .lit (.int .u8 0), .lit (.int .u8 192), .lit (.int .u8 224), .lit (.int .u8 240)]
/-- One of Go's own tables, pinned by name: the form's constant. -/
def laid_unicode_utf8_first : DataW Unit := Go.Pinned.utf8First

/-- 'invigilatorlaw02.RunesDecodes': WHATEVER THE INPUT: true; the input reads as it did. -/
def runesDecodesSpec : ChangeSpec := { name := "runesDecodes", fn := fun _ => fun
  | [d1, d2, d3] => { results := [.lit (.bool true)], args := [d1, d2, d3] }
  | _ => none }
def runesDecodesRow : OpenClaim := { program := "ytomffjaeafcpdaadoor", sum := "c40c92a2565be35dab61ab6e7a00ab677cde6594ccf9b978f48f967bbf858b93", func := "invigilator/invigilatorlaw02.RunesDecodes", spec := "runesDecodes", inPlace := ["internal/bytealg.IndexByteString", "internal/bytealg.IndexString"], unfollowed := true, recurses := true, named := ["invigilator/runes.leads", "unicode/utf8.first", "unicode/utf8.acceptRanges", "invigilator/runes.members", "internal/bytealg.MaxLen"], apart := false, laid := [("unicode/utf8.acceptRanges", laid_unicode_utf8_acceptRanges), ("invigilator/runes.members", laid_invigilator_runes_members), ("invigilator/runes.leads", laid_invigilator_runes_leads), ("unicode/utf8.first", laid_unicode_utf8_first)] }
def RunesDecodesSaid : Prop := runesDecodesRow.holds Tryd.pinned (OpenSpec.ofChange runesDecodesSpec)

/-- ITS FALSE NEIGHBOUR: 'it returns false'. Refute it at one input. -/
def runesDecodesWrong : ChangeSpec := { name := "runesDecodes", fn := fun _ => fun
  | [d1, d2, d3] => { results := [.lit (.bool false)], args := [d1, d2, d3] }
  | _ => none }
def RunesDecodesWrongFalsely : Prop := runesDecodesRow.holds Tryd.pinned (OpenSpec.ofChange runesDecodesWrong)

/-- 'invigilatorlaw02.RunesTexts': WHATEVER THE INPUT: true; the input reads as it did. -/
def runesTextsSpec : ChangeSpec := { name := "runesTexts", fn := fun _ => fun
  | [d1, d2] => { results := [.lit (.bool true)], args := [d1, d2] }
  | _ => none }
def runesTextsRow : OpenClaim := { program := "ytomffjaeafcpdaadoor", sum := "c40c92a2565be35dab61ab6e7a00ab677cde6594ccf9b978f48f967bbf858b93", func := "invigilator/invigilatorlaw02.RunesTexts", spec := "runesTexts", inPlace := ["internal/bytealg.IndexByteString", "internal/bytealg.IndexString"], unfollowed := true, recurses := true, named := ["invigilator/runes.leads", "unicode/utf8.first", "unicode/utf8.acceptRanges", "invigilator/runes.members", "internal/bytealg.MaxLen"], apart := false, laid := [("unicode/utf8.acceptRanges", laid_unicode_utf8_acceptRanges), ("invigilator/runes.members", laid_invigilator_runes_members), ("invigilator/runes.leads", laid_invigilator_runes_leads), ("unicode/utf8.first", laid_unicode_utf8_first)] }
def RunesTextsSaid : Prop := runesTextsRow.holds Tryd.pinned (OpenSpec.ofChange runesTextsSpec)

/-- ITS FALSE NEIGHBOUR: 'it returns false'. Refute it at one input. -/
def runesTextsWrong : ChangeSpec := { name := "runesTexts", fn := fun _ => fun
  | [d1, d2] => { results := [.lit (.bool false)], args := [d1, d2] }
  | _ => none }
def RunesTextsWrongFalsely : Prop := runesTextsRow.holds Tryd.pinned (OpenSpec.ofChange runesTextsWrong)

/-- 'invigilatorlaw02.RunesStarts': WHATEVER THE INPUT: true; the input reads as it did. -/
def runesStartsSpec : ChangeSpec := { name := "runesStarts", fn := fun _ => fun
  | [d1, d2] => { results := [.lit (.bool true)], args := [d1, d2] }
  | _ => none }
def runesStartsRow : OpenClaim := { program := "ytomffjaeafcpdaadoor", sum := "c40c92a2565be35dab61ab6e7a00ab677cde6594ccf9b978f48f967bbf858b93", func := "invigilator/invigilatorlaw02.RunesStarts", spec := "runesStarts", inPlace := ["internal/bytealg.IndexByteString", "internal/bytealg.IndexString"], unfollowed := true, recurses := true, named := ["invigilator/runes.leads", "unicode/utf8.first", "unicode/utf8.acceptRanges", "invigilator/runes.members", "internal/bytealg.MaxLen"], apart := false, laid := [("unicode/utf8.acceptRanges", laid_unicode_utf8_acceptRanges), ("invigilator/runes.members", laid_invigilator_runes_members), ("invigilator/runes.leads", laid_invigilator_runes_leads), ("unicode/utf8.first", laid_unicode_utf8_first)] }
def RunesStartsSaid : Prop := runesStartsRow.holds Tryd.pinned (OpenSpec.ofChange runesStartsSpec)

/-- ITS FALSE NEIGHBOUR: 'it returns false'. Refute it at one input. -/
def runesStartsWrong : ChangeSpec := { name := "runesStarts", fn := fun _ => fun
  | [d1, d2] => { results := [.lit (.bool false)], args := [d1, d2] }
  | _ => none }
def RunesStartsWrongFalsely : Prop := runesStartsRow.holds Tryd.pinned (OpenSpec.ofChange runesStartsWrong)

/- THE SECOND FORM. 'bulk': how many values and letters a reading holds, each counted each time it is reached (what is shared counts as often as it is met; a slice's spare places count too). A statement '..UptoSaid' is the law's where the arguments, and the package variables that the reading takes, are together of bulk at most 1048576: NARROWER than '..Said'. Prove '..Said' where nothing that the law and all that it calls make is longer than what came in: it says more and counts as full. Else prove '..UptoSaid'. A law counts once. -/
mutual
def uptoBulk {H : Type} : DataW H → Nat
  | .lit (.string bytes) => bytes.length + 1
  | .lit _ => 1
  | .nil => 1
  | .ptr d => uptoBulk d + 1
  | .slice elems spare => uptoBulkAll elems + uptoBulkAll spare + 1
  | .agg parts => uptoBulkAll parts + 1
  | .iface _ d => uptoBulk d + 1
  | .map entries => uptoBulkEntries entries + 1
  | .held _ => 1
def uptoBulkAll {H : Type} : List (DataW H) → Nat
  | [] => 0
  | d :: r => uptoBulk d + uptoBulkAll r
def uptoBulkEntries {H : Type} : List (Lit × DataW H) → Nat
  | [] => 0
  | x :: r => uptoBulkEntry x + uptoBulkEntries r
def uptoBulkEntry {H : Type} : Lit × DataW H → Nat
  | (.string bytes, d) => bytes.length + uptoBulk d + 1
  | (_, d) => uptoBulk d + 1
 end
def uptoSmall : (H : Type) → List (DataW H) → Bool := fun _ ds => decide (uptoBulkAll ds ≤ 1048576)
def OpenSpec.upto (s : _root_.Go.ChangeSpec) : _root_.Go.OpenSpec := { _root_.Go.OpenSpec.ofChange s with cond := some uptoSmall }

/-- 'invigilatorlaw02.RunesDecodes', WHERE WHAT IT READS IS OF BULK AT MOST 1048576: true; the input reads as it did. -/
def runesDecodesUptoRow : OpenClaim := { program := "ytomffjaeafcpdaadoor", sum := "c40c92a2565be35dab61ab6e7a00ab677cde6594ccf9b978f48f967bbf858b93", func := "invigilator/invigilatorlaw02.RunesDecodes", spec := "runesDecodes", inPlace := ["internal/bytealg.IndexByteString", "internal/bytealg.IndexString"], unfollowed := true, recurses := true, named := ["invigilator/runes.leads", "unicode/utf8.first", "unicode/utf8.acceptRanges", "invigilator/runes.members", "internal/bytealg.MaxLen"], apart := false, laid := [("unicode/utf8.acceptRanges", laid_unicode_utf8_acceptRanges), ("invigilator/runes.members", laid_invigilator_runes_members), ("invigilator/runes.leads", laid_invigilator_runes_leads), ("unicode/utf8.first", laid_unicode_utf8_first)], narrowed := true }
def RunesDecodesUptoSaid : Prop := runesDecodesUptoRow.holds Tryd.pinned (OpenSpec.upto runesDecodesSpec)

/-- 'invigilatorlaw02.RunesTexts', WHERE WHAT IT READS IS OF BULK AT MOST 1048576: true; the input reads as it did. -/
def runesTextsUptoRow : OpenClaim := { program := "ytomffjaeafcpdaadoor", sum := "c40c92a2565be35dab61ab6e7a00ab677cde6594ccf9b978f48f967bbf858b93", func := "invigilator/invigilatorlaw02.RunesTexts", spec := "runesTexts", inPlace := ["internal/bytealg.IndexByteString", "internal/bytealg.IndexString"], unfollowed := true, recurses := true, named := ["invigilator/runes.leads", "unicode/utf8.first", "unicode/utf8.acceptRanges", "invigilator/runes.members", "internal/bytealg.MaxLen"], apart := false, laid := [("unicode/utf8.acceptRanges", laid_unicode_utf8_acceptRanges), ("invigilator/runes.members", laid_invigilator_runes_members), ("invigilator/runes.leads", laid_invigilator_runes_leads), ("unicode/utf8.first", laid_unicode_utf8_first)], narrowed := true }
def RunesTextsUptoSaid : Prop := runesTextsUptoRow.holds Tryd.pinned (OpenSpec.upto runesTextsSpec)

/-- 'invigilatorlaw02.RunesStarts', WHERE WHAT IT READS IS OF BULK AT MOST 1048576: true; the input reads as it did. -/
def runesStartsUptoRow : OpenClaim := { program := "ytomffjaeafcpdaadoor", sum := "c40c92a2565be35dab61ab6e7a00ab677cde6594ccf9b978f48f967bbf858b93", func := "invigilator/invigilatorlaw02.RunesStarts", spec := "runesStarts", inPlace := ["internal/bytealg.IndexByteString", "internal/bytealg.IndexString"], unfollowed := true, recurses := true, named := ["invigilator/runes.leads", "unicode/utf8.first", "unicode/utf8.acceptRanges", "invigilator/runes.members", "internal/bytealg.MaxLen"], apart := false, laid := [("unicode/utf8.acceptRanges", laid_unicode_utf8_acceptRanges), ("invigilator/runes.members", laid_invigilator_runes_members), ("invigilator/runes.leads", laid_invigilator_runes_leads), ("unicode/utf8.first", laid_unicode_utf8_first)], narrowed := true }
def RunesStartsUptoSaid : Prop := runesStartsUptoRow.holds Tryd.pinned (OpenSpec.upto runesStartsSpec)

end Rows
end Go.Proofs.YtomffjaeafcpdaaDoor
