/-
  NARROWER THAN 'FOR EVERY INPUT', by the rows' own cells (each row's printed sentence says how): RunesDecodes: laid · RunesTexts: laid · RunesStarts: laid · RunesBack: laid · RunesOrder: laid · RunesClasses: laid · RunesJoins: laid · RunesKnown: laid.
  DERIVED. THE GIVEN ROWS OF THIS SEAT. 8 by the template 'for every input the law returns true; each argument reads behind the call as it read before'; 0 by the template 'total and deterministic' (their statements: YtfceggpegjjhiaaDoorTotals.lean).
  GIVEN WITH THE SEED: the statements are not yours to turn. If you find one false, say at which input.
  Laid BY PROGRAM, IN A SANDBOX (cutbox-rows.mjs): the forced cells as the released guide's own fill.sh prints them over the translation e38f54c4ca70136b… (all of the seat's roots in one cut). By AI agents, Wed Nov 11 2026. No macro, syntax, notation, axiom, sorry.
-/
import Derived.Test.YtfceggpegjjhiaaDoorChecked
import GoSem.PinnedTables
import GoSem.Claim
import GoSem.ClaimJoined
import GoSem.ClaimMapViews
import Derived.JoinedTies
import Derived.KernelRfl
namespace Go.Proofs.YtfceggpegjjhiaaDoor
/- THE CELL 'sum', in the pinned program and in every row, IS THE sha256 OF THE DUMP (.gsa) THAT YtfceggpegjjhiaaDoorProg.lean LOADS. Nothing in Lean hashes anything: it is a label: what it is worth is what the hold of that sum in a sandbox is worth. -/
noncomputable def Tryd.pinned : Pinned := { name := "ytfceggpegjjhiaadoor", sum := "e38f54c4ca70136bc7458015de100c90eb9d500afd99c64048f06334d2a06898", checked := Tryd.checked }
namespace Rows
def none {H : Type} : Left H := { results := [], args := [] }

/- WHAT THE LISTED PACKAGE-LEVEL VARIABLES READ AS WHEN THE CALL BEGINS. Each datum BY PROGRAM (the guide's laid-datum.mjs) off the statement by which the dump's own 'gosem.cut.vars' lays the variable. In a bare row this is a premise. The card (YtfceggpegjjhiaaDoorCards.lean) ties it to the program's text. -/
def laid_unicode_utf8_acceptRanges {H : Type} : DataW H := .agg [.agg [.lit (.int .u8 128), .lit (.int .u8 191)], .agg [.lit (.int .u8 160), .lit (.int .u8 191)], .agg [.lit (.int .u8 128), .lit (.int .u8 159)], .agg [.lit (.int .u8 144), .lit (.int .u8 191)], .agg [.lit (.int .u8 128), .lit (.int .u8 143)], .agg [.lit (.int .u8 0), .lit (.int .u8 0)], .agg [.lit (.int .u8 0), .lit (.int .u8 0)], .agg [.lit (.int .u8 0), .lit (.int .u8 0)], .agg [.lit (.int .u8 0), .lit (.int .u8 0)], .agg [.lit (.int .u8 0), .lit (.int .u8 0)], .agg [.lit (.int .u8 0), .lit (.int .u8 0)], .agg [.lit (.int .u8 0), .lit (.int .u8 0)], .agg [.lit (.int .u8 0), .lit (.int .u8 0)], .agg [.lit (.int .u8 0), .lit (.int .u8 0)], .agg [.lit (.int .u8 0), .lit (.int .u8 0)], .agg [.lit (.int .u8 0), .lit (.int .u8 0)]]
def laid_invigilator_runes_members {H : Type} : DataW H := .agg [.lit (.string []), .lit (.string [32]), .lit (.string [10]), .lit (.string [40, 91]), .lit (.string [41, 93]), .lit (.string [34]), .lit (.string [48, 49, 50, 51, 52, 53, 54, 55, 56, 57]), .lit (.string [45]), .lit (.string [97, 98, 99, 100, 101, 102, 103, 104, 105, 106, 107, 108, 109, 110, 111, 112, 113, 114, 115, 116, 117, 118, 119, 120, 121, 122]), .lit (.string [60, 61])]
def laid_invigilator_runes_leads {H : Type} : DataW H := .agg [.lit (.int .u8 0), .lit (.int .u8 0), .lit (.int .u8 192), .lit (.int .u8 224), .lit (.int .u8 240)]
/-- One of Go's own tables, pinned by name: the form's constant. -/
def laid_unicode_utf8_first : DataW Unit := Go.Pinned.utf8First

/-- 'invigilatorlaw02.RunesDecodes': WHATEVER THE INPUT: true; the input reads as it did. -/
def runesDecodesSpec : ChangeSpec := { name := "runesDecodes", fn := fun _ => fun
  | [d1, d2, d3] => { results := [.lit (.bool true)], args := [d1, d2, d3] }
  | _ => none }
def runesDecodesRow : OpenClaim := { program := "ytfceggpegjjhiaadoor", sum := "e38f54c4ca70136bc7458015de100c90eb9d500afd99c64048f06334d2a06898", func := "invigilator/invigilatorlaw02.RunesDecodes", spec := "runesDecodes", inPlace := ["internal/bytealg.IndexByteString", "internal/bytealg.IndexString"], unfollowed := true, recurses := true, named := ["invigilator/runes.leads", "unicode/utf8.first", "unicode/utf8.acceptRanges", "invigilator/runes.members", "internal/bytealg.MaxLen"], apart := false, laid := [("unicode/utf8.acceptRanges", laid_unicode_utf8_acceptRanges), ("invigilator/runes.members", laid_invigilator_runes_members), ("invigilator/runes.leads", laid_invigilator_runes_leads), ("unicode/utf8.first", laid_unicode_utf8_first)] }
def RunesDecodesSaid : Prop := runesDecodesRow.holds Tryd.pinned (OpenSpec.ofChange runesDecodesSpec)

/-- ITS FALSE NEIGHBOUR: 'it returns false'. Refute it at one input. -/
def runesDecodesWrong : ChangeSpec := { name := "runesDecodes", fn := fun _ => fun
  | [d1, d2, d3] => { results := [.lit (.bool false)], args := [d1, d2, d3] }
  | _ => none }
def RunesDecodesWrongFalsely : Prop := runesDecodesRow.holds Tryd.pinned (OpenSpec.ofChange runesDecodesWrong)

/-- 'invigilatorlaw02.RunesTexts': WHATEVER THE INPUT: true; the input reads as it did. -/
def runesTextsSpec : ChangeSpec := { name := "runesTexts", fn := fun _ => fun
  | [d1, d2] => { results := [.lit (.bool true)], args := [d1, d2] }
  | _ => none }
def runesTextsRow : OpenClaim := { program := "ytfceggpegjjhiaadoor", sum := "e38f54c4ca70136bc7458015de100c90eb9d500afd99c64048f06334d2a06898", func := "invigilator/invigilatorlaw02.RunesTexts", spec := "runesTexts", inPlace := ["internal/bytealg.IndexByteString", "internal/bytealg.IndexString"], unfollowed := true, recurses := true, named := ["invigilator/runes.leads", "unicode/utf8.first", "unicode/utf8.acceptRanges", "invigilator/runes.members", "internal/bytealg.MaxLen"], apart := false, laid := [("unicode/utf8.acceptRanges", laid_unicode_utf8_acceptRanges), ("invigilator/runes.members", laid_invigilator_runes_members), ("invigilator/runes.leads", laid_invigilator_runes_leads), ("unicode/utf8.first", laid_unicode_utf8_first)] }
def RunesTextsSaid : Prop := runesTextsRow.holds Tryd.pinned (OpenSpec.ofChange runesTextsSpec)

/-- ITS FALSE NEIGHBOUR: 'it returns false'. Refute it at one input. -/
def runesTextsWrong : ChangeSpec := { name := "runesTexts", fn := fun _ => fun
  | [d1, d2] => { results := [.lit (.bool false)], args := [d1, d2] }
  | _ => none }
def RunesTextsWrongFalsely : Prop := runesTextsRow.holds Tryd.pinned (OpenSpec.ofChange runesTextsWrong)

/-- 'invigilatorlaw02.RunesStarts': WHATEVER THE INPUT: true; the input reads as it did. -/
def runesStartsSpec : ChangeSpec := { name := "runesStarts", fn := fun _ => fun
  | [d1, d2] => { results := [.lit (.bool true)], args := [d1, d2] }
  | _ => none }
def runesStartsRow : OpenClaim := { program := "ytfceggpegjjhiaadoor", sum := "e38f54c4ca70136bc7458015de100c90eb9d500afd99c64048f06334d2a06898", func := "invigilator/invigilatorlaw02.RunesStarts", spec := "runesStarts", inPlace := ["internal/bytealg.IndexByteString", "internal/bytealg.IndexString"], unfollowed := true, recurses := true, named := ["invigilator/runes.leads", "unicode/utf8.first", "unicode/utf8.acceptRanges", "invigilator/runes.members", "internal/bytealg.MaxLen"], apart := false, laid := [("unicode/utf8.acceptRanges", laid_unicode_utf8_acceptRanges), ("invigilator/runes.members", laid_invigilator_runes_members), ("invigilator/runes.leads", laid_invigilator_runes_leads), ("unicode/utf8.first", laid_unicode_utf8_first)] }
def RunesStartsSaid : Prop := runesStartsRow.holds Tryd.pinned (OpenSpec.ofChange runesStartsSpec)

/-- ITS FALSE NEIGHBOUR: 'it returns false'. Refute it at one input. -/
def runesStartsWrong : ChangeSpec := { name := "runesStarts", fn := fun _ => fun
  | [d1, d2] => { results := [.lit (.bool false)], args := [d1, d2] }
  | _ => none }
def RunesStartsWrongFalsely : Prop := runesStartsRow.holds Tryd.pinned (OpenSpec.ofChange runesStartsWrong)

/-- 'invigilatorlaw02.RunesBack': WHATEVER THE INPUT: true; the input reads as it did. -/
def runesBackSpec : ChangeSpec := { name := "runesBack", fn := fun _ => fun
  | [d1, d2, d3] => { results := [.lit (.bool true)], args := [d1, d2, d3] }
  | _ => none }
def runesBackRow : OpenClaim := { program := "ytfceggpegjjhiaadoor", sum := "e38f54c4ca70136bc7458015de100c90eb9d500afd99c64048f06334d2a06898", func := "invigilator/invigilatorlaw02.RunesBack", spec := "runesBack", inPlace := ["internal/bytealg.IndexByteString", "internal/bytealg.IndexString"], unfollowed := true, recurses := true, named := ["invigilator/runes.leads", "unicode/utf8.first", "unicode/utf8.acceptRanges", "invigilator/runes.members", "internal/bytealg.MaxLen"], apart := false, laid := [("unicode/utf8.acceptRanges", laid_unicode_utf8_acceptRanges), ("invigilator/runes.members", laid_invigilator_runes_members), ("invigilator/runes.leads", laid_invigilator_runes_leads), ("unicode/utf8.first", laid_unicode_utf8_first)] }
def RunesBackSaid : Prop := runesBackRow.holds Tryd.pinned (OpenSpec.ofChange runesBackSpec)

/-- ITS FALSE NEIGHBOUR: 'it returns false'. Refute it at one input. -/
def runesBackWrong : ChangeSpec := { name := "runesBack", fn := fun _ => fun
  | [d1, d2, d3] => { results := [.lit (.bool false)], args := [d1, d2, d3] }
  | _ => none }
def RunesBackWrongFalsely : Prop := runesBackRow.holds Tryd.pinned (OpenSpec.ofChange runesBackWrong)

/-- 'invigilatorlaw02.RunesOrder': WHATEVER THE INPUT: true; the input reads as it did. -/
def runesOrderSpec : ChangeSpec := { name := "runesOrder", fn := fun _ => fun
  | [d1, d2, d3] => { results := [.lit (.bool true)], args := [d1, d2, d3] }
  | _ => none }
def runesOrderRow : OpenClaim := { program := "ytfceggpegjjhiaadoor", sum := "e38f54c4ca70136bc7458015de100c90eb9d500afd99c64048f06334d2a06898", func := "invigilator/invigilatorlaw02.RunesOrder", spec := "runesOrder", inPlace := ["internal/bytealg.IndexByteString", "internal/bytealg.IndexString"], unfollowed := true, recurses := true, named := ["invigilator/runes.leads", "unicode/utf8.first", "unicode/utf8.acceptRanges", "invigilator/runes.members", "internal/bytealg.MaxLen"], apart := false, laid := [("unicode/utf8.acceptRanges", laid_unicode_utf8_acceptRanges), ("invigilator/runes.members", laid_invigilator_runes_members), ("invigilator/runes.leads", laid_invigilator_runes_leads), ("unicode/utf8.first", laid_unicode_utf8_first)] }
def RunesOrderSaid : Prop := runesOrderRow.holds Tryd.pinned (OpenSpec.ofChange runesOrderSpec)

/-- ITS FALSE NEIGHBOUR: 'it returns false'. Refute it at one input. -/
def runesOrderWrong : ChangeSpec := { name := "runesOrder", fn := fun _ => fun
  | [d1, d2, d3] => { results := [.lit (.bool false)], args := [d1, d2, d3] }
  | _ => none }
def RunesOrderWrongFalsely : Prop := runesOrderRow.holds Tryd.pinned (OpenSpec.ofChange runesOrderWrong)

/-- 'invigilatorlaw02.RunesClasses': WHATEVER THE INPUT: true; the input reads as it did. -/
def runesClassesSpec : ChangeSpec := { name := "runesClasses", fn := fun _ => fun
  | [d] => { results := [.lit (.bool true)], args := [d] }
  | _ => none }
def runesClassesRow : OpenClaim := { program := "ytfceggpegjjhiaadoor", sum := "e38f54c4ca70136bc7458015de100c90eb9d500afd99c64048f06334d2a06898", func := "invigilator/invigilatorlaw02.RunesClasses", spec := "runesClasses", inPlace := ["internal/bytealg.IndexByteString", "internal/bytealg.IndexString"], unfollowed := true, recurses := true, named := ["invigilator/runes.members", "invigilator/runes.leads", "unicode/utf8.first", "unicode/utf8.acceptRanges", "internal/bytealg.MaxLen"], apart := false, laid := [("unicode/utf8.acceptRanges", laid_unicode_utf8_acceptRanges), ("invigilator/runes.members", laid_invigilator_runes_members), ("invigilator/runes.leads", laid_invigilator_runes_leads), ("unicode/utf8.first", laid_unicode_utf8_first)] }
def RunesClassesSaid : Prop := runesClassesRow.holds Tryd.pinned (OpenSpec.ofChange runesClassesSpec)

/-- ITS FALSE NEIGHBOUR: 'it returns false'. Refute it at one input. -/
def runesClassesWrong : ChangeSpec := { name := "runesClasses", fn := fun _ => fun
  | [d] => { results := [.lit (.bool false)], args := [d] }
  | _ => none }
def RunesClassesWrongFalsely : Prop := runesClassesRow.holds Tryd.pinned (OpenSpec.ofChange runesClassesWrong)

/-- 'invigilatorlaw02.RunesJoins': WHATEVER THE INPUT: true; the input reads as it did. -/
def runesJoinsSpec : ChangeSpec := { name := "runesJoins", fn := fun _ => fun
  | [d1, d2] => { results := [.lit (.bool true)], args := [d1, d2] }
  | _ => none }
def runesJoinsRow : OpenClaim := { program := "ytfceggpegjjhiaadoor", sum := "e38f54c4ca70136bc7458015de100c90eb9d500afd99c64048f06334d2a06898", func := "invigilator/invigilatorlaw02.RunesJoins", spec := "runesJoins", inPlace := ["internal/bytealg.IndexByteString", "internal/bytealg.IndexString"], unfollowed := true, recurses := true, named := ["invigilator/runes.leads", "unicode/utf8.first", "unicode/utf8.acceptRanges", "invigilator/runes.members", "internal/bytealg.MaxLen"], apart := false, laid := [("unicode/utf8.acceptRanges", laid_unicode_utf8_acceptRanges), ("invigilator/runes.members", laid_invigilator_runes_members), ("invigilator/runes.leads", laid_invigilator_runes_leads), ("unicode/utf8.first", laid_unicode_utf8_first)] }
def RunesJoinsSaid : Prop := runesJoinsRow.holds Tryd.pinned (OpenSpec.ofChange runesJoinsSpec)

/-- ITS FALSE NEIGHBOUR: 'it returns false'. Refute it at one input. -/
def runesJoinsWrong : ChangeSpec := { name := "runesJoins", fn := fun _ => fun
  | [d1, d2] => { results := [.lit (.bool false)], args := [d1, d2] }
  | _ => none }
def RunesJoinsWrongFalsely : Prop := runesJoinsRow.holds Tryd.pinned (OpenSpec.ofChange runesJoinsWrong)

/-- 'invigilatorlaw02.RunesKnown': WHATEVER THE INPUT: true; the input reads as it did. -/
def runesKnownSpec : ChangeSpec := { name := "runesKnown", fn := fun _ => fun
  | [] => { results := [.lit (.bool true)], args := [] }
  | _ => none }
def runesKnownRow : OpenClaim := { program := "ytfceggpegjjhiaadoor", sum := "e38f54c4ca70136bc7458015de100c90eb9d500afd99c64048f06334d2a06898", func := "invigilator/invigilatorlaw02.RunesKnown", spec := "runesKnown", inPlace := ["internal/bytealg.IndexByteString", "internal/bytealg.IndexString"], unfollowed := true, recurses := true, named := ["invigilator/runes.leads", "unicode/utf8.first", "unicode/utf8.acceptRanges", "invigilator/runes.members", "internal/bytealg.MaxLen"], apart := false, laid := [("unicode/utf8.acceptRanges", laid_unicode_utf8_acceptRanges), ("invigilator/runes.members", laid_invigilator_runes_members), ("invigilator/runes.leads", laid_invigilator_runes_leads), ("unicode/utf8.first", laid_unicode_utf8_first)] }
def RunesKnownSaid : Prop := runesKnownRow.holds Tryd.pinned (OpenSpec.ofChange runesKnownSpec)

/-- ITS FALSE NEIGHBOUR: 'it returns false'. Refute it at one input. -/
def runesKnownWrong : ChangeSpec := { name := "runesKnown", fn := fun _ => fun
  | [] => { results := [.lit (.bool false)], args := [] }
  | _ => none }
def RunesKnownWrongFalsely : Prop := runesKnownRow.holds Tryd.pinned (OpenSpec.ofChange runesKnownWrong)

/- THE SECOND FORM. 'bulk': how many values and letters a reading holds, each counted each time it is reached (what is shared counts as often as it is met; a slice's spare places count too). A statement '..UptoSaid' is the law's where the arguments, and the package variables that the reading takes, are together of bulk at most 1048576: NARROWER than '..Said'. Prove '..Said' where nothing that the law and all that it calls make is longer than what came in: it says more and counts as full. Else prove '..UptoSaid'. A law counts once. -/
mutual
def uptoBulk {H : Type} : DataW H → Nat
  | .lit (.string bytes) => bytes.length + 1
  | .lit _ => 1
  | .nil => 1
  | .ptr d => uptoBulk d + 1
  | .slice elems spare => uptoBulkAll elems + uptoBulkAll spare + 1
  | .agg parts => uptoBulkAll parts + 1
  | .iface _ d => uptoBulk d + 1
  | .map entries => uptoBulkEntries entries + 1
  | .held _ => 1
def uptoBulkAll {H : Type} : List (DataW H) → Nat
  | [] => 0
  | d :: r => uptoBulk d + uptoBulkAll r
def uptoBulkEntries {H : Type} : List (Lit × DataW H) → Nat
  | [] => 0
  | x :: r => uptoBulkEntry x + uptoBulkEntries r
def uptoBulkEntry {H : Type} : Lit × DataW H → Nat
  | (.string bytes, d) => bytes.length + uptoBulk d + 1
  | (_, d) => uptoBulk d + 1
 end
def uptoSmall : (H : Type) → List (DataW H) → Bool := fun _ ds => decide (uptoBulkAll ds ≤ 1048576)
def OpenSpec.upto (s : _root_.Go.ChangeSpec) : _root_.Go.OpenSpec := { _root_.Go.OpenSpec.ofChange s with cond := some uptoSmall }

/-- 'invigilatorlaw02.RunesDecodes', WHERE WHAT IT READS IS OF BULK AT MOST 1048576: true; the input reads as it did. -/
def runesDecodesUptoRow : OpenClaim := { program := "ytfceggpegjjhiaadoor", sum := "e38f54c4ca70136bc7458015de100c90eb9d500afd99c64048f06334d2a06898", func := "invigilator/invigilatorlaw02.RunesDecodes", spec := "runesDecodes", inPlace := ["internal/bytealg.IndexByteString", "internal/bytealg.IndexString"], unfollowed := true, recurses := true, named := ["invigilator/runes.leads", "unicode/utf8.first", "unicode/utf8.acceptRanges", "invigilator/runes.members", "internal/bytealg.MaxLen"], apart := false, laid := [("unicode/utf8.acceptRanges", laid_unicode_utf8_acceptRanges), ("invigilator/runes.members", laid_invigilator_runes_members), ("invigilator/runes.leads", laid_invigilator_runes_leads), ("unicode/utf8.first", laid_unicode_utf8_first)], narrowed := true }
def RunesDecodesUptoSaid : Prop := runesDecodesUptoRow.holds Tryd.pinned (OpenSpec.upto runesDecodesSpec)

/-- 'invigilatorlaw02.RunesTexts', WHERE WHAT IT READS IS OF BULK AT MOST 1048576: true; the input reads as it did. -/
def runesTextsUptoRow : OpenClaim := { program := "ytfceggpegjjhiaadoor", sum := "e38f54c4ca70136bc7458015de100c90eb9d500afd99c64048f06334d2a06898", func := "invigilator/invigilatorlaw02.RunesTexts", spec := "runesTexts", inPlace := ["internal/bytealg.IndexByteString", "internal/bytealg.IndexString"], unfollowed := true, recurses := true, named := ["invigilator/runes.leads", "unicode/utf8.first", "unicode/utf8.acceptRanges", "invigilator/runes.members", "internal/bytealg.MaxLen"], apart := false, laid := [("unicode/utf8.acceptRanges", laid_unicode_utf8_acceptRanges), ("invigilator/runes.members", laid_invigilator_runes_members), ("invigilator/runes.leads", laid_invigilator_runes_leads), ("unicode/utf8.first", laid_unicode_utf8_first)], narrowed := true }
def RunesTextsUptoSaid : Prop := runesTextsUptoRow.holds Tryd.pinned (OpenSpec.upto runesTextsSpec)

/-- 'invigilatorlaw02.RunesStarts', WHERE WHAT IT READS IS OF BULK AT MOST 1048576: true; the input reads as it did. -/
def runesStartsUptoRow : OpenClaim := { program := "ytfceggpegjjhiaadoor", sum := "e38f54c4ca70136bc7458015de100c90eb9d500afd99c64048f06334d2a06898", func := "invigilator/invigilatorlaw02.RunesStarts", spec := "runesStarts", inPlace := ["internal/bytealg.IndexByteString", "internal/bytealg.IndexString"], unfollowed := true, recurses := true, named := ["invigilator/runes.leads", "unicode/utf8.first", "unicode/utf8.acceptRanges", "invigilator/runes.members", "internal/bytealg.MaxLen"], apart := false, laid := [("unicode/utf8.acceptRanges", laid_unicode_utf8_acceptRanges), ("invigilator/runes.members", laid_invigilator_runes_members), ("invigilator/runes.leads", laid_invigilator_runes_leads), ("unicode/utf8.first", laid_unicode_utf8_first)], narrowed := true }
def RunesStartsUptoSaid : Prop := runesStartsUptoRow.holds Tryd.pinned (OpenSpec.upto runesStartsSpec)

/-- 'invigilatorlaw02.RunesBack', WHERE WHAT IT READS IS OF BULK AT MOST 1048576: true; the input reads as it did. -/
def runesBackUptoRow : OpenClaim := { program := "ytfceggpegjjhiaadoor", sum := "e38f54c4ca70136bc7458015de100c90eb9d500afd99c64048f06334d2a06898", func := "invigilator/invigilatorlaw02.RunesBack", spec := "runesBack", inPlace := ["internal/bytealg.IndexByteString", "internal/bytealg.IndexString"], unfollowed := true, recurses := true, named := ["invigilator/runes.leads", "unicode/utf8.first", "unicode/utf8.acceptRanges", "invigilator/runes.members", "internal/bytealg.MaxLen"], apart := false, laid := [("unicode/utf8.acceptRanges", laid_unicode_utf8_acceptRanges), ("invigilator/runes.members", laid_invigilator_runes_members), ("invigilator/runes.leads", laid_invigilator_runes_leads), ("unicode/utf8.first", laid_unicode_utf8_first)], narrowed := true }
def RunesBackUptoSaid : Prop := runesBackUptoRow.holds Tryd.pinned (OpenSpec.upto runesBackSpec)

/-- 'invigilatorlaw02.RunesOrder', WHERE WHAT IT READS IS OF BULK AT MOST 1048576: true; the input reads as it did. -/
def runesOrderUptoRow : OpenClaim := { program := "ytfceggpegjjhiaadoor", sum := "e38f54c4ca70136bc7458015de100c90eb9d500afd99c64048f06334d2a06898", func := "invigilator/invigilatorlaw02.RunesOrder", spec := "runesOrder", inPlace := ["internal/bytealg.IndexByteString", "internal/bytealg.IndexString"], unfollowed := true, recurses := true, named := ["invigilator/runes.leads", "unicode/utf8.first", "unicode/utf8.acceptRanges", "invigilator/runes.members", "internal/bytealg.MaxLen"], apart := false, laid := [("unicode/utf8.acceptRanges", laid_unicode_utf8_acceptRanges), ("invigilator/runes.members", laid_invigilator_runes_members), ("invigilator/runes.leads", laid_invigilator_runes_leads), ("unicode/utf8.first", laid_unicode_utf8_first)], narrowed := true }
def RunesOrderUptoSaid : Prop := runesOrderUptoRow.holds Tryd.pinned (OpenSpec.upto runesOrderSpec)

/-- 'invigilatorlaw02.RunesClasses', WHERE WHAT IT READS IS OF BULK AT MOST 1048576: true; the input reads as it did. -/
def runesClassesUptoRow : OpenClaim := { program := "ytfceggpegjjhiaadoor", sum := "e38f54c4ca70136bc7458015de100c90eb9d500afd99c64048f06334d2a06898", func := "invigilator/invigilatorlaw02.RunesClasses", spec := "runesClasses", inPlace := ["internal/bytealg.IndexByteString", "internal/bytealg.IndexString"], unfollowed := true, recurses := true, named := ["invigilator/runes.members", "invigilator/runes.leads", "unicode/utf8.first", "unicode/utf8.acceptRanges", "internal/bytealg.MaxLen"], apart := false, laid := [("unicode/utf8.acceptRanges", laid_unicode_utf8_acceptRanges), ("invigilator/runes.members", laid_invigilator_runes_members), ("invigilator/runes.leads", laid_invigilator_runes_leads), ("unicode/utf8.first", laid_unicode_utf8_first)], narrowed := true }
def RunesClassesUptoSaid : Prop := runesClassesUptoRow.holds Tryd.pinned (OpenSpec.upto runesClassesSpec)

/-- 'invigilatorlaw02.RunesJoins', WHERE WHAT IT READS IS OF BULK AT MOST 1048576: true; the input reads as it did. -/
def runesJoinsUptoRow : OpenClaim := { program := "ytfceggpegjjhiaadoor", sum := "e38f54c4ca70136bc7458015de100c90eb9d500afd99c64048f06334d2a06898", func := "invigilator/invigilatorlaw02.RunesJoins", spec := "runesJoins", inPlace := ["internal/bytealg.IndexByteString", "internal/bytealg.IndexString"], unfollowed := true, recurses := true, named := ["invigilator/runes.leads", "unicode/utf8.first", "unicode/utf8.acceptRanges", "invigilator/runes.members", "internal/bytealg.MaxLen"], apart := false, laid := [("unicode/utf8.acceptRanges", laid_unicode_utf8_acceptRanges), ("invigilator/runes.members", laid_invigilator_runes_members), ("invigilator/runes.leads", laid_invigilator_runes_leads), ("unicode/utf8.first", laid_unicode_utf8_first)], narrowed := true }
def RunesJoinsUptoSaid : Prop := runesJoinsUptoRow.holds Tryd.pinned (OpenSpec.upto runesJoinsSpec)

/-- 'invigilatorlaw02.RunesKnown', WHERE WHAT IT READS IS OF BULK AT MOST 1048576: true; the input reads as it did. -/
def runesKnownUptoRow : OpenClaim := { program := "ytfceggpegjjhiaadoor", sum := "e38f54c4ca70136bc7458015de100c90eb9d500afd99c64048f06334d2a06898", func := "invigilator/invigilatorlaw02.RunesKnown", spec := "runesKnown", inPlace := ["internal/bytealg.IndexByteString", "internal/bytealg.IndexString"], unfollowed := true, recurses := true, named := ["invigilator/runes.leads", "unicode/utf8.first", "unicode/utf8.acceptRanges", "invigilator/runes.members", "internal/bytealg.MaxLen"], apart := false, laid := [("unicode/utf8.acceptRanges", laid_unicode_utf8_acceptRanges), ("invigilator/runes.members", laid_invigilator_runes_members), ("invigilator/runes.leads", laid_invigilator_runes_leads), ("unicode/utf8.first", laid_unicode_utf8_first)], narrowed := true }
def RunesKnownUptoSaid : Prop := runesKnownUptoRow.holds Tryd.pinned (OpenSpec.upto runesKnownSpec)

end Rows
end Go.Proofs.YtfceggpegjjhiaaDoor
