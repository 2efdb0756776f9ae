/-
  DERIVED. GIVEN WITH THE SEED: THE CARDS: each row of YtablaacddbkeiaaGreatDoorRows.lean that lists a variable, with what it lists TIED to the program's text (the seventh form; the later family's looks); each row that meets fmt, with fmt's text TOLD by the authors' own Lean function (tested against real Go, not proved from fmt's source: count such statements apart). THE CARD IS WHAT COUNTS. Prove the row's statement (the work); the ties are given (YtablaacddbkeiaaGreatDoorTie.lean); close each card by the builder's one call (the guide's Derived/Test/ToyasCard.lean, 'card_holds'). Laid BY PROGRAM, IN A SANDBOX (cutbox-door.mjs). By AI agents, Wed Nov 11 2026. No macro, syntax, notation, axiom, sorry.
-/
import Derived.Test.YtablaacddbkeiaaGreatDoorRows
import GoSem.ClaimSeven
namespace Go.Proofs.YtablaacddbkeiaaGreatDoor
namespace Rows

/-- THE TIED CARD OF 'invigilatorlaw04.LabelsTexts'. -/
def labelsTextsCard : Claim7 := { stood := { row := labelsTextsRow, standIns := [], harness := (true, "89a46d44e90f109431cd72a9b47fe8075457b0656446348d5197ac8377d6fc4a"), looks := false }, kinds := [], alts := [], laidByText := true, laidKinds := [.data, .pinned], laidTests := true, laidLooks := .later }
def LabelsTextsCardSaid : Prop := Claim7.holds Tryz.pinned (.plain (OpenSpec.ofChange labelsTextsSpec)) labelsTextsCard

/-- THE TIED CARD OF 'invigilatorlaw04.LabelsKnown'. -/
def labelsKnownCard : Claim7 := { stood := { row := labelsKnownRow, standIns := [], harness := (true, "89a46d44e90f109431cd72a9b47fe8075457b0656446348d5197ac8377d6fc4a"), looks := false }, kinds := [], alts := [], laidByText := true, laidKinds := [.data, .pinned], laidTests := true, laidLooks := .later }
def LabelsKnownCardSaid : Prop := Claim7.holds Tryz.pinned (.plain (OpenSpec.ofChange labelsKnownSpec)) labelsKnownCard

/-- THE SECOND FORM's CARD OF 'invigilatorlaw04.LabelsTexts'. -/
def labelsTextsUptoCard : Claim7 := { stood := { row := labelsTextsUptoRow, standIns := [], harness := (true, "89a46d44e90f109431cd72a9b47fe8075457b0656446348d5197ac8377d6fc4a"), looks := false }, kinds := [], alts := [], laidByText := true, laidKinds := [.data, .pinned], laidTests := true, laidLooks := .later }
def LabelsTextsUptoCardSaid : Prop := Claim7.holds Tryz.pinned (.plain (OpenSpec.upto labelsTextsSpec)) labelsTextsUptoCard

/-- THE SECOND FORM's CARD OF 'invigilatorlaw04.LabelsKnown'. -/
def labelsKnownUptoCard : Claim7 := { stood := { row := labelsKnownUptoRow, standIns := [], harness := (true, "89a46d44e90f109431cd72a9b47fe8075457b0656446348d5197ac8377d6fc4a"), looks := false }, kinds := [], alts := [], laidByText := true, laidKinds := [.data, .pinned], laidTests := true, laidLooks := .later }
def LabelsKnownUptoCardSaid : Prop := Claim7.holds Tryz.pinned (.plain (OpenSpec.upto labelsKnownSpec)) labelsKnownUptoCard
end Rows
end Go.Proofs.YtablaacddbkeiaaGreatDoor
