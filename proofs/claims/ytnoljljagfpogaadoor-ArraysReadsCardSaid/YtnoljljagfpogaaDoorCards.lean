/-
  DERIVED. GIVEN WITH THE SEED: THE CARDS: each row of YtnoljljagfpogaaDoorRows.lean that lists a variable, with what it lists TIED to the program's text (the seventh form; the later family's looks); each row that meets fmt, with fmt's text TOLD by the authors' own Lean function (tested against real Go, not proved from fmt's source: count such statements apart). THE CARD IS WHAT COUNTS. Prove the row's statement (the work); the ties are given (YtnoljljagfpogaaDoorTie.lean); close each card by the builder's one call (the guide's Derived/Test/ToyasCard.lean, 'card_holds'). Laid BY PROGRAM, IN A SANDBOX (cutbox-door.mjs). By AI agents, Wed Nov 11 2026. No macro, syntax, notation, axiom, sorry.
-/
import Derived.Test.YtnoljljagfpogaaDoorRows
import GoSem.ClaimSeven
namespace Go.Proofs.YtnoljljagfpogaaDoor
namespace Rows

/-- THE TIED CARD OF 'invigilatorlaw06.ArraysMakes'. -/
def arraysMakesCard : Claim7 := { stood := { row := arraysMakesRow, standIns := [], harness := (true, "64e4deca70b7d29a27c0571d6d955546de5f5ff28cb9726832c5ac581e62c2d4"), looks := false }, kinds := [], alts := [], laidByText := true, laidKinds := [.data, .data, .pinned], laidTests := true, laidLooks := .later }
def ArraysMakesCardSaid : Prop := Claim7.holds Tryd.pinned (.plain (OpenSpec.ofChange arraysMakesSpec)) arraysMakesCard

/-- THE TIED CARD OF 'invigilatorlaw06.ArraysReads'. -/
def arraysReadsCard : Claim7 := { stood := { row := arraysReadsRow, standIns := [], harness := (true, "64e4deca70b7d29a27c0571d6d955546de5f5ff28cb9726832c5ac581e62c2d4"), looks := false }, kinds := [], alts := [], laidByText := true, laidKinds := [.data, .data, .pinned], laidTests := true, laidLooks := .later }
def ArraysReadsCardSaid : Prop := Claim7.holds Tryd.pinned (.plain (OpenSpec.ofChange arraysReadsSpec)) arraysReadsCard

/-- THE TIED CARD OF 'invigilatorlaw06.ArraysBack'. -/
def arraysBackCard : Claim7 := { stood := { row := arraysBackRow, standIns := [], harness := (true, "64e4deca70b7d29a27c0571d6d955546de5f5ff28cb9726832c5ac581e62c2d4"), looks := false }, kinds := [], alts := [], laidByText := true, laidKinds := [.data, .data, .pinned], laidTests := true, laidLooks := .later }
def ArraysBackCardSaid : Prop := Claim7.holds Tryd.pinned (.plain (OpenSpec.ofChange arraysBackSpec)) arraysBackCard

/-- THE TIED CARD OF 'invigilatorlaw07.MovesTurns'. -/
def movesTurnsCard : Claim7 := { stood := { row := movesTurnsRow, standIns := [], harness := (true, "64e4deca70b7d29a27c0571d6d955546de5f5ff28cb9726832c5ac581e62c2d4"), looks := false }, kinds := [], alts := [], laidByText := true, laidKinds := [.data], laidTests := true, laidLooks := .later }
def MovesTurnsCardSaid : Prop := Claim7.holds Tryd.pinned (.plain (OpenSpec.ofChange movesTurnsSpec)) movesTurnsCard

/-- THE TIED CARD OF 'invigilatorlaw07.MovesTakes'. -/
def movesTakesCard : Claim7 := { stood := { row := movesTakesRow, standIns := [], harness := (true, "64e4deca70b7d29a27c0571d6d955546de5f5ff28cb9726832c5ac581e62c2d4"), looks := false }, kinds := [], alts := [], laidByText := true, laidKinds := [.data], laidTests := true, laidLooks := .later }
def MovesTakesCardSaid : Prop := Claim7.holds Tryd.pinned (.plain (OpenSpec.ofChange movesTakesSpec)) movesTakesCard

/-- THE TIED CARD OF 'invigilatorlaw07.MovesFills'. -/
def movesFillsCard : Claim7 := { stood := { row := movesFillsRow, standIns := [], harness := (true, "64e4deca70b7d29a27c0571d6d955546de5f5ff28cb9726832c5ac581e62c2d4"), looks := false }, kinds := [], alts := [], laidByText := true, laidKinds := [.data], laidTests := true, laidLooks := .later }
def MovesFillsCardSaid : Prop := Claim7.holds Tryd.pinned (.plain (OpenSpec.ofChange movesFillsSpec)) movesFillsCard

/-- THE TIED CARD OF 'invigilatorlaw07.MovesCats'. -/
def movesCatsCard : Claim7 := { stood := { row := movesCatsRow, standIns := [], harness := (true, "64e4deca70b7d29a27c0571d6d955546de5f5ff28cb9726832c5ac581e62c2d4"), looks := false }, kinds := [], alts := [], laidByText := true, laidKinds := [.data], laidTests := true, laidLooks := .later }
def MovesCatsCardSaid : Prop := Claim7.holds Tryd.pinned (.plain (OpenSpec.ofChange movesCatsSpec)) movesCatsCard

/-- THE TIED CARD OF 'invigilatorlaw07.MovesBack'. -/
def movesBackCard : Claim7 := { stood := { row := movesBackRow, standIns := [], harness := (true, "64e4deca70b7d29a27c0571d6d955546de5f5ff28cb9726832c5ac581e62c2d4"), looks := false }, kinds := [], alts := [], laidByText := true, laidKinds := [.data], laidTests := true, laidLooks := .later }
def MovesBackCardSaid : Prop := Claim7.holds Tryd.pinned (.plain (OpenSpec.ofChange movesBackSpec)) movesBackCard

/-- THE TIED CARD OF 'invigilatorlaw07.MovesParts'. -/
def movesPartsCard : Claim7 := { stood := { row := movesPartsRow, standIns := [], harness := (true, "64e4deca70b7d29a27c0571d6d955546de5f5ff28cb9726832c5ac581e62c2d4"), looks := false }, kinds := [], alts := [], laidByText := true, laidKinds := [.data], laidTests := true, laidLooks := .later }
def MovesPartsCardSaid : Prop := Claim7.holds Tryd.pinned (.plain (OpenSpec.ofChange movesPartsSpec)) movesPartsCard

/-- THE TIED CARD OF 'invigilatorlaw07.MovesJoins'. -/
def movesJoinsCard : Claim7 := { stood := { row := movesJoinsRow, standIns := [], harness := (true, "64e4deca70b7d29a27c0571d6d955546de5f5ff28cb9726832c5ac581e62c2d4"), looks := false }, kinds := [], alts := [], laidByText := true, laidKinds := [.data], laidTests := true, laidLooks := .later }
def MovesJoinsCardSaid : Prop := Claim7.holds Tryd.pinned (.plain (OpenSpec.ofChange movesJoinsSpec)) movesJoinsCard

/-- THE TIED CARD OF 'invigilatorlaw07.MovesShapes'. -/
def movesShapesCard : Claim7 := { stood := { row := movesShapesRow, standIns := [], harness := (true, "64e4deca70b7d29a27c0571d6d955546de5f5ff28cb9726832c5ac581e62c2d4"), looks := false }, kinds := [], alts := [], laidByText := true, laidKinds := [.data], laidTests := true, laidLooks := .later }
def MovesShapesCardSaid : Prop := Claim7.holds Tryd.pinned (.plain (OpenSpec.ofChange movesShapesSpec)) movesShapesCard

/-- THE SECOND FORM's CARD OF 'invigilatorlaw06.ArraysMakes'. -/
def arraysMakesUptoCard : Claim7 := { stood := { row := arraysMakesUptoRow, standIns := [], harness := (true, "64e4deca70b7d29a27c0571d6d955546de5f5ff28cb9726832c5ac581e62c2d4"), looks := false }, kinds := [], alts := [], laidByText := true, laidKinds := [.data, .data, .pinned], laidTests := true, laidLooks := .later }
def ArraysMakesUptoCardSaid : Prop := Claim7.holds Tryd.pinned (.plain (OpenSpec.upto arraysMakesSpec)) arraysMakesUptoCard

/-- THE SECOND FORM's CARD OF 'invigilatorlaw06.ArraysReads'. -/
def arraysReadsUptoCard : Claim7 := { stood := { row := arraysReadsUptoRow, standIns := [], harness := (true, "64e4deca70b7d29a27c0571d6d955546de5f5ff28cb9726832c5ac581e62c2d4"), looks := false }, kinds := [], alts := [], laidByText := true, laidKinds := [.data, .data, .pinned], laidTests := true, laidLooks := .later }
def ArraysReadsUptoCardSaid : Prop := Claim7.holds Tryd.pinned (.plain (OpenSpec.upto arraysReadsSpec)) arraysReadsUptoCard

/-- THE SECOND FORM's CARD OF 'invigilatorlaw06.ArraysBack'. -/
def arraysBackUptoCard : Claim7 := { stood := { row := arraysBackUptoRow, standIns := [], harness := (true, "64e4deca70b7d29a27c0571d6d955546de5f5ff28cb9726832c5ac581e62c2d4"), looks := false }, kinds := [], alts := [], laidByText := true, laidKinds := [.data, .data, .pinned], laidTests := true, laidLooks := .later }
def ArraysBackUptoCardSaid : Prop := Claim7.holds Tryd.pinned (.plain (OpenSpec.upto arraysBackSpec)) arraysBackUptoCard

/-- THE SECOND FORM's CARD OF 'invigilatorlaw07.MovesTurns'. -/
def movesTurnsUptoCard : Claim7 := { stood := { row := movesTurnsUptoRow, standIns := [], harness := (true, "64e4deca70b7d29a27c0571d6d955546de5f5ff28cb9726832c5ac581e62c2d4"), looks := false }, kinds := [], alts := [], laidByText := true, laidKinds := [.data], laidTests := true, laidLooks := .later }
def MovesTurnsUptoCardSaid : Prop := Claim7.holds Tryd.pinned (.plain (OpenSpec.upto movesTurnsSpec)) movesTurnsUptoCard

/-- THE SECOND FORM's CARD OF 'invigilatorlaw07.MovesTakes'. -/
def movesTakesUptoCard : Claim7 := { stood := { row := movesTakesUptoRow, standIns := [], harness := (true, "64e4deca70b7d29a27c0571d6d955546de5f5ff28cb9726832c5ac581e62c2d4"), looks := false }, kinds := [], alts := [], laidByText := true, laidKinds := [.data], laidTests := true, laidLooks := .later }
def MovesTakesUptoCardSaid : Prop := Claim7.holds Tryd.pinned (.plain (OpenSpec.upto movesTakesSpec)) movesTakesUptoCard

/-- THE SECOND FORM's CARD OF 'invigilatorlaw07.MovesFills'. -/
def movesFillsUptoCard : Claim7 := { stood := { row := movesFillsUptoRow, standIns := [], harness := (true, "64e4deca70b7d29a27c0571d6d955546de5f5ff28cb9726832c5ac581e62c2d4"), looks := false }, kinds := [], alts := [], laidByText := true, laidKinds := [.data], laidTests := true, laidLooks := .later }
def MovesFillsUptoCardSaid : Prop := Claim7.holds Tryd.pinned (.plain (OpenSpec.upto movesFillsSpec)) movesFillsUptoCard

/-- THE SECOND FORM's CARD OF 'invigilatorlaw07.MovesCats'. -/
def movesCatsUptoCard : Claim7 := { stood := { row := movesCatsUptoRow, standIns := [], harness := (true, "64e4deca70b7d29a27c0571d6d955546de5f5ff28cb9726832c5ac581e62c2d4"), looks := false }, kinds := [], alts := [], laidByText := true, laidKinds := [.data], laidTests := true, laidLooks := .later }
def MovesCatsUptoCardSaid : Prop := Claim7.holds Tryd.pinned (.plain (OpenSpec.upto movesCatsSpec)) movesCatsUptoCard

/-- THE SECOND FORM's CARD OF 'invigilatorlaw07.MovesBack'. -/
def movesBackUptoCard : Claim7 := { stood := { row := movesBackUptoRow, standIns := [], harness := (true, "64e4deca70b7d29a27c0571d6d955546de5f5ff28cb9726832c5ac581e62c2d4"), looks := false }, kinds := [], alts := [], laidByText := true, laidKinds := [.data], laidTests := true, laidLooks := .later }
def MovesBackUptoCardSaid : Prop := Claim7.holds Tryd.pinned (.plain (OpenSpec.upto movesBackSpec)) movesBackUptoCard

/-- THE SECOND FORM's CARD OF 'invigilatorlaw07.MovesParts'. -/
def movesPartsUptoCard : Claim7 := { stood := { row := movesPartsUptoRow, standIns := [], harness := (true, "64e4deca70b7d29a27c0571d6d955546de5f5ff28cb9726832c5ac581e62c2d4"), looks := false }, kinds := [], alts := [], laidByText := true, laidKinds := [.data], laidTests := true, laidLooks := .later }
def MovesPartsUptoCardSaid : Prop := Claim7.holds Tryd.pinned (.plain (OpenSpec.upto movesPartsSpec)) movesPartsUptoCard

/-- THE SECOND FORM's CARD OF 'invigilatorlaw07.MovesJoins'. -/
def movesJoinsUptoCard : Claim7 := { stood := { row := movesJoinsUptoRow, standIns := [], harness := (true, "64e4deca70b7d29a27c0571d6d955546de5f5ff28cb9726832c5ac581e62c2d4"), looks := false }, kinds := [], alts := [], laidByText := true, laidKinds := [.data], laidTests := true, laidLooks := .later }
def MovesJoinsUptoCardSaid : Prop := Claim7.holds Tryd.pinned (.plain (OpenSpec.upto movesJoinsSpec)) movesJoinsUptoCard

/-- THE SECOND FORM's CARD OF 'invigilatorlaw07.MovesShapes'. -/
def movesShapesUptoCard : Claim7 := { stood := { row := movesShapesUptoRow, standIns := [], harness := (true, "64e4deca70b7d29a27c0571d6d955546de5f5ff28cb9726832c5ac581e62c2d4"), looks := false }, kinds := [], alts := [], laidByText := true, laidKinds := [.data], laidTests := true, laidLooks := .later }
def MovesShapesUptoCardSaid : Prop := Claim7.holds Tryd.pinned (.plain (OpenSpec.upto movesShapesSpec)) movesShapesUptoCard
end Rows
end Go.Proofs.YtnoljljagfpogaaDoor
