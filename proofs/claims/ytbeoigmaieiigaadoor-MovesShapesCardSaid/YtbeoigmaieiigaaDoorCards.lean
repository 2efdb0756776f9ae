/-
  DERIVED. GIVEN WITH THE SEED: THE CARDS: each row of YtbeoigmaieiigaaDoorRows.lean that lists a variable, with what it lists TIED to the program's text (the seventh form; the later family's looks); each row that meets fmt, with fmt's text TOLD by the authors' own Lean function (tested against real Go, not proved from fmt's source: count such statements apart). THE CARD IS WHAT COUNTS. Prove the row's statement (the work); the ties are given (YtbeoigmaieiigaaDoorTie.lean); close each card by the builder's one call (the guide's Derived/Test/ToyasCard.lean, 'card_holds'). Laid BY PROGRAM, IN A SANDBOX (cutbox-door.mjs). By AI agents, Wed Nov 11 2026. No macro, syntax, notation, axiom, sorry.
-/
import Derived.Test.YtbeoigmaieiigaaDoorRows
import GoSem.ClaimSeven
namespace Go.Proofs.YtbeoigmaieiigaaDoor
namespace Rows

/-- THE TIED CARD OF 'invigilatorlaw07.MovesTurns'. -/
def movesTurnsCard : Claim7 := { stood := { row := movesTurnsRow, standIns := [], harness := (true, "f69b07aa8effce356083258610d5085009d21546fe967da5f25de6dde9bc1aaa"), looks := false }, kinds := [], alts := [], laidByText := true, laidKinds := [.data], laidTests := true, laidLooks := .later }
def MovesTurnsCardSaid : Prop := Claim7.holds Tryd.pinned (.plain (OpenSpec.ofChange movesTurnsSpec)) movesTurnsCard

/-- THE TIED CARD OF 'invigilatorlaw07.MovesTakes'. -/
def movesTakesCard : Claim7 := { stood := { row := movesTakesRow, standIns := [], harness := (true, "f69b07aa8effce356083258610d5085009d21546fe967da5f25de6dde9bc1aaa"), looks := false }, kinds := [], alts := [], laidByText := true, laidKinds := [.data], laidTests := true, laidLooks := .later }
def MovesTakesCardSaid : Prop := Claim7.holds Tryd.pinned (.plain (OpenSpec.ofChange movesTakesSpec)) movesTakesCard

/-- THE TIED CARD OF 'invigilatorlaw07.MovesFills'. -/
def movesFillsCard : Claim7 := { stood := { row := movesFillsRow, standIns := [], harness := (true, "f69b07aa8effce356083258610d5085009d21546fe967da5f25de6dde9bc1aaa"), looks := false }, kinds := [], alts := [], laidByText := true, laidKinds := [.data], laidTests := true, laidLooks := .later }
def MovesFillsCardSaid : Prop := Claim7.holds Tryd.pinned (.plain (OpenSpec.ofChange movesFillsSpec)) movesFillsCard

/-- THE TIED CARD OF 'invigilatorlaw07.MovesCats'. -/
def movesCatsCard : Claim7 := { stood := { row := movesCatsRow, standIns := [], harness := (true, "f69b07aa8effce356083258610d5085009d21546fe967da5f25de6dde9bc1aaa"), looks := false }, kinds := [], alts := [], laidByText := true, laidKinds := [.data], laidTests := true, laidLooks := .later }
def MovesCatsCardSaid : Prop := Claim7.holds Tryd.pinned (.plain (OpenSpec.ofChange movesCatsSpec)) movesCatsCard

/-- THE TIED CARD OF 'invigilatorlaw07.MovesBack'. -/
def movesBackCard : Claim7 := { stood := { row := movesBackRow, standIns := [], harness := (true, "f69b07aa8effce356083258610d5085009d21546fe967da5f25de6dde9bc1aaa"), looks := false }, kinds := [], alts := [], laidByText := true, laidKinds := [.data], laidTests := true, laidLooks := .later }
def MovesBackCardSaid : Prop := Claim7.holds Tryd.pinned (.plain (OpenSpec.ofChange movesBackSpec)) movesBackCard

/-- THE TIED CARD OF 'invigilatorlaw07.MovesParts'. -/
def movesPartsCard : Claim7 := { stood := { row := movesPartsRow, standIns := [], harness := (true, "f69b07aa8effce356083258610d5085009d21546fe967da5f25de6dde9bc1aaa"), looks := false }, kinds := [], alts := [], laidByText := true, laidKinds := [.data], laidTests := true, laidLooks := .later }
def MovesPartsCardSaid : Prop := Claim7.holds Tryd.pinned (.plain (OpenSpec.ofChange movesPartsSpec)) movesPartsCard

/-- THE TIED CARD OF 'invigilatorlaw07.MovesJoins'. -/
def movesJoinsCard : Claim7 := { stood := { row := movesJoinsRow, standIns := [], harness := (true, "f69b07aa8effce356083258610d5085009d21546fe967da5f25de6dde9bc1aaa"), looks := false }, kinds := [], alts := [], laidByText := true, laidKinds := [.data], laidTests := true, laidLooks := .later }
def MovesJoinsCardSaid : Prop := Claim7.holds Tryd.pinned (.plain (OpenSpec.ofChange movesJoinsSpec)) movesJoinsCard

/-- THE TIED CARD OF 'invigilatorlaw07.MovesShapes'. -/
def movesShapesCard : Claim7 := { stood := { row := movesShapesRow, standIns := [], harness := (true, "f69b07aa8effce356083258610d5085009d21546fe967da5f25de6dde9bc1aaa"), looks := false }, kinds := [], alts := [], laidByText := true, laidKinds := [.data], laidTests := true, laidLooks := .later }
def MovesShapesCardSaid : Prop := Claim7.holds Tryd.pinned (.plain (OpenSpec.ofChange movesShapesSpec)) movesShapesCard

/-- THE SECOND FORM's CARD OF 'invigilatorlaw07.MovesTurns'. -/
def movesTurnsUptoCard : Claim7 := { stood := { row := movesTurnsUptoRow, standIns := [], harness := (true, "f69b07aa8effce356083258610d5085009d21546fe967da5f25de6dde9bc1aaa"), looks := false }, kinds := [], alts := [], laidByText := true, laidKinds := [.data], laidTests := true, laidLooks := .later }
def MovesTurnsUptoCardSaid : Prop := Claim7.holds Tryd.pinned (.plain (OpenSpec.upto movesTurnsSpec)) movesTurnsUptoCard

/-- THE SECOND FORM's CARD OF 'invigilatorlaw07.MovesTakes'. -/
def movesTakesUptoCard : Claim7 := { stood := { row := movesTakesUptoRow, standIns := [], harness := (true, "f69b07aa8effce356083258610d5085009d21546fe967da5f25de6dde9bc1aaa"), looks := false }, kinds := [], alts := [], laidByText := true, laidKinds := [.data], laidTests := true, laidLooks := .later }
def MovesTakesUptoCardSaid : Prop := Claim7.holds Tryd.pinned (.plain (OpenSpec.upto movesTakesSpec)) movesTakesUptoCard

/-- THE SECOND FORM's CARD OF 'invigilatorlaw07.MovesFills'. -/
def movesFillsUptoCard : Claim7 := { stood := { row := movesFillsUptoRow, standIns := [], harness := (true, "f69b07aa8effce356083258610d5085009d21546fe967da5f25de6dde9bc1aaa"), looks := false }, kinds := [], alts := [], laidByText := true, laidKinds := [.data], laidTests := true, laidLooks := .later }
def MovesFillsUptoCardSaid : Prop := Claim7.holds Tryd.pinned (.plain (OpenSpec.upto movesFillsSpec)) movesFillsUptoCard

/-- THE SECOND FORM's CARD OF 'invigilatorlaw07.MovesCats'. -/
def movesCatsUptoCard : Claim7 := { stood := { row := movesCatsUptoRow, standIns := [], harness := (true, "f69b07aa8effce356083258610d5085009d21546fe967da5f25de6dde9bc1aaa"), looks := false }, kinds := [], alts := [], laidByText := true, laidKinds := [.data], laidTests := true, laidLooks := .later }
def MovesCatsUptoCardSaid : Prop := Claim7.holds Tryd.pinned (.plain (OpenSpec.upto movesCatsSpec)) movesCatsUptoCard

/-- THE SECOND FORM's CARD OF 'invigilatorlaw07.MovesBack'. -/
def movesBackUptoCard : Claim7 := { stood := { row := movesBackUptoRow, standIns := [], harness := (true, "f69b07aa8effce356083258610d5085009d21546fe967da5f25de6dde9bc1aaa"), looks := false }, kinds := [], alts := [], laidByText := true, laidKinds := [.data], laidTests := true, laidLooks := .later }
def MovesBackUptoCardSaid : Prop := Claim7.holds Tryd.pinned (.plain (OpenSpec.upto movesBackSpec)) movesBackUptoCard

/-- THE SECOND FORM's CARD OF 'invigilatorlaw07.MovesParts'. -/
def movesPartsUptoCard : Claim7 := { stood := { row := movesPartsUptoRow, standIns := [], harness := (true, "f69b07aa8effce356083258610d5085009d21546fe967da5f25de6dde9bc1aaa"), looks := false }, kinds := [], alts := [], laidByText := true, laidKinds := [.data], laidTests := true, laidLooks := .later }
def MovesPartsUptoCardSaid : Prop := Claim7.holds Tryd.pinned (.plain (OpenSpec.upto movesPartsSpec)) movesPartsUptoCard

/-- THE SECOND FORM's CARD OF 'invigilatorlaw07.MovesJoins'. -/
def movesJoinsUptoCard : Claim7 := { stood := { row := movesJoinsUptoRow, standIns := [], harness := (true, "f69b07aa8effce356083258610d5085009d21546fe967da5f25de6dde9bc1aaa"), looks := false }, kinds := [], alts := [], laidByText := true, laidKinds := [.data], laidTests := true, laidLooks := .later }
def MovesJoinsUptoCardSaid : Prop := Claim7.holds Tryd.pinned (.plain (OpenSpec.upto movesJoinsSpec)) movesJoinsUptoCard

/-- THE SECOND FORM's CARD OF 'invigilatorlaw07.MovesShapes'. -/
def movesShapesUptoCard : Claim7 := { stood := { row := movesShapesUptoRow, standIns := [], harness := (true, "f69b07aa8effce356083258610d5085009d21546fe967da5f25de6dde9bc1aaa"), looks := false }, kinds := [], alts := [], laidByText := true, laidKinds := [.data], laidTests := true, laidLooks := .later }
def MovesShapesUptoCardSaid : Prop := Claim7.holds Tryd.pinned (.plain (OpenSpec.upto movesShapesSpec)) movesShapesUptoCard
end Rows
end Go.Proofs.YtbeoigmaieiigaaDoor
