/-
  DERIVED. GIVEN WITH THE SEED: THE CARDS: each row of YtmmnoldhiobgdaaDoorRows.lean that lists a variable, with what it lists TIED to the program's text (the seventh form; the later family's looks); each row that meets fmt, with fmt's text TOLD by the authors' own Lean function (tested against real Go, not proved from fmt's source: count such statements apart). THE CARD IS WHAT COUNTS. Prove the row's statement (the work); the ties are given (YtmmnoldhiobgdaaDoorTie.lean); close each card by the builder's one call (the guide's Derived/Test/ToyasCard.lean, 'card_holds'). Laid BY PROGRAM, IN A SANDBOX (cutbox-door.mjs). By AI agents, Wed Nov 11 2026. No macro, syntax, notation, axiom, sorry.
-/
import Derived.Test.YtmmnoldhiobgdaaDoorRows
import GoSem.ClaimSeven
namespace Go.Proofs.YtmmnoldhiobgdaaDoor
namespace Rows

/-- THE TIED CARD OF 'invigilatorlaw10.ExtendOnes'. -/
def extendOnesCard : Claim7 := { stood := { row := extendOnesRow, standIns := [], harness := (true, "8e8b89267fdca6b48a60ba1201c655767bf4387aa1056ee5ff61887f5c3d3da2"), looks := true }, kinds := [], alts := [], laidByText := true, laidKinds := [.data], laidTests := true, laidLooks := .later }
def ExtendOnesCardSaid : Prop := Claim7.holds Tryd.pinned (.plain (OpenSpec.ofChange extendOnesSpec)) extendOnesCard

/-- THE TIED CARD OF 'invigilatorlaw10.ExtendTwos'. -/
def extendTwosCard : Claim7 := { stood := { row := extendTwosRow, standIns := [], harness := (true, "8e8b89267fdca6b48a60ba1201c655767bf4387aa1056ee5ff61887f5c3d3da2"), looks := true }, kinds := [], alts := [], laidByText := true, laidKinds := [.data], laidTests := true, laidLooks := .later }
def ExtendTwosCardSaid : Prop := Claim7.holds Tryd.pinned (.plain (OpenSpec.ofChange extendTwosSpec)) extendTwosCard

/-- THE TIED CARD OF 'invigilatorlaw10.ExtendCells'. -/
def extendCellsCard : Claim7 := { stood := { row := extendCellsRow, standIns := [], harness := (true, "8e8b89267fdca6b48a60ba1201c655767bf4387aa1056ee5ff61887f5c3d3da2"), looks := true }, kinds := [], alts := [], laidByText := true, laidKinds := [.data], laidTests := true, laidLooks := .later }
def ExtendCellsCardSaid : Prop := Claim7.holds Tryd.pinned (.plain (OpenSpec.ofChange extendCellsSpec)) extendCellsCard

/-- THE TIED CARD OF 'invigilatorlaw10.ExtendScalars'. -/
def extendScalarsCard : Claim7 := { stood := { row := extendScalarsRow, standIns := [], harness := (true, "8e8b89267fdca6b48a60ba1201c655767bf4387aa1056ee5ff61887f5c3d3da2"), looks := true }, kinds := [], alts := [], laidByText := true, laidKinds := [.data], laidTests := true, laidLooks := .later }
def ExtendScalarsCardSaid : Prop := Claim7.holds Tryd.pinned (.plain (OpenSpec.ofChange extendScalarsSpec)) extendScalarsCard

/-- THE TIED CARD OF 'invigilatorlaw10.ExtendTurns'. -/
def extendTurnsCard : Claim7 := { stood := { row := extendTurnsRow, standIns := [], harness := (true, "8e8b89267fdca6b48a60ba1201c655767bf4387aa1056ee5ff61887f5c3d3da2"), looks := true }, kinds := [], alts := [], laidByText := true, laidKinds := [.data], laidTests := true, laidLooks := .later }
def ExtendTurnsCardSaid : Prop := Claim7.holds Tryd.pinned (.plain (OpenSpec.ofChange extendTurnsSpec)) extendTurnsCard

/-- THE TIED CARD OF 'invigilatorlaw10.ExtendParts'. -/
def extendPartsCard : Claim7 := { stood := { row := extendPartsRow, standIns := [], harness := (true, "8e8b89267fdca6b48a60ba1201c655767bf4387aa1056ee5ff61887f5c3d3da2"), looks := true }, kinds := [], alts := [], laidByText := true, laidKinds := [.data], laidTests := true, laidLooks := .later }
def ExtendPartsCardSaid : Prop := Claim7.holds Tryd.pinned (.plain (OpenSpec.ofChange extendPartsSpec)) extendPartsCard

/-- THE TIED CARD OF 'invigilatorlaw10.ExtendFlips'. -/
def extendFlipsCard : Claim7 := { stood := { row := extendFlipsRow, standIns := [], harness := (true, "8e8b89267fdca6b48a60ba1201c655767bf4387aa1056ee5ff61887f5c3d3da2"), looks := true }, kinds := [], alts := [], laidByText := true, laidKinds := [.data], laidTests := true, laidLooks := .later }
def ExtendFlipsCardSaid : Prop := Claim7.holds Tryd.pinned (.plain (OpenSpec.ofChange extendFlipsSpec)) extendFlipsCard

/-- THE TIED CARD OF 'invigilatorlaw10.ExtendOwn'. -/
def extendOwnCard : Claim7 := { stood := { row := extendOwnRow, standIns := [], harness := (true, "8e8b89267fdca6b48a60ba1201c655767bf4387aa1056ee5ff61887f5c3d3da2"), looks := true }, kinds := [], alts := [], laidByText := true, laidKinds := [.data], laidTests := true, laidLooks := .later }
def ExtendOwnCardSaid : Prop := Claim7.holds Tryd.pinned (.plain (OpenSpec.ofChange extendOwnSpec)) extendOwnCard

/-- THE SECOND FORM's CARD OF 'invigilatorlaw10.ExtendOnes'. -/
def extendOnesUptoCard : Claim7 := { stood := { row := extendOnesUptoRow, standIns := [], harness := (true, "8e8b89267fdca6b48a60ba1201c655767bf4387aa1056ee5ff61887f5c3d3da2"), looks := true }, kinds := [], alts := [], laidByText := true, laidKinds := [.data], laidTests := true, laidLooks := .later }
def ExtendOnesUptoCardSaid : Prop := Claim7.holds Tryd.pinned (.plain (OpenSpec.upto extendOnesSpec)) extendOnesUptoCard

/-- THE SECOND FORM's CARD OF 'invigilatorlaw10.ExtendTwos'. -/
def extendTwosUptoCard : Claim7 := { stood := { row := extendTwosUptoRow, standIns := [], harness := (true, "8e8b89267fdca6b48a60ba1201c655767bf4387aa1056ee5ff61887f5c3d3da2"), looks := true }, kinds := [], alts := [], laidByText := true, laidKinds := [.data], laidTests := true, laidLooks := .later }
def ExtendTwosUptoCardSaid : Prop := Claim7.holds Tryd.pinned (.plain (OpenSpec.upto extendTwosSpec)) extendTwosUptoCard

/-- THE SECOND FORM's CARD OF 'invigilatorlaw10.ExtendCells'. -/
def extendCellsUptoCard : Claim7 := { stood := { row := extendCellsUptoRow, standIns := [], harness := (true, "8e8b89267fdca6b48a60ba1201c655767bf4387aa1056ee5ff61887f5c3d3da2"), looks := true }, kinds := [], alts := [], laidByText := true, laidKinds := [.data], laidTests := true, laidLooks := .later }
def ExtendCellsUptoCardSaid : Prop := Claim7.holds Tryd.pinned (.plain (OpenSpec.upto extendCellsSpec)) extendCellsUptoCard

/-- THE SECOND FORM's CARD OF 'invigilatorlaw10.ExtendScalars'. -/
def extendScalarsUptoCard : Claim7 := { stood := { row := extendScalarsUptoRow, standIns := [], harness := (true, "8e8b89267fdca6b48a60ba1201c655767bf4387aa1056ee5ff61887f5c3d3da2"), looks := true }, kinds := [], alts := [], laidByText := true, laidKinds := [.data], laidTests := true, laidLooks := .later }
def ExtendScalarsUptoCardSaid : Prop := Claim7.holds Tryd.pinned (.plain (OpenSpec.upto extendScalarsSpec)) extendScalarsUptoCard

/-- THE SECOND FORM's CARD OF 'invigilatorlaw10.ExtendTurns'. -/
def extendTurnsUptoCard : Claim7 := { stood := { row := extendTurnsUptoRow, standIns := [], harness := (true, "8e8b89267fdca6b48a60ba1201c655767bf4387aa1056ee5ff61887f5c3d3da2"), looks := true }, kinds := [], alts := [], laidByText := true, laidKinds := [.data], laidTests := true, laidLooks := .later }
def ExtendTurnsUptoCardSaid : Prop := Claim7.holds Tryd.pinned (.plain (OpenSpec.upto extendTurnsSpec)) extendTurnsUptoCard

/-- THE SECOND FORM's CARD OF 'invigilatorlaw10.ExtendParts'. -/
def extendPartsUptoCard : Claim7 := { stood := { row := extendPartsUptoRow, standIns := [], harness := (true, "8e8b89267fdca6b48a60ba1201c655767bf4387aa1056ee5ff61887f5c3d3da2"), looks := true }, kinds := [], alts := [], laidByText := true, laidKinds := [.data], laidTests := true, laidLooks := .later }
def ExtendPartsUptoCardSaid : Prop := Claim7.holds Tryd.pinned (.plain (OpenSpec.upto extendPartsSpec)) extendPartsUptoCard

/-- THE SECOND FORM's CARD OF 'invigilatorlaw10.ExtendFlips'. -/
def extendFlipsUptoCard : Claim7 := { stood := { row := extendFlipsUptoRow, standIns := [], harness := (true, "8e8b89267fdca6b48a60ba1201c655767bf4387aa1056ee5ff61887f5c3d3da2"), looks := true }, kinds := [], alts := [], laidByText := true, laidKinds := [.data], laidTests := true, laidLooks := .later }
def ExtendFlipsUptoCardSaid : Prop := Claim7.holds Tryd.pinned (.plain (OpenSpec.upto extendFlipsSpec)) extendFlipsUptoCard

/-- THE SECOND FORM's CARD OF 'invigilatorlaw10.ExtendOwn'. -/
def extendOwnUptoCard : Claim7 := { stood := { row := extendOwnUptoRow, standIns := [], harness := (true, "8e8b89267fdca6b48a60ba1201c655767bf4387aa1056ee5ff61887f5c3d3da2"), looks := true }, kinds := [], alts := [], laidByText := true, laidKinds := [.data], laidTests := true, laidLooks := .later }
def ExtendOwnUptoCardSaid : Prop := Claim7.holds Tryd.pinned (.plain (OpenSpec.upto extendOwnSpec)) extendOwnUptoCard
end Rows
end Go.Proofs.YtmmnoldhiobgdaaDoor
