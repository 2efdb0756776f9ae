/-
  DERIVED. GIVEN WITH THE SEED: THE CARDS: each row of YtdbampgbbghfkaaDoorRows.lean that lists a variable, with what it lists TIED to the program's text (the seventh form; the later family's looks); each row that meets fmt, with fmt's text TOLD by the authors' own Lean function (tested against real Go, not proved from fmt's source: count such statements apart). THE CARD IS WHAT COUNTS. Prove the row's statement (the work); the ties are given (YtdbampgbbghfkaaDoorTie.lean); close each card by the builder's one call (the guide's Derived/Test/ToyasCard.lean, 'card_holds'). Laid BY PROGRAM, IN A SANDBOX (cutbox-door.mjs). By AI agents, Wed Nov 11 2026. No macro, syntax, notation, axiom, sorry.
-/
import Derived.Test.YtdbampgbbghfkaaDoorRows
import GoSem.ClaimSeven
namespace Go.Proofs.YtdbampgbbghfkaaDoor
namespace Rows

/-- THE TIED CARD OF 'invigilatorlaw06.ArraysMakes'. -/
def arraysMakesCard : Claim7 := { stood := { row := arraysMakesRow, standIns := [], harness := (true, "703582ef143ef312c99e8ec7ce484e84de6444b0914e226af3785af60d7f5bd3"), looks := false }, kinds := [], alts := [], laidByText := true, laidKinds := [.data, .data, .pinned], laidTests := true, laidLooks := .later }
def ArraysMakesCardSaid : Prop := Claim7.holds Tryd.pinned (.plain (OpenSpec.ofChange arraysMakesSpec)) arraysMakesCard

/-- THE TIED CARD OF 'invigilatorlaw06.ArraysBack'. -/
def arraysBackCard : Claim7 := { stood := { row := arraysBackRow, standIns := [], harness := (true, "703582ef143ef312c99e8ec7ce484e84de6444b0914e226af3785af60d7f5bd3"), looks := false }, kinds := [], alts := [], laidByText := true, laidKinds := [.data, .data, .pinned], laidTests := true, laidLooks := .later }
def ArraysBackCardSaid : Prop := Claim7.holds Tryd.pinned (.plain (OpenSpec.ofChange arraysBackSpec)) arraysBackCard

/-- THE SECOND FORM's CARD OF 'invigilatorlaw06.ArraysMakes'. -/
def arraysMakesUptoCard : Claim7 := { stood := { row := arraysMakesUptoRow, standIns := [], harness := (true, "703582ef143ef312c99e8ec7ce484e84de6444b0914e226af3785af60d7f5bd3"), looks := false }, kinds := [], alts := [], laidByText := true, laidKinds := [.data, .data, .pinned], laidTests := true, laidLooks := .later }
def ArraysMakesUptoCardSaid : Prop := Claim7.holds Tryd.pinned (.plain (OpenSpec.upto arraysMakesSpec)) arraysMakesUptoCard

/-- THE SECOND FORM's CARD OF 'invigilatorlaw06.ArraysBack'. -/
def arraysBackUptoCard : Claim7 := { stood := { row := arraysBackUptoRow, standIns := [], harness := (true, "703582ef143ef312c99e8ec7ce484e84de6444b0914e226af3785af60d7f5bd3"), looks := false }, kinds := [], alts := [], laidByText := true, laidKinds := [.data, .data, .pinned], laidTests := true, laidLooks := .later }
def ArraysBackUptoCardSaid : Prop := Claim7.holds Tryd.pinned (.plain (OpenSpec.upto arraysBackSpec)) arraysBackUptoCard
end Rows
end Go.Proofs.YtdbampgbbghfkaaDoor
