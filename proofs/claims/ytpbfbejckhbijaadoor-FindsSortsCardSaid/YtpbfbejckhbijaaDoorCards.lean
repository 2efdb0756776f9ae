/-
  DERIVED. GIVEN WITH THE SEED: THE CARDS: each row of YtpbfbejckhbijaaDoorRows.lean that lists a variable, with what it lists TIED to the program's text (the seventh form; the later family's looks); each row that meets fmt, with fmt's text TOLD by the authors' own Lean function (tested against real Go, not proved from fmt's source: count such statements apart). THE CARD IS WHAT COUNTS. Prove the row's statement (the work); the ties are given (YtpbfbejckhbijaaDoorTie.lean); close each card by the builder's one call (the guide's Derived/Test/ToyasCard.lean, 'card_holds'). Laid BY PROGRAM, IN A SANDBOX (cutbox-door.mjs). By AI agents, Wed Nov 11 2026. No macro, syntax, notation, axiom, sorry.
-/
import Derived.Test.YtpbfbejckhbijaaDoorRows
import GoSem.ClaimSeven
namespace Go.Proofs.YtpbfbejckhbijaaDoor
namespace Rows

/-- THE TIED CARD OF 'invigilatorlaw08.FindsChoices'. -/
def findsChoicesCard : Claim7 := { stood := { row := findsChoicesRow, standIns := [], harness := (true, "a5aef371a965f3142832296b948cb4895fd86c06dce701c8c38bfd056a4bdae7"), looks := false }, kinds := [], alts := [], laidByText := true, laidKinds := [.data], laidTests := true, laidLooks := .later }
def FindsChoicesCardSaid : Prop := Claim7.holds Tryd.pinned (.plain (OpenSpec.ofChange findsChoicesSpec)) findsChoicesCard

/-- THE TIED CARD OF 'invigilatorlaw08.FindsSorts'. -/
def findsSortsCard : Claim7 := { stood := { row := findsSortsRow, standIns := [], harness := (true, "a5aef371a965f3142832296b948cb4895fd86c06dce701c8c38bfd056a4bdae7"), looks := false }, kinds := [], alts := [], laidByText := true, laidKinds := [.data], laidTests := true, laidLooks := .later }
def FindsSortsCardSaid : Prop := Claim7.holds Tryd.pinned (.plain (OpenSpec.ofChange findsSortsSpec)) findsSortsCard

/-- THE SECOND FORM's CARD OF 'invigilatorlaw08.FindsChoices'. -/
def findsChoicesUptoCard : Claim7 := { stood := { row := findsChoicesUptoRow, standIns := [], harness := (true, "a5aef371a965f3142832296b948cb4895fd86c06dce701c8c38bfd056a4bdae7"), looks := false }, kinds := [], alts := [], laidByText := true, laidKinds := [.data], laidTests := true, laidLooks := .later }
def FindsChoicesUptoCardSaid : Prop := Claim7.holds Tryd.pinned (.plain (OpenSpec.upto findsChoicesSpec)) findsChoicesUptoCard

/-- THE SECOND FORM's CARD OF 'invigilatorlaw08.FindsSorts'. -/
def findsSortsUptoCard : Claim7 := { stood := { row := findsSortsUptoRow, standIns := [], harness := (true, "a5aef371a965f3142832296b948cb4895fd86c06dce701c8c38bfd056a4bdae7"), looks := false }, kinds := [], alts := [], laidByText := true, laidKinds := [.data], laidTests := true, laidLooks := .later }
def FindsSortsUptoCardSaid : Prop := Claim7.holds Tryd.pinned (.plain (OpenSpec.upto findsSortsSpec)) findsSortsUptoCard
end Rows
end Go.Proofs.YtpbfbejckhbijaaDoor
