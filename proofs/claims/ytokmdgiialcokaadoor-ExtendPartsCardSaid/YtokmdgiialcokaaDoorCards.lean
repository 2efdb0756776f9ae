/-
  DERIVED. GIVEN WITH THE SEED: THE CARDS: each row of YtokmdgiialcokaaDoorRows.lean that lists a variable, with what it lists TIED to the program's text (the seventh form; the later family's looks); each row that meets fmt, with fmt's text TOLD by the authors' own Lean function (tested against real Go, not proved from fmt's source: count such statements apart). THE CARD IS WHAT COUNTS. Prove the row's statement (the work); the ties are given (YtokmdgiialcokaaDoorTie.lean); close each card by the builder's one call (the guide's Derived/Test/ToyasCard.lean, 'card_holds'). Laid BY PROGRAM, IN A SANDBOX (cutbox-door.mjs). By AI agents, Wed Nov 11 2026. No macro, syntax, notation, axiom, sorry.
-/
import Derived.Test.YtokmdgiialcokaaDoorRows
import GoSem.ClaimSeven
namespace Go.Proofs.YtokmdgiialcokaaDoor
namespace Rows

/-- THE TIED CARD OF 'invigilatorlaw10.ExtendTurns'. -/
def extendTurnsCard : Claim7 := { stood := { row := extendTurnsRow, standIns := [], harness := (true, "5c564eb8414335395216a311cab46c7eb90a886898b7b49c5c666d005102884f"), looks := true }, kinds := [], alts := [], laidByText := true, laidKinds := [.data], laidTests := true, laidLooks := .later }
def ExtendTurnsCardSaid : Prop := Claim7.holds Tryd.pinned (.plain (OpenSpec.ofChange extendTurnsSpec)) extendTurnsCard

/-- THE TIED CARD OF 'invigilatorlaw10.ExtendParts'. -/
def extendPartsCard : Claim7 := { stood := { row := extendPartsRow, standIns := [], harness := (true, "5c564eb8414335395216a311cab46c7eb90a886898b7b49c5c666d005102884f"), looks := true }, kinds := [], alts := [], laidByText := true, laidKinds := [.data], laidTests := true, laidLooks := .later }
def ExtendPartsCardSaid : Prop := Claim7.holds Tryd.pinned (.plain (OpenSpec.ofChange extendPartsSpec)) extendPartsCard

/-- THE TIED CARD OF 'invigilatorlaw11.FoldsSums'. -/
def foldsSumsCard : Claim7 := { stood := { row := foldsSumsRow, standIns := [], harness := (true, "5c564eb8414335395216a311cab46c7eb90a886898b7b49c5c666d005102884f"), looks := true }, kinds := [], alts := [], laidByText := true, laidKinds := [.data], laidTests := true, laidLooks := .later }
def FoldsSumsCardSaid : Prop := Claim7.holds Tryd.pinned (.plain (OpenSpec.ofChange foldsSumsSpec)) foldsSumsCard

/-- THE TIED CARD OF 'invigilatorlaw11.FoldsEnds'. -/
def foldsEndsCard : Claim7 := { stood := { row := foldsEndsRow, standIns := [], harness := (true, "5c564eb8414335395216a311cab46c7eb90a886898b7b49c5c666d005102884f"), looks := true }, kinds := [], alts := [], laidByText := true, laidKinds := [.data], laidTests := true, laidLooks := .later }
def FoldsEndsCardSaid : Prop := Claim7.holds Tryd.pinned (.plain (OpenSpec.ofChange foldsEndsSpec)) foldsEndsCard

/-- THE TIED CARD OF 'invigilatorlaw11.FoldsScans'. -/
def foldsScansCard : Claim7 := { stood := { row := foldsScansRow, standIns := [], harness := (true, "5c564eb8414335395216a311cab46c7eb90a886898b7b49c5c666d005102884f"), looks := true }, kinds := [], alts := [], laidByText := true, laidKinds := [.data], laidTests := true, laidLooks := .later }
def FoldsScansCardSaid : Prop := Claim7.holds Tryd.pinned (.plain (OpenSpec.ofChange foldsScansSpec)) foldsScansCard

/-- THE TIED CARD OF 'invigilatorlaw11.FoldsBounds'. -/
def foldsBoundsCard : Claim7 := { stood := { row := foldsBoundsRow, standIns := [], harness := (true, "5c564eb8414335395216a311cab46c7eb90a886898b7b49c5c666d005102884f"), looks := true }, kinds := [], alts := [], laidByText := true, laidKinds := [.data], laidTests := true, laidLooks := .later }
def FoldsBoundsCardSaid : Prop := Claim7.holds Tryd.pinned (.plain (OpenSpec.ofChange foldsBoundsSpec)) foldsBoundsCard

/-- THE TIED CARD OF 'invigilatorlaw11.FoldsParts'. -/
def foldsPartsCard : Claim7 := { stood := { row := foldsPartsRow, standIns := [], harness := (true, "5c564eb8414335395216a311cab46c7eb90a886898b7b49c5c666d005102884f"), looks := true }, kinds := [], alts := [], laidByText := true, laidKinds := [.data], laidTests := true, laidLooks := .later }
def FoldsPartsCardSaid : Prop := Claim7.holds Tryd.pinned (.plain (OpenSpec.ofChange foldsPartsSpec)) foldsPartsCard

/-- THE TIED CARD OF 'invigilatorlaw11.FoldsRows'. -/
def foldsRowsCard : Claim7 := { stood := { row := foldsRowsRow, standIns := [], harness := (true, "5c564eb8414335395216a311cab46c7eb90a886898b7b49c5c666d005102884f"), looks := true }, kinds := [], alts := [], laidByText := true, laidKinds := [.data], laidTests := true, laidLooks := .later }
def FoldsRowsCardSaid : Prop := Claim7.holds Tryd.pinned (.plain (OpenSpec.ofChange foldsRowsSpec)) foldsRowsCard

/-- THE TIED CARD OF 'invigilatorlaw11.FoldsChains'. -/
def foldsChainsCard : Claim7 := { stood := { row := foldsChainsRow, standIns := [], harness := (true, "5c564eb8414335395216a311cab46c7eb90a886898b7b49c5c666d005102884f"), looks := true }, kinds := [], alts := [], laidByText := true, laidKinds := [.data], laidTests := true, laidLooks := .later }
def FoldsChainsCardSaid : Prop := Claim7.holds Tryd.pinned (.plain (OpenSpec.ofChange foldsChainsSpec)) foldsChainsCard

/-- THE TIED CARD OF 'invigilatorlaw11.FoldsFlat'. -/
def foldsFlatCard : Claim7 := { stood := { row := foldsFlatRow, standIns := [], harness := (true, "5c564eb8414335395216a311cab46c7eb90a886898b7b49c5c666d005102884f"), looks := true }, kinds := [], alts := [], laidByText := true, laidKinds := [.data], laidTests := true, laidLooks := .later }
def FoldsFlatCardSaid : Prop := Claim7.holds Tryd.pinned (.plain (OpenSpec.ofChange foldsFlatSpec)) foldsFlatCard

/-- THE SECOND FORM's CARD OF 'invigilatorlaw10.ExtendTurns'. -/
def extendTurnsUptoCard : Claim7 := { stood := { row := extendTurnsUptoRow, standIns := [], harness := (true, "5c564eb8414335395216a311cab46c7eb90a886898b7b49c5c666d005102884f"), looks := true }, kinds := [], alts := [], laidByText := true, laidKinds := [.data], laidTests := true, laidLooks := .later }
def ExtendTurnsUptoCardSaid : Prop := Claim7.holds Tryd.pinned (.plain (OpenSpec.upto extendTurnsSpec)) extendTurnsUptoCard

/-- THE SECOND FORM's CARD OF 'invigilatorlaw10.ExtendParts'. -/
def extendPartsUptoCard : Claim7 := { stood := { row := extendPartsUptoRow, standIns := [], harness := (true, "5c564eb8414335395216a311cab46c7eb90a886898b7b49c5c666d005102884f"), looks := true }, kinds := [], alts := [], laidByText := true, laidKinds := [.data], laidTests := true, laidLooks := .later }
def ExtendPartsUptoCardSaid : Prop := Claim7.holds Tryd.pinned (.plain (OpenSpec.upto extendPartsSpec)) extendPartsUptoCard

/-- THE SECOND FORM's CARD OF 'invigilatorlaw11.FoldsSums'. -/
def foldsSumsUptoCard : Claim7 := { stood := { row := foldsSumsUptoRow, standIns := [], harness := (true, "5c564eb8414335395216a311cab46c7eb90a886898b7b49c5c666d005102884f"), looks := true }, kinds := [], alts := [], laidByText := true, laidKinds := [.data], laidTests := true, laidLooks := .later }
def FoldsSumsUptoCardSaid : Prop := Claim7.holds Tryd.pinned (.plain (OpenSpec.upto foldsSumsSpec)) foldsSumsUptoCard

/-- THE SECOND FORM's CARD OF 'invigilatorlaw11.FoldsEnds'. -/
def foldsEndsUptoCard : Claim7 := { stood := { row := foldsEndsUptoRow, standIns := [], harness := (true, "5c564eb8414335395216a311cab46c7eb90a886898b7b49c5c666d005102884f"), looks := true }, kinds := [], alts := [], laidByText := true, laidKinds := [.data], laidTests := true, laidLooks := .later }
def FoldsEndsUptoCardSaid : Prop := Claim7.holds Tryd.pinned (.plain (OpenSpec.upto foldsEndsSpec)) foldsEndsUptoCard

/-- THE SECOND FORM's CARD OF 'invigilatorlaw11.FoldsScans'. -/
def foldsScansUptoCard : Claim7 := { stood := { row := foldsScansUptoRow, standIns := [], harness := (true, "5c564eb8414335395216a311cab46c7eb90a886898b7b49c5c666d005102884f"), looks := true }, kinds := [], alts := [], laidByText := true, laidKinds := [.data], laidTests := true, laidLooks := .later }
def FoldsScansUptoCardSaid : Prop := Claim7.holds Tryd.pinned (.plain (OpenSpec.upto foldsScansSpec)) foldsScansUptoCard

/-- THE SECOND FORM's CARD OF 'invigilatorlaw11.FoldsBounds'. -/
def foldsBoundsUptoCard : Claim7 := { stood := { row := foldsBoundsUptoRow, standIns := [], harness := (true, "5c564eb8414335395216a311cab46c7eb90a886898b7b49c5c666d005102884f"), looks := true }, kinds := [], alts := [], laidByText := true, laidKinds := [.data], laidTests := true, laidLooks := .later }
def FoldsBoundsUptoCardSaid : Prop := Claim7.holds Tryd.pinned (.plain (OpenSpec.upto foldsBoundsSpec)) foldsBoundsUptoCard

/-- THE SECOND FORM's CARD OF 'invigilatorlaw11.FoldsParts'. -/
def foldsPartsUptoCard : Claim7 := { stood := { row := foldsPartsUptoRow, standIns := [], harness := (true, "5c564eb8414335395216a311cab46c7eb90a886898b7b49c5c666d005102884f"), looks := true }, kinds := [], alts := [], laidByText := true, laidKinds := [.data], laidTests := true, laidLooks := .later }
def FoldsPartsUptoCardSaid : Prop := Claim7.holds Tryd.pinned (.plain (OpenSpec.upto foldsPartsSpec)) foldsPartsUptoCard

/-- THE SECOND FORM's CARD OF 'invigilatorlaw11.FoldsRows'. -/
def foldsRowsUptoCard : Claim7 := { stood := { row := foldsRowsUptoRow, standIns := [], harness := (true, "5c564eb8414335395216a311cab46c7eb90a886898b7b49c5c666d005102884f"), looks := true }, kinds := [], alts := [], laidByText := true, laidKinds := [.data], laidTests := true, laidLooks := .later }
def FoldsRowsUptoCardSaid : Prop := Claim7.holds Tryd.pinned (.plain (OpenSpec.upto foldsRowsSpec)) foldsRowsUptoCard

/-- THE SECOND FORM's CARD OF 'invigilatorlaw11.FoldsChains'. -/
def foldsChainsUptoCard : Claim7 := { stood := { row := foldsChainsUptoRow, standIns := [], harness := (true, "5c564eb8414335395216a311cab46c7eb90a886898b7b49c5c666d005102884f"), looks := true }, kinds := [], alts := [], laidByText := true, laidKinds := [.data], laidTests := true, laidLooks := .later }
def FoldsChainsUptoCardSaid : Prop := Claim7.holds Tryd.pinned (.plain (OpenSpec.upto foldsChainsSpec)) foldsChainsUptoCard

/-- THE SECOND FORM's CARD OF 'invigilatorlaw11.FoldsFlat'. -/
def foldsFlatUptoCard : Claim7 := { stood := { row := foldsFlatUptoRow, standIns := [], harness := (true, "5c564eb8414335395216a311cab46c7eb90a886898b7b49c5c666d005102884f"), looks := true }, kinds := [], alts := [], laidByText := true, laidKinds := [.data], laidTests := true, laidLooks := .later }
def FoldsFlatUptoCardSaid : Prop := Claim7.holds Tryd.pinned (.plain (OpenSpec.upto foldsFlatSpec)) foldsFlatUptoCard
end Rows
end Go.Proofs.YtokmdgiialcokaaDoor
