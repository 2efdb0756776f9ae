/-
  DERIVED. GIVEN WITH THE SEED: THE CARDS: each row of YthfpmpmhoegicaaDoorRows.lean that lists a variable, with what it lists TIED to the program's text (the seventh form; the later family's looks); each row that meets fmt, with fmt's text TOLD by the authors' own Lean function (tested against real Go, not proved from fmt's source: count such statements apart). THE CARD IS WHAT COUNTS. Prove the row's statement (the work); the ties are given (YthfpmpmhoegicaaDoorTie.lean); close each card by the builder's one call (the guide's Derived/Test/ToyasCard.lean, 'card_holds'). Laid BY PROGRAM, IN A SANDBOX (cutbox-door.mjs). By AI agents, Wed Nov 11 2026. No macro, syntax, notation, axiom, sorry.
-/
import Derived.Test.YthfpmpmhoegicaaDoorRows
import GoSem.ClaimSeven
namespace Go.Proofs.YthfpmpmhoegicaaDoor
namespace Rows

/-- THE TIED CARD OF 'invigilatorlaw11.FoldsFlat'. -/
def foldsFlatCard : Claim7 := { stood := { row := foldsFlatRow, standIns := [], harness := (true, "8021c2b7f9dd5c5b1835451cf31e032798c42677bfb77e3b92dcdc791d9370b7"), looks := false }, kinds := [], alts := [], laidByText := true, laidKinds := [.data], laidTests := true, laidLooks := .later }
def FoldsFlatCardSaid : Prop := Claim7.holds Tryd.pinned (.plain (OpenSpec.ofChange foldsFlatSpec)) foldsFlatCard

/-- THE TIED CARD OF 'invigilatorlaw08.FindsShapes'. -/
def findsShapesCard : Claim7 := { stood := { row := findsShapesRow, standIns := [], harness := (true, "8021c2b7f9dd5c5b1835451cf31e032798c42677bfb77e3b92dcdc791d9370b7"), looks := false }, kinds := [], alts := [], laidByText := true, laidKinds := [.data], laidTests := true, laidLooks := .later }
def FindsShapesCardSaid : Prop := Claim7.holds Tryd.pinned (.plain (OpenSpec.ofChange findsShapesSpec)) findsShapesCard

/-- THE TIED CARD OF 'invigilatorlaw08.FindsPlaces'. -/
def findsPlacesCard : Claim7 := { stood := { row := findsPlacesRow, standIns := [], harness := (true, "8021c2b7f9dd5c5b1835451cf31e032798c42677bfb77e3b92dcdc791d9370b7"), looks := false }, kinds := [], alts := [], laidByText := true, laidKinds := [.data], laidTests := true, laidLooks := .later }
def FindsPlacesCardSaid : Prop := Claim7.holds Tryd.pinned (.plain (OpenSpec.ofChange findsPlacesSpec)) findsPlacesCard

/-- THE TIED CARD OF 'invigilatorlaw08.FindsChoices'. -/
def findsChoicesCard : Claim7 := { stood := { row := findsChoicesRow, standIns := [], harness := (true, "8021c2b7f9dd5c5b1835451cf31e032798c42677bfb77e3b92dcdc791d9370b7"), looks := false }, kinds := [], alts := [], laidByText := true, laidKinds := [.data], laidTests := true, laidLooks := .later }
def FindsChoicesCardSaid : Prop := Claim7.holds Tryd.pinned (.plain (OpenSpec.ofChange findsChoicesSpec)) findsChoicesCard

/-- THE TIED CARD OF 'invigilatorlaw08.FindsSorts'. -/
def findsSortsCard : Claim7 := { stood := { row := findsSortsRow, standIns := [], harness := (true, "8021c2b7f9dd5c5b1835451cf31e032798c42677bfb77e3b92dcdc791d9370b7"), looks := false }, kinds := [], alts := [], laidByText := true, laidKinds := [.data], laidTests := true, laidLooks := .later }
def FindsSortsCardSaid : Prop := Claim7.holds Tryd.pinned (.plain (OpenSpec.ofChange findsSortsSpec)) findsSortsCard

/-- THE TIED CARD OF 'invigilatorlaw08.FindsLooks'. -/
def findsLooksCard : Claim7 := { stood := { row := findsLooksRow, standIns := [], harness := (true, "8021c2b7f9dd5c5b1835451cf31e032798c42677bfb77e3b92dcdc791d9370b7"), looks := false }, kinds := [], alts := [], laidByText := true, laidKinds := [.data], laidTests := true, laidLooks := .later }
def FindsLooksCardSaid : Prop := Claim7.holds Tryd.pinned (.plain (OpenSpec.ofChange findsLooksSpec)) findsLooksCard

/-- THE TIED CARD OF 'invigilatorlaw08.FindsMembers'. -/
def findsMembersCard : Claim7 := { stood := { row := findsMembersRow, standIns := [], harness := (true, "8021c2b7f9dd5c5b1835451cf31e032798c42677bfb77e3b92dcdc791d9370b7"), looks := false }, kinds := [], alts := [], laidByText := true, laidKinds := [.data], laidTests := true, laidLooks := .later }
def FindsMembersCardSaid : Prop := Claim7.holds Tryd.pinned (.plain (OpenSpec.ofChange findsMembersSpec)) findsMembersCard

/-- THE TIED CARD OF 'invigilatorlaw08.FindsPicks'. -/
def findsPicksCard : Claim7 := { stood := { row := findsPicksRow, standIns := [], harness := (true, "8021c2b7f9dd5c5b1835451cf31e032798c42677bfb77e3b92dcdc791d9370b7"), looks := false }, kinds := [], alts := [], laidByText := true, laidKinds := [.data], laidTests := true, laidLooks := .later }
def FindsPicksCardSaid : Prop := Claim7.holds Tryd.pinned (.plain (OpenSpec.ofChange findsPicksSpec)) findsPicksCard

/-- THE TIED CARD OF 'invigilatorlaw08.FindsGrids'. -/
def findsGridsCard : Claim7 := { stood := { row := findsGridsRow, standIns := [], harness := (true, "8021c2b7f9dd5c5b1835451cf31e032798c42677bfb77e3b92dcdc791d9370b7"), looks := false }, kinds := [], alts := [], laidByText := true, laidKinds := [.data], laidTests := true, laidLooks := .later }
def FindsGridsCardSaid : Prop := Claim7.holds Tryd.pinned (.plain (OpenSpec.ofChange findsGridsSpec)) findsGridsCard

/-- THE SECOND FORM's CARD OF 'invigilatorlaw11.FoldsFlat'. -/
def foldsFlatUptoCard : Claim7 := { stood := { row := foldsFlatUptoRow, standIns := [], harness := (true, "8021c2b7f9dd5c5b1835451cf31e032798c42677bfb77e3b92dcdc791d9370b7"), looks := false }, kinds := [], alts := [], laidByText := true, laidKinds := [.data], laidTests := true, laidLooks := .later }
def FoldsFlatUptoCardSaid : Prop := Claim7.holds Tryd.pinned (.plain (OpenSpec.upto foldsFlatSpec)) foldsFlatUptoCard

/-- THE SECOND FORM's CARD OF 'invigilatorlaw08.FindsShapes'. -/
def findsShapesUptoCard : Claim7 := { stood := { row := findsShapesUptoRow, standIns := [], harness := (true, "8021c2b7f9dd5c5b1835451cf31e032798c42677bfb77e3b92dcdc791d9370b7"), looks := false }, kinds := [], alts := [], laidByText := true, laidKinds := [.data], laidTests := true, laidLooks := .later }
def FindsShapesUptoCardSaid : Prop := Claim7.holds Tryd.pinned (.plain (OpenSpec.upto findsShapesSpec)) findsShapesUptoCard

/-- THE SECOND FORM's CARD OF 'invigilatorlaw08.FindsPlaces'. -/
def findsPlacesUptoCard : Claim7 := { stood := { row := findsPlacesUptoRow, standIns := [], harness := (true, "8021c2b7f9dd5c5b1835451cf31e032798c42677bfb77e3b92dcdc791d9370b7"), looks := false }, kinds := [], alts := [], laidByText := true, laidKinds := [.data], laidTests := true, laidLooks := .later }
def FindsPlacesUptoCardSaid : Prop := Claim7.holds Tryd.pinned (.plain (OpenSpec.upto findsPlacesSpec)) findsPlacesUptoCard

/-- THE SECOND FORM's CARD OF 'invigilatorlaw08.FindsChoices'. -/
def findsChoicesUptoCard : Claim7 := { stood := { row := findsChoicesUptoRow, standIns := [], harness := (true, "8021c2b7f9dd5c5b1835451cf31e032798c42677bfb77e3b92dcdc791d9370b7"), looks := false }, kinds := [], alts := [], laidByText := true, laidKinds := [.data], laidTests := true, laidLooks := .later }
def FindsChoicesUptoCardSaid : Prop := Claim7.holds Tryd.pinned (.plain (OpenSpec.upto findsChoicesSpec)) findsChoicesUptoCard

/-- THE SECOND FORM's CARD OF 'invigilatorlaw08.FindsSorts'. -/
def findsSortsUptoCard : Claim7 := { stood := { row := findsSortsUptoRow, standIns := [], harness := (true, "8021c2b7f9dd5c5b1835451cf31e032798c42677bfb77e3b92dcdc791d9370b7"), looks := false }, kinds := [], alts := [], laidByText := true, laidKinds := [.data], laidTests := true, laidLooks := .later }
def FindsSortsUptoCardSaid : Prop := Claim7.holds Tryd.pinned (.plain (OpenSpec.upto findsSortsSpec)) findsSortsUptoCard

/-- THE SECOND FORM's CARD OF 'invigilatorlaw08.FindsLooks'. -/
def findsLooksUptoCard : Claim7 := { stood := { row := findsLooksUptoRow, standIns := [], harness := (true, "8021c2b7f9dd5c5b1835451cf31e032798c42677bfb77e3b92dcdc791d9370b7"), looks := false }, kinds := [], alts := [], laidByText := true, laidKinds := [.data], laidTests := true, laidLooks := .later }
def FindsLooksUptoCardSaid : Prop := Claim7.holds Tryd.pinned (.plain (OpenSpec.upto findsLooksSpec)) findsLooksUptoCard

/-- THE SECOND FORM's CARD OF 'invigilatorlaw08.FindsMembers'. -/
def findsMembersUptoCard : Claim7 := { stood := { row := findsMembersUptoRow, standIns := [], harness := (true, "8021c2b7f9dd5c5b1835451cf31e032798c42677bfb77e3b92dcdc791d9370b7"), looks := false }, kinds := [], alts := [], laidByText := true, laidKinds := [.data], laidTests := true, laidLooks := .later }
def FindsMembersUptoCardSaid : Prop := Claim7.holds Tryd.pinned (.plain (OpenSpec.upto findsMembersSpec)) findsMembersUptoCard

/-- THE SECOND FORM's CARD OF 'invigilatorlaw08.FindsPicks'. -/
def findsPicksUptoCard : Claim7 := { stood := { row := findsPicksUptoRow, standIns := [], harness := (true, "8021c2b7f9dd5c5b1835451cf31e032798c42677bfb77e3b92dcdc791d9370b7"), looks := false }, kinds := [], alts := [], laidByText := true, laidKinds := [.data], laidTests := true, laidLooks := .later }
def FindsPicksUptoCardSaid : Prop := Claim7.holds Tryd.pinned (.plain (OpenSpec.upto findsPicksSpec)) findsPicksUptoCard

/-- THE SECOND FORM's CARD OF 'invigilatorlaw08.FindsGrids'. -/
def findsGridsUptoCard : Claim7 := { stood := { row := findsGridsUptoRow, standIns := [], harness := (true, "8021c2b7f9dd5c5b1835451cf31e032798c42677bfb77e3b92dcdc791d9370b7"), looks := false }, kinds := [], alts := [], laidByText := true, laidKinds := [.data], laidTests := true, laidLooks := .later }
def FindsGridsUptoCardSaid : Prop := Claim7.holds Tryd.pinned (.plain (OpenSpec.upto findsGridsSpec)) findsGridsUptoCard
end Rows
end Go.Proofs.YthfpmpmhoegicaaDoor
