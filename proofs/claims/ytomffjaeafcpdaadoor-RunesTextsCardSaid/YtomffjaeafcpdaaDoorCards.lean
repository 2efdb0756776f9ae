/-
  DERIVED. GIVEN WITH THE SEED: THE CARDS: each row of YtomffjaeafcpdaaDoorRows.lean that lists a variable, with what it lists TIED to the program's text (the seventh form; the later family's looks); each row that meets fmt, with fmt's text TOLD by the authors' own Lean function (tested against real Go, not proved from fmt's source: count such statements apart). THE CARD IS WHAT COUNTS. Prove the row's statement (the work); the ties are given (YtomffjaeafcpdaaDoorTie.lean); close each card by the builder's one call (the guide's Derived/Test/ToyasCard.lean, 'card_holds'). Laid BY PROGRAM, IN A SANDBOX (cutbox-door.mjs). By AI agents, Wed Nov 11 2026. No macro, syntax, notation, axiom, sorry.
-/
import Derived.Test.YtomffjaeafcpdaaDoorRows
import GoSem.ClaimSeven
namespace Go.Proofs.YtomffjaeafcpdaaDoor
namespace Rows

/-- THE TIED CARD OF 'invigilatorlaw02.RunesDecodes'. -/
def runesDecodesCard : Claim7 := { stood := { row := runesDecodesRow, standIns := [], harness := (true, "4bd56dd9ca5f7c76ab1bf999c5809e86ec6e112188dfa3032dfcbdbdfecd971c"), looks := false }, kinds := [], alts := [], laidByText := true, laidKinds := [.data, .data, .data, .pinned], laidTests := true, laidLooks := .later }
def RunesDecodesCardSaid : Prop := Claim7.holds Tryd.pinned (.plain (OpenSpec.ofChange runesDecodesSpec)) runesDecodesCard

/-- THE TIED CARD OF 'invigilatorlaw02.RunesTexts'. -/
def runesTextsCard : Claim7 := { stood := { row := runesTextsRow, standIns := [], harness := (true, "4bd56dd9ca5f7c76ab1bf999c5809e86ec6e112188dfa3032dfcbdbdfecd971c"), looks := false }, kinds := [], alts := [], laidByText := true, laidKinds := [.data, .data, .data, .pinned], laidTests := true, laidLooks := .later }
def RunesTextsCardSaid : Prop := Claim7.holds Tryd.pinned (.plain (OpenSpec.ofChange runesTextsSpec)) runesTextsCard

/-- THE TIED CARD OF 'invigilatorlaw02.RunesStarts'. -/
def runesStartsCard : Claim7 := { stood := { row := runesStartsRow, standIns := [], harness := (true, "4bd56dd9ca5f7c76ab1bf999c5809e86ec6e112188dfa3032dfcbdbdfecd971c"), looks := false }, kinds := [], alts := [], laidByText := true, laidKinds := [.data, .data, .data, .pinned], laidTests := true, laidLooks := .later }
def RunesStartsCardSaid : Prop := Claim7.holds Tryd.pinned (.plain (OpenSpec.ofChange runesStartsSpec)) runesStartsCard

/-- THE SECOND FORM's CARD OF 'invigilatorlaw02.RunesDecodes'. -/
def runesDecodesUptoCard : Claim7 := { stood := { row := runesDecodesUptoRow, standIns := [], harness := (true, "4bd56dd9ca5f7c76ab1bf999c5809e86ec6e112188dfa3032dfcbdbdfecd971c"), looks := false }, kinds := [], alts := [], laidByText := true, laidKinds := [.data, .data, .data, .pinned], laidTests := true, laidLooks := .later }
def RunesDecodesUptoCardSaid : Prop := Claim7.holds Tryd.pinned (.plain (OpenSpec.upto runesDecodesSpec)) runesDecodesUptoCard

/-- THE SECOND FORM's CARD OF 'invigilatorlaw02.RunesTexts'. -/
def runesTextsUptoCard : Claim7 := { stood := { row := runesTextsUptoRow, standIns := [], harness := (true, "4bd56dd9ca5f7c76ab1bf999c5809e86ec6e112188dfa3032dfcbdbdfecd971c"), looks := false }, kinds := [], alts := [], laidByText := true, laidKinds := [.data, .data, .data, .pinned], laidTests := true, laidLooks := .later }
def RunesTextsUptoCardSaid : Prop := Claim7.holds Tryd.pinned (.plain (OpenSpec.upto runesTextsSpec)) runesTextsUptoCard

/-- THE SECOND FORM's CARD OF 'invigilatorlaw02.RunesStarts'. -/
def runesStartsUptoCard : Claim7 := { stood := { row := runesStartsUptoRow, standIns := [], harness := (true, "4bd56dd9ca5f7c76ab1bf999c5809e86ec6e112188dfa3032dfcbdbdfecd971c"), looks := false }, kinds := [], alts := [], laidByText := true, laidKinds := [.data, .data, .data, .pinned], laidTests := true, laidLooks := .later }
def RunesStartsUptoCardSaid : Prop := Claim7.holds Tryd.pinned (.plain (OpenSpec.upto runesStartsSpec)) runesStartsUptoCard
end Rows
end Go.Proofs.YtomffjaeafcpdaaDoor
