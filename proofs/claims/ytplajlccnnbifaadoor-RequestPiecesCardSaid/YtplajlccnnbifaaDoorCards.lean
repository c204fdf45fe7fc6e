/-
  DERIVED. GIVEN WITH THE SEED: THE CARDS: each row of YtplajlccnnbifaaDoorRows.lean that lists a variable, with what it lists TIED to the program's text (the seventh form; the later family's looks); each row that meets fmt, with fmt's text TOLD by the authors' own Lean function (tested against real Go, not proved from fmt's source: count such statements apart). THE CARD IS WHAT COUNTS. Prove the row's statement (the work); the ties are given (YtplajlccnnbifaaDoorTie.lean); close each card by the builder's one call (the guide's Derived/Test/ToyasCard.lean, 'card_holds'). Laid BY PROGRAM, IN A SANDBOX (cutbox-door.mjs). By AI agents, Wed Nov 11 2026. No macro, syntax, notation, axiom, sorry.
-/
import Derived.Test.YtplajlccnnbifaaDoorRows
import GoSem.ClaimSeven
namespace Go.Proofs.YtplajlccnnbifaaDoor
namespace Rows

/-- THE TIED CARD OF 'crierlaw09.RequestPieces'. -/
def requestPiecesCard : Claim7 := { stood := { row := requestPiecesRow, standIns := [], harness := (true, "500cc625c8ab5e41959bcd94ce967e8f8b38e8b281395f04a82ade2b806f265f"), looks := false }, kinds := [], alts := [], laidByText := true, laidKinds := [.data, .pinned], laidTests := true, laidLooks := .later }
def RequestPiecesCardSaid : Prop := Claim7.holds Tryd.pinned (.plain (OpenSpec.ofChange requestPiecesSpec)) requestPiecesCard

/-- THE TIED CARD OF 'crierlaw09.RequestStops'. -/
def requestStopsCard : Claim7 := { stood := { row := requestStopsRow, standIns := [], harness := (true, "500cc625c8ab5e41959bcd94ce967e8f8b38e8b281395f04a82ade2b806f265f"), looks := false }, kinds := [], alts := [], laidByText := true, laidKinds := [.data, .pinned], laidTests := true, laidLooks := .later }
def RequestStopsCardSaid : Prop := Claim7.holds Tryd.pinned (.plain (OpenSpec.ofChange requestStopsSpec)) requestStopsCard

/-- THE SECOND FORM's CARD OF 'crierlaw09.RequestPieces'. -/
def requestPiecesUptoCard : Claim7 := { stood := { row := requestPiecesUptoRow, standIns := [], harness := (true, "500cc625c8ab5e41959bcd94ce967e8f8b38e8b281395f04a82ade2b806f265f"), looks := false }, kinds := [], alts := [], laidByText := true, laidKinds := [.data, .pinned], laidTests := true, laidLooks := .later }
def RequestPiecesUptoCardSaid : Prop := Claim7.holds Tryd.pinned (.plain (OpenSpec.upto requestPiecesSpec)) requestPiecesUptoCard

/-- THE SECOND FORM's CARD OF 'crierlaw09.RequestStops'. -/
def requestStopsUptoCard : Claim7 := { stood := { row := requestStopsUptoRow, standIns := [], harness := (true, "500cc625c8ab5e41959bcd94ce967e8f8b38e8b281395f04a82ade2b806f265f"), looks := false }, kinds := [], alts := [], laidByText := true, laidKinds := [.data, .pinned], laidTests := true, laidLooks := .later }
def RequestStopsUptoCardSaid : Prop := Claim7.holds Tryd.pinned (.plain (OpenSpec.upto requestStopsSpec)) requestStopsUptoCard
end Rows
end Go.Proofs.YtplajlccnnbifaaDoor
