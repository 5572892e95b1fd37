/-
  DERIVED. GIVEN WITH THE SEED: THE CARDS: each row of YtlbgjlmokpkkeaaGreatDoorRows.lean that lists a variable, with what it lists TIED to the program's text (the seventh form; the later family's looks); each row that meets fmt, with fmt's text TOLD by the authors' own Lean function (tested against real Go, not proved from fmt's source: count such statements apart). THE CARD IS WHAT COUNTS. Prove the row's statement (the work); the ties are given (YtlbgjlmokpkkeaaGreatDoorTie.lean); close each card by the builder's one call (the guide's Derived/Test/ToyasCard.lean, 'card_holds'). Laid BY PROGRAM, IN A SANDBOX (cutbox-door.mjs). By AI agents, Wed Nov 11 2026. No macro, syntax, notation, axiom, sorry.
-/
import Derived.Test.YtlbgjlmokpkkeaaGreatDoorRows
import GoSem.ClaimSeven
namespace Go.Proofs.YtlbgjlmokpkkeaaGreatDoor
namespace Rows

/-- THE TIED CARD OF 'remudalaw31.ServePieces'. -/
def servePiecesCard : Claim7 := { stood := { row := servePiecesRow, standIns := [], harness := (true, "c9b2314fb9163c9be69c8403b613e7aa069144ca84db3d181c1d08fd86481334"), looks := true }, kinds := [], alts := [], laidByText := true, laidKinds := [.data, .handle, .pinned], laidTests := true, laidLooks := .later }
def ServePiecesCardSaid : Prop := Claim7.holds Tryz.pinned (.plain (OpenSpec.ofChange servePiecesSpec)) servePiecesCard

/-- THE TIED CARD OF 'remudalaw31.ServeNobody'. -/
def serveNobodyCard : Claim7 := { stood := { row := serveNobodyRow, standIns := [], harness := (true, "c9b2314fb9163c9be69c8403b613e7aa069144ca84db3d181c1d08fd86481334"), looks := true }, kinds := [], alts := [], laidByText := true, laidKinds := [.data, .handle, .pinned], laidTests := true, laidLooks := .later }
def ServeNobodyCardSaid : Prop := Claim7.holds Tryz.pinned (.plain (OpenSpec.ofChange serveNobodySpec)) serveNobodyCard

/-- THE SECOND FORM's CARD OF 'remudalaw31.ServePieces'. -/
def servePiecesUptoCard : Claim7 := { stood := { row := servePiecesUptoRow, standIns := [], harness := (true, "c9b2314fb9163c9be69c8403b613e7aa069144ca84db3d181c1d08fd86481334"), looks := true }, kinds := [], alts := [], laidByText := true, laidKinds := [.data, .handle, .pinned], laidTests := true, laidLooks := .later }
def ServePiecesUptoCardSaid : Prop := Claim7.holds Tryz.pinned (.plain (OpenSpec.upto servePiecesSpec)) servePiecesUptoCard

/-- THE SECOND FORM's CARD OF 'remudalaw31.ServeNobody'. -/
def serveNobodyUptoCard : Claim7 := { stood := { row := serveNobodyUptoRow, standIns := [], harness := (true, "c9b2314fb9163c9be69c8403b613e7aa069144ca84db3d181c1d08fd86481334"), looks := true }, kinds := [], alts := [], laidByText := true, laidKinds := [.data, .handle, .pinned], laidTests := true, laidLooks := .later }
def ServeNobodyUptoCardSaid : Prop := Claim7.holds Tryz.pinned (.plain (OpenSpec.upto serveNobodySpec)) serveNobodyUptoCard
end Rows
end Go.Proofs.YtlbgjlmokpkkeaaGreatDoor
