/-
  DERIVED. GIVEN WITH THE SEED: THE CARDS: each row of YtebggfghemblbaaDoorRows.lean that lists a variable, with what it lists TIED to the program's text (the seventh form; the later family's looks); each row that meets fmt, with fmt's text TOLD by the authors' own Lean function (tested against real Go, not proved from fmt's source: count such statements apart). THE CARD IS WHAT COUNTS. Prove the row's statement (the work); the ties are given (YtebggfghemblbaaDoorTie.lean); close each card by the builder's one call (the guide's Derived/Test/ToyasCard.lean, 'card_holds'). Laid BY PROGRAM, IN A SANDBOX (cutbox-door.mjs). By AI agents, Wed Nov 11 2026. No macro, syntax, notation, axiom, sorry.
-/
import Derived.Test.YtebggfghemblbaaDoorRows
import GoSem.ClaimSeven
namespace Go.Proofs.YtebggfghemblbaaDoor
namespace Rows

/-- THE TIED CARD OF 'remudalaw09.TellRenames'. -/
def tellRenamesCard : Claim7 := { stood := { row := tellRenamesRow, standIns := [], harness := (true, "cdd36a9dbd11a5b82885236cbb80575ccdb4bdb73480b52c3174005fa5572028"), looks := false }, kinds := [], alts := [], laidByText := true, laidKinds := [.data, .pinned], laidTests := true, laidLooks := .later }
def TellRenamesCardSaid : Prop := Claim7.holds Tryd.pinned (.plain (OpenSpec.ofChange tellRenamesSpec)) tellRenamesCard

/-- THE TIED CARD OF 'remudalaw09.TellSays'. -/
def tellSaysCard : Claim7 := { stood := { row := tellSaysRow, standIns := [], harness := (true, "cdd36a9dbd11a5b82885236cbb80575ccdb4bdb73480b52c3174005fa5572028"), looks := false }, kinds := [], alts := [], laidByText := true, laidKinds := [.data, .pinned], laidTests := true, laidLooks := .later }
def TellSaysCardSaid : Prop := Claim7.holds Tryd.pinned (.plain (OpenSpec.ofChange tellSaysSpec)) tellSaysCard

/-- THE SECOND FORM's CARD OF 'remudalaw09.TellRenames'. -/
def tellRenamesUptoCard : Claim7 := { stood := { row := tellRenamesUptoRow, standIns := [], harness := (true, "cdd36a9dbd11a5b82885236cbb80575ccdb4bdb73480b52c3174005fa5572028"), looks := false }, kinds := [], alts := [], laidByText := true, laidKinds := [.data, .pinned], laidTests := true, laidLooks := .later }
def TellRenamesUptoCardSaid : Prop := Claim7.holds Tryd.pinned (.plain (OpenSpec.upto tellRenamesSpec)) tellRenamesUptoCard

/-- THE SECOND FORM's CARD OF 'remudalaw09.TellSays'. -/
def tellSaysUptoCard : Claim7 := { stood := { row := tellSaysUptoRow, standIns := [], harness := (true, "cdd36a9dbd11a5b82885236cbb80575ccdb4bdb73480b52c3174005fa5572028"), looks := false }, kinds := [], alts := [], laidByText := true, laidKinds := [.data, .pinned], laidTests := true, laidLooks := .later }
def TellSaysUptoCardSaid : Prop := Claim7.holds Tryd.pinned (.plain (OpenSpec.upto tellSaysSpec)) tellSaysUptoCard
end Rows
end Go.Proofs.YtebggfghemblbaaDoor
