/-
  DERIVED. GIVEN WITH THE SEED: THE CARDS: each row of YthilellmckhejaaDoorRows.lean that lists a variable, with what it lists TIED to the program's text (the seventh form; the later family's looks); each row that meets fmt, with fmt's text TOLD by the authors' own Lean function (tested against real Go, not proved from fmt's source: count such statements apart). THE CARD IS WHAT COUNTS. Prove the row's statement (the work); the ties are given (YthilellmckhejaaDoorTie.lean); close each card by the builder's one call (the guide's Derived/Test/ToyasCard.lean, 'card_holds'). Laid BY PROGRAM, IN A SANDBOX (cutbox-door.mjs). By AI agents, Wed Nov 11 2026. No macro, syntax, notation, axiom, sorry.
-/
import Derived.Test.YthilellmckhejaaDoorRows
import GoSem.ClaimSeven
namespace Go.Proofs.YthilellmckhejaaDoor
namespace Rows

/-- THE TIED CARD OF 'remudalaw09.TellTells'. -/
def tellTellsCard : Claim7 := { stood := { row := tellTellsRow, standIns := [], harness := (true, "738fce5e4b732446bd5f9ec75057be564275680ecb5afff8e1e2d336eeaf3b9f"), looks := false }, kinds := [], alts := [], laidByText := true, laidKinds := [.data, .pinned], laidTests := true, laidLooks := .later }
def TellTellsCardSaid : Prop := Claim7.holds Tryd.pinned (.plain (OpenSpec.ofChange tellTellsSpec)) tellTellsCard

/-- THE TIED CARD OF 'remudalaw09.TellRenames'. -/
def tellRenamesCard : Claim7 := { stood := { row := tellRenamesRow, standIns := [], harness := (true, "738fce5e4b732446bd5f9ec75057be564275680ecb5afff8e1e2d336eeaf3b9f"), looks := false }, kinds := [], alts := [], laidByText := true, laidKinds := [.data, .pinned], laidTests := true, laidLooks := .later }
def TellRenamesCardSaid : Prop := Claim7.holds Tryd.pinned (.plain (OpenSpec.ofChange tellRenamesSpec)) tellRenamesCard

/-- THE TIED CARD OF 'remudalaw09.TellSays'. -/
def tellSaysCard : Claim7 := { stood := { row := tellSaysRow, standIns := [], harness := (true, "738fce5e4b732446bd5f9ec75057be564275680ecb5afff8e1e2d336eeaf3b9f"), looks := false }, kinds := [], alts := [], laidByText := true, laidKinds := [.data, .pinned], laidTests := true, laidLooks := .later }
def TellSaysCardSaid : Prop := Claim7.holds Tryd.pinned (.plain (OpenSpec.ofChange tellSaysSpec)) tellSaysCard

/-- THE SECOND FORM's CARD OF 'remudalaw09.TellTells'. -/
def tellTellsUptoCard : Claim7 := { stood := { row := tellTellsUptoRow, standIns := [], harness := (true, "738fce5e4b732446bd5f9ec75057be564275680ecb5afff8e1e2d336eeaf3b9f"), looks := false }, kinds := [], alts := [], laidByText := true, laidKinds := [.data, .pinned], laidTests := true, laidLooks := .later }
def TellTellsUptoCardSaid : Prop := Claim7.holds Tryd.pinned (.plain (OpenSpec.upto tellTellsSpec)) tellTellsUptoCard

/-- THE SECOND FORM's CARD OF 'remudalaw09.TellRenames'. -/
def tellRenamesUptoCard : Claim7 := { stood := { row := tellRenamesUptoRow, standIns := [], harness := (true, "738fce5e4b732446bd5f9ec75057be564275680ecb5afff8e1e2d336eeaf3b9f"), looks := false }, kinds := [], alts := [], laidByText := true, laidKinds := [.data, .pinned], laidTests := true, laidLooks := .later }
def TellRenamesUptoCardSaid : Prop := Claim7.holds Tryd.pinned (.plain (OpenSpec.upto tellRenamesSpec)) tellRenamesUptoCard

/-- THE SECOND FORM's CARD OF 'remudalaw09.TellSays'. -/
def tellSaysUptoCard : Claim7 := { stood := { row := tellSaysUptoRow, standIns := [], harness := (true, "738fce5e4b732446bd5f9ec75057be564275680ecb5afff8e1e2d336eeaf3b9f"), looks := false }, kinds := [], alts := [], laidByText := true, laidKinds := [.data, .pinned], laidTests := true, laidLooks := .later }
def TellSaysUptoCardSaid : Prop := Claim7.holds Tryd.pinned (.plain (OpenSpec.upto tellSaysSpec)) tellSaysUptoCard
end Rows
end Go.Proofs.YthilellmckhejaaDoor
