/-
  DERIVED. GIVEN WITH THE SEED: THE CARDS: each row of YthielckgianmgaaGreatDoorRows.lean that lists a variable, with what it lists TIED to the program's text (the seventh form; the later family's looks); each row that meets fmt, with fmt's text TOLD by the authors' own Lean function (tested against real Go, not proved from fmt's source: count such statements apart). THE CARD IS WHAT COUNTS. Prove the row's statement (the work); the ties are given (YthielckgianmgaaGreatDoorTie.lean); close each card by the builder's one call (the guide's Derived/Test/ToyasCard.lean, 'card_holds'). Laid BY PROGRAM, IN A SANDBOX (cutbox-door.mjs). By AI agents, Wed Nov 11 2026. No macro, syntax, notation, axiom, sorry.
-/
import Derived.Test.YthielckgianmgaaGreatDoorRows
import GoSem.ClaimSeven
namespace Go.Proofs.YthielckgianmgaaGreatDoor
namespace Rows

/-- THE TIED CARD OF 'remudalaw25.FixTells'. -/
def fixTellsCard : Claim7 := { stood := { row := fixTellsRow, standIns := [], harness := (true, "e29613268a1fcaf2ec0fe5fc326ac9731bf14d9e295aa49132f397e6333a1654"), looks := false }, kinds := [], alts := [], laidByText := true, laidKinds := [.data, .pinned], laidTests := true, laidLooks := .later }
def FixTellsCardSaid : Prop := Claim7.holds Tryz.pinned (.plain (OpenSpec.ofChange fixTellsSpec)) fixTellsCard

/-- THE TIED CARD OF 'remudalaw25.FixStays'. -/
def fixStaysCard : Claim7 := { stood := { row := fixStaysRow, standIns := [], harness := (true, "e29613268a1fcaf2ec0fe5fc326ac9731bf14d9e295aa49132f397e6333a1654"), looks := false }, kinds := [], alts := [], laidByText := true, laidKinds := [.data, .pinned], laidTests := true, laidLooks := .later }
def FixStaysCardSaid : Prop := Claim7.holds Tryz.pinned (.plain (OpenSpec.ofChange fixStaysSpec)) fixStaysCard

/-- THE TIED CARD OF 'remudalaw25.FixSays'. -/
def fixSaysCard : Claim7 := { stood := { row := fixSaysRow, standIns := [], harness := (true, "e29613268a1fcaf2ec0fe5fc326ac9731bf14d9e295aa49132f397e6333a1654"), looks := false }, kinds := [], alts := [], laidByText := true, laidKinds := [.data, .pinned], laidTests := true, laidLooks := .later }
def FixSaysCardSaid : Prop := Claim7.holds Tryz.pinned (.plain (OpenSpec.ofChange fixSaysSpec)) fixSaysCard

/-- THE SECOND FORM's CARD OF 'remudalaw25.FixTells'. -/
def fixTellsUptoCard : Claim7 := { stood := { row := fixTellsUptoRow, standIns := [], harness := (true, "e29613268a1fcaf2ec0fe5fc326ac9731bf14d9e295aa49132f397e6333a1654"), looks := false }, kinds := [], alts := [], laidByText := true, laidKinds := [.data, .pinned], laidTests := true, laidLooks := .later }
def FixTellsUptoCardSaid : Prop := Claim7.holds Tryz.pinned (.plain (OpenSpec.upto fixTellsSpec)) fixTellsUptoCard

/-- THE SECOND FORM's CARD OF 'remudalaw25.FixStays'. -/
def fixStaysUptoCard : Claim7 := { stood := { row := fixStaysUptoRow, standIns := [], harness := (true, "e29613268a1fcaf2ec0fe5fc326ac9731bf14d9e295aa49132f397e6333a1654"), looks := false }, kinds := [], alts := [], laidByText := true, laidKinds := [.data, .pinned], laidTests := true, laidLooks := .later }
def FixStaysUptoCardSaid : Prop := Claim7.holds Tryz.pinned (.plain (OpenSpec.upto fixStaysSpec)) fixStaysUptoCard

/-- THE SECOND FORM's CARD OF 'remudalaw25.FixSays'. -/
def fixSaysUptoCard : Claim7 := { stood := { row := fixSaysUptoRow, standIns := [], harness := (true, "e29613268a1fcaf2ec0fe5fc326ac9731bf14d9e295aa49132f397e6333a1654"), looks := false }, kinds := [], alts := [], laidByText := true, laidKinds := [.data, .pinned], laidTests := true, laidLooks := .later }
def FixSaysUptoCardSaid : Prop := Claim7.holds Tryz.pinned (.plain (OpenSpec.upto fixSaysSpec)) fixSaysUptoCard
end Rows
end Go.Proofs.YthielckgianmgaaGreatDoor
