/-
  DERIVED. GIVEN WITH THE SEED: THE CARDS: each row of YthielckgianmgaaDoorRows.lean that lists a variable, with what it lists TIED to the program's text (the seventh form; the later family's looks); each row that meets fmt, with fmt's text TOLD by the authors' own Lean function (tested against real Go, not proved from fmt's source: count such statements apart). THE CARD IS WHAT COUNTS. Prove the row's statement (the work); the ties are given (YthielckgianmgaaDoorTie.lean); close each card by the builder's one call (the guide's Derived/Test/ToyasCard.lean, 'card_holds'). Laid BY PROGRAM, IN A SANDBOX (cutbox-door.mjs). By AI agents, Wed Nov 11 2026. No macro, syntax, notation, axiom, sorry.
-/
import Derived.Test.YthielckgianmgaaDoorRows
import GoSem.ClaimSeven
namespace Go.Proofs.YthielckgianmgaaDoor
namespace Rows

/-- THE TIED CARD OF 'remudalaw26.SqlTells'. -/
def sqlTellsCard : Claim7 := { stood := { row := sqlTellsRow, standIns := [], harness := (true, "4bad6c3569888bc7e5edeff2f0d927aa0e409919f228b8d712a2963c3b010752"), looks := false }, kinds := [], alts := [], laidByText := true, laidKinds := [.data, .pinned], laidTests := true, laidLooks := .later }
def SqlTellsCardSaid : Prop := Claim7.holds Tryd.pinned (.plain (OpenSpec.ofChange sqlTellsSpec)) sqlTellsCard

/-- THE TIED CARD OF 'remudalaw26.SqlBack'. -/
def sqlBackCard : Claim7 := { stood := { row := sqlBackRow, standIns := [], harness := (true, "4bad6c3569888bc7e5edeff2f0d927aa0e409919f228b8d712a2963c3b010752"), looks := false }, kinds := [], alts := [], laidByText := true, laidKinds := [.data, .pinned], laidTests := true, laidLooks := .later }
def SqlBackCardSaid : Prop := Claim7.holds Tryd.pinned (.plain (OpenSpec.ofChange sqlBackSpec)) sqlBackCard

/-- THE SECOND FORM's CARD OF 'remudalaw26.SqlTells'. -/
def sqlTellsUptoCard : Claim7 := { stood := { row := sqlTellsUptoRow, standIns := [], harness := (true, "4bad6c3569888bc7e5edeff2f0d927aa0e409919f228b8d712a2963c3b010752"), looks := false }, kinds := [], alts := [], laidByText := true, laidKinds := [.data, .pinned], laidTests := true, laidLooks := .later }
def SqlTellsUptoCardSaid : Prop := Claim7.holds Tryd.pinned (.plain (OpenSpec.upto sqlTellsSpec)) sqlTellsUptoCard

/-- THE SECOND FORM's CARD OF 'remudalaw26.SqlBack'. -/
def sqlBackUptoCard : Claim7 := { stood := { row := sqlBackUptoRow, standIns := [], harness := (true, "4bad6c3569888bc7e5edeff2f0d927aa0e409919f228b8d712a2963c3b010752"), looks := false }, kinds := [], alts := [], laidByText := true, laidKinds := [.data, .pinned], laidTests := true, laidLooks := .later }
def SqlBackUptoCardSaid : Prop := Claim7.holds Tryd.pinned (.plain (OpenSpec.upto sqlBackSpec)) sqlBackUptoCard
end Rows
end Go.Proofs.YthielckgianmgaaDoor
