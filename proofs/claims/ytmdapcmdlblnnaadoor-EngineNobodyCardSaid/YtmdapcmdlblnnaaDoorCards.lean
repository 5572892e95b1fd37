/-
  DERIVED. GIVEN WITH THE SEED: THE CARDS: each row of YtmdapcmdlblnnaaDoorRows.lean that lists a variable, with what it lists TIED to the program's text (the seventh form; the later family's looks); each row that meets fmt, with fmt's text TOLD by the authors' own Lean function (tested against real Go, not proved from fmt's source: count such statements apart). THE CARD IS WHAT COUNTS. Prove the row's statement (the work); the ties are given (YtmdapcmdlblnnaaDoorTie.lean); close each card by the builder's one call (the guide's Derived/Test/ToyasCard.lean, 'card_holds'). Laid BY PROGRAM, IN A SANDBOX (cutbox-door.mjs). By AI agents, Wed Nov 11 2026. No macro, syntax, notation, axiom, sorry.
-/
import Derived.Test.YtmdapcmdlblnnaaDoorRows
import GoSem.ClaimSeven
namespace Go.Proofs.YtmdapcmdlblnnaaDoor
namespace Rows

/-- THE TIED CARD OF 'remudalaw27.EngineLives'. -/
def engineLivesCard : Claim7 := { stood := { row := engineLivesRow, standIns := [], harness := (true, "7d7c5906035f1852b68263b4beb5a7323e5046a3de23efaf4599aa5752d04a74"), looks := false }, kinds := [], alts := [], laidByText := true, laidKinds := [.data, .pinned], laidTests := true, laidLooks := .later }
def EngineLivesCardSaid : Prop := Claim7.holds Tryd.pinned (.plain (OpenSpec.ofChange engineLivesSpec)) engineLivesCard

/-- THE TIED CARD OF 'remudalaw27.EngineCounts'. -/
def engineCountsCard : Claim7 := { stood := { row := engineCountsRow, standIns := [], harness := (true, "7d7c5906035f1852b68263b4beb5a7323e5046a3de23efaf4599aa5752d04a74"), looks := false }, kinds := [], alts := [], laidByText := true, laidKinds := [.data, .pinned], laidTests := true, laidLooks := .later }
def EngineCountsCardSaid : Prop := Claim7.holds Tryd.pinned (.plain (OpenSpec.ofChange engineCountsSpec)) engineCountsCard

/-- THE TIED CARD OF 'remudalaw27.EngineNever'. -/
def engineNeverCard : Claim7 := { stood := { row := engineNeverRow, standIns := [], harness := (true, "7d7c5906035f1852b68263b4beb5a7323e5046a3de23efaf4599aa5752d04a74"), looks := false }, kinds := [], alts := [], laidByText := true, laidKinds := [.data, .pinned], laidTests := true, laidLooks := .later }
def EngineNeverCardSaid : Prop := Claim7.holds Tryd.pinned (.plain (OpenSpec.ofChange engineNeverSpec)) engineNeverCard

/-- THE TIED CARD OF 'remudalaw27.EngineNobody'. -/
def engineNobodyCard : Claim7 := { stood := { row := engineNobodyRow, standIns := [], harness := (true, "7d7c5906035f1852b68263b4beb5a7323e5046a3de23efaf4599aa5752d04a74"), looks := false }, kinds := [], alts := [], laidByText := true, laidKinds := [.data, .pinned], laidTests := true, laidLooks := .later }
def EngineNobodyCardSaid : Prop := Claim7.holds Tryd.pinned (.plain (OpenSpec.ofChange engineNobodySpec)) engineNobodyCard

/-- THE SECOND FORM's CARD OF 'remudalaw27.EngineLives'. -/
def engineLivesUptoCard : Claim7 := { stood := { row := engineLivesUptoRow, standIns := [], harness := (true, "7d7c5906035f1852b68263b4beb5a7323e5046a3de23efaf4599aa5752d04a74"), looks := false }, kinds := [], alts := [], laidByText := true, laidKinds := [.data, .pinned], laidTests := true, laidLooks := .later }
def EngineLivesUptoCardSaid : Prop := Claim7.holds Tryd.pinned (.plain (OpenSpec.upto engineLivesSpec)) engineLivesUptoCard

/-- THE SECOND FORM's CARD OF 'remudalaw27.EngineCounts'. -/
def engineCountsUptoCard : Claim7 := { stood := { row := engineCountsUptoRow, standIns := [], harness := (true, "7d7c5906035f1852b68263b4beb5a7323e5046a3de23efaf4599aa5752d04a74"), looks := false }, kinds := [], alts := [], laidByText := true, laidKinds := [.data, .pinned], laidTests := true, laidLooks := .later }
def EngineCountsUptoCardSaid : Prop := Claim7.holds Tryd.pinned (.plain (OpenSpec.upto engineCountsSpec)) engineCountsUptoCard

/-- THE SECOND FORM's CARD OF 'remudalaw27.EngineNever'. -/
def engineNeverUptoCard : Claim7 := { stood := { row := engineNeverUptoRow, standIns := [], harness := (true, "7d7c5906035f1852b68263b4beb5a7323e5046a3de23efaf4599aa5752d04a74"), looks := false }, kinds := [], alts := [], laidByText := true, laidKinds := [.data, .pinned], laidTests := true, laidLooks := .later }
def EngineNeverUptoCardSaid : Prop := Claim7.holds Tryd.pinned (.plain (OpenSpec.upto engineNeverSpec)) engineNeverUptoCard

/-- THE SECOND FORM's CARD OF 'remudalaw27.EngineNobody'. -/
def engineNobodyUptoCard : Claim7 := { stood := { row := engineNobodyUptoRow, standIns := [], harness := (true, "7d7c5906035f1852b68263b4beb5a7323e5046a3de23efaf4599aa5752d04a74"), looks := false }, kinds := [], alts := [], laidByText := true, laidKinds := [.data, .pinned], laidTests := true, laidLooks := .later }
def EngineNobodyUptoCardSaid : Prop := Claim7.holds Tryd.pinned (.plain (OpenSpec.upto engineNobodySpec)) engineNobodyUptoCard
end Rows
end Go.Proofs.YtmdapcmdlblnnaaDoor
