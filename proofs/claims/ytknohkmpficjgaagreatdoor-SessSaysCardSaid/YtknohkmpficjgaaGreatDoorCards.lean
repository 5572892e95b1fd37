/-
  DERIVED. GIVEN WITH THE SEED: THE CARDS: each row of YtknohkmpficjgaaGreatDoorRows.lean that lists a variable, with what it lists TIED to the program's text (the seventh form; the later family's looks); each row that meets fmt, with fmt's text TOLD by the authors' own Lean function (tested against real Go, not proved from fmt's source: count such statements apart). THE CARD IS WHAT COUNTS. Prove the row's statement (the work); the ties are given (YtknohkmpficjgaaGreatDoorTie.lean); close each card by the builder's one call (the guide's Derived/Test/ToyasCard.lean, 'card_holds'). Laid BY PROGRAM, IN A SANDBOX (cutbox-door.mjs). By AI agents, Wed Nov 11 2026. No macro, syntax, notation, axiom, sorry.
-/
import Derived.Test.YtknohkmpficjgaaGreatDoorRows
import GoSem.ClaimSeven
namespace Go.Proofs.YtknohkmpficjgaaGreatDoor
namespace Rows

/-- THE TIED CARD OF 'remudalaw30.SessSkips'. -/
def sessSkipsCard : Claim7 := { stood := { row := sessSkipsRow, standIns := [], harness := (true, "7c2996b83169c07b8443652d1372eeed5fc8b65bc769881be6ac719c615e99a3"), looks := true }, kinds := [], alts := [], laidByText := true, laidKinds := [.data, .handle, .pinned], laidTests := true, laidLooks := .later }
def SessSkipsCardSaid : Prop := Claim7.holds Tryz.pinned (.plain (OpenSpec.ofChange sessSkipsSpec)) sessSkipsCard

/-- THE TIED CARD OF 'remudalaw30.SessSays'. -/
def sessSaysCard : Claim7 := { stood := { row := sessSaysRow, standIns := [], harness := (true, "7c2996b83169c07b8443652d1372eeed5fc8b65bc769881be6ac719c615e99a3"), looks := true }, kinds := [], alts := [], laidByText := true, laidKinds := [.data, .handle, .pinned], laidTests := true, laidLooks := .later }
def SessSaysCardSaid : Prop := Claim7.holds Tryz.pinned (.plain (OpenSpec.ofChange sessSaysSpec)) sessSaysCard

/-- THE TIED CARD OF 'remudalaw30.SessNobody'. -/
def sessNobodyCard : Claim7 := { stood := { row := sessNobodyRow, standIns := [], harness := (true, "7c2996b83169c07b8443652d1372eeed5fc8b65bc769881be6ac719c615e99a3"), looks := true }, kinds := [], alts := [], laidByText := true, laidKinds := [.data, .handle, .pinned], laidTests := true, laidLooks := .later }
def SessNobodyCardSaid : Prop := Claim7.holds Tryz.pinned (.plain (OpenSpec.ofChange sessNobodySpec)) sessNobodyCard

/-- THE SECOND FORM's CARD OF 'remudalaw30.SessSkips'. -/
def sessSkipsUptoCard : Claim7 := { stood := { row := sessSkipsUptoRow, standIns := [], harness := (true, "7c2996b83169c07b8443652d1372eeed5fc8b65bc769881be6ac719c615e99a3"), looks := true }, kinds := [], alts := [], laidByText := true, laidKinds := [.data, .handle, .pinned], laidTests := true, laidLooks := .later }
def SessSkipsUptoCardSaid : Prop := Claim7.holds Tryz.pinned (.plain (OpenSpec.upto sessSkipsSpec)) sessSkipsUptoCard

/-- THE SECOND FORM's CARD OF 'remudalaw30.SessSays'. -/
def sessSaysUptoCard : Claim7 := { stood := { row := sessSaysUptoRow, standIns := [], harness := (true, "7c2996b83169c07b8443652d1372eeed5fc8b65bc769881be6ac719c615e99a3"), looks := true }, kinds := [], alts := [], laidByText := true, laidKinds := [.data, .handle, .pinned], laidTests := true, laidLooks := .later }
def SessSaysUptoCardSaid : Prop := Claim7.holds Tryz.pinned (.plain (OpenSpec.upto sessSaysSpec)) sessSaysUptoCard

/-- THE SECOND FORM's CARD OF 'remudalaw30.SessNobody'. -/
def sessNobodyUptoCard : Claim7 := { stood := { row := sessNobodyUptoRow, standIns := [], harness := (true, "7c2996b83169c07b8443652d1372eeed5fc8b65bc769881be6ac719c615e99a3"), looks := true }, kinds := [], alts := [], laidByText := true, laidKinds := [.data, .handle, .pinned], laidTests := true, laidLooks := .later }
def SessNobodyUptoCardSaid : Prop := Claim7.holds Tryz.pinned (.plain (OpenSpec.upto sessNobodySpec)) sessNobodyUptoCard
end Rows
end Go.Proofs.YtknohkmpficjgaaGreatDoor
