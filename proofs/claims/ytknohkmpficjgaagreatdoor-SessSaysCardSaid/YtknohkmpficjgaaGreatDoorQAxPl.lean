import Derived.Test.YtknohkmpficjgaaGreatDoorQAxFq
set_option linter.unusedSimpArgs false
set_option linter.unusedVariables false
namespace Go.Proofs.YtknohkmpficjgaaGreatDoor.Ax
open Go.RowKit Go By YtknohkmpficjgaaGreatDoor.Nm Sc Dg
open He (textL)
theorem two : ((2 : Nat) : Int) = 2 := rfl
section
variable {α : Type} (e : α -> List UInt8) (v : Sta -> α) (s : Sta -> Sta) (ok : α -> Prop)
variable {e v s ok}
end
end Go.Proofs.YtknohkmpficjgaaGreatDoor.Ax
