import Derived.Test.YtknohkmpficjgaaGreatDoorQElems
import Derived.Deep.AppendSrc
import Derived.Deep.Upon
import Derived.Test.YtknohkmpficjgaaGreatDoorProg
set_option linter.unusedSimpArgs false
set_option linter.unusedVariables false
namespace Go.Proofs.YtknohkmpficjgaaGreatDoor.By
open Go.RowKit Go
section
variable {w w' : World} {g : Nat} {T : TypeId} {vs : List Value}
end
section
variable {w w' w2 : World} {g : Nat}
end
section
variable {w w' : World} {lo : Nat} {v : Value} {xs : List UInt8}
end
end Go.Proofs.YtknohkmpficjgaaGreatDoor.By
namespace Go.Proofs.YtknohkmpficjgaaGreatDoor.Ax
def Dom (w : Go.World) : Prop := w.cell? ⟨0, 0, none⟩ = some (.iface 211 (.agg #[Go.typeHandle Tryz.prog 66]))
end Go.Proofs.YtknohkmpficjgaaGreatDoor.Ax
namespace Go.Proofs.YtknohkmpficjgaaGreatDoor.Ax
open Go.RowKit Go By
def H7 (P : Program) (g : FuncId) : Bool :=
 match P.funcs[g]? with
 | some fn => fn.name == "slices.Sort[[]int,int]" || fn.name == "slices.Sort[[]string,string]"
 | none => false
end Go.Proofs.YtknohkmpficjgaaGreatDoor.Ax
