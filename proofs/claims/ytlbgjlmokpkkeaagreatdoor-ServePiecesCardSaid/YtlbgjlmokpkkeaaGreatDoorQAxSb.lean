import Derived.Test.YtlbgjlmokpkkeaaGreatDoorQElems
import Derived.Deep.AppendSrc
import Derived.Deep.Upon
import Derived.Test.YtlbgjlmokpkkeaaGreatDoorProg
set_option linter.all false
namespace Go.Proofs.YtlbgjlmokpkkeaaGreatDoor.By
open Go.RowKit Go
def YU(w:World)(g:Nat)(T:TypeId)(vs:List Value):Prop:=w.heap[g]?=some (.cells vs.toArray T (0,0))
section
variable {w w':World} {g:Nat} {T:TypeId} {vs:List Value}
end
section
variable {w w' w2:World} {g:Nat}
end
section
variable {w w':World} {lo:Nat} {v:Value} {xs:List UInt8}
end
end Go.Proofs.YtlbgjlmokpkkeaaGreatDoor.By
namespace Go.Proofs.YtlbgjlmokpkkeaaGreatDoor.Ax
def Dom(w:Go.World):Prop:=w.cell? ⟨0,0,none⟩=some (.iface 277 (.agg #[Go.typeHandle Tryz.prog 146]))
end Go.Proofs.YtlbgjlmokpkkeaaGreatDoor.Ax
namespace Go.Proofs.YtlbgjlmokpkkeaaGreatDoor.Ax
open Go.RowKit Go By
def PF(P:Program)(g:FuncId):Bool :=
 match P.funcs[g]? with
 | some fn=>fn.name=="slices.Sort[[]int,int]"||fn.name=="slices.Sort[[]string,string]"
 | none=>false
def PG(P:Program)(g:FuncId):Bool :=
 match P.funcs[g]? with
 | some fn=>fn.name=="slices.SortFunc[[]int,int]"
 | none=>false
end Go.Proofs.YtlbgjlmokpkkeaaGreatDoor.Ax
