import Derived.Test.YtlbgjlmokpkkeaaGreatDoorQAxIb
import Derived.Test.YtlbgjlmokpkkeaaGreatDoorQAxCl
set_option linter.all false
namespace Go.Proofs.YtlbgjlmokpkkeaaGreatDoor.Ax
open Go.RowKit Go By
set_option maxRecDepth 10000
def SI(l:List Int):List AV:=l.map fun n=>.v (.int .i64 n)
@[simp] theorem QX:SI []=[]:=rfl
theorem Bp{G:Ghost}{a b:AV}{vs:List Value}(h:SeesL G [a,b] vs):∃ x y,vs=[x,y] /\ Sees G a x /\ Sees G b y:=by
 obtain⟨h1,h2⟩:=h
 match vs,h1 with
 | [x,y],_=>exact⟨x,y,rfl,h2 0 a rfl,h2 1 b rfl⟩
section
variable {P:Program} {f:FuncId} {args:List AV} {h:d4}
end
end Go.Proofs.YtlbgjlmokpkkeaaGreatDoor.Ax
