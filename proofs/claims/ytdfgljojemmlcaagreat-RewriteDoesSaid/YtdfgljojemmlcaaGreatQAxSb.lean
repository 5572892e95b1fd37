import Derived.Test.YtdfgljojemmlcaaGreatQElems
import Derived.Deep.AppendSrc
import Derived.Deep.Upon
set_option linter.unusedSimpArgs false
set_option linter.unusedVariables false
namespace Go.Proofs.YtdfgljojemmlcaaGreat.By
open Go.RowKit Go
section
variable {w w' : World} {g : Nat} {T : TypeId} {vs : List Value}
end
section
variable {w w' w2 : World} {g : Nat}
end
section
variable {w w' : World} {lo : Nat} {v : Value} {xs : List UInt8}
end
end Go.Proofs.YtdfgljojemmlcaaGreat.By
namespace Go.Proofs.YtdfgljojemmlcaaGreat.Ax
def Kh (_ : World) : Prop := True
theorem dom_any (w : World) : Kh w := trivial
end Go.Proofs.YtdfgljojemmlcaaGreat.Ax
namespace Go.Proofs.YtdfgljojemmlcaaGreat.Ax
open Go.RowKit Go By
def Gy (P : Program) (g : FuncId) : Bool :=
 match P.funcs[g]? with
 | some fn => fn.name == "slices.Sort[[]int,int]" || fn.name == "slices.Sort[[]string,string]"
 | none => false
end Go.Proofs.YtdfgljojemmlcaaGreat.Ax
