/- Lists of numbers in variables, over values without memory; contracts out of calls that turn cells in place. No program is named here. -/
import Derived.Test.YtlbgjlmokpkkeaaGreatDoorQAxIb
import Derived.Test.YtlbgjlmokpkkeaaGreatDoorQAxCl
namespace Go.Proofs.YtlbgjlmokpkkeaaGreatDoor.Ax
open Go.RowKit Go By
set_option linter.unusedSimpArgs false
set_option linter.unusedVariables false
set_option maxRecDepth 10000

def intsA (l : List Int) : List AV := l.map fun n => .v (.int .i64 n)
@[simp] theorem intsA_nil : intsA [] = [] := rfl
section
variable {P : Program} {f : FuncId} {args : List AV} {h : List (List AV)}
end
end Go.Proofs.YtlbgjlmokpkkeaaGreatDoor.Ax
