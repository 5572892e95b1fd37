import Derived.Test.YtknohkmpficjgaaGreatDoorQAxXr
import Derived.Test.YtknohkmpficjgaaGreatDoorRows
set_option linter.unusedSimpArgs false
set_option linter.unusedVariables false
namespace Go.Proofs.YtknohkmpficjgaaGreatDoor.Ax
open Go.RowKit Go By
def c50 : XFun := ⟨8, (.seq (.ops [⟨(some 4), (.alloc [(.v (.int .u8 0)), (.v (.int .u8 0)), (.v (.string (strB []))), (.v (.string (strB []))), (.v (.string (strB []))), (.v (.int .i64 0)), (.v (.int .i64 0)), (.sl 0 [] (some true) .exact), (.sl 0 [] (some true) .exact), (.sl 0 [] (some true) .exact), (.sl 0 [] (some true) .exact)]), none⟩]) (.seq (.ops [⟨(some 5), (.move (.tmp 0)), none⟩, ⟨(some 6), (.move (.tmp 1)), none⟩, ⟨(some 7), (.call 97 [(.const (.string (strB [69, 82, 82, 79, 82]))), (.tmp 5), (.tmp 6)]), none⟩, ⟨none, (.store 11 (.tmp 4) (.tmp 7)), none⟩]) .ret)), [(.loadN 11 (.tmp 4))]⟩
theorem k50 : cfun Tryz.prog 50 = some c50 := by kernel_rfl
end Go.Proofs.YtknohkmpficjgaaGreatDoor.Ax
