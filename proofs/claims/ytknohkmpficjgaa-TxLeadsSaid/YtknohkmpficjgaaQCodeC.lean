/- The texts of functions over values without memory, as the kernel reckons them out of the program. -/
import Derived.Test.YtknohkmpficjgaaQAxX
import Derived.Test.YtknohkmpficjgaaRows
namespace Go.Proofs.Ytknohkmpficjgaa.Ax
open Go.RowKit Go By

def c13 : XFun := ⟨6, (.seq (.ops [⟨(some 1), (.box (.tmp 0)), none⟩, ⟨(some 2), (.assign (.const (.bool false))), none⟩]) (.seq (.ops [⟨(some 3), (.loadN 3 (.tmp 1)), none⟩, ⟨(some 4), (.buildSlice 1 2 [(.v (.int .i64 0))] [(0, (.const (.int .i64 3))), (1, (.const (.int .i64 4)))]), none⟩, ⟨(some 5), (.call 15 [(.tmp 3), (.tmp 4)]), none⟩, ⟨(some 2), (.assign (.tmp 5)), none⟩]) .ret)), [(.move (.tmp 2))]⟩
theorem k13 : cfun Try.prog 13 = some c13 := by kernel_rfl
def c15 : XFun := ⟨9, (.seq (.ops [⟨(some 2), (.box (.tmp 0)), none⟩, ⟨(some 4), (.assign (.const (.bool false))), none⟩]) (.seq (.ops [⟨(some 5), (.move (.tmp 1)), none⟩, ⟨(some 6), (.faddr 0 (.tmp 2)), none⟩, ⟨(some 7), (.load1 (.tmp 6)), none⟩, ⟨(some 8), (.call 16 [(.tmp 5), (.tmp 7)]), none⟩, ⟨(some 4), (.assign (.tmp 8)), none⟩]) .ret)), [(.move (.tmp 4))]⟩
theorem k15 : cfun Try.prog 15 = some c15 := by kernel_rfl
end Go.Proofs.Ytknohkmpficjgaa.Ax
