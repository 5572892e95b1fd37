/- The texts of functions over values without memory, as the kernel reckons them out of the program. -/
import Derived.Test.YtlbgjlmokpkkeaaGreatDoorQAxX
import Derived.Test.YtlbgjlmokpkkeaaGreatDoorRows
namespace Go.Proofs.YtlbgjlmokpkkeaaGreatDoor.Ax
open Go.RowKit Go By

def c21 : XFun := ⟨21, (.seq (.ops [⟨(some 1), (.box (.tmp 0)), none⟩, ⟨(some 2), (.assign (.const (.slice none 0 0))), none⟩]) (.seq (.ops [⟨(some 3), (.assign (.const (.slice none 0 0))), none⟩]) (.seq (.seq (.ops [⟨(some 4), (.faddr 0 (.tmp 1)), none⟩, ⟨(some 5), (.load1 (.tmp 4)), none⟩, ⟨(some 6), (.bin .neq (.tmp 5) (.const (.int .u8 0))), none⟩]) (.cond (.tmp 6) (.ops [⟨(some 7), (.move (.tmp 3)), none⟩, ⟨(some 8), (.faddr 0 (.tmp 1)), none⟩, ⟨(some 9), (.load1 (.tmp 8)), none⟩, ⟨(some 10), (.buildSlice 1 1 [(.v (.int .u8 0))] [(0, (.tmp 9))]), none⟩, ⟨(some 11), (.append 1 1 (.tmp 7) (.tmp 10)), none⟩, ⟨(some 3), (.assign (.tmp 11)), none⟩]) .skip)) (.seq (.draws (.take ⟨(some 12), (.move (.tmp 3)), none⟩ (.take ⟨(some 13), (.faddr 1 (.tmp 1)), none⟩ (.take ⟨(some 14), (.load1 (.tmp 13)), none⟩ (.take ⟨(some 15), (.lenL (.tmp 14)), none⟩ (.take ⟨(some 16), (.bin .add (.tmp 15) (.const (.int .i64 4))), none⟩ (.take ⟨(some 18), (.faddr 1 (.tmp 1)), none⟩ (.take ⟨(some 19), (.load1 (.tmp 18)), none⟩ (.only ⟨(some 17), (.call 37 [(.tmp 12), (.tmp 16), (.const (.int .i64 4))]), none⟩ (.only ⟨(some 20), (.append 1 1 (.tmp 17) (.tmp 19)), none⟩ (.take ⟨(some 2), (.assign (.tmp 20)), none⟩ .done))))))))))) .ret)))), [(.move (.tmp 2))]⟩
theorem k21 : cfun Tryz.prog 21 = some c21 := by kernel_rfl
end Go.Proofs.YtlbgjlmokpkkeaaGreatDoor.Ax
