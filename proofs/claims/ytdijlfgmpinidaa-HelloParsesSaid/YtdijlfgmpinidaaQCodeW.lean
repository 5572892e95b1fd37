/- The texts of functions over values without memory, as the kernel reckons them out of the program. -/
import Derived.Test.YtdijlfgmpinidaaQAxX
import Derived.Test.YtdijlfgmpinidaaRows
namespace Go.Proofs.Ytdijlfgmpinidaa.Ax
open Go.RowKit Go By

def c24 : XFun := ⟨19, (.seq (.ops [⟨(some 2), (.assign (.const (.slice none 0 0))), none⟩]) (.seq (.ops [⟨(some 3), (.assign (.const (.slice none 0 0))), none⟩]) (.seq (.seq (.ops [⟨(some 6), (.move (.tmp 0)), none⟩, ⟨(some 7), (.lenL (.tmp 6)), none⟩, ⟨(some 8), (.move (.const (.int .i64 0))), none⟩]) (.block 0 (.loop (.seq (.ops [⟨(some 9), (.bin .lss (.tmp 8) (.tmp 7)), none⟩]) (.seq (.cond (.tmp 9) .skip (.exit 0)) (.seq (.block 1 (.seq (.ops [⟨(some 10), (.iaddr 1 (.tmp 6) (.tmp 8)), none⟩, ⟨(some 11), (.load1 (.tmp 10)), none⟩, ⟨(some 5), (.assign (.tmp 11)), none⟩]) (.ops [⟨(some 12), (.move (.tmp 3)), none⟩, ⟨(some 13), (.move (.tmp 5)), none⟩, ⟨(some 14), (.appendS (.tmp 12) (.tmp 13)), none⟩, ⟨(some 15), (.buildSlice 1 1 [(.v (.int .u8 0))] [(0, (.const (.int .u8 0)))]), none⟩, ⟨(some 16), (.append 1 1 (.tmp 14) (.tmp 15)), none⟩, ⟨(some 3), (.assign (.tmp 16)), none⟩]))) (.ops [⟨(some 17), (.bin .add (.tmp 8) (.const (.int .i64 1))), none⟩, ⟨(some 8), (.move (.tmp 17)), none⟩]))))))) (.seq (.ops [⟨(some 18), (.move (.tmp 3)), none⟩, ⟨(some 2), (.assign (.tmp 18)), none⟩]) .ret)))), [(.move (.tmp 2))]⟩
theorem k24 : cfun Try.prog 24 = some c24 := by kernel_rfl
def c33 : XFun := ⟨6, (.seq (.ops [⟨(some 2), (.assign (.const (.bool false))), none⟩]) (.seq (.ops [⟨(some 3), (.move (.tmp 0)), none⟩, ⟨(some 4), (.call 39 [(.tmp 3), (.func 40)]), none⟩, ⟨(some 5), (.un .not (.tmp 4)), none⟩, ⟨(some 2), (.assign (.tmp 5)), none⟩]) .ret)), [(.move (.tmp 2))]⟩
theorem k33 : cfun Try.prog 33 = some c33 := by kernel_rfl
def c34 : XFun := ⟨9, (.seq (.ops [⟨(some 2), (.box (.tmp 0)), none⟩, ⟨(some 4), (.assign (.const (.bool false))), none⟩]) (.seq (.ops [⟨(some 5), (.move (.tmp 1)), none⟩, ⟨(some 6), (.mkfn (.func 43) [] [(.tmp 2)]), none⟩, ⟨(some 7), (.call 42 [(.tmp 5), (.tmp 6)]), none⟩, ⟨(some 8), (.un .not (.tmp 7)), none⟩, ⟨(some 4), (.assign (.tmp 8)), none⟩]) .ret)), [(.move (.tmp 4))]⟩
theorem k34 : cfun Try.prog 34 = some c34 := by kernel_rfl
def c40 : XFun := ⟨6, (.seq (.ops [⟨(some 2), (.assign (.const (.bool false))), none⟩]) (.seq (.ops [⟨(some 3), (.move (.tmp 0)), none⟩, ⟨(some 4), (.call 41 [(.tmp 3)]), none⟩, ⟨(some 5), (.un .not (.tmp 4)), none⟩, ⟨(some 2), (.assign (.tmp 5)), none⟩]) .ret)), [(.move (.tmp 2))]⟩
theorem k40 : cfun Try.prog 40 = some c40 := by kernel_rfl
def c43 : XFun := ⟨12, (.seq (.ops [⟨(some 3), (.assign (.const (.bool false))), none⟩]) (.seq (.ops [⟨(some 4), (.move (.tmp 0)), none⟩, ⟨(some 5), (.bin .lss (.tmp 4) (.const (.int .i64 0))), none⟩, ⟨(some 6), (.move (.tmp 5)), none⟩, ⟨(some 7), (.move (.tmp 0)), (some (6, false))⟩, ⟨(some 8), (.load1 (.tmp 1)), (some (6, false))⟩, ⟨(some 9), (.call 35 [(.tmp 7), (.tmp 8)]), (some (6, false))⟩, ⟨(some 10), (.un .not (.tmp 9)), (some (6, false))⟩, ⟨(some 11), (.pick (.tmp 6) (.const (.bool true)) (.tmp 10)), none⟩, ⟨(some 3), (.assign (.tmp 11)), none⟩]) .ret)), [(.move (.tmp 3))]⟩
theorem k43 : cfun Try.prog 43 = some c43 := by kernel_rfl
end Go.Proofs.Ytdijlfgmpinidaa.Ax
