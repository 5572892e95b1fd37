/- The contracts of what package wire writes, over values without memory. -/
import Derived.Test.YthilellmckhejaaGreatQAxX
import Derived.Test.YthilellmckhejaaGreatRows
import Derived.Test.YthilellmckhejaaGreatQAxCm
import Derived.Test.YthilellmckhejaaGreatQAxTz
import Derived.Test.YthilellmckhejaaGreatQHelA
/- The texts of functions over values without memory, as the kernel reckons them out of the program. -/
namespace Go.Proofs.YthilellmckhejaaGreat.Ax
open Go.RowKit Go By

def c80 : XFun := ⟨19, (.seq (.ops [⟨(some 2), (.assign (.const (.slice none 0 0))), none⟩]) (.seq (.ops [⟨(some 3), (.assign (.const (.slice none 0 0))), none⟩]) (.seq (.seq (.ops [⟨(some 6), (.move (.tmp 0)), none⟩, ⟨(some 7), (.lenL (.tmp 6)), none⟩, ⟨(some 8), (.move (.const (.int .i64 0))), none⟩]) (.block 0 (.loop (.seq (.ops [⟨(some 9), (.bin .lss (.tmp 8) (.tmp 7)), none⟩]) (.seq (.cond (.tmp 9) .skip (.exit 0)) (.seq (.block 1 (.seq (.ops [⟨(some 10), (.iaddr 1 (.tmp 6) (.tmp 8)), none⟩, ⟨(some 11), (.load1 (.tmp 10)), none⟩, ⟨(some 5), (.assign (.tmp 11)), none⟩]) (.ops [⟨(some 12), (.move (.tmp 3)), none⟩, ⟨(some 13), (.move (.tmp 5)), none⟩, ⟨(some 14), (.appendS (.tmp 12) (.tmp 13)), none⟩, ⟨(some 15), (.buildSlice 1 1 [(.v (.int .u8 0))] [(0, (.const (.int .u8 0)))]), none⟩, ⟨(some 16), (.append 1 1 (.tmp 14) (.tmp 15)), none⟩, ⟨(some 3), (.assign (.tmp 16)), none⟩]))) (.ops [⟨(some 17), (.bin .add (.tmp 8) (.const (.int .i64 1))), none⟩, ⟨(some 8), (.move (.tmp 17)), none⟩]))))))) (.seq (.ops [⟨(some 18), (.move (.tmp 3)), none⟩, ⟨(some 2), (.assign (.tmp 18)), none⟩]) .ret)))), [(.move (.tmp 2))]⟩
theorem k80 : cfun Tryz.prog 80 = some c80 := by kernel_rfl
def c49 : XFun := ⟨6, (.seq (.ops [⟨(some 2), (.assign (.const (.bool false))), none⟩]) (.seq (.ops [⟨(some 3), (.move (.tmp 0)), none⟩, ⟨(some 4), (.call 95 [(.tmp 3), (.func 96)]), none⟩, ⟨(some 5), (.un .not (.tmp 4)), none⟩, ⟨(some 2), (.assign (.tmp 5)), none⟩]) .ret)), [(.move (.tmp 2))]⟩
theorem k49 : cfun Tryz.prog 49 = some c49 := by kernel_rfl
def c127 : XFun := ⟨9, (.seq (.ops [⟨(some 2), (.box (.tmp 0)), none⟩, ⟨(some 4), (.assign (.const (.bool false))), none⟩]) (.seq (.ops [⟨(some 5), (.move (.tmp 1)), none⟩, ⟨(some 6), (.mkfn (.func 145) [] [(.tmp 2)]), none⟩, ⟨(some 7), (.call 98 [(.tmp 5), (.tmp 6)]), none⟩, ⟨(some 8), (.un .not (.tmp 7)), none⟩, ⟨(some 4), (.assign (.tmp 8)), none⟩]) .ret)), [(.move (.tmp 4))]⟩
theorem k127 : cfun Tryz.prog 127 = some c127 := by kernel_rfl
def c62 : XFun := ⟨8, (.seq (.ops [⟨(some 4), (.assign (.const (.bool false))), none⟩]) (.seq (.ops [⟨(some 5), (.move (.tmp 0)), none⟩, ⟨(some 6), (.move (.tmp 1)), none⟩, ⟨(some 7), (.call 101 [(.tmp 5), (.tmp 6), (.func 102)]), none⟩, ⟨(some 4), (.assign (.tmp 7)), none⟩]) .ret)), [(.move (.tmp 4))]⟩
theorem k62 : cfun Tryz.prog 62 = some c62 := by kernel_rfl
def c67 : XFun := ⟨6, (.seq (.ops [⟨(some 2), (.alloc [(.v (.pointer none))]), none⟩]) (.seq (.ops [⟨(some 3), (.move (.tmp 0)), none⟩, ⟨(some 4), (.call 103 [(.tmp 3)]), none⟩, ⟨(some 5), (.build [(.v (.pointer none))] [(0, (1, (.tmp 4)))]), none⟩, ⟨none, (.store 1 (.tmp 2) (.tmp 5)), none⟩]) .ret)), [(.loadN 1 (.tmp 2))]⟩
theorem k67 : cfun Tryz.prog 67 = some c67 := by kernel_rfl
def c50 : XFun := ⟨9, (.seq (.ops [⟨(some 2), (.box (.tmp 0)), none⟩, ⟨(some 4), (.assign (.const (.bool false))), none⟩]) (.seq (.ops [⟨(some 5), (.move (.tmp 1)), none⟩, ⟨(some 6), (.mkfn (.func 99) [] [(.tmp 2)]), none⟩, ⟨(some 7), (.call 98 [(.tmp 5), (.tmp 6)]), none⟩, ⟨(some 8), (.un .not (.tmp 7)), none⟩, ⟨(some 4), (.assign (.tmp 8)), none⟩]) .ret)), [(.move (.tmp 4))]⟩
theorem k50 : cfun Tryz.prog 50 = some c50 := by kernel_rfl
def c85 : XFun := ⟨8, (.seq (.ops [⟨(some 2), (.box (.tmp 0)), none⟩, ⟨(some 4), (.assign (.const (.slice none 0 0))), none⟩]) (.seq (.ops [⟨(some 5), (.move (.tmp 1)), none⟩, ⟨(some 6), (.mkfn (.func 124) [] [(.tmp 2)]), none⟩, ⟨(some 7), (.call 123 [(.tmp 5), (.tmp 6)]), none⟩, ⟨(some 4), (.assign (.tmp 7)), none⟩]) .ret)), [(.move (.tmp 4))]⟩
theorem k85 : cfun Tryz.prog 85 = some c85 := by kernel_rfl
def c82 : XFun := ⟨5, (.seq (.ops [⟨(some 2), (.assign (.const (.slice none 0 0))), none⟩]) (.seq (.ops [⟨(some 3), (.move (.tmp 0)), none⟩, ⟨(some 4), (.call 120 [(.tmp 3), (.func 121)]), none⟩, ⟨(some 2), (.assign (.tmp 4)), none⟩]) .ret)), [(.move (.tmp 2))]⟩
theorem k82 : cfun Tryz.prog 82 = some c82 := by kernel_rfl
def c90 : XFun := ⟨6, (.seq (.ops [⟨(some 2), (.assign (.const (.bool false))), none⟩]) (.seq (.ops [⟨(some 3), (.move (.tmp 0)), none⟩, ⟨(some 4), (.call 35 [(.tmp 3), (.func 126)]), none⟩, ⟨(some 5), (.un .not (.tmp 4)), none⟩, ⟨(some 2), (.assign (.tmp 5)), none⟩]) .ret)), [(.move (.tmp 2))]⟩
theorem k90 : cfun Tryz.prog 90 = some c90 := by kernel_rfl
def c96 : XFun := ⟨6, (.seq (.ops [⟨(some 2), (.assign (.const (.bool false))), none⟩]) (.seq (.ops [⟨(some 3), (.move (.tmp 0)), none⟩, ⟨(some 4), (.call 97 [(.tmp 3)]), none⟩, ⟨(some 5), (.un .not (.tmp 4)), none⟩, ⟨(some 2), (.assign (.tmp 5)), none⟩]) .ret)), [(.move (.tmp 2))]⟩
theorem k96 : cfun Tryz.prog 96 = some c96 := by kernel_rfl
def c145 : XFun := ⟨15, (.seq (.ops [⟨(some 3), (.assign (.const (.bool false))), none⟩]) (.seq (.ops [⟨(some 4), (.move (.tmp 0)), none⟩, ⟨(some 5), (.load1 (.tmp 1)), none⟩, ⟨(some 6), (.call 100 [(.tmp 4), (.tmp 5)]), none⟩, ⟨(some 7), (.un .not (.tmp 6)), none⟩, ⟨(some 8), (.move (.tmp 7)), none⟩, ⟨(some 9), (.move (.tmp 0)), (some (8, false))⟩, ⟨(some 10), (.load1 (.tmp 1)), (some (8, false))⟩, ⟨(some 11), (.call 146 [(.tmp 9), (.tmp 10)]), (some (8, false))⟩, ⟨(some 12), (.move (.tmp 0)), (some (8, false))⟩, ⟨(some 13), (.bin .neq (.tmp 11) (.tmp 12)), (some (8, false))⟩, ⟨(some 14), (.pick (.tmp 8) (.const (.bool true)) (.tmp 13)), none⟩, ⟨(some 3), (.assign (.tmp 14)), none⟩]) .ret)), [(.move (.tmp 3))]⟩
theorem k145 : cfun Tryz.prog 145 = some c145 := by kernel_rfl
def c102 : XFun := ⟨17, (.seq (.ops [⟨(some 2), (.box (.tmp 0)), none⟩, ⟨(some 3), (.box (.tmp 1)), none⟩, ⟨(some 4), (.assign (.const (.bool false))), none⟩]) (.seq (.ops [⟨(some 5), (.faddr 0 (.tmp 2)), none⟩, ⟨(some 6), (.load1 (.tmp 5)), none⟩, ⟨(some 7), (.faddr 0 (.tmp 3)), none⟩, ⟨(some 8), (.load1 (.tmp 7)), none⟩, ⟨(some 9), (.beq false (.tmp 6) (.tmp 8)), none⟩, ⟨(some 10), (.move (.tmp 9)), none⟩, ⟨(some 11), (.faddr 1 (.tmp 2)), (some (10, true))⟩, ⟨(some 12), (.load1 (.tmp 11)), (some (10, true))⟩, ⟨(some 13), (.faddr 1 (.tmp 3)), (some (10, true))⟩, ⟨(some 14), (.load1 (.tmp 13)), (some (10, true))⟩, ⟨(some 15), (.call 10 [(.tmp 12), (.tmp 14)]), (some (10, true))⟩, ⟨(some 16), (.pick (.tmp 10) (.tmp 15) (.const (.bool false))), none⟩, ⟨(some 4), (.assign (.tmp 16)), none⟩]) .ret)), [(.move (.tmp 4))]⟩
theorem k102 : cfun Tryz.prog 102 = some c102 := by kernel_rfl
def c109 : XFun := ⟨8, (.seq (.ops [⟨(some 2), (.box (.tmp 0)), none⟩, ⟨(some 3), (.box (.tmp 1)), none⟩, ⟨(some 4), (.assign (.const (.slice none 0 0))), none⟩]) (.seq (.ops [⟨(some 5), (.loadN 1 (.tmp 2)), none⟩, ⟨(some 6), (.mkfn (.func 141) [] [(.tmp 2), (.tmp 3)]), none⟩, ⟨(some 7), (.call 140 [(.tmp 5), (.tmp 6)]), none⟩, ⟨(some 4), (.assign (.tmp 7)), none⟩]) .ret)), [(.move (.tmp 4))]⟩
theorem k109 : cfun Tryz.prog 109 = some c109 := by kernel_rfl
def c106 : XFun := ⟨7, (.seq (.ops [⟨(some 1), (.box (.tmp 0)), none⟩, ⟨(some 2), (.assign (.const (.slice none 0 0))), none⟩]) (.seq (.ops [⟨(some 3), (.loadN 1 (.tmp 1)), none⟩, ⟨(some 4), (.loadN 1 (.tmp 1)), none⟩, ⟨(some 5), (.mkfn (.func 138) [(.tmp 4)] []), none⟩, ⟨(some 6), (.call 137 [(.tmp 3), (.tmp 5)]), none⟩, ⟨(some 2), (.assign (.tmp 6)), none⟩]) .ret)), [(.move (.tmp 2))]⟩
theorem k106 : cfun Tryz.prog 106 = some c106 := by kernel_rfl
def c99 : XFun := ⟨12, (.seq (.ops [⟨(some 3), (.assign (.const (.bool false))), none⟩]) (.seq (.ops [⟨(some 4), (.move (.tmp 0)), none⟩, ⟨(some 5), (.bin .lss (.tmp 4) (.const (.int .i64 0))), none⟩, ⟨(some 6), (.move (.tmp 5)), none⟩, ⟨(some 7), (.move (.tmp 0)), (some (6, false))⟩, ⟨(some 8), (.load1 (.tmp 1)), (some (6, false))⟩, ⟨(some 9), (.call 100 [(.tmp 7), (.tmp 8)]), (some (6, false))⟩, ⟨(some 10), (.un .not (.tmp 9)), (some (6, false))⟩, ⟨(some 11), (.pick (.tmp 6) (.const (.bool true)) (.tmp 10)), none⟩, ⟨(some 3), (.assign (.tmp 11)), none⟩]) .ret)), [(.move (.tmp 3))]⟩
theorem k99 : cfun Tryz.prog 99 = some c99 := by kernel_rfl
def c123 : XFun := ⟨24, (.seq (.ops [⟨(some 4), (.assign (.const (.slice none 0 0))), none⟩]) (.seq (.ops [⟨(some 8), (.move (.tmp 0)), none⟩, ⟨(some 9), (.lenL (.tmp 8)), none⟩, ⟨(some 10), (.call 65 [(.const (.slice none 0 0)), (.tmp 9), (.const (.int .i64 2))]), none⟩, ⟨(some 5), (.assign (.tmp 10)), none⟩]) (.seq (.seq (.ops [⟨(some 11), (.move (.tmp 0)), none⟩, ⟨(some 12), (.lenL (.tmp 11)), none⟩, ⟨(some 13), (.move (.const (.int .i64 0))), none⟩]) (.block 0 (.loop (.seq (.ops [⟨(some 14), (.bin .lss (.tmp 13) (.tmp 12)), none⟩]) (.seq (.cond (.tmp 14) .skip (.exit 0)) (.seq (.block 1 (.seq (.ops [⟨(some 15), (.iaddr 1 (.tmp 11) (.tmp 13)), none⟩, ⟨(some 16), (.load1 (.tmp 15)), none⟩, ⟨(some 7), (.assign (.tmp 16)), none⟩]) (.ops [⟨(some 17), (.move (.tmp 5)), none⟩, ⟨(some 18), (.move (.tmp 1)), none⟩, ⟨(some 19), (.move (.tmp 7)), none⟩, ⟨(some 20), (.callv (.tmp 18) [(.tmp 19)]), none⟩, ⟨(some 21), (.append 1 1 (.tmp 17) (.tmp 20)), none⟩, ⟨(some 5), (.assign (.tmp 21)), none⟩]))) (.ops [⟨(some 22), (.bin .add (.tmp 13) (.const (.int .i64 1))), none⟩, ⟨(some 13), (.move (.tmp 22)), none⟩]))))))) (.seq (.ops [⟨(some 23), (.move (.tmp 5)), none⟩, ⟨(some 4), (.assign (.tmp 23)), none⟩]) .ret)))), [(.move (.tmp 4))]⟩
theorem k123 : cfun Tryz.prog 123 = some c123 := by kernel_rfl
def c124 : XFun := ⟨7, (.seq (.ops [⟨(some 3), (.assign (.const (.slice none 0 0))), none⟩]) (.seq (.ops [⟨(some 4), (.move (.tmp 0)), none⟩, ⟨(some 5), (.load1 (.tmp 1)), none⟩, ⟨(some 6), (.call 65 [(.const (.slice none 0 0)), (.tmp 4), (.tmp 5)]), none⟩, ⟨(some 3), (.assign (.tmp 6)), none⟩]) .ret)), [(.move (.tmp 3))]⟩
theorem k124 : cfun Tryz.prog 124 = some c124 := by kernel_rfl
def c120 : XFun := ⟨24, (.seq (.ops [⟨(some 4), (.assign (.const (.slice none 0 0))), none⟩]) (.seq (.ops [⟨(some 8), (.move (.tmp 0)), none⟩, ⟨(some 9), (.lenL (.tmp 8)), none⟩, ⟨(some 10), (.call 65 [(.const (.slice none 0 0)), (.tmp 9), (.const (.int .i64 2))]), none⟩, ⟨(some 5), (.assign (.tmp 10)), none⟩]) (.seq (.seq (.ops [⟨(some 11), (.move (.tmp 0)), none⟩, ⟨(some 12), (.lenL (.tmp 11)), none⟩, ⟨(some 13), (.move (.const (.int .i64 0))), none⟩]) (.block 0 (.loop (.seq (.ops [⟨(some 14), (.bin .lss (.tmp 13) (.tmp 12)), none⟩]) (.seq (.cond (.tmp 14) .skip (.exit 0)) (.seq (.block 1 (.seq (.ops [⟨(some 15), (.iaddr 2 (.tmp 11) (.tmp 13)), none⟩, ⟨(some 16), (.loadN 2 (.tmp 15)), none⟩, ⟨(some 7), (.alloc [(.v (.bool false)), (.sl 0 [] (some true) .exact)]), none⟩, ⟨none, (.store 2 (.tmp 7) (.tmp 16)), none⟩]) (.ops [⟨(some 17), (.move (.tmp 5)), none⟩, ⟨(some 18), (.move (.tmp 1)), none⟩, ⟨(some 19), (.loadN 2 (.tmp 7)), none⟩, ⟨(some 20), (.callv (.tmp 18) [(.tmp 19)]), none⟩, ⟨(some 21), (.append 1 1 (.tmp 17) (.tmp 20)), none⟩, ⟨(some 5), (.assign (.tmp 21)), none⟩]))) (.ops [⟨(some 22), (.bin .add (.tmp 13) (.const (.int .i64 1))), none⟩, ⟨(some 13), (.move (.tmp 22)), none⟩]))))))) (.seq (.ops [⟨(some 23), (.move (.tmp 5)), none⟩, ⟨(some 4), (.assign (.tmp 23)), none⟩]) .ret)))), [(.move (.tmp 4))]⟩
theorem k120 : cfun Tryz.prog 120 = some c120 := by kernel_rfl
def c121 : XFun := ⟨13, (.seq (.ops [⟨(some 1), (.box (.tmp 0)), none⟩, ⟨(some 2), (.assign (.const (.slice none 0 0))), none⟩]) (.seq (.seq (.ops [⟨(some 3), (.faddr 0 (.tmp 1)), none⟩, ⟨(some 4), (.load1 (.tmp 3)), none⟩]) (.cond (.tmp 4) (.seq (.ops [⟨(some 5), (.call 65 [(.const (.slice none 0 0)), (.const (.int .i64 4294967295)), (.const (.int .i64 4))]), none⟩, ⟨(some 2), (.assign (.tmp 5)), none⟩]) .ret) .skip)) (.seq (.draws (.take ⟨(some 6), (.faddr 1 (.tmp 1)), none⟩ (.take ⟨(some 7), (.load1 (.tmp 6)), none⟩ (.take ⟨(some 8), (.lenL (.tmp 7)), none⟩ (.take ⟨(some 10), (.faddr 1 (.tmp 1)), none⟩ (.take ⟨(some 11), (.load1 (.tmp 10)), none⟩ (.only ⟨(some 9), (.call 65 [(.const (.slice none 0 0)), (.tmp 8), (.const (.int .i64 4))]), none⟩ (.only ⟨(some 12), (.append 1 1 (.tmp 9) (.tmp 11)), none⟩ (.take ⟨(some 2), (.assign (.tmp 12)), none⟩ .done))))))))) .ret))), [(.move (.tmp 2))]⟩
theorem k121 : cfun Tryz.prog 121 = some c121 := by kernel_rfl
def c126 : XFun := ⟨17, (.seq (.ops [⟨(some 1), (.box (.tmp 0)), none⟩, ⟨(some 2), (.assign (.const (.bool false))), none⟩]) (.seq (.ops [⟨(some 3), (.faddr 1 (.tmp 1)), none⟩, ⟨(some 4), (.load1 (.tmp 3)), none⟩, ⟨(some 5), (.lenL (.tmp 4)), none⟩, ⟨(some 6), (.bin .gtr (.tmp 5) (.const (.int .i64 1048576))), none⟩, ⟨(some 7), (.move (.tmp 6)), none⟩, ⟨(some 8), (.faddr 0 (.tmp 1)), (some (7, false))⟩, ⟨(some 9), (.load1 (.tmp 8)), (some (7, false))⟩, ⟨(some 10), (.move (.tmp 9)), (some (7, false))⟩, ⟨(some 11), (.faddr 1 (.tmp 1)), (some (10, true))⟩, ⟨(some 12), (.load1 (.tmp 11)), (some (10, true))⟩, ⟨(some 13), (.lenL (.tmp 12)), (some (10, true))⟩, ⟨(some 14), (.bin .gtr (.tmp 13) (.const (.int .i64 0))), (some (10, true))⟩, ⟨(some 15), (.pick (.tmp 10) (.tmp 14) (.const (.bool false))), (some (7, false))⟩, ⟨(some 16), (.pick (.tmp 7) (.const (.bool true)) (.tmp 15)), none⟩, ⟨(some 2), (.assign (.tmp 16)), none⟩]) .ret)), [(.move (.tmp 2))]⟩
theorem k126 : cfun Tryz.prog 126 = some c126 := by kernel_rfl
def c140 : XFun := ⟨21, (.seq (.ops [⟨(some 2), (.box (.tmp 0)), none⟩, ⟨(some 4), (.assign (.const (.slice none 0 0))), none⟩]) (.seq (.ops [⟨(some 5), (.assign (.const (.slice none 0 0))), none⟩]) (.seq (.seq (.ops [⟨(some 6), (.faddr 0 (.tmp 2)), none⟩, ⟨(some 7), (.load1 (.tmp 6)), none⟩, ⟨(some 8), (.call 104 [(.tmp 7), (.const (.int .i64 2))]), none⟩, ⟨(some 9), (.move (.const (.int .i64 0))), none⟩]) (.block 0 (.loop (.seq (.ops [⟨(some 10), (.bin .lss (.tmp 9) (.tmp 8)), none⟩]) (.seq (.cond (.tmp 10) .skip (.exit 0)) (.seq (.block 1 (.seq (.ops [⟨(some 11), (.move (.tmp 5)), none⟩, ⟨(some 12), (.move (.tmp 1)), none⟩, ⟨(some 13), (.callv (.tmp 12) []), none⟩, ⟨(some 14), (.buildSlice 1 1 [(.v (.int .i64 0))] [(0, (.tmp 13))]), none⟩, ⟨(some 15), (.append 1 8 (.tmp 11) (.tmp 14)), none⟩, ⟨(some 5), (.assign (.tmp 15)), none⟩]) (.seq (.ops [⟨(some 16), (.faddr 0 (.tmp 2)), none⟩, ⟨(some 17), (.load1 (.tmp 16)), none⟩, ⟨(some 18), (.call 111 [(.tmp 17)]), none⟩]) (.cond (.tmp 18) (.seq (.ops [⟨(some 4), (.assign (.const (.slice none 0 0))), none⟩]) .ret) .skip)))) (.ops [⟨(some 19), (.bin .add (.tmp 9) (.const (.int .i64 1))), none⟩, ⟨(some 9), (.move (.tmp 19)), none⟩]))))))) (.seq (.ops [⟨(some 20), (.move (.tmp 5)), none⟩, ⟨(some 4), (.assign (.tmp 20)), none⟩]) .ret)))), [(.move (.tmp 4))]⟩
theorem k140 : cfun Tryz.prog 140 = some c140 := by kernel_rfl
def c141 : XFun := ⟨7, (.seq (.ops [⟨(some 2), (.assign (.const (.int .i64 0))), none⟩]) (.seq (.ops [⟨(some 3), (.faddr 0 (.tmp 0)), none⟩, ⟨(some 4), (.load1 (.tmp 3)), none⟩, ⟨(some 5), (.load1 (.tmp 1)), none⟩, ⟨(some 6), (.call 104 [(.tmp 4), (.tmp 5)]), none⟩, ⟨(some 2), (.assign (.tmp 6)), none⟩]) .ret)), [(.move (.tmp 2))]⟩
theorem k141 : cfun Tryz.prog 141 = some c141 := by kernel_rfl
def c137 : XFun := ⟨21, (.seq (.ops [⟨(some 2), (.box (.tmp 0)), none⟩, ⟨(some 4), (.assign (.const (.slice none 0 0))), none⟩]) (.seq (.ops [⟨(some 5), (.assign (.const (.slice none 0 0))), none⟩]) (.seq (.seq (.ops [⟨(some 6), (.faddr 0 (.tmp 2)), none⟩, ⟨(some 7), (.load1 (.tmp 6)), none⟩, ⟨(some 8), (.call 104 [(.tmp 7), (.const (.int .i64 2))]), none⟩, ⟨(some 9), (.move (.const (.int .i64 0))), none⟩]) (.block 0 (.loop (.seq (.ops [⟨(some 10), (.bin .lss (.tmp 9) (.tmp 8)), none⟩]) (.seq (.cond (.tmp 10) .skip (.exit 0)) (.seq (.block 1 (.seq (.ops [⟨(some 11), (.move (.tmp 5)), none⟩, ⟨(some 12), (.move (.tmp 1)), none⟩, ⟨(some 13), (.callv (.tmp 12) []), none⟩, ⟨(some 14), (.buildSlice 2 1 [(.v (.bool false)), (.sl 0 [] (some true) .exact)] [(0, (.tmp 13))]), none⟩, ⟨(some 15), (.append 2 32 (.tmp 11) (.tmp 14)), none⟩, ⟨(some 5), (.assign (.tmp 15)), none⟩]) (.seq (.ops [⟨(some 16), (.faddr 0 (.tmp 2)), none⟩, ⟨(some 17), (.load1 (.tmp 16)), none⟩, ⟨(some 18), (.call 111 [(.tmp 17)]), none⟩]) (.cond (.tmp 18) (.seq (.ops [⟨(some 4), (.assign (.const (.slice none 0 0))), none⟩]) .ret) .skip)))) (.ops [⟨(some 19), (.bin .add (.tmp 9) (.const (.int .i64 1))), none⟩, ⟨(some 9), (.move (.tmp 19)), none⟩]))))))) (.seq (.ops [⟨(some 20), (.move (.tmp 5)), none⟩, ⟨(some 4), (.assign (.tmp 20)), none⟩]) .ret)))), [(.move (.tmp 4))]⟩
theorem k137 : cfun Tryz.prog 137 = some c137 := by kernel_rfl
def c138 : XFun := ⟨15, (.seq (.ops [⟨(some 1), (.box (.tmp 0)), none⟩, ⟨(some 2), (.alloc [(.v (.bool false)), (.sl 0 [] (some true) .exact)]), none⟩]) (.seq (.ops [⟨(some 4), (.faddr 0 (.tmp 1)), none⟩, ⟨(some 5), (.load1 (.tmp 4)), none⟩, ⟨(some 6), (.call 104 [(.tmp 5), (.const (.int .i64 4))]), none⟩, ⟨(some 3), (.assign (.tmp 6)), none⟩]) (.seq (.seq (.ops [⟨(some 7), (.move (.tmp 3)), none⟩, ⟨(some 8), (.bin .eql (.tmp 7) (.const (.int .i64 4294967295))), none⟩]) (.cond (.tmp 8) (.seq (.ops [⟨(some 9), (.build [(.v (.bool false)), (.sl 0 [] (some true) .exact)] [(0, (1, (.const (.bool true))))]), none⟩, ⟨none, (.store 2 (.tmp 2) (.tmp 9)), none⟩]) .ret) .skip)) (.seq (.ops [⟨(some 10), (.faddr 0 (.tmp 1)), none⟩, ⟨(some 11), (.load1 (.tmp 10)), none⟩, ⟨(some 12), (.move (.tmp 3)), none⟩, ⟨(some 13), (.call 135 [(.tmp 11), (.tmp 12)]), none⟩, ⟨(some 14), (.build [(.v (.bool false)), (.sl 0 [] (some true) .exact)] [(1, (1, (.tmp 13)))]), none⟩, ⟨none, (.store 2 (.tmp 2) (.tmp 14)), none⟩]) .ret)))), [(.loadN 2 (.tmp 2))]⟩
theorem k138 : cfun Tryz.prog 138 = some c138 := by kernel_rfl
end Go.Proofs.YthilellmckhejaaGreat.Ax
/- The contracts of package wire's checks and of what it writes, over values without memory. -/
namespace Go.Proofs.YthilellmckhejaaGreat.Ax
open Go.RowKit Go By Nm Sc Dg
set_option linter.unusedSimpArgs false
set_option maxRecDepth 10000

/-! ### bytes.Equal -/
theorem equal_c (xs ys : List UInt8) (h : List (List AV)) : Contract Tryz.prog 10 [.sl 1 (bytesE xs) none .no, .sl 1 (bytesE ys) none .no] h (.v (.bool (xs == ys))) h [] := by
  refine contract_of k10 mixed (by simp [c10]) fun hh hargs => ?_
  simp [c10, hh]

/-! ### Checks -/
theorem wclean1_c (s : List UInt8) (h : List (List AV)) : Contract Tryz.prog 96 [.v (.string (strB s))] h (.v (.bool (!cleanB s))) h [] := by
  refine contract_of k96 mixed (by simp [c96]) fun hh hargs => ?_
  simp [c96]
  refine xcall_self (by simp) (clean_c s h) ?_
  simp [hh]
theorem wclean_c (l : List (List UInt8)) (hl : l.length ≤ 140737488355328) (h : List (List AV)) : Contract Tryz.prog 49 [.sl 1 (enc strC l) none .no] h (.v (.bool (l.all cleanB))) h [] := by
  refine contract_of k49 mixed (by simp [c49]) fun hh hargs => ?_
  simp [c49]
  refine xcall_self (by simp) (contains1_any mixed k95 k128 (fun s => .v (.string (strB s))) (fun s => !cleanB s) l [] h (by simp) (by simp) (by simp) (fun s _ => wclean1_c s h) hl) ?_
  simp [hh, List.not_any_eq_all_not]
def unsB (size n : Int) : Bool := !decide (n < 0) && rightB n size
theorem wuns1_c (size n : Int) (i : Nat) (h : List (List AV)) (hi : h[i]? = some [.v (.int .i64 size)]) : Contract Tryz.prog 99 [.v (.int .i64 n), .box i 0] h (.v (.bool (!unsB size n))) h [] := by
  refine contract_of k99 mixed (by simp [c99]) fun hh hargs => ?_
  by_cases hn : n < 0
  · simp [c99, hn, hh, unsB]
  · simp [c99, hn, hi]
    refine xcall_self (by simp) (right_c n size h) ?_
    simp [hh, unsB, hn]
theorem wuns_c (size : Int) (l : List Int) (hl : l.length ≤ 140737488355328) (h : List (List AV)) : Contract Tryz.prog 50 [.v (.int .i64 size), .sl 1 (enc intC l) none .no] h (.v (.bool (l.all (unsB size)))) h [] := by
  refine contract_of k50 mixed (by simp [c50]) fun hh hargs => ?_
  simp [c50]
  refine xcall_self (by simp) (contains1_any mixed k98 k130 (fun n => .v (.int .i64 n)) (fun n => !unsB size n) l [.box h.length 0] _ (by simp) (by simp) (by simp) (fun n _ => wuns1_c size n _ _ (by simp)) hl) ?_
  simp [hh, List.not_any_eq_all_not]
def sgnB (size n : Int) : Bool := rightB n size && signedI n size == n
theorem wsgn1_c (size n : Int) (i : Nat) (h : List (List AV)) (hi : h[i]? = some [.v (.int .i64 size)]) : Contract Tryz.prog 145 [.v (.int .i64 n), .box i 0] h (.v (.bool (!sgnB size n))) h [] := by
  refine contract_of k145 mixed (by simp [c145]) fun hh hargs => ?_
  simp [c145, hi]
  refine xcall_self (by simp) (right_c n size h) ?_
  cases hr : rightB n size with
  | false => simp [hh, sgnB, hr]
  | true =>
    simp [hi]
    refine xcall_self (by simp) (signed_c n size h) ?_
    simp [hh, sgnB, hr]
    rfl
theorem wsgn_c (size : Int) (l : List Int) (hl : l.length ≤ 140737488355328) (h : List (List AV)) : Contract Tryz.prog 127 [.v (.int .i64 size), .sl 1 (enc intC l) none .no] h (.v (.bool (l.all (sgnB size)))) h [] := by
  refine contract_of k127 mixed (by simp [c127]) fun hh hargs => ?_
  simp [c127]
  refine xcall_self (by simp) (contains1_any mixed k98 k130 (fun n => .v (.int .i64 n)) (fun n => !sgnB size n) l [.box h.length 0] _ (by simp) (by simp) (by simp) (fun n _ => wsgn1_c size n _ _ (by simp)) hl) ?_
  simp [hh, List.not_any_eq_all_not]
/-- A cell may be said. -/
def cellB (c : Cl) : Bool := decide (c.2.length ≤ 1048576) && !(c.1 && decide (0 < c.2.length))
theorem wcell1_c (c : Cl) (hc : c.2.length ≤ 140737488355328) (h : List (List AV)) : Contract Tryz.prog 126 [.agg (cellC c)] h (.v (.bool (!cellB c))) h [] := by
  refine contract_of k126 mixed (by simp [c126]) fun hh hargs => ?_
  obtain ⟨n, b⟩ := c
  by_cases hb : (1048576 : Int) < b.length
  · have hb' : ¬ b.length ≤ 1048576 := by omega
    simp [c126, cellC, hb, hb', hh, cellB]
  · have hb' : b.length ≤ 1048576 := by omega
    cases n with
    | false => simp [c126, cellC, hb, hb', hh, cellB]
    | true =>
      simp [c126, cellC, hb, hb', hh, cellB]
theorem wcells_c (l : List Cl) (hl : l.length ≤ 140737488355328) (hc : ∀ c ∈ l, c.2.length ≤ 140737488355328) (h : List (List AV)) : Contract Tryz.prog 90 [.sl 2 (enc cellC l) none .no] h (.v (.bool (l.all cellB))) h [] := by
  refine contract_of k90 mixed (by simp [c90]) fun hh hargs => ?_
  simp [c90]
  refine xcall_self (by simp) (containsN_any mixed k35 k77 cellC (fun c => !cellB c) l [] h (by simp) (by simp) (by simp) (fun c hm => wcell1_c c (hc c hm) h) hl) ?_
  simp [hh, List.not_any_eq_all_not]
theorem wsame1_c (a b : Cl) (h : List (List AV)) : Contract Tryz.prog 102 [.agg (cellC a), .agg (cellC b)] h (.v (.bool (a == b))) h [] := by
  refine contract_of k102 mixed (by simp [c102]) fun hh hargs => ?_
  obtain ⟨n, x⟩ := a
  obtain ⟨m, y⟩ := b
  have e : ((n, x) == (m, y)) = (n == m && x == y) := rfl
  cases hnm : n == m with
  | false => simp [c102, cellC, hnm, hh, e]
  | true =>
    simp [c102, cellC, hnm]
    refine xcall_self (by simp) (equal_c x y _) ?_
    simp [hh, e, hnm]
theorem wsame_c (l m : List Cl) (hl : l.length ≤ 140737488355328) (h : List (List AV)) : Contract Tryz.prog 62 [.sl 2 (enc cellC l) none .no, .sl 2 (enc cellC m) none .no] h (.v (.bool (l == m))) h [] := by
  refine contract_of k62 mixed (by simp [c62]) fun hh hargs => ?_
  simp [c62]
  refine xcall_self (by simp) (equalF_any mixed k101 (by rfl) (· == ·) cellC (by simp) (by simp) l m h (fun x y h => wsame1_c x y h) hl) ?_
  simp [hh, eqL_beq]
end Go.Proofs.YthilellmckhejaaGreat.Ax
namespace Go.Proofs.YthilellmckhejaaGreat.Ax
open Go.RowKit Go By Nm Sc Dg
set_option linter.unusedSimpArgs false
set_option linter.unusedVariables false
set_option maxRecDepth 10000

theorem wflat_len {α : Type} (e : α → List UInt8) (l : List α) (j : Nat) : ((l.take j).flatMap e).length ≤ (l.flatMap e).length := by
  conv => rhs; rw [← List.take_append_drop j l]
  rw [List.flatMap_append, List.length_append]; omega
theorem flat_next {α : Type} (e : α → List UInt8) {l : List α} {j : Nat} (hj : j < l.length) : (l.take (j + 1)).flatMap e = (l.take j).flatMap e ++ e l[j] := by
  rw [take_next hj, List.flatMap_append]; simp
theorem put_len (n size : Int) (h4 : size ≤ 4) (xs : List UInt8) : (putL xs n size).length ≤ xs.length + 4 := by
  unfold putL
  split
  · simp [putTo_length]; omega
  · omega
/-- What is appended element by element. -/
theorem flat_step {α : Type} (e : α → List UInt8) (l : List α) (a j : Nat) (hj : j < l.length) (N : Nat) (hN : a + (l.flatMap e).length ≤ N) : (l.take (j + 1)).flatMap e = (l.take j).flatMap e ++ e l[j] ∧ a + (((l.take j).flatMap e).length + (e l[j]).length) ≤ N := by
  have h1 := flat_next e hj
  have h2 := wflat_len e l (j + 1)
  rw [h1, List.length_append] at h2
  exact ⟨h1, by omega⟩

/-! ### Texts -/
def textsL (l : List (List UInt8)) : List UInt8 := l.flatMap He.encT
theorem wtexts_c (l : List (List UInt8)) (hl : (textsL l).length ≤ 140737488355328) (h : List (List AV)) : Contract Tryz.prog 80 [.sl 1 (enc strC l) none .no] h (.sl 1 (bytesE (textsL l)) none (.own .res)) h [] := by
  have hn : ∀ l : List (List UInt8), l.length ≤ (textsL l).length := fun l => by
    induction l with
    | nil => simp
    | cons x r ih => simp [textsL, He.encT] at ih ⊢; omega
  have hl0 := hn l
  refine contract_of k80 mixed (by simp [c80]) fun hh hargs => ?_
  simp at hargs
  simp [c80]
  refine xloop_ok (D := Nat) (fun j => ⟨[(6, .sl 1 (enc strC l) none .no), (7, .v (.int .i64 l.length)), (8, .v (.int .i64 j))], [(3, .sl 1 (bytesE (textsL (l.take j))) none (.own (.slot 3)))], h, []⟩) (fun j => j ≤ l.length) (fun j => l.length - j) 0 (by simp) ?_ ?_
  · simp [Leq, hh, hargs, textsL]
  · intro j hj
    by_cases hlt : j < l.length
    · have hlt' : (j : Int) < l.length := by omega
      have hw : IntKind.i64.wrap ((j : Int) + 1) = (j : Int) + 1 := wrap64 (by omega) (by omega)
      obtain ⟨hx, hb⟩ := flat_step He.encT l 0 j hlt _ (by simpa [textsL] using hl)
      have hx' : textsL (l.take (j + 1)) = textsL (l.take j) ++ (l[j] ++ [0]) := hx
      have hb' : 0 + ((textsL (l.take j)).length + (l[j] ++ [0]).length) ≤ 140737488355328 := hb
      rw [List.length_append, List.length_singleton] at hb'
      simp [hlt, hlt', strC, hw]
      refine ⟨by omega, by omega, j + 1, by omega, by omega, ?_⟩
      simp [Leq, hh, hargs, hx']
    · have hlt' : ¬ (j : Int) < l.length := by omega
      have : j = l.length := by omega
      subst this
      simp [hh]

/-! ### Lists -/
def listL {α : Type} (e : α → List UInt8) (l : List α) : List UInt8 := putL [] l.length 2 ++ l.flatMap e
theorem list_start {α : Type} (e : α → List UInt8) (l : List α) : listL e (l.take 0) = putL [] 0 2 := by simp [listL]
theorem wlistI_c (e : Int → List UInt8) (l : List Int) (g : FuncId) (cap : List AV) (h : List (List AV)) (hl : (listL e l).length ≤ 140737488355328) (hl2 : l.length ≤ 140737488355328) (hcap : ∀ c ∈ cap, c.idOf = none) (hlt : ltL h.length cap)
    (hg : ∀ n, n ∈ l → Contract Tryz.prog g (.v (.int .i64 n) :: cap) h (.sl 1 (bytesE (e n)) none (.own .res)) h []) :
    Contract Tryz.prog 123 [.sl 1 (enc intC l) none .no, .fn (.func g) [] cap] h (.sl 1 (bytesE (listL e l)) none (.own .res)) h [] := by
  refine contract_of k123 mixed (by simp [c123]) fun hh hargs => ?_
  simp at hargs
  simp [c123]
  refine xcall_of (put_c [] l.length 2 (by simp) h) (by simp) (by simp) ?_
  simp
  refine xloop_ok (D := Nat) (fun j => ⟨[(1, .fn (.func g) [] cap), (11, .sl 1 (enc intC l) none .no), (12, .v (.int .i64 l.length)), (13, .v (.int .i64 j))], [(5, .sl 1 (bytesE (putL [] l.length 2 ++ (l.take j).flatMap e)) none (.own (.slot 5)))], h, []⟩) (fun j => j ≤ l.length) (fun j => l.length - j) 0 (by simp) ?_ ?_
  · simp [Leq, hh, hargs]
  · intro j hj
    by_cases hlt : j < l.length
    · have hlt' : (j : Int) < l.length := by omega
      have hw : IntKind.i64.wrap ((j : Int) + 1) = (j : Int) + 1 := wrap64 (by omega) (by omega)
      obtain ⟨hx, hb⟩ := flat_step e l (putL [] l.length 2).length j hlt _ (by simpa [listL] using hl)
      have hq : ∀ y ∈ (AV.v (.int .i64 l[j])) :: cap, y.idOf = none := by simpa using hcap
      simp [hlt, hlt', intC]
      refine ⟨hcap, xcall_self hq (hg l[j] (List.getElem_mem _)) ?_⟩
      simp [idsOf_none hq, idsOf_none hcap, hw, -List.length_flatMap]
      refine ⟨by omega, j + 1, by omega, by omega, ?_⟩
      simp [Leq, hh, hargs, hx]
    · have hlt' : ¬ (j : Int) < l.length := by omega
      have : j = l.length := by omega
      subst this
      simp [hh, listL]
theorem wlistC_c (e : Cl → List UInt8) (l : List Cl) (g : FuncId) (cap : List AV) (h : List (List AV)) (hl : (listL e l).length ≤ 140737488355328) (hl2 : l.length ≤ 140737488355328) (hcap : ∀ c ∈ cap, c.idOf = none) (hlt : ltL h.length cap)
    (hg : ∀ n, n ∈ l → ∀ h', Contract Tryz.prog g (.agg (cellC n) :: cap) (h ++ h') (.sl 1 (bytesE (e n)) none (.own .res)) (h ++ h') []) :
    Contract Tryz.prog 120 [.sl 2 (enc cellC l) none .no, .fn (.func g) [] cap] h (.sl 1 (bytesE (listL e l)) none (.own .res)) h [] := by
  refine contract_of k120 mixed (by simp [c120]) fun hh hargs => ?_
  simp at hargs
  simp [c120]
  refine xcall_of (put_c [] l.length 2 (by simp) h) (by simp) (by simp) ?_
  simp
  refine xloop_ok (D := Nat) (fun j => ⟨[(1, .fn (.func g) [] cap), (11, .sl 2 (enc cellC l) none .no), (12, .v (.int .i64 l.length)), (13, .v (.int .i64 j))], [(5, .sl 1 (bytesE (putL [] l.length 2 ++ (l.take j).flatMap e)) none (.own (.slot 5)))], h, []⟩) (fun j => j ≤ l.length) (fun j => l.length - j) 0 (by simp) ?_ ?_
  · simp [Leq, hh, hargs]
  · intro j hj
    by_cases hlt : j < l.length
    · have hlt' : (j : Int) < l.length := by omega
      have hw : IntKind.i64.wrap ((j : Int) + 1) = (j : Int) + 1 := wrap64 (by omega) (by omega)
      obtain ⟨hx, hb⟩ := flat_step e l (putL [] l.length 2).length j hlt _ (by simpa [listL] using hl)
      have hq : ∀ y ∈ (AV.agg (cellC l[j])) :: cap, y.idOf = none := by simpa using hcap
      simp [hlt, hlt']
      refine ⟨hcap, xcall_self hq (hg l[j] (List.getElem_mem _) _) ?_⟩
      simp [idsOf_none hq, idsOf_none hcap, hw, -List.length_flatMap]
      refine ⟨by omega, j + 1, by omega, by omega, ?_⟩
      simp [Leq, hh, hargs, hx]
    · have hlt' : ¬ (j : Int) < l.length := by omega
      have : j = l.length := by omega
      subst this
      simp [hh, listL]
def numE (size : Int) (n : Int) : List UInt8 := putL [] n size
theorem wnum1_c (size n : Int) (i : Nat) (h : List (List AV)) (hi : h[i]? = some [.v (.int .i64 size)]) : Contract Tryz.prog 124 [.v (.int .i64 n), .box i 0] h (.sl 1 (bytesE (numE size n)) none (.own .res)) h [] := by
  refine contract_of k124 mixed (by simp [c124]) fun hh hargs => ?_
  simp [c124, hi]
  refine xcall_of (put_c [] n size (by simp) h) (by simp) (by simp) ?_
  simp [hh, numE]
theorem wnumbers_c (size : Int) (l : List Int) (h : List (List AV)) (hl : (listL (numE size) l).length ≤ 140737488355328) (hl2 : l.length ≤ 140737488355328) :
    Contract Tryz.prog 85 [.v (.int .i64 size), .sl 1 (enc intC l) none .no] h (.sl 1 (bytesE (listL (numE size) l)) none (.own .res)) h [] := by
  refine contract_of k85 mixed (by simp [c85]) fun hh hargs => ?_
  simp [c85]
  refine xcall_self (by simp) (wlistI_c (numE size) l _ [.box h.length 0] _ hl hl2 (by simp) (by simp) fun n _ => wnum1_c size n _ _ (by simp)) ?_
  simp [hh]
/-- A cell's bytes. -/
def cellE (c : Cl) : List UInt8 := if c.1 = true then putL [] 4294967295 4 else putL [] c.2.length 4 ++ c.2
theorem cellE_null (b : List UInt8) : cellE (true, b) = putL [] 4294967295 4 := if_pos rfl
theorem cellE_bytes (b : List UInt8) : cellE (false, b) = putL [] b.length 4 ++ b := if_neg (by simp)
theorem wcell_c (c : Cl) (h : List (List AV)) (hl : c.2.length ≤ 70000000000000) : Contract Tryz.prog 121 [.agg (cellC c)] h (.sl 1 (bytesE (cellE c)) none (.own .res)) h [] := by
  refine contract_of k121 mixed (by simp [c121]) fun hh hargs => ?_
  obtain ⟨n, b⟩ := c
  cases n with
  | true =>
    rw [cellE_null]
    generalize hN : (4294967295 : Int) = N
    have hc : c121 = c121 := rfl
    simp [c121, cellC, hN]
    refine xcall_of (put_c [] N 4 (by simp) _) (by simp) (by simp) ?_
    simp [hh]
  | false =>
    have hp := put_len b.length 4 (by omega) []
    rw [cellE_bytes]
    simp [c121, cellC]
    refine xcall_of (put_c [] b.length 4 (by simp) _) (by simp) (by simp) ?_
    simp at hl hp
    simp [hh]
    omega
theorem wcells2_c (l : List Cl) (h : List (List AV)) (hl : (listL cellE l).length ≤ 140737488355328) (hl2 : l.length ≤ 140737488355328) (hl3 : ∀ c ∈ l, c.2.length ≤ 70000000000000) :
    Contract Tryz.prog 82 [.sl 2 (enc cellC l) none .no] h (.sl 1 (bytesE (listL cellE l)) none (.own .res)) h [] := by
  refine contract_of k82 mixed (by simp [c82]) fun hh hargs => ?_
  simp [c82]
  refine xcall_self (by simp) (wlistC_c cellE l _ [] _ hl hl2 (by simp) (by simp) fun n hn h' => wcell_c n _ (hl3 n hn)) ?_
  simp [hh]
end Go.Proofs.YthilellmckhejaaGreat.Ax
