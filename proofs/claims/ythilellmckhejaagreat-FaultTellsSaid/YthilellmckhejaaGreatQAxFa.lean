/- Package fault over values without memory: Make, Get, With, Fatal; the statement of what was put. -/
import Derived.Test.YthilellmckhejaaGreatQAxX
import Derived.Test.YthilellmckhejaaGreatRows
import Derived.Test.YthilellmckhejaaGreatQAxPl
import Derived.Test.YthilellmckhejaaGreatQAxFl
import Derived.Test.YthilellmckhejaaGreatQAxIb
import Derived.Test.YthilellmckhejaaGreatQAxCm
/- The texts of functions over values without memory, as the kernel reckons them out of the program. -/
namespace Go.Proofs.YthilellmckhejaaGreat.Ax
open Go.RowKit Go By

def c33 : XFun := ⟨9, (.seq (.ops [⟨(some 4), (.assign (.const (.bool false))), none⟩]) (.seq (.ops [⟨(some 5), (.move (.tmp 0)), none⟩, ⟨(some 6), (.move (.tmp 1)), none⟩, ⟨(some 7), (.call 76 [(.tmp 5), (.tmp 6)]), none⟩, ⟨(some 8), (.bin .geq (.tmp 7) (.const (.int .i64 0))), none⟩, ⟨(some 4), (.assign (.tmp 8)), none⟩]) .ret)), [(.move (.tmp 4))]⟩
theorem k33 : cfun Tryz.prog 33 = some c33 := by kernel_rfl
def c76 : XFun := ⟨19, (.seq (.ops [⟨(some 4), (.assign (.const (.int .i64 0))), none⟩]) (.seq (.seq (.ops [⟨(some 6), (.move (.tmp 0)), none⟩, ⟨(some 7), (.lenL (.tmp 6)), none⟩, ⟨(some 8), (.move (.const (.int .i64 0))), none⟩]) (.block 0 (.loop (.seq (.ops [⟨(some 9), (.bin .lss (.tmp 8) (.tmp 7)), none⟩]) (.seq (.cond (.tmp 9) .skip (.exit 0)) (.seq (.block 1 (.seq (.ops [⟨(some 10), (.move (.tmp 8)), none⟩, ⟨(some 5), (.assign (.tmp 10)), none⟩]) (.seq (.ops [⟨(some 11), (.move (.tmp 1)), none⟩, ⟨(some 12), (.move (.tmp 0)), none⟩, ⟨(some 13), (.move (.tmp 5)), none⟩, ⟨(some 14), (.iaddr 7 (.tmp 12) (.tmp 13)), none⟩, ⟨(some 15), (.loadN 7 (.tmp 14)), none⟩, ⟨(some 16), (.callv (.tmp 11) [(.tmp 15)]), none⟩]) (.cond (.tmp 16) (.seq (.ops [⟨(some 17), (.move (.tmp 5)), none⟩, ⟨(some 4), (.assign (.tmp 17)), none⟩]) .ret) .skip)))) (.ops [⟨(some 18), (.bin .add (.tmp 8) (.const (.int .i64 1))), none⟩, ⟨(some 8), (.move (.tmp 18)), none⟩]))))))) (.seq (.ops [⟨(some 4), (.assign (.const (.int .i64 (-1)))), none⟩]) .ret))), [(.move (.tmp 4))]⟩
theorem k76 : cfun Tryz.prog 76 = some c76 := by kernel_rfl
def c37 : XFun := ⟨9, (.seq (.ops [⟨(some 4), (.assign (.const (.bool false))), none⟩]) (.seq (.ops [⟨(some 5), (.move (.tmp 0)), none⟩, ⟨(some 6), (.move (.tmp 1)), none⟩, ⟨(some 7), (.call 78 [(.tmp 5), (.tmp 6)]), none⟩, ⟨(some 8), (.bin .geq (.tmp 7) (.const (.int .i64 0))), none⟩, ⟨(some 4), (.assign (.tmp 8)), none⟩]) .ret)), [(.move (.tmp 4))]⟩
theorem k37 : cfun Tryz.prog 37 = some c37 := by kernel_rfl
def c78 : XFun := ⟨19, (.seq (.ops [⟨(some 4), (.assign (.const (.int .i64 0))), none⟩]) (.seq (.seq (.ops [⟨(some 6), (.move (.tmp 0)), none⟩, ⟨(some 7), (.lenL (.tmp 6)), none⟩, ⟨(some 8), (.move (.const (.int .i64 0))), none⟩]) (.block 0 (.loop (.seq (.ops [⟨(some 9), (.bin .lss (.tmp 8) (.tmp 7)), none⟩]) (.seq (.cond (.tmp 9) .skip (.exit 0)) (.seq (.block 1 (.seq (.ops [⟨(some 10), (.move (.tmp 8)), none⟩, ⟨(some 5), (.assign (.tmp 10)), none⟩]) (.seq (.ops [⟨(some 11), (.move (.tmp 1)), none⟩, ⟨(some 12), (.move (.tmp 0)), none⟩, ⟨(some 13), (.move (.tmp 5)), none⟩, ⟨(some 14), (.iaddr 2 (.tmp 12) (.tmp 13)), none⟩, ⟨(some 15), (.loadN 2 (.tmp 14)), none⟩, ⟨(some 16), (.callv (.tmp 11) [(.tmp 15)]), none⟩]) (.cond (.tmp 16) (.seq (.ops [⟨(some 17), (.move (.tmp 5)), none⟩, ⟨(some 4), (.assign (.tmp 17)), none⟩]) .ret) .skip)))) (.ops [⟨(some 18), (.bin .add (.tmp 8) (.const (.int .i64 1))), none⟩, ⟨(some 8), (.move (.tmp 18)), none⟩]))))))) (.seq (.ops [⟨(some 4), (.assign (.const (.int .i64 (-1)))), none⟩]) .ret))), [(.move (.tmp 4))]⟩
theorem k78 : cfun Tryz.prog 78 = some c78 := by kernel_rfl
def c61 : XFun := ⟨26, (.seq (.ops [⟨(some 4), (.assign (.const (.bool false))), none⟩]) (.seq (.seq (.ops [⟨(some 6), (.move (.tmp 0)), none⟩, ⟨(some 7), (.lenL (.tmp 6)), none⟩, ⟨(some 8), (.move (.tmp 1)), none⟩, ⟨(some 9), (.lenL (.tmp 8)), none⟩, ⟨(some 10), (.bin .neq (.tmp 7) (.tmp 9)), none⟩]) (.cond (.tmp 10) (.seq (.ops [⟨(some 4), (.assign (.const (.bool false))), none⟩]) .ret) .skip)) (.seq (.seq (.ops [⟨(some 11), (.move (.tmp 0)), none⟩, ⟨(some 12), (.lenL (.tmp 11)), none⟩, ⟨(some 13), (.move (.const (.int .i64 0))), none⟩]) (.block 0 (.loop (.seq (.ops [⟨(some 14), (.bin .lss (.tmp 13) (.tmp 12)), none⟩]) (.seq (.cond (.tmp 14) .skip (.exit 0)) (.seq (.block 1 (.seq (.ops [⟨(some 15), (.move (.tmp 13)), none⟩, ⟨(some 5), (.assign (.tmp 15)), none⟩]) (.seq (.draws (.take ⟨(some 16), (.move (.tmp 0)), none⟩ (.take ⟨(some 17), (.move (.tmp 5)), none⟩ (.take ⟨(some 18), (.iaddr 7 (.tmp 16) (.tmp 17)), none⟩ (.take ⟨(some 19), (.loadN 7 (.tmp 18)), none⟩ (.take ⟨(some 20), (.move (.tmp 1)), none⟩ (.take ⟨(some 21), (.move (.tmp 5)), none⟩ (.take ⟨(some 22), (.iaddr 7 (.tmp 20) (.tmp 21)), none⟩ (.take ⟨(some 23), (.loadN 7 (.tmp 22)), none⟩ (.take ⟨(some 24), (.aeq true [2, 1, 1, 1, 1, 1, 1] (.tmp 19) (.tmp 23)), none⟩ .done)))))))))) (.cond (.tmp 24) (.seq (.ops [⟨(some 4), (.assign (.const (.bool false))), none⟩]) .ret) .skip)))) (.ops [⟨(some 25), (.bin .add (.tmp 13) (.const (.int .i64 1))), none⟩, ⟨(some 13), (.move (.tmp 25)), none⟩]))))))) (.seq (.ops [⟨(some 4), (.assign (.const (.bool true))), none⟩]) .ret)))), [(.move (.tmp 4))]⟩
theorem k61 : cfun Tryz.prog 61 = some c61 := by kernel_rfl
def c25 : XFun := ⟨26, (.seq (.ops [⟨(some 4), (.assign (.const (.bool false))), none⟩]) (.seq (.seq (.ops [⟨(some 6), (.move (.tmp 0)), none⟩, ⟨(some 7), (.lenL (.tmp 6)), none⟩, ⟨(some 8), (.move (.tmp 1)), none⟩, ⟨(some 9), (.lenL (.tmp 8)), none⟩, ⟨(some 10), (.bin .neq (.tmp 7) (.tmp 9)), none⟩]) (.cond (.tmp 10) (.seq (.ops [⟨(some 4), (.assign (.const (.bool false))), none⟩]) .ret) .skip)) (.seq (.seq (.ops [⟨(some 11), (.move (.tmp 0)), none⟩, ⟨(some 12), (.lenL (.tmp 11)), none⟩, ⟨(some 13), (.move (.const (.int .i64 0))), none⟩]) (.block 0 (.loop (.seq (.ops [⟨(some 14), (.bin .lss (.tmp 13) (.tmp 12)), none⟩]) (.seq (.cond (.tmp 14) .skip (.exit 0)) (.seq (.block 1 (.seq (.ops [⟨(some 15), (.move (.tmp 13)), none⟩, ⟨(some 5), (.assign (.tmp 15)), none⟩]) (.seq (.draws (.take ⟨(some 16), (.move (.tmp 0)), none⟩ (.take ⟨(some 17), (.move (.tmp 5)), none⟩ (.take ⟨(some 18), (.iaddr 2 (.tmp 16) (.tmp 17)), none⟩ (.take ⟨(some 19), (.loadN 2 (.tmp 18)), none⟩ (.take ⟨(some 20), (.move (.tmp 1)), none⟩ (.take ⟨(some 21), (.move (.tmp 5)), none⟩ (.take ⟨(some 22), (.iaddr 2 (.tmp 20) (.tmp 21)), none⟩ (.take ⟨(some 23), (.loadN 2 (.tmp 22)), none⟩ (.take ⟨(some 24), (.aeq true [1, 2] (.tmp 19) (.tmp 23)), none⟩ .done)))))))))) (.cond (.tmp 24) (.seq (.ops [⟨(some 4), (.assign (.const (.bool false))), none⟩]) .ret) .skip)))) (.ops [⟨(some 25), (.bin .add (.tmp 13) (.const (.int .i64 1))), none⟩, ⟨(some 13), (.move (.tmp 25)), none⟩]))))))) (.seq (.ops [⟨(some 4), (.assign (.const (.bool true))), none⟩]) .ret)))), [(.move (.tmp 4))]⟩
theorem k25 : cfun Tryz.prog 25 = some c25 := by kernel_rfl
def c23 : XFun := ⟨8, (.seq (.ops [⟨(some 2), (.assign (.const (.slice none 0 0))), none⟩]) (.seq (.seq (.ops [⟨(some 3), (.move (.tmp 0)), none⟩, ⟨(some 4), (.nileq false (.tmp 3)), none⟩]) (.cond (.tmp 4) (.seq (.ops [⟨(some 2), (.assign (.const (.slice none 0 0))), none⟩]) .ret) .skip)) (.seq (.ops [⟨(some 5), .bad, none⟩, ⟨(some 6), (.move (.tmp 0)), none⟩, ⟨(some 7), (.append 2 24 (.tmp 5) (.tmp 6)), none⟩, ⟨(some 2), (.assign (.tmp 7)), none⟩]) .ret))), [(.move (.tmp 2))]⟩
theorem k23 : cfun Tryz.prog 23 = some c23 := by kernel_rfl
def c83 : XFun := ⟨24, (.seq (.ops [⟨(some 4), (.assign (.const (.slice none 0 0))), none⟩]) (.seq (.ops [⟨(some 8), (.move (.tmp 0)), none⟩, ⟨(some 9), (.lenL (.tmp 8)), none⟩, ⟨(some 10), (.call 65 [(.const (.slice none 0 0)), (.tmp 9), (.const (.int .i64 2))]), none⟩, ⟨(some 5), (.assign (.tmp 10)), none⟩]) (.seq (.seq (.ops [⟨(some 11), (.move (.tmp 0)), none⟩, ⟨(some 12), (.lenL (.tmp 11)), none⟩, ⟨(some 13), (.move (.const (.int .i64 0))), none⟩]) (.block 0 (.loop (.seq (.ops [⟨(some 14), (.bin .lss (.tmp 13) (.tmp 12)), none⟩]) (.seq (.cond (.tmp 14) .skip (.exit 0)) (.seq (.block 1 (.seq (.ops [⟨(some 15), (.iaddr 7 (.tmp 11) (.tmp 13)), none⟩, ⟨(some 16), (.loadN 7 (.tmp 15)), none⟩, ⟨(some 7), (.alloc [(.v (.string (strB []))), (.v (.int .i64 0)), (.v (.int .i64 0)), (.v (.int .i64 0)), (.v (.int .i64 0)), (.v (.int .i64 0)), (.v (.int .i64 0))]), none⟩, ⟨none, (.store 7 (.tmp 7) (.tmp 16)), none⟩]) (.ops [⟨(some 17), (.move (.tmp 5)), none⟩, ⟨(some 18), (.move (.tmp 1)), none⟩, ⟨(some 19), (.loadN 7 (.tmp 7)), none⟩, ⟨(some 20), (.callv (.tmp 18) [(.tmp 19)]), none⟩, ⟨(some 21), (.append 1 1 (.tmp 17) (.tmp 20)), none⟩, ⟨(some 5), (.assign (.tmp 21)), none⟩]))) (.ops [⟨(some 22), (.bin .add (.tmp 13) (.const (.int .i64 1))), none⟩, ⟨(some 13), (.move (.tmp 22)), none⟩]))))))) (.seq (.ops [⟨(some 23), (.move (.tmp 5)), none⟩, ⟨(some 4), (.assign (.tmp 23)), none⟩]) .ret)))), [(.move (.tmp 4))]⟩
theorem k83 : cfun Tryz.prog 83 = some c83 := by kernel_rfl
def c107 : XFun := ⟨21, (.seq (.ops [⟨(some 2), (.box (.tmp 0)), none⟩, ⟨(some 4), (.assign (.const (.slice none 0 0))), none⟩]) (.seq (.ops [⟨(some 5), (.assign (.const (.slice none 0 0))), none⟩]) (.seq (.seq (.ops [⟨(some 6), (.faddr 0 (.tmp 2)), none⟩, ⟨(some 7), (.load1 (.tmp 6)), none⟩, ⟨(some 8), (.call 104 [(.tmp 7), (.const (.int .i64 2))]), none⟩, ⟨(some 9), (.move (.const (.int .i64 0))), none⟩]) (.block 0 (.loop (.seq (.ops [⟨(some 10), (.bin .lss (.tmp 9) (.tmp 8)), none⟩]) (.seq (.cond (.tmp 10) .skip (.exit 0)) (.seq (.block 1 (.seq (.ops [⟨(some 11), (.move (.tmp 5)), none⟩, ⟨(some 12), (.move (.tmp 1)), none⟩, ⟨(some 13), (.callv (.tmp 12) []), none⟩, ⟨(some 14), (.buildSlice 7 1 [(.v (.string (strB []))), (.v (.int .i64 0)), (.v (.int .i64 0)), (.v (.int .i64 0)), (.v (.int .i64 0)), (.v (.int .i64 0)), (.v (.int .i64 0))] [(0, (.tmp 13))]), none⟩, ⟨(some 15), (.append 7 64 (.tmp 11) (.tmp 14)), none⟩, ⟨(some 5), (.assign (.tmp 15)), none⟩]) (.seq (.ops [⟨(some 16), (.faddr 0 (.tmp 2)), none⟩, ⟨(some 17), (.load1 (.tmp 16)), none⟩, ⟨(some 18), (.call 111 [(.tmp 17)]), none⟩]) (.cond (.tmp 18) (.seq (.ops [⟨(some 4), (.assign (.const (.slice none 0 0))), none⟩]) .ret) .skip)))) (.ops [⟨(some 19), (.bin .add (.tmp 9) (.const (.int .i64 1))), none⟩, ⟨(some 9), (.move (.tmp 19)), none⟩]))))))) (.seq (.ops [⟨(some 20), (.move (.tmp 5)), none⟩, ⟨(some 4), (.assign (.tmp 20)), none⟩]) .ret)))), [(.move (.tmp 4))]⟩
theorem k107 : cfun Tryz.prog 107 = some c107 := by kernel_rfl
def c8 : XFun := ⟨16, (.seq (.ops [⟨(some 1), (.box (.tmp 0)), none⟩, ⟨(some 2), (.alloc [(.v (.int .u8 0)), (.sl 0 [] (some true) .exact)]), none⟩, ⟨(some 3), (.assign (.const (.int .i64 0))), none⟩]) (.seq (.seq (.ops [⟨(some 5), (.loadN 11 (.tmp 1)), none⟩, ⟨(some 6), (.call 11 [(.tmp 5)]), none⟩, ⟨(some 4), (.assign (.tmp 6)), none⟩]) (.seq (.ops [⟨(some 7), (.move (.tmp 4)), none⟩, ⟨(some 8), (.bin .neq (.tmp 7) (.const (.int .i64 0))), none⟩]) (.cond (.tmp 8) (.seq (.ops [⟨(some 9), (.build [(.v (.int .u8 0)), (.sl 0 [] (some true) .exact)] []), none⟩, ⟨(some 10), (.move (.tmp 4)), none⟩, ⟨none, (.store 2 (.tmp 2) (.tmp 9)), none⟩, ⟨(some 3), (.assign (.tmp 10)), none⟩]) .ret) .skip))) (.seq (.draws (.take ⟨(some 11), (.faddr 0 (.tmp 1)), none⟩ (.take ⟨(some 12), (.load1 (.tmp 11)), none⟩ (.take ⟨(some 13), (.loadN 11 (.tmp 1)), none⟩ (.only ⟨(some 14), (.call 39 [(.tmp 13)]), none⟩ (.take ⟨(some 15), (.build [(.v (.int .u8 0)), (.sl 0 [] (some true) .exact)] [(0, (1, (.tmp 12))), (1, (1, (.tmp 14)))]), none⟩ (.only ⟨none, (.store 2 (.tmp 2) (.tmp 15)), none⟩ (.take ⟨(some 3), (.assign (.const (.int .i64 0))), none⟩ .done)))))))) .ret))), [(.loadN 2 (.tmp 2)), (.move (.tmp 3))]⟩
theorem k8 : cfun Tryz.prog 8 = some c8 := by kernel_rfl
def c17 : XFun := ⟨34, (.seq (.ops [⟨(some 1), (.box (.tmp 0)), none⟩, ⟨(some 2), (.alloc [(.v (.int .u8 0)), (.v (.int .u8 0)), (.v (.string (strB []))), (.v (.string (strB []))), (.v (.string (strB []))), (.v (.int .i64 0)), (.v (.int .i64 0)), (.sl 0 [] (some true) .exact), (.sl 0 [] (some true) .exact), (.sl 0 [] (some true) .exact), (.sl 0 [] (some true) .exact)]), none⟩, ⟨(some 3), (.assign (.const (.int .i64 0))), none⟩]) (.seq (.seq (.ops [⟨(some 7), (.faddr 0 (.tmp 1)), none⟩, ⟨(some 8), (.load1 (.tmp 7)), none⟩, ⟨(some 9), (.call 46 [(.tmp 8)]), none⟩, ⟨(some 10), (.un .not (.tmp 9)), none⟩]) (.cond (.tmp 10) (.seq (.ops [⟨(some 11), (.build [(.v (.int .u8 0)), (.v (.int .u8 0)), (.v (.string (strB []))), (.v (.string (strB []))), (.v (.string (strB []))), (.v (.int .i64 0)), (.v (.int .i64 0)), (.sl 0 [] (some true) .exact), (.sl 0 [] (some true) .exact), (.sl 0 [] (some true) .exact), (.sl 0 [] (some true) .exact)] []), none⟩, ⟨none, (.store 11 (.tmp 2) (.tmp 11)), none⟩, ⟨(some 3), (.assign (.const (.int .i64 9))), none⟩]) .ret) .skip)) (.seq (.ops [⟨(some 12), (.faddr 1 (.tmp 1)), none⟩, ⟨(some 13), (.load1 (.tmp 12)), none⟩, ⟨(some 14), (.call 67 [(.tmp 13)]), none⟩, ⟨(some 15), (.build [(.v (.pointer none))] [(0, (1, (.tmp 14)))]), none⟩, ⟨(some 4), (.alloc [(.v (.pointer none))]), none⟩, ⟨none, (.store 1 (.tmp 4) (.tmp 15)), none⟩]) (.seq (.ops [⟨(some 17), (.loadN 1 (.tmp 4)), none⟩, ⟨(some 18), (.faddr 0 (.tmp 1)), none⟩, ⟨(some 19), (.load1 (.tmp 18)), none⟩, ⟨(some 20), (.call 68 [(.tmp 17), (.tmp 19)]), none⟩, ⟨(some 16), (.move (.tmp 20)), none⟩, ⟨(some 21), (.extract (.tmp 16) 0), none⟩, ⟨(some 22), (.extract (.tmp 16) 1), none⟩, ⟨(some 5), (.alloc [(.v (.int .u8 0)), (.v (.int .u8 0)), (.v (.string (strB []))), (.v (.string (strB []))), (.v (.string (strB []))), (.v (.int .i64 0)), (.v (.int .i64 0)), (.sl 0 [] (some true) .exact), (.sl 0 [] (some true) .exact), (.sl 0 [] (some true) .exact), (.sl 0 [] (some true) .exact)]), none⟩, ⟨none, (.store 11 (.tmp 5) (.tmp 21)), none⟩, ⟨(some 6), (.assign (.tmp 22)), none⟩]) (.seq (.seq (.ops [⟨(some 23), (.move (.tmp 6)), none⟩, ⟨(some 24), (.un .not (.tmp 23)), none⟩, ⟨(some 25), (.move (.tmp 24)), none⟩, ⟨(some 26), (.faddr 0 (.tmp 4)), (some (25, false))⟩, ⟨(some 27), (.faddr 0 (.tmp 26)), (some (25, false))⟩, ⟨(some 28), (.load1 (.tmp 27)), (some (25, false))⟩, ⟨(some 29), (.call 69 [(.tmp 28)]), (some (25, false))⟩, ⟨(some 30), (.un .not (.tmp 29)), (some (25, false))⟩, ⟨(some 31), (.pick (.tmp 25) (.const (.bool true)) (.tmp 30)), none⟩]) (.cond (.tmp 31) (.seq (.ops [⟨(some 32), (.build [(.v (.int .u8 0)), (.v (.int .u8 0)), (.v (.string (strB []))), (.v (.string (strB []))), (.v (.string (strB []))), (.v (.int .i64 0)), (.v (.int .i64 0)), (.sl 0 [] (some true) .exact), (.sl 0 [] (some true) .exact), (.sl 0 [] (some true) .exact), (.sl 0 [] (some true) .exact)] []), none⟩, ⟨none, (.store 11 (.tmp 2) (.tmp 32)), none⟩, ⟨(some 3), (.assign (.const (.int .i64 4))), none⟩]) .ret) .skip)) (.seq (.ops [⟨(some 33), (.loadN 11 (.tmp 5)), none⟩, ⟨none, (.store 11 (.tmp 2) (.tmp 33)), none⟩, ⟨(some 3), (.assign (.const (.int .i64 0))), none⟩]) .ret)))))), [(.loadN 11 (.tmp 2)), (.move (.tmp 3))]⟩
theorem k17 : cfun Tryz.prog 17 = some c17 := by kernel_rfl
def c13 : XFun := ⟨80, (.seq (.ops [⟨(some 2), (.box (.tmp 0)), none⟩, ⟨(some 3), (.box (.tmp 1)), none⟩, ⟨(some 4), (.assign (.const (.bool false))), none⟩]) (.seq (.ops [⟨(some 5), (.faddr 0 (.tmp 2)), none⟩, ⟨(some 6), (.load1 (.tmp 5)), none⟩, ⟨(some 7), (.faddr 0 (.tmp 3)), none⟩, ⟨(some 8), (.load1 (.tmp 7)), none⟩, ⟨(some 9), (.bin .eql (.tmp 6) (.tmp 8)), none⟩, ⟨(some 10), (.move (.tmp 9)), none⟩, ⟨(some 11), (.faddr 1 (.tmp 2)), (some (10, true))⟩, ⟨(some 12), (.load1 (.tmp 11)), (some (10, true))⟩, ⟨(some 13), (.faddr 1 (.tmp 3)), (some (10, true))⟩, ⟨(some 14), (.load1 (.tmp 13)), (some (10, true))⟩, ⟨(some 15), (.bin .eql (.tmp 12) (.tmp 14)), (some (10, true))⟩, ⟨(some 16), (.pick (.tmp 10) (.tmp 15) (.const (.bool false))), none⟩, ⟨(some 17), (.move (.tmp 16)), none⟩, ⟨(some 18), (.faddr 2 (.tmp 2)), (some (17, true))⟩, ⟨(some 19), (.load1 (.tmp 18)), (some (17, true))⟩, ⟨(some 20), (.faddr 2 (.tmp 3)), (some (17, true))⟩, ⟨(some 21), (.load1 (.tmp 20)), (some (17, true))⟩, ⟨(some 22), (.bin .eql (.tmp 19) (.tmp 21)), (some (17, true))⟩, ⟨(some 23), (.pick (.tmp 17) (.tmp 22) (.const (.bool false))), none⟩, ⟨(some 24), (.move (.tmp 23)), none⟩, ⟨(some 25), (.faddr 3 (.tmp 2)), (some (24, true))⟩, ⟨(some 26), (.load1 (.tmp 25)), (some (24, true))⟩, ⟨(some 27), (.faddr 3 (.tmp 3)), (some (24, true))⟩, ⟨(some 28), (.load1 (.tmp 27)), (some (24, true))⟩, ⟨(some 29), (.bin .eql (.tmp 26) (.tmp 28)), (some (24, true))⟩, ⟨(some 30), (.pick (.tmp 24) (.tmp 29) (.const (.bool false))), none⟩, ⟨(some 31), (.move (.tmp 30)), none⟩, ⟨(some 32), (.faddr 4 (.tmp 2)), (some (31, true))⟩, ⟨(some 33), (.load1 (.tmp 32)), (some (31, true))⟩, ⟨(some 34), (.faddr 4 (.tmp 3)), (some (31, true))⟩, ⟨(some 35), (.load1 (.tmp 34)), (some (31, true))⟩, ⟨(some 36), (.bin .eql (.tmp 33) (.tmp 35)), (some (31, true))⟩, ⟨(some 37), (.pick (.tmp 31) (.tmp 36) (.const (.bool false))), none⟩, ⟨(some 38), (.move (.tmp 37)), none⟩, ⟨(some 39), (.faddr 5 (.tmp 2)), (some (38, true))⟩, ⟨(some 40), (.load1 (.tmp 39)), (some (38, true))⟩, ⟨(some 41), (.faddr 5 (.tmp 3)), (some (38, true))⟩, ⟨(some 42), (.load1 (.tmp 41)), (some (38, true))⟩, ⟨(some 43), (.bin .eql (.tmp 40) (.tmp 42)), (some (38, true))⟩, ⟨(some 44), (.pick (.tmp 38) (.tmp 43) (.const (.bool false))), none⟩, ⟨(some 45), (.move (.tmp 44)), none⟩, ⟨(some 46), (.faddr 6 (.tmp 2)), (some (45, true))⟩, ⟨(some 47), (.load1 (.tmp 46)), (some (45, true))⟩, ⟨(some 48), (.faddr 6 (.tmp 3)), (some (45, true))⟩, ⟨(some 49), (.load1 (.tmp 48)), (some (45, true))⟩, ⟨(some 50), (.bin .eql (.tmp 47) (.tmp 49)), (some (45, true))⟩, ⟨(some 51), (.pick (.tmp 45) (.tmp 50) (.const (.bool false))), none⟩, ⟨(some 52), (.move (.tmp 51)), none⟩, ⟨(some 53), (.faddr 7 (.tmp 2)), (some (52, true))⟩, ⟨(some 54), (.load1 (.tmp 53)), (some (52, true))⟩, ⟨(some 55), (.faddr 7 (.tmp 3)), (some (52, true))⟩, ⟨(some 56), (.load1 (.tmp 55)), (some (52, true))⟩, ⟨(some 57), (.call 60 [(.tmp 54), (.tmp 56)]), (some (52, true))⟩, ⟨(some 58), (.pick (.tmp 52) (.tmp 57) (.const (.bool false))), none⟩, ⟨(some 59), (.move (.tmp 58)), none⟩, ⟨(some 60), (.faddr 8 (.tmp 2)), (some (59, true))⟩, ⟨(some 61), (.load1 (.tmp 60)), (some (59, true))⟩, ⟨(some 62), (.faddr 8 (.tmp 3)), (some (59, true))⟩, ⟨(some 63), (.load1 (.tmp 62)), (some (59, true))⟩, ⟨(some 64), (.call 61 [(.tmp 61), (.tmp 63)]), (some (59, true))⟩, ⟨(some 65), (.pick (.tmp 59) (.tmp 64) (.const (.bool false))), none⟩, ⟨(some 66), (.move (.tmp 65)), none⟩, ⟨(some 67), (.faddr 9 (.tmp 2)), (some (66, true))⟩, ⟨(some 68), (.load1 (.tmp 67)), (some (66, true))⟩, ⟨(some 69), (.faddr 9 (.tmp 3)), (some (66, true))⟩, ⟨(some 70), (.load1 (.tmp 69)), (some (66, true))⟩, ⟨(some 71), (.call 62 [(.tmp 68), (.tmp 70)]), (some (66, true))⟩, ⟨(some 72), (.pick (.tmp 66) (.tmp 71) (.const (.bool false))), none⟩, ⟨(some 73), (.move (.tmp 72)), none⟩, ⟨(some 74), (.faddr 10 (.tmp 2)), (some (73, true))⟩, ⟨(some 75), (.load1 (.tmp 74)), (some (73, true))⟩, ⟨(some 76), (.faddr 10 (.tmp 3)), (some (73, true))⟩, ⟨(some 77), (.load1 (.tmp 76)), (some (73, true))⟩, ⟨(some 78), (.call 25 [(.tmp 75), (.tmp 77)]), (some (73, true))⟩, ⟨(some 79), (.pick (.tmp 73) (.tmp 78) (.const (.bool false))), none⟩, ⟨(some 4), (.assign (.tmp 79)), none⟩]) .ret)), [(.move (.tmp 4))]⟩
theorem k13 : cfun Tryz.prog 13 = some c13 := by kernel_rfl
def c15 : XFun := ⟨39, (.seq (.ops [⟨(some 2), (.assign (.const (.slice none 0 0))), none⟩]) (.seq (.ops [⟨(some 3), (.assign (.const (.slice none 0 0))), none⟩]) (.seq (.seq (.ops [⟨(some 8), (.move (.tmp 0)), none⟩, ⟨(some 9), (.lenL (.tmp 8)), none⟩, ⟨(some 10), (.move (.const (.int .i64 0))), none⟩]) (.block 0 (.loop (.seq (.ops [⟨(some 11), (.bin .lss (.tmp 10) (.tmp 9)), none⟩]) (.seq (.cond (.tmp 11) .skip (.exit 0)) (.seq (.block 1 (.seq (.ops [⟨(some 12), (.iaddr 11 (.tmp 8) (.tmp 10)), none⟩, ⟨(some 13), (.loadN 11 (.tmp 12)), none⟩, ⟨(some 5), (.alloc [(.v (.int .u8 0)), (.v (.int .u8 0)), (.v (.string (strB []))), (.v (.string (strB []))), (.v (.string (strB []))), (.v (.int .i64 0)), (.v (.int .i64 0)), (.sl 0 [] (some true) .exact), (.sl 0 [] (some true) .exact), (.sl 0 [] (some true) .exact), (.sl 0 [] (some true) .exact)]), none⟩, ⟨none, (.store 11 (.tmp 5) (.tmp 13)), none⟩]) (.seq (.ops [⟨(some 15), (.loadN 11 (.tmp 5)), none⟩, ⟨(some 16), (.call 8 [(.tmp 15)]), none⟩, ⟨(some 14), (.move (.tmp 16)), none⟩, ⟨(some 17), (.extract (.tmp 14) 0), none⟩, ⟨(some 18), (.extract (.tmp 14) 1), none⟩, ⟨(some 6), (.alloc [(.v (.int .u8 0)), (.sl 0 [] (some true) .exact)]), none⟩, ⟨none, (.store 2 (.tmp 6) (.tmp 17)), none⟩, ⟨(some 7), (.assign (.tmp 18)), none⟩]) (.seq (.seq (.ops [⟨(some 19), (.move (.tmp 7)), none⟩, ⟨(some 20), (.bin .neq (.tmp 19) (.const (.int .i64 0))), none⟩]) (.cond (.tmp 20) (.exit 1) .skip)) (.seq (.ops [⟨(some 21), (.move (.tmp 3)), none⟩, ⟨(some 22), (.faddr 0 (.tmp 6)), none⟩, ⟨(some 23), (.load1 (.tmp 22)), none⟩, ⟨(some 24), (.buildSlice 1 1 [(.v (.int .u8 0))] [(0, (.tmp 23))]), none⟩, ⟨(some 25), (.append 1 1 (.tmp 21) (.tmp 24)), none⟩, ⟨(some 3), (.assign (.tmp 25)), none⟩]) (.seq (.ops [⟨(some 26), (.move (.tmp 3)), none⟩, ⟨(some 27), (.faddr 1 (.tmp 6)), none⟩, ⟨(some 28), (.load1 (.tmp 27)), none⟩, ⟨(some 29), (.lenL (.tmp 28)), none⟩, ⟨(some 30), (.bin .add (.tmp 29) (.const (.int .i64 4))), none⟩, ⟨(some 31), (.call 65 [(.const (.slice none 0 0)), (.tmp 30), (.const (.int .i64 4))]), none⟩, ⟨(some 32), (.append 1 1 (.tmp 26) (.tmp 31)), none⟩, ⟨(some 3), (.assign (.tmp 32)), none⟩]) (.ops [⟨(some 33), (.move (.tmp 3)), none⟩, ⟨(some 34), (.faddr 1 (.tmp 6)), none⟩, ⟨(some 35), (.load1 (.tmp 34)), none⟩, ⟨(some 36), (.append 1 1 (.tmp 33) (.tmp 35)), none⟩, ⟨(some 3), (.assign (.tmp 36)), none⟩]))))))) (.ops [⟨(some 37), (.bin .add (.tmp 10) (.const (.int .i64 1))), none⟩, ⟨(some 10), (.move (.tmp 37)), none⟩]))))))) (.seq (.ops [⟨(some 38), (.move (.tmp 3)), none⟩, ⟨(some 2), (.assign (.tmp 38)), none⟩]) .ret)))), [(.move (.tmp 2))]⟩
theorem k15 : cfun Tryz.prog 15 = some c15 := by kernel_rfl
def c11 : XFun := ⟨42, (.seq (.ops [⟨(some 1), (.box (.tmp 0)), none⟩, ⟨(some 2), (.assign (.const (.int .i64 0))), none⟩]) (.seq (.seq (.ops [⟨(some 3), (.faddr 0 (.tmp 1)), none⟩, ⟨(some 4), (.load1 (.tmp 3)), none⟩, ⟨(some 5), (.call 46 [(.tmp 4)]), none⟩, ⟨(some 6), (.un .not (.tmp 5)), none⟩]) (.cond (.tmp 6) (.seq (.ops [⟨(some 2), (.assign (.const (.int .i64 9))), none⟩]) .ret) .skip)) (.seq (.seq (.draws (.take ⟨(some 7), (.loadN 11 (.tmp 1)), none⟩ (.only ⟨(some 8), (.call 47 [(.tmp 7)]), none⟩ (.take ⟨(some 9), (.un .not (.tmp 8)), none⟩ (.take ⟨(some 10), (.move (.tmp 9)), none⟩ (.take ⟨(some 11), (.loadN 11 (.tmp 1)), (some (10, false))⟩ (.only ⟨(some 12), (.call 48 [(.tmp 11)]), (some (10, false))⟩ (.take ⟨(some 13), (.un .not (.tmp 12)), (some (10, false))⟩ (.take ⟨(some 14), (.pick (.tmp 10) (.const (.bool true)) (.tmp 13)), none⟩ (.take ⟨(some 15), (.move (.tmp 14)), none⟩ (.take ⟨(some 16), (.faddr 2 (.tmp 1)), (some (15, false))⟩ (.take ⟨(some 17), (.load1 (.tmp 16)), (some (15, false))⟩ (.take ⟨(some 18), (.faddr 3 (.tmp 1)), (some (15, false))⟩ (.take ⟨(some 19), (.load1 (.tmp 18)), (some (15, false))⟩ (.take ⟨(some 20), (.faddr 4 (.tmp 1)), (some (15, false))⟩ (.take ⟨(some 21), (.load1 (.tmp 20)), (some (15, false))⟩ (.only ⟨(some 22), (.buildSlice 1 3 [(.v (.string (strB [])))] [(0, (.tmp 17)), (1, (.tmp 19)), (2, (.tmp 21))]), (some (15, false))⟩ (.only ⟨(some 23), (.call 49 [(.tmp 22)]), (some (15, false))⟩ (.take ⟨(some 24), (.un .not (.tmp 23)), (some (15, false))⟩ (.take ⟨(some 25), (.pick (.tmp 15) (.const (.bool true)) (.tmp 24)), none⟩ (.take ⟨(some 26), (.move (.tmp 25)), none⟩ (.take ⟨(some 27), (.faddr 5 (.tmp 1)), (some (26, false))⟩ (.take ⟨(some 28), (.load1 (.tmp 27)), (some (26, false))⟩ (.take ⟨(some 29), (.faddr 6 (.tmp 1)), (some (26, false))⟩ (.take ⟨(some 30), (.load1 (.tmp 29)), (some (26, false))⟩ (.only ⟨(some 31), (.buildSlice 1 2 [(.v (.int .i64 0))] [(0, (.tmp 28)), (1, (.tmp 30))]), (some (26, false))⟩ (.only ⟨(some 32), (.call 50 [(.const (.int .i64 4)), (.tmp 31)]), (some (26, false))⟩ (.take ⟨(some 33), (.un .not (.tmp 32)), (some (26, false))⟩ (.take ⟨(some 34), (.pick (.tmp 26) (.const (.bool true)) (.tmp 33)), none⟩ (.take ⟨(some 35), (.move (.tmp 34)), none⟩ (.take ⟨(some 36), (.loadN 11 (.tmp 1)), (some (35, false))⟩ (.take ⟨(some 37), (.loadN 11 (.tmp 1)), (some (35, false))⟩ (.only ⟨(some 38), (.call 51 [(.tmp 37)]), (some (35, false))⟩ (.only ⟨(some 39), (.call 13 [(.tmp 36), (.tmp 38)]), (some (35, false))⟩ (.take ⟨(some 40), (.un .not (.tmp 39)), (some (35, false))⟩ (.take ⟨(some 41), (.pick (.tmp 35) (.const (.bool true)) (.tmp 40)), none⟩ .done)))))))))))))))))))))))))))))))))))) (.cond (.tmp 41) (.seq (.ops [⟨(some 2), (.assign (.const (.int .i64 1))), none⟩]) .ret) .skip)) (.seq (.ops [⟨(some 2), (.assign (.const (.int .i64 0))), none⟩]) .ret)))), [(.move (.tmp 2))]⟩
theorem k11 : cfun Tryz.prog 11 = some c11 := by kernel_rfl
def c39 : XFun := ⟨58, (.seq (.ops [⟨(some 1), (.box (.tmp 0)), none⟩, ⟨(some 2), (.assign (.const (.slice none 0 0))), none⟩]) (.seq (.seq (.ops [⟨(some 3), (.faddr 0 (.tmp 1)), none⟩, ⟨(some 4), (.load1 (.tmp 3)), none⟩]) (.block 0 (.seq (.ops [⟨(some 6), (.bin .eql (.tmp 4) (.const (.int .u8 82))), none⟩, ⟨(some 5), (.assign (.tmp 6)), none⟩]) (.cond (.tmp 5) (.seq (.ops [⟨(some 7), (.call 79 [(.const (.int .i64 0))]), none⟩, ⟨(some 2), (.assign (.tmp 7)), none⟩]) .ret) (.seq (.ops [⟨(some 9), (.bin .eql (.tmp 4) (.const (.int .u8 83))), none⟩, ⟨(some 8), (.assign (.tmp 9)), none⟩]) (.cond (.tmp 8) (.seq (.ops [⟨(some 10), (.faddr 3 (.tmp 1)), none⟩, ⟨(some 11), (.load1 (.tmp 10)), none⟩, ⟨(some 12), (.faddr 4 (.tmp 1)), none⟩, ⟨(some 13), (.load1 (.tmp 12)), none⟩, ⟨(some 14), (.buildSlice 1 2 [(.v (.string (strB [])))] [(0, (.tmp 11)), (1, (.tmp 13))]), none⟩, ⟨(some 15), (.call 80 [(.tmp 14)]), none⟩, ⟨(some 2), (.assign (.tmp 15)), none⟩]) .ret) (.seq (.ops [⟨(some 17), (.bin .eql (.tmp 4) (.const (.int .u8 75))), none⟩, ⟨(some 16), (.assign (.tmp 17)), none⟩]) (.cond (.tmp 16) (.seq (.draws (.take ⟨(some 18), (.faddr 5 (.tmp 1)), none⟩ (.take ⟨(some 19), (.load1 (.tmp 18)), none⟩ (.take ⟨(some 21), (.faddr 6 (.tmp 1)), none⟩ (.take ⟨(some 22), (.load1 (.tmp 21)), none⟩ (.only ⟨(some 20), (.call 79 [(.tmp 19)]), none⟩ (.only ⟨(some 23), (.call 79 [(.tmp 22)]), none⟩ (.only ⟨(some 24), (.buildSlice 1 2 [(.sl 0 [] (some true) .exact)] [(0, (.tmp 20)), (1, (.tmp 23))]), none⟩ (.only ⟨(some 25), (.call 81 [(.tmp 24)]), none⟩ (.take ⟨(some 2), (.assign (.tmp 25)), none⟩ .done)))))))))) .ret) (.seq (.ops [⟨(some 27), (.bin .eql (.tmp 4) (.const (.int .u8 90))), none⟩, ⟨(some 26), (.assign (.tmp 27)), none⟩]) (.cond (.tmp 26) (.seq (.ops [⟨(some 28), (.faddr 1 (.tmp 1)), none⟩, ⟨(some 29), (.load1 (.tmp 28)), none⟩, ⟨(some 30), (.buildSlice 1 1 [(.v (.int .u8 0))] [(0, (.tmp 29))]), none⟩, ⟨(some 2), (.assign (.tmp 30)), none⟩]) .ret) (.seq (.ops [⟨(some 32), (.bin .eql (.tmp 4) (.const (.int .u8 67))), none⟩, ⟨(some 31), (.assign (.tmp 32)), none⟩]) (.cond (.tmp 31) (.seq (.ops [⟨(some 33), (.faddr 2 (.tmp 1)), none⟩, ⟨(some 34), (.load1 (.tmp 33)), none⟩, ⟨(some 35), (.buildSlice 1 1 [(.v (.string (strB [])))] [(0, (.tmp 34))]), none⟩, ⟨(some 36), (.call 80 [(.tmp 35)]), none⟩, ⟨(some 2), (.assign (.tmp 36)), none⟩]) .ret) (.seq (.ops [⟨(some 38), (.bin .eql (.tmp 4) (.const (.int .u8 68))), none⟩, ⟨(some 37), (.assign (.tmp 38)), none⟩]) (.cond (.tmp 37) (.seq (.ops [⟨(some 39), (.faddr 9 (.tmp 1)), none⟩, ⟨(some 40), (.load1 (.tmp 39)), none⟩, ⟨(some 41), (.call 82 [(.tmp 40)]), none⟩, ⟨(some 2), (.assign (.tmp 41)), none⟩]) .ret) (.seq (.ops [⟨(some 43), (.bin .eql (.tmp 4) (.const (.int .u8 84))), none⟩, ⟨(some 42), (.assign (.tmp 43)), none⟩]) (.cond (.tmp 42) (.seq (.ops [⟨(some 44), (.faddr 8 (.tmp 1)), none⟩, ⟨(some 45), (.load1 (.tmp 44)), none⟩, ⟨(some 46), (.call 83 [(.tmp 45), (.func 84)]), none⟩, ⟨(some 2), (.assign (.tmp 46)), none⟩]) .ret) (.seq (.ops [⟨(some 48), (.bin .eql (.tmp 4) (.const (.int .u8 116))), none⟩, ⟨(some 47), (.assign (.tmp 48)), none⟩]) (.cond (.tmp 47) (.seq (.ops [⟨(some 49), (.faddr 7 (.tmp 1)), none⟩, ⟨(some 50), (.load1 (.tmp 49)), none⟩, ⟨(some 51), (.call 85 [(.const (.int .i64 4)), (.tmp 50)]), none⟩, ⟨(some 2), (.assign (.tmp 51)), none⟩]) .ret) (.seq (.seq (.ops [⟨(some 53), (.bin .eql (.tmp 4) (.const (.int .u8 69))), none⟩, ⟨(some 52), (.assign (.tmp 53)), none⟩]) (.cond (.tmp 52) .skip (.ops [⟨(some 54), (.bin .eql (.tmp 4) (.const (.int .u8 78))), none⟩, ⟨(some 52), (.assign (.tmp 54)), none⟩]))) (.cond (.tmp 52) (.seq (.ops [⟨(some 55), (.faddr 10 (.tmp 1)), none⟩, ⟨(some 56), (.load1 (.tmp 55)), none⟩, ⟨(some 57), (.call 86 [(.tmp 56)]), none⟩, ⟨(some 2), (.assign (.tmp 57)), none⟩]) .ret) .skip)))))))))))))))))))) (.seq (.ops [⟨(some 2), (.assign (.const (.slice none 0 0))), none⟩]) .ret))), [(.move (.tmp 2))]⟩
theorem k39 : cfun Tryz.prog 39 = some c39 := by kernel_rfl
def c46 : XFun := ⟨21, (.seq (.ops [⟨(some 2), (.assign (.const (.bool false))), none⟩]) (.seq (.seq (.ops [⟨(some 3), (.move (.tmp 0)), none⟩]) (.block 0 (.seq (.seq (.ops [⟨(some 5), (.bin .eql (.tmp 3) (.const (.int .u8 82))), none⟩, ⟨(some 4), (.assign (.tmp 5)), none⟩]) (.cond (.tmp 4) .skip (.seq (.ops [⟨(some 6), (.bin .eql (.tmp 3) (.const (.int .u8 83))), none⟩, ⟨(some 4), (.assign (.tmp 6)), none⟩]) (.cond (.tmp 4) .skip (.seq (.ops [⟨(some 7), (.bin .eql (.tmp 3) (.const (.int .u8 75))), none⟩, ⟨(some 4), (.assign (.tmp 7)), none⟩]) (.cond (.tmp 4) .skip (.seq (.ops [⟨(some 8), (.bin .eql (.tmp 3) (.const (.int .u8 90))), none⟩, ⟨(some 4), (.assign (.tmp 8)), none⟩]) (.cond (.tmp 4) .skip (.seq (.ops [⟨(some 9), (.bin .eql (.tmp 3) (.const (.int .u8 49))), none⟩, ⟨(some 4), (.assign (.tmp 9)), none⟩]) (.cond (.tmp 4) .skip (.seq (.ops [⟨(some 10), (.bin .eql (.tmp 3) (.const (.int .u8 50))), none⟩, ⟨(some 4), (.assign (.tmp 10)), none⟩]) (.cond (.tmp 4) .skip (.seq (.ops [⟨(some 11), (.bin .eql (.tmp 3) (.const (.int .u8 51))), none⟩, ⟨(some 4), (.assign (.tmp 11)), none⟩]) (.cond (.tmp 4) .skip (.seq (.ops [⟨(some 12), (.bin .eql (.tmp 3) (.const (.int .u8 110))), none⟩, ⟨(some 4), (.assign (.tmp 12)), none⟩]) (.cond (.tmp 4) .skip (.seq (.ops [⟨(some 13), (.bin .eql (.tmp 3) (.const (.int .u8 115))), none⟩, ⟨(some 4), (.assign (.tmp 13)), none⟩]) (.cond (.tmp 4) .skip (.seq (.ops [⟨(some 14), (.bin .eql (.tmp 3) (.const (.int .u8 73))), none⟩, ⟨(some 4), (.assign (.tmp 14)), none⟩]) (.cond (.tmp 4) .skip (.seq (.ops [⟨(some 15), (.bin .eql (.tmp 3) (.const (.int .u8 67))), none⟩, ⟨(some 4), (.assign (.tmp 15)), none⟩]) (.cond (.tmp 4) .skip (.seq (.ops [⟨(some 16), (.bin .eql (.tmp 3) (.const (.int .u8 68))), none⟩, ⟨(some 4), (.assign (.tmp 16)), none⟩]) (.cond (.tmp 4) .skip (.seq (.ops [⟨(some 17), (.bin .eql (.tmp 3) (.const (.int .u8 84))), none⟩, ⟨(some 4), (.assign (.tmp 17)), none⟩]) (.cond (.tmp 4) .skip (.seq (.ops [⟨(some 18), (.bin .eql (.tmp 3) (.const (.int .u8 116))), none⟩, ⟨(some 4), (.assign (.tmp 18)), none⟩]) (.cond (.tmp 4) .skip (.seq (.ops [⟨(some 19), (.bin .eql (.tmp 3) (.const (.int .u8 69))), none⟩, ⟨(some 4), (.assign (.tmp 19)), none⟩]) (.cond (.tmp 4) .skip (.ops [⟨(some 20), (.bin .eql (.tmp 3) (.const (.int .u8 78))), none⟩, ⟨(some 4), (.assign (.tmp 20)), none⟩]))))))))))))))))))))))))))))))) (.cond (.tmp 4) (.seq (.ops [⟨(some 2), (.assign (.const (.bool true))), none⟩]) .ret) .skip)))) (.seq (.ops [⟨(some 2), (.assign (.const (.bool false))), none⟩]) .ret))), [(.move (.tmp 2))]⟩
theorem k46 : cfun Tryz.prog 46 = some c46 := by kernel_rfl
def c68 : XFun := ⟨88, (.seq (.ops [⟨(some 2), (.box (.tmp 0)), none⟩, ⟨(some 4), (.alloc [(.v (.int .u8 0)), (.v (.int .u8 0)), (.v (.string (strB []))), (.v (.string (strB []))), (.v (.string (strB []))), (.v (.int .i64 0)), (.v (.int .i64 0)), (.sl 0 [] (some true) .exact), (.sl 0 [] (some true) .exact), (.sl 0 [] (some true) .exact), (.sl 0 [] (some true) .exact)]), none⟩, ⟨(some 5), (.assign (.const (.bool false))), none⟩]) (.seq (.ops [⟨(some 8), (.move (.tmp 1)), none⟩, ⟨(some 9), (.build [(.v (.int .u8 0)), (.v (.int .u8 0)), (.v (.string (strB []))), (.v (.string (strB []))), (.v (.string (strB []))), (.v (.int .i64 0)), (.v (.int .i64 0)), (.sl 0 [] (some true) .exact), (.sl 0 [] (some true) .exact), (.sl 0 [] (some true) .exact), (.sl 0 [] (some true) .exact)] [(0, (1, (.tmp 8)))]), none⟩, ⟨(some 6), (.alloc [(.v (.int .u8 0)), (.v (.int .u8 0)), (.v (.string (strB []))), (.v (.string (strB []))), (.v (.string (strB []))), (.v (.int .i64 0)), (.v (.int .i64 0)), (.sl 0 [] (some true) .exact), (.sl 0 [] (some true) .exact), (.sl 0 [] (some true) .exact), (.sl 0 [] (some true) .exact)]), none⟩, ⟨none, (.store 11 (.tmp 6) (.tmp 9)), none⟩, ⟨(some 7), (.assign (.const (.bool true))), none⟩]) (.seq (.seq (.ops [⟨(some 10), (.move (.tmp 1)), none⟩]) (.block 0 (.seq (.ops [⟨(some 12), (.bin .eql (.tmp 10) (.const (.int .u8 82))), none⟩, ⟨(some 11), (.assign (.tmp 12)), none⟩]) (.cond (.tmp 11) (.ops [⟨(some 13), (.faddr 0 (.tmp 2)), none⟩, ⟨(some 14), (.faddr 0 (.tmp 13)), none⟩, ⟨(some 15), (.load1 (.tmp 14)), none⟩, ⟨(some 16), (.call 104 [(.tmp 15), (.const (.int .i64 4))]), none⟩, ⟨(some 17), (.bin .eql (.tmp 16) (.const (.int .i64 0))), none⟩, ⟨(some 7), (.assign (.tmp 17)), none⟩]) (.seq (.ops [⟨(some 19), (.bin .eql (.tmp 10) (.const (.int .u8 83))), none⟩, ⟨(some 18), (.assign (.tmp 19)), none⟩]) (.cond (.tmp 18) (.seq (.ops [⟨(some 20), (.faddr 0 (.tmp 2)), none⟩, ⟨(some 21), (.faddr 0 (.tmp 20)), none⟩, ⟨(some 22), (.load1 (.tmp 21)), none⟩, ⟨(some 23), (.call 105 [(.tmp 22)]), none⟩, ⟨(some 24), (.faddr 3 (.tmp 6)), none⟩, ⟨none, (.store 1 (.tmp 24) (.tmp 23)), none⟩]) (.ops [⟨(some 25), (.faddr 0 (.tmp 2)), none⟩, ⟨(some 26), (.faddr 0 (.tmp 25)), none⟩, ⟨(some 27), (.load1 (.tmp 26)), none⟩, ⟨(some 28), (.call 105 [(.tmp 27)]), none⟩, ⟨(some 29), (.faddr 4 (.tmp 6)), none⟩, ⟨none, (.store 1 (.tmp 29) (.tmp 28)), none⟩])) (.seq (.ops [⟨(some 31), (.bin .eql (.tmp 10) (.const (.int .u8 75))), none⟩, ⟨(some 30), (.assign (.tmp 31)), none⟩]) (.cond (.tmp 30) (.seq (.ops [⟨(some 32), (.faddr 0 (.tmp 2)), none⟩, ⟨(some 33), (.faddr 0 (.tmp 32)), none⟩, ⟨(some 34), (.load1 (.tmp 33)), none⟩, ⟨(some 35), (.call 104 [(.tmp 34), (.const (.int .i64 4))]), none⟩, ⟨(some 36), (.faddr 5 (.tmp 6)), none⟩, ⟨none, (.store 1 (.tmp 36) (.tmp 35)), none⟩]) (.ops [⟨(some 37), (.faddr 0 (.tmp 2)), none⟩, ⟨(some 38), (.faddr 0 (.tmp 37)), none⟩, ⟨(some 39), (.load1 (.tmp 38)), none⟩, ⟨(some 40), (.call 104 [(.tmp 39), (.const (.int .i64 4))]), none⟩, ⟨(some 41), (.faddr 6 (.tmp 6)), none⟩, ⟨none, (.store 1 (.tmp 41) (.tmp 40)), none⟩])) (.seq (.ops [⟨(some 43), (.bin .eql (.tmp 10) (.const (.int .u8 90))), none⟩, ⟨(some 42), (.assign (.tmp 43)), none⟩]) (.cond (.tmp 42) (.seq (.ops [⟨(some 44), (.faddr 0 (.tmp 2)), none⟩, ⟨(some 45), (.faddr 0 (.tmp 44)), none⟩, ⟨(some 46), (.load1 (.tmp 45)), none⟩, ⟨(some 47), (.call 104 [(.tmp 46), (.const (.int .i64 1))]), none⟩, ⟨(some 48), (.conv .u8 (.tmp 47)), none⟩, ⟨(some 49), (.faddr 1 (.tmp 6)), none⟩, ⟨none, (.store 1 (.tmp 49) (.tmp 48)), none⟩]) (.ops [⟨(some 50), (.faddr 1 (.tmp 6)), none⟩, ⟨(some 51), (.load1 (.tmp 50)), none⟩, ⟨(some 52), (.call 89 [(.tmp 51)]), none⟩, ⟨(some 7), (.assign (.tmp 52)), none⟩])) (.seq (.ops [⟨(some 54), (.bin .eql (.tmp 10) (.const (.int .u8 67))), none⟩, ⟨(some 53), (.assign (.tmp 54)), none⟩]) (.cond (.tmp 53) (.ops [⟨(some 55), (.faddr 0 (.tmp 2)), none⟩, ⟨(some 56), (.faddr 0 (.tmp 55)), none⟩, ⟨(some 57), (.load1 (.tmp 56)), none⟩, ⟨(some 58), (.call 105 [(.tmp 57)]), none⟩, ⟨(some 59), (.faddr 2 (.tmp 6)), none⟩, ⟨none, (.store 1 (.tmp 59) (.tmp 58)), none⟩]) (.seq (.ops [⟨(some 61), (.bin .eql (.tmp 10) (.const (.int .u8 68))), none⟩, ⟨(some 60), (.assign (.tmp 61)), none⟩]) (.cond (.tmp 60) (.ops [⟨(some 62), (.faddr 0 (.tmp 2)), none⟩, ⟨(some 63), (.loadN 1 (.tmp 62)), none⟩, ⟨(some 64), (.call 106 [(.tmp 63)]), none⟩, ⟨(some 65), (.faddr 9 (.tmp 6)), none⟩, ⟨none, (.store 1 (.tmp 65) (.tmp 64)), none⟩]) (.seq (.ops [⟨(some 67), (.bin .eql (.tmp 10) (.const (.int .u8 84))), none⟩, ⟨(some 66), (.assign (.tmp 67)), none⟩]) (.cond (.tmp 66) (.ops [⟨(some 68), (.faddr 0 (.tmp 2)), none⟩, ⟨(some 69), (.loadN 1 (.tmp 68)), none⟩, ⟨(some 70), (.loadN 1 (.tmp 2)), none⟩, ⟨(some 71), (.mkfn (.func 108) [(.tmp 70)] []), none⟩, ⟨(some 72), (.call 107 [(.tmp 69), (.tmp 71)]), none⟩, ⟨(some 73), (.faddr 8 (.tmp 6)), none⟩, ⟨none, (.store 1 (.tmp 73) (.tmp 72)), none⟩]) (.seq (.ops [⟨(some 75), (.bin .eql (.tmp 10) (.const (.int .u8 116))), none⟩, ⟨(some 74), (.assign (.tmp 75)), none⟩]) (.cond (.tmp 74) (.ops [⟨(some 76), (.faddr 0 (.tmp 2)), none⟩, ⟨(some 77), (.loadN 1 (.tmp 76)), none⟩, ⟨(some 78), (.call 109 [(.tmp 77), (.const (.int .i64 4))]), none⟩, ⟨(some 79), (.faddr 7 (.tmp 6)), none⟩, ⟨none, (.store 1 (.tmp 79) (.tmp 78)), none⟩]) (.seq (.seq (.ops [⟨(some 81), (.bin .eql (.tmp 10) (.const (.int .u8 69))), none⟩, ⟨(some 80), (.assign (.tmp 81)), none⟩]) (.cond (.tmp 80) .skip (.ops [⟨(some 82), (.bin .eql (.tmp 10) (.const (.int .u8 78))), none⟩, ⟨(some 80), (.assign (.tmp 82)), none⟩]))) (.cond (.tmp 80) (.ops [⟨(some 83), (.loadN 1 (.tmp 2)), none⟩, ⟨(some 84), (.call 110 [(.tmp 83)]), none⟩, ⟨(some 85), (.faddr 10 (.tmp 6)), none⟩, ⟨none, (.store 1 (.tmp 85) (.tmp 84)), none⟩]) .skip)))))))))))))))))))) (.seq (.ops [⟨(some 86), (.loadN 11 (.tmp 6)), none⟩, ⟨(some 87), (.move (.tmp 7)), none⟩, ⟨none, (.store 11 (.tmp 4) (.tmp 86)), none⟩, ⟨(some 5), (.assign (.tmp 87)), none⟩]) .ret)))), [(.loadN 11 (.tmp 4)), (.move (.tmp 5))]⟩
theorem k68 : cfun Tryz.prog 68 = some c68 := by kernel_rfl
def c47 : XFun := ⟨11, (.seq (.ops [⟨(some 1), (.box (.tmp 0)), none⟩, ⟨(some 2), (.assign (.const (.bool false))), none⟩]) (.seq (.ops [⟨(some 3), (.faddr 0 (.tmp 1)), none⟩, ⟨(some 4), (.load1 (.tmp 3)), none⟩, ⟨(some 5), (.bin .neq (.tmp 4) (.const (.int .u8 90))), none⟩, ⟨(some 6), (.move (.tmp 5)), none⟩, ⟨(some 7), (.faddr 1 (.tmp 1)), (some (6, false))⟩, ⟨(some 8), (.load1 (.tmp 7)), (some (6, false))⟩, ⟨(some 9), (.call 89 [(.tmp 8)]), (some (6, false))⟩, ⟨(some 10), (.pick (.tmp 6) (.const (.bool true)) (.tmp 9)), none⟩, ⟨(some 2), (.assign (.tmp 10)), none⟩]) .ret)), [(.move (.tmp 2))]⟩
theorem k47 : cfun Tryz.prog 47 = some c47 := by kernel_rfl
def c48 : XFun := ⟨39, (.seq (.ops [⟨(some 1), (.box (.tmp 0)), none⟩, ⟨(some 2), (.assign (.const (.bool false))), none⟩]) (.seq (.ops [⟨(some 3), (.faddr 7 (.tmp 1)), none⟩, ⟨(some 4), (.load1 (.tmp 3)), none⟩, ⟨(some 5), (.lenL (.tmp 4)), none⟩, ⟨(some 6), (.faddr 8 (.tmp 1)), none⟩, ⟨(some 7), (.load1 (.tmp 6)), none⟩, ⟨(some 8), (.lenL (.tmp 7)), none⟩, ⟨(some 9), (.faddr 9 (.tmp 1)), none⟩, ⟨(some 10), (.load1 (.tmp 9)), none⟩, ⟨(some 11), (.lenL (.tmp 10)), none⟩, ⟨(some 12), (.faddr 10 (.tmp 1)), none⟩, ⟨(some 13), (.load1 (.tmp 12)), none⟩, ⟨(some 14), (.lenL (.tmp 13)), none⟩, ⟨(some 15), (.maxI [(.tmp 5), (.tmp 8), (.tmp 11), (.tmp 14)]), none⟩, ⟨(some 16), (.bin .leq (.tmp 15) (.const (.int .i64 65535))), none⟩, ⟨(some 17), (.move (.tmp 16)), none⟩, ⟨(some 18), (.faddr 7 (.tmp 1)), (some (17, true))⟩, ⟨(some 19), (.load1 (.tmp 18)), (some (17, true))⟩, ⟨(some 20), (.call 50 [(.const (.int .i64 4)), (.tmp 19)]), (some (17, true))⟩, ⟨(some 21), (.pick (.tmp 17) (.tmp 20) (.const (.bool false))), none⟩, ⟨(some 22), (.move (.tmp 21)), none⟩, ⟨(some 23), (.faddr 9 (.tmp 1)), (some (22, true))⟩, ⟨(some 24), (.load1 (.tmp 23)), (some (22, true))⟩, ⟨(some 25), (.call 90 [(.tmp 24)]), (some (22, true))⟩, ⟨(some 26), (.pick (.tmp 22) (.tmp 25) (.const (.bool false))), none⟩, ⟨(some 27), (.move (.tmp 26)), none⟩, ⟨(some 28), (.faddr 8 (.tmp 1)), (some (27, true))⟩, ⟨(some 29), (.load1 (.tmp 28)), (some (27, true))⟩, ⟨(some 30), (.call 33 [(.tmp 29), (.func 91)]), (some (27, true))⟩, ⟨(some 31), (.un .not (.tmp 30)), (some (27, true))⟩, ⟨(some 32), (.pick (.tmp 27) (.tmp 31) (.const (.bool false))), none⟩, ⟨(some 33), (.move (.tmp 32)), none⟩, ⟨(some 34), (.faddr 10 (.tmp 1)), (some (33, true))⟩, ⟨(some 35), (.load1 (.tmp 34)), (some (33, true))⟩, ⟨(some 36), (.call 37 [(.tmp 35), (.func 93)]), (some (33, true))⟩, ⟨(some 37), (.un .not (.tmp 36)), (some (33, true))⟩, ⟨(some 38), (.pick (.tmp 33) (.tmp 37) (.const (.bool false))), none⟩, ⟨(some 2), (.assign (.tmp 38)), none⟩]) .ret)), [(.move (.tmp 2))]⟩
theorem k48 : cfun Tryz.prog 48 = some c48 := by kernel_rfl
def c91 : XFun := ⟨6, (.seq (.ops [⟨(some 1), (.box (.tmp 0)), none⟩, ⟨(some 2), (.assign (.const (.bool false))), none⟩]) (.seq (.ops [⟨(some 3), (.loadN 7 (.tmp 1)), none⟩, ⟨(some 4), (.call 92 [(.tmp 3)]), none⟩, ⟨(some 5), (.un .not (.tmp 4)), none⟩, ⟨(some 2), (.assign (.tmp 5)), none⟩]) .ret)), [(.move (.tmp 2))]⟩
theorem k91 : cfun Tryz.prog 91 = some c91 := by kernel_rfl
def c93 : XFun := ⟨6, (.seq (.ops [⟨(some 1), (.box (.tmp 0)), none⟩, ⟨(some 2), (.assign (.const (.bool false))), none⟩]) (.seq (.ops [⟨(some 3), (.loadN 2 (.tmp 1)), none⟩, ⟨(some 4), (.call 94 [(.tmp 3)]), none⟩, ⟨(some 5), (.un .not (.tmp 4)), none⟩, ⟨(some 2), (.assign (.tmp 5)), none⟩]) .ret)), [(.move (.tmp 2))]⟩
theorem k93 : cfun Tryz.prog 93 = some c93 := by kernel_rfl
def c92 : XFun := ⟨35, (.seq (.ops [⟨(some 1), (.box (.tmp 0)), none⟩, ⟨(some 2), (.assign (.const (.bool false))), none⟩]) (.seq (.ops [⟨(some 3), (.faddr 0 (.tmp 1)), none⟩, ⟨(some 4), (.load1 (.tmp 3)), none⟩, ⟨(some 5), (.buildSlice 1 1 [(.v (.string (strB [])))] [(0, (.tmp 4))]), none⟩, ⟨(some 6), (.call 49 [(.tmp 5)]), none⟩, ⟨(some 7), (.move (.tmp 6)), none⟩, ⟨(some 8), (.faddr 1 (.tmp 1)), (some (7, true))⟩, ⟨(some 9), (.load1 (.tmp 8)), (some (7, true))⟩, ⟨(some 10), (.faddr 3 (.tmp 1)), (some (7, true))⟩, ⟨(some 11), (.load1 (.tmp 10)), (some (7, true))⟩, ⟨(some 12), (.buildSlice 1 2 [(.v (.int .i64 0))] [(0, (.tmp 9)), (1, (.tmp 11))]), (some (7, true))⟩, ⟨(some 13), (.call 50 [(.const (.int .i64 4)), (.tmp 12)]), (some (7, true))⟩, ⟨(some 14), (.pick (.tmp 7) (.tmp 13) (.const (.bool false))), none⟩, ⟨(some 15), (.move (.tmp 14)), none⟩, ⟨(some 16), (.faddr 2 (.tmp 1)), (some (15, true))⟩, ⟨(some 17), (.load1 (.tmp 16)), (some (15, true))⟩, ⟨(some 18), (.faddr 6 (.tmp 1)), (some (15, true))⟩, ⟨(some 19), (.load1 (.tmp 18)), (some (15, true))⟩, ⟨(some 20), (.buildSlice 1 2 [(.v (.int .i64 0))] [(0, (.tmp 17)), (1, (.tmp 19))]), (some (15, true))⟩, ⟨(some 21), (.call 50 [(.const (.int .i64 2)), (.tmp 20)]), (some (15, true))⟩, ⟨(some 22), (.pick (.tmp 15) (.tmp 21) (.const (.bool false))), none⟩, ⟨(some 23), (.move (.tmp 22)), none⟩, ⟨(some 24), (.faddr 4 (.tmp 1)), (some (23, true))⟩, ⟨(some 25), (.load1 (.tmp 24)), (some (23, true))⟩, ⟨(some 26), (.buildSlice 1 1 [(.v (.int .i64 0))] [(0, (.tmp 25))]), (some (23, true))⟩, ⟨(some 27), (.call 127 [(.const (.int .i64 2)), (.tmp 26)]), (some (23, true))⟩, ⟨(some 28), (.pick (.tmp 23) (.tmp 27) (.const (.bool false))), none⟩, ⟨(some 29), (.move (.tmp 28)), none⟩, ⟨(some 30), (.faddr 5 (.tmp 1)), (some (29, true))⟩, ⟨(some 31), (.load1 (.tmp 30)), (some (29, true))⟩, ⟨(some 32), (.buildSlice 1 1 [(.v (.int .i64 0))] [(0, (.tmp 31))]), (some (29, true))⟩, ⟨(some 33), (.call 127 [(.const (.int .i64 4)), (.tmp 32)]), (some (29, true))⟩, ⟨(some 34), (.pick (.tmp 29) (.tmp 33) (.const (.bool false))), none⟩, ⟨(some 2), (.assign (.tmp 34)), none⟩]) .ret)), [(.move (.tmp 2))]⟩
theorem k92 : cfun Tryz.prog 92 = some c92 := by kernel_rfl
def c94 : XFun := ⟨12, (.seq (.ops [⟨(some 1), (.box (.tmp 0)), none⟩, ⟨(some 2), (.assign (.const (.bool false))), none⟩]) (.seq (.ops [⟨(some 3), (.faddr 0 (.tmp 1)), none⟩, ⟨(some 4), (.load1 (.tmp 3)), none⟩, ⟨(some 5), (.bin .neq (.tmp 4) (.const (.int .u8 0))), none⟩, ⟨(some 6), (.move (.tmp 5)), none⟩, ⟨(some 7), (.faddr 1 (.tmp 1)), (some (6, true))⟩, ⟨(some 8), (.load1 (.tmp 7)), (some (6, true))⟩, ⟨(some 9), (.buildSlice 1 1 [(.v (.string (strB [])))] [(0, (.tmp 8))]), (some (6, true))⟩, ⟨(some 10), (.call 49 [(.tmp 9)]), (some (6, true))⟩, ⟨(some 11), (.pick (.tmp 6) (.tmp 10) (.const (.bool false))), none⟩, ⟨(some 2), (.assign (.tmp 11)), none⟩]) .ret)), [(.move (.tmp 2))]⟩
theorem k94 : cfun Tryz.prog 94 = some c94 := by kernel_rfl
def c51 : XFun := ⟨57, (.seq (.ops [⟨(some 1), (.box (.tmp 0)), none⟩, ⟨(some 2), (.alloc [(.v (.int .u8 0)), (.v (.int .u8 0)), (.v (.string (strB []))), (.v (.string (strB []))), (.v (.string (strB []))), (.v (.int .i64 0)), (.v (.int .i64 0)), (.sl 0 [] (some true) .exact), (.sl 0 [] (some true) .exact), (.sl 0 [] (some true) .exact), (.sl 0 [] (some true) .exact)]), none⟩]) (.seq (.ops [⟨(some 4), (.faddr 0 (.tmp 1)), none⟩, ⟨(some 5), (.load1 (.tmp 4)), none⟩, ⟨(some 6), (.build [(.v (.int .u8 0)), (.v (.int .u8 0)), (.v (.string (strB []))), (.v (.string (strB []))), (.v (.string (strB []))), (.v (.int .i64 0)), (.v (.int .i64 0)), (.sl 0 [] (some true) .exact), (.sl 0 [] (some true) .exact), (.sl 0 [] (some true) .exact), (.sl 0 [] (some true) .exact)] [(0, (1, (.tmp 5)))]), none⟩, ⟨(some 3), (.alloc [(.v (.int .u8 0)), (.v (.int .u8 0)), (.v (.string (strB []))), (.v (.string (strB []))), (.v (.string (strB []))), (.v (.int .i64 0)), (.v (.int .i64 0)), (.sl 0 [] (some true) .exact), (.sl 0 [] (some true) .exact), (.sl 0 [] (some true) .exact), (.sl 0 [] (some true) .exact)]), none⟩, ⟨none, (.store 11 (.tmp 3) (.tmp 6)), none⟩]) (.seq (.seq (.ops [⟨(some 7), (.faddr 0 (.tmp 1)), none⟩, ⟨(some 8), (.load1 (.tmp 7)), none⟩]) (.block 0 (.seq (.ops [⟨(some 10), (.bin .eql (.tmp 8) (.const (.int .u8 83))), none⟩, ⟨(some 9), (.assign (.tmp 10)), none⟩]) (.cond (.tmp 9) (.draws (.take ⟨(some 11), (.faddr 3 (.tmp 1)), none⟩ (.take ⟨(some 12), (.load1 (.tmp 11)), none⟩ (.take ⟨(some 13), (.faddr 4 (.tmp 1)), none⟩ (.take ⟨(some 14), (.load1 (.tmp 13)), none⟩ (.take ⟨(some 15), (.faddr 3 (.tmp 3)), none⟩ (.only ⟨none, (.store 1 (.tmp 15) (.tmp 12)), none⟩ (.take ⟨(some 16), (.faddr 4 (.tmp 3)), none⟩ (.last ⟨none, (.store 1 (.tmp 16) (.tmp 14)), none⟩))))))))) (.seq (.ops [⟨(some 18), (.bin .eql (.tmp 8) (.const (.int .u8 75))), none⟩, ⟨(some 17), (.assign (.tmp 18)), none⟩]) (.cond (.tmp 17) (.draws (.take ⟨(some 19), (.faddr 5 (.tmp 1)), none⟩ (.take ⟨(some 20), (.load1 (.tmp 19)), none⟩ (.take ⟨(some 21), (.faddr 6 (.tmp 1)), none⟩ (.take ⟨(some 22), (.load1 (.tmp 21)), none⟩ (.take ⟨(some 23), (.faddr 5 (.tmp 3)), none⟩ (.only ⟨none, (.store 1 (.tmp 23) (.tmp 20)), none⟩ (.take ⟨(some 24), (.faddr 6 (.tmp 3)), none⟩ (.last ⟨none, (.store 1 (.tmp 24) (.tmp 22)), none⟩))))))))) (.seq (.ops [⟨(some 26), (.bin .eql (.tmp 8) (.const (.int .u8 90))), none⟩, ⟨(some 25), (.assign (.tmp 26)), none⟩]) (.cond (.tmp 25) (.ops [⟨(some 27), (.faddr 1 (.tmp 1)), none⟩, ⟨(some 28), (.load1 (.tmp 27)), none⟩, ⟨(some 29), (.faddr 1 (.tmp 3)), none⟩, ⟨none, (.store 1 (.tmp 29) (.tmp 28)), none⟩]) (.seq (.ops [⟨(some 31), (.bin .eql (.tmp 8) (.const (.int .u8 67))), none⟩, ⟨(some 30), (.assign (.tmp 31)), none⟩]) (.cond (.tmp 30) (.ops [⟨(some 32), (.faddr 2 (.tmp 1)), none⟩, ⟨(some 33), (.load1 (.tmp 32)), none⟩, ⟨(some 34), (.faddr 2 (.tmp 3)), none⟩, ⟨none, (.store 1 (.tmp 34) (.tmp 33)), none⟩]) (.seq (.ops [⟨(some 36), (.bin .eql (.tmp 8) (.const (.int .u8 68))), none⟩, ⟨(some 35), (.assign (.tmp 36)), none⟩]) (.cond (.tmp 35) (.ops [⟨(some 37), (.faddr 9 (.tmp 1)), none⟩, ⟨(some 38), (.load1 (.tmp 37)), none⟩, ⟨(some 39), (.faddr 9 (.tmp 3)), none⟩, ⟨none, (.store 1 (.tmp 39) (.tmp 38)), none⟩]) (.seq (.ops [⟨(some 41), (.bin .eql (.tmp 8) (.const (.int .u8 84))), none⟩, ⟨(some 40), (.assign (.tmp 41)), none⟩]) (.cond (.tmp 40) (.ops [⟨(some 42), (.faddr 8 (.tmp 1)), none⟩, ⟨(some 43), (.load1 (.tmp 42)), none⟩, ⟨(some 44), (.faddr 8 (.tmp 3)), none⟩, ⟨none, (.store 1 (.tmp 44) (.tmp 43)), none⟩]) (.seq (.ops [⟨(some 46), (.bin .eql (.tmp 8) (.const (.int .u8 116))), none⟩, ⟨(some 45), (.assign (.tmp 46)), none⟩]) (.cond (.tmp 45) (.ops [⟨(some 47), (.faddr 7 (.tmp 1)), none⟩, ⟨(some 48), (.load1 (.tmp 47)), none⟩, ⟨(some 49), (.faddr 7 (.tmp 3)), none⟩, ⟨none, (.store 1 (.tmp 49) (.tmp 48)), none⟩]) (.seq (.seq (.ops [⟨(some 51), (.bin .eql (.tmp 8) (.const (.int .u8 69))), none⟩, ⟨(some 50), (.assign (.tmp 51)), none⟩]) (.cond (.tmp 50) .skip (.ops [⟨(some 52), (.bin .eql (.tmp 8) (.const (.int .u8 78))), none⟩, ⟨(some 50), (.assign (.tmp 52)), none⟩]))) (.cond (.tmp 50) (.ops [⟨(some 53), (.faddr 10 (.tmp 1)), none⟩, ⟨(some 54), (.load1 (.tmp 53)), none⟩, ⟨(some 55), (.faddr 10 (.tmp 3)), none⟩, ⟨none, (.store 1 (.tmp 55) (.tmp 54)), none⟩]) .skip)))))))))))))))))) (.seq (.ops [⟨(some 56), (.loadN 11 (.tmp 3)), none⟩, ⟨none, (.store 11 (.tmp 2) (.tmp 56)), none⟩]) .ret)))), [(.loadN 11 (.tmp 2))]⟩
theorem k51 : cfun Tryz.prog 51 = some c51 := by kernel_rfl
def c79 : XFun := ⟨5, (.seq (.ops [⟨(some 2), (.assign (.const (.slice none 0 0))), none⟩]) (.seq (.ops [⟨(some 3), (.move (.tmp 0)), none⟩, ⟨(some 4), (.call 65 [(.const (.slice none 0 0)), (.tmp 3), (.const (.int .i64 4))]), none⟩, ⟨(some 2), (.assign (.tmp 4)), none⟩]) .ret)), [(.move (.tmp 2))]⟩
theorem k79 : cfun Tryz.prog 79 = some c79 := by kernel_rfl
def c122 : XFun := ⟨5, (.seq (.ops [⟨(some 2), (.assign (.const (.slice none 0 0))), none⟩]) (.seq (.ops [⟨(some 3), (.move (.tmp 0)), none⟩, ⟨(some 4), (.call 65 [(.const (.slice none 0 0)), (.tmp 3), (.const (.int .i64 2))]), none⟩, ⟨(some 2), (.assign (.tmp 4)), none⟩]) .ret)), [(.move (.tmp 2))]⟩
theorem k122 : cfun Tryz.prog 122 = some c122 := by kernel_rfl
def c84 : XFun := ⟨27, (.seq (.ops [⟨(some 1), (.box (.tmp 0)), none⟩, ⟨(some 2), (.assign (.const (.slice none 0 0))), none⟩]) (.seq (.draws (.take ⟨(some 3), (.faddr 0 (.tmp 1)), none⟩ (.take ⟨(some 4), (.load1 (.tmp 3)), none⟩ (.take ⟨(some 7), (.faddr 1 (.tmp 1)), none⟩ (.take ⟨(some 8), (.load1 (.tmp 7)), none⟩ (.take ⟨(some 10), (.faddr 2 (.tmp 1)), none⟩ (.take ⟨(some 11), (.load1 (.tmp 10)), none⟩ (.take ⟨(some 13), (.faddr 3 (.tmp 1)), none⟩ (.take ⟨(some 14), (.load1 (.tmp 13)), none⟩ (.take ⟨(some 16), (.faddr 4 (.tmp 1)), none⟩ (.take ⟨(some 17), (.load1 (.tmp 16)), none⟩ (.take ⟨(some 19), (.faddr 5 (.tmp 1)), none⟩ (.take ⟨(some 20), (.load1 (.tmp 19)), none⟩ (.take ⟨(some 22), (.faddr 6 (.tmp 1)), none⟩ (.take ⟨(some 23), (.load1 (.tmp 22)), none⟩ (.only ⟨(some 5), (.buildSlice 1 1 [(.v (.string (strB [])))] [(0, (.tmp 4))]), none⟩ (.only ⟨(some 6), (.call 80 [(.tmp 5)]), none⟩ (.only ⟨(some 9), (.call 79 [(.tmp 8)]), none⟩ (.only ⟨(some 12), (.call 122 [(.tmp 11)]), none⟩ (.only ⟨(some 15), (.call 79 [(.tmp 14)]), none⟩ (.only ⟨(some 18), (.call 122 [(.tmp 17)]), none⟩ (.only ⟨(some 21), (.call 79 [(.tmp 20)]), none⟩ (.only ⟨(some 24), (.call 122 [(.tmp 23)]), none⟩ (.only ⟨(some 25), (.buildSlice 1 7 [(.sl 0 [] (some true) .exact)] [(0, (.tmp 6)), (1, (.tmp 9)), (2, (.tmp 12)), (3, (.tmp 15)), (4, (.tmp 18)), (5, (.tmp 21)), (6, (.tmp 24))]), none⟩ (.only ⟨(some 26), (.call 81 [(.tmp 25)]), none⟩ (.take ⟨(some 2), (.assign (.tmp 26)), none⟩ .done)))))))))))))))))))))))))) .ret)), [(.move (.tmp 2))]⟩
theorem k84 : cfun Tryz.prog 84 = some c84 := by kernel_rfl
def c86 : XFun := ⟨27, (.seq (.ops [⟨(some 2), (.assign (.const (.slice none 0 0))), none⟩]) (.seq (.ops [⟨(some 3), (.assign (.const (.slice none 0 0))), none⟩]) (.seq (.seq (.ops [⟨(some 6), (.move (.tmp 0)), none⟩, ⟨(some 7), (.lenL (.tmp 6)), none⟩, ⟨(some 8), (.move (.const (.int .i64 0))), none⟩]) (.block 0 (.loop (.seq (.ops [⟨(some 9), (.bin .lss (.tmp 8) (.tmp 7)), none⟩]) (.seq (.cond (.tmp 9) .skip (.exit 0)) (.seq (.block 1 (.seq (.ops [⟨(some 10), (.iaddr 2 (.tmp 6) (.tmp 8)), none⟩, ⟨(some 11), (.loadN 2 (.tmp 10)), none⟩, ⟨(some 5), (.alloc [(.v (.int .u8 0)), (.v (.string (strB [])))]), none⟩, ⟨none, (.store 2 (.tmp 5) (.tmp 11)), none⟩]) (.seq (.ops [⟨(some 12), (.move (.tmp 3)), none⟩, ⟨(some 13), (.faddr 0 (.tmp 5)), none⟩, ⟨(some 14), (.load1 (.tmp 13)), none⟩, ⟨(some 15), (.buildSlice 1 1 [(.v (.int .u8 0))] [(0, (.tmp 14))]), none⟩, ⟨(some 16), (.append 1 1 (.tmp 12) (.tmp 15)), none⟩, ⟨(some 3), (.assign (.tmp 16)), none⟩]) (.ops [⟨(some 17), (.move (.tmp 3)), none⟩, ⟨(some 18), (.faddr 1 (.tmp 5)), none⟩, ⟨(some 19), (.load1 (.tmp 18)), none⟩, ⟨(some 20), (.buildSlice 1 1 [(.v (.string (strB [])))] [(0, (.tmp 19))]), none⟩, ⟨(some 21), (.call 80 [(.tmp 20)]), none⟩, ⟨(some 22), (.append 1 1 (.tmp 17) (.tmp 21)), none⟩, ⟨(some 3), (.assign (.tmp 22)), none⟩])))) (.ops [⟨(some 23), (.bin .add (.tmp 8) (.const (.int .i64 1))), none⟩, ⟨(some 8), (.move (.tmp 23)), none⟩]))))))) (.seq (.ops [⟨(some 24), (.move (.tmp 3)), none⟩, ⟨(some 25), (.buildSlice 1 1 [(.v (.int .u8 0))] [(0, (.const (.int .u8 0)))]), none⟩, ⟨(some 26), (.append 1 1 (.tmp 24) (.tmp 25)), none⟩, ⟨(some 2), (.assign (.tmp 26)), none⟩]) .ret)))), [(.move (.tmp 2))]⟩
theorem k86 : cfun Tryz.prog 86 = some c86 := by kernel_rfl
def c89 : XFun := ⟨13, (.seq (.ops [⟨(some 2), (.assign (.const (.bool false))), none⟩]) (.seq (.ops [⟨(some 3), (.move (.tmp 0)), none⟩, ⟨(some 4), (.bin .eql (.tmp 3) (.const (.int .u8 73))), none⟩, ⟨(some 5), (.move (.tmp 4)), none⟩, ⟨(some 6), (.move (.tmp 0)), (some (5, false))⟩, ⟨(some 7), (.bin .eql (.tmp 6) (.const (.int .u8 84))), (some (5, false))⟩, ⟨(some 8), (.pick (.tmp 5) (.const (.bool true)) (.tmp 7)), none⟩, ⟨(some 9), (.move (.tmp 8)), none⟩, ⟨(some 10), (.move (.tmp 0)), (some (9, false))⟩, ⟨(some 11), (.bin .eql (.tmp 10) (.const (.int .u8 69))), (some (9, false))⟩, ⟨(some 12), (.pick (.tmp 9) (.const (.bool true)) (.tmp 11)), none⟩, ⟨(some 2), (.assign (.tmp 12)), none⟩]) .ret)), [(.move (.tmp 2))]⟩
theorem k89 : cfun Tryz.prog 89 = some c89 := by kernel_rfl
def c108 : XFun := ⟨36, (.seq (.ops [⟨(some 1), (.box (.tmp 0)), none⟩, ⟨(some 2), (.alloc [(.v (.string (strB []))), (.v (.int .i64 0)), (.v (.int .i64 0)), (.v (.int .i64 0)), (.v (.int .i64 0)), (.v (.int .i64 0)), (.v (.int .i64 0))]), none⟩]) (.seq (.ops [⟨(some 4), (.faddr 0 (.tmp 1)), none⟩, ⟨(some 5), (.faddr 0 (.tmp 4)), none⟩, ⟨(some 6), (.load1 (.tmp 5)), none⟩, ⟨(some 7), (.call 105 [(.tmp 6)]), none⟩, ⟨(some 8), (.build [(.v (.string (strB []))), (.v (.int .i64 0)), (.v (.int .i64 0)), (.v (.int .i64 0)), (.v (.int .i64 0)), (.v (.int .i64 0)), (.v (.int .i64 0))] [(0, (1, (.tmp 7)))]), none⟩, ⟨(some 3), (.alloc [(.v (.string (strB []))), (.v (.int .i64 0)), (.v (.int .i64 0)), (.v (.int .i64 0)), (.v (.int .i64 0)), (.v (.int .i64 0)), (.v (.int .i64 0))]), none⟩, ⟨none, (.store 7 (.tmp 3) (.tmp 8)), none⟩]) (.seq (.ops [⟨(some 9), (.faddr 0 (.tmp 1)), none⟩, ⟨(some 10), (.faddr 0 (.tmp 9)), none⟩, ⟨(some 11), (.load1 (.tmp 10)), none⟩, ⟨(some 12), (.call 104 [(.tmp 11), (.const (.int .i64 4))]), none⟩, ⟨(some 13), (.faddr 1 (.tmp 3)), none⟩, ⟨none, (.store 1 (.tmp 13) (.tmp 12)), none⟩]) (.seq (.ops [⟨(some 14), (.faddr 0 (.tmp 1)), none⟩, ⟨(some 15), (.faddr 0 (.tmp 14)), none⟩, ⟨(some 16), (.load1 (.tmp 15)), none⟩, ⟨(some 17), (.call 104 [(.tmp 16), (.const (.int .i64 2))]), none⟩, ⟨(some 18), (.faddr 2 (.tmp 3)), none⟩, ⟨none, (.store 1 (.tmp 18) (.tmp 17)), none⟩]) (.seq (.ops [⟨(some 19), (.faddr 0 (.tmp 1)), none⟩, ⟨(some 20), (.faddr 0 (.tmp 19)), none⟩, ⟨(some 21), (.load1 (.tmp 20)), none⟩, ⟨(some 22), (.call 104 [(.tmp 21), (.const (.int .i64 4))]), none⟩, ⟨(some 23), (.faddr 3 (.tmp 3)), none⟩, ⟨none, (.store 1 (.tmp 23) (.tmp 22)), none⟩]) (.seq (.ops [⟨(some 24), (.loadN 1 (.tmp 1)), none⟩, ⟨(some 25), (.call 139 [(.tmp 24), (.const (.int .i64 2))]), none⟩, ⟨(some 26), (.faddr 4 (.tmp 3)), none⟩, ⟨none, (.store 1 (.tmp 26) (.tmp 25)), none⟩]) (.seq (.ops [⟨(some 27), (.loadN 1 (.tmp 1)), none⟩, ⟨(some 28), (.call 139 [(.tmp 27), (.const (.int .i64 4))]), none⟩, ⟨(some 29), (.faddr 5 (.tmp 3)), none⟩, ⟨none, (.store 1 (.tmp 29) (.tmp 28)), none⟩]) (.seq (.ops [⟨(some 30), (.faddr 0 (.tmp 1)), none⟩, ⟨(some 31), (.faddr 0 (.tmp 30)), none⟩, ⟨(some 32), (.load1 (.tmp 31)), none⟩, ⟨(some 33), (.call 104 [(.tmp 32), (.const (.int .i64 2))]), none⟩, ⟨(some 34), (.faddr 6 (.tmp 3)), none⟩, ⟨none, (.store 1 (.tmp 34) (.tmp 33)), none⟩]) (.seq (.ops [⟨(some 35), (.loadN 7 (.tmp 3)), none⟩, ⟨none, (.store 7 (.tmp 2) (.tmp 35)), none⟩]) .ret))))))))), [(.loadN 7 (.tmp 2))]⟩
theorem k108 : cfun Tryz.prog 108 = some c108 := by kernel_rfl
def c110 : XFun := ⟨26, (.seq (.ops [⟨(some 1), (.box (.tmp 0)), none⟩, ⟨(some 2), (.assign (.const (.slice none 0 0))), none⟩]) (.seq (.ops [⟨(some 3), (.assign (.const (.slice none 0 0))), none⟩]) (.seq (.seq (.ops [⟨(some 5), (.faddr 0 (.tmp 1)), none⟩, ⟨(some 6), (.faddr 0 (.tmp 5)), none⟩, ⟨(some 7), (.load1 (.tmp 6)), none⟩, ⟨(some 8), (.call 104 [(.tmp 7), (.const (.int .i64 1))]), none⟩, ⟨(some 4), (.assign (.tmp 8)), none⟩]) (.block 0 (.loop (.seq (.seq (.ops [⟨(some 9), (.move (.tmp 4)), none⟩, ⟨(some 10), (.bin .neq (.tmp 9) (.const (.int .i64 0))), none⟩]) (.cond (.tmp 10) .skip (.exit 0))) (.seq (.block 1 (.ops [⟨(some 15), (.move (.tmp 3)), none⟩, ⟨(some 16), (.move (.tmp 4)), none⟩, ⟨(some 17), (.conv .u8 (.tmp 16)), none⟩, ⟨(some 18), (.faddr 0 (.tmp 1)), none⟩, ⟨(some 19), (.faddr 0 (.tmp 18)), none⟩, ⟨(some 20), (.load1 (.tmp 19)), none⟩, ⟨(some 21), (.call 105 [(.tmp 20)]), none⟩, ⟨(some 22), (.build [(.v (.int .u8 0)), (.v (.string (strB [])))] [(0, (1, (.tmp 17))), (1, (1, (.tmp 21)))]), none⟩, ⟨(some 23), (.buildSlice 2 1 [(.v (.int .u8 0)), (.v (.string (strB [])))] [(0, (.tmp 22))]), none⟩, ⟨(some 24), (.append 2 24 (.tmp 15) (.tmp 23)), none⟩, ⟨(some 3), (.assign (.tmp 24)), none⟩])) (.ops [⟨(some 11), (.faddr 0 (.tmp 1)), none⟩, ⟨(some 12), (.faddr 0 (.tmp 11)), none⟩, ⟨(some 13), (.load1 (.tmp 12)), none⟩, ⟨(some 14), (.call 104 [(.tmp 13), (.const (.int .i64 1))]), none⟩, ⟨(some 4), (.assign (.tmp 14)), none⟩])))))) (.seq (.ops [⟨(some 25), (.move (.tmp 3)), none⟩, ⟨(some 2), (.assign (.tmp 25)), none⟩]) .ret)))), [(.move (.tmp 2))]⟩
theorem k110 : cfun Tryz.prog 110 = some c110 := by kernel_rfl
def c139 : XFun := ⟨12, (.seq (.ops [⟨(some 2), (.box (.tmp 0)), none⟩, ⟨(some 4), (.assign (.const (.int .i64 0))), none⟩]) (.seq (.ops [⟨(some 5), (.faddr 0 (.tmp 2)), none⟩, ⟨(some 6), (.faddr 0 (.tmp 5)), none⟩, ⟨(some 7), (.load1 (.tmp 6)), none⟩, ⟨(some 8), (.move (.tmp 1)), none⟩, ⟨(some 9), (.call 104 [(.tmp 7), (.tmp 8)]), none⟩, ⟨(some 10), (.move (.tmp 1)), none⟩, ⟨(some 11), (.call 146 [(.tmp 9), (.tmp 10)]), none⟩, ⟨(some 4), (.assign (.tmp 11)), none⟩]) .ret)), [(.move (.tmp 4))]⟩
theorem k139 : cfun Tryz.prog 139 = some c139 := by kernel_rfl
def c6 : XFun := ⟨60, (.seq (.ops [⟨(some 1), (.box (.tmp 0)), none⟩, ⟨(some 2), (.assign (.const (.bool false))), none⟩]) (.seq (.seq (.ops [⟨(some 4), (.faddr 7 (.tmp 1)), none⟩, ⟨(some 5), (.load1 (.tmp 4)), none⟩, ⟨(some 6), (.lenL (.tmp 5)), none⟩, ⟨(some 7), (.bin .gtr (.tmp 6) (.const (.int .i64 50))), none⟩, ⟨(some 8), (.move (.tmp 7)), none⟩, ⟨(some 9), (.faddr 8 (.tmp 1)), (some (8, false))⟩, ⟨(some 10), (.load1 (.tmp 9)), (some (8, false))⟩, ⟨(some 11), (.lenL (.tmp 10)), (some (8, false))⟩, ⟨(some 12), (.bin .gtr (.tmp 11) (.const (.int .i64 50))), (some (8, false))⟩, ⟨(some 13), (.pick (.tmp 8) (.const (.bool true)) (.tmp 12)), none⟩, ⟨(some 14), (.move (.tmp 13)), none⟩, ⟨(some 15), (.faddr 9 (.tmp 1)), (some (14, false))⟩, ⟨(some 16), (.load1 (.tmp 15)), (some (14, false))⟩, ⟨(some 17), (.lenL (.tmp 16)), (some (14, false))⟩, ⟨(some 18), (.bin .gtr (.tmp 17) (.const (.int .i64 50))), (some (14, false))⟩, ⟨(some 19), (.pick (.tmp 14) (.const (.bool true)) (.tmp 18)), none⟩, ⟨(some 20), (.move (.tmp 19)), none⟩, ⟨(some 21), (.faddr 10 (.tmp 1)), (some (20, false))⟩, ⟨(some 22), (.load1 (.tmp 21)), (some (20, false))⟩, ⟨(some 23), (.lenL (.tmp 22)), (some (20, false))⟩, ⟨(some 24), (.bin .gtr (.tmp 23) (.const (.int .i64 50))), (some (20, false))⟩, ⟨(some 25), (.pick (.tmp 20) (.const (.bool true)) (.tmp 24)), none⟩]) (.cond (.tmp 25) (.seq (.ops [⟨(some 2), (.assign (.const (.bool false))), none⟩]) .ret) .skip)) (.seq (.ops [⟨(some 26), (.faddr 8 (.tmp 1)), none⟩, ⟨(some 27), (.load1 (.tmp 26)), none⟩, ⟨(some 28), (.call 33 [(.tmp 27), (.func 34)]), none⟩, ⟨(some 29), (.move (.tmp 28)), none⟩, ⟨(some 30), (.faddr 9 (.tmp 1)), (some (29, false))⟩, ⟨(some 31), (.load1 (.tmp 30)), (some (29, false))⟩, ⟨(some 32), (.call 35 [(.tmp 31), (.func 36)]), (some (29, false))⟩, ⟨(some 33), (.pick (.tmp 29) (.const (.bool true)) (.tmp 32)), none⟩, ⟨(some 3), (.assign (.tmp 33)), none⟩]) (.seq (.ops [⟨(some 34), (.move (.tmp 3)), none⟩, ⟨(some 35), (.move (.tmp 34)), none⟩, ⟨(some 36), (.faddr 10 (.tmp 1)), (some (35, false))⟩, ⟨(some 37), (.load1 (.tmp 36)), (some (35, false))⟩, ⟨(some 38), (.call 37 [(.tmp 37), (.func 38)]), (some (35, false))⟩, ⟨(some 39), (.pick (.tmp 35) (.const (.bool true)) (.tmp 38)), none⟩, ⟨(some 3), (.assign (.tmp 39)), none⟩]) (.seq (.ops [⟨(some 40), (.move (.tmp 3)), none⟩, ⟨(some 41), (.un .not (.tmp 40)), none⟩, ⟨(some 42), (.move (.tmp 41)), none⟩, ⟨(some 43), (.faddr 2 (.tmp 1)), (some (42, true))⟩, ⟨(some 44), (.load1 (.tmp 43)), (some (42, true))⟩, ⟨(some 45), (.lenS (.tmp 44)), (some (42, true))⟩, ⟨(some 46), (.bin .leq (.tmp 45) (.const (.int .i64 300))), (some (42, true))⟩, ⟨(some 47), (.pick (.tmp 42) (.tmp 46) (.const (.bool false))), none⟩, ⟨(some 48), (.move (.tmp 47)), none⟩, ⟨(some 49), (.faddr 3 (.tmp 1)), (some (48, true))⟩, ⟨(some 50), (.load1 (.tmp 49)), (some (48, true))⟩, ⟨(some 51), (.lenS (.tmp 50)), (some (48, true))⟩, ⟨(some 52), (.bin .leq (.tmp 51) (.const (.int .i64 300))), (some (48, true))⟩, ⟨(some 53), (.pick (.tmp 48) (.tmp 52) (.const (.bool false))), none⟩, ⟨(some 54), (.move (.tmp 53)), none⟩, ⟨(some 55), (.faddr 4 (.tmp 1)), (some (54, true))⟩, ⟨(some 56), (.load1 (.tmp 55)), (some (54, true))⟩, ⟨(some 57), (.lenS (.tmp 56)), (some (54, true))⟩, ⟨(some 58), (.bin .leq (.tmp 57) (.const (.int .i64 300))), (some (54, true))⟩, ⟨(some 59), (.pick (.tmp 54) (.tmp 58) (.const (.bool false))), none⟩, ⟨(some 2), (.assign (.tmp 59)), none⟩]) .ret))))), [(.move (.tmp 2))]⟩
theorem k6 : cfun Tryz.prog 6 = some c6 := by kernel_rfl
def c34 : XFun := ⟨7, (.seq (.ops [⟨(some 1), (.box (.tmp 0)), none⟩, ⟨(some 2), (.assign (.const (.bool false))), none⟩]) (.seq (.ops [⟨(some 3), (.faddr 0 (.tmp 1)), none⟩, ⟨(some 4), (.load1 (.tmp 3)), none⟩, ⟨(some 5), (.lenS (.tmp 4)), none⟩, ⟨(some 6), (.bin .gtr (.tmp 5) (.const (.int .i64 300))), none⟩, ⟨(some 2), (.assign (.tmp 6)), none⟩]) .ret)), [(.move (.tmp 2))]⟩
theorem k34 : cfun Tryz.prog 34 = some c34 := by kernel_rfl
def c36 : XFun := ⟨7, (.seq (.ops [⟨(some 1), (.box (.tmp 0)), none⟩, ⟨(some 2), (.assign (.const (.bool false))), none⟩]) (.seq (.ops [⟨(some 3), (.faddr 1 (.tmp 1)), none⟩, ⟨(some 4), (.load1 (.tmp 3)), none⟩, ⟨(some 5), (.lenL (.tmp 4)), none⟩, ⟨(some 6), (.bin .gtr (.tmp 5) (.const (.int .i64 300))), none⟩, ⟨(some 2), (.assign (.tmp 6)), none⟩]) .ret)), [(.move (.tmp 2))]⟩
theorem k36 : cfun Tryz.prog 36 = some c36 := by kernel_rfl
def c38 : XFun := ⟨7, (.seq (.ops [⟨(some 1), (.box (.tmp 0)), none⟩, ⟨(some 2), (.assign (.const (.bool false))), none⟩]) (.seq (.ops [⟨(some 3), (.faddr 1 (.tmp 1)), none⟩, ⟨(some 4), (.load1 (.tmp 3)), none⟩, ⟨(some 5), (.lenS (.tmp 4)), none⟩, ⟨(some 6), (.bin .gtr (.tmp 5) (.const (.int .i64 1000))), none⟩, ⟨(some 2), (.assign (.tmp 6)), none⟩]) .ret)), [(.move (.tmp 2))]⟩
theorem k38 : cfun Tryz.prog 38 = some c38 := by kernel_rfl
def c7 : XFun := ⟨33, (.seq (.ops [⟨(some 0), (.assign (.const (.bool false))), none⟩]) (.seq (.ops [⟨(some 6), (.build [(.v (.int .u8 0)), (.v (.int .u8 0)), (.v (.string (strB []))), (.v (.string (strB []))), (.v (.string (strB []))), (.v (.int .i64 0)), (.v (.int .i64 0)), (.sl 0 [] (some true) .exact), (.sl 0 [] (some true) .exact), (.sl 0 [] (some true) .exact), (.sl 0 [] (some true) .exact)] [(0, (1, (.const (.int .u8 90)))), (1, (1, (.const (.int .u8 73))))]), none⟩, ⟨(some 7), (.call 8 [(.tmp 6)]), none⟩, ⟨(some 5), (.move (.tmp 7)), none⟩, ⟨(some 8), (.extract (.tmp 5) 0), none⟩, ⟨(some 9), (.extract (.tmp 5) 1), none⟩, ⟨(some 1), (.alloc [(.v (.int .u8 0)), (.sl 0 [] (some true) .exact)]), none⟩, ⟨none, (.store 2 (.tmp 1) (.tmp 8)), none⟩, ⟨(some 2), (.assign (.tmp 9)), none⟩]) (.seq (.ops [⟨(some 11), (.loadN 2 (.tmp 1)), none⟩, ⟨(some 12), (.call 17 [(.tmp 11)]), none⟩, ⟨(some 10), (.move (.tmp 12)), none⟩, ⟨(some 13), (.extract (.tmp 10) 0), none⟩, ⟨(some 14), (.extract (.tmp 10) 1), none⟩, ⟨(some 3), (.alloc [(.v (.int .u8 0)), (.v (.int .u8 0)), (.v (.string (strB []))), (.v (.string (strB []))), (.v (.string (strB []))), (.v (.int .i64 0)), (.v (.int .i64 0)), (.sl 0 [] (some true) .exact), (.sl 0 [] (some true) .exact), (.sl 0 [] (some true) .exact), (.sl 0 [] (some true) .exact)]), none⟩, ⟨none, (.store 11 (.tmp 3) (.tmp 13)), none⟩, ⟨(some 4), (.assign (.tmp 14)), none⟩]) (.seq (.ops [⟨(some 15), (.move (.tmp 2)), none⟩, ⟨(some 16), (.bin .eql (.tmp 15) (.const (.int .i64 0))), none⟩, ⟨(some 17), (.move (.tmp 16)), none⟩, ⟨(some 18), (.move (.tmp 4)), (some (17, true))⟩, ⟨(some 19), (.bin .eql (.tmp 18) (.const (.int .i64 0))), (some (17, true))⟩, ⟨(some 20), (.pick (.tmp 17) (.tmp 19) (.const (.bool false))), none⟩, ⟨(some 21), (.move (.tmp 20)), none⟩, ⟨(some 22), (.faddr 1 (.tmp 3)), (some (21, true))⟩, ⟨(some 23), (.load1 (.tmp 22)), (some (21, true))⟩, ⟨(some 24), (.bin .eql (.tmp 23) (.const (.int .u8 73))), (some (21, true))⟩, ⟨(some 25), (.pick (.tmp 21) (.tmp 24) (.const (.bool false))), none⟩, ⟨(some 26), (.move (.tmp 25)), none⟩, ⟨(some 27), (.loadN 11 (.tmp 3)), (some (26, true))⟩, ⟨(some 28), (.buildSlice 11 1 [(.v (.int .u8 0)), (.v (.int .u8 0)), (.v (.string (strB []))), (.v (.string (strB []))), (.v (.string (strB []))), (.v (.int .i64 0)), (.v (.int .i64 0)), (.sl 0 [] (some true) .exact), (.sl 0 [] (some true) .exact), (.sl 0 [] (some true) .exact), (.sl 0 [] (some true) .exact)] [(0, (.tmp 27))]), (some (26, true))⟩, ⟨(some 29), (.call 15 [(.tmp 28)]), (some (26, true))⟩, ⟨(some 30), (.buildSlice 1 6 [(.v (.int .u8 0))] [(0, (.const (.int .u8 90))), (1, (.const (.int .u8 0))), (2, (.const (.int .u8 0))), (3, (.const (.int .u8 0))), (4, (.const (.int .u8 5))), (5, (.const (.int .u8 73)))]), (some (26, true))⟩, ⟨(some 31), (.call 10 [(.tmp 29), (.tmp 30)]), (some (26, true))⟩, ⟨(some 32), (.pick (.tmp 26) (.tmp 31) (.const (.bool false))), none⟩, ⟨(some 0), (.assign (.tmp 32)), none⟩]) .ret)))), [(.move (.tmp 0))]⟩
theorem k7 : cfun Tryz.prog 7 = some c7 := by kernel_rfl
def c24 : XFun := ⟨22, (.seq (.ops [⟨(some 6), (.assign (.const (.slice none 0 0))), none⟩]) (.seq (.ops [⟨(some 9), (.move (.tmp 0)), none⟩, ⟨(some 10), (.call 23 [(.tmp 9)]), none⟩, ⟨(some 7), (.assign (.tmp 10)), none⟩]) (.seq (.seq (.ops [⟨(some 11), (.move (.tmp 7)), none⟩, ⟨(some 12), (.move (.tmp 1)), none⟩, ⟨(some 13), (.call 74 [(.tmp 11), (.tmp 12)]), none⟩, ⟨(some 8), (.assign (.tmp 13)), none⟩]) (.seq (.ops [⟨(some 14), (.move (.tmp 8)), none⟩, ⟨(some 15), (.bin .geq (.tmp 14) (.const (.int .i64 0))), none⟩]) (.cond (.tmp 15) (.ops [⟨(some 16), (.move (.tmp 7)), none⟩, ⟨(some 17), (.move (.tmp 8)), none⟩, ⟨(some 18), (.move (.tmp 2)), none⟩, ⟨(some 19), (.iaddr 2 (.tmp 16) (.tmp 17)), none⟩, ⟨(some 20), (.faddr 1 (.tmp 19)), none⟩, ⟨none, (.store 1 (.tmp 20) (.tmp 18)), none⟩]) .skip))) (.seq (.ops [⟨(some 21), (.move (.tmp 7)), none⟩, ⟨(some 6), (.assign (.tmp 21)), none⟩]) .ret)))), [(.move (.tmp 6))]⟩
theorem k24 : cfun Tryz.prog 24 = some c24 := by kernel_rfl
def c21 : XFun := ⟨17, (.seq (.ops [⟨(some 4), (.assign (.const (.string (strB [])))), none⟩, ⟨(some 5), (.assign (.const (.bool false))), none⟩]) (.seq (.ops [⟨(some 7), (.move (.tmp 0)), none⟩, ⟨(some 8), (.move (.tmp 1)), none⟩, ⟨(some 9), (.call 74 [(.tmp 7), (.tmp 8)]), none⟩, ⟨(some 6), (.assign (.tmp 9)), none⟩]) (.seq (.seq (.ops [⟨(some 10), (.move (.tmp 6)), none⟩, ⟨(some 11), (.bin .lss (.tmp 10) (.const (.int .i64 0))), none⟩]) (.cond (.tmp 11) (.seq (.ops [⟨(some 4), (.assign (.const (.string (strB [])))), none⟩, ⟨(some 5), (.assign (.const (.bool false))), none⟩]) .ret) .skip)) (.seq (.ops [⟨(some 12), (.move (.tmp 0)), none⟩, ⟨(some 13), (.move (.tmp 6)), none⟩, ⟨(some 14), (.iaddr 2 (.tmp 12) (.tmp 13)), none⟩, ⟨(some 15), (.faddr 1 (.tmp 14)), none⟩, ⟨(some 16), (.load1 (.tmp 15)), none⟩, ⟨(some 4), (.assign (.tmp 16)), none⟩, ⟨(some 5), (.assign (.const (.bool true))), none⟩]) .ret)))), [(.move (.tmp 4)), (.move (.tmp 5))]⟩
theorem k21 : cfun Tryz.prog 21 = some c21 := by kernel_rfl
def c27 : XFun := ⟨16, (.seq (.ops [⟨(some 6), (.assign (.const (.slice none 0 0))), none⟩]) (.seq (.ops [⟨(some 7), (.move (.tmp 0)), none⟩, ⟨(some 8), (.build [(.v (.int .u8 0)), (.v (.string (strB [])))] [(0, (1, (.const (.int .u8 83)))), (1, (1, (.tmp 7)))]), none⟩, ⟨(some 9), (.move (.tmp 0)), none⟩, ⟨(some 10), (.build [(.v (.int .u8 0)), (.v (.string (strB [])))] [(0, (1, (.const (.int .u8 86)))), (1, (1, (.tmp 9)))]), none⟩, ⟨(some 11), (.move (.tmp 1)), none⟩, ⟨(some 12), (.build [(.v (.int .u8 0)), (.v (.string (strB [])))] [(0, (1, (.const (.int .u8 67)))), (1, (1, (.tmp 11)))]), none⟩, ⟨(some 13), (.move (.tmp 2)), none⟩, ⟨(some 14), (.build [(.v (.int .u8 0)), (.v (.string (strB [])))] [(0, (1, (.const (.int .u8 77)))), (1, (1, (.tmp 13)))]), none⟩, ⟨(some 15), (.buildSlice 2 4 [(.v (.int .u8 0)), (.v (.string (strB [])))] [(0, (.tmp 8)), (1, (.tmp 10)), (2, (.tmp 12)), (3, (.tmp 14))]), none⟩, ⟨(some 6), (.assign (.tmp 15)), none⟩]) .ret)), [(.move (.tmp 6))]⟩
theorem k27 : cfun Tryz.prog 27 = some c27 := by kernel_rfl
def c29 : XFun := ⟨10, (.seq (.ops [⟨(some 4), (.assign (.const (.slice none 0 0))), none⟩]) (.seq (.ops [⟨(some 5), (.move (.tmp 0)), none⟩, ⟨(some 6), (.move (.tmp 1)), none⟩, ⟨(some 7), (.call 75 [(.const (.string (strB [70, 65, 84, 65, 76]))), (.tmp 5), (.tmp 6)]), none⟩, ⟨(some 8), (.buildSlice 11 1 [(.v (.int .u8 0)), (.v (.int .u8 0)), (.v (.string (strB []))), (.v (.string (strB []))), (.v (.string (strB []))), (.v (.int .i64 0)), (.v (.int .i64 0)), (.sl 0 [] (some true) .exact), (.sl 0 [] (some true) .exact), (.sl 0 [] (some true) .exact), (.sl 0 [] (some true) .exact)] [(0, (.tmp 7))]), none⟩, ⟨(some 9), (.call 15 [(.tmp 8)]), none⟩, ⟨(some 4), (.assign (.tmp 9)), none⟩]) .ret)), [(.move (.tmp 4))]⟩
theorem k29 : cfun Tryz.prog 29 = some c29 := by kernel_rfl
def c74 : XFun := ⟨8, (.seq (.ops [⟨(some 3), (.box (.tmp 1)), none⟩, ⟨(some 4), (.assign (.const (.int .i64 0))), none⟩]) (.seq (.ops [⟨(some 5), (.move (.tmp 0)), none⟩, ⟨(some 6), (.mkfn (.func 118) [] [(.tmp 3)]), none⟩, ⟨(some 7), (.call 78 [(.tmp 5), (.tmp 6)]), none⟩, ⟨(some 4), (.assign (.tmp 7)), none⟩]) .ret)), [(.move (.tmp 4))]⟩
theorem k74 : cfun Tryz.prog 74 = some c74 := by kernel_rfl
def c118 : XFun := ⟨8, (.seq (.ops [⟨(some 2), (.box (.tmp 0)), none⟩, ⟨(some 3), (.assign (.const (.bool false))), none⟩]) (.seq (.ops [⟨(some 4), (.faddr 0 (.tmp 2)), none⟩, ⟨(some 5), (.load1 (.tmp 4)), none⟩, ⟨(some 6), (.load1 (.tmp 1)), none⟩, ⟨(some 7), (.bin .eql (.tmp 5) (.tmp 6)), none⟩, ⟨(some 3), (.assign (.tmp 7)), none⟩]) .ret)), [(.move (.tmp 3))]⟩
theorem k118 : cfun Tryz.prog 118 = some c118 := by kernel_rfl
def c75 : XFun := ⟨12, (.seq (.ops [⟨(some 6), (.alloc [(.v (.int .u8 0)), (.v (.int .u8 0)), (.v (.string (strB []))), (.v (.string (strB []))), (.v (.string (strB []))), (.v (.int .i64 0)), (.v (.int .i64 0)), (.sl 0 [] (some true) .exact), (.sl 0 [] (some true) .exact), (.sl 0 [] (some true) .exact), (.sl 0 [] (some true) .exact)]), none⟩]) (.seq (.ops [⟨(some 7), (.move (.tmp 0)), none⟩, ⟨(some 8), (.move (.tmp 1)), none⟩, ⟨(some 9), (.move (.tmp 2)), none⟩, ⟨(some 10), (.call 27 [(.tmp 7), (.tmp 8), (.tmp 9)]), none⟩, ⟨(some 11), (.build [(.v (.int .u8 0)), (.v (.int .u8 0)), (.v (.string (strB []))), (.v (.string (strB []))), (.v (.string (strB []))), (.v (.int .i64 0)), (.v (.int .i64 0)), (.sl 0 [] (some true) .exact), (.sl 0 [] (some true) .exact), (.sl 0 [] (some true) .exact), (.sl 0 [] (some true) .exact)] [(0, (1, (.const (.int .u8 69)))), (10, (1, (.tmp 10)))]), none⟩, ⟨none, (.store 11 (.tmp 6) (.tmp 11)), none⟩]) .ret)), [(.loadN 11 (.tmp 6))]⟩
theorem k75 : cfun Tryz.prog 75 = some c75 := by kernel_rfl
def c19 : XFun := ⟨10, (.seq (.ops [⟨(some 2), (.assign (.const (.bool false))), none⟩]) (.seq (.ops [⟨(some 3), (.move (.tmp 0)), none⟩, ⟨(some 4), (.lenL (.tmp 3)), none⟩, ⟨(some 5), (.bin .gtr (.tmp 4) (.const (.int .i64 50))), none⟩, ⟨(some 6), (.move (.tmp 5)), none⟩, ⟨(some 7), (.move (.tmp 0)), (some (6, false))⟩, ⟨(some 8), (.call 37 [(.tmp 7), (.func 73)]), (some (6, false))⟩, ⟨(some 9), (.pick (.tmp 6) (.const (.bool true)) (.tmp 8)), none⟩, ⟨(some 2), (.assign (.tmp 9)), none⟩]) .ret)), [(.move (.tmp 2))]⟩
theorem k19 : cfun Tryz.prog 19 = some c19 := by kernel_rfl
def c73 : XFun := ⟨7, (.seq (.ops [⟨(some 1), (.box (.tmp 0)), none⟩, ⟨(some 2), (.assign (.const (.bool false))), none⟩]) (.seq (.ops [⟨(some 3), (.faddr 1 (.tmp 1)), none⟩, ⟨(some 4), (.load1 (.tmp 3)), none⟩, ⟨(some 5), (.lenS (.tmp 4)), none⟩, ⟨(some 6), (.bin .gtr (.tmp 5) (.const (.int .i64 1000))), none⟩, ⟨(some 2), (.assign (.tmp 6)), none⟩]) .ret)), [(.move (.tmp 2))]⟩
theorem k73 : cfun Tryz.prog 73 = some c73 := by kernel_rfl
def c20 : XFun := ⟨18, (.seq (.ops [⟨(some 0), (.assign (.const (.bool false))), none⟩]) (.seq (.ops [⟨(some 4), (.call 27 [(.const (.string (strB [69, 82, 82, 79, 82]))), (.const (.string (strB [52, 50, 54, 48, 49]))), (.const (.string (strB [120])))]), none⟩, ⟨(some 5), (.call 21 [(.tmp 4), (.const (.int .u8 67))]), none⟩, ⟨(some 3), (.move (.tmp 5)), none⟩, ⟨(some 6), (.extract (.tmp 3) 0), none⟩, ⟨(some 7), (.extract (.tmp 3) 1), none⟩, ⟨(some 1), (.assign (.tmp 6)), none⟩, ⟨(some 2), (.assign (.tmp 7)), none⟩]) (.seq (.ops [⟨(some 8), (.move (.tmp 2)), none⟩, ⟨(some 9), (.move (.tmp 8)), none⟩, ⟨(some 10), (.move (.tmp 1)), (some (9, true))⟩, ⟨(some 11), (.bin .eql (.tmp 10) (.const (.string (strB [52, 50, 54, 48, 49])))), (some (9, true))⟩, ⟨(some 12), (.pick (.tmp 9) (.tmp 11) (.const (.bool false))), none⟩, ⟨(some 13), (.move (.tmp 12)), none⟩, ⟨(some 14), (.call 29 [(.const (.string (strB [48, 56, 80, 48, 49]))), (.const (.string (strB [121])))]), (some (13, true))⟩, ⟨(some 15), (.lenL (.tmp 14)), (some (13, true))⟩, ⟨(some 16), (.bin .gtr (.tmp 15) (.const (.int .i64 10))), (some (13, true))⟩, ⟨(some 17), (.pick (.tmp 13) (.tmp 16) (.const (.bool false))), none⟩, ⟨(some 0), (.assign (.tmp 17)), none⟩]) .ret))), [(.move (.tmp 0))]⟩
theorem k20 : cfun Tryz.prog 20 = some c20 := by kernel_rfl
end Go.Proofs.YthilellmckhejaaGreat.Ax
/- Package back over values without memory: which kinds there are, checks, what is the same, bodies. Written by gen/ax_back.py. -/
namespace Go.Proofs.YthilellmckhejaaGreat.Ax
open Go.RowKit Go By Nm Sc Dg
set_option linter.unusedSimpArgs false
set_option linter.unusedVariables false
set_option maxRecDepth 10000

def kindB (k : Int) : Bool := decide (k = 82 ∨ k = 83 ∨ k = 75 ∨ k = 90 ∨ k = 49 ∨ k = 50 ∨ k = 51 ∨ k = 110 ∨ k = 115 ∨ k = 73 ∨ k = 67 ∨ k = 68 ∨ k = 84 ∨ k = 116 ∨ k = 69 ∨ k = 78)
theorem bkind_c (k : Int) (h : List (List AV)) : Contract Tryz.prog 46 [.v (.int .u8 k)] h (.v (.bool (kindB k))) h [] := by
  refine contract_of k46 mixed (by simp [c46]) fun hh hargs => ?_
  by_cases h82 : k = 82
  · subst h82; simp [c46, hh, kindB]
  by_cases h83 : k = 83
  · subst h83; simp [c46, hh, kindB]
  by_cases h75 : k = 75
  · subst h75; simp [c46, hh, kindB]
  by_cases h90 : k = 90
  · subst h90; simp [c46, hh, kindB]
  by_cases h49 : k = 49
  · subst h49; simp [c46, hh, kindB]
  by_cases h50 : k = 50
  · subst h50; simp [c46, hh, kindB]
  by_cases h51 : k = 51
  · subst h51; simp [c46, hh, kindB]
  by_cases h110 : k = 110
  · subst h110; simp [c46, hh, kindB]
  by_cases h115 : k = 115
  · subst h115; simp [c46, hh, kindB]
  by_cases h73 : k = 73
  · subst h73; simp [c46, hh, kindB]
  by_cases h67 : k = 67
  · subst h67; simp [c46, hh, kindB]
  by_cases h68 : k = 68
  · subst h68; simp [c46, hh, kindB]
  by_cases h84 : k = 84
  · subst h84; simp [c46, hh, kindB]
  by_cases h116 : k = 116
  · subst h116; simp [c46, hh, kindB]
  by_cases h69 : k = 69
  · subst h69; simp [c46, hh, kindB]
  by_cases h78 : k = 78
  · subst h78; simp [c46, hh, kindB]
  simp [c46, hh, kindB, h82, h83, h75, h90, h49, h50, h51, h110, h115, h73, h67, h68, h84, h116, h69, h78]
def statB (s : Int) : Bool := s == 73 || (s == 84 || s == 69)
theorem bstat_c (s : Int) (h : List (List AV)) : Contract Tryz.prog 89 [.v (.int .u8 s)] h (.v (.bool (statB s))) h [] := by
  refine contract_of k89 mixed (by simp [c89]) fun hh hargs => ?_
  cases h1 : s == 73 with
  | true => simp [c89, hh, statB, h1]
  | false =>
    cases h2 : s == 84 <;> simp [c89, hh, statB, h1, h2]
/-- Its lists are no longer than memory is. -/
def BkFit (m : Bk) : Prop := m.oids.length ≤ 140737488355328 ∧ m.cols.length ≤ 140737488355328 ∧ m.row.length ≤ 140737488355328 ∧ m.fields.length ≤ 140737488355328 ∧ (∀ c ∈ m.row, c.2.length ≤ 140737488355328)
def sameCo (a b : Co) : Bool := a.name == b.name && (a.table == b.table && (a.attr == b.attr && (a.oid == b.oid && (a.size == b.size && (a.mod == b.mod && (a.format == b.format && true))))))
def sameFi (a b : Fi) : Bool := a.code == b.code && (a.text == b.text && true)
theorem sameCo_eq (a b : Co) : sameCo a b = (a == b) := by
  obtain ⟨a1, a2, a3, a4, a5, a6, a7⟩ := a
  obtain ⟨b1, b2, b3, b4, b5, b6, b7⟩ := b
  rw [Bool.eq_iff_iff]; simp [sameCo]
theorem sameFi_eq (a b : Fi) : sameFi a b = (a == b) := by
  obtain ⟨a1, a2⟩ := a
  obtain ⟨b1, b2⟩ := b
  rw [Bool.eq_iff_iff]; simp [sameFi]
theorem eqcols_c (l m : List Co) (hl : l.length ≤ 140737488355328) (h : List (List AV)) : Contract Tryz.prog 61 [.sl 7 (enc coC l) none .no, .sl 7 (enc coC m) none .no] h (.v (.bool (l == m))) h [] := by
  have := equalN_any mixed k61 sameCo coC (by simp) (by simp) (fun x y => by simp [coC_mk, sameCo]) l m h hl
  rwa [show sameCo = (· == ·) from funext fun a => funext fun b => sameCo_eq a b, eqL_beq] at this
theorem eqfields_c (l m : List Fi) (hl : l.length ≤ 140737488355328) (h : List (List AV)) : Contract Tryz.prog 25 [.sl 2 (enc fiC l) none .no, .sl 2 (enc fiC m) none .no] h (.v (.bool (l == m))) h [] := by
  have := equalN_any mixed k25 sameFi fiC (by simp) (by simp) (fun x y => by simp [fiC_mk, sameFi]) l m h hl
  rwa [show sameFi = (· == ·) from funext fun a => funext fun b => sameFi_eq a b, eqL_beq] at this
def sameB (a b : Bk) : Bool := a.kind == b.kind && (a.status == b.status && (a.tag == b.tag && (a.name == b.name && (a.value == b.value && (a.n == b.n && (a.m == b.m && (a.oids == b.oids && (a.cols == b.cols && (a.row == b.row && a.fields == b.fields)))))))))
theorem sameB_eq (a b : Bk) : sameB a b = decide (a = b) := by
  obtain ⟨a1, a2, a3, a4, a5, a6, a7, a8, a9, a10, a11⟩ := a
  obtain ⟨b1, b2, b3, b4, b5, b6, b7, b8, b9, b10, b11⟩ := b
  rw [Bool.eq_iff_iff]; simp [sameB]
theorem sameB_refl (a : Bk) : sameB a a = true := by rw [sameB_eq]; simp
theorem bsame_c (a b : Bk) (ha : BkFit a) (h : List (List AV)) : Contract Tryz.prog 13 [.agg (bkC a), .agg (bkC b)] h (.v (.bool (sameB a b))) h [] := by
  obtain ⟨q1, q2, q3, q4, _⟩ := ha
  refine contract_of k13 mixed (by simp [c13]) fun hh hargs => ?_
  unfold sameB
  cases p0 : a.kind == b.kind with
  | false => simp [c13, hh, p0]
  | true =>
  cases p1 : a.status == b.status with
  | false => simp [c13, hh, p0, p1]
  | true =>
  cases p2 : a.tag == b.tag with
  | false => simp [c13, hh, p0, p1, p2]
  | true =>
  cases p3 : a.name == b.name with
  | false => simp [c13, hh, p0, p1, p2, p3]
  | true =>
  cases p4 : a.value == b.value with
  | false => simp [c13, hh, p0, p1, p2, p3, p4]
  | true =>
  cases p5 : a.n == b.n with
  | false => simp [c13, hh, p0, p1, p2, p3, p4, p5]
  | true =>
  cases p6 : a.m == b.m with
  | false => simp [c13, hh, p0, p1, p2, p3, p4, p5, p6]
  | true =>
  simp [c13, p0, p1, p2, p3, p4, p5, p6]
  refine xcall_self (by simp) (sliceseq_c _ _ q1 _) ?_
  cases p7 : a.oids == b.oids with
  | false => simp [hh]
  | true =>
  simp
  refine xcall_self (by simp) (eqcols_c _ _ q2 _) ?_
  cases p8 : a.cols == b.cols with
  | false => simp [hh]
  | true =>
  simp
  refine xcall_self (by simp) (wsame_c _ _ q3 _) ?_
  cases p9 : a.row == b.row with
  | false => simp [hh]
  | true =>
  simp
  refine xcall_self (by simp) (eqfields_c _ _ q4 _) ?_
  simp [hh]

/-! ### Checks -/
def rstatB (m : Bk) : Bool := !(m.kind == 90) || statB m.status
theorem brstat_c (m : Bk) (h : List (List AV)) : Contract Tryz.prog 47 [.agg (bkC m)] h (.v (.bool (rstatB m))) h [] := by
  refine contract_of k47 mixed (by simp [c47]) fun hh hargs => ?_
  unfold rstatB
  cases h1 : m.kind == 90 with
  | false =>
    have e1 : (m.kind != 90) = true := by simp [bne, h1]
    simp [c47, hh, e1]
  | true =>
    have e1 : (m.kind != 90) = false := by simp [bne, h1]
    simp [c47, e1]
    refine xcall_self (by simp) (bstat_c _ _) ?_
    simp [hh]
def colB (c : Co) : Bool := cleanB c.name && ((unsB 4 c.table && unsB 4 c.oid) && ((unsB 2 c.attr && unsB 2 c.format) && (sgnB 2 c.size && sgnB 4 c.mod)))
theorem brcol_c (c : Co) (h : List (List AV)) : Contract Tryz.prog 92 [.agg (coC c)] h (.v (.bool (colB c))) h [] := by
  refine contract_of k92 mixed (by simp [c92]) fun hh hargs => ?_
  unfold colB
  simp [c92]
  refine xcall_of (wclean_c [c.name] (by simp) _) (by simp [strC]) (by simp) ?_
  simp only [List.all_cons, List.all_nil, Bool.and_true]
  cases p1 : cleanB c.name with
  | false => simp [hh]
  | true =>
  simp
  refine xcall_of (wuns_c 4 [c.table, c.oid] (by simp) _) (by simp [intC]) (by simp) ?_
  simp only [List.all_cons, List.all_nil, Bool.and_true]
  cases p2 : (unsB 4 c.table && unsB 4 c.oid) with
  | false => simp [hh]
  | true =>
  simp
  refine xcall_of (wuns_c 2 [c.attr, c.format] (by simp) _) (by simp [intC]) (by simp) ?_
  simp only [List.all_cons, List.all_nil, Bool.and_true]
  cases p3 : (unsB 2 c.attr && unsB 2 c.format) with
  | false => simp [hh]
  | true =>
  simp
  refine xcall_of (wsgn_c 2 [c.size] (by simp) _) (by simp [intC]) (by simp) ?_
  simp only [List.all_cons, List.all_nil, Bool.and_true]
  cases p4 : sgnB 2 c.size with
  | false => simp [hh]
  | true =>
  simp
  refine xcall_of (wsgn_c 4 [c.mod] (by simp) _) (by simp [intC]) (by simp) ?_
  simp [hh]
def fieldB (f : Fi) : Bool := !(f.code == 0) && cleanB f.text
theorem brfield_c (f : Fi) (h : List (List AV)) : Contract Tryz.prog 94 [.agg (fiC f)] h (.v (.bool (fieldB f))) h [] := by
  refine contract_of k94 mixed (by simp [c94]) fun hh hargs => ?_
  unfold fieldB
  cases h1 : f.code == 0 with
  | true =>
    have e1 : (f.code != 0) = false := by simp [bne, h1]
    simp [c94, hh, e1]
  | false =>
    have e1 : (f.code != 0) = true := by simp [bne, h1]
    simp [c94, e1]
    refine xcall_of (wclean_c [f.text] (by simp) _) (by simp [strC]) (by simp) ?_
    simp [hh]
theorem brl1_c (c : Co) (h : List (List AV)) : Contract Tryz.prog 91 [.agg (coC c)] h (.v (.bool (!colB c))) h [] := by
  refine contract_of k91 mixed (by simp [c91]) fun hh hargs => ?_
  simp [c91]
  refine xcall_self (by simp) (brcol_c _ _) ?_
  simp [hh]
theorem brl2_c (c : Fi) (h : List (List AV)) : Contract Tryz.prog 93 [.agg (fiC c)] h (.v (.bool (!fieldB c))) h [] := by
  refine contract_of k93 mixed (by simp [c93]) fun hh hargs => ?_
  simp [c93]
  refine xcall_self (by simp) (brfield_c _ _) ?_
  simp [hh]
def fewB (m : Bk) : Bool := decide ((m.oids.length : Int) ≤ 65535 ∧ (m.cols.length : Int) ≤ 65535 ∧ (m.row.length : Int) ≤ 65535 ∧ (m.fields.length : Int) ≤ 65535)
def blistsB (m : Bk) : Bool := fewB m && (m.oids.all (unsB 4) && (m.row.all cellB && (m.cols.all colB && m.fields.all fieldB)))
theorem brlists_c (m : Bk) (hf : BkFit m) (h : List (List AV)) : Contract Tryz.prog 48 [.agg (bkC m)] h (.v (.bool (blistsB m))) h [] := by
  obtain ⟨q1, q2, q3, q4, q5⟩ := hf
  refine contract_of k48 mixed (by simp [c48]) fun hh hargs => ?_
  unfold blistsB
  by_cases hL : (m.oids.length : Int) ≤ 65535 ∧ (m.cols.length : Int) ≤ 65535 ∧ (m.row.length : Int) ≤ 65535 ∧ (m.fields.length : Int) ≤ 65535
  · have e : fewB m = true := decide_eq_true hL
    rw [e]
    obtain ⟨l1, l2, l3, l4⟩ := hL
    simp [c48, l1, l2, l3, l4]
    refine xcall_self (by simp) (wuns_c 4 _ q1 _) ?_
    cases p1 : m.oids.all (unsB 4) with
    | false => simp [hh]
    | true =>
    simp
    refine xcall_self (by simp) (wcells_c _ q3 q5 _) ?_
    cases p2 : m.row.all cellB with
    | false => simp [hh]
    | true =>
    simp
    refine xcall_self (by simp) (containsN_any mixed k33 k76 coC (fun c => !colB c) m.cols [] _ (by simp) (by simp) (by simp) (fun c _ => brl1_c c _) q2) ?_
    rw [← List.not_all_eq_any_not]
    cases p3 : m.cols.all colB with
    | false => simp [hh]
    | true =>
    simp
    refine xcall_self (by simp) (containsN_any mixed k37 k78 fiC (fun c => !fieldB c) m.fields [] _ (by simp) (by simp) (by simp) (fun c _ => brl2_c c _) q4) ?_
    rw [← List.not_all_eq_any_not]
    simp [hh]
  · have e : fewB m = false := decide_eq_false hL
    rw [e]
    simp [c48, hL, hh]
/-- With those fields alone that the body has. -/
def saidB (m : Bk) : Bk :=
  if m.kind = 83 then ⟨83, 0, [], m.name, m.value, 0, 0, [], [], [], []⟩
  else if m.kind = 75 then ⟨75, 0, [], [], [], m.n, m.m, [], [], [], []⟩
  else if m.kind = 90 then ⟨90, m.status, [], [], [], 0, 0, [], [], [], []⟩
  else if m.kind = 67 then ⟨67, 0, m.tag, [], [], 0, 0, [], [], [], []⟩
  else if m.kind = 68 then ⟨68, 0, [], [], [], 0, 0, [], [], m.row, []⟩
  else if m.kind = 84 then ⟨84, 0, [], [], [], 0, 0, [], m.cols, [], []⟩
  else if m.kind = 116 then ⟨116, 0, [], [], [], 0, 0, m.oids, [], [], []⟩
  else if m.kind = 69 then ⟨69, 0, [], [], [], 0, 0, [], [], [], m.fields⟩
  else if m.kind = 78 then ⟨78, 0, [], [], [], 0, 0, [], [], [], m.fields⟩
  else ⟨m.kind, 0, [], [], [], 0, 0, [], [], [], []⟩
theorem bsaid_c (m : Bk) (h : List (List AV)) : Contract Tryz.prog 51 [.agg (bkC m)] h (.agg (bkC (saidB m))) h [] := by
  refine contract_of k51 mixed (by simp [c51]) fun hh hargs => ?_
  by_cases h83 : m.kind = 83
  · simp [c51, bkC_mk, hh, saidB, h83]
  by_cases h75 : m.kind = 75
  · simp [c51, bkC_mk, hh, saidB, h75]
  by_cases h90 : m.kind = 90
  · simp [c51, bkC_mk, hh, saidB, h90]
  by_cases h67 : m.kind = 67
  · simp [c51, bkC_mk, hh, saidB, h67]
  by_cases h68 : m.kind = 68
  · simp [c51, bkC_mk, hh, saidB, h68]
  by_cases h84 : m.kind = 84
  · simp [c51, bkC_mk, hh, saidB, h84]
  by_cases h116 : m.kind = 116
  · simp [c51, bkC_mk, hh, saidB, h116]
  by_cases h69 : m.kind = 69
  · simp [c51, bkC_mk, hh, saidB, h69]
  by_cases h78 : m.kind = 78
  · simp [c51, bkC_mk, hh, saidB, h78]
  simp [c51, bkC_mk, hh, saidB, h83, h75, h90, h67, h68, h84, h116, h69, h78]
theorem bkfit_said {m : Bk} (h : BkFit m) : BkFit (saidB m) := by
  obtain ⟨h1, h2, h3, h4, h5⟩ := h
  unfold saidB BkFit
  repeat' split
  all_goals dsimp only
  all_goals refine ⟨?_, ?_, ?_, ?_, ?_⟩
  all_goals first
    | assumption
    | exact Nat.zero_le _
    | (intro c hc; cases hc; done)
def bcleanB (m : Bk) : Bool := cleanB m.tag && (cleanB m.name && cleanB m.value)
def bnumB (m : Bk) : Bool := unsB 4 m.n && unsB 4 m.m
def checkB (m : Bk) : Int :=
  if kindB m.kind = false then 9
  else if rstatB m && (blistsB m && (bcleanB m && (bnumB m && sameB m (saidB m)))) then 0 else 1
theorem bcheck_c (m : Bk) (hf : BkFit m) (h : List (List AV)) : Contract Tryz.prog 11 [.agg (bkC m)] h (.v (.int .i64 (checkB m))) h [] := by
  refine contract_of k11 mixed (by simp [c11]) fun hh hargs => ?_
  simp [c11]
  refine xcall_self (by simp) (bkind_c _ _) ?_
  cases hk : kindB m.kind with
  | false => simp [hh, checkB, hk]
  | true =>
  have e : checkB m = if rstatB m && (blistsB m && (bcleanB m && (bnumB m && sameB m (saidB m)))) then 0 else 1 := by unfold checkB; rw [hk]; rfl
  rw [e]
  simp
  refine xcall_self (by simp) (brstat_c m _) ?_
  cases p1 : rstatB m with
  | false => simp [hh]
  | true =>
  simp
  refine xcall_self (by simp) (brlists_c m hf _) ?_
  cases p2 : blistsB m with
  | false => simp [hh]
  | true =>
  simp
  refine xcall_of (wclean_c [m.tag, m.name, m.value] (by simp) _) (by simp [strC]) (by simp) ?_
  have hc : (cleanB m.tag && (cleanB m.name && cleanB m.value)) = bcleanB m := rfl
  simp only [List.all_cons, List.all_nil, Bool.and_true, hc]
  cases p3 : bcleanB m with
  | false => simp [hh]
  | true =>
  simp
  refine xcall_of (wuns_c 4 [m.n, m.m] (by simp) _) (by simp [intC]) (by simp) ?_
  have hn : (unsB 4 m.n && unsB 4 m.m) = bnumB m := rfl
  simp only [List.all_cons, List.all_nil, Bool.and_true, hn]
  cases p4 : bnumB m with
  | false => simp [hh]
  | true =>
  simp
  refine xcall_self (by simp) (bsaid_c m _) ?_
  simp
  refine xcall_self (by simp) (bsame_c m (saidB m) hf _) ?_
  cases p5 : sameB m (saidB m) <;> simp [hh]

/-! ### Bodies -/
theorem wlistK_c (e : Co → List UInt8) (l : List Co) (g : FuncId) (cap : List AV) (h : List (List AV)) (hl : (listL e l).length ≤ 140737488355328) (hl2 : l.length ≤ 140737488355328) (hcap : ∀ c ∈ cap, c.idOf = none) (hlt : ltL h.length cap)
    (hg : ∀ n, n ∈ l → ∀ h', Contract Tryz.prog g (.agg (coC n) :: cap) (h ++ h') (.sl 1 (bytesE (e n)) none (.own .res)) (h ++ h') []) :
    Contract Tryz.prog 83 [.sl 7 (enc coC l) none .no, .fn (.func g) [] cap] h (.sl 1 (bytesE (listL e l)) none (.own .res)) h [] := by
  refine contract_of k83 mixed (by simp [c83]) fun hh hargs => ?_
  simp at hargs
  simp [c83]
  refine xcall_of (put_c [] l.length 2 (by simp) h) (by simp) (by simp) ?_
  simp
  refine xloop_ok (D := Nat) (fun j => ⟨[(1, .fn (.func g) [] cap), (11, .sl 7 (enc coC l) none .no), (12, .v (.int .i64 l.length)), (13, .v (.int .i64 j))], [(5, .sl 1 (bytesE (putL [] l.length 2 ++ (l.take j).flatMap e)) none (.own (.slot 5)))], h, []⟩) (fun j => j ≤ l.length) (fun j => l.length - j) 0 (by simp) ?_ ?_
  · simp [Leq, hh, hargs]
  · intro j hj
    by_cases hlt : j < l.length
    · have hlt' : (j : Int) < l.length := by omega
      have hw : IntKind.i64.wrap ((j : Int) + 1) = (j : Int) + 1 := wrap64 (by omega) (by omega)
      obtain ⟨hx, hb⟩ := flat_step e l (putL [] l.length 2).length j hlt _ (by simpa [listL] using hl)
      have hq : ∀ y ∈ (AV.agg (coC l[j])) :: cap, y.idOf = none := by simpa using hcap
      simp [hlt, hlt']
      refine ⟨hcap, xcall_self hq (hg l[j] (List.getElem_mem _) _) ?_⟩
      simp [idsOf_none hq, idsOf_none hcap, hw, -List.length_flatMap]
      refine ⟨by omega, j + 1, by omega, by omega, ?_⟩
      simp [Leq, hh, hargs, hx]
    · have hlt' : ¬ (j : Int) < l.length := by omega
      have : j = l.length := by omega
      subst this
      simp [hh, listL]
theorem wreadK_c (v : Sta → Co) (s : Sta → Sta) (hs : s none = none) (g : FuncId) (first cap : List AV) (i : Nat) (h : List (List AV)) (st : Sta) (hi : h[i]? = some (scC st)) (hf : ∀ c ∈ first, c.idOf = none) (hcap : ∀ c ∈ cap, c.idOf = none) (hlf : ltL h.length first) (hlc : ltL h.length cap)
    (P : Sta → Prop) (hP : ∀ j, P (readR v s j (numS st 2)).2) (hg : ∀ st', P st' → ∀ h', Contract Tryz.prog g (first ++ cap) (h.set i (scC st') ++ h') (.agg (coC (v st'))) (h.set i (scC (s st')) ++ h') [i]) :
    Contract Tryz.prog 107 [.agg [.box i 0], .fn (.func g) first cap] h (.sl 7 (enc coC (listV v s st)) none .no) (h.set i (scC (listS v s st))) [i] := by
  refine contract_of k107 mixed (by simp [c107]) fun hh hargs => ?_
  simp at hargs
  have hil := heap_lt hi
  have hi1 : i < h.length + 1 := by omega
  obtain ⟨hn0, hn1⟩ := num2_range st
  obtain ⟨n, hn⟩ : ∃ n : Nat, numV st 2 = n := ⟨(numV st 2).toNat, by omega⟩
  have hle : leqH 0 (h.set i (scC (numS st 2))) (h.set i (scC (numS st 2))) := leqH_refl _ _
  simp [c107]
  refine xcall_self (by simp) (num_c i _ st (by simpa [List.getElem?_append_left hil] using hi) 2) ?_
  simp [app_set hil, hn]
  refine xloop_ok (D := Nat) (fun j => ⟨[(1, .fn (.func g) first cap), (2, .box h.length 0), (8, .v (.int .i64 n)), (9, .v (.int .i64 j))], [(5, .sl 7 (enc coC (readR v s j (numS st 2)).1) none (.own (.slot 5)))], h.set i (scC (readR v s j (numS st 2)).2) ++ [[.box i 0]], [i]⟩)
    (fun j => j ≤ n ∧ (j = 0 ∨ (readR v s j (numS st 2)).2 ≠ none)) (fun j => n - j) 0 (by simp) ?_ ?_
  · simp [Leq, hh, hil, hlf, hlc, readR, ltL_mono (Nat.le_add_right _ 1) hlf, ltL_mono (Nat.le_add_right _ 1) hlc, scC_lt, hi1]
  · rintro j ⟨hj, hj2⟩
    by_cases hlt : j < n
    · have hlt' : (j : Int) < n := by omega
      have hw : IntKind.i64.wrap ((j : Int) + 1) = (j : Int) + 1 := wrap64 (by omega) (by omega)
      have hx := readR_next v s j (numS st 2)
      have hq : ∀ y ∈ first ++ cap, y.idOf = none := fun y hy => (List.mem_append.1 hy).elim (hf y) (hcap y)
      have hb : (j + 1) * 64 ≤ 140737488355328 := by omega
      have hb2 : (j + 1) ≤ 140737488355328 := by omega
      simp [hlt']
      refine ⟨by simpa [or_imp, forall_and] using ⟨hf, hcap⟩, xcall_self hq (hg _ (hP j) _) ?_⟩
      simp [idsOf_none hq, hw, hb, hb2]
      refine xcall_self (by simp) (bad_c i _ (s (readR v s j (numS st 2)).2) (app_set_get hil _ _)) ?_
      have hx1 : (readR v s (j + 1) (numS st 2)).1 = (readR v s j (numS st 2)).1 ++ [v (readR v s j (numS st 2)).2] := by rw [hx]
      have hx2 : (readR v s (j + 1) (numS st 2)).2 = s (readR v s j (numS st 2)).2 := by rw [hx]
      cases he : s (readR v s j (numS st 2)).2 with
      | none =>
        have h6 := readR_bad v s hs (k := j + 1) (n := n) (by omega) (st := numS st 2) (by rw [hx2, he])
        simp [badB, hh, hil, listV, listS, hn, h6]
      | some xs =>
        simp [badB, hw]
        refine ⟨j + 1, ⟨by omega, by rw [hx2, he]; simp⟩, by omega, ?_⟩
        simp [Leq, hh, hil, hx1, hx2, he, ltL_mono (Nat.le_add_right _ 1) hlf, ltL_mono (Nat.le_add_right _ 1) hlc, scC_lt, hi1]
    · have hlt' : ¬ (j : Int) < n := by omega
      have : j = n := by omega
      subst this
      have h6 : listV v s st = (readR v s j (numS st 2)).1 ∧ listS v s st = (readR v s j (numS st 2)).2 := by
        unfold listV listS
        rw [hn]
        simp only [Int.toNat_natCast]
        refine ⟨?_, trivial⟩
        rcases hj2 with rfl | h7
        · by_cases h8 : (readR v s 0 (numS st 2)).2 = none
          · rw [if_pos h8]; rfl
          · rw [if_neg h8]
        · rw [if_neg h7]
      simp [hh, hil, h6, scC]

end Go.Proofs.YthilellmckhejaaGreat.Ax
/- Package back over values without memory: bodies, messages as bytes, bytes as messages. -/
namespace Go.Proofs.YthilellmckhejaaGreat.Ax
open Go.RowKit Go By Nm Sc Dg
set_option linter.unusedSimpArgs false
set_option linter.unusedVariables false
set_option maxRecDepth 10000

theorem blong_c (n : Int) (h : List (List AV)) : Contract Tryz.prog 79 [.v (.int .i64 n)] h (.sl 1 (bytesE (numE 4 n)) none (.own .res)) h [] := by
  refine contract_of k79 mixed (by simp [c79]) fun hh hargs => ?_
  simp [c79]
  refine xcall_of (put_c [] n 4 (by simp) h) (by simp) (by simp) ?_
  simp [hh, numE]
theorem bshort_c (n : Int) (h : List (List AV)) : Contract Tryz.prog 122 [.v (.int .i64 n)] h (.sl 1 (bytesE (numE 2 n)) none (.own .res)) h [] := by
  refine contract_of k122 mixed (by simp [c122]) fun hh hargs => ?_
  simp [c122]
  refine xcall_of (put_c [] n 2 (by simp) h) (by simp) (by simp) ?_
  simp [hh, numE]
theorem numE_len (size n : Int) (h : size ≤ 4) : (numE size n).length ≤ 4 := by
  have := put_len n size h []
  simpa [numE] using this
/-- A column's bytes. -/
def colE (c : Co) : List UInt8 := textsL [c.name] ++ (numE 4 c.table ++ (numE 2 c.attr ++ (numE 4 c.oid ++ (numE 2 c.size ++ (numE 4 c.mod ++ numE 2 c.format)))))
theorem bcol_c (c : Co) (hl : c.name.length ≤ 70000000000000) (h : List (List AV)) : Contract Tryz.prog 84 [.agg (coC c)] h (.sl 1 (bytesE (colE c)) none (.own .res)) h [] := by
  have ht : (textsL [c.name]).length = c.name.length + 1 := by simp [textsL, He.encT]
  have l1 := numE_len 4 c.table (by omega)
  have l2 := numE_len 2 c.attr (by omega)
  have l3 := numE_len 4 c.oid (by omega)
  have l4 := numE_len 2 c.size (by omega)
  have l5 := numE_len 4 c.mod (by omega)
  have l6 := numE_len 2 c.format (by omega)
  refine contract_of k84 mixed (by simp [c84]) fun hh hargs => ?_
  simp [c84]
  refine xcall_of (wtexts_c [c.name] (by omega) _) (by simp [strC]) (by simp) ?_
  simp
  refine xcall_self (by simp) (blong_c _ _) ?_
  simp
  refine xcall_self (by simp) (bshort_c _ _) ?_
  simp
  refine xcall_self (by simp) (blong_c _ _) ?_
  simp
  refine xcall_self (by simp) (bshort_c _ _) ?_
  simp
  refine xcall_self (by simp) (blong_c _ _) ?_
  simp
  refine xcall_self (by simp) (bshort_c _ _) ?_
  simp
  refine xcall_of (concat_c [textsL [c.name], numE 4 c.table, numE 2 c.attr, numE 4 c.oid, numE 2 c.size, numE 4 c.mod, numE 2 c.format] _ (by simp; omega) (by simp)) (by simp [bytC]) (by simp) ?_
  simp [hh, colE]
/-- A field's bytes; those of some. -/
def fieldE (f : Fi) : List UInt8 := UInt8.ofNat f.code.toNat :: textsL [f.text]
def fieldsE (l : List Fi) : List UInt8 := l.flatMap fieldE ++ [0]
theorem bfields_c (l : List Fi) (hl : (fieldsE l).length ≤ 140737488351232) (hn : l.length ≤ 140737488355328) (hc : ∀ f ∈ l, 0 ≤ f.code ∧ f.code < 256) (h : List (List AV)) : Contract Tryz.prog 86 [.sl 2 (enc fiC l) none .no] h (.sl 1 (bytesE (fieldsE l)) none (.own .res)) h [] := by
  refine contract_of k86 mixed (by simp [c86]) fun hh hargs => ?_
  unfold fieldsE at hl
  rw [List.length_append, List.length_singleton] at hl
  simp [c86]
  refine xloop_ok (D := Nat) (fun j => ⟨[(6, .sl 2 (enc fiC l) none .no), (7, .v (.int .i64 l.length)), (8, .v (.int .i64 j))], [(3, .sl 1 (bytesE ((l.take j).flatMap fieldE)) none (.own (.slot 3)))], h, []⟩) (fun j => j ≤ l.length) (fun j => l.length - j) 0 (by simp) ?_ ?_
  · simp [Leq, hh]
  · intro j hj
    by_cases hlt : j < l.length
    · have hw : IntKind.i64.wrap ((j : Int) + 1) = (j : Int) + 1 := wrap64 (by omega) (by omega)
      obtain ⟨hx, hb⟩ := flat_step fieldE l 1 j hlt 140737488351232 (by omega)
      have hc1 := hc l[j] (List.getElem_mem _)
      have hc3 : max l[j].code 0 % 256 = l[j].code := by omega
      unfold fieldE at hb
      rw [List.length_cons] at hb
      change 1 + ((List.flatMap fieldE (List.take j l)).length + _) ≤ _ at hb
      simp [hlt, -List.length_flatMap]
      refine ⟨by omega, ?_⟩
      refine xcall_of (wtexts_c [l[j].text] (by omega) _) (by simp [strC]) (by simp) ?_
      simp [hw, -List.length_flatMap]
      refine ⟨by omega, j + 1, by omega, by omega, ?_⟩
      simp [Leq, hh, hx, fieldE, hc3]
    · have : j = l.length := by omega
      subst this
      simp [hh, fieldsE, -List.length_flatMap]
      omega
/-- A body. -/
def bodyB (m : Bk) : List UInt8 :=
  if m.kind = 82 then numE 4 0
  else if m.kind = 83 then textsL [m.name, m.value]
  else if m.kind = 75 then numE 4 m.n ++ numE 4 m.m
  else if m.kind = 90 then [UInt8.ofNat m.status.toNat]
  else if m.kind = 67 then textsL [m.tag]
  else if m.kind = 68 then listL cellE m.row
  else if m.kind = 84 then listL colE m.cols
  else if m.kind = 116 then listL (numE 4) m.oids
  else if m.kind = 69 ∨ m.kind = 78 then fieldsE m.fields
  else []
/-- What memory holds of it. -/
def BkOk (m : Bk) : Prop := (0 ≤ m.status ∧ m.status < 256) ∧ (∀ c ∈ m.row, c.2.length ≤ 70000000000000) ∧ (∀ c ∈ m.cols, c.name.length ≤ 70000000000000) ∧ ∀ f ∈ m.fields, 0 ≤ f.code ∧ f.code < 256
theorem bbody_c (m : Bk) (hf : BkFit m) (ho : BkOk m) (hb : (bodyB m).length ≤ 140737488351232) (h : List (List AV)) : Contract Tryz.prog 39 [.agg (bkC m)] h (.sl 1 (bytesE (bodyB m)) none .no) h [] := by
  obtain ⟨q1, q2, q3, q4, q5⟩ := hf
  obtain ⟨o1, o2, o3, o4⟩ := ho
  refine contract_of k39 mixed (by simp [c39]) fun hh hargs => ?_
  unfold bodyB at hb ⊢
  by_cases h82 : m.kind = 82
  · simp [c39, h82]
    refine xcall_self (by simp) (blong_c 0 _) ?_
    simp [hh]
  rw [if_neg h82] at hb ⊢
  by_cases h83 : m.kind = 83
  · rw [if_pos h83] at hb
    simp [c39, h83]
    refine xcall_of (wtexts_c [m.name, m.value] (by omega) _) (by simp [strC]) (by simp) ?_
    simp [hh]
  rw [if_neg h83] at hb ⊢
  by_cases h75 : m.kind = 75
  · have l1 := numE_len 4 m.n (by omega)
    have l2 := numE_len 4 m.m (by omega)
    simp [c39, h75]
    refine xcall_self (by simp) (blong_c _ _) ?_
    simp
    refine xcall_self (by simp) (blong_c _ _) ?_
    simp
    refine xcall_of (concat_c [numE 4 m.n, numE 4 m.m] _ (by simp; omega) (by simp)) (by simp [bytC]) (by simp) ?_
    simp [hh]
  rw [if_neg h75] at hb ⊢
  by_cases h90 : m.kind = 90
  · have hw : max m.status 0 % 256 = m.status := by omega
    simp [c39, h90, hh, hw]
  rw [if_neg h90] at hb ⊢
  by_cases h67 : m.kind = 67
  · rw [if_pos h67] at hb
    simp [c39, h67]
    refine xcall_of (wtexts_c [m.tag] (by omega) _) (by simp [strC]) (by simp) ?_
    simp [hh]
  rw [if_neg h67] at hb ⊢
  by_cases h68 : m.kind = 68
  · rw [if_pos h68] at hb
    simp [c39, h68]
    refine xcall_self (by simp) (wcells2_c m.row _ (by omega) q3 o2) ?_
    simp [hh]
  rw [if_neg h68] at hb ⊢
  by_cases h84 : m.kind = 84
  · rw [if_pos h84] at hb
    simp [c39, h84]
    refine xcall_self (by simp) (wlistK_c colE m.cols _ [] _ (by omega) q2 (by simp) (by simp) fun n hn h' => bcol_c n (o3 n hn) _) ?_
    simp [hh]
  rw [if_neg h84] at hb ⊢
  by_cases h116 : m.kind = 116
  · rw [if_pos h116] at hb
    simp [c39, h116]
    refine xcall_self (by simp) (wnumbers_c 4 m.oids _ (by omega) q1) ?_
    simp [hh]
  rw [if_neg h116] at hb ⊢
  by_cases h69 : m.kind = 69 ∨ m.kind = 78
  · rw [if_pos h69] at hb
    rcases h69 with h69 | h69
    all_goals
      simp [c39, h69]
      refine xcall_self (by simp) (bfields_c m.fields (by omega) q4 o4 _) ?_
      simp [hh]
  have h69' : ¬ m.kind = 69 := fun h => h69 (.inl h)
  have h78' : ¬ m.kind = 78 := fun h => h69 (.inr h)
  rw [if_neg h69]
  simp [c39, h82, h83, h75, h90, h67, h68, h84, h116, h69', h78', hh]
def encB (m : Bk) : Ms × Int := if checkB m = 0 then (⟨m.kind, bodyB m⟩, 0) else (⟨0, []⟩, checkB m)
theorem encB_ok {m : Bk} (h : checkB m = 0) : encB m = (⟨m.kind, bodyB m⟩, 0) := by unfold encB; rw [if_pos h]
theorem encB_no {m : Bk} (h : ¬ checkB m = 0) : encB m = (⟨0, []⟩, checkB m) := by unfold encB; rw [if_neg h]
theorem bencode_c (m : Bk) (hf : BkFit m) (ho : BkOk m) (hb : (bodyB m).length ≤ 140737488351232) (h : List (List AV)) : Contract Tryz.prog 8 [.agg (bkC m)] h (.tup [.agg (msC (encB m).1), .v (.int .i64 (encB m).2)]) h [] := by
  refine contract_of k8 mixed (by simp [c8]) fun hh hargs => ?_
  simp [c8]
  refine xcall_self (by simp) (bcheck_c m hf _) ?_
  by_cases he : checkB m = 0
  · simp [he]
    refine xcall_self (by simp) (bbody_c m hf ho hb _) ?_
    simp [hh, encB, he, msC_mk]
  · simp [he, hh, encB, msC_mk]

/-! ### Bytes -/
theorem bsigned_c (i : Nat) (h : List (List AV)) (st : Sta) (hi : h[i]? = some (scC st)) (size : Int) : Contract Tryz.prog 139 [.agg [.box i 0], .v (.int .i64 size)] h (.v (.int .i64 (signedI (numV st size) size))) (h.set i (scC (numS st size))) [i] := by
  have hil := heap_lt hi
  refine contract_of k139 mixed (by simp [c139]) fun hh hargs => ?_
  simp [c139]
  refine xcall_self (by simp) (num_c i _ st (app_get hi _) size) ?_
  simp [app_set hil]
  refine xcall_self (by simp) (signed_c _ size _) ?_
  simp [hh, scC_lt]
open He (textL)
/-- A column that is read. -/
def colS1 (st : Sta) : Sta := textS st
def colS2 (st : Sta) : Sta := numS (colS1 st) 4
def colS3 (st : Sta) : Sta := numS (colS2 st) 2
def colS4 (st : Sta) : Sta := numS (colS3 st) 4
def colS5 (st : Sta) : Sta := numS (colS4 st) 2
def colS6 (st : Sta) : Sta := numS (colS5 st) 4
def colS (st : Sta) : Sta := numS (colS6 st) 2
def colV (st : Sta) : Co := ⟨He.textL st, numV (colS1 st) 4, numV (colS2 st) 2, numV (colS3 st) 4, signedI (numV (colS4 st) 2) 2, signedI (numV (colS5 st) 4) 4, numV (colS6 st) 2⟩
theorem brcolr_c (i : Nat) (h : List (List AV)) (st : Sta) (hi : h[i]? = some (scC st)) (hl : He.lenS st ≤ 140737488355328) : Contract Tryz.prog 108 [.agg [.box i 0]] h (.agg (coC (colV st))) (h.set i (scC (colS st))) [i] := by
  have hil := heap_lt hi
  refine contract_of k108 mixed (by simp [c108]) fun hh hargs => ?_
  simp [c108]
  refine xcall_self (by simp) (text_c i _ st (app_get hi _) hl) ?_
  simp [app_set hil]
  refine xcall_self (by simp) (num_c i _ (colS1 st) (app_set_get hil _ _) 4) ?_
  simp [app_set_set hil]
  refine xcall_self (by simp) (num_c i _ (colS2 st) (app_set_get hil _ _) 2) ?_
  simp [app_set_set hil]
  refine xcall_self (by simp) (num_c i _ (colS3 st) (app_set_get hil _ _) 4) ?_
  simp [app_set_set hil]
  refine xcall_self (by simp) (bsigned_c i _ (colS4 st) (app_set_get hil _ _) 2) ?_
  simp [app_set_set hil]
  refine xcall_self (by simp) (bsigned_c i _ (colS5 st) (app_set_get hil _ _) 4) ?_
  simp [app_set_set hil]
  refine xcall_self (by simp) (num_c i _ (colS6 st) (app_set_get hil _ _) 2) ?_
  simp [app_set_set hil, hh, scC_lt, coC_mk, colV, colS]
theorem contract_at {P : Program} {f : FuncId} {args : List AV} {r : AV} {i : Nat} {H h' : List (List AV)} {a b : List AV} {wr : List Nat} (hi : i < H.length) (hc : Contract P f args (H.set i a ++ h') r ((H.set i a ++ h').set i b) wr) : Contract P f args (H.set i a ++ h') r (H.set i b ++ h') wr := by
  rwa [app_set_set hi] at hc
theorem colS_len (st : Sta) : He.lenS (colS st) ≤ He.lenS st := by
  unfold colS colS6 colS5 colS4 colS3 colS2 colS1
  have h1 := He.textS_len st
  have h2 := numS_len (textS st) 4
  have h3 := numS_len (numS (textS st) 4) 2
  have h4 := numS_len (numS (numS (textS st) 4) 2) 4
  have h5 := numS_len (numS (numS (numS (textS st) 4) 2) 4) 2
  have h6 := numS_len (numS (numS (numS (numS (textS st) 4) 2) 4) 2) 4
  have h7 := numS_len (numS (numS (numS (numS (numS (textS st) 4) 2) 4) 2) 4) 2
  omega
theorem colS_none : colS none = none := rfl
/-- Fields that are read, up to a byte 0: as many as there may be. -/
def fldR : Nat → Sta → List Fi × Sta
  | 0, st => ([], numS st 1)
  | k + 1, st => if numV st 1 = 0 then ([], numS st 1) else (⟨numV st 1, He.textL (numS st 1)⟩ :: (fldR k (textS (numS st 1))).1, (fldR k (textS (numS st 1))).2)
theorem num1_less {st : Sta} (h : numV st 1 ≠ 0) : He.lenS (numS st 1) + 1 ≤ He.lenS st := by
  cases st with
  | none => exact absurd rfl h
  | some xs =>
    simp only [numV, numS] at h ⊢
    split at h
    · rename_i he
      have hz := getErr_zero he
      rw [if_pos he]
      simp [He.lenS]; omega
    · exact absurd rfl h
def fldV (st : Sta) : List Fi := (fldR (He.lenS st + 1) st).1
def fldS (st : Sta) : Sta := (fldR (He.lenS st + 1) st).2
theorem brfields_c (i : Nat) (h : List (List AV)) (st : Sta) (hi : h[i]? = some (scC st)) (hl : He.lenS st ≤ 1000000000000) : Contract Tryz.prog 110 [.agg [.box i 0]] h (.sl 2 (enc fiC (fldV st)) none .no) (h.set i (scC (fldS st))) [i] := by
  have hil := heap_lt hi
  refine contract_of k110 mixed (by simp [c110]) fun hh hargs => ?_
  simp [c110]
  refine xcall_self (by simp) (num_c i _ st (app_get hi _) 1) ?_
  simp [app_set hil]
  refine xloop_ok (D := List Fi × Sta × Nat) (fun d => ⟨[(1, .box h.length 0), (4, .v (.int .i64 (numV d.2.1 1)))], [(3, .sl 2 (enc fiC d.1) none (.own (.slot 3)))], h.set i (scC (numS d.2.1 1)) ++ [[.box i 0]], [i]⟩)
    (fun d => fldV st = d.1 ++ (fldR d.2.2 d.2.1).1 ∧ fldS st = (fldR d.2.2 d.2.1).2 ∧ He.lenS d.2.1 < d.2.2 ∧ d.1.length + He.lenS d.2.1 ≤ He.lenS st) (fun d => d.2.2) ([], st, He.lenS st + 1) ⟨rfl, rfl, by simp, by simp⟩ ?_ ?_
  · simp [Leq, hh, hil, scC_lt]
    omega
  · rintro ⟨acc, s, k⟩ ⟨e1, e2, e3, e4⟩
    dsimp only at e1 e2 e3 e4
    obtain ⟨k, rfl⟩ : ∃ n, k = n + 1 := ⟨k - 1, by omega⟩
    rw [fldR] at e1 e2
    by_cases hz : numV s 1 = 0
    · rw [if_pos hz] at e1 e2
      simp at e1
      simp [hz, hh, hil, e1, e2, scC_lt]
    · rw [if_neg hz] at e1 e2
      have hless := num1_less hz
      have hlt := He.textS_len (numS s 1)
      have hwr := wrap_u8 (num1_range s)
      have hb : (acc.length + 1) * 24 ≤ 140737488355328 := by omega
      have hb2 : acc.length + 1 ≤ 140737488355328 := by omega
      simp [hz]
      refine xcall_self (by simp) (text_c i _ (numS s 1) (app_set_get hil _ _) (by omega)) ?_
      simp [app_set_set hil, hwr, hb, hb2]
      refine xcall_self (by simp) (num_c i _ (textS (numS s 1)) (app_set_get hil _ _) 1) ?_
      simp [app_set_set hil]
      refine ⟨acc ++ [⟨numV s 1, He.textL (numS s 1)⟩], textS (numS s 1), k, ⟨by rw [e1]; simp, e2, by omega, by simp; omega⟩, by omega, ?_⟩
      simp [Leq, hh, hil, scC_lt, fiC_mk]
      omega
def readB (k : Int) (st : Sta) : Bk × Bool :=
  if k = 82 then (⟨82, 0, [], [], [], 0, 0, [], [], [], []⟩, numV st 4 == 0)
  else if k = 83 then (⟨83, 0, [], He.textL st, He.textL (textS st), 0, 0, [], [], [], []⟩, true)
  else if k = 75 then (⟨75, 0, [], [], [], numV st 4, numV (numS st 4) 4, [], [], [], []⟩, true)
  else if k = 90 then (⟨90, numV st 1, [], [], [], 0, 0, [], [], [], []⟩, statB (numV st 1))
  else if k = 67 then (⟨67, 0, He.textL st, [], [], 0, 0, [], [], [], []⟩, true)
  else if k = 68 then (⟨68, 0, [], [], [], 0, 0, [], [], cellsV st, []⟩, true)
  else if k = 84 then (⟨84, 0, [], [], [], 0, 0, [], listV colV colS st, [], []⟩, true)
  else if k = 116 then (⟨116, 0, [], [], [], 0, 0, numbersV 4 st, [], [], []⟩, true)
  else if k = 69 ∨ k = 78 then (⟨k, 0, [], [], [], 0, 0, [], [], [], fldV st⟩, true)
  else (⟨k, 0, [], [], [], 0, 0, [], [], [], []⟩, true)
def readBS (k : Int) (st : Sta) : Sta :=
  if k = 82 then numS st 4
  else if k = 83 then textS (textS st)
  else if k = 75 then numS (numS st 4) 4
  else if k = 90 then numS st 1
  else if k = 67 then textS st
  else if k = 68 then cellsS st
  else if k = 84 then listS colV colS st
  else if k = 116 then numbersS 4 st
  else if k = 69 ∨ k = 78 then fldS st
  else st
set_option maxHeartbeats 4000000 in
theorem breader_c (i : Nat) (h : List (List AV)) (st : Sta) (hi : h[i]? = some (scC st)) (hl : He.lenS st ≤ 1000000000000) (k : Int) :
    Contract Tryz.prog 68 [.agg [.box i 0], .v (.int .u8 k)] h (.tup [.agg (bkC (readB k st).1), .v (.bool (readB k st).2)]) (h.set i (scC (readBS k st))) [i] := by
  have hil := heap_lt hi
  refine contract_of k68 mixed (by simp [c68]) fun hh hargs => ?_
  unfold readB readBS
  by_cases h82 : k = 82
  · subst h82
    simp [c68]
    refine xcall_self (by simp) (num_c i _ st (app_get hi _) 4) ?_
    simp [app_set hil, hh, scC_lt, bkC_mk]
  rw [if_neg h82, if_neg h82]
  by_cases h83 : k = 83
  · subst h83
    simp [c68]
    refine xcall_self (by simp) (text_c i _ st (app_get hi _) (by omega)) ?_
    simp [app_set hil]
    refine xcall_self (by simp) (text_c i _ (textS st) (app_set_get hil _ _) (by have := He.textS_len st; omega)) ?_
    simp [app_set_set hil, hh, scC_lt, bkC_mk]
  rw [if_neg h83, if_neg h83]
  by_cases h75 : k = 75
  · subst h75
    simp [c68]
    refine xcall_self (by simp) (num_c i _ st (app_get hi _) 4) ?_
    simp [app_set hil]
    refine xcall_self (by simp) (num_c i _ (numS st 4) (app_set_get hil _ _) 4) ?_
    simp [app_set_set hil, hh, scC_lt, bkC_mk]
  rw [if_neg h75, if_neg h75]
  by_cases h90 : k = 90
  · subst h90
    have hwr := wrap_u8 (num1_range st)
    simp [c68]
    refine xcall_self (by simp) (num_c i _ st (app_get hi _) 1) ?_
    simp [app_set hil, hwr]
    refine xcall_self (by simp) (bstat_c _ _) ?_
    simp [hh, scC_lt, bkC_mk, hil]
  rw [if_neg h90, if_neg h90]
  by_cases h67 : k = 67
  · subst h67
    simp [c68]
    refine xcall_self (by simp) (text_c i _ st (app_get hi _) (by omega)) ?_
    simp [app_set hil, hh, scC_lt, bkC_mk]
  rw [if_neg h67, if_neg h67]
  by_cases h68 : k = 68
  · subst h68
    simp [c68]
    refine xcall_self (by simp) (wcellsr_c i _ st (app_get hi _)) ?_
    simp [app_set hil, hh, scC_lt, bkC_mk]
  rw [if_neg h68, if_neg h68]
  by_cases h84 : k = 84
  · subst h84
    simp [c68]
    refine xcall_self (by simp) (wreadK_c colV colS colS_none _ [.agg [.box i 0]] [] i _ st (app_get hi _) (by simp) (by simp) (by simp; omega) (by simp) (fun s => He.lenS s ≤ 140737488355328) (fun j => by
      have h1 := readR_lenS colV colS colS_len j (numS st 2)
      have h2 := numS_len st 2
      omega) fun st' hst' h' => ?_) ?_
    · exact contract_at (by simp; omega) (brcolr_c i _ st' (app_set_get (by simp; omega) _ _) hst')
    · simp [app_set hil, hh, scC_lt, bkC_mk]
  rw [if_neg h84, if_neg h84]
  by_cases h116 : k = 116
  · subst h116
    simp [c68]
    refine xcall_self (by simp) (wnumr_c i _ st (app_get hi _) 4) ?_
    simp [app_set hil, hh, scC_lt, bkC_mk]
  rw [if_neg h116, if_neg h116]
  by_cases h69 : k = 69 ∨ k = 78
  · rw [if_pos h69, if_pos h69]
    rcases h69 with rfl | rfl
    all_goals
      simp [c68]
      refine xcall_self (by simp) (brfields_c i _ st (app_get hi _) hl) ?_
      simp [app_set hil, hh, scC_lt, bkC_mk]
  rw [if_neg h69, if_neg h69]
  have h69' : ¬ k = 69 := fun h => h69 (.inl h)
  have h78' : ¬ k = 78 := fun h => h69 (.inr h)
  simp [c68, h82, h83, h75, h90, h67, h68, h84, h116, h69', h78', hh, scC_lt, bkC_mk, set_same hi, hil]
def noBk : Bk := ⟨0, 0, [], [], [], 0, 0, [], [], [], []⟩
def decB (m : Ms) : Bk × Int :=
  if kindB m.type = false then (noBk, 9)
  else if (readB m.type (some m.body)).2 && doneB (readBS m.type (some m.body)) then ((readB m.type (some m.body)).1, 0) else (noBk, 4)
theorem bdecode_c (m : Ms) (hx : m.body.length ≤ 1000000000000) (h : List (List AV)) : Contract Tryz.prog 17 [.agg (msC m)] h (.tup [.agg (bkC (decB m).1), .v (.int .i64 (decB m).2)]) h [] := by
  refine contract_of k17 mixed (by simp [c17]) fun hh hargs => ?_
  simp [c17]
  refine xcall_self (by simp) (bkind_c _ _) ?_
  cases hk : kindB m.type with
  | false => simp [hh, decB, hk, noBk, bkC_mk]
  | true =>
  have e : decB m = if (readB m.type (some m.body)).2 && doneB (readBS m.type (some m.body)) then ((readB m.type (some m.body)).1, 0) else (noBk, 4) := by unfold decB; rw [hk]; rfl
  rw [e]
  simp
  refine xcall_self (by simp) (wread_c _ (by omega) _) ?_
  simp
  refine xcall_self (by simp) (breader_c (h.length + 3) _ (some m.body) (by simp) hx _) ?_
  cases p1 : (readB m.type (some m.body)).2 with
  | false => simp [hh, noBk, bkC_mk]
  | true =>
  simp
  refine xcall_self (by simp) (done_c (h.length + 3) _ (readBS m.type (some m.body)) (by simp)) ?_
  cases p2 : doneB (readBS m.type (some m.body)) with
  | false => simp [hh, noBk, bkC_mk]
  | true => simp [hh]
/-- Messages' bytes. -/
def oneB (m : Bk) : List UInt8 := if checkB m = 0 then UInt8.ofNat m.kind.toNat :: (numE 4 ((bodyB m).length + 4) ++ bodyB m) else []
theorem oneB_ok {m : Bk} (h : checkB m = 0) : oneB m = UInt8.ofNat m.kind.toNat :: (numE 4 ((bodyB m).length + 4) ++ bodyB m) := by unfold oneB; rw [if_pos h]
theorem oneB_no {m : Bk} (h : ¬ checkB m = 0) : oneB m = [] := by unfold oneB; rw [if_neg h]
theorem numE_eq (size n : Int) : numE size n = putL [] n size := rfl
def bytesB (l : List Bk) : List UInt8 := l.flatMap oneB
theorem kind_range {k : Int} (h : kindB k = true) : 0 ≤ k ∧ k < 256 := by
  unfold kindB at h
  have := of_decide_eq_true h
  omega
theorem checkB_kind {m : Bk} (h : checkB m = 0) : kindB m.kind = true := by
  cases hk : kindB m.kind with
  | true => rfl
  | false => unfold checkB at h; rw [hk] at h; cases h
end Go.Proofs.YthilellmckhejaaGreat.Ax
/- Package back: messages' bytes. -/
namespace Go.Proofs.YthilellmckhejaaGreat.Ax
open Go.RowKit Go By Nm Sc Dg
set_option linter.unusedSimpArgs false
set_option linter.unusedVariables false
set_option maxRecDepth 10000

theorem bb_step (l : List Bk) {M : Nat} (hl : (bytesB l).length ≤ M) (j : Nat) (hlt : j < l.length) : bytesB (l.take (j + 1)) = bytesB (l.take j) ++ oneB l[j] ∧ (bytesB (l.take j)).length + (oneB l[j]).length ≤ M := by
  unfold bytesB at *
  obtain ⟨hx, hb⟩ := flat_step oneB l 0 j hlt M (by rw [Nat.zero_add]; exact hl)
  exact ⟨hx, by rw [Nat.zero_add] at hb; exact hb⟩
theorem oneB_len {m : Bk} (h : checkB m = 0) : (oneB m).length = (numE 4 ((bodyB m).length + 4)).length + (bodyB m).length + 1 := by
  rw [oneB_ok h, List.length_cons, List.length_append]
theorem bb_le {a n b : Nat} (h : a + (n + b + 1) ≤ 140737488351232) : a ≤ 140737488355327 ∧ a + 1 + n ≤ 140737488355328 ∧ a + 1 + n + b ≤ 140737488355328 := by omega
theorem bb_two {a : Nat} {m : Bk} (h : checkB m = 0) (hb : a + (oneB m).length ≤ 140737488351232) : a ≤ 140737488355327 ∧ a + 1 + (numE 4 ((bodyB m).length + 4)).length ≤ 140737488355328 ∧ a + 1 + (numE 4 ((bodyB m).length + 4)).length + (bodyB m).length ≤ 140737488355328 := by
  rw [oneB_len h] at hb
  exact bb_le hb
theorem w1 (x : Nat) (f3 : x ≤ 140737488351232) : IntKind.i64.wrap ((x : Int) + 4) = (x : Int) + 4 := wrap64 (by omega) (by omega)
theorem kmod (k : Int) (hk : 0 ≤ k ∧ k < 256) : max k 0 % 256 = k := by omega
theorem put4_c (n : Int) (h : List (List AV)) : Contract Tryz.prog 65 [.sl 1 (bytesE []) none .no, .v (.int .i64 n), .v (.int .i64 4)] h (.sl 1 (bytesE (numE 4 n)) none (.own .res)) h [] := by
  rw [numE_eq]
  exact put_c [] n 4 (by simp) h
theorem bytesE_msg (B E X : List UInt8) (k : Int) (hk : max k 0 % 256 = k) : bytesE (B ++ UInt8.ofNat k.toNat :: (E ++ X)) = bytesE B ++ [[AV.v (.int .u8 k)]] ++ bytesE E ++ bytesE X := by simp [hk]
theorem bbytes_c (l : List Bk) (hf : ∀ m ∈ l, BkFit m ∧ BkOk m ∧ (bodyB m).length ≤ 140737488351232) (hl : (bytesB l).length ≤ 140737488351232) (hn : l.length ≤ 140737488351232) (h : List (List AV)) : Contract Tryz.prog 15 [.sl 11 (enc bkC l) none .no] h (.sl 1 (bytesE (bytesB l)) none (.own .res)) h [] := by
  refine contract_of k15 mixed (by simp [c15]) fun hh hargs => ?_
  simp [c15]
  refine xloop_ok (D := Nat) (fun j => ⟨[(8, .sl 11 (enc bkC l) none .no), (9, .v (.int .i64 l.length)), (10, .v (.int .i64 j))], [(3, .sl 1 (bytesE (bytesB (l.take j))) none (.own (.slot 3)))], h, []⟩) (fun j => j ≤ l.length) (fun j => l.length - j) 0 (by simp) ?_ ?_
  · simp [Leq, hh, bytesB]
  · intro j hj
    by_cases hlt : j < l.length
    · have hw : IntKind.i64.wrap ((j : Int) + 1) = (j : Int) + 1 := wrap64 (by omega) (by omega)
      obtain ⟨hx', hb'⟩ := bb_step l hl j hlt
      obtain ⟨f1, f2, f3⟩ := hf l[j] (List.getElem_mem _)
      simp [hlt]
      generalize l[j] = m at *
      refine xcall_self (by simp) (bencode_c m f1 f2 f3 _) ?_
      by_cases he : checkB m = 0
      · have e1 : encB m = (⟨m.kind, bodyB m⟩, 0) := if_pos he
        have e2 : oneB m = UInt8.ofNat m.kind.toNat :: (numE 4 ((bodyB m).length + 4) ++ bodyB m) := if_pos he
        have hk3 := kmod m.kind (kind_range (checkB_kind he))
        have hw2 := w1 (bodyB m).length f3
        obtain ⟨b1, b2, b3⟩ := bb_two he hb'
        rw [e2] at hx'
        rw [e1]
        clear hb' e1 e2 hl hf f1 f2 f3
        simp [hw2]
        refine ⟨b1, ?_⟩
        clear hw2
        generalize ((bodyB m).length : Int) + 4 = n at *
        refine xcall_of (put4_c n _) (by simp) (by simp) ?_
        generalize numE 4 n = E at *
        generalize bodyB m = X at *
        simp [hw, -List.append_assoc]
        refine ⟨b2, b3, j + 1, by omega, by omega, ?_⟩
        have hx2 := bytesE_msg (bytesB (l.take j)) E X m.kind hk3
        rw [← hx'] at hx2
        simp [Leq, hh, hx2, -List.append_assoc]
      · have e2 := oneB_no he
        rw [e2, List.append_nil] at hx'
        rw [encB_no he]
        simp [he, hw]
        refine ⟨j + 1, by omega, by omega, ?_⟩
        simp [Leq, hh, hx']
    · have : j = l.length := by omega
      subst this
      simp [hh]
end Go.Proofs.YthilellmckhejaaGreat.Ax
/- Columns and fields there and back. -/
namespace Go.Proofs.YthilellmckhejaaGreat.Ax
open Go.RowKit Go By Nm Sc Dg
open He (textL)
set_option linter.unusedSimpArgs false
set_option linter.unusedVariables false

theorem textsL_one (t : List UInt8) : textsL [t] = He.encT t := by simp [textsL]
theorem nums_four {xs r : List UInt8} (h : numS (some xs) 4 = some r) : xs = numE 4 (numV (some xs) 4) ++ r ∧ 0 ≤ numV (some xs) 4 ∧ numV (some xs) 4 < 4294967296 := by
  have := @num_back 4 (.inr (.inr rfl)) xs r
  rw [four, p256_4] at this
  exact this h
theorem nums_two {xs r : List UInt8} (h : numS (some xs) 2 = some r) : xs = numE 2 (numV (some xs) 2) ++ r ∧ 0 ≤ numV (some xs) 2 ∧ numV (some xs) 2 < 65536 := by
  have := @num_back 2 (.inr (.inl rfl)) xs r
  rw [two, p256_2] at this
  exact this h
theorem nums_one {xs r : List UInt8} (h : numS (some xs) 1 = some r) : xs = numE 1 (numV (some xs) 1) ++ r ∧ 0 ≤ numV (some xs) 1 ∧ numV (some xs) 1 < 256 := by
  have := @num_back 1 (.inl rfl) xs r
  rw [onecast, one256] at this
  exact this h
theorem four_there {n : Int} (r : List UInt8) (h : rightB n 4 = true) : numV (some (numE 4 n ++ r)) 4 = n % 4294967296 ∧ numS (some (numE 4 n ++ r)) 4 = some r := by
  have := @num_put n 4 (.inr (.inr rfl)) r
  rw [four, p256_4] at this
  exact this h
theorem two_there {n : Int} (r : List UInt8) (h : rightB n 2 = true) : numV (some (numE 2 n ++ r)) 2 = n % 65536 ∧ numS (some (numE 2 n ++ r)) 2 = some r := by
  have := @num_put n 2 (.inr (.inl rfl)) r
  rw [two, p256_2] at this
  exact this h
theorem one_there {n : Int} (r : List UInt8) (h0 : 0 ≤ n) (h1 : n < 256) : numV (some (numE 1 n ++ r)) 1 = n ∧ numS (some (numE 1 n ++ r)) 1 = some r := by
  have := @num_put n 1 (.inl rfl) r (right_of_range (.inl rfl) h0 (by rw [one256]; exact h1))
  rw [onecast, one256, Int.emod_eq_of_lt h0 h1] at this
  exact this
theorem byte_all : ∀ k : Fin 256, putL [] (k.val : Int) 1 = [UInt8.ofNat k.val] := by decide +kernel
theorem numE_one {n : Int} (h0 : 0 ≤ n) (h1 : n < 256) : numE 1 n = [UInt8.ofNat n.toNat] := by
  have := byte_all ⟨n.toNat, by omega⟩
  simp only at this
  rw [numE_eq]
  rwa [Int.toNat_of_nonneg h0] at this
theorem signed2 (n : Int) : signedI n 2 = if 32768 ≤ n ∧ n < 65536 then n - 65536 else n := by
  have e : szB 2 = true := rfl
  have e2 : powI 2 = 65536 := rfl
  unfold signedI
  rw [e, e2]
  simp only [true_and]
  split <;> split <;> omega
theorem put_signed2 {n : Int} (h0 : 0 ≤ n) (h1 : n < 65536) : numE 2 (signedI n 2) = numE 2 n := by
  rw [signed2]
  split
  · rename_i h
    have r1 : rightB (n - 65536) (2 : Nat) = true := by rw [two, right2]; omega
    have r2 : rightB n (2 : Nat) = true := by rw [two, right2]; omega
    have e1 := putL_right r1
    have e2 := putL_right r2
    rw [two] at e1 e2
    rw [numE_eq, numE_eq, e1, e2]
    have b : ∀ k, k < 2 → putByte (n - 65536) k = putByte n k := fun k hk => by
      unfold putByte
      congr 2
      rcases (by omega : k = 0 ∨ k = 1) with rfl | rfl <;> omega
    simp [putTo, b]
  · rfl
theorem put_signed4 {n : Int} (h0 : 0 ≤ n) (h1 : n < 4294967296) : numE 4 (signedI n 4) = numE 4 n := put_signed h0 h1
theorem sgn2_there {n : Int} (r : List UInt8) (h : sgnB 2 n = true) : signedI (numV (some (numE 2 n ++ r)) 2) 2 = n ∧ numS (some (numE 2 n ++ r)) 2 = some r := by
  simp only [sgnB, Bool.and_eq_true, beq_iff_eq] at h
  obtain ⟨a, b⟩ := two_there r h.1
  refine ⟨?_, b⟩
  have h1 := (right2 n).1 h.1
  have h2 := h.2
  rw [signed2] at h2
  rw [a, signed2]
  split <;> split at h2 <;> omega
theorem sgn4_there {n : Int} (r : List UInt8) (h : sgnB 4 n = true) : signedI (numV (some (numE 4 n ++ r)) 4) 4 = n ∧ numS (some (numE 4 n ++ r)) 4 = some r := by
  simp only [sgnB, Bool.and_eq_true, beq_iff_eq] at h
  obtain ⟨a, b⟩ := four_there r h.1
  refine ⟨?_, b⟩
  have h1 := (right4 n).1 h.1
  have h2 := h.2
  rw [signed4] at h2
  rw [a, signed4]
  split <;> split at h2 <;> omega
theorem uns4_there {n : Int} (r : List UInt8) (h : unsB 4 n = true) : numV (some (numE 4 n ++ r)) 4 = n ∧ numS (some (numE 4 n ++ r)) 4 = some r := by
  simp only [unsB, Bool.and_eq_true, Bool.not_eq_true', decide_eq_false_iff_not] at h
  obtain ⟨a, b⟩ := four_there r h.2
  have h1 := (right4 n).1 h.2
  exact ⟨by rw [a]; omega, b⟩
theorem uns2_there {n : Int} (r : List UInt8) (h : unsB 2 n = true) : numV (some (numE 2 n ++ r)) 2 = n ∧ numS (some (numE 2 n ++ r)) 2 = some r := by
  simp only [unsB, Bool.and_eq_true, Bool.not_eq_true', decide_eq_false_iff_not] at h
  obtain ⟨a, b⟩ := two_there r h.2
  have h1 := (right2 n).1 h.2
  exact ⟨by rw [a]; omega, b⟩
theorem uns4_of {n : Int} (h0 : 0 ≤ n) (h1 : n < 4294967296) : unsB 4 n = true := by
  simp only [unsB, Bool.and_eq_true, Bool.not_eq_true', decide_eq_false_iff_not, right4]; omega
theorem uns2_of {n : Int} (h0 : 0 ≤ n) (h1 : n < 65536) : unsB 2 n = true := by
  simp only [unsB, Bool.and_eq_true, Bool.not_eq_true', decide_eq_false_iff_not, right2]; omega
theorem sgn2_of {n : Int} (h0 : 0 ≤ n) (h1 : n < 65536) : sgnB 2 (signedI n 2) = true := by
  simp only [sgnB, Bool.and_eq_true, beq_iff_eq, right2, signed2]
  repeat' split
  all_goals omega
theorem sgn4_of {n : Int} (h0 : 0 ≤ n) (h1 : n < 4294967296) : sgnB 4 (signedI n 4) = true := by
  simp only [sgnB, Bool.and_eq_true, beq_iff_eq, right4, signed4]
  repeat' split
  all_goals omega

theorem colS_eq (st : Sta) : colS st = numS (numS (numS (numS (numS (numS (textS st) 4) 2) 4) 2) 4) 2 := rfl
theorem colV_eq (st : Sta) : colV st = ⟨textL st, numV (textS st) 4, numV (numS (textS st) 4) 2, numV (numS (numS (textS st) 4) 2) 4, signedI (numV (numS (numS (numS (textS st) 4) 2) 4) 2) 2, signedI (numV (numS (numS (numS (numS (textS st) 4) 2) 4) 2) 4) 4, numV (numS (numS (numS (numS (numS (textS st) 4) 2) 4) 2) 4) 2⟩ := rfl
theorem col_parts {c : Co} (h : colB c = true) : cleanB c.name = true ∧ unsB 4 c.table = true ∧ unsB 4 c.oid = true ∧ unsB 2 c.attr = true ∧ unsB 2 c.format = true ∧ sgnB 2 c.size = true ∧ sgnB 4 c.mod = true := by
  simp only [colB, Bool.and_eq_true] at h
  obtain ⟨a, ⟨b, c⟩, ⟨d, e⟩, f, g⟩ := h
  exact ⟨a, b, c, d, e, f, g⟩
theorem col_of {c : Co} (h1 : cleanB c.name = true) (h2 : unsB 4 c.table = true) (h3 : unsB 4 c.oid = true) (h4 : unsB 2 c.attr = true) (h5 : unsB 2 c.format = true) (h6 : sgnB 2 c.size = true) (h7 : sgnB 4 c.mod = true) : colB c = true := by
  simp only [colB, Bool.and_eq_true]
  exact ⟨h1, ⟨h2, h3⟩, ⟨h4, h5⟩, h6, h7⟩
theorem colE_app (c : Co) (r : List UInt8) : colE c ++ r = He.encT c.name ++ (numE 4 c.table ++ (numE 2 c.attr ++ (numE 4 c.oid ++ (numE 2 c.size ++ (numE 4 c.mod ++ (numE 2 c.format ++ r)))))) := by
  unfold colE
  rw [textsL_one]
  simp only [List.append_assoc]
theorem cols_there : There colE colV colS (fun c => colB c = true) := fun c r hc => by
  obtain ⟨h1, h2, h3, h4, h5, h6, h7⟩ := col_parts hc
  rw [colE_app, colS_eq, colV_eq]
  obtain ⟨a7, b7⟩ := uns2_there r h5
  obtain ⟨a6, b6⟩ := sgn4_there (numE 2 c.format ++ r) h7
  obtain ⟨a5, b5⟩ := sgn2_there (numE 4 c.mod ++ (numE 2 c.format ++ r)) h6
  obtain ⟨a4, b4⟩ := uns4_there (numE 2 c.size ++ (numE 4 c.mod ++ (numE 2 c.format ++ r))) h3
  obtain ⟨a3, b3⟩ := uns2_there (numE 4 c.oid ++ (numE 2 c.size ++ (numE 4 c.mod ++ (numE 2 c.format ++ r)))) h4
  obtain ⟨a2, b2⟩ := uns4_there (numE 2 c.attr ++ (numE 4 c.oid ++ (numE 2 c.size ++ (numE 4 c.mod ++ (numE 2 c.format ++ r))))) h2
  obtain ⟨a1, b1⟩ := He.text_enc (numE 4 c.table ++ (numE 2 c.attr ++ (numE 4 c.oid ++ (numE 2 c.size ++ (numE 4 c.mod ++ (numE 2 c.format ++ r)))))) h1
  rw [b1, b2, b3, b4, b5, b6, b7, a1, a2, a3, a4, a5, a6, a7]
  exact ⟨rfl, rfl⟩
theorem some_num {size : Int} {st : Sta} {r : List UInt8} (h : numS st size = some r) : ∃ xs, st = some xs := some_of (f := fun s => numS s size) rfl h
theorem cols_back : Back colE colV colS (fun c => colB c = true) := ⟨colS_none, fun xs r h => by
  rw [colS_eq] at h
  obtain ⟨y6, e6⟩ := some_num h
  obtain ⟨y5, e5⟩ := some_num e6
  obtain ⟨y4, e4⟩ := some_num e5
  obtain ⟨y3, e3⟩ := some_num e4
  obtain ⟨y2, e2⟩ := some_num e3
  obtain ⟨y1, e1⟩ := some_num e2
  rw [e6] at h
  rw [e5] at e6
  rw [e4] at e5
  rw [e3] at e4
  rw [e2] at e3
  rw [e1] at e2
  obtain ⟨b1, c1⟩ := He.text_back e1
  obtain ⟨b2, l2, u2⟩ := nums_four e2
  obtain ⟨b3, l3, u3⟩ := nums_two e3
  obtain ⟨b4, l4, u4⟩ := nums_four e4
  obtain ⟨b5, l5, u5⟩ := nums_two e5
  obtain ⟨b6, l6, u6⟩ := nums_four e6
  obtain ⟨b7, l7, u7⟩ := nums_two h
  rw [colV_eq, e1, e2, e3, e4, e5, e6]
  constructor
  · rw [colE_app]
    rw [put_signed2 l5 u5, put_signed4 l6 u6, ← b7, ← b6, ← b5, ← b4, ← b3, ← b2, ← b1]
  · exact col_of c1 (uns4_of l2 u2) (uns4_of l4 u4) (uns2_of l3 u3) (uns2_of l7 u7) (sgn2_of l5 u5) (sgn4_of l6 u6)⟩

/-! ### Fields -/
def FiOk (f : Fi) : Prop := 0 ≤ f.code ∧ f.code < 256
theorem field_parts {f : Fi} (h : fieldB f = true) : f.code ≠ 0 ∧ cleanB f.text = true := by
  simp only [fieldB, Bool.and_eq_true, Bool.not_eq_true', beq_eq_false_iff_ne] at h
  exact h
theorem fieldsE_nil : fieldsE [] = [0] := rfl
theorem fieldsE_cons (f : Fi) (l : List Fi) (r : List UInt8) (h : FiOk f) : fieldsE (f :: l) ++ r = numE 1 f.code ++ (He.encT f.text ++ (fieldsE l ++ r)) := by
  rw [numE_one h.1 h.2]
  unfold fieldsE
  rw [List.flatMap_cons]
  unfold fieldE
  rw [textsL_one]
  simp only [List.append_assoc, List.cons_append, List.nil_append]
theorem fldR_nil (k : Nat) (r : List UInt8) : fldR k (some (0 :: r)) = ([], some r) := by
  have e : (0 :: r : List UInt8) = numE 1 0 ++ r := by rw [numE_one (by omega) (by omega)]; rfl
  obtain ⟨a, b⟩ := one_there (n := 0) r (by omega) (by omega)
  rw [e]
  cases k with
  | zero => rw [fldR, b]
  | succ k => rw [fldR, if_pos a, b]
theorem fields_there : ∀ (l : List Fi) (k : Nat) (r : List UInt8), l.length ≤ k → (∀ f ∈ l, FiOk f ∧ fieldB f = true) → fldR k (some (fieldsE l ++ r)) = (l, some r)
  | [], k, r, _, _ => fldR_nil k r
  | f :: l, 0, r, h, _ => by simp at h
  | f :: l, k + 1, r, h, hl => by
    obtain ⟨h1, h2⟩ := hl f (by simp)
    obtain ⟨h3, h4⟩ := field_parts h2
    obtain ⟨a1, b1⟩ := one_there (n := f.code) (He.encT f.text ++ (fieldsE l ++ r)) h1.1 h1.2
    obtain ⟨a2, b2⟩ := He.text_enc (fieldsE l ++ r) h4
    rw [fieldsE_cons f l r h1, fldR, a1, b1, if_neg h3, a2, b2, fields_there l k r (by simpa using h) (fun g hg => hl g (by simp [hg]))]
theorem fldR_none : ∀ k, fldR k none = ([], none)
  | 0 => rfl
  | k + 1 => rfl
theorem fields_back : ∀ (k : Nat) (xs r : List UInt8) (l : List Fi), xs.length < k → fldR k (some xs) = (l, some r) → xs = fieldsE l ++ r ∧ ∀ f ∈ l, FiOk f ∧ fieldB f = true
  | 0, xs, r, l, h, _ => by simp at h
  | k + 1, xs, r, l, h, hr => by
    rw [fldR] at hr
    by_cases hz : numV (some xs) 1 = 0
    · rw [if_pos hz] at hr
      obtain ⟨rfl, e⟩ := Prod.mk.inj hr
      obtain ⟨b, _, _⟩ := nums_one e
      rw [hz, numE_one (by omega) (by omega)] at b
      exact ⟨b, by simp⟩
    · rw [if_neg hz] at hr
      obtain ⟨hl, e⟩ := Prod.mk.inj hr
      cases e1 : numS (some xs) 1 with
      | none => rw [e1] at e; change (fldR k none).2 = some r at e; rw [fldR_none] at e; cases e
      | some y1 =>
        rw [e1] at e hl
        cases e2 : textS (some y1) with
        | none => rw [e2, fldR_none] at e; cases e
        | some y2 =>
          rw [e2] at e hl
          obtain ⟨b1, l1, u1⟩ := nums_one e1
          obtain ⟨b2, c2⟩ := He.text_back e2
          have hlen1 := congrArg List.length b1
          have hlen2 := congrArg List.length b2
          rw [numE_one l1 u1] at hlen1
          simp only [List.length_append, List.length_singleton] at hlen1 hlen2
          obtain ⟨b3, c3⟩ := fields_back k y2 r (fldR k (some y2)).1 (by omega) (by rw [← e])
          subst hl
          have hf : FiOk ⟨numV (some xs) 1, textL (some y1)⟩ := ⟨l1, u1⟩
          refine ⟨?_, fun f hf' => ?_⟩
          · rw [fieldsE_cons _ _ _ hf, ← b3, ← b2, ← b1]
          · rcases List.mem_cons.1 hf' with rfl | hf'
            · refine ⟨hf, ?_⟩
              simp only [fieldB, Bool.and_eq_true, Bool.not_eq_true', beq_eq_false_iff_ne]
              exact ⟨hz, c2⟩
            · exact c3 f hf'
end Go.Proofs.YthilellmckhejaaGreat.Ax
/- Back's messages there and back, on lists of bytes. -/
namespace Go.Proofs.YthilellmckhejaaGreat.Ax
open Go.RowKit Go By Nm Sc Dg
open He (textL)
set_option linter.unusedSimpArgs false
set_option linter.unusedVariables false

theorem check_okB {m : Bk} (h : checkB m = 0) : kindB m.kind = true ∧ rstatB m = true ∧ blistsB m = true ∧ bcleanB m = true ∧ bnumB m = true ∧ m = saidB m := by
  unfold checkB at h
  split at h
  · cases h
  · rename_i hk
    split at h
    · rename_i hc
      simp only [Bool.and_eq_true] at hc
      rw [sameB_eq] at hc
      exact ⟨by simpa using hk, hc.1, hc.2.1, hc.2.2.1, hc.2.2.2.1, of_decide_eq_true hc.2.2.2.2⟩
    · cases h
theorem check_ofB {m : Bk} (h1 : kindB m.kind = true) (h2 : rstatB m = true) (h3 : blistsB m = true) (h4 : bcleanB m = true) (h5 : bnumB m = true) (h6 : m = saidB m) : checkB m = 0 := by
  unfold checkB
  have h7 : sameB m (saidB m) = true := by rw [sameB_eq]; exact decide_eq_true h6
  rw [if_neg (by simp [h1]), h2, h3, h4, h5, h7]; rfl
theorem kinds_of {k : Int} (h : kindB k = true) : k = 82 ∨ k = 83 ∨ k = 75 ∨ k = 90 ∨ k = 67 ∨ k = 68 ∨ k = 84 ∨ k = 116 ∨ (k = 69 ∨ k = 78) ∨ (k = 49 ∨ k = 50 ∨ k = 51 ∨ k = 110 ∨ k = 115 ∨ k = 73) := by
  unfold kindB at h
  have := of_decide_eq_true h
  omega
theorem lists_ok {m : Bk} (h : blistsB m = true) : (m.oids.length ≤ 65535 ∧ m.cols.length ≤ 65535 ∧ m.row.length ≤ 65535 ∧ m.fields.length ≤ 65535) ∧ (∀ n ∈ m.oids, unsB 4 n = true) ∧ (∀ c ∈ m.row, CellOk c) ∧ (∀ c ∈ m.cols, colB c = true) ∧ ∀ f ∈ m.fields, fieldB f = true := by
  simp only [blistsB, fewB, Bool.and_eq_true, decide_eq_true_eq] at h
  obtain ⟨⟨a, b, c, d⟩, e, f, g, i⟩ := h
  exact ⟨⟨by omega, by omega, by omega, by omega⟩, List.all_eq_true.1 e, fun c hc => cell_ok (List.all_eq_true.1 f c hc), List.all_eq_true.1 g, List.all_eq_true.1 i⟩
section
variable (st : Sta)
theorem readB_82 : readB 82 st = (⟨82, 0, [], [], [], 0, 0, [], [], [], []⟩, numV st 4 == 0) ∧ readBS 82 st = numS st 4 := ⟨rfl, rfl⟩
theorem readB_83 : readB 83 st = (⟨83, 0, [], textL st, textL (textS st), 0, 0, [], [], [], []⟩, true) ∧ readBS 83 st = textS (textS st) := ⟨rfl, rfl⟩
theorem readB_75 : readB 75 st = (⟨75, 0, [], [], [], numV st 4, numV (numS st 4) 4, [], [], [], []⟩, true) ∧ readBS 75 st = numS (numS st 4) 4 := ⟨rfl, rfl⟩
theorem readB_90 : readB 90 st = (⟨90, numV st 1, [], [], [], 0, 0, [], [], [], []⟩, statB (numV st 1)) ∧ readBS 90 st = numS st 1 := ⟨rfl, rfl⟩
theorem readB_67 : readB 67 st = (⟨67, 0, textL st, [], [], 0, 0, [], [], [], []⟩, true) ∧ readBS 67 st = textS st := ⟨rfl, rfl⟩
theorem readB_68 : readB 68 st = (⟨68, 0, [], [], [], 0, 0, [], [], cellsV st, []⟩, true) ∧ readBS 68 st = cellsS st := ⟨rfl, rfl⟩
theorem readB_84 : readB 84 st = (⟨84, 0, [], [], [], 0, 0, [], listV colV colS st, [], []⟩, true) ∧ readBS 84 st = listS colV colS st := ⟨rfl, rfl⟩
theorem readB_116 : readB 116 st = (⟨116, 0, [], [], [], 0, 0, numbersV 4 st, [], [], []⟩, true) ∧ readBS 116 st = numbersS 4 st := ⟨rfl, rfl⟩
theorem readB_fld {k : Int} (h : k = 69 ∨ k = 78) : readB k st = (⟨k, 0, [], [], [], 0, 0, [], [], [], fldV st⟩, true) ∧ readBS k st = fldS st := by rcases h with rfl | rfl <;> exact ⟨rfl, rfl⟩
theorem readB_no {k : Int} (h : k = 49 ∨ k = 50 ∨ k = 51 ∨ k = 110 ∨ k = 115 ∨ k = 73) : readB k st = (⟨k, 0, [], [], [], 0, 0, [], [], [], []⟩, true) ∧ readBS k st = st := by rcases h with rfl | rfl | rfl | rfl | rfl | rfl <;> exact ⟨rfl, rfl⟩
end
section
variable {m : Bk}
theorem bodyB_82 (h : m.kind = 82) : bodyB m = numE 4 0 := by unfold bodyB; rw [if_pos h]
theorem bodyB_83 (h : m.kind = 83) : bodyB m = textsL [m.name, m.value] := by unfold bodyB; rw [if_neg (by omega), if_pos h]
theorem bodyB_75 (h : m.kind = 75) : bodyB m = numE 4 m.n ++ numE 4 m.m := by unfold bodyB; rw [if_neg (by omega), if_neg (by omega), if_pos h]
theorem bodyB_90 (h : m.kind = 90) : bodyB m = [UInt8.ofNat m.status.toNat] := by unfold bodyB; rw [if_neg (by omega), if_neg (by omega), if_neg (by omega), if_pos h]
theorem bodyB_67 (h : m.kind = 67) : bodyB m = textsL [m.tag] := by unfold bodyB; rw [if_neg (by omega), if_neg (by omega), if_neg (by omega), if_neg (by omega), if_pos h]
theorem bodyB_68 (h : m.kind = 68) : bodyB m = listL cellE m.row := by unfold bodyB; rw [if_neg (by omega), if_neg (by omega), if_neg (by omega), if_neg (by omega), if_neg (by omega), if_pos h]
theorem bodyB_84 (h : m.kind = 84) : bodyB m = listL colE m.cols := by unfold bodyB; rw [if_neg (by omega), if_neg (by omega), if_neg (by omega), if_neg (by omega), if_neg (by omega), if_neg (by omega), if_pos h]
theorem bodyB_116 (h : m.kind = 116) : bodyB m = listL (numE 4) m.oids := by unfold bodyB; rw [if_neg (by omega), if_neg (by omega), if_neg (by omega), if_neg (by omega), if_neg (by omega), if_neg (by omega), if_neg (by omega), if_pos h]
theorem bodyB_fld (h : m.kind = 69 ∨ m.kind = 78) : bodyB m = fieldsE m.fields := by unfold bodyB; rw [if_neg (by omega), if_neg (by omega), if_neg (by omega), if_neg (by omega), if_neg (by omega), if_neg (by omega), if_neg (by omega), if_neg (by omega), if_pos h]
theorem bodyB_no (h : m.kind = 49 ∨ m.kind = 50 ∨ m.kind = 51 ∨ m.kind = 110 ∨ m.kind = 115 ∨ m.kind = 73) : bodyB m = [] := by unfold bodyB; rw [if_neg (by omega), if_neg (by omega), if_neg (by omega), if_neg (by omega), if_neg (by omega), if_neg (by omega), if_neg (by omega), if_neg (by omega), if_neg (by omega)]
theorem saidB_83 (h : m.kind = 83) : saidB m = ⟨83, 0, [], m.name, m.value, 0, 0, [], [], [], []⟩ := by unfold saidB; rw [if_pos h]
theorem saidB_75 (h : m.kind = 75) : saidB m = ⟨75, 0, [], [], [], m.n, m.m, [], [], [], []⟩ := by unfold saidB; rw [if_neg (by omega), if_pos h]
theorem saidB_90 (h : m.kind = 90) : saidB m = ⟨90, m.status, [], [], [], 0, 0, [], [], [], []⟩ := by unfold saidB; rw [if_neg (by omega), if_neg (by omega), if_pos h]
theorem saidB_67 (h : m.kind = 67) : saidB m = ⟨67, 0, m.tag, [], [], 0, 0, [], [], [], []⟩ := by unfold saidB; rw [if_neg (by omega), if_neg (by omega), if_neg (by omega), if_pos h]
theorem saidB_68 (h : m.kind = 68) : saidB m = ⟨68, 0, [], [], [], 0, 0, [], [], m.row, []⟩ := by unfold saidB; rw [if_neg (by omega), if_neg (by omega), if_neg (by omega), if_neg (by omega), if_pos h]
theorem saidB_84 (h : m.kind = 84) : saidB m = ⟨84, 0, [], [], [], 0, 0, [], m.cols, [], []⟩ := by unfold saidB; rw [if_neg (by omega), if_neg (by omega), if_neg (by omega), if_neg (by omega), if_neg (by omega), if_pos h]
theorem saidB_116 (h : m.kind = 116) : saidB m = ⟨116, 0, [], [], [], 0, 0, m.oids, [], [], []⟩ := by unfold saidB; rw [if_neg (by omega), if_neg (by omega), if_neg (by omega), if_neg (by omega), if_neg (by omega), if_neg (by omega), if_pos h]
theorem saidB_fld (h : m.kind = 69 ∨ m.kind = 78) : saidB m = ⟨m.kind, 0, [], [], [], 0, 0, [], [], [], m.fields⟩ := by
  unfold saidB; rw [if_neg (by omega), if_neg (by omega), if_neg (by omega), if_neg (by omega), if_neg (by omega), if_neg (by omega), if_neg (by omega)]
  rcases h with h | h
  · rw [if_pos h, h]
  · rw [if_neg (by omega), if_pos h, h]
theorem saidB_no (h : m.kind = 82 ∨ m.kind = 49 ∨ m.kind = 50 ∨ m.kind = 51 ∨ m.kind = 110 ∨ m.kind = 115 ∨ m.kind = 73) : saidB m = ⟨m.kind, 0, [], [], [], 0, 0, [], [], [], []⟩ := by
  unfold saidB; rw [if_neg (by omega), if_neg (by omega), if_neg (by omega), if_neg (by omega), if_neg (by omega), if_neg (by omega), if_neg (by omega), if_neg (by omega), if_neg (by omega)]
end
theorem fields_count : ∀ l : List Fi, l.length + 1 ≤ (fieldsE l).length
  | [] => by simp [fieldsE]
  | f :: l => by
    have := fields_count l
    unfold fieldsE at *
    rw [List.flatMap_cons, List.append_assoc, List.length_append, List.length_cons]
    have : 1 ≤ (fieldE f).length := by unfold fieldE; rw [List.length_cons]; omega
    omega
theorem uns4s_there : There (numE 4) (numV · 4) (numS · 4) (fun n => unsB 4 n = true) := fun n r hn => uns4_there r hn
theorem uns4s_back : Back (numE 4) (numV · 4) (numS · 4) (fun n => unsB 4 n = true) := ⟨rfl, fun xs r h => by
  obtain ⟨a, b, c⟩ := nums_four h
  exact ⟨a, uns4_of b c⟩⟩
theorem app_nil' (l : List UInt8) : l = l ++ [] := (List.append_nil l).symm
/-- A message is read from its bytes. -/
theorem read_thereB {m : Bk} (h : checkB m = 0) (hf : ∀ f ∈ m.fields, FiOk f) : readB m.kind (some (bodyB m)) = (m, true) ∧ readBS m.kind (some (bodyB m)) = some [] := by
  obtain ⟨hk, hst, hl, hc, hn, hs⟩ := check_okB h
  obtain ⟨⟨l1, l2, l3, l4⟩, u1, u2, u3, u4⟩ := lists_ok hl
  simp only [bcleanB, Bool.and_eq_true] at hc
  obtain ⟨c1, c2, c3⟩ := hc
  simp only [bnumB, Bool.and_eq_true] at hn
  obtain ⟨n1, n2⟩ := hn
  rcases kinds_of hk with e | e | e | e | e | e | e | e | e | e
  · rw [saidB_no (.inl e)] at hs
    obtain ⟨a, b⟩ := uns4_there (n := 0) [] rfl
    rw [← app_nil'] at a b
    obtain ⟨r1, r2⟩ := readB_82 (some (bodyB m))
    rw [e] at hs ⊢
    rw [r1, r2, bodyB_82 e, a, b]
    exact ⟨by rw [hs]; rfl, rfl⟩
  · rw [saidB_83 e] at hs
    have hb : bodyB m = He.encT m.name ++ (He.encT m.value ++ []) := by rw [bodyB_83 e]; simp [textsL]
    obtain ⟨a1, b1⟩ := He.text_enc (He.encT m.value ++ []) c2
    obtain ⟨a2, b2⟩ := He.text_enc [] c3
    obtain ⟨r1, r2⟩ := readB_83 (some (bodyB m))
    rw [e, r1, r2, hb, b1, a1, a2, b2]
    exact ⟨by rw [← hs], rfl⟩
  · rw [saidB_75 e] at hs
    have hb : bodyB m = numE 4 m.n ++ (numE 4 m.m ++ []) := by rw [bodyB_75 e, List.append_nil]
    obtain ⟨a1, b1⟩ := uns4_there (numE 4 m.m ++ []) n1
    obtain ⟨a2, b2⟩ := uns4_there [] n2
    obtain ⟨r1, r2⟩ := readB_75 (some (bodyB m))
    rw [e, r1, r2, hb, b1, a1, a2, b2]
    exact ⟨by rw [← hs], rfl⟩
  · rw [saidB_90 e] at hs
    have hz : statB m.status = true := by simpa [rstatB, e] using hst
    have h0 : 0 ≤ m.status ∧ m.status < 256 := by
      simp [statB] at hz; omega
    obtain ⟨a1, b1⟩ := one_there (n := m.status) [] h0.1 h0.2
    rw [← app_nil', numE_one h0.1 h0.2] at a1 b1
    obtain ⟨r1, r2⟩ := readB_90 (some (bodyB m))
    rw [e, r1, r2, bodyB_90 e, a1, b1, hz]
    exact ⟨by rw [← hs], rfl⟩
  · rw [saidB_67 e] at hs
    have hb : bodyB m = He.encT m.tag ++ [] := by rw [bodyB_67 e, textsL_one, List.append_nil]
    obtain ⟨a1, b1⟩ := He.text_enc [] c1
    obtain ⟨r1, r2⟩ := readB_67 (some (bodyB m))
    rw [e, r1, r2, hb, a1, b1]
    exact ⟨by rw [← hs], rfl⟩
  · rw [saidB_68 e] at hs
    obtain ⟨a1, b1⟩ := list_there cells_there m.row [] (by omega) u2
    rw [← app_nil'] at a1 b1
    obtain ⟨r1, r2⟩ := readB_68 (some (bodyB m))
    rw [e, r1, r2, bodyB_68 e]
    simp only [cellsV, cellsS]
    rw [a1, b1]
    exact ⟨by rw [← hs], rfl⟩
  · rw [saidB_84 e] at hs
    obtain ⟨a1, b1⟩ := list_there cols_there m.cols [] (by omega) u3
    rw [← app_nil'] at a1 b1
    obtain ⟨r1, r2⟩ := readB_84 (some (bodyB m))
    rw [e, r1, r2, bodyB_84 e, a1, b1]
    exact ⟨by rw [← hs], rfl⟩
  · rw [saidB_116 e] at hs
    obtain ⟨a1, b1⟩ := list_there uns4s_there m.oids [] (by omega) u1
    rw [← app_nil'] at a1 b1
    obtain ⟨r1, r2⟩ := readB_116 (some (bodyB m))
    rw [e, r1, r2, bodyB_116 e]
    simp only [numbersV, numbersS]
    rw [a1, b1]
    exact ⟨by rw [← hs], rfl⟩
  · rw [saidB_fld e] at hs
    have hcnt := fields_count m.fields
    have a := fields_there m.fields (He.lenS (some (fieldsE m.fields)) + 1) [] (by simp only [He.lenS]; omega) (fun f hf' => ⟨hf f hf', u4 f hf'⟩)
    rw [← app_nil'] at a
    obtain ⟨r1, r2⟩ := readB_fld (some (bodyB m)) e
    rw [r1, r2, bodyB_fld e]
    unfold fldV fldS
    rw [a]
    exact ⟨by rw [← hs], rfl⟩
  · rw [saidB_no (.inr e)] at hs
    obtain ⟨r1, r2⟩ := readB_no (some (bodyB m)) e
    rw [r1, r2, bodyB_no e]
    exact ⟨by rw [← hs], rfl⟩
end Go.Proofs.YthilellmckhejaaGreat.Ax
/- What is read of back's messages has just these bytes. -/
namespace Go.Proofs.YthilellmckhejaaGreat.Ax
open Go.RowKit Go By Nm Sc Dg
open He (textL)
set_option linter.unusedSimpArgs false
set_option linter.unusedVariables false

theorem lists_of {m : Bk} (l1 : m.oids.length ≤ 65535) (l2 : m.cols.length ≤ 65535) (l3 : m.row.length ≤ 65535) (l4 : m.fields.length ≤ 65535) (u1 : m.oids.all (unsB 4) = true) (u2 : m.row.all cellB = true) (u3 : m.cols.all colB = true) (u4 : m.fields.all fieldB = true) : blistsB m = true := by
  simp only [blistsB, fewB, Bool.and_eq_true, decide_eq_true_eq]
  exact ⟨⟨by omega, by omega, by omega, by omega⟩, u1, u2, u3, u4⟩
theorem clean_ofB {m : Bk} (h1 : cleanB m.tag = true) (h2 : cleanB m.name = true) (h3 : cleanB m.value = true) : bcleanB m = true := by
  simp only [bcleanB, Bool.and_eq_true]; exact ⟨h1, h2, h3⟩
/-- What memory holds of what was read. -/
def Held (m : Bk) : Prop := BkFit m ∧ BkOk m
theorem held_of {m : Bk} (l1 : m.oids.length ≤ 65535) (l2 : m.cols.length ≤ 65535) (l3 : m.row.length ≤ 65535) (l4 : m.fields.length ≤ 65535) (h0 : 0 ≤ m.status) (h1 : m.status < 256) (hr : ∀ c ∈ m.row, c.2.length ≤ 65535) (hc : ∀ c ∈ m.cols, c.name.length ≤ 65535) (hf : ∀ f ∈ m.fields, FiOk f) : Held m :=
  ⟨⟨by omega, by omega, by omega, by omega, fun c h => by have := hr c h; omega⟩, ⟨h0, h1⟩, fun c h => by have := hr c h; omega, fun c h => by have := hc c h; omega, hf⟩
theorem none_of {α : Type} {p : α → Prop} : ∀ x ∈ ([] : List α), p x := fun x h => by cases h
theorem colE_name (c : Co) : c.name.length ≤ (colE c).length := by
  unfold colE
  rw [List.length_append, textsL_one]
  have : (He.encT c.name).length = c.name.length + 1 := by simp [He.encT]
  omega
theorem col_name {l : List Co} {c : Co} (h : c ∈ l) : c.name.length ≤ (listL colE l).length := by
  have := mem_flat colE h
  rw [listL_eq, List.length_append]
  have := colE_name c
  omega
theorem cell_text {l : List Cl} {c : Cl} (h : c ∈ l) (hk : CellOk c) : c.2.length ≤ (listL cellE l).length := by
  have h1 := mem_flat cellE h
  rw [listL_eq, List.length_append]
  rcases hk with ⟨_, h2⟩ | ⟨h2, h3⟩
  · rw [h2]; exact Nat.zero_le _
  · obtain ⟨n, b⟩ := c
    have h2' : n = false := h2
    subst h2'
    rw [cellE_bytes, List.length_append] at h1
    show b.length ≤ _
    omega
theorem text_le {xs r : List UInt8} (h : xs = He.encT (textL (some xs)) ++ r) : (textL (some xs)).length ≤ xs.length := by
  have := congrArg List.length h
  simp only [List.length_append, He.encT] at this
  omega
theorem read_backB {k : Int} (hk : kindB k = true) {xs : List UInt8} (hx : xs.length ≤ 65535) (h : readBS k (some xs) = some []) (hw : (readB k (some xs)).2 = true) : bodyB (readB k (some xs)).1 = xs ∧ checkB (readB k (some xs)).1 = 0 ∧ Held (readB k (some xs)).1 := by
  rcases kinds_of hk with rfl | rfl | rfl | rfl | rfl | rfl | rfl | rfl | e | e
  · obtain ⟨r1, r2⟩ := readB_82 (some xs)
    rw [r2] at h
    rw [r1] at hw ⊢
    obtain ⟨a, _, _⟩ := nums_four h
    have hz : numV (some xs) 4 = 0 := by simpa using hw
    rw [hz, List.append_nil] at a
    refine ⟨?_, rfl, held_of (by simp) (by simp) (by simp) (by simp) (by simp) (by simp) none_of none_of none_of⟩
    rw [bodyB_82 rfl]; exact a.symm
  · obtain ⟨r1, r2⟩ := readB_83 (some xs)
    rw [r2] at h
    rw [r1]
    obtain ⟨ys, e1⟩ := some_of (f := textS) rfl h
    rw [e1] at h ⊢
    obtain ⟨b1, c1⟩ := He.text_back e1
    obtain ⟨b2, c2⟩ := He.text_back h
    refine ⟨?_, check_ofB rfl rfl rfl (clean_ofB clean_nil c1 c2) rfl rfl, held_of (by simp) (by simp) (by simp) (by simp) (by simp) (by simp) none_of none_of none_of⟩
    rw [bodyB_83 rfl]
    have : textsL [textL (some xs), textL (some ys)] = He.encT (textL (some xs)) ++ (He.encT (textL (some ys)) ++ []) := by simp [textsL]
    simp only
    rw [this, ← b2, ← b1]
  · obtain ⟨r1, r2⟩ := readB_75 (some xs)
    rw [r2] at h
    rw [r1]
    obtain ⟨ys, e1⟩ := some_num h
    rw [e1] at h ⊢
    obtain ⟨b1, l1, u1⟩ := nums_four e1
    obtain ⟨b2, l2, u2⟩ := nums_four h
    refine ⟨?_, check_ofB rfl rfl rfl rfl ?_ rfl, held_of (by simp) (by simp) (by simp) (by simp) (by simp) (by simp) none_of none_of none_of⟩
    · rw [bodyB_75 rfl]
      simp only
      rw [List.append_nil] at b2
      rw [← b2, ← b1]
    · simp only [bnumB, Bool.and_eq_true]
      exact ⟨uns4_of l1 u1, uns4_of l2 u2⟩
  · obtain ⟨r1, r2⟩ := readB_90 (some xs)
    rw [r2] at h
    rw [r1] at hw ⊢
    obtain ⟨b1, l1, u1⟩ := nums_one h
    rw [numE_one l1 u1, List.append_nil] at b1
    refine ⟨?_, check_ofB rfl ?_ rfl rfl rfl rfl, held_of (by simp) (by simp) (by simp) (by simp) l1 u1 none_of none_of none_of⟩
    · rw [bodyB_90 rfl]; exact b1.symm
    · have hw' : statB (numV (some xs) 1) = true := hw
      simp only [rstatB]
      rw [hw']; rfl
  · obtain ⟨r1, r2⟩ := readB_67 (some xs)
    rw [r2] at h
    rw [r1]
    obtain ⟨b1, c1⟩ := He.text_back h
    refine ⟨?_, check_ofB rfl rfl rfl (clean_ofB c1 clean_nil clean_nil) rfl rfl, held_of (by simp) (by simp) (by simp) (by simp) (by simp) (by simp) none_of none_of none_of⟩
    rw [bodyB_67 rfl, textsL_one]
    rw [List.append_nil] at b1
    exact b1.symm
  · obtain ⟨r1, r2⟩ := readB_68 (some xs)
    rw [r2] at h
    rw [r1]
    obtain ⟨b, o, l⟩ := list_back cells_back xs [] h
    rw [List.append_nil] at b
    have b' : xs = listL cellE (cellsV (some xs)) := b
    have l' : (cellsV (some xs)).length < 65536 := l
    have o' : ∀ c ∈ cellsV (some xs), CellOk c := o
    have hn : (listL cellE (cellsV (some xs))).length ≤ 65535 := by rw [← b']; exact hx
    refine ⟨?_, check_ofB rfl rfl (lists_of (by simp) (by simp) (by simp only; omega) (by simp) rfl (cells_ok o' hn (by omega)) rfl rfl) rfl rfl rfl, held_of (by simp) (by simp) (by simp only; omega) (by simp) (by simp) (by simp) (fun c hc => Nat.le_trans (cell_text hc (o' c hc)) hn) none_of none_of⟩
    rw [bodyB_68 rfl]; exact b'.symm
  · obtain ⟨r1, r2⟩ := readB_84 (some xs)
    rw [r2] at h
    rw [r1]
    obtain ⟨b, o, l⟩ := list_back cols_back xs [] h
    rw [List.append_nil] at b
    have hn : (listL colE (listV colV colS (some xs))).length ≤ 65535 := by rw [← b]; exact hx
    refine ⟨?_, check_ofB rfl rfl (lists_of (by simp) (by simp only; omega) (by simp) (by simp) rfl rfl (List.all_eq_true.2 o) rfl) rfl rfl rfl, held_of (by simp) (by simp only; omega) (by simp) (by simp) (by simp) (by simp) none_of (fun c hc => Nat.le_trans (col_name hc) hn) none_of⟩
    rw [bodyB_84 rfl]; exact b.symm
  · obtain ⟨r1, r2⟩ := readB_116 (some xs)
    rw [r2] at h
    rw [r1]
    obtain ⟨b, o, l⟩ := list_back uns4s_back xs [] h
    rw [List.append_nil] at b
    have b' : xs = listL (numE 4) (numbersV 4 (some xs)) := b
    have l' : (numbersV 4 (some xs)).length < 65536 := l
    have o' : ∀ n ∈ numbersV 4 (some xs), unsB 4 n = true := o
    refine ⟨?_, check_ofB rfl rfl (lists_of (by simp only; omega) (by simp) (by simp) (by simp) (List.all_eq_true.2 o') rfl rfl rfl) rfl rfl rfl, held_of (by simp only; omega) (by simp) (by simp) (by simp) (by simp) (by simp) none_of none_of none_of⟩
    rw [bodyB_116 rfl]; exact b'.symm
  · obtain ⟨r1, r2⟩ := readB_fld (some xs) e
    rw [r2] at h
    rw [r1]
    have hp : fldR (He.lenS (some xs) + 1) (some xs) = (fldV (some xs), some []) := by
      unfold fldS at h
      unfold fldV
      rw [← h]
    obtain ⟨b, o⟩ := fields_back _ xs [] _ (by simp only [He.lenS]; omega) hp
    rw [List.append_nil] at b
    have hcnt := fields_count (fldV (some xs))
    rw [← b] at hcnt
    refine ⟨?_, check_ofB ?_ ?_ (lists_of (by simp) (by simp) (by simp) (by simp only; omega) rfl rfl rfl (List.all_eq_true.2 fun f hf => (o f hf).2)) rfl rfl ?_, held_of (by simp) (by simp) (by simp) (by simp only; omega) (by simp) (by simp) none_of none_of (fun f hf => (o f hf).1)⟩
    · rw [bodyB_fld e]; exact b.symm
    · exact hk
    · rcases e with rfl | rfl <;> rfl
    · rw [saidB_fld e]
  · obtain ⟨r1, r2⟩ := readB_no (some xs) e
    rw [r2] at h
    rw [r1]
    have hxs : xs = [] := by injection h
    refine ⟨?_, check_ofB hk ?_ rfl rfl rfl ?_, held_of (by simp) (by simp) (by simp) (by simp) (by simp) (by simp) none_of none_of none_of⟩
    · rw [bodyB_no e]; exact hxs.symm
    · rcases e with rfl | rfl | rfl | rfl | rfl | rfl <;> rfl
    · rw [saidB_no (.inr e)]
/-! ### Messages -/
theorem decB_ok {m : Ms} (hk : kindB m.type = true) (h1 : (readB m.type (some m.body)).2 = true) (h2 : doneB (readBS m.type (some m.body)) = true) : decB m = ((readB m.type (some m.body)).1, 0) := by
  unfold decB; rw [if_neg (by simp [hk]), h1, h2]; rfl
theorem dec_enc {m : Bk} (h : checkB m = 0) (hf : ∀ f ∈ m.fields, FiOk f) : decB (encB m).1 = (m, 0) := by
  obtain ⟨a, b⟩ := read_thereB h hf
  rw [encB_ok h]
  simp only
  rw [decB_ok (m := ⟨m.kind, bodyB m⟩) (checkB_kind h) (by simp only; rw [a]) (by simp only; rw [b]; rfl)]
  simp only
  rw [a]
theorem decB_parts {x : Ms} (h : (decB x).2 = 0) : kindB x.type = true ∧ (readB x.type (some x.body)).2 = true ∧ readBS x.type (some x.body) = some [] ∧ decB x = ((readB x.type (some x.body)).1, 0) := by
  unfold decB at h
  split at h
  · cases h
  · rename_i hk
    split at h
    · rename_i hc
      simp only [Bool.and_eq_true] at hc
      have hk' : kindB x.type = true := by simpa using hk
      exact ⟨hk', hc.1, done_nil hc.2, decB_ok hk' hc.1 hc.2⟩
    · cases h
theorem readB_kind (k : Int) (st : Sta) : (readB k st).1.kind = k := by
  unfold readB
  repeat' split
  all_goals first | rfl | (rename_i h; exact h.symm)
theorem enc_dec {x : Ms} (h : (decB x).2 = 0) (hx : x.body.length ≤ 65535) : encB (decB x).1 = (x, 0) ∧ Held (decB x).1 := by
  obtain ⟨hk, h1, h2, e⟩ := decB_parts h
  obtain ⟨a, b, c⟩ := read_backB hk hx h2 h1
  rw [e]
  simp only
  rw [encB_ok b, a, readB_kind]
  exact ⟨rfl, c⟩
theorem decB_no {x : Ms} (h : (decB x).2 ≠ 0) : (decB x).1 = noBk := by
  unfold decB at *
  split at h
  · rw [if_pos ‹_›]
  · rw [if_neg ‹_›]
    split at h
    · exact absurd rfl h
    · rw [if_neg ‹_›]
end Go.Proofs.YthilellmckhejaaGreat.Ax
/- The statements of layer 7 (back) as contracts. -/
namespace Go.Proofs.YthilellmckhejaaGreat.Ax
open Go.RowKit Go By Nm Sc Dg
open He (textL)
set_option linter.unusedSimpArgs false
set_option linter.unusedVariables false
set_option maxRecDepth 10000

/-! ### Messages that are short enough -/
def manyB (m : Bk) : Bool := decide (50 < (m.oids.length : Int)) || (decide (50 < (m.cols.length : Int)) || (decide (50 < (m.row.length : Int)) || decide (50 < (m.fields.length : Int))))
def longCo (c : Co) : Bool := decide (300 < (c.name.length : Int))
def longFi (c : Fi) : Bool := decide (1000 < (c.text.length : Int))
def longB (m : Bk) : Bool := m.cols.any longCo || (m.row.any longC || m.fields.any longFi)
def plainB (m : Bk) : Bool := !manyB m && (!longB m && (decide ((m.tag.length : Int) ≤ 300) && (decide ((m.name.length : Int) ≤ 300) && decide ((m.value.length : Int) ≤ 300))))
theorem bplain1_c (c : Co) (h : List (List AV)) : Contract Tryz.prog 34 [.agg (coC c)] h (.v (.bool (longCo c))) h [] := by
  refine contract_of k34 mixed (by simp [c34]) fun hh hargs => ?_
  simp [c34, hh, longCo]
theorem bplain2_c (c : Cl) (h : List (List AV)) : Contract Tryz.prog 36 [.agg (cellC c)] h (.v (.bool (longC c))) h [] := by
  refine contract_of k36 mixed (by simp [c36]) fun hh hargs => ?_
  simp [c36, hh, longC]
theorem bplain3_c (c : Fi) (h : List (List AV)) : Contract Tryz.prog 38 [.agg (fiC c)] h (.v (.bool (longFi c))) h [] := by
  refine contract_of k38 mixed (by simp [c38]) fun hh hargs => ?_
  simp [c38, hh, longFi]
theorem bplain_c (m : Bk) (h : List (List AV)) : Contract Tryz.prog 6 [.agg (bkC m)] h (.v (.bool (plainB m))) h [] := by
  refine contract_cut (XCode.cuts [false, true] c6.code) k6 rfl mixed (by simp [c6]) fun hh hargs => ?_
  have plain_no : manyB m = true → plainB m = false := fun h => by unfold plainB; rw [h]; rfl
  simp [c6]
  by_cases hm : manyB m = true
  · rw [plain_no hm]
    refine xmark ?_
    unfold manyB at hm
    by_cases h1 : 50 < (m.oids.length : Int)
    · simp [h1, hh]
    by_cases h2 : 50 < (m.cols.length : Int)
    · simp [h1, h2, hh]
    by_cases h3 : 50 < (m.row.length : Int)
    · simp [h1, h2, h3, hh]
    by_cases h4 : 50 < (m.fields.length : Int)
    · simp [h1, h2, h3, h4, hh]
    simp [h1, h2, h3, h4] at hm
  · have hm' : manyB m = false := by simpa using hm
    have hp : plainB m = (!longB m && (decide ((m.tag.length : Int) ≤ 300) && (decide ((m.name.length : Int) ≤ 300) && decide ((m.value.length : Int) ≤ 300)))) := by unfold plainB; rw [hm']; rfl
    rw [hp]
    unfold manyB at hm'
    simp only [Bool.or_eq_false_iff, decide_eq_false_iff_not] at hm'
    obtain ⟨h1, h2, h3, h4⟩ := hm'
    unfold longB
    refine xseq_cut ⟨[(1, .box h.length 0)], [], h ++ [bkC m], []⟩ ?_ ?_
    · simp [h1, h2, h3, h4, Leq, hh]
    · simp
      refine xcall_self (by simp) (containsN_any mixed k33 k76 coC longCo m.cols [] _ (by simp) (by simp) (by simp) (fun c hm => bplain1_c c _) (by omega)) ?_
      cases p1 : m.cols.any longCo with
      | true => simp [hh]
      | false =>
      simp
      refine xcall_self (by simp) (containsN_any mixed k35 k77 cellC longC m.row [] _ (by simp) (by simp) (by simp) (fun c hm => bplain2_c c _) (by omega)) ?_
      cases p2 : m.row.any longC with
      | true => simp [hh]
      | false =>
      simp
      refine xcall_self (by simp) (containsN_any mixed k37 k78 fiC longFi m.fields [] _ (by simp) (by simp) (by simp) (fun c hm => bplain3_c c _) (by omega)) ?_
      cases p3 : m.fields.any longFi with
      | true => simp [hh]
      | false =>
      simp
      by_cases p4 : (m.tag.length : Int) ≤ 300
      · by_cases p5 : (m.name.length : Int) ≤ 300
        · simp [p4, p5, hh]
        · simp [p4, p5, hh]
      · simp [p4, hh]
theorem flat_le {α : Type} (e : α → List UInt8) (K : Nat) : ∀ l : List α, (∀ x ∈ l, (e x).length ≤ K) → (l.flatMap e).length ≤ K * l.length
  | [], _ => by simp
  | x :: l, hl => by
    have h1 := flat_le e K l fun c hc => hl c (List.mem_cons_of_mem _ hc)
    have h2 := hl x (List.mem_cons_self ..)
    rw [List.flatMap_cons, List.length_append, List.length_cons, Nat.mul_add, Nat.mul_one]
    omega
theorem listL_le {α : Type} (e : α → List UInt8) (K : Nat) (l : List α) (h : ∀ x ∈ l, (e x).length ≤ K) : (listL e l).length ≤ 4 + K * l.length := by
  have h1 := flat_le e K l h
  have h2 := put_len (l.length : Int) 2 (by omega) []
  rw [listL_eq, List.length_append]
  simp only [List.length_nil] at h2
  omega
/-- Its size then. -/
theorem fit_of_plainB {m : Bk} (hs : 0 ≤ m.status ∧ m.status < 256) (hf : ∀ f ∈ m.fields, FiOk f) (h : plainB m = true) : BkFit m ∧ BkOk m ∧ (bodyB m).length ≤ 100000 := by
  unfold plainB manyB longB at h
  simp only [Bool.and_eq_true, Bool.not_eq_true', Bool.or_eq_false_iff, decide_eq_false_iff_not, decide_eq_true_eq] at h
  obtain ⟨⟨h1, h2, h3, h4⟩, ⟨h5, h6, h7⟩, h8, h9, h10⟩ := h
  have hco : ∀ c ∈ m.cols, c.name.length ≤ 300 := fun c hc => by
    have := List.any_eq_false.1 h5 c hc
    simp [longCo] at this; omega
  have hcl : ∀ c ∈ m.row, c.2.length ≤ 300 := fun c hc => by
    have := List.any_eq_false.1 h6 c hc
    simp [longC] at this; omega
  have hfi : ∀ c ∈ m.fields, c.text.length ≤ 1000 := fun c hc => by
    have := List.any_eq_false.1 h7 c hc
    simp [longFi] at this; omega
  have t : ∀ (l : List UInt8), (He.encT l).length = l.length + 1 := encT_len
  refine ⟨⟨by omega, by omega, by omega, by omega, fun c h => by have := hcl c h; omega⟩, ⟨hs, fun c h => by have := hcl c h; omega, fun c h => by have := hco c h; omega, hf⟩, ?_⟩
  have c1 := listL_le cellE 304 m.row fun c hc => by
    have h2 := hcl c hc
    obtain ⟨n, b⟩ := c
    have h2' : b.length ≤ 300 := h2
    cases n with
    | true =>
      have := put_len 4294967295 4 (by omega) []
      rw [cellE_null]; simp only [List.length_nil] at this; omega
    | false =>
      have := put_len (b.length : Int) 4 (by omega) []
      rw [cellE_bytes, List.length_append]; simp only [List.length_nil] at this; omega
  have c2 := listL_le colE 325 m.cols fun c hc => by
    have h2 := hco c hc
    have l1 := numE_len 4 c.table (by omega)
    have l2 := numE_len 2 c.attr (by omega)
    have l3 := numE_len 4 c.oid (by omega)
    have l4 := numE_len 2 c.size (by omega)
    have l5 := numE_len 4 c.mod (by omega)
    have l6 := numE_len 2 c.format (by omega)
    unfold colE
    simp only [textsL_one, List.length_append, t]
    omega
  have c3 := listL_le (numE 4) 4 m.oids fun n _ => numE_len 4 n (by omega)
  have c4 : (fieldsE m.fields).length ≤ 1002 * m.fields.length + 1 := by
    have := flat_le fieldE 1002 m.fields fun f hf => by
      have := hfi f hf
      unfold fieldE
      simp only [textsL_one, List.length_cons, t]
      omega
    unfold fieldsE
    rw [List.length_append, List.length_singleton]
    omega
  have n1 := numE_len 4 m.n (by omega)
  have n2 := numE_len 4 m.m (by omega)
  have n3 := numE_len 4 0 (by omega)
  unfold bodyB
  repeat' split
  all_goals simp only [textsL, List.flatMap_cons, List.flatMap_nil, List.length_append, List.length_cons, List.length_nil, t, List.append_nil] at *
  all_goals omega
end Go.Proofs.YthilellmckhejaaGreat.Ax
/- The statement of back there and back. -/
namespace Go.Proofs.YthilellmckhejaaGreat.Ax
open Go.RowKit Go By Nm Sc Dg
open He (textL)
set_option linter.unusedSimpArgs false
set_option linter.unusedVariables false
set_option maxRecDepth 10000

def awB : Bk := ⟨90, 73, [], [], [], 0, 0, [], [], [], []⟩
theorem awB_check : checkB awB = 0 := by decide
theorem awB_fit : BkFit awB := by unfold BkFit awB; simp
theorem awB_ok : BkOk awB := by unfold BkOk awB; simp
theorem awB_body : (bodyB awB).length ≤ 100000 := by decide
theorem awB_bytes : bytesB [awB] = [90, 0, 0, 0, 5, 73] := by decide
theorem bawake_c (h : List (List AV)) : Contract Tryz.prog 7 [] h (.v (.bool true)) h [] := by
  refine contract_of k7 mixed (by simp [c7]) fun hh hargs => ?_
  have e2 := dec_enc awB_check (by intro f hf; cases hf)
  simp [c7]
  refine xcall_of (bencode_c awB awB_fit awB_ok (Nat.le_trans awB_body (by omega)) _) (by simp [bkC_mk, awB, intC]) (by simp) ?_
  have e1 := encB_ok awB_check
  rw [e1] at e2 ⊢
  simp only at e2
  simp
  refine xcall_self (by simp) (bdecode_c ⟨awB.kind, bodyB awB⟩ (Nat.le_trans awB_body (by omega)) _) ?_
  rw [e2]
  have a1 : awB.status = 73 := rfl
  simp [a1]
  refine xcall_of (bbytes_c [awB] (by intro m hm; rw [List.mem_singleton.1 hm]; exact ⟨awB_fit, awB_ok, Nat.le_trans awB_body (by omega)⟩) (by rw [awB_bytes]; simp) (by simp) _) (by simp) (by simp) ?_
  rw [awB_bytes]
  simp
  refine xcall_of (equal_c [90, 0, 0, 0, 5, 73] [90, 0, 0, 0, 5, 73] _) (by simp) (by simp) ?_
  simp [hh]
theorem noBk_fit : BkFit noBk := by unfold BkFit noBk; simp
end Go.Proofs.YthilellmckhejaaGreat.Ax
namespace Go.Proofs.YthilellmckhejaaGreat.Ax
open Go.RowKit Go By Nm Sc Dg
set_option linter.unusedSimpArgs false
set_option linter.unusedVariables false
set_option maxRecDepth 10000

def isCode (c : Int) (f : Fi) : Bool := f.code == c
theorem ffirst1_c (f : Fi) (c : Int) (b : Nat) (h : List (List AV)) (hb : h[b]? = some [.v (.int .u8 c)]) : Contract Tryz.prog 118 [.agg (fiC f), .box b 0] h (.v (.bool (isCode c f))) h [] := by
  refine contract_of k118 mixed (by simp [c118]) fun hh hargs => ?_
  simp [c118, hh, isCode, app_get hb]
/-- Where the first field with that code stands. -/
theorem ffirst_c (l : List Fi) (c : Int) (hl : l.length ≤ 140737488355328) (h : List (List AV)) : Contract Tryz.prog 74 [.sl 2 (enc fiC l) none .no, .v (.int .u8 c)] h (.v (.int .i64 (idxI (isCode c) l))) h [] := by
  refine contract_of k74 mixed (by simp [c74]) fun hh hargs => ?_
  simp [c74]
  refine xcall_self (by simp) (indexN_any mixed k78 fiC (isCode c) l [.box h.length 0] _ (by simp) (by simp) (by simp) (fun f _ => ffirst1_c f c h.length _ (by simp)) hl) ?_
  simp [hh]
theorem ffirstB_c (l : List Fi) (c : Int) (b : Nat) (hl : l.length ≤ 140737488355328) (h : List (List AV)) (hb : h[b]? = some (enc fiC l).flatten) : Contract Tryz.prog 74 [.bsl b 0 2 l.length, .v (.int .u8 c)] h (.v (.int .i64 (idxI (isCode c) l))) h [] := by
  have hbl := heap_lt hb
  refine contract_of k74 mixed (by simp [c74]) fun hh hargs => ?_
  simp [c74]
  refine xcall_self (by simp) (indexB_any mixed k78 fiC (isCode c) l [.box h.length 0] b _ (app_get hb _) (by simp) (by simp) (by simp) (fun f _ => ffirst1_c f c h.length _ (by simp)) hl) ?_
  simp [hh]
/-- The first field with that code. -/
def getF (l : List Fi) (c : Int) : List UInt8 × Bool := match l.find? (isCode c) with | some f => (f.text, true) | none => ([], false)
theorem idx_some {l : List Fi} {c : Int} {i : Nat} (h : l.findIdx? (isCode c) = some i) : ∃ hi : i < l.length, idxI (isCode c) l = i ∧ isCode c l[i] = true ∧ ∀ j (hj : j < i), isCode c (l[j]'(by omega)) = false := by
  obtain ⟨hi, h1, h2⟩ := List.findIdx?_eq_some_iff_getElem.1 h
  exact ⟨hi, by unfold idxI; rw [h], h1, fun j hj => by simpa using h2 j hj⟩
theorem idx_none {l : List Fi} {c : Int} (h : l.findIdx? (isCode c) = none) : idxI (isCode c) l = -1 := by unfold idxI; rw [h]
theorem getF_some {l : List Fi} {c : Int} {i : Nat} (h : l.findIdx? (isCode c) = some i) (hi : i < l.length) : getF l c = (l[i].text, true) := by
  have : l.find? (isCode c) = some l[i] := by
    obtain ⟨_, h1, h2⟩ := List.findIdx?_eq_some_iff_getElem.1 h
    rw [List.find?_eq_some_iff_getElem]
    exact ⟨h1, i, hi, rfl, fun j hj => by simpa using h2 j hj⟩
  unfold getF; rw [this]
theorem getF_none {l : List Fi} {c : Int} (h : l.findIdx? (isCode c) = none) : getF l c = ([], false) := by
  have : l.find? (isCode c) = none := by
    rw [List.find?_eq_none]
    intro x hx
    rw [List.findIdx?_eq_none_iff.1 h x hx]; simp
  unfold getF; rw [this]
theorem fget_c (l : List Fi) (c : Int) (hl : l.length ≤ 140737488355328) (h : List (List AV)) : Contract Tryz.prog 21 [.sl 2 (enc fiC l) none .no, .v (.int .u8 c)] h (.tup [.v (.string (strB (getF l c).1)), .v (.bool (getF l c).2)]) h [] := by
  refine contract_of k21 mixed (by simp [c21]) fun hh hargs => ?_
  simp [c21]
  refine xcall_self (by simp) (ffirst_c l c hl _) ?_
  cases hx : l.findIdx? (isCode c) with
  | none =>
    rw [idx_none hx, getF_none hx]
    simp [hh]
  | some i =>
    obtain ⟨hi, e1, _⟩ := idx_some hx
    rw [e1, getF_some hx hi]
    have h0 : ¬ (i : Int) < 0 := by omega
    obtain ⟨cd, tx, hli⟩ : ∃ cd tx, l[i] = ⟨cd, tx⟩ := ⟨_, _, rfl⟩
    simp [hh, h0, hi, hli, fiC_mk]
/-- With another text in the first field with that code. -/
def withF (l : List Fi) (c : Int) (t : List UInt8) : List Fi := match l.findIdx? (isCode c) with | some i => l.set i ⟨c, t⟩ | none => l
theorem flat_set : ∀ (l : List Fi) (i : Nat) (hi : i < l.length) (t : List UInt8), (enc fiC l).flatten.set (i * 2 + 1) (.v (.string (strB t))) = (enc fiC (l.set i ⟨l[i].code, t⟩)).flatten
  | x :: l, 0, _, t => by simp [fiC]
  | x :: l, i + 1, hi, t => by
    have hi' : i < l.length := by simpa using hi
    have ih := flat_set l i hi' t
    rw [List.set_cons_succ, enc_cons, enc_cons, List.flatten_cons, List.flatten_cons]
    rw [List.set_append_right _ _ (by simp; omega), show (i + 1) * 2 + 1 - (fiC x).length = i * 2 + 1 by simp; omega, ih]
    rfl
theorem fwith_c (l : List Fi) (c : Int) (t : List UInt8) (hl : l.length ≤ 1000000) (h : List (List AV)) : Contract Tryz.prog 24 [.sl 2 (enc fiC l) none .no, .v (.int .u8 c), .v (.string (strB t))] h (.sl 2 (enc fiC (withF l c t)) none .no) h [] := by
  by_cases hne : l = []
  · subst hne
    refine contract_of k24 mixed (by simp [c24]) fun hh hargs => ?_
    simp [c24]
    refine xcall_self (by simp) (clone_fi0_c _) ?_
    simp
    refine xcall_of (ffirst_c [] c (by simp) _) (by simp) (by simp) ?_
    have e1 : idxI (isCode c) [] = -1 := rfl
    have e2 : withF [] c t = [] := rfl
    rw [e1, e2]
    simp [hh]
  refine contract_cut (XCode.cuts [false, false, false, true] c24.code) k24 rfl mixed (by simp [c24]) fun hh hargs => ?_
  have hflat : (enc fiC l).flatten ≠ [] := fun e => hne (by
    have := flat_len2 (c := fiC) (k := 2) (by simp) l
    rw [e] at this
    exact List.eq_nil_of_length_eq_zero (by simp at this; omega))
  simp [c24]
  refine xcall_self (by simp) (clone_fi_c l hne (by omega) _) ?_
  simp
  refine xcall_self (by simp) (ffirstB_c l c h.length (by omega) _ (by simp)) ?_
  cases hx : l.findIdx? (isCode c) with
  | none =>
    rw [idx_none hx]
    have e : withF l c t = l := by unfold withF; rw [hx]
    rw [e]
    simp
    refine xseq_frz h.length (enc fiC l).flatten ⟨[(6, .sl 2 (enc fiC l) none .no)], [], h, []⟩ (Nat.le_refl _) hflat ?_ ?_
    · have hz := frz_all (c := fiC) (k := 2) (by simp) l h.length l.length rfl
      generalize (enc fiC l).flatten = F at *
      simp [Leq, hh, hz]
    · simp [hh]
  | some i =>
    obtain ⟨hi, e1, e2, _⟩ := idx_some hx
    rw [e1]
    have e : withF l c t = l.set i ⟨c, t⟩ := by unfold withF; rw [hx]
    have hci : l[i].code = c := by simpa [isCode] using e2
    have hset := flat_set l i hi t
    rw [hci] at hset
    have hfit := flat_fit (c := fiC) (k := 2) (by simp) l hi
    have hz := frz_all (c := fiC) (k := 2) (by simp) (l.set i ⟨c, t⟩) h.length l.length (by simp)
    have hflat2 : (enc fiC (l.set i ⟨c, t⟩)).flatten ≠ [] := by rw [← hset]; simpa using hflat
    rw [e]
    generalize (enc fiC (l.set i ⟨c, t⟩)).flatten = F2 at *
    generalize (enc fiC l).flatten = F at *
    have h0 : (0 : Int) ≤ i := by omega
    have hlt : i * 2 + 1 + 1 ≤ F.length := by omega
    simp [h0, hi, hlt, hset]
    refine xseq_frz h.length F2 ⟨[(6, .sl 2 (enc fiC (l.set i ⟨c, t⟩)) none .no)], [], h, []⟩ (Nat.le_refl _) hflat2 ?_ ?_
    · simp [Leq, hh, hz]
    · simp [hh]

/-! ### What was put is got -/
theorem with_cons (x : Fi) (l : List Fi) (c : Int) (t : List UInt8) : withF (x :: l) c t = if isCode c x = true then ⟨c, t⟩ :: l else x :: withF l c t := by
  unfold withF
  rw [List.findIdx?_cons]
  by_cases h : isCode c x = true
  · rw [if_pos h, if_pos h]; rfl
  · rw [if_neg h, if_neg h]
    cases hx : l.findIdx? (isCode c) <;> simp
theorem get_cons (x : Fi) (l : List Fi) (c : Int) : getF (x :: l) c = if isCode c x = true then (x.text, true) else getF l c := by
  unfold getF
  rw [List.find?_cons]
  by_cases h : isCode c x = true
  · rw [if_pos h, h]
  · have h' : isCode c x = false := by simpa using h
    rw [if_neg h, h']
theorem with_len (c : Int) (t : List UInt8) : ∀ l : List Fi, (withF l c t).length = l.length
  | [] => rfl
  | x :: l => by
    rw [with_cons]
    split
    · rfl
    · rw [List.length_cons, with_len c t l, List.length_cons]
theorem get_with (c : Int) (t : List UInt8) : ∀ l : List Fi, getF (withF l c t) c = if (getF l c).2 = true then (t, true) else ([], false)
  | [] => rfl
  | x :: l => by
    rw [with_cons, get_cons]
    by_cases h : isCode c x = true
    · rw [if_pos h, if_pos h, get_cons]
      have : isCode c ⟨c, t⟩ = true := by simp [isCode]
      rw [if_pos this]; rfl
    · rw [if_neg h, if_neg h, get_cons, if_neg h, get_with c t l]
theorem get_other (c o : Int) (ho : o ≠ c) (t : List UInt8) : ∀ l : List Fi, getF (withF l c t) o = getF l o
  | [] => rfl
  | x :: l => by
    rw [with_cons]
    by_cases h : isCode c x = true
    · rw [if_pos h, get_cons, get_cons]
      have hx : x.code = c := by simpa [isCode] using h
      have h1 : ¬ isCode o ⟨c, t⟩ = true := by simp [isCode]; omega
      have h2 : ¬ isCode o x = true := by simp [isCode, hx]; omega
      rw [if_neg h1, if_neg h2]
    · rw [if_neg h, get_cons, get_cons, get_other c o ho t l]
theorem get_no (c : Int) : ∀ l : List Fi, (getF l c).2 = false → getF l c = ([], false)
  | [], _ => rfl
  | x :: l, h => by
    rw [get_cons] at h ⊢
    split at h
    · cases h
    · rename_i hx; rw [if_neg hx]; exact get_no c l h

/-! ### A fault -/
def makeF (sev code text : List UInt8) : List Fi := [⟨83, sev⟩, ⟨86, sev⟩, ⟨67, code⟩, ⟨77, text⟩]
def toldF (sev code text : List UInt8) : Bk := ⟨69, 0, [], [], [], 0, 0, [], [], [], makeF sev code text⟩
theorem fmake_c (sev code text : List UInt8) (h : List (List AV)) : Contract Tryz.prog 27 [.v (.string (strB sev)), .v (.string (strB code)), .v (.string (strB text))] h (.sl 2 (enc fiC (makeF sev code text)) none .no) h [] := by
  refine contract_of k27 mixed (by simp [c27]) fun hh hargs => ?_
  simp [c27, hh, makeF, fiC_mk]
theorem ftold_c (sev code text : List UInt8) (h : List (List AV)) : Contract Tryz.prog 75 [.v (.string (strB sev)), .v (.string (strB code)), .v (.string (strB text))] h (.agg (bkC (toldF sev code text))) h [] := by
  refine contract_of k75 mixed (by simp [c75]) fun hh hargs => ?_
  simp [c75]
  refine xcall_self (by simp) (fmake_c _ _ _ _) ?_
  simp [hh, toldF, bkC_mk]
theorem told_fit (sev code text : List UInt8) (h1 : sev.length ≤ 1000) (h2 : code.length ≤ 1000) (h3 : text.length ≤ 1000) : BkFit (toldF sev code text) ∧ BkOk (toldF sev code text) ∧ (bodyB (toldF sev code text)).length ≤ 100000 := by
  refine ⟨⟨by simp [toldF], by simp [toldF], by simp [toldF], by simp [toldF, makeF], by simp [toldF]⟩, ⟨by simp [toldF], by simp [toldF], by simp [toldF], by simp [toldF, makeF]⟩, ?_⟩
  have e : bodyB (toldF sev code text) = fieldsE (makeF sev code text) := rfl
  rw [e]
  simp [fieldsE, makeF, fieldE, textsL, He.encT]
  omega
theorem ffatal_c (code text : List UInt8) (h2 : code.length ≤ 1000) (h3 : text.length ≤ 1000) (h : List (List AV)) : Contract Tryz.prog 29 [.v (.string (strB code)), .v (.string (strB text))] h (.sl 1 (bytesE (bytesB [toldF [70, 65, 84, 65, 76] code text])) none (.own .res)) h [] := by
  obtain ⟨f1, f2, f3⟩ := told_fit [70, 65, 84, 65, 76] code text (by simp) h2 h3
  have hb : (bytesB [toldF [70, 65, 84, 65, 76] code text]).length ≤ 200000 := by
    unfold bytesB
    rw [List.flatMap_cons, List.flatMap_nil, List.append_nil]
    unfold oneB
    split
    · have := numE_len 4 (((bodyB (toldF [70, 65, 84, 65, 76] code text)).length : Int) + 4) (by omega)
      rw [List.length_cons, List.length_append]; omega
    · simp
  have B := fun h => bbytes_c [toldF [70, 65, 84, 65, 76] code text] (by intro m hm; rw [List.mem_singleton.1 hm]; exact ⟨f1, f2, by omega⟩) (by omega) (by simp) h
  refine contract_of k29 mixed (by simp [c29]) fun hh hargs => ?_
  simp [c29]
  refine xcall_self (by simp) (ftold_c _ _ _ _) ?_
  simp
  refine xcall_of (B _) (by simp) (by simp) ?_
  simp [hh]
theorem aw_fatal : 10 < (bytesB [toldF [70, 65, 84, 65, 76] [48, 56, 80, 48, 49] [121]]).length := by decide +kernel
theorem aw_get : getF (makeF [69, 82, 82, 79, 82] [52, 50, 54, 48, 49] [120]) 67 = ([52, 50, 54, 48, 49], true) := by decide +kernel
theorem fawake_c (h : List (List AV)) : Contract Tryz.prog 20 [] h (.v (.bool true)) h [] := by
  have hf : (10 : Int) < (bytesB [toldF [70, 65, 84, 65, 76] [48, 56, 80, 48, 49] [121]]).length := by have := aw_fatal; omega
  refine contract_of k20 mixed (by simp [c20]) fun hh hargs => ?_
  simp [c20]
  refine xcall_self (by simp) (fmake_c _ _ _ _) ?_
  simp
  refine xcall_self (by simp) (fget_c _ _ (by simp [makeF]) _) ?_
  rw [aw_get]
  simp
  refine xcall_self (by simp) (ffatal_c _ _ (by simp) (by simp) _) ?_
  generalize bytesB [toldF [70, 65, 84, 65, 76] [48, 56, 80, 48, 49] [121]] = X at *
  simp [hh, hf]
def farF (l : List Fi) : Bool := decide (50 < (l.length : Int)) || l.any longFi
theorem ffar1_c (f : Fi) (h : List (List AV)) : Contract Tryz.prog 73 [.agg (fiC f)] h (.v (.bool (longFi f))) h [] := by
  refine contract_of k73 mixed (by simp [c73]) fun hh hargs => ?_
  simp [c73, hh, longFi]
theorem ffar_c (l : List Fi) (h : List (List AV)) : Contract Tryz.prog 19 [.sl 2 (enc fiC l) none .no] h (.v (.bool (farF l))) h [] := by
  refine contract_of k19 mixed (by simp [c19]) fun hh hargs => ?_
  unfold farF
  by_cases hl : (50 : Int) < l.length
  · simp [c19, hl, hh]
  · simp [c19, hl]
    refine xcall_self (by simp) (containsN_any mixed k37 k78 fiC longFi l [] _ (by simp) (by simp) (by simp) (fun c hm => ffar1_c c _) (by omega)) ?_
    simp [hh]
end Go.Proofs.YthilellmckhejaaGreat.Ax
