/- What is read of back's messages has just these bytes. -/
import Derived.Test.YtofkddajlgebjaaGreatQAxXr
import Derived.Test.YtofkddajlgebjaaGreatRows
import Derived.Test.YtofkddajlgebjaaGreatQAxPl
import Derived.Test.YtofkddajlgebjaaGreatQAxFm
/- The texts of functions over values without memory, as the kernel reckons them out of the program. -/
namespace Go.Proofs.YtofkddajlgebjaaGreat.Ax
open Go.RowKit Go By

def c94 : XFun := ⟨9, (.seq (.ops [⟨(some 4), (.assign (.const (.bool false))), none⟩]) (.seq (.ops [⟨(some 5), (.move (.tmp 0)), none⟩, ⟨(some 6), (.move (.tmp 1)), none⟩, ⟨(some 7), (.call 123 [(.tmp 5), (.tmp 6)]), none⟩, ⟨(some 8), (.bin .geq (.tmp 7) (.const (.int .i64 0))), none⟩, ⟨(some 4), (.assign (.tmp 8)), none⟩]) .ret)), [(.move (.tmp 4))]⟩
theorem k94 : cfun Tryz.prog 94 = some c94 := by kernel_rfl
def c123 : XFun := ⟨19, (.seq (.ops [⟨(some 4), (.assign (.const (.int .i64 0))), none⟩]) (.seq (.seq (.ops [⟨(some 6), (.move (.tmp 0)), none⟩, ⟨(some 7), (.lenL (.tmp 6)), none⟩, ⟨(some 8), (.move (.const (.int .i64 0))), none⟩]) (.block 0 (.loop (.seq (.ops [⟨(some 9), (.bin .lss (.tmp 8) (.tmp 7)), none⟩]) (.seq (.cond (.tmp 9) .skip (.exit 0)) (.seq (.block 1 (.seq (.ops [⟨(some 10), (.move (.tmp 8)), none⟩, ⟨(some 5), (.assign (.tmp 10)), none⟩]) (.seq (.ops [⟨(some 11), (.move (.tmp 1)), none⟩, ⟨(some 12), (.move (.tmp 0)), none⟩, ⟨(some 13), (.move (.tmp 5)), none⟩, ⟨(some 14), (.iaddr 7 (.tmp 12) (.tmp 13)), none⟩, ⟨(some 15), (.loadN 7 (.tmp 14)), none⟩, ⟨(some 16), (.callv (.tmp 11) [(.tmp 15)]), none⟩]) (.cond (.tmp 16) (.seq (.ops [⟨(some 17), (.move (.tmp 5)), none⟩, ⟨(some 4), (.assign (.tmp 17)), none⟩]) .ret) .skip)))) (.ops [⟨(some 18), (.bin .add (.tmp 8) (.const (.int .i64 1))), none⟩, ⟨(some 8), (.move (.tmp 18)), none⟩]))))))) (.seq (.ops [⟨(some 4), (.assign (.const (.int .i64 (-1)))), none⟩]) .ret))), [(.move (.tmp 4))]⟩
theorem k123 : cfun Tryz.prog 123 = some c123 := by kernel_rfl
def c97 : XFun := ⟨9, (.seq (.ops [⟨(some 4), (.assign (.const (.bool false))), none⟩]) (.seq (.ops [⟨(some 5), (.move (.tmp 0)), none⟩, ⟨(some 6), (.move (.tmp 1)), none⟩, ⟨(some 7), (.call 125 [(.tmp 5), (.tmp 6)]), none⟩, ⟨(some 8), (.bin .geq (.tmp 7) (.const (.int .i64 0))), none⟩, ⟨(some 4), (.assign (.tmp 8)), none⟩]) .ret)), [(.move (.tmp 4))]⟩
theorem k97 : cfun Tryz.prog 97 = some c97 := by kernel_rfl
def c125 : XFun := ⟨19, (.seq (.ops [⟨(some 4), (.assign (.const (.int .i64 0))), none⟩]) (.seq (.seq (.ops [⟨(some 6), (.move (.tmp 0)), none⟩, ⟨(some 7), (.lenL (.tmp 6)), none⟩, ⟨(some 8), (.move (.const (.int .i64 0))), none⟩]) (.block 0 (.loop (.seq (.ops [⟨(some 9), (.bin .lss (.tmp 8) (.tmp 7)), none⟩]) (.seq (.cond (.tmp 9) .skip (.exit 0)) (.seq (.block 1 (.seq (.ops [⟨(some 10), (.move (.tmp 8)), none⟩, ⟨(some 5), (.assign (.tmp 10)), none⟩]) (.seq (.ops [⟨(some 11), (.move (.tmp 1)), none⟩, ⟨(some 12), (.move (.tmp 0)), none⟩, ⟨(some 13), (.move (.tmp 5)), none⟩, ⟨(some 14), (.iaddr 2 (.tmp 12) (.tmp 13)), none⟩, ⟨(some 15), (.loadN 2 (.tmp 14)), none⟩, ⟨(some 16), (.callv (.tmp 11) [(.tmp 15)]), none⟩]) (.cond (.tmp 16) (.seq (.ops [⟨(some 17), (.move (.tmp 5)), none⟩, ⟨(some 4), (.assign (.tmp 17)), none⟩]) .ret) .skip)))) (.ops [⟨(some 18), (.bin .add (.tmp 8) (.const (.int .i64 1))), none⟩, ⟨(some 8), (.move (.tmp 18)), none⟩]))))))) (.seq (.ops [⟨(some 4), (.assign (.const (.int .i64 (-1)))), none⟩]) .ret))), [(.move (.tmp 4))]⟩
theorem k125 : cfun Tryz.prog 125 = some c125 := by kernel_rfl
def c106 : XFun := ⟨26, (.seq (.ops [⟨(some 4), (.assign (.const (.bool false))), none⟩]) (.seq (.seq (.ops [⟨(some 6), (.move (.tmp 0)), none⟩, ⟨(some 7), (.lenL (.tmp 6)), none⟩, ⟨(some 8), (.move (.tmp 1)), none⟩, ⟨(some 9), (.lenL (.tmp 8)), none⟩, ⟨(some 10), (.bin .neq (.tmp 7) (.tmp 9)), none⟩]) (.cond (.tmp 10) (.seq (.ops [⟨(some 4), (.assign (.const (.bool false))), none⟩]) .ret) .skip)) (.seq (.seq (.ops [⟨(some 11), (.move (.tmp 0)), none⟩, ⟨(some 12), (.lenL (.tmp 11)), none⟩, ⟨(some 13), (.move (.const (.int .i64 0))), none⟩]) (.block 0 (.loop (.seq (.ops [⟨(some 14), (.bin .lss (.tmp 13) (.tmp 12)), none⟩]) (.seq (.cond (.tmp 14) .skip (.exit 0)) (.seq (.block 1 (.seq (.ops [⟨(some 15), (.move (.tmp 13)), none⟩, ⟨(some 5), (.assign (.tmp 15)), none⟩]) (.seq (.draws (.take ⟨(some 16), (.move (.tmp 0)), none⟩ (.take ⟨(some 17), (.move (.tmp 5)), none⟩ (.take ⟨(some 18), (.iaddr 7 (.tmp 16) (.tmp 17)), none⟩ (.take ⟨(some 19), (.loadN 7 (.tmp 18)), none⟩ (.take ⟨(some 20), (.move (.tmp 1)), none⟩ (.take ⟨(some 21), (.move (.tmp 5)), none⟩ (.take ⟨(some 22), (.iaddr 7 (.tmp 20) (.tmp 21)), none⟩ (.take ⟨(some 23), (.loadN 7 (.tmp 22)), none⟩ (.take ⟨(some 24), (.aeq true [2, 1, 1, 1, 1, 1, 1] (.tmp 19) (.tmp 23)), none⟩ .done)))))))))) (.cond (.tmp 24) (.seq (.ops [⟨(some 4), (.assign (.const (.bool false))), none⟩]) .ret) .skip)))) (.ops [⟨(some 25), (.bin .add (.tmp 13) (.const (.int .i64 1))), none⟩, ⟨(some 13), (.move (.tmp 25)), none⟩]))))))) (.seq (.ops [⟨(some 4), (.assign (.const (.bool true))), none⟩]) .ret)))), [(.move (.tmp 4))]⟩
theorem k106 : cfun Tryz.prog 106 = some c106 := by kernel_rfl
def c108 : XFun := ⟨26, (.seq (.ops [⟨(some 4), (.assign (.const (.bool false))), none⟩]) (.seq (.seq (.ops [⟨(some 6), (.move (.tmp 0)), none⟩, ⟨(some 7), (.lenL (.tmp 6)), none⟩, ⟨(some 8), (.move (.tmp 1)), none⟩, ⟨(some 9), (.lenL (.tmp 8)), none⟩, ⟨(some 10), (.bin .neq (.tmp 7) (.tmp 9)), none⟩]) (.cond (.tmp 10) (.seq (.ops [⟨(some 4), (.assign (.const (.bool false))), none⟩]) .ret) .skip)) (.seq (.seq (.ops [⟨(some 11), (.move (.tmp 0)), none⟩, ⟨(some 12), (.lenL (.tmp 11)), none⟩, ⟨(some 13), (.move (.const (.int .i64 0))), none⟩]) (.block 0 (.loop (.seq (.ops [⟨(some 14), (.bin .lss (.tmp 13) (.tmp 12)), none⟩]) (.seq (.cond (.tmp 14) .skip (.exit 0)) (.seq (.block 1 (.seq (.ops [⟨(some 15), (.move (.tmp 13)), none⟩, ⟨(some 5), (.assign (.tmp 15)), none⟩]) (.seq (.draws (.take ⟨(some 16), (.move (.tmp 0)), none⟩ (.take ⟨(some 17), (.move (.tmp 5)), none⟩ (.take ⟨(some 18), (.iaddr 2 (.tmp 16) (.tmp 17)), none⟩ (.take ⟨(some 19), (.loadN 2 (.tmp 18)), none⟩ (.take ⟨(some 20), (.move (.tmp 1)), none⟩ (.take ⟨(some 21), (.move (.tmp 5)), none⟩ (.take ⟨(some 22), (.iaddr 2 (.tmp 20) (.tmp 21)), none⟩ (.take ⟨(some 23), (.loadN 2 (.tmp 22)), none⟩ (.take ⟨(some 24), (.aeq true [1, 2] (.tmp 19) (.tmp 23)), none⟩ .done)))))))))) (.cond (.tmp 24) (.seq (.ops [⟨(some 4), (.assign (.const (.bool false))), none⟩]) .ret) .skip)))) (.ops [⟨(some 25), (.bin .add (.tmp 13) (.const (.int .i64 1))), none⟩, ⟨(some 13), (.move (.tmp 25)), none⟩]))))))) (.seq (.ops [⟨(some 4), (.assign (.const (.bool true))), none⟩]) .ret)))), [(.move (.tmp 4))]⟩
theorem k108 : cfun Tryz.prog 108 = some c108 := by kernel_rfl
def c75 : XFun := ⟨24, (.seq (.ops [⟨(some 4), (.assign (.const (.slice none 0 0))), none⟩]) (.seq (.ops [⟨(some 8), (.move (.tmp 0)), none⟩, ⟨(some 9), (.lenL (.tmp 8)), none⟩, ⟨(some 10), (.call 33 [(.const (.slice none 0 0)), (.tmp 9), (.const (.int .i64 2))]), none⟩, ⟨(some 5), (.assign (.tmp 10)), none⟩]) (.seq (.seq (.ops [⟨(some 11), (.move (.tmp 0)), none⟩, ⟨(some 12), (.lenL (.tmp 11)), none⟩, ⟨(some 13), (.move (.const (.int .i64 0))), none⟩]) (.block 0 (.loop (.seq (.ops [⟨(some 14), (.bin .lss (.tmp 13) (.tmp 12)), none⟩]) (.seq (.cond (.tmp 14) .skip (.exit 0)) (.seq (.block 1 (.seq (.ops [⟨(some 15), (.iaddr 7 (.tmp 11) (.tmp 13)), none⟩, ⟨(some 16), (.loadN 7 (.tmp 15)), none⟩, ⟨(some 7), (.alloc [(.v (.string (strB []))), (.v (.int .i64 0)), (.v (.int .i64 0)), (.v (.int .i64 0)), (.v (.int .i64 0)), (.v (.int .i64 0)), (.v (.int .i64 0))]), none⟩, ⟨none, (.store 7 (.tmp 7) (.tmp 16)), none⟩]) (.ops [⟨(some 17), (.move (.tmp 5)), none⟩, ⟨(some 18), (.move (.tmp 1)), none⟩, ⟨(some 19), (.loadN 7 (.tmp 7)), none⟩, ⟨(some 20), (.callv (.tmp 18) [(.tmp 19)]), none⟩, ⟨(some 21), (.append 1 1 (.tmp 17) (.tmp 20)), none⟩, ⟨(some 5), (.assign (.tmp 21)), none⟩]))) (.ops [⟨(some 22), (.bin .add (.tmp 13) (.const (.int .i64 1))), none⟩, ⟨(some 13), (.move (.tmp 22)), none⟩]))))))) (.seq (.ops [⟨(some 23), (.move (.tmp 5)), none⟩, ⟨(some 4), (.assign (.tmp 23)), none⟩]) .ret)))), [(.move (.tmp 4))]⟩
theorem k75 : cfun Tryz.prog 75 = some c75 := by kernel_rfl
def c32 : XFun := ⟨16, (.seq (.ops [⟨(some 1), (.box (.tmp 0)), none⟩, ⟨(some 2), (.alloc [(.v (.int .u8 0)), (.sl 0 [] (some true) .exact)]), none⟩, ⟨(some 3), (.assign (.const (.int .i64 0))), none⟩]) (.seq (.seq (.ops [⟨(some 5), (.loadN 11 (.tmp 1)), none⟩, ⟨(some 6), (.call 47 [(.tmp 5)]), none⟩, ⟨(some 4), (.assign (.tmp 6)), none⟩]) (.seq (.ops [⟨(some 7), (.move (.tmp 4)), none⟩, ⟨(some 8), (.bin .neq (.tmp 7) (.const (.int .i64 0))), none⟩]) (.cond (.tmp 8) (.seq (.ops [⟨(some 9), (.build [(.v (.int .u8 0)), (.sl 0 [] (some true) .exact)] []), none⟩, ⟨(some 10), (.move (.tmp 4)), none⟩, ⟨none, (.store 2 (.tmp 2) (.tmp 9)), none⟩, ⟨(some 3), (.assign (.tmp 10)), none⟩]) .ret) .skip))) (.seq (.draws (.take ⟨(some 11), (.faddr 0 (.tmp 1)), none⟩ (.take ⟨(some 12), (.load1 (.tmp 11)), none⟩ (.take ⟨(some 13), (.loadN 11 (.tmp 1)), none⟩ (.only ⟨(some 14), (.call 48 [(.tmp 13)]), none⟩ (.take ⟨(some 15), (.build [(.v (.int .u8 0)), (.sl 0 [] (some true) .exact)] [(0, (1, (.tmp 12))), (1, (1, (.tmp 14)))]), none⟩ (.only ⟨none, (.store 2 (.tmp 2) (.tmp 15)), none⟩ (.take ⟨(some 3), (.assign (.const (.int .i64 0))), none⟩ .done)))))))) .ret))), [(.loadN 2 (.tmp 2)), (.move (.tmp 3))]⟩
theorem k32 : cfun Tryz.prog 32 = some c32 := by kernel_rfl
def c70 : XFun := ⟨80, (.seq (.ops [⟨(some 2), (.box (.tmp 0)), none⟩, ⟨(some 3), (.box (.tmp 1)), none⟩, ⟨(some 4), (.assign (.const (.bool false))), none⟩]) (.seq (.ops [⟨(some 5), (.faddr 0 (.tmp 2)), none⟩, ⟨(some 6), (.load1 (.tmp 5)), none⟩, ⟨(some 7), (.faddr 0 (.tmp 3)), none⟩, ⟨(some 8), (.load1 (.tmp 7)), none⟩, ⟨(some 9), (.bin .eql (.tmp 6) (.tmp 8)), none⟩, ⟨(some 10), (.move (.tmp 9)), none⟩, ⟨(some 11), (.faddr 1 (.tmp 2)), (some (10, true))⟩, ⟨(some 12), (.load1 (.tmp 11)), (some (10, true))⟩, ⟨(some 13), (.faddr 1 (.tmp 3)), (some (10, true))⟩, ⟨(some 14), (.load1 (.tmp 13)), (some (10, true))⟩, ⟨(some 15), (.bin .eql (.tmp 12) (.tmp 14)), (some (10, true))⟩, ⟨(some 16), (.pick (.tmp 10) (.tmp 15) (.const (.bool false))), none⟩, ⟨(some 17), (.move (.tmp 16)), none⟩, ⟨(some 18), (.faddr 2 (.tmp 2)), (some (17, true))⟩, ⟨(some 19), (.load1 (.tmp 18)), (some (17, true))⟩, ⟨(some 20), (.faddr 2 (.tmp 3)), (some (17, true))⟩, ⟨(some 21), (.load1 (.tmp 20)), (some (17, true))⟩, ⟨(some 22), (.bin .eql (.tmp 19) (.tmp 21)), (some (17, true))⟩, ⟨(some 23), (.pick (.tmp 17) (.tmp 22) (.const (.bool false))), none⟩, ⟨(some 24), (.move (.tmp 23)), none⟩, ⟨(some 25), (.faddr 3 (.tmp 2)), (some (24, true))⟩, ⟨(some 26), (.load1 (.tmp 25)), (some (24, true))⟩, ⟨(some 27), (.faddr 3 (.tmp 3)), (some (24, true))⟩, ⟨(some 28), (.load1 (.tmp 27)), (some (24, true))⟩, ⟨(some 29), (.bin .eql (.tmp 26) (.tmp 28)), (some (24, true))⟩, ⟨(some 30), (.pick (.tmp 24) (.tmp 29) (.const (.bool false))), none⟩, ⟨(some 31), (.move (.tmp 30)), none⟩, ⟨(some 32), (.faddr 4 (.tmp 2)), (some (31, true))⟩, ⟨(some 33), (.load1 (.tmp 32)), (some (31, true))⟩, ⟨(some 34), (.faddr 4 (.tmp 3)), (some (31, true))⟩, ⟨(some 35), (.load1 (.tmp 34)), (some (31, true))⟩, ⟨(some 36), (.bin .eql (.tmp 33) (.tmp 35)), (some (31, true))⟩, ⟨(some 37), (.pick (.tmp 31) (.tmp 36) (.const (.bool false))), none⟩, ⟨(some 38), (.move (.tmp 37)), none⟩, ⟨(some 39), (.faddr 5 (.tmp 2)), (some (38, true))⟩, ⟨(some 40), (.load1 (.tmp 39)), (some (38, true))⟩, ⟨(some 41), (.faddr 5 (.tmp 3)), (some (38, true))⟩, ⟨(some 42), (.load1 (.tmp 41)), (some (38, true))⟩, ⟨(some 43), (.bin .eql (.tmp 40) (.tmp 42)), (some (38, true))⟩, ⟨(some 44), (.pick (.tmp 38) (.tmp 43) (.const (.bool false))), none⟩, ⟨(some 45), (.move (.tmp 44)), none⟩, ⟨(some 46), (.faddr 6 (.tmp 2)), (some (45, true))⟩, ⟨(some 47), (.load1 (.tmp 46)), (some (45, true))⟩, ⟨(some 48), (.faddr 6 (.tmp 3)), (some (45, true))⟩, ⟨(some 49), (.load1 (.tmp 48)), (some (45, true))⟩, ⟨(some 50), (.bin .eql (.tmp 47) (.tmp 49)), (some (45, true))⟩, ⟨(some 51), (.pick (.tmp 45) (.tmp 50) (.const (.bool false))), none⟩, ⟨(some 52), (.move (.tmp 51)), none⟩, ⟨(some 53), (.faddr 7 (.tmp 2)), (some (52, true))⟩, ⟨(some 54), (.load1 (.tmp 53)), (some (52, true))⟩, ⟨(some 55), (.faddr 7 (.tmp 3)), (some (52, true))⟩, ⟨(some 56), (.load1 (.tmp 55)), (some (52, true))⟩, ⟨(some 57), (.call 105 [(.tmp 54), (.tmp 56)]), (some (52, true))⟩, ⟨(some 58), (.pick (.tmp 52) (.tmp 57) (.const (.bool false))), none⟩, ⟨(some 59), (.move (.tmp 58)), none⟩, ⟨(some 60), (.faddr 8 (.tmp 2)), (some (59, true))⟩, ⟨(some 61), (.load1 (.tmp 60)), (some (59, true))⟩, ⟨(some 62), (.faddr 8 (.tmp 3)), (some (59, true))⟩, ⟨(some 63), (.load1 (.tmp 62)), (some (59, true))⟩, ⟨(some 64), (.call 106 [(.tmp 61), (.tmp 63)]), (some (59, true))⟩, ⟨(some 65), (.pick (.tmp 59) (.tmp 64) (.const (.bool false))), none⟩, ⟨(some 66), (.move (.tmp 65)), none⟩, ⟨(some 67), (.faddr 9 (.tmp 2)), (some (66, true))⟩, ⟨(some 68), (.load1 (.tmp 67)), (some (66, true))⟩, ⟨(some 69), (.faddr 9 (.tmp 3)), (some (66, true))⟩, ⟨(some 70), (.load1 (.tmp 69)), (some (66, true))⟩, ⟨(some 71), (.call 107 [(.tmp 68), (.tmp 70)]), (some (66, true))⟩, ⟨(some 72), (.pick (.tmp 66) (.tmp 71) (.const (.bool false))), none⟩, ⟨(some 73), (.move (.tmp 72)), none⟩, ⟨(some 74), (.faddr 10 (.tmp 2)), (some (73, true))⟩, ⟨(some 75), (.load1 (.tmp 74)), (some (73, true))⟩, ⟨(some 76), (.faddr 10 (.tmp 3)), (some (73, true))⟩, ⟨(some 77), (.load1 (.tmp 76)), (some (73, true))⟩, ⟨(some 78), (.call 108 [(.tmp 75), (.tmp 77)]), (some (73, true))⟩, ⟨(some 79), (.pick (.tmp 73) (.tmp 78) (.const (.bool false))), none⟩, ⟨(some 4), (.assign (.tmp 79)), none⟩]) .ret)), [(.move (.tmp 4))]⟩
theorem k70 : cfun Tryz.prog 70 = some c70 := by kernel_rfl
def c22 : XFun := ⟨39, (.seq (.ops [⟨(some 2), (.assign (.const (.slice none 0 0))), none⟩]) (.seq (.ops [⟨(some 3), (.assign (.const (.slice none 0 0))), none⟩]) (.seq (.seq (.ops [⟨(some 8), (.move (.tmp 0)), none⟩, ⟨(some 9), (.lenL (.tmp 8)), none⟩, ⟨(some 10), (.move (.const (.int .i64 0))), none⟩]) (.block 0 (.loop (.seq (.ops [⟨(some 11), (.bin .lss (.tmp 10) (.tmp 9)), none⟩]) (.seq (.cond (.tmp 11) .skip (.exit 0)) (.seq (.block 1 (.seq (.ops [⟨(some 12), (.iaddr 11 (.tmp 8) (.tmp 10)), none⟩, ⟨(some 13), (.loadN 11 (.tmp 12)), none⟩, ⟨(some 5), (.alloc [(.v (.int .u8 0)), (.v (.int .u8 0)), (.v (.string (strB []))), (.v (.string (strB []))), (.v (.string (strB []))), (.v (.int .i64 0)), (.v (.int .i64 0)), (.sl 0 [] (some true) .exact), (.sl 0 [] (some true) .exact), (.sl 0 [] (some true) .exact), (.sl 0 [] (some true) .exact)]), none⟩, ⟨none, (.store 11 (.tmp 5) (.tmp 13)), none⟩]) (.seq (.ops [⟨(some 15), (.loadN 11 (.tmp 5)), none⟩, ⟨(some 16), (.call 32 [(.tmp 15)]), none⟩, ⟨(some 14), (.move (.tmp 16)), none⟩, ⟨(some 17), (.extract (.tmp 14) 0), none⟩, ⟨(some 18), (.extract (.tmp 14) 1), none⟩, ⟨(some 6), (.alloc [(.v (.int .u8 0)), (.sl 0 [] (some true) .exact)]), none⟩, ⟨none, (.store 2 (.tmp 6) (.tmp 17)), none⟩, ⟨(some 7), (.assign (.tmp 18)), none⟩]) (.seq (.seq (.ops [⟨(some 19), (.move (.tmp 7)), none⟩, ⟨(some 20), (.bin .neq (.tmp 19) (.const (.int .i64 0))), none⟩]) (.cond (.tmp 20) (.exit 1) .skip)) (.seq (.ops [⟨(some 21), (.move (.tmp 3)), none⟩, ⟨(some 22), (.faddr 0 (.tmp 6)), none⟩, ⟨(some 23), (.load1 (.tmp 22)), none⟩, ⟨(some 24), (.buildSlice 1 1 [(.v (.int .u8 0))] [(0, (.tmp 23))]), none⟩, ⟨(some 25), (.append 1 1 (.tmp 21) (.tmp 24)), none⟩, ⟨(some 3), (.assign (.tmp 25)), none⟩]) (.seq (.ops [⟨(some 26), (.move (.tmp 3)), none⟩, ⟨(some 27), (.faddr 1 (.tmp 6)), none⟩, ⟨(some 28), (.load1 (.tmp 27)), none⟩, ⟨(some 29), (.lenL (.tmp 28)), none⟩, ⟨(some 30), (.bin .add (.tmp 29) (.const (.int .i64 4))), none⟩, ⟨(some 31), (.call 33 [(.const (.slice none 0 0)), (.tmp 30), (.const (.int .i64 4))]), none⟩, ⟨(some 32), (.append 1 1 (.tmp 26) (.tmp 31)), none⟩, ⟨(some 3), (.assign (.tmp 32)), none⟩]) (.ops [⟨(some 33), (.move (.tmp 3)), none⟩, ⟨(some 34), (.faddr 1 (.tmp 6)), none⟩, ⟨(some 35), (.load1 (.tmp 34)), none⟩, ⟨(some 36), (.append 1 1 (.tmp 33) (.tmp 35)), none⟩, ⟨(some 3), (.assign (.tmp 36)), none⟩]))))))) (.ops [⟨(some 37), (.bin .add (.tmp 10) (.const (.int .i64 1))), none⟩, ⟨(some 10), (.move (.tmp 37)), none⟩]))))))) (.seq (.ops [⟨(some 38), (.move (.tmp 3)), none⟩, ⟨(some 2), (.assign (.tmp 38)), none⟩]) .ret)))), [(.move (.tmp 2))]⟩
theorem k22 : cfun Tryz.prog 22 = some c22 := by kernel_rfl
def c47 : XFun := ⟨42, (.seq (.ops [⟨(some 1), (.box (.tmp 0)), none⟩, ⟨(some 2), (.assign (.const (.int .i64 0))), none⟩]) (.seq (.seq (.ops [⟨(some 3), (.faddr 0 (.tmp 1)), none⟩, ⟨(some 4), (.load1 (.tmp 3)), none⟩, ⟨(some 5), (.call 65 [(.tmp 4)]), none⟩, ⟨(some 6), (.un .not (.tmp 5)), none⟩]) (.cond (.tmp 6) (.seq (.ops [⟨(some 2), (.assign (.const (.int .i64 9))), none⟩]) .ret) .skip)) (.seq (.seq (.draws (.take ⟨(some 7), (.loadN 11 (.tmp 1)), none⟩ (.only ⟨(some 8), (.call 66 [(.tmp 7)]), none⟩ (.take ⟨(some 9), (.un .not (.tmp 8)), none⟩ (.take ⟨(some 10), (.move (.tmp 9)), none⟩ (.take ⟨(some 11), (.loadN 11 (.tmp 1)), (some (10, false))⟩ (.only ⟨(some 12), (.call 67 [(.tmp 11)]), (some (10, false))⟩ (.take ⟨(some 13), (.un .not (.tmp 12)), (some (10, false))⟩ (.take ⟨(some 14), (.pick (.tmp 10) (.const (.bool true)) (.tmp 13)), none⟩ (.take ⟨(some 15), (.move (.tmp 14)), none⟩ (.take ⟨(some 16), (.faddr 2 (.tmp 1)), (some (15, false))⟩ (.take ⟨(some 17), (.load1 (.tmp 16)), (some (15, false))⟩ (.take ⟨(some 18), (.faddr 3 (.tmp 1)), (some (15, false))⟩ (.take ⟨(some 19), (.load1 (.tmp 18)), (some (15, false))⟩ (.take ⟨(some 20), (.faddr 4 (.tmp 1)), (some (15, false))⟩ (.take ⟨(some 21), (.load1 (.tmp 20)), (some (15, false))⟩ (.only ⟨(some 22), (.buildSlice 1 3 [(.v (.string (strB [])))] [(0, (.tmp 17)), (1, (.tmp 19)), (2, (.tmp 21))]), (some (15, false))⟩ (.only ⟨(some 23), (.call 68 [(.tmp 22)]), (some (15, false))⟩ (.take ⟨(some 24), (.un .not (.tmp 23)), (some (15, false))⟩ (.take ⟨(some 25), (.pick (.tmp 15) (.const (.bool true)) (.tmp 24)), none⟩ (.take ⟨(some 26), (.move (.tmp 25)), none⟩ (.take ⟨(some 27), (.faddr 5 (.tmp 1)), (some (26, false))⟩ (.take ⟨(some 28), (.load1 (.tmp 27)), (some (26, false))⟩ (.take ⟨(some 29), (.faddr 6 (.tmp 1)), (some (26, false))⟩ (.take ⟨(some 30), (.load1 (.tmp 29)), (some (26, false))⟩ (.only ⟨(some 31), (.buildSlice 1 2 [(.v (.int .i64 0))] [(0, (.tmp 28)), (1, (.tmp 30))]), (some (26, false))⟩ (.only ⟨(some 32), (.call 69 [(.const (.int .i64 4)), (.tmp 31)]), (some (26, false))⟩ (.take ⟨(some 33), (.un .not (.tmp 32)), (some (26, false))⟩ (.take ⟨(some 34), (.pick (.tmp 26) (.const (.bool true)) (.tmp 33)), none⟩ (.take ⟨(some 35), (.move (.tmp 34)), none⟩ (.take ⟨(some 36), (.loadN 11 (.tmp 1)), (some (35, false))⟩ (.take ⟨(some 37), (.loadN 11 (.tmp 1)), (some (35, false))⟩ (.only ⟨(some 38), (.call 71 [(.tmp 37)]), (some (35, false))⟩ (.only ⟨(some 39), (.call 70 [(.tmp 36), (.tmp 38)]), (some (35, false))⟩ (.take ⟨(some 40), (.un .not (.tmp 39)), (some (35, false))⟩ (.take ⟨(some 41), (.pick (.tmp 35) (.const (.bool true)) (.tmp 40)), none⟩ .done)))))))))))))))))))))))))))))))))))) (.cond (.tmp 41) (.seq (.ops [⟨(some 2), (.assign (.const (.int .i64 1))), none⟩]) .ret) .skip)) (.seq (.ops [⟨(some 2), (.assign (.const (.int .i64 0))), none⟩]) .ret)))), [(.move (.tmp 2))]⟩
theorem k47 : cfun Tryz.prog 47 = some c47 := by kernel_rfl
def c48 : XFun := ⟨58, (.seq (.ops [⟨(some 1), (.box (.tmp 0)), none⟩, ⟨(some 2), (.assign (.const (.slice none 0 0))), none⟩]) (.seq (.seq (.ops [⟨(some 3), (.faddr 0 (.tmp 1)), none⟩, ⟨(some 4), (.load1 (.tmp 3)), none⟩]) (.block 0 (.seq (.ops [⟨(some 6), (.bin .eql (.tmp 4) (.const (.int .u8 82))), none⟩, ⟨(some 5), (.assign (.tmp 6)), none⟩]) (.cond (.tmp 5) (.seq (.ops [⟨(some 7), (.call 72 [(.const (.int .i64 0))]), none⟩, ⟨(some 2), (.assign (.tmp 7)), none⟩]) .ret) (.seq (.ops [⟨(some 9), (.bin .eql (.tmp 4) (.const (.int .u8 83))), none⟩, ⟨(some 8), (.assign (.tmp 9)), none⟩]) (.cond (.tmp 8) (.seq (.ops [⟨(some 10), (.faddr 3 (.tmp 1)), none⟩, ⟨(some 11), (.load1 (.tmp 10)), none⟩, ⟨(some 12), (.faddr 4 (.tmp 1)), none⟩, ⟨(some 13), (.load1 (.tmp 12)), none⟩, ⟨(some 14), (.buildSlice 1 2 [(.v (.string (strB [])))] [(0, (.tmp 11)), (1, (.tmp 13))]), none⟩, ⟨(some 15), (.call 73 [(.tmp 14)]), none⟩, ⟨(some 2), (.assign (.tmp 15)), none⟩]) .ret) (.seq (.ops [⟨(some 17), (.bin .eql (.tmp 4) (.const (.int .u8 75))), none⟩, ⟨(some 16), (.assign (.tmp 17)), none⟩]) (.cond (.tmp 16) (.seq (.draws (.take ⟨(some 18), (.faddr 5 (.tmp 1)), none⟩ (.take ⟨(some 19), (.load1 (.tmp 18)), none⟩ (.take ⟨(some 21), (.faddr 6 (.tmp 1)), none⟩ (.take ⟨(some 22), (.load1 (.tmp 21)), none⟩ (.only ⟨(some 20), (.call 72 [(.tmp 19)]), none⟩ (.only ⟨(some 23), (.call 72 [(.tmp 22)]), none⟩ (.only ⟨(some 24), (.buildSlice 1 2 [(.sl 0 [] (some true) .exact)] [(0, (.tmp 20)), (1, (.tmp 23))]), none⟩ (.only ⟨(some 25), (.call 19 [(.tmp 24)]), none⟩ (.take ⟨(some 2), (.assign (.tmp 25)), none⟩ .done)))))))))) .ret) (.seq (.ops [⟨(some 27), (.bin .eql (.tmp 4) (.const (.int .u8 90))), none⟩, ⟨(some 26), (.assign (.tmp 27)), none⟩]) (.cond (.tmp 26) (.seq (.ops [⟨(some 28), (.faddr 1 (.tmp 1)), none⟩, ⟨(some 29), (.load1 (.tmp 28)), none⟩, ⟨(some 30), (.buildSlice 1 1 [(.v (.int .u8 0))] [(0, (.tmp 29))]), none⟩, ⟨(some 2), (.assign (.tmp 30)), none⟩]) .ret) (.seq (.ops [⟨(some 32), (.bin .eql (.tmp 4) (.const (.int .u8 67))), none⟩, ⟨(some 31), (.assign (.tmp 32)), none⟩]) (.cond (.tmp 31) (.seq (.ops [⟨(some 33), (.faddr 2 (.tmp 1)), none⟩, ⟨(some 34), (.load1 (.tmp 33)), none⟩, ⟨(some 35), (.buildSlice 1 1 [(.v (.string (strB [])))] [(0, (.tmp 34))]), none⟩, ⟨(some 36), (.call 73 [(.tmp 35)]), none⟩, ⟨(some 2), (.assign (.tmp 36)), none⟩]) .ret) (.seq (.ops [⟨(some 38), (.bin .eql (.tmp 4) (.const (.int .u8 68))), none⟩, ⟨(some 37), (.assign (.tmp 38)), none⟩]) (.cond (.tmp 37) (.seq (.ops [⟨(some 39), (.faddr 9 (.tmp 1)), none⟩, ⟨(some 40), (.load1 (.tmp 39)), none⟩, ⟨(some 41), (.call 74 [(.tmp 40)]), none⟩, ⟨(some 2), (.assign (.tmp 41)), none⟩]) .ret) (.seq (.ops [⟨(some 43), (.bin .eql (.tmp 4) (.const (.int .u8 84))), none⟩, ⟨(some 42), (.assign (.tmp 43)), none⟩]) (.cond (.tmp 42) (.seq (.ops [⟨(some 44), (.faddr 8 (.tmp 1)), none⟩, ⟨(some 45), (.load1 (.tmp 44)), none⟩, ⟨(some 46), (.call 75 [(.tmp 45), (.func 76)]), none⟩, ⟨(some 2), (.assign (.tmp 46)), none⟩]) .ret) (.seq (.ops [⟨(some 48), (.bin .eql (.tmp 4) (.const (.int .u8 116))), none⟩, ⟨(some 47), (.assign (.tmp 48)), none⟩]) (.cond (.tmp 47) (.seq (.ops [⟨(some 49), (.faddr 7 (.tmp 1)), none⟩, ⟨(some 50), (.load1 (.tmp 49)), none⟩, ⟨(some 51), (.call 77 [(.const (.int .i64 4)), (.tmp 50)]), none⟩, ⟨(some 2), (.assign (.tmp 51)), none⟩]) .ret) (.seq (.seq (.ops [⟨(some 53), (.bin .eql (.tmp 4) (.const (.int .u8 69))), none⟩, ⟨(some 52), (.assign (.tmp 53)), none⟩]) (.cond (.tmp 52) .skip (.ops [⟨(some 54), (.bin .eql (.tmp 4) (.const (.int .u8 78))), none⟩, ⟨(some 52), (.assign (.tmp 54)), none⟩]))) (.cond (.tmp 52) (.seq (.ops [⟨(some 55), (.faddr 10 (.tmp 1)), none⟩, ⟨(some 56), (.load1 (.tmp 55)), none⟩, ⟨(some 57), (.call 78 [(.tmp 56)]), none⟩, ⟨(some 2), (.assign (.tmp 57)), none⟩]) .ret) .skip)))))))))))))))))))) (.seq (.ops [⟨(some 2), (.assign (.const (.slice none 0 0))), none⟩]) .ret))), [(.move (.tmp 2))]⟩
theorem k48 : cfun Tryz.prog 48 = some c48 := by kernel_rfl
def c65 : XFun := ⟨21, (.seq (.ops [⟨(some 2), (.assign (.const (.bool false))), none⟩]) (.seq (.seq (.ops [⟨(some 3), (.move (.tmp 0)), none⟩]) (.block 0 (.seq (.seq (.ops [⟨(some 5), (.bin .eql (.tmp 3) (.const (.int .u8 82))), none⟩, ⟨(some 4), (.assign (.tmp 5)), none⟩]) (.cond (.tmp 4) .skip (.seq (.ops [⟨(some 6), (.bin .eql (.tmp 3) (.const (.int .u8 83))), none⟩, ⟨(some 4), (.assign (.tmp 6)), none⟩]) (.cond (.tmp 4) .skip (.seq (.ops [⟨(some 7), (.bin .eql (.tmp 3) (.const (.int .u8 75))), none⟩, ⟨(some 4), (.assign (.tmp 7)), none⟩]) (.cond (.tmp 4) .skip (.seq (.ops [⟨(some 8), (.bin .eql (.tmp 3) (.const (.int .u8 90))), none⟩, ⟨(some 4), (.assign (.tmp 8)), none⟩]) (.cond (.tmp 4) .skip (.seq (.ops [⟨(some 9), (.bin .eql (.tmp 3) (.const (.int .u8 49))), none⟩, ⟨(some 4), (.assign (.tmp 9)), none⟩]) (.cond (.tmp 4) .skip (.seq (.ops [⟨(some 10), (.bin .eql (.tmp 3) (.const (.int .u8 50))), none⟩, ⟨(some 4), (.assign (.tmp 10)), none⟩]) (.cond (.tmp 4) .skip (.seq (.ops [⟨(some 11), (.bin .eql (.tmp 3) (.const (.int .u8 51))), none⟩, ⟨(some 4), (.assign (.tmp 11)), none⟩]) (.cond (.tmp 4) .skip (.seq (.ops [⟨(some 12), (.bin .eql (.tmp 3) (.const (.int .u8 110))), none⟩, ⟨(some 4), (.assign (.tmp 12)), none⟩]) (.cond (.tmp 4) .skip (.seq (.ops [⟨(some 13), (.bin .eql (.tmp 3) (.const (.int .u8 115))), none⟩, ⟨(some 4), (.assign (.tmp 13)), none⟩]) (.cond (.tmp 4) .skip (.seq (.ops [⟨(some 14), (.bin .eql (.tmp 3) (.const (.int .u8 73))), none⟩, ⟨(some 4), (.assign (.tmp 14)), none⟩]) (.cond (.tmp 4) .skip (.seq (.ops [⟨(some 15), (.bin .eql (.tmp 3) (.const (.int .u8 67))), none⟩, ⟨(some 4), (.assign (.tmp 15)), none⟩]) (.cond (.tmp 4) .skip (.seq (.ops [⟨(some 16), (.bin .eql (.tmp 3) (.const (.int .u8 68))), none⟩, ⟨(some 4), (.assign (.tmp 16)), none⟩]) (.cond (.tmp 4) .skip (.seq (.ops [⟨(some 17), (.bin .eql (.tmp 3) (.const (.int .u8 84))), none⟩, ⟨(some 4), (.assign (.tmp 17)), none⟩]) (.cond (.tmp 4) .skip (.seq (.ops [⟨(some 18), (.bin .eql (.tmp 3) (.const (.int .u8 116))), none⟩, ⟨(some 4), (.assign (.tmp 18)), none⟩]) (.cond (.tmp 4) .skip (.seq (.ops [⟨(some 19), (.bin .eql (.tmp 3) (.const (.int .u8 69))), none⟩, ⟨(some 4), (.assign (.tmp 19)), none⟩]) (.cond (.tmp 4) .skip (.ops [⟨(some 20), (.bin .eql (.tmp 3) (.const (.int .u8 78))), none⟩, ⟨(some 4), (.assign (.tmp 20)), none⟩]))))))))))))))))))))))))))))))) (.cond (.tmp 4) (.seq (.ops [⟨(some 2), (.assign (.const (.bool true))), none⟩]) .ret) .skip)))) (.seq (.ops [⟨(some 2), (.assign (.const (.bool false))), none⟩]) .ret))), [(.move (.tmp 2))]⟩
theorem k65 : cfun Tryz.prog 65 = some c65 := by kernel_rfl
def c66 : XFun := ⟨11, (.seq (.ops [⟨(some 1), (.box (.tmp 0)), none⟩, ⟨(some 2), (.assign (.const (.bool false))), none⟩]) (.seq (.ops [⟨(some 3), (.faddr 0 (.tmp 1)), none⟩, ⟨(some 4), (.load1 (.tmp 3)), none⟩, ⟨(some 5), (.bin .neq (.tmp 4) (.const (.int .u8 90))), none⟩, ⟨(some 6), (.move (.tmp 5)), none⟩, ⟨(some 7), (.faddr 1 (.tmp 1)), (some (6, false))⟩, ⟨(some 8), (.load1 (.tmp 7)), (some (6, false))⟩, ⟨(some 9), (.call 92 [(.tmp 8)]), (some (6, false))⟩, ⟨(some 10), (.pick (.tmp 6) (.const (.bool true)) (.tmp 9)), none⟩, ⟨(some 2), (.assign (.tmp 10)), none⟩]) .ret)), [(.move (.tmp 2))]⟩
theorem k66 : cfun Tryz.prog 66 = some c66 := by kernel_rfl
def c67 : XFun := ⟨39, (.seq (.ops [⟨(some 1), (.box (.tmp 0)), none⟩, ⟨(some 2), (.assign (.const (.bool false))), none⟩]) (.seq (.ops [⟨(some 3), (.faddr 7 (.tmp 1)), none⟩, ⟨(some 4), (.load1 (.tmp 3)), none⟩, ⟨(some 5), (.lenL (.tmp 4)), none⟩, ⟨(some 6), (.faddr 8 (.tmp 1)), none⟩, ⟨(some 7), (.load1 (.tmp 6)), none⟩, ⟨(some 8), (.lenL (.tmp 7)), none⟩, ⟨(some 9), (.faddr 9 (.tmp 1)), none⟩, ⟨(some 10), (.load1 (.tmp 9)), none⟩, ⟨(some 11), (.lenL (.tmp 10)), none⟩, ⟨(some 12), (.faddr 10 (.tmp 1)), none⟩, ⟨(some 13), (.load1 (.tmp 12)), none⟩, ⟨(some 14), (.lenL (.tmp 13)), none⟩, ⟨(some 15), (.maxI [(.tmp 5), (.tmp 8), (.tmp 11), (.tmp 14)]), none⟩, ⟨(some 16), (.bin .leq (.tmp 15) (.const (.int .i64 65535))), none⟩, ⟨(some 17), (.move (.tmp 16)), none⟩, ⟨(some 18), (.faddr 7 (.tmp 1)), (some (17, true))⟩, ⟨(some 19), (.load1 (.tmp 18)), (some (17, true))⟩, ⟨(some 20), (.call 69 [(.const (.int .i64 4)), (.tmp 19)]), (some (17, true))⟩, ⟨(some 21), (.pick (.tmp 17) (.tmp 20) (.const (.bool false))), none⟩, ⟨(some 22), (.move (.tmp 21)), none⟩, ⟨(some 23), (.faddr 9 (.tmp 1)), (some (22, true))⟩, ⟨(some 24), (.load1 (.tmp 23)), (some (22, true))⟩, ⟨(some 25), (.call 93 [(.tmp 24)]), (some (22, true))⟩, ⟨(some 26), (.pick (.tmp 22) (.tmp 25) (.const (.bool false))), none⟩, ⟨(some 27), (.move (.tmp 26)), none⟩, ⟨(some 28), (.faddr 8 (.tmp 1)), (some (27, true))⟩, ⟨(some 29), (.load1 (.tmp 28)), (some (27, true))⟩, ⟨(some 30), (.call 94 [(.tmp 29), (.func 95)]), (some (27, true))⟩, ⟨(some 31), (.un .not (.tmp 30)), (some (27, true))⟩, ⟨(some 32), (.pick (.tmp 27) (.tmp 31) (.const (.bool false))), none⟩, ⟨(some 33), (.move (.tmp 32)), none⟩, ⟨(some 34), (.faddr 10 (.tmp 1)), (some (33, true))⟩, ⟨(some 35), (.load1 (.tmp 34)), (some (33, true))⟩, ⟨(some 36), (.call 97 [(.tmp 35), (.func 98)]), (some (33, true))⟩, ⟨(some 37), (.un .not (.tmp 36)), (some (33, true))⟩, ⟨(some 38), (.pick (.tmp 33) (.tmp 37) (.const (.bool false))), none⟩, ⟨(some 2), (.assign (.tmp 38)), none⟩]) .ret)), [(.move (.tmp 2))]⟩
theorem k67 : cfun Tryz.prog 67 = some c67 := by kernel_rfl
def c95 : XFun := ⟨6, (.seq (.ops [⟨(some 1), (.box (.tmp 0)), none⟩, ⟨(some 2), (.assign (.const (.bool false))), none⟩]) (.seq (.ops [⟨(some 3), (.loadN 7 (.tmp 1)), none⟩, ⟨(some 4), (.call 96 [(.tmp 3)]), none⟩, ⟨(some 5), (.un .not (.tmp 4)), none⟩, ⟨(some 2), (.assign (.tmp 5)), none⟩]) .ret)), [(.move (.tmp 2))]⟩
theorem k95 : cfun Tryz.prog 95 = some c95 := by kernel_rfl
def c98 : XFun := ⟨6, (.seq (.ops [⟨(some 1), (.box (.tmp 0)), none⟩, ⟨(some 2), (.assign (.const (.bool false))), none⟩]) (.seq (.ops [⟨(some 3), (.loadN 2 (.tmp 1)), none⟩, ⟨(some 4), (.call 99 [(.tmp 3)]), none⟩, ⟨(some 5), (.un .not (.tmp 4)), none⟩, ⟨(some 2), (.assign (.tmp 5)), none⟩]) .ret)), [(.move (.tmp 2))]⟩
theorem k98 : cfun Tryz.prog 98 = some c98 := by kernel_rfl
def c96 : XFun := ⟨35, (.seq (.ops [⟨(some 1), (.box (.tmp 0)), none⟩, ⟨(some 2), (.assign (.const (.bool false))), none⟩]) (.seq (.ops [⟨(some 3), (.faddr 0 (.tmp 1)), none⟩, ⟨(some 4), (.load1 (.tmp 3)), none⟩, ⟨(some 5), (.buildSlice 1 1 [(.v (.string (strB [])))] [(0, (.tmp 4))]), none⟩, ⟨(some 6), (.call 68 [(.tmp 5)]), none⟩, ⟨(some 7), (.move (.tmp 6)), none⟩, ⟨(some 8), (.faddr 1 (.tmp 1)), (some (7, true))⟩, ⟨(some 9), (.load1 (.tmp 8)), (some (7, true))⟩, ⟨(some 10), (.faddr 3 (.tmp 1)), (some (7, true))⟩, ⟨(some 11), (.load1 (.tmp 10)), (some (7, true))⟩, ⟨(some 12), (.buildSlice 1 2 [(.v (.int .i64 0))] [(0, (.tmp 9)), (1, (.tmp 11))]), (some (7, true))⟩, ⟨(some 13), (.call 69 [(.const (.int .i64 4)), (.tmp 12)]), (some (7, true))⟩, ⟨(some 14), (.pick (.tmp 7) (.tmp 13) (.const (.bool false))), none⟩, ⟨(some 15), (.move (.tmp 14)), none⟩, ⟨(some 16), (.faddr 2 (.tmp 1)), (some (15, true))⟩, ⟨(some 17), (.load1 (.tmp 16)), (some (15, true))⟩, ⟨(some 18), (.faddr 6 (.tmp 1)), (some (15, true))⟩, ⟨(some 19), (.load1 (.tmp 18)), (some (15, true))⟩, ⟨(some 20), (.buildSlice 1 2 [(.v (.int .i64 0))] [(0, (.tmp 17)), (1, (.tmp 19))]), (some (15, true))⟩, ⟨(some 21), (.call 69 [(.const (.int .i64 2)), (.tmp 20)]), (some (15, true))⟩, ⟨(some 22), (.pick (.tmp 15) (.tmp 21) (.const (.bool false))), none⟩, ⟨(some 23), (.move (.tmp 22)), none⟩, ⟨(some 24), (.faddr 4 (.tmp 1)), (some (23, true))⟩, ⟨(some 25), (.load1 (.tmp 24)), (some (23, true))⟩, ⟨(some 26), (.buildSlice 1 1 [(.v (.int .i64 0))] [(0, (.tmp 25))]), (some (23, true))⟩, ⟨(some 27), (.call 124 [(.const (.int .i64 2)), (.tmp 26)]), (some (23, true))⟩, ⟨(some 28), (.pick (.tmp 23) (.tmp 27) (.const (.bool false))), none⟩, ⟨(some 29), (.move (.tmp 28)), none⟩, ⟨(some 30), (.faddr 5 (.tmp 1)), (some (29, true))⟩, ⟨(some 31), (.load1 (.tmp 30)), (some (29, true))⟩, ⟨(some 32), (.buildSlice 1 1 [(.v (.int .i64 0))] [(0, (.tmp 31))]), (some (29, true))⟩, ⟨(some 33), (.call 124 [(.const (.int .i64 4)), (.tmp 32)]), (some (29, true))⟩, ⟨(some 34), (.pick (.tmp 29) (.tmp 33) (.const (.bool false))), none⟩, ⟨(some 2), (.assign (.tmp 34)), none⟩]) .ret)), [(.move (.tmp 2))]⟩
theorem k96 : cfun Tryz.prog 96 = some c96 := by kernel_rfl
def c99 : XFun := ⟨12, (.seq (.ops [⟨(some 1), (.box (.tmp 0)), none⟩, ⟨(some 2), (.assign (.const (.bool false))), none⟩]) (.seq (.ops [⟨(some 3), (.faddr 0 (.tmp 1)), none⟩, ⟨(some 4), (.load1 (.tmp 3)), none⟩, ⟨(some 5), (.bin .neq (.tmp 4) (.const (.int .u8 0))), none⟩, ⟨(some 6), (.move (.tmp 5)), none⟩, ⟨(some 7), (.faddr 1 (.tmp 1)), (some (6, true))⟩, ⟨(some 8), (.load1 (.tmp 7)), (some (6, true))⟩, ⟨(some 9), (.buildSlice 1 1 [(.v (.string (strB [])))] [(0, (.tmp 8))]), (some (6, true))⟩, ⟨(some 10), (.call 68 [(.tmp 9)]), (some (6, true))⟩, ⟨(some 11), (.pick (.tmp 6) (.tmp 10) (.const (.bool false))), none⟩, ⟨(some 2), (.assign (.tmp 11)), none⟩]) .ret)), [(.move (.tmp 2))]⟩
theorem k99 : cfun Tryz.prog 99 = some c99 := by kernel_rfl
def c71 : XFun := ⟨57, (.seq (.ops [⟨(some 1), (.box (.tmp 0)), none⟩, ⟨(some 2), (.alloc [(.v (.int .u8 0)), (.v (.int .u8 0)), (.v (.string (strB []))), (.v (.string (strB []))), (.v (.string (strB []))), (.v (.int .i64 0)), (.v (.int .i64 0)), (.sl 0 [] (some true) .exact), (.sl 0 [] (some true) .exact), (.sl 0 [] (some true) .exact), (.sl 0 [] (some true) .exact)]), none⟩]) (.seq (.ops [⟨(some 4), (.faddr 0 (.tmp 1)), none⟩, ⟨(some 5), (.load1 (.tmp 4)), none⟩, ⟨(some 6), (.build [(.v (.int .u8 0)), (.v (.int .u8 0)), (.v (.string (strB []))), (.v (.string (strB []))), (.v (.string (strB []))), (.v (.int .i64 0)), (.v (.int .i64 0)), (.sl 0 [] (some true) .exact), (.sl 0 [] (some true) .exact), (.sl 0 [] (some true) .exact), (.sl 0 [] (some true) .exact)] [(0, (1, (.tmp 5)))]), none⟩, ⟨(some 3), (.alloc [(.v (.int .u8 0)), (.v (.int .u8 0)), (.v (.string (strB []))), (.v (.string (strB []))), (.v (.string (strB []))), (.v (.int .i64 0)), (.v (.int .i64 0)), (.sl 0 [] (some true) .exact), (.sl 0 [] (some true) .exact), (.sl 0 [] (some true) .exact), (.sl 0 [] (some true) .exact)]), none⟩, ⟨none, (.store 11 (.tmp 3) (.tmp 6)), none⟩]) (.seq (.seq (.ops [⟨(some 7), (.faddr 0 (.tmp 1)), none⟩, ⟨(some 8), (.load1 (.tmp 7)), none⟩]) (.block 0 (.seq (.ops [⟨(some 10), (.bin .eql (.tmp 8) (.const (.int .u8 83))), none⟩, ⟨(some 9), (.assign (.tmp 10)), none⟩]) (.cond (.tmp 9) (.draws (.take ⟨(some 11), (.faddr 3 (.tmp 1)), none⟩ (.take ⟨(some 12), (.load1 (.tmp 11)), none⟩ (.take ⟨(some 13), (.faddr 4 (.tmp 1)), none⟩ (.take ⟨(some 14), (.load1 (.tmp 13)), none⟩ (.take ⟨(some 15), (.faddr 3 (.tmp 3)), none⟩ (.only ⟨none, (.store 1 (.tmp 15) (.tmp 12)), none⟩ (.take ⟨(some 16), (.faddr 4 (.tmp 3)), none⟩ (.last ⟨none, (.store 1 (.tmp 16) (.tmp 14)), none⟩))))))))) (.seq (.ops [⟨(some 18), (.bin .eql (.tmp 8) (.const (.int .u8 75))), none⟩, ⟨(some 17), (.assign (.tmp 18)), none⟩]) (.cond (.tmp 17) (.draws (.take ⟨(some 19), (.faddr 5 (.tmp 1)), none⟩ (.take ⟨(some 20), (.load1 (.tmp 19)), none⟩ (.take ⟨(some 21), (.faddr 6 (.tmp 1)), none⟩ (.take ⟨(some 22), (.load1 (.tmp 21)), none⟩ (.take ⟨(some 23), (.faddr 5 (.tmp 3)), none⟩ (.only ⟨none, (.store 1 (.tmp 23) (.tmp 20)), none⟩ (.take ⟨(some 24), (.faddr 6 (.tmp 3)), none⟩ (.last ⟨none, (.store 1 (.tmp 24) (.tmp 22)), none⟩))))))))) (.seq (.ops [⟨(some 26), (.bin .eql (.tmp 8) (.const (.int .u8 90))), none⟩, ⟨(some 25), (.assign (.tmp 26)), none⟩]) (.cond (.tmp 25) (.ops [⟨(some 27), (.faddr 1 (.tmp 1)), none⟩, ⟨(some 28), (.load1 (.tmp 27)), none⟩, ⟨(some 29), (.faddr 1 (.tmp 3)), none⟩, ⟨none, (.store 1 (.tmp 29) (.tmp 28)), none⟩]) (.seq (.ops [⟨(some 31), (.bin .eql (.tmp 8) (.const (.int .u8 67))), none⟩, ⟨(some 30), (.assign (.tmp 31)), none⟩]) (.cond (.tmp 30) (.ops [⟨(some 32), (.faddr 2 (.tmp 1)), none⟩, ⟨(some 33), (.load1 (.tmp 32)), none⟩, ⟨(some 34), (.faddr 2 (.tmp 3)), none⟩, ⟨none, (.store 1 (.tmp 34) (.tmp 33)), none⟩]) (.seq (.ops [⟨(some 36), (.bin .eql (.tmp 8) (.const (.int .u8 68))), none⟩, ⟨(some 35), (.assign (.tmp 36)), none⟩]) (.cond (.tmp 35) (.ops [⟨(some 37), (.faddr 9 (.tmp 1)), none⟩, ⟨(some 38), (.load1 (.tmp 37)), none⟩, ⟨(some 39), (.faddr 9 (.tmp 3)), none⟩, ⟨none, (.store 1 (.tmp 39) (.tmp 38)), none⟩]) (.seq (.ops [⟨(some 41), (.bin .eql (.tmp 8) (.const (.int .u8 84))), none⟩, ⟨(some 40), (.assign (.tmp 41)), none⟩]) (.cond (.tmp 40) (.ops [⟨(some 42), (.faddr 8 (.tmp 1)), none⟩, ⟨(some 43), (.load1 (.tmp 42)), none⟩, ⟨(some 44), (.faddr 8 (.tmp 3)), none⟩, ⟨none, (.store 1 (.tmp 44) (.tmp 43)), none⟩]) (.seq (.ops [⟨(some 46), (.bin .eql (.tmp 8) (.const (.int .u8 116))), none⟩, ⟨(some 45), (.assign (.tmp 46)), none⟩]) (.cond (.tmp 45) (.ops [⟨(some 47), (.faddr 7 (.tmp 1)), none⟩, ⟨(some 48), (.load1 (.tmp 47)), none⟩, ⟨(some 49), (.faddr 7 (.tmp 3)), none⟩, ⟨none, (.store 1 (.tmp 49) (.tmp 48)), none⟩]) (.seq (.seq (.ops [⟨(some 51), (.bin .eql (.tmp 8) (.const (.int .u8 69))), none⟩, ⟨(some 50), (.assign (.tmp 51)), none⟩]) (.cond (.tmp 50) .skip (.ops [⟨(some 52), (.bin .eql (.tmp 8) (.const (.int .u8 78))), none⟩, ⟨(some 50), (.assign (.tmp 52)), none⟩]))) (.cond (.tmp 50) (.ops [⟨(some 53), (.faddr 10 (.tmp 1)), none⟩, ⟨(some 54), (.load1 (.tmp 53)), none⟩, ⟨(some 55), (.faddr 10 (.tmp 3)), none⟩, ⟨none, (.store 1 (.tmp 55) (.tmp 54)), none⟩]) .skip)))))))))))))))))) (.seq (.ops [⟨(some 56), (.loadN 11 (.tmp 3)), none⟩, ⟨none, (.store 11 (.tmp 2) (.tmp 56)), none⟩]) .ret)))), [(.loadN 11 (.tmp 2))]⟩
theorem k71 : cfun Tryz.prog 71 = some c71 := by kernel_rfl
def c72 : XFun := ⟨5, (.seq (.ops [⟨(some 2), (.assign (.const (.slice none 0 0))), none⟩]) (.seq (.ops [⟨(some 3), (.move (.tmp 0)), none⟩, ⟨(some 4), (.call 33 [(.const (.slice none 0 0)), (.tmp 3), (.const (.int .i64 4))]), none⟩, ⟨(some 2), (.assign (.tmp 4)), none⟩]) .ret)), [(.move (.tmp 2))]⟩
theorem k72 : cfun Tryz.prog 72 = some c72 := by kernel_rfl
def c111 : XFun := ⟨5, (.seq (.ops [⟨(some 2), (.assign (.const (.slice none 0 0))), none⟩]) (.seq (.ops [⟨(some 3), (.move (.tmp 0)), none⟩, ⟨(some 4), (.call 33 [(.const (.slice none 0 0)), (.tmp 3), (.const (.int .i64 2))]), none⟩, ⟨(some 2), (.assign (.tmp 4)), none⟩]) .ret)), [(.move (.tmp 2))]⟩
theorem k111 : cfun Tryz.prog 111 = some c111 := by kernel_rfl
def c76 : XFun := ⟨27, (.seq (.ops [⟨(some 1), (.box (.tmp 0)), none⟩, ⟨(some 2), (.assign (.const (.slice none 0 0))), none⟩]) (.seq (.draws (.take ⟨(some 3), (.faddr 0 (.tmp 1)), none⟩ (.take ⟨(some 4), (.load1 (.tmp 3)), none⟩ (.take ⟨(some 7), (.faddr 1 (.tmp 1)), none⟩ (.take ⟨(some 8), (.load1 (.tmp 7)), none⟩ (.take ⟨(some 10), (.faddr 2 (.tmp 1)), none⟩ (.take ⟨(some 11), (.load1 (.tmp 10)), none⟩ (.take ⟨(some 13), (.faddr 3 (.tmp 1)), none⟩ (.take ⟨(some 14), (.load1 (.tmp 13)), none⟩ (.take ⟨(some 16), (.faddr 4 (.tmp 1)), none⟩ (.take ⟨(some 17), (.load1 (.tmp 16)), none⟩ (.take ⟨(some 19), (.faddr 5 (.tmp 1)), none⟩ (.take ⟨(some 20), (.load1 (.tmp 19)), none⟩ (.take ⟨(some 22), (.faddr 6 (.tmp 1)), none⟩ (.take ⟨(some 23), (.load1 (.tmp 22)), none⟩ (.only ⟨(some 5), (.buildSlice 1 1 [(.v (.string (strB [])))] [(0, (.tmp 4))]), none⟩ (.only ⟨(some 6), (.call 73 [(.tmp 5)]), none⟩ (.only ⟨(some 9), (.call 72 [(.tmp 8)]), none⟩ (.only ⟨(some 12), (.call 111 [(.tmp 11)]), none⟩ (.only ⟨(some 15), (.call 72 [(.tmp 14)]), none⟩ (.only ⟨(some 18), (.call 111 [(.tmp 17)]), none⟩ (.only ⟨(some 21), (.call 72 [(.tmp 20)]), none⟩ (.only ⟨(some 24), (.call 111 [(.tmp 23)]), none⟩ (.only ⟨(some 25), (.buildSlice 1 7 [(.sl 0 [] (some true) .exact)] [(0, (.tmp 6)), (1, (.tmp 9)), (2, (.tmp 12)), (3, (.tmp 15)), (4, (.tmp 18)), (5, (.tmp 21)), (6, (.tmp 24))]), none⟩ (.only ⟨(some 26), (.call 19 [(.tmp 25)]), none⟩ (.take ⟨(some 2), (.assign (.tmp 26)), none⟩ .done)))))))))))))))))))))))))) .ret)), [(.move (.tmp 2))]⟩
theorem k76 : cfun Tryz.prog 76 = some c76 := by kernel_rfl
def c78 : XFun := ⟨27, (.seq (.ops [⟨(some 2), (.assign (.const (.slice none 0 0))), none⟩]) (.seq (.ops [⟨(some 3), (.assign (.const (.slice none 0 0))), none⟩]) (.seq (.seq (.ops [⟨(some 6), (.move (.tmp 0)), none⟩, ⟨(some 7), (.lenL (.tmp 6)), none⟩, ⟨(some 8), (.move (.const (.int .i64 0))), none⟩]) (.block 0 (.loop (.seq (.ops [⟨(some 9), (.bin .lss (.tmp 8) (.tmp 7)), none⟩]) (.seq (.cond (.tmp 9) .skip (.exit 0)) (.seq (.block 1 (.seq (.ops [⟨(some 10), (.iaddr 2 (.tmp 6) (.tmp 8)), none⟩, ⟨(some 11), (.loadN 2 (.tmp 10)), none⟩, ⟨(some 5), (.alloc [(.v (.int .u8 0)), (.v (.string (strB [])))]), none⟩, ⟨none, (.store 2 (.tmp 5) (.tmp 11)), none⟩]) (.seq (.ops [⟨(some 12), (.move (.tmp 3)), none⟩, ⟨(some 13), (.faddr 0 (.tmp 5)), none⟩, ⟨(some 14), (.load1 (.tmp 13)), none⟩, ⟨(some 15), (.buildSlice 1 1 [(.v (.int .u8 0))] [(0, (.tmp 14))]), none⟩, ⟨(some 16), (.append 1 1 (.tmp 12) (.tmp 15)), none⟩, ⟨(some 3), (.assign (.tmp 16)), none⟩]) (.ops [⟨(some 17), (.move (.tmp 3)), none⟩, ⟨(some 18), (.faddr 1 (.tmp 5)), none⟩, ⟨(some 19), (.load1 (.tmp 18)), none⟩, ⟨(some 20), (.buildSlice 1 1 [(.v (.string (strB [])))] [(0, (.tmp 19))]), none⟩, ⟨(some 21), (.call 73 [(.tmp 20)]), none⟩, ⟨(some 22), (.append 1 1 (.tmp 17) (.tmp 21)), none⟩, ⟨(some 3), (.assign (.tmp 22)), none⟩])))) (.ops [⟨(some 23), (.bin .add (.tmp 8) (.const (.int .i64 1))), none⟩, ⟨(some 8), (.move (.tmp 23)), none⟩]))))))) (.seq (.ops [⟨(some 24), (.move (.tmp 3)), none⟩, ⟨(some 25), (.buildSlice 1 1 [(.v (.int .u8 0))] [(0, (.const (.int .u8 0)))]), none⟩, ⟨(some 26), (.append 1 1 (.tmp 24) (.tmp 25)), none⟩, ⟨(some 2), (.assign (.tmp 26)), none⟩]) .ret)))), [(.move (.tmp 2))]⟩
theorem k78 : cfun Tryz.prog 78 = some c78 := by kernel_rfl
def c92 : XFun := ⟨13, (.seq (.ops [⟨(some 2), (.assign (.const (.bool false))), none⟩]) (.seq (.ops [⟨(some 3), (.move (.tmp 0)), none⟩, ⟨(some 4), (.bin .eql (.tmp 3) (.const (.int .u8 73))), none⟩, ⟨(some 5), (.move (.tmp 4)), none⟩, ⟨(some 6), (.move (.tmp 0)), (some (5, false))⟩, ⟨(some 7), (.bin .eql (.tmp 6) (.const (.int .u8 84))), (some (5, false))⟩, ⟨(some 8), (.pick (.tmp 5) (.const (.bool true)) (.tmp 7)), none⟩, ⟨(some 9), (.move (.tmp 8)), none⟩, ⟨(some 10), (.move (.tmp 0)), (some (9, false))⟩, ⟨(some 11), (.bin .eql (.tmp 10) (.const (.int .u8 69))), (some (9, false))⟩, ⟨(some 12), (.pick (.tmp 9) (.const (.bool true)) (.tmp 11)), none⟩, ⟨(some 2), (.assign (.tmp 12)), none⟩]) .ret)), [(.move (.tmp 2))]⟩
theorem k92 : cfun Tryz.prog 92 = some c92 := by kernel_rfl
end Go.Proofs.YtofkddajlgebjaaGreat.Ax
/- Package back over values without memory: which kinds there are, checks, what is the same, bodies. Written by gen/ax_back.py. -/
namespace Go.Proofs.YtofkddajlgebjaaGreat.Ax
open Go.RowKit Go By YtofkddajlgebjaaGreat.Nm Sc Dg
set_option linter.unusedSimpArgs false
set_option linter.unusedVariables false
set_option maxRecDepth 10000

def kindB (k : Int) : Bool := decide (k = 82 ∨ k = 83 ∨ k = 75 ∨ k = 90 ∨ k = 49 ∨ k = 50 ∨ k = 51 ∨ k = 110 ∨ k = 115 ∨ k = 73 ∨ k = 67 ∨ k = 68 ∨ k = 84 ∨ k = 116 ∨ k = 69 ∨ k = 78)
theorem bkind_c (k : Int) (h : List (List AV)) : Contract Tryz.prog 65 [.v (.int .u8 k)] h (.v (.bool (kindB k))) h [] := by
  refine contract_of k65 mixed (by simp [c65]) fun hh hargs => ?_
  by_cases h82 : k = 82
  · subst h82; simp [c65, hh, kindB]
  by_cases h83 : k = 83
  · subst h83; simp [c65, hh, kindB]
  by_cases h75 : k = 75
  · subst h75; simp [c65, hh, kindB]
  by_cases h90 : k = 90
  · subst h90; simp [c65, hh, kindB]
  by_cases h49 : k = 49
  · subst h49; simp [c65, hh, kindB]
  by_cases h50 : k = 50
  · subst h50; simp [c65, hh, kindB]
  by_cases h51 : k = 51
  · subst h51; simp [c65, hh, kindB]
  by_cases h110 : k = 110
  · subst h110; simp [c65, hh, kindB]
  by_cases h115 : k = 115
  · subst h115; simp [c65, hh, kindB]
  by_cases h73 : k = 73
  · subst h73; simp [c65, hh, kindB]
  by_cases h67 : k = 67
  · subst h67; simp [c65, hh, kindB]
  by_cases h68 : k = 68
  · subst h68; simp [c65, hh, kindB]
  by_cases h84 : k = 84
  · subst h84; simp [c65, hh, kindB]
  by_cases h116 : k = 116
  · subst h116; simp [c65, hh, kindB]
  by_cases h69 : k = 69
  · subst h69; simp [c65, hh, kindB]
  by_cases h78 : k = 78
  · subst h78; simp [c65, hh, kindB]
  simp [c65, hh, kindB, h82, h83, h75, h90, h49, h50, h51, h110, h115, h73, h67, h68, h84, h116, h69, h78]
def statB (s : Int) : Bool := s == 73 || (s == 84 || s == 69)
theorem bstat_c (s : Int) (h : List (List AV)) : Contract Tryz.prog 92 [.v (.int .u8 s)] h (.v (.bool (statB s))) h [] := by
  refine contract_of k92 mixed (by simp [c92]) fun hh hargs => ?_
  cases h1 : s == 73 with
  | true => simp [c92, hh, statB, h1]
  | false =>
    cases h2 : s == 84 <;> simp [c92, hh, statB, h1, h2]
/-- Its lists are no longer than memory is. -/
def BkFit (m : Bk) : Prop := m.oids.length ≤ 140737488355328 ∧ m.cols.length ≤ 140737488355328 ∧ m.row.length ≤ 140737488355328 ∧ m.fields.length ≤ 140737488355328 ∧ (∀ c ∈ m.row, c.2.length ≤ 140737488355328)
def sameCo (a b : Co) : Bool := a.name == b.name && (a.table == b.table && (a.attr == b.attr && (a.oid == b.oid && (a.size == b.size && (a.mod == b.mod && (a.format == b.format && true))))))
def sameFi (a b : Fi) : Bool := a.code == b.code && (a.text == b.text && true)
theorem sameCo_eq (a b : Co) : sameCo a b = (a == b) := by
  obtain ⟨a1, a2, a3, a4, a5, a6, a7⟩ := a
  obtain ⟨b1, b2, b3, b4, b5, b6, b7⟩ := b
  rw [Bool.eq_iff_iff]; simp [sameCo]
theorem sameFi_eq (a b : Fi) : sameFi a b = (a == b) := by
  obtain ⟨a1, a2⟩ := a
  obtain ⟨b1, b2⟩ := b
  rw [Bool.eq_iff_iff]; simp [sameFi]
theorem eqcols_c (l m : List Co) (hl : l.length ≤ 140737488355328) (h : List (List AV)) : Contract Tryz.prog 106 [.sl 7 (enc coC l) none .no, .sl 7 (enc coC m) none .no] h (.v (.bool (l == m))) h [] := by
  have := equalN_any mixed k106 sameCo coC (by simp) (by simp) (fun x y => by simp [coC_mk, sameCo]) l m h hl
  rwa [show sameCo = (· == ·) from funext fun a => funext fun b => sameCo_eq a b, eqL_beq] at this
theorem eqfields_c (l m : List Fi) (hl : l.length ≤ 140737488355328) (h : List (List AV)) : Contract Tryz.prog 108 [.sl 2 (enc fiC l) none .no, .sl 2 (enc fiC m) none .no] h (.v (.bool (l == m))) h [] := by
  have := equalN_any mixed k108 sameFi fiC (by simp) (by simp) (fun x y => by simp [fiC_mk, sameFi]) l m h hl
  rwa [show sameFi = (· == ·) from funext fun a => funext fun b => sameFi_eq a b, eqL_beq] at this
def sameB (a b : Bk) : Bool := a.kind == b.kind && (a.status == b.status && (a.tag == b.tag && (a.name == b.name && (a.value == b.value && (a.n == b.n && (a.m == b.m && (a.oids == b.oids && (a.cols == b.cols && (a.row == b.row && a.fields == b.fields)))))))))
theorem bsame_c (a b : Bk) (ha : BkFit a) (h : List (List AV)) : Contract Tryz.prog 70 [.agg (bkC a), .agg (bkC b)] h (.v (.bool (sameB a b))) h [] := by
  obtain ⟨q1, q2, q3, q4, _⟩ := ha
  refine contract_of k70 mixed (by simp [c70]) fun hh hargs => ?_
  unfold sameB
  cases p0 : a.kind == b.kind with
  | false => simp [c70, hh, p0]
  | true =>
  cases p1 : a.status == b.status with
  | false => simp [c70, hh, p0, p1]
  | true =>
  cases p2 : a.tag == b.tag with
  | false => simp [c70, hh, p0, p1, p2]
  | true =>
  cases p3 : a.name == b.name with
  | false => simp [c70, hh, p0, p1, p2, p3]
  | true =>
  cases p4 : a.value == b.value with
  | false => simp [c70, hh, p0, p1, p2, p3, p4]
  | true =>
  cases p5 : a.n == b.n with
  | false => simp [c70, hh, p0, p1, p2, p3, p4, p5]
  | true =>
  cases p6 : a.m == b.m with
  | false => simp [c70, hh, p0, p1, p2, p3, p4, p5, p6]
  | true =>
  simp [c70, p0, p1, p2, p3, p4, p5, p6]
  refine xcall_self (by simp) (sliceseq_c _ _ q1 _) ?_
  cases p7 : a.oids == b.oids with
  | false => simp [hh]
  | true =>
  simp
  refine xcall_self (by simp) (eqcols_c _ _ q2 _) ?_
  cases p8 : a.cols == b.cols with
  | false => simp [hh]
  | true =>
  simp
  refine xcall_self (by simp) (wsame_c _ _ q3 _) ?_
  cases p9 : a.row == b.row with
  | false => simp [hh]
  | true =>
  simp
  refine xcall_self (by simp) (eqfields_c _ _ q4 _) ?_
  simp [hh]

/-! ### Checks -/
def rstatB (m : Bk) : Bool := !(m.kind == 90) || statB m.status
theorem brstat_c (m : Bk) (h : List (List AV)) : Contract Tryz.prog 66 [.agg (bkC m)] h (.v (.bool (rstatB m))) h [] := by
  refine contract_of k66 mixed (by simp [c66]) fun hh hargs => ?_
  unfold rstatB
  cases h1 : m.kind == 90 with
  | false =>
    have e1 : (m.kind != 90) = true := by simp [bne, h1]
    simp [c66, hh, e1]
  | true =>
    have e1 : (m.kind != 90) = false := by simp [bne, h1]
    simp [c66, e1]
    refine xcall_self (by simp) (bstat_c _ _) ?_
    simp [hh]
def colB (c : Co) : Bool := cleanB c.name && ((unsB 4 c.table && unsB 4 c.oid) && ((unsB 2 c.attr && unsB 2 c.format) && (sgnB 2 c.size && sgnB 4 c.mod)))
theorem brcol_c (c : Co) (h : List (List AV)) : Contract Tryz.prog 96 [.agg (coC c)] h (.v (.bool (colB c))) h [] := by
  refine contract_of k96 mixed (by simp [c96]) fun hh hargs => ?_
  unfold colB
  simp [c96]
  refine xcall_of (wclean_c [c.name] (by simp) _) (by simp [strC]) (by simp) ?_
  simp only [List.all_cons, List.all_nil, Bool.and_true]
  cases p1 : cleanB c.name with
  | false => simp [hh]
  | true =>
  simp
  refine xcall_of (wuns_c 4 [c.table, c.oid] (by simp) _) (by simp [intC]) (by simp) ?_
  simp only [List.all_cons, List.all_nil, Bool.and_true]
  cases p2 : (unsB 4 c.table && unsB 4 c.oid) with
  | false => simp [hh]
  | true =>
  simp
  refine xcall_of (wuns_c 2 [c.attr, c.format] (by simp) _) (by simp [intC]) (by simp) ?_
  simp only [List.all_cons, List.all_nil, Bool.and_true]
  cases p3 : (unsB 2 c.attr && unsB 2 c.format) with
  | false => simp [hh]
  | true =>
  simp
  refine xcall_of (wsgn_c 2 [c.size] (by simp) _) (by simp [intC]) (by simp) ?_
  simp only [List.all_cons, List.all_nil, Bool.and_true]
  cases p4 : sgnB 2 c.size with
  | false => simp [hh]
  | true =>
  simp
  refine xcall_of (wsgn_c 4 [c.mod] (by simp) _) (by simp [intC]) (by simp) ?_
  simp [hh]
def fieldB (f : Fi) : Bool := !(f.code == 0) && cleanB f.text
theorem brfield_c (f : Fi) (h : List (List AV)) : Contract Tryz.prog 99 [.agg (fiC f)] h (.v (.bool (fieldB f))) h [] := by
  refine contract_of k99 mixed (by simp [c99]) fun hh hargs => ?_
  unfold fieldB
  cases h1 : f.code == 0 with
  | true =>
    have e1 : (f.code != 0) = false := by simp [bne, h1]
    simp [c99, hh, e1]
  | false =>
    have e1 : (f.code != 0) = true := by simp [bne, h1]
    simp [c99, e1]
    refine xcall_of (wclean_c [f.text] (by simp) _) (by simp [strC]) (by simp) ?_
    simp [hh]
theorem brl1_c (c : Co) (h : List (List AV)) : Contract Tryz.prog 95 [.agg (coC c)] h (.v (.bool (!colB c))) h [] := by
  refine contract_of k95 mixed (by simp [c95]) fun hh hargs => ?_
  simp [c95]
  refine xcall_self (by simp) (brcol_c _ _) ?_
  simp [hh]
theorem brl2_c (c : Fi) (h : List (List AV)) : Contract Tryz.prog 98 [.agg (fiC c)] h (.v (.bool (!fieldB c))) h [] := by
  refine contract_of k98 mixed (by simp [c98]) fun hh hargs => ?_
  simp [c98]
  refine xcall_self (by simp) (brfield_c _ _) ?_
  simp [hh]
def fewB (m : Bk) : Bool := decide ((m.oids.length : Int) ≤ 65535 ∧ (m.cols.length : Int) ≤ 65535 ∧ (m.row.length : Int) ≤ 65535 ∧ (m.fields.length : Int) ≤ 65535)
def blistsB (m : Bk) : Bool := fewB m && (m.oids.all (unsB 4) && (m.row.all cellB && (m.cols.all colB && m.fields.all fieldB)))
theorem brlists_c (m : Bk) (hf : BkFit m) (h : List (List AV)) : Contract Tryz.prog 67 [.agg (bkC m)] h (.v (.bool (blistsB m))) h [] := by
  obtain ⟨q1, q2, q3, q4, q5⟩ := hf
  refine contract_of k67 mixed (by simp [c67]) fun hh hargs => ?_
  unfold blistsB
  by_cases hL : (m.oids.length : Int) ≤ 65535 ∧ (m.cols.length : Int) ≤ 65535 ∧ (m.row.length : Int) ≤ 65535 ∧ (m.fields.length : Int) ≤ 65535
  · have e : fewB m = true := decide_eq_true hL
    rw [e]
    obtain ⟨l1, l2, l3, l4⟩ := hL
    simp [c67, l1, l2, l3, l4]
    refine xcall_self (by simp) (wuns_c 4 _ q1 _) ?_
    cases p1 : m.oids.all (unsB 4) with
    | false => simp [hh]
    | true =>
    simp
    refine xcall_self (by simp) (wcells_c _ q3 q5 _) ?_
    cases p2 : m.row.all cellB with
    | false => simp [hh]
    | true =>
    simp
    refine xcall_self (by simp) (containsN_any mixed k94 k123 coC (fun c => !colB c) m.cols [] _ (by simp) (by simp) (by simp) (fun c _ => brl1_c c _) q2) ?_
    rw [← List.not_all_eq_any_not]
    cases p3 : m.cols.all colB with
    | false => simp [hh]
    | true =>
    simp
    refine xcall_self (by simp) (containsN_any mixed k97 k125 fiC (fun c => !fieldB c) m.fields [] _ (by simp) (by simp) (by simp) (fun c _ => brl2_c c _) q4) ?_
    rw [← List.not_all_eq_any_not]
    simp [hh]
  · have e : fewB m = false := decide_eq_false hL
    rw [e]
    simp [c67, hL, hh]
/-- With those fields alone that the body has. -/
def saidB (m : Bk) : Bk :=
  if m.kind = 83 then ⟨83, 0, [], m.name, m.value, 0, 0, [], [], [], []⟩
  else if m.kind = 75 then ⟨75, 0, [], [], [], m.n, m.m, [], [], [], []⟩
  else if m.kind = 90 then ⟨90, m.status, [], [], [], 0, 0, [], [], [], []⟩
  else if m.kind = 67 then ⟨67, 0, m.tag, [], [], 0, 0, [], [], [], []⟩
  else if m.kind = 68 then ⟨68, 0, [], [], [], 0, 0, [], [], m.row, []⟩
  else if m.kind = 84 then ⟨84, 0, [], [], [], 0, 0, [], m.cols, [], []⟩
  else if m.kind = 116 then ⟨116, 0, [], [], [], 0, 0, m.oids, [], [], []⟩
  else if m.kind = 69 then ⟨69, 0, [], [], [], 0, 0, [], [], [], m.fields⟩
  else if m.kind = 78 then ⟨78, 0, [], [], [], 0, 0, [], [], [], m.fields⟩
  else ⟨m.kind, 0, [], [], [], 0, 0, [], [], [], []⟩
theorem bsaid_c (m : Bk) (h : List (List AV)) : Contract Tryz.prog 71 [.agg (bkC m)] h (.agg (bkC (saidB m))) h [] := by
  refine contract_of k71 mixed (by simp [c71]) fun hh hargs => ?_
  by_cases h83 : m.kind = 83
  · simp [c71, bkC_mk, hh, saidB, h83]
  by_cases h75 : m.kind = 75
  · simp [c71, bkC_mk, hh, saidB, h75]
  by_cases h90 : m.kind = 90
  · simp [c71, bkC_mk, hh, saidB, h90]
  by_cases h67 : m.kind = 67
  · simp [c71, bkC_mk, hh, saidB, h67]
  by_cases h68 : m.kind = 68
  · simp [c71, bkC_mk, hh, saidB, h68]
  by_cases h84 : m.kind = 84
  · simp [c71, bkC_mk, hh, saidB, h84]
  by_cases h116 : m.kind = 116
  · simp [c71, bkC_mk, hh, saidB, h116]
  by_cases h69 : m.kind = 69
  · simp [c71, bkC_mk, hh, saidB, h69]
  by_cases h78 : m.kind = 78
  · simp [c71, bkC_mk, hh, saidB, h78]
  simp [c71, bkC_mk, hh, saidB, h83, h75, h90, h67, h68, h84, h116, h69, h78]
def bcleanB (m : Bk) : Bool := cleanB m.tag && (cleanB m.name && cleanB m.value)
def bnumB (m : Bk) : Bool := unsB 4 m.n && unsB 4 m.m
def checkB (m : Bk) : Int :=
  if kindB m.kind = false then 9
  else if rstatB m && (blistsB m && (bcleanB m && (bnumB m && sameB m (saidB m)))) then 0 else 1
theorem bcheck_c (m : Bk) (hf : BkFit m) (h : List (List AV)) : Contract Tryz.prog 47 [.agg (bkC m)] h (.v (.int .i64 (checkB m))) h [] := by
  refine contract_of k47 mixed (by simp [c47]) fun hh hargs => ?_
  simp [c47]
  refine xcall_self (by simp) (bkind_c _ _) ?_
  cases hk : kindB m.kind with
  | false => simp [hh, checkB, hk]
  | true =>
  have e : checkB m = if rstatB m && (blistsB m && (bcleanB m && (bnumB m && sameB m (saidB m)))) then 0 else 1 := by unfold checkB; rw [hk]; rfl
  rw [e]
  simp
  refine xcall_self (by simp) (brstat_c m _) ?_
  cases p1 : rstatB m with
  | false => simp [hh]
  | true =>
  simp
  refine xcall_self (by simp) (brlists_c m hf _) ?_
  cases p2 : blistsB m with
  | false => simp [hh]
  | true =>
  simp
  refine xcall_of (wclean_c [m.tag, m.name, m.value] (by simp) _) (by simp [strC]) (by simp) ?_
  have hc : (cleanB m.tag && (cleanB m.name && cleanB m.value)) = bcleanB m := rfl
  simp only [List.all_cons, List.all_nil, Bool.and_true, hc]
  cases p3 : bcleanB m with
  | false => simp [hh]
  | true =>
  simp
  refine xcall_of (wuns_c 4 [m.n, m.m] (by simp) _) (by simp [intC]) (by simp) ?_
  have hn : (unsB 4 m.n && unsB 4 m.m) = bnumB m := rfl
  simp only [List.all_cons, List.all_nil, Bool.and_true, hn]
  cases p4 : bnumB m with
  | false => simp [hh]
  | true =>
  simp
  refine xcall_self (by simp) (bsaid_c m _) ?_
  simp
  refine xcall_self (by simp) (bsame_c m (saidB m) hf _) ?_
  cases p5 : sameB m (saidB m) <;> simp [hh]

/-! ### Bodies -/
theorem wlistK_c (e : Co → List UInt8) (l : List Co) (g : FuncId) (cap : List AV) (h : List (List AV)) (hl : (listL e l).length ≤ 140737488355328) (hl2 : l.length ≤ 140737488355328) (hcap : ∀ c ∈ cap, c.idOf = none) (hlt : ltL h.length cap)
    (hg : ∀ n, n ∈ l → ∀ h', Contract Tryz.prog g (.agg (coC n) :: cap) (h ++ h') (.sl 1 (bytesE (e n)) none (.own .res)) (h ++ h') []) :
    Contract Tryz.prog 75 [.sl 7 (enc coC l) none .no, .fn (.func g) [] cap] h (.sl 1 (bytesE (listL e l)) none (.own .res)) h [] := by
  refine contract_of k75 mixed (by simp [c75]) fun hh hargs => ?_
  simp at hargs
  simp [c75]
  refine xcall_of (put_c [] l.length 2 (by simp) h) (by simp) (by simp) ?_
  simp
  refine xloop_ok (D := Nat) (fun j => ⟨[(1, .fn (.func g) [] cap), (11, .sl 7 (enc coC l) none .no), (12, .v (.int .i64 l.length)), (13, .v (.int .i64 j))], [(5, .sl 1 (bytesE (putL [] l.length 2 ++ (l.take j).flatMap e)) none (.own (.slot 5)))], h, []⟩) (fun j => j ≤ l.length) (fun j => l.length - j) 0 (by simp) ?_ ?_
  · simp [Leq, hh, hargs]
  · intro j hj
    by_cases hlt : j < l.length
    · have hlt' : (j : Int) < l.length := by omega
      have hw : IntKind.i64.wrap ((j : Int) + 1) = (j : Int) + 1 := wrap64 (by omega) (by omega)
      obtain ⟨hx, hb⟩ := flat_step e l (putL [] l.length 2).length j hlt _ (by simpa [listL] using hl)
      have hq : ∀ y ∈ (AV.agg (coC l[j])) :: cap, y.idOf = none := by simpa using hcap
      simp [hlt, hlt']
      refine ⟨hcap, xcall_self hq (hg l[j] (List.getElem_mem _) _) ?_⟩
      simp [idsOf_none hq, idsOf_none hcap, hw, -List.length_flatMap]
      refine ⟨by omega, j + 1, by omega, by omega, ?_⟩
      simp [Leq, hh, hargs, hx]
    · have hlt' : ¬ (j : Int) < l.length := by omega
      have : j = l.length := by omega
      subst this
      simp [hh, listL]
end Go.Proofs.YtofkddajlgebjaaGreat.Ax
/- Package back over values without memory: bodies, messages as bytes, bytes as messages. -/
namespace Go.Proofs.YtofkddajlgebjaaGreat.Ax
open Go.RowKit Go By YtofkddajlgebjaaGreat.Nm Sc Dg
set_option linter.unusedSimpArgs false
set_option linter.unusedVariables false
set_option maxRecDepth 10000

theorem blong_c (n : Int) (h : List (List AV)) : Contract Tryz.prog 72 [.v (.int .i64 n)] h (.sl 1 (bytesE (numE 4 n)) none (.own .res)) h [] := by
  refine contract_of k72 mixed (by simp [c72]) fun hh hargs => ?_
  simp [c72]
  refine xcall_of (put_c [] n 4 (by simp) h) (by simp) (by simp) ?_
  simp [hh, numE]
theorem bshort_c (n : Int) (h : List (List AV)) : Contract Tryz.prog 111 [.v (.int .i64 n)] h (.sl 1 (bytesE (numE 2 n)) none (.own .res)) h [] := by
  refine contract_of k111 mixed (by simp [c111]) fun hh hargs => ?_
  simp [c111]
  refine xcall_of (put_c [] n 2 (by simp) h) (by simp) (by simp) ?_
  simp [hh, numE]
theorem numE_len (size n : Int) (h : size ≤ 4) : (numE size n).length ≤ 4 := by
  have := put_len n size h []
  simpa [numE] using this
/-- A column's bytes. -/
def colE (c : Co) : List UInt8 := textsL [c.name] ++ (numE 4 c.table ++ (numE 2 c.attr ++ (numE 4 c.oid ++ (numE 2 c.size ++ (numE 4 c.mod ++ numE 2 c.format)))))
theorem bcol_c (c : Co) (hl : c.name.length ≤ 70000000000000) (h : List (List AV)) : Contract Tryz.prog 76 [.agg (coC c)] h (.sl 1 (bytesE (colE c)) none (.own .res)) h [] := by
  have ht : (textsL [c.name]).length = c.name.length + 1 := by simp [textsL, He.encT]
  have l1 := numE_len 4 c.table (by omega)
  have l2 := numE_len 2 c.attr (by omega)
  have l3 := numE_len 4 c.oid (by omega)
  have l4 := numE_len 2 c.size (by omega)
  have l5 := numE_len 4 c.mod (by omega)
  have l6 := numE_len 2 c.format (by omega)
  refine contract_of k76 mixed (by simp [c76]) fun hh hargs => ?_
  simp [c76]
  refine xcall_of (wtexts_c [c.name] (by omega) _) (by simp [strC]) (by simp) ?_
  simp
  refine xcall_self (by simp) (blong_c _ _) ?_
  simp
  refine xcall_self (by simp) (bshort_c _ _) ?_
  simp
  refine xcall_self (by simp) (blong_c _ _) ?_
  simp
  refine xcall_self (by simp) (bshort_c _ _) ?_
  simp
  refine xcall_self (by simp) (blong_c _ _) ?_
  simp
  refine xcall_self (by simp) (bshort_c _ _) ?_
  simp
  refine xcall_of (concat_c [textsL [c.name], numE 4 c.table, numE 2 c.attr, numE 4 c.oid, numE 2 c.size, numE 4 c.mod, numE 2 c.format] _ (by simp; omega) (by simp)) (by simp [bytC]) (by simp) ?_
  simp [hh, colE]
/-- A field's bytes; those of some. -/
def fieldE (f : Fi) : List UInt8 := UInt8.ofNat f.code.toNat :: textsL [f.text]
def fieldsE (l : List Fi) : List UInt8 := l.flatMap fieldE ++ [0]
theorem bfields_c (l : List Fi) (hl : (fieldsE l).length ≤ 140737488351232) (hn : l.length ≤ 140737488355328) (hc : ∀ f ∈ l, 0 ≤ f.code ∧ f.code < 256) (h : List (List AV)) : Contract Tryz.prog 78 [.sl 2 (enc fiC l) none .no] h (.sl 1 (bytesE (fieldsE l)) none (.own .res)) h [] := by
  refine contract_of k78 mixed (by simp [c78]) fun hh hargs => ?_
  unfold fieldsE at hl
  rw [List.length_append, List.length_singleton] at hl
  simp [c78]
  refine xloop_ok (D := Nat) (fun j => ⟨[(6, .sl 2 (enc fiC l) none .no), (7, .v (.int .i64 l.length)), (8, .v (.int .i64 j))], [(3, .sl 1 (bytesE ((l.take j).flatMap fieldE)) none (.own (.slot 3)))], h, []⟩) (fun j => j ≤ l.length) (fun j => l.length - j) 0 (by simp) ?_ ?_
  · simp [Leq, hh]
  · intro j hj
    by_cases hlt : j < l.length
    · have hw : IntKind.i64.wrap ((j : Int) + 1) = (j : Int) + 1 := wrap64 (by omega) (by omega)
      obtain ⟨hx, hb⟩ := flat_step fieldE l 1 j hlt 140737488351232 (by omega)
      have hc1 := hc l[j] (List.getElem_mem _)
      have hc3 : max l[j].code 0 % 256 = l[j].code := by omega
      unfold fieldE at hb
      rw [List.length_cons] at hb
      change 1 + ((List.flatMap fieldE (List.take j l)).length + _) ≤ _ at hb
      simp [hlt, -List.length_flatMap]
      refine ⟨by omega, ?_⟩
      refine xcall_of (wtexts_c [l[j].text] (by omega) _) (by simp [strC]) (by simp) ?_
      simp [hw, -List.length_flatMap]
      refine ⟨by omega, j + 1, by omega, by omega, ?_⟩
      simp [Leq, hh, hx, fieldE, hc3]
    · have : j = l.length := by omega
      subst this
      simp [hh, fieldsE, -List.length_flatMap]
      omega
/-- A body. -/
def bodyB (m : Bk) : List UInt8 :=
  if m.kind = 82 then numE 4 0
  else if m.kind = 83 then textsL [m.name, m.value]
  else if m.kind = 75 then numE 4 m.n ++ numE 4 m.m
  else if m.kind = 90 then [UInt8.ofNat m.status.toNat]
  else if m.kind = 67 then textsL [m.tag]
  else if m.kind = 68 then listL cellE m.row
  else if m.kind = 84 then listL colE m.cols
  else if m.kind = 116 then listL (numE 4) m.oids
  else if m.kind = 69 ∨ m.kind = 78 then fieldsE m.fields
  else []
/-- What memory holds of it. -/
def BkOk (m : Bk) : Prop := (0 ≤ m.status ∧ m.status < 256) ∧ (∀ c ∈ m.row, c.2.length ≤ 70000000000000) ∧ (∀ c ∈ m.cols, c.name.length ≤ 70000000000000) ∧ ∀ f ∈ m.fields, 0 ≤ f.code ∧ f.code < 256
theorem bbody_c (m : Bk) (hf : BkFit m) (ho : BkOk m) (hb : (bodyB m).length ≤ 140737488351232) (h : List (List AV)) : Contract Tryz.prog 48 [.agg (bkC m)] h (.sl 1 (bytesE (bodyB m)) none .no) h [] := by
  obtain ⟨q1, q2, q3, q4, q5⟩ := hf
  obtain ⟨o1, o2, o3, o4⟩ := ho
  refine contract_of k48 mixed (by simp [c48]) fun hh hargs => ?_
  unfold bodyB at hb ⊢
  by_cases h82 : m.kind = 82
  · simp [c48, h82]
    refine xcall_self (by simp) (blong_c 0 _) ?_
    simp [hh]
  rw [if_neg h82] at hb ⊢
  by_cases h83 : m.kind = 83
  · rw [if_pos h83] at hb
    simp [c48, h83]
    refine xcall_of (wtexts_c [m.name, m.value] (by omega) _) (by simp [strC]) (by simp) ?_
    simp [hh]
  rw [if_neg h83] at hb ⊢
  by_cases h75 : m.kind = 75
  · have l1 := numE_len 4 m.n (by omega)
    have l2 := numE_len 4 m.m (by omega)
    simp [c48, h75]
    refine xcall_self (by simp) (blong_c _ _) ?_
    simp
    refine xcall_self (by simp) (blong_c _ _) ?_
    simp
    refine xcall_of (concat_c [numE 4 m.n, numE 4 m.m] _ (by simp; omega) (by simp)) (by simp [bytC]) (by simp) ?_
    simp [hh]
  rw [if_neg h75] at hb ⊢
  by_cases h90 : m.kind = 90
  · have hw : max m.status 0 % 256 = m.status := by omega
    simp [c48, h90, hh, hw]
  rw [if_neg h90] at hb ⊢
  by_cases h67 : m.kind = 67
  · rw [if_pos h67] at hb
    simp [c48, h67]
    refine xcall_of (wtexts_c [m.tag] (by omega) _) (by simp [strC]) (by simp) ?_
    simp [hh]
  rw [if_neg h67] at hb ⊢
  by_cases h68 : m.kind = 68
  · rw [if_pos h68] at hb
    simp [c48, h68]
    refine xcall_self (by simp) (wcells2_c m.row _ (by omega) q3 o2) ?_
    simp [hh]
  rw [if_neg h68] at hb ⊢
  by_cases h84 : m.kind = 84
  · rw [if_pos h84] at hb
    simp [c48, h84]
    refine xcall_self (by simp) (wlistK_c colE m.cols _ [] _ (by omega) q2 (by simp) (by simp) fun n hn h' => bcol_c n (o3 n hn) _) ?_
    simp [hh]
  rw [if_neg h84] at hb ⊢
  by_cases h116 : m.kind = 116
  · rw [if_pos h116] at hb
    simp [c48, h116]
    refine xcall_self (by simp) (wnumbers_c 4 m.oids _ (by omega) q1) ?_
    simp [hh]
  rw [if_neg h116] at hb ⊢
  by_cases h69 : m.kind = 69 ∨ m.kind = 78
  · rw [if_pos h69] at hb
    rcases h69 with h69 | h69
    all_goals
      simp [c48, h69]
      refine xcall_self (by simp) (bfields_c m.fields (by omega) q4 o4 _) ?_
      simp [hh]
  have h69' : ¬ m.kind = 69 := fun h => h69 (.inl h)
  have h78' : ¬ m.kind = 78 := fun h => h69 (.inr h)
  rw [if_neg h69]
  simp [c48, h82, h83, h75, h90, h67, h68, h84, h116, h69', h78', hh]
def encB (m : Bk) : Ms × Int := if checkB m = 0 then (⟨m.kind, bodyB m⟩, 0) else (⟨0, []⟩, checkB m)
theorem encB_ok {m : Bk} (h : checkB m = 0) : encB m = (⟨m.kind, bodyB m⟩, 0) := by unfold encB; rw [if_pos h]
theorem encB_no {m : Bk} (h : ¬ checkB m = 0) : encB m = (⟨0, []⟩, checkB m) := by unfold encB; rw [if_neg h]
theorem bencode_c (m : Bk) (hf : BkFit m) (ho : BkOk m) (hb : (bodyB m).length ≤ 140737488351232) (h : List (List AV)) : Contract Tryz.prog 32 [.agg (bkC m)] h (.tup [.agg (msC (encB m).1), .v (.int .i64 (encB m).2)]) h [] := by
  refine contract_of k32 mixed (by simp [c32]) fun hh hargs => ?_
  simp [c32]
  refine xcall_self (by simp) (bcheck_c m hf _) ?_
  by_cases he : checkB m = 0
  · simp [he]
    refine xcall_self (by simp) (bbody_c m hf ho hb _) ?_
    simp [hh, encB, he, msC_mk]
  · simp [he, hh, encB, msC_mk]

/-! ### Bytes -/
open He (textL)
/-- Messages' bytes. -/
def oneB (m : Bk) : List UInt8 := if checkB m = 0 then UInt8.ofNat m.kind.toNat :: (numE 4 ((bodyB m).length + 4) ++ bodyB m) else []
theorem oneB_ok {m : Bk} (h : checkB m = 0) : oneB m = UInt8.ofNat m.kind.toNat :: (numE 4 ((bodyB m).length + 4) ++ bodyB m) := by unfold oneB; rw [if_pos h]
theorem oneB_no {m : Bk} (h : ¬ checkB m = 0) : oneB m = [] := by unfold oneB; rw [if_neg h]
theorem numE_eq (size n : Int) : numE size n = putL [] n size := rfl
def bytesB (l : List Bk) : List UInt8 := l.flatMap oneB
theorem kind_range {k : Int} (h : kindB k = true) : 0 ≤ k ∧ k < 256 := by
  unfold kindB at h
  have := of_decide_eq_true h
  omega
theorem checkB_kind {m : Bk} (h : checkB m = 0) : kindB m.kind = true := by
  cases hk : kindB m.kind with
  | true => rfl
  | false => unfold checkB at h; rw [hk] at h; cases h
end Go.Proofs.YtofkddajlgebjaaGreat.Ax
/- Package back: messages' bytes. -/
namespace Go.Proofs.YtofkddajlgebjaaGreat.Ax
open Go.RowKit Go By YtofkddajlgebjaaGreat.Nm Sc Dg
set_option linter.unusedSimpArgs false
set_option linter.unusedVariables false
set_option maxRecDepth 10000

theorem bb_step (l : List Bk) {M : Nat} (hl : (bytesB l).length ≤ M) (j : Nat) (hlt : j < l.length) : bytesB (l.take (j + 1)) = bytesB (l.take j) ++ oneB l[j] ∧ (bytesB (l.take j)).length + (oneB l[j]).length ≤ M := by
  unfold bytesB at *
  obtain ⟨hx, hb⟩ := flat_step oneB l 0 j hlt M (by rw [Nat.zero_add]; exact hl)
  exact ⟨hx, by rw [Nat.zero_add] at hb; exact hb⟩
theorem oneB_len {m : Bk} (h : checkB m = 0) : (oneB m).length = (numE 4 ((bodyB m).length + 4)).length + (bodyB m).length + 1 := by
  rw [oneB_ok h, List.length_cons, List.length_append]
theorem bb_le {a n b : Nat} (h : a + (n + b + 1) ≤ 140737488351232) : a ≤ 140737488355327 ∧ a + 1 + n ≤ 140737488355328 ∧ a + 1 + n + b ≤ 140737488355328 := by omega
theorem bb_two {a : Nat} {m : Bk} (h : checkB m = 0) (hb : a + (oneB m).length ≤ 140737488351232) : a ≤ 140737488355327 ∧ a + 1 + (numE 4 ((bodyB m).length + 4)).length ≤ 140737488355328 ∧ a + 1 + (numE 4 ((bodyB m).length + 4)).length + (bodyB m).length ≤ 140737488355328 := by
  rw [oneB_len h] at hb
  exact bb_le hb
theorem w1 (x : Nat) (f3 : x ≤ 140737488351232) : IntKind.i64.wrap ((x : Int) + 4) = (x : Int) + 4 := wrap64 (by omega) (by omega)
theorem kmod (k : Int) (hk : 0 ≤ k ∧ k < 256) : max k 0 % 256 = k := by omega
theorem put4_c (n : Int) (h : List (List AV)) : Contract Tryz.prog 33 [.sl 1 (bytesE []) none .no, .v (.int .i64 n), .v (.int .i64 4)] h (.sl 1 (bytesE (numE 4 n)) none (.own .res)) h [] := by
  rw [numE_eq]
  exact put_c [] n 4 (by simp) h
theorem bytesE_msg (B E X : List UInt8) (k : Int) (hk : max k 0 % 256 = k) : bytesE (B ++ UInt8.ofNat k.toNat :: (E ++ X)) = bytesE B ++ [[AV.v (.int .u8 k)]] ++ bytesE E ++ bytesE X := by simp [hk]
theorem bbytes_c (l : List Bk) (hf : ∀ m ∈ l, BkFit m ∧ BkOk m ∧ (bodyB m).length ≤ 140737488351232) (hl : (bytesB l).length ≤ 140737488351232) (hn : l.length ≤ 140737488351232) (h : List (List AV)) : Contract Tryz.prog 22 [.sl 11 (enc bkC l) none .no] h (.sl 1 (bytesE (bytesB l)) none (.own .res)) h [] := by
  refine contract_of k22 mixed (by simp [c22]) fun hh hargs => ?_
  simp [c22]
  refine xloop_ok (D := Nat) (fun j => ⟨[(8, .sl 11 (enc bkC l) none .no), (9, .v (.int .i64 l.length)), (10, .v (.int .i64 j))], [(3, .sl 1 (bytesE (bytesB (l.take j))) none (.own (.slot 3)))], h, []⟩) (fun j => j ≤ l.length) (fun j => l.length - j) 0 (by simp) ?_ ?_
  · simp [Leq, hh, bytesB]
  · intro j hj
    by_cases hlt : j < l.length
    · have hw : IntKind.i64.wrap ((j : Int) + 1) = (j : Int) + 1 := wrap64 (by omega) (by omega)
      obtain ⟨hx', hb'⟩ := bb_step l hl j hlt
      obtain ⟨f1, f2, f3⟩ := hf l[j] (List.getElem_mem _)
      simp [hlt]
      generalize l[j] = m at *
      refine xcall_self (by simp) (bencode_c m f1 f2 f3 _) ?_
      by_cases he : checkB m = 0
      · have e1 : encB m = (⟨m.kind, bodyB m⟩, 0) := if_pos he
        have e2 : oneB m = UInt8.ofNat m.kind.toNat :: (numE 4 ((bodyB m).length + 4) ++ bodyB m) := if_pos he
        have hk3 := kmod m.kind (kind_range (checkB_kind he))
        have hw2 := w1 (bodyB m).length f3
        obtain ⟨b1, b2, b3⟩ := bb_two he hb'
        rw [e2] at hx'
        rw [e1]
        clear hb' e1 e2 hl hf f1 f2 f3
        simp [hw2]
        refine ⟨b1, ?_⟩
        clear hw2
        generalize ((bodyB m).length : Int) + 4 = n at *
        refine xcall_of (put4_c n _) (by simp) (by simp) ?_
        generalize numE 4 n = E at *
        generalize bodyB m = X at *
        simp [hw, -List.append_assoc]
        refine ⟨b2, b3, j + 1, by omega, by omega, ?_⟩
        have hx2 := bytesE_msg (bytesB (l.take j)) E X m.kind hk3
        rw [← hx'] at hx2
        simp [Leq, hh, hx2, -List.append_assoc]
      · have e2 := oneB_no he
        rw [e2, List.append_nil] at hx'
        rw [encB_no he]
        simp [he, hw]
        refine ⟨j + 1, by omega, by omega, ?_⟩
        simp [Leq, hh, hx']
    · have : j = l.length := by omega
      subst this
      simp [hh]
end Go.Proofs.YtofkddajlgebjaaGreat.Ax
/- Columns and fields there and back. -/
namespace Go.Proofs.YtofkddajlgebjaaGreat.Ax
open Go.RowKit Go By YtofkddajlgebjaaGreat.Nm Sc Dg
open He (textL)
set_option linter.unusedSimpArgs false
set_option linter.unusedVariables false

theorem signed2 (n : Int) : signedI n 2 = if 32768 ≤ n ∧ n < 65536 then n - 65536 else n := by
  have e : szB 2 = true := rfl
  have e2 : powI 2 = 65536 := rfl
  unfold signedI
  rw [e, e2]
  simp only [true_and]
  split <;> split <;> omega
/-! ### Fields -/
end Go.Proofs.YtofkddajlgebjaaGreat.Ax
/- Back's messages there and back, on lists of bytes. -/
namespace Go.Proofs.YtofkddajlgebjaaGreat.Ax
open Go.RowKit Go By YtofkddajlgebjaaGreat.Nm Sc Dg
open He (textL)
set_option linter.unusedSimpArgs false
set_option linter.unusedVariables false

section
variable (st : Sta)
end
section
variable {m : Bk}
end
end Go.Proofs.YtofkddajlgebjaaGreat.Ax
namespace Go.Proofs.YtofkddajlgebjaaGreat.Ax
open Go.RowKit Go By YtofkddajlgebjaaGreat.Nm Sc Dg
open He (textL)
set_option linter.unusedSimpArgs false
set_option linter.unusedVariables false

/-- What memory holds of what was read. -/
def Held (m : Bk) : Prop := BkFit m ∧ BkOk m
/-! ### Messages -/
end Go.Proofs.YtofkddajlgebjaaGreat.Ax
