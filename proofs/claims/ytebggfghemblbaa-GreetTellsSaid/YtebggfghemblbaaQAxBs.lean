/- What is read of back's messages has just these bytes. -/
import Derived.Test.YtebggfghemblbaaQAxXr
import Derived.Test.YtebggfghemblbaaRows
import Derived.Test.YtebggfghemblbaaQAxPl
import Derived.Test.YtebggfghemblbaaQAxFm
/- The texts of functions over values without memory, as the kernel reckons them out of the program. -/
namespace Go.Proofs.Ytebggfghemblbaa.Ax
open Go.RowKit Go By

def c72 : XFun := ⟨9, (.seq (.ops [⟨(some 4), (.assign (.const (.bool false))), none⟩]) (.seq (.ops [⟨(some 5), (.move (.tmp 0)), none⟩, ⟨(some 6), (.move (.tmp 1)), none⟩, ⟨(some 7), (.call 98 [(.tmp 5), (.tmp 6)]), none⟩, ⟨(some 8), (.bin .geq (.tmp 7) (.const (.int .i64 0))), none⟩, ⟨(some 4), (.assign (.tmp 8)), none⟩]) .ret)), [(.move (.tmp 4))]⟩
theorem k72 : cfun Try.prog 72 = some c72 := by kernel_rfl
def c98 : XFun := ⟨19, (.seq (.ops [⟨(some 4), (.assign (.const (.int .i64 0))), none⟩]) (.seq (.seq (.ops [⟨(some 6), (.move (.tmp 0)), none⟩, ⟨(some 7), (.lenL (.tmp 6)), none⟩, ⟨(some 8), (.move (.const (.int .i64 0))), none⟩]) (.block 0 (.loop (.seq (.ops [⟨(some 9), (.bin .lss (.tmp 8) (.tmp 7)), none⟩]) (.seq (.cond (.tmp 9) .skip (.exit 0)) (.seq (.block 1 (.seq (.ops [⟨(some 10), (.move (.tmp 8)), none⟩, ⟨(some 5), (.assign (.tmp 10)), none⟩]) (.seq (.ops [⟨(some 11), (.move (.tmp 1)), none⟩, ⟨(some 12), (.move (.tmp 0)), none⟩, ⟨(some 13), (.move (.tmp 5)), none⟩, ⟨(some 14), (.iaddr 7 (.tmp 12) (.tmp 13)), none⟩, ⟨(some 15), (.loadN 7 (.tmp 14)), none⟩, ⟨(some 16), (.callv (.tmp 11) [(.tmp 15)]), none⟩]) (.cond (.tmp 16) (.seq (.ops [⟨(some 17), (.move (.tmp 5)), none⟩, ⟨(some 4), (.assign (.tmp 17)), none⟩]) .ret) .skip)))) (.ops [⟨(some 18), (.bin .add (.tmp 8) (.const (.int .i64 1))), none⟩, ⟨(some 8), (.move (.tmp 18)), none⟩]))))))) (.seq (.ops [⟨(some 4), (.assign (.const (.int .i64 (-1)))), none⟩]) .ret))), [(.move (.tmp 4))]⟩
theorem k98 : cfun Try.prog 98 = some c98 := by kernel_rfl
def c75 : XFun := ⟨9, (.seq (.ops [⟨(some 4), (.assign (.const (.bool false))), none⟩]) (.seq (.ops [⟨(some 5), (.move (.tmp 0)), none⟩, ⟨(some 6), (.move (.tmp 1)), none⟩, ⟨(some 7), (.call 100 [(.tmp 5), (.tmp 6)]), none⟩, ⟨(some 8), (.bin .geq (.tmp 7) (.const (.int .i64 0))), none⟩, ⟨(some 4), (.assign (.tmp 8)), none⟩]) .ret)), [(.move (.tmp 4))]⟩
theorem k75 : cfun Try.prog 75 = some c75 := by kernel_rfl
def c100 : XFun := ⟨19, (.seq (.ops [⟨(some 4), (.assign (.const (.int .i64 0))), none⟩]) (.seq (.seq (.ops [⟨(some 6), (.move (.tmp 0)), none⟩, ⟨(some 7), (.lenL (.tmp 6)), none⟩, ⟨(some 8), (.move (.const (.int .i64 0))), none⟩]) (.block 0 (.loop (.seq (.ops [⟨(some 9), (.bin .lss (.tmp 8) (.tmp 7)), none⟩]) (.seq (.cond (.tmp 9) .skip (.exit 0)) (.seq (.block 1 (.seq (.ops [⟨(some 10), (.move (.tmp 8)), none⟩, ⟨(some 5), (.assign (.tmp 10)), none⟩]) (.seq (.ops [⟨(some 11), (.move (.tmp 1)), none⟩, ⟨(some 12), (.move (.tmp 0)), none⟩, ⟨(some 13), (.move (.tmp 5)), none⟩, ⟨(some 14), (.iaddr 2 (.tmp 12) (.tmp 13)), none⟩, ⟨(some 15), (.loadN 2 (.tmp 14)), none⟩, ⟨(some 16), (.callv (.tmp 11) [(.tmp 15)]), none⟩]) (.cond (.tmp 16) (.seq (.ops [⟨(some 17), (.move (.tmp 5)), none⟩, ⟨(some 4), (.assign (.tmp 17)), none⟩]) .ret) .skip)))) (.ops [⟨(some 18), (.bin .add (.tmp 8) (.const (.int .i64 1))), none⟩, ⟨(some 8), (.move (.tmp 18)), none⟩]))))))) (.seq (.ops [⟨(some 4), (.assign (.const (.int .i64 (-1)))), none⟩]) .ret))), [(.move (.tmp 4))]⟩
theorem k100 : cfun Try.prog 100 = some c100 := by kernel_rfl
def c84 : XFun := ⟨26, (.seq (.ops [⟨(some 4), (.assign (.const (.bool false))), none⟩]) (.seq (.seq (.ops [⟨(some 6), (.move (.tmp 0)), none⟩, ⟨(some 7), (.lenL (.tmp 6)), none⟩, ⟨(some 8), (.move (.tmp 1)), none⟩, ⟨(some 9), (.lenL (.tmp 8)), none⟩, ⟨(some 10), (.bin .neq (.tmp 7) (.tmp 9)), none⟩]) (.cond (.tmp 10) (.seq (.ops [⟨(some 4), (.assign (.const (.bool false))), none⟩]) .ret) .skip)) (.seq (.seq (.ops [⟨(some 11), (.move (.tmp 0)), none⟩, ⟨(some 12), (.lenL (.tmp 11)), none⟩, ⟨(some 13), (.move (.const (.int .i64 0))), none⟩]) (.block 0 (.loop (.seq (.ops [⟨(some 14), (.bin .lss (.tmp 13) (.tmp 12)), none⟩]) (.seq (.cond (.tmp 14) .skip (.exit 0)) (.seq (.block 1 (.seq (.ops [⟨(some 15), (.move (.tmp 13)), none⟩, ⟨(some 5), (.assign (.tmp 15)), none⟩]) (.seq (.draws (.take ⟨(some 16), (.move (.tmp 0)), none⟩ (.take ⟨(some 17), (.move (.tmp 5)), none⟩ (.take ⟨(some 18), (.iaddr 7 (.tmp 16) (.tmp 17)), none⟩ (.take ⟨(some 19), (.loadN 7 (.tmp 18)), none⟩ (.take ⟨(some 20), (.move (.tmp 1)), none⟩ (.take ⟨(some 21), (.move (.tmp 5)), none⟩ (.take ⟨(some 22), (.iaddr 7 (.tmp 20) (.tmp 21)), none⟩ (.take ⟨(some 23), (.loadN 7 (.tmp 22)), none⟩ (.take ⟨(some 24), (.aeq true [2, 1, 1, 1, 1, 1, 1] (.tmp 19) (.tmp 23)), none⟩ .done)))))))))) (.cond (.tmp 24) (.seq (.ops [⟨(some 4), (.assign (.const (.bool false))), none⟩]) .ret) .skip)))) (.ops [⟨(some 25), (.bin .add (.tmp 13) (.const (.int .i64 1))), none⟩, ⟨(some 13), (.move (.tmp 25)), none⟩]))))))) (.seq (.ops [⟨(some 4), (.assign (.const (.bool true))), none⟩]) .ret)))), [(.move (.tmp 4))]⟩
theorem k84 : cfun Try.prog 84 = some c84 := by kernel_rfl
def c86 : XFun := ⟨26, (.seq (.ops [⟨(some 4), (.assign (.const (.bool false))), none⟩]) (.seq (.seq (.ops [⟨(some 6), (.move (.tmp 0)), none⟩, ⟨(some 7), (.lenL (.tmp 6)), none⟩, ⟨(some 8), (.move (.tmp 1)), none⟩, ⟨(some 9), (.lenL (.tmp 8)), none⟩, ⟨(some 10), (.bin .neq (.tmp 7) (.tmp 9)), none⟩]) (.cond (.tmp 10) (.seq (.ops [⟨(some 4), (.assign (.const (.bool false))), none⟩]) .ret) .skip)) (.seq (.seq (.ops [⟨(some 11), (.move (.tmp 0)), none⟩, ⟨(some 12), (.lenL (.tmp 11)), none⟩, ⟨(some 13), (.move (.const (.int .i64 0))), none⟩]) (.block 0 (.loop (.seq (.ops [⟨(some 14), (.bin .lss (.tmp 13) (.tmp 12)), none⟩]) (.seq (.cond (.tmp 14) .skip (.exit 0)) (.seq (.block 1 (.seq (.ops [⟨(some 15), (.move (.tmp 13)), none⟩, ⟨(some 5), (.assign (.tmp 15)), none⟩]) (.seq (.draws (.take ⟨(some 16), (.move (.tmp 0)), none⟩ (.take ⟨(some 17), (.move (.tmp 5)), none⟩ (.take ⟨(some 18), (.iaddr 2 (.tmp 16) (.tmp 17)), none⟩ (.take ⟨(some 19), (.loadN 2 (.tmp 18)), none⟩ (.take ⟨(some 20), (.move (.tmp 1)), none⟩ (.take ⟨(some 21), (.move (.tmp 5)), none⟩ (.take ⟨(some 22), (.iaddr 2 (.tmp 20) (.tmp 21)), none⟩ (.take ⟨(some 23), (.loadN 2 (.tmp 22)), none⟩ (.take ⟨(some 24), (.aeq true [1, 2] (.tmp 19) (.tmp 23)), none⟩ .done)))))))))) (.cond (.tmp 24) (.seq (.ops [⟨(some 4), (.assign (.const (.bool false))), none⟩]) .ret) .skip)))) (.ops [⟨(some 25), (.bin .add (.tmp 13) (.const (.int .i64 1))), none⟩, ⟨(some 13), (.move (.tmp 25)), none⟩]))))))) (.seq (.ops [⟨(some 4), (.assign (.const (.bool true))), none⟩]) .ret)))), [(.move (.tmp 4))]⟩
theorem k86 : cfun Try.prog 86 = some c86 := by kernel_rfl
def c117 : XFun := ⟨24, (.seq (.ops [⟨(some 4), (.assign (.const (.slice none 0 0))), none⟩]) (.seq (.ops [⟨(some 8), (.move (.tmp 0)), none⟩, ⟨(some 9), (.lenL (.tmp 8)), none⟩, ⟨(some 10), (.call 60 [(.const (.slice none 0 0)), (.tmp 9), (.const (.int .i64 2))]), none⟩, ⟨(some 5), (.assign (.tmp 10)), none⟩]) (.seq (.seq (.ops [⟨(some 11), (.move (.tmp 0)), none⟩, ⟨(some 12), (.lenL (.tmp 11)), none⟩, ⟨(some 13), (.move (.const (.int .i64 0))), none⟩]) (.block 0 (.loop (.seq (.ops [⟨(some 14), (.bin .lss (.tmp 13) (.tmp 12)), none⟩]) (.seq (.cond (.tmp 14) .skip (.exit 0)) (.seq (.block 1 (.seq (.ops [⟨(some 15), (.iaddr 7 (.tmp 11) (.tmp 13)), none⟩, ⟨(some 16), (.loadN 7 (.tmp 15)), none⟩, ⟨(some 7), (.alloc [(.v (.string (strB []))), (.v (.int .i64 0)), (.v (.int .i64 0)), (.v (.int .i64 0)), (.v (.int .i64 0)), (.v (.int .i64 0)), (.v (.int .i64 0))]), none⟩, ⟨none, (.store 7 (.tmp 7) (.tmp 16)), none⟩]) (.ops [⟨(some 17), (.move (.tmp 5)), none⟩, ⟨(some 18), (.move (.tmp 1)), none⟩, ⟨(some 19), (.loadN 7 (.tmp 7)), none⟩, ⟨(some 20), (.callv (.tmp 18) [(.tmp 19)]), none⟩, ⟨(some 21), (.append 1 1 (.tmp 17) (.tmp 20)), none⟩, ⟨(some 5), (.assign (.tmp 21)), none⟩]))) (.ops [⟨(some 22), (.bin .add (.tmp 13) (.const (.int .i64 1))), none⟩, ⟨(some 13), (.move (.tmp 22)), none⟩]))))))) (.seq (.ops [⟨(some 23), (.move (.tmp 5)), none⟩, ⟨(some 4), (.assign (.tmp 23)), none⟩]) .ret)))), [(.move (.tmp 4))]⟩
theorem k117 : cfun Try.prog 117 = some c117 := by kernel_rfl
def c59 : XFun := ⟨16, (.seq (.ops [⟨(some 1), (.box (.tmp 0)), none⟩, ⟨(some 2), (.alloc [(.v (.int .u8 0)), (.sl 0 [] (some true) .exact)]), none⟩, ⟨(some 3), (.assign (.const (.int .i64 0))), none⟩]) (.seq (.seq (.ops [⟨(some 5), (.loadN 11 (.tmp 1)), none⟩, ⟨(some 6), (.call 20 [(.tmp 5)]), none⟩, ⟨(some 4), (.assign (.tmp 6)), none⟩]) (.seq (.ops [⟨(some 7), (.move (.tmp 4)), none⟩, ⟨(some 8), (.bin .neq (.tmp 7) (.const (.int .i64 0))), none⟩]) (.cond (.tmp 8) (.seq (.ops [⟨(some 9), (.build [(.v (.int .u8 0)), (.sl 0 [] (some true) .exact)] []), none⟩, ⟨(some 10), (.move (.tmp 4)), none⟩, ⟨none, (.store 2 (.tmp 2) (.tmp 9)), none⟩, ⟨(some 3), (.assign (.tmp 10)), none⟩]) .ret) .skip))) (.seq (.draws (.take ⟨(some 11), (.faddr 0 (.tmp 1)), none⟩ (.take ⟨(some 12), (.load1 (.tmp 11)), none⟩ (.take ⟨(some 13), (.loadN 11 (.tmp 1)), none⟩ (.only ⟨(some 14), (.call 89 [(.tmp 13)]), none⟩ (.take ⟨(some 15), (.build [(.v (.int .u8 0)), (.sl 0 [] (some true) .exact)] [(0, (1, (.tmp 12))), (1, (1, (.tmp 14)))]), none⟩ (.only ⟨none, (.store 2 (.tmp 2) (.tmp 15)), none⟩ (.take ⟨(some 3), (.assign (.const (.int .i64 0))), none⟩ .done)))))))) .ret))), [(.loadN 2 (.tmp 2)), (.move (.tmp 3))]⟩
theorem k59 : cfun Try.prog 59 = some c59 := by kernel_rfl
def c55 : XFun := ⟨80, (.seq (.ops [⟨(some 2), (.box (.tmp 0)), none⟩, ⟨(some 3), (.box (.tmp 1)), none⟩, ⟨(some 4), (.assign (.const (.bool false))), none⟩]) (.seq (.ops [⟨(some 5), (.faddr 0 (.tmp 2)), none⟩, ⟨(some 6), (.load1 (.tmp 5)), none⟩, ⟨(some 7), (.faddr 0 (.tmp 3)), none⟩, ⟨(some 8), (.load1 (.tmp 7)), none⟩, ⟨(some 9), (.bin .eql (.tmp 6) (.tmp 8)), none⟩, ⟨(some 10), (.move (.tmp 9)), none⟩, ⟨(some 11), (.faddr 1 (.tmp 2)), (some (10, true))⟩, ⟨(some 12), (.load1 (.tmp 11)), (some (10, true))⟩, ⟨(some 13), (.faddr 1 (.tmp 3)), (some (10, true))⟩, ⟨(some 14), (.load1 (.tmp 13)), (some (10, true))⟩, ⟨(some 15), (.bin .eql (.tmp 12) (.tmp 14)), (some (10, true))⟩, ⟨(some 16), (.pick (.tmp 10) (.tmp 15) (.const (.bool false))), none⟩, ⟨(some 17), (.move (.tmp 16)), none⟩, ⟨(some 18), (.faddr 2 (.tmp 2)), (some (17, true))⟩, ⟨(some 19), (.load1 (.tmp 18)), (some (17, true))⟩, ⟨(some 20), (.faddr 2 (.tmp 3)), (some (17, true))⟩, ⟨(some 21), (.load1 (.tmp 20)), (some (17, true))⟩, ⟨(some 22), (.bin .eql (.tmp 19) (.tmp 21)), (some (17, true))⟩, ⟨(some 23), (.pick (.tmp 17) (.tmp 22) (.const (.bool false))), none⟩, ⟨(some 24), (.move (.tmp 23)), none⟩, ⟨(some 25), (.faddr 3 (.tmp 2)), (some (24, true))⟩, ⟨(some 26), (.load1 (.tmp 25)), (some (24, true))⟩, ⟨(some 27), (.faddr 3 (.tmp 3)), (some (24, true))⟩, ⟨(some 28), (.load1 (.tmp 27)), (some (24, true))⟩, ⟨(some 29), (.bin .eql (.tmp 26) (.tmp 28)), (some (24, true))⟩, ⟨(some 30), (.pick (.tmp 24) (.tmp 29) (.const (.bool false))), none⟩, ⟨(some 31), (.move (.tmp 30)), none⟩, ⟨(some 32), (.faddr 4 (.tmp 2)), (some (31, true))⟩, ⟨(some 33), (.load1 (.tmp 32)), (some (31, true))⟩, ⟨(some 34), (.faddr 4 (.tmp 3)), (some (31, true))⟩, ⟨(some 35), (.load1 (.tmp 34)), (some (31, true))⟩, ⟨(some 36), (.bin .eql (.tmp 33) (.tmp 35)), (some (31, true))⟩, ⟨(some 37), (.pick (.tmp 31) (.tmp 36) (.const (.bool false))), none⟩, ⟨(some 38), (.move (.tmp 37)), none⟩, ⟨(some 39), (.faddr 5 (.tmp 2)), (some (38, true))⟩, ⟨(some 40), (.load1 (.tmp 39)), (some (38, true))⟩, ⟨(some 41), (.faddr 5 (.tmp 3)), (some (38, true))⟩, ⟨(some 42), (.load1 (.tmp 41)), (some (38, true))⟩, ⟨(some 43), (.bin .eql (.tmp 40) (.tmp 42)), (some (38, true))⟩, ⟨(some 44), (.pick (.tmp 38) (.tmp 43) (.const (.bool false))), none⟩, ⟨(some 45), (.move (.tmp 44)), none⟩, ⟨(some 46), (.faddr 6 (.tmp 2)), (some (45, true))⟩, ⟨(some 47), (.load1 (.tmp 46)), (some (45, true))⟩, ⟨(some 48), (.faddr 6 (.tmp 3)), (some (45, true))⟩, ⟨(some 49), (.load1 (.tmp 48)), (some (45, true))⟩, ⟨(some 50), (.bin .eql (.tmp 47) (.tmp 49)), (some (45, true))⟩, ⟨(some 51), (.pick (.tmp 45) (.tmp 50) (.const (.bool false))), none⟩, ⟨(some 52), (.move (.tmp 51)), none⟩, ⟨(some 53), (.faddr 7 (.tmp 2)), (some (52, true))⟩, ⟨(some 54), (.load1 (.tmp 53)), (some (52, true))⟩, ⟨(some 55), (.faddr 7 (.tmp 3)), (some (52, true))⟩, ⟨(some 56), (.load1 (.tmp 55)), (some (52, true))⟩, ⟨(some 57), (.call 68 [(.tmp 54), (.tmp 56)]), (some (52, true))⟩, ⟨(some 58), (.pick (.tmp 52) (.tmp 57) (.const (.bool false))), none⟩, ⟨(some 59), (.move (.tmp 58)), none⟩, ⟨(some 60), (.faddr 8 (.tmp 2)), (some (59, true))⟩, ⟨(some 61), (.load1 (.tmp 60)), (some (59, true))⟩, ⟨(some 62), (.faddr 8 (.tmp 3)), (some (59, true))⟩, ⟨(some 63), (.load1 (.tmp 62)), (some (59, true))⟩, ⟨(some 64), (.call 84 [(.tmp 61), (.tmp 63)]), (some (59, true))⟩, ⟨(some 65), (.pick (.tmp 59) (.tmp 64) (.const (.bool false))), none⟩, ⟨(some 66), (.move (.tmp 65)), none⟩, ⟨(some 67), (.faddr 9 (.tmp 2)), (some (66, true))⟩, ⟨(some 68), (.load1 (.tmp 67)), (some (66, true))⟩, ⟨(some 69), (.faddr 9 (.tmp 3)), (some (66, true))⟩, ⟨(some 70), (.load1 (.tmp 69)), (some (66, true))⟩, ⟨(some 71), (.call 85 [(.tmp 68), (.tmp 70)]), (some (66, true))⟩, ⟨(some 72), (.pick (.tmp 66) (.tmp 71) (.const (.bool false))), none⟩, ⟨(some 73), (.move (.tmp 72)), none⟩, ⟨(some 74), (.faddr 10 (.tmp 2)), (some (73, true))⟩, ⟨(some 75), (.load1 (.tmp 74)), (some (73, true))⟩, ⟨(some 76), (.faddr 10 (.tmp 3)), (some (73, true))⟩, ⟨(some 77), (.load1 (.tmp 76)), (some (73, true))⟩, ⟨(some 78), (.call 86 [(.tmp 75), (.tmp 77)]), (some (73, true))⟩, ⟨(some 79), (.pick (.tmp 73) (.tmp 78) (.const (.bool false))), none⟩, ⟨(some 4), (.assign (.tmp 79)), none⟩]) .ret)), [(.move (.tmp 4))]⟩
theorem k55 : cfun Try.prog 55 = some c55 := by kernel_rfl
def c32 : XFun := ⟨39, (.seq (.ops [⟨(some 2), (.assign (.const (.slice none 0 0))), none⟩]) (.seq (.ops [⟨(some 3), (.assign (.const (.slice none 0 0))), none⟩]) (.seq (.seq (.ops [⟨(some 8), (.move (.tmp 0)), none⟩, ⟨(some 9), (.lenL (.tmp 8)), none⟩, ⟨(some 10), (.move (.const (.int .i64 0))), none⟩]) (.block 0 (.loop (.seq (.ops [⟨(some 11), (.bin .lss (.tmp 10) (.tmp 9)), none⟩]) (.seq (.cond (.tmp 11) .skip (.exit 0)) (.seq (.block 1 (.seq (.ops [⟨(some 12), (.iaddr 11 (.tmp 8) (.tmp 10)), none⟩, ⟨(some 13), (.loadN 11 (.tmp 12)), none⟩, ⟨(some 5), (.alloc [(.v (.int .u8 0)), (.v (.int .u8 0)), (.v (.string (strB []))), (.v (.string (strB []))), (.v (.string (strB []))), (.v (.int .i64 0)), (.v (.int .i64 0)), (.sl 0 [] (some true) .exact), (.sl 0 [] (some true) .exact), (.sl 0 [] (some true) .exact), (.sl 0 [] (some true) .exact)]), none⟩, ⟨none, (.store 11 (.tmp 5) (.tmp 13)), none⟩]) (.seq (.ops [⟨(some 15), (.loadN 11 (.tmp 5)), none⟩, ⟨(some 16), (.call 59 [(.tmp 15)]), none⟩, ⟨(some 14), (.move (.tmp 16)), none⟩, ⟨(some 17), (.extract (.tmp 14) 0), none⟩, ⟨(some 18), (.extract (.tmp 14) 1), none⟩, ⟨(some 6), (.alloc [(.v (.int .u8 0)), (.sl 0 [] (some true) .exact)]), none⟩, ⟨none, (.store 2 (.tmp 6) (.tmp 17)), none⟩, ⟨(some 7), (.assign (.tmp 18)), none⟩]) (.seq (.seq (.ops [⟨(some 19), (.move (.tmp 7)), none⟩, ⟨(some 20), (.bin .neq (.tmp 19) (.const (.int .i64 0))), none⟩]) (.cond (.tmp 20) (.exit 1) .skip)) (.seq (.ops [⟨(some 21), (.move (.tmp 3)), none⟩, ⟨(some 22), (.faddr 0 (.tmp 6)), none⟩, ⟨(some 23), (.load1 (.tmp 22)), none⟩, ⟨(some 24), (.buildSlice 1 1 [(.v (.int .u8 0))] [(0, (.tmp 23))]), none⟩, ⟨(some 25), (.append 1 1 (.tmp 21) (.tmp 24)), none⟩, ⟨(some 3), (.assign (.tmp 25)), none⟩]) (.seq (.ops [⟨(some 26), (.move (.tmp 3)), none⟩, ⟨(some 27), (.faddr 1 (.tmp 6)), none⟩, ⟨(some 28), (.load1 (.tmp 27)), none⟩, ⟨(some 29), (.lenL (.tmp 28)), none⟩, ⟨(some 30), (.bin .add (.tmp 29) (.const (.int .i64 4))), none⟩, ⟨(some 31), (.call 60 [(.const (.slice none 0 0)), (.tmp 30), (.const (.int .i64 4))]), none⟩, ⟨(some 32), (.append 1 1 (.tmp 26) (.tmp 31)), none⟩, ⟨(some 3), (.assign (.tmp 32)), none⟩]) (.ops [⟨(some 33), (.move (.tmp 3)), none⟩, ⟨(some 34), (.faddr 1 (.tmp 6)), none⟩, ⟨(some 35), (.load1 (.tmp 34)), none⟩, ⟨(some 36), (.append 1 1 (.tmp 33) (.tmp 35)), none⟩, ⟨(some 3), (.assign (.tmp 36)), none⟩]))))))) (.ops [⟨(some 37), (.bin .add (.tmp 10) (.const (.int .i64 1))), none⟩, ⟨(some 10), (.move (.tmp 37)), none⟩]))))))) (.seq (.ops [⟨(some 38), (.move (.tmp 3)), none⟩, ⟨(some 2), (.assign (.tmp 38)), none⟩]) .ret)))), [(.move (.tmp 2))]⟩
theorem k32 : cfun Try.prog 32 = some c32 := by kernel_rfl
def c20 : XFun := ⟨42, (.seq (.ops [⟨(some 1), (.box (.tmp 0)), none⟩, ⟨(some 2), (.assign (.const (.int .i64 0))), none⟩]) (.seq (.seq (.ops [⟨(some 3), (.faddr 0 (.tmp 1)), none⟩, ⟨(some 4), (.load1 (.tmp 3)), none⟩, ⟨(some 5), (.call 50 [(.tmp 4)]), none⟩, ⟨(some 6), (.un .not (.tmp 5)), none⟩]) (.cond (.tmp 6) (.seq (.ops [⟨(some 2), (.assign (.const (.int .i64 9))), none⟩]) .ret) .skip)) (.seq (.seq (.draws (.take ⟨(some 7), (.loadN 11 (.tmp 1)), none⟩ (.only ⟨(some 8), (.call 51 [(.tmp 7)]), none⟩ (.take ⟨(some 9), (.un .not (.tmp 8)), none⟩ (.take ⟨(some 10), (.move (.tmp 9)), none⟩ (.take ⟨(some 11), (.loadN 11 (.tmp 1)), (some (10, false))⟩ (.only ⟨(some 12), (.call 52 [(.tmp 11)]), (some (10, false))⟩ (.take ⟨(some 13), (.un .not (.tmp 12)), (some (10, false))⟩ (.take ⟨(some 14), (.pick (.tmp 10) (.const (.bool true)) (.tmp 13)), none⟩ (.take ⟨(some 15), (.move (.tmp 14)), none⟩ (.take ⟨(some 16), (.faddr 2 (.tmp 1)), (some (15, false))⟩ (.take ⟨(some 17), (.load1 (.tmp 16)), (some (15, false))⟩ (.take ⟨(some 18), (.faddr 3 (.tmp 1)), (some (15, false))⟩ (.take ⟨(some 19), (.load1 (.tmp 18)), (some (15, false))⟩ (.take ⟨(some 20), (.faddr 4 (.tmp 1)), (some (15, false))⟩ (.take ⟨(some 21), (.load1 (.tmp 20)), (some (15, false))⟩ (.only ⟨(some 22), (.buildSlice 1 3 [(.v (.string (strB [])))] [(0, (.tmp 17)), (1, (.tmp 19)), (2, (.tmp 21))]), (some (15, false))⟩ (.only ⟨(some 23), (.call 53 [(.tmp 22)]), (some (15, false))⟩ (.take ⟨(some 24), (.un .not (.tmp 23)), (some (15, false))⟩ (.take ⟨(some 25), (.pick (.tmp 15) (.const (.bool true)) (.tmp 24)), none⟩ (.take ⟨(some 26), (.move (.tmp 25)), none⟩ (.take ⟨(some 27), (.faddr 5 (.tmp 1)), (some (26, false))⟩ (.take ⟨(some 28), (.load1 (.tmp 27)), (some (26, false))⟩ (.take ⟨(some 29), (.faddr 6 (.tmp 1)), (some (26, false))⟩ (.take ⟨(some 30), (.load1 (.tmp 29)), (some (26, false))⟩ (.only ⟨(some 31), (.buildSlice 1 2 [(.v (.int .i64 0))] [(0, (.tmp 28)), (1, (.tmp 30))]), (some (26, false))⟩ (.only ⟨(some 32), (.call 54 [(.const (.int .i64 4)), (.tmp 31)]), (some (26, false))⟩ (.take ⟨(some 33), (.un .not (.tmp 32)), (some (26, false))⟩ (.take ⟨(some 34), (.pick (.tmp 26) (.const (.bool true)) (.tmp 33)), none⟩ (.take ⟨(some 35), (.move (.tmp 34)), none⟩ (.take ⟨(some 36), (.loadN 11 (.tmp 1)), (some (35, false))⟩ (.take ⟨(some 37), (.loadN 11 (.tmp 1)), (some (35, false))⟩ (.only ⟨(some 38), (.call 56 [(.tmp 37)]), (some (35, false))⟩ (.only ⟨(some 39), (.call 55 [(.tmp 36), (.tmp 38)]), (some (35, false))⟩ (.take ⟨(some 40), (.un .not (.tmp 39)), (some (35, false))⟩ (.take ⟨(some 41), (.pick (.tmp 35) (.const (.bool true)) (.tmp 40)), none⟩ .done)))))))))))))))))))))))))))))))))))) (.cond (.tmp 41) (.seq (.ops [⟨(some 2), (.assign (.const (.int .i64 1))), none⟩]) .ret) .skip)) (.seq (.ops [⟨(some 2), (.assign (.const (.int .i64 0))), none⟩]) .ret)))), [(.move (.tmp 2))]⟩
theorem k20 : cfun Try.prog 20 = some c20 := by kernel_rfl
def c89 : XFun := ⟨58, (.seq (.ops [⟨(some 1), (.box (.tmp 0)), none⟩, ⟨(some 2), (.assign (.const (.slice none 0 0))), none⟩]) (.seq (.seq (.ops [⟨(some 3), (.faddr 0 (.tmp 1)), none⟩, ⟨(some 4), (.load1 (.tmp 3)), none⟩]) (.block 0 (.seq (.ops [⟨(some 6), (.bin .eql (.tmp 4) (.const (.int .u8 82))), none⟩, ⟨(some 5), (.assign (.tmp 6)), none⟩]) (.cond (.tmp 5) (.seq (.ops [⟨(some 7), (.call 113 [(.const (.int .i64 0))]), none⟩, ⟨(some 2), (.assign (.tmp 7)), none⟩]) .ret) (.seq (.ops [⟨(some 9), (.bin .eql (.tmp 4) (.const (.int .u8 83))), none⟩, ⟨(some 8), (.assign (.tmp 9)), none⟩]) (.cond (.tmp 8) (.seq (.ops [⟨(some 10), (.faddr 3 (.tmp 1)), none⟩, ⟨(some 11), (.load1 (.tmp 10)), none⟩, ⟨(some 12), (.faddr 4 (.tmp 1)), none⟩, ⟨(some 13), (.load1 (.tmp 12)), none⟩, ⟨(some 14), (.buildSlice 1 2 [(.v (.string (strB [])))] [(0, (.tmp 11)), (1, (.tmp 13))]), none⟩, ⟨(some 15), (.call 114 [(.tmp 14)]), none⟩, ⟨(some 2), (.assign (.tmp 15)), none⟩]) .ret) (.seq (.ops [⟨(some 17), (.bin .eql (.tmp 4) (.const (.int .u8 75))), none⟩, ⟨(some 16), (.assign (.tmp 17)), none⟩]) (.cond (.tmp 16) (.seq (.draws (.take ⟨(some 18), (.faddr 5 (.tmp 1)), none⟩ (.take ⟨(some 19), (.load1 (.tmp 18)), none⟩ (.take ⟨(some 21), (.faddr 6 (.tmp 1)), none⟩ (.take ⟨(some 22), (.load1 (.tmp 21)), none⟩ (.only ⟨(some 20), (.call 113 [(.tmp 19)]), none⟩ (.only ⟨(some 23), (.call 113 [(.tmp 22)]), none⟩ (.only ⟨(some 24), (.buildSlice 1 2 [(.sl 0 [] (some true) .exact)] [(0, (.tmp 20)), (1, (.tmp 23))]), none⟩ (.only ⟨(some 25), (.call 115 [(.tmp 24)]), none⟩ (.take ⟨(some 2), (.assign (.tmp 25)), none⟩ .done)))))))))) .ret) (.seq (.ops [⟨(some 27), (.bin .eql (.tmp 4) (.const (.int .u8 90))), none⟩, ⟨(some 26), (.assign (.tmp 27)), none⟩]) (.cond (.tmp 26) (.seq (.ops [⟨(some 28), (.faddr 1 (.tmp 1)), none⟩, ⟨(some 29), (.load1 (.tmp 28)), none⟩, ⟨(some 30), (.buildSlice 1 1 [(.v (.int .u8 0))] [(0, (.tmp 29))]), none⟩, ⟨(some 2), (.assign (.tmp 30)), none⟩]) .ret) (.seq (.ops [⟨(some 32), (.bin .eql (.tmp 4) (.const (.int .u8 67))), none⟩, ⟨(some 31), (.assign (.tmp 32)), none⟩]) (.cond (.tmp 31) (.seq (.ops [⟨(some 33), (.faddr 2 (.tmp 1)), none⟩, ⟨(some 34), (.load1 (.tmp 33)), none⟩, ⟨(some 35), (.buildSlice 1 1 [(.v (.string (strB [])))] [(0, (.tmp 34))]), none⟩, ⟨(some 36), (.call 114 [(.tmp 35)]), none⟩, ⟨(some 2), (.assign (.tmp 36)), none⟩]) .ret) (.seq (.ops [⟨(some 38), (.bin .eql (.tmp 4) (.const (.int .u8 68))), none⟩, ⟨(some 37), (.assign (.tmp 38)), none⟩]) (.cond (.tmp 37) (.seq (.ops [⟨(some 39), (.faddr 9 (.tmp 1)), none⟩, ⟨(some 40), (.load1 (.tmp 39)), none⟩, ⟨(some 41), (.call 116 [(.tmp 40)]), none⟩, ⟨(some 2), (.assign (.tmp 41)), none⟩]) .ret) (.seq (.ops [⟨(some 43), (.bin .eql (.tmp 4) (.const (.int .u8 84))), none⟩, ⟨(some 42), (.assign (.tmp 43)), none⟩]) (.cond (.tmp 42) (.seq (.ops [⟨(some 44), (.faddr 8 (.tmp 1)), none⟩, ⟨(some 45), (.load1 (.tmp 44)), none⟩, ⟨(some 46), (.call 117 [(.tmp 45), (.func 118)]), none⟩, ⟨(some 2), (.assign (.tmp 46)), none⟩]) .ret) (.seq (.ops [⟨(some 48), (.bin .eql (.tmp 4) (.const (.int .u8 116))), none⟩, ⟨(some 47), (.assign (.tmp 48)), none⟩]) (.cond (.tmp 47) (.seq (.ops [⟨(some 49), (.faddr 7 (.tmp 1)), none⟩, ⟨(some 50), (.load1 (.tmp 49)), none⟩, ⟨(some 51), (.call 119 [(.const (.int .i64 4)), (.tmp 50)]), none⟩, ⟨(some 2), (.assign (.tmp 51)), none⟩]) .ret) (.seq (.seq (.ops [⟨(some 53), (.bin .eql (.tmp 4) (.const (.int .u8 69))), none⟩, ⟨(some 52), (.assign (.tmp 53)), none⟩]) (.cond (.tmp 52) .skip (.ops [⟨(some 54), (.bin .eql (.tmp 4) (.const (.int .u8 78))), none⟩, ⟨(some 52), (.assign (.tmp 54)), none⟩]))) (.cond (.tmp 52) (.seq (.ops [⟨(some 55), (.faddr 10 (.tmp 1)), none⟩, ⟨(some 56), (.load1 (.tmp 55)), none⟩, ⟨(some 57), (.call 120 [(.tmp 56)]), none⟩, ⟨(some 2), (.assign (.tmp 57)), none⟩]) .ret) .skip)))))))))))))))))))) (.seq (.ops [⟨(some 2), (.assign (.const (.slice none 0 0))), none⟩]) .ret))), [(.move (.tmp 2))]⟩
theorem k89 : cfun Try.prog 89 = some c89 := by kernel_rfl
def c50 : XFun := ⟨21, (.seq (.ops [⟨(some 2), (.assign (.const (.bool false))), none⟩]) (.seq (.seq (.ops [⟨(some 3), (.move (.tmp 0)), none⟩]) (.block 0 (.seq (.seq (.ops [⟨(some 5), (.bin .eql (.tmp 3) (.const (.int .u8 82))), none⟩, ⟨(some 4), (.assign (.tmp 5)), none⟩]) (.cond (.tmp 4) .skip (.seq (.ops [⟨(some 6), (.bin .eql (.tmp 3) (.const (.int .u8 83))), none⟩, ⟨(some 4), (.assign (.tmp 6)), none⟩]) (.cond (.tmp 4) .skip (.seq (.ops [⟨(some 7), (.bin .eql (.tmp 3) (.const (.int .u8 75))), none⟩, ⟨(some 4), (.assign (.tmp 7)), none⟩]) (.cond (.tmp 4) .skip (.seq (.ops [⟨(some 8), (.bin .eql (.tmp 3) (.const (.int .u8 90))), none⟩, ⟨(some 4), (.assign (.tmp 8)), none⟩]) (.cond (.tmp 4) .skip (.seq (.ops [⟨(some 9), (.bin .eql (.tmp 3) (.const (.int .u8 49))), none⟩, ⟨(some 4), (.assign (.tmp 9)), none⟩]) (.cond (.tmp 4) .skip (.seq (.ops [⟨(some 10), (.bin .eql (.tmp 3) (.const (.int .u8 50))), none⟩, ⟨(some 4), (.assign (.tmp 10)), none⟩]) (.cond (.tmp 4) .skip (.seq (.ops [⟨(some 11), (.bin .eql (.tmp 3) (.const (.int .u8 51))), none⟩, ⟨(some 4), (.assign (.tmp 11)), none⟩]) (.cond (.tmp 4) .skip (.seq (.ops [⟨(some 12), (.bin .eql (.tmp 3) (.const (.int .u8 110))), none⟩, ⟨(some 4), (.assign (.tmp 12)), none⟩]) (.cond (.tmp 4) .skip (.seq (.ops [⟨(some 13), (.bin .eql (.tmp 3) (.const (.int .u8 115))), none⟩, ⟨(some 4), (.assign (.tmp 13)), none⟩]) (.cond (.tmp 4) .skip (.seq (.ops [⟨(some 14), (.bin .eql (.tmp 3) (.const (.int .u8 73))), none⟩, ⟨(some 4), (.assign (.tmp 14)), none⟩]) (.cond (.tmp 4) .skip (.seq (.ops [⟨(some 15), (.bin .eql (.tmp 3) (.const (.int .u8 67))), none⟩, ⟨(some 4), (.assign (.tmp 15)), none⟩]) (.cond (.tmp 4) .skip (.seq (.ops [⟨(some 16), (.bin .eql (.tmp 3) (.const (.int .u8 68))), none⟩, ⟨(some 4), (.assign (.tmp 16)), none⟩]) (.cond (.tmp 4) .skip (.seq (.ops [⟨(some 17), (.bin .eql (.tmp 3) (.const (.int .u8 84))), none⟩, ⟨(some 4), (.assign (.tmp 17)), none⟩]) (.cond (.tmp 4) .skip (.seq (.ops [⟨(some 18), (.bin .eql (.tmp 3) (.const (.int .u8 116))), none⟩, ⟨(some 4), (.assign (.tmp 18)), none⟩]) (.cond (.tmp 4) .skip (.seq (.ops [⟨(some 19), (.bin .eql (.tmp 3) (.const (.int .u8 69))), none⟩, ⟨(some 4), (.assign (.tmp 19)), none⟩]) (.cond (.tmp 4) .skip (.ops [⟨(some 20), (.bin .eql (.tmp 3) (.const (.int .u8 78))), none⟩, ⟨(some 4), (.assign (.tmp 20)), none⟩]))))))))))))))))))))))))))))))) (.cond (.tmp 4) (.seq (.ops [⟨(some 2), (.assign (.const (.bool true))), none⟩]) .ret) .skip)))) (.seq (.ops [⟨(some 2), (.assign (.const (.bool false))), none⟩]) .ret))), [(.move (.tmp 2))]⟩
theorem k50 : cfun Try.prog 50 = some c50 := by kernel_rfl
def c51 : XFun := ⟨11, (.seq (.ops [⟨(some 1), (.box (.tmp 0)), none⟩, ⟨(some 2), (.assign (.const (.bool false))), none⟩]) (.seq (.ops [⟨(some 3), (.faddr 0 (.tmp 1)), none⟩, ⟨(some 4), (.load1 (.tmp 3)), none⟩, ⟨(some 5), (.bin .neq (.tmp 4) (.const (.int .u8 90))), none⟩, ⟨(some 6), (.move (.tmp 5)), none⟩, ⟨(some 7), (.faddr 1 (.tmp 1)), (some (6, false))⟩, ⟨(some 8), (.load1 (.tmp 7)), (some (6, false))⟩, ⟨(some 9), (.call 70 [(.tmp 8)]), (some (6, false))⟩, ⟨(some 10), (.pick (.tmp 6) (.const (.bool true)) (.tmp 9)), none⟩, ⟨(some 2), (.assign (.tmp 10)), none⟩]) .ret)), [(.move (.tmp 2))]⟩
theorem k51 : cfun Try.prog 51 = some c51 := by kernel_rfl
def c52 : XFun := ⟨39, (.seq (.ops [⟨(some 1), (.box (.tmp 0)), none⟩, ⟨(some 2), (.assign (.const (.bool false))), none⟩]) (.seq (.ops [⟨(some 3), (.faddr 7 (.tmp 1)), none⟩, ⟨(some 4), (.load1 (.tmp 3)), none⟩, ⟨(some 5), (.lenL (.tmp 4)), none⟩, ⟨(some 6), (.faddr 8 (.tmp 1)), none⟩, ⟨(some 7), (.load1 (.tmp 6)), none⟩, ⟨(some 8), (.lenL (.tmp 7)), none⟩, ⟨(some 9), (.faddr 9 (.tmp 1)), none⟩, ⟨(some 10), (.load1 (.tmp 9)), none⟩, ⟨(some 11), (.lenL (.tmp 10)), none⟩, ⟨(some 12), (.faddr 10 (.tmp 1)), none⟩, ⟨(some 13), (.load1 (.tmp 12)), none⟩, ⟨(some 14), (.lenL (.tmp 13)), none⟩, ⟨(some 15), (.maxI [(.tmp 5), (.tmp 8), (.tmp 11), (.tmp 14)]), none⟩, ⟨(some 16), (.bin .leq (.tmp 15) (.const (.int .i64 65535))), none⟩, ⟨(some 17), (.move (.tmp 16)), none⟩, ⟨(some 18), (.faddr 7 (.tmp 1)), (some (17, true))⟩, ⟨(some 19), (.load1 (.tmp 18)), (some (17, true))⟩, ⟨(some 20), (.call 54 [(.const (.int .i64 4)), (.tmp 19)]), (some (17, true))⟩, ⟨(some 21), (.pick (.tmp 17) (.tmp 20) (.const (.bool false))), none⟩, ⟨(some 22), (.move (.tmp 21)), none⟩, ⟨(some 23), (.faddr 9 (.tmp 1)), (some (22, true))⟩, ⟨(some 24), (.load1 (.tmp 23)), (some (22, true))⟩, ⟨(some 25), (.call 71 [(.tmp 24)]), (some (22, true))⟩, ⟨(some 26), (.pick (.tmp 22) (.tmp 25) (.const (.bool false))), none⟩, ⟨(some 27), (.move (.tmp 26)), none⟩, ⟨(some 28), (.faddr 8 (.tmp 1)), (some (27, true))⟩, ⟨(some 29), (.load1 (.tmp 28)), (some (27, true))⟩, ⟨(some 30), (.call 72 [(.tmp 29), (.func 73)]), (some (27, true))⟩, ⟨(some 31), (.un .not (.tmp 30)), (some (27, true))⟩, ⟨(some 32), (.pick (.tmp 27) (.tmp 31) (.const (.bool false))), none⟩, ⟨(some 33), (.move (.tmp 32)), none⟩, ⟨(some 34), (.faddr 10 (.tmp 1)), (some (33, true))⟩, ⟨(some 35), (.load1 (.tmp 34)), (some (33, true))⟩, ⟨(some 36), (.call 75 [(.tmp 35), (.func 76)]), (some (33, true))⟩, ⟨(some 37), (.un .not (.tmp 36)), (some (33, true))⟩, ⟨(some 38), (.pick (.tmp 33) (.tmp 37) (.const (.bool false))), none⟩, ⟨(some 2), (.assign (.tmp 38)), none⟩]) .ret)), [(.move (.tmp 2))]⟩
theorem k52 : cfun Try.prog 52 = some c52 := by kernel_rfl
def c73 : XFun := ⟨6, (.seq (.ops [⟨(some 1), (.box (.tmp 0)), none⟩, ⟨(some 2), (.assign (.const (.bool false))), none⟩]) (.seq (.ops [⟨(some 3), (.loadN 7 (.tmp 1)), none⟩, ⟨(some 4), (.call 74 [(.tmp 3)]), none⟩, ⟨(some 5), (.un .not (.tmp 4)), none⟩, ⟨(some 2), (.assign (.tmp 5)), none⟩]) .ret)), [(.move (.tmp 2))]⟩
theorem k73 : cfun Try.prog 73 = some c73 := by kernel_rfl
def c76 : XFun := ⟨6, (.seq (.ops [⟨(some 1), (.box (.tmp 0)), none⟩, ⟨(some 2), (.assign (.const (.bool false))), none⟩]) (.seq (.ops [⟨(some 3), (.loadN 2 (.tmp 1)), none⟩, ⟨(some 4), (.call 77 [(.tmp 3)]), none⟩, ⟨(some 5), (.un .not (.tmp 4)), none⟩, ⟨(some 2), (.assign (.tmp 5)), none⟩]) .ret)), [(.move (.tmp 2))]⟩
theorem k76 : cfun Try.prog 76 = some c76 := by kernel_rfl
def c74 : XFun := ⟨35, (.seq (.ops [⟨(some 1), (.box (.tmp 0)), none⟩, ⟨(some 2), (.assign (.const (.bool false))), none⟩]) (.seq (.ops [⟨(some 3), (.faddr 0 (.tmp 1)), none⟩, ⟨(some 4), (.load1 (.tmp 3)), none⟩, ⟨(some 5), (.buildSlice 1 1 [(.v (.string (strB [])))] [(0, (.tmp 4))]), none⟩, ⟨(some 6), (.call 53 [(.tmp 5)]), none⟩, ⟨(some 7), (.move (.tmp 6)), none⟩, ⟨(some 8), (.faddr 1 (.tmp 1)), (some (7, true))⟩, ⟨(some 9), (.load1 (.tmp 8)), (some (7, true))⟩, ⟨(some 10), (.faddr 3 (.tmp 1)), (some (7, true))⟩, ⟨(some 11), (.load1 (.tmp 10)), (some (7, true))⟩, ⟨(some 12), (.buildSlice 1 2 [(.v (.int .i64 0))] [(0, (.tmp 9)), (1, (.tmp 11))]), (some (7, true))⟩, ⟨(some 13), (.call 54 [(.const (.int .i64 4)), (.tmp 12)]), (some (7, true))⟩, ⟨(some 14), (.pick (.tmp 7) (.tmp 13) (.const (.bool false))), none⟩, ⟨(some 15), (.move (.tmp 14)), none⟩, ⟨(some 16), (.faddr 2 (.tmp 1)), (some (15, true))⟩, ⟨(some 17), (.load1 (.tmp 16)), (some (15, true))⟩, ⟨(some 18), (.faddr 6 (.tmp 1)), (some (15, true))⟩, ⟨(some 19), (.load1 (.tmp 18)), (some (15, true))⟩, ⟨(some 20), (.buildSlice 1 2 [(.v (.int .i64 0))] [(0, (.tmp 17)), (1, (.tmp 19))]), (some (15, true))⟩, ⟨(some 21), (.call 54 [(.const (.int .i64 2)), (.tmp 20)]), (some (15, true))⟩, ⟨(some 22), (.pick (.tmp 15) (.tmp 21) (.const (.bool false))), none⟩, ⟨(some 23), (.move (.tmp 22)), none⟩, ⟨(some 24), (.faddr 4 (.tmp 1)), (some (23, true))⟩, ⟨(some 25), (.load1 (.tmp 24)), (some (23, true))⟩, ⟨(some 26), (.buildSlice 1 1 [(.v (.int .i64 0))] [(0, (.tmp 25))]), (some (23, true))⟩, ⟨(some 27), (.call 99 [(.const (.int .i64 2)), (.tmp 26)]), (some (23, true))⟩, ⟨(some 28), (.pick (.tmp 23) (.tmp 27) (.const (.bool false))), none⟩, ⟨(some 29), (.move (.tmp 28)), none⟩, ⟨(some 30), (.faddr 5 (.tmp 1)), (some (29, true))⟩, ⟨(some 31), (.load1 (.tmp 30)), (some (29, true))⟩, ⟨(some 32), (.buildSlice 1 1 [(.v (.int .i64 0))] [(0, (.tmp 31))]), (some (29, true))⟩, ⟨(some 33), (.call 99 [(.const (.int .i64 4)), (.tmp 32)]), (some (29, true))⟩, ⟨(some 34), (.pick (.tmp 29) (.tmp 33) (.const (.bool false))), none⟩, ⟨(some 2), (.assign (.tmp 34)), none⟩]) .ret)), [(.move (.tmp 2))]⟩
theorem k74 : cfun Try.prog 74 = some c74 := by kernel_rfl
def c77 : XFun := ⟨12, (.seq (.ops [⟨(some 1), (.box (.tmp 0)), none⟩, ⟨(some 2), (.assign (.const (.bool false))), none⟩]) (.seq (.ops [⟨(some 3), (.faddr 0 (.tmp 1)), none⟩, ⟨(some 4), (.load1 (.tmp 3)), none⟩, ⟨(some 5), (.bin .neq (.tmp 4) (.const (.int .u8 0))), none⟩, ⟨(some 6), (.move (.tmp 5)), none⟩, ⟨(some 7), (.faddr 1 (.tmp 1)), (some (6, true))⟩, ⟨(some 8), (.load1 (.tmp 7)), (some (6, true))⟩, ⟨(some 9), (.buildSlice 1 1 [(.v (.string (strB [])))] [(0, (.tmp 8))]), (some (6, true))⟩, ⟨(some 10), (.call 53 [(.tmp 9)]), (some (6, true))⟩, ⟨(some 11), (.pick (.tmp 6) (.tmp 10) (.const (.bool false))), none⟩, ⟨(some 2), (.assign (.tmp 11)), none⟩]) .ret)), [(.move (.tmp 2))]⟩
theorem k77 : cfun Try.prog 77 = some c77 := by kernel_rfl
def c56 : XFun := ⟨57, (.seq (.ops [⟨(some 1), (.box (.tmp 0)), none⟩, ⟨(some 2), (.alloc [(.v (.int .u8 0)), (.v (.int .u8 0)), (.v (.string (strB []))), (.v (.string (strB []))), (.v (.string (strB []))), (.v (.int .i64 0)), (.v (.int .i64 0)), (.sl 0 [] (some true) .exact), (.sl 0 [] (some true) .exact), (.sl 0 [] (some true) .exact), (.sl 0 [] (some true) .exact)]), none⟩]) (.seq (.ops [⟨(some 4), (.faddr 0 (.tmp 1)), none⟩, ⟨(some 5), (.load1 (.tmp 4)), none⟩, ⟨(some 6), (.build [(.v (.int .u8 0)), (.v (.int .u8 0)), (.v (.string (strB []))), (.v (.string (strB []))), (.v (.string (strB []))), (.v (.int .i64 0)), (.v (.int .i64 0)), (.sl 0 [] (some true) .exact), (.sl 0 [] (some true) .exact), (.sl 0 [] (some true) .exact), (.sl 0 [] (some true) .exact)] [(0, (1, (.tmp 5)))]), none⟩, ⟨(some 3), (.alloc [(.v (.int .u8 0)), (.v (.int .u8 0)), (.v (.string (strB []))), (.v (.string (strB []))), (.v (.string (strB []))), (.v (.int .i64 0)), (.v (.int .i64 0)), (.sl 0 [] (some true) .exact), (.sl 0 [] (some true) .exact), (.sl 0 [] (some true) .exact), (.sl 0 [] (some true) .exact)]), none⟩, ⟨none, (.store 11 (.tmp 3) (.tmp 6)), none⟩]) (.seq (.seq (.ops [⟨(some 7), (.faddr 0 (.tmp 1)), none⟩, ⟨(some 8), (.load1 (.tmp 7)), none⟩]) (.block 0 (.seq (.ops [⟨(some 10), (.bin .eql (.tmp 8) (.const (.int .u8 83))), none⟩, ⟨(some 9), (.assign (.tmp 10)), none⟩]) (.cond (.tmp 9) (.draws (.take ⟨(some 11), (.faddr 3 (.tmp 1)), none⟩ (.take ⟨(some 12), (.load1 (.tmp 11)), none⟩ (.take ⟨(some 13), (.faddr 4 (.tmp 1)), none⟩ (.take ⟨(some 14), (.load1 (.tmp 13)), none⟩ (.take ⟨(some 15), (.faddr 3 (.tmp 3)), none⟩ (.only ⟨none, (.store 1 (.tmp 15) (.tmp 12)), none⟩ (.take ⟨(some 16), (.faddr 4 (.tmp 3)), none⟩ (.last ⟨none, (.store 1 (.tmp 16) (.tmp 14)), none⟩))))))))) (.seq (.ops [⟨(some 18), (.bin .eql (.tmp 8) (.const (.int .u8 75))), none⟩, ⟨(some 17), (.assign (.tmp 18)), none⟩]) (.cond (.tmp 17) (.draws (.take ⟨(some 19), (.faddr 5 (.tmp 1)), none⟩ (.take ⟨(some 20), (.load1 (.tmp 19)), none⟩ (.take ⟨(some 21), (.faddr 6 (.tmp 1)), none⟩ (.take ⟨(some 22), (.load1 (.tmp 21)), none⟩ (.take ⟨(some 23), (.faddr 5 (.tmp 3)), none⟩ (.only ⟨none, (.store 1 (.tmp 23) (.tmp 20)), none⟩ (.take ⟨(some 24), (.faddr 6 (.tmp 3)), none⟩ (.last ⟨none, (.store 1 (.tmp 24) (.tmp 22)), none⟩))))))))) (.seq (.ops [⟨(some 26), (.bin .eql (.tmp 8) (.const (.int .u8 90))), none⟩, ⟨(some 25), (.assign (.tmp 26)), none⟩]) (.cond (.tmp 25) (.ops [⟨(some 27), (.faddr 1 (.tmp 1)), none⟩, ⟨(some 28), (.load1 (.tmp 27)), none⟩, ⟨(some 29), (.faddr 1 (.tmp 3)), none⟩, ⟨none, (.store 1 (.tmp 29) (.tmp 28)), none⟩]) (.seq (.ops [⟨(some 31), (.bin .eql (.tmp 8) (.const (.int .u8 67))), none⟩, ⟨(some 30), (.assign (.tmp 31)), none⟩]) (.cond (.tmp 30) (.ops [⟨(some 32), (.faddr 2 (.tmp 1)), none⟩, ⟨(some 33), (.load1 (.tmp 32)), none⟩, ⟨(some 34), (.faddr 2 (.tmp 3)), none⟩, ⟨none, (.store 1 (.tmp 34) (.tmp 33)), none⟩]) (.seq (.ops [⟨(some 36), (.bin .eql (.tmp 8) (.const (.int .u8 68))), none⟩, ⟨(some 35), (.assign (.tmp 36)), none⟩]) (.cond (.tmp 35) (.ops [⟨(some 37), (.faddr 9 (.tmp 1)), none⟩, ⟨(some 38), (.load1 (.tmp 37)), none⟩, ⟨(some 39), (.faddr 9 (.tmp 3)), none⟩, ⟨none, (.store 1 (.tmp 39) (.tmp 38)), none⟩]) (.seq (.ops [⟨(some 41), (.bin .eql (.tmp 8) (.const (.int .u8 84))), none⟩, ⟨(some 40), (.assign (.tmp 41)), none⟩]) (.cond (.tmp 40) (.ops [⟨(some 42), (.faddr 8 (.tmp 1)), none⟩, ⟨(some 43), (.load1 (.tmp 42)), none⟩, ⟨(some 44), (.faddr 8 (.tmp 3)), none⟩, ⟨none, (.store 1 (.tmp 44) (.tmp 43)), none⟩]) (.seq (.ops [⟨(some 46), (.bin .eql (.tmp 8) (.const (.int .u8 116))), none⟩, ⟨(some 45), (.assign (.tmp 46)), none⟩]) (.cond (.tmp 45) (.ops [⟨(some 47), (.faddr 7 (.tmp 1)), none⟩, ⟨(some 48), (.load1 (.tmp 47)), none⟩, ⟨(some 49), (.faddr 7 (.tmp 3)), none⟩, ⟨none, (.store 1 (.tmp 49) (.tmp 48)), none⟩]) (.seq (.seq (.ops [⟨(some 51), (.bin .eql (.tmp 8) (.const (.int .u8 69))), none⟩, ⟨(some 50), (.assign (.tmp 51)), none⟩]) (.cond (.tmp 50) .skip (.ops [⟨(some 52), (.bin .eql (.tmp 8) (.const (.int .u8 78))), none⟩, ⟨(some 50), (.assign (.tmp 52)), none⟩]))) (.cond (.tmp 50) (.ops [⟨(some 53), (.faddr 10 (.tmp 1)), none⟩, ⟨(some 54), (.load1 (.tmp 53)), none⟩, ⟨(some 55), (.faddr 10 (.tmp 3)), none⟩, ⟨none, (.store 1 (.tmp 55) (.tmp 54)), none⟩]) .skip)))))))))))))))))) (.seq (.ops [⟨(some 56), (.loadN 11 (.tmp 3)), none⟩, ⟨none, (.store 11 (.tmp 2) (.tmp 56)), none⟩]) .ret)))), [(.loadN 11 (.tmp 2))]⟩
theorem k56 : cfun Try.prog 56 = some c56 := by kernel_rfl
def c113 : XFun := ⟨5, (.seq (.ops [⟨(some 2), (.assign (.const (.slice none 0 0))), none⟩]) (.seq (.ops [⟨(some 3), (.move (.tmp 0)), none⟩, ⟨(some 4), (.call 60 [(.const (.slice none 0 0)), (.tmp 3), (.const (.int .i64 4))]), none⟩, ⟨(some 2), (.assign (.tmp 4)), none⟩]) .ret)), [(.move (.tmp 2))]⟩
theorem k113 : cfun Try.prog 113 = some c113 := by kernel_rfl
def c135 : XFun := ⟨5, (.seq (.ops [⟨(some 2), (.assign (.const (.slice none 0 0))), none⟩]) (.seq (.ops [⟨(some 3), (.move (.tmp 0)), none⟩, ⟨(some 4), (.call 60 [(.const (.slice none 0 0)), (.tmp 3), (.const (.int .i64 2))]), none⟩, ⟨(some 2), (.assign (.tmp 4)), none⟩]) .ret)), [(.move (.tmp 2))]⟩
theorem k135 : cfun Try.prog 135 = some c135 := by kernel_rfl
def c118 : XFun := ⟨27, (.seq (.ops [⟨(some 1), (.box (.tmp 0)), none⟩, ⟨(some 2), (.assign (.const (.slice none 0 0))), none⟩]) (.seq (.draws (.take ⟨(some 3), (.faddr 0 (.tmp 1)), none⟩ (.take ⟨(some 4), (.load1 (.tmp 3)), none⟩ (.take ⟨(some 7), (.faddr 1 (.tmp 1)), none⟩ (.take ⟨(some 8), (.load1 (.tmp 7)), none⟩ (.take ⟨(some 10), (.faddr 2 (.tmp 1)), none⟩ (.take ⟨(some 11), (.load1 (.tmp 10)), none⟩ (.take ⟨(some 13), (.faddr 3 (.tmp 1)), none⟩ (.take ⟨(some 14), (.load1 (.tmp 13)), none⟩ (.take ⟨(some 16), (.faddr 4 (.tmp 1)), none⟩ (.take ⟨(some 17), (.load1 (.tmp 16)), none⟩ (.take ⟨(some 19), (.faddr 5 (.tmp 1)), none⟩ (.take ⟨(some 20), (.load1 (.tmp 19)), none⟩ (.take ⟨(some 22), (.faddr 6 (.tmp 1)), none⟩ (.take ⟨(some 23), (.load1 (.tmp 22)), none⟩ (.only ⟨(some 5), (.buildSlice 1 1 [(.v (.string (strB [])))] [(0, (.tmp 4))]), none⟩ (.only ⟨(some 6), (.call 114 [(.tmp 5)]), none⟩ (.only ⟨(some 9), (.call 113 [(.tmp 8)]), none⟩ (.only ⟨(some 12), (.call 135 [(.tmp 11)]), none⟩ (.only ⟨(some 15), (.call 113 [(.tmp 14)]), none⟩ (.only ⟨(some 18), (.call 135 [(.tmp 17)]), none⟩ (.only ⟨(some 21), (.call 113 [(.tmp 20)]), none⟩ (.only ⟨(some 24), (.call 135 [(.tmp 23)]), none⟩ (.only ⟨(some 25), (.buildSlice 1 7 [(.sl 0 [] (some true) .exact)] [(0, (.tmp 6)), (1, (.tmp 9)), (2, (.tmp 12)), (3, (.tmp 15)), (4, (.tmp 18)), (5, (.tmp 21)), (6, (.tmp 24))]), none⟩ (.only ⟨(some 26), (.call 115 [(.tmp 25)]), none⟩ (.take ⟨(some 2), (.assign (.tmp 26)), none⟩ .done)))))))))))))))))))))))))) .ret)), [(.move (.tmp 2))]⟩
theorem k118 : cfun Try.prog 118 = some c118 := by kernel_rfl
def c120 : XFun := ⟨27, (.seq (.ops [⟨(some 2), (.assign (.const (.slice none 0 0))), none⟩]) (.seq (.ops [⟨(some 3), (.assign (.const (.slice none 0 0))), none⟩]) (.seq (.seq (.ops [⟨(some 6), (.move (.tmp 0)), none⟩, ⟨(some 7), (.lenL (.tmp 6)), none⟩, ⟨(some 8), (.move (.const (.int .i64 0))), none⟩]) (.block 0 (.loop (.seq (.ops [⟨(some 9), (.bin .lss (.tmp 8) (.tmp 7)), none⟩]) (.seq (.cond (.tmp 9) .skip (.exit 0)) (.seq (.block 1 (.seq (.ops [⟨(some 10), (.iaddr 2 (.tmp 6) (.tmp 8)), none⟩, ⟨(some 11), (.loadN 2 (.tmp 10)), none⟩, ⟨(some 5), (.alloc [(.v (.int .u8 0)), (.v (.string (strB [])))]), none⟩, ⟨none, (.store 2 (.tmp 5) (.tmp 11)), none⟩]) (.seq (.ops [⟨(some 12), (.move (.tmp 3)), none⟩, ⟨(some 13), (.faddr 0 (.tmp 5)), none⟩, ⟨(some 14), (.load1 (.tmp 13)), none⟩, ⟨(some 15), (.buildSlice 1 1 [(.v (.int .u8 0))] [(0, (.tmp 14))]), none⟩, ⟨(some 16), (.append 1 1 (.tmp 12) (.tmp 15)), none⟩, ⟨(some 3), (.assign (.tmp 16)), none⟩]) (.ops [⟨(some 17), (.move (.tmp 3)), none⟩, ⟨(some 18), (.faddr 1 (.tmp 5)), none⟩, ⟨(some 19), (.load1 (.tmp 18)), none⟩, ⟨(some 20), (.buildSlice 1 1 [(.v (.string (strB [])))] [(0, (.tmp 19))]), none⟩, ⟨(some 21), (.call 114 [(.tmp 20)]), none⟩, ⟨(some 22), (.append 1 1 (.tmp 17) (.tmp 21)), none⟩, ⟨(some 3), (.assign (.tmp 22)), none⟩])))) (.ops [⟨(some 23), (.bin .add (.tmp 8) (.const (.int .i64 1))), none⟩, ⟨(some 8), (.move (.tmp 23)), none⟩]))))))) (.seq (.ops [⟨(some 24), (.move (.tmp 3)), none⟩, ⟨(some 25), (.buildSlice 1 1 [(.v (.int .u8 0))] [(0, (.const (.int .u8 0)))]), none⟩, ⟨(some 26), (.append 1 1 (.tmp 24) (.tmp 25)), none⟩, ⟨(some 2), (.assign (.tmp 26)), none⟩]) .ret)))), [(.move (.tmp 2))]⟩
theorem k120 : cfun Try.prog 120 = some c120 := by kernel_rfl
def c70 : XFun := ⟨13, (.seq (.ops [⟨(some 2), (.assign (.const (.bool false))), none⟩]) (.seq (.ops [⟨(some 3), (.move (.tmp 0)), none⟩, ⟨(some 4), (.bin .eql (.tmp 3) (.const (.int .u8 73))), none⟩, ⟨(some 5), (.move (.tmp 4)), none⟩, ⟨(some 6), (.move (.tmp 0)), (some (5, false))⟩, ⟨(some 7), (.bin .eql (.tmp 6) (.const (.int .u8 84))), (some (5, false))⟩, ⟨(some 8), (.pick (.tmp 5) (.const (.bool true)) (.tmp 7)), none⟩, ⟨(some 9), (.move (.tmp 8)), none⟩, ⟨(some 10), (.move (.tmp 0)), (some (9, false))⟩, ⟨(some 11), (.bin .eql (.tmp 10) (.const (.int .u8 69))), (some (9, false))⟩, ⟨(some 12), (.pick (.tmp 9) (.const (.bool true)) (.tmp 11)), none⟩, ⟨(some 2), (.assign (.tmp 12)), none⟩]) .ret)), [(.move (.tmp 2))]⟩
theorem k70 : cfun Try.prog 70 = some c70 := by kernel_rfl
end Go.Proofs.Ytebggfghemblbaa.Ax
/- Package back over values without memory: which kinds there are, checks, what is the same, bodies. Written by gen/ax_back.py. -/
namespace Go.Proofs.Ytebggfghemblbaa.Ax
open Go.RowKit Go By Nm Sc Dg
set_option linter.unusedSimpArgs false
set_option linter.unusedVariables false
set_option maxRecDepth 10000

def kindB (k : Int) : Bool := decide (k = 82 ∨ k = 83 ∨ k = 75 ∨ k = 90 ∨ k = 49 ∨ k = 50 ∨ k = 51 ∨ k = 110 ∨ k = 115 ∨ k = 73 ∨ k = 67 ∨ k = 68 ∨ k = 84 ∨ k = 116 ∨ k = 69 ∨ k = 78)
theorem bkind_c (k : Int) (h : List (List AV)) : Contract Try.prog 50 [.v (.int .u8 k)] h (.v (.bool (kindB k))) h [] := by
  refine contract_of k50 mixed (by simp [c50]) fun hh hargs => ?_
  by_cases h82 : k = 82
  · subst h82; simp [c50, hh, kindB]
  by_cases h83 : k = 83
  · subst h83; simp [c50, hh, kindB]
  by_cases h75 : k = 75
  · subst h75; simp [c50, hh, kindB]
  by_cases h90 : k = 90
  · subst h90; simp [c50, hh, kindB]
  by_cases h49 : k = 49
  · subst h49; simp [c50, hh, kindB]
  by_cases h50 : k = 50
  · subst h50; simp [c50, hh, kindB]
  by_cases h51 : k = 51
  · subst h51; simp [c50, hh, kindB]
  by_cases h110 : k = 110
  · subst h110; simp [c50, hh, kindB]
  by_cases h115 : k = 115
  · subst h115; simp [c50, hh, kindB]
  by_cases h73 : k = 73
  · subst h73; simp [c50, hh, kindB]
  by_cases h67 : k = 67
  · subst h67; simp [c50, hh, kindB]
  by_cases h68 : k = 68
  · subst h68; simp [c50, hh, kindB]
  by_cases h84 : k = 84
  · subst h84; simp [c50, hh, kindB]
  by_cases h116 : k = 116
  · subst h116; simp [c50, hh, kindB]
  by_cases h69 : k = 69
  · subst h69; simp [c50, hh, kindB]
  by_cases h78 : k = 78
  · subst h78; simp [c50, hh, kindB]
  simp [c50, hh, kindB, h82, h83, h75, h90, h49, h50, h51, h110, h115, h73, h67, h68, h84, h116, h69, h78]
def statB (s : Int) : Bool := s == 73 || (s == 84 || s == 69)
theorem bstat_c (s : Int) (h : List (List AV)) : Contract Try.prog 70 [.v (.int .u8 s)] h (.v (.bool (statB s))) h [] := by
  refine contract_of k70 mixed (by simp [c70]) fun hh hargs => ?_
  cases h1 : s == 73 with
  | true => simp [c70, hh, statB, h1]
  | false =>
    cases h2 : s == 84 <;> simp [c70, hh, statB, h1, h2]
/-- Its lists are no longer than memory is. -/
def BkFit (m : Bk) : Prop := m.oids.length ≤ 140737488355328 ∧ m.cols.length ≤ 140737488355328 ∧ m.row.length ≤ 140737488355328 ∧ m.fields.length ≤ 140737488355328 ∧ (∀ c ∈ m.row, c.2.length ≤ 140737488355328)
def sameCo (a b : Co) : Bool := a.name == b.name && (a.table == b.table && (a.attr == b.attr && (a.oid == b.oid && (a.size == b.size && (a.mod == b.mod && (a.format == b.format && true))))))
def sameFi (a b : Fi) : Bool := a.code == b.code && (a.text == b.text && true)
theorem sameCo_eq (a b : Co) : sameCo a b = (a == b) := by
  obtain ⟨a1, a2, a3, a4, a5, a6, a7⟩ := a
  obtain ⟨b1, b2, b3, b4, b5, b6, b7⟩ := b
  rw [Bool.eq_iff_iff]; simp [sameCo]
theorem sameFi_eq (a b : Fi) : sameFi a b = (a == b) := by
  obtain ⟨a1, a2⟩ := a
  obtain ⟨b1, b2⟩ := b
  rw [Bool.eq_iff_iff]; simp [sameFi]
theorem eqcols_c (l m : List Co) (hl : l.length ≤ 140737488355328) (h : List (List AV)) : Contract Try.prog 84 [.sl 7 (enc coC l) none .no, .sl 7 (enc coC m) none .no] h (.v (.bool (l == m))) h [] := by
  have := equalN_any mixed k84 sameCo coC (by simp) (by simp) (fun x y => by simp [coC_mk, sameCo]) l m h hl
  rwa [show sameCo = (· == ·) from funext fun a => funext fun b => sameCo_eq a b, eqL_beq] at this
theorem eqfields_c (l m : List Fi) (hl : l.length ≤ 140737488355328) (h : List (List AV)) : Contract Try.prog 86 [.sl 2 (enc fiC l) none .no, .sl 2 (enc fiC m) none .no] h (.v (.bool (l == m))) h [] := by
  have := equalN_any mixed k86 sameFi fiC (by simp) (by simp) (fun x y => by simp [fiC_mk, sameFi]) l m h hl
  rwa [show sameFi = (· == ·) from funext fun a => funext fun b => sameFi_eq a b, eqL_beq] at this
def sameB (a b : Bk) : Bool := a.kind == b.kind && (a.status == b.status && (a.tag == b.tag && (a.name == b.name && (a.value == b.value && (a.n == b.n && (a.m == b.m && (a.oids == b.oids && (a.cols == b.cols && (a.row == b.row && a.fields == b.fields)))))))))
theorem sameB_eq (a b : Bk) : sameB a b = decide (a = b) := by
  obtain ⟨a1, a2, a3, a4, a5, a6, a7, a8, a9, a10, a11⟩ := a
  obtain ⟨b1, b2, b3, b4, b5, b6, b7, b8, b9, b10, b11⟩ := b
  rw [Bool.eq_iff_iff]; simp [sameB]
theorem sameB_refl (a : Bk) : sameB a a = true := by rw [sameB_eq]; simp
theorem bsame_c (a b : Bk) (ha : BkFit a) (h : List (List AV)) : Contract Try.prog 55 [.agg (bkC a), .agg (bkC b)] h (.v (.bool (sameB a b))) h [] := by
  obtain ⟨q1, q2, q3, q4, _⟩ := ha
  refine contract_of k55 mixed (by simp [c55]) fun hh hargs => ?_
  unfold sameB
  cases p0 : a.kind == b.kind with
  | false => simp [c55, hh, p0]
  | true =>
  cases p1 : a.status == b.status with
  | false => simp [c55, hh, p0, p1]
  | true =>
  cases p2 : a.tag == b.tag with
  | false => simp [c55, hh, p0, p1, p2]
  | true =>
  cases p3 : a.name == b.name with
  | false => simp [c55, hh, p0, p1, p2, p3]
  | true =>
  cases p4 : a.value == b.value with
  | false => simp [c55, hh, p0, p1, p2, p3, p4]
  | true =>
  cases p5 : a.n == b.n with
  | false => simp [c55, hh, p0, p1, p2, p3, p4, p5]
  | true =>
  cases p6 : a.m == b.m with
  | false => simp [c55, hh, p0, p1, p2, p3, p4, p5, p6]
  | true =>
  simp [c55, p0, p1, p2, p3, p4, p5, p6]
  refine xcall_self (by simp) (sliceseq_c _ _ q1 _) ?_
  cases p7 : a.oids == b.oids with
  | false => simp [hh]
  | true =>
  simp
  refine xcall_self (by simp) (eqcols_c _ _ q2 _) ?_
  cases p8 : a.cols == b.cols with
  | false => simp [hh]
  | true =>
  simp
  refine xcall_self (by simp) (wsame_c _ _ q3 _) ?_
  cases p9 : a.row == b.row with
  | false => simp [hh]
  | true =>
  simp
  refine xcall_self (by simp) (eqfields_c _ _ q4 _) ?_
  simp [hh]

/-! ### Checks -/
def rstatB (m : Bk) : Bool := !(m.kind == 90) || statB m.status
theorem brstat_c (m : Bk) (h : List (List AV)) : Contract Try.prog 51 [.agg (bkC m)] h (.v (.bool (rstatB m))) h [] := by
  refine contract_of k51 mixed (by simp [c51]) fun hh hargs => ?_
  unfold rstatB
  cases h1 : m.kind == 90 with
  | false =>
    have e1 : (m.kind != 90) = true := by simp [bne, h1]
    simp [c51, hh, e1]
  | true =>
    have e1 : (m.kind != 90) = false := by simp [bne, h1]
    simp [c51, e1]
    refine xcall_self (by simp) (bstat_c _ _) ?_
    simp [hh]
def colB (c : Co) : Bool := cleanB c.name && ((unsB 4 c.table && unsB 4 c.oid) && ((unsB 2 c.attr && unsB 2 c.format) && (sgnB 2 c.size && sgnB 4 c.mod)))
theorem brcol_c (c : Co) (h : List (List AV)) : Contract Try.prog 74 [.agg (coC c)] h (.v (.bool (colB c))) h [] := by
  refine contract_of k74 mixed (by simp [c74]) fun hh hargs => ?_
  unfold colB
  simp [c74]
  refine xcall_of (wclean_c [c.name] (by simp) _) (by simp [strC]) (by simp) ?_
  simp only [List.all_cons, List.all_nil, Bool.and_true]
  cases p1 : cleanB c.name with
  | false => simp [hh]
  | true =>
  simp
  refine xcall_of (wuns_c 4 [c.table, c.oid] (by simp) _) (by simp [intC]) (by simp) ?_
  simp only [List.all_cons, List.all_nil, Bool.and_true]
  cases p2 : (unsB 4 c.table && unsB 4 c.oid) with
  | false => simp [hh]
  | true =>
  simp
  refine xcall_of (wuns_c 2 [c.attr, c.format] (by simp) _) (by simp [intC]) (by simp) ?_
  simp only [List.all_cons, List.all_nil, Bool.and_true]
  cases p3 : (unsB 2 c.attr && unsB 2 c.format) with
  | false => simp [hh]
  | true =>
  simp
  refine xcall_of (wsgn_c 2 [c.size] (by simp) _) (by simp [intC]) (by simp) ?_
  simp only [List.all_cons, List.all_nil, Bool.and_true]
  cases p4 : sgnB 2 c.size with
  | false => simp [hh]
  | true =>
  simp
  refine xcall_of (wsgn_c 4 [c.mod] (by simp) _) (by simp [intC]) (by simp) ?_
  simp [hh]
def fieldB (f : Fi) : Bool := !(f.code == 0) && cleanB f.text
theorem brfield_c (f : Fi) (h : List (List AV)) : Contract Try.prog 77 [.agg (fiC f)] h (.v (.bool (fieldB f))) h [] := by
  refine contract_of k77 mixed (by simp [c77]) fun hh hargs => ?_
  unfold fieldB
  cases h1 : f.code == 0 with
  | true =>
    have e1 : (f.code != 0) = false := by simp [bne, h1]
    simp [c77, hh, e1]
  | false =>
    have e1 : (f.code != 0) = true := by simp [bne, h1]
    simp [c77, e1]
    refine xcall_of (wclean_c [f.text] (by simp) _) (by simp [strC]) (by simp) ?_
    simp [hh]
theorem brl1_c (c : Co) (h : List (List AV)) : Contract Try.prog 73 [.agg (coC c)] h (.v (.bool (!colB c))) h [] := by
  refine contract_of k73 mixed (by simp [c73]) fun hh hargs => ?_
  simp [c73]
  refine xcall_self (by simp) (brcol_c _ _) ?_
  simp [hh]
theorem brl2_c (c : Fi) (h : List (List AV)) : Contract Try.prog 76 [.agg (fiC c)] h (.v (.bool (!fieldB c))) h [] := by
  refine contract_of k76 mixed (by simp [c76]) fun hh hargs => ?_
  simp [c76]
  refine xcall_self (by simp) (brfield_c _ _) ?_
  simp [hh]
def fewB (m : Bk) : Bool := decide ((m.oids.length : Int) ≤ 65535 ∧ (m.cols.length : Int) ≤ 65535 ∧ (m.row.length : Int) ≤ 65535 ∧ (m.fields.length : Int) ≤ 65535)
def blistsB (m : Bk) : Bool := fewB m && (m.oids.all (unsB 4) && (m.row.all cellB && (m.cols.all colB && m.fields.all fieldB)))
theorem brlists_c (m : Bk) (hf : BkFit m) (h : List (List AV)) : Contract Try.prog 52 [.agg (bkC m)] h (.v (.bool (blistsB m))) h [] := by
  obtain ⟨q1, q2, q3, q4, q5⟩ := hf
  refine contract_of k52 mixed (by simp [c52]) fun hh hargs => ?_
  unfold blistsB
  by_cases hL : (m.oids.length : Int) ≤ 65535 ∧ (m.cols.length : Int) ≤ 65535 ∧ (m.row.length : Int) ≤ 65535 ∧ (m.fields.length : Int) ≤ 65535
  · have e : fewB m = true := decide_eq_true hL
    rw [e]
    obtain ⟨l1, l2, l3, l4⟩ := hL
    simp [c52, l1, l2, l3, l4]
    refine xcall_self (by simp) (wuns_c 4 _ q1 _) ?_
    cases p1 : m.oids.all (unsB 4) with
    | false => simp [hh]
    | true =>
    simp
    refine xcall_self (by simp) (wcells_c _ q3 q5 _) ?_
    cases p2 : m.row.all cellB with
    | false => simp [hh]
    | true =>
    simp
    refine xcall_self (by simp) (containsN_any mixed k72 k98 coC (fun c => !colB c) m.cols [] _ (by simp) (by simp) (by simp) (fun c _ => brl1_c c _) q2) ?_
    rw [← List.not_all_eq_any_not]
    cases p3 : m.cols.all colB with
    | false => simp [hh]
    | true =>
    simp
    refine xcall_self (by simp) (containsN_any mixed k75 k100 fiC (fun c => !fieldB c) m.fields [] _ (by simp) (by simp) (by simp) (fun c _ => brl2_c c _) q4) ?_
    rw [← List.not_all_eq_any_not]
    simp [hh]
  · have e : fewB m = false := decide_eq_false hL
    rw [e]
    simp [c52, hL, hh]
/-- With those fields alone that the body has. -/
def saidB (m : Bk) : Bk :=
  if m.kind = 83 then ⟨83, 0, [], m.name, m.value, 0, 0, [], [], [], []⟩
  else if m.kind = 75 then ⟨75, 0, [], [], [], m.n, m.m, [], [], [], []⟩
  else if m.kind = 90 then ⟨90, m.status, [], [], [], 0, 0, [], [], [], []⟩
  else if m.kind = 67 then ⟨67, 0, m.tag, [], [], 0, 0, [], [], [], []⟩
  else if m.kind = 68 then ⟨68, 0, [], [], [], 0, 0, [], [], m.row, []⟩
  else if m.kind = 84 then ⟨84, 0, [], [], [], 0, 0, [], m.cols, [], []⟩
  else if m.kind = 116 then ⟨116, 0, [], [], [], 0, 0, m.oids, [], [], []⟩
  else if m.kind = 69 then ⟨69, 0, [], [], [], 0, 0, [], [], [], m.fields⟩
  else if m.kind = 78 then ⟨78, 0, [], [], [], 0, 0, [], [], [], m.fields⟩
  else ⟨m.kind, 0, [], [], [], 0, 0, [], [], [], []⟩
theorem bsaid_c (m : Bk) (h : List (List AV)) : Contract Try.prog 56 [.agg (bkC m)] h (.agg (bkC (saidB m))) h [] := by
  refine contract_of k56 mixed (by simp [c56]) fun hh hargs => ?_
  by_cases h83 : m.kind = 83
  · simp [c56, bkC_mk, hh, saidB, h83]
  by_cases h75 : m.kind = 75
  · simp [c56, bkC_mk, hh, saidB, h75]
  by_cases h90 : m.kind = 90
  · simp [c56, bkC_mk, hh, saidB, h90]
  by_cases h67 : m.kind = 67
  · simp [c56, bkC_mk, hh, saidB, h67]
  by_cases h68 : m.kind = 68
  · simp [c56, bkC_mk, hh, saidB, h68]
  by_cases h84 : m.kind = 84
  · simp [c56, bkC_mk, hh, saidB, h84]
  by_cases h116 : m.kind = 116
  · simp [c56, bkC_mk, hh, saidB, h116]
  by_cases h69 : m.kind = 69
  · simp [c56, bkC_mk, hh, saidB, h69]
  by_cases h78 : m.kind = 78
  · simp [c56, bkC_mk, hh, saidB, h78]
  simp [c56, bkC_mk, hh, saidB, h83, h75, h90, h67, h68, h84, h116, h69, h78]
theorem bkfit_said {m : Bk} (h : BkFit m) : BkFit (saidB m) := by
  obtain ⟨h1, h2, h3, h4, h5⟩ := h
  unfold saidB BkFit
  repeat' split
  all_goals dsimp only
  all_goals refine ⟨?_, ?_, ?_, ?_, ?_⟩
  all_goals first
    | assumption
    | exact Nat.zero_le _
    | (intro c hc; cases hc; done)
def bcleanB (m : Bk) : Bool := cleanB m.tag && (cleanB m.name && cleanB m.value)
def bnumB (m : Bk) : Bool := unsB 4 m.n && unsB 4 m.m
def checkB (m : Bk) : Int :=
  if kindB m.kind = false then 9
  else if rstatB m && (blistsB m && (bcleanB m && (bnumB m && sameB m (saidB m)))) then 0 else 1
theorem bcheck_c (m : Bk) (hf : BkFit m) (h : List (List AV)) : Contract Try.prog 20 [.agg (bkC m)] h (.v (.int .i64 (checkB m))) h [] := by
  refine contract_of k20 mixed (by simp [c20]) fun hh hargs => ?_
  simp [c20]
  refine xcall_self (by simp) (bkind_c _ _) ?_
  cases hk : kindB m.kind with
  | false => simp [hh, checkB, hk]
  | true =>
  have e : checkB m = if rstatB m && (blistsB m && (bcleanB m && (bnumB m && sameB m (saidB m)))) then 0 else 1 := by unfold checkB; rw [hk]; rfl
  rw [e]
  simp
  refine xcall_self (by simp) (brstat_c m _) ?_
  cases p1 : rstatB m with
  | false => simp [hh]
  | true =>
  simp
  refine xcall_self (by simp) (brlists_c m hf _) ?_
  cases p2 : blistsB m with
  | false => simp [hh]
  | true =>
  simp
  refine xcall_of (wclean_c [m.tag, m.name, m.value] (by simp) _) (by simp [strC]) (by simp) ?_
  have hc : (cleanB m.tag && (cleanB m.name && cleanB m.value)) = bcleanB m := rfl
  simp only [List.all_cons, List.all_nil, Bool.and_true, hc]
  cases p3 : bcleanB m with
  | false => simp [hh]
  | true =>
  simp
  refine xcall_of (wuns_c 4 [m.n, m.m] (by simp) _) (by simp [intC]) (by simp) ?_
  have hn : (unsB 4 m.n && unsB 4 m.m) = bnumB m := rfl
  simp only [List.all_cons, List.all_nil, Bool.and_true, hn]
  cases p4 : bnumB m with
  | false => simp [hh]
  | true =>
  simp
  refine xcall_self (by simp) (bsaid_c m _) ?_
  simp
  refine xcall_self (by simp) (bsame_c m (saidB m) hf _) ?_
  cases p5 : sameB m (saidB m) <;> simp [hh]

/-! ### Bodies -/
theorem wlistK_c (e : Co → List UInt8) (l : List Co) (g : FuncId) (cap : List AV) (h : List (List AV)) (hl : (listL e l).length ≤ 140737488355328) (hl2 : l.length ≤ 140737488355328) (hcap : ∀ c ∈ cap, c.idOf = none) (hlt : ltL h.length cap)
    (hg : ∀ n, n ∈ l → ∀ h', Contract Try.prog g (.agg (coC n) :: cap) (h ++ h') (.sl 1 (bytesE (e n)) none (.own .res)) (h ++ h') []) :
    Contract Try.prog 117 [.sl 7 (enc coC l) none .no, .fn (.func g) [] cap] h (.sl 1 (bytesE (listL e l)) none (.own .res)) h [] := by
  refine contract_of k117 mixed (by simp [c117]) fun hh hargs => ?_
  simp at hargs
  simp [c117]
  refine xcall_of (put_c [] l.length 2 (by simp) h) (by simp) (by simp) ?_
  simp
  refine xloop_ok (D := Nat) (fun j => ⟨[(1, .fn (.func g) [] cap), (11, .sl 7 (enc coC l) none .no), (12, .v (.int .i64 l.length)), (13, .v (.int .i64 j))], [(5, .sl 1 (bytesE (putL [] l.length 2 ++ (l.take j).flatMap e)) none (.own (.slot 5)))], h, []⟩) (fun j => j ≤ l.length) (fun j => l.length - j) 0 (by simp) ?_ ?_
  · simp [Leq, hh, hargs]
  · intro j hj
    by_cases hlt : j < l.length
    · have hlt' : (j : Int) < l.length := by omega
      have hw : IntKind.i64.wrap ((j : Int) + 1) = (j : Int) + 1 := wrap64 (by omega) (by omega)
      obtain ⟨hx, hb⟩ := flat_step e l (putL [] l.length 2).length j hlt _ (by simpa [listL] using hl)
      have hq : ∀ y ∈ (AV.agg (coC l[j])) :: cap, y.idOf = none := by simpa using hcap
      simp [hlt, hlt']
      refine ⟨hcap, xcall_self hq (hg l[j] (List.getElem_mem _) _) ?_⟩
      simp [idsOf_none hq, idsOf_none hcap, hw, -List.length_flatMap]
      refine ⟨by omega, j + 1, by omega, by omega, ?_⟩
      simp [Leq, hh, hargs, hx]
    · have hlt' : ¬ (j : Int) < l.length := by omega
      have : j = l.length := by omega
      subst this
      simp [hh, listL]
end Go.Proofs.Ytebggfghemblbaa.Ax
/- Package back over values without memory: bodies, messages as bytes, bytes as messages. -/
namespace Go.Proofs.Ytebggfghemblbaa.Ax
open Go.RowKit Go By Nm Sc Dg
set_option linter.unusedSimpArgs false
set_option linter.unusedVariables false
set_option maxRecDepth 10000

theorem blong_c (n : Int) (h : List (List AV)) : Contract Try.prog 113 [.v (.int .i64 n)] h (.sl 1 (bytesE (numE 4 n)) none (.own .res)) h [] := by
  refine contract_of k113 mixed (by simp [c113]) fun hh hargs => ?_
  simp [c113]
  refine xcall_of (put_c [] n 4 (by simp) h) (by simp) (by simp) ?_
  simp [hh, numE]
theorem bshort_c (n : Int) (h : List (List AV)) : Contract Try.prog 135 [.v (.int .i64 n)] h (.sl 1 (bytesE (numE 2 n)) none (.own .res)) h [] := by
  refine contract_of k135 mixed (by simp [c135]) fun hh hargs => ?_
  simp [c135]
  refine xcall_of (put_c [] n 2 (by simp) h) (by simp) (by simp) ?_
  simp [hh, numE]
theorem numE_len (size n : Int) (h : size ≤ 4) : (numE size n).length ≤ 4 := by
  have := put_len n size h []
  simpa [numE] using this
/-- A column's bytes. -/
def colE (c : Co) : List UInt8 := textsL [c.name] ++ (numE 4 c.table ++ (numE 2 c.attr ++ (numE 4 c.oid ++ (numE 2 c.size ++ (numE 4 c.mod ++ numE 2 c.format)))))
theorem bcol_c (c : Co) (hl : c.name.length ≤ 70000000000000) (h : List (List AV)) : Contract Try.prog 118 [.agg (coC c)] h (.sl 1 (bytesE (colE c)) none (.own .res)) h [] := by
  have ht : (textsL [c.name]).length = c.name.length + 1 := by simp [textsL, He.encT]
  have l1 := numE_len 4 c.table (by omega)
  have l2 := numE_len 2 c.attr (by omega)
  have l3 := numE_len 4 c.oid (by omega)
  have l4 := numE_len 2 c.size (by omega)
  have l5 := numE_len 4 c.mod (by omega)
  have l6 := numE_len 2 c.format (by omega)
  refine contract_of k118 mixed (by simp [c118]) fun hh hargs => ?_
  simp [c118]
  refine xcall_of (wtexts_c [c.name] (by omega) _) (by simp [strC]) (by simp) ?_
  simp
  refine xcall_self (by simp) (blong_c _ _) ?_
  simp
  refine xcall_self (by simp) (bshort_c _ _) ?_
  simp
  refine xcall_self (by simp) (blong_c _ _) ?_
  simp
  refine xcall_self (by simp) (bshort_c _ _) ?_
  simp
  refine xcall_self (by simp) (blong_c _ _) ?_
  simp
  refine xcall_self (by simp) (bshort_c _ _) ?_
  simp
  refine xcall_of (concat_c [textsL [c.name], numE 4 c.table, numE 2 c.attr, numE 4 c.oid, numE 2 c.size, numE 4 c.mod, numE 2 c.format] _ (by simp; omega) (by simp)) (by simp [bytC]) (by simp) ?_
  simp [hh, colE]
/-- A field's bytes; those of some. -/
def fieldE (f : Fi) : List UInt8 := UInt8.ofNat f.code.toNat :: textsL [f.text]
def fieldsE (l : List Fi) : List UInt8 := l.flatMap fieldE ++ [0]
theorem bfields_c (l : List Fi) (hl : (fieldsE l).length ≤ 140737488351232) (hn : l.length ≤ 140737488355328) (hc : ∀ f ∈ l, 0 ≤ f.code ∧ f.code < 256) (h : List (List AV)) : Contract Try.prog 120 [.sl 2 (enc fiC l) none .no] h (.sl 1 (bytesE (fieldsE l)) none (.own .res)) h [] := by
  refine contract_of k120 mixed (by simp [c120]) fun hh hargs => ?_
  unfold fieldsE at hl
  rw [List.length_append, List.length_singleton] at hl
  simp [c120]
  refine xloop_ok (D := Nat) (fun j => ⟨[(6, .sl 2 (enc fiC l) none .no), (7, .v (.int .i64 l.length)), (8, .v (.int .i64 j))], [(3, .sl 1 (bytesE ((l.take j).flatMap fieldE)) none (.own (.slot 3)))], h, []⟩) (fun j => j ≤ l.length) (fun j => l.length - j) 0 (by simp) ?_ ?_
  · simp [Leq, hh]
  · intro j hj
    by_cases hlt : j < l.length
    · have hw : IntKind.i64.wrap ((j : Int) + 1) = (j : Int) + 1 := wrap64 (by omega) (by omega)
      obtain ⟨hx, hb⟩ := flat_step fieldE l 1 j hlt 140737488351232 (by omega)
      have hc1 := hc l[j] (List.getElem_mem _)
      have hc3 : max l[j].code 0 % 256 = l[j].code := by omega
      unfold fieldE at hb
      rw [List.length_cons] at hb
      change 1 + ((List.flatMap fieldE (List.take j l)).length + _) ≤ _ at hb
      simp [hlt, -List.length_flatMap]
      refine ⟨by omega, ?_⟩
      refine xcall_of (wtexts_c [l[j].text] (by omega) _) (by simp [strC]) (by simp) ?_
      simp [hw, -List.length_flatMap]
      refine ⟨by omega, j + 1, by omega, by omega, ?_⟩
      simp [Leq, hh, hx, fieldE, hc3]
    · have : j = l.length := by omega
      subst this
      simp [hh, fieldsE, -List.length_flatMap]
      omega
/-- A body. -/
def bodyB (m : Bk) : List UInt8 :=
  if m.kind = 82 then numE 4 0
  else if m.kind = 83 then textsL [m.name, m.value]
  else if m.kind = 75 then numE 4 m.n ++ numE 4 m.m
  else if m.kind = 90 then [UInt8.ofNat m.status.toNat]
  else if m.kind = 67 then textsL [m.tag]
  else if m.kind = 68 then listL cellE m.row
  else if m.kind = 84 then listL colE m.cols
  else if m.kind = 116 then listL (numE 4) m.oids
  else if m.kind = 69 ∨ m.kind = 78 then fieldsE m.fields
  else []
/-- What memory holds of it. -/
def BkOk (m : Bk) : Prop := (0 ≤ m.status ∧ m.status < 256) ∧ (∀ c ∈ m.row, c.2.length ≤ 70000000000000) ∧ (∀ c ∈ m.cols, c.name.length ≤ 70000000000000) ∧ ∀ f ∈ m.fields, 0 ≤ f.code ∧ f.code < 256
theorem bbody_c (m : Bk) (hf : BkFit m) (ho : BkOk m) (hb : (bodyB m).length ≤ 140737488351232) (h : List (List AV)) : Contract Try.prog 89 [.agg (bkC m)] h (.sl 1 (bytesE (bodyB m)) none .no) h [] := by
  obtain ⟨q1, q2, q3, q4, q5⟩ := hf
  obtain ⟨o1, o2, o3, o4⟩ := ho
  refine contract_of k89 mixed (by simp [c89]) fun hh hargs => ?_
  unfold bodyB at hb ⊢
  by_cases h82 : m.kind = 82
  · simp [c89, h82]
    refine xcall_self (by simp) (blong_c 0 _) ?_
    simp [hh]
  rw [if_neg h82] at hb ⊢
  by_cases h83 : m.kind = 83
  · rw [if_pos h83] at hb
    simp [c89, h83]
    refine xcall_of (wtexts_c [m.name, m.value] (by omega) _) (by simp [strC]) (by simp) ?_
    simp [hh]
  rw [if_neg h83] at hb ⊢
  by_cases h75 : m.kind = 75
  · have l1 := numE_len 4 m.n (by omega)
    have l2 := numE_len 4 m.m (by omega)
    simp [c89, h75]
    refine xcall_self (by simp) (blong_c _ _) ?_
    simp
    refine xcall_self (by simp) (blong_c _ _) ?_
    simp
    refine xcall_of (concat_c [numE 4 m.n, numE 4 m.m] _ (by simp; omega) (by simp)) (by simp [bytC]) (by simp) ?_
    simp [hh]
  rw [if_neg h75] at hb ⊢
  by_cases h90 : m.kind = 90
  · have hw : max m.status 0 % 256 = m.status := by omega
    simp [c89, h90, hh, hw]
  rw [if_neg h90] at hb ⊢
  by_cases h67 : m.kind = 67
  · rw [if_pos h67] at hb
    simp [c89, h67]
    refine xcall_of (wtexts_c [m.tag] (by omega) _) (by simp [strC]) (by simp) ?_
    simp [hh]
  rw [if_neg h67] at hb ⊢
  by_cases h68 : m.kind = 68
  · rw [if_pos h68] at hb
    simp [c89, h68]
    refine xcall_self (by simp) (wcells2_c m.row _ (by omega) q3 o2) ?_
    simp [hh]
  rw [if_neg h68] at hb ⊢
  by_cases h84 : m.kind = 84
  · rw [if_pos h84] at hb
    simp [c89, h84]
    refine xcall_self (by simp) (wlistK_c colE m.cols _ [] _ (by omega) q2 (by simp) (by simp) fun n hn h' => bcol_c n (o3 n hn) _) ?_
    simp [hh]
  rw [if_neg h84] at hb ⊢
  by_cases h116 : m.kind = 116
  · rw [if_pos h116] at hb
    simp [c89, h116]
    refine xcall_self (by simp) (wnumbers_c 4 m.oids _ (by omega) q1) ?_
    simp [hh]
  rw [if_neg h116] at hb ⊢
  by_cases h69 : m.kind = 69 ∨ m.kind = 78
  · rw [if_pos h69] at hb
    rcases h69 with h69 | h69
    all_goals
      simp [c89, h69]
      refine xcall_self (by simp) (bfields_c m.fields (by omega) q4 o4 _) ?_
      simp [hh]
  have h69' : ¬ m.kind = 69 := fun h => h69 (.inl h)
  have h78' : ¬ m.kind = 78 := fun h => h69 (.inr h)
  rw [if_neg h69]
  simp [c89, h82, h83, h75, h90, h67, h68, h84, h116, h69', h78', hh]
def encB (m : Bk) : Ms × Int := if checkB m = 0 then (⟨m.kind, bodyB m⟩, 0) else (⟨0, []⟩, checkB m)
theorem encB_ok {m : Bk} (h : checkB m = 0) : encB m = (⟨m.kind, bodyB m⟩, 0) := by unfold encB; rw [if_pos h]
theorem encB_no {m : Bk} (h : ¬ checkB m = 0) : encB m = (⟨0, []⟩, checkB m) := by unfold encB; rw [if_neg h]
theorem bencode_c (m : Bk) (hf : BkFit m) (ho : BkOk m) (hb : (bodyB m).length ≤ 140737488351232) (h : List (List AV)) : Contract Try.prog 59 [.agg (bkC m)] h (.tup [.agg (msC (encB m).1), .v (.int .i64 (encB m).2)]) h [] := by
  refine contract_of k59 mixed (by simp [c59]) fun hh hargs => ?_
  simp [c59]
  refine xcall_self (by simp) (bcheck_c m hf _) ?_
  by_cases he : checkB m = 0
  · simp [he]
    refine xcall_self (by simp) (bbody_c m hf ho hb _) ?_
    simp [hh, encB, he, msC_mk]
  · simp [he, hh, encB, msC_mk]

/-! ### Bytes -/
open He (textL)
/-- A column that is read. -/
def colS1 (st : Sta) : Sta := textS st
def colS2 (st : Sta) : Sta := numS (colS1 st) 4
def colS3 (st : Sta) : Sta := numS (colS2 st) 2
def colS4 (st : Sta) : Sta := numS (colS3 st) 4
def colS5 (st : Sta) : Sta := numS (colS4 st) 2
def colS6 (st : Sta) : Sta := numS (colS5 st) 4
def colS (st : Sta) : Sta := numS (colS6 st) 2
def colV (st : Sta) : Co := ⟨He.textL st, numV (colS1 st) 4, numV (colS2 st) 2, numV (colS3 st) 4, signedI (numV (colS4 st) 2) 2, signedI (numV (colS5 st) 4) 4, numV (colS6 st) 2⟩
theorem contract_at {P : Program} {f : FuncId} {args : List AV} {r : AV} {i : Nat} {H h' : List (List AV)} {a b : List AV} {wr : List Nat} (hi : i < H.length) (hc : Contract P f args (H.set i a ++ h') r ((H.set i a ++ h').set i b) wr) : Contract P f args (H.set i a ++ h') r (H.set i b ++ h') wr := by
  rwa [app_set_set hi] at hc
theorem colS_len (st : Sta) : He.lenS (colS st) ≤ He.lenS st := by
  unfold colS colS6 colS5 colS4 colS3 colS2 colS1
  have h1 := He.textS_len st
  have h2 := numS_len (textS st) 4
  have h3 := numS_len (numS (textS st) 4) 2
  have h4 := numS_len (numS (numS (textS st) 4) 2) 4
  have h5 := numS_len (numS (numS (numS (textS st) 4) 2) 4) 2
  have h6 := numS_len (numS (numS (numS (numS (textS st) 4) 2) 4) 2) 4
  have h7 := numS_len (numS (numS (numS (numS (numS (textS st) 4) 2) 4) 2) 4) 2
  omega
theorem colS_none : colS none = none := rfl
/-- Fields that are read, up to a byte 0: as many as there may be. -/
def fldR : Nat → Sta → List Fi × Sta
  | 0, st => ([], numS st 1)
  | k + 1, st => if numV st 1 = 0 then ([], numS st 1) else (⟨numV st 1, He.textL (numS st 1)⟩ :: (fldR k (textS (numS st 1))).1, (fldR k (textS (numS st 1))).2)
theorem num1_less {st : Sta} (h : numV st 1 ≠ 0) : He.lenS (numS st 1) + 1 ≤ He.lenS st := by
  cases st with
  | none => exact absurd rfl h
  | some xs =>
    simp only [numV, numS] at h ⊢
    split at h
    · rename_i he
      have hz := getErr_zero he
      rw [if_pos he]
      simp [He.lenS]; omega
    · exact absurd rfl h
def fldV (st : Sta) : List Fi := (fldR (He.lenS st + 1) st).1
def fldS (st : Sta) : Sta := (fldR (He.lenS st + 1) st).2
def readB (k : Int) (st : Sta) : Bk × Bool :=
  if k = 82 then (⟨82, 0, [], [], [], 0, 0, [], [], [], []⟩, numV st 4 == 0)
  else if k = 83 then (⟨83, 0, [], He.textL st, He.textL (textS st), 0, 0, [], [], [], []⟩, true)
  else if k = 75 then (⟨75, 0, [], [], [], numV st 4, numV (numS st 4) 4, [], [], [], []⟩, true)
  else if k = 90 then (⟨90, numV st 1, [], [], [], 0, 0, [], [], [], []⟩, statB (numV st 1))
  else if k = 67 then (⟨67, 0, He.textL st, [], [], 0, 0, [], [], [], []⟩, true)
  else if k = 68 then (⟨68, 0, [], [], [], 0, 0, [], [], cellsV st, []⟩, true)
  else if k = 84 then (⟨84, 0, [], [], [], 0, 0, [], listV colV colS st, [], []⟩, true)
  else if k = 116 then (⟨116, 0, [], [], [], 0, 0, numbersV 4 st, [], [], []⟩, true)
  else if k = 69 ∨ k = 78 then (⟨k, 0, [], [], [], 0, 0, [], [], [], fldV st⟩, true)
  else (⟨k, 0, [], [], [], 0, 0, [], [], [], []⟩, true)
def readBS (k : Int) (st : Sta) : Sta :=
  if k = 82 then numS st 4
  else if k = 83 then textS (textS st)
  else if k = 75 then numS (numS st 4) 4
  else if k = 90 then numS st 1
  else if k = 67 then textS st
  else if k = 68 then cellsS st
  else if k = 84 then listS colV colS st
  else if k = 116 then numbersS 4 st
  else if k = 69 ∨ k = 78 then fldS st
  else st
def noBk : Bk := ⟨0, 0, [], [], [], 0, 0, [], [], [], []⟩
def decB (m : Ms) : Bk × Int :=
  if kindB m.type = false then (noBk, 9)
  else if (readB m.type (some m.body)).2 && doneB (readBS m.type (some m.body)) then ((readB m.type (some m.body)).1, 0) else (noBk, 4)
/-- Messages' bytes. -/
def oneB (m : Bk) : List UInt8 := if checkB m = 0 then UInt8.ofNat m.kind.toNat :: (numE 4 ((bodyB m).length + 4) ++ bodyB m) else []
theorem oneB_ok {m : Bk} (h : checkB m = 0) : oneB m = UInt8.ofNat m.kind.toNat :: (numE 4 ((bodyB m).length + 4) ++ bodyB m) := by unfold oneB; rw [if_pos h]
theorem oneB_no {m : Bk} (h : ¬ checkB m = 0) : oneB m = [] := by unfold oneB; rw [if_neg h]
theorem numE_eq (size n : Int) : numE size n = putL [] n size := rfl
def bytesB (l : List Bk) : List UInt8 := l.flatMap oneB
theorem kind_range {k : Int} (h : kindB k = true) : 0 ≤ k ∧ k < 256 := by
  unfold kindB at h
  have := of_decide_eq_true h
  omega
theorem checkB_kind {m : Bk} (h : checkB m = 0) : kindB m.kind = true := by
  cases hk : kindB m.kind with
  | true => rfl
  | false => unfold checkB at h; rw [hk] at h; cases h
end Go.Proofs.Ytebggfghemblbaa.Ax
/- Package back: messages' bytes. -/
namespace Go.Proofs.Ytebggfghemblbaa.Ax
open Go.RowKit Go By Nm Sc Dg
set_option linter.unusedSimpArgs false
set_option linter.unusedVariables false
set_option maxRecDepth 10000

theorem bb_step (l : List Bk) {M : Nat} (hl : (bytesB l).length ≤ M) (j : Nat) (hlt : j < l.length) : bytesB (l.take (j + 1)) = bytesB (l.take j) ++ oneB l[j] ∧ (bytesB (l.take j)).length + (oneB l[j]).length ≤ M := by
  unfold bytesB at *
  obtain ⟨hx, hb⟩ := flat_step oneB l 0 j hlt M (by rw [Nat.zero_add]; exact hl)
  exact ⟨hx, by rw [Nat.zero_add] at hb; exact hb⟩
theorem oneB_len {m : Bk} (h : checkB m = 0) : (oneB m).length = (numE 4 ((bodyB m).length + 4)).length + (bodyB m).length + 1 := by
  rw [oneB_ok h, List.length_cons, List.length_append]
theorem bb_le {a n b : Nat} (h : a + (n + b + 1) ≤ 140737488351232) : a ≤ 140737488355327 ∧ a + 1 + n ≤ 140737488355328 ∧ a + 1 + n + b ≤ 140737488355328 := by omega
theorem bb_two {a : Nat} {m : Bk} (h : checkB m = 0) (hb : a + (oneB m).length ≤ 140737488351232) : a ≤ 140737488355327 ∧ a + 1 + (numE 4 ((bodyB m).length + 4)).length ≤ 140737488355328 ∧ a + 1 + (numE 4 ((bodyB m).length + 4)).length + (bodyB m).length ≤ 140737488355328 := by
  rw [oneB_len h] at hb
  exact bb_le hb
theorem w1 (x : Nat) (f3 : x ≤ 140737488351232) : IntKind.i64.wrap ((x : Int) + 4) = (x : Int) + 4 := wrap64 (by omega) (by omega)
theorem kmod (k : Int) (hk : 0 ≤ k ∧ k < 256) : max k 0 % 256 = k := by omega
theorem put4_c (n : Int) (h : List (List AV)) : Contract Try.prog 60 [.sl 1 (bytesE []) none .no, .v (.int .i64 n), .v (.int .i64 4)] h (.sl 1 (bytesE (numE 4 n)) none (.own .res)) h [] := by
  rw [numE_eq]
  exact put_c [] n 4 (by simp) h
theorem bytesE_msg (B E X : List UInt8) (k : Int) (hk : max k 0 % 256 = k) : bytesE (B ++ UInt8.ofNat k.toNat :: (E ++ X)) = bytesE B ++ [[AV.v (.int .u8 k)]] ++ bytesE E ++ bytesE X := by simp [hk]
theorem bbytes_c (l : List Bk) (hf : ∀ m ∈ l, BkFit m ∧ BkOk m ∧ (bodyB m).length ≤ 140737488351232) (hl : (bytesB l).length ≤ 140737488351232) (hn : l.length ≤ 140737488351232) (h : List (List AV)) : Contract Try.prog 32 [.sl 11 (enc bkC l) none .no] h (.sl 1 (bytesE (bytesB l)) none (.own .res)) h [] := by
  refine contract_of k32 mixed (by simp [c32]) fun hh hargs => ?_
  simp [c32]
  refine xloop_ok (D := Nat) (fun j => ⟨[(8, .sl 11 (enc bkC l) none .no), (9, .v (.int .i64 l.length)), (10, .v (.int .i64 j))], [(3, .sl 1 (bytesE (bytesB (l.take j))) none (.own (.slot 3)))], h, []⟩) (fun j => j ≤ l.length) (fun j => l.length - j) 0 (by simp) ?_ ?_
  · simp [Leq, hh, bytesB]
  · intro j hj
    by_cases hlt : j < l.length
    · have hw : IntKind.i64.wrap ((j : Int) + 1) = (j : Int) + 1 := wrap64 (by omega) (by omega)
      obtain ⟨hx', hb'⟩ := bb_step l hl j hlt
      obtain ⟨f1, f2, f3⟩ := hf l[j] (List.getElem_mem _)
      simp [hlt]
      generalize l[j] = m at *
      refine xcall_self (by simp) (bencode_c m f1 f2 f3 _) ?_
      by_cases he : checkB m = 0
      · have e1 : encB m = (⟨m.kind, bodyB m⟩, 0) := if_pos he
        have e2 : oneB m = UInt8.ofNat m.kind.toNat :: (numE 4 ((bodyB m).length + 4) ++ bodyB m) := if_pos he
        have hk3 := kmod m.kind (kind_range (checkB_kind he))
        have hw2 := w1 (bodyB m).length f3
        obtain ⟨b1, b2, b3⟩ := bb_two he hb'
        rw [e2] at hx'
        rw [e1]
        clear hb' e1 e2 hl hf f1 f2 f3
        simp [hw2]
        refine ⟨b1, ?_⟩
        clear hw2
        generalize ((bodyB m).length : Int) + 4 = n at *
        refine xcall_of (put4_c n _) (by simp) (by simp) ?_
        generalize numE 4 n = E at *
        generalize bodyB m = X at *
        simp [hw, -List.append_assoc]
        refine ⟨b2, b3, j + 1, by omega, by omega, ?_⟩
        have hx2 := bytesE_msg (bytesB (l.take j)) E X m.kind hk3
        rw [← hx'] at hx2
        simp [Leq, hh, hx2, -List.append_assoc]
      · have e2 := oneB_no he
        rw [e2, List.append_nil] at hx'
        rw [encB_no he]
        simp [he, hw]
        refine ⟨j + 1, by omega, by omega, ?_⟩
        simp [Leq, hh, hx']
    · have : j = l.length := by omega
      subst this
      simp [hh]
end Go.Proofs.Ytebggfghemblbaa.Ax
/- Columns and fields there and back. -/
namespace Go.Proofs.Ytebggfghemblbaa.Ax
open Go.RowKit Go By Nm Sc Dg
open He (textL)
set_option linter.unusedSimpArgs false
set_option linter.unusedVariables false

theorem textsL_one (t : List UInt8) : textsL [t] = He.encT t := by simp [textsL]
theorem nums_four {xs r : List UInt8} (h : numS (some xs) 4 = some r) : xs = numE 4 (numV (some xs) 4) ++ r ∧ 0 ≤ numV (some xs) 4 ∧ numV (some xs) 4 < 4294967296 := by
  have := @num_back 4 (.inr (.inr rfl)) xs r
  rw [four, p256_4] at this
  exact this h
theorem nums_two {xs r : List UInt8} (h : numS (some xs) 2 = some r) : xs = numE 2 (numV (some xs) 2) ++ r ∧ 0 ≤ numV (some xs) 2 ∧ numV (some xs) 2 < 65536 := by
  have := @num_back 2 (.inr (.inl rfl)) xs r
  rw [two, p256_2] at this
  exact this h
theorem nums_one {xs r : List UInt8} (h : numS (some xs) 1 = some r) : xs = numE 1 (numV (some xs) 1) ++ r ∧ 0 ≤ numV (some xs) 1 ∧ numV (some xs) 1 < 256 := by
  have := @num_back 1 (.inl rfl) xs r
  rw [onecast, one256] at this
  exact this h
theorem four_there {n : Int} (r : List UInt8) (h : rightB n 4 = true) : numV (some (numE 4 n ++ r)) 4 = n % 4294967296 ∧ numS (some (numE 4 n ++ r)) 4 = some r := by
  have := @num_put n 4 (.inr (.inr rfl)) r
  rw [four, p256_4] at this
  exact this h
theorem two_there {n : Int} (r : List UInt8) (h : rightB n 2 = true) : numV (some (numE 2 n ++ r)) 2 = n % 65536 ∧ numS (some (numE 2 n ++ r)) 2 = some r := by
  have := @num_put n 2 (.inr (.inl rfl)) r
  rw [two, p256_2] at this
  exact this h
theorem one_there {n : Int} (r : List UInt8) (h0 : 0 ≤ n) (h1 : n < 256) : numV (some (numE 1 n ++ r)) 1 = n ∧ numS (some (numE 1 n ++ r)) 1 = some r := by
  have := @num_put n 1 (.inl rfl) r (right_of_range (.inl rfl) h0 (by rw [one256]; exact h1))
  rw [onecast, one256, Int.emod_eq_of_lt h0 h1] at this
  exact this
theorem byte_all : ∀ k : Fin 256, putL [] (k.val : Int) 1 = [UInt8.ofNat k.val] := by decide +kernel
theorem numE_one {n : Int} (h0 : 0 ≤ n) (h1 : n < 256) : numE 1 n = [UInt8.ofNat n.toNat] := by
  have := byte_all ⟨n.toNat, by omega⟩
  simp only at this
  rw [numE_eq]
  rwa [Int.toNat_of_nonneg h0] at this
theorem signed2 (n : Int) : signedI n 2 = if 32768 ≤ n ∧ n < 65536 then n - 65536 else n := by
  have e : szB 2 = true := rfl
  have e2 : powI 2 = 65536 := rfl
  unfold signedI
  rw [e, e2]
  simp only [true_and]
  split <;> split <;> omega
theorem put_signed2 {n : Int} (h0 : 0 ≤ n) (h1 : n < 65536) : numE 2 (signedI n 2) = numE 2 n := by
  rw [signed2]
  split
  · rename_i h
    have r1 : rightB (n - 65536) (2 : Nat) = true := by rw [two, right2]; omega
    have r2 : rightB n (2 : Nat) = true := by rw [two, right2]; omega
    have e1 := putL_right r1
    have e2 := putL_right r2
    rw [two] at e1 e2
    rw [numE_eq, numE_eq, e1, e2]
    have b : ∀ k, k < 2 → putByte (n - 65536) k = putByte n k := fun k hk => by
      unfold putByte
      congr 2
      rcases (by omega : k = 0 ∨ k = 1) with rfl | rfl <;> omega
    simp [putTo, b]
  · rfl
theorem put_signed4 {n : Int} (h0 : 0 ≤ n) (h1 : n < 4294967296) : numE 4 (signedI n 4) = numE 4 n := put_signed h0 h1
theorem sgn2_there {n : Int} (r : List UInt8) (h : sgnB 2 n = true) : signedI (numV (some (numE 2 n ++ r)) 2) 2 = n ∧ numS (some (numE 2 n ++ r)) 2 = some r := by
  simp only [sgnB, Bool.and_eq_true, beq_iff_eq] at h
  obtain ⟨a, b⟩ := two_there r h.1
  refine ⟨?_, b⟩
  have h1 := (right2 n).1 h.1
  have h2 := h.2
  rw [signed2] at h2
  rw [a, signed2]
  split <;> split at h2 <;> omega
theorem sgn4_there {n : Int} (r : List UInt8) (h : sgnB 4 n = true) : signedI (numV (some (numE 4 n ++ r)) 4) 4 = n ∧ numS (some (numE 4 n ++ r)) 4 = some r := by
  simp only [sgnB, Bool.and_eq_true, beq_iff_eq] at h
  obtain ⟨a, b⟩ := four_there r h.1
  refine ⟨?_, b⟩
  have h1 := (right4 n).1 h.1
  have h2 := h.2
  rw [signed4] at h2
  rw [a, signed4]
  split <;> split at h2 <;> omega
theorem uns4_there {n : Int} (r : List UInt8) (h : unsB 4 n = true) : numV (some (numE 4 n ++ r)) 4 = n ∧ numS (some (numE 4 n ++ r)) 4 = some r := by
  simp only [unsB, Bool.and_eq_true, Bool.not_eq_true', decide_eq_false_iff_not] at h
  obtain ⟨a, b⟩ := four_there r h.2
  have h1 := (right4 n).1 h.2
  exact ⟨by rw [a]; omega, b⟩
theorem uns2_there {n : Int} (r : List UInt8) (h : unsB 2 n = true) : numV (some (numE 2 n ++ r)) 2 = n ∧ numS (some (numE 2 n ++ r)) 2 = some r := by
  simp only [unsB, Bool.and_eq_true, Bool.not_eq_true', decide_eq_false_iff_not] at h
  obtain ⟨a, b⟩ := two_there r h.2
  have h1 := (right2 n).1 h.2
  exact ⟨by rw [a]; omega, b⟩
theorem uns4_of {n : Int} (h0 : 0 ≤ n) (h1 : n < 4294967296) : unsB 4 n = true := by
  simp only [unsB, Bool.and_eq_true, Bool.not_eq_true', decide_eq_false_iff_not, right4]; omega
theorem uns2_of {n : Int} (h0 : 0 ≤ n) (h1 : n < 65536) : unsB 2 n = true := by
  simp only [unsB, Bool.and_eq_true, Bool.not_eq_true', decide_eq_false_iff_not, right2]; omega
theorem sgn2_of {n : Int} (h0 : 0 ≤ n) (h1 : n < 65536) : sgnB 2 (signedI n 2) = true := by
  simp only [sgnB, Bool.and_eq_true, beq_iff_eq, right2, signed2]
  repeat' split
  all_goals omega
theorem sgn4_of {n : Int} (h0 : 0 ≤ n) (h1 : n < 4294967296) : sgnB 4 (signedI n 4) = true := by
  simp only [sgnB, Bool.and_eq_true, beq_iff_eq, right4, signed4]
  repeat' split
  all_goals omega

theorem colS_eq (st : Sta) : colS st = numS (numS (numS (numS (numS (numS (textS st) 4) 2) 4) 2) 4) 2 := rfl
theorem colV_eq (st : Sta) : colV st = ⟨textL st, numV (textS st) 4, numV (numS (textS st) 4) 2, numV (numS (numS (textS st) 4) 2) 4, signedI (numV (numS (numS (numS (textS st) 4) 2) 4) 2) 2, signedI (numV (numS (numS (numS (numS (textS st) 4) 2) 4) 2) 4) 4, numV (numS (numS (numS (numS (numS (textS st) 4) 2) 4) 2) 4) 2⟩ := rfl
theorem col_parts {c : Co} (h : colB c = true) : cleanB c.name = true ∧ unsB 4 c.table = true ∧ unsB 4 c.oid = true ∧ unsB 2 c.attr = true ∧ unsB 2 c.format = true ∧ sgnB 2 c.size = true ∧ sgnB 4 c.mod = true := by
  simp only [colB, Bool.and_eq_true] at h
  obtain ⟨a, ⟨b, c⟩, ⟨d, e⟩, f, g⟩ := h
  exact ⟨a, b, c, d, e, f, g⟩
theorem col_of {c : Co} (h1 : cleanB c.name = true) (h2 : unsB 4 c.table = true) (h3 : unsB 4 c.oid = true) (h4 : unsB 2 c.attr = true) (h5 : unsB 2 c.format = true) (h6 : sgnB 2 c.size = true) (h7 : sgnB 4 c.mod = true) : colB c = true := by
  simp only [colB, Bool.and_eq_true]
  exact ⟨h1, ⟨h2, h3⟩, ⟨h4, h5⟩, h6, h7⟩
theorem colE_app (c : Co) (r : List UInt8) : colE c ++ r = He.encT c.name ++ (numE 4 c.table ++ (numE 2 c.attr ++ (numE 4 c.oid ++ (numE 2 c.size ++ (numE 4 c.mod ++ (numE 2 c.format ++ r)))))) := by
  unfold colE
  rw [textsL_one]
  simp only [List.append_assoc]
theorem cols_there : There colE colV colS (fun c => colB c = true) := fun c r hc => by
  obtain ⟨h1, h2, h3, h4, h5, h6, h7⟩ := col_parts hc
  rw [colE_app, colS_eq, colV_eq]
  obtain ⟨a7, b7⟩ := uns2_there r h5
  obtain ⟨a6, b6⟩ := sgn4_there (numE 2 c.format ++ r) h7
  obtain ⟨a5, b5⟩ := sgn2_there (numE 4 c.mod ++ (numE 2 c.format ++ r)) h6
  obtain ⟨a4, b4⟩ := uns4_there (numE 2 c.size ++ (numE 4 c.mod ++ (numE 2 c.format ++ r))) h3
  obtain ⟨a3, b3⟩ := uns2_there (numE 4 c.oid ++ (numE 2 c.size ++ (numE 4 c.mod ++ (numE 2 c.format ++ r)))) h4
  obtain ⟨a2, b2⟩ := uns4_there (numE 2 c.attr ++ (numE 4 c.oid ++ (numE 2 c.size ++ (numE 4 c.mod ++ (numE 2 c.format ++ r))))) h2
  obtain ⟨a1, b1⟩ := He.text_enc (numE 4 c.table ++ (numE 2 c.attr ++ (numE 4 c.oid ++ (numE 2 c.size ++ (numE 4 c.mod ++ (numE 2 c.format ++ r)))))) h1
  rw [b1, b2, b3, b4, b5, b6, b7, a1, a2, a3, a4, a5, a6, a7]
  exact ⟨rfl, rfl⟩
theorem some_num {size : Int} {st : Sta} {r : List UInt8} (h : numS st size = some r) : ∃ xs, st = some xs := some_of (f := fun s => numS s size) rfl h
theorem cols_back : Back colE colV colS (fun c => colB c = true) := ⟨colS_none, fun xs r h => by
  rw [colS_eq] at h
  obtain ⟨y6, e6⟩ := some_num h
  obtain ⟨y5, e5⟩ := some_num e6
  obtain ⟨y4, e4⟩ := some_num e5
  obtain ⟨y3, e3⟩ := some_num e4
  obtain ⟨y2, e2⟩ := some_num e3
  obtain ⟨y1, e1⟩ := some_num e2
  rw [e6] at h
  rw [e5] at e6
  rw [e4] at e5
  rw [e3] at e4
  rw [e2] at e3
  rw [e1] at e2
  obtain ⟨b1, c1⟩ := He.text_back e1
  obtain ⟨b2, l2, u2⟩ := nums_four e2
  obtain ⟨b3, l3, u3⟩ := nums_two e3
  obtain ⟨b4, l4, u4⟩ := nums_four e4
  obtain ⟨b5, l5, u5⟩ := nums_two e5
  obtain ⟨b6, l6, u6⟩ := nums_four e6
  obtain ⟨b7, l7, u7⟩ := nums_two h
  rw [colV_eq, e1, e2, e3, e4, e5, e6]
  constructor
  · rw [colE_app]
    rw [put_signed2 l5 u5, put_signed4 l6 u6, ← b7, ← b6, ← b5, ← b4, ← b3, ← b2, ← b1]
  · exact col_of c1 (uns4_of l2 u2) (uns4_of l4 u4) (uns2_of l3 u3) (uns2_of l7 u7) (sgn2_of l5 u5) (sgn4_of l6 u6)⟩

/-! ### Fields -/
def FiOk (f : Fi) : Prop := 0 ≤ f.code ∧ f.code < 256
theorem field_parts {f : Fi} (h : fieldB f = true) : f.code ≠ 0 ∧ cleanB f.text = true := by
  simp only [fieldB, Bool.and_eq_true, Bool.not_eq_true', beq_eq_false_iff_ne] at h
  exact h
theorem fieldsE_nil : fieldsE [] = [0] := rfl
theorem fieldsE_cons (f : Fi) (l : List Fi) (r : List UInt8) (h : FiOk f) : fieldsE (f :: l) ++ r = numE 1 f.code ++ (He.encT f.text ++ (fieldsE l ++ r)) := by
  rw [numE_one h.1 h.2]
  unfold fieldsE
  rw [List.flatMap_cons]
  unfold fieldE
  rw [textsL_one]
  simp only [List.append_assoc, List.cons_append, List.nil_append]
theorem fldR_nil (k : Nat) (r : List UInt8) : fldR k (some (0 :: r)) = ([], some r) := by
  have e : (0 :: r : List UInt8) = numE 1 0 ++ r := by rw [numE_one (by omega) (by omega)]; rfl
  obtain ⟨a, b⟩ := one_there (n := 0) r (by omega) (by omega)
  rw [e]
  cases k with
  | zero => rw [fldR, b]
  | succ k => rw [fldR, if_pos a, b]
theorem fields_there : ∀ (l : List Fi) (k : Nat) (r : List UInt8), l.length ≤ k → (∀ f ∈ l, FiOk f ∧ fieldB f = true) → fldR k (some (fieldsE l ++ r)) = (l, some r)
  | [], k, r, _, _ => fldR_nil k r
  | f :: l, 0, r, h, _ => by simp at h
  | f :: l, k + 1, r, h, hl => by
    obtain ⟨h1, h2⟩ := hl f (by simp)
    obtain ⟨h3, h4⟩ := field_parts h2
    obtain ⟨a1, b1⟩ := one_there (n := f.code) (He.encT f.text ++ (fieldsE l ++ r)) h1.1 h1.2
    obtain ⟨a2, b2⟩ := He.text_enc (fieldsE l ++ r) h4
    rw [fieldsE_cons f l r h1, fldR, a1, b1, if_neg h3, a2, b2, fields_there l k r (by simpa using h) (fun g hg => hl g (by simp [hg]))]
theorem fldR_none : ∀ k, fldR k none = ([], none)
  | 0 => rfl
  | k + 1 => rfl
theorem fields_back : ∀ (k : Nat) (xs r : List UInt8) (l : List Fi), xs.length < k → fldR k (some xs) = (l, some r) → xs = fieldsE l ++ r ∧ ∀ f ∈ l, FiOk f ∧ fieldB f = true
  | 0, xs, r, l, h, _ => by simp at h
  | k + 1, xs, r, l, h, hr => by
    rw [fldR] at hr
    by_cases hz : numV (some xs) 1 = 0
    · rw [if_pos hz] at hr
      obtain ⟨rfl, e⟩ := Prod.mk.inj hr
      obtain ⟨b, _, _⟩ := nums_one e
      rw [hz, numE_one (by omega) (by omega)] at b
      exact ⟨b, by simp⟩
    · rw [if_neg hz] at hr
      obtain ⟨hl, e⟩ := Prod.mk.inj hr
      cases e1 : numS (some xs) 1 with
      | none => rw [e1] at e; change (fldR k none).2 = some r at e; rw [fldR_none] at e; cases e
      | some y1 =>
        rw [e1] at e hl
        cases e2 : textS (some y1) with
        | none => rw [e2, fldR_none] at e; cases e
        | some y2 =>
          rw [e2] at e hl
          obtain ⟨b1, l1, u1⟩ := nums_one e1
          obtain ⟨b2, c2⟩ := He.text_back e2
          have hlen1 := congrArg List.length b1
          have hlen2 := congrArg List.length b2
          rw [numE_one l1 u1] at hlen1
          simp only [List.length_append, List.length_singleton] at hlen1 hlen2
          obtain ⟨b3, c3⟩ := fields_back k y2 r (fldR k (some y2)).1 (by omega) (by rw [← e])
          subst hl
          have hf : FiOk ⟨numV (some xs) 1, textL (some y1)⟩ := ⟨l1, u1⟩
          refine ⟨?_, fun f hf' => ?_⟩
          · rw [fieldsE_cons _ _ _ hf, ← b3, ← b2, ← b1]
          · rcases List.mem_cons.1 hf' with rfl | hf'
            · refine ⟨hf, ?_⟩
              simp only [fieldB, Bool.and_eq_true, Bool.not_eq_true', beq_eq_false_iff_ne]
              exact ⟨hz, c2⟩
            · exact c3 f hf'
end Go.Proofs.Ytebggfghemblbaa.Ax
/- Back's messages there and back, on lists of bytes. -/
namespace Go.Proofs.Ytebggfghemblbaa.Ax
open Go.RowKit Go By Nm Sc Dg
open He (textL)
set_option linter.unusedSimpArgs false
set_option linter.unusedVariables false

theorem check_okB {m : Bk} (h : checkB m = 0) : kindB m.kind = true ∧ rstatB m = true ∧ blistsB m = true ∧ bcleanB m = true ∧ bnumB m = true ∧ m = saidB m := by
  unfold checkB at h
  split at h
  · cases h
  · rename_i hk
    split at h
    · rename_i hc
      simp only [Bool.and_eq_true] at hc
      rw [sameB_eq] at hc
      exact ⟨by simpa using hk, hc.1, hc.2.1, hc.2.2.1, hc.2.2.2.1, of_decide_eq_true hc.2.2.2.2⟩
    · cases h
theorem check_ofB {m : Bk} (h1 : kindB m.kind = true) (h2 : rstatB m = true) (h3 : blistsB m = true) (h4 : bcleanB m = true) (h5 : bnumB m = true) (h6 : m = saidB m) : checkB m = 0 := by
  unfold checkB
  have h7 : sameB m (saidB m) = true := by rw [sameB_eq]; exact decide_eq_true h6
  rw [if_neg (by simp [h1]), h2, h3, h4, h5, h7]; rfl
theorem kinds_of {k : Int} (h : kindB k = true) : k = 82 ∨ k = 83 ∨ k = 75 ∨ k = 90 ∨ k = 67 ∨ k = 68 ∨ k = 84 ∨ k = 116 ∨ (k = 69 ∨ k = 78) ∨ (k = 49 ∨ k = 50 ∨ k = 51 ∨ k = 110 ∨ k = 115 ∨ k = 73) := by
  unfold kindB at h
  have := of_decide_eq_true h
  omega
theorem lists_ok {m : Bk} (h : blistsB m = true) : (m.oids.length ≤ 65535 ∧ m.cols.length ≤ 65535 ∧ m.row.length ≤ 65535 ∧ m.fields.length ≤ 65535) ∧ (∀ n ∈ m.oids, unsB 4 n = true) ∧ (∀ c ∈ m.row, CellOk c) ∧ (∀ c ∈ m.cols, colB c = true) ∧ ∀ f ∈ m.fields, fieldB f = true := by
  simp only [blistsB, fewB, Bool.and_eq_true, decide_eq_true_eq] at h
  obtain ⟨⟨a, b, c, d⟩, e, f, g, i⟩ := h
  exact ⟨⟨by omega, by omega, by omega, by omega⟩, List.all_eq_true.1 e, fun c hc => cell_ok (List.all_eq_true.1 f c hc), List.all_eq_true.1 g, List.all_eq_true.1 i⟩
section
variable (st : Sta)
theorem readB_82 : readB 82 st = (⟨82, 0, [], [], [], 0, 0, [], [], [], []⟩, numV st 4 == 0) ∧ readBS 82 st = numS st 4 := ⟨rfl, rfl⟩
theorem readB_83 : readB 83 st = (⟨83, 0, [], textL st, textL (textS st), 0, 0, [], [], [], []⟩, true) ∧ readBS 83 st = textS (textS st) := ⟨rfl, rfl⟩
theorem readB_75 : readB 75 st = (⟨75, 0, [], [], [], numV st 4, numV (numS st 4) 4, [], [], [], []⟩, true) ∧ readBS 75 st = numS (numS st 4) 4 := ⟨rfl, rfl⟩
theorem readB_90 : readB 90 st = (⟨90, numV st 1, [], [], [], 0, 0, [], [], [], []⟩, statB (numV st 1)) ∧ readBS 90 st = numS st 1 := ⟨rfl, rfl⟩
theorem readB_67 : readB 67 st = (⟨67, 0, textL st, [], [], 0, 0, [], [], [], []⟩, true) ∧ readBS 67 st = textS st := ⟨rfl, rfl⟩
theorem readB_68 : readB 68 st = (⟨68, 0, [], [], [], 0, 0, [], [], cellsV st, []⟩, true) ∧ readBS 68 st = cellsS st := ⟨rfl, rfl⟩
theorem readB_84 : readB 84 st = (⟨84, 0, [], [], [], 0, 0, [], listV colV colS st, [], []⟩, true) ∧ readBS 84 st = listS colV colS st := ⟨rfl, rfl⟩
theorem readB_116 : readB 116 st = (⟨116, 0, [], [], [], 0, 0, numbersV 4 st, [], [], []⟩, true) ∧ readBS 116 st = numbersS 4 st := ⟨rfl, rfl⟩
theorem readB_fld {k : Int} (h : k = 69 ∨ k = 78) : readB k st = (⟨k, 0, [], [], [], 0, 0, [], [], [], fldV st⟩, true) ∧ readBS k st = fldS st := by rcases h with rfl | rfl <;> exact ⟨rfl, rfl⟩
theorem readB_no {k : Int} (h : k = 49 ∨ k = 50 ∨ k = 51 ∨ k = 110 ∨ k = 115 ∨ k = 73) : readB k st = (⟨k, 0, [], [], [], 0, 0, [], [], [], []⟩, true) ∧ readBS k st = st := by rcases h with rfl | rfl | rfl | rfl | rfl | rfl <;> exact ⟨rfl, rfl⟩
end
section
variable {m : Bk}
theorem bodyB_82 (h : m.kind = 82) : bodyB m = numE 4 0 := by unfold bodyB; rw [if_pos h]
theorem bodyB_83 (h : m.kind = 83) : bodyB m = textsL [m.name, m.value] := by unfold bodyB; rw [if_neg (by omega), if_pos h]
theorem bodyB_75 (h : m.kind = 75) : bodyB m = numE 4 m.n ++ numE 4 m.m := by unfold bodyB; rw [if_neg (by omega), if_neg (by omega), if_pos h]
theorem bodyB_90 (h : m.kind = 90) : bodyB m = [UInt8.ofNat m.status.toNat] := by unfold bodyB; rw [if_neg (by omega), if_neg (by omega), if_neg (by omega), if_pos h]
theorem bodyB_67 (h : m.kind = 67) : bodyB m = textsL [m.tag] := by unfold bodyB; rw [if_neg (by omega), if_neg (by omega), if_neg (by omega), if_neg (by omega), if_pos h]
theorem bodyB_68 (h : m.kind = 68) : bodyB m = listL cellE m.row := by unfold bodyB; rw [if_neg (by omega), if_neg (by omega), if_neg (by omega), if_neg (by omega), if_neg (by omega), if_pos h]
theorem bodyB_84 (h : m.kind = 84) : bodyB m = listL colE m.cols := by unfold bodyB; rw [if_neg (by omega), if_neg (by omega), if_neg (by omega), if_neg (by omega), if_neg (by omega), if_neg (by omega), if_pos h]
theorem bodyB_116 (h : m.kind = 116) : bodyB m = listL (numE 4) m.oids := by unfold bodyB; rw [if_neg (by omega), if_neg (by omega), if_neg (by omega), if_neg (by omega), if_neg (by omega), if_neg (by omega), if_neg (by omega), if_pos h]
theorem bodyB_fld (h : m.kind = 69 ∨ m.kind = 78) : bodyB m = fieldsE m.fields := by unfold bodyB; rw [if_neg (by omega), if_neg (by omega), if_neg (by omega), if_neg (by omega), if_neg (by omega), if_neg (by omega), if_neg (by omega), if_neg (by omega), if_pos h]
theorem bodyB_no (h : m.kind = 49 ∨ m.kind = 50 ∨ m.kind = 51 ∨ m.kind = 110 ∨ m.kind = 115 ∨ m.kind = 73) : bodyB m = [] := by unfold bodyB; rw [if_neg (by omega), if_neg (by omega), if_neg (by omega), if_neg (by omega), if_neg (by omega), if_neg (by omega), if_neg (by omega), if_neg (by omega), if_neg (by omega)]
theorem saidB_83 (h : m.kind = 83) : saidB m = ⟨83, 0, [], m.name, m.value, 0, 0, [], [], [], []⟩ := by unfold saidB; rw [if_pos h]
theorem saidB_75 (h : m.kind = 75) : saidB m = ⟨75, 0, [], [], [], m.n, m.m, [], [], [], []⟩ := by unfold saidB; rw [if_neg (by omega), if_pos h]
theorem saidB_90 (h : m.kind = 90) : saidB m = ⟨90, m.status, [], [], [], 0, 0, [], [], [], []⟩ := by unfold saidB; rw [if_neg (by omega), if_neg (by omega), if_pos h]
theorem saidB_67 (h : m.kind = 67) : saidB m = ⟨67, 0, m.tag, [], [], 0, 0, [], [], [], []⟩ := by unfold saidB; rw [if_neg (by omega), if_neg (by omega), if_neg (by omega), if_pos h]
theorem saidB_68 (h : m.kind = 68) : saidB m = ⟨68, 0, [], [], [], 0, 0, [], [], m.row, []⟩ := by unfold saidB; rw [if_neg (by omega), if_neg (by omega), if_neg (by omega), if_neg (by omega), if_pos h]
theorem saidB_84 (h : m.kind = 84) : saidB m = ⟨84, 0, [], [], [], 0, 0, [], m.cols, [], []⟩ := by unfold saidB; rw [if_neg (by omega), if_neg (by omega), if_neg (by omega), if_neg (by omega), if_neg (by omega), if_pos h]
theorem saidB_116 (h : m.kind = 116) : saidB m = ⟨116, 0, [], [], [], 0, 0, m.oids, [], [], []⟩ := by unfold saidB; rw [if_neg (by omega), if_neg (by omega), if_neg (by omega), if_neg (by omega), if_neg (by omega), if_neg (by omega), if_pos h]
theorem saidB_fld (h : m.kind = 69 ∨ m.kind = 78) : saidB m = ⟨m.kind, 0, [], [], [], 0, 0, [], [], [], m.fields⟩ := by
  unfold saidB; rw [if_neg (by omega), if_neg (by omega), if_neg (by omega), if_neg (by omega), if_neg (by omega), if_neg (by omega), if_neg (by omega)]
  rcases h with h | h
  · rw [if_pos h, h]
  · rw [if_neg (by omega), if_pos h, h]
theorem saidB_no (h : m.kind = 82 ∨ m.kind = 49 ∨ m.kind = 50 ∨ m.kind = 51 ∨ m.kind = 110 ∨ m.kind = 115 ∨ m.kind = 73) : saidB m = ⟨m.kind, 0, [], [], [], 0, 0, [], [], [], []⟩ := by
  unfold saidB; rw [if_neg (by omega), if_neg (by omega), if_neg (by omega), if_neg (by omega), if_neg (by omega), if_neg (by omega), if_neg (by omega), if_neg (by omega), if_neg (by omega)]
end
theorem fields_count : ∀ l : List Fi, l.length + 1 ≤ (fieldsE l).length
  | [] => by simp [fieldsE]
  | f :: l => by
    have := fields_count l
    unfold fieldsE at *
    rw [List.flatMap_cons, List.append_assoc, List.length_append, List.length_cons]
    have : 1 ≤ (fieldE f).length := by unfold fieldE; rw [List.length_cons]; omega
    omega
theorem uns4s_there : There (numE 4) (numV · 4) (numS · 4) (fun n => unsB 4 n = true) := fun n r hn => uns4_there r hn
theorem uns4s_back : Back (numE 4) (numV · 4) (numS · 4) (fun n => unsB 4 n = true) := ⟨rfl, fun xs r h => by
  obtain ⟨a, b, c⟩ := nums_four h
  exact ⟨a, uns4_of b c⟩⟩
theorem app_nil' (l : List UInt8) : l = l ++ [] := (List.append_nil l).symm
/-- A message is read from its bytes. -/
theorem read_thereB {m : Bk} (h : checkB m = 0) (hf : ∀ f ∈ m.fields, FiOk f) : readB m.kind (some (bodyB m)) = (m, true) ∧ readBS m.kind (some (bodyB m)) = some [] := by
  obtain ⟨hk, hst, hl, hc, hn, hs⟩ := check_okB h
  obtain ⟨⟨l1, l2, l3, l4⟩, u1, u2, u3, u4⟩ := lists_ok hl
  simp only [bcleanB, Bool.and_eq_true] at hc
  obtain ⟨c1, c2, c3⟩ := hc
  simp only [bnumB, Bool.and_eq_true] at hn
  obtain ⟨n1, n2⟩ := hn
  rcases kinds_of hk with e | e | e | e | e | e | e | e | e | e
  · rw [saidB_no (.inl e)] at hs
    obtain ⟨a, b⟩ := uns4_there (n := 0) [] rfl
    rw [← app_nil'] at a b
    obtain ⟨r1, r2⟩ := readB_82 (some (bodyB m))
    rw [e] at hs ⊢
    rw [r1, r2, bodyB_82 e, a, b]
    exact ⟨by rw [hs]; rfl, rfl⟩
  · rw [saidB_83 e] at hs
    have hb : bodyB m = He.encT m.name ++ (He.encT m.value ++ []) := by rw [bodyB_83 e]; simp [textsL]
    obtain ⟨a1, b1⟩ := He.text_enc (He.encT m.value ++ []) c2
    obtain ⟨a2, b2⟩ := He.text_enc [] c3
    obtain ⟨r1, r2⟩ := readB_83 (some (bodyB m))
    rw [e, r1, r2, hb, b1, a1, a2, b2]
    exact ⟨by rw [← hs], rfl⟩
  · rw [saidB_75 e] at hs
    have hb : bodyB m = numE 4 m.n ++ (numE 4 m.m ++ []) := by rw [bodyB_75 e, List.append_nil]
    obtain ⟨a1, b1⟩ := uns4_there (numE 4 m.m ++ []) n1
    obtain ⟨a2, b2⟩ := uns4_there [] n2
    obtain ⟨r1, r2⟩ := readB_75 (some (bodyB m))
    rw [e, r1, r2, hb, b1, a1, a2, b2]
    exact ⟨by rw [← hs], rfl⟩
  · rw [saidB_90 e] at hs
    have hz : statB m.status = true := by simpa [rstatB, e] using hst
    have h0 : 0 ≤ m.status ∧ m.status < 256 := by
      simp [statB] at hz; omega
    obtain ⟨a1, b1⟩ := one_there (n := m.status) [] h0.1 h0.2
    rw [← app_nil', numE_one h0.1 h0.2] at a1 b1
    obtain ⟨r1, r2⟩ := readB_90 (some (bodyB m))
    rw [e, r1, r2, bodyB_90 e, a1, b1, hz]
    exact ⟨by rw [← hs], rfl⟩
  · rw [saidB_67 e] at hs
    have hb : bodyB m = He.encT m.tag ++ [] := by rw [bodyB_67 e, textsL_one, List.append_nil]
    obtain ⟨a1, b1⟩ := He.text_enc [] c1
    obtain ⟨r1, r2⟩ := readB_67 (some (bodyB m))
    rw [e, r1, r2, hb, a1, b1]
    exact ⟨by rw [← hs], rfl⟩
  · rw [saidB_68 e] at hs
    obtain ⟨a1, b1⟩ := list_there cells_there m.row [] (by omega) u2
    rw [← app_nil'] at a1 b1
    obtain ⟨r1, r2⟩ := readB_68 (some (bodyB m))
    rw [e, r1, r2, bodyB_68 e]
    simp only [cellsV, cellsS]
    rw [a1, b1]
    exact ⟨by rw [← hs], rfl⟩
  · rw [saidB_84 e] at hs
    obtain ⟨a1, b1⟩ := list_there cols_there m.cols [] (by omega) u3
    rw [← app_nil'] at a1 b1
    obtain ⟨r1, r2⟩ := readB_84 (some (bodyB m))
    rw [e, r1, r2, bodyB_84 e, a1, b1]
    exact ⟨by rw [← hs], rfl⟩
  · rw [saidB_116 e] at hs
    obtain ⟨a1, b1⟩ := list_there uns4s_there m.oids [] (by omega) u1
    rw [← app_nil'] at a1 b1
    obtain ⟨r1, r2⟩ := readB_116 (some (bodyB m))
    rw [e, r1, r2, bodyB_116 e]
    simp only [numbersV, numbersS]
    rw [a1, b1]
    exact ⟨by rw [← hs], rfl⟩
  · rw [saidB_fld e] at hs
    have hcnt := fields_count m.fields
    have a := fields_there m.fields (He.lenS (some (fieldsE m.fields)) + 1) [] (by simp only [He.lenS]; omega) (fun f hf' => ⟨hf f hf', u4 f hf'⟩)
    rw [← app_nil'] at a
    obtain ⟨r1, r2⟩ := readB_fld (some (bodyB m)) e
    rw [r1, r2, bodyB_fld e]
    unfold fldV fldS
    rw [a]
    exact ⟨by rw [← hs], rfl⟩
  · rw [saidB_no (.inr e)] at hs
    obtain ⟨r1, r2⟩ := readB_no (some (bodyB m)) e
    rw [r1, r2, bodyB_no e]
    exact ⟨by rw [← hs], rfl⟩
end Go.Proofs.Ytebggfghemblbaa.Ax
namespace Go.Proofs.Ytebggfghemblbaa.Ax
open Go.RowKit Go By Nm Sc Dg
open He (textL)
set_option linter.unusedSimpArgs false
set_option linter.unusedVariables false

theorem lists_of {m : Bk} (l1 : m.oids.length ≤ 65535) (l2 : m.cols.length ≤ 65535) (l3 : m.row.length ≤ 65535) (l4 : m.fields.length ≤ 65535) (u1 : m.oids.all (unsB 4) = true) (u2 : m.row.all cellB = true) (u3 : m.cols.all colB = true) (u4 : m.fields.all fieldB = true) : blistsB m = true := by
  simp only [blistsB, fewB, Bool.and_eq_true, decide_eq_true_eq]
  exact ⟨⟨by omega, by omega, by omega, by omega⟩, u1, u2, u3, u4⟩
theorem clean_ofB {m : Bk} (h1 : cleanB m.tag = true) (h2 : cleanB m.name = true) (h3 : cleanB m.value = true) : bcleanB m = true := by
  simp only [bcleanB, Bool.and_eq_true]; exact ⟨h1, h2, h3⟩
/-- What memory holds of what was read. -/
def Held (m : Bk) : Prop := BkFit m ∧ BkOk m
theorem held_of {m : Bk} (l1 : m.oids.length ≤ 65535) (l2 : m.cols.length ≤ 65535) (l3 : m.row.length ≤ 65535) (l4 : m.fields.length ≤ 65535) (h0 : 0 ≤ m.status) (h1 : m.status < 256) (hr : ∀ c ∈ m.row, c.2.length ≤ 65535) (hc : ∀ c ∈ m.cols, c.name.length ≤ 65535) (hf : ∀ f ∈ m.fields, FiOk f) : Held m :=
  ⟨⟨by omega, by omega, by omega, by omega, fun c h => by have := hr c h; omega⟩, ⟨h0, h1⟩, fun c h => by have := hr c h; omega, fun c h => by have := hc c h; omega, hf⟩
theorem none_of {α : Type} {p : α → Prop} : ∀ x ∈ ([] : List α), p x := fun x h => by cases h
theorem colE_name (c : Co) : c.name.length ≤ (colE c).length := by
  unfold colE
  rw [List.length_append, textsL_one]
  have : (He.encT c.name).length = c.name.length + 1 := by simp [He.encT]
  omega
theorem col_name {l : List Co} {c : Co} (h : c ∈ l) : c.name.length ≤ (listL colE l).length := by
  have := mem_flat colE h
  rw [listL_eq, List.length_append]
  have := colE_name c
  omega
theorem cell_text {l : List Cl} {c : Cl} (h : c ∈ l) (hk : CellOk c) : c.2.length ≤ (listL cellE l).length := by
  have h1 := mem_flat cellE h
  rw [listL_eq, List.length_append]
  rcases hk with ⟨_, h2⟩ | ⟨h2, h3⟩
  · rw [h2]; exact Nat.zero_le _
  · obtain ⟨n, b⟩ := c
    have h2' : n = false := h2
    subst h2'
    rw [cellE_bytes, List.length_append] at h1
    show b.length ≤ _
    omega
theorem text_le {xs r : List UInt8} (h : xs = He.encT (textL (some xs)) ++ r) : (textL (some xs)).length ≤ xs.length := by
  have := congrArg List.length h
  simp only [List.length_append, He.encT] at this
  omega
theorem read_backB {k : Int} (hk : kindB k = true) {xs : List UInt8} (hx : xs.length ≤ 65535) (h : readBS k (some xs) = some []) (hw : (readB k (some xs)).2 = true) : bodyB (readB k (some xs)).1 = xs ∧ checkB (readB k (some xs)).1 = 0 ∧ Held (readB k (some xs)).1 := by
  rcases kinds_of hk with rfl | rfl | rfl | rfl | rfl | rfl | rfl | rfl | e | e
  · obtain ⟨r1, r2⟩ := readB_82 (some xs)
    rw [r2] at h
    rw [r1] at hw ⊢
    obtain ⟨a, _, _⟩ := nums_four h
    have hz : numV (some xs) 4 = 0 := by simpa using hw
    rw [hz, List.append_nil] at a
    refine ⟨?_, rfl, held_of (by simp) (by simp) (by simp) (by simp) (by simp) (by simp) none_of none_of none_of⟩
    rw [bodyB_82 rfl]; exact a.symm
  · obtain ⟨r1, r2⟩ := readB_83 (some xs)
    rw [r2] at h
    rw [r1]
    obtain ⟨ys, e1⟩ := some_of (f := textS) rfl h
    rw [e1] at h ⊢
    obtain ⟨b1, c1⟩ := He.text_back e1
    obtain ⟨b2, c2⟩ := He.text_back h
    refine ⟨?_, check_ofB rfl rfl rfl (clean_ofB clean_nil c1 c2) rfl rfl, held_of (by simp) (by simp) (by simp) (by simp) (by simp) (by simp) none_of none_of none_of⟩
    rw [bodyB_83 rfl]
    have : textsL [textL (some xs), textL (some ys)] = He.encT (textL (some xs)) ++ (He.encT (textL (some ys)) ++ []) := by simp [textsL]
    simp only
    rw [this, ← b2, ← b1]
  · obtain ⟨r1, r2⟩ := readB_75 (some xs)
    rw [r2] at h
    rw [r1]
    obtain ⟨ys, e1⟩ := some_num h
    rw [e1] at h ⊢
    obtain ⟨b1, l1, u1⟩ := nums_four e1
    obtain ⟨b2, l2, u2⟩ := nums_four h
    refine ⟨?_, check_ofB rfl rfl rfl rfl ?_ rfl, held_of (by simp) (by simp) (by simp) (by simp) (by simp) (by simp) none_of none_of none_of⟩
    · rw [bodyB_75 rfl]
      simp only
      rw [List.append_nil] at b2
      rw [← b2, ← b1]
    · simp only [bnumB, Bool.and_eq_true]
      exact ⟨uns4_of l1 u1, uns4_of l2 u2⟩
  · obtain ⟨r1, r2⟩ := readB_90 (some xs)
    rw [r2] at h
    rw [r1] at hw ⊢
    obtain ⟨b1, l1, u1⟩ := nums_one h
    rw [numE_one l1 u1, List.append_nil] at b1
    refine ⟨?_, check_ofB rfl ?_ rfl rfl rfl rfl, held_of (by simp) (by simp) (by simp) (by simp) l1 u1 none_of none_of none_of⟩
    · rw [bodyB_90 rfl]; exact b1.symm
    · have hw' : statB (numV (some xs) 1) = true := hw
      simp only [rstatB]
      rw [hw']; rfl
  · obtain ⟨r1, r2⟩ := readB_67 (some xs)
    rw [r2] at h
    rw [r1]
    obtain ⟨b1, c1⟩ := He.text_back h
    refine ⟨?_, check_ofB rfl rfl rfl (clean_ofB c1 clean_nil clean_nil) rfl rfl, held_of (by simp) (by simp) (by simp) (by simp) (by simp) (by simp) none_of none_of none_of⟩
    rw [bodyB_67 rfl, textsL_one]
    rw [List.append_nil] at b1
    exact b1.symm
  · obtain ⟨r1, r2⟩ := readB_68 (some xs)
    rw [r2] at h
    rw [r1]
    obtain ⟨b, o, l⟩ := list_back cells_back xs [] h
    rw [List.append_nil] at b
    have b' : xs = listL cellE (cellsV (some xs)) := b
    have l' : (cellsV (some xs)).length < 65536 := l
    have o' : ∀ c ∈ cellsV (some xs), CellOk c := o
    have hn : (listL cellE (cellsV (some xs))).length ≤ 65535 := by rw [← b']; exact hx
    refine ⟨?_, check_ofB rfl rfl (lists_of (by simp) (by simp) (by simp only; omega) (by simp) rfl (cells_ok o' hn (by omega)) rfl rfl) rfl rfl rfl, held_of (by simp) (by simp) (by simp only; omega) (by simp) (by simp) (by simp) (fun c hc => Nat.le_trans (cell_text hc (o' c hc)) hn) none_of none_of⟩
    rw [bodyB_68 rfl]; exact b'.symm
  · obtain ⟨r1, r2⟩ := readB_84 (some xs)
    rw [r2] at h
    rw [r1]
    obtain ⟨b, o, l⟩ := list_back cols_back xs [] h
    rw [List.append_nil] at b
    have hn : (listL colE (listV colV colS (some xs))).length ≤ 65535 := by rw [← b]; exact hx
    refine ⟨?_, check_ofB rfl rfl (lists_of (by simp) (by simp only; omega) (by simp) (by simp) rfl rfl (List.all_eq_true.2 o) rfl) rfl rfl rfl, held_of (by simp) (by simp only; omega) (by simp) (by simp) (by simp) (by simp) none_of (fun c hc => Nat.le_trans (col_name hc) hn) none_of⟩
    rw [bodyB_84 rfl]; exact b.symm
  · obtain ⟨r1, r2⟩ := readB_116 (some xs)
    rw [r2] at h
    rw [r1]
    obtain ⟨b, o, l⟩ := list_back uns4s_back xs [] h
    rw [List.append_nil] at b
    have b' : xs = listL (numE 4) (numbersV 4 (some xs)) := b
    have l' : (numbersV 4 (some xs)).length < 65536 := l
    have o' : ∀ n ∈ numbersV 4 (some xs), unsB 4 n = true := o
    refine ⟨?_, check_ofB rfl rfl (lists_of (by simp only; omega) (by simp) (by simp) (by simp) (List.all_eq_true.2 o') rfl rfl rfl) rfl rfl rfl, held_of (by simp only; omega) (by simp) (by simp) (by simp) (by simp) (by simp) none_of none_of none_of⟩
    rw [bodyB_116 rfl]; exact b'.symm
  · obtain ⟨r1, r2⟩ := readB_fld (some xs) e
    rw [r2] at h
    rw [r1]
    have hp : fldR (He.lenS (some xs) + 1) (some xs) = (fldV (some xs), some []) := by
      unfold fldS at h
      unfold fldV
      rw [← h]
    obtain ⟨b, o⟩ := fields_back _ xs [] _ (by simp only [He.lenS]; omega) hp
    rw [List.append_nil] at b
    have hcnt := fields_count (fldV (some xs))
    rw [← b] at hcnt
    refine ⟨?_, check_ofB ?_ ?_ (lists_of (by simp) (by simp) (by simp) (by simp only; omega) rfl rfl rfl (List.all_eq_true.2 fun f hf => (o f hf).2)) rfl rfl ?_, held_of (by simp) (by simp) (by simp) (by simp only; omega) (by simp) (by simp) none_of none_of (fun f hf => (o f hf).1)⟩
    · rw [bodyB_fld e]; exact b.symm
    · exact hk
    · rcases e with rfl | rfl <;> rfl
    · rw [saidB_fld e]
  · obtain ⟨r1, r2⟩ := readB_no (some xs) e
    rw [r2] at h
    rw [r1]
    have hxs : xs = [] := by injection h
    refine ⟨?_, check_ofB hk ?_ rfl rfl rfl ?_, held_of (by simp) (by simp) (by simp) (by simp) (by simp) (by simp) none_of none_of none_of⟩
    · rw [bodyB_no e]; exact hxs.symm
    · rcases e with rfl | rfl | rfl | rfl | rfl | rfl <;> rfl
    · rw [saidB_no (.inr e)]
/-! ### Messages -/
theorem decB_ok {m : Ms} (hk : kindB m.type = true) (h1 : (readB m.type (some m.body)).2 = true) (h2 : doneB (readBS m.type (some m.body)) = true) : decB m = ((readB m.type (some m.body)).1, 0) := by
  unfold decB; rw [if_neg (by simp [hk]), h1, h2]; rfl
theorem dec_enc {m : Bk} (h : checkB m = 0) (hf : ∀ f ∈ m.fields, FiOk f) : decB (encB m).1 = (m, 0) := by
  obtain ⟨a, b⟩ := read_thereB h hf
  rw [encB_ok h]
  simp only
  rw [decB_ok (m := ⟨m.kind, bodyB m⟩) (checkB_kind h) (by simp only; rw [a]) (by simp only; rw [b]; rfl)]
  simp only
  rw [a]
theorem decB_parts {x : Ms} (h : (decB x).2 = 0) : kindB x.type = true ∧ (readB x.type (some x.body)).2 = true ∧ readBS x.type (some x.body) = some [] ∧ decB x = ((readB x.type (some x.body)).1, 0) := by
  unfold decB at h
  split at h
  · cases h
  · rename_i hk
    split at h
    · rename_i hc
      simp only [Bool.and_eq_true] at hc
      have hk' : kindB x.type = true := by simpa using hk
      exact ⟨hk', hc.1, done_nil hc.2, decB_ok hk' hc.1 hc.2⟩
    · cases h
theorem readB_kind (k : Int) (st : Sta) : (readB k st).1.kind = k := by
  unfold readB
  repeat' split
  all_goals first | rfl | (rename_i h; exact h.symm)
theorem enc_dec {x : Ms} (h : (decB x).2 = 0) (hx : x.body.length ≤ 65535) : encB (decB x).1 = (x, 0) ∧ Held (decB x).1 := by
  obtain ⟨hk, h1, h2, e⟩ := decB_parts h
  obtain ⟨a, b, c⟩ := read_backB hk hx h2 h1
  rw [e]
  simp only
  rw [encB_ok b, a, readB_kind]
  exact ⟨rfl, c⟩
theorem decB_no {x : Ms} (h : (decB x).2 ≠ 0) : (decB x).1 = noBk := by
  unfold decB at *
  split at h
  · rw [if_pos ‹_›]
  · rw [if_neg ‹_›]
    split at h
    · exact absurd rfl h
    · rw [if_neg ‹_›]
end Go.Proofs.Ytebggfghemblbaa.Ax
