/- whatever fields, code and texts come, a fault is what the document says -/
import Derived.Test.YthilellmckhejaaGreatQAxX
import Derived.Test.YthilellmckhejaaGreatRows
import Derived.Test.YthilellmckhejaaGreatQAxFa
import Derived.Test.YthilellmckhejaaGreatQAxFl
import Derived.Test.YthilellmckhejaaGreatQElems
import Derived.WalkKit
import Derived.ProofKit
import Derived.OpenShut
import Derived.ShutString
import Derived.ChangeOld
import Derived.Below
/- The texts of functions over values without memory, as the kernel reckons them out of the program. -/
namespace Go.Proofs.YthilellmckhejaaGreat.Ax
open Go.RowKit Go By

def c52 : XFun := ⟨21, (.seq (.ops [⟨(some 2), (.assign (.const (.bool false))), none⟩]) (.seq (.seq (.ops [⟨(some 3), (.move (.tmp 0)), none⟩]) (.block 0 (.seq (.seq (.ops [⟨(some 5), (.bin .eql (.tmp 3) (.const (.int .u8 82))), none⟩, ⟨(some 4), (.assign (.tmp 5)), none⟩]) (.cond (.tmp 4) .skip (.seq (.ops [⟨(some 6), (.bin .eql (.tmp 3) (.const (.int .u8 83))), none⟩, ⟨(some 4), (.assign (.tmp 6)), none⟩]) (.cond (.tmp 4) .skip (.seq (.ops [⟨(some 7), (.bin .eql (.tmp 3) (.const (.int .u8 75))), none⟩, ⟨(some 4), (.assign (.tmp 7)), none⟩]) (.cond (.tmp 4) .skip (.seq (.ops [⟨(some 8), (.bin .eql (.tmp 3) (.const (.int .u8 90))), none⟩, ⟨(some 4), (.assign (.tmp 8)), none⟩]) (.cond (.tmp 4) .skip (.seq (.ops [⟨(some 9), (.bin .eql (.tmp 3) (.const (.int .u8 49))), none⟩, ⟨(some 4), (.assign (.tmp 9)), none⟩]) (.cond (.tmp 4) .skip (.seq (.ops [⟨(some 10), (.bin .eql (.tmp 3) (.const (.int .u8 50))), none⟩, ⟨(some 4), (.assign (.tmp 10)), none⟩]) (.cond (.tmp 4) .skip (.seq (.ops [⟨(some 11), (.bin .eql (.tmp 3) (.const (.int .u8 51))), none⟩, ⟨(some 4), (.assign (.tmp 11)), none⟩]) (.cond (.tmp 4) .skip (.seq (.ops [⟨(some 12), (.bin .eql (.tmp 3) (.const (.int .u8 110))), none⟩, ⟨(some 4), (.assign (.tmp 12)), none⟩]) (.cond (.tmp 4) .skip (.seq (.ops [⟨(some 13), (.bin .eql (.tmp 3) (.const (.int .u8 115))), none⟩, ⟨(some 4), (.assign (.tmp 13)), none⟩]) (.cond (.tmp 4) .skip (.seq (.ops [⟨(some 14), (.bin .eql (.tmp 3) (.const (.int .u8 73))), none⟩, ⟨(some 4), (.assign (.tmp 14)), none⟩]) (.cond (.tmp 4) .skip (.seq (.ops [⟨(some 15), (.bin .eql (.tmp 3) (.const (.int .u8 67))), none⟩, ⟨(some 4), (.assign (.tmp 15)), none⟩]) (.cond (.tmp 4) .skip (.seq (.ops [⟨(some 16), (.bin .eql (.tmp 3) (.const (.int .u8 68))), none⟩, ⟨(some 4), (.assign (.tmp 16)), none⟩]) (.cond (.tmp 4) .skip (.seq (.ops [⟨(some 17), (.bin .eql (.tmp 3) (.const (.int .u8 84))), none⟩, ⟨(some 4), (.assign (.tmp 17)), none⟩]) (.cond (.tmp 4) .skip (.seq (.ops [⟨(some 18), (.bin .eql (.tmp 3) (.const (.int .u8 116))), none⟩, ⟨(some 4), (.assign (.tmp 18)), none⟩]) (.cond (.tmp 4) .skip (.seq (.ops [⟨(some 19), (.bin .eql (.tmp 3) (.const (.int .u8 69))), none⟩, ⟨(some 4), (.assign (.tmp 19)), none⟩]) (.cond (.tmp 4) .skip (.ops [⟨(some 20), (.bin .eql (.tmp 3) (.const (.int .u8 78))), none⟩, ⟨(some 4), (.assign (.tmp 20)), none⟩]))))))))))))))))))))))))))))))) (.cond (.tmp 4) (.seq (.ops [⟨(some 2), (.assign (.const (.bool true))), none⟩]) .ret) .skip)))) (.seq (.ops [⟨(some 2), (.assign (.const (.bool false))), none⟩]) .ret))), [(.move (.tmp 2))]⟩
theorem k52 : cfun Tryz.prog 52 = some c52 := by kernel_rfl
def c59 : XFun := ⟨57, (.seq (.ops [⟨(some 1), (.box (.tmp 0)), none⟩, ⟨(some 2), (.alloc [(.v (.int .u8 0)), (.v (.int .u8 0)), (.v (.string (strB []))), (.v (.string (strB []))), (.v (.string (strB []))), (.v (.int .i64 0)), (.v (.int .i64 0)), (.sl 0 [] (some true) .exact), (.sl 0 [] (some true) .exact), (.sl 0 [] (some true) .exact), (.sl 0 [] (some true) .exact)]), none⟩]) (.seq (.ops [⟨(some 4), (.faddr 0 (.tmp 1)), none⟩, ⟨(some 5), (.load1 (.tmp 4)), none⟩, ⟨(some 6), (.build [(.v (.int .u8 0)), (.v (.int .u8 0)), (.v (.string (strB []))), (.v (.string (strB []))), (.v (.string (strB []))), (.v (.int .i64 0)), (.v (.int .i64 0)), (.sl 0 [] (some true) .exact), (.sl 0 [] (some true) .exact), (.sl 0 [] (some true) .exact), (.sl 0 [] (some true) .exact)] [(0, (1, (.tmp 5)))]), none⟩, ⟨(some 3), (.alloc [(.v (.int .u8 0)), (.v (.int .u8 0)), (.v (.string (strB []))), (.v (.string (strB []))), (.v (.string (strB []))), (.v (.int .i64 0)), (.v (.int .i64 0)), (.sl 0 [] (some true) .exact), (.sl 0 [] (some true) .exact), (.sl 0 [] (some true) .exact), (.sl 0 [] (some true) .exact)]), none⟩, ⟨none, (.store 11 (.tmp 3) (.tmp 6)), none⟩]) (.seq (.seq (.ops [⟨(some 7), (.faddr 0 (.tmp 1)), none⟩, ⟨(some 8), (.load1 (.tmp 7)), none⟩]) (.block 0 (.seq (.ops [⟨(some 10), (.bin .eql (.tmp 8) (.const (.int .u8 83))), none⟩, ⟨(some 9), (.assign (.tmp 10)), none⟩]) (.cond (.tmp 9) (.draws (.take ⟨(some 11), (.faddr 3 (.tmp 1)), none⟩ (.take ⟨(some 12), (.load1 (.tmp 11)), none⟩ (.take ⟨(some 13), (.faddr 4 (.tmp 1)), none⟩ (.take ⟨(some 14), (.load1 (.tmp 13)), none⟩ (.take ⟨(some 15), (.faddr 3 (.tmp 3)), none⟩ (.only ⟨none, (.store 1 (.tmp 15) (.tmp 12)), none⟩ (.take ⟨(some 16), (.faddr 4 (.tmp 3)), none⟩ (.last ⟨none, (.store 1 (.tmp 16) (.tmp 14)), none⟩))))))))) (.seq (.ops [⟨(some 18), (.bin .eql (.tmp 8) (.const (.int .u8 75))), none⟩, ⟨(some 17), (.assign (.tmp 18)), none⟩]) (.cond (.tmp 17) (.draws (.take ⟨(some 19), (.faddr 5 (.tmp 1)), none⟩ (.take ⟨(some 20), (.load1 (.tmp 19)), none⟩ (.take ⟨(some 21), (.faddr 6 (.tmp 1)), none⟩ (.take ⟨(some 22), (.load1 (.tmp 21)), none⟩ (.take ⟨(some 23), (.faddr 5 (.tmp 3)), none⟩ (.only ⟨none, (.store 1 (.tmp 23) (.tmp 20)), none⟩ (.take ⟨(some 24), (.faddr 6 (.tmp 3)), none⟩ (.last ⟨none, (.store 1 (.tmp 24) (.tmp 22)), none⟩))))))))) (.seq (.ops [⟨(some 26), (.bin .eql (.tmp 8) (.const (.int .u8 90))), none⟩, ⟨(some 25), (.assign (.tmp 26)), none⟩]) (.cond (.tmp 25) (.ops [⟨(some 27), (.faddr 1 (.tmp 1)), none⟩, ⟨(some 28), (.load1 (.tmp 27)), none⟩, ⟨(some 29), (.faddr 1 (.tmp 3)), none⟩, ⟨none, (.store 1 (.tmp 29) (.tmp 28)), none⟩]) (.seq (.ops [⟨(some 31), (.bin .eql (.tmp 8) (.const (.int .u8 67))), none⟩, ⟨(some 30), (.assign (.tmp 31)), none⟩]) (.cond (.tmp 30) (.ops [⟨(some 32), (.faddr 2 (.tmp 1)), none⟩, ⟨(some 33), (.load1 (.tmp 32)), none⟩, ⟨(some 34), (.faddr 2 (.tmp 3)), none⟩, ⟨none, (.store 1 (.tmp 34) (.tmp 33)), none⟩]) (.seq (.ops [⟨(some 36), (.bin .eql (.tmp 8) (.const (.int .u8 68))), none⟩, ⟨(some 35), (.assign (.tmp 36)), none⟩]) (.cond (.tmp 35) (.ops [⟨(some 37), (.faddr 9 (.tmp 1)), none⟩, ⟨(some 38), (.load1 (.tmp 37)), none⟩, ⟨(some 39), (.faddr 9 (.tmp 3)), none⟩, ⟨none, (.store 1 (.tmp 39) (.tmp 38)), none⟩]) (.seq (.ops [⟨(some 41), (.bin .eql (.tmp 8) (.const (.int .u8 84))), none⟩, ⟨(some 40), (.assign (.tmp 41)), none⟩]) (.cond (.tmp 40) (.ops [⟨(some 42), (.faddr 8 (.tmp 1)), none⟩, ⟨(some 43), (.load1 (.tmp 42)), none⟩, ⟨(some 44), (.faddr 8 (.tmp 3)), none⟩, ⟨none, (.store 1 (.tmp 44) (.tmp 43)), none⟩]) (.seq (.ops [⟨(some 46), (.bin .eql (.tmp 8) (.const (.int .u8 116))), none⟩, ⟨(some 45), (.assign (.tmp 46)), none⟩]) (.cond (.tmp 45) (.ops [⟨(some 47), (.faddr 7 (.tmp 1)), none⟩, ⟨(some 48), (.load1 (.tmp 47)), none⟩, ⟨(some 49), (.faddr 7 (.tmp 3)), none⟩, ⟨none, (.store 1 (.tmp 49) (.tmp 48)), none⟩]) (.seq (.seq (.ops [⟨(some 51), (.bin .eql (.tmp 8) (.const (.int .u8 69))), none⟩, ⟨(some 50), (.assign (.tmp 51)), none⟩]) (.cond (.tmp 50) .skip (.ops [⟨(some 52), (.bin .eql (.tmp 8) (.const (.int .u8 78))), none⟩, ⟨(some 50), (.assign (.tmp 52)), none⟩]))) (.cond (.tmp 50) (.ops [⟨(some 53), (.faddr 10 (.tmp 1)), none⟩, ⟨(some 54), (.load1 (.tmp 53)), none⟩, ⟨(some 55), (.faddr 10 (.tmp 3)), none⟩, ⟨none, (.store 1 (.tmp 55) (.tmp 54)), none⟩]) .skip)))))))))))))))))) (.seq (.ops [⟨(some 56), (.loadN 11 (.tmp 3)), none⟩, ⟨none, (.store 11 (.tmp 2) (.tmp 56)), none⟩]) .ret)))), [(.loadN 11 (.tmp 2))]⟩
theorem k59 : cfun Tryz.prog 59 = some c59 := by kernel_rfl
def c54 : XFun := ⟨15, (.seq (.ops [⟨(some 6), (.assign (.const (.bool false))), none⟩]) (.seq (.ops [⟨(some 7), (.move (.tmp 0)), none⟩, ⟨(some 8), (.move (.tmp 1)), none⟩, ⟨(some 9), (.bin .geq (.tmp 7) (.tmp 8)), none⟩, ⟨(some 10), (.move (.tmp 9)), none⟩, ⟨(some 11), (.move (.tmp 0)), (some (10, true))⟩, ⟨(some 12), (.move (.tmp 2)), (some (10, true))⟩, ⟨(some 13), (.bin .leq (.tmp 11) (.tmp 12)), (some (10, true))⟩, ⟨(some 14), (.pick (.tmp 10) (.tmp 13) (.const (.bool false))), none⟩, ⟨(some 6), (.assign (.tmp 14)), none⟩]) .ret)), [(.move (.tmp 6))]⟩
theorem k54 : cfun Tryz.prog 54 = some c54 := by kernel_rfl
def c56 : XFun := ⟨56, (.seq (.ops [⟨(some 2), (.assign (.const (.bool false))), none⟩]) (.seq (.seq (.ops [⟨(some 5), (.move (.tmp 0)), none⟩, ⟨(some 6), (.lenL (.tmp 5)), none⟩, ⟨(some 7), (.bin .gtr (.tmp 6) (.const (.int .i64 65535))), none⟩]) (.cond (.tmp 7) (.seq (.ops [⟨(some 2), (.assign (.const (.bool false))), none⟩]) .ret) .skip)) (.seq (.seq (.ops [⟨(some 3), (.assign (.const (.int .i64 0))), none⟩]) (.block 0 (.loop (.seq (.seq (.ops [⟨(some 8), (.move (.tmp 3)), none⟩, ⟨(some 9), (.move (.tmp 0)), none⟩, ⟨(some 10), (.lenL (.tmp 9)), none⟩, ⟨(some 11), (.bin .lss (.tmp 8) (.tmp 10)), none⟩]) (.cond (.tmp 11) .skip (.exit 0))) (.seq (.block 1 (.seq (.ops [⟨(some 14), (.move (.tmp 0)), none⟩, ⟨(some 15), (.move (.tmp 3)), none⟩, ⟨(some 16), (.iaddr 7 (.tmp 14) (.tmp 15)), none⟩, ⟨(some 17), (.loadN 7 (.tmp 16)), none⟩, ⟨(some 4), (.alloc [(.v (.string (strB []))), (.v (.int .i64 0)), (.v (.int .i64 0)), (.v (.int .i64 0)), (.v (.int .i64 0)), (.v (.int .i64 0)), (.v (.int .i64 0))]), none⟩, ⟨none, (.store 7 (.tmp 4) (.tmp 17)), none⟩]) (.seq (.seq (.ops [⟨(some 18), (.faddr 0 (.tmp 4)), none⟩, ⟨(some 19), (.load1 (.tmp 18)), none⟩, ⟨(some 20), (.call 53 [(.tmp 19)]), none⟩, ⟨(some 21), (.un .not (.tmp 20)), none⟩, ⟨(some 22), (.move (.tmp 21)), none⟩, ⟨(some 23), (.faddr 1 (.tmp 4)), (some (22, false))⟩, ⟨(some 24), (.load1 (.tmp 23)), (some (22, false))⟩, ⟨(some 25), (.call 54 [(.tmp 24), (.const (.int .i64 0)), (.const (.int .i64 4294967295))]), (some (22, false))⟩, ⟨(some 26), (.un .not (.tmp 25)), (some (22, false))⟩, ⟨(some 27), (.pick (.tmp 22) (.const (.bool true)) (.tmp 26)), none⟩, ⟨(some 28), (.move (.tmp 27)), none⟩, ⟨(some 29), (.faddr 2 (.tmp 4)), (some (28, false))⟩, ⟨(some 30), (.load1 (.tmp 29)), (some (28, false))⟩, ⟨(some 31), (.call 54 [(.tmp 30), (.const (.int .i64 0)), (.const (.int .i64 65535))]), (some (28, false))⟩, ⟨(some 32), (.un .not (.tmp 31)), (some (28, false))⟩, ⟨(some 33), (.pick (.tmp 28) (.const (.bool true)) (.tmp 32)), none⟩, ⟨(some 34), (.move (.tmp 33)), none⟩, ⟨(some 35), (.faddr 3 (.tmp 4)), (some (34, false))⟩, ⟨(some 36), (.load1 (.tmp 35)), (some (34, false))⟩, ⟨(some 37), (.call 54 [(.tmp 36), (.const (.int .i64 0)), (.const (.int .i64 4294967295))]), (some (34, false))⟩, ⟨(some 38), (.un .not (.tmp 37)), (some (34, false))⟩, ⟨(some 39), (.pick (.tmp 34) (.const (.bool true)) (.tmp 38)), none⟩]) (.cond (.tmp 39) (.seq (.ops [⟨(some 2), (.assign (.const (.bool false))), none⟩]) .ret) .skip)) (.seq (.ops [⟨(some 40), (.faddr 4 (.tmp 4)), none⟩, ⟨(some 41), (.load1 (.tmp 40)), none⟩, ⟨(some 42), (.call 54 [(.tmp 41), (.const (.int .i64 (-32768))), (.const (.int .i64 32767))]), none⟩, ⟨(some 43), (.un .not (.tmp 42)), none⟩, ⟨(some 44), (.move (.tmp 43)), none⟩, ⟨(some 45), (.faddr 5 (.tmp 4)), (some (44, false))⟩, ⟨(some 46), (.load1 (.tmp 45)), (some (44, false))⟩, ⟨(some 47), (.call 54 [(.tmp 46), (.const (.int .i64 (-2147483648))), (.const (.int .i64 2147483647))]), (some (44, false))⟩, ⟨(some 48), (.un .not (.tmp 47)), (some (44, false))⟩, ⟨(some 49), (.pick (.tmp 44) (.const (.bool true)) (.tmp 48)), none⟩, ⟨(some 50), (.move (.tmp 49)), none⟩, ⟨(some 51), (.faddr 6 (.tmp 4)), (some (50, false))⟩, ⟨(some 52), (.load1 (.tmp 51)), (some (50, false))⟩, ⟨(some 53), (.call 54 [(.tmp 52), (.const (.int .i64 0)), (.const (.int .i64 65535))]), (some (50, false))⟩, ⟨(some 54), (.un .not (.tmp 53)), (some (50, false))⟩, ⟨(some 55), (.pick (.tmp 50) (.const (.bool true)) (.tmp 54)), none⟩]) (.cond (.tmp 55) (.seq (.ops [⟨(some 2), (.assign (.const (.bool false))), none⟩]) .ret) .skip))))) (.ops [⟨(some 12), (.move (.tmp 3)), none⟩, ⟨(some 13), (.bin .add (.tmp 12) (.const (.int .i64 1))), none⟩, ⟨(some 3), (.assign (.tmp 13)), none⟩])))))) (.seq (.ops [⟨(some 2), (.assign (.const (.bool true))), none⟩]) .ret)))), [(.move (.tmp 2))]⟩
theorem k56 : cfun Tryz.prog 56 = some c56 := by kernel_rfl
def c57 : XFun := ⟨28, (.seq (.ops [⟨(some 2), (.assign (.const (.bool false))), none⟩]) (.seq (.seq (.ops [⟨(some 4), (.move (.tmp 0)), none⟩, ⟨(some 5), (.lenL (.tmp 4)), none⟩, ⟨(some 6), (.bin .gtr (.tmp 5) (.const (.int .i64 65535))), none⟩]) (.cond (.tmp 6) (.seq (.ops [⟨(some 2), (.assign (.const (.bool false))), none⟩]) .ret) .skip)) (.seq (.seq (.ops [⟨(some 3), (.assign (.const (.int .i64 0))), none⟩]) (.block 0 (.loop (.seq (.seq (.ops [⟨(some 7), (.move (.tmp 3)), none⟩, ⟨(some 8), (.move (.tmp 0)), none⟩, ⟨(some 9), (.lenL (.tmp 8)), none⟩, ⟨(some 10), (.bin .lss (.tmp 7) (.tmp 9)), none⟩]) (.cond (.tmp 10) .skip (.exit 0))) (.seq (.block 1 (.seq (.ops [⟨(some 13), (.move (.tmp 0)), none⟩, ⟨(some 14), (.move (.tmp 3)), none⟩, ⟨(some 15), (.iaddr 2 (.tmp 13) (.tmp 14)), none⟩, ⟨(some 16), (.faddr 0 (.tmp 15)), none⟩, ⟨(some 17), (.load1 (.tmp 16)), none⟩, ⟨(some 18), (.bin .eql (.tmp 17) (.const (.int .u8 0))), none⟩, ⟨(some 19), (.move (.tmp 18)), none⟩, ⟨(some 20), (.move (.tmp 0)), (some (19, false))⟩, ⟨(some 21), (.move (.tmp 3)), (some (19, false))⟩, ⟨(some 22), (.iaddr 2 (.tmp 20) (.tmp 21)), (some (19, false))⟩, ⟨(some 23), (.faddr 1 (.tmp 22)), (some (19, false))⟩, ⟨(some 24), (.load1 (.tmp 23)), (some (19, false))⟩, ⟨(some 25), (.call 53 [(.tmp 24)]), (some (19, false))⟩, ⟨(some 26), (.un .not (.tmp 25)), (some (19, false))⟩, ⟨(some 27), (.pick (.tmp 19) (.const (.bool true)) (.tmp 26)), none⟩]) (.cond (.tmp 27) (.seq (.ops [⟨(some 2), (.assign (.const (.bool false))), none⟩]) .ret) .skip))) (.ops [⟨(some 11), (.move (.tmp 3)), none⟩, ⟨(some 12), (.bin .add (.tmp 11) (.const (.int .i64 1))), none⟩, ⟨(some 3), (.assign (.tmp 12)), none⟩])))))) (.seq (.ops [⟨(some 2), (.assign (.const (.bool true))), none⟩]) .ret)))), [(.move (.tmp 2))]⟩
theorem k57 : cfun Tryz.prog 57 = some c57 := by kernel_rfl
def c14 : XFun := ⟨127, (.seq (.ops [⟨(some 2), (.box (.tmp 0)), none⟩, ⟨(some 3), (.box (.tmp 1)), none⟩, ⟨(some 4), (.assign (.const (.bool false))), none⟩]) (.seq (.ops [⟨(some 8), (.faddr 0 (.tmp 2)), none⟩, ⟨(some 9), (.load1 (.tmp 8)), none⟩, ⟨(some 10), (.faddr 0 (.tmp 3)), none⟩, ⟨(some 11), (.load1 (.tmp 10)), none⟩, ⟨(some 12), (.bin .eql (.tmp 9) (.tmp 11)), none⟩, ⟨(some 13), (.move (.tmp 12)), none⟩, ⟨(some 14), (.faddr 1 (.tmp 2)), (some (13, true))⟩, ⟨(some 15), (.load1 (.tmp 14)), (some (13, true))⟩, ⟨(some 16), (.faddr 1 (.tmp 3)), (some (13, true))⟩, ⟨(some 17), (.load1 (.tmp 16)), (some (13, true))⟩, ⟨(some 18), (.bin .eql (.tmp 15) (.tmp 17)), (some (13, true))⟩, ⟨(some 19), (.pick (.tmp 13) (.tmp 18) (.const (.bool false))), none⟩, ⟨(some 20), (.move (.tmp 19)), none⟩, ⟨(some 21), (.faddr 2 (.tmp 2)), (some (20, true))⟩, ⟨(some 22), (.load1 (.tmp 21)), (some (20, true))⟩, ⟨(some 23), (.faddr 2 (.tmp 3)), (some (20, true))⟩, ⟨(some 24), (.load1 (.tmp 23)), (some (20, true))⟩, ⟨(some 25), (.bin .eql (.tmp 22) (.tmp 24)), (some (20, true))⟩, ⟨(some 26), (.pick (.tmp 20) (.tmp 25) (.const (.bool false))), none⟩, ⟨(some 27), (.move (.tmp 26)), none⟩, ⟨(some 28), (.faddr 3 (.tmp 2)), (some (27, true))⟩, ⟨(some 29), (.load1 (.tmp 28)), (some (27, true))⟩, ⟨(some 30), (.faddr 3 (.tmp 3)), (some (27, true))⟩, ⟨(some 31), (.load1 (.tmp 30)), (some (27, true))⟩, ⟨(some 32), (.bin .eql (.tmp 29) (.tmp 31)), (some (27, true))⟩, ⟨(some 33), (.pick (.tmp 27) (.tmp 32) (.const (.bool false))), none⟩, ⟨(some 34), (.move (.tmp 33)), none⟩, ⟨(some 35), (.faddr 4 (.tmp 2)), (some (34, true))⟩, ⟨(some 36), (.load1 (.tmp 35)), (some (34, true))⟩, ⟨(some 37), (.faddr 4 (.tmp 3)), (some (34, true))⟩, ⟨(some 38), (.load1 (.tmp 37)), (some (34, true))⟩, ⟨(some 39), (.bin .eql (.tmp 36) (.tmp 38)), (some (34, true))⟩, ⟨(some 40), (.pick (.tmp 34) (.tmp 39) (.const (.bool false))), none⟩, ⟨(some 41), (.move (.tmp 40)), none⟩, ⟨(some 42), (.faddr 5 (.tmp 2)), (some (41, true))⟩, ⟨(some 43), (.load1 (.tmp 42)), (some (41, true))⟩, ⟨(some 44), (.faddr 5 (.tmp 3)), (some (41, true))⟩, ⟨(some 45), (.load1 (.tmp 44)), (some (41, true))⟩, ⟨(some 46), (.bin .eql (.tmp 43) (.tmp 45)), (some (41, true))⟩, ⟨(some 47), (.pick (.tmp 41) (.tmp 46) (.const (.bool false))), none⟩, ⟨(some 48), (.move (.tmp 47)), none⟩, ⟨(some 49), (.faddr 6 (.tmp 2)), (some (48, true))⟩, ⟨(some 50), (.load1 (.tmp 49)), (some (48, true))⟩, ⟨(some 51), (.faddr 6 (.tmp 3)), (some (48, true))⟩, ⟨(some 52), (.load1 (.tmp 51)), (some (48, true))⟩, ⟨(some 53), (.bin .eql (.tmp 50) (.tmp 52)), (some (48, true))⟩, ⟨(some 54), (.pick (.tmp 48) (.tmp 53) (.const (.bool false))), none⟩, ⟨(some 5), (.assign (.tmp 54)), none⟩]) (.seq (.seq (.ops [⟨(some 55), (.move (.tmp 5)), none⟩, ⟨(some 56), (.un .not (.tmp 55)), none⟩, ⟨(some 57), (.move (.tmp 56)), none⟩, ⟨(some 58), (.faddr 7 (.tmp 2)), (some (57, false))⟩, ⟨(some 59), (.load1 (.tmp 58)), (some (57, false))⟩, ⟨(some 60), (.faddr 7 (.tmp 3)), (some (57, false))⟩, ⟨(some 61), (.load1 (.tmp 60)), (some (57, false))⟩, ⟨(some 62), (.call 63 [(.tmp 59), (.tmp 61)]), (some (57, false))⟩, ⟨(some 63), (.un .not (.tmp 62)), (some (57, false))⟩, ⟨(some 64), (.pick (.tmp 57) (.const (.bool true)) (.tmp 63)), none⟩, ⟨(some 65), (.move (.tmp 64)), none⟩, ⟨(some 66), (.faddr 9 (.tmp 2)), (some (65, false))⟩, ⟨(some 67), (.load1 (.tmp 66)), (some (65, false))⟩, ⟨(some 68), (.faddr 9 (.tmp 3)), (some (65, false))⟩, ⟨(some 69), (.load1 (.tmp 68)), (some (65, false))⟩, ⟨(some 70), (.call 64 [(.tmp 67), (.tmp 69)]), (some (65, false))⟩, ⟨(some 71), (.un .not (.tmp 70)), (some (65, false))⟩, ⟨(some 72), (.pick (.tmp 65) (.const (.bool true)) (.tmp 71)), none⟩, ⟨(some 73), (.move (.tmp 72)), none⟩, ⟨(some 74), (.faddr 8 (.tmp 2)), (some (73, false))⟩, ⟨(some 75), (.load1 (.tmp 74)), (some (73, false))⟩, ⟨(some 76), (.lenL (.tmp 75)), (some (73, false))⟩, ⟨(some 77), (.faddr 8 (.tmp 3)), (some (73, false))⟩, ⟨(some 78), (.load1 (.tmp 77)), (some (73, false))⟩, ⟨(some 79), (.lenL (.tmp 78)), (some (73, false))⟩, ⟨(some 80), (.bin .neq (.tmp 76) (.tmp 79)), (some (73, false))⟩, ⟨(some 81), (.pick (.tmp 73) (.const (.bool true)) (.tmp 80)), none⟩, ⟨(some 82), (.move (.tmp 81)), none⟩, ⟨(some 83), (.faddr 10 (.tmp 2)), (some (82, false))⟩, ⟨(some 84), (.load1 (.tmp 83)), (some (82, false))⟩, ⟨(some 85), (.lenL (.tmp 84)), (some (82, false))⟩, ⟨(some 86), (.faddr 10 (.tmp 3)), (some (82, false))⟩, ⟨(some 87), (.load1 (.tmp 86)), (some (82, false))⟩, ⟨(some 88), (.lenL (.tmp 87)), (some (82, false))⟩, ⟨(some 89), (.bin .neq (.tmp 85) (.tmp 88)), (some (82, false))⟩, ⟨(some 90), (.pick (.tmp 82) (.const (.bool true)) (.tmp 89)), none⟩]) (.cond (.tmp 90) (.seq (.ops [⟨(some 4), (.assign (.const (.bool false))), none⟩]) .ret) .skip)) (.seq (.seq (.ops [⟨(some 6), (.assign (.const (.int .i64 0))), none⟩]) (.block 0 (.loop (.seq (.seq (.ops [⟨(some 91), (.move (.tmp 6)), none⟩, ⟨(some 92), (.faddr 8 (.tmp 2)), none⟩, ⟨(some 93), (.load1 (.tmp 92)), none⟩, ⟨(some 94), (.lenL (.tmp 93)), none⟩, ⟨(some 95), (.bin .lss (.tmp 91) (.tmp 94)), none⟩]) (.cond (.tmp 95) .skip (.exit 0))) (.seq (.block 1 (.seq (.draws (.take ⟨(some 98), (.faddr 8 (.tmp 2)), none⟩ (.take ⟨(some 99), (.load1 (.tmp 98)), none⟩ (.take ⟨(some 100), (.move (.tmp 6)), none⟩ (.take ⟨(some 101), (.iaddr 7 (.tmp 99) (.tmp 100)), none⟩ (.take ⟨(some 102), (.loadN 7 (.tmp 101)), none⟩ (.take ⟨(some 103), (.faddr 8 (.tmp 3)), none⟩ (.take ⟨(some 104), (.load1 (.tmp 103)), none⟩ (.take ⟨(some 105), (.move (.tmp 6)), none⟩ (.take ⟨(some 106), (.iaddr 7 (.tmp 104) (.tmp 105)), none⟩ (.take ⟨(some 107), (.loadN 7 (.tmp 106)), none⟩ (.take ⟨(some 108), (.aeq true [2, 1, 1, 1, 1, 1, 1] (.tmp 102) (.tmp 107)), none⟩ .done)))))))))))) (.cond (.tmp 108) (.seq (.ops [⟨(some 4), (.assign (.const (.bool false))), none⟩]) .ret) .skip))) (.ops [⟨(some 96), (.move (.tmp 6)), none⟩, ⟨(some 97), (.bin .add (.tmp 96) (.const (.int .i64 1))), none⟩, ⟨(some 6), (.assign (.tmp 97)), none⟩])))))) (.seq (.seq (.ops [⟨(some 7), (.assign (.const (.int .i64 0))), none⟩]) (.block 2 (.loop (.seq (.seq (.ops [⟨(some 109), (.move (.tmp 7)), none⟩, ⟨(some 110), (.faddr 10 (.tmp 2)), none⟩, ⟨(some 111), (.load1 (.tmp 110)), none⟩, ⟨(some 112), (.lenL (.tmp 111)), none⟩, ⟨(some 113), (.bin .lss (.tmp 109) (.tmp 112)), none⟩]) (.cond (.tmp 113) .skip (.exit 2))) (.seq (.block 3 (.seq (.draws (.take ⟨(some 116), (.faddr 10 (.tmp 2)), none⟩ (.take ⟨(some 117), (.load1 (.tmp 116)), none⟩ (.take ⟨(some 118), (.move (.tmp 7)), none⟩ (.take ⟨(some 119), (.iaddr 2 (.tmp 117) (.tmp 118)), none⟩ (.take ⟨(some 120), (.loadN 2 (.tmp 119)), none⟩ (.take ⟨(some 121), (.faddr 10 (.tmp 3)), none⟩ (.take ⟨(some 122), (.load1 (.tmp 121)), none⟩ (.take ⟨(some 123), (.move (.tmp 7)), none⟩ (.take ⟨(some 124), (.iaddr 2 (.tmp 122) (.tmp 123)), none⟩ (.take ⟨(some 125), (.loadN 2 (.tmp 124)), none⟩ (.take ⟨(some 126), (.aeq true [1, 2] (.tmp 120) (.tmp 125)), none⟩ .done)))))))))))) (.cond (.tmp 126) (.seq (.ops [⟨(some 4), (.assign (.const (.bool false))), none⟩]) .ret) .skip))) (.ops [⟨(some 114), (.move (.tmp 7)), none⟩, ⟨(some 115), (.bin .add (.tmp 114) (.const (.int .i64 1))), none⟩, ⟨(some 7), (.assign (.tmp 115)), none⟩])))))) (.seq (.ops [⟨(some 4), (.assign (.const (.bool true))), none⟩]) .ret)))))), [(.move (.tmp 4))]⟩
theorem k14 : cfun Tryz.prog 14 = some c14 := by kernel_rfl
def c12 : XFun := ⟨89, (.seq (.ops [⟨(some 1), (.box (.tmp 0)), none⟩, ⟨(some 2), (.assign (.const (.int .i64 0))), none⟩]) (.seq (.seq (.ops [⟨(some 6), (.faddr 0 (.tmp 1)), none⟩, ⟨(some 7), (.load1 (.tmp 6)), none⟩, ⟨(some 8), (.call 52 [(.tmp 7)]), none⟩, ⟨(some 9), (.un .not (.tmp 8)), none⟩]) (.cond (.tmp 9) (.seq (.ops [⟨(some 2), (.assign (.const (.int .i64 9))), none⟩]) .ret) .skip)) (.seq (.ops [⟨(some 10), (.faddr 2 (.tmp 1)), none⟩, ⟨(some 11), (.load1 (.tmp 10)), none⟩, ⟨(some 12), (.call 53 [(.tmp 11)]), none⟩, ⟨(some 13), (.move (.tmp 12)), none⟩, ⟨(some 14), (.faddr 3 (.tmp 1)), (some (13, true))⟩, ⟨(some 15), (.load1 (.tmp 14)), (some (13, true))⟩, ⟨(some 16), (.call 53 [(.tmp 15)]), (some (13, true))⟩, ⟨(some 17), (.pick (.tmp 13) (.tmp 16) (.const (.bool false))), none⟩, ⟨(some 18), (.move (.tmp 17)), none⟩, ⟨(some 19), (.faddr 4 (.tmp 1)), (some (18, true))⟩, ⟨(some 20), (.load1 (.tmp 19)), (some (18, true))⟩, ⟨(some 21), (.call 53 [(.tmp 20)]), (some (18, true))⟩, ⟨(some 22), (.pick (.tmp 18) (.tmp 21) (.const (.bool false))), none⟩, ⟨(some 3), (.assign (.tmp 22)), none⟩]) (.seq (.ops [⟨(some 23), (.faddr 5 (.tmp 1)), none⟩, ⟨(some 24), (.load1 (.tmp 23)), none⟩, ⟨(some 25), (.call 54 [(.tmp 24), (.const (.int .i64 0)), (.const (.int .i64 4294967295))]), none⟩, ⟨(some 26), (.move (.tmp 25)), none⟩, ⟨(some 27), (.faddr 6 (.tmp 1)), (some (26, true))⟩, ⟨(some 28), (.load1 (.tmp 27)), (some (26, true))⟩, ⟨(some 29), (.call 54 [(.tmp 28), (.const (.int .i64 0)), (.const (.int .i64 4294967295))]), (some (26, true))⟩, ⟨(some 30), (.pick (.tmp 26) (.tmp 29) (.const (.bool false))), none⟩, ⟨(some 31), (.move (.tmp 30)), none⟩, ⟨(some 32), (.faddr 7 (.tmp 1)), (some (31, true))⟩, ⟨(some 33), (.load1 (.tmp 32)), (some (31, true))⟩, ⟨(some 34), (.call 55 [(.tmp 33), (.const (.int .i64 0)), (.const (.int .i64 4294967295))]), (some (31, true))⟩, ⟨(some 35), (.pick (.tmp 31) (.tmp 34) (.const (.bool false))), none⟩, ⟨(some 4), (.assign (.tmp 35)), none⟩]) (.seq (.ops [⟨(some 36), (.faddr 0 (.tmp 1)), none⟩, ⟨(some 37), (.load1 (.tmp 36)), none⟩, ⟨(some 38), (.bin .neq (.tmp 37) (.const (.int .u8 90))), none⟩, ⟨(some 39), (.move (.tmp 38)), none⟩, ⟨(some 40), (.faddr 1 (.tmp 1)), (some (39, false))⟩, ⟨(some 41), (.load1 (.tmp 40)), (some (39, false))⟩, ⟨(some 42), (.bin .eql (.tmp 41) (.const (.int .u8 73))), (some (39, false))⟩, ⟨(some 43), (.pick (.tmp 39) (.const (.bool true)) (.tmp 42)), none⟩, ⟨(some 44), (.move (.tmp 43)), none⟩, ⟨(some 45), (.faddr 1 (.tmp 1)), (some (44, false))⟩, ⟨(some 46), (.load1 (.tmp 45)), (some (44, false))⟩, ⟨(some 47), (.bin .eql (.tmp 46) (.const (.int .u8 84))), (some (44, false))⟩, ⟨(some 48), (.pick (.tmp 44) (.const (.bool true)) (.tmp 47)), none⟩, ⟨(some 49), (.move (.tmp 48)), none⟩, ⟨(some 50), (.faddr 1 (.tmp 1)), (some (49, false))⟩, ⟨(some 51), (.load1 (.tmp 50)), (some (49, false))⟩, ⟨(some 52), (.bin .eql (.tmp 51) (.const (.int .u8 69))), (some (49, false))⟩, ⟨(some 53), (.pick (.tmp 49) (.const (.bool true)) (.tmp 52)), none⟩, ⟨(some 5), (.assign (.tmp 53)), none⟩]) (.seq (.seq (.draws (.take ⟨(some 54), (.move (.tmp 3)), none⟩ (.take ⟨(some 55), (.un .not (.tmp 54)), none⟩ (.take ⟨(some 56), (.move (.tmp 55)), none⟩ (.take ⟨(some 57), (.move (.tmp 4)), (some (56, false))⟩ (.take ⟨(some 58), (.un .not (.tmp 57)), (some (56, false))⟩ (.take ⟨(some 59), (.pick (.tmp 56) (.const (.bool true)) (.tmp 58)), none⟩ (.take ⟨(some 60), (.move (.tmp 59)), none⟩ (.take ⟨(some 61), (.move (.tmp 5)), (some (60, false))⟩ (.take ⟨(some 62), (.un .not (.tmp 61)), (some (60, false))⟩ (.take ⟨(some 63), (.pick (.tmp 60) (.const (.bool true)) (.tmp 62)), none⟩ (.take ⟨(some 64), (.move (.tmp 63)), none⟩ (.take ⟨(some 65), (.faddr 8 (.tmp 1)), (some (64, false))⟩ (.take ⟨(some 66), (.load1 (.tmp 65)), (some (64, false))⟩ (.only ⟨(some 67), (.call 56 [(.tmp 66)]), (some (64, false))⟩ (.take ⟨(some 68), (.un .not (.tmp 67)), (some (64, false))⟩ (.take ⟨(some 69), (.pick (.tmp 64) (.const (.bool true)) (.tmp 68)), none⟩ (.take ⟨(some 70), (.move (.tmp 69)), none⟩ (.take ⟨(some 71), (.faddr 10 (.tmp 1)), (some (70, false))⟩ (.take ⟨(some 72), (.load1 (.tmp 71)), (some (70, false))⟩ (.only ⟨(some 73), (.call 57 [(.tmp 72)]), (some (70, false))⟩ (.take ⟨(some 74), (.un .not (.tmp 73)), (some (70, false))⟩ (.take ⟨(some 75), (.pick (.tmp 70) (.const (.bool true)) (.tmp 74)), none⟩ (.take ⟨(some 76), (.move (.tmp 75)), none⟩ (.take ⟨(some 77), (.faddr 9 (.tmp 1)), (some (76, false))⟩ (.take ⟨(some 78), (.load1 (.tmp 77)), (some (76, false))⟩ (.only ⟨(some 79), (.call 58 [(.tmp 78)]), (some (76, false))⟩ (.take ⟨(some 80), (.un .not (.tmp 79)), (some (76, false))⟩ (.take ⟨(some 81), (.pick (.tmp 76) (.const (.bool true)) (.tmp 80)), none⟩ (.take ⟨(some 82), (.move (.tmp 81)), none⟩ (.take ⟨(some 83), (.loadN 11 (.tmp 1)), (some (82, false))⟩ (.take ⟨(some 84), (.loadN 11 (.tmp 1)), (some (82, false))⟩ (.only ⟨(some 85), (.call 59 [(.tmp 84)]), (some (82, false))⟩ (.only ⟨(some 86), (.call 14 [(.tmp 83), (.tmp 85)]), (some (82, false))⟩ (.take ⟨(some 87), (.un .not (.tmp 86)), (some (82, false))⟩ (.take ⟨(some 88), (.pick (.tmp 82) (.const (.bool true)) (.tmp 87)), none⟩ .done)))))))))))))))))))))))))))))))))))) (.cond (.tmp 88) (.seq (.ops [⟨(some 2), (.assign (.const (.int .i64 1))), none⟩]) .ret) .skip)) (.seq (.ops [⟨(some 2), (.assign (.const (.int .i64 0))), none⟩]) .ret))))))), [(.move (.tmp 2))]⟩
theorem k12 : cfun Tryz.prog 12 = some c12 := by kernel_rfl
def c43 : XFun := ⟨44, (.seq (.ops [⟨(some 2), (.assign (.const (.slice none 0 0))), none⟩]) (.seq (.ops [⟨(some 6), (.move (.tmp 0)), none⟩, ⟨(some 7), (.lenL (.tmp 6)), none⟩, ⟨(some 8), (.call 40 [(.const (.slice none 0 0)), (.tmp 7), (.const (.int .i64 2))]), none⟩, ⟨(some 3), (.assign (.tmp 8)), none⟩]) (.seq (.seq (.ops [⟨(some 4), (.assign (.const (.int .i64 0))), none⟩]) (.block 0 (.loop (.seq (.seq (.ops [⟨(some 9), (.move (.tmp 4)), none⟩, ⟨(some 10), (.move (.tmp 0)), none⟩, ⟨(some 11), (.lenL (.tmp 10)), none⟩, ⟨(some 12), (.bin .lss (.tmp 9) (.tmp 11)), none⟩]) (.cond (.tmp 12) .skip (.exit 0))) (.seq (.block 1 (.seq (.ops [⟨(some 15), (.move (.tmp 0)), none⟩, ⟨(some 16), (.move (.tmp 4)), none⟩, ⟨(some 17), (.iaddr 7 (.tmp 15) (.tmp 16)), none⟩, ⟨(some 18), (.loadN 7 (.tmp 17)), none⟩, ⟨(some 5), (.alloc [(.v (.string (strB []))), (.v (.int .i64 0)), (.v (.int .i64 0)), (.v (.int .i64 0)), (.v (.int .i64 0)), (.v (.int .i64 0)), (.v (.int .i64 0))]), none⟩, ⟨none, (.store 7 (.tmp 5) (.tmp 18)), none⟩]) (.seq (.draws (.take ⟨(some 19), (.move (.tmp 3)), none⟩ (.take ⟨(some 20), (.faddr 0 (.tmp 5)), none⟩ (.take ⟨(some 21), (.load1 (.tmp 20)), none⟩ (.take ⟨(some 23), (.faddr 1 (.tmp 5)), none⟩ (.take ⟨(some 24), (.load1 (.tmp 23)), none⟩ (.take ⟨(some 26), (.faddr 2 (.tmp 5)), none⟩ (.take ⟨(some 27), (.load1 (.tmp 26)), none⟩ (.only ⟨(some 22), (.call 41 [(.tmp 19), (.tmp 21)]), none⟩ (.only ⟨(some 25), (.call 40 [(.tmp 22), (.tmp 24), (.const (.int .i64 4))]), none⟩ (.only ⟨(some 28), (.call 40 [(.tmp 25), (.tmp 27), (.const (.int .i64 2))]), none⟩ (.take ⟨(some 3), (.assign (.tmp 28)), none⟩ .done)))))))))))) (.seq (.draws (.take ⟨(some 29), (.move (.tmp 3)), none⟩ (.take ⟨(some 30), (.faddr 3 (.tmp 5)), none⟩ (.take ⟨(some 31), (.load1 (.tmp 30)), none⟩ (.take ⟨(some 33), (.faddr 4 (.tmp 5)), none⟩ (.take ⟨(some 34), (.load1 (.tmp 33)), none⟩ (.only ⟨(some 32), (.call 40 [(.tmp 29), (.tmp 31), (.const (.int .i64 4))]), none⟩ (.only ⟨(some 35), (.call 40 [(.tmp 32), (.tmp 34), (.const (.int .i64 2))]), none⟩ (.take ⟨(some 3), (.assign (.tmp 35)), none⟩ .done))))))))) (.draws (.take ⟨(some 36), (.move (.tmp 3)), none⟩ (.take ⟨(some 37), (.faddr 5 (.tmp 5)), none⟩ (.take ⟨(some 38), (.load1 (.tmp 37)), none⟩ (.take ⟨(some 40), (.faddr 6 (.tmp 5)), none⟩ (.take ⟨(some 41), (.load1 (.tmp 40)), none⟩ (.only ⟨(some 39), (.call 40 [(.tmp 36), (.tmp 38), (.const (.int .i64 4))]), none⟩ (.only ⟨(some 42), (.call 40 [(.tmp 39), (.tmp 41), (.const (.int .i64 2))]), none⟩ (.take ⟨(some 3), (.assign (.tmp 42)), none⟩ .done))))))))))))) (.ops [⟨(some 13), (.move (.tmp 4)), none⟩, ⟨(some 14), (.bin .add (.tmp 13) (.const (.int .i64 1))), none⟩, ⟨(some 4), (.assign (.tmp 14)), none⟩])))))) (.seq (.ops [⟨(some 43), (.move (.tmp 3)), none⟩, ⟨(some 2), (.assign (.tmp 43)), none⟩]) .ret)))), [(.move (.tmp 2))]⟩
theorem k43 : cfun Tryz.prog 43 = some c43 := by kernel_rfl
def c45 : XFun := ⟨28, (.seq (.ops [⟨(some 2), (.assign (.const (.slice none 0 0))), none⟩]) (.seq (.ops [⟨(some 3), (.assign (.const (.slice none 0 0))), none⟩]) (.seq (.seq (.ops [⟨(some 4), (.assign (.const (.int .i64 0))), none⟩]) (.block 0 (.loop (.seq (.seq (.ops [⟨(some 5), (.move (.tmp 4)), none⟩, ⟨(some 6), (.move (.tmp 0)), none⟩, ⟨(some 7), (.lenL (.tmp 6)), none⟩, ⟨(some 8), (.bin .lss (.tmp 5) (.tmp 7)), none⟩]) (.cond (.tmp 8) .skip (.exit 0))) (.seq (.block 1 (.draws (.take ⟨(some 11), (.move (.tmp 3)), none⟩ (.take ⟨(some 12), (.move (.tmp 0)), none⟩ (.take ⟨(some 13), (.move (.tmp 4)), none⟩ (.take ⟨(some 14), (.iaddr 2 (.tmp 12) (.tmp 13)), none⟩ (.take ⟨(some 15), (.faddr 0 (.tmp 14)), none⟩ (.take ⟨(some 16), (.load1 (.tmp 15)), none⟩ (.take ⟨(some 19), (.move (.tmp 0)), none⟩ (.take ⟨(some 20), (.move (.tmp 4)), none⟩ (.take ⟨(some 21), (.iaddr 2 (.tmp 19) (.tmp 20)), none⟩ (.take ⟨(some 22), (.faddr 1 (.tmp 21)), none⟩ (.take ⟨(some 23), (.load1 (.tmp 22)), none⟩ (.only ⟨(some 17), (.buildSlice 1 1 [(.v (.int .u8 0))] [(0, (.tmp 16))]), none⟩ (.only ⟨(some 18), (.append 1 1 (.tmp 11) (.tmp 17)), none⟩ (.only ⟨(some 24), (.call 41 [(.tmp 18), (.tmp 23)]), none⟩ (.take ⟨(some 3), (.assign (.tmp 24)), none⟩ .done))))))))))))))))) (.ops [⟨(some 9), (.move (.tmp 4)), none⟩, ⟨(some 10), (.bin .add (.tmp 9) (.const (.int .i64 1))), none⟩, ⟨(some 4), (.assign (.tmp 10)), none⟩])))))) (.seq (.ops [⟨(some 25), (.move (.tmp 3)), none⟩, ⟨(some 26), (.buildSlice 1 1 [(.v (.int .u8 0))] [(0, (.const (.int .u8 0)))]), none⟩, ⟨(some 27), (.append 1 1 (.tmp 25) (.tmp 26)), none⟩, ⟨(some 2), (.assign (.tmp 27)), none⟩]) .ret)))), [(.move (.tmp 2))]⟩
theorem k45 : cfun Tryz.prog 45 = some c45 := by kernel_rfl
def c9 : XFun := ⟨68, (.seq (.ops [⟨(some 1), (.box (.tmp 0)), none⟩, ⟨(some 2), (.alloc [(.v (.int .u8 0)), (.sl 0 [] (some true) .exact)]), none⟩, ⟨(some 3), (.assign (.const (.int .i64 0))), none⟩]) (.seq (.seq (.ops [⟨(some 6), (.loadN 11 (.tmp 1)), none⟩, ⟨(some 7), (.call 12 [(.tmp 6)]), none⟩, ⟨(some 4), (.assign (.tmp 7)), none⟩]) (.seq (.ops [⟨(some 8), (.move (.tmp 4)), none⟩, ⟨(some 9), (.bin .neq (.tmp 8) (.const (.int .i64 0))), none⟩]) (.cond (.tmp 9) (.seq (.ops [⟨(some 10), (.build [(.v (.int .u8 0)), (.sl 0 [] (some true) .exact)] []), none⟩, ⟨(some 11), (.move (.tmp 4)), none⟩, ⟨none, (.store 2 (.tmp 2) (.tmp 10)), none⟩, ⟨(some 3), (.assign (.tmp 11)), none⟩]) .ret) .skip))) (.seq (.ops [⟨(some 5), (.assign (.const (.slice none 0 0))), none⟩]) (.seq (.seq (.ops [⟨(some 12), (.faddr 0 (.tmp 1)), none⟩, ⟨(some 13), (.load1 (.tmp 12)), none⟩]) (.block 0 (.seq (.ops [⟨(some 15), (.bin .eql (.tmp 13) (.const (.int .u8 82))), none⟩, ⟨(some 14), (.assign (.tmp 15)), none⟩]) (.cond (.tmp 14) (.ops [⟨(some 16), (.call 40 [(.const (.slice none 0 0)), (.const (.int .i64 0)), (.const (.int .i64 4))]), none⟩, ⟨(some 5), (.assign (.tmp 16)), none⟩]) (.seq (.ops [⟨(some 18), (.bin .eql (.tmp 13) (.const (.int .u8 83))), none⟩, ⟨(some 17), (.assign (.tmp 18)), none⟩]) (.cond (.tmp 17) (.draws (.take ⟨(some 19), (.faddr 3 (.tmp 1)), none⟩ (.take ⟨(some 20), (.load1 (.tmp 19)), none⟩ (.take ⟨(some 22), (.faddr 4 (.tmp 1)), none⟩ (.take ⟨(some 23), (.load1 (.tmp 22)), none⟩ (.only ⟨(some 21), (.call 41 [(.const (.slice none 0 0)), (.tmp 20)]), none⟩ (.only ⟨(some 24), (.call 41 [(.tmp 21), (.tmp 23)]), none⟩ (.take ⟨(some 5), (.assign (.tmp 24)), none⟩ .done)))))))) (.seq (.ops [⟨(some 26), (.bin .eql (.tmp 13) (.const (.int .u8 75))), none⟩, ⟨(some 25), (.assign (.tmp 26)), none⟩]) (.cond (.tmp 25) (.draws (.take ⟨(some 27), (.faddr 5 (.tmp 1)), none⟩ (.take ⟨(some 28), (.load1 (.tmp 27)), none⟩ (.take ⟨(some 30), (.faddr 6 (.tmp 1)), none⟩ (.take ⟨(some 31), (.load1 (.tmp 30)), none⟩ (.only ⟨(some 29), (.call 40 [(.const (.slice none 0 0)), (.tmp 28), (.const (.int .i64 4))]), none⟩ (.only ⟨(some 32), (.call 40 [(.tmp 29), (.tmp 31), (.const (.int .i64 4))]), none⟩ (.take ⟨(some 5), (.assign (.tmp 32)), none⟩ .done)))))))) (.seq (.ops [⟨(some 34), (.bin .eql (.tmp 13) (.const (.int .u8 90))), none⟩, ⟨(some 33), (.assign (.tmp 34)), none⟩]) (.cond (.tmp 33) (.ops [⟨(some 35), (.faddr 1 (.tmp 1)), none⟩, ⟨(some 36), (.load1 (.tmp 35)), none⟩, ⟨(some 37), (.buildSlice 1 1 [(.v (.int .u8 0))] [(0, (.tmp 36))]), none⟩, ⟨(some 5), (.assign (.tmp 37)), none⟩]) (.seq (.ops [⟨(some 39), (.bin .eql (.tmp 13) (.const (.int .u8 67))), none⟩, ⟨(some 38), (.assign (.tmp 39)), none⟩]) (.cond (.tmp 38) (.ops [⟨(some 40), (.faddr 2 (.tmp 1)), none⟩, ⟨(some 41), (.load1 (.tmp 40)), none⟩, ⟨(some 42), (.call 41 [(.const (.slice none 0 0)), (.tmp 41)]), none⟩, ⟨(some 5), (.assign (.tmp 42)), none⟩]) (.seq (.ops [⟨(some 44), (.bin .eql (.tmp 13) (.const (.int .u8 68))), none⟩, ⟨(some 43), (.assign (.tmp 44)), none⟩]) (.cond (.tmp 43) (.ops [⟨(some 45), (.faddr 9 (.tmp 1)), none⟩, ⟨(some 46), (.load1 (.tmp 45)), none⟩, ⟨(some 47), (.call 42 [(.const (.slice none 0 0)), (.tmp 46)]), none⟩, ⟨(some 5), (.assign (.tmp 47)), none⟩]) (.seq (.ops [⟨(some 49), (.bin .eql (.tmp 13) (.const (.int .u8 84))), none⟩, ⟨(some 48), (.assign (.tmp 49)), none⟩]) (.cond (.tmp 48) (.ops [⟨(some 50), (.faddr 8 (.tmp 1)), none⟩, ⟨(some 51), (.load1 (.tmp 50)), none⟩, ⟨(some 52), (.call 43 [(.tmp 51)]), none⟩, ⟨(some 5), (.assign (.tmp 52)), none⟩]) (.seq (.ops [⟨(some 54), (.bin .eql (.tmp 13) (.const (.int .u8 116))), none⟩, ⟨(some 53), (.assign (.tmp 54)), none⟩]) (.cond (.tmp 53) (.ops [⟨(some 55), (.faddr 7 (.tmp 1)), none⟩, ⟨(some 56), (.load1 (.tmp 55)), none⟩, ⟨(some 57), (.call 44 [(.const (.slice none 0 0)), (.tmp 56), (.const (.int .i64 4))]), none⟩, ⟨(some 5), (.assign (.tmp 57)), none⟩]) (.seq (.seq (.ops [⟨(some 59), (.bin .eql (.tmp 13) (.const (.int .u8 69))), none⟩, ⟨(some 58), (.assign (.tmp 59)), none⟩]) (.cond (.tmp 58) .skip (.ops [⟨(some 60), (.bin .eql (.tmp 13) (.const (.int .u8 78))), none⟩, ⟨(some 58), (.assign (.tmp 60)), none⟩]))) (.cond (.tmp 58) (.ops [⟨(some 61), (.faddr 10 (.tmp 1)), none⟩, ⟨(some 62), (.load1 (.tmp 61)), none⟩, ⟨(some 63), (.call 45 [(.tmp 62)]), none⟩, ⟨(some 5), (.assign (.tmp 63)), none⟩]) .skip)))))))))))))))))))) (.seq (.ops [⟨(some 64), (.faddr 0 (.tmp 1)), none⟩, ⟨(some 65), (.load1 (.tmp 64)), none⟩, ⟨(some 66), (.move (.tmp 5)), none⟩, ⟨(some 67), (.build [(.v (.int .u8 0)), (.sl 0 [] (some true) .exact)] [(0, (1, (.tmp 65))), (1, (1, (.tmp 66)))]), none⟩, ⟨none, (.store 2 (.tmp 2) (.tmp 67)), none⟩, ⟨(some 3), (.assign (.const (.int .i64 0))), none⟩]) .ret))))), [(.loadN 2 (.tmp 2)), (.move (.tmp 3))]⟩
theorem k9 : cfun Tryz.prog 9 = some c9 := by kernel_rfl
def c115 : XFun := ⟨25, (.seq (.ops [⟨(some 2), (.alloc [(.v (.string (strB []))), (.v (.int .i64 0)), (.v (.int .i64 0)), (.v (.int .i64 0)), (.v (.int .i64 0)), (.v (.int .i64 0)), (.v (.int .i64 0))]), none⟩]) (.seq (.ops [⟨(some 4), (.move (.tmp 0)), none⟩, ⟨(some 5), (.call 113 [(.tmp 4)]), none⟩, ⟨(some 6), (.move (.tmp 0)), none⟩, ⟨(some 7), (.call 112 [(.tmp 6), (.const (.int .i64 4))]), none⟩, ⟨(some 8), (.move (.tmp 0)), none⟩, ⟨(some 9), (.call 112 [(.tmp 8), (.const (.int .i64 2))]), none⟩, ⟨(some 10), (.move (.tmp 0)), none⟩, ⟨(some 11), (.call 112 [(.tmp 10), (.const (.int .i64 4))]), none⟩, ⟨(some 12), (.build [(.v (.string (strB []))), (.v (.int .i64 0)), (.v (.int .i64 0)), (.v (.int .i64 0)), (.v (.int .i64 0)), (.v (.int .i64 0)), (.v (.int .i64 0))] [(0, (1, (.tmp 5))), (1, (1, (.tmp 7))), (2, (1, (.tmp 9))), (3, (1, (.tmp 11)))]), none⟩, ⟨(some 3), (.alloc [(.v (.string (strB []))), (.v (.int .i64 0)), (.v (.int .i64 0)), (.v (.int .i64 0)), (.v (.int .i64 0)), (.v (.int .i64 0)), (.v (.int .i64 0))]), none⟩, ⟨none, (.store 7 (.tmp 3) (.tmp 12)), none⟩]) (.seq (.ops [⟨(some 13), (.move (.tmp 0)), none⟩, ⟨(some 14), (.call 112 [(.tmp 13), (.const (.int .i64 2))]), none⟩, ⟨(some 15), (.call 144 [(.tmp 14), (.const (.int .i64 2))]), none⟩, ⟨(some 16), (.faddr 4 (.tmp 3)), none⟩, ⟨none, (.store 1 (.tmp 16) (.tmp 15)), none⟩]) (.seq (.ops [⟨(some 17), (.move (.tmp 0)), none⟩, ⟨(some 18), (.call 112 [(.tmp 17), (.const (.int .i64 4))]), none⟩, ⟨(some 19), (.call 144 [(.tmp 18), (.const (.int .i64 4))]), none⟩, ⟨(some 20), (.faddr 5 (.tmp 3)), none⟩, ⟨none, (.store 1 (.tmp 20) (.tmp 19)), none⟩]) (.seq (.ops [⟨(some 21), (.move (.tmp 0)), none⟩, ⟨(some 22), (.call 112 [(.tmp 21), (.const (.int .i64 2))]), none⟩, ⟨(some 23), (.faddr 6 (.tmp 3)), none⟩, ⟨none, (.store 1 (.tmp 23) (.tmp 22)), none⟩]) (.seq (.ops [⟨(some 24), (.loadN 7 (.tmp 3)), none⟩, ⟨none, (.store 7 (.tmp 2) (.tmp 24)), none⟩]) .ret)))))), [(.loadN 7 (.tmp 2))]⟩
theorem k115 : cfun Tryz.prog 115 = some c115 := by kernel_rfl
def c117 : XFun := ⟨23, (.seq (.ops [⟨(some 2), (.assign (.const (.slice none 0 0))), none⟩]) (.seq (.ops [⟨(some 3), (.assign (.const (.slice none 0 0))), none⟩]) (.seq (.block 0 (.loop (.seq (.seq (.ops [⟨(some 5), (.move (.tmp 0)), none⟩, ⟨(some 6), (.nilCheck (.tmp 5)), none⟩, ⟨(some 7), (.faddr 1 (.tmp 6)), none⟩, ⟨(some 8), (.load1 (.tmp 7)), none⟩, ⟨(some 9), (.un .not (.tmp 8)), none⟩]) (.cond (.tmp 9) .skip (.exit 0))) (.block 1 (.seq (.ops [⟨(some 10), (.move (.tmp 0)), none⟩, ⟨(some 11), (.call 112 [(.tmp 10), (.const (.int .i64 1))]), none⟩, ⟨(some 12), (.conv .u8 (.tmp 11)), none⟩, ⟨(some 4), (.assign (.tmp 12)), none⟩]) (.seq (.seq (.ops [⟨(some 13), (.move (.tmp 4)), none⟩, ⟨(some 14), (.bin .eql (.tmp 13) (.const (.int .u8 0))), none⟩]) (.cond (.tmp 14) (.exit 0) .skip)) (.ops [⟨(some 15), (.move (.tmp 3)), none⟩, ⟨(some 16), (.move (.tmp 4)), none⟩, ⟨(some 17), (.move (.tmp 0)), none⟩, ⟨(some 18), (.call 113 [(.tmp 17)]), none⟩, ⟨(some 19), (.build [(.v (.int .u8 0)), (.v (.string (strB [])))] [(0, (1, (.tmp 16))), (1, (1, (.tmp 18)))]), none⟩, ⟨(some 20), (.buildSlice 2 1 [(.v (.int .u8 0)), (.v (.string (strB [])))] [(0, (.tmp 19))]), none⟩, ⟨(some 21), (.append 2 24 (.tmp 15) (.tmp 20)), none⟩, ⟨(some 3), (.assign (.tmp 21)), none⟩]))))))) (.seq (.ops [⟨(some 22), (.move (.tmp 3)), none⟩, ⟨(some 2), (.assign (.tmp 22)), none⟩]) .ret)))), [(.move (.tmp 2))]⟩
theorem k117 : cfun Tryz.prog 117 = some c117 := by kernel_rfl
def c71 : XFun := ⟨84, (.seq (.ops [⟨(some 4), (.alloc [(.v (.int .u8 0)), (.v (.int .u8 0)), (.v (.string (strB []))), (.v (.string (strB []))), (.v (.string (strB []))), (.v (.int .i64 0)), (.v (.int .i64 0)), (.sl 0 [] (some true) .exact), (.sl 0 [] (some true) .exact), (.sl 0 [] (some true) .exact), (.sl 0 [] (some true) .exact)]), none⟩]) (.seq (.ops [⟨(some 7), (.move (.tmp 1)), none⟩, ⟨(some 8), (.build [(.v (.int .u8 0)), (.v (.int .u8 0)), (.v (.string (strB []))), (.v (.string (strB []))), (.v (.string (strB []))), (.v (.int .i64 0)), (.v (.int .i64 0)), (.sl 0 [] (some true) .exact), (.sl 0 [] (some true) .exact), (.sl 0 [] (some true) .exact), (.sl 0 [] (some true) .exact)] [(0, (1, (.tmp 7)))]), none⟩, ⟨(some 5), (.alloc [(.v (.int .u8 0)), (.v (.int .u8 0)), (.v (.string (strB []))), (.v (.string (strB []))), (.v (.string (strB []))), (.v (.int .i64 0)), (.v (.int .i64 0)), (.sl 0 [] (some true) .exact), (.sl 0 [] (some true) .exact), (.sl 0 [] (some true) .exact), (.sl 0 [] (some true) .exact)]), none⟩, ⟨none, (.store 11 (.tmp 5) (.tmp 8)), none⟩]) (.seq (.seq (.ops [⟨(some 9), (.move (.tmp 1)), none⟩]) (.block 0 (.seq (.ops [⟨(some 11), (.bin .eql (.tmp 9) (.const (.int .u8 82))), none⟩, ⟨(some 10), (.assign (.tmp 11)), none⟩]) (.cond (.tmp 10) (.seq (.ops [⟨(some 12), (.move (.tmp 0)), none⟩, ⟨(some 13), (.call 112 [(.tmp 12), (.const (.int .i64 4))]), none⟩, ⟨(some 14), (.bin .neq (.tmp 13) (.const (.int .i64 0))), none⟩]) (.cond (.tmp 14) (.ops [⟨(some 15), (.move (.tmp 0)), none⟩, ⟨(some 16), (.nilCheck (.tmp 15)), none⟩, ⟨(some 17), (.faddr 1 (.tmp 16)), none⟩, ⟨none, (.store 1 (.tmp 17) (.const (.bool true))), none⟩]) .skip)) (.seq (.ops [⟨(some 19), (.bin .eql (.tmp 9) (.const (.int .u8 83))), none⟩, ⟨(some 18), (.assign (.tmp 19)), none⟩]) (.cond (.tmp 18) (.ops [⟨(some 20), (.move (.tmp 0)), none⟩, ⟨(some 21), (.call 113 [(.tmp 20)]), none⟩, ⟨(some 22), (.move (.tmp 0)), none⟩, ⟨(some 23), (.call 113 [(.tmp 22)]), none⟩, ⟨(some 24), (.faddr 3 (.tmp 5)), none⟩, ⟨none, (.store 1 (.tmp 24) (.tmp 21)), none⟩, ⟨(some 25), (.faddr 4 (.tmp 5)), none⟩, ⟨none, (.store 1 (.tmp 25) (.tmp 23)), none⟩]) (.seq (.ops [⟨(some 27), (.bin .eql (.tmp 9) (.const (.int .u8 75))), none⟩, ⟨(some 26), (.assign (.tmp 27)), none⟩]) (.cond (.tmp 26) (.ops [⟨(some 28), (.move (.tmp 0)), none⟩, ⟨(some 29), (.call 112 [(.tmp 28), (.const (.int .i64 4))]), none⟩, ⟨(some 30), (.move (.tmp 0)), none⟩, ⟨(some 31), (.call 112 [(.tmp 30), (.const (.int .i64 4))]), none⟩, ⟨(some 32), (.faddr 5 (.tmp 5)), none⟩, ⟨none, (.store 1 (.tmp 32) (.tmp 29)), none⟩, ⟨(some 33), (.faddr 6 (.tmp 5)), none⟩, ⟨none, (.store 1 (.tmp 33) (.tmp 31)), none⟩]) (.seq (.ops [⟨(some 35), (.bin .eql (.tmp 9) (.const (.int .u8 90))), none⟩, ⟨(some 34), (.assign (.tmp 35)), none⟩]) (.cond (.tmp 34) (.ops [⟨(some 36), (.move (.tmp 0)), none⟩, ⟨(some 37), (.call 112 [(.tmp 36), (.const (.int .i64 1))]), none⟩, ⟨(some 38), (.conv .u8 (.tmp 37)), none⟩, ⟨(some 39), (.faddr 1 (.tmp 5)), none⟩, ⟨none, (.store 1 (.tmp 39) (.tmp 38)), none⟩]) (.seq (.ops [⟨(some 41), (.bin .eql (.tmp 9) (.const (.int .u8 67))), none⟩, ⟨(some 40), (.assign (.tmp 41)), none⟩]) (.cond (.tmp 40) (.ops [⟨(some 42), (.move (.tmp 0)), none⟩, ⟨(some 43), (.call 113 [(.tmp 42)]), none⟩, ⟨(some 44), (.faddr 2 (.tmp 5)), none⟩, ⟨none, (.store 1 (.tmp 44) (.tmp 43)), none⟩]) (.seq (.ops [⟨(some 46), (.bin .eql (.tmp 9) (.const (.int .u8 68))), none⟩, ⟨(some 45), (.assign (.tmp 46)), none⟩]) (.cond (.tmp 45) (.ops [⟨(some 47), (.move (.tmp 0)), none⟩, ⟨(some 48), (.call 114 [(.tmp 47)]), none⟩, ⟨(some 49), (.faddr 9 (.tmp 5)), none⟩, ⟨none, (.store 1 (.tmp 49) (.tmp 48)), none⟩]) (.seq (.ops [⟨(some 51), (.bin .eql (.tmp 9) (.const (.int .u8 84))), none⟩, ⟨(some 50), (.assign (.tmp 51)), none⟩]) (.cond (.tmp 50) (.seq (.ops [⟨(some 52), (.move (.tmp 0)), none⟩, ⟨(some 53), (.call 112 [(.tmp 52), (.const (.int .i64 2))]), none⟩, ⟨(some 6), (.assign (.tmp 53)), none⟩]) (.block 1 (.loop (.seq (.seq (.ops [⟨(some 54), (.move (.tmp 6)), none⟩, ⟨(some 55), (.bin .gtr (.tmp 54) (.const (.int .i64 0))), none⟩, ⟨(some 56), (.move (.tmp 55)), none⟩, ⟨(some 57), (.move (.tmp 0)), (some (56, true))⟩, ⟨(some 58), (.nilCheck (.tmp 57)), (some (56, true))⟩, ⟨(some 59), (.faddr 1 (.tmp 58)), (some (56, true))⟩, ⟨(some 60), (.load1 (.tmp 59)), (some (56, true))⟩, ⟨(some 61), (.un .not (.tmp 60)), (some (56, true))⟩, ⟨(some 62), (.pick (.tmp 56) (.tmp 61) (.const (.bool false))), none⟩]) (.cond (.tmp 62) .skip (.exit 1))) (.seq (.block 2 (.draws (.take ⟨(some 65), (.faddr 8 (.tmp 5)), none⟩ (.take ⟨(some 66), (.load1 (.tmp 65)), none⟩ (.take ⟨(some 67), (.move (.tmp 0)), none⟩ (.only ⟨(some 68), (.call 115 [(.tmp 67)]), none⟩ (.only ⟨(some 69), (.buildSlice 7 1 [(.v (.string (strB []))), (.v (.int .i64 0)), (.v (.int .i64 0)), (.v (.int .i64 0)), (.v (.int .i64 0)), (.v (.int .i64 0)), (.v (.int .i64 0))] [(0, (.tmp 68))]), none⟩ (.only ⟨(some 70), (.append 7 64 (.tmp 66) (.tmp 69)), none⟩ (.take ⟨(some 71), (.faddr 8 (.tmp 5)), none⟩ (.last ⟨none, (.store 1 (.tmp 71) (.tmp 70)), none⟩)))))))))) (.ops [⟨(some 63), (.move (.tmp 6)), none⟩, ⟨(some 64), (.bin .sub (.tmp 63) (.const (.int .i64 1))), none⟩, ⟨(some 6), (.assign (.tmp 64)), none⟩])))))) (.seq (.ops [⟨(some 73), (.bin .eql (.tmp 9) (.const (.int .u8 116))), none⟩, ⟨(some 72), (.assign (.tmp 73)), none⟩]) (.cond (.tmp 72) (.ops [⟨(some 74), (.move (.tmp 0)), none⟩, ⟨(some 75), (.call 116 [(.tmp 74), (.const (.int .i64 4))]), none⟩, ⟨(some 76), (.faddr 7 (.tmp 5)), none⟩, ⟨none, (.store 1 (.tmp 76) (.tmp 75)), none⟩]) (.seq (.seq (.ops [⟨(some 78), (.bin .eql (.tmp 9) (.const (.int .u8 69))), none⟩, ⟨(some 77), (.assign (.tmp 78)), none⟩]) (.cond (.tmp 77) .skip (.ops [⟨(some 79), (.bin .eql (.tmp 9) (.const (.int .u8 78))), none⟩, ⟨(some 77), (.assign (.tmp 79)), none⟩]))) (.cond (.tmp 77) (.ops [⟨(some 80), (.move (.tmp 0)), none⟩, ⟨(some 81), (.call 117 [(.tmp 80)]), none⟩, ⟨(some 82), (.faddr 10 (.tmp 5)), none⟩, ⟨none, (.store 1 (.tmp 82) (.tmp 81)), none⟩]) .skip)))))))))))))))))))) (.seq (.ops [⟨(some 83), (.loadN 11 (.tmp 5)), none⟩, ⟨none, (.store 11 (.tmp 4) (.tmp 83)), none⟩]) .ret)))), [(.loadN 11 (.tmp 4))]⟩
theorem k71 : cfun Tryz.prog 71 = some c71 := by kernel_rfl
def c18 : XFun := ⟨28, (.seq (.ops [⟨(some 1), (.box (.tmp 0)), none⟩, ⟨(some 2), (.alloc [(.v (.int .u8 0)), (.v (.int .u8 0)), (.v (.string (strB []))), (.v (.string (strB []))), (.v (.string (strB []))), (.v (.int .i64 0)), (.v (.int .i64 0)), (.sl 0 [] (some true) .exact), (.sl 0 [] (some true) .exact), (.sl 0 [] (some true) .exact), (.sl 0 [] (some true) .exact)]), none⟩, ⟨(some 3), (.assign (.const (.int .i64 0))), none⟩]) (.seq (.seq (.ops [⟨(some 6), (.faddr 0 (.tmp 1)), none⟩, ⟨(some 7), (.load1 (.tmp 6)), none⟩, ⟨(some 8), (.call 52 [(.tmp 7)]), none⟩, ⟨(some 9), (.un .not (.tmp 8)), none⟩]) (.cond (.tmp 9) (.seq (.ops [⟨(some 10), (.build [(.v (.int .u8 0)), (.v (.int .u8 0)), (.v (.string (strB []))), (.v (.string (strB []))), (.v (.string (strB []))), (.v (.int .i64 0)), (.v (.int .i64 0)), (.sl 0 [] (some true) .exact), (.sl 0 [] (some true) .exact), (.sl 0 [] (some true) .exact), (.sl 0 [] (some true) .exact)] []), none⟩, ⟨none, (.store 11 (.tmp 2) (.tmp 10)), none⟩, ⟨(some 3), (.assign (.const (.int .i64 9))), none⟩]) .ret) .skip)) (.seq (.ops [⟨(some 11), (.faddr 1 (.tmp 1)), none⟩, ⟨(some 12), (.load1 (.tmp 11)), none⟩, ⟨(some 13), (.call 70 [(.tmp 12)]), none⟩, ⟨(some 4), (.assign (.tmp 13)), none⟩]) (.seq (.ops [⟨(some 14), (.move (.tmp 4)), none⟩, ⟨(some 15), (.faddr 0 (.tmp 1)), none⟩, ⟨(some 16), (.load1 (.tmp 15)), none⟩, ⟨(some 17), (.call 71 [(.tmp 14), (.tmp 16)]), none⟩, ⟨(some 5), (.alloc [(.v (.int .u8 0)), (.v (.int .u8 0)), (.v (.string (strB []))), (.v (.string (strB []))), (.v (.string (strB []))), (.v (.int .i64 0)), (.v (.int .i64 0)), (.sl 0 [] (some true) .exact), (.sl 0 [] (some true) .exact), (.sl 0 [] (some true) .exact), (.sl 0 [] (some true) .exact)]), none⟩, ⟨none, (.store 11 (.tmp 5) (.tmp 17)), none⟩]) (.seq (.seq (.ops [⟨(some 18), (.move (.tmp 4)), none⟩, ⟨(some 19), (.call 72 [(.tmp 18)]), none⟩, ⟨(some 20), (.un .not (.tmp 19)), none⟩, ⟨(some 21), (.move (.tmp 20)), none⟩, ⟨(some 22), (.loadN 11 (.tmp 5)), (some (21, false))⟩, ⟨(some 23), (.call 12 [(.tmp 22)]), (some (21, false))⟩, ⟨(some 24), (.bin .neq (.tmp 23) (.const (.int .i64 0))), (some (21, false))⟩, ⟨(some 25), (.pick (.tmp 21) (.const (.bool true)) (.tmp 24)), none⟩]) (.cond (.tmp 25) (.seq (.ops [⟨(some 26), (.build [(.v (.int .u8 0)), (.v (.int .u8 0)), (.v (.string (strB []))), (.v (.string (strB []))), (.v (.string (strB []))), (.v (.int .i64 0)), (.v (.int .i64 0)), (.sl 0 [] (some true) .exact), (.sl 0 [] (some true) .exact), (.sl 0 [] (some true) .exact), (.sl 0 [] (some true) .exact)] []), none⟩, ⟨none, (.store 11 (.tmp 2) (.tmp 26)), none⟩, ⟨(some 3), (.assign (.const (.int .i64 4))), none⟩]) .ret) .skip)) (.seq (.ops [⟨(some 27), (.loadN 11 (.tmp 5)), none⟩, ⟨none, (.store 11 (.tmp 2) (.tmp 27)), none⟩, ⟨(some 3), (.assign (.const (.int .i64 0))), none⟩]) .ret)))))), [(.loadN 11 (.tmp 2)), (.move (.tmp 3))]⟩
theorem k18 : cfun Tryz.prog 18 = some c18 := by kernel_rfl
def c16 : XFun := ⟨28, (.seq (.ops [⟨(some 2), (.assign (.const (.slice none 0 0))), none⟩]) (.seq (.ops [⟨(some 3), (.assign (.const (.slice none 0 0))), none⟩]) (.seq (.seq (.ops [⟨(some 4), (.assign (.const (.int .i64 0))), none⟩]) (.block 0 (.loop (.seq (.seq (.ops [⟨(some 7), (.move (.tmp 4)), none⟩, ⟨(some 8), (.move (.tmp 0)), none⟩, ⟨(some 9), (.lenL (.tmp 8)), none⟩, ⟨(some 10), (.bin .lss (.tmp 7) (.tmp 9)), none⟩]) (.cond (.tmp 10) .skip (.exit 0))) (.seq (.block 1 (.seq (.ops [⟨(some 14), (.move (.tmp 0)), none⟩, ⟨(some 15), (.move (.tmp 4)), none⟩, ⟨(some 16), (.iaddr 11 (.tmp 14) (.tmp 15)), none⟩, ⟨(some 17), (.loadN 11 (.tmp 16)), none⟩, ⟨(some 18), (.call 9 [(.tmp 17)]), none⟩, ⟨(some 13), (.move (.tmp 18)), none⟩, ⟨(some 19), (.extract (.tmp 13) 0), none⟩, ⟨(some 20), (.extract (.tmp 13) 1), none⟩, ⟨(some 5), (.alloc [(.v (.int .u8 0)), (.sl 0 [] (some true) .exact)]), none⟩, ⟨none, (.store 2 (.tmp 5) (.tmp 19)), none⟩, ⟨(some 6), (.assign (.tmp 20)), none⟩]) (.seq (.ops [⟨(some 21), (.move (.tmp 6)), none⟩, ⟨(some 22), (.bin .eql (.tmp 21) (.const (.int .i64 0))), none⟩]) (.cond (.tmp 22) (.ops [⟨(some 23), (.move (.tmp 3)), none⟩, ⟨(some 24), (.loadN 2 (.tmp 5)), none⟩, ⟨(some 25), (.call 66 [(.tmp 24)]), none⟩, ⟨(some 26), (.append 1 1 (.tmp 23) (.tmp 25)), none⟩, ⟨(some 3), (.assign (.tmp 26)), none⟩]) .skip)))) (.ops [⟨(some 11), (.move (.tmp 4)), none⟩, ⟨(some 12), (.bin .add (.tmp 11) (.const (.int .i64 1))), none⟩, ⟨(some 4), (.assign (.tmp 12)), none⟩])))))) (.seq (.ops [⟨(some 27), (.move (.tmp 3)), none⟩, ⟨(some 2), (.assign (.tmp 27)), none⟩]) .ret)))), [(.move (.tmp 2))]⟩
theorem k16 : cfun Tryz.prog 16 = some c16 := by kernel_rfl
def c66 : XFun := ⟨21, (.seq (.ops [⟨(some 1), (.box (.tmp 0)), none⟩, ⟨(some 2), (.assign (.const (.slice none 0 0))), none⟩]) (.seq (.ops [⟨(some 3), (.assign (.const (.slice none 0 0))), none⟩]) (.seq (.seq (.ops [⟨(some 4), (.faddr 0 (.tmp 1)), none⟩, ⟨(some 5), (.load1 (.tmp 4)), none⟩, ⟨(some 6), (.bin .neq (.tmp 5) (.const (.int .u8 0))), none⟩]) (.cond (.tmp 6) (.ops [⟨(some 7), (.move (.tmp 3)), none⟩, ⟨(some 8), (.faddr 0 (.tmp 1)), none⟩, ⟨(some 9), (.load1 (.tmp 8)), none⟩, ⟨(some 10), (.buildSlice 1 1 [(.v (.int .u8 0))] [(0, (.tmp 9))]), none⟩, ⟨(some 11), (.append 1 1 (.tmp 7) (.tmp 10)), none⟩, ⟨(some 3), (.assign (.tmp 11)), none⟩]) .skip)) (.seq (.draws (.take ⟨(some 12), (.move (.tmp 3)), none⟩ (.take ⟨(some 13), (.faddr 1 (.tmp 1)), none⟩ (.take ⟨(some 14), (.load1 (.tmp 13)), none⟩ (.take ⟨(some 15), (.lenL (.tmp 14)), none⟩ (.take ⟨(some 16), (.bin .add (.tmp 15) (.const (.int .i64 4))), none⟩ (.take ⟨(some 18), (.faddr 1 (.tmp 1)), none⟩ (.take ⟨(some 19), (.load1 (.tmp 18)), none⟩ (.only ⟨(some 17), (.call 40 [(.tmp 12), (.tmp 16), (.const (.int .i64 4))]), none⟩ (.only ⟨(some 20), (.append 1 1 (.tmp 17) (.tmp 19)), none⟩ (.take ⟨(some 2), (.assign (.tmp 20)), none⟩ .done))))))))))) .ret)))), [(.move (.tmp 2))]⟩
theorem k66 : cfun Tryz.prog 66 = some c66 := by kernel_rfl
def c3 : XFun := ⟨75, (.seq (.ops [⟨(some 2), (.box (.tmp 0)), none⟩, ⟨(some 3), (.box (.tmp 1)), none⟩, ⟨(some 4), (.assign (.const (.bool false))), none⟩]) (.seq (.seq (.ops [⟨(some 9), (.loadN 11 (.tmp 2)), none⟩, ⟨(some 10), (.call 6 [(.tmp 9)]), none⟩, ⟨(some 11), (.un .not (.tmp 10)), none⟩, ⟨(some 12), (.move (.tmp 11)), none⟩, ⟨(some 13), (.loadN 11 (.tmp 3)), (some (12, false))⟩, ⟨(some 14), (.call 6 [(.tmp 13)]), (some (12, false))⟩, ⟨(some 15), (.un .not (.tmp 14)), (some (12, false))⟩, ⟨(some 16), (.pick (.tmp 12) (.const (.bool true)) (.tmp 15)), none⟩]) (.cond (.tmp 16) (.seq (.ops [⟨(some 17), (.call 7 []), none⟩, ⟨(some 4), (.assign (.tmp 17)), none⟩]) .ret) .skip)) (.seq (.ops [⟨(some 19), (.loadN 11 (.tmp 2)), none⟩, ⟨(some 20), (.call 8 [(.tmp 19)]), none⟩, ⟨(some 18), (.move (.tmp 20)), none⟩, ⟨(some 21), (.extract (.tmp 18) 0), none⟩, ⟨(some 22), (.extract (.tmp 18) 1), none⟩, ⟨(some 5), (.alloc [(.v (.int .u8 0)), (.sl 0 [] (some true) .exact)]), none⟩, ⟨none, (.store 2 (.tmp 5) (.tmp 21)), none⟩, ⟨(some 6), (.assign (.tmp 22)), none⟩]) (.seq (.ops [⟨(some 24), (.loadN 11 (.tmp 2)), none⟩, ⟨(some 25), (.call 9 [(.tmp 24)]), none⟩, ⟨(some 23), (.move (.tmp 25)), none⟩, ⟨(some 26), (.extract (.tmp 23) 0), none⟩, ⟨(some 27), (.extract (.tmp 23) 1), none⟩, ⟨(some 7), (.alloc [(.v (.int .u8 0)), (.sl 0 [] (some true) .exact)]), none⟩, ⟨none, (.store 2 (.tmp 7) (.tmp 26)), none⟩, ⟨(some 8), (.assign (.tmp 27)), none⟩]) (.seq (.draws (.take ⟨(some 28), (.move (.tmp 6)), none⟩ (.take ⟨(some 29), (.move (.tmp 8)), none⟩ (.take ⟨(some 30), (.bin .eql (.tmp 28) (.tmp 29)), none⟩ (.take ⟨(some 31), (.move (.tmp 30)), none⟩ (.take ⟨(some 32), (.faddr 0 (.tmp 5)), (some (31, true))⟩ (.take ⟨(some 33), (.load1 (.tmp 32)), (some (31, true))⟩ (.take ⟨(some 34), (.faddr 0 (.tmp 7)), (some (31, true))⟩ (.take ⟨(some 35), (.load1 (.tmp 34)), (some (31, true))⟩ (.take ⟨(some 36), (.bin .eql (.tmp 33) (.tmp 35)), (some (31, true))⟩ (.take ⟨(some 37), (.pick (.tmp 31) (.tmp 36) (.const (.bool false))), none⟩ (.take ⟨(some 38), (.move (.tmp 37)), none⟩ (.take ⟨(some 39), (.faddr 1 (.tmp 5)), (some (38, true))⟩ (.take ⟨(some 40), (.load1 (.tmp 39)), (some (38, true))⟩ (.take ⟨(some 41), (.faddr 1 (.tmp 7)), (some (38, true))⟩ (.take ⟨(some 42), (.load1 (.tmp 41)), (some (38, true))⟩ (.only ⟨(some 43), (.call 10 [(.tmp 40), (.tmp 42)]), (some (38, true))⟩ (.take ⟨(some 44), (.pick (.tmp 38) (.tmp 43) (.const (.bool false))), none⟩ (.take ⟨(some 45), (.move (.tmp 44)), none⟩ (.take ⟨(some 46), (.loadN 11 (.tmp 2)), (some (45, true))⟩ (.take ⟨(some 48), (.loadN 11 (.tmp 2)), (some (45, true))⟩ (.only ⟨(some 47), (.call 11 [(.tmp 46)]), (some (45, true))⟩ (.only ⟨(some 49), (.call 12 [(.tmp 48)]), (some (45, true))⟩ (.take ⟨(some 50), (.bin .eql (.tmp 47) (.tmp 49)), (some (45, true))⟩ (.take ⟨(some 51), (.pick (.tmp 45) (.tmp 50) (.const (.bool false))), none⟩ (.take ⟨(some 52), (.move (.tmp 51)), none⟩ (.take ⟨(some 53), (.loadN 11 (.tmp 2)), (some (52, true))⟩ (.take ⟨(some 54), (.loadN 11 (.tmp 3)), (some (52, true))⟩ (.take ⟨(some 56), (.loadN 11 (.tmp 2)), (some (52, true))⟩ (.take ⟨(some 57), (.loadN 11 (.tmp 3)), (some (52, true))⟩ (.only ⟨(some 55), (.call 13 [(.tmp 53), (.tmp 54)]), (some (52, true))⟩ (.only ⟨(some 58), (.call 14 [(.tmp 56), (.tmp 57)]), (some (52, true))⟩ (.take ⟨(some 59), (.beq false (.tmp 55) (.tmp 58)), (some (52, true))⟩ (.take ⟨(some 60), (.pick (.tmp 52) (.tmp 59) (.const (.bool false))), none⟩ (.take ⟨(some 61), (.move (.tmp 60)), none⟩ (.take ⟨(some 62), (.loadN 11 (.tmp 2)), (some (61, true))⟩ (.take ⟨(some 63), (.loadN 11 (.tmp 3)), (some (61, true))⟩ (.take ⟨(some 66), (.loadN 11 (.tmp 2)), (some (61, true))⟩ (.take ⟨(some 67), (.loadN 11 (.tmp 3)), (some (61, true))⟩ (.two ⟨(some 64), (.buildSlice 11 2 [(.v (.int .u8 0)), (.v (.int .u8 0)), (.v (.string (strB []))), (.v (.string (strB []))), (.v (.string (strB []))), (.v (.int .i64 0)), (.v (.int .i64 0)), (.sl 0 [] (some true) .exact), (.sl 0 [] (some true) .exact), (.sl 0 [] (some true) .exact), (.sl 0 [] (some true) .exact)] [(0, (.tmp 62)), (1, (.tmp 63))]), (some (61, true))⟩ ⟨(some 68), (.buildSlice 11 2 [(.v (.int .u8 0)), (.v (.int .u8 0)), (.v (.string (strB []))), (.v (.string (strB []))), (.v (.string (strB []))), (.v (.int .i64 0)), (.v (.int .i64 0)), (.sl 0 [] (some true) .exact), (.sl 0 [] (some true) .exact), (.sl 0 [] (some true) .exact), (.sl 0 [] (some true) .exact)] [(0, (.tmp 66)), (1, (.tmp 67))]), (some (61, true))⟩ (.two ⟨(some 65), (.call 15 [(.tmp 64)]), (some (61, true))⟩ ⟨(some 68), (.buildSlice 11 2 [(.v (.int .u8 0)), (.v (.int .u8 0)), (.v (.string (strB []))), (.v (.string (strB []))), (.v (.string (strB []))), (.v (.int .i64 0)), (.v (.int .i64 0)), (.sl 0 [] (some true) .exact), (.sl 0 [] (some true) .exact), (.sl 0 [] (some true) .exact), (.sl 0 [] (some true) .exact)] [(0, (.tmp 66)), (1, (.tmp 67))]), (some (61, true))⟩ (.only ⟨(some 68), (.buildSlice 11 2 [(.v (.int .u8 0)), (.v (.int .u8 0)), (.v (.string (strB []))), (.v (.string (strB []))), (.v (.string (strB []))), (.v (.int .i64 0)), (.v (.int .i64 0)), (.sl 0 [] (some true) .exact), (.sl 0 [] (some true) .exact), (.sl 0 [] (some true) .exact), (.sl 0 [] (some true) .exact)] [(0, (.tmp 66)), (1, (.tmp 67))]), (some (61, true))⟩ (.only ⟨(some 69), (.call 16 [(.tmp 68)]), (some (61, true))⟩ (.only ⟨(some 70), (.call 10 [(.tmp 65), (.tmp 69)]), (some (61, true))⟩ (.take ⟨(some 71), (.pick (.tmp 61) (.tmp 70) (.const (.bool false))), none⟩ (.take ⟨(some 72), (.move (.tmp 71)), none⟩ (.only ⟨(some 73), (.call 7 []), (some (72, true))⟩ (.take ⟨(some 74), (.pick (.tmp 72) (.tmp 73) (.const (.bool false))), none⟩ (.take ⟨(some 4), (.assign (.tmp 74)), none⟩ .done)))))))) (.only ⟨(some 65), (.call 15 [(.tmp 64)]), (some (61, true))⟩ (.only ⟨(some 69), (.call 16 [(.tmp 68)]), (some (61, true))⟩ (.only ⟨(some 70), (.call 10 [(.tmp 65), (.tmp 69)]), (some (61, true))⟩ (.take ⟨(some 71), (.pick (.tmp 61) (.tmp 70) (.const (.bool false))), none⟩ (.take ⟨(some 72), (.move (.tmp 71)), none⟩ (.only ⟨(some 73), (.call 7 []), (some (72, true))⟩ (.take ⟨(some 74), (.pick (.tmp 72) (.tmp 73) (.const (.bool false))), none⟩ (.take ⟨(some 4), (.assign (.tmp 74)), none⟩ .done))))))))) (.only ⟨(some 64), (.buildSlice 11 2 [(.v (.int .u8 0)), (.v (.int .u8 0)), (.v (.string (strB []))), (.v (.string (strB []))), (.v (.string (strB []))), (.v (.int .i64 0)), (.v (.int .i64 0)), (.sl 0 [] (some true) .exact), (.sl 0 [] (some true) .exact), (.sl 0 [] (some true) .exact), (.sl 0 [] (some true) .exact)] [(0, (.tmp 62)), (1, (.tmp 63))]), (some (61, true))⟩ (.only ⟨(some 65), (.call 15 [(.tmp 64)]), (some (61, true))⟩ (.only ⟨(some 69), (.call 16 [(.tmp 68)]), (some (61, true))⟩ (.only ⟨(some 70), (.call 10 [(.tmp 65), (.tmp 69)]), (some (61, true))⟩ (.take ⟨(some 71), (.pick (.tmp 61) (.tmp 70) (.const (.bool false))), none⟩ (.take ⟨(some 72), (.move (.tmp 71)), none⟩ (.only ⟨(some 73), (.call 7 []), (some (72, true))⟩ (.take ⟨(some 74), (.pick (.tmp 72) (.tmp 73) (.const (.bool false))), none⟩ (.take ⟨(some 4), (.assign (.tmp 74)), none⟩ .done))))))))))))))))))))))))))))))))))))))))))))))))) .ret))))), [(.move (.tmp 4))]⟩
theorem k3 : cfun Tryz.prog 3 = some c3 := by kernel_rfl
def c4 : XFun := ⟨33, (.seq (.ops [⟨(some 1), (.box (.tmp 0)), none⟩, ⟨(some 2), (.assign (.const (.bool false))), none⟩]) (.seq (.seq (.ops [⟨(some 7), (.faddr 1 (.tmp 1)), none⟩, ⟨(some 8), (.load1 (.tmp 7)), none⟩, ⟨(some 9), (.lenL (.tmp 8)), none⟩, ⟨(some 10), (.bin .gtr (.tmp 9) (.const (.int .i64 2000))), none⟩]) (.cond (.tmp 10) (.seq (.ops [⟨(some 11), (.call 7 []), none⟩, ⟨(some 2), (.assign (.tmp 11)), none⟩]) .ret) .skip)) (.seq (.ops [⟨(some 13), (.loadN 2 (.tmp 1)), none⟩, ⟨(some 14), (.call 17 [(.tmp 13)]), none⟩, ⟨(some 12), (.move (.tmp 14)), none⟩, ⟨(some 15), (.extract (.tmp 12) 0), none⟩, ⟨(some 16), (.extract (.tmp 12) 1), none⟩, ⟨(some 3), (.alloc [(.v (.int .u8 0)), (.v (.int .u8 0)), (.v (.string (strB []))), (.v (.string (strB []))), (.v (.string (strB []))), (.v (.int .i64 0)), (.v (.int .i64 0)), (.sl 0 [] (some true) .exact), (.sl 0 [] (some true) .exact), (.sl 0 [] (some true) .exact), (.sl 0 [] (some true) .exact)]), none⟩, ⟨none, (.store 11 (.tmp 3) (.tmp 15)), none⟩, ⟨(some 4), (.assign (.tmp 16)), none⟩]) (.seq (.ops [⟨(some 18), (.loadN 2 (.tmp 1)), none⟩, ⟨(some 19), (.call 18 [(.tmp 18)]), none⟩, ⟨(some 17), (.move (.tmp 19)), none⟩, ⟨(some 20), (.extract (.tmp 17) 0), none⟩, ⟨(some 21), (.extract (.tmp 17) 1), none⟩, ⟨(some 5), (.alloc [(.v (.int .u8 0)), (.v (.int .u8 0)), (.v (.string (strB []))), (.v (.string (strB []))), (.v (.string (strB []))), (.v (.int .i64 0)), (.v (.int .i64 0)), (.sl 0 [] (some true) .exact), (.sl 0 [] (some true) .exact), (.sl 0 [] (some true) .exact), (.sl 0 [] (some true) .exact)]), none⟩, ⟨none, (.store 11 (.tmp 5) (.tmp 20)), none⟩, ⟨(some 6), (.assign (.tmp 21)), none⟩]) (.seq (.ops [⟨(some 22), (.move (.tmp 4)), none⟩, ⟨(some 23), (.move (.tmp 6)), none⟩, ⟨(some 24), (.bin .eql (.tmp 22) (.tmp 23)), none⟩, ⟨(some 25), (.move (.tmp 24)), none⟩, ⟨(some 26), (.loadN 11 (.tmp 3)), (some (25, true))⟩, ⟨(some 27), (.loadN 11 (.tmp 5)), (some (25, true))⟩, ⟨(some 28), (.call 14 [(.tmp 26), (.tmp 27)]), (some (25, true))⟩, ⟨(some 29), (.pick (.tmp 25) (.tmp 28) (.const (.bool false))), none⟩, ⟨(some 30), (.move (.tmp 29)), none⟩, ⟨(some 31), (.call 7 []), (some (30, true))⟩, ⟨(some 32), (.pick (.tmp 30) (.tmp 31) (.const (.bool false))), none⟩, ⟨(some 2), (.assign (.tmp 32)), none⟩]) .ret))))), [(.move (.tmp 2))]⟩
theorem k4 : cfun Tryz.prog 4 = some c4 := by kernel_rfl
def c5 : XFun := ⟨106, (.seq (.ops [⟨(some 10), (.assign (.const (.bool false))), none⟩]) (.seq (.seq (.ops [⟨(some 17), (.move (.tmp 0)), none⟩, ⟨(some 18), (.call 19 [(.tmp 17)]), none⟩, ⟨(some 19), (.move (.tmp 18)), none⟩, ⟨(some 20), (.move (.tmp 2)), (some (19, false))⟩, ⟨(some 21), (.lenS (.tmp 20)), (some (19, false))⟩, ⟨(some 22), (.bin .gtr (.tmp 21) (.const (.int .i64 300))), (some (19, false))⟩, ⟨(some 23), (.pick (.tmp 19) (.const (.bool true)) (.tmp 22)), none⟩, ⟨(some 24), (.move (.tmp 23)), none⟩, ⟨(some 25), (.move (.tmp 3)), (some (24, false))⟩, ⟨(some 26), (.lenS (.tmp 25)), (some (24, false))⟩, ⟨(some 27), (.bin .gtr (.tmp 26) (.const (.int .i64 300))), (some (24, false))⟩, ⟨(some 28), (.pick (.tmp 24) (.const (.bool true)) (.tmp 27)), none⟩, ⟨(some 29), (.move (.tmp 28)), none⟩, ⟨(some 30), (.move (.tmp 4)), (some (29, false))⟩, ⟨(some 31), (.lenS (.tmp 30)), (some (29, false))⟩, ⟨(some 32), (.bin .gtr (.tmp 31) (.const (.int .i64 1000))), (some (29, false))⟩, ⟨(some 33), (.pick (.tmp 29) (.const (.bool true)) (.tmp 32)), none⟩]) (.cond (.tmp 33) (.seq (.ops [⟨(some 34), (.call 20 []), none⟩, ⟨(some 10), (.assign (.tmp 34)), none⟩]) .ret) .skip)) (.seq (.ops [⟨(some 36), (.move (.tmp 0)), none⟩, ⟨(some 37), (.move (.tmp 1)), none⟩, ⟨(some 38), (.call 21 [(.tmp 36), (.tmp 37)]), none⟩, ⟨(some 35), (.move (.tmp 38)), none⟩, ⟨(some 39), (.extract (.tmp 35) 0), none⟩, ⟨(some 40), (.extract (.tmp 35) 1), none⟩, ⟨(some 11), (.assign (.tmp 39)), none⟩, ⟨(some 12), (.assign (.tmp 40)), none⟩]) (.seq (.ops [⟨(some 42), (.move (.tmp 0)), none⟩, ⟨(some 43), (.move (.tmp 1)), none⟩, ⟨(some 44), (.call 22 [(.tmp 42), (.tmp 43)]), none⟩, ⟨(some 41), (.move (.tmp 44)), none⟩, ⟨(some 45), (.extract (.tmp 41) 0), none⟩, ⟨(some 46), (.extract (.tmp 41) 1), none⟩, ⟨(some 13), (.assign (.tmp 45)), none⟩, ⟨(some 14), (.assign (.tmp 46)), none⟩]) (.seq (.ops [⟨(some 47), (.move (.tmp 0)), none⟩, ⟨(some 48), (.call 23 [(.tmp 47)]), none⟩, ⟨(some 15), (.assign (.tmp 48)), none⟩]) (.seq (.ops [⟨(some 49), (.move (.tmp 0)), none⟩, ⟨(some 50), (.move (.tmp 1)), none⟩, ⟨(some 51), (.move (.tmp 4)), none⟩, ⟨(some 52), (.call 24 [(.tmp 49), (.tmp 50), (.tmp 51)]), none⟩, ⟨(some 16), (.assign (.tmp 52)), none⟩]) (.seq (.ops [⟨(some 53), (.move (.tmp 11)), none⟩, ⟨(some 54), (.move (.tmp 13)), none⟩, ⟨(some 55), (.bin .eql (.tmp 53) (.tmp 54)), none⟩, ⟨(some 56), (.move (.tmp 55)), none⟩, ⟨(some 57), (.move (.tmp 12)), (some (56, true))⟩, ⟨(some 58), (.move (.tmp 14)), (some (56, true))⟩, ⟨(some 59), (.beq false (.tmp 57) (.tmp 58)), (some (56, true))⟩, ⟨(some 60), (.pick (.tmp 56) (.tmp 59) (.const (.bool false))), none⟩, ⟨(some 61), (.move (.tmp 60)), none⟩, ⟨(some 62), (.move (.tmp 16)), (some (61, true))⟩, ⟨(some 63), (.move (.tmp 0)), (some (61, true))⟩, ⟨(some 64), (.move (.tmp 1)), (some (61, true))⟩, ⟨(some 65), (.move (.tmp 4)), (some (61, true))⟩, ⟨(some 66), (.call 26 [(.tmp 63), (.tmp 64), (.tmp 65)]), (some (61, true))⟩, ⟨(some 67), (.call 25 [(.tmp 62), (.tmp 66)]), (some (61, true))⟩, ⟨(some 68), (.pick (.tmp 61) (.tmp 67) (.const (.bool false))), none⟩, ⟨(some 69), (.move (.tmp 68)), none⟩, ⟨(some 70), (.move (.tmp 0)), (some (69, true))⟩, ⟨(some 71), (.move (.tmp 15)), (some (69, true))⟩, ⟨(some 72), (.call 25 [(.tmp 70), (.tmp 71)]), (some (69, true))⟩, ⟨(some 73), (.pick (.tmp 69) (.tmp 72) (.const (.bool false))), none⟩, ⟨(some 74), (.move (.tmp 73)), none⟩, ⟨(some 75), (.move (.tmp 2)), (some (74, true))⟩, ⟨(some 76), (.move (.tmp 3)), (some (74, true))⟩, ⟨(some 77), (.move (.tmp 4)), (some (74, true))⟩, ⟨(some 78), (.call 27 [(.tmp 75), (.tmp 76), (.tmp 77)]), (some (74, true))⟩, ⟨(some 79), (.move (.tmp 2)), (some (74, true))⟩, ⟨(some 80), (.move (.tmp 3)), (some (74, true))⟩, ⟨(some 81), (.move (.tmp 4)), (some (74, true))⟩, ⟨(some 82), (.call 28 [(.tmp 79), (.tmp 80), (.tmp 81)]), (some (74, true))⟩, ⟨(some 83), (.call 25 [(.tmp 78), (.tmp 82)]), (some (74, true))⟩, ⟨(some 84), (.pick (.tmp 74) (.tmp 83) (.const (.bool false))), none⟩, ⟨(some 85), (.move (.tmp 84)), none⟩, ⟨(some 86), (.move (.tmp 3)), (some (85, true))⟩, ⟨(some 87), (.move (.tmp 4)), (some (85, true))⟩, ⟨(some 88), (.call 29 [(.tmp 86), (.tmp 87)]), (some (85, true))⟩, ⟨(some 89), (.move (.tmp 3)), (some (85, true))⟩, ⟨(some 90), (.move (.tmp 4)), (some (85, true))⟩, ⟨(some 91), (.call 30 [(.tmp 89), (.tmp 90)]), (some (85, true))⟩, ⟨(some 92), (.call 10 [(.tmp 88), (.tmp 91)]), (some (85, true))⟩, ⟨(some 93), (.pick (.tmp 85) (.tmp 92) (.const (.bool false))), none⟩, ⟨(some 94), (.move (.tmp 93)), none⟩, ⟨(some 95), (.move (.tmp 3)), (some (94, true))⟩, ⟨(some 96), (.move (.tmp 4)), (some (94, true))⟩, ⟨(some 97), (.call 31 [(.tmp 95), (.tmp 96)]), (some (94, true))⟩, ⟨(some 98), (.move (.tmp 3)), (some (94, true))⟩, ⟨(some 99), (.move (.tmp 4)), (some (94, true))⟩, ⟨(some 100), (.call 32 [(.tmp 98), (.tmp 99)]), (some (94, true))⟩, ⟨(some 101), (.call 13 [(.tmp 97), (.tmp 100)]), (some (94, true))⟩, ⟨(some 102), (.pick (.tmp 94) (.tmp 101) (.const (.bool false))), none⟩, ⟨(some 103), (.move (.tmp 102)), none⟩, ⟨(some 104), (.call 20 []), (some (103, true))⟩, ⟨(some 105), (.pick (.tmp 103) (.tmp 104) (.const (.bool false))), none⟩, ⟨(some 10), (.assign (.tmp 105)), none⟩]) .ret))))))), [(.move (.tmp 10))]⟩
theorem k5 : cfun Tryz.prog 5 = some c5 := by kernel_rfl
def c28 : XFun := ⟨16, (.seq (.ops [⟨(some 6), (.assign (.const (.slice none 0 0))), none⟩]) (.seq (.ops [⟨(some 7), (.move (.tmp 0)), none⟩, ⟨(some 8), (.build [(.v (.int .u8 0)), (.v (.string (strB [])))] [(0, (1, (.const (.int .u8 83)))), (1, (1, (.tmp 7)))]), none⟩, ⟨(some 9), (.move (.tmp 0)), none⟩, ⟨(some 10), (.build [(.v (.int .u8 0)), (.v (.string (strB [])))] [(0, (1, (.const (.int .u8 86)))), (1, (1, (.tmp 9)))]), none⟩, ⟨(some 11), (.move (.tmp 1)), none⟩, ⟨(some 12), (.build [(.v (.int .u8 0)), (.v (.string (strB [])))] [(0, (1, (.const (.int .u8 67)))), (1, (1, (.tmp 11)))]), none⟩, ⟨(some 13), (.move (.tmp 2)), none⟩, ⟨(some 14), (.build [(.v (.int .u8 0)), (.v (.string (strB [])))] [(0, (1, (.const (.int .u8 77)))), (1, (1, (.tmp 13)))]), none⟩, ⟨(some 15), (.buildSlice 2 4 [(.v (.int .u8 0)), (.v (.string (strB [])))] [(0, (.tmp 8)), (1, (.tmp 10)), (2, (.tmp 12)), (3, (.tmp 14))]), none⟩, ⟨(some 6), (.assign (.tmp 15)), none⟩]) .ret)), [(.move (.tmp 6))]⟩
theorem k28 : cfun Tryz.prog 28 = some c28 := by kernel_rfl
def c22 : XFun := ⟨25, (.seq (.ops [⟨(some 4), (.assign (.const (.string (strB [])))), none⟩, ⟨(some 5), (.assign (.const (.bool false))), none⟩]) (.seq (.seq (.ops [⟨(some 6), (.assign (.const (.int .i64 0))), none⟩]) (.block 0 (.loop (.seq (.seq (.ops [⟨(some 7), (.move (.tmp 6)), none⟩, ⟨(some 8), (.move (.tmp 0)), none⟩, ⟨(some 9), (.lenL (.tmp 8)), none⟩, ⟨(some 10), (.bin .lss (.tmp 7) (.tmp 9)), none⟩]) (.cond (.tmp 10) .skip (.exit 0))) (.seq (.block 1 (.seq (.ops [⟨(some 13), (.move (.tmp 0)), none⟩, ⟨(some 14), (.move (.tmp 6)), none⟩, ⟨(some 15), (.iaddr 2 (.tmp 13) (.tmp 14)), none⟩, ⟨(some 16), (.faddr 0 (.tmp 15)), none⟩, ⟨(some 17), (.load1 (.tmp 16)), none⟩, ⟨(some 18), (.move (.tmp 1)), none⟩, ⟨(some 19), (.bin .eql (.tmp 17) (.tmp 18)), none⟩]) (.cond (.tmp 19) (.seq (.ops [⟨(some 20), (.move (.tmp 0)), none⟩, ⟨(some 21), (.move (.tmp 6)), none⟩, ⟨(some 22), (.iaddr 2 (.tmp 20) (.tmp 21)), none⟩, ⟨(some 23), (.faddr 1 (.tmp 22)), none⟩, ⟨(some 24), (.load1 (.tmp 23)), none⟩, ⟨(some 4), (.assign (.tmp 24)), none⟩, ⟨(some 5), (.assign (.const (.bool true))), none⟩]) .ret) .skip))) (.ops [⟨(some 11), (.move (.tmp 6)), none⟩, ⟨(some 12), (.bin .add (.tmp 11) (.const (.int .i64 1))), none⟩, ⟨(some 6), (.assign (.tmp 12)), none⟩])))))) (.seq (.ops [⟨(some 4), (.assign (.const (.string (strB [])))), none⟩, ⟨(some 5), (.assign (.const (.bool false))), none⟩]) .ret))), [(.move (.tmp 4)), (.move (.tmp 5))]⟩
theorem k22 : cfun Tryz.prog 22 = some c22 := by kernel_rfl
def c26 : XFun := ⟨31, (.seq (.ops [⟨(some 6), (.assign (.const (.slice none 0 0))), none⟩]) (.seq (.ops [⟨(some 9), (.move (.tmp 0)), none⟩, ⟨(some 10), (.appendN 2 24 (.tmp 9)), none⟩, ⟨(some 7), (.assign (.tmp 10)), none⟩]) (.seq (.seq (.ops [⟨(some 8), (.assign (.const (.int .i64 0))), none⟩]) (.block 0 (.loop (.seq (.seq (.ops [⟨(some 11), (.move (.tmp 8)), none⟩, ⟨(some 12), (.move (.tmp 7)), none⟩, ⟨(some 13), (.lenL (.tmp 12)), none⟩, ⟨(some 14), (.bin .lss (.tmp 11) (.tmp 13)), none⟩]) (.cond (.tmp 14) .skip (.exit 0))) (.seq (.block 1 (.seq (.ops [⟨(some 17), (.move (.tmp 7)), none⟩, ⟨(some 18), (.move (.tmp 8)), none⟩, ⟨(some 19), (.iaddr 2 (.tmp 17) (.tmp 18)), none⟩, ⟨(some 20), (.faddr 0 (.tmp 19)), none⟩, ⟨(some 21), (.load1 (.tmp 20)), none⟩, ⟨(some 22), (.move (.tmp 1)), none⟩, ⟨(some 23), (.bin .eql (.tmp 21) (.tmp 22)), none⟩]) (.cond (.tmp 23) (.seq (.ops [⟨(some 24), (.move (.tmp 7)), none⟩, ⟨(some 25), (.move (.tmp 8)), none⟩, ⟨(some 26), (.move (.tmp 2)), none⟩, ⟨(some 27), (.iaddr 2 (.tmp 24) (.tmp 25)), none⟩, ⟨(some 28), (.faddr 1 (.tmp 27)), none⟩, ⟨none, (.store 1 (.tmp 28) (.tmp 26)), none⟩]) (.seq (.ops [⟨(some 29), (.move (.tmp 7)), none⟩, ⟨(some 6), (.assign (.tmp 29)), none⟩]) .ret)) .skip))) (.ops [⟨(some 15), (.move (.tmp 8)), none⟩, ⟨(some 16), (.bin .add (.tmp 15) (.const (.int .i64 1))), none⟩, ⟨(some 8), (.assign (.tmp 16)), none⟩])))))) (.seq (.ops [⟨(some 30), (.move (.tmp 7)), none⟩, ⟨(some 6), (.assign (.tmp 30)), none⟩]) .ret)))), [(.move (.tmp 6))]⟩
theorem k26 : cfun Tryz.prog 26 = some c26 := by kernel_rfl
def c32 : XFun := ⟨9, (.seq (.ops [⟨(some 4), (.alloc [(.v (.int .u8 0)), (.v (.int .u8 0)), (.v (.string (strB []))), (.v (.string (strB []))), (.v (.string (strB []))), (.v (.int .i64 0)), (.v (.int .i64 0)), (.sl 0 [] (some true) .exact), (.sl 0 [] (some true) .exact), (.sl 0 [] (some true) .exact), (.sl 0 [] (some true) .exact)]), none⟩]) (.seq (.ops [⟨(some 5), (.move (.tmp 0)), none⟩, ⟨(some 6), (.move (.tmp 1)), none⟩, ⟨(some 7), (.call 28 [(.const (.string (strB [69, 82, 82, 79, 82]))), (.tmp 5), (.tmp 6)]), none⟩, ⟨(some 8), (.build [(.v (.int .u8 0)), (.v (.int .u8 0)), (.v (.string (strB []))), (.v (.string (strB []))), (.v (.string (strB []))), (.v (.int .i64 0)), (.v (.int .i64 0)), (.sl 0 [] (some true) .exact), (.sl 0 [] (some true) .exact), (.sl 0 [] (some true) .exact), (.sl 0 [] (some true) .exact)] [(0, (1, (.const (.int .u8 69)))), (10, (1, (.tmp 7)))]), none⟩, ⟨none, (.store 11 (.tmp 4) (.tmp 8)), none⟩]) .ret)), [(.loadN 11 (.tmp 4))]⟩
theorem k32 : cfun Tryz.prog 32 = some c32 := by kernel_rfl
def c30 : XFun := ⟨11, (.seq (.ops [⟨(some 4), (.assign (.const (.slice none 0 0))), none⟩]) (.seq (.ops [⟨(some 5), (.move (.tmp 0)), none⟩, ⟨(some 6), (.move (.tmp 1)), none⟩, ⟨(some 7), (.call 28 [(.const (.string (strB [70, 65, 84, 65, 76]))), (.tmp 5), (.tmp 6)]), none⟩, ⟨(some 8), (.build [(.v (.int .u8 0)), (.v (.int .u8 0)), (.v (.string (strB []))), (.v (.string (strB []))), (.v (.string (strB []))), (.v (.int .i64 0)), (.v (.int .i64 0)), (.sl 0 [] (some true) .exact), (.sl 0 [] (some true) .exact), (.sl 0 [] (some true) .exact), (.sl 0 [] (some true) .exact)] [(0, (1, (.const (.int .u8 69)))), (10, (1, (.tmp 7)))]), none⟩, ⟨(some 9), (.buildSlice 11 1 [(.v (.int .u8 0)), (.v (.int .u8 0)), (.v (.string (strB []))), (.v (.string (strB []))), (.v (.string (strB []))), (.v (.int .i64 0)), (.v (.int .i64 0)), (.sl 0 [] (some true) .exact), (.sl 0 [] (some true) .exact), (.sl 0 [] (some true) .exact), (.sl 0 [] (some true) .exact)] [(0, (.tmp 8))]), none⟩, ⟨(some 10), (.call 16 [(.tmp 9)]), none⟩, ⟨(some 4), (.assign (.tmp 10)), none⟩]) .ret)), [(.move (.tmp 4))]⟩
theorem k30 : cfun Tryz.prog 30 = some c30 := by kernel_rfl
def c31 : XFun := ⟨8, (.seq (.ops [⟨(some 4), (.alloc [(.v (.int .u8 0)), (.v (.int .u8 0)), (.v (.string (strB []))), (.v (.string (strB []))), (.v (.string (strB []))), (.v (.int .i64 0)), (.v (.int .i64 0)), (.sl 0 [] (some true) .exact), (.sl 0 [] (some true) .exact), (.sl 0 [] (some true) .exact), (.sl 0 [] (some true) .exact)]), none⟩]) (.seq (.ops [⟨(some 5), (.move (.tmp 0)), none⟩, ⟨(some 6), (.move (.tmp 1)), none⟩, ⟨(some 7), (.call 75 [(.const (.string (strB [69, 82, 82, 79, 82]))), (.tmp 5), (.tmp 6)]), none⟩, ⟨none, (.store 11 (.tmp 4) (.tmp 7)), none⟩]) .ret)), [(.loadN 11 (.tmp 4))]⟩
theorem k31 : cfun Tryz.prog 31 = some c31 := by kernel_rfl
end Go.Proofs.YthilellmckhejaaGreat.Ax
/- The document's answers for back, over values without memory: kinds, checks, what is the same. -/
namespace Go.Proofs.YthilellmckhejaaGreat.Ax
open Go.RowKit Go By Nm Sc Dg
set_option linter.unusedSimpArgs false
set_option linter.unusedVariables false
set_option maxRecDepth 10000

theorem rbkind_c (k : Int) (h : List (List AV)) : Contract Tryz.prog 52 [.v (.int .u8 k)] h (.v (.bool (kindB k))) h [] := by
  refine contract_of k52 mixed (by simp [c52]) fun hh hargs => ?_
  by_cases h82 : k = 82
  · subst h82; simp [c52, hh, kindB]
  by_cases h83 : k = 83
  · subst h83; simp [c52, hh, kindB]
  by_cases h75 : k = 75
  · subst h75; simp [c52, hh, kindB]
  by_cases h90 : k = 90
  · subst h90; simp [c52, hh, kindB]
  by_cases h49 : k = 49
  · subst h49; simp [c52, hh, kindB]
  by_cases h50 : k = 50
  · subst h50; simp [c52, hh, kindB]
  by_cases h51 : k = 51
  · subst h51; simp [c52, hh, kindB]
  by_cases h110 : k = 110
  · subst h110; simp [c52, hh, kindB]
  by_cases h115 : k = 115
  · subst h115; simp [c52, hh, kindB]
  by_cases h73 : k = 73
  · subst h73; simp [c52, hh, kindB]
  by_cases h67 : k = 67
  · subst h67; simp [c52, hh, kindB]
  by_cases h68 : k = 68
  · subst h68; simp [c52, hh, kindB]
  by_cases h84 : k = 84
  · subst h84; simp [c52, hh, kindB]
  by_cases h116 : k = 116
  · subst h116; simp [c52, hh, kindB]
  by_cases h69 : k = 69
  · subst h69; simp [c52, hh, kindB]
  by_cases h78 : k = 78
  · subst h78; simp [c52, hh, kindB]
  simp [c52, hh, kindB, h82, h83, h75, h90, h49, h50, h51, h110, h115, h73, h67, h68, h84, h116, h69, h78]
theorem rbin_c (n lo hi : Int) (h : List (List AV)) : Contract Tryz.prog 54 [.v (.int .i64 n), .v (.int .i64 lo), .v (.int .i64 hi)] h (.v (.bool (betB lo hi n))) h [] := by
  refine contract_of k54 mixed (by simp [c54]) fun hh hargs => ?_
  by_cases h1 : lo ≤ n
  · have h2 : ¬ n < lo := by omega
    by_cases h3 : n ≤ hi
    · have h4 : ¬ hi < n := by omega
      simp [c54, hh, betB, h1, h2, h3, h4]
    · have h4 : hi < n := by omega
      simp [c54, hh, betB, h1, h2, h3, h4]
  · have h2 : n < lo := by omega
    simp [c54, hh, betB, h1, h2]
theorem rbkept_c (m : Bk) (h : List (List AV)) : Contract Tryz.prog 59 [.agg (bkC m)] h (.agg (bkC (saidB m))) h [] := by
  refine contract_of k59 mixed (by simp [c59]) fun hh hargs => ?_
  by_cases h83 : m.kind = 83
  · simp [c59, bkC_mk, hh, saidB, h83]
  by_cases h75 : m.kind = 75
  · simp [c59, bkC_mk, hh, saidB, h75]
  by_cases h90 : m.kind = 90
  · simp [c59, bkC_mk, hh, saidB, h90]
  by_cases h67 : m.kind = 67
  · simp [c59, bkC_mk, hh, saidB, h67]
  by_cases h68 : m.kind = 68
  · simp [c59, bkC_mk, hh, saidB, h68]
  by_cases h84 : m.kind = 84
  · simp [c59, bkC_mk, hh, saidB, h84]
  by_cases h116 : m.kind = 116
  · simp [c59, bkC_mk, hh, saidB, h116]
  by_cases h69 : m.kind = 69
  · simp [c59, bkC_mk, hh, saidB, h69]
  by_cases h78 : m.kind = 78
  · simp [c59, bkC_mk, hh, saidB, h78]
  simp [c59, bkC_mk, hh, saidB, h83, h75, h90, h67, h68, h84, h116, h69, h78]

/-! ### Columns, fields -/
def rcolB (c : Co) : Bool := cleanB c.name && (betB 0 4294967295 c.table && (betB 0 65535 c.attr && (betB 0 4294967295 c.oid && (betB (-32768) 32767 c.size && (betB (-2147483648) 2147483647 c.mod && betB 0 65535 c.format)))))
theorem rbcols_c (l : List Co) (hn : ∀ c ∈ l, c.name.length ≤ 1000000) (h : List (List AV)) : Contract Tryz.prog 56 [.sl 7 (enc coC l) none .no] h (.v (.bool (decide (l.length ≤ 65535) && l.all rcolB))) h [] := by
  refine contract_of k56 mixed (by simp [c56]) fun hh hargs => ?_
  by_cases hl : (65535 : Int) < l.length
  · have hl' : ¬ l.length ≤ 65535 := by omega
    simp [c56, hl, hl', hh]
  · have hl' : l.length ≤ 65535 := by omega
    simp [c56, hl, hl']
    refine xloop_ok (D := Nat) (fun j => ⟨[(0, .sl 7 (enc coC l) none .no), (3, .v (.int .i64 j))], [], h, []⟩) (fun j => j ≤ l.length ∧ ∀ x ∈ l.take j, rcolB x = true) (fun j => l.length - j) 0 (by simp) ?_ ?_
    · simp [Leq, hh]
    · rintro j ⟨hj, hp⟩
      by_cases hlt : j < l.length
      · have hw : IntKind.i64.wrap ((j : Int) + 1) = (j : Int) + 1 := wrap64 (by omega) (by omega)
        have hnm : l[j].name.length ≤ maxLen := Nat.le_trans (hn _ (List.getElem_mem hlt)) (by unfold maxLen; omega)
        have no : rcolB l[j] = false → l.all rcolB = false := fun e => all_no (p := rcolB) hlt e
        have yes : rcolB l[j] = true → ∀ x ∈ l.take (j + 1), rcolB x = true := fun e => take_all hlt hp e
        simp [hlt]
        generalize l[j] = c at *
        refine xcall_self (by simp) (rclean_c _ hnm _) ?_
        cases p1 : cleanB c.name with
        | false => simp [hh, no (by simp [rcolB, p1])]
        | true =>
        simp
        refine xcall_self (by simp) (rbin_c _ _ _ _) ?_
        cases p2 : betB 0 4294967295 c.table with
        | false => simp [hh, no (by simp [rcolB, p1, p2])]
        | true =>
        simp
        refine xcall_self (by simp) (rbin_c _ _ _ _) ?_
        cases p3 : betB 0 65535 c.attr with
        | false => simp [hh, no (by simp [rcolB, p1, p2, p3])]
        | true =>
        simp
        refine xcall_self (by simp) (rbin_c _ _ _ _) ?_
        cases p4 : betB 0 4294967295 c.oid with
        | false => simp [hh, no (by simp [rcolB, p1, p2, p3, p4])]
        | true =>
        simp
        refine xcall_self (by simp) (rbin_c _ _ _ _) ?_
        cases p5 : betB (-32768) 32767 c.size with
        | false => simp [hh, no (by simp [rcolB, p1, p2, p3, p4, p5])]
        | true =>
        simp
        refine xcall_self (by simp) (rbin_c _ _ _ _) ?_
        cases p6 : betB (-2147483648) 2147483647 c.mod with
        | false => simp [hh, no (by simp [rcolB, p1, p2, p3, p4, p5, p6])]
        | true =>
        simp
        refine xcall_self (by simp) (rbin_c _ _ _ _) ?_
        cases p7 : betB 0 65535 c.format with
        | false => simp [hh, no (by simp [rcolB, p1, p2, p3, p4, p5, p6, p7])]
        | true =>
        simp [hw]
        refine ⟨j + 1, ⟨by omega, yes (by simp [rcolB, p1, p2, p3, p4, p5, p6, p7])⟩, by omega, ?_⟩
        simp [Leq, hh]
      · have : j = l.length := by omega
        subst this
        have e : l.all rcolB = true := by rw [List.take_length] at hp; exact List.all_eq_true.2 hp
        simp [hh, e]
theorem rbfields_c (l : List Fi) (hn : ∀ c ∈ l, c.text.length ≤ 1000000) (h : List (List AV)) : Contract Tryz.prog 57 [.sl 2 (enc fiC l) none .no] h (.v (.bool (decide (l.length ≤ 65535) && l.all fieldB))) h [] := by
  refine contract_of k57 mixed (by simp [c57]) fun hh hargs => ?_
  by_cases hl : (65535 : Int) < l.length
  · have hl' : ¬ l.length ≤ 65535 := by omega
    simp [c57, hl, hl', hh]
  · have hl' : l.length ≤ 65535 := by omega
    simp [c57, hl, hl']
    refine xloop_ok (D := Nat) (fun j => ⟨[(0, .sl 2 (enc fiC l) none .no), (3, .v (.int .i64 j))], [], h, []⟩) (fun j => j ≤ l.length ∧ ∀ x ∈ l.take j, fieldB x = true) (fun j => l.length - j) 0 (by simp) ?_ ?_
    · simp [Leq, hh]
    · rintro j ⟨hj, hp⟩
      by_cases hlt : j < l.length
      · have hw : IntKind.i64.wrap ((j : Int) + 1) = (j : Int) + 1 := wrap64 (by omega) (by omega)
        have hnm : l[j].text.length ≤ maxLen := Nat.le_trans (hn _ (List.getElem_mem hlt)) (by unfold maxLen; omega)
        have no : fieldB l[j] = false → l.all fieldB = false := fun e => all_no (p := fieldB) hlt e
        have yes : fieldB l[j] = true → ∀ x ∈ l.take (j + 1), fieldB x = true := fun e => take_all hlt hp e
        obtain ⟨cd, tx, hx⟩ : ∃ cd tx, l[j] = ⟨cd, tx⟩ := ⟨_, _, rfl⟩
        rw [hx] at hnm no yes
        cases p1 : cd == 0 with
        | true => simp [hlt, hx, fiC_mk, hh, p1, no (by simp [fieldB, p1])]
        | false =>
        simp [hlt, hx, fiC_mk, p1]
        refine xcall_self (by simp) (rclean_c _ hnm _) ?_
        cases p2 : cleanB tx with
        | false => simp [hh, no (by simp [fieldB, p1, p2])]
        | true =>
        simp [hw]
        refine ⟨j + 1, ⟨by omega, yes (by simp [fieldB, p1, p2])⟩, by omega, ?_⟩
        simp [Leq, hh]
      · have : j = l.length := by omega
        subst this
        have e : l.all fieldB = true := by rw [List.take_length] at hp; exact List.all_eq_true.2 hp
        simp [hh, e]
theorem eq_len {α : Type} [BEq α] [LawfulBEq α] {xs ys : List α} (h : xs.length ≠ ys.length) : (xs == ys) = false := by
  rw [← eqL_beq]; exact eqL_len h
theorem eq_all {α : Type} [BEq α] [LawfulBEq α] {xs ys : List α} (hl : xs.length = ys.length) (h : ∀ i (h1 : i < xs.length) (h2 : i < ys.length), (xs[i] == ys[i]) = true) : (xs == ys) = true := by
  rw [← eqL_beq]; exact (eqL_iff _ xs ys).2 ⟨hl, h⟩
theorem eq_one {α : Type} [BEq α] [LawfulBEq α] {xs ys : List α} {i : Nat} (h1 : i < xs.length) (h2 : i < ys.length) (h : (xs[i] == ys[i]) = false) : (xs == ys) = false := by
  rw [← eqL_beq]; exact eqL_no (i := i) h1 h2 h
theorem eq_upto {α : Type} [BEq α] {xs ys : List α} {j : Nat} (hp : ∀ i (h1 : i < xs.length) (h2 : i < ys.length), i < j → (xs[i] == ys[i]) = true) (hx : j < xs.length) (hy : j < ys.length) (h : (xs[j] == ys[j]) = true) : ∀ i (h1 : i < xs.length) (h2 : i < ys.length), i < j + 1 → (xs[i] == ys[i]) = true := fun i h1 h2 h3 => by
  rcases Nat.lt_or_ge i j with h4 | h4
  · exact hp i h1 h2 h4
  · have : i = j := by omega
    subst this; exact h
theorem eqCo (x y : Co) : eqCs [2, 1, 1, 1, 1, 1, 1] (coC x) (coC y) = some (sameCo x y) := by simp [coC, sameCo]
theorem eqFi (x y : Fi) : eqCs [1, 2] (fiC x) (fiC y) = some (sameFi x y) := by simp [fiC, sameFi]
theorem rbsame_c (a b : Bk) (ha : BkFit a) (h : List (List AV)) : Contract Tryz.prog 14 [.agg (bkC a), .agg (bkC b)] h (.v (.bool (sameB a b))) h [] := by
  obtain ⟨q1, q2, q3, q4, _⟩ := ha
  refine contract_of k14 mixed (by simp [c14]) fun hh hargs => ?_
  unfold sameB
  cases p0 : a.kind == b.kind with
  | false => simp [c14, hh, p0]
  | true =>
  cases p1 : a.status == b.status with
  | false => simp [c14, hh, p0, p1]
  | true =>
  cases p2 : a.tag == b.tag with
  | false => simp [c14, hh, p0, p1, p2]
  | true =>
  cases p3 : a.name == b.name with
  | false => simp [c14, hh, p0, p1, p2, p3]
  | true =>
  cases p4 : a.value == b.value with
  | false => simp [c14, hh, p0, p1, p2, p3, p4]
  | true =>
  cases p5 : a.n == b.n with
  | false => simp [c14, hh, p0, p1, p2, p3, p4, p5]
  | true =>
  cases p6 : a.m == b.m with
  | false => simp [c14, hh, p0, p1, p2, p3, p4, p5, p6]
  | true =>
  simp [c14, p0, p1, p2, p3, p4, p5, p6]
  refine xcall_self (by simp) (rints_c _ _ q1 _) ?_
  cases p7 : a.oids == b.oids with
  | false => simp [hh]
  | true =>
  simp
  refine xcall_self (by simp) (rcells_c _ _ q3 _) ?_
  cases p9 : a.row == b.row with
  | false => simp [hh]
  | true =>
  by_cases l1 : a.cols.length = b.cols.length
  · by_cases l2 : a.fields.length = b.fields.length
    · simp [l1, l2]
      refine xloop_ok (D := Nat) (fun j => ⟨[(2, .box h.length 0), (3, .box (h.length + 1) 0), (6, .v (.int .i64 j))], [], h ++ [bkC a, bkC b], []⟩) (fun j => j ≤ a.cols.length ∧ ∀ i (h1 : i < a.cols.length) (h2 : i < b.cols.length), i < j → (a.cols[i] == b.cols[i]) = true) (fun j => a.cols.length - j) 0 ⟨by omega, fun i h1 h2 h3 => by omega⟩ ?_ ?_
      · simp [Leq, hh]
      · rintro j ⟨hj, hp⟩
        by_cases hlt : j < b.cols.length
        · have hlt' : j < a.cols.length := by omega
          have hw : IntKind.i64.wrap ((j : Int) + 1) = (j : Int) + 1 := wrap64 (by omega) (by omega)
          have no : (a.cols[j] == b.cols[j]) = false → (a.cols == b.cols) = false := fun e => eq_one hlt' hlt e
          have yes := eq_upto hp hlt' hlt
          simp [hlt, hlt', eqCo]
          rw [← sameCo_eq] at no yes
          refine xwp_cond_of (!(sameCo a.cols[j] b.cols[j])) (by simp) (fun ht => ?_) (fun hf' => ?_)
          · simp at ht
            simp [hh, no ht]
          · simp at hf'
            simp [hw]
            refine ⟨j + 1, ⟨by omega, fun i h1 h2 h3 => by simpa using yes hf' i h1 h2 h3⟩, by omega, ?_⟩
            simp [Leq, hh]
        · have ec : (a.cols == b.cols) = true := eq_all l1 fun i h1 h2 => hp i h1 h2 (by omega)
          have hlt' : ¬ j < a.cols.length := by omega
          simp [hlt, hlt', ec]
          refine xloop_ok (D := Nat) (fun j => ⟨[(2, .box h.length 0), (3, .box (h.length + 1) 0), (7, .v (.int .i64 j))], [], h ++ [bkC a, bkC b], []⟩) (fun j => j ≤ a.fields.length ∧ ∀ i (h1 : i < a.fields.length) (h2 : i < b.fields.length), i < j → (a.fields[i] == b.fields[i]) = true) (fun j => a.fields.length - j) 0 ⟨by omega, fun i h1 h2 h3 => by omega⟩ ?_ ?_
          · simp [Leq, hh]
          · rintro j ⟨hj, hp⟩
            by_cases hlt : j < b.fields.length
            · have hlt' : j < a.fields.length := by omega
              have hw : IntKind.i64.wrap ((j : Int) + 1) = (j : Int) + 1 := wrap64 (by omega) (by omega)
              have no : (a.fields[j] == b.fields[j]) = false → (a.fields == b.fields) = false := fun e => eq_one hlt' hlt e
              have yes := eq_upto hp hlt' hlt
              simp [hlt, hlt', eqFi]
              rw [← sameFi_eq] at no yes
              refine xwp_cond_of (!(sameFi a.fields[j] b.fields[j])) (by simp) (fun ht => ?_) (fun hf' => ?_)
              · simp at ht
                simp [hh, no ht]
              · simp at hf'
                simp [hw]
                refine ⟨j + 1, ⟨by omega, fun i h1 h2 h3 => by simpa using yes hf' i h1 h2 h3⟩, by omega, ?_⟩
                simp [Leq, hh]
            · have ef : (a.fields == b.fields) = true := eq_all l2 fun i h1 h2 => hp i h1 h2 (by omega)
              have hlt' : ¬ j < a.fields.length := by omega
              simp [hlt, hlt', hh, ef]
    · have hne : ((a.fields.length : Int) != b.fields.length) = true := by simp; omega
      have hx := eq_len l2
      simp [l1, hne, hh, hx]
  · have hne : ((a.cols.length : Int) != b.cols.length) = true := by simp; omega
    have hx := eq_len l1
    simp [hne, hh, hx]

/-! ### Checks -/
def rbnums (m : Bk) : Bool := betB 0 4294967295 m.n && (betB 0 4294967295 m.m && (decide (m.oids.length ≤ 65535) && m.oids.all (betB 0 4294967295)))
def rcheckB (m : Bk) : Int :=
  if kindB m.kind = false then 9
  else if bcleanB m && (rbnums m && (rstatB m && ((decide (m.cols.length ≤ 65535) && m.cols.all rcolB) && ((decide (m.fields.length ≤ 65535) && m.fields.all fieldB) && ((decide (m.row.length ≤ 65535) && m.row.all cellB) && sameB m (saidB m)))))) then 0 else 1
/-- Its texts are no longer than these. -/
def BkShort (m : Bk) : Prop := (m.tag.length ≤ 1000000 ∧ m.name.length ≤ 1000000 ∧ m.value.length ≤ 1000000) ∧ (∀ c ∈ m.cols, c.name.length ≤ 1000000) ∧ ∀ c ∈ m.fields, c.text.length ≤ 1000000
theorem rbcheck_c (m : Bk) (hf : BkFit m) (hs : BkShort m) (h : List (List AV)) : Contract Tryz.prog 12 [.agg (bkC m)] h (.v (.int .i64 (rcheckB m))) h [] := by
  obtain ⟨⟨s1, s2, s3⟩, s4, s5⟩ := hs
  have big : 1000000 ≤ maxLen := by unfold maxLen; omega
  refine contract_cut (XCode.cuts [false, false, true, true, true] c12.code) k12 rfl mixed (by simp [c12]) fun hh hargs => ?_
  simp [c12]
  refine xcall_self (by simp) (rbkind_c _ _) ?_
  cases hk : kindB m.kind with
  | false => simp [hh, rcheckB, hk]
  | true =>
  have e : rcheckB m = if bcleanB m && (rbnums m && (rstatB m && ((decide (m.cols.length ≤ 65535) && m.cols.all rcolB) && ((decide (m.fields.length ≤ 65535) && m.fields.all fieldB) && ((decide (m.row.length ≤ 65535) && m.row.all cellB) && sameB m (saidB m)))))) then 0 else 1 := by unfold rcheckB; rw [hk]; rfl
  rw [e]
  simp
  refine xseq_cut ⟨[(1, .box h.length 0), (2, .v (.int .i64 0)), (3, .v (.bool (bcleanB m)))], [], h ++ [bkC m], []⟩ ?_ ?_
  · unfold bcleanB
    simp
    refine xcall_self (by simp) (rclean_c _ (Nat.le_trans s1 big) _) ?_
    cases p1 : cleanB m.tag with
    | false => simp [Leq, hh]
    | true =>
    simp
    refine xcall_self (by simp) (rclean_c _ (Nat.le_trans s2 big) _) ?_
    cases p2 : cleanB m.name with
    | false => simp [Leq, hh]
    | true =>
    simp
    refine xcall_self (by simp) (rclean_c _ (Nat.le_trans s3 big) _) ?_
    simp [Leq, hh]
  refine xseq_cut ⟨[(1, .box h.length 0), (2, .v (.int .i64 0)), (3, .v (.bool (bcleanB m))), (4, .v (.bool (rbnums m)))], [], h ++ [bkC m], []⟩ ?_ ?_
  · unfold rbnums
    simp
    refine xcall_self (by simp) (rbin_c _ _ _ _) ?_
    cases p1 : betB 0 4294967295 m.n with
    | false => simp [Leq, hh]
    | true =>
    simp
    refine xcall_self (by simp) (rbin_c _ _ _ _) ?_
    cases p2 : betB 0 4294967295 m.m with
    | false => simp [Leq, hh]
    | true =>
    simp
    refine xcall_self (by simp) (rbetween_c _ _ _ _) ?_
    simp [Leq, hh]
  refine xseq_cut ⟨[(1, .box h.length 0), (2, .v (.int .i64 0)), (3, .v (.bool (bcleanB m))), (4, .v (.bool (rbnums m))), (5, .v (.bool (rstatB m)))], [], h ++ [bkC m], []⟩ ?_ ?_
  · unfold rstatB statB
    cases h1 : m.kind == 90 with
    | false =>
      have e1 : (m.kind != 90) = true := by simp [bne, h1]
      simp [Leq, hh, e1]
    | true =>
      have e1 : (m.kind != 90) = false := by simp [bne, h1]
      cases h2 : m.status == 73 with
      | true => simp [Leq, hh, e1, h2]
      | false => cases h3 : m.status == 84 <;> simp [Leq, hh, e1, h2, h3]
  cases p1 : bcleanB m with
  | false => simp [hh]
  | true =>
  cases p2 : rbnums m with
  | false => simp [hh]
  | true =>
  cases p3 : rstatB m with
  | false => simp [hh]
  | true =>
  simp
  refine xcall_self (by simp) (rbcols_c _ s4 _) ?_
  cases p4 : (decide (m.cols.length ≤ 65535) && m.cols.all rcolB) with
  | false => simp [hh]
  | true =>
  simp
  refine xcall_self (by simp) (rbfields_c _ s5 _) ?_
  cases p5 : (decide (m.fields.length ≤ 65535) && m.fields.all fieldB) with
  | false => simp [hh]
  | true =>
  simp
  refine xcall_self (by simp) (rvalues_c _ _) ?_
  cases p6 : (decide (m.row.length ≤ 65535) && m.row.all cellB) with
  | false => simp [hh]
  | true =>
  simp
  refine xcall_self (by simp) (rbkept_c m _) ?_
  simp
  refine xcall_self (by simp) (rbsame_c m (saidB m) hf _) ?_
  cases p7 : sameB m (saidB m) <;> simp [hh]
end Go.Proofs.YthilellmckhejaaGreat.Ax
/- Back: what both sides check is one; what the document reads. -/
namespace Go.Proofs.YthilellmckhejaaGreat.Ax
open Go.RowKit Go By Nm Sc Dg
open He (textL)
set_option linter.unusedSimpArgs false
set_option linter.unusedVariables false
set_option maxRecDepth 10000

theorem sgn2 (n : Int) : sgnB 2 n = betB (-32768) 32767 n := by
  have e : sgnB 2 n = true ↔ (-32768 ≤ n ∧ n < 65536) ∧ signedI n 2 = n := by
    simp only [sgnB, Bool.and_eq_true, right2, beq_iff_eq]
  have e2 : betB (-32768) 32767 n = true ↔ ¬ n < -32768 ∧ ¬ 32767 < n := by
    simp only [betB, Bool.and_eq_true, Bool.not_eq_true', decide_eq_false_iff_not]
  rw [Bool.eq_iff_iff, e, e2, signed2]
  by_cases h : 32768 ≤ n ∧ n < 65536
  · rw [if_pos h]; omega
  · rw [if_neg h]; omega
theorem col_eq : colB = rcolB := by
  funext c
  unfold colB rcolB
  rw [uns4, uns2, sgn2, sgn4, Bool.eq_iff_iff]
  simp only [Bool.and_eq_true]
  constructor
  · rintro ⟨a, ⟨b, c⟩, ⟨d, e⟩, f, g⟩; exact ⟨a, b, d, c, f, g, e⟩
  · rintro ⟨a, b, d, c, f, g, e⟩; exact ⟨a, ⟨b, c⟩, ⟨d, e⟩, f, g⟩
theorem check_eqB (m : Bk) : checkB m = rcheckB m := by
  unfold checkB rcheckB
  cases hk : kindB m.kind with
  | false => rfl
  | true =>
    simp only [Bool.true_eq_false, if_false]
    congr 1
    rw [eq_iff_iff]
    unfold blistsB fewB bnumB rbnums
    rw [col_eq, uns4]
    simp only [Bool.and_eq_true, decide_eq_true_eq]
    constructor
    · rintro ⟨a, ⟨⟨l1, l2, l3, l4⟩, b, c, d, e⟩, f, ⟨g, i⟩, s⟩
      exact ⟨f, ⟨g, i, by omega, b⟩, a, ⟨by omega, d⟩, ⟨by omega, e⟩, ⟨by omega, c⟩, s⟩
    · rintro ⟨f, ⟨g, i, l1, b⟩, a, ⟨l2, d⟩, ⟨l4, e⟩, ⟨l3, c⟩, s⟩
      exact ⟨a, ⟨⟨by omega, by omega, by omega, by omega⟩, b, c, d, e⟩, f, ⟨g, i⟩, s⟩
def rencB (m : Bk) : Ms × Int := if rcheckB m = 0 then (⟨m.kind, bodyB m⟩, 0) else (⟨0, []⟩, rcheckB m)
theorem enc_eqB (m : Bk) : encB m = rencB m := by unfold encB rencB; rw [check_eqB]

/-! ### What the document reads -/
def rcolQ (r : Rs) : Rs := rstep (numS · 2) (rstep (numS · 4) (rstep (numS · 2) (rstep (numS · 4) (rstep (numS · 2) (rstep (numS · 4) (rstep textS r))))))
theorem rcol_abs (r : Rs) : rabs (rcolQ r) = colS (rabs r) := by
  unfold rcolQ
  rw [rabs_step, rabs_step, rabs_step, rabs_step, rabs_step, rabs_step, rabs_step]
  rfl
theorem rcol_bad {r : Rs} (h : rabs r = none) : rcolQ r = r := by
  unfold rcolQ
  rw [rstep_bad (f := textS) rfl h]
  rw [rstep_bad (f := (numS · 4)) rfl h]
  rw [rstep_bad (f := (numS · 2)) rfl h]
  rw [rstep_bad (f := (numS · 4)) rfl h]
  rw [rstep_bad (f := (numS · 2)) rfl h]
  rw [rstep_bad (f := (numS · 4)) rfl h]
  rw [rstep_bad (f := (numS · 2)) rfl h]
/-- Fields, up to a byte 0. -/
def rfldN : Nat → Rs → Rs
  | 0, r => rstep (numS · 1) r
  | k + 1, r => if numV (rabs r) 1 = 0 then rstep (numS · 1) r else rfldN k (rstep textS (rstep (numS · 1) r))
theorem rfldN_abs : ∀ (k : Nat) (r : Rs), rabs (rfldN k r) = (fldR k (rabs r)).2
  | 0, r => by rw [rfldN, rabs_step]; rfl
  | k + 1, r => by
    rw [rfldN, fldR]
    split
    · rw [rabs_step]
    · rw [rfldN_abs k, rabs_step, rabs_step]
def rfldQ (r : Rs) : Rs := rfldN (He.lenS (rabs r) + 1) r
theorem rfld_abs (r : Rs) : rabs (rfldQ r) = fldS (rabs r) := rfldN_abs _ r
theorem rfldN_bad (k : Nat) {r : Rs} (h : rabs r = none) : rfldN k r = r := by
  cases k with
  | zero => rw [rfldN, rstep_bad rfl h]
  | succ k =>
    have : numV (rabs r) 1 = 0 := by rw [h]; rfl
    rw [rfldN, if_pos this, rstep_bad rfl h]
/-- A message that is read, and where the scan stands then. -/
def rreadB (k : Int) (r : Rs) : Bk :=
  if k = 84 then ⟨84, 0, [], [], [], 0, 0, [], listU colV colS (rabs r), [], []⟩
  else if k = 68 then ⟨68, 0, [], [], [], 0, 0, [], [], listU cellV cellS (rabs r), []⟩
  else if k = 116 then ⟨116, 0, [], [], [], 0, 0, numbersU 4 (rabs r), [], [], []⟩
  else (readB k (rabs r)).1
def rreadBQ (k : Int) (r : Rs) : Rs :=
  if k = 82 then (if numV (rabs r) 4 = 0 then rstep (numS · 4) r else ((rstep (numS · 4) r).1, true))
  else if k = 83 then rstep textS (rstep textS r)
  else if k = 75 then rstep (numS · 4) (rstep (numS · 4) r)
  else if k = 90 then rstep (numS · 1) r
  else if k = 67 then rstep textS r
  else if k = 68 then rcellsQ r
  else if k = 84 then listRs rcolQ r
  else if k = 116 then rnumbersQ 4 r
  else if k = 69 ∨ k = 78 then rfldQ r
  else r
theorem rreadB_abs (k : Int) (r : Rs) (h : ¬ (k = 82 ∧ numV (rabs r) 4 ≠ 0)) : rabs (rreadBQ k r) = readBS k (rabs r) := by
  unfold rreadBQ readBS
  by_cases h82 : k = 82
  · rw [if_pos h82, if_pos h82]
    rw [if_pos (Decidable.byContradiction fun h2 => h ⟨h82, h2⟩), rabs_step]
  rw [if_neg h82, if_neg h82]
  repeat' split
  all_goals simp only [rnumbers_abs, rcells_abs, rabs_step, listRs_abs colV rcol_abs, rfld_abs]
def rdecB (m : Ms) : Bk × Int :=
  if kindB m.type = false then (noBk, 9)
  else if doneB (rabs (rreadBQ m.type (m.body, false))) && rcheckB (rreadB m.type (m.body, false)) == 0 then (rreadB m.type (m.body, false), 0) else (noBk, 4)
theorem rreadB_eq {k : Int} {xs : List UInt8} (h : readBS k (some xs) = some []) : rreadB k (xs, false) = (readB k (some xs)).1 := by
  unfold rreadB
  unfold readBS at h
  rw [rabs_false]
  by_cases h84 : k = 84
  · subst h84
    have e : listU colV colS (some xs) = listV colV colS (some xs) := listU_eq colV colS colS_none _ (by
      have : listS colV colS (some xs) = some [] := h
      rw [this]; simp)
    rw [if_pos rfl, e]; rfl
  rw [if_neg h84]
  by_cases h68 : k = 68
  · subst h68
    have e : listU cellV cellS (some xs) = listV cellV cellS (some xs) := listU_eq cellV cellS cellS_none _ (by
      have : listS cellV cellS (some xs) = some [] := h
      rw [this]; simp)
    rw [if_pos rfl, e]; rfl
  rw [if_neg h68]
  by_cases h116 : k = 116
  · subst h116
    have e : numbersU 4 (some xs) = numbersV 4 (some xs) := listU_eq (numV · 4) (numS · 4) rfl _ (fun hh => by
      have h3 : numbersS 4 (some xs) = some [] := h
      have h4 : numbersS 4 (some xs) = none := hh
      rw [h3] at h4; cases h4)
    rw [if_pos rfl, e]; rfl
  rw [if_neg h116]
theorem readB_stat {st : Sta} : (readB 90 st).1.status = numV st 1 ∧ (readB 90 st).2 = statB (numV st 1) := ⟨rfl, rfl⟩
theorem readB_true {k : Int} (st : Sta) (h1 : k ≠ 82) (h2 : k ≠ 90) : (readB k st).2 = true := by
  unfold readB
  rw [if_neg h1]
  by_cases h83 : k = 83
  · rw [if_pos h83]
  rw [if_neg h83]
  by_cases h75 : k = 75
  · rw [if_pos h75]
  rw [if_neg h75, if_neg h2]
  repeat' split
  all_goals rfl
theorem dec_eqB {m : Ms} (hx : m.body.length ≤ 2000) : decB m = rdecB m := by
  unfold decB rdecB
  cases hk : kindB m.type with
  | false => rfl
  | true =>
    simp only [Bool.true_eq_false, if_false]
    by_cases h82 : m.type = 82 ∧ numV (some m.body) 4 ≠ 0
    · obtain ⟨h1, h2⟩ := h82
      have e1 : (readB m.type (some m.body)).2 = false := by rw [h1]; simpa [readB] using h2
      have e2 : doneB (rabs (rreadBQ m.type (m.body, false))) = false := by
        unfold rreadBQ
        rw [if_pos h1, rabs_false, if_neg h2, rabs_true]; rfl
      rw [e1, e2]; rfl
    · have e1 := rreadB_abs m.type (m.body, false) (by rw [rabs_false]; exact h82)
      rw [e1, rabs_false]
      cases hd : doneB (readBS m.type (some m.body)) with
      | false => rw [Bool.and_false]; rfl
      | true =>
        have hs := done_nil hd
        rw [rreadB_eq hs, ← check_eqB]
        cases hw : (readB m.type (some m.body)).2 with
        | true =>
          obtain ⟨_, h2, _⟩ := read_backB hk (by omega) hs hw
          rw [h2]; rfl
        | false =>
          have h90 : m.type = 90 := Decidable.byContradiction fun h90 => by
            by_cases h1 : m.type = 82
            · have h3 : numV (some m.body) 4 = 0 := Decidable.byContradiction fun h3 => h82 ⟨h1, h3⟩
              rw [h1] at hw
              have : (readB 82 (some m.body)).2 = (numV (some m.body) 4 == 0) := rfl
              rw [this, h3] at hw; cases hw
            · rw [readB_true _ h1 h90] at hw; cases hw
          have : checkB (readB m.type (some m.body)).1 ≠ 0 := fun hc => by
            obtain ⟨_, hst, _⟩ := check_okB hc
            rw [h90] at hst hw
            have a1 : rstatB (readB 90 (some m.body)).1 = statB (numV (some m.body) 1) := rfl
            have a2 : (readB 90 (some m.body)).2 = statB (numV (some m.body) 1) := rfl
            rw [a1, ← a2, hw] at hst; cases hst
          have e : (checkB (readB m.type (some m.body)).1 == 0) = false := by simpa using this
          rw [e]; rfl
end Go.Proofs.YthilellmckhejaaGreat.Ax
/- The document's messages of back as bytes, over values without memory. -/
namespace Go.Proofs.YthilellmckhejaaGreat.Ax
open Go.RowKit Go By Nm Sc Dg
open He (textL)
set_option linter.unusedSimpArgs false
set_option linter.unusedVariables false
set_option maxRecDepth 10000

theorem put_app (xs : List UInt8) (n size : Int) : putL xs n size = xs ++ numE size n := putL_eq xs n size
theorem colE_eq (c : Co) : colE c = He.encT c.name ++ numE 4 c.table ++ numE 2 c.attr ++ numE 4 c.oid ++ numE 2 c.size ++ numE 4 c.mod ++ numE 2 c.format := by
  simp [colE, textsL]
theorem rbdescribed_c (l : List Co) (hl : (listL colE l).length ≤ 140737488351232) (hn : l.length ≤ 140737488355328) (h : List (List AV)) :
    Contract Tryz.prog 43 [.sl 7 (enc coC l) none .no] h (.sl 1 (bytesE (listL colE l)) none (.own .res)) h [] := by
  refine contract_of k43 mixed (by simp [c43]) fun hh hargs => ?_
  simp [c43]
  refine xcall_of (rput_c [] l.length 2 (by simp) h) (by simp) (by simp) ?_
  simp
  have e0 : putL [] l.length 2 = putL [] l.length 2 ++ (l.take 0).flatMap colE := by simp
  rw [e0]
  refine xloop_ok (D := Nat) (fun j => ⟨[(0, .sl 7 (enc coC l) none .no), (4, .v (.int .i64 j))], [(3, .sl 1 (bytesE (putL [] l.length 2 ++ (l.take j).flatMap colE)) none (.own (.slot 3)))], h, []⟩) (fun j => j ≤ l.length) (fun j => l.length - j) 0 (by simp) ?_ ?_
  · simp [Leq, hh]
  · intro j hj
    by_cases hlt : j < l.length
    · have hw : IntKind.i64.wrap ((j : Int) + 1) = (j : Int) + 1 := wrap64 (by omega) (by omega)
      obtain ⟨hx, hb⟩ := flat_step colE l (putL [] l.length 2).length j hlt 140737488351232 (by simpa [listL] using hl)
      have hc : colE l[j] = _ := colE_eq l[j]
      rw [hc] at hx hb
      simp only [List.length_append] at hb
      have hs := encT_len l[j].name
      simp [hlt, -List.append_assoc, -bytesE_append]
      generalize l[j] = c at *
      generalize hB : putL [] l.length 2 ++ (l.take j).flatMap colE = B at *
      have hBl : B.length = (putL [] l.length 2).length + ((l.take j).flatMap colE).length := by rw [← hB, List.length_append]
      refine xcall_of (rstr_c B c.name (by omega) _) (by simp) (by simp) ?_
      simp [-List.append_assoc, -bytesE_append]
      refine xcall_of (rput_c (B ++ He.encT c.name) c.table 4 (by simp only [List.length_append]; omega) _) (by simp) (by simp) ?_
      rw [put_app]
      simp [-List.append_assoc, -bytesE_append]
      refine xcall_of (rput_c (B ++ He.encT c.name ++ numE 4 c.table) c.attr 2 (by simp only [List.length_append]; omega) _) (by simp) (by simp) ?_
      rw [put_app]
      simp [-List.append_assoc, -bytesE_append]
      refine xcall_of (rput_c (B ++ He.encT c.name ++ numE 4 c.table ++ numE 2 c.attr) c.oid 4 (by simp only [List.length_append]; omega) _) (by simp) (by simp) ?_
      rw [put_app]
      simp [-List.append_assoc, -bytesE_append]
      refine xcall_of (rput_c (B ++ He.encT c.name ++ numE 4 c.table ++ numE 2 c.attr ++ numE 4 c.oid) c.size 2 (by simp only [List.length_append]; omega) _) (by simp) (by simp) ?_
      rw [put_app]
      simp [-List.append_assoc, -bytesE_append]
      refine xcall_of (rput_c (B ++ He.encT c.name ++ numE 4 c.table ++ numE 2 c.attr ++ numE 4 c.oid ++ numE 2 c.size) c.mod 4 (by simp only [List.length_append]; omega) _) (by simp) (by simp) ?_
      rw [put_app]
      simp [-List.append_assoc, -bytesE_append]
      refine xcall_of (rput_c (B ++ He.encT c.name ++ numE 4 c.table ++ numE 2 c.attr ++ numE 4 c.oid ++ numE 2 c.size ++ numE 4 c.mod) c.format 2 (by simp only [List.length_append]; omega) _) (by simp) (by simp) ?_
      rw [put_app]
      simp [hw, -List.append_assoc, -bytesE_append]
      refine ⟨j + 1, by omega, by omega, ?_⟩
      have e : putL [] l.length 2 ++ (l.take (j + 1)).flatMap colE = B ++ He.encT c.name ++ numE 4 c.table ++ numE 2 c.attr ++ numE 4 c.oid ++ numE 2 c.size ++ numE 4 c.mod ++ numE 2 c.format := by
        rw [hx, ← hB]; simp only [List.append_assoc]
      rw [e]
      simp [Leq, hh, -List.append_assoc, -bytesE_append]
    · have : j = l.length := by omega
      subst this
      simp [hh, listL]
theorem rbtold_c (l : List Fi) (hl : (fieldsE l).length ≤ 140737488351232) (hn : l.length ≤ 140737488355328) (hc : ∀ f ∈ l, 0 ≤ f.code ∧ f.code < 256) (h : List (List AV)) : Contract Tryz.prog 45 [.sl 2 (enc fiC l) none .no] h (.sl 1 (bytesE (fieldsE l)) none (.own .res)) h [] := by
  refine contract_of k45 mixed (by simp [c45]) fun hh hargs => ?_
  unfold fieldsE at hl
  rw [List.length_append, List.length_singleton] at hl
  simp [c45]
  refine xloop_ok (D := Nat) (fun j => ⟨[(0, .sl 2 (enc fiC l) none .no), (4, .v (.int .i64 j))], [(3, .sl 1 (bytesE ((l.take j).flatMap fieldE)) none (.own (.slot 3)))], h, []⟩) (fun j => j ≤ l.length) (fun j => l.length - j) 0 (by simp) ?_ ?_
  · simp [Leq, hh]
  · intro j hj
    by_cases hlt : j < l.length
    · have hw : IntKind.i64.wrap ((j : Int) + 1) = (j : Int) + 1 := wrap64 (by omega) (by omega)
      obtain ⟨hx, hb⟩ := flat_step fieldE l 1 j hlt 140737488351232 (by omega)
      have hc1 := hc l[j] (List.getElem_mem _)
      have hc3 : max l[j].code 0 % 256 = l[j].code := by omega
      obtain ⟨cd, tx, hlj⟩ : ∃ cd tx, l[j] = ⟨cd, tx⟩ := ⟨_, _, rfl⟩
      rw [hlj] at hx hb hc1 hc3
      have hfe : fieldE ⟨cd, tx⟩ = [UInt8.ofNat cd.toNat] ++ He.encT tx := by simp [fieldE, textsL]
      rw [hfe] at hx hb
      rw [List.length_append, List.length_singleton, encT_len] at hb
      replace hc3 : max cd 0 % 256 = cd := hc3
      generalize hB : (l.take j).flatMap fieldE = B at *
      simp [hlt, hlj, fiC_mk, -List.append_assoc]
      refine ⟨by omega, ?_⟩
      refine xcall_of (rstr_c (B ++ [UInt8.ofNat cd.toNat]) tx (by simp only [List.length_append, List.length_singleton]; omega) _) (by simp [hc3]) (by simp) ?_
      simp [hw, -List.append_assoc]
      refine ⟨j + 1, by omega, by omega, ?_⟩
      have e : bytesE ((l.take (j + 1)).flatMap fieldE) = bytesE (B ++ [UInt8.ofNat cd.toNat]) ++ bytesE (He.encT tx) := by rw [hx, ← bytesE_append, List.append_assoc]
      rw [e]
      simp [Leq, hh, hc3, -List.append_assoc]
    · have : j = l.length := by omega
      subst this
      simp [hh, fieldsE, -List.length_flatMap]
      omega
set_option maxHeartbeats 4000000 in
theorem rbencode_c (m : Bk) (hf : BkFit m) (hs : BkShort m) (ho : BkOk m) (hb : (bodyB m).length ≤ 140737488351232) (h : List (List AV)) : Contract Tryz.prog 9 [.agg (bkC m)] h (.tup [.agg (msC (rencB m).1), .v (.int .i64 (rencB m).2)]) h [] := by
  have hf0 := hf
  obtain ⟨q1, q2, q3, q4, q5⟩ := hf
  obtain ⟨o1, o2, o3, o4⟩ := ho
  refine contract_of k9 mixed (by simp [c9]) fun hh hargs => ?_
  simp [c9]
  refine xcall_self (by simp) (rbcheck_c m hf0 hs _) ?_
  by_cases he : rcheckB m = 0
  · have e0 : rencB m = (⟨m.kind, bodyB m⟩, 0) := if_pos he
    rw [e0]
    unfold bodyB at hb ⊢
    by_cases h82 : m.kind = 82
    · simp [he, h82]
      refine xcall_of (rput_c [] 0 4 (by simp) _) (by simp) (by simp) ?_
      simp [hh, msC_mk, h82, numE]
    rw [if_neg h82] at hb ⊢
    by_cases h83 : m.kind = 83
    · rw [if_pos h83] at hb
      have e : textsL [m.name, m.value] = He.encT m.name ++ He.encT m.value := by simp [textsL]
      rw [e, List.length_append, encT_len, encT_len] at hb
      simp [he, h83, -List.append_assoc]
      refine xcall_of (rstr_c [] m.name (by simp; omega) _) (by simp) (by simp) ?_
      simp
      refine xcall_of (rstr_c (He.encT m.name) m.value (by rw [encT_len]; omega) _) (by simp) (by simp) ?_
      simp [hh, msC_mk, h83, e]
    rw [if_neg h83] at hb ⊢
    by_cases h75 : m.kind = 75
    · have l1 := numE_len 4 m.n (by omega)
      simp [he, h75, -List.append_assoc]
      refine xcall_of (rput_c [] m.n 4 (by simp) _) (by simp) (by simp) ?_
      simp
      refine xcall_of (rput_c (numE 4 m.n) m.m 4 (by omega) _) (by simp [numE]) (by simp) ?_
      simp [hh, msC_mk, h75, put_app (numE 4 m.n) m.m 4]
    rw [if_neg h75] at hb ⊢
    by_cases h90 : m.kind = 90
    · have hw : max m.status 0 % 256 = m.status := by omega
      simp [he, h90, hh, hw, msC_mk]
    rw [if_neg h90] at hb ⊢
    by_cases h67 : m.kind = 67
    · rw [if_pos h67] at hb
      have e : textsL [m.tag] = He.encT m.tag := by simp [textsL]
      rw [e, encT_len] at hb
      simp [he, h67]
      refine xcall_of (rstr_c [] m.tag (by simp; omega) _) (by simp) (by simp) ?_
      simp [hh, msC_mk, h67, e]
    rw [if_neg h67] at hb ⊢
    by_cases h68 : m.kind = 68
    · rw [if_pos h68] at hb
      simp [he, h68]
      refine xcall_of (rputc_c [] m.row (by simpa using hb) q3 _) (by simp) (by simp) ?_
      simp [hh, msC_mk, h68]
    rw [if_neg h68] at hb ⊢
    by_cases h84 : m.kind = 84
    · rw [if_pos h84] at hb
      simp [he, h84]
      refine xcall_self (by simp) (rbdescribed_c m.cols hb q2 _) ?_
      simp [hh, msC_mk, h84]
    rw [if_neg h84] at hb ⊢
    by_cases h116 : m.kind = 116
    · rw [if_pos h116] at hb
      simp [he, h116]
      refine xcall_of (rlist_c [] m.oids 4 (by simpa using hb) q1 _) (by simp) (by simp) ?_
      simp [hh, msC_mk, h116]
    rw [if_neg h116] at hb ⊢
    by_cases h69 : m.kind = 69 ∨ m.kind = 78
    · rw [if_pos h69] at hb
      rcases h69 with h69 | h69
      all_goals
        simp [he, h69]
        refine xcall_self (by simp) (rbtold_c m.fields hb q4 o4 _) ?_
        simp [hh, msC_mk, h69]
    have h69' : ¬ m.kind = 69 := fun h => h69 (.inl h)
    have h78' : ¬ m.kind = 78 := fun h => h69 (.inr h)
    rw [if_neg h69]
    simp [he, h82, h83, h75, h90, h67, h68, h84, h116, h69', h78', hh, msC_mk]
  · simp [he, hh, rencB, msC_mk]

end Go.Proofs.YthilellmckhejaaGreat.Ax
/- The document's messages of back: their bytes, one behind the other. -/
namespace Go.Proofs.YthilellmckhejaaGreat.Ax
open Go.RowKit Go By Nm Sc Dg
open He (textL)
set_option linter.unusedSimpArgs false
set_option linter.unusedVariables false
set_option maxRecDepth 10000

/-! ### Messages' bytes -/
def mk3 (k : UInt8) (E X : List UInt8) : List UInt8 := [k] ++ E ++ X
theorem mk3_bytes (k : UInt8) (E X : List UInt8) : bytesE (mk3 k E X) = bytesE ([k] ++ E) ++ bytesE X := bytesE_append _ _
theorem mk3_cons (k : UInt8) (E X : List UInt8) : mk3 k E X = k :: (E ++ X) := by simp [mk3]
def msgE (m : Ms) : List UInt8 := mk3 (UInt8.ofNat m.type.toNat) (numE 4 ((m.body.length : Int) + 4)) m.body
theorem msgE_eq (m : Ms) : msgE m = mk3 (UInt8.ofNat m.type.toNat) (numE 4 ((m.body.length : Int) + 4)) m.body := by unfold msgE; exact Eq.refl _
theorem r4bytes_c (m : Ms) (ht : 0 < m.type ∧ m.type < 256) (hl : m.body.length ≤ 10000000) (h : List (List AV)) : Contract Tryz.prog 66 [.agg (msC m)] h (.sl 1 (bytesE (msgE m)) none (.own .res)) h [] := by
  have hw : IntKind.i64.wrap ((m.body.length : Int) + 4) = (m.body.length : Int) + 4 := wrap64 (by omega) (by omega)
  have hn := numE_len 4 ((m.body.length : Int) + 4) (by omega)
  have hk : max m.type 0 % 256 = m.type := by omega
  have h0 : ¬ m.type = 0 := by omega
  refine contract_of k66 mixed (by simp [c66]) fun hh hargs => ?_
  rw [msgE_eq, mk3_bytes]
  generalize hn' : (m.body.length : Int) + 4 = n at *
  generalize hE : bytesE ([UInt8.ofNat m.type.toNat] ++ numE 4 n) = E at *
  have hEl : E.length = 1 + (numE 4 n).length := by rw [← hE, bytesE_length, List.length_append, List.length_singleton]
  simp [c66, h0, hn', hw]
  refine xcall_of (rput_c [UInt8.ofNat m.type.toNat] n 4 (by simp) _) (by simp [hk]) (by simp) ?_
  rw [put_app [UInt8.ofNat m.type.toNat], hE]
  simp [hh, -List.append_assoc]
  exact ⟨by omega, by rw [← hE]; exact ltLL_bytes _ _⟩
theorem msgE_one {m : Bk} (he : checkB m = 0) : msgE ⟨m.kind, bodyB m⟩ = oneB m := by
  rw [oneB_ok he, msgE_eq, mk3_cons]
theorem kind_pos {k : Int} (h : kindB k = true) : 0 < k ∧ k < 256 := by
  unfold kindB at h
  have := of_decide_eq_true h
  omega
theorem rbbytes_c (l : List Bk) (hf : ∀ m ∈ l, BkFit m ∧ BkShort m ∧ BkOk m ∧ (bodyB m).length ≤ 10000000) (hl : (bytesB l).length ≤ 100000000) (hn : l.length ≤ 1000) (h : List (List AV)) : Contract Tryz.prog 16 [.sl 11 (enc bkC l) none .no] h (.sl 1 (bytesE (bytesB l)) none (.own .res)) h [] := by
  refine contract_of k16 mixed (by simp [c16]) fun hh hargs => ?_
  simp [c16]
  refine xloop_ok (D := Nat) (fun j => ⟨[(0, .sl 11 (enc bkC l) none .no), (4, .v (.int .i64 j))], [(3, .sl 1 (bytesE (bytesB (l.take j))) none (.own (.slot 3)))], h, []⟩) (fun j => j ≤ l.length) (fun j => l.length - j) 0 (by simp) ?_ ?_
  · simp [Leq, hh, bytesB]
  · intro j hj
    by_cases hlt : j < l.length
    · have hw : IntKind.i64.wrap ((j : Int) + 1) = (j : Int) + 1 := wrap64 (by omega) (by omega)
      obtain ⟨hx, hb⟩ := bb_step l (M := 100000000) hl j hlt
      obtain ⟨f1, f2, f3, f4⟩ := hf l[j] (List.getElem_mem _)
      simp [hlt]
      generalize l[j] = m at *
      refine xcall_self (by simp) (rbencode_c m f1 f2 f3 (by omega) _) ?_
      rw [← enc_eqB]
      by_cases he : checkB m = 0
      · rw [encB_ok he]
        have e1 := msgE_one he
        rw [← e1] at hx hb
        simp
        refine xcall_self (by simp) (r4bytes_c ⟨m.kind, bodyB m⟩ (kind_pos (checkB_kind he)) f4 _) ?_
        generalize msgE ⟨m.kind, bodyB m⟩ = X at *
        have hb2 : (bytesB (l.take j)).length + X.length ≤ 140737488355328 := by omega
        simp [hw, hb2, -List.append_assoc]
        refine ⟨j + 1, by omega, by omega, ?_⟩
        simp [Leq, hh, hx]
      · have e2 := oneB_no he
        rw [e2, List.append_nil] at hx
        rw [encB_no he]
        simp [he, hw]
        refine ⟨j + 1, by omega, by omega, ?_⟩
        simp [Leq, hh, hx]
    · have : j = l.length := by omega
      subst this
      simp [hh]
end Go.Proofs.YthilellmckhejaaGreat.Ax
/- The document's faults, over values without memory; the statement of faults as the document has them. -/
namespace Go.Proofs.YthilellmckhejaaGreat.Ax
open Go.RowKit Go By Nm Sc Dg
set_option linter.unusedSimpArgs false
set_option linter.unusedVariables false
set_option maxRecDepth 10000

/-- A cut, where one variable may be put fast. -/
def LeqZ (m : Nat) (s s2 : St) : Prop := Leq m s s2 ∨ ∃ i cs, m ≤ i ∧ s.heap[i]? = some cs ∧ cs ≠ [] ∧ Leq m (s.frz i cs) s2
theorem xseq_any {P : Program} {m : Nat} {a b : XCode} {s : St} {K : XExit → St → Prop} (s2 : St) (ha : xwp P m a s (XExit.then (fun s' => LeqZ m s' s2) K)) (hb : xwp P m b s2 K) : xwp P m (.mark (.seq a (.cut b))) s K :=
  xwp_mono (c := a) (then_mono (fun _ h => ⟨s2, h, hb⟩) fun _ _ h => h) ha
theorem rfget_c (l : List Fi) (c : Int) (hl : l.length ≤ 140737488355328) (h : List (List AV)) : Contract Tryz.prog 22 [.sl 2 (enc fiC l) none .no, .v (.int .u8 c)] h (.tup [.v (.string (strB (getF l c).1)), .v (.bool (getF l c).2)]) h [] := by
  refine contract_of k22 mixed (by simp [c22]) fun hh hargs => ?_
  simp [c22]
  refine xloop_ok (D := Nat) (fun j => ⟨[(0, .sl 2 (enc fiC l) none .no), (1, .v (.int .u8 c)), (6, .v (.int .i64 j))], [], h, []⟩) (fun j => j ≤ l.length ∧ getF l c = getF (l.drop j) c) (fun j => l.length - j) 0 (by simp) ?_ ?_
  · simp [Leq, hh]
  · rintro j ⟨hj, hp⟩
    by_cases hlt : j < l.length
    · have hw : IntKind.i64.wrap ((j : Int) + 1) = (j : Int) + 1 := wrap64 (by omega) (by omega)
      rw [List.drop_eq_getElem_cons hlt, get_cons] at hp
      by_cases hc : l[j].code = c
      · have hi : isCode c l[j] = true := by simp [isCode, hc]
        rw [if_pos hi] at hp
        rw [hp]
        simp [hlt, fiC_mk, hc, hh]
      · have hi : ¬ isCode c l[j] = true := by simp [isCode, hc]
        rw [if_neg hi] at hp
        simp [hlt, fiC_mk, hc, hw]
        refine ⟨j + 1, ⟨by omega, hp⟩, by omega, ?_⟩
        simp [Leq, hh]
    · have e : getF l c = ([], false) := by rw [hp, List.drop_of_length_le (by omega)]; rfl
      have : j = l.length := by omega
      subst this
      rw [e]
      simp [hh]
theorem flat_getc : ∀ (l : List Fi) (i : Nat) (hi : i < l.length), (enc fiC l).flatten[i * 2]? = some (.v (.int .u8 l[i].code))
  | x :: l, 0, _ => by simp [fiC]
  | x :: l, i + 1, hi => by
    have hi' : i < l.length := by simpa using hi
    have ih := flat_getc l i hi'
    rw [enc_cons, List.flatten_cons, List.getElem?_append_right (by simp; omega), show (i + 1) * 2 - (fiC x).length = i * 2 by simp; omega, ih]
    rfl
theorem flat_lt (n : Nat) : ∀ l : List Fi, ltL n (enc fiC l).flatten
  | [] => trivial
  | x :: l => by rw [enc_cons, List.flatten_cons, ltL_append]; exact ⟨fiC_lt n x, flat_lt n l⟩
theorem flat_idF (l : List Fi) : ∀ c ∈ (enc fiC l).flatten, c.idOf = none := fun c hc => by
  obtain ⟨e, he, hce⟩ := List.mem_flatten.1 hc
  unfold enc at he
  obtain ⟨x, _, rfl⟩ := List.mem_map.1 he
  exact fiC_id x c hce
theorem rfwith_c (l : List Fi) (c : Int) (t : List UInt8) (hl : l.length ≤ 1000000) (h : List (List AV)) : Contract Tryz.prog 26 [.sl 2 (enc fiC l) none .no, .v (.int .u8 c), .v (.string (strB t))] h (.sl 2 (enc fiC (withF l c t)) none .no) h [] := by
  by_cases hne : l = []
  · subst hne
    refine contract_of k26 mixed (by simp [c26]) fun hh hargs => ?_
    have e2 : withF [] c t = [] := rfl
    rw [e2]
    simp [c26]
    refine xappendN_own ?_
    simp
    refine xloop_ok (D := Nat) (fun _ => ⟨[(7, .sl 2 [] none .no), (8, .v (.int .i64 0))], [], h, []⟩) (fun _ => True) (fun _ => 0) 0 trivial ?_ ?_
    · simp [Leq, hh]
    · intro _ _
      simp [hh]
  refine contract_cut (XCode.cuts [false, false, true] (XCode.inside (XCode.cuts [true]) [1, 1, 0, 1, 0, 0, 1, 0, 0, 1, 0] c26.code)) k26 rfl mixed (by simp [c26]) fun hh hargs => ?_
  have hflat : (enc fiC l).flatten ≠ [] := fun e => hne (by
    have := flat_len2 (c := fiC) (k := 2) (by simp) l
    rw [e] at this
    exact List.eq_nil_of_length_eq_zero (by simp at this; omega))
  have hen : enc fiC l ≠ [] := fun e => hflat (by rw [e]; rfl)
  have hlen := flat_len2 (c := fiC) (k := 2) (by simp) l
  simp [c26]
  refine xappendN_box hen (flat_idF l) (by simp; omega) (by simp; omega) ?_
  simp
  have hz := frz_all (c := fiC) (k := 2) (by simp) l h.length l.length rfl
  have hget := flat_getc l
  have hset := fun i hi => flat_set l i hi t
  have hF := fun n => flat_lt n l
  have hz2 : ∀ i, (AV.bsl h.length 0 2 l.length).frz h.length (enc fiC (l.set i ⟨c, t⟩)).flatten = .sl 2 (enc fiC (l.set i ⟨c, t⟩)) (some false) .no := fun i => frz_all (c := fiC) (k := 2) (by simp) (l.set i ⟨c, t⟩) h.length l.length (by simp)
  generalize (enc fiC l).flatten = F at *
  refine xseq_frz h.length F ⟨[(7, .sl 2 (enc fiC (withF l c t)) none .no)], [], h, []⟩ (Nat.le_refl _) hflat ?_ ?_
  · simp
    refine xloop_ok (D := Nat) (fun j => ⟨[(1, .v (.int .u8 c)), (2, .v (.string (strB t))), (7, .bsl h.length 0 2 l.length), (8, .v (.int .i64 j))], [], h ++ [F], []⟩) (fun j => j ≤ l.length ∧ withF l c t = l.take j ++ withF (l.drop j) c t) (fun j => l.length - j) 0 (by simp) ?_ ?_
    · simp [Leq, hh, hF]
    · rintro j ⟨hj, hp⟩
      by_cases hlt : j < l.length
      · have hw : IntKind.i64.wrap ((j : Int) + 1) = (j : Int) + 1 := wrap64 (by omega) (by omega)
        have hg := hget j hlt
        have hs := hset j hlt
        have hfit : j * 2 + 1 + 1 ≤ F.length := by omega
        rw [List.drop_eq_getElem_cons hlt, with_cons] at hp
        by_cases hc : l[j].code = c
        · have hi : isCode c l[j] = true := by simp [isCode, hc]
          rw [if_pos hi] at hp
          have e : withF l c t = l.set j ⟨c, t⟩ := by rw [hp, List.set_eq_take_append_cons_drop, if_pos hlt]
          rw [hc] at hs hg
          have hz3 := hz2 j
          have hflat2 : (enc fiC (l.set j ⟨c, t⟩)).flatten ≠ [] := by rw [← hs]; simpa using hflat
          rw [e]
          generalize (enc fiC (l.set j ⟨c, t⟩)).flatten = F2 at *
          simp [hlt, hg]
          refine xseq_frz h.length F2 ⟨[(7, .sl 2 (enc fiC (l.set j ⟨c, t⟩)) none .no)], [], h, []⟩ (Nat.le_refl _) hflat2 ?_ ?_
          · simp [hlt, hfit, hs, Leq, hh, hz3]
          · simp [hh]
        · have hi : ¬ isCode c l[j] = true := by simp [isCode, hc]
          rw [if_neg hi] at hp
          have hp2 : withF l c t = l.take (j + 1) ++ withF (l.drop (j + 1)) c t := by rw [hp, List.take_succ_eq_append_getElem hlt, List.append_assoc]; rfl
          simp [hlt, hg, hc, hw]
          refine ⟨j + 1, ⟨by omega, hp2⟩, by omega, ?_⟩
          simp [Leq, hh, hF]
      · have : j = l.length := by omega
        subst this
        have e : withF l c t = l := by
          rw [hp, List.drop_length, List.take_length]; exact List.append_nil l
        rw [e]
        simp [Leq, hh, hz]
  · simp [hh]

/-! ### A fault -/
theorem rfmake_c (sev code text : List UInt8) (h : List (List AV)) : Contract Tryz.prog 28 [.v (.string (strB sev)), .v (.string (strB code)), .v (.string (strB text))] h (.sl 2 (enc fiC (makeF sev code text)) none .no) h [] := by
  refine contract_of k28 mixed (by simp [c28]) fun hh hargs => ?_
  simp [c28, hh, makeF, fiC_mk]
theorem ferror_c (code text : List UInt8) (h : List (List AV)) : Contract Tryz.prog 31 [.v (.string (strB code)), .v (.string (strB text))] h (.agg (bkC (toldF [69, 82, 82, 79, 82] code text))) h [] := by
  refine contract_of k31 mixed (by simp [c31]) fun hh hargs => ?_
  simp [c31]
  refine xcall_self (by simp) (ftold_c [69, 82, 82, 79, 82] code text _) ?_
  simp [hh]
theorem rferror_c (code text : List UInt8) (h : List (List AV)) : Contract Tryz.prog 32 [.v (.string (strB code)), .v (.string (strB text))] h (.agg (bkC (toldF [69, 82, 82, 79, 82] code text))) h [] := by
  refine contract_of k32 mixed (by simp [c32]) fun hh hargs => ?_
  simp [c32]
  refine xcall_self (by simp) (rfmake_c [69, 82, 82, 79, 82] code text _) ?_
  simp [hh, toldF, bkC_mk]
theorem told_short (sev code text : List UInt8) (h1 : sev.length ≤ 1000) (h2 : code.length ≤ 1000) (h3 : text.length ≤ 1000) : BkShort (toldF sev code text) :=
  ⟨⟨by simp [toldF], by simp [toldF], by simp [toldF]⟩, by simp [toldF], by simp [toldF, makeF]; omega⟩
theorem rffatal_c (code text : List UInt8) (h2 : code.length ≤ 1000) (h3 : text.length ≤ 1000) (h : List (List AV)) : Contract Tryz.prog 30 [.v (.string (strB code)), .v (.string (strB text))] h (.sl 1 (bytesE (bytesB [toldF [70, 65, 84, 65, 76] code text])) none (.own .res)) h [] := by
  obtain ⟨f1, f2, f3⟩ := told_fit [70, 65, 84, 65, 76] code text (by simp) h2 h3
  have fs := told_short [70, 65, 84, 65, 76] code text (by simp) h2 h3
  have hb : (bytesB [toldF [70, 65, 84, 65, 76] code text]).length ≤ 200000 := by
    unfold bytesB
    rw [List.flatMap_cons, List.flatMap_nil, List.append_nil]
    unfold oneB
    split
    · have := numE_len 4 (((bodyB (toldF [70, 65, 84, 65, 76] code text)).length : Int) + 4) (by omega)
      rw [List.length_cons, List.length_append]; omega
    · simp
  have B := fun h => rbbytes_c [toldF [70, 65, 84, 65, 76] code text] (by intro m hm; rw [List.mem_singleton.1 hm]; exact ⟨f1, fs, f2, by omega⟩) (by omega) (by simp) h
  generalize hX : bytesB [toldF [70, 65, 84, 65, 76] code text] = X at *
  refine contract_of k30 mixed (by simp [c30]) fun hh hargs => ?_
  simp [c30]
  refine xcall_self (by simp) (rfmake_c [70, 65, 84, 65, 76] code text _) ?_
  simp
  refine xcall_of (B _) (by simp [toldF, bkC_mk]) (by simp) ?_
  simp [hh]

/-! ### The statement -/
theorem ftells_c (l : List Fi) (c : Int) (sev code text : List UInt8) : Contract Tryz.prog 5 [.sl 2 (enc fiC l) none .no, .v (.int .u8 c), .v (.string (strB sev)), .v (.string (strB code)), .v (.string (strB text))] [] (.v (.bool true)) [] [] := by
  refine contract_cut (XCode.cuts [false, true, false, false, true, true] c5.code) k5 rfl mixed (by simp [c5]) fun hh hargs => ?_
  simp [c5]
  by_cases hp : farF l = false ∧ sev.length ≤ 300 ∧ code.length ≤ 300 ∧ text.length ≤ 1000
  · obtain ⟨pf, p1, p2, p3⟩ := hp
    have q1 : ¬ (300 : Int) < sev.length := by omega
    have q2 : ¬ (300 : Int) < code.length := by omega
    have q3 : ¬ (1000 : Int) < text.length := by omega
    have hl : l.length ≤ 50 := by
      unfold farF at pf
      simp only [Bool.or_eq_false_iff, decide_eq_false_iff_not] at pf
      omega
    have hwl : (withF l c text).length = l.length := with_len c text l
    refine xseq_cut ⟨[(0, .sl 2 (enc fiC l) none .no), (1, .v (.int .u8 c)), (2, .v (.string (strB sev))), (3, .v (.string (strB code))), (4, .v (.string (strB text)))], [], [], []⟩ ?_ ?_
    · simp
      refine xcall_self (by simp) (ffar_c l _) ?_
      simp [pf, q1, q2, q3, Leq]
    obtain ⟨a, ha⟩ : ∃ a, a = getF l c := ⟨_, rfl⟩
    obtain ⟨W, hW⟩ : ∃ W, W = withF l c text := ⟨_, rfl⟩
    rw [← hW] at hwl
    simp
    refine xcall_self (by simp) (fget_c l c (by omega) _) ?_
    rw [← ha]
    simp
    refine xcall_self (by simp) (rfget_c l c (by omega) _) ?_
    rw [← ha]
    simp
    refine xseq_any ⟨[(0, .sl 2 (enc fiC l) none .no), (1, .v (.int .u8 c)), (2, .v (.string (strB sev))), (3, .v (.string (strB code))), (4, .v (.string (strB text))), (11, .v (.string (strB a.1))), (12, .v (.bool a.2)), (13, .v (.string (strB a.1))), (14, .v (.bool a.2)), (15, .sl 2 (enc fiC l) none .no)], [], [], []⟩ ?_ ?_
    · by_cases hne : l = []
      · subst hne
        simp
        refine xcall_self (by simp) (clone_fi0_c _) ?_
        simp
        exact .inl (by simp [Leq])
      · have hflat : (enc fiC l).flatten ≠ [] := fun e => hne (by
          have := flat_len2 (c := fiC) (k := 2) (by simp) l
          rw [e] at this
          exact List.eq_nil_of_length_eq_zero (by simp at this; omega))
        simp
        refine xcall_self (by simp) (clone_fi_c l hne (by omega) _) ?_
        have hz := frz_all (c := fiC) (k := 2) (by simp) l 0 l.length rfl
        generalize (enc fiC l).flatten = F at *
        simp
        exact .inr ⟨0, F, Nat.le_refl _, by simp, hflat, by simp [Leq, hz]⟩
    refine xseq_cut ⟨[(0, .sl 2 (enc fiC l) none .no), (1, .v (.int .u8 c)), (2, .v (.string (strB sev))), (3, .v (.string (strB code))), (4, .v (.string (strB text))), (11, .v (.string (strB a.1))), (12, .v (.bool a.2)), (13, .v (.string (strB a.1))), (14, .v (.bool a.2)), (15, .sl 2 (enc fiC l) none .no), (16, .sl 2 (enc fiC W) none .no)], [], [], []⟩ ?_ ?_
    · simp
      refine xcall_self (by simp) (fwith_c l c text (by omega) _) ?_
      rw [← hW]
      simp [Leq]
    have e0 : (W == W) = true := by simp
    have e1 : (l == l) = true := by simp
    obtain ⟨M, hM⟩ : ∃ M, M = makeF sev code text := ⟨_, rfl⟩
    have hMl : M.length ≤ 140737488355328 := by rw [hM]; simp [makeF]
    have e2 : (M == M) = true := by simp
    obtain ⟨f1, f2, f3⟩ := told_fit [69, 82, 82, 79, 82] code text (by simp) (by omega) (by omega)
    have A1 := fun h => ffatal_c code text (by omega) (by omega) h
    have A2 := fun h => rffatal_c code text (by omega) (by omega) h
    have A3 := fun h => ferror_c code text h
    have A4 := fun h => rferror_c code text h
    generalize bytesB [toldF [70, 65, 84, 65, 76] code text] = X at *
    generalize toldF [69, 82, 82, 79, 82] code text = E at *
    simp
    refine xcall_self (by simp) (rfwith_c l c text (by omega) _) ?_
    rw [← hW]
    simp
    refine xcall_self (by simp) (eqfields_c W W (by omega) _) ?_
    simp
    refine xcall_self (by simp) (eqfields_c l l (by omega) _) ?_
    simp
    refine xcall_self (by simp) (fmake_c sev code text _) ?_
    rw [← hM]
    simp
    refine xcall_self (by simp) (rfmake_c sev code text _) ?_
    rw [← hM]
    simp
    refine xcall_self (by simp) (eqfields_c M M hMl _) ?_
    simp
    refine xcall_self (by simp) (A1 _) ?_
    simp
    refine xcall_self (by simp) (A2 _) ?_
    simp
    refine xcall_of (equal_c X X _) (by simp) (by simp) ?_
    simp
    refine xcall_self (by simp) (A3 _) ?_
    simp
    refine xcall_self (by simp) (A4 _) ?_
    simp
    refine xcall_self (by simp) (bsame_c E E f1 _) ?_
    rw [sameB_refl]
    simp
    refine xcall_self (by simp) (fawake_c _) ?_
    simp
  · refine xmark ?_
    simp
    refine xcall_self (by simp) (ffar_c l _) ?_
    cases pf : farF l with
    | true =>
      simp
      refine xcall_self (by simp) (fawake_c _) ?_
      simp
    | false =>
      by_cases q1 : (300 : Int) < sev.length
      · simp [q1]
        refine xcall_self (by simp) (fawake_c _) ?_
        simp
      by_cases q2 : (300 : Int) < code.length
      · simp [q1, q2]
        refine xcall_self (by simp) (fawake_c _) ?_
        simp
      by_cases q3 : (1000 : Int) < text.length
      · simp [q1, q2, q3]
        refine xcall_self (by simp) (fawake_c _) ?_
        simp
      exact absurd ⟨pf, by omega, by omega, by omega⟩ hp
end Go.Proofs.YthilellmckhejaaGreat.Ax
namespace Go.Proofs.YthilellmckhejaaGreat.faultTells
open Go.ChangeShapes Go.WideShapes Go.ChangeAt Go.RowKit
open Go.ChangeMaps (open_string shut_string)
set_option linter.unusedVariables false

theorem own : ownKnob Tryz.prog.godebug = none := by kernel_rfl
theorem laidOut : laidOutB Tryz.prog = true := by kernel_rfl

set_option maxRecDepth 100000 in
theorem lifted (os : Os) (started : os.Started) (H : Type) (enc : TypeId × Value → H) :
    ReturnsInHanded {} Tryz.checked os 5 .any (Rows.faultTellsSpec.pre6 enc Tryz.prog Tryz.f5 Rows.faultTellsRow.domain false) (Rows.faultTellsSpec.post enc Tryz.prog Tryz.f5 false true false false) := by
  refine returnsInHanded_of_change (C := Tryz.checked) own started (by kernel_rfl) Tryz.func5
    (ChangeSpec.witness6 (enc := enc) (C := Tryz.checked) false ⟨#[], #[.slice none 0 0, .int .u8 0, .string ByteArray.empty, .string ByteArray.empty, .string ByteArray.empty], []⟩ 8 (by kernel_rfl) (by kernel_rfl) (by kernel_rfl) (by kernel_rfl)) ?_
  intro W base args ds gs before hval0 hW hcnd _
  have hval : ∀ (j : Nat) t v, Tryz.f5.params[j]? = some t → args[j]? = some v → Value.okWide Tryz.prog W .any base t v := hval0
  have hW' := hW
  obtain ⟨p, q, hA0, hV, rfl, hfz, hnd⟩ := hW
  have hA : DataW.TrodAll enc Tryz.prog W 0 (fun _ => true) true Tryz.f5.params.toList args.toList ds p := hA0
  rw [Tryz.params5] at hA hval
  obtain ⟨v0, vs0, d0, ds0, p0, q0, hargs, rfl, rfl, h0, r0⟩ := trodAll_cons hA
  obtain ⟨v1, vs1, d1, ds1, p1, q1, rfl, rfl, rfl, h1, r1⟩ := trodAll_cons r0
  obtain ⟨v2, vs2, d2, ds2, p2, q2, rfl, rfl, rfl, h2, r2⟩ := trodAll_cons r1
  obtain ⟨v3, vs3, d3, ds3, p3, q3, rfl, rfl, rfl, h3, r3⟩ := trodAll_cons r2
  obtain ⟨v4, vs4, d4, ds4, p4, q4, rfl, rfl, rfl, h4, r4⟩ := trodAll_cons r3
  obtain ⟨rfl, rfl, rfl⟩ := trodAll_nil r4
  obtain rfl : args = #[v0, v1, v2, v3, v4] := by cases args; simp_all
  obtain ⟨rfl, rfl⟩ := trodVars_none hV
  have k0 := h0
  have lt0 : ∀ x ∈ p0, x.block < W.heap.size := by obtain ⟨m, hm⟩ := k0; exact DataW.trod_lt m _ _ _ hm
  obtain ⟨a0, ok0, s0⟩ := Ax.arg_slice Tryz.underlying25 Ax.sh_fiCL (hval 0 25 v0 rfl rfl) h0
  have k1 := h1
  have lt1 : ∀ x ∈ p1, x.block < W.heap.size := by obtain ⟨m, hm⟩ := k1; exact DataW.trod_lt m _ _ _ hm
  obtain ⟨a1, ok1, s1⟩ := Ax.arg_int Tryz.underlying5 (hval 1 5 v1 rfl rfl) h1
  have k2 := h2
  have lt2 : ∀ x ∈ p2, x.block < W.heap.size := by obtain ⟨m, hm⟩ := k2; exact DataW.trod_lt m _ _ _ hm
  obtain ⟨a2, ok2, s2⟩ := Ax.arg_str Tryz.underlying9 (hval 2 9 v2 rfl rfl) h2
  have k3 := h3
  have lt3 : ∀ x ∈ p3, x.block < W.heap.size := by obtain ⟨m, hm⟩ := k3; exact DataW.trod_lt m _ _ _ hm
  obtain ⟨a3, ok3, s3⟩ := Ax.arg_str Tryz.underlying9 (hval 3 9 v3 rfl rfl) h3
  have k4 := h4
  have lt4 : ∀ x ∈ p4, x.block < W.heap.size := by obtain ⟨m, hm⟩ := k4; exact DataW.trod_lt m _ _ _ hm
  obtain ⟨a4, ok4, s4⟩ := Ax.arg_str Tryz.underlying9 (hval 4 9 v4 rfl rfl) h4
  clear hA0 hval0
  refine (Ax.law_walk (w := W) (Ax.dom_any W) (Ax.ftells_c a0 a1 a2 a3 a4) (by simp) (.cons s0 (.cons s1 (.cons s2 (.cons s3 (.cons s4 .nil)))))).mono fun e W' ⟨he, bel⟩ => ?_
  subst he
  exact ⟨_, rfl, _, _, _, [], _, [], hW', trodAll_mk1 (shut_bool Tryz.underlying4 _), (trodAll_cons_mk (Below.trod laidOut (by kernel_rfl) (of_decide_eq_true (by kernel_rfl)) k0 bel lt0) (trodAll_cons_mk (Below.trod laidOut (by kernel_rfl) (of_decide_eq_true (by kernel_rfl)) k1 bel lt1) (trodAll_cons_mk (Below.trod laidOut (by kernel_rfl) (of_decide_eq_true (by kernel_rfl)) k2 bel lt2) (trodAll_cons_mk (Below.trod laidOut (by kernel_rfl) (of_decide_eq_true (by kernel_rfl)) k3 bel lt3) (trodAll_cons_mk (Below.trod laidOut (by kernel_rfl) (of_decide_eq_true (by kernel_rfl)) k4 bel lt4) trodAll_mk0))))), rfl, bel.frame _, fun h => by cases h⟩

theorem over : Rows.faultTellsRow.holds Tryz.pinned (OpenSpec.ofChange Rows.faultTellsSpec) :=
  OpenClaim.holds_of_wide 5 Tryz.f5 rfl rfl rfl rfl rfl rfl rfl ⟨rfl, rfl, rfl, rfl, rfl⟩ rfl rfl rfl rfl rfl (by kernel_rfl) Tryz.func5 (by kernel_rfl)
    (of_decide_eq_true (by kernel_rfl)) (by unfold Func.isWrapper; first | (rw [if_pos (by decide +kernel)]; kernel_rfl) | (rw [if_neg (by decide +kernel)]; exact ⟨rfl, rfl⟩))
    (fun os started H enc _ => lifted os started H enc)

theorem proved : Rows.FaultTellsSaid := over
#print axioms proved
end Go.Proofs.YthilellmckhejaaGreat.faultTells
