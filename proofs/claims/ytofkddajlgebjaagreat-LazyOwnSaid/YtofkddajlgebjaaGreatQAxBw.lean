/- Back: what both sides check is one; what the document reads. -/
import Derived.Test.YtofkddajlgebjaaGreatQAxXr
import Derived.Test.YtofkddajlgebjaaGreatRows
import Derived.Test.YtofkddajlgebjaaGreatQAxBs
import Derived.Test.YtofkddajlgebjaaGreatQAxFm
/- The texts of functions over values without memory, as the kernel reckons them out of the program. -/
namespace Go.Proofs.YtofkddajlgebjaaGreat.Ax
open Go.RowKit Go By

def c54 : XFun := ⟨21, (.seq (.ops [⟨(some 2), (.assign (.const (.bool false))), none⟩]) (.seq (.seq (.ops [⟨(some 3), (.move (.tmp 0)), none⟩]) (.block 0 (.seq (.seq (.ops [⟨(some 5), (.bin .eql (.tmp 3) (.const (.int .u8 82))), none⟩, ⟨(some 4), (.assign (.tmp 5)), none⟩]) (.cond (.tmp 4) .skip (.seq (.ops [⟨(some 6), (.bin .eql (.tmp 3) (.const (.int .u8 83))), none⟩, ⟨(some 4), (.assign (.tmp 6)), none⟩]) (.cond (.tmp 4) .skip (.seq (.ops [⟨(some 7), (.bin .eql (.tmp 3) (.const (.int .u8 75))), none⟩, ⟨(some 4), (.assign (.tmp 7)), none⟩]) (.cond (.tmp 4) .skip (.seq (.ops [⟨(some 8), (.bin .eql (.tmp 3) (.const (.int .u8 90))), none⟩, ⟨(some 4), (.assign (.tmp 8)), none⟩]) (.cond (.tmp 4) .skip (.seq (.ops [⟨(some 9), (.bin .eql (.tmp 3) (.const (.int .u8 49))), none⟩, ⟨(some 4), (.assign (.tmp 9)), none⟩]) (.cond (.tmp 4) .skip (.seq (.ops [⟨(some 10), (.bin .eql (.tmp 3) (.const (.int .u8 50))), none⟩, ⟨(some 4), (.assign (.tmp 10)), none⟩]) (.cond (.tmp 4) .skip (.seq (.ops [⟨(some 11), (.bin .eql (.tmp 3) (.const (.int .u8 51))), none⟩, ⟨(some 4), (.assign (.tmp 11)), none⟩]) (.cond (.tmp 4) .skip (.seq (.ops [⟨(some 12), (.bin .eql (.tmp 3) (.const (.int .u8 110))), none⟩, ⟨(some 4), (.assign (.tmp 12)), none⟩]) (.cond (.tmp 4) .skip (.seq (.ops [⟨(some 13), (.bin .eql (.tmp 3) (.const (.int .u8 115))), none⟩, ⟨(some 4), (.assign (.tmp 13)), none⟩]) (.cond (.tmp 4) .skip (.seq (.ops [⟨(some 14), (.bin .eql (.tmp 3) (.const (.int .u8 73))), none⟩, ⟨(some 4), (.assign (.tmp 14)), none⟩]) (.cond (.tmp 4) .skip (.seq (.ops [⟨(some 15), (.bin .eql (.tmp 3) (.const (.int .u8 67))), none⟩, ⟨(some 4), (.assign (.tmp 15)), none⟩]) (.cond (.tmp 4) .skip (.seq (.ops [⟨(some 16), (.bin .eql (.tmp 3) (.const (.int .u8 68))), none⟩, ⟨(some 4), (.assign (.tmp 16)), none⟩]) (.cond (.tmp 4) .skip (.seq (.ops [⟨(some 17), (.bin .eql (.tmp 3) (.const (.int .u8 84))), none⟩, ⟨(some 4), (.assign (.tmp 17)), none⟩]) (.cond (.tmp 4) .skip (.seq (.ops [⟨(some 18), (.bin .eql (.tmp 3) (.const (.int .u8 116))), none⟩, ⟨(some 4), (.assign (.tmp 18)), none⟩]) (.cond (.tmp 4) .skip (.seq (.ops [⟨(some 19), (.bin .eql (.tmp 3) (.const (.int .u8 69))), none⟩, ⟨(some 4), (.assign (.tmp 19)), none⟩]) (.cond (.tmp 4) .skip (.ops [⟨(some 20), (.bin .eql (.tmp 3) (.const (.int .u8 78))), none⟩, ⟨(some 4), (.assign (.tmp 20)), none⟩]))))))))))))))))))))))))))))))) (.cond (.tmp 4) (.seq (.ops [⟨(some 2), (.assign (.const (.bool true))), none⟩]) .ret) .skip)))) (.seq (.ops [⟨(some 2), (.assign (.const (.bool false))), none⟩]) .ret))), [(.move (.tmp 2))]⟩
theorem k54 : cfun Tryz.prog 54 = some c54 := by kernel_rfl
def c62 : XFun := ⟨57, (.seq (.ops [⟨(some 1), (.box (.tmp 0)), none⟩, ⟨(some 2), (.alloc [(.v (.int .u8 0)), (.v (.int .u8 0)), (.v (.string (strB []))), (.v (.string (strB []))), (.v (.string (strB []))), (.v (.int .i64 0)), (.v (.int .i64 0)), (.sl 0 [] (some true) .exact), (.sl 0 [] (some true) .exact), (.sl 0 [] (some true) .exact), (.sl 0 [] (some true) .exact)]), none⟩]) (.seq (.ops [⟨(some 4), (.faddr 0 (.tmp 1)), none⟩, ⟨(some 5), (.load1 (.tmp 4)), none⟩, ⟨(some 6), (.build [(.v (.int .u8 0)), (.v (.int .u8 0)), (.v (.string (strB []))), (.v (.string (strB []))), (.v (.string (strB []))), (.v (.int .i64 0)), (.v (.int .i64 0)), (.sl 0 [] (some true) .exact), (.sl 0 [] (some true) .exact), (.sl 0 [] (some true) .exact), (.sl 0 [] (some true) .exact)] [(0, (1, (.tmp 5)))]), none⟩, ⟨(some 3), (.alloc [(.v (.int .u8 0)), (.v (.int .u8 0)), (.v (.string (strB []))), (.v (.string (strB []))), (.v (.string (strB []))), (.v (.int .i64 0)), (.v (.int .i64 0)), (.sl 0 [] (some true) .exact), (.sl 0 [] (some true) .exact), (.sl 0 [] (some true) .exact), (.sl 0 [] (some true) .exact)]), none⟩, ⟨none, (.store 11 (.tmp 3) (.tmp 6)), none⟩]) (.seq (.seq (.ops [⟨(some 7), (.faddr 0 (.tmp 1)), none⟩, ⟨(some 8), (.load1 (.tmp 7)), none⟩]) (.block 0 (.seq (.ops [⟨(some 10), (.bin .eql (.tmp 8) (.const (.int .u8 83))), none⟩, ⟨(some 9), (.assign (.tmp 10)), none⟩]) (.cond (.tmp 9) (.draws (.take ⟨(some 11), (.faddr 3 (.tmp 1)), none⟩ (.take ⟨(some 12), (.load1 (.tmp 11)), none⟩ (.take ⟨(some 13), (.faddr 4 (.tmp 1)), none⟩ (.take ⟨(some 14), (.load1 (.tmp 13)), none⟩ (.take ⟨(some 15), (.faddr 3 (.tmp 3)), none⟩ (.only ⟨none, (.store 1 (.tmp 15) (.tmp 12)), none⟩ (.take ⟨(some 16), (.faddr 4 (.tmp 3)), none⟩ (.last ⟨none, (.store 1 (.tmp 16) (.tmp 14)), none⟩))))))))) (.seq (.ops [⟨(some 18), (.bin .eql (.tmp 8) (.const (.int .u8 75))), none⟩, ⟨(some 17), (.assign (.tmp 18)), none⟩]) (.cond (.tmp 17) (.draws (.take ⟨(some 19), (.faddr 5 (.tmp 1)), none⟩ (.take ⟨(some 20), (.load1 (.tmp 19)), none⟩ (.take ⟨(some 21), (.faddr 6 (.tmp 1)), none⟩ (.take ⟨(some 22), (.load1 (.tmp 21)), none⟩ (.take ⟨(some 23), (.faddr 5 (.tmp 3)), none⟩ (.only ⟨none, (.store 1 (.tmp 23) (.tmp 20)), none⟩ (.take ⟨(some 24), (.faddr 6 (.tmp 3)), none⟩ (.last ⟨none, (.store 1 (.tmp 24) (.tmp 22)), none⟩))))))))) (.seq (.ops [⟨(some 26), (.bin .eql (.tmp 8) (.const (.int .u8 90))), none⟩, ⟨(some 25), (.assign (.tmp 26)), none⟩]) (.cond (.tmp 25) (.ops [⟨(some 27), (.faddr 1 (.tmp 1)), none⟩, ⟨(some 28), (.load1 (.tmp 27)), none⟩, ⟨(some 29), (.faddr 1 (.tmp 3)), none⟩, ⟨none, (.store 1 (.tmp 29) (.tmp 28)), none⟩]) (.seq (.ops [⟨(some 31), (.bin .eql (.tmp 8) (.const (.int .u8 67))), none⟩, ⟨(some 30), (.assign (.tmp 31)), none⟩]) (.cond (.tmp 30) (.ops [⟨(some 32), (.faddr 2 (.tmp 1)), none⟩, ⟨(some 33), (.load1 (.tmp 32)), none⟩, ⟨(some 34), (.faddr 2 (.tmp 3)), none⟩, ⟨none, (.store 1 (.tmp 34) (.tmp 33)), none⟩]) (.seq (.ops [⟨(some 36), (.bin .eql (.tmp 8) (.const (.int .u8 68))), none⟩, ⟨(some 35), (.assign (.tmp 36)), none⟩]) (.cond (.tmp 35) (.ops [⟨(some 37), (.faddr 9 (.tmp 1)), none⟩, ⟨(some 38), (.load1 (.tmp 37)), none⟩, ⟨(some 39), (.faddr 9 (.tmp 3)), none⟩, ⟨none, (.store 1 (.tmp 39) (.tmp 38)), none⟩]) (.seq (.ops [⟨(some 41), (.bin .eql (.tmp 8) (.const (.int .u8 84))), none⟩, ⟨(some 40), (.assign (.tmp 41)), none⟩]) (.cond (.tmp 40) (.ops [⟨(some 42), (.faddr 8 (.tmp 1)), none⟩, ⟨(some 43), (.load1 (.tmp 42)), none⟩, ⟨(some 44), (.faddr 8 (.tmp 3)), none⟩, ⟨none, (.store 1 (.tmp 44) (.tmp 43)), none⟩]) (.seq (.ops [⟨(some 46), (.bin .eql (.tmp 8) (.const (.int .u8 116))), none⟩, ⟨(some 45), (.assign (.tmp 46)), none⟩]) (.cond (.tmp 45) (.ops [⟨(some 47), (.faddr 7 (.tmp 1)), none⟩, ⟨(some 48), (.load1 (.tmp 47)), none⟩, ⟨(some 49), (.faddr 7 (.tmp 3)), none⟩, ⟨none, (.store 1 (.tmp 49) (.tmp 48)), none⟩]) (.seq (.seq (.ops [⟨(some 51), (.bin .eql (.tmp 8) (.const (.int .u8 69))), none⟩, ⟨(some 50), (.assign (.tmp 51)), none⟩]) (.cond (.tmp 50) .skip (.ops [⟨(some 52), (.bin .eql (.tmp 8) (.const (.int .u8 78))), none⟩, ⟨(some 50), (.assign (.tmp 52)), none⟩]))) (.cond (.tmp 50) (.ops [⟨(some 53), (.faddr 10 (.tmp 1)), none⟩, ⟨(some 54), (.load1 (.tmp 53)), none⟩, ⟨(some 55), (.faddr 10 (.tmp 3)), none⟩, ⟨none, (.store 1 (.tmp 55) (.tmp 54)), none⟩]) .skip)))))))))))))))))) (.seq (.ops [⟨(some 56), (.loadN 11 (.tmp 3)), none⟩, ⟨none, (.store 11 (.tmp 2) (.tmp 56)), none⟩]) .ret)))), [(.loadN 11 (.tmp 2))]⟩
theorem k62 : cfun Tryz.prog 62 = some c62 := by kernel_rfl
def c56 : XFun := ⟨15, (.seq (.ops [⟨(some 6), (.assign (.const (.bool false))), none⟩]) (.seq (.ops [⟨(some 7), (.move (.tmp 0)), none⟩, ⟨(some 8), (.move (.tmp 1)), none⟩, ⟨(some 9), (.bin .geq (.tmp 7) (.tmp 8)), none⟩, ⟨(some 10), (.move (.tmp 9)), none⟩, ⟨(some 11), (.move (.tmp 0)), (some (10, true))⟩, ⟨(some 12), (.move (.tmp 2)), (some (10, true))⟩, ⟨(some 13), (.bin .leq (.tmp 11) (.tmp 12)), (some (10, true))⟩, ⟨(some 14), (.pick (.tmp 10) (.tmp 13) (.const (.bool false))), none⟩, ⟨(some 6), (.assign (.tmp 14)), none⟩]) .ret)), [(.move (.tmp 6))]⟩
theorem k56 : cfun Tryz.prog 56 = some c56 := by kernel_rfl
def c58 : XFun := ⟨56, (.seq (.ops [⟨(some 2), (.assign (.const (.bool false))), none⟩]) (.seq (.seq (.ops [⟨(some 5), (.move (.tmp 0)), none⟩, ⟨(some 6), (.lenL (.tmp 5)), none⟩, ⟨(some 7), (.bin .gtr (.tmp 6) (.const (.int .i64 65535))), none⟩]) (.cond (.tmp 7) (.seq (.ops [⟨(some 2), (.assign (.const (.bool false))), none⟩]) .ret) .skip)) (.seq (.seq (.ops [⟨(some 3), (.assign (.const (.int .i64 0))), none⟩]) (.block 0 (.loop (.seq (.seq (.ops [⟨(some 8), (.move (.tmp 3)), none⟩, ⟨(some 9), (.move (.tmp 0)), none⟩, ⟨(some 10), (.lenL (.tmp 9)), none⟩, ⟨(some 11), (.bin .lss (.tmp 8) (.tmp 10)), none⟩]) (.cond (.tmp 11) .skip (.exit 0))) (.seq (.block 1 (.seq (.ops [⟨(some 14), (.move (.tmp 0)), none⟩, ⟨(some 15), (.move (.tmp 3)), none⟩, ⟨(some 16), (.iaddr 7 (.tmp 14) (.tmp 15)), none⟩, ⟨(some 17), (.loadN 7 (.tmp 16)), none⟩, ⟨(some 4), (.alloc [(.v (.string (strB []))), (.v (.int .i64 0)), (.v (.int .i64 0)), (.v (.int .i64 0)), (.v (.int .i64 0)), (.v (.int .i64 0)), (.v (.int .i64 0))]), none⟩, ⟨none, (.store 7 (.tmp 4) (.tmp 17)), none⟩]) (.seq (.seq (.ops [⟨(some 18), (.faddr 0 (.tmp 4)), none⟩, ⟨(some 19), (.load1 (.tmp 18)), none⟩, ⟨(some 20), (.call 55 [(.tmp 19)]), none⟩, ⟨(some 21), (.un .not (.tmp 20)), none⟩, ⟨(some 22), (.move (.tmp 21)), none⟩, ⟨(some 23), (.faddr 1 (.tmp 4)), (some (22, false))⟩, ⟨(some 24), (.load1 (.tmp 23)), (some (22, false))⟩, ⟨(some 25), (.call 56 [(.tmp 24), (.const (.int .i64 0)), (.const (.int .i64 4294967295))]), (some (22, false))⟩, ⟨(some 26), (.un .not (.tmp 25)), (some (22, false))⟩, ⟨(some 27), (.pick (.tmp 22) (.const (.bool true)) (.tmp 26)), none⟩, ⟨(some 28), (.move (.tmp 27)), none⟩, ⟨(some 29), (.faddr 2 (.tmp 4)), (some (28, false))⟩, ⟨(some 30), (.load1 (.tmp 29)), (some (28, false))⟩, ⟨(some 31), (.call 56 [(.tmp 30), (.const (.int .i64 0)), (.const (.int .i64 65535))]), (some (28, false))⟩, ⟨(some 32), (.un .not (.tmp 31)), (some (28, false))⟩, ⟨(some 33), (.pick (.tmp 28) (.const (.bool true)) (.tmp 32)), none⟩, ⟨(some 34), (.move (.tmp 33)), none⟩, ⟨(some 35), (.faddr 3 (.tmp 4)), (some (34, false))⟩, ⟨(some 36), (.load1 (.tmp 35)), (some (34, false))⟩, ⟨(some 37), (.call 56 [(.tmp 36), (.const (.int .i64 0)), (.const (.int .i64 4294967295))]), (some (34, false))⟩, ⟨(some 38), (.un .not (.tmp 37)), (some (34, false))⟩, ⟨(some 39), (.pick (.tmp 34) (.const (.bool true)) (.tmp 38)), none⟩]) (.cond (.tmp 39) (.seq (.ops [⟨(some 2), (.assign (.const (.bool false))), none⟩]) .ret) .skip)) (.seq (.ops [⟨(some 40), (.faddr 4 (.tmp 4)), none⟩, ⟨(some 41), (.load1 (.tmp 40)), none⟩, ⟨(some 42), (.call 56 [(.tmp 41), (.const (.int .i64 (-32768))), (.const (.int .i64 32767))]), none⟩, ⟨(some 43), (.un .not (.tmp 42)), none⟩, ⟨(some 44), (.move (.tmp 43)), none⟩, ⟨(some 45), (.faddr 5 (.tmp 4)), (some (44, false))⟩, ⟨(some 46), (.load1 (.tmp 45)), (some (44, false))⟩, ⟨(some 47), (.call 56 [(.tmp 46), (.const (.int .i64 (-2147483648))), (.const (.int .i64 2147483647))]), (some (44, false))⟩, ⟨(some 48), (.un .not (.tmp 47)), (some (44, false))⟩, ⟨(some 49), (.pick (.tmp 44) (.const (.bool true)) (.tmp 48)), none⟩, ⟨(some 50), (.move (.tmp 49)), none⟩, ⟨(some 51), (.faddr 6 (.tmp 4)), (some (50, false))⟩, ⟨(some 52), (.load1 (.tmp 51)), (some (50, false))⟩, ⟨(some 53), (.call 56 [(.tmp 52), (.const (.int .i64 0)), (.const (.int .i64 65535))]), (some (50, false))⟩, ⟨(some 54), (.un .not (.tmp 53)), (some (50, false))⟩, ⟨(some 55), (.pick (.tmp 50) (.const (.bool true)) (.tmp 54)), none⟩]) (.cond (.tmp 55) (.seq (.ops [⟨(some 2), (.assign (.const (.bool false))), none⟩]) .ret) .skip))))) (.ops [⟨(some 12), (.move (.tmp 3)), none⟩, ⟨(some 13), (.bin .add (.tmp 12) (.const (.int .i64 1))), none⟩, ⟨(some 3), (.assign (.tmp 13)), none⟩])))))) (.seq (.ops [⟨(some 2), (.assign (.const (.bool true))), none⟩]) .ret)))), [(.move (.tmp 2))]⟩
theorem k58 : cfun Tryz.prog 58 = some c58 := by kernel_rfl
def c59 : XFun := ⟨28, (.seq (.ops [⟨(some 2), (.assign (.const (.bool false))), none⟩]) (.seq (.seq (.ops [⟨(some 4), (.move (.tmp 0)), none⟩, ⟨(some 5), (.lenL (.tmp 4)), none⟩, ⟨(some 6), (.bin .gtr (.tmp 5) (.const (.int .i64 65535))), none⟩]) (.cond (.tmp 6) (.seq (.ops [⟨(some 2), (.assign (.const (.bool false))), none⟩]) .ret) .skip)) (.seq (.seq (.ops [⟨(some 3), (.assign (.const (.int .i64 0))), none⟩]) (.block 0 (.loop (.seq (.seq (.ops [⟨(some 7), (.move (.tmp 3)), none⟩, ⟨(some 8), (.move (.tmp 0)), none⟩, ⟨(some 9), (.lenL (.tmp 8)), none⟩, ⟨(some 10), (.bin .lss (.tmp 7) (.tmp 9)), none⟩]) (.cond (.tmp 10) .skip (.exit 0))) (.seq (.block 1 (.seq (.ops [⟨(some 13), (.move (.tmp 0)), none⟩, ⟨(some 14), (.move (.tmp 3)), none⟩, ⟨(some 15), (.iaddr 2 (.tmp 13) (.tmp 14)), none⟩, ⟨(some 16), (.faddr 0 (.tmp 15)), none⟩, ⟨(some 17), (.load1 (.tmp 16)), none⟩, ⟨(some 18), (.bin .eql (.tmp 17) (.const (.int .u8 0))), none⟩, ⟨(some 19), (.move (.tmp 18)), none⟩, ⟨(some 20), (.move (.tmp 0)), (some (19, false))⟩, ⟨(some 21), (.move (.tmp 3)), (some (19, false))⟩, ⟨(some 22), (.iaddr 2 (.tmp 20) (.tmp 21)), (some (19, false))⟩, ⟨(some 23), (.faddr 1 (.tmp 22)), (some (19, false))⟩, ⟨(some 24), (.load1 (.tmp 23)), (some (19, false))⟩, ⟨(some 25), (.call 55 [(.tmp 24)]), (some (19, false))⟩, ⟨(some 26), (.un .not (.tmp 25)), (some (19, false))⟩, ⟨(some 27), (.pick (.tmp 19) (.const (.bool true)) (.tmp 26)), none⟩]) (.cond (.tmp 27) (.seq (.ops [⟨(some 2), (.assign (.const (.bool false))), none⟩]) .ret) .skip))) (.ops [⟨(some 11), (.move (.tmp 3)), none⟩, ⟨(some 12), (.bin .add (.tmp 11) (.const (.int .i64 1))), none⟩, ⟨(some 3), (.assign (.tmp 12)), none⟩])))))) (.seq (.ops [⟨(some 2), (.assign (.const (.bool true))), none⟩]) .ret)))), [(.move (.tmp 2))]⟩
theorem k59 : cfun Tryz.prog 59 = some c59 := by kernel_rfl
def c61 : XFun := ⟨127, (.seq (.ops [⟨(some 2), (.box (.tmp 0)), none⟩, ⟨(some 3), (.box (.tmp 1)), none⟩, ⟨(some 4), (.assign (.const (.bool false))), none⟩]) (.seq (.ops [⟨(some 8), (.faddr 0 (.tmp 2)), none⟩, ⟨(some 9), (.load1 (.tmp 8)), none⟩, ⟨(some 10), (.faddr 0 (.tmp 3)), none⟩, ⟨(some 11), (.load1 (.tmp 10)), none⟩, ⟨(some 12), (.bin .eql (.tmp 9) (.tmp 11)), none⟩, ⟨(some 13), (.move (.tmp 12)), none⟩, ⟨(some 14), (.faddr 1 (.tmp 2)), (some (13, true))⟩, ⟨(some 15), (.load1 (.tmp 14)), (some (13, true))⟩, ⟨(some 16), (.faddr 1 (.tmp 3)), (some (13, true))⟩, ⟨(some 17), (.load1 (.tmp 16)), (some (13, true))⟩, ⟨(some 18), (.bin .eql (.tmp 15) (.tmp 17)), (some (13, true))⟩, ⟨(some 19), (.pick (.tmp 13) (.tmp 18) (.const (.bool false))), none⟩, ⟨(some 20), (.move (.tmp 19)), none⟩, ⟨(some 21), (.faddr 2 (.tmp 2)), (some (20, true))⟩, ⟨(some 22), (.load1 (.tmp 21)), (some (20, true))⟩, ⟨(some 23), (.faddr 2 (.tmp 3)), (some (20, true))⟩, ⟨(some 24), (.load1 (.tmp 23)), (some (20, true))⟩, ⟨(some 25), (.bin .eql (.tmp 22) (.tmp 24)), (some (20, true))⟩, ⟨(some 26), (.pick (.tmp 20) (.tmp 25) (.const (.bool false))), none⟩, ⟨(some 27), (.move (.tmp 26)), none⟩, ⟨(some 28), (.faddr 3 (.tmp 2)), (some (27, true))⟩, ⟨(some 29), (.load1 (.tmp 28)), (some (27, true))⟩, ⟨(some 30), (.faddr 3 (.tmp 3)), (some (27, true))⟩, ⟨(some 31), (.load1 (.tmp 30)), (some (27, true))⟩, ⟨(some 32), (.bin .eql (.tmp 29) (.tmp 31)), (some (27, true))⟩, ⟨(some 33), (.pick (.tmp 27) (.tmp 32) (.const (.bool false))), none⟩, ⟨(some 34), (.move (.tmp 33)), none⟩, ⟨(some 35), (.faddr 4 (.tmp 2)), (some (34, true))⟩, ⟨(some 36), (.load1 (.tmp 35)), (some (34, true))⟩, ⟨(some 37), (.faddr 4 (.tmp 3)), (some (34, true))⟩, ⟨(some 38), (.load1 (.tmp 37)), (some (34, true))⟩, ⟨(some 39), (.bin .eql (.tmp 36) (.tmp 38)), (some (34, true))⟩, ⟨(some 40), (.pick (.tmp 34) (.tmp 39) (.const (.bool false))), none⟩, ⟨(some 41), (.move (.tmp 40)), none⟩, ⟨(some 42), (.faddr 5 (.tmp 2)), (some (41, true))⟩, ⟨(some 43), (.load1 (.tmp 42)), (some (41, true))⟩, ⟨(some 44), (.faddr 5 (.tmp 3)), (some (41, true))⟩, ⟨(some 45), (.load1 (.tmp 44)), (some (41, true))⟩, ⟨(some 46), (.bin .eql (.tmp 43) (.tmp 45)), (some (41, true))⟩, ⟨(some 47), (.pick (.tmp 41) (.tmp 46) (.const (.bool false))), none⟩, ⟨(some 48), (.move (.tmp 47)), none⟩, ⟨(some 49), (.faddr 6 (.tmp 2)), (some (48, true))⟩, ⟨(some 50), (.load1 (.tmp 49)), (some (48, true))⟩, ⟨(some 51), (.faddr 6 (.tmp 3)), (some (48, true))⟩, ⟨(some 52), (.load1 (.tmp 51)), (some (48, true))⟩, ⟨(some 53), (.bin .eql (.tmp 50) (.tmp 52)), (some (48, true))⟩, ⟨(some 54), (.pick (.tmp 48) (.tmp 53) (.const (.bool false))), none⟩, ⟨(some 5), (.assign (.tmp 54)), none⟩]) (.seq (.seq (.ops [⟨(some 55), (.move (.tmp 5)), none⟩, ⟨(some 56), (.un .not (.tmp 55)), none⟩, ⟨(some 57), (.move (.tmp 56)), none⟩, ⟨(some 58), (.faddr 7 (.tmp 2)), (some (57, false))⟩, ⟨(some 59), (.load1 (.tmp 58)), (some (57, false))⟩, ⟨(some 60), (.faddr 7 (.tmp 3)), (some (57, false))⟩, ⟨(some 61), (.load1 (.tmp 60)), (some (57, false))⟩, ⟨(some 62), (.call 89 [(.tmp 59), (.tmp 61)]), (some (57, false))⟩, ⟨(some 63), (.un .not (.tmp 62)), (some (57, false))⟩, ⟨(some 64), (.pick (.tmp 57) (.const (.bool true)) (.tmp 63)), none⟩, ⟨(some 65), (.move (.tmp 64)), none⟩, ⟨(some 66), (.faddr 9 (.tmp 2)), (some (65, false))⟩, ⟨(some 67), (.load1 (.tmp 66)), (some (65, false))⟩, ⟨(some 68), (.faddr 9 (.tmp 3)), (some (65, false))⟩, ⟨(some 69), (.load1 (.tmp 68)), (some (65, false))⟩, ⟨(some 70), (.call 90 [(.tmp 67), (.tmp 69)]), (some (65, false))⟩, ⟨(some 71), (.un .not (.tmp 70)), (some (65, false))⟩, ⟨(some 72), (.pick (.tmp 65) (.const (.bool true)) (.tmp 71)), none⟩, ⟨(some 73), (.move (.tmp 72)), none⟩, ⟨(some 74), (.faddr 8 (.tmp 2)), (some (73, false))⟩, ⟨(some 75), (.load1 (.tmp 74)), (some (73, false))⟩, ⟨(some 76), (.lenL (.tmp 75)), (some (73, false))⟩, ⟨(some 77), (.faddr 8 (.tmp 3)), (some (73, false))⟩, ⟨(some 78), (.load1 (.tmp 77)), (some (73, false))⟩, ⟨(some 79), (.lenL (.tmp 78)), (some (73, false))⟩, ⟨(some 80), (.bin .neq (.tmp 76) (.tmp 79)), (some (73, false))⟩, ⟨(some 81), (.pick (.tmp 73) (.const (.bool true)) (.tmp 80)), none⟩, ⟨(some 82), (.move (.tmp 81)), none⟩, ⟨(some 83), (.faddr 10 (.tmp 2)), (some (82, false))⟩, ⟨(some 84), (.load1 (.tmp 83)), (some (82, false))⟩, ⟨(some 85), (.lenL (.tmp 84)), (some (82, false))⟩, ⟨(some 86), (.faddr 10 (.tmp 3)), (some (82, false))⟩, ⟨(some 87), (.load1 (.tmp 86)), (some (82, false))⟩, ⟨(some 88), (.lenL (.tmp 87)), (some (82, false))⟩, ⟨(some 89), (.bin .neq (.tmp 85) (.tmp 88)), (some (82, false))⟩, ⟨(some 90), (.pick (.tmp 82) (.const (.bool true)) (.tmp 89)), none⟩]) (.cond (.tmp 90) (.seq (.ops [⟨(some 4), (.assign (.const (.bool false))), none⟩]) .ret) .skip)) (.seq (.seq (.ops [⟨(some 6), (.assign (.const (.int .i64 0))), none⟩]) (.block 0 (.loop (.seq (.seq (.ops [⟨(some 91), (.move (.tmp 6)), none⟩, ⟨(some 92), (.faddr 8 (.tmp 2)), none⟩, ⟨(some 93), (.load1 (.tmp 92)), none⟩, ⟨(some 94), (.lenL (.tmp 93)), none⟩, ⟨(some 95), (.bin .lss (.tmp 91) (.tmp 94)), none⟩]) (.cond (.tmp 95) .skip (.exit 0))) (.seq (.block 1 (.seq (.draws (.take ⟨(some 98), (.faddr 8 (.tmp 2)), none⟩ (.take ⟨(some 99), (.load1 (.tmp 98)), none⟩ (.take ⟨(some 100), (.move (.tmp 6)), none⟩ (.take ⟨(some 101), (.iaddr 7 (.tmp 99) (.tmp 100)), none⟩ (.take ⟨(some 102), (.loadN 7 (.tmp 101)), none⟩ (.take ⟨(some 103), (.faddr 8 (.tmp 3)), none⟩ (.take ⟨(some 104), (.load1 (.tmp 103)), none⟩ (.take ⟨(some 105), (.move (.tmp 6)), none⟩ (.take ⟨(some 106), (.iaddr 7 (.tmp 104) (.tmp 105)), none⟩ (.take ⟨(some 107), (.loadN 7 (.tmp 106)), none⟩ (.take ⟨(some 108), (.aeq true [2, 1, 1, 1, 1, 1, 1] (.tmp 102) (.tmp 107)), none⟩ .done)))))))))))) (.cond (.tmp 108) (.seq (.ops [⟨(some 4), (.assign (.const (.bool false))), none⟩]) .ret) .skip))) (.ops [⟨(some 96), (.move (.tmp 6)), none⟩, ⟨(some 97), (.bin .add (.tmp 96) (.const (.int .i64 1))), none⟩, ⟨(some 6), (.assign (.tmp 97)), none⟩])))))) (.seq (.seq (.ops [⟨(some 7), (.assign (.const (.int .i64 0))), none⟩]) (.block 2 (.loop (.seq (.seq (.ops [⟨(some 109), (.move (.tmp 7)), none⟩, ⟨(some 110), (.faddr 10 (.tmp 2)), none⟩, ⟨(some 111), (.load1 (.tmp 110)), none⟩, ⟨(some 112), (.lenL (.tmp 111)), none⟩, ⟨(some 113), (.bin .lss (.tmp 109) (.tmp 112)), none⟩]) (.cond (.tmp 113) .skip (.exit 2))) (.seq (.block 3 (.seq (.draws (.take ⟨(some 116), (.faddr 10 (.tmp 2)), none⟩ (.take ⟨(some 117), (.load1 (.tmp 116)), none⟩ (.take ⟨(some 118), (.move (.tmp 7)), none⟩ (.take ⟨(some 119), (.iaddr 2 (.tmp 117) (.tmp 118)), none⟩ (.take ⟨(some 120), (.loadN 2 (.tmp 119)), none⟩ (.take ⟨(some 121), (.faddr 10 (.tmp 3)), none⟩ (.take ⟨(some 122), (.load1 (.tmp 121)), none⟩ (.take ⟨(some 123), (.move (.tmp 7)), none⟩ (.take ⟨(some 124), (.iaddr 2 (.tmp 122) (.tmp 123)), none⟩ (.take ⟨(some 125), (.loadN 2 (.tmp 124)), none⟩ (.take ⟨(some 126), (.aeq true [1, 2] (.tmp 120) (.tmp 125)), none⟩ .done)))))))))))) (.cond (.tmp 126) (.seq (.ops [⟨(some 4), (.assign (.const (.bool false))), none⟩]) .ret) .skip))) (.ops [⟨(some 114), (.move (.tmp 7)), none⟩, ⟨(some 115), (.bin .add (.tmp 114) (.const (.int .i64 1))), none⟩, ⟨(some 7), (.assign (.tmp 115)), none⟩])))))) (.seq (.ops [⟨(some 4), (.assign (.const (.bool true))), none⟩]) .ret)))))), [(.move (.tmp 4))]⟩
theorem k61 : cfun Tryz.prog 61 = some c61 := by kernel_rfl
def c40 : XFun := ⟨89, (.seq (.ops [⟨(some 1), (.box (.tmp 0)), none⟩, ⟨(some 2), (.assign (.const (.int .i64 0))), none⟩]) (.seq (.seq (.ops [⟨(some 6), (.faddr 0 (.tmp 1)), none⟩, ⟨(some 7), (.load1 (.tmp 6)), none⟩, ⟨(some 8), (.call 54 [(.tmp 7)]), none⟩, ⟨(some 9), (.un .not (.tmp 8)), none⟩]) (.cond (.tmp 9) (.seq (.ops [⟨(some 2), (.assign (.const (.int .i64 9))), none⟩]) .ret) .skip)) (.seq (.ops [⟨(some 10), (.faddr 2 (.tmp 1)), none⟩, ⟨(some 11), (.load1 (.tmp 10)), none⟩, ⟨(some 12), (.call 55 [(.tmp 11)]), none⟩, ⟨(some 13), (.move (.tmp 12)), none⟩, ⟨(some 14), (.faddr 3 (.tmp 1)), (some (13, true))⟩, ⟨(some 15), (.load1 (.tmp 14)), (some (13, true))⟩, ⟨(some 16), (.call 55 [(.tmp 15)]), (some (13, true))⟩, ⟨(some 17), (.pick (.tmp 13) (.tmp 16) (.const (.bool false))), none⟩, ⟨(some 18), (.move (.tmp 17)), none⟩, ⟨(some 19), (.faddr 4 (.tmp 1)), (some (18, true))⟩, ⟨(some 20), (.load1 (.tmp 19)), (some (18, true))⟩, ⟨(some 21), (.call 55 [(.tmp 20)]), (some (18, true))⟩, ⟨(some 22), (.pick (.tmp 18) (.tmp 21) (.const (.bool false))), none⟩, ⟨(some 3), (.assign (.tmp 22)), none⟩]) (.seq (.ops [⟨(some 23), (.faddr 5 (.tmp 1)), none⟩, ⟨(some 24), (.load1 (.tmp 23)), none⟩, ⟨(some 25), (.call 56 [(.tmp 24), (.const (.int .i64 0)), (.const (.int .i64 4294967295))]), none⟩, ⟨(some 26), (.move (.tmp 25)), none⟩, ⟨(some 27), (.faddr 6 (.tmp 1)), (some (26, true))⟩, ⟨(some 28), (.load1 (.tmp 27)), (some (26, true))⟩, ⟨(some 29), (.call 56 [(.tmp 28), (.const (.int .i64 0)), (.const (.int .i64 4294967295))]), (some (26, true))⟩, ⟨(some 30), (.pick (.tmp 26) (.tmp 29) (.const (.bool false))), none⟩, ⟨(some 31), (.move (.tmp 30)), none⟩, ⟨(some 32), (.faddr 7 (.tmp 1)), (some (31, true))⟩, ⟨(some 33), (.load1 (.tmp 32)), (some (31, true))⟩, ⟨(some 34), (.call 57 [(.tmp 33), (.const (.int .i64 0)), (.const (.int .i64 4294967295))]), (some (31, true))⟩, ⟨(some 35), (.pick (.tmp 31) (.tmp 34) (.const (.bool false))), none⟩, ⟨(some 4), (.assign (.tmp 35)), none⟩]) (.seq (.ops [⟨(some 36), (.faddr 0 (.tmp 1)), none⟩, ⟨(some 37), (.load1 (.tmp 36)), none⟩, ⟨(some 38), (.bin .neq (.tmp 37) (.const (.int .u8 90))), none⟩, ⟨(some 39), (.move (.tmp 38)), none⟩, ⟨(some 40), (.faddr 1 (.tmp 1)), (some (39, false))⟩, ⟨(some 41), (.load1 (.tmp 40)), (some (39, false))⟩, ⟨(some 42), (.bin .eql (.tmp 41) (.const (.int .u8 73))), (some (39, false))⟩, ⟨(some 43), (.pick (.tmp 39) (.const (.bool true)) (.tmp 42)), none⟩, ⟨(some 44), (.move (.tmp 43)), none⟩, ⟨(some 45), (.faddr 1 (.tmp 1)), (some (44, false))⟩, ⟨(some 46), (.load1 (.tmp 45)), (some (44, false))⟩, ⟨(some 47), (.bin .eql (.tmp 46) (.const (.int .u8 84))), (some (44, false))⟩, ⟨(some 48), (.pick (.tmp 44) (.const (.bool true)) (.tmp 47)), none⟩, ⟨(some 49), (.move (.tmp 48)), none⟩, ⟨(some 50), (.faddr 1 (.tmp 1)), (some (49, false))⟩, ⟨(some 51), (.load1 (.tmp 50)), (some (49, false))⟩, ⟨(some 52), (.bin .eql (.tmp 51) (.const (.int .u8 69))), (some (49, false))⟩, ⟨(some 53), (.pick (.tmp 49) (.const (.bool true)) (.tmp 52)), none⟩, ⟨(some 5), (.assign (.tmp 53)), none⟩]) (.seq (.seq (.draws (.take ⟨(some 54), (.move (.tmp 3)), none⟩ (.take ⟨(some 55), (.un .not (.tmp 54)), none⟩ (.take ⟨(some 56), (.move (.tmp 55)), none⟩ (.take ⟨(some 57), (.move (.tmp 4)), (some (56, false))⟩ (.take ⟨(some 58), (.un .not (.tmp 57)), (some (56, false))⟩ (.take ⟨(some 59), (.pick (.tmp 56) (.const (.bool true)) (.tmp 58)), none⟩ (.take ⟨(some 60), (.move (.tmp 59)), none⟩ (.take ⟨(some 61), (.move (.tmp 5)), (some (60, false))⟩ (.take ⟨(some 62), (.un .not (.tmp 61)), (some (60, false))⟩ (.take ⟨(some 63), (.pick (.tmp 60) (.const (.bool true)) (.tmp 62)), none⟩ (.take ⟨(some 64), (.move (.tmp 63)), none⟩ (.take ⟨(some 65), (.faddr 8 (.tmp 1)), (some (64, false))⟩ (.take ⟨(some 66), (.load1 (.tmp 65)), (some (64, false))⟩ (.only ⟨(some 67), (.call 58 [(.tmp 66)]), (some (64, false))⟩ (.take ⟨(some 68), (.un .not (.tmp 67)), (some (64, false))⟩ (.take ⟨(some 69), (.pick (.tmp 64) (.const (.bool true)) (.tmp 68)), none⟩ (.take ⟨(some 70), (.move (.tmp 69)), none⟩ (.take ⟨(some 71), (.faddr 10 (.tmp 1)), (some (70, false))⟩ (.take ⟨(some 72), (.load1 (.tmp 71)), (some (70, false))⟩ (.only ⟨(some 73), (.call 59 [(.tmp 72)]), (some (70, false))⟩ (.take ⟨(some 74), (.un .not (.tmp 73)), (some (70, false))⟩ (.take ⟨(some 75), (.pick (.tmp 70) (.const (.bool true)) (.tmp 74)), none⟩ (.take ⟨(some 76), (.move (.tmp 75)), none⟩ (.take ⟨(some 77), (.faddr 9 (.tmp 1)), (some (76, false))⟩ (.take ⟨(some 78), (.load1 (.tmp 77)), (some (76, false))⟩ (.only ⟨(some 79), (.call 60 [(.tmp 78)]), (some (76, false))⟩ (.take ⟨(some 80), (.un .not (.tmp 79)), (some (76, false))⟩ (.take ⟨(some 81), (.pick (.tmp 76) (.const (.bool true)) (.tmp 80)), none⟩ (.take ⟨(some 82), (.move (.tmp 81)), none⟩ (.take ⟨(some 83), (.loadN 11 (.tmp 1)), (some (82, false))⟩ (.take ⟨(some 84), (.loadN 11 (.tmp 1)), (some (82, false))⟩ (.only ⟨(some 85), (.call 62 [(.tmp 84)]), (some (82, false))⟩ (.only ⟨(some 86), (.call 61 [(.tmp 83), (.tmp 85)]), (some (82, false))⟩ (.take ⟨(some 87), (.un .not (.tmp 86)), (some (82, false))⟩ (.take ⟨(some 88), (.pick (.tmp 82) (.const (.bool true)) (.tmp 87)), none⟩ .done)))))))))))))))))))))))))))))))))))) (.cond (.tmp 88) (.seq (.ops [⟨(some 2), (.assign (.const (.int .i64 1))), none⟩]) .ret) .skip)) (.seq (.ops [⟨(some 2), (.assign (.const (.int .i64 0))), none⟩]) .ret))))))), [(.move (.tmp 2))]⟩
theorem k40 : cfun Tryz.prog 40 = some c40 := by kernel_rfl
def c44 : XFun := ⟨44, (.seq (.ops [⟨(some 2), (.assign (.const (.slice none 0 0))), none⟩]) (.seq (.ops [⟨(some 6), (.move (.tmp 0)), none⟩, ⟨(some 7), (.lenL (.tmp 6)), none⟩, ⟨(some 8), (.call 41 [(.const (.slice none 0 0)), (.tmp 7), (.const (.int .i64 2))]), none⟩, ⟨(some 3), (.assign (.tmp 8)), none⟩]) (.seq (.seq (.ops [⟨(some 4), (.assign (.const (.int .i64 0))), none⟩]) (.block 0 (.loop (.seq (.seq (.ops [⟨(some 9), (.move (.tmp 4)), none⟩, ⟨(some 10), (.move (.tmp 0)), none⟩, ⟨(some 11), (.lenL (.tmp 10)), none⟩, ⟨(some 12), (.bin .lss (.tmp 9) (.tmp 11)), none⟩]) (.cond (.tmp 12) .skip (.exit 0))) (.seq (.block 1 (.seq (.ops [⟨(some 15), (.move (.tmp 0)), none⟩, ⟨(some 16), (.move (.tmp 4)), none⟩, ⟨(some 17), (.iaddr 7 (.tmp 15) (.tmp 16)), none⟩, ⟨(some 18), (.loadN 7 (.tmp 17)), none⟩, ⟨(some 5), (.alloc [(.v (.string (strB []))), (.v (.int .i64 0)), (.v (.int .i64 0)), (.v (.int .i64 0)), (.v (.int .i64 0)), (.v (.int .i64 0)), (.v (.int .i64 0))]), none⟩, ⟨none, (.store 7 (.tmp 5) (.tmp 18)), none⟩]) (.seq (.draws (.take ⟨(some 19), (.move (.tmp 3)), none⟩ (.take ⟨(some 20), (.faddr 0 (.tmp 5)), none⟩ (.take ⟨(some 21), (.load1 (.tmp 20)), none⟩ (.take ⟨(some 23), (.faddr 1 (.tmp 5)), none⟩ (.take ⟨(some 24), (.load1 (.tmp 23)), none⟩ (.take ⟨(some 26), (.faddr 2 (.tmp 5)), none⟩ (.take ⟨(some 27), (.load1 (.tmp 26)), none⟩ (.only ⟨(some 22), (.call 42 [(.tmp 19), (.tmp 21)]), none⟩ (.only ⟨(some 25), (.call 41 [(.tmp 22), (.tmp 24), (.const (.int .i64 4))]), none⟩ (.only ⟨(some 28), (.call 41 [(.tmp 25), (.tmp 27), (.const (.int .i64 2))]), none⟩ (.take ⟨(some 3), (.assign (.tmp 28)), none⟩ .done)))))))))))) (.seq (.draws (.take ⟨(some 29), (.move (.tmp 3)), none⟩ (.take ⟨(some 30), (.faddr 3 (.tmp 5)), none⟩ (.take ⟨(some 31), (.load1 (.tmp 30)), none⟩ (.take ⟨(some 33), (.faddr 4 (.tmp 5)), none⟩ (.take ⟨(some 34), (.load1 (.tmp 33)), none⟩ (.only ⟨(some 32), (.call 41 [(.tmp 29), (.tmp 31), (.const (.int .i64 4))]), none⟩ (.only ⟨(some 35), (.call 41 [(.tmp 32), (.tmp 34), (.const (.int .i64 2))]), none⟩ (.take ⟨(some 3), (.assign (.tmp 35)), none⟩ .done))))))))) (.draws (.take ⟨(some 36), (.move (.tmp 3)), none⟩ (.take ⟨(some 37), (.faddr 5 (.tmp 5)), none⟩ (.take ⟨(some 38), (.load1 (.tmp 37)), none⟩ (.take ⟨(some 40), (.faddr 6 (.tmp 5)), none⟩ (.take ⟨(some 41), (.load1 (.tmp 40)), none⟩ (.only ⟨(some 39), (.call 41 [(.tmp 36), (.tmp 38), (.const (.int .i64 4))]), none⟩ (.only ⟨(some 42), (.call 41 [(.tmp 39), (.tmp 41), (.const (.int .i64 2))]), none⟩ (.take ⟨(some 3), (.assign (.tmp 42)), none⟩ .done))))))))))))) (.ops [⟨(some 13), (.move (.tmp 4)), none⟩, ⟨(some 14), (.bin .add (.tmp 13) (.const (.int .i64 1))), none⟩, ⟨(some 4), (.assign (.tmp 14)), none⟩])))))) (.seq (.ops [⟨(some 43), (.move (.tmp 3)), none⟩, ⟨(some 2), (.assign (.tmp 43)), none⟩]) .ret)))), [(.move (.tmp 2))]⟩
theorem k44 : cfun Tryz.prog 44 = some c44 := by kernel_rfl
def c46 : XFun := ⟨28, (.seq (.ops [⟨(some 2), (.assign (.const (.slice none 0 0))), none⟩]) (.seq (.ops [⟨(some 3), (.assign (.const (.slice none 0 0))), none⟩]) (.seq (.seq (.ops [⟨(some 4), (.assign (.const (.int .i64 0))), none⟩]) (.block 0 (.loop (.seq (.seq (.ops [⟨(some 5), (.move (.tmp 4)), none⟩, ⟨(some 6), (.move (.tmp 0)), none⟩, ⟨(some 7), (.lenL (.tmp 6)), none⟩, ⟨(some 8), (.bin .lss (.tmp 5) (.tmp 7)), none⟩]) (.cond (.tmp 8) .skip (.exit 0))) (.seq (.block 1 (.draws (.take ⟨(some 11), (.move (.tmp 3)), none⟩ (.take ⟨(some 12), (.move (.tmp 0)), none⟩ (.take ⟨(some 13), (.move (.tmp 4)), none⟩ (.take ⟨(some 14), (.iaddr 2 (.tmp 12) (.tmp 13)), none⟩ (.take ⟨(some 15), (.faddr 0 (.tmp 14)), none⟩ (.take ⟨(some 16), (.load1 (.tmp 15)), none⟩ (.take ⟨(some 19), (.move (.tmp 0)), none⟩ (.take ⟨(some 20), (.move (.tmp 4)), none⟩ (.take ⟨(some 21), (.iaddr 2 (.tmp 19) (.tmp 20)), none⟩ (.take ⟨(some 22), (.faddr 1 (.tmp 21)), none⟩ (.take ⟨(some 23), (.load1 (.tmp 22)), none⟩ (.only ⟨(some 17), (.buildSlice 1 1 [(.v (.int .u8 0))] [(0, (.tmp 16))]), none⟩ (.only ⟨(some 18), (.append 1 1 (.tmp 11) (.tmp 17)), none⟩ (.only ⟨(some 24), (.call 42 [(.tmp 18), (.tmp 23)]), none⟩ (.take ⟨(some 3), (.assign (.tmp 24)), none⟩ .done))))))))))))))))) (.ops [⟨(some 9), (.move (.tmp 4)), none⟩, ⟨(some 10), (.bin .add (.tmp 9) (.const (.int .i64 1))), none⟩, ⟨(some 4), (.assign (.tmp 10)), none⟩])))))) (.seq (.ops [⟨(some 25), (.move (.tmp 3)), none⟩, ⟨(some 26), (.buildSlice 1 1 [(.v (.int .u8 0))] [(0, (.const (.int .u8 0)))]), none⟩, ⟨(some 27), (.append 1 1 (.tmp 25) (.tmp 26)), none⟩, ⟨(some 2), (.assign (.tmp 27)), none⟩]) .ret)))), [(.move (.tmp 2))]⟩
theorem k46 : cfun Tryz.prog 46 = some c46 := by kernel_rfl
def c29 : XFun := ⟨68, (.seq (.ops [⟨(some 1), (.box (.tmp 0)), none⟩, ⟨(some 2), (.alloc [(.v (.int .u8 0)), (.sl 0 [] (some true) .exact)]), none⟩, ⟨(some 3), (.assign (.const (.int .i64 0))), none⟩]) (.seq (.seq (.ops [⟨(some 6), (.loadN 11 (.tmp 1)), none⟩, ⟨(some 7), (.call 40 [(.tmp 6)]), none⟩, ⟨(some 4), (.assign (.tmp 7)), none⟩]) (.seq (.ops [⟨(some 8), (.move (.tmp 4)), none⟩, ⟨(some 9), (.bin .neq (.tmp 8) (.const (.int .i64 0))), none⟩]) (.cond (.tmp 9) (.seq (.ops [⟨(some 10), (.build [(.v (.int .u8 0)), (.sl 0 [] (some true) .exact)] []), none⟩, ⟨(some 11), (.move (.tmp 4)), none⟩, ⟨none, (.store 2 (.tmp 2) (.tmp 10)), none⟩, ⟨(some 3), (.assign (.tmp 11)), none⟩]) .ret) .skip))) (.seq (.ops [⟨(some 5), (.assign (.const (.slice none 0 0))), none⟩]) (.seq (.seq (.ops [⟨(some 12), (.faddr 0 (.tmp 1)), none⟩, ⟨(some 13), (.load1 (.tmp 12)), none⟩]) (.block 0 (.seq (.ops [⟨(some 15), (.bin .eql (.tmp 13) (.const (.int .u8 82))), none⟩, ⟨(some 14), (.assign (.tmp 15)), none⟩]) (.cond (.tmp 14) (.ops [⟨(some 16), (.call 41 [(.const (.slice none 0 0)), (.const (.int .i64 0)), (.const (.int .i64 4))]), none⟩, ⟨(some 5), (.assign (.tmp 16)), none⟩]) (.seq (.ops [⟨(some 18), (.bin .eql (.tmp 13) (.const (.int .u8 83))), none⟩, ⟨(some 17), (.assign (.tmp 18)), none⟩]) (.cond (.tmp 17) (.draws (.take ⟨(some 19), (.faddr 3 (.tmp 1)), none⟩ (.take ⟨(some 20), (.load1 (.tmp 19)), none⟩ (.take ⟨(some 22), (.faddr 4 (.tmp 1)), none⟩ (.take ⟨(some 23), (.load1 (.tmp 22)), none⟩ (.only ⟨(some 21), (.call 42 [(.const (.slice none 0 0)), (.tmp 20)]), none⟩ (.only ⟨(some 24), (.call 42 [(.tmp 21), (.tmp 23)]), none⟩ (.take ⟨(some 5), (.assign (.tmp 24)), none⟩ .done)))))))) (.seq (.ops [⟨(some 26), (.bin .eql (.tmp 13) (.const (.int .u8 75))), none⟩, ⟨(some 25), (.assign (.tmp 26)), none⟩]) (.cond (.tmp 25) (.draws (.take ⟨(some 27), (.faddr 5 (.tmp 1)), none⟩ (.take ⟨(some 28), (.load1 (.tmp 27)), none⟩ (.take ⟨(some 30), (.faddr 6 (.tmp 1)), none⟩ (.take ⟨(some 31), (.load1 (.tmp 30)), none⟩ (.only ⟨(some 29), (.call 41 [(.const (.slice none 0 0)), (.tmp 28), (.const (.int .i64 4))]), none⟩ (.only ⟨(some 32), (.call 41 [(.tmp 29), (.tmp 31), (.const (.int .i64 4))]), none⟩ (.take ⟨(some 5), (.assign (.tmp 32)), none⟩ .done)))))))) (.seq (.ops [⟨(some 34), (.bin .eql (.tmp 13) (.const (.int .u8 90))), none⟩, ⟨(some 33), (.assign (.tmp 34)), none⟩]) (.cond (.tmp 33) (.ops [⟨(some 35), (.faddr 1 (.tmp 1)), none⟩, ⟨(some 36), (.load1 (.tmp 35)), none⟩, ⟨(some 37), (.buildSlice 1 1 [(.v (.int .u8 0))] [(0, (.tmp 36))]), none⟩, ⟨(some 5), (.assign (.tmp 37)), none⟩]) (.seq (.ops [⟨(some 39), (.bin .eql (.tmp 13) (.const (.int .u8 67))), none⟩, ⟨(some 38), (.assign (.tmp 39)), none⟩]) (.cond (.tmp 38) (.ops [⟨(some 40), (.faddr 2 (.tmp 1)), none⟩, ⟨(some 41), (.load1 (.tmp 40)), none⟩, ⟨(some 42), (.call 42 [(.const (.slice none 0 0)), (.tmp 41)]), none⟩, ⟨(some 5), (.assign (.tmp 42)), none⟩]) (.seq (.ops [⟨(some 44), (.bin .eql (.tmp 13) (.const (.int .u8 68))), none⟩, ⟨(some 43), (.assign (.tmp 44)), none⟩]) (.cond (.tmp 43) (.ops [⟨(some 45), (.faddr 9 (.tmp 1)), none⟩, ⟨(some 46), (.load1 (.tmp 45)), none⟩, ⟨(some 47), (.call 43 [(.const (.slice none 0 0)), (.tmp 46)]), none⟩, ⟨(some 5), (.assign (.tmp 47)), none⟩]) (.seq (.ops [⟨(some 49), (.bin .eql (.tmp 13) (.const (.int .u8 84))), none⟩, ⟨(some 48), (.assign (.tmp 49)), none⟩]) (.cond (.tmp 48) (.ops [⟨(some 50), (.faddr 8 (.tmp 1)), none⟩, ⟨(some 51), (.load1 (.tmp 50)), none⟩, ⟨(some 52), (.call 44 [(.tmp 51)]), none⟩, ⟨(some 5), (.assign (.tmp 52)), none⟩]) (.seq (.ops [⟨(some 54), (.bin .eql (.tmp 13) (.const (.int .u8 116))), none⟩, ⟨(some 53), (.assign (.tmp 54)), none⟩]) (.cond (.tmp 53) (.ops [⟨(some 55), (.faddr 7 (.tmp 1)), none⟩, ⟨(some 56), (.load1 (.tmp 55)), none⟩, ⟨(some 57), (.call 45 [(.const (.slice none 0 0)), (.tmp 56), (.const (.int .i64 4))]), none⟩, ⟨(some 5), (.assign (.tmp 57)), none⟩]) (.seq (.seq (.ops [⟨(some 59), (.bin .eql (.tmp 13) (.const (.int .u8 69))), none⟩, ⟨(some 58), (.assign (.tmp 59)), none⟩]) (.cond (.tmp 58) .skip (.ops [⟨(some 60), (.bin .eql (.tmp 13) (.const (.int .u8 78))), none⟩, ⟨(some 58), (.assign (.tmp 60)), none⟩]))) (.cond (.tmp 58) (.ops [⟨(some 61), (.faddr 10 (.tmp 1)), none⟩, ⟨(some 62), (.load1 (.tmp 61)), none⟩, ⟨(some 63), (.call 46 [(.tmp 62)]), none⟩, ⟨(some 5), (.assign (.tmp 63)), none⟩]) .skip)))))))))))))))))))) (.seq (.ops [⟨(some 64), (.faddr 0 (.tmp 1)), none⟩, ⟨(some 65), (.load1 (.tmp 64)), none⟩, ⟨(some 66), (.move (.tmp 5)), none⟩, ⟨(some 67), (.build [(.v (.int .u8 0)), (.sl 0 [] (some true) .exact)] [(0, (1, (.tmp 65))), (1, (1, (.tmp 66)))]), none⟩, ⟨none, (.store 2 (.tmp 2) (.tmp 67)), none⟩, ⟨(some 3), (.assign (.const (.int .i64 0))), none⟩]) .ret))))), [(.loadN 2 (.tmp 2)), (.move (.tmp 3))]⟩
theorem k29 : cfun Tryz.prog 29 = some c29 := by kernel_rfl
def c20 : XFun := ⟨28, (.seq (.ops [⟨(some 2), (.assign (.const (.slice none 0 0))), none⟩]) (.seq (.ops [⟨(some 3), (.assign (.const (.slice none 0 0))), none⟩]) (.seq (.seq (.ops [⟨(some 4), (.assign (.const (.int .i64 0))), none⟩]) (.block 0 (.loop (.seq (.seq (.ops [⟨(some 7), (.move (.tmp 4)), none⟩, ⟨(some 8), (.move (.tmp 0)), none⟩, ⟨(some 9), (.lenL (.tmp 8)), none⟩, ⟨(some 10), (.bin .lss (.tmp 7) (.tmp 9)), none⟩]) (.cond (.tmp 10) .skip (.exit 0))) (.seq (.block 1 (.seq (.ops [⟨(some 14), (.move (.tmp 0)), none⟩, ⟨(some 15), (.move (.tmp 4)), none⟩, ⟨(some 16), (.iaddr 11 (.tmp 14) (.tmp 15)), none⟩, ⟨(some 17), (.loadN 11 (.tmp 16)), none⟩, ⟨(some 18), (.call 29 [(.tmp 17)]), none⟩, ⟨(some 13), (.move (.tmp 18)), none⟩, ⟨(some 19), (.extract (.tmp 13) 0), none⟩, ⟨(some 20), (.extract (.tmp 13) 1), none⟩, ⟨(some 5), (.alloc [(.v (.int .u8 0)), (.sl 0 [] (some true) .exact)]), none⟩, ⟨none, (.store 2 (.tmp 5) (.tmp 19)), none⟩, ⟨(some 6), (.assign (.tmp 20)), none⟩]) (.seq (.ops [⟨(some 21), (.move (.tmp 6)), none⟩, ⟨(some 22), (.bin .eql (.tmp 21) (.const (.int .i64 0))), none⟩]) (.cond (.tmp 22) (.ops [⟨(some 23), (.move (.tmp 3)), none⟩, ⟨(some 24), (.loadN 2 (.tmp 5)), none⟩, ⟨(some 25), (.call 30 [(.tmp 24)]), none⟩, ⟨(some 26), (.append 1 1 (.tmp 23) (.tmp 25)), none⟩, ⟨(some 3), (.assign (.tmp 26)), none⟩]) .skip)))) (.ops [⟨(some 11), (.move (.tmp 4)), none⟩, ⟨(some 12), (.bin .add (.tmp 11) (.const (.int .i64 1))), none⟩, ⟨(some 4), (.assign (.tmp 12)), none⟩])))))) (.seq (.ops [⟨(some 27), (.move (.tmp 3)), none⟩, ⟨(some 2), (.assign (.tmp 27)), none⟩]) .ret)))), [(.move (.tmp 2))]⟩
theorem k20 : cfun Tryz.prog 20 = some c20 := by kernel_rfl
def c30 : XFun := ⟨21, (.seq (.ops [⟨(some 1), (.box (.tmp 0)), none⟩, ⟨(some 2), (.assign (.const (.slice none 0 0))), none⟩]) (.seq (.ops [⟨(some 3), (.assign (.const (.slice none 0 0))), none⟩]) (.seq (.seq (.ops [⟨(some 4), (.faddr 0 (.tmp 1)), none⟩, ⟨(some 5), (.load1 (.tmp 4)), none⟩, ⟨(some 6), (.bin .neq (.tmp 5) (.const (.int .u8 0))), none⟩]) (.cond (.tmp 6) (.ops [⟨(some 7), (.move (.tmp 3)), none⟩, ⟨(some 8), (.faddr 0 (.tmp 1)), none⟩, ⟨(some 9), (.load1 (.tmp 8)), none⟩, ⟨(some 10), (.buildSlice 1 1 [(.v (.int .u8 0))] [(0, (.tmp 9))]), none⟩, ⟨(some 11), (.append 1 1 (.tmp 7) (.tmp 10)), none⟩, ⟨(some 3), (.assign (.tmp 11)), none⟩]) .skip)) (.seq (.draws (.take ⟨(some 12), (.move (.tmp 3)), none⟩ (.take ⟨(some 13), (.faddr 1 (.tmp 1)), none⟩ (.take ⟨(some 14), (.load1 (.tmp 13)), none⟩ (.take ⟨(some 15), (.lenL (.tmp 14)), none⟩ (.take ⟨(some 16), (.bin .add (.tmp 15) (.const (.int .i64 4))), none⟩ (.take ⟨(some 18), (.faddr 1 (.tmp 1)), none⟩ (.take ⟨(some 19), (.load1 (.tmp 18)), none⟩ (.only ⟨(some 17), (.call 41 [(.tmp 12), (.tmp 16), (.const (.int .i64 4))]), none⟩ (.only ⟨(some 20), (.append 1 1 (.tmp 17) (.tmp 19)), none⟩ (.take ⟨(some 2), (.assign (.tmp 20)), none⟩ .done))))))))))) .ret)))), [(.move (.tmp 2))]⟩
theorem k30 : cfun Tryz.prog 30 = some c30 := by kernel_rfl
end Go.Proofs.YtofkddajlgebjaaGreat.Ax
/- The document's answers for back, over values without memory: kinds, checks, what is the same. -/
namespace Go.Proofs.YtofkddajlgebjaaGreat.Ax
open Go.RowKit Go By YtofkddajlgebjaaGreat.Nm Sc Dg
set_option linter.unusedSimpArgs false
set_option linter.unusedVariables false
set_option maxRecDepth 10000

theorem rbkind_c (k : Int) (h : List (List AV)) : Contract Tryz.prog 54 [.v (.int .u8 k)] h (.v (.bool (kindB k))) h [] := by
  refine contract_of k54 mixed (by simp [c54]) fun hh hargs => ?_
  by_cases h82 : k = 82
  · subst h82; simp [c54, hh, kindB]
  by_cases h83 : k = 83
  · subst h83; simp [c54, hh, kindB]
  by_cases h75 : k = 75
  · subst h75; simp [c54, hh, kindB]
  by_cases h90 : k = 90
  · subst h90; simp [c54, hh, kindB]
  by_cases h49 : k = 49
  · subst h49; simp [c54, hh, kindB]
  by_cases h50 : k = 50
  · subst h50; simp [c54, hh, kindB]
  by_cases h51 : k = 51
  · subst h51; simp [c54, hh, kindB]
  by_cases h110 : k = 110
  · subst h110; simp [c54, hh, kindB]
  by_cases h115 : k = 115
  · subst h115; simp [c54, hh, kindB]
  by_cases h73 : k = 73
  · subst h73; simp [c54, hh, kindB]
  by_cases h67 : k = 67
  · subst h67; simp [c54, hh, kindB]
  by_cases h68 : k = 68
  · subst h68; simp [c54, hh, kindB]
  by_cases h84 : k = 84
  · subst h84; simp [c54, hh, kindB]
  by_cases h116 : k = 116
  · subst h116; simp [c54, hh, kindB]
  by_cases h69 : k = 69
  · subst h69; simp [c54, hh, kindB]
  by_cases h78 : k = 78
  · subst h78; simp [c54, hh, kindB]
  simp [c54, hh, kindB, h82, h83, h75, h90, h49, h50, h51, h110, h115, h73, h67, h68, h84, h116, h69, h78]
theorem rbin_c (n lo hi : Int) (h : List (List AV)) : Contract Tryz.prog 56 [.v (.int .i64 n), .v (.int .i64 lo), .v (.int .i64 hi)] h (.v (.bool (betB lo hi n))) h [] := by
  refine contract_of k56 mixed (by simp [c56]) fun hh hargs => ?_
  by_cases h1 : lo ≤ n
  · have h2 : ¬ n < lo := by omega
    by_cases h3 : n ≤ hi
    · have h4 : ¬ hi < n := by omega
      simp [c56, hh, betB, h1, h2, h3, h4]
    · have h4 : hi < n := by omega
      simp [c56, hh, betB, h1, h2, h3, h4]
  · have h2 : n < lo := by omega
    simp [c56, hh, betB, h1, h2]
theorem rbkept_c (m : Bk) (h : List (List AV)) : Contract Tryz.prog 62 [.agg (bkC m)] h (.agg (bkC (saidB m))) h [] := by
  refine contract_of k62 mixed (by simp [c62]) fun hh hargs => ?_
  by_cases h83 : m.kind = 83
  · simp [c62, bkC_mk, hh, saidB, h83]
  by_cases h75 : m.kind = 75
  · simp [c62, bkC_mk, hh, saidB, h75]
  by_cases h90 : m.kind = 90
  · simp [c62, bkC_mk, hh, saidB, h90]
  by_cases h67 : m.kind = 67
  · simp [c62, bkC_mk, hh, saidB, h67]
  by_cases h68 : m.kind = 68
  · simp [c62, bkC_mk, hh, saidB, h68]
  by_cases h84 : m.kind = 84
  · simp [c62, bkC_mk, hh, saidB, h84]
  by_cases h116 : m.kind = 116
  · simp [c62, bkC_mk, hh, saidB, h116]
  by_cases h69 : m.kind = 69
  · simp [c62, bkC_mk, hh, saidB, h69]
  by_cases h78 : m.kind = 78
  · simp [c62, bkC_mk, hh, saidB, h78]
  simp [c62, bkC_mk, hh, saidB, h83, h75, h90, h67, h68, h84, h116, h69, h78]

/-! ### Columns, fields -/
def rcolB (c : Co) : Bool := cleanB c.name && (betB 0 4294967295 c.table && (betB 0 65535 c.attr && (betB 0 4294967295 c.oid && (betB (-32768) 32767 c.size && (betB (-2147483648) 2147483647 c.mod && betB 0 65535 c.format)))))
theorem rbcols_c (l : List Co) (hn : ∀ c ∈ l, c.name.length ≤ 1000000) (h : List (List AV)) : Contract Tryz.prog 58 [.sl 7 (enc coC l) none .no] h (.v (.bool (decide (l.length ≤ 65535) && l.all rcolB))) h [] := by
  refine contract_of k58 mixed (by simp [c58]) fun hh hargs => ?_
  by_cases hl : (65535 : Int) < l.length
  · have hl' : ¬ l.length ≤ 65535 := by omega
    simp [c58, hl, hl', hh]
  · have hl' : l.length ≤ 65535 := by omega
    simp [c58, hl, hl']
    refine xloop_ok (D := Nat) (fun j => ⟨[(0, .sl 7 (enc coC l) none .no), (3, .v (.int .i64 j))], [], h, []⟩) (fun j => j ≤ l.length ∧ ∀ x ∈ l.take j, rcolB x = true) (fun j => l.length - j) 0 (by simp) ?_ ?_
    · simp [Leq, hh]
    · rintro j ⟨hj, hp⟩
      by_cases hlt : j < l.length
      · have hw : IntKind.i64.wrap ((j : Int) + 1) = (j : Int) + 1 := wrap64 (by omega) (by omega)
        have hnm : l[j].name.length ≤ maxLen := Nat.le_trans (hn _ (List.getElem_mem hlt)) (by unfold maxLen; omega)
        have no : rcolB l[j] = false → l.all rcolB = false := fun e => all_no (p := rcolB) hlt e
        have yes : rcolB l[j] = true → ∀ x ∈ l.take (j + 1), rcolB x = true := fun e => take_all hlt hp e
        simp [hlt]
        generalize l[j] = c at *
        refine xcall_self (by simp) (rclean_c _ hnm _) ?_
        cases p1 : cleanB c.name with
        | false => simp [hh, no (by simp [rcolB, p1])]
        | true =>
        simp
        refine xcall_self (by simp) (rbin_c _ _ _ _) ?_
        cases p2 : betB 0 4294967295 c.table with
        | false => simp [hh, no (by simp [rcolB, p1, p2])]
        | true =>
        simp
        refine xcall_self (by simp) (rbin_c _ _ _ _) ?_
        cases p3 : betB 0 65535 c.attr with
        | false => simp [hh, no (by simp [rcolB, p1, p2, p3])]
        | true =>
        simp
        refine xcall_self (by simp) (rbin_c _ _ _ _) ?_
        cases p4 : betB 0 4294967295 c.oid with
        | false => simp [hh, no (by simp [rcolB, p1, p2, p3, p4])]
        | true =>
        simp
        refine xcall_self (by simp) (rbin_c _ _ _ _) ?_
        cases p5 : betB (-32768) 32767 c.size with
        | false => simp [hh, no (by simp [rcolB, p1, p2, p3, p4, p5])]
        | true =>
        simp
        refine xcall_self (by simp) (rbin_c _ _ _ _) ?_
        cases p6 : betB (-2147483648) 2147483647 c.mod with
        | false => simp [hh, no (by simp [rcolB, p1, p2, p3, p4, p5, p6])]
        | true =>
        simp
        refine xcall_self (by simp) (rbin_c _ _ _ _) ?_
        cases p7 : betB 0 65535 c.format with
        | false => simp [hh, no (by simp [rcolB, p1, p2, p3, p4, p5, p6, p7])]
        | true =>
        simp [hw]
        refine ⟨j + 1, ⟨by omega, yes (by simp [rcolB, p1, p2, p3, p4, p5, p6, p7])⟩, by omega, ?_⟩
        simp [Leq, hh]
      · have : j = l.length := by omega
        subst this
        have e : l.all rcolB = true := by rw [List.take_length] at hp; exact List.all_eq_true.2 hp
        simp [hh, e]
theorem rbfields_c (l : List Fi) (hn : ∀ c ∈ l, c.text.length ≤ 1000000) (h : List (List AV)) : Contract Tryz.prog 59 [.sl 2 (enc fiC l) none .no] h (.v (.bool (decide (l.length ≤ 65535) && l.all fieldB))) h [] := by
  refine contract_of k59 mixed (by simp [c59]) fun hh hargs => ?_
  by_cases hl : (65535 : Int) < l.length
  · have hl' : ¬ l.length ≤ 65535 := by omega
    simp [c59, hl, hl', hh]
  · have hl' : l.length ≤ 65535 := by omega
    simp [c59, hl, hl']
    refine xloop_ok (D := Nat) (fun j => ⟨[(0, .sl 2 (enc fiC l) none .no), (3, .v (.int .i64 j))], [], h, []⟩) (fun j => j ≤ l.length ∧ ∀ x ∈ l.take j, fieldB x = true) (fun j => l.length - j) 0 (by simp) ?_ ?_
    · simp [Leq, hh]
    · rintro j ⟨hj, hp⟩
      by_cases hlt : j < l.length
      · have hw : IntKind.i64.wrap ((j : Int) + 1) = (j : Int) + 1 := wrap64 (by omega) (by omega)
        have hnm : l[j].text.length ≤ maxLen := Nat.le_trans (hn _ (List.getElem_mem hlt)) (by unfold maxLen; omega)
        have no : fieldB l[j] = false → l.all fieldB = false := fun e => all_no (p := fieldB) hlt e
        have yes : fieldB l[j] = true → ∀ x ∈ l.take (j + 1), fieldB x = true := fun e => take_all hlt hp e
        obtain ⟨cd, tx, hx⟩ : ∃ cd tx, l[j] = ⟨cd, tx⟩ := ⟨_, _, rfl⟩
        rw [hx] at hnm no yes
        cases p1 : cd == 0 with
        | true => simp [hlt, hx, fiC_mk, hh, p1, no (by simp [fieldB, p1])]
        | false =>
        simp [hlt, hx, fiC_mk, p1]
        refine xcall_self (by simp) (rclean_c _ hnm _) ?_
        cases p2 : cleanB tx with
        | false => simp [hh, no (by simp [fieldB, p1, p2])]
        | true =>
        simp [hw]
        refine ⟨j + 1, ⟨by omega, yes (by simp [fieldB, p1, p2])⟩, by omega, ?_⟩
        simp [Leq, hh]
      · have : j = l.length := by omega
        subst this
        have e : l.all fieldB = true := by rw [List.take_length] at hp; exact List.all_eq_true.2 hp
        simp [hh, e]
theorem eq_len {α : Type} [BEq α] [LawfulBEq α] {xs ys : List α} (h : xs.length ≠ ys.length) : (xs == ys) = false := by
  rw [← eqL_beq]; exact eqL_len h
theorem eq_all {α : Type} [BEq α] [LawfulBEq α] {xs ys : List α} (hl : xs.length = ys.length) (h : ∀ i (h1 : i < xs.length) (h2 : i < ys.length), (xs[i] == ys[i]) = true) : (xs == ys) = true := by
  rw [← eqL_beq]; exact (eqL_iff _ xs ys).2 ⟨hl, h⟩
theorem eq_one {α : Type} [BEq α] [LawfulBEq α] {xs ys : List α} {i : Nat} (h1 : i < xs.length) (h2 : i < ys.length) (h : (xs[i] == ys[i]) = false) : (xs == ys) = false := by
  rw [← eqL_beq]; exact eqL_no (i := i) h1 h2 h
theorem eq_upto {α : Type} [BEq α] {xs ys : List α} {j : Nat} (hp : ∀ i (h1 : i < xs.length) (h2 : i < ys.length), i < j → (xs[i] == ys[i]) = true) (hx : j < xs.length) (hy : j < ys.length) (h : (xs[j] == ys[j]) = true) : ∀ i (h1 : i < xs.length) (h2 : i < ys.length), i < j + 1 → (xs[i] == ys[i]) = true := fun i h1 h2 h3 => by
  rcases Nat.lt_or_ge i j with h4 | h4
  · exact hp i h1 h2 h4
  · have : i = j := by omega
    subst this; exact h
theorem eqCo (x y : Co) : eqCs [2, 1, 1, 1, 1, 1, 1] (coC x) (coC y) = some (sameCo x y) := by simp [coC, sameCo]
theorem eqFi (x y : Fi) : eqCs [1, 2] (fiC x) (fiC y) = some (sameFi x y) := by simp [fiC, sameFi]
theorem rbsame_c (a b : Bk) (ha : BkFit a) (h : List (List AV)) : Contract Tryz.prog 61 [.agg (bkC a), .agg (bkC b)] h (.v (.bool (sameB a b))) h [] := by
  obtain ⟨q1, q2, q3, q4, _⟩ := ha
  refine contract_of k61 mixed (by simp [c61]) fun hh hargs => ?_
  unfold sameB
  cases p0 : a.kind == b.kind with
  | false => simp [c61, hh, p0]
  | true =>
  cases p1 : a.status == b.status with
  | false => simp [c61, hh, p0, p1]
  | true =>
  cases p2 : a.tag == b.tag with
  | false => simp [c61, hh, p0, p1, p2]
  | true =>
  cases p3 : a.name == b.name with
  | false => simp [c61, hh, p0, p1, p2, p3]
  | true =>
  cases p4 : a.value == b.value with
  | false => simp [c61, hh, p0, p1, p2, p3, p4]
  | true =>
  cases p5 : a.n == b.n with
  | false => simp [c61, hh, p0, p1, p2, p3, p4, p5]
  | true =>
  cases p6 : a.m == b.m with
  | false => simp [c61, hh, p0, p1, p2, p3, p4, p5, p6]
  | true =>
  simp [c61, p0, p1, p2, p3, p4, p5, p6]
  refine xcall_self (by simp) (rints_c _ _ q1 _) ?_
  cases p7 : a.oids == b.oids with
  | false => simp [hh]
  | true =>
  simp
  refine xcall_self (by simp) (rcells_c _ _ q3 _) ?_
  cases p9 : a.row == b.row with
  | false => simp [hh]
  | true =>
  by_cases l1 : a.cols.length = b.cols.length
  · by_cases l2 : a.fields.length = b.fields.length
    · simp [l1, l2]
      refine xloop_ok (D := Nat) (fun j => ⟨[(2, .box h.length 0), (3, .box (h.length + 1) 0), (6, .v (.int .i64 j))], [], h ++ [bkC a, bkC b], []⟩) (fun j => j ≤ a.cols.length ∧ ∀ i (h1 : i < a.cols.length) (h2 : i < b.cols.length), i < j → (a.cols[i] == b.cols[i]) = true) (fun j => a.cols.length - j) 0 ⟨by omega, fun i h1 h2 h3 => by omega⟩ ?_ ?_
      · simp [Leq, hh]
      · rintro j ⟨hj, hp⟩
        by_cases hlt : j < b.cols.length
        · have hlt' : j < a.cols.length := by omega
          have hw : IntKind.i64.wrap ((j : Int) + 1) = (j : Int) + 1 := wrap64 (by omega) (by omega)
          have no : (a.cols[j] == b.cols[j]) = false → (a.cols == b.cols) = false := fun e => eq_one hlt' hlt e
          have yes := eq_upto hp hlt' hlt
          simp [hlt, hlt', eqCo]
          rw [← sameCo_eq] at no yes
          refine xwp_cond_of (!(sameCo a.cols[j] b.cols[j])) (by simp) (fun ht => ?_) (fun hf' => ?_)
          · simp at ht
            simp [hh, no ht]
          · simp at hf'
            simp [hw]
            refine ⟨j + 1, ⟨by omega, fun i h1 h2 h3 => by simpa using yes hf' i h1 h2 h3⟩, by omega, ?_⟩
            simp [Leq, hh]
        · have ec : (a.cols == b.cols) = true := eq_all l1 fun i h1 h2 => hp i h1 h2 (by omega)
          have hlt' : ¬ j < a.cols.length := by omega
          simp [hlt, hlt', ec]
          refine xloop_ok (D := Nat) (fun j => ⟨[(2, .box h.length 0), (3, .box (h.length + 1) 0), (7, .v (.int .i64 j))], [], h ++ [bkC a, bkC b], []⟩) (fun j => j ≤ a.fields.length ∧ ∀ i (h1 : i < a.fields.length) (h2 : i < b.fields.length), i < j → (a.fields[i] == b.fields[i]) = true) (fun j => a.fields.length - j) 0 ⟨by omega, fun i h1 h2 h3 => by omega⟩ ?_ ?_
          · simp [Leq, hh]
          · rintro j ⟨hj, hp⟩
            by_cases hlt : j < b.fields.length
            · have hlt' : j < a.fields.length := by omega
              have hw : IntKind.i64.wrap ((j : Int) + 1) = (j : Int) + 1 := wrap64 (by omega) (by omega)
              have no : (a.fields[j] == b.fields[j]) = false → (a.fields == b.fields) = false := fun e => eq_one hlt' hlt e
              have yes := eq_upto hp hlt' hlt
              simp [hlt, hlt', eqFi]
              rw [← sameFi_eq] at no yes
              refine xwp_cond_of (!(sameFi a.fields[j] b.fields[j])) (by simp) (fun ht => ?_) (fun hf' => ?_)
              · simp at ht
                simp [hh, no ht]
              · simp at hf'
                simp [hw]
                refine ⟨j + 1, ⟨by omega, fun i h1 h2 h3 => by simpa using yes hf' i h1 h2 h3⟩, by omega, ?_⟩
                simp [Leq, hh]
            · have ef : (a.fields == b.fields) = true := eq_all l2 fun i h1 h2 => hp i h1 h2 (by omega)
              have hlt' : ¬ j < a.fields.length := by omega
              simp [hlt, hlt', hh, ef]
    · have hne : ((a.fields.length : Int) != b.fields.length) = true := by simp; omega
      have hx := eq_len l2
      simp [l1, hne, hh, hx]
  · have hne : ((a.cols.length : Int) != b.cols.length) = true := by simp; omega
    have hx := eq_len l1
    simp [hne, hh, hx]

/-! ### Checks -/
def rbnums (m : Bk) : Bool := betB 0 4294967295 m.n && (betB 0 4294967295 m.m && (decide (m.oids.length ≤ 65535) && m.oids.all (betB 0 4294967295)))
def rcheckB (m : Bk) : Int :=
  if kindB m.kind = false then 9
  else if bcleanB m && (rbnums m && (rstatB m && ((decide (m.cols.length ≤ 65535) && m.cols.all rcolB) && ((decide (m.fields.length ≤ 65535) && m.fields.all fieldB) && ((decide (m.row.length ≤ 65535) && m.row.all cellB) && sameB m (saidB m)))))) then 0 else 1
/-- Its texts are no longer than these. -/
def BkShort (m : Bk) : Prop := (m.tag.length ≤ 1000000 ∧ m.name.length ≤ 1000000 ∧ m.value.length ≤ 1000000) ∧ (∀ c ∈ m.cols, c.name.length ≤ 1000000) ∧ ∀ c ∈ m.fields, c.text.length ≤ 1000000
theorem rbcheck_c (m : Bk) (hf : BkFit m) (hs : BkShort m) (h : List (List AV)) : Contract Tryz.prog 40 [.agg (bkC m)] h (.v (.int .i64 (rcheckB m))) h [] := by
  obtain ⟨⟨s1, s2, s3⟩, s4, s5⟩ := hs
  have big : 1000000 ≤ maxLen := by unfold maxLen; omega
  refine contract_cut (XCode.cuts [false, false, true, true, true] c40.code) k40 rfl mixed (by simp [c40]) fun hh hargs => ?_
  simp [c40]
  refine xcall_self (by simp) (rbkind_c _ _) ?_
  cases hk : kindB m.kind with
  | false => simp [hh, rcheckB, hk]
  | true =>
  have e : rcheckB m = if bcleanB m && (rbnums m && (rstatB m && ((decide (m.cols.length ≤ 65535) && m.cols.all rcolB) && ((decide (m.fields.length ≤ 65535) && m.fields.all fieldB) && ((decide (m.row.length ≤ 65535) && m.row.all cellB) && sameB m (saidB m)))))) then 0 else 1 := by unfold rcheckB; rw [hk]; rfl
  rw [e]
  simp
  refine xseq_cut ⟨[(1, .box h.length 0), (2, .v (.int .i64 0)), (3, .v (.bool (bcleanB m)))], [], h ++ [bkC m], []⟩ ?_ ?_
  · unfold bcleanB
    simp
    refine xcall_self (by simp) (rclean_c _ (Nat.le_trans s1 big) _) ?_
    cases p1 : cleanB m.tag with
    | false => simp [Leq, hh]
    | true =>
    simp
    refine xcall_self (by simp) (rclean_c _ (Nat.le_trans s2 big) _) ?_
    cases p2 : cleanB m.name with
    | false => simp [Leq, hh]
    | true =>
    simp
    refine xcall_self (by simp) (rclean_c _ (Nat.le_trans s3 big) _) ?_
    simp [Leq, hh]
  refine xseq_cut ⟨[(1, .box h.length 0), (2, .v (.int .i64 0)), (3, .v (.bool (bcleanB m))), (4, .v (.bool (rbnums m)))], [], h ++ [bkC m], []⟩ ?_ ?_
  · unfold rbnums
    simp
    refine xcall_self (by simp) (rbin_c _ _ _ _) ?_
    cases p1 : betB 0 4294967295 m.n with
    | false => simp [Leq, hh]
    | true =>
    simp
    refine xcall_self (by simp) (rbin_c _ _ _ _) ?_
    cases p2 : betB 0 4294967295 m.m with
    | false => simp [Leq, hh]
    | true =>
    simp
    refine xcall_self (by simp) (rbetween_c _ _ _ _) ?_
    simp [Leq, hh]
  refine xseq_cut ⟨[(1, .box h.length 0), (2, .v (.int .i64 0)), (3, .v (.bool (bcleanB m))), (4, .v (.bool (rbnums m))), (5, .v (.bool (rstatB m)))], [], h ++ [bkC m], []⟩ ?_ ?_
  · unfold rstatB statB
    cases h1 : m.kind == 90 with
    | false =>
      have e1 : (m.kind != 90) = true := by simp [bne, h1]
      simp [Leq, hh, e1]
    | true =>
      have e1 : (m.kind != 90) = false := by simp [bne, h1]
      cases h2 : m.status == 73 with
      | true => simp [Leq, hh, e1, h2]
      | false => cases h3 : m.status == 84 <;> simp [Leq, hh, e1, h2, h3]
  cases p1 : bcleanB m with
  | false => simp [hh]
  | true =>
  cases p2 : rbnums m with
  | false => simp [hh]
  | true =>
  cases p3 : rstatB m with
  | false => simp [hh]
  | true =>
  simp
  refine xcall_self (by simp) (rbcols_c _ s4 _) ?_
  cases p4 : (decide (m.cols.length ≤ 65535) && m.cols.all rcolB) with
  | false => simp [hh]
  | true =>
  simp
  refine xcall_self (by simp) (rbfields_c _ s5 _) ?_
  cases p5 : (decide (m.fields.length ≤ 65535) && m.fields.all fieldB) with
  | false => simp [hh]
  | true =>
  simp
  refine xcall_self (by simp) (rvalues_c _ _) ?_
  cases p6 : (decide (m.row.length ≤ 65535) && m.row.all cellB) with
  | false => simp [hh]
  | true =>
  simp
  refine xcall_self (by simp) (rbkept_c m _) ?_
  simp
  refine xcall_self (by simp) (rbsame_c m (saidB m) hf _) ?_
  cases p7 : sameB m (saidB m) <;> simp [hh]
end Go.Proofs.YtofkddajlgebjaaGreat.Ax
namespace Go.Proofs.YtofkddajlgebjaaGreat.Ax
open Go.RowKit Go By YtofkddajlgebjaaGreat.Nm Sc Dg
open He (textL)
set_option linter.unusedSimpArgs false
set_option linter.unusedVariables false
set_option maxRecDepth 10000

theorem sgn2 (n : Int) : sgnB 2 n = betB (-32768) 32767 n := by
  have e : sgnB 2 n = true ↔ (-32768 ≤ n ∧ n < 65536) ∧ signedI n 2 = n := by
    simp only [sgnB, Bool.and_eq_true, right2, beq_iff_eq]
  have e2 : betB (-32768) 32767 n = true ↔ ¬ n < -32768 ∧ ¬ 32767 < n := by
    simp only [betB, Bool.and_eq_true, Bool.not_eq_true', decide_eq_false_iff_not]
  rw [Bool.eq_iff_iff, e, e2, signed2]
  by_cases h : 32768 ≤ n ∧ n < 65536
  · rw [if_pos h]; omega
  · rw [if_neg h]; omega
theorem col_eq : colB = rcolB := by
  funext c
  unfold colB rcolB
  rw [uns4, uns2, sgn2, sgn4, Bool.eq_iff_iff]
  simp only [Bool.and_eq_true]
  constructor
  · rintro ⟨a, ⟨b, c⟩, ⟨d, e⟩, f, g⟩; exact ⟨a, b, d, c, f, g, e⟩
  · rintro ⟨a, b, d, c, f, g, e⟩; exact ⟨a, ⟨b, c⟩, ⟨d, e⟩, f, g⟩
theorem check_eqB (m : Bk) : checkB m = rcheckB m := by
  unfold checkB rcheckB
  cases hk : kindB m.kind with
  | false => rfl
  | true =>
    simp only [Bool.true_eq_false, if_false]
    congr 1
    rw [eq_iff_iff]
    unfold blistsB fewB bnumB rbnums
    rw [col_eq, uns4]
    simp only [Bool.and_eq_true, decide_eq_true_eq]
    constructor
    · rintro ⟨a, ⟨⟨l1, l2, l3, l4⟩, b, c, d, e⟩, f, ⟨g, i⟩, s⟩
      exact ⟨f, ⟨g, i, by omega, b⟩, a, ⟨by omega, d⟩, ⟨by omega, e⟩, ⟨by omega, c⟩, s⟩
    · rintro ⟨f, ⟨g, i, l1, b⟩, a, ⟨l2, d⟩, ⟨l4, e⟩, ⟨l3, c⟩, s⟩
      exact ⟨a, ⟨⟨by omega, by omega, by omega, by omega⟩, b, c, d, e⟩, f, ⟨g, i⟩, s⟩
def rencB (m : Bk) : Ms × Int := if rcheckB m = 0 then (⟨m.kind, bodyB m⟩, 0) else (⟨0, []⟩, rcheckB m)
theorem enc_eqB (m : Bk) : encB m = rencB m := by unfold encB rencB; rw [check_eqB]

/-! ### What the document reads -/
end Go.Proofs.YtofkddajlgebjaaGreat.Ax
