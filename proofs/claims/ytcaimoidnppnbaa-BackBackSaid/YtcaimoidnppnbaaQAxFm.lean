/- Front's messages there and back, on lists of bytes: what both sides check is one; what is read has just these bytes. -/
import Derived.Test.YtcaimoidnppnbaaQAxX
import Derived.Test.YtcaimoidnppnbaaRows
import Derived.Test.YtcaimoidnppnbaaQAxWo
import Derived.Test.YtcaimoidnppnbaaQAxPl
/- The texts of functions over values without memory, as the kernel reckons them out of the program. -/
namespace Go.Proofs.Ytcaimoidnppnbaa.Ax
open Go.RowKit Go By

def c23 : XFun := ⟨16, (.seq (.ops [⟨(some 1), (.box (.tmp 0)), none⟩, ⟨(some 2), (.alloc [(.v (.int .u8 0)), (.sl 0 [] (some true) .exact)]), none⟩, ⟨(some 3), (.assign (.const (.int .i64 0))), none⟩]) (.seq (.seq (.ops [⟨(some 5), (.loadN 10 (.tmp 1)), none⟩, ⟨(some 6), (.call 25 [(.tmp 5)]), none⟩, ⟨(some 4), (.assign (.tmp 6)), none⟩]) (.seq (.ops [⟨(some 7), (.move (.tmp 4)), none⟩, ⟨(some 8), (.bin .neq (.tmp 7) (.const (.int .i64 0))), none⟩]) (.cond (.tmp 8) (.seq (.ops [⟨(some 9), (.build [(.v (.int .u8 0)), (.sl 0 [] (some true) .exact)] []), none⟩, ⟨(some 10), (.move (.tmp 4)), none⟩, ⟨none, (.store 2 (.tmp 2) (.tmp 9)), none⟩, ⟨(some 3), (.assign (.tmp 10)), none⟩]) .ret) .skip))) (.seq (.draws (.take ⟨(some 11), (.faddr 0 (.tmp 1)), none⟩ (.take ⟨(some 12), (.load1 (.tmp 11)), none⟩ (.take ⟨(some 13), (.loadN 10 (.tmp 1)), none⟩ (.only ⟨(some 14), (.call 60 [(.tmp 13)]), none⟩ (.take ⟨(some 15), (.build [(.v (.int .u8 0)), (.sl 0 [] (some true) .exact)] [(0, (1, (.tmp 12))), (1, (1, (.tmp 14)))]), none⟩ (.only ⟨none, (.store 2 (.tmp 2) (.tmp 15)), none⟩ (.take ⟨(some 3), (.assign (.const (.int .i64 0))), none⟩ .done)))))))) .ret))), [(.loadN 2 (.tmp 2)), (.move (.tmp 3))]⟩
theorem k23 : cfun Try.prog 23 = some c23 := by kernel_rfl
def c25 : XFun := ⟨40, (.seq (.ops [⟨(some 1), (.box (.tmp 0)), none⟩, ⟨(some 2), (.assign (.const (.int .i64 0))), none⟩]) (.seq (.seq (.ops [⟨(some 3), (.faddr 0 (.tmp 1)), none⟩, ⟨(some 4), (.load1 (.tmp 3)), none⟩, ⟨(some 5), (.call 29 [(.tmp 4)]), none⟩, ⟨(some 6), (.bin .neq (.tmp 5) (.const (.int .i64 1))), none⟩]) (.cond (.tmp 6) (.seq (.ops [⟨(some 2), (.assign (.const (.int .i64 9))), none⟩]) .ret) .skip)) (.seq (.seq (.draws (.take ⟨(some 7), (.loadN 10 (.tmp 1)), none⟩ (.only ⟨(some 8), (.call 64 [(.tmp 7)]), none⟩ (.take ⟨(some 9), (.un .not (.tmp 8)), none⟩ (.take ⟨(some 10), (.move (.tmp 9)), none⟩ (.take ⟨(some 11), (.loadN 10 (.tmp 1)), (some (10, false))⟩ (.only ⟨(some 12), (.call 65 [(.tmp 11)]), (some (10, false))⟩ (.take ⟨(some 13), (.un .not (.tmp 12)), (some (10, false))⟩ (.take ⟨(some 14), (.pick (.tmp 10) (.const (.bool true)) (.tmp 13)), none⟩ (.take ⟨(some 15), (.move (.tmp 14)), none⟩ (.take ⟨(some 16), (.faddr 2 (.tmp 1)), (some (15, false))⟩ (.take ⟨(some 17), (.load1 (.tmp 16)), (some (15, false))⟩ (.take ⟨(some 18), (.faddr 3 (.tmp 1)), (some (15, false))⟩ (.take ⟨(some 19), (.load1 (.tmp 18)), (some (15, false))⟩ (.take ⟨(some 20), (.faddr 4 (.tmp 1)), (some (15, false))⟩ (.take ⟨(some 21), (.load1 (.tmp 20)), (some (15, false))⟩ (.only ⟨(some 22), (.buildSlice 1 3 [(.v (.string (strB [])))] [(0, (.tmp 17)), (1, (.tmp 19)), (2, (.tmp 21))]), (some (15, false))⟩ (.only ⟨(some 23), (.call 66 [(.tmp 22)]), (some (15, false))⟩ (.take ⟨(some 24), (.un .not (.tmp 23)), (some (15, false))⟩ (.take ⟨(some 25), (.pick (.tmp 15) (.const (.bool true)) (.tmp 24)), none⟩ (.take ⟨(some 26), (.move (.tmp 25)), none⟩ (.take ⟨(some 27), (.faddr 9 (.tmp 1)), (some (26, false))⟩ (.take ⟨(some 28), (.load1 (.tmp 27)), (some (26, false))⟩ (.only ⟨(some 29), (.buildSlice 1 1 [(.v (.int .i64 0))] [(0, (.tmp 28))]), (some (26, false))⟩ (.only ⟨(some 30), (.call 67 [(.const (.int .i64 4)), (.tmp 29)]), (some (26, false))⟩ (.take ⟨(some 31), (.un .not (.tmp 30)), (some (26, false))⟩ (.take ⟨(some 32), (.pick (.tmp 26) (.const (.bool true)) (.tmp 31)), none⟩ (.take ⟨(some 33), (.move (.tmp 32)), none⟩ (.take ⟨(some 34), (.loadN 10 (.tmp 1)), (some (33, false))⟩ (.take ⟨(some 35), (.loadN 10 (.tmp 1)), (some (33, false))⟩ (.only ⟨(some 36), (.call 68 [(.tmp 35)]), (some (33, false))⟩ (.only ⟨(some 37), (.call 27 [(.tmp 34), (.tmp 36)]), (some (33, false))⟩ (.take ⟨(some 38), (.un .not (.tmp 37)), (some (33, false))⟩ (.take ⟨(some 39), (.pick (.tmp 33) (.const (.bool true)) (.tmp 38)), none⟩ .done)))))))))))))))))))))))))))))))))) (.cond (.tmp 39) (.seq (.ops [⟨(some 2), (.assign (.const (.int .i64 1))), none⟩]) .ret) .skip)) (.seq (.ops [⟨(some 2), (.assign (.const (.int .i64 0))), none⟩]) .ret)))), [(.move (.tmp 2))]⟩
theorem k25 : cfun Try.prog 25 = some c25 := by kernel_rfl
def c27 : XFun := ⟨52, (.seq (.ops [⟨(some 2), (.box (.tmp 0)), none⟩, ⟨(some 3), (.box (.tmp 1)), none⟩, ⟨(some 4), (.assign (.const (.bool false))), none⟩]) (.seq (.draws (.take ⟨(some 5), (.loadN 10 (.tmp 2)), none⟩ (.take ⟨(some 7), (.loadN 10 (.tmp 3)), none⟩ (.only ⟨(some 6), (.call 73 [(.tmp 5)]), none⟩ (.only ⟨(some 8), (.call 73 [(.tmp 7)]), none⟩ (.take ⟨(some 9), (.aeq false [1, 1] (.tmp 6) (.tmp 8)), none⟩ (.take ⟨(some 10), (.move (.tmp 9)), none⟩ (.take ⟨(some 11), (.loadN 10 (.tmp 2)), (some (10, true))⟩ (.take ⟨(some 13), (.loadN 10 (.tmp 3)), (some (10, true))⟩ (.only ⟨(some 12), (.call 74 [(.tmp 11)]), (some (10, true))⟩ (.only ⟨(some 14), (.call 74 [(.tmp 13)]), (some (10, true))⟩ (.take ⟨(some 15), (.aeq false [2, 2, 2] (.tmp 12) (.tmp 14)), (some (10, true))⟩ (.take ⟨(some 16), (.pick (.tmp 10) (.tmp 15) (.const (.bool false))), none⟩ (.take ⟨(some 17), (.move (.tmp 16)), none⟩ (.take ⟨(some 18), (.faddr 9 (.tmp 2)), (some (17, true))⟩ (.take ⟨(some 19), (.load1 (.tmp 18)), (some (17, true))⟩ (.take ⟨(some 20), (.faddr 9 (.tmp 3)), (some (17, true))⟩ (.take ⟨(some 21), (.load1 (.tmp 20)), (some (17, true))⟩ (.take ⟨(some 22), (.bin .eql (.tmp 19) (.tmp 21)), (some (17, true))⟩ (.take ⟨(some 23), (.pick (.tmp 17) (.tmp 22) (.const (.bool false))), none⟩ (.take ⟨(some 24), (.move (.tmp 23)), none⟩ (.take ⟨(some 25), (.faddr 5 (.tmp 2)), (some (24, true))⟩ (.take ⟨(some 26), (.load1 (.tmp 25)), (some (24, true))⟩ (.take ⟨(some 27), (.faddr 5 (.tmp 3)), (some (24, true))⟩ (.take ⟨(some 28), (.load1 (.tmp 27)), (some (24, true))⟩ (.only ⟨(some 29), (.call 75 [(.tmp 26), (.tmp 28)]), (some (24, true))⟩ (.take ⟨(some 30), (.pick (.tmp 24) (.tmp 29) (.const (.bool false))), none⟩ (.take ⟨(some 31), (.move (.tmp 30)), none⟩ (.take ⟨(some 32), (.faddr 6 (.tmp 2)), (some (31, true))⟩ (.take ⟨(some 33), (.load1 (.tmp 32)), (some (31, true))⟩ (.take ⟨(some 34), (.faddr 6 (.tmp 3)), (some (31, true))⟩ (.take ⟨(some 35), (.load1 (.tmp 34)), (some (31, true))⟩ (.only ⟨(some 36), (.call 75 [(.tmp 33), (.tmp 35)]), (some (31, true))⟩ (.take ⟨(some 37), (.pick (.tmp 31) (.tmp 36) (.const (.bool false))), none⟩ (.take ⟨(some 38), (.move (.tmp 37)), none⟩ (.take ⟨(some 39), (.faddr 7 (.tmp 2)), (some (38, true))⟩ (.take ⟨(some 40), (.load1 (.tmp 39)), (some (38, true))⟩ (.take ⟨(some 41), (.faddr 7 (.tmp 3)), (some (38, true))⟩ (.take ⟨(some 42), (.load1 (.tmp 41)), (some (38, true))⟩ (.only ⟨(some 43), (.call 75 [(.tmp 40), (.tmp 42)]), (some (38, true))⟩ (.take ⟨(some 44), (.pick (.tmp 38) (.tmp 43) (.const (.bool false))), none⟩ (.take ⟨(some 45), (.move (.tmp 44)), none⟩ (.take ⟨(some 46), (.faddr 8 (.tmp 2)), (some (45, true))⟩ (.take ⟨(some 47), (.load1 (.tmp 46)), (some (45, true))⟩ (.take ⟨(some 48), (.faddr 8 (.tmp 3)), (some (45, true))⟩ (.take ⟨(some 49), (.load1 (.tmp 48)), (some (45, true))⟩ (.only ⟨(some 50), (.call 76 [(.tmp 47), (.tmp 49)]), (some (45, true))⟩ (.take ⟨(some 51), (.pick (.tmp 45) (.tmp 50) (.const (.bool false))), none⟩ (.take ⟨(some 4), (.assign (.tmp 51)), none⟩ .done))))))))))))))))))))))))))))))))))))))))))))))))) .ret)), [(.move (.tmp 4))]⟩
theorem k27 : cfun Try.prog 27 = some c27 := by kernel_rfl
def c29 : XFun := ⟨20, (.seq (.ops [⟨(some 2), (.assign (.const (.int .i64 0))), none⟩]) (.seq (.seq (.ops [⟨(some 3), (.move (.tmp 0)), none⟩]) (.block 0 (.seq (.seq (.ops [⟨(some 5), (.bin .eql (.tmp 3) (.const (.int .u8 66))), none⟩, ⟨(some 4), (.assign (.tmp 5)), none⟩]) (.cond (.tmp 4) .skip (.seq (.ops [⟨(some 6), (.bin .eql (.tmp 3) (.const (.int .u8 67))), none⟩, ⟨(some 4), (.assign (.tmp 6)), none⟩]) (.cond (.tmp 4) .skip (.seq (.ops [⟨(some 7), (.bin .eql (.tmp 3) (.const (.int .u8 68))), none⟩, ⟨(some 4), (.assign (.tmp 7)), none⟩]) (.cond (.tmp 4) .skip (.seq (.ops [⟨(some 8), (.bin .eql (.tmp 3) (.const (.int .u8 69))), none⟩, ⟨(some 4), (.assign (.tmp 8)), none⟩]) (.cond (.tmp 4) .skip (.seq (.ops [⟨(some 9), (.bin .eql (.tmp 3) (.const (.int .u8 72))), none⟩, ⟨(some 4), (.assign (.tmp 9)), none⟩]) (.cond (.tmp 4) .skip (.seq (.ops [⟨(some 10), (.bin .eql (.tmp 3) (.const (.int .u8 80))), none⟩, ⟨(some 4), (.assign (.tmp 10)), none⟩]) (.cond (.tmp 4) .skip (.seq (.ops [⟨(some 11), (.bin .eql (.tmp 3) (.const (.int .u8 81))), none⟩, ⟨(some 4), (.assign (.tmp 11)), none⟩]) (.cond (.tmp 4) .skip (.seq (.ops [⟨(some 12), (.bin .eql (.tmp 3) (.const (.int .u8 83))), none⟩, ⟨(some 4), (.assign (.tmp 12)), none⟩]) (.cond (.tmp 4) .skip (.ops [⟨(some 13), (.bin .eql (.tmp 3) (.const (.int .u8 88))), none⟩, ⟨(some 4), (.assign (.tmp 13)), none⟩]))))))))))))))))) (.cond (.tmp 4) (.seq (.ops [⟨(some 2), (.assign (.const (.int .i64 1))), none⟩]) .ret) (.seq (.seq (.ops [⟨(some 15), (.bin .eql (.tmp 3) (.const (.int .u8 70))), none⟩, ⟨(some 14), (.assign (.tmp 15)), none⟩]) (.cond (.tmp 14) .skip (.seq (.ops [⟨(some 16), (.bin .eql (.tmp 3) (.const (.int .u8 99))), none⟩, ⟨(some 14), (.assign (.tmp 16)), none⟩]) (.cond (.tmp 14) .skip (.seq (.ops [⟨(some 17), (.bin .eql (.tmp 3) (.const (.int .u8 100))), none⟩, ⟨(some 14), (.assign (.tmp 17)), none⟩]) (.cond (.tmp 14) .skip (.seq (.ops [⟨(some 18), (.bin .eql (.tmp 3) (.const (.int .u8 102))), none⟩, ⟨(some 14), (.assign (.tmp 18)), none⟩]) (.cond (.tmp 14) .skip (.ops [⟨(some 19), (.bin .eql (.tmp 3) (.const (.int .u8 112))), none⟩, ⟨(some 14), (.assign (.tmp 19)), none⟩]))))))))) (.cond (.tmp 14) (.seq (.ops [⟨(some 2), (.assign (.const (.int .i64 2))), none⟩]) .ret) .skip)))))) (.seq (.ops [⟨(some 2), (.assign (.const (.int .i64 0))), none⟩]) .ret))), [(.move (.tmp 2))]⟩
theorem k29 : cfun Try.prog 29 = some c29 := by kernel_rfl
def c31 : XFun := ⟨35, (.seq (.ops [⟨(some 1), (.box (.tmp 0)), none⟩, ⟨(some 2), (.alloc [(.v (.int .u8 0)), (.v (.int .u8 0)), (.v (.string (strB []))), (.v (.string (strB []))), (.v (.string (strB []))), (.sl 0 [] (some true) .exact), (.sl 0 [] (some true) .exact), (.sl 0 [] (some true) .exact), (.sl 0 [] (some true) .exact), (.v (.int .i64 0))]), none⟩, ⟨(some 3), (.assign (.const (.int .i64 0))), none⟩]) (.seq (.seq (.ops [⟨(some 6), (.faddr 0 (.tmp 1)), none⟩, ⟨(some 7), (.load1 (.tmp 6)), none⟩, ⟨(some 8), (.call 29 [(.tmp 7)]), none⟩]) (.block 0 (.seq (.ops [⟨(some 10), (.bin .eql (.tmp 8) (.const (.int .i64 0))), none⟩, ⟨(some 9), (.assign (.tmp 10)), none⟩]) (.cond (.tmp 9) (.seq (.ops [⟨(some 11), (.build [(.v (.int .u8 0)), (.v (.int .u8 0)), (.v (.string (strB []))), (.v (.string (strB []))), (.v (.string (strB []))), (.sl 0 [] (some true) .exact), (.sl 0 [] (some true) .exact), (.sl 0 [] (some true) .exact), (.sl 0 [] (some true) .exact), (.v (.int .i64 0))] []), none⟩, ⟨none, (.store 10 (.tmp 2) (.tmp 11)), none⟩, ⟨(some 3), (.assign (.const (.int .i64 4))), none⟩]) .ret) (.seq (.ops [⟨(some 13), (.bin .eql (.tmp 8) (.const (.int .i64 2))), none⟩, ⟨(some 12), (.assign (.tmp 13)), none⟩]) (.cond (.tmp 12) (.seq (.ops [⟨(some 14), (.build [(.v (.int .u8 0)), (.v (.int .u8 0)), (.v (.string (strB []))), (.v (.string (strB []))), (.v (.string (strB []))), (.sl 0 [] (some true) .exact), (.sl 0 [] (some true) .exact), (.sl 0 [] (some true) .exact), (.sl 0 [] (some true) .exact), (.v (.int .i64 0))] []), none⟩, ⟨none, (.store 10 (.tmp 2) (.tmp 14)), none⟩, ⟨(some 3), (.assign (.const (.int .i64 9))), none⟩]) .ret) .skip)))))) (.seq (.ops [⟨(some 15), (.faddr 1 (.tmp 1)), none⟩, ⟨(some 16), (.load1 (.tmp 15)), none⟩, ⟨(some 17), (.call 79 [(.tmp 16)]), none⟩, ⟨(some 18), (.build [(.v (.pointer none))] [(0, (1, (.tmp 17)))]), none⟩, ⟨(some 4), (.alloc [(.v (.pointer none))]), none⟩, ⟨none, (.store 1 (.tmp 4) (.tmp 18)), none⟩]) (.seq (.ops [⟨(some 19), (.loadN 1 (.tmp 4)), none⟩, ⟨(some 20), (.faddr 0 (.tmp 1)), none⟩, ⟨(some 21), (.load1 (.tmp 20)), none⟩, ⟨(some 22), (.call 80 [(.tmp 19), (.tmp 21)]), none⟩, ⟨(some 5), (.alloc [(.v (.int .u8 0)), (.v (.int .u8 0)), (.v (.string (strB []))), (.v (.string (strB []))), (.v (.string (strB []))), (.sl 0 [] (some true) .exact), (.sl 0 [] (some true) .exact), (.sl 0 [] (some true) .exact), (.sl 0 [] (some true) .exact), (.v (.int .i64 0))]), none⟩, ⟨none, (.store 10 (.tmp 5) (.tmp 22)), none⟩]) (.seq (.seq (.ops [⟨(some 23), (.faddr 0 (.tmp 4)), none⟩, ⟨(some 24), (.faddr 0 (.tmp 23)), none⟩, ⟨(some 25), (.load1 (.tmp 24)), none⟩, ⟨(some 26), (.call 46 [(.tmp 25)]), none⟩, ⟨(some 27), (.un .not (.tmp 26)), none⟩, ⟨(some 28), (.move (.tmp 27)), none⟩, ⟨(some 29), (.loadN 10 (.tmp 5)), (some (28, false))⟩, ⟨(some 30), (.call 64 [(.tmp 29)]), (some (28, false))⟩, ⟨(some 31), (.un .not (.tmp 30)), (some (28, false))⟩, ⟨(some 32), (.pick (.tmp 28) (.const (.bool true)) (.tmp 31)), none⟩]) (.cond (.tmp 32) (.seq (.ops [⟨(some 33), (.build [(.v (.int .u8 0)), (.v (.int .u8 0)), (.v (.string (strB []))), (.v (.string (strB []))), (.v (.string (strB []))), (.sl 0 [] (some true) .exact), (.sl 0 [] (some true) .exact), (.sl 0 [] (some true) .exact), (.sl 0 [] (some true) .exact), (.v (.int .i64 0))] []), none⟩, ⟨none, (.store 10 (.tmp 2) (.tmp 33)), none⟩, ⟨(some 3), (.assign (.const (.int .i64 4))), none⟩]) .ret) .skip)) (.seq (.ops [⟨(some 34), (.loadN 10 (.tmp 5)), none⟩, ⟨none, (.store 10 (.tmp 2) (.tmp 34)), none⟩, ⟨(some 3), (.assign (.const (.int .i64 0))), none⟩]) .ret)))))), [(.loadN 10 (.tmp 2)), (.move (.tmp 3))]⟩
theorem k31 : cfun Try.prog 31 = some c31 := by kernel_rfl
def c60 : XFun := ⟨66, (.seq (.ops [⟨(some 1), (.box (.tmp 0)), none⟩, ⟨(some 2), (.assign (.const (.slice none 0 0))), none⟩]) (.seq (.seq (.ops [⟨(some 3), (.faddr 0 (.tmp 1)), none⟩, ⟨(some 4), (.load1 (.tmp 3)), none⟩]) (.block 0 (.seq (.ops [⟨(some 6), (.bin .eql (.tmp 4) (.const (.int .u8 80))), none⟩, ⟨(some 5), (.assign (.tmp 6)), none⟩]) (.cond (.tmp 5) (.seq (.draws (.take ⟨(some 7), (.faddr 2 (.tmp 1)), none⟩ (.take ⟨(some 8), (.load1 (.tmp 7)), none⟩ (.take ⟨(some 9), (.faddr 4 (.tmp 1)), none⟩ (.take ⟨(some 10), (.load1 (.tmp 9)), none⟩ (.take ⟨(some 13), (.faddr 5 (.tmp 1)), none⟩ (.take ⟨(some 14), (.load1 (.tmp 13)), none⟩ (.only ⟨(some 11), (.buildSlice 1 2 [(.v (.string (strB [])))] [(0, (.tmp 8)), (1, (.tmp 10))]), none⟩ (.only ⟨(some 12), (.call 55 [(.tmp 11)]), none⟩ (.only ⟨(some 15), (.call 113 [(.const (.int .i64 4)), (.tmp 14)]), none⟩ (.only ⟨(some 16), (.buildSlice 1 2 [(.sl 0 [] (some true) .exact)] [(0, (.tmp 12)), (1, (.tmp 15))]), none⟩ (.only ⟨(some 17), (.call 112 [(.tmp 16)]), none⟩ (.take ⟨(some 2), (.assign (.tmp 17)), none⟩ .done))))))))))))) .ret) (.seq (.ops [⟨(some 19), (.bin .eql (.tmp 4) (.const (.int .u8 66))), none⟩, ⟨(some 18), (.assign (.tmp 19)), none⟩]) (.cond (.tmp 18) (.seq (.draws (.take ⟨(some 20), (.faddr 3 (.tmp 1)), none⟩ (.take ⟨(some 21), (.load1 (.tmp 20)), none⟩ (.take ⟨(some 22), (.faddr 2 (.tmp 1)), none⟩ (.take ⟨(some 23), (.load1 (.tmp 22)), none⟩ (.take ⟨(some 26), (.faddr 6 (.tmp 1)), none⟩ (.take ⟨(some 27), (.load1 (.tmp 26)), none⟩ (.take ⟨(some 29), (.faddr 8 (.tmp 1)), none⟩ (.take ⟨(some 30), (.load1 (.tmp 29)), none⟩ (.take ⟨(some 32), (.faddr 7 (.tmp 1)), none⟩ (.take ⟨(some 33), (.load1 (.tmp 32)), none⟩ (.only ⟨(some 24), (.buildSlice 1 2 [(.v (.string (strB [])))] [(0, (.tmp 21)), (1, (.tmp 23))]), none⟩ (.only ⟨(some 25), (.call 55 [(.tmp 24)]), none⟩ (.only ⟨(some 28), (.call 113 [(.const (.int .i64 2)), (.tmp 27)]), none⟩ (.only ⟨(some 31), (.call 114 [(.tmp 30)]), none⟩ (.only ⟨(some 34), (.call 113 [(.const (.int .i64 2)), (.tmp 33)]), none⟩ (.only ⟨(some 35), (.buildSlice 1 4 [(.sl 0 [] (some true) .exact)] [(0, (.tmp 25)), (1, (.tmp 28)), (2, (.tmp 31)), (3, (.tmp 34))]), none⟩ (.only ⟨(some 36), (.call 112 [(.tmp 35)]), none⟩ (.take ⟨(some 2), (.assign (.tmp 36)), none⟩ .done))))))))))))))))))) .ret) (.seq (.seq (.ops [⟨(some 38), (.bin .eql (.tmp 4) (.const (.int .u8 67))), none⟩, ⟨(some 37), (.assign (.tmp 38)), none⟩]) (.cond (.tmp 37) .skip (.ops [⟨(some 39), (.bin .eql (.tmp 4) (.const (.int .u8 68))), none⟩, ⟨(some 37), (.assign (.tmp 39)), none⟩]))) (.cond (.tmp 37) (.seq (.draws (.take ⟨(some 40), (.faddr 1 (.tmp 1)), none⟩ (.take ⟨(some 41), (.load1 (.tmp 40)), none⟩ (.take ⟨(some 43), (.faddr 2 (.tmp 1)), none⟩ (.take ⟨(some 44), (.load1 (.tmp 43)), none⟩ (.take ⟨(some 45), (.faddr 3 (.tmp 1)), none⟩ (.take ⟨(some 46), (.load1 (.tmp 45)), none⟩ (.take ⟨(some 47), (.bin .add (.tmp 44) (.tmp 46)), none⟩ (.two ⟨(some 42), (.buildSlice 1 1 [(.v (.int .u8 0))] [(0, (.tmp 41))]), none⟩ ⟨(some 48), (.buildSlice 1 1 [(.v (.string (strB [])))] [(0, (.tmp 47))]), none⟩ (.only ⟨(some 48), (.buildSlice 1 1 [(.v (.string (strB [])))] [(0, (.tmp 47))]), none⟩ (.only ⟨(some 49), (.call 55 [(.tmp 48)]), none⟩ (.only ⟨(some 50), (.append 1 1 (.tmp 42) (.tmp 49)), none⟩ (.take ⟨(some 2), (.assign (.tmp 50)), none⟩ .done)))) (.two ⟨(some 42), (.buildSlice 1 1 [(.v (.int .u8 0))] [(0, (.tmp 41))]), none⟩ ⟨(some 49), (.call 55 [(.tmp 48)]), none⟩ (.only ⟨(some 49), (.call 55 [(.tmp 48)]), none⟩ (.only ⟨(some 50), (.append 1 1 (.tmp 42) (.tmp 49)), none⟩ (.take ⟨(some 2), (.assign (.tmp 50)), none⟩ .done))) (.only ⟨(some 42), (.buildSlice 1 1 [(.v (.int .u8 0))] [(0, (.tmp 41))]), none⟩ (.only ⟨(some 50), (.append 1 1 (.tmp 42) (.tmp 49)), none⟩ (.take ⟨(some 2), (.assign (.tmp 50)), none⟩ .done))))))))))))) .ret) (.seq (.ops [⟨(some 52), (.bin .eql (.tmp 4) (.const (.int .u8 69))), none⟩, ⟨(some 51), (.assign (.tmp 52)), none⟩]) (.cond (.tmp 51) (.seq (.draws (.take ⟨(some 53), (.faddr 3 (.tmp 1)), none⟩ (.take ⟨(some 54), (.load1 (.tmp 53)), none⟩ (.take ⟨(some 57), (.faddr 9 (.tmp 1)), none⟩ (.take ⟨(some 58), (.load1 (.tmp 57)), none⟩ (.only ⟨(some 55), (.buildSlice 1 1 [(.v (.string (strB [])))] [(0, (.tmp 54))]), none⟩ (.only ⟨(some 56), (.call 55 [(.tmp 55)]), none⟩ (.only ⟨(some 59), (.call 54 [(.tmp 56), (.tmp 58), (.const (.int .i64 4))]), none⟩ (.take ⟨(some 2), (.assign (.tmp 59)), none⟩ .done))))))))) .ret) (.seq (.ops [⟨(some 61), (.bin .eql (.tmp 4) (.const (.int .u8 81))), none⟩, ⟨(some 60), (.assign (.tmp 61)), none⟩]) (.cond (.tmp 60) (.seq (.ops [⟨(some 62), (.faddr 4 (.tmp 1)), none⟩, ⟨(some 63), (.load1 (.tmp 62)), none⟩, ⟨(some 64), (.buildSlice 1 1 [(.v (.string (strB [])))] [(0, (.tmp 63))]), none⟩, ⟨(some 65), (.call 55 [(.tmp 64)]), none⟩, ⟨(some 2), (.assign (.tmp 65)), none⟩]) .ret) .skip)))))))))))) (.seq (.ops [⟨(some 2), (.assign (.const (.slice none 0 0))), none⟩]) .ret))), [(.move (.tmp 2))]⟩
theorem k60 : cfun Try.prog 60 = some c60 := by kernel_rfl
def c64 : XFun := ⟨21, (.seq (.ops [⟨(some 1), (.box (.tmp 0)), none⟩, ⟨(some 2), (.assign (.const (.bool false))), none⟩]) (.seq (.ops [⟨(some 3), (.faddr 0 (.tmp 1)), none⟩, ⟨(some 4), (.load1 (.tmp 3)), none⟩, ⟨(some 5), (.bin .neq (.tmp 4) (.const (.int .u8 67))), none⟩, ⟨(some 6), (.move (.tmp 5)), none⟩, ⟨(some 7), (.faddr 0 (.tmp 1)), (some (6, true))⟩, ⟨(some 8), (.load1 (.tmp 7)), (some (6, true))⟩, ⟨(some 9), (.bin .neq (.tmp 8) (.const (.int .u8 68))), (some (6, true))⟩, ⟨(some 10), (.pick (.tmp 6) (.tmp 9) (.const (.bool false))), none⟩, ⟨(some 11), (.move (.tmp 10)), none⟩, ⟨(some 12), (.faddr 1 (.tmp 1)), (some (11, false))⟩, ⟨(some 13), (.load1 (.tmp 12)), (some (11, false))⟩, ⟨(some 14), (.bin .eql (.tmp 13) (.const (.int .u8 83))), (some (11, false))⟩, ⟨(some 15), (.pick (.tmp 11) (.const (.bool true)) (.tmp 14)), none⟩, ⟨(some 16), (.move (.tmp 15)), none⟩, ⟨(some 17), (.faddr 1 (.tmp 1)), (some (16, false))⟩, ⟨(some 18), (.load1 (.tmp 17)), (some (16, false))⟩, ⟨(some 19), (.bin .eql (.tmp 18) (.const (.int .u8 80))), (some (16, false))⟩, ⟨(some 20), (.pick (.tmp 16) (.const (.bool true)) (.tmp 19)), none⟩, ⟨(some 2), (.assign (.tmp 20)), none⟩]) .ret)), [(.move (.tmp 2))]⟩
theorem k64 : cfun Try.prog 64 = some c64 := by kernel_rfl
def c65 : XFun := ⟨37, (.seq (.ops [⟨(some 1), (.box (.tmp 0)), none⟩, ⟨(some 2), (.assign (.const (.bool false))), none⟩]) (.seq (.ops [⟨(some 3), (.faddr 5 (.tmp 1)), none⟩, ⟨(some 4), (.load1 (.tmp 3)), none⟩, ⟨(some 5), (.lenL (.tmp 4)), none⟩, ⟨(some 6), (.faddr 6 (.tmp 1)), none⟩, ⟨(some 7), (.load1 (.tmp 6)), none⟩, ⟨(some 8), (.lenL (.tmp 7)), none⟩, ⟨(some 9), (.faddr 7 (.tmp 1)), none⟩, ⟨(some 10), (.load1 (.tmp 9)), none⟩, ⟨(some 11), (.lenL (.tmp 10)), none⟩, ⟨(some 12), (.faddr 8 (.tmp 1)), none⟩, ⟨(some 13), (.load1 (.tmp 12)), none⟩, ⟨(some 14), (.lenL (.tmp 13)), none⟩, ⟨(some 15), (.maxI [(.tmp 5), (.tmp 8), (.tmp 11), (.tmp 14)]), none⟩, ⟨(some 16), (.bin .leq (.tmp 15) (.const (.int .i64 65535))), none⟩, ⟨(some 17), (.move (.tmp 16)), none⟩, ⟨(some 18), (.faddr 5 (.tmp 1)), (some (17, true))⟩, ⟨(some 19), (.load1 (.tmp 18)), (some (17, true))⟩, ⟨(some 20), (.call 107 [(.const (.int .i64 4)), (.tmp 19)]), (some (17, true))⟩, ⟨(some 21), (.pick (.tmp 17) (.tmp 20) (.const (.bool false))), none⟩, ⟨(some 22), (.move (.tmp 21)), none⟩, ⟨(some 23), (.faddr 6 (.tmp 1)), (some (22, true))⟩, ⟨(some 24), (.load1 (.tmp 23)), (some (22, true))⟩, ⟨(some 25), (.call 107 [(.const (.int .i64 2)), (.tmp 24)]), (some (22, true))⟩, ⟨(some 26), (.pick (.tmp 22) (.tmp 25) (.const (.bool false))), none⟩, ⟨(some 27), (.move (.tmp 26)), none⟩, ⟨(some 28), (.faddr 7 (.tmp 1)), (some (27, true))⟩, ⟨(some 29), (.load1 (.tmp 28)), (some (27, true))⟩, ⟨(some 30), (.call 107 [(.const (.int .i64 2)), (.tmp 29)]), (some (27, true))⟩, ⟨(some 31), (.pick (.tmp 27) (.tmp 30) (.const (.bool false))), none⟩, ⟨(some 32), (.move (.tmp 31)), none⟩, ⟨(some 33), (.faddr 8 (.tmp 1)), (some (32, true))⟩, ⟨(some 34), (.load1 (.tmp 33)), (some (32, true))⟩, ⟨(some 35), (.call 115 [(.tmp 34)]), (some (32, true))⟩, ⟨(some 36), (.pick (.tmp 32) (.tmp 35) (.const (.bool false))), none⟩, ⟨(some 2), (.assign (.tmp 36)), none⟩]) .ret)), [(.move (.tmp 2))]⟩
theorem k65 : cfun Try.prog 65 = some c65 := by kernel_rfl
def c68 : XFun := ⟨66, (.seq (.ops [⟨(some 1), (.box (.tmp 0)), none⟩, ⟨(some 2), (.alloc [(.v (.int .u8 0)), (.v (.int .u8 0)), (.v (.string (strB []))), (.v (.string (strB []))), (.v (.string (strB []))), (.sl 0 [] (some true) .exact), (.sl 0 [] (some true) .exact), (.sl 0 [] (some true) .exact), (.sl 0 [] (some true) .exact), (.v (.int .i64 0))]), none⟩]) (.seq (.ops [⟨(some 4), (.faddr 0 (.tmp 1)), none⟩, ⟨(some 5), (.load1 (.tmp 4)), none⟩, ⟨(some 6), (.build [(.v (.int .u8 0)), (.v (.int .u8 0)), (.v (.string (strB []))), (.v (.string (strB []))), (.v (.string (strB []))), (.sl 0 [] (some true) .exact), (.sl 0 [] (some true) .exact), (.sl 0 [] (some true) .exact), (.sl 0 [] (some true) .exact), (.v (.int .i64 0))] [(0, (1, (.tmp 5)))]), none⟩, ⟨(some 3), (.alloc [(.v (.int .u8 0)), (.v (.int .u8 0)), (.v (.string (strB []))), (.v (.string (strB []))), (.v (.string (strB []))), (.sl 0 [] (some true) .exact), (.sl 0 [] (some true) .exact), (.sl 0 [] (some true) .exact), (.sl 0 [] (some true) .exact), (.v (.int .i64 0))]), none⟩, ⟨none, (.store 10 (.tmp 3) (.tmp 6)), none⟩]) (.seq (.seq (.ops [⟨(some 7), (.faddr 0 (.tmp 1)), none⟩, ⟨(some 8), (.load1 (.tmp 7)), none⟩]) (.block 0 (.seq (.ops [⟨(some 10), (.bin .eql (.tmp 8) (.const (.int .u8 80))), none⟩, ⟨(some 9), (.assign (.tmp 10)), none⟩]) (.cond (.tmp 9) (.draws (.take ⟨(some 11), (.faddr 2 (.tmp 1)), none⟩ (.take ⟨(some 12), (.load1 (.tmp 11)), none⟩ (.take ⟨(some 13), (.faddr 4 (.tmp 1)), none⟩ (.take ⟨(some 14), (.load1 (.tmp 13)), none⟩ (.take ⟨(some 15), (.faddr 5 (.tmp 1)), none⟩ (.take ⟨(some 16), (.load1 (.tmp 15)), none⟩ (.take ⟨(some 17), (.faddr 2 (.tmp 3)), none⟩ (.only ⟨none, (.store 1 (.tmp 17) (.tmp 12)), none⟩ (.take ⟨(some 18), (.faddr 4 (.tmp 3)), none⟩ (.only ⟨none, (.store 1 (.tmp 18) (.tmp 14)), none⟩ (.take ⟨(some 19), (.faddr 5 (.tmp 3)), none⟩ (.only ⟨none, (.store 1 (.tmp 19) (.tmp 16)), none⟩ .done))))))))))))) (.seq (.ops [⟨(some 21), (.bin .eql (.tmp 8) (.const (.int .u8 66))), none⟩, ⟨(some 20), (.assign (.tmp 21)), none⟩]) (.cond (.tmp 20) (.seq (.draws (.take ⟨(some 22), (.faddr 3 (.tmp 1)), none⟩ (.take ⟨(some 23), (.load1 (.tmp 22)), none⟩ (.take ⟨(some 24), (.faddr 2 (.tmp 1)), none⟩ (.take ⟨(some 25), (.load1 (.tmp 24)), none⟩ (.take ⟨(some 26), (.faddr 3 (.tmp 3)), none⟩ (.only ⟨none, (.store 1 (.tmp 26) (.tmp 23)), none⟩ (.take ⟨(some 27), (.faddr 2 (.tmp 3)), none⟩ (.only ⟨none, (.store 1 (.tmp 27) (.tmp 25)), none⟩ .done))))))))) (.draws (.take ⟨(some 28), (.faddr 6 (.tmp 1)), none⟩ (.take ⟨(some 29), (.load1 (.tmp 28)), none⟩ (.take ⟨(some 30), (.faddr 8 (.tmp 1)), none⟩ (.take ⟨(some 31), (.load1 (.tmp 30)), none⟩ (.take ⟨(some 32), (.faddr 7 (.tmp 1)), none⟩ (.take ⟨(some 33), (.load1 (.tmp 32)), none⟩ (.take ⟨(some 34), (.faddr 6 (.tmp 3)), none⟩ (.only ⟨none, (.store 1 (.tmp 34) (.tmp 29)), none⟩ (.take ⟨(some 35), (.faddr 8 (.tmp 3)), none⟩ (.only ⟨none, (.store 1 (.tmp 35) (.tmp 31)), none⟩ (.take ⟨(some 36), (.faddr 7 (.tmp 3)), none⟩ (.only ⟨none, (.store 1 (.tmp 36) (.tmp 33)), none⟩ .done)))))))))))))) (.seq (.seq (.ops [⟨(some 38), (.bin .eql (.tmp 8) (.const (.int .u8 67))), none⟩, ⟨(some 37), (.assign (.tmp 38)), none⟩]) (.cond (.tmp 37) .skip (.ops [⟨(some 39), (.bin .eql (.tmp 8) (.const (.int .u8 68))), none⟩, ⟨(some 37), (.assign (.tmp 39)), none⟩]))) (.cond (.tmp 37) (.seq (.ops [⟨(some 40), (.faddr 1 (.tmp 1)), none⟩, ⟨(some 41), (.load1 (.tmp 40)), none⟩, ⟨(some 42), (.faddr 1 (.tmp 3)), none⟩, ⟨none, (.store 1 (.tmp 42) (.tmp 41)), none⟩]) (.seq (.ops [⟨(some 43), (.faddr 1 (.tmp 1)), none⟩, ⟨(some 44), (.load1 (.tmp 43)), none⟩, ⟨(some 45), (.bin .eql (.tmp 44) (.const (.int .u8 83))), none⟩]) (.cond (.tmp 45) (.ops [⟨(some 46), (.faddr 2 (.tmp 1)), none⟩, ⟨(some 47), (.load1 (.tmp 46)), none⟩, ⟨(some 48), (.faddr 2 (.tmp 3)), none⟩, ⟨none, (.store 1 (.tmp 48) (.tmp 47)), none⟩]) (.ops [⟨(some 49), (.faddr 3 (.tmp 1)), none⟩, ⟨(some 50), (.load1 (.tmp 49)), none⟩, ⟨(some 51), (.faddr 3 (.tmp 3)), none⟩, ⟨none, (.store 1 (.tmp 51) (.tmp 50)), none⟩])))) (.seq (.ops [⟨(some 53), (.bin .eql (.tmp 8) (.const (.int .u8 69))), none⟩, ⟨(some 52), (.assign (.tmp 53)), none⟩]) (.cond (.tmp 52) (.draws (.take ⟨(some 54), (.faddr 3 (.tmp 1)), none⟩ (.take ⟨(some 55), (.load1 (.tmp 54)), none⟩ (.take ⟨(some 56), (.faddr 9 (.tmp 1)), none⟩ (.take ⟨(some 57), (.load1 (.tmp 56)), none⟩ (.take ⟨(some 58), (.faddr 3 (.tmp 3)), none⟩ (.only ⟨none, (.store 1 (.tmp 58) (.tmp 55)), none⟩ (.take ⟨(some 59), (.faddr 9 (.tmp 3)), none⟩ (.only ⟨none, (.store 1 (.tmp 59) (.tmp 57)), none⟩ .done))))))))) (.seq (.ops [⟨(some 61), (.bin .eql (.tmp 8) (.const (.int .u8 81))), none⟩, ⟨(some 60), (.assign (.tmp 61)), none⟩]) (.cond (.tmp 60) (.ops [⟨(some 62), (.faddr 4 (.tmp 1)), none⟩, ⟨(some 63), (.load1 (.tmp 62)), none⟩, ⟨(some 64), (.faddr 4 (.tmp 3)), none⟩, ⟨none, (.store 1 (.tmp 64) (.tmp 63)), none⟩]) .skip)))))))))))) (.seq (.ops [⟨(some 65), (.loadN 10 (.tmp 3)), none⟩, ⟨none, (.store 10 (.tmp 2) (.tmp 65)), none⟩]) .ret)))), [(.loadN 10 (.tmp 2))]⟩
theorem k68 : cfun Try.prog 68 = some c68 := by kernel_rfl
def c73 : XFun := ⟨8, (.seq (.ops [⟨(some 1), (.box (.tmp 0)), none⟩, ⟨(some 2), (.alloc [(.v (.int .u8 0)), (.v (.int .u8 0))]), none⟩]) (.seq (.ops [⟨(some 3), (.faddr 0 (.tmp 1)), none⟩, ⟨(some 4), (.load1 (.tmp 3)), none⟩, ⟨(some 5), (.faddr 1 (.tmp 1)), none⟩, ⟨(some 6), (.load1 (.tmp 5)), none⟩, ⟨(some 7), (.build [(.v (.int .u8 0)), (.v (.int .u8 0))] [(0, (1, (.tmp 4))), (1, (1, (.tmp 6)))]), none⟩, ⟨none, (.store 2 (.tmp 2) (.tmp 7)), none⟩]) .ret)), [(.loadN 2 (.tmp 2))]⟩
theorem k73 : cfun Try.prog 73 = some c73 := by kernel_rfl
def c74 : XFun := ⟨10, (.seq (.ops [⟨(some 1), (.box (.tmp 0)), none⟩, ⟨(some 2), (.alloc [(.v (.string (strB []))), (.v (.string (strB []))), (.v (.string (strB [])))]), none⟩]) (.seq (.ops [⟨(some 3), (.faddr 2 (.tmp 1)), none⟩, ⟨(some 4), (.load1 (.tmp 3)), none⟩, ⟨(some 5), (.faddr 3 (.tmp 1)), none⟩, ⟨(some 6), (.load1 (.tmp 5)), none⟩, ⟨(some 7), (.faddr 4 (.tmp 1)), none⟩, ⟨(some 8), (.load1 (.tmp 7)), none⟩, ⟨(some 9), (.build [(.v (.string (strB []))), (.v (.string (strB []))), (.v (.string (strB [])))] [(0, (1, (.tmp 4))), (1, (1, (.tmp 6))), (2, (1, (.tmp 8)))]), none⟩, ⟨none, (.store 3 (.tmp 2) (.tmp 9)), none⟩]) .ret)), [(.loadN 3 (.tmp 2))]⟩
theorem k74 : cfun Try.prog 74 = some c74 := by kernel_rfl
def c80 : XFun := ⟨92, (.seq (.ops [⟨(some 2), (.box (.tmp 0)), none⟩, ⟨(some 4), (.alloc [(.v (.int .u8 0)), (.v (.int .u8 0)), (.v (.string (strB []))), (.v (.string (strB []))), (.v (.string (strB []))), (.sl 0 [] (some true) .exact), (.sl 0 [] (some true) .exact), (.sl 0 [] (some true) .exact), (.sl 0 [] (some true) .exact), (.v (.int .i64 0))]), none⟩]) (.seq (.ops [⟨(some 6), (.move (.tmp 1)), none⟩, ⟨(some 7), (.build [(.v (.int .u8 0)), (.v (.int .u8 0)), (.v (.string (strB []))), (.v (.string (strB []))), (.v (.string (strB []))), (.sl 0 [] (some true) .exact), (.sl 0 [] (some true) .exact), (.sl 0 [] (some true) .exact), (.sl 0 [] (some true) .exact), (.v (.int .i64 0))] [(0, (1, (.tmp 6)))]), none⟩, ⟨(some 5), (.alloc [(.v (.int .u8 0)), (.v (.int .u8 0)), (.v (.string (strB []))), (.v (.string (strB []))), (.v (.string (strB []))), (.sl 0 [] (some true) .exact), (.sl 0 [] (some true) .exact), (.sl 0 [] (some true) .exact), (.sl 0 [] (some true) .exact), (.v (.int .i64 0))]), none⟩, ⟨none, (.store 10 (.tmp 5) (.tmp 7)), none⟩]) (.seq (.seq (.ops [⟨(some 8), (.move (.tmp 1)), none⟩]) (.block 0 (.seq (.ops [⟨(some 10), (.bin .eql (.tmp 8) (.const (.int .u8 80))), none⟩, ⟨(some 9), (.assign (.tmp 10)), none⟩]) (.cond (.tmp 9) (.seq (.ops [⟨(some 11), (.faddr 0 (.tmp 2)), none⟩, ⟨(some 12), (.faddr 0 (.tmp 11)), none⟩, ⟨(some 13), (.load1 (.tmp 12)), none⟩, ⟨(some 14), (.call 102 [(.tmp 13)]), none⟩, ⟨(some 15), (.faddr 2 (.tmp 5)), none⟩, ⟨none, (.store 1 (.tmp 15) (.tmp 14)), none⟩]) (.seq (.ops [⟨(some 16), (.faddr 0 (.tmp 2)), none⟩, ⟨(some 17), (.faddr 0 (.tmp 16)), none⟩, ⟨(some 18), (.load1 (.tmp 17)), none⟩, ⟨(some 19), (.call 102 [(.tmp 18)]), none⟩, ⟨(some 20), (.faddr 4 (.tmp 5)), none⟩, ⟨none, (.store 1 (.tmp 20) (.tmp 19)), none⟩]) (.ops [⟨(some 21), (.faddr 0 (.tmp 2)), none⟩, ⟨(some 22), (.loadN 1 (.tmp 21)), none⟩, ⟨(some 23), (.call 124 [(.tmp 22), (.const (.int .i64 4))]), none⟩, ⟨(some 24), (.faddr 5 (.tmp 5)), none⟩, ⟨none, (.store 1 (.tmp 24) (.tmp 23)), none⟩]))) (.seq (.ops [⟨(some 26), (.bin .eql (.tmp 8) (.const (.int .u8 66))), none⟩, ⟨(some 25), (.assign (.tmp 26)), none⟩]) (.cond (.tmp 25) (.seq (.ops [⟨(some 27), (.faddr 0 (.tmp 2)), none⟩, ⟨(some 28), (.faddr 0 (.tmp 27)), none⟩, ⟨(some 29), (.load1 (.tmp 28)), none⟩, ⟨(some 30), (.call 102 [(.tmp 29)]), none⟩, ⟨(some 31), (.faddr 3 (.tmp 5)), none⟩, ⟨none, (.store 1 (.tmp 31) (.tmp 30)), none⟩]) (.seq (.ops [⟨(some 32), (.faddr 0 (.tmp 2)), none⟩, ⟨(some 33), (.faddr 0 (.tmp 32)), none⟩, ⟨(some 34), (.load1 (.tmp 33)), none⟩, ⟨(some 35), (.call 102 [(.tmp 34)]), none⟩, ⟨(some 36), (.faddr 2 (.tmp 5)), none⟩, ⟨none, (.store 1 (.tmp 36) (.tmp 35)), none⟩]) (.seq (.ops [⟨(some 37), (.faddr 0 (.tmp 2)), none⟩, ⟨(some 38), (.loadN 1 (.tmp 37)), none⟩, ⟨(some 39), (.call 124 [(.tmp 38), (.const (.int .i64 2))]), none⟩, ⟨(some 40), (.faddr 6 (.tmp 5)), none⟩, ⟨none, (.store 1 (.tmp 40) (.tmp 39)), none⟩]) (.seq (.ops [⟨(some 41), (.faddr 0 (.tmp 2)), none⟩, ⟨(some 42), (.loadN 1 (.tmp 41)), none⟩, ⟨(some 43), (.call 125 [(.tmp 42)]), none⟩, ⟨(some 44), (.faddr 8 (.tmp 5)), none⟩, ⟨none, (.store 1 (.tmp 44) (.tmp 43)), none⟩]) (.ops [⟨(some 45), (.faddr 0 (.tmp 2)), none⟩, ⟨(some 46), (.loadN 1 (.tmp 45)), none⟩, ⟨(some 47), (.call 124 [(.tmp 46), (.const (.int .i64 2))]), none⟩, ⟨(some 48), (.faddr 7 (.tmp 5)), none⟩, ⟨none, (.store 1 (.tmp 48) (.tmp 47)), none⟩]))))) (.seq (.seq (.ops [⟨(some 50), (.bin .eql (.tmp 8) (.const (.int .u8 67))), none⟩, ⟨(some 49), (.assign (.tmp 50)), none⟩]) (.cond (.tmp 49) .skip (.ops [⟨(some 51), (.bin .eql (.tmp 8) (.const (.int .u8 68))), none⟩, ⟨(some 49), (.assign (.tmp 51)), none⟩]))) (.cond (.tmp 49) (.seq (.ops [⟨(some 52), (.faddr 0 (.tmp 2)), none⟩, ⟨(some 53), (.faddr 0 (.tmp 52)), none⟩, ⟨(some 54), (.load1 (.tmp 53)), none⟩, ⟨(some 55), (.call 43 [(.tmp 54), (.const (.int .i64 1))]), none⟩, ⟨(some 56), (.conv .u8 (.tmp 55)), none⟩, ⟨(some 57), (.faddr 1 (.tmp 5)), none⟩, ⟨none, (.store 1 (.tmp 57) (.tmp 56)), none⟩]) (.seq (.ops [⟨(some 58), (.faddr 1 (.tmp 5)), none⟩, ⟨(some 59), (.load1 (.tmp 58)), none⟩, ⟨(some 60), (.bin .eql (.tmp 59) (.const (.int .u8 83))), none⟩]) (.cond (.tmp 60) (.ops [⟨(some 61), (.faddr 0 (.tmp 2)), none⟩, ⟨(some 62), (.faddr 0 (.tmp 61)), none⟩, ⟨(some 63), (.load1 (.tmp 62)), none⟩, ⟨(some 64), (.call 102 [(.tmp 63)]), none⟩, ⟨(some 65), (.faddr 2 (.tmp 5)), none⟩, ⟨none, (.store 1 (.tmp 65) (.tmp 64)), none⟩]) (.ops [⟨(some 66), (.faddr 0 (.tmp 2)), none⟩, ⟨(some 67), (.faddr 0 (.tmp 66)), none⟩, ⟨(some 68), (.load1 (.tmp 67)), none⟩, ⟨(some 69), (.call 102 [(.tmp 68)]), none⟩, ⟨(some 70), (.faddr 3 (.tmp 5)), none⟩, ⟨none, (.store 1 (.tmp 70) (.tmp 69)), none⟩])))) (.seq (.ops [⟨(some 72), (.bin .eql (.tmp 8) (.const (.int .u8 69))), none⟩, ⟨(some 71), (.assign (.tmp 72)), none⟩]) (.cond (.tmp 71) (.seq (.ops [⟨(some 73), (.faddr 0 (.tmp 2)), none⟩, ⟨(some 74), (.faddr 0 (.tmp 73)), none⟩, ⟨(some 75), (.load1 (.tmp 74)), none⟩, ⟨(some 76), (.call 102 [(.tmp 75)]), none⟩, ⟨(some 77), (.faddr 3 (.tmp 5)), none⟩, ⟨none, (.store 1 (.tmp 77) (.tmp 76)), none⟩]) (.ops [⟨(some 78), (.faddr 0 (.tmp 2)), none⟩, ⟨(some 79), (.faddr 0 (.tmp 78)), none⟩, ⟨(some 80), (.load1 (.tmp 79)), none⟩, ⟨(some 81), (.call 43 [(.tmp 80), (.const (.int .i64 4))]), none⟩, ⟨(some 82), (.call 121 [(.tmp 81), (.const (.int .i64 4))]), none⟩, ⟨(some 83), (.faddr 9 (.tmp 5)), none⟩, ⟨none, (.store 1 (.tmp 83) (.tmp 82)), none⟩])) (.seq (.ops [⟨(some 85), (.bin .eql (.tmp 8) (.const (.int .u8 81))), none⟩, ⟨(some 84), (.assign (.tmp 85)), none⟩]) (.cond (.tmp 84) (.ops [⟨(some 86), (.faddr 0 (.tmp 2)), none⟩, ⟨(some 87), (.faddr 0 (.tmp 86)), none⟩, ⟨(some 88), (.load1 (.tmp 87)), none⟩, ⟨(some 89), (.call 102 [(.tmp 88)]), none⟩, ⟨(some 90), (.faddr 4 (.tmp 5)), none⟩, ⟨none, (.store 1 (.tmp 90) (.tmp 89)), none⟩]) .skip)))))))))))) (.seq (.ops [⟨(some 91), (.loadN 10 (.tmp 5)), none⟩, ⟨none, (.store 10 (.tmp 4) (.tmp 91)), none⟩]) .ret)))), [(.loadN 10 (.tmp 4))]⟩
theorem k80 : cfun Try.prog 80 = some c80 := by kernel_rfl
end Go.Proofs.Ytcaimoidnppnbaa.Ax
/- Front's messages over values without memory: which kinds are served, checks, what is the same. -/
namespace Go.Proofs.Ytcaimoidnppnbaa.Ax
open Go.RowKit Go By Nm Sc Dg
set_option linter.unusedSimpArgs false
set_option linter.unusedVariables false
set_option maxRecDepth 10000

/-! ### Which kinds are served -/
def knownI (k : Int) : Int :=
  if k = 66 ∨ k = 67 ∨ k = 68 ∨ k = 69 ∨ k = 72 ∨ k = 80 ∨ k = 81 ∨ k = 83 ∨ k = 88 then 1 else if k = 70 ∨ k = 99 ∨ k = 100 ∨ k = 102 ∨ k = 112 then 2 else 0
theorem known_c (k : Int) (h : List (List AV)) : Contract Try.prog 29 [.v (.int .u8 k)] h (.v (.int .i64 (knownI k))) h [] := by
  refine contract_of k29 mixed (by simp [c29]) fun hh hargs => ?_
  by_cases h66 : k = 66
  · subst h66; simp [c29, hh, knownI]
  by_cases h67 : k = 67
  · subst h67; simp [c29, hh, knownI]
  by_cases h68 : k = 68
  · subst h68; simp [c29, hh, knownI]
  by_cases h69 : k = 69
  · subst h69; simp [c29, hh, knownI]
  by_cases h72 : k = 72
  · subst h72; simp [c29, hh, knownI]
  by_cases h80 : k = 80
  · subst h80; simp [c29, hh, knownI]
  by_cases h81 : k = 81
  · subst h81; simp [c29, hh, knownI]
  by_cases h83 : k = 83
  · subst h83; simp [c29, hh, knownI]
  by_cases h88 : k = 88
  · subst h88; simp [c29, hh, knownI]
  by_cases h70 : k = 70
  · subst h70; simp [c29, hh, knownI]
  by_cases h99 : k = 99
  · subst h99; simp [c29, hh, knownI]
  by_cases h100 : k = 100
  · subst h100; simp [c29, hh, knownI]
  by_cases h102 : k = 102
  · subst h102; simp [c29, hh, knownI]
  by_cases h112 : k = 112
  · subst h112; simp [c29, hh, knownI]
  simp [c29, hh, knownI, h66, h67, h68, h69, h72, h80, h81, h83, h88, h70, h99, h100, h102, h112]
theorem rknown_c (k : Int) (h : List (List AV)) : Contract Try.prog 30 [.v (.int .u8 k)] h (.v (.int .i64 (knownI k))) h [] := by
  refine contract_of k30 mixed (by simp [c30]) fun hh hargs => ?_
  by_cases h66 : k = 66
  · subst h66; simp [c30, hh, knownI]
  by_cases h67 : k = 67
  · subst h67; simp [c30, hh, knownI]
  by_cases h68 : k = 68
  · subst h68; simp [c30, hh, knownI]
  by_cases h69 : k = 69
  · subst h69; simp [c30, hh, knownI]
  by_cases h72 : k = 72
  · subst h72; simp [c30, hh, knownI]
  by_cases h80 : k = 80
  · subst h80; simp [c30, hh, knownI]
  by_cases h81 : k = 81
  · subst h81; simp [c30, hh, knownI]
  by_cases h83 : k = 83
  · subst h83; simp [c30, hh, knownI]
  by_cases h88 : k = 88
  · subst h88; simp [c30, hh, knownI]
  by_cases h70 : k = 70
  · subst h70; simp [c30, hh, knownI]
  by_cases h99 : k = 99
  · subst h99; simp [c30, hh, knownI]
  by_cases h100 : k = 100
  · subst h100; simp [c30, hh, knownI]
  by_cases h102 : k = 102
  · subst h102; simp [c30, hh, knownI]
  by_cases h112 : k = 112
  · subst h112; simp [c30, hh, knownI]
  simp [c30, hh, knownI, h66, h67, h68, h69, h72, h80, h81, h83, h88, h70, h99, h100, h102, h112]

/-! ### A message -/
/-- Its lists, and what they hold, are no longer than memory is. -/
def FmFit (m : Fm) : Prop := m.oids.length ≤ 140737488355328 ∧ m.formats.length ≤ 140737488355328 ∧ m.results.length ≤ 140737488355328 ∧ m.params.length ≤ 140737488355328 ∧ (∀ c ∈ m.params, c.2.length ≤ 140737488355328) ∧ m.name.length ≤ 140737488355328 ∧ m.portal.length ≤ 140737488355328 ∧ m.text.length ≤ 140737488355328

def sameF (a b : Fm) : Bool := a.kind == b.kind && a.what == b.what && (a.name == b.name && a.portal == b.portal && a.text == b.text) && a.max == b.max && a.oids == b.oids && a.formats == b.formats && a.results == b.results && a.params == b.params
theorem sameF_eq (a b : Fm) : sameF a b = decide (a = b) := by
  obtain ⟨a1, a2, a3, a4, a5, a6, a7, a8, a9, a10⟩ := a
  obtain ⟨b1, b2, b3, b4, b5, b6, b7, b8, b9, b10⟩ := b
  rw [Bool.eq_iff_iff]
  simp [sameF]
  constructor
  · rintro ⟨⟨⟨⟨⟨⟨⟨h1, h2⟩, h3, h4, h5⟩, h6⟩, h7⟩, h8⟩, h9⟩, h10⟩; simp_all
  · rintro ⟨h1, h2, h3, h4, h5, h6, h7, h8, h9, h10⟩; simp_all
theorem fkinds_c (m : Fm) (h : List (List AV)) : Contract Try.prog 73 [.agg (fmC m)] h (.agg [.v (.int .u8 m.kind), .v (.int .u8 m.what)]) h [] := by
  refine contract_of k73 mixed (by simp [c73]) fun hh hargs => ?_
  simp [c73, fmC_mk, hh]
theorem ftexts_c (m : Fm) (h : List (List AV)) : Contract Try.prog 74 [.agg (fmC m)] h (.agg [.v (.string (strB m.name)), .v (.string (strB m.portal)), .v (.string (strB m.text))]) h [] := by
  refine contract_of k74 mixed (by simp [c74]) fun hh hargs => ?_
  simp [c74, fmC_mk, hh]
theorem sliceseq_c (l m : List Int) (hl : l.length ≤ 140737488355328) (h : List (List AV)) : Contract Try.prog 75 [.sl 1 (enc intC l) none .no, .sl 1 (enc intC m) none .no] h (.v (.bool (l == m))) h [] := by
  have := equal1_any mixed k75 l m h hl
  rwa [eqL_beq] at this
theorem fsame_c (a b : Fm) (ha : FmFit a) (h : List (List AV)) : Contract Try.prog 27 [.agg (fmC a), .agg (fmC b)] h (.v (.bool (sameF a b))) h [] := by
  obtain ⟨q1, q2, q3, q4, _⟩ := ha
  refine contract_of k27 mixed (by simp [c27]) fun hh hargs => ?_
  simp [c27]
  refine xcall_self (by simp) (fkinds_c a _) ?_
  simp
  refine xcall_self (by simp) (fkinds_c b _) ?_
  simp
  cases p1 : (a.kind == b.kind && a.what == b.what) with
  | false =>
    have e : sameF a b = false := by simp only [sameF, p1, Bool.false_and]
    simp [hh, e]
  | true =>
  simp
  refine xcall_self (by simp) (ftexts_c a _) ?_
  simp
  refine xcall_self (by simp) (ftexts_c b _) ?_
  simp
  cases p2 : (a.name == b.name && (a.portal == b.portal && a.text == b.text)) with
  | false =>
    have e : sameF a b = false := by simp only [sameF, p1, ← Bool.and_assoc] at p2 ⊢; simp only [p2, Bool.true_and, Bool.false_and]
    simp [hh, e]
  | true =>
  cases p3 : (a.max == b.max) with
  | false =>
    have e : sameF a b = false := by simp only [sameF, p1, ← Bool.and_assoc] at p2 ⊢; simp only [p2, p3, Bool.true_and, Bool.false_and]
    simp [hh, e, fmC_mk, p3]
  | true =>
  simp [fmC_mk, p3]
  refine xcall_self (by simp) (sliceseq_c _ _ q1 _) ?_
  have hp : sameF a b = (a.oids == b.oids && a.formats == b.formats && a.results == b.results && a.params == b.params) := by simp only [sameF, p1, ← Bool.and_assoc] at p2 ⊢; simp only [p2, p3, Bool.true_and]
  rw [hp]
  cases p4 : (a.oids == b.oids) with
  | false => simp [hh]
  | true =>
  simp
  refine xcall_self (by simp) (sliceseq_c _ _ q2 _) ?_
  cases p5 : (a.formats == b.formats) with
  | false => simp [hh]
  | true =>
  simp
  refine xcall_self (by simp) (sliceseq_c _ _ q3 _) ?_
  cases p6 : (a.results == b.results) with
  | false => simp [hh]
  | true =>
  simp
  refine xcall_self (by simp) (wsame_c _ _ q4 _) ?_
  simp [hh]
/-! ### Checks -/
def whatB (m : Fm) : Bool := (!(m.kind == 67) && !(m.kind == 68)) || m.what == 83 || m.what == 80
theorem frightwhat_c (m : Fm) (h : List (List AV)) : Contract Try.prog 64 [.agg (fmC m)] h (.v (.bool (whatB m))) h [] := by
  refine contract_of k64 mixed (by simp [c64]) fun hh hargs => ?_
  unfold whatB
  cases h1 : m.kind == 67 with
  | false =>
    have e1 : (m.kind != 67) = true := by simp [bne, h1]
    cases h2 : m.kind == 68 with
    | false =>
      have e2 : (m.kind != 68) = true := by simp [bne, h2]
      simp [c64, fmC_mk, hh, e1, e2]
    | true =>
      have e2 : (m.kind != 68) = false := by simp [bne, h2]
      cases h3 : m.what == 83 <;> simp [c64, fmC_mk, hh, e1, e2, h3]
  | true =>
    have e1 : (m.kind != 67) = false := by simp [bne, h1]
    cases h3 : m.what == 83 <;> simp [c64, fmC_mk, hh, e1, h3]
def listsB (m : Fm) : Bool := (decide (m.oids.length ≤ 65535) && (decide (m.formats.length ≤ 65535) && (decide (m.results.length ≤ 65535) && decide (m.params.length ≤ 65535)))) && (m.oids.all (unsB 4) && (m.formats.all (unsB 2) && (m.results.all (unsB 2) && m.params.all cellB)))
theorem frightlists_c (m : Fm) (hf : FmFit m) (h : List (List AV)) : Contract Try.prog 65 [.agg (fmC m)] h (.v (.bool (listsB m))) h [] := by
  obtain ⟨q1, q2, q3, q4, q5, _⟩ := hf
  refine contract_of k65 mixed (by simp [c65]) fun hh hargs => ?_
  have e : listsB m = (decide ((m.oids.length : Int) ≤ 65535 ∧ (m.formats.length : Int) ≤ 65535 ∧ (m.results.length : Int) ≤ 65535 ∧ (m.params.length : Int) ≤ 65535) && (m.oids.all (unsB 4) && (m.formats.all (unsB 2) && (m.results.all (unsB 2) && m.params.all cellB)))) := by
    unfold listsB
    congr 1
    rw [Bool.eq_iff_iff]
    simp
    omega
  rw [e]
  by_cases hL : (m.oids.length : Int) ≤ 65535 ∧ (m.formats.length : Int) ≤ 65535 ∧ (m.results.length : Int) ≤ 65535 ∧ (m.params.length : Int) ≤ 65535
  · obtain ⟨l1, l2, l3, l4⟩ := hL
    simp [c65, fmC_mk, l1, l2, l3, l4]
    refine xcall_self (by simp) (wuns_c 4 _ q1 _) ?_
    cases p1 : m.oids.all (unsB 4) with
    | false => simp [hh]
    | true =>
    simp
    refine xcall_self (by simp) (wuns_c 2 _ q2 _) ?_
    cases p2 : m.formats.all (unsB 2) with
    | false => simp [hh]
    | true =>
    simp
    refine xcall_self (by simp) (wuns_c 2 _ q3 _) ?_
    cases p3 : m.results.all (unsB 2) with
    | false => simp [hh]
    | true =>
    simp
    refine xcall_self (by simp) (wcells_c _ q4 q5 _) ?_
    simp [hh]
  · simp [c65, fmC_mk, hL, hh]
/-- With those fields alone that the body has. -/
def saidF (m : Fm) : Fm :=
  if m.kind = 80 then ⟨80, 0, m.name, [], m.text, m.oids, [], [], [], 0⟩
  else if m.kind = 66 then ⟨66, 0, m.name, m.portal, [], [], m.formats, m.results, m.params, 0⟩
  else if m.kind = 67 ∨ m.kind = 68 then (if m.what = 83 then ⟨m.kind, m.what, m.name, [], [], [], [], [], [], 0⟩ else ⟨m.kind, m.what, [], m.portal, [], [], [], [], [], 0⟩)
  else if m.kind = 69 then ⟨69, 0, [], m.portal, [], [], [], [], [], m.max⟩
  else if m.kind = 81 then ⟨81, 0, [], [], m.text, [], [], [], [], 0⟩
  else ⟨m.kind, 0, [], [], [], [], [], [], [], 0⟩
theorem fsaid_c (m : Fm) (h : List (List AV)) : Contract Try.prog 68 [.agg (fmC m)] h (.agg (fmC (saidF m))) h [] := by
  refine contract_of k68 mixed (by simp [c68]) fun hh hargs => ?_
  by_cases h80 : m.kind = 80
  · simp [c68, fmC_mk, hh, saidF, h80]
  by_cases h66 : m.kind = 66
  · simp [c68, fmC_mk, hh, saidF, h66]
  by_cases h67 : m.kind = 67
  · by_cases hw : m.what = 83 <;> simp [c68, fmC_mk, hh, saidF, h67, hw]
  by_cases h68 : m.kind = 68
  · by_cases hw : m.what = 83 <;> simp [c68, fmC_mk, hh, saidF, h68, hw]
  by_cases h69 : m.kind = 69
  · simp [c68, fmC_mk, hh, saidF, h69]
  by_cases h81 : m.kind = 81
  · simp [c68, fmC_mk, hh, saidF, h81]
  simp [c68, fmC_mk, hh, saidF, h80, h66, h67, h68, h69, h81]
/-- What is wrong with a message. -/
def cleanF (m : Fm) : Bool := cleanB m.name && (cleanB m.portal && cleanB m.text)
def checkF (m : Fm) : Int :=
  if ¬ knownI m.kind = 1 then 9
  else if whatB m && (listsB m && (cleanF m && (sgnB 4 m.max && sameF m (saidF m)))) then 0 else 1
theorem fmfit_said {m : Fm} (h : FmFit m) : FmFit (saidF m) := by
  obtain ⟨h1, h2, h3, h4, h5, h6, h7, h8⟩ := h
  unfold saidF FmFit
  repeat' split
  all_goals simp [h1, h2, h3, h4, h6, h7, h8]
  all_goals exact ⟨fun b hc => h5 (_, b) hc, fun b hc => h5 (_, b) hc⟩
theorem fcheck_c (m : Fm) (hf : FmFit m) (h : List (List AV)) : Contract Try.prog 25 [.agg (fmC m)] h (.v (.int .i64 (checkF m))) h [] := by
  refine contract_of k25 mixed (by simp [c25]) fun hh hargs => ?_
  have hf' := fmfit_said hf
  simp [c25]
  refine xcall_self (by simp) (known_c _ _) ?_
  by_cases hk : knownI m.kind = 1
  · simp [hk]
    refine xcall_self (by simp) (frightwhat_c m _) ?_
    have e : checkF m = if whatB m && (listsB m && (cleanF m && (sgnB 4 m.max && sameF m (saidF m)))) then 0 else 1 := by unfold checkF; rw [if_neg (by simp [hk])]
    rw [e]
    cases p1 : whatB m with
    | false => simp [hh]
    | true =>
    simp
    refine xcall_self (by simp) (frightlists_c m hf _) ?_
    cases p2 : listsB m with
    | false => simp [hh]
    | true =>
    simp
    refine xcall_of (wclean_c [m.name, m.portal, m.text] (by simp) _) (by simp [strC]) (by simp) ?_
    have hc : (cleanB m.name && (cleanB m.portal && cleanB m.text)) = cleanF m := rfl
    simp only [List.all_cons, List.all_nil, Bool.and_true, hc]
    cases p3 : cleanF m with
    | false => simp [hh]
    | true =>
    simp
    refine xcall_of (wsgn_c 4 [m.max] (by simp) _) (by simp [intC]) (by simp) ?_
    cases p4 : sgnB 4 m.max with
    | false => simp [hh, p4]
    | true =>
    simp [p4]
    refine xcall_self (by simp) (fsaid_c m _) ?_
    simp
    refine xcall_self (by simp) (fsame_c m (saidF m) hf _) ?_
    cases p5 : sameF m (saidF m) <;> simp [hh]
  · simp [hk, hh, checkF]
end Go.Proofs.Ytcaimoidnppnbaa.Ax
/- The document's answers for front, over values without memory: checks, what is the same. -/
namespace Go.Proofs.Ytcaimoidnppnbaa.Ax
open Go.RowKit Go By Nm Sc Dg
set_option linter.unusedSimpArgs false
set_option linter.unusedVariables false
set_option maxRecDepth 10000

theorem rints_c (xs ys : List Int) (hl : xs.length ≤ 140737488355328) (h : List (List AV)) : Contract Try.prog 77 [.sl 1 (enc intC xs) none .no, .sl 1 (enc intC ys) none .no] h (.v (.bool (xs == ys))) h [] := by
  refine contract_of k77 mixed (by simp [c77]) fun hh hargs => ?_
  rw [← eqL_beq]
  by_cases hlen : xs.length = ys.length
  · simp [c77, hlen]
    refine xloop_ok (D := Nat) (fun j => ⟨[(0, .sl 1 (enc intC xs) none .no), (1, .sl 1 (enc intC ys) none .no), (5, .v (.int .i64 j))], [], h, []⟩) (fun j => j ≤ xs.length ∧ ∀ i (h1 : i < xs.length) (h2 : i < ys.length), i < j → ((· == ·) : Int → Int → Bool) xs[i] ys[i] = true) (fun j => xs.length - j) 0 ⟨by omega, fun i h1 h2 h3 => by omega⟩ ?_ ?_
    · simp [Leq, hh]
    · rintro j ⟨hj, hp⟩
      by_cases hlt : j < ys.length
      · have hlt' : j < xs.length := by omega
        have hw : IntKind.i64.wrap ((j : Int) + 1) = (j : Int) + 1 := wrap64 (by omega) (by omega)
        simp [hlt, hlt', intC]
        refine xwp_cond_of (xs[j] != ys[j]) (by simp) (fun ht => ?_) (fun hf' => ?_)
        · simp at ht
          have : eqL (· == ·) xs ys = false := eqL_no (i := j) hlt' hlt (by simpa using ht)
          simp [hh, this]
        · simp at hf'
          simp [hw]
          refine ⟨j + 1, ⟨by omega, fun i h1 h2 h3 => ?_⟩, by omega, ?_⟩
          · rcases Nat.lt_or_ge i j with h4 | h4
            · simpa using hp i h1 h2 h4
            · have : i = j := by omega
              subst this; simpa using hf'
          · simp [Leq, hh]
      · have hx : eqL (· == ·) xs ys = true := (eqL_iff _ xs ys).2 ⟨hlen, fun i h1 h2 => hp i h1 h2 (by omega)⟩
        have hlt' : ¬ j < xs.length := by omega
        simp [hh, hx, hlt, hlt']
  · have hne : (xs.length : Int) ≠ ys.length := by omega
    have hx : eqL (· == ·) xs ys = false := eqL_len hlen
    simp [c77, hne, hh, hx]
theorem rcells_c (xs ys : List Cl) (hl : xs.length ≤ 140737488355328) (h : List (List AV)) : Contract Try.prog 78 [.sl 2 (enc cellC xs) none .no, .sl 2 (enc cellC ys) none .no] h (.v (.bool (xs == ys))) h [] := by
  refine contract_of k78 mixed (by simp [c78]) fun hh hargs => ?_
  rw [← eqL_beq]
  by_cases hlen : xs.length = ys.length
  · simp [c78, hlen]
    refine xloop_ok (D := Nat) (fun j => ⟨[(0, .sl 2 (enc cellC xs) none .no), (1, .sl 2 (enc cellC ys) none .no), (5, .v (.int .i64 j))], [], h, []⟩) (fun j => j ≤ xs.length ∧ ∀ i (h1 : i < xs.length) (h2 : i < ys.length), i < j → ((· == ·) : Cl → Cl → Bool) xs[i] ys[i] = true) (fun j => xs.length - j) 0 ⟨by omega, fun i h1 h2 h3 => by omega⟩ ?_ ?_
    · simp [Leq, hh]
    · rintro j ⟨hj, hp⟩
      by_cases hlt : j < ys.length
      · have hlt' : j < xs.length := by omega
        have hw : IntKind.i64.wrap ((j : Int) + 1) = (j : Int) + 1 := wrap64 (by omega) (by omega)
        obtain ⟨n, b, hx⟩ : ∃ n b, xs[j] = (n, b) := ⟨_, _, rfl⟩
        obtain ⟨m, d, hy⟩ : ∃ m d, ys[j] = (m, d) := ⟨_, _, rfl⟩
        have next : xs[j] = ys[j] → ∀ i (h1 : i < xs.length) (h2 : i < ys.length), i < j + 1 → ((· == ·) : Cl → Cl → Bool) xs[i] ys[i] = true := fun he i h1 h2 h3 => by
          rcases Nat.lt_or_ge i j with h4 | h4
          · exact hp i h1 h2 h4
          · have : i = j := by omega
            subst this; simp [he]
        have no : xs[j] ≠ ys[j] → eqL (· == ·) xs ys = false := fun he => eqL_no (i := j) hlt' hlt (by simpa using he)
        rw [hx, hy] at next no
        cases hnm : n == m with
        | false =>
          have e := no (by rintro he; injection he with h1 h2; simp [h1] at hnm)
          simp [hlt, hlt', hx, hy, cellC_mk, hnm, hh, e]
        | true =>
          have hnm' : n = m := by simpa using hnm
          cases hbd : b == d with
          | false =>
            have e := no (by rintro he; injection he with h1 h2; simp [h2] at hbd)
            simp [hlt, hlt', hx, hy, cellC_mk, hnm, hbd, hh, e]
          | true =>
            have hbd' : b = d := by simpa using hbd
            have e := next (by rw [hnm', hbd'])
            simp [hlt, hlt', hx, hy, cellC_mk, hnm, hbd, hw]
            refine ⟨j + 1, ⟨by omega, fun i h1 h2 h3 => by simpa using e i h1 h2 h3⟩, by omega, ?_⟩
            simp [Leq, hh]
      · have hx : eqL (· == ·) xs ys = true := (eqL_iff _ xs ys).2 ⟨hlen, fun i h1 h2 => hp i h1 h2 (by omega)⟩
        have hlt' : ¬ j < xs.length := by omega
        simp [hh, hx, hlt, hlt']
  · have hne : (xs.length : Int) ≠ ys.length := by omega
    have hx : eqL (· == ·) xs ys = false := eqL_len hlen
    simp [c78, hne, hh, hx]
def betB (lo hi z : Int) : Bool := !decide (z < lo) && !decide (hi < z)
theorem take_all {α : Type} {p : α → Bool} {xs : List α} {j : Nat} (hj : j < xs.length) (h1 : ∀ x ∈ xs.take j, p x = true) (h2 : p xs[j] = true) : ∀ x ∈ xs.take (j + 1), p x = true := by
  rw [take_next hj]
  intro x hx
  rcases List.mem_append.1 hx with h | h
  · exact h1 x h
  · simp at h; subst h; exact h2
theorem all_no {α : Type} {p : α → Bool} {xs : List α} {j : Nat} (hj : j < xs.length) (h2 : p xs[j] = false) : xs.all p = false := by
  rw [List.all_eq_false]; exact ⟨_, List.getElem_mem hj, by simp [h2]⟩
theorem rbetween_c (l : List Int) (lo hi : Int) (h : List (List AV)) : Contract Try.prog 70 [.sl 1 (enc intC l) none .no, .v (.int .i64 lo), .v (.int .i64 hi)] h (.v (.bool (decide (l.length ≤ 65535) && l.all (betB lo hi)))) h [] := by
  refine contract_of k70 mixed (by simp [c70]) fun hh hargs => ?_
  by_cases hl : (65535 : Int) < l.length
  · have hl' : ¬ l.length ≤ 65535 := by omega
    simp [c70, hl, hl', hh]
  · have hl' : l.length ≤ 65535 := by omega
    simp [c70, hl, hl']
    refine xloop_ok (D := Nat) (fun j => ⟨[(0, .sl 1 (enc intC l) none .no), (1, .v (.int .i64 lo)), (2, .v (.int .i64 hi)), (7, .v (.int .i64 j))], [], h, []⟩) (fun j => j ≤ l.length ∧ ∀ x ∈ l.take j, betB lo hi x = true) (fun j => l.length - j) 0 (by simp) ?_ ?_
    · simp [Leq, hh]
    · rintro j ⟨hj, hp⟩
      by_cases hlt : j < l.length
      · have hw : IntKind.i64.wrap ((j : Int) + 1) = (j : Int) + 1 := wrap64 (by omega) (by omega)
        by_cases h1 : l[j] < lo
        · have e := all_no (p := betB lo hi) hlt (by simp [betB, h1])
          simp [hlt, intC, h1, hh, e]
        · by_cases h2 : hi < l[j]
          · have e := all_no (p := betB lo hi) hlt (by simp [betB, h2])
            simp [hlt, intC, h1, h2, hh, e]
          · simp [hlt, intC, h1, h2, hw]
            refine ⟨j + 1, ⟨by omega, take_all hlt hp (by simp [betB, h1, h2])⟩, by omega, ?_⟩
            simp [Leq, hh]
      · have : j = l.length := by omega
        subst this
        have e : l.all (betB lo hi) = true := by rw [List.take_length] at hp; exact List.all_eq_true.2 hp
        simp [hh, e]
theorem rvalues_c (l : List Cl) (h : List (List AV)) : Contract Try.prog 71 [.sl 2 (enc cellC l) none .no] h (.v (.bool (decide (l.length ≤ 65535) && l.all cellB))) h [] := by
  refine contract_of k71 mixed (by simp [c71]) fun hh hargs => ?_
  by_cases hl : (65535 : Int) < l.length
  · have hl' : ¬ l.length ≤ 65535 := by omega
    simp [c71, hl, hl', hh]
  · have hl' : l.length ≤ 65535 := by omega
    simp [c71, hl, hl']
    refine xloop_ok (D := Nat) (fun j => ⟨[(0, .sl 2 (enc cellC l) none .no), (3, .v (.int .i64 j))], [], h, []⟩) (fun j => j ≤ l.length ∧ ∀ x ∈ l.take j, cellB x = true) (fun j => l.length - j) 0 (by simp) ?_ ?_
    · simp [Leq, hh]
    · rintro j ⟨hj, hp⟩
      by_cases hlt : j < l.length
      · have hw : IntKind.i64.wrap ((j : Int) + 1) = (j : Int) + 1 := wrap64 (by omega) (by omega)
        obtain ⟨n, b, hx⟩ : ∃ n b, l[j] = (n, b) := ⟨_, _, rfl⟩
        by_cases h1 : (1048576 : Int) < b.length
        · have h3 : ¬ b.length ≤ 1048576 := by omega
          have e := all_no (p := cellB) hlt (by rw [hx]; simp [cellB, h3])
          cases n
          · simp [hlt, hx, cellC_mk, h1, hh, e]
          · have h2 : 0 < b.length := by omega
            simp [hlt, hx, cellC_mk, h1, h2, hh, e]
        · have h1' : b.length ≤ 1048576 := by omega
          cases n
          · simp [hlt, hx, cellC_mk, h1, hw]
            refine ⟨j + 1, ⟨by omega, ⟨fun b => take_all hlt hp (by rw [hx]; simp [cellB, h1']) (_, b), fun b => take_all hlt hp (by rw [hx]; simp [cellB, h1']) (_, b)⟩⟩, by omega, ?_⟩
            simp [Leq, hh]
          · by_cases h2 : 0 < b.length
            · have e := all_no (p := cellB) hlt (by rw [hx]; simp [cellB, h2])
              simp [hlt, hx, cellC_mk, h1, h2, hh, e]
            · simp [hlt, hx, cellC_mk, h1, h2, hw]
              refine ⟨j + 1, ⟨by omega, ⟨fun b => take_all hlt hp (by rw [hx]; simp [cellB, h1', h2]) (_, b), fun b => take_all hlt hp (by rw [hx]; simp [cellB, h1', h2]) (_, b)⟩⟩, by omega, ?_⟩
              simp [Leq, hh]
      · have : j = l.length := by omega
        subst this
        have e : l.all cellB = true := by rw [List.take_length] at hp; exact List.all_eq_true.2 hp
        simp [hh, e]
theorem rsame_c (a b : Fm) (ha : FmFit a) (h : List (List AV)) : Contract Try.prog 28 [.agg (fmC a), .agg (fmC b)] h (.v (.bool (sameF a b))) h [] := by
  obtain ⟨q1, q2, q3, q4, _⟩ := ha
  refine contract_of k28 mixed (by simp [c28]) fun hh hargs => ?_
  have one : sameF a b = ((a.kind == b.kind && (a.what == b.what && (a.name == b.name && (a.portal == b.portal && (a.text == b.text && a.max == b.max))))) && (a.oids == b.oids && (a.formats == b.formats && (a.results == b.results && a.params == b.params)))) := by
    simp only [sameF, Bool.and_assoc]
  rw [one]
  cases p1 : a.kind == b.kind with
  | false => simp [c28, hh, p1]
  | true =>
  cases p2 : a.what == b.what with
  | false => simp [c28, hh, p1, p2]
  | true =>
  cases p3 : a.name == b.name with
  | false => simp [c28, hh, p1, p2, p3]
  | true =>
  cases p4 : a.portal == b.portal with
  | false => simp [c28, hh, p1, p2, p3, p4]
  | true =>
  cases p5 : a.text == b.text with
  | false => simp [c28, hh, p1, p2, p3, p4, p5]
  | true =>
  cases p6 : a.max == b.max with
  | false => simp [c28, hh, p1, p2, p3, p4, p5, p6]
  | true =>
  simp [c28, p1, p2, p3, p4, p5, p6]
  refine xcall_self (by simp) (rints_c _ _ q1 _) ?_
  cases p7 : a.oids == b.oids with
  | false => simp [hh]
  | true =>
  simp
  refine xcall_self (by simp) (rints_c _ _ q2 _) ?_
  cases p8 : a.formats == b.formats with
  | false => simp [hh]
  | true =>
  simp
  refine xcall_self (by simp) (rints_c _ _ q3 _) ?_
  cases p9 : a.results == b.results with
  | false => simp [hh]
  | true =>
  simp
  refine xcall_self (by simp) (rcells_c _ _ q4 _) ?_
  simp [hh]
theorem rkept_c (m : Fm) (h : List (List AV)) : Contract Try.prog 72 [.agg (fmC m)] h (.agg (fmC (saidF m))) h [] := by
  refine contract_of k72 mixed (by simp [c72]) fun hh hargs => ?_
  by_cases h80 : m.kind = 80
  · simp [c72, fmC_mk, hh, saidF, h80]
  by_cases h66 : m.kind = 66
  · simp [c72, fmC_mk, hh, saidF, h66]
  by_cases h67 : m.kind = 67
  · by_cases hw : m.what = 83 <;> simp [c72, fmC_mk, hh, saidF, h67, hw]
  by_cases h68 : m.kind = 68
  · by_cases hw : m.what = 83 <;> simp [c72, fmC_mk, hh, saidF, h68, hw]
  by_cases h69 : m.kind = 69
  · simp [c72, fmC_mk, hh, saidF, h69]
  by_cases h81 : m.kind = 81
  · simp [c72, fmC_mk, hh, saidF, h81]
  simp [c72, fmC_mk, hh, saidF, h80, h66, h67, h68, h69, h81]
/-- Whether that one speaks of something, as the document says it. -/
def rwhatB (m : Fm) : Bool := if m.kind = 67 ∨ m.kind = 68 then m.what == 83 || m.what == 80 else m.what == 0 || (m.what == 83 || m.what == 80)
def rlistsB (m : Fm) : Bool := (decide (m.oids.length ≤ 65535) && m.oids.all (betB 0 4294967295)) && ((decide (m.formats.length ≤ 65535) && m.formats.all (betB 0 65535)) && ((decide (m.results.length ≤ 65535) && m.results.all (betB 0 65535)) && (decide (m.params.length ≤ 65535) && m.params.all cellB)))
def rcheckF (m : Fm) : Int :=
  if ¬ knownI m.kind = 1 then 9
  else if cleanF m && (rlistsB m && (rwhatB m && (betB (-2147483648) 2147483647 m.max && sameF m (saidF m)))) then 0 else 1
theorem rcheck_c (m : Fm) (hf : FmFit m) (h : List (List AV)) : Contract Try.prog 26 [.agg (fmC m)] h (.v (.int .i64 (rcheckF m))) h [] := by
  refine contract_cut (XCode.cuts [false, false, true, true, true, true] c26.code) k26 rfl mixed (by simp [c26]) fun hh hargs => ?_
  have hf' := fmfit_said hf
  have hf0 := hf
  obtain ⟨q1, q2, q3, q4, q5, q6, q7, q8⟩ := hf
  simp [c26]
  refine xcall_self (by simp) (rknown_c _ _) ?_
  by_cases hk : knownI m.kind = 1
  · simp [hk]
    refine xseq_cut ⟨[(1, .box h.length 0), (2, .v (.int .i64 0)), (3, .v (.bool (cleanF m)))], [], h ++ [fmC m], []⟩ ?_ ?_
    · simp
      refine xcall_self (by simp) (rclean_c _ (by unfold maxLen; omega) _) ?_
      cases p1 : cleanB m.name with
      | false => simp [Leq, hh, cleanF, p1]
      | true =>
      simp
      refine xcall_self (by simp) (rclean_c _ (by unfold maxLen; omega) _) ?_
      cases p2 : cleanB m.portal with
      | false => simp [Leq, hh, cleanF, p1, p2]
      | true =>
      simp
      refine xcall_self (by simp) (rclean_c _ (by unfold maxLen; omega) _) ?_
      simp [Leq, hh, cleanF, p1, p2]
    refine xseq_cut ⟨[(1, .box h.length 0), (2, .v (.int .i64 0)), (3, .v (.bool (cleanF m))), (4, .v (.bool (rlistsB m)))], [], h ++ [fmC m], []⟩ ?_ ?_
    · unfold rlistsB
      simp
      refine xcall_self (by simp) (rbetween_c _ _ _ _) ?_
      cases p1 : (decide (m.oids.length ≤ 65535) && m.oids.all (betB 0 4294967295)) with
      | false => simp [Leq, hh]
      | true =>
      simp
      refine xcall_self (by simp) (rbetween_c _ _ _ _) ?_
      cases p2 : (decide (m.formats.length ≤ 65535) && m.formats.all (betB 0 65535)) with
      | false => simp [Leq, hh]
      | true =>
      simp
      refine xcall_self (by simp) (rbetween_c _ _ _ _) ?_
      cases p3 : (decide (m.results.length ≤ 65535) && m.results.all (betB 0 65535)) with
      | false => simp [Leq, hh]
      | true =>
      simp
      refine xcall_self (by simp) (rvalues_c _ _) ?_
      simp [Leq, hh]
    refine xseq_cut ⟨[(1, .box h.length 0), (2, .v (.int .i64 0)), (3, .v (.bool (cleanF m))), (4, .v (.bool (rlistsB m))), (5, .v (.bool (m.what == 0 || (m.what == 83 || m.what == 80))))], [], h ++ [fmC m], []⟩ ?_ ?_
    · cases p0 : m.what == 0 with
      | true => simp [Leq, hh, p0]
      | false =>
      cases p1 : m.what == 83 <;> simp [Leq, hh, p0, p1]
    refine xseq_cut ⟨[(1, .box h.length 0), (2, .v (.int .i64 0)), (3, .v (.bool (cleanF m))), (4, .v (.bool (rlistsB m))), (5, .v (.bool (rwhatB m)))], [], h ++ [fmC m], []⟩ ?_ ?_
    · by_cases p67 : m.kind = 67
      · have e : rwhatB m = (m.what == 83 || m.what == 80) := by simp [rwhatB, p67]
        cases p1 : m.what == 83 <;> simp [Leq, hh, p67, p1, e]
      · by_cases p68 : m.kind = 68
        · have e : rwhatB m = (m.what == 83 || m.what == 80) := by simp [rwhatB, p68]
          cases p1 : m.what == 83 <;> simp [Leq, hh, p68, p1, e]
        · have e : rwhatB m = (m.what == 0 || (m.what == 83 || m.what == 80)) := by simp [rwhatB, p67, p68]
          simp [Leq, hh, p67, p68, e]
    have e : rcheckF m = if cleanF m && (rlistsB m && (rwhatB m && (betB (-2147483648) 2147483647 m.max && sameF m (saidF m)))) then 0 else 1 := by unfold rcheckF; rw [if_neg (by simp [hk])]
    rw [e]
    cases p1 : cleanF m with
    | false => simp [hh]
    | true =>
    cases p2 : rlistsB m with
    | false => simp [hh]
    | true =>
    cases p3 : rwhatB m with
    | false => simp [hh]
    | true =>
    by_cases p4 : m.max < -2147483648
    · simp [hh, p4, betB]
    by_cases p5 : 2147483647 < m.max
    · simp [hh, p4, p5, betB]
    simp [p4, p5, betB]
    refine xcall_self (by simp) (rkept_c m _) ?_
    simp
    refine xcall_self (by simp) (rsame_c m (saidF m) hf0 _) ?_
    cases p5 : sameF m (saidF m) <;> simp [hh]
  · simp [hk, hh, rcheckF]
end Go.Proofs.Ytcaimoidnppnbaa.Ax
/- Front's messages as bytes, over values without memory: both sides. -/
namespace Go.Proofs.Ytcaimoidnppnbaa.Ax
open Go.RowKit Go By Nm Sc Dg
set_option linter.unusedSimpArgs false
set_option linter.unusedVariables false
set_option maxRecDepth 10000

/-! ### slices.Concat -/
def bytC (b : List UInt8) : List AV := [.sl 1 (bytesE b) none .no]
@[simp] theorem ltLL_bytC (n : Nat) (l : List (List UInt8)) : ltLL n (enc bytC l) := ltLL_enc bytC n (fun _ => by simp [bytC]) l
/-- Lists of bytes, one behind the other. -/
def catL (l : List (List UInt8)) : List UInt8 := l.flatMap id
theorem catL_step (l : List (List UInt8)) (a j : Nat) (hj : j < l.length) (N : Nat) (hN : a + (catL l).length ≤ N) : catL (l.take (j + 1)) = catL (l.take j) ++ l[j] ∧ a + ((catL (l.take j)).length + l[j].length) ≤ N := flat_step id l a j hj N hN
@[simp] theorem catL_nil : catL [] = [] := of_eq_true (eq_self _)
@[simp] theorem catL_cons (x : List UInt8) (l : List (List UInt8)) : catL (x :: l) = x ++ catL l := of_eq_true (eq_self _)
theorem concat_c (l : List (List UInt8)) (h : List (List AV)) (hl : (catL l).length ≤ 140737488355328) (hn : l.length ≤ 140737488355328) : Contract Try.prog 112 [.sl 1 (enc bytC l) none .no] h (.sl 1 (bytesE (catL l)) none (.own .res)) h [] := by
  refine contract_of k112 mixed (by simp [c112]) fun hh hargs => ?_
  simp [c112]
  refine xloop_ok (D := Nat) (fun j => ⟨[(0, .sl 1 (enc bytC l) none .no), (3, .v (.int .i64 (catL (l.take j)).length)), (9, .sl 1 (enc bytC l) none .no), (10, .v (.int .i64 l.length)), (11, .v (.int .i64 j))], [], h, []⟩) (fun j => j ≤ l.length) (fun j => l.length - j) 0 (by simp) ?_ ?_
  · simp [Leq, hh]
  · intro j hj
    by_cases hlt : j < l.length
    · have hw : IntKind.i64.wrap ((j : Int) + 1) = (j : Int) + 1 := wrap64 (by omega) (by omega)
      obtain ⟨hx, hb⟩ := catL_step l 0 j hlt _ (by simpa using hl)
      have hw2 : IntKind.i64.wrap (((catL (l.take j)).length : Int) + (l[j].length : Int)) = ((catL (l.take (j + 1))).length : Int) := by
        rw [hx, List.length_append, wrap64 (by omega) (by omega)]; simp
      have h0 : ¬ ((catL (l.take (j + 1))).length : Int) < 0 := by omega
      simp [hlt, bytC, hw, hw2, h0]
      refine ⟨j + 1, by omega, by omega, ?_⟩
      simp [Leq, hh]
    · have : j = l.length := by omega
      subst this
      simp 
      refine xcall_self (by simp) (grow_c _ hl h) ?_
      simp 
      refine xloop_ok (D := Nat) (fun j => ⟨[(25, .sl 1 (enc bytC l) none .no), (26, .v (.int .i64 l.length)), (27, .v (.int .i64 j))], [(6, .sl 1 (bytesE (catL (l.take j))) none (.own (.slot 6)))], h, []⟩) (fun j => j ≤ l.length) (fun j => l.length - j) 0 (by simp) ?_ ?_
      · simp [Leq, hh]
      · intro j hj
        by_cases hlt : j < l.length
        · have hw : IntKind.i64.wrap ((j : Int) + 1) = (j : Int) + 1 := wrap64 (by omega) (by omega)
          obtain ⟨hx, hb⟩ := catL_step l 0 j hlt _ (by simpa using hl)
          simp [hlt, bytC, hw]
          refine ⟨by omega, j + 1, by omega, by omega, ?_⟩
          simp [Leq, hh, hx]
        · have : j = l.length := by omega
          subst this
          simp [hh]

/-! ### A body -/
def bodyF (m : Fm) : List UInt8 :=
  if m.kind = 80 then textsL [m.name, m.text] ++ listL (numE 4) m.oids
  else if m.kind = 66 then textsL [m.portal, m.name] ++ (listL (numE 2) m.formats ++ (listL cellE m.params ++ listL (numE 2) m.results))
  else if m.kind = 67 ∨ m.kind = 68 then UInt8.ofNat m.what.toNat :: textsL [m.name ++ m.portal]
  else if m.kind = 69 then putL (textsL [m.portal]) m.max 4
  else if m.kind = 81 then textsL [m.text]
  else []
theorem fbody_c (m : Fm) (hf : FmFit m) (hw : 0 ≤ m.what ∧ m.what < 256) (h : List (List AV)) (hb : (bodyF m).length ≤ 140737488351232) (hc : ∀ c ∈ m.params, c.2.length ≤ 70000000000000) : Contract Try.prog 60 [.agg (fmC m)] h (.sl 1 (bytesE (bodyF m)) none .no) h [] := by
  obtain ⟨q1, q2, q3, q4, q5, q6, q7, q8⟩ := hf
  refine contract_of k60 mixed (by simp [c60]) fun hh hargs => ?_
  by_cases h80 : m.kind = 80
  · have e : bodyF m = textsL [m.name, m.text] ++ listL (numE 4) m.oids := if_pos h80
    rw [e] at hb ⊢
    rw [List.length_append] at hb
    simp [c60, h80]
    refine xcall_of (wtexts_c [m.name, m.text] (by omega) _) (by simp [strC]) (by simp) ?_
    simp
    refine xcall_self (by simp) (wnumbers_c 4 m.oids _ (by omega) q1) ?_
    simp
    refine xcall_of (concat_c [textsL [m.name, m.text], listL (numE 4) m.oids] _ (by simp; omega) (by simp)) (by simp [bytC]) (by simp) ?_
    simp [hh]
  by_cases h66 : m.kind = 66
  · have e : bodyF m = textsL [m.portal, m.name] ++ (listL (numE 2) m.formats ++ (listL cellE m.params ++ listL (numE 2) m.results)) := by unfold bodyF; rw [if_neg h80, if_pos h66]
    rw [e] at hb ⊢
    simp only [List.length_append] at hb
    simp [c60, h66]
    refine xcall_of (wtexts_c [m.portal, m.name] (by omega) _) (by simp [strC]) (by simp) ?_
    simp
    refine xcall_self (by simp) (wnumbers_c 2 m.formats _ (by omega) q2) ?_
    simp
    refine xcall_self (by simp) (wcells2_c m.params _ (by omega) q4 hc) ?_
    simp
    refine xcall_self (by simp) (wnumbers_c 2 m.results _ (by omega) q3) ?_
    simp
    refine xcall_of (concat_c [textsL [m.portal, m.name], listL (numE 2) m.formats, listL cellE m.params, listL (numE 2) m.results] _ (by simp; omega) (by simp)) (by simp [bytC]) (by simp) ?_
    simp [hh]
  have hwt : (((UInt8.ofNat m.what.toNat).toNat : Nat) : Int) = m.what := by simp; omega
  have hw3 : max m.what 0 % 256 = m.what := by omega
  by_cases h67 : m.kind = 67
  · have e : bodyF m = UInt8.ofNat m.what.toNat :: textsL [m.name ++ m.portal] := by unfold bodyF; rw [if_neg h80, if_neg h66, if_pos (.inl h67)]
    rw [e] at hb ⊢
    simp only [List.length_cons] at hb
    simp [c60, h67]
    have hl : m.name.length + m.portal.length ≤ 140737488351232 := by simp [textsL, He.encT] at hb; omega
    refine ⟨by omega, ?_, ?_, ?_⟩
    all_goals
      refine xcall_of (wtexts_c [m.name ++ m.portal] (by omega) _) (by simp [strC]) (by simp) ?_
      simp [hh, hw3]
      omega
  by_cases h68 : m.kind = 68
  · have e : bodyF m = UInt8.ofNat m.what.toNat :: textsL [m.name ++ m.portal] := by unfold bodyF; rw [if_neg h80, if_neg h66, if_pos (.inr h68)]
    rw [e] at hb ⊢
    simp only [List.length_cons] at hb
    simp [c60, h68]
    have hl : m.name.length + m.portal.length ≤ 140737488351232 := by simp [textsL, He.encT] at hb; omega
    refine ⟨by omega, ?_, ?_, ?_⟩
    all_goals
      refine xcall_of (wtexts_c [m.name ++ m.portal] (by omega) _) (by simp [strC]) (by simp) ?_
      simp [hh, hw3]
      omega
  by_cases h69 : m.kind = 69
  · have e : bodyF m = putL (textsL [m.portal]) m.max 4 := by unfold bodyF; rw [if_neg h80, if_neg h66, if_neg (by omega), if_pos h69]
    rw [e] at hb ⊢
    have hb2 : (textsL [m.portal]).length ≤ (putL (textsL [m.portal]) m.max 4).length := by
      unfold putL; split
      · simp
      · exact Nat.le_refl _
    simp [c60, h69]
    refine xcall_of (wtexts_c [m.portal] (by omega) _) (by simp [strC]) (by simp) ?_
    simp
    refine xcall_of (put_c (textsL [m.portal]) m.max 4 (by omega) _) (by simp) (by simp) ?_
    simp [hh]
  by_cases h81 : m.kind = 81
  · have e : bodyF m = textsL [m.text] := by unfold bodyF; rw [if_neg h80, if_neg h66, if_neg (by omega), if_neg h69, if_pos h81]
    rw [e] at hb ⊢
    simp [c60, h81]
    refine xcall_of (wtexts_c [m.text] (by omega) _) (by simp [strC]) (by simp) ?_
    simp [hh]
  have e : bodyF m = [] := by unfold bodyF; rw [if_neg h80, if_neg h66, if_neg (by omega), if_neg h69, if_neg h81]
  rw [e]
  simp [c60, h80, h66, h67, h68, h69, h81, hh]
/-- What Encode answers. -/
def encF (m : Fm) : Ms × Int := if checkF m = 0 then (⟨m.kind, bodyF m⟩, 0) else (⟨0, []⟩, checkF m)
theorem fencode_c (m : Fm) (hf : FmFit m) (hw : 0 ≤ m.what ∧ m.what < 256) (h : List (List AV)) (hb : (bodyF m).length ≤ 140737488351232) (hc : ∀ c ∈ m.params, c.2.length ≤ 70000000000000) : Contract Try.prog 23 [.agg (fmC m)] h (.tup [.agg (msC (encF m).1), .v (.int .i64 (encF m).2)]) h [] := by
  refine contract_of k23 mixed (by simp [c23]) fun hh hargs => ?_
  simp [c23]
  refine xcall_self (by simp) (fcheck_c m hf _) ?_
  by_cases he : checkF m = 0
  · simp [he]
    refine xcall_self (by simp) (fbody_c m hf hw _ hb hc) ?_
    simp [hh, encF, he, msC_mk]
  · simp [he, hh, encF, msC_mk]
end Go.Proofs.Ytcaimoidnppnbaa.Ax
/- Front's messages out of bytes, over values without memory: both sides. -/
namespace Go.Proofs.Ytcaimoidnppnbaa.Ax
open Go.RowKit Go By Nm Sc Dg
set_option linter.unusedSimpArgs false
set_option linter.unusedVariables false
set_option maxRecDepth 10000

abbrev numbersV (size : Int) (st : Sta) : List Int := listV (numV · size) (numS · size) st
abbrev numbersS (size : Int) (st : Sta) : Sta := listS (numV · size) (numS · size) st
abbrev cellsV (st : Sta) : List Cl := listV cellV cellS st
abbrev cellsS (st : Sta) : Sta := listS cellV cellS st
open He (textL)
theorem listS_len {α : Type} (v : Sta → α) (s : Sta → Sta) (hs : ∀ st, He.lenS (s st) ≤ He.lenS st) (st : Sta) : He.lenS (listS v s st) ≤ He.lenS st := by
  unfold listS
  exact Nat.le_trans (readR_lenS v s hs _ _) (numS_len _ _)
/-- What a body says, and what is left of it. -/
def readV (kind : Int) (st : Sta) : Fm :=
  if kind = 80 then ⟨80, 0, textL st, [], textL (textS st), numbersV 4 (textS (textS st)), [], [], [], 0⟩
  else if kind = 66 then ⟨66, 0, textL (textS st), textL st, [], [], numbersV 2 (textS (textS st)), numbersV 2 (cellsS (numbersS 2 (textS (textS st)))), cellsV (numbersS 2 (textS (textS st))), 0⟩
  else if kind = 67 ∨ kind = 68 then (if numV st 1 = 83 then ⟨kind, numV st 1, textL (numS st 1), [], [], [], [], [], [], 0⟩ else ⟨kind, numV st 1, [], textL (numS st 1), [], [], [], [], [], 0⟩)
  else if kind = 69 then ⟨69, 0, [], textL st, [], [], [], [], [], signedI (numV (textS st) 4) 4⟩
  else if kind = 81 then ⟨81, 0, [], [], textL st, [], [], [], [], 0⟩
  else ⟨kind, 0, [], [], [], [], [], [], [], 0⟩
def readS (kind : Int) (st : Sta) : Sta :=
  if kind = 80 then numbersS 4 (textS (textS st))
  else if kind = 66 then numbersS 2 (cellsS (numbersS 2 (textS (textS st))))
  else if kind = 67 ∨ kind = 68 then textS (numS st 1)
  else if kind = 69 then numS (textS st) 4
  else if kind = 81 then textS st
  else st
theorem num1_range (st : Sta) : 0 ≤ numV st 1 ∧ numV st 1 < 256 := by
  unfold numV
  split
  · split
    · exact ⟨(getI_range _ 0 1 (by omega)).1, by have := (getI_range (by assumption) 0 1 (by omega)).2; simpa using this⟩
    · omega
  · omega
theorem wrap_u8 {n : Int} (h : 0 ≤ n ∧ n < 256) : IntKind.u8.wrap n = n := by
  simp only [IntKind.wrap]
  simp [IntKind.bits, IntKind.signed]
  omega
theorem freader_c (i : Nat) (h : List (List AV)) (st : Sta) (hi : h[i]? = some (scC st)) (hl : He.lenS st ≤ 140737488355328) (kind : Int) :
    Contract Try.prog 80 [.agg [.box i 0], .v (.int .u8 kind)] h (.agg (fmC (readV kind st))) (h.set i (scC (readS kind st))) [i] := by
  have hil := heap_lt hi
  have hl1 : He.lenS (textS st) ≤ 140737488355328 := Nat.le_trans (He.textS_len st) hl
  refine contract_of k80 mixed (by simp [c80]) fun hh hargs => ?_
  by_cases h80 : kind = 80
  · subst h80
    simp [c80]
    refine xcall_self (by simp) (text_c i _ st (app_get hi _) hl) ?_
    simp [app_set hil]
    refine xcall_self (by simp) (text_c i _ (textS st) (app_set_get hil _ _) hl1) ?_
    simp [app_set_set hil]
    refine xcall_self (by simp) (wnumr_c i _ (textS (textS st)) (app_set_get hil _ _) 4) ?_
    simp [app_set_set hil, hh, readV, readS, scC_lt, fmC_mk]
  by_cases h66 : kind = 66
  · subst h66
    simp [c80]
    refine xcall_self (by simp) (text_c i _ st (app_get hi _) hl) ?_
    simp [app_set hil]
    refine xcall_self (by simp) (text_c i _ (textS st) (app_set_get hil _ _) hl1) ?_
    simp [app_set_set hil]
    refine xcall_self (by simp) (wnumr_c i _ (textS (textS st)) (app_set_get hil _ _) 2) ?_
    simp [app_set_set hil]
    refine xcall_self (by simp) (wcellsr_c i _ _ (app_set_get hil _ _)) ?_
    simp [app_set_set hil]
    refine xcall_self (by simp) (wnumr_c i _ _ (app_set_get hil _ _) 2) ?_
    simp [app_set_set hil, hh, readV, readS, scC_lt, fmC_mk]
  by_cases h678 : kind = 67 ∨ kind = 68
  · have e1 : readV kind st = if numV st 1 = 83 then ⟨kind, numV st 1, textL (numS st 1), [], [], [], [], [], [], 0⟩ else ⟨kind, numV st 1, [], textL (numS st 1), [], [], [], [], [], 0⟩ := by unfold readV; rw [if_neg h80, if_neg h66, if_pos h678]
    have e2 : readS kind st = textS (numS st 1) := by unfold readS; rw [if_neg h80, if_neg h66, if_pos h678]
    have hl3 : He.lenS (numS st 1) ≤ 140737488355328 := Nat.le_trans (numS_len _ _) hl
    have hwr := wrap_u8 (num1_range st)
    have hw83 : IntKind.u8.wrap 83 = 83 := wrap_u8 (by omega)
    rw [e1, e2]
    rcases h678 with rfl | rfl
    all_goals
      simp [c80]
      refine xcall_self (by simp) (num_c i _ st (app_get hi _) 1) ?_
      by_cases hw : numV st 1 = 83
      · simp [app_set hil, hwr, hw, hw83]
        refine xcall_self (by simp) (text_c i _ _ (app_set_get hil _ _) hl3) ?_
        simp [app_set_set hil, hh, scC_lt, fmC_mk]
      · simp [app_set hil, hwr, hw]
        refine xcall_self (by simp) (text_c i _ _ (app_set_get hil _ _) hl3) ?_
        simp [app_set_set hil, hh, scC_lt, fmC_mk]
  by_cases h69 : kind = 69
  · subst h69
    simp [c80]
    refine xcall_self (by simp) (text_c i _ st (app_get hi _) hl) ?_
    simp [app_set hil]
    refine xcall_self (by simp) (num_c i _ (textS st) (app_set_get hil _ _) 4) ?_
    simp [app_set_set hil]
    refine xcall_self (by simp) (signed_c _ 4 _) ?_
    simp [app_set_set hil, hh, readV, readS, scC_lt, fmC_mk]
  by_cases h81 : kind = 81
  · subst h81
    simp [c80]
    refine xcall_self (by simp) (text_c i _ st (app_get hi _) hl) ?_
    simp [app_set hil, hh, readV, readS, scC_lt, fmC_mk]
  have h67 : ¬ kind = 67 := fun h => h678 (.inl h)
  have h68 : ¬ kind = 68 := fun h => h678 (.inr h)
  simp [c80, h80, h66, h67, h68, h69, h81, hh, readV, readS, scC_lt, fmC_mk, set_same hi, hil]
/-- What Decode answers. -/
def noFm : Fm := ⟨0, 0, [], [], [], [], [], [], [], 0⟩
def decF (m : Ms) : Fm × Int :=
  if knownI m.type = 0 then (noFm, 4) else if knownI m.type = 2 then (noFm, 9)
  else if doneB (readS m.type (some m.body)) && whatB (readV m.type (some m.body)) then (readV m.type (some m.body), 0) else (noFm, 4)
theorem wread_c (xs : List UInt8) (hx : xs.length ≤ 140737488355328) (h : List (List AV)) : Contract Try.prog 79 [.sl 1 (bytesE xs) none .no] h (.agg [.box (h.length + 1) 0]) (h ++ [[.box (h.length + 1) 0], scC (some xs)]) [] := by
  refine contract_of k79 mixed (by simp [c79]) fun hh hargs => ?_
  simp [c79]
  refine xcall_self (by simp) (new_c xs hx _) ?_
  simp [hh, scC_lt]
theorem fdecode_c (m : Ms) (hx : m.body.length ≤ 140737488355328) (h : List (List AV)) : Contract Try.prog 31 [.agg (msC m)] h (.tup [.agg (fmC (decF m).1), .v (.int .i64 (decF m).2)]) h [] := by
  refine contract_of k31 mixed (by simp [c31]) fun hh hargs => ?_
  simp [c31]
  refine xcall_self (by simp) (known_c _ _) ?_
  by_cases k0 : knownI m.type = 0
  · simp [k0, hh, decF, noFm, fmC_mk]
  by_cases k2 : knownI m.type = 2
  · simp [k0, k2, hh, decF, noFm, fmC_mk]
  simp [k0, k2]
  refine xcall_self (by simp) (wread_c _ hx _) ?_
  simp
  refine xcall_self (by simp) (freader_c (h.length + 3) _ (some m.body) (by simp) hx _) ?_
  simp
  refine xcall_self (by simp) (done_c (h.length + 3) _ (readS m.type (some m.body)) (by simp)) ?_
  have e : decF m = if doneB (readS m.type (some m.body)) && whatB (readV m.type (some m.body)) then (readV m.type (some m.body), 0) else (noFm, 4) := by unfold decF; rw [if_neg k0, if_neg k2]
  rw [e]
  cases p1 : doneB (readS m.type (some m.body)) with
  | false => simp [hh, noFm, fmC_mk]
  | true =>
  simp
  refine xcall_self (by simp) (frightwhat_c _ _) ?_
  cases p2 : whatB (readV m.type (some m.body)) with
  | false => simp [hh, noFm, fmC_mk]
  | true => simp [hh]
end Go.Proofs.Ytcaimoidnppnbaa.Ax
/- The document's messages of front as bytes and out of bytes, over values without memory. -/
namespace Go.Proofs.Ytcaimoidnppnbaa.Ax
open Go.RowKit Go By Nm Sc Dg
set_option linter.unusedSimpArgs false
set_option linter.unusedVariables false
set_option maxRecDepth 10000
open He (textL)

theorem rstr_c (xs s : List UInt8) (hl : xs.length + (s.length + 1) ≤ 140737488355328) (h : List (List AV)) : Contract Try.prog 62 [.sl 1 (bytesE xs) none (.own (.arg 0)), .v (.string (strB s))] h (.sl 1 (bytesE (xs ++ He.encT s)) none (.own .res)) h [] := by
  refine contract_of k62 mixed (by simp [c62]) fun hh hargs => ?_
  simp [c62, hh, He.encT]
  omega
theorem putL_eq (xs : List UInt8) (n size : Int) : putL xs n size = xs ++ putL [] n size := by
  unfold putL; split <;> simp
theorem rlist_c (xs : List UInt8) (l : List Int) (size : Int) (hl : (xs ++ listL (numE size) l).length ≤ 140737488351232) (hn : l.length ≤ 140737488355328) (h : List (List AV)) :
    Contract Try.prog 61 [.sl 1 (bytesE xs) none .no, .sl 1 (enc intC l) none .no, .v (.int .i64 size)] h (.sl 1 (bytesE (xs ++ listL (numE size) l)) none (.own .res)) h [] := by
  refine contract_of k61 mixed (by simp [c61]) fun hh hargs => ?_
  rw [List.length_append] at hl
  simp [c61]
  refine xcall_self (by simp) (rput_c xs l.length 2 (by omega) h) ?_
  simp
  have e0 : putL xs l.length 2 = xs ++ (putL [] l.length 2 ++ (l.take 0).flatMap (numE size)) := by rw [putL_eq]; simp
  rw [e0]
  refine xloop_ok (D := Nat) (fun j => ⟨[(1, .sl 1 (enc intC l) none .no), (2, .v (.int .i64 size)), (7, .v (.int .i64 j))], [(0, .sl 1 (bytesE (xs ++ (putL [] l.length 2 ++ (l.take j).flatMap (numE size)))) none (.own (.slot 0)))], h, []⟩) (fun j => j ≤ l.length) (fun j => l.length - j) 0 (by simp) ?_ ?_
  · simp [Leq, hh]
  · intro j hj
    by_cases hlt : j < l.length
    · have hw : IntKind.i64.wrap ((j : Int) + 1) = (j : Int) + 1 := wrap64 (by omega) (by omega)
      obtain ⟨hx, hb⟩ := flat_step (numE size) l (xs.length + (putL [] l.length 2).length) j hlt 140737488351232 (by simp only [listL, List.length_append] at hl; omega)
      simp [hlt, intC, -List.append_assoc]
      refine xcall_of (rput_c (xs ++ (putL [] l.length 2 ++ (l.take j).flatMap (numE size))) l[j] size (by simp only [List.length_append]; omega) h) (by simp) (by simp) ?_
      have e : putL (xs ++ (putL [] l.length 2 ++ (l.take j).flatMap (numE size))) l[j] size = xs ++ (putL [] l.length 2 ++ (l.take (j + 1)).flatMap (numE size)) := by
        rw [putL_eq, hx]; simp [numE]
      rw [e]
      simp [hw]
      refine ⟨j + 1, by omega, by omega, ?_⟩
      simp [Leq, hh]
    · have : j = l.length := by omega
      subst this
      simp [hh, listL]
theorem null_eq : putL [] (-1) 4 = putL [] 4294967295 4 := by decide
theorem rputc_c (xs : List UInt8) (l : List Cl) (hl : (xs ++ listL cellE l).length ≤ 140737488351232) (hn : l.length ≤ 140737488355328) (h : List (List AV)) :
    Contract Try.prog 63 [.sl 1 (bytesE xs) none .no, .sl 2 (enc cellC l) none .no] h (.sl 1 (bytesE (xs ++ listL cellE l)) none (.own .res)) h [] := by
  refine contract_of k63 mixed (by simp [c63]) fun hh hargs => ?_
  rw [List.length_append] at hl
  simp [c63]
  refine xcall_self (by simp) (rput_c xs l.length 2 (by omega) h) ?_
  simp
  have e0 : putL xs l.length 2 = xs ++ (putL [] l.length 2 ++ (l.take 0).flatMap cellE) := by rw [putL_eq]; simp
  rw [e0]
  refine xloop_ok (D := Nat) (fun j => ⟨[(1, .sl 2 (enc cellC l) none .no), (5, .v (.int .i64 j))], [(0, .sl 1 (bytesE (xs ++ (putL [] l.length 2 ++ (l.take j).flatMap cellE))) none (.own (.slot 0)))], h, []⟩) (fun j => j ≤ l.length) (fun j => l.length - j) 0 (by simp) ?_ ?_
  · simp [Leq, hh]
  · intro j hj
    by_cases hlt : j < l.length
    · have hw : IntKind.i64.wrap ((j : Int) + 1) = (j : Int) + 1 := wrap64 (by omega) (by omega)
      obtain ⟨hx, hb⟩ := flat_step cellE l (xs.length + (putL [] l.length 2).length) j hlt 140737488351232 (by simp only [listL, List.length_append] at hl; omega)
      obtain ⟨n, b, hc⟩ : ∃ n b, l[j] = (n, b) := ⟨_, _, rfl⟩
      rw [hc] at hx hb
      cases n with
      | true =>
        rw [cellE_null] at hx hb
        have e : putL (xs ++ (putL [] l.length 2 ++ (l.take j).flatMap cellE)) (-1) 4 = xs ++ (putL [] l.length 2 ++ (l.take (j + 1)).flatMap cellE) := by
          rw [putL_eq, hx, null_eq]; simp
        simp [hlt, hc, cellC_mk, -List.append_assoc]
        refine xcall_of (rput_c (xs ++ (putL [] l.length 2 ++ (l.take j).flatMap cellE)) (-1) 4 (by simp only [List.length_append]; omega) h) (by simp) (by simp) ?_
        rw [e]
        simp [hw]
        refine ⟨j + 1, by omega, by omega, ?_⟩
        simp [Leq, hh]
      | false =>
        rw [cellE_bytes] at hx hb
        have e : putL (xs ++ (putL [] l.length 2 ++ (l.take j).flatMap cellE)) b.length 4 ++ b = xs ++ (putL [] l.length 2 ++ (l.take (j + 1)).flatMap cellE) := by
          rw [putL_eq, hx]; simp
        have e2 : (putL (xs ++ (putL [] l.length 2 ++ (l.take j).flatMap cellE)) b.length 4).length + b.length ≤ 140737488355328 := by
          rw [putL_eq]; simp only [List.length_append] at hb ⊢; omega
        simp [hlt, hc, cellC_mk, -List.append_assoc]
        refine xcall_of (rput_c (xs ++ (putL [] l.length 2 ++ (l.take j).flatMap cellE)) b.length 4 (by simp only [List.length_append]; omega) h) (by simp) (by simp) ?_
        simp [hw, e2, -List.append_assoc]
        refine ⟨j + 1, by omega, by omega, ?_⟩
        rw [← bytesE_append, e]
        simp [Leq, hh]
    · have : j = l.length := by omega
      subst this
      simp [hh, listL]
/-- What the document's Encode answers. -/
def rencF (m : Fm) : Ms × Int := if rcheckF m = 0 then (⟨m.kind, bodyF m⟩, 0) else (⟨0, []⟩, rcheckF m)
theorem textsL_cons (a : List UInt8) (l : List (List UInt8)) : textsL (a :: l) = He.encT a ++ textsL l := rfl
theorem encT_len (a : List UInt8) : (He.encT a).length = a.length + 1 := by simp [He.encT]
theorem rencode_c (m : Fm) (hf : FmFit m) (hw : 0 ≤ m.what ∧ m.what < 256) (h : List (List AV)) (hb : (bodyF m).length ≤ 140737488351232) : Contract Try.prog 24 [.agg (fmC m)] h (.tup [.agg (msC (rencF m).1), .v (.int .i64 (rencF m).2)]) h [] := by
  have hf0 := hf
  obtain ⟨q1, q2, q3, q4, q5, q6, q7, q8⟩ := hf
  refine contract_of k24 mixed (by simp [c24]) fun hh hargs => ?_
  simp [c24]
  refine xcall_self (by simp) (rcheck_c m hf0 _) ?_
  by_cases he : rcheckF m = 0
  · have e0 : rencF m = (⟨m.kind, bodyF m⟩, 0) := if_pos he
    rw [e0]
    by_cases h80 : m.kind = 80
    · have e : bodyF m = (He.encT m.name ++ He.encT m.text) ++ listL (numE 4) m.oids := by unfold bodyF; rw [if_pos h80]; simp [textsL]
      rw [e] at hb ⊢
      simp only [List.length_append, encT_len] at hb
      simp [he, h80, -List.append_assoc]
      refine xcall_of (rstr_c [] m.name (by simp; omega) _) (by simp) (by simp) ?_
      simp
      refine xcall_of (rstr_c (He.encT m.name) m.text (by rw [encT_len]; omega) _) (by simp) (by simp) ?_
      simp
      refine xcall_of (rlist_c (He.encT m.name ++ He.encT m.text) m.oids 4 (by simp only [List.length_append, encT_len]; omega) q1 _) (by simp) (by simp) ?_
      simp [hh, msC_mk, h80]
    by_cases h66 : m.kind = 66
    · have e : bodyF m = (((He.encT m.portal ++ He.encT m.name) ++ listL (numE 2) m.formats) ++ listL cellE m.params) ++ listL (numE 2) m.results := by unfold bodyF; rw [if_neg h80, if_pos h66]; simp [textsL]
      rw [e] at hb ⊢
      simp only [List.length_append, encT_len] at hb
      simp [he, h66, -List.append_assoc]
      refine xcall_of (rstr_c [] m.portal (by simp; omega) _) (by simp) (by simp) ?_
      simp
      refine xcall_of (rstr_c (He.encT m.portal) m.name (by rw [encT_len]; omega) _) (by simp) (by simp) ?_
      simp
      refine xcall_of (rlist_c (He.encT m.portal ++ He.encT m.name) m.formats 2 (by simp only [List.length_append, encT_len]; omega) q2 _) (by simp) (by simp) ?_
      simp
      refine xcall_of (rputc_c ((He.encT m.portal ++ He.encT m.name) ++ listL (numE 2) m.formats) m.params (by simp only [List.length_append, encT_len]; omega) q4 _) (by simp) (by simp) ?_
      simp
      refine xcall_of (rlist_c (((He.encT m.portal ++ He.encT m.name) ++ listL (numE 2) m.formats) ++ listL cellE m.params) m.results 2 (by simp only [List.length_append, encT_len]; omega) q3 _) (by simp) (by simp) ?_
      simp [hh, msC_mk, h66]
    have hw3 : max m.what 0 % 256 = m.what := by omega
    by_cases h678 : m.kind = 67 ∨ m.kind = 68
    · have e : bodyF m = [UInt8.ofNat m.what.toNat] ++ He.encT (m.name ++ m.portal) := by unfold bodyF; rw [if_neg h80, if_neg h66, if_pos h678]; simp [textsL]
      rw [e] at hb ⊢
      simp only [List.length_append, encT_len, List.length_singleton] at hb
      rcases h678 with h67 | h67
      all_goals
        simp [he, h67]
        refine ⟨by omega, ?_⟩
        refine xcall_of (rstr_c [UInt8.ofNat m.what.toNat] (m.name ++ m.portal) (by simp; omega) _) (by simp [hw3]) (by simp) ?_
        simp [hh, msC_mk, h67, hw3]
    have h67 : ¬ m.kind = 67 := fun h => h678 (.inl h)
    have h68 : ¬ m.kind = 68 := fun h => h678 (.inr h)
    by_cases h69 : m.kind = 69
    · have e : bodyF m = putL (He.encT m.portal) m.max 4 := by unfold bodyF; rw [if_neg h80, if_neg h66, if_neg h678, if_pos h69]; simp [textsL]
      rw [e] at hb ⊢
      rw [putL_eq, List.length_append, encT_len] at hb
      simp [he, h69]
      refine xcall_of (rstr_c [] m.portal (by simp; omega) _) (by simp) (by simp) ?_
      simp
      refine xcall_of (rput_c (He.encT m.portal) m.max 4 (by rw [encT_len]; omega) _) (by simp) (by simp) ?_
      simp [hh, msC_mk, h69]
    by_cases h81 : m.kind = 81
    · have e : bodyF m = He.encT m.text := by unfold bodyF; rw [if_neg h80, if_neg h66, if_neg h678, if_neg h69, if_pos h81]; simp [textsL]
      rw [e] at hb ⊢
      rw [encT_len] at hb
      simp [he, h81]
      refine xcall_of (rstr_c [] m.text (by simp; omega) _) (by simp) (by simp) ?_
      simp [hh, msC_mk, h81]
    have e : bodyF m = [] := by unfold bodyF; rw [if_neg h80, if_neg h66, if_neg h678, if_neg h69, if_neg h81]
    rw [e]
    simp [he, h80, h66, h67, h68, h69, h81, hh, msC_mk]
  · simp [he, hh, rencF, msC_mk]
abbrev rnumbersQ (size : Int) (r : Rs) : Rs := listRs (rstep (numS · size)) r
abbrev rcellsQ (r : Rs) : Rs := listRs rcellQ r
abbrev numbersU (size : Int) (st : Sta) : List Int := listU (numV · size) (numS · size) st
/-- What the document reads, and where its scan stands then. -/
def rreadV (kind : Int) (r : Rs) : Fm :=
  if kind = 80 then ⟨80, 0, textL (rabs r), [], textL (textS (rabs r)), numbersU 4 (textS (textS (rabs r))), [], [], [], 0⟩
  else if kind = 66 then ⟨66, 0, textL (textS (rabs r)), textL (rabs r), [], [], numbersU 2 (textS (textS (rabs r))), numbersU 2 (cellsS (numbersS 2 (textS (textS (rabs r))))), listU cellV cellS (numbersS 2 (textS (textS (rabs r)))), 0⟩
  else if kind = 67 ∨ kind = 68 then (if numV (rabs r) 1 = 83 then ⟨kind, numV (rabs r) 1, textL (numS (rabs r) 1), [], [], [], [], [], [], 0⟩ else ⟨kind, numV (rabs r) 1, [], textL (numS (rabs r) 1), [], [], [], [], [], 0⟩)
  else if kind = 69 then ⟨69, 0, [], textL (rabs r), [], [], [], [], [], signedI (numV (textS (rabs r)) 4) 4⟩
  else if kind = 81 then ⟨81, 0, [], [], textL (rabs r), [], [], [], [], 0⟩
  else ⟨kind, 0, [], [], [], [], [], [], [], 0⟩
def rreadQ (kind : Int) (r : Rs) : Rs :=
  if kind = 80 then rnumbersQ 4 (rstep textS (rstep textS r))
  else if kind = 66 then rnumbersQ 2 (rcellsQ (rnumbersQ 2 (rstep textS (rstep textS r))))
  else if kind = 67 ∨ kind = 68 then rstep textS (rstep (numS · 1) r)
  else if kind = 69 then rstep (numS · 4) (rstep textS r)
  else if kind = 81 then rstep textS r
  else r
theorem rnumbers_abs (size : Int) (r : Rs) : rabs (rnumbersQ size r) = numbersS size (rabs r) := listRs_abs (numV · size) (fun r => rabs_step _ r) r
theorem rcells_abs (r : Rs) : rabs (rcellsQ r) = cellsS (rabs r) := listRs_abs cellV rcell_abs r
theorem rread_abs (kind : Int) (r : Rs) : rabs (rreadQ kind r) = readS kind (rabs r) := by
  unfold rreadQ readS
  repeat' split
  all_goals simp only [rnumbers_abs, rcells_abs, rabs_step]
theorem rread_c (i : Nat) (h : List (List AV)) (r : Rs) (hi : h[i]? = some (rsC r)) (hl : He.lenS (rabs r) ≤ 140737488355328) (kind : Int) :
    Contract Try.prog 81 [.box i 0, .v (.int .u8 kind)] h (.agg (fmC (rreadV kind r))) (h.set i (rsC (rreadQ kind r))) [i] := by
  have hil := heap_lt hi
  have hl1 : He.lenS (textS (rabs r)) ≤ 140737488355328 := Nat.le_trans (He.textS_len _) hl
  have hl2 : He.lenS (textS (textS (rabs r))) ≤ 140737488355328 := Nat.le_trans (He.textS_len _) hl1
  refine contract_of k81 mixed (by simp [c81]) fun hh hargs => ?_
  by_cases h80 : kind = 80
  · subst h80
    simp [c81]
    refine xcall_self (by simp) (rtext_c i _ r (app_get hi _) hl) ?_
    simp [app_set hil]
    refine xcall_self (by simp) (rtext_c i _ (rstep textS r) (app_set_get hil _ _) (by rw [rabs_step]; exact hl1)) ?_
    simp [app_set_set hil]
    refine xcall_self (by simp) (nums_c i _ (rstep textS (rstep textS r)) (app_set_get hil _ _) 4) ?_
    simp [app_set_set hil, hh, rreadV, rreadQ, rsC_lt, fmC_mk, rabs_step]
  by_cases h66 : kind = 66
  · subst h66
    simp [c81]
    refine xcall_self (by simp) (rtext_c i _ r (app_get hi _) hl) ?_
    simp [app_set hil]
    refine xcall_self (by simp) (rtext_c i _ (rstep textS r) (app_set_get hil _ _) (by rw [rabs_step]; exact hl1)) ?_
    simp [app_set_set hil]
    refine xcall_self (by simp) (nums_c i _ (rstep textS (rstep textS r)) (app_set_get hil _ _) 2) ?_
    simp [app_set_set hil]
    refine xcall_self (by simp) (row_c i _ (rnumbersQ 2 (rstep textS (rstep textS r))) (app_set_get hil _ _) (by
      rw [rnumbers_abs, rabs_step, rabs_step]
      exact Nat.le_trans (listS_len _ _ (fun st => numS_len st 2) _) hl2)) ?_
    simp [app_set_set hil]
    refine xcall_self (by simp) (nums_c i _ (rcellsQ (rnumbersQ 2 (rstep textS (rstep textS r)))) (app_set_get hil _ _) 2) ?_
    simp [app_set_set hil, hh, rreadV, rreadQ, rsC_lt, fmC_mk, rabs_step, rnumbers_abs, rcells_abs]
  by_cases h678 : kind = 67 ∨ kind = 68
  · have e1 : rreadV kind r = if numV (rabs r) 1 = 83 then ⟨kind, numV (rabs r) 1, textL (numS (rabs r) 1), [], [], [], [], [], [], 0⟩ else ⟨kind, numV (rabs r) 1, [], textL (numS (rabs r) 1), [], [], [], [], [], 0⟩ := by unfold rreadV; rw [if_neg h80, if_neg h66, if_pos h678]
    have e2 : rreadQ kind r = rstep textS (rstep (numS · 1) r) := by unfold rreadQ; rw [if_neg h80, if_neg h66, if_pos h678]
    have hl3 : He.lenS (numS (rabs r) 1) ≤ 140737488355328 := Nat.le_trans (numS_len _ _) hl
    have hwr := wrap_u8 (num1_range (rabs r))
    have hw83 : IntKind.u8.wrap 83 = 83 := wrap_u8 (by omega)
    rw [e1, e2]
    rcases h678 with rfl | rfl
    all_goals
      simp [c81]
      refine xcall_self (by simp) (rnum_c i _ r (app_get hi _) 1) ?_
      by_cases hw : numV (rabs r) 1 = 83
      · simp [app_set hil, hwr, hw, hw83]
        refine xcall_self (by simp) (rtext_c i _ (rstep (numS · 1) r) (app_set_get hil _ _) (by rw [rabs_step]; exact hl3)) ?_
        simp [app_set_set hil, hh, rsC_lt, fmC_mk, rabs_step]
      · simp [app_set hil, hwr, hw]
        refine xcall_self (by simp) (rtext_c i _ (rstep (numS · 1) r) (app_set_get hil _ _) (by rw [rabs_step]; exact hl3)) ?_
        simp [app_set_set hil, hh, rsC_lt, fmC_mk, rabs_step]
  by_cases h69 : kind = 69
  · subst h69
    simp [c81]
    refine xcall_self (by simp) (rtext_c i _ r (app_get hi _) hl) ?_
    simp [app_set hil]
    refine xcall_self (by simp) (rnum_c i _ (rstep textS r) (app_set_get hil _ _) 4) ?_
    simp [app_set_set hil]
    refine xcall_self (by simp) (rsigned_c _ 4 _) ?_
    simp [app_set_set hil, hh, rreadV, rreadQ, rsC_lt, fmC_mk, rabs_step]
  by_cases h81 : kind = 81
  · subst h81
    simp [c81]
    refine xcall_self (by simp) (rtext_c i _ r (app_get hi _) hl) ?_
    simp [app_set hil, hh, rreadV, rreadQ, rsC_lt, fmC_mk]
  have h67 : ¬ kind = 67 := fun h => h678 (.inl h)
  have h68 : ¬ kind = 68 := fun h => h678 (.inr h)
  simp [c81, h80, h66, h67, h68, h69, h81, hh, rreadV, rreadQ, rsC_lt, fmC_mk, set_same hi, hil]
def rdecF (m : Ms) : Fm × Int :=
  if knownI m.type = 2 then (noFm, 9) else if knownI m.type = 0 then (noFm, 4)
  else if doneB (readS m.type (some m.body)) && rcheckF (rreadV m.type (m.body, false)) == 0 then (rreadV m.type (m.body, false), 0) else (noFm, 4)
theorem rdecode_c (m : Ms) (hx : m.body.length ≤ 140737488355328) (hfit : FmFit (rreadV m.type (m.body, false))) (h : List (List AV)) : Contract Try.prog 32 [.agg (msC m)] h (.tup [.agg (fmC (rdecF m).1), .v (.int .i64 (rdecF m).2)]) h [] := by
  refine contract_of k32 mixed (by simp [c32]) fun hh hargs => ?_
  simp [c32]
  refine xcall_self (by simp) (rknown_c _ _) ?_
  by_cases k2 : knownI m.type = 2
  · simp [k2, hh, rdecF, noFm, fmC_mk]
  by_cases k0 : knownI m.type = 0
  · simp [k0, hh, rdecF, noFm, fmC_mk]
  simp [k0, k2]
  refine xcall_self (by simp) (rnew_c _ hx _) ?_
  simp
  refine xcall_self (by simp) (rread_c (h.length + 2) _ (m.body, false) (by simp) hx _) ?_
  simp
  refine xcall_self (by simp) (rdone_c (h.length + 2) _ (rreadQ m.type (m.body, false)) (by simp)) ?_
  have e : rdecF m = if doneB (readS m.type (some m.body)) && rcheckF (rreadV m.type (m.body, false)) == 0 then (rreadV m.type (m.body, false), 0) else (noFm, 4) := by unfold rdecF; rw [if_neg k2, if_neg k0]
  rw [e, rread_abs, rabs_false]
  cases p1 : doneB (readS m.type (some m.body)) with
  | false => simp [hh, noFm, fmC_mk]
  | true =>
  simp
  refine xcall_self (by simp) (rcheck_c _ hfit _) ?_
  by_cases p2 : rcheckF (rreadV m.type (m.body, false)) = 0
  · simp [hh, p2]
  · simp [hh, p2, noFm, fmC_mk]
end Go.Proofs.Ytcaimoidnppnbaa.Ax
namespace Go.Proofs.Ytcaimoidnppnbaa.Ax
open Go.RowKit Go By Nm Sc Dg
open He (textL)
set_option linter.unusedSimpArgs false
set_option linter.unusedVariables false

/-! ### What both sides check is one -/
theorem p256_4 : (256 : Int) ^ 4 = 4294967296 := by decide
theorem p256_2 : (256 : Int) ^ 2 = 65536 := by decide
theorem right4 (n : Int) : rightB n 4 = true ↔ -2147483648 ≤ n ∧ n < 4294967296 := by
  have h := @right_iff n 4 (.inr (.inr rfl))
  rw [four, p256_4] at h
  rw [h]; omega
theorem right2 (n : Int) : rightB n 2 = true ↔ -32768 ≤ n ∧ n < 65536 := by
  have h := @right_iff n 2 (.inr (.inl rfl))
  rw [two, p256_2] at h
  rw [h]; omega
theorem uns4 : unsB 4 = betB 0 4294967295 := by
  funext n
  rw [Bool.eq_iff_iff]
  simp [unsB, betB, right4]; omega
theorem uns2 : unsB 2 = betB 0 65535 := by
  funext n
  rw [Bool.eq_iff_iff]
  simp [unsB, betB, right2]; omega
theorem signed4 (n : Int) : signedI n 4 = if 2147483648 ≤ n ∧ n < 4294967296 then n - 4294967296 else n := by
  have e : szB 4 = true := rfl
  have e2 : powI 4 = 4294967296 := rfl
  unfold signedI
  rw [e, e2]
  simp only [true_and]
  split <;> split <;> omega
theorem sgn4 (n : Int) : sgnB 4 n = betB (-2147483648) 2147483647 n := by
  have e : sgnB 4 n = true ↔ (-2147483648 ≤ n ∧ n < 4294967296) ∧ signedI n 4 = n := by
    simp only [sgnB, Bool.and_eq_true, right4, beq_iff_eq]
  have e2 : betB (-2147483648) 2147483647 n = true ↔ ¬ n < -2147483648 ∧ ¬ 2147483647 < n := by
    simp only [betB, Bool.and_eq_true, Bool.not_eq_true', decide_eq_false_iff_not]
  rw [Bool.eq_iff_iff, e, e2, signed4]
  by_cases h : 2147483648 ≤ n ∧ n < 4294967296
  · rw [if_pos h]; omega
  · rw [if_neg h]; omega
theorem lists_eq (m : Fm) : listsB m = rlistsB m := by
  rw [Bool.eq_iff_iff]
  simp only [listsB, rlistsB, uns4, uns2, Bool.and_eq_true]
  constructor
  · rintro ⟨⟨a, b, c, d⟩, e, f, g, h⟩; exact ⟨⟨a, e⟩, ⟨b, f⟩, ⟨c, g⟩, d, h⟩
  · rintro ⟨⟨a, e⟩, ⟨b, f⟩, ⟨c, g⟩, d, h⟩; exact ⟨⟨a, b, c, d⟩, e, f, g, h⟩
theorem said_what (m : Fm) (h67 : ¬ (m.kind = 67 ∨ m.kind = 68)) : (saidF m).what = 0 := by
  unfold saidF
  repeat' split
  all_goals first | rfl | (rename_i h; exact absurd h h67)
theorem check_eq (m : Fm) : checkF m = rcheckF m := by
  unfold checkF rcheckF
  by_cases hk : knownI m.kind = 1
  · have e1 : ¬ ¬ knownI m.kind = 1 := by simp [hk]
    rw [if_neg e1, if_neg e1, lists_eq, sgn4]
    by_cases hs : sameF m (saidF m) = true
    · have hw : whatB m = rwhatB m := by
        by_cases h67 : m.kind = 67 ∨ m.kind = 68
        · unfold rwhatB whatB
          rw [if_pos h67]
          rcases h67 with h | h <;> simp [h]
        · have h0 : m.what = 0 := by
            rw [sameF_eq] at hs
            have := congrArg Fm.what (of_decide_eq_true hs)
            rw [this]; exact said_what m h67
          have h1 : ¬ m.kind = 67 := fun h => h67 (.inl h)
          have h2 : ¬ m.kind = 68 := fun h => h67 (.inr h)
          unfold rwhatB whatB
          rw [if_neg h67]; simp [h0, h1, h2]
      rw [hw]
      congr 1
      rw [eq_iff_iff]
      simp only [Bool.and_eq_true]
      constructor
      · rintro ⟨a, b, c, d⟩; exact ⟨c, b, a, d⟩
      · rintro ⟨c, b, a, d⟩; exact ⟨a, b, c, d⟩
    · simp [hs]
  · rw [if_pos hk, if_pos hk]
theorem enc_eq (m : Fm) : encF m = rencF m := by unfold encF rencF; rw [check_eq]
theorem known_kinds {k : Int} (h : knownI k = 1) : k = 66 ∨ k = 67 ∨ k = 68 ∨ k = 69 ∨ k = 72 ∨ k = 80 ∨ k = 81 ∨ k = 83 ∨ k = 88 := by
  unfold knownI at h
  split at h
  · assumption
  · split at h <;> omega
theorem known_three (k : Int) : knownI k = 0 ∨ knownI k = 1 ∨ knownI k = 2 := by
  unfold knownI
  split
  · exact .inr (.inl rfl)
  · split
    · exact .inr (.inr rfl)
    · exact .inl rfl
theorem check_ok {m : Fm} (h : checkF m = 0) : knownI m.kind = 1 ∧ whatB m = true ∧ listsB m = true ∧ cleanF m = true ∧ sgnB 4 m.max = true ∧ m = saidF m := by
  unfold checkF at h
  split at h
  · cases h
  · rename_i hk
    split at h
    · rename_i hc
      simp only [Bool.and_eq_true] at hc
      rw [sameF_eq] at hc
      exact ⟨by simpa using hk, hc.1, hc.2.1, hc.2.2.1, hc.2.2.2.1, of_decide_eq_true hc.2.2.2.2⟩
    · cases h
theorem check_of {m : Fm} (h1 : knownI m.kind = 1) (h2 : whatB m = true) (h3 : listsB m = true) (h4 : cleanF m = true) (h5 : sgnB 4 m.max = true) (h6 : m = saidF m) : checkF m = 0 := by
  unfold checkF
  have h7 : sameF m (saidF m) = true := by rw [sameF_eq]; exact decide_eq_true h6
  rw [if_neg (by simp [h1]), h2, h3, h4, h5, h7]; rfl

/-! ### What is read, kind by kind -/
section
variable (st : Sta)
theorem readV_80 : readV 80 st = ⟨80, 0, textL st, [], textL (textS st), numbersV 4 (textS (textS st)), [], [], [], 0⟩ := rfl
theorem readS_80 : readS 80 st = numbersS 4 (textS (textS st)) := rfl
theorem readV_66 : readV 66 st = ⟨66, 0, textL (textS st), textL st, [], [], numbersV 2 (textS (textS st)), numbersV 2 (cellsS (numbersS 2 (textS (textS st)))), cellsV (numbersS 2 (textS (textS st))), 0⟩ := rfl
theorem readS_66 : readS 66 st = numbersS 2 (cellsS (numbersS 2 (textS (textS st)))) := rfl
theorem readV_678 {k : Int} (h : k = 67 ∨ k = 68) : readV k st = if numV st 1 = 83 then ⟨k, numV st 1, textL (numS st 1), [], [], [], [], [], [], 0⟩ else ⟨k, numV st 1, [], textL (numS st 1), [], [], [], [], [], 0⟩ := by
  rcases h with rfl | rfl <;> rfl
theorem readS_678 {k : Int} (h : k = 67 ∨ k = 68) : readS k st = textS (numS st 1) := by rcases h with rfl | rfl <;> rfl
theorem readV_69 : readV 69 st = ⟨69, 0, [], textL st, [], [], [], [], [], signedI (numV (textS st) 4) 4⟩ := rfl
theorem readS_69 : readS 69 st = numS (textS st) 4 := rfl
theorem readV_81 : readV 81 st = ⟨81, 0, [], [], textL st, [], [], [], [], 0⟩ := rfl
theorem readS_81 : readS 81 st = textS st := rfl
theorem readV_no {k : Int} (h : k = 72 ∨ k = 83 ∨ k = 88) : readV k st = ⟨k, 0, [], [], [], [], [], [], [], 0⟩ ∧ readS k st = st := by
  rcases h with rfl | rfl | rfl <;> exact ⟨rfl, rfl⟩
end
theorem listS_none {α : Type} (v : Sta → α) (s : Sta → Sta) (hs : s none = none) : listS v s none = none := by
  rw [listS_eq]; exact readR_none v s hs _
theorem numbersS_none (size : Int) : numbersS size none = none := listS_none _ _ rfl
theorem cellsS_none : cellsS none = none := listS_none _ _ cellS_none
theorem some_of {f : Sta → Sta} (hf : f none = none) {st : Sta} {r : List UInt8} (h : f st = some r) : ∃ xs, st = some xs := by
  cases st with
  | none => rw [hf] at h; cases h
  | some xs => exact ⟨xs, rfl⟩

/-! ### A message is read from its bytes -/
theorem all_uns {size : Int} {l : List Int} {size' : Nat} (hs : (size : Int) = size') (hz : Sz size') (h : l.all (unsB size) = true) : ∀ x ∈ l, 0 ≤ x ∧ x < 256 ^ size' := fun x hx => by
  have := List.all_eq_true.1 h x hx
  simp only [unsB, Bool.and_eq_true] at this
  rw [hs, right_iff hz] at this
  simp at this
  exact ⟨by omega, this.2.2⟩
theorem cell_ok {c : Cl} (h : cellB c = true) : CellOk c := by
  obtain ⟨n, b⟩ := c
  cases n with
  | true =>
    left
    refine ⟨rfl, ?_⟩
    simp [cellB] at h
    exact h.2
  | false =>
    right
    refine ⟨rfl, ?_⟩
    simp [cellB] at h
    show b.length < _
    omega
theorem one256 : (256 : Int) ^ 1 = 256 := by decide
theorem onecast : ((1 : Nat) : Int) = 1 := rfl
theorem read_there {m : Fm} (h : checkF m = 0) : readV m.kind (some (bodyF m)) = m ∧ readS m.kind (some (bodyF m)) = some [] := by
  obtain ⟨hk, hw, hl, hc, hm, hs⟩ := check_ok h
  simp only [cleanF, Bool.and_eq_true] at hc
  obtain ⟨c1, c2, c3⟩ := hc
  simp only [listsB, Bool.and_eq_true, decide_eq_true_eq] at hl
  obtain ⟨⟨l1, l2, l3, l4⟩, u1, u2, u3, u4⟩ := hl
  rcases known_kinds hk with e | e | e | e | e | e | e | e | e
  · -- B
    have hs' : m = ⟨66, 0, m.name, m.portal, [], [], m.formats, m.results, m.params, 0⟩ := by
      have : saidF m = ⟨66, 0, m.name, m.portal, [], [], m.formats, m.results, m.params, 0⟩ := by unfold saidF; rw [if_neg (by omega), if_pos e]
      rw [← this]; exact hs
    have hb : bodyF m = He.encT m.portal ++ (He.encT m.name ++ (listL (numE 2) m.formats ++ (listL cellE m.params ++ (listL (numE 2) m.results ++ [])))) := by
      unfold bodyF; rw [if_neg (by omega), if_pos e]; simp [textsL]
    obtain ⟨a1, a2⟩ := He.text_enc (He.encT m.name ++ (listL (numE 2) m.formats ++ (listL cellE m.params ++ (listL (numE 2) m.results ++ [])))) c2
    obtain ⟨a3, a4⟩ := He.text_enc (listL (numE 2) m.formats ++ (listL cellE m.params ++ (listL (numE 2) m.results ++ []))) c1
    obtain ⟨a5, a6⟩ := list_there (nums_there (size := 2) (.inr (.inl rfl))) m.formats (listL cellE m.params ++ (listL (numE 2) m.results ++ [])) (by omega) (all_uns rfl (.inr (.inl rfl)) u2)
    obtain ⟨a7, a8⟩ := list_there cells_there m.params (listL (numE 2) m.results ++ []) (by omega) (fun c hc => cell_ok (List.all_eq_true.1 u4 c hc))
    obtain ⟨a9, a10⟩ := list_there (nums_there (size := 2) (.inr (.inl rfl))) m.results [] (by omega) (all_uns rfl (.inr (.inl rfl)) u3)
    rw [e, hb, readV_66, readS_66]
    simp only [numbersV, numbersS, cellsV, cellsS]
    rw [two] at a5 a6 a9 a10
    rw [a1, a2, a3, a4, a5, a6, a7, a8, a9, a10]
    exact ⟨hs'.symm, rfl⟩
  · -- C, D
    have hs' : m = if m.what = 83 then ⟨m.kind, m.what, m.name, [], [], [], [], [], [], 0⟩ else ⟨m.kind, m.what, [], m.portal, [], [], [], [], [], 0⟩ := by
      have : saidF m = if m.what = 83 then ⟨m.kind, m.what, m.name, [], [], [], [], [], [], 0⟩ else ⟨m.kind, m.what, [], m.portal, [], [], [], [], [], 0⟩ := by unfold saidF; rw [if_neg (by omega), if_neg (by omega), if_pos (by omega)]
      rw [← this]; exact hs
    have hwt : m.what = 83 ∨ m.what = 80 := by
      simp [whatB, e] at hw; exact hw
    have hwb : [UInt8.ofNat m.what.toNat] = putL [] m.what 1 := by rcases hwt with h | h <;> rw [h] <;> decide
    have hb : bodyF m = putL [] m.what 1 ++ (He.encT (m.name ++ m.portal) ++ []) := by
      unfold bodyF; rw [if_neg (by omega), if_neg (by omega), if_pos (by omega), ← hwb]; simp [textsL]
    obtain ⟨a1, a2⟩ := num_put (n := m.what) (size := 1) (.inl rfl) (He.encT (m.name ++ m.portal) ++ []) (right_of_range (.inl rfl) (by omega) (by rw [one256]; omega))
    rw [onecast] at a1 a2
    rw [one256, Int.emod_eq_of_lt (by omega) (by omega)] at a1
    have h678 : m.kind = 67 ∨ m.kind = 68 := by omega
    rw [hb, readV_678 _ h678, readS_678 _ h678, a1, a2]
    rcases hwt with h83 | h80
    · rw [if_pos h83] at hs'
      have hp : m.portal = [] := by rw [hs']
      obtain ⟨a3, a4⟩ := He.text_enc [] c1
      have e5 : m.name ++ m.portal = m.name := by rw [hp, List.append_nil]
      rw [if_pos h83, e5, a3, a4]
      exact ⟨hs'.symm, rfl⟩
    · have hn83 : ¬ m.what = 83 := by omega
      rw [if_neg hn83] at hs'
      have hp : m.name = [] := by rw [hs']
      obtain ⟨a3, a4⟩ := He.text_enc [] c2
      have e5 : m.name ++ m.portal = m.portal := by rw [hp, List.nil_append]
      rw [if_neg hn83, e5, a3, a4]
      exact ⟨hs'.symm, rfl⟩
  · -- C, D
    have hs' : m = if m.what = 83 then ⟨m.kind, m.what, m.name, [], [], [], [], [], [], 0⟩ else ⟨m.kind, m.what, [], m.portal, [], [], [], [], [], 0⟩ := by
      have : saidF m = if m.what = 83 then ⟨m.kind, m.what, m.name, [], [], [], [], [], [], 0⟩ else ⟨m.kind, m.what, [], m.portal, [], [], [], [], [], 0⟩ := by unfold saidF; rw [if_neg (by omega), if_neg (by omega), if_pos (by omega)]
      rw [← this]; exact hs
    have hwt : m.what = 83 ∨ m.what = 80 := by
      simp [whatB, e] at hw; exact hw
    have hwb : [UInt8.ofNat m.what.toNat] = putL [] m.what 1 := by rcases hwt with h | h <;> rw [h] <;> decide
    have hb : bodyF m = putL [] m.what 1 ++ (He.encT (m.name ++ m.portal) ++ []) := by
      unfold bodyF; rw [if_neg (by omega), if_neg (by omega), if_pos (by omega), ← hwb]; simp [textsL]
    obtain ⟨a1, a2⟩ := num_put (n := m.what) (size := 1) (.inl rfl) (He.encT (m.name ++ m.portal) ++ []) (right_of_range (.inl rfl) (by omega) (by rw [one256]; omega))
    rw [onecast] at a1 a2
    rw [one256, Int.emod_eq_of_lt (by omega) (by omega)] at a1
    have h678 : m.kind = 67 ∨ m.kind = 68 := by omega
    rw [hb, readV_678 _ h678, readS_678 _ h678, a1, a2]
    rcases hwt with h83 | h80
    · rw [if_pos h83] at hs'
      have hp : m.portal = [] := by rw [hs']
      obtain ⟨a3, a4⟩ := He.text_enc [] c1
      have e5 : m.name ++ m.portal = m.name := by rw [hp, List.append_nil]
      rw [if_pos h83, e5, a3, a4]
      exact ⟨hs'.symm, rfl⟩
    · have hn83 : ¬ m.what = 83 := by omega
      rw [if_neg hn83] at hs'
      have hp : m.name = [] := by rw [hs']
      obtain ⟨a3, a4⟩ := He.text_enc [] c2
      have e5 : m.name ++ m.portal = m.portal := by rw [hp, List.nil_append]
      rw [if_neg hn83, e5, a3, a4]
      exact ⟨hs'.symm, rfl⟩
  · -- E
    have hs' : m = ⟨69, 0, [], m.portal, [], [], [], [], [], m.max⟩ := by
      have : saidF m = ⟨69, 0, [], m.portal, [], [], [], [], [], m.max⟩ := by unfold saidF; rw [if_neg (by omega), if_neg (by omega), if_neg (by omega), if_pos e]
      rw [← this]; exact hs
    have hb : bodyF m = He.encT m.portal ++ (putL [] m.max 4 ++ []) := by
      unfold bodyF; rw [if_neg (by omega), if_neg (by omega), if_neg (by omega), if_pos e, putL_eq]; simp [textsL]
    obtain ⟨a1, a2⟩ := He.text_enc (putL [] m.max 4 ++ []) c2
    have hm' := hm
    simp only [sgnB, Bool.and_eq_true, beq_iff_eq] at hm
    obtain ⟨a3, a4⟩ := num_put (size := 4) (.inr (.inr rfl)) [] hm.1
    rw [four] at a3 a4
    rw [e, hb, readV_69, readS_69, a1, a2, a3, a4]
    refine ⟨?_, rfl⟩
    rw [p256_4, signed4]
    have hr := (right4 _).1 hm.1
    rw [sgn4] at hm'
    simp [betB] at hm'
    have : (if 2147483648 ≤ m.max % 4294967296 ∧ m.max % 4294967296 < 4294967296 then m.max % 4294967296 - 4294967296 else m.max % 4294967296) = m.max := by
      split <;> omega
    rw [this]; exact hs'.symm
  · have hs' : m = ⟨m.kind, 0, [], [], [], [], [], [], [], 0⟩ := by
      have : saidF m = ⟨m.kind, 0, [], [], [], [], [], [], [], 0⟩ := by unfold saidF; rw [if_neg (by omega), if_neg (by omega), if_neg (by omega), if_neg (by omega), if_neg (by omega)]
      rw [← this]; exact hs
    have hb : bodyF m = [] := by
      unfold bodyF; rw [if_neg (by omega), if_neg (by omega), if_neg (by omega), if_neg (by omega), if_neg (by omega)]
    obtain ⟨a1, a2⟩ := readV_no (some []) (k := m.kind) (by omega)
    rw [hb, a1, a2]
    exact ⟨hs'.symm, rfl⟩
  · -- P
    have hs' : m = ⟨80, 0, m.name, [], m.text, m.oids, [], [], [], 0⟩ := by
      have : saidF m = ⟨80, 0, m.name, [], m.text, m.oids, [], [], [], 0⟩ := by unfold saidF; rw [if_pos e]
      rw [← this]; exact hs
    have hb : bodyF m = He.encT m.name ++ (He.encT m.text ++ (listL (numE 4) m.oids ++ [])) := by
      unfold bodyF; rw [if_pos e]; simp [textsL]
    obtain ⟨a1, a2⟩ := He.text_enc (He.encT m.text ++ (listL (numE 4) m.oids ++ [])) c1
    obtain ⟨a3, a4⟩ := He.text_enc (listL (numE 4) m.oids ++ []) c3
    obtain ⟨a5, a6⟩ := list_there (nums_there (size := 4) (.inr (.inr rfl))) m.oids [] (by omega) (all_uns rfl (.inr (.inr rfl)) u1)
    rw [four] at a5 a6
    rw [e, hb, readV_80, readS_80]
    simp only [numbersV, numbersS]
    rw [a1, a2, a3, a4, a5, a6]
    exact ⟨hs'.symm, rfl⟩
  · -- Q
    have hs' : m = ⟨81, 0, [], [], m.text, [], [], [], [], 0⟩ := by
      have : saidF m = ⟨81, 0, [], [], m.text, [], [], [], [], 0⟩ := by unfold saidF; rw [if_neg (by omega), if_neg (by omega), if_neg (by omega), if_neg (by omega), if_pos e]
      rw [← this]; exact hs
    have hb : bodyF m = He.encT m.text ++ [] := by
      unfold bodyF; rw [if_neg (by omega), if_neg (by omega), if_neg (by omega), if_neg (by omega), if_pos e]; simp [textsL]
    obtain ⟨a1, a2⟩ := He.text_enc [] c3
    rw [e, hb, readV_81, readS_81, a1, a2]
    exact ⟨hs'.symm, rfl⟩
  · have hs' : m = ⟨m.kind, 0, [], [], [], [], [], [], [], 0⟩ := by
      have : saidF m = ⟨m.kind, 0, [], [], [], [], [], [], [], 0⟩ := by unfold saidF; rw [if_neg (by omega), if_neg (by omega), if_neg (by omega), if_neg (by omega), if_neg (by omega)]
      rw [← this]; exact hs
    have hb : bodyF m = [] := by
      unfold bodyF; rw [if_neg (by omega), if_neg (by omega), if_neg (by omega), if_neg (by omega), if_neg (by omega)]
    obtain ⟨a1, a2⟩ := readV_no (some []) (k := m.kind) (by omega)
    rw [hb, a1, a2]
    exact ⟨hs'.symm, rfl⟩
  · have hs' : m = ⟨m.kind, 0, [], [], [], [], [], [], [], 0⟩ := by
      have : saidF m = ⟨m.kind, 0, [], [], [], [], [], [], [], 0⟩ := by unfold saidF; rw [if_neg (by omega), if_neg (by omega), if_neg (by omega), if_neg (by omega), if_neg (by omega)]
      rw [← this]; exact hs
    have hb : bodyF m = [] := by
      unfold bodyF; rw [if_neg (by omega), if_neg (by omega), if_neg (by omega), if_neg (by omega), if_neg (by omega)]
    obtain ⟨a1, a2⟩ := readV_no (some []) (k := m.kind) (by omega)
    rw [hb, a1, a2]
    exact ⟨hs'.symm, rfl⟩

/-! ### What is read has just these bytes -/
theorem mem_flat {α : Type} (e : α → List UInt8) {l : List α} {c : α} (h : c ∈ l) : (e c).length ≤ (l.flatMap e).length := by
  induction l with
  | nil => cases h
  | cons x l ih =>
    rw [List.flatMap_cons, List.length_append]
    rcases List.mem_cons.1 h with rfl | h
    · omega
    · have := ih h; omega
theorem cells_ok {l : List Cl} {N : Nat} (h : ∀ c ∈ l, CellOk c) (hl : (listL cellE l).length ≤ N) (hN : N ≤ 1048576) : l.all cellB = true := by
  refine List.all_eq_true.2 fun c hc => ?_
  have h1 := mem_flat cellE hc
  rw [listL_eq, List.length_append] at hl
  obtain ⟨n, b⟩ := c
  rcases h _ hc with ⟨h2, h3⟩ | ⟨h2, h3⟩
  · have h2' : n = true := h2
    have h3' : b = [] := h3
    subst h2' h3'
    rfl
  · have h2' : n = false := h2
    subst h2'
    rw [cellE_bytes, List.length_append] at h1
    have : b.length ≤ 1048576 := by omega
    simp [cellB, this]
theorem nums_ok {l : List Int} {size : Nat} (hz : Sz size) (h : ∀ n ∈ l, 0 ≤ n ∧ n < 256 ^ size) : l.all (unsB size) = true := by
  refine List.all_eq_true.2 fun n hn => ?_
  obtain ⟨h1, h2⟩ := h n hn
  have h3 : ¬ n < 0 := by omega
  simp [unsB, h3, right_of_range hz h1 h2]
theorem bodyF_80 {m : Fm} (h : m.kind = 80) : bodyF m = textsL [m.name, m.text] ++ listL (numE 4) m.oids := if_pos h
theorem bodyF_66 {m : Fm} (h : m.kind = 66) : bodyF m = textsL [m.portal, m.name] ++ (listL (numE 2) m.formats ++ (listL cellE m.params ++ listL (numE 2) m.results)) := by unfold bodyF; rw [if_neg (by omega), if_pos h]
theorem bodyF_678 {m : Fm} (h : m.kind = 67 ∨ m.kind = 68) : bodyF m = UInt8.ofNat m.what.toNat :: textsL [m.name ++ m.portal] := by unfold bodyF; rw [if_neg (by omega), if_neg (by omega), if_pos h]
theorem bodyF_69 {m : Fm} (h : m.kind = 69) : bodyF m = putL (textsL [m.portal]) m.max 4 := by unfold bodyF; rw [if_neg (by omega), if_neg (by omega), if_neg (by omega), if_pos h]
theorem bodyF_81 {m : Fm} (h : m.kind = 81) : bodyF m = textsL [m.text] := by unfold bodyF; rw [if_neg (by omega), if_neg (by omega), if_neg (by omega), if_neg (by omega), if_pos h]
theorem put_signed {n : Int} (h0 : 0 ≤ n) (h1 : n < 4294967296) : putL [] (signedI n 4) 4 = putL [] n 4 := by
  rw [signed4]
  split
  · rename_i h
    have r1 : rightB (n - 4294967296) (4 : Nat) = true := by rw [four, right4]; omega
    have r2 : rightB n (4 : Nat) = true := by rw [four, right4]; omega
    have e1 := putL_right r1
    have e2 := putL_right r2
    rw [four] at e1 e2
    rw [e1, e2]
    have b : ∀ k, k < 4 → putByte (n - 4294967296) k = putByte n k := fun k hk => by
      unfold putByte
      congr 2
      rcases (by omega : k = 0 ∨ k = 1 ∨ k = 2 ∨ k = 3) with rfl | rfl | rfl | rfl <;> omega
    simp [putTo, b]
  · rfl
theorem clean_nil : cleanB [] = true := rfl
theorem sgn_zero : sgnB 4 0 = true := by decide
/-- What was read to its end, and may be, has just these bytes. -/
theorem read_back {k : Int} (hk : knownI k = 1) {xs : List UInt8} (hx : xs.length ≤ 1048576) (h : readS k (some xs) = some []) (hw : whatB (readV k (some xs)) = true) : bodyF (readV k (some xs)) = xs ∧ checkF (readV k (some xs)) = 0 := by
  rcases known_kinds hk with rfl | rfl | rfl | rfl | rfl | rfl | rfl | rfl | rfl
  · -- B
    rw [readS_66] at h
    rw [readV_66] at hw ⊢
    obtain ⟨ws, e4⟩ := some_of (numbersS_none 2) h
    obtain ⟨zs, e3⟩ := some_of cellsS_none e4
    obtain ⟨ys, e2⟩ := some_of (numbersS_none 2) e3
    obtain ⟨vs, e1⟩ := some_of (f := textS) rfl e2
    rw [e1] at e2
    obtain ⟨b1, c1⟩ := He.text_back e1
    obtain ⟨b2, c2⟩ := He.text_back e2
    rw [e1, e2] at e3
    rw [e1, e2, e3] at e4
    rw [e1, e2, e3, e4] at h
    rw [e1, e2, e3, e4] at hw ⊢
    obtain ⟨b3, o3, l3⟩ := list_back (nums_back (size := 2) (.inr (.inl rfl))) ys zs e3
    obtain ⟨b4, o4, l4⟩ := list_back cells_back zs ws e4
    obtain ⟨b5, o5, l5⟩ := list_back (nums_back (size := 2) (.inr (.inl rfl))) ws [] h
    rw [two] at b3 o3 l3 b5 o5 l5
    have hxs : xs = He.encT (textL (some xs)) ++ (He.encT (textL (some vs)) ++ (listL (numE 2) (numbersV 2 (some ys)) ++ (listL cellE (cellsV (some zs)) ++ (listL (numE 2) (numbersV 2 (some ws)) ++ [])))) := by
      rw [← b5, ← b4, ← b3, ← b2, ← b1]
    have l3' : (numbersV 2 (some ys)).length < 65536 := l3
    have l4' : (cellsV (some zs)).length < 65536 := l4
    have l5' : (numbersV 2 (some ws)).length < 65536 := l5
    have hlen := congrArg List.length hxs
    simp only [List.length_append] at hlen
    constructor
    · rw [bodyF_66 rfl]
      conv => rhs; rw [hxs]
      simp [textsL]
    · refine check_of rfl rfl ?_ ?_ sgn_zero rfl
      · simp only [listsB, Bool.and_eq_true, decide_eq_true_eq]
        exact ⟨⟨by simp, by omega, by omega, by omega⟩, rfl, nums_ok (size := 2) (.inr (.inl rfl)) o3, nums_ok (size := 2) (.inr (.inl rfl)) o5, cells_ok o4 (Nat.le_refl _) (by omega)⟩
      · simp only [cleanF, Bool.and_eq_true]; exact ⟨c2, c1, clean_nil⟩
  · -- C, D
    have h678 : (67 : Int) = 67 ∨ (67 : Int) = 68 := by omega
    rw [readS_678 _ h678] at h
    rw [readV_678 _ h678] at hw ⊢
    obtain ⟨ys, e1⟩ := some_of (f := textS) rfl h
    rw [e1] at h hw ⊢
    obtain ⟨b1, r1, r2⟩ := num_back (size := 1) (.inl rfl) e1
    obtain ⟨b2, c2⟩ := He.text_back h
    rw [onecast] at b1 r1 r2
    by_cases h83 : numV (some xs) 1 = 83
    · rw [if_pos h83] at hw ⊢
      have hp : [UInt8.ofNat (numV (some xs) 1).toNat] = putL [] (numV (some xs) 1) 1 := by rw [h83]; decide
      have hxs : xs = putL [] (numV (some xs) 1) 1 ++ (He.encT (textL (some ys)) ++ []) := by rw [← b2, ← b1]
      constructor
      · rw [bodyF_678 h678]
        conv => rhs; rw [hxs, ← hp]
        simp [textsL]
      · refine check_of rfl hw rfl ?_ sgn_zero ?_
        · simp only [cleanF, Bool.and_eq_true]; exact ⟨c2, clean_nil, clean_nil⟩
        · unfold saidF; rw [if_neg (by simp), if_neg (by simp), if_pos h678, if_pos h83]
    · rw [if_neg h83] at hw ⊢
      have h80 : numV (some xs) 1 = 80 := by simp [whatB, h83] at hw; exact hw
      have hp : [UInt8.ofNat (numV (some xs) 1).toNat] = putL [] (numV (some xs) 1) 1 := by rw [h80]; decide
      have hxs : xs = putL [] (numV (some xs) 1) 1 ++ (He.encT (textL (some ys)) ++ []) := by rw [← b2, ← b1]
      constructor
      · rw [bodyF_678 h678]
        conv => rhs; rw [hxs, ← hp]
        simp [textsL]
      · refine check_of rfl hw rfl ?_ sgn_zero ?_
        · simp only [cleanF, Bool.and_eq_true]; exact ⟨clean_nil, c2, clean_nil⟩
        · unfold saidF; rw [if_neg (by simp), if_neg (by simp), if_pos h678, if_neg h83]
  · -- C, D
    have h678 : (68 : Int) = 67 ∨ (68 : Int) = 68 := by omega
    rw [readS_678 _ h678] at h
    rw [readV_678 _ h678] at hw ⊢
    obtain ⟨ys, e1⟩ := some_of (f := textS) rfl h
    rw [e1] at h hw ⊢
    obtain ⟨b1, r1, r2⟩ := num_back (size := 1) (.inl rfl) e1
    obtain ⟨b2, c2⟩ := He.text_back h
    rw [onecast] at b1 r1 r2
    by_cases h83 : numV (some xs) 1 = 83
    · rw [if_pos h83] at hw ⊢
      have hp : [UInt8.ofNat (numV (some xs) 1).toNat] = putL [] (numV (some xs) 1) 1 := by rw [h83]; decide
      have hxs : xs = putL [] (numV (some xs) 1) 1 ++ (He.encT (textL (some ys)) ++ []) := by rw [← b2, ← b1]
      constructor
      · rw [bodyF_678 h678]
        conv => rhs; rw [hxs, ← hp]
        simp [textsL]
      · refine check_of rfl hw rfl ?_ sgn_zero ?_
        · simp only [cleanF, Bool.and_eq_true]; exact ⟨c2, clean_nil, clean_nil⟩
        · unfold saidF; rw [if_neg (by simp), if_neg (by simp), if_pos h678, if_pos h83]
    · rw [if_neg h83] at hw ⊢
      have h80 : numV (some xs) 1 = 80 := by simp [whatB, h83] at hw; exact hw
      have hp : [UInt8.ofNat (numV (some xs) 1).toNat] = putL [] (numV (some xs) 1) 1 := by rw [h80]; decide
      have hxs : xs = putL [] (numV (some xs) 1) 1 ++ (He.encT (textL (some ys)) ++ []) := by rw [← b2, ← b1]
      constructor
      · rw [bodyF_678 h678]
        conv => rhs; rw [hxs, ← hp]
        simp [textsL]
      · refine check_of rfl hw rfl ?_ sgn_zero ?_
        · simp only [cleanF, Bool.and_eq_true]; exact ⟨clean_nil, c2, clean_nil⟩
        · unfold saidF; rw [if_neg (by simp), if_neg (by simp), if_pos h678, if_neg h83]
  · -- E
    rw [readS_69] at h
    rw [readV_69] at hw ⊢
    obtain ⟨ys, e1⟩ := some_of (f := (numS · 4)) rfl h
    rw [e1] at h hw ⊢
    obtain ⟨b1, c1⟩ := He.text_back e1
    obtain ⟨b2, r1, r2⟩ := num_back (size := 4) (.inr (.inr rfl)) h
    rw [four] at b2 r1 r2
    rw [p256_4] at r2
    have hs4 : putL [] (signedI (numV (some ys) 4) 4) 4 = putL [] (numV (some ys) 4) 4 := put_signed r1 r2
    have hxs : xs = He.encT (textL (some xs)) ++ (putL [] (numV (some ys) 4) 4 ++ []) := by rw [← b2, ← b1]
    constructor
    · rw [bodyF_69 rfl, putL_eq, hs4]
      conv => rhs; rw [hxs]
      simp [textsL]
    · refine check_of rfl rfl rfl ?_ ?_ rfl
      · simp only [cleanF, Bool.and_eq_true]; exact ⟨clean_nil, c1, clean_nil⟩
      · rw [sgn4, signed4]
        simp only [betB, Bool.and_eq_true, Bool.not_eq_true', decide_eq_false_iff_not]
        split <;> omega
  · obtain ⟨e1, e2⟩ := readV_no (some xs) (k := 72) (by omega)
    rw [e2] at h; injection h with h; subst h
    rw [e1]; exact ⟨rfl, rfl⟩
  · -- P
    rw [readS_80] at h
    rw [readV_80] at hw ⊢
    obtain ⟨ys, e2⟩ := some_of (numbersS_none 4) h
    obtain ⟨vs, e1⟩ := some_of (f := textS) rfl e2
    rw [e1] at e2
    obtain ⟨b1, c1⟩ := He.text_back e1
    obtain ⟨b2, c2⟩ := He.text_back e2
    rw [e1, e2] at h
    rw [e1, e2] at hw ⊢
    obtain ⟨b3, o3, l3⟩ := list_back (nums_back (size := 4) (.inr (.inr rfl))) ys [] h
    rw [four] at b3 o3 l3
    have l3' : (numbersV 4 (some ys)).length < 65536 := l3
    have hxs : xs = He.encT (textL (some xs)) ++ (He.encT (textL (some vs)) ++ (listL (numE 4) (numbersV 4 (some ys)) ++ [])) := by
      rw [← b3, ← b2, ← b1]
    constructor
    · rw [bodyF_80 rfl]
      conv => rhs; rw [hxs]
      simp [textsL]
    · refine check_of rfl rfl ?_ ?_ sgn_zero rfl
      · simp only [listsB, Bool.and_eq_true, decide_eq_true_eq]
        exact ⟨⟨by omega, by simp, by simp, by simp⟩, nums_ok (size := 4) (.inr (.inr rfl)) o3, rfl, rfl, rfl⟩
      · simp only [cleanF, Bool.and_eq_true]; exact ⟨c1, clean_nil, c2⟩
  · -- Q
    rw [readS_81] at h
    rw [readV_81] at hw ⊢
    obtain ⟨b1, c1⟩ := He.text_back h
    constructor
    · rw [bodyF_81 rfl]
      conv => rhs; rw [b1]
      simp [textsL]
    · refine check_of rfl rfl rfl ?_ sgn_zero rfl
      simp only [cleanF, Bool.and_eq_true]; exact ⟨clean_nil, clean_nil, c1⟩
  · obtain ⟨e1, e2⟩ := readV_no (some xs) (k := 83) (by omega)
    rw [e2] at h; injection h with h; subst h
    rw [e1]; exact ⟨rfl, rfl⟩
  · obtain ⟨e1, e2⟩ := readV_no (some xs) (k := 88) (by omega)
    rw [e2] at h; injection h with h; subst h
    rw [e1]; exact ⟨rfl, rfl⟩
end Go.Proofs.Ytcaimoidnppnbaa.Ax
