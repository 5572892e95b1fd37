/- Numbers that are counted by sync/atomic, over values without memory: one cell of a variable is written. -/
import Derived.Test.YtmdapcmdlblnnaaDoorQAxXr
import Derived.Test.YtmdapcmdlblnnaaDoorRows
import Derived.Laws.LoneSync
import Derived.Test.YtmdapcmdlblnnaaDoorQAxSo
/- The texts of functions over values without memory, as the kernel reckons them out of the program. -/
namespace Go.Proofs.YtmdapcmdlblnnaaDoor.Ax
open Go.RowKit Go By

def c7 : XFun := ⟨4, (.seq (.ops [⟨(some 0), (.assign (.const (.pointer none))), none⟩]) (.seq (.ops [⟨(some 1), (.makeMap 0 false), none⟩, ⟨(some 2), (.build [(.v (.map none)), (.v (.int .i64 0))] [(0, (1, (.tmp 1)))]), none⟩, ⟨(some 3), (.box (.tmp 2)), none⟩, ⟨(some 0), (.assign (.tmp 3)), none⟩]) .ret)), [(.move (.tmp 0))]⟩
theorem k7 : cfun Tryd.prog 7 = some c7 := by kernel_rfl
def c8 : XFun := ⟨23, (.seq (.ops [⟨(some 4), (.assign (.const (.bool false))), none⟩]) (.seq (.seq (.ops [⟨(some 5), (.move (.tmp 0)), none⟩, ⟨(some 6), (.call 21 [(.tmp 5)]), none⟩, ⟨(some 7), (.un .not (.tmp 6)), none⟩]) (.cond (.tmp 7) (.seq (.ops [⟨(some 4), (.assign (.const (.bool false))), none⟩]) .ret) .skip)) (.seq (.seq (.ops [⟨(some 8), (.move (.tmp 0)), none⟩, ⟨(some 9), (.move (.tmp 1)), none⟩, ⟨(some 10), (.call 22 [(.tmp 8), (.tmp 9)]), none⟩]) (.cond (.tmp 10) (.seq (.ops [⟨(some 11), (.move (.tmp 0)), none⟩, ⟨(some 12), (.nilCheck (.tmp 11)), none⟩, ⟨(some 13), (.faddr 0 (.tmp 12)), none⟩, ⟨(some 14), (.load1 (.tmp 13)), none⟩, ⟨(some 15), (.move (.tmp 1)), none⟩, ⟨none, (.mapDel none 0 false (.tmp 14) (.tmp 15)), none⟩]) (.seq (.ops [⟨(some 4), (.assign (.const (.bool false))), none⟩]) .ret)) .skip)) (.seq (.draws (.take ⟨(some 16), (.move (.tmp 0)), none⟩ (.take ⟨(some 17), (.nilCheck (.tmp 16)), none⟩ (.take ⟨(some 18), (.faddr 0 (.tmp 17)), none⟩ (.take ⟨(some 19), (.load1 (.tmp 18)), none⟩ (.take ⟨(some 20), (.move (.tmp 1)), none⟩ (.take ⟨(some 22), (.build [] []), none⟩ (.only ⟨(some 21), (.call 23 [(.tmp 20)]), none⟩ (.last ⟨none, (.mapUpd none 0 false (.tmp 19) (.tmp 21) (.tmp 22)), none⟩))))))))) (.seq (.ops [⟨(some 4), (.assign (.const (.bool true))), none⟩]) .ret))))), [(.move (.tmp 4))]⟩
theorem k8 : cfun Tryd.prog 8 = some c8 := by kernel_rfl
def c10 : XFun := ⟨10, (.seq (.ops [⟨(some 2), (.assign (.const (.int .i64 0))), none⟩]) (.seq (.seq (.ops [⟨(some 3), (.move (.tmp 0)), none⟩, ⟨(some 4), (.call 21 [(.tmp 3)]), none⟩, ⟨(some 5), (.un .not (.tmp 4)), none⟩]) (.cond (.tmp 5) (.seq (.ops [⟨(some 2), (.assign (.const (.int .i64 0))), none⟩]) .ret) .skip)) (.seq (.ops [⟨(some 6), (.move (.tmp 0)), none⟩, ⟨(some 7), (.nilCheck (.tmp 6)), none⟩, ⟨(some 8), (.faddr 1 (.tmp 7)), none⟩, ⟨(some 9), (.call 25 [(.tmp 8), (.const (.int .i64 1))]), none⟩, ⟨(some 2), (.assign (.tmp 9)), none⟩]) .ret))), [(.move (.tmp 2))]⟩
theorem k10 : cfun Tryd.prog 10 = some c10 := by kernel_rfl
def c15 : XFun := ⟨36, (.seq (.ops [⟨(some 6), (.assign (.const (.string (strB [])))), none⟩, ⟨(some 7), (.assign (.const (.string (strB [])))), none⟩, ⟨(some 8), (.assign (.const (.bool false))), none⟩]) (.seq (.ops [⟨(some 10), (.move (.tmp 1)), none⟩, ⟨(some 11), (.call 32 [(.tmp 10)]), none⟩, ⟨(some 9), (.alloc [(.v (.int .i64 0)), (.v (.int .i64 0)), (.v (.string (strB [])))]), none⟩, ⟨none, (.store 3 (.tmp 9) (.tmp 11)), none⟩]) (.seq (.block 0 (.seq (.ops [⟨(some 13), (.move (.tmp 0)), none⟩, ⟨(some 14), (.call 21 [(.tmp 13)]), none⟩, ⟨(some 15), (.un .not (.tmp 14)), none⟩, ⟨(some 12), (.assign (.tmp 15)), none⟩]) (.cond (.tmp 12) (.seq (.ops [⟨(some 6), (.assign (.const (.string (strB [])))), none⟩, ⟨(some 7), (.assign (.const (.string (strB [])))), none⟩, ⟨(some 8), (.assign (.const (.bool false))), none⟩]) .ret) (.seq (.ops [⟨(some 17), (.faddr 0 (.tmp 9)), none⟩, ⟨(some 18), (.load1 (.tmp 17)), none⟩, ⟨(some 19), (.bin .eql (.tmp 18) (.const (.int .i64 0))), none⟩, ⟨(some 16), (.assign (.tmp 19)), none⟩]) (.cond (.tmp 16) (.seq (.ops [⟨(some 6), (.assign (.const (.string (strB [52, 50, 54, 48, 49])))), none⟩, ⟨(some 7), (.assign (.const (.string (strB [115, 121, 110, 116, 97, 120, 32, 101, 114, 114, 111, 114])))), none⟩, ⟨(some 8), (.assign (.const (.bool true))), none⟩]) .ret) (.seq (.ops [⟨(some 21), (.loadN 3 (.tmp 9)), none⟩, ⟨(some 22), (.call 33 [(.tmp 21)]), none⟩, ⟨(some 20), (.assign (.tmp 22)), none⟩]) (.cond (.tmp 20) (.seq (.ops [⟨(some 6), (.assign (.const (.string (strB [])))), none⟩, ⟨(some 7), (.assign (.const (.string (strB [])))), none⟩, ⟨(some 8), (.assign (.const (.bool false))), none⟩]) .ret) (.seq (.ops [⟨(some 24), (.move (.tmp 2)), none⟩, ⟨(some 25), (.bin .eql (.tmp 24) (.const (.int .u8 69))), none⟩, ⟨(some 23), (.assign (.tmp 25)), none⟩]) (.cond (.tmp 23) (.seq (.ops [⟨(some 26), (.call 18 []), none⟩, ⟨(some 6), (.assign (.const (.string (strB [50, 53, 80, 48, 50])))), none⟩, ⟨(some 7), (.assign (.tmp 26)), none⟩, ⟨(some 8), (.assign (.const (.bool true))), none⟩]) .ret) (.seq (.ops [⟨(some 28), (.faddr 0 (.tmp 9)), none⟩, ⟨(some 29), (.load1 (.tmp 28)), none⟩, ⟨(some 30), (.bin .neq (.tmp 29) (.const (.int .i64 1))), none⟩, ⟨(some 31), (.move (.tmp 30)), none⟩, ⟨(some 32), (.move (.tmp 0)), (some (31, true))⟩, ⟨(some 33), (.move (.tmp 1)), (some (31, true))⟩, ⟨(some 34), (.call 22 [(.tmp 32), (.tmp 33)]), (some (31, true))⟩, ⟨(some 35), (.pick (.tmp 31) (.tmp 34) (.const (.bool false))), none⟩, ⟨(some 27), (.assign (.tmp 35)), none⟩]) (.cond (.tmp 27) (.seq (.ops [⟨(some 6), (.assign (.const (.string (strB [52, 50, 80, 48, 49])))), none⟩, ⟨(some 7), (.assign (.const (.string (strB [114, 101, 108, 97, 116, 105, 111, 110, 32, 100, 111, 101, 115, 32, 110, 111, 116, 32, 101, 120, 105, 115, 116])))), none⟩, ⟨(some 8), (.assign (.const (.bool true))), none⟩]) .ret) .skip))))))))))) (.seq (.ops [⟨(some 6), (.assign (.const (.string (strB [])))), none⟩, ⟨(some 7), (.assign (.const (.string (strB [])))), none⟩, ⟨(some 8), (.assign (.const (.bool false))), none⟩]) .ret)))), [(.move (.tmp 6)), (.move (.tmp 7)), (.move (.tmp 8))]⟩
theorem k15 : cfun Tryd.prog 15 = some c15 := by kernel_rfl
def c17 : XFun := ⟨10, (.seq (.ops [⟨(some 2), (.assign (.const (.int .i64 0))), none⟩]) (.seq (.seq (.ops [⟨(some 3), (.move (.tmp 0)), none⟩, ⟨(some 4), (.call 21 [(.tmp 3)]), none⟩, ⟨(some 5), (.un .not (.tmp 4)), none⟩]) (.cond (.tmp 5) (.seq (.ops [⟨(some 2), (.assign (.const (.int .i64 0))), none⟩]) .ret) .skip)) (.seq (.ops [⟨(some 6), (.move (.tmp 0)), none⟩, ⟨(some 7), (.nilCheck (.tmp 6)), none⟩, ⟨(some 8), (.faddr 1 (.tmp 7)), none⟩, ⟨(some 9), (.call 36 [(.tmp 8)]), none⟩, ⟨(some 2), (.assign (.tmp 9)), none⟩]) .ret))), [(.move (.tmp 2))]⟩
theorem k17 : cfun Tryd.prog 17 = some c17 := by kernel_rfl
def c18 : XFun := ⟨1, (.seq (.ops [⟨(some 0), (.assign (.const (.string (strB [])))), none⟩]) (.seq (.ops [⟨(some 0), (.assign (.const (.string (strB [99, 117, 114, 114, 101, 110, 116, 32, 116, 114, 97, 110, 115, 97, 99, 116, 105, 111, 110, 32, 105, 115, 32, 97, 98, 111, 114, 116, 101, 100, 44, 32, 99, 111, 109, 109, 97, 110, 100, 115, 32, 105, 103, 110, 111, 114, 101, 100, 32, 117, 110, 116, 105, 108, 32, 101, 110, 100, 32, 111, 102, 32, 116, 114, 97, 110, 115, 97, 99, 116, 105, 111, 110, 32, 98, 108, 111, 99, 107])))), none⟩]) .ret)), [(.move (.tmp 0))]⟩
theorem k18 : cfun Tryd.prog 18 = some c18 := by kernel_rfl
def c21 : XFun := ⟨12, (.seq (.ops [⟨(some 2), (.assign (.const (.bool false))), none⟩]) (.seq (.ops [⟨(some 3), (.move (.tmp 0)), none⟩, ⟨(some 4), (.pnileq true (.tmp 3)), none⟩, ⟨(some 5), (.move (.tmp 4)), none⟩, ⟨(some 6), (.move (.tmp 0)), (some (5, true))⟩, ⟨(some 7), (.nilCheck (.tmp 6)), (some (5, true))⟩, ⟨(some 8), (.faddr 0 (.tmp 7)), (some (5, true))⟩, ⟨(some 9), (.load1 (.tmp 8)), (some (5, true))⟩, ⟨(some 10), (.mnileq true (.tmp 9)), (some (5, true))⟩, ⟨(some 11), (.pick (.tmp 5) (.tmp 10) (.const (.bool false))), none⟩, ⟨(some 2), (.assign (.tmp 11)), none⟩]) .ret)), [(.move (.tmp 2))]⟩
theorem k21 : cfun Tryd.prog 21 = some c21 := by kernel_rfl
def c22 : XFun := ⟨17, (.seq (.ops [⟨(some 4), (.assign (.const (.bool false))), none⟩]) (.seq (.ops [⟨(some 8), (.move (.tmp 0)), none⟩, ⟨(some 9), (.nilCheck (.tmp 8)), none⟩, ⟨(some 10), (.faddr 0 (.tmp 9)), none⟩, ⟨(some 11), (.load1 (.tmp 10)), none⟩, ⟨(some 12), (.move (.tmp 1)), none⟩, ⟨(some 13), (.lookup none 0 false true [] (.tmp 11) (.tmp 12)), none⟩, ⟨(some 7), (.move (.tmp 13)), none⟩, ⟨(some 14), (.extract (.tmp 7) 0), none⟩, ⟨(some 15), (.extract (.tmp 7) 1), none⟩, ⟨(some 5), (.alloc []), none⟩, ⟨none, (.store 0 (.tmp 5) (.tmp 14)), none⟩, ⟨(some 6), (.assign (.tmp 15)), none⟩]) (.seq (.ops [⟨(some 16), (.move (.tmp 6)), none⟩, ⟨(some 4), (.assign (.tmp 16)), none⟩]) .ret))), [(.move (.tmp 4))]⟩
theorem k22 : cfun Tryd.prog 22 = some c22 := by kernel_rfl
def c20 : XFun := ⟨44, (.seq (.ops [⟨(some 0), (.assign (.const (.bool false))), none⟩]) (.seq (.ops [⟨(some 8), (.call 7 []), none⟩, ⟨(some 1), (.assign (.tmp 8)), none⟩]) (.seq (.ops [⟨(some 10), (.move (.tmp 1)), none⟩, ⟨(some 11), (.call 15 [(.tmp 10), (.const (.string (strB [110, 111, 110, 115, 101, 110, 115, 101]))), (.const (.int .u8 73))]), none⟩, ⟨(some 9), (.move (.tmp 11)), none⟩, ⟨(some 12), (.extract (.tmp 9) 0), none⟩, ⟨(some 13), (.extract (.tmp 9) 1), none⟩, ⟨(some 14), (.extract (.tmp 9) 2), none⟩, ⟨(some 2), (.assign (.tmp 12)), none⟩, ⟨(some 3), (.assign (.tmp 13)), none⟩, ⟨(some 4), (.assign (.tmp 14)), none⟩]) (.seq (.ops [⟨(some 16), (.move (.tmp 1)), none⟩, ⟨(some 17), (.call 15 [(.tmp 16), (.const (.string (strB [98, 101, 103, 105, 110]))), (.const (.int .u8 69))]), none⟩, ⟨(some 15), (.move (.tmp 17)), none⟩, ⟨(some 18), (.extract (.tmp 15) 0), none⟩, ⟨(some 19), (.extract (.tmp 15) 1), none⟩, ⟨(some 20), (.extract (.tmp 15) 2), none⟩, ⟨(some 5), (.assign (.tmp 18)), none⟩, ⟨(some 6), (.assign (.tmp 19)), none⟩, ⟨(some 7), (.assign (.tmp 20)), none⟩]) (.seq (.ops [⟨(some 21), (.move (.tmp 4)), none⟩, ⟨(some 22), (.move (.tmp 21)), none⟩, ⟨(some 23), (.move (.tmp 2)), (some (22, true))⟩, ⟨(some 24), (.bin .eql (.tmp 23) (.const (.string (strB [52, 50, 54, 48, 49])))), (some (22, true))⟩, ⟨(some 25), (.pick (.tmp 22) (.tmp 24) (.const (.bool false))), none⟩, ⟨(some 26), (.move (.tmp 25)), none⟩, ⟨(some 27), (.move (.tmp 7)), (some (26, true))⟩, ⟨(some 28), (.pick (.tmp 26) (.tmp 27) (.const (.bool false))), none⟩, ⟨(some 29), (.move (.tmp 28)), none⟩, ⟨(some 30), (.move (.tmp 6)), (some (29, true))⟩, ⟨(some 31), (.call 18 []), (some (29, true))⟩, ⟨(some 32), (.bin .eql (.tmp 30) (.tmp 31)), (some (29, true))⟩, ⟨(some 33), (.pick (.tmp 29) (.tmp 32) (.const (.bool false))), none⟩, ⟨(some 34), (.move (.tmp 33)), none⟩, ⟨(some 35), (.move (.tmp 1)), (some (34, true))⟩, ⟨(some 36), (.call 10 [(.tmp 35)]), (some (34, true))⟩, ⟨(some 37), (.bin .eql (.tmp 36) (.const (.int .i64 1))), (some (34, true))⟩, ⟨(some 38), (.pick (.tmp 34) (.tmp 37) (.const (.bool false))), none⟩, ⟨(some 39), (.move (.tmp 38)), none⟩, ⟨(some 40), (.move (.tmp 1)), (some (39, true))⟩, ⟨(some 41), (.call 17 [(.tmp 40)]), (some (39, true))⟩, ⟨(some 42), (.bin .eql (.tmp 41) (.const (.int .i64 1))), (some (39, true))⟩, ⟨(some 43), (.pick (.tmp 39) (.tmp 42) (.const (.bool false))), none⟩, ⟨(some 0), (.assign (.tmp 43)), none⟩]) .ret))))), [(.move (.tmp 0))]⟩
theorem k20 : cfun Tryd.prog 20 = some c20 := by kernel_rfl
def c3 : XFun := ⟨124, (.seq (.ops [⟨(some 2), (.assign (.const (.bool false))), none⟩]) (.seq (.ops [⟨(some 14), (.call 7 []), none⟩, ⟨(some 15), (.build [(.sl 0 [] (some true) .exact), (.v (.int .i64 0))] []), none⟩, ⟨(some 16), (.box (.tmp 15)), none⟩, ⟨(some 3), (.assign (.tmp 14)), none⟩, ⟨(some 4), (.assign (.tmp 16)), none⟩]) (.seq (.seq (.ops [⟨(some 17), (.move (.tmp 0)), none⟩, ⟨(some 18), (.lenL (.tmp 17)), none⟩, ⟨(some 19), (.move (.const (.int .i64 0))), none⟩]) (.block 0 (.loop (.seq (.ops [⟨(some 20), (.bin .lss (.tmp 19) (.tmp 18)), none⟩]) (.seq (.cond (.tmp 20) .skip (.exit 0)) (.seq (.block 1 (.seq (.ops [⟨(some 21), (.move (.tmp 19)), none⟩, ⟨(some 22), (.iaddr 7 (.tmp 17) (.tmp 19)), none⟩, ⟨(some 23), (.loadN 7 (.tmp 22)), none⟩, ⟨(some 6), (.alloc [(.v (.int .i64 0)), (.v (.string (strB []))), (.v (.int .u8 0)), (.v (.int .i64 0)), (.v (.int .i64 0)), (.v (.string (strB []))), (.sl 0 [] (some true) .exact)]), none⟩, ⟨(some 5), (.assign (.tmp 21)), none⟩, ⟨none, (.store 7 (.tmp 6) (.tmp 23)), none⟩]) (.seq (.seq (.ops [⟨(some 24), (.move (.tmp 5)), none⟩, ⟨(some 25), (.bin .geq (.tmp 24) (.const (.int .i64 60))), none⟩, ⟨(some 26), (.move (.tmp 25)), none⟩, ⟨(some 27), (.faddr 1 (.tmp 6)), (some (26, false))⟩, ⟨(some 28), (.load1 (.tmp 27)), (some (26, false))⟩, ⟨(some 29), (.lenS (.tmp 28)), (some (26, false))⟩, ⟨(some 30), (.bin .gtr (.tmp 29) (.const (.int .i64 300))), (some (26, false))⟩, ⟨(some 31), (.pick (.tmp 26) (.const (.bool true)) (.tmp 30)), none⟩, ⟨(some 32), (.move (.tmp 31)), none⟩, ⟨(some 33), (.faddr 6 (.tmp 6)), (some (32, false))⟩, ⟨(some 34), (.load1 (.tmp 33)), (some (32, false))⟩, ⟨(some 35), (.lenL (.tmp 34)), (some (32, false))⟩, ⟨(some 36), (.bin .gtr (.tmp 35) (.const (.int .i64 20))), (some (32, false))⟩, ⟨(some 37), (.pick (.tmp 32) (.const (.bool true)) (.tmp 36)), none⟩]) (.cond (.tmp 37) (.exit 0) .skip)) (.seq (.ops [⟨(some 7), (.assign (.const (.bool true))), none⟩]) (.seq (.seq (.ops [⟨(some 38), (.faddr 0 (.tmp 6)), none⟩, ⟨(some 39), (.load1 (.tmp 38)), none⟩]) (.block 2 (.seq (.ops [⟨(some 74), (.bin .eql (.tmp 39) (.const (.int .i64 0))), none⟩, ⟨(some 73), (.assign (.tmp 74)), none⟩]) (.cond (.tmp 73) (.draws (.take ⟨(some 75), (.move (.tmp 3)), none⟩ (.take ⟨(some 76), (.faddr 1 (.tmp 6)), none⟩ (.take ⟨(some 77), (.load1 (.tmp 76)), none⟩ (.take ⟨(some 79), (.move (.tmp 4)), none⟩ (.take ⟨(some 80), (.faddr 1 (.tmp 6)), none⟩ (.take ⟨(some 81), (.load1 (.tmp 80)), none⟩ (.only ⟨(some 78), (.call 8 [(.tmp 75), (.tmp 77)]), none⟩ (.only ⟨(some 82), (.call 9 [(.tmp 79), (.tmp 81)]), none⟩ (.take ⟨(some 83), (.beq false (.tmp 78) (.tmp 82)), none⟩ (.take ⟨(some 7), (.assign (.tmp 83)), none⟩ .done))))))))))) (.seq (.ops [⟨(some 85), (.bin .eql (.tmp 39) (.const (.int .i64 1))), none⟩, ⟨(some 84), (.assign (.tmp 85)), none⟩]) (.cond (.tmp 84) (.ops [⟨(some 86), (.move (.tmp 3)), none⟩, ⟨(some 87), (.call 10 [(.tmp 86)]), none⟩, ⟨(some 88), (.move (.tmp 4)), none⟩, ⟨(some 89), (.call 11 [(.tmp 88)]), none⟩, ⟨(some 90), (.bin .eql (.tmp 87) (.tmp 89)), none⟩, ⟨(some 7), (.assign (.tmp 90)), none⟩]) (.seq (.ops [⟨(some 92), (.bin .eql (.tmp 39) (.const (.int .i64 2))), none⟩, ⟨(some 91), (.assign (.tmp 92)), none⟩]) (.cond (.tmp 91) (.draws (.take ⟨(some 93), (.move (.tmp 3)), none⟩ (.take ⟨(some 94), (.faddr 3 (.tmp 6)), none⟩ (.take ⟨(some 95), (.loadN 3 (.tmp 94)), none⟩ (.take ⟨(some 96), (.faddr 6 (.tmp 6)), none⟩ (.take ⟨(some 97), (.load1 (.tmp 96)), none⟩ (.take ⟨(some 99), (.move (.tmp 4)), none⟩ (.take ⟨(some 100), (.faddr 3 (.tmp 6)), none⟩ (.take ⟨(some 101), (.loadN 3 (.tmp 100)), none⟩ (.take ⟨(some 102), (.faddr 6 (.tmp 6)), none⟩ (.take ⟨(some 103), (.load1 (.tmp 102)), none⟩ (.only ⟨(some 98), (.call 13 [(.tmp 93), (.tmp 95), (.tmp 97)]), none⟩ (.only ⟨(some 104), (.call 14 [(.tmp 99), (.tmp 101), (.tmp 103)]), none⟩ (.only ⟨(some 105), (.call 12 [(.tmp 98), (.tmp 104)]), none⟩ (.take ⟨(some 7), (.assign (.tmp 105)), none⟩ .done))))))))))))))) (.seq (.ops [⟨(some 41), (.move (.tmp 3)), none⟩, ⟨(some 42), (.faddr 1 (.tmp 6)), none⟩, ⟨(some 43), (.load1 (.tmp 42)), none⟩, ⟨(some 44), (.faddr 2 (.tmp 6)), none⟩, ⟨(some 45), (.load1 (.tmp 44)), none⟩, ⟨(some 46), (.call 15 [(.tmp 41), (.tmp 43), (.tmp 45)]), none⟩, ⟨(some 40), (.move (.tmp 46)), none⟩, ⟨(some 47), (.extract (.tmp 40) 0), none⟩, ⟨(some 48), (.extract (.tmp 40) 1), none⟩, ⟨(some 49), (.extract (.tmp 40) 2), none⟩, ⟨(some 8), (.assign (.tmp 47)), none⟩, ⟨(some 9), (.assign (.tmp 48)), none⟩, ⟨(some 10), (.assign (.tmp 49)), none⟩]) (.seq (.ops [⟨(some 51), (.move (.tmp 4)), none⟩, ⟨(some 52), (.faddr 1 (.tmp 6)), none⟩, ⟨(some 53), (.load1 (.tmp 52)), none⟩, ⟨(some 54), (.faddr 2 (.tmp 6)), none⟩, ⟨(some 55), (.load1 (.tmp 54)), none⟩, ⟨(some 56), (.call 16 [(.tmp 51), (.tmp 53), (.tmp 55)]), none⟩, ⟨(some 50), (.move (.tmp 56)), none⟩, ⟨(some 57), (.extract (.tmp 50) 0), none⟩, ⟨(some 58), (.extract (.tmp 50) 1), none⟩, ⟨(some 59), (.extract (.tmp 50) 2), none⟩, ⟨(some 11), (.assign (.tmp 57)), none⟩, ⟨(some 12), (.assign (.tmp 58)), none⟩, ⟨(some 13), (.assign (.tmp 59)), none⟩]) (.ops [⟨(some 60), (.move (.tmp 8)), none⟩, ⟨(some 61), (.move (.tmp 11)), none⟩, ⟨(some 62), (.bin .eql (.tmp 60) (.tmp 61)), none⟩, ⟨(some 63), (.move (.tmp 62)), none⟩, ⟨(some 64), (.move (.tmp 9)), (some (63, true))⟩, ⟨(some 65), (.move (.tmp 12)), (some (63, true))⟩, ⟨(some 66), (.bin .eql (.tmp 64) (.tmp 65)), (some (63, true))⟩, ⟨(some 67), (.pick (.tmp 63) (.tmp 66) (.const (.bool false))), none⟩, ⟨(some 68), (.move (.tmp 67)), none⟩, ⟨(some 69), (.move (.tmp 10)), (some (68, true))⟩, ⟨(some 70), (.move (.tmp 13)), (some (68, true))⟩, ⟨(some 71), (.beq false (.tmp 69) (.tmp 70)), (some (68, true))⟩, ⟨(some 72), (.pick (.tmp 68) (.tmp 71) (.const (.bool false))), none⟩, ⟨(some 7), (.assign (.tmp 72)), none⟩]))))))))))) (.seq (.draws (.take ⟨(some 106), (.move (.tmp 7)), none⟩ (.take ⟨(some 107), (.un .not (.tmp 106)), none⟩ (.take ⟨(some 108), (.move (.tmp 107)), none⟩ (.take ⟨(some 109), (.move (.tmp 3)), (some (108, false))⟩ (.take ⟨(some 111), (.move (.tmp 4)), (some (108, false))⟩ (.take ⟨(some 112), (.nilCheck (.tmp 111)), (some (108, false))⟩ (.take ⟨(some 113), (.faddr 1 (.tmp 112)), (some (108, false))⟩ (.take ⟨(some 114), (.load1 (.tmp 113)), (some (108, false))⟩ (.only ⟨(some 110), (.call 17 [(.tmp 109)]), (some (108, false))⟩ (.take ⟨(some 115), (.bin .neq (.tmp 110) (.tmp 114)), (some (108, false))⟩ (.take ⟨(some 116), (.pick (.tmp 108) (.const (.bool true)) (.tmp 115)), none⟩ .done)))))))))))) (.cond (.tmp 116) (.seq (.ops [⟨(some 2), (.assign (.const (.bool false))), none⟩]) .ret) .skip))))))) (.ops [⟨(some 117), (.bin .add (.tmp 19) (.const (.int .i64 1))), none⟩, ⟨(some 19), (.move (.tmp 117)), none⟩]))))))) (.seq (.ops [⟨(some 118), (.call 18 []), none⟩, ⟨(some 119), (.call 19 []), none⟩, ⟨(some 120), (.bin .eql (.tmp 118) (.tmp 119)), none⟩, ⟨(some 121), (.move (.tmp 120)), none⟩, ⟨(some 122), (.call 20 []), (some (121, true))⟩, ⟨(some 123), (.pick (.tmp 121) (.tmp 122) (.const (.bool false))), none⟩, ⟨(some 2), (.assign (.tmp 123)), none⟩]) .ret)))), [(.move (.tmp 2))]⟩
theorem k3 : cfun Tryd.prog 3 = some c3 := by kernel_rfl
def c4 : XFun := ⟨49, (.seq (.ops [⟨(some 2), (.assign (.const (.bool false))), none⟩]) (.seq (.ops [⟨(some 8), (.call 7 []), none⟩, ⟨(some 3), (.assign (.tmp 8)), none⟩]) (.seq (.ops [⟨(some 4), (.assign (.const (.int .i64 0))), none⟩]) (.seq (.seq (.ops [⟨(some 9), (.move (.tmp 0)), none⟩, ⟨(some 10), (.lenL (.tmp 9)), none⟩, ⟨(some 11), (.move (.const (.int .i64 0))), none⟩]) (.block 0 (.loop (.seq (.ops [⟨(some 12), (.bin .lss (.tmp 11) (.tmp 10)), none⟩]) (.seq (.cond (.tmp 12) .skip (.exit 0)) (.seq (.block 1 (.seq (.ops [⟨(some 13), (.move (.tmp 11)), none⟩, ⟨(some 14), (.iaddr 7 (.tmp 9) (.tmp 11)), none⟩, ⟨(some 15), (.loadN 7 (.tmp 14)), none⟩, ⟨(some 6), (.alloc [(.v (.int .i64 0)), (.v (.string (strB []))), (.v (.int .u8 0)), (.v (.int .i64 0)), (.v (.int .i64 0)), (.v (.string (strB []))), (.sl 0 [] (some true) .exact)]), none⟩, ⟨(some 5), (.assign (.tmp 13)), none⟩, ⟨none, (.store 7 (.tmp 6) (.tmp 15)), none⟩]) (.seq (.seq (.ops [⟨(some 16), (.move (.tmp 5)), none⟩, ⟨(some 17), (.bin .geq (.tmp 16) (.const (.int .i64 60))), none⟩, ⟨(some 18), (.move (.tmp 17)), none⟩, ⟨(some 19), (.faddr 1 (.tmp 6)), (some (18, false))⟩, ⟨(some 20), (.load1 (.tmp 19)), (some (18, false))⟩, ⟨(some 21), (.lenS (.tmp 20)), (some (18, false))⟩, ⟨(some 22), (.bin .gtr (.tmp 21) (.const (.int .i64 300))), (some (18, false))⟩, ⟨(some 23), (.pick (.tmp 18) (.const (.bool true)) (.tmp 22)), none⟩]) (.cond (.tmp 23) (.exit 0) .skip)) (.seq (.seq (.ops [⟨(some 24), (.faddr 0 (.tmp 6)), none⟩, ⟨(some 25), (.load1 (.tmp 24)), none⟩, ⟨(some 26), (.bin .eql (.tmp 25) (.const (.int .i64 0))), none⟩]) (.cond (.tmp 26) (.ops [⟨(some 27), (.move (.tmp 3)), none⟩, ⟨(some 28), (.faddr 1 (.tmp 6)), none⟩, ⟨(some 29), (.load1 (.tmp 28)), none⟩, ⟨(some 30), (.call 8 [(.tmp 27), (.tmp 29)]), none⟩]) .skip)) (.seq (.ops [⟨(some 31), (.faddr 0 (.tmp 6)), none⟩, ⟨(some 32), (.load1 (.tmp 31)), none⟩, ⟨(some 33), (.bin .eql (.tmp 32) (.const (.int .i64 1))), none⟩]) (.cond (.tmp 33) (.seq (.ops [⟨(some 34), (.move (.tmp 3)), none⟩, ⟨(some 35), (.call 10 [(.tmp 34)]), none⟩, ⟨(some 7), (.assign (.tmp 35)), none⟩]) (.seq (.seq (.ops [⟨(some 36), (.move (.tmp 7)), none⟩, ⟨(some 37), (.move (.tmp 4)), none⟩, ⟨(some 38), (.bin .add (.tmp 37) (.const (.int .i64 1))), none⟩, ⟨(some 39), (.bin .neq (.tmp 36) (.tmp 38)), none⟩]) (.cond (.tmp 39) (.seq (.ops [⟨(some 2), (.assign (.const (.bool false))), none⟩]) .ret) .skip)) (.ops [⟨(some 40), (.move (.tmp 7)), none⟩, ⟨(some 4), (.assign (.tmp 40)), none⟩]))) .skip)))))) (.ops [⟨(some 41), (.bin .add (.tmp 11) (.const (.int .i64 1))), none⟩, ⟨(some 11), (.move (.tmp 41)), none⟩]))))))) (.seq (.ops [⟨(some 42), (.move (.tmp 3)), none⟩, ⟨(some 43), (.call 17 [(.tmp 42)]), none⟩, ⟨(some 44), (.move (.tmp 4)), none⟩, ⟨(some 45), (.bin .eql (.tmp 43) (.tmp 44)), none⟩, ⟨(some 46), (.move (.tmp 45)), none⟩, ⟨(some 47), (.call 20 []), (some (46, true))⟩, ⟨(some 48), (.pick (.tmp 46) (.tmp 47) (.const (.bool false))), none⟩, ⟨(some 2), (.assign (.tmp 48)), none⟩]) .ret))))), [(.move (.tmp 2))]⟩
theorem k4 : cfun Tryd.prog 4 = some c4 := by kernel_rfl
end Go.Proofs.YtmdapcmdlblnnaaDoor.Ax
namespace Go.Proofs.YtmdapcmdlblnnaaDoor.Ax
set_option maxRecDepth 100000
open Go.RowKit Go By
set_option linter.unusedSimpArgs false
set_option linter.unusedVariables false
set_option maxRecDepth 10000

section
variable {P : Program} {f : FuncId} {args : List AV} {h : List (List AV)}
/-- One cell of one variable is written, and nothing else. -/
theorem contract_set1 (hE : entersB P f = true) {i off : Nat} {cs : List AV} {x : Value} {r : AV} (hcs : h[i]? = some cs) (ho : off < cs.length) (hx : x.oneCell' = true) (hr : r.idOf = none)
    (hc : ∀ (G : Ghost) (w : World) (vs : List Value), WorldOk G w → SeesH G h → SeesL G args vs → ∃ b v, G.boxes[i]? = some b ∧ G.kinds b = none ∧ Sees G r v ∧ Calls P f vs.toArray w fun e w' => e = .returned v ∧ w' = w.setCell ⟨b, G.base i + off, none⟩ x) :
    Contract P f args h r (h.set i (cs.set off (.v x))) [i] := by
  refine ⟨enters_ofB hE, fun G w vs cls hW hS hvs hown hoh => ?_⟩
  obtain ⟨b, v, hb, hk, hv, hcl⟩ := hc G w vs hW hS hvs
  refine hcl.mono fun e w' he => ?_
  obtain ⟨rfl, rfl⟩ := he
  have hlh : i < h.length := (List.getElem?_eq_some_iff.1 hcs).1
  have hbl : i < G.boxv.length := by rw [← hS.1]; exact hlh
  obtain ⟨us, hus⟩ : ∃ us, G.boxv[i]? = some us := ⟨_, List.getElem?_eq_getElem hbl⟩
  obtain ⟨q1, q2, q3⟩ := hS.2 i cs us hcs hus
  have hW' := hW.setBox hb hk hus off [x] (by rw [q1]; simp; omega)
  have hE' : Ext G (G.setBox i (Ax.lay us off [x])) := Ext.setBox i _
  have el : Ax.lay us off [x] = us.set off x := rfl
  rw [el] at hW' hE'
  have at_ : ∀ (j : Nat) (ds : List AV) (ws : List Value), (h.set i (cs.set off (.v x)))[j]? = some ds → (G.boxv.set i (us.set off x))[j]? = some ws → (j = i ∧ ds = cs.set off (.v x) ∧ ws = us.set off x) ∨ (j ≠ i ∧ h[j]? = some ds ∧ G.boxv[j]? = some ws) := fun j ds ws e1 e2 => by
    rw [List.getElem?_set] at e1 e2
    by_cases hi : i = j
    · rw [if_pos hi, if_pos hlh] at e1
      rw [if_pos hi, if_pos hbl] at e2
      injection e1 with e1; injection e2 with e2
      exact .inl ⟨hi.symm, e1.symm, e2.symm⟩
    · rw [if_neg hi] at e1 e2
      exact .inr ⟨fun hh => hi hh.symm, e1, e2⟩
  refine ⟨v, G.setBox i (us.set off x), cls, rfl, hE', hW', ⟨by simp [Ghost.setBox, hS.1], fun j ds ws e1 e2 => ?_⟩, fun j ds ws e1 e2 p y hj => ?_, hv.ext hE', .none _ hr, fun y hy => (by rw [hr] at hy; cases hy), fun j hj hn => ?_, fun y B hy _ => hy⟩
  · rcases at_ j ds ws e1 e2 with ⟨_, rfl, rfl⟩ | ⟨_, h3, h4⟩
    · refine ⟨by simpa using q1, fun y hy => ?_, fun p c hp => ?_⟩
      · rcases List.mem_or_eq_of_mem_set hy with hy | rfl
        · exact q2 y hy
        · exact hx
      · rw [List.getElem?_set] at hp
        by_cases hpo : off = p
        · rw [if_pos hpo, if_pos ho] at hp
          injection hp with hp
          subst hp hpo
          rw [List.getD_eq_getElem?_getD, List.getElem?_set_self (by rw [q1]; exact ho)]
          exact .v _
        · rw [if_neg hpo] at hp
          rw [List.getD_eq_getElem?_getD, List.getElem?_set_ne hpo, ← List.getD_eq_getElem?_getD]
          exact (q3 p c hp).ext hE'
    · obtain ⟨h5, h6, h7⟩ := hS.2 j ds ws h3 h4
      exact ⟨h5, h6, fun p c hp => (h7 p c hp).ext hE'⟩
  · rcases at_ j ds ws e1 e2 with ⟨rfl, rfl, rfl⟩ | ⟨_, h3, h4⟩
    · rw [List.getElem?_set] at hj
      by_cases hpo : off = p
      · rw [if_pos hpo, if_pos ho] at hj
        injection hj with hj
        subst hj
        exact ⟨.none _ rfl, fun y hy => by cases hy⟩
      · rw [if_neg hpo] at hj
        obtain ⟨h5, h6⟩ := hoh j cs us hcs hus p y hj
        refine ⟨?_, h6⟩
        rw [List.getD_eq_getElem?_getD, List.getElem?_set_ne hpo, ← List.getD_eq_getElem?_getD]
        exact h5.move fun q y' B hB' _ hbB hcl => ⟨hbB, hcl, .inr (.inr ⟨j, cs, us, p, y, hcs, hus, hj, hB'⟩)⟩
    · obtain ⟨h5, h6⟩ := hoh j ds ws h3 h4 p y hj
      exact ⟨h5.move fun q y' B hB' _ hbB hcl => ⟨hbB, hcl, .inr (.inr ⟨j, ds, ws, p, y, h3, h4, hj, hB'⟩)⟩, h6⟩
  · show (G.boxv.set i _)[j]? = _
    rw [List.getElem?_set_ne (fun e => hn (by rw [e]; exact List.mem_cons_self ..))]
end

/-! ### Add, Load -/
theorem atomAdd_any (b o : Nat) (n d : Int) (w : World) (hc : w.cell? ⟨b, o, none⟩ = some (.int .i64 n)) (hz : w.frozen? ⟨b, o, none⟩ = false) :
    Calls Tryd.prog 25 #[.pointer (some ⟨b, o, none⟩), .int .i64 d] w fun e w' => e = .returned (.int .i64 (IntKind.i64.wrap (n + d))) ∧ w' = w.setCell ⟨b, o, none⟩ (.int .i64 (IntKind.i64.wrap (n + d))) := by
  have hadd := run_call_add (P := Tryd.prog) Tryd.func38 (by kernel_rfl) (by kernel_rfl) (by kernel_rfl) .i64 (by kernel_rfl) (y := d) (s := IntKind.i64.wrap (n + d)) hc hz (by simp [go_sem])
  go_enter Tryd.func25, Tryd.ntmps25
  go_wp2
  go_ret
  have e : IntKind.i64.wrap (n + d) = RowKit.wrap64 (n + d) := by unfold RowKit.wrap64; exact IntKind.wrap_i64 _
  rw [e]
  exact ⟨rfl, rfl⟩
theorem atomLoad_any (b o : Nat) (n : Int) (w : World) (hc : w.cell? ⟨b, o, none⟩ = some (.int .i64 n)) :
    Calls Tryd.prog 36 #[.pointer (some ⟨b, o, none⟩)] w fun e w' => e = .returned (.int .i64 n) ∧ w' = w := by
  have hl := run_call_load (P := Tryd.prog) Tryd.func55 (by kernel_rfl) (by kernel_rfl) (by kernel_rfl) .i64 (by kernel_rfl) hc
  go_enter Tryd.func36, Tryd.ntmps36
  go_wp2
  go_ret
  exact ⟨rfl, rfl⟩
theorem box_cell {G : Ghost} {w : World} {h : List (List AV)} (hW : WorldOk G w) (hS : SeesH G h) {i b off : Nat} {cs : List AV} {x : Value} (hcs : h[i]? = some cs) (hx : cs[off]? = some (.v x)) (hb : G.boxes[i]? = some b ∧ G.kinds b = none) :
    w.cell? ⟨b, G.base i + off, none⟩ = some x ∧ w.frozen? ⟨b, G.base i + off, none⟩ = false := by
  have hbl : i < G.boxv.length := by rw [← hS.1]; exact (List.getElem?_eq_some_iff.1 hcs).1
  obtain ⟨us, hus⟩ : ∃ us, G.boxv[i]? = some us := ⟨_, List.getElem?_eq_getElem hbl⟩
  obtain ⟨q1, q2, q3⟩ := hS.2 i cs us hcs hus
  obtain ⟨b1, b2, b3, b4⟩ := hW.box i b us hb.1 hus
  have ho : off < us.length := by rw [q1]; exact (List.getElem?_eq_some_iff.1 hx).1
  have e := (q3 off _ hx).inv_v
  rw [List.getD_eq_getElem?_getD, List.getElem?_eq_getElem ho] at e
  have e : us[off] = x := e
  exact b4 off x (by rw [List.getElem?_eq_getElem ho, e]) hb.2
theorem atomAdd_c {h : List (List AV)} {i off : Nat} {cs : List AV} {n d : Int} (hcs : h[i]? = some cs) (hx : cs[off]? = some (.v (.int .i64 n))) :
    Contract Tryd.prog 25 [.box i off, .v (.int .i64 d)] h (.v (.int .i64 (IntKind.i64.wrap (n + d)))) (h.set i (cs.set off (.v (.int .i64 (IntKind.i64.wrap (n + d)))))) [i] :=
  contract_set1 (by kernel_rfl) hcs (List.getElem?_eq_some_iff.1 hx).1 rfl rfl fun G w vs hW hS hvs => by
    obtain ⟨a, c, rfl, ha, hc⟩ := seesL2 hvs
    obtain ⟨b, rfl, hb⟩ := ha.inv_box
    rw [hc.inv_v]
    obtain ⟨h1, h2⟩ := box_cell hW hS hcs hx hb
    exact ⟨b, _, hb.1, hb.2, .v _, atomAdd_any b _ n d w h1 h2⟩
theorem atomLoad_c {h : List (List AV)} {i off : Nat} {cs : List AV} {n : Int} (hcs : h[i]? = some cs) (hx : cs[off]? = some (.v (.int .i64 n))) :
    Contract Tryd.prog 36 [.box i off] h (.v (.int .i64 n)) h [] :=
  contract_quietH (by kernel_rfl) rfl fun G w vs hW hS hvs => by
    obtain ⟨a, rfl, ha⟩ := seesL1 hvs
    obtain ⟨b, rfl, hb⟩ := ha.inv_box
    obtain ⟨h1, h2⟩ := box_cell hW hS hcs hx hb
    exact ⟨_, .v _, atomLoad_any b _ n w h1⟩
end Go.Proofs.YtmdapcmdlblnnaaDoor.Ax
