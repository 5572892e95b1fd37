import Derived.Test.YtknohkmpficjgaaGreatDoorQAxXr
import Derived.Test.YtknohkmpficjgaaGreatDoorRows
import Derived.Test.YtknohkmpficjgaaGreatDoorQAxSx
import Derived.Test.YtknohkmpficjgaaGreatDoorQAxSo
import Derived.Lib.TrimU
set_option linter.unusedSimpArgs false
set_option linter.unusedVariables false
namespace Go.Proofs.YtknohkmpficjgaaGreatDoor.Ax
open Go.RowKit Go By
def c76 : XFun := ⟨28, (.seq (.ops [⟨(some 2), (.alloc [(.v (.int .i64 0)), (.v (.int .i64 0)), (.v (.string (strB [])))]), none⟩]) (.seq (.ops [⟨(some 7), (.move (.tmp 0)), none⟩, ⟨(some 8), (.call 127 [(.tmp 7), (.const (.string (strB [32])))]), none⟩, ⟨(some 0), (.assign (.tmp 8)), none⟩]) (.seq (.seq (.ops [⟨(some 10), (.move (.tmp 0)), none⟩, ⟨(some 11), (.call 128 [(.tmp 10), (.const (.string (strB [115, 101, 108, 101, 99, 116, 32])))]), none⟩, ⟨(some 9), (.move (.tmp 11)), none⟩, ⟨(some 12), (.extract (.tmp 9) 0), none⟩, ⟨(some 13), (.extract (.tmp 9) 1), none⟩, ⟨(some 3), (.assign (.tmp 12)), none⟩, ⟨(some 4), (.assign (.tmp 13)), none⟩]) (.seq (.ops [⟨(some 14), (.move (.tmp 4)), none⟩]) (.cond (.tmp 14) (.seq (.ops [⟨(some 15), (.move (.tmp 3)), none⟩, ⟨(some 16), (.call 129 [(.tmp 15)]), none⟩, ⟨none, (.store 3 (.tmp 2) (.tmp 16)), none⟩]) .ret) .skip))) (.seq (.seq (.ops [⟨(some 18), (.move (.tmp 0)), none⟩, ⟨(some 19), (.call 128 [(.tmp 18), (.const (.string (strB [102, 97, 105, 108, 32])))]), none⟩, ⟨(some 17), (.move (.tmp 19)), none⟩, ⟨(some 20), (.extract (.tmp 17) 0), none⟩, ⟨(some 21), (.extract (.tmp 17) 1), none⟩, ⟨(some 5), (.assign (.tmp 20)), none⟩, ⟨(some 6), (.assign (.tmp 21)), none⟩]) (.seq (.ops [⟨(some 22), (.move (.tmp 6)), none⟩]) (.cond (.tmp 22) (.seq (.ops [⟨(some 23), (.move (.tmp 5)), none⟩, ⟨(some 24), (.call 130 [(.tmp 23)]), none⟩, ⟨none, (.store 3 (.tmp 2) (.tmp 24)), none⟩]) .ret) .skip))) (.seq (.ops [⟨(some 25), (.move (.tmp 0)), none⟩, ⟨(some 26), (.buildSlice 1 6 [(.v (.int .i64 0))] [(0, (.const (.int .i64 1))), (1, (.const (.int .i64 2))), (2, (.const (.int .i64 3))), (3, (.const (.int .i64 4))), (4, (.const (.int .i64 6))), (5, (.const (.int .i64 7)))]), none⟩, ⟨(some 27), (.call 131 [(.tmp 25), (.tmp 26)]), none⟩, ⟨none, (.store 3 (.tmp 2) (.tmp 27)), none⟩]) .ret))))), [(.loadN 3 (.tmp 2))]⟩
theorem k76 : cfun Tryz.prog 76 = some c76 := by kernel_rfl
def c134 : XFun := ⟨6, (.seq (.ops [⟨(some 1), (.box (.tmp 0)), none⟩, ⟨(some 2), (.assign (.const (.bool false))), none⟩]) (.seq (.ops [⟨(some 3), (.loadN 3 (.tmp 1)), none⟩, ⟨(some 4), (.buildSlice 1 2 [(.v (.int .i64 0))] [(0, (.const (.int .i64 3))), (1, (.const (.int .i64 4)))]), none⟩, ⟨(some 5), (.call 132 [(.tmp 3), (.tmp 4)]), none⟩, ⟨(some 2), (.assign (.tmp 5)), none⟩]) .ret)), [(.move (.tmp 2))]⟩
theorem k134 : cfun Tryz.prog 134 = some c134 := by kernel_rfl
def c77 : XFun := ⟨6, (.seq (.ops [⟨(some 1), (.box (.tmp 0)), none⟩, ⟨(some 2), (.assign (.const (.bool false))), none⟩]) (.seq (.ops [⟨(some 3), (.loadN 3 (.tmp 1)), none⟩, ⟨(some 4), (.buildSlice 1 3 [(.v (.int .i64 0))] [(0, (.const (.int .i64 5))), (1, (.const (.int .i64 6))), (2, (.const (.int .i64 7)))]), none⟩, ⟨(some 5), (.call 132 [(.tmp 3), (.tmp 4)]), none⟩, ⟨(some 2), (.assign (.tmp 5)), none⟩]) .ret)), [(.move (.tmp 2))]⟩
theorem k77 : cfun Tryz.prog 77 = some c77 := by kernel_rfl
def c136 : XFun := ⟨15, (.seq (.ops [⟨(some 2), (.box (.tmp 0)), none⟩, ⟨(some 4), (.assign (.const (.int .i64 0))), none⟩]) (.seq (.block 0 (.seq (.ops [⟨(some 6), (.faddr 0 (.tmp 2)), none⟩, ⟨(some 7), (.load1 (.tmp 6)), none⟩, ⟨(some 8), (.bin .eql (.tmp 7) (.const (.int .i64 6))), none⟩, ⟨(some 5), (.assign (.tmp 8)), none⟩]) (.cond (.tmp 5) (.seq (.ops [⟨(some 9), (.move (.tmp 1)), none⟩, ⟨(some 10), (.maxI [(.tmp 9), (.const (.int .i64 0))]), none⟩, ⟨(some 11), (.minI [(.tmp 10), (.const (.int .i64 1000))]), none⟩, ⟨(some 4), (.assign (.tmp 11)), none⟩]) .ret) (.seq (.ops [⟨(some 13), (.loadN 3 (.tmp 2)), none⟩, ⟨(some 14), (.call 77 [(.tmp 13)]), none⟩, ⟨(some 12), (.assign (.tmp 14)), none⟩]) (.cond (.tmp 12) (.seq (.ops [⟨(some 4), (.assign (.const (.int .i64 1))), none⟩]) .ret) .skip))))) (.seq (.ops [⟨(some 4), (.assign (.const (.int .i64 0))), none⟩]) .ret))), [(.move (.tmp 4))]⟩
theorem k136 : cfun Tryz.prog 136 = some c136 := by kernel_rfl
def c129 : XFun := ⟨15, (.seq (.ops [⟨(some 2), (.alloc [(.v (.int .i64 0)), (.v (.int .i64 0)), (.v (.string (strB [])))]), none⟩]) (.seq (.ops [⟨(some 6), (.move (.tmp 0)), none⟩, ⟨(some 7), (.call 186 [(.tmp 6), (.const (.int .i64 99))]), none⟩, ⟨(some 5), (.move (.tmp 7)), none⟩, ⟨(some 8), (.extract (.tmp 5) 0), none⟩, ⟨(some 9), (.extract (.tmp 5) 1), none⟩, ⟨(some 3), (.assign (.tmp 8)), none⟩, ⟨(some 4), (.assign (.tmp 9)), none⟩]) (.seq (.seq (.ops [⟨(some 10), (.move (.tmp 4)), none⟩, ⟨(some 11), (.un .not (.tmp 10)), none⟩]) (.cond (.tmp 11) (.seq (.ops [⟨(some 12), (.build [(.v (.int .i64 0)), (.v (.int .i64 0)), (.v (.string (strB [])))] []), none⟩, ⟨none, (.store 3 (.tmp 2) (.tmp 12)), none⟩]) .ret) .skip)) (.seq (.ops [⟨(some 13), (.move (.tmp 3)), none⟩, ⟨(some 14), (.build [(.v (.int .i64 0)), (.v (.int .i64 0)), (.v (.string (strB [])))] [(0, (1, (.const (.int .i64 5)))), (1, (1, (.tmp 13)))]), none⟩, ⟨none, (.store 3 (.tmp 2) (.tmp 14)), none⟩]) .ret)))), [(.loadN 3 (.tmp 2))]⟩
theorem k129 : cfun Tryz.prog 129 = some c129 := by kernel_rfl
def c130 : XFun := ⟨13, (.seq (.ops [⟨(some 2), (.alloc [(.v (.int .i64 0)), (.v (.int .i64 0)), (.v (.string (strB [])))]), none⟩]) (.seq (.seq (.ops [⟨(some 3), (.move (.tmp 0)), none⟩, ⟨(some 4), (.lenS (.tmp 3)), none⟩, ⟨(some 5), (.bin .neq (.tmp 4) (.const (.int .i64 5))), none⟩, ⟨(some 6), (.move (.tmp 5)), none⟩, ⟨(some 7), (.move (.tmp 0)), (some (6, false))⟩, ⟨(some 8), (.call 187 [(.tmp 7), (.func 188)]), (some (6, false))⟩, ⟨(some 9), (.pick (.tmp 6) (.const (.bool true)) (.tmp 8)), none⟩]) (.cond (.tmp 9) (.seq (.ops [⟨(some 10), (.build [(.v (.int .i64 0)), (.v (.int .i64 0)), (.v (.string (strB [])))] []), none⟩, ⟨none, (.store 3 (.tmp 2) (.tmp 10)), none⟩]) .ret) .skip)) (.seq (.ops [⟨(some 11), (.move (.tmp 0)), none⟩, ⟨(some 12), (.build [(.v (.int .i64 0)), (.v (.int .i64 0)), (.v (.string (strB [])))] [(0, (1, (.const (.int .i64 8)))), (2, (1, (.tmp 11)))]), none⟩, ⟨none, (.store 3 (.tmp 2) (.tmp 12)), none⟩]) .ret))), [(.loadN 3 (.tmp 2))]⟩
theorem k130 : cfun Tryz.prog 130 = some c130 := by kernel_rfl
def c131 : XFun := ⟨21, (.seq (.ops [⟨(some 4), (.alloc [(.v (.int .i64 0)), (.v (.int .i64 0)), (.v (.string (strB [])))]), none⟩]) (.seq (.seq (.ops [⟨(some 7), (.move (.tmp 1)), none⟩, ⟨(some 8), (.lenL (.tmp 7)), none⟩, ⟨(some 9), (.move (.const (.int .i64 0))), none⟩]) (.block 0 (.loop (.seq (.ops [⟨(some 10), (.bin .lss (.tmp 9) (.tmp 8)), none⟩]) (.seq (.cond (.tmp 10) .skip (.exit 0)) (.seq (.block 1 (.seq (.ops [⟨(some 11), (.iaddr 1 (.tmp 7) (.tmp 9)), none⟩, ⟨(some 12), (.load1 (.tmp 11)), none⟩, ⟨(some 6), (.assign (.tmp 12)), none⟩]) (.seq (.ops [⟨(some 13), (.move (.tmp 0)), none⟩, ⟨(some 14), (.move (.tmp 6)), none⟩, ⟨(some 15), (.call 189 [(.tmp 14)]), none⟩, ⟨(some 16), (.bin .eql (.tmp 13) (.tmp 15)), none⟩]) (.cond (.tmp 16) (.seq (.ops [⟨(some 17), (.move (.tmp 6)), none⟩, ⟨(some 18), (.build [(.v (.int .i64 0)), (.v (.int .i64 0)), (.v (.string (strB [])))] [(0, (1, (.tmp 17)))]), none⟩, ⟨none, (.store 3 (.tmp 4) (.tmp 18)), none⟩]) .ret) .skip)))) (.ops [⟨(some 19), (.bin .add (.tmp 9) (.const (.int .i64 1))), none⟩, ⟨(some 9), (.move (.tmp 19)), none⟩]))))))) (.seq (.ops [⟨(some 20), (.build [(.v (.int .i64 0)), (.v (.int .i64 0)), (.v (.string (strB [])))] []), none⟩, ⟨none, (.store 3 (.tmp 4) (.tmp 20)), none⟩]) .ret))), [(.loadN 3 (.tmp 4))]⟩
theorem k131 : cfun Tryz.prog 131 = some c131 := by kernel_rfl
def c189 : XFun := ⟨18, (.seq (.ops [⟨(some 2), (.assign (.const (.string (strB [])))), none⟩]) (.seq (.seq (.ops [⟨(some 3), (.move (.tmp 0)), none⟩]) (.block 0 (.seq (.ops [⟨(some 5), (.bin .eql (.tmp 3) (.const (.int .i64 2))), none⟩, ⟨(some 4), (.assign (.tmp 5)), none⟩]) (.cond (.tmp 4) (.seq (.ops [⟨(some 2), (.assign (.const (.string (strB [98, 101, 103, 105, 110])))), none⟩]) .ret) (.seq (.ops [⟨(some 7), (.bin .eql (.tmp 3) (.const (.int .i64 3))), none⟩, ⟨(some 6), (.assign (.tmp 7)), none⟩]) (.cond (.tmp 6) (.seq (.ops [⟨(some 2), (.assign (.const (.string (strB [99, 111, 109, 109, 105, 116])))), none⟩]) .ret) (.seq (.ops [⟨(some 9), (.bin .eql (.tmp 3) (.const (.int .i64 4))), none⟩, ⟨(some 8), (.assign (.tmp 9)), none⟩]) (.cond (.tmp 8) (.seq (.ops [⟨(some 2), (.assign (.const (.string (strB [114, 111, 108, 108, 98, 97, 99, 107])))), none⟩]) .ret) (.seq (.ops [⟨(some 11), (.bin .eql (.tmp 3) (.const (.int .i64 5))), none⟩, ⟨(some 10), (.assign (.tmp 11)), none⟩]) (.cond (.tmp 10) (.seq (.ops [⟨(some 2), (.assign (.const (.string (strB [115, 101, 108, 101, 99, 116, 32])))), none⟩]) .ret) (.seq (.ops [⟨(some 13), (.bin .eql (.tmp 3) (.const (.int .i64 6))), none⟩, ⟨(some 12), (.assign (.tmp 13)), none⟩]) (.cond (.tmp 12) (.seq (.ops [⟨(some 2), (.assign (.const (.string (strB [101, 99, 104, 111])))), none⟩]) .ret) (.seq (.ops [⟨(some 15), (.bin .eql (.tmp 3) (.const (.int .i64 7))), none⟩, ⟨(some 14), (.assign (.tmp 15)), none⟩]) (.cond (.tmp 14) (.seq (.ops [⟨(some 2), (.assign (.const (.string (strB [110, 101, 120, 116])))), none⟩]) .ret) (.seq (.ops [⟨(some 17), (.bin .eql (.tmp 3) (.const (.int .i64 8))), none⟩, ⟨(some 16), (.assign (.tmp 17)), none⟩]) (.cond (.tmp 16) (.seq (.ops [⟨(some 2), (.assign (.const (.string (strB [102, 97, 105, 108, 32])))), none⟩]) .ret) .skip)))))))))))))))) (.seq (.ops [⟨(some 2), (.assign (.const (.string (strB [])))), none⟩]) .ret))), [(.move (.tmp 2))]⟩
theorem k189 : cfun Tryz.prog 189 = some c189 := by kernel_rfl
def c132 : XFun := ⟨9, (.seq (.ops [⟨(some 2), (.box (.tmp 0)), none⟩, ⟨(some 4), (.assign (.const (.bool false))), none⟩]) (.seq (.ops [⟨(some 5), (.move (.tmp 1)), none⟩, ⟨(some 6), (.faddr 0 (.tmp 2)), none⟩, ⟨(some 7), (.load1 (.tmp 6)), none⟩, ⟨(some 8), (.call 190 [(.tmp 5), (.tmp 7)]), none⟩, ⟨(some 4), (.assign (.tmp 8)), none⟩]) .ret)), [(.move (.tmp 4))]⟩
theorem k132 : cfun Tryz.prog 132 = some c132 := by kernel_rfl
def c127 : XFun := ⟨43, (.seq (.ops [⟨(some 4), (.assign (.const (.string (strB [])))), none⟩]) (.seq (.seq (.ops [⟨(some 7), (.move (.tmp 0)), none⟩, ⟨(some 8), (.bin .eql (.tmp 7) (.const (.string (strB [])))), none⟩, ⟨(some 9), (.move (.tmp 8)), none⟩, ⟨(some 10), (.move (.tmp 1)), (some (9, false))⟩, ⟨(some 11), (.bin .eql (.tmp 10) (.const (.string (strB [])))), (some (9, false))⟩, ⟨(some 12), (.pick (.tmp 9) (.const (.bool true)) (.tmp 11)), none⟩]) (.cond (.tmp 12) (.seq (.ops [⟨(some 13), (.move (.tmp 0)), none⟩, ⟨(some 4), (.assign (.tmp 13)), none⟩]) .ret) .skip)) (.seq (.seq (.ops [⟨(some 14), (.move (.tmp 1)), none⟩, ⟨(some 15), (.lenS (.tmp 14)), none⟩, ⟨(some 16), (.bin .eql (.tmp 15) (.const (.int .i64 1))), none⟩, ⟨(some 17), (.move (.tmp 16)), none⟩, ⟨(some 18), (.move (.tmp 1)), (some (17, true))⟩, ⟨(some 19), (.idxS (.tmp 18) (.const (.int .i64 0))), (some (17, true))⟩, ⟨(some 20), (.bin .lss (.tmp 19) (.const (.int .u8 128))), (some (17, true))⟩, ⟨(some 21), (.pick (.tmp 17) (.tmp 20) (.const (.bool false))), none⟩]) (.cond (.tmp 21) (.seq (.draws (.take ⟨(some 22), (.move (.tmp 0)), none⟩ (.take ⟨(some 23), (.move (.tmp 1)), none⟩ (.take ⟨(some 24), (.idxS (.tmp 23) (.const (.int .i64 0))), none⟩ (.take ⟨(some 26), (.move (.tmp 1)), none⟩ (.take ⟨(some 27), (.idxS (.tmp 26) (.const (.int .i64 0))), none⟩ (.only ⟨(some 25), (.call 179 [(.tmp 22), (.tmp 24)]), none⟩ (.only ⟨(some 28), (.call 178 [(.tmp 25), (.tmp 27)]), none⟩ (.take ⟨(some 4), (.assign (.tmp 28)), none⟩ .done))))))))) .ret) .skip)) (.seq (.seq (.ops [⟨(some 30), (.move (.tmp 1)), none⟩, ⟨(some 31), (.call 180 [(.tmp 30)]), none⟩, ⟨(some 29), (.move (.tmp 31)), none⟩, ⟨(some 32), (.extract (.tmp 29) 0), none⟩, ⟨(some 33), (.extract (.tmp 29) 1), none⟩, ⟨(some 5), (.alloc [(.v (.bool false)), (.v (.bool false)), (.v (.bool false)), (.v (.bool false)), (.v (.bool false)), (.v (.bool false)), (.v (.bool false)), (.v (.bool false)), (.v (.bool false)), (.v (.bool false)), (.v (.bool false)), (.v (.bool false)), (.v (.bool false)), (.v (.bool false)), (.v (.bool false)), (.v (.bool false)), (.v (.bool false)), (.v (.bool false)), (.v (.bool false)), (.v (.bool false)), (.v (.bool false)), (.v (.bool false)), (.v (.bool false)), (.v (.bool false)), (.v (.bool false)), (.v (.bool false)), (.v (.bool false)), (.v (.bool false)), (.v (.bool false)), (.v (.bool false)), (.v (.bool false)), (.v (.bool false)), (.v (.bool false)), (.v (.bool false)), (.v (.bool false)), (.v (.bool false)), (.v (.bool false)), (.v (.bool false)), (.v (.bool false)), (.v (.bool false)), (.v (.bool false)), (.v (.bool false)), (.v (.bool false)), (.v (.bool false)), (.v (.bool false)), (.v (.bool false)), (.v (.bool false)), (.v (.bool false)), (.v (.bool false)), (.v (.bool false)), (.v (.bool false)), (.v (.bool false)), (.v (.bool false)), (.v (.bool false)), (.v (.bool false)), (.v (.bool false)), (.v (.bool false)), (.v (.bool false)), (.v (.bool false)), (.v (.bool false)), (.v (.bool false)), (.v (.bool false)), (.v (.bool false)), (.v (.bool false)), (.v (.bool false)), (.v (.bool false)), (.v (.bool false)), (.v (.bool false)), (.v (.bool false)), (.v (.bool false)), (.v (.bool false)), (.v (.bool false)), (.v (.bool false)), (.v (.bool false)), (.v (.bool false)), (.v (.bool false)), (.v (.bool false)), (.v (.bool false)), (.v (.bool false)), (.v (.bool false)), (.v (.bool false)), (.v (.bool false)), (.v (.bool false)), (.v (.bool false)), (.v (.bool false)), (.v (.bool false)), (.v (.bool false)), (.v (.bool false)), (.v (.bool false)), (.v (.bool false)), (.v (.bool false)), (.v (.bool false)), (.v (.bool false)), (.v (.bool false)), (.v (.bool false)), (.v (.bool false)), (.v (.bool false)), (.v (.bool false)), (.v (.bool false)), (.v (.bool false)), (.v (.bool false)), (.v (.bool false)), (.v (.bool false)), (.v (.bool false)), (.v (.bool false)), (.v (.bool false)), (.v (.bool false)), (.v (.bool false)), (.v (.bool false)), (.v (.bool false)), (.v (.bool false)), (.v (.bool false)), (.v (.bool false)), (.v (.bool false)), (.v (.bool false)), (.v (.bool false)), (.v (.bool false)), (.v (.bool false)), (.v (.bool false)), (.v (.bool false)), (.v (.bool false)), (.v (.bool false)), (.v (.bool false)), (.v (.bool false)), (.v (.bool false)), (.v (.bool false)), (.v (.bool false)), (.v (.bool false)), (.v (.bool false)), (.v (.bool false)), (.v (.bool false)), (.v (.bool false)), (.v (.bool false)), (.v (.bool false)), (.v (.bool false)), (.v (.bool false)), (.v (.bool false)), (.v (.bool false)), (.v (.bool false)), (.v (.bool false)), (.v (.bool false)), (.v (.bool false)), (.v (.bool false)), (.v (.bool false)), (.v (.bool false)), (.v (.bool false)), (.v (.bool false)), (.v (.bool false)), (.v (.bool false)), (.v (.bool false)), (.v (.bool false)), (.v (.bool false)), (.v (.bool false)), (.v (.bool false)), (.v (.bool false)), (.v (.bool false)), (.v (.bool false)), (.v (.bool false)), (.v (.bool false)), (.v (.bool false)), (.v (.bool false)), (.v (.bool false)), (.v (.bool false)), (.v (.bool false)), (.v (.bool false)), (.v (.bool false)), (.v (.bool false)), (.v (.bool false)), (.v (.bool false)), (.v (.bool false)), (.v (.bool false)), (.v (.bool false)), (.v (.bool false)), (.v (.bool false)), (.v (.bool false)), (.v (.bool false)), (.v (.bool false)), (.v (.bool false)), (.v (.bool false)), (.v (.bool false)), (.v (.bool false)), (.v (.bool false)), (.v (.bool false)), (.v (.bool false)), (.v (.bool false)), (.v (.bool false)), (.v (.bool false)), (.v (.bool false)), (.v (.bool false)), (.v (.bool false)), (.v (.bool false)), (.v (.bool false)), (.v (.bool false)), (.v (.bool false)), (.v (.bool false)), (.v (.bool false)), (.v (.bool false)), (.v (.bool false)), (.v (.bool false)), (.v (.bool false)), (.v (.bool false)), (.v (.bool false)), (.v (.bool false)), (.v (.bool false)), (.v (.bool false)), (.v (.bool false)), (.v (.bool false)), (.v (.bool false)), (.v (.bool false)), (.v (.bool false)), (.v (.bool false)), (.v (.bool false)), (.v (.bool false)), (.v (.bool false)), (.v (.bool false)), (.v (.bool false)), (.v (.bool false)), (.v (.bool false)), (.v (.bool false)), (.v (.bool false)), (.v (.bool false)), (.v (.bool false)), (.v (.bool false)), (.v (.bool false)), (.v (.bool false)), (.v (.bool false)), (.v (.bool false)), (.v (.bool false)), (.v (.bool false)), (.v (.bool false)), (.v (.bool false)), (.v (.bool false)), (.v (.bool false)), (.v (.bool false)), (.v (.bool false)), (.v (.bool false)), (.v (.bool false)), (.v (.bool false)), (.v (.bool false)), (.v (.bool false)), (.v (.bool false)), (.v (.bool false)), (.v (.bool false)), (.v (.bool false)), (.v (.bool false)), (.v (.bool false)), (.v (.bool false)), (.v (.bool false)), (.v (.bool false)), (.v (.bool false)), (.v (.bool false)), (.v (.bool false)), (.v (.bool false)), (.v (.bool false)), (.v (.bool false)), (.v (.bool false))]), none⟩, ⟨none, (.store 256 (.tmp 5) (.tmp 32)), none⟩, ⟨(some 6), (.assign (.tmp 33)), none⟩]) (.seq (.ops [⟨(some 34), (.move (.tmp 6)), none⟩]) (.cond (.tmp 34) (.seq (.ops [⟨(some 35), (.move (.tmp 0)), none⟩, ⟨(some 36), (.call 182 [(.tmp 35), (.tmp 5)]), none⟩, ⟨(some 37), (.call 181 [(.tmp 36), (.tmp 5)]), none⟩, ⟨(some 4), (.assign (.tmp 37)), none⟩]) .ret) .skip))) (.seq (.ops [⟨(some 38), (.move (.tmp 0)), none⟩, ⟨(some 39), (.move (.tmp 1)), none⟩, ⟨(some 40), (.call 184 [(.tmp 38), (.tmp 39)]), none⟩, ⟨(some 41), (.move (.tmp 1)), none⟩, ⟨(some 42), (.call 183 [(.tmp 40), (.tmp 41)]), none⟩, ⟨(some 4), (.assign (.tmp 42)), none⟩]) .ret))))), [(.move (.tmp 4))]⟩
theorem k127 : cfun Tryz.prog 127 = some c127 := by kernel_rfl
def c178 : XFun := ⟨17, (.seq (.ops [⟨(some 4), (.assign (.const (.string (strB [])))), none⟩]) (.seq (.block 0 (.loop (.seq (.seq (.ops [⟨(some 5), (.move (.tmp 0)), none⟩, ⟨(some 6), (.lenS (.tmp 5)), none⟩, ⟨(some 7), (.bin .gtr (.tmp 6) (.const (.int .i64 0))), none⟩, ⟨(some 8), (.move (.tmp 7)), none⟩, ⟨(some 9), (.move (.tmp 0)), (some (8, true))⟩, ⟨(some 10), (.idxS (.tmp 9) (.const (.int .i64 0))), (some (8, true))⟩, ⟨(some 11), (.move (.tmp 1)), (some (8, true))⟩, ⟨(some 12), (.bin .eql (.tmp 10) (.tmp 11)), (some (8, true))⟩, ⟨(some 13), (.pick (.tmp 8) (.tmp 12) (.const (.bool false))), none⟩]) (.cond (.tmp 13) .skip (.exit 0))) (.block 1 (.ops [⟨(some 14), (.move (.tmp 0)), none⟩, ⟨(some 15), (.sliceS (.tmp 14) (some (.const (.int .i64 1))) none), none⟩, ⟨(some 0), (.assign (.tmp 15)), none⟩]))))) (.seq (.ops [⟨(some 16), (.move (.tmp 0)), none⟩, ⟨(some 4), (.assign (.tmp 16)), none⟩]) .ret))), [(.move (.tmp 4))]⟩
theorem k178 : cfun Tryz.prog 178 = some c178 := by kernel_rfl
def c179 : XFun := ⟨23, (.seq (.ops [⟨(some 4), (.assign (.const (.string (strB [])))), none⟩]) (.seq (.block 0 (.loop (.seq (.seq (.ops [⟨(some 5), (.move (.tmp 0)), none⟩, ⟨(some 6), (.lenS (.tmp 5)), none⟩, ⟨(some 7), (.bin .gtr (.tmp 6) (.const (.int .i64 0))), none⟩, ⟨(some 8), (.move (.tmp 7)), none⟩, ⟨(some 9), (.move (.tmp 0)), (some (8, true))⟩, ⟨(some 10), (.move (.tmp 0)), (some (8, true))⟩, ⟨(some 11), (.lenS (.tmp 10)), (some (8, true))⟩, ⟨(some 12), (.bin .sub (.tmp 11) (.const (.int .i64 1))), (some (8, true))⟩, ⟨(some 13), (.idxS (.tmp 9) (.tmp 12)), (some (8, true))⟩, ⟨(some 14), (.move (.tmp 1)), (some (8, true))⟩, ⟨(some 15), (.bin .eql (.tmp 13) (.tmp 14)), (some (8, true))⟩, ⟨(some 16), (.pick (.tmp 8) (.tmp 15) (.const (.bool false))), none⟩]) (.cond (.tmp 16) .skip (.exit 0))) (.block 1 (.ops [⟨(some 17), (.move (.tmp 0)), none⟩, ⟨(some 18), (.move (.tmp 0)), none⟩, ⟨(some 19), (.lenS (.tmp 18)), none⟩, ⟨(some 20), (.bin .sub (.tmp 19) (.const (.int .i64 1))), none⟩, ⟨(some 21), (.sliceS (.tmp 17) none (some (.tmp 20))), none⟩, ⟨(some 0), (.assign (.tmp 21)), none⟩]))))) (.seq (.ops [⟨(some 22), (.move (.tmp 0)), none⟩, ⟨(some 4), (.assign (.tmp 22)), none⟩]) .ret))), [(.move (.tmp 4))]⟩
theorem k179 : cfun Tryz.prog 179 = some c179 := by kernel_rfl
def c187 : XFun := ⟨9, (.seq (.ops [⟨(some 4), (.assign (.const (.bool false))), none⟩]) (.seq (.ops [⟨(some 5), (.move (.tmp 0)), none⟩, ⟨(some 6), (.move (.tmp 1)), none⟩, ⟨(some 7), (.call 212 [(.tmp 5), (.tmp 6)]), none⟩, ⟨(some 8), (.bin .geq (.tmp 7) (.const (.int .i64 0))), none⟩, ⟨(some 4), (.assign (.tmp 8)), none⟩]) .ret)), [(.move (.tmp 4))]⟩
theorem k187 : cfun Tryz.prog 187 = some c187 := by kernel_rfl
def c212 : XFun := ⟨8, (.seq (.ops [⟨(some 4), (.assign (.const (.int .i64 0))), none⟩]) (.seq (.ops [⟨(some 5), (.move (.tmp 0)), none⟩, ⟨(some 6), (.move (.tmp 1)), none⟩, ⟨(some 7), (.call 220 [(.tmp 5), (.tmp 6), (.const (.bool true))]), none⟩, ⟨(some 4), (.assign (.tmp 7)), none⟩]) .ret)), [(.move (.tmp 4))]⟩
theorem k212 : cfun Tryz.prog 212 = some c212 := by kernel_rfl
end Go.Proofs.YtknohkmpficjgaaGreatDoor.Ax
namespace Go.Proofs.YtknohkmpficjgaaGreatDoor.Ax
set_option maxRecDepth 100000
open Go.RowKit Go By Dg
set_option maxRecDepth 10000
theorem byte32 {x : UInt8} : ((x.toNat : Int) = 32) ↔ x = 32 := by
 constructor
 ·intro e
  exact UInt8.toNat_inj.1 (by show x.toNat = 32; omega)
 ·intro e; subst e; rfl
theorem trimLeft_c (s : List UInt8) (hs : s.length <= 9223372036854775807) (h : List (List AV)) : Contract Tryz.prog 178 [.v (.string (strB s)), .v (.int .u8 32)] h (.v (.string (strB (ltrim s)))) h [] := by
 refine contract_of k178 mixed (by simp [c178]) fun hh hargs => ?_
 simp [c178]
 refine xloop_ok (D := List UInt8) (fun u => ⟨[(0, .v (.string (strB u))), (1, .v (.int .u8 32))], [], h, []⟩) (fun u => u.length <= s.length /\ ltrim u = ltrim s) (fun u => u.length) s ⟨Nat.le_refl _, rfl⟩ ?_ ?_
 ·simp [Leq, hh, leqH_take]
 ·rintro u ⟨hj, hl⟩
  cases u with
  | nil => simp [hh, <- hl, ltrim]
  | cons x t =>
   simp at hj
   by_cases e : x = 32
   ·have e3 : (0 : Int) <= (t.length : Int) := by omega
    simp [e, strB_cut, e3]
    refine ⟨by omega, t, ⟨by omega, ?_⟩, ?_⟩
    ·rw [<- hl, ltrim, if_pos e]
    ·simp [Leq, hh, leqH_take]
   ·have e4 : ((x.toNat : Int) == 32) = false := by
     rw [beq_eq_false_iff_ne]
     exact fun k => e (byte32.1 k)
    have e5 : ¬ (x.toNat : Int) = 32 := fun k => e (byte32.1 k)
    rw [ltrim, if_neg e] at hl
    simp [e4, e5, hh, <- hl]
theorem trimRight_c (s : List UInt8) (hs : s.length <= 9223372036854775807) (h : List (List AV)) : Contract Tryz.prog 179 [.v (.string (strB s)), .v (.int .u8 32)] h (.v (.string (strB (rtrim s)))) h [] := by
 refine contract_of k179 mixed (by simp [c179]) fun hh hargs => ?_
 simp [c179]
 refine xloop_ok (D := List UInt8) (fun u => ⟨[(0, .v (.string (strB u))), (1, .v (.int .u8 32))], [], h, []⟩) (fun u => u.length <= s.length /\ rtrim u = rtrim s) (fun u => u.length) s ⟨Nat.le_refl _, rfl⟩ ?_ ?_
 ·simp [Leq, hh, leqH_take]
 ·rintro u ⟨hj, hl⟩
  by_cases hu : u = []
  ·subst hu
   simp [hh, <- hl, rtrim]
  ·obtain ⟨v, x, rfl⟩ := snoc_of hu
   simp at hj
   have hw : IntKind.i64.wrap (v.length : Int) = (v.length : Int) := wrap64 (by omega) (by omega)
   by_cases e : x = 32
   ·simp [e, strB_cut, hw]
    refine ⟨by omega, by omega, v, ⟨by omega, ?_⟩, by omega, ?_⟩
    ·rw [<- hl, e, rtrim_snoc]
    ·simp [Leq, hh, leqH_take]
   ·have e4 : ((x.toNat : Int) == 32) = false := by
     rw [beq_eq_false_iff_ne]
     exact fun k => e (byte32.1 k)
    have e5 : ¬ (x.toNat : Int) = 32 := fun k => e (byte32.1 k)
    rw [rtrim_end v e] at hl
    simp [e4, e5, hh, <- hl, hw]
    omega
theorem trim_c (s : List UInt8) (hs : s.length <= 9223372036854775807) (h : List (List AV)) : Contract Tryz.prog 127 [.v (.string (strB s)), .v (.string (strB [32]))] h (.v (.string (strB (trimL s)))) h [] := by
 refine contract_of k127 mixed (by simp [c127]) fun hh hargs => ?_
 by_cases e : s = []
 ·subst e
  simp [c127, hh, trimL, ltrim, rtrim]
 ·have e0 : (s == []) = false := by simpa using e
  simp [c127, e, e0]
  refine xcall_self (by simp) (trimRight_c s hs _) ?_
  simp
  refine xcall_self (by simp) (trimLeft_c (rtrim s) (Nat.le_trans (rtrim_len s) hs) _) ?_
  simp [hh, trimL, trim_swap]
theorem all_next {p : UInt8 -> Bool} {s : List UInt8} {j : Nat} (hj : j < s.length) (h : (s.take j).all p = true) (e : p s[j] = true) : (s.take (j + 1)).all p = true := by
 rw [List.take_succ_eq_append_getElem hj, List.all_append, h]
 simp [e]
def runeNo (x : Nat) : Bool := !((decide (48 <= x) && decide (x <= 57)) || (decide (65 <= x) && decide (x <= 90)))
theorem notCode_any (x : Nat) (W : World) : Calls Tryz.prog 188 #[.int .i32 (x : Int)] W fun e w' => e = .returned (.bool (runeNo x)) /\ ∃ q, w' = W.drewN q := by
 have e : runeNo x = ((decide ((x : Int) < 48) || decide (57 < (x : Int))) && (decide ((x : Int) < 65) || decide (90 < (x : Int)))) := by
  unfold runeNo
  rw [Bool.eq_iff_iff]
  simp
  omega
 go_enter Tryz.func188, Tryz.ntmps188
 go_wp2
 all_goals go_ret
 all_goals exact ⟨by first | rfl | (rw [e]; simp; done) | (rw [e]; simp; omega) | (rw [e]; simp_all; omega) | (simp_all; omega), 0, rfl⟩
theorem indexFunc_c (s : List UInt8) (h : List (List AV)) : Contract Tryz.prog 220 [.v (.string (strB s)), .fn (.func 188) [] [], .v (.bool true)] h (.v (.int .i64 (Lib.idxFunc runeNo true (strB s)))) h [] :=
 contract_blank (by kernel_rfl) rfl fun G w vs _ hs => by
  obtain ⟨a, r, rfl, h1, h2⟩ := hs.split
  obtain ⟨b, r, rfl, h3, h4⟩ := h2.split
  obtain ⟨c, r, rfl, h5, h6⟩ := h4.split
  have hr : r = [] := List.eq_nil_of_length_eq_zero (by have := h6.1; simpa using this)
  rw [h1.inv_v, h5.inv_v, hr]
  cases h3 with
  | fn _ _ _ us vs l1 l2 _ _ =>
   have e1 : us = [] := List.eq_nil_of_length_eq_zero (by simpa using l1)
   have e2 : vs = [] := List.eq_nil_of_length_eq_zero (by simpa using l2)
   subst e1 e2
   refine (Tryz.strings_indexFunc 188 #[] (fun args W => run_enter (enters_ofB (by kernel_rfl)) args W) runeNo true (strB s) w fun W x _ => ?_).mono fun e w' he => ?_
   ·exact notCode_any x W
   ·exact ⟨_, he.1, .v _, he.2⟩
theorem decode_high (n b0 b1 b2 b3 : Nat) (h : 128 <= b0) : 128 <= (Lib.decodeN n b0 b1 b2 b3).1 := by
 unfold Lib.decodeN
 repeat' split
 all_goals (simp only; omega)
theorem decode_low (n b0 b1 b2 b3 : Nat) (h : b0 < 128) : Lib.decodeN n b0 b1 b2 b3 = (b0, 1) := by unfold Lib.decodeN; rw [if_pos h]
theorem strB_get (s : List UInt8) {j : Nat} (hj : j < s.length) : (strB s).get! j = s[j] := by
 show (strB s).data[j]! = s[j]
 have : (strB s).data = s.toArray := rfl
 rw [this]
 simp [hj]
theorem idx_has (s : List UInt8) : ∀ (f j : Nat), s.length <= j + f -> decide (0 <= Lib.idxFuncFrom runeNo true (strB s) f j) = !((s.drop j).all cdB)
 | 0, j, h => by
  have : s.drop j = [] := List.drop_eq_nil_of_le (by omega)
  rw [this]; rfl
 | f + 1, j, h => by
  unfold Lib.idxFuncFrom
  rw [strB_size]
  by_cases hj : j < s.length
  ·rw [if_pos hj, List.drop_eq_getElem_cons hj, List.all_cons, Lib.decode_at, strB_get s hj]
   by_cases hb : s[j].toNat < 128
   ·rw [decode_low _ _ _ _ _ hb]
    have e : runeNo s[j].toNat = !cdB s[j] := rfl
    simp only [e]
    cases hc : cdB s[j] with
    | true =>
     simp only [Bool.not_true, Bool.false_eq_true, if_false, Bool.true_and]
     exact idx_has s f (j + 1) (by omega)
    | false => simp
   ·have h1 := decode_high ((strB s).size - j) s[j].toNat ((strB s).get! (j + 1)).toNat ((strB s).get! (j + 2)).toNat ((strB s).get! (j + 3)).toNat (by omega)
    generalize Lib.decodeN ((strB s).size - j) s[j].toNat ((strB s).get! (j + 1)).toNat ((strB s).get! (j + 2)).toNat ((strB s).get! (j + 3)).toNat = q at h1 ⊢
    have e1 : runeNo q.1 = true := by unfold runeNo; simp; omega
    have e2 : cdB s[j] = false := by unfold cdB; simp; omega
    rw [e1, e2]
    simp
  ·have : s.drop j = [] := List.drop_eq_nil_of_le (by omega)
   rw [if_neg hj, this]; rfl
theorem containsF_c (s : List UInt8) (hs : s.length <= 9223372036854775807) (h : List (List AV)) : Contract Tryz.prog 187 [.v (.string (strB s)), .fn (.func 188) [] []] h (.v (.bool (!s.all cdB))) h [] := by
 have hi : Contract Tryz.prog 212 [.v (.string (strB s)), .fn (.func 188) [] []] h (.v (.int .i64 (Lib.idxFunc runeNo true (strB s)))) h [] := by
  refine contract_of k212 mixed (by simp [c212]) fun hh hargs => ?_
  simp [c212]
  refine xcall_self (by simp) (indexFunc_c s _) ?_
  simp [hh]
 have e := idx_has s s.length 0 (by omega)
 rw [List.drop_zero] at e
 have e : decide (0 <= Lib.idxFunc runeNo true (strB s)) = !s.all cdB := by rw [<- e]; unfold Lib.idxFunc; rw [strB_size]
 refine contract_of k187 mixed (by simp [c187]) fun hh hargs => ?_
 rw [<- e]
 simp [c187]
 refine xcall_self (by simp) hi ?_
 simp [hh]
end Go.Proofs.YtknohkmpficjgaaGreatDoor.Ax
