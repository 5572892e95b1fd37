/- Replies as clients get them, over values without memory: fix, the document's answer. -/
import Derived.Test.YthielckgianmgaaGreatDoorQAxHs
import Derived.Test.YthielckgianmgaaGreatDoorRows
import Derived.Test.YthielckgianmgaaGreatDoorQAxTg
import Derived.Test.YthielckgianmgaaGreatDoorQAxFt
import Derived.Test.YthielckgianmgaaGreatDoorQAxCy
import Derived.Test.YthielckgianmgaaGreatDoorQAxCi
/- The texts of functions over values without memory, as the kernel reckons them out of the program. -/
namespace Go.Proofs.YthielckgianmgaaGreatDoor.Ax
open Go.RowKit Go By

def c10 : XFun := ⟨26, (.seq (.ops [⟨(some 2), (.box (.tmp 0)), none⟩, ⟨(some 3), (.box (.tmp 1)), none⟩, ⟨(some 4), (.alloc [(.v (.int .u8 0)), (.v (.int .u8 0)), (.v (.string (strB []))), (.v (.string (strB []))), (.v (.string (strB []))), (.v (.int .i64 0)), (.v (.int .i64 0)), (.sl 0 [] (some true) .exact), (.sl 0 [] (some true) .exact), (.sl 0 [] (some true) .exact), (.sl 0 [] (some true) .exact)]), none⟩]) (.seq (.ops [⟨(some 5), (.loadN 11 (.tmp 3)), none⟩, ⟨(some 6), (.call 33 [(.tmp 5)]), none⟩, ⟨none, (.store 11 (.tmp 3) (.tmp 6)), none⟩]) (.seq (.seq (.ops [⟨(some 7), (.faddr 0 (.tmp 3)), none⟩, ⟨(some 8), (.load1 (.tmp 7)), none⟩, ⟨(some 9), (.bin .eql (.tmp 8) (.const (.int .u8 69))), none⟩, ⟨(some 10), (.move (.tmp 9)), none⟩, ⟨(some 11), (.faddr 2 (.tmp 2)), (some (10, true))⟩, ⟨(some 12), (.load1 (.tmp 11)), (some (10, true))⟩, ⟨(some 13), (.faddr 3 (.tmp 2)), (some (10, true))⟩, ⟨(some 14), (.load1 (.tmp 13)), (some (10, true))⟩, ⟨(some 15), (.bin .neq (.tmp 12) (.tmp 14)), (some (10, true))⟩, ⟨(some 16), (.pick (.tmp 10) (.tmp 15) (.const (.bool false))), none⟩]) (.cond (.tmp 16) (.ops [⟨(some 17), (.faddr 10 (.tmp 3)), none⟩, ⟨(some 18), (.load1 (.tmp 17)), none⟩, ⟨(some 19), (.faddr 2 (.tmp 2)), none⟩, ⟨(some 20), (.load1 (.tmp 19)), none⟩, ⟨(some 21), (.faddr 3 (.tmp 2)), none⟩, ⟨(some 22), (.load1 (.tmp 21)), none⟩, ⟨(some 23), (.call 34 [(.tmp 18), (.tmp 20), (.tmp 22)]), none⟩, ⟨(some 24), (.faddr 10 (.tmp 3)), none⟩, ⟨none, (.store 1 (.tmp 24) (.tmp 23)), none⟩]) .skip)) (.seq (.ops [⟨(some 25), (.loadN 11 (.tmp 3)), none⟩, ⟨none, (.store 11 (.tmp 4) (.tmp 25)), none⟩]) .ret)))), [(.loadN 11 (.tmp 4))]⟩
theorem k10 : cfun Tryz.prog 10 = some c10 := by kernel_rfl
def c13 : XFun := ⟨12, (.seq (.ops [⟨(some 2), (.box (.tmp 0)), none⟩, ⟨(some 3), (.box (.tmp 1)), none⟩, ⟨(some 4), (.assign (.const (.slice none 0 0))), none⟩]) (.seq (.seq (.ops [⟨(some 5), (.faddr 1 (.tmp 2)), none⟩, ⟨(some 6), (.load1 (.tmp 5)), none⟩]) (.cond (.tmp 6) (.seq (.ops [⟨(some 4), (.assign (.const (.slice none 0 0))), none⟩]) .ret) .skip)) (.seq (.ops [⟨(some 7), (.loadN 8 (.tmp 2)), none⟩, ⟨(some 8), (.loadN 11 (.tmp 3)), none⟩, ⟨(some 9), (.call 10 [(.tmp 7), (.tmp 8)]), none⟩, ⟨(some 10), (.buildSlice 11 1 [(.v (.int .u8 0)), (.v (.int .u8 0)), (.v (.string (strB []))), (.v (.string (strB []))), (.v (.string (strB []))), (.v (.int .i64 0)), (.v (.int .i64 0)), (.sl 0 [] (some true) .exact), (.sl 0 [] (some true) .exact), (.sl 0 [] (some true) .exact), (.sl 0 [] (some true) .exact)] [(0, (.tmp 9))]), none⟩, ⟨(some 11), (.call 38 [(.tmp 10)]), none⟩, ⟨(some 4), (.assign (.tmp 11)), none⟩]) .ret))), [(.move (.tmp 4))]⟩
theorem k13 : cfun Tryz.prog 13 = some c13 := by kernel_rfl
def c34 : XFun := ⟨35, (.seq (.ops [⟨(some 6), (.assign (.const (.slice none 0 0))), none⟩]) (.seq (.ops [⟨(some 12), (.move (.tmp 0)), none⟩, ⟨(some 13), (.call 16 [(.tmp 12), (.const (.int .u8 67))]), none⟩, ⟨(some 11), (.move (.tmp 13)), none⟩, ⟨(some 14), (.extract (.tmp 11) 0), none⟩, ⟨(some 15), (.extract (.tmp 11) 1), none⟩, ⟨(some 7), (.assign (.tmp 14)), none⟩, ⟨(some 8), (.assign (.tmp 15)), none⟩]) (.seq (.ops [⟨(some 17), (.move (.tmp 0)), none⟩, ⟨(some 18), (.call 16 [(.tmp 17), (.const (.int .u8 77))]), none⟩, ⟨(some 16), (.move (.tmp 18)), none⟩, ⟨(some 19), (.extract (.tmp 16) 0), none⟩, ⟨(some 20), (.extract (.tmp 16) 1), none⟩, ⟨(some 9), (.assign (.tmp 19)), none⟩, ⟨(some 10), (.assign (.tmp 20)), none⟩]) (.seq (.seq (.ops [⟨(some 21), (.move (.tmp 8)), none⟩, ⟨(some 22), (.un .not (.tmp 21)), none⟩, ⟨(some 23), (.move (.tmp 22)), none⟩, ⟨(some 24), (.move (.tmp 10)), (some (23, false))⟩, ⟨(some 25), (.un .not (.tmp 24)), (some (23, false))⟩, ⟨(some 26), (.pick (.tmp 23) (.const (.bool true)) (.tmp 25)), none⟩]) (.cond (.tmp 26) (.seq (.ops [⟨(some 27), (.move (.tmp 0)), none⟩, ⟨(some 6), (.assign (.tmp 27)), none⟩]) .ret) .skip)) (.seq (.ops [⟨(some 28), (.move (.tmp 0)), none⟩, ⟨(some 29), (.move (.tmp 7)), none⟩, ⟨(some 30), (.move (.tmp 9)), none⟩, ⟨(some 31), (.move (.tmp 1)), none⟩, ⟨(some 32), (.move (.tmp 2)), none⟩, ⟨(some 33), (.call 58 [(.tmp 29), (.tmp 30), (.tmp 31), (.tmp 32)]), none⟩, ⟨(some 34), (.call 57 [(.tmp 28), (.const (.int .u8 77)), (.tmp 33)]), none⟩, ⟨(some 6), (.assign (.tmp 34)), none⟩]) .ret))))), [(.move (.tmp 6))]⟩
theorem k34 : cfun Tryz.prog 34 = some c34 := by kernel_rfl
def c33 : XFun := ⟨20, (.seq (.ops [⟨(some 1), (.box (.tmp 0)), none⟩, ⟨(some 2), (.alloc [(.v (.int .u8 0)), (.v (.int .u8 0)), (.v (.string (strB []))), (.v (.string (strB []))), (.v (.string (strB []))), (.v (.int .i64 0)), (.v (.int .i64 0)), (.sl 0 [] (some true) .exact), (.sl 0 [] (some true) .exact), (.sl 0 [] (some true) .exact), (.sl 0 [] (some true) .exact)]), none⟩]) (.seq (.ops [⟨(some 3), (.faddr 7 (.tmp 1)), none⟩, ⟨(some 4), (.load1 (.tmp 3)), none⟩, ⟨(some 5), (.call 53 [(.tmp 4)]), none⟩, ⟨(some 6), (.faddr 7 (.tmp 1)), none⟩, ⟨none, (.store 1 (.tmp 6) (.tmp 5)), none⟩]) (.seq (.ops [⟨(some 7), (.faddr 8 (.tmp 1)), none⟩, ⟨(some 8), (.load1 (.tmp 7)), none⟩, ⟨(some 9), (.call 54 [(.tmp 8)]), none⟩, ⟨(some 10), (.faddr 8 (.tmp 1)), none⟩, ⟨none, (.store 1 (.tmp 10) (.tmp 9)), none⟩]) (.seq (.ops [⟨(some 11), (.faddr 9 (.tmp 1)), none⟩, ⟨(some 12), (.load1 (.tmp 11)), none⟩, ⟨(some 13), (.call 55 [(.tmp 12)]), none⟩, ⟨(some 14), (.faddr 9 (.tmp 1)), none⟩, ⟨none, (.store 1 (.tmp 14) (.tmp 13)), none⟩]) (.seq (.ops [⟨(some 15), (.faddr 10 (.tmp 1)), none⟩, ⟨(some 16), (.load1 (.tmp 15)), none⟩, ⟨(some 17), (.call 56 [(.tmp 16)]), none⟩, ⟨(some 18), (.faddr 10 (.tmp 1)), none⟩, ⟨none, (.store 1 (.tmp 18) (.tmp 17)), none⟩]) (.seq (.ops [⟨(some 19), (.loadN 11 (.tmp 1)), none⟩, ⟨none, (.store 11 (.tmp 2) (.tmp 19)), none⟩]) .ret)))))), [(.loadN 11 (.tmp 2))]⟩
theorem k33 : cfun Tryz.prog 33 = some c33 := by kernel_rfl
def c54 : XFun := ⟨8, (.seq (.ops [⟨(some 2), (.assign (.const (.slice none 0 0))), none⟩]) (.seq (.seq (.ops [⟨(some 3), (.move (.tmp 0)), none⟩, ⟨(some 4), (.nileq false (.tmp 3)), none⟩]) (.cond (.tmp 4) (.seq (.ops [⟨(some 2), (.assign (.const (.slice none 0 0))), none⟩]) .ret) .skip)) (.seq (.ops [⟨(some 5), (.emptyS 7), none⟩, ⟨(some 6), (.move (.tmp 0)), none⟩, ⟨(some 7), (.append 7 64 (.tmp 5) (.tmp 6)), none⟩, ⟨(some 2), (.assign (.tmp 7)), none⟩]) .ret))), [(.move (.tmp 2))]⟩
theorem k54 : cfun Tryz.prog 54 = some c54 := by kernel_rfl
def c8 : XFun := ⟨29, (.seq (.ops [⟨(some 0), (.assign (.const (.bool false))), none⟩]) (.seq (.ops [⟨(some 5), (.build [(.v (.int .i64 0)), (.v (.bool false)), (.v (.string (strB []))), (.v (.string (strB []))), (.sl 0 [] (some true) .exact), (.sl 0 [] (some true) .exact), (.sl 0 [] (some true) .exact), (.sl 0 [] (some true) .exact)] [(2, (1, (.const (.string (strB [95, 110, 111, 110, 101]))))), (3, (1, (.const (.string (strB [97])))))]), none⟩, ⟨(some 1), (.alloc [(.v (.int .i64 0)), (.v (.bool false)), (.v (.string (strB []))), (.v (.string (strB []))), (.sl 0 [] (some true) .exact), (.sl 0 [] (some true) .exact), (.sl 0 [] (some true) .exact), (.sl 0 [] (some true) .exact)]), none⟩, ⟨none, (.store 8 (.tmp 1) (.tmp 5)), none⟩]) (.seq (.draws (.take ⟨(some 6), (.loadN 8 (.tmp 1)), none⟩ (.two ⟨(some 7), (.call 18 [(.const (.string (strB [95, 110, 111, 110, 101])))]), none⟩ ⟨(some 2), (.alloc [(.v (.int .u8 0)), (.v (.int .u8 0)), (.v (.string (strB []))), (.v (.string (strB []))), (.v (.string (strB []))), (.v (.int .i64 0)), (.v (.int .i64 0)), (.sl 0 [] (some true) .exact), (.sl 0 [] (some true) .exact), (.sl 0 [] (some true) .exact), (.sl 0 [] (some true) .exact)]), none⟩ (.two ⟨(some 8), (.call 17 [(.const (.string (strB [50, 54, 48, 48, 48]))), (.tmp 7)]), none⟩ ⟨(some 2), (.alloc [(.v (.int .u8 0)), (.v (.int .u8 0)), (.v (.string (strB []))), (.v (.string (strB []))), (.v (.string (strB []))), (.v (.int .i64 0)), (.v (.int .i64 0)), (.sl 0 [] (some true) .exact), (.sl 0 [] (some true) .exact), (.sl 0 [] (some true) .exact), (.sl 0 [] (some true) .exact)]), none⟩ (.two ⟨(some 9), (.call 10 [(.tmp 6), (.tmp 8)]), none⟩ ⟨(some 2), (.alloc [(.v (.int .u8 0)), (.v (.int .u8 0)), (.v (.string (strB []))), (.v (.string (strB []))), (.v (.string (strB []))), (.v (.int .i64 0)), (.v (.int .i64 0)), (.sl 0 [] (some true) .exact), (.sl 0 [] (some true) .exact), (.sl 0 [] (some true) .exact), (.sl 0 [] (some true) .exact)]), none⟩ (.only ⟨(some 2), (.alloc [(.v (.int .u8 0)), (.v (.int .u8 0)), (.v (.string (strB []))), (.v (.string (strB []))), (.v (.string (strB []))), (.v (.int .i64 0)), (.v (.int .i64 0)), (.sl 0 [] (some true) .exact), (.sl 0 [] (some true) .exact), (.sl 0 [] (some true) .exact), (.sl 0 [] (some true) .exact)]), none⟩ (.last ⟨none, (.store 11 (.tmp 2) (.tmp 9)), none⟩)) (.only ⟨(some 9), (.call 10 [(.tmp 6), (.tmp 8)]), none⟩ (.last ⟨none, (.store 11 (.tmp 2) (.tmp 9)), none⟩))) (.only ⟨(some 8), (.call 17 [(.const (.string (strB [50, 54, 48, 48, 48]))), (.tmp 7)]), none⟩ (.only ⟨(some 9), (.call 10 [(.tmp 6), (.tmp 8)]), none⟩ (.last ⟨none, (.store 11 (.tmp 2) (.tmp 9)), none⟩)))) (.only ⟨(some 7), (.call 18 [(.const (.string (strB [95, 110, 111, 110, 101])))]), none⟩ (.only ⟨(some 8), (.call 17 [(.const (.string (strB [50, 54, 48, 48, 48]))), (.tmp 7)]), none⟩ (.only ⟨(some 9), (.call 10 [(.tmp 6), (.tmp 8)]), none⟩ (.last ⟨none, (.store 11 (.tmp 2) (.tmp 9)), none⟩))))))) (.seq (.ops [⟨(some 11), (.faddr 10 (.tmp 2)), none⟩, ⟨(some 12), (.load1 (.tmp 11)), none⟩, ⟨(some 13), (.call 16 [(.tmp 12), (.const (.int .u8 77))]), none⟩, ⟨(some 10), (.move (.tmp 13)), none⟩, ⟨(some 14), (.extract (.tmp 10) 0), none⟩, ⟨(some 15), (.extract (.tmp 10) 1), none⟩, ⟨(some 3), (.assign (.tmp 14)), none⟩, ⟨(some 4), (.assign (.tmp 15)), none⟩]) (.seq (.ops [⟨(some 16), (.move (.tmp 4)), none⟩, ⟨(some 17), (.move (.tmp 16)), none⟩, ⟨(some 18), (.move (.tmp 3)), (some (17, true))⟩, ⟨(some 19), (.call 18 [(.const (.string (strB [97])))]), (some (17, true))⟩, ⟨(some 20), (.bin .eql (.tmp 18) (.tmp 19)), (some (17, true))⟩, ⟨(some 21), (.pick (.tmp 17) (.tmp 20) (.const (.bool false))), none⟩, ⟨(some 22), (.move (.tmp 21)), none⟩, ⟨(some 23), (.loadN 8 (.tmp 1)), (some (22, true))⟩, ⟨(some 24), (.loadN 11 (.tmp 2)), (some (22, true))⟩, ⟨(some 25), (.call 13 [(.tmp 23), (.tmp 24)]), (some (22, true))⟩, ⟨(some 26), (.lenL (.tmp 25)), (some (22, true))⟩, ⟨(some 27), (.bin .gtr (.tmp 26) (.const (.int .i64 10))), (some (22, true))⟩, ⟨(some 28), (.pick (.tmp 22) (.tmp 27) (.const (.bool false))), none⟩, ⟨(some 0), (.assign (.tmp 28)), none⟩]) .ret))))), [(.move (.tmp 0))]⟩
theorem k8 : cfun Tryz.prog 8 = some c8 := by kernel_rfl
def c3 : XFun := ⟨34, (.seq (.ops [⟨(some 2), (.box (.tmp 0)), none⟩, ⟨(some 3), (.box (.tmp 1)), none⟩, ⟨(some 4), (.assign (.const (.bool false))), none⟩]) (.seq (.seq (.ops [⟨(some 5), (.loadN 8 (.tmp 2)), none⟩, ⟨(some 6), (.buildSlice 8 1 [(.v (.int .i64 0)), (.v (.bool false)), (.v (.string (strB []))), (.v (.string (strB []))), (.sl 0 [] (some true) .exact), (.sl 0 [] (some true) .exact), (.sl 0 [] (some true) .exact), (.sl 0 [] (some true) .exact)] [(0, (.tmp 5))]), none⟩, ⟨(some 7), (.call 6 [(.tmp 6), (.const (.int .i64 1))]), none⟩, ⟨(some 8), (.un .not (.tmp 7)), none⟩, ⟨(some 9), (.move (.tmp 8)), none⟩, ⟨(some 10), (.loadN 11 (.tmp 3)), (some (9, false))⟩, ⟨(some 11), (.call 7 [(.tmp 10)]), (some (9, false))⟩, ⟨(some 12), (.un .not (.tmp 11)), (some (9, false))⟩, ⟨(some 13), (.pick (.tmp 9) (.const (.bool true)) (.tmp 12)), none⟩]) (.cond (.tmp 13) (.seq (.ops [⟨(some 14), (.call 8 []), none⟩, ⟨(some 4), (.assign (.tmp 14)), none⟩]) .ret) .skip)) (.seq (.draws (.take ⟨(some 15), (.loadN 8 (.tmp 2)), none⟩ (.take ⟨(some 16), (.loadN 11 (.tmp 3)), none⟩ (.take ⟨(some 18), (.loadN 8 (.tmp 2)), none⟩ (.take ⟨(some 19), (.loadN 11 (.tmp 3)), none⟩ (.only ⟨(some 17), (.call 10 [(.tmp 15), (.tmp 16)]), none⟩ (.only ⟨(some 20), (.call 11 [(.tmp 18), (.tmp 19)]), none⟩ (.only ⟨(some 21), (.call 9 [(.tmp 17), (.tmp 20)]), none⟩ (.take ⟨(some 22), (.move (.tmp 21)), none⟩ (.take ⟨(some 23), (.loadN 8 (.tmp 2)), (some (22, true))⟩ (.take ⟨(some 24), (.loadN 11 (.tmp 3)), (some (22, true))⟩ (.take ⟨(some 26), (.loadN 8 (.tmp 2)), (some (22, true))⟩ (.take ⟨(some 27), (.loadN 11 (.tmp 3)), (some (22, true))⟩ (.only ⟨(some 25), (.call 13 [(.tmp 23), (.tmp 24)]), (some (22, true))⟩ (.only ⟨(some 28), (.call 14 [(.tmp 26), (.tmp 27)]), (some (22, true))⟩ (.only ⟨(some 29), (.call 12 [(.tmp 25), (.tmp 28)]), (some (22, true))⟩ (.take ⟨(some 30), (.pick (.tmp 22) (.tmp 29) (.const (.bool false))), none⟩ (.take ⟨(some 31), (.move (.tmp 30)), none⟩ (.only ⟨(some 32), (.call 8 []), (some (31, true))⟩ (.take ⟨(some 33), (.pick (.tmp 31) (.tmp 32) (.const (.bool false))), none⟩ (.take ⟨(some 4), (.assign (.tmp 33)), none⟩ .done))))))))))))))))))))) .ret))), [(.move (.tmp 4))]⟩
theorem k3 : cfun Tryz.prog 3 = some c3 := by kernel_rfl
def c4 : XFun := ⟨51, (.seq (.ops [⟨(some 2), (.box (.tmp 0)), none⟩, ⟨(some 3), (.box (.tmp 1)), none⟩, ⟨(some 4), (.assign (.const (.bool false))), none⟩]) (.seq (.seq (.ops [⟨(some 5), (.loadN 8 (.tmp 2)), none⟩, ⟨(some 6), (.buildSlice 8 1 [(.v (.int .i64 0)), (.v (.bool false)), (.v (.string (strB []))), (.v (.string (strB []))), (.sl 0 [] (some true) .exact), (.sl 0 [] (some true) .exact), (.sl 0 [] (some true) .exact), (.sl 0 [] (some true) .exact)] [(0, (.tmp 5))]), none⟩, ⟨(some 7), (.call 6 [(.tmp 6), (.const (.int .i64 1))]), none⟩, ⟨(some 8), (.un .not (.tmp 7)), none⟩, ⟨(some 9), (.move (.tmp 8)), none⟩, ⟨(some 10), (.loadN 11 (.tmp 3)), (some (9, false))⟩, ⟨(some 11), (.call 7 [(.tmp 10)]), (some (9, false))⟩, ⟨(some 12), (.un .not (.tmp 11)), (some (9, false))⟩, ⟨(some 13), (.pick (.tmp 9) (.const (.bool true)) (.tmp 12)), none⟩]) (.cond (.tmp 13) (.seq (.ops [⟨(some 14), (.call 8 []), none⟩, ⟨(some 4), (.assign (.tmp 14)), none⟩]) .ret) .skip)) (.seq (.seq (.draws (.take ⟨(some 15), (.faddr 0 (.tmp 3)), none⟩ (.take ⟨(some 16), (.load1 (.tmp 15)), none⟩ (.take ⟨(some 17), (.bin .neq (.tmp 16) (.const (.int .u8 69))), none⟩ (.take ⟨(some 18), (.move (.tmp 17)), none⟩ (.take ⟨(some 19), (.faddr 2 (.tmp 2)), (some (18, false))⟩ (.take ⟨(some 20), (.load1 (.tmp 19)), (some (18, false))⟩ (.take ⟨(some 21), (.faddr 3 (.tmp 2)), (some (18, false))⟩ (.take ⟨(some 22), (.load1 (.tmp 21)), (some (18, false))⟩ (.take ⟨(some 23), (.bin .eql (.tmp 20) (.tmp 22)), (some (18, false))⟩ (.take ⟨(some 24), (.pick (.tmp 18) (.const (.bool true)) (.tmp 23)), none⟩ (.take ⟨(some 25), (.move (.tmp 24)), none⟩ (.take ⟨(some 26), (.loadN 8 (.tmp 2)), (some (25, true))⟩ (.take ⟨(some 27), (.loadN 11 (.tmp 3)), (some (25, true))⟩ (.take ⟨(some 29), (.loadN 11 (.tmp 3)), (some (25, true))⟩ (.only ⟨(some 28), (.call 10 [(.tmp 26), (.tmp 27)]), (some (25, true))⟩ (.only ⟨(some 30), (.call 15 [(.tmp 28), (.tmp 29)]), (some (25, true))⟩ (.take ⟨(some 31), (.un .not (.tmp 30)), (some (25, true))⟩ (.take ⟨(some 32), (.pick (.tmp 25) (.tmp 31) (.const (.bool false))), none⟩ .done))))))))))))))))))) (.cond (.tmp 32) (.seq (.ops [⟨(some 4), (.assign (.const (.bool false))), none⟩]) .ret) .skip)) (.seq (.ops [⟨(some 33), (.faddr 1 (.tmp 2)), none⟩, ⟨none, (.store 1 (.tmp 33) (.const (.bool true))), none⟩]) (.seq (.draws (.take ⟨(some 34), (.loadN 8 (.tmp 2)), none⟩ (.take ⟨(some 35), (.loadN 11 (.tmp 3)), none⟩ (.only ⟨(some 36), (.call 13 [(.tmp 34), (.tmp 35)]), none⟩ (.take ⟨(some 37), (.lenL (.tmp 36)), none⟩ (.take ⟨(some 38), (.bin .eql (.tmp 37) (.const (.int .i64 0))), none⟩ (.take ⟨(some 39), (.move (.tmp 38)), none⟩ (.take ⟨(some 40), (.loadN 8 (.tmp 2)), (some (39, true))⟩ (.take ⟨(some 41), (.loadN 11 (.tmp 3)), (some (39, true))⟩ (.take ⟨(some 44), (.faddr 0 (.tmp 3)), (some (39, true))⟩ (.take ⟨(some 45), (.load1 (.tmp 44)), (some (39, true))⟩ (.only ⟨(some 42), (.call 10 [(.tmp 40), (.tmp 41)]), (some (39, true))⟩ (.take ⟨(some 43), (.fld 1 true 0 (.tmp 42)), (some (39, true))⟩ (.take ⟨(some 46), (.bin .eql (.tmp 43) (.tmp 45)), (some (39, true))⟩ (.take ⟨(some 47), (.pick (.tmp 39) (.tmp 46) (.const (.bool false))), none⟩ (.take ⟨(some 48), (.move (.tmp 47)), none⟩ (.only ⟨(some 49), (.call 8 []), (some (48, true))⟩ (.take ⟨(some 50), (.pick (.tmp 48) (.tmp 49) (.const (.bool false))), none⟩ (.take ⟨(some 4), (.assign (.tmp 50)), none⟩ .done))))))))))))))))))) .ret))))), [(.move (.tmp 4))]⟩
theorem k4 : cfun Tryz.prog 4 = some c4 := by kernel_rfl
def c5 : XFun := ⟨85, (.seq (.ops [⟨(some 8), (.assign (.const (.bool false))), none⟩]) (.seq (.seq (.ops [⟨(some 16), (.move (.tmp 0)), none⟩, ⟨(some 17), (.lenS (.tmp 16)), none⟩, ⟨(some 18), (.bin .gtr (.tmp 17) (.const (.int .i64 300))), none⟩, ⟨(some 19), (.move (.tmp 18)), none⟩, ⟨(some 20), (.move (.tmp 1)), (some (19, false))⟩, ⟨(some 21), (.lenS (.tmp 20)), (some (19, false))⟩, ⟨(some 22), (.bin .gtr (.tmp 21) (.const (.int .i64 300))), (some (19, false))⟩, ⟨(some 23), (.pick (.tmp 19) (.const (.bool true)) (.tmp 22)), none⟩]) (.cond (.tmp 23) (.seq (.ops [⟨(some 24), (.call 8 []), none⟩, ⟨(some 8), (.assign (.tmp 24)), none⟩]) .ret) .skip)) (.seq (.ops [⟨(some 25), (.move (.tmp 0)), none⟩, ⟨(some 26), (.move (.tmp 1)), none⟩, ⟨(some 27), (.build [(.v (.int .i64 0)), (.v (.bool false)), (.v (.string (strB []))), (.v (.string (strB []))), (.sl 0 [] (some true) .exact), (.sl 0 [] (some true) .exact), (.sl 0 [] (some true) .exact), (.sl 0 [] (some true) .exact)] [(2, (1, (.tmp 25))), (3, (1, (.tmp 26)))]), none⟩, ⟨(some 9), (.alloc [(.v (.int .i64 0)), (.v (.bool false)), (.v (.string (strB []))), (.v (.string (strB []))), (.sl 0 [] (some true) .exact), (.sl 0 [] (some true) .exact), (.sl 0 [] (some true) .exact), (.sl 0 [] (some true) .exact)]), none⟩, ⟨none, (.store 8 (.tmp 9) (.tmp 27)), none⟩]) (.seq (.draws (.take ⟨(some 29), (.loadN 8 (.tmp 9)), none⟩ (.take ⟨(some 30), (.move (.tmp 0)), none⟩ (.only ⟨(some 31), (.call 18 [(.tmp 30)]), none⟩ (.only ⟨(some 32), (.call 17 [(.const (.string (strB [50, 54, 48, 48, 48]))), (.tmp 31)]), none⟩ (.only ⟨(some 33), (.call 10 [(.tmp 29), (.tmp 32)]), none⟩ (.take ⟨(some 34), (.fld 1 true 10 (.tmp 33)), none⟩ (.only ⟨(some 35), (.call 16 [(.tmp 34), (.const (.int .u8 77))]), none⟩ (.take ⟨(some 28), (.move (.tmp 35)), none⟩ (.take ⟨(some 36), (.extract (.tmp 28) 0), none⟩ (.take ⟨(some 37), (.extract (.tmp 28) 1), none⟩ (.take ⟨(some 10), (.assign (.tmp 36)), none⟩ (.take ⟨(some 11), (.assign (.tmp 37)), none⟩ .done))))))))))))) (.seq (.draws (.take ⟨(some 39), (.loadN 8 (.tmp 9)), none⟩ (.take ⟨(some 40), (.move (.tmp 0)), none⟩ (.only ⟨(some 41), (.call 19 [(.tmp 40)]), none⟩ (.only ⟨(some 42), (.call 17 [(.const (.string (strB [52, 50, 80, 48, 53]))), (.tmp 41)]), none⟩ (.only ⟨(some 43), (.call 10 [(.tmp 39), (.tmp 42)]), none⟩ (.take ⟨(some 44), (.fld 1 true 10 (.tmp 43)), none⟩ (.only ⟨(some 45), (.call 16 [(.tmp 44), (.const (.int .u8 77))]), none⟩ (.take ⟨(some 38), (.move (.tmp 45)), none⟩ (.take ⟨(some 46), (.extract (.tmp 38) 0), none⟩ (.take ⟨(some 47), (.extract (.tmp 38) 1), none⟩ (.take ⟨(some 12), (.assign (.tmp 46)), none⟩ (.take ⟨(some 13), (.assign (.tmp 47)), none⟩ .done))))))))))))) (.seq (.draws (.take ⟨(some 49), (.loadN 8 (.tmp 9)), none⟩ (.take ⟨(some 50), (.move (.tmp 2)), none⟩ (.take ⟨(some 51), (.conv .i64 (.tmp 50)), none⟩ (.take ⟨(some 52), (.move (.tmp 0)), none⟩ (.take ⟨(some 53), (.move (.tmp 3)), none⟩ (.take ⟨(some 54), (.conv .i64 (.tmp 53)), none⟩ (.only ⟨(some 55), (.call 20 [(.tmp 51), (.tmp 52), (.tmp 54)]), none⟩ (.only ⟨(some 56), (.call 17 [(.const (.string (strB [48, 56, 80, 48, 49]))), (.tmp 55)]), none⟩ (.only ⟨(some 57), (.call 10 [(.tmp 49), (.tmp 56)]), none⟩ (.take ⟨(some 58), (.fld 1 true 10 (.tmp 57)), none⟩ (.only ⟨(some 59), (.call 16 [(.tmp 58), (.const (.int .u8 77))]), none⟩ (.take ⟨(some 48), (.move (.tmp 59)), none⟩ (.take ⟨(some 60), (.extract (.tmp 48) 0), none⟩ (.take ⟨(some 61), (.extract (.tmp 48) 1), none⟩ (.take ⟨(some 14), (.assign (.tmp 60)), none⟩ (.take ⟨(some 15), (.assign (.tmp 61)), none⟩ .done))))))))))))))))) (.seq (.ops [⟨(some 62), (.move (.tmp 10)), none⟩, ⟨(some 63), (.move (.tmp 1)), none⟩, ⟨(some 64), (.call 18 [(.tmp 63)]), none⟩, ⟨(some 65), (.bin .eql (.tmp 62) (.tmp 64)), none⟩, ⟨(some 66), (.move (.tmp 65)), none⟩, ⟨(some 67), (.move (.tmp 12)), (some (66, true))⟩, ⟨(some 68), (.move (.tmp 1)), (some (66, true))⟩, ⟨(some 69), (.call 19 [(.tmp 68)]), (some (66, true))⟩, ⟨(some 70), (.bin .eql (.tmp 67) (.tmp 69)), (some (66, true))⟩, ⟨(some 71), (.pick (.tmp 66) (.tmp 70) (.const (.bool false))), none⟩, ⟨(some 72), (.move (.tmp 71)), none⟩, ⟨(some 73), (.move (.tmp 14)), (some (72, true))⟩, ⟨(some 74), (.move (.tmp 2)), (some (72, true))⟩, ⟨(some 75), (.conv .i64 (.tmp 74)), (some (72, true))⟩, ⟨(some 76), (.move (.tmp 1)), (some (72, true))⟩, ⟨(some 77), (.move (.tmp 3)), (some (72, true))⟩, ⟨(some 78), (.conv .i64 (.tmp 77)), (some (72, true))⟩, ⟨(some 79), (.call 20 [(.tmp 75), (.tmp 76), (.tmp 78)]), (some (72, true))⟩, ⟨(some 80), (.bin .eql (.tmp 73) (.tmp 79)), (some (72, true))⟩, ⟨(some 81), (.pick (.tmp 72) (.tmp 80) (.const (.bool false))), none⟩, ⟨(some 82), (.move (.tmp 81)), none⟩, ⟨(some 83), (.call 8 []), (some (82, true))⟩, ⟨(some 84), (.pick (.tmp 82) (.tmp 83) (.const (.bool false))), none⟩, ⟨(some 8), (.assign (.tmp 84)), none⟩]) .ret))))))), [(.move (.tmp 8))]⟩
theorem k5 : cfun Tryz.prog 5 = some c5 := by kernel_rfl
end Go.Proofs.YthielckgianmgaaGreatDoor.Ax
namespace Go.Proofs.YthielckgianmgaaGreatDoor.Ax
open Go.RowKit Go By Sc Dg
set_option linter.unusedSimpArgs false
set_option linter.unusedVariables false
set_option maxRecDepth 10000

/-! ### Names in texts -/
def renQ (code text a b : List UInt8) : List UInt8 := if code = [50, 54, 48, 48, 48] then ren26 text a b else if code = [52, 50, 80, 48, 53] then ren42 text a b else if code = [48, 56, 80, 48, 49] then ren08 text a b else text
theorem trename_c (code text a b : List UInt8) (ht : text.length ≤ 10000) (ha : a.length ≤ 10000) (hb : b.length ≤ 10000) (h : List (List AV)) : Contract Tryz.prog 58 [.v (.string (strB code)), .v (.string (strB text)), .v (.string (strB a)), .v (.string (strB b))] h (.v (.string (strB (renQ code text a b)))) h [] := by
  unfold renQ
  by_cases e1 : code = [50, 54, 48, 48, 48]
  · rw [if_pos e1, e1]; exact trename26_c text a b (by omega) (by omega) h
  rw [if_neg e1]
  by_cases e2 : code = [52, 50, 80, 48, 53]
  · rw [if_pos e2, e2]; exact trename42_c text a b (by omega) (by omega) h
  rw [if_neg e2]
  by_cases e3 : code = [48, 56, 80, 48, 49]
  · rw [if_pos e3, e3]; exact trename08_c text a b ht ha hb h
  rw [if_neg e3]
  exact trename_no_c code text a b e1 e2 e3 h
theorem rep1_len (s old new : List UInt8) : (rep1 s old new).length ≤ s.length + new.length := by
  unfold rep1
  split
  · omega
  · simp only [List.length_append, List.length_take, List.length_drop]
    omega
theorem stmt_len (s : List UInt8) : (missL s).length ≤ s.length + 100 ∧ (existL s).length ≤ s.length + 100 := by
  have q := quote_len s
  constructor
  · unfold missL
    split <;> simp [unnamedT, stmtL, notT, stmtT, q] <;> omega
  · simp [existL, stmtL, stmtT, alreadyT, q]
theorem renQ_len (code text a b : List UInt8) : (renQ code text a b).length ≤ text.length + b.length + 100 := by
  have h1 := stmt_len b
  have h2 := req_len b
  unfold renQ ren26 ren42 ren08
  repeat' split
  all_goals first | omega | skip
  have := rep1_len text (reqL a) (reqL b)
  omega
def renF (l : List Fi) (a b : List UInt8) : List Fi := if ((getF l 67).2 && (getF l 77).2) = true then withF l 77 (renQ (getF l 67).1 (getF l 77).1 a b) else l
def shortF (l : List Fi) (n : Nat) : Prop := ∀ f ∈ l, f.text.length ≤ n
theorem getF_len {l : List Fi} {n : Nat} (h : shortF l n) (c : Int) : (getF l c).1.length ≤ n := by
  unfold getF
  split
  · rename_i f hf
    exact h f (List.mem_of_find?_eq_some hf)
  · simp
theorem withF_mem {l : List Fi} {c : Int} {t : List UInt8} {f : Fi} (h : f ∈ withF l c t) : f ∈ l ∨ f = ⟨c, t⟩ := by
  unfold withF at h
  split at h
  · exact (List.mem_or_eq_of_mem_set h)
  · exact .inl h
theorem fixrenamed_c (l : List Fi) (a b : List UInt8) (hl : l.length ≤ 1000000) (hs : shortF l 10000) (ha : a.length ≤ 10000) (hb : b.length ≤ 10000) (h : List (List AV)) : Contract Tryz.prog 34 [.sl 2 (enc fiC l) none .no, .v (.string (strB a)), .v (.string (strB b))] h (.sl 2 (enc fiC (renF l a b)) none .no) h [] := by
  refine contract_of k34 mixed (by simp [c34]) fun hh hargs => ?_
  simp [c34]
  refine xcall_self (by simp) (fget_c l 67 (by omega) _) ?_
  simp
  refine xcall_self (by simp) (fget_c l 77 (by omega) _) ?_
  unfold renF
  have ht := getF_len hs 77
  generalize getF l 67 = p at *
  generalize getF l 77 = q at *
  obtain ⟨p1, p2⟩ := p
  obtain ⟨q1, q2⟩ := q
  cases p2 with
  | false => simp [hh]
  | true =>
    cases q2 with
    | false => simp [hh]
    | true =>
      simp
      refine xcall_self (by simp) (trename_c p1 q1 a b ht ha hb _) ?_
      simp
      refine xcall_self (by simp) (fwith_c l 77 _ hl _) ?_
      simp [hh]

/-! ### Copies -/
theorem clonecol_c (l : List Co) (hl : l.length ≤ 1000000) (h : List (List AV)) : Contract Tryz.prog 54 [.sl 7 (enc coC l) none .no] h (.sl 7 (enc coC l) none .no) h [] := by
  refine contract_nul (pre := []) (post := []) (fun he => ?_) ?_
  · have : l = [] := by cases l with | nil => rfl | cons _ _ => simp [enc] at he
    subst this
    refine contract_of k54 mixed (by simp [c54]) fun hh hargs => ?_
    simp [c54, hh, enc]
  · refine contract_of k54 mixed (by simp [c54]) fun hh hargs => ?_
    simp [c54, hh]
    refine xappendA_own ?_
    simp [hh]
    omega
theorem clonefield_c (l : List Fi) (hl : l.length ≤ 1000000) (h : List (List AV)) : Contract Tryz.prog 56 [.sl 2 (enc fiC l) none .no] h (.sl 2 (enc fiC l) none .no) h [] := by
  refine contract_nul (pre := []) (post := []) (fun he => ?_) ?_
  · have : l = [] := by cases l with | nil => rfl | cons _ _ => simp [enc] at he
    subst this
    refine contract_of k56 mixed (by simp [c56]) fun hh hargs => ?_
    simp [c56, hh, enc]
  · refine contract_of k56 mixed (by simp [c56]) fun hh hargs => ?_
    simp [c56, hh]
    refine xappendA_own ?_
    simp [hh]
    omega
def BkMid (b : Bk) : Prop := b.oids.length ≤ 1000 ∧ b.cols.length ≤ 1000 ∧ b.row.length ≤ 1000 ∧ b.fields.length ≤ 1000 ∧ (∀ c ∈ b.row, c.2.length ≤ 1000) ∧ shortF b.fields 3000
theorem fixcopied_c (b : Bk) (hm : BkMid b) (h : List (List AV)) : Contract Tryz.prog 33 [.agg (bkC b)] h (.agg (bkC b)) h [] := by
  obtain ⟨m1, m2, m3, m4, m5, m6⟩ := hm
  refine contract_of k33 mixed (by simp [c33]) fun hh hargs => ?_
  simp [c33]
  refine xcall_self (by simp) (jclone_c b.oids (by omega) _) ?_
  simp
  refine xcall_self (by simp) (clonecol_c b.cols (by omega) _) ?_
  simp
  refine xcall_self (by simp) (copyCells_c b.row (by omega) (fun c hc => by have := m5 c hc; omega) _) ?_
  simp
  refine xcall_self (by simp) (clonefield_c b.fields (by omega) _) ?_
  simp [hh, bkC_mk, leqH_take]
end Go.Proofs.YthielckgianmgaaGreatDoor.Ax
