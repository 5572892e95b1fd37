import Derived.Test.YtknohkmpficjgaaGreatDoorQAxXr
import Derived.Test.YtknohkmpficjgaaGreatDoorRows
import Derived.Test.YtknohkmpficjgaaGreatDoorQAxSw
import Derived.Test.YtknohkmpficjgaaGreatDoorQAxTe
import Derived.Test.YtknohkmpficjgaaGreatDoorQAxKc
set_option linter.unusedSimpArgs false
set_option linter.unusedVariables false
namespace Go.Proofs.YtknohkmpficjgaaGreatDoor.Ax
open Go.RowKit Go By
def c8 : XFun := ⟨8, (.seq (.ops [⟨(some 2), (.assign (.const (.pointer none))), none⟩]) (.seq (.ops [⟨(some 3), (.move (.tmp 0)), none⟩, ⟨(some 4), (.makeMap 2 false), none⟩, ⟨(some 5), (.call 21 []), none⟩, ⟨(some 6), (.build [(.v (.pointer none)), (.v (.map none)), (.v (.pointer none)), (.v (.int .u8 0)), (.v (.bool false)), (.v (.bool false))] [(0, (1, (.tmp 3))), (1, (1, (.tmp 4))), (2, (1, (.tmp 5))), (3, (1, (.const (.int .u8 73))))]), none⟩, ⟨(some 7), (.box (.tmp 6)), none⟩, ⟨(some 2), (.assign (.tmp 7)), none⟩]) .ret)), [(.move (.tmp 2))]⟩
theorem k8 : cfun Tryz.prog 8 = some c8 := by kernel_rfl
def c10 : XFun := ⟨49, (.seq (.ops [⟨(some 3), (.box (.tmp 1)), none⟩, ⟨(some 4), (.assign (.const (.slice none 0 0))), none⟩]) (.seq (.seq (.ops [⟨(some 7), (.move (.tmp 0)), none⟩, ⟨(some 8), (.faddr 0 (.tmp 3)), none⟩, ⟨(some 9), (.load1 (.tmp 8)), none⟩, ⟨(some 10), (.call 22 [(.tmp 7), (.tmp 9)]), none⟩, ⟨(some 11), (.un .not (.tmp 10)), none⟩]) (.cond (.tmp 11) (.seq (.ops [⟨(some 4), (.assign (.const (.slice none 0 0))), none⟩]) .ret) .skip)) (.seq (.seq (.ops [⟨(some 12), (.faddr 0 (.tmp 3)), none⟩, ⟨(some 13), (.load1 (.tmp 12)), none⟩]) (.block 0 (.seq (.ops [⟨(some 15), (.bin .eql (.tmp 13) (.const (.int .u8 83))), none⟩, ⟨(some 14), (.assign (.tmp 15)), none⟩]) (.cond (.tmp 14) (.seq (.ops [⟨(some 16), (.move (.tmp 0)), none⟩, ⟨(some 17), (.nilCheck (.tmp 16)), none⟩, ⟨(some 18), (.faddr 4 (.tmp 17)), none⟩, ⟨none, (.store 1 (.tmp 18) (.const (.bool false))), none⟩]) (.seq (.ops [⟨(some 19), (.move (.tmp 0)), none⟩, ⟨(some 20), (.call 23 [(.tmp 19)]), none⟩, ⟨(some 21), (.buildSlice 11 1 [(.v (.int .u8 0)), (.v (.int .u8 0)), (.v (.string (strB []))), (.v (.string (strB []))), (.v (.string (strB []))), (.v (.int .i64 0)), (.v (.int .i64 0)), (.sl 0 [] (some true) .exact), (.sl 0 [] (some true) .exact), (.sl 0 [] (some true) .exact), (.sl 0 [] (some true) .exact)] [(0, (.tmp 20))]), none⟩, ⟨(some 4), (.assign (.tmp 21)), none⟩]) .ret)) (.seq (.ops [⟨(some 23), (.bin .eql (.tmp 13) (.const (.int .u8 88))), none⟩, ⟨(some 22), (.assign (.tmp 23)), none⟩]) (.cond (.tmp 22) (.seq (.ops [⟨(some 24), (.move (.tmp 0)), none⟩, ⟨(some 25), (.nilCheck (.tmp 24)), none⟩, ⟨(some 26), (.faddr 5 (.tmp 25)), none⟩, ⟨none, (.store 1 (.tmp 26) (.const (.bool true))), none⟩]) (.seq (.ops [⟨(some 4), (.assign (.const (.slice none 0 0))), none⟩]) .ret)) (.seq (.ops [⟨(some 28), (.bin .eql (.tmp 13) (.const (.int .u8 81))), none⟩, ⟨(some 27), (.assign (.tmp 28)), none⟩]) (.cond (.tmp 27) (.seq (.ops [⟨(some 29), (.move (.tmp 0)), none⟩, ⟨(some 30), (.faddr 4 (.tmp 3)), none⟩, ⟨(some 31), (.load1 (.tmp 30)), none⟩, ⟨(some 32), (.call 24 [(.tmp 29), (.tmp 31)]), none⟩, ⟨(some 4), (.assign (.tmp 32)), none⟩]) .ret) .skip)))))))) (.seq (.ops [⟨(some 34), (.move (.tmp 0)), none⟩, ⟨(some 35), (.loadN 10 (.tmp 3)), none⟩, ⟨(some 36), (.call 25 [(.tmp 34), (.tmp 35)]), none⟩, ⟨(some 33), (.move (.tmp 36)), none⟩, ⟨(some 37), (.extract (.tmp 33) 0), none⟩, ⟨(some 38), (.extract (.tmp 33) 1), none⟩, ⟨(some 5), (.assign (.tmp 37)), none⟩, ⟨(some 6), (.assign (.tmp 38)), none⟩]) (.seq (.ops [⟨(some 39), (.move (.tmp 0)), none⟩, ⟨(some 40), (.move (.tmp 6)), none⟩, ⟨(some 41), (.inileq true (.tmp 40)), none⟩, ⟨(some 42), (.nilCheck (.tmp 39)), none⟩, ⟨(some 43), (.faddr 4 (.tmp 42)), none⟩, ⟨none, (.store 1 (.tmp 43) (.tmp 41)), none⟩]) (.seq (.ops [⟨(some 44), (.move (.tmp 5)), none⟩, ⟨(some 45), (.move (.tmp 0)), none⟩, ⟨(some 46), (.move (.tmp 6)), none⟩, ⟨(some 47), (.call 26 [(.tmp 45), (.tmp 46)]), none⟩, ⟨(some 48), (.append 11 168 (.tmp 44) (.tmp 47)), none⟩, ⟨(some 4), (.assign (.tmp 48)), none⟩]) .ret)))))), [(.move (.tmp 4))]⟩
theorem k10 : cfun Tryz.prog 10 = some c10 := by kernel_rfl
def c11 : XFun := ⟨11, (.seq (.ops [⟨(some 2), (.assign (.const (.bool false))), none⟩]) (.seq (.ops [⟨(some 3), (.move (.tmp 0)), none⟩, ⟨(some 4), (.pnileq true (.tmp 3)), none⟩, ⟨(some 5), (.move (.tmp 4)), none⟩, ⟨(some 6), (.move (.tmp 0)), (some (5, true))⟩, ⟨(some 7), (.nilCheck (.tmp 6)), (some (5, true))⟩, ⟨(some 8), (.faddr 4 (.tmp 7)), (some (5, true))⟩, ⟨(some 9), (.load1 (.tmp 8)), (some (5, true))⟩, ⟨(some 10), (.pick (.tmp 5) (.tmp 9) (.const (.bool false))), none⟩, ⟨(some 2), (.assign (.tmp 10)), none⟩]) .ret)), [(.move (.tmp 2))]⟩
theorem k11 : cfun Tryz.prog 11 = some c11 := by kernel_rfl
def c12 : XFun := ⟨11, (.seq (.ops [⟨(some 2), (.assign (.const (.bool false))), none⟩]) (.seq (.ops [⟨(some 3), (.move (.tmp 0)), none⟩, ⟨(some 4), (.pnileq true (.tmp 3)), none⟩, ⟨(some 5), (.move (.tmp 4)), none⟩, ⟨(some 6), (.move (.tmp 0)), (some (5, true))⟩, ⟨(some 7), (.nilCheck (.tmp 6)), (some (5, true))⟩, ⟨(some 8), (.faddr 5 (.tmp 7)), (some (5, true))⟩, ⟨(some 9), (.load1 (.tmp 8)), (some (5, true))⟩, ⟨(some 10), (.pick (.tmp 5) (.tmp 9) (.const (.bool false))), none⟩, ⟨(some 2), (.assign (.tmp 10)), none⟩]) .ret)), [(.move (.tmp 2))]⟩
theorem k12 : cfun Tryz.prog 12 = some c12 := by kernel_rfl
def c13 : XFun := ⟨23, (.seq (.ops [⟨(some 2), (.assign (.const (.slice none 0 0))), none⟩]) (.seq (.seq (.ops [⟨(some 5), (.move (.tmp 0)), none⟩, ⟨(some 6), (.pnileq false (.tmp 5)), none⟩]) (.cond (.tmp 6) (.seq (.ops [⟨(some 2), (.assign (.const (.slice none 0 0))), none⟩]) .ret) .skip)) (.seq (.ops [⟨(some 3), (.assign (.const (.slice none 0 0))), none⟩]) (.seq (.seq (.ops [⟨(some 7), (.move (.tmp 0)), none⟩, ⟨(some 8), (.nilCheck (.tmp 7)), none⟩, ⟨(some 9), (.faddr 1 (.tmp 8)), none⟩, ⟨(some 10), (.load1 (.tmp 9)), none⟩, ⟨(some 11), (.rangeM 2 false (.tmp 10)), none⟩]) (.block 0 (.loop (.seq (.nexts (some 12) (.tmp 11) [⟨(some 13), (.extract (.tmp 12) 0), none⟩]) (.seq (.cond (.tmp 13) .skip (.exit 0)) (.block 1 (.seq (.ops [⟨(some 14), (.entry (.tmp 11)), none⟩, ⟨(some 15), (.extract (.tmp 14) 0), none⟩, ⟨(some 4), (.assign (.tmp 15)), none⟩]) (.ops [⟨(some 16), (.move (.tmp 3)), none⟩, ⟨(some 17), (.move (.tmp 4)), none⟩, ⟨(some 18), (.buildSlice 1 1 [(.v (.string (strB [])))] [(0, (.tmp 17))]), none⟩, ⟨(some 19), (.append 1 16 (.tmp 16) (.tmp 18)), none⟩, ⟨(some 3), (.assign (.tmp 19)), none⟩])))))))) (.seq (.sortr 3 20 (some 21) 27) (.seq (.ops [⟨(some 22), (.move (.tmp 3)), none⟩, ⟨(some 2), (.assign (.tmp 22)), none⟩]) .ret)))))), [(.move (.tmp 2))]⟩
theorem k13 : cfun Tryz.prog 13 = some c13 := by kernel_rfl
def c14 : XFun := ⟨9, (.seq (.ops [⟨(some 2), (.assign (.const (.int .u8 0))), none⟩]) (.seq (.seq (.ops [⟨(some 3), (.move (.tmp 0)), none⟩, ⟨(some 4), (.pnileq false (.tmp 3)), none⟩]) (.cond (.tmp 4) (.seq (.ops [⟨(some 2), (.assign (.const (.int .u8 0))), none⟩]) .ret) .skip)) (.seq (.ops [⟨(some 5), (.move (.tmp 0)), none⟩, ⟨(some 6), (.nilCheck (.tmp 5)), none⟩, ⟨(some 7), (.faddr 3 (.tmp 6)), none⟩, ⟨(some 8), (.load1 (.tmp 7)), none⟩, ⟨(some 2), (.assign (.tmp 8)), none⟩]) .ret))), [(.move (.tmp 2))]⟩
theorem k14 : cfun Tryz.prog 14 = some c14 := by kernel_rfl
def c22 : XFun := ⟨32, (.seq (.ops [⟨(some 4), (.assign (.const (.bool false))), none⟩]) (.seq (.block 0 (.seq (.ops [⟨(some 6), (.move (.tmp 0)), none⟩, ⟨(some 7), (.pnileq false (.tmp 6)), none⟩, ⟨(some 8), (.move (.tmp 7)), none⟩, ⟨(some 9), (.move (.tmp 0)), (some (8, false))⟩, ⟨(some 10), (.nilCheck (.tmp 9)), (some (8, false))⟩, ⟨(some 11), (.faddr 0 (.tmp 10)), (some (8, false))⟩, ⟨(some 12), (.load1 (.tmp 11)), (some (8, false))⟩, ⟨(some 13), (.pnileq false (.tmp 12)), (some (8, false))⟩, ⟨(some 14), (.pick (.tmp 8) (.const (.bool true)) (.tmp 13)), none⟩, ⟨(some 15), (.move (.tmp 14)), none⟩, ⟨(some 16), (.move (.tmp 0)), (some (15, false))⟩, ⟨(some 17), (.nilCheck (.tmp 16)), (some (15, false))⟩, ⟨(some 18), (.faddr 5 (.tmp 17)), (some (15, false))⟩, ⟨(some 19), (.load1 (.tmp 18)), (some (15, false))⟩, ⟨(some 20), (.pick (.tmp 15) (.const (.bool true)) (.tmp 19)), none⟩, ⟨(some 5), (.assign (.tmp 20)), none⟩]) (.cond (.tmp 5) (.seq (.ops [⟨(some 4), (.assign (.const (.bool false))), none⟩]) .ret) (.seq (.ops [⟨(some 22), (.move (.tmp 0)), none⟩, ⟨(some 23), (.nilCheck (.tmp 22)), none⟩, ⟨(some 24), (.faddr 4 (.tmp 23)), none⟩, ⟨(some 25), (.load1 (.tmp 24)), none⟩, ⟨(some 21), (.assign (.tmp 25)), none⟩]) (.cond (.tmp 21) (.seq (.ops [⟨(some 26), (.move (.tmp 1)), none⟩, ⟨(some 27), (.bin .eql (.tmp 26) (.const (.int .u8 83))), none⟩, ⟨(some 28), (.move (.tmp 27)), none⟩, ⟨(some 29), (.move (.tmp 1)), (some (28, false))⟩, ⟨(some 30), (.bin .eql (.tmp 29) (.const (.int .u8 88))), (some (28, false))⟩, ⟨(some 31), (.pick (.tmp 28) (.const (.bool true)) (.tmp 30)), none⟩, ⟨(some 4), (.assign (.tmp 31)), none⟩]) .ret) .skip))))) (.seq (.ops [⟨(some 4), (.assign (.const (.bool true))), none⟩]) .ret))), [(.move (.tmp 4))]⟩
theorem k22 : cfun Tryz.prog 22 = some c22 := by kernel_rfl
def c23 : XFun := ⟨18, (.seq (.ops [⟨(some 2), (.alloc [(.v (.int .u8 0)), (.v (.int .u8 0)), (.v (.string (strB []))), (.v (.string (strB []))), (.v (.string (strB []))), (.v (.int .i64 0)), (.v (.int .i64 0)), (.sl 0 [] (some true) .exact), (.sl 0 [] (some true) .exact), (.sl 0 [] (some true) .exact), (.sl 0 [] (some true) .exact)]), none⟩]) (.seq (.seq (.ops [⟨(some 3), (.move (.tmp 0)), none⟩, ⟨(some 4), (.nilCheck (.tmp 3)), none⟩, ⟨(some 5), (.faddr 3 (.tmp 4)), none⟩, ⟨(some 6), (.load1 (.tmp 5)), none⟩, ⟨(some 7), (.bin .eql (.tmp 6) (.const (.int .u8 73))), none⟩]) (.cond (.tmp 7) (.ops [⟨(some 8), (.move (.tmp 0)), none⟩, ⟨(some 9), (.nilCheck (.tmp 8)), none⟩, ⟨(some 10), (.faddr 2 (.tmp 9)), none⟩, ⟨(some 11), (.load1 (.tmp 10)), none⟩, ⟨(some 12), (.call 40 [(.tmp 11)]), none⟩]) .skip)) (.seq (.ops [⟨(some 13), (.move (.tmp 0)), none⟩, ⟨(some 14), (.nilCheck (.tmp 13)), none⟩, ⟨(some 15), (.faddr 3 (.tmp 14)), none⟩, ⟨(some 16), (.load1 (.tmp 15)), none⟩, ⟨(some 17), (.build [(.v (.int .u8 0)), (.v (.int .u8 0)), (.v (.string (strB []))), (.v (.string (strB []))), (.v (.string (strB []))), (.v (.int .i64 0)), (.v (.int .i64 0)), (.sl 0 [] (some true) .exact), (.sl 0 [] (some true) .exact), (.sl 0 [] (some true) .exact), (.sl 0 [] (some true) .exact)] [(0, (1, (.const (.int .u8 90)))), (1, (1, (.tmp 16)))]), none⟩, ⟨none, (.store 11 (.tmp 2) (.tmp 17)), none⟩]) .ret))), [(.loadN 11 (.tmp 2))]⟩
theorem k23 : cfun Tryz.prog 23 = some c23 := by kernel_rfl
def c24 : XFun := ⟨32, (.seq (.ops [⟨(some 4), (.assign (.const (.slice none 0 0))), none⟩]) (.seq (.ops [⟨(some 7), (.move (.tmp 0)), none⟩, ⟨(some 8), (.nilCheck (.tmp 7)), none⟩, ⟨(some 9), (.faddr 1 (.tmp 8)), none⟩, ⟨(some 10), (.load1 (.tmp 9)), none⟩, ⟨none, (.mapDel none 2 false (.tmp 10) (.const (.string (strB [])))), none⟩]) (.seq (.ops [⟨(some 11), (.move (.tmp 0)), none⟩, ⟨(some 12), (.nilCheck (.tmp 11)), none⟩, ⟨(some 13), (.faddr 2 (.tmp 12)), none⟩, ⟨(some 14), (.load1 (.tmp 13)), none⟩, ⟨(some 15), (.call 41 [(.tmp 14), (.const (.string (strB [])))]), none⟩]) (.seq (.ops [⟨(some 17), (.move (.tmp 0)), none⟩, ⟨(some 18), (.move (.tmp 1)), none⟩, ⟨(some 19), (.call 42 [(.tmp 17), (.tmp 18)]), none⟩, ⟨(some 16), (.move (.tmp 19)), none⟩, ⟨(some 20), (.extract (.tmp 16) 0), none⟩, ⟨(some 21), (.extract (.tmp 16) 1), none⟩, ⟨(some 5), (.assign (.tmp 20)), none⟩, ⟨(some 6), (.assign (.tmp 21)), none⟩]) (.seq (.ops [⟨(some 22), (.move (.tmp 5)), none⟩, ⟨(some 23), (.move (.tmp 0)), none⟩, ⟨(some 24), (.move (.tmp 6)), none⟩, ⟨(some 25), (.call 26 [(.tmp 23), (.tmp 24)]), none⟩, ⟨(some 26), (.append 11 168 (.tmp 22) (.tmp 25)), none⟩, ⟨(some 5), (.assign (.tmp 26)), none⟩]) (.seq (.ops [⟨(some 27), (.move (.tmp 5)), none⟩, ⟨(some 28), (.move (.tmp 0)), none⟩, ⟨(some 29), (.call 23 [(.tmp 28)]), none⟩, ⟨(some 30), (.buildSlice 11 1 [(.v (.int .u8 0)), (.v (.int .u8 0)), (.v (.string (strB []))), (.v (.string (strB []))), (.v (.string (strB []))), (.v (.int .i64 0)), (.v (.int .i64 0)), (.sl 0 [] (some true) .exact), (.sl 0 [] (some true) .exact), (.sl 0 [] (some true) .exact), (.sl 0 [] (some true) .exact)] [(0, (.tmp 29))]), none⟩, ⟨(some 31), (.append 11 168 (.tmp 27) (.tmp 30)), none⟩, ⟨(some 4), (.assign (.tmp 31)), none⟩]) .ret)))))), [(.move (.tmp 4))]⟩
theorem k24 : cfun Tryz.prog 24 = some c24 := by kernel_rfl
def c25 : XFun := ⟨44, (.seq (.ops [⟨(some 3), (.box (.tmp 1)), none⟩, ⟨(some 4), (.assign (.const (.slice none 0 0))), none⟩, ⟨(some 5), (.assign (.const .nilIface)), none⟩]) (.seq (.seq (.ops [⟨(some 6), (.faddr 0 (.tmp 3)), none⟩, ⟨(some 7), (.load1 (.tmp 6)), none⟩]) (.block 0 (.seq (.ops [⟨(some 9), (.bin .eql (.tmp 7) (.const (.int .u8 80))), none⟩, ⟨(some 8), (.assign (.tmp 9)), none⟩]) (.cond (.tmp 8) (.seq (.ops [⟨(some 10), (.move (.tmp 0)), none⟩, ⟨(some 11), (.loadN 10 (.tmp 3)), none⟩, ⟨(some 12), (.call 43 [(.tmp 10), (.tmp 11)]), none⟩, ⟨(some 13), (.extract (.tmp 12) 0), none⟩, ⟨(some 14), (.extract (.tmp 12) 1), none⟩, ⟨(some 4), (.assign (.tmp 13)), none⟩, ⟨(some 5), (.assign (.tmp 14)), none⟩]) .ret) (.seq (.ops [⟨(some 16), (.bin .eql (.tmp 7) (.const (.int .u8 66))), none⟩, ⟨(some 15), (.assign (.tmp 16)), none⟩]) (.cond (.tmp 15) (.seq (.ops [⟨(some 17), (.move (.tmp 0)), none⟩, ⟨(some 18), (.loadN 10 (.tmp 3)), none⟩, ⟨(some 19), (.call 44 [(.tmp 17), (.tmp 18)]), none⟩, ⟨(some 20), (.extract (.tmp 19) 0), none⟩, ⟨(some 21), (.extract (.tmp 19) 1), none⟩, ⟨(some 4), (.assign (.tmp 20)), none⟩, ⟨(some 5), (.assign (.tmp 21)), none⟩]) .ret) (.seq (.ops [⟨(some 23), (.bin .eql (.tmp 7) (.const (.int .u8 68))), none⟩, ⟨(some 22), (.assign (.tmp 23)), none⟩]) (.cond (.tmp 22) (.seq (.ops [⟨(some 24), (.move (.tmp 0)), none⟩, ⟨(some 25), (.loadN 10 (.tmp 3)), none⟩, ⟨(some 26), (.call 45 [(.tmp 24), (.tmp 25)]), none⟩, ⟨(some 27), (.extract (.tmp 26) 0), none⟩, ⟨(some 28), (.extract (.tmp 26) 1), none⟩, ⟨(some 4), (.assign (.tmp 27)), none⟩, ⟨(some 5), (.assign (.tmp 28)), none⟩]) .ret) (.seq (.ops [⟨(some 30), (.bin .eql (.tmp 7) (.const (.int .u8 69))), none⟩, ⟨(some 29), (.assign (.tmp 30)), none⟩]) (.cond (.tmp 29) (.seq (.ops [⟨(some 31), (.move (.tmp 0)), none⟩, ⟨(some 32), (.faddr 3 (.tmp 3)), none⟩, ⟨(some 33), (.load1 (.tmp 32)), none⟩, ⟨(some 34), (.faddr 9 (.tmp 3)), none⟩, ⟨(some 35), (.load1 (.tmp 34)), none⟩, ⟨(some 36), (.call 46 [(.tmp 31), (.tmp 33), (.tmp 35)]), none⟩, ⟨(some 37), (.extract (.tmp 36) 0), none⟩, ⟨(some 38), (.extract (.tmp 36) 1), none⟩, ⟨(some 4), (.assign (.tmp 37)), none⟩, ⟨(some 5), (.assign (.tmp 38)), none⟩]) .ret) (.seq (.ops [⟨(some 40), (.bin .eql (.tmp 7) (.const (.int .u8 67))), none⟩, ⟨(some 39), (.assign (.tmp 40)), none⟩]) (.cond (.tmp 39) (.seq (.ops [⟨(some 41), (.move (.tmp 0)), none⟩, ⟨(some 42), (.loadN 10 (.tmp 3)), none⟩, ⟨(some 43), (.call 47 [(.tmp 41), (.tmp 42)]), none⟩, ⟨(some 4), (.assign (.tmp 43)), none⟩, ⟨(some 5), (.assign (.const .nilIface)), none⟩]) .ret) .skip)))))))))))) (.seq (.ops [⟨(some 4), (.assign (.const (.slice none 0 0))), none⟩, ⟨(some 5), (.assign (.const .nilIface)), none⟩]) .ret))), [(.move (.tmp 4)), (.move (.tmp 5))]⟩
theorem k25 : cfun Tryz.prog 25 = some c25 := by kernel_rfl
def c26 : XFun := ⟨34, (.seq (.ops [⟨(some 4), (.assign (.const (.slice none 0 0))), none⟩]) (.seq (.ops [⟨(some 5), (.alloc [(.v (.string (strB []))), (.v (.string (strB [])))]), none⟩]) (.seq (.seq (.ops [⟨(some 6), (.move (.tmp 1)), none⟩, ⟨(some 7), (.mkI 92 (.tmp 5)), none⟩, ⟨(some 8), (.call 48 [(.tmp 6), (.tmp 7)]), none⟩, ⟨(some 9), (.un .not (.tmp 8)), none⟩]) (.cond (.tmp 9) (.seq (.ops [⟨(some 4), (.assign (.const (.slice none 0 0))), none⟩]) .ret) .skip)) (.seq (.ops [⟨(some 10), (.move (.tmp 0)), none⟩, ⟨(some 11), (.move (.tmp 0)), none⟩, ⟨(some 12), (.nilCheck (.tmp 11)), none⟩, ⟨(some 13), (.faddr 3 (.tmp 12)), none⟩, ⟨(some 14), (.load1 (.tmp 13)), none⟩, ⟨(some 15), (.call 49 [(.tmp 14)]), none⟩, ⟨(some 16), (.nilCheck (.tmp 10)), none⟩, ⟨(some 17), (.faddr 3 (.tmp 16)), none⟩, ⟨none, (.store 1 (.tmp 17) (.tmp 15)), none⟩]) (.seq (.seq (.ops [⟨(some 18), (.move (.tmp 0)), none⟩, ⟨(some 19), (.nilCheck (.tmp 18)), none⟩, ⟨(some 20), (.faddr 3 (.tmp 19)), none⟩, ⟨(some 21), (.load1 (.tmp 20)), none⟩, ⟨(some 22), (.bin .eql (.tmp 21) (.const (.int .u8 69))), none⟩]) (.cond (.tmp 22) (.ops [⟨(some 23), (.move (.tmp 0)), none⟩, ⟨(some 24), (.nilCheck (.tmp 23)), none⟩, ⟨(some 25), (.faddr 2 (.tmp 24)), none⟩, ⟨(some 26), (.load1 (.tmp 25)), none⟩, ⟨(some 27), (.call 40 [(.tmp 26)]), none⟩]) .skip)) (.seq (.ops [⟨(some 28), (.faddr 0 (.tmp 5)), none⟩, ⟨(some 29), (.load1 (.tmp 28)), none⟩, ⟨(some 30), (.faddr 1 (.tmp 5)), none⟩, ⟨(some 31), (.load1 (.tmp 30)), none⟩, ⟨(some 32), (.call 50 [(.tmp 29), (.tmp 31)]), none⟩, ⟨(some 33), (.buildSlice 11 1 [(.v (.int .u8 0)), (.v (.int .u8 0)), (.v (.string (strB []))), (.v (.string (strB []))), (.v (.string (strB []))), (.v (.int .i64 0)), (.v (.int .i64 0)), (.sl 0 [] (some true) .exact), (.sl 0 [] (some true) .exact), (.sl 0 [] (some true) .exact), (.sl 0 [] (some true) .exact)] [(0, (.tmp 32))]), none⟩, ⟨(some 4), (.assign (.tmp 33)), none⟩]) .ret)))))), [(.move (.tmp 4))]⟩
theorem k26 : cfun Tryz.prog 26 = some c26 := by kernel_rfl
def c42 : XFun := ⟨36, (.seq (.ops [⟨(some 4), (.assign (.const (.slice none 0 0))), none⟩, ⟨(some 5), (.assign (.const .nilIface)), none⟩]) (.seq (.seq (.ops [⟨(some 8), (.move (.tmp 0)), none⟩, ⟨(some 9), (.move (.tmp 1)), none⟩, ⟨(some 10), (.call 75 [(.tmp 8), (.tmp 9)]), none⟩, ⟨(some 6), (.assign (.tmp 10)), none⟩]) (.seq (.ops [⟨(some 11), (.move (.tmp 6)), none⟩, ⟨(some 12), (.inileq true (.tmp 11)), none⟩]) (.cond (.tmp 12) (.seq (.ops [⟨(some 13), (.move (.tmp 6)), none⟩, ⟨(some 4), (.assign (.const (.slice none 0 0))), none⟩, ⟨(some 5), (.assign (.tmp 13)), none⟩]) .ret) .skip))) (.seq (.ops [⟨(some 14), (.move (.tmp 1)), none⟩, ⟨(some 15), (.call 76 [(.tmp 14)]), none⟩, ⟨(some 7), (.alloc [(.v (.int .i64 0)), (.v (.int .i64 0)), (.v (.string (strB [])))]), none⟩, ⟨none, (.store 3 (.tmp 7) (.tmp 15)), none⟩]) (.seq (.seq (.ops [⟨(some 16), (.loadN 3 (.tmp 7)), none⟩, ⟨(some 17), (.call 77 [(.tmp 16)]), none⟩, ⟨(some 18), (.un .not (.tmp 17)), none⟩]) (.cond (.tmp 18) (.seq (.ops [⟨(some 19), (.move (.tmp 0)), none⟩, ⟨(some 20), (.loadN 3 (.tmp 7)), none⟩, ⟨(some 21), (.call 78 [(.tmp 19), (.tmp 20)]), none⟩, ⟨(some 22), (.extract (.tmp 21) 0), none⟩, ⟨(some 23), (.extract (.tmp 21) 1), none⟩, ⟨(some 4), (.assign (.tmp 22)), none⟩, ⟨(some 5), (.assign (.tmp 23)), none⟩]) .ret) .skip)) (.seq (.draws (.take ⟨(some 24), (.move (.tmp 1)), none⟩ (.take ⟨(some 25), (.build [(.v (.string (strB []))), (.sl 0 [] (some true) .exact)] [(0, (1, (.tmp 24)))]), none⟩ (.take ⟨(some 28), (.move (.tmp 0)), none⟩ (.take ⟨(some 29), (.nilCheck (.tmp 28)), none⟩ (.take ⟨(some 30), (.faddr 0 (.tmp 29)), none⟩ (.take ⟨(some 31), (.load1 (.tmp 30)), none⟩ (.take ⟨(some 32), (.loadN 3 (.tmp 7)), none⟩ (.only ⟨(some 26), (.call 79 [(.tmp 25)]), none⟩ (.two ⟨(some 27), (.buildSlice 11 1 [(.v (.int .u8 0)), (.v (.int .u8 0)), (.v (.string (strB []))), (.v (.string (strB []))), (.v (.string (strB []))), (.v (.int .i64 0)), (.v (.int .i64 0)), (.sl 0 [] (some true) .exact), (.sl 0 [] (some true) .exact), (.sl 0 [] (some true) .exact), (.sl 0 [] (some true) .exact)] [(0, (.tmp 26))]), none⟩ ⟨(some 33), (.call 81 [(.tmp 31), (.tmp 32), (.const (.slice none 0 0))]), none⟩ (.only ⟨(some 33), (.call 81 [(.tmp 31), (.tmp 32), (.const (.slice none 0 0))]), none⟩ (.only ⟨(some 34), (.call 80 [(.tmp 33), (.const (.bool false))]), none⟩ (.only ⟨(some 35), (.append 11 168 (.tmp 27) (.tmp 34)), none⟩ (.take ⟨(some 4), (.assign (.tmp 35)), none⟩ (.take ⟨(some 5), (.assign (.const .nilIface)), none⟩ .done))))) (.two ⟨(some 27), (.buildSlice 11 1 [(.v (.int .u8 0)), (.v (.int .u8 0)), (.v (.string (strB []))), (.v (.string (strB []))), (.v (.string (strB []))), (.v (.int .i64 0)), (.v (.int .i64 0)), (.sl 0 [] (some true) .exact), (.sl 0 [] (some true) .exact), (.sl 0 [] (some true) .exact), (.sl 0 [] (some true) .exact)] [(0, (.tmp 26))]), none⟩ ⟨(some 34), (.call 80 [(.tmp 33), (.const (.bool false))]), none⟩ (.only ⟨(some 34), (.call 80 [(.tmp 33), (.const (.bool false))]), none⟩ (.only ⟨(some 35), (.append 11 168 (.tmp 27) (.tmp 34)), none⟩ (.take ⟨(some 4), (.assign (.tmp 35)), none⟩ (.take ⟨(some 5), (.assign (.const .nilIface)), none⟩ .done)))) (.only ⟨(some 27), (.buildSlice 11 1 [(.v (.int .u8 0)), (.v (.int .u8 0)), (.v (.string (strB []))), (.v (.string (strB []))), (.v (.string (strB []))), (.v (.int .i64 0)), (.v (.int .i64 0)), (.sl 0 [] (some true) .exact), (.sl 0 [] (some true) .exact), (.sl 0 [] (some true) .exact), (.sl 0 [] (some true) .exact)] [(0, (.tmp 26))]), none⟩ (.only ⟨(some 35), (.append 11 168 (.tmp 27) (.tmp 34)), none⟩ (.take ⟨(some 4), (.assign (.tmp 35)), none⟩ (.take ⟨(some 5), (.assign (.const .nilIface)), none⟩ .done))))))))))))))) .ret))))), [(.move (.tmp 4)), (.move (.tmp 5))]⟩
theorem k42 : cfun Tryz.prog 42 = some c42 := by kernel_rfl
def c43 : XFun := ⟨55, (.seq (.ops [⟨(some 3), (.box (.tmp 1)), none⟩, ⟨(some 4), (.assign (.const (.slice none 0 0))), none⟩, ⟨(some 5), (.assign (.const .nilIface)), none⟩]) (.seq (.seq (.ops [⟨(some 9), (.faddr 2 (.tmp 3)), none⟩, ⟨(some 10), (.load1 (.tmp 9)), none⟩, ⟨(some 11), (.bin .eql (.tmp 10) (.const (.string (strB [])))), none⟩]) (.cond (.tmp 11) (.ops [⟨(some 12), (.move (.tmp 0)), none⟩, ⟨(some 13), (.nilCheck (.tmp 12)), none⟩, ⟨(some 14), (.faddr 1 (.tmp 13)), none⟩, ⟨(some 15), (.load1 (.tmp 14)), none⟩, ⟨none, (.mapDel none 2 false (.tmp 15) (.const (.string (strB [])))), none⟩]) .skip)) (.seq (.seq (.ops [⟨(some 16), (.move (.tmp 0)), none⟩, ⟨(some 17), (.faddr 4 (.tmp 3)), none⟩, ⟨(some 18), (.load1 (.tmp 17)), none⟩, ⟨(some 19), (.call 75 [(.tmp 16), (.tmp 18)]), none⟩, ⟨(some 6), (.assign (.tmp 19)), none⟩]) (.seq (.ops [⟨(some 20), (.move (.tmp 6)), none⟩, ⟨(some 21), (.inileq true (.tmp 20)), none⟩]) (.cond (.tmp 21) (.seq (.ops [⟨(some 22), (.move (.tmp 6)), none⟩, ⟨(some 4), (.assign (.const (.slice none 0 0))), none⟩, ⟨(some 5), (.assign (.tmp 22)), none⟩]) .ret) .skip))) (.seq (.seq (.draws (.take ⟨(some 24), (.move (.tmp 0)), none⟩ (.take ⟨(some 25), (.nilCheck (.tmp 24)), none⟩ (.take ⟨(some 26), (.faddr 1 (.tmp 25)), none⟩ (.take ⟨(some 27), (.load1 (.tmp 26)), none⟩ (.take ⟨(some 28), (.faddr 2 (.tmp 3)), none⟩ (.take ⟨(some 29), (.load1 (.tmp 28)), none⟩ (.take ⟨(some 30), (.lookup none 2 false true [(.v (.string (strB []))), (.sl 0 [] (some true) .exact)] (.tmp 27) (.tmp 29)), none⟩ (.take ⟨(some 23), (.move (.tmp 30)), none⟩ (.take ⟨(some 31), (.extract (.tmp 23) 0), none⟩ (.take ⟨(some 32), (.extract (.tmp 23) 1), none⟩ (.only ⟨(some 7), (.alloc [(.v (.string (strB []))), (.sl 0 [] (some true) .exact)]), none⟩ (.only ⟨none, (.store 2 (.tmp 7) (.tmp 31)), none⟩ (.take ⟨(some 8), (.assign (.tmp 32)), none⟩ .done)))))))))))))) (.seq (.ops [⟨(some 33), (.move (.tmp 8)), none⟩]) (.cond (.tmp 33) (.seq (.ops [⟨(some 34), (.faddr 2 (.tmp 3)), none⟩, ⟨(some 35), (.load1 (.tmp 34)), none⟩, ⟨(some 36), (.call 82 [(.tmp 35)]), none⟩, ⟨(some 37), (.build [(.v (.string (strB []))), (.v (.string (strB [])))] [(0, (1, (.const (.string (strB [52, 50, 80, 48, 53]))))), (1, (1, (.tmp 36)))]), none⟩, ⟨(some 38), (.mkI 90 (.tmp 37)), none⟩, ⟨(some 4), (.assign (.const (.slice none 0 0))), none⟩, ⟨(some 5), (.assign (.tmp 38)), none⟩]) .ret) .skip))) (.seq (.draws (.take ⟨(some 39), (.move (.tmp 0)), none⟩ (.take ⟨(some 40), (.nilCheck (.tmp 39)), none⟩ (.take ⟨(some 41), (.faddr 1 (.tmp 40)), none⟩ (.take ⟨(some 42), (.load1 (.tmp 41)), none⟩ (.take ⟨(some 43), (.faddr 2 (.tmp 3)), none⟩ (.take ⟨(some 44), (.load1 (.tmp 43)), none⟩ (.take ⟨(some 46), (.faddr 4 (.tmp 3)), none⟩ (.take ⟨(some 47), (.load1 (.tmp 46)), none⟩ (.take ⟨(some 49), (.faddr 5 (.tmp 3)), none⟩ (.take ⟨(some 50), (.load1 (.tmp 49)), none⟩ (.only ⟨(some 45), (.call 83 [(.tmp 44)]), none⟩ (.only ⟨(some 48), (.call 83 [(.tmp 47)]), none⟩ (.only ⟨(some 51), (.call 84 [(.tmp 50)]), none⟩ (.take ⟨(some 52), (.build [(.v (.string (strB []))), (.sl 0 [] (some true) .exact)] [(0, (1, (.tmp 48))), (1, (1, (.tmp 51)))]), none⟩ (.last ⟨none, (.mapUpd none 2 false (.tmp 42) (.tmp 45) (.tmp 52)), none⟩)))))))))))))))) (.seq (.ops [⟨(some 53), (.build [(.v (.int .u8 0)), (.v (.int .u8 0)), (.v (.string (strB []))), (.v (.string (strB []))), (.v (.string (strB []))), (.v (.int .i64 0)), (.v (.int .i64 0)), (.sl 0 [] (some true) .exact), (.sl 0 [] (some true) .exact), (.sl 0 [] (some true) .exact), (.sl 0 [] (some true) .exact)] [(0, (1, (.const (.int .u8 49))))]), none⟩, ⟨(some 54), (.buildSlice 11 1 [(.v (.int .u8 0)), (.v (.int .u8 0)), (.v (.string (strB []))), (.v (.string (strB []))), (.v (.string (strB []))), (.v (.int .i64 0)), (.v (.int .i64 0)), (.sl 0 [] (some true) .exact), (.sl 0 [] (some true) .exact), (.sl 0 [] (some true) .exact), (.sl 0 [] (some true) .exact)] [(0, (.tmp 53))]), none⟩, ⟨(some 4), (.assign (.tmp 54)), none⟩, ⟨(some 5), (.assign (.const .nilIface)), none⟩]) .ret)))))), [(.move (.tmp 4)), (.move (.tmp 5))]⟩
theorem k43 : cfun Tryz.prog 43 = some c43 := by kernel_rfl
def c44 : XFun := ⟨58, (.seq (.ops [⟨(some 3), (.box (.tmp 1)), none⟩, ⟨(some 4), (.assign (.const (.slice none 0 0))), none⟩, ⟨(some 5), (.assign (.const .nilIface)), none⟩]) (.seq (.ops [⟨(some 9), (.move (.tmp 0)), none⟩, ⟨(some 10), (.faddr 2 (.tmp 3)), none⟩, ⟨(some 11), (.load1 (.tmp 10)), none⟩, ⟨(some 12), (.call 85 [(.tmp 9), (.tmp 11)]), none⟩, ⟨(some 8), (.move (.tmp 12)), none⟩, ⟨(some 13), (.extract (.tmp 8) 0), none⟩, ⟨(some 14), (.extract (.tmp 8) 1), none⟩, ⟨(some 6), (.alloc [(.v (.string (strB []))), (.sl 0 [] (some true) .exact)]), none⟩, ⟨none, (.store 2 (.tmp 6) (.tmp 13)), none⟩, ⟨(some 7), (.assign (.tmp 14)), none⟩]) (.seq (.block 0 (.seq (.ops [⟨(some 16), (.move (.tmp 7)), none⟩, ⟨(some 17), (.inileq true (.tmp 16)), none⟩, ⟨(some 15), (.assign (.tmp 17)), none⟩]) (.cond (.tmp 15) (.seq (.ops [⟨(some 18), (.move (.tmp 7)), none⟩, ⟨(some 4), (.assign (.const (.slice none 0 0))), none⟩, ⟨(some 5), (.assign (.tmp 18)), none⟩]) .ret) (.seq (.ops [⟨(some 20), (.faddr 8 (.tmp 3)), none⟩, ⟨(some 21), (.load1 (.tmp 20)), none⟩, ⟨(some 22), (.lenL (.tmp 21)), none⟩, ⟨(some 23), (.faddr 1 (.tmp 6)), none⟩, ⟨(some 24), (.load1 (.tmp 23)), none⟩, ⟨(some 25), (.lenL (.tmp 24)), none⟩, ⟨(some 26), (.bin .neq (.tmp 22) (.tmp 25)), none⟩, ⟨(some 19), (.assign (.tmp 26)), none⟩]) (.cond (.tmp 19) (.seq (.ops [⟨(some 27), (.faddr 8 (.tmp 3)), none⟩, ⟨(some 28), (.load1 (.tmp 27)), none⟩, ⟨(some 29), (.lenL (.tmp 28)), none⟩, ⟨(some 30), (.faddr 2 (.tmp 3)), none⟩, ⟨(some 31), (.load1 (.tmp 30)), none⟩, ⟨(some 32), (.faddr 1 (.tmp 6)), none⟩, ⟨(some 33), (.load1 (.tmp 32)), none⟩, ⟨(some 34), (.lenL (.tmp 33)), none⟩, ⟨(some 35), (.call 86 [(.tmp 29), (.tmp 31), (.tmp 34)]), none⟩, ⟨(some 36), (.build [(.v (.string (strB []))), (.v (.string (strB [])))] [(0, (1, (.const (.string (strB [48, 56, 80, 48, 49]))))), (1, (1, (.tmp 35)))]), none⟩, ⟨(some 37), (.mkI 90 (.tmp 36)), none⟩, ⟨(some 4), (.assign (.const (.slice none 0 0))), none⟩, ⟨(some 5), (.assign (.tmp 37)), none⟩]) .ret) (.seq (.draws (.take ⟨(some 39), (.move (.tmp 0)), none⟩ (.take ⟨(some 40), (.nilCheck (.tmp 39)), none⟩ (.take ⟨(some 41), (.faddr 2 (.tmp 40)), none⟩ (.take ⟨(some 42), (.load1 (.tmp 41)), none⟩ (.take ⟨(some 43), (.faddr 3 (.tmp 3)), none⟩ (.take ⟨(some 44), (.load1 (.tmp 43)), none⟩ (.take ⟨(some 45), (.loadN 2 (.tmp 6)), none⟩ (.take ⟨(some 46), (.faddr 8 (.tmp 3)), none⟩ (.take ⟨(some 47), (.load1 (.tmp 46)), none⟩ (.take ⟨(some 48), (.build [(.v (.string (strB []))), (.sl 0 [] (some true) .exact), (.sl 0 [] (some true) .exact), (.sl 0 [] (some true) .exact), (.v (.bool false)), (.v (.bool false))] [(0, (2, (.tmp 45))), (2, (1, (.tmp 47)))]), none⟩ (.only ⟨(some 49), (.call 87 [(.tmp 42), (.tmp 44), (.tmp 48)]), none⟩ (.take ⟨(some 50), (.bin .neq (.tmp 49) (.const (.int .i64 0))), none⟩ (.take ⟨(some 38), (.assign (.tmp 50)), none⟩ .done)))))))))))))) (.cond (.tmp 38) (.seq (.ops [⟨(some 51), (.faddr 3 (.tmp 3)), none⟩, ⟨(some 52), (.load1 (.tmp 51)), none⟩, ⟨(some 53), (.call 88 [(.tmp 52)]), none⟩, ⟨(some 54), (.build [(.v (.string (strB []))), (.v (.string (strB [])))] [(0, (1, (.const (.string (strB [52, 50, 80, 48, 51]))))), (1, (1, (.tmp 53)))]), none⟩, ⟨(some 55), (.mkI 90 (.tmp 54)), none⟩, ⟨(some 4), (.assign (.const (.slice none 0 0))), none⟩, ⟨(some 5), (.assign (.tmp 55)), none⟩]) .ret) .skip))))))) (.seq (.ops [⟨(some 56), (.build [(.v (.int .u8 0)), (.v (.int .u8 0)), (.v (.string (strB []))), (.v (.string (strB []))), (.v (.string (strB []))), (.v (.int .i64 0)), (.v (.int .i64 0)), (.sl 0 [] (some true) .exact), (.sl 0 [] (some true) .exact), (.sl 0 [] (some true) .exact), (.sl 0 [] (some true) .exact)] [(0, (1, (.const (.int .u8 50))))]), none⟩, ⟨(some 57), (.buildSlice 11 1 [(.v (.int .u8 0)), (.v (.int .u8 0)), (.v (.string (strB []))), (.v (.string (strB []))), (.v (.string (strB []))), (.v (.int .i64 0)), (.v (.int .i64 0)), (.sl 0 [] (some true) .exact), (.sl 0 [] (some true) .exact), (.sl 0 [] (some true) .exact), (.sl 0 [] (some true) .exact)] [(0, (.tmp 56))]), none⟩, ⟨(some 4), (.assign (.tmp 57)), none⟩, ⟨(some 5), (.assign (.const .nilIface)), none⟩]) .ret)))), [(.move (.tmp 4)), (.move (.tmp 5))]⟩
theorem k44 : cfun Tryz.prog 44 = some c44 := by kernel_rfl
def c45 : XFun := ⟨47, (.seq (.ops [⟨(some 3), (.box (.tmp 1)), none⟩, ⟨(some 4), (.assign (.const (.slice none 0 0))), none⟩, ⟨(some 5), (.assign (.const .nilIface)), none⟩]) (.seq (.seq (.ops [⟨(some 10), (.faddr 1 (.tmp 3)), none⟩, ⟨(some 11), (.load1 (.tmp 10)), none⟩]) (.block 0 (.seq (.ops [⟨(some 13), (.bin .eql (.tmp 11) (.const (.int .u8 83))), none⟩, ⟨(some 12), (.assign (.tmp 13)), none⟩]) (.cond (.tmp 12) (.seq (.ops [⟨(some 15), (.move (.tmp 0)), none⟩, ⟨(some 16), (.faddr 2 (.tmp 3)), none⟩, ⟨(some 17), (.load1 (.tmp 16)), none⟩, ⟨(some 18), (.call 85 [(.tmp 15), (.tmp 17)]), none⟩, ⟨(some 14), (.move (.tmp 18)), none⟩, ⟨(some 19), (.extract (.tmp 14) 0), none⟩, ⟨(some 20), (.extract (.tmp 14) 1), none⟩, ⟨(some 6), (.alloc [(.v (.string (strB []))), (.sl 0 [] (some true) .exact)]), none⟩, ⟨none, (.store 2 (.tmp 6) (.tmp 19)), none⟩, ⟨(some 7), (.assign (.tmp 20)), none⟩]) (.seq (.seq (.ops [⟨(some 21), (.move (.tmp 7)), none⟩, ⟨(some 22), (.inileq true (.tmp 21)), none⟩]) (.cond (.tmp 22) (.seq (.ops [⟨(some 23), (.move (.tmp 7)), none⟩, ⟨(some 4), (.assign (.const (.slice none 0 0))), none⟩, ⟨(some 5), (.assign (.tmp 23)), none⟩]) .ret) .skip)) (.seq (.draws (.take ⟨(some 24), (.faddr 1 (.tmp 6)), none⟩ (.take ⟨(some 25), (.load1 (.tmp 24)), none⟩ (.take ⟨(some 28), (.loadN 2 (.tmp 6)), none⟩ (.only ⟨(some 26), (.call 84 [(.tmp 25)]), none⟩ (.take ⟨(some 27), (.build [(.v (.int .u8 0)), (.v (.int .u8 0)), (.v (.string (strB []))), (.v (.string (strB []))), (.v (.string (strB []))), (.v (.int .i64 0)), (.v (.int .i64 0)), (.sl 0 [] (some true) .exact), (.sl 0 [] (some true) .exact), (.sl 0 [] (some true) .exact), (.sl 0 [] (some true) .exact)] [(0, (1, (.const (.int .u8 116)))), (7, (1, (.tmp 26)))]), none⟩ (.only ⟨(some 29), (.call 79 [(.tmp 28)]), none⟩ (.only ⟨(some 30), (.buildSlice 11 2 [(.v (.int .u8 0)), (.v (.int .u8 0)), (.v (.string (strB []))), (.v (.string (strB []))), (.v (.string (strB []))), (.v (.int .i64 0)), (.v (.int .i64 0)), (.sl 0 [] (some true) .exact), (.sl 0 [] (some true) .exact), (.sl 0 [] (some true) .exact), (.sl 0 [] (some true) .exact)] [(0, (.tmp 27)), (1, (.tmp 29))]), none⟩ (.take ⟨(some 4), (.assign (.tmp 30)), none⟩ (.take ⟨(some 5), (.assign (.const .nilIface)), none⟩ .done)))))))))) .ret))) (.seq (.ops [⟨(some 32), (.bin .eql (.tmp 11) (.const (.int .u8 80))), none⟩, ⟨(some 31), (.assign (.tmp 32)), none⟩]) (.cond (.tmp 31) (.seq (.ops [⟨(some 34), (.move (.tmp 0)), none⟩, ⟨(some 35), (.faddr 3 (.tmp 3)), none⟩, ⟨(some 36), (.load1 (.tmp 35)), none⟩, ⟨(some 37), (.call 89 [(.tmp 34), (.tmp 36)]), none⟩, ⟨(some 33), (.move (.tmp 37)), none⟩, ⟨(some 38), (.extract (.tmp 33) 0), none⟩, ⟨(some 39), (.extract (.tmp 33) 1), none⟩, ⟨(some 8), (.alloc [(.v (.string (strB []))), (.sl 0 [] (some true) .exact), (.sl 0 [] (some true) .exact), (.sl 0 [] (some true) .exact), (.v (.bool false)), (.v (.bool false))]), none⟩, ⟨none, (.store 6 (.tmp 8) (.tmp 38)), none⟩, ⟨(some 9), (.assign (.tmp 39)), none⟩]) (.seq (.seq (.ops [⟨(some 40), (.move (.tmp 9)), none⟩, ⟨(some 41), (.inileq true (.tmp 40)), none⟩]) (.cond (.tmp 41) (.seq (.ops [⟨(some 42), (.move (.tmp 9)), none⟩, ⟨(some 4), (.assign (.const (.slice none 0 0))), none⟩, ⟨(some 5), (.assign (.tmp 42)), none⟩]) .ret) .skip)) (.seq (.ops [⟨(some 43), (.faddr 0 (.tmp 8)), none⟩, ⟨(some 44), (.loadN 2 (.tmp 43)), none⟩, ⟨(some 45), (.call 79 [(.tmp 44)]), none⟩, ⟨(some 46), (.buildSlice 11 1 [(.v (.int .u8 0)), (.v (.int .u8 0)), (.v (.string (strB []))), (.v (.string (strB []))), (.v (.string (strB []))), (.v (.int .i64 0)), (.v (.int .i64 0)), (.sl 0 [] (some true) .exact), (.sl 0 [] (some true) .exact), (.sl 0 [] (some true) .exact), (.sl 0 [] (some true) .exact)] [(0, (.tmp 45))]), none⟩, ⟨(some 4), (.assign (.tmp 46)), none⟩, ⟨(some 5), (.assign (.const .nilIface)), none⟩]) .ret))) .skip)))))) (.seq (.ops [⟨(some 4), (.assign (.const (.slice none 0 0))), none⟩, ⟨(some 5), (.assign (.const .nilIface)), none⟩]) .ret))), [(.move (.tmp 4)), (.move (.tmp 5))]⟩
theorem k45 : cfun Tryz.prog 45 = some c45 := by kernel_rfl
def c46 : XFun := ⟨73, (.seq (.ops [⟨(some 6), (.assign (.const (.slice none 0 0))), none⟩, ⟨(some 7), (.assign (.const .nilIface)), none⟩]) (.seq (.ops [⟨(some 14), (.move (.tmp 0)), none⟩, ⟨(some 15), (.move (.tmp 1)), none⟩, ⟨(some 16), (.call 89 [(.tmp 14), (.tmp 15)]), none⟩, ⟨(some 13), (.move (.tmp 16)), none⟩, ⟨(some 17), (.extract (.tmp 13) 0), none⟩, ⟨(some 18), (.extract (.tmp 13) 1), none⟩, ⟨(some 8), (.alloc [(.v (.string (strB []))), (.sl 0 [] (some true) .exact), (.sl 0 [] (some true) .exact), (.sl 0 [] (some true) .exact), (.v (.bool false)), (.v (.bool false))]), none⟩, ⟨none, (.store 6 (.tmp 8) (.tmp 17)), none⟩, ⟨(some 9), (.assign (.tmp 18)), none⟩]) (.seq (.seq (.ops [⟨(some 19), (.move (.tmp 9)), none⟩, ⟨(some 20), (.inileq true (.tmp 19)), none⟩]) (.cond (.tmp 20) (.seq (.ops [⟨(some 21), (.move (.tmp 9)), none⟩, ⟨(some 6), (.assign (.const (.slice none 0 0))), none⟩, ⟨(some 7), (.assign (.tmp 21)), none⟩]) .ret) .skip)) (.seq (.ops [⟨(some 22), (.faddr 0 (.tmp 8)), none⟩, ⟨(some 23), (.faddr 0 (.tmp 22)), none⟩, ⟨(some 24), (.load1 (.tmp 23)), none⟩, ⟨(some 25), (.call 76 [(.tmp 24)]), none⟩, ⟨(some 10), (.alloc [(.v (.int .i64 0)), (.v (.int .i64 0)), (.v (.string (strB [])))]), none⟩, ⟨none, (.store 3 (.tmp 10) (.tmp 25)), none⟩]) (.seq (.seq (.ops [⟨(some 26), (.faddr 4 (.tmp 8)), none⟩, ⟨(some 27), (.load1 (.tmp 26)), none⟩, ⟨(some 28), (.move (.tmp 27)), none⟩, ⟨(some 29), (.loadN 3 (.tmp 10)), (some (28, true))⟩, ⟨(some 30), (.call 90 [(.tmp 29)]), (some (28, true))⟩, ⟨(some 31), (.un .not (.tmp 30)), (some (28, true))⟩, ⟨(some 32), (.pick (.tmp 28) (.tmp 31) (.const (.bool false))), none⟩]) (.cond (.tmp 32) (.seq (.ops [⟨(some 33), (.build [(.v (.string (strB []))), (.v (.string (strB [])))] [(0, (1, (.const (.string (strB [53, 53, 48, 48, 48]))))), (1, (1, (.const (.string (strB [112, 111, 114, 116, 97, 108, 32, 99, 97, 110, 110, 111, 116, 32, 98, 101, 32, 114, 117, 110])))))]), none⟩, ⟨(some 34), (.mkI 90 (.tmp 33)), none⟩, ⟨(some 6), (.assign (.const (.slice none 0 0))), none⟩, ⟨(some 7), (.assign (.tmp 34)), none⟩]) .ret) .skip)) (.seq (.seq (.ops [⟨(some 35), (.faddr 4 (.tmp 8)), none⟩, ⟨(some 36), (.load1 (.tmp 35)), none⟩, ⟨(some 37), (.un .not (.tmp 36)), none⟩]) (.cond (.tmp 37) (.draws (.take ⟨(some 38), (.move (.tmp 0)), none⟩ (.take ⟨(some 39), (.nilCheck (.tmp 38)), none⟩ (.take ⟨(some 40), (.faddr 2 (.tmp 39)), none⟩ (.take ⟨(some 41), (.load1 (.tmp 40)), none⟩ (.take ⟨(some 42), (.move (.tmp 1)), none⟩ (.take ⟨(some 43), (.move (.tmp 0)), none⟩ (.take ⟨(some 44), (.nilCheck (.tmp 43)), none⟩ (.take ⟨(some 45), (.faddr 0 (.tmp 44)), none⟩ (.take ⟨(some 46), (.load1 (.tmp 45)), none⟩ (.take ⟨(some 47), (.loadN 3 (.tmp 10)), none⟩ (.take ⟨(some 48), (.faddr 2 (.tmp 8)), none⟩ (.take ⟨(some 49), (.load1 (.tmp 48)), none⟩ (.only ⟨(some 50), (.call 81 [(.tmp 46), (.tmp 47), (.tmp 49)]), none⟩ (.only ⟨(some 51), (.call 91 [(.tmp 41), (.tmp 42), (.tmp 50)]), none⟩ .done))))))))))))))) .skip)) (.seq (.seq (.ops [⟨(some 52), (.loadN 3 (.tmp 10)), none⟩, ⟨(some 53), (.call 77 [(.tmp 52)]), none⟩, ⟨(some 54), (.un .not (.tmp 53)), none⟩]) (.cond (.tmp 54) (.seq (.ops [⟨(some 55), (.move (.tmp 0)), none⟩, ⟨(some 56), (.loadN 3 (.tmp 10)), none⟩, ⟨(some 57), (.call 78 [(.tmp 55), (.tmp 56)]), none⟩, ⟨(some 58), (.extract (.tmp 57) 0), none⟩, ⟨(some 59), (.extract (.tmp 57) 1), none⟩, ⟨(some 6), (.assign (.tmp 58)), none⟩, ⟨(some 7), (.assign (.tmp 59)), none⟩]) .ret) .skip)) (.seq (.ops [⟨(some 61), (.move (.tmp 0)), none⟩, ⟨(some 62), (.nilCheck (.tmp 61)), none⟩, ⟨(some 63), (.faddr 2 (.tmp 62)), none⟩, ⟨(some 64), (.load1 (.tmp 63)), none⟩, ⟨(some 65), (.move (.tmp 1)), none⟩, ⟨(some 66), (.move (.tmp 2)), none⟩, ⟨(some 67), (.call 92 [(.tmp 64), (.tmp 65), (.tmp 66)]), none⟩, ⟨(some 60), (.move (.tmp 67)), none⟩, ⟨(some 68), (.extract (.tmp 60) 0), none⟩, ⟨(some 69), (.extract (.tmp 60) 1), none⟩, ⟨(some 11), (.assign (.tmp 68)), none⟩, ⟨(some 12), (.assign (.tmp 69)), none⟩]) (.seq (.ops [⟨(some 70), (.move (.tmp 11)), none⟩, ⟨(some 71), (.move (.tmp 12)), none⟩, ⟨(some 72), (.call 80 [(.tmp 70), (.tmp 71)]), none⟩, ⟨(some 6), (.assign (.tmp 72)), none⟩, ⟨(some 7), (.assign (.const .nilIface)), none⟩]) .ret))))))))), [(.move (.tmp 6)), (.move (.tmp 7))]⟩
theorem k46 : cfun Tryz.prog 46 = some c46 := by kernel_rfl
def c47 : XFun := ⟨26, (.seq (.ops [⟨(some 3), (.box (.tmp 1)), none⟩, ⟨(some 4), (.assign (.const (.slice none 0 0))), none⟩]) (.seq (.seq (.ops [⟨(some 5), (.faddr 1 (.tmp 3)), none⟩, ⟨(some 6), (.load1 (.tmp 5)), none⟩]) (.block 0 (.seq (.ops [⟨(some 8), (.bin .eql (.tmp 6) (.const (.int .u8 83))), none⟩, ⟨(some 7), (.assign (.tmp 8)), none⟩]) (.cond (.tmp 7) (.draws (.take ⟨(some 9), (.move (.tmp 0)), none⟩ (.take ⟨(some 10), (.nilCheck (.tmp 9)), none⟩ (.take ⟨(some 11), (.faddr 1 (.tmp 10)), none⟩ (.take ⟨(some 12), (.load1 (.tmp 11)), none⟩ (.take ⟨(some 13), (.faddr 2 (.tmp 3)), none⟩ (.take ⟨(some 14), (.load1 (.tmp 13)), none⟩ (.last ⟨none, (.mapDel none 2 false (.tmp 12) (.tmp 14)), none⟩)))))))) (.seq (.ops [⟨(some 16), (.bin .eql (.tmp 6) (.const (.int .u8 80))), none⟩, ⟨(some 15), (.assign (.tmp 16)), none⟩]) (.cond (.tmp 15) (.draws (.take ⟨(some 17), (.move (.tmp 0)), none⟩ (.take ⟨(some 18), (.nilCheck (.tmp 17)), none⟩ (.take ⟨(some 19), (.faddr 2 (.tmp 18)), none⟩ (.take ⟨(some 20), (.load1 (.tmp 19)), none⟩ (.take ⟨(some 21), (.faddr 3 (.tmp 3)), none⟩ (.take ⟨(some 22), (.load1 (.tmp 21)), none⟩ (.only ⟨(some 23), (.call 41 [(.tmp 20), (.tmp 22)]), none⟩ .done)))))))) (.seq (.ops [⟨(some 4), (.assign (.const (.slice none 0 0))), none⟩]) .ret))))))) (.seq (.ops [⟨(some 24), (.build [(.v (.int .u8 0)), (.v (.int .u8 0)), (.v (.string (strB []))), (.v (.string (strB []))), (.v (.string (strB []))), (.v (.int .i64 0)), (.v (.int .i64 0)), (.sl 0 [] (some true) .exact), (.sl 0 [] (some true) .exact), (.sl 0 [] (some true) .exact), (.sl 0 [] (some true) .exact)] [(0, (1, (.const (.int .u8 51))))]), none⟩, ⟨(some 25), (.buildSlice 11 1 [(.v (.int .u8 0)), (.v (.int .u8 0)), (.v (.string (strB []))), (.v (.string (strB []))), (.v (.string (strB []))), (.v (.int .i64 0)), (.v (.int .i64 0)), (.sl 0 [] (some true) .exact), (.sl 0 [] (some true) .exact), (.sl 0 [] (some true) .exact), (.sl 0 [] (some true) .exact)] [(0, (.tmp 24))]), none⟩, ⟨(some 4), (.assign (.tmp 25)), none⟩]) .ret))), [(.move (.tmp 4))]⟩
theorem k47 : cfun Tryz.prog 47 = some c47 := by kernel_rfl
def c75 : XFun := ⟨27, (.seq (.ops [⟨(some 4), (.assign (.const .nilIface)), none⟩]) (.seq (.seq (.draws (.take ⟨(some 9), (.move (.tmp 0)), none⟩ (.take ⟨(some 10), (.nilCheck (.tmp 9)), none⟩ (.take ⟨(some 11), (.faddr 0 (.tmp 10)), none⟩ (.take ⟨(some 12), (.load1 (.tmp 11)), none⟩ (.take ⟨(some 13), (.move (.tmp 1)), none⟩ (.take ⟨(some 14), (.move (.tmp 0)), none⟩ (.take ⟨(some 15), (.nilCheck (.tmp 14)), none⟩ (.take ⟨(some 16), (.faddr 3 (.tmp 15)), none⟩ (.take ⟨(some 17), (.load1 (.tmp 16)), none⟩ (.only ⟨(some 18), (.call 126 [(.tmp 12), (.tmp 13), (.tmp 17)]), none⟩ (.take ⟨(some 8), (.move (.tmp 18)), none⟩ (.take ⟨(some 19), (.extract (.tmp 8) 0), none⟩ (.take ⟨(some 20), (.extract (.tmp 8) 1), none⟩ (.take ⟨(some 21), (.extract (.tmp 8) 2), none⟩ (.take ⟨(some 5), (.assign (.tmp 19)), none⟩ (.take ⟨(some 6), (.assign (.tmp 20)), none⟩ (.take ⟨(some 7), (.assign (.tmp 21)), none⟩ .done)))))))))))))))))) (.seq (.ops [⟨(some 22), (.move (.tmp 7)), none⟩]) (.cond (.tmp 22) (.seq (.ops [⟨(some 23), (.move (.tmp 5)), none⟩, ⟨(some 24), (.move (.tmp 6)), none⟩, ⟨(some 25), (.build [(.v (.string (strB []))), (.v (.string (strB [])))] [(0, (1, (.tmp 23))), (1, (1, (.tmp 24)))]), none⟩, ⟨(some 26), (.mkI 90 (.tmp 25)), none⟩, ⟨(some 4), (.assign (.tmp 26)), none⟩]) .ret) .skip))) (.seq (.ops [⟨(some 4), (.assign (.const .nilIface)), none⟩]) .ret))), [(.move (.tmp 4))]⟩
theorem k75 : cfun Tryz.prog 75 = some c75 := by kernel_rfl
def c78 : XFun := ⟨43, (.seq (.ops [⟨(some 3), (.box (.tmp 1)), none⟩, ⟨(some 4), (.assign (.const (.slice none 0 0))), none⟩, ⟨(some 5), (.assign (.const .nilIface)), none⟩]) (.seq (.seq (.ops [⟨(some 8), (.faddr 0 (.tmp 3)), none⟩, ⟨(some 9), (.load1 (.tmp 8)), none⟩]) (.block 0 (.seq (.ops [⟨(some 11), (.bin .eql (.tmp 9) (.const (.int .i64 1))), none⟩, ⟨(some 10), (.assign (.tmp 11)), none⟩]) (.cond (.tmp 10) (.seq (.ops [⟨(some 12), (.build [(.v (.int .u8 0)), (.v (.int .u8 0)), (.v (.string (strB []))), (.v (.string (strB []))), (.v (.string (strB []))), (.v (.int .i64 0)), (.v (.int .i64 0)), (.sl 0 [] (some true) .exact), (.sl 0 [] (some true) .exact), (.sl 0 [] (some true) .exact), (.sl 0 [] (some true) .exact)] [(0, (1, (.const (.int .u8 73))))]), none⟩, ⟨(some 13), (.buildSlice 11 1 [(.v (.int .u8 0)), (.v (.int .u8 0)), (.v (.string (strB []))), (.v (.string (strB []))), (.v (.string (strB []))), (.v (.int .i64 0)), (.v (.int .i64 0)), (.sl 0 [] (some true) .exact), (.sl 0 [] (some true) .exact), (.sl 0 [] (some true) .exact), (.sl 0 [] (some true) .exact)] [(0, (.tmp 12))]), none⟩, ⟨(some 4), (.assign (.tmp 13)), none⟩, ⟨(some 5), (.assign (.const .nilIface)), none⟩]) .ret) (.seq (.ops [⟨(some 15), (.bin .eql (.tmp 9) (.const (.int .i64 8))), none⟩, ⟨(some 14), (.assign (.tmp 15)), none⟩]) (.cond (.tmp 14) (.seq (.draws (.take ⟨(some 16), (.faddr 2 (.tmp 3)), none⟩ (.take ⟨(some 17), (.load1 (.tmp 16)), none⟩ (.take ⟨(some 18), (.build [(.v (.string (strB []))), (.v (.string (strB [])))] [(0, (1, (.tmp 17))), (1, (1, (.const (.string (strB [102, 97, 105, 108, 101, 100, 32, 111, 110, 32, 112, 117, 114, 112, 111, 115, 101])))))]), none⟩ (.take ⟨(some 19), (.mkI 90 (.tmp 18)), none⟩ (.take ⟨(some 4), (.assign (.const (.slice none 0 0))), none⟩ (.take ⟨(some 5), (.assign (.tmp 19)), none⟩ .done))))))) .ret) .skip)))))) (.seq (.draws (.take ⟨(some 21), (.move (.tmp 0)), none⟩ (.take ⟨(some 22), (.nilCheck (.tmp 21)), none⟩ (.take ⟨(some 23), (.faddr 3 (.tmp 22)), none⟩ (.take ⟨(some 24), (.load1 (.tmp 23)), none⟩ (.take ⟨(some 25), (.loadN 3 (.tmp 3)), none⟩ (.only ⟨(some 26), (.call 133 [(.tmp 24), (.tmp 25)]), none⟩ (.take ⟨(some 20), (.move (.tmp 26)), none⟩ (.take ⟨(some 27), (.extract (.tmp 20) 0), none⟩ (.take ⟨(some 28), (.extract (.tmp 20) 1), none⟩ (.take ⟨(some 6), (.assign (.tmp 27)), none⟩ (.take ⟨(some 7), (.assign (.tmp 28)), none⟩ .done)))))))))))) (.seq (.ops [⟨(some 29), (.move (.tmp 0)), none⟩, ⟨(some 30), (.move (.tmp 6)), none⟩, ⟨(some 31), (.nilCheck (.tmp 29)), none⟩, ⟨(some 32), (.faddr 3 (.tmp 31)), none⟩, ⟨none, (.store 1 (.tmp 32) (.tmp 30)), none⟩]) (.seq (.seq (.ops [⟨(some 33), (.loadN 3 (.tmp 3)), none⟩, ⟨(some 34), (.call 134 [(.tmp 33)]), none⟩]) (.cond (.tmp 34) (.ops [⟨(some 35), (.move (.tmp 0)), none⟩, ⟨(some 36), (.nilCheck (.tmp 35)), none⟩, ⟨(some 37), (.faddr 2 (.tmp 36)), none⟩, ⟨(some 38), (.load1 (.tmp 37)), none⟩, ⟨(some 39), (.call 40 [(.tmp 38)]), none⟩]) .skip)) (.seq (.ops [⟨(some 40), (.move (.tmp 7)), none⟩, ⟨(some 41), (.build [(.v (.int .u8 0)), (.v (.int .u8 0)), (.v (.string (strB []))), (.v (.string (strB []))), (.v (.string (strB []))), (.v (.int .i64 0)), (.v (.int .i64 0)), (.sl 0 [] (some true) .exact), (.sl 0 [] (some true) .exact), (.sl 0 [] (some true) .exact), (.sl 0 [] (some true) .exact)] [(0, (1, (.const (.int .u8 67)))), (2, (1, (.tmp 40)))]), none⟩, ⟨(some 42), (.buildSlice 11 1 [(.v (.int .u8 0)), (.v (.int .u8 0)), (.v (.string (strB []))), (.v (.string (strB []))), (.v (.string (strB []))), (.v (.int .i64 0)), (.v (.int .i64 0)), (.sl 0 [] (some true) .exact), (.sl 0 [] (some true) .exact), (.sl 0 [] (some true) .exact), (.sl 0 [] (some true) .exact)] [(0, (.tmp 41))]), none⟩, ⟨(some 4), (.assign (.tmp 42)), none⟩, ⟨(some 5), (.assign (.const .nilIface)), none⟩]) .ret)))))), [(.move (.tmp 4)), (.move (.tmp 5))]⟩
theorem k78 : cfun Tryz.prog 78 = some c78 := by kernel_rfl
def c79 : XFun := ⟨17, (.seq (.ops [⟨(some 1), (.box (.tmp 0)), none⟩, ⟨(some 2), (.alloc [(.v (.int .u8 0)), (.v (.int .u8 0)), (.v (.string (strB []))), (.v (.string (strB []))), (.v (.string (strB []))), (.v (.int .i64 0)), (.v (.int .i64 0)), (.sl 0 [] (some true) .exact), (.sl 0 [] (some true) .exact), (.sl 0 [] (some true) .exact), (.sl 0 [] (some true) .exact)]), none⟩]) (.seq (.ops [⟨(some 4), (.faddr 0 (.tmp 1)), none⟩, ⟨(some 5), (.load1 (.tmp 4)), none⟩, ⟨(some 6), (.call 76 [(.tmp 5)]), none⟩, ⟨(some 3), (.alloc [(.v (.int .i64 0)), (.v (.int .i64 0)), (.v (.string (strB [])))]), none⟩, ⟨none, (.store 3 (.tmp 3) (.tmp 6)), none⟩]) (.seq (.seq (.ops [⟨(some 7), (.loadN 3 (.tmp 3)), none⟩, ⟨(some 8), (.call 77 [(.tmp 7)]), none⟩, ⟨(some 9), (.un .not (.tmp 8)), none⟩]) (.cond (.tmp 9) (.seq (.ops [⟨(some 10), (.build [(.v (.int .u8 0)), (.v (.int .u8 0)), (.v (.string (strB []))), (.v (.string (strB []))), (.v (.string (strB []))), (.v (.int .i64 0)), (.v (.int .i64 0)), (.sl 0 [] (some true) .exact), (.sl 0 [] (some true) .exact), (.sl 0 [] (some true) .exact), (.sl 0 [] (some true) .exact)] [(0, (1, (.const (.int .u8 110))))]), none⟩, ⟨none, (.store 11 (.tmp 2) (.tmp 10)), none⟩]) .ret) .skip)) (.seq (.ops [⟨(some 11), (.loadN 3 (.tmp 3)), none⟩, ⟨(some 12), (.faddr 1 (.tmp 1)), none⟩, ⟨(some 13), (.load1 (.tmp 12)), none⟩, ⟨(some 14), (.lenL (.tmp 13)), none⟩, ⟨(some 15), (.call 136 [(.tmp 11), (.tmp 14)]), none⟩, ⟨(some 16), (.call 135 [(.tmp 15)]), none⟩, ⟨none, (.store 11 (.tmp 2) (.tmp 16)), none⟩]) .ret)))), [(.loadN 11 (.tmp 2))]⟩
theorem k79 : cfun Tryz.prog 79 = some c79 := by kernel_rfl
def c80 : XFun := ⟨32, (.seq (.ops [⟨(some 4), (.assign (.const (.slice none 0 0))), none⟩]) (.seq (.ops [⟨(some 5), (.assign (.const (.slice none 0 0))), none⟩]) (.seq (.seq (.ops [⟨(some 8), (.move (.tmp 0)), none⟩, ⟨(some 9), (.lenL (.tmp 8)), none⟩, ⟨(some 10), (.move (.const (.int .i64 0))), none⟩]) (.block 0 (.loop (.seq (.ops [⟨(some 11), (.bin .lss (.tmp 10) (.tmp 9)), none⟩]) (.seq (.cond (.tmp 11) .skip (.exit 0)) (.seq (.block 1 (.seq (.ops [⟨(some 12), (.iaddr 1 (.tmp 8) (.tmp 10)), none⟩, ⟨(some 13), (.load1 (.tmp 12)), none⟩, ⟨(some 7), (.assign (.tmp 13)), none⟩]) (.ops [⟨(some 14), (.move (.tmp 5)), none⟩, ⟨(some 15), (.move (.tmp 7)), none⟩, ⟨(some 16), (.call 137 [(.tmp 15)]), none⟩, ⟨(some 17), (.buildSlice 11 1 [(.v (.int .u8 0)), (.v (.int .u8 0)), (.v (.string (strB []))), (.v (.string (strB []))), (.v (.string (strB []))), (.v (.int .i64 0)), (.v (.int .i64 0)), (.sl 0 [] (some true) .exact), (.sl 0 [] (some true) .exact), (.sl 0 [] (some true) .exact), (.sl 0 [] (some true) .exact)] [(0, (.tmp 16))]), none⟩, ⟨(some 18), (.append 11 168 (.tmp 14) (.tmp 17)), none⟩, ⟨(some 5), (.assign (.tmp 18)), none⟩]))) (.ops [⟨(some 19), (.bin .add (.tmp 10) (.const (.int .i64 1))), none⟩, ⟨(some 10), (.move (.tmp 19)), none⟩]))))))) (.seq (.seq (.ops [⟨(some 20), (.move (.tmp 1)), none⟩]) (.cond (.tmp 20) (.seq (.ops [⟨(some 21), (.move (.tmp 5)), none⟩, ⟨(some 22), (.build [(.v (.int .u8 0)), (.v (.int .u8 0)), (.v (.string (strB []))), (.v (.string (strB []))), (.v (.string (strB []))), (.v (.int .i64 0)), (.v (.int .i64 0)), (.sl 0 [] (some true) .exact), (.sl 0 [] (some true) .exact), (.sl 0 [] (some true) .exact), (.sl 0 [] (some true) .exact)] [(0, (1, (.const (.int .u8 115))))]), none⟩, ⟨(some 23), (.buildSlice 11 1 [(.v (.int .u8 0)), (.v (.int .u8 0)), (.v (.string (strB []))), (.v (.string (strB []))), (.v (.string (strB []))), (.v (.int .i64 0)), (.v (.int .i64 0)), (.sl 0 [] (some true) .exact), (.sl 0 [] (some true) .exact), (.sl 0 [] (some true) .exact), (.sl 0 [] (some true) .exact)] [(0, (.tmp 22))]), none⟩, ⟨(some 24), (.append 11 168 (.tmp 21) (.tmp 23)), none⟩, ⟨(some 4), (.assign (.tmp 24)), none⟩]) .ret) .skip)) (.seq (.ops [⟨(some 25), (.move (.tmp 5)), none⟩, ⟨(some 26), (.move (.tmp 0)), none⟩, ⟨(some 27), (.lenL (.tmp 26)), none⟩, ⟨(some 28), (.call 138 [(.tmp 27)]), none⟩, ⟨(some 29), (.build [(.v (.int .u8 0)), (.v (.int .u8 0)), (.v (.string (strB []))), (.v (.string (strB []))), (.v (.string (strB []))), (.v (.int .i64 0)), (.v (.int .i64 0)), (.sl 0 [] (some true) .exact), (.sl 0 [] (some true) .exact), (.sl 0 [] (some true) .exact), (.sl 0 [] (some true) .exact)] [(0, (1, (.const (.int .u8 67)))), (2, (1, (.tmp 28)))]), none⟩, ⟨(some 30), (.buildSlice 11 1 [(.v (.int .u8 0)), (.v (.int .u8 0)), (.v (.string (strB []))), (.v (.string (strB []))), (.v (.string (strB []))), (.v (.int .i64 0)), (.v (.int .i64 0)), (.sl 0 [] (some true) .exact), (.sl 0 [] (some true) .exact), (.sl 0 [] (some true) .exact), (.sl 0 [] (some true) .exact)] [(0, (.tmp 29))]), none⟩, ⟨(some 31), (.append 11 168 (.tmp 25) (.tmp 30)), none⟩, ⟨(some 4), (.assign (.tmp 31)), none⟩]) .ret))))), [(.move (.tmp 4))]⟩
theorem k80 : cfun Tryz.prog 80 = some c80 := by kernel_rfl
def c85 : XFun := ⟨28, (.seq (.ops [⟨(some 4), (.alloc [(.v (.string (strB []))), (.sl 0 [] (some true) .exact)]), none⟩, ⟨(some 5), (.assign (.const .nilIface)), none⟩]) (.seq (.ops [⟨(some 9), (.move (.tmp 0)), none⟩, ⟨(some 10), (.nilCheck (.tmp 9)), none⟩, ⟨(some 11), (.faddr 1 (.tmp 10)), none⟩, ⟨(some 12), (.load1 (.tmp 11)), none⟩, ⟨(some 13), (.move (.tmp 1)), none⟩, ⟨(some 14), (.lookup none 2 false true [(.v (.string (strB []))), (.sl 0 [] (some true) .exact)] (.tmp 12) (.tmp 13)), none⟩, ⟨(some 8), (.move (.tmp 14)), none⟩, ⟨(some 15), (.extract (.tmp 8) 0), none⟩, ⟨(some 16), (.extract (.tmp 8) 1), none⟩, ⟨(some 6), (.alloc [(.v (.string (strB []))), (.sl 0 [] (some true) .exact)]), none⟩, ⟨none, (.store 2 (.tmp 6) (.tmp 15)), none⟩, ⟨(some 7), (.assign (.tmp 16)), none⟩]) (.seq (.seq (.ops [⟨(some 17), (.move (.tmp 7)), none⟩, ⟨(some 18), (.un .not (.tmp 17)), none⟩]) (.cond (.tmp 18) (.seq (.ops [⟨(some 19), (.build [(.v (.string (strB []))), (.sl 0 [] (some true) .exact)] []), none⟩, ⟨(some 20), (.move (.tmp 1)), none⟩, ⟨(some 21), (.call 146 [(.tmp 20)]), none⟩, ⟨(some 22), (.build [(.v (.string (strB []))), (.v (.string (strB [])))] [(0, (1, (.const (.string (strB [50, 54, 48, 48, 48]))))), (1, (1, (.tmp 21)))]), none⟩, ⟨(some 23), (.mkI 90 (.tmp 22)), none⟩, ⟨none, (.store 2 (.tmp 4) (.tmp 19)), none⟩, ⟨(some 5), (.assign (.tmp 23)), none⟩]) .ret) .skip)) (.seq (.draws (.take ⟨(some 24), (.loadN 2 (.tmp 6)), none⟩ (.take ⟨(some 25), (.move (.tmp 0)), none⟩ (.take ⟨(some 26), (.loadN 2 (.tmp 6)), none⟩ (.only ⟨(some 27), (.call 147 [(.tmp 25), (.tmp 26)]), none⟩ (.only ⟨none, (.store 2 (.tmp 4) (.tmp 24)), none⟩ (.take ⟨(some 5), (.assign (.tmp 27)), none⟩ .done))))))) .ret)))), [(.loadN 2 (.tmp 4)), (.move (.tmp 5))]⟩
theorem k85 : cfun Tryz.prog 85 = some c85 := by kernel_rfl
def c89 : XFun := ⟨29, (.seq (.ops [⟨(some 4), (.alloc [(.v (.string (strB []))), (.sl 0 [] (some true) .exact), (.sl 0 [] (some true) .exact), (.sl 0 [] (some true) .exact), (.v (.bool false)), (.v (.bool false))]), none⟩, ⟨(some 5), (.assign (.const .nilIface)), none⟩]) (.seq (.ops [⟨(some 9), (.move (.tmp 0)), none⟩, ⟨(some 10), (.nilCheck (.tmp 9)), none⟩, ⟨(some 11), (.faddr 2 (.tmp 10)), none⟩, ⟨(some 12), (.load1 (.tmp 11)), none⟩, ⟨(some 13), (.move (.tmp 1)), none⟩, ⟨(some 14), (.call 151 [(.tmp 12), (.tmp 13)]), none⟩, ⟨(some 8), (.move (.tmp 14)), none⟩, ⟨(some 15), (.extract (.tmp 8) 0), none⟩, ⟨(some 16), (.extract (.tmp 8) 1), none⟩, ⟨(some 6), (.alloc [(.v (.string (strB []))), (.sl 0 [] (some true) .exact), (.sl 0 [] (some true) .exact), (.sl 0 [] (some true) .exact), (.v (.bool false)), (.v (.bool false))]), none⟩, ⟨none, (.store 6 (.tmp 6) (.tmp 15)), none⟩, ⟨(some 7), (.assign (.tmp 16)), none⟩]) (.seq (.seq (.ops [⟨(some 17), (.move (.tmp 7)), none⟩, ⟨(some 18), (.un .not (.tmp 17)), none⟩]) (.cond (.tmp 18) (.seq (.ops [⟨(some 19), (.build [(.v (.string (strB []))), (.sl 0 [] (some true) .exact), (.sl 0 [] (some true) .exact), (.sl 0 [] (some true) .exact), (.v (.bool false)), (.v (.bool false))] []), none⟩, ⟨(some 20), (.move (.tmp 1)), none⟩, ⟨(some 21), (.call 152 [(.tmp 20)]), none⟩, ⟨(some 22), (.build [(.v (.string (strB []))), (.v (.string (strB [])))] [(0, (1, (.const (.string (strB [51, 52, 48, 48, 48]))))), (1, (1, (.tmp 21)))]), none⟩, ⟨(some 23), (.mkI 90 (.tmp 22)), none⟩, ⟨none, (.store 6 (.tmp 4) (.tmp 19)), none⟩, ⟨(some 5), (.assign (.tmp 23)), none⟩]) .ret) .skip)) (.seq (.draws (.take ⟨(some 24), (.loadN 6 (.tmp 6)), none⟩ (.take ⟨(some 25), (.move (.tmp 0)), none⟩ (.take ⟨(some 26), (.faddr 0 (.tmp 6)), none⟩ (.take ⟨(some 27), (.loadN 2 (.tmp 26)), none⟩ (.only ⟨(some 28), (.call 147 [(.tmp 25), (.tmp 27)]), none⟩ (.only ⟨none, (.store 6 (.tmp 4) (.tmp 24)), none⟩ (.take ⟨(some 5), (.assign (.tmp 28)), none⟩ .done)))))))) .ret)))), [(.loadN 6 (.tmp 4)), (.move (.tmp 5))]⟩
theorem k89 : cfun Tryz.prog 89 = some c89 := by kernel_rfl
def c90 : XFun := ⟨10, (.seq (.ops [⟨(some 1), (.box (.tmp 0)), none⟩, ⟨(some 2), (.assign (.const (.bool false))), none⟩]) (.seq (.ops [⟨(some 3), (.loadN 3 (.tmp 1)), none⟩, ⟨(some 4), (.call 77 [(.tmp 3)]), none⟩, ⟨(some 5), (.move (.tmp 4)), none⟩, ⟨(some 6), (.faddr 0 (.tmp 1)), (some (5, false))⟩, ⟨(some 7), (.load1 (.tmp 6)), (some (5, false))⟩, ⟨(some 8), (.bin .eql (.tmp 7) (.const (.int .i64 1))), (some (5, false))⟩, ⟨(some 9), (.pick (.tmp 5) (.const (.bool true)) (.tmp 8)), none⟩, ⟨(some 2), (.assign (.tmp 9)), none⟩]) .ret)), [(.move (.tmp 2))]⟩
theorem k90 : cfun Tryz.prog 90 = some c90 := by kernel_rfl
def c147 : XFun := ⟨20, (.seq (.ops [⟨(some 3), (.box (.tmp 1)), none⟩, ⟨(some 4), (.assign (.const .nilIface)), none⟩]) (.seq (.seq (.ops [⟨(some 5), (.move (.tmp 0)), none⟩, ⟨(some 6), (.nilCheck (.tmp 5)), none⟩, ⟨(some 7), (.faddr 3 (.tmp 6)), none⟩, ⟨(some 8), (.load1 (.tmp 7)), none⟩, ⟨(some 9), (.bin .eql (.tmp 8) (.const (.int .u8 69))), none⟩, ⟨(some 10), (.move (.tmp 9)), none⟩, ⟨(some 11), (.faddr 0 (.tmp 3)), (some (10, true))⟩, ⟨(some 12), (.load1 (.tmp 11)), (some (10, true))⟩, ⟨(some 13), (.call 76 [(.tmp 12)]), (some (10, true))⟩, ⟨(some 14), (.call 134 [(.tmp 13)]), (some (10, true))⟩, ⟨(some 15), (.un .not (.tmp 14)), (some (10, true))⟩, ⟨(some 16), (.pick (.tmp 10) (.tmp 15) (.const (.bool false))), none⟩]) (.cond (.tmp 16) (.seq (.ops [⟨(some 17), (.call 176 []), none⟩, ⟨(some 18), (.build [(.v (.string (strB []))), (.v (.string (strB [])))] [(0, (1, (.const (.string (strB [50, 53, 80, 48, 50]))))), (1, (1, (.tmp 17)))]), none⟩, ⟨(some 19), (.mkI 90 (.tmp 18)), none⟩, ⟨(some 4), (.assign (.tmp 19)), none⟩]) .ret) .skip)) (.seq (.ops [⟨(some 4), (.assign (.const .nilIface)), none⟩]) .ret))), [(.move (.tmp 4))]⟩
theorem k147 : cfun Tryz.prog 147 = some c147 := by kernel_rfl
end Go.Proofs.YtknohkmpficjgaaGreatDoor.Ax
namespace Go.Proofs.YtknohkmpficjgaaGreatDoor.Ax
open Go.RowKit Go By
set_option maxRecDepth 10000
abbrev Er := Option (List UInt8 × List UInt8)
def erV : Er -> AV
 | none => .v .nilIface
 | some x => .ifc 90 (.agg [.v (.string (strB x.1)), .v (.string (strB x.2))])
@[simp] theorem erV_none : erV none = .v .nilIface := of_eq_true (eq_self _)
@[simp] theorem erV_some (c t : List UInt8) : erV (some (c, t)) = .ifc 90 (.agg [.v (.string (strB c)), .v (.string (strB t))]) := of_eq_true (eq_self _)
theorem erV_id (o : Er) : (erV o).idOf = none := by cases o <;> rfl
@[simp] theorem ifc_unown (t : TypeId) (a : AV) : (AV.ifc t a).unown = AV.ifc t a := of_eq_true (eq_self _)
@[simp] theorem ifc_id (t : TypeId) (a : AV) : (AV.ifc t a).idOf = none := of_eq_true (eq_self _)
@[simp] theorem erV_unown (o : Er) : (erV o).unown = erV o := by cases o <;> rfl
theorem erV_lt (n : Nat) (o : Er) : (erV o).lt n := by cases o <;> simp [erV]
def vdO (d : Vd) : Er := if d.is = true then some (d.code, d.text) else none
def says (t : List UInt8) : Vb := sayQ (trimL t)
def exitK (k : Int) : Bool := decide (k = 3 \/ k = 4)
def rowsBK (k : Int) : Bool := decide (k = 5 \/ k = 6 \/ k = 7)
theorem exit_has (v : Vb) : [3, 4].contains v.kind = exitK v.kind := by
 unfold exitK
 rw [Bool.eq_iff_iff]; simp
theorem rows_has (v : Vb) : [5, 6, 7].contains v.kind = rowsBK v.kind := by
 unfold rowsBK
 rw [Bool.eq_iff_iff]; simp
theorem sexit_c (v : Vb) (h : List (List AV)) : Contract Tryz.prog 134 [.agg (vbC v)] h (.v (.bool (exitK v.kind))) h [] := by
 have := qexit_c v h
 rwa [exit_has] at this
theorem srows_c (v : Vb) (h : List (List AV)) : Contract Tryz.prog 77 [.agg (vbC v)] h (.v (.bool (rowsBK v.kind))) h [] := by
 have := qrows_c v h
 rwa [rows_has] at this
section
variable {L : List (Nat × List AV)} {h : List (List AV)} {i : Nat} {Z : Zs}
def verdO (Z : Zs) (s : List UInt8) : Er := vdO (verdict (Z.T.no s) (says s) Z.status)
theorem sverdict_c (g : SsG L h i Z) (s : List UInt8) (hs : s.length <= 100000) : Contract Tryz.prog 75 [.box i 0, .v (.string (strB s))] h (erV (verdO Z s)) h [] := by
 have h1 := g.top
 have hv := everdict_c g.eng s (by omega) Z.status
 refine contract_of k75 mixed (by simp [c75]) fun hh hargs => ?_
 simp [c75, h1, Zs.top_mk]
 refine xcall_self (by simp) hv ?_
 unfold verdO says
 generalize verdict (Z.T.no s) (sayQ (trimL s)) Z.status = d
 cases hd : d.is <;> simp [vdV, hd, vdO, hh]
def allowO (Z : Zs) (s : Sx) : Er := if Z.status = 69 /\ exitK (says s.text).kind = false then some (abC, abT) else none
theorem sallows_c (g : SsG L h i Z) (s : Sx) (hs : s.text.length <= 100000) : Contract Tryz.prog 147 [.box i 0, .agg (sxC s)] h (erV (allowO Z s)) h [] := by
 have e1 : ∀ xs, (h ++ xs)[i]? = some Z.top := fun xs => by rw [List.getElem?_append_left g.i_lt]; exact g.top
 have hq := fun H => qparse_c s.text (by omega) H
 refine contract_of k147 mixed (by simp [c147]) fun hh hargs => ?_
 unfold allowO
 by_cases s69 : Z.status = 69
 ·simp [c147, e1, Zs.top_mk, s69, sxC]
  refine xcall_self (by simp) (hq _) ?_
  simp
  refine xcall_self (by simp) (sexit_c _ _) ?_
  cases he : exitK (says s.text).kind with
  | true =>
   have he' : exitK (sayQ (trimL s.text)).kind = true := he
   simp [he', hh, leqH_take]
  | false =>
   have he' : exitK (sayQ (trimL s.text)).kind = false := he
   simp [he']
   refine xcall_self (by simp) (eaborted_c _) ?_
   simp [hh, leqH_take, abC]
 ·have s69' : (Z.status == 69) = false := by simpa using s69
  simp [c147, e1, Zs.top_mk, s69, s69', sxC, hh, leqH_take]
def missC : List UInt8 := [50, 54, 48, 48, 48]
def stmtO (Z : Zs) (k : List UInt8) : Sx × Er := match Z.get k with
 | none => (⟨[], []⟩, some (missC, missL k))
 | some s => (s, allowO Z s)
def Short (Z : Zs) : Prop := ∀ x ∈ Z.st, x.val.text.length <= 100000 /\ x.val.oids.length <= 1000
theorem Short.get (hz : Short Z) {k : List UInt8} {s : Sx} (hg : Z.get k = some s) : s.text.length <= 100000 /\ s.oids.length <= 1000 := by
 obtain ⟨x, hx, _, rfl⟩ := get_mem hg
 exact hz x hx
theorem sstmt_c (g : SsG L h i Z) (hz : Short Z) (k : List UInt8) (hk : k.length <= 100000) : Contract Tryz.prog 85 [.box i 0, .v (.string (strB k))] h (.tup [.agg (sxC (stmtO Z k).1), erV (stmtO Z k).2]) h [] := by
 have e1 : ∀ xs, (h ++ xs)[i]? = some Z.top := fun xs => by rw [List.getElem?_append_left g.i_lt]; exact g.top
 have e2 : ∀ xs, (h ++ xs)[Z.a]? = some Z.cells := fun xs => by rw [List.getElem?_append_left g.a_lt]; exact g.ents
 have h3 := Z.of_cells
 have h4 := Z.keys
 have h5 := Z.found k
 refine contract_of k85 mixed (by simp [c85]) fun hh hargs => ?_
 unfold stmtO
 cases hg : Z.get k with
 | none =>
  rw [hg] at h5
  simp only at h5
  simp [c85, e1, Zs.top_mk, e2, h3, h4, h5, elA]
  refine xcall_self (by simp) (tmiss_c k hk _) ?_
  simp [hh, leqH_take, sxC, missC]
 | some s =>
  rw [hg] at h5
  simp only at h5
  have hun : (sxC s).map AV.unown = sxC s := rfl
  have htk : List.take 2 (sxC s) = sxC s := rfl
  have hln : (sxC s).length = 2 := rfl
  have g2 : SsG [] (h ++ [[AV.v (.string (strB [])), .sl 0 [] (some true) .exact], sxC s]) i Z := by
   have := (g.none.app (c := [AV.v (.string (strB [])), .sl 0 [] (some true) .exact]) (by simp) (by simp)).app (c := sxC s) (sxC_lt _ s) (sxC_plain s)
   simpa using this.none
  have ha := sallows_c g2 s (hz.get hg).1
  simp [c85, e1, Zs.top_mk, e2, h3, h4, h5, hun, htk, hln]
  refine xcall_self (by simp) ha ?_
  have hid := erV_id (allowO Z s)
  have hl := erV_lt h.length (allowO Z s)
  simp [hh, leqH_take, hid, hl, hun, htk, hln, sxC_lt]
end
def pB (k : Int) : Bk := ⟨k, 0, [], [], [], 0, 0, [], [], [], []⟩
def desB (s : Sx) : Bk := if rowsBK (says s.text).kind = true then ⟨84, 0, [], [], [], 0, 0, [], colsK (heldI (colsQ (says s.text) s.oids.length)).toNat, [], []⟩ else pB 110
theorem sdesc_c (s : Sx) (hs : s.text.length <= 100000) (h : List (List AV)) : Contract Tryz.prog 79 [.agg (sxC s)] h (.agg (bkC (desB s))) h [] := by
 have hq := fun H => qparse_c s.text (by omega) H
 have hv : sayQ (trimL s.text) = says s.text := rfl
 rw [hv] at hq
 refine contract_of k79 mixed (by simp [c79]) fun hh hargs => ?_
 unfold desB
 simp [c79, sxC]
 refine xcall_self (by simp) (hq _) ?_
 simp
 refine xcall_self (by simp) (srows_c _ _) ?_
 cases hr : rowsBK (says s.text).kind with
 | false => simp [hh, leqH_take, bkC_mk, pB]
 | true =>
  simp
  refine xcall_self (by simp) (qcols_c _ _ _) ?_
  simp
  refine xcall_self (by simp) (kdesc_c _ _) ?_
  simp [hh, leqH_take]
def rowB (l : List Cl) : Bk := ⟨68, 0, [], [], [], 0, 0, [], [], l, []⟩
def tagB (n : Nat) : Bk := ⟨67, 0, [83, 69, 76, 69, 67, 84, 32] ++ Dg.textL (n : Int), [], [], 0, 0, [], [], [], []⟩
def endB (n : Nat) (more : Bool) : Bk := if more = true then pB 115 else tagB n
def toldL (rows : List (List Cl)) (more : Bool) : List Bk := rows.map rowB ++ [endB rows.length more]
theorem stold_c (rows : List (List Cl)) (more : Bool) (hl : rows.length <= 1000000) (hr : ∀ r ∈ rows, r.length <= 1000000 /\ ∀ c ∈ r, c.2.length <= 140737488351232) (h : List (List AV)) :
  Contract Tryz.prog 80 [.sl 1 (enc rowKC rows) none .no, .v (.bool more)] h (.sl 11 (enc bkC (toldL rows more)) none (.own .res)) h [] := by
 refine contract_of k80 mixed (by simp [c80]) fun hh hargs => ?_
 simp [c80]
 refine xloop_ok (D := Nat) (fun j => ⟨[(0, .sl 1 (enc rowKC rows) none .no), (1, .v (.bool more)), (8, .sl 1 (enc rowKC rows) none .no), (9, .v (.int .i64 (rows.length : Int))), (10, .v (.int .i64 j))], [(5, .sl 11 (enc bkC ((rows.take j).map rowB)) none (.own (.slot 5)))], h, []⟩) (fun j => j <= rows.length) (fun j => rows.length - j) 0 (by simp) ?_ ?_
 ·simp [Leq, hh]
 ·intro j hj
  by_cases hlt : j < rows.length
  ·have hw : IntKind.i64.wrap ((j : Int) + 1) = (j : Int) + 1 := wrap64 (by omega) (by omega)
   obtain ⟨f1, f2⟩ := hr _ (List.getElem_mem hlt)
   have hnext : enc bkC ((rows.map rowB).take (j + 1)) = enc bkC ((rows.map rowB).take j) ++ [bkC ⟨68, 0, [], [], [], 0, 0, [], [], rows[j], []⟩] := by
    rw [List.take_succ_eq_append_getElem (by simpa using hlt)]
    simp [enc, rowB]
   simp [hlt, rowKC_mk]
   refine xcall_self (by simp) (krowm_c rows[j] f1 f2 _) ?_
   simp [hw]
   refine ⟨by omega, by omega, j + 1, by omega, by omega, ?_⟩
   simp [Leq, hh, hnext]
  ·have : j = rows.length := by omega
   subst this
   cases more with
   | true =>
    simp [toldL, endB, pB, bkC_mk, hh]
    omega
   | false =>
    simp
    refine xcall_self (by simp) (ktag_c _ (by omega) (by omega) _) ?_
    simp [toldL, endB, tagB, bkC_mk, hh]
    omega
section
variable {L : List (Nat × List AV)} {h : List (List AV)} {i : Nat} {Z : Zs}
def portC : List UInt8 := [51, 52, 48, 48, 48]
def portO (Z : Zs) (k : List UInt8) : Pt × Er := match Z.S.get k with
 | none => (zPt, some (portC, portL k))
 | some x => (x.p, allowO Z ⟨x.p.text, x.p.oids⟩)
def ShortP (Z : Zs) : Prop := ∀ x ∈ Z.S.e, x.val.p.text.length <= 100000
def z6 : List AV := [.v (.string (strB [])), .sl 0 [] (some true) .exact, .sl 0 [] (some true) .exact, .sl 0 [] (some true) .exact, .v (.bool false), .v (.bool false)]
theorem sport_c (g : SsG L h i Z) (ho : PsOk Z.S) (hz : ShortP Z) (k : List UInt8) (hk : k.length <= 100000) : Contract Tryz.prog 89 [.box i 0, .v (.string (strB k))] h (.tup [.agg (ptV (portO Z k).1), erV (portO Z k).2]) h [] := by
 have e1 : ∀ xs, (h ++ xs)[i]? = some Z.top := fun xs => by rw [List.getElem?_append_left g.i_lt]; exact g.top
 have hr' := g.por.app [z6] (by simp [z6])
 unfold z6 at hr'
 refine contract_of k89 mixed (by simp [c89]) fun hh hargs => ?_
 unfold portO
 cases hg : Z.S.get k with
 | none =>
  have hp := pget_n hr' hg
  simp [c89, e1, Zs.top_mk]
  refine xcall_self (by simp) hp ?_
  simp [ptV, ptC, zPt]
  refine xcall_self (by simp) (tport_c k hk _) ?_
  simp [hh, leqH_take, portC]
 | some x =>
  obtain ⟨y, hy, _, rfl⟩ := get_mem hg
  have hp := pget_s hr' ho hg
  have g2 : SsG [] (h ++ [[AV.v (.string (strB [])), .sl 0 [] (some true) .exact, .sl 0 [] (some true) .exact, .sl 0 [] (some true) .exact, .v (.bool false), .v (.bool false)], ptV y.val.p]) i Z := by
   have := (g.none.app (c := z6) (by simp [z6]) (by simp [z6])).app (c := ptV y.val.p) (ptC_lt (by simp)) (ptC_id rfl)
   simpa [z6] using this.none
  have ha := sallows_c g2 ⟨y.val.p.text, y.val.p.oids⟩ (hz y hy)
  have hid := erV_id (allowO Z ⟨y.val.p.text, y.val.p.oids⟩)
  have hl := erV_lt h.length (allowO Z ⟨y.val.p.text, y.val.p.oids⟩)
  simp only [ptV, ptC, sxC] at hp ha g2 ⊢
  simp [c89, e1, Zs.top_mk]
  refine xcall_self (by simp) hp ?_
  simp
  refine xcall_self (by simp) ha ?_
  simp [hh, leqH_take, hid, hl]
def closeL (f : Fm) : List Bk := if f.what = 83 \/ f.what = 80 then [pB 51] else []
def closeZ (Z : Zs) (f : Fm) : Zs := if f.what = 83 then Z.del f.name else if f.what = 80 then { Z with S := Z.S.del f.portal } else Z
theorem Zs.del_cells (Z : Zs) (k : List UInt8) : mapC Z.clock (AEnt.del (.string (strB k)) (Z.st.map (KE.ent sxC))) = (Z.del k).cells := by rw [KE.del_eq]; rfl
theorem sclose_d (g : SsG [] h i Z) (f : Fm) : DoesS 47 [.box i 0, .agg (fmC f)] h i Z (fun _ v => v = .sl 11 (enc bkC (closeL f)) none .no) (closeZ Z f) := by
 have e1 : ∀ xs, (h ++ xs)[i]? = some Z.top := fun xs => by rw [List.getElem?_append_left g.i_lt]; exact g.top
 have e2 : ∀ xs, (h ++ xs)[Z.a]? = some Z.cells := fun xs => by rw [List.getElem?_append_left g.a_lt]; exact g.ents
 have e3 : ∀ xs cs, (h ++ xs).set Z.a cs = h.set Z.a cs ++ xs := fun xs cs => List.set_append_left _ _ g.a_lt
 have h3 := Z.of_cells
 have h4 := Z.keys
 unfold closeZ closeL
 by_cases w83 : f.what = 83
 ·have hd := Z.del_cells f.name
  have hl := (Z.del f.name).lt h.length
  have hll := ltLL_set (i := Z.a) g.hh hl
  rw [if_pos w83, if_pos (.inl w83)]
  refine ⟨h.set Z.a (Z.del f.name).cells, [Z.a], _, ?_, rfl, g.setEnts _ _, fun q hq _ => by rw [List.mem_singleton.1 hq]; exact Zs.vars_mem.2 (.inr (.inl (by simp [Zs.own]))), by simp, fun q hq hn => List.getElem?_set_ne fun e => hn (by rw [<- e]; exact Zs.vars_mem.2 (.inr (.inl (by simp [Zs.own])))), fun q hq => .inl hq⟩
  refine contract_of k47 mixed (by simp [c47]) fun hh hargs => ?_
  simp [c47, w83, e1, Zs.top_mk, e2, h3, h4, hd, e3, hll, leqH_take, bkC_mk, pB, leqC_same]
 ·rw [if_neg w83]
  have w83' : (f.what == 83) = false := by simpa using w83
  by_cases w80 : f.what = 80
  ·rw [if_pos w80, if_pos (.inr w80)]
   have g1 := g.app (c := fmC f) (by simp) (by simp [fmC_mk])
   obtain ⟨h', wr, k, g', ht, hl, hw, hs, hv⟩ := g1.byP (pdel_d g1.por f.portal)
   have hlen : h.length <= h'.length := by simp at hl; omega
   have hmem : ∀ q ∈ wr, q < h.length -> q ∈ Z.S.vars := fun q hq hlt => hw q hq (by simp; omega)
   refine ⟨h', wr, _, ?_, rfl, g'.none, fun q hq hlt => Zs.vars_mem.2 (.inr (.inr (hmem q hq hlt))), hlen, fun q hq hn => ?_, fun q hq => ?_⟩
   ·refine contract_of k47 mixed (by simp [c47]) fun hh hargs => ?_
    have hgh := g'.hh
    simp [c47, w83, w83', w80, e1, Zs.top_mk]
    refine xcall_self (by simp) k ?_
    obtain ⟨o1, _⟩ := g1.off hw
    have o2 := ht (h.length, fmC f) (by simp)
    dsimp only at o2
    simp [hgh, leqH_take, bkC_mk, pB, o1, o2, hlen]
    exact fun q hq _ => hq
   ·rw [hs q (by simp; omega) fun hh => hn (Zs.vars_mem.2 (.inr (.inr hh))), List.getElem?_append_left hq]
   ·rcases Zs.vars_mem.1 hq with hq | hq | hq
    ·exact .inl (Zs.vars_mem.2 (.inl hq))
    ·exact .inl (Zs.vars_mem.2 (.inr (.inl hq)))
    ·rcases hv q hq with h1 | h1
     ·exact .inl (Zs.vars_mem.2 (.inr (.inr h1)))
     ·right; simp at h1; omega
  ·rw [if_neg w80, if_neg (by rintro (e | e); exact w83 e; exact w80 e)]
   have w80' : (f.what == 80) = false := by simpa using w80
   refine ⟨h, [], _, ?_, rfl, g, (fun q hq => by cases hq), Nat.le_refl _, (fun _ _ _ => rfl), (fun q hq => .inl hq)⟩
   refine contract_of k47 mixed (by simp [c47]) fun hh hargs => ?_
   simp [c47, w83, w83', w80, w80', hh, leqH_take]
def existC : List UInt8 := [52, 50, 80, 48, 53]
def parse1 (Z : Zs) (f : Fm) : Zs := if f.name = [] then Z.del [] else Z
def parseO (Z : Zs) (f : Fm) : Er := match verdO Z f.text with
 | some e => some e
 | none => if ((parse1 Z f).get f.name).isSome = true then some (existC, existL f.name) else none
def parseZ (Z : Zs) (f : Fm) : Zs := match verdO Z f.text with
 | some _ => parse1 Z f
 | none => if ((parse1 Z f).get f.name).isSome = true then parse1 Z f else (parse1 Z f).put f.name ⟨f.text, f.oids⟩
theorem parse1_verd (Z : Zs) (f : Fm) (s : List UInt8) : verdO (parse1 Z f) s = verdO Z s := by unfold parse1; split <;> rfl
def stepV (M : List Bk) (o : Er) : AV := .tup [if o.isSome = true then .sl 0 [] (some true) .exact else .sl 11 (enc bkC M) none .no, erV o]
theorem stepV_none (M : List Bk) : stepV M none = .tup [.sl 11 (enc bkC M) none .no, .v .nilIface] := rfl
theorem stepV_some (M : List Bk) (c t : List UInt8) : stepV M (some (c, t)) = .tup [.sl 0 [] (some true) .exact, .ifc 90 (.agg [.v (.string (strB c)), .v (.string (strB t))])] := rfl
theorem Zs.put_cells {Z : Zs} (ho : KE.Ok Z.clock Z.st) (k : List UInt8) (s : Sx) : mapC (AEnt.put (.string (strB k)) Z.clock (sxC s) (Z.st.map (KE.ent sxC))).2 (AEnt.put (.string (strB k)) Z.clock (sxC s) (Z.st.map (KE.ent sxC))).1 = (Z.put k s).cells := by
 rw [KE.put_eq sxC ho k s]; rfl
theorem sparse_d (g : SsG [] h i Z) (ho : KE.Ok Z.clock Z.st) (f : Fm) (hn : f.name.length <= 100000) (ht : f.text.length <= 100000) (hoi : f.oids.length <= 1000000) : DoesS 43 [.box i 0, .agg (fmC f)] h i Z (fun _ v => v = stepV [pB 49] (parseO Z f)) (parseZ Z f) := by
 have e1 : ∀ xs, (h ++ xs)[i]? = some Z.top := fun xs => by rw [List.getElem?_append_left g.i_lt]; exact g.top
 have e2 : ∀ xs, (h ++ xs)[Z.a]? = some Z.cells := fun xs => by rw [List.getElem?_append_left g.a_lt]; exact g.ents
 have e3 : ∀ xs cs, (h ++ xs).set Z.a cs = h.set Z.a cs ++ xs := fun xs cs => List.set_append_left _ _ g.a_lt
 have n3 := g.nd4.2.2.1
 have na := g.na
 have ni := g.ni
 have Y : ∃ Y, Y = parse1 Z f := ⟨_, rfl⟩
 obtain ⟨Y, hY⟩ := Y
 have hYa : Y.a = Z.a := by rw [hY]; unfold parse1; split <;> rfl
 have hYo : KE.Ok Y.clock Y.st := by rw [hY]; unfold parse1; split
                                     ·exact KE.del_ok ho _
                                     ·exact ho
 have hYt : Y.top = Z.top := by rw [hY]; unfold parse1; split <;> rfl
 have hYv : ∀ i, Y.vars i = Z.vars i := fun i => by rw [hY]; unfold parse1; split <;> rfl
 have gY : SsG [] (h.set Z.a Y.cells) i Y := by
  rw [hY]; unfold parse1
  split
  ·exact g.setEnts _ _
  ·have : h.set Z.a Z.cells = h := set_same g.ents
   rw [this]; exact g
 have gYf : SsG [] (h.set Z.a Y.cells ++ [fmC f]) i Y := (gY.app (c := fmC f) (by simp) (by simp [fmC_mk])).none
 have hv := sverdict_c gYf f.text ht
 rw [hY, parse1_verd, <- hY] at hv
 have f1 : ∀ xs, (h.set Z.a Y.cells ++ xs)[i]? = some Z.top := fun xs => by rw [List.getElem?_append_left gY.i_lt, <- hYt]; exact gY.top
 have f2 : ∀ xs, (h.set Z.a Y.cells ++ xs)[Z.a]? = some Y.cells := fun xs => by rw [List.getElem?_append_left (by simpa using g.a_lt)]; exact List.getElem?_set_self g.a_lt
 have f3 : ∀ xs cs, (h.set Z.a Y.cells ++ xs).set Z.a cs = h.set Z.a cs ++ xs := fun xs cs => by rw [List.set_append_left _ _ (by simpa using g.a_lt), List.set_set]
 have q3 := Y.of_cells
 have q4 := Y.keys
 have q5 := Y.found f.name
 have fin : ∀ (o : Er) (Z' : Zs), (∃ c l, Z' = { Y with clock := c, st := l }) -> Contract Tryz.prog 43 [.box i 0, .agg (fmC f)] h (stepV [pB 49] o) (h.set Z.a Z'.cells) [Z.a] -> DoesS 43 [.box i 0, .agg (fmC f)] h i Z (fun _ v => v = stepV [pB 49] o) Z' := fun o Z' hz k => by
  obtain ⟨c, l, rfl⟩ := hz
  have gg := gY.setEnts c l
  have e : ∀ X, (h.set Z.a Y.cells).set Y.a X = h.set Z.a X := fun X => by rw [hYa, List.set_set]
  rw [e] at gg
  refine ⟨_, [Z.a], _, k, rfl, gg, fun q hq _ => by rw [List.mem_singleton.1 hq]; exact Zs.vars_mem.2 (.inr (.inl (by simp [Zs.own]))), by simp, fun q hq hn => List.getElem?_set_ne fun e => hn (by rw [<- e]; exact Zs.vars_mem.2 (.inr (.inl (by simp [Zs.own])))), fun q hq => .inl ?_⟩
  rw [<- hYv]; exact hq
 have hwalk : ∀ (o : Er) (Z' : Zs), (∃ c l, Z' = { Y with clock := c, st := l }) ->
   (match verdO Z f.text with
    | some e => o = some e /\ Z' = Y
    | none => match Y.get f.name with
     | some _ => o = some (existC, existL f.name) /\ Z' = Y
     | none => o = none /\ Z' = Y.put f.name ⟨f.text, f.oids⟩) -> Contract Tryz.prog 43 [.box i 0, .agg (fmC f)] h (stepV [pB 49] o) (h.set Z.a Z'.cells) [Z.a] := fun o Z' hz hres => by
  have hll := ltLL_set (i := Z.a) g.hh (Z'.lt h.length)
  refine contract_of k43 mixed (by simp [c43]) fun hh hargs => ?_
  have tail : ∀ (K : Prop), K -> K := fun K hk => hk
  by_cases h0 : f.name = []
  ·have hd := Z.del_cells []
   have hYd : Y = Z.del [] := by rw [hY]; unfold parse1; rw [if_pos h0]
   rw [<- hYd] at hd
   have h3 := Z.of_cells
   have h4 := Z.keys
   simp [c43, h0, e1, Zs.top_mk, e2, h3, h4, hd, e3]
   refine xcall_self (by simp) hv ?_
   cases hvd : verdO Z f.text with
   | some e =>
    rw [hvd] at hres
    obtain ⟨rfl, rfl⟩ := hres
    obtain ⟨c, t⟩ := e
    simp [stepV, hll, leqH_take, leqC_same]
   | none =>
    rw [hvd] at hres
    simp only at hres
    cases hg : Y.get f.name with
    | some s =>
     rw [hg] at hres q5
     obtain ⟨rfl, rfl⟩ := hres
     simp only [h0, sxC] at q5
     simp [f1, Zs.top_mk, f2, na, ni, q3, q4, q5, h0]
     refine xcall_self (by simp) (texist_c [] (by simp) _) ?_
     simp [stepV, hll, leqH_take, leqC_same, existC, h0]
    | none =>
     rw [hg] at hres q5
     obtain ⟨rfl, rfl⟩ := hres
     simp only [h0] at q5
     have hput := Zs.put_cells hYo f.name ⟨f.text, f.oids⟩
     simp only [sxC, h0] at hput hll
     simp [f1, Zs.top_mk, f2, na, ni, q3, q4, q5, h0, elA]
     refine xcall_self (by simp) (sclone_c [] (by simp) _) ?_
     simp
     refine xcall_self (by simp) (sclone_c f.text (by omega) _) ?_
     simp
     refine xcall_self (by simp) (jclone_c f.oids hoi _) ?_
     simp [f1, f2, q3, q4, hput, f3, stepV, hll, leqH_take, leqC_same, pB, bkC_mk]
  ·have h0' : (f.name == []) = false := by simpa using h0
   have hYd : Y = Z := by rw [hY]; unfold parse1; rw [if_neg h0]
   have hsame : h.set Z.a Y.cells = h := by rw [hYd]; exact set_same g.ents
   rw [hsame] at hv f1 f2 f3
   simp [c43, h0, h0']
   refine xcall_self (by simp) hv ?_
   cases hvd : verdO Z f.text with
   | some e =>
    rw [hvd] at hres
    obtain ⟨rfl, rfl⟩ := hres
    obtain ⟨c, t⟩ := e
    simp [stepV, hh, hsame, leqH_take, leqC_same]
   | none =>
    rw [hvd] at hres
    simp only at hres
    cases hg : Y.get f.name with
    | some s =>
     rw [hg] at hres q5
     obtain ⟨rfl, rfl⟩ := hres
     simp only [sxC] at q5
     simp [f1, Zs.top_mk, f2, na, ni, q3, q4, q5]
     refine xcall_self (by simp) (texist_c f.name hn _) ?_
     simp [stepV, hh, hsame, leqH_take, leqC_same, existC]
    | none =>
     rw [hg] at hres q5
     obtain ⟨rfl, rfl⟩ := hres
     simp only at q5
     have hput := Zs.put_cells hYo f.name ⟨f.text, f.oids⟩
     simp only [sxC] at hput
     simp [f1, Zs.top_mk, f2, na, ni, q3, q4, q5, elA]
     refine xcall_self (by simp) (sclone_c f.name (by omega) _) ?_
     simp
     refine xcall_self (by simp) (sclone_c f.text (by omega) _) ?_
     simp
     refine xcall_self (by simp) (jclone_c f.oids hoi _) ?_
     simp [f1, f2, q3, q4, hput, f3, stepV, hll, leqH_take, leqC_same, pB, bkC_mk]
 unfold parseO parseZ
 rw [<- hY]
 cases hvd : verdO Z f.text with
 | some e => exact fin _ _ ⟨Y.clock, Y.st, rfl⟩ (hwalk _ _ ⟨Y.clock, Y.st, rfl⟩ (by rw [hvd]; exact ⟨rfl, rfl⟩))
 | none =>
  cases hg : Y.get f.name with
  | some s => exact fin _ _ ⟨Y.clock, Y.st, rfl⟩ (hwalk _ _ ⟨Y.clock, Y.st, rfl⟩ (by rw [hvd]; simp only [hg]; exact ⟨rfl, rfl⟩))
  | none => exact fin _ _ ⟨_, _, rfl⟩ (hwalk _ _ ⟨_, _, rfl⟩ (by rw [hvd]; simp only [hg]; exact ⟨rfl, rfl⟩))
end
end Go.Proofs.YtknohkmpficjgaaGreatDoor.Ax
