/- tell.Rename over values without memory, but for numbers of parameters; awake; the statement of what is said of any name. -/
import Derived.Test.YtebggfghemblbaaDoorQAxHs
import Derived.Test.YtebggfghemblbaaDoorRows
import Derived.Test.YtebggfghemblbaaDoorQAxDg
/- The texts of functions over values without memory, as the kernel reckons them out of the program. -/
namespace Go.Proofs.YtebggfghemblbaaDoor.Ax
open Go.RowKit Go By

def c8 : XFun := ⟨8, (.seq (.ops [⟨(some 2), (.assign (.const (.string (strB [])))), none⟩]) (.seq (.seq (.ops [⟨(some 3), (.move (.tmp 0)), none⟩, ⟨(some 4), (.bin .eql (.tmp 3) (.const (.string (strB [])))), none⟩]) (.cond (.tmp 4) (.seq (.ops [⟨(some 2), (.assign (.const (.string (strB [117, 110, 110, 97, 109, 101, 100, 32, 112, 114, 101, 112, 97, 114, 101, 100, 32, 115, 116, 97, 116, 101, 109, 101, 110, 116, 32, 100, 111, 101, 115, 32, 110, 111, 116, 32, 101, 120, 105, 115, 116])))), none⟩]) .ret) .skip)) (.seq (.ops [⟨(some 5), (.move (.tmp 0)), none⟩, ⟨(some 6), (.call 16 [(.tmp 5)]), none⟩, ⟨(some 7), (.bin .add (.tmp 6) (.const (.string (strB [32, 100, 111, 101, 115, 32, 110, 111, 116, 32, 101, 120, 105, 115, 116])))), none⟩, ⟨(some 2), (.assign (.tmp 7)), none⟩]) .ret))), [(.move (.tmp 2))]⟩
theorem k8 : cfun Tryd.prog 8 = some c8 := by kernel_rfl
def c9 : XFun := ⟨6, (.seq (.ops [⟨(some 2), (.assign (.const (.string (strB [])))), none⟩]) (.seq (.ops [⟨(some 3), (.move (.tmp 0)), none⟩, ⟨(some 4), (.call 16 [(.tmp 3)]), none⟩, ⟨(some 5), (.bin .add (.tmp 4) (.const (.string (strB [32, 97, 108, 114, 101, 97, 100, 121, 32, 101, 120, 105, 115, 116, 115])))), none⟩, ⟨(some 2), (.assign (.tmp 5)), none⟩]) .ret)), [(.move (.tmp 2))]⟩
theorem k9 : cfun Tryd.prog 9 = some c9 := by kernel_rfl
def c10 : XFun := ⟨17, (.seq (.ops [⟨(some 6), (.assign (.const (.string (strB [])))), none⟩]) (.seq (.ops [⟨(some 7), (.move (.tmp 0)), none⟩, ⟨(some 8), (.call 17 [(.tmp 7)]), none⟩, ⟨(some 9), (.bin .add (.const (.string (strB [98, 105, 110, 100, 32, 109, 101, 115, 115, 97, 103, 101, 32, 115, 117, 112, 112, 108, 105, 101, 115, 32]))) (.tmp 8)), none⟩, ⟨(some 10), (.bin .add (.tmp 9) (.const (.string (strB [32, 112, 97, 114, 97, 109, 101, 116, 101, 114, 115])))), none⟩, ⟨(some 11), (.move (.tmp 1)), none⟩, ⟨(some 12), (.call 12 [(.tmp 11)]), none⟩, ⟨(some 13), (.bin .add (.tmp 10) (.tmp 12)), none⟩, ⟨(some 14), (.move (.tmp 2)), none⟩, ⟨(some 15), (.call 17 [(.tmp 14)]), none⟩, ⟨(some 16), (.bin .add (.tmp 13) (.tmp 15)), none⟩, ⟨(some 6), (.assign (.tmp 16)), none⟩]) .ret)), [(.move (.tmp 6))]⟩
theorem k10 : cfun Tryd.prog 10 = some c10 := by kernel_rfl
def c6 : XFun := ⟨35, (.seq (.ops [⟨(some 8), (.assign (.const (.string (strB [])))), none⟩]) (.seq (.seq (.ops [⟨(some 9), (.move (.tmp 0)), none⟩]) (.block 0 (.seq (.ops [⟨(some 11), (.bin .eql (.tmp 9) (.const (.string (strB [50, 54, 48, 48, 48])))), none⟩, ⟨(some 10), (.assign (.tmp 11)), none⟩]) (.cond (.tmp 10) (.seq (.ops [⟨(some 12), (.move (.tmp 1)), none⟩, ⟨(some 13), (.move (.tmp 2)), none⟩, ⟨(some 14), (.call 8 [(.tmp 13)]), none⟩, ⟨(some 15), (.bin .eql (.tmp 12) (.tmp 14)), none⟩]) (.cond (.tmp 15) (.seq (.ops [⟨(some 16), (.move (.tmp 3)), none⟩, ⟨(some 17), (.call 8 [(.tmp 16)]), none⟩, ⟨(some 8), (.assign (.tmp 17)), none⟩]) .ret) .skip)) (.seq (.ops [⟨(some 19), (.bin .eql (.tmp 9) (.const (.string (strB [52, 50, 80, 48, 53])))), none⟩, ⟨(some 18), (.assign (.tmp 19)), none⟩]) (.cond (.tmp 18) (.seq (.ops [⟨(some 20), (.move (.tmp 1)), none⟩, ⟨(some 21), (.move (.tmp 2)), none⟩, ⟨(some 22), (.call 9 [(.tmp 21)]), none⟩, ⟨(some 23), (.bin .eql (.tmp 20) (.tmp 22)), none⟩]) (.cond (.tmp 23) (.seq (.ops [⟨(some 24), (.move (.tmp 3)), none⟩, ⟨(some 25), (.call 9 [(.tmp 24)]), none⟩, ⟨(some 8), (.assign (.tmp 25)), none⟩]) .ret) .skip)) (.seq (.ops [⟨(some 27), (.bin .eql (.tmp 9) (.const (.string (strB [48, 56, 80, 48, 49])))), none⟩, ⟨(some 26), (.assign (.tmp 27)), none⟩]) (.cond (.tmp 26) (.seq (.ops [⟨(some 28), (.move (.tmp 1)), none⟩, ⟨(some 29), (.move (.tmp 2)), none⟩, ⟨(some 30), (.call 12 [(.tmp 29)]), none⟩, ⟨(some 31), (.move (.tmp 3)), none⟩, ⟨(some 32), (.call 12 [(.tmp 31)]), none⟩, ⟨(some 33), (.call 11 [(.tmp 28), (.tmp 30), (.tmp 32), (.const (.int .i64 1))]), none⟩, ⟨(some 8), (.assign (.tmp 33)), none⟩]) .ret) .skip)))))))) (.seq (.ops [⟨(some 34), (.move (.tmp 1)), none⟩, ⟨(some 8), (.assign (.tmp 34)), none⟩]) .ret))), [(.move (.tmp 8))]⟩
theorem k6 : cfun Tryd.prog 6 = some c6 := by kernel_rfl
def c12 : XFun := ⟨7, (.seq (.ops [⟨(some 2), (.assign (.const (.string (strB [])))), none⟩]) (.seq (.ops [⟨(some 3), (.move (.tmp 0)), none⟩, ⟨(some 4), (.call 16 [(.tmp 3)]), none⟩, ⟨(some 5), (.bin .add (.const (.string (strB [44, 32, 98, 117, 116, 32]))) (.tmp 4)), none⟩, ⟨(some 6), (.bin .add (.tmp 5) (.const (.string (strB [32, 114, 101, 113, 117, 105, 114, 101, 115, 32])))), none⟩, ⟨(some 2), (.assign (.tmp 6)), none⟩]) .ret)), [(.move (.tmp 2))]⟩
theorem k12 : cfun Tryd.prog 12 = some c12 := by kernel_rfl
def c16 : XFun := ⟨6, (.seq (.ops [⟨(some 2), (.assign (.const (.string (strB [])))), none⟩]) (.seq (.ops [⟨(some 3), (.move (.tmp 0)), none⟩, ⟨(some 4), (.call 24 [(.tmp 3)]), none⟩, ⟨(some 5), (.bin .add (.const (.string (strB [112, 114, 101, 112, 97, 114, 101, 100, 32, 115, 116, 97, 116, 101, 109, 101, 110, 116, 32]))) (.tmp 4)), none⟩, ⟨(some 2), (.assign (.tmp 5)), none⟩]) .ret)), [(.move (.tmp 2))]⟩
theorem k16 : cfun Tryd.prog 16 = some c16 := by kernel_rfl
def c13 : XFun := ⟨9, (.seq (.ops [⟨(some 2), (.assign (.const (.string (strB [])))), none⟩]) (.seq (.seq (.ops [⟨(some 3), (.move (.tmp 0)), none⟩, ⟨(some 4), (.bin .eql (.tmp 3) (.const (.string (strB [])))), none⟩]) (.cond (.tmp 4) (.seq (.ops [⟨(some 2), (.assign (.const (.string (strB [117, 110, 110, 97, 109, 101, 100, 32, 112, 114, 101, 112, 97, 114, 101, 100, 32, 115, 116, 97, 116, 101, 109, 101, 110, 116, 32, 100, 111, 101, 115, 32, 110, 111, 116, 32, 101, 120, 105, 115, 116])))), none⟩]) .ret) .skip)) (.seq (.ops [⟨(some 5), (.move (.tmp 0)), none⟩, ⟨(some 6), (.call 15 [(.tmp 5)]), none⟩, ⟨(some 7), (.bin .add (.const (.string (strB [112, 114, 101, 112, 97, 114, 101, 100, 32, 115, 116, 97, 116, 101, 109, 101, 110, 116, 32]))) (.tmp 6)), none⟩, ⟨(some 8), (.bin .add (.tmp 7) (.const (.string (strB [32, 100, 111, 101, 115, 32, 110, 111, 116, 32, 101, 120, 105, 115, 116])))), none⟩, ⟨(some 2), (.assign (.tmp 8)), none⟩]) .ret))), [(.move (.tmp 2))]⟩
theorem k13 : cfun Tryd.prog 13 = some c13 := by kernel_rfl
def c14 : XFun := ⟨7, (.seq (.ops [⟨(some 2), (.assign (.const (.string (strB [])))), none⟩]) (.seq (.ops [⟨(some 3), (.move (.tmp 0)), none⟩, ⟨(some 4), (.call 15 [(.tmp 3)]), none⟩, ⟨(some 5), (.bin .add (.const (.string (strB [112, 114, 101, 112, 97, 114, 101, 100, 32, 115, 116, 97, 116, 101, 109, 101, 110, 116, 32]))) (.tmp 4)), none⟩, ⟨(some 6), (.bin .add (.tmp 5) (.const (.string (strB [32, 97, 108, 114, 101, 97, 100, 121, 32, 101, 120, 105, 115, 116, 115])))), none⟩, ⟨(some 2), (.assign (.tmp 6)), none⟩]) .ret)), [(.move (.tmp 2))]⟩
theorem k14 : cfun Tryd.prog 14 = some c14 := by kernel_rfl
def c7 : XFun := ⟨87, (.seq (.ops [⟨(some 8), (.assign (.const (.string (strB [])))), none⟩]) (.seq (.block 0 (.seq (.ops [⟨(some 15), (.move (.tmp 0)), none⟩, ⟨(some 16), (.bin .eql (.tmp 15) (.const (.string (strB [50, 54, 48, 48, 48])))), none⟩, ⟨(some 17), (.move (.tmp 16)), none⟩, ⟨(some 18), (.move (.tmp 1)), (some (17, true))⟩, ⟨(some 19), (.move (.tmp 2)), (some (17, true))⟩, ⟨(some 20), (.call 13 [(.tmp 19)]), (some (17, true))⟩, ⟨(some 21), (.bin .eql (.tmp 18) (.tmp 20)), (some (17, true))⟩, ⟨(some 22), (.pick (.tmp 17) (.tmp 21) (.const (.bool false))), none⟩, ⟨(some 14), (.assign (.tmp 22)), none⟩]) (.cond (.tmp 14) (.seq (.ops [⟨(some 23), (.move (.tmp 3)), none⟩, ⟨(some 24), (.call 13 [(.tmp 23)]), none⟩, ⟨(some 8), (.assign (.tmp 24)), none⟩]) .ret) (.seq (.ops [⟨(some 26), (.move (.tmp 0)), none⟩, ⟨(some 27), (.bin .eql (.tmp 26) (.const (.string (strB [52, 50, 80, 48, 53])))), none⟩, ⟨(some 28), (.move (.tmp 27)), none⟩, ⟨(some 29), (.move (.tmp 1)), (some (28, true))⟩, ⟨(some 30), (.move (.tmp 2)), (some (28, true))⟩, ⟨(some 31), (.call 14 [(.tmp 30)]), (some (28, true))⟩, ⟨(some 32), (.bin .eql (.tmp 29) (.tmp 31)), (some (28, true))⟩, ⟨(some 33), (.pick (.tmp 28) (.tmp 32) (.const (.bool false))), none⟩, ⟨(some 25), (.assign (.tmp 33)), none⟩]) (.cond (.tmp 25) (.seq (.ops [⟨(some 34), (.move (.tmp 3)), none⟩, ⟨(some 35), (.call 14 [(.tmp 34)]), none⟩, ⟨(some 8), (.assign (.tmp 35)), none⟩]) .ret) (.seq (.ops [⟨(some 37), (.move (.tmp 0)), none⟩, ⟨(some 38), (.bin .neq (.tmp 37) (.const (.string (strB [48, 56, 80, 48, 49])))), none⟩, ⟨(some 36), (.assign (.tmp 38)), none⟩]) (.cond (.tmp 36) (.seq (.ops [⟨(some 39), (.move (.tmp 1)), none⟩, ⟨(some 8), (.assign (.tmp 39)), none⟩]) .ret) .skip))))))) (.seq (.ops [⟨(some 40), (.move (.tmp 2)), none⟩, ⟨(some 41), (.call 15 [(.tmp 40)]), none⟩, ⟨(some 9), (.assign (.const (.string (strB [44, 32, 98, 117, 116, 32, 112, 114, 101, 112, 97, 114, 101, 100, 32, 115, 116, 97, 116, 101, 109, 101, 110, 116, 32])))), none⟩, ⟨(some 10), (.assign (.tmp 41)), none⟩, ⟨(some 11), (.assign (.const (.string (strB [32, 114, 101, 113, 117, 105, 114, 101, 115, 32])))), none⟩]) (.seq (.ops [⟨(some 42), (.move (.tmp 9)), none⟩, ⟨(some 43), (.lenS (.tmp 42)), none⟩, ⟨(some 44), (.move (.tmp 10)), none⟩, ⟨(some 45), (.lenS (.tmp 44)), none⟩, ⟨(some 46), (.bin .add (.tmp 43) (.tmp 45)), none⟩, ⟨(some 47), (.move (.tmp 11)), none⟩, ⟨(some 48), (.lenS (.tmp 47)), none⟩, ⟨(some 49), (.bin .add (.tmp 46) (.tmp 48)), none⟩, ⟨(some 12), (.assign (.tmp 49)), none⟩]) (.seq (.seq (.ops [⟨(some 13), (.assign (.const (.int .i64 0))), none⟩]) (.block 1 (.loop (.seq (.seq (.ops [⟨(some 50), (.move (.tmp 13)), none⟩, ⟨(some 51), (.move (.tmp 12)), none⟩, ⟨(some 52), (.bin .add (.tmp 50) (.tmp 51)), none⟩, ⟨(some 53), (.move (.tmp 1)), none⟩, ⟨(some 54), (.lenS (.tmp 53)), none⟩, ⟨(some 55), (.bin .leq (.tmp 52) (.tmp 54)), none⟩]) (.cond (.tmp 55) .skip (.exit 1))) (.seq (.block 2 (.seq (.ops [⟨(some 58), (.move (.tmp 1)), none⟩, ⟨(some 59), (.move (.tmp 13)), none⟩, ⟨(some 60), (.move (.tmp 13)), none⟩, ⟨(some 61), (.move (.tmp 12)), none⟩, ⟨(some 62), (.bin .add (.tmp 60) (.tmp 61)), none⟩, ⟨(some 63), (.sliceS (.tmp 58) (some (.tmp 59)) (some (.tmp 62))), none⟩, ⟨(some 64), (.move (.tmp 9)), none⟩, ⟨(some 65), (.move (.tmp 10)), none⟩, ⟨(some 66), (.bin .add (.tmp 64) (.tmp 65)), none⟩, ⟨(some 67), (.move (.tmp 11)), none⟩, ⟨(some 68), (.bin .add (.tmp 66) (.tmp 67)), none⟩, ⟨(some 69), (.bin .eql (.tmp 63) (.tmp 68)), none⟩]) (.cond (.tmp 69) (.seq (.draws (.take ⟨(some 70), (.move (.tmp 1)), none⟩ (.take ⟨(some 71), (.move (.tmp 13)), none⟩ (.take ⟨(some 72), (.sliceS (.tmp 70) none (some (.tmp 71))), none⟩ (.take ⟨(some 73), (.move (.tmp 9)), none⟩ (.take ⟨(some 74), (.bin .add (.tmp 72) (.tmp 73)), none⟩ (.take ⟨(some 75), (.move (.tmp 3)), none⟩ (.take ⟨(some 78), (.move (.tmp 11)), none⟩ (.take ⟨(some 80), (.move (.tmp 1)), none⟩ (.take ⟨(some 81), (.move (.tmp 13)), none⟩ (.take ⟨(some 82), (.move (.tmp 12)), none⟩ (.take ⟨(some 83), (.bin .add (.tmp 81) (.tmp 82)), none⟩ (.take ⟨(some 84), (.sliceS (.tmp 80) (some (.tmp 83)) none), none⟩ (.only ⟨(some 76), (.call 15 [(.tmp 75)]), none⟩ (.take ⟨(some 77), (.bin .add (.tmp 74) (.tmp 76)), none⟩ (.take ⟨(some 79), (.bin .add (.tmp 77) (.tmp 78)), none⟩ (.take ⟨(some 85), (.bin .add (.tmp 79) (.tmp 84)), none⟩ (.take ⟨(some 8), (.assign (.tmp 85)), none⟩ .done)))))))))))))))))) .ret) .skip))) (.ops [⟨(some 56), (.move (.tmp 13)), none⟩, ⟨(some 57), (.bin .add (.tmp 56) (.const (.int .i64 1))), none⟩, ⟨(some 13), (.assign (.tmp 57)), none⟩])))))) (.seq (.ops [⟨(some 86), (.move (.tmp 1)), none⟩, ⟨(some 8), (.assign (.tmp 86)), none⟩]) .ret)))))), [(.move (.tmp 8))]⟩
theorem k7 : cfun Tryd.prog 7 = some c7 := by kernel_rfl
def c5 : XFun := ⟨9, (.seq (.ops [⟨(some 0), (.assign (.const (.bool false))), none⟩]) (.seq (.ops [⟨(some 1), (.call 8 [(.const (.string (strB [95, 110, 111, 110, 101])))]), none⟩, ⟨(some 2), (.call 6 [(.const (.string (strB [50, 54, 48, 48, 48]))), (.tmp 1), (.const (.string (strB [95, 110, 111, 110, 101]))), (.const (.string (strB [97])))]), none⟩, ⟨(some 3), (.call 8 [(.const (.string (strB [97])))]), none⟩, ⟨(some 4), (.bin .eql (.tmp 2) (.tmp 3)), none⟩, ⟨(some 5), (.move (.tmp 4)), none⟩, ⟨(some 6), (.call 8 [(.const (.string (strB [])))]), (some (5, true))⟩, ⟨(some 7), (.bin .eql (.tmp 6) (.const (.string (strB [117, 110, 110, 97, 109, 101, 100, 32, 112, 114, 101, 112, 97, 114, 101, 100, 32, 115, 116, 97, 116, 101, 109, 101, 110, 116, 32, 100, 111, 101, 115, 32, 110, 111, 116, 32, 101, 120, 105, 115, 116])))), (some (5, true))⟩, ⟨(some 8), (.pick (.tmp 5) (.tmp 7) (.const (.bool false))), none⟩, ⟨(some 0), (.assign (.tmp 8)), none⟩]) .ret)), [(.move (.tmp 0))]⟩
theorem k5 : cfun Tryd.prog 5 = some c5 := by kernel_rfl
def c3 : XFun := ⟨42, (.seq (.ops [⟨(some 8), (.assign (.const (.bool false))), none⟩]) (.seq (.seq (.ops [⟨(some 9), (.move (.tmp 1)), none⟩, ⟨(some 10), (.lenS (.tmp 9)), none⟩, ⟨(some 11), (.bin .gtr (.tmp 10) (.const (.int .i64 1000))), none⟩, ⟨(some 12), (.move (.tmp 11)), none⟩, ⟨(some 13), (.move (.tmp 2)), (some (12, false))⟩, ⟨(some 14), (.lenS (.tmp 13)), (some (12, false))⟩, ⟨(some 15), (.bin .gtr (.tmp 14) (.const (.int .i64 300))), (some (12, false))⟩, ⟨(some 16), (.pick (.tmp 12) (.const (.bool true)) (.tmp 15)), none⟩, ⟨(some 17), (.move (.tmp 16)), none⟩, ⟨(some 18), (.move (.tmp 3)), (some (17, false))⟩, ⟨(some 19), (.lenS (.tmp 18)), (some (17, false))⟩, ⟨(some 20), (.bin .gtr (.tmp 19) (.const (.int .i64 300))), (some (17, false))⟩, ⟨(some 21), (.pick (.tmp 17) (.const (.bool true)) (.tmp 20)), none⟩, ⟨(some 22), (.move (.tmp 21)), none⟩, ⟨(some 23), (.move (.tmp 0)), (some (22, false))⟩, ⟨(some 24), (.lenS (.tmp 23)), (some (22, false))⟩, ⟨(some 25), (.bin .gtr (.tmp 24) (.const (.int .i64 100))), (some (22, false))⟩, ⟨(some 26), (.pick (.tmp 22) (.const (.bool true)) (.tmp 25)), none⟩]) (.cond (.tmp 26) (.seq (.ops [⟨(some 27), (.call 5 []), none⟩, ⟨(some 8), (.assign (.tmp 27)), none⟩]) .ret) .skip)) (.seq (.ops [⟨(some 28), (.move (.tmp 0)), none⟩, ⟨(some 29), (.move (.tmp 1)), none⟩, ⟨(some 30), (.move (.tmp 2)), none⟩, ⟨(some 31), (.move (.tmp 3)), none⟩, ⟨(some 32), (.call 6 [(.tmp 28), (.tmp 29), (.tmp 30), (.tmp 31)]), none⟩, ⟨(some 33), (.move (.tmp 0)), none⟩, ⟨(some 34), (.move (.tmp 1)), none⟩, ⟨(some 35), (.move (.tmp 2)), none⟩, ⟨(some 36), (.move (.tmp 3)), none⟩, ⟨(some 37), (.call 7 [(.tmp 33), (.tmp 34), (.tmp 35), (.tmp 36)]), none⟩, ⟨(some 38), (.bin .eql (.tmp 32) (.tmp 37)), none⟩, ⟨(some 39), (.move (.tmp 38)), none⟩, ⟨(some 40), (.call 5 []), (some (39, true))⟩, ⟨(some 41), (.pick (.tmp 39) (.tmp 40) (.const (.bool false))), none⟩, ⟨(some 8), (.assign (.tmp 41)), none⟩]) .ret))), [(.move (.tmp 8))]⟩
theorem k3 : cfun Tryd.prog 3 = some c3 := by kernel_rfl
def c4 : XFun := ⟨73, (.seq (.ops [⟨(some 8), (.assign (.const (.bool false))), none⟩]) (.seq (.seq (.ops [⟨(some 12), (.move (.tmp 0)), none⟩, ⟨(some 13), (.lenS (.tmp 12)), none⟩, ⟨(some 14), (.bin .gtr (.tmp 13) (.const (.int .i64 300))), none⟩, ⟨(some 15), (.move (.tmp 14)), none⟩, ⟨(some 16), (.move (.tmp 1)), (some (15, false))⟩, ⟨(some 17), (.lenS (.tmp 16)), (some (15, false))⟩, ⟨(some 18), (.bin .gtr (.tmp 17) (.const (.int .i64 300))), (some (15, false))⟩, ⟨(some 19), (.pick (.tmp 15) (.const (.bool true)) (.tmp 18)), none⟩]) (.cond (.tmp 19) (.seq (.ops [⟨(some 20), (.call 5 []), none⟩, ⟨(some 8), (.assign (.tmp 20)), none⟩]) .ret) .skip)) (.seq (.ops [⟨(some 21), (.move (.tmp 0)), none⟩, ⟨(some 22), (.call 8 [(.tmp 21)]), none⟩, ⟨(some 23), (.move (.tmp 0)), none⟩, ⟨(some 24), (.move (.tmp 1)), none⟩, ⟨(some 25), (.call 6 [(.const (.string (strB [50, 54, 48, 48, 48]))), (.tmp 22), (.tmp 23), (.tmp 24)]), none⟩, ⟨(some 26), (.move (.tmp 1)), none⟩, ⟨(some 27), (.call 8 [(.tmp 26)]), none⟩, ⟨(some 28), (.bin .eql (.tmp 25) (.tmp 27)), none⟩, ⟨(some 9), (.assign (.tmp 28)), none⟩]) (.seq (.ops [⟨(some 29), (.move (.tmp 0)), none⟩, ⟨(some 30), (.call 9 [(.tmp 29)]), none⟩, ⟨(some 31), (.move (.tmp 0)), none⟩, ⟨(some 32), (.move (.tmp 1)), none⟩, ⟨(some 33), (.call 6 [(.const (.string (strB [52, 50, 80, 48, 53]))), (.tmp 30), (.tmp 31), (.tmp 32)]), none⟩, ⟨(some 34), (.move (.tmp 1)), none⟩, ⟨(some 35), (.call 9 [(.tmp 34)]), none⟩, ⟨(some 36), (.bin .eql (.tmp 33) (.tmp 35)), none⟩, ⟨(some 10), (.assign (.tmp 36)), none⟩]) (.seq (.ops [⟨(some 37), (.move (.tmp 2)), none⟩, ⟨(some 38), (.conv .i64 (.tmp 37)), none⟩, ⟨(some 39), (.move (.tmp 0)), none⟩, ⟨(some 40), (.move (.tmp 3)), none⟩, ⟨(some 41), (.conv .i64 (.tmp 40)), none⟩, ⟨(some 42), (.call 10 [(.tmp 38), (.tmp 39), (.tmp 41)]), none⟩, ⟨(some 43), (.move (.tmp 0)), none⟩, ⟨(some 44), (.move (.tmp 1)), none⟩, ⟨(some 45), (.call 6 [(.const (.string (strB [48, 56, 80, 48, 49]))), (.tmp 42), (.tmp 43), (.tmp 44)]), none⟩, ⟨(some 46), (.move (.tmp 2)), none⟩, ⟨(some 47), (.conv .i64 (.tmp 46)), none⟩, ⟨(some 48), (.move (.tmp 1)), none⟩, ⟨(some 49), (.move (.tmp 3)), none⟩, ⟨(some 50), (.conv .i64 (.tmp 49)), none⟩, ⟨(some 51), (.call 10 [(.tmp 47), (.tmp 48), (.tmp 50)]), none⟩, ⟨(some 52), (.bin .eql (.tmp 45) (.tmp 51)), none⟩, ⟨(some 11), (.assign (.tmp 52)), none⟩]) (.seq (.ops [⟨(some 53), (.move (.tmp 9)), none⟩, ⟨(some 54), (.move (.tmp 53)), none⟩, ⟨(some 55), (.move (.tmp 10)), (some (54, true))⟩, ⟨(some 56), (.pick (.tmp 54) (.tmp 55) (.const (.bool false))), none⟩, ⟨(some 57), (.move (.tmp 56)), none⟩, ⟨(some 58), (.move (.tmp 11)), (some (57, true))⟩, ⟨(some 59), (.pick (.tmp 57) (.tmp 58) (.const (.bool false))), none⟩, ⟨(some 60), (.move (.tmp 59)), none⟩, ⟨(some 61), (.move (.tmp 0)), (some (60, true))⟩, ⟨(some 62), (.call 9 [(.tmp 61)]), (some (60, true))⟩, ⟨(some 63), (.move (.tmp 0)), (some (60, true))⟩, ⟨(some 64), (.move (.tmp 1)), (some (60, true))⟩, ⟨(some 65), (.call 6 [(.const (.string (strB [50, 53, 80, 48, 50]))), (.tmp 62), (.tmp 63), (.tmp 64)]), (some (60, true))⟩, ⟨(some 66), (.move (.tmp 0)), (some (60, true))⟩, ⟨(some 67), (.call 9 [(.tmp 66)]), (some (60, true))⟩, ⟨(some 68), (.bin .eql (.tmp 65) (.tmp 67)), (some (60, true))⟩, ⟨(some 69), (.pick (.tmp 60) (.tmp 68) (.const (.bool false))), none⟩, ⟨(some 70), (.move (.tmp 69)), none⟩, ⟨(some 71), (.call 5 []), (some (70, true))⟩, ⟨(some 72), (.pick (.tmp 70) (.tmp 71) (.const (.bool false))), none⟩, ⟨(some 8), (.assign (.tmp 72)), none⟩]) .ret)))))), [(.move (.tmp 8))]⟩
theorem k4 : cfun Tryd.prog 4 = some c4 := by kernel_rfl
end Go.Proofs.YtebggfghemblbaaDoor.Ax
/- Package tell and the document's answers for it, over values without memory: what is said of a name. -/
namespace Go.Proofs.YtebggfghemblbaaDoor.Ax
open Go.RowKit Go By Nm Sc Dg
set_option linter.unusedSimpArgs false
set_option linter.unusedVariables false
set_option maxRecDepth 10000

/-! ### What is said -/
def stmtT : List UInt8 := [112, 114, 101, 112, 97, 114, 101, 100, 32, 115, 116, 97, 116, 101, 109, 101, 110, 116, 32]
def notT : List UInt8 := [32, 100, 111, 101, 115, 32, 110, 111, 116, 32, 101, 120, 105, 115, 116]
def alreadyT : List UInt8 := [32, 97, 108, 114, 101, 97, 100, 121, 32, 101, 120, 105, 115, 116, 115]
def unnamedT : List UInt8 := [117, 110, 110, 97, 109, 101, 100, 32, 112, 114, 101, 112, 97, 114, 101, 100, 32, 115, 116, 97, 116, 101, 109, 101, 110, 116, 32, 100, 111, 101, 115, 32, 110, 111, 116, 32, 101, 120, 105, 115, 116]
def butT : List UInt8 := [44, 32, 98, 117, 116, 32]
def requiresT : List UInt8 := [32, 114, 101, 113, 117, 105, 114, 101, 115, 32]
def bindT : List UInt8 := [98, 105, 110, 100, 32, 109, 101, 115, 115, 97, 103, 101, 32, 115, 117, 112, 112, 108, 105, 101, 115, 32]
def paramsT : List UInt8 := [32, 112, 97, 114, 97, 109, 101, 116, 101, 114, 115]
def portalT : List UInt8 := [112, 111, 114, 116, 97, 108, 32]
def cursorT : List UInt8 := [99, 117, 114, 115, 111, 114, 32]
def stmtL (s : List UInt8) : List UInt8 := stmtT ++ quoteL s
def missL (s : List UInt8) : List UInt8 := if s = [] then unnamedT else stmtL s ++ notT
def existL (s : List UInt8) : List UInt8 := stmtL s ++ alreadyT
def reqL (s : List UInt8) : List UInt8 := butT ++ stmtL s ++ requiresT
def arityL (n : Int) (s : List UInt8) (m : Int) : List UInt8 := bindT ++ Dg.textL n ++ paramsT ++ reqL s ++ Dg.textL m
def portL (s : List UInt8) : List UInt8 := portalT ++ quoteL s ++ notT
def cursL (s : List UInt8) : List UInt8 := cursorT ++ quoteL s ++ alreadyT

theorem tstmt_c (s : List UInt8) (hs : s.length ≤ 100000) (h : List (List AV)) : Contract Tryd.prog 16 [.v (.string (strB s))] h (.v (.string (strB (stmtL s)))) h [] := by
  have q := quote_len s
  refine contract_of k16 mixed (by simp [c16]) fun hh hargs => ?_
  simp [c16]
  refine xcall_self (by simp) (dquote_c s (by omega) _) ?_
  simp [hh, stmtL, stmtT]
  omega
theorem tmiss_c (s : List UInt8) (hs : s.length ≤ 100000) (h : List (List AV)) : Contract Tryd.prog 8 [.v (.string (strB s))] h (.v (.string (strB (missL s)))) h [] := by
  have q := quote_len s
  refine contract_of k8 mixed (by simp [c8]) fun hh hargs => ?_
  unfold missL
  by_cases h0 : s = []
  · simp [c8, h0, hh, unnamedT]
  · simp [c8, h0]
    refine xcall_self (by simp) (tstmt_c s hs _) ?_
    simp [hh, stmtL, notT, stmtT]
    omega
theorem texist_c (s : List UInt8) (hs : s.length ≤ 100000) (h : List (List AV)) : Contract Tryd.prog 9 [.v (.string (strB s))] h (.v (.string (strB (existL s)))) h [] := by
  have q := quote_len s
  refine contract_of k9 mixed (by simp [c9]) fun hh hargs => ?_
  simp [c9]
  refine xcall_self (by simp) (tstmt_c s hs _) ?_
  simp [hh, existL, stmtL, alreadyT, stmtT]
  omega
theorem treq_c (s : List UInt8) (hs : s.length ≤ 100000) (h : List (List AV)) : Contract Tryd.prog 12 [.v (.string (strB s))] h (.v (.string (strB (reqL s)))) h [] := by
  have q := quote_len s
  refine contract_of k12 mixed (by simp [c12]) fun hh hargs => ?_
  simp [c12]
  refine xcall_self (by simp) (tstmt_c s hs _) ?_
  simp [hh, reqL, stmtL, butT, requiresT, stmtT]
  omega
theorem tarity_c (n m : Int) (s : List UInt8) (hn : -9223372036854775808 ≤ n ∧ n ≤ 9223372036854775807) (hm : -9223372036854775808 ≤ m ∧ m ≤ 9223372036854775807) (hs : s.length ≤ 100000) (h : List (List AV)) : Contract Tryd.prog 10 [.v (.int .i64 n), .v (.string (strB s)), .v (.int .i64 m)] h (.v (.string (strB (arityL n s m)))) h [] := by
  have q := quote_len s
  have l1 := dtext_len n hn.1 hn.2
  have l2 := dtext_len m hm.1 hm.2
  have l3 : (reqL s).length = 37 + s.length := by simp [reqL, stmtL, butT, stmtT, requiresT, q]; omega
  refine contract_of k10 mixed (by simp [c10]) fun hh hargs => ?_
  simp [c10]
  refine xcall_self (by simp) (dtext_c n hn.1 hn.2 _) ?_
  simp
  refine ⟨by omega, by omega, ?_⟩
  refine xcall_self (by simp) (treq_c s hs _) ?_
  simp
  refine ⟨by omega, ?_⟩
  refine xcall_self (by simp) (dtext_c m hm.1 hm.2 _) ?_
  simp [hh, arityL, bindT, paramsT]
  omega
/-! ### The document's -/
theorem rtmiss_c (s : List UInt8) (hs : s.length ≤ 100000) (h : List (List AV)) : Contract Tryd.prog 13 [.v (.string (strB s))] h (.v (.string (strB (missL s)))) h [] := by
  have q := quote_len s
  refine contract_of k13 mixed (by simp [c13]) fun hh hargs => ?_
  unfold missL
  by_cases h0 : s = []
  · simp [c13, h0, hh, unnamedT]
  · simp [c13, h0]
    refine xcall_self (by simp) (drquote_c s (by omega) _) ?_
    simp [hh, stmtL, notT, stmtT]
    omega
theorem rtexist_c (s : List UInt8) (hs : s.length ≤ 100000) (h : List (List AV)) : Contract Tryd.prog 14 [.v (.string (strB s))] h (.v (.string (strB (existL s)))) h [] := by
  have q := quote_len s
  refine contract_of k14 mixed (by simp [c14]) fun hh hargs => ?_
  simp [c14]
  refine xcall_self (by simp) (drquote_c s (by omega) _) ?_
  simp [hh, existL, stmtL, alreadyT, stmtT]
  omega
end Go.Proofs.YtebggfghemblbaaDoor.Ax
namespace Go.Proofs.YtebggfghemblbaaDoor.Ax
open Go.RowKit Go By Nm Sc Dg
set_option linter.unusedSimpArgs false
set_option linter.unusedVariables false
set_option maxRecDepth 10000

def ren26 (text a b : List UInt8) : List UInt8 := if text = missL a then missL b else text
def ren42 (text a b : List UInt8) : List UInt8 := if text = existL a then existL b else text
theorem trename26_c (text a b : List UInt8) (ha : a.length ≤ 100000) (hb : b.length ≤ 100000) (h : List (List AV)) : Contract Tryd.prog 6 [.v (.string (strB [50, 54, 48, 48, 48])), .v (.string (strB text)), .v (.string (strB a)), .v (.string (strB b))] h (.v (.string (strB (ren26 text a b)))) h [] := by
  refine contract_of k6 mixed (by simp [c6]) fun hh hargs => ?_
  unfold ren26
  simp [c6]
  refine xcall_self (by simp) (tmiss_c a ha _) ?_
  by_cases e : text = missL a
  · simp [e]
    refine xcall_self (by simp) (tmiss_c b hb _) ?_
    simp [hh]
  · simp [e, hh]
theorem trename42_c (text a b : List UInt8) (ha : a.length ≤ 100000) (hb : b.length ≤ 100000) (h : List (List AV)) : Contract Tryd.prog 6 [.v (.string (strB [52, 50, 80, 48, 53])), .v (.string (strB text)), .v (.string (strB a)), .v (.string (strB b))] h (.v (.string (strB (ren42 text a b)))) h [] := by
  refine contract_of k6 mixed (by simp [c6]) fun hh hargs => ?_
  unfold ren42
  simp [c6]
  refine xcall_self (by simp) (texist_c a ha _) ?_
  by_cases e : text = existL a
  · simp [e]
    refine xcall_self (by simp) (texist_c b hb _) ?_
    simp [hh]
  · simp [e, hh]
theorem trename_no_c (code text a b : List UInt8) (h1 : code ≠ [50, 54, 48, 48, 48]) (h2 : code ≠ [52, 50, 80, 48, 53]) (h3 : code ≠ [48, 56, 80, 48, 49]) (h : List (List AV)) : Contract Tryd.prog 6 [.v (.string (strB code)), .v (.string (strB text)), .v (.string (strB a)), .v (.string (strB b))] h (.v (.string (strB text))) h [] := by
  refine contract_of k6 mixed (by simp [c6]) fun hh hargs => ?_
  simp [c6, h1, h2, h3, hh]
theorem ren26_self (a b : List UInt8) : ren26 (missL a) a b = missL b := if_pos rfl
theorem ren42_self (a b : List UInt8) : ren42 (existL a) a b = existL b := if_pos rfl
theorem tawake_c (h : List (List AV)) : Contract Tryd.prog 5 [] h (.v (.bool true)) h [] := by
  refine contract_of k5 mixed (by simp [c5]) fun hh hargs => ?_
  simp [c5]
  refine xcall_self (by simp) (tmiss_c [95, 110, 111, 110, 101] (by simp) _) ?_
  simp
  refine xcall_self (by simp) (trename26_c (missL [95, 110, 111, 110, 101]) [95, 110, 111, 110, 101] [97] (by simp) (by simp) _) ?_
  rw [ren26_self]
  simp
  refine xcall_self (by simp) (tmiss_c [97] (by simp) _) ?_
  simp
  refine xcall_self (by simp) (tmiss_c [] (by simp) _) ?_
  simp [hh, missL, unnamedT]
end Go.Proofs.YtebggfghemblbaaDoor.Ax
