/- which replies any kind of entry takes, which end it, which fail it, and any message's kind, is what the document says, for every kind, reply and message -/
import Derived.Test.YtkcampfbpmjacaaQAxX
import Derived.Test.YtkcampfbpmjacaaRows
import Derived.Test.YtkcampfbpmjacaaQAxTz
import Derived.Test.YtkcampfbpmjacaaQAxBa
import Derived.Test.YtkcampfbpmjacaaQElems
import Derived.WalkKit
import Derived.ProofKit
import Derived.OpenShut
import Derived.ShutString
import Derived.ChangeOld
import Derived.Below
/- The texts of functions over values without memory, as the kernel reckons them out of the program. -/
namespace Go.Proofs.Ytkcampfbpmjacaa.Ax
open Go.RowKit Go By

def c25 : XFun := ⟨16, (.seq (.ops [⟨(some 4), (.assign (.const (.bool false))), none⟩]) (.seq (.ops [⟨(some 8), (.move (.tmp 0)), none⟩, ⟨(some 9), (.call 53 [(.tmp 8)]), none⟩, ⟨(some 7), (.move (.tmp 9)), none⟩, ⟨(some 10), (.extract (.tmp 7) 0), none⟩, ⟨(some 11), (.extract (.tmp 7) 1), none⟩, ⟨(some 5), (.assign (.tmp 10)), none⟩, ⟨(some 6), (.assign (.tmp 11)), none⟩]) (.seq (.ops [⟨(some 12), (.move (.tmp 5)), none⟩, ⟨(some 13), (.move (.tmp 1)), none⟩, ⟨(some 14), (.call 54 [(.tmp 12), (.tmp 13)]), none⟩, ⟨(some 15), (.bin .geq (.tmp 14) (.const (.int .i64 0))), none⟩, ⟨(some 4), (.assign (.tmp 15)), none⟩]) .ret))), [(.move (.tmp 4))]⟩
theorem k25 : cfun Try.prog 25 = some c25 := by kernel_rfl
def c27 : XFun := ⟨16, (.seq (.ops [⟨(some 4), (.assign (.const (.bool false))), none⟩]) (.seq (.ops [⟨(some 8), (.move (.tmp 0)), none⟩, ⟨(some 9), (.call 53 [(.tmp 8)]), none⟩, ⟨(some 7), (.move (.tmp 9)), none⟩, ⟨(some 10), (.extract (.tmp 7) 0), none⟩, ⟨(some 11), (.extract (.tmp 7) 1), none⟩, ⟨(some 5), (.assign (.tmp 10)), none⟩, ⟨(some 6), (.assign (.tmp 11)), none⟩]) (.seq (.ops [⟨(some 12), (.move (.tmp 6)), none⟩, ⟨(some 13), (.move (.tmp 1)), none⟩, ⟨(some 14), (.call 54 [(.tmp 12), (.tmp 13)]), none⟩, ⟨(some 15), (.bin .geq (.tmp 14) (.const (.int .i64 0))), none⟩, ⟨(some 4), (.assign (.tmp 15)), none⟩]) .ret))), [(.move (.tmp 4))]⟩
theorem k27 : cfun Try.prog 27 = some c27 := by kernel_rfl
def c29 : XFun := ⟨16, (.seq (.ops [⟨(some 4), (.assign (.const (.bool false))), none⟩]) (.seq (.ops [⟨(some 5), (.move (.tmp 1)), none⟩, ⟨(some 6), (.bin .eql (.tmp 5) (.const (.int .u8 69))), none⟩, ⟨(some 7), (.move (.tmp 6)), none⟩, ⟨(some 8), (.move (.tmp 0)), (some (7, true))⟩, ⟨(some 9), (.bin .neq (.tmp 8) (.const (.int .i64 9))), (some (7, true))⟩, ⟨(some 10), (.pick (.tmp 7) (.tmp 9) (.const (.bool false))), none⟩, ⟨(some 11), (.move (.tmp 10)), none⟩, ⟨(some 12), (.move (.tmp 0)), (some (11, true))⟩, ⟨(some 13), (.move (.tmp 1)), (some (11, true))⟩, ⟨(some 14), (.call 25 [(.tmp 12), (.tmp 13)]), (some (11, true))⟩, ⟨(some 15), (.pick (.tmp 11) (.tmp 14) (.const (.bool false))), none⟩, ⟨(some 4), (.assign (.tmp 15)), none⟩]) .ret)), [(.move (.tmp 4))]⟩
theorem k29 : cfun Try.prog 29 = some c29 := by kernel_rfl
def c31 : XFun := ⟨22, (.seq (.ops [⟨(some 1), (.box (.tmp 0)), none⟩, ⟨(some 2), (.assign (.const (.int .i64 0))), none⟩]) (.seq (.seq (.ops [⟨(some 3), (.faddr 0 (.tmp 1)), none⟩, ⟨(some 4), (.load1 (.tmp 3)), none⟩]) (.block 0 (.seq (.ops [⟨(some 6), (.bin .eql (.tmp 4) (.const (.int .u8 80))), none⟩, ⟨(some 5), (.assign (.tmp 6)), none⟩]) (.cond (.tmp 5) (.seq (.ops [⟨(some 2), (.assign (.const (.int .i64 2))), none⟩]) .ret) (.seq (.ops [⟨(some 8), (.bin .eql (.tmp 4) (.const (.int .u8 66))), none⟩, ⟨(some 7), (.assign (.tmp 8)), none⟩]) (.cond (.tmp 7) (.seq (.ops [⟨(some 2), (.assign (.const (.int .i64 3))), none⟩]) .ret) (.seq (.ops [⟨(some 10), (.bin .eql (.tmp 4) (.const (.int .u8 68))), none⟩, ⟨(some 9), (.assign (.tmp 10)), none⟩]) (.cond (.tmp 9) (.seq (.ops [⟨(some 11), (.faddr 1 (.tmp 1)), none⟩, ⟨(some 12), (.load1 (.tmp 11)), none⟩, ⟨(some 13), (.call 57 [(.tmp 12)]), none⟩, ⟨(some 2), (.assign (.tmp 13)), none⟩]) .ret) (.seq (.ops [⟨(some 15), (.bin .eql (.tmp 4) (.const (.int .u8 69))), none⟩, ⟨(some 14), (.assign (.tmp 15)), none⟩]) (.cond (.tmp 14) (.seq (.ops [⟨(some 2), (.assign (.const (.int .i64 6))), none⟩]) .ret) (.seq (.ops [⟨(some 17), (.bin .eql (.tmp 4) (.const (.int .u8 67))), none⟩, ⟨(some 16), (.assign (.tmp 17)), none⟩]) (.cond (.tmp 16) (.seq (.ops [⟨(some 2), (.assign (.const (.int .i64 7))), none⟩]) .ret) (.seq (.ops [⟨(some 19), (.bin .eql (.tmp 4) (.const (.int .u8 83))), none⟩, ⟨(some 18), (.assign (.tmp 19)), none⟩]) (.cond (.tmp 18) (.seq (.ops [⟨(some 2), (.assign (.const (.int .i64 8))), none⟩]) .ret) (.seq (.ops [⟨(some 21), (.bin .eql (.tmp 4) (.const (.int .u8 81))), none⟩, ⟨(some 20), (.assign (.tmp 21)), none⟩]) (.cond (.tmp 20) (.seq (.ops [⟨(some 2), (.assign (.const (.int .i64 9))), none⟩]) .ret) .skip)))))))))))))))) (.seq (.ops [⟨(some 2), (.assign (.const (.int .i64 0))), none⟩]) .ret))), [(.move (.tmp 2))]⟩
theorem k31 : cfun Try.prog 31 = some c31 := by kernel_rfl
def c53 : XFun := ⟨23, (.seq (.ops [⟨(some 2), (.assign (.const (.string (strB [])))), none⟩, ⟨(some 3), (.assign (.const (.string (strB [])))), none⟩]) (.seq (.seq (.ops [⟨(some 4), (.move (.tmp 0)), none⟩]) (.block 0 (.seq (.ops [⟨(some 6), (.bin .eql (.tmp 4) (.const (.int .i64 1))), none⟩, ⟨(some 5), (.assign (.tmp 6)), none⟩]) (.cond (.tmp 5) (.seq (.ops [⟨(some 2), (.assign (.const (.string (strB [82, 75, 90, 69, 78, 83])))), none⟩, ⟨(some 3), (.assign (.const (.string (strB [90])))), none⟩]) .ret) (.seq (.ops [⟨(some 8), (.bin .eql (.tmp 4) (.const (.int .i64 2))), none⟩, ⟨(some 7), (.assign (.tmp 8)), none⟩]) (.cond (.tmp 7) (.seq (.ops [⟨(some 2), (.assign (.const (.string (strB [49, 69, 78, 83])))), none⟩, ⟨(some 3), (.assign (.const (.string (strB [49])))), none⟩]) .ret) (.seq (.ops [⟨(some 10), (.bin .eql (.tmp 4) (.const (.int .i64 3))), none⟩, ⟨(some 9), (.assign (.tmp 10)), none⟩]) (.cond (.tmp 9) (.seq (.ops [⟨(some 2), (.assign (.const (.string (strB [50, 69, 78, 83])))), none⟩, ⟨(some 3), (.assign (.const (.string (strB [50])))), none⟩]) .ret) (.seq (.ops [⟨(some 12), (.bin .eql (.tmp 4) (.const (.int .i64 4))), none⟩, ⟨(some 11), (.assign (.tmp 12)), none⟩]) (.cond (.tmp 11) (.seq (.ops [⟨(some 2), (.assign (.const (.string (strB [116, 84, 110, 69, 78, 83])))), none⟩, ⟨(some 3), (.assign (.const (.string (strB [84, 110])))), none⟩]) .ret) (.seq (.ops [⟨(some 14), (.bin .eql (.tmp 4) (.const (.int .i64 5))), none⟩, ⟨(some 13), (.assign (.tmp 14)), none⟩]) (.cond (.tmp 13) (.seq (.ops [⟨(some 2), (.assign (.const (.string (strB [84, 110, 69, 78, 83])))), none⟩, ⟨(some 3), (.assign (.const (.string (strB [84, 110])))), none⟩]) .ret) (.seq (.ops [⟨(some 16), (.bin .eql (.tmp 4) (.const (.int .i64 6))), none⟩, ⟨(some 15), (.assign (.tmp 16)), none⟩]) (.cond (.tmp 15) (.seq (.ops [⟨(some 2), (.assign (.const (.string (strB [68, 67, 115, 73, 69, 78, 83])))), none⟩, ⟨(some 3), (.assign (.const (.string (strB [67, 115, 73])))), none⟩]) .ret) (.seq (.ops [⟨(some 18), (.bin .eql (.tmp 4) (.const (.int .i64 7))), none⟩, ⟨(some 17), (.assign (.tmp 18)), none⟩]) (.cond (.tmp 17) (.seq (.ops [⟨(some 2), (.assign (.const (.string (strB [51, 69, 78, 83])))), none⟩, ⟨(some 3), (.assign (.const (.string (strB [51])))), none⟩]) .ret) (.seq (.ops [⟨(some 20), (.bin .eql (.tmp 4) (.const (.int .i64 8))), none⟩, ⟨(some 19), (.assign (.tmp 20)), none⟩]) (.cond (.tmp 19) (.seq (.ops [⟨(some 2), (.assign (.const (.string (strB [90, 78, 83])))), none⟩, ⟨(some 3), (.assign (.const (.string (strB [90])))), none⟩]) .ret) (.seq (.ops [⟨(some 22), (.bin .eql (.tmp 4) (.const (.int .i64 9))), none⟩, ⟨(some 21), (.assign (.tmp 22)), none⟩]) (.cond (.tmp 21) (.seq (.ops [⟨(some 2), (.assign (.const (.string (strB [84, 68, 67, 73, 90, 69, 78, 83])))), none⟩, ⟨(some 3), (.assign (.const (.string (strB [90])))), none⟩]) .ret) .skip)))))))))))))))))))) (.seq (.ops [⟨(some 2), (.assign (.const (.string (strB [])))), none⟩, ⟨(some 3), (.assign (.const (.string (strB [])))), none⟩]) .ret))), [(.move (.tmp 2)), (.move (.tmp 3))]⟩
theorem k53 : cfun Try.prog 53 = some c53 := by kernel_rfl
def c57 : XFun := ⟨8, (.seq (.ops [⟨(some 2), (.assign (.const (.int .i64 0))), none⟩]) (.seq (.seq (.ops [⟨(some 3), (.move (.tmp 0)), none⟩]) (.block 0 (.seq (.ops [⟨(some 5), (.bin .eql (.tmp 3) (.const (.int .u8 83))), none⟩, ⟨(some 4), (.assign (.tmp 5)), none⟩]) (.cond (.tmp 4) (.seq (.ops [⟨(some 2), (.assign (.const (.int .i64 4))), none⟩]) .ret) (.seq (.ops [⟨(some 7), (.bin .eql (.tmp 3) (.const (.int .u8 80))), none⟩, ⟨(some 6), (.assign (.tmp 7)), none⟩]) (.cond (.tmp 6) (.seq (.ops [⟨(some 2), (.assign (.const (.int .i64 5))), none⟩]) .ret) .skip)))))) (.seq (.ops [⟨(some 2), (.assign (.const (.int .i64 0))), none⟩]) .ret))), [(.move (.tmp 2))]⟩
theorem k57 : cfun Try.prog 57 = some c57 := by kernel_rfl
def c54 : XFun := ⟨8, (.seq (.ops [⟨(some 4), (.assign (.const (.int .i64 0))), none⟩]) (.seq (.ops [⟨(some 5), (.move (.tmp 0)), none⟩, ⟨(some 6), (.move (.tmp 1)), none⟩, ⟨(some 7), (.call 75 [(.tmp 5), (.tmp 6)]), none⟩, ⟨(some 4), (.assign (.tmp 7)), none⟩]) .ret)), [(.move (.tmp 4))]⟩
theorem k54 : cfun Try.prog 54 = some c54 := by kernel_rfl
def c75 : XFun := ⟨8, (.seq (.ops [⟨(some 4), (.assign (.const (.int .i64 0))), none⟩]) (.seq (.ops [⟨(some 5), (.move (.tmp 0)), none⟩, ⟨(some 6), (.move (.tmp 1)), none⟩, ⟨(some 7), (.call 90 [(.tmp 5), (.tmp 6)]), none⟩, ⟨(some 4), (.assign (.tmp 7)), none⟩]) .ret)), [(.move (.tmp 4))]⟩
theorem k75 : cfun Try.prog 75 = some c75 := by kernel_rfl
def c56 : XFun := ⟨17, (.seq (.ops [⟨(some 4), (.assign (.const (.bool false))), none⟩]) (.seq (.seq (.ops [⟨(some 5), (.assign (.const (.int .i64 0))), none⟩]) (.block 0 (.loop (.seq (.seq (.ops [⟨(some 6), (.move (.tmp 5)), none⟩, ⟨(some 7), (.move (.tmp 0)), none⟩, ⟨(some 8), (.lenS (.tmp 7)), none⟩, ⟨(some 9), (.bin .lss (.tmp 6) (.tmp 8)), none⟩]) (.cond (.tmp 9) .skip (.exit 0))) (.seq (.block 1 (.seq (.ops [⟨(some 12), (.move (.tmp 0)), none⟩, ⟨(some 13), (.move (.tmp 5)), none⟩, ⟨(some 14), (.idxS (.tmp 12) (.tmp 13)), none⟩, ⟨(some 15), (.move (.tmp 1)), none⟩, ⟨(some 16), (.bin .eql (.tmp 14) (.tmp 15)), none⟩]) (.cond (.tmp 16) (.seq (.ops [⟨(some 4), (.assign (.const (.bool true))), none⟩]) .ret) .skip))) (.ops [⟨(some 10), (.move (.tmp 5)), none⟩, ⟨(some 11), (.bin .add (.tmp 10) (.const (.int .i64 1))), none⟩, ⟨(some 5), (.assign (.tmp 11)), none⟩])))))) (.seq (.ops [⟨(some 4), (.assign (.const (.bool false))), none⟩]) .ret))), [(.move (.tmp 4))]⟩
theorem k56 : cfun Try.prog 56 = some c56 := by kernel_rfl
def c55 : XFun := ⟨23, (.seq (.ops [⟨(some 2), (.assign (.const (.string (strB [])))), none⟩, ⟨(some 3), (.assign (.const (.string (strB [])))), none⟩]) (.seq (.seq (.ops [⟨(some 4), (.move (.tmp 0)), none⟩]) (.block 0 (.seq (.ops [⟨(some 6), (.bin .eql (.tmp 4) (.const (.int .i64 1))), none⟩, ⟨(some 5), (.assign (.tmp 6)), none⟩]) (.cond (.tmp 5) (.seq (.ops [⟨(some 2), (.assign (.const (.string (strB [82, 83, 75, 90])))), none⟩, ⟨(some 3), (.assign (.const (.string (strB [90])))), none⟩]) .ret) (.seq (.ops [⟨(some 8), (.bin .eql (.tmp 4) (.const (.int .i64 2))), none⟩, ⟨(some 7), (.assign (.tmp 8)), none⟩]) (.cond (.tmp 7) (.seq (.ops [⟨(some 2), (.assign (.const (.string (strB [49])))), none⟩, ⟨(some 3), (.assign (.const (.string (strB [49])))), none⟩]) .ret) (.seq (.ops [⟨(some 10), (.bin .eql (.tmp 4) (.const (.int .i64 3))), none⟩, ⟨(some 9), (.assign (.tmp 10)), none⟩]) (.cond (.tmp 9) (.seq (.ops [⟨(some 2), (.assign (.const (.string (strB [50])))), none⟩, ⟨(some 3), (.assign (.const (.string (strB [50])))), none⟩]) .ret) (.seq (.ops [⟨(some 12), (.bin .eql (.tmp 4) (.const (.int .i64 4))), none⟩, ⟨(some 11), (.assign (.tmp 12)), none⟩]) (.cond (.tmp 11) (.seq (.ops [⟨(some 2), (.assign (.const (.string (strB [116, 84, 110])))), none⟩, ⟨(some 3), (.assign (.const (.string (strB [84, 110])))), none⟩]) .ret) (.seq (.ops [⟨(some 14), (.bin .eql (.tmp 4) (.const (.int .i64 5))), none⟩, ⟨(some 13), (.assign (.tmp 14)), none⟩]) (.cond (.tmp 13) (.seq (.ops [⟨(some 2), (.assign (.const (.string (strB [84, 110])))), none⟩, ⟨(some 3), (.assign (.const (.string (strB [84, 110])))), none⟩]) .ret) (.seq (.ops [⟨(some 16), (.bin .eql (.tmp 4) (.const (.int .i64 6))), none⟩, ⟨(some 15), (.assign (.tmp 16)), none⟩]) (.cond (.tmp 15) (.seq (.ops [⟨(some 2), (.assign (.const (.string (strB [68, 67, 115, 73])))), none⟩, ⟨(some 3), (.assign (.const (.string (strB [67, 115, 73])))), none⟩]) .ret) (.seq (.ops [⟨(some 18), (.bin .eql (.tmp 4) (.const (.int .i64 7))), none⟩, ⟨(some 17), (.assign (.tmp 18)), none⟩]) (.cond (.tmp 17) (.seq (.ops [⟨(some 2), (.assign (.const (.string (strB [51])))), none⟩, ⟨(some 3), (.assign (.const (.string (strB [51])))), none⟩]) .ret) (.seq (.ops [⟨(some 20), (.bin .eql (.tmp 4) (.const (.int .i64 8))), none⟩, ⟨(some 19), (.assign (.tmp 20)), none⟩]) (.cond (.tmp 19) (.seq (.ops [⟨(some 2), (.assign (.const (.string (strB [90])))), none⟩, ⟨(some 3), (.assign (.const (.string (strB [90])))), none⟩]) .ret) (.seq (.ops [⟨(some 22), (.bin .eql (.tmp 4) (.const (.int .i64 9))), none⟩, ⟨(some 21), (.assign (.tmp 22)), none⟩]) (.cond (.tmp 21) (.seq (.ops [⟨(some 2), (.assign (.const (.string (strB [84, 68, 67, 73, 90])))), none⟩, ⟨(some 3), (.assign (.const (.string (strB [90])))), none⟩]) .ret) .skip)))))))))))))))))))) (.seq (.ops [⟨(some 2), (.assign (.const (.string (strB [])))), none⟩, ⟨(some 3), (.assign (.const (.string (strB [])))), none⟩]) .ret))), [(.move (.tmp 2)), (.move (.tmp 3))]⟩
theorem k55 : cfun Try.prog 55 = some c55 := by kernel_rfl
def c26 : XFun := ⟨33, (.seq (.ops [⟨(some 4), (.assign (.const (.bool false))), none⟩]) (.seq (.ops [⟨(some 8), (.move (.tmp 0)), none⟩, ⟨(some 9), (.call 55 [(.tmp 8)]), none⟩, ⟨(some 7), (.move (.tmp 9)), none⟩, ⟨(some 10), (.extract (.tmp 7) 0), none⟩, ⟨(some 11), (.extract (.tmp 7) 1), none⟩, ⟨(some 5), (.assign (.tmp 10)), none⟩, ⟨(some 6), (.assign (.tmp 11)), none⟩]) (.seq (.seq (.ops [⟨(some 12), (.move (.tmp 5)), none⟩, ⟨(some 13), (.bin .eql (.tmp 12) (.const (.string (strB [])))), none⟩]) (.cond (.tmp 13) (.seq (.ops [⟨(some 4), (.assign (.const (.bool false))), none⟩]) .ret) .skip)) (.seq (.ops [⟨(some 14), (.move (.tmp 5)), none⟩, ⟨(some 15), (.move (.tmp 1)), none⟩, ⟨(some 16), (.call 56 [(.tmp 14), (.tmp 15)]), none⟩, ⟨(some 17), (.move (.tmp 16)), none⟩, ⟨(some 18), (.move (.tmp 1)), (some (17, false))⟩, ⟨(some 19), (.bin .eql (.tmp 18) (.const (.int .u8 78))), (some (17, false))⟩, ⟨(some 20), (.pick (.tmp 17) (.const (.bool true)) (.tmp 19)), none⟩, ⟨(some 21), (.move (.tmp 20)), none⟩, ⟨(some 22), (.move (.tmp 1)), (some (21, false))⟩, ⟨(some 23), (.bin .eql (.tmp 22) (.const (.int .u8 83))), (some (21, false))⟩, ⟨(some 24), (.pick (.tmp 21) (.const (.bool true)) (.tmp 23)), none⟩, ⟨(some 25), (.move (.tmp 24)), none⟩, ⟨(some 26), (.move (.tmp 1)), (some (25, false))⟩, ⟨(some 27), (.bin .eql (.tmp 26) (.const (.int .u8 69))), (some (25, false))⟩, ⟨(some 28), (.move (.tmp 27)), (some (25, false))⟩, ⟨(some 29), (.move (.tmp 0)), (some (28, true))⟩, ⟨(some 30), (.bin .neq (.tmp 29) (.const (.int .i64 8))), (some (28, true))⟩, ⟨(some 31), (.pick (.tmp 28) (.tmp 30) (.const (.bool false))), (some (25, false))⟩, ⟨(some 32), (.pick (.tmp 25) (.const (.bool true)) (.tmp 31)), none⟩, ⟨(some 4), (.assign (.tmp 32)), none⟩]) .ret)))), [(.move (.tmp 4))]⟩
theorem k26 : cfun Try.prog 26 = some c26 := by kernel_rfl
def c28 : XFun := ⟨15, (.seq (.ops [⟨(some 4), (.assign (.const (.bool false))), none⟩]) (.seq (.ops [⟨(some 8), (.move (.tmp 0)), none⟩, ⟨(some 9), (.call 55 [(.tmp 8)]), none⟩, ⟨(some 7), (.move (.tmp 9)), none⟩, ⟨(some 10), (.extract (.tmp 7) 0), none⟩, ⟨(some 11), (.extract (.tmp 7) 1), none⟩, ⟨(some 5), (.assign (.tmp 10)), none⟩, ⟨(some 6), (.assign (.tmp 11)), none⟩]) (.seq (.ops [⟨(some 12), (.move (.tmp 6)), none⟩, ⟨(some 13), (.move (.tmp 1)), none⟩, ⟨(some 14), (.call 56 [(.tmp 12), (.tmp 13)]), none⟩, ⟨(some 4), (.assign (.tmp 14)), none⟩]) .ret))), [(.move (.tmp 4))]⟩
theorem k28 : cfun Try.prog 28 = some c28 := by kernel_rfl
def c30 : XFun := ⟨16, (.seq (.ops [⟨(some 4), (.assign (.const (.bool false))), none⟩]) (.seq (.ops [⟨(some 5), (.move (.tmp 1)), none⟩, ⟨(some 6), (.bin .eql (.tmp 5) (.const (.int .u8 69))), none⟩, ⟨(some 7), (.move (.tmp 6)), none⟩, ⟨(some 8), (.move (.tmp 0)), (some (7, true))⟩, ⟨(some 9), (.move (.tmp 1)), (some (7, true))⟩, ⟨(some 10), (.call 26 [(.tmp 8), (.tmp 9)]), (some (7, true))⟩, ⟨(some 11), (.pick (.tmp 7) (.tmp 10) (.const (.bool false))), none⟩, ⟨(some 12), (.move (.tmp 11)), none⟩, ⟨(some 13), (.move (.tmp 0)), (some (12, true))⟩, ⟨(some 14), (.bin .neq (.tmp 13) (.const (.int .i64 9))), (some (12, true))⟩, ⟨(some 15), (.pick (.tmp 12) (.tmp 14) (.const (.bool false))), none⟩, ⟨(some 4), (.assign (.tmp 15)), none⟩]) .ret)), [(.move (.tmp 4))]⟩
theorem k30 : cfun Try.prog 30 = some c30 := by kernel_rfl
def c32 : XFun := ⟨25, (.seq (.ops [⟨(some 1), (.box (.tmp 0)), none⟩, ⟨(some 2), (.assign (.const (.int .i64 0))), none⟩]) (.seq (.seq (.ops [⟨(some 3), (.faddr 0 (.tmp 1)), none⟩, ⟨(some 4), (.load1 (.tmp 3)), none⟩]) (.block 0 (.seq (.ops [⟨(some 6), (.bin .eql (.tmp 4) (.const (.int .u8 80))), none⟩, ⟨(some 5), (.assign (.tmp 6)), none⟩]) (.cond (.tmp 5) (.seq (.ops [⟨(some 2), (.assign (.const (.int .i64 2))), none⟩]) .ret) (.seq (.ops [⟨(some 8), (.bin .eql (.tmp 4) (.const (.int .u8 66))), none⟩, ⟨(some 7), (.assign (.tmp 8)), none⟩]) (.cond (.tmp 7) (.seq (.ops [⟨(some 2), (.assign (.const (.int .i64 3))), none⟩]) .ret) (.seq (.ops [⟨(some 10), (.bin .eql (.tmp 4) (.const (.int .u8 68))), none⟩, ⟨(some 9), (.assign (.tmp 10)), none⟩]) (.cond (.tmp 9) (.seq (.seq (.ops [⟨(some 11), (.faddr 1 (.tmp 1)), none⟩, ⟨(some 12), (.load1 (.tmp 11)), none⟩, ⟨(some 13), (.bin .eql (.tmp 12) (.const (.int .u8 83))), none⟩]) (.cond (.tmp 13) (.seq (.ops [⟨(some 2), (.assign (.const (.int .i64 4))), none⟩]) .ret) .skip)) (.seq (.ops [⟨(some 14), (.faddr 1 (.tmp 1)), none⟩, ⟨(some 15), (.load1 (.tmp 14)), none⟩, ⟨(some 16), (.bin .eql (.tmp 15) (.const (.int .u8 80))), none⟩]) (.cond (.tmp 16) (.seq (.ops [⟨(some 2), (.assign (.const (.int .i64 5))), none⟩]) .ret) .skip))) (.seq (.ops [⟨(some 18), (.bin .eql (.tmp 4) (.const (.int .u8 69))), none⟩, ⟨(some 17), (.assign (.tmp 18)), none⟩]) (.cond (.tmp 17) (.seq (.ops [⟨(some 2), (.assign (.const (.int .i64 6))), none⟩]) .ret) (.seq (.ops [⟨(some 20), (.bin .eql (.tmp 4) (.const (.int .u8 67))), none⟩, ⟨(some 19), (.assign (.tmp 20)), none⟩]) (.cond (.tmp 19) (.seq (.ops [⟨(some 2), (.assign (.const (.int .i64 7))), none⟩]) .ret) (.seq (.ops [⟨(some 22), (.bin .eql (.tmp 4) (.const (.int .u8 83))), none⟩, ⟨(some 21), (.assign (.tmp 22)), none⟩]) (.cond (.tmp 21) (.seq (.ops [⟨(some 2), (.assign (.const (.int .i64 8))), none⟩]) .ret) (.seq (.ops [⟨(some 24), (.bin .eql (.tmp 4) (.const (.int .u8 81))), none⟩, ⟨(some 23), (.assign (.tmp 24)), none⟩]) (.cond (.tmp 23) (.seq (.ops [⟨(some 2), (.assign (.const (.int .i64 9))), none⟩]) .ret) .skip)))))))))))))))) (.seq (.ops [⟨(some 2), (.assign (.const (.int .i64 0))), none⟩]) .ret))), [(.move (.tmp 2))]⟩
theorem k32 : cfun Try.prog 32 = some c32 := by kernel_rfl
def c33 : XFun := ⟨21, (.seq (.ops [⟨(some 0), (.assign (.const (.bool false))), none⟩]) (.seq (.ops [⟨(some 1), (.call 25 [(.const (.int .i64 6)), (.const (.int .u8 68))]), none⟩, ⟨(some 2), (.move (.tmp 1)), none⟩, ⟨(some 3), (.call 27 [(.const (.int .i64 6)), (.const (.int .u8 68))]), (some (2, true))⟩, ⟨(some 4), (.un .not (.tmp 3)), (some (2, true))⟩, ⟨(some 5), (.pick (.tmp 2) (.tmp 4) (.const (.bool false))), none⟩, ⟨(some 6), (.move (.tmp 5)), none⟩, ⟨(some 7), (.call 27 [(.const (.int .i64 6)), (.const (.int .u8 67))]), (some (6, true))⟩, ⟨(some 8), (.pick (.tmp 6) (.tmp 7) (.const (.bool false))), none⟩, ⟨(some 9), (.move (.tmp 8)), none⟩, ⟨(some 10), (.call 29 [(.const (.int .i64 2)), (.const (.int .u8 69))]), (some (9, true))⟩, ⟨(some 11), (.pick (.tmp 9) (.tmp 10) (.const (.bool false))), none⟩, ⟨(some 12), (.move (.tmp 11)), none⟩, ⟨(some 13), (.call 29 [(.const (.int .i64 9)), (.const (.int .u8 69))]), (some (12, true))⟩, ⟨(some 14), (.un .not (.tmp 13)), (some (12, true))⟩, ⟨(some 15), (.pick (.tmp 12) (.tmp 14) (.const (.bool false))), none⟩, ⟨(some 16), (.move (.tmp 15)), none⟩, ⟨(some 17), (.build [(.v (.int .u8 0)), (.v (.int .u8 0)), (.v (.string (strB []))), (.v (.string (strB []))), (.v (.string (strB []))), (.sl 0 [] (some true) .exact), (.sl 0 [] (some true) .exact), (.sl 0 [] (some true) .exact), (.sl 0 [] (some true) .exact), (.v (.int .i64 0))] [(0, (1, (.const (.int .u8 83))))]), (some (16, true))⟩, ⟨(some 18), (.call 31 [(.tmp 17)]), (some (16, true))⟩, ⟨(some 19), (.bin .eql (.tmp 18) (.const (.int .i64 8))), (some (16, true))⟩, ⟨(some 20), (.pick (.tmp 16) (.tmp 19) (.const (.bool false))), none⟩, ⟨(some 0), (.assign (.tmp 20)), none⟩]) .ret)), [(.move (.tmp 0))]⟩
theorem k33 : cfun Try.prog 33 = some c33 := by kernel_rfl
def c5 : XFun := ⟨42, (.seq (.ops [⟨(some 5), (.box (.tmp 2)), none⟩, ⟨(some 6), (.assign (.const (.bool false))), none⟩]) (.seq (.draws (.take ⟨(some 7), (.move (.tmp 0)), none⟩ (.take ⟨(some 8), (.move (.tmp 1)), none⟩ (.take ⟨(some 10), (.move (.tmp 0)), none⟩ (.take ⟨(some 11), (.move (.tmp 1)), none⟩ (.only ⟨(some 9), (.call 25 [(.tmp 7), (.tmp 8)]), none⟩ (.only ⟨(some 12), (.call 26 [(.tmp 10), (.tmp 11)]), none⟩ (.take ⟨(some 13), (.beq false (.tmp 9) (.tmp 12)), none⟩ (.take ⟨(some 14), (.move (.tmp 13)), none⟩ (.take ⟨(some 15), (.move (.tmp 0)), (some (14, true))⟩ (.take ⟨(some 16), (.move (.tmp 1)), (some (14, true))⟩ (.take ⟨(some 18), (.move (.tmp 0)), (some (14, true))⟩ (.take ⟨(some 19), (.move (.tmp 1)), (some (14, true))⟩ (.only ⟨(some 17), (.call 27 [(.tmp 15), (.tmp 16)]), (some (14, true))⟩ (.only ⟨(some 20), (.call 28 [(.tmp 18), (.tmp 19)]), (some (14, true))⟩ (.take ⟨(some 21), (.beq false (.tmp 17) (.tmp 20)), (some (14, true))⟩ (.take ⟨(some 22), (.pick (.tmp 14) (.tmp 21) (.const (.bool false))), none⟩ (.take ⟨(some 23), (.move (.tmp 22)), none⟩ (.take ⟨(some 24), (.move (.tmp 0)), (some (23, true))⟩ (.take ⟨(some 25), (.move (.tmp 1)), (some (23, true))⟩ (.take ⟨(some 27), (.move (.tmp 0)), (some (23, true))⟩ (.take ⟨(some 28), (.move (.tmp 1)), (some (23, true))⟩ (.only ⟨(some 26), (.call 29 [(.tmp 24), (.tmp 25)]), (some (23, true))⟩ (.only ⟨(some 29), (.call 30 [(.tmp 27), (.tmp 28)]), (some (23, true))⟩ (.take ⟨(some 30), (.beq false (.tmp 26) (.tmp 29)), (some (23, true))⟩ (.take ⟨(some 31), (.pick (.tmp 23) (.tmp 30) (.const (.bool false))), none⟩ (.take ⟨(some 32), (.move (.tmp 31)), none⟩ (.take ⟨(some 33), (.loadN 10 (.tmp 5)), (some (32, true))⟩ (.take ⟨(some 35), (.loadN 10 (.tmp 5)), (some (32, true))⟩ (.only ⟨(some 34), (.call 31 [(.tmp 33)]), (some (32, true))⟩ (.only ⟨(some 36), (.call 32 [(.tmp 35)]), (some (32, true))⟩ (.take ⟨(some 37), (.bin .eql (.tmp 34) (.tmp 36)), (some (32, true))⟩ (.take ⟨(some 38), (.pick (.tmp 32) (.tmp 37) (.const (.bool false))), none⟩ (.take ⟨(some 39), (.move (.tmp 38)), none⟩ (.only ⟨(some 40), (.call 33 []), (some (39, true))⟩ (.take ⟨(some 41), (.pick (.tmp 39) (.tmp 40) (.const (.bool false))), none⟩ (.take ⟨(some 6), (.assign (.tmp 41)), none⟩ .done))))))))))))))))))))))))))))))))))))) .ret)), [(.move (.tmp 6))]⟩
theorem k5 : cfun Try.prog 5 = some c5 := by kernel_rfl
def c6 : XFun := ⟨34, (.seq (.ops [⟨(some 4), (.assign (.const (.bool false))), none⟩]) (.seq (.ops [⟨(some 7), (.move (.tmp 0)), none⟩, ⟨(some 8), (.move (.tmp 1)), none⟩, ⟨(some 9), (.call 27 [(.tmp 7), (.tmp 8)]), none⟩, ⟨(some 10), (.move (.tmp 0)), none⟩, ⟨(some 11), (.move (.tmp 1)), none⟩, ⟨(some 12), (.call 29 [(.tmp 10), (.tmp 11)]), none⟩, ⟨(some 5), (.assign (.tmp 9)), none⟩, ⟨(some 6), (.assign (.tmp 12)), none⟩]) (.seq (.ops [⟨(some 13), (.move (.tmp 5)), none⟩, ⟨(some 14), (.move (.tmp 13)), none⟩, ⟨(some 15), (.move (.tmp 6)), (some (14, true))⟩, ⟨(some 16), (.pick (.tmp 14) (.tmp 15) (.const (.bool false))), none⟩, ⟨(some 17), (.un .not (.tmp 16)), none⟩, ⟨(some 18), (.move (.tmp 17)), none⟩, ⟨(some 19), (.move (.tmp 0)), (some (18, true))⟩, ⟨(some 20), (.move (.tmp 1)), (some (18, true))⟩, ⟨(some 21), (.call 25 [(.tmp 19), (.tmp 20)]), (some (18, true))⟩, ⟨(some 22), (.move (.tmp 21)), (some (18, true))⟩, ⟨(some 23), (.move (.tmp 5)), (some (22, false))⟩, ⟨(some 24), (.un .not (.tmp 23)), (some (22, false))⟩, ⟨(some 25), (.move (.tmp 24)), (some (22, false))⟩, ⟨(some 26), (.move (.tmp 6)), (some (25, true))⟩, ⟨(some 27), (.un .not (.tmp 26)), (some (25, true))⟩, ⟨(some 28), (.pick (.tmp 25) (.tmp 27) (.const (.bool false))), (some (22, false))⟩, ⟨(some 29), (.pick (.tmp 22) (.const (.bool true)) (.tmp 28)), (some (18, true))⟩, ⟨(some 30), (.pick (.tmp 18) (.tmp 29) (.const (.bool false))), none⟩, ⟨(some 31), (.move (.tmp 30)), none⟩, ⟨(some 32), (.call 33 []), (some (31, true))⟩, ⟨(some 33), (.pick (.tmp 31) (.tmp 32) (.const (.bool false))), none⟩, ⟨(some 4), (.assign (.tmp 33)), none⟩]) .ret))), [(.move (.tmp 4))]⟩
theorem k6 : cfun Try.prog 6 = some c6 := by kernel_rfl
end Go.Proofs.Ytkcampfbpmjacaa.Ax
/- Which replies an entry takes, over values without memory: entry, the document's answer, and the statements of layer 20. -/
namespace Go.Proofs.Ytkcampfbpmjacaa.Ax
set_option maxRecDepth 100000
open Go.RowKit Go By
set_option linter.unusedSimpArgs false
set_option linter.unusedVariables false
set_option maxRecDepth 10000

/-! ### A byte in a text -/
/-- Has the text the byte? -/
def inB (s : List UInt8) (b : Int) : Bool := decide (0 ≤ Lib.indexByte s b.toNat.toUInt8)
theorem indexByte_has (s : List UInt8) (c : UInt8) : decide (0 ≤ Lib.indexByte s c) = s.contains c := by
  induction s with
  | nil => rfl
  | cons x t ih =>
    have hge := Lib.indexByte_ge t c
    unfold Lib.indexByte
    rw [List.contains_cons, ← ih]
    by_cases hb : x = c
    · subst hb; simp
    · have h1 : (x == c) = false := by simpa using hb
      have h2 : (c == x) = false := by simpa using fun e : c = x => hb e.symm
      rw [h1, h2]
      by_cases h3 : Lib.indexByte t c = -1
      · simp [h3]
      · have h4 : (Lib.indexByte t c == -1) = false := by simpa using h3
        simp [h4]; omega
theorem inB_has (s : List UInt8) (b : Int) : inB s b = s.contains b.toNat.toUInt8 := indexByte_has s _
theorem sindexByte_any (s : ByteArray) (b : Int) (w : World) :
    Calls Try.prog 75 #[.string s, .int .u8 b] w fun e w' => e = .returned (.int .i64 (Lib.indexByte s.data.toList b.toNat.toUInt8)) ∧ w = w' := by
  go_enter Try.func75, Try.ntmps75
  go_wp2
  rw [run_callFunc_extern Try.func90 (by kernel_rfl) (by kernel_rfl) (by kernel_rfl) (e := Extern.BytealgIndexByte.indexByte) (by kernel_rfl), Lib.run_indexByteString]
  simp only [Result.andThen]
  rw [Oper.upon_value]
  go_wp2
  go_ret
  exact ⟨rfl, rfl⟩
theorem sindexByte_c (s : List UInt8) (b : Int) (h : List (List AV)) : Contract Try.prog 75 [.v (.string (strB s)), .v (.int .u8 b)] h (.v (.int .i64 (Lib.indexByte s b.toNat.toUInt8))) h [] :=
  plain_quiet (l := [.string (strB s), .int .u8 b]) (by kernel_rfl) h fun w => by have := sindexByte_any (strB s) b w; rwa [strB_data] at this
theorem indexByteS_c (s : List UInt8) (b : Int) (h : List (List AV)) : Contract Try.prog 54 [.v (.string (strB s)), .v (.int .u8 b)] h (.v (.int .i64 (Lib.indexByte s b.toNat.toUInt8))) h [] := by
  refine contract_of k54 mixed (by simp [c54]) fun hh hargs => ?_
  simp [c54]
  refine xcall_self (by simp) (sindexByte_c s b _) ?_
  simp [hh]
theorem byte_eq {x : UInt8} {b : Int} (h0 : 0 ≤ b) (h1 : b < 256) : ((x.toNat : Int) = b) ↔ x = b.toNat.toUInt8 := by
  constructor
  · intro e; subst e; simp
  · intro e; subst e
    have : b.toNat < 256 := by omega
    rw [show b.toNat.toUInt8.toNat = b.toNat from by simp [Nat.toUInt8]; omega]
    omega
theorem rin_c (s : List UInt8) (hs : s.length ≤ 1000) (b : Int) (h0 : 0 ≤ b) (h1 : b < 256) (h : List (List AV)) : Contract Try.prog 56 [.v (.string (strB s)), .v (.int .u8 b)] h (.v (.bool (inB s b))) h [] := by
  refine contract_of k56 mixed (by simp [c56]) fun hh hargs => ?_
  rw [inB_has]
  simp [c56]
  refine xloop_ok (D := Nat) (fun j => ⟨[(0, .v (.string (strB s))), (1, .v (.int .u8 b)), (5, .v (.int .i64 (j : Int)))], [], h, []⟩) (fun j => j ≤ s.length ∧ ∀ x ∈ s.take j, x ≠ b.toNat.toUInt8) (fun j => s.length - j) 0 (by simp) ?_ ?_
  · simp [Leq, hh, leqH_take]
    done
  · rintro j ⟨hj, hp⟩
    by_cases hlt : j < s.length
    · have hw : IntKind.i64.wrap ((j : Int) + 1) = (j : Int) + 1 := wrap64 (by omega) (by omega)
      have hb := byte_eq (x := s[j]) h0 h1
      by_cases hx : s[j] = b.toNat.toUInt8
      · have hx2 := hb.2 hx
        have hc : UInt8.ofNat b.toNat ∈ s := by show b.toNat.toUInt8 ∈ s; rw [← hx]; exact List.getElem_mem hlt
        simp [hlt, hx2, hh, hc]
        done
      · have hx2 : ¬ ((s[j].toNat : Int) = b) := fun e => hx (hb.1 e)
        simp [hlt, hx2, hh, hw]
        refine ⟨j + 1, ⟨by omega, fun x hx3 => ?_⟩, by omega, ?_⟩
        · rw [List.take_succ_eq_append_getElem hlt] at hx3
          rcases List.mem_append.1 hx3 with h3 | h3
          · exact hp x h3
          · rw [List.mem_singleton.1 h3]; exact hx
        · simp [Leq, hh, leqH_take]
          done
    · have : j = s.length := by omega
      subst this
      have hc : ¬ UInt8.ofNat b.toNat ∈ s := fun hm => hp _ (by rw [List.take_length]; exact hm) rfl
      simp [hh, hc]
      done

/-! ### Kinds and replies -/
/-- What a kind of entry takes. -/
def repT (k : Int) : List UInt8 :=
  if k = 1 then [82, 75, 90, 69, 78, 83] else if k = 2 then [49, 69, 78, 83] else if k = 3 then [50, 69, 78, 83] else if k = 4 then [116, 84, 110, 69, 78, 83] else if k = 5 then [84, 110, 69, 78, 83] else if k = 6 then [68, 67, 115, 73, 69, 78, 83] else if k = 7 then [51, 69, 78, 83] else if k = 8 then [90, 78, 83] else if k = 9 then [84, 68, 67, 73, 90, 69, 78, 83] else []
/-- What ends it. -/
def repE (k : Int) : List UInt8 :=
  if k = 1 then [90] else if k = 2 then [49] else if k = 3 then [50] else if k = 4 then [84, 110] else if k = 5 then [84, 110] else if k = 6 then [67, 115, 73] else if k = 7 then [51] else if k = 8 then [90] else if k = 9 then [90] else []
/-- What it takes of its own. -/
def repR (k : Int) : List UInt8 :=
  if k = 1 then [82, 83, 75, 90] else if k = 2 then [49] else if k = 3 then [50] else if k = 4 then [116, 84, 110] else if k = 5 then [84, 110] else if k = 6 then [68, 67, 115, 73] else if k = 7 then [51] else if k = 8 then [90] else if k = 9 then [84, 68, 67, 73, 90] else []
theorem replies_c (k : Int) (h : List (List AV)) : Contract Try.prog 53 [.v (.int .i64 k)] h (.tup [.v (.string (strB (repT k))), .v (.string (strB (repE k)))]) h [] := by
  refine contract_of k53 mixed (by simp [c53]) fun hh hargs => ?_
  by_cases q1 : k = 1
  · subst q1; simp [c53, repT, repE, hh]
  by_cases q2 : k = 2
  · subst q2; simp [c53, repT, repE, hh]
  by_cases q3 : k = 3
  · subst q3; simp [c53, repT, repE, hh]
  by_cases q4 : k = 4
  · subst q4; simp [c53, repT, repE, hh]
  by_cases q5 : k = 5
  · subst q5; simp [c53, repT, repE, hh]
  by_cases q6 : k = 6
  · subst q6; simp [c53, repT, repE, hh]
  by_cases q7 : k = 7
  · subst q7; simp [c53, repT, repE, hh]
  by_cases q8 : k = 8
  · subst q8; simp [c53, repT, repE, hh]
  by_cases q9 : k = 9
  · subst q9; simp [c53, repT, repE, hh]
  simp [c53, repT, repE, hh, q1, q2, q3, q4, q5, q6, q7, q8, q9]
theorem own_c (k : Int) (h : List (List AV)) : Contract Try.prog 55 [.v (.int .i64 k)] h (.tup [.v (.string (strB (repR k))), .v (.string (strB (repE k)))]) h [] := by
  refine contract_of k55 mixed (by simp [c55]) fun hh hargs => ?_
  by_cases q1 : k = 1
  · subst q1; simp [c55, repR, repE, hh]
  by_cases q2 : k = 2
  · subst q2; simp [c55, repR, repE, hh]
  by_cases q3 : k = 3
  · subst q3; simp [c55, repR, repE, hh]
  by_cases q4 : k = 4
  · subst q4; simp [c55, repR, repE, hh]
  by_cases q5 : k = 5
  · subst q5; simp [c55, repR, repE, hh]
  by_cases q6 : k = 6
  · subst q6; simp [c55, repR, repE, hh]
  by_cases q7 : k = 7
  · subst q7; simp [c55, repR, repE, hh]
  by_cases q8 : k = 8
  · subst q8; simp [c55, repR, repE, hh]
  by_cases q9 : k = 9
  · subst q9; simp [c55, repR, repE, hh]
  simp [c55, repR, repE, hh, q1, q2, q3, q4, q5, q6, q7, q8, q9]
theorem repT_len (k : Int) : (repT k).length ≤ 1000 := by
  by_cases q1 : k = 1
  · subst q1; simp [repT]
  by_cases q2 : k = 2
  · subst q2; simp [repT]
  by_cases q3 : k = 3
  · subst q3; simp [repT]
  by_cases q4 : k = 4
  · subst q4; simp [repT]
  by_cases q5 : k = 5
  · subst q5; simp [repT]
  by_cases q6 : k = 6
  · subst q6; simp [repT]
  by_cases q7 : k = 7
  · subst q7; simp [repT]
  by_cases q8 : k = 8
  · subst q8; simp [repT]
  by_cases q9 : k = 9
  · subst q9; simp [repT]
  simp [repT, q1, q2, q3, q4, q5, q6, q7, q8, q9]
theorem repE_len (k : Int) : (repE k).length ≤ 1000 := by
  by_cases q1 : k = 1
  · subst q1; simp [repE]
  by_cases q2 : k = 2
  · subst q2; simp [repE]
  by_cases q3 : k = 3
  · subst q3; simp [repE]
  by_cases q4 : k = 4
  · subst q4; simp [repE]
  by_cases q5 : k = 5
  · subst q5; simp [repE]
  by_cases q6 : k = 6
  · subst q6; simp [repE]
  by_cases q7 : k = 7
  · subst q7; simp [repE]
  by_cases q8 : k = 8
  · subst q8; simp [repE]
  by_cases q9 : k = 9
  · subst q9; simp [repE]
  simp [repE, q1, q2, q3, q4, q5, q6, q7, q8, q9]
theorem repR_len (k : Int) : (repR k).length ≤ 1000 := by
  by_cases q1 : k = 1
  · subst q1; simp [repR]
  by_cases q2 : k = 2
  · subst q2; simp [repR]
  by_cases q3 : k = 3
  · subst q3; simp [repR]
  by_cases q4 : k = 4
  · subst q4; simp [repR]
  by_cases q5 : k = 5
  · subst q5; simp [repR]
  by_cases q6 : k = 6
  · subst q6; simp [repR]
  by_cases q7 : k = 7
  · subst q7; simp [repR]
  by_cases q8 : k = 8
  · subst q8; simp [repR]
  by_cases q9 : k = 9
  · subst q9; simp [repR]
  simp [repR, q1, q2, q3, q4, q5, q6, q7, q8, q9]
def takesB (k b : Int) : Bool := inB (repT k) b
def endsB (k b : Int) : Bool := inB (repE k) b
def failsB (k b : Int) : Bool := decide (b = 69) && (decide (k ≠ 9) && takesB k b)
def rtakesB (k b : Int) : Bool := !(repR k == []) && (inB (repR k) b || (decide (b = 78) || (decide (b = 83) || (decide (b = 69) && decide (k ≠ 8)))))
theorem takes_fin (k : Int) : ∀ n : Fin 256, takesB k (n.val : Int) = rtakesB k (n.val : Int) := by
  by_cases q1 : k = 1
  · subst q1; unfold takesB rtakesB; simp only [inB_has]; decide +kernel
  by_cases q2 : k = 2
  · subst q2; unfold takesB rtakesB; simp only [inB_has]; decide +kernel
  by_cases q3 : k = 3
  · subst q3; unfold takesB rtakesB; simp only [inB_has]; decide +kernel
  by_cases q4 : k = 4
  · subst q4; unfold takesB rtakesB; simp only [inB_has]; decide +kernel
  by_cases q5 : k = 5
  · subst q5; unfold takesB rtakesB; simp only [inB_has]; decide +kernel
  by_cases q6 : k = 6
  · subst q6; unfold takesB rtakesB; simp only [inB_has]; decide +kernel
  by_cases q7 : k = 7
  · subst q7; unfold takesB rtakesB; simp only [inB_has]; decide +kernel
  by_cases q8 : k = 8
  · subst q8; unfold takesB rtakesB; simp only [inB_has]; decide +kernel
  by_cases q9 : k = 9
  · subst q9; unfold takesB rtakesB; simp only [inB_has]; decide +kernel
  intro n; simp [takesB, rtakesB, repT, repR, inB_has, q1, q2, q3, q4, q5, q6, q7, q8, q9]
theorem takes_eq {k b : Int} (h0 : 0 ≤ b) (h1 : b < 256) : rtakesB k b = takesB k b := by
  have := takes_fin k ⟨b.toNat, by omega⟩
  have e : ((b.toNat : Nat) : Int) = b := by omega
  simp only [e] at this
  exact this.symm
theorem once_fin (k : Int) : ∀ n : Fin 256, (!(endsB k (n.val : Int) && failsB k (n.val : Int)) && (takesB k (n.val : Int) || (!endsB k (n.val : Int) && !failsB k (n.val : Int)))) = true := by
  by_cases q1 : k = 1
  · subst q1; unfold endsB failsB takesB; simp only [inB_has]; decide +kernel
  by_cases q2 : k = 2
  · subst q2; unfold endsB failsB takesB; simp only [inB_has]; decide +kernel
  by_cases q3 : k = 3
  · subst q3; unfold endsB failsB takesB; simp only [inB_has]; decide +kernel
  by_cases q4 : k = 4
  · subst q4; unfold endsB failsB takesB; simp only [inB_has]; decide +kernel
  by_cases q5 : k = 5
  · subst q5; unfold endsB failsB takesB; simp only [inB_has]; decide +kernel
  by_cases q6 : k = 6
  · subst q6; unfold endsB failsB takesB; simp only [inB_has]; decide +kernel
  by_cases q7 : k = 7
  · subst q7; unfold endsB failsB takesB; simp only [inB_has]; decide +kernel
  by_cases q8 : k = 8
  · subst q8; unfold endsB failsB takesB; simp only [inB_has]; decide +kernel
  by_cases q9 : k = 9
  · subst q9; unfold endsB failsB takesB; simp only [inB_has]; decide +kernel
  intro n; simp [takesB, endsB, failsB, repT, repE, inB_has, q1, q2, q3, q4, q5, q6, q7, q8, q9]
theorem once_eq {k b : Int} (h0 : 0 ≤ b) (h1 : b < 256) : (!(endsB k b && failsB k b) && (takesB k b || (!endsB k b && !failsB k b))) = true := by
  have := once_fin k ⟨b.toNat, by omega⟩
  have e : ((b.toNat : Nat) : Int) = b := by omega
  simp only [e] at this
  exact this
theorem takes_c (k b : Int) (h : List (List AV)) : Contract Try.prog 25 [.v (.int .i64 k), .v (.int .u8 b)] h (.v (.bool (takesB k b))) h [] := by
  refine contract_of k25 mixed (by simp [c25]) fun hh hargs => ?_
  simp [c25]
  refine xcall_self (by simp) (replies_c k _) ?_
  simp
  refine xcall_self (by simp) (indexByteS_c (repT k) b _) ?_
  simp [hh, takesB, inB]
theorem ends_c (k b : Int) (h : List (List AV)) : Contract Try.prog 27 [.v (.int .i64 k), .v (.int .u8 b)] h (.v (.bool (endsB k b))) h [] := by
  refine contract_of k27 mixed (by simp [c27]) fun hh hargs => ?_
  simp [c27]
  refine xcall_self (by simp) (replies_c k _) ?_
  simp
  refine xcall_self (by simp) (indexByteS_c (repE k) b _) ?_
  simp [hh, endsB, inB]
theorem fails_c (k b : Int) (h : List (List AV)) : Contract Try.prog 29 [.v (.int .i64 k), .v (.int .u8 b)] h (.v (.bool (failsB k b))) h [] := by
  refine contract_of k29 mixed (by simp [c29]) fun hh hargs => ?_
  by_cases h1 : b = 69
  · subst h1
    by_cases h2 : k = 9
    · subst h2
      simp [c29, failsB, hh]
    · simp [c29, failsB, h2]
      refine xcall_self (by simp) (takes_c k 69 _) ?_
      simp [hh, h2]
  · have e1 : (b == 69) = false := by simpa using h1
    simp [c29, failsB, h1, e1, hh]
theorem rtakes_c (k b : Int) (h0 : 0 ≤ b) (h1 : b < 256) (h : List (List AV)) : Contract Try.prog 26 [.v (.int .i64 k), .v (.int .u8 b)] h (.v (.bool (takesB k b))) h [] := by
  refine contract_of k26 mixed (by simp [c26]) fun hh hargs => ?_
  rw [← takes_eq h0 h1]
  simp [c26]
  refine xcall_self (by simp) (own_c k _) ?_
  by_cases hr : repR k = []
  · simp [hr, hh, rtakesB]
  · have hr1 : (repR k == []) = false := by simpa using hr
    simp [hr, hr1]
    refine xcall_self (by simp) (rin_c (repR k) (repR_len k) b h0 h1 _) ?_
    cases hi : inB (repR k) b with
    | true => simp [hh, rtakesB, hi, hr1]
    | false =>
      by_cases q1 : b = 78
      · subst q1; simp [hh, rtakesB, hi, hr1]
      by_cases q2 : b = 83
      · subst q2; simp [hh, rtakesB, hi, hr1]
      by_cases q3 : b = 69
      · subst q3
        by_cases q4 : k = 8
        · subst q4; simp [hh, rtakesB, hi, hr1]
        · have e4 : (k != 8) = true := by simpa using q4
          simp [hh, rtakesB, hi, hr1, q4, e4]
      · have e1 : (b == 78) = false := by simpa using q1
        have e2 : (b == 83) = false := by simpa using q2
        have e3 : (b == 69) = false := by simpa using q3
        simp [hh, rtakesB, hi, hr1, q1, q2, q3, e1, e2, e3]
theorem rends_c (k b : Int) (h0 : 0 ≤ b) (h1 : b < 256) (h : List (List AV)) : Contract Try.prog 28 [.v (.int .i64 k), .v (.int .u8 b)] h (.v (.bool (endsB k b))) h [] := by
  refine contract_of k28 mixed (by simp [c28]) fun hh hargs => ?_
  simp [c28]
  refine xcall_self (by simp) (own_c k _) ?_
  simp
  refine xcall_self (by simp) (rin_c (repE k) (repE_len k) b h0 h1 _) ?_
  simp [hh, endsB]
theorem rfails_c (k b : Int) (h0 : 0 ≤ b) (h1 : b < 256) (h : List (List AV)) : Contract Try.prog 30 [.v (.int .i64 k), .v (.int .u8 b)] h (.v (.bool (failsB k b))) h [] := by
  refine contract_of k30 mixed (by simp [c30]) fun hh hargs => ?_
  by_cases h2 : b = 69
  · subst h2
    simp [c30, failsB]
    refine xcall_self (by simp) (rtakes_c k 69 (by omega) (by omega) _) ?_
    by_cases h3 : k = 9
    · subst h3
      cases ht : takesB 9 69 <;> simp [hh]
    · have e3 : (k != 9) = true := by simpa using h3
      cases ht : takesB k 69 <;> simp [hh, h3, e3]
  · have e2 : (b == 69) = false := by simpa using h2
    simp [c30, failsB, h2, e2, hh]
/-- The kind of a message's entry. -/
def kindI (k w : Int) : Int := if k = 80 then 2 else if k = 66 then 3 else if k = 68 then (if w = 83 then 4 else if w = 80 then 5 else 0) else if k = 69 then 6 else if k = 67 then 7 else if k = 83 then 8 else if k = 81 then 9 else 0
theorem described_c (w : Int) (h : List (List AV)) : Contract Try.prog 57 [.v (.int .u8 w)] h (.v (.int .i64 (if w = 83 then 4 else if w = 80 then 5 else 0))) h [] := by
  refine contract_of k57 mixed (by simp [c57]) fun hh hargs => ?_
  by_cases h1 : w = 83
  · subst h1; simp [c57, hh]
  by_cases h2 : w = 80
  · subst h2; simp [c57, hh]
  · simp [c57, h1, h2, hh]
theorem kind_c (m : Fm) (h : List (List AV)) : Contract Try.prog 31 [.agg (fmC m)] h (.v (.int .i64 (kindI m.kind m.what))) h [] := by
  refine contract_of k31 mixed (by simp [c31]) fun hh hargs => ?_
  have hl2 := ltLL_mono (Nat.le_add_right h.length 1) hh
  by_cases q80 : m.kind = 80
  · simp [c31, kindI, q80, hh, hl2, leqH_take]
  by_cases q66 : m.kind = 66
  · simp [c31, kindI, q66, hh, hl2, leqH_take]
  by_cases q68 : m.kind = 68
  · simp [c31, kindI, q68]
    refine xcall_self (by simp) (described_c m.what _) ?_
    simp [hh, hl2, leqH_take]
  by_cases q69 : m.kind = 69
  · simp [c31, kindI, q69, hh, hl2, leqH_take]
  by_cases q67 : m.kind = 67
  · simp [c31, kindI, q67, hh, hl2, leqH_take]
  by_cases q83 : m.kind = 83
  · simp [c31, kindI, q83, hh, hl2, leqH_take]
  by_cases q81 : m.kind = 81
  · simp [c31, kindI, q81, hh, hl2, leqH_take]
  simp [c31, kindI, hh, hl2, leqH_take, q80, q66, q68, q69, q67, q83, q81]
theorem rkind_c (m : Fm) (h : List (List AV)) : Contract Try.prog 32 [.agg (fmC m)] h (.v (.int .i64 (kindI m.kind m.what))) h [] := by
  refine contract_of k32 mixed (by simp [c32]) fun hh hargs => ?_
  have hl2 := ltLL_mono (Nat.le_add_right h.length 1) hh
  by_cases q80 : m.kind = 80
  · simp [c32, kindI, q80, hh, hl2, leqH_take]
  by_cases q66 : m.kind = 66
  · simp [c32, kindI, q66, hh, hl2, leqH_take]
  by_cases q68 : m.kind = 68
  · by_cases w1 : m.what = 83
    · simp [c32, kindI, q68, w1, hh, hl2, leqH_take]
    by_cases w2 : m.what = 80
    · simp [c32, kindI, q68, w2, hh, hl2, leqH_take]
    · simp [c32, kindI, q68, w1, w2, hh, hl2, leqH_take]
  by_cases q69 : m.kind = 69
  · simp [c32, kindI, q69, hh, hl2, leqH_take]
  by_cases q67 : m.kind = 67
  · simp [c32, kindI, q67, hh, hl2, leqH_take]
  by_cases q83 : m.kind = 83
  · simp [c32, kindI, q83, hh, hl2, leqH_take]
  by_cases q81 : m.kind = 81
  · simp [c32, kindI, q81, hh, hl2, leqH_take]
  simp [c32, kindI, hh, hl2, leqH_take, q80, q66, q68, q69, q67, q83, q81]

/-! ### The statements -/
def aw20 : Fm := ⟨83, 0, [], [], [], [], [], [], [], 0⟩
theorem eawake_c (h : List (List AV)) : Contract Try.prog 33 [] h (.v (.bool true)) h [] := by
  refine contract_of k33 mixed (by simp [c33]) fun hh hargs => ?_
  have t1 : takesB 6 68 = true := by decide +kernel
  have t2 : endsB 6 68 = false := by decide +kernel
  have t3 : endsB 6 67 = true := by decide +kernel
  have t4 : failsB 2 69 = true := by decide +kernel
  have t5 : failsB 9 69 = false := by decide +kernel
  simp [c33]
  refine xcall_self (by simp) (takes_c 6 68 _) ?_
  rw [t1]
  simp
  refine xcall_self (by simp) (ends_c 6 68 _) ?_
  rw [t2]
  simp
  refine xcall_self (by simp) (ends_c 6 67 _) ?_
  rw [t3]
  simp
  refine xcall_self (by simp) (fails_c 2 69 _) ?_
  rw [t4]
  simp
  refine xcall_self (by simp) (fails_c 9 69 _) ?_
  rw [t5]
  simp
  refine xcall_of (kind_c aw20 _) (by simp [fmC_mk, aw20, intC]) (by simp) ?_
  simp [hh, aw20, kindI]
theorem eonce_c (k b : Int) (h0 : 0 ≤ b) (h1 : b < 256) : Contract Try.prog 6 [.v (.int .i64 k), .v (.int .u8 b)] [] (.v (.bool true)) [] [] := by
  refine contract_of k6 mixed (by simp [c6]) fun hh hargs => ?_
  have key := once_eq (k := k) h0 h1
  simp [c6]
  refine xcall_self (by simp) (ends_c k b _) ?_
  simp
  refine xcall_self (by simp) (fails_c k b _) ?_
  cases he : endsB k b with
  | true =>
    cases hf : failsB k b with
    | true => rw [he, hf] at key; simp at key
    | false =>
      simp
      refine xcall_self (by simp) (takes_c k b _) ?_
      rw [he, hf] at key
      simp at key
      rw [key]
      simp
      refine xcall_self (by simp) (eawake_c _) ?_
      simp
  | false =>
    cases hf : failsB k b with
    | true =>
      simp
      refine xcall_self (by simp) (takes_c k b _) ?_
      rw [he, hf] at key
      simp at key
      rw [key]
      simp
      refine xcall_self (by simp) (eawake_c _) ?_
      simp
    | false =>
      simp
      refine xcall_self (by simp) (takes_c k b _) ?_
      cases ht : takesB k b with
      | true =>
        simp
        refine xcall_self (by simp) (eawake_c _) ?_
        simp
      | false =>
        simp
        refine xcall_self (by simp) (eawake_c _) ?_
        simp
theorem etells_c (k b : Int) (m : Fm) (h0 : 0 ≤ b) (h1 : b < 256) : Contract Try.prog 5 [.v (.int .i64 k), .v (.int .u8 b), .agg (fmC m)] [] (.v (.bool true)) [] [] := by
  refine contract_of k5 mixed (by simp [c5]) fun hh hargs => ?_
  simp [c5]
  refine xcall_self (by simp) (takes_c k b _) ?_
  simp
  refine xcall_self (by simp) (rtakes_c k b h0 h1 _) ?_
  simp
  refine xcall_self (by simp) (ends_c k b _) ?_
  simp
  refine xcall_self (by simp) (rends_c k b h0 h1 _) ?_
  simp
  refine xcall_self (by simp) (fails_c k b _) ?_
  simp
  refine xcall_self (by simp) (rfails_c k b h0 h1 _) ?_
  simp
  refine xcall_self (by simp) (kind_c m _) ?_
  simp
  refine xcall_self (by simp) (rkind_c m _) ?_
  simp
  refine xcall_self (by simp) (eawake_c _) ?_
  simp
theorem eonce_l (k b : Int) (h : (Lit.int .u8 b).wf = true) : Contract Try.prog 6 [.v (.int .i64 k), .v (.int .u8 b)] [] (.v (.bool true)) [] [] := eonce_c k b (u8_of_wf h).1 (u8_of_wf h).2
theorem etells_l (k b : Int) (m : Fm) (h : (Lit.int .u8 b).wf = true) : Contract Try.prog 5 [.v (.int .i64 k), .v (.int .u8 b), .agg (fmC m)] [] (.v (.bool true)) [] [] := etells_c k b m (u8_of_wf h).1 (u8_of_wf h).2
end Go.Proofs.Ytkcampfbpmjacaa.Ax
namespace Go.Proofs.Ytkcampfbpmjacaa.entryTells
open Go.ChangeShapes Go.WideShapes Go.ChangeAt Go.RowKit
open Go.ChangeMaps (open_string shut_string)
set_option linter.unusedVariables false

theorem own : ownKnob Try.prog.godebug = none := by kernel_rfl
theorem laidOut : laidOutB Try.prog = true := by kernel_rfl

set_option maxRecDepth 100000 in
theorem lifted (os : Os) (started : os.Started) (H : Type) (enc : TypeId × Value → H) :
    ReturnsInHanded {} Try.checked os 5 .any (Rows.entryTellsSpec.pre6 enc Try.prog Try.f5 Rows.entryTellsRow.domain false) (Rows.entryTellsSpec.post enc Try.prog Try.f5 false true false false) := by
  refine returnsInHanded_of_change (C := Try.checked) own started (by kernel_rfl) Try.func5
    (ChangeSpec.witness6 (enc := enc) (C := Try.checked) false ⟨#[], #[.int .i64 0, .int .u8 0, .agg #[.int .u8 0, .int .u8 0, .string ByteArray.empty, .string ByteArray.empty, .string ByteArray.empty, .slice none 0 0, .slice none 0 0, .slice none 0 0, .slice none 0 0, .int .i64 0]], []⟩ 8 (by kernel_rfl) (by kernel_rfl) (by kernel_rfl) (by kernel_rfl)) ?_
  intro W base args ds gs before hval0 hW hcnd _
  have hval : ∀ (j : Nat) t v, Try.f5.params[j]? = some t → args[j]? = some v → Value.okWide Try.prog W .any base t v := hval0
  have hW' := hW
  obtain ⟨p, q, hA0, hV, rfl, hfz, hnd⟩ := hW
  have hA : DataW.TrodAll enc Try.prog W 0 (fun _ => true) true Try.f5.params.toList args.toList ds p := hA0
  rw [Try.params5] at hA hval
  obtain ⟨v0, vs0, d0, ds0, p0, q0, hargs, rfl, rfl, h0, r0⟩ := trodAll_cons hA
  obtain ⟨v1, vs1, d1, ds1, p1, q1, rfl, rfl, rfl, h1, r1⟩ := trodAll_cons r0
  obtain ⟨v2, vs2, d2, ds2, p2, q2, rfl, rfl, rfl, h2, r2⟩ := trodAll_cons r1
  obtain ⟨rfl, rfl, rfl⟩ := trodAll_nil r2
  obtain rfl : args = #[v0, v1, v2] := by cases args; simp_all
  obtain ⟨rfl, rfl⟩ := trodVars_none hV
  have k0 := h0
  have lt0 : ∀ x ∈ p0, x.block < W.heap.size := by obtain ⟨m, hm⟩ := k0; exact DataW.trod_lt m _ _ _ hm
  obtain ⟨a0, ok0, s0⟩ := Ax.arg_int Try.underlying3 (hval 0 3 v0 rfl rfl) h0
  have k1 := h1
  have lt1 : ∀ x ∈ p1, x.block < W.heap.size := by obtain ⟨m, hm⟩ := k1; exact DataW.trod_lt m _ _ _ hm
  obtain ⟨a1, ok1, s1⟩ := Ax.arg_int Try.underlying5 (hval 1 5 v1 rfl rfl) h1
  have k2 := h2
  have lt2 : ∀ x ∈ p2, x.block < W.heap.size := by obtain ⟨m, hm⟩ := k2; exact DataW.trod_lt m _ _ _ hm
  obtain ⟨a2, ok2, s2⟩ := Ax.arg_struct Try.underlying34 Ax.sh_fmC (hval 2 34 v2 rfl rfl) h2
  clear hA0 hval0
  refine (Ax.law_walk (w := W) (Ax.dom_any W) (Ax.etells_l a0 a1 a2 ok1) (by simp) (.cons s0 (.cons s1 (.cons s2 .nil)))).mono fun e W' ⟨he, bel⟩ => ?_
  subst he
  exact ⟨_, rfl, _, _, _, [], _, [], hW', trodAll_mk1 (shut_bool Try.underlying4 _), (trodAll_cons_mk (Below.trod laidOut (by kernel_rfl) (of_decide_eq_true (by kernel_rfl)) k0 bel lt0) (trodAll_cons_mk (Below.trod laidOut (by kernel_rfl) (of_decide_eq_true (by kernel_rfl)) k1 bel lt1) (trodAll_cons_mk (Below.trod laidOut (by kernel_rfl) (of_decide_eq_true (by kernel_rfl)) k2 bel lt2) trodAll_mk0))), rfl, bel.frame _, fun h => by cases h⟩

theorem over : Rows.entryTellsRow.holds Try.pinned (OpenSpec.ofChange Rows.entryTellsSpec) :=
  OpenClaim.holds_of_wide 5 Try.f5 rfl rfl rfl rfl rfl rfl rfl ⟨rfl, rfl, rfl, rfl, rfl⟩ rfl rfl rfl rfl rfl (by kernel_rfl) Try.func5 (by kernel_rfl)
    (of_decide_eq_true (by kernel_rfl)) (by unfold Func.isWrapper; first | (rw [if_pos (by decide +kernel)]; kernel_rfl) | (rw [if_neg (by decide +kernel)]; exact ⟨rfl, rfl⟩))
    (fun os started H enc _ => lifted os started H enc)

theorem proved : Rows.EntryTellsSaid := over
#print axioms proved
end Go.Proofs.Ytkcampfbpmjacaa.entryTells
