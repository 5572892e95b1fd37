/- The names of any two ids from 1 to 2^31 are the same just if the ids are, none is Dup or None, and each tells its id again: for every two numbers of 32 bits, no condition. -/
import Derived.Test.YtngkdlfgmpflnaaQAxX
import Derived.Test.YtngkdlfgmpflnaaRows
import Derived.Test.YtngkdlfgmpflnaaQAxDg
import Derived.Test.YtngkdlfgmpflnaaQDigC
import Derived.Test.YtngkdlfgmpflnaaQElems
import Derived.WalkKit
import Derived.ProofKit
import Derived.OpenShut
import Derived.ShutString
import Derived.ChangeOld
import Derived.Below
/- The texts of functions over values without memory, as the kernel reckons them out of the program. -/
namespace Go.Proofs.Ytngkdlfgmpflnaa.Ax
open Go.RowKit Go By

def c9 : XFun := ⟨26, (.seq (.ops [⟨(some 2), (.assign (.const (.int .i64 0))), none⟩, ⟨(some 3), (.assign (.const (.bool false))), none⟩]) (.seq (.ops [⟨(some 8), (.move (.tmp 0)), none⟩, ⟨(some 9), (.call 36 [(.tmp 8), (.const (.string (strB [95, 112])))]), none⟩, ⟨(some 7), (.move (.tmp 9)), none⟩, ⟨(some 10), (.extract (.tmp 7) 0), none⟩, ⟨(some 11), (.extract (.tmp 7) 1), none⟩, ⟨(some 4), (.assign (.tmp 10)), none⟩, ⟨(some 5), (.assign (.tmp 11)), none⟩]) (.seq (.seq (.ops [⟨(some 12), (.move (.tmp 5)), none⟩, ⟨(some 13), (.un .not (.tmp 12)), none⟩]) (.cond (.tmp 13) (.seq (.ops [⟨(some 2), (.assign (.const (.int .i64 0))), none⟩, ⟨(some 3), (.assign (.const (.bool false))), none⟩]) .ret) .skip)) (.seq (.ops [⟨(some 15), (.move (.tmp 4)), none⟩, ⟨(some 16), (.call 37 [(.tmp 15), (.const (.int .i64 2147483648))]), none⟩, ⟨(some 14), (.move (.tmp 16)), none⟩, ⟨(some 17), (.extract (.tmp 14) 0), none⟩, ⟨(some 18), (.extract (.tmp 14) 1), none⟩, ⟨(some 6), (.assign (.tmp 17)), none⟩, ⟨(some 5), (.assign (.tmp 18)), none⟩]) (.seq (.seq (.ops [⟨(some 19), (.move (.tmp 5)), none⟩, ⟨(some 20), (.un .not (.tmp 19)), none⟩, ⟨(some 21), (.move (.tmp 20)), none⟩, ⟨(some 22), (.move (.tmp 6)), (some (21, false))⟩, ⟨(some 23), (.bin .lss (.tmp 22) (.const (.int .i64 1))), (some (21, false))⟩, ⟨(some 24), (.pick (.tmp 21) (.const (.bool true)) (.tmp 23)), none⟩]) (.cond (.tmp 24) (.seq (.ops [⟨(some 2), (.assign (.const (.int .i64 0))), none⟩, ⟨(some 3), (.assign (.const (.bool false))), none⟩]) .ret) .skip)) (.seq (.ops [⟨(some 25), (.move (.tmp 6)), none⟩, ⟨(some 2), (.assign (.tmp 25)), none⟩, ⟨(some 3), (.assign (.const (.bool true))), none⟩]) .ret)))))), [(.move (.tmp 2)), (.move (.tmp 3))]⟩
theorem k9 : cfun Try.prog 9 = some c9 := by kernel_rfl
def c11 : XFun := ⟨12, (.seq (.ops [⟨(some 2), (.assign (.const (.string (strB [])))), none⟩]) (.seq (.seq (.ops [⟨(some 3), (.move (.tmp 0)), none⟩, ⟨(some 4), (.bin .lss (.tmp 3) (.const (.int .i64 1))), none⟩, ⟨(some 5), (.move (.tmp 4)), none⟩, ⟨(some 6), (.move (.tmp 0)), (some (5, false))⟩, ⟨(some 7), (.bin .gtr (.tmp 6) (.const (.int .i64 2147483648))), (some (5, false))⟩, ⟨(some 8), (.pick (.tmp 5) (.const (.bool true)) (.tmp 7)), none⟩]) (.cond (.tmp 8) (.seq (.ops [⟨(some 2), (.assign (.const (.string (strB [])))), none⟩]) .ret) .skip)) (.seq (.ops [⟨(some 9), (.move (.tmp 0)), none⟩, ⟨(some 10), (.call 39 [(.tmp 9)]), none⟩, ⟨(some 11), (.bin .add (.const (.string (strB [95, 112]))) (.tmp 10)), none⟩, ⟨(some 2), (.assign (.tmp 11)), none⟩]) .ret))), [(.move (.tmp 2))]⟩
theorem k11 : cfun Try.prog 11 = some c11 := by kernel_rfl
def c13 : XFun := ⟨21, (.seq (.ops [⟨(some 2), (.assign (.const (.bool false))), none⟩]) (.seq (.ops [⟨(some 6), (.move (.tmp 0)), none⟩, ⟨(some 7), (.call 9 [(.tmp 6)]), none⟩, ⟨(some 5), (.move (.tmp 7)), none⟩, ⟨(some 8), (.extract (.tmp 5) 0), none⟩, ⟨(some 9), (.extract (.tmp 5) 1), none⟩, ⟨(some 3), (.assign (.tmp 8)), none⟩, ⟨(some 4), (.assign (.tmp 9)), none⟩]) (.seq (.ops [⟨(some 10), (.move (.tmp 4)), none⟩, ⟨(some 11), (.move (.tmp 10)), none⟩, ⟨(some 12), (.move (.tmp 0)), (some (11, false))⟩, ⟨(some 13), (.call 15 []), (some (11, false))⟩, ⟨(some 14), (.bin .eql (.tmp 12) (.tmp 13)), (some (11, false))⟩, ⟨(some 15), (.pick (.tmp 11) (.const (.bool true)) (.tmp 14)), none⟩, ⟨(some 16), (.move (.tmp 15)), none⟩, ⟨(some 17), (.move (.tmp 0)), (some (16, false))⟩, ⟨(some 18), (.call 16 []), (some (16, false))⟩, ⟨(some 19), (.bin .eql (.tmp 17) (.tmp 18)), (some (16, false))⟩, ⟨(some 20), (.pick (.tmp 16) (.const (.bool true)) (.tmp 19)), none⟩, ⟨(some 2), (.assign (.tmp 20)), none⟩]) .ret))), [(.move (.tmp 2))]⟩
theorem k13 : cfun Try.prog 13 = some c13 := by kernel_rfl
def c15 : XFun := ⟨1, (.seq (.ops [⟨(some 0), (.assign (.const (.string (strB [])))), none⟩]) (.seq (.ops [⟨(some 0), (.assign (.const (.string (strB [95, 100, 117, 112])))), none⟩]) .ret)), [(.move (.tmp 0))]⟩
theorem k15 : cfun Try.prog 15 = some c15 := by kernel_rfl
def c16 : XFun := ⟨1, (.seq (.ops [⟨(some 0), (.assign (.const (.string (strB [])))), none⟩]) (.seq (.ops [⟨(some 0), (.assign (.const (.string (strB [95, 110, 111, 110, 101])))), none⟩]) .ret)), [(.move (.tmp 0))]⟩
theorem k16 : cfun Try.prog 16 = some c16 := by kernel_rfl
def c10 : XFun := ⟨27, (.seq (.ops [⟨(some 2), (.assign (.const (.int .i64 0))), none⟩, ⟨(some 3), (.assign (.const (.bool false))), none⟩]) (.seq (.seq (.ops [⟨(some 6), (.move (.tmp 0)), none⟩, ⟨(some 7), (.lenS (.tmp 6)), none⟩, ⟨(some 8), (.bin .lss (.tmp 7) (.const (.int .i64 3))), none⟩, ⟨(some 9), (.move (.tmp 8)), none⟩, ⟨(some 10), (.move (.tmp 0)), (some (9, false))⟩, ⟨(some 11), (.sliceS (.tmp 10) none (some (.const (.int .i64 2)))), (some (9, false))⟩, ⟨(some 12), (.bin .neq (.tmp 11) (.const (.string (strB [95, 112])))), (some (9, false))⟩, ⟨(some 13), (.pick (.tmp 9) (.const (.bool true)) (.tmp 12)), none⟩]) (.cond (.tmp 13) (.seq (.ops [⟨(some 2), (.assign (.const (.int .i64 0))), none⟩, ⟨(some 3), (.assign (.const (.bool false))), none⟩]) .ret) .skip)) (.seq (.ops [⟨(some 15), (.move (.tmp 0)), none⟩, ⟨(some 16), (.sliceS (.tmp 15) (some (.const (.int .i64 2))) none), none⟩, ⟨(some 17), (.call 38 [(.tmp 16), (.const (.int .i64 2147483648))]), none⟩, ⟨(some 14), (.move (.tmp 17)), none⟩, ⟨(some 18), (.extract (.tmp 14) 0), none⟩, ⟨(some 19), (.extract (.tmp 14) 1), none⟩, ⟨(some 4), (.assign (.tmp 18)), none⟩, ⟨(some 5), (.assign (.tmp 19)), none⟩]) (.seq (.seq (.ops [⟨(some 20), (.move (.tmp 5)), none⟩, ⟨(some 21), (.un .not (.tmp 20)), none⟩, ⟨(some 22), (.move (.tmp 21)), none⟩, ⟨(some 23), (.move (.tmp 4)), (some (22, false))⟩, ⟨(some 24), (.bin .lss (.tmp 23) (.const (.int .i64 1))), (some (22, false))⟩, ⟨(some 25), (.pick (.tmp 22) (.const (.bool true)) (.tmp 24)), none⟩]) (.cond (.tmp 25) (.seq (.ops [⟨(some 2), (.assign (.const (.int .i64 0))), none⟩, ⟨(some 3), (.assign (.const (.bool false))), none⟩]) .ret) .skip)) (.seq (.ops [⟨(some 26), (.move (.tmp 4)), none⟩, ⟨(some 2), (.assign (.tmp 26)), none⟩, ⟨(some 3), (.assign (.const (.bool true))), none⟩]) .ret))))), [(.move (.tmp 2)), (.move (.tmp 3))]⟩
theorem k10 : cfun Try.prog 10 = some c10 := by kernel_rfl
def c12 : XFun := ⟨12, (.seq (.ops [⟨(some 2), (.assign (.const (.string (strB [])))), none⟩]) (.seq (.seq (.ops [⟨(some 3), (.move (.tmp 0)), none⟩, ⟨(some 4), (.bin .lss (.tmp 3) (.const (.int .i64 1))), none⟩, ⟨(some 5), (.move (.tmp 4)), none⟩, ⟨(some 6), (.move (.tmp 0)), (some (5, false))⟩, ⟨(some 7), (.bin .gtr (.tmp 6) (.const (.int .i64 2147483648))), (some (5, false))⟩, ⟨(some 8), (.pick (.tmp 5) (.const (.bool true)) (.tmp 7)), none⟩]) (.cond (.tmp 8) (.seq (.ops [⟨(some 2), (.assign (.const (.string (strB [])))), none⟩]) .ret) .skip)) (.seq (.ops [⟨(some 9), (.move (.tmp 0)), none⟩, ⟨(some 10), (.call 40 [(.tmp 9)]), none⟩, ⟨(some 11), (.bin .add (.const (.string (strB [95, 112]))) (.tmp 10)), none⟩, ⟨(some 2), (.assign (.tmp 11)), none⟩]) .ret))), [(.move (.tmp 2))]⟩
theorem k12 : cfun Try.prog 12 = some c12 := by kernel_rfl
def c14 : XFun := ⟨19, (.seq (.ops [⟨(some 2), (.assign (.const (.bool false))), none⟩]) (.seq (.ops [⟨(some 6), (.move (.tmp 0)), none⟩, ⟨(some 7), (.call 10 [(.tmp 6)]), none⟩, ⟨(some 5), (.move (.tmp 7)), none⟩, ⟨(some 8), (.extract (.tmp 5) 0), none⟩, ⟨(some 9), (.extract (.tmp 5) 1), none⟩, ⟨(some 3), (.assign (.tmp 8)), none⟩, ⟨(some 4), (.assign (.tmp 9)), none⟩]) (.seq (.ops [⟨(some 10), (.move (.tmp 4)), none⟩, ⟨(some 11), (.move (.tmp 10)), none⟩, ⟨(some 12), (.move (.tmp 0)), (some (11, false))⟩, ⟨(some 13), (.bin .eql (.tmp 12) (.const (.string (strB [95, 100, 117, 112])))), (some (11, false))⟩, ⟨(some 14), (.pick (.tmp 11) (.const (.bool true)) (.tmp 13)), none⟩, ⟨(some 15), (.move (.tmp 14)), none⟩, ⟨(some 16), (.move (.tmp 0)), (some (15, false))⟩, ⟨(some 17), (.bin .eql (.tmp 16) (.const (.string (strB [95, 110, 111, 110, 101])))), (some (15, false))⟩, ⟨(some 18), (.pick (.tmp 15) (.const (.bool true)) (.tmp 17)), none⟩, ⟨(some 2), (.assign (.tmp 18)), none⟩]) .ret))), [(.move (.tmp 2))]⟩
theorem k14 : cfun Try.prog 14 = some c14 := by kernel_rfl
def c36 : XFun := ⟨11, (.seq (.ops [⟨(some 4), (.assign (.const (.string (strB [])))), none⟩, ⟨(some 5), (.assign (.const (.bool false))), none⟩]) (.seq (.ops [⟨(some 6), (.move (.tmp 0)), none⟩, ⟨(some 7), (.move (.tmp 1)), none⟩, ⟨(some 8), (.call 50 [(.tmp 6), (.tmp 7)]), none⟩, ⟨(some 9), (.extract (.tmp 8) 0), none⟩, ⟨(some 10), (.extract (.tmp 8) 1), none⟩, ⟨(some 4), (.assign (.tmp 9)), none⟩, ⟨(some 5), (.assign (.tmp 10)), none⟩]) .ret)), [(.move (.tmp 4)), (.move (.tmp 5))]⟩
theorem k36 : cfun Try.prog 36 = some c36 := by kernel_rfl
def c50 : XFun := ⟨15, (.seq (.ops [⟨(some 4), (.assign (.const (.string (strB [])))), none⟩, ⟨(some 5), (.assign (.const (.bool false))), none⟩]) (.seq (.seq (.ops [⟨(some 6), (.move (.tmp 0)), none⟩, ⟨(some 7), (.move (.tmp 1)), none⟩, ⟨(some 8), (.call 60 [(.tmp 6), (.tmp 7)]), none⟩, ⟨(some 9), (.un .not (.tmp 8)), none⟩]) (.cond (.tmp 9) (.seq (.ops [⟨(some 10), (.move (.tmp 0)), none⟩, ⟨(some 4), (.assign (.tmp 10)), none⟩, ⟨(some 5), (.assign (.const (.bool false))), none⟩]) .ret) .skip)) (.seq (.ops [⟨(some 11), (.move (.tmp 0)), none⟩, ⟨(some 12), (.move (.tmp 1)), none⟩, ⟨(some 13), (.lenS (.tmp 12)), none⟩, ⟨(some 14), (.sliceS (.tmp 11) (some (.tmp 13)) none), none⟩, ⟨(some 4), (.assign (.tmp 14)), none⟩, ⟨(some 5), (.assign (.const (.bool true))), none⟩]) .ret))), [(.move (.tmp 4)), (.move (.tmp 5))]⟩
theorem k50 : cfun Try.prog 50 = some c50 := by kernel_rfl
def c60 : XFun := ⟨18, (.seq (.ops [⟨(some 4), (.assign (.const (.bool false))), none⟩]) (.seq (.ops [⟨(some 5), (.move (.tmp 0)), none⟩, ⟨(some 6), (.lenS (.tmp 5)), none⟩, ⟨(some 7), (.move (.tmp 1)), none⟩, ⟨(some 8), (.lenS (.tmp 7)), none⟩, ⟨(some 9), (.bin .geq (.tmp 6) (.tmp 8)), none⟩, ⟨(some 10), (.move (.tmp 9)), none⟩, ⟨(some 11), (.move (.tmp 0)), (some (10, true))⟩, ⟨(some 12), (.move (.tmp 1)), (some (10, true))⟩, ⟨(some 13), (.lenS (.tmp 12)), (some (10, true))⟩, ⟨(some 14), (.sliceS (.tmp 11) none (some (.tmp 13))), (some (10, true))⟩, ⟨(some 15), (.move (.tmp 1)), (some (10, true))⟩, ⟨(some 16), (.bin .eql (.tmp 14) (.tmp 15)), (some (10, true))⟩, ⟨(some 17), (.pick (.tmp 10) (.tmp 16) (.const (.bool false))), none⟩, ⟨(some 4), (.assign (.tmp 17)), none⟩]) .ret)), [(.move (.tmp 4))]⟩
theorem k60 : cfun Try.prog 60 = some c60 := by kernel_rfl
def c3 : XFun := ⟨48, (.seq (.ops [⟨(some 4), (.assign (.const (.bool false))), none⟩]) (.seq (.seq (.ops [⟨(some 9), (.move (.tmp 1)), none⟩, ⟨(some 10), (.lenS (.tmp 9)), none⟩, ⟨(some 11), (.bin .gtr (.tmp 10) (.const (.int .i64 500))), none⟩]) (.cond (.tmp 11) (.seq (.ops [⟨(some 12), (.call 8 []), none⟩, ⟨(some 4), (.assign (.tmp 12)), none⟩]) .ret) .skip)) (.seq (.ops [⟨(some 14), (.move (.tmp 1)), none⟩, ⟨(some 15), (.call 9 [(.tmp 14)]), none⟩, ⟨(some 13), (.move (.tmp 15)), none⟩, ⟨(some 16), (.extract (.tmp 13) 0), none⟩, ⟨(some 17), (.extract (.tmp 13) 1), none⟩, ⟨(some 5), (.assign (.tmp 16)), none⟩, ⟨(some 6), (.assign (.tmp 17)), none⟩]) (.seq (.ops [⟨(some 19), (.move (.tmp 1)), none⟩, ⟨(some 20), (.call 10 [(.tmp 19)]), none⟩, ⟨(some 18), (.move (.tmp 20)), none⟩, ⟨(some 21), (.extract (.tmp 18) 0), none⟩, ⟨(some 22), (.extract (.tmp 18) 1), none⟩, ⟨(some 7), (.assign (.tmp 21)), none⟩, ⟨(some 8), (.assign (.tmp 22)), none⟩]) (.seq (.ops [⟨(some 23), (.move (.tmp 0)), none⟩, ⟨(some 24), (.call 11 [(.tmp 23)]), none⟩, ⟨(some 25), (.move (.tmp 0)), none⟩, ⟨(some 26), (.call 12 [(.tmp 25)]), none⟩, ⟨(some 27), (.bin .eql (.tmp 24) (.tmp 26)), none⟩, ⟨(some 28), (.move (.tmp 27)), none⟩, ⟨(some 29), (.move (.tmp 5)), (some (28, true))⟩, ⟨(some 30), (.move (.tmp 7)), (some (28, true))⟩, ⟨(some 31), (.bin .eql (.tmp 29) (.tmp 30)), (some (28, true))⟩, ⟨(some 32), (.pick (.tmp 28) (.tmp 31) (.const (.bool false))), none⟩, ⟨(some 33), (.move (.tmp 32)), none⟩, ⟨(some 34), (.move (.tmp 6)), (some (33, true))⟩, ⟨(some 35), (.move (.tmp 8)), (some (33, true))⟩, ⟨(some 36), (.beq false (.tmp 34) (.tmp 35)), (some (33, true))⟩, ⟨(some 37), (.pick (.tmp 33) (.tmp 36) (.const (.bool false))), none⟩, ⟨(some 38), (.move (.tmp 37)), none⟩, ⟨(some 39), (.move (.tmp 1)), (some (38, true))⟩, ⟨(some 40), (.call 13 [(.tmp 39)]), (some (38, true))⟩, ⟨(some 41), (.move (.tmp 1)), (some (38, true))⟩, ⟨(some 42), (.call 14 [(.tmp 41)]), (some (38, true))⟩, ⟨(some 43), (.beq false (.tmp 40) (.tmp 42)), (some (38, true))⟩, ⟨(some 44), (.pick (.tmp 38) (.tmp 43) (.const (.bool false))), none⟩, ⟨(some 45), (.move (.tmp 44)), none⟩, ⟨(some 46), (.call 8 []), (some (45, true))⟩, ⟨(some 47), (.pick (.tmp 45) (.tmp 46) (.const (.bool false))), none⟩, ⟨(some 4), (.assign (.tmp 47)), none⟩]) .ret))))), [(.move (.tmp 4))]⟩
theorem k3 : cfun Try.prog 3 = some c3 := by kernel_rfl
def c4 : XFun := ⟨59, (.seq (.ops [⟨(some 4), (.assign (.const (.bool false))), none⟩]) (.seq (.ops [⟨(some 10), (.move (.tmp 0)), none⟩, ⟨(some 11), (.bin .shr (.tmp 10) (.const (.int .u64 1))), none⟩, ⟨(some 12), (.conv .i64 (.tmp 11)), none⟩, ⟨(some 13), (.bin .add (.const (.int .i64 1)) (.tmp 12)), none⟩, ⟨(some 14), (.move (.tmp 1)), none⟩, ⟨(some 15), (.bin .shr (.tmp 14) (.const (.int .u64 1))), none⟩, ⟨(some 16), (.conv .i64 (.tmp 15)), none⟩, ⟨(some 17), (.bin .add (.const (.int .i64 1)) (.tmp 16)), none⟩, ⟨(some 5), (.assign (.tmp 13)), none⟩, ⟨(some 6), (.assign (.tmp 17)), none⟩]) (.seq (.ops [⟨(some 19), (.move (.tmp 5)), none⟩, ⟨(some 20), (.call 11 [(.tmp 19)]), none⟩, ⟨(some 21), (.call 9 [(.tmp 20)]), none⟩, ⟨(some 18), (.move (.tmp 21)), none⟩, ⟨(some 22), (.extract (.tmp 18) 0), none⟩, ⟨(some 23), (.extract (.tmp 18) 1), none⟩, ⟨(some 7), (.assign (.tmp 22)), none⟩, ⟨(some 8), (.assign (.tmp 23)), none⟩]) (.seq (.ops [⟨(some 24), (.move (.tmp 5)), none⟩, ⟨(some 25), (.call 11 [(.tmp 24)]), none⟩, ⟨(some 9), (.assign (.tmp 25)), none⟩]) (.seq (.ops [⟨(some 26), (.move (.tmp 8)), none⟩, ⟨(some 27), (.move (.tmp 26)), none⟩, ⟨(some 28), (.move (.tmp 7)), (some (27, true))⟩, ⟨(some 29), (.move (.tmp 5)), (some (27, true))⟩, ⟨(some 30), (.bin .eql (.tmp 28) (.tmp 29)), (some (27, true))⟩, ⟨(some 31), (.pick (.tmp 27) (.tmp 30) (.const (.bool false))), none⟩, ⟨(some 32), (.move (.tmp 31)), none⟩, ⟨(some 33), (.move (.tmp 9)), (some (32, true))⟩, ⟨(some 34), (.move (.tmp 6)), (some (32, true))⟩, ⟨(some 35), (.call 11 [(.tmp 34)]), (some (32, true))⟩, ⟨(some 36), (.bin .eql (.tmp 33) (.tmp 35)), (some (32, true))⟩, ⟨(some 37), (.move (.tmp 5)), (some (32, true))⟩, ⟨(some 38), (.move (.tmp 6)), (some (32, true))⟩, ⟨(some 39), (.bin .eql (.tmp 37) (.tmp 38)), (some (32, true))⟩, ⟨(some 40), (.beq false (.tmp 36) (.tmp 39)), (some (32, true))⟩, ⟨(some 41), (.pick (.tmp 32) (.tmp 40) (.const (.bool false))), none⟩, ⟨(some 42), (.move (.tmp 41)), none⟩, ⟨(some 43), (.move (.tmp 9)), (some (42, true))⟩, ⟨(some 44), (.call 15 []), (some (42, true))⟩, ⟨(some 45), (.bin .neq (.tmp 43) (.tmp 44)), (some (42, true))⟩, ⟨(some 46), (.pick (.tmp 42) (.tmp 45) (.const (.bool false))), none⟩, ⟨(some 47), (.move (.tmp 46)), none⟩, ⟨(some 48), (.move (.tmp 9)), (some (47, true))⟩, ⟨(some 49), (.call 16 []), (some (47, true))⟩, ⟨(some 50), (.bin .neq (.tmp 48) (.tmp 49)), (some (47, true))⟩, ⟨(some 51), (.pick (.tmp 47) (.tmp 50) (.const (.bool false))), none⟩, ⟨(some 52), (.move (.tmp 51)), none⟩, ⟨(some 53), (.move (.tmp 9)), (some (52, true))⟩, ⟨(some 54), (.call 13 [(.tmp 53)]), (some (52, true))⟩, ⟨(some 55), (.pick (.tmp 52) (.tmp 54) (.const (.bool false))), none⟩, ⟨(some 56), (.move (.tmp 55)), none⟩, ⟨(some 57), (.call 8 []), (some (56, true))⟩, ⟨(some 58), (.pick (.tmp 56) (.tmp 57) (.const (.bool false))), none⟩, ⟨(some 4), (.assign (.tmp 58)), none⟩]) .ret))))), [(.move (.tmp 4))]⟩
theorem k4 : cfun Try.prog 4 = some c4 := by kernel_rfl
def c8 : XFun := ⟨28, (.seq (.ops [⟨(some 0), (.assign (.const (.bool false))), none⟩]) (.seq (.ops [⟨(some 4), (.call 11 [(.const (.int .i64 7))]), none⟩, ⟨(some 5), (.call 9 [(.tmp 4)]), none⟩, ⟨(some 3), (.move (.tmp 5)), none⟩, ⟨(some 6), (.extract (.tmp 3) 0), none⟩, ⟨(some 7), (.extract (.tmp 3) 1), none⟩, ⟨(some 1), (.assign (.tmp 6)), none⟩, ⟨(some 2), (.assign (.tmp 7)), none⟩]) (.seq (.ops [⟨(some 8), (.move (.tmp 2)), none⟩, ⟨(some 9), (.move (.tmp 8)), none⟩, ⟨(some 10), (.move (.tmp 1)), (some (9, true))⟩, ⟨(some 11), (.bin .eql (.tmp 10) (.const (.int .i64 7))), (some (9, true))⟩, ⟨(some 12), (.pick (.tmp 9) (.tmp 11) (.const (.bool false))), none⟩, ⟨(some 13), (.move (.tmp 12)), none⟩, ⟨(some 14), (.call 11 [(.const (.int .i64 7))]), (some (13, true))⟩, ⟨(some 15), (.bin .eql (.tmp 14) (.const (.string (strB [95, 112, 55])))), (some (13, true))⟩, ⟨(some 16), (.pick (.tmp 13) (.tmp 15) (.const (.bool false))), none⟩, ⟨(some 17), (.move (.tmp 16)), none⟩, ⟨(some 18), (.call 13 [(.const (.string (strB [95, 100, 117, 112])))]), (some (17, true))⟩, ⟨(some 19), (.pick (.tmp 17) (.tmp 18) (.const (.bool false))), none⟩, ⟨(some 20), (.move (.tmp 19)), none⟩, ⟨(some 21), (.call 15 []), (some (20, true))⟩, ⟨(some 22), (.bin .eql (.tmp 21) (.const (.string (strB [95, 100, 117, 112])))), (some (20, true))⟩, ⟨(some 23), (.pick (.tmp 20) (.tmp 22) (.const (.bool false))), none⟩, ⟨(some 24), (.move (.tmp 23)), none⟩, ⟨(some 25), (.call 16 []), (some (24, true))⟩, ⟨(some 26), (.bin .eql (.tmp 25) (.const (.string (strB [95, 110, 111, 110, 101])))), (some (24, true))⟩, ⟨(some 27), (.pick (.tmp 24) (.tmp 26) (.const (.bool false))), none⟩, ⟨(some 0), (.assign (.tmp 27)), none⟩]) .ret))), [(.move (.tmp 0))]⟩
theorem k8 : cfun Try.prog 8 = some c8 := by kernel_rfl
end Go.Proofs.Ytngkdlfgmpflnaa.Ax
/- Names that servers know, over values without memory: names, the document's answer, and the statements of layer 13. -/
namespace Go.Proofs.Ytngkdlfgmpflnaa.Ax
open Go.RowKit Go By Nm Sc Dg
set_option linter.unusedSimpArgs false
set_option linter.unusedVariables false
set_option maxRecDepth 10000

/-! ### Parsing, prefixes -/
theorem dparse_c (s : List UInt8) (most : Int) (hs : s.length ≤ 1000000) (h : List (List AV)) : Contract Try.prog 37 [.v (.string (strB s)), .v (.int .i64 most)] h (.tup [.v (.int .i64 (parseV s most)), .v (.bool (parseB s most))]) h [] :=
  plain_quiet_t (l := [.string (strB s), .int .i64 most]) (r := [.int .i64 (parseV s most), .bool (parseB s most)]) (by kernel_rfl) h fun w => by
    have := parse_any (strB s) most w (by rw [strB_size]; unfold maxLen; omega)
    rwa [strB_data] at this
theorem drparse_c (s : List UInt8) (most : Int) (hs : s.length ≤ 1000000) (h : List (List AV)) : Contract Try.prog 38 [.v (.string (strB s)), .v (.int .i64 most)] h (.tup [.v (.int .i64 (parseV s most)), .v (.bool (parseB s most))]) h [] :=
  plain_quiet_t (l := [.string (strB s), .int .i64 most]) (r := [.int .i64 (parseV s most), .bool (parseB s most)]) (by kernel_rfl) h fun w => by
    have := rparse_any (strB s) most w (by rw [strB_size]; unfold maxLen; omega)
    rwa [strB_data] at this
theorem strB_cut (xs : List UInt8) (i j : Nat) : (strB xs).extract i j = strB ((xs.drop i).take (j - i)) := by
  apply ByteArray.ext
  simp [strB, ByteArray.data_extract]
def hasP (s p : List UInt8) : Bool := decide (p.length ≤ s.length) && (s.take p.length == p)
theorem hasPrefix_c (s p : List UInt8) (h : List (List AV)) : Contract Try.prog 60 [.v (.string (strB s)), .v (.string (strB p))] h (.v (.bool (hasP s p))) h [] := by
  refine contract_of k60 mixed (by simp [c60]) fun hh hargs => ?_
  by_cases hl : p.length ≤ s.length
  · have e : decide ((p.length : Int) ≤ (s.length : Int)) = true := by simpa using hl
    simp [c60, hasP, hl, hh, e, strB_cut]
  · have e : decide ((p.length : Int) ≤ (s.length : Int)) = false := by simpa using hl
    simp [c60, hasP, hl, hh, e]
def cutP (s p : List UInt8) : List UInt8 := if hasP s p = true then s.drop p.length else s
theorem scutPrefix_c (s p : List UInt8) (h : List (List AV)) : Contract Try.prog 50 [.v (.string (strB s)), .v (.string (strB p))] h (.tup [.v (.string (strB (cutP s p))), .v (.bool (hasP s p))]) h [] := by
  refine contract_of k50 mixed (by simp [c50]) fun hh hargs => ?_
  simp [c50]
  refine xcall_self (by simp) (hasPrefix_c s p _) ?_
  cases hp : hasP s p with
  | false => simp [hh, cutP, hp]
  | true =>
    have hl : p.length ≤ s.length := by
      unfold hasP at hp
      simp at hp
      exact hp.1
    have ht : List.take (s.length - p.length) (s.drop p.length) = s.drop p.length := List.take_of_length_le (by simp)
    simp [hh, cutP, hp, strB_cut, ht, hl]
theorem cutPrefix_c (s p : List UInt8) (h : List (List AV)) : Contract Try.prog 36 [.v (.string (strB s)), .v (.string (strB p))] h (.tup [.v (.string (strB (cutP s p))), .v (.bool (hasP s p))]) h [] := by
  refine contract_of k36 mixed (by simp [c36]) fun hh hargs => ?_
  simp [c36]
  refine xcall_self (by simp) (scutPrefix_c s p _) ?_
  simp [hh]

/-! ### Names -/
def preN : List UInt8 := [95, 112]
def dupN : List UInt8 := [95, 100, 117, 112]
def noneN : List UInt8 := [95, 110, 111, 110, 101]
def nidB (s : List UInt8) : Bool := hasP s preN && (parseB (s.drop 2) 2147483648 && decide (1 ≤ parseV (s.drop 2) 2147483648))
def nidV (s : List UInt8) : Int := if nidB s = true then parseV (s.drop 2) 2147483648 else 0
def serverL (n : Int) : List UInt8 := if n < 1 ∨ 2147483648 < n then [] else preN ++ textL n
def ownN (s : List UInt8) : Bool := nidB s || (s == dupN || s == noneN)
theorem nid_c (s : List UInt8) (hs : s.length ≤ 100000) (h : List (List AV)) : Contract Try.prog 9 [.v (.string (strB s))] h (.tup [.v (.int .i64 (nidV s)), .v (.bool (nidB s))]) h [] := by
  refine contract_of k9 mixed (by simp [c9]) fun hh hargs => ?_
  simp [c9]
  refine xcall_self (by simp) (cutPrefix_c s preN _) ?_
  cases hp : hasP s preN with
  | false => simp [hh, nidV, nidB, hp]
  | true =>
    have e : cutP s preN = s.drop 2 := by unfold cutP; rw [hp]; rfl
    rw [e]
    simp
    refine xcall_self (by simp) (dparse_c (s.drop 2) 2147483648 (by simp; omega) _) ?_
    cases hb : parseB (s.drop 2) 2147483648 with
    | false => simp [hh, nidV, nidB, hp, hb]
    | true =>
      by_cases h1 : parseV (s.drop 2) 2147483648 < 1
      · have e1 : decide (1 ≤ parseV (s.drop 2) 2147483648) = false := by simpa using h1
        simp [hh, nidV, nidB, hp, hb, h1, e1]
      · have e1 : 1 ≤ parseV (s.drop 2) 2147483648 := by omega
        simp [hh, nidV, nidB, hp, hb, h1, e1]
theorem parse_nil (most : Int) : parseB [] most = false := (form_not (form_short (by simp))).1
theorem rnid_c (s : List UInt8) (hs : s.length ≤ 100000) (h : List (List AV)) : Contract Try.prog 10 [.v (.string (strB s))] h (.tup [.v (.int .i64 (nidV s)), .v (.bool (nidB s))]) h [] := by
  refine contract_of k10 mixed (by simp [c10]) fun hh hargs => ?_
  by_cases h3 : s.length < 3
  · have e : nidB s = false := by
      unfold nidB
      cases hp : hasP s preN with
      | false => rfl
      | true =>
        have : s.drop 2 = [] := by
          have : 2 ≤ s.length := by unfold hasP preN at hp; simp at hp; exact hp.1
          exact List.drop_eq_nil_of_le (by omega)
        rw [this, parse_nil]; rfl
    have e3 : (s.length : Int) < 3 := by omega
    simp [c10, hh, nidV, e, e3]
  · have e3 : ¬ (s.length : Int) < 3 := by omega
    have e4 : (2 : Int) ≤ s.length := by omega
    by_cases hp : s.take 2 = preN
    · have hp2 : hasP s preN = true := by
        unfold hasP
        have : preN.length ≤ s.length := by unfold preN; simp; omega
        simp [this]
        exact hp
      have e5 : List.take (s.length - 2) (s.drop 2) = s.drop 2 := List.take_of_length_le (by simp)
      simp [c10, e3, e4, strB_cut, hp, preN]
      rw [e5]
      refine xcall_self (by simp) (drparse_c (s.drop 2) 2147483648 (by simp; omega) _) ?_
      cases hb : parseB (s.drop 2) 2147483648 with
      | false => simp [hh, nidV, nidB, hp2, hb]
      | true =>
        by_cases h1 : parseV (s.drop 2) 2147483648 < 1
        · have e1 : decide (1 ≤ parseV (s.drop 2) 2147483648) = false := by simpa using h1
          simp [hh, nidV, nidB, hp2, hb, h1, e1]
        · have e1 : 1 ≤ parseV (s.drop 2) 2147483648 := by omega
          simp [hh, nidV, nidB, hp2, hb, h1, e1]
    · have hp2 : hasP s preN = false := by
        unfold hasP
        have : ¬ List.take preN.length s = preN := hp
        simp [this]
      have e6 : (List.take 2 s == [95, 112]) = false := by simpa [preN] using hp
      simp [c10, e3, e4, strB_cut, e6, hh, nidV, nidB, hp2]
theorem nserver_c (n : Int) (h0 : (Lit.int .i64 n).wf = true) (h : List (List AV)) : Contract Try.prog 11 [.v (.int .i64 n)] h (.v (.string (strB (serverL n)))) h [] := by
  obtain ⟨l1, l2⟩ := int_of_wf h0
  refine contract_of k11 mixed (by simp [c11]) fun hh hargs => ?_
  by_cases h1 : n < 1
  · simp [c11, h1, hh, serverL]
  · by_cases h2 : 2147483648 < n
    · simp [c11, h1, h2, hh, serverL]
    · have h3 : ¬ n > 2147483648 := h2
      have hl := dtext_len n l1 l2
      simp [c11, h1, h2, h3]
      refine xcall_self (by simp) (dtext_c n l1 l2 _) ?_
      simp [hh, serverL, h1, h2, str_append, preN]
      omega
theorem rnserver_c (n : Int) (h0 : (Lit.int .i64 n).wf = true) (h : List (List AV)) : Contract Try.prog 12 [.v (.int .i64 n)] h (.v (.string (strB (serverL n)))) h [] := by
  obtain ⟨l1, l2⟩ := int_of_wf h0
  refine contract_of k12 mixed (by simp [c12]) fun hh hargs => ?_
  by_cases h1 : n < 1
  · simp [c12, h1, hh, serverL]
  · by_cases h2 : 2147483648 < n
    · simp [c12, h1, h2, hh, serverL]
    · have h3 : ¬ n > 2147483648 := h2
      have hl := dtext_len n l1 l2
      simp [c12, h1, h2, h3]
      refine xcall_self (by simp) (drtext_c n l1 l2 _) ?_
      simp [hh, serverL, h1, h2, str_append, preN]
      omega
theorem ndup_c (h : List (List AV)) : Contract Try.prog 15 [] h (.v (.string (strB dupN))) h [] := by
  refine contract_of k15 mixed (by simp [c15]) fun hh hargs => ?_
  simp [c15, hh, dupN]
theorem nnone_c (h : List (List AV)) : Contract Try.prog 16 [] h (.v (.string (strB noneN))) h [] := by
  refine contract_of k16 mixed (by simp [c16]) fun hh hargs => ?_
  simp [c16, hh, noneN]
theorem nown_c (s : List UInt8) (hs : s.length ≤ 100000) (h : List (List AV)) : Contract Try.prog 13 [.v (.string (strB s))] h (.v (.bool (ownN s))) h [] := by
  refine contract_of k13 mixed (by simp [c13]) fun hh hargs => ?_
  simp [c13]
  refine xcall_self (by simp) (nid_c s hs _) ?_
  cases hb : nidB s with
  | true => simp [hh, ownN, hb]
  | false =>
    simp
    refine xcall_self (by simp) (ndup_c _) ?_
    cases hd : (s == dupN) with
    | true => simp [hh, ownN, hb, hd]
    | false =>
      simp [hd]
      refine xcall_self (by simp) (nnone_c _) ?_
      simp [hh, ownN, hb, hd]
theorem rnown_c (s : List UInt8) (hs : s.length ≤ 100000) (h : List (List AV)) : Contract Try.prog 14 [.v (.string (strB s))] h (.v (.bool (ownN s))) h [] := by
  refine contract_of k14 mixed (by simp [c14]) fun hh hargs => ?_
  simp [c14]
  refine xcall_self (by simp) (rnid_c s hs _) ?_
  cases hb : nidB s with
  | true => simp [hh, ownN, hb]
  | false =>
    cases hd : (s == dupN) with
    | true =>
      have : (s == [95, 100, 117, 112]) = true := hd
      simp [hh, ownN, hb, hd, this]
    | false =>
      have : (s == [95, 100, 117, 112]) = false := hd
      cases hn : (s == noneN) with
      | true =>
        have e2 : (s == [95, 110, 111, 110, 101]) = true := hn
        simp [hh, ownN, hb, hd, hn, this, e2]
      | false =>
        have e2 : (s == [95, 110, 111, 110, 101]) = false := hn
        simp [hh, ownN, hb, hd, hn, this, e2]
/-! ### Names there and back -/
theorem text_nat (m : Nat) : textL (m : Int) = digsN m := by
  unfold textL
  rw [if_neg (by omega), Int.toNat_natCast]
theorem server_id {n : Int} (h1 : 1 ≤ n) (h2 : n ≤ 2147483648) : nidB (serverL n) = true ∧ nidV (serverL n) = n := by
  obtain ⟨m, rfl⟩ : ∃ m : Nat, n = m := ⟨n.toNat, by omega⟩
  have hm : m < 10000000000 := by omega
  have e : serverL (m : Int) = preN ++ digsN m := by
    unfold serverL
    rw [if_neg (by omega), text_nat]
  have hf : formB (digsN m) = true := by
    have := (parse_digs m hm).1
    unfold parseB at this
    simp only [Bool.and_eq_true] at this
    exact this.1
  obtain ⟨p1, p2⟩ := parse_yes (most := 2147483648) hf (by rw [num_digs]; omega)
  rw [num_digs] at p2
  have hd : (serverL (m : Int)).drop 2 = digsN m := by rw [e]; rfl
  have hp : hasP (serverL (m : Int)) preN = true := by
    rw [e]; unfold hasP
    simp
  have hb : nidB (serverL (m : Int)) = true := by
    unfold nidB
    rw [hd, hp, p1, p2]
    simp; omega
  refine ⟨hb, ?_⟩
  unfold nidV
  rw [if_pos hb, hd, p2]
theorem server_len (n : Int) (h0 : (Lit.int .i64 n).wf = true) : (serverL n).length ≤ 100 := by
  obtain ⟨l1, l2⟩ := int_of_wf h0
  have := dtext_len n l1 l2
  unfold serverL
  split
  · simp
  · simp [preN]; omega
theorem nid_dup : nidB dupN = false := by unfold nidB; rw [show hasP dupN preN = false from by decide]; rfl
theorem nid_none : nidB noneN = false := by unfold nidB; rw [show hasP noneN preN = false from by decide]; rfl
theorem own_dup : ownN dupN = true := by unfold ownN; rw [nid_dup]; decide
theorem server_seven : serverL 7 = [95, 112, 55] := by
  have : serverL 7 = preN ++ digsN 7 := by
    unfold serverL
    rw [if_neg (by omega)]
    rfl
  rw [this, digsN_small (by omega)]
  rfl
theorem nawake_c (h : List (List AV)) : Contract Try.prog 8 [] h (.v (.bool true)) h [] := by
  obtain ⟨i1, i2⟩ := server_id (n := 7) (by omega) (by omega)
  rw [server_seven] at i1 i2
  refine contract_of k8 mixed (by simp [c8]) fun hh hargs => ?_
  simp [c8]
  have h7 : (Lit.int .i64 7).wf = true := by decide
  refine xcall_self (by simp) (nserver_c 7 h7 _) ?_
  rw [server_seven]
  simp
  refine xcall_self (by simp) (nid_c [95, 112, 55] (by simp) _) ?_
  rw [i1, i2]
  simp
  refine xcall_self (by simp) (nserver_c 7 h7 _) ?_
  rw [server_seven]
  simp
  refine xcall_self (by simp) (nown_c dupN (by decide) _) ?_
  rw [own_dup]
  simp
  refine xcall_self (by simp) (ndup_c _) ?_
  simp [dupN]
  refine xcall_self (by simp) (nnone_c _) ?_
  simp [noneN, hh]
theorem ntell_c (id : Int) (s : List UInt8) (h0 : (Lit.int .i64 id).wf = true) : Contract Try.prog 3 [.v (.int .i64 id), .v (.string (strB s))] [] (.v (.bool true)) [] [] := by
  refine contract_of k3 mixed (by simp [c3]) fun hh hargs => ?_
  by_cases hl : 500 < s.length
  · have e : (500 : Int) < s.length := by omega
    simp [c3, e]
    refine xcall_self (by simp) (nawake_c _) ?_
    simp [hh]
  · have e : ¬ (500 : Int) < s.length := by omega
    simp [c3, e]
    refine xcall_self (by simp) (nid_c s (by omega) _) ?_
    simp
    refine xcall_self (by simp) (rnid_c s (by omega) _) ?_
    simp
    refine xcall_self (by simp) (nserver_c id h0 _) ?_
    simp
    refine xcall_self (by simp) (rnserver_c id h0 _) ?_
    simp
    refine xcall_self (by simp) (nown_c s (by omega) _) ?_
    simp
    refine xcall_self (by simp) (rnown_c s (by omega) _) ?_
    simp
    refine xcall_self (by simp) (nawake_c _) ?_
    simp [hh]
theorem napart_c (a b : Int) (h0 : (Lit.int .u32 a).wf = true) (h1 : (Lit.int .u32 b).wf = true) : Contract Try.prog 4 [.v (.int .u32 a), .v (.int .u32 b)] [] (.v (.bool true)) [] [] := by
  have lo : IntKind.u32.min = 0 := rfl
  have hi : IntKind.u32.max = 4294967295 := rfl
  have ha : 0 ≤ a ∧ a ≤ 4294967295 := by simp [Lit.wf] at h0; omega
  have hb : 0 ≤ b ∧ b ≤ 4294967295 := by simp [Lit.wf] at h1; omega
  have ea : a.fdiv 2 = a / 2 := Int.fdiv_eq_ediv_of_nonneg _ (by omega)
  have eb : b.fdiv 2 = b / 2 := Int.fdiv_eq_ediv_of_nonneg _ (by omega)
  have wr1 : IntKind.i64.wrap (a / 2) = a / 2 := wrap64 (by omega) (by omega)
  have wr2 : IntKind.i64.wrap (b / 2) = b / 2 := wrap64 (by omega) (by omega)
  have wr3 : IntKind.i64.wrap (1 + a / 2) = 1 + a / 2 := wrap64 (by omega) (by omega)
  have wr4 : IntKind.i64.wrap (1 + b / 2) = 1 + b / 2 := wrap64 (by omega) (by omega)
  obtain ⟨x, hx⟩ : ∃ x, x = 1 + a / 2 := ⟨_, rfl⟩
  obtain ⟨y, hy⟩ : ∃ y, y = 1 + b / 2 := ⟨_, rfl⟩
  have hx1 : 1 ≤ x ∧ x ≤ 2147483648 := by omega
  have hy1 : 1 ≤ y ∧ y ≤ 2147483648 := by omega
  have wx : (Lit.int .i64 x).wf = true := by
    have lo : IntKind.i64.min = -9223372036854775808 := rfl
    have hi : IntKind.i64.max = 9223372036854775807 := rfl
    simp [Lit.wf]; omega
  have wy : (Lit.int .i64 y).wf = true := by
    have lo : IntKind.i64.min = -9223372036854775808 := rfl
    have hi : IntKind.i64.max = 9223372036854775807 := rfl
    simp [Lit.wf]; omega
  obtain ⟨i1, i2⟩ := server_id hx1.1 hx1.2
  obtain ⟨j1, j2⟩ := server_id hy1.1 hy1.2
  have hll := server_len x wx
  have heq : (serverL x == serverL y) = (x == y) := by
    by_cases e : x = y
    · subst e; simp
    · have : serverL x ≠ serverL y := fun hh => e (by rw [← i2, hh, j2])
      rw [beq_eq_false_iff_ne.2 this, beq_eq_false_iff_ne.2 e]
  have nd : (serverL x == dupN) = false := by
    have : serverL x ≠ dupN := fun hh => by rw [hh, nid_dup] at i1; cases i1
    simpa using this
  have nn : (serverL x == noneN) = false := by
    have : serverL x ≠ noneN := fun hh => by rw [hh, nid_none] at i1; cases i1
    simpa using this
  have ho : ownN (serverL x) = true := by unfold ownN; rw [i1]; rfl
  refine contract_of k4 mixed (by simp [c4]) fun hh hargs => ?_
  simp [c4, IntKind.bits, ea, eb, wr1, wr2, wr3, wr4]
  rw [← hx, ← hy]
  refine xcall_self (by simp) (nserver_c x wx _) ?_
  simp
  refine xcall_self (by simp) (nid_c (serverL x) (by omega) _) ?_
  rw [i1, i2]
  simp
  refine xcall_self (by simp) (nserver_c x wx _) ?_
  simp
  refine xcall_self (by simp) (nserver_c y wy _) ?_
  simp [heq]
  refine xcall_self (by simp) (ndup_c _) ?_
  simp [nd]
  refine xcall_self (by simp) (nnone_c _) ?_
  simp [nn]
  refine xcall_self (by simp) (nown_c (serverL x) (by omega) _) ?_
  rw [ho]
  simp
  refine xcall_self (by simp) (nawake_c _) ?_
  simp [hh]
end Go.Proofs.Ytngkdlfgmpflnaa.Ax
namespace Go.Proofs.Ytngkdlfgmpflnaa.namesApart
open Go.ChangeShapes Go.WideShapes Go.ChangeAt Go.RowKit
open Go.ChangeMaps (open_string shut_string)
set_option linter.unusedVariables false

theorem own : ownKnob Try.prog.godebug = none := by kernel_rfl
theorem laidOut : laidOutB Try.prog = true := by kernel_rfl

set_option maxRecDepth 100000 in
theorem lifted (os : Os) (started : os.Started) (H : Type) (enc : TypeId × Value → H) :
    ReturnsInHanded {} Try.checked os 4 .any (Rows.namesApartSpec.pre6 enc Try.prog Try.f4 Rows.namesApartRow.domain false) (Rows.namesApartSpec.post enc Try.prog Try.f4 false true false false) := by
  refine returnsInHanded_of_change (C := Try.checked) own started (by kernel_rfl) Try.func4
    (ChangeSpec.witness6 (enc := enc) (C := Try.checked) false ⟨#[], #[.int .u32 0, .int .u32 0], []⟩ 8 (by kernel_rfl) (by kernel_rfl) (by kernel_rfl) (by kernel_rfl)) ?_
  intro W base args ds gs before hval0 hW hcnd _
  have hval : ∀ (j : Nat) t v, Try.f4.params[j]? = some t → args[j]? = some v → Value.okWide Try.prog W .any base t v := hval0
  have hW' := hW
  obtain ⟨p, q, hA0, hV, rfl, hfz, hnd⟩ := hW
  have hA : DataW.TrodAll enc Try.prog W 0 (fun _ => true) true Try.f4.params.toList args.toList ds p := hA0
  rw [Try.params4] at hA hval
  obtain ⟨v0, vs0, d0, ds0, p0, q0, hargs, rfl, rfl, h0, r0⟩ := trodAll_cons hA
  obtain ⟨v1, vs1, d1, ds1, p1, q1, rfl, rfl, rfl, h1, r1⟩ := trodAll_cons r0
  obtain ⟨rfl, rfl, rfl⟩ := trodAll_nil r1
  obtain rfl : args = #[v0, v1] := by cases args; simp_all
  obtain ⟨rfl, rfl⟩ := trodVars_none hV
  have k0 := h0
  have lt0 : ∀ x ∈ p0, x.block < W.heap.size := by obtain ⟨m, hm⟩ := k0; exact DataW.trod_lt m _ _ _ hm
  obtain ⟨a0, ok0, s0⟩ := Ax.arg_int Try.underlying28 (hval 0 28 v0 rfl rfl) h0
  have k1 := h1
  have lt1 : ∀ x ∈ p1, x.block < W.heap.size := by obtain ⟨m, hm⟩ := k1; exact DataW.trod_lt m _ _ _ hm
  obtain ⟨a1, ok1, s1⟩ := Ax.arg_int Try.underlying28 (hval 1 28 v1 rfl rfl) h1
  clear hA0 hval0
  refine (Ax.law_walk (w := W) (Ax.dom_any W) (Ax.napart_c a0 a1 ok0 ok1) (by simp) (.cons s0 (.cons s1 .nil))).mono fun e W' ⟨he, bel⟩ => ?_
  subst he
  exact ⟨_, rfl, _, _, _, [], _, [], hW', trodAll_mk1 (shut_bool Try.underlying4 _), (trodAll_cons_mk (Below.trod laidOut (by kernel_rfl) (of_decide_eq_true (by kernel_rfl)) k0 bel lt0) (trodAll_cons_mk (Below.trod laidOut (by kernel_rfl) (of_decide_eq_true (by kernel_rfl)) k1 bel lt1) trodAll_mk0)), rfl, bel.frame _, fun h => by cases h⟩

theorem over : Rows.namesApartRow.holds Try.pinned (OpenSpec.ofChange Rows.namesApartSpec) :=
  OpenClaim.holds_of_wide 4 Try.f4 rfl rfl rfl rfl rfl rfl rfl ⟨rfl, rfl, rfl, rfl, rfl⟩ rfl rfl rfl rfl rfl (by kernel_rfl) Try.func4 (by kernel_rfl)
    (of_decide_eq_true (by kernel_rfl)) (by unfold Func.isWrapper; first | (rw [if_pos (by decide +kernel)]; kernel_rfl) | (rw [if_neg (by decide +kernel)]; exact ⟨rfl, rfl⟩))
    (fun os started H enc _ => lifted os started H enc)

theorem proved : Rows.NamesApartSaid := over
#print axioms proved
end Go.Proofs.Ytngkdlfgmpflnaa.namesApart
