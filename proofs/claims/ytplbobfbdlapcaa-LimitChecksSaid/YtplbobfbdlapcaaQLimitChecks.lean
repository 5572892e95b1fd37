/- whether any settings may be is what the document's own check says -/
import Derived.Test.YtplbobfbdlapcaaQAxX
import Derived.Test.YtplbobfbdlapcaaRows
import Derived.Test.YtplbobfbdlapcaaQAxTz
import Derived.Test.YtplbobfbdlapcaaQAxBa
import Derived.Test.YtplbobfbdlapcaaQAxNb
import Derived.Test.YtplbobfbdlapcaaQElems
import Derived.WalkKit
import Derived.ProofKit
import Derived.OpenShut
import Derived.ShutString
import Derived.ChangeOld
import Derived.Below
/- The texts of functions over values without memory, as the kernel reckons them out of the program. -/
namespace Go.Proofs.Ytplbobfbdlapcaa.Ax
open Go.RowKit Go By

def c30 : XFun := ⟨9, (.seq (.ops [⟨(some 4), (.assign (.const (.bool false))), none⟩]) (.seq (.ops [⟨(some 5), (.move (.tmp 0)), none⟩, ⟨(some 6), (.move (.tmp 1)), none⟩, ⟨(some 7), (.call 33 [(.tmp 5), (.tmp 6)]), none⟩, ⟨(some 8), (.bin .geq (.tmp 7) (.const (.int .i64 0))), none⟩, ⟨(some 4), (.assign (.tmp 8)), none⟩]) .ret)), [(.move (.tmp 4))]⟩
theorem k30 : cfun Try.prog 30 = some c30 := by kernel_rfl
def c33 : XFun := ⟨19, (.seq (.ops [⟨(some 4), (.assign (.const (.int .i64 0))), none⟩]) (.seq (.seq (.ops [⟨(some 6), (.move (.tmp 0)), none⟩, ⟨(some 7), (.lenL (.tmp 6)), none⟩, ⟨(some 8), (.move (.const (.int .i64 0))), none⟩]) (.block 0 (.loop (.seq (.ops [⟨(some 9), (.bin .lss (.tmp 8) (.tmp 7)), none⟩]) (.seq (.cond (.tmp 9) .skip (.exit 0)) (.seq (.block 1 (.seq (.ops [⟨(some 10), (.move (.tmp 8)), none⟩, ⟨(some 5), (.assign (.tmp 10)), none⟩]) (.seq (.ops [⟨(some 11), (.move (.tmp 1)), none⟩, ⟨(some 12), (.move (.tmp 0)), none⟩, ⟨(some 13), (.move (.tmp 5)), none⟩, ⟨(some 14), (.iaddr 2 (.tmp 12) (.tmp 13)), none⟩, ⟨(some 15), (.loadN 2 (.tmp 14)), none⟩, ⟨(some 16), (.callv (.tmp 11) [(.tmp 15)]), none⟩]) (.cond (.tmp 16) (.seq (.ops [⟨(some 17), (.move (.tmp 5)), none⟩, ⟨(some 4), (.assign (.tmp 17)), none⟩]) .ret) .skip)))) (.ops [⟨(some 18), (.bin .add (.tmp 8) (.const (.int .i64 1))), none⟩, ⟨(some 8), (.move (.tmp 18)), none⟩]))))))) (.seq (.ops [⟨(some 4), (.assign (.const (.int .i64 (-1)))), none⟩]) .ret))), [(.move (.tmp 4))]⟩
theorem k33 : cfun Try.prog 33 = some c33 := by kernel_rfl
def c9 : XFun := ⟨12, (.seq (.ops [⟨(some 1), (.box (.tmp 0)), none⟩, ⟨(some 2), (.assign (.const (.int .i64 0))), none⟩]) (.seq (.seq (.ops [⟨(some 3), (.loadN 7 (.tmp 1)), none⟩, ⟨(some 4), (.call 23 [(.tmp 3)]), none⟩, ⟨(some 5), (.un .not (.tmp 4)), none⟩, ⟨(some 6), (.move (.tmp 5)), none⟩, ⟨(some 7), (.faddr 6 (.tmp 1)), (some (6, false))⟩, ⟨(some 8), (.load1 (.tmp 7)), (some (6, false))⟩, ⟨(some 9), (.call 24 [(.tmp 8)]), (some (6, false))⟩, ⟨(some 10), (.un .not (.tmp 9)), (some (6, false))⟩, ⟨(some 11), (.pick (.tmp 6) (.const (.bool true)) (.tmp 10)), none⟩]) (.cond (.tmp 11) (.seq (.ops [⟨(some 2), (.assign (.const (.int .i64 1))), none⟩]) .ret) .skip)) (.seq (.ops [⟨(some 2), (.assign (.const (.int .i64 0))), none⟩]) .ret))), [(.move (.tmp 2))]⟩
theorem k9 : cfun Try.prog 9 = some c9 := by kernel_rfl
def c11 : XFun := ⟨4, (.seq (.ops [⟨(some 0), (.alloc [(.v (.int .i64 0)), (.v (.int .i64 0)), (.v (.int .i64 0)), (.v (.int .i64 0)), (.v (.int .i64 0)), (.v (.int .i64 0)), (.sl 0 [] (some true) .exact)]), none⟩]) (.seq (.ops [⟨(some 1), (.build [(.v (.string (strB []))), (.v (.string (strB [])))] [(0, (1, (.const (.string (strB [115, 101, 114, 118, 101, 114, 95, 118, 101, 114, 115, 105, 111, 110]))))), (1, (1, (.const (.string (strB [49, 54])))))]), none⟩, ⟨(some 2), (.buildSlice 2 1 [(.v (.string (strB []))), (.v (.string (strB [])))] [(0, (.tmp 1))]), none⟩, ⟨(some 3), (.build [(.v (.int .i64 0)), (.v (.int .i64 0)), (.v (.int .i64 0)), (.v (.int .i64 0)), (.v (.int .i64 0)), (.v (.int .i64 0)), (.sl 0 [] (some true) .exact)] [(0, (1, (.const (.int .i64 2)))), (1, (1, (.const (.int .i64 4)))), (2, (1, (.const (.int .i64 8)))), (3, (1, (.const (.int .i64 4096)))), (4, (1, (.const (.int .i64 8192)))), (5, (1, (.const (.int .i64 32)))), (6, (1, (.tmp 2)))]), none⟩, ⟨none, (.store 7 (.tmp 0) (.tmp 3)), none⟩]) .ret)), [(.loadN 7 (.tmp 0))]⟩
theorem k11 : cfun Try.prog 11 = some c11 := by kernel_rfl
def c23 : XFun := ⟨34, (.seq (.ops [⟨(some 1), (.box (.tmp 0)), none⟩, ⟨(some 2), (.assign (.const (.bool false))), none⟩]) (.seq (.ops [⟨(some 3), (.faddr 0 (.tmp 1)), none⟩, ⟨(some 4), (.load1 (.tmp 3)), none⟩, ⟨(some 5), (.call 29 [(.tmp 4), (.const (.int .i64 1)), (.const (.int .i64 8))]), none⟩, ⟨(some 6), (.move (.tmp 5)), none⟩, ⟨(some 7), (.faddr 1 (.tmp 1)), (some (6, true))⟩, ⟨(some 8), (.load1 (.tmp 7)), (some (6, true))⟩, ⟨(some 9), (.call 29 [(.tmp 8), (.const (.int .i64 1)), (.const (.int .i64 64))]), (some (6, true))⟩, ⟨(some 10), (.pick (.tmp 6) (.tmp 9) (.const (.bool false))), none⟩, ⟨(some 11), (.move (.tmp 10)), none⟩, ⟨(some 12), (.faddr 2 (.tmp 1)), (some (11, true))⟩, ⟨(some 13), (.load1 (.tmp 12)), (some (11, true))⟩, ⟨(some 14), (.call 29 [(.tmp 13), (.const (.int .i64 1)), (.const (.int .i64 64))]), (some (11, true))⟩, ⟨(some 15), (.pick (.tmp 11) (.tmp 14) (.const (.bool false))), none⟩, ⟨(some 16), (.move (.tmp 15)), none⟩, ⟨(some 17), (.faddr 3 (.tmp 1)), (some (16, true))⟩, ⟨(some 18), (.load1 (.tmp 17)), (some (16, true))⟩, ⟨(some 19), (.call 29 [(.tmp 18), (.const (.int .i64 64)), (.const (.int .i64 65536))]), (some (16, true))⟩, ⟨(some 20), (.pick (.tmp 16) (.tmp 19) (.const (.bool false))), none⟩, ⟨(some 21), (.move (.tmp 20)), none⟩, ⟨(some 22), (.faddr 4 (.tmp 1)), (some (21, true))⟩, ⟨(some 23), (.load1 (.tmp 22)), (some (21, true))⟩, ⟨(some 24), (.faddr 3 (.tmp 1)), (some (21, true))⟩, ⟨(some 25), (.load1 (.tmp 24)), (some (21, true))⟩, ⟨(some 26), (.bin .add (.tmp 25) (.const (.int .i64 1))), (some (21, true))⟩, ⟨(some 27), (.call 29 [(.tmp 23), (.tmp 26), (.const (.int .i64 131072))]), (some (21, true))⟩, ⟨(some 28), (.pick (.tmp 21) (.tmp 27) (.const (.bool false))), none⟩, ⟨(some 29), (.move (.tmp 28)), none⟩, ⟨(some 30), (.faddr 5 (.tmp 1)), (some (29, true))⟩, ⟨(some 31), (.load1 (.tmp 30)), (some (29, true))⟩, ⟨(some 32), (.call 29 [(.tmp 31), (.const (.int .i64 6)), (.const (.int .i64 256))]), (some (29, true))⟩, ⟨(some 33), (.pick (.tmp 29) (.tmp 32) (.const (.bool false))), none⟩, ⟨(some 2), (.assign (.tmp 33)), none⟩]) .ret)), [(.move (.tmp 2))]⟩
theorem k23 : cfun Try.prog 23 = some c23 := by kernel_rfl
def c24 : XFun := ⟨11, (.seq (.ops [⟨(some 2), (.assign (.const (.bool false))), none⟩]) (.seq (.ops [⟨(some 3), (.move (.tmp 0)), none⟩, ⟨(some 4), (.lenL (.tmp 3)), none⟩, ⟨(some 5), (.bin .leq (.tmp 4) (.const (.int .i64 16))), none⟩, ⟨(some 6), (.move (.tmp 5)), none⟩, ⟨(some 7), (.move (.tmp 0)), (some (6, true))⟩, ⟨(some 8), (.call 30 [(.tmp 7), (.func 31)]), (some (6, true))⟩, ⟨(some 9), (.un .not (.tmp 8)), (some (6, true))⟩, ⟨(some 10), (.pick (.tmp 6) (.tmp 9) (.const (.bool false))), none⟩, ⟨(some 2), (.assign (.tmp 10)), none⟩]) .ret)), [(.move (.tmp 2))]⟩
theorem k24 : cfun Try.prog 24 = some c24 := by kernel_rfl
def c31 : XFun := ⟨18, (.seq (.ops [⟨(some 1), (.box (.tmp 0)), none⟩, ⟨(some 2), (.assign (.const (.bool false))), none⟩]) (.seq (.ops [⟨(some 3), (.faddr 0 (.tmp 1)), none⟩, ⟨(some 4), (.load1 (.tmp 3)), none⟩, ⟨(some 5), (.bin .eql (.tmp 4) (.const (.string (strB [])))), none⟩, ⟨(some 6), (.move (.tmp 5)), none⟩, ⟨(some 7), (.faddr 0 (.tmp 1)), (some (6, false))⟩, ⟨(some 8), (.load1 (.tmp 7)), (some (6, false))⟩, ⟨(some 9), (.call 32 [(.tmp 8)]), (some (6, false))⟩, ⟨(some 10), (.un .not (.tmp 9)), (some (6, false))⟩, ⟨(some 11), (.pick (.tmp 6) (.const (.bool true)) (.tmp 10)), none⟩, ⟨(some 12), (.move (.tmp 11)), none⟩, ⟨(some 13), (.faddr 1 (.tmp 1)), (some (12, false))⟩, ⟨(some 14), (.load1 (.tmp 13)), (some (12, false))⟩, ⟨(some 15), (.call 32 [(.tmp 14)]), (some (12, false))⟩, ⟨(some 16), (.un .not (.tmp 15)), (some (12, false))⟩, ⟨(some 17), (.pick (.tmp 12) (.const (.bool true)) (.tmp 16)), none⟩, ⟨(some 2), (.assign (.tmp 17)), none⟩]) .ret)), [(.move (.tmp 2))]⟩
theorem k31 : cfun Try.prog 31 = some c31 := by kernel_rfl
def c32 : XFun := ⟨10, (.seq (.ops [⟨(some 2), (.assign (.const (.bool false))), none⟩]) (.seq (.ops [⟨(some 3), (.move (.tmp 0)), none⟩, ⟨(some 4), (.lenS (.tmp 3)), none⟩, ⟨(some 5), (.bin .leq (.tmp 4) (.const (.int .i64 100))), none⟩, ⟨(some 6), (.move (.tmp 5)), none⟩, ⟨(some 7), (.move (.tmp 0)), (some (6, true))⟩, ⟨(some 8), (.call 34 [(.tmp 7)]), (some (6, true))⟩, ⟨(some 9), (.pick (.tmp 6) (.tmp 8) (.const (.bool false))), none⟩, ⟨(some 2), (.assign (.tmp 9)), none⟩]) .ret)), [(.move (.tmp 2))]⟩
theorem k32 : cfun Try.prog 32 = some c32 := by kernel_rfl
def c29 : XFun := ⟨15, (.seq (.ops [⟨(some 6), (.assign (.const (.bool false))), none⟩]) (.seq (.ops [⟨(some 7), (.move (.tmp 1)), none⟩, ⟨(some 8), (.move (.tmp 0)), none⟩, ⟨(some 9), (.bin .leq (.tmp 7) (.tmp 8)), none⟩, ⟨(some 10), (.move (.tmp 9)), none⟩, ⟨(some 11), (.move (.tmp 0)), (some (10, true))⟩, ⟨(some 12), (.move (.tmp 2)), (some (10, true))⟩, ⟨(some 13), (.bin .leq (.tmp 11) (.tmp 12)), (some (10, true))⟩, ⟨(some 14), (.pick (.tmp 10) (.tmp 13) (.const (.bool false))), none⟩, ⟨(some 6), (.assign (.tmp 14)), none⟩]) .ret)), [(.move (.tmp 6))]⟩
theorem k29 : cfun Try.prog 29 = some c29 := by kernel_rfl
def c25 : XFun := ⟨15, (.seq (.ops [⟨(some 6), (.assign (.const (.bool false))), none⟩]) (.seq (.ops [⟨(some 7), (.move (.tmp 0)), none⟩, ⟨(some 8), (.move (.tmp 1)), none⟩, ⟨(some 9), (.bin .geq (.tmp 7) (.tmp 8)), none⟩, ⟨(some 10), (.move (.tmp 9)), none⟩, ⟨(some 11), (.move (.tmp 0)), (some (10, true))⟩, ⟨(some 12), (.move (.tmp 2)), (some (10, true))⟩, ⟨(some 13), (.bin .leq (.tmp 11) (.tmp 12)), (some (10, true))⟩, ⟨(some 14), (.pick (.tmp 10) (.tmp 13) (.const (.bool false))), none⟩, ⟨(some 6), (.assign (.tmp 14)), none⟩]) .ret)), [(.move (.tmp 6))]⟩
theorem k25 : cfun Try.prog 25 = some c25 := by kernel_rfl
def c10 : XFun := ⟨85, (.seq (.ops [⟨(some 1), (.box (.tmp 0)), none⟩, ⟨(some 2), (.assign (.const (.int .i64 0))), none⟩]) (.seq (.seq (.ops [⟨(some 5), (.faddr 0 (.tmp 1)), none⟩, ⟨(some 6), (.load1 (.tmp 5)), none⟩, ⟨(some 7), (.call 25 [(.tmp 6), (.const (.int .i64 1)), (.const (.int .i64 8))]), none⟩, ⟨(some 8), (.un .not (.tmp 7)), none⟩, ⟨(some 9), (.move (.tmp 8)), none⟩, ⟨(some 10), (.faddr 1 (.tmp 1)), (some (9, false))⟩, ⟨(some 11), (.load1 (.tmp 10)), (some (9, false))⟩, ⟨(some 12), (.call 25 [(.tmp 11), (.const (.int .i64 1)), (.const (.int .i64 64))]), (some (9, false))⟩, ⟨(some 13), (.un .not (.tmp 12)), (some (9, false))⟩, ⟨(some 14), (.pick (.tmp 9) (.const (.bool true)) (.tmp 13)), none⟩, ⟨(some 15), (.move (.tmp 14)), none⟩, ⟨(some 16), (.faddr 2 (.tmp 1)), (some (15, false))⟩, ⟨(some 17), (.load1 (.tmp 16)), (some (15, false))⟩, ⟨(some 18), (.call 25 [(.tmp 17), (.const (.int .i64 1)), (.const (.int .i64 64))]), (some (15, false))⟩, ⟨(some 19), (.un .not (.tmp 18)), (some (15, false))⟩, ⟨(some 20), (.pick (.tmp 15) (.const (.bool true)) (.tmp 19)), none⟩, ⟨(some 21), (.move (.tmp 20)), none⟩, ⟨(some 22), (.faddr 3 (.tmp 1)), (some (21, false))⟩, ⟨(some 23), (.load1 (.tmp 22)), (some (21, false))⟩, ⟨(some 24), (.call 25 [(.tmp 23), (.const (.int .i64 64)), (.const (.int .i64 65536))]), (some (21, false))⟩, ⟨(some 25), (.un .not (.tmp 24)), (some (21, false))⟩, ⟨(some 26), (.pick (.tmp 21) (.const (.bool true)) (.tmp 25)), none⟩]) (.cond (.tmp 26) (.seq (.ops [⟨(some 2), (.assign (.const (.int .i64 1))), none⟩]) .ret) .skip)) (.seq (.seq (.ops [⟨(some 27), (.faddr 4 (.tmp 1)), none⟩, ⟨(some 28), (.load1 (.tmp 27)), none⟩, ⟨(some 29), (.faddr 3 (.tmp 1)), none⟩, ⟨(some 30), (.load1 (.tmp 29)), none⟩, ⟨(some 31), (.bin .add (.tmp 30) (.const (.int .i64 1))), none⟩, ⟨(some 32), (.call 25 [(.tmp 28), (.tmp 31), (.const (.int .i64 131072))]), none⟩, ⟨(some 33), (.un .not (.tmp 32)), none⟩, ⟨(some 34), (.move (.tmp 33)), none⟩, ⟨(some 35), (.faddr 5 (.tmp 1)), (some (34, false))⟩, ⟨(some 36), (.load1 (.tmp 35)), (some (34, false))⟩, ⟨(some 37), (.call 25 [(.tmp 36), (.const (.int .i64 6)), (.const (.int .i64 256))]), (some (34, false))⟩, ⟨(some 38), (.un .not (.tmp 37)), (some (34, false))⟩, ⟨(some 39), (.pick (.tmp 34) (.const (.bool true)) (.tmp 38)), none⟩, ⟨(some 40), (.move (.tmp 39)), none⟩, ⟨(some 41), (.faddr 6 (.tmp 1)), (some (40, false))⟩, ⟨(some 42), (.load1 (.tmp 41)), (some (40, false))⟩, ⟨(some 43), (.lenL (.tmp 42)), (some (40, false))⟩, ⟨(some 44), (.bin .gtr (.tmp 43) (.const (.int .i64 16))), (some (40, false))⟩, ⟨(some 45), (.pick (.tmp 40) (.const (.bool true)) (.tmp 44)), none⟩]) (.cond (.tmp 45) (.seq (.ops [⟨(some 2), (.assign (.const (.int .i64 1))), none⟩]) .ret) .skip)) (.seq (.seq (.ops [⟨(some 3), (.assign (.const (.int .i64 0))), none⟩]) (.block 0 (.loop (.seq (.seq (.ops [⟨(some 46), (.move (.tmp 3)), none⟩, ⟨(some 47), (.faddr 6 (.tmp 1)), none⟩, ⟨(some 48), (.load1 (.tmp 47)), none⟩, ⟨(some 49), (.lenL (.tmp 48)), none⟩, ⟨(some 50), (.bin .lss (.tmp 46) (.tmp 49)), none⟩]) (.cond (.tmp 50) .skip (.exit 0))) (.seq (.block 1 (.seq (.ops [⟨(some 53), (.faddr 6 (.tmp 1)), none⟩, ⟨(some 54), (.load1 (.tmp 53)), none⟩, ⟨(some 55), (.move (.tmp 3)), none⟩, ⟨(some 56), (.iaddr 2 (.tmp 54) (.tmp 55)), none⟩, ⟨(some 57), (.loadN 2 (.tmp 56)), none⟩, ⟨(some 4), (.alloc [(.v (.string (strB []))), (.v (.string (strB [])))]), none⟩, ⟨none, (.store 2 (.tmp 4) (.tmp 57)), none⟩]) (.seq (.ops [⟨(some 58), (.faddr 0 (.tmp 4)), none⟩, ⟨(some 59), (.load1 (.tmp 58)), none⟩, ⟨(some 60), (.bin .eql (.tmp 59) (.const (.string (strB [])))), none⟩, ⟨(some 61), (.move (.tmp 60)), none⟩, ⟨(some 62), (.faddr 0 (.tmp 4)), (some (61, false))⟩, ⟨(some 63), (.load1 (.tmp 62)), (some (61, false))⟩, ⟨(some 64), (.lenS (.tmp 63)), (some (61, false))⟩, ⟨(some 65), (.bin .gtr (.tmp 64) (.const (.int .i64 100))), (some (61, false))⟩, ⟨(some 66), (.pick (.tmp 61) (.const (.bool true)) (.tmp 65)), none⟩, ⟨(some 67), (.move (.tmp 66)), none⟩, ⟨(some 68), (.faddr 1 (.tmp 4)), (some (67, false))⟩, ⟨(some 69), (.load1 (.tmp 68)), (some (67, false))⟩, ⟨(some 70), (.lenS (.tmp 69)), (some (67, false))⟩, ⟨(some 71), (.bin .gtr (.tmp 70) (.const (.int .i64 100))), (some (67, false))⟩, ⟨(some 72), (.pick (.tmp 67) (.const (.bool true)) (.tmp 71)), none⟩, ⟨(some 73), (.move (.tmp 72)), none⟩, ⟨(some 74), (.faddr 0 (.tmp 4)), (some (73, false))⟩, ⟨(some 75), (.load1 (.tmp 74)), (some (73, false))⟩, ⟨(some 76), (.call 26 [(.tmp 75)]), (some (73, false))⟩, ⟨(some 77), (.un .not (.tmp 76)), (some (73, false))⟩, ⟨(some 78), (.pick (.tmp 73) (.const (.bool true)) (.tmp 77)), none⟩, ⟨(some 79), (.move (.tmp 78)), none⟩, ⟨(some 80), (.faddr 1 (.tmp 4)), (some (79, false))⟩, ⟨(some 81), (.load1 (.tmp 80)), (some (79, false))⟩, ⟨(some 82), (.call 26 [(.tmp 81)]), (some (79, false))⟩, ⟨(some 83), (.un .not (.tmp 82)), (some (79, false))⟩, ⟨(some 84), (.pick (.tmp 79) (.const (.bool true)) (.tmp 83)), none⟩]) (.cond (.tmp 84) (.seq (.ops [⟨(some 2), (.assign (.const (.int .i64 1))), none⟩]) .ret) .skip)))) (.ops [⟨(some 51), (.move (.tmp 3)), none⟩, ⟨(some 52), (.bin .add (.tmp 51) (.const (.int .i64 1))), none⟩, ⟨(some 3), (.assign (.tmp 52)), none⟩])))))) (.seq (.ops [⟨(some 2), (.assign (.const (.int .i64 0))), none⟩]) .ret))))), [(.move (.tmp 2))]⟩
theorem k10 : cfun Try.prog 10 = some c10 := by kernel_rfl
def c8 : XFun := ⟨19, (.seq (.ops [⟨(some 0), (.assign (.const (.bool false))), none⟩]) (.seq (.ops [⟨(some 3), (.call 11 []), none⟩, ⟨(some 1), (.alloc [(.v (.int .i64 0)), (.v (.int .i64 0)), (.v (.int .i64 0)), (.v (.int .i64 0)), (.v (.int .i64 0)), (.v (.int .i64 0)), (.sl 0 [] (some true) .exact)]), none⟩, ⟨none, (.store 7 (.tmp 1) (.tmp 3)), none⟩]) (.seq (.ops [⟨(some 4), (.loadN 7 (.tmp 1)), none⟩, ⟨(some 5), (.call 9 [(.tmp 4)]), none⟩, ⟨(some 6), (.bin .eql (.tmp 5) (.const (.int .i64 0))), none⟩, ⟨(some 2), (.assign (.tmp 6)), none⟩]) (.seq (.ops [⟨(some 7), (.faddr 5 (.tmp 1)), none⟩, ⟨none, (.store 1 (.tmp 7) (.const (.int .i64 5))), none⟩]) (.seq (.ops [⟨(some 8), (.move (.tmp 2)), none⟩, ⟨(some 9), (.move (.tmp 8)), none⟩, ⟨(some 10), (.loadN 7 (.tmp 1)), (some (9, true))⟩, ⟨(some 11), (.call 9 [(.tmp 10)]), (some (9, true))⟩, ⟨(some 12), (.bin .eql (.tmp 11) (.const (.int .i64 1))), (some (9, true))⟩, ⟨(some 13), (.pick (.tmp 9) (.tmp 12) (.const (.bool false))), none⟩, ⟨(some 14), (.move (.tmp 13)), none⟩, ⟨(some 15), (.faddr 0 (.tmp 1)), (some (14, true))⟩, ⟨(some 16), (.load1 (.tmp 15)), (some (14, true))⟩, ⟨(some 17), (.bin .eql (.tmp 16) (.const (.int .i64 2))), (some (14, true))⟩, ⟨(some 18), (.pick (.tmp 14) (.tmp 17) (.const (.bool false))), none⟩, ⟨(some 0), (.assign (.tmp 18)), none⟩]) .ret))))), [(.move (.tmp 0))]⟩
theorem k8 : cfun Try.prog 8 = some c8 := by kernel_rfl
def c3 : XFun := ⟨37, (.seq (.ops [⟨(some 1), (.box (.tmp 0)), none⟩, ⟨(some 2), (.assign (.const (.bool false))), none⟩]) (.seq (.seq (.ops [⟨(some 5), (.faddr 6 (.tmp 1)), none⟩, ⟨(some 6), (.load1 (.tmp 5)), none⟩, ⟨(some 7), (.lenL (.tmp 6)), none⟩, ⟨(some 8), (.move (.const (.int .i64 0))), none⟩]) (.block 0 (.loop (.seq (.ops [⟨(some 9), (.bin .lss (.tmp 8) (.tmp 7)), none⟩]) (.seq (.cond (.tmp 9) .skip (.exit 0)) (.seq (.block 1 (.seq (.ops [⟨(some 10), (.move (.tmp 8)), none⟩, ⟨(some 11), (.iaddr 2 (.tmp 6) (.tmp 8)), none⟩, ⟨(some 12), (.loadN 2 (.tmp 11)), none⟩, ⟨(some 4), (.alloc [(.v (.string (strB []))), (.v (.string (strB [])))]), none⟩, ⟨(some 3), (.assign (.tmp 10)), none⟩, ⟨none, (.store 2 (.tmp 4) (.tmp 12)), none⟩]) (.seq (.ops [⟨(some 13), (.move (.tmp 3)), none⟩, ⟨(some 14), (.bin .geq (.tmp 13) (.const (.int .i64 40))), none⟩, ⟨(some 15), (.move (.tmp 14)), none⟩, ⟨(some 16), (.faddr 0 (.tmp 4)), (some (15, false))⟩, ⟨(some 17), (.load1 (.tmp 16)), (some (15, false))⟩, ⟨(some 18), (.lenS (.tmp 17)), (some (15, false))⟩, ⟨(some 19), (.bin .gtr (.tmp 18) (.const (.int .i64 500))), (some (15, false))⟩, ⟨(some 20), (.pick (.tmp 15) (.const (.bool true)) (.tmp 19)), none⟩, ⟨(some 21), (.move (.tmp 20)), none⟩, ⟨(some 22), (.faddr 1 (.tmp 4)), (some (21, false))⟩, ⟨(some 23), (.load1 (.tmp 22)), (some (21, false))⟩, ⟨(some 24), (.lenS (.tmp 23)), (some (21, false))⟩, ⟨(some 25), (.bin .gtr (.tmp 24) (.const (.int .i64 500))), (some (21, false))⟩, ⟨(some 26), (.pick (.tmp 21) (.const (.bool true)) (.tmp 25)), none⟩]) (.cond (.tmp 26) (.seq (.ops [⟨(some 27), (.call 8 []), none⟩, ⟨(some 2), (.assign (.tmp 27)), none⟩]) .ret) .skip)))) (.ops [⟨(some 28), (.bin .add (.tmp 8) (.const (.int .i64 1))), none⟩, ⟨(some 8), (.move (.tmp 28)), none⟩]))))))) (.seq (.draws (.take ⟨(some 29), (.loadN 7 (.tmp 1)), none⟩ (.take ⟨(some 31), (.loadN 7 (.tmp 1)), none⟩ (.only ⟨(some 30), (.call 9 [(.tmp 29)]), none⟩ (.only ⟨(some 32), (.call 10 [(.tmp 31)]), none⟩ (.take ⟨(some 33), (.bin .eql (.tmp 30) (.tmp 32)), none⟩ (.take ⟨(some 34), (.move (.tmp 33)), none⟩ (.only ⟨(some 35), (.call 8 []), (some (34, true))⟩ (.take ⟨(some 36), (.pick (.tmp 34) (.tmp 35) (.const (.bool false))), none⟩ (.take ⟨(some 2), (.assign (.tmp 36)), none⟩ .done)))))))))) .ret))), [(.move (.tmp 2))]⟩
theorem k3 : cfun Try.prog 3 = some c3 := by kernel_rfl
end Go.Proofs.Ytplbobfbdlapcaa.Ax
/- How a pooler is set up, over values without memory. -/
namespace Go.Proofs.Ytplbobfbdlapcaa.Ax
open Go.RowKit Go By Ytplbobfbdlapcaa.Nm Dg
set_option linter.unusedSimpArgs false
set_option linter.unusedVariables false
set_option maxRecDepth 10000

def inB (n lo hi : Int) : Bool := decide (lo ≤ n) && decide (n ≤ hi)
def numB (x : Cf) : Bool := inB x.servers 1 8 && inB x.cache 1 64 && inB x.table 1 64 && inB x.message 64 65536 && inB x.buffer (IntKind.i64.wrap (x.message + 1)) 131072 && inB x.queue 6 256
def okTx (s : List UInt8) : Bool := decide (s.length ≤ 100) && cleanB s
def badLi (p : Pa) : Bool := p.name == [] || !okTx p.name || !okTx p.value
def anyB (l : List Pa) : Bool := l.any badLi
def parB (l : List Pa) : Bool := decide (l.length ≤ 16) && !anyB l
def chkI (x : Cf) : Int := if (numB x && parB x.params) = true then 0 else 1
def baseCf : Cf := ⟨2, 4, 8, 4096, 8192, 32, [⟨[115, 101, 114, 118, 101, 114, 95, 118, 101, 114, 115, 105, 111, 110], [49, 54]⟩]⟩
section
variable {h : List (List AV)}
theorem within_c (n lo hi : Int) : Contract Try.prog 29 [.v (.int .i64 n), .v (.int .i64 lo), .v (.int .i64 hi)] h (.v (.bool (inB n lo hi))) h [] := by
  refine contract_of k29 mixed (by simp [c29]) fun hh hargs => ?_
  unfold inB
  by_cases h1 : lo ≤ n <;> simp [c29, h1, hh]
theorem rin_c (n lo hi : Int) : Contract Try.prog 25 [.v (.int .i64 n), .v (.int .i64 lo), .v (.int .i64 hi)] h (.v (.bool (inB n lo hi))) h [] := by
  refine contract_of k25 mixed (by simp [c25]) fun hh hargs => ?_
  unfold inB
  by_cases h1 : lo ≤ n <;> simp [c25, h1, hh]
theorem textMay_c (s : List UInt8) : Contract Try.prog 32 [.v (.string (strB s))] h (.v (.bool (okTx s))) h [] := by
  refine contract_of k32 mixed (by simp [c32]) fun hh hargs => ?_
  unfold okTx
  by_cases h1 : s.length ≤ 100
  · have h2 : (s.length : Int) ≤ 100 := by omega
    simp [c32, h1, h2, hh]
    refine xcall_self (by simp) (clean_c s _) ?_
    simp [hh]
  · have h2 : ¬ (s.length : Int) ≤ 100 := by omega
    simp [c32, h1, h2, hh]
theorem limay1_c (p : Pa) : Contract Try.prog 31 [.agg (paC p)] h (.v (.bool (badLi p))) h [] := by
  refine contract_of k31 mixed (by simp [c31]) fun hh hargs => ?_
  unfold badLi
  by_cases h1 : p.name = []
  · simp [c31, h1, hh]
  · have hE : p.name.isEmpty = false := by simpa using h1
    simp [c31, h1]
    refine xcall_self (by simp) (textMay_c p.name) ?_
    cases h2 : okTx p.name with
    | false => simp [hh, h1, hE]
    | true =>
      simp [h1, hE]
      refine xcall_self (by simp) (textMay_c p.value) ?_
      simp [hh, hE]
theorem parMay_c (l : List Pa) : Contract Try.prog 24 [.sl 2 (enc paC l) none .no] h (.v (.bool (parB l))) h [] := by
  refine contract_of k24 mixed (by simp [c24]) fun hh hargs => ?_
  unfold parB anyB
  by_cases h1 : l.length ≤ 16
  · have h2 : (l.length : Int) ≤ 16 := by omega
    simp [c24, h1, h2]
    refine xcall_self (by simp) (containsN_any mixed k30 k33 paC badLi l [] _ (by simp) (by simp) (by simp) (fun c hm => limay1_c c) (by omega)) ?_
    simp [hh]
  · have h2 : ¬ (l.length : Int) ≤ 16 := by omega
    simp [c24, h1, h2, hh]
set_option maxHeartbeats 1000000 in
theorem numMay_c (x : Cf) : Contract Try.prog 23 [.agg (cfC x)] h (.v (.bool (numB x))) h [] := by
  refine contract_of k23 mixed (by simp [c23]) fun hh hargs => ?_
  unfold numB
  simp [c23]
  refine xcall_self (by simp) (within_c _ _ _) ?_
  cases b1 : inB x.servers 1 8 with
  | false => simp [hh]
  | true =>
  simp
  refine xcall_self (by simp) (within_c _ _ _) ?_
  cases b2 : inB x.cache 1 64 with
  | false => simp [hh]
  | true =>
  simp
  refine xcall_self (by simp) (within_c _ _ _) ?_
  cases b3 : inB x.table 1 64 with
  | false => simp [hh]
  | true =>
  simp
  refine xcall_self (by simp) (within_c _ _ _) ?_
  cases b4 : inB x.message 64 65536 with
  | false => simp [hh]
  | true =>
  simp
  refine xcall_self (by simp) (within_c _ _ _) ?_
  cases b5 : inB x.buffer (IntKind.i64.wrap (x.message + 1)) 131072 with
  | false => simp [hh]
  | true =>
  simp
  refine xcall_self (by simp) (within_c _ _ _) ?_
  simp [hh]
theorem licheck_c (x : Cf) : Contract Try.prog 9 [.agg (cfC x)] h (.v (.int .i64 (chkI x))) h [] := by
  refine contract_of k9 mixed (by simp [c9]) fun hh hargs => ?_
  unfold chkI
  simp [c9]
  refine xcall_self (by simp) (numMay_c x) ?_
  cases b1 : numB x with
  | false => simp [hh]
  | true =>
    simp
    refine xcall_self (by simp) (parMay_c x.params) ?_
    cases b2 : parB x.params <;> simp [hh]
theorem libase_c : Contract Try.prog 11 [] h (.agg (cfC baseCf)) h [] := by
  refine contract_of k11 mixed (by simp [c11]) fun hh hargs => ?_
  simp [c11, cfC, baseCf, hh, paC]
/-- The document's check; a pair by itself. -/
theorem badLi_eq (p : Pa) : badLi p = (p.name == [] || (decide (100 < p.name.length) || (decide (100 < p.value.length) || (!cleanB p.name || !cleanB p.value)))) := by
  unfold badLi okTx
  by_cases h1 : p.name.length ≤ 100 <;> by_cases h2 : p.value.length ≤ 100 <;> cases cleanB p.name <;> cases cleanB p.value <;> simp [h1, h2, Nat.not_lt.2, Nat.lt_of_not_le] <;> omega
set_option maxHeartbeats 2000000 in
theorem rlicheck_c (x : Cf) (hl : x.params.length ≤ maxLen) (hp : ∀ p ∈ x.params, p.name.length ≤ maxLen ∧ p.value.length ≤ maxLen) : Contract Try.prog 10 [.agg (cfC x)] h (.v (.int .i64 (chkI x))) h [] := by
  refine contract_of k10 mixed (by simp [c10]) fun hh hargs => ?_
  unfold chkI numB
  simp [c10]
  refine xcall_self (by simp) (rin_c _ _ _) ?_
  cases b1 : inB x.servers 1 8 with
  | false => simp [hh]
  | true =>
  simp
  refine xcall_self (by simp) (rin_c _ _ _) ?_
  cases b2 : inB x.cache 1 64 with
  | false => simp [hh]
  | true =>
  simp
  refine xcall_self (by simp) (rin_c _ _ _) ?_
  cases b3 : inB x.table 1 64 with
  | false => simp [hh]
  | true =>
  simp
  refine xcall_self (by simp) (rin_c _ _ _) ?_
  cases b4 : inB x.message 64 65536 with
  | false => simp [hh]
  | true =>
  simp
  refine xcall_self (by simp) (rin_c _ _ _) ?_
  cases b5 : inB x.buffer (IntKind.i64.wrap (x.message + 1)) 131072 with
  | false => simp [hh]
  | true =>
  simp
  refine xcall_self (by simp) (rin_c _ _ _) ?_
  cases b6 : inB x.queue 6 256 with
  | false => simp [hh]
  | true =>
  simp
  unfold parB
  by_cases h16 : 16 < x.params.length
  · have h1 : (16 : Int) < (x.params.length : Int) := by omega
    have h2 : ¬ x.params.length ≤ 16 := by omega
    simp [h1, h2, hh]
  · have h1 : ¬ (16 : Int) < (x.params.length : Int) := by omega
    have h2 : x.params.length ≤ 16 := by omega
    simp [h1, h2]
    have any_take : ∀ j, (hj : j < x.params.length) → anyB (x.params.take (j + 1)) = (anyB (x.params.take j) || badLi x.params[j]) := fun j hj => by unfold anyB; rw [List.take_succ_eq_append_getElem hj, List.any_append]; simp
    refine xloop_ok (D := Nat) (fun j => ⟨[(1, .box h.length 0), (3, .v (.int .i64 (j : Int)))], [], h ++ [cfC x], []⟩) (fun j => j ≤ x.params.length ∧ anyB (x.params.take j) = false) (fun j => x.params.length - j) 0 ⟨Nat.zero_le _, rfl⟩ ?_ ?_
    · simp [Leq, hh]
    · rintro j ⟨hj, hno⟩
      by_cases hlt : j < x.params.length
      · have hw : IntKind.i64.wrap ((j : Int) + 1) = (j : Int) + 1 := wrap64 (by omega) (by omega)
        have hat := any_take j hlt
        have hmem := List.getElem_mem hlt
        obtain ⟨p, hpp⟩ : ∃ p, p = x.params[j] := ⟨_, rfl⟩
        rw [← hpp] at hat hmem
        obtain ⟨hp1, hp2⟩ := hp p hmem
        have hbad : badLi p = true → anyB x.params = true := fun hb => List.any_eq_true.2 ⟨p, hmem, hb⟩
        rw [badLi_eq] at hbad
        rw [badLi_eq, hno, Bool.false_or] at hat
        simp [hlt, ← hpp]
        by_cases h3 : p.name = []
        · have hb := hbad (by simp [h3])
          simp [h3, hb, hh]
        have hE : p.name.isEmpty = false := by simpa using h3
        have h3b : (p.name == []) = false := by simpa using h3
        by_cases h4 : 100 < p.name.length
        · have hb := hbad (by simp [h4])
          have h5 : (100 : Int) < (p.name.length : Int) := by omega
          simp [h3, hE, h5, hb, hh]
        have h5 : ¬ (100 : Int) < (p.name.length : Int) := by omega
        by_cases h6 : 100 < p.value.length
        · have hb := hbad (by simp [h6])
          have h7 : (100 : Int) < (p.value.length : Int) := by omega
          simp [h3, hE, h5, h7, hb, hh]
        have h7 : ¬ (100 : Int) < (p.value.length : Int) := by omega
        simp [h3, hE, h5, h7]
        refine xcall_self (by simp) (rclean_c p.name hp1 _) ?_
        cases h8 : cleanB p.name with
        | false =>
          have hb := hbad (by simp [h8])
          simp [hb, hh]
        | true =>
        simp
        refine xcall_self (by simp) (rclean_c p.value hp2 _) ?_
        cases h9 : cleanB p.value with
        | false =>
          have hb := hbad (by simp [h9])
          simp [hb, hh]
        | true =>
        simp [hw]
        refine ⟨j + 1, ⟨by omega, ?_⟩, by omega, ?_⟩
        · rw [hat]; simp [h3, h4, h6, h8, h9]
        · simp [Leq, hh]
      · have hj2 : j = x.params.length := by omega
        subst hj2
        rw [List.take_length] at hno
        simp [hno, hh]
end
end Go.Proofs.Ytplbobfbdlapcaa.Ax
/- Layer 35 over values without memory: whether settings may be. -/
namespace Go.Proofs.Ytplbobfbdlapcaa.Ax
set_option maxRecDepth 100000
open Go.RowKit Go By Ytplbobfbdlapcaa.Nm Dg
set_option linter.unusedSimpArgs false
set_option linter.unusedVariables false
set_option maxRecDepth 10000

theorem liawake_c (h : List (List AV)) : Contract Try.prog 8 [] h (.v (.bool true)) h [] := by
  refine contract_of k8 mixed (by simp [c8]) fun hh hargs => ?_
  have e1 : chkI baseCf = 0 := by decide +kernel
  have e2 : chkI { baseCf with queue := 5 } = 1 := by decide +kernel
  have e3 : (cfC baseCf).set 5 (.v (.int .i64 5)) = cfC { baseCf with queue := 5 } := rfl
  have e4 : baseCf.servers = 2 := rfl
  have k1 := licheck_c (h := h ++ [cfC baseCf]) baseCf
  have ct2 := licheck_c (h := h ++ [cfC { baseCf with queue := 5 }]) { baseCf with queue := 5 }
  rw [e1] at k1
  rw [e2] at ct2
  simp [c8]
  refine xcall_self (by simp) libase_c ?_
  simp
  refine xcall_self (by simp) k1 ?_
  simp [e3]
  refine xcall_self (by simp) ct2 ?_
  simp [e4, hh]
structure LiOk (m : Nat) (l : List Pa) (j : Nat) : Prop where
  le : j ≤ m ∧ j ≤ 40
  len : ∀ p ∈ l.take j, p.name.length ≤ 500 ∧ p.value.length ≤ 500
set_option maxHeartbeats 2000000 in
theorem lichecks_c (x : Cf) (hx : OkCf x) : Contract Try.prog 3 [.agg (cfC x)] [] (.v (.bool true)) [] [] := by
  refine contract_of k3 mixed (by simp [c3]) fun hh hargs => ?_
  simp [c3]
  refine xloop_ok (D := Nat) (fun j => ⟨[(1, .box 0 0), (6, .sl 2 (enc paC x.params) none .no), (7, .v (.int .i64 (x.params.length : Int))), (8, .v (.int .i64 (j : Int)))], [], [cfC x], []⟩) (LiOk x.params.length x.params) (fun j => x.params.length - j) 0 ⟨⟨Nat.zero_le _, Nat.zero_le _⟩, by simp⟩ ?_ ?_
  · simp [Leq]
  · rintro j ⟨⟨hjl, hj40⟩, hlen⟩
    by_cases hlt : j < x.params.length
    · have hw : IntKind.i64.wrap ((j : Int) + 1) = (j : Int) + 1 := wrap64 (by omega) (by omega)
      obtain ⟨p, hpp⟩ : ∃ p, p = x.params[j] := ⟨_, rfl⟩
      by_cases h40 : 40 ≤ j
      · have : (40 : Int) ≤ (j : Int) := by omega
        simp [hlt, ← hpp, this]
        refine xcall_self (by simp) (liawake_c _) ?_
        simp
      have h40' : ¬ (40 : Int) ≤ (j : Int) := by omega
      by_cases h1 : 500 < p.name.length
      · have : (500 : Int) < (p.name.length : Int) := by omega
        simp [hlt, ← hpp, h40', this]
        refine xcall_self (by simp) (liawake_c _) ?_
        simp
      have h1' : ¬ (500 : Int) < (p.name.length : Int) := by omega
      by_cases h2 : 500 < p.value.length
      · have : (500 : Int) < (p.value.length : Int) := by omega
        simp [hlt, ← hpp, h40', h1', this]
        refine xcall_self (by simp) (liawake_c _) ?_
        simp
      have h2' : ¬ (500 : Int) < (p.value.length : Int) := by omega
      simp [hlt, ← hpp, h40', h1', h2', hw]
      refine ⟨j + 1, ⟨⟨by omega, by omega⟩, fun q hq => ?_⟩, by omega, ?_⟩
      · rw [List.take_succ_eq_append_getElem hlt, ← hpp] at hq
        rcases List.mem_append.1 hq with hq | hq
        · exact hlen q hq
        · rw [List.mem_singleton.1 hq]; omega
      · simp [Leq]
    · have hj2 : j = x.params.length := by omega
      subst hj2
      rw [List.take_length] at hlen
      have ct1 := licheck_c (h := [cfC x]) x
      have ct2 := rlicheck_c (h := [cfC x]) x (by unfold maxLen; omega) fun p hp => by have := hlen p hp; unfold maxLen; omega
      simp
      refine xcall_self (by simp) ct1 ?_
      simp
      refine xcall_self (by simp) ct2 ?_
      simp
      refine xcall_self (by simp) (liawake_c _) ?_
      simp
end Go.Proofs.Ytplbobfbdlapcaa.Ax
namespace Go.Proofs.Ytplbobfbdlapcaa.limitChecks
open Go.ChangeShapes Go.WideShapes Go.ChangeAt Go.RowKit
open Go.ChangeMaps (open_string shut_string)
set_option linter.unusedVariables false

theorem own : ownKnob Try.prog.godebug = none := by kernel_rfl
theorem laidOut : laidOutB Try.prog = true := by kernel_rfl

set_option maxRecDepth 100000 in
theorem lifted (os : Os) (started : os.Started) (H : Type) (enc : TypeId × Value → H) :
    ReturnsInHanded {} Try.checked os 3 .any (Rows.limitChecksSpec.pre6 enc Try.prog Try.f3 Rows.limitChecksRow.domain false) (Rows.limitChecksSpec.post enc Try.prog Try.f3 false true false false) := by
  refine returnsInHanded_of_change (C := Try.checked) own started (by kernel_rfl) Try.func3
    (ChangeSpec.witness6 (enc := enc) (C := Try.checked) false ⟨#[], #[.agg #[.int .i64 0, .int .i64 0, .int .i64 0, .int .i64 0, .int .i64 0, .int .i64 0, .slice none 0 0]], []⟩ 8 (by kernel_rfl) (by kernel_rfl) (by kernel_rfl) (by kernel_rfl)) ?_
  intro W base args ds gs before hval0 hW hcnd _
  have hval : ∀ (j : Nat) t v, Try.f3.params[j]? = some t → args[j]? = some v → Value.okWide Try.prog W .any base t v := hval0
  have hW' := hW
  obtain ⟨p, q, hA0, hV, rfl, hfz, hnd⟩ := hW
  have hA : DataW.TrodAll enc Try.prog W 0 (fun _ => true) true Try.f3.params.toList args.toList ds p := hA0
  rw [Try.params3] at hA hval
  obtain ⟨v0, vs0, d0, ds0, p0, q0, hargs, rfl, rfl, h0, r0⟩ := trodAll_cons hA
  obtain ⟨rfl, rfl, rfl⟩ := trodAll_nil r0
  obtain rfl : args = #[v0] := by cases args; simp_all
  obtain ⟨rfl, rfl⟩ := trodVars_none hV
  have k0 := h0
  have lt0 : ∀ x ∈ p0, x.block < W.heap.size := by obtain ⟨m, hm⟩ := k0; exact DataW.trod_lt m _ _ _ hm
  obtain ⟨a0, ok0, s0⟩ := Ax.arg_struct Try.underlying24 Ax.sh_cfC (hval 0 24 v0 rfl rfl) h0
  clear hA0 hval0
  refine (Ax.law_walk (w := W) (Ax.dom_any W) (Ax.lichecks_c a0 ok0) (by simp) (.cons s0 .nil)).mono fun e W' ⟨he, bel⟩ => ?_
  subst he
  exact ⟨_, rfl, _, _, _, [], _, [], hW', trodAll_mk1 (shut_bool Try.underlying4 _), (trodAll_cons_mk (Below.trod laidOut (by kernel_rfl) (of_decide_eq_true (by kernel_rfl)) k0 bel lt0) trodAll_mk0), rfl, bel.frame _, fun h => by cases h⟩

theorem over : Rows.limitChecksRow.holds Try.pinned (OpenSpec.ofChange Rows.limitChecksSpec) :=
  OpenClaim.holds_of_wide 3 Try.f3 rfl rfl rfl rfl rfl rfl rfl ⟨rfl, rfl, rfl, rfl, rfl⟩ rfl rfl rfl rfl rfl (by kernel_rfl) Try.func3 (by kernel_rfl)
    (of_decide_eq_true (by kernel_rfl)) (by unfold Func.isWrapper; first | (rw [if_pos (by decide +kernel)]; kernel_rfl) | (rw [if_neg (by decide +kernel)]; exact ⟨rfl, rfl⟩))
    (fun os started H enc _ => lifted os started H enc)

theorem proved : Rows.LimitChecksSaid := over
#print axioms proved
end Go.Proofs.Ytplbobfbdlapcaa.limitChecks
