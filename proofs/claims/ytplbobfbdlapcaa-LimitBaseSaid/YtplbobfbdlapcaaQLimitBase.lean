/- the ordinary settings are the document's, new at each call, and may be -/
import Derived.Test.YtplbobfbdlapcaaQAxX
import Derived.Test.YtplbobfbdlapcaaRows
import Derived.Test.YtplbobfbdlapcaaQAxTz
import Derived.Test.YtplbobfbdlapcaaQAxBa
import Derived.Test.YtplbobfbdlapcaaQAxNb
import Derived.Test.YtplbobfbdlapcaaQElems
import Derived.WalkKit
import Derived.ProofKit
import Derived.OpenShut
import Derived.ShutString
import Derived.ChangeOld
import Derived.Below
/- The texts of functions over values without memory, as the kernel reckons them out of the program. -/
namespace Go.Proofs.Ytplbobfbdlapcaa.Ax
open Go.RowKit Go By

def c30 : XFun := ⟨9, (.seq (.ops [⟨(some 4), (.assign (.const (.bool false))), none⟩]) (.seq (.ops [⟨(some 5), (.move (.tmp 0)), none⟩, ⟨(some 6), (.move (.tmp 1)), none⟩, ⟨(some 7), (.call 33 [(.tmp 5), (.tmp 6)]), none⟩, ⟨(some 8), (.bin .geq (.tmp 7) (.const (.int .i64 0))), none⟩, ⟨(some 4), (.assign (.tmp 8)), none⟩]) .ret)), [(.move (.tmp 4))]⟩
theorem k30 : cfun Try.prog 30 = some c30 := by kernel_rfl
def c33 : XFun := ⟨19, (.seq (.ops [⟨(some 4), (.assign (.const (.int .i64 0))), none⟩]) (.seq (.seq (.ops [⟨(some 6), (.move (.tmp 0)), none⟩, ⟨(some 7), (.lenL (.tmp 6)), none⟩, ⟨(some 8), (.move (.const (.int .i64 0))), none⟩]) (.block 0 (.loop (.seq (.ops [⟨(some 9), (.bin .lss (.tmp 8) (.tmp 7)), none⟩]) (.seq (.cond (.tmp 9) .skip (.exit 0)) (.seq (.block 1 (.seq (.ops [⟨(some 10), (.move (.tmp 8)), none⟩, ⟨(some 5), (.assign (.tmp 10)), none⟩]) (.seq (.ops [⟨(some 11), (.move (.tmp 1)), none⟩, ⟨(some 12), (.move (.tmp 0)), none⟩, ⟨(some 13), (.move (.tmp 5)), none⟩, ⟨(some 14), (.iaddr 2 (.tmp 12) (.tmp 13)), none⟩, ⟨(some 15), (.loadN 2 (.tmp 14)), none⟩, ⟨(some 16), (.callv (.tmp 11) [(.tmp 15)]), none⟩]) (.cond (.tmp 16) (.seq (.ops [⟨(some 17), (.move (.tmp 5)), none⟩, ⟨(some 4), (.assign (.tmp 17)), none⟩]) .ret) .skip)))) (.ops [⟨(some 18), (.bin .add (.tmp 8) (.const (.int .i64 1))), none⟩, ⟨(some 8), (.move (.tmp 18)), none⟩]))))))) (.seq (.ops [⟨(some 4), (.assign (.const (.int .i64 (-1)))), none⟩]) .ret))), [(.move (.tmp 4))]⟩
theorem k33 : cfun Try.prog 33 = some c33 := by kernel_rfl
def c9 : XFun := ⟨12, (.seq (.ops [⟨(some 1), (.box (.tmp 0)), none⟩, ⟨(some 2), (.assign (.const (.int .i64 0))), none⟩]) (.seq (.seq (.ops [⟨(some 3), (.loadN 7 (.tmp 1)), none⟩, ⟨(some 4), (.call 23 [(.tmp 3)]), none⟩, ⟨(some 5), (.un .not (.tmp 4)), none⟩, ⟨(some 6), (.move (.tmp 5)), none⟩, ⟨(some 7), (.faddr 6 (.tmp 1)), (some (6, false))⟩, ⟨(some 8), (.load1 (.tmp 7)), (some (6, false))⟩, ⟨(some 9), (.call 24 [(.tmp 8)]), (some (6, false))⟩, ⟨(some 10), (.un .not (.tmp 9)), (some (6, false))⟩, ⟨(some 11), (.pick (.tmp 6) (.const (.bool true)) (.tmp 10)), none⟩]) (.cond (.tmp 11) (.seq (.ops [⟨(some 2), (.assign (.const (.int .i64 1))), none⟩]) .ret) .skip)) (.seq (.ops [⟨(some 2), (.assign (.const (.int .i64 0))), none⟩]) .ret))), [(.move (.tmp 2))]⟩
theorem k9 : cfun Try.prog 9 = some c9 := by kernel_rfl
def c11 : XFun := ⟨4, (.seq (.ops [⟨(some 0), (.alloc [(.v (.int .i64 0)), (.v (.int .i64 0)), (.v (.int .i64 0)), (.v (.int .i64 0)), (.v (.int .i64 0)), (.v (.int .i64 0)), (.sl 0 [] (some true) .exact)]), none⟩]) (.seq (.ops [⟨(some 1), (.build [(.v (.string (strB []))), (.v (.string (strB [])))] [(0, (1, (.const (.string (strB [115, 101, 114, 118, 101, 114, 95, 118, 101, 114, 115, 105, 111, 110]))))), (1, (1, (.const (.string (strB [49, 54])))))]), none⟩, ⟨(some 2), (.buildSlice 2 1 [(.v (.string (strB []))), (.v (.string (strB [])))] [(0, (.tmp 1))]), none⟩, ⟨(some 3), (.build [(.v (.int .i64 0)), (.v (.int .i64 0)), (.v (.int .i64 0)), (.v (.int .i64 0)), (.v (.int .i64 0)), (.v (.int .i64 0)), (.sl 0 [] (some true) .exact)] [(0, (1, (.const (.int .i64 2)))), (1, (1, (.const (.int .i64 4)))), (2, (1, (.const (.int .i64 8)))), (3, (1, (.const (.int .i64 4096)))), (4, (1, (.const (.int .i64 8192)))), (5, (1, (.const (.int .i64 32)))), (6, (1, (.tmp 2)))]), none⟩, ⟨none, (.store 7 (.tmp 0) (.tmp 3)), none⟩]) .ret)), [(.loadN 7 (.tmp 0))]⟩
theorem k11 : cfun Try.prog 11 = some c11 := by kernel_rfl
def c23 : XFun := ⟨34, (.seq (.ops [⟨(some 1), (.box (.tmp 0)), none⟩, ⟨(some 2), (.assign (.const (.bool false))), none⟩]) (.seq (.ops [⟨(some 3), (.faddr 0 (.tmp 1)), none⟩, ⟨(some 4), (.load1 (.tmp 3)), none⟩, ⟨(some 5), (.call 29 [(.tmp 4), (.const (.int .i64 1)), (.const (.int .i64 8))]), none⟩, ⟨(some 6), (.move (.tmp 5)), none⟩, ⟨(some 7), (.faddr 1 (.tmp 1)), (some (6, true))⟩, ⟨(some 8), (.load1 (.tmp 7)), (some (6, true))⟩, ⟨(some 9), (.call 29 [(.tmp 8), (.const (.int .i64 1)), (.const (.int .i64 64))]), (some (6, true))⟩, ⟨(some 10), (.pick (.tmp 6) (.tmp 9) (.const (.bool false))), none⟩, ⟨(some 11), (.move (.tmp 10)), none⟩, ⟨(some 12), (.faddr 2 (.tmp 1)), (some (11, true))⟩, ⟨(some 13), (.load1 (.tmp 12)), (some (11, true))⟩, ⟨(some 14), (.call 29 [(.tmp 13), (.const (.int .i64 1)), (.const (.int .i64 64))]), (some (11, true))⟩, ⟨(some 15), (.pick (.tmp 11) (.tmp 14) (.const (.bool false))), none⟩, ⟨(some 16), (.move (.tmp 15)), none⟩, ⟨(some 17), (.faddr 3 (.tmp 1)), (some (16, true))⟩, ⟨(some 18), (.load1 (.tmp 17)), (some (16, true))⟩, ⟨(some 19), (.call 29 [(.tmp 18), (.const (.int .i64 64)), (.const (.int .i64 65536))]), (some (16, true))⟩, ⟨(some 20), (.pick (.tmp 16) (.tmp 19) (.const (.bool false))), none⟩, ⟨(some 21), (.move (.tmp 20)), none⟩, ⟨(some 22), (.faddr 4 (.tmp 1)), (some (21, true))⟩, ⟨(some 23), (.load1 (.tmp 22)), (some (21, true))⟩, ⟨(some 24), (.faddr 3 (.tmp 1)), (some (21, true))⟩, ⟨(some 25), (.load1 (.tmp 24)), (some (21, true))⟩, ⟨(some 26), (.bin .add (.tmp 25) (.const (.int .i64 1))), (some (21, true))⟩, ⟨(some 27), (.call 29 [(.tmp 23), (.tmp 26), (.const (.int .i64 131072))]), (some (21, true))⟩, ⟨(some 28), (.pick (.tmp 21) (.tmp 27) (.const (.bool false))), none⟩, ⟨(some 29), (.move (.tmp 28)), none⟩, ⟨(some 30), (.faddr 5 (.tmp 1)), (some (29, true))⟩, ⟨(some 31), (.load1 (.tmp 30)), (some (29, true))⟩, ⟨(some 32), (.call 29 [(.tmp 31), (.const (.int .i64 6)), (.const (.int .i64 256))]), (some (29, true))⟩, ⟨(some 33), (.pick (.tmp 29) (.tmp 32) (.const (.bool false))), none⟩, ⟨(some 2), (.assign (.tmp 33)), none⟩]) .ret)), [(.move (.tmp 2))]⟩
theorem k23 : cfun Try.prog 23 = some c23 := by kernel_rfl
def c24 : XFun := ⟨11, (.seq (.ops [⟨(some 2), (.assign (.const (.bool false))), none⟩]) (.seq (.ops [⟨(some 3), (.move (.tmp 0)), none⟩, ⟨(some 4), (.lenL (.tmp 3)), none⟩, ⟨(some 5), (.bin .leq (.tmp 4) (.const (.int .i64 16))), none⟩, ⟨(some 6), (.move (.tmp 5)), none⟩, ⟨(some 7), (.move (.tmp 0)), (some (6, true))⟩, ⟨(some 8), (.call 30 [(.tmp 7), (.func 31)]), (some (6, true))⟩, ⟨(some 9), (.un .not (.tmp 8)), (some (6, true))⟩, ⟨(some 10), (.pick (.tmp 6) (.tmp 9) (.const (.bool false))), none⟩, ⟨(some 2), (.assign (.tmp 10)), none⟩]) .ret)), [(.move (.tmp 2))]⟩
theorem k24 : cfun Try.prog 24 = some c24 := by kernel_rfl
def c31 : XFun := ⟨18, (.seq (.ops [⟨(some 1), (.box (.tmp 0)), none⟩, ⟨(some 2), (.assign (.const (.bool false))), none⟩]) (.seq (.ops [⟨(some 3), (.faddr 0 (.tmp 1)), none⟩, ⟨(some 4), (.load1 (.tmp 3)), none⟩, ⟨(some 5), (.bin .eql (.tmp 4) (.const (.string (strB [])))), none⟩, ⟨(some 6), (.move (.tmp 5)), none⟩, ⟨(some 7), (.faddr 0 (.tmp 1)), (some (6, false))⟩, ⟨(some 8), (.load1 (.tmp 7)), (some (6, false))⟩, ⟨(some 9), (.call 32 [(.tmp 8)]), (some (6, false))⟩, ⟨(some 10), (.un .not (.tmp 9)), (some (6, false))⟩, ⟨(some 11), (.pick (.tmp 6) (.const (.bool true)) (.tmp 10)), none⟩, ⟨(some 12), (.move (.tmp 11)), none⟩, ⟨(some 13), (.faddr 1 (.tmp 1)), (some (12, false))⟩, ⟨(some 14), (.load1 (.tmp 13)), (some (12, false))⟩, ⟨(some 15), (.call 32 [(.tmp 14)]), (some (12, false))⟩, ⟨(some 16), (.un .not (.tmp 15)), (some (12, false))⟩, ⟨(some 17), (.pick (.tmp 12) (.const (.bool true)) (.tmp 16)), none⟩, ⟨(some 2), (.assign (.tmp 17)), none⟩]) .ret)), [(.move (.tmp 2))]⟩
theorem k31 : cfun Try.prog 31 = some c31 := by kernel_rfl
def c32 : XFun := ⟨10, (.seq (.ops [⟨(some 2), (.assign (.const (.bool false))), none⟩]) (.seq (.ops [⟨(some 3), (.move (.tmp 0)), none⟩, ⟨(some 4), (.lenS (.tmp 3)), none⟩, ⟨(some 5), (.bin .leq (.tmp 4) (.const (.int .i64 100))), none⟩, ⟨(some 6), (.move (.tmp 5)), none⟩, ⟨(some 7), (.move (.tmp 0)), (some (6, true))⟩, ⟨(some 8), (.call 34 [(.tmp 7)]), (some (6, true))⟩, ⟨(some 9), (.pick (.tmp 6) (.tmp 8) (.const (.bool false))), none⟩, ⟨(some 2), (.assign (.tmp 9)), none⟩]) .ret)), [(.move (.tmp 2))]⟩
theorem k32 : cfun Try.prog 32 = some c32 := by kernel_rfl
def c29 : XFun := ⟨15, (.seq (.ops [⟨(some 6), (.assign (.const (.bool false))), none⟩]) (.seq (.ops [⟨(some 7), (.move (.tmp 1)), none⟩, ⟨(some 8), (.move (.tmp 0)), none⟩, ⟨(some 9), (.bin .leq (.tmp 7) (.tmp 8)), none⟩, ⟨(some 10), (.move (.tmp 9)), none⟩, ⟨(some 11), (.move (.tmp 0)), (some (10, true))⟩, ⟨(some 12), (.move (.tmp 2)), (some (10, true))⟩, ⟨(some 13), (.bin .leq (.tmp 11) (.tmp 12)), (some (10, true))⟩, ⟨(some 14), (.pick (.tmp 10) (.tmp 13) (.const (.bool false))), none⟩, ⟨(some 6), (.assign (.tmp 14)), none⟩]) .ret)), [(.move (.tmp 6))]⟩
theorem k29 : cfun Try.prog 29 = some c29 := by kernel_rfl
def c12 : XFun := ⟨4, (.seq (.ops [⟨(some 0), (.alloc [(.v (.int .i64 0)), (.v (.int .i64 0)), (.v (.int .i64 0)), (.v (.int .i64 0)), (.v (.int .i64 0)), (.v (.int .i64 0)), (.sl 0 [] (some true) .exact)]), none⟩]) (.seq (.ops [⟨(some 1), (.build [(.v (.string (strB []))), (.v (.string (strB [])))] [(0, (1, (.const (.string (strB [115, 101, 114, 118, 101, 114, 95, 118, 101, 114, 115, 105, 111, 110]))))), (1, (1, (.const (.string (strB [49, 54])))))]), none⟩, ⟨(some 2), (.buildSlice 2 1 [(.v (.string (strB []))), (.v (.string (strB [])))] [(0, (.tmp 1))]), none⟩, ⟨(some 3), (.build [(.v (.int .i64 0)), (.v (.int .i64 0)), (.v (.int .i64 0)), (.v (.int .i64 0)), (.v (.int .i64 0)), (.v (.int .i64 0)), (.sl 0 [] (some true) .exact)] [(0, (1, (.const (.int .i64 2)))), (1, (1, (.const (.int .i64 4)))), (2, (1, (.const (.int .i64 8)))), (3, (1, (.const (.int .i64 4096)))), (4, (1, (.const (.int .i64 8192)))), (5, (1, (.const (.int .i64 32)))), (6, (1, (.tmp 2)))]), none⟩, ⟨none, (.store 7 (.tmp 0) (.tmp 3)), none⟩]) .ret)), [(.loadN 7 (.tmp 0))]⟩
theorem k12 : cfun Try.prog 12 = some c12 := by kernel_rfl
def c8 : XFun := ⟨19, (.seq (.ops [⟨(some 0), (.assign (.const (.bool false))), none⟩]) (.seq (.ops [⟨(some 3), (.call 11 []), none⟩, ⟨(some 1), (.alloc [(.v (.int .i64 0)), (.v (.int .i64 0)), (.v (.int .i64 0)), (.v (.int .i64 0)), (.v (.int .i64 0)), (.v (.int .i64 0)), (.sl 0 [] (some true) .exact)]), none⟩, ⟨none, (.store 7 (.tmp 1) (.tmp 3)), none⟩]) (.seq (.ops [⟨(some 4), (.loadN 7 (.tmp 1)), none⟩, ⟨(some 5), (.call 9 [(.tmp 4)]), none⟩, ⟨(some 6), (.bin .eql (.tmp 5) (.const (.int .i64 0))), none⟩, ⟨(some 2), (.assign (.tmp 6)), none⟩]) (.seq (.ops [⟨(some 7), (.faddr 5 (.tmp 1)), none⟩, ⟨none, (.store 1 (.tmp 7) (.const (.int .i64 5))), none⟩]) (.seq (.ops [⟨(some 8), (.move (.tmp 2)), none⟩, ⟨(some 9), (.move (.tmp 8)), none⟩, ⟨(some 10), (.loadN 7 (.tmp 1)), (some (9, true))⟩, ⟨(some 11), (.call 9 [(.tmp 10)]), (some (9, true))⟩, ⟨(some 12), (.bin .eql (.tmp 11) (.const (.int .i64 1))), (some (9, true))⟩, ⟨(some 13), (.pick (.tmp 9) (.tmp 12) (.const (.bool false))), none⟩, ⟨(some 14), (.move (.tmp 13)), none⟩, ⟨(some 15), (.faddr 0 (.tmp 1)), (some (14, true))⟩, ⟨(some 16), (.load1 (.tmp 15)), (some (14, true))⟩, ⟨(some 17), (.bin .eql (.tmp 16) (.const (.int .i64 2))), (some (14, true))⟩, ⟨(some 18), (.pick (.tmp 14) (.tmp 17) (.const (.bool false))), none⟩, ⟨(some 0), (.assign (.tmp 18)), none⟩]) .ret))))), [(.move (.tmp 0))]⟩
theorem k8 : cfun Try.prog 8 = some c8 := by kernel_rfl
def c3 : XFun := ⟨37, (.seq (.ops [⟨(some 1), (.box (.tmp 0)), none⟩, ⟨(some 2), (.assign (.const (.bool false))), none⟩]) (.seq (.seq (.ops [⟨(some 5), (.faddr 6 (.tmp 1)), none⟩, ⟨(some 6), (.load1 (.tmp 5)), none⟩, ⟨(some 7), (.lenL (.tmp 6)), none⟩, ⟨(some 8), (.move (.const (.int .i64 0))), none⟩]) (.block 0 (.loop (.seq (.ops [⟨(some 9), (.bin .lss (.tmp 8) (.tmp 7)), none⟩]) (.seq (.cond (.tmp 9) .skip (.exit 0)) (.seq (.block 1 (.seq (.ops [⟨(some 10), (.move (.tmp 8)), none⟩, ⟨(some 11), (.iaddr 2 (.tmp 6) (.tmp 8)), none⟩, ⟨(some 12), (.loadN 2 (.tmp 11)), none⟩, ⟨(some 4), (.alloc [(.v (.string (strB []))), (.v (.string (strB [])))]), none⟩, ⟨(some 3), (.assign (.tmp 10)), none⟩, ⟨none, (.store 2 (.tmp 4) (.tmp 12)), none⟩]) (.seq (.ops [⟨(some 13), (.move (.tmp 3)), none⟩, ⟨(some 14), (.bin .geq (.tmp 13) (.const (.int .i64 40))), none⟩, ⟨(some 15), (.move (.tmp 14)), none⟩, ⟨(some 16), (.faddr 0 (.tmp 4)), (some (15, false))⟩, ⟨(some 17), (.load1 (.tmp 16)), (some (15, false))⟩, ⟨(some 18), (.lenS (.tmp 17)), (some (15, false))⟩, ⟨(some 19), (.bin .gtr (.tmp 18) (.const (.int .i64 500))), (some (15, false))⟩, ⟨(some 20), (.pick (.tmp 15) (.const (.bool true)) (.tmp 19)), none⟩, ⟨(some 21), (.move (.tmp 20)), none⟩, ⟨(some 22), (.faddr 1 (.tmp 4)), (some (21, false))⟩, ⟨(some 23), (.load1 (.tmp 22)), (some (21, false))⟩, ⟨(some 24), (.lenS (.tmp 23)), (some (21, false))⟩, ⟨(some 25), (.bin .gtr (.tmp 24) (.const (.int .i64 500))), (some (21, false))⟩, ⟨(some 26), (.pick (.tmp 21) (.const (.bool true)) (.tmp 25)), none⟩]) (.cond (.tmp 26) (.seq (.ops [⟨(some 27), (.call 8 []), none⟩, ⟨(some 2), (.assign (.tmp 27)), none⟩]) .ret) .skip)))) (.ops [⟨(some 28), (.bin .add (.tmp 8) (.const (.int .i64 1))), none⟩, ⟨(some 8), (.move (.tmp 28)), none⟩]))))))) (.seq (.draws (.take ⟨(some 29), (.loadN 7 (.tmp 1)), none⟩ (.take ⟨(some 31), (.loadN 7 (.tmp 1)), none⟩ (.only ⟨(some 30), (.call 9 [(.tmp 29)]), none⟩ (.only ⟨(some 32), (.call 10 [(.tmp 31)]), none⟩ (.take ⟨(some 33), (.bin .eql (.tmp 30) (.tmp 32)), none⟩ (.take ⟨(some 34), (.move (.tmp 33)), none⟩ (.only ⟨(some 35), (.call 8 []), (some (34, true))⟩ (.take ⟨(some 36), (.pick (.tmp 34) (.tmp 35) (.const (.bool false))), none⟩ (.take ⟨(some 2), (.assign (.tmp 36)), none⟩ .done)))))))))) .ret))), [(.move (.tmp 2))]⟩
theorem k3 : cfun Try.prog 3 = some c3 := by kernel_rfl
def c4 : XFun := ⟨81, (.seq (.ops [⟨(some 2), (.assign (.const (.bool false))), none⟩]) (.seq (.ops [⟨(some 6), (.call 11 []), none⟩, ⟨(some 3), (.alloc [(.v (.int .i64 0)), (.v (.int .i64 0)), (.v (.int .i64 0)), (.v (.int .i64 0)), (.v (.int .i64 0)), (.v (.int .i64 0)), (.sl 0 [] (some true) .exact)]), none⟩, ⟨none, (.store 7 (.tmp 3) (.tmp 6)), none⟩]) (.seq (.seq (.ops [⟨(some 7), (.faddr 6 (.tmp 3)), none⟩, ⟨(some 8), (.load1 (.tmp 7)), none⟩, ⟨(some 9), (.lenL (.tmp 8)), none⟩, ⟨(some 10), (.bin .neq (.tmp 9) (.const (.int .i64 1))), none⟩]) (.cond (.tmp 10) (.seq (.ops [⟨(some 2), (.assign (.const (.bool false))), none⟩]) .ret) .skip)) (.seq (.ops [⟨(some 11), (.faddr 6 (.tmp 3)), none⟩, ⟨(some 12), (.load1 (.tmp 11)), none⟩, ⟨(some 13), (.move (.tmp 0)), none⟩, ⟨(some 14), (.iaddr 2 (.tmp 12) (.const (.int .i64 0))), none⟩, ⟨(some 15), (.faddr 0 (.tmp 14)), none⟩, ⟨none, (.store 1 (.tmp 15) (.tmp 13)), none⟩]) (.seq (.ops [⟨(some 16), (.call 11 []), none⟩, ⟨(some 17), (.call 12 []), none⟩, ⟨(some 4), (.alloc [(.v (.int .i64 0)), (.v (.int .i64 0)), (.v (.int .i64 0)), (.v (.int .i64 0)), (.v (.int .i64 0)), (.v (.int .i64 0)), (.sl 0 [] (some true) .exact)]), none⟩, ⟨(some 5), (.alloc [(.v (.int .i64 0)), (.v (.int .i64 0)), (.v (.int .i64 0)), (.v (.int .i64 0)), (.v (.int .i64 0)), (.v (.int .i64 0)), (.sl 0 [] (some true) .exact)]), none⟩, ⟨none, (.store 7 (.tmp 4) (.tmp 16)), none⟩, ⟨none, (.store 7 (.tmp 5) (.tmp 17)), none⟩]) (.seq (.seq (.draws (.take ⟨(some 18), (.faddr 6 (.tmp 4)), none⟩ (.take ⟨(some 19), (.load1 (.tmp 18)), none⟩ (.take ⟨(some 20), (.lenL (.tmp 19)), none⟩ (.take ⟨(some 21), (.bin .neq (.tmp 20) (.const (.int .i64 1))), none⟩ (.take ⟨(some 22), (.move (.tmp 21)), none⟩ (.take ⟨(some 23), (.faddr 6 (.tmp 4)), (some (22, false))⟩ (.take ⟨(some 24), (.load1 (.tmp 23)), (some (22, false))⟩ (.take ⟨(some 25), (.iaddr 2 (.tmp 24) (.const (.int .i64 0))), (some (22, false))⟩ (.take ⟨(some 26), (.loadN 2 (.tmp 25)), (some (22, false))⟩ (.take ⟨(some 27), (.faddr 6 (.tmp 5)), (some (22, false))⟩ (.take ⟨(some 28), (.load1 (.tmp 27)), (some (22, false))⟩ (.take ⟨(some 29), (.iaddr 2 (.tmp 28) (.const (.int .i64 0))), (some (22, false))⟩ (.take ⟨(some 30), (.loadN 2 (.tmp 29)), (some (22, false))⟩ (.take ⟨(some 31), (.aeq true [2, 2] (.tmp 26) (.tmp 30)), (some (22, false))⟩ (.take ⟨(some 32), (.pick (.tmp 22) (.const (.bool true)) (.tmp 31)), none⟩ (.take ⟨(some 33), (.move (.tmp 32)), none⟩ (.take ⟨(some 34), (.loadN 7 (.tmp 4)), (some (33, false))⟩ (.only ⟨(some 35), (.call 9 [(.tmp 34)]), (some (33, false))⟩ (.take ⟨(some 36), (.bin .neq (.tmp 35) (.const (.int .i64 0))), (some (33, false))⟩ (.take ⟨(some 37), (.pick (.tmp 33) (.const (.bool true)) (.tmp 36)), none⟩ .done))))))))))))))))))))) (.cond (.tmp 37) (.seq (.ops [⟨(some 2), (.assign (.const (.bool false))), none⟩]) .ret) .skip)) (.seq (.ops [⟨(some 38), (.faddr 0 (.tmp 4)), none⟩, ⟨(some 39), (.load1 (.tmp 38)), none⟩, ⟨(some 40), (.faddr 0 (.tmp 5)), none⟩, ⟨(some 41), (.load1 (.tmp 40)), none⟩, ⟨(some 42), (.bin .eql (.tmp 39) (.tmp 41)), none⟩, ⟨(some 43), (.move (.tmp 42)), none⟩, ⟨(some 44), (.faddr 1 (.tmp 4)), (some (43, true))⟩, ⟨(some 45), (.load1 (.tmp 44)), (some (43, true))⟩, ⟨(some 46), (.faddr 1 (.tmp 5)), (some (43, true))⟩, ⟨(some 47), (.load1 (.tmp 46)), (some (43, true))⟩, ⟨(some 48), (.bin .eql (.tmp 45) (.tmp 47)), (some (43, true))⟩, ⟨(some 49), (.pick (.tmp 43) (.tmp 48) (.const (.bool false))), none⟩, ⟨(some 50), (.move (.tmp 49)), none⟩, ⟨(some 51), (.faddr 2 (.tmp 4)), (some (50, true))⟩, ⟨(some 52), (.load1 (.tmp 51)), (some (50, true))⟩, ⟨(some 53), (.faddr 2 (.tmp 5)), (some (50, true))⟩, ⟨(some 54), (.load1 (.tmp 53)), (some (50, true))⟩, ⟨(some 55), (.bin .eql (.tmp 52) (.tmp 54)), (some (50, true))⟩, ⟨(some 56), (.pick (.tmp 50) (.tmp 55) (.const (.bool false))), none⟩, ⟨(some 57), (.move (.tmp 56)), none⟩, ⟨(some 58), (.faddr 3 (.tmp 4)), (some (57, true))⟩, ⟨(some 59), (.load1 (.tmp 58)), (some (57, true))⟩, ⟨(some 60), (.faddr 3 (.tmp 5)), (some (57, true))⟩, ⟨(some 61), (.load1 (.tmp 60)), (some (57, true))⟩, ⟨(some 62), (.bin .eql (.tmp 59) (.tmp 61)), (some (57, true))⟩, ⟨(some 63), (.pick (.tmp 57) (.tmp 62) (.const (.bool false))), none⟩, ⟨(some 64), (.move (.tmp 63)), none⟩, ⟨(some 65), (.faddr 4 (.tmp 4)), (some (64, true))⟩, ⟨(some 66), (.load1 (.tmp 65)), (some (64, true))⟩, ⟨(some 67), (.faddr 4 (.tmp 5)), (some (64, true))⟩, ⟨(some 68), (.load1 (.tmp 67)), (some (64, true))⟩, ⟨(some 69), (.bin .eql (.tmp 66) (.tmp 68)), (some (64, true))⟩, ⟨(some 70), (.pick (.tmp 64) (.tmp 69) (.const (.bool false))), none⟩, ⟨(some 71), (.move (.tmp 70)), none⟩, ⟨(some 72), (.faddr 5 (.tmp 4)), (some (71, true))⟩, ⟨(some 73), (.load1 (.tmp 72)), (some (71, true))⟩, ⟨(some 74), (.faddr 5 (.tmp 5)), (some (71, true))⟩, ⟨(some 75), (.load1 (.tmp 74)), (some (71, true))⟩, ⟨(some 76), (.bin .eql (.tmp 73) (.tmp 75)), (some (71, true))⟩, ⟨(some 77), (.pick (.tmp 71) (.tmp 76) (.const (.bool false))), none⟩, ⟨(some 78), (.move (.tmp 77)), none⟩, ⟨(some 79), (.call 8 []), (some (78, true))⟩, ⟨(some 80), (.pick (.tmp 78) (.tmp 79) (.const (.bool false))), none⟩, ⟨(some 2), (.assign (.tmp 80)), none⟩]) .ret))))))), [(.move (.tmp 2))]⟩
theorem k4 : cfun Try.prog 4 = some c4 := by kernel_rfl
end Go.Proofs.Ytplbobfbdlapcaa.Ax
/- How a pooler is set up, over values without memory. -/
namespace Go.Proofs.Ytplbobfbdlapcaa.Ax
open Go.RowKit Go By Ytplbobfbdlapcaa.Nm Dg
set_option linter.unusedSimpArgs false
set_option linter.unusedVariables false
set_option maxRecDepth 10000

def inB (n lo hi : Int) : Bool := decide (lo ≤ n) && decide (n ≤ hi)
def numB (x : Cf) : Bool := inB x.servers 1 8 && inB x.cache 1 64 && inB x.table 1 64 && inB x.message 64 65536 && inB x.buffer (IntKind.i64.wrap (x.message + 1)) 131072 && inB x.queue 6 256
def okTx (s : List UInt8) : Bool := decide (s.length ≤ 100) && cleanB s
def badLi (p : Pa) : Bool := p.name == [] || !okTx p.name || !okTx p.value
def anyB (l : List Pa) : Bool := l.any badLi
def parB (l : List Pa) : Bool := decide (l.length ≤ 16) && !anyB l
def chkI (x : Cf) : Int := if (numB x && parB x.params) = true then 0 else 1
def baseCf : Cf := ⟨2, 4, 8, 4096, 8192, 32, [⟨[115, 101, 114, 118, 101, 114, 95, 118, 101, 114, 115, 105, 111, 110], [49, 54]⟩]⟩
section
variable {h : List (List AV)}
theorem within_c (n lo hi : Int) : Contract Try.prog 29 [.v (.int .i64 n), .v (.int .i64 lo), .v (.int .i64 hi)] h (.v (.bool (inB n lo hi))) h [] := by
  refine contract_of k29 mixed (by simp [c29]) fun hh hargs => ?_
  unfold inB
  by_cases h1 : lo ≤ n <;> simp [c29, h1, hh]
theorem textMay_c (s : List UInt8) : Contract Try.prog 32 [.v (.string (strB s))] h (.v (.bool (okTx s))) h [] := by
  refine contract_of k32 mixed (by simp [c32]) fun hh hargs => ?_
  unfold okTx
  by_cases h1 : s.length ≤ 100
  · have h2 : (s.length : Int) ≤ 100 := by omega
    simp [c32, h1, h2, hh]
    refine xcall_self (by simp) (clean_c s _) ?_
    simp [hh]
  · have h2 : ¬ (s.length : Int) ≤ 100 := by omega
    simp [c32, h1, h2, hh]
theorem limay1_c (p : Pa) : Contract Try.prog 31 [.agg (paC p)] h (.v (.bool (badLi p))) h [] := by
  refine contract_of k31 mixed (by simp [c31]) fun hh hargs => ?_
  unfold badLi
  by_cases h1 : p.name = []
  · simp [c31, h1, hh]
  · have hE : p.name.isEmpty = false := by simpa using h1
    simp [c31, h1]
    refine xcall_self (by simp) (textMay_c p.name) ?_
    cases h2 : okTx p.name with
    | false => simp [hh, h1, hE]
    | true =>
      simp [h1, hE]
      refine xcall_self (by simp) (textMay_c p.value) ?_
      simp [hh, hE]
theorem parMay_c (l : List Pa) : Contract Try.prog 24 [.sl 2 (enc paC l) none .no] h (.v (.bool (parB l))) h [] := by
  refine contract_of k24 mixed (by simp [c24]) fun hh hargs => ?_
  unfold parB anyB
  by_cases h1 : l.length ≤ 16
  · have h2 : (l.length : Int) ≤ 16 := by omega
    simp [c24, h1, h2]
    refine xcall_self (by simp) (containsN_any mixed k30 k33 paC badLi l [] _ (by simp) (by simp) (by simp) (fun c hm => limay1_c c) (by omega)) ?_
    simp [hh]
  · have h2 : ¬ (l.length : Int) ≤ 16 := by omega
    simp [c24, h1, h2, hh]
set_option maxHeartbeats 1000000 in
theorem numMay_c (x : Cf) : Contract Try.prog 23 [.agg (cfC x)] h (.v (.bool (numB x))) h [] := by
  refine contract_of k23 mixed (by simp [c23]) fun hh hargs => ?_
  unfold numB
  simp [c23]
  refine xcall_self (by simp) (within_c _ _ _) ?_
  cases b1 : inB x.servers 1 8 with
  | false => simp [hh]
  | true =>
  simp
  refine xcall_self (by simp) (within_c _ _ _) ?_
  cases b2 : inB x.cache 1 64 with
  | false => simp [hh]
  | true =>
  simp
  refine xcall_self (by simp) (within_c _ _ _) ?_
  cases b3 : inB x.table 1 64 with
  | false => simp [hh]
  | true =>
  simp
  refine xcall_self (by simp) (within_c _ _ _) ?_
  cases b4 : inB x.message 64 65536 with
  | false => simp [hh]
  | true =>
  simp
  refine xcall_self (by simp) (within_c _ _ _) ?_
  cases b5 : inB x.buffer (IntKind.i64.wrap (x.message + 1)) 131072 with
  | false => simp [hh]
  | true =>
  simp
  refine xcall_self (by simp) (within_c _ _ _) ?_
  simp [hh]
theorem licheck_c (x : Cf) : Contract Try.prog 9 [.agg (cfC x)] h (.v (.int .i64 (chkI x))) h [] := by
  refine contract_of k9 mixed (by simp [c9]) fun hh hargs => ?_
  unfold chkI
  simp [c9]
  refine xcall_self (by simp) (numMay_c x) ?_
  cases b1 : numB x with
  | false => simp [hh]
  | true =>
    simp
    refine xcall_self (by simp) (parMay_c x.params) ?_
    cases b2 : parB x.params <;> simp [hh]
theorem libase_c : Contract Try.prog 11 [] h (.agg (cfC baseCf)) h [] := by
  refine contract_of k11 mixed (by simp [c11]) fun hh hargs => ?_
  simp [c11, cfC, baseCf, hh, paC]
theorem rlibase_c : Contract Try.prog 12 [] h (.agg (cfC baseCf)) h [] := by
  refine contract_of k12 mixed (by simp [c12]) fun hh hargs => ?_
  simp [c12, cfC, baseCf, hh, paC]
end
end Go.Proofs.Ytplbobfbdlapcaa.Ax
/- Layer 35 over values without memory: whether settings may be. -/
namespace Go.Proofs.Ytplbobfbdlapcaa.Ax
set_option maxRecDepth 100000
open Go.RowKit Go By Ytplbobfbdlapcaa.Nm Dg
set_option linter.unusedSimpArgs false
set_option linter.unusedVariables false
set_option maxRecDepth 10000

theorem liawake_c (h : List (List AV)) : Contract Try.prog 8 [] h (.v (.bool true)) h [] := by
  refine contract_of k8 mixed (by simp [c8]) fun hh hargs => ?_
  have e1 : chkI baseCf = 0 := by decide +kernel
  have e2 : chkI { baseCf with queue := 5 } = 1 := by decide +kernel
  have e3 : (cfC baseCf).set 5 (.v (.int .i64 5)) = cfC { baseCf with queue := 5 } := rfl
  have e4 : baseCf.servers = 2 := rfl
  have k1 := licheck_c (h := h ++ [cfC baseCf]) baseCf
  have ct2 := licheck_c (h := h ++ [cfC { baseCf with queue := 5 }]) { baseCf with queue := 5 }
  rw [e1] at k1
  rw [e2] at ct2
  simp [c8]
  refine xcall_self (by simp) libase_c ?_
  simp
  refine xcall_self (by simp) k1 ?_
  simp [e3]
  refine xcall_self (by simp) ct2 ?_
  simp [e4, hh]
def nameV : Value := .string (strB [115, 101, 114, 118, 101, 114, 95, 118, 101, 114, 115, 105, 111, 110])
def sixV : Value := .string (strB [49, 54])
def baseV (g : Nat) : Value := .agg #[.int .i64 2, .int .i64 4, .int .i64 8, .int .i64 4096, .int .i64 8192, .int .i64 32, .slice (some ⟨g, 0, none⟩) 1 1]
theorem base_any (w : World) : Calls Try.prog 11 #[] w fun e w' => ∃ g, e = .returned (baseV g) ∧ w.heap.size ≤ g ∧ g < w'.heap.size ∧ (w'.cell? ⟨g, 0, none⟩ = some nameV ∧ w'.frozen? ⟨g, 0, none⟩ = false) ∧ (w'.cell? ⟨g, 1, none⟩ = some sixV ∧ w'.frozen? ⟨g, 1, none⟩ = false) ∧ Below w.heap.size w w' := by
  go_enter Try.func11, Try.ntmps11
  go_wp2
  refine bodyPost_ret (v := baseV (w.heap.size + 1)) (by simp [results, Try.results11, go_sem, baseV]) rfl ?_
  have hs : ∀ o : Obj, (w.alloc o).heap.size = w.heap.size + 1 := fun o => by simp
  have hc : ∀ (o : Obj) (j : Nat), ((w.alloc o).alloc (.cells [nameV, sixV].toArray 26)).cell? ⟨w.heap.size + 1, j, none⟩ = [nameV, sixV][j]? ∧ ((w.alloc o).alloc (.cells [nameV, sixV].toArray 26)).frozen? ⟨w.heap.size + 1, j, none⟩ = false := fun o j => by
    have := cell_new (w.alloc o) [nameV, sixV] 26 j
    rw [hs] at this
    exact this
  refine ⟨w.heap.size + 1, rfl, by omega, by simp, ?_, ?_, ?_⟩
  · exact hc _ 0
  · exact hc _ 1
  · exact ((Below.refl _ _).alloc (Nat.le_refl _) _).alloc (by simp) _
/-- .. whose params lie in a variable. -/
theorem libase_new (h : List (List AV)) : Contract Try.prog 11 [] h (.agg [.v (.int .i64 2), .v (.int .i64 4), .v (.int .i64 8), .v (.int .i64 4096), .v (.int .i64 8192), .v (.int .i64 32), .bsl h.length 0 2 1]) (h ++ [[.v nameV, .v sixV]]) [] := by
  refine contract_newboxA (k := 2) (n := 1) (by kernel_rfl) rfl (by intro c hc; simp at hc; rcases hc with rfl | rfl <;> rfl) fun G w vs hW hS hvs => ?_
  rw [hvs.none]
  refine (base_any w).mono fun e w' he => ?_
  obtain ⟨g, rfl, h1, h2, h3, h4, hb⟩ := he
  refine ⟨baseV g, g, 1, [nameV, sixV], rfl, fun G' hs => ?_, h1, h2, Nat.le_refl _, ⟨by decide, fun j hj => ?_⟩, rfl, ?_, fun j c hj => ?_, fun j x hj => ?_, hb⟩
  · refine .agg _ [.int .i64 2, .int .i64 4, .int .i64 8, .int .i64 4096, .int .i64 8192, .int .i64 32, .slice (some ⟨g, 0, none⟩) 1 1] rfl (fun j c hj => ?_) ?_
    · rcases j with _ | _ | _ | _ | _ | _ | _ | j <;> simp at hj <;> subst hj <;> first | exact .v _ | exact hs
    · intro x hx
      simp at hx
      rcases hx with rfl | rfl | rfl | rfl | rfl | rfl | rfl <;> rfl
  · rcases j with _ | _ | j
    · rw [h3.1]; exact ⟨rfl, h3.2⟩
    · rw [h4.1]; exact ⟨rfl, h4.2⟩
    · omega
  · intro x hx
    simp at hx
    rcases hx with rfl | rfl <;> rfl
  · rcases j with _ | _ | j <;> simp at hj <;> subst hj <;> exact .v _
  · rcases j with _ | _ | j <;> simp at hj <;> subst hj
    · exact h3
    · exact h4
set_option maxHeartbeats 2000000 in
theorem libaselaw_c (name : List UInt8) : Contract Try.prog 4 [.v (.string (strB name))] [] (.v (.bool true)) [] [] := by
  refine contract_of k4 mixed (by simp [c4]) fun hh hargs => ?_
  have e1 : chkI baseCf = 0 := by decide +kernel
  have k1 := fun h => licheck_c (h := h) baseCf
  rw [e1] at k1
  simp [c4]
  refine xcall_self (by simp) (libase_new _) ?_
  simp
  refine xcall_self (by simp) libase_c ?_
  simp
  refine xcall_self (by simp) rlibase_c ?_
  obtain ⟨p0, hp0⟩ : ∃ p0, baseCf.params = [p0] := ⟨_, rfl⟩
  have heq : eqCs [2, 2] (paC p0) (paC p0) = some true := by simp [paC, eqCs]
  simp [hp0, heq]
  refine xcall_self (by simp) (k1 _) ?_
  simp
  refine xcall_self (by simp) (liawake_c _) ?_
  simp
end Go.Proofs.Ytplbobfbdlapcaa.Ax
namespace Go.Proofs.Ytplbobfbdlapcaa.limitBase
open Go.ChangeShapes Go.WideShapes Go.ChangeAt Go.RowKit
open Go.ChangeMaps (open_string shut_string)
set_option linter.unusedVariables false

theorem own : ownKnob Try.prog.godebug = none := by kernel_rfl
theorem laidOut : laidOutB Try.prog = true := by kernel_rfl

set_option maxRecDepth 100000 in
theorem lifted (os : Os) (started : os.Started) (H : Type) (enc : TypeId × Value → H) :
    ReturnsInHanded {} Try.checked os 4 .any (Rows.limitBaseSpec.pre6 enc Try.prog Try.f4 Rows.limitBaseRow.domain false) (Rows.limitBaseSpec.post enc Try.prog Try.f4 false true false false) := by
  refine returnsInHanded_of_change (C := Try.checked) own started (by kernel_rfl) Try.func4
    (ChangeSpec.witness6 (enc := enc) (C := Try.checked) false ⟨#[], #[.string ByteArray.empty], []⟩ 8 (by kernel_rfl) (by kernel_rfl) (by kernel_rfl) (by kernel_rfl)) ?_
  intro W base args ds gs before hval0 hW hcnd _
  have hval : ∀ (j : Nat) t v, Try.f4.params[j]? = some t → args[j]? = some v → Value.okWide Try.prog W .any base t v := hval0
  have hW' := hW
  obtain ⟨p, q, hA0, hV, rfl, hfz, hnd⟩ := hW
  have hA : DataW.TrodAll enc Try.prog W 0 (fun _ => true) true Try.f4.params.toList args.toList ds p := hA0
  rw [Try.params4] at hA hval
  obtain ⟨v0, vs0, d0, ds0, p0, q0, hargs, rfl, rfl, h0, r0⟩ := trodAll_cons hA
  obtain ⟨rfl, rfl, rfl⟩ := trodAll_nil r0
  obtain rfl : args = #[v0] := by cases args; simp_all
  obtain ⟨rfl, rfl⟩ := trodVars_none hV
  have k0 := h0
  have lt0 : ∀ x ∈ p0, x.block < W.heap.size := by obtain ⟨m, hm⟩ := k0; exact DataW.trod_lt m _ _ _ hm
  obtain ⟨a0, ok0, s0⟩ := Ax.arg_str Try.underlying9 (hval 0 9 v0 rfl rfl) h0
  clear hA0 hval0
  refine (Ax.law_walk (w := W) (Ax.dom_any W) (Ax.libaselaw_c a0) (by simp) (.cons s0 .nil)).mono fun e W' ⟨he, bel⟩ => ?_
  subst he
  exact ⟨_, rfl, _, _, _, [], _, [], hW', trodAll_mk1 (shut_bool Try.underlying4 _), (trodAll_cons_mk (Below.trod laidOut (by kernel_rfl) (of_decide_eq_true (by kernel_rfl)) k0 bel lt0) trodAll_mk0), rfl, bel.frame _, fun h => by cases h⟩

theorem over : Rows.limitBaseRow.holds Try.pinned (OpenSpec.ofChange Rows.limitBaseSpec) :=
  OpenClaim.holds_of_wide 4 Try.f4 rfl rfl rfl rfl rfl rfl rfl ⟨rfl, rfl, rfl, rfl, rfl⟩ rfl rfl rfl rfl rfl (by kernel_rfl) Try.func4 (by kernel_rfl)
    (of_decide_eq_true (by kernel_rfl)) (by unfold Func.isWrapper; first | (rw [if_pos (by decide +kernel)]; kernel_rfl) | (rw [if_neg (by decide +kernel)]; exact ⟨rfl, rfl⟩))
    (fun os started H enc _ => lifted os started H enc)

theorem proved : Rows.LimitBaseSaid := over
#print axioms proved
end Go.Proofs.Ytplbobfbdlapcaa.limitBase
