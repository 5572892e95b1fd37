/- What is said first, of any parameters, to any session, is what the document says (P11.1). -/
import Derived.Test.YtebggfghemblbaaQAxXr
import Derived.Test.YtebggfghemblbaaRows
import Derived.Test.YtebggfghemblbaaQAxBy
import Derived.Test.YtebggfghemblbaaQElems
import Derived.WalkKit
import Derived.ProofKit
import Derived.OpenShut
import Derived.ShutString
import Derived.ChangeOld
import Derived.Below
/- The texts of functions over values without memory, as the kernel reckons them out of the program. -/
namespace Go.Proofs.Ytebggfghemblbaa.Ax
open Go.RowKit Go By

def c24 : XFun := ⟨39, (.seq (.ops [⟨(some 4), (.assign (.const (.slice none 0 0))), none⟩]) (.seq (.ops [⟨(some 10), (.build [(.v (.int .u8 0)), (.v (.int .u8 0)), (.v (.string (strB []))), (.v (.string (strB []))), (.v (.string (strB []))), (.v (.int .i64 0)), (.v (.int .i64 0)), (.sl 0 [] (some true) .exact), (.sl 0 [] (some true) .exact), (.sl 0 [] (some true) .exact), (.sl 0 [] (some true) .exact)] [(0, (1, (.const (.int .u8 82))))]), none⟩, ⟨(some 11), (.buildSlice 11 1 [(.v (.int .u8 0)), (.v (.int .u8 0)), (.v (.string (strB []))), (.v (.string (strB []))), (.v (.string (strB []))), (.v (.int .i64 0)), (.v (.int .i64 0)), (.sl 0 [] (some true) .exact), (.sl 0 [] (some true) .exact), (.sl 0 [] (some true) .exact), (.sl 0 [] (some true) .exact)] [(0, (.tmp 10))]), none⟩, ⟨(some 5), (.assign (.tmp 11)), none⟩]) (.seq (.seq (.ops [⟨(some 12), (.move (.tmp 0)), none⟩, ⟨(some 13), (.lenL (.tmp 12)), none⟩, ⟨(some 14), (.move (.const (.int .i64 0))), none⟩]) (.block 0 (.loop (.seq (.ops [⟨(some 15), (.bin .lss (.tmp 14) (.tmp 13)), none⟩]) (.seq (.cond (.tmp 15) .skip (.exit 0)) (.seq (.block 1 (.seq (.ops [⟨(some 16), (.iaddr 2 (.tmp 12) (.tmp 14)), none⟩, ⟨(some 17), (.loadN 2 (.tmp 16)), none⟩, ⟨(some 7), (.alloc [(.v (.string (strB []))), (.v (.string (strB [])))]), none⟩, ⟨none, (.store 2 (.tmp 7) (.tmp 17)), none⟩]) (.ops [⟨(some 18), (.move (.tmp 5)), none⟩, ⟨(some 19), (.faddr 0 (.tmp 7)), none⟩, ⟨(some 20), (.load1 (.tmp 19)), none⟩, ⟨(some 21), (.faddr 1 (.tmp 7)), none⟩, ⟨(some 22), (.load1 (.tmp 21)), none⟩, ⟨(some 23), (.build [(.v (.int .u8 0)), (.v (.int .u8 0)), (.v (.string (strB []))), (.v (.string (strB []))), (.v (.string (strB []))), (.v (.int .i64 0)), (.v (.int .i64 0)), (.sl 0 [] (some true) .exact), (.sl 0 [] (some true) .exact), (.sl 0 [] (some true) .exact), (.sl 0 [] (some true) .exact)] [(0, (1, (.const (.int .u8 83)))), (3, (1, (.tmp 20))), (4, (1, (.tmp 22)))]), none⟩, ⟨(some 24), (.buildSlice 11 1 [(.v (.int .u8 0)), (.v (.int .u8 0)), (.v (.string (strB []))), (.v (.string (strB []))), (.v (.string (strB []))), (.v (.int .i64 0)), (.v (.int .i64 0)), (.sl 0 [] (some true) .exact), (.sl 0 [] (some true) .exact), (.sl 0 [] (some true) .exact), (.sl 0 [] (some true) .exact)] [(0, (.tmp 23))]), none⟩, ⟨(some 25), (.append 11 168 (.tmp 18) (.tmp 24)), none⟩, ⟨(some 5), (.assign (.tmp 25)), none⟩]))) (.ops [⟨(some 26), (.bin .add (.tmp 14) (.const (.int .i64 1))), none⟩, ⟨(some 14), (.move (.tmp 26)), none⟩]))))))) (.seq (.ops [⟨(some 28), (.move (.tmp 1)), none⟩, ⟨(some 29), (.call 26 [(.tmp 28)]), none⟩, ⟨(some 27), (.move (.tmp 29)), none⟩, ⟨(some 30), (.extract (.tmp 27) 0), none⟩, ⟨(some 31), (.extract (.tmp 27) 1), none⟩, ⟨(some 8), (.assign (.tmp 30)), none⟩, ⟨(some 9), (.assign (.tmp 31)), none⟩]) (.seq (.ops [⟨(some 32), (.move (.tmp 5)), none⟩, ⟨(some 33), (.move (.tmp 8)), none⟩, ⟨(some 34), (.move (.tmp 9)), none⟩, ⟨(some 35), (.build [(.v (.int .u8 0)), (.v (.int .u8 0)), (.v (.string (strB []))), (.v (.string (strB []))), (.v (.string (strB []))), (.v (.int .i64 0)), (.v (.int .i64 0)), (.sl 0 [] (some true) .exact), (.sl 0 [] (some true) .exact), (.sl 0 [] (some true) .exact), (.sl 0 [] (some true) .exact)] [(0, (1, (.const (.int .u8 75)))), (5, (1, (.tmp 33))), (6, (1, (.tmp 34)))]), none⟩, ⟨(some 36), (.build [(.v (.int .u8 0)), (.v (.int .u8 0)), (.v (.string (strB []))), (.v (.string (strB []))), (.v (.string (strB []))), (.v (.int .i64 0)), (.v (.int .i64 0)), (.sl 0 [] (some true) .exact), (.sl 0 [] (some true) .exact), (.sl 0 [] (some true) .exact), (.sl 0 [] (some true) .exact)] [(0, (1, (.const (.int .u8 90)))), (1, (1, (.const (.int .u8 73))))]), none⟩, ⟨(some 37), (.buildSlice 11 2 [(.v (.int .u8 0)), (.v (.int .u8 0)), (.v (.string (strB []))), (.v (.string (strB []))), (.v (.string (strB []))), (.v (.int .i64 0)), (.v (.int .i64 0)), (.sl 0 [] (some true) .exact), (.sl 0 [] (some true) .exact), (.sl 0 [] (some true) .exact), (.sl 0 [] (some true) .exact)] [(0, (.tmp 35)), (1, (.tmp 36))]), none⟩, ⟨(some 38), (.append 11 168 (.tmp 32) (.tmp 37)), none⟩, ⟨(some 4), (.assign (.tmp 38)), none⟩]) .ret))))), [(.move (.tmp 4))]⟩
theorem k24 : cfun Try.prog 24 = some c24 := by kernel_rfl
def c26 : XFun := ⟨14, (.seq (.ops [⟨(some 2), (.assign (.const (.int .i64 0))), none⟩, ⟨(some 3), (.assign (.const (.int .i64 0))), none⟩]) (.seq (.ops [⟨(some 5), (.move (.tmp 0)), none⟩, ⟨(some 6), (.maxI [(.tmp 5), (.const (.int .i64 0))]), none⟩, ⟨(some 7), (.minI [(.tmp 6), (.const (.int .i64 1048576))]), none⟩, ⟨(some 8), (.bin .add (.tmp 7) (.const (.int .i64 1))), none⟩, ⟨(some 4), (.assign (.tmp 8)), none⟩]) (.seq (.ops [⟨(some 9), (.move (.tmp 4)), none⟩, ⟨(some 10), (.bin .rem (.tmp 9) (.const (.int .i64 2147483648))), none⟩, ⟨(some 11), (.move (.tmp 4)), none⟩, ⟨(some 12), (.bin .mul (.tmp 11) (.const (.int .i64 7919))), none⟩, ⟨(some 13), (.bin .rem (.tmp 12) (.const (.int .i64 2147483648))), none⟩, ⟨(some 2), (.assign (.tmp 10)), none⟩, ⟨(some 3), (.assign (.tmp 13)), none⟩]) .ret))), [(.move (.tmp 2)), (.move (.tmp 3))]⟩
theorem k26 : cfun Try.prog 26 = some c26 := by kernel_rfl
def c29 : XFun := ⟨9, (.seq (.ops [⟨(some 4), (.assign (.const (.slice none 0 0))), none⟩]) (.seq (.ops [⟨(some 5), (.move (.tmp 0)), none⟩, ⟨(some 6), (.move (.tmp 1)), none⟩, ⟨(some 7), (.call 24 [(.tmp 5), (.tmp 6)]), none⟩, ⟨(some 8), (.call 32 [(.tmp 7)]), none⟩, ⟨(some 4), (.assign (.tmp 8)), none⟩]) .ret)), [(.move (.tmp 4))]⟩
theorem k29 : cfun Try.prog 29 = some c29 := by kernel_rfl
def c25 : XFun := ⟨43, (.seq (.ops [⟨(some 4), (.assign (.const (.slice none 0 0))), none⟩]) (.seq (.ops [⟨(some 9), (.build [(.v (.int .u8 0)), (.v (.int .u8 0)), (.v (.string (strB []))), (.v (.string (strB []))), (.v (.string (strB []))), (.v (.int .i64 0)), (.v (.int .i64 0)), (.sl 0 [] (some true) .exact), (.sl 0 [] (some true) .exact), (.sl 0 [] (some true) .exact), (.sl 0 [] (some true) .exact)] [(0, (1, (.const (.int .u8 82))))]), none⟩, ⟨(some 10), (.buildSlice 11 1 [(.v (.int .u8 0)), (.v (.int .u8 0)), (.v (.string (strB []))), (.v (.string (strB []))), (.v (.string (strB []))), (.v (.int .i64 0)), (.v (.int .i64 0)), (.sl 0 [] (some true) .exact), (.sl 0 [] (some true) .exact), (.sl 0 [] (some true) .exact), (.sl 0 [] (some true) .exact)] [(0, (.tmp 9))]), none⟩, ⟨(some 5), (.assign (.tmp 10)), none⟩]) (.seq (.seq (.ops [⟨(some 6), (.assign (.const (.int .i64 0))), none⟩]) (.block 0 (.loop (.seq (.seq (.ops [⟨(some 11), (.move (.tmp 6)), none⟩, ⟨(some 12), (.move (.tmp 0)), none⟩, ⟨(some 13), (.lenL (.tmp 12)), none⟩, ⟨(some 14), (.bin .lss (.tmp 11) (.tmp 13)), none⟩]) (.cond (.tmp 14) .skip (.exit 0))) (.seq (.block 1 (.draws (.take ⟨(some 17), (.move (.tmp 5)), none⟩ (.take ⟨(some 18), (.move (.tmp 0)), none⟩ (.take ⟨(some 19), (.move (.tmp 6)), none⟩ (.take ⟨(some 20), (.iaddr 2 (.tmp 18) (.tmp 19)), none⟩ (.take ⟨(some 21), (.faddr 0 (.tmp 20)), none⟩ (.take ⟨(some 22), (.load1 (.tmp 21)), none⟩ (.take ⟨(some 23), (.move (.tmp 0)), none⟩ (.take ⟨(some 24), (.move (.tmp 6)), none⟩ (.take ⟨(some 25), (.iaddr 2 (.tmp 23) (.tmp 24)), none⟩ (.take ⟨(some 26), (.faddr 1 (.tmp 25)), none⟩ (.take ⟨(some 27), (.load1 (.tmp 26)), none⟩ (.take ⟨(some 28), (.build [(.v (.int .u8 0)), (.v (.int .u8 0)), (.v (.string (strB []))), (.v (.string (strB []))), (.v (.string (strB []))), (.v (.int .i64 0)), (.v (.int .i64 0)), (.sl 0 [] (some true) .exact), (.sl 0 [] (some true) .exact), (.sl 0 [] (some true) .exact), (.sl 0 [] (some true) .exact)] [(0, (1, (.const (.int .u8 83)))), (3, (1, (.tmp 22))), (4, (1, (.tmp 27)))]), none⟩ (.only ⟨(some 29), (.buildSlice 11 1 [(.v (.int .u8 0)), (.v (.int .u8 0)), (.v (.string (strB []))), (.v (.string (strB []))), (.v (.string (strB []))), (.v (.int .i64 0)), (.v (.int .i64 0)), (.sl 0 [] (some true) .exact), (.sl 0 [] (some true) .exact), (.sl 0 [] (some true) .exact), (.sl 0 [] (some true) .exact)] [(0, (.tmp 28))]), none⟩ (.only ⟨(some 30), (.append 11 168 (.tmp 17) (.tmp 29)), none⟩ (.take ⟨(some 5), (.assign (.tmp 30)), none⟩ .done))))))))))))))))) (.ops [⟨(some 15), (.move (.tmp 6)), none⟩, ⟨(some 16), (.bin .add (.tmp 15) (.const (.int .i64 1))), none⟩, ⟨(some 6), (.assign (.tmp 16)), none⟩])))))) (.seq (.ops [⟨(some 32), (.move (.tmp 1)), none⟩, ⟨(some 33), (.call 27 [(.tmp 32)]), none⟩, ⟨(some 31), (.move (.tmp 33)), none⟩, ⟨(some 34), (.extract (.tmp 31) 0), none⟩, ⟨(some 35), (.extract (.tmp 31) 1), none⟩, ⟨(some 7), (.assign (.tmp 34)), none⟩, ⟨(some 8), (.assign (.tmp 35)), none⟩]) (.seq (.ops [⟨(some 36), (.move (.tmp 5)), none⟩, ⟨(some 37), (.move (.tmp 7)), none⟩, ⟨(some 38), (.move (.tmp 8)), none⟩, ⟨(some 39), (.build [(.v (.int .u8 0)), (.v (.int .u8 0)), (.v (.string (strB []))), (.v (.string (strB []))), (.v (.string (strB []))), (.v (.int .i64 0)), (.v (.int .i64 0)), (.sl 0 [] (some true) .exact), (.sl 0 [] (some true) .exact), (.sl 0 [] (some true) .exact), (.sl 0 [] (some true) .exact)] [(0, (1, (.const (.int .u8 75)))), (5, (1, (.tmp 37))), (6, (1, (.tmp 38)))]), none⟩, ⟨(some 40), (.build [(.v (.int .u8 0)), (.v (.int .u8 0)), (.v (.string (strB []))), (.v (.string (strB []))), (.v (.string (strB []))), (.v (.int .i64 0)), (.v (.int .i64 0)), (.sl 0 [] (some true) .exact), (.sl 0 [] (some true) .exact), (.sl 0 [] (some true) .exact), (.sl 0 [] (some true) .exact)] [(0, (1, (.const (.int .u8 90)))), (1, (1, (.const (.int .u8 73))))]), none⟩, ⟨(some 41), (.buildSlice 11 2 [(.v (.int .u8 0)), (.v (.int .u8 0)), (.v (.string (strB []))), (.v (.string (strB []))), (.v (.string (strB []))), (.v (.int .i64 0)), (.v (.int .i64 0)), (.sl 0 [] (some true) .exact), (.sl 0 [] (some true) .exact), (.sl 0 [] (some true) .exact), (.sl 0 [] (some true) .exact)] [(0, (.tmp 39)), (1, (.tmp 40))]), none⟩, ⟨(some 42), (.append 11 168 (.tmp 36) (.tmp 41)), none⟩, ⟨(some 4), (.assign (.tmp 42)), none⟩]) .ret))))), [(.move (.tmp 4))]⟩
theorem k25 : cfun Try.prog 25 = some c25 := by kernel_rfl
def c27 : XFun := ⟨14, (.seq (.ops [⟨(some 2), (.assign (.const (.int .i64 0))), none⟩, ⟨(some 3), (.assign (.const (.int .i64 0))), none⟩]) (.seq (.ops [⟨(some 4), (.move (.tmp 0)), none⟩, ⟨(some 5), (.maxI [(.tmp 4), (.const (.int .i64 0))]), none⟩, ⟨(some 6), (.minI [(.tmp 5), (.const (.int .i64 1048576))]), none⟩, ⟨(some 0), (.assign (.tmp 6)), none⟩]) (.seq (.ops [⟨(some 7), (.move (.tmp 0)), none⟩, ⟨(some 8), (.bin .add (.tmp 7) (.const (.int .i64 1))), none⟩, ⟨(some 9), (.bin .rem (.tmp 8) (.const (.int .i64 2147483648))), none⟩, ⟨(some 10), (.move (.tmp 0)), none⟩, ⟨(some 11), (.bin .add (.tmp 10) (.const (.int .i64 1))), none⟩, ⟨(some 12), (.bin .mul (.tmp 11) (.const (.int .i64 7919))), none⟩, ⟨(some 13), (.bin .rem (.tmp 12) (.const (.int .i64 2147483648))), none⟩, ⟨(some 2), (.assign (.tmp 9)), none⟩, ⟨(some 3), (.assign (.tmp 13)), none⟩]) .ret))), [(.move (.tmp 2)), (.move (.tmp 3))]⟩
theorem k27 : cfun Try.prog 27 = some c27 := by kernel_rfl
def c30 : XFun := ⟨9, (.seq (.ops [⟨(some 4), (.assign (.const (.slice none 0 0))), none⟩]) (.seq (.ops [⟨(some 5), (.move (.tmp 0)), none⟩, ⟨(some 6), (.move (.tmp 1)), none⟩, ⟨(some 7), (.call 25 [(.tmp 5), (.tmp 6)]), none⟩, ⟨(some 8), (.call 58 [(.tmp 7)]), none⟩, ⟨(some 4), (.assign (.tmp 8)), none⟩]) .ret)), [(.move (.tmp 4))]⟩
theorem k30 : cfun Try.prog 30 = some c30 := by kernel_rfl
def c31 : XFun := ⟨21, (.seq (.ops [⟨(some 4), (.assign (.const (.bool false))), none⟩]) (.seq (.ops [⟨(some 5), (.move (.tmp 0)), none⟩, ⟨(some 6), (.lenL (.tmp 5)), none⟩, ⟨(some 7), (.move (.tmp 1)), none⟩, ⟨(some 8), (.lenL (.tmp 7)), none⟩, ⟨(some 9), (.bin .geq (.tmp 6) (.tmp 8)), none⟩, ⟨(some 10), (.move (.tmp 9)), none⟩, ⟨(some 11), (.move (.tmp 0)), (some (10, true))⟩, ⟨(some 12), (.move (.tmp 0)), (some (10, true))⟩, ⟨(some 13), (.lenL (.tmp 12)), (some (10, true))⟩, ⟨(some 14), (.move (.tmp 1)), (some (10, true))⟩, ⟨(some 15), (.lenL (.tmp 14)), (some (10, true))⟩, ⟨(some 16), (.bin .sub (.tmp 13) (.tmp 15)), (some (10, true))⟩, ⟨(some 17), (.slice 1 (.tmp 11) (some (.tmp 16)) none none), (some (10, true))⟩, ⟨(some 18), (.move (.tmp 1)), (some (10, true))⟩, ⟨(some 19), (.call 28 [(.tmp 17), (.tmp 18)]), (some (10, true))⟩, ⟨(some 20), (.pick (.tmp 10) (.tmp 19) (.const (.bool false))), none⟩, ⟨(some 4), (.assign (.tmp 20)), none⟩]) .ret)), [(.move (.tmp 4))]⟩
theorem k31 : cfun Try.prog 31 = some c31 := by kernel_rfl
def c22 : XFun := ⟨27, (.seq (.ops [⟨(some 2), (.assign (.const (.bool false))), none⟩]) (.seq (.seq (.ops [⟨(some 5), (.move (.tmp 0)), none⟩, ⟨(some 6), (.lenL (.tmp 5)), none⟩, ⟨(some 7), (.move (.const (.int .i64 0))), none⟩]) (.block 0 (.loop (.seq (.ops [⟨(some 8), (.bin .lss (.tmp 7) (.tmp 6)), none⟩]) (.seq (.cond (.tmp 8) .skip (.exit 0)) (.seq (.block 1 (.seq (.ops [⟨(some 9), (.move (.tmp 7)), none⟩, ⟨(some 10), (.iaddr 2 (.tmp 5) (.tmp 7)), none⟩, ⟨(some 11), (.loadN 2 (.tmp 10)), none⟩, ⟨(some 4), (.alloc [(.v (.string (strB []))), (.v (.string (strB [])))]), none⟩, ⟨(some 3), (.assign (.tmp 9)), none⟩, ⟨none, (.store 2 (.tmp 4) (.tmp 11)), none⟩]) (.seq (.ops [⟨(some 12), (.move (.tmp 3)), none⟩, ⟨(some 13), (.bin .geq (.tmp 12) (.const (.int .i64 40))), none⟩, ⟨(some 14), (.move (.tmp 13)), none⟩, ⟨(some 15), (.faddr 0 (.tmp 4)), (some (14, false))⟩, ⟨(some 16), (.load1 (.tmp 15)), (some (14, false))⟩, ⟨(some 17), (.lenS (.tmp 16)), (some (14, false))⟩, ⟨(some 18), (.bin .gtr (.tmp 17) (.const (.int .i64 200))), (some (14, false))⟩, ⟨(some 19), (.pick (.tmp 14) (.const (.bool true)) (.tmp 18)), none⟩, ⟨(some 20), (.move (.tmp 19)), none⟩, ⟨(some 21), (.faddr 1 (.tmp 4)), (some (20, false))⟩, ⟨(some 22), (.load1 (.tmp 21)), (some (20, false))⟩, ⟨(some 23), (.lenS (.tmp 22)), (some (20, false))⟩, ⟨(some 24), (.bin .gtr (.tmp 23) (.const (.int .i64 200))), (some (20, false))⟩, ⟨(some 25), (.pick (.tmp 20) (.const (.bool true)) (.tmp 24)), none⟩]) (.cond (.tmp 25) (.seq (.ops [⟨(some 2), (.assign (.const (.bool true))), none⟩]) .ret) .skip)))) (.ops [⟨(some 26), (.bin .add (.tmp 7) (.const (.int .i64 1))), none⟩, ⟨(some 7), (.move (.tmp 26)), none⟩]))))))) (.seq (.ops [⟨(some 2), (.assign (.const (.bool false))), none⟩]) .ret))), [(.move (.tmp 2))]⟩
theorem k22 : cfun Try.prog 22 = some c22 := by kernel_rfl
def c23 : XFun := ⟨34, (.seq (.ops [⟨(some 0), (.assign (.const (.bool false))), none⟩]) (.seq (.ops [⟨(some 5), (.call 26 [(.const (.int .i64 0))]), none⟩, ⟨(some 4), (.move (.tmp 5)), none⟩, ⟨(some 6), (.extract (.tmp 4) 0), none⟩, ⟨(some 7), (.extract (.tmp 4) 1), none⟩, ⟨(some 1), (.assign (.tmp 6)), none⟩, ⟨(some 2), (.assign (.tmp 7)), none⟩]) (.seq (.ops [⟨(some 8), (.build [(.v (.string (strB []))), (.v (.string (strB [])))] [(0, (1, (.const (.string (strB [97]))))), (1, (1, (.const (.string (strB [98])))))]), none⟩, ⟨(some 9), (.buildSlice 2 1 [(.v (.string (strB []))), (.v (.string (strB [])))] [(0, (.tmp 8))]), none⟩, ⟨(some 10), (.call 24 [(.tmp 9), (.const (.int .i64 0))]), none⟩, ⟨(some 3), (.assign (.tmp 10)), none⟩]) (.seq (.ops [⟨(some 11), (.move (.tmp 1)), none⟩, ⟨(some 12), (.bin .eql (.tmp 11) (.const (.int .i64 1))), none⟩, ⟨(some 13), (.move (.tmp 12)), none⟩, ⟨(some 14), (.move (.tmp 2)), (some (13, true))⟩, ⟨(some 15), (.bin .eql (.tmp 14) (.const (.int .i64 7919))), (some (13, true))⟩, ⟨(some 16), (.pick (.tmp 13) (.tmp 15) (.const (.bool false))), none⟩, ⟨(some 17), (.move (.tmp 16)), none⟩, ⟨(some 18), (.move (.tmp 3)), (some (17, true))⟩, ⟨(some 19), (.lenL (.tmp 18)), (some (17, true))⟩, ⟨(some 20), (.bin .eql (.tmp 19) (.const (.int .i64 4))), (some (17, true))⟩, ⟨(some 21), (.pick (.tmp 17) (.tmp 20) (.const (.bool false))), none⟩, ⟨(some 22), (.move (.tmp 21)), none⟩, ⟨(some 23), (.move (.tmp 3)), (some (22, true))⟩, ⟨(some 24), (.iaddr 11 (.tmp 23) (.const (.int .i64 3))), (some (22, true))⟩, ⟨(some 25), (.faddr 0 (.tmp 24)), (some (22, true))⟩, ⟨(some 26), (.load1 (.tmp 25)), (some (22, true))⟩, ⟨(some 27), (.bin .eql (.tmp 26) (.const (.int .u8 90))), (some (22, true))⟩, ⟨(some 28), (.pick (.tmp 22) (.tmp 27) (.const (.bool false))), none⟩, ⟨(some 29), (.move (.tmp 28)), none⟩, ⟨(some 30), (.call 29 [(.const (.slice none 0 0)), (.const (.int .i64 0))]), (some (29, true))⟩, ⟨(some 31), (.lenL (.tmp 30)), (some (29, true))⟩, ⟨(some 32), (.bin .eql (.tmp 31) (.const (.int .i64 28))), (some (29, true))⟩, ⟨(some 33), (.pick (.tmp 29) (.tmp 32) (.const (.bool false))), none⟩, ⟨(some 0), (.assign (.tmp 33)), none⟩]) .ret)))), [(.move (.tmp 0))]⟩
theorem k23 : cfun Try.prog 23 = some c23 := by kernel_rfl
def c5 : XFun := ⟨72, (.seq (.ops [⟨(some 4), (.assign (.const (.bool false))), none⟩]) (.seq (.seq (.ops [⟨(some 12), (.move (.tmp 0)), none⟩, ⟨(some 13), (.call 22 [(.tmp 12)]), none⟩]) (.cond (.tmp 13) (.seq (.ops [⟨(some 14), (.call 23 []), none⟩, ⟨(some 4), (.assign (.tmp 14)), none⟩]) .ret) .skip)) (.seq (.ops [⟨(some 15), (.move (.tmp 0)), none⟩, ⟨(some 16), (.move (.tmp 1)), none⟩, ⟨(some 17), (.call 24 [(.tmp 15), (.tmp 16)]), none⟩, ⟨(some 18), (.move (.tmp 0)), none⟩, ⟨(some 19), (.move (.tmp 1)), none⟩, ⟨(some 20), (.call 25 [(.tmp 18), (.tmp 19)]), none⟩, ⟨(some 5), (.assign (.tmp 17)), none⟩, ⟨(some 6), (.assign (.tmp 20)), none⟩]) (.seq (.seq (.ops [⟨(some 21), (.move (.tmp 5)), none⟩, ⟨(some 22), (.lenL (.tmp 21)), none⟩, ⟨(some 23), (.move (.tmp 6)), none⟩, ⟨(some 24), (.lenL (.tmp 23)), none⟩, ⟨(some 25), (.bin .neq (.tmp 22) (.tmp 24)), none⟩]) (.cond (.tmp 25) (.seq (.ops [⟨(some 4), (.assign (.const (.bool false))), none⟩]) .ret) .skip)) (.seq (.seq (.ops [⟨(some 26), (.move (.tmp 5)), none⟩, ⟨(some 27), (.lenL (.tmp 26)), none⟩, ⟨(some 28), (.move (.const (.int .i64 0))), none⟩]) (.block 0 (.loop (.seq (.ops [⟨(some 29), (.bin .lss (.tmp 28) (.tmp 27)), none⟩]) (.seq (.cond (.tmp 29) .skip (.exit 0)) (.seq (.block 1 (.seq (.ops [⟨(some 30), (.move (.tmp 28)), none⟩, ⟨(some 7), (.assign (.tmp 30)), none⟩]) (.seq (.draws (.take ⟨(some 31), (.move (.tmp 5)), none⟩ (.take ⟨(some 32), (.move (.tmp 7)), none⟩ (.take ⟨(some 33), (.iaddr 11 (.tmp 31) (.tmp 32)), none⟩ (.take ⟨(some 34), (.loadN 11 (.tmp 33)), none⟩ (.take ⟨(some 35), (.move (.tmp 6)), none⟩ (.take ⟨(some 36), (.move (.tmp 7)), none⟩ (.take ⟨(some 37), (.iaddr 11 (.tmp 35) (.tmp 36)), none⟩ (.take ⟨(some 38), (.loadN 11 (.tmp 37)), none⟩ (.only ⟨(some 39), (.call 14 [(.tmp 34), (.tmp 38)]), none⟩ (.take ⟨(some 40), (.un .not (.tmp 39)), none⟩ .done))))))))))) (.cond (.tmp 40) (.seq (.ops [⟨(some 4), (.assign (.const (.bool false))), none⟩]) .ret) .skip)))) (.ops [⟨(some 41), (.bin .add (.tmp 28) (.const (.int .i64 1))), none⟩, ⟨(some 28), (.move (.tmp 41)), none⟩]))))))) (.seq (.ops [⟨(some 43), (.move (.tmp 1)), none⟩, ⟨(some 44), (.call 26 [(.tmp 43)]), none⟩, ⟨(some 42), (.move (.tmp 44)), none⟩, ⟨(some 45), (.extract (.tmp 42) 0), none⟩, ⟨(some 46), (.extract (.tmp 42) 1), none⟩, ⟨(some 8), (.assign (.tmp 45)), none⟩, ⟨(some 9), (.assign (.tmp 46)), none⟩]) (.seq (.ops [⟨(some 48), (.move (.tmp 1)), none⟩, ⟨(some 49), (.call 27 [(.tmp 48)]), none⟩, ⟨(some 47), (.move (.tmp 49)), none⟩, ⟨(some 50), (.extract (.tmp 47) 0), none⟩, ⟨(some 51), (.extract (.tmp 47) 1), none⟩, ⟨(some 10), (.assign (.tmp 50)), none⟩, ⟨(some 11), (.assign (.tmp 51)), none⟩]) (.seq (.ops [⟨(some 52), (.move (.tmp 8)), none⟩, ⟨(some 53), (.move (.tmp 10)), none⟩, ⟨(some 54), (.bin .eql (.tmp 52) (.tmp 53)), none⟩, ⟨(some 55), (.move (.tmp 54)), none⟩, ⟨(some 56), (.move (.tmp 9)), (some (55, true))⟩, ⟨(some 57), (.move (.tmp 11)), (some (55, true))⟩, ⟨(some 58), (.bin .eql (.tmp 56) (.tmp 57)), (some (55, true))⟩, ⟨(some 59), (.pick (.tmp 55) (.tmp 58) (.const (.bool false))), none⟩, ⟨(some 60), (.move (.tmp 59)), none⟩, ⟨(some 61), (.move (.tmp 0)), (some (60, true))⟩, ⟨(some 62), (.move (.tmp 1)), (some (60, true))⟩, ⟨(some 63), (.call 29 [(.tmp 61), (.tmp 62)]), (some (60, true))⟩, ⟨(some 64), (.move (.tmp 0)), (some (60, true))⟩, ⟨(some 65), (.move (.tmp 1)), (some (60, true))⟩, ⟨(some 66), (.call 30 [(.tmp 64), (.tmp 65)]), (some (60, true))⟩, ⟨(some 67), (.call 28 [(.tmp 63), (.tmp 66)]), (some (60, true))⟩, ⟨(some 68), (.pick (.tmp 60) (.tmp 67) (.const (.bool false))), none⟩, ⟨(some 69), (.move (.tmp 68)), none⟩, ⟨(some 70), (.call 23 []), (some (69, true))⟩, ⟨(some 71), (.pick (.tmp 69) (.tmp 70) (.const (.bool false))), none⟩, ⟨(some 4), (.assign (.tmp 71)), none⟩]) .ret)))))))), [(.move (.tmp 4))]⟩
theorem k5 : cfun Try.prog 5 = some c5 := by kernel_rfl
def c6 : XFun := ⟨42, (.seq (.ops [⟨(some 4), (.assign (.const (.bool false))), none⟩]) (.seq (.seq (.ops [⟨(some 8), (.move (.tmp 0)), none⟩, ⟨(some 9), (.call 22 [(.tmp 8)]), none⟩]) (.cond (.tmp 9) (.seq (.ops [⟨(some 10), (.call 23 []), none⟩, ⟨(some 4), (.assign (.tmp 10)), none⟩]) .ret) .skip)) (.seq (.ops [⟨(some 11), (.move (.tmp 0)), none⟩, ⟨(some 12), (.move (.tmp 1)), none⟩, ⟨(some 13), (.call 29 [(.tmp 11), (.tmp 12)]), none⟩, ⟨(some 5), (.assign (.tmp 13)), none⟩]) (.seq (.seq (.ops [⟨(some 14), (.move (.tmp 5)), none⟩, ⟨(some 15), (.build [(.v (.int .u8 0)), (.v (.int .u8 0)), (.v (.string (strB []))), (.v (.string (strB []))), (.v (.string (strB []))), (.v (.int .i64 0)), (.v (.int .i64 0)), (.sl 0 [] (some true) .exact), (.sl 0 [] (some true) .exact), (.sl 0 [] (some true) .exact), (.sl 0 [] (some true) .exact)] [(0, (1, (.const (.int .u8 90)))), (1, (1, (.const (.int .u8 73))))]), none⟩, ⟨(some 16), (.buildSlice 11 1 [(.v (.int .u8 0)), (.v (.int .u8 0)), (.v (.string (strB []))), (.v (.string (strB []))), (.v (.string (strB []))), (.v (.int .i64 0)), (.v (.int .i64 0)), (.sl 0 [] (some true) .exact), (.sl 0 [] (some true) .exact), (.sl 0 [] (some true) .exact), (.sl 0 [] (some true) .exact)] [(0, (.tmp 15))]), none⟩, ⟨(some 17), (.call 32 [(.tmp 16)]), none⟩, ⟨(some 18), (.call 31 [(.tmp 14), (.tmp 17)]), none⟩, ⟨(some 19), (.un .not (.tmp 18)), none⟩]) (.cond (.tmp 19) (.seq (.ops [⟨(some 4), (.assign (.const (.bool false))), none⟩]) .ret) .skip)) (.seq (.ops [⟨(some 21), (.move (.tmp 1)), none⟩, ⟨(some 22), (.call 26 [(.tmp 21)]), none⟩, ⟨(some 20), (.move (.tmp 22)), none⟩, ⟨(some 23), (.extract (.tmp 20) 0), none⟩, ⟨(some 24), (.extract (.tmp 20) 1), none⟩, ⟨(some 6), (.assign (.tmp 23)), none⟩, ⟨(some 7), (.assign (.tmp 24)), none⟩]) (.seq (.ops [⟨(some 25), (.move (.tmp 6)), none⟩, ⟨(some 26), (.bin .geq (.tmp 25) (.const (.int .i64 0))), none⟩, ⟨(some 27), (.move (.tmp 26)), none⟩, ⟨(some 28), (.move (.tmp 6)), (some (27, true))⟩, ⟨(some 29), (.bin .lss (.tmp 28) (.const (.int .i64 2147483648))), (some (27, true))⟩, ⟨(some 30), (.pick (.tmp 27) (.tmp 29) (.const (.bool false))), none⟩, ⟨(some 31), (.move (.tmp 30)), none⟩, ⟨(some 32), (.move (.tmp 7)), (some (31, true))⟩, ⟨(some 33), (.bin .geq (.tmp 32) (.const (.int .i64 0))), (some (31, true))⟩, ⟨(some 34), (.pick (.tmp 31) (.tmp 33) (.const (.bool false))), none⟩, ⟨(some 35), (.move (.tmp 34)), none⟩, ⟨(some 36), (.move (.tmp 7)), (some (35, true))⟩, ⟨(some 37), (.bin .lss (.tmp 36) (.const (.int .i64 2147483648))), (some (35, true))⟩, ⟨(some 38), (.pick (.tmp 35) (.tmp 37) (.const (.bool false))), none⟩, ⟨(some 39), (.move (.tmp 38)), none⟩, ⟨(some 40), (.call 23 []), (some (39, true))⟩, ⟨(some 41), (.pick (.tmp 39) (.tmp 40) (.const (.bool false))), none⟩, ⟨(some 4), (.assign (.tmp 41)), none⟩]) .ret)))))), [(.move (.tmp 4))]⟩
theorem k6 : cfun Try.prog 6 = some c6 := by kernel_rfl
end Go.Proofs.Ytebggfghemblbaa.Ax
/- What a server says first, over values without memory: greet and its statements. -/
namespace Go.Proofs.Ytebggfghemblbaa.Ax
open Go.RowKit Go By Nm Sc Dg
set_option linter.unusedSimpArgs false
set_option linter.unusedVariables false
set_option maxRecDepth 10000

def heldG (n : Int) : Int := if n < 0 then 0 else if 1048576 < n then 1048576 else n
theorem heldG_eq (n : Int) : minZ (maxZ n [0]) [1048576] = heldG n := by
  unfold minZ maxZ heldG
  simp only [List.foldl_cons, List.foldl_nil]
  repeat' split
  all_goals omega
theorem heldG_range (n : Int) : 0 ≤ heldG n ∧ heldG n ≤ 1048576 := by
  unfold heldG
  repeat' split
  all_goals omega
def kA (id : Int) : Int := (heldG id + 1).tmod 2147483648
def kB (id : Int) : Int := ((heldG id + 1) * 7919).tmod 2147483648
theorem kA_range (id : Int) : 0 ≤ kA id ∧ kA id < 2147483648 := by
  obtain ⟨h1, h2⟩ := heldG_range id
  unfold kA
  rw [Int.tmod_eq_emod_of_nonneg (by omega)]; omega
theorem kB_range (id : Int) : 0 ≤ kB id ∧ kB id < 2147483648 := by
  obtain ⟨h1, h2⟩ := heldG_range id
  unfold kB
  rw [Int.tmod_eq_emod_of_nonneg (by omega)]; omega
theorem gkeys_c (id : Int) (h : List (List AV)) : Contract Try.prog 26 [.v (.int .i64 id)] h (.tup [.v (.int .i64 (kA id)), .v (.int .i64 (kB id))]) h [] := by
  have e := heldG_eq id
  obtain ⟨h1, h2⟩ := heldG_range id
  have w1 : IntKind.i64.wrap (heldG id + 1) = heldG id + 1 := wrap64 (by omega) (by omega)
  have w2 : IntKind.i64.wrap ((heldG id + 1) * 7919) = (heldG id + 1) * 7919 := wrap64 (by omega) (by omega)
  refine contract_of k26 mixed (by simp [c26]) fun hh hargs => ?_
  simp [c26, e, w1, w2, hh, kA, kB]
theorem rgkeys_c (id : Int) (h : List (List AV)) : Contract Try.prog 27 [.v (.int .i64 id)] h (.tup [.v (.int .i64 (kA id)), .v (.int .i64 (kB id))]) h [] := by
  have e := heldG_eq id
  obtain ⟨h1, h2⟩ := heldG_range id
  have w1 : IntKind.i64.wrap (heldG id + 1) = heldG id + 1 := wrap64 (by omega) (by omega)
  have w2 : IntKind.i64.wrap ((heldG id + 1) * 7919) = (heldG id + 1) * 7919 := wrap64 (by omega) (by omega)
  refine contract_of k27 mixed (by simp [c27]) fun hh hargs => ?_
  simp [c27, e, w1, w2, hh, kA, kB]
def rG : Bk := ⟨82, 0, [], [], [], 0, 0, [], [], [], []⟩
def sG (p : Pa) : Bk := ⟨83, 0, [], p.name, p.value, 0, 0, [], [], [], []⟩
def kG (id : Int) : Bk := ⟨75, 0, [], [], [], kA id, kB id, [], [], [], []⟩
def zG : Bk := ⟨90, 73, [], [], [], 0, 0, [], [], [], []⟩
def backsG (l : List Pa) (id : Int) : List Bk := (rG :: l.map sG) ++ [kG id, zG]
def saidP (l : List Pa) (j : Nat) : List Bk := (l.take j).map sG
theorem saidP_zero (l : List Pa) : saidP l 0 = [] := rfl
theorem saidP_succ {l : List Pa} {j : Nat} (hlt : j < l.length) : saidP l (j + 1) = saidP l j ++ [sG l[j]] := by unfold saidP; rw [take_next hlt, List.map_append]; rfl
theorem saidP_len {l : List Pa} {j : Nat} (hj : j ≤ l.length) : (saidP l j).length = j := by unfold saidP; simp; omega
theorem saidP_all (l : List Pa) : saidP l l.length = l.map sG := by unfold saidP; rw [List.take_length]
theorem gbacks_c (l : List Pa) (id : Int) (hl : l.length ≤ 1000000) (h : List (List AV)) : Contract Try.prog 24 [.sl 2 (enc paC l) none .no, .v (.int .i64 id)] h (.sl 11 (enc bkC (backsG l id)) none .no) h [] := by
  refine contract_of k24 mixed (by simp [c24]) fun hh hargs => ?_
  simp [c24]
  refine xloop_ok (D := Nat) (fun j => ⟨[(1, .v (.int .i64 id)), (12, .sl 2 (enc paC l) none .no), (13, .v (.int .i64 l.length)), (14, .v (.int .i64 j))], [(5, .sl 11 (enc bkC (rG :: saidP l j)) none (.own (.slot 5)))], h, []⟩) (fun j => j ≤ l.length) (fun j => l.length - j) 0 (by simp) ?_ ?_
  · simp [Leq, hh, bkC_mk, rG, saidP_zero]
  · intro j hj
    by_cases hlt : j < l.length
    · have hw : IntKind.i64.wrap ((j : Int) + 1) = (j : Int) + 1 := wrap64 (by omega) (by omega)
      have hp := saidP_len hj
      simp [hlt, paC_mk, hw, hp]
      refine ⟨by omega, by omega, j + 1, by omega, by omega, ?_⟩
      rw [saidP_succ hlt]
      simp [Leq, hh, bkC_mk, sG]
    · have : j = l.length := by omega
      subst this
      have hp := saidP_all l
      rw [hp]
      simp
      refine xcall_self (by simp) (gkeys_c id _) ?_
      simp [hh]
      refine ⟨by omega, by omega, ?_⟩
      simp [backsG, bkC_mk, kG, zG]
theorem rgbacks_c (l : List Pa) (id : Int) (hl : l.length ≤ 1000000) (h : List (List AV)) : Contract Try.prog 25 [.sl 2 (enc paC l) none .no, .v (.int .i64 id)] h (.sl 11 (enc bkC (backsG l id)) none .no) h [] := by
  refine contract_of k25 mixed (by simp [c25]) fun hh hargs => ?_
  simp [c25]
  refine xloop_ok (D := Nat) (fun j => ⟨[(0, .sl 2 (enc paC l) none .no), (1, .v (.int .i64 id)), (6, .v (.int .i64 j))], [(5, .sl 11 (enc bkC (rG :: saidP l j)) none (.own (.slot 5)))], h, []⟩) (fun j => j ≤ l.length) (fun j => l.length - j) 0 (by simp) ?_ ?_
  · simp [Leq, hh, bkC_mk, rG, saidP_zero]
  · intro j hj
    by_cases hlt : j < l.length
    · have hw : IntKind.i64.wrap ((j : Int) + 1) = (j : Int) + 1 := wrap64 (by omega) (by omega)
      have hp := saidP_len hj
      simp [hlt, paC_mk, hw, hp]
      refine ⟨by omega, by omega, j + 1, by omega, by omega, ?_⟩
      rw [saidP_succ hlt]
      simp [Leq, hh, bkC_mk, sG]
    · have : j = l.length := by omega
      subst this
      have hp := saidP_all l
      rw [hp]
      simp
      refine xcall_self (by simp) (rgkeys_c id _) ?_
      simp [hh]
      refine ⟨by omega, by omega, ?_⟩
      simp [backsG, bkC_mk, kG, zG]
/-! ### Their bytes -/
theorem rG_fit : BkFit rG := by unfold BkFit rG; simp
theorem zG_fit : BkFit zG := by unfold BkFit zG; simp
theorem kG_fit (id : Int) : BkFit (kG id) := by unfold BkFit kG; simp
theorem sG_fit (p : Pa) : BkFit (sG p) := by unfold BkFit sG; simp
def shortP (p : Pa) : Prop := p.name.length ≤ 200 ∧ p.value.length ≤ 200
theorem backsG_all {l : List Pa} {id : Int} (hs : ∀ p ∈ l, shortP p) : ∀ m ∈ backsG l id, BkFit m ∧ BkShort m ∧ BkOk m ∧ (bodyB m).length ≤ 500 := by
  intro m hm
  unfold backsG at hm
  simp only [List.cons_append, List.mem_cons, List.mem_append, List.mem_map, List.mem_singleton, List.not_mem_nil, or_false] at hm
  rcases hm with rfl | ⟨p, hp, rfl⟩ | rfl | rfl
  · exact ⟨rG_fit, by unfold BkShort rG; simp, by unfold BkOk rG; simp, by decide⟩
  · obtain ⟨h1, h2⟩ := hs p hp
    refine ⟨sG_fit p, by unfold BkShort sG; simp; omega, by unfold BkOk sG; simp, ?_⟩
    have e : bodyB (sG p) = textsL [p.name, p.value] := rfl
    rw [e]
    simp [textsL, He.encT]
    omega
  · refine ⟨kG_fit id, by unfold BkShort kG; simp, by unfold BkOk kG; simp, ?_⟩
    have e : bodyB (kG id) = numE 4 (kA id) ++ numE 4 (kB id) := rfl
    have l1 := numE_len 4 (kA id) (by omega)
    have l2 := numE_len 4 (kB id) (by omega)
    rw [e, List.length_append]
    omega
  · exact ⟨zG_fit, by unfold BkShort zG; simp, by unfold BkOk zG; simp, by decide⟩
theorem oneB_le {m : Bk} (h : (bodyB m).length ≤ 500) : (oneB m).length ≤ 505 := by
  by_cases hc : checkB m = 0
  · have := oneB_len hc
    have := numE_len 4 (((bodyB m).length : Int) + 4) (by omega)
    omega
  · rw [oneB_no hc]; simp
theorem bytesB_le : ∀ {l : List Bk}, (∀ m ∈ l, (bodyB m).length ≤ 500) → (bytesB l).length ≤ 505 * l.length
  | [], _ => by simp [bytesB]
  | m :: r, h => by
    have h1 := oneB_le (h m (List.mem_cons_self ..))
    have h2 := bytesB_le (l := r) fun x hx => h x (List.mem_cons_of_mem _ hx)
    have e : bytesB (m :: r) = oneB m ++ bytesB r := rfl
    rw [e, List.length_append, List.length_cons]
    omega
theorem backsG_len (l : List Pa) (id : Int) : (backsG l id).length = l.length + 3 := by unfold backsG; simp
theorem gbytes_c (l : List Pa) (id : Int) (hl : l.length ≤ 40) (hs : ∀ p ∈ l, shortP p) (h : List (List AV)) : Contract Try.prog 29 [.sl 2 (enc paC l) none .no, .v (.int .i64 id)] h (.sl 1 (bytesE (bytesB (backsG l id))) none .no) h [] := by
  have hall := backsG_all (id := id) hs
  have hb := bytesB_le (l := backsG l id) fun m hm => (hall m hm).2.2.2
  have hlen := backsG_len l id
  refine contract_of k29 mixed (by simp [c29]) fun hh hargs => ?_
  simp [c29]
  refine xcall_self (by simp) (gbacks_c l id (by omega) _) ?_
  simp
  refine xcall_self (by simp) (bbytes_c (backsG l id) (fun m hm => ⟨(hall m hm).1, (hall m hm).2.2.1, by have := (hall m hm).2.2.2; omega⟩) (by omega) (by omega) _) ?_
  simp [hh]
theorem rgbytes_c (l : List Pa) (id : Int) (hl : l.length ≤ 40) (hs : ∀ p ∈ l, shortP p) (h : List (List AV)) : Contract Try.prog 30 [.sl 2 (enc paC l) none .no, .v (.int .i64 id)] h (.sl 1 (bytesE (bytesB (backsG l id))) none .no) h [] := by
  have hall := backsG_all (id := id) hs
  have hb := bytesB_le (l := backsG l id) fun m hm => (hall m hm).2.2.2
  have hlen := backsG_len l id
  refine contract_of k30 mixed (by simp [c30]) fun hh hargs => ?_
  simp [c30]
  refine xcall_self (by simp) (rgbacks_c l id (by omega) _) ?_
  simp
  refine xcall_self (by simp) (rbbytes_c (backsG l id) (fun m hm => ⟨(hall m hm).1, (hall m hm).2.1, (hall m hm).2.2.1, by have := (hall m hm).2.2.2; omega⟩) (by omega) (by omega) _) ?_
  simp [hh]

/-! ### The statements -/
def longP (p : Pa) : Bool := decide (200 < p.name.length) || decide (200 < p.value.length)
def farG (l : List Pa) : Bool := decide (40 < l.length) || l.any longP
theorem gfar_c (l : List Pa) (hl : l.length ≤ maxLen) (h : List (List AV)) : Contract Try.prog 22 [.sl 2 (enc paC l) none .no] h (.v (.bool (farG l))) h [] := by
  refine contract_of k22 mixed (by simp [c22]) fun hh hargs => ?_
  simp [c22]
  refine xloop_ok (D := Nat) (fun j => ⟨[(5, .sl 2 (enc paC l) none .no), (6, .v (.int .i64 l.length)), (7, .v (.int .i64 j))], [], h, []⟩) (fun j => j ≤ l.length ∧ j ≤ 40 ∧ ∀ x ∈ l.take j, longP x = false) (fun j => l.length - j) 0 (by simp) ?_ ?_
  · simp [Leq, hh]
  · rintro j ⟨hj, hj4, hp⟩
    by_cases hlt : j < l.length
    · have hw : IntKind.i64.wrap ((j : Int) + 1) = (j : Int) + 1 := wrap64 (by omega) (by omega)
      have yes : longP l[j] = true → farG l = true := fun e => by
        have : l.any longP = true := List.any_eq_true.2 ⟨_, List.getElem_mem hlt, e⟩
        unfold farG; rw [this]; simp
      have no : longP l[j] = false → ∀ x ∈ l.take (j + 1), longP x = false := fun e => take_none hlt hp e
      simp [hlt]
      generalize l[j] = p at *
      by_cases h40 : j = 40
      · subst h40
        have : farG l = true := by unfold farG; simp; omega
        simp [paC_mk, hh, this]
      · have h4 : ¬ (40 : Int) ≤ j := by omega
        by_cases hn : 200 < p.name.length
        · have hn2 : (200 : Int) < p.name.length := by omega
          simp [paC_mk, h4, hn2, hh, yes (by unfold longP; simp [hn])]
        · have hn2 : ¬ (200 : Int) < p.name.length := by omega
          by_cases hv : 200 < p.value.length
          · have hv2 : (200 : Int) < p.value.length := by omega
            simp [paC_mk, h4, hn2, hv2, hh, yes (by unfold longP; simp [hv])]
          · have hv2 : ¬ (200 : Int) < p.value.length := by omega
            have := no (by unfold longP; simp; omega)
            simp [paC_mk, h4, hn2, hv2, hw]
            refine ⟨j + 1, ⟨by omega, by omega, this⟩, by omega, ?_⟩
            simp [Leq, hh]
    · have : j = l.length := by omega
      subst this
      have hf : farG l = false := by
        have : l.any longP = false := by
          rw [List.any_eq_false]
          intro x hx
          have := hp x (by rw [List.take_length]; exact hx)
          rw [this]; simp
        unfold farG
        rw [this]
        simp; omega
      simp [hh, hf]
theorem far_no {l : List Pa} (h : farG l = false) : l.length ≤ 40 ∧ ∀ p ∈ l, shortP p := by
  unfold farG at h
  rw [Bool.or_eq_false_iff] at h
  obtain ⟨h1, h2⟩ := h
  refine ⟨by simpa using h1, fun p hp => ?_⟩
  have := List.any_eq_false.1 h2 p hp
  unfold longP at this
  unfold shortP
  simp at this
  omega
theorem kA0 : kA 0 = 1 := by decide
theorem kB0 : kB 0 = 7919 := by decide
def awP : Pa := ⟨[97], [98]⟩
theorem aw_len : (bytesB (backsG [] 0)).length = 28 := by decide +kernel
theorem gawake_c (h : List (List AV)) : Contract Try.prog 23 [] h (.v (.bool true)) h [] := by
  have e3 : (backsG [awP] 0).length = 4 := rfl
  have e4 : (backsG [awP] 0)[3]'(by rw [e3]; omega) = zG := rfl
  have ek : zG.kind = 90 := rfl
  refine contract_of k23 mixed (by simp [c23]) fun hh hargs => ?_
  simp [c23]
  refine xcall_self (by simp) (gkeys_c 0 _) ?_
  rw [kA0, kB0]
  simp
  refine xcall_of (gbacks_c [awP] 0 (by simp) _) (by simp [paC_mk, awP]) (by simp) ?_
  generalize hB : backsG [awP] 0 = B at *
  simp [e3, e4, ek, bkC_mk]
  refine xcall_of (gbytes_c [] 0 (by simp) (by simp) _) (by simp) (by simp) ?_
  have e5 := aw_len
  generalize bytesB (backsG [] 0) = X at *
  simp [e5, hh]
theorem gtells_c (l : List Pa) (id : Int) (hl : l.length ≤ maxLen ∧ ∀ x ∈ l, OkPa x) : Contract Try.prog 5 [.sl 2 (enc paC l) none .no, .v (.int .i64 id)] [] (.v (.bool true)) [] [] := by
  refine contract_of k5 mixed (by simp [c5]) fun hh hargs => ?_
  simp [c5]
  refine xcall_self (by simp) (gfar_c l hl.1 _) ?_
  cases hf : farG l with
  | true =>
    simp
    refine xcall_self (by simp) (gawake_c _) ?_
    simp
  | false =>
    obtain ⟨hl4, hs⟩ := far_no hf
    have hall := backsG_all (id := id) hs
    have hlen := backsG_len l id
    simp
    refine xcall_self (by simp) (gbacks_c l id (by omega) _) ?_
    simp
    refine xcall_self (by simp) (rgbacks_c l id (by omega) _) ?_
    simp
    obtain ⟨B, hB⟩ : ∃ B, backsG l id = B := ⟨_, rfl⟩
    rw [hB] at hall hlen ⊢
    refine xloop_ok (D := Nat) (fun j => ⟨[(0, .sl 2 (enc paC l) none .no), (1, .v (.int .i64 id)), (5, .sl 11 (enc bkC B) none .no), (6, .sl 11 (enc bkC B) none .no), (27, .v (.int .i64 B.length)), (28, .v (.int .i64 j))], [], [], []⟩) (fun j => j ≤ B.length) (fun j => B.length - j) 0 (by simp) ?_ ?_
    · simp [Leq]
    · intro j hj
      by_cases hlt : j < B.length
      · have hw : IntKind.i64.wrap ((j : Int) + 1) = (j : Int) + 1 := wrap64 (by omega) (by omega)
        have hfit := (hall _ (List.getElem_mem hlt)).1
        simp [hlt]
        refine xcall_self (by simp) (rbsame_c B[j] B[j] hfit _) ?_
        rw [sameB_refl]
        simp [hw]
        refine ⟨j + 1, by omega, by omega, ?_⟩
        simp [Leq]
      · have : j = B.length := by omega
        subst this
        simp
        refine xcall_self (by simp) (gkeys_c id _) ?_
        simp
        refine xcall_self (by simp) (rgkeys_c id _) ?_
        simp
        refine xcall_self (by simp) (gbytes_c l id (by omega) hs _) ?_
        simp
        refine xcall_self (by simp) (rgbytes_c l id (by omega) hs _) ?_
        simp
        refine xcall_self (by simp) (equal_c _ _ _) ?_
        simp
        refine xcall_self (by simp) (gawake_c _) ?_
        simp
theorem hassuf_c (X Y : List UInt8) (hl : (X ++ Y).length ≤ 140737488355328) (h : List (List AV)) : Contract Try.prog 31 [.sl 1 (bytesE (X ++ Y)) none .no, .sl 1 (bytesE Y) none .no] h (.v (.bool true)) h [] := by
  have hd : (X ++ Y).drop X.length = Y := by simp
  have hle : Y.length ≤ X.length + Y.length := by omega
  have hlx : (X ++ Y).length = X.length + Y.length := List.length_append
  obtain ⟨L, hL⟩ : ∃ L, X ++ Y = L := ⟨_, rfl⟩
  rw [hL] at hd hl hlx ⊢
  have hw : IntKind.i64.wrap ((L.length : Int) - Y.length) = X.length := by rw [wrap64 (by omega) (by omega)]; omega
  have hge : (Y.length : Int) ≤ L.length := by omega
  have hle2 : (X.length : Int) ≤ L.length := by omega
  have hle3 : X.length ≤ L.length := by omega
  refine contract_of k31 mixed (by simp [c31]) fun hh hargs => ?_
  simp [c31, hge, hw, hle2, hle3, hd]
  refine xcall_self (by simp) (equal_c Y Y _) ?_
  simp [hh]
theorem z_bytes : bytesB [zG] = [90, 0, 0, 0, 5, 73] := by decide +kernel
theorem gends_c (l : List Pa) (id : Int) (hl : l.length ≤ maxLen ∧ ∀ x ∈ l, OkPa x) : Contract Try.prog 6 [.sl 2 (enc paC l) none .no, .v (.int .i64 id)] [] (.v (.bool true)) [] [] := by
  obtain ⟨a1, a2⟩ := kA_range id
  obtain ⟨b1, b2⟩ := kB_range id
  refine contract_of k6 mixed (by simp [c6]) fun hh hargs => ?_
  simp [c6]
  refine xcall_self (by simp) (gfar_c l hl.1 _) ?_
  cases hf : farG l with
  | true =>
    simp
    refine xcall_self (by simp) (gawake_c _) ?_
    simp
  | false =>
    obtain ⟨hl4, hs⟩ := far_no hf
    have hall := backsG_all (id := id) hs
    have hb := bytesB_le (l := backsG l id) fun m hm => (hall m hm).2.2.2
    have hlen := backsG_len l id
    simp
    refine xcall_self (by simp) (gbytes_c l id (by omega) hs _) ?_
    obtain ⟨X, hX⟩ : ∃ X, bytesB (backsG l id) = X ++ bytesB [zG] := ⟨bytesB ((rG :: l.map sG) ++ [kG id]), by
      unfold bytesB backsG
      simp [List.flatMap_append]⟩
    rw [hX] at hb ⊢
    obtain ⟨L, hL⟩ : ∃ L, X ++ bytesB [zG] = L := ⟨_, rfl⟩
    rw [hL] at hb ⊢
    simp
    refine xcall_of (bbytes_c [zG] (by intro m hm; rw [List.mem_singleton.1 hm]; exact ⟨zG_fit, by unfold BkOk zG; simp, by decide +kernel⟩) (by rw [z_bytes]; simp) (by simp) _) (by simp [bkC_mk, zG]) (by simp) ?_
    simp
    have hsuf := hassuf_c X (bytesB [zG]) (by rw [hL]; omega)
    rw [hL] at hsuf
    refine xcall_of (hsuf _) (by simp) (by simp) ?_
    simp
    refine xcall_self (by simp) (gkeys_c id _) ?_
    simp [a1, a2, b1, b2]
    refine xcall_self (by simp) (gawake_c _) ?_
    simp
end Go.Proofs.Ytebggfghemblbaa.Ax
namespace Go.Proofs.Ytebggfghemblbaa.greetTells
open Go.ChangeShapes Go.WideShapes Go.ChangeAt Go.RowKit
open Go.ChangeMaps (open_string shut_string)
set_option linter.unusedVariables false

theorem own : ownKnob Try.prog.godebug = none := by kernel_rfl
theorem laidOut : laidOutB Try.prog = true := by kernel_rfl

set_option maxRecDepth 100000 in
theorem lifted (os : Os) (started : os.Started) (H : Type) (enc : TypeId × Value → H) :
    ReturnsInHanded {} Try.checked os 5 .any (Rows.greetTellsSpec.pre6 enc Try.prog Try.f5 Rows.greetTellsRow.domain false) (Rows.greetTellsSpec.post enc Try.prog Try.f5 false true false false) := by
  refine returnsInHanded_of_change (C := Try.checked) own started (by kernel_rfl) Try.func5
    (ChangeSpec.witness6 (enc := enc) (C := Try.checked) false ⟨#[], #[.slice none 0 0, .int .i64 0], []⟩ 8 (by kernel_rfl) (by kernel_rfl) (by kernel_rfl) (by kernel_rfl)) ?_
  intro W base args ds gs before hval0 hW hcnd _
  have hval : ∀ (j : Nat) t v, Try.f5.params[j]? = some t → args[j]? = some v → Value.okWide Try.prog W .any base t v := hval0
  have hW' := hW
  obtain ⟨p, q, hA0, hV, rfl, hfz, hnd⟩ := hW
  have hA : DataW.TrodAll enc Try.prog W 0 (fun _ => true) true Try.f5.params.toList args.toList ds p := hA0
  rw [Try.params5] at hA hval
  obtain ⟨v0, vs0, d0, ds0, p0, q0, hargs, rfl, rfl, h0, r0⟩ := trodAll_cons hA
  obtain ⟨v1, vs1, d1, ds1, p1, q1, rfl, rfl, rfl, h1, r1⟩ := trodAll_cons r0
  obtain ⟨rfl, rfl, rfl⟩ := trodAll_nil r1
  obtain rfl : args = #[v0, v1] := by cases args; simp_all
  obtain ⟨rfl, rfl⟩ := trodVars_none hV
  have k0 := h0
  have lt0 : ∀ x ∈ p0, x.block < W.heap.size := by obtain ⟨m, hm⟩ := k0; exact DataW.trod_lt m _ _ _ hm
  obtain ⟨a0, ok0, s0⟩ := Ax.arg_slice Try.underlying45 Ax.sh_paCL (hval 0 45 v0 rfl rfl) h0
  have k1 := h1
  have lt1 : ∀ x ∈ p1, x.block < W.heap.size := by obtain ⟨m, hm⟩ := k1; exact DataW.trod_lt m _ _ _ hm
  obtain ⟨a1, ok1, s1⟩ := Ax.arg_int Try.underlying3 (hval 1 3 v1 rfl rfl) h1
  clear hA0 hval0
  refine (Ax.law_walk (w := W) (Ax.dom_any W) (Ax.gtells_c a0 a1 ok0) (by simp) (.cons s0 (.cons s1 .nil))).mono fun e W' ⟨he, bel⟩ => ?_
  subst he
  exact ⟨_, rfl, _, _, _, [], _, [], hW', trodAll_mk1 (shut_bool Try.underlying4 _), (trodAll_cons_mk (Below.trod laidOut (by kernel_rfl) (of_decide_eq_true (by kernel_rfl)) k0 bel lt0) (trodAll_cons_mk (Below.trod laidOut (by kernel_rfl) (of_decide_eq_true (by kernel_rfl)) k1 bel lt1) trodAll_mk0)), rfl, bel.frame _, fun h => by cases h⟩

theorem over : Rows.greetTellsRow.holds Try.pinned (OpenSpec.ofChange Rows.greetTellsSpec) :=
  OpenClaim.holds_of_wide 5 Try.f5 rfl rfl rfl rfl rfl rfl rfl ⟨rfl, rfl, rfl, rfl, rfl⟩ rfl rfl rfl rfl rfl (by kernel_rfl) Try.func5 (by kernel_rfl)
    (of_decide_eq_true (by kernel_rfl)) (by unfold Func.isWrapper; first | (rw [if_pos (by decide +kernel)]; kernel_rfl) | (rw [if_neg (by decide +kernel)]; exact ⟨rfl, rfl⟩))
    (fun os started H enc _ => lifted os started H enc)

theorem proved : Rows.GreetTellsSaid := over
#print axioms proved
end Go.Proofs.Ytebggfghemblbaa.greetTells
