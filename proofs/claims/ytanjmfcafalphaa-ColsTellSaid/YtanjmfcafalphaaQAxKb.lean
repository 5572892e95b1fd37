/- Rows by number, over values without memory; what a row is described by, and its tag. -/
import Derived.Test.YtanjmfcafalphaaQAxXr
import Derived.Test.YtanjmfcafalphaaRows
import Derived.Test.YtanjmfcafalphaaQAxDg
import Derived.Test.YtanjmfcafalphaaQAxTz
/- The texts of functions over values without memory, as the kernel reckons them out of the program. -/
namespace Go.Proofs.Ytanjmfcafalphaa.Ax
open Go.RowKit Go By

def c12 : XFun := ⟨5, (.seq (.ops [⟨(some 2), (.assign (.const (.slice none 0 0))), none⟩]) (.seq (.ops [⟨(some 3), (.move (.tmp 0)), none⟩, ⟨(some 4), (.call 22 [(.tmp 3), (.func 23)]), none⟩, ⟨(some 2), (.assign (.tmp 4)), none⟩]) .ret)), [(.move (.tmp 2))]⟩
theorem k12 : cfun Try.prog 12 = some c12 := by kernel_rfl
def c11 : XFun := ⟨6, (.seq (.ops [⟨(some 2), (.alloc [(.v (.int .u8 0)), (.v (.int .u8 0)), (.v (.string (strB []))), (.v (.string (strB []))), (.v (.string (strB []))), (.v (.int .i64 0)), (.v (.int .i64 0)), (.sl 0 [] (some true) .exact), (.sl 0 [] (some true) .exact), (.sl 0 [] (some true) .exact), (.sl 0 [] (some true) .exact)]), none⟩]) (.seq (.ops [⟨(some 3), (.move (.tmp 0)), none⟩, ⟨(some 4), (.call 12 [(.tmp 3)]), none⟩, ⟨(some 5), (.build [(.v (.int .u8 0)), (.v (.int .u8 0)), (.v (.string (strB []))), (.v (.string (strB []))), (.v (.string (strB []))), (.v (.int .i64 0)), (.v (.int .i64 0)), (.sl 0 [] (some true) .exact), (.sl 0 [] (some true) .exact), (.sl 0 [] (some true) .exact), (.sl 0 [] (some true) .exact)] [(0, (1, (.const (.int .u8 84)))), (8, (1, (.tmp 4)))]), none⟩, ⟨none, (.store 11 (.tmp 2) (.tmp 5)), none⟩]) .ret)), [(.loadN 11 (.tmp 2))]⟩
theorem k11 : cfun Try.prog 11 = some c11 := by kernel_rfl
def c6 : XFun := ⟨5, (.seq (.ops [⟨(some 2), (.assign (.const (.slice none 0 0))), none⟩]) (.seq (.ops [⟨(some 3), (.move (.tmp 0)), none⟩, ⟨(some 4), (.call 18 [(.tmp 3), (.func 19)]), none⟩, ⟨(some 2), (.assign (.tmp 4)), none⟩]) .ret)), [(.move (.tmp 2))]⟩
theorem k6 : cfun Try.prog 6 = some c6 := by kernel_rfl
def c13 : XFun := ⟨6, (.seq (.ops [⟨(some 2), (.alloc [(.v (.int .u8 0)), (.v (.int .u8 0)), (.v (.string (strB []))), (.v (.string (strB []))), (.v (.string (strB []))), (.v (.int .i64 0)), (.v (.int .i64 0)), (.sl 0 [] (some true) .exact), (.sl 0 [] (some true) .exact), (.sl 0 [] (some true) .exact), (.sl 0 [] (some true) .exact)]), none⟩]) (.seq (.ops [⟨(some 3), (.move (.tmp 0)), none⟩, ⟨(some 4), (.call 24 [(.tmp 3)]), none⟩, ⟨(some 5), (.build [(.v (.int .u8 0)), (.v (.int .u8 0)), (.v (.string (strB []))), (.v (.string (strB []))), (.v (.string (strB []))), (.v (.int .i64 0)), (.v (.int .i64 0)), (.sl 0 [] (some true) .exact), (.sl 0 [] (some true) .exact), (.sl 0 [] (some true) .exact), (.sl 0 [] (some true) .exact)] [(0, (1, (.const (.int .u8 68)))), (9, (1, (.tmp 4)))]), none⟩, ⟨none, (.store 11 (.tmp 2) (.tmp 5)), none⟩]) .ret)), [(.loadN 11 (.tmp 2))]⟩
theorem k13 : cfun Try.prog 13 = some c13 := by kernel_rfl
def c14 : XFun := ⟨6, (.seq (.ops [⟨(some 2), (.assign (.const (.string (strB [])))), none⟩]) (.seq (.ops [⟨(some 3), (.move (.tmp 0)), none⟩, ⟨(some 4), (.call 25 [(.tmp 3)]), none⟩, ⟨(some 5), (.bin .add (.const (.string (strB [83, 69, 76, 69, 67, 84, 32]))) (.tmp 4)), none⟩, ⟨(some 2), (.assign (.tmp 5)), none⟩]) .ret)), [(.move (.tmp 2))]⟩
theorem k14 : cfun Try.prog 14 = some c14 := by kernel_rfl
def c22 : XFun := ⟨22, (.seq (.ops [⟨(some 4), (.assign (.const (.slice none 0 0))), none⟩]) (.seq (.ops [⟨(some 5), (.assign (.const (.slice none 0 0))), none⟩]) (.seq (.seq (.ops [⟨(some 7), (.move (.tmp 0)), none⟩, ⟨(some 8), (.maxI [(.tmp 7), (.const (.int .i64 0))]), none⟩, ⟨(some 9), (.minI [(.tmp 8), (.const (.int .i64 1000))]), none⟩, ⟨(some 10), (.move (.const (.int .i64 0))), none⟩]) (.block 0 (.loop (.seq (.ops [⟨(some 11), (.bin .lss (.tmp 10) (.tmp 9)), none⟩]) (.seq (.cond (.tmp 11) .skip (.exit 0)) (.seq (.block 1 (.seq (.ops [⟨(some 12), (.move (.tmp 10)), none⟩, ⟨(some 6), (.assign (.tmp 12)), none⟩]) (.ops [⟨(some 13), (.move (.tmp 5)), none⟩, ⟨(some 14), (.move (.tmp 1)), none⟩, ⟨(some 15), (.move (.tmp 6)), none⟩, ⟨(some 16), (.bin .add (.tmp 15) (.const (.int .i64 1))), none⟩, ⟨(some 17), (.callv (.tmp 14) [(.tmp 16)]), none⟩, ⟨(some 18), (.buildSlice 7 1 [(.v (.string (strB []))), (.v (.int .i64 0)), (.v (.int .i64 0)), (.v (.int .i64 0)), (.v (.int .i64 0)), (.v (.int .i64 0)), (.v (.int .i64 0))] [(0, (.tmp 17))]), none⟩, ⟨(some 19), (.append 7 64 (.tmp 13) (.tmp 18)), none⟩, ⟨(some 5), (.assign (.tmp 19)), none⟩]))) (.ops [⟨(some 20), (.bin .add (.tmp 10) (.const (.int .i64 1))), none⟩, ⟨(some 10), (.move (.tmp 20)), none⟩]))))))) (.seq (.ops [⟨(some 21), (.move (.tmp 5)), none⟩, ⟨(some 4), (.assign (.tmp 21)), none⟩]) .ret)))), [(.move (.tmp 4))]⟩
theorem k22 : cfun Try.prog 22 = some c22 := by kernel_rfl
def c18 : XFun := ⟨22, (.seq (.ops [⟨(some 4), (.assign (.const (.slice none 0 0))), none⟩]) (.seq (.ops [⟨(some 5), (.assign (.const (.slice none 0 0))), none⟩]) (.seq (.seq (.ops [⟨(some 7), (.move (.tmp 0)), none⟩, ⟨(some 8), (.maxI [(.tmp 7), (.const (.int .i64 0))]), none⟩, ⟨(some 9), (.minI [(.tmp 8), (.const (.int .i64 1000))]), none⟩, ⟨(some 10), (.move (.const (.int .i64 0))), none⟩]) (.block 0 (.loop (.seq (.ops [⟨(some 11), (.bin .lss (.tmp 10) (.tmp 9)), none⟩]) (.seq (.cond (.tmp 11) .skip (.exit 0)) (.seq (.block 1 (.seq (.ops [⟨(some 12), (.move (.tmp 10)), none⟩, ⟨(some 6), (.assign (.tmp 12)), none⟩]) (.ops [⟨(some 13), (.move (.tmp 5)), none⟩, ⟨(some 14), (.move (.tmp 1)), none⟩, ⟨(some 15), (.move (.tmp 6)), none⟩, ⟨(some 16), (.bin .add (.tmp 15) (.const (.int .i64 1))), none⟩, ⟨(some 17), (.callv (.tmp 14) [(.tmp 16)]), none⟩, ⟨(some 18), (.buildSlice 1 1 [(.sl 0 [] (some true) .exact)] [(0, (.tmp 17))]), none⟩, ⟨(some 19), (.append 1 24 (.tmp 13) (.tmp 18)), none⟩, ⟨(some 5), (.assign (.tmp 19)), none⟩]))) (.ops [⟨(some 20), (.bin .add (.tmp 10) (.const (.int .i64 1))), none⟩, ⟨(some 10), (.move (.tmp 20)), none⟩]))))))) (.seq (.ops [⟨(some 21), (.move (.tmp 5)), none⟩, ⟨(some 4), (.assign (.tmp 21)), none⟩]) .ret)))), [(.move (.tmp 4))]⟩
theorem k18 : cfun Try.prog 18 = some c18 := by kernel_rfl
def c23 : XFun := ⟨7, (.seq (.ops [⟨(some 2), (.alloc [(.v (.string (strB []))), (.v (.int .i64 0)), (.v (.int .i64 0)), (.v (.int .i64 0)), (.v (.int .i64 0)), (.v (.int .i64 0)), (.v (.int .i64 0))]), none⟩]) (.seq (.ops [⟨(some 3), (.move (.tmp 0)), none⟩, ⟨(some 4), (.call 25 [(.tmp 3)]), none⟩, ⟨(some 5), (.bin .add (.const (.string (strB [99]))) (.tmp 4)), none⟩, ⟨(some 6), (.build [(.v (.string (strB []))), (.v (.int .i64 0)), (.v (.int .i64 0)), (.v (.int .i64 0)), (.v (.int .i64 0)), (.v (.int .i64 0)), (.v (.int .i64 0))] [(0, (1, (.tmp 5))), (3, (1, (.const (.int .i64 25)))), (4, (1, (.const (.int .i64 (-1))))), (5, (1, (.const (.int .i64 (-1)))))]), none⟩, ⟨none, (.store 7 (.tmp 2) (.tmp 6)), none⟩]) .ret)), [(.loadN 7 (.tmp 2))]⟩
theorem k23 : cfun Try.prog 23 = some c23 := by kernel_rfl
def c19 : XFun := ⟨8, (.seq (.ops [⟨(some 2), (.assign (.const (.slice none 0 0))), none⟩]) (.seq (.ops [⟨(some 3), (.move (.tmp 0)), none⟩, ⟨(some 4), (.call 25 [(.tmp 3)]), none⟩, ⟨(some 5), (.s2b (.tmp 4)), none⟩, ⟨(some 6), (.build [(.v (.bool false)), (.sl 0 [] (some true) .exact)] [(1, (1, (.tmp 5)))]), none⟩, ⟨(some 7), (.buildSlice 2 1 [(.v (.bool false)), (.sl 0 [] (some true) .exact)] [(0, (.tmp 6))]), none⟩, ⟨(some 2), (.assign (.tmp 7)), none⟩]) .ret)), [(.move (.tmp 2))]⟩
theorem k19 : cfun Try.prog 19 = some c19 := by kernel_rfl
def c34 : XFun := ⟨8, (.seq (.ops [⟨(some 2), (.assign (.const (.slice none 0 0))), none⟩]) (.seq (.seq (.ops [⟨(some 3), (.move (.tmp 0)), none⟩, ⟨(some 4), (.nileq false (.tmp 3)), none⟩]) (.cond (.tmp 4) (.seq (.ops [⟨(some 2), (.assign (.const (.slice none 0 0))), none⟩]) .ret) .skip)) (.seq (.ops [⟨(some 5), (.emptyS 2), none⟩, ⟨(some 6), (.move (.tmp 0)), none⟩, ⟨(some 7), (.append 2 32 (.tmp 5) (.tmp 6)), none⟩, ⟨(some 2), (.assign (.tmp 7)), none⟩]) .ret))), [(.move (.tmp 2))]⟩
theorem k34 : cfun Try.prog 34 = some c34 := by kernel_rfl
def c35 : XFun := ⟨8, (.seq (.ops [⟨(some 2), (.assign (.const (.slice none 0 0))), none⟩]) (.seq (.seq (.ops [⟨(some 3), (.move (.tmp 0)), none⟩, ⟨(some 4), (.nileq false (.tmp 3)), none⟩]) (.cond (.tmp 4) (.seq (.ops [⟨(some 2), (.assign (.const (.slice none 0 0))), none⟩]) .ret) .skip)) (.seq (.ops [⟨(some 5), (.emptyS 1), none⟩, ⟨(some 6), (.move (.tmp 0)), none⟩, ⟨(some 7), (.append 1 1 (.tmp 5) (.tmp 6)), none⟩, ⟨(some 2), (.assign (.tmp 7)), none⟩]) .ret))), [(.move (.tmp 2))]⟩
theorem k35 : cfun Try.prog 35 = some c35 := by kernel_rfl
def c20 : XFun := ⟨6, (.seq (.ops [⟨(some 2), (.assign (.const (.int .i64 0))), none⟩]) (.seq (.ops [⟨(some 3), (.move (.tmp 0)), none⟩, ⟨(some 4), (.maxI [(.tmp 3), (.const (.int .i64 0))]), none⟩, ⟨(some 5), (.minI [(.tmp 4), (.const (.int .i64 1000))]), none⟩, ⟨(some 2), (.assign (.tmp 5)), none⟩]) .ret)), [(.move (.tmp 2))]⟩
theorem k20 : cfun Try.prog 20 = some c20 := by kernel_rfl
def c9 : XFun := ⟨19, (.seq (.ops [⟨(some 2), (.assign (.const (.slice none 0 0))), none⟩]) (.seq (.ops [⟨(some 3), (.assign (.const (.slice none 0 0))), none⟩]) (.seq (.seq (.ops [⟨(some 4), (.assign (.const (.int .i64 1))), none⟩]) (.block 0 (.loop (.seq (.seq (.ops [⟨(some 5), (.move (.tmp 4)), none⟩, ⟨(some 6), (.move (.tmp 0)), none⟩, ⟨(some 7), (.call 20 [(.tmp 6)]), none⟩, ⟨(some 8), (.bin .leq (.tmp 5) (.tmp 7)), none⟩]) (.cond (.tmp 8) .skip (.exit 0))) (.seq (.block 1 (.ops [⟨(some 11), (.move (.tmp 3)), none⟩, ⟨(some 12), (.move (.tmp 4)), none⟩, ⟨(some 13), (.call 17 [(.tmp 12)]), none⟩, ⟨(some 14), (.bin .add (.const (.string (strB [99]))) (.tmp 13)), none⟩, ⟨(some 15), (.build [(.v (.string (strB []))), (.v (.int .i64 0)), (.v (.int .i64 0)), (.v (.int .i64 0)), (.v (.int .i64 0)), (.v (.int .i64 0)), (.v (.int .i64 0))] [(0, (1, (.tmp 14))), (3, (1, (.const (.int .i64 25)))), (4, (1, (.const (.int .i64 (-1))))), (5, (1, (.const (.int .i64 (-1)))))]), none⟩, ⟨(some 16), (.buildSlice 7 1 [(.v (.string (strB []))), (.v (.int .i64 0)), (.v (.int .i64 0)), (.v (.int .i64 0)), (.v (.int .i64 0)), (.v (.int .i64 0)), (.v (.int .i64 0))] [(0, (.tmp 15))]), none⟩, ⟨(some 17), (.append 7 64 (.tmp 11) (.tmp 16)), none⟩, ⟨(some 3), (.assign (.tmp 17)), none⟩])) (.ops [⟨(some 9), (.move (.tmp 4)), none⟩, ⟨(some 10), (.bin .add (.tmp 9) (.const (.int .i64 1))), none⟩, ⟨(some 4), (.assign (.tmp 10)), none⟩])))))) (.seq (.ops [⟨(some 18), (.move (.tmp 3)), none⟩, ⟨(some 2), (.assign (.tmp 18)), none⟩]) .ret)))), [(.move (.tmp 2))]⟩
theorem k9 : cfun Try.prog 9 = some c9 := by kernel_rfl
def c7 : XFun := ⟨20, (.seq (.ops [⟨(some 2), (.assign (.const (.slice none 0 0))), none⟩]) (.seq (.ops [⟨(some 3), (.assign (.const (.slice none 0 0))), none⟩]) (.seq (.seq (.ops [⟨(some 4), (.assign (.const (.int .i64 1))), none⟩]) (.block 0 (.loop (.seq (.seq (.ops [⟨(some 5), (.move (.tmp 4)), none⟩, ⟨(some 6), (.move (.tmp 0)), none⟩, ⟨(some 7), (.call 20 [(.tmp 6)]), none⟩, ⟨(some 8), (.bin .leq (.tmp 5) (.tmp 7)), none⟩]) (.cond (.tmp 8) .skip (.exit 0))) (.seq (.block 1 (.ops [⟨(some 11), (.move (.tmp 3)), none⟩, ⟨(some 12), (.move (.tmp 4)), none⟩, ⟨(some 13), (.call 17 [(.tmp 12)]), none⟩, ⟨(some 14), (.s2b (.tmp 13)), none⟩, ⟨(some 15), (.build [(.v (.bool false)), (.sl 0 [] (some true) .exact)] [(1, (1, (.tmp 14)))]), none⟩, ⟨(some 16), (.buildSlice 2 1 [(.v (.bool false)), (.sl 0 [] (some true) .exact)] [(0, (.tmp 15))]), none⟩, ⟨(some 17), (.buildSlice 1 1 [(.sl 0 [] (some true) .exact)] [(0, (.tmp 16))]), none⟩, ⟨(some 18), (.append 1 24 (.tmp 11) (.tmp 17)), none⟩, ⟨(some 3), (.assign (.tmp 18)), none⟩])) (.ops [⟨(some 9), (.move (.tmp 4)), none⟩, ⟨(some 10), (.bin .add (.tmp 9) (.const (.int .i64 1))), none⟩, ⟨(some 4), (.assign (.tmp 10)), none⟩])))))) (.seq (.ops [⟨(some 19), (.move (.tmp 3)), none⟩, ⟨(some 2), (.assign (.tmp 19)), none⟩]) .ret)))), [(.move (.tmp 2))]⟩
theorem k7 : cfun Try.prog 7 = some c7 := by kernel_rfl
def c15 : XFun := ⟨6, (.seq (.ops [⟨(some 2), (.assign (.const (.string (strB [])))), none⟩]) (.seq (.ops [⟨(some 3), (.move (.tmp 0)), none⟩, ⟨(some 4), (.call 17 [(.tmp 3)]), none⟩, ⟨(some 5), (.bin .add (.const (.string (strB [83, 69, 76, 69, 67, 84, 32]))) (.tmp 4)), none⟩, ⟨(some 2), (.assign (.tmp 5)), none⟩]) .ret)), [(.move (.tmp 2))]⟩
theorem k15 : cfun Try.prog 15 = some c15 := by kernel_rfl
def c5 : XFun := ⟨32, (.seq (.ops [⟨(some 0), (.assign (.const (.bool false))), none⟩]) (.seq (.ops [⟨(some 2), (.call 6 [(.const (.int .i64 2))]), none⟩, ⟨(some 1), (.assign (.tmp 2)), none⟩]) (.seq (.ops [⟨(some 3), (.move (.tmp 1)), none⟩, ⟨(some 4), (.lenL (.tmp 3)), none⟩, ⟨(some 5), (.bin .eql (.tmp 4) (.const (.int .i64 2))), none⟩, ⟨(some 6), (.move (.tmp 5)), none⟩, ⟨(some 7), (.move (.tmp 1)), (some (6, true))⟩, ⟨(some 8), (.iaddr 1 (.tmp 7) (.const (.int .i64 1))), (some (6, true))⟩, ⟨(some 9), (.load1 (.tmp 8)), (some (6, true))⟩, ⟨(some 10), (.lenL (.tmp 9)), (some (6, true))⟩, ⟨(some 11), (.bin .eql (.tmp 10) (.const (.int .i64 1))), (some (6, true))⟩, ⟨(some 12), (.pick (.tmp 6) (.tmp 11) (.const (.bool false))), none⟩, ⟨(some 13), (.move (.tmp 12)), none⟩, ⟨(some 14), (.move (.tmp 1)), (some (13, true))⟩, ⟨(some 15), (.iaddr 1 (.tmp 14) (.const (.int .i64 1))), (some (13, true))⟩, ⟨(some 16), (.load1 (.tmp 15)), (some (13, true))⟩, ⟨(some 17), (.iaddr 2 (.tmp 16) (.const (.int .i64 0))), (some (13, true))⟩, ⟨(some 18), (.faddr 1 (.tmp 17)), (some (13, true))⟩, ⟨(some 19), (.load1 (.tmp 18)), (some (13, true))⟩, ⟨(some 20), (.b2s (.tmp 19)), (some (13, true))⟩, ⟨(some 21), (.bin .eql (.tmp 20) (.const (.string (strB [50])))), (some (13, true))⟩, ⟨(some 22), (.pick (.tmp 13) (.tmp 21) (.const (.bool false))), none⟩, ⟨(some 23), (.move (.tmp 22)), none⟩, ⟨(some 24), (.call 14 [(.const (.int .i64 2))]), (some (23, true))⟩, ⟨(some 25), (.bin .eql (.tmp 24) (.const (.string (strB [83, 69, 76, 69, 67, 84, 32, 50])))), (some (23, true))⟩, ⟨(some 26), (.pick (.tmp 23) (.tmp 25) (.const (.bool false))), none⟩, ⟨(some 27), (.move (.tmp 26)), none⟩, ⟨(some 28), (.call 12 [(.const (.int .i64 3))]), (some (27, true))⟩, ⟨(some 29), (.lenL (.tmp 28)), (some (27, true))⟩, ⟨(some 30), (.bin .eql (.tmp 29) (.const (.int .i64 3))), (some (27, true))⟩, ⟨(some 31), (.pick (.tmp 27) (.tmp 30) (.const (.bool false))), none⟩, ⟨(some 0), (.assign (.tmp 31)), none⟩]) .ret))), [(.move (.tmp 0))]⟩
theorem k5 : cfun Try.prog 5 = some c5 := by kernel_rfl
def c3 : XFun := ⟨69, (.seq (.ops [⟨(some 4), (.assign (.const (.bool false))), none⟩]) (.seq (.seq (.ops [⟨(some 9), (.move (.tmp 1)), none⟩, ⟨(some 10), (.lenL (.tmp 9)), none⟩, ⟨(some 11), (.bin .gtr (.tmp 10) (.const (.int .i64 50))), none⟩]) (.cond (.tmp 11) (.seq (.ops [⟨(some 12), (.call 5 []), none⟩, ⟨(some 4), (.assign (.tmp 12)), none⟩]) .ret) .skip)) (.seq (.ops [⟨(some 13), (.move (.tmp 0)), none⟩, ⟨(some 14), (.call 6 [(.tmp 13)]), none⟩, ⟨(some 15), (.move (.tmp 0)), none⟩, ⟨(some 16), (.call 7 [(.tmp 15)]), none⟩, ⟨(some 5), (.assign (.tmp 14)), none⟩, ⟨(some 6), (.assign (.tmp 16)), none⟩]) (.seq (.seq (.ops [⟨(some 17), (.move (.tmp 5)), none⟩, ⟨(some 18), (.lenL (.tmp 17)), none⟩, ⟨(some 19), (.move (.tmp 6)), none⟩, ⟨(some 20), (.lenL (.tmp 19)), none⟩, ⟨(some 21), (.bin .neq (.tmp 18) (.tmp 20)), none⟩]) (.cond (.tmp 21) (.seq (.ops [⟨(some 4), (.assign (.const (.bool false))), none⟩]) .ret) .skip)) (.seq (.seq (.ops [⟨(some 22), (.move (.tmp 5)), none⟩, ⟨(some 23), (.lenL (.tmp 22)), none⟩, ⟨(some 24), (.move (.const (.int .i64 0))), none⟩]) (.block 0 (.loop (.seq (.ops [⟨(some 25), (.bin .lss (.tmp 24) (.tmp 23)), none⟩]) (.seq (.cond (.tmp 25) .skip (.exit 0)) (.seq (.block 1 (.seq (.ops [⟨(some 26), (.move (.tmp 24)), none⟩, ⟨(some 7), (.assign (.tmp 26)), none⟩]) (.seq (.draws (.take ⟨(some 27), (.move (.tmp 5)), none⟩ (.take ⟨(some 28), (.move (.tmp 7)), none⟩ (.take ⟨(some 29), (.iaddr 1 (.tmp 27) (.tmp 28)), none⟩ (.take ⟨(some 30), (.load1 (.tmp 29)), none⟩ (.take ⟨(some 31), (.move (.tmp 6)), none⟩ (.take ⟨(some 32), (.move (.tmp 7)), none⟩ (.take ⟨(some 33), (.iaddr 1 (.tmp 31) (.tmp 32)), none⟩ (.take ⟨(some 34), (.load1 (.tmp 33)), none⟩ (.only ⟨(some 35), (.call 8 [(.tmp 30), (.tmp 34)]), none⟩ (.take ⟨(some 36), (.un .not (.tmp 35)), none⟩ .done))))))))))) (.cond (.tmp 36) (.seq (.ops [⟨(some 4), (.assign (.const (.bool false))), none⟩]) .ret) .skip)))) (.ops [⟨(some 37), (.bin .add (.tmp 24) (.const (.int .i64 1))), none⟩, ⟨(some 24), (.move (.tmp 37)), none⟩]))))))) (.seq (.ops [⟨(some 38), (.move (.tmp 0)), none⟩, ⟨(some 39), (.call 9 [(.tmp 38)]), none⟩, ⟨(some 40), (.build [(.v (.int .u8 0)), (.v (.int .u8 0)), (.v (.string (strB []))), (.v (.string (strB []))), (.v (.string (strB []))), (.v (.int .i64 0)), (.v (.int .i64 0)), (.sl 0 [] (some true) .exact), (.sl 0 [] (some true) .exact), (.sl 0 [] (some true) .exact), (.sl 0 [] (some true) .exact)] [(0, (1, (.const (.int .u8 84)))), (8, (1, (.tmp 39)))]), none⟩, ⟨(some 8), (.alloc [(.v (.int .u8 0)), (.v (.int .u8 0)), (.v (.string (strB []))), (.v (.string (strB []))), (.v (.string (strB []))), (.v (.int .i64 0)), (.v (.int .i64 0)), (.sl 0 [] (some true) .exact), (.sl 0 [] (some true) .exact), (.sl 0 [] (some true) .exact), (.sl 0 [] (some true) .exact)]), none⟩, ⟨none, (.store 11 (.tmp 8) (.tmp 40)), none⟩]) (.seq (.draws (.take ⟨(some 41), (.move (.tmp 0)), none⟩ (.take ⟨(some 43), (.loadN 11 (.tmp 8)), none⟩ (.only ⟨(some 42), (.call 11 [(.tmp 41)]), none⟩ (.only ⟨(some 44), (.call 10 [(.tmp 42), (.tmp 43)]), none⟩ (.take ⟨(some 45), (.move (.tmp 44)), none⟩ (.take ⟨(some 46), (.move (.tmp 0)), (some (45, true))⟩ (.take ⟨(some 49), (.loadN 11 (.tmp 8)), (some (45, true))⟩ (.only ⟨(some 47), (.call 12 [(.tmp 46)]), (some (45, true))⟩ (.take ⟨(some 48), (.build [(.v (.int .u8 0)), (.v (.int .u8 0)), (.v (.string (strB []))), (.v (.string (strB []))), (.v (.string (strB []))), (.v (.int .i64 0)), (.v (.int .i64 0)), (.sl 0 [] (some true) .exact), (.sl 0 [] (some true) .exact), (.sl 0 [] (some true) .exact), (.sl 0 [] (some true) .exact)] [(0, (1, (.const (.int .u8 84)))), (8, (1, (.tmp 47)))]), (some (45, true))⟩ (.only ⟨(some 50), (.call 10 [(.tmp 48), (.tmp 49)]), (some (45, true))⟩ (.take ⟨(some 51), (.pick (.tmp 45) (.tmp 50) (.const (.bool false))), none⟩ (.take ⟨(some 52), (.move (.tmp 51)), none⟩ (.take ⟨(some 53), (.move (.tmp 1)), (some (52, true))⟩ (.take ⟨(some 55), (.move (.tmp 1)), (some (52, true))⟩ (.take ⟨(some 56), (.build [(.v (.int .u8 0)), (.v (.int .u8 0)), (.v (.string (strB []))), (.v (.string (strB []))), (.v (.string (strB []))), (.v (.int .i64 0)), (.v (.int .i64 0)), (.sl 0 [] (some true) .exact), (.sl 0 [] (some true) .exact), (.sl 0 [] (some true) .exact), (.sl 0 [] (some true) .exact)] [(0, (1, (.const (.int .u8 68)))), (9, (1, (.tmp 55)))]), (some (52, true))⟩ (.only ⟨(some 54), (.call 13 [(.tmp 53)]), (some (52, true))⟩ (.only ⟨(some 57), (.call 10 [(.tmp 54), (.tmp 56)]), (some (52, true))⟩ (.take ⟨(some 58), (.pick (.tmp 52) (.tmp 57) (.const (.bool false))), none⟩ (.take ⟨(some 59), (.move (.tmp 58)), none⟩ (.take ⟨(some 60), (.move (.tmp 0)), (some (59, true))⟩ (.take ⟨(some 62), (.move (.tmp 0)), (some (59, true))⟩ (.only ⟨(some 61), (.call 14 [(.tmp 60)]), (some (59, true))⟩ (.only ⟨(some 63), (.call 15 [(.tmp 62)]), (some (59, true))⟩ (.take ⟨(some 64), (.bin .eql (.tmp 61) (.tmp 63)), (some (59, true))⟩ (.take ⟨(some 65), (.pick (.tmp 59) (.tmp 64) (.const (.bool false))), none⟩ (.take ⟨(some 66), (.move (.tmp 65)), none⟩ (.only ⟨(some 67), (.call 5 []), (some (66, true))⟩ (.take ⟨(some 68), (.pick (.tmp 66) (.tmp 67) (.const (.bool false))), none⟩ (.take ⟨(some 4), (.assign (.tmp 68)), none⟩ .done)))))))))))))))))))))))))))))) .ret))))))), [(.move (.tmp 4))]⟩
theorem k3 : cfun Try.prog 3 = some c3 := by kernel_rfl
def c4 : XFun := ⟨57, (.seq (.ops [⟨(some 2), (.assign (.const (.bool false))), none⟩]) (.seq (.ops [⟨(some 6), (.move (.tmp 0)), none⟩, ⟨(some 7), (.conv .i64 (.tmp 6)), none⟩, ⟨(some 8), (.minI [(.tmp 7), (.const (.int .i64 1000))]), none⟩, ⟨(some 3), (.assign (.tmp 8)), none⟩]) (.seq (.seq (.ops [⟨(some 9), (.move (.tmp 3)), none⟩, ⟨(some 10), (.call 11 [(.tmp 9)]), none⟩, ⟨(some 11), (.call 16 [(.tmp 10)]), none⟩, ⟨(some 12), (.bin .neq (.tmp 11) (.const (.int .i64 0))), none⟩, ⟨(some 13), (.move (.tmp 12)), none⟩, ⟨(some 14), (.move (.tmp 3)), (some (13, false))⟩, ⟨(some 15), (.call 6 [(.tmp 14)]), (some (13, false))⟩, ⟨(some 16), (.lenL (.tmp 15)), (some (13, false))⟩, ⟨(some 17), (.move (.tmp 3)), (some (13, false))⟩, ⟨(some 18), (.bin .neq (.tmp 16) (.tmp 17)), (some (13, false))⟩, ⟨(some 19), (.pick (.tmp 13) (.const (.bool true)) (.tmp 18)), none⟩, ⟨(some 20), (.move (.tmp 19)), none⟩, ⟨(some 21), (.move (.tmp 3)), (some (20, false))⟩, ⟨(some 22), (.call 12 [(.tmp 21)]), (some (20, false))⟩, ⟨(some 23), (.lenL (.tmp 22)), (some (20, false))⟩, ⟨(some 24), (.move (.tmp 3)), (some (20, false))⟩, ⟨(some 25), (.bin .neq (.tmp 23) (.tmp 24)), (some (20, false))⟩, ⟨(some 26), (.pick (.tmp 20) (.const (.bool true)) (.tmp 25)), none⟩]) (.cond (.tmp 26) (.seq (.ops [⟨(some 2), (.assign (.const (.bool false))), none⟩]) .ret) .skip)) (.seq (.seq (.ops [⟨(some 27), (.move (.tmp 3)), none⟩, ⟨(some 28), (.call 6 [(.tmp 27)]), none⟩, ⟨(some 29), (.lenL (.tmp 28)), none⟩, ⟨(some 30), (.move (.const (.int .i64 0))), none⟩]) (.block 0 (.loop (.seq (.ops [⟨(some 31), (.bin .lss (.tmp 30) (.tmp 29)), none⟩]) (.seq (.cond (.tmp 31) .skip (.exit 0)) (.seq (.block 1 (.seq (.ops [⟨(some 32), (.move (.tmp 30)), none⟩, ⟨(some 33), (.iaddr 1 (.tmp 28) (.tmp 30)), none⟩, ⟨(some 34), (.load1 (.tmp 33)), none⟩, ⟨(some 4), (.assign (.tmp 32)), none⟩, ⟨(some 5), (.assign (.tmp 34)), none⟩]) (.seq (.draws (.take ⟨(some 35), (.move (.tmp 5)), none⟩ (.take ⟨(some 36), (.lenL (.tmp 35)), none⟩ (.take ⟨(some 37), (.bin .neq (.tmp 36) (.const (.int .i64 1))), none⟩ (.take ⟨(some 38), (.move (.tmp 37)), none⟩ (.take ⟨(some 39), (.move (.tmp 5)), (some (38, false))⟩ (.only ⟨(some 40), (.call 13 [(.tmp 39)]), (some (38, false))⟩ (.only ⟨(some 41), (.call 16 [(.tmp 40)]), (some (38, false))⟩ (.take ⟨(some 42), (.bin .neq (.tmp 41) (.const (.int .i64 0))), (some (38, false))⟩ (.take ⟨(some 43), (.pick (.tmp 38) (.const (.bool true)) (.tmp 42)), none⟩ (.take ⟨(some 44), (.move (.tmp 43)), none⟩ (.take ⟨(some 45), (.move (.tmp 5)), (some (44, false))⟩ (.take ⟨(some 46), (.iaddr 2 (.tmp 45) (.const (.int .i64 0))), (some (44, false))⟩ (.take ⟨(some 47), (.faddr 1 (.tmp 46)), (some (44, false))⟩ (.take ⟨(some 48), (.load1 (.tmp 47)), (some (44, false))⟩ (.take ⟨(some 49), (.b2s (.tmp 48)), (some (44, false))⟩ (.take ⟨(some 50), (.move (.tmp 4)), (some (44, false))⟩ (.take ⟨(some 51), (.bin .add (.tmp 50) (.const (.int .i64 1))), (some (44, false))⟩ (.only ⟨(some 52), (.call 17 [(.tmp 51)]), (some (44, false))⟩ (.take ⟨(some 53), (.bin .neq (.tmp 49) (.tmp 52)), (some (44, false))⟩ (.take ⟨(some 54), (.pick (.tmp 44) (.const (.bool true)) (.tmp 53)), none⟩ .done))))))))))))))))))))) (.cond (.tmp 54) (.seq (.ops [⟨(some 2), (.assign (.const (.bool false))), none⟩]) .ret) .skip)))) (.ops [⟨(some 55), (.bin .add (.tmp 30) (.const (.int .i64 1))), none⟩, ⟨(some 30), (.move (.tmp 55)), none⟩]))))))) (.seq (.ops [⟨(some 56), (.call 5 []), none⟩, ⟨(some 2), (.assign (.tmp 56)), none⟩]) .ret))))), [(.move (.tmp 2))]⟩
theorem k4 : cfun Try.prog 4 = some c4 := by kernel_rfl
end Go.Proofs.Ytanjmfcafalphaa.Ax
/- Columns by number, over values without memory. -/
namespace Go.Proofs.Ytanjmfcafalphaa.Ax
open Go.RowKit Go By Nm Sc Dg
set_option linter.unusedSimpArgs false
set_option linter.unusedVariables false
set_option maxRecDepth 10000

def heldI (n : Int) : Int := if n < 0 then 0 else if 1000 < n then 1000 else n
theorem heldI_eq (n : Int) : minZ (maxZ n [0]) [1000] = heldI n := by
  unfold minZ maxZ heldI
  simp only [List.foldl_cons, List.foldl_nil]
  repeat' split
  all_goals omega
theorem heldI_range (n : Int) : 0 ≤ heldI n ∧ heldI n ≤ 1000 := by unfold heldI; repeat' split
                                                                   all_goals omega
theorem kheld_c (n : Int) (h : List (List AV)) : Contract Try.prog 20 [.v (.int .i64 n)] h (.v (.int .i64 (heldI n))) h [] := by
  have e := heldI_eq n
  refine contract_of k20 mixed (by simp [c20]) fun hh hargs => ?_
  simp [c20, e, hh]
def colK (i : Int) : Co := ⟨99 :: Dg.textL i, 0, 0, 25, -1, -1, 0⟩
def colsK (k : Nat) : List Co := (List.range k).map fun (j : Nat) => colK ((j : Int) + 1)
theorem colsK_succ (j : Nat) : colsK (j + 1) = colsK j ++ [colK ((j : Int) + 1)] := by unfold colsK; rw [List.range_succ, List.map_append]; rfl
theorem colsK_len (j : Nat) : (colsK j).length = j := by unfold colsK; simp
theorem kcol_c (n : Int) (h1 : -9223372036854775808 ≤ n) (h2 : n ≤ 9223372036854775807) (h : List (List AV)) : Contract Try.prog 23 [.v (.int .i64 n)] h (.agg (coC (colK n))) h [] := by
  have hl := dtext_len n h1 h2
  refine contract_of k23 mixed (by simp [c23]) fun hh hargs => ?_
  simp [c23]
  refine xcall_self (by simp) (dtext_c n h1 h2 _) ?_
  simp [hh, colK, coC_mk]
  omega
theorem knum_c (n : Int) (h : List (List AV)) : Contract Try.prog 22 [.v (.int .i64 n), .fn (.func 23) [] []] h (.sl 7 (enc coC (colsK (heldI n).toNat)) none .no) h [] := by
  obtain ⟨hk0, hk1⟩ := heldI_range n
  have e := heldI_eq n
  obtain ⟨k, hk⟩ : ∃ k : Nat, heldI n = k := ⟨(heldI n).toNat, by omega⟩
  refine contract_of k22 mixed (by simp [c22]) fun hh hargs => ?_
  rw [hk, Int.toNat_natCast]
  rw [hk] at e
  simp [c22, e]
  refine xloop_ok (D := Nat) (fun j => ⟨[(1, .fn (.func 23) [] []), (9, .v (.int .i64 k)), (10, .v (.int .i64 j))], [(5, .sl 7 (enc coC (colsK j)) none (.own (.slot 5)))], h, []⟩) (fun j => j ≤ k) (fun j => k - j) 0 (by simp) ?_ ?_
  · simp [Leq, hh, colsK]
  · intro j hj
    by_cases hlt : j < k
    · have hw : IntKind.i64.wrap ((j : Int) + 1) = (j : Int) + 1 := wrap64 (by omega) (by omega)
      have hlen := colsK_len j
      simp [hlt, hw]
      refine xcall_self (by simp) (kcol_c _ (by omega) (by omega) _) ?_
      simp [hw, hlen]
      refine ⟨by omega, by omega, j + 1, by omega, by omega, ?_⟩
      simp [Leq, hh, colsK_succ]
    · have : j = k := by omega
      subst this
      simp [hh]
theorem kcols_c (n : Int) (h : List (List AV)) : Contract Try.prog 12 [.v (.int .i64 n)] h (.sl 7 (enc coC (colsK (heldI n).toNat)) none .no) h [] := by
  refine contract_of k12 mixed (by simp [c12]) fun hh hargs => ?_
  simp [c12]
  refine xcall_self (by simp) (knum_c n _) ?_
  simp [hh]
theorem rkcols_c (n : Int) (h : List (List AV)) : Contract Try.prog 9 [.v (.int .i64 n)] h (.sl 7 (enc coC (colsK (heldI n).toNat)) none .no) h [] := by
  obtain ⟨hk0, hk1⟩ := heldI_range n
  obtain ⟨k, hk⟩ : ∃ k : Nat, heldI n = k := ⟨(heldI n).toNat, by omega⟩
  refine contract_of k9 mixed (by simp [c9]) fun hh hargs => ?_
  rw [hk, Int.toNat_natCast]
  simp [c9]
  refine xloop_ok (D := Nat) (fun j => ⟨[(0, .v (.int .i64 n)), (4, .v (.int .i64 ((j : Int) + 1)))], [(3, .sl 7 (enc coC (colsK j)) none (.own (.slot 3)))], h, []⟩) (fun j => j ≤ k) (fun j => k - j) 0 (by simp) ?_ ?_
  · simp [Leq, hh, colsK]
  · intro j hj
    simp
    refine xcall_self (by simp) (kheld_c n _) ?_
    rw [hk]
    by_cases hlt : j < k
    · have hw : IntKind.i64.wrap ((j : Int) + 1 + 1) = ((j + 1 : Nat) : Int) + 1 := by rw [wrap64 (by omega) (by omega)]; omega
      have hlen := colsK_len j
      have hle : (j : Int) + 1 ≤ k := by omega
      have hl := dtext_len ((j : Int) + 1) (by omega) (by omega)
      simp [hle]
      refine xcall_self (by simp) (drtext_c _ (by omega) (by omega) _) ?_
      simp [hw, hlen]
      refine ⟨by omega, by omega, by omega, j + 1, by omega, by omega, ?_⟩
      simp [Leq, hh, colsK_succ, colK, coC_mk]
    · have hle : ¬ (j : Int) + 1 ≤ k := by omega
      have : j = k := by omega
      subst this
      simp [hle, hh]
end Go.Proofs.Ytanjmfcafalphaa.Ax
namespace Go.Proofs.Ytanjmfcafalphaa.Ax
open Go.RowKit Go By Nm Sc Dg
set_option linter.unusedSimpArgs false
set_option linter.unusedVariables false
set_option maxRecDepth 10000

def rowK (i : Int) : List Cl := [(false, Dg.textL i)]
def rowsK (k : Nat) : List (List Cl) := (List.range k).map fun (j : Nat) => rowK ((j : Int) + 1)
/-- A row, as an element. -/
def rowKC (r : List Cl) : List AV := [.sl 2 (enc cellC r) none .no]
theorem rowKC_mk (r : List Cl) : rowKC r = [.sl 2 (enc cellC r) none .no] := rfl
theorem rowsK_succ (j : Nat) : rowsK (j + 1) = rowsK j ++ [rowK ((j : Int) + 1)] := by unfold rowsK; rw [List.range_succ, List.map_append]; rfl
theorem rowsK_len (j : Nat) : (rowsK j).length = j := by unfold rowsK; simp
@[simp] theorem rowKC_lt (n : Nat) (r : List Cl) : ltL n (rowKC r) := ⟨ltLL_of fun e he => by
  unfold enc at he
  obtain ⟨x, _, rfl⟩ := List.mem_map.1 he
  exact ⟨trivial, ltLL_bytes n _, trivial⟩, trivial⟩
@[simp] theorem rowKC_ltLL (n : Nat) (l : List (List Cl)) : ltLL n (enc rowKC l) := ltLL_of fun e he => by
  unfold enc at he
  obtain ⟨x, _, rfl⟩ := List.mem_map.1 he
  exact rowKC_lt n x
theorem krow_c (n : Int) (h1 : -9223372036854775808 ≤ n) (h2 : n ≤ 9223372036854775807) (h : List (List AV)) : Contract Try.prog 19 [.v (.int .i64 n)] h (.sl 2 (enc cellC (rowK n)) none .no) h [] := by
  have hl := dtext_len n h1 h2
  refine contract_of k19 mixed (by simp [c19]) fun hh hargs => ?_
  simp [c19]
  refine xcall_self (by simp) (dtext_c n h1 h2 _) ?_
  simp [hh, rowK, cellC]
  omega
theorem ktag_c (n : Int) (h1 : -9223372036854775808 ≤ n) (h2 : n ≤ 9223372036854775807) (h : List (List AV)) : Contract Try.prog 14 [.v (.int .i64 n)] h (.v (.string (strB ([83, 69, 76, 69, 67, 84, 32] ++ Dg.textL n)))) h [] := by
  have hl := dtext_len n h1 h2
  refine contract_of k14 mixed (by simp [c14]) fun hh hargs => ?_
  simp [c14]
  refine xcall_self (by simp) (dtext_c n h1 h2 _) ?_
  simp [hh]
  omega
theorem rktag_c (n : Int) (h1 : -9223372036854775808 ≤ n) (h2 : n ≤ 9223372036854775807) (h : List (List AV)) : Contract Try.prog 15 [.v (.int .i64 n)] h (.v (.string (strB ([83, 69, 76, 69, 67, 84, 32] ++ Dg.textL n)))) h [] := by
  have hl := dtext_len n h1 h2
  refine contract_of k15 mixed (by simp [c15]) fun hh hargs => ?_
  simp [c15]
  refine xcall_self (by simp) (drtext_c n h1 h2 _) ?_
  simp [hh]
  omega
theorem kdesc_c (n : Int) (h : List (List AV)) : Contract Try.prog 11 [.v (.int .i64 n)] h (.agg (bkC ⟨84, 0, [], [], [], 0, 0, [], colsK (heldI n).toNat, [], []⟩)) h [] := by
  refine contract_of k11 mixed (by simp [c11]) fun hh hargs => ?_
  simp [c11]
  refine xcall_self (by simp) (kcols_c n _) ?_
  simp [hh, bkC_mk]
theorem knumR_c (n : Int) (h : List (List AV)) : Contract Try.prog 18 [.v (.int .i64 n), .fn (.func 19) [] []] h (.sl 1 (enc rowKC (rowsK (heldI n).toNat)) none .no) h [] := by
  obtain ⟨hk0, hk1⟩ := heldI_range n
  have e := heldI_eq n
  obtain ⟨k, hk⟩ : ∃ k : Nat, heldI n = k := ⟨(heldI n).toNat, by omega⟩
  refine contract_of k18 mixed (by simp [c18]) fun hh hargs => ?_
  rw [hk, Int.toNat_natCast]
  rw [hk] at e
  simp [c18, e]
  refine xloop_ok (D := Nat) (fun j => ⟨[(1, .fn (.func 19) [] []), (9, .v (.int .i64 k)), (10, .v (.int .i64 j))], [(5, .sl 1 (enc rowKC (rowsK j)) none (.own (.slot 5)))], h, []⟩) (fun j => j ≤ k) (fun j => k - j) 0 (by simp) ?_ ?_
  · simp [Leq, hh, rowsK]
  · intro j hj
    by_cases hlt : j < k
    · have hw : IntKind.i64.wrap ((j : Int) + 1) = (j : Int) + 1 := wrap64 (by omega) (by omega)
      have hlen := rowsK_len j
      simp [hlt, hw]
      refine xcall_self (by simp) (krow_c _ (by omega) (by omega) _) ?_
      simp [hw, hlen]
      refine ⟨by omega, by omega, j + 1, by omega, by omega, ?_⟩
      simp [Leq, hh, rowsK_succ, rowKC_mk]
    · have : j = k := by omega
      subst this
      simp [hh]
theorem krows_c (n : Int) (h : List (List AV)) : Contract Try.prog 6 [.v (.int .i64 n)] h (.sl 1 (enc rowKC (rowsK (heldI n).toNat)) none .no) h [] := by
  refine contract_of k6 mixed (by simp [c6]) fun hh hargs => ?_
  simp [c6]
  refine xcall_self (by simp) (knumR_c n _) ?_
  simp [hh]
theorem rkrows_c (n : Int) (h : List (List AV)) : Contract Try.prog 7 [.v (.int .i64 n)] h (.sl 1 (enc rowKC (rowsK (heldI n).toNat)) none .no) h [] := by
  obtain ⟨hk0, hk1⟩ := heldI_range n
  obtain ⟨k, hk⟩ : ∃ k : Nat, heldI n = k := ⟨(heldI n).toNat, by omega⟩
  refine contract_of k7 mixed (by simp [c7]) fun hh hargs => ?_
  rw [hk, Int.toNat_natCast]
  simp [c7]
  refine xloop_ok (D := Nat) (fun j => ⟨[(0, .v (.int .i64 n)), (4, .v (.int .i64 ((j : Int) + 1)))], [(3, .sl 1 (enc rowKC (rowsK j)) none (.own (.slot 3)))], h, []⟩) (fun j => j ≤ k) (fun j => k - j) 0 (by simp) ?_ ?_
  · simp [Leq, hh, rowsK]
  · intro j hj
    simp
    refine xcall_self (by simp) (kheld_c n _) ?_
    rw [hk]
    by_cases hlt : j < k
    · have hw : IntKind.i64.wrap ((j : Int) + 1 + 1) = ((j + 1 : Nat) : Int) + 1 := by rw [wrap64 (by omega) (by omega)]; omega
      have hlen := rowsK_len j
      have hle : (j : Int) + 1 ≤ k := by omega
      have hl := dtext_len ((j : Int) + 1) (by omega) (by omega)
      simp [hle]
      refine xcall_self (by simp) (drtext_c _ (by omega) (by omega) _) ?_
      simp [hw, hlen]
      refine ⟨by omega, by omega, by omega, j + 1, by omega, by omega, ?_⟩
      simp [Leq, hh, rowsK_succ, rowKC_mk, rowK, cellC]
    · have hle : ¬ (j : Int) + 1 ≤ k := by omega
      have : j = k := by omega
      subst this
      simp [hle, hh]
end Go.Proofs.Ytanjmfcafalphaa.Ax
