/- Layer 17's statement: nothing is there twice, and there are never more than may be. -/
import Derived.Test.YtabfaambilbpeaaQAxX
import Derived.Test.YtabfaambilbpeaaRows
import Derived.Test.YtabfaambilbpeaaQAxIn
import Derived.Test.YtabfaambilbpeaaQAxTz
import Derived.Test.YtabfaambilbpeaaQAxBa
import Derived.Test.YtabfaambilbpeaaQAxIb
import Derived.Test.YtabfaambilbpeaaQCodeA
/- The texts of functions over values without memory, as the kernel reckons them out of the program. -/
namespace Go.Proofs.Ytabfaambilbpeaa.Ax
open Go.RowKit Go By

def c10 : XFun := ⟨13, (.seq (.ops [⟨(some 2), (.assign (.const (.pointer none))), none⟩, ⟨(some 3), (.assign (.const (.int .i64 0))), none⟩]) (.seq (.seq (.ops [⟨(some 4), (.move (.tmp 0)), none⟩, ⟨(some 5), (.bin .lss (.tmp 4) (.const (.int .i64 1))), none⟩, ⟨(some 6), (.move (.tmp 5)), none⟩, ⟨(some 7), (.move (.tmp 0)), (some (6, false))⟩, ⟨(some 8), (.bin .gtr (.tmp 7) (.const (.int .i64 4096))), (some (6, false))⟩, ⟨(some 9), (.pick (.tmp 6) (.const (.bool true)) (.tmp 8)), none⟩]) (.cond (.tmp 9) (.seq (.ops [⟨(some 2), (.assign (.const (.pointer none))), none⟩, ⟨(some 3), (.assign (.const (.int .i64 1))), none⟩]) .ret) .skip)) (.seq (.ops [⟨(some 10), (.move (.tmp 0)), none⟩, ⟨(some 11), (.build [(.sl 0 [] (some true) .exact), (.v (.int .i64 0))] [(1, (1, (.tmp 10)))]), none⟩, ⟨(some 12), (.box (.tmp 11)), none⟩, ⟨(some 2), (.assign (.tmp 12)), none⟩, ⟨(some 3), (.assign (.const (.int .i64 0))), none⟩]) .ret))), [(.move (.tmp 2)), (.move (.tmp 3))]⟩
theorem k10 : cfun Try.prog 10 = some c10 := by kernel_rfl
def c12 : XFun := ⟨40, (.seq (.ops [⟨(some 4), (.assign (.const (.int .i64 0))), none⟩]) (.seq (.block 0 (.seq (.ops [⟨(some 6), (.move (.tmp 0)), none⟩, ⟨(some 7), (.pnileq false (.tmp 6)), none⟩, ⟨(some 8), (.move (.tmp 7)), none⟩, ⟨(some 9), (.move (.tmp 0)), (some (8, false))⟩, ⟨(some 10), (.nilCheck (.tmp 9)), (some (8, false))⟩, ⟨(some 11), (.faddr 1 (.tmp 10)), (some (8, false))⟩, ⟨(some 12), (.load1 (.tmp 11)), (some (8, false))⟩, ⟨(some 13), (.bin .eql (.tmp 12) (.const (.int .i64 0))), (some (8, false))⟩, ⟨(some 14), (.pick (.tmp 8) (.const (.bool true)) (.tmp 13)), none⟩, ⟨(some 5), (.assign (.tmp 14)), none⟩]) (.cond (.tmp 5) (.seq (.ops [⟨(some 4), (.assign (.const (.int .i64 2))), none⟩]) .ret) (.seq (.ops [⟨(some 16), (.move (.tmp 0)), none⟩, ⟨(some 17), (.move (.tmp 1)), none⟩, ⟨(some 18), (.call 22 [(.tmp 16), (.tmp 17)]), none⟩, ⟨(some 15), (.assign (.tmp 18)), none⟩]) (.cond (.tmp 15) (.seq (.ops [⟨(some 4), (.assign (.const (.int .i64 8))), none⟩]) .ret) (.seq (.draws (.take ⟨(some 20), (.move (.tmp 0)), none⟩ (.take ⟨(some 21), (.nilCheck (.tmp 20)), none⟩ (.take ⟨(some 22), (.faddr 0 (.tmp 21)), none⟩ (.take ⟨(some 23), (.load1 (.tmp 22)), none⟩ (.take ⟨(some 24), (.lenL (.tmp 23)), none⟩ (.take ⟨(some 25), (.move (.tmp 0)), none⟩ (.take ⟨(some 26), (.nilCheck (.tmp 25)), none⟩ (.take ⟨(some 27), (.faddr 1 (.tmp 26)), none⟩ (.take ⟨(some 28), (.load1 (.tmp 27)), none⟩ (.take ⟨(some 29), (.bin .geq (.tmp 24) (.tmp 28)), none⟩ (.take ⟨(some 19), (.assign (.tmp 29)), none⟩ .done)))))))))))) (.cond (.tmp 19) (.seq (.ops [⟨(some 4), (.assign (.const (.int .i64 6))), none⟩]) .ret) .skip))))))) (.seq (.ops [⟨(some 30), (.move (.tmp 0)), none⟩, ⟨(some 31), (.move (.tmp 0)), none⟩, ⟨(some 32), (.nilCheck (.tmp 31)), none⟩, ⟨(some 33), (.faddr 0 (.tmp 32)), none⟩, ⟨(some 34), (.load1 (.tmp 33)), none⟩, ⟨(some 35), (.move (.tmp 1)), none⟩, ⟨(some 36), (.buildSlice 1 1 [(.v (.int .i64 0))] [(0, (.tmp 35))]), none⟩, ⟨(some 37), (.append 1 8 (.tmp 34) (.tmp 36)), none⟩, ⟨(some 38), (.nilCheck (.tmp 30)), none⟩, ⟨(some 39), (.faddr 0 (.tmp 38)), none⟩, ⟨none, (.store 1 (.tmp 39) (.tmp 37)), none⟩]) (.seq (.ops [⟨(some 4), (.assign (.const (.int .i64 0))), none⟩]) .ret)))), [(.move (.tmp 4))]⟩
theorem k12 : cfun Try.prog 12 = some c12 := by kernel_rfl
def c14 : XFun := ⟨19, (.seq (.ops [⟨(some 4), (.assign (.const (.bool false))), none⟩]) (.seq (.seq (.ops [⟨(some 5), (.move (.tmp 0)), none⟩, ⟨(some 6), (.move (.tmp 1)), none⟩, ⟨(some 7), (.call 16 [(.tmp 5), (.tmp 6)]), none⟩, ⟨(some 8), (.un .not (.tmp 7)), none⟩]) (.cond (.tmp 8) (.seq (.ops [⟨(some 4), (.assign (.const (.bool false))), none⟩]) .ret) .skip)) (.seq (.ops [⟨(some 9), (.move (.tmp 0)), none⟩, ⟨(some 10), (.move (.tmp 0)), none⟩, ⟨(some 11), (.nilCheck (.tmp 10)), none⟩, ⟨(some 12), (.faddr 0 (.tmp 11)), none⟩, ⟨(some 13), (.load1 (.tmp 12)), none⟩, ⟨(some 14), (.move (.tmp 1)), none⟩, ⟨(some 15), (.buildSlice 1 1 [(.v (.int .i64 0))] [(0, (.tmp 14))]), none⟩, ⟨(some 16), (.append 1 8 (.tmp 13) (.tmp 15)), none⟩, ⟨(some 17), (.nilCheck (.tmp 9)), none⟩, ⟨(some 18), (.faddr 0 (.tmp 17)), none⟩, ⟨none, (.store 1 (.tmp 18) (.tmp 16)), none⟩]) (.seq (.ops [⟨(some 4), (.assign (.const (.bool true))), none⟩]) .ret)))), [(.move (.tmp 4))]⟩
theorem k14 : cfun Try.prog 14 = some c14 := by kernel_rfl
def c16 : XFun := ⟨22, (.seq (.ops [⟨(some 4), (.assign (.const (.bool false))), none⟩]) (.seq (.ops [⟨(some 6), (.move (.tmp 0)), none⟩, ⟨(some 7), (.move (.tmp 1)), none⟩, ⟨(some 8), (.call 41 [(.tmp 6), (.tmp 7)]), none⟩, ⟨(some 5), (.assign (.tmp 8)), none⟩]) (.seq (.seq (.ops [⟨(some 9), (.move (.tmp 5)), none⟩, ⟨(some 10), (.bin .lss (.tmp 9) (.const (.int .i64 0))), none⟩]) (.cond (.tmp 10) (.seq (.ops [⟨(some 4), (.assign (.const (.bool false))), none⟩]) .ret) .skip)) (.seq (.ops [⟨(some 11), (.move (.tmp 0)), none⟩, ⟨(some 12), (.move (.tmp 0)), none⟩, ⟨(some 13), (.nilCheck (.tmp 12)), none⟩, ⟨(some 14), (.faddr 0 (.tmp 13)), none⟩, ⟨(some 15), (.load1 (.tmp 14)), none⟩, ⟨(some 16), (.move (.tmp 5)), none⟩, ⟨(some 17), (.move (.tmp 5)), none⟩, ⟨(some 18), (.bin .add (.tmp 17) (.const (.int .i64 1))), none⟩, ⟨(some 19), (.call 42 [(.tmp 15), (.tmp 16), (.tmp 18)]), none⟩, ⟨(some 20), (.nilCheck (.tmp 11)), none⟩, ⟨(some 21), (.faddr 0 (.tmp 20)), none⟩, ⟨none, (.store 1 (.tmp 21) (.tmp 19)), none⟩]) (.seq (.ops [⟨(some 4), (.assign (.const (.bool true))), none⟩]) .ret))))), [(.move (.tmp 4))]⟩
theorem k16 : cfun Try.prog 16 = some c16 := by kernel_rfl
def c18 : XFun := ⟨13, (.seq (.ops [⟨(some 2), (.assign (.const (.int .i64 0))), none⟩, ⟨(some 3), (.assign (.const (.bool false))), none⟩]) (.seq (.seq (.ops [⟨(some 4), (.move (.tmp 0)), none⟩, ⟨(some 5), (.call 21 [(.tmp 4)]), none⟩, ⟨(some 6), (.bin .eql (.tmp 5) (.const (.int .i64 0))), none⟩]) (.cond (.tmp 6) (.seq (.ops [⟨(some 2), (.assign (.const (.int .i64 0))), none⟩, ⟨(some 3), (.assign (.const (.bool false))), none⟩]) .ret) .skip)) (.seq (.ops [⟨(some 7), (.move (.tmp 0)), none⟩, ⟨(some 8), (.nilCheck (.tmp 7)), none⟩, ⟨(some 9), (.faddr 0 (.tmp 8)), none⟩, ⟨(some 10), (.load1 (.tmp 9)), none⟩, ⟨(some 11), (.iaddr 1 (.tmp 10) (.const (.int .i64 0))), none⟩, ⟨(some 12), (.load1 (.tmp 11)), none⟩, ⟨(some 2), (.assign (.tmp 12)), none⟩, ⟨(some 3), (.assign (.const (.bool true))), none⟩]) .ret))), [(.move (.tmp 2)), (.move (.tmp 3))]⟩
theorem k18 : cfun Try.prog 18 = some c18 := by kernel_rfl
def c20 : XFun := ⟨10, (.seq (.ops [⟨(some 2), (.assign (.const (.slice none 0 0))), none⟩]) (.seq (.seq (.ops [⟨(some 3), (.move (.tmp 0)), none⟩, ⟨(some 4), (.pnileq false (.tmp 3)), none⟩]) (.cond (.tmp 4) (.seq (.ops [⟨(some 2), (.assign (.const (.slice none 0 0))), none⟩]) .ret) .skip)) (.seq (.ops [⟨(some 5), (.move (.tmp 0)), none⟩, ⟨(some 6), (.nilCheck (.tmp 5)), none⟩, ⟨(some 7), (.faddr 0 (.tmp 6)), none⟩, ⟨(some 8), (.load1 (.tmp 7)), none⟩, ⟨(some 9), (.call 43 [(.tmp 8)]), none⟩, ⟨(some 2), (.assign (.tmp 9)), none⟩]) .ret))), [(.move (.tmp 2))]⟩
theorem k20 : cfun Try.prog 20 = some c20 := by kernel_rfl
def c21 : XFun := ⟨10, (.seq (.ops [⟨(some 2), (.assign (.const (.int .i64 0))), none⟩]) (.seq (.seq (.ops [⟨(some 3), (.move (.tmp 0)), none⟩, ⟨(some 4), (.pnileq false (.tmp 3)), none⟩]) (.cond (.tmp 4) (.seq (.ops [⟨(some 2), (.assign (.const (.int .i64 0))), none⟩]) .ret) .skip)) (.seq (.ops [⟨(some 5), (.move (.tmp 0)), none⟩, ⟨(some 6), (.nilCheck (.tmp 5)), none⟩, ⟨(some 7), (.faddr 0 (.tmp 6)), none⟩, ⟨(some 8), (.load1 (.tmp 7)), none⟩, ⟨(some 9), (.lenL (.tmp 8)), none⟩, ⟨(some 2), (.assign (.tmp 9)), none⟩]) .ret))), [(.move (.tmp 2))]⟩
theorem k21 : cfun Try.prog 21 = some c21 := by kernel_rfl
def c22 : XFun := ⟨9, (.seq (.ops [⟨(some 4), (.assign (.const (.bool false))), none⟩]) (.seq (.ops [⟨(some 5), (.move (.tmp 0)), none⟩, ⟨(some 6), (.move (.tmp 1)), none⟩, ⟨(some 7), (.call 41 [(.tmp 5), (.tmp 6)]), none⟩, ⟨(some 8), (.bin .geq (.tmp 7) (.const (.int .i64 0))), none⟩, ⟨(some 4), (.assign (.tmp 8)), none⟩]) .ret)), [(.move (.tmp 4))]⟩
theorem k22 : cfun Try.prog 22 = some c22 := by kernel_rfl
def c41 : XFun := ⟨13, (.seq (.ops [⟨(some 4), (.assign (.const (.int .i64 0))), none⟩]) (.seq (.seq (.ops [⟨(some 5), (.move (.tmp 0)), none⟩, ⟨(some 6), (.pnileq false (.tmp 5)), none⟩]) (.cond (.tmp 6) (.seq (.ops [⟨(some 4), (.assign (.const (.int .i64 (-1)))), none⟩]) .ret) .skip)) (.seq (.ops [⟨(some 7), (.move (.tmp 0)), none⟩, ⟨(some 8), (.nilCheck (.tmp 7)), none⟩, ⟨(some 9), (.faddr 0 (.tmp 8)), none⟩, ⟨(some 10), (.load1 (.tmp 9)), none⟩, ⟨(some 11), (.move (.tmp 1)), none⟩, ⟨(some 12), (.call 53 [(.tmp 10), (.tmp 11)]), none⟩, ⟨(some 4), (.assign (.tmp 12)), none⟩]) .ret))), [(.move (.tmp 4))]⟩
theorem k41 : cfun Try.prog 41 = some c41 := by kernel_rfl
def c11 : XFun := ⟨13, (.seq (.ops [⟨(some 2), (.assign (.const (.pointer none))), none⟩, ⟨(some 3), (.assign (.const (.int .i64 0))), none⟩]) (.seq (.seq (.ops [⟨(some 4), (.move (.tmp 0)), none⟩, ⟨(some 5), (.bin .lss (.tmp 4) (.const (.int .i64 1))), none⟩, ⟨(some 6), (.move (.tmp 5)), none⟩, ⟨(some 7), (.move (.tmp 0)), (some (6, false))⟩, ⟨(some 8), (.bin .gtr (.tmp 7) (.const (.int .i64 4096))), (some (6, false))⟩, ⟨(some 9), (.pick (.tmp 6) (.const (.bool true)) (.tmp 8)), none⟩]) (.cond (.tmp 9) (.seq (.ops [⟨(some 2), (.assign (.const (.pointer none))), none⟩, ⟨(some 3), (.assign (.const (.int .i64 1))), none⟩]) .ret) .skip)) (.seq (.ops [⟨(some 10), (.move (.tmp 0)), none⟩, ⟨(some 11), (.build [(.sl 0 [] (some true) .exact), (.v (.int .i64 0))] [(1, (1, (.tmp 10)))]), none⟩, ⟨(some 12), (.box (.tmp 11)), none⟩, ⟨(some 2), (.assign (.tmp 12)), none⟩, ⟨(some 3), (.assign (.const (.int .i64 0))), none⟩]) .ret))), [(.move (.tmp 2)), (.move (.tmp 3))]⟩
theorem k11 : cfun Try.prog 11 = some c11 := by kernel_rfl
def c13 : XFun := ⟨28, (.seq (.ops [⟨(some 4), (.assign (.const (.int .i64 0))), none⟩]) (.seq (.seq (.ops [⟨(some 5), (.move (.tmp 0)), none⟩, ⟨(some 6), (.move (.tmp 1)), none⟩, ⟨(some 7), (.call 23 [(.tmp 5), (.tmp 6)]), none⟩]) (.cond (.tmp 7) (.seq (.ops [⟨(some 4), (.assign (.const (.int .i64 8))), none⟩]) .ret) .skip)) (.seq (.seq (.draws (.take ⟨(some 8), (.move (.tmp 0)), none⟩ (.take ⟨(some 9), (.nilCheck (.tmp 8)), none⟩ (.take ⟨(some 10), (.faddr 0 (.tmp 9)), none⟩ (.take ⟨(some 11), (.load1 (.tmp 10)), none⟩ (.take ⟨(some 12), (.lenL (.tmp 11)), none⟩ (.take ⟨(some 13), (.move (.tmp 0)), none⟩ (.take ⟨(some 14), (.nilCheck (.tmp 13)), none⟩ (.take ⟨(some 15), (.faddr 1 (.tmp 14)), none⟩ (.take ⟨(some 16), (.load1 (.tmp 15)), none⟩ (.take ⟨(some 17), (.bin .geq (.tmp 12) (.tmp 16)), none⟩ .done))))))))))) (.cond (.tmp 17) (.seq (.ops [⟨(some 4), (.assign (.const (.int .i64 6))), none⟩]) .ret) .skip)) (.seq (.ops [⟨(some 18), (.move (.tmp 0)), none⟩, ⟨(some 19), (.move (.tmp 0)), none⟩, ⟨(some 20), (.nilCheck (.tmp 19)), none⟩, ⟨(some 21), (.faddr 0 (.tmp 20)), none⟩, ⟨(some 22), (.load1 (.tmp 21)), none⟩, ⟨(some 23), (.move (.tmp 1)), none⟩, ⟨(some 24), (.buildSlice 1 1 [(.v (.int .i64 0))] [(0, (.tmp 23))]), none⟩, ⟨(some 25), (.append 1 8 (.tmp 22) (.tmp 24)), none⟩, ⟨(some 26), (.nilCheck (.tmp 18)), none⟩, ⟨(some 27), (.faddr 0 (.tmp 26)), none⟩, ⟨none, (.store 1 (.tmp 27) (.tmp 25)), none⟩]) (.seq (.ops [⟨(some 4), (.assign (.const (.int .i64 0))), none⟩]) .ret))))), [(.move (.tmp 4))]⟩
theorem k13 : cfun Try.prog 13 = some c13 := by kernel_rfl
def c15 : XFun := ⟨19, (.seq (.ops [⟨(some 4), (.assign (.const (.bool false))), none⟩]) (.seq (.seq (.ops [⟨(some 5), (.move (.tmp 0)), none⟩, ⟨(some 6), (.move (.tmp 1)), none⟩, ⟨(some 7), (.call 17 [(.tmp 5), (.tmp 6)]), none⟩, ⟨(some 8), (.un .not (.tmp 7)), none⟩]) (.cond (.tmp 8) (.seq (.ops [⟨(some 4), (.assign (.const (.bool false))), none⟩]) .ret) .skip)) (.seq (.ops [⟨(some 9), (.move (.tmp 0)), none⟩, ⟨(some 10), (.move (.tmp 0)), none⟩, ⟨(some 11), (.nilCheck (.tmp 10)), none⟩, ⟨(some 12), (.faddr 0 (.tmp 11)), none⟩, ⟨(some 13), (.load1 (.tmp 12)), none⟩, ⟨(some 14), (.move (.tmp 1)), none⟩, ⟨(some 15), (.buildSlice 1 1 [(.v (.int .i64 0))] [(0, (.tmp 14))]), none⟩, ⟨(some 16), (.append 1 8 (.tmp 13) (.tmp 15)), none⟩, ⟨(some 17), (.nilCheck (.tmp 9)), none⟩, ⟨(some 18), (.faddr 0 (.tmp 17)), none⟩, ⟨none, (.store 1 (.tmp 18) (.tmp 16)), none⟩]) (.seq (.ops [⟨(some 4), (.assign (.const (.bool true))), none⟩]) .ret)))), [(.move (.tmp 4))]⟩
theorem k15 : cfun Try.prog 15 = some c15 := by kernel_rfl
def c17 : XFun := ⟨49, (.seq (.ops [⟨(some 4), (.assign (.const (.bool false))), none⟩]) (.seq (.ops [⟨(some 5), (.assign (.const (.slice none 0 0))), none⟩]) (.seq (.seq (.ops [⟨(some 6), (.assign (.const (.int .i64 0))), none⟩]) (.block 0 (.loop (.seq (.seq (.ops [⟨(some 8), (.move (.tmp 6)), none⟩, ⟨(some 9), (.move (.tmp 0)), none⟩, ⟨(some 10), (.nilCheck (.tmp 9)), none⟩, ⟨(some 11), (.faddr 0 (.tmp 10)), none⟩, ⟨(some 12), (.load1 (.tmp 11)), none⟩, ⟨(some 13), (.lenL (.tmp 12)), none⟩, ⟨(some 14), (.bin .lss (.tmp 8) (.tmp 13)), none⟩]) (.cond (.tmp 14) .skip (.exit 0))) (.seq (.block 1 (.seq (.ops [⟨(some 17), (.move (.tmp 0)), none⟩, ⟨(some 18), (.nilCheck (.tmp 17)), none⟩, ⟨(some 19), (.faddr 0 (.tmp 18)), none⟩, ⟨(some 20), (.load1 (.tmp 19)), none⟩, ⟨(some 21), (.move (.tmp 6)), none⟩, ⟨(some 22), (.iaddr 1 (.tmp 20) (.tmp 21)), none⟩, ⟨(some 23), (.load1 (.tmp 22)), none⟩, ⟨(some 24), (.move (.tmp 1)), none⟩, ⟨(some 25), (.bin .neq (.tmp 23) (.tmp 24)), none⟩]) (.cond (.tmp 25) (.ops [⟨(some 26), (.move (.tmp 5)), none⟩, ⟨(some 27), (.move (.tmp 0)), none⟩, ⟨(some 28), (.nilCheck (.tmp 27)), none⟩, ⟨(some 29), (.faddr 0 (.tmp 28)), none⟩, ⟨(some 30), (.load1 (.tmp 29)), none⟩, ⟨(some 31), (.move (.tmp 6)), none⟩, ⟨(some 32), (.iaddr 1 (.tmp 30) (.tmp 31)), none⟩, ⟨(some 33), (.load1 (.tmp 32)), none⟩, ⟨(some 34), (.buildSlice 1 1 [(.v (.int .i64 0))] [(0, (.tmp 33))]), none⟩, ⟨(some 35), (.append 1 8 (.tmp 26) (.tmp 34)), none⟩, ⟨(some 5), (.assign (.tmp 35)), none⟩]) .skip))) (.ops [⟨(some 15), (.move (.tmp 6)), none⟩, ⟨(some 16), (.bin .add (.tmp 15) (.const (.int .i64 1))), none⟩, ⟨(some 6), (.assign (.tmp 16)), none⟩])))))) (.seq (.ops [⟨(some 36), (.move (.tmp 5)), none⟩, ⟨(some 37), (.lenL (.tmp 36)), none⟩, ⟨(some 38), (.move (.tmp 0)), none⟩, ⟨(some 39), (.nilCheck (.tmp 38)), none⟩, ⟨(some 40), (.faddr 0 (.tmp 39)), none⟩, ⟨(some 41), (.load1 (.tmp 40)), none⟩, ⟨(some 42), (.lenL (.tmp 41)), none⟩, ⟨(some 43), (.bin .lss (.tmp 37) (.tmp 42)), none⟩, ⟨(some 7), (.assign (.tmp 43)), none⟩]) (.seq (.ops [⟨(some 44), (.move (.tmp 0)), none⟩, ⟨(some 45), (.move (.tmp 5)), none⟩, ⟨(some 46), (.nilCheck (.tmp 44)), none⟩, ⟨(some 47), (.faddr 0 (.tmp 46)), none⟩, ⟨none, (.store 1 (.tmp 47) (.tmp 45)), none⟩]) (.seq (.ops [⟨(some 48), (.move (.tmp 7)), none⟩, ⟨(some 4), (.assign (.tmp 48)), none⟩]) .ret)))))), [(.move (.tmp 4))]⟩
theorem k17 : cfun Try.prog 17 = some c17 := by kernel_rfl
def c23 : XFun := ⟨24, (.seq (.ops [⟨(some 4), (.assign (.const (.bool false))), none⟩]) (.seq (.seq (.ops [⟨(some 5), (.assign (.const (.int .i64 0))), none⟩]) (.block 0 (.loop (.seq (.seq (.ops [⟨(some 6), (.move (.tmp 5)), none⟩, ⟨(some 7), (.move (.tmp 0)), none⟩, ⟨(some 8), (.nilCheck (.tmp 7)), none⟩, ⟨(some 9), (.faddr 0 (.tmp 8)), none⟩, ⟨(some 10), (.load1 (.tmp 9)), none⟩, ⟨(some 11), (.lenL (.tmp 10)), none⟩, ⟨(some 12), (.bin .lss (.tmp 6) (.tmp 11)), none⟩]) (.cond (.tmp 12) .skip (.exit 0))) (.seq (.block 1 (.seq (.ops [⟨(some 15), (.move (.tmp 0)), none⟩, ⟨(some 16), (.nilCheck (.tmp 15)), none⟩, ⟨(some 17), (.faddr 0 (.tmp 16)), none⟩, ⟨(some 18), (.load1 (.tmp 17)), none⟩, ⟨(some 19), (.move (.tmp 5)), none⟩, ⟨(some 20), (.iaddr 1 (.tmp 18) (.tmp 19)), none⟩, ⟨(some 21), (.load1 (.tmp 20)), none⟩, ⟨(some 22), (.move (.tmp 1)), none⟩, ⟨(some 23), (.bin .eql (.tmp 21) (.tmp 22)), none⟩]) (.cond (.tmp 23) (.seq (.ops [⟨(some 4), (.assign (.const (.bool true))), none⟩]) .ret) .skip))) (.ops [⟨(some 13), (.move (.tmp 5)), none⟩, ⟨(some 14), (.bin .add (.tmp 13) (.const (.int .i64 1))), none⟩, ⟨(some 5), (.assign (.tmp 14)), none⟩])))))) (.seq (.ops [⟨(some 4), (.assign (.const (.bool false))), none⟩]) .ret))), [(.move (.tmp 4))]⟩
theorem k23 : cfun Try.prog 23 = some c23 := by kernel_rfl
def c24 : XFun := ⟨51, (.seq (.ops [⟨(some 0), (.assign (.const (.bool false))), none⟩]) (.seq (.ops [⟨(some 6), (.call 10 [(.const (.int .i64 2))]), none⟩, ⟨(some 5), (.move (.tmp 6)), none⟩, ⟨(some 7), (.extract (.tmp 5) 0), none⟩, ⟨(some 8), (.extract (.tmp 5) 1), none⟩, ⟨(some 1), (.assign (.tmp 7)), none⟩, ⟨(some 2), (.assign (.tmp 8)), none⟩]) (.seq (.seq (.ops [⟨(some 9), (.move (.tmp 1)), none⟩, ⟨(some 10), (.pnileq false (.tmp 9)), none⟩, ⟨(some 11), (.move (.tmp 10)), none⟩, ⟨(some 12), (.move (.tmp 2)), (some (11, false))⟩, ⟨(some 13), (.bin .neq (.tmp 12) (.const (.int .i64 0))), (some (11, false))⟩, ⟨(some 14), (.pick (.tmp 11) (.const (.bool true)) (.tmp 13)), none⟩, ⟨(some 15), (.move (.tmp 14)), none⟩, ⟨(some 16), (.move (.tmp 1)), (some (15, false))⟩, ⟨(some 17), (.call 12 [(.tmp 16), (.const (.int .i64 1))]), (some (15, false))⟩, ⟨(some 18), (.bin .neq (.tmp 17) (.const (.int .i64 0))), (some (15, false))⟩, ⟨(some 19), (.pick (.tmp 15) (.const (.bool true)) (.tmp 18)), none⟩, ⟨(some 20), (.move (.tmp 19)), none⟩, ⟨(some 21), (.move (.tmp 1)), (some (20, false))⟩, ⟨(some 22), (.call 12 [(.tmp 21), (.const (.int .i64 2))]), (some (20, false))⟩, ⟨(some 23), (.bin .neq (.tmp 22) (.const (.int .i64 0))), (some (20, false))⟩, ⟨(some 24), (.pick (.tmp 20) (.const (.bool true)) (.tmp 23)), none⟩, ⟨(some 25), (.move (.tmp 24)), none⟩, ⟨(some 26), (.move (.tmp 1)), (some (25, false))⟩, ⟨(some 27), (.call 14 [(.tmp 26), (.const (.int .i64 1))]), (some (25, false))⟩, ⟨(some 28), (.un .not (.tmp 27)), (some (25, false))⟩, ⟨(some 29), (.pick (.tmp 25) (.const (.bool true)) (.tmp 28)), none⟩, ⟨(some 30), (.move (.tmp 29)), none⟩, ⟨(some 31), (.move (.tmp 1)), (some (30, false))⟩, ⟨(some 32), (.call 12 [(.tmp 31), (.const (.int .i64 3))]), (some (30, false))⟩, ⟨(some 33), (.bin .neq (.tmp 32) (.const (.int .i64 6))), (some (30, false))⟩, ⟨(some 34), (.pick (.tmp 30) (.const (.bool true)) (.tmp 33)), none⟩]) (.cond (.tmp 34) (.seq (.ops [⟨(some 0), (.assign (.const (.bool false))), none⟩]) .ret) .skip)) (.seq (.ops [⟨(some 36), (.move (.tmp 1)), none⟩, ⟨(some 37), (.call 18 [(.tmp 36)]), none⟩, ⟨(some 35), (.move (.tmp 37)), none⟩, ⟨(some 38), (.extract (.tmp 35) 0), none⟩, ⟨(some 39), (.extract (.tmp 35) 1), none⟩, ⟨(some 3), (.assign (.tmp 38)), none⟩, ⟨(some 4), (.assign (.tmp 39)), none⟩]) (.seq (.ops [⟨(some 40), (.move (.tmp 4)), none⟩, ⟨(some 41), (.move (.tmp 40)), none⟩, ⟨(some 42), (.move (.tmp 3)), (some (41, true))⟩, ⟨(some 43), (.bin .eql (.tmp 42) (.const (.int .i64 2))), (some (41, true))⟩, ⟨(some 44), (.pick (.tmp 41) (.tmp 43) (.const (.bool false))), none⟩, ⟨(some 45), (.move (.tmp 44)), none⟩, ⟨(some 46), (.move (.tmp 1)), (some (45, true))⟩, ⟨(some 47), (.call 20 [(.tmp 46)]), (some (45, true))⟩, ⟨(some 48), (.buildSlice 1 2 [(.v (.int .i64 0))] [(0, (.const (.int .i64 2))), (1, (.const (.int .i64 1)))]), (some (45, true))⟩, ⟨(some 49), (.call 19 [(.tmp 47), (.tmp 48)]), (some (45, true))⟩, ⟨(some 50), (.pick (.tmp 45) (.tmp 49) (.const (.bool false))), none⟩, ⟨(some 0), (.assign (.tmp 50)), none⟩]) .ret))))), [(.move (.tmp 0))]⟩
theorem k24 : cfun Try.prog 24 = some c24 := by kernel_rfl
def c3 : XFun := ⟨152, (.seq (.ops [⟨(some 4), (.assign (.const (.bool false))), none⟩]) (.seq (.ops [⟨(some 15), (.move (.tmp 0)), none⟩, ⟨(some 16), (.call 10 [(.tmp 15)]), none⟩, ⟨(some 14), (.move (.tmp 16)), none⟩, ⟨(some 17), (.extract (.tmp 14) 0), none⟩, ⟨(some 18), (.extract (.tmp 14) 1), none⟩, ⟨(some 5), (.assign (.tmp 17)), none⟩, ⟨(some 6), (.assign (.tmp 18)), none⟩]) (.seq (.ops [⟨(some 20), (.move (.tmp 0)), none⟩, ⟨(some 21), (.call 11 [(.tmp 20)]), none⟩, ⟨(some 19), (.move (.tmp 21)), none⟩, ⟨(some 22), (.extract (.tmp 19) 0), none⟩, ⟨(some 23), (.extract (.tmp 19) 1), none⟩, ⟨(some 7), (.assign (.tmp 22)), none⟩, ⟨(some 8), (.assign (.tmp 23)), none⟩]) (.seq (.seq (.ops [⟨(some 24), (.move (.tmp 6)), none⟩, ⟨(some 25), (.move (.tmp 8)), none⟩, ⟨(some 26), (.bin .neq (.tmp 24) (.tmp 25)), none⟩, ⟨(some 27), (.move (.tmp 26)), none⟩, ⟨(some 28), (.move (.tmp 5)), (some (27, false))⟩, ⟨(some 29), (.pnileq false (.tmp 28)), (some (27, false))⟩, ⟨(some 30), (.move (.tmp 7)), (some (27, false))⟩, ⟨(some 31), (.pnileq false (.tmp 30)), (some (27, false))⟩, ⟨(some 32), (.beq true (.tmp 29) (.tmp 31)), (some (27, false))⟩, ⟨(some 33), (.pick (.tmp 27) (.const (.bool true)) (.tmp 32)), none⟩]) (.cond (.tmp 33) (.seq (.ops [⟨(some 4), (.assign (.const (.bool false))), none⟩]) .ret) .skip)) (.seq (.seq (.ops [⟨(some 34), (.move (.tmp 1)), none⟩, ⟨(some 35), (.lenL (.tmp 34)), none⟩, ⟨(some 36), (.move (.const (.int .i64 0))), none⟩]) (.block 0 (.loop (.seq (.ops [⟨(some 37), (.bin .lss (.tmp 36) (.tmp 35)), none⟩]) (.seq (.cond (.tmp 37) .skip (.exit 0)) (.seq (.block 1 (.seq (.ops [⟨(some 38), (.move (.tmp 36)), none⟩, ⟨(some 39), (.iaddr 2 (.tmp 34) (.tmp 36)), none⟩, ⟨(some 40), (.loadN 2 (.tmp 39)), none⟩, ⟨(some 10), (.alloc [(.v (.int .i64 0)), (.v (.int .i64 0))]), none⟩, ⟨(some 9), (.assign (.tmp 38)), none⟩, ⟨none, (.store 2 (.tmp 10) (.tmp 40)), none⟩]) (.seq (.seq (.ops [⟨(some 41), (.move (.tmp 9)), none⟩, ⟨(some 42), (.bin .geq (.tmp 41) (.const (.int .i64 100))), none⟩, ⟨(some 43), (.move (.tmp 42)), none⟩, ⟨(some 44), (.move (.tmp 7)), (some (43, false))⟩, ⟨(some 45), (.pnileq false (.tmp 44)), (some (43, false))⟩, ⟨(some 46), (.pick (.tmp 43) (.const (.bool true)) (.tmp 45)), none⟩]) (.cond (.tmp 46) (.exit 0) .skip)) (.seq (.ops [⟨(some 11), (.assign (.const (.bool true))), none⟩]) (.seq (.seq (.ops [⟨(some 47), (.faddr 0 (.tmp 10)), none⟩, ⟨(some 48), (.load1 (.tmp 47)), none⟩]) (.block 2 (.seq (.seq (.ops [⟨(some 59), (.bin .eql (.tmp 48) (.const (.int .i64 0))), none⟩, ⟨(some 58), (.assign (.tmp 59)), none⟩]) (.cond (.tmp 58) .skip (.ops [⟨(some 60), (.bin .eql (.tmp 48) (.const (.int .i64 1))), none⟩, ⟨(some 58), (.assign (.tmp 60)), none⟩]))) (.cond (.tmp 58) (.draws (.take ⟨(some 61), (.move (.tmp 5)), none⟩ (.take ⟨(some 62), (.faddr 1 (.tmp 10)), none⟩ (.take ⟨(some 63), (.load1 (.tmp 62)), none⟩ (.take ⟨(some 65), (.move (.tmp 7)), none⟩ (.take ⟨(some 66), (.faddr 1 (.tmp 10)), none⟩ (.take ⟨(some 67), (.load1 (.tmp 66)), none⟩ (.only ⟨(some 64), (.call 12 [(.tmp 61), (.tmp 63)]), none⟩ (.only ⟨(some 68), (.call 13 [(.tmp 65), (.tmp 67)]), none⟩ (.take ⟨(some 69), (.bin .eql (.tmp 64) (.tmp 68)), none⟩ (.take ⟨(some 11), (.assign (.tmp 69)), none⟩ .done))))))))))) (.seq (.ops [⟨(some 71), (.bin .eql (.tmp 48) (.const (.int .i64 2))), none⟩, ⟨(some 70), (.assign (.tmp 71)), none⟩]) (.cond (.tmp 70) (.draws (.take ⟨(some 72), (.move (.tmp 5)), none⟩ (.take ⟨(some 73), (.faddr 1 (.tmp 10)), none⟩ (.take ⟨(some 74), (.load1 (.tmp 73)), none⟩ (.take ⟨(some 76), (.move (.tmp 7)), none⟩ (.take ⟨(some 77), (.faddr 1 (.tmp 10)), none⟩ (.take ⟨(some 78), (.load1 (.tmp 77)), none⟩ (.only ⟨(some 75), (.call 14 [(.tmp 72), (.tmp 74)]), none⟩ (.only ⟨(some 79), (.call 15 [(.tmp 76), (.tmp 78)]), none⟩ (.take ⟨(some 80), (.beq false (.tmp 75) (.tmp 79)), none⟩ (.take ⟨(some 11), (.assign (.tmp 80)), none⟩ .done))))))))))) (.draws (.take ⟨(some 49), (.move (.tmp 5)), none⟩ (.take ⟨(some 50), (.faddr 1 (.tmp 10)), none⟩ (.take ⟨(some 51), (.load1 (.tmp 50)), none⟩ (.take ⟨(some 53), (.move (.tmp 7)), none⟩ (.take ⟨(some 54), (.faddr 1 (.tmp 10)), none⟩ (.take ⟨(some 55), (.load1 (.tmp 54)), none⟩ (.only ⟨(some 52), (.call 16 [(.tmp 49), (.tmp 51)]), none⟩ (.only ⟨(some 56), (.call 17 [(.tmp 53), (.tmp 55)]), none⟩ (.take ⟨(some 57), (.beq false (.tmp 52) (.tmp 56)), none⟩ (.take ⟨(some 11), (.assign (.tmp 57)), none⟩ .done))))))))))))))))) (.seq (.ops [⟨(some 82), (.move (.tmp 5)), none⟩, ⟨(some 83), (.call 18 [(.tmp 82)]), none⟩, ⟨(some 81), (.move (.tmp 83)), none⟩, ⟨(some 84), (.extract (.tmp 81) 0), none⟩, ⟨(some 85), (.extract (.tmp 81) 1), none⟩, ⟨(some 12), (.assign (.tmp 84)), none⟩, ⟨(some 13), (.assign (.tmp 85)), none⟩]) (.seq (.draws (.take ⟨(some 86), (.move (.tmp 11)), none⟩ (.take ⟨(some 87), (.un .not (.tmp 86)), none⟩ (.take ⟨(some 88), (.move (.tmp 87)), none⟩ (.take ⟨(some 89), (.move (.tmp 5)), (some (88, false))⟩ (.take ⟨(some 91), (.move (.tmp 7)), (some (88, false))⟩ (.take ⟨(some 92), (.nilCheck (.tmp 91)), (some (88, false))⟩ (.take ⟨(some 93), (.faddr 0 (.tmp 92)), (some (88, false))⟩ (.take ⟨(some 94), (.load1 (.tmp 93)), (some (88, false))⟩ (.only ⟨(some 90), (.call 20 [(.tmp 89)]), (some (88, false))⟩ (.only ⟨(some 95), (.call 19 [(.tmp 90), (.tmp 94)]), (some (88, false))⟩ (.take ⟨(some 96), (.un .not (.tmp 95)), (some (88, false))⟩ (.take ⟨(some 97), (.pick (.tmp 88) (.const (.bool true)) (.tmp 96)), none⟩ (.take ⟨(some 98), (.move (.tmp 97)), none⟩ (.take ⟨(some 99), (.move (.tmp 5)), (some (98, false))⟩ (.take ⟨(some 101), (.move (.tmp 7)), (some (98, false))⟩ (.take ⟨(some 102), (.nilCheck (.tmp 101)), (some (98, false))⟩ (.take ⟨(some 103), (.faddr 0 (.tmp 102)), (some (98, false))⟩ (.take ⟨(some 104), (.load1 (.tmp 103)), (some (98, false))⟩ (.take ⟨(some 105), (.lenL (.tmp 104)), (some (98, false))⟩ (.only ⟨(some 100), (.call 21 [(.tmp 99)]), (some (98, false))⟩ (.take ⟨(some 106), (.bin .neq (.tmp 100) (.tmp 105)), (some (98, false))⟩ (.take ⟨(some 107), (.pick (.tmp 98) (.const (.bool true)) (.tmp 106)), none⟩ (.take ⟨(some 108), (.move (.tmp 107)), none⟩ (.take ⟨(some 109), (.move (.tmp 5)), (some (108, false))⟩ (.take ⟨(some 110), (.faddr 1 (.tmp 10)), (some (108, false))⟩ (.take ⟨(some 111), (.load1 (.tmp 110)), (some (108, false))⟩ (.take ⟨(some 113), (.move (.tmp 7)), (some (108, false))⟩ (.take ⟨(some 114), (.faddr 1 (.tmp 10)), (some (108, false))⟩ (.take ⟨(some 115), (.load1 (.tmp 114)), (some (108, false))⟩ (.only ⟨(some 112), (.call 22 [(.tmp 109), (.tmp 111)]), (some (108, false))⟩ (.only ⟨(some 116), (.call 23 [(.tmp 113), (.tmp 115)]), (some (108, false))⟩ (.take ⟨(some 117), (.beq true (.tmp 112) (.tmp 116)), (some (108, false))⟩ (.take ⟨(some 118), (.pick (.tmp 108) (.const (.bool true)) (.tmp 117)), none⟩ (.take ⟨(some 119), (.move (.tmp 118)), none⟩ (.take ⟨(some 120), (.move (.tmp 13)), (some (119, false))⟩ (.take ⟨(some 121), (.move (.tmp 7)), (some (119, false))⟩ (.take ⟨(some 122), (.nilCheck (.tmp 121)), (some (119, false))⟩ (.take ⟨(some 123), (.faddr 0 (.tmp 122)), (some (119, false))⟩ (.take ⟨(some 124), (.load1 (.tmp 123)), (some (119, false))⟩ (.take ⟨(some 125), (.lenL (.tmp 124)), (some (119, false))⟩ (.take ⟨(some 126), (.bin .gtr (.tmp 125) (.const (.int .i64 0))), (some (119, false))⟩ (.take ⟨(some 127), (.beq true (.tmp 120) (.tmp 126)), (some (119, false))⟩ (.take ⟨(some 128), (.pick (.tmp 119) (.const (.bool true)) (.tmp 127)), none⟩ (.take ⟨(some 129), (.move (.tmp 128)), none⟩ (.take ⟨(some 130), (.move (.tmp 13)), (some (129, false))⟩ (.take ⟨(some 131), (.move (.tmp 130)), (some (129, false))⟩ (.take ⟨(some 132), (.move (.tmp 12)), (some (131, true))⟩ (.take ⟨(some 133), (.move (.tmp 7)), (some (131, true))⟩ (.take ⟨(some 134), (.nilCheck (.tmp 133)), (some (131, true))⟩ (.take ⟨(some 135), (.faddr 0 (.tmp 134)), (some (131, true))⟩ (.take ⟨(some 136), (.load1 (.tmp 135)), (some (131, true))⟩ (.take ⟨(some 137), (.iaddr 1 (.tmp 136) (.const (.int .i64 0))), (some (131, true))⟩ (.take ⟨(some 138), (.load1 (.tmp 137)), (some (131, true))⟩ (.take ⟨(some 139), (.bin .neq (.tmp 132) (.tmp 138)), (some (131, true))⟩ (.take ⟨(some 140), (.pick (.tmp 131) (.tmp 139) (.const (.bool false))), (some (129, false))⟩ (.take ⟨(some 141), (.pick (.tmp 129) (.const (.bool true)) (.tmp 140)), none⟩ (.take ⟨(some 142), (.move (.tmp 141)), none⟩ (.take ⟨(some 143), (.move (.tmp 13)), (some (142, false))⟩ (.take ⟨(some 144), (.un .not (.tmp 143)), (some (142, false))⟩ (.take ⟨(some 145), (.move (.tmp 144)), (some (142, false))⟩ (.take ⟨(some 146), (.move (.tmp 12)), (some (145, true))⟩ (.take ⟨(some 147), (.bin .neq (.tmp 146) (.const (.int .i64 0))), (some (145, true))⟩ (.take ⟨(some 148), (.pick (.tmp 145) (.tmp 147) (.const (.bool false))), (some (142, false))⟩ (.take ⟨(some 149), (.pick (.tmp 142) (.const (.bool true)) (.tmp 148)), none⟩ .done))))))))))))))))))))))))))))))))))))))))))))))))))))))))))))))))) (.cond (.tmp 149) (.seq (.ops [⟨(some 4), (.assign (.const (.bool false))), none⟩]) .ret) .skip)))))))) (.ops [⟨(some 150), (.bin .add (.tmp 36) (.const (.int .i64 1))), none⟩, ⟨(some 36), (.move (.tmp 150)), none⟩]))))))) (.seq (.ops [⟨(some 151), (.call 24 []), none⟩, ⟨(some 4), (.assign (.tmp 151)), none⟩]) .ret)))))), [(.move (.tmp 4))]⟩
theorem k3 : cfun Try.prog 3 = some c3 := by kernel_rfl
def c4 : XFun := ⟨71, (.seq (.ops [⟨(some 4), (.assign (.const (.bool false))), none⟩]) (.seq (.ops [⟨(some 11), (.move (.tmp 0)), none⟩, ⟨(some 12), (.bin .rem (.tmp 11) (.const (.int .u8 20))), none⟩, ⟨(some 13), (.conv .i64 (.tmp 12)), none⟩, ⟨(some 14), (.bin .add (.const (.int .i64 1)) (.tmp 13)), none⟩, ⟨(some 5), (.assign (.tmp 14)), none⟩]) (.seq (.ops [⟨(some 16), (.move (.tmp 5)), none⟩, ⟨(some 17), (.call 10 [(.tmp 16)]), none⟩, ⟨(some 15), (.move (.tmp 17)), none⟩, ⟨(some 18), (.extract (.tmp 15) 0), none⟩, ⟨(some 19), (.extract (.tmp 15) 1), none⟩, ⟨(some 6), (.assign (.tmp 18)), none⟩, ⟨(some 7), (.assign (.tmp 19)), none⟩]) (.seq (.seq (.ops [⟨(some 20), (.move (.tmp 6)), none⟩, ⟨(some 21), (.pnileq false (.tmp 20)), none⟩, ⟨(some 22), (.move (.tmp 21)), none⟩, ⟨(some 23), (.move (.tmp 7)), (some (22, false))⟩, ⟨(some 24), (.bin .neq (.tmp 23) (.const (.int .i64 0))), (some (22, false))⟩, ⟨(some 25), (.pick (.tmp 22) (.const (.bool true)) (.tmp 24)), none⟩]) (.cond (.tmp 25) (.seq (.ops [⟨(some 4), (.assign (.const (.bool false))), none⟩]) .ret) .skip)) (.seq (.seq (.ops [⟨(some 26), (.move (.tmp 1)), none⟩, ⟨(some 27), (.lenL (.tmp 26)), none⟩, ⟨(some 28), (.move (.const (.int .i64 0))), none⟩]) (.block 0 (.loop (.seq (.ops [⟨(some 29), (.bin .lss (.tmp 28) (.tmp 27)), none⟩]) (.seq (.cond (.tmp 29) .skip (.exit 0)) (.seq (.block 1 (.seq (.ops [⟨(some 30), (.move (.tmp 28)), none⟩, ⟨(some 31), (.iaddr 2 (.tmp 26) (.tmp 28)), none⟩, ⟨(some 32), (.loadN 2 (.tmp 31)), none⟩, ⟨(some 9), (.alloc [(.v (.int .i64 0)), (.v (.int .i64 0))]), none⟩, ⟨(some 8), (.assign (.tmp 30)), none⟩, ⟨none, (.store 2 (.tmp 9) (.tmp 32)), none⟩]) (.seq (.seq (.ops [⟨(some 33), (.move (.tmp 8)), none⟩, ⟨(some 34), (.bin .geq (.tmp 33) (.const (.int .i64 100))), none⟩]) (.cond (.tmp 34) (.exit 0) .skip)) (.seq (.seq (.ops [⟨(some 35), (.faddr 0 (.tmp 9)), none⟩, ⟨(some 36), (.load1 (.tmp 35)), none⟩, ⟨(some 37), (.bin .lss (.tmp 36) (.const (.int .i64 2))), none⟩]) (.cond (.tmp 37) (.ops [⟨(some 38), (.move (.tmp 6)), none⟩, ⟨(some 39), (.faddr 1 (.tmp 9)), none⟩, ⟨(some 40), (.load1 (.tmp 39)), none⟩, ⟨(some 41), (.call 12 [(.tmp 38), (.tmp 40)]), none⟩]) (.seq (.ops [⟨(some 42), (.faddr 0 (.tmp 9)), none⟩, ⟨(some 43), (.load1 (.tmp 42)), none⟩, ⟨(some 44), (.bin .eql (.tmp 43) (.const (.int .i64 2))), none⟩]) (.cond (.tmp 44) (.ops [⟨(some 45), (.move (.tmp 6)), none⟩, ⟨(some 46), (.faddr 1 (.tmp 9)), none⟩, ⟨(some 47), (.load1 (.tmp 46)), none⟩, ⟨(some 48), (.call 14 [(.tmp 45), (.tmp 47)]), none⟩]) (.ops [⟨(some 49), (.move (.tmp 6)), none⟩, ⟨(some 50), (.faddr 1 (.tmp 9)), none⟩, ⟨(some 51), (.load1 (.tmp 50)), none⟩, ⟨(some 52), (.call 16 [(.tmp 49), (.tmp 51)]), none⟩]))))) (.seq (.ops [⟨(some 53), (.move (.tmp 6)), none⟩, ⟨(some 54), (.call 20 [(.tmp 53)]), none⟩, ⟨(some 10), (.assign (.tmp 54)), none⟩]) (.seq (.ops [⟨(some 55), (.move (.tmp 10)), none⟩, ⟨(some 56), (.call 25 [(.tmp 55)]), none⟩]) (.seq (.ops [⟨(some 57), (.move (.tmp 10)), none⟩, ⟨(some 58), (.lenL (.tmp 57)), none⟩, ⟨(some 59), (.move (.tmp 5)), none⟩, ⟨(some 60), (.bin .gtr (.tmp 58) (.tmp 59)), none⟩, ⟨(some 61), (.move (.tmp 60)), none⟩, ⟨(some 62), (.move (.tmp 10)), (some (61, false))⟩, ⟨(some 63), (.call 26 [(.tmp 62)]), (some (61, false))⟩, ⟨(some 64), (.lenL (.tmp 63)), (some (61, false))⟩, ⟨(some 65), (.move (.tmp 6)), (some (61, false))⟩, ⟨(some 66), (.call 21 [(.tmp 65)]), (some (61, false))⟩, ⟨(some 67), (.bin .neq (.tmp 64) (.tmp 66)), (some (61, false))⟩, ⟨(some 68), (.pick (.tmp 61) (.const (.bool true)) (.tmp 67)), none⟩]) (.cond (.tmp 68) (.seq (.ops [⟨(some 4), (.assign (.const (.bool false))), none⟩]) .ret) .skip)))))))) (.ops [⟨(some 69), (.bin .add (.tmp 28) (.const (.int .i64 1))), none⟩, ⟨(some 28), (.move (.tmp 69)), none⟩]))))))) (.seq (.ops [⟨(some 70), (.call 24 []), none⟩, ⟨(some 4), (.assign (.tmp 70)), none⟩]) .ret)))))), [(.move (.tmp 4))]⟩
theorem k4 : cfun Try.prog 4 = some c4 := by kernel_rfl
def c5 : XFun := ⟨55, (.seq (.ops [⟨(some 2), (.assign (.const (.bool false))), none⟩]) (.seq (.ops [⟨(some 3), (.assign (.const (.pointer none))), none⟩]) (.seq (.ops [⟨(some 4), (.alloc [(.sl 0 [] (some true) .exact), (.v (.int .i64 0))]), none⟩]) (.seq (.ops [⟨(some 8), (.move (.tmp 3)), none⟩, ⟨(some 9), (.call 18 [(.tmp 8)]), none⟩, ⟨(some 7), (.move (.tmp 9)), none⟩, ⟨(some 10), (.extract (.tmp 7) 0), none⟩, ⟨(some 11), (.extract (.tmp 7) 1), none⟩, ⟨(some 5), (.assign (.tmp 10)), none⟩, ⟨(some 6), (.assign (.tmp 11)), none⟩]) (.seq (.ops [⟨(some 12), (.move (.tmp 3)), none⟩, ⟨(some 13), (.move (.tmp 0)), none⟩, ⟨(some 14), (.call 12 [(.tmp 12), (.tmp 13)]), none⟩, ⟨(some 15), (.bin .eql (.tmp 14) (.const (.int .i64 2))), none⟩, ⟨(some 16), (.move (.tmp 15)), none⟩, ⟨(some 17), (.move (.tmp 0)), (some (16, true))⟩, ⟨(some 18), (.call 12 [(.tmp 4), (.tmp 17)]), (some (16, true))⟩, ⟨(some 19), (.bin .eql (.tmp 18) (.const (.int .i64 2))), (some (16, true))⟩, ⟨(some 20), (.pick (.tmp 16) (.tmp 19) (.const (.bool false))), none⟩, ⟨(some 21), (.move (.tmp 20)), none⟩, ⟨(some 22), (.move (.tmp 3)), (some (21, true))⟩, ⟨(some 23), (.move (.tmp 0)), (some (21, true))⟩, ⟨(some 24), (.call 14 [(.tmp 22), (.tmp 23)]), (some (21, true))⟩, ⟨(some 25), (.un .not (.tmp 24)), (some (21, true))⟩, ⟨(some 26), (.pick (.tmp 21) (.tmp 25) (.const (.bool false))), none⟩, ⟨(some 27), (.move (.tmp 26)), none⟩, ⟨(some 28), (.move (.tmp 0)), (some (27, true))⟩, ⟨(some 29), (.call 16 [(.tmp 4), (.tmp 28)]), (some (27, true))⟩, ⟨(some 30), (.un .not (.tmp 29)), (some (27, true))⟩, ⟨(some 31), (.pick (.tmp 27) (.tmp 30) (.const (.bool false))), none⟩, ⟨(some 32), (.move (.tmp 31)), none⟩, ⟨(some 33), (.move (.tmp 3)), (some (32, true))⟩, ⟨(some 34), (.move (.tmp 0)), (some (32, true))⟩, ⟨(some 35), (.call 22 [(.tmp 33), (.tmp 34)]), (some (32, true))⟩, ⟨(some 36), (.un .not (.tmp 35)), (some (32, true))⟩, ⟨(some 37), (.pick (.tmp 32) (.tmp 36) (.const (.bool false))), none⟩, ⟨(some 38), (.move (.tmp 37)), none⟩, ⟨(some 39), (.move (.tmp 6)), (some (38, true))⟩, ⟨(some 40), (.un .not (.tmp 39)), (some (38, true))⟩, ⟨(some 41), (.pick (.tmp 38) (.tmp 40) (.const (.bool false))), none⟩, ⟨(some 42), (.move (.tmp 41)), none⟩, ⟨(some 43), (.call 20 [(.tmp 4)]), (some (42, true))⟩, ⟨(some 44), (.lenL (.tmp 43)), (some (42, true))⟩, ⟨(some 45), (.bin .eql (.tmp 44) (.const (.int .i64 0))), (some (42, true))⟩, ⟨(some 46), (.pick (.tmp 42) (.tmp 45) (.const (.bool false))), none⟩, ⟨(some 47), (.move (.tmp 46)), none⟩, ⟨(some 48), (.move (.tmp 3)), (some (47, true))⟩, ⟨(some 49), (.call 21 [(.tmp 48)]), (some (47, true))⟩, ⟨(some 50), (.bin .eql (.tmp 49) (.const (.int .i64 0))), (some (47, true))⟩, ⟨(some 51), (.pick (.tmp 47) (.tmp 50) (.const (.bool false))), none⟩, ⟨(some 52), (.move (.tmp 51)), none⟩, ⟨(some 53), (.call 24 []), (some (52, true))⟩, ⟨(some 54), (.pick (.tmp 52) (.tmp 53) (.const (.bool false))), none⟩, ⟨(some 2), (.assign (.tmp 54)), none⟩]) .ret))))), [(.move (.tmp 2))]⟩
theorem k5 : cfun Try.prog 5 = some c5 := by kernel_rfl
end Go.Proofs.Ytabfaambilbpeaa.Ax
/- A few numbers, by when they were used last, over values without memory: the code's list. -/
namespace Go.Proofs.Ytabfaambilbpeaa.Ax
open Go.RowKit Go By
set_option linter.unusedSimpArgs false
set_option linter.unusedVariables false
set_option maxRecDepth 10000

theorem first_at : ∀ {L : List Int} {x : Int}, x ∈ L → ∃ (k : Nat) (hk : k < L.length), L[k] = x ∧ ∀ j (hj : j < k), L[j]'(by omega) ≠ x
  | y :: L, x, h => by
    by_cases e : y = x
    · exact ⟨0, by simp, e, fun j hj => by omega⟩
    · have hx : x ∈ L := by
        rcases List.mem_cons.1 h with h | h
        · exact absurd h.symm e
        · exact h
      obtain ⟨k, hk, h1, h2⟩ := first_at hx
      refine ⟨k + 1, by simp; omega, by simpa using h1, fun j hj => ?_⟩
      cases j with
      | zero => simpa using e
      | succ j => simpa using h2 j (by omega)
theorem idx_hit {L : List Int} {x : Int} {k : Nat} (hk : k < L.length) (h1 : L[k] = x) (h2 : ∀ j (hj : j < k), L[j]'(by omega) ≠ x) : Lib.idxOf L x = (k : Int) := by
  have := Lib.idxOf_hit L L.length k x hk (Nat.le_refl _) (by rw [getD_at hk]; exact h1) (fun j hj => by rw [getD_at (by omega)]; exact h2 j hj)
  rwa [List.take_length] at this
theorem idx_miss {L : List Int} {x : Int} (h : x ∉ L) : Lib.idxOf L x = -1 := by
  have := Lib.idxOf_miss L L.length x (fun j hj => by rw [getD_at hj]; exact fun e => h (e ▸ List.getElem_mem hj))
  rwa [List.take_length] at this
theorem idx_has (L : List Int) (x : Int) : decide (0 ≤ Lib.idxOf L x) = L.contains x := by
  rw [Bool.eq_iff_iff, decide_eq_true_eq, Lib.idxOf_nonneg_iff]
/-- Without one. -/
def remI (L : List Int) (x : Int) : List Int := L.filter fun y => y != x
theorem remI_not {L : List Int} {x : Int} (h : x ∉ L) : remI L x = L := List.filter_eq_self.2 fun y hy => by simp; exact fun e => h (e ▸ hy)
theorem remI_at {L : List Int} (hn : L.Nodup) {x : Int} {k : Nat} (hk : k < L.length) (h1 : L[k] = x) : L.take k ++ L.drop (k + 1) = remI L x := by
  have e : L = L.take k ++ x :: L.drop (k + 1) := by
    rw [← h1, ← List.drop_eq_getElem_cons hk, List.take_append_drop]
  have hn2 : (L.take k ++ x :: L.drop (k + 1)).Nodup := by rw [← e]; exact hn
  rw [List.nodup_append] at hn2
  obtain ⟨_, h3, h4⟩ := hn2
  rw [List.nodup_cons] at h3
  have e2 : remI (L.take k ++ x :: L.drop (k + 1)) x = L.take k ++ L.drop (k + 1) := by
    unfold remI
    rw [List.filter_append, List.filter_cons]
    simp only [bne_self_eq_false, Bool.false_eq_true, if_false]
    rw [List.filter_eq_self.2 fun y hy => by simp; exact fun e => h4 y hy x (List.mem_cons_self ..) e, List.filter_eq_self.2 fun y hy => by simp; exact fun e => h3.1 (e ▸ hy)]
  rw [← e2, ← e]
theorem remI_len {L : List Int} (hn : L.Nodup) {x : Int} (h : x ∈ L) : (remI L x).length = L.length - 1 := by
  obtain ⟨k, hk, h1, _⟩ := first_at h
  rw [← remI_at hn hk h1]; simp; omega
theorem remI_nodup {L : List Int} (hn : L.Nodup) (x : Int) : (remI L x).Nodup := hn.filter _
theorem remI_mem {L : List Int} {x y : Int} : y ∈ remI L x ↔ y ∈ L ∧ y ≠ x := by unfold remI; rw [List.mem_filter]; simp
/-- Where the list's numbers are: none yet, or a variable's. -/
def liV : Option Nat → Nat → AV
  | none, _ => .sl 0 [] (some true) .exact
  | some b, n => .bsl b 0 1 n
@[simp] theorem liV_cells (o : Option Nat) (n : Nat) : (liV o n).cells = some [liV o n] := by cases o <;> rfl
@[simp] theorem liV_unown (o : Option Nat) (n : Nat) : (liV o n).unown = liV o n := by cases o <;> rfl
@[simp] theorem liV_id (o : Option Nat) (n : Nat) : (liV o n).idOf = none := by cases o <;> rfl
structure LrAt (lo : Nat) (h : List (List AV)) (i most : Nat) (o : Option Nat) (c L : List Int) : Prop where
  top : h[i]? = some [liV o L.length, .v (.int .i64 (most : Int))]
  emp : o = none → L = []
  row : ∀ b, o = some b → h[b]? = some (intsA c) ∧ c ≠ [] ∧ L.length ≤ c.length ∧ c.take L.length = L ∧ lo ≤ b ∧ b ≠ i
  low : lo ≤ i
  lt : ltLL h.length h
structure LrOk (most : Nat) (L : List Int) : Prop where
  nd : L.Nodup
  len : L.length ≤ most
  most : 1 ≤ most ∧ most ≤ 4096
theorem LrOk.rem {most : Nat} {L : List Int} (h : LrOk most L) (x : Int) : LrOk most (remI L x) := ⟨remI_nodup h.nd x, Nat.le_trans (List.length_filter_le _ _) h.len, h.most⟩
theorem LrOk.add {most : Nat} {L : List Int} (h : LrOk most L) {x : Int} (hx : x ∉ L) (hl : L.length < most) : LrOk most (L ++ [x]) := ⟨by rw [List.nodup_append]; exact ⟨h.nd, by simp, fun a ha b hb => by simp at hb; subst hb; exact fun e => hx (e ▸ ha)⟩, by simp; omega, h.most⟩
section
variable {lo : Nat} {h : List (List AV)} {i most : Nat} {o : Option Nat} {c L : List Int}
theorem LrAt.i_lt (ht : LrAt lo h i most o c L) : i < h.length := (List.getElem?_eq_some_iff.1 ht.top).1
theorem LrAt.move (ht : LrAt lo h i most o c L) {h' : List (List AV)} (hi : h'[i]? = h[i]?) (hb : ∀ b, o = some b → h'[b]? = h[b]?) (hlt : ltLL h'.length h') : LrAt lo h' i most o c L :=
  ⟨hi.trans ht.top, ht.emp, fun b e => by obtain ⟨h1, h2⟩ := ht.row b e; exact ⟨(hb b e).trans h1, h2⟩, ht.low, hlt⟩
theorem LrAt.app (ht : LrAt lo h i most o c L) (xs : List (List AV)) (hx : ltLL (h.length + xs.length) xs) : LrAt lo (h ++ xs) i most o c L :=
  ht.move (List.getElem?_append_left ht.i_lt) (fun b e => List.getElem?_append_left (List.getElem?_eq_some_iff.1 (ht.row b e).1).1) (by rw [ltLL_append, List.length_append]; exact ⟨ltLL_mono (Nat.le_add_right _ _) ht.lt, hx⟩)
theorem lplace_c (ht : LrAt lo h i most o c L) (x : Int) : Contract Try.prog 41 [.box i 0, .v (.int .i64 x)] h (.v (.int .i64 (Lib.idxOf L x))) h [] := by
  have hi := ht.i_lt
  have e1 := ht.top
  refine contract_of k41 mixed (by simp [c41]) fun hh hargs => ?_
  cases o with
  | none =>
    have hL := ht.emp rfl
    subst hL
    simp [c41, e1, liV]
    refine xcall_self (by simp) (index_e _ _ _ x) ?_
    simp [hh, Lib.idxOf, Lib.idxFrom]
  | some b =>
    obtain ⟨h1, h2, h3, h4, h5, h6⟩ := ht.row b rfl
    simp [c41, e1, liV]
    refine xcall_self (by simp) (index_b h1 h3 x) ?_
    simp [hh, h4]
theorem lhas_c (ht : LrAt lo h i most o c L) (x : Int) : Contract Try.prog 22 [.box i 0, .v (.int .i64 x)] h (.v (.bool (L.contains x))) h [] := by
  refine contract_of k22 mixed (by simp [c22]) fun hh hargs => ?_
  simp [c22]
  refine xcall_self (by simp) (lplace_c ht x) ?_
  have := idx_has L x
  simp [hh, this]
theorem llen_c (ht : LrAt lo h i most o c L) : Contract Try.prog 21 [.box i 0] h (.v (.int .i64 (L.length : Int))) h [] := by
  have e1 := ht.top
  refine contract_of k21 mixed (by simp [c21]) fun hh hargs => ?_
  cases o with
  | none =>
    have hL := ht.emp rfl
    subst hL
    simp [c21, e1, liV, hh]
  | some b => simp [c21, e1, liV, hh]
theorem loldest_c (ht : LrAt lo h i most o c L) : Contract Try.prog 18 [.box i 0] h (.tup [.v (.int .i64 (L.headD 0)), .v (.bool (!L.isEmpty))]) h [] := by
  have e1 := ht.top
  refine contract_of k18 mixed (by simp [c18]) fun hh hargs => ?_
  simp [c18]
  refine xcall_self (by simp) (llen_c ht) ?_
  cases L with
  | nil => simp [hh]
  | cons y L =>
    cases o with
    | none => cases ht.emp rfl
    | some b =>
      obtain ⟨h1, h2, h3, h4, h5, h6⟩ := ht.row b rfl
      have hc : 0 < c.length := by simp at h3; omega
      have e2 : c[0] = y := by
        have : (c.take (y :: L).length)[0]? = some y := by rw [h4]; rfl
        rw [List.getElem?_take_of_lt (by simp), List.getElem?_eq_getElem hc] at this
        injection this
      have e3 := intsA_get hc
      rw [e2] at e3
      have n1 : ¬ ((L.length : Int) + 1 = 0) := by omega
      simp [e1, liV, h1, e3, hh, n1]
theorem llist_c (ht : LrAt lo h i most o c L) (hl : L.length ≤ 4096) : Contract Try.prog 20 [.box i 0] h (.sl 1 (enc intC L) none (.own .res)) h [] := by
  have e1 := ht.top
  refine contract_of k20 mixed (by simp [c20]) fun hh hargs => ?_
  cases o with
  | none =>
    have hL := ht.emp rfl
    subst hL
    simp [c20, e1, liV]
    refine xcall_self (by simp) (clone_e _ _) ?_
    simp [hh]
  | some b =>
    obtain ⟨h1, h2, h3, h4, h5, h6⟩ := ht.row b rfl
    simp [c20, e1, liV]
    refine xcall_self (by simp) (clone_b h1 h3 (by omega)) ?_
    simp [hh, h4]
end
end Go.Proofs.Ytabfaambilbpeaa.Ax
/- A few numbers, by when they were used last, over values without memory: the code's list: what changes it; New; a list that no call made. -/
namespace Go.Proofs.Ytabfaambilbpeaa.Ax
open Go.RowKit Go By
set_option linter.unusedSimpArgs false
set_option linter.unusedVariables false
set_option maxRecDepth 10000

theorem Contract.wrs {P : Program} {f : FuncId} {args : List AV} {h : List (List AV)} {r : AV} {h' : List (List AV)} {wr wr' : List Nat} (hc : Contract P f args h r h' wr) (hw : ∀ q ∈ wr, q ∈ wr') : Contract P f args h r h' wr' :=
  ⟨hc.1, fun G w vs cls h1 h2 h3 h4 h5 => (hc.2 G w vs cls h1 h2 h3 h4 h5).mono fun e w' he => by
    obtain ⟨v, G', cls', e1, A⟩ := he
    exact ⟨v, G', cls', e1, A.ext, A.ok, A.heap, A.ownh, A.sees, A.own, A.id, fun i hi hn => A.boxes i hi fun hh => hn (hw i hh), A.bufs⟩⟩
section
variable {env own : List (Nat × AV)} {h : List (List AV)} {wr : List Nat} {d : Option Nat} {K : St → List Nat → Prop}
theorem xap_e {x : Int} (hK : K (St.puts ⟨env, own, h ++ [intsA [x]], wr⟩ d (.bsl h.length 0 1 1) false) []) : xappendA ⟨env, own, h, wr⟩ 1 8 d (.sl 0 [] (some true) .exact) (.sl 1 [[.v (.int .i64 x)]] (some false) .exact) K :=
  .inr (.inl ⟨[[.v (.int .i64 x)]], by simp [rowsOf], by simp, by simp, .inl rfl, by simp, by simp, hK⟩)
theorem xap_b {b n : Nat} {c : List Int} {x : Int} (hb : h[b]? = some (intsA c)) (hc : c ≠ []) (hn : n ≤ c.length) (hbig : n ≤ 1000000) (hK : K (St.puts ⟨env, own, h.set b [] ++ [intsA (c.take n ++ [x])], b :: wr⟩ d (.bsl h.length 0 1 (n + 1)) false) []) : xappendA ⟨env, own, h, wr⟩ 1 8 d (.bsl b 0 1 n) (.sl 1 [[.v (.int .i64 x)]] (some false) .exact) K := by
  have e : (intsA c).take (n * 1) ++ [[AV.v (.int .i64 x)]].flatten = intsA (c.take n ++ [x]) := by rw [Nat.mul_one, intsA_take, intsA_append]; rfl
  refine .inr (.inl ⟨[[.v (.int .i64 x)]], by simp [rowsOf], by simp, by simp, rfl, intsA c, hb, fun h => hc (by unfold intsA at h; simpa using h), by simp; omega, intsA_plain c, by simp; omega, by simp; omega, ?_⟩)
  rw [e]; exact hK
end
/-- What a call that changes a list leaves. -/
def LDoes (f : FuncId) (args : List AV) (lo : Nat) (h : List (List AV)) (i most : Nat) (o : Option Nat) (r : AV) (L' : List Int) : Prop :=
  ∃ h' o' c', Contract Try.prog f args h r h' (i :: o.toList) ∧ LrAt lo h' i most o' c' L' ∧ (∀ q, q < h.length → q ≠ i → o ≠ some q → h'[q]? = h[q]?) ∧ h.length ≤ h'.length ∧ ∀ b, o' = some b → o = some b ∨ h.length ≤ b
def addE (most : Nat) (L : List Int) (x : Int) : Int := if L.contains x = true then 8 else if most ≤ L.length then 6 else 0
def addL (most : Nat) (L : List Int) (x : Int) : List Int := if L.contains x = true then L else if most ≤ L.length then L else L ++ [x]
def touchL (L : List Int) (x : Int) : List Int := if L.contains x = true then remI L x ++ [x] else L
section
variable {lo : Nat} {h : List (List AV)} {i most : Nat} {o : Option Nat} {c L : List Int}
theorem LDoes.same {f : FuncId} {args : List AV} {r : AV} (ht : LrAt lo h i most o c L) (hc : Contract Try.prog f args h r h []) : LDoes f args lo h i most o r L :=
  ⟨h, o, c, hc.wrs (fun q hq => by cases hq), ht, fun _ _ _ _ => rfl, Nat.le_refl _, fun b e => .inl e⟩
theorem lremove_no (ht : LrAt lo h i most o c L) {x : Int} (hx : x ∉ L) : Contract Try.prog 16 [.box i 0, .v (.int .i64 x)] h (.v (.bool false)) h [] := by
  refine contract_of k16 mixed (by simp [c16]) fun hh hargs => ?_
  simp [c16]
  refine xcall_self (by simp) (lplace_c ht x) ?_
  simp [idx_miss hx, hh]
theorem lremove_in {b : Nat} (ht : LrAt lo h i most (some b) c L) (ho : LrOk most L) {x : Int} (hx : x ∈ L) :
    ∃ c', Contract Try.prog 16 [.box i 0, .v (.int .i64 x)] h (.v (.bool true)) ((h.set b (intsA c')).set i [.bsl b 0 1 (remI L x).length, .v (.int .i64 (most : Int))]) [i, b] ∧ c'.length = c.length ∧ c'.take (remI L x).length = remI L x := by
  obtain ⟨h1, h2, h3, h4, h5, h6⟩ := ht.row b rfl
  obtain ⟨k, hk, e1, e2⟩ := first_at hx
  have hrl := remI_len ho.nd hx
  have hidx := idx_hit hk e1 e2
  have hi := ht.i_lt
  have hbl := (List.getElem?_eq_some_iff.1 h1).1
  have htop := ht.top
  refine ⟨delL c L.length k ++ c.drop L.length, ?_, by rw [List.length_append, delL_len h3 hk, List.length_drop]; omega, ?_⟩
  · refine contract_of k16 mixed (by simp [c16]) fun hh hargs => ?_
    have hlen := ho.len
    have hm := ho.most
    have hw : IntKind.i64.wrap ((k : Int) + 1) = (k : Int) + 1 := wrap64 (by omega) (by omega)
    have hdel := delete_b h1 h3 hk
    have n1 : ¬ (k : Int) < 0 := by omega
    simp [c16]
    refine xcall_self (by simp) (lplace_c ht x) ?_
    simp [hidx, n1, htop, liV, hw]
    refine xcall_self (by simp) hdel ?_
    have g : (h.set b (intsA (delL c L.length k ++ c.drop L.length)))[i]? = some [.bsl b 0 1 L.length, .v (.int .i64 (most : Int))] := by rw [List.getElem?_set_ne h6]; exact htop
    simp [g]
    simp [hh, hrl, hi, hbl, leqH_take]
  · unfold delL
    rw [h4, hrl, ← remI_at ho.nd hk e1]
    have hA : (L.take k ++ L.drop (k + 1)).length = L.length - 1 := by simp; omega
    rw [List.append_assoc, List.append_assoc, ← List.append_assoc (L.take k), List.take_left' hA]
theorem LrAt.removed {b : Nat} (ht : LrAt lo h i most (some b) c L) {c' L' : List Int} (hl : c'.length = c.length) (hL : L'.length ≤ c'.length) (ht' : c'.take L'.length = L') : LrAt lo ((h.set b (intsA c')).set i [.bsl b 0 1 L'.length, .v (.int .i64 (most : Int))]) i most (some b) c' L' := by
  obtain ⟨h1, h2, h3, h4, h5, h6⟩ := ht.row b rfl
  have hi := ht.i_lt
  have hbl := (List.getElem?_eq_some_iff.1 h1).1
  refine ⟨by rw [List.getElem?_set_self (by simp; exact hi)]; rfl, fun e => (by cases e), fun b' e => ?_, ht.low, ?_⟩
  · injection e with e; subst e
    refine ⟨by rw [List.getElem?_set_ne (fun e => h6 e.symm), List.getElem?_set_self hbl], fun e => h2 (List.eq_nil_of_length_eq_zero (by rw [← hl, e]; rfl)), hL, ht', h5, h6⟩
  · rw [List.length_set, List.length_set]
    exact ltLL_set (ltLL_set ht.lt (by simp)) (by simp; exact hbl)
theorem lremove_c (ht : LrAt lo h i most o c L) (ho : LrOk most L) (x : Int) : LDoes 16 [.box i 0, .v (.int .i64 x)] lo h i most o (.v (.bool (L.contains x))) (remI L x) := by
  by_cases hx : x ∈ L
  · cases o with
    | none => rw [ht.emp rfl] at hx; cases hx
    | some b =>
      obtain ⟨c', h1, h2, h3⟩ := lremove_in ht ho hx
      have hc : L.contains x = true := by simpa using hx
      rw [hc]
      obtain ⟨_, _, g3, _, _, _⟩ := ht.row b rfl
      refine ⟨_, some b, c', h1, ht.removed h2 (by rw [h2, remI_len ho.nd hx]; omega) h3, fun q hq q1 q2 => ?_, by simp, fun b' e => .inl e⟩
      rw [List.getElem?_set_ne (fun e => q1 e.symm), List.getElem?_set_ne (fun e => q2 (by rw [e]))]
  · have hc : L.contains x = false := by simpa using hx
    rw [hc, remI_not hx]
    exact .same ht (lremove_no ht hx)
theorem ladd_c (ht : LrAt lo h i most o c L) (ho : LrOk most L) (x : Int) : LDoes 12 [.box i 0, .v (.int .i64 x)] lo h i most o (.v (.int .i64 (addE most L x))) (addL most L x) := by
  have hm := ho.most
  have hlen := ho.len
  have htop := ht.top
  have hi := ht.i_lt
  have n0 : ¬ (most : Int) = 0 := by omega
  have n00 : ¬ most = 0 := by omega
  have hlc := ht.lt
  have A8 : L.contains x = true → addE most L x = 8 ∧ addL most L x = L := fun hc => by unfold addE addL; rw [if_pos hc, if_pos hc]; exact ⟨rfl, rfl⟩
  have A6 : L.contains x = false → most ≤ L.length → addE most L x = 6 ∧ addL most L x = L := fun hc hf => by
    have hc' : ¬ L.contains x = true := by rw [hc]; simp
    unfold addE addL; rw [if_neg hc', if_neg hc', if_pos hf, if_pos hf]; exact ⟨rfl, rfl⟩
  have A0 : L.contains x = false → ¬ most ≤ L.length → addE most L x = 0 ∧ addL most L x = L ++ [x] := fun hc hf => by
    have hc' : ¬ L.contains x = true := by rw [hc]; simp
    unfold addE addL; rw [if_neg hc', if_neg hc', if_neg hf, if_neg hf]; exact ⟨rfl, rfl⟩
  by_cases hx : x ∈ L
  · have hc : L.contains x = true := by simpa using hx
    rw [(A8 hc).1, (A8 hc).2]
    refine .same ht (contract_of k12 mixed (by simp [c12]) fun hh hargs => ?_)
    simp [c12, htop, n0, n00]
    refine xcall_self (by simp) (lhas_c ht x) ?_
    rw [hc]
    simp [hh]
  · have hc : L.contains x = false := by simpa using hx
    by_cases hf : most ≤ L.length
    · rw [(A6 hc hf).1, (A6 hc hf).2]
      refine .same ht (contract_of k12 mixed (by simp [c12]) fun hh hargs => ?_)
      simp [c12, htop, n0, n00]
      refine xcall_self (by simp) (lhas_c ht x) ?_
      rw [hc]
      cases o with
      | none =>
        have := ht.emp rfl
        subst this
        simp at hf
        omega
      | some b =>
        have hf2 : (most : Int) ≤ (L.length : Int) := by omega
        simp [htop, liV, hh, hf, hf2]
    · rw [(A0 hc hf).1, (A0 hc hf).2]
      have hf2 : ¬ (most : Int) ≤ (L.length : Int) := by omega
      cases o with
      | none =>
        have hL := ht.emp rfl
        subst hL
        refine ⟨(h ++ [intsA [x]]).set i [.bsl h.length 0 1 1, .v (.int .i64 (most : Int))], some h.length, [x], ?_, ⟨by rw [List.getElem?_set_self (by simp; omega)]; rfl, fun e => by (cases e), fun b e => ?_, ht.low, ?_⟩, fun q hq q1 q2 => ?_, by simp, fun b e => by injection e with e; right; omega⟩
        · refine contract_of k12 mixed (by simp [c12]) fun hh hargs => ?_
          simp [c12, htop, n0, n00]
          refine xcall_self (by simp) (lhas_c ht x) ?_
          have hf3 : ¬ (most : Int) ≤ 0 := by omega
          simp [htop, liV, hf3, n00, n0]
          refine xap_e ?_
          have g : (h ++ [intsA [x]])[i]? = some [.sl 0 [] (some true) .exact, .v (.int .i64 (most : Int))] := by rw [List.getElem?_append_left hi]; exact htop
          simp [g, hh, hi]
          done
        · injection e with e; subst e
          exact ⟨by rw [List.getElem?_set_ne (by omega)]; simp, by simp, by simp, by simp, by have := ht.low; omega, by omega⟩
        · rw [List.length_set, List.length_append]
          exact ltLL_set (ltLL_append.2 ⟨ltLL_mono (Nat.le_add_right _ _) hlc, by simp⟩) (by simp)
        · rw [List.getElem?_set_ne (fun e => q1 e.symm), List.getElem?_append_left hq]
      | some b =>
        obtain ⟨h1, h2, h3, h4, h5, h6⟩ := ht.row b rfl
        have hbl := (List.getElem?_eq_some_iff.1 h1).1
        refine ⟨(h.set b [] ++ [intsA (L ++ [x])]).set i [.bsl h.length 0 1 (L.length + 1), .v (.int .i64 (most : Int))], some h.length, L ++ [x], ?_, ⟨by rw [List.getElem?_set_self (by simp; omega)]; simp [liV], fun e => by (cases e), fun b' e => ?_, ht.low, ?_⟩, fun q hq q1 q2 => ?_, by simp, fun b' e => by injection e with e; right; omega⟩
        · refine contract_of k12 mixed (by simp [c12]) fun hh hargs => ?_
          simp [c12, htop, n0, n00]
          refine xcall_self (by simp) (lhas_c ht x) ?_
          rw [hc]
          simp [htop, liV, hf, hf2]
          refine xap_b h1 h2 h3 (by omega) ?_
          rw [h4]
          have g : (h.set b [] ++ [intsA (L ++ [x])])[i]? = some [.bsl b 0 1 L.length, .v (.int .i64 (most : Int))] := by rw [List.getElem?_append_left (by simp; exact hi), List.getElem?_set_ne h6]; exact htop
          simp [g, hh, hi, hbl]
          exact leqH_take (by simp)
        · injection e with e; subst e
          exact ⟨by rw [List.getElem?_set_ne (by omega)]; simp, by simp, by simp, by simp, by have := ht.low; omega, by omega⟩
        · rw [List.length_set, List.length_append, List.length_set]
          exact ltLL_set (ltLL_append.2 ⟨ltLL_set (ltLL_mono (Nat.le_add_right _ _) hlc) (by simp), by simp⟩) (by simp)
        · rw [List.getElem?_set_ne (fun e => q1 e.symm), List.getElem?_append_left (by simp; exact hq), List.getElem?_set_ne (fun e => q2 (by rw [e]))]
theorem ltouch_c (ht : LrAt lo h i most o c L) (ho : LrOk most L) (x : Int) : LDoes 14 [.box i 0, .v (.int .i64 x)] lo h i most o (.v (.bool (L.contains x))) (touchL L x) := by
  unfold touchL
  by_cases hx : x ∈ L
  · have hc : L.contains x = true := by simpa using hx
    rw [hc, if_pos rfl]
    cases o with
    | none => rw [ht.emp rfl] at hx; cases hx
    | some b =>
      obtain ⟨c', hr, e1, e2⟩ := lremove_in ht ho hx
      obtain ⟨h1, h2, h3, h4, h5, h6⟩ := ht.row b rfl
      have hi := ht.i_lt
      have hbl := (List.getElem?_eq_some_iff.1 h1).1
      have hrl := remI_len ho.nd hx
      have hlen := ho.len
      have hm := ho.most
      have hle : (remI L x).length ≤ c'.length := by omega
      have hA := ht.removed e1 hle e2
      obtain ⟨H, hH⟩ : ∃ H, H = (h.set b (intsA c')).set i [.bsl b 0 1 (remI L x).length, .v (.int .i64 (most : Int))] := ⟨_, rfl⟩
      have hHl : H.length = h.length := by rw [hH]; simp
      rw [← hH] at hr hA
      obtain ⟨p1, p2, p3, p4, p5, p6⟩ := hA.row b rfl
      have htop := hA.top
      refine ⟨(H.set b [] ++ [intsA (remI L x ++ [x])]).set i [.bsl H.length 0 1 ((remI L x).length + 1), .v (.int .i64 (most : Int))], some H.length, remI L x ++ [x], ?_, ⟨by rw [List.getElem?_set_self (by simp; omega)]; simp [liV], fun e => by (cases e), fun b' e => ?_, ht.low, ?_⟩, fun q hq q1 q2 => ?_, by simp; omega, fun b' e => by injection e with e; right; omega⟩
      · refine contract_of k14 mixed (by simp [c14]) fun hh hargs => ?_
        simp [c14]
        refine xcall_self (by simp) hr ?_
        simp [htop, liV]
        refine xap_b p1 p2 p3 (by omega) ?_
        rw [p4]
        have g : (H.set b [] ++ [intsA (remI L x ++ [x])])[i]? = some [.bsl b 0 1 (remI L x).length, .v (.int .i64 (most : Int))] := by rw [List.getElem?_append_left (by simp; omega), List.getElem?_set_ne h6]; exact htop
        have hlt := hA.lt
        have hi2 : i < H.length := by omega
        have hb2 : b < H.length := by omega
        have hle2 : h.length ≤ H.length + 1 := by omega
        have hib : ∀ q, q < h.length → q = i ∨ q = b ∨ True := fun _ _ => .inr (.inr trivial)
        simp [g, hlt, hi2, hb2, hle2]
        exact leqH_take (by simp)
      · injection e with e; subst e
        exact ⟨by rw [List.getElem?_set_ne (by omega)]; simp, by simp, by simp, by simp, by have := ht.low; omega, by omega⟩
      · rw [List.length_set, List.length_append, List.length_set]
        exact ltLL_set (ltLL_append.2 ⟨ltLL_set (ltLL_mono (Nat.le_add_right _ _) hA.lt) (by simp), by simp⟩) (by simp)
      · rw [List.getElem?_set_ne (fun e => q1 e.symm), List.getElem?_append_left (by simp; omega), List.getElem?_set_ne (fun e => q2 (by rw [e])), hH, List.getElem?_set_ne (fun e => q1 e.symm), List.getElem?_set_ne (fun e => q2 (by rw [e]))]
  · have hc : L.contains x = false := by simpa using hx
    rw [hc, if_neg (by simp)]
    refine .same ht (contract_of k14 mixed (by simp [c14]) fun hh hargs => ?_)
    simp [c14]
    refine xcall_self (by simp) (lremove_no ht hx) ?_
    simp [hh]
theorem LrOk.touch (ho : LrOk most L) (x : Int) : LrOk most (touchL L x) := by
  unfold touchL
  split
  · rename_i hc
    have hx : x ∈ L := by simpa using hc
    have hl : 0 < L.length := List.length_pos_of_mem hx
    exact (ho.rem x).add (fun h => (remI_mem.1 h).2 rfl) (by rw [remI_len ho.nd hx]; have := ho.len; omega)
  · exact ho
theorem LrOk.addL (ho : LrOk most L) (x : Int) : LrOk most (addL most L x) := by
  unfold Ax.addL
  split
  · exact ho
  · split
    · exact ho
    · rename_i h1 h2
      exact ho.add (by simpa using h1) (by omega)
/-! ### New -/
def newLr (h : List (List AV)) (most : Nat) : List (List AV) := h ++ [[.sl 0 [] (some true) .exact, .v (.int .i64 (most : Int))]]
theorem newLr_at (hh : ltLL h.length h) (most : Nat) (hlo : lo ≤ h.length) : LrAt lo (newLr h most) h.length most none [] [] := by
  refine ⟨by unfold newLr; simp [liV], fun _ => rfl, fun b e => (by cases e), hlo, ?_⟩
  unfold newLr
  rw [List.length_append]
  exact ltLL_append.2 ⟨ltLL_mono (Nat.le_add_right _ _) hh, by simp⟩
theorem newLr_ok {most : Nat} (h1 : 1 ≤ most) (h2 : most ≤ 4096) : LrOk most [] := ⟨List.nodup_nil, Nat.zero_le _, h1, h2⟩
theorem lnew_c {most : Nat} (h1 : 1 ≤ most) (h2 : most ≤ 4096) (h : List (List AV)) : Contract Try.prog 10 [.v (.int .i64 (most : Int))] h (.tup [.box h.length 0, .v (.int .i64 0)]) (newLr h most) [] := by
  refine contract_of k10 mixed (by simp [c10]) fun hh hargs => ?_
  have n1 : ¬ (most : Int) < 1 := by omega
  have n2 : ¬ (most : Int) > 4096 := by omega
  have hl := ltLL_mono (Nat.le_add_right h.length 1) hh
  simp [c10, n1, n2, newLr, hl]
theorem lnew_no {most : Int} (hm : most < 1 ∨ most > 4096) (h : List (List AV)) : Contract Try.prog 10 [.v (.int .i64 most)] h (.tup [.v (.pointer none), .v (.int .i64 1)]) h [] := by
  refine contract_of k10 mixed (by simp [c10]) fun hh hargs => ?_
  by_cases n1 : most < 1
  · simp [c10, n1, hh]
  · have n2 : most > 4096 := by omega
    simp [c10, n1, n2, hh]
end
end Go.Proofs.Ytabfaambilbpeaa.Ax
/- Layer 17: a list that no call made; whether the one that was used first is the oldest. -/
namespace Go.Proofs.Ytabfaambilbpeaa.Ax
open Go.RowKit Go By
set_option linter.unusedSimpArgs false
set_option linter.unusedVariables false
set_option maxRecDepth 10000

theorem lawake_c (h : List (List AV)) : Contract Try.prog 24 [] h (.v (.bool true)) h [] := by
  refine contract_of k24 mixed (by simp [c24]) fun hh hargs => ?_
  have t0 := newLr_at (lo := h.length) hh 2 (Nat.le_refl _)
  have o0 := newLr_ok (most := 2) (by omega) (by omega)
  obtain ⟨h1, b1, c1, k1, t1, s1, l1, q1⟩ := ladd_c t0 o0 1
  have o1 := o0.addL 1
  have v1 : addL 2 [] 1 = [1] := rfl
  have w1 : addE 2 [] 1 = 0 := rfl
  rw [v1] at t1 o1
  rw [w1] at k1
  obtain ⟨h2, b2, c2, k2, t2, s2, l2, q2⟩ := ladd_c t1 o1 2
  have o2 := o1.addL 2
  have v2 : addL 2 [1] 2 = [1, 2] := rfl
  have w2 : addE 2 [1] 2 = 0 := rfl
  rw [v2] at t2 o2
  rw [w2] at k2
  obtain ⟨h3, b3, c3, k3, t3, s3, l3, q3⟩ := ltouch_c t2 o2 1
  have o3 := o2.touch 1
  have v3 : touchL [1, 2] 1 = [2, 1] := rfl
  rw [v3] at t3 o3
  obtain ⟨h4, b4, c4, k4, t4, s4, l4, q4⟩ := ladd_c t3 o3 3
  have o4 := o3.addL 3
  have v4 : addL 2 [2, 1] 3 = [2, 1] := rfl
  have w4 : addE 2 [2, 1] 3 = 6 := rfl
  rw [v4] at t4 o4
  rw [w4] at k4
  have hl1 : h.length + 1 ≤ h1.length := by simpa [newLr] using l1
  have below : ∀ q, q < h.length → h4[q]? = h[q]? := fun q hq => by
    have hlo : ∀ {b c L i m H}, LrAt h.length H i m b c L → b ≠ some q := fun t e => by have := (t.row q e).2.2.2.2.1; omega
    rw [s4 q (by omega) (by omega) (hlo t3), s3 q (by omega) (by omega) (hlo t2), s2 q (by omega) (by omega) (hlo t1), s1 q (by simp [newLr]; omega) (by omega) (by simp)]
    unfold newLr; rw [List.getElem?_append_left hq]
  have htk : h4.take h.length = h := by
    apply List.ext_getElem?
    intro q
    rw [List.getElem?_take]
    split
    · rename_i hq; exact below q hq
    · rename_i hq; rw [List.getElem?_eq_none (by omega)]
  simp [c24]
  refine xcall_self (by simp) (lnew_c (most := 2) (by omega) (by omega) _) ?_
  simp
  refine xcall_self (by simp) k1 ?_
  simp
  refine xcall_self (by simp) k2 ?_
  simp
  refine xcall_self (by simp) k3 ?_
  simp
  refine xcall_self (by simp) k4 ?_
  simp
  refine xcall_self (by simp) (loldest_c t4) ?_
  simp
  refine xcall_self (by simp) (llist_c t4 (by simp)) ?_
  simp
  have heq := equal1_any (P := Try.prog) mixed (f := 19) k19 [2, 1] [2, 1] h4 (by simp)
  simp [enc, intC] at heq
  simp [enc, intC]
  refine xcall_of heq ?_ ?_ ?_
  · simp
    done
  · simp
    done
  · simp [hh]
    have r1 : ∀ a, b1 = some a → h.length ≤ a := fun a e => (t1.row a e).2.2.2.2.1
    have r2 : ∀ a, b2 = some a → h.length ≤ a := fun a e => (t2.row a e).2.2.2.2.1
    have r3 : ∀ a, b3 = some a → h.length ≤ a := fun a e => (t3.row a e).2.2.2.2.1
    refine ⟨by omega, rfl, by rw [htk]; exact leqH_refl _ _, fun a ha => ?_⟩
    rcases ha with e | e | e | e | e | e
    · exact r3 a e
    · omega
    · exact r2 a e
    · omega
    · exact r1 a e
    · omega
/-! ### A list that no call made -/
section
variable {h : List (List AV)}
theorem nladd_c (x : Int) : Contract Try.prog 12 [.v (.pointer none), .v (.int .i64 x)] h (.v (.int .i64 2)) h [] := by
  refine contract_of k12 mixed (by simp [c12]) fun hh hargs => ?_
  simp [c12, hh]
theorem nlplace_c (x : Int) : Contract Try.prog 41 [.v (.pointer none), .v (.int .i64 x)] h (.v (.int .i64 (-1))) h [] := by
  refine contract_of k41 mixed (by simp [c41]) fun hh hargs => ?_
  simp [c41, hh]
theorem nlhas_c (x : Int) : Contract Try.prog 22 [.v (.pointer none), .v (.int .i64 x)] h (.v (.bool false)) h [] := by
  refine contract_of k22 mixed (by simp [c22]) fun hh hargs => ?_
  simp [c22]
  refine xcall_self (by simp) (nlplace_c x) ?_
  simp [hh]
theorem nlremove_c (x : Int) : Contract Try.prog 16 [.v (.pointer none), .v (.int .i64 x)] h (.v (.bool false)) h [] := by
  refine contract_of k16 mixed (by simp [c16]) fun hh hargs => ?_
  simp [c16]
  refine xcall_self (by simp) (nlplace_c x) ?_
  simp [hh]
theorem nltouch_c (x : Int) : Contract Try.prog 14 [.v (.pointer none), .v (.int .i64 x)] h (.v (.bool false)) h [] := by
  refine contract_of k14 mixed (by simp [c14]) fun hh hargs => ?_
  simp [c14]
  refine xcall_self (by simp) (nlremove_c x) ?_
  simp [hh]
theorem nllen_c : Contract Try.prog 21 [.v (.pointer none)] h (.v (.int .i64 0)) h [] := by
  refine contract_of k21 mixed (by simp [c21]) fun hh hargs => ?_
  simp [c21, hh]
theorem nloldest_c : Contract Try.prog 18 [.v (.pointer none)] h (.tup [.v (.int .i64 0), .v (.bool false)]) h [] := by
  refine contract_of k18 mixed (by simp [c18]) fun hh hargs => ?_
  simp [c18]
  refine xcall_self (by simp) nllen_c ?_
  simp [hh]
def zeroL : List AV := [.sl 0 [] (some true) .exact, .v (.int .i64 0)]
theorem zladd_c {i : Nat} (hi : h[i]? = some zeroL) (x : Int) : Contract Try.prog 12 [.box i 0, .v (.int .i64 x)] h (.v (.int .i64 2)) h [] := by
  unfold zeroL at hi
  refine contract_of k12 mixed (by simp [c12]) fun hh hargs => ?_
  simp [c12, hi, hh]
theorem zl_at {i : Nat} (hi : h[i]? = some zeroL) (hh : ltLL h.length h) : LrAt 0 h i 0 none [] [] := ⟨hi, fun _ => rfl, fun b e => (by cases e), Nat.zero_le _, hh⟩
theorem lnobody_c (x : Int) : Contract Try.prog 5 [.v (.int .i64 x)] [] (.v (.bool true)) [] [] := by
  refine contract_of k5 mixed (by simp [c5]) fun hh hargs => ?_
  have z0 : ([zeroL] : List (List AV))[0]? = some zeroL := rfl
  have tz := zl_at z0 (by simp [zeroL])
  have hx : x ∉ ([] : List Int) := by simp
  simp [c5]
  refine xcall_self (by simp) nloldest_c ?_
  simp
  refine xcall_self (by simp) (nladd_c x) ?_
  simp
  refine xcall_self (by simp) (zladd_c z0 x) ?_
  simp
  refine xcall_self (by simp) (nltouch_c x) ?_
  simp
  refine xcall_self (by simp) (lremove_no tz hx) ?_
  simp
  refine xcall_self (by simp) (nlhas_c x) ?_
  simp
  refine xcall_self (by simp) (llist_c tz (by simp)) ?_
  simp
  refine xcall_self (by simp) nllen_c ?_
  simp
  refine xcall_self (by simp) (lawake_c _) ?_
  simp
end
end Go.Proofs.Ytabfaambilbpeaa.Ax
namespace Go.Proofs.Ytabfaambilbpeaa.Ax
open Go.RowKit Go By
set_option linter.unusedSimpArgs false
set_option linter.unusedVariables false
set_option maxRecDepth 10000

structure Ld where
  op : Int
  id : Int
def ldC (d : Ld) : List AV := [.v (.int .i64 d.op), .v (.int .i64 d.id)]
@[simp] theorem ldC_lt (n : Nat) (l : List Ld) : ltLL n (enc ldC l) = True := eq_true (ltLL_of' fun j e he => by obtain ⟨s, _, rfl⟩ := List.mem_map.1 (List.mem_of_getElem? he); simp [ldC])
def OkLd (d : Ld) : Prop := (-9223372036854775808 ≤ d.op ∧ d.op ≤ 9223372036854775807) ∧ (-9223372036854775808 ≤ d.id ∧ d.id ≤ 9223372036854775807)
theorem sh_ldC : Shape Try.prog 31 ldC OkLd :=
  Shape.map (shape_struct Try.underlying31 (by kernel_rfl) (shape_cons (k := 1) rfl (by kernel_rfl) sh_int (by kernel_rfl) (shape_one (k := 1) rfl (by kernel_rfl) sh_int))) (fun p => ⟨p.1, p.2⟩) (fun p => rfl) (fun _ h => h)
theorem sh_ldCL : Shape Try.prog 22 (fun l : List Ld => [.sl 2 (enc ldC l) none .no]) (fun l => l.length ≤ maxLen ∧ ∀ x ∈ l, OkLd x) := shape_slice Try.underlying22 (by kernel_rfl) (by decide) sh_ldC (fun _ => rfl)
theorem compact_nodup {zs : List Int} (h : zs.Nodup) : (Lib.compact zs).length = zs.length := by
  unfold Lib.compact Lib.compactUpTo
  rw [List.length_map]
  have : (List.range zs.length).filter (Lib.keeps zs.toArray) = List.range zs.length := List.filter_eq_self.2 fun j hj => by
    rw [List.mem_range] at hj
    unfold Lib.keeps
    rw [decide_eq_true_eq]
    by_cases h0 : j = 0
    · exact .inl h0
    · right
      rw [getElem!_pos zs.toArray j (by simpa using hj), getElem!_pos zs.toArray (j - 1) (by simp; omega)]
      simp only [List.getElem_toArray]
      intro e
      have := (List.getElem_inj h).1 e
      omega
  rw [this, List.length_range]
theorem sortI_nodup {l : List Int} (h : l.Nodup) : (sortI l).Nodup := (List.mergeSort_perm ..).nodup_iff.2 h
theorem sortI_len (l : List Int) : (sortI l).length = l.length := by unfold sortI; rw [List.length_mergeSort]
section
variable {lo : Nat} {h : List (List AV)} {i most : Nat} {o : Option Nat} {c L : List Int}
/-- A copy that lies in a variable of its own. -/
theorem llist_v (ht : LrAt lo h i most o c L) (hl : L.length ≤ 4096) (hne : L ≠ []) : Contract Try.prog 20 [.box i 0] h (.bsl h.length 0 1 L.length) (h ++ [intsA L]) [] := by
  have e1 := ht.top
  cases o with
  | none => exact absurd (ht.emp rfl) hne
  | some b =>
    obtain ⟨h1, h2, h3, h4, h5, h6⟩ := ht.row b rfl
    have hpos : 0 < L.length := List.length_pos_iff.2 hne
    have hc := clone_v h1 h3 hpos (by omega)
    rw [h4] at hc
    refine contract_of k20 mixed (by simp [c20]) fun hh hargs => ?_
    have hl1 := ltLL_mono (Nat.le_add_right h.length 1) hh
    simp [c20, e1, liV]
    refine xcall_self (by simp) hc ?_
    simp [hl1]
end
theorem set_last {α : Type} (h : List α) (x y : α) : (h ++ [x]).set h.length y = h ++ [y] := by
  rw [List.set_append_right _ _ (Nat.le_refl _), Nat.sub_self]; rfl
theorem own_sorted {h : List (List AV)} {L : List Int} (hn : L.Nodup) (hl : L.length ≤ 4096) (hne : L ≠ []) : ∃ cc : List Int, Contract Try.prog 25 [.bsl h.length 0 1 L.length] (h ++ [intsA L]) (.tup []) (h ++ [intsA (sortI L)]) [h.length] ∧
    Contract Try.prog 26 [.bsl h.length 0 1 L.length] (h ++ [intsA (sortI L)]) (.bsl h.length 0 1 L.length) (h ++ [intsA cc]) [h.length] := by
  have hpos : 0 < L.length := List.length_pos_iff.2 hne
  have hsl := sortI_len L
  have k1 := sort_b (h := h ++ [intsA L]) (b := h.length) (c := L) (n := L.length) (by simp) (Nat.le_refl _) hpos (by omega)
  rw [set_last, List.take_length, List.drop_length, List.append_nil] at k1
  have k2 := compact_b (h := h ++ [intsA (sortI L)]) (b := h.length) (c := sortI L) (n := L.length) (by simp) (by omega) hpos
  have e : (sortI L).take L.length = sortI L := List.take_of_length_le (by omega)
  rw [set_last, e, compact_nodup (sortI_nodup hn), hsl] at k2
  exact ⟨_, k1, k2⟩
structure LB where
  H : List (List AV)
  o : Option Nat
  c : List Int
  L : List Int
  j : Nat
structure LB.Ok (n most : Nat) (d : LB) : Prop where
  le : d.j ≤ n
  at_ : LrAt 0 d.H 0 most d.o d.c d.L
  ok : LrOk most d.L
def lsL (most : Nat) (L : List Int) (d : Ld) : List Int := if d.op < 2 then addL most L d.id else if d.op = 2 then touchL L d.id else remI L d.id
theorem lbounds_c (n : Nat) (hn : n < 256) (l : List Ld) : Contract Try.prog 4 [.v (.int .u8 (n : Int)), .sl 2 (enc ldC l) none .no] [] (.v (.bool true)) [] [] := by
  obtain ⟨m, hm⟩ : ∃ m, m = 1 + n % 20 := ⟨_, rfl⟩
  have hm1 : 1 ≤ m := by omega
  have hm2 : m ≤ 4096 := by omega
  refine contract_of k4 mixed (by simp [c4]) fun hh hargs => ?_
  obtain ⟨k, hk⟩ : ∃ k, k = n % 20 := ⟨_, rfl⟩
  have ht0 : (n : Int).tmod 20 = (k : Int) := by rw [Int.tmod_eq_emod_of_nonneg (by omega)]; omega
  have hw2 : IntKind.i64.wrap (k : Int) = (k : Int) := wrap64 (by omega) (by omega)
  have hw3 : IntKind.i64.wrap (1 + (k : Int)) = (m : Int) := by rw [wrap64 (by omega) (by omega)]; omega
  simp [c4, ht0, hw2, hw3]
  refine xcall_self (by simp) (lnew_c hm1 hm2 _) ?_
  have t0 := newLr_at (lo := 0) (h := []) (by simp) m (Nat.zero_le _)
  have hlt0 := t0.lt
  have hH0 : newLr [] m = [[.sl 0 [] (some true) .exact, .v (.int .i64 (m : Int))]] := rfl
  simp
  refine xloop_ok (D := LB) (fun d => ⟨[(5, .v (.int .i64 (m : Int))), (6, .box 0 0), (26, .sl 2 (enc ldC l) none .no), (27, .v (.int .i64 (l.length : Int))), (28, .v (.int .i64 (d.j : Int)))], [], d.H, []⟩) (LB.Ok l.length m) (fun d => l.length - d.j) ⟨newLr [] m, none, [], [], 0⟩ ⟨Nat.zero_le _, t0, newLr_ok hm1 hm2⟩ ?_ ?_
  · simp [Leq, hH0, leqH_take]
    done
  · rintro ⟨H, o, c, L, j⟩ ⟨hj, hat, hok⟩
    dsimp only at hj hat hok
    by_cases hlt : j < l.length
    · have hlt2 : (j : Int) < (l.length : Int) := by omega
      simp [hlt, ldC]
      by_cases hj100 : 100 ≤ (j : Int)
      · simp [hj100]
        refine xcall_self (by simp) (lawake_c _) ?_
        simp
        done
      have hw : IntKind.i64.wrap ((j : Int) + 1) = (j : Int) + 1 := wrap64 (by omega) (by omega)
      have hi := hat.i_lt
      have hat1 := hat.app [ldC l[j]] (by simp [ldC])
      simp [hj100]
      by_cases hop : l[j].op < 2
      · obtain ⟨h1, o1, c1, k1, t1, s1, l1, q1⟩ := ladd_c hat1 hok l[j].id
        have o1' := hok.addL l[j].id
        simp only [ldC] at k1
        generalize addL m L l[j].id = L' at *
        simp [hop]
        refine xcall_self (by simp) k1 ?_
        simp
        have hlen := o1'.len
        by_cases hL : L' = []
        · subst hL
          refine xcall_self (by simp) (llist_c t1 (by simp)) ?_
          simp
          refine xcall_of (sort_e 1 none .no) (by simp) (by simp) ?_
          simp
          refine xcall_of (compact_e 1 none .no) (by simp) (by simp) ?_
          simp
          refine xcall_self (by simp) (llen_c t1) ?_
          simp [hw]
          refine ⟨⟨h1, o1, c1, [], j + 1⟩, ⟨by show j + 1 ≤ l.length; omega, t1, o1'⟩, by show l.length - (j + 1) < l.length - j; omega, ?_⟩
          have hlt1 := t1.lt
          have hi1 := t1.i_lt
          simp [Leq, hlt1, leqH_take, hi1]
          done
        · obtain ⟨cc, ks, kc⟩ := own_sorted (h := h1) o1'.nd (by omega) hL
          have t2 := t1.app [intsA cc] (by simp)
          have n9 : ¬ (m : Int) < (L'.length : Int) := by omega
          refine xcall_self (by simp) (llist_v t1 (by omega) hL) ?_
          simp
          refine xcall_self (by simp) ks ?_
          simp [n9]
          refine xcall_self (by simp) kc ?_
          simp
          refine xcall_self (by simp) (llen_c t2) ?_
          simp [hw]
          refine ⟨⟨h1 ++ [intsA cc], o1, c1, L', j + 1⟩, ⟨by show j + 1 ≤ l.length; omega, t2, o1'⟩, by show l.length - (j + 1) < l.length - j; omega, ?_⟩
          have hlt2 := t2.lt
          have hi1 := t1.i_lt
          have hi2 : 0 < h1.length + 1 := by omega
          simp at hlt2
          simp [Leq, hlt2, leqH_take, hi2]
          done
      by_cases hop2 : l[j].op = 2
      · obtain ⟨h1, o1, c1, k1, t1, s1, l1, q1⟩ := ltouch_c hat1 hok l[j].id
        have o1' := hok.touch l[j].id
        simp only [ldC] at k1
        generalize touchL L l[j].id = L' at *
        rw [hop2] at k1
        simp [hop, hop2]
        refine xcall_self (by simp) k1 ?_
        simp
        have hlen := o1'.len
        by_cases hL : L' = []
        · subst hL
          refine xcall_self (by simp) (llist_c t1 (by simp)) ?_
          simp
          refine xcall_of (sort_e 1 none .no) (by simp) (by simp) ?_
          simp
          refine xcall_of (compact_e 1 none .no) (by simp) (by simp) ?_
          simp
          refine xcall_self (by simp) (llen_c t1) ?_
          simp [hw]
          refine ⟨⟨h1, o1, c1, [], j + 1⟩, ⟨by show j + 1 ≤ l.length; omega, t1, o1'⟩, by show l.length - (j + 1) < l.length - j; omega, ?_⟩
          have hlt1 := t1.lt
          have hi1 := t1.i_lt
          simp [Leq, hlt1, leqH_take, hi1]
          done
        · obtain ⟨cc, ks, kc⟩ := own_sorted (h := h1) o1'.nd (by omega) hL
          have t2 := t1.app [intsA cc] (by simp)
          have n9 : ¬ (m : Int) < (L'.length : Int) := by omega
          refine xcall_self (by simp) (llist_v t1 (by omega) hL) ?_
          simp
          refine xcall_self (by simp) ks ?_
          simp [n9]
          refine xcall_self (by simp) kc ?_
          simp
          refine xcall_self (by simp) (llen_c t2) ?_
          simp [hw]
          refine ⟨⟨h1 ++ [intsA cc], o1, c1, L', j + 1⟩, ⟨by show j + 1 ≤ l.length; omega, t2, o1'⟩, by show l.length - (j + 1) < l.length - j; omega, ?_⟩
          have hlt2 := t2.lt
          have hi1 := t1.i_lt
          have hi2 : 0 < h1.length + 1 := by omega
          simp at hlt2
          simp [Leq, hlt2, leqH_take, hi2]
          done
      · obtain ⟨h1, o1, c1, k1, t1, s1, l1, q1⟩ := lremove_c hat1 hok l[j].id
        have o1' := hok.rem l[j].id
        simp only [ldC] at k1
        generalize remI L l[j].id = L' at *
        simp [hop, hop2]
        refine xcall_self (by simp) k1 ?_
        simp
        have hlen := o1'.len
        by_cases hL : L' = []
        · subst hL
          refine xcall_self (by simp) (llist_c t1 (by simp)) ?_
          simp
          refine xcall_of (sort_e 1 none .no) (by simp) (by simp) ?_
          simp
          refine xcall_of (compact_e 1 none .no) (by simp) (by simp) ?_
          simp
          refine xcall_self (by simp) (llen_c t1) ?_
          simp [hw]
          refine ⟨⟨h1, o1, c1, [], j + 1⟩, ⟨by show j + 1 ≤ l.length; omega, t1, o1'⟩, by show l.length - (j + 1) < l.length - j; omega, ?_⟩
          have hlt1 := t1.lt
          have hi1 := t1.i_lt
          simp [Leq, hlt1, leqH_take, hi1]
          done
        · obtain ⟨cc, ks, kc⟩ := own_sorted (h := h1) o1'.nd (by omega) hL
          have t2 := t1.app [intsA cc] (by simp)
          have n9 : ¬ (m : Int) < (L'.length : Int) := by omega
          refine xcall_self (by simp) (llist_v t1 (by omega) hL) ?_
          simp
          refine xcall_self (by simp) ks ?_
          simp [n9]
          refine xcall_self (by simp) kc ?_
          simp
          refine xcall_self (by simp) (llen_c t2) ?_
          simp [hw]
          refine ⟨⟨h1 ++ [intsA cc], o1, c1, L', j + 1⟩, ⟨by show j + 1 ≤ l.length; omega, t2, o1'⟩, by show l.length - (j + 1) < l.length - j; omega, ?_⟩
          have hlt2 := t2.lt
          have hi1 := t1.i_lt
          have hi2 : 0 < h1.length + 1 := by omega
          simp at hlt2
          simp [Leq, hlt2, leqH_take, hi2]
          done
    · have : j = l.length := by omega
      subst this
      simp
      refine xcall_self (by simp) (lawake_c _) ?_
      simp
      done
theorem u8_of {a : Int} (h : (Lit.int .u8 a).wf = true) : ∃ n : Nat, n < 256 ∧ a = (n : Int) := by
  have lo : IntKind.u8.min = 0 := rfl
  have hi : IntKind.u8.max = 255 := rfl
  simp [Lit.wf] at h
  exact ⟨a.toNat, by omega, by omega⟩
theorem lbounds_l (a : Int) (l : List Ld) (h0 : (Lit.int .u8 a).wf = true) (h1 : l.length ≤ maxLen ∧ ∀ x ∈ l, OkLd x) : Contract Try.prog 4 [.v (.int .u8 a), .sl 2 (enc ldC l) none .no] [] (.v (.bool true)) [] [] := by
  obtain ⟨n, hn, rfl⟩ := u8_of h0
  exact lbounds_c n hn l
end Go.Proofs.Ytabfaambilbpeaa.Ax
