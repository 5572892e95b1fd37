/- Who waits, over values without memory: fifo. -/
import Derived.Test.YtlbgjlmokpkkeaaQAxX
import Derived.Test.YtlbgjlmokpkkeaaRows
import Derived.Test.YtlbgjlmokpkkeaaQAxMi
/- The texts of functions over values without memory, as the kernel reckons them out of the program. -/
namespace Go.Proofs.Ytlbgjlmokpkkeaa.Ax
open Go.RowKit Go By

def c6 : XFun := ⟨4, (.seq (.ops [⟨(some 0), (.assign (.const (.pointer none))), none⟩]) (.seq (.ops [⟨(some 1), (.makeMap 1 true), none⟩, ⟨(some 2), (.build [(.v (.map none)), (.v (.int .i64 0))] [(0, (1, (.tmp 1)))]), none⟩, ⟨(some 3), (.box (.tmp 2)), none⟩, ⟨(some 0), (.assign (.tmp 3)), none⟩]) .ret)), [(.move (.tmp 0))]⟩
theorem k6 : cfun Try.prog 6 = some c6 := by kernel_rfl
def c7 : XFun := ⟨34, (.seq (.ops [⟨(some 4), (.assign (.const (.bool false))), none⟩]) (.seq (.ops [⟨(some 8), (.move (.tmp 0)), none⟩, ⟨(some 9), (.call 19 [(.tmp 8)]), none⟩, ⟨(some 5), (.assign (.tmp 9)), none⟩]) (.seq (.seq (.ops [⟨(some 11), (.move (.tmp 5)), none⟩, ⟨(some 12), (.move (.tmp 1)), none⟩, ⟨(some 13), (.lookup (some .i64) 1 true true [(.v (.int .i64 0))] (.tmp 11) (.tmp 12)), none⟩, ⟨(some 10), (.move (.tmp 13)), none⟩, ⟨(some 14), (.extract (.tmp 10) 0), none⟩, ⟨(some 15), (.extract (.tmp 10) 1), none⟩, ⟨(some 6), (.assign (.tmp 14)), none⟩, ⟨(some 7), (.assign (.tmp 15)), none⟩]) (.seq (.ops [⟨(some 16), (.move (.tmp 7)), none⟩, ⟨(some 17), (.move (.tmp 16)), none⟩, ⟨(some 18), (.move (.tmp 5)), (some (17, false))⟩, ⟨(some 19), (.mnileq false (.tmp 18)), (some (17, false))⟩, ⟨(some 20), (.pick (.tmp 17) (.const (.bool true)) (.tmp 19)), none⟩]) (.cond (.tmp 20) (.seq (.ops [⟨(some 4), (.assign (.const (.bool false))), none⟩]) .ret) .skip))) (.seq (.ops [⟨(some 21), (.move (.tmp 5)), none⟩, ⟨(some 22), (.move (.tmp 1)), none⟩, ⟨(some 23), (.move (.tmp 0)), none⟩, ⟨(some 24), (.nilCheck (.tmp 23)), none⟩, ⟨(some 25), (.faddr 1 (.tmp 24)), none⟩, ⟨(some 26), (.load1 (.tmp 25)), none⟩, ⟨none, (.mapUpd (some .i64) 1 true (.tmp 21) (.tmp 22) (.tmp 26)), none⟩]) (.seq (.ops [⟨(some 27), (.move (.tmp 0)), none⟩, ⟨(some 28), (.nilCheck (.tmp 27)), none⟩, ⟨(some 29), (.faddr 1 (.tmp 28)), none⟩, ⟨(some 30), (.load1 (.tmp 29)), none⟩, ⟨(some 31), (.bin .add (.tmp 30) (.const (.int .i64 1))), none⟩, ⟨(some 32), (.nilCheck (.tmp 27)), none⟩, ⟨(some 33), (.faddr 1 (.tmp 32)), none⟩, ⟨none, (.store 1 (.tmp 33) (.tmp 31)), none⟩]) (.seq (.ops [⟨(some 4), (.assign (.const (.bool true))), none⟩]) .ret)))))), [(.move (.tmp 4))]⟩
theorem k7 : cfun Try.prog 7 = some c7 := by kernel_rfl
def c13 : XFun := ⟨30, (.seq (.ops [⟨(some 2), (.assign (.const (.int .i64 0))), none⟩, ⟨(some 3), (.assign (.const (.bool false))), none⟩]) (.seq (.ops [⟨(some 9), (.move (.tmp 0)), none⟩, ⟨(some 10), (.call 19 [(.tmp 9)]), none⟩, ⟨(some 4), (.assign (.tmp 10)), none⟩]) (.seq (.ops [⟨(some 5), (.assign (.const (.int .i64 0))), none⟩, ⟨(some 6), (.assign (.const (.bool false))), none⟩]) (.seq (.seq (.ops [⟨(some 11), (.move (.tmp 4)), none⟩, ⟨(some 12), (.rangeM 1 true (.tmp 11)), none⟩]) (.block 0 (.loop (.seq (.nexts (some 13) (.tmp 12) [⟨(some 14), (.extract (.tmp 13) 0), none⟩]) (.seq (.cond (.tmp 14) .skip (.exit 0)) (.block 1 (.seq (.ops [⟨(some 15), (.entry (.tmp 12)), none⟩, ⟨(some 16), (.extract (.tmp 15) 0), none⟩, ⟨(some 17), (.extract (.tmp 15) 1), none⟩, ⟨(some 7), (.assign (.tmp 16)), none⟩, ⟨(some 8), (.assign (.tmp 17)), none⟩]) (.seq (.ops [⟨(some 18), (.move (.tmp 6)), none⟩, ⟨(some 19), (.un .not (.tmp 18)), none⟩, ⟨(some 20), (.move (.tmp 19)), none⟩, ⟨(some 21), (.move (.tmp 8)), (some (20, false))⟩, ⟨(some 22), (.move (.tmp 4)), (some (20, false))⟩, ⟨(some 23), (.move (.tmp 5)), (some (20, false))⟩, ⟨(some 24), (.lookup (some .i64) 1 true false [(.v (.int .i64 0))] (.tmp 22) (.tmp 23)), (some (20, false))⟩, ⟨(some 25), (.bin .lss (.tmp 21) (.tmp 24)), (some (20, false))⟩, ⟨(some 26), (.pick (.tmp 20) (.const (.bool true)) (.tmp 25)), none⟩]) (.cond (.tmp 26) (.ops [⟨(some 27), (.move (.tmp 7)), none⟩, ⟨(some 5), (.assign (.tmp 27)), none⟩, ⟨(some 6), (.assign (.const (.bool true))), none⟩]) .skip))))))))) (.seq (.ops [⟨(some 28), (.move (.tmp 5)), none⟩, ⟨(some 29), (.move (.tmp 6)), none⟩, ⟨(some 2), (.assign (.tmp 28)), none⟩, ⟨(some 3), (.assign (.tmp 29)), none⟩]) .ret))))), [(.move (.tmp 2)), (.move (.tmp 3))]⟩
theorem k13 : cfun Try.prog 13 = some c13 := by kernel_rfl
def c9 : XFun := ⟨17, (.seq (.ops [⟨(some 2), (.assign (.const (.int .i64 0))), none⟩, ⟨(some 3), (.assign (.const (.bool false))), none⟩]) (.seq (.ops [⟨(some 7), (.move (.tmp 0)), none⟩, ⟨(some 8), (.call 13 [(.tmp 7)]), none⟩, ⟨(some 6), (.move (.tmp 8)), none⟩, ⟨(some 9), (.extract (.tmp 6) 0), none⟩, ⟨(some 10), (.extract (.tmp 6) 1), none⟩, ⟨(some 4), (.assign (.tmp 9)), none⟩, ⟨(some 5), (.assign (.tmp 10)), none⟩]) (.seq (.seq (.ops [⟨(some 11), (.move (.tmp 5)), none⟩]) (.cond (.tmp 11) (.ops [⟨(some 12), (.move (.tmp 0)), none⟩, ⟨(some 13), (.move (.tmp 4)), none⟩, ⟨(some 14), (.call 11 [(.tmp 12), (.tmp 13)]), none⟩]) .skip)) (.seq (.ops [⟨(some 15), (.move (.tmp 4)), none⟩, ⟨(some 16), (.move (.tmp 5)), none⟩, ⟨(some 2), (.assign (.tmp 15)), none⟩, ⟨(some 3), (.assign (.tmp 16)), none⟩]) .ret)))), [(.move (.tmp 2)), (.move (.tmp 3))]⟩
theorem k9 : cfun Try.prog 9 = some c9 := by kernel_rfl
def c11 : XFun := ⟨19, (.seq (.ops [⟨(some 4), (.assign (.const (.bool false))), none⟩]) (.seq (.ops [⟨(some 8), (.move (.tmp 0)), none⟩, ⟨(some 9), (.call 19 [(.tmp 8)]), none⟩, ⟨(some 5), (.assign (.tmp 9)), none⟩]) (.seq (.ops [⟨(some 11), (.move (.tmp 5)), none⟩, ⟨(some 12), (.move (.tmp 1)), none⟩, ⟨(some 13), (.lookup (some .i64) 1 true true [(.v (.int .i64 0))] (.tmp 11) (.tmp 12)), none⟩, ⟨(some 10), (.move (.tmp 13)), none⟩, ⟨(some 14), (.extract (.tmp 10) 0), none⟩, ⟨(some 15), (.extract (.tmp 10) 1), none⟩, ⟨(some 6), (.assign (.tmp 14)), none⟩, ⟨(some 7), (.assign (.tmp 15)), none⟩]) (.seq (.ops [⟨(some 16), (.move (.tmp 5)), none⟩, ⟨(some 17), (.move (.tmp 1)), none⟩, ⟨none, (.mapDel (some .i64) 1 true (.tmp 16) (.tmp 17)), none⟩]) (.seq (.ops [⟨(some 18), (.move (.tmp 7)), none⟩, ⟨(some 4), (.assign (.tmp 18)), none⟩]) .ret))))), [(.move (.tmp 4))]⟩
theorem k11 : cfun Try.prog 11 = some c11 := by kernel_rfl
def c15 : XFun := ⟨6, (.seq (.ops [⟨(some 2), (.assign (.const (.int .i64 0))), none⟩]) (.seq (.ops [⟨(some 3), (.move (.tmp 0)), none⟩, ⟨(some 4), (.call 19 [(.tmp 3)]), none⟩, ⟨(some 5), (.lenM 1 true (.tmp 4)), none⟩, ⟨(some 2), (.assign (.tmp 5)), none⟩]) .ret)), [(.move (.tmp 2))]⟩
theorem k15 : cfun Try.prog 15 = some c15 := by kernel_rfl
def c17 : XFun := ⟨22, (.seq (.ops [⟨(some 2), (.assign (.const (.slice none 0 0))), none⟩]) (.seq (.ops [⟨(some 6), (.move (.tmp 0)), none⟩, ⟨(some 7), (.call 19 [(.tmp 6)]), none⟩, ⟨(some 3), (.alloc [(.v (.map none))]), none⟩, ⟨none, (.store 1 (.tmp 3) (.tmp 7)), none⟩]) (.seq (.ops [⟨(some 4), (.assign (.const (.slice none 0 0))), none⟩]) (.seq (.seq (.ops [⟨(some 8), (.load1 (.tmp 3)), none⟩, ⟨(some 9), (.rangeM 1 true (.tmp 8)), none⟩]) (.block 0 (.loop (.seq (.nexts (some 10) (.tmp 9) [⟨(some 11), (.extract (.tmp 10) 0), none⟩]) (.seq (.cond (.tmp 11) .skip (.exit 0)) (.block 1 (.seq (.ops [⟨(some 12), (.entry (.tmp 9)), none⟩, ⟨(some 13), (.extract (.tmp 12) 0), none⟩, ⟨(some 5), (.assign (.tmp 13)), none⟩]) (.ops [⟨(some 14), (.move (.tmp 4)), none⟩, ⟨(some 15), (.move (.tmp 5)), none⟩, ⟨(some 16), (.buildSlice 1 1 [(.v (.int .i64 0))] [(0, (.tmp 15))]), none⟩, ⟨(some 17), (.append 1 8 (.tmp 14) (.tmp 16)), none⟩, ⟨(some 4), (.assign (.tmp 17)), none⟩])))))))) (.seq (.sortf 4 18 (.mkfn (.func 21) [] [(.tmp 3)]) 19 (some 20) 20) (.seq (.ops [⟨(some 21), (.move (.tmp 4)), none⟩, ⟨(some 2), (.assign (.tmp 21)), none⟩]) .ret)))))), [(.move (.tmp 2))]⟩
theorem k17 : cfun Try.prog 17 = some c17 := by kernel_rfl
def c19 : XFun := ⟨9, (.seq (.ops [⟨(some 2), (.assign (.const (.map none))), none⟩]) (.seq (.seq (.ops [⟨(some 3), (.move (.tmp 0)), none⟩, ⟨(some 4), (.pnileq false (.tmp 3)), none⟩]) (.cond (.tmp 4) (.seq (.ops [⟨(some 2), (.assign (.const (.map none))), none⟩]) .ret) .skip)) (.seq (.ops [⟨(some 5), (.move (.tmp 0)), none⟩, ⟨(some 6), (.nilCheck (.tmp 5)), none⟩, ⟨(some 7), (.faddr 0 (.tmp 6)), none⟩, ⟨(some 8), (.load1 (.tmp 7)), none⟩, ⟨(some 2), (.assign (.tmp 8)), none⟩]) .ret))), [(.move (.tmp 2))]⟩
theorem k19 : cfun Try.prog 19 = some c19 := by kernel_rfl
def c8 : XFun := ⟨34, (.seq (.ops [⟨(some 4), (.assign (.const (.bool false))), none⟩]) (.seq (.seq (.ops [⟨(some 5), (.assign (.const (.int .i64 0))), none⟩]) (.block 0 (.loop (.seq (.seq (.ops [⟨(some 6), (.move (.tmp 5)), none⟩, ⟨(some 7), (.move (.tmp 0)), none⟩, ⟨(some 8), (.nilCheck (.tmp 7)), none⟩, ⟨(some 9), (.faddr 0 (.tmp 8)), none⟩, ⟨(some 10), (.load1 (.tmp 9)), none⟩, ⟨(some 11), (.lenL (.tmp 10)), none⟩, ⟨(some 12), (.bin .lss (.tmp 6) (.tmp 11)), none⟩]) (.cond (.tmp 12) .skip (.exit 0))) (.seq (.block 1 (.seq (.ops [⟨(some 15), (.move (.tmp 0)), none⟩, ⟨(some 16), (.nilCheck (.tmp 15)), none⟩, ⟨(some 17), (.faddr 0 (.tmp 16)), none⟩, ⟨(some 18), (.load1 (.tmp 17)), none⟩, ⟨(some 19), (.move (.tmp 5)), none⟩, ⟨(some 20), (.iaddr 1 (.tmp 18) (.tmp 19)), none⟩, ⟨(some 21), (.load1 (.tmp 20)), none⟩, ⟨(some 22), (.move (.tmp 1)), none⟩, ⟨(some 23), (.bin .eql (.tmp 21) (.tmp 22)), none⟩]) (.cond (.tmp 23) (.seq (.ops [⟨(some 4), (.assign (.const (.bool false))), none⟩]) .ret) .skip))) (.ops [⟨(some 13), (.move (.tmp 5)), none⟩, ⟨(some 14), (.bin .add (.tmp 13) (.const (.int .i64 1))), none⟩, ⟨(some 5), (.assign (.tmp 14)), none⟩])))))) (.seq (.ops [⟨(some 24), (.move (.tmp 0)), none⟩, ⟨(some 25), (.move (.tmp 0)), none⟩, ⟨(some 26), (.nilCheck (.tmp 25)), none⟩, ⟨(some 27), (.faddr 0 (.tmp 26)), none⟩, ⟨(some 28), (.load1 (.tmp 27)), none⟩, ⟨(some 29), (.move (.tmp 1)), none⟩, ⟨(some 30), (.buildSlice 1 1 [(.v (.int .i64 0))] [(0, (.tmp 29))]), none⟩, ⟨(some 31), (.append 1 8 (.tmp 28) (.tmp 30)), none⟩, ⟨(some 32), (.nilCheck (.tmp 24)), none⟩, ⟨(some 33), (.faddr 0 (.tmp 32)), none⟩, ⟨none, (.store 1 (.tmp 33) (.tmp 31)), none⟩]) (.seq (.ops [⟨(some 4), (.assign (.const (.bool true))), none⟩]) .ret)))), [(.move (.tmp 4))]⟩
theorem k8 : cfun Try.prog 8 = some c8 := by kernel_rfl
def c14 : XFun := ⟨16, (.seq (.ops [⟨(some 2), (.assign (.const (.int .i64 0))), none⟩, ⟨(some 3), (.assign (.const (.bool false))), none⟩]) (.seq (.seq (.ops [⟨(some 4), (.move (.tmp 0)), none⟩, ⟨(some 5), (.nilCheck (.tmp 4)), none⟩, ⟨(some 6), (.faddr 0 (.tmp 5)), none⟩, ⟨(some 7), (.load1 (.tmp 6)), none⟩, ⟨(some 8), (.lenL (.tmp 7)), none⟩, ⟨(some 9), (.bin .eql (.tmp 8) (.const (.int .i64 0))), none⟩]) (.cond (.tmp 9) (.seq (.ops [⟨(some 2), (.assign (.const (.int .i64 0))), none⟩, ⟨(some 3), (.assign (.const (.bool false))), none⟩]) .ret) .skip)) (.seq (.ops [⟨(some 10), (.move (.tmp 0)), none⟩, ⟨(some 11), (.nilCheck (.tmp 10)), none⟩, ⟨(some 12), (.faddr 0 (.tmp 11)), none⟩, ⟨(some 13), (.load1 (.tmp 12)), none⟩, ⟨(some 14), (.iaddr 1 (.tmp 13) (.const (.int .i64 0))), none⟩, ⟨(some 15), (.load1 (.tmp 14)), none⟩, ⟨(some 2), (.assign (.tmp 15)), none⟩, ⟨(some 3), (.assign (.const (.bool true))), none⟩]) .ret))), [(.move (.tmp 2)), (.move (.tmp 3))]⟩
theorem k14 : cfun Try.prog 14 = some c14 := by kernel_rfl
def c10 : XFun := ⟨16, (.seq (.ops [⟨(some 2), (.assign (.const (.int .i64 0))), none⟩, ⟨(some 3), (.assign (.const (.bool false))), none⟩]) (.seq (.ops [⟨(some 7), (.move (.tmp 0)), none⟩, ⟨(some 8), (.call 14 [(.tmp 7)]), none⟩, ⟨(some 6), (.move (.tmp 8)), none⟩, ⟨(some 9), (.extract (.tmp 6) 0), none⟩, ⟨(some 10), (.extract (.tmp 6) 1), none⟩, ⟨(some 4), (.assign (.tmp 9)), none⟩, ⟨(some 5), (.assign (.tmp 10)), none⟩]) (.seq (.ops [⟨(some 11), (.move (.tmp 0)), none⟩, ⟨(some 12), (.move (.tmp 4)), none⟩, ⟨(some 13), (.call 12 [(.tmp 11), (.tmp 12)]), none⟩]) (.seq (.ops [⟨(some 14), (.move (.tmp 4)), none⟩, ⟨(some 15), (.move (.tmp 5)), none⟩, ⟨(some 2), (.assign (.tmp 14)), none⟩, ⟨(some 3), (.assign (.tmp 15)), none⟩]) .ret)))), [(.move (.tmp 2)), (.move (.tmp 3))]⟩
theorem k10 : cfun Try.prog 10 = some c10 := by kernel_rfl
def c12 : XFun := ⟨49, (.seq (.ops [⟨(some 4), (.assign (.const (.bool false))), none⟩]) (.seq (.ops [⟨(some 5), (.assign (.const (.slice none 0 0))), none⟩]) (.seq (.seq (.ops [⟨(some 6), (.assign (.const (.int .i64 0))), none⟩]) (.block 0 (.loop (.seq (.seq (.ops [⟨(some 8), (.move (.tmp 6)), none⟩, ⟨(some 9), (.move (.tmp 0)), none⟩, ⟨(some 10), (.nilCheck (.tmp 9)), none⟩, ⟨(some 11), (.faddr 0 (.tmp 10)), none⟩, ⟨(some 12), (.load1 (.tmp 11)), none⟩, ⟨(some 13), (.lenL (.tmp 12)), none⟩, ⟨(some 14), (.bin .lss (.tmp 8) (.tmp 13)), none⟩]) (.cond (.tmp 14) .skip (.exit 0))) (.seq (.block 1 (.seq (.ops [⟨(some 17), (.move (.tmp 0)), none⟩, ⟨(some 18), (.nilCheck (.tmp 17)), none⟩, ⟨(some 19), (.faddr 0 (.tmp 18)), none⟩, ⟨(some 20), (.load1 (.tmp 19)), none⟩, ⟨(some 21), (.move (.tmp 6)), none⟩, ⟨(some 22), (.iaddr 1 (.tmp 20) (.tmp 21)), none⟩, ⟨(some 23), (.load1 (.tmp 22)), none⟩, ⟨(some 24), (.move (.tmp 1)), none⟩, ⟨(some 25), (.bin .neq (.tmp 23) (.tmp 24)), none⟩]) (.cond (.tmp 25) (.ops [⟨(some 26), (.move (.tmp 5)), none⟩, ⟨(some 27), (.move (.tmp 0)), none⟩, ⟨(some 28), (.nilCheck (.tmp 27)), none⟩, ⟨(some 29), (.faddr 0 (.tmp 28)), none⟩, ⟨(some 30), (.load1 (.tmp 29)), none⟩, ⟨(some 31), (.move (.tmp 6)), none⟩, ⟨(some 32), (.iaddr 1 (.tmp 30) (.tmp 31)), none⟩, ⟨(some 33), (.load1 (.tmp 32)), none⟩, ⟨(some 34), (.buildSlice 1 1 [(.v (.int .i64 0))] [(0, (.tmp 33))]), none⟩, ⟨(some 35), (.append 1 8 (.tmp 26) (.tmp 34)), none⟩, ⟨(some 5), (.assign (.tmp 35)), none⟩]) .skip))) (.ops [⟨(some 15), (.move (.tmp 6)), none⟩, ⟨(some 16), (.bin .add (.tmp 15) (.const (.int .i64 1))), none⟩, ⟨(some 6), (.assign (.tmp 16)), none⟩])))))) (.seq (.ops [⟨(some 36), (.move (.tmp 5)), none⟩, ⟨(some 37), (.lenL (.tmp 36)), none⟩, ⟨(some 38), (.move (.tmp 0)), none⟩, ⟨(some 39), (.nilCheck (.tmp 38)), none⟩, ⟨(some 40), (.faddr 0 (.tmp 39)), none⟩, ⟨(some 41), (.load1 (.tmp 40)), none⟩, ⟨(some 42), (.lenL (.tmp 41)), none⟩, ⟨(some 43), (.bin .lss (.tmp 37) (.tmp 42)), none⟩, ⟨(some 7), (.assign (.tmp 43)), none⟩]) (.seq (.ops [⟨(some 44), (.move (.tmp 0)), none⟩, ⟨(some 45), (.move (.tmp 5)), none⟩, ⟨(some 46), (.nilCheck (.tmp 44)), none⟩, ⟨(some 47), (.faddr 0 (.tmp 46)), none⟩, ⟨none, (.store 1 (.tmp 47) (.tmp 45)), none⟩]) (.seq (.ops [⟨(some 48), (.move (.tmp 7)), none⟩, ⟨(some 4), (.assign (.tmp 48)), none⟩]) .ret)))))), [(.move (.tmp 4))]⟩
theorem k12 : cfun Try.prog 12 = some c12 := by kernel_rfl
def c18 : XFun := ⟨41, (.seq (.ops [⟨(some 0), (.assign (.const (.bool false))), none⟩]) (.seq (.ops [⟨(some 4), (.call 6 []), none⟩, ⟨(some 1), (.assign (.tmp 4)), none⟩]) (.seq (.seq (.ops [⟨(some 5), (.move (.tmp 1)), none⟩, ⟨(some 6), (.pnileq false (.tmp 5)), none⟩, ⟨(some 7), (.move (.tmp 6)), none⟩, ⟨(some 8), (.move (.tmp 1)), (some (7, false))⟩, ⟨(some 9), (.call 7 [(.tmp 8), (.const (.int .i64 3))]), (some (7, false))⟩, ⟨(some 10), (.un .not (.tmp 9)), (some (7, false))⟩, ⟨(some 11), (.pick (.tmp 7) (.const (.bool true)) (.tmp 10)), none⟩, ⟨(some 12), (.move (.tmp 11)), none⟩, ⟨(some 13), (.move (.tmp 1)), (some (12, false))⟩, ⟨(some 14), (.call 7 [(.tmp 13), (.const (.int .i64 5))]), (some (12, false))⟩, ⟨(some 15), (.un .not (.tmp 14)), (some (12, false))⟩, ⟨(some 16), (.pick (.tmp 12) (.const (.bool true)) (.tmp 15)), none⟩, ⟨(some 17), (.move (.tmp 16)), none⟩, ⟨(some 18), (.move (.tmp 1)), (some (17, false))⟩, ⟨(some 19), (.call 7 [(.tmp 18), (.const (.int .i64 3))]), (some (17, false))⟩, ⟨(some 20), (.pick (.tmp 17) (.const (.bool true)) (.tmp 19)), none⟩, ⟨(some 21), (.move (.tmp 20)), none⟩, ⟨(some 22), (.move (.tmp 1)), (some (21, false))⟩, ⟨(some 23), (.call 11 [(.tmp 22), (.const (.int .i64 3))]), (some (21, false))⟩, ⟨(some 24), (.un .not (.tmp 23)), (some (21, false))⟩, ⟨(some 25), (.pick (.tmp 21) (.const (.bool true)) (.tmp 24)), none⟩]) (.cond (.tmp 25) (.seq (.ops [⟨(some 0), (.assign (.const (.bool false))), none⟩]) .ret) .skip)) (.seq (.ops [⟨(some 27), (.move (.tmp 1)), none⟩, ⟨(some 28), (.call 13 [(.tmp 27)]), none⟩, ⟨(some 26), (.move (.tmp 28)), none⟩, ⟨(some 29), (.extract (.tmp 26) 0), none⟩, ⟨(some 30), (.extract (.tmp 26) 1), none⟩, ⟨(some 2), (.assign (.tmp 29)), none⟩, ⟨(some 3), (.assign (.tmp 30)), none⟩]) (.seq (.ops [⟨(some 31), (.move (.tmp 3)), none⟩, ⟨(some 32), (.move (.tmp 31)), none⟩, ⟨(some 33), (.move (.tmp 2)), (some (32, true))⟩, ⟨(some 34), (.bin .eql (.tmp 33) (.const (.int .i64 5))), (some (32, true))⟩, ⟨(some 35), (.pick (.tmp 32) (.tmp 34) (.const (.bool false))), none⟩, ⟨(some 36), (.move (.tmp 35)), none⟩, ⟨(some 37), (.move (.tmp 1)), (some (36, true))⟩, ⟨(some 38), (.call 15 [(.tmp 37)]), (some (36, true))⟩, ⟨(some 39), (.bin .eql (.tmp 38) (.const (.int .i64 1))), (some (36, true))⟩, ⟨(some 40), (.pick (.tmp 36) (.tmp 39) (.const (.bool false))), none⟩, ⟨(some 0), (.assign (.tmp 40)), none⟩]) .ret))))), [(.move (.tmp 0))]⟩
theorem k18 : cfun Try.prog 18 = some c18 := by kernel_rfl
def c3 : XFun := ⟨116, (.seq (.ops [⟨(some 2), (.assign (.const (.bool false))), none⟩]) (.seq (.ops [⟨(some 16), (.call 6 []), none⟩, ⟨(some 17), (.build [(.sl 0 [] (some true) .exact)] []), none⟩, ⟨(some 18), (.box (.tmp 17)), none⟩, ⟨(some 3), (.assign (.tmp 16)), none⟩, ⟨(some 4), (.assign (.tmp 18)), none⟩]) (.seq (.seq (.ops [⟨(some 19), (.move (.tmp 0)), none⟩, ⟨(some 20), (.lenL (.tmp 19)), none⟩, ⟨(some 21), (.move (.const (.int .i64 0))), none⟩]) (.block 0 (.loop (.seq (.ops [⟨(some 22), (.bin .lss (.tmp 21) (.tmp 20)), none⟩]) (.seq (.cond (.tmp 22) .skip (.exit 0)) (.seq (.block 1 (.seq (.ops [⟨(some 23), (.move (.tmp 21)), none⟩, ⟨(some 24), (.iaddr 2 (.tmp 19) (.tmp 21)), none⟩, ⟨(some 25), (.loadN 2 (.tmp 24)), none⟩, ⟨(some 6), (.alloc [(.v (.int .i64 0)), (.v (.int .i64 0))]), none⟩, ⟨(some 5), (.assign (.tmp 23)), none⟩, ⟨none, (.store 2 (.tmp 6) (.tmp 25)), none⟩]) (.seq (.seq (.ops [⟨(some 26), (.move (.tmp 5)), none⟩, ⟨(some 27), (.bin .geq (.tmp 26) (.const (.int .i64 100))), none⟩]) (.cond (.tmp 27) (.exit 0) .skip)) (.seq (.ops [⟨(some 7), (.assign (.const (.bool true))), none⟩]) (.seq (.seq (.ops [⟨(some 28), (.faddr 0 (.tmp 6)), none⟩, ⟨(some 29), (.load1 (.tmp 28)), none⟩]) (.block 2 (.seq (.seq (.ops [⟨(some 40), (.bin .eql (.tmp 29) (.const (.int .i64 0))), none⟩, ⟨(some 39), (.assign (.tmp 40)), none⟩]) (.cond (.tmp 39) .skip (.seq (.ops [⟨(some 41), (.bin .eql (.tmp 29) (.const (.int .i64 1))), none⟩, ⟨(some 39), (.assign (.tmp 41)), none⟩]) (.cond (.tmp 39) .skip (.ops [⟨(some 42), (.bin .eql (.tmp 29) (.const (.int .i64 2))), none⟩, ⟨(some 39), (.assign (.tmp 42)), none⟩]))))) (.cond (.tmp 39) (.draws (.take ⟨(some 43), (.move (.tmp 3)), none⟩ (.take ⟨(some 44), (.faddr 1 (.tmp 6)), none⟩ (.take ⟨(some 45), (.load1 (.tmp 44)), none⟩ (.take ⟨(some 47), (.move (.tmp 4)), none⟩ (.take ⟨(some 48), (.faddr 1 (.tmp 6)), none⟩ (.take ⟨(some 49), (.load1 (.tmp 48)), none⟩ (.only ⟨(some 46), (.call 7 [(.tmp 43), (.tmp 45)]), none⟩ (.only ⟨(some 50), (.call 8 [(.tmp 47), (.tmp 49)]), none⟩ (.take ⟨(some 51), (.beq false (.tmp 46) (.tmp 50)), none⟩ (.take ⟨(some 7), (.assign (.tmp 51)), none⟩ .done))))))))))) (.seq (.ops [⟨(some 53), (.bin .eql (.tmp 29) (.const (.int .i64 3))), none⟩, ⟨(some 52), (.assign (.tmp 53)), none⟩]) (.cond (.tmp 52) (.seq (.ops [⟨(some 55), (.move (.tmp 3)), none⟩, ⟨(some 56), (.call 9 [(.tmp 55)]), none⟩, ⟨(some 54), (.move (.tmp 56)), none⟩, ⟨(some 57), (.extract (.tmp 54) 0), none⟩, ⟨(some 58), (.extract (.tmp 54) 1), none⟩, ⟨(some 8), (.assign (.tmp 57)), none⟩, ⟨(some 9), (.assign (.tmp 58)), none⟩]) (.seq (.ops [⟨(some 60), (.move (.tmp 4)), none⟩, ⟨(some 61), (.call 10 [(.tmp 60)]), none⟩, ⟨(some 59), (.move (.tmp 61)), none⟩, ⟨(some 62), (.extract (.tmp 59) 0), none⟩, ⟨(some 63), (.extract (.tmp 59) 1), none⟩, ⟨(some 10), (.assign (.tmp 62)), none⟩, ⟨(some 11), (.assign (.tmp 63)), none⟩]) (.ops [⟨(some 64), (.move (.tmp 8)), none⟩, ⟨(some 65), (.move (.tmp 10)), none⟩, ⟨(some 66), (.bin .eql (.tmp 64) (.tmp 65)), none⟩, ⟨(some 67), (.move (.tmp 66)), none⟩, ⟨(some 68), (.move (.tmp 9)), (some (67, true))⟩, ⟨(some 69), (.move (.tmp 11)), (some (67, true))⟩, ⟨(some 70), (.beq false (.tmp 68) (.tmp 69)), (some (67, true))⟩, ⟨(some 71), (.pick (.tmp 67) (.tmp 70) (.const (.bool false))), none⟩, ⟨(some 7), (.assign (.tmp 71)), none⟩]))) (.draws (.take ⟨(some 30), (.move (.tmp 3)), none⟩ (.take ⟨(some 31), (.faddr 1 (.tmp 6)), none⟩ (.take ⟨(some 32), (.load1 (.tmp 31)), none⟩ (.take ⟨(some 34), (.move (.tmp 4)), none⟩ (.take ⟨(some 35), (.faddr 1 (.tmp 6)), none⟩ (.take ⟨(some 36), (.load1 (.tmp 35)), none⟩ (.only ⟨(some 33), (.call 11 [(.tmp 30), (.tmp 32)]), none⟩ (.only ⟨(some 37), (.call 12 [(.tmp 34), (.tmp 36)]), none⟩ (.take ⟨(some 38), (.beq false (.tmp 33) (.tmp 37)), none⟩ (.take ⟨(some 7), (.assign (.tmp 38)), none⟩ .done))))))))))))))))) (.seq (.ops [⟨(some 73), (.move (.tmp 3)), none⟩, ⟨(some 74), (.call 13 [(.tmp 73)]), none⟩, ⟨(some 72), (.move (.tmp 74)), none⟩, ⟨(some 75), (.extract (.tmp 72) 0), none⟩, ⟨(some 76), (.extract (.tmp 72) 1), none⟩, ⟨(some 12), (.assign (.tmp 75)), none⟩, ⟨(some 13), (.assign (.tmp 76)), none⟩]) (.seq (.ops [⟨(some 78), (.move (.tmp 4)), none⟩, ⟨(some 79), (.call 14 [(.tmp 78)]), none⟩, ⟨(some 77), (.move (.tmp 79)), none⟩, ⟨(some 80), (.extract (.tmp 77) 0), none⟩, ⟨(some 81), (.extract (.tmp 77) 1), none⟩, ⟨(some 14), (.assign (.tmp 80)), none⟩, ⟨(some 15), (.assign (.tmp 81)), none⟩]) (.seq (.draws (.take ⟨(some 82), (.move (.tmp 7)), none⟩ (.take ⟨(some 83), (.un .not (.tmp 82)), none⟩ (.take ⟨(some 84), (.move (.tmp 83)), none⟩ (.take ⟨(some 85), (.move (.tmp 12)), (some (84, false))⟩ (.take ⟨(some 86), (.move (.tmp 14)), (some (84, false))⟩ (.take ⟨(some 87), (.bin .neq (.tmp 85) (.tmp 86)), (some (84, false))⟩ (.take ⟨(some 88), (.pick (.tmp 84) (.const (.bool true)) (.tmp 87)), none⟩ (.take ⟨(some 89), (.move (.tmp 88)), none⟩ (.take ⟨(some 90), (.move (.tmp 13)), (some (89, false))⟩ (.take ⟨(some 91), (.move (.tmp 15)), (some (89, false))⟩ (.take ⟨(some 92), (.beq true (.tmp 90) (.tmp 91)), (some (89, false))⟩ (.take ⟨(some 93), (.pick (.tmp 89) (.const (.bool true)) (.tmp 92)), none⟩ (.take ⟨(some 94), (.move (.tmp 93)), none⟩ (.take ⟨(some 95), (.move (.tmp 3)), (some (94, false))⟩ (.take ⟨(some 97), (.move (.tmp 4)), (some (94, false))⟩ (.take ⟨(some 98), (.nilCheck (.tmp 97)), (some (94, false))⟩ (.take ⟨(some 99), (.faddr 0 (.tmp 98)), (some (94, false))⟩ (.take ⟨(some 100), (.load1 (.tmp 99)), (some (94, false))⟩ (.take ⟨(some 101), (.lenL (.tmp 100)), (some (94, false))⟩ (.only ⟨(some 96), (.call 15 [(.tmp 95)]), (some (94, false))⟩ (.take ⟨(some 102), (.bin .neq (.tmp 96) (.tmp 101)), (some (94, false))⟩ (.take ⟨(some 103), (.pick (.tmp 94) (.const (.bool true)) (.tmp 102)), none⟩ (.take ⟨(some 104), (.move (.tmp 103)), none⟩ (.take ⟨(some 105), (.move (.tmp 3)), (some (104, false))⟩ (.take ⟨(some 107), (.move (.tmp 4)), (some (104, false))⟩ (.take ⟨(some 108), (.nilCheck (.tmp 107)), (some (104, false))⟩ (.take ⟨(some 109), (.faddr 0 (.tmp 108)), (some (104, false))⟩ (.take ⟨(some 110), (.load1 (.tmp 109)), (some (104, false))⟩ (.only ⟨(some 106), (.call 17 [(.tmp 105)]), (some (104, false))⟩ (.only ⟨(some 111), (.call 16 [(.tmp 106), (.tmp 110)]), (some (104, false))⟩ (.take ⟨(some 112), (.un .not (.tmp 111)), (some (104, false))⟩ (.take ⟨(some 113), (.pick (.tmp 104) (.const (.bool true)) (.tmp 112)), none⟩ .done))))))))))))))))))))))))))))))))) (.cond (.tmp 113) (.seq (.ops [⟨(some 2), (.assign (.const (.bool false))), none⟩]) .ret) .skip))))))))) (.ops [⟨(some 114), (.bin .add (.tmp 21) (.const (.int .i64 1))), none⟩, ⟨(some 21), (.move (.tmp 114)), none⟩]))))))) (.seq (.ops [⟨(some 115), (.call 18 []), none⟩, ⟨(some 2), (.assign (.tmp 115)), none⟩]) .ret)))), [(.move (.tmp 2))]⟩
theorem k3 : cfun Try.prog 3 = some c3 := by kernel_rfl
def c4 : XFun := ⟨59, (.seq (.ops [⟨(some 2), (.assign (.const (.bool false))), none⟩]) (.seq (.ops [⟨(some 10), (.call 6 []), none⟩, ⟨(some 3), (.assign (.tmp 10)), none⟩]) (.seq (.ops [⟨(some 11), (.makeMap 1 true), none⟩, ⟨(some 4), (.assign (.tmp 11)), none⟩]) (.seq (.ops [⟨(some 5), (.assign (.const (.int .i64 0))), none⟩]) (.seq (.seq (.ops [⟨(some 12), (.move (.tmp 0)), none⟩, ⟨(some 13), (.lenL (.tmp 12)), none⟩, ⟨(some 14), (.move (.const (.int .i64 0))), none⟩]) (.block 0 (.loop (.seq (.ops [⟨(some 15), (.bin .lss (.tmp 14) (.tmp 13)), none⟩]) (.seq (.cond (.tmp 15) .skip (.exit 0)) (.seq (.block 1 (.seq (.ops [⟨(some 16), (.move (.tmp 14)), none⟩, ⟨(some 17), (.iaddr 2 (.tmp 12) (.tmp 14)), none⟩, ⟨(some 18), (.loadN 2 (.tmp 17)), none⟩, ⟨(some 7), (.alloc [(.v (.int .i64 0)), (.v (.int .i64 0))]), none⟩, ⟨(some 6), (.assign (.tmp 16)), none⟩, ⟨none, (.store 2 (.tmp 7) (.tmp 18)), none⟩]) (.seq (.seq (.ops [⟨(some 19), (.move (.tmp 6)), none⟩, ⟨(some 20), (.bin .geq (.tmp 19) (.const (.int .i64 100))), none⟩]) (.cond (.tmp 20) (.exit 0) .skip)) (.seq (.seq (.ops [⟨(some 21), (.faddr 0 (.tmp 7)), none⟩, ⟨(some 22), (.load1 (.tmp 21)), none⟩, ⟨(some 23), (.bin .lss (.tmp 22) (.const (.int .i64 3))), none⟩]) (.cond (.tmp 23) (.seq (.seq (.ops [⟨(some 24), (.move (.tmp 3)), none⟩, ⟨(some 25), (.faddr 1 (.tmp 7)), none⟩, ⟨(some 26), (.load1 (.tmp 25)), none⟩, ⟨(some 27), (.call 7 [(.tmp 24), (.tmp 26)]), none⟩]) (.cond (.tmp 27) (.ops [⟨(some 28), (.move (.tmp 4)), none⟩, ⟨(some 29), (.faddr 1 (.tmp 7)), none⟩, ⟨(some 30), (.load1 (.tmp 29)), none⟩, ⟨(some 31), (.move (.tmp 6)), none⟩, ⟨(some 32), (.bin .add (.tmp 31) (.const (.int .i64 1))), none⟩, ⟨none, (.mapUpd (some .i64) 1 true (.tmp 28) (.tmp 30) (.tmp 32)), none⟩]) .skip)) (.exit 1)) .skip)) (.seq (.seq (.ops [⟨(some 33), (.faddr 0 (.tmp 7)), none⟩, ⟨(some 34), (.load1 (.tmp 33)), none⟩, ⟨(some 35), (.bin .gtr (.tmp 34) (.const (.int .i64 3))), none⟩]) (.cond (.tmp 35) (.seq (.ops [⟨(some 36), (.move (.tmp 3)), none⟩, ⟨(some 37), (.faddr 1 (.tmp 7)), none⟩, ⟨(some 38), (.load1 (.tmp 37)), none⟩, ⟨(some 39), (.call 11 [(.tmp 36), (.tmp 38)]), none⟩]) (.exit 1)) .skip)) (.seq (.ops [⟨(some 41), (.move (.tmp 3)), none⟩, ⟨(some 42), (.call 9 [(.tmp 41)]), none⟩, ⟨(some 40), (.move (.tmp 42)), none⟩, ⟨(some 43), (.extract (.tmp 40) 0), none⟩, ⟨(some 44), (.extract (.tmp 40) 1), none⟩, ⟨(some 8), (.assign (.tmp 43)), none⟩, ⟨(some 9), (.assign (.tmp 44)), none⟩]) (.seq (.seq (.ops [⟨(some 45), (.move (.tmp 9)), none⟩, ⟨(some 46), (.move (.tmp 45)), none⟩, ⟨(some 47), (.move (.tmp 4)), (some (46, true))⟩, ⟨(some 48), (.move (.tmp 8)), (some (46, true))⟩, ⟨(some 49), (.lookup (some .i64) 1 true false [(.v (.int .i64 0))] (.tmp 47) (.tmp 48)), (some (46, true))⟩, ⟨(some 50), (.move (.tmp 5)), (some (46, true))⟩, ⟨(some 51), (.bin .leq (.tmp 49) (.tmp 50)), (some (46, true))⟩, ⟨(some 52), (.pick (.tmp 46) (.tmp 51) (.const (.bool false))), none⟩]) (.cond (.tmp 52) (.seq (.ops [⟨(some 2), (.assign (.const (.bool false))), none⟩]) .ret) .skip)) (.seq (.ops [⟨(some 53), (.move (.tmp 9)), none⟩]) (.cond (.tmp 53) (.ops [⟨(some 54), (.move (.tmp 4)), none⟩, ⟨(some 55), (.move (.tmp 8)), none⟩, ⟨(some 56), (.lookup (some .i64) 1 true false [(.v (.int .i64 0))] (.tmp 54) (.tmp 55)), none⟩, ⟨(some 5), (.assign (.tmp 56)), none⟩]) .skip))))))))) (.ops [⟨(some 57), (.bin .add (.tmp 14) (.const (.int .i64 1))), none⟩, ⟨(some 14), (.move (.tmp 57)), none⟩]))))))) (.seq (.ops [⟨(some 58), (.call 18 []), none⟩, ⟨(some 2), (.assign (.tmp 58)), none⟩]) .ret)))))), [(.move (.tmp 2))]⟩
theorem k4 : cfun Try.prog 4 = some c4 := by kernel_rfl
def c5 : XFun := ⟨54, (.seq (.ops [⟨(some 2), (.assign (.const (.bool false))), none⟩]) (.seq (.ops [⟨(some 3), (.assign (.const (.pointer none))), none⟩]) (.seq (.ops [⟨(some 4), (.alloc [(.v (.map none)), (.v (.int .i64 0))]), none⟩]) (.seq (.ops [⟨(some 10), (.move (.tmp 3)), none⟩, ⟨(some 11), (.call 13 [(.tmp 10)]), none⟩, ⟨(some 9), (.move (.tmp 11)), none⟩, ⟨(some 12), (.extract (.tmp 9) 0), none⟩, ⟨(some 13), (.extract (.tmp 9) 1), none⟩, ⟨(some 5), (.assign (.tmp 12)), none⟩, ⟨(some 6), (.assign (.tmp 13)), none⟩]) (.seq (.ops [⟨(some 15), (.call 9 [(.tmp 4)]), none⟩, ⟨(some 14), (.move (.tmp 15)), none⟩, ⟨(some 16), (.extract (.tmp 14) 0), none⟩, ⟨(some 17), (.extract (.tmp 14) 1), none⟩, ⟨(some 7), (.assign (.tmp 16)), none⟩, ⟨(some 8), (.assign (.tmp 17)), none⟩]) (.seq (.ops [⟨(some 18), (.move (.tmp 3)), none⟩, ⟨(some 19), (.move (.tmp 0)), none⟩, ⟨(some 20), (.call 7 [(.tmp 18), (.tmp 19)]), none⟩, ⟨(some 21), (.un .not (.tmp 20)), none⟩, ⟨(some 22), (.move (.tmp 21)), none⟩, ⟨(some 23), (.move (.tmp 0)), (some (22, true))⟩, ⟨(some 24), (.call 7 [(.tmp 4), (.tmp 23)]), (some (22, true))⟩, ⟨(some 25), (.un .not (.tmp 24)), (some (22, true))⟩, ⟨(some 26), (.pick (.tmp 22) (.tmp 25) (.const (.bool false))), none⟩, ⟨(some 27), (.move (.tmp 26)), none⟩, ⟨(some 28), (.move (.tmp 6)), (some (27, true))⟩, ⟨(some 29), (.un .not (.tmp 28)), (some (27, true))⟩, ⟨(some 30), (.pick (.tmp 27) (.tmp 29) (.const (.bool false))), none⟩, ⟨(some 31), (.move (.tmp 30)), none⟩, ⟨(some 32), (.move (.tmp 8)), (some (31, true))⟩, ⟨(some 33), (.un .not (.tmp 32)), (some (31, true))⟩, ⟨(some 34), (.pick (.tmp 31) (.tmp 33) (.const (.bool false))), none⟩, ⟨(some 35), (.move (.tmp 34)), none⟩, ⟨(some 36), (.move (.tmp 3)), (some (35, true))⟩, ⟨(some 37), (.move (.tmp 0)), (some (35, true))⟩, ⟨(some 38), (.call 11 [(.tmp 36), (.tmp 37)]), (some (35, true))⟩, ⟨(some 39), (.un .not (.tmp 38)), (some (35, true))⟩, ⟨(some 40), (.pick (.tmp 35) (.tmp 39) (.const (.bool false))), none⟩, ⟨(some 41), (.move (.tmp 40)), none⟩, ⟨(some 42), (.move (.tmp 3)), (some (41, true))⟩, ⟨(some 43), (.call 15 [(.tmp 42)]), (some (41, true))⟩, ⟨(some 44), (.bin .eql (.tmp 43) (.const (.int .i64 0))), (some (41, true))⟩, ⟨(some 45), (.pick (.tmp 41) (.tmp 44) (.const (.bool false))), none⟩, ⟨(some 46), (.move (.tmp 45)), none⟩, ⟨(some 47), (.call 17 [(.tmp 4)]), (some (46, true))⟩, ⟨(some 48), (.lenL (.tmp 47)), (some (46, true))⟩, ⟨(some 49), (.bin .eql (.tmp 48) (.const (.int .i64 0))), (some (46, true))⟩, ⟨(some 50), (.pick (.tmp 46) (.tmp 49) (.const (.bool false))), none⟩, ⟨(some 51), (.move (.tmp 50)), none⟩, ⟨(some 52), (.call 18 []), (some (51, true))⟩, ⟨(some 53), (.pick (.tmp 51) (.tmp 52) (.const (.bool false))), none⟩, ⟨(some 2), (.assign (.tmp 53)), none⟩]) .ret)))))), [(.move (.tmp 2))]⟩
theorem k5 : cfun Try.prog 5 = some c5 := by kernel_rfl
end Go.Proofs.Ytlbgjlmokpkkeaa.Ax
namespace Go.Proofs.Ytlbgjlmokpkkeaa.Ax
open Go.RowKit Go By
set_option linter.unusedSimpArgs false
set_option linter.unusedVariables false
set_option maxRecDepth 10000

theorem mixedFo : Try.prog.follows .mixedOrders = true := by kernel_rfl
/-- Who waits, with the turns: whoever came first has the least. -/
structure Ff where
  a : Nat
  clock : Nat
  next : Nat
  l : List (IE Int)
def Ff.cells (F : Ff) : List AV := mapC F.clock (F.l.map (IE.ent intC))
def Ff.top (F : Ff) : List AV := [.mp F.a 1 true, .v (.int .i64 (F.next : Int))]
def Ff.waits (F : Ff) : List Int := F.l.map IE.key
structure FfAt (h : List (List AV)) (i : Nat) (F : Ff) : Prop where
  top : h[i]? = some F.top
  ents : h[F.a]? = some F.cells
  ne : i ≠ F.a
structure FfOk (n : Nat) (F : Ff) : Prop where
  ok : IE.Ok F.clock F.l
  rise : F.l.Pairwise fun x y => x.val < y.val
  lt : ∀ x ∈ F.l, 0 ≤ x.val ∧ x.val < F.next
  next : F.next ≤ n
  len : F.l.length ≤ n
theorem intC_len (n : Int) : (intC n).length = 1 := rfl
theorem intC_plain (n : Int) : ∀ c ∈ intC n, c.idOf = none := by simp [intC]
theorem intC_lt (n : Int) (k : Nat) : ltL k (intC n) := by simp [intC]
theorem Ff.of_cells (F : Ff) : mapOf 1 F.cells = some (F.clock, F.l.map (IE.ent intC)) := IE.ents_of intC_len _ _
theorem Ff.keys (F : Ff) : keysOk (some .i64) (F.l.map (IE.ent intC)) := IE.ents_keys intC_plain _
theorem Ff.plain (F : Ff) : ∀ c ∈ F.cells, c.idOf = none := IE.ents_plain intC_plain _ _
theorem Ff.lt (F : Ff) (n : Nat) : ltL n F.cells := mapC_ltE fun e he => by obtain ⟨s, _, rfl⟩ := List.mem_map.1 he; exact intC_lt _ _
theorem Ff.found (F : Ff) (k : Int) : Ax.found true true [.v (.int .i64 0)] (AEnt.find (.int .i64 k) (F.l.map (IE.ent intC)) 0) = .tup [.v (.int .i64 ((IE.get k F.l).getD 0)), .v (.bool (IE.get k F.l).isSome)] := by
  rw [IE.found_eq]
  cases IE.get k F.l <;> rfl
theorem Ff.found1 (F : Ff) (k : Int) : Ax.found true false [.v (.int .i64 0)] (AEnt.find (.int .i64 k) (F.l.map (IE.ent intC)) 0) = .v (.int .i64 ((IE.get k F.l).getD 0)) := by
  rw [IE.found_eq]
  cases IE.get k F.l <;> rfl
theorem Ff.get_mem (F : Ff) (k : Int) : (IE.get k F.l).isSome = decide (k ∈ F.waits) := by
  rw [IE.get_isSome, Bool.eq_iff_iff]
  unfold IE.find Ff.waits
  rw [List.find?_isSome]
  simp
/-- One comes behind all. -/
def Ff.push (F : Ff) (n : Int) : Ff := { F with clock := F.clock + 1, next := F.next + 1, l := F.l ++ [⟨n, F.clock, (F.next : Int)⟩] }
def Ff.del (F : Ff) (n : Int) : Ff := { F with l := IE.del n F.l }
def Ff.pushH (F : Ff) (h : List (List AV)) (i : Nat) (n : Int) : List (List AV) := (h.set F.a (F.push n).cells).set i (F.push n).top
def Ff.delH (F : Ff) (h : List (List AV)) (n : Int) : List (List AV) := h.set F.a (F.del n).cells
theorem Ff.put_eq {F : Ff} {m : Nat} (ho : FfOk m F) {n : Int} (hn : IE.get n F.l = none) : AEnt.put (.int .i64 n) F.clock [.v (.int .i64 (F.next : Int))] (F.l.map (IE.ent intC)) = ((F.push n).l.map (IE.ent intC), F.clock + 1) := by
  have h1 := IE.put_eq intC ho.ok n (F.next : Int)
  have h2 : (IE.find n F.l).isSome = false := by rw [← IE.get_isSome, hn]; rfl
  unfold IE.put IE.tick at h1
  rw [h2] at h1
  exact h1
theorem FfOk.push {F : Ff} {m : Nat} (ho : FfOk m F) {n : Int} (hn : IE.get n F.l = none) : FfOk (m + 1) (F.push n) := by
  have h1 := IE.put_ok ho.ok n (F.next : Int)
  have h2 : (IE.find n F.l).isSome = false := by rw [← IE.get_isSome, hn]; rfl
  unfold IE.put IE.tick at h1
  rw [h2] at h1
  refine ⟨h1, ?_, fun x hx => ?_, by show F.next + 1 ≤ _; have := ho.next; omega, by show (F.l ++ _).length ≤ _; have := ho.len; simp; omega⟩
  · show (F.l ++ _).Pairwise _
    rw [List.pairwise_append]
    refine ⟨ho.rise, by simp, fun a ha b hb => ?_⟩
    rw [List.mem_singleton.1 hb]
    exact (ho.lt a ha).2
  · show 0 ≤ x.val ∧ x.val < ((F.next + 1 : Nat) : Int)
    rcases List.mem_append.1 hx with hx | hx
    · have := ho.lt x hx; omega
    · rw [List.mem_singleton.1 hx]
      show (0 : Int) ≤ (F.next : Int) ∧ (F.next : Int) < _
      omega
theorem FfOk.mono {F : Ff} {m k : Nat} (ho : FfOk m F) (hk : m ≤ k) : FfOk k F := ⟨ho.ok, ho.rise, ho.lt, Nat.le_trans ho.next hk, Nat.le_trans ho.len hk⟩
theorem FfOk.del {F : Ff} {m : Nat} (ho : FfOk m F) (n : Int) : FfOk m (F.del n) := by
  have hs : (IE.del n F.l).Sublist F.l := List.eraseP_sublist ..
  exact ⟨IE.del_ok ho.ok n, ho.rise.sublist hs, fun x hx => ho.lt x (hs.subset hx), ho.next, Nat.le_trans hs.length_le ho.len⟩
theorem Ff.waits_push (F : Ff) (n : Int) : (F.push n).waits = F.waits ++ [n] := by unfold Ff.waits Ff.push; simp
theorem erase_key (n : Int) : ∀ l : List (IE Int), (IE.del n l).map IE.key = (l.map IE.key).erase n
  | [] => rfl
  | x :: l => by
    have ih := erase_key n l
    unfold IE.del at ih ⊢
    rw [List.eraseP_cons, List.map_cons, List.erase_cons]
    by_cases e : x.key = n
    · simp [e]
    · have e2 : (x.key == n) = false := by simpa using e
      simp [e, e2, ih]
theorem Ff.waits_del (F : Ff) (n : Int) : (F.del n).waits = F.waits.erase n := erase_key n F.l
section
variable {h : List (List AV)} {i : Nat} {F : Ff}
theorem FfAt.i_lt (hr : FfAt h i F) : i < h.length := (List.getElem?_eq_some_iff.1 hr.top).1
theorem FfAt.a_lt (hr : FfAt h i F) : F.a < h.length := (List.getElem?_eq_some_iff.1 hr.ents).1
theorem FfAt.push (hr : FfAt h i F) (n : Int) : FfAt (F.pushH h i n) i (F.push n) := by
  have h1 := hr.i_lt
  have h2 := hr.a_lt
  refine ⟨by unfold Ff.pushH; rw [List.getElem?_set_self (by rw [List.length_set]; exact h1)], ?_, hr.ne⟩
  show (Ff.pushH F h i n)[F.a]? = _
  unfold Ff.pushH
  rw [List.getElem?_set_ne hr.ne, List.getElem?_set_self h2]
theorem FfAt.del (hr : FfAt h i F) (n : Int) : FfAt (F.delH h n) i (F.del n) := by
  refine ⟨?_, ?_, hr.ne⟩
  · show (h.set F.a _)[i]? = _
    rw [List.getElem?_set_ne (Ne.symm hr.ne)]; exact hr.top
  · show (h.set F.a _)[F.a]? = _
    rw [List.getElem?_set_self hr.a_lt]
theorem FfAt.move {h2 : List (List AV)} (hr : FfAt h i F) (h1 : h2[i]? = h[i]?) (h3 : h2[F.a]? = h[F.a]?) : FfAt h2 i F := ⟨h1.trans hr.top, h3.trans hr.ents, hr.ne⟩
theorem FfAt.app (hr : FfAt h i F) (xs : List (List AV)) : FfAt (h ++ xs) i F := hr.move (List.getElem?_append_left hr.i_lt) (List.getElem?_append_left hr.a_lt)
theorem Ff.top_lt (F : Ff) {n : Nat} (h : F.a < n) : ltL n F.top := by simp [Ff.top, h]
theorem fwait_c (hr : FfAt h i F) : Contract Try.prog 19 [.box i 0] h (.mp F.a 1 true) h [] := by
  have h1 := hr.top
  have h2 := hr.a_lt
  unfold Ff.top at h1
  refine contract_of k19 mixedFo (by simp [c19]) fun hh hargs => ?_
  have hres : resOf h.length (.mp F.a 1 true) = .mp F.a 1 true := rfl
  simp [c19, h1, hh, h2, hres, weak]
theorem fpush_no (hr : FfAt h i F) {n : Int} (hn : (IE.get n F.l).isSome = true) : Contract Try.prog 7 [.box i 0, .v (.int .i64 n)] h (.v (.bool false)) h [] := by
  have h2 := hr.ents
  have h3 := F.of_cells
  have h4 := F.keys
  have h5 := F.found n
  refine contract_of k7 mixedFo (by simp [c7]) fun hh hargs => ?_
  simp [c7]
  refine xcall_self (by simp) (fwait_c hr) ?_
  simp [h2, h3, h4, h5, hn, hh]
theorem fpush_yes (hr : FfAt h i F) {m : Nat} (ho : FfOk m F) (hm : m ≤ 1000000) {n : Int} (hn : IE.get n F.l = none) : Contract Try.prog 7 [.box i 0, .v (.int .i64 n)] h (.v (.bool true)) (F.pushH h i n) [i, F.a] := by
  have h1 := hr.top
  have h2 := hr.ents
  have h3 := F.of_cells
  have h4 := F.keys
  have h5 := F.found n
  have h6 := Ff.put_eq ho hn
  have hil := hr.i_lt
  have hal := hr.a_lt
  have hne := hr.ne
  have hne2 : ¬ F.a = i := fun e => hr.ne e.symm
  unfold Ff.top at h1
  have hw : IntKind.i64.wrap ((F.next : Int) + 1) = (F.next : Int) + 1 := wrap64 (by omega) (by have := ho.next; omega)
  refine contract_of k7 mixedFo (by simp [c7]) fun hh hargs => ?_
  have hlt := ltLL_set (i := i) (ltLL_set (i := F.a) hh ((F.push n).lt h.length)) (cs := (F.push n).top) ((F.push n).top_lt hal)
  simp [c7]
  refine xcall_self (by simp) (fwait_c hr) ?_
  have e0 : ∀ c : List AV, (h.set F.a c)[i]? = h[i]? := fun c => List.getElem?_set_ne hne2
  simp [h1, h2, h3, h4, h5, hn, h6, e0, hw]
  have e1 : mapC (F.clock + 1) ((F.push n).l.map (IE.ent intC)) = (F.push n).cells := rfl
  have e2 : ([.mp F.a 1 true, .v (.int .i64 ((F.next : Int) + 1))] : List AV) = (F.push n).top := rfl
  rw [e1, e2]
  unfold Ff.pushH
  have htk : ((h.set F.a (F.push n).cells).set i (F.push n).top).take h.length = (h.set F.a (F.push n).cells).set i (F.push n).top := List.take_of_length_le (by simp)
  simp [hlt, htk]
theorem fremove_c (hr : FfAt h i F) (n : Int) : Contract Try.prog 11 [.box i 0, .v (.int .i64 n)] h (.v (.bool (IE.get n F.l).isSome)) (F.delH h n) [F.a] := by
  have h2 := hr.ents
  have h3 := F.of_cells
  have h4 := F.keys
  have h5 := F.found n
  have h6 := IE.del_eq intC n F.l
  have hal := hr.a_lt
  refine contract_of k11 mixedFo (by simp [c11]) fun hh hargs => ?_
  have hlt := ltLL_set (i := F.a) hh ((F.del n).lt h.length)
  simp [c11]
  refine xcall_self (by simp) (fwait_c hr) ?_
  simp [h2, h3, h4, h5, h6]
  have e1 : mapC F.clock ((IE.del n F.l).map (IE.ent intC)) = (F.del n).cells := rfl
  rw [e1]
  unfold Ff.delH
  simp [hlt]
theorem flen_c (hr : FfAt h i F) : Contract Try.prog 15 [.box i 0] h (.v (.int .i64 (F.waits.length : Int))) h [] := by
  have h2 := hr.ents
  have h3 := F.of_cells
  refine contract_of k15 mixedFo (by simp [c15]) fun hh hargs => ?_
  simp [c15]
  refine xcall_self (by simp) (fwait_c hr) ?_
  simp [h2, h3, hh, Ff.waits]
theorem fnew_c (h : List (List AV)) : Contract Try.prog 6 [] h (.box (h.length + 1) 0) (h ++ [mapC 0 [], [.mp h.length 1 true, .v (.int .i64 0)]]) [] := by
  refine contract_of k6 mixedFo (by simp [c6]) fun hh hargs => ?_
  have hl2 := ltLL_mono (Nat.le_add_right h.length 2) hh
  simp [c6, hl2, mapC]
theorem newFf_at (h : List (List AV)) : FfAt (h ++ [mapC 0 [], [.mp h.length 1 true, .v (.int .i64 0)]]) (h.length + 1) ⟨h.length, 0, 0, []⟩ := ⟨by simp [Ff.top], by simp [Ff.cells], by show h.length + 1 ≠ h.length; omega⟩
end
theorem newFf_ok (n : Nat) : FfOk 0 ⟨n, 0, 0, []⟩ := ⟨⟨List.nodup_nil, List.nodup_nil, fun x hx => by cases hx⟩, List.Pairwise.nil, (fun x hx => by cases hx), Nat.le_refl _, Nat.le_refl _⟩
/-! ### Who came first -/
def minS (o : Option (IE Int)) (x : IE Int) : Option (IE Int) := match o with
  | none => some x
  | some y => if x.val < y.val then some x else some y
def minO (l : List (IE Int)) : Option (IE Int) := l.foldl minS none
theorem minO_snoc (l : List (IE Int)) (x : IE Int) : minO (l ++ [x]) = minS (minO l) x := by unfold minO; rw [List.foldl_append]; rfl
theorem minO_spec : ∀ (n : Nat) (l : List (IE Int)), l.length = n → (l = [] ∧ minO l = none) ∨ ∃ y ∈ l, minO l = some y ∧ ∀ x ∈ l, y.val ≤ x.val
  | 0, l, h => .inl ⟨List.eq_nil_of_length_eq_zero h, by rw [List.eq_nil_of_length_eq_zero h]; rfl⟩
  | n + 1, l, h => by
    right
    have hne : l ≠ [] := by intro e; subst e; cases h
    obtain ⟨s, x, rfl⟩ : ∃ s x, l = s ++ [x] := ⟨_, _, (List.dropLast_concat_getLast hne).symm⟩
    rw [minO_snoc]
    rcases minO_spec n s (by simpa using h) with ⟨rfl, h2⟩ | ⟨y, hy, h2, h3⟩
    · rw [h2]
      exact ⟨x, by simp, rfl, fun z hz => by simp at hz; rw [hz]; exact Int.le_refl _⟩
    · rw [h2]
      unfold minS
      by_cases hlt : x.val < y.val
      · refine ⟨x, by simp, by simp [hlt], fun z hz => ?_⟩
        rcases List.mem_append.1 hz with hz | hz
        · have := h3 z hz; omega
        · rw [List.mem_singleton.1 hz]; exact Int.le_refl _
      · refine ⟨y, List.mem_append_left _ hy, by simp [hlt], fun z hz => ?_⟩
        rcases List.mem_append.1 hz with hz | hz
        · exact h3 z hz
        · rw [List.mem_singleton.1 hz]; omega
theorem minO_all {F : Ff} {m : Nat} (ho : FfOk m F) {s : List (IE Int)} (hp : s.Perm F.l) : minO s = F.l.head? := by
  cases hl : F.l with
  | nil =>
    have : s = [] := by rw [hl] at hp; exact List.Perm.eq_nil hp
    rw [this]; rfl
  | cons y r =>
    rcases minO_spec _ s rfl with ⟨h1, _⟩ | ⟨x, hx, h2, h3⟩
    · rw [h1, hl] at hp
      exact absurd (List.Perm.nil_eq hp) (by simp)
    · rw [h2]
      have hr := ho.rise
      rw [hl, List.pairwise_cons] at hr
      have hx2 : x ∈ F.l := hp.subset hx
      have hy : y.val ≥ x.val := h3 y (hp.symm.subset (by rw [hl]; simp))
      rw [hl] at hx2
      rcases List.mem_cons.1 hx2 with e | hx2
      · rw [e]; rfl
      · have := hr.1 x hx2; omega
def keyO : Option (IE Int) → Int
  | some x => x.key
  | none => 0
section
variable {h : List (List AV)} {i : Nat} {F : Ff}
set_option maxHeartbeats 1000000 in
theorem fhead_c (hr : FfAt h i F) {m : Nat} (ho : FfOk m F) : Contract Try.prog 13 [.box i 0] h (.tup [.v (.int .i64 (F.waits.headD 0)), .v (.bool (!F.waits.isEmpty))]) h [] := by
  have hi := hr.i_lt
  have hla := hr.a_lt
  have e2 := hr.ents
  have e3 := F.of_cells
  have e4 := F.keys
  have e5 := F.found1
  have g2 : ∀ xs, (h ++ xs)[F.a]? = some F.cells := fun xs => by rw [List.getElem?_append_left hla]; exact e2
  refine contract_of k13 mixedFo (by simp [c13]) fun hh hargs => ?_
  simp [c13]
  refine xcall_self (by simp) (fwait_c hr) ?_
  simp [e2, e3]
  refine xloop_ok (D := List (IE Int)) (fun seen => ⟨[(4, .mp F.a 1 true), (5, .v (.int .i64 (keyO (minO seen)))), (6, .v (.bool (minO seen).isSome)), (12, .itr h.length (some F.a) 1 true)], [], h ++ [itC F.clock F.clock (seen.map IE.born)], []⟩) (fun seen => IE.Seen F.l seen) (fun seen => F.l.length - seen.length) [] ⟨List.nodup_nil, fun x hx => by cases hx⟩ ?_ ?_
  · simp [Leq, hh, hargs, hi, hla, leqH_take, itC, minO, keyO]
    omega
  · intro seen hs
    simp [g2, e3]
    refine ⟨fun a ha => ho.ok.lt a ha, fun hall => ?_, ?_⟩
    · have hperm := hs.perm ho.ok fun x hx => hall x hx
      have h1 := minO_all ho hperm
      rw [h1]
      have h2 : keyO F.l.head? = F.waits.headD 0 := by unfold Ff.waits; cases F.l <;> rfl
      have h3 : F.l.head?.isSome = !F.waits.isEmpty := by unfold Ff.waits; cases F.l <;> rfl
      simp [h2, h3, hh]
    · intro a ha hnew
      have hb := IE.at_born (f := intC) ho.ok.borns ha
      have hkey : (IE.ent intC a).key = .int .i64 a.key := rfl
      have hborn : (IE.ent intC a).born = a.born := rfl
      have hcells : (IE.ent intC a).cells = [.v (.int .i64 a.val)] := rfl
      have hout : a ∉ seen := fun hx => hnew a hx rfl
      have hs2 := hs.snoc ha hout
      have hle := hs2.le
      simp at hle
      rcases minO_spec _ seen rfl with ⟨h0, hmn⟩ | ⟨y, hy, hmn, hmin⟩
      · simp [hb, hkey, hborn, hcells, hmn]
        refine ⟨seen ++ [a], hs2, by simp; omega, ?_⟩
        simp [minO_snoc, hmn, minS, keyO, Leq, hh, hargs, hi, hla, leqH_take, itC]
        and_intros
        all_goals first | omega | (refine ltL_of fun j c hc => ?_; obtain ⟨b, _, rfl⟩ := List.mem_map.1 (List.mem_of_getElem? hc); simp)
      · have hyl : y ∈ F.l := hs.sub y hy
        have hget : IE.get y.key F.l = some y.val := by unfold IE.get; rw [IE.find_of ho.ok hyl]; rfl
        have e6 := e5 y.key
        rw [hget] at e6
        simp at e6
        simp [hb, hkey, hborn, hcells, hmn, keyO, g2, e3, e4, e6]
        by_cases hlt : a.val < y.val
        · simp [hlt]
          refine ⟨seen ++ [a], hs2, by simp; omega, ?_⟩
          simp [minO_snoc, hmn, minS, keyO, hlt, Leq, hh, hargs, hi, hla, leqH_take, itC]
          and_intros
          all_goals first | omega | (refine ltL_of fun j c hc => ?_; obtain ⟨b, _, rfl⟩ := List.mem_map.1 (List.mem_of_getElem? hc); simp)
        · simp [hlt]
          refine ⟨seen ++ [a], hs2, by simp; omega, ?_⟩
          simp [minO_snoc, hmn, minS, keyO, hlt, Leq, hh, hargs, hi, hla, leqH_take, itC]
          and_intros
          all_goals first | omega | (refine ltL_of fun j c hc => ?_; obtain ⟨b, _, rfl⟩ := List.mem_map.1 (List.mem_of_getElem? hc); simp)
theorem fpop_none (hr : FfAt h i F) {m : Nat} (ho : FfOk m F) (he : F.waits = []) : Contract Try.prog 9 [.box i 0] h (.tup [.v (.int .i64 0), .v (.bool false)]) h [] := by
  have k1 := fhead_c hr ho
  rw [he] at k1
  refine contract_of k9 mixedFo (by simp [c9]) fun hh hargs => ?_
  simp [c9]
  refine xcall_self (by simp) k1 ?_
  simp [hh]
theorem fpop_some (hr : FfAt h i F) {m : Nat} (ho : FfOk m F) {n : Int} {r : List Int} (he : F.waits = n :: r) : Contract Try.prog 9 [.box i 0] h (.tup [.v (.int .i64 n), .v (.bool true)]) (F.delH h n) [F.a] := by
  have k1 := fhead_c hr ho
  rw [he] at k1
  have k2 := fremove_c hr n
  have hal := hr.a_lt
  refine contract_of k9 mixedFo (by simp [c9]) fun hh hargs => ?_
  have hlt := ltLL_set (i := F.a) hh ((F.del n).lt h.length)
  have hlt2 : ltLL h.length (F.delH h n) := by unfold Ff.delH; exact hlt
  have hlen : (F.delH h n).length = h.length := by unfold Ff.delH; simp
  have htk : (F.delH h n).take h.length = F.delH h n := List.take_of_length_le (by omega)
  simp [c9]
  refine xcall_self (by simp) k1 ?_
  simp
  refine xcall_self (by simp) k2 ?_
  simp [hlt2, hlen, htk]
end
end Go.Proofs.Ytlbgjlmokpkkeaa.Ax
