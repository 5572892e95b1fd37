/- Which server is whose, over values without memory: what lease's calls change. -/
import Derived.Test.YtdfocmmajngelaaQAxX
import Derived.Test.YtdfocmmajngelaaRows
import Derived.Test.YtdfocmmajngelaaQAxMi
import Derived.Test.YtdfocmmajngelaaQAxIp
/- The texts of functions over values without memory, as the kernel reckons them out of the program. -/
namespace Go.Proofs.Ytdfocmmajngelaa.Ax
open Go.RowKit Go By

def c8 : XFun := ⟨15, (.seq (.ops [⟨(some 2), (.assign (.const (.pointer none))), none⟩, ⟨(some 3), (.assign (.const (.int .i64 0))), none⟩]) (.seq (.seq (.ops [⟨(some 4), (.move (.tmp 0)), none⟩, ⟨(some 5), (.bin .lss (.tmp 4) (.const (.int .i64 1))), none⟩, ⟨(some 6), (.move (.tmp 5)), none⟩, ⟨(some 7), (.move (.tmp 0)), (some (6, false))⟩, ⟨(some 8), (.bin .gtr (.tmp 7) (.const (.int .i64 8))), (some (6, false))⟩, ⟨(some 9), (.pick (.tmp 6) (.const (.bool true)) (.tmp 8)), none⟩]) (.cond (.tmp 9) (.seq (.ops [⟨(some 2), (.assign (.const (.pointer none))), none⟩, ⟨(some 3), (.assign (.const (.int .i64 1))), none⟩]) .ret) .skip)) (.seq (.ops [⟨(some 10), (.move (.tmp 0)), none⟩, ⟨(some 11), (.makeB 1 8 [(.v (.int .i64 0))] (.tmp 10)), none⟩, ⟨(some 12), (.makeMap 1 true), none⟩, ⟨(some 13), (.build [(.sl 0 [] (some true) .exact), (.v (.map none))] [(0, (1, (.tmp 11))), (1, (1, (.tmp 12)))]), none⟩, ⟨(some 14), (.box (.tmp 13)), none⟩, ⟨(some 2), (.assign (.tmp 14)), none⟩, ⟨(some 3), (.assign (.const (.int .i64 0))), none⟩]) .ret))), [(.move (.tmp 2)), (.move (.tmp 3))]⟩
theorem k8 : cfun Try.prog 8 = some c8 := by kernel_rfl
def c12 : XFun := ⟨16, (.seq (.ops [⟨(some 4), (.assign (.const (.int .i64 0))), none⟩]) (.seq (.seq (.ops [⟨(some 5), (.move (.tmp 0)), none⟩, ⟨(some 6), (.move (.tmp 1)), none⟩, ⟨(some 7), (.call 39 [(.tmp 5), (.tmp 6)]), none⟩, ⟨(some 8), (.un .not (.tmp 7)), none⟩]) (.cond (.tmp 8) (.seq (.ops [⟨(some 4), (.assign (.const (.int .i64 0))), none⟩]) .ret) .skip)) (.seq (.ops [⟨(some 9), (.move (.tmp 0)), none⟩, ⟨(some 10), (.nilCheck (.tmp 9)), none⟩, ⟨(some 11), (.faddr 0 (.tmp 10)), none⟩, ⟨(some 12), (.load1 (.tmp 11)), none⟩, ⟨(some 13), (.move (.tmp 1)), none⟩, ⟨(some 14), (.iaddr 1 (.tmp 12) (.tmp 13)), none⟩, ⟨(some 15), (.load1 (.tmp 14)), none⟩, ⟨(some 4), (.assign (.tmp 15)), none⟩]) .ret))), [(.move (.tmp 4))]⟩
theorem k12 : cfun Try.prog 12 = some c12 := by kernel_rfl
def c17 : XFun := ⟨25, (.seq (.ops [⟨(some 4), (.assign (.const (.int .i64 0))), none⟩, ⟨(some 5), (.assign (.const (.bool false))), none⟩]) (.seq (.seq (.ops [⟨(some 8), (.move (.tmp 0)), none⟩, ⟨(some 9), (.call 41 [(.tmp 8)]), none⟩, ⟨(some 10), (.un .not (.tmp 9)), none⟩]) (.cond (.tmp 10) (.seq (.ops [⟨(some 4), (.assign (.const (.int .i64 0))), none⟩, ⟨(some 5), (.assign (.const (.bool false))), none⟩]) .ret) .skip)) (.seq (.seq (.ops [⟨(some 11), (.move (.tmp 0)), none⟩, ⟨(some 12), (.nilCheck (.tmp 11)), none⟩, ⟨(some 13), (.faddr 1 (.tmp 12)), none⟩, ⟨(some 14), (.load1 (.tmp 13)), none⟩, ⟨(some 15), (.rangeM 1 true (.tmp 14)), none⟩]) (.block 0 (.loop (.seq (.nexts (some 16) (.tmp 15) [⟨(some 17), (.extract (.tmp 16) 0), none⟩]) (.seq (.cond (.tmp 17) .skip (.exit 0)) (.block 1 (.seq (.ops [⟨(some 18), (.entry (.tmp 15)), none⟩, ⟨(some 19), (.extract (.tmp 18) 0), none⟩, ⟨(some 20), (.extract (.tmp 18) 1), none⟩, ⟨(some 6), (.assign (.tmp 19)), none⟩, ⟨(some 7), (.assign (.tmp 20)), none⟩]) (.seq (.ops [⟨(some 21), (.move (.tmp 7)), none⟩, ⟨(some 22), (.move (.tmp 1)), none⟩, ⟨(some 23), (.bin .eql (.tmp 21) (.tmp 22)), none⟩]) (.cond (.tmp 23) (.seq (.ops [⟨(some 24), (.move (.tmp 6)), none⟩, ⟨(some 4), (.assign (.tmp 24)), none⟩, ⟨(some 5), (.assign (.const (.bool true))), none⟩]) .ret) .skip))))))))) (.seq (.ops [⟨(some 4), (.assign (.const (.int .i64 0))), none⟩, ⟨(some 5), (.assign (.const (.bool false))), none⟩]) .ret)))), [(.move (.tmp 4)), (.move (.tmp 5))]⟩
theorem k17 : cfun Try.prog 17 = some c17 := by kernel_rfl
def c19 : XFun := ⟨22, (.seq (.ops [⟨(some 4), (.assign (.const (.int .i64 0))), none⟩, ⟨(some 5), (.assign (.const (.bool false))), none⟩]) (.seq (.seq (.ops [⟨(some 8), (.move (.tmp 0)), none⟩, ⟨(some 9), (.call 41 [(.tmp 8)]), none⟩, ⟨(some 10), (.un .not (.tmp 9)), none⟩]) (.cond (.tmp 10) (.seq (.ops [⟨(some 4), (.assign (.const (.int .i64 0))), none⟩, ⟨(some 5), (.assign (.const (.bool false))), none⟩]) .ret) .skip)) (.seq (.ops [⟨(some 12), (.move (.tmp 0)), none⟩, ⟨(some 13), (.nilCheck (.tmp 12)), none⟩, ⟨(some 14), (.faddr 1 (.tmp 13)), none⟩, ⟨(some 15), (.load1 (.tmp 14)), none⟩, ⟨(some 16), (.move (.tmp 1)), none⟩, ⟨(some 17), (.lookup (some .i64) 1 true true [(.v (.int .i64 0))] (.tmp 15) (.tmp 16)), none⟩, ⟨(some 11), (.move (.tmp 17)), none⟩, ⟨(some 18), (.extract (.tmp 11) 0), none⟩, ⟨(some 19), (.extract (.tmp 11) 1), none⟩, ⟨(some 6), (.assign (.tmp 18)), none⟩, ⟨(some 7), (.assign (.tmp 19)), none⟩]) (.seq (.ops [⟨(some 20), (.move (.tmp 6)), none⟩, ⟨(some 21), (.move (.tmp 7)), none⟩, ⟨(some 4), (.assign (.tmp 20)), none⟩, ⟨(some 5), (.assign (.tmp 21)), none⟩]) .ret)))), [(.move (.tmp 4)), (.move (.tmp 5))]⟩
theorem k19 : cfun Try.prog 19 = some c19 := by kernel_rfl
def c15 : XFun := ⟨27, (.seq (.ops [⟨(some 2), (.assign (.const (.slice none 0 0))), none⟩]) (.seq (.seq (.ops [⟨(some 6), (.move (.tmp 0)), none⟩, ⟨(some 7), (.call 41 [(.tmp 6)]), none⟩, ⟨(some 8), (.un .not (.tmp 7)), none⟩]) (.cond (.tmp 8) (.seq (.ops [⟨(some 2), (.assign (.const (.slice none 0 0))), none⟩]) .ret) .skip)) (.seq (.ops [⟨(some 3), (.assign (.const (.slice none 0 0))), none⟩]) (.seq (.seq (.ops [⟨(some 9), (.move (.tmp 0)), none⟩, ⟨(some 10), (.nilCheck (.tmp 9)), none⟩, ⟨(some 11), (.faddr 0 (.tmp 10)), none⟩, ⟨(some 12), (.load1 (.tmp 11)), none⟩, ⟨(some 13), (.lenL (.tmp 12)), none⟩, ⟨(some 14), (.move (.const (.int .i64 0))), none⟩]) (.block 0 (.loop (.seq (.ops [⟨(some 15), (.bin .lss (.tmp 14) (.tmp 13)), none⟩]) (.seq (.cond (.tmp 15) .skip (.exit 0)) (.seq (.block 1 (.seq (.ops [⟨(some 16), (.move (.tmp 14)), none⟩, ⟨(some 17), (.iaddr 1 (.tmp 12) (.tmp 14)), none⟩, ⟨(some 18), (.load1 (.tmp 17)), none⟩, ⟨(some 4), (.assign (.tmp 16)), none⟩, ⟨(some 5), (.assign (.tmp 18)), none⟩]) (.seq (.ops [⟨(some 19), (.move (.tmp 5)), none⟩, ⟨(some 20), (.bin .eql (.tmp 19) (.const (.int .i64 2))), none⟩]) (.cond (.tmp 20) (.ops [⟨(some 21), (.move (.tmp 3)), none⟩, ⟨(some 22), (.move (.tmp 4)), none⟩, ⟨(some 23), (.buildSlice 1 1 [(.v (.int .i64 0))] [(0, (.tmp 22))]), none⟩, ⟨(some 24), (.append 1 8 (.tmp 21) (.tmp 23)), none⟩, ⟨(some 3), (.assign (.tmp 24)), none⟩]) .skip)))) (.ops [⟨(some 25), (.bin .add (.tmp 14) (.const (.int .i64 1))), none⟩, ⟨(some 14), (.move (.tmp 25)), none⟩]))))))) (.seq (.ops [⟨(some 26), (.move (.tmp 3)), none⟩, ⟨(some 2), (.assign (.tmp 26)), none⟩]) .ret))))), [(.move (.tmp 2))]⟩
theorem k15 : cfun Try.prog 15 = some c15 := by kernel_rfl
def c29 : XFun := ⟨8, (.seq (.ops [⟨(some 4), (.assign (.const (.int .i64 0))), none⟩]) (.seq (.ops [⟨(some 5), (.move (.tmp 0)), none⟩, ⟨(some 6), (.move (.tmp 1)), none⟩, ⟨(some 7), (.call 45 [(.tmp 5), (.tmp 6), (.const (.int .i64 1)), (.func 46)]), none⟩, ⟨(some 4), (.assign (.tmp 7)), none⟩]) .ret)), [(.move (.tmp 4))]⟩
theorem k29 : cfun Try.prog 29 = some c29 := by kernel_rfl
def c46 : XFun := ⟨5, (.seq (.ops [⟨(some 2), (.assign (.const (.bool false))), none⟩]) (.seq (.ops [⟨(some 3), (.move (.tmp 0)), none⟩, ⟨(some 4), (.bin .eql (.tmp 3) (.const (.int .i64 0))), none⟩, ⟨(some 2), (.assign (.tmp 4)), none⟩]) .ret)), [(.move (.tmp 2))]⟩
theorem k46 : cfun Try.prog 46 = some c46 := by kernel_rfl
def c30 : XFun := ⟨8, (.seq (.ops [⟨(some 4), (.assign (.const (.int .i64 0))), none⟩]) (.seq (.ops [⟨(some 5), (.move (.tmp 0)), none⟩, ⟨(some 6), (.move (.tmp 1)), none⟩, ⟨(some 7), (.call 45 [(.tmp 5), (.tmp 6), (.const (.int .i64 2)), (.func 47)]), none⟩, ⟨(some 4), (.assign (.tmp 7)), none⟩]) .ret)), [(.move (.tmp 4))]⟩
theorem k30 : cfun Try.prog 30 = some c30 := by kernel_rfl
def c47 : XFun := ⟨9, (.seq (.ops [⟨(some 2), (.assign (.const (.bool false))), none⟩]) (.seq (.ops [⟨(some 3), (.move (.tmp 0)), none⟩, ⟨(some 4), (.bin .neq (.tmp 3) (.const (.int .i64 0))), none⟩, ⟨(some 5), (.move (.tmp 4)), none⟩, ⟨(some 6), (.move (.tmp 0)), (some (5, true))⟩, ⟨(some 7), (.bin .neq (.tmp 6) (.const (.int .i64 2))), (some (5, true))⟩, ⟨(some 8), (.pick (.tmp 5) (.tmp 7) (.const (.bool false))), none⟩, ⟨(some 2), (.assign (.tmp 8)), none⟩]) .ret)), [(.move (.tmp 2))]⟩
theorem k47 : cfun Try.prog 47 = some c47 := by kernel_rfl
def c32 : XFun := ⟨50, (.seq (.ops [⟨(some 6), (.assign (.const (.int .i64 0))), none⟩, ⟨(some 7), (.assign (.const (.int .i64 0))), none⟩]) (.seq (.seq (.ops [⟨(some 12), (.move (.tmp 0)), none⟩, ⟨(some 13), (.call 41 [(.tmp 12)]), none⟩, ⟨(some 14), (.un .not (.tmp 13)), none⟩]) (.cond (.tmp 14) (.seq (.ops [⟨(some 6), (.assign (.const (.int .i64 0))), none⟩, ⟨(some 7), (.assign (.const (.int .i64 2))), none⟩]) .ret) .skip)) (.seq (.seq (.ops [⟨(some 16), (.move (.tmp 0)), none⟩, ⟨(some 17), (.nilCheck (.tmp 16)), none⟩, ⟨(some 18), (.faddr 1 (.tmp 17)), none⟩, ⟨(some 19), (.load1 (.tmp 18)), none⟩, ⟨(some 20), (.move (.tmp 1)), none⟩, ⟨(some 21), (.lookup (some .i64) 1 true true [(.v (.int .i64 0))] (.tmp 19) (.tmp 20)), none⟩, ⟨(some 15), (.move (.tmp 21)), none⟩, ⟨(some 22), (.extract (.tmp 15) 0), none⟩, ⟨(some 23), (.extract (.tmp 15) 1), none⟩, ⟨(some 8), (.assign (.tmp 22)), none⟩, ⟨(some 9), (.assign (.tmp 23)), none⟩]) (.seq (.ops [⟨(some 24), (.move (.tmp 9)), none⟩]) (.cond (.tmp 24) (.seq (.ops [⟨(some 6), (.assign (.const (.int .i64 0))), none⟩, ⟨(some 7), (.assign (.const (.int .i64 8))), none⟩]) .ret) .skip))) (.seq (.ops [⟨(some 25), (.move (.tmp 0)), none⟩, ⟨(some 26), (.call 15 [(.tmp 25)]), none⟩, ⟨(some 10), (.assign (.tmp 26)), none⟩]) (.seq (.seq (.ops [⟨(some 27), (.move (.tmp 10)), none⟩, ⟨(some 28), (.lenL (.tmp 27)), none⟩, ⟨(some 29), (.bin .eql (.tmp 28) (.const (.int .i64 0))), none⟩]) (.cond (.tmp 29) (.seq (.ops [⟨(some 6), (.assign (.const (.int .i64 0))), none⟩, ⟨(some 7), (.assign (.const (.int .i64 7))), none⟩]) .ret) .skip)) (.seq (.ops [⟨(some 30), (.move (.tmp 10)), none⟩, ⟨(some 31), (.move (.tmp 2)), none⟩, ⟨(some 32), (.move (.tmp 10)), none⟩, ⟨(some 33), (.lenL (.tmp 32)), none⟩, ⟨(some 34), (.call 49 [(.tmp 31), (.tmp 33)]), none⟩, ⟨(some 35), (.iaddr 1 (.tmp 30) (.tmp 34)), none⟩, ⟨(some 36), (.load1 (.tmp 35)), none⟩, ⟨(some 11), (.assign (.tmp 36)), none⟩]) (.seq (.ops [⟨(some 37), (.move (.tmp 0)), none⟩, ⟨(some 38), (.nilCheck (.tmp 37)), none⟩, ⟨(some 39), (.faddr 0 (.tmp 38)), none⟩, ⟨(some 40), (.load1 (.tmp 39)), none⟩, ⟨(some 41), (.move (.tmp 11)), none⟩, ⟨(some 42), (.iaddr 1 (.tmp 40) (.tmp 41)), none⟩, ⟨none, (.store 1 (.tmp 42) (.const (.int .i64 3))), none⟩]) (.seq (.ops [⟨(some 43), (.move (.tmp 0)), none⟩, ⟨(some 44), (.nilCheck (.tmp 43)), none⟩, ⟨(some 45), (.faddr 1 (.tmp 44)), none⟩, ⟨(some 46), (.load1 (.tmp 45)), none⟩, ⟨(some 47), (.move (.tmp 1)), none⟩, ⟨(some 48), (.move (.tmp 11)), none⟩, ⟨none, (.mapUpd (some .i64) 1 true (.tmp 46) (.tmp 47) (.tmp 48)), none⟩]) (.seq (.ops [⟨(some 49), (.move (.tmp 11)), none⟩, ⟨(some 6), (.assign (.tmp 49)), none⟩, ⟨(some 7), (.assign (.const (.int .i64 0))), none⟩]) .ret))))))))), [(.move (.tmp 6)), (.move (.tmp 7))]⟩
theorem k32 : cfun Try.prog 32 = some c32 := by kernel_rfl
def c31 : XFun := ⟨8, (.seq (.ops [⟨(some 4), (.assign (.const (.int .i64 0))), none⟩]) (.seq (.ops [⟨(some 5), (.move (.tmp 0)), none⟩, ⟨(some 6), (.move (.tmp 1)), none⟩, ⟨(some 7), (.call 45 [(.tmp 5), (.tmp 6), (.const (.int .i64 4)), (.func 48)]), none⟩, ⟨(some 4), (.assign (.tmp 7)), none⟩]) .ret)), [(.move (.tmp 4))]⟩
theorem k31 : cfun Try.prog 31 = some c31 := by kernel_rfl
def c33 : XFun := ⟨8, (.seq (.ops [⟨(some 4), (.assign (.const (.int .i64 0))), none⟩]) (.seq (.ops [⟨(some 5), (.move (.tmp 0)), none⟩, ⟨(some 6), (.move (.tmp 1)), none⟩, ⟨(some 7), (.call 45 [(.tmp 5), (.tmp 6), (.const (.int .i64 0)), (.func 50)]), none⟩, ⟨(some 4), (.assign (.tmp 7)), none⟩]) .ret)), [(.move (.tmp 4))]⟩
theorem k33 : cfun Try.prog 33 = some c33 := by kernel_rfl
def c45 : XFun := ⟨50, (.seq (.ops [⟨(some 8), (.assign (.const (.int .i64 0))), none⟩]) (.seq (.block 0 (.seq (.ops [⟨(some 12), (.move (.tmp 0)), none⟩, ⟨(some 13), (.call 41 [(.tmp 12)]), none⟩, ⟨(some 14), (.un .not (.tmp 13)), none⟩, ⟨(some 11), (.assign (.tmp 14)), none⟩]) (.cond (.tmp 11) (.seq (.ops [⟨(some 8), (.assign (.const (.int .i64 2))), none⟩]) .ret) (.seq (.ops [⟨(some 16), (.move (.tmp 0)), none⟩, ⟨(some 17), (.move (.tmp 1)), none⟩, ⟨(some 18), (.call 39 [(.tmp 16), (.tmp 17)]), none⟩, ⟨(some 19), (.un .not (.tmp 18)), none⟩, ⟨(some 15), (.assign (.tmp 19)), none⟩]) (.cond (.tmp 15) (.seq (.ops [⟨(some 8), (.assign (.const (.int .i64 1))), none⟩]) .ret) (.seq (.ops [⟨(some 21), (.move (.tmp 3)), none⟩, ⟨(some 22), (.move (.tmp 0)), none⟩, ⟨(some 23), (.nilCheck (.tmp 22)), none⟩, ⟨(some 24), (.faddr 0 (.tmp 23)), none⟩, ⟨(some 25), (.load1 (.tmp 24)), none⟩, ⟨(some 26), (.move (.tmp 1)), none⟩, ⟨(some 27), (.iaddr 1 (.tmp 25) (.tmp 26)), none⟩, ⟨(some 28), (.load1 (.tmp 27)), none⟩, ⟨(some 29), (.callv (.tmp 21) [(.tmp 28)]), none⟩, ⟨(some 30), (.un .not (.tmp 29)), none⟩, ⟨(some 20), (.assign (.tmp 30)), none⟩]) (.cond (.tmp 20) (.seq (.ops [⟨(some 8), (.assign (.const (.int .i64 10))), none⟩]) .ret) .skip))))))) (.seq (.seq (.ops [⟨(some 32), (.move (.tmp 0)), none⟩, ⟨(some 33), (.move (.tmp 1)), none⟩, ⟨(some 34), (.call 17 [(.tmp 32), (.tmp 33)]), none⟩, ⟨(some 31), (.move (.tmp 34)), none⟩, ⟨(some 35), (.extract (.tmp 31) 0), none⟩, ⟨(some 36), (.extract (.tmp 31) 1), none⟩, ⟨(some 9), (.assign (.tmp 35)), none⟩, ⟨(some 10), (.assign (.tmp 36)), none⟩]) (.seq (.ops [⟨(some 37), (.move (.tmp 10)), none⟩]) (.cond (.tmp 37) (.ops [⟨(some 38), (.move (.tmp 0)), none⟩, ⟨(some 39), (.nilCheck (.tmp 38)), none⟩, ⟨(some 40), (.faddr 1 (.tmp 39)), none⟩, ⟨(some 41), (.load1 (.tmp 40)), none⟩, ⟨(some 42), (.move (.tmp 9)), none⟩, ⟨none, (.mapDel (some .i64) 1 true (.tmp 41) (.tmp 42)), none⟩]) .skip))) (.seq (.ops [⟨(some 43), (.move (.tmp 0)), none⟩, ⟨(some 44), (.nilCheck (.tmp 43)), none⟩, ⟨(some 45), (.faddr 0 (.tmp 44)), none⟩, ⟨(some 46), (.load1 (.tmp 45)), none⟩, ⟨(some 47), (.move (.tmp 1)), none⟩, ⟨(some 48), (.move (.tmp 2)), none⟩, ⟨(some 49), (.iaddr 1 (.tmp 46) (.tmp 47)), none⟩, ⟨none, (.store 1 (.tmp 49) (.tmp 48)), none⟩]) (.seq (.ops [⟨(some 8), (.assign (.const (.int .i64 0))), none⟩]) .ret))))), [(.move (.tmp 8))]⟩
theorem k45 : cfun Try.prog 45 = some c45 := by kernel_rfl
def c41 : XFun := ⟨12, (.seq (.ops [⟨(some 2), (.assign (.const (.bool false))), none⟩]) (.seq (.ops [⟨(some 3), (.move (.tmp 0)), none⟩, ⟨(some 4), (.pnileq true (.tmp 3)), none⟩, ⟨(some 5), (.move (.tmp 4)), none⟩, ⟨(some 6), (.move (.tmp 0)), (some (5, true))⟩, ⟨(some 7), (.nilCheck (.tmp 6)), (some (5, true))⟩, ⟨(some 8), (.faddr 1 (.tmp 7)), (some (5, true))⟩, ⟨(some 9), (.load1 (.tmp 8)), (some (5, true))⟩, ⟨(some 10), (.mnileq true (.tmp 9)), (some (5, true))⟩, ⟨(some 11), (.pick (.tmp 5) (.tmp 10) (.const (.bool false))), none⟩, ⟨(some 2), (.assign (.tmp 11)), none⟩]) .ret)), [(.move (.tmp 2))]⟩
theorem k41 : cfun Try.prog 41 = some c41 := by kernel_rfl
def c39 : XFun := ⟨20, (.seq (.ops [⟨(some 4), (.assign (.const (.bool false))), none⟩]) (.seq (.ops [⟨(some 5), (.move (.tmp 0)), none⟩, ⟨(some 6), (.call 41 [(.tmp 5)]), none⟩, ⟨(some 7), (.move (.tmp 6)), none⟩, ⟨(some 8), (.move (.tmp 1)), (some (7, true))⟩, ⟨(some 9), (.bin .geq (.tmp 8) (.const (.int .i64 0))), (some (7, true))⟩, ⟨(some 10), (.pick (.tmp 7) (.tmp 9) (.const (.bool false))), none⟩, ⟨(some 11), (.move (.tmp 10)), none⟩, ⟨(some 12), (.move (.tmp 1)), (some (11, true))⟩, ⟨(some 13), (.move (.tmp 0)), (some (11, true))⟩, ⟨(some 14), (.nilCheck (.tmp 13)), (some (11, true))⟩, ⟨(some 15), (.faddr 0 (.tmp 14)), (some (11, true))⟩, ⟨(some 16), (.load1 (.tmp 15)), (some (11, true))⟩, ⟨(some 17), (.lenL (.tmp 16)), (some (11, true))⟩, ⟨(some 18), (.bin .lss (.tmp 12) (.tmp 17)), (some (11, true))⟩, ⟨(some 19), (.pick (.tmp 11) (.tmp 18) (.const (.bool false))), none⟩, ⟨(some 4), (.assign (.tmp 19)), none⟩]) .ret)), [(.move (.tmp 4))]⟩
theorem k39 : cfun Try.prog 39 = some c39 := by kernel_rfl
def c49 : XFun := ⟨12, (.seq (.ops [⟨(some 4), (.assign (.const (.int .i64 0))), none⟩]) (.seq (.ops [⟨(some 5), (.move (.tmp 0)), none⟩, ⟨(some 6), (.move (.tmp 1)), none⟩, ⟨(some 7), (.bin .rem (.tmp 5) (.tmp 6)), none⟩, ⟨(some 8), (.move (.tmp 1)), none⟩, ⟨(some 9), (.bin .add (.tmp 7) (.tmp 8)), none⟩, ⟨(some 10), (.move (.tmp 1)), none⟩, ⟨(some 11), (.bin .rem (.tmp 9) (.tmp 10)), none⟩, ⟨(some 4), (.assign (.tmp 11)), none⟩]) .ret)), [(.move (.tmp 4))]⟩
theorem k49 : cfun Try.prog 49 = some c49 := by kernel_rfl
def c21 : XFun := ⟨61, (.seq (.ops [⟨(some 0), (.assign (.const (.bool false))), none⟩]) (.seq (.ops [⟨(some 10), (.call 8 [(.const (.int .i64 1))]), none⟩, ⟨(some 9), (.move (.tmp 10)), none⟩, ⟨(some 11), (.extract (.tmp 9) 0), none⟩, ⟨(some 12), (.extract (.tmp 9) 1), none⟩, ⟨(some 1), (.assign (.tmp 11)), none⟩, ⟨(some 2), (.assign (.tmp 12)), none⟩]) (.seq (.seq (.ops [⟨(some 13), (.move (.tmp 1)), none⟩, ⟨(some 14), (.pnileq false (.tmp 13)), none⟩, ⟨(some 15), (.move (.tmp 14)), none⟩, ⟨(some 16), (.move (.tmp 2)), (some (15, false))⟩, ⟨(some 17), (.bin .neq (.tmp 16) (.const (.int .i64 0))), (some (15, false))⟩, ⟨(some 18), (.pick (.tmp 15) (.const (.bool true)) (.tmp 17)), none⟩, ⟨(some 19), (.move (.tmp 18)), none⟩, ⟨(some 20), (.move (.tmp 1)), (some (19, false))⟩, ⟨(some 21), (.call 29 [(.tmp 20), (.const (.int .i64 0))]), (some (19, false))⟩, ⟨(some 22), (.bin .neq (.tmp 21) (.const (.int .i64 0))), (some (19, false))⟩, ⟨(some 23), (.pick (.tmp 19) (.const (.bool true)) (.tmp 22)), none⟩, ⟨(some 24), (.move (.tmp 23)), none⟩, ⟨(some 25), (.move (.tmp 1)), (some (24, false))⟩, ⟨(some 26), (.call 30 [(.tmp 25), (.const (.int .i64 0))]), (some (24, false))⟩, ⟨(some 27), (.bin .neq (.tmp 26) (.const (.int .i64 0))), (some (24, false))⟩, ⟨(some 28), (.pick (.tmp 24) (.const (.bool true)) (.tmp 27)), none⟩]) (.cond (.tmp 28) (.seq (.ops [⟨(some 0), (.assign (.const (.bool false))), none⟩]) .ret) .skip)) (.seq (.ops [⟨(some 30), (.move (.tmp 1)), none⟩, ⟨(some 31), (.call 32 [(.tmp 30), (.const (.int .i64 5)), (.const (.int .i64 0))]), none⟩, ⟨(some 29), (.move (.tmp 31)), none⟩, ⟨(some 32), (.extract (.tmp 29) 0), none⟩, ⟨(some 33), (.extract (.tmp 29) 1), none⟩, ⟨(some 3), (.assign (.tmp 32)), none⟩, ⟨(some 4), (.assign (.tmp 33)), none⟩]) (.seq (.ops [⟨(some 35), (.move (.tmp 1)), none⟩, ⟨(some 36), (.call 32 [(.tmp 35), (.const (.int .i64 6)), (.const (.int .i64 0))]), none⟩, ⟨(some 34), (.move (.tmp 36)), none⟩, ⟨(some 37), (.extract (.tmp 34) 0), none⟩, ⟨(some 38), (.extract (.tmp 34) 1), none⟩, ⟨(some 5), (.assign (.tmp 37)), none⟩, ⟨(some 6), (.assign (.tmp 38)), none⟩]) (.seq (.ops [⟨(some 40), (.move (.tmp 1)), none⟩, ⟨(some 41), (.call 17 [(.tmp 40), (.const (.int .i64 0))]), none⟩, ⟨(some 39), (.move (.tmp 41)), none⟩, ⟨(some 42), (.extract (.tmp 39) 0), none⟩, ⟨(some 43), (.extract (.tmp 39) 1), none⟩, ⟨(some 7), (.assign (.tmp 42)), none⟩, ⟨(some 8), (.assign (.tmp 43)), none⟩]) (.seq (.ops [⟨(some 44), (.move (.tmp 3)), none⟩, ⟨(some 45), (.bin .eql (.tmp 44) (.const (.int .i64 0))), none⟩, ⟨(some 46), (.move (.tmp 45)), none⟩, ⟨(some 47), (.move (.tmp 4)), (some (46, true))⟩, ⟨(some 48), (.bin .eql (.tmp 47) (.const (.int .i64 0))), (some (46, true))⟩, ⟨(some 49), (.pick (.tmp 46) (.tmp 48) (.const (.bool false))), none⟩, ⟨(some 50), (.move (.tmp 49)), none⟩, ⟨(some 51), (.move (.tmp 6)), (some (50, true))⟩, ⟨(some 52), (.bin .eql (.tmp 51) (.const (.int .i64 7))), (some (50, true))⟩, ⟨(some 53), (.pick (.tmp 50) (.tmp 52) (.const (.bool false))), none⟩, ⟨(some 54), (.move (.tmp 53)), none⟩, ⟨(some 55), (.move (.tmp 8)), (some (54, true))⟩, ⟨(some 56), (.pick (.tmp 54) (.tmp 55) (.const (.bool false))), none⟩, ⟨(some 57), (.move (.tmp 56)), none⟩, ⟨(some 58), (.move (.tmp 7)), (some (57, true))⟩, ⟨(some 59), (.bin .eql (.tmp 58) (.const (.int .i64 5))), (some (57, true))⟩, ⟨(some 60), (.pick (.tmp 57) (.tmp 59) (.const (.bool false))), none⟩, ⟨(some 0), (.assign (.tmp 60)), none⟩]) .ret))))))), [(.move (.tmp 0))]⟩
theorem k21 : cfun Try.prog 21 = some c21 := by kernel_rfl
def c10 : XFun := ⟨44, (.seq (.ops [⟨(some 3), (.box (.tmp 1)), none⟩, ⟨(some 4), (.assign (.const (.int .i64 0))), none⟩]) (.seq (.seq (.ops [⟨(some 7), (.faddr 0 (.tmp 3)), none⟩, ⟨(some 8), (.load1 (.tmp 7)), none⟩]) (.block 0 (.seq (.ops [⟨(some 10), (.bin .eql (.tmp 8) (.const (.int .i64 0))), none⟩, ⟨(some 9), (.assign (.tmp 10)), none⟩]) (.cond (.tmp 9) (.seq (.ops [⟨(some 11), (.move (.tmp 0)), none⟩, ⟨(some 12), (.faddr 1 (.tmp 3)), none⟩, ⟨(some 13), (.load1 (.tmp 12)), none⟩, ⟨(some 14), (.call 29 [(.tmp 11), (.tmp 13)]), none⟩, ⟨(some 4), (.assign (.tmp 14)), none⟩]) .ret) (.seq (.ops [⟨(some 16), (.bin .eql (.tmp 8) (.const (.int .i64 1))), none⟩, ⟨(some 15), (.assign (.tmp 16)), none⟩]) (.cond (.tmp 15) (.seq (.ops [⟨(some 17), (.move (.tmp 0)), none⟩, ⟨(some 18), (.faddr 1 (.tmp 3)), none⟩, ⟨(some 19), (.load1 (.tmp 18)), none⟩, ⟨(some 20), (.call 30 [(.tmp 17), (.tmp 19)]), none⟩, ⟨(some 4), (.assign (.tmp 20)), none⟩]) .ret) (.seq (.ops [⟨(some 22), (.bin .eql (.tmp 8) (.const (.int .i64 4))), none⟩, ⟨(some 21), (.assign (.tmp 22)), none⟩]) (.cond (.tmp 21) (.seq (.ops [⟨(some 23), (.move (.tmp 0)), none⟩, ⟨(some 24), (.faddr 1 (.tmp 3)), none⟩, ⟨(some 25), (.load1 (.tmp 24)), none⟩, ⟨(some 26), (.call 31 [(.tmp 23), (.tmp 25)]), none⟩, ⟨(some 4), (.assign (.tmp 26)), none⟩]) .ret) (.seq (.seq (.ops [⟨(some 28), (.bin .eql (.tmp 8) (.const (.int .i64 2))), none⟩, ⟨(some 27), (.assign (.tmp 28)), none⟩]) (.cond (.tmp 27) .skip (.ops [⟨(some 29), (.bin .eql (.tmp 8) (.const (.int .i64 3))), none⟩, ⟨(some 27), (.assign (.tmp 29)), none⟩]))) (.cond (.tmp 27) (.seq (.ops [⟨(some 31), (.move (.tmp 0)), none⟩, ⟨(some 32), (.faddr 2 (.tmp 3)), none⟩, ⟨(some 33), (.load1 (.tmp 32)), none⟩, ⟨(some 34), (.faddr 3 (.tmp 3)), none⟩, ⟨(some 35), (.load1 (.tmp 34)), none⟩, ⟨(some 36), (.call 32 [(.tmp 31), (.tmp 33), (.tmp 35)]), none⟩, ⟨(some 30), (.move (.tmp 36)), none⟩, ⟨(some 37), (.extract (.tmp 30) 0), none⟩, ⟨(some 38), (.extract (.tmp 30) 1), none⟩, ⟨(some 5), (.assign (.tmp 37)), none⟩, ⟨(some 6), (.assign (.tmp 38)), none⟩]) (.seq (.ops [⟨(some 39), (.move (.tmp 6)), none⟩, ⟨(some 4), (.assign (.tmp 39)), none⟩]) .ret)) .skip)))))))))) (.seq (.ops [⟨(some 40), (.move (.tmp 0)), none⟩, ⟨(some 41), (.faddr 1 (.tmp 3)), none⟩, ⟨(some 42), (.load1 (.tmp 41)), none⟩, ⟨(some 43), (.call 33 [(.tmp 40), (.tmp 42)]), none⟩, ⟨(some 4), (.assign (.tmp 43)), none⟩]) .ret))), [(.move (.tmp 4))]⟩
theorem k10 : cfun Try.prog 10 = some c10 := by kernel_rfl
def c3 : XFun := ⟨126, (.seq (.ops [⟨(some 4), (.assign (.const (.bool false))), none⟩]) (.seq (.ops [⟨(some 20), (.move (.tmp 0)), none⟩, ⟨(some 21), (.call 8 [(.tmp 20)]), none⟩, ⟨(some 19), (.move (.tmp 21)), none⟩, ⟨(some 22), (.extract (.tmp 19) 0), none⟩, ⟨(some 23), (.extract (.tmp 19) 1), none⟩, ⟨(some 5), (.assign (.tmp 22)), none⟩, ⟨(some 6), (.assign (.tmp 23)), none⟩]) (.seq (.ops [⟨(some 25), (.move (.tmp 0)), none⟩, ⟨(some 26), (.call 9 [(.tmp 25)]), none⟩, ⟨(some 24), (.move (.tmp 26)), none⟩, ⟨(some 27), (.extract (.tmp 24) 0), none⟩, ⟨(some 28), (.extract (.tmp 24) 1), none⟩, ⟨(some 7), (.assign (.tmp 27)), none⟩, ⟨(some 8), (.assign (.tmp 28)), none⟩]) (.seq (.seq (.ops [⟨(some 29), (.move (.tmp 6)), none⟩, ⟨(some 30), (.move (.tmp 8)), none⟩, ⟨(some 31), (.bin .neq (.tmp 29) (.tmp 30)), none⟩, ⟨(some 32), (.move (.tmp 31)), none⟩, ⟨(some 33), (.move (.tmp 5)), (some (32, false))⟩, ⟨(some 34), (.pnileq false (.tmp 33)), (some (32, false))⟩, ⟨(some 35), (.move (.tmp 7)), (some (32, false))⟩, ⟨(some 36), (.pnileq false (.tmp 35)), (some (32, false))⟩, ⟨(some 37), (.beq true (.tmp 34) (.tmp 36)), (some (32, false))⟩, ⟨(some 38), (.pick (.tmp 32) (.const (.bool true)) (.tmp 37)), none⟩]) (.cond (.tmp 38) (.seq (.ops [⟨(some 4), (.assign (.const (.bool false))), none⟩]) .ret) .skip)) (.seq (.seq (.ops [⟨(some 39), (.move (.tmp 1)), none⟩, ⟨(some 40), (.lenL (.tmp 39)), none⟩, ⟨(some 41), (.move (.const (.int .i64 0))), none⟩]) (.block 0 (.loop (.seq (.ops [⟨(some 42), (.bin .lss (.tmp 41) (.tmp 40)), none⟩]) (.seq (.cond (.tmp 42) .skip (.exit 0)) (.seq (.block 1 (.seq (.ops [⟨(some 43), (.move (.tmp 41)), none⟩, ⟨(some 44), (.iaddr 4 (.tmp 39) (.tmp 41)), none⟩, ⟨(some 45), (.loadN 4 (.tmp 44)), none⟩, ⟨(some 10), (.alloc [(.v (.int .i64 0)), (.v (.int .i64 0)), (.v (.int .i64 0)), (.v (.int .i64 0))]), none⟩, ⟨(some 9), (.assign (.tmp 43)), none⟩, ⟨none, (.store 4 (.tmp 10) (.tmp 45)), none⟩]) (.seq (.seq (.ops [⟨(some 46), (.move (.tmp 9)), none⟩, ⟨(some 47), (.bin .geq (.tmp 46) (.const (.int .i64 100))), none⟩, ⟨(some 48), (.move (.tmp 47)), none⟩, ⟨(some 49), (.move (.tmp 7)), (some (48, false))⟩, ⟨(some 50), (.pnileq false (.tmp 49)), (some (48, false))⟩, ⟨(some 51), (.pick (.tmp 48) (.const (.bool true)) (.tmp 50)), none⟩]) (.cond (.tmp 51) (.exit 0) .skip)) (.seq (.seq (.draws (.take ⟨(some 52), (.move (.tmp 5)), none⟩ (.take ⟨(some 53), (.loadN 4 (.tmp 10)), none⟩ (.take ⟨(some 55), (.move (.tmp 7)), none⟩ (.take ⟨(some 56), (.loadN 4 (.tmp 10)), none⟩ (.only ⟨(some 54), (.call 10 [(.tmp 52), (.tmp 53)]), none⟩ (.only ⟨(some 57), (.call 11 [(.tmp 55), (.tmp 56)]), none⟩ (.take ⟨(some 58), (.bin .neq (.tmp 54) (.tmp 57)), none⟩ (.take ⟨(some 59), (.move (.tmp 58)), none⟩ (.take ⟨(some 60), (.move (.tmp 5)), (some (59, false))⟩ (.take ⟨(some 61), (.faddr 1 (.tmp 10)), (some (59, false))⟩ (.take ⟨(some 62), (.load1 (.tmp 61)), (some (59, false))⟩ (.take ⟨(some 64), (.move (.tmp 7)), (some (59, false))⟩ (.take ⟨(some 65), (.faddr 1 (.tmp 10)), (some (59, false))⟩ (.take ⟨(some 66), (.load1 (.tmp 65)), (some (59, false))⟩ (.only ⟨(some 63), (.call 12 [(.tmp 60), (.tmp 62)]), (some (59, false))⟩ (.only ⟨(some 67), (.call 13 [(.tmp 64), (.tmp 66)]), (some (59, false))⟩ (.take ⟨(some 68), (.bin .neq (.tmp 63) (.tmp 67)), (some (59, false))⟩ (.take ⟨(some 69), (.pick (.tmp 59) (.const (.bool true)) (.tmp 68)), none⟩ (.take ⟨(some 70), (.move (.tmp 69)), none⟩ (.take ⟨(some 71), (.move (.tmp 5)), (some (70, false))⟩ (.take ⟨(some 73), (.move (.tmp 7)), (some (70, false))⟩ (.only ⟨(some 72), (.call 15 [(.tmp 71)]), (some (70, false))⟩ (.only ⟨(some 74), (.call 16 [(.tmp 73)]), (some (70, false))⟩ (.only ⟨(some 75), (.call 14 [(.tmp 72), (.tmp 74)]), (some (70, false))⟩ (.take ⟨(some 76), (.un .not (.tmp 75)), (some (70, false))⟩ (.take ⟨(some 77), (.pick (.tmp 70) (.const (.bool true)) (.tmp 76)), none⟩ .done))))))))))))))))))))))))))) (.cond (.tmp 77) (.seq (.ops [⟨(some 4), (.assign (.const (.bool false))), none⟩]) .ret) .skip)) (.seq (.ops [⟨(some 79), (.move (.tmp 5)), none⟩, ⟨(some 80), (.faddr 1 (.tmp 10)), none⟩, ⟨(some 81), (.load1 (.tmp 80)), none⟩, ⟨(some 82), (.call 17 [(.tmp 79), (.tmp 81)]), none⟩, ⟨(some 78), (.move (.tmp 82)), none⟩, ⟨(some 83), (.extract (.tmp 78) 0), none⟩, ⟨(some 84), (.extract (.tmp 78) 1), none⟩, ⟨(some 11), (.assign (.tmp 83)), none⟩, ⟨(some 12), (.assign (.tmp 84)), none⟩]) (.seq (.ops [⟨(some 86), (.move (.tmp 7)), none⟩, ⟨(some 87), (.faddr 1 (.tmp 10)), none⟩, ⟨(some 88), (.load1 (.tmp 87)), none⟩, ⟨(some 89), (.call 18 [(.tmp 86), (.tmp 88)]), none⟩, ⟨(some 85), (.move (.tmp 89)), none⟩, ⟨(some 90), (.extract (.tmp 85) 0), none⟩, ⟨(some 91), (.extract (.tmp 85) 1), none⟩, ⟨(some 13), (.assign (.tmp 90)), none⟩, ⟨(some 14), (.assign (.tmp 91)), none⟩]) (.seq (.ops [⟨(some 93), (.move (.tmp 5)), none⟩, ⟨(some 94), (.faddr 2 (.tmp 10)), none⟩, ⟨(some 95), (.load1 (.tmp 94)), none⟩, ⟨(some 96), (.call 19 [(.tmp 93), (.tmp 95)]), none⟩, ⟨(some 92), (.move (.tmp 96)), none⟩, ⟨(some 97), (.extract (.tmp 92) 0), none⟩, ⟨(some 98), (.extract (.tmp 92) 1), none⟩, ⟨(some 15), (.assign (.tmp 97)), none⟩, ⟨(some 16), (.assign (.tmp 98)), none⟩]) (.seq (.ops [⟨(some 100), (.move (.tmp 7)), none⟩, ⟨(some 101), (.faddr 2 (.tmp 10)), none⟩, ⟨(some 102), (.load1 (.tmp 101)), none⟩, ⟨(some 103), (.call 20 [(.tmp 100), (.tmp 102)]), none⟩, ⟨(some 99), (.move (.tmp 103)), none⟩, ⟨(some 104), (.extract (.tmp 99) 0), none⟩, ⟨(some 105), (.extract (.tmp 99) 1), none⟩, ⟨(some 17), (.assign (.tmp 104)), none⟩, ⟨(some 18), (.assign (.tmp 105)), none⟩]) (.seq (.ops [⟨(some 106), (.move (.tmp 11)), none⟩, ⟨(some 107), (.move (.tmp 13)), none⟩, ⟨(some 108), (.bin .neq (.tmp 106) (.tmp 107)), none⟩, ⟨(some 109), (.move (.tmp 108)), none⟩, ⟨(some 110), (.move (.tmp 12)), (some (109, false))⟩, ⟨(some 111), (.move (.tmp 14)), (some (109, false))⟩, ⟨(some 112), (.beq true (.tmp 110) (.tmp 111)), (some (109, false))⟩, ⟨(some 113), (.pick (.tmp 109) (.const (.bool true)) (.tmp 112)), none⟩, ⟨(some 114), (.move (.tmp 113)), none⟩, ⟨(some 115), (.move (.tmp 15)), (some (114, false))⟩, ⟨(some 116), (.move (.tmp 17)), (some (114, false))⟩, ⟨(some 117), (.bin .neq (.tmp 115) (.tmp 116)), (some (114, false))⟩, ⟨(some 118), (.pick (.tmp 114) (.const (.bool true)) (.tmp 117)), none⟩, ⟨(some 119), (.move (.tmp 118)), none⟩, ⟨(some 120), (.move (.tmp 16)), (some (119, false))⟩, ⟨(some 121), (.move (.tmp 18)), (some (119, false))⟩, ⟨(some 122), (.beq true (.tmp 120) (.tmp 121)), (some (119, false))⟩, ⟨(some 123), (.pick (.tmp 119) (.const (.bool true)) (.tmp 122)), none⟩]) (.cond (.tmp 123) (.seq (.ops [⟨(some 4), (.assign (.const (.bool false))), none⟩]) .ret) .skip)))))))))) (.ops [⟨(some 124), (.bin .add (.tmp 41) (.const (.int .i64 1))), none⟩, ⟨(some 41), (.move (.tmp 124)), none⟩]))))))) (.seq (.ops [⟨(some 125), (.call 21 []), none⟩, ⟨(some 4), (.assign (.tmp 125)), none⟩]) .ret)))))), [(.move (.tmp 4))]⟩
theorem k3 : cfun Try.prog 3 = some c3 := by kernel_rfl
def c4 : XFun := ⟨86, (.seq (.ops [⟨(some 4), (.assign (.const (.bool false))), none⟩]) (.seq (.ops [⟨(some 16), (.move (.tmp 0)), none⟩, ⟨(some 17), (.bin .rem (.tmp 16) (.const (.int .u8 8))), none⟩, ⟨(some 18), (.conv .i64 (.tmp 17)), none⟩, ⟨(some 19), (.bin .add (.const (.int .i64 1)) (.tmp 18)), none⟩, ⟨(some 5), (.assign (.tmp 19)), none⟩]) (.seq (.ops [⟨(some 21), (.move (.tmp 5)), none⟩, ⟨(some 22), (.call 8 [(.tmp 21)]), none⟩, ⟨(some 20), (.move (.tmp 22)), none⟩, ⟨(some 23), (.extract (.tmp 20) 0), none⟩, ⟨(some 24), (.extract (.tmp 20) 1), none⟩, ⟨(some 6), (.assign (.tmp 23)), none⟩, ⟨(some 7), (.assign (.tmp 24)), none⟩]) (.seq (.seq (.ops [⟨(some 25), (.move (.tmp 6)), none⟩, ⟨(some 26), (.pnileq false (.tmp 25)), none⟩, ⟨(some 27), (.move (.tmp 26)), none⟩, ⟨(some 28), (.move (.tmp 7)), (some (27, false))⟩, ⟨(some 29), (.bin .neq (.tmp 28) (.const (.int .i64 0))), (some (27, false))⟩, ⟨(some 30), (.pick (.tmp 27) (.const (.bool true)) (.tmp 29)), none⟩]) (.cond (.tmp 30) (.seq (.ops [⟨(some 4), (.assign (.const (.bool false))), none⟩]) .ret) .skip)) (.seq (.seq (.ops [⟨(some 31), (.move (.tmp 1)), none⟩, ⟨(some 32), (.lenL (.tmp 31)), none⟩, ⟨(some 33), (.move (.const (.int .i64 0))), none⟩]) (.block 0 (.loop (.seq (.ops [⟨(some 34), (.bin .lss (.tmp 33) (.tmp 32)), none⟩]) (.seq (.cond (.tmp 34) .skip (.exit 0)) (.seq (.block 1 (.seq (.ops [⟨(some 35), (.move (.tmp 33)), none⟩, ⟨(some 36), (.iaddr 4 (.tmp 31) (.tmp 33)), none⟩, ⟨(some 37), (.loadN 4 (.tmp 36)), none⟩, ⟨(some 9), (.alloc [(.v (.int .i64 0)), (.v (.int .i64 0)), (.v (.int .i64 0)), (.v (.int .i64 0))]), none⟩, ⟨(some 8), (.assign (.tmp 35)), none⟩, ⟨none, (.store 4 (.tmp 9) (.tmp 37)), none⟩]) (.seq (.seq (.ops [⟨(some 38), (.move (.tmp 8)), none⟩, ⟨(some 39), (.bin .geq (.tmp 38) (.const (.int .i64 100))), none⟩]) (.cond (.tmp 39) (.exit 0) .skip)) (.seq (.ops [⟨(some 40), (.move (.tmp 6)), none⟩, ⟨(some 41), (.loadN 4 (.tmp 9)), none⟩, ⟨(some 42), (.call 10 [(.tmp 40), (.tmp 41)]), none⟩]) (.seq (.ops [⟨(some 10), (.assign (.const (.slice none 0 0))), none⟩]) (.seq (.ops [⟨(some 43), (.move (.tmp 5)), none⟩, ⟨(some 44), (.move (.const (.int .i64 0))), none⟩]) (.block 2 (.loop (.seq (.ops [⟨(some 45), (.bin .lss (.tmp 44) (.tmp 43)), none⟩]) (.seq (.cond (.tmp 45) .skip (.exit 2)) (.seq (.block 3 (.seq (.ops [⟨(some 46), (.move (.tmp 44)), none⟩, ⟨(some 11), (.assign (.tmp 46)), none⟩]) (.seq (.ops [⟨(some 48), (.move (.tmp 6)), none⟩, ⟨(some 49), (.move (.tmp 11)), none⟩, ⟨(some 50), (.call 17 [(.tmp 48), (.tmp 49)]), none⟩, ⟨(some 47), (.move (.tmp 50)), none⟩, ⟨(some 51), (.extract (.tmp 47) 0), none⟩, ⟨(some 52), (.extract (.tmp 47) 1), none⟩, ⟨(some 12), (.assign (.tmp 51)), none⟩, ⟨(some 13), (.assign (.tmp 52)), none⟩]) (.seq (.seq (.ops [⟨(some 53), (.move (.tmp 13)), none⟩, ⟨(some 54), (.move (.tmp 6)), none⟩, ⟨(some 55), (.move (.tmp 11)), none⟩, ⟨(some 56), (.call 12 [(.tmp 54), (.tmp 55)]), none⟩, ⟨(some 57), (.bin .eql (.tmp 56) (.const (.int .i64 3))), none⟩, ⟨(some 58), (.beq true (.tmp 53) (.tmp 57)), none⟩]) (.cond (.tmp 58) (.seq (.ops [⟨(some 4), (.assign (.const (.bool false))), none⟩]) .ret) .skip)) (.seq (.seq (.ops [⟨(some 59), (.move (.tmp 13)), none⟩, ⟨(some 60), (.un .not (.tmp 59)), none⟩]) (.cond (.tmp 60) (.exit 3) .skip)) (.seq (.ops [⟨(some 62), (.move (.tmp 6)), none⟩, ⟨(some 63), (.move (.tmp 12)), none⟩, ⟨(some 64), (.call 19 [(.tmp 62), (.tmp 63)]), none⟩, ⟨(some 61), (.move (.tmp 64)), none⟩, ⟨(some 65), (.extract (.tmp 61) 0), none⟩, ⟨(some 66), (.extract (.tmp 61) 1), none⟩, ⟨(some 14), (.assign (.tmp 65)), none⟩, ⟨(some 15), (.assign (.tmp 66)), none⟩]) (.seq (.seq (.ops [⟨(some 67), (.move (.tmp 10)), none⟩, ⟨(some 68), (.move (.tmp 12)), none⟩, ⟨(some 69), (.call 22 [(.tmp 67), (.tmp 68)]), none⟩, ⟨(some 70), (.move (.tmp 69)), none⟩, ⟨(some 71), (.move (.tmp 15)), (some (70, false))⟩, ⟨(some 72), (.un .not (.tmp 71)), (some (70, false))⟩, ⟨(some 73), (.pick (.tmp 70) (.const (.bool true)) (.tmp 72)), none⟩, ⟨(some 74), (.move (.tmp 73)), none⟩, ⟨(some 75), (.move (.tmp 14)), (some (74, false))⟩, ⟨(some 76), (.move (.tmp 11)), (some (74, false))⟩, ⟨(some 77), (.bin .neq (.tmp 75) (.tmp 76)), (some (74, false))⟩, ⟨(some 78), (.pick (.tmp 74) (.const (.bool true)) (.tmp 77)), none⟩]) (.cond (.tmp 78) (.seq (.ops [⟨(some 4), (.assign (.const (.bool false))), none⟩]) .ret) .skip)) (.ops [⟨(some 79), (.move (.tmp 10)), none⟩, ⟨(some 80), (.move (.tmp 12)), none⟩, ⟨(some 81), (.buildSlice 1 1 [(.v (.int .i64 0))] [(0, (.tmp 80))]), none⟩, ⟨(some 82), (.append 1 8 (.tmp 79) (.tmp 81)), none⟩, ⟨(some 10), (.assign (.tmp 82)), none⟩])))))))) (.ops [⟨(some 83), (.bin .add (.tmp 44) (.const (.int .i64 1))), none⟩, ⟨(some 44), (.move (.tmp 83)), none⟩])))))))))))) (.ops [⟨(some 84), (.bin .add (.tmp 33) (.const (.int .i64 1))), none⟩, ⟨(some 33), (.move (.tmp 84)), none⟩]))))))) (.seq (.ops [⟨(some 85), (.call 21 []), none⟩, ⟨(some 4), (.assign (.tmp 85)), none⟩]) .ret)))))), [(.move (.tmp 4))]⟩
def c5 : XFun := ⟨54, (.seq (.ops [⟨(some 1), (.box (.tmp 0)), none⟩, ⟨(some 2), (.assign (.const (.bool false))), none⟩]) (.seq (.ops [⟨(some 3), (.assign (.const (.pointer none))), none⟩]) (.seq (.ops [⟨(some 4), (.alloc [(.sl 0 [] (some true) .exact), (.v (.map none))]), none⟩]) (.seq (.ops [⟨(some 10), (.move (.tmp 3)), none⟩, ⟨(some 11), (.faddr 1 (.tmp 1)), none⟩, ⟨(some 12), (.load1 (.tmp 11)), none⟩, ⟨(some 13), (.call 17 [(.tmp 10), (.tmp 12)]), none⟩, ⟨(some 9), (.move (.tmp 13)), none⟩, ⟨(some 14), (.extract (.tmp 9) 0), none⟩, ⟨(some 15), (.extract (.tmp 9) 1), none⟩, ⟨(some 5), (.assign (.tmp 14)), none⟩, ⟨(some 6), (.assign (.tmp 15)), none⟩]) (.seq (.ops [⟨(some 17), (.faddr 2 (.tmp 1)), none⟩, ⟨(some 18), (.load1 (.tmp 17)), none⟩, ⟨(some 19), (.call 19 [(.tmp 4), (.tmp 18)]), none⟩, ⟨(some 16), (.move (.tmp 19)), none⟩, ⟨(some 20), (.extract (.tmp 16) 0), none⟩, ⟨(some 21), (.extract (.tmp 16) 1), none⟩, ⟨(some 7), (.assign (.tmp 20)), none⟩, ⟨(some 8), (.assign (.tmp 21)), none⟩]) (.seq (.ops [⟨(some 22), (.move (.tmp 3)), none⟩, ⟨(some 23), (.loadN 4 (.tmp 1)), none⟩, ⟨(some 24), (.call 10 [(.tmp 22), (.tmp 23)]), none⟩, ⟨(some 25), (.bin .eql (.tmp 24) (.const (.int .i64 2))), none⟩, ⟨(some 26), (.move (.tmp 25)), none⟩, ⟨(some 27), (.loadN 4 (.tmp 1)), (some (26, true))⟩, ⟨(some 28), (.call 10 [(.tmp 4), (.tmp 27)]), (some (26, true))⟩, ⟨(some 29), (.bin .eql (.tmp 28) (.const (.int .i64 2))), (some (26, true))⟩, ⟨(some 30), (.pick (.tmp 26) (.tmp 29) (.const (.bool false))), none⟩, ⟨(some 31), (.move (.tmp 30)), none⟩, ⟨(some 32), (.move (.tmp 3)), (some (31, true))⟩, ⟨(some 33), (.faddr 1 (.tmp 1)), (some (31, true))⟩, ⟨(some 34), (.load1 (.tmp 33)), (some (31, true))⟩, ⟨(some 35), (.call 12 [(.tmp 32), (.tmp 34)]), (some (31, true))⟩, ⟨(some 36), (.bin .eql (.tmp 35) (.const (.int .i64 0))), (some (31, true))⟩, ⟨(some 37), (.pick (.tmp 31) (.tmp 36) (.const (.bool false))), none⟩, ⟨(some 38), (.move (.tmp 37)), none⟩, ⟨(some 39), (.call 15 [(.tmp 4)]), (some (38, true))⟩, ⟨(some 40), (.lenL (.tmp 39)), (some (38, true))⟩, ⟨(some 41), (.bin .eql (.tmp 40) (.const (.int .i64 0))), (some (38, true))⟩, ⟨(some 42), (.pick (.tmp 38) (.tmp 41) (.const (.bool false))), none⟩, ⟨(some 43), (.move (.tmp 42)), none⟩, ⟨(some 44), (.move (.tmp 6)), (some (43, true))⟩, ⟨(some 45), (.un .not (.tmp 44)), (some (43, true))⟩, ⟨(some 46), (.pick (.tmp 43) (.tmp 45) (.const (.bool false))), none⟩, ⟨(some 47), (.move (.tmp 46)), none⟩, ⟨(some 48), (.move (.tmp 8)), (some (47, true))⟩, ⟨(some 49), (.un .not (.tmp 48)), (some (47, true))⟩, ⟨(some 50), (.pick (.tmp 47) (.tmp 49) (.const (.bool false))), none⟩, ⟨(some 51), (.move (.tmp 50)), none⟩, ⟨(some 52), (.call 21 []), (some (51, true))⟩, ⟨(some 53), (.pick (.tmp 51) (.tmp 52) (.const (.bool false))), none⟩, ⟨(some 2), (.assign (.tmp 53)), none⟩]) .ret)))))), [(.move (.tmp 2))]⟩
theorem k5 : cfun Try.prog 5 = some c5 := by kernel_rfl
end Go.Proofs.Ytdfocmmajngelaa.Ax
/- Which server is whose, over values without memory: lease's calls that change nothing. -/
namespace Go.Proofs.Ytdfocmmajngelaa.Ax
open Go.RowKit Go By
set_option linter.unusedSimpArgs false
set_option linter.unusedVariables false
set_option maxRecDepth 10000

theorem mixedLe : Try.prog.follows .mixedOrders = true := by kernel_rfl
theorem leC_len (n : Int) : (intC n).length = 1 := rfl
theorem leC_plain (n : Int) : ∀ c ∈ intC n, c.idOf = none := by simp [intC]
theorem leC_lt (n : Int) (k : Nat) : ltL k (intC n) := by simp [intC]
/-- All servers: each its state, and whose it is. -/
abbrev Ser := List (Int × Int)
def hasD (D : Ser) (s : Int) : Bool := decide (0 ≤ s) && decide (s < D.length)
def stD (D : Ser) (s : Int) : Int := if hasD D s = true then (D.getD s.toNat (0, 0)).1 else 0
def holD (D : Ser) (s : Int) : Int × Bool := if stD D s = 3 then ((D.getD s.toNat (0, 0)).2, true) else (0, false)
def ofAt (c : Int) : Ser → Nat → Option Nat
  | [], _ => none
  | x :: r, j => if x.1 = 3 ∧ x.2 = c then some j else ofAt c r (j + 1)
def ofD (D : Ser) (c : Int) : Int × Bool := match ofAt c D 0 with
  | some j => ((j : Int), true)
  | none => (0, false)
def idleAt : Ser → Nat → List Int
  | [], _ => []
  | x :: r, j => (if x.1 = 2 then [(j : Int)] else []) ++ idleAt r (j + 1)
def idleD (D : Ser) : List Int := idleAt D 0
theorem idleAt_take (D : Ser) (k j : Nat) (hj : j < D.length) : idleAt (D.take (j + 1)) k = idleAt (D.take j) k ++ (if D[j].1 = 2 then [((k + j : Nat) : Int)] else []) := by
  induction D generalizing k j with
  | nil => simp at hj
  | cons x r ih =>
    cases j with
    | zero => simp [idleAt]
    | succ j =>
      have := ih (k + 1) j (by simpa using hj)
      simp only [List.take_succ_cons, idleAt, this, List.getElem_cons_succ, List.append_assoc]
      rw [show k + 1 + j = k + (j + 1) by omega]
theorem idleAt_len : ∀ (D : Ser) (k : Nat), (idleAt D k).length ≤ D.length
  | [], _ => Nat.le_refl _
  | x :: r, k => by
    have := idleAt_len r (k + 1)
    simp only [idleAt, List.length_append, List.length_cons]
    split <;> simp <;> omega
theorem idleAt_mem : ∀ (D : Ser) (k : Nat) (s : Int), s ∈ idleAt D k → ∃ j : Nat, s = ((k + j : Nat) : Int) ∧ ∃ c, D[j]? = some (2, c)
  | [], _, s, h => by cases h
  | x :: r, k, s, h => by
    unfold idleAt at h
    rcases List.mem_append.1 h with h3 | h3
    · split at h3
      · rename_i hx
        have h4 : s = (k : Int) := List.mem_singleton.1 h3
        exact ⟨0, by rw [h4]; rfl, x.2, by rw [← hx]; rfl⟩
      · cases h3
    · obtain ⟨j, h1, c, h2⟩ := idleAt_mem r (k + 1) s h3
      exact ⟨j + 1, by rw [h1]; congr 1; omega, c, by simpa using h2⟩
theorem intsA_g {l : List Int} {j : Nat} (hj : j < (intsA l).length) : (intsA l)[j] = .v (.int .i64 (l[j]'(by simpa using hj))) := by
  have h1 : j < l.length := by simpa using hj
  have h2 := intsA_get h1
  rw [List.getElem?_eq_getElem hj] at h2
  injection h2
structure LeAt (h : List (List AV)) (i b a : Nat) (D : Ser) : Prop where
  ex : ∃ (clock : Nat) (l : List (IE Int)), h[a]? = some (mapC clock (l.map (IE.ent intC))) ∧ IE.Ok clock l ∧ ∀ c s, IE.get c l = some s ↔ ∃ j : Nat, s = (j : Int) ∧ D[j]? = some (3, c)
  top : h[i]? = some [.bsl b 0 1 D.length, .mp a 1 true]
  st : h[b]? = some (intsA (D.map Prod.fst))
  ne : i ≠ a ∧ i ≠ b ∧ a ≠ b
  len : 1 ≤ D.length ∧ D.length ≤ 8
theorem stD_at {D : Ser} {s : Nat} (hs : s < D.length) : stD D (s : Int) = D[s].1 := by
  unfold stD hasD
  rw [if_pos (by simpa using hs)]
  simp [List.getD_eq_getElem?_getD, hs]
theorem ofAt_some {c : Int} : ∀ {D : Ser} {k j : Nat}, ofAt c D k = some j → ∃ q, j = k + q ∧ D[q]? = some (3, c)
  | [], _, _, h => by cases h
  | x :: r, k, j, h => by
    unfold ofAt at h
    split at h
    · rename_i hx
      injection h with h
      obtain ⟨x1, x2⟩ := x
      obtain ⟨h1, h2⟩ := hx
      simp only at h1 h2
      subst h1 h2
      exact ⟨0, h.symm, rfl⟩
    · obtain ⟨q, h1, h2⟩ := ofAt_some h
      exact ⟨q + 1, by omega, by simpa using h2⟩
theorem ofAt_none {c : Int} : ∀ {D : Ser} {k : Nat}, ofAt c D k = none → ∀ q : Nat, D[q]? ≠ some (3, c)
  | [], _, _, q => by simp
  | x :: r, k, h, q => by
    unfold ofAt at h
    split at h
    · cases h
    · rename_i hx
      cases q with
      | zero =>
        intro e
        simp at e
        subst e
        exact hx ⟨rfl, rfl⟩
      | succ q => simpa using ofAt_none h q
section
variable {h : List (List AV)} {i b a : Nat} {D : Ser}
theorem LeAt.i_lt (hr : LeAt h i b a D) : i < h.length := (List.getElem?_eq_some_iff.1 hr.top).1
theorem LeAt.b_lt (hr : LeAt h i b a D) : b < h.length := (List.getElem?_eq_some_iff.1 hr.st).1
theorem LeAt.a_lt (hr : LeAt h i b a D) : a < h.length := by
  obtain ⟨_, _, h1, _⟩ := hr.ex
  exact (List.getElem?_eq_some_iff.1 h1).1
theorem lmade_c (hr : LeAt h i b a D) : Contract Try.prog 41 [.box i 0] h (.v (.bool true)) h [] := by
  have h1 := hr.top
  refine contract_of k41 mixedLe (by simp [c41]) fun hh hargs => ?_
  simp [c41, h1, hh]
theorem lmade_nil : Contract Try.prog 41 [.v (.pointer none)] h (.v (.bool false)) h [] := by
  refine contract_of k41 mixedLe (by simp [c41]) fun hh hargs => ?_
  simp [c41, hh]
theorem lmade_zero (h1 : h[i]? = some [.sl 0 [] (some true) .exact, .v (.map none)]) : Contract Try.prog 41 [.box i 0] h (.v (.bool false)) h [] := by
  refine contract_of k41 mixedLe (by simp [c41]) fun hh hargs => ?_
  simp [c41, h1, hh]
theorem lhas_c (hr : LeAt h i b a D) (s : Int) : Contract Try.prog 39 [.box i 0, .v (.int .i64 s)] h (.v (.bool (hasD D s))) h [] := by
  have h1 := hr.top
  refine contract_of k39 mixedLe (by simp [c39]) fun hh hargs => ?_
  unfold hasD
  simp [c39]
  refine xcall_self (by simp) (lmade_c hr) ?_
  by_cases h0 : 0 ≤ s
  · simp [h1, hh, h0]
  · simp [h1, hh, h0]
theorem lstate_c (hr : LeAt h i b a D) (s : Int) : Contract Try.prog 12 [.box i 0, .v (.int .i64 s)] h (.v (.int .i64 (stD D s))) h [] := by
  have h1 := hr.top
  have h2 := hr.st
  refine contract_of k12 mixedLe (by simp [c12]) fun hh hargs => ?_
  unfold stD
  simp [c12]
  refine xcall_self (by simp) (lhas_c hr s) ?_
  cases hs : hasD D s with
  | false => simp [hh]
  | true =>
    have hs2 : 0 ≤ s ∧ s < D.length := by simpa [hasD] using hs
    obtain ⟨j, rfl⟩ : ∃ j : Nat, s = (j : Int) := ⟨s.toNat, by omega⟩
    have hj : j < D.length := by omega
    have h3 := intsA_get (l := D.map Prod.fst) (j := j) (by simpa using hj)
    simp [h1, h2, hh, hj, intsA_g, List.getD_eq_getElem?_getD]
theorem lidle_c (hr : LeAt h i b a D) : Contract Try.prog 15 [.box i 0] h (.sl 1 (enc intC (idleD D)) none .no) h [] := by
  have h1 := hr.top
  have h2 := hr.st
  have hi := hr.i_lt
  have hb := hr.b_lt
  have hl := hr.len
  refine contract_of k15 mixedLe (by simp [c15]) fun hh hargs => ?_
  simp [c15]
  refine xcall_self (by simp) (lmade_c hr) ?_
  simp [h1]
  refine xloop_ok (D := Nat) (fun j => ⟨[(12, .bsl b 0 1 D.length), (13, .v (.int .i64 (D.length : Int))), (14, .v (.int .i64 (j : Int)))], [(3, .sl 1 (enc intC (idleAt (D.take j) 0)) none (.own (.new 3)))], h, []⟩) (fun j => j ≤ D.length) (fun j => D.length - j) 0 (Nat.zero_le _) ?_ ?_
  · simp [Leq, hh, hb, idleAt]
  · intro j hj
    by_cases hlt : j < D.length
    · have hw : IntKind.i64.wrap ((j : Int) + 1) = (j : Int) + 1 := wrap64 (by omega) (by omega)
      have h3 := intsA_get (l := D.map Prod.fst) (j := j) (by simpa using hlt)
      have h4 := idleAt_take D 0 j hlt
      have h5 := idleAt_len (D.take j) 0
      simp at h5
      simp [hlt, h2, intsA_g]
      by_cases he : D[j].1 = 2
      · simp [he, hw]
        refine ⟨by omega, by omega, j + 1, by omega, by omega, ?_⟩
        rw [h4, if_pos he, Nat.zero_add]
        simp [Leq, hh, hb, enc, intC]
        refine ltLL_of' fun q c hc => ?_
        obtain ⟨y, _, rfl⟩ := List.mem_map.1 (List.mem_of_getElem? hc)
        exact leC_lt _ _
      · simp [he, hw]
        refine ⟨j + 1, by omega, by omega, ?_⟩
        rw [h4, if_neg he, List.append_nil]
        simp [Leq, hh, hb]
    · have hjl : j = D.length := by omega
      subst hjl
      have hres : ∀ m (es : List (List AV)), resOf m (.sl 1 es none (.own (.new 2))) = .sl 1 es none (.own .res) := fun _ _ => rfl
      simp [hh, hres, idleD]
/-- Whose it is, in whatever order the clients come. -/
theorem hold_uniq (hr : LeAt h i b a D) {clock : Nat} {l : List (IE Int)} (e2 : IE.Ok clock l) (e3 : ∀ c s, IE.get c l = some s ↔ ∃ j : Nat, s = (j : Int) ∧ D[j]? = some (3, c)) (s : Int) :
    (∀ x ∈ l, x.val = s → holD D s = (x.key, true)) ∧ ((∀ x ∈ l, x.val ≠ s) → holD D s = (0, false)) := by
  constructor
  · intro x hx hv
    obtain ⟨j, h1, h2⟩ := (e3 x.key x.val).1 ((IE.get_iff e2).2 ⟨x, hx, rfl, rfl⟩)
    obtain ⟨hj, h3⟩ := List.getElem?_eq_some_iff.1 h2
    unfold holD
    rw [← hv, h1, stD_at hj, h3, if_pos rfl]
    simp [List.getD_eq_getElem?_getD, h2]
  · intro hno
    unfold holD
    rw [if_neg]
    intro h3
    have hs : hasD D s = true := by
      cases hs : hasD D s with
      | true => rfl
      | false => unfold stD at h3; rw [hs] at h3; cases h3
    have hs2 : 0 ≤ s ∧ s < D.length := by simpa [hasD] using hs
    obtain ⟨j, rfl⟩ : ∃ j : Nat, s = (j : Int) := ⟨s.toNat, by omega⟩
    have hj : j < D.length := by omega
    rw [stD_at hj] at h3
    have h4 : D[j]? = some (3, D[j].2) := by rw [List.getElem?_eq_getElem hj, ← h3]
    obtain ⟨x, hx, h5, h6⟩ := (IE.get_iff e2).1 ((e3 D[j].2 j).2 ⟨j, rfl, h4⟩)
    exact hno x hx h6
set_option maxHeartbeats 1000000 in
theorem lhold_c (hr : LeAt h i b a D) (s : Int) : Contract Try.prog 17 [.box i 0, .v (.int .i64 s)] h (.tup [.v (.int .i64 (holD D s).1), .v (.bool (holD D s).2)]) h [] := by
  have h1 := hr.top
  have hi := hr.i_lt
  have hla := hr.a_lt
  obtain ⟨clock, l, e1, e2, e3⟩ := hr.ex
  obtain ⟨u1, u2⟩ := hold_uniq hr e2 e3 s
  have e4 : mapOf 1 (mapC clock (l.map (IE.ent intC))) = some (clock, l.map (IE.ent intC)) := IE.ents_of leC_len _ _
  have g2 : ∀ xs, (h ++ xs)[a]? = some (mapC clock (l.map (IE.ent intC))) := fun xs => by rw [List.getElem?_append_left hla]; exact e1
  refine contract_of k17 mixedLe (by simp [c17]) fun hh hargs => ?_
  simp [c17]
  refine xcall_self (by simp) (lmade_c hr) ?_
  simp [h1, e1, e4]
  refine xloop_ok (D := List (IE Int)) (fun seen => ⟨[(1, .v (.int .i64 s)), (15, .itr h.length (some a) 1 true)], [], h ++ [itC clock clock (seen.map IE.born)], []⟩) (fun seen => IE.Seen l seen ∧ ∀ x ∈ seen, x.val ≠ s) (fun seen => l.length - seen.length) [] ⟨⟨List.nodup_nil, fun x hx => by cases hx⟩, fun x hx => by cases hx⟩ ?_ ?_
  · simp [Leq, hh, hi, hla, leqH_take, itC]
    omega
  · rintro seen ⟨hs, hno⟩
    simp [g2, e4]
    refine ⟨fun a ha => e2.lt a ha, fun hall => ?_, ?_⟩
    · have hperm := hs.perm e2 fun x hx => hall x hx
      have h2 := u2 fun x hx => hno x (hperm.mem_iff.2 hx)
      simp [h2, hh]
    · intro x hx hnew
      have hb := IE.at_born (f := intC) e2.borns hx
      have hkey : (IE.ent intC x).key = .int .i64 x.key := rfl
      have hborn : (IE.ent intC x).born = x.born := rfl
      have hcells : (IE.ent intC x).cells = [.v (.int .i64 x.val)] := rfl
      have hout : x ∉ seen := fun hx => hnew x hx rfl
      have hs2 := hs.snoc hx hout
      have hle := hs2.le
      simp at hle
      simp [hb, hkey, hborn, hcells]
      by_cases hv : x.val = s
      · have h2 := u1 x hx hv
        simp [hv, h2, hh]
      · simp [hv]
        refine ⟨seen ++ [x], ⟨hs2, fun y hy => ?_⟩, by simp; omega, ?_⟩
        · rcases List.mem_append.1 hy with hy | hy
          · exact hno y hy
          · rw [List.mem_singleton.1 hy]; exact hv
        · simp [Leq, hh, hi, hla, leqH_take, itC]
          and_intros
          all_goals first | omega | (refine ltL_of fun j c hc => ?_; obtain ⟨b, _, rfl⟩ := List.mem_map.1 (List.mem_of_getElem? hc); simp)
end
end Go.Proofs.Ytdfocmmajngelaa.Ax
namespace Go.Proofs.Ytdfocmmajngelaa.Ax
open Go.RowKit Go By
set_option linter.unusedSimpArgs false
set_option linter.unusedVariables false
set_option maxRecDepth 10000

/-- What a call does that changes who has what. -/
def LDoes (f : FuncId) (args : List AV) (h : List (List AV)) (i b a : Nat) (r : AV) (D' : Ser) : Prop :=
  ∃ h', Contract Try.prog f args h r h' [b, a] ∧ LeAt h' i b a D' ∧ h'.length = h.length ∧ (∀ q, q ≠ b → q ≠ a → h'[q]? = h[q]?) ∧ (ltLL h.length h → ltLL h'.length h')
def turnD (D : Ser) (s to : Int) (may : Int → Bool) : Int × Ser := if hasD D s = false then (1, D) else if may (stD D s) = false then (10, D) else (0, D.set s.toNat (to, 0))
theorem ents_lt (clock : Nat) (l : List (IE Int)) (n : Nat) : ltL n (mapC clock (l.map (IE.ent intC))) := mapC_ltE fun e he => by obtain ⟨s, _, rfl⟩ := List.mem_map.1 he; exact leC_lt _ _
section
variable {h : List (List AV)} {i b a : Nat} {D : Ser}
theorem LeAt.set (hr : LeAt h i b a D) {j : Nat} (hj : j < D.length) (v : Int × Int) {clock : Nat} {l : List (IE Int)} (e2 : IE.Ok clock l) (e3 : ∀ c s, IE.get c l = some s ↔ ∃ q : Nat, s = (q : Int) ∧ (D.set j v)[q]? = some (3, c)) :
    LeAt ((h.set a (mapC clock (l.map (IE.ent intC)))).set b (intsA ((D.set j v).map Prod.fst))) i b a (D.set j v) := by
  obtain ⟨n1, n2, n3⟩ := hr.ne
  refine ⟨⟨clock, l, ?_, e2, e3⟩, ?_, ?_, hr.ne, by rw [List.length_set]; exact hr.len⟩
  · rw [List.getElem?_set_ne (Ne.symm n3), List.getElem?_set_self hr.a_lt]
  · rw [List.getElem?_set_ne (Ne.symm n2), List.getElem?_set_ne (Ne.symm n1), List.length_set]; exact hr.top
  · rw [List.getElem?_set_self (by rw [List.length_set]; exact hr.b_lt)]
/-- A server's state turns, which becomes nobody's. -/
theorem turn_map {clock : Nat} {l : List (IE Int)} (e2 : IE.Ok clock l) (e3 : ∀ c s, IE.get c l = some s ↔ ∃ j : Nat, s = (j : Int) ∧ D[j]? = some (3, c)) {j : Nat} (hj : j < D.length) {to : Int} (hto : to ≠ 3) :
    (∀ c, D[j]? = some (3, c) → ∀ c' s, IE.get c' (IE.del c l) = some s ↔ ∃ q : Nat, s = (q : Int) ∧ (D.set j (to, 0))[q]? = some (3, c')) ∧
    (D[j].1 ≠ 3 → ∀ c' s, IE.get c' l = some s ↔ ∃ q : Nat, s = (q : Int) ∧ (D.set j (to, 0))[q]? = some (3, c')) := by
  have hset : ∀ (q : Nat) (c' : Int), (D.set j (to, 0))[q]? = some (3, c') ↔ q ≠ j ∧ D[q]? = some (3, c') := fun q c' => by
    rw [List.getElem?_set]
    by_cases e : j = q
    · subst e
      simp [hj]
      exact fun h => absurd h hto
    · rw [if_neg e]
      exact ⟨fun h => ⟨fun e2 => e e2.symm, h⟩, fun h => h.2⟩
  constructor
  · intro c hc c' s
    rw [IE.get_del e2]
    by_cases e : c' = c
    · rw [if_pos e]
      subst e
      constructor
      · intro h; cases h
      · rintro ⟨q, h1, h2⟩
        obtain ⟨h3, h4⟩ := (hset q c').1 h2
        have g1 := (e3 c' q).2 ⟨q, rfl, h4⟩
        have g2 := (e3 c' j).2 ⟨j, rfl, hc⟩
        rw [g1] at g2
        injection g2 with g2
        omega
    · rw [if_neg e, e3]
      constructor
      · rintro ⟨q, h1, h2⟩
        refine ⟨q, h1, (hset q c').2 ⟨fun e2 => ?_, h2⟩⟩
        subst e2
        rw [hc] at h2
        injection h2 with h2
        injection h2 with _ h2
        exact e h2.symm
      · rintro ⟨q, h1, h2⟩
        exact ⟨q, h1, ((hset q c').1 h2).2⟩
  · intro hn c' s
    rw [e3]
    constructor
    · rintro ⟨q, h1, h2⟩
      refine ⟨q, h1, (hset q c').2 ⟨fun e2 => ?_, h2⟩⟩
      subst e2
      rw [List.getElem?_eq_getElem hj] at h2
      injection h2 with h2
      exact hn (by rw [h2])
    · rintro ⟨q, h1, h2⟩
      exact ⟨q, h1, ((hset q c').1 h2).2⟩
theorem LDoes.same {f : FuncId} {args : List AV} {r : AV} (hr : LeAt h i b a D) (hc : Contract Try.prog f args h r h [b, a]) : LDoes f args h i b a r D := ⟨h, hc, hr, rfl, fun _ _ _ => rfl, fun hl => hl⟩
set_option maxHeartbeats 1000000 in
theorem lturn_c (hr : LeAt h i b a D) (s to : Int) (hto : to ≠ 3) (g : FuncId) (may : Int → Bool) (hg : ∀ st, Contract Try.prog g [.v (.int .i64 st)] h (.v (.bool (may st))) h []) :
    LDoes 45 [.box i 0, .v (.int .i64 s), .v (.int .i64 to), .fn (.func g) [] []] h i b a (.v (.int .i64 (turnD D s to may).1)) (turnD D s to may).2 := by
  have h1 := hr.top
  have h2 := hr.st
  have hi := hr.i_lt
  have hb := hr.b_lt
  have hla := hr.a_lt
  obtain ⟨n1, n2, n3⟩ := hr.ne
  unfold turnD
  cases hs : hasD D s with
  | false =>
    simp only [if_true]
    refine LDoes.same hr (contract_of k45 mixedLe (by simp [c45]) fun hh hargs => ?_)
    simp [c45]
    refine xcall_self (by simp) (lmade_c hr) ?_
    simp
    refine xcall_self (by simp) (lhas_c hr s) ?_
    simp [hs, hh]
  | true =>
    have hs2 : 0 ≤ s ∧ s < D.length := by simpa [hasD] using hs
    obtain ⟨j, rfl⟩ : ∃ j : Nat, s = (j : Int) := ⟨s.toNat, by omega⟩
    have hj : j < D.length := by omega
    have hst := stD_at hj
    have hj2 : (j : Int) < (D.length : Int) := by omega
    simp only [Bool.true_eq_false, if_false, Int.toNat_natCast]
    cases hm : may (stD D j) with
    | false =>
      simp only [if_true]
      rw [hst] at hm
      refine LDoes.same hr (contract_of k45 mixedLe (by simp [c45]) fun hh hargs => ?_)
      simp [c45]
      refine xcall_self (by simp) (lmade_c hr) ?_
      simp
      refine xcall_self (by simp) (lhas_c hr _) ?_
      simp [hs, h1, h2, hj, intsA_g]
      refine xcall_self (by simp) (hg _) ?_
      simp [hm, hh]
    | true =>
      simp only [Bool.true_eq_false, if_false]
      rw [hst] at hm
      obtain ⟨clock, l, e1, e2, e3⟩ := hr.ex
      obtain ⟨m1, m2⟩ := turn_map e2 e3 hj hto
      have e4 : mapOf 1 (mapC clock (l.map (IE.ent intC))) = some (clock, l.map (IE.ent intC)) := IE.ents_of leC_len _ _
      have e5 : keysOk (some .i64) (l.map (IE.ent intC)) := IE.ents_keys leC_plain _
      have hj1 : j + 1 ≤ D.length := hj
      have hset : intsA ((D.map Prod.fst).set j to) = (intsA (D.map Prod.fst)).set j (.v (.int .i64 to)) := by unfold intsA; rw [List.map_set]
      have hlt3 : ∀ n, ltL n ((intsA (D.map Prod.fst)).set j (.v (.int .i64 to))) := fun n => by rw [← hset]; simp
      by_cases h3 : D[j].1 = 3
      · have hD : D[j]? = some (3, D[j].2) := by rw [List.getElem?_eq_getElem hj, ← h3]
        have hh1 : holD D (j : Int) = (D[j].2, true) := by
          unfold holD
          rw [hst, if_pos h3]
          simp [List.getD_eq_getElem?_getD, hj]
        have e6 := IE.del_eq intC D[j].2 l
        have hat := hr.set hj (to, 0) (IE.del_ok e2 D[j].2) (m1 _ hD)
        refine ⟨_, ?_, hat, by simp, fun q q1 q2 => by rw [List.getElem?_set_ne (Ne.symm q1), List.getElem?_set_ne (Ne.symm q2)], fun hl => ?_⟩
        · refine contract_of k45 mixedLe (by simp [c45]) fun hh hargs => ?_
          simp [c45]
          refine xcall_self (by simp) (lmade_c hr) ?_
          simp
          refine xcall_self (by simp) (lhas_c hr _) ?_
          simp [hs, h1, h2, hj, intsA_g]
          refine xcall_self (by simp) (hg _) ?_
          simp [hm]
          refine xcall_self (by simp) (lhold_c hr _) ?_
          have g1 : ∀ X : List AV, (h.set a X)[i]? = h[i]? := fun X => List.getElem?_set_ne (Ne.symm n1)
          have g2 : ∀ X : List AV, (h.set a X)[b]? = h[b]? := fun X => List.getElem?_set_ne n3
          have hlt1 := ltLL_set (i := a) hh (ents_lt clock (IE.del D[j].2 l) h.length)
          have hlt2 := ltLL_set (i := b) hlt1 (hlt3 h.length)
          have htk : ((h.set a (mapC clock ((IE.del D[j].2 l).map (IE.ent intC)))).set b ((intsA (D.map Prod.fst)).set j (.v (.int .i64 to)))).take h.length = (h.set a (mapC clock ((IE.del D[j].2 l).map (IE.ent intC)))).set b ((intsA (D.map Prod.fst)).set j (.v (.int .i64 to))) := List.take_of_length_le (by simp)
          simp [hh1, h1, h2, e1, e4, e5, e6, g1, g2, hj, hj1, hset, hlt2, htk]
        · rw [List.length_set, List.length_set]
          refine ltLL_set (ltLL_set hl (ents_lt _ _ _)) (by simp)
      · have hh1 : holD D (j : Int) = (0, false) := by
          unfold holD
          rw [hst, if_neg h3]
        have hat := hr.set hj (to, 0) e2 (m2 h3)
        rw [set_same e1] at hat
        refine ⟨_, ?_, hat, by simp, fun q q1 q2 => by rw [List.getElem?_set_ne (Ne.symm q1)], fun hl => ?_⟩
        · refine contract_of k45 mixedLe (by simp [c45]) fun hh hargs => ?_
          simp [c45]
          refine xcall_self (by simp) (lmade_c hr) ?_
          simp
          refine xcall_self (by simp) (lhas_c hr _) ?_
          simp [hs, h1, h2, hj, intsA_g]
          refine xcall_self (by simp) (hg _) ?_
          simp [hm]
          refine xcall_self (by simp) (lhold_c hr _) ?_
          have hlt2 := ltLL_set (i := b) hh (hlt3 h.length)
          simp [hh1, h1, h2, hj, hj1, hset, hlt2]
        · rw [List.length_set]
          refine ltLL_set hl (by simp)
/-! ### The calls -/
def mayS (st : Int) : Bool := st == 0
def mayU (st : Int) : Bool := st != 0 && st != 2
def startD (D : Ser) (s : Int) : Int × Ser := turnD D s 1 mayS
def upD (D : Ser) (s : Int) : Int × Ser := turnD D s 2 mayU
theorem lmayS_c (st : Int) : Contract Try.prog 46 [.v (.int .i64 st)] h (.v (.bool (mayS st))) h [] := by
  refine contract_of k46 mixedLe (by simp [c46]) fun hh hargs => ?_
  simp [c46, hh, mayS]
theorem lmayU_c (st : Int) : Contract Try.prog 47 [.v (.int .i64 st)] h (.v (.bool (mayU st))) h [] := by
  refine contract_of k47 mixedLe (by simp [c47]) fun hh hargs => ?_
  unfold mayU
  cases h0 : (st != 0) <;> simp [c47, hh, h0]
theorem lstart_c (hr : LeAt h i b a D) (s : Int) : LDoes 29 [.box i 0, .v (.int .i64 s)] h i b a (.v (.int .i64 (startD D s).1)) (startD D s).2 := by
  obtain ⟨h', hc, hat, hl, hq, hlt⟩ := lturn_c hr s 1 (by decide) _ mayS lmayS_c
  refine ⟨h', contract_of k29 mixedLe (by simp [c29]) fun hh hargs => ?_, hat, hl, hq, hlt⟩
  have hlt2 := hlt hh
  rw [hl] at hlt2
  have htk : h'.take h.length = h' := List.take_of_length_le (by omega)
  simp [c29]
  refine xcall_self (by simp) hc ?_
  simp [startD, hlt2, htk, hl]
theorem lup_c (hr : LeAt h i b a D) (s : Int) : LDoes 30 [.box i 0, .v (.int .i64 s)] h i b a (.v (.int .i64 (upD D s).1)) (upD D s).2 := by
  obtain ⟨h', hc, hat, hl, hq, hlt⟩ := lturn_c hr s 2 (by decide) _ mayU lmayU_c
  refine ⟨h', contract_of k30 mixedLe (by simp [c30]) fun hh hargs => ?_, hat, hl, hq, hlt⟩
  have hlt2 := hlt hh
  rw [hl] at hlt2
  have htk : h'.take h.length = h' := List.take_of_length_le (by omega)
  simp [c30]
  refine xcall_self (by simp) hc ?_
  simp [upD, hlt2, htk, hl]
/-! ### A client gets one -/
def placeI (p n : Int) : Int := Int.tmod (IntKind.i64.wrap (Int.tmod p n + n)) n
def leaseD (D : Ser) (c p : Int) : (Int × Int) × Ser :=
  if (ofD D c).2 = true then ((0, 8), D) else if idleD D = [] then ((0, 7), D)
  else (((idleD D).getD (placeI p (idleD D).length).toNat 0, 0), D.set ((idleD D).getD (placeI p (idleD D).length).toNat 0).toNat (3, c))
theorem placeI_lt {p : Int} {n : Nat} (hn : 0 < n) (h8 : n ≤ 8) : 0 ≤ placeI p n ∧ placeI p n < n := by
  unfold placeI
  have h1 : (-(n : Int)) < Int.tmod p n ∧ Int.tmod p n < n := by
    have := Int.tmod_lt_of_pos p (show (0 : Int) < n by omega)
    have := Int.lt_tmod_of_pos p (show (0 : Int) < n by omega)
    omega
  have hw : IntKind.i64.wrap (Int.tmod p n + n) = Int.tmod p n + n := wrap64 (by omega) (by omega)
  rw [hw]
  exact ⟨Int.tmod_nonneg _ (by omega), Int.tmod_lt_of_pos _ (by omega)⟩
theorem lplace_c (p : Int) (n : Nat) (hn : 0 < n) : Contract Try.prog 49 [.v (.int .i64 p), .v (.int .i64 n)] h (.v (.int .i64 (placeI p n))) h [] := by
  have h0 : ¬ (n : Int) = 0 := by omega
  have hn0 : ¬ n = 0 := by omega
  refine contract_of k49 mixedLe (by simp [c49]) fun hh hargs => ?_
  simp [c49, h0, hn0, hh, placeI]
/-- A server that was idle is a client's. -/
theorem lease_map {clock : Nat} {l : List (IE Int)} (e2 : IE.Ok clock l) (e3 : ∀ c s, IE.get c l = some s ↔ ∃ j : Nat, s = (j : Int) ∧ D[j]? = some (3, c)) {j : Nat} {c0 : Int} (hj : D[j]? = some (2, c0)) {c : Int} (hno : IE.get c l = none) :
    ∀ c' s, IE.get c' (IE.put c clock (j : Int) l) = some s ↔ ∃ q : Nat, s = (q : Int) ∧ (D.set j (3, c))[q]? = some (3, c') := by
  have hjl : j < D.length := (List.getElem?_eq_some_iff.1 hj).1
  intro c' s
  rw [IE.get_put e2]
  by_cases e : c' = c
  · rw [if_pos e]
    subst e
    constructor
    · intro h
      injection h with h
      exact ⟨j, h.symm, by rw [List.getElem?_set_self hjl]⟩
    · rintro ⟨q, h1, h2⟩
      rw [List.getElem?_set] at h2
      by_cases e2 : j = q
      · subst e2; rw [h1]
      · rw [if_neg e2] at h2
        have := (e3 c' q).2 ⟨q, rfl, h2⟩
        rw [hno] at this; cases this
  · rw [if_neg e, e3]
    constructor
    · rintro ⟨q, h1, h2⟩
      refine ⟨q, h1, ?_⟩
      rw [List.getElem?_set, if_neg (fun e2 => by subst e2; rw [hj] at h2; injection h2 with h2; injection h2 with h2; omega)]
      exact h2
    · rintro ⟨q, h1, h2⟩
      refine ⟨q, h1, ?_⟩
      rw [List.getElem?_set] at h2
      by_cases e2 : j = q
      · subst e2
        rw [if_pos rfl, if_pos hjl] at h2
        injection h2 with h2; injection h2 with _ h2
        exact absurd h2.symm e
      · rw [if_neg e2] at h2; exact h2
set_option maxHeartbeats 1000000 in
theorem llease_c (hr : LeAt h i b a D) (c p : Int) : LDoes 32 [.box i 0, .v (.int .i64 c), .v (.int .i64 p)] h i b a (.tup [.v (.int .i64 (leaseD D c p).1.1), .v (.int .i64 (leaseD D c p).1.2)]) (leaseD D c p).2 := by
  have h1 := hr.top
  have h2 := hr.st
  have hi := hr.i_lt
  have hb := hr.b_lt
  have hla := hr.a_lt
  obtain ⟨n1, n2, n3⟩ := hr.ne
  obtain ⟨clock, l, e1, e2, e3⟩ := hr.ex
  have e4 : mapOf 1 (mapC clock (l.map (IE.ent intC))) = some (clock, l.map (IE.ent intC)) := IE.ents_of leC_len _ _
  have e5 : keysOk (some .i64) (l.map (IE.ent intC)) := IE.ents_keys leC_plain _
  have e6 : found true true [.v (.int .i64 0)] (AEnt.find (.int .i64 c) (l.map (IE.ent intC)) 0) = .tup [.v (.int .i64 ((IE.get c l).getD 0)), .v (.bool (IE.get c l).isSome)] := by
    rw [IE.found_eq]
    cases IE.get c l <;> rfl
  have e7 : (IE.get c l).isSome = (ofD D c).2 := by
    unfold ofD
    cases ho : ofAt c D 0 with
    | some j =>
      obtain ⟨q, hq, hD⟩ := ofAt_some ho
      have : IE.get c l = some (j : Int) := (e3 c j).2 ⟨j, rfl, by rw [hq, Nat.zero_add]; exact hD⟩
      rw [this]; rfl
    | none =>
      cases hg : IE.get c l with
      | none => rfl
      | some s =>
        obtain ⟨j, _, hD⟩ := (e3 c s).1 hg
        exact absurd hD (ofAt_none ho j)
  have hil := idleAt_len D 0
  have hlen := hr.len
  unfold leaseD
  cases ho : (ofD D c).2 with
  | true =>
    simp only [if_true]
    rw [ho] at e7
    refine LDoes.same hr (contract_of k32 mixedLe (by simp [c32]) fun hh hargs => ?_)
    simp [c32]
    refine xcall_self (by simp) (lmade_c hr) ?_
    simp [h1, e1, e4, e5, e6, e7, hh]
  | false =>
    rw [ho] at e7
    simp only [Bool.false_eq_true, if_false]
    by_cases hid : idleD D = []
    · simp only [hid, if_true]
      have ki := lidle_c hr
      rw [hid] at ki
      refine LDoes.same hr (contract_of k32 mixedLe (by simp [c32]) fun hh hargs => ?_)
      simp [c32]
      refine xcall_self (by simp) (lmade_c hr) ?_
      simp [h1, e1, e4, e5, e6, e7]
      refine xcall_self (by simp) ki ?_
      simp [hh]
    · simp only [hid, if_false]
      have hn : 0 < (idleD D).length := List.length_pos_iff.2 hid
      have h8 : (idleD D).length ≤ 8 := by unfold idleD; omega
      obtain ⟨p0, p1⟩ := placeI_lt (p := p) hn h8
      obtain ⟨k, hk⟩ : ∃ k : Nat, placeI p (idleD D).length = (k : Int) := ⟨(placeI p (idleD D).length).toNat, by omega⟩
      have kp := fun h => lplace_c (h := h) p _ hn
      rw [hk] at p1 kp ⊢
      have hkl : k < (idleD D).length := by omega
      obtain ⟨j, hj1, c0, hj2⟩ := idleAt_mem D 0 _ (List.getElem_mem hkl)
      have hj1 : (idleD D)[k] = (j : Int) := by rw [hj1]; simp
      have hjl : j < D.length := (List.getElem?_eq_some_iff.1 hj2).1
      have hgD : (idleD D).getD (k : Int).toNat 0 = (j : Int) := by simp [List.getD_eq_getElem?_getD, hkl, hj1]
      rw [hgD]
      simp only [Int.toNat_natCast]
      have hno : IE.get c l = none := by cases hg : IE.get c l with
        | none => rfl
        | some s => rw [hg] at e7; cases e7
      have hput := IE.put_eq intC e2 c (j : Int)
      have hint : intC (j : Int) = [AV.v (.int .i64 (j : Int))] := rfl
      rw [hint] at hput
      have hat := hr.set hjl (3, c) (clock := IE.tick c clock l) (IE.put_ok e2 c (j : Int)) (lease_map e2 e3 hj2 hno)
      have hset : intsA ((D.map Prod.fst).set j 3) = (intsA (D.map Prod.fst)).set j (.v (.int .i64 3)) := by unfold intsA; rw [List.map_set]
      have hlt3 : ∀ n, ltL n ((intsA (D.map Prod.fst)).set j (.v (.int .i64 3))) := fun n => by rw [← hset]; simp
      have hcomm : ∀ X Y : List AV, (h.set a X).set b Y = (h.set b Y).set a X := fun X Y => List.set_comm X Y n3
      refine ⟨_, ?_, hat, by simp, fun q q1 q2 => by rw [List.getElem?_set_ne (Ne.symm q1), List.getElem?_set_ne (Ne.symm q2)], fun hl => ?_⟩
      · refine contract_of k32 mixedLe (by simp [c32]) fun hh hargs => ?_
        have hj3 : j + 1 ≤ D.length := hjl
        have hlt1 := ltLL_set (i := a) hh (ents_lt (IE.tick c clock l) (IE.put c clock (j : Int) l) h.length)
        have hlt2 := ltLL_set (i := b) hlt1 (hlt3 h.length)
        have g1 : ∀ X : List AV, (h.set b X)[i]? = h[i]? := fun X => List.getElem?_set_ne (Ne.symm n2)
        have g2 : ∀ X : List AV, (h.set b X)[a]? = h[a]? := fun X => List.getElem?_set_ne (Ne.symm n3)
        have hn0 : ((idleD D).length == 0) = false := by simpa using hid
        simp [c32]
        refine xcall_self (by simp) (lmade_c hr) ?_
        simp [h1, e1, e4, e5, e6, e7]
        refine xcall_self (by simp) (lidle_c hr) ?_
        simp [hid]
        refine xcall_self (by simp) (kp _) ?_
        simp [hkl, intC, hj1, h1, h2, hj3, hjl, g1, g2, e1, e4, e5, hput]
        rw [hset, ← hcomm, List.take_of_length_le (by simp)]
        exact ⟨leqH_refl _ _, hlt2⟩
      · rw [List.length_set, List.length_set]
        exact ltLL_set (ltLL_set hl (ents_lt _ _ _)) (by simp)
end
end Go.Proofs.Ytdfocmmajngelaa.Ax
