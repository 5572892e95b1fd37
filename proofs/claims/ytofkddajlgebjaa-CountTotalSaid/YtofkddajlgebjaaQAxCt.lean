/- How often what happened, over values without memory: count's calls. -/
import Derived.Test.YtofkddajlgebjaaQAxX
import Derived.Test.YtofkddajlgebjaaRows
import Derived.Test.YtofkddajlgebjaaQAxTz
import Derived.Test.YtofkddajlgebjaaQAxAt
import Derived.Test.YtofkddajlgebjaaQAxIb
/- The texts of functions over values without memory, as the kernel reckons them out of the program. -/
namespace Go.Proofs.Ytofkddajlgebjaa.Ax
open Go.RowKit Go By

def c6 : XFun := ⟨3, (.seq (.ops [⟨(some 0), (.assign (.const (.pointer none))), none⟩]) (.seq (.ops [⟨(some 1), (.build [(.v (.bool false)), (.v (.int .i64 0)), (.v (.int .i64 0)), (.v (.int .i64 0)), (.v (.int .i64 0)), (.v (.int .i64 0))] [(0, (1, (.const (.bool true))))]), none⟩, ⟨(some 2), (.box (.tmp 1)), none⟩, ⟨(some 0), (.assign (.tmp 2)), none⟩]) .ret)), [(.move (.tmp 0))]⟩
theorem k6 : cfun Try.prog 6 = some c6 := by kernel_rfl
def c8 : XFun := ⟨26, (.seq (.ops [⟨(some 6), (.assign (.const (.bool false))), none⟩]) (.seq (.seq (.ops [⟨(some 7), (.move (.tmp 0)), none⟩, ⟨(some 8), (.move (.tmp 1)), none⟩, ⟨(some 9), (.call 17 [(.tmp 7), (.tmp 8)]), none⟩, ⟨(some 10), (.un .not (.tmp 9)), none⟩, ⟨(some 11), (.move (.tmp 10)), none⟩, ⟨(some 12), (.move (.tmp 2)), (some (11, false))⟩, ⟨(some 13), (.bin .lss (.tmp 12) (.const (.int .i64 0))), (some (11, false))⟩, ⟨(some 14), (.pick (.tmp 11) (.const (.bool true)) (.tmp 13)), none⟩, ⟨(some 15), (.move (.tmp 14)), none⟩, ⟨(some 16), (.move (.tmp 2)), (some (15, false))⟩, ⟨(some 17), (.bin .gtr (.tmp 16) (.const (.int .i64 2147483648))), (some (15, false))⟩, ⟨(some 18), (.pick (.tmp 15) (.const (.bool true)) (.tmp 17)), none⟩]) (.cond (.tmp 18) (.seq (.ops [⟨(some 6), (.assign (.const (.bool false))), none⟩]) .ret) .skip)) (.seq (.ops [⟨(some 19), (.move (.tmp 0)), none⟩, ⟨(some 20), (.move (.tmp 1)), none⟩, ⟨(some 21), (.nilCheck (.tmp 19)), none⟩, ⟨(some 22), (.faddr 1 (.tmp 21)), none⟩, ⟨(some 23), (.iaddrA 5 1 (.tmp 22) (.tmp 20)), none⟩, ⟨(some 24), (.move (.tmp 2)), none⟩, ⟨(some 25), (.call 18 [(.tmp 23), (.tmp 24)]), none⟩]) (.seq (.ops [⟨(some 6), (.assign (.const (.bool true))), none⟩]) .ret)))), [(.move (.tmp 6))]⟩
theorem k8 : cfun Try.prog 8 = some c8 := by kernel_rfl
def c10 : XFun := ⟨15, (.seq (.ops [⟨(some 4), (.assign (.const (.int .i64 0))), none⟩]) (.seq (.seq (.ops [⟨(some 5), (.move (.tmp 0)), none⟩, ⟨(some 6), (.move (.tmp 1)), none⟩, ⟨(some 7), (.call 17 [(.tmp 5), (.tmp 6)]), none⟩, ⟨(some 8), (.un .not (.tmp 7)), none⟩]) (.cond (.tmp 8) (.seq (.ops [⟨(some 4), (.assign (.const (.int .i64 0))), none⟩]) .ret) .skip)) (.seq (.ops [⟨(some 9), (.move (.tmp 0)), none⟩, ⟨(some 10), (.move (.tmp 1)), none⟩, ⟨(some 11), (.nilCheck (.tmp 9)), none⟩, ⟨(some 12), (.faddr 1 (.tmp 11)), none⟩, ⟨(some 13), (.iaddrA 5 1 (.tmp 12) (.tmp 10)), none⟩, ⟨(some 14), (.call 19 [(.tmp 13)]), none⟩, ⟨(some 4), (.assign (.tmp 14)), none⟩]) .ret))), [(.move (.tmp 4))]⟩
theorem k10 : cfun Try.prog 10 = some c10 := by kernel_rfl
def c15 : XFun := ⟨22, (.seq (.ops [⟨(some 2), (.assign (.const (.slice none 0 0))), none⟩]) (.seq (.seq (.ops [⟨(some 5), (.move (.tmp 0)), none⟩, ⟨(some 6), (.call 20 [(.tmp 5)]), none⟩, ⟨(some 7), (.un .not (.tmp 6)), none⟩]) (.cond (.tmp 7) (.seq (.ops [⟨(some 2), (.assign (.const (.slice none 0 0))), none⟩]) .ret) .skip)) (.seq (.ops [⟨(some 8), (.makeB 1 8 [(.v (.int .i64 0))] (.const (.int .i64 5))), none⟩, ⟨(some 3), (.assign (.tmp 8)), none⟩]) (.seq (.seq (.ops [⟨(some 9), (.move (.tmp 3)), none⟩, ⟨(some 10), (.lenL (.tmp 9)), none⟩, ⟨(some 11), (.move (.const (.int .i64 0))), none⟩]) (.block 0 (.loop (.seq (.ops [⟨(some 12), (.bin .lss (.tmp 11) (.tmp 10)), none⟩]) (.seq (.cond (.tmp 12) .skip (.exit 0)) (.seq (.block 1 (.seq (.ops [⟨(some 13), (.move (.tmp 11)), none⟩, ⟨(some 4), (.assign (.tmp 13)), none⟩]) (.ops [⟨(some 14), (.move (.tmp 3)), none⟩, ⟨(some 15), (.move (.tmp 4)), none⟩, ⟨(some 16), (.move (.tmp 0)), none⟩, ⟨(some 17), (.move (.tmp 4)), none⟩, ⟨(some 18), (.call 10 [(.tmp 16), (.tmp 17)]), none⟩, ⟨(some 19), (.iaddr 1 (.tmp 14) (.tmp 15)), none⟩, ⟨none, (.store 1 (.tmp 19) (.tmp 18)), none⟩]))) (.ops [⟨(some 20), (.bin .add (.tmp 11) (.const (.int .i64 1))), none⟩, ⟨(some 11), (.move (.tmp 20)), none⟩]))))))) (.seq (.ops [⟨(some 21), (.move (.tmp 3)), none⟩, ⟨(some 2), (.assign (.tmp 21)), none⟩]) .ret))))), [(.move (.tmp 2))]⟩
theorem k15 : cfun Try.prog 15 = some c15 := by kernel_rfl
def c12 : XFun := ⟨18, (.seq (.ops [⟨(some 2), (.assign (.const (.int .i64 0))), none⟩]) (.seq (.ops [⟨(some 3), (.assign (.const (.int .i64 0))), none⟩]) (.seq (.seq (.ops [⟨(some 6), (.move (.tmp 0)), none⟩, ⟨(some 7), (.call 15 [(.tmp 6)]), none⟩, ⟨(some 8), (.lenL (.tmp 7)), none⟩, ⟨(some 9), (.move (.const (.int .i64 0))), none⟩]) (.block 0 (.loop (.seq (.ops [⟨(some 10), (.bin .lss (.tmp 9) (.tmp 8)), none⟩]) (.seq (.cond (.tmp 10) .skip (.exit 0)) (.seq (.block 1 (.seq (.ops [⟨(some 11), (.iaddr 1 (.tmp 7) (.tmp 9)), none⟩, ⟨(some 12), (.load1 (.tmp 11)), none⟩, ⟨(some 5), (.assign (.tmp 12)), none⟩]) (.ops [⟨(some 13), (.move (.tmp 3)), none⟩, ⟨(some 14), (.move (.tmp 5)), none⟩, ⟨(some 15), (.bin .add (.tmp 13) (.tmp 14)), none⟩, ⟨(some 3), (.assign (.tmp 15)), none⟩]))) (.ops [⟨(some 16), (.bin .add (.tmp 9) (.const (.int .i64 1))), none⟩, ⟨(some 9), (.move (.tmp 16)), none⟩]))))))) (.seq (.ops [⟨(some 17), (.move (.tmp 3)), none⟩, ⟨(some 2), (.assign (.tmp 17)), none⟩]) .ret)))), [(.move (.tmp 2))]⟩
theorem k12 : cfun Try.prog 12 = some c12 := by kernel_rfl
def c17 : XFun := ⟨15, (.seq (.ops [⟨(some 4), (.assign (.const (.bool false))), none⟩]) (.seq (.ops [⟨(some 5), (.move (.tmp 0)), none⟩, ⟨(some 6), (.call 20 [(.tmp 5)]), none⟩, ⟨(some 7), (.move (.tmp 6)), none⟩, ⟨(some 8), (.move (.tmp 1)), (some (7, true))⟩, ⟨(some 9), (.bin .leq (.const (.int .i64 0)) (.tmp 8)), (some (7, true))⟩, ⟨(some 10), (.pick (.tmp 7) (.tmp 9) (.const (.bool false))), none⟩, ⟨(some 11), (.move (.tmp 10)), none⟩, ⟨(some 12), (.move (.tmp 1)), (some (11, true))⟩, ⟨(some 13), (.bin .lss (.tmp 12) (.const (.int .i64 5))), (some (11, true))⟩, ⟨(some 14), (.pick (.tmp 11) (.tmp 13) (.const (.bool false))), none⟩, ⟨(some 4), (.assign (.tmp 14)), none⟩]) .ret)), [(.move (.tmp 4))]⟩
theorem k17 : cfun Try.prog 17 = some c17 := by kernel_rfl
def c20 : XFun := ⟨11, (.seq (.ops [⟨(some 2), (.assign (.const (.bool false))), none⟩]) (.seq (.ops [⟨(some 3), (.move (.tmp 0)), none⟩, ⟨(some 4), (.pnileq true (.tmp 3)), none⟩, ⟨(some 5), (.move (.tmp 4)), none⟩, ⟨(some 6), (.move (.tmp 0)), (some (5, true))⟩, ⟨(some 7), (.nilCheck (.tmp 6)), (some (5, true))⟩, ⟨(some 8), (.faddr 0 (.tmp 7)), (some (5, true))⟩, ⟨(some 9), (.load1 (.tmp 8)), (some (5, true))⟩, ⟨(some 10), (.pick (.tmp 5) (.tmp 9) (.const (.bool false))), none⟩, ⟨(some 2), (.assign (.tmp 10)), none⟩]) .ret)), [(.move (.tmp 2))]⟩
theorem k20 : cfun Try.prog 20 = some c20 := by kernel_rfl
def c16 : XFun := ⟨30, (.seq (.ops [⟨(some 0), (.assign (.const (.bool false))), none⟩]) (.seq (.ops [⟨(some 2), (.call 6 []), none⟩, ⟨(some 1), (.assign (.tmp 2)), none⟩]) (.seq (.ops [⟨(some 3), (.move (.tmp 1)), none⟩, ⟨(some 4), (.pnileq true (.tmp 3)), none⟩, ⟨(some 5), (.move (.tmp 4)), none⟩, ⟨(some 6), (.move (.tmp 1)), (some (5, true))⟩, ⟨(some 7), (.call 8 [(.tmp 6), (.const (.int .i64 1)), (.const (.int .i64 2))]), (some (5, true))⟩, ⟨(some 8), (.pick (.tmp 5) (.tmp 7) (.const (.bool false))), none⟩, ⟨(some 9), (.move (.tmp 8)), none⟩, ⟨(some 10), (.move (.tmp 1)), (some (9, true))⟩, ⟨(some 11), (.call 8 [(.tmp 10), (.const (.int .i64 5)), (.const (.int .i64 1))]), (some (9, true))⟩, ⟨(some 12), (.un .not (.tmp 11)), (some (9, true))⟩, ⟨(some 13), (.pick (.tmp 9) (.tmp 12) (.const (.bool false))), none⟩, ⟨(some 14), (.move (.tmp 13)), none⟩, ⟨(some 15), (.move (.tmp 1)), (some (14, true))⟩, ⟨(some 16), (.call 10 [(.tmp 15), (.const (.int .i64 1))]), (some (14, true))⟩, ⟨(some 17), (.bin .eql (.tmp 16) (.const (.int .i64 2))), (some (14, true))⟩, ⟨(some 18), (.pick (.tmp 14) (.tmp 17) (.const (.bool false))), none⟩, ⟨(some 19), (.move (.tmp 18)), none⟩, ⟨(some 20), (.move (.tmp 1)), (some (19, true))⟩, ⟨(some 21), (.call 12 [(.tmp 20)]), (some (19, true))⟩, ⟨(some 22), (.bin .eql (.tmp 21) (.const (.int .i64 2))), (some (19, true))⟩, ⟨(some 23), (.pick (.tmp 19) (.tmp 22) (.const (.bool false))), none⟩, ⟨(some 24), (.move (.tmp 23)), none⟩, ⟨(some 25), (.move (.tmp 1)), (some (24, true))⟩, ⟨(some 26), (.call 15 [(.tmp 25)]), (some (24, true))⟩, ⟨(some 27), (.lenL (.tmp 26)), (some (24, true))⟩, ⟨(some 28), (.bin .eql (.tmp 27) (.const (.int .i64 5))), (some (24, true))⟩, ⟨(some 29), (.pick (.tmp 24) (.tmp 28) (.const (.bool false))), none⟩, ⟨(some 0), (.assign (.tmp 29)), none⟩]) .ret))), [(.move (.tmp 0))]⟩
theorem k16 : cfun Try.prog 16 = some c16 := by kernel_rfl
def c3 : XFun := ⟨60, (.seq (.ops [⟨(some 2), (.assign (.const (.bool false))), none⟩]) (.seq (.ops [⟨(some 7), (.call 6 []), none⟩, ⟨(some 8), (.call 7 []), none⟩, ⟨(some 3), (.assign (.tmp 7)), none⟩, ⟨(some 4), (.assign (.tmp 8)), none⟩]) (.seq (.seq (.ops [⟨(some 9), (.move (.tmp 0)), none⟩, ⟨(some 10), (.lenL (.tmp 9)), none⟩, ⟨(some 11), (.move (.const (.int .i64 0))), none⟩]) (.block 0 (.loop (.seq (.ops [⟨(some 12), (.bin .lss (.tmp 11) (.tmp 10)), none⟩]) (.seq (.cond (.tmp 12) .skip (.exit 0)) (.seq (.block 1 (.seq (.ops [⟨(some 13), (.move (.tmp 11)), none⟩, ⟨(some 14), (.iaddr 2 (.tmp 9) (.tmp 11)), none⟩, ⟨(some 15), (.loadN 2 (.tmp 14)), none⟩, ⟨(some 6), (.alloc [(.v (.int .i64 0)), (.v (.int .i64 0))]), none⟩, ⟨(some 5), (.assign (.tmp 13)), none⟩, ⟨none, (.store 2 (.tmp 6) (.tmp 15)), none⟩]) (.seq (.seq (.ops [⟨(some 16), (.move (.tmp 5)), none⟩, ⟨(some 17), (.bin .geq (.tmp 16) (.const (.int .i64 100))), none⟩]) (.cond (.tmp 17) (.exit 0) .skip)) (.seq (.draws (.take ⟨(some 18), (.move (.tmp 3)), none⟩ (.take ⟨(some 19), (.faddr 0 (.tmp 6)), none⟩ (.take ⟨(some 20), (.load1 (.tmp 19)), none⟩ (.take ⟨(some 21), (.faddr 1 (.tmp 6)), none⟩ (.take ⟨(some 22), (.load1 (.tmp 21)), none⟩ (.take ⟨(some 24), (.move (.tmp 4)), none⟩ (.take ⟨(some 25), (.faddr 0 (.tmp 6)), none⟩ (.take ⟨(some 26), (.load1 (.tmp 25)), none⟩ (.take ⟨(some 27), (.faddr 1 (.tmp 6)), none⟩ (.take ⟨(some 28), (.load1 (.tmp 27)), none⟩ (.only ⟨(some 23), (.call 8 [(.tmp 18), (.tmp 20), (.tmp 22)]), none⟩ (.only ⟨(some 29), (.call 9 [(.tmp 24), (.tmp 26), (.tmp 28)]), none⟩ (.take ⟨(some 30), (.beq true (.tmp 23) (.tmp 29)), none⟩ (.take ⟨(some 31), (.move (.tmp 30)), none⟩ (.take ⟨(some 32), (.move (.tmp 3)), (some (31, false))⟩ (.take ⟨(some 33), (.faddr 0 (.tmp 6)), (some (31, false))⟩ (.take ⟨(some 34), (.load1 (.tmp 33)), (some (31, false))⟩ (.take ⟨(some 36), (.move (.tmp 4)), (some (31, false))⟩ (.take ⟨(some 37), (.faddr 0 (.tmp 6)), (some (31, false))⟩ (.take ⟨(some 38), (.load1 (.tmp 37)), (some (31, false))⟩ (.only ⟨(some 35), (.call 10 [(.tmp 32), (.tmp 34)]), (some (31, false))⟩ (.only ⟨(some 39), (.call 11 [(.tmp 36), (.tmp 38)]), (some (31, false))⟩ (.take ⟨(some 40), (.bin .neq (.tmp 35) (.tmp 39)), (some (31, false))⟩ (.take ⟨(some 41), (.pick (.tmp 31) (.const (.bool true)) (.tmp 40)), none⟩ (.take ⟨(some 42), (.move (.tmp 41)), none⟩ (.take ⟨(some 43), (.move (.tmp 3)), (some (42, false))⟩ (.take ⟨(some 45), (.move (.tmp 4)), (some (42, false))⟩ (.only ⟨(some 44), (.call 12 [(.tmp 43)]), (some (42, false))⟩ (.only ⟨(some 46), (.call 13 [(.tmp 45)]), (some (42, false))⟩ (.take ⟨(some 47), (.bin .neq (.tmp 44) (.tmp 46)), (some (42, false))⟩ (.take ⟨(some 48), (.pick (.tmp 42) (.const (.bool true)) (.tmp 47)), none⟩ .done)))))))))))))))))))))))))))))))) (.cond (.tmp 48) (.seq (.ops [⟨(some 2), (.assign (.const (.bool false))), none⟩]) .ret) .skip))))) (.ops [⟨(some 49), (.bin .add (.tmp 11) (.const (.int .i64 1))), none⟩, ⟨(some 11), (.move (.tmp 49)), none⟩]))))))) (.seq (.draws (.take ⟨(some 50), (.move (.tmp 3)), none⟩ (.take ⟨(some 52), (.move (.tmp 4)), none⟩ (.take ⟨(some 53), (.nilCheck (.tmp 52)), none⟩ (.take ⟨(some 54), (.faddr 0 (.tmp 53)), none⟩ (.take ⟨(some 55), (.load1 (.tmp 54)), none⟩ (.only ⟨(some 51), (.call 15 [(.tmp 50)]), none⟩ (.only ⟨(some 56), (.call 14 [(.tmp 51), (.tmp 55)]), none⟩ (.take ⟨(some 57), (.move (.tmp 56)), none⟩ (.only ⟨(some 58), (.call 16 []), (some (57, true))⟩ (.take ⟨(some 59), (.pick (.tmp 57) (.tmp 58) (.const (.bool false))), none⟩ (.take ⟨(some 2), (.assign (.tmp 59)), none⟩ .done)))))))))))) .ret)))), [(.move (.tmp 2))]⟩
theorem k3 : cfun Try.prog 3 = some c3 := by kernel_rfl
def c4 : XFun := ⟨54, (.seq (.ops [⟨(some 2), (.assign (.const (.bool false))), none⟩]) (.seq (.ops [⟨(some 10), (.call 6 []), none⟩, ⟨(some 3), (.assign (.tmp 10)), none⟩]) (.seq (.ops [⟨(some 4), (.assign (.const (.int .i64 0))), none⟩]) (.seq (.seq (.ops [⟨(some 11), (.move (.tmp 0)), none⟩, ⟨(some 12), (.lenL (.tmp 11)), none⟩, ⟨(some 13), (.move (.const (.int .i64 0))), none⟩]) (.block 0 (.loop (.seq (.ops [⟨(some 14), (.bin .lss (.tmp 13) (.tmp 12)), none⟩]) (.seq (.cond (.tmp 14) .skip (.exit 0)) (.seq (.block 1 (.seq (.ops [⟨(some 15), (.move (.tmp 13)), none⟩, ⟨(some 16), (.iaddr 2 (.tmp 11) (.tmp 13)), none⟩, ⟨(some 17), (.loadN 2 (.tmp 16)), none⟩, ⟨(some 6), (.alloc [(.v (.int .i64 0)), (.v (.int .i64 0))]), none⟩, ⟨(some 5), (.assign (.tmp 15)), none⟩, ⟨none, (.store 2 (.tmp 6) (.tmp 17)), none⟩]) (.seq (.seq (.ops [⟨(some 18), (.move (.tmp 5)), none⟩, ⟨(some 19), (.bin .geq (.tmp 18) (.const (.int .i64 100))), none⟩]) (.cond (.tmp 19) (.exit 0) .skip)) (.seq (.ops [⟨(some 20), (.move (.tmp 3)), none⟩, ⟨(some 21), (.faddr 0 (.tmp 6)), none⟩, ⟨(some 22), (.load1 (.tmp 21)), none⟩, ⟨(some 23), (.faddr 1 (.tmp 6)), none⟩, ⟨(some 24), (.load1 (.tmp 23)), none⟩, ⟨(some 25), (.call 8 [(.tmp 20), (.tmp 22), (.tmp 24)]), none⟩]) (.cond (.tmp 25) (.ops [⟨(some 26), (.move (.tmp 4)), none⟩, ⟨(some 27), (.faddr 1 (.tmp 6)), none⟩, ⟨(some 28), (.load1 (.tmp 27)), none⟩, ⟨(some 29), (.bin .add (.tmp 26) (.tmp 28)), none⟩, ⟨(some 4), (.assign (.tmp 29)), none⟩]) .skip))))) (.ops [⟨(some 30), (.bin .add (.tmp 13) (.const (.int .i64 1))), none⟩, ⟨(some 13), (.move (.tmp 30)), none⟩]))))))) (.seq (.ops [⟨(some 7), (.assign (.const (.int .i64 0))), none⟩]) (.seq (.seq (.ops [⟨(some 31), (.move (.tmp 3)), none⟩, ⟨(some 32), (.call 15 [(.tmp 31)]), none⟩, ⟨(some 33), (.lenL (.tmp 32)), none⟩, ⟨(some 34), (.move (.const (.int .i64 0))), none⟩]) (.block 2 (.loop (.seq (.ops [⟨(some 35), (.bin .lss (.tmp 34) (.tmp 33)), none⟩]) (.seq (.cond (.tmp 35) .skip (.exit 2)) (.seq (.block 3 (.seq (.ops [⟨(some 36), (.iaddr 1 (.tmp 32) (.tmp 34)), none⟩, ⟨(some 37), (.load1 (.tmp 36)), none⟩, ⟨(some 9), (.assign (.tmp 37)), none⟩]) (.ops [⟨(some 38), (.move (.tmp 7)), none⟩, ⟨(some 39), (.move (.tmp 9)), none⟩, ⟨(some 40), (.bin .add (.tmp 38) (.tmp 39)), none⟩, ⟨(some 7), (.assign (.tmp 40)), none⟩]))) (.ops [⟨(some 41), (.bin .add (.tmp 34) (.const (.int .i64 1))), none⟩, ⟨(some 34), (.move (.tmp 41)), none⟩]))))))) (.seq (.ops [⟨(some 42), (.move (.tmp 3)), none⟩, ⟨(some 43), (.call 12 [(.tmp 42)]), none⟩, ⟨(some 44), (.move (.tmp 4)), none⟩, ⟨(some 45), (.bin .eql (.tmp 43) (.tmp 44)), none⟩, ⟨(some 46), (.move (.tmp 45)), none⟩, ⟨(some 47), (.move (.tmp 7)), (some (46, true))⟩, ⟨(some 48), (.move (.tmp 4)), (some (46, true))⟩, ⟨(some 49), (.bin .eql (.tmp 47) (.tmp 48)), (some (46, true))⟩, ⟨(some 50), (.pick (.tmp 46) (.tmp 49) (.const (.bool false))), none⟩, ⟨(some 51), (.move (.tmp 50)), none⟩, ⟨(some 52), (.call 16 []), (some (51, true))⟩, ⟨(some 53), (.pick (.tmp 51) (.tmp 52) (.const (.bool false))), none⟩, ⟨(some 2), (.assign (.tmp 53)), none⟩]) .ret))))))), [(.move (.tmp 2))]⟩
theorem k4 : cfun Try.prog 4 = some c4 := by kernel_rfl
def c5 : XFun := ⟨46, (.seq (.ops [⟨(some 1), (.box (.tmp 0)), none⟩, ⟨(some 2), (.assign (.const (.bool false))), none⟩]) (.seq (.ops [⟨(some 3), (.assign (.const (.pointer none))), none⟩]) (.seq (.ops [⟨(some 4), (.alloc [(.v (.bool false)), (.v (.int .i64 0)), (.v (.int .i64 0)), (.v (.int .i64 0)), (.v (.int .i64 0)), (.v (.int .i64 0))]), none⟩]) (.seq (.ops [⟨(some 5), (.move (.tmp 3)), none⟩, ⟨(some 6), (.faddr 0 (.tmp 1)), none⟩, ⟨(some 7), (.load1 (.tmp 6)), none⟩, ⟨(some 8), (.faddr 1 (.tmp 1)), none⟩, ⟨(some 9), (.load1 (.tmp 8)), none⟩, ⟨(some 10), (.call 8 [(.tmp 5), (.tmp 7), (.tmp 9)]), none⟩, ⟨(some 11), (.un .not (.tmp 10)), none⟩, ⟨(some 12), (.move (.tmp 11)), none⟩, ⟨(some 13), (.faddr 0 (.tmp 1)), (some (12, true))⟩, ⟨(some 14), (.load1 (.tmp 13)), (some (12, true))⟩, ⟨(some 15), (.faddr 1 (.tmp 1)), (some (12, true))⟩, ⟨(some 16), (.load1 (.tmp 15)), (some (12, true))⟩, ⟨(some 17), (.call 8 [(.tmp 4), (.tmp 14), (.tmp 16)]), (some (12, true))⟩, ⟨(some 18), (.un .not (.tmp 17)), (some (12, true))⟩, ⟨(some 19), (.pick (.tmp 12) (.tmp 18) (.const (.bool false))), none⟩, ⟨(some 20), (.move (.tmp 19)), none⟩, ⟨(some 21), (.move (.tmp 3)), (some (20, true))⟩, ⟨(some 22), (.faddr 0 (.tmp 1)), (some (20, true))⟩, ⟨(some 23), (.load1 (.tmp 22)), (some (20, true))⟩, ⟨(some 24), (.call 10 [(.tmp 21), (.tmp 23)]), (some (20, true))⟩, ⟨(some 25), (.bin .eql (.tmp 24) (.const (.int .i64 0))), (some (20, true))⟩, ⟨(some 26), (.pick (.tmp 20) (.tmp 25) (.const (.bool false))), none⟩, ⟨(some 27), (.move (.tmp 26)), none⟩, ⟨(some 28), (.faddr 0 (.tmp 1)), (some (27, true))⟩, ⟨(some 29), (.load1 (.tmp 28)), (some (27, true))⟩, ⟨(some 30), (.call 10 [(.tmp 4), (.tmp 29)]), (some (27, true))⟩, ⟨(some 31), (.bin .eql (.tmp 30) (.const (.int .i64 0))), (some (27, true))⟩, ⟨(some 32), (.pick (.tmp 27) (.tmp 31) (.const (.bool false))), none⟩, ⟨(some 33), (.move (.tmp 32)), none⟩, ⟨(some 34), (.move (.tmp 3)), (some (33, true))⟩, ⟨(some 35), (.call 15 [(.tmp 34)]), (some (33, true))⟩, ⟨(some 36), (.lenL (.tmp 35)), (some (33, true))⟩, ⟨(some 37), (.bin .eql (.tmp 36) (.const (.int .i64 0))), (some (33, true))⟩, ⟨(some 38), (.pick (.tmp 33) (.tmp 37) (.const (.bool false))), none⟩, ⟨(some 39), (.move (.tmp 38)), none⟩, ⟨(some 40), (.call 12 [(.tmp 4)]), (some (39, true))⟩, ⟨(some 41), (.bin .eql (.tmp 40) (.const (.int .i64 0))), (some (39, true))⟩, ⟨(some 42), (.pick (.tmp 39) (.tmp 41) (.const (.bool false))), none⟩, ⟨(some 43), (.move (.tmp 42)), none⟩, ⟨(some 44), (.call 16 []), (some (43, true))⟩, ⟨(some 45), (.pick (.tmp 43) (.tmp 44) (.const (.bool false))), none⟩, ⟨(some 2), (.assign (.tmp 45)), none⟩]) .ret)))), [(.move (.tmp 2))]⟩
theorem k5 : cfun Try.prog 5 = some c5 := by kernel_rfl
end Go.Proofs.Ytofkddajlgebjaa.Ax
namespace Go.Proofs.Ytofkddajlgebjaa.Ax
open Go.RowKit Go By
set_option linter.unusedSimpArgs false
set_option linter.unusedVariables false
set_option maxRecDepth 10000

theorem mixedCt : Try.prog.follows .mixedOrders = true := by kernel_rfl
def ctC (L : List Int) : List AV := .v (.bool true) :: intsA L
@[simp] theorem ctC_lt (n : Nat) (L : List Int) : ltL n (ctC L) = True := by simp [ctC]
theorem ctC_top (L : List Int) : (ctC L)[0]? = some (.v (.bool true)) := rfl
theorem ctC_get {L : List Int} {m : Nat} (hm : m < L.length) : (ctC L)[m + 1]? = some (.v (.int .i64 L[m])) := intsA_get hm
theorem ctC_set (L : List Int) (m : Nat) (x : Int) : (ctC L).set (m + 1) (.v (.int .i64 x)) = ctC (L.set m x) := by simp [ctC, intsA, List.map_set]
def okK (k : Int) : Bool := decide (0 ≤ k) && decide (k < 5)
def okA (k n : Int) : Bool := okK k && decide (0 ≤ n) && decide (n ≤ 2147483648)
/-- How many of a kind; what is there behind an Add; all together. -/
def getR (L : List Int) (k : Int) : Int := if okK k then L.getD k.toNat 0 else 0
def addR (L : List Int) (k n : Int) : List Int := if okA k n then L.set k.toNat (IntKind.i64.wrap (L.getD k.toNat 0 + n)) else L
def sumW (L : List Int) : Int := L.foldl (fun s n => IntKind.i64.wrap (s + n)) 0
theorem sumW_step {L : List Int} {j : Nat} (hj : j < L.length) : sumW (L.take (j + 1)) = IntKind.i64.wrap (sumW (L.take j) + L[j]) := by
  unfold sumW
  rw [List.take_add_one, List.getElem?_eq_getElem hj, List.foldl_append]; rfl
theorem addR_len (L : List Int) (k n : Int) : (addR L k n).length = L.length := by unfold addR; split <;> simp
theorem okK_nat {k : Int} (h : okK k = true) : ∃ m : Nat, k = (m : Int) ∧ m < 5 := by
  unfold okK at h
  simp at h
  exact ⟨k.toNat, by omega, by omega⟩
/-- The list, as far as it is made. -/
def ctB (L : List Int) (j : Nat) : List Int := L.take j ++ List.replicate (5 - j) 0
theorem ctB_set {L : List Int} (hL : L.length = 5) {j : Nat} (hj : j < 5) : (intsA (ctB L j)).set j (.v (.int .i64 L[j])) = intsA (ctB L (j + 1)) := by
  match L, hL, j, hj with
  | [a, b, c, d, e], _, 0, _ => rfl
  | [a, b, c, d, e], _, 1, _ => rfl
  | [a, b, c, d, e], _, 2, _ => rfl
  | [a, b, c, d, e], _, 3, _ => rfl
  | [a, b, c, d, e], _, 4, _ => rfl
theorem ctB_len {L : List Int} (hL : L.length = 5) {j : Nat} (hj : j ≤ 5) : (ctB L j).length = 5 := by unfold ctB; simp; omega
theorem chunk_ints : ∀ l : List Int, chunk 1 l.length (intsA l) = enc intC l
  | [] => rfl
  | x :: r => by
    show (intsA (x :: r)).take 1 :: chunk 1 r.length ((intsA (x :: r)).drop 1) = _
    have : (intsA (x :: r)).drop 1 = intsA r := rfl
    rw [this, chunk_ints r]; rfl
theorem frz_ints (i : Nat) {X : List Int} {k : Nat} (hk : X.length = k) : AV.frz i (intsA X) (.bsl i 0 1 k) = .sl 1 (enc intC X) (some false) .no := by
  subst hk
  show (if _ then _ else _) = _
  rw [if_pos ⟨rfl, by simp⟩]
  simp [chunk_ints, List.take_of_length_le]
theorem frz_intsOk {X : List Int} (h : X ≠ []) : frzOk (intsA X) := by
  cases X with
  | nil => exact absurd rfl h
  | cons x r => exact trivial
structure CtAt (h : List (List AV)) (i : Nat) (L : List Int) : Prop where
  top : h[i]? = some (ctC L)
  len : L.length = 5
section
variable {h : List (List AV)} {i : Nat} {L : List Int}
theorem CtAt.i_lt (hr : CtAt h i L) : i < h.length := (List.getElem?_eq_some_iff.1 hr.top).1
theorem CtAt.move {h2 : List (List AV)} (hr : CtAt h i L) (h1 : h2[i]? = h[i]?) : CtAt h2 i L := ⟨h1.trans hr.top, hr.len⟩
theorem CtAt.app (hr : CtAt h i L) (xs : List (List AV)) : CtAt (h ++ xs) i L := hr.move (List.getElem?_append_left hr.i_lt)
theorem ctmade_c (hr : CtAt h i L) : Contract Try.prog 20 [.box i 0] h (.v (.bool true)) h [] := by
  have h1 := hr.top
  refine contract_of k20 mixedCt (by simp [c20]) fun hh hargs => ?_
  simp [c20, h1, ctC_top, hh]
theorem cthas_c (hr : CtAt h i L) (k : Int) : Contract Try.prog 17 [.box i 0, .v (.int .i64 k)] h (.v (.bool (okK k))) h [] := by
  refine contract_of k17 mixedCt (by simp [c17]) fun hh hargs => ?_
  simp [c17]
  refine xcall_self (by simp) (ctmade_c hr) ?_
  unfold okK
  by_cases h1 : 0 ≤ k
  · simp [h1, hh]
  · simp [h1, hh]
theorem ctget_c (hr : CtAt h i L) (k : Int) : Contract Try.prog 10 [.box i 0, .v (.int .i64 k)] h (.v (.int .i64 (getR L k))) h [] := by
  have h1 := hr.top
  have h2 := hr.len
  unfold getR
  cases p : okK k with
  | false =>
    refine contract_of k10 mixedCt (by simp [c10]) fun hh hargs => ?_
    simp [c10]
    refine xcall_self (by simp) (cthas_c hr k) ?_
    simp [p, hh]
  | true =>
    obtain ⟨m, rfl, hm⟩ := okK_nat p
    have hm' : m < L.length := by omega
    refine contract_of k10 mixedCt (by simp [c10]) fun hh hargs => ?_
    simp [c10]
    refine xcall_self (by simp) (cthas_c hr _) ?_
    have hm5 : (m : Int) < 5 := by omega
    simp [p, h1, hm5]
    rw [Nat.add_comm 1 m]
    refine xcall_self (by simp) (atomLoad_c h1 (ctC_get hm')) ?_
    simp [hh, hm']
theorem ctadd_c (hr : CtAt h i L) (k n : Int) : Contract Try.prog 8 [.box i 0, .v (.int .i64 k), .v (.int .i64 n)] h (.v (.bool (okA k n))) (h.set i (ctC (addR L k n))) [i] := by
  have h1 := hr.top
  have h2 := hr.len
  have hi := hr.i_lt
  unfold addR
  cases pA : okA k n with
  | false =>
    have hs : h.set i (ctC L) = h := set_same h1
    simp only [Bool.false_eq_true, if_false, hs]
    refine contract_of k8 mixedCt (by simp [c8]) fun hh hargs => ?_
    simp [c8]
    refine xcall_self (by simp) (cthas_c hr k) ?_
    cases p : okK k with
    | false => simp [p, hh]
    | true =>
      have : n < 0 ∨ 2147483648 < n := by unfold okA at pA; rw [p] at pA; simp at pA; omega
      by_cases hn : n < 0
      · simp [p, hn, hh]
      · have hn2 : 2147483648 < n := by omega
        simp [p, hn, hn2, hh]
  | true =>
    have p : okK k = true := by unfold okA at pA; simp at pA; exact pA.1.1
    have hn : ¬ n < 0 ∧ ¬ 2147483648 < n := by unfold okA at pA; simp at pA; omega
    obtain ⟨m, rfl, hm⟩ := okK_nat p
    have hm' : m < L.length := by omega
    have hm5 : (m : Int) < 5 := by omega
    refine contract_of k8 mixedCt (by simp [c8]) fun hh hargs => ?_
    simp [c8]
    refine xcall_self (by simp) (cthas_c hr _) ?_
    simp [p, hn.1, hn.2, h1, hm5]
    rw [Nat.add_comm 1 m]
    refine xcall_self (by simp) (atomAdd_c h1 (ctC_get hm')) ?_
    rw [ctC_set]
    simp [hm', take_set_len]
    exact ltLL_set hh (by simp)
theorem ctlist_c (hr : CtAt h i L) : Contract Try.prog 15 [.box i 0] h (.sl 1 (enc intC L) none .no) h [] := by
  have h1 := hr.top
  have h2 := hr.len
  have hi := hr.i_lt
  have hnn : L ≠ [] := fun e => by rw [e] at h2; cases h2
  have hfz := frz_ints h.length h2
  refine contract_cut (XCode.cuts [false, false, false, true] c15.code) k15 rfl mixedCt (by simp [c15]) fun hh hargs => ?_
  simp [c15]
  refine xcall_self (by simp) (ctmade_c hr) ?_
  simp
  refine xseq_frz h.length (intsA L) ⟨[(3, .sl 1 (enc intC L) none .no)], [], h, []⟩ (Nat.le_refl _) (frz_intsOk hnn) ?_ ?_
  · simp
    refine xloop_ok (D := Nat) (fun j => ⟨[(0, .box i 0), (3, .bsl h.length 0 1 5), (10, .v (.int .i64 5)), (11, .v (.int .i64 (j : Int)))], [], h ++ [intsA (ctB L j)], []⟩) (fun j => j ≤ 5) (fun j => 5 - j) 0 (by omega) ?_ ?_
    · have hl2 := ltLL_mono (Nat.le_add_right h.length 1) hh
      simp [Leq, hl2, ctB]
      exact ⟨leqH_refl _ _, by omega⟩
    · intro j hj
      by_cases hlt : j < 5
      · have hlt' : j < L.length := by omega
        have hw : IntKind.i64.wrap ((j : Int) + 1) = (j : Int) + 1 := wrap64 (by omega) (by omega)
        have hj5 : (j : Int) < 5 := by omega
        have hok : okK (j : Int) = true := by unfold okK; simp; omega
        have hget : getR L (j : Int) = L[j] := by unfold getR; rw [hok]; simp [hlt']
        have hg := ctget_c (hr.app [intsA (ctB L j)]) (j : Int)
        rw [hget] at hg
        have hlen := ctB_len h2 hj
        simp [hj5]
        refine xcall_self (by simp) hg ?_
        have hj4 : j ≤ 4 := by omega
        simp [hlt, hj4, hj5, hlen, hw, ctB_set h2 hlt]
        refine ⟨j + 1, by omega, by omega, ?_⟩
        have hl2 := ltLL_mono (Nat.le_add_right h.length 1) hh
        simp [Leq, hl2]
        omega
      · have hj2 : j = 5 := by omega
        subst hj2
        have hB : ctB L 5 = L := by unfold ctB; rw [List.take_of_length_le (by omega)]; simp
        simp [hB, Leq, hfz, hh]
        done
  · simp [hh]
    done
theorem cttotal_c (hr : CtAt h i L) : Contract Try.prog 12 [.box i 0] h (.v (.int .i64 (sumW L))) h [] := by
  have h2 := hr.len
  refine contract_of k12 mixedCt (by simp [c12]) fun hh hargs => ?_
  simp [c12]
  refine xcall_self (by simp) (ctlist_c hr) ?_
  simp
  refine xloop_ok (D := Nat) (fun j => ⟨[(3, .v (.int .i64 (sumW (L.take j)))), (7, .sl 1 (enc intC L) none .no), (8, .v (.int .i64 (L.length : Int))), (9, .v (.int .i64 (j : Int)))], [], h, []⟩) (fun j => j ≤ L.length) (fun j => L.length - j) 0 (by omega) ?_ ?_
  · simp [Leq, hh, sumW]
  · intro j hj
    by_cases hlt : j < L.length
    · have hw : IntKind.i64.wrap ((j : Int) + 1) = (j : Int) + 1 := wrap64 (by omega) (by omega)
      simp [hlt, intC, hw]
      refine ⟨j + 1, by omega, by omega, ?_⟩
      simp [Leq, hh, sumW_step hlt, intC]
      done
    · have hj2 : j = L.length := by omega
      subst hj2
      simp [hh]
      done
end
/-! ### A new one, one that no call made -/
def zerosL : List Int := [0, 0, 0, 0, 0]
theorem ctnew_c (h : List (List AV)) : Contract Try.prog 6 [] h (.box h.length 0) (h ++ [ctC zerosL]) [] := by
  refine contract_of k6 mixedCt (by simp [c6]) fun hh hargs => ?_
  have hl2 := ltLL_mono (Nat.le_add_right h.length 1) hh
  simp [c6, hl2]
  exact leqH_refl _ _
section
variable {h : List (List AV)}
variable {x : AV} (hx : Contract Try.prog 20 [x] h (.v (.bool false)) h [])
include hx
end
section
theorem ctawake_c (h : List (List AV)) : Contract Try.prog 16 [] h (.v (.bool true)) h [] := by
  have kn := ctnew_c h
  obtain ⟨H0, hH0⟩ : ∃ H0, H0 = h ++ [ctC zerosL] := ⟨_, rfl⟩
  have t0 : CtAt H0 h.length zerosL := ⟨by rw [hH0]; simp, rfl⟩
  rw [← hH0] at kn
  have l0 : H0.length = h.length + 1 := by rw [hH0]; simp
  have k1 := ctadd_c t0 1 2
  have e1 : addR zerosL 1 2 = [0, 2, 0, 0, 0] := by decide
  have e2 : okA 1 2 = true := by decide
  rw [e1, e2] at k1
  obtain ⟨H1, hH1⟩ : ∃ H1, H1 = H0.set h.length (ctC [0, 2, 0, 0, 0]) := ⟨_, rfl⟩
  have l1 : H1.length = h.length + 1 := by rw [hH1]; simp [l0]
  have t1 : CtAt H1 h.length [0, 2, 0, 0, 0] := ⟨by rw [hH1, List.getElem?_set_self (by omega)], rfl⟩
  have e9 : H1.take h.length = h := by rw [hH1, hH0, List.set_append_right _ _ (Nat.le_refl _)]; simp
  rw [← hH1] at k1
  have k2 := ctadd_c t1 5 1
  have e3 : addR [0, 2, 0, 0, 0] 5 1 = [0, 2, 0, 0, 0] := by decide
  have e4 : okA 5 1 = false := by decide
  have e5 : H1.set h.length (ctC [0, 2, 0, 0, 0]) = H1 := set_same t1.top
  rw [e3, e4, e5] at k2
  have k3 := ctget_c t1 1
  have k4 := cttotal_c t1
  have k5 := ctlist_c t1
  have e6 : getR [0, 2, 0, 0, 0] 1 = 2 := by decide
  have e7 : sumW [0, 2, 0, 0, 0] = 2 := by decide
  rw [e6] at k3
  rw [e7] at k4
  refine contract_of k16 mixedCt (by simp [c16]) fun hh hargs => ?_
  simp [c16]
  refine xcall_of kn (by simp) (by simp) ?_
  simp
  refine xcall_of k1 (by simp) (by simp) ?_
  simp
  refine xcall_of k2 (by simp) (by simp) ?_
  simp
  refine xcall_of k3 (by simp) (by simp) ?_
  simp
  refine xcall_of k4 (by simp) (by simp) ?_
  simp
  refine xcall_of k5 (by simp) (by simp) ?_
  simp [e9, hh]
  omega
end
end Go.Proofs.Ytofkddajlgebjaa.Ax
