import Derived.Test.YtdfgljojemmlcaaGreatQAxXr
import Derived.Test.YtdfgljojemmlcaaGreatRows
import Derived.Test.YtdfgljojemmlcaaGreatQAxKh
import Derived.Test.YtdfgljojemmlcaaGreatQAxMs
import Derived.Test.YtdfgljojemmlcaaGreatQAxSo
import Derived.Test.YtdfgljojemmlcaaGreatQAxKc0
set_option linter.unusedSimpArgs false
set_option linter.unusedVariables false
namespace Go.Proofs.YtdfgljojemmlcaaGreat.Ax
open Go.RowKit Go By
def c18 : XFun := ⟨5, (.seq (.ops [⟨(some 0), (.assign (.const (.pointer none))), none⟩]) (.seq (.ops [⟨(some 1), (.makeMap 1 true), none⟩, ⟨(some 2), (.makeMap 1 true), none⟩, ⟨(some 3), (.build [(.v (.map none)), (.v (.map none)), (.v (.int .i64 0))] [(0, (1, (.tmp 1))), (1, (1, (.tmp 2)))]), none⟩, ⟨(some 4), (.box (.tmp 3)), none⟩, ⟨(some 0), (.assign (.tmp 4)), none⟩]) .ret)), [(.move (.tmp 0))]⟩
theorem k18 : cfun Tryz.prog 18 = some c18 := by kernel_rfl
def c21 : XFun := ⟨48, (.seq (.ops [⟨(some 3), (.box (.tmp 1)), none⟩, ⟨(some 4), (.assign (.const (.int .i64 0))), none⟩]) (.seq (.seq (.ops [⟨(some 8), (.move (.tmp 0)), none⟩, ⟨(some 9), (.pnileq false (.tmp 8)), none⟩, ⟨(some 10), (.move (.tmp 9)), none⟩, ⟨(some 11), (.move (.tmp 0)), (some (10, false))⟩, ⟨(some 12), (.nilCheck (.tmp 11)), (some (10, false))⟩, ⟨(some 13), (.faddr 0 (.tmp 12)), (some (10, false))⟩, ⟨(some 14), (.load1 (.tmp 13)), (some (10, false))⟩, ⟨(some 15), (.mnileq false (.tmp 14)), (some (10, false))⟩, ⟨(some 16), (.pick (.tmp 10) (.const (.bool true)) (.tmp 15)), none⟩]) (.cond (.tmp 16) (.seq (.ops [⟨(some 4), (.assign (.const (.int .i64 0))), none⟩]) .ret) .skip)) (.seq (.ops [⟨(some 17), (.loadN 2 (.tmp 3)), none⟩, ⟨(some 18), (.call 46 [(.tmp 17)]), none⟩, ⟨(some 5), (.assign (.tmp 18)), none⟩]) (.seq (.seq (.ops [⟨(some 19), (.move (.tmp 5)), none⟩, ⟨(some 20), (.bin .eql (.tmp 19) (.const (.string (strB [])))), none⟩]) (.cond (.tmp 20) (.seq (.ops [⟨(some 4), (.assign (.const (.int .i64 0))), none⟩]) .ret) .skip)) (.seq (.ops [⟨(some 22), (.move (.tmp 0)), none⟩, ⟨(some 23), (.nilCheck (.tmp 22)), none⟩, ⟨(some 24), (.faddr 1 (.tmp 23)), none⟩, ⟨(some 25), (.load1 (.tmp 24)), none⟩, ⟨(some 26), (.move (.tmp 5)), none⟩, ⟨(some 27), (.lookup none 1 true true [(.v (.int .i64 0))] (.tmp 25) (.tmp 26)), none⟩, ⟨(some 21), (.move (.tmp 27)), none⟩, ⟨(some 28), (.extract (.tmp 21) 0), none⟩, ⟨(some 29), (.extract (.tmp 21) 1), none⟩, ⟨(some 6), (.assign (.tmp 28)), none⟩, ⟨(some 7), (.assign (.tmp 29)), none⟩]) (.seq (.seq (.ops [⟨(some 30), (.move (.tmp 7)), none⟩, ⟨(some 31), (.un .not (.tmp 30)), none⟩]) (.cond (.tmp 31) (.ops [⟨(some 32), (.move (.tmp 0)), none⟩, ⟨(some 33), (.move (.tmp 5)), none⟩, ⟨(some 34), (.call 47 [(.tmp 32), (.tmp 33)]), none⟩, ⟨(some 6), (.assign (.tmp 34)), none⟩]) .skip)) (.seq (.ops [⟨(some 35), (.move (.tmp 0)), none⟩, ⟨(some 36), (.nilCheck (.tmp 35)), none⟩, ⟨(some 37), (.faddr 0 (.tmp 36)), none⟩, ⟨(some 38), (.load1 (.tmp 37)), none⟩, ⟨(some 39), (.move (.tmp 6)), none⟩, ⟨(some 40), (.lookup (some .i64) 1 true false [(.v (.pointer none))] (.tmp 38) (.tmp 39)), none⟩, ⟨(some 41), (.nilCheck (.tmp 40)), none⟩, ⟨(some 42), (.faddr 2 (.tmp 41)), none⟩, ⟨(some 43), (.load1 (.tmp 42)), none⟩, ⟨(some 44), (.bin .add (.tmp 43) (.const (.int .i64 1))), none⟩, ⟨(some 45), (.nilCheck (.tmp 40)), none⟩, ⟨(some 46), (.faddr 2 (.tmp 45)), none⟩, ⟨none, (.store 1 (.tmp 46) (.tmp 44)), none⟩]) (.seq (.ops [⟨(some 47), (.move (.tmp 6)), none⟩, ⟨(some 4), (.assign (.tmp 47)), none⟩]) .ret)))))))), [(.move (.tmp 4))]⟩
theorem k21 : cfun Tryz.prog 21 = some c21 := by kernel_rfl
def c121 : XFun := ⟨18, (.seq (.ops [⟨(some 4), (.assign (.const (.bool false))), none⟩]) (.seq (.ops [⟨(some 6), (.move (.tmp 0)), none⟩, ⟨(some 7), (.move (.tmp 1)), none⟩, ⟨(some 8), (.call 42 [(.tmp 6), (.tmp 7)]), none⟩, ⟨(some 5), (.assign (.tmp 8)), none⟩]) (.seq (.seq (.ops [⟨(some 9), (.move (.tmp 5)), none⟩, ⟨(some 10), (.pnileq false (.tmp 9)), none⟩]) (.cond (.tmp 10) (.seq (.ops [⟨(some 4), (.assign (.const (.bool false))), none⟩]) .ret) .skip)) (.seq (.ops [⟨(some 11), (.move (.tmp 5)), none⟩, ⟨(some 12), (.nilCheck (.tmp 11)), none⟩, ⟨(some 13), (.faddr 2 (.tmp 12)), none⟩, ⟨(some 14), (.load1 (.tmp 13)), none⟩, ⟨(some 15), (.bin .add (.tmp 14) (.const (.int .i64 1))), none⟩, ⟨(some 16), (.nilCheck (.tmp 11)), none⟩, ⟨(some 17), (.faddr 2 (.tmp 16)), none⟩, ⟨none, (.store 1 (.tmp 17) (.tmp 15)), none⟩]) (.seq (.ops [⟨(some 4), (.assign (.const (.bool true))), none⟩]) .ret))))), [(.move (.tmp 4))]⟩
theorem k121 : cfun Tryz.prog 121 = some c121 := by kernel_rfl
def c65 : XFun := ⟨25, (.seq (.ops [⟨(some 4), (.alloc [(.v (.string (strB []))), (.sl 0 [] (some true) .exact)]), none⟩, ⟨(some 5), (.assign (.const (.bool false))), none⟩]) (.seq (.ops [⟨(some 7), (.move (.tmp 0)), none⟩, ⟨(some 8), (.move (.tmp 1)), none⟩, ⟨(some 9), (.call 42 [(.tmp 7), (.tmp 8)]), none⟩, ⟨(some 6), (.assign (.tmp 9)), none⟩]) (.seq (.seq (.ops [⟨(some 10), (.move (.tmp 6)), none⟩, ⟨(some 11), (.pnileq false (.tmp 10)), none⟩]) (.cond (.tmp 11) (.seq (.ops [⟨(some 12), (.build [(.v (.string (strB []))), (.sl 0 [] (some true) .exact)] []), none⟩, ⟨none, (.store 2 (.tmp 4) (.tmp 12)), none⟩, ⟨(some 5), (.assign (.const (.bool false))), none⟩]) .ret) .skip)) (.seq (.draws (.take ⟨(some 13), (.move (.tmp 6)), none⟩ (.take ⟨(some 14), (.nilCheck (.tmp 13)), none⟩ (.take ⟨(some 15), (.faddr 0 (.tmp 14)), none⟩ (.take ⟨(some 16), (.faddr 0 (.tmp 15)), none⟩ (.take ⟨(some 17), (.load1 (.tmp 16)), none⟩ (.take ⟨(some 18), (.move (.tmp 6)), none⟩ (.take ⟨(some 19), (.nilCheck (.tmp 18)), none⟩ (.take ⟨(some 20), (.faddr 0 (.tmp 19)), none⟩ (.take ⟨(some 21), (.faddr 1 (.tmp 20)), none⟩ (.take ⟨(some 22), (.load1 (.tmp 21)), none⟩ (.only ⟨(some 23), (.call 53 [(.tmp 22)]), none⟩ (.take ⟨(some 24), (.build [(.v (.string (strB []))), (.sl 0 [] (some true) .exact)] [(0, (1, (.tmp 17))), (1, (1, (.tmp 23)))]), none⟩ (.only ⟨none, (.store 2 (.tmp 4) (.tmp 24)), none⟩ (.take ⟨(some 5), (.assign (.const (.bool true))), none⟩ .done))))))))))))))) .ret)))), [(.loadN 2 (.tmp 4)), (.move (.tmp 5))]⟩
theorem k65 : cfun Tryz.prog 65 = some c65 := by kernel_rfl
def c14 : XFun := ⟨15, (.seq (.ops [⟨(some 4), (.assign (.const (.int .i64 0))), none⟩]) (.seq (.ops [⟨(some 6), (.move (.tmp 0)), none⟩, ⟨(some 7), (.move (.tmp 1)), none⟩, ⟨(some 8), (.call 42 [(.tmp 6), (.tmp 7)]), none⟩, ⟨(some 5), (.assign (.tmp 8)), none⟩]) (.seq (.seq (.ops [⟨(some 9), (.move (.tmp 5)), none⟩, ⟨(some 10), (.pnileq false (.tmp 9)), none⟩]) (.cond (.tmp 10) (.seq (.ops [⟨(some 4), (.assign (.const (.int .i64 0))), none⟩]) .ret) .skip)) (.seq (.ops [⟨(some 11), (.move (.tmp 5)), none⟩, ⟨(some 12), (.nilCheck (.tmp 11)), none⟩, ⟨(some 13), (.faddr 2 (.tmp 12)), none⟩, ⟨(some 14), (.load1 (.tmp 13)), none⟩, ⟨(some 4), (.assign (.tmp 14)), none⟩]) .ret)))), [(.move (.tmp 4))]⟩
theorem k14 : cfun Tryz.prog 14 = some c14 := by kernel_rfl
def c42 : XFun := ⟨13, (.seq (.ops [⟨(some 4), (.assign (.const (.pointer none))), none⟩]) (.seq (.seq (.ops [⟨(some 5), (.move (.tmp 0)), none⟩, ⟨(some 6), (.pnileq false (.tmp 5)), none⟩]) (.cond (.tmp 6) (.seq (.ops [⟨(some 4), (.assign (.const (.pointer none))), none⟩]) .ret) .skip)) (.seq (.ops [⟨(some 7), (.move (.tmp 0)), none⟩, ⟨(some 8), (.nilCheck (.tmp 7)), none⟩, ⟨(some 9), (.faddr 0 (.tmp 8)), none⟩, ⟨(some 10), (.load1 (.tmp 9)), none⟩, ⟨(some 11), (.move (.tmp 1)), none⟩, ⟨(some 12), (.lookup (some .i64) 1 true false [(.v (.pointer none))] (.tmp 10) (.tmp 11)), none⟩, ⟨(some 4), (.assign (.tmp 12)), none⟩]) .ret))), [(.move (.tmp 4))]⟩
theorem k42 : cfun Tryz.prog 42 = some c42 := by kernel_rfl
def c47 : XFun := ⟨43, (.seq (.ops [⟨(some 4), (.assign (.const (.int .i64 0))), none⟩]) (.seq (.ops [⟨(some 8), (.move (.tmp 1)), none⟩, ⟨(some 9), (.call 86 [(.tmp 8)]), none⟩, ⟨(some 7), (.move (.tmp 9)), none⟩, ⟨(some 10), (.extract (.tmp 7) 0), none⟩, ⟨(some 11), (.extract (.tmp 7) 1), none⟩, ⟨(some 5), (.alloc [(.v (.string (strB []))), (.sl 0 [] (some true) .exact)]), none⟩, ⟨none, (.store 2 (.tmp 5) (.tmp 10)), none⟩, ⟨(some 6), (.assign (.tmp 11)), none⟩]) (.seq (.ops [⟨(some 12), (.move (.tmp 0)), none⟩, ⟨(some 13), (.nilCheck (.tmp 12)), none⟩, ⟨(some 14), (.faddr 2 (.tmp 13)), none⟩, ⟨(some 15), (.load1 (.tmp 14)), none⟩, ⟨(some 16), (.bin .add (.tmp 15) (.const (.int .i64 1))), none⟩, ⟨(some 17), (.nilCheck (.tmp 12)), none⟩, ⟨(some 18), (.faddr 2 (.tmp 17)), none⟩, ⟨none, (.store 1 (.tmp 18) (.tmp 16)), none⟩]) (.seq (.draws (.take ⟨(some 19), (.move (.tmp 0)), none⟩ (.take ⟨(some 20), (.nilCheck (.tmp 19)), none⟩ (.take ⟨(some 21), (.faddr 0 (.tmp 20)), none⟩ (.take ⟨(some 22), (.load1 (.tmp 21)), none⟩ (.take ⟨(some 23), (.move (.tmp 0)), none⟩ (.take ⟨(some 24), (.nilCheck (.tmp 23)), none⟩ (.take ⟨(some 25), (.faddr 2 (.tmp 24)), none⟩ (.take ⟨(some 26), (.load1 (.tmp 25)), none⟩ (.take ⟨(some 27), (.loadN 2 (.tmp 5)), none⟩ (.take ⟨(some 28), (.build [(.v (.string (strB []))), (.sl 0 [] (some true) .exact), (.v (.int .i64 0))] [(0, (2, (.tmp 27)))]), none⟩ (.only ⟨(some 29), (.box (.tmp 28)), none⟩ (.last ⟨none, (.mapUpd (some .i64) 1 true (.tmp 22) (.tmp 26) (.tmp 29)), none⟩))))))))))))) (.seq (.draws (.take ⟨(some 30), (.move (.tmp 0)), none⟩ (.take ⟨(some 31), (.nilCheck (.tmp 30)), none⟩ (.take ⟨(some 32), (.faddr 1 (.tmp 31)), none⟩ (.take ⟨(some 33), (.load1 (.tmp 32)), none⟩ (.take ⟨(some 34), (.move (.tmp 1)), none⟩ (.take ⟨(some 35), (.move (.tmp 0)), none⟩ (.take ⟨(some 36), (.nilCheck (.tmp 35)), none⟩ (.take ⟨(some 37), (.faddr 2 (.tmp 36)), none⟩ (.take ⟨(some 38), (.load1 (.tmp 37)), none⟩ (.last ⟨none, (.mapUpd none 1 true (.tmp 33) (.tmp 34) (.tmp 38)), none⟩))))))))))) (.seq (.ops [⟨(some 39), (.move (.tmp 0)), none⟩, ⟨(some 40), (.nilCheck (.tmp 39)), none⟩, ⟨(some 41), (.faddr 2 (.tmp 40)), none⟩, ⟨(some 42), (.load1 (.tmp 41)), none⟩, ⟨(some 4), (.assign (.tmp 42)), none⟩]) .ret)))))), [(.move (.tmp 4))]⟩
theorem k47 : cfun Tryz.prog 47 = some c47 := by kernel_rfl
def c43 : XFun := ⟨26, (.seq (.ops [⟨(some 4), (.assign (.const (.int .i64 0))), none⟩]) (.seq (.seq (.ops [⟨(some 5), (.assign (.const (.int .i64 0))), none⟩]) (.block 0 (.loop (.seq (.seq (.ops [⟨(some 6), (.move (.tmp 5)), none⟩, ⟨(some 7), (.move (.tmp 0)), none⟩, ⟨(some 8), (.nilCheck (.tmp 7)), none⟩, ⟨(some 9), (.faddr 0 (.tmp 8)), none⟩, ⟨(some 10), (.load1 (.tmp 9)), none⟩, ⟨(some 11), (.lenL (.tmp 10)), none⟩, ⟨(some 12), (.bin .lss (.tmp 6) (.tmp 11)), none⟩]) (.cond (.tmp 12) .skip (.exit 0))) (.seq (.block 1 (.seq (.ops [⟨(some 15), (.move (.tmp 0)), none⟩, ⟨(some 16), (.nilCheck (.tmp 15)), none⟩, ⟨(some 17), (.faddr 0 (.tmp 16)), none⟩, ⟨(some 18), (.load1 (.tmp 17)), none⟩, ⟨(some 19), (.move (.tmp 5)), none⟩, ⟨(some 20), (.iaddr 4 (.tmp 18) (.tmp 19)), none⟩, ⟨(some 21), (.faddr 0 (.tmp 20)), none⟩, ⟨(some 22), (.load1 (.tmp 21)), none⟩, ⟨(some 23), (.move (.tmp 1)), none⟩, ⟨(some 24), (.bin .eql (.tmp 22) (.tmp 23)), none⟩]) (.cond (.tmp 24) (.seq (.ops [⟨(some 25), (.move (.tmp 5)), none⟩, ⟨(some 4), (.assign (.tmp 25)), none⟩]) .ret) .skip))) (.ops [⟨(some 13), (.move (.tmp 5)), none⟩, ⟨(some 14), (.bin .add (.tmp 13) (.const (.int .i64 1))), none⟩, ⟨(some 5), (.assign (.tmp 14)), none⟩])))))) (.seq (.ops [⟨(some 4), (.assign (.const (.int .i64 (-1)))), none⟩]) .ret))), [(.move (.tmp 4))]⟩
theorem k43 : cfun Tryz.prog 43 = some c43 := by kernel_rfl
def c49 : XFun := ⟨34, (.seq (.ops [⟨(some 3), (.box (.tmp 1)), none⟩, ⟨(some 4), (.assign (.const (.int .i64 0))), none⟩, ⟨(some 5), (.assign (.const (.bool false))), none⟩]) (.seq (.seq (.ops [⟨(some 6), (.assign (.const (.int .i64 0))), none⟩]) (.block 0 (.loop (.seq (.seq (.ops [⟨(some 7), (.move (.tmp 6)), none⟩, ⟨(some 8), (.move (.tmp 0)), none⟩, ⟨(some 9), (.nilCheck (.tmp 8)), none⟩, ⟨(some 10), (.faddr 0 (.tmp 9)), none⟩, ⟨(some 11), (.load1 (.tmp 10)), none⟩, ⟨(some 12), (.lenL (.tmp 11)), none⟩, ⟨(some 13), (.bin .lss (.tmp 7) (.tmp 12)), none⟩]) (.cond (.tmp 13) .skip (.exit 0))) (.seq (.block 1 (.seq (.draws (.take ⟨(some 16), (.move (.tmp 0)), none⟩ (.take ⟨(some 17), (.nilCheck (.tmp 16)), none⟩ (.take ⟨(some 18), (.faddr 0 (.tmp 17)), none⟩ (.take ⟨(some 19), (.load1 (.tmp 18)), none⟩ (.take ⟨(some 20), (.move (.tmp 6)), none⟩ (.take ⟨(some 21), (.iaddr 4 (.tmp 19) (.tmp 20)), none⟩ (.take ⟨(some 22), (.faddr 2 (.tmp 21)), none⟩ (.take ⟨(some 23), (.loadN 2 (.tmp 22)), none⟩ (.take ⟨(some 24), (.loadN 2 (.tmp 3)), none⟩ (.only ⟨(some 25), (.call 89 [(.tmp 23), (.tmp 24)]), none⟩ .done))))))))))) (.cond (.tmp 25) (.seq (.ops [⟨(some 26), (.move (.tmp 0)), none⟩, ⟨(some 27), (.nilCheck (.tmp 26)), none⟩, ⟨(some 28), (.faddr 0 (.tmp 27)), none⟩, ⟨(some 29), (.load1 (.tmp 28)), none⟩, ⟨(some 30), (.move (.tmp 6)), none⟩, ⟨(some 31), (.iaddr 4 (.tmp 29) (.tmp 30)), none⟩, ⟨(some 32), (.faddr 0 (.tmp 31)), none⟩, ⟨(some 33), (.load1 (.tmp 32)), none⟩, ⟨(some 4), (.assign (.tmp 33)), none⟩, ⟨(some 5), (.assign (.const (.bool true))), none⟩]) .ret) .skip))) (.ops [⟨(some 14), (.move (.tmp 6)), none⟩, ⟨(some 15), (.bin .add (.tmp 14) (.const (.int .i64 1))), none⟩, ⟨(some 6), (.assign (.tmp 15)), none⟩])))))) (.seq (.ops [⟨(some 4), (.assign (.const (.int .i64 0))), none⟩, ⟨(some 5), (.assign (.const (.bool false))), none⟩]) .ret))), [(.move (.tmp 4)), (.move (.tmp 5))]⟩
theorem k49 : cfun Tryz.prog 49 = some c49 := by kernel_rfl
def c22 : XFun := ⟨52, (.seq (.ops [⟨(some 3), (.box (.tmp 1)), none⟩, ⟨(some 4), (.assign (.const (.int .i64 0))), none⟩]) (.seq (.seq (.ops [⟨(some 7), (.loadN 2 (.tmp 3)), none⟩, ⟨(some 8), (.call 48 [(.tmp 7)]), none⟩, ⟨(some 9), (.bin .eql (.tmp 8) (.const (.string (strB [])))), none⟩]) (.cond (.tmp 9) (.seq (.ops [⟨(some 4), (.assign (.const (.int .i64 0))), none⟩]) .ret) .skip)) (.seq (.seq (.ops [⟨(some 11), (.move (.tmp 0)), none⟩, ⟨(some 12), (.loadN 2 (.tmp 3)), none⟩, ⟨(some 13), (.call 49 [(.tmp 11), (.tmp 12)]), none⟩, ⟨(some 10), (.move (.tmp 13)), none⟩, ⟨(some 14), (.extract (.tmp 10) 0), none⟩, ⟨(some 15), (.extract (.tmp 10) 1), none⟩, ⟨(some 5), (.assign (.tmp 14)), none⟩, ⟨(some 6), (.assign (.tmp 15)), none⟩]) (.seq (.ops [⟨(some 16), (.move (.tmp 6)), none⟩]) (.cond (.tmp 16) (.seq (.ops [⟨(some 17), (.move (.tmp 0)), none⟩, ⟨(some 18), (.move (.tmp 5)), none⟩, ⟨(some 19), (.call 50 [(.tmp 17), (.tmp 18)]), none⟩]) (.seq (.ops [⟨(some 20), (.move (.tmp 5)), none⟩, ⟨(some 4), (.assign (.tmp 20)), none⟩]) .ret)) .skip))) (.seq (.ops [⟨(some 21), (.move (.tmp 0)), none⟩, ⟨(some 22), (.nilCheck (.tmp 21)), none⟩, ⟨(some 23), (.faddr 1 (.tmp 22)), none⟩, ⟨(some 24), (.load1 (.tmp 23)), none⟩, ⟨(some 25), (.bin .add (.tmp 24) (.const (.int .i64 1))), none⟩, ⟨(some 26), (.nilCheck (.tmp 21)), none⟩, ⟨(some 27), (.faddr 1 (.tmp 26)), none⟩, ⟨none, (.store 1 (.tmp 27) (.tmp 25)), none⟩]) (.seq (.draws (.take ⟨(some 28), (.move (.tmp 0)), none⟩ (.take ⟨(some 29), (.move (.tmp 0)), none⟩ (.take ⟨(some 30), (.nilCheck (.tmp 29)), none⟩ (.take ⟨(some 31), (.faddr 0 (.tmp 30)), none⟩ (.take ⟨(some 32), (.load1 (.tmp 31)), none⟩ (.take ⟨(some 33), (.move (.tmp 0)), none⟩ (.take ⟨(some 34), (.nilCheck (.tmp 33)), none⟩ (.take ⟨(some 35), (.faddr 1 (.tmp 34)), none⟩ (.take ⟨(some 36), (.load1 (.tmp 35)), none⟩ (.take ⟨(some 37), (.faddr 0 (.tmp 3)), none⟩ (.take ⟨(some 38), (.load1 (.tmp 37)), none⟩ (.take ⟨(some 39), (.faddr 1 (.tmp 3)), none⟩ (.take ⟨(some 40), (.load1 (.tmp 39)), none⟩ (.only ⟨(some 41), (.append 1 8 (.const (.slice none 0 0)) (.tmp 40)), none⟩ (.take ⟨(some 42), (.build [(.v (.string (strB []))), (.sl 0 [] (some true) .exact)] [(0, (1, (.tmp 38))), (1, (1, (.tmp 41)))]), none⟩ (.take ⟨(some 43), (.build [(.v (.int .i64 0)), (.v (.int .i64 0)), (.v (.string (strB []))), (.sl 0 [] (some true) .exact)] [(0, (1, (.tmp 36))), (1, (1, (.const (.int .i64 1)))), (2, (2, (.tmp 42)))]), none⟩ (.only ⟨(some 44), (.buildSlice 4 1 [(.v (.int .i64 0)), (.v (.int .i64 0)), (.v (.string (strB []))), (.sl 0 [] (some true) .exact)] [(0, (.tmp 43))]), none⟩ (.only ⟨(some 45), (.append 4 56 (.tmp 32) (.tmp 44)), none⟩ (.take ⟨(some 46), (.nilCheck (.tmp 28)), none⟩ (.take ⟨(some 47), (.faddr 0 (.tmp 46)), none⟩ (.last ⟨none, (.store 1 (.tmp 47) (.tmp 45)), none⟩)))))))))))))))))))))) (.seq (.ops [⟨(some 48), (.move (.tmp 0)), none⟩, ⟨(some 49), (.nilCheck (.tmp 48)), none⟩, ⟨(some 50), (.faddr 1 (.tmp 49)), none⟩, ⟨(some 51), (.load1 (.tmp 50)), none⟩, ⟨(some 4), (.assign (.tmp 51)), none⟩]) .ret)))))), [(.move (.tmp 4))]⟩
theorem k22 : cfun Tryz.prog 22 = some c22 := by kernel_rfl
def c50 : XFun := ⟨22, (.seq (.ops [⟨(some 4), (.assign (.const (.bool false))), none⟩]) (.seq (.ops [⟨(some 6), (.move (.tmp 0)), none⟩, ⟨(some 7), (.move (.tmp 1)), none⟩, ⟨(some 8), (.call 43 [(.tmp 6), (.tmp 7)]), none⟩, ⟨(some 5), (.assign (.tmp 8)), none⟩]) (.seq (.seq (.ops [⟨(some 9), (.move (.tmp 5)), none⟩, ⟨(some 10), (.bin .lss (.tmp 9) (.const (.int .i64 0))), none⟩]) (.cond (.tmp 10) (.seq (.ops [⟨(some 4), (.assign (.const (.bool false))), none⟩]) .ret) .skip)) (.seq (.ops [⟨(some 11), (.move (.tmp 0)), none⟩, ⟨(some 12), (.nilCheck (.tmp 11)), none⟩, ⟨(some 13), (.faddr 0 (.tmp 12)), none⟩, ⟨(some 14), (.load1 (.tmp 13)), none⟩, ⟨(some 15), (.move (.tmp 5)), none⟩, ⟨(some 16), (.iaddr 4 (.tmp 14) (.tmp 15)), none⟩, ⟨(some 17), (.faddr 1 (.tmp 16)), none⟩, ⟨(some 18), (.load1 (.tmp 17)), none⟩, ⟨(some 19), (.bin .add (.tmp 18) (.const (.int .i64 1))), none⟩, ⟨(some 20), (.iaddr 4 (.tmp 14) (.tmp 15)), none⟩, ⟨(some 21), (.faddr 1 (.tmp 20)), none⟩, ⟨none, (.store 1 (.tmp 21) (.tmp 19)), none⟩]) (.seq (.ops [⟨(some 4), (.assign (.const (.bool true))), none⟩]) .ret))))), [(.move (.tmp 4))]⟩
theorem k50 : cfun Tryz.prog 50 = some c50 := by kernel_rfl
end Go.Proofs.YtdfgljojemmlcaaGreat.Ax
namespace Go.Proofs.YtdfgljojemmlcaaGreat.Ax
open Go.RowKit Go By
set_option maxRecDepth 10000
structure Sl where
 id : Nat
 refs : Nat
 st : Sm
 box : Nat
def Sl.cells (s : Sl) : List AV := [.v (.string (strB s.st.text)), .sl 1 (enc intC s.st.oids) none .no, .v (.int .i64 (s.refs : Int))]
theorem Sl.cells_mk (s : Sl) : s.cells = [.v (.string (strB s.st.text)), .sl 1 (enc intC s.st.oids) none .no, .v (.int .i64 (s.refs : Int))] := rfl
def Sl.recE (s : Sl) : AEnt := ⟨.int .i64 (s.id : Int), s.id - 1, [.box s.box 0]⟩
def Sl.ent (s : Sl) : AEnt := ⟨.string (strB (keyB s.st)), s.id - 1, [.v (.int .i64 (s.id : Int))]⟩
structure Rg where
 a : Nat
 b : Nat
 last : Nat
 l : List Sl
def Rg.top (R : Rg) : List AV := [.mp R.a 1 true, .mp R.b 1 true, .v (.int .i64 (R.last : Int))]
theorem Rg.top_mk (R : Rg) : R.top = [.mp R.a 1 true, .mp R.b 1 true, .v (.int .i64 (R.last : Int))] := rfl
def Rg.find (R : Rg) (id : Int) : Option Sl := R.l.find? fun s => decide ((s.id : Int) = id)
def Rg.findS (R : Rg) (m : Sm) : Option Sl := R.l.find? fun s => decide (s.st = m)
structure RegAt (lo : Nat) (h : List (List AV)) (i : Nat) (R : Rg) : Prop where
 top : h[i]? = some R.top
 recs : h[R.a]? = some (mapC R.last (R.l.map Sl.recE))
 ids : h[R.b]? = some (mapC R.last (R.l.map Sl.ent))
 at_ : ∀ s ∈ R.l, h[s.box]? = some s.cells
 low : lo <= i /\ lo <= R.a /\ lo <= R.b /\ ∀ s ∈ R.l, lo <= s.box
 apart : i ≠ R.a /\ i ≠ R.b /\ R.a ≠ R.b /\ ∀ s ∈ R.l, s.box ≠ i /\ s.box ≠ R.a /\ s.box ≠ R.b
 boxes : (R.l.map Sl.box).Nodup
 lt : ltLL h.length h
structure RgOk (n : Nat) (R : Rg) : Prop where
 rise : (R.l.map Sl.id).Pairwise (· < ·)
 ids : ∀ s ∈ R.l, 1 <= s.id /\ s.id <= R.last
 refs : ∀ s ∈ R.l, 1 <= s.refs /\ s.refs <= n
 key : ∀ s ∈ R.l, keyable s.st = true
 one : (R.l.map Sl.st).Nodup
 short : ∀ s ∈ R.l, s.st.text.length <= 1000 /\ s.st.oids.length <= 1000
 last : R.last <= n
theorem recs_of (R : Rg) : mapOf 1 (mapC R.last (R.l.map Sl.recE)) = some (R.last, R.l.map Sl.recE) := mapOf_mapC fun e he => by obtain ⟨s, _, rfl⟩ := List.mem_map.1 he; rfl
theorem ents_of (R : Rg) : mapOf 1 (mapC R.last (R.l.map Sl.ent)) = some (R.last, R.l.map Sl.ent) := mapOf_mapC fun e he => by obtain ⟨s, _, rfl⟩ := List.mem_map.1 he; rfl
theorem recs_keys (l : List Sl) : keysOk (some .i64) (l.map Sl.recE) := fun e he => by
 obtain ⟨s, _, rfl⟩ := List.mem_map.1 he
 exact ⟨isKeyV_int _ _, fun c hc => by rw [List.mem_singleton.1 hc]; rfl⟩
theorem ents_keys (l : List Sl) : keysOk none (l.map Sl.ent) := fun e he => by
 obtain ⟨s, _, rfl⟩ := List.mem_map.1 he
 exact ⟨rfl, fun c hc => by rw [List.mem_singleton.1 hc]; rfl⟩
theorem recs_eq (id : Int) (l : List Sl) : ∀ s ∈ l, keyEq (.int .i64 id) s.recE.key = decide ((s.id : Int) = id) := fun s _ => keyEq_int id s.id
theorem ents_eq (m : Sm) {l : List Sl} (hk : ∀ s ∈ l, keyable s.st = true) : ∀ s ∈ l, keyEq (.string (strB (keyB m))) s.ent.key = decide (s.st = m) := fun s hs => by
 show keyEq (.string (strB (keyB m))) (.string (strB (keyB s.st))) = _
 rw [keyEq_str, Bool.eq_iff_iff]
 cases hm : keyable m with
 | true =>
  have := keyB_inj hm (hk s hs)
  simp [this]
  exact eq_comm
 | false =>
  rw [keyB_none hm]
  have h1 := keyB_some (hk s hs)
  constructor
  ·intro h; exact absurd (by simpa using h : [] = keyB s.st).symm h1
  ·intro h
   have e : s.st = m := by simpa using h
   rw [<- e, hk s hs] at hm
   cases hm
def ptrOf : Option Sl -> AV
 | some s => .box s.box 0
 | none => .v (.pointer none)
theorem rec_found (R : Rg) (id : Int) : found true false [.v (.pointer none)] (AEnt.find (.int .i64 id) (R.l.map Sl.recE) 0) = ptrOf (R.find id) := by
 rw [found_map 0 (recs_eq id R.l)]
 unfold Rg.find
 cases R.l.find? (fun s => decide ((s.id : Int) = id)) <;> rfl
theorem find_mem {R : Rg} {id : Int} {s : Sl} (h : R.find id = some s) : s ∈ R.l /\ (s.id : Int) = id := ⟨List.mem_of_find?_eq_some h, by simpa using List.find?_some h⟩
theorem findS_mem {R : Rg} {m : Sm} {s : Sl} (h : R.findS m = some s) : s ∈ R.l /\ s.st = m := ⟨List.mem_of_find?_eq_some h, by simpa using List.find?_some h⟩
section
variable {lo : Nat} {h : List (List AV)} {i : Nat} {R : Rg}
theorem RegAt.box_lt (hr : RegAt lo h i R) {s : Sl} (hs : s ∈ R.l) : s.box < h.length := (List.getElem?_eq_some_iff.1 (hr.at_ s hs)).1
theorem RegAt.i_lt (hr : RegAt lo h i R) : i < h.length := (List.getElem?_eq_some_iff.1 hr.top).1
theorem gfind_c (hr : RegAt lo h i R) (id : Int) : Contract Tryz.prog 42 [.box i 0, .v (.int .i64 id)] h (ptrOf (R.find id)) h [] := by
 have h1 := hr.top
 have h2 := hr.recs
 have h3 := recs_of R
 have h4 := recs_keys R.l
 have h5 := rec_found R id
 rw [Rg.top_mk] at h1
 refine contract_of k42 mixed (by simp [c42]) fun hh hargs => ?_
 simp [c42, h1, h2, h3, h4, h5]
 cases hf : R.find id with
 | none => simp [ptrOf, hh]
 | some s =>
  have := hr.box_lt (find_mem hf).1
  simp [ptrOf, hh, this]
end
theorem iclone_c (l : List Int) (hl : l.length <= 1000000) (h : List (List AV)) : Contract Tryz.prog 53 [.sl 1 (enc intC l) none .no] h (.sl 1 (enc intC l) none .no) h [] := by
 refine contract_nul (pre := []) (post := []) (fun he => ?_) ?_
 ·have : l = [] := by cases l with | nil => rfl | cons _ _ => simp [enc] at he
  subst this
  refine contract_of k53 mixed (by simp [c53]) fun hh hargs => ?_
  simp [c53, hh, enc]
 ·refine contract_of k53 mixed (by simp [c53]) fun hh hargs => ?_
  simp [c53, hh]
  refine xappendA_own ?_
  simp [hh]
  omega
def stOf : Option Sl -> Sm
 | some s => s.st
 | none => ⟨[], []⟩
def refsOf : Option Sl -> Nat
 | some s => s.refs
 | none => 0
def idOfS : Option Sl -> Nat
 | some s => s.id
 | none => 0
section
variable {lo : Nat} {h : List (List AV)} {i : Nat} {R : Rg}
theorem RegAt.move (hr : RegAt lo h i R) {h' : List (List AV)} (hk : ∀ k, lo <= k -> k < h.length -> h'[k]? = h[k]?) (hlt : ltLL h'.length h') : RegAt lo h' i R := by
 have at_ : ∀ {k : Nat} {x : List AV}, lo <= k -> h[k]? = some x -> h'[k]? = some x := fun {k x} h1 h2 => by
  rw [hk k h1 (List.getElem?_eq_some_iff.1 h2).1]; exact h2
 exact ⟨at_ hr.low.1 hr.top, at_ hr.low.2.1 hr.recs, at_ hr.low.2.2.1 hr.ids, fun s hs => at_ (hr.low.2.2.2 s hs) (hr.at_ s hs), hr.low, hr.apart, hr.boxes, hlt⟩
theorem RegAt.app (hr : RegAt lo h i R) (xs : List (List AV)) (hx : ltLL (h.length + xs.length) xs) : RegAt lo (h ++ xs) i R :=
 hr.move (fun k _ hk => List.getElem?_append_left hk) (by rw [ltLL_append, List.length_append]; exact ⟨ltLL_mono (Nat.le_add_right _ _) hr.lt, hx⟩)
theorem gget_c (hr : RegAt lo h i R) {n : Nat} (ho : RgOk n R) (id : Int) : Contract Tryz.prog 65 [.box i 0, .v (.int .i64 id)] h (.tup [.agg (smC (stOf (R.find id))), .v (.bool (R.find id).isSome)]) h [] := by
 refine contract_of k65 mixed (by simp [c65]) fun hh hargs => ?_
 simp [c65]
 have hr2 : RegAt lo (h ++ [[.v (.string (strB [])), .sl 0 [] (some true) .exact]]) i R := hr.app _ (by simp)
 refine xcall_self (by simp) (gfind_c hr2 id) ?_
 cases hs : R.find id with
 | none => simp [ptrOf, stOf, smC_mk, hh]
 | some s =>
  have hb := hr.box_lt (find_mem hs).1
  have hc := hr.at_ s (find_mem hs).1
  have hc2 : (h ++ [[.v (.string (strB [])), .sl 0 [] (some true) .exact]])[s.box]? = some s.cells := by rw [List.getElem?_append_left hb]; exact hc
  rw [Sl.cells_mk] at hc2
  have hne : ¬ s.box = h.length := by omega
  simp [ptrOf, hc2, hne]
  refine xcall_self (by simp) (iclone_c s.st.oids (by have := (ho.short s (find_mem hs).1).2; omega) _) ?_
  simp [stOf, smC_mk, hh, hne]
theorem grefs_c (hr : RegAt lo h i R) (id : Int) : Contract Tryz.prog 14 [.box i 0, .v (.int .i64 id)] h (.v (.int .i64 (refsOf (R.find id) : Int))) h [] := by
 refine contract_of k14 mixed (by simp [c14]) fun hh hargs => ?_
 simp [c14]
 refine xcall_self (by simp) (gfind_c hr id) ?_
 cases hs : R.find id with
 | none => simp [ptrOf, refsOf, hh]
 | some s =>
  have hb := hr.box_lt (find_mem hs).1
  have hc := hr.at_ s (find_mem hs).1
  rw [Sl.cells_mk] at hc
  simp [ptrOf, hc, refsOf, hh]
theorem ent_found (R : Rg) (m : Sm) (hk : ∀ s ∈ R.l, keyable s.st = true) : found true true [.v (.int .i64 0)] (AEnt.find (.string (strB (keyB m))) (R.l.map Sl.ent) 0) = .tup [.v (.int .i64 (idOfS (R.findS m) : Int)), .v (.bool (R.findS m).isSome)] := by
 rw [found_map 0 (ents_eq m hk)]
 unfold Rg.findS
 cases R.l.find? (fun s => decide (s.st = m)) <;> rfl
end
theorem Sl.cells_plain (s : Sl) : ∀ c ∈ s.cells, c.idOf = none := by intro c hc; rw [Sl.cells_mk] at hc; simp at hc; rcases hc with rfl | rfl | rfl <;> rfl
theorem recs_plain (k : Nat) (l : List Sl) : ∀ c ∈ mapC k (l.map Sl.recE), c.idOf = none := mapC_id fun e he c hc => (recs_keys l e he).2 c hc
theorem ents_plain (k : Nat) (l : List Sl) : ∀ c ∈ mapC k (l.map Sl.ent), c.idOf = none := mapC_id fun e he c hc => (ents_keys l e he).2 c hc
def Rg.touch (R : Rg) (i : Nat) : List Nat := i :: R.a :: R.b :: R.l.map Sl.box
def Rg.upd (R : Rg) (id n : Nat) : Rg := { R with l := R.l.map fun x => if x.id = id then { x with refs := n } else x }
def Rg.add (R : Rg) (m : Sm) (box : Nat) : Rg := { R with last := R.last + 1, l := R.l ++ [⟨R.last + 1, 0, m, box⟩] }
theorem Rg.upd_recs (R : Rg) (id n : Nat) : (R.upd id n).l.map Sl.recE = R.l.map Sl.recE := by
 unfold Rg.upd
 rw [List.map_map]
 refine List.map_congr_left fun x _ => ?_
 simp only [Function.comp]
 split <;> rfl
theorem Rg.upd_ents (R : Rg) (id n : Nat) : (R.upd id n).l.map Sl.ent = R.l.map Sl.ent := by
 unfold Rg.upd
 rw [List.map_map]
 refine List.map_congr_left fun x _ => ?_
 simp only [Function.comp]
 split <;> rfl
theorem Rg.upd_boxes (R : Rg) (id n : Nat) : (R.upd id n).l.map Sl.box = R.l.map Sl.box := by
 unfold Rg.upd
 rw [List.map_map]
 refine List.map_congr_left fun x _ => ?_
 simp only [Function.comp]
 split <;> rfl
theorem Rg.upd_ids (R : Rg) (id n : Nat) : (R.upd id n).l.map Sl.id = R.l.map Sl.id := by
 unfold Rg.upd
 rw [List.map_map]
 refine List.map_congr_left fun x _ => ?_
 simp only [Function.comp]
 split <;> rfl
theorem Rg.upd_sts (R : Rg) (id n : Nat) : (R.upd id n).l.map Sl.st = R.l.map Sl.st := by
 unfold Rg.upd
 rw [List.map_map]
 refine List.map_congr_left fun x _ => ?_
 simp only [Function.comp]
 split <;> rfl
theorem Rg.upd_touch (R : Rg) (id n i : Nat) : (R.upd id n).touch i = R.touch i := by
 unfold Rg.touch
 rw [Rg.upd_boxes]
 rfl
theorem RgOk.idsN {n : Nat} {R : Rg} (ho : RgOk n R) : (R.l.map Sl.id).Nodup := ho.rise.imp fun h => Nat.ne_of_lt h
section
variable {lo : Nat} {h : List (List AV)} {i : Nat} {R : Rg}
theorem Sl.cells_lt (s : Sl) (n : Nat) : ltL n s.cells := by simp [Sl.cells_mk]
theorem RegAt.upd (hr : RegAt lo h i R) (hid : (R.l.map Sl.id).Nodup) {s : Sl} (hs : s ∈ R.l) (n : Nat) : RegAt lo (h.set s.box ({ s with refs := n } : Sl).cells) i (R.upd s.id n) := by
 have hb := hr.apart.2.2.2 s hs
 refine ⟨?_, ?_, ?_, fun x hx => ?_, ⟨hr.low.1, hr.low.2.1, hr.low.2.2.1, fun x hx => ?_⟩, ⟨hr.apart.1, hr.apart.2.1, hr.apart.2.2.1, fun x hx => ?_⟩, ?_, ?_⟩
 ·rw [List.getElem?_set_ne hb.1]; exact hr.top
 ·rw [Rg.upd_recs]
  show (h.set s.box _)[R.a]? = _
  rw [List.getElem?_set_ne hb.2.1]; exact hr.recs
 ·rw [Rg.upd_ents]
  show (h.set s.box _)[R.b]? = _
  rw [List.getElem?_set_ne hb.2.2]; exact hr.ids
 ·obtain ⟨y, hy, rfl⟩ := List.mem_map.1 hx
  by_cases e : y.id = s.id
  ·have := map_inj_mem hid hy hs e
   subst this
   simp only [if_true]
   rw [List.getElem?_set_self (hr.box_lt hs)]
  ·simp only [if_neg e]
   have hne : s.box ≠ y.box := fun e2 => e (by rw [map_inj_mem hr.boxes hs hy e2])
   rw [List.getElem?_set_ne hne]
   exact hr.at_ y hy
 ·have : x.box ∈ (R.upd s.id n).l.map Sl.box := List.mem_map.2 ⟨x, hx, rfl⟩
  rw [Rg.upd_boxes] at this
  obtain ⟨y, hy, e⟩ := List.mem_map.1 this
  rw [<- e]; exact hr.low.2.2.2 y hy
 ·have : x.box ∈ (R.upd s.id n).l.map Sl.box := List.mem_map.2 ⟨x, hx, rfl⟩
  rw [Rg.upd_boxes] at this
  obtain ⟨y, hy, e⟩ := List.mem_map.1 this
  rw [<- e]; exact hr.apart.2.2.2 y hy
 ·rw [Rg.upd_boxes]; exact hr.boxes
 ·rw [List.length_set]; exact ltLL_set hr.lt (Sl.cells_lt _ _)
def Does (f : FuncId) (args : List AV) (lo : Nat) (h : List (List AV)) (i : Nat) (R : Rg) (r : AV) (R' : Rg) : Prop :=
 ∃ h', Contract Tryz.prog f args h r h' (R.touch i) /\ RegAt lo h' i R' /\ h.length <= h'.length /\ (∀ k < h.length, k ∉ R.touch i -> h'[k]? = h[k]?) /\ (plainH h -> plainH h')
def Rg.ref (R : Rg) (id : Int) : Rg := match R.find id with
 | some s => R.upd s.id (s.refs + 1)
 | none => R
theorem mapC_ltE {n clock : Nat} {l : List AEnt} (h : ∀ e ∈ l, ∀ c ∈ e.cells, c.lt n) : ltL n (mapC clock l) := by
 refine ltL_of fun j c hj => ?_
 have hc := List.mem_of_getElem? hj
 unfold mapC at hc
 simp only [List.mem_cons, List.mem_flatMap] at hc
 rcases hc with rfl | rfl | ⟨e, he, hc⟩
 ·simp
 ·simp
 ·unfold AEnt.avs at hc
  simp only [List.mem_cons] at hc
  rcases hc with rfl | rfl | hc
  ·simp
  ·simp
  ·exact h e he c hc
theorem recs_lt {n : Nat} (c : Nat) {l : List Sl} (h : ∀ s ∈ l, s.box < n) : ltL n (mapC c (l.map Sl.recE)) := mapC_ltE fun x hx c hc => by
 obtain ⟨y, hy, rfl⟩ := List.mem_map.1 hx
 rw [List.mem_singleton.1 hc]
 simpa using h y hy
theorem ents_lt (n c : Nat) (l : List Sl) : ltL n (mapC c (l.map Sl.ent)) := mapC_ltE fun x hx c hc => by
 obtain ⟨y, hy, rfl⟩ := List.mem_map.1 hx
 rw [List.mem_singleton.1 hc]; simp
end
def newH (h : List (List AV)) : List (List AV) := h ++ [mapC 0 [], mapC 0 [], [.mp h.length 1 true, .mp (h.length + 1) 1 true, .v (.int .i64 0)]]
theorem newH_at {h : List (List AV)} (hh : ltLL h.length h) : RegAt h.length (newH h) (h.length + 2) ⟨h.length, h.length + 1, 0, []⟩ := by
 refine ⟨by simp [newH, Rg.top_mk], by simp [newH], by simp [newH], fun s hs => by simp at hs, ⟨by simp, by simp, by simp, fun s hs => by simp at hs⟩, ⟨by simp, by simp, by simp, fun s hs => by simp at hs⟩, by simp, ?_⟩
 simp [newH]
 refine ⟨ltLL_mono (by omega) hh, ?_⟩
 simp [mapC]
theorem newH_ok (h : List (List AV)) : RgOk 0 ⟨h.length, h.length + 1, 0, []⟩ := ⟨by simp, by simp, by simp, by simp, by simp, by simp, by simp⟩
theorem gnew_c (h : List (List AV)) : Contract Tryz.prog 18 [] h (.box (h.length + 2) 0) (newH h) [] := by
 refine contract_of k18 mixed (by simp [c18]) fun hh hargs => ?_
 have := (newH_at hh).lt
 simp [newH] at this
 simp [c18, newH, hh, mapC]
section
variable {lo : Nat} {h : List (List AV)} {i : Nat} {R : Rg}
theorem splitK_keyB {m : Sm} (hk : keyable m = true) : splitK (keyB m) = m := by
 exact (key_split hk).2
theorem RegAt.add (hr : RegAt lo h i R) {n : Nat} (ho : RgOk n R) (m : Sm) {h' : List (List AV)} {nb : Nat} (hnb : h.length <= nb) (e1 : h'[i]? = some (R.add m nb).top) (e2 : h'[R.a]? = some (mapC (R.add m nb).last ((R.add m nb).l.map Sl.recE))) (e3 : h'[R.b]? = some (mapC (R.add m nb).last ((R.add m nb).l.map Sl.ent)))
  (e4 : h'[nb]? = some [.v (.string (strB m.text)), .sl 1 (enc intC m.oids) none .no, .v (.int .i64 0)]) (hk : ∀ k < h.length, k ≠ i -> k ≠ R.a -> k ≠ R.b -> h'[k]? = h[k]?) (hlt : ltLL h'.length h') : RegAt lo h' i (R.add m nb) := by
 have hmem : ∀ x ∈ (R.add m nb).l, x ∈ R.l \/ x = ⟨R.last + 1, 0, m, nb⟩ := fun x hx => by
  rcases List.mem_append.1 hx with hx | hx
  ·exact .inl hx
  ·exact .inr (List.mem_singleton.1 hx)
 have hi := hr.i_lt
 have hla : R.a < h.length := (List.getElem?_eq_some_iff.1 hr.recs).1
 have hlb : R.b < h.length := (List.getElem?_eq_some_iff.1 hr.ids).1
 have hlo := hr.low.1
 refine ⟨e1, e2, e3, fun x hx => ?_, ⟨hr.low.1, hr.low.2.1, hr.low.2.2.1, fun x hx => ?_⟩, ⟨hr.apart.1, hr.apart.2.1, hr.apart.2.2.1, fun x hx => ?_⟩, ?_, hlt⟩
 ·rcases hmem x hx with h1 | h1
  ·have h2 := hr.apart.2.2.2 x h1
   rw [hk _ (hr.box_lt h1) h2.1 h2.2.1 h2.2.2]; exact hr.at_ x h1
  ·subst h1; exact e4
 ·rcases hmem x hx with h1 | h1
  ·exact hr.low.2.2.2 x h1
  ·subst h1; show lo <= nb; omega
 ·rcases hmem x hx with h1 | h1
  ·exact hr.apart.2.2.2 x h1
  ·subst h1; exact ⟨by show nb ≠ i; omega, by show nb ≠ R.a; omega, by show nb ≠ R.b; omega⟩
 ·show ((R.l ++ [_]).map Sl.box).Nodup
  rw [List.map_append, List.nodup_append]
  refine ⟨hr.boxes, by simp, fun a ha b hb => ?_⟩
  obtain ⟨y, hy, rfl⟩ := List.mem_map.1 ha
  have := hr.box_lt hy
  simp at hb
  omega
theorem gadd_c (hr : RegAt lo h i R) {n : Nat} (ho : RgOk n R) (hn : n <= 1000) (m : Sm) (hk : keyable m = true) (hs : R.findS m = none) (hb : (keyB m).length <= 100000) : ∃ h', Contract Tryz.prog 47 [.box i 0, .v (.string (strB (keyB m)))] h (.v (.int .i64 ((R.last + 1 : Nat) : Int))) h' (R.touch i) /\ RegAt lo h' i (R.add m (h.length + 1)) /\ h.length + 1 < h'.length /\ (∀ k < h.length, k ∉ R.touch i -> h'[k]? = h[k]?) /\ (plainH h -> plainH h') := by
 have hi := hr.i_lt
 have hla : R.a < h.length := (List.getElem?_eq_some_iff.1 hr.recs).1
 have hlb : R.b < h.length := (List.getElem?_eq_some_iff.1 hr.ids).1
 have e1 := hr.top
 have e2 := hr.recs
 have e3 := hr.ids
 have e4 := recs_of R
 have e5 := ents_of R
 have e6 := ents_keys R.l
 have e7 := recs_keys R.l
 rw [Rg.top_mk] at e1
 have hg : ∀ {k : Nat} (xs : List (List AV)), k < h.length -> (h ++ xs)[k]? = h[k]? := fun xs hk => List.getElem?_append_left hk
 have hf : R.find ((R.last + 1 : Nat) : Int) = none := by
  unfold Rg.find
  refine List.find?_eq_none.2 fun x hx => ?_
  have := (ho.ids x hx).2
  simp
  omega
 have hp1 : AEnt.put (.int .i64 ((R.last : Int) + 1)) R.last [.box (h.length + 1) 0] (R.l.map Sl.recE) = ((R.add m (h.length + 1)).l.map Sl.recE, R.last + 1) := by
  rw [show ((R.last : Int) + 1) = ((R.last + 1 : Nat) : Int) by omega, put_map_new _ _ (recs_eq _ R.l) hf]
  simp [Rg.add, Sl.recE]
 have hp2 : AEnt.put (.string (strB (keyB m))) R.last [.v (.int .i64 ((R.last : Int) + 1))] (R.l.map Sl.ent) = ((R.add m (h.length + 1)).l.map Sl.ent, R.last + 1) := by
  rw [put_map_new _ _ (ents_eq m ho.key) hs]
  simp [Rg.add, Sl.ent]
 obtain ⟨H1, h1⟩ : ∃ H1, H1 = h.set i [.mp R.a 1 true, .mp R.b 1 true, .v (.int .i64 ((R.last : Int) + 1))] := ⟨_, rfl⟩
 obtain ⟨H2, h2⟩ : ∃ H2, H2 = H1 ++ [smC m, [.v (.string (strB m.text)), .sl 1 (enc intC m.oids) none .no, .v (.int .i64 0)]] := ⟨_, rfl⟩
 obtain ⟨H3, h3⟩ : ∃ H3, H3 = H2.set R.a (mapC (R.last + 1) ((R.add m (h.length + 1)).l.map Sl.recE)) := ⟨_, rfl⟩
 obtain ⟨H4, h4⟩ : ∃ H4, H4 = H3.set R.b (mapC (R.last + 1) ((R.add m (h.length + 1)).l.map Sl.ent)) := ⟨_, rfl⟩
 have hl1 : H1.length = h.length := by rw [h1]; simp
 have hl4 : H4.length = h.length + 2 := by rw [h4, List.length_set, h3, List.length_set, h2, List.length_append, hl1]; rfl
 have hlt : ltLL H4.length H4 := by
  rw [hl4, h4, h3, h2, h1]
  refine ltLL_set (ltLL_set (ltLL_append.2 ⟨ltLL_set (ltLL_mono (by omega) hr.lt) ?_, ?_⟩) (recs_lt _ fun y hy => ?_)) (ents_lt _ _ _)
  ·simp; omega
  ·simp [smC_mk]
  ·rcases List.mem_append.1 hy with hy | hy
   ·have := hr.box_lt hy; omega
   ·rw [List.mem_singleton.1 hy]; show h.length + 1 < _; omega
 have hlow : ∀ k < h.length, k ≠ i -> k ≠ R.a -> k ≠ R.b -> H4[k]? = h[k]? := fun k hk n1 n2 n3 => by
  rw [h4, List.getElem?_set_ne (Ne.symm n3), h3, List.getElem?_set_ne (Ne.symm n2), h2, List.getElem?_append_left (by omega), h1, List.getElem?_set_ne (Ne.symm n1)]
 refine ⟨H4, ?_, hr.add ho m (Nat.le_succ _) ?_ ?_ ?_ ?_ hlow hlt, by omega, fun k hk hn => ?_, fun hp => ?_⟩
 ·refine contract_of k47 mixed (by simp [c47]) fun hh hargs => ?_
  have hw : IntKind.i64.wrap ((R.last : Int) + 1) = (R.last : Int) + 1 := wrap64 (by have := ho.last; omega) (by have := ho.last; omega)
  simp [c47]
  refine xcall_self (by simp) (ksplit_c (keyB m) hb _) ?_
  have g1 : ∀ xs, (h ++ xs)[i]? = some [.mp R.a 1 true, .mp R.b 1 true, .v (.int .i64 (R.last : Int))] := fun xs => by rw [hg xs hi]; exact e1
  have s1 : ∀ xs c, (h ++ xs).set i c = h.set i c ++ xs := fun xs c => List.set_append_left _ _ hi
  have g2 : H1[i]? = some [.mp R.a 1 true, .mp R.b 1 true, .v (.int .i64 ((R.last : Int) + 1))] := by rw [h1]; exact List.getElem?_set_self hi
  have g3 : ∀ xs, (H1 ++ xs)[i]? = some [.mp R.a 1 true, .mp R.b 1 true, .v (.int .i64 ((R.last : Int) + 1))] := fun xs => by rw [List.getElem?_append_left (by omega)]; exact g2
  have g4 : ∀ xs, (H1 ++ xs)[R.a]? = some (mapC R.last (R.l.map Sl.recE)) := fun xs => by rw [List.getElem?_append_left (by omega), h1, List.getElem?_set_ne hr.apart.1]; exact e2
  have g5 : ∀ x xs, ((H1 ++ xs).set R.a x)[R.b]? = some (mapC R.last (R.l.map Sl.ent)) := fun x xs => by rw [List.getElem?_set_ne hr.apart.2.2.1, List.getElem?_append_left (by omega), h1, List.getElem?_set_ne hr.apart.2.1]; exact e3
  have g6 : ∀ x xs, ((H1 ++ xs).set R.a x)[i]? = some [.mp R.a 1 true, .mp R.b 1 true, .v (.int .i64 ((R.last : Int) + 1))] := fun x xs => by rw [List.getElem?_set_ne (Ne.symm hr.apart.1)]; exact g3 xs
  have g7 : ∀ x y xs, (((H1 ++ xs).set R.a x).set R.b y)[i]? = some [.mp R.a 1 true, .mp R.b 1 true, .v (.int .i64 ((R.last : Int) + 1))] := fun x y xs => by rw [List.getElem?_set_ne (Ne.symm hr.apart.2.1)]; exact g6 x xs
  simp [splitK_keyB hk, smC_mk, g1, s1, hi, hw, <- h1, g2, g3, g4, g5, g6, g7, hl1]
  simp [e4, e5, e6, e7, hp1, hp2]
  have e8 : H4 = ((H1 ++ [[AV.v (Value.string (strB m.text)), AV.sl 1 (enc intC m.oids) none .no], [AV.v (Value.string (strB m.text)), AV.sl 1 (enc intC m.oids) none .no, AV.v (Value.int IntKind.i64 0)]]).set R.a (mapC (R.last + 1) ((R.add m (h.length + 1)).l.map Sl.recE))).set R.b (mapC (R.last + 1) ((R.add m (h.length + 1)).l.map Sl.ent)) := by rw [h4, h3, h2, smC_mk]
  rw [<- e8]
  refine ⟨by omega, by omega, leqH_take rfl, hlt, by simp [Rg.touch]⟩
 ·rw [h4, List.getElem?_set_ne (Ne.symm hr.apart.2.1), h3, List.getElem?_set_ne (Ne.symm hr.apart.1), h2, List.getElem?_append_left (by omega), h1, List.getElem?_set_self hi, Rg.top_mk]
  simp [Rg.add]
 ·rw [h4, List.getElem?_set_ne (Ne.symm hr.apart.2.2.1), h3, List.getElem?_set_self (by rw [h2, List.length_append]; omega)]
  rfl
 ·rw [h4, List.getElem?_set_self (by rw [h3, List.length_set, h2, List.length_append]; omega)]
  rfl
 ·rw [h4, List.getElem?_set_ne (by omega), h3, List.getElem?_set_ne (by omega), h2, List.getElem?_append_right (by omega), hl1]
  simp
 ·simp [Rg.touch] at hn
  exact hlow k hk hn.1 hn.2.1 hn.2.2.1
 ·rw [h4, h3, h2, h1]
  refine plainH_set (plainH_set (plainH_append (plainH_set hp ?_ _) ?_) (recs_plain _ _) _) (ents_plain _ _) _
  ·intro c hc; simp at hc; rcases hc with rfl | rfl | rfl <;> rfl
  ·intro x hx c hc
   simp [smC_mk] at hx
   rcases hx with rfl | rfl <;> simp at hc
   ·rcases hc with rfl | rfl <;> rfl
   ·rcases hc with rfl | rfl | rfl <;> rfl
end
def Rg.putS (R : Rg) (m : Sm) (nb : Nat) : Rg := match R.findS m with
 | some s => R.upd s.id (s.refs + 1)
 | none => (R.add m nb).upd (R.last + 1) 1
def Rg.put (R : Rg) (m : Sm) (nb : Nat) : Rg := if keyable m = true then R.putS m nb else R
def Rg.putId (R : Rg) (m : Sm) : Nat := if keyable m = true then (match R.findS m with
 | some s => s.id
 | none => R.last + 1) else 0
theorem find_id {n : Nat} {R : Rg} (ho : RgOk n R) {s : Sl} (hs : s ∈ R.l) : R.find (s.id : Int) = some s := by
 cases hf : R.find (s.id : Int) with
 | none =>
  unfold Rg.find at hf
  have := List.find?_eq_none.1 hf s hs
  simp at this
 | some t =>
  have := find_mem hf
  rw [map_inj_mem ho.idsN this.1 hs (by omega)]
section
variable {lo : Nat} {h : List (List AV)} {i : Nat} {R : Rg}
theorem add_nodup {n : Nat} (ho : RgOk n R) (m : Sm) (nb : Nat) : ((R.add m nb).l.map Sl.id).Nodup := by
 show ((R.l ++ [_]).map Sl.id).Nodup
 rw [List.map_append, List.nodup_append]
 refine ⟨ho.idsN, by simp, fun a ha b hb => ?_⟩
 obtain ⟨y, hy, rfl⟩ := List.mem_map.1 ha
 have := (ho.ids y hy).2
 simp at hb
 omega
theorem add_find {n : Nat} (ho : RgOk n R) (m : Sm) (nb : Nat) : (R.add m nb).find ((R.last + 1 : Nat) : Int) = some ⟨R.last + 1, 0, m, nb⟩ := by
 cases hf : (R.add m nb).find ((R.last + 1 : Nat) : Int) with
 | none =>
  unfold Rg.find at hf
  have := List.find?_eq_none.1 hf ⟨R.last + 1, 0, m, nb⟩ (List.mem_append.2 (.inr (List.mem_singleton.2 rfl)))
  simp at this
 | some t =>
  have h1 := find_mem hf
  congr 1
  exact map_inj_mem (add_nodup ho m nb) h1.1 (List.mem_append.2 (.inr (List.mem_singleton.2 rfl))) (by have := h1.2; show t.id = R.last + 1; omega)
theorem keyB_size {m : Sm} (hm : fewK m = true) : (keyB m).length <= 100000 := by have := keyB_len hm; omega
theorem gput_c (hr : RegAt lo h i R) {n : Nat} (ho : RgOk n R) (hn : n <= 1000) (m : Sm) (hl : m.oids.length <= 140737488355328) (hb : (keyB m).length <= 100000) : Does 21 [.box i 0, .agg (smC m)] lo h i R (.v (.int .i64 (R.putId m : Int))) (R.put m (h.length + 2)) := by
 have hi := hr.i_lt
 have hla : R.a < h.length := (List.getElem?_eq_some_iff.1 hr.recs).1
 have hlb : R.b < h.length := (List.getElem?_eq_some_iff.1 hr.ids).1
 have e1 := hr.top
 have e2 := hr.recs
 have e3 := hr.ids
 have e4 := recs_of R
 have e5 := ents_of R
 have e6 := ents_keys R.l
 have e7 := recs_keys R.l
 have e8 := ent_found R m ho.key
 rw [Rg.top_mk] at e1
 have hg : ∀ {k : Nat} (xs : List (List AV)), k < h.length -> (h ++ xs)[k]? = h[k]? := fun xs hk => List.getElem?_append_left hk
 have g1 : ∀ xs, (h ++ xs)[i]? = some [.mp R.a 1 true, .mp R.b 1 true, .v (.int .i64 (R.last : Int))] := fun xs => by rw [hg xs hi]; exact e1
 have g2 : ∀ xs, (h ++ xs)[R.a]? = some (mapC R.last (R.l.map Sl.recE)) := fun xs => by rw [hg xs hla]; exact e2
 have g3 : ∀ xs, (h ++ xs)[R.b]? = some (mapC R.last (R.l.map Sl.ent)) := fun xs => by rw [hg xs hlb]; exact e3
 cases hk : keyable m with
 | false =>
  have hp : R.put m (h.length + 2) = R := by unfold Rg.put; rw [hk]; rfl
  have hq : R.putId m = 0 := by unfold Rg.putId; rw [hk]; rfl
  rw [hp, hq]
  refine ⟨h, ?_, hr, Nat.le_refl _, fun _ _ _ => rfl, fun h => h⟩
  refine contract_of k21 mixed (by simp [c21]) fun hh hargs => ?_
  simp [c21, g1]
  refine xcall_self (by simp) (kof_c m hl _) ?_
  rw [keyB_none hk]
  simp [hh]
 | true =>
  have hne : (keyB m).isEmpty = false := by
   have h2 := keyB_some hk
   cases hq : keyB m with
   | nil => exact absurd hq h2
   | cons _ _ => rfl
  cases hs : R.findS m with
  | some s =>
   have hm := (findS_mem hs).1
   have hp : R.put m (h.length + 2) = R.upd s.id (s.refs + 1) := by unfold Rg.put Rg.putS; rw [hk, hs]; rfl
   have hq : R.putId m = s.id := by unfold Rg.putId; rw [hk, hs]; rfl
   rw [hp, hq]
   refine ⟨h.set s.box ({ s with refs := s.refs + 1 } : Sl).cells, ?_, hr.upd ho.idsN hm _, by simp, fun k _ hk => ?_, fun hp => plainH_set hp (Sl.cells_plain _) _⟩
   ·have hb1 := hr.box_lt hm
    have hc := hr.at_ s hm
    have hrf := (ho.refs s hm).2
    rw [Sl.cells_mk] at hc
    have g4 : ∀ xs, (h ++ xs)[s.box]? = some [.v (.string (strB s.st.text)), .sl 1 (enc intC s.st.oids) none .no, .v (.int .i64 (s.refs : Int))] := fun xs => by rw [hg xs hb1]; exact hc
    have e9 := rec_found R (s.id : Int)
    rw [find_id ho hm] at e9
    have hw : IntKind.i64.wrap ((s.refs : Int) + 1) = (s.refs : Int) + 1 := wrap64 (by omega) (by omega)
    refine contract_of k21 mixed (by simp [c21]) fun hh hargs => ?_
    simp [c21, g1]
    refine xcall_self (by simp) (kof_c m hl _) ?_
    simp [hne, g1, g2, g3, g4, e4, e5, e6, e7, e8, hs, idOfS]
    simp [g1, g2, g3, g4, e4, e5, e6, e7, e9, ptrOf]
    refine ⟨?_, ltLL_set hh (Sl.cells_lt _ _), fun _ => by simp [Rg.touch]; exact .inr (.inr (.inr ⟨s, hm, rfl⟩))⟩
    rw [List.set_append_left _ _ hb1, List.take_append_of_le_length (by simp), hw]
    exact leqH_take (by simp)
   ·rw [List.getElem?_set_ne]
    intro e
    exact hk (by rw [<- e]; simp [Rg.touch]; exact .inr (.inr (.inr ⟨s, hm, rfl⟩)))
  | none =>
   have hp : R.put m (h.length + 2) = (R.add m (h.length + 2)).upd (R.last + 1) 1 := by unfold Rg.put Rg.putS; rw [hk, hs]; rfl
   have hq : R.putId m = R.last + 1 := by unfold Rg.putId; rw [hk, hs]; rfl
   rw [hp, hq]
   have hr0 : RegAt lo (h ++ [smC m]) i R := hr.app _ (by simp [smC_mk])
   obtain ⟨h', hC, hA, hL, hK, hP⟩ := gadd_c hr0 ho hn m hk hs hb
   have ha2 : (h ++ [smC m]).length + 1 = h.length + 2 := by simp
   rw [ha2] at hA
   have hf := add_find ho m (h.length + 2)
   have hm := (find_mem hf).1
   have hU := hA.upd (add_nodup ho m (h.length + 2)) hm 1
   refine ⟨_, ?_, hU, by simp at hL ⊢; omega, fun k hk hn => ?_, fun hp => plainH_set (hP (plainH_append hp fun x hx c hc => by rw [List.mem_singleton.1 hx, smC_mk] at hc; simp at hc; rcases hc with rfl | rfl <;> rfl)) (Sl.cells_plain _) _⟩
   ·have a1 := hA.top
    have a2 := hA.recs
    have a4 := recs_of (R.add m (h.length + 2))
    have a5 := recs_keys (R.add m (h.length + 2)).l
    have a6 := rec_found (R.add m (h.length + 2)) ((R.last + 1 : Nat) : Int)
    have a7 := hA.at_ _ hm
    rw [hf] at a6
    have hcast : ((R.last + 1 : Nat) : Int) = (R.last : Int) + 1 := by omega
    rw [hcast] at a6
    rw [Rg.top_mk] at a1
    rw [Sl.cells_mk] at a7
    have a8 : h'.length ≥ h.length := by simp at hL; omega
    refine contract_of k21 mixed (by simp [c21]) fun hh hargs => ?_
    simp [c21, g1]
    refine xcall_self (by simp) (kof_c m hl _) ?_
    simp [hne, g1, g2, g3, e4, e5, e6, e7, e8, hs, idOfS]
    refine xcall_self (by simp) hC ?_
    have hw1 : IntKind.i64.wrap 1 = 1 := wrap64 (by omega) (by omega)
    have hcs : ({ id := R.last + 1, refs := 1, st := m, box := h.length + 2 } : Sl).cells = [.v (.string (strB m.text)), .sl 1 (enc intC m.oids) none .no, .v (.int .i64 1)] := rfl
    have hlt' := hU.lt
    rw [List.length_set] at hlt'
    simp [a1, a2, a4, a5, a6, a7, ptrOf, hw1, hcs]
    exact ⟨a8, hlt', fun _ ha _ => ha⟩
   ·rw [List.getElem?_set_ne (by show h.length + 2 ≠ k; omega), hK k (by simp; omega) hn]
    exact List.getElem?_append_left hk
end
theorem upd_mem {R : Rg} {id k : Nat} {x : Sl} (hx : x ∈ (R.upd id k).l) : ∃ y ∈ R.l, x.id = y.id /\ x.st = y.st /\ x.box = y.box /\ (x.refs = k \/ (x.refs = y.refs /\ y.id ≠ id)) := by
 obtain ⟨y, hy, rfl⟩ := List.mem_map.1 hx
 refine ⟨y, hy, ?_⟩
 split
 ·exact ⟨rfl, rfl, rfl, .inl rfl⟩
 ·rename_i e; exact ⟨rfl, rfl, rfl, .inr ⟨rfl, e⟩⟩
theorem RgOk.mono {n n' : Nat} {R : Rg} (ho : RgOk n R) (h : n <= n') : RgOk n' R := ⟨ho.rise, ho.ids, fun s hs => ⟨(ho.refs s hs).1, Nat.le_trans (ho.refs s hs).2 h⟩, ho.key, ho.one, ho.short, Nat.le_trans ho.last h⟩
theorem RgOk.upd {n n' : Nat} {R : Rg} (ho : RgOk n R) (h : n <= n') (id : Nat) {k : Nat} (h1 : 1 <= k) (h2 : k <= n') : RgOk n' (R.upd id k) := by
 refine ⟨by rw [Rg.upd_ids]; exact ho.rise, fun x hx => ?_, fun x hx => ?_, fun x hx => ?_, by rw [Rg.upd_sts]; exact ho.one, fun x hx => ?_, Nat.le_trans ho.last h⟩ <;> obtain ⟨y, hy, e1, e2, _, e3⟩ := upd_mem hx
 ·rw [e1]; exact ho.ids y hy
 ·rcases e3 with e3 | e3
  ·rw [e3]; exact ⟨h1, h2⟩
  ·rw [e3.1]; exact ⟨(ho.refs y hy).1, Nat.le_trans (ho.refs y hy).2 h⟩
 ·rw [e2]; exact ho.key y hy
 ·rw [e2]; exact ho.short y hy
theorem RgOk.ref {n : Nat} {R : Rg} (ho : RgOk n R) (id : Int) : RgOk (n + 1) (R.ref id) := by
 unfold Rg.ref
 cases hs : R.find id with
 | none => exact ho.mono (Nat.le_succ _)
 | some s => exact ho.upd (Nat.le_succ _) _ (by omega) (by have := (ho.refs s (find_mem hs).1).2; omega)
theorem RgOk.put {n : Nat} {R : Rg} (ho : RgOk n R) (m : Sm) (hm : m.text.length <= 1000 /\ m.oids.length <= 1000) (nb : Nat) : RgOk (n + 1) (R.put m nb) := by
 unfold Rg.put
 by_cases hk : keyable m = true
 ·rw [if_pos hk]
  unfold Rg.putS
  cases hs : R.findS m with
  | some s => exact ho.upd (Nat.le_succ _) _ (by omega) (by have := (ho.refs s (findS_mem hs).1).2; omega)
  | none =>
   show RgOk (n + 1) ((R.add m nb).upd (R.last + 1) 1)
   have hl := ho.last
   have hmem : ∀ x ∈ (R.add m nb).l, x ∈ R.l \/ x = ⟨R.last + 1, 0, m, nb⟩ := fun x hx => by
    rcases List.mem_append.1 hx with hx | hx
    ·exact .inl hx
    ·exact .inr (List.mem_singleton.1 hx)
   refine ⟨?_, fun x hx => ?_, fun x hx => ?_, fun x hx => ?_, ?_, fun x hx => ?_, by show R.last + 1 <= n + 1; omega⟩
   ·rw [Rg.upd_ids]
    show ((R.l ++ [_]).map Sl.id).Pairwise _
    rw [List.map_append, List.pairwise_append]
    refine ⟨ho.rise, by simp, fun a ha b hb => ?_⟩
    obtain ⟨y, hy, rfl⟩ := List.mem_map.1 ha
    have := (ho.ids y hy).2
    simp at hb
    omega
   ·obtain ⟨y, hy, e1, e2, _, e3⟩ := upd_mem hx
    rw [e1]
    show 1 <= y.id /\ y.id <= R.last + 1
    rcases hmem y hy with h | h
    ·have := ho.ids y h; omega
    ·subst h; show 1 <= R.last + 1 /\ R.last + 1 <= R.last + 1; omega
   ·obtain ⟨y, hy, e1, e2, _, e3⟩ := upd_mem hx
    rcases e3 with e3 | e3
    ·omega
    ·rcases hmem y hy with h | h
     ·have := ho.refs y h; omega
     ·subst h; exact absurd rfl e3.2
   ·obtain ⟨y, hy, e1, e2, _, e3⟩ := upd_mem hx
    rw [e2]
    rcases hmem y hy with h | h
    ·exact ho.key y h
    ·subst h; exact hk
   ·rw [Rg.upd_sts]
    show ((R.l ++ [_]).map Sl.st).Nodup
    rw [List.map_append, List.nodup_append]
    refine ⟨ho.one, by simp, fun a ha b hb => ?_⟩
    obtain ⟨y, hy, rfl⟩ := List.mem_map.1 ha
    have hb : b = m := by simpa using hb
    subst hb
    unfold Rg.findS at hs
    have := List.find?_eq_none.1 hs y hy
    simpa using this
   ·obtain ⟨y, hy, e1, e2, _, e3⟩ := upd_mem hx
    rw [e2]
    rcases hmem y hy with h | h
    ·exact ho.short y h
    ·subst h; exact hm
 ·rw [if_neg hk]; exact ho.mono (Nat.le_succ _)
theorem findS_st {n : Nat} {R : Rg} (ho : RgOk n R) {s : Sl} (hs : s ∈ R.l) : R.findS s.st = some s := by
 cases hf : R.findS s.st with
 | none =>
  unfold Rg.findS at hf
  have := List.find?_eq_none.1 hf s hs
  simp at this
 | some t =>
  have := findS_mem hf
  rw [map_inj_mem ho.one this.1 hs this.2]
def slC (s : Sl) : List AV := [.v (.int .i64 (s.id : Int)), .v (.int .i64 (s.refs : Int)), .v (.string (strB s.st.text)), .sl 1 (enc intC s.st.oids) none .no]
def lisA (b : Nat) (l : List Sl) : AV := if l = [] then .sl 0 [] (some true) .exact else .bsl b 0 4 l.length
structure XAt (lo : Nat) (h : List (List AV)) (i b : Nat) (R : Rg) : Prop where
 top : h[i]? = some [lisA b R.l, .v (.int .i64 (R.last : Int))]
 list : R.l ≠ [] -> h[b]? = some (enc slC R.l).flatten
 low : lo <= i /\ lo <= b
 apart : i ≠ b
 lt : ltLL h.length h
theorem XAt.move {lo : Nat} {h : List (List AV)} {i b : Nat} {R : Rg} (hr : XAt lo h i b R) {h' : List (List AV)} (hi : h'[i]? = h[i]?) (hb : R.l ≠ [] -> h'[b]? = h[b]?) (hlt : ltLL h'.length h') : XAt lo h' i b R :=
 ⟨hi.trans hr.top, fun hne => (hb hne).trans (hr.list hne), hr.low, hr.apart, hlt⟩
theorem XAt.app {lo : Nat} {h : List (List AV)} {i b : Nat} {R : Rg} (hr : XAt lo h i b R) (xs : List (List AV)) (hx : ltLL (h.length + xs.length) xs) : XAt lo (h ++ xs) i b R :=
 hr.move (List.getElem?_append_left (List.getElem?_eq_some_iff.1 hr.top).1) (fun hne => List.getElem?_append_left (List.getElem?_eq_some_iff.1 (hr.list hne)).1) (by rw [ltLL_append, List.length_append]; exact ⟨ltLL_mono (Nat.le_add_right _ _) hr.lt, hx⟩)
theorem slC_len (s : Sl) : (slC s).length = 4 := rfl
theorem encS_len (l : List Sl) : (enc slC l).flatten.length = 4 * l.length := by
 induction l with
 | nil => rfl
 | cons x l ih =>
  have e : enc slC (x :: l) = slC x :: enc slC l := rfl
  rw [e, List.flatten_cons, List.length_append, ih, slC_len, List.length_cons]; omega
theorem encS_at : ∀ {l : List Sl} {j q : Nat} (hj : j < l.length) (hq : q < 4), (enc slC l).flatten[4 * j + q]? = (slC l[j])[q]?
 | x :: l, 0, q, _, hq => by
  have e : enc slC (x :: l) = slC x :: enc slC l := rfl
  rw [e, List.flatten_cons, List.getElem?_append_left (by rw [slC_len]; omega)]
  simp
 | x :: l, j + 1, q, hj, hq => by
  have e : enc slC (x :: l) = slC x :: enc slC l := rfl
  rw [e, List.flatten_cons, List.getElem?_append_right (by rw [slC_len]; omega), slC_len, show 4 * (j + 1) + q - 4 = 4 * j + q by omega]
  rw [encS_at (by simpa using hj) hq]
  simp
theorem rise_inj {n : Nat} {R : Rg} (ho : RgOk n R) {j k : Nat} (hj : j < R.l.length) (hk : k < R.l.length) (e : R.l[j].id = R.l[k].id) : j = k := by
 have h := List.pairwise_iff_getElem.1 ho.rise
 rcases Nat.lt_trichotomy j k with h1 | h1 | h1
 ·have := h j k (by simpa using hj) (by simpa using hk) h1
  simp at this; omega
 ·exact h1
 ·have := h k j (by simpa using hk) (by simpa using hj) h1
  simp at this; omega
inductive PlI (R : Rg) (id : Int) : Int -> Option Sl -> Prop
 | at_ (k : Nat) (hk : k < R.l.length) (he : (R.l[k].id : Int) = id) : PlI R id (k : Int) (some R.l[k])
 | none (h : ∀ s ∈ R.l, ¬ (s.id : Int) = id) : PlI R id (-1) none
theorem pl_find {n : Nat} {R : Rg} (ho : RgOk n R) (id : Int) : ∃ v, PlI R id v (R.find id) := by
 cases hf : R.find id with
 | none =>
  unfold Rg.find at hf
  exact ⟨-1, .none fun s hs => by have := List.find?_eq_none.1 hf s hs; simpa using this⟩
 | some s =>
  obtain ⟨h1, h2⟩ := find_mem hf
  obtain ⟨k, hk, e⟩ := List.getElem_of_mem h1
  subst e
  exact ⟨k, .at_ k hk h2⟩
section
variable {lo : Nat} {h : List (List AV)} {i b : Nat} {R : Rg}
theorem xplace_c (hr : XAt lo h i b R) {n : Nat} (ho : RgOk n R) (hn : R.l.length <= 1000) {id v : Int} {o : Option Sl} (hv : PlI R id v o) : Contract Tryz.prog 43 [.box i 0, .v (.int .i64 id)] h (.v (.int .i64 v)) h [] := by
 have h1 := hr.top
 refine contract_of k43 mixed (by simp [c43]) fun hh hargs => ?_
 simp [c43]
 refine xloop_ok (D := Nat) (fun j => ⟨[(0, .box i 0), (1, .v (.int .i64 id)), (5, .v (.int .i64 (j : Int)))], [], h, []⟩) (fun j => j <= R.l.length /\ (∀ q (hq : q < R.l.length), q < j -> ¬ (R.l[q].id : Int) = id)) (fun j => R.l.length - j) 0 ⟨by omega, fun q hq h => by omega⟩ ?_ ?_
 ·have hi := (List.getElem?_eq_some_iff.1 h1).1
  simp [Leq, hh, leqH_take, hi]
  done
 ·rintro j ⟨hj, hno⟩
  by_cases hlt : j < R.l.length
  ·have hne : R.l ≠ [] := fun e => by rw [e] at hlt; cases hlt
   have h2 := hr.list hne
   have hlis : lisA b R.l = .bsl b 0 4 R.l.length := by unfold lisA; rw [if_neg hne]
   rw [hlis] at h1
   have hc0 : (enc slC R.l).flatten[j * 4]? = some (.v (.int .i64 (R.l[j].id : Int))) := by
    have := encS_at hlt (q := 0) (by omega)
    rw [Nat.add_zero, Nat.mul_comm] at this
    rw [this]; rfl
   have hw : IntKind.i64.wrap ((j : Int) + 1) = (j : Int) + 1 := wrap64 (by omega) (by omega)
   by_cases e : (R.l[j].id : Int) = id
   ·have hvj : v = (j : Int) := by
     cases hv with
     | at_ k hk he => rw [rise_inj ho hk hlt (by omega)]
     | none hh => exact absurd e (hh _ (List.getElem_mem hlt))
    simp [h1, h2, hlt, hc0, e, hvj, hh]
    done
   ·simp [h1, h2, hlt, hc0, e, hw]
    refine ⟨j + 1, ⟨by omega, fun q hq hqj => ?_⟩, by omega, ?_⟩
    ·rcases Nat.lt_succ_iff_lt_or_eq.1 hqj with h3 | h3
     ·exact hno q hq h3
     ·subst h3; exact e
    ·have hi := (List.getElem?_eq_some_iff.1 hr.top).1
     simp [Leq, hh, leqH_take, hi]
  ·have : j = R.l.length := by omega
   subst this
   have hp : v = -1 := by
    cases hv with
    | at_ k hk he => exact absurd he (hno k hk hk)
    | none hh => rfl
   subst hp
   by_cases hl : R.l = []
   ·have hlis : lisA b R.l = .sl 0 [] (some true) .exact := by unfold lisA; rw [if_pos hl]
    rw [hlis] at h1
    simp [h1, hh, hl]
    done
   ·have hlis : lisA b R.l = .bsl b 0 4 R.l.length := by unfold lisA; rw [if_neg hl]
    rw [hlis] at h1
    simp [h1, hh]
    done
theorem XAt.el (hr : XAt lo h i b R) {k : Nat} (hk : k < R.l.length) : h[i]? = some [.bsl b 0 4 R.l.length, .v (.int .i64 (R.last : Int))] /\ h[b]? = some (enc slC R.l).flatten /\ (enc slC R.l).flatten[k * 4]? = some (.v (.int .i64 (R.l[k].id : Int))) /\ (enc slC R.l).flatten[k * 4 + 1]? = some (.v (.int .i64 (R.l[k].refs : Int))) /\ (enc slC R.l).flatten.length = 4 * R.l.length := by
 have hne : R.l ≠ [] := fun e => by rw [e] at hk; cases hk
 have h1 := hr.top
 have hlis : lisA b R.l = .bsl b 0 4 R.l.length := by unfold lisA; rw [if_neg hne]
 rw [hlis] at h1
 have e0 := encS_at hk (q := 0) (by omega)
 have e1 := encS_at hk (q := 1) (by omega)
 rw [Nat.add_zero, Nat.mul_comm] at e0
 rw [Nat.mul_comm] at e1
 exact ⟨h1, hr.list hne, e0, e1, encS_len _⟩
theorem encS_st {l : List Sl} {k : Nat} (hk : k < l.length) : ((enc slC l).flatten.drop (k * 4 + 2)).take 2 = smC l[k].st := by
 have e2 := encS_at hk (q := 2) (by omega)
 have e3 := encS_at hk (q := 3) (by omega)
 have hl := encS_len l
 rw [Nat.mul_comm] at e2 e3
 refine List.ext_getElem? fun j => ?_
 rw [smC_mk]
 rcases j with _ | _ | j
 ·rw [List.getElem?_take_of_lt (by omega), List.getElem?_drop, Nat.add_zero, e2]; rfl
 ·rw [List.getElem?_take_of_lt (by omega), List.getElem?_drop, show k * 4 + 2 + (0 + 1) = k * 4 + 3 by omega, e3]; rfl
 ·rw [List.getElem?_eq_none (by rw [List.length_take]; omega), List.getElem?_eq_none (by simp)]
end
theorem encS_set : ∀ {l : List Sl} {k : Nat} (hk : k < l.length) (m : Nat), (enc slC l).flatten.set (k * 4 + 1) (.v (.int .i64 (m : Int))) = (enc slC (l.set k { l[k] with refs := m })).flatten
 | x :: l, 0, _, m => by
  have e : enc slC (x :: l) = slC x :: enc slC l := rfl
  rw [e, List.flatten_cons, List.set_append_left _ _ (by rw [slC_len]; omega)]
  rfl
 | x :: l, k + 1, hk, m => by
  have e : enc slC (x :: l) = slC x :: enc slC l := rfl
  rw [e, List.flatten_cons, List.set_append_right _ _ (by rw [slC_len]; omega), slC_len, show (k + 1) * 4 + 1 - 4 = k * 4 + 1 by omega, encS_set (by simpa using hk) m]
  rfl
theorem upd_set {n : Nat} {R : Rg} (ho : RgOk n R) {k : Nat} (hk : k < R.l.length) (m : Nat) : R.l.set k { R.l[k] with refs := m } = (R.upd R.l[k].id m).l := by
 unfold Rg.upd
 refine List.ext_getElem (by simp) fun j h1 h2 => ?_
 rw [List.getElem_set, List.getElem_map]
 have hj : j < R.l.length := by simpa using h1
 by_cases e : k = j
 ·subst e; simp
 ·rw [if_neg e, if_neg (fun e2 => e (rise_inj ho hj hk e2).symm)]
def DoesX (f : FuncId) (args : List AV) (lo : Nat) (h : List (List AV)) (i b : Nat) (R : Rg) (r : AV) (R' : Rg) : Prop :=
 ∃ h' b', Contract Tryz.prog f args h r h' [i, b] /\ XAt lo h' i b' R' /\ (b' = b \/ h.length <= b') /\ h.length <= h'.length /\ (∀ k < h.length, k ≠ i -> k ≠ b -> h'[k]? = h[k]?) /\ (plainH h -> plainH h')
theorem slC_lt (n : Nat) (l : List Sl) : ltL n (enc slC l).flatten := ltL_of fun j c hj => by
 obtain ⟨e, he, hc⟩ := List.mem_flatten.1 (List.mem_of_getElem? hj)
 obtain ⟨s, _, rfl⟩ := List.mem_map.1 he
 simp [slC] at hc
 rcases hc with rfl | rfl | rfl | rfl <;> simp
theorem slC_plain (l : List Sl) : ∀ c ∈ (enc slC l).flatten, c.idOf = none := fun c hc => by
 obtain ⟨e, he, hc⟩ := List.mem_flatten.1 hc
 obtain ⟨s, _, rfl⟩ := List.mem_map.1 he
 simp [slC] at hc
 rcases hc with rfl | rfl | rfl | rfl <;> rfl
section
variable {lo : Nat} {h : List (List AV)} {i b : Nat} {R : Rg}
theorem XAt.upd (hr : XAt lo h i b R) {n : Nat} (ho : RgOk n R) {k : Nat} (hk : k < R.l.length) (m : Nat) : XAt lo (h.set b (enc slC (R.upd R.l[k].id m).l).flatten) i b (R.upd R.l[k].id m) := by
 obtain ⟨e1, e2, _⟩ := hr.el hk
 have hlen : (R.upd R.l[k].id m).l.length = R.l.length := by unfold Rg.upd; simp
 have hne : (R.upd R.l[k].id m).l ≠ [] := fun e => by rw [e] at hlen; simp at hlen; omega
 refine ⟨?_, fun _ => List.getElem?_set_self (List.getElem?_eq_some_iff.1 e2).1, hr.low, hr.apart, ?_⟩
 ·rw [List.getElem?_set_ne (Ne.symm hr.apart), e1]
  unfold lisA
  rw [if_neg hne, hlen]
  rfl
 ·rw [List.length_set]; exact ltLL_set hr.lt (slC_lt _ _)
theorem xref_c (hr : XAt lo h i b R) {n : Nat} (ho : RgOk n R) (hn : R.l.length <= 1000) (hn2 : n <= 1000) (id : Int) : DoesX 50 [.box i 0, .v (.int .i64 id)] lo h i b R (.v (.bool (R.find id).isSome)) (R.ref id) := by
 obtain ⟨v, hv⟩ := pl_find ho id
 unfold Rg.ref
 generalize R.find id = o at *
 cases hv with
 | at_ k hk he =>
  obtain ⟨e1, e2, e3, e4, e5⟩ := hr.el hk
  have hrf := (ho.refs R.l[k] (List.getElem_mem hk)).2
  refine ⟨_, b, ?_, hr.upd ho hk (R.l[k].refs + 1), .inl rfl, by simp, fun q _ _ hq => List.getElem?_set_ne (Ne.symm hq), fun hp => plainH_set hp (slC_plain _) _⟩
  refine contract_of k50 mixed (by simp [c50]) fun hh hargs => ?_
  simp [c50]
  refine xcall_self (by simp) (xplace_c hr ho hn (.at_ k hk he)) ?_
  have hw : IntKind.i64.wrap ((R.l[k].refs : Int) + 1) = ((R.l[k].refs + 1 : Nat) : Int) := by rw [wrap64 (by omega) (by omega)]; omega
  have e6 := encS_set hk (R.l[k].refs + 1)
  rw [upd_set ho hk, show ((R.l[k].refs + 1 : Nat) : Int) = (R.l[k].refs : Int) + 1 by omega] at e6
  rw [show ((R.l[k].refs + 1 : Nat) : Int) = (R.l[k].refs : Int) + 1 by omega] at hw
  have e7 : (List.map List.length (enc slC R.l)).sum = 4 * R.l.length := by rw [<- List.length_flatten]; exact e5
  have e8 : k * 4 + 1 + 1 <= 4 * R.l.length := by omega
  have e9 : ¬ (k : Int) < 0 := by omega
  simp [e1, e2, e4, hk, hh, hw, e7, e8, e6, e9]
  exact .inl (slC_lt _ _)
 | none hno =>
  refine ⟨h, b, ?_, hr, .inl rfl, Nat.le_refl _, fun _ _ _ _ => rfl, fun h => h⟩
  refine contract_of k50 mixed (by simp [c50]) fun hh hargs => ?_
  simp [c50]
  refine xcall_self (by simp) (xplace_c hr ho hn (.none hno)) ?_
  simp [hh]
  done
end
section
variable {lo : Nat} {h : List (List AV)} {i b : Nat} {R : Rg}
theorem xfindS_c (hr : XAt lo h i b R) {n : Nat} (ho : RgOk n R) (hn : R.l.length <= 1000) (m : Sm) : Contract Tryz.prog 49 [.box i 0, .agg (smC m)] h (.tup [.v (.int .i64 (idOfS (R.findS m) : Int)), .v (.bool (R.findS m).isSome)]) h [] := by
 have hr2 : XAt lo (h ++ [smC m]) i b R := hr.app _ (by simp [smC_mk])
 have hi := (List.getElem?_eq_some_iff.1 hr.top).1
 refine contract_of k49 mixed (by simp [c49]) fun hh hargs => ?_
 simp [c49]
 refine xloop_ok (D := Nat) (fun j => ⟨[(0, .box i 0), (3, .box h.length 0), (6, .v (.int .i64 (j : Int)))], [], h ++ [smC m], []⟩) (fun j => j <= R.l.length /\ (∀ q (hq : q < R.l.length), q < j -> ¬ R.l[q].st = m)) (fun j => R.l.length - j) 0 ⟨by omega, fun q hq h => by omega⟩ ?_ ?_
 ·simp [Leq, hh, leqH_take, hi, smC_mk, ltLL_mono (Nat.le_add_right h.length 1) hh]
  omega
 ·rintro j ⟨hj, hno⟩
  by_cases hlt : j < R.l.length
  ·obtain ⟨e1, e2, e3, e4, e5⟩ := hr2.el hlt
   have e6 := encS_st hlt
   have e7 : (List.map List.length (enc slC R.l)).sum = 4 * R.l.length := by rw [<- List.length_flatten]; exact e5
   have e8 : j * 4 + 2 + 2 <= 4 * R.l.length := by omega
   have hb := (List.getElem?_eq_some_iff.1 (hr.el hlt).2.1).1
   have hne : ¬ b = h.length := by omega
   have hw : IntKind.i64.wrap ((j : Int) + 1) = (j : Int) + 1 := wrap64 (by omega) (by omega)
   have hsh := (ho.short R.l[j] (List.getElem_mem hlt)).2
   simp [e1, e2, hlt, e6, e7, e8]
   refine xcall_self (by simp) (krsame_c R.l[j].st m (by omega) _) ?_
   rw [sameK_eq]
   by_cases e : R.l[j].st = m
   ·have hf : R.findS m = some R.l[j] := by have := findS_st ho (List.getElem_mem hlt); rw [e] at this; exact this
    simp [e, e1, e2, e3, hlt, hf, idOfS, hh]
    done
   ·simp [e, hw]
    refine ⟨j + 1, ⟨by omega, fun q hq hqj => ?_⟩, by omega, ?_⟩
    ·rcases Nat.lt_succ_iff_lt_or_eq.1 hqj with h3 | h3
     ·exact hno q hq h3
     ·subst h3; exact e
    ·simp [Leq, hh, leqH_take, hi, smC_mk, ltLL_mono (Nat.le_add_right h.length 1) hh]
     omega
  ·have : j = R.l.length := by omega
   subst this
   have hf : R.findS m = none := by
    unfold Rg.findS
    refine List.find?_eq_none.2 fun s hs => ?_
    obtain ⟨q, hq, rfl⟩ := List.getElem_of_mem hs
    simpa using hno q hq hq
   have h1 := hr2.top
   by_cases hl : R.l = []
   ·have hlis : lisA b R.l = .sl 0 [] (some true) .exact := by unfold lisA; rw [if_pos hl]
    rw [hlis] at h1
    simp [h1, hh, hl, hf, idOfS]
    done
   ·have hlis : lisA b R.l = .bsl b 0 4 R.l.length := by unfold lisA; rw [if_neg hl]
    rw [hlis] at h1
    simp [h1, hh, hf, idOfS]
    done
theorem add_upd {n : Nat} {R : Rg} (ho : RgOk n R) (m : Sm) (nb : Nat) : ((R.add m nb).upd (R.last + 1) 1).l = R.l ++ [⟨R.last + 1, 1, m, nb⟩] := by
 show (R.l ++ [_]).map _ = _
 rw [List.map_append]
 congr 1
 ·have : ∀ x ∈ R.l, (if x.id = R.last + 1 then { x with refs := 1 } else x) = x := fun x hx => by
   rw [if_neg (by have := (ho.ids x hx).2; omega)]
  exact (List.map_congr_left this).trans (List.map_id _)
 ·simp
theorem xput_c (hr : XAt lo h i b R) {n : Nat} (ho : RgOk n R) (hn : R.l.length <= 1000) (hn2 : n <= 1000) (m : Sm) (hl : m.oids.length <= 1000) (nb : Nat) : DoesX 22 [.box i 0, .agg (smC m)] lo h i b R (.v (.int .i64 (R.putId m : Int))) (R.put m nb) := by
 have hr2 : XAt lo (h ++ [smC m]) i b R := hr.app _ (by simp [smC_mk])
 have hi := (List.getElem?_eq_some_iff.1 hr.top).1
 cases hk : keyable m with
 | false =>
  have hp : R.put m nb = R := by unfold Rg.put; rw [hk]; rfl
  have hq : R.putId m = 0 := by unfold Rg.putId; rw [hk]; rfl
  rw [hp, hq]
  refine ⟨h, b, ?_, hr, .inl rfl, Nat.le_refl _, fun _ _ _ _ => rfl, fun h => h⟩
  refine contract_of k22 mixed (by simp [c22]) fun hh hargs => ?_
  simp [c22]
  refine xcall_self (by simp) (krof_c m (by omega) _) ?_
  rw [keyB_none hk]
  simp [hh]
  done
 | true =>
  have hne : (keyB m).isEmpty = false := by
   have h2 := keyB_some hk
   cases hq : keyB m with
   | nil => exact absurd hq h2
   | cons _ _ => rfl
  cases hs : R.findS m with
  | some s =>
   have hm := (findS_mem hs).1
   have hp : R.put m nb = R.ref (s.id : Int) := by unfold Rg.put Rg.putS Rg.ref; rw [hk, hs, find_id ho hm]; rfl
   have hq : R.putId m = s.id := by unfold Rg.putId; rw [hk, hs]; rfl
   rw [hp, hq]
   obtain ⟨h', b', ct, hx, hb', hle, hsame, hpl⟩ := xref_c hr2 ho hn hn2 (s.id : Int)
   refine ⟨h', b', ?_, hx, ?_, by simp at hle; omega, fun k hk n1 n2 => by rw [hsame k (by simp; omega) n1 n2]; exact List.getElem?_append_left hk, fun hp => hpl (plainH_append hp fun x hx c hc => by rw [List.mem_singleton.1 hx, smC_mk] at hc; simp at hc; rcases hc with rfl | rfl <;> rfl)⟩
   ·refine contract_of k22 mixed (by simp [c22]) fun hh hargs => ?_
    simp [c22]
    refine xcall_self (by simp) (krof_c m (by omega) _) ?_
    simp [hne]
    refine xcall_self (by simp) (xfindS_c hr2 ho hn m) ?_
    rw [hs]
    simp [idOfS]
    refine xcall_self (by simp) ct ?_
    have := hx.lt
    simp at hle
    simp [this, leqH_take]
    omega
   ·rcases hb' with h1 | h1
    ·exact .inl h1
    ·right; simp at h1; omega
  | none =>
   have hp : R.put m nb = (R.add m nb).upd (R.last + 1) 1 := by unfold Rg.put Rg.putS; rw [hk, hs]; rfl
   have hq : R.putId m = R.last + 1 := by unfold Rg.putId; rw [hk, hs]; rfl
   rw [hp, hq]
   have hid : ¬ h.length = i := by omega
   have g1 : ∀ xs, (h ++ xs)[i]? = some [lisA b R.l, .v (.int .i64 (R.last : Int))] := fun xs => by rw [List.getElem?_append_left hi]; exact hr.top
   have s1 : ∀ xs c, (h ++ xs).set i c = h.set i c ++ xs := fun xs c => List.set_append_left _ _ hi
   have hw : IntKind.i64.wrap ((R.last : Int) + 1) = (R.last : Int) + 1 := wrap64 (by have := ho.last; omega) (by have := ho.last; omega)
   obtain ⟨H1, h1⟩ : ∃ H1, H1 = h.set i [lisA b R.l, .v (.int .i64 ((R.last : Int) + 1))] := ⟨_, rfl⟩
   have hl1 : H1.length = h.length := by rw [h1]; simp
   have g2 : ∀ xs, (H1 ++ xs)[i]? = some [lisA b R.l, .v (.int .i64 ((R.last : Int) + 1))] := fun xs => by rw [List.getElem?_append_left (by omega), h1]; exact List.getElem?_set_self hi
   have g3 : ∀ xs, (H1 ++ smC m :: xs)[h.length]? = some (smC m) := fun xs => by rw [List.getElem?_append_right (by omega), hl1]; simp
   simp only [smC_mk] at g3
   have hsl : slC ⟨R.last + 1, 1, m, nb⟩ = [.v (.int .i64 ((R.last : Int) + 1)), .v (.int .i64 1), .v (.string (strB m.text)), .sl 1 (enc intC m.oids) none .no] := by simp [slC]
   have hfin : ∀ h' : List (List AV), h'[i]? = some [.bsl (h.length + 1) 0 4 (R.l.length + 1), .v (.int .i64 ((R.last : Int) + 1))] -> h'[h.length + 1]? = some ((enc slC R.l).flatten ++ slC ⟨R.last + 1, 1, m, nb⟩) -> ltLL h'.length h' -> XAt lo h' i (h.length + 1) ((R.add m nb).upd (R.last + 1) 1) := fun h' e1 e2 e3 => by
    have el := add_upd ho m nb
    have hlo := hr.low.1
    have ene : ((R.add m nb).upd (R.last + 1) 1).l ≠ [] := by rw [el]; simp
    refine ⟨?_, fun _ => ?_, ⟨hlo, by omega⟩, by omega, e3⟩
    ·unfold lisA
     rw [if_neg ene, el, e1, List.length_append]
     show _ = some [AV.bsl _ 0 4 (R.l.length + 1), AV.v (.int .i64 ((R.last + 1 : Nat) : Int))]
     rw [show ((R.last + 1 : Nat) : Int) = (R.last : Int) + 1 by omega]
    ·rw [e2, el]
     have : enc slC (R.l ++ [⟨R.last + 1, 1, m, nb⟩]) = enc slC R.l ++ [slC ⟨R.last + 1, 1, m, nb⟩] := by simp [enc]
     rw [this, List.flatten_append]
     simp
   have hb1 : ltLL (h.length + 2) h := ltLL_mono (by omega) hr.lt
   by_cases hL : R.l = []
   ·have hlis : lisA b R.l = .sl 0 [] (some true) .exact := by unfold lisA; rw [if_pos hL]
    rw [hlis] at g1 g2 h1
    have hLt : ltLL (h.length + 2) (h.set i [.bsl (h.length + 1) 0 4 1, .v (.int .i64 ((R.last : Int) + 1))] ++ [smC m, slC ⟨R.last + 1, 1, m, nb⟩]) := ltLL_append.2 ⟨ltLL_set hb1 (by simp), by rw [hsl]; simp [smC_mk]⟩
    refine ⟨h.set i [.bsl (h.length + 1) 0 4 1, .v (.int .i64 ((R.last : Int) + 1))] ++ [smC m, slC ⟨R.last + 1, 1, m, nb⟩], h.length + 1, ?_, ?_, .inr (by omega), by simp, ?_, ?_⟩
    ·refine contract_of k22 mixed (by simp [c22]) fun hh hargs => ?_
     simp [c22]
     refine xcall_self (by simp) (krof_c m (by omega) _) ?_
     simp [hne]
     refine xcall_self (by simp) (xfindS_c hr2 ho hn m) ?_
     rw [hs]
     simp [idOfS, g1, s1, hw, <- h1, g2, g3, smC_mk]
     refine xappendA_own ?_
     simp [g2, g3]
     refine ⟨by omega, by omega, .inr (.inl ⟨_, rfl, by simp, by simp, .inl ⟨.inl rfl, by simp, by simp, ?_⟩⟩)⟩
     have s2 : ∀ xs c, (H1 ++ xs).set i c = h.set i c ++ xs := fun xs c => by rw [List.set_append_left _ _ (by omega), h1, List.set_set]
     have g5 : ∀ xs c, (h.set i c ++ xs)[i]? = some c := fun xs c => by rw [List.getElem?_append_left (by simpa using hi)]; exact List.getElem?_set_self hi
     simp [g2, hl1, s2, g5, hid]
     rw [hsl]
     exact ⟨leqH_refl _ _, ltLL_set hb1 (by simp), by simp⟩
    ·refine hfin _ ?_ ?_ (by simpa using hLt)
     ·rw [List.getElem?_append_left (by simpa using hi), List.getElem?_set_self hi, hL]; rfl
     ·rw [List.getElem?_append_right (by simp), hL]; simp [enc]
    ·intro k hk n1 n2
     rw [List.getElem?_append_left (by simpa using hk), List.getElem?_set_ne (Ne.symm n1)]
    ·intro hp
     refine plainH_append (plainH_set hp (fun c hc => by simp at hc; rcases hc with rfl | rfl <;> rfl) _) ?_
     intro x hx c hc
     rw [hsl, smC_mk] at hx
     simp at hx
     rcases hx with rfl | rfl <;> simp at hc
     ·rcases hc with rfl | rfl <;> rfl
     ·rcases hc with rfl | rfl | rfl | rfl <;> rfl
   ·have hlis : lisA b R.l = .bsl b 0 4 R.l.length := by unfold lisA; rw [if_neg hL]
    rw [hlis] at g1 g2 h1
    have hb := hr.list hL
    have hbl := (List.getElem?_eq_some_iff.1 hb).1
    have g4 : ∀ xs, (H1 ++ xs)[b]? = some (enc slC R.l).flatten := fun xs => by rw [List.getElem?_append_left (by omega), h1, List.getElem?_set_ne hr.apart]; exact hb
    refine ⟨(h.set i [.bsl (h.length + 1) 0 4 (R.l.length + 1), .v (.int .i64 ((R.last : Int) + 1))]).set b [] ++ [smC m, (enc slC R.l).flatten ++ slC ⟨R.last + 1, 1, m, nb⟩], h.length + 1, ?_, ?_, .inr (by omega), by simp, ?_, ?_⟩
    ·refine contract_of k22 mixed (by simp [c22]) fun hh hargs => ?_
     simp [c22]
     refine xcall_self (by simp) (krof_c m (by omega) _) ?_
     simp [hne]
     refine xcall_self (by simp) (xfindS_c hr2 ho hn m) ?_
     rw [hs]
     simp [idOfS, g1, s1, hw, <- h1, g2, g3, smC_mk]
     refine xappendA_own ?_
     simp [g2, g3]
     refine ⟨by omega, by omega, .inr (.inl ⟨_, rfl, by simp, by simp, rfl, _, g4 _, fun e => by have := congrArg List.length e; rw [encS_len] at this; have := List.length_pos_iff.2 hL; simp at *; omega, by rw [encS_len]; omega, slC_plain _, by simp; omega, by simp; omega, ?_⟩)⟩
     have s3 : ∀ xs, (H1 ++ xs).set b [] = H1.set b [] ++ xs := fun xs => List.set_append_left _ _ (by omega)
     have g6 : ∀ xs, (H1.set b [] ++ xs)[i]? = some [.bsl b 0 4 R.l.length, .v (.int .i64 ((R.last : Int) + 1))] := fun xs => by rw [List.getElem?_append_left (by simp; omega), List.getElem?_set_ne (Ne.symm hr.apart), h1]; exact List.getElem?_set_self hi
     have s4 : ∀ xs c, (H1.set b [] ++ xs).set i c = (h.set i c).set b [] ++ xs := fun xs c => by rw [List.set_append_left _ _ (by simp; omega), List.set_comm _ _ (Ne.symm hr.apart), h1, List.set_set]
     have g7 : ∀ xs c, ((h.set i c).set b [] ++ xs)[i]? = some c := fun xs c => by rw [List.getElem?_append_left (by simpa using hi), List.getElem?_set_ne (Ne.symm hr.apart)]; exact List.getElem?_set_self hi
     have n1 : ¬ h.length = b := by omega
     have n2 : ¬ i = b := hr.apart
     simp [hl1, s3, g6, s4, g7, hid, n1, n2]
     rw [hsl, List.take_of_length_le (by simp), List.take_of_length_le (by rw [encS_len]; omega)]
     exact ⟨leqH_refl _ _, ltLL_set (ltLL_set hb1 (by simp)) (by simp), slC_lt _ _, by simp⟩
    ·refine hfin _ ?_ ?_ ?_
     ·rw [List.getElem?_append_left (by simpa using hi), List.getElem?_set_ne (Ne.symm hr.apart), List.getElem?_set_self hi]
     ·rw [List.getElem?_append_right (by simp)]; simp
     ·simp only [List.length_append, List.length_set, List.length_cons, List.length_nil]
      refine ltLL_append.2 ⟨ltLL_set (ltLL_set hb1 (by simp)) (by simp), ?_⟩
      rw [hsl, smC_mk]
      simp
      exact slC_lt _ _
    ·intro k hk n1 n2
     rw [List.getElem?_append_left (by simpa using hk), List.getElem?_set_ne (Ne.symm n2), List.getElem?_set_ne (Ne.symm n1)]
    ·intro hp
     refine plainH_append (plainH_set (plainH_set hp (fun c hc => by simp at hc; rcases hc with rfl | rfl <;> rfl) _) (fun c hc => by simp at hc) _) ?_
     intro x hx c hc
     rw [hsl, smC_mk] at hx
     rcases List.mem_cons.1 hx with rfl | hx
     ·simp at hc; rcases hc with rfl | rfl <;> rfl
     ·rw [List.mem_singleton.1 hx] at hc
      rcases List.mem_append.1 hc with hc | hc
      ·exact slC_plain _ c hc
      ·simp at hc; rcases hc with rfl | rfl | rfl | rfl <;> rfl
end
end Go.Proofs.YtdfgljojemmlcaaGreat.Ax
