/- Which statements a server will have, over values without memory: a list as ops make it. -/
import Derived.Test.YtabfaambilbpeaaQAxX
import Derived.Test.YtabfaambilbpeaaRows
import Derived.Test.YtabfaambilbpeaaQAxLw
/- The texts of functions over values without memory, as the kernel reckons them out of the program. -/
namespace Go.Proofs.Ytabfaambilbpeaa.Ax
open Go.RowKit Go By

def c27 : XFun := ⟨18, (.seq (.ops [⟨(some 2), (.assign (.const (.pointer none))), none⟩, ⟨(some 3), (.assign (.const (.int .i64 0))), none⟩]) (.seq (.ops [⟨(some 7), (.move (.tmp 0)), none⟩, ⟨(some 8), (.call 10 [(.tmp 7)]), none⟩, ⟨(some 6), (.move (.tmp 8)), none⟩, ⟨(some 9), (.extract (.tmp 6) 0), none⟩, ⟨(some 10), (.extract (.tmp 6) 1), none⟩, ⟨(some 4), (.assign (.tmp 9)), none⟩, ⟨(some 5), (.assign (.tmp 10)), none⟩]) (.seq (.seq (.ops [⟨(some 11), (.move (.tmp 5)), none⟩, ⟨(some 12), (.bin .neq (.tmp 11) (.const (.int .i64 0))), none⟩]) (.cond (.tmp 12) (.seq (.ops [⟨(some 13), (.move (.tmp 5)), none⟩, ⟨(some 2), (.assign (.const (.pointer none))), none⟩, ⟨(some 3), (.assign (.tmp 13)), none⟩]) .ret) .skip)) (.seq (.ops [⟨(some 14), (.move (.tmp 4)), none⟩, ⟨(some 15), (.move (.tmp 0)), none⟩, ⟨(some 16), (.build [(.v (.pointer none)), (.v (.int .i64 0))] [(0, (1, (.tmp 14))), (1, (1, (.tmp 15)))]), none⟩, ⟨(some 17), (.box (.tmp 16)), none⟩, ⟨(some 2), (.assign (.tmp 17)), none⟩, ⟨(some 3), (.assign (.const (.int .i64 0))), none⟩]) .ret)))), [(.move (.tmp 2)), (.move (.tmp 3))]⟩
theorem k27 : cfun Try.prog 27 = some c27 := by kernel_rfl
def c32 : XFun := ⟨29, (.seq (.ops [⟨(some 4), (.assign (.const (.slice none 0 0))), none⟩]) (.seq (.seq (.ops [⟨(some 8), (.move (.tmp 0)), none⟩, ⟨(some 9), (.pnileq false (.tmp 8)), none⟩]) (.cond (.tmp 9) (.seq (.ops [⟨(some 4), (.assign (.const (.slice none 0 0))), none⟩]) .ret) .skip)) (.seq (.ops [⟨(some 10), (.move (.tmp 0)), none⟩, ⟨(some 11), (.call 34 [(.tmp 10)]), none⟩, ⟨(some 5), (.assign (.tmp 11)), none⟩]) (.seq (.seq (.ops [⟨(some 12), (.move (.tmp 1)), none⟩, ⟨(some 13), (.lenL (.tmp 12)), none⟩, ⟨(some 14), (.move (.const (.int .i64 0))), none⟩]) (.block 0 (.loop (.seq (.ops [⟨(some 15), (.bin .lss (.tmp 14) (.tmp 13)), none⟩]) (.seq (.cond (.tmp 15) .skip (.exit 0)) (.seq (.block 1 (.seq (.ops [⟨(some 16), (.iaddr 2 (.tmp 12) (.tmp 14)), none⟩, ⟨(some 17), (.loadN 2 (.tmp 16)), none⟩, ⟨(some 7), (.alloc [(.v (.int .i64 0)), (.v (.int .i64 0))]), none⟩, ⟨none, (.store 2 (.tmp 7) (.tmp 17)), none⟩]) (.ops [⟨(some 18), (.move (.tmp 0)), none⟩, ⟨(some 19), (.loadN 2 (.tmp 7)), none⟩, ⟨(some 20), (.call 48 [(.tmp 18), (.tmp 19)]), none⟩]))) (.ops [⟨(some 21), (.bin .add (.tmp 14) (.const (.int .i64 1))), none⟩, ⟨(some 14), (.move (.tmp 21)), none⟩]))))))) (.seq (.ops [⟨(some 22), (.move (.tmp 5)), none⟩, ⟨(some 23), (.move (.tmp 0)), none⟩, ⟨(some 24), (.nilCheck (.tmp 23)), none⟩, ⟨(some 25), (.faddr 0 (.tmp 24)), none⟩, ⟨(some 26), (.load1 (.tmp 25)), none⟩, ⟨(some 27), (.mkfn (.func 22) [(.tmp 26)] []), none⟩, ⟨(some 28), (.call 49 [(.tmp 22), (.tmp 27)]), none⟩, ⟨(some 4), (.assign (.tmp 28)), none⟩]) .ret))))), [(.move (.tmp 4))]⟩
theorem k32 : cfun Try.prog 32 = some c32 := by kernel_rfl
def c48 : XFun := ⟨33, (.seq (.ops [⟨(some 3), (.box (.tmp 1)), none⟩]) (.seq (.ops [⟨(some 4), (.faddr 0 (.tmp 3)), none⟩, ⟨(some 5), (.load1 (.tmp 4)), none⟩]) (.block 0 (.seq (.ops [⟨(some 7), (.bin .eql (.tmp 5) (.const (.int .i64 1))), none⟩, ⟨(some 6), (.assign (.tmp 7)), none⟩]) (.cond (.tmp 6) (.draws (.take ⟨(some 8), (.move (.tmp 0)), none⟩ (.take ⟨(some 9), (.nilCheck (.tmp 8)), none⟩ (.take ⟨(some 10), (.faddr 0 (.tmp 9)), none⟩ (.take ⟨(some 11), (.load1 (.tmp 10)), none⟩ (.take ⟨(some 12), (.faddr 1 (.tmp 3)), none⟩ (.take ⟨(some 13), (.load1 (.tmp 12)), none⟩ (.only ⟨(some 14), (.call 12 [(.tmp 11), (.tmp 13)]), none⟩ .done)))))))) (.seq (.ops [⟨(some 16), (.bin .eql (.tmp 5) (.const (.int .i64 2))), none⟩, ⟨(some 15), (.assign (.tmp 16)), none⟩]) (.cond (.tmp 15) (.draws (.take ⟨(some 17), (.move (.tmp 0)), none⟩ (.take ⟨(some 18), (.nilCheck (.tmp 17)), none⟩ (.take ⟨(some 19), (.faddr 0 (.tmp 18)), none⟩ (.take ⟨(some 20), (.load1 (.tmp 19)), none⟩ (.take ⟨(some 21), (.faddr 1 (.tmp 3)), none⟩ (.take ⟨(some 22), (.load1 (.tmp 21)), none⟩ (.only ⟨(some 23), (.call 16 [(.tmp 20), (.tmp 22)]), none⟩ .done)))))))) (.seq (.ops [⟨(some 25), (.bin .eql (.tmp 5) (.const (.int .i64 3))), none⟩, ⟨(some 24), (.assign (.tmp 25)), none⟩]) (.cond (.tmp 24) (.draws (.take ⟨(some 26), (.move (.tmp 0)), none⟩ (.take ⟨(some 27), (.nilCheck (.tmp 26)), none⟩ (.take ⟨(some 28), (.faddr 0 (.tmp 27)), none⟩ (.take ⟨(some 29), (.load1 (.tmp 28)), none⟩ (.take ⟨(some 30), (.faddr 1 (.tmp 3)), none⟩ (.take ⟨(some 31), (.load1 (.tmp 30)), none⟩ (.only ⟨(some 32), (.call 14 [(.tmp 29), (.tmp 31)]), none⟩ .done)))))))) .skip))))))))), []⟩
theorem k48 : cfun Try.prog 48 = some c48 := by kernel_rfl
def c34 : XFun := ⟨10, (.seq (.ops [⟨(some 2), (.assign (.const (.slice none 0 0))), none⟩]) (.seq (.seq (.ops [⟨(some 3), (.move (.tmp 0)), none⟩, ⟨(some 4), (.pnileq false (.tmp 3)), none⟩]) (.cond (.tmp 4) (.seq (.ops [⟨(some 2), (.assign (.const (.slice none 0 0))), none⟩]) .ret) .skip)) (.seq (.ops [⟨(some 5), (.move (.tmp 0)), none⟩, ⟨(some 6), (.nilCheck (.tmp 5)), none⟩, ⟨(some 7), (.faddr 0 (.tmp 6)), none⟩, ⟨(some 8), (.load1 (.tmp 7)), none⟩, ⟨(some 9), (.call 20 [(.tmp 8)]), none⟩, ⟨(some 2), (.assign (.tmp 9)), none⟩]) .ret))), [(.move (.tmp 2))]⟩
theorem k34 : cfun Try.prog 34 = some c34 := by kernel_rfl
def c37 : XFun := ⟨25, (.seq (.ops [⟨(some 4), (.assign (.const (.slice none 0 0))), none⟩]) (.seq (.seq (.ops [⟨(some 8), (.move (.tmp 0)), none⟩, ⟨(some 9), (.call 39 [(.tmp 8)]), none⟩, ⟨(some 10), (.bin .eql (.tmp 9) (.const (.int .i64 0))), none⟩]) (.cond (.tmp 10) (.seq (.ops [⟨(some 4), (.assign (.const (.slice none 0 0))), none⟩]) .ret) .skip)) (.seq (.ops [⟨(some 11), (.move (.tmp 0)), none⟩, ⟨(some 12), (.call 34 [(.tmp 11)]), none⟩, ⟨(some 5), (.assign (.tmp 12)), none⟩]) (.seq (.seq (.ops [⟨(some 13), (.move (.tmp 1)), none⟩, ⟨(some 14), (.lenL (.tmp 13)), none⟩, ⟨(some 15), (.move (.const (.int .i64 0))), none⟩]) (.block 0 (.loop (.seq (.ops [⟨(some 16), (.bin .lss (.tmp 15) (.tmp 14)), none⟩]) (.seq (.cond (.tmp 16) .skip (.exit 0)) (.seq (.block 1 (.seq (.ops [⟨(some 17), (.iaddr 8 (.tmp 13) (.tmp 15)), none⟩, ⟨(some 18), (.loadN 8 (.tmp 17)), none⟩, ⟨(some 7), (.alloc [(.v (.int .i64 0)), (.v (.bool false)), (.v (.string (strB []))), (.v (.string (strB []))), (.sl 0 [] (some true) .exact), (.sl 0 [] (some true) .exact), (.sl 0 [] (some true) .exact), (.sl 0 [] (some true) .exact)]), none⟩, ⟨none, (.store 8 (.tmp 7) (.tmp 18)), none⟩]) (.ops [⟨(some 19), (.move (.tmp 5)), none⟩, ⟨(some 20), (.faddr 6 (.tmp 7)), none⟩, ⟨(some 21), (.load1 (.tmp 20)), none⟩, ⟨(some 22), (.call 52 [(.tmp 19), (.tmp 21)]), none⟩, ⟨(some 5), (.assign (.tmp 22)), none⟩]))) (.ops [⟨(some 23), (.bin .add (.tmp 15) (.const (.int .i64 1))), none⟩, ⟨(some 15), (.move (.tmp 23)), none⟩]))))))) (.seq (.ops [⟨(some 24), (.move (.tmp 5)), none⟩, ⟨(some 4), (.assign (.tmp 24)), none⟩]) .ret))))), [(.move (.tmp 4))]⟩
theorem k37 : cfun Try.prog 37 = some c37 := by kernel_rfl
def c39 : XFun := ⟨9, (.seq (.ops [⟨(some 2), (.assign (.const (.int .i64 0))), none⟩]) (.seq (.seq (.ops [⟨(some 3), (.move (.tmp 0)), none⟩, ⟨(some 4), (.pnileq false (.tmp 3)), none⟩]) (.cond (.tmp 4) (.seq (.ops [⟨(some 2), (.assign (.const (.int .i64 0))), none⟩]) .ret) .skip)) (.seq (.ops [⟨(some 5), (.move (.tmp 0)), none⟩, ⟨(some 6), (.nilCheck (.tmp 5)), none⟩, ⟨(some 7), (.faddr 1 (.tmp 6)), none⟩, ⟨(some 8), (.load1 (.tmp 7)), none⟩, ⟨(some 2), (.assign (.tmp 8)), none⟩]) .ret))), [(.move (.tmp 2))]⟩
theorem k39 : cfun Try.prog 39 = some c39 := by kernel_rfl
def c35 : XFun := ⟨9, (.seq (.ops [⟨(some 4), (.assign (.const (.slice none 0 0))), none⟩]) (.seq (.ops [⟨(some 5), (.move (.tmp 0)), none⟩, ⟨(some 6), (.call 43 [(.tmp 5)]), none⟩, ⟨(some 7), (.move (.tmp 1)), none⟩, ⟨(some 8), (.call 52 [(.tmp 6), (.tmp 7)]), none⟩, ⟨(some 4), (.assign (.tmp 8)), none⟩]) .ret)), [(.move (.tmp 4))]⟩
theorem k35 : cfun Try.prog 35 = some c35 := by kernel_rfl
def c52 : XFun := ⟨18, (.seq (.ops [⟨(some 4), (.assign (.const (.slice none 0 0))), none⟩]) (.seq (.seq (.ops [⟨(some 7), (.move (.tmp 1)), none⟩, ⟨(some 8), (.lenL (.tmp 7)), none⟩, ⟨(some 9), (.move (.const (.int .i64 0))), none⟩]) (.block 0 (.loop (.seq (.ops [⟨(some 10), (.bin .lss (.tmp 9) (.tmp 8)), none⟩]) (.seq (.cond (.tmp 10) .skip (.exit 0)) (.seq (.block 1 (.seq (.ops [⟨(some 11), (.iaddr 2 (.tmp 7) (.tmp 9)), none⟩, ⟨(some 12), (.loadN 2 (.tmp 11)), none⟩, ⟨(some 6), (.alloc [(.v (.int .i64 0)), (.v (.int .i64 0))]), none⟩, ⟨none, (.store 2 (.tmp 6) (.tmp 12)), none⟩]) (.ops [⟨(some 13), (.move (.tmp 0)), none⟩, ⟨(some 14), (.loadN 2 (.tmp 6)), none⟩, ⟨(some 15), (.call 68 [(.tmp 13), (.tmp 14)]), none⟩, ⟨(some 0), (.assign (.tmp 15)), none⟩]))) (.ops [⟨(some 16), (.bin .add (.tmp 9) (.const (.int .i64 1))), none⟩, ⟨(some 9), (.move (.tmp 16)), none⟩]))))))) (.seq (.ops [⟨(some 17), (.move (.tmp 0)), none⟩, ⟨(some 4), (.assign (.tmp 17)), none⟩]) .ret))), [(.move (.tmp 4))]⟩
theorem k52 : cfun Try.prog 52 = some c52 := by kernel_rfl
def c68 : XFun := ⟨47, (.seq (.ops [⟨(some 3), (.box (.tmp 1)), none⟩, ⟨(some 4), (.assign (.const (.slice none 0 0))), none⟩]) (.seq (.ops [⟨(some 6), (.move (.tmp 0)), none⟩, ⟨(some 7), (.faddr 1 (.tmp 3)), none⟩, ⟨(some 8), (.load1 (.tmp 7)), none⟩, ⟨(some 9), (.call 40 [(.tmp 6), (.tmp 8)]), none⟩, ⟨(some 5), (.assign (.tmp 9)), none⟩]) (.seq (.block 0 (.seq (.ops [⟨(some 11), (.faddr 0 (.tmp 3)), none⟩, ⟨(some 12), (.load1 (.tmp 11)), none⟩, ⟨(some 13), (.bin .eql (.tmp 12) (.const (.int .i64 1))), none⟩, ⟨(some 14), (.move (.tmp 13)), none⟩, ⟨(some 15), (.move (.tmp 5)), (some (14, true))⟩, ⟨(some 16), (.un .not (.tmp 15)), (some (14, true))⟩, ⟨(some 17), (.pick (.tmp 14) (.tmp 16) (.const (.bool false))), none⟩, ⟨(some 10), (.assign (.tmp 17)), none⟩]) (.cond (.tmp 10) (.seq (.ops [⟨(some 18), (.move (.tmp 0)), none⟩, ⟨(some 19), (.faddr 1 (.tmp 3)), none⟩, ⟨(some 20), (.load1 (.tmp 19)), none⟩, ⟨(some 21), (.buildSlice 1 1 [(.v (.int .i64 0))] [(0, (.tmp 20))]), none⟩, ⟨(some 22), (.append 1 8 (.tmp 18) (.tmp 21)), none⟩, ⟨(some 4), (.assign (.tmp 22)), none⟩]) .ret) (.seq (.ops [⟨(some 24), (.faddr 0 (.tmp 3)), none⟩, ⟨(some 25), (.load1 (.tmp 24)), none⟩, ⟨(some 26), (.bin .eql (.tmp 25) (.const (.int .i64 2))), none⟩, ⟨(some 23), (.assign (.tmp 26)), none⟩]) (.cond (.tmp 23) (.seq (.ops [⟨(some 27), (.move (.tmp 0)), none⟩, ⟨(some 28), (.faddr 1 (.tmp 3)), none⟩, ⟨(some 29), (.load1 (.tmp 28)), none⟩, ⟨(some 30), (.call 75 [(.tmp 27), (.tmp 29)]), none⟩, ⟨(some 4), (.assign (.tmp 30)), none⟩]) .ret) (.seq (.ops [⟨(some 32), (.faddr 0 (.tmp 3)), none⟩, ⟨(some 33), (.load1 (.tmp 32)), none⟩, ⟨(some 34), (.bin .eql (.tmp 33) (.const (.int .i64 3))), none⟩, ⟨(some 35), (.move (.tmp 34)), none⟩, ⟨(some 36), (.move (.tmp 5)), (some (35, true))⟩, ⟨(some 37), (.pick (.tmp 35) (.tmp 36) (.const (.bool false))), none⟩, ⟨(some 31), (.assign (.tmp 37)), none⟩]) (.cond (.tmp 31) (.seq (.draws (.take ⟨(some 38), (.move (.tmp 0)), none⟩ (.take ⟨(some 39), (.faddr 1 (.tmp 3)), none⟩ (.take ⟨(some 40), (.load1 (.tmp 39)), none⟩ (.take ⟨(some 42), (.faddr 1 (.tmp 3)), none⟩ (.take ⟨(some 43), (.load1 (.tmp 42)), none⟩ (.two ⟨(some 41), (.call 75 [(.tmp 38), (.tmp 40)]), none⟩ ⟨(some 44), (.buildSlice 1 1 [(.v (.int .i64 0))] [(0, (.tmp 43))]), none⟩ (.only ⟨(some 44), (.buildSlice 1 1 [(.v (.int .i64 0))] [(0, (.tmp 43))]), none⟩ (.only ⟨(some 45), (.append 1 8 (.tmp 41) (.tmp 44)), none⟩ (.take ⟨(some 4), (.assign (.tmp 45)), none⟩ .done))) (.only ⟨(some 41), (.call 75 [(.tmp 38), (.tmp 40)]), none⟩ (.only ⟨(some 45), (.append 1 8 (.tmp 41) (.tmp 44)), none⟩ (.take ⟨(some 4), (.assign (.tmp 45)), none⟩ .done)))))))))) .ret) .skip))))))) (.seq (.ops [⟨(some 46), (.move (.tmp 0)), none⟩, ⟨(some 4), (.assign (.tmp 46)), none⟩]) .ret)))), [(.move (.tmp 4))]⟩
theorem k68 : cfun Try.prog 68 = some c68 := by kernel_rfl
def c75 : XFun := ⟨8, (.seq (.ops [⟨(some 3), (.box (.tmp 1)), none⟩, ⟨(some 4), (.assign (.const (.slice none 0 0))), none⟩]) (.seq (.ops [⟨(some 5), (.move (.tmp 0)), none⟩, ⟨(some 6), (.mkfn (.func 77) [] [(.tmp 3)]), none⟩, ⟨(some 7), (.call 49 [(.tmp 5), (.tmp 6)]), none⟩, ⟨(some 4), (.assign (.tmp 7)), none⟩]) .ret)), [(.move (.tmp 4))]⟩
theorem k75 : cfun Try.prog 75 = some c75 := by kernel_rfl
def c77 : XFun := ⟨7, (.seq (.ops [⟨(some 3), (.assign (.const (.bool false))), none⟩]) (.seq (.ops [⟨(some 4), (.move (.tmp 0)), none⟩, ⟨(some 5), (.load1 (.tmp 1)), none⟩, ⟨(some 6), (.bin .eql (.tmp 4) (.tmp 5)), none⟩, ⟨(some 3), (.assign (.tmp 6)), none⟩]) .ret)), [(.move (.tmp 3))]⟩
theorem k77 : cfun Try.prog 77 = some c77 := by kernel_rfl
def c49 : XFun := ⟨42, (.seq (.ops [⟨(some 4), (.assign (.const (.slice none 0 0))), none⟩]) (.seq (.ops [⟨(some 8), (.move (.tmp 0)), none⟩, ⟨(some 9), (.move (.tmp 1)), none⟩, ⟨(some 10), (.call 66 [(.tmp 8), (.tmp 9)]), none⟩, ⟨(some 5), (.assign (.tmp 10)), none⟩]) (.seq (.seq (.ops [⟨(some 11), (.move (.tmp 5)), none⟩, ⟨(some 12), (.bin .eql (.tmp 11) (.const (.int .i64 (-1)))), none⟩]) (.cond (.tmp 12) (.seq (.ops [⟨(some 13), (.move (.tmp 0)), none⟩, ⟨(some 4), (.assign (.tmp 13)), none⟩]) .ret) .skip)) (.seq (.seq (.ops [⟨(some 14), (.move (.tmp 5)), none⟩, ⟨(some 15), (.bin .add (.tmp 14) (.const (.int .i64 1))), none⟩, ⟨(some 6), (.assign (.tmp 15)), none⟩]) (.block 0 (.loop (.seq (.seq (.ops [⟨(some 16), (.move (.tmp 6)), none⟩, ⟨(some 17), (.move (.tmp 0)), none⟩, ⟨(some 18), (.lenL (.tmp 17)), none⟩, ⟨(some 19), (.bin .lss (.tmp 16) (.tmp 18)), none⟩]) (.cond (.tmp 19) .skip (.exit 0))) (.seq (.block 1 (.seq (.ops [⟨(some 22), (.move (.tmp 0)), none⟩, ⟨(some 23), (.move (.tmp 6)), none⟩, ⟨(some 24), (.iaddr 1 (.tmp 22) (.tmp 23)), none⟩, ⟨(some 25), (.load1 (.tmp 24)), none⟩, ⟨(some 7), (.assign (.tmp 25)), none⟩]) (.seq (.ops [⟨(some 26), (.move (.tmp 1)), none⟩, ⟨(some 27), (.move (.tmp 7)), none⟩, ⟨(some 28), (.callv (.tmp 26) [(.tmp 27)]), none⟩, ⟨(some 29), (.un .not (.tmp 28)), none⟩]) (.cond (.tmp 29) (.seq (.ops [⟨(some 30), (.move (.tmp 0)), none⟩, ⟨(some 31), (.move (.tmp 5)), none⟩, ⟨(some 32), (.move (.tmp 7)), none⟩, ⟨(some 33), (.iaddr 1 (.tmp 30) (.tmp 31)), none⟩, ⟨none, (.store 1 (.tmp 33) (.tmp 32)), none⟩]) (.ops [⟨(some 34), (.move (.tmp 5)), none⟩, ⟨(some 35), (.bin .add (.tmp 34) (.const (.int .i64 1))), none⟩, ⟨(some 5), (.assign (.tmp 35)), none⟩])) .skip)))) (.ops [⟨(some 20), (.move (.tmp 6)), none⟩, ⟨(some 21), (.bin .add (.tmp 20) (.const (.int .i64 1))), none⟩, ⟨(some 6), (.assign (.tmp 21)), none⟩])))))) (.seq (.ops [⟨(some 36), (.move (.tmp 0)), none⟩, ⟨(some 37), (.move (.tmp 5)), none⟩, ⟨(some 38), (.slice 1 (.tmp 36) (some (.tmp 37)) none none), none⟩, ⟨none, (.clearS .i64 0 (.tmp 38)), none⟩]) (.seq (.ops [⟨(some 39), (.move (.tmp 0)), none⟩, ⟨(some 40), (.move (.tmp 5)), none⟩, ⟨(some 41), (.slice 1 (.tmp 39) none (some (.tmp 40)) none), none⟩, ⟨(some 4), (.assign (.tmp 41)), none⟩]) .ret)))))), [(.move (.tmp 4))]⟩
theorem k49 : cfun Try.prog 49 = some c49 := by kernel_rfl
def c43 : XFun := ⟨8, (.seq (.ops [⟨(some 2), (.assign (.const (.slice none 0 0))), none⟩]) (.seq (.seq (.ops [⟨(some 3), (.move (.tmp 0)), none⟩, ⟨(some 4), (.nileq false (.tmp 3)), none⟩]) (.cond (.tmp 4) (.seq (.ops [⟨(some 2), (.assign (.const (.slice none 0 0))), none⟩]) .ret) .skip)) (.seq (.ops [⟨(some 5), (.emptyS 1), none⟩, ⟨(some 6), (.move (.tmp 0)), none⟩, ⟨(some 7), (.append 1 8 (.tmp 5) (.tmp 6)), none⟩, ⟨(some 2), (.assign (.tmp 7)), none⟩]) .ret))), [(.move (.tmp 2))]⟩
theorem k43 : cfun Try.prog 43 = some c43 := by kernel_rfl
def c28 : XFun := ⟨13, (.seq (.ops [⟨(some 2), (.assign (.const (.pointer none))), none⟩, ⟨(some 3), (.assign (.const (.int .i64 0))), none⟩]) (.seq (.seq (.ops [⟨(some 4), (.move (.tmp 0)), none⟩, ⟨(some 5), (.bin .lss (.tmp 4) (.const (.int .i64 1))), none⟩, ⟨(some 6), (.move (.tmp 5)), none⟩, ⟨(some 7), (.move (.tmp 0)), (some (6, false))⟩, ⟨(some 8), (.bin .gtr (.tmp 7) (.const (.int .i64 4096))), (some (6, false))⟩, ⟨(some 9), (.pick (.tmp 6) (.const (.bool true)) (.tmp 8)), none⟩]) (.cond (.tmp 9) (.seq (.ops [⟨(some 2), (.assign (.const (.pointer none))), none⟩, ⟨(some 3), (.assign (.const (.int .i64 1))), none⟩]) .ret) .skip)) (.seq (.ops [⟨(some 10), (.move (.tmp 0)), none⟩, ⟨(some 11), (.build [(.sl 0 [] (some true) .exact), (.v (.int .i64 0))] [(1, (1, (.tmp 10)))]), none⟩, ⟨(some 12), (.box (.tmp 11)), none⟩, ⟨(some 2), (.assign (.tmp 12)), none⟩, ⟨(some 3), (.assign (.const (.int .i64 0))), none⟩]) .ret))), [(.move (.tmp 2)), (.move (.tmp 3))]⟩
theorem k28 : cfun Try.prog 28 = some c28 := by kernel_rfl
def c51 : XFun := ⟨18, (.seq (.ops [⟨(some 4), (.assign (.const (.bool false))), none⟩]) (.seq (.seq (.ops [⟨(some 5), (.assign (.const (.int .i64 0))), none⟩]) (.block 0 (.loop (.seq (.seq (.ops [⟨(some 6), (.move (.tmp 5)), none⟩, ⟨(some 7), (.move (.tmp 0)), none⟩, ⟨(some 8), (.lenL (.tmp 7)), none⟩, ⟨(some 9), (.bin .lss (.tmp 6) (.tmp 8)), none⟩]) (.cond (.tmp 9) .skip (.exit 0))) (.seq (.block 1 (.seq (.ops [⟨(some 12), (.move (.tmp 0)), none⟩, ⟨(some 13), (.move (.tmp 5)), none⟩, ⟨(some 14), (.iaddr 1 (.tmp 12) (.tmp 13)), none⟩, ⟨(some 15), (.load1 (.tmp 14)), none⟩, ⟨(some 16), (.move (.tmp 1)), none⟩, ⟨(some 17), (.bin .eql (.tmp 15) (.tmp 16)), none⟩]) (.cond (.tmp 17) (.seq (.ops [⟨(some 4), (.assign (.const (.bool true))), none⟩]) .ret) .skip))) (.ops [⟨(some 10), (.move (.tmp 5)), none⟩, ⟨(some 11), (.bin .add (.tmp 10) (.const (.int .i64 1))), none⟩, ⟨(some 5), (.assign (.tmp 11)), none⟩])))))) (.seq (.ops [⟨(some 4), (.assign (.const (.bool false))), none⟩]) .ret))), [(.move (.tmp 4))]⟩
theorem k51 : cfun Try.prog 51 = some c51 := by kernel_rfl
def c67 : XFun := ⟨27, (.seq (.ops [⟨(some 4), (.assign (.const (.slice none 0 0))), none⟩]) (.seq (.ops [⟨(some 5), (.assign (.const (.slice none 0 0))), none⟩]) (.seq (.seq (.ops [⟨(some 6), (.assign (.const (.int .i64 0))), none⟩]) (.block 0 (.loop (.seq (.seq (.ops [⟨(some 7), (.move (.tmp 6)), none⟩, ⟨(some 8), (.move (.tmp 0)), none⟩, ⟨(some 9), (.lenL (.tmp 8)), none⟩, ⟨(some 10), (.bin .lss (.tmp 7) (.tmp 9)), none⟩]) (.cond (.tmp 10) .skip (.exit 0))) (.seq (.block 1 (.seq (.ops [⟨(some 13), (.move (.tmp 0)), none⟩, ⟨(some 14), (.move (.tmp 6)), none⟩, ⟨(some 15), (.iaddr 1 (.tmp 13) (.tmp 14)), none⟩, ⟨(some 16), (.load1 (.tmp 15)), none⟩, ⟨(some 17), (.move (.tmp 1)), none⟩, ⟨(some 18), (.bin .neq (.tmp 16) (.tmp 17)), none⟩]) (.cond (.tmp 18) (.ops [⟨(some 19), (.move (.tmp 5)), none⟩, ⟨(some 20), (.move (.tmp 0)), none⟩, ⟨(some 21), (.move (.tmp 6)), none⟩, ⟨(some 22), (.iaddr 1 (.tmp 20) (.tmp 21)), none⟩, ⟨(some 23), (.load1 (.tmp 22)), none⟩, ⟨(some 24), (.buildSlice 1 1 [(.v (.int .i64 0))] [(0, (.tmp 23))]), none⟩, ⟨(some 25), (.append 1 8 (.tmp 19) (.tmp 24)), none⟩, ⟨(some 5), (.assign (.tmp 25)), none⟩]) .skip))) (.ops [⟨(some 11), (.move (.tmp 6)), none⟩, ⟨(some 12), (.bin .add (.tmp 11) (.const (.int .i64 1))), none⟩, ⟨(some 6), (.assign (.tmp 12)), none⟩])))))) (.seq (.ops [⟨(some 26), (.move (.tmp 5)), none⟩, ⟨(some 4), (.assign (.tmp 26)), none⟩]) .ret)))), [(.move (.tmp 4))]⟩
theorem k67 : cfun Try.prog 67 = some c67 := by kernel_rfl
def c50 : XFun := ⟨42, (.seq (.ops [⟨(some 3), (.box (.tmp 1)), none⟩, ⟨(some 4), (.assign (.const (.slice none 0 0))), none⟩]) (.seq (.seq (.ops [⟨(some 5), (.faddr 0 (.tmp 3)), none⟩, ⟨(some 6), (.load1 (.tmp 5)), none⟩]) (.block 0 (.seq (.ops [⟨(some 8), (.bin .eql (.tmp 6) (.const (.int .i64 1))), none⟩, ⟨(some 7), (.assign (.tmp 8)), none⟩]) (.cond (.tmp 7) (.seq (.ops [⟨(some 9), (.move (.tmp 0)), none⟩, ⟨(some 10), (.faddr 1 (.tmp 3)), none⟩, ⟨(some 11), (.load1 (.tmp 10)), none⟩, ⟨(some 12), (.call 51 [(.tmp 9), (.tmp 11)]), none⟩, ⟨(some 13), (.un .not (.tmp 12)), none⟩]) (.cond (.tmp 13) (.seq (.draws (.take ⟨(some 14), (.move (.tmp 0)), none⟩ (.take ⟨(some 16), (.faddr 1 (.tmp 3)), none⟩ (.take ⟨(some 17), (.load1 (.tmp 16)), none⟩ (.two ⟨(some 15), (.append 1 8 (.const (.slice none 0 0)) (.tmp 14)), none⟩ ⟨(some 18), (.buildSlice 1 1 [(.v (.int .i64 0))] [(0, (.tmp 17))]), none⟩ (.only ⟨(some 18), (.buildSlice 1 1 [(.v (.int .i64 0))] [(0, (.tmp 17))]), none⟩ (.only ⟨(some 19), (.append 1 8 (.tmp 15) (.tmp 18)), none⟩ (.take ⟨(some 4), (.assign (.tmp 19)), none⟩ .done))) (.only ⟨(some 15), (.append 1 8 (.const (.slice none 0 0)) (.tmp 14)), none⟩ (.only ⟨(some 19), (.append 1 8 (.tmp 15) (.tmp 18)), none⟩ (.take ⟨(some 4), (.assign (.tmp 19)), none⟩ .done)))))))) .ret) .skip)) (.seq (.ops [⟨(some 21), (.bin .eql (.tmp 6) (.const (.int .i64 2))), none⟩, ⟨(some 20), (.assign (.tmp 21)), none⟩]) (.cond (.tmp 20) (.seq (.ops [⟨(some 22), (.move (.tmp 0)), none⟩, ⟨(some 23), (.faddr 1 (.tmp 3)), none⟩, ⟨(some 24), (.load1 (.tmp 23)), none⟩, ⟨(some 25), (.call 67 [(.tmp 22), (.tmp 24)]), none⟩, ⟨(some 4), (.assign (.tmp 25)), none⟩]) .ret) (.seq (.ops [⟨(some 27), (.bin .eql (.tmp 6) (.const (.int .i64 3))), none⟩, ⟨(some 26), (.assign (.tmp 27)), none⟩]) (.cond (.tmp 26) (.seq (.ops [⟨(some 28), (.move (.tmp 0)), none⟩, ⟨(some 29), (.faddr 1 (.tmp 3)), none⟩, ⟨(some 30), (.load1 (.tmp 29)), none⟩, ⟨(some 31), (.call 51 [(.tmp 28), (.tmp 30)]), none⟩]) (.cond (.tmp 31) (.seq (.draws (.take ⟨(some 32), (.move (.tmp 0)), none⟩ (.take ⟨(some 33), (.faddr 1 (.tmp 3)), none⟩ (.take ⟨(some 34), (.load1 (.tmp 33)), none⟩ (.take ⟨(some 36), (.faddr 1 (.tmp 3)), none⟩ (.take ⟨(some 37), (.load1 (.tmp 36)), none⟩ (.two ⟨(some 35), (.call 67 [(.tmp 32), (.tmp 34)]), none⟩ ⟨(some 38), (.buildSlice 1 1 [(.v (.int .i64 0))] [(0, (.tmp 37))]), none⟩ (.only ⟨(some 38), (.buildSlice 1 1 [(.v (.int .i64 0))] [(0, (.tmp 37))]), none⟩ (.only ⟨(some 39), (.append 1 8 (.tmp 35) (.tmp 38)), none⟩ (.take ⟨(some 4), (.assign (.tmp 39)), none⟩ .done))) (.only ⟨(some 35), (.call 67 [(.tmp 32), (.tmp 34)]), none⟩ (.only ⟨(some 39), (.append 1 8 (.tmp 35) (.tmp 38)), none⟩ (.take ⟨(some 4), (.assign (.tmp 39)), none⟩ .done)))))))))) .ret) .skip)) .skip)))))))) (.seq (.ops [⟨(some 40), (.move (.tmp 0)), none⟩, ⟨(some 41), (.append 1 8 (.const (.slice none 0 0)) (.tmp 40)), none⟩, ⟨(some 4), (.assign (.tmp 41)), none⟩]) .ret))), [(.move (.tmp 4))]⟩
theorem k50 : cfun Try.prog 50 = some c50 := by kernel_rfl
def c36 : XFun := ⟨22, (.seq (.ops [⟨(some 4), (.assign (.const (.slice none 0 0))), none⟩]) (.seq (.ops [⟨(some 7), (.move (.tmp 0)), none⟩, ⟨(some 8), (.append 1 8 (.const (.slice none 0 0)) (.tmp 7)), none⟩, ⟨(some 5), (.assign (.tmp 8)), none⟩]) (.seq (.seq (.ops [⟨(some 6), (.assign (.const (.int .i64 0))), none⟩]) (.block 0 (.loop (.seq (.seq (.ops [⟨(some 9), (.move (.tmp 6)), none⟩, ⟨(some 10), (.move (.tmp 1)), none⟩, ⟨(some 11), (.lenL (.tmp 10)), none⟩, ⟨(some 12), (.bin .lss (.tmp 9) (.tmp 11)), none⟩]) (.cond (.tmp 12) .skip (.exit 0))) (.seq (.block 1 (.ops [⟨(some 15), (.move (.tmp 5)), none⟩, ⟨(some 16), (.move (.tmp 1)), none⟩, ⟨(some 17), (.move (.tmp 6)), none⟩, ⟨(some 18), (.iaddr 2 (.tmp 16) (.tmp 17)), none⟩, ⟨(some 19), (.loadN 2 (.tmp 18)), none⟩, ⟨(some 20), (.call 50 [(.tmp 15), (.tmp 19)]), none⟩, ⟨(some 5), (.assign (.tmp 20)), none⟩])) (.ops [⟨(some 13), (.move (.tmp 6)), none⟩, ⟨(some 14), (.bin .add (.tmp 13) (.const (.int .i64 1))), none⟩, ⟨(some 6), (.assign (.tmp 14)), none⟩])))))) (.seq (.ops [⟨(some 21), (.move (.tmp 5)), none⟩, ⟨(some 4), (.assign (.tmp 21)), none⟩]) .ret)))), [(.move (.tmp 4))]⟩
theorem k36 : cfun Try.prog 36 = some c36 := by kernel_rfl
def c33 : XFun := ⟨73, (.seq (.ops [⟨(some 4), (.assign (.const (.slice none 0 0))), none⟩]) (.seq (.ops [⟨(some 5), (.assign (.const (.slice none 0 0))), none⟩]) (.seq (.ops [⟨(some 9), (.move (.tmp 0)), none⟩, ⟨(some 10), (.nilCheck (.tmp 9)), none⟩, ⟨(some 11), (.faddr 0 (.tmp 10)), none⟩, ⟨(some 12), (.load1 (.tmp 11)), none⟩, ⟨(some 6), (.assign (.tmp 12)), none⟩]) (.seq (.seq (.ops [⟨(some 7), (.assign (.const (.int .i64 0))), none⟩]) (.block 0 (.loop (.seq (.seq (.ops [⟨(some 13), (.move (.tmp 7)), none⟩, ⟨(some 14), (.move (.tmp 1)), none⟩, ⟨(some 15), (.lenL (.tmp 14)), none⟩, ⟨(some 16), (.bin .lss (.tmp 13) (.tmp 15)), none⟩]) (.cond (.tmp 16) .skip (.exit 0))) (.seq (.block 1 (.seq (.seq (.draws (.take ⟨(some 19), (.move (.tmp 1)), none⟩ (.take ⟨(some 20), (.move (.tmp 7)), none⟩ (.take ⟨(some 21), (.iaddr 2 (.tmp 19) (.tmp 20)), none⟩ (.take ⟨(some 22), (.faddr 0 (.tmp 21)), none⟩ (.take ⟨(some 23), (.load1 (.tmp 22)), none⟩ (.take ⟨(some 24), (.bin .eql (.tmp 23) (.const (.int .i64 1))), none⟩ (.take ⟨(some 25), (.move (.tmp 24)), none⟩ (.take ⟨(some 26), (.move (.tmp 0)), (some (25, true))⟩ (.take ⟨(some 27), (.nilCheck (.tmp 26)), (some (25, true))⟩ (.take ⟨(some 28), (.faddr 0 (.tmp 27)), (some (25, true))⟩ (.take ⟨(some 29), (.load1 (.tmp 28)), (some (25, true))⟩ (.take ⟨(some 30), (.lenL (.tmp 29)), (some (25, true))⟩ (.take ⟨(some 31), (.move (.tmp 0)), (some (25, true))⟩ (.take ⟨(some 32), (.nilCheck (.tmp 31)), (some (25, true))⟩ (.take ⟨(some 33), (.faddr 1 (.tmp 32)), (some (25, true))⟩ (.take ⟨(some 34), (.load1 (.tmp 33)), (some (25, true))⟩ (.take ⟨(some 35), (.bin .geq (.tmp 30) (.tmp 34)), (some (25, true))⟩ (.take ⟨(some 36), (.pick (.tmp 25) (.tmp 35) (.const (.bool false))), none⟩ .done))))))))))))))))))) (.cond (.tmp 36) (.exit 1) .skip)) (.draws (.take ⟨(some 37), (.move (.tmp 0)), none⟩ (.take ⟨(some 38), (.move (.tmp 0)), none⟩ (.take ⟨(some 39), (.nilCheck (.tmp 38)), none⟩ (.take ⟨(some 40), (.faddr 0 (.tmp 39)), none⟩ (.take ⟨(some 41), (.load1 (.tmp 40)), none⟩ (.take ⟨(some 42), (.move (.tmp 1)), none⟩ (.take ⟨(some 43), (.move (.tmp 7)), none⟩ (.take ⟨(some 44), (.iaddr 2 (.tmp 42) (.tmp 43)), none⟩ (.take ⟨(some 45), (.loadN 2 (.tmp 44)), none⟩ (.only ⟨(some 46), (.call 50 [(.tmp 41), (.tmp 45)]), none⟩ (.take ⟨(some 47), (.nilCheck (.tmp 37)), none⟩ (.take ⟨(some 48), (.faddr 0 (.tmp 47)), none⟩ (.last ⟨none, (.store 1 (.tmp 48) (.tmp 46)), none⟩)))))))))))))))) (.ops [⟨(some 17), (.move (.tmp 7)), none⟩, ⟨(some 18), (.bin .add (.tmp 17) (.const (.int .i64 1))), none⟩, ⟨(some 7), (.assign (.tmp 18)), none⟩])))))) (.seq (.seq (.ops [⟨(some 8), (.assign (.const (.int .i64 0))), none⟩]) (.block 2 (.loop (.seq (.seq (.ops [⟨(some 49), (.move (.tmp 8)), none⟩, ⟨(some 50), (.move (.tmp 6)), none⟩, ⟨(some 51), (.lenL (.tmp 50)), none⟩, ⟨(some 52), (.bin .lss (.tmp 49) (.tmp 51)), none⟩]) (.cond (.tmp 52) .skip (.exit 2))) (.seq (.block 3 (.seq (.draws (.take ⟨(some 55), (.move (.tmp 0)), none⟩ (.take ⟨(some 56), (.nilCheck (.tmp 55)), none⟩ (.take ⟨(some 57), (.faddr 0 (.tmp 56)), none⟩ (.take ⟨(some 58), (.load1 (.tmp 57)), none⟩ (.take ⟨(some 59), (.move (.tmp 6)), none⟩ (.take ⟨(some 60), (.move (.tmp 8)), none⟩ (.take ⟨(some 61), (.iaddr 1 (.tmp 59) (.tmp 60)), none⟩ (.take ⟨(some 62), (.load1 (.tmp 61)), none⟩ (.only ⟨(some 63), (.call 51 [(.tmp 58), (.tmp 62)]), none⟩ (.take ⟨(some 64), (.un .not (.tmp 63)), none⟩ .done))))))))))) (.cond (.tmp 64) (.ops [⟨(some 65), (.move (.tmp 5)), none⟩, ⟨(some 66), (.move (.tmp 6)), none⟩, ⟨(some 67), (.move (.tmp 8)), none⟩, ⟨(some 68), (.iaddr 1 (.tmp 66) (.tmp 67)), none⟩, ⟨(some 69), (.load1 (.tmp 68)), none⟩, ⟨(some 70), (.buildSlice 1 1 [(.v (.int .i64 0))] [(0, (.tmp 69))]), none⟩, ⟨(some 71), (.append 1 8 (.tmp 65) (.tmp 70)), none⟩, ⟨(some 5), (.assign (.tmp 71)), none⟩]) .skip))) (.ops [⟨(some 53), (.move (.tmp 8)), none⟩, ⟨(some 54), (.bin .add (.tmp 53) (.const (.int .i64 1))), none⟩, ⟨(some 8), (.assign (.tmp 54)), none⟩])))))) (.seq (.ops [⟨(some 72), (.move (.tmp 5)), none⟩, ⟨(some 4), (.assign (.tmp 72)), none⟩]) .ret)))))), [(.move (.tmp 4))]⟩
theorem k33 : cfun Try.prog 33 = some c33 := by kernel_rfl
def c38 : XFun := ⟨26, (.seq (.ops [⟨(some 4), (.assign (.const (.slice none 0 0))), none⟩]) (.seq (.ops [⟨(some 7), (.move (.tmp 0)), none⟩, ⟨(some 8), (.nilCheck (.tmp 7)), none⟩, ⟨(some 9), (.faddr 0 (.tmp 8)), none⟩, ⟨(some 10), (.load1 (.tmp 9)), none⟩, ⟨(some 11), (.append 1 8 (.const (.slice none 0 0)) (.tmp 10)), none⟩, ⟨(some 5), (.assign (.tmp 11)), none⟩]) (.seq (.seq (.ops [⟨(some 6), (.assign (.const (.int .i64 0))), none⟩]) (.block 0 (.loop (.seq (.seq (.ops [⟨(some 12), (.move (.tmp 6)), none⟩, ⟨(some 13), (.move (.tmp 1)), none⟩, ⟨(some 14), (.lenL (.tmp 13)), none⟩, ⟨(some 15), (.bin .lss (.tmp 12) (.tmp 14)), none⟩]) (.cond (.tmp 15) .skip (.exit 0))) (.seq (.block 1 (.ops [⟨(some 18), (.move (.tmp 5)), none⟩, ⟨(some 19), (.move (.tmp 1)), none⟩, ⟨(some 20), (.move (.tmp 6)), none⟩, ⟨(some 21), (.iaddr 8 (.tmp 19) (.tmp 20)), none⟩, ⟨(some 22), (.faddr 6 (.tmp 21)), none⟩, ⟨(some 23), (.load1 (.tmp 22)), none⟩, ⟨(some 24), (.call 36 [(.tmp 18), (.tmp 23)]), none⟩, ⟨(some 5), (.assign (.tmp 24)), none⟩])) (.ops [⟨(some 16), (.move (.tmp 6)), none⟩, ⟨(some 17), (.bin .add (.tmp 16) (.const (.int .i64 1))), none⟩, ⟨(some 6), (.assign (.tmp 17)), none⟩])))))) (.seq (.ops [⟨(some 25), (.move (.tmp 5)), none⟩, ⟨(some 4), (.assign (.tmp 25)), none⟩]) .ret)))), [(.move (.tmp 4))]⟩
theorem k38 : cfun Try.prog 38 = some c38 := by kernel_rfl
def c31 : XFun := ⟨47, (.seq (.ops [⟨(some 0), (.assign (.const (.bool false))), none⟩]) (.seq (.ops [⟨(some 5), (.call 27 [(.const (.int .i64 2))]), none⟩, ⟨(some 4), (.move (.tmp 5)), none⟩, ⟨(some 6), (.extract (.tmp 4) 0), none⟩, ⟨(some 7), (.extract (.tmp 4) 1), none⟩, ⟨(some 1), (.assign (.tmp 6)), none⟩, ⟨(some 2), (.assign (.tmp 7)), none⟩]) (.seq (.seq (.ops [⟨(some 8), (.move (.tmp 1)), none⟩, ⟨(some 9), (.pnileq false (.tmp 8)), none⟩, ⟨(some 10), (.move (.tmp 9)), none⟩, ⟨(some 11), (.move (.tmp 2)), (some (10, false))⟩, ⟨(some 12), (.bin .neq (.tmp 11) (.const (.int .i64 0))), (some (10, false))⟩, ⟨(some 13), (.pick (.tmp 10) (.const (.bool true)) (.tmp 12)), none⟩, ⟨(some 14), (.move (.tmp 13)), none⟩, ⟨(some 15), (.move (.tmp 1)), (some (14, false))⟩, ⟨(some 16), (.build [(.v (.int .i64 0)), (.v (.int .i64 0))] [(0, (1, (.const (.int .i64 1)))), (1, (1, (.const (.int .i64 1))))]), (some (14, false))⟩, ⟨(some 17), (.build [(.v (.int .i64 0)), (.v (.int .i64 0))] [(0, (1, (.const (.int .i64 1)))), (1, (1, (.const (.int .i64 2))))]), (some (14, false))⟩, ⟨(some 18), (.buildSlice 2 2 [(.v (.int .i64 0)), (.v (.int .i64 0))] [(0, (.tmp 16)), (1, (.tmp 17))]), (some (14, false))⟩, ⟨(some 19), (.call 32 [(.tmp 15), (.tmp 18)]), (some (14, false))⟩, ⟨(some 20), (.lenL (.tmp 19)), (some (14, false))⟩, ⟨(some 21), (.bin .neq (.tmp 20) (.const (.int .i64 0))), (some (14, false))⟩, ⟨(some 22), (.pick (.tmp 14) (.const (.bool true)) (.tmp 21)), none⟩]) (.cond (.tmp 22) (.seq (.ops [⟨(some 0), (.assign (.const (.bool false))), none⟩]) .ret) .skip)) (.seq (.ops [⟨(some 23), (.build [(.v (.int .i64 0)), (.v (.int .i64 0))] [(0, (1, (.const (.int .i64 3)))), (1, (1, (.const (.int .i64 1))))]), none⟩, ⟨(some 24), (.build [(.v (.int .i64 0)), (.v (.int .i64 0))] [(0, (1, (.const (.int .i64 2)))), (1, (1, (.const (.int .i64 2))))]), none⟩, ⟨(some 25), (.buildSlice 2 2 [(.v (.int .i64 0)), (.v (.int .i64 0))] [(0, (.tmp 23)), (1, (.tmp 24))]), none⟩, ⟨(some 26), (.build [(.v (.int .i64 0)), (.v (.bool false)), (.v (.string (strB []))), (.v (.string (strB []))), (.sl 0 [] (some true) .exact), (.sl 0 [] (some true) .exact), (.sl 0 [] (some true) .exact), (.sl 0 [] (some true) .exact)] [(6, (1, (.tmp 25)))]), none⟩, ⟨(some 27), (.buildSlice 8 1 [(.v (.int .i64 0)), (.v (.bool false)), (.v (.string (strB []))), (.v (.string (strB []))), (.sl 0 [] (some true) .exact), (.sl 0 [] (some true) .exact), (.sl 0 [] (some true) .exact), (.sl 0 [] (some true) .exact)] [(0, (.tmp 26))]), none⟩, ⟨(some 3), (.assign (.tmp 27)), none⟩]) (.seq (.ops [⟨(some 28), (.move (.tmp 1)), none⟩, ⟨(some 29), (.move (.tmp 3)), none⟩, ⟨(some 30), (.call 37 [(.tmp 28), (.tmp 29)]), none⟩, ⟨(some 31), (.buildSlice 1 1 [(.v (.int .i64 0))] [(0, (.const (.int .i64 1)))]), none⟩, ⟨(some 32), (.call 19 [(.tmp 30), (.tmp 31)]), none⟩, ⟨(some 33), (.move (.tmp 32)), none⟩, ⟨(some 34), (.move (.tmp 1)), (some (33, true))⟩, ⟨(some 35), (.call 34 [(.tmp 34)]), (some (33, true))⟩, ⟨(some 36), (.buildSlice 1 2 [(.v (.int .i64 0))] [(0, (.const (.int .i64 1))), (1, (.const (.int .i64 2)))]), (some (33, true))⟩, ⟨(some 37), (.call 19 [(.tmp 35), (.tmp 36)]), (some (33, true))⟩, ⟨(some 38), (.pick (.tmp 33) (.tmp 37) (.const (.bool false))), none⟩, ⟨(some 39), (.move (.tmp 38)), none⟩, ⟨(some 40), (.buildSlice 1 2 [(.v (.int .i64 0))] [(0, (.const (.int .i64 1))), (1, (.const (.int .i64 2)))]), (some (39, true))⟩, ⟨(some 41), (.build [(.v (.int .i64 0)), (.v (.int .i64 0))] [(0, (1, (.const (.int .i64 3)))), (1, (1, (.const (.int .i64 1))))]), (some (39, true))⟩, ⟨(some 42), (.buildSlice 2 1 [(.v (.int .i64 0)), (.v (.int .i64 0))] [(0, (.tmp 41))]), (some (39, true))⟩, ⟨(some 43), (.call 35 [(.tmp 40), (.tmp 42)]), (some (39, true))⟩, ⟨(some 44), (.buildSlice 1 2 [(.v (.int .i64 0))] [(0, (.const (.int .i64 2))), (1, (.const (.int .i64 1)))]), (some (39, true))⟩, ⟨(some 45), (.call 19 [(.tmp 43), (.tmp 44)]), (some (39, true))⟩, ⟨(some 46), (.pick (.tmp 39) (.tmp 45) (.const (.bool false))), none⟩, ⟨(some 0), (.assign (.tmp 46)), none⟩]) .ret))))), [(.move (.tmp 0))]⟩
theorem k31 : cfun Try.prog 31 = some c31 := by kernel_rfl
def c29 : XFun := ⟨20, (.seq (.ops [⟨(some 2), (.assign (.const (.bool false))), none⟩]) (.seq (.seq (.ops [⟨(some 5), (.move (.tmp 0)), none⟩, ⟨(some 6), (.lenL (.tmp 5)), none⟩, ⟨(some 7), (.move (.const (.int .i64 0))), none⟩]) (.block 0 (.loop (.seq (.ops [⟨(some 8), (.bin .lss (.tmp 7) (.tmp 6)), none⟩]) (.seq (.cond (.tmp 8) .skip (.exit 0)) (.seq (.block 1 (.seq (.ops [⟨(some 9), (.move (.tmp 7)), none⟩, ⟨(some 10), (.iaddr 1 (.tmp 5) (.tmp 7)), none⟩, ⟨(some 11), (.load1 (.tmp 10)), none⟩, ⟨(some 3), (.assign (.tmp 9)), none⟩, ⟨(some 4), (.assign (.tmp 11)), none⟩]) (.seq (.ops [⟨(some 12), (.move (.tmp 3)), none⟩, ⟨(some 13), (.bin .geq (.tmp 12) (.const (.int .i64 40))), none⟩, ⟨(some 14), (.move (.tmp 13)), none⟩, ⟨(some 15), (.move (.tmp 4)), (some (14, false))⟩, ⟨(some 16), (.lenL (.tmp 15)), (some (14, false))⟩, ⟨(some 17), (.bin .gtr (.tmp 16) (.const (.int .i64 10))), (some (14, false))⟩, ⟨(some 18), (.pick (.tmp 14) (.const (.bool true)) (.tmp 17)), none⟩]) (.cond (.tmp 18) (.seq (.ops [⟨(some 2), (.assign (.const (.bool false))), none⟩]) .ret) .skip)))) (.ops [⟨(some 19), (.bin .add (.tmp 7) (.const (.int .i64 1))), none⟩, ⟨(some 7), (.move (.tmp 19)), none⟩]))))))) (.seq (.ops [⟨(some 2), (.assign (.const (.bool true))), none⟩]) .ret))), [(.move (.tmp 2))]⟩
theorem k29 : cfun Try.prog 29 = some c29 := by kernel_rfl
def c6 : XFun := ⟨104, (.seq (.ops [⟨(some 8), (.assign (.const (.bool false))), none⟩]) (.seq (.ops [⟨(some 16), (.move (.tmp 0)), none⟩, ⟨(some 17), (.call 27 [(.tmp 16)]), none⟩, ⟨(some 15), (.move (.tmp 17)), none⟩, ⟨(some 18), (.extract (.tmp 15) 0), none⟩, ⟨(some 19), (.extract (.tmp 15) 1), none⟩, ⟨(some 9), (.assign (.tmp 18)), none⟩, ⟨(some 10), (.assign (.tmp 19)), none⟩]) (.seq (.ops [⟨(some 21), (.move (.tmp 0)), none⟩, ⟨(some 22), (.call 28 [(.tmp 21)]), none⟩, ⟨(some 20), (.move (.tmp 22)), none⟩, ⟨(some 23), (.extract (.tmp 20) 0), none⟩, ⟨(some 24), (.extract (.tmp 20) 1), none⟩, ⟨(some 11), (.assign (.tmp 23)), none⟩, ⟨(some 12), (.assign (.tmp 24)), none⟩]) (.seq (.seq (.ops [⟨(some 25), (.move (.tmp 10)), none⟩, ⟨(some 26), (.move (.tmp 12)), none⟩, ⟨(some 27), (.bin .neq (.tmp 25) (.tmp 26)), none⟩, ⟨(some 28), (.move (.tmp 27)), none⟩, ⟨(some 29), (.move (.tmp 9)), (some (28, false))⟩, ⟨(some 30), (.pnileq false (.tmp 29)), (some (28, false))⟩, ⟨(some 31), (.move (.tmp 11)), (some (28, false))⟩, ⟨(some 32), (.pnileq false (.tmp 31)), (some (28, false))⟩, ⟨(some 33), (.beq true (.tmp 30) (.tmp 32)), (some (28, false))⟩, ⟨(some 34), (.pick (.tmp 28) (.const (.bool true)) (.tmp 33)), none⟩]) (.cond (.tmp 34) (.seq (.ops [⟨(some 8), (.assign (.const (.bool false))), none⟩]) .ret) .skip)) (.seq (.seq (.ops [⟨(some 35), (.move (.tmp 11)), none⟩, ⟨(some 36), (.pnileq false (.tmp 35)), none⟩, ⟨(some 37), (.move (.tmp 36)), none⟩, ⟨(some 38), (.move (.tmp 1)), (some (37, false))⟩, ⟨(some 39), (.call 29 [(.tmp 38)]), (some (37, false))⟩, ⟨(some 40), (.un .not (.tmp 39)), (some (37, false))⟩, ⟨(some 41), (.pick (.tmp 37) (.const (.bool true)) (.tmp 40)), none⟩, ⟨(some 42), (.move (.tmp 41)), none⟩, ⟨(some 43), (.move (.tmp 2)), (some (42, false))⟩, ⟨(some 44), (.call 30 [(.tmp 43), (.const (.int .i64 20))]), (some (42, false))⟩, ⟨(some 45), (.un .not (.tmp 44)), (some (42, false))⟩, ⟨(some 46), (.pick (.tmp 42) (.const (.bool true)) (.tmp 45)), none⟩, ⟨(some 47), (.move (.tmp 46)), none⟩, ⟨(some 48), (.move (.tmp 3)), (some (47, false))⟩, ⟨(some 49), (.lenL (.tmp 48)), (some (47, false))⟩, ⟨(some 50), (.bin .gtr (.tmp 49) (.const (.int .i64 60))), (some (47, false))⟩, ⟨(some 51), (.pick (.tmp 47) (.const (.bool true)) (.tmp 50)), none⟩]) (.cond (.tmp 51) (.seq (.ops [⟨(some 52), (.call 31 []), none⟩, ⟨(some 8), (.assign (.tmp 52)), none⟩]) .ret) .skip)) (.seq (.seq (.ops [⟨(some 53), (.move (.tmp 1)), none⟩, ⟨(some 54), (.lenL (.tmp 53)), none⟩, ⟨(some 55), (.move (.const (.int .i64 0))), none⟩]) (.block 0 (.loop (.seq (.ops [⟨(some 56), (.bin .lss (.tmp 55) (.tmp 54)), none⟩]) (.seq (.cond (.tmp 56) .skip (.exit 0)) (.seq (.block 1 (.seq (.ops [⟨(some 57), (.iaddr 1 (.tmp 53) (.tmp 55)), none⟩, ⟨(some 58), (.load1 (.tmp 57)), none⟩, ⟨(some 14), (.assign (.tmp 58)), none⟩]) (.seq (.draws (.take ⟨(some 59), (.move (.tmp 9)), none⟩ (.take ⟨(some 60), (.move (.tmp 14)), none⟩ (.take ⟨(some 62), (.move (.tmp 11)), none⟩ (.take ⟨(some 63), (.move (.tmp 14)), none⟩ (.only ⟨(some 61), (.call 32 [(.tmp 59), (.tmp 60)]), none⟩ (.only ⟨(some 64), (.call 33 [(.tmp 62), (.tmp 63)]), none⟩ (.only ⟨(some 65), (.call 19 [(.tmp 61), (.tmp 64)]), none⟩ (.take ⟨(some 66), (.un .not (.tmp 65)), none⟩ (.take ⟨(some 67), (.move (.tmp 66)), none⟩ (.take ⟨(some 68), (.move (.tmp 9)), (some (67, false))⟩ (.take ⟨(some 70), (.move (.tmp 11)), (some (67, false))⟩ (.take ⟨(some 71), (.nilCheck (.tmp 70)), (some (67, false))⟩ (.take ⟨(some 72), (.faddr 0 (.tmp 71)), (some (67, false))⟩ (.take ⟨(some 73), (.load1 (.tmp 72)), (some (67, false))⟩ (.only ⟨(some 69), (.call 34 [(.tmp 68)]), (some (67, false))⟩ (.only ⟨(some 74), (.call 19 [(.tmp 69), (.tmp 73)]), (some (67, false))⟩ (.take ⟨(some 75), (.un .not (.tmp 74)), (some (67, false))⟩ (.take ⟨(some 76), (.pick (.tmp 67) (.const (.bool true)) (.tmp 75)), none⟩ (.take ⟨(some 77), (.move (.tmp 76)), none⟩ (.take ⟨(some 78), (.move (.tmp 3)), (some (77, false))⟩ (.take ⟨(some 79), (.move (.tmp 14)), (some (77, false))⟩ (.take ⟨(some 81), (.move (.tmp 3)), (some (77, false))⟩ (.take ⟨(some 82), (.move (.tmp 14)), (some (77, false))⟩ (.only ⟨(some 80), (.call 35 [(.tmp 78), (.tmp 79)]), (some (77, false))⟩ (.only ⟨(some 83), (.call 36 [(.tmp 81), (.tmp 82)]), (some (77, false))⟩ (.only ⟨(some 84), (.call 19 [(.tmp 80), (.tmp 83)]), (some (77, false))⟩ (.take ⟨(some 85), (.un .not (.tmp 84)), (some (77, false))⟩ (.take ⟨(some 86), (.pick (.tmp 77) (.const (.bool true)) (.tmp 85)), none⟩ .done))))))))))))))))))))))))))))) (.cond (.tmp 86) (.seq (.ops [⟨(some 8), (.assign (.const (.bool false))), none⟩]) .ret) .skip)))) (.ops [⟨(some 87), (.bin .add (.tmp 55) (.const (.int .i64 1))), none⟩, ⟨(some 55), (.move (.tmp 87)), none⟩]))))))) (.seq (.ops [⟨(some 88), (.move (.tmp 9)), none⟩, ⟨(some 89), (.move (.tmp 2)), none⟩, ⟨(some 90), (.call 37 [(.tmp 88), (.tmp 89)]), none⟩, ⟨(some 91), (.move (.tmp 11)), none⟩, ⟨(some 92), (.move (.tmp 2)), none⟩, ⟨(some 93), (.call 38 [(.tmp 91), (.tmp 92)]), none⟩, ⟨(some 94), (.call 19 [(.tmp 90), (.tmp 93)]), none⟩, ⟨(some 95), (.move (.tmp 94)), none⟩, ⟨(some 96), (.move (.tmp 9)), (some (95, true))⟩, ⟨(some 97), (.call 39 [(.tmp 96)]), (some (95, true))⟩, ⟨(some 98), (.move (.tmp 0)), (some (95, true))⟩, ⟨(some 99), (.bin .eql (.tmp 97) (.tmp 98)), (some (95, true))⟩, ⟨(some 100), (.pick (.tmp 95) (.tmp 99) (.const (.bool false))), none⟩, ⟨(some 101), (.move (.tmp 100)), none⟩, ⟨(some 102), (.call 31 []), (some (101, true))⟩, ⟨(some 103), (.pick (.tmp 101) (.tmp 102) (.const (.bool false))), none⟩, ⟨(some 8), (.assign (.tmp 103)), none⟩]) .ret))))))), [(.move (.tmp 8))]⟩
theorem k6 : cfun Try.prog 6 = some c6 := by kernel_rfl
def c7 : XFun := ⟨53, (.seq (.ops [⟨(some 4), (.assign (.const (.bool false))), none⟩]) (.seq (.seq (.ops [⟨(some 10), (.move (.tmp 0)), none⟩, ⟨(some 11), (.lenL (.tmp 10)), none⟩, ⟨(some 12), (.bin .gtr (.tmp 11) (.const (.int .i64 60))), none⟩, ⟨(some 13), (.move (.tmp 12)), none⟩, ⟨(some 14), (.move (.tmp 1)), (some (13, false))⟩, ⟨(some 15), (.call 30 [(.tmp 14), (.const (.int .i64 20))]), (some (13, false))⟩, ⟨(some 16), (.un .not (.tmp 15)), (some (13, false))⟩, ⟨(some 17), (.pick (.tmp 13) (.const (.bool true)) (.tmp 16)), none⟩]) (.cond (.tmp 17) (.seq (.ops [⟨(some 18), (.call 31 []), none⟩, ⟨(some 4), (.assign (.tmp 18)), none⟩]) .ret) .skip)) (.seq (.ops [⟨(some 20), (.call 27 [(.const (.int .i64 4096))]), none⟩, ⟨(some 19), (.move (.tmp 20)), none⟩, ⟨(some 21), (.extract (.tmp 19) 0), none⟩, ⟨(some 22), (.extract (.tmp 19) 1), none⟩, ⟨(some 5), (.assign (.tmp 21)), none⟩, ⟨(some 6), (.assign (.tmp 22)), none⟩]) (.seq (.seq (.ops [⟨(some 23), (.move (.tmp 5)), none⟩, ⟨(some 24), (.pnileq false (.tmp 23)), none⟩, ⟨(some 25), (.move (.tmp 24)), none⟩, ⟨(some 26), (.move (.tmp 6)), (some (25, false))⟩, ⟨(some 27), (.bin .neq (.tmp 26) (.const (.int .i64 0))), (some (25, false))⟩, ⟨(some 28), (.pick (.tmp 25) (.const (.bool true)) (.tmp 27)), none⟩]) (.cond (.tmp 28) (.seq (.ops [⟨(some 4), (.assign (.const (.bool false))), none⟩]) .ret) .skip)) (.seq (.ops [⟨(some 29), (.move (.tmp 5)), none⟩, ⟨(some 30), (.move (.tmp 0)), none⟩, ⟨(some 31), (.call 32 [(.tmp 29), (.tmp 30)]), none⟩]) (.seq (.ops [⟨(some 32), (.move (.tmp 5)), none⟩, ⟨(some 33), (.move (.tmp 1)), none⟩, ⟨(some 34), (.call 37 [(.tmp 32), (.tmp 33)]), none⟩, ⟨(some 7), (.assign (.tmp 34)), none⟩]) (.seq (.seq (.ops [⟨(some 35), (.move (.tmp 1)), none⟩, ⟨(some 36), (.lenL (.tmp 35)), none⟩, ⟨(some 37), (.move (.const (.int .i64 0))), none⟩]) (.block 0 (.loop (.seq (.ops [⟨(some 38), (.bin .lss (.tmp 37) (.tmp 36)), none⟩]) (.seq (.cond (.tmp 38) .skip (.exit 0)) (.seq (.block 1 (.seq (.ops [⟨(some 39), (.iaddr 8 (.tmp 35) (.tmp 37)), none⟩, ⟨(some 40), (.loadN 8 (.tmp 39)), none⟩, ⟨(some 9), (.alloc [(.v (.int .i64 0)), (.v (.bool false)), (.v (.string (strB []))), (.v (.string (strB []))), (.sl 0 [] (some true) .exact), (.sl 0 [] (some true) .exact), (.sl 0 [] (some true) .exact), (.sl 0 [] (some true) .exact)]), none⟩, ⟨none, (.store 8 (.tmp 9) (.tmp 40)), none⟩]) (.ops [⟨(some 41), (.move (.tmp 5)), none⟩, ⟨(some 42), (.faddr 6 (.tmp 9)), none⟩, ⟨(some 43), (.load1 (.tmp 42)), none⟩, ⟨(some 44), (.call 32 [(.tmp 41), (.tmp 43)]), none⟩]))) (.ops [⟨(some 45), (.bin .add (.tmp 37) (.const (.int .i64 1))), none⟩, ⟨(some 37), (.move (.tmp 45)), none⟩]))))))) (.seq (.ops [⟨(some 46), (.move (.tmp 5)), none⟩, ⟨(some 47), (.call 34 [(.tmp 46)]), none⟩, ⟨(some 48), (.move (.tmp 7)), none⟩, ⟨(some 49), (.call 19 [(.tmp 47), (.tmp 48)]), none⟩, ⟨(some 50), (.move (.tmp 49)), none⟩, ⟨(some 51), (.call 31 []), (some (50, true))⟩, ⟨(some 52), (.pick (.tmp 50) (.tmp 51) (.const (.bool false))), none⟩, ⟨(some 4), (.assign (.tmp 52)), none⟩]) .ret)))))))), [(.move (.tmp 4))]⟩
theorem k7 : cfun Try.prog 7 = some c7 := by kernel_rfl
def c8 : XFun := ⟨79, (.seq (.ops [⟨(some 4), (.assign (.const (.bool false))), none⟩]) (.seq (.seq (.ops [⟨(some 14), (.move (.tmp 1)), none⟩, ⟨(some 15), (.call 29 [(.tmp 14)]), none⟩, ⟨(some 16), (.un .not (.tmp 15)), none⟩]) (.cond (.tmp 16) (.seq (.ops [⟨(some 17), (.call 31 []), none⟩, ⟨(some 4), (.assign (.tmp 17)), none⟩]) .ret) .skip)) (.seq (.ops [⟨(some 18), (.move (.tmp 0)), none⟩, ⟨(some 19), (.bin .rem (.tmp 18) (.const (.int .u8 9))), none⟩, ⟨(some 20), (.conv .i64 (.tmp 19)), none⟩, ⟨(some 21), (.bin .add (.const (.int .i64 1)) (.tmp 20)), none⟩, ⟨(some 5), (.assign (.tmp 21)), none⟩]) (.seq (.ops [⟨(some 23), (.move (.tmp 5)), none⟩, ⟨(some 24), (.call 27 [(.tmp 23)]), none⟩, ⟨(some 22), (.move (.tmp 24)), none⟩, ⟨(some 25), (.extract (.tmp 22) 0), none⟩, ⟨(some 26), (.extract (.tmp 22) 1), none⟩, ⟨(some 6), (.assign (.tmp 25)), none⟩, ⟨(some 7), (.assign (.tmp 26)), none⟩]) (.seq (.seq (.ops [⟨(some 27), (.move (.tmp 6)), none⟩, ⟨(some 28), (.pnileq false (.tmp 27)), none⟩, ⟨(some 29), (.move (.tmp 28)), none⟩, ⟨(some 30), (.move (.tmp 7)), (some (29, false))⟩, ⟨(some 31), (.bin .neq (.tmp 30) (.const (.int .i64 0))), (some (29, false))⟩, ⟨(some 32), (.pick (.tmp 29) (.const (.bool true)) (.tmp 31)), none⟩]) (.cond (.tmp 32) (.seq (.ops [⟨(some 4), (.assign (.const (.bool false))), none⟩]) .ret) .skip)) (.seq (.seq (.ops [⟨(some 33), (.move (.tmp 1)), none⟩, ⟨(some 34), (.lenL (.tmp 33)), none⟩, ⟨(some 35), (.move (.const (.int .i64 0))), none⟩]) (.block 0 (.loop (.seq (.ops [⟨(some 36), (.bin .lss (.tmp 35) (.tmp 34)), none⟩]) (.seq (.cond (.tmp 36) .skip (.exit 0)) (.seq (.block 1 (.seq (.ops [⟨(some 37), (.iaddr 1 (.tmp 33) (.tmp 35)), none⟩, ⟨(some 38), (.load1 (.tmp 37)), none⟩, ⟨(some 9), (.assign (.tmp 38)), none⟩]) (.seq (.ops [⟨(some 39), (.move (.tmp 6)), none⟩, ⟨(some 40), (.call 34 [(.tmp 39)]), none⟩, ⟨(some 10), (.assign (.tmp 40)), none⟩]) (.seq (.seq (.ops [⟨(some 41), (.move (.tmp 6)), none⟩, ⟨(some 42), (.move (.tmp 9)), none⟩, ⟨(some 43), (.call 32 [(.tmp 41), (.tmp 42)]), none⟩, ⟨(some 44), (.lenL (.tmp 43)), none⟩, ⟨(some 45), (.move (.const (.int .i64 0))), none⟩]) (.block 2 (.loop (.seq (.ops [⟨(some 46), (.bin .lss (.tmp 45) (.tmp 44)), none⟩]) (.seq (.cond (.tmp 46) .skip (.exit 2)) (.seq (.block 3 (.seq (.ops [⟨(some 47), (.iaddr 1 (.tmp 43) (.tmp 45)), none⟩, ⟨(some 48), (.load1 (.tmp 47)), none⟩, ⟨(some 12), (.assign (.tmp 48)), none⟩]) (.seq (.ops [⟨(some 49), (.move (.tmp 10)), none⟩, ⟨(some 50), (.move (.tmp 12)), none⟩, ⟨(some 51), (.call 40 [(.tmp 49), (.tmp 50)]), none⟩, ⟨(some 52), (.un .not (.tmp 51)), none⟩, ⟨(some 53), (.move (.tmp 52)), none⟩, ⟨(some 54), (.move (.tmp 6)), (some (53, false))⟩, ⟨(some 55), (.call 34 [(.tmp 54)]), (some (53, false))⟩, ⟨(some 56), (.move (.tmp 12)), (some (53, false))⟩, ⟨(some 57), (.call 40 [(.tmp 55), (.tmp 56)]), (some (53, false))⟩, ⟨(some 58), (.pick (.tmp 53) (.const (.bool true)) (.tmp 57)), none⟩]) (.cond (.tmp 58) (.seq (.ops [⟨(some 4), (.assign (.const (.bool false))), none⟩]) .ret) .skip)))) (.ops [⟨(some 59), (.bin .add (.tmp 45) (.const (.int .i64 1))), none⟩, ⟨(some 45), (.move (.tmp 59)), none⟩]))))))) (.seq (.ops [⟨(some 60), (.move (.tmp 6)), none⟩, ⟨(some 61), (.call 34 [(.tmp 60)]), none⟩, ⟨(some 13), (.assign (.tmp 61)), none⟩]) (.seq (.ops [⟨(some 62), (.move (.tmp 13)), none⟩, ⟨(some 63), (.call 25 [(.tmp 62)]), none⟩]) (.seq (.ops [⟨(some 64), (.move (.tmp 13)), none⟩, ⟨(some 65), (.lenL (.tmp 64)), none⟩, ⟨(some 66), (.move (.tmp 5)), none⟩, ⟨(some 67), (.bin .gtr (.tmp 65) (.tmp 66)), none⟩, ⟨(some 68), (.move (.tmp 67)), none⟩, ⟨(some 69), (.move (.tmp 13)), (some (68, false))⟩, ⟨(some 70), (.call 26 [(.tmp 69)]), (some (68, false))⟩, ⟨(some 71), (.lenL (.tmp 70)), (some (68, false))⟩, ⟨(some 72), (.move (.tmp 6)), (some (68, false))⟩, ⟨(some 73), (.call 34 [(.tmp 72)]), (some (68, false))⟩, ⟨(some 74), (.lenL (.tmp 73)), (some (68, false))⟩, ⟨(some 75), (.bin .neq (.tmp 71) (.tmp 74)), (some (68, false))⟩, ⟨(some 76), (.pick (.tmp 68) (.const (.bool true)) (.tmp 75)), none⟩]) (.cond (.tmp 76) (.seq (.ops [⟨(some 4), (.assign (.const (.bool false))), none⟩]) .ret) .skip)))))))) (.ops [⟨(some 77), (.bin .add (.tmp 35) (.const (.int .i64 1))), none⟩, ⟨(some 35), (.move (.tmp 77)), none⟩]))))))) (.seq (.ops [⟨(some 78), (.call 31 []), none⟩, ⟨(some 4), (.assign (.tmp 78)), none⟩]) .ret))))))), [(.move (.tmp 4))]⟩
theorem k8 : cfun Try.prog 8 = some c8 := by kernel_rfl
def c9 : XFun := ⟨54, (.seq (.ops [⟨(some 4), (.assign (.const (.bool false))), none⟩]) (.seq (.seq (.ops [⟨(some 7), (.move (.tmp 0)), none⟩, ⟨(some 8), (.lenL (.tmp 7)), none⟩, ⟨(some 9), (.bin .gtr (.tmp 8) (.const (.int .i64 60))), none⟩, ⟨(some 10), (.move (.tmp 9)), none⟩, ⟨(some 11), (.move (.tmp 1)), (some (10, false))⟩, ⟨(some 12), (.call 30 [(.tmp 11), (.const (.int .i64 20))]), (some (10, false))⟩, ⟨(some 13), (.un .not (.tmp 12)), (some (10, false))⟩, ⟨(some 14), (.pick (.tmp 10) (.const (.bool true)) (.tmp 13)), none⟩]) (.cond (.tmp 14) (.seq (.ops [⟨(some 15), (.call 31 []), none⟩, ⟨(some 4), (.assign (.tmp 15)), none⟩]) .ret) .skip)) (.seq (.ops [⟨(some 5), (.assign (.const (.pointer none))), none⟩]) (.seq (.ops [⟨(some 6), (.alloc [(.v (.pointer none)), (.v (.int .i64 0))]), none⟩]) (.seq (.ops [⟨(some 16), (.move (.tmp 5)), none⟩, ⟨(some 17), (.move (.tmp 0)), none⟩, ⟨(some 18), (.call 32 [(.tmp 16), (.tmp 17)]), none⟩, ⟨(some 19), (.lenL (.tmp 18)), none⟩, ⟨(some 20), (.bin .eql (.tmp 19) (.const (.int .i64 0))), none⟩, ⟨(some 21), (.move (.tmp 20)), none⟩, ⟨(some 22), (.move (.tmp 0)), (some (21, true))⟩, ⟨(some 23), (.call 32 [(.tmp 6), (.tmp 22)]), (some (21, true))⟩, ⟨(some 24), (.lenL (.tmp 23)), (some (21, true))⟩, ⟨(some 25), (.bin .eql (.tmp 24) (.const (.int .i64 0))), (some (21, true))⟩, ⟨(some 26), (.pick (.tmp 21) (.tmp 25) (.const (.bool false))), none⟩, ⟨(some 27), (.move (.tmp 26)), none⟩, ⟨(some 28), (.move (.tmp 5)), (some (27, true))⟩, ⟨(some 29), (.call 34 [(.tmp 28)]), (some (27, true))⟩, ⟨(some 30), (.lenL (.tmp 29)), (some (27, true))⟩, ⟨(some 31), (.bin .eql (.tmp 30) (.const (.int .i64 0))), (some (27, true))⟩, ⟨(some 32), (.pick (.tmp 27) (.tmp 31) (.const (.bool false))), none⟩, ⟨(some 33), (.move (.tmp 32)), none⟩, ⟨(some 34), (.move (.tmp 5)), (some (33, true))⟩, ⟨(some 35), (.move (.tmp 1)), (some (33, true))⟩, ⟨(some 36), (.call 37 [(.tmp 34), (.tmp 35)]), (some (33, true))⟩, ⟨(some 37), (.lenL (.tmp 36)), (some (33, true))⟩, ⟨(some 38), (.bin .eql (.tmp 37) (.const (.int .i64 0))), (some (33, true))⟩, ⟨(some 39), (.pick (.tmp 33) (.tmp 38) (.const (.bool false))), none⟩, ⟨(some 40), (.move (.tmp 39)), none⟩, ⟨(some 41), (.move (.tmp 1)), (some (40, true))⟩, ⟨(some 42), (.call 37 [(.tmp 6), (.tmp 41)]), (some (40, true))⟩, ⟨(some 43), (.lenL (.tmp 42)), (some (40, true))⟩, ⟨(some 44), (.bin .eql (.tmp 43) (.const (.int .i64 0))), (some (40, true))⟩, ⟨(some 45), (.pick (.tmp 40) (.tmp 44) (.const (.bool false))), none⟩, ⟨(some 46), (.move (.tmp 45)), none⟩, ⟨(some 47), (.move (.tmp 5)), (some (46, true))⟩, ⟨(some 48), (.call 39 [(.tmp 47)]), (some (46, true))⟩, ⟨(some 49), (.bin .eql (.tmp 48) (.const (.int .i64 0))), (some (46, true))⟩, ⟨(some 50), (.pick (.tmp 46) (.tmp 49) (.const (.bool false))), none⟩, ⟨(some 51), (.move (.tmp 50)), none⟩, ⟨(some 52), (.call 31 []), (some (51, true))⟩, ⟨(some 53), (.pick (.tmp 51) (.tmp 52) (.const (.bool false))), none⟩, ⟨(some 4), (.assign (.tmp 53)), none⟩]) .ret))))), [(.move (.tmp 4))]⟩
theorem k9 : cfun Try.prog 9 = some c9 := by kernel_rfl
def c30 : XFun := ⟨12, (.seq (.ops [⟨(some 4), (.assign (.const (.bool false))), none⟩]) (.seq (.seq (.ops [⟨(some 5), (.move (.tmp 0)), none⟩, ⟨(some 6), (.lenL (.tmp 5)), none⟩, ⟨(some 7), (.move (.tmp 1)), none⟩, ⟨(some 8), (.bin .gtr (.tmp 6) (.tmp 7)), none⟩]) (.cond (.tmp 8) (.seq (.ops [⟨(some 4), (.assign (.const (.bool false))), none⟩]) .ret) .skip)) (.seq (.ops [⟨(some 9), (.move (.tmp 0)), none⟩, ⟨(some 10), (.call 46 [(.tmp 9), (.func 47)]), none⟩, ⟨(some 11), (.un .not (.tmp 10)), none⟩, ⟨(some 4), (.assign (.tmp 11)), none⟩]) .ret))), [(.move (.tmp 4))]⟩
theorem k30 : cfun Try.prog 30 = some c30 := by kernel_rfl
def c47 : XFun := ⟨37, (.seq (.ops [⟨(some 1), (.box (.tmp 0)), none⟩, ⟨(some 2), (.assign (.const (.bool false))), none⟩]) (.seq (.ops [⟨(some 3), (.faddr 4 (.tmp 1)), none⟩, ⟨(some 4), (.load1 (.tmp 3)), none⟩, ⟨(some 5), (.lenL (.tmp 4)), none⟩, ⟨(some 6), (.bin .gtr (.tmp 5) (.const (.int .i64 10))), none⟩, ⟨(some 7), (.move (.tmp 6)), none⟩, ⟨(some 8), (.faddr 5 (.tmp 1)), (some (7, false))⟩, ⟨(some 9), (.load1 (.tmp 8)), (some (7, false))⟩, ⟨(some 10), (.lenL (.tmp 9)), (some (7, false))⟩, ⟨(some 11), (.bin .gtr (.tmp 10) (.const (.int .i64 10))), (some (7, false))⟩, ⟨(some 12), (.pick (.tmp 7) (.const (.bool true)) (.tmp 11)), none⟩, ⟨(some 13), (.move (.tmp 12)), none⟩, ⟨(some 14), (.faddr 6 (.tmp 1)), (some (13, false))⟩, ⟨(some 15), (.load1 (.tmp 14)), (some (13, false))⟩, ⟨(some 16), (.lenL (.tmp 15)), (some (13, false))⟩, ⟨(some 17), (.bin .gtr (.tmp 16) (.const (.int .i64 10))), (some (13, false))⟩, ⟨(some 18), (.pick (.tmp 13) (.const (.bool true)) (.tmp 17)), none⟩, ⟨(some 19), (.move (.tmp 18)), none⟩, ⟨(some 20), (.faddr 7 (.tmp 1)), (some (19, false))⟩, ⟨(some 21), (.load1 (.tmp 20)), (some (19, false))⟩, ⟨(some 22), (.lenL (.tmp 21)), (some (19, false))⟩, ⟨(some 23), (.bin .gtr (.tmp 22) (.const (.int .i64 300))), (some (19, false))⟩, ⟨(some 24), (.pick (.tmp 19) (.const (.bool true)) (.tmp 23)), none⟩, ⟨(some 25), (.move (.tmp 24)), none⟩, ⟨(some 26), (.faddr 2 (.tmp 1)), (some (25, false))⟩, ⟨(some 27), (.load1 (.tmp 26)), (some (25, false))⟩, ⟨(some 28), (.lenS (.tmp 27)), (some (25, false))⟩, ⟨(some 29), (.bin .gtr (.tmp 28) (.const (.int .i64 300))), (some (25, false))⟩, ⟨(some 30), (.pick (.tmp 25) (.const (.bool true)) (.tmp 29)), none⟩, ⟨(some 31), (.move (.tmp 30)), none⟩, ⟨(some 32), (.faddr 3 (.tmp 1)), (some (31, false))⟩, ⟨(some 33), (.load1 (.tmp 32)), (some (31, false))⟩, ⟨(some 34), (.lenS (.tmp 33)), (some (31, false))⟩, ⟨(some 35), (.bin .gtr (.tmp 34) (.const (.int .i64 300))), (some (31, false))⟩, ⟨(some 36), (.pick (.tmp 31) (.const (.bool true)) (.tmp 35)), none⟩, ⟨(some 2), (.assign (.tmp 36)), none⟩]) .ret)), [(.move (.tmp 2))]⟩
theorem k47 : cfun Try.prog 47 = some c47 := by kernel_rfl
def c46 : XFun := ⟨9, (.seq (.ops [⟨(some 4), (.assign (.const (.bool false))), none⟩]) (.seq (.ops [⟨(some 5), (.move (.tmp 0)), none⟩, ⟨(some 6), (.move (.tmp 1)), none⟩, ⟨(some 7), (.call 65 [(.tmp 5), (.tmp 6)]), none⟩, ⟨(some 8), (.bin .geq (.tmp 7) (.const (.int .i64 0))), none⟩, ⟨(some 4), (.assign (.tmp 8)), none⟩]) .ret)), [(.move (.tmp 4))]⟩
theorem k46 : cfun Try.prog 46 = some c46 := by kernel_rfl
def c65 : XFun := ⟨19, (.seq (.ops [⟨(some 4), (.assign (.const (.int .i64 0))), none⟩]) (.seq (.seq (.ops [⟨(some 6), (.move (.tmp 0)), none⟩, ⟨(some 7), (.lenL (.tmp 6)), none⟩, ⟨(some 8), (.move (.const (.int .i64 0))), none⟩]) (.block 0 (.loop (.seq (.ops [⟨(some 9), (.bin .lss (.tmp 8) (.tmp 7)), none⟩]) (.seq (.cond (.tmp 9) .skip (.exit 0)) (.seq (.block 1 (.seq (.ops [⟨(some 10), (.move (.tmp 8)), none⟩, ⟨(some 5), (.assign (.tmp 10)), none⟩]) (.seq (.ops [⟨(some 11), (.move (.tmp 1)), none⟩, ⟨(some 12), (.move (.tmp 0)), none⟩, ⟨(some 13), (.move (.tmp 5)), none⟩, ⟨(some 14), (.iaddr 8 (.tmp 12) (.tmp 13)), none⟩, ⟨(some 15), (.loadN 8 (.tmp 14)), none⟩, ⟨(some 16), (.callv (.tmp 11) [(.tmp 15)]), none⟩]) (.cond (.tmp 16) (.seq (.ops [⟨(some 17), (.move (.tmp 5)), none⟩, ⟨(some 4), (.assign (.tmp 17)), none⟩]) .ret) .skip)))) (.ops [⟨(some 18), (.bin .add (.tmp 8) (.const (.int .i64 1))), none⟩, ⟨(some 8), (.move (.tmp 18)), none⟩]))))))) (.seq (.ops [⟨(some 4), (.assign (.const (.int .i64 (-1)))), none⟩]) .ret))), [(.move (.tmp 4))]⟩
theorem k65 : cfun Try.prog 65 = some c65 := by kernel_rfl
end Go.Proofs.Ytabfaambilbpeaa.Ax
/- slices.IndexFunc, slices.DeleteFunc and slices.Clone of numbers that lie in a variable, over values without memory. -/
namespace Go.Proofs.Ytabfaambilbpeaa.Ax
open Go.RowKit Go By
set_option linter.unusedSimpArgs false
set_option linter.unusedVariables false
set_option maxRecDepth 10000

section
variable {h : List (List AV)} {b n : Nat} {c : List Int} {g : FuncId} {first cap : List AV} {p : Int → Bool}
theorem idxf_b (hb : h[b]? = some (intsA c)) (hn : n ≤ c.length) (hbig : n ≤ 1000000) (hid : ∀ y ∈ first ++ cap, y.idOf = none) (hg : ∀ x, Contract Try.prog g (first ++ [.v (.int .i64 x)] ++ cap) h (.v (.bool (p x))) h []) :
    Contract Try.prog 66 [.bsl b 0 1 n, .fn (.func g) first cap] h (.v (.int .i64 (idxI p (c.take n)))) h [] := by
  have hbl := (List.getElem?_eq_some_iff.1 hb).1
  refine contract_of k66 mixed (by simp [c66]) fun hh hargs => ?_
  simp at hargs
  simp [c66]
  refine xloop_ok (D := Nat) (fun j => ⟨[(0, .bsl b 0 1 n), (1, .fn (.func g) first cap), (7, .v (.int .i64 (n : Int))), (8, .v (.int .i64 (j : Int)))], [], h, []⟩) (fun j => j ≤ n ∧ ∀ x ∈ (c.take n).take j, p x = false) (fun j => n - j) 0 (by simp) ?_ ?_
  · simp [Leq, hh, hargs, leqH_take]
    done
  · rintro j ⟨hj, hp⟩
    by_cases hlt : j < n
    · have hjc : j < c.length := by omega
      have hjt : j < (c.take n).length := by rw [List.length_take]; omega
      have e2 := intsA_get hjc
      have hw : IntKind.i64.wrap ((j : Int) + 1) = (j : Int) + 1 := wrap64 (by omega) (by omega)
      have et : (c.take n)[j] = c[j] := by rw [List.getElem_take]
      have hq : ∀ y ∈ first ++ [AV.v (.int .i64 c[j])] ++ cap, y.idOf = none := fun y hy => by
        rcases List.mem_append.1 hy with hy | hy
        · rcases List.mem_append.1 hy with hy | hy
          · exact hid y (List.mem_append_left _ hy)
          · rw [List.mem_singleton.1 hy]; rfl
        · exact hid y (List.mem_append_right _ hy)
      simp [hlt, hb, e2]
      refine ⟨fun y hy => hid y (by simpa using hy), ?_⟩
      have hgx := hg c[j]
      simp at hgx hq
      refine xcall_self (by simpa using hq) hgx ?_
      simp
      cases hpx : p c[j] with
      | true =>
        have := idxI_of hjt hp (by rw [et]; exact hpx)
        simp [hh, this]
        done
      | false =>
        simp [hw]
        refine ⟨j + 1, ⟨by omega, take_none hjt hp (by rw [et]; exact hpx)⟩, by omega, ?_⟩
        simp [Leq, hh, hargs, leqH_take]
        done
    · have : j = n := by omega
      subst this
      have hz : ∀ x ∈ c.take j, p x = false := by
        have : (c.take j).take j = c.take j := by rw [List.take_take, Nat.min_self]
        rwa [this] at hp
      simp [hh, idxI_none hz]
      done
theorem lay_mid {A B D l : List AV} (hl : l.length = B.length) : lay (A ++ (B ++ D)) A.length l = A ++ (l ++ D) := by
  apply List.ext_getElem?
  intro j
  rw [lay_get _ _ _ _ (by simp; omega)]
  split
  · rename_i hj
    rw [List.getElem?_append_right (by omega), List.getElem?_append_left (by omega)]
  · rename_i hj
    by_cases h1 : j < A.length
    · rw [List.getElem?_append_left h1, List.getElem?_append_left h1]
    · rw [List.getElem?_append_right (by omega), List.getElem?_append_right (by omega), List.getElem?_append_right (by omega), List.getElem?_append_right (by omega), hl]
/-- What is kept of the first j. -/
def dfK (p : Int → Bool) (zs : List Int) (j : Nat) : List Int := (zs.take j).filter fun x => !p x
/-- What lies there, the first j looked at. -/
def dfC (p : Int → Bool) (c : List Int) (n j : Nat) : List Int := dfK p (c.take n) j ++ c.drop (dfK p (c.take n) j).length
theorem dfK_le (zs : List Int) (j : Nat) : (dfK p zs j).length ≤ j := Nat.le_trans (List.length_filter_le _ _) (by rw [List.length_take]; omega)
theorem dfC_len (hn : n ≤ c.length) {j : Nat} (hj : j ≤ n) : (dfC p c n j).length = c.length := by
  have := dfK_le (p := p) (c.take n) j
  unfold dfC; rw [List.length_append, List.length_drop]; omega
theorem dfC_at (hn : n ≤ c.length) {j q : Nat} (hj : j ≤ q) (hq : q < c.length) : (dfC p c n j)[q]? = some c[q] := by
  have := dfK_le (p := p) (c.take n) j
  unfold dfC
  rw [List.getElem?_append_right (by omega), List.getElem?_drop, show (dfK p (c.take n) j).length + (q - (dfK p (c.take n) j).length) = q by omega, List.getElem?_eq_getElem hq]
theorem dfK_no (hn : n ≤ c.length) {j : Nat} (hj : j < n) (hp : p (c[j]'(by omega)) = true) : dfK p (c.take n) (j + 1) = dfK p (c.take n) j := by
  have hjt : j < (c.take n).length := by rw [List.length_take]; omega
  have et : (c.take n)[j] = c[j]'(by omega) := by rw [List.getElem_take]
  unfold dfK
  rw [take_next hjt, List.filter_append, et]
  simp [hp]
theorem dfK_yes (hn : n ≤ c.length) {j : Nat} (hj : j < n) (hp : p (c[j]'(by omega)) = false) : dfK p (c.take n) (j + 1) = dfK p (c.take n) j ++ [c[j]'(by omega)] := by
  have hjt : j < (c.take n).length := by rw [List.length_take]; omega
  have et : (c.take n)[j] = c[j]'(by omega) := by rw [List.getElem_take]
  unfold dfK
  rw [take_next hjt, List.filter_append, et]
  simp [hp]
theorem dfC_no (hn : n ≤ c.length) {j : Nat} (hj : j < n) (hp : p (c[j]'(by omega)) = true) : dfC p c n (j + 1) = dfC p c n j := by
  unfold dfC; rw [dfK_no hn hj hp]
theorem dfC_yes (hn : n ≤ c.length) {j : Nat} (hj : j < n) (hp : p (c[j]'(by omega)) = false) : dfC p c n (j + 1) = (dfC p c n j).set (dfK p (c.take n) j).length (c[j]'(by omega)) := by
  have hk := dfK_le (p := p) (c.take n) j
  unfold dfC
  rw [dfK_yes hn hj hp, List.set_append_right _ _ (Nat.le_refl _), Nat.sub_self, List.length_append, List.length_singleton]
  rw [List.drop_eq_getElem_cons (show (dfK p (c.take n) j).length < c.length by omega), List.set_cons_zero]
  simp
theorem intsA_set (l : List Int) (i : Nat) (x : Int) : (intsA l).set i (.v (.int .i64 x)) = intsA (l.set i x) := by unfold intsA; rw [List.map_set]
def keptL (p : Int → Bool) (c : List Int) (n : Nat) : List Int := (c.take n).filter fun x => !p x
theorem dfK_all : dfK p (c.take n) n = keptL p c n := by unfold dfK keptL; rw [List.take_take, Nat.min_self]
theorem keptL_le (hn : n ≤ c.length) : (keptL p c n).length ≤ n := Nat.le_trans (List.length_filter_le _ _) (by rw [List.length_take]; omega)
def delfL (p : Int → Bool) (c : List Int) (n : Nat) : List Int := keptL p c n ++ (List.replicate (n - (keptL p c n).length) 0 ++ c.drop n)
theorem delfL_len (hn : n ≤ c.length) : (delfL p c n).length = c.length := by
  have := keptL_le (p := p) hn
  unfold delfL; simp; omega
theorem delfL_take : (delfL p c n).take (keptL p c n).length = keptL p c n := by unfold delfL; rw [List.take_left']; rfl
theorem delf_b (hb : h[b]? = some (intsA c)) (hn : n ≤ c.length) (hbig : n ≤ 1000000) (hid : ∀ y ∈ first ++ cap, y.idOf = none) (hg : ∀ c', c'.length = c.length → ∀ x, Contract Try.prog g (first ++ [.v (.int .i64 x)] ++ cap) (h.set b (intsA c')) (.v (.bool (p x))) (h.set b (intsA c')) []) :
    Contract Try.prog 49 [.bsl b 0 1 n, .fn (.func g) first cap] h (.bsl b 0 1 (keptL p c n).length) (h.set b (intsA (delfL p c n))) [b] := by
  have hbl := (List.getElem?_eq_some_iff.1 hb).1
  have hset : h.set b (intsA c) = h := by
    rw [← (List.getElem?_eq_some_iff.1 hb).2]; exact List.set_getElem_self hbl
  have hg0 := hg c rfl
  rw [hset] at hg0
  have hzl : (c.take n).length = n := by rw [List.length_take]; omega
  refine contract_of k49 mixed (by simp [c49]) fun hh hargs => ?_
  simp at hargs
  simp [c49]
  refine xcall_self (by simp) (idxf_b hb hn hbig hid hg0) ?_
  by_cases hno : ∀ x ∈ c.take n, p x = false
  · have hk : keptL p c n = c.take n := List.filter_eq_self.2 fun x hx => by rw [hno x hx]; rfl
    have hd : delfL p c n = c := by unfold delfL; rw [hk, hzl, Nat.sub_self]; simp
    rw [hk, hd, hset, hzl]
    simp [idxI_none hno, hh, hbl, leqH_take]
    done
  · obtain ⟨k, hkn, hpk, hbef⟩ : ∃ k, ∃ hk : k < (c.take n).length, p (c.take n)[k] = true ∧ ∀ x ∈ (c.take n).take k, p x = false := by
      have key : ∀ l : List Int, (¬ ∀ x ∈ l, p x = false) → ∃ k, ∃ hk : k < l.length, p l[k] = true ∧ ∀ x ∈ l.take k, p x = false := fun l => by
        induction l with
        | nil => intro h; exact absurd (fun x hx => by cases hx) h
        | cons y r ih =>
          intro h
          cases hy : p y with
          | true => exact ⟨0, by simp, hy, fun x hx => by simp at hx⟩
          | false =>
            obtain ⟨k, hk, h1, h2⟩ := ih fun hr => h fun x hx => by
              rcases List.mem_cons.1 hx with rfl | hx
              · exact hy
              · exact hr x hx
            refine ⟨k + 1, by simp; omega, by simpa using h1, fun x hx => ?_⟩
            rw [List.take_succ_cons] at hx
            rcases List.mem_cons.1 hx with rfl | hx
            · exact hy
            · exact h2 x hx
      exact key _ hno
    have hk2 : k < n := by omega
    have hidx := idxI_of hkn hbef hpk
    have hpk2 : p (c[k]'(by omega)) = true := by rw [List.getElem_take] at hpk; exact hpk
    have k0 : dfK p (c.take n) (k + 1) = (c.take n).take k := by
      rw [dfK_no hn hk2 hpk2]
      exact List.filter_eq_self.2 fun x hx => by rw [hbef x hx]; rfl
    have k0l : (dfK p (c.take n) (k + 1)).length = k := by rw [k0, List.length_take]; omega
    have c0 : dfC p c n (k + 1) = c := by
      unfold dfC; rw [k0, List.length_take, List.take_take, show min k n = k by omega, show min k (c.take n).length = k by omega]
      exact List.take_append_drop k c
    have n1 : ¬ (k : Int) = -1 := by omega
    have hw1 : IntKind.i64.wrap ((k : Int) + 1) = (k : Int) + 1 := wrap64 (by omega) (by omega)
    simp [hidx, n1, hw1]
    refine xloop_ok (D := Nat) (fun j => ⟨[(0, .bsl b 0 1 n), (1, .fn (.func g) first cap), (5, .v (.int .i64 ((dfK p (c.take n) j).length : Int))), (6, .v (.int .i64 (j : Int)))], [], h.set b (intsA (dfC p c n j)), [b]⟩) (fun j => j ≤ n ∧ k + 1 ≤ j) (fun j => n - j) (k + 1) ⟨by omega, Nat.le_refl _⟩ ?_ ?_
    · rw [k0l, c0, hset]
      simp [Leq, hh, hargs, leqH_take]
      done
    · rintro j ⟨hj, hkj⟩
      have hCl := dfC_len (p := p) hn hj
      have hKl := dfK_le (p := p) (c.take n) j
      by_cases hlt : j < n
      · have hjc : j < c.length := by omega
        have e2 := dfC_at (p := p) hn (Nat.le_refl j) hjc
        have e3 : (intsA (dfC p c n j))[j]? = some (.v (.int .i64 c[j])) := by unfold intsA; rw [List.getElem?_map, e2]; rfl
        have hw : IntKind.i64.wrap ((j : Int) + 1) = (j : Int) + 1 := wrap64 (by omega) (by omega)
        have hq : ∀ y ∈ first ++ [AV.v (.int .i64 c[j])] ++ cap, y.idOf = none := fun y hy => by
          rcases List.mem_append.1 hy with hy | hy
          · rcases List.mem_append.1 hy with hy | hy
            · exact hid y (List.mem_append_left _ hy)
            · rw [List.mem_singleton.1 hy]; rfl
          · exact hid y (List.mem_append_right _ hy)
        have hgx := hg (dfC p c n j) hCl c[j]
        simp at hgx hq
        simp [hlt, hbl, e3]
        refine ⟨fun y hy => hid y (by simpa using hy), ?_⟩
        refine xcall_self (by simpa using hq) hgx ?_
        simp
        cases hpx : p c[j] with
        | true =>
          simp [hw]
          refine ⟨j + 1, ⟨by omega, by omega⟩, by omega, ?_⟩
          rw [dfK_no hn hlt hpx, dfC_no hn hlt hpx]
          simp [Leq, hh, hargs, leqH_take, hbl]
          done
        | false =>
          have hKn : (dfK p (c.take n) j).length < n := by omega
          have hKc : (dfK p (c.take n) j).length < (intsA (dfC p c n j)).length := by rw [intsA_length, hCl]; omega
          have hw2 : IntKind.i64.wrap (((dfK p (c.take n) j).length : Int) + 1) = ((dfK p (c.take n) j).length : Int) + 1 := wrap64 (by omega) (by omega)
          have hK2 : (dfK p (c.take n) j).length < (dfC p c n j).length := by omega
          have hK3 : (dfK p (c.take n) j).length + 1 ≤ (dfC p c n j).length := by omega
          simp [hw, hw2, hKn, hbl, hK2, hK3]
          refine ⟨j + 1, ⟨by omega, by omega⟩, by omega, ?_⟩
          rw [dfK_yes hn hlt hpx, dfC_yes hn hlt hpx, intsA_set]
          simp [Leq, hh, hargs, leqH_take, hbl]
          done
      · have : j = n := by omega
        subst this
        rw [dfK_all]
        have hkl : (keptL p c j).length < j := by
          rw [← dfK_all]
          have h1 := List.length_filter_lt_length_iff_exists (p := fun x => !p x) (l := c.take j) |>.2 ⟨_, List.getElem_mem hkn, by rw [hpk]; simp⟩
          unfold dfK
          rw [List.take_take, Nat.min_self]
          omega
        have hC : intsA (dfC p c j j) = intsA (keptL p c j) ++ (intsA ((c.drop (keptL p c j).length).take (j - (keptL p c j).length)) ++ intsA (c.drop j)) := by
          rw [← intsA_append, ← intsA_append]
          unfold dfC
          rw [dfK_all]
          have e9 : (c.drop (keptL p c j).length).drop (j - (keptL p c j).length) = c.drop j := by rw [List.drop_drop]; congr 1; omega
          have e8 := List.take_append_drop (j - (keptL p c j).length) (c.drop (keptL p c j).length)
          rw [e9] at e8
          rw [e8]
        have hlay : lay (intsA (dfC p c j j)) (keptL p c j).length (List.replicate (j - (keptL p c j).length) (.v (.int .i64 0))) = intsA (delfL p c j) := by
          rw [hC]
          have := lay_mid (A := intsA (keptL p c j)) (B := intsA ((c.drop (keptL p c j).length).take (j - (keptL p c j).length))) (D := intsA (c.drop j)) (l := List.replicate (j - (keptL p c j).length) (.v (.int .i64 0))) (by simp; omega)
          rw [intsA_length] at this
          rw [this]
          unfold delfL
          rw [intsA_append, intsA_append]
          congr 2
          unfold intsA; simp
        have n2 : ¬ ((keptL p c j).length : Int) = (j : Int) := by omega
        have n3 : (keptL p c j).length ≤ j := by omega
        have n4 : (keptL p c j).length + (j - (keptL p c j).length) ≤ c.length := by omega
        simp [n2, n3, hbl, hCl]
        rw [hlay]
        exact ⟨by omega, .inl rfl, ltLL_set hh (by simp)⟩
end
end Go.Proofs.Ytabfaambilbpeaa.Ax
/- Which statements a server has, over values without memory: what a cache is; its list, one op, ops. -/
namespace Go.Proofs.Ytabfaambilbpeaa.Ax
open Go.RowKit Go By
set_option linter.unusedSimpArgs false
set_option linter.unusedVariables false
set_option maxRecDepth 10000

theorem chain_of {S : Type} (I : Nat → S → Prop) (R : Nat → S → S → Prop) (s0 : S) (h0 : I 0 s0) : ∀ (n : Nat), (∀ j < n, ∀ s, I j s → ∃ s', I (j + 1) s' ∧ R j s s') → ∃ F : Nat → S, F 0 = s0 ∧ (∀ j ≤ n, I j (F j)) ∧ ∀ j < n, R j (F j) (F (j + 1))
  | 0, _ => ⟨fun _ => s0, rfl, fun j hj => by have : j = 0 := by omega
                                              subst this; exact h0, fun j hj => by omega⟩
  | n + 1, step => by
    obtain ⟨F, h1, h2, h3⟩ := chain_of I R s0 h0 n fun j hj => step j (by omega)
    obtain ⟨s', h4, h5⟩ := step n (by omega) (F n) (h2 n (Nat.le_refl _))
    refine ⟨fun j => if j ≤ n then F j else s', by simp [h1], fun j hj => ?_, fun j hj => ?_⟩
    · dsimp only
      split
      · rename_i hl; exact h2 j hl
      · have : j = n + 1 := by omega
        subst this; exact h4
    · dsimp only
      rw [if_pos (by omega)]
      split
      · exact h3 j (by omega)
      · have : j = n := by omega
        subst this; exact h5
structure CaAt (lo : Nat) (h : List (List AV)) (i a most : Nat) (o : Option Nat) (c L : List Int) : Prop where
  top : h[i]? = some [.box a 0, .v (.int .i64 (most : Int))]
  lru : LrAt lo h a most o c L
  apart : i ≠ a ∧ ∀ b, o = some b → b ≠ i
  low2 : lo ≤ i
def opL (most : Nat) (L : List Int) (op : Oc) : List Int := if op.kind = 1 then addL most L op.id else if op.kind = 2 then remI L op.id else if op.kind = 3 then touchL L op.id else L
def opsL (most : Nat) (L : List Int) (ops : List Oc) : List Int := ops.foldl (opL most) L
theorem opsL_next {most : Nat} {L : List Int} {ops : List Oc} {j : Nat} (hj : j < ops.length) : opsL most L (ops.take (j + 1)) = opL most (opsL most L (ops.take j)) ops[j] := by
  unfold opsL; rw [take_next hj, List.foldl_append]; rfl
theorem LrOk.op {most : Nat} {L : List Int} (h : LrOk most L) (op : Oc) : LrOk most (opL most L op) := by
  unfold opL
  split
  · exact h.addL _
  · split
    · exact h.rem _
    · split
      · exact h.touch _
      · exact h
theorem LrOk.ops {most : Nat} : ∀ {ops : List Oc} {L : List Int}, LrOk most L → LrOk most (opsL most L ops)
  | [], _, h => h
  | op :: r, _, h => LrOk.ops (ops := r) (h.op op)
section
variable {lo : Nat} {h : List (List AV)} {i a most : Nat} {o : Option Nat} {c L : List Int}
theorem CaAt.i_lt (ht : CaAt lo h i a most o c L) : i < h.length := (List.getElem?_eq_some_iff.1 ht.top).1
theorem CaAt.to (ht : CaAt lo h i a most o c L) {h' : List (List AV)} {o' : Option Nat} {c' L' : List Int} (ht' : LrAt lo h' a most o' c' L') (hi : h'[i]? = h[i]?) (ho : ∀ b, o' = some b → b ≠ i) : CaAt lo h' i a most o' c' L' := ⟨hi.trans ht.top, ht', ⟨ht.apart.1, ho⟩, ht.low2⟩
theorem CaAt.app2 (ht : CaAt lo h i a most o c L) (xs : List (List AV)) (hx : ltLL (h.length + xs.length) xs) : CaAt lo (h ++ xs) i a most o c L := ht.to (ht.lru.app xs hx) (List.getElem?_append_left ht.i_lt) ht.apart.2
theorem clist_c (ht : CaAt lo h i a most o c L) (hl : L.length ≤ 4096) : Contract Try.prog 34 [.box i 0] h (.sl 1 (enc intC L) none (.own .res)) h [] := by
  have e1 := ht.top
  refine contract_of k34 mixed (by simp [c34]) fun hh hargs => ?_
  simp [c34, e1]
  refine xcall_self (by simp) (llist_c ht.lru hl) ?_
  simp [hh]
theorem clist_v (ht : CaAt lo h i a most o c L) (hl : L.length ≤ 4096) (hne : L ≠ []) : Contract Try.prog 34 [.box i 0] h (.bsl h.length 0 1 L.length) (h ++ [intsA L]) [] := by
  have e1 := ht.top
  refine contract_of k34 mixed (by simp [c34]) fun hh hargs => ?_
  have hl1 := ltLL_mono (Nat.le_add_right h.length 1) hh
  simp [c34, e1]
  refine xcall_self (by simp) (llist_v ht.lru hl hne) ?_
  simp [hl1]
theorem cmost_c (ht : CaAt lo h i a most o c L) : Contract Try.prog 39 [.box i 0] h (.v (.int .i64 (most : Int))) h [] := by
  have e1 := ht.top
  refine contract_of k39 mixed (by simp [c39]) fun hh hargs => ?_
  simp [c39, e1, hh]
/-- What a call leaves that changes a cache. -/
def CDoes (f : FuncId) (args : List AV) (lo : Nat) (h : List (List AV)) (i a most : Nat) (o : Option Nat) (r : AV) (L' : List Int) : Prop :=
  ∃ h' o' c', Contract Try.prog f args h r h' (a :: o.toList) ∧ CaAt lo h' i a most o' c' L' ∧ (∀ q, q < h.length → q ≠ a → o ≠ some q → h'[q]? = h[q]?) ∧ h.length ≤ h'.length ∧ ∀ b, o' = some b → o = some b ∨ h.length ≤ b
theorem csettle_c (ht : CaAt lo h i a most o c L) (ho : LrOk most L) (op : Oc) : CDoes 48 [.box i 0, .agg (ocC op)] lo h i a most o (.tup []) (opL most L op) := by
  have hi := ht.i_lt
  have hai := ht.lru.i_lt
  have e1 := ht.top
  have ha0 := ht.apart.1
  have ocl : ∀ n, ltL n (ocC op) := fun n => by simp [ocC]
  have hA := ht.lru.app [ocC op] (by simp [ocC])
  have e2 : ∀ xs : List (List AV), (h ++ xs)[i]? = some [.box a 0, .v (.int .i64 (most : Int))] := fun xs => by rw [List.getElem?_append_left hi]; exact e1
  have e3 : (h ++ [ocC op])[h.length]? = some [.v (.int .i64 op.kind), .v (.int .i64 op.id)] := by simp [ocC]
  have hob : ∀ b, o = some b → b < h.length := fun b e => (List.getElem?_eq_some_iff.1 (ht.lru.row b e).1).1
  -- what an op on the list leaves
  have fin : ∀ {f : FuncId} {args : List AV} {r : AV} {L' : List Int}, LDoes f args lo (h ++ [ocC op]) a most o r L' → (∀ h1, Contract Try.prog f args (h ++ [ocC op]) r h1 (a :: o.toList) → ltLL h1.length h1 → h.length ≤ h1.length → Contract Try.prog 48 [.box i 0, .agg (ocC op)] h (.tup []) h1 (a :: o.toList)) → CDoes 48 [.box i 0, .agg (ocC op)] lo h i a most o (.tup []) L' := fun hd hk => by
    obtain ⟨h1, o1, c1, k1, t1, s1, l1, q1⟩ := hd
    have hl1 : h.length + 1 ≤ h1.length := by simpa using l1
    have hs : ∀ q, q < h.length → q ≠ a → o ≠ some q → h1[q]? = h[q]? := fun q hq h2 h3 => by
      rw [s1 q (by simp; omega) h2 h3, List.getElem?_append_left hq]
    have ho1 : ∀ b, o1 = some b → o = some b ∨ h.length ≤ b := fun b e => by
      rcases q1 b e with e | e
      · exact .inl e
      · right; simp at e; omega
    refine ⟨h1, o1, c1, hk h1 k1 t1.lt (by omega), ht.to t1 (hs i hi ha0 fun e => (ht.apart.2 i e) rfl) fun b e => ?_, hs, by omega, ho1⟩
    rcases ho1 b e with e | e
    · exact ht.apart.2 b e
    · omega
  have back : ∀ q, (q = a ∨ o = some q) → q < h.length → q = a ∨ o = some q := fun q h _ => h
  by_cases k1 : op.kind = 1
  · have hp : opL most L op = addL most L op.id := by unfold opL; rw [if_pos k1]
    rw [hp]
    refine fin (ladd_c hA ho op.id) fun h1 k hlt hle => ?_
    refine contract_of k48 mixed (by simp [c48]) fun hh hargs => ?_
    simp only [ocC] at k
    simp [c48, ocC, k1, e2]
    rw [k1] at k
    refine xcall_self (by simp) k ?_
    simp [hlt, hle, leqH_take]
    exact ⟨⟨⟨by omega, fun e => by have := hob _ e; omega⟩, ha0, fun e => ht.apart.2 i e rfl⟩, fun q e _ => .inr e⟩
  by_cases k2 : op.kind = 2
  · have hp : opL most L op = remI L op.id := by unfold opL; rw [if_neg k1, if_pos k2]
    rw [hp]
    refine fin (lremove_c hA ho op.id) fun h1 k hlt hle => ?_
    refine contract_of k48 mixed (by simp [c48]) fun hh hargs => ?_
    simp only [ocC] at k
    simp [c48, ocC, k2, e2]
    rw [k2] at k
    refine xcall_self (by simp) k ?_
    simp [hlt, hle, leqH_take]
    exact ⟨⟨⟨by omega, fun e => by have := hob _ e; omega⟩, ha0, fun e => ht.apart.2 i e rfl⟩, fun q e _ => .inr e⟩
  by_cases k3 : op.kind = 3
  · have hp : opL most L op = touchL L op.id := by unfold opL; rw [if_neg k1, if_neg k2, if_pos k3]
    rw [hp]
    refine fin (ltouch_c hA ho op.id) fun h1 k hlt hle => ?_
    refine contract_of k48 mixed (by simp [c48]) fun hh hargs => ?_
    simp only [ocC] at k
    simp [c48, ocC, k3, e2]
    rw [k3] at k
    refine xcall_self (by simp) k ?_
    simp [hlt, hle, leqH_take]
    exact ⟨⟨⟨by omega, fun e => by have := hob _ e; omega⟩, ha0, fun e => ht.apart.2 i e rfl⟩, fun q e _ => .inr e⟩
  · have hp : opL most L op = L := by unfold opL; rw [if_neg k1, if_neg k2, if_neg k3]
    rw [hp]
    refine ⟨h, o, c, Contract.wrs (wr := []) ?_ (fun q hq => by cases hq), ht, fun _ _ _ _ => rfl, Nat.le_refl _, fun b e => .inl e⟩
    refine contract_of k48 mixed (by simp [c48]) fun hh hargs => ?_
    simp [c48, ocC, k1, k2, k3, hh]
    done
structure CS where
  H : List (List AV)
  o : Option Nat
  c : List Int
structure CS.Ok (lo : Nat) (h : List (List AV)) (i a most : Nat) (o : Option Nat) (L : List Int) (s : CS) : Prop where
  at_ : CaAt lo s.H i a most s.o s.c L
  ok : LrOk most L
  stay : ∀ q, q < h.length → q ≠ a → o ≠ some q → s.H[q]? = h[q]?
  len : h.length ≤ s.H.length
  new : ∀ b, s.o = some b → o = some b ∨ h.length ≤ b
theorem settle_chain (ht : CaAt lo h i a most o c L) (ho : LrOk most L) (ops : List Oc) : ∃ F : Nat → CS, F 0 = ⟨h, o, c⟩ ∧ (∀ j ≤ ops.length, CS.Ok lo h i a most o (opsL most L (ops.take j)) (F j)) ∧
    ∀ j < ops.length, ∀ hj : j < ops.length, Contract Try.prog 48 [.box i 0, .agg (ocC ops[j])] ((F j).H ++ [ocC ops[j]]) (.tup []) (F (j + 1)).H (a :: (F j).o.toList) := by
  refine chain_of (fun j s => CS.Ok lo h i a most o (opsL most L (ops.take j)) s) (fun j s s' => ∀ hj : j < ops.length, Contract Try.prog 48 [.box i 0, .agg (ocC ops[j])] (s.H ++ [ocC ops[j]]) (.tup []) s'.H (a :: s.o.toList)) ⟨h, o, c⟩ ⟨by simpa [opsL] using ht, by simpa [opsL] using ho, fun _ _ _ _ => rfl, Nat.le_refl _, fun b e => .inl e⟩ ops.length fun j hj s hs => ?_
  obtain ⟨h', o', c', k1, t1, s1, l1, q1⟩ := csettle_c (hs.at_.app2 [ocC ops[j]] (by simp [ocC])) hs.ok ops[j]
  have hl : s.H.length + 1 ≤ h'.length := by simpa using l1
  have hlen := hs.len
  refine ⟨⟨h', o', c'⟩, ⟨by rw [opsL_next hj]; exact t1, by rw [opsL_next hj]; exact hs.ok.op _, fun q hq h2 h3 => ?_, by show h.length ≤ h'.length; omega, fun b e => ?_⟩, fun _ => k1⟩
  · show h'[q]? = h[q]?
    rw [s1 q (by simp; omega) h2 (fun e => by rcases hs.new q e with e | e; exact h3 e; omega), List.getElem?_append_left (by omega)]
    exact hs.stay q hq h2 h3
  · rcases q1 b e with e | e
    · exact hs.new b e
    · simp at e; right; omega
end
end Go.Proofs.Ytabfaambilbpeaa.Ax
namespace Go.Proofs.Ytabfaambilbpeaa.Ax
open Go.RowKit Go By
set_option linter.unusedSimpArgs false
set_option linter.unusedVariables false
set_option maxRecDepth 10000

def foV (o : Option Nat) (n : Nat) : AV :=
  match o with
  | none => .sl 0 [] none .exact
  | some b => .bsl b 0 1 n
@[simp] theorem foV_id (o : Option Nat) (n : Nat) : (foV o n).idOf = none := by cases o <;> rfl
@[simp] theorem foV_unown (o : Option Nat) (n : Nat) : (foV o n).unown = foV o n := by cases o <;> rfl
@[simp] theorem foV_cells (o : Option Nat) (n : Nat) : (foV o n).cells = some [foV o n] := by cases o <;> rfl
structure FoAt (lo : Nat) (h : List (List AV)) (o : Option Nat) (c L : List Int) : Prop where
  emp : o = none → L = []
  row : ∀ b, o = some b → h[b]? = some (intsA c) ∧ c ≠ [] ∧ L.length ≤ c.length ∧ c.take L.length = L ∧ lo ≤ b
  lt : ltLL h.length h
theorem foV_lt {lo : Nat} {h : List (List AV)} {o : Option Nat} {c L : List Int} (ht : FoAt lo h o c L) (n : Nat) : (foV o n).lt h.length := by
  cases o with
  | none => exact trivial
  | some b => exact (List.getElem?_eq_some_iff.1 (ht.row b rfl).1).1
def oneL (L : List Int) (op : Oc) : List Int := if op.kind = 1 then (if L.contains op.id = true then L else L ++ [op.id]) else if op.kind = 2 then remI L op.id else if op.kind = 3 then touchL L op.id else L
def foldL (L : List Int) (ops : List Oc) : List Int := ops.foldl oneL L
theorem foldL_next {L : List Int} {ops : List Oc} {j : Nat} (hj : j < ops.length) : foldL L (ops.take (j + 1)) = oneL (foldL L (ops.take j)) ops[j] := by
  unfold foldL; rw [take_next hj, List.foldl_append]; rfl
theorem remI_le (L : List Int) (x : Int) : (remI L x).length ≤ L.length := List.length_filter_le _ _
theorem touchL_le (L : List Int) (x : Int) : (touchL L x).length ≤ L.length + 1 := by
  unfold touchL
  split
  · have := remI_le L x; simp; omega
  · omega
theorem oneL_len (L : List Int) (op : Oc) : (oneL L op).length ≤ L.length + 1 := by
  unfold oneL
  split
  · split
    · omega
    · simp
  · split
    · have := remI_le L op.id; omega
    · split
      · exact touchL_le _ _
      · omega
theorem foldL_len : ∀ (ops : List Oc) (L : List Int), (foldL L ops).length ≤ L.length + ops.length
  | [], L => by simp [foldL]
  | op :: r, L => by
    have h1 := foldL_len r (oneL L op)
    have h2 := oneL_len L op
    show (foldL (oneL L op) r).length ≤ _
    rw [List.length_cons]; omega
theorem idxf_x (nul : Option Bool) (g : FuncId) (first cap : List AV) (h : List (List AV)) : Contract Try.prog 66 [.sl 0 [] nul .exact, .fn (.func g) first cap] h (.v (.int .i64 (-1))) h [] := by
  refine contract_of k66 mixed (by simp [c66]) fun hh hargs => ?_
  simp [c66]
  refine xloop_ok (D := Unit) (fun _ => ⟨[(7, .v (.int .i64 0)), (8, .v (.int .i64 0))], [], h, []⟩) (fun _ => True) (fun _ => 0) () trivial ?_ ?_
  · simp [Leq, hh, leqH_take]
    done
  · intro _ _
    simp [hh]
theorem delf_x (nul : Option Bool) (g : FuncId) (first cap : List AV) (h : List (List AV)) : Contract Try.prog 49 [.sl 0 [] nul .exact, .fn (.func g) first cap] h (.sl 0 [] nul .exact) h [] := by
  refine contract_of k49 mixed (by simp [c49]) fun hh hargs => ?_
  simp [c49]
  refine xcall_self (by simp) (idxf_x _ _ _ _ _) ?_
  simp [hh]
  done
section
variable {env own : List (Nat × AV)} {h : List (List AV)} {wr : List Nat} {d : Option Nat} {K : St → List Nat → Prop}
theorem xap_x {x : Int} (hK : K (St.puts ⟨env, own, h ++ [intsA [x]], wr⟩ d (.bsl h.length 0 1 1) false) []) : xappendA ⟨env, own, h, wr⟩ 1 8 d (.sl 0 [] none .exact) (.sl 1 [[.v (.int .i64 x)]] (some false) .exact) K :=
  .inr (.inl ⟨[[.v (.int .i64 x)]], by simp [rowsOf], by simp, by simp, .inr ⟨rfl, rfl, rfl⟩, by simp, by simp, hK⟩)
end
section
variable {lo : Nat} {h : List (List AV)} {o : Option Nat} {c L : List Int}
theorem FoAt.move (ht : FoAt lo h o c L) {h' : List (List AV)} (hb : ∀ b, o = some b → h'[b]? = h[b]?) (hlt : ltLL h'.length h') : FoAt lo h' o c L :=
  ⟨ht.emp, fun b e => by obtain ⟨h1, h2⟩ := ht.row b e; exact ⟨(hb b e).trans h1, h2⟩, hlt⟩
theorem FoAt.app (ht : FoAt lo h o c L) (xs : List (List AV)) (hx : ltLL (h.length + xs.length) xs) : FoAt lo (h ++ xs) o c L :=
  ht.move (fun b e => List.getElem?_append_left (List.getElem?_eq_some_iff.1 (ht.row b e).1).1) (by rw [ltLL_append, List.length_append]; exact ⟨ltLL_mono (Nat.le_add_right _ _) ht.lt, hx⟩)
theorem fhas_c (ht : FoAt lo h o c L) (x : Int) : Contract Try.prog 40 [foV o L.length, .v (.int .i64 x)] h (.v (.bool (L.contains x))) h [] := by
  cases o with
  | none => rw [ht.emp rfl]; exact has_e _ _ _ x
  | some b =>
    obtain ⟨h1, h2, h3, h4, h5⟩ := ht.row b rfl
    have := has_b h1 h3 x
    rwa [h4] at this
theorem without1_c {q : Nat} {id : Int} (hq : h[q]? = some [.v (.int .i64 id)]) (x : Int) : Contract Try.prog 77 [.v (.int .i64 x), .box q 0] h (.v (.bool (x == id))) h [] := by
  have hql := (List.getElem?_eq_some_iff.1 hq).1
  refine contract_of k77 mixed (by simp [c77]) fun hh hargs => ?_
  simp [c77, hq, hh]
  done
theorem keptL_rem (c : List Int) (n : Nat) (id : Int) : keptL (fun x => x == id) c n = remI (c.take n) id := rfl
theorem without_b {b : Nat} (hb : h[b]? = some (intsA c)) (hn : L.length ≤ c.length) (hL : c.take L.length = L) (hbig : L.length ≤ 1000000) (id : Int) :
    ∃ c', Contract Try.prog 75 [.bsl b 0 1 L.length, .v (.int .i64 id)] h (.bsl b 0 1 (remI L id).length) (h.set b (intsA c')) [b] ∧ c'.length = c.length ∧ c'.take (remI L id).length = remI L id := by
  have hbl := (List.getElem?_eq_some_iff.1 hb).1
  have hk : keptL (fun x => x == id) c L.length = remI L id := by rw [keptL_rem, hL]
  have hb0 : (h ++ [[AV.v (.int .i64 id)]])[b]? = some (intsA c) := by rw [List.getElem?_append_left hbl]; exact hb
  have hdel := delf_b (h := h ++ [[AV.v (.int .i64 id)]]) (b := b) (n := L.length) (c := c) (g := 77) (first := []) (cap := [.box h.length 0]) (p := fun x => x == id) hb0 hn hbig (by simp) (fun c' _ x => without1_c (by rw [List.getElem?_set_ne (by omega)]; simp) x)
  rw [hk] at hdel
  refine ⟨delfL (fun x => x == id) c L.length, ?_, delfL_len hn, ?_⟩
  · refine contract_of k75 mixed (by simp [c75]) fun hh hargs => ?_
    simp [c75]
    refine xcall_self (by simp) hdel ?_
    have e : (h ++ [[AV.v (.int .i64 id)]]).set b (intsA (delfL (fun x => x == id) c L.length)) = h.set b (intsA (delfL (fun x => x == id) c L.length)) ++ [[AV.v (.int .i64 id)]] := List.set_append_left _ _ hbl
    rw [e]
    simp [hh, hbl, leqH_take]
    done
  · have := delfL_take (p := fun x => x == id) (c := c) (n := L.length)
    rwa [hk] at this
theorem without_x (id : Int) : Contract Try.prog 75 [.sl 0 [] none .exact, .v (.int .i64 id)] h (.sl 0 [] none .exact) h [] := by
  refine contract_of k75 mixed (by simp [c75]) fun hh hargs => ?_
  simp [c75]
  refine xcall_self (by simp) (delf_x _ _ _ _ _) ?_
  simp [hh]
  done
/-- What a call leaves that makes another list of one. -/
def FDoes (f : FuncId) (args : List AV) (lo : Nat) (h : List (List AV)) (o : Option Nat) (L' : List Int) : Prop :=
  ∃ h' o' c', Contract Try.prog f args h (foV o' L'.length) h' o.toList ∧ FoAt lo h' o' c' L' ∧ (∀ q, q < h.length → o ≠ some q → h'[q]? = h[q]?) ∧ h.length ≤ h'.length ∧ ∀ b, o' = some b → o = some b ∨ h.length ≤ b
theorem fone_c (ht : FoAt lo h o c L) (hlo : lo ≤ h.length) (hbig : L.length ≤ 900000) (op : Oc) : FDoes 68 [foV o L.length, .agg (ocC op)] lo h o (oneL L op) := by
  have h0 := ht.app [ocC op] (by simp [ocC])
  have hhas := fhas_c h0 op.id
  have hlt := ht.lt
  have hlt1 := h0.lt
  simp at hlt1
  have same : (∀ hh : ltLL h.length h, ltL h.length [foV o L.length, .agg (ocC op)] → xwp Try.prog ⟨h, [foV o L.length, .agg (ocC op)]⟩ c68.code (enter [foV o L.length, .agg (ocC op)] h) (kret c68.res h.length (foV o L.length) h [])) → FDoes 68 [foV o L.length, .agg (ocC op)] lo h o L := fun hx =>
    ⟨h, o, c, (contract_of k68 mixed (by simp [c68]) hx).wrs (fun q hq => by cases hq), ht, fun _ _ _ => rfl, Nat.le_refl _, fun b e => .inl e⟩
  have hfl := foV_lt ht L.length
  by_cases k1 : op.kind = 1
  · by_cases hx : op.id ∈ L
    · have hc : L.contains op.id = true := by simpa using hx
      have hp : oneL L op = L := by unfold oneL; rw [if_pos k1, if_pos hc]
      rw [hp]
      rw [hc] at hhas
      refine same fun hh hargs => ?_
      simp only [ocC] at hhas
      rw [k1] at hhas
      simp [c68, ocC, k1]
      refine xcall_self (by simp) hhas ?_
      simp [hh, hfl]
      done
    · have hc : L.contains op.id = false := by simpa using hx
      have hp : oneL L op = L ++ [op.id] := by unfold oneL; rw [if_pos k1, if_neg (by rw [hc]; simp)]
      rw [hp]
      rw [hc] at hhas
      simp only [ocC] at hhas hlt1
      rw [k1] at hhas
      cases o with
      | none =>
        have hL := ht.emp rfl
        subst hL
        refine ⟨h ++ [[.v (.int .i64 1), .v (.int .i64 op.id)], intsA [op.id]], some (h.length + 1), [op.id], ?_, ⟨fun e => by (cases e), fun b e => ?_, ?_⟩, fun q hq _ => List.getElem?_append_left hq, by simp, fun b e => by injection e with e; right; omega⟩
        · refine contract_of k68 mixed (by simp [c68]) fun hh hargs => ?_
          simp [foV] at hhas
          simp [c68, ocC, k1, foV]
          refine xcall_self (by simp) hhas ?_
          simp
          refine xap_x ?_
          have hl2 := ltLL_mono (Nat.le_add_right h.length 2) hh
          simp [hl2, leqH_take]
          done
        · injection e with e; subst e
          exact ⟨by rw [List.getElem?_append_right (by omega), show h.length + 1 - h.length = 1 by omega]; rfl, by simp, by simp, by simp, by omega⟩
        · simp
          exact ltLL_mono (by omega) hlt
      | some b =>
        obtain ⟨r1, r2, r3, r4, r5⟩ := ht.row b rfl
        have hbl := (List.getElem?_eq_some_iff.1 r1).1
        have e1 : (h ++ [[AV.v (.int .i64 1), .v (.int .i64 op.id)]])[b]? = some (intsA c) := by rw [List.getElem?_append_left hbl]; exact r1
        have e2 : (h ++ [[AV.v (.int .i64 1), .v (.int .i64 op.id)]]).set b [] = h.set b [] ++ [[AV.v (.int .i64 1), .v (.int .i64 op.id)]] := List.set_append_left _ _ hbl
        refine ⟨h.set b [] ++ [[.v (.int .i64 1), .v (.int .i64 op.id)], intsA (L ++ [op.id])], some (h.length + 1), L ++ [op.id], ?_, ⟨fun e => by (cases e), fun b' e => ?_, ?_⟩, fun q hq hne => ?_, by simp, fun b' e => by injection e with e; right; omega⟩
        · refine contract_of k68 mixed (by simp [c68]) fun hh hargs => ?_
          simp only [foV] at hhas
          simp [c68, ocC, k1, foV]
          refine xcall_self (by simp) hhas ?_
          simp
          refine xap_b e1 r2 r3 (by omega) ?_
          rw [r4, e2]
          have hl2 := ltLL_mono (Nat.le_add_right h.length 2) hh
          simp [hl2, hbl, leqH_take]
          done
        · injection e with e; subst e
          exact ⟨by rw [List.getElem?_append_right (by simp), List.length_set, show h.length + 1 - h.length = 1 by omega]; rfl, by simp, by simp, by simp, by omega⟩
        · simp
          exact ltLL_set (ltLL_mono (by omega) hlt) (by simp)
        · rw [List.getElem?_append_left (by simp; exact hq), List.getElem?_set_ne (fun e => hne (by rw [e]))]
  by_cases k2 : op.kind = 2
  · have hp : oneL L op = remI L op.id := by unfold oneL; rw [if_neg k1, if_pos k2]
    rw [hp]
    simp only [ocC] at hhas hlt1
    rw [k2] at hhas
    cases o with
    | none =>
      have hL := ht.emp rfl
      subst hL
      refine same fun hh hargs => ?_
      simp [foV] at hhas
      simp [c68, ocC, k2, foV]
      refine xcall_self (by simp) hhas ?_
      simp
      refine xcall_self (by simp) (without_x _) ?_
      simp [hh]
      done
    | some b =>
      obtain ⟨r1, r2, r3, r4, r5⟩ := ht.row b rfl
      have hbl := (List.getElem?_eq_some_iff.1 r1).1
      have e1 : (h ++ [[AV.v (.int .i64 2), .v (.int .i64 op.id)]])[b]? = some (intsA c) := by rw [List.getElem?_append_left hbl]; exact r1
      obtain ⟨c', w1, w2, w3⟩ := without_b e1 r3 r4 (by omega) op.id
      have e2 : (h ++ [[AV.v (.int .i64 2), .v (.int .i64 op.id)]]).set b (intsA c') = h.set b (intsA c') ++ [[AV.v (.int .i64 2), .v (.int .i64 op.id)]] := List.set_append_left _ _ hbl
      have hc' : c' ≠ [] := fun e => r2 (List.eq_nil_of_length_eq_zero (by rw [← w2, e]; rfl))
      refine ⟨h.set b (intsA c'), some b, c', ?_, ⟨fun e => by (cases e), fun b' e => ?_, ?_⟩, fun q hq hne => ?_, by simp, fun b' e => .inl e⟩
      · refine contract_of k68 mixed (by simp [c68]) fun hh hargs => ?_
        simp only [foV] at hhas
        simp [c68, ocC, k2, foV]
        refine xcall_self (by simp) hhas ?_
        simp
        refine xcall_self (by simp) w1 ?_
        rw [e2]
        simp [hh, hbl, leqH_take]
        done
      · injection e with e; subst e
        exact ⟨List.getElem?_set_self hbl, hc', by have := remI_le L op.id; omega, w3, r5⟩
      · rw [List.length_set]; exact ltLL_set hlt (by simp)
      · rw [List.getElem?_set_ne (fun e => hne (by rw [e]))]
  by_cases k3 : op.kind = 3
  · by_cases hx : op.id ∈ L
    · have hc : L.contains op.id = true := by simpa using hx
      have hp : oneL L op = remI L op.id ++ [op.id] := by unfold oneL touchL; rw [if_neg k1, if_neg k2, if_pos k3, if_pos hc]
      rw [hp]
      rw [hc] at hhas
      simp only [ocC] at hhas hlt1
      rw [k3] at hhas
      cases o with
      | none => rw [ht.emp rfl] at hx; cases hx
      | some b =>
        obtain ⟨r1, r2, r3, r4, r5⟩ := ht.row b rfl
        have hbl := (List.getElem?_eq_some_iff.1 r1).1
        have e1 : (h ++ [[AV.v (.int .i64 3), .v (.int .i64 op.id)]])[b]? = some (intsA c) := by rw [List.getElem?_append_left hbl]; exact r1
        obtain ⟨c', w1, w2, w3⟩ := without_b e1 r3 r4 (by omega) op.id
        have hc' : c' ≠ [] := fun e => r2 (List.eq_nil_of_length_eq_zero (by rw [← w2, e]; rfl))
        have hrl := remI_le L op.id
        have e2 : (h ++ [[AV.v (.int .i64 3), .v (.int .i64 op.id)]]).set b (intsA c') = h.set b (intsA c') ++ [[AV.v (.int .i64 3), .v (.int .i64 op.id)]] := List.set_append_left _ _ hbl
        rw [e2] at w1
        have e3 : (h.set b (intsA c') ++ [[AV.v (.int .i64 3), .v (.int .i64 op.id)]])[b]? = some (intsA c') := by rw [List.getElem?_append_left (by simp; exact hbl), List.getElem?_set_self hbl]
        have e4 : (h.set b (intsA c') ++ [[AV.v (.int .i64 3), .v (.int .i64 op.id)]]).set b [] = h.set b [] ++ [[AV.v (.int .i64 3), .v (.int .i64 op.id)]] := by rw [List.set_append_left _ _ (by simp; exact hbl), List.set_set]
        refine ⟨h.set b [] ++ [[.v (.int .i64 3), .v (.int .i64 op.id)], intsA (remI L op.id ++ [op.id])], some (h.length + 1), remI L op.id ++ [op.id], ?_, ⟨fun e => by (cases e), fun b' e => ?_, ?_⟩, fun q hq hne => ?_, by simp, fun b' e => by injection e with e; right; omega⟩
        · refine contract_of k68 mixed (by simp [c68]) fun hh hargs => ?_
          have hl2 := ltLL_mono (Nat.le_add_right h.length 2) hh
          simp only [foV] at hhas
          simp [c68, ocC, k3, foV]
          refine xcall_self (by simp) hhas ?_
          simp
          refine ⟨?_, ?_⟩
          · refine xcall_self (by simp) w1 ?_
            simp
            have nb : ¬ h.length = b := by omega
            refine ⟨nb, xap_b (n := (remI L op.id).length) e3 hc' (by omega) (by omega) ?_⟩
            rw [w3, e4]
            simp [hl2, hbl, leqH_take, nb]
            done
          · refine xcall_self (by simp) w1 ?_
            simp
            have nb : ¬ h.length = b := by omega
            refine ⟨nb, xap_b (n := (remI L op.id).length) e3 hc' (by omega) (by omega) ?_⟩
            rw [w3, e4]
            simp [hl2, hbl, leqH_take, nb]
            done
        · injection e with e; subst e
          exact ⟨by rw [List.getElem?_append_right (by simp), List.length_set, show h.length + 1 - h.length = 1 by omega]; rfl, by simp, by simp, by simp, by omega⟩
        · simp
          exact ltLL_set (ltLL_mono (by omega) hlt) (by simp)
        · rw [List.getElem?_append_left (by simp; exact hq), List.getElem?_set_ne (fun e => hne (by rw [e]))]
    · have hc : L.contains op.id = false := by simpa using hx
      have hp : oneL L op = L := by unfold oneL touchL; rw [if_neg k1, if_neg k2, if_pos k3, if_neg (by rw [hc]; simp)]
      rw [hp]
      rw [hc] at hhas
      refine same fun hh hargs => ?_
      simp only [ocC] at hhas
      rw [k3] at hhas
      simp [c68, ocC, k3]
      refine xcall_self (by simp) hhas ?_
      simp [hh, hfl]
      done
  · have hp : oneL L op = L := by unfold oneL; rw [if_neg k1, if_neg k2, if_neg k3]
    rw [hp]
    refine same fun hh hargs => ?_
    simp only [ocC] at hhas
    have b1 : (op.kind == 1) = false := by simpa using k1
    have b2 : (op.kind == 2) = false := by simpa using k2
    have b3 : (op.kind == 3) = false := by simpa using k3
    cases hb : L.contains op.id with
    | true =>
      rw [hb] at hhas
      simp [c68, ocC, k1, k2, k3]
      refine xcall_self (by simp) hhas ?_
      simp [hh, hfl, k1, k2, k3, b1, b2, b3]
      done
    | false =>
      rw [hb] at hhas
      simp [c68, ocC, k1, k2, k3]
      refine xcall_self (by simp) hhas ?_
      simp [hh, hfl, k1, k2, k3, b1, b2, b3]
      done
end
end Go.Proofs.Ytabfaambilbpeaa.Ax
