/- What a server must be told ahead, over values without memory: that the code answers as the document. -/
import Derived.Test.YtkcampfbpmjacaaQAxX
import Derived.Test.YtkcampfbpmjacaaRows
import Derived.Test.YtkcampfbpmjacaaQAxTz
import Derived.Test.YtkcampfbpmjacaaQAxFp
import Derived.Test.YtkcampfbpmjacaaQAxNa
import Derived.Test.YtkcampfbpmjacaaQAxJc
import Derived.Test.YtkcampfbpmjacaaQAxDg
/- The texts of functions over values without memory, as the kernel reckons them out of the program. -/
namespace Go.Proofs.Ytkcampfbpmjacaa.Ax
open Go.RowKit Go By

def c21 : XFun := ⟨9, (.seq (.ops [⟨(some 4), (.assign (.const (.slice none 0 0))), none⟩]) (.seq (.ops [⟨(some 5), (.move (.tmp 0)), none⟩, ⟨(some 6), (.call 40 [(.tmp 5)]), none⟩, ⟨(some 7), (.move (.tmp 1)), none⟩, ⟨(some 8), (.call 51 [(.tmp 6), (.tmp 7)]), none⟩, ⟨(some 4), (.assign (.tmp 8)), none⟩]) .ret)), [(.move (.tmp 4))]⟩
theorem k21 : cfun Try.prog 21 = some c21 := by kernel_rfl
def c51 : XFun := ⟨18, (.seq (.ops [⟨(some 4), (.assign (.const (.slice none 0 0))), none⟩]) (.seq (.seq (.ops [⟨(some 7), (.move (.tmp 1)), none⟩, ⟨(some 8), (.lenL (.tmp 7)), none⟩, ⟨(some 9), (.move (.const (.int .i64 0))), none⟩]) (.block 0 (.loop (.seq (.ops [⟨(some 10), (.bin .lss (.tmp 9) (.tmp 8)), none⟩]) (.seq (.cond (.tmp 10) .skip (.exit 0)) (.seq (.block 1 (.seq (.ops [⟨(some 11), (.iaddr 2 (.tmp 7) (.tmp 9)), none⟩, ⟨(some 12), (.loadN 2 (.tmp 11)), none⟩, ⟨(some 6), (.alloc [(.v (.int .i64 0)), (.v (.int .i64 0))]), none⟩, ⟨none, (.store 2 (.tmp 6) (.tmp 12)), none⟩]) (.ops [⟨(some 13), (.move (.tmp 0)), none⟩, ⟨(some 14), (.loadN 2 (.tmp 6)), none⟩, ⟨(some 15), (.call 73 [(.tmp 13), (.tmp 14)]), none⟩, ⟨(some 0), (.assign (.tmp 15)), none⟩]))) (.ops [⟨(some 16), (.bin .add (.tmp 9) (.const (.int .i64 1))), none⟩, ⟨(some 9), (.move (.tmp 16)), none⟩]))))))) (.seq (.ops [⟨(some 17), (.move (.tmp 0)), none⟩, ⟨(some 4), (.assign (.tmp 17)), none⟩]) .ret))), [(.move (.tmp 4))]⟩
theorem k51 : cfun Try.prog 51 = some c51 := by kernel_rfl
def c73 : XFun := ⟨47, (.seq (.ops [⟨(some 3), (.box (.tmp 1)), none⟩, ⟨(some 4), (.assign (.const (.slice none 0 0))), none⟩]) (.seq (.ops [⟨(some 6), (.move (.tmp 0)), none⟩, ⟨(some 7), (.faddr 1 (.tmp 3)), none⟩, ⟨(some 8), (.load1 (.tmp 7)), none⟩, ⟨(some 9), (.call 19 [(.tmp 6), (.tmp 8)]), none⟩, ⟨(some 5), (.assign (.tmp 9)), none⟩]) (.seq (.block 0 (.seq (.ops [⟨(some 11), (.faddr 0 (.tmp 3)), none⟩, ⟨(some 12), (.load1 (.tmp 11)), none⟩, ⟨(some 13), (.bin .eql (.tmp 12) (.const (.int .i64 1))), none⟩, ⟨(some 14), (.move (.tmp 13)), none⟩, ⟨(some 15), (.move (.tmp 5)), (some (14, true))⟩, ⟨(some 16), (.un .not (.tmp 15)), (some (14, true))⟩, ⟨(some 17), (.pick (.tmp 14) (.tmp 16) (.const (.bool false))), none⟩, ⟨(some 10), (.assign (.tmp 17)), none⟩]) (.cond (.tmp 10) (.seq (.ops [⟨(some 18), (.move (.tmp 0)), none⟩, ⟨(some 19), (.faddr 1 (.tmp 3)), none⟩, ⟨(some 20), (.load1 (.tmp 19)), none⟩, ⟨(some 21), (.buildSlice 1 1 [(.v (.int .i64 0))] [(0, (.tmp 20))]), none⟩, ⟨(some 22), (.append 1 8 (.tmp 18) (.tmp 21)), none⟩, ⟨(some 4), (.assign (.tmp 22)), none⟩]) .ret) (.seq (.ops [⟨(some 24), (.faddr 0 (.tmp 3)), none⟩, ⟨(some 25), (.load1 (.tmp 24)), none⟩, ⟨(some 26), (.bin .eql (.tmp 25) (.const (.int .i64 2))), none⟩, ⟨(some 23), (.assign (.tmp 26)), none⟩]) (.cond (.tmp 23) (.seq (.ops [⟨(some 27), (.move (.tmp 0)), none⟩, ⟨(some 28), (.faddr 1 (.tmp 3)), none⟩, ⟨(some 29), (.load1 (.tmp 28)), none⟩, ⟨(some 30), (.call 89 [(.tmp 27), (.tmp 29)]), none⟩, ⟨(some 4), (.assign (.tmp 30)), none⟩]) .ret) (.seq (.ops [⟨(some 32), (.faddr 0 (.tmp 3)), none⟩, ⟨(some 33), (.load1 (.tmp 32)), none⟩, ⟨(some 34), (.bin .eql (.tmp 33) (.const (.int .i64 3))), none⟩, ⟨(some 35), (.move (.tmp 34)), none⟩, ⟨(some 36), (.move (.tmp 5)), (some (35, true))⟩, ⟨(some 37), (.pick (.tmp 35) (.tmp 36) (.const (.bool false))), none⟩, ⟨(some 31), (.assign (.tmp 37)), none⟩]) (.cond (.tmp 31) (.seq (.draws (.take ⟨(some 38), (.move (.tmp 0)), none⟩ (.take ⟨(some 39), (.faddr 1 (.tmp 3)), none⟩ (.take ⟨(some 40), (.load1 (.tmp 39)), none⟩ (.take ⟨(some 42), (.faddr 1 (.tmp 3)), none⟩ (.take ⟨(some 43), (.load1 (.tmp 42)), none⟩ (.two ⟨(some 41), (.call 89 [(.tmp 38), (.tmp 40)]), none⟩ ⟨(some 44), (.buildSlice 1 1 [(.v (.int .i64 0))] [(0, (.tmp 43))]), none⟩ (.only ⟨(some 44), (.buildSlice 1 1 [(.v (.int .i64 0))] [(0, (.tmp 43))]), none⟩ (.only ⟨(some 45), (.append 1 8 (.tmp 41) (.tmp 44)), none⟩ (.take ⟨(some 4), (.assign (.tmp 45)), none⟩ .done))) (.only ⟨(some 41), (.call 89 [(.tmp 38), (.tmp 40)]), none⟩ (.only ⟨(some 45), (.append 1 8 (.tmp 41) (.tmp 44)), none⟩ (.take ⟨(some 4), (.assign (.tmp 45)), none⟩ .done)))))))))) .ret) .skip))))))) (.seq (.ops [⟨(some 46), (.move (.tmp 0)), none⟩, ⟨(some 4), (.assign (.tmp 46)), none⟩]) .ret)))), [(.move (.tmp 4))]⟩
theorem k73 : cfun Try.prog 73 = some c73 := by kernel_rfl
def c89 : XFun := ⟨8, (.seq (.ops [⟨(some 3), (.box (.tmp 1)), none⟩, ⟨(some 4), (.assign (.const (.slice none 0 0))), none⟩]) (.seq (.ops [⟨(some 5), (.move (.tmp 0)), none⟩, ⟨(some 6), (.mkfn (.func 93) [] [(.tmp 3)]), none⟩, ⟨(some 7), (.call 92 [(.tmp 5), (.tmp 6)]), none⟩, ⟨(some 4), (.assign (.tmp 7)), none⟩]) .ret)), [(.move (.tmp 4))]⟩
theorem k89 : cfun Try.prog 89 = some c89 := by kernel_rfl
def c93 : XFun := ⟨7, (.seq (.ops [⟨(some 3), (.assign (.const (.bool false))), none⟩]) (.seq (.ops [⟨(some 4), (.move (.tmp 0)), none⟩, ⟨(some 5), (.load1 (.tmp 1)), none⟩, ⟨(some 6), (.bin .eql (.tmp 4) (.tmp 5)), none⟩, ⟨(some 3), (.assign (.tmp 6)), none⟩]) .ret)), [(.move (.tmp 3))]⟩
theorem k93 : cfun Try.prog 93 = some c93 := by kernel_rfl
def c92 : XFun := ⟨42, (.seq (.ops [⟨(some 4), (.assign (.const (.slice none 0 0))), none⟩]) (.seq (.ops [⟨(some 8), (.move (.tmp 0)), none⟩, ⟨(some 9), (.move (.tmp 1)), none⟩, ⟨(some 10), (.call 83 [(.tmp 8), (.tmp 9)]), none⟩, ⟨(some 5), (.assign (.tmp 10)), none⟩]) (.seq (.seq (.ops [⟨(some 11), (.move (.tmp 5)), none⟩, ⟨(some 12), (.bin .eql (.tmp 11) (.const (.int .i64 (-1)))), none⟩]) (.cond (.tmp 12) (.seq (.ops [⟨(some 13), (.move (.tmp 0)), none⟩, ⟨(some 4), (.assign (.tmp 13)), none⟩]) .ret) .skip)) (.seq (.seq (.ops [⟨(some 14), (.move (.tmp 5)), none⟩, ⟨(some 15), (.bin .add (.tmp 14) (.const (.int .i64 1))), none⟩, ⟨(some 6), (.assign (.tmp 15)), none⟩]) (.block 0 (.loop (.seq (.seq (.ops [⟨(some 16), (.move (.tmp 6)), none⟩, ⟨(some 17), (.move (.tmp 0)), none⟩, ⟨(some 18), (.lenL (.tmp 17)), none⟩, ⟨(some 19), (.bin .lss (.tmp 16) (.tmp 18)), none⟩]) (.cond (.tmp 19) .skip (.exit 0))) (.seq (.block 1 (.seq (.ops [⟨(some 22), (.move (.tmp 0)), none⟩, ⟨(some 23), (.move (.tmp 6)), none⟩, ⟨(some 24), (.iaddr 1 (.tmp 22) (.tmp 23)), none⟩, ⟨(some 25), (.load1 (.tmp 24)), none⟩, ⟨(some 7), (.assign (.tmp 25)), none⟩]) (.seq (.ops [⟨(some 26), (.move (.tmp 1)), none⟩, ⟨(some 27), (.move (.tmp 7)), none⟩, ⟨(some 28), (.callv (.tmp 26) [(.tmp 27)]), none⟩, ⟨(some 29), (.un .not (.tmp 28)), none⟩]) (.cond (.tmp 29) (.seq (.ops [⟨(some 30), (.move (.tmp 0)), none⟩, ⟨(some 31), (.move (.tmp 5)), none⟩, ⟨(some 32), (.move (.tmp 7)), none⟩, ⟨(some 33), (.iaddr 1 (.tmp 30) (.tmp 31)), none⟩, ⟨none, (.store 1 (.tmp 33) (.tmp 32)), none⟩]) (.ops [⟨(some 34), (.move (.tmp 5)), none⟩, ⟨(some 35), (.bin .add (.tmp 34) (.const (.int .i64 1))), none⟩, ⟨(some 5), (.assign (.tmp 35)), none⟩])) .skip)))) (.ops [⟨(some 20), (.move (.tmp 6)), none⟩, ⟨(some 21), (.bin .add (.tmp 20) (.const (.int .i64 1))), none⟩, ⟨(some 6), (.assign (.tmp 21)), none⟩])))))) (.seq (.ops [⟨(some 36), (.move (.tmp 0)), none⟩, ⟨(some 37), (.move (.tmp 5)), none⟩, ⟨(some 38), (.slice 1 (.tmp 36) (some (.tmp 37)) none none), none⟩, ⟨none, (.clearS .i64 0 (.tmp 38)), none⟩]) (.seq (.ops [⟨(some 39), (.move (.tmp 0)), none⟩, ⟨(some 40), (.move (.tmp 5)), none⟩, ⟨(some 41), (.slice 1 (.tmp 39) none (some (.tmp 40)) none), none⟩, ⟨(some 4), (.assign (.tmp 41)), none⟩]) .ret)))))), [(.move (.tmp 4))]⟩
theorem k92 : cfun Try.prog 92 = some c92 := by kernel_rfl
def c40 : XFun := ⟨8, (.seq (.ops [⟨(some 2), (.assign (.const (.slice none 0 0))), none⟩]) (.seq (.seq (.ops [⟨(some 3), (.move (.tmp 0)), none⟩, ⟨(some 4), (.nileq false (.tmp 3)), none⟩]) (.cond (.tmp 4) (.seq (.ops [⟨(some 2), (.assign (.const (.slice none 0 0))), none⟩]) .ret) .skip)) (.seq (.ops [⟨(some 5), (.emptyS 1), none⟩, ⟨(some 6), (.move (.tmp 0)), none⟩, ⟨(some 7), (.append 1 8 (.tmp 5) (.tmp 6)), none⟩, ⟨(some 2), (.assign (.tmp 7)), none⟩]) .ret))), [(.move (.tmp 2))]⟩
theorem k40 : cfun Try.prog 40 = some c40 := by kernel_rfl
def c37 : XFun := ⟨18, (.seq (.ops [⟨(some 4), (.assign (.const (.bool false))), none⟩]) (.seq (.seq (.ops [⟨(some 5), (.assign (.const (.int .i64 0))), none⟩]) (.block 0 (.loop (.seq (.seq (.ops [⟨(some 6), (.move (.tmp 5)), none⟩, ⟨(some 7), (.move (.tmp 0)), none⟩, ⟨(some 8), (.lenL (.tmp 7)), none⟩, ⟨(some 9), (.bin .lss (.tmp 6) (.tmp 8)), none⟩]) (.cond (.tmp 9) .skip (.exit 0))) (.seq (.block 1 (.seq (.ops [⟨(some 12), (.move (.tmp 0)), none⟩, ⟨(some 13), (.move (.tmp 5)), none⟩, ⟨(some 14), (.iaddr 1 (.tmp 12) (.tmp 13)), none⟩, ⟨(some 15), (.load1 (.tmp 14)), none⟩, ⟨(some 16), (.move (.tmp 1)), none⟩, ⟨(some 17), (.bin .eql (.tmp 15) (.tmp 16)), none⟩]) (.cond (.tmp 17) (.seq (.ops [⟨(some 4), (.assign (.const (.bool true))), none⟩]) .ret) .skip))) (.ops [⟨(some 10), (.move (.tmp 5)), none⟩, ⟨(some 11), (.bin .add (.tmp 10) (.const (.int .i64 1))), none⟩, ⟨(some 5), (.assign (.tmp 11)), none⟩])))))) (.seq (.ops [⟨(some 4), (.assign (.const (.bool false))), none⟩]) .ret))), [(.move (.tmp 4))]⟩
theorem k37 : cfun Try.prog 37 = some c37 := by kernel_rfl
def c74 : XFun := ⟨27, (.seq (.ops [⟨(some 4), (.assign (.const (.slice none 0 0))), none⟩]) (.seq (.ops [⟨(some 5), (.assign (.const (.slice none 0 0))), none⟩]) (.seq (.seq (.ops [⟨(some 6), (.assign (.const (.int .i64 0))), none⟩]) (.block 0 (.loop (.seq (.seq (.ops [⟨(some 7), (.move (.tmp 6)), none⟩, ⟨(some 8), (.move (.tmp 0)), none⟩, ⟨(some 9), (.lenL (.tmp 8)), none⟩, ⟨(some 10), (.bin .lss (.tmp 7) (.tmp 9)), none⟩]) (.cond (.tmp 10) .skip (.exit 0))) (.seq (.block 1 (.seq (.ops [⟨(some 13), (.move (.tmp 0)), none⟩, ⟨(some 14), (.move (.tmp 6)), none⟩, ⟨(some 15), (.iaddr 1 (.tmp 13) (.tmp 14)), none⟩, ⟨(some 16), (.load1 (.tmp 15)), none⟩, ⟨(some 17), (.move (.tmp 1)), none⟩, ⟨(some 18), (.bin .neq (.tmp 16) (.tmp 17)), none⟩]) (.cond (.tmp 18) (.ops [⟨(some 19), (.move (.tmp 5)), none⟩, ⟨(some 20), (.move (.tmp 0)), none⟩, ⟨(some 21), (.move (.tmp 6)), none⟩, ⟨(some 22), (.iaddr 1 (.tmp 20) (.tmp 21)), none⟩, ⟨(some 23), (.load1 (.tmp 22)), none⟩, ⟨(some 24), (.buildSlice 1 1 [(.v (.int .i64 0))] [(0, (.tmp 23))]), none⟩, ⟨(some 25), (.append 1 8 (.tmp 19) (.tmp 24)), none⟩, ⟨(some 5), (.assign (.tmp 25)), none⟩]) .skip))) (.ops [⟨(some 11), (.move (.tmp 6)), none⟩, ⟨(some 12), (.bin .add (.tmp 11) (.const (.int .i64 1))), none⟩, ⟨(some 6), (.assign (.tmp 12)), none⟩])))))) (.seq (.ops [⟨(some 26), (.move (.tmp 5)), none⟩, ⟨(some 4), (.assign (.tmp 26)), none⟩]) .ret)))), [(.move (.tmp 4))]⟩
theorem k74 : cfun Try.prog 74 = some c74 := by kernel_rfl
def c52 : XFun := ⟨42, (.seq (.ops [⟨(some 3), (.box (.tmp 1)), none⟩, ⟨(some 4), (.assign (.const (.slice none 0 0))), none⟩]) (.seq (.seq (.ops [⟨(some 5), (.faddr 0 (.tmp 3)), none⟩, ⟨(some 6), (.load1 (.tmp 5)), none⟩]) (.block 0 (.seq (.ops [⟨(some 8), (.bin .eql (.tmp 6) (.const (.int .i64 1))), none⟩, ⟨(some 7), (.assign (.tmp 8)), none⟩]) (.cond (.tmp 7) (.seq (.ops [⟨(some 9), (.move (.tmp 0)), none⟩, ⟨(some 10), (.faddr 1 (.tmp 3)), none⟩, ⟨(some 11), (.load1 (.tmp 10)), none⟩, ⟨(some 12), (.call 37 [(.tmp 9), (.tmp 11)]), none⟩, ⟨(some 13), (.un .not (.tmp 12)), none⟩]) (.cond (.tmp 13) (.seq (.draws (.take ⟨(some 14), (.move (.tmp 0)), none⟩ (.take ⟨(some 16), (.faddr 1 (.tmp 3)), none⟩ (.take ⟨(some 17), (.load1 (.tmp 16)), none⟩ (.two ⟨(some 15), (.append 1 8 (.const (.slice none 0 0)) (.tmp 14)), none⟩ ⟨(some 18), (.buildSlice 1 1 [(.v (.int .i64 0))] [(0, (.tmp 17))]), none⟩ (.only ⟨(some 18), (.buildSlice 1 1 [(.v (.int .i64 0))] [(0, (.tmp 17))]), none⟩ (.only ⟨(some 19), (.append 1 8 (.tmp 15) (.tmp 18)), none⟩ (.take ⟨(some 4), (.assign (.tmp 19)), none⟩ .done))) (.only ⟨(some 15), (.append 1 8 (.const (.slice none 0 0)) (.tmp 14)), none⟩ (.only ⟨(some 19), (.append 1 8 (.tmp 15) (.tmp 18)), none⟩ (.take ⟨(some 4), (.assign (.tmp 19)), none⟩ .done)))))))) .ret) .skip)) (.seq (.ops [⟨(some 21), (.bin .eql (.tmp 6) (.const (.int .i64 2))), none⟩, ⟨(some 20), (.assign (.tmp 21)), none⟩]) (.cond (.tmp 20) (.seq (.ops [⟨(some 22), (.move (.tmp 0)), none⟩, ⟨(some 23), (.faddr 1 (.tmp 3)), none⟩, ⟨(some 24), (.load1 (.tmp 23)), none⟩, ⟨(some 25), (.call 74 [(.tmp 22), (.tmp 24)]), none⟩, ⟨(some 4), (.assign (.tmp 25)), none⟩]) .ret) (.seq (.ops [⟨(some 27), (.bin .eql (.tmp 6) (.const (.int .i64 3))), none⟩, ⟨(some 26), (.assign (.tmp 27)), none⟩]) (.cond (.tmp 26) (.seq (.ops [⟨(some 28), (.move (.tmp 0)), none⟩, ⟨(some 29), (.faddr 1 (.tmp 3)), none⟩, ⟨(some 30), (.load1 (.tmp 29)), none⟩, ⟨(some 31), (.call 37 [(.tmp 28), (.tmp 30)]), none⟩]) (.cond (.tmp 31) (.seq (.draws (.take ⟨(some 32), (.move (.tmp 0)), none⟩ (.take ⟨(some 33), (.faddr 1 (.tmp 3)), none⟩ (.take ⟨(some 34), (.load1 (.tmp 33)), none⟩ (.take ⟨(some 36), (.faddr 1 (.tmp 3)), none⟩ (.take ⟨(some 37), (.load1 (.tmp 36)), none⟩ (.two ⟨(some 35), (.call 74 [(.tmp 32), (.tmp 34)]), none⟩ ⟨(some 38), (.buildSlice 1 1 [(.v (.int .i64 0))] [(0, (.tmp 37))]), none⟩ (.only ⟨(some 38), (.buildSlice 1 1 [(.v (.int .i64 0))] [(0, (.tmp 37))]), none⟩ (.only ⟨(some 39), (.append 1 8 (.tmp 35) (.tmp 38)), none⟩ (.take ⟨(some 4), (.assign (.tmp 39)), none⟩ .done))) (.only ⟨(some 35), (.call 74 [(.tmp 32), (.tmp 34)]), none⟩ (.only ⟨(some 39), (.append 1 8 (.tmp 35) (.tmp 38)), none⟩ (.take ⟨(some 4), (.assign (.tmp 39)), none⟩ .done)))))))))) .ret) .skip)) .skip)))))))) (.seq (.ops [⟨(some 40), (.move (.tmp 0)), none⟩, ⟨(some 41), (.append 1 8 (.const (.slice none 0 0)) (.tmp 40)), none⟩, ⟨(some 4), (.assign (.tmp 41)), none⟩]) .ret))), [(.move (.tmp 4))]⟩
theorem k52 : cfun Try.prog 52 = some c52 := by kernel_rfl
def c23 : XFun := ⟨22, (.seq (.ops [⟨(some 4), (.assign (.const (.slice none 0 0))), none⟩]) (.seq (.ops [⟨(some 7), (.move (.tmp 0)), none⟩, ⟨(some 8), (.append 1 8 (.const (.slice none 0 0)) (.tmp 7)), none⟩, ⟨(some 5), (.assign (.tmp 8)), none⟩]) (.seq (.seq (.ops [⟨(some 6), (.assign (.const (.int .i64 0))), none⟩]) (.block 0 (.loop (.seq (.seq (.ops [⟨(some 9), (.move (.tmp 6)), none⟩, ⟨(some 10), (.move (.tmp 1)), none⟩, ⟨(some 11), (.lenL (.tmp 10)), none⟩, ⟨(some 12), (.bin .lss (.tmp 9) (.tmp 11)), none⟩]) (.cond (.tmp 12) .skip (.exit 0))) (.seq (.block 1 (.ops [⟨(some 15), (.move (.tmp 5)), none⟩, ⟨(some 16), (.move (.tmp 1)), none⟩, ⟨(some 17), (.move (.tmp 6)), none⟩, ⟨(some 18), (.iaddr 2 (.tmp 16) (.tmp 17)), none⟩, ⟨(some 19), (.loadN 2 (.tmp 18)), none⟩, ⟨(some 20), (.call 52 [(.tmp 15), (.tmp 19)]), none⟩, ⟨(some 5), (.assign (.tmp 20)), none⟩])) (.ops [⟨(some 13), (.move (.tmp 6)), none⟩, ⟨(some 14), (.bin .add (.tmp 13) (.const (.int .i64 1))), none⟩, ⟨(some 6), (.assign (.tmp 14)), none⟩])))))) (.seq (.ops [⟨(some 21), (.move (.tmp 5)), none⟩, ⟨(some 4), (.assign (.tmp 21)), none⟩]) .ret)))), [(.move (.tmp 4))]⟩
theorem k23 : cfun Try.prog 23 = some c23 := by kernel_rfl
end Go.Proofs.Ytkcampfbpmjacaa.Ax
/- What a server must be told ahead, over values without memory: inject, the document's answer, and a statement of layer 19. -/
namespace Go.Proofs.Ytkcampfbpmjacaa.Ax
open Go.RowKit Go By
set_option linter.unusedSimpArgs false
set_option linter.unusedVariables false
set_option maxRecDepth 10000

theorem equalF_mem {P : Program} (hm : P.follows .mixedOrders = true) {f g : FuncId} {z : List AV} {k : Nat} (hf : cfun P f = some (equalF z k)) (hz : z.length = k) {α : Type} (e : α → α → Bool) (c : α → List AV) (hc : ∀ x, (c x).length = k) (hu : ∀ x, (c x).map AV.unown = c x) (xs ys : List α) (h : List (List AV))
    (hg : ∀ x ∈ xs, ∀ y h, Contract P g [.agg (c x), .agg (c y)] h (.v (.bool (e x y))) h []) (hl : xs.length ≤ 140737488355328) :
    Contract P f [.sl k (enc c xs) none .no, .sl k (enc c ys) none .no, .fn (.func g) [] []] h (.v (.bool (eqL e xs ys))) h [] := by
  refine contract_of hf hm (by simp [equalF]) fun hh hargs => ?_
  simp at hargs
  have tk : ∀ x, (c x).take k = c x := fun x => List.take_of_length_le (by rw [hc]; exact Nat.le_refl _)
  by_cases hlen : xs.length = ys.length
  · simp [equalF, hlen]
    refine xloop_ok (D := Nat) (fun j => ⟨[(0, .sl k (enc c xs) none .no), (1, .sl k (enc c ys) none .no), (2, .fn (.func g) [] []), (15, .sl k (enc c xs) none .no), (16, .v (.int .i64 ys.length)), (17, .v (.int .i64 j))], [], h, []⟩) (fun j => j ≤ xs.length ∧ ∀ i (h1 : i < xs.length) (h2 : i < ys.length), i < j → e xs[i] ys[i] = true) (fun j => xs.length - j) 0 ⟨by omega, fun i h1 h2 h3 => by omega⟩ ?_ ?_
    · simp [Leq, hh, hargs]
    · rintro j ⟨hj, hp⟩
      simp
      refine xwp_cond_of (decide (j < ys.length)) (by simp) (fun hlt => ?_) (fun hge => ?_)
      · simp at hlt
        have hlt' : j < xs.length := by omega
        have hw : IntKind.i64.wrap ((j : Int) + 1) = (j : Int) + 1 := wrap64 (by omega) (by omega)
        simp [hlt, hlt', hc, hu, hz, lay_full, tk]
        refine xcall_self (by simp) (hg _ (List.getElem_mem hlt') _ _) ?_
        simp
        refine xwp_cond_of (!e xs[j] ys[j]) (by simp) (fun ht => ?_) (fun hf' => ?_)
        · simp at ht
          simp [hh, eqL_no hlt' hlt ht]
        · simp at hf'
          simp
          refine ⟨j + 1, ⟨by omega, fun i h1 h2 h3 => ?_⟩, by omega, ?_⟩
          · rcases Nat.lt_or_ge i j with h4 | h4
            · exact hp i h1 h2 h4
            · have : i = j := by omega
              subst this; exact hf'
          · simp [Leq, hh, hargs, hw]
      · simp at hge
        have hx : eqL e xs ys = true := (eqL_iff _ xs ys).2 ⟨hlen, fun i h1 h2 => hp i h1 h2 (by omega)⟩
        simp [hh, hx]
  · have hne : (xs.length : Int) ≠ ys.length := by omega
    have hx : eqL e xs ys = false := eqL_len hlen
    simp [equalF, hne, hh, hx]

/-! ### Names -/
theorem wf_small {n : Int} (h1 : 1 ≤ n) (h2 : n ≤ 2147483648) : (Lit.int .i64 n).wf = true := by
  simp [Lit.wf, IntKind.min, IntKind.max, IntKind.signed, IntKind.bits]
  omega
theorem nserver_any (n : Int) (h : List (List AV)) : Contract Try.prog 35 [.v (.int .i64 n)] h (.v (.string (strB (serverL n)))) h [] := by
  by_cases h1 : n < 1
  · refine contract_of k35 mixed (by simp [c35]) fun hh hargs => ?_
    simp [c35, h1, hh, serverL]
  · by_cases h2 : 2147483648 < n
    · refine contract_of k35 mixed (by simp [c35]) fun hh hargs => ?_
      simp [c35, h1, h2, hh, serverL]
    · exact nserver_c n (wf_small (by omega) (by omega)) h
theorem rnserver_any (n : Int) (h : List (List AV)) : Contract Try.prog 36 [.v (.int .i64 n)] h (.v (.string (strB (serverL n)))) h [] := by
  by_cases h1 : n < 1
  · refine contract_of k36 mixed (by simp [c36]) fun hh hargs => ?_
    simp [c36, h1, hh, serverL]
  · by_cases h2 : 2147483648 < n
    · refine contract_of k36 mixed (by simp [c36]) fun hh hargs => ?_
      simp [c36, h1, h2, hh, serverL]
    · exact rnserver_c n (wf_small (by omega) (by omega)) h

/-! ### What is told -/
def closeF (name : List UInt8) : Fm := ⟨67, 83, name, [], [], [], [], [], [], 0⟩
def parseF (name : List UInt8) (s : Sm) : Fm := ⟨80, 0, name, [], s.text, s.oids, [], [], [], 0⟩
def hidE (kind : Int) (op : Oc) : En := ⟨kind, true, [], [], [], [], [op], []⟩
def full19 (spec : List Int) (most : Int) : Bool := !(decide (spec.length = 0) || decide ((spec.length : Int) < most))
def roomF (spec : List Int) (most : Int) : List Fm := if full19 spec most = true then [closeF (serverL (spec.headD 0))] else []
def roomE (spec : List Int) (most : Int) : List En := if full19 spec most = true then [hidE 7 ⟨2, spec.headD 0⟩] else []
def readyF (spec : List Int) (most id : Int) (s : Sm) : List Fm := if spec.contains id then [] else roomF spec most ++ [parseF (serverL id) s]
def readyE (spec : List Int) (most id : Int) : List En := if spec.contains id then [] else roomE spec most ++ [hidE 2 ⟨1, id⟩]
theorem hidden_c (kind : Int) (ops : List Oc) (h : List (List AV)) : Contract Try.prog 34 [.v (.int .i64 kind), .sl 2 (enc ocC ops) none .no] h (.agg (enC ⟨kind, true, [], [], [], [], ops, []⟩)) h [] := by
  refine contract_of k34 mixed (by simp [c34]) fun hh hargs => ?_
  simp [c34, enC_mk, hh, leqH_take]
  done
theorem jclose_c (name : List UInt8) (h : List (List AV)) : Contract Try.prog 15 [.v (.string (strB name))] h (.agg (fmC (closeF name))) h [] := by
  refine contract_of k15 mixed (by simp [c15]) fun hh hargs => ?_
  simp [c15, fmC_mk, closeF, hh, leqH_take]
  done
theorem djclose_c (name : List UInt8) (h : List (List AV)) : Contract Try.prog 16 [.v (.string (strB name))] h (.agg (fmC (closeF name))) h [] := by
  refine contract_of k16 mixed (by simp [c16]) fun hh hargs => ?_
  simp [c16, fmC_mk, closeF, hh, leqH_take]
  done
theorem jclone_c (l : List Int) (hl : l.length ≤ 1000000) (h : List (List AV)) : Contract Try.prog 40 [.sl 1 (enc intC l) none .no] h (.sl 1 (enc intC l) none .no) h [] := by
  refine contract_nul (pre := []) (post := []) (fun he => ?_) ?_
  · have : l = [] := by cases l with | nil => rfl | cons _ _ => simp [enc] at he
    subst this
    refine contract_of k40 mixed (by simp [c40]) fun hh hargs => ?_
    simp [c40, hh, enc]
  · refine contract_of k40 mixed (by simp [c40]) fun hh hargs => ?_
    simp [c40, hh]
    refine xappendA_own ?_
    simp [hh]
    omega
theorem jparse_c (name : List UInt8) (s : Sm) (hs : s.oids.length ≤ 1000000) (h : List (List AV)) : Contract Try.prog 13 [.v (.string (strB name)), .agg (smC s)] h (.agg (fmC (parseF name s))) h [] := by
  refine contract_of k13 mixed (by simp [c13]) fun hh hargs => ?_
  simp [c13]
  refine xcall_self (by simp) (jclone_c s.oids hs _) ?_
  simp [fmC_mk, parseF, hh, leqH_take]
  done
theorem djparse_c (name : List UInt8) (s : Sm) (hs : s.oids.length ≤ 1000000) (h : List (List AV)) : Contract Try.prog 14 [.v (.string (strB name)), .agg (smC s)] h (.agg (fmC (parseF name s))) h [] := by
  refine contract_of k14 mixed (by simp [c14]) fun hh hargs => ?_
  simp [c14]
  refine xappendA_own ?_
  simp [fmC_mk, parseF, hh, leqH_take]
  omega

/-! ### Has a list a number? -/
theorem nothas_take {L : List Int} {x : Int} {j : Nat} (hj : j < L.length) (h : x ∉ L.take j) (e : ¬ L[j] = x) : x ∉ L.take (j + 1) := by
  rw [List.take_succ_eq_append_getElem hj]
  intro hm
  rcases List.mem_append.1 hm with h1 | h1
  · exact h h1
  · exact e (List.mem_singleton.1 h1).symm
theorem jindex_c {h : List (List AV)} {L : List Int} (hl : L.length ≤ 1000000) (x : Int) : ∃ n : Int, Contract Try.prog 43 [.sl 1 (enc intC L) none .no, .v (.int .i64 x)] h (.v (.int .i64 n)) h [] ∧ (decide (0 ≤ n) = L.contains x) := by
  refine ⟨if x ∈ L then (L.idxOf x : Int) else -1, ?_, ?_⟩
  · refine contract_of k43 mixed (by simp [c43]) fun hh hargs => ?_
    simp [c43]
    refine xloop_ok (D := Nat) (fun j => ⟨[(0, .sl 1 (enc intC L) none .no), (1, .v (.int .i64 x)), (7, .v (.int .i64 (L.length : Int))), (8, .v (.int .i64 (j : Int)))], [], h, []⟩) (fun j => j ≤ L.length ∧ x ∉ L.take j) (fun j => L.length - j) 0 ⟨by omega, by simp⟩ ?_ ?_
    · simp [Leq, hh, leqH_take]
      done
    · rintro j ⟨hj, hno⟩
      by_cases hlt : j < L.length
      · have hw : IntKind.i64.wrap ((j : Int) + 1) = (j : Int) + 1 := wrap64 (by omega) (by omega)
        by_cases e : L[j] = x
        · have hm : x ∈ L := e ▸ List.getElem_mem hlt
          have hi : L.idxOf x = j := by
            have hx := List.take_append_drop j L
            rw [← hx, List.idxOf_append, if_neg hno, List.drop_eq_getElem_cons hlt, e, List.idxOf_cons_self, List.length_take]
            omega
          have e2 : x = L[j] := e.symm
          simp [hlt, intC, e, hh, hm, hi]
          done
        · have e2 : ¬ x = L[j] := fun k => e k.symm
          have e3 : (x == L[j]) = false := by simpa using e2
          simp [hlt, intC, e2, e3, hw]
          refine ⟨j + 1, ⟨by omega, nothas_take hlt hno e⟩, by omega, ?_⟩
          simp [Leq, hh, leqH_take]
          done
      · have : j = L.length := by omega
        subst this
        rw [List.take_length] at hno
        simp [hh, hno]
        done
  · by_cases hm : x ∈ L
    · rw [if_pos hm]; simp [hm]
    · rw [if_neg hm]; simp [hm]
theorem jhas_c {h : List (List AV)} {L : List Int} (hl : L.length ≤ 1000000) (x : Int) : Contract Try.prog 19 [.sl 1 (enc intC L) none .no, .v (.int .i64 x)] h (.v (.bool (L.contains x))) h [] := by
  refine contract_of k19 mixed (by simp [c19]) fun hh hargs => ?_
  obtain ⟨n, k1, k2⟩ := jindex_c (h := h) hl x
  simp [c19]
  refine xcall_self (by simp) k1 ?_
  have k3 : decide (0 ≤ n) = decide (x ∈ L) := by rw [k2]; simp
  simp [hh, k3]
  done
theorem djhas_c {h : List (List AV)} {L : List Int} (hl : L.length ≤ 1000000) (x : Int) : Contract Try.prog 37 [.sl 1 (enc intC L) none .no, .v (.int .i64 x)] h (.v (.bool (L.contains x))) h [] := by
  refine contract_of k37 mixed (by simp [c37]) fun hh hargs => ?_
  simp [c37]
  refine xloop_ok (D := Nat) (fun j => ⟨[(0, .sl 1 (enc intC L) none .no), (1, .v (.int .i64 x)), (5, .v (.int .i64 (j : Int)))], [], h, []⟩) (fun j => j ≤ L.length ∧ x ∉ L.take j) (fun j => L.length - j) 0 ⟨by omega, by simp⟩ ?_ ?_
  · simp [Leq, hh, leqH_take]
    done
  · rintro j ⟨hj, hno⟩
    by_cases hlt : j < L.length
    · have hw : IntKind.i64.wrap ((j : Int) + 1) = (j : Int) + 1 := wrap64 (by omega) (by omega)
      by_cases e : L[j] = x
      · have hm : x ∈ L := e ▸ List.getElem_mem hlt
        simp [hlt, intC, e, hh, hm]
        done
      · simp [hlt, intC, e, hw]
        refine ⟨j + 1, ⟨by omega, nothas_take hlt hno e⟩, by omega, ?_⟩
        simp [Leq, hh, leqH_take]
        done
    · have : j = L.length := by omega
      subst this
      rw [List.take_length] at hno
      simp [hh, hno]
      done
end Go.Proofs.Ytkcampfbpmjacaa.Ax
/- What a server must be told ahead, over values without memory: room, and what has a statement be there, of the code and of the document. -/
namespace Go.Proofs.Ytkcampfbpmjacaa.Ax
open Go.RowKit Go By
set_option linter.unusedSimpArgs false
set_option linter.unusedVariables false
set_option maxRecDepth 10000

theorem full_nil (most : Int) : full19 [] most = false := by simp [full19]
theorem room_no {spec : List Int} {most : Int} (h : full19 spec most = false) : roomF spec most = [] ∧ roomE spec most = [] := by
  unfold roomF roomE; rw [h]; exact ⟨rfl, rfl⟩
theorem room_yes {spec : List Int} {most : Int} (h : full19 spec most = true) : roomF spec most = [closeF (serverL (spec.headD 0))] ∧ roomE spec most = [hidE 7 ⟨2, spec.headD 0⟩] := by
  unfold roomF roomE; rw [h]; exact ⟨rfl, rfl⟩
/-- A list that was written out. -/
def litV {α : Type} (k : Nat) (f : α → List AV) : List α → AV
  | [] => .sl 0 [] none .exact
  | x :: r => .sl k (enc f (x :: r)) none .exact
theorem jroom_c (spec : List Int) (hl : spec.length ≤ 1000000) (most : Int) (h : List (List AV)) : Contract Try.prog 8 [.sl 1 (enc intC spec) none .no, .v (.int .i64 most)] h (.tup [litV 10 fmC (roomF spec most), litV 8 enC (roomE spec most)]) h [] := by
  refine contract_of k8 mixed (by simp [c8]) fun hh hargs => ?_
  cases spec with
  | nil =>
    obtain ⟨e1, e2⟩ := room_no (full_nil most)
    rw [e1, e2]
    simp [c8, hh, litV]
    done
  | cons x r =>
    have h0 : ¬ ((r.length : Int) + 1) = 0 := by omega
    by_cases hm : ((r.length : Int) + 1) < most
    · obtain ⟨e1, e2⟩ := room_no (spec := x :: r) (most := most) (by simp [full19, hm])
      rw [e1, e2]
      simp [c8, hm, h0, hh, litV]
      done
    · obtain ⟨e1, e2⟩ := room_yes (spec := x :: r) (most := most) (by simp [full19]; omega)
      rw [e1, e2]
      simp [c8, hm, h0, intC]
      refine xcall_of (hidden_c 7 [⟨2, x⟩] _) (by simp [ocC]) (by simp) ?_
      simp
      refine ⟨?_, ?_⟩
      · refine xcall_self (by simp) (nserver_any x _) ?_
        simp
        refine ⟨?_, ?_⟩
        · refine xcall_self (by simp) (jclose_c _ _) ?_
          simp [litV, hh, enc, leqH_take, hidE, enC_mk, ocC]
          done
        · refine xcall_self (by simp) (jclose_c _ _) ?_
          simp [litV, hh, enc, leqH_take, hidE, enC_mk, ocC]
          done
      · refine xcall_self (by simp) (nserver_any x _) ?_
        simp
        refine xcall_self (by simp) (jclose_c _ _) ?_
        simp [litV, hh, enc, leqH_take, hidE, enC_mk, ocC]
        done
theorem djroom_c (spec : List Int) (hl : spec.length ≤ 1000000) (most : Int) (h : List (List AV)) : Contract Try.prog 9 [.sl 1 (enc intC spec) none .no, .v (.int .i64 most)] h (.tup [litV 10 fmC (roomF spec most), litV 8 enC (roomE spec most)]) h [] := by
  refine contract_of k9 mixed (by simp [c9]) fun hh hargs => ?_
  cases spec with
  | nil =>
    obtain ⟨e1, e2⟩ := room_no (full_nil most)
    rw [e1, e2]
    by_cases h0 : (0 : Int) < most
    · simp [c9, hh, litV, h0]
    · simp [c9, hh, litV, h0]
    done
  | cons x r =>
    have h0 : ¬ ((r.length : Int) + 1) = 0 := by omega
    by_cases hm : ((r.length : Int) + 1) < most
    · obtain ⟨e1, e2⟩ := room_no (spec := x :: r) (most := most) (by simp [full19, hm])
      rw [e1, e2]
      simp [c9, hm, h0, hh, litV]
      done
    · obtain ⟨e1, e2⟩ := room_yes (spec := x :: r) (most := most) (by simp [full19]; omega)
      rw [e1, e2]
      simp [c9, hm, h0, intC]
      refine ⟨?_, ?_⟩
      · refine xcall_self (by simp) (rnserver_any x _) ?_
        simp
        refine ⟨?_, ?_⟩
        · refine xcall_self (by simp) (djclose_c _ _) ?_
          simp [litV, hh, enc, leqH_take, hidE, enC_mk, ocC]
          done
        · refine xcall_self (by simp) (djclose_c _ _) ?_
          simp [litV, hh, enc, leqH_take, hidE, enC_mk, ocC]
          done
      · refine xcall_self (by simp) (rnserver_any x _) ?_
        simp
        refine xcall_self (by simp) (djclose_c _ _) ?_
        simp [litV, hh, enc, leqH_take, hidE, enC_mk, ocC]
        done
set_option maxHeartbeats 1000000 in
theorem jready_c (spec : List Int) (hl : spec.length ≤ 1000000) (most id : Int) (s : Sm) (hs : s.oids.length ≤ 1000000) (h : List (List AV)) : Contract Try.prog 10 [.sl 1 (enc intC spec) none .no, .v (.int .i64 most), .v (.int .i64 id), .agg (smC s)] h (.tup [.sl 10 (enc fmC (readyF spec most id s)) none .no, .sl 8 (enc enC (readyE spec most id)) none .no]) h [] := by
  refine contract_of k10 mixed (by simp [c10]) fun hh hargs => ?_
  simp [c10]
  refine xcall_self (by simp) (jhas_c hl id) ?_
  by_cases hm : id ∈ spec
  · have e1 : readyF spec most id s = [] := by unfold readyF; rw [if_pos (by simpa using hm)]
    have e2 : readyE spec most id = [] := by unfold readyE; rw [if_pos (by simpa using hm)]
    rw [e1, e2]
    simp [hm, hh, leqH_take, enc]
    done
  have e1 : readyF spec most id s = roomF spec most ++ [parseF (serverL id) s] := by unfold readyF; rw [if_neg (by simpa using hm)]
  have e2 : readyE spec most id = roomE spec most ++ [hidE 2 ⟨1, id⟩] := by unfold readyE; rw [if_neg (by simpa using hm)]
  rw [e1, e2]
  have hroom := jroom_c spec hl most (h ++ [smC s])
  simp [hm]
  cases hf : full19 spec most with
  | false =>
    obtain ⟨r1, r2⟩ := room_no hf
    rw [r1, r2] at hroom
    simp only [litV] at hroom
    rw [r1, r2]
    refine xcall_self (by simp) hroom ?_
    simp
    refine xcall_of (hidden_c 2 [⟨1, id⟩] _) (by simp [ocC]) (by simp) ?_
    simp
    refine ⟨?_, ?_⟩
    · refine xcall_self (by simp) (nserver_any id _) ?_
      simp
      refine ⟨?_, ?_⟩
      · refine xcall_self (by simp) (jparse_c _ s hs _) ?_
        simp
        refine ⟨⟨?_, ?_⟩, ?_⟩
        · refine xappendA_own ?_
          simp [enc]
          refine xappendA_own ?_
          simp [hh, enc, leqH_take, hidE, enC_mk, ocC]
          done
        · refine xappendA_own ?_
          simp [enc]
          refine xappendA_own ?_
          simp [hh, enc, leqH_take, hidE, enC_mk, ocC]
          done
        · refine xappendA_own ?_
          simp [enc]
          refine xappendA_own ?_
          simp [hh, enc, leqH_take, hidE, enC_mk, ocC]
          done
      · refine xcall_self (by simp) (jparse_c _ s hs _) ?_
        simp
        refine xappendA_own ?_
        simp [enc]
        refine xappendA_own ?_
        simp [hh, enc, leqH_take, hidE, enC_mk, ocC]
        done
    · refine xcall_self (by simp) (nserver_any id _) ?_
      simp
      refine xcall_self (by simp) (jparse_c _ s hs _) ?_
      simp
      refine xappendA_own ?_
      simp [enc]
      refine xappendA_own ?_
      simp [hh, enc, leqH_take, hidE, enC_mk, ocC]
      done
  | true =>
    obtain ⟨r1, r2⟩ := room_yes hf
    rw [r1, r2] at hroom
    simp only [litV] at hroom
    rw [r1, r2]
    refine xcall_self (by simp) hroom ?_
    simp
    refine xcall_of (hidden_c 2 [⟨1, id⟩] _) (by simp [ocC]) (by simp) ?_
    simp
    refine ⟨?_, ?_⟩
    · refine xcall_self (by simp) (nserver_any id _) ?_
      simp
      refine ⟨?_, ?_⟩
      · refine xcall_self (by simp) (jparse_c _ s hs _) ?_
        simp
        refine ⟨⟨?_, ?_⟩, ?_⟩
        · refine xappendA_own ?_
          simp [enc]
          refine xappendA_own ?_
          simp [hh, enc, leqH_take, hidE, enC_mk, ocC]
          done
        · refine xappendA_own ?_
          simp [enc]
          refine xappendA_own ?_
          simp [hh, enc, leqH_take, hidE, enC_mk, ocC]
          done
        · refine xappendA_own ?_
          simp [enc]
          refine xappendA_own ?_
          simp [hh, enc, leqH_take, hidE, enC_mk, ocC]
          done
      · refine xcall_self (by simp) (jparse_c _ s hs _) ?_
        simp
        refine xappendA_own ?_
        simp [enc]
        refine xappendA_own ?_
        simp [hh, enc, leqH_take, hidE, enC_mk, ocC]
        done
    · refine xcall_self (by simp) (nserver_any id _) ?_
      simp
      refine xcall_self (by simp) (jparse_c _ s hs _) ?_
      simp
      refine xappendA_own ?_
      simp [enc]
      refine xappendA_own ?_
      simp [hh, enc, leqH_take, hidE, enC_mk, ocC]
      done
set_option maxHeartbeats 1000000 in
theorem djready_c (spec : List Int) (hl : spec.length ≤ 1000000) (most id : Int) (s : Sm) (hs : s.oids.length ≤ 1000000) (h : List (List AV)) : Contract Try.prog 11 [.sl 1 (enc intC spec) none .no, .v (.int .i64 most), .v (.int .i64 id), .agg (smC s)] h (.tup [.sl 10 (enc fmC (readyF spec most id s)) none .no, .sl 8 (enc enC (readyE spec most id)) none .no]) h [] := by
  refine contract_of k11 mixed (by simp [c11]) fun hh hargs => ?_
  simp [c11]
  refine xcall_self (by simp) (djhas_c hl id) ?_
  by_cases hm : id ∈ spec
  · have e1 : readyF spec most id s = [] := by unfold readyF; rw [if_pos (by simpa using hm)]
    have e2 : readyE spec most id = [] := by unfold readyE; rw [if_pos (by simpa using hm)]
    rw [e1, e2]
    simp [hm, hh, leqH_take, enc]
    done
  have e1 : readyF spec most id s = roomF spec most ++ [parseF (serverL id) s] := by unfold readyF; rw [if_neg (by simpa using hm)]
  have e2 : readyE spec most id = roomE spec most ++ [hidE 2 ⟨1, id⟩] := by unfold readyE; rw [if_neg (by simpa using hm)]
  rw [e1, e2]
  have hroom := djroom_c spec hl most (h ++ [smC s])
  simp [hm]
  cases hf : full19 spec most with
  | false =>
    obtain ⟨r1, r2⟩ := room_no hf
    rw [r1, r2] at hroom
    simp only [litV] at hroom
    rw [r1, r2]
    refine xcall_self (by simp) hroom ?_
    simp
    refine ⟨?_, ?_⟩
    · refine xcall_self (by simp) (rnserver_any id _) ?_
      simp
      refine ⟨?_, ?_⟩
      · refine xcall_self (by simp) (djparse_c _ s hs _) ?_
        simp
        refine ⟨⟨?_, ?_⟩, ?_⟩
        · refine xappendA_own ?_
          simp [enc]
          refine xappendA_own ?_
          simp [hh, enc, leqH_take, hidE, enC_mk, ocC]
          done
        · refine xappendA_own ?_
          simp [enc]
          refine xappendA_own ?_
          simp [hh, enc, leqH_take, hidE, enC_mk, ocC]
          done
        · refine xappendA_own ?_
          simp [enc]
          refine xappendA_own ?_
          simp [hh, enc, leqH_take, hidE, enC_mk, ocC]
          done
      · refine xcall_self (by simp) (djparse_c _ s hs _) ?_
        simp
        refine xappendA_own ?_
        simp [enc]
        refine xappendA_own ?_
        simp [hh, enc, leqH_take, hidE, enC_mk, ocC]
        done
    · refine xcall_self (by simp) (rnserver_any id _) ?_
      simp
      refine xcall_self (by simp) (djparse_c _ s hs _) ?_
      simp
      refine xappendA_own ?_
      simp [enc]
      refine xappendA_own ?_
      simp [hh, enc, leqH_take, hidE, enC_mk, ocC]
      done
  | true =>
    obtain ⟨r1, r2⟩ := room_yes hf
    rw [r1, r2] at hroom
    simp only [litV] at hroom
    rw [r1, r2]
    refine xcall_self (by simp) hroom ?_
    simp
    refine ⟨?_, ?_⟩
    · refine xcall_self (by simp) (rnserver_any id _) ?_
      simp
      refine ⟨?_, ?_⟩
      · refine xcall_self (by simp) (djparse_c _ s hs _) ?_
        simp
        refine ⟨⟨?_, ?_⟩, ?_⟩
        · refine xappendA_own ?_
          simp [enc]
          refine xappendA_own ?_
          simp [hh, enc, leqH_take, hidE, enC_mk, ocC]
          done
        · refine xappendA_own ?_
          simp [enc]
          refine xappendA_own ?_
          simp [hh, enc, leqH_take, hidE, enC_mk, ocC]
          done
        · refine xappendA_own ?_
          simp [enc]
          refine xappendA_own ?_
          simp [hh, enc, leqH_take, hidE, enC_mk, ocC]
          done
      · refine xcall_self (by simp) (djparse_c _ s hs _) ?_
        simp
        refine xappendA_own ?_
        simp [enc]
        refine xappendA_own ?_
        simp [hh, enc, leqH_take, hidE, enC_mk, ocC]
        done
    · refine xcall_self (by simp) (rnserver_any id _) ?_
      simp
      refine xcall_self (by simp) (djparse_c _ s hs _) ?_
      simp
      refine xappendA_own ?_
      simp [enc]
      refine xappendA_own ?_
      simp [hh, enc, leqH_take, hidE, enC_mk, ocC]
      done
end Go.Proofs.Ytkcampfbpmjacaa.Ax
namespace Go.Proofs.Ytkcampfbpmjacaa.Ax
open Go.RowKit Go By Dg
set_option linter.unusedSimpArgs false
set_option linter.unusedVariables false
set_option maxRecDepth 10000

theorem jsame_c (f : List Fm) (hl : f.length ≤ 1000000) (hf : ∀ m ∈ f, FmFit m) (h : List (List AV)) : Contract Try.prog 17 [.sl 10 (enc fmC f) none .no, .sl 10 (enc fmC f) none .no] h (.v (.bool true)) h [] := by
  refine contract_of k17 mixed (by simp [c17]) fun hh hargs => ?_
  have e : eqL sameF f f = true := (eqL_iff _ f f).2 ⟨rfl, fun i h1 h2 => by rw [sameF_eq]; simp⟩
  simp [c17]
  refine xcall_self (by simp) (equalF_mem mixed k41 (by rfl) sameF fmC (by simp) (by simp) f f h (fun x hx y h => rsame_c x y (hf x hx) h) (by omega)) ?_
  rw [e]
  simp [hh]
  done
theorem server_len19 (n : Int) : (serverL n).length ≤ 100 := by
  unfold serverL
  split
  · simp
  · have := dtext_len n (by omega) (by omega)
    simp [preN]
    omega
theorem close_fit (n : Int) : FmFit (closeF (serverL n)) := by
  have := server_len19 n
  unfold FmFit closeF
  simp
  omega
theorem parse_fit {name : List UInt8} {s : Sm} (hn : name.length ≤ 1000) (ht : s.text.length ≤ 1000) (ho : s.oids.length ≤ 1000) : FmFit (parseF name s) := by
  unfold FmFit parseF
  simp
  omega
theorem hid_fit (k : Int) (op : Oc) : EnFit (hidE k op) := by unfold EnFit hidE; simp
theorem room_fit (spec : List Int) (most : Int) : (∀ m ∈ roomF spec most, FmFit m) ∧ (∀ e ∈ roomE spec most, EnFit e) ∧ (roomF spec most).length ≤ 1 ∧ (roomE spec most).length = (roomF spec most).length := by
  cases hf : full19 spec most with
  | false => obtain ⟨e1, e2⟩ := room_no hf; rw [e1, e2]; simp
  | true =>
    obtain ⟨e1, e2⟩ := room_yes hf
    rw [e1, e2]
    refine ⟨fun m hm => ?_, fun e he => ?_, by simp, by simp⟩
    · rw [List.mem_singleton.1 hm]; exact close_fit _
    · rw [List.mem_singleton.1 he]; exact hid_fit _ _
theorem ready_fit (spec : List Int) (most id : Int) (s : Sm) (ht : s.text.length ≤ 1000) (ho : s.oids.length ≤ 1000) : (∀ m ∈ readyF spec most id s, FmFit m) ∧ (∀ e ∈ readyE spec most id, EnFit e) ∧ (readyF spec most id s).length ≤ 2 ∧ (readyE spec most id).length = (readyF spec most id s).length := by
  obtain ⟨r1, r2, r3, r4⟩ := room_fit spec most
  unfold readyF readyE
  split
  · simp
  · have hp := parse_fit (name := serverL id) (s := s) (by have := server_len19 id; omega) ht ho
    refine ⟨fun m hm => ?_, fun e he => ?_, by simp; omega, by simp [r4]⟩
    · rcases List.mem_append.1 hm with h1 | h1
      · exact r1 m h1
      · rw [List.mem_singleton.1 h1]; exact hp
    · rcases List.mem_append.1 he with h1 | h1
      · exact r2 e h1
      · rw [List.mem_singleton.1 h1]; exact hid_fit _ _
@[simp] theorem litV_id {α : Type} (k : Nat) (f : α → List AV) (l : List α) : (litV k f l).idOf = none := by cases l <;> rfl
@[simp] theorem litV_unown {α : Type} (k : Nat) (f : α → List AV) (l : List α) (hu : ∀ x, (f x).map AV.unown = f x) : (litV k f l).unown = litV k f l := by
  cases l <;> simp [litV, AV.unown, enc, hu]
def aw19 : Sm := ⟨[98, 101, 103, 105, 110], []⟩
theorem server_one : serverL 1 = [95, 112, 49] := by decide +kernel
theorem server_two : serverL 2 = [95, 112, 50] := by decide +kernel
theorem ready_aw : readyF [1] 1 2 aw19 = [closeF [95, 112, 49], parseF [95, 112, 50] aw19] ∧ readyE [1] 1 2 = [hidE 7 ⟨2, 1⟩, hidE 2 ⟨1, 2⟩] := by
  have h1 : full19 [1] 1 = true := by decide
  obtain ⟨e1, e2⟩ := room_yes h1
  unfold readyF readyE
  rw [e1, e2]
  have e3 : ([1] : List Int).headD 0 = 1 := rfl
  rw [e3, server_one, server_two]
  exact ⟨rfl, rfl⟩
theorem jawake_c (h : List (List AV)) : Contract Try.prog 7 [] h (.v (.bool true)) h [] := by
  refine contract_of k7 mixed (by simp [c7]) fun hh hargs => ?_
  have key := jready_c [1] (by simp) 1 2 aw19 (by simp [aw19]) h
  obtain ⟨e1, e2⟩ := ready_aw
  rw [e1, e2] at key
  simp [c7]
  refine xcall_of key (by simp [smC_mk, aw19, intC, enc]) (by simp) ?_
  simp [hh, enc, closeF, parseF, hidE, fmC_mk, enC_mk]
  done
@[simp] theorem fit_lit {α : Type} (i k : Nat) (f : α → List AV) (l : List α) : fitA i (litV k f l) (.sl k (enc f l) none .no) := by
  cases l with
  | nil =>
    show weakLL [] (enc f []) ∧ _
    exact ⟨by simp [enc, weakLL], .inr ⟨rfl, rfl⟩, trivial, trivial⟩
  | cons x r =>
    show weakLL (enc f (x :: r)) (enc f (x :: r)) ∧ _
    exact ⟨weakLL_refl _, .inl rfl, trivial, trivial⟩
theorem jtells_c (spec : List Int) (most id : Int) (s : Sm) (name : List UInt8) : Contract Try.prog 3 [.sl 1 (enc intC spec) none .no, .v (.int .i64 most), .v (.int .i64 id), .agg (smC s), .v (.string (strB name))] [] (.v (.bool true)) [] [] := by
  refine contract_of k3 mixed (by simp [c3]) fun hh hargs => ?_
  by_cases b1 : (60 : Int) < spec.length
  · simp [c3, b1]
    refine xcall_self (by simp) (jawake_c _) ?_
    simp
    done
  by_cases b2 : (500 : Int) < s.text.length
  · simp [c3, b1, b2]
    refine xcall_self (by simp) (jawake_c _) ?_
    simp
    done
  by_cases b3 : (30 : Int) < s.oids.length
  · simp [c3, b1, b2, b3]
    refine xcall_self (by simp) (jawake_c _) ?_
    simp
    done
  by_cases b4 : (300 : Int) < name.length
  · simp [c3, b1, b2, b3, b4]
    refine xcall_self (by simp) (jawake_c _) ?_
    simp
    done
  obtain ⟨f1, f2, f3, f4⟩ := room_fit spec most
  obtain ⟨g1, g2, g3, g4⟩ := ready_fit spec most id s (by omega) (by omega)
  have hpf := parse_fit (name := name) (s := s) (by omega) (by omega) (by omega)
  have hcf : FmFit (closeF name) := by unfold FmFit closeF; simp; omega
  simp [c3, b1, b2, b3, b4]
  refine xcall_self (by simp) (jroom_c spec (by omega) most _) ?_
  simp
  refine xcall_self (by simp) (djroom_c spec (by omega) most _) ?_
  simp
  refine xcall_self (by simp) (jready_c spec (by omega) most id s (by omega) _) ?_
  simp
  refine xcall_self (by simp) (djready_c spec (by omega) most id s (by omega) _) ?_
  simp
  refine xcall_self (by simp) (jparse_c name s (by omega) _) ?_
  simp
  refine xcall_self (by simp) (djparse_c name s (by omega) _) ?_
  simp
  refine xcall_self (by simp) (rsame_c _ _ hpf _) ?_
  rw [sameF_eq]
  simp
  refine xcall_self (by simp) (jclose_c name _) ?_
  simp
  refine xcall_self (by simp) (djclose_c name _) ?_
  simp
  refine xcall_self (by simp) (rsame_c _ _ hcf _) ?_
  rw [sameF_eq]
  simp
  refine xcall_of (jsame_c (roomF spec most) (by omega) f1 _) (by simp [fitL]) (by simp) ?_
  simp
  refine xcall_of (ralike_c (roomE spec most) (roomE spec most) (by omega) f2 f2 _) (by simp [fitL]) (by simp) ?_
  simp
  refine xcall_self (by simp) (jsame_c (readyF spec most id s) (by omega) g1 _) ?_
  simp
  refine xcall_self (by simp) (ralike_c (readyE spec most id) (readyE spec most id) (by omega) g2 g2 _) ?_
  simp
  refine xcall_self (by simp) (jawake_c _) ?_
  simp
  done
theorem jtells_l (spec : List Int) (most id : Int) (s : Sm) (name : List UInt8) : Contract Try.prog 3 [.sl 1 (enc intC spec) none .no, .v (.int .i64 most), .v (.int .i64 id), .agg (smC s), .v (.string (strB name))] [] (.v (.bool true)) [] [] := jtells_c spec most id s name
end Go.Proofs.Ytkcampfbpmjacaa.Ax
