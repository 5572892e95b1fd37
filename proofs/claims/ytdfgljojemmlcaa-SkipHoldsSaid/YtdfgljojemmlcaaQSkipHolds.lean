/- behind a sync nothing but the end passes until a Z came, and behind a fault nothing but a sync -/
import Derived.Test.YtdfgljojemmlcaaQAxX
import Derived.Test.YtdfgljojemmlcaaRows
import Derived.Test.YtdfgljojemmlcaaQAxTz
import Derived.Test.YtdfgljojemmlcaaQElems
import Derived.WalkKit
import Derived.ProofKit
import Derived.OpenShut
import Derived.ShutString
import Derived.ChangeOld
import Derived.Below
/- The texts of functions over values without memory, as the kernel reckons them out of the program. -/
namespace Go.Proofs.Ytdfgljojemmlcaa.Ax
open Go.RowKit Go By

def c6 : XFun := ⟨18, (.seq (.ops [⟨(some 2), (.box (.tmp 0)), none⟩, ⟨(some 4), (.assign (.const (.int .i64 0))), none⟩]) (.seq (.block 0 (.seq (.ops [⟨(some 6), (.move (.tmp 1)), none⟩, ⟨(some 7), (.bin .eql (.tmp 6) (.const (.int .u8 88))), none⟩, ⟨(some 5), (.assign (.tmp 7)), none⟩]) (.cond (.tmp 5) (.seq (.ops [⟨(some 4), (.assign (.const (.int .i64 0))), none⟩]) .ret) (.seq (.ops [⟨(some 9), (.faddr 1 (.tmp 2)), none⟩, ⟨(some 10), (.load1 (.tmp 9)), none⟩, ⟨(some 8), (.assign (.tmp 10)), none⟩]) (.cond (.tmp 8) (.seq (.ops [⟨(some 4), (.assign (.const (.int .i64 2))), none⟩]) .ret) (.seq (.ops [⟨(some 12), (.faddr 0 (.tmp 2)), none⟩, ⟨(some 13), (.load1 (.tmp 12)), none⟩, ⟨(some 14), (.move (.tmp 13)), none⟩, ⟨(some 15), (.move (.tmp 1)), (some (14, true))⟩, ⟨(some 16), (.bin .neq (.tmp 15) (.const (.int .u8 83))), (some (14, true))⟩, ⟨(some 17), (.pick (.tmp 14) (.tmp 16) (.const (.bool false))), none⟩, ⟨(some 11), (.assign (.tmp 17)), none⟩]) (.cond (.tmp 11) (.seq (.ops [⟨(some 4), (.assign (.const (.int .i64 1))), none⟩]) .ret) .skip))))))) (.seq (.ops [⟨(some 4), (.assign (.const (.int .i64 0))), none⟩]) .ret))), [(.move (.tmp 4))]⟩
theorem k6 : cfun Try.prog 6 = some c6 := by kernel_rfl
def c8 : XFun := ⟨19, (.seq (.ops [⟨(some 2), (.box (.tmp 0)), none⟩, ⟨(some 4), (.alloc [(.v (.bool false)), (.v (.bool false)), (.v (.bool false))]), none⟩]) (.seq (.seq (.ops [⟨(some 5), (.move (.tmp 1)), none⟩]) (.block 0 (.seq (.seq (.ops [⟨(some 7), (.bin .eql (.tmp 5) (.const (.int .u8 72))), none⟩, ⟨(some 6), (.assign (.tmp 7)), none⟩]) (.cond (.tmp 6) .skip (.ops [⟨(some 8), (.bin .eql (.tmp 5) (.const (.int .u8 88))), none⟩, ⟨(some 6), (.assign (.tmp 8)), none⟩]))) (.cond (.tmp 6) (.seq (.ops [⟨(some 9), (.loadN 3 (.tmp 2)), none⟩, ⟨none, (.store 3 (.tmp 4) (.tmp 9)), none⟩]) .ret) (.seq (.ops [⟨(some 11), (.bin .eql (.tmp 5) (.const (.int .u8 83))), none⟩, ⟨(some 10), (.assign (.tmp 11)), none⟩]) (.cond (.tmp 10) (.ops [⟨(some 12), (.faddr 0 (.tmp 2)), none⟩, ⟨none, (.store 1 (.tmp 12) (.const (.bool false))), none⟩, ⟨(some 13), (.faddr 1 (.tmp 2)), none⟩, ⟨none, (.store 1 (.tmp 13) (.const (.bool true))), none⟩]) (.seq (.ops [⟨(some 15), (.bin .eql (.tmp 5) (.const (.int .u8 81))), none⟩, ⟨(some 14), (.assign (.tmp 15)), none⟩]) (.cond (.tmp 14) (.ops [⟨(some 16), (.faddr 1 (.tmp 2)), none⟩, ⟨none, (.store 1 (.tmp 16) (.const (.bool true))), none⟩]) .skip)))))))) (.seq (.ops [⟨(some 17), (.faddr 2 (.tmp 2)), none⟩, ⟨none, (.store 1 (.tmp 17) (.const (.bool true))), none⟩]) (.seq (.ops [⟨(some 18), (.loadN 3 (.tmp 2)), none⟩, ⟨none, (.store 3 (.tmp 4) (.tmp 18)), none⟩]) .ret)))), [(.loadN 3 (.tmp 4))]⟩
theorem k8 : cfun Try.prog 8 = some c8 := by kernel_rfl
def c10 : XFun := ⟨12, (.seq (.ops [⟨(some 2), (.box (.tmp 0)), none⟩, ⟨(some 4), (.alloc [(.v (.bool false)), (.v (.bool false)), (.v (.bool false))]), none⟩]) (.seq (.seq (.ops [⟨(some 5), (.move (.tmp 1)), none⟩, ⟨(some 6), (.bin .gtr (.tmp 5) (.const (.int .i64 0))), none⟩]) (.cond (.tmp 6) (.seq (.ops [⟨(some 7), (.faddr 0 (.tmp 2)), none⟩, ⟨none, (.store 1 (.tmp 7) (.const (.bool false))), none⟩]) (.seq (.ops [⟨(some 8), (.loadN 3 (.tmp 2)), none⟩, ⟨none, (.store 3 (.tmp 4) (.tmp 8)), none⟩]) .ret)) .skip)) (.seq (.ops [⟨(some 9), (.faddr 0 (.tmp 2)), none⟩, ⟨none, (.store 1 (.tmp 9) (.const (.bool true))), none⟩, ⟨(some 10), (.faddr 1 (.tmp 2)), none⟩, ⟨none, (.store 1 (.tmp 10) (.const (.bool false))), none⟩]) (.seq (.ops [⟨(some 11), (.loadN 3 (.tmp 2)), none⟩, ⟨none, (.store 3 (.tmp 4) (.tmp 11)), none⟩]) .ret)))), [(.loadN 3 (.tmp 4))]⟩
theorem k10 : cfun Try.prog 10 = some c10 := by kernel_rfl
def c12 : XFun := ⟨6, (.seq (.ops [⟨(some 1), (.box (.tmp 0)), none⟩, ⟨(some 2), (.alloc [(.v (.bool false)), (.v (.bool false)), (.v (.bool false))]), none⟩]) (.seq (.ops [⟨(some 3), (.faddr 1 (.tmp 1)), none⟩, ⟨none, (.store 1 (.tmp 3) (.const (.bool false))), none⟩, ⟨(some 4), (.faddr 2 (.tmp 1)), none⟩, ⟨none, (.store 1 (.tmp 4) (.const (.bool false))), none⟩]) (.seq (.ops [⟨(some 5), (.loadN 3 (.tmp 1)), none⟩, ⟨none, (.store 3 (.tmp 2) (.tmp 5)), none⟩]) .ret))), [(.loadN 3 (.tmp 2))]⟩
theorem k12 : cfun Try.prog 12 = some c12 := by kernel_rfl
def c14 : XFun := ⟨19, (.seq (.ops [⟨(some 0), (.assign (.const (.bool false))), none⟩]) (.seq (.ops [⟨(some 2), (.build [(.v (.bool false)), (.v (.bool false)), (.v (.bool false))] []), none⟩, ⟨(some 3), (.call 8 [(.tmp 2), (.const (.int .u8 83))]), none⟩, ⟨(some 1), (.alloc [(.v (.bool false)), (.v (.bool false)), (.v (.bool false))]), none⟩, ⟨none, (.store 3 (.tmp 1) (.tmp 3)), none⟩]) (.seq (.ops [⟨(some 4), (.loadN 3 (.tmp 1)), none⟩, ⟨(some 5), (.call 6 [(.tmp 4), (.const (.int .u8 80))]), none⟩, ⟨(some 6), (.bin .eql (.tmp 5) (.const (.int .i64 2))), none⟩, ⟨(some 7), (.move (.tmp 6)), none⟩, ⟨(some 8), (.loadN 3 (.tmp 1)), (some (7, true))⟩, ⟨(some 9), (.call 12 [(.tmp 8)]), (some (7, true))⟩, ⟨(some 10), (.call 6 [(.tmp 9), (.const (.int .u8 80))]), (some (7, true))⟩, ⟨(some 11), (.bin .eql (.tmp 10) (.const (.int .i64 0))), (some (7, true))⟩, ⟨(some 12), (.pick (.tmp 7) (.tmp 11) (.const (.bool false))), none⟩, ⟨(some 13), (.move (.tmp 12)), none⟩, ⟨(some 14), (.build [(.v (.bool false)), (.v (.bool false)), (.v (.bool false))] []), (some (13, true))⟩, ⟨(some 15), (.call 10 [(.tmp 14), (.const (.int .i64 0))]), (some (13, true))⟩, ⟨(some 16), (.call 6 [(.tmp 15), (.const (.int .u8 80))]), (some (13, true))⟩, ⟨(some 17), (.bin .eql (.tmp 16) (.const (.int .i64 1))), (some (13, true))⟩, ⟨(some 18), (.pick (.tmp 13) (.tmp 17) (.const (.bool false))), none⟩, ⟨(some 0), (.assign (.tmp 18)), none⟩]) .ret))), [(.move (.tmp 0))]⟩
theorem k14 : cfun Try.prog 14 = some c14 := by kernel_rfl
def c3 : XFun := ⟨48, (.seq (.ops [⟨(some 3), (.box (.tmp 0)), none⟩, ⟨(some 6), (.assign (.const (.bool false))), none⟩]) (.seq (.ops [⟨(some 8), (.loadN 3 (.tmp 3)), none⟩, ⟨(some 9), (.call 5 [(.tmp 8)]), none⟩, ⟨(some 7), (.alloc [(.v (.bool false)), (.v (.bool false)), (.v (.bool false))]), none⟩, ⟨none, (.store 3 (.tmp 7) (.tmp 9)), none⟩]) (.seq (.draws (.take ⟨(some 10), (.loadN 3 (.tmp 3)), none⟩ (.take ⟨(some 11), (.move (.tmp 1)), none⟩ (.take ⟨(some 13), (.loadN 3 (.tmp 7)), none⟩ (.take ⟨(some 14), (.move (.tmp 1)), none⟩ (.only ⟨(some 12), (.call 6 [(.tmp 10), (.tmp 11)]), none⟩ (.only ⟨(some 15), (.call 7 [(.tmp 13), (.tmp 14)]), none⟩ (.take ⟨(some 16), (.bin .eql (.tmp 12) (.tmp 15)), none⟩ (.take ⟨(some 17), (.move (.tmp 16)), none⟩ (.take ⟨(some 18), (.loadN 3 (.tmp 3)), (some (17, true))⟩ (.take ⟨(some 19), (.move (.tmp 1)), (some (17, true))⟩ (.take ⟨(some 22), (.loadN 3 (.tmp 7)), (some (17, true))⟩ (.take ⟨(some 23), (.move (.tmp 1)), (some (17, true))⟩ (.only ⟨(some 20), (.call 8 [(.tmp 18), (.tmp 19)]), (some (17, true))⟩ (.only ⟨(some 21), (.call 5 [(.tmp 20)]), (some (17, true))⟩ (.only ⟨(some 24), (.call 9 [(.tmp 22), (.tmp 23)]), (some (17, true))⟩ (.take ⟨(some 25), (.aeq false [0, 0, 0] (.tmp 21) (.tmp 24)), (some (17, true))⟩ (.take ⟨(some 26), (.pick (.tmp 17) (.tmp 25) (.const (.bool false))), none⟩ (.take ⟨(some 27), (.move (.tmp 26)), none⟩ (.take ⟨(some 28), (.loadN 3 (.tmp 3)), (some (27, true))⟩ (.take ⟨(some 29), (.move (.tmp 2)), (some (27, true))⟩ (.take ⟨(some 32), (.loadN 3 (.tmp 7)), (some (27, true))⟩ (.take ⟨(some 33), (.move (.tmp 2)), (some (27, true))⟩ (.only ⟨(some 30), (.call 10 [(.tmp 28), (.tmp 29)]), (some (27, true))⟩ (.only ⟨(some 31), (.call 5 [(.tmp 30)]), (some (27, true))⟩ (.only ⟨(some 34), (.call 11 [(.tmp 32), (.tmp 33)]), (some (27, true))⟩ (.take ⟨(some 35), (.aeq false [0, 0, 0] (.tmp 31) (.tmp 34)), (some (27, true))⟩ (.take ⟨(some 36), (.pick (.tmp 27) (.tmp 35) (.const (.bool false))), none⟩ (.take ⟨(some 37), (.move (.tmp 36)), none⟩ (.take ⟨(some 38), (.loadN 3 (.tmp 3)), (some (37, true))⟩ (.take ⟨(some 41), (.loadN 3 (.tmp 7)), (some (37, true))⟩ (.only ⟨(some 39), (.call 12 [(.tmp 38)]), (some (37, true))⟩ (.only ⟨(some 40), (.call 5 [(.tmp 39)]), (some (37, true))⟩ (.only ⟨(some 42), (.call 13 [(.tmp 41)]), (some (37, true))⟩ (.take ⟨(some 43), (.aeq false [0, 0, 0] (.tmp 40) (.tmp 42)), (some (37, true))⟩ (.take ⟨(some 44), (.pick (.tmp 37) (.tmp 43) (.const (.bool false))), none⟩ (.take ⟨(some 45), (.move (.tmp 44)), none⟩ (.only ⟨(some 46), (.call 14 []), (some (45, true))⟩ (.take ⟨(some 47), (.pick (.tmp 45) (.tmp 46) (.const (.bool false))), none⟩ (.take ⟨(some 6), (.assign (.tmp 47)), none⟩ .done)))))))))))))))))))))))))))))))))))))))) .ret))), [(.move (.tmp 6))]⟩
theorem k3 : cfun Try.prog 3 = some c3 := by kernel_rfl
def c4 : XFun := ⟨51, (.seq (.ops [⟨(some 2), (.box (.tmp 0)), none⟩, ⟨(some 4), (.assign (.const (.bool false))), none⟩]) (.seq (.draws (.take ⟨(some 8), (.loadN 3 (.tmp 2)), none⟩ (.take ⟨(some 10), (.loadN 3 (.tmp 2)), none⟩ (.alt ⟨(some 9), (.call 8 [(.tmp 8), (.const (.int .u8 83))]), none⟩ (.alt ⟨(some 11), (.call 10 [(.tmp 10), (.const (.int .i64 0))]), none⟩ (.two ⟨(some 5), (.alloc [(.v (.bool false)), (.v (.bool false)), (.v (.bool false))]), none⟩ ⟨(some 6), (.alloc [(.v (.bool false)), (.v (.bool false)), (.v (.bool false))]), none⟩ (.only ⟨(some 6), (.alloc [(.v (.bool false)), (.v (.bool false)), (.v (.bool false))]), none⟩ (.only ⟨none, (.store 3 (.tmp 5) (.tmp 9)), none⟩ (.last ⟨none, (.store 3 (.tmp 6) (.tmp 11)), none⟩))) (.only ⟨(some 5), (.alloc [(.v (.bool false)), (.v (.bool false)), (.v (.bool false))]), none⟩ (.only ⟨none, (.store 3 (.tmp 5) (.tmp 9)), none⟩ (.last ⟨none, (.store 3 (.tmp 6) (.tmp 11)), none⟩)))) (.alt ⟨(some 5), (.alloc [(.v (.bool false)), (.v (.bool false)), (.v (.bool false))]), none⟩ (.two ⟨(some 11), (.call 10 [(.tmp 10), (.const (.int .i64 0))]), none⟩ ⟨(some 6), (.alloc [(.v (.bool false)), (.v (.bool false)), (.v (.bool false))]), none⟩ (.only ⟨(some 6), (.alloc [(.v (.bool false)), (.v (.bool false)), (.v (.bool false))]), none⟩ (.only ⟨none, (.store 3 (.tmp 5) (.tmp 9)), none⟩ (.last ⟨none, (.store 3 (.tmp 6) (.tmp 11)), none⟩))) (.only ⟨(some 11), (.call 10 [(.tmp 10), (.const (.int .i64 0))]), none⟩ (.only ⟨none, (.store 3 (.tmp 5) (.tmp 9)), none⟩ (.last ⟨none, (.store 3 (.tmp 6) (.tmp 11)), none⟩)))) (.only ⟨(some 6), (.alloc [(.v (.bool false)), (.v (.bool false)), (.v (.bool false))]), none⟩ (.two ⟨(some 11), (.call 10 [(.tmp 10), (.const (.int .i64 0))]), none⟩ ⟨(some 5), (.alloc [(.v (.bool false)), (.v (.bool false)), (.v (.bool false))]), none⟩ (.only ⟨(some 5), (.alloc [(.v (.bool false)), (.v (.bool false)), (.v (.bool false))]), none⟩ (.only ⟨none, (.store 3 (.tmp 5) (.tmp 9)), none⟩ (.last ⟨none, (.store 3 (.tmp 6) (.tmp 11)), none⟩))) (.only ⟨(some 11), (.call 10 [(.tmp 10), (.const (.int .i64 0))]), none⟩ (.only ⟨none, (.store 3 (.tmp 5) (.tmp 9)), none⟩ (.last ⟨none, (.store 3 (.tmp 6) (.tmp 11)), none⟩))))))) (.alt ⟨(some 5), (.alloc [(.v (.bool false)), (.v (.bool false)), (.v (.bool false))]), none⟩ (.two ⟨(some 9), (.call 8 [(.tmp 8), (.const (.int .u8 83))]), none⟩ ⟨(some 6), (.alloc [(.v (.bool false)), (.v (.bool false)), (.v (.bool false))]), none⟩ (.two ⟨(some 11), (.call 10 [(.tmp 10), (.const (.int .i64 0))]), none⟩ ⟨(some 6), (.alloc [(.v (.bool false)), (.v (.bool false)), (.v (.bool false))]), none⟩ (.only ⟨(some 6), (.alloc [(.v (.bool false)), (.v (.bool false)), (.v (.bool false))]), none⟩ (.only ⟨none, (.store 3 (.tmp 5) (.tmp 9)), none⟩ (.last ⟨none, (.store 3 (.tmp 6) (.tmp 11)), none⟩))) (.only ⟨(some 11), (.call 10 [(.tmp 10), (.const (.int .i64 0))]), none⟩ (.only ⟨none, (.store 3 (.tmp 5) (.tmp 9)), none⟩ (.last ⟨none, (.store 3 (.tmp 6) (.tmp 11)), none⟩)))) (.only ⟨(some 9), (.call 8 [(.tmp 8), (.const (.int .u8 83))]), none⟩ (.only ⟨(some 11), (.call 10 [(.tmp 10), (.const (.int .i64 0))]), none⟩ (.only ⟨none, (.store 3 (.tmp 5) (.tmp 9)), none⟩ (.last ⟨none, (.store 3 (.tmp 6) (.tmp 11)), none⟩))))) (.only ⟨(some 6), (.alloc [(.v (.bool false)), (.v (.bool false)), (.v (.bool false))]), none⟩ (.two ⟨(some 9), (.call 8 [(.tmp 8), (.const (.int .u8 83))]), none⟩ ⟨(some 5), (.alloc [(.v (.bool false)), (.v (.bool false)), (.v (.bool false))]), none⟩ (.two ⟨(some 11), (.call 10 [(.tmp 10), (.const (.int .i64 0))]), none⟩ ⟨(some 5), (.alloc [(.v (.bool false)), (.v (.bool false)), (.v (.bool false))]), none⟩ (.only ⟨(some 5), (.alloc [(.v (.bool false)), (.v (.bool false)), (.v (.bool false))]), none⟩ (.only ⟨none, (.store 3 (.tmp 5) (.tmp 9)), none⟩ (.last ⟨none, (.store 3 (.tmp 6) (.tmp 11)), none⟩))) (.only ⟨(some 11), (.call 10 [(.tmp 10), (.const (.int .i64 0))]), none⟩ (.only ⟨none, (.store 3 (.tmp 5) (.tmp 9)), none⟩ (.last ⟨none, (.store 3 (.tmp 6) (.tmp 11)), none⟩)))) (.only ⟨(some 9), (.call 8 [(.tmp 8), (.const (.int .u8 83))]), none⟩ (.only ⟨(some 11), (.call 10 [(.tmp 10), (.const (.int .i64 0))]), none⟩ (.only ⟨none, (.store 3 (.tmp 5) (.tmp 9)), none⟩ (.last ⟨none, (.store 3 (.tmp 6) (.tmp 11)), none⟩))))))))))) (.seq (.seq (.ops [⟨(some 12), (.move (.tmp 1)), none⟩, ⟨(some 13), (.bin .eql (.tmp 12) (.const (.int .u8 88))), none⟩]) (.cond (.tmp 13) (.seq (.ops [⟨(some 14), (.loadN 3 (.tmp 5)), none⟩, ⟨(some 15), (.move (.tmp 1)), none⟩, ⟨(some 16), (.call 6 [(.tmp 14), (.tmp 15)]), none⟩, ⟨(some 17), (.bin .eql (.tmp 16) (.const (.int .i64 0))), none⟩, ⟨(some 18), (.move (.tmp 17)), none⟩, ⟨(some 19), (.loadN 3 (.tmp 6)), (some (18, true))⟩, ⟨(some 20), (.move (.tmp 1)), (some (18, true))⟩, ⟨(some 21), (.call 6 [(.tmp 19), (.tmp 20)]), (some (18, true))⟩, ⟨(some 22), (.bin .eql (.tmp 21) (.const (.int .i64 0))), (some (18, true))⟩, ⟨(some 23), (.pick (.tmp 18) (.tmp 22) (.const (.bool false))), none⟩, ⟨(some 24), (.move (.tmp 23)), none⟩, ⟨(some 25), (.call 14 []), (some (24, true))⟩, ⟨(some 26), (.pick (.tmp 24) (.tmp 25) (.const (.bool false))), none⟩, ⟨(some 4), (.assign (.tmp 26)), none⟩]) .ret) .skip)) (.seq (.ops [⟨(some 7), (.assign (.const (.int .i64 1))), none⟩]) (.seq (.seq (.ops [⟨(some 27), (.move (.tmp 1)), none⟩, ⟨(some 28), (.bin .eql (.tmp 27) (.const (.int .u8 83))), none⟩]) (.cond (.tmp 28) (.ops [⟨(some 7), (.assign (.const (.int .i64 0))), none⟩]) .skip)) (.seq (.ops [⟨(some 29), (.loadN 3 (.tmp 5)), none⟩, ⟨(some 30), (.move (.tmp 1)), none⟩, ⟨(some 31), (.call 6 [(.tmp 29), (.tmp 30)]), none⟩, ⟨(some 32), (.bin .eql (.tmp 31) (.const (.int .i64 2))), none⟩, ⟨(some 33), (.move (.tmp 32)), none⟩, ⟨(some 34), (.loadN 3 (.tmp 6)), (some (33, true))⟩, ⟨(some 35), (.move (.tmp 1)), (some (33, true))⟩, ⟨(some 36), (.call 6 [(.tmp 34), (.tmp 35)]), (some (33, true))⟩, ⟨(some 37), (.move (.tmp 7)), (some (33, true))⟩, ⟨(some 38), (.bin .eql (.tmp 36) (.tmp 37)), (some (33, true))⟩, ⟨(some 39), (.pick (.tmp 33) (.tmp 38) (.const (.bool false))), none⟩, ⟨(some 40), (.move (.tmp 39)), none⟩, ⟨(some 41), (.loadN 3 (.tmp 6)), (some (40, true))⟩, ⟨(some 42), (.call 8 [(.tmp 41), (.const (.int .u8 83))]), (some (40, true))⟩, ⟨(some 43), (.call 12 [(.tmp 42)]), (some (40, true))⟩, ⟨(some 44), (.move (.tmp 1)), (some (40, true))⟩, ⟨(some 45), (.call 6 [(.tmp 43), (.tmp 44)]), (some (40, true))⟩, ⟨(some 46), (.bin .eql (.tmp 45) (.const (.int .i64 0))), (some (40, true))⟩, ⟨(some 47), (.pick (.tmp 40) (.tmp 46) (.const (.bool false))), none⟩, ⟨(some 48), (.move (.tmp 47)), none⟩, ⟨(some 49), (.call 14 []), (some (48, true))⟩, ⟨(some 50), (.pick (.tmp 48) (.tmp 49) (.const (.bool false))), none⟩, ⟨(some 4), (.assign (.tmp 50)), none⟩]) .ret)))))), [(.move (.tmp 4))]⟩
theorem k4 : cfun Try.prog 4 = some c4 := by kernel_rfl
end Go.Proofs.Ytdfgljojemmlcaa.Ax
/- Layer 23: which messages go on, over values without memory. -/
namespace Go.Proofs.Ytdfgljojemmlcaa.Ax
open Go.RowKit Go By
set_option linter.unusedSimpArgs false
set_option linter.unusedVariables false
set_option maxRecDepth 10000

theorem mixedSk : Try.prog.follows .mixedOrders = true := by kernel_rfl
structure Sk where
  on : Bool
  wait : Bool
  dirty : Bool
def skC (s : Sk) : List AV := [.v (.bool s.on), .v (.bool s.wait), .v (.bool s.dirty)]
theorem sh_skC : Shape Try.prog 23 skC (fun _ => True) :=
  Shape.map (shape_struct Try.underlying23 (by kernel_rfl) (shape_cons (k := 1) rfl (by kernel_rfl) sh_bool (by kernel_rfl) (shape_cons (k := 1) rfl (by kernel_rfl) sh_bool (by kernel_rfl) (shape_one (k := 1) rfl (by kernel_rfl) sh_bool)))) (fun p => ⟨p.1, p.2.1, p.2.2⟩) (fun p => rfl) (fun _ _ => trivial)
def verdI (s : Sk) (k : Int) : Int := if k = 88 then 0 else if s.wait = true then 2 else if s.on = true ∧ k ≠ 83 then 1 else 0
def sentS (s : Sk) (k : Int) : Sk := ⟨s.on && !decide (k = 83), s.wait || decide (k = 83) || decide (k = 81), s.dirty || (!decide (k = 72) && !decide (k = 88))⟩
def failS (s : Sk) (left : Int) : Sk := if 0 < left then ⟨false, s.wait, s.dirty⟩ else ⟨true, false, s.dirty⟩
def readyS (s : Sk) : Sk := ⟨s.on, false, false⟩
section
variable {h : List (List AV)}
theorem skverd_c (s : Sk) (k : Int) : Contract Try.prog 6 [.agg (skC s), .v (.int .u8 k)] h (.v (.int .i64 (verdI s k))) h [] := by
  obtain ⟨a, b, d⟩ := s
  refine contract_of k6 mixedSk (by simp [c6]) fun hh hargs => ?_
  unfold verdI skC
  by_cases h1 : k = 88
  · subst h1; cases a <;> cases b <;> simp [c6, hh]
  · by_cases h2 : k = 83
    · subst h2; cases a <;> cases b <;> simp [c6, hh]
    · cases a <;> cases b <;> simp [c6, hh, h1, h2]
theorem sksent_c (s : Sk) (k : Int) : Contract Try.prog 8 [.agg (skC s), .v (.int .u8 k)] h (.agg (skC (sentS s k))) h [] := by
  obtain ⟨a, b, d⟩ := s
  refine contract_of k8 mixedSk (by simp [c8]) fun hh hargs => ?_
  unfold sentS skC
  by_cases h1 : k = 72
  · subst h1; simp [c8, hh]
  by_cases h2 : k = 88
  · subst h2; simp [c8, hh]
  by_cases h3 : k = 83
  · subst h3; simp [c8, hh]
  by_cases h4 : k = 81
  · subst h4; simp [c8, hh]
  simp [c8, hh, h1, h2, h3, h4]
theorem skfail_c (s : Sk) (n : Int) : Contract Try.prog 10 [.agg (skC s), .v (.int .i64 n)] h (.agg (skC (failS s n))) h [] := by
  obtain ⟨a, b, d⟩ := s
  refine contract_of k10 mixedSk (by simp [c10]) fun hh hargs => ?_
  unfold failS skC
  by_cases h1 : 0 < n <;> simp [c10, hh, h1]
theorem skready_c (s : Sk) : Contract Try.prog 12 [.agg (skC s)] h (.agg (skC (readyS s))) h [] := by
  refine contract_of k12 mixedSk (by simp [c12]) fun hh hargs => ?_
  simp [c12, hh, readyS, skC]
def zSk : Sk := ⟨false, false, false⟩
theorem zSk_c : skC zSk = [.v (.bool false), .v (.bool false), .v (.bool false)] := rfl
theorem skawake_c : Contract Try.prog 14 [] h (.v (.bool true)) h [] := by
  refine contract_of k14 mixedSk (by simp [c14]) fun hh hargs => ?_
  have e1 : verdI (sentS zSk 83) 80 = 2 := by decide
  have e2 : verdI (readyS (sentS zSk 83)) 80 = 0 := by decide
  have e3 : verdI (failS zSk 0) 80 = 1 := by decide
  simp [c14]
  refine xcall_of (sksent_c zSk 83) (by simp [zSk_c]) (by simp) ?_
  simp [skC]
  refine xcall_of (skverd_c (sentS zSk 83) 80) (by simp [skC]) (by simp) ?_
  rw [e1]
  simp
  refine xcall_of (skready_c (sentS zSk 83)) (by simp [skC]) (by simp) ?_
  simp
  refine xcall_self (by simp) (skverd_c (readyS (sentS zSk 83)) 80) ?_
  rw [e2]
  simp
  refine xcall_of (skfail_c zSk 0) (by simp [zSk_c]) (by simp) ?_
  simp
  refine xcall_self (by simp) (skverd_c (failS zSk 0) 80) ?_
  rw [e3]
  simp [hh]
end
end Go.Proofs.Ytdfgljojemmlcaa.Ax
/- Layer 23's statement: behind a sync nothing passes until a Z came. -/
namespace Go.Proofs.Ytdfgljojemmlcaa.Ax
open Go.RowKit Go By
set_option linter.unusedSimpArgs false
set_option linter.unusedVariables false
set_option maxRecDepth 10000

theorem skC_eq (t : Sk) : skC t = [.v (.bool t.on), .v (.bool t.wait), .v (.bool t.dirty)] := rfl
def skS (s : Sk) (k : Int) : Bool → St
  | true => ⟨[(1, .v (.int .u8 k)), (5, .box 1 0), (6, .box 2 0)], [], [skC s, skC (sentS s 83), skC (failS s 0)], []⟩
  | false => ⟨[(1, .v (.int .u8 k)), (5, .box 2 0), (6, .box 1 0)], [], [skC s, skC (failS s 0), skC (sentS s 83)], []⟩
theorem sent_verd (s : Sk) (k : Int) (hk : k ≠ 88) : verdI (sentS s 83) k = 2 := by simp [verdI, sentS, hk]
theorem fail_verd (s : Sk) (k : Int) (hk : k ≠ 88) : verdI (failS s 0) k = if k = 83 then 0 else 1 := by simp [verdI, failS, hk]
theorem again_verd (s : Sk) (k : Int) : verdI (readyS (sentS (failS s 0) 83)) k = 0 := by simp [verdI, sentS, failS, readyS]
theorem x_verd (s : Sk) : verdI s 88 = 0 := by simp [verdI]
set_option maxHeartbeats 4000000 in
theorem skholds_c (s : Sk) (k : Int) : Contract Try.prog 4 [.agg (skC s), .v (.int .u8 k)] [] (.v (.bool true)) [] [] := by
  refine contract_cut (XCode.cuts [false, true] c4.code) k4 rfl mixedSk (by simp [c4]) fun hh hargs => ?_
  simp [c4, skC_eq]
  refine xseq_some (skS s k) ?_ ?_
  · simp
    repeat' (first | refine ⟨?_, ?_⟩ | (refine xcall_of (sksent_c s 83) (by simp [skC]) (by simp) ?_; simp [skC_eq]) | (refine xcall_of (skfail_c s 0) (by simp [skC]) (by simp) ?_; simp [skC_eq]))
    all_goals (first | (left; simp [Leq, skS, skC_eq]; done) | (right; simp [Leq, skS, skC_eq]; done))
  · intro d
    by_cases hk : k = 88
    · subst hk
      cases d <;>
      · simp [skS, skC_eq]
        refine xcall_of (skverd_c (sentS s 83) 88) (by simp [skC]) (by simp) ?_
        rw [x_verd]
        simp
        refine xcall_of (skverd_c (failS s 0) 88) (by simp [skC]) (by simp) ?_
        rw [x_verd]
        simp
        refine xcall_self (by simp) skawake_c ?_
        simp
    · have h1 := sent_verd s k hk
      have h2 := fail_verd s k hk
      have h3 := again_verd s k
      by_cases h8 : k = 83
      · subst h8
        cases d <;>
        · simp [skS, skC_eq]
          refine xcall_of (skverd_c (sentS s 83) 83) (by simp [skC]) (by simp) ?_
          rw [h1]
          simp
          refine xcall_of (skverd_c (failS s 0) 83) (by simp [skC]) (by simp) ?_
          rw [h2]
          simp
          refine xcall_of (sksent_c (failS s 0) 83) (by simp [skC]) (by simp) ?_
          simp
          refine xcall_self (by simp) (skready_c (sentS (failS s 0) 83)) ?_
          simp
          refine xcall_self (by simp) (skverd_c (readyS (sentS (failS s 0) 83)) 83) ?_
          rw [h3]
          simp
          refine xcall_self (by simp) skawake_c ?_
          simp
      · rw [if_neg h8] at h2
        cases d <;>
        · simp [skS, skC_eq, hk, h8]
          refine xcall_of (skverd_c (sentS s 83) k) (by simp [skC]) (by simp) ?_
          rw [h1]
          simp
          refine xcall_of (skverd_c (failS s 0) k) (by simp [skC]) (by simp) ?_
          rw [h2]
          simp
          refine xcall_of (sksent_c (failS s 0) 83) (by simp [skC]) (by simp) ?_
          simp
          refine xcall_self (by simp) (skready_c (sentS (failS s 0) 83)) ?_
          simp
          refine xcall_self (by simp) (skverd_c (readyS (sentS (failS s 0) 83)) k) ?_
          rw [h3]
          simp
          refine xcall_self (by simp) skawake_c ?_
          simp
end Go.Proofs.Ytdfgljojemmlcaa.Ax
namespace Go.Proofs.Ytdfgljojemmlcaa.skipHolds
open Go.ChangeShapes Go.WideShapes Go.ChangeAt Go.RowKit
open Go.ChangeMaps (open_string shut_string)
set_option linter.unusedVariables false

theorem own : ownKnob Try.prog.godebug = none := by kernel_rfl
theorem laidOut : laidOutB Try.prog = true := by kernel_rfl

set_option maxRecDepth 100000 in
theorem lifted (os : Os) (started : os.Started) (H : Type) (enc : TypeId × Value → H) :
    ReturnsInHanded {} Try.checked os 4 .any (Rows.skipHoldsSpec.pre6 enc Try.prog Try.f4 Rows.skipHoldsRow.domain false) (Rows.skipHoldsSpec.post enc Try.prog Try.f4 false true false false) := by
  refine returnsInHanded_of_change (C := Try.checked) own started (by kernel_rfl) Try.func4
    (ChangeSpec.witness6 (enc := enc) (C := Try.checked) false ⟨#[], #[.agg #[.bool false, .bool false, .bool false], .int .u8 0], []⟩ 8 (by kernel_rfl) (by kernel_rfl) (by kernel_rfl) (by kernel_rfl)) ?_
  intro W base args ds gs before hval0 hW hcnd _
  have hval : ∀ (j : Nat) t v, Try.f4.params[j]? = some t → args[j]? = some v → Value.okWide Try.prog W .any base t v := hval0
  have hW' := hW
  obtain ⟨p, q, hA0, hV, rfl, hfz, hnd⟩ := hW
  have hA : DataW.TrodAll enc Try.prog W 0 (fun _ => true) true Try.f4.params.toList args.toList ds p := hA0
  rw [Try.params4] at hA hval
  obtain ⟨v0, vs0, d0, ds0, p0, q0, hargs, rfl, rfl, h0, r0⟩ := trodAll_cons hA
  obtain ⟨v1, vs1, d1, ds1, p1, q1, rfl, rfl, rfl, h1, r1⟩ := trodAll_cons r0
  obtain ⟨rfl, rfl, rfl⟩ := trodAll_nil r1
  obtain rfl : args = #[v0, v1] := by cases args; simp_all
  obtain ⟨rfl, rfl⟩ := trodVars_none hV
  have k0 := h0
  have lt0 : ∀ x ∈ p0, x.block < W.heap.size := by obtain ⟨m, hm⟩ := k0; exact DataW.trod_lt m _ _ _ hm
  obtain ⟨a0, ok0, s0⟩ := Ax.arg_struct Try.underlying23 Ax.sh_skC (hval 0 23 v0 rfl rfl) h0
  have k1 := h1
  have lt1 : ∀ x ∈ p1, x.block < W.heap.size := by obtain ⟨m, hm⟩ := k1; exact DataW.trod_lt m _ _ _ hm
  obtain ⟨a1, ok1, s1⟩ := Ax.arg_int Try.underlying5 (hval 1 5 v1 rfl rfl) h1
  clear hA0 hval0
  refine (Ax.law_walk (w := W) (Ax.dom_any W) (Ax.skholds_c a0 a1) (by simp) (.cons s0 (.cons s1 .nil))).mono fun e W' ⟨he, bel⟩ => ?_
  subst he
  exact ⟨_, rfl, _, _, _, [], _, [], hW', trodAll_mk1 (shut_bool Try.underlying4 _), (trodAll_cons_mk (Below.trod laidOut (by kernel_rfl) (of_decide_eq_true (by kernel_rfl)) k0 bel lt0) (trodAll_cons_mk (Below.trod laidOut (by kernel_rfl) (of_decide_eq_true (by kernel_rfl)) k1 bel lt1) trodAll_mk0)), rfl, bel.frame _, fun h => by cases h⟩

theorem over : Rows.skipHoldsRow.holds Try.pinned (OpenSpec.ofChange Rows.skipHoldsSpec) :=
  OpenClaim.holds_of_wide 4 Try.f4 rfl rfl rfl rfl rfl rfl rfl ⟨rfl, rfl, rfl, rfl, rfl⟩ rfl rfl rfl rfl rfl (by kernel_rfl) Try.func4 (by kernel_rfl)
    (of_decide_eq_true (by kernel_rfl)) (by unfold Func.isWrapper; first | (rw [if_pos (by decide +kernel)]; kernel_rfl) | (rw [if_neg (by decide +kernel)]; exact ⟨rfl, rfl⟩))
    (fun os started H enc _ => lifted os started H enc)

theorem proved : Rows.SkipHoldsSaid := over
#print axioms proved
end Go.Proofs.Ytdfgljojemmlcaa.skipHolds
