/- which messages go on, and what any message, a fault, and a Z make of that, is what the document says -/
import Derived.Test.YtdfgljojemmlcaaQAxX
import Derived.Test.YtdfgljojemmlcaaRows
import Derived.Test.YtdfgljojemmlcaaQAxTz
import Derived.Test.YtdfgljojemmlcaaQElems
import Derived.WalkKit
import Derived.ProofKit
import Derived.OpenShut
import Derived.ShutString
import Derived.ChangeOld
import Derived.Below
/- The texts of functions over values without memory, as the kernel reckons them out of the program. -/
namespace Go.Proofs.Ytdfgljojemmlcaa.Ax
open Go.RowKit Go By

def c6 : XFun := ⟨18, (.seq (.ops [⟨(some 2), (.box (.tmp 0)), none⟩, ⟨(some 4), (.assign (.const (.int .i64 0))), none⟩]) (.seq (.block 0 (.seq (.ops [⟨(some 6), (.move (.tmp 1)), none⟩, ⟨(some 7), (.bin .eql (.tmp 6) (.const (.int .u8 88))), none⟩, ⟨(some 5), (.assign (.tmp 7)), none⟩]) (.cond (.tmp 5) (.seq (.ops [⟨(some 4), (.assign (.const (.int .i64 0))), none⟩]) .ret) (.seq (.ops [⟨(some 9), (.faddr 1 (.tmp 2)), none⟩, ⟨(some 10), (.load1 (.tmp 9)), none⟩, ⟨(some 8), (.assign (.tmp 10)), none⟩]) (.cond (.tmp 8) (.seq (.ops [⟨(some 4), (.assign (.const (.int .i64 2))), none⟩]) .ret) (.seq (.ops [⟨(some 12), (.faddr 0 (.tmp 2)), none⟩, ⟨(some 13), (.load1 (.tmp 12)), none⟩, ⟨(some 14), (.move (.tmp 13)), none⟩, ⟨(some 15), (.move (.tmp 1)), (some (14, true))⟩, ⟨(some 16), (.bin .neq (.tmp 15) (.const (.int .u8 83))), (some (14, true))⟩, ⟨(some 17), (.pick (.tmp 14) (.tmp 16) (.const (.bool false))), none⟩, ⟨(some 11), (.assign (.tmp 17)), none⟩]) (.cond (.tmp 11) (.seq (.ops [⟨(some 4), (.assign (.const (.int .i64 1))), none⟩]) .ret) .skip))))))) (.seq (.ops [⟨(some 4), (.assign (.const (.int .i64 0))), none⟩]) .ret))), [(.move (.tmp 4))]⟩
theorem k6 : cfun Try.prog 6 = some c6 := by kernel_rfl
def c8 : XFun := ⟨19, (.seq (.ops [⟨(some 2), (.box (.tmp 0)), none⟩, ⟨(some 4), (.alloc [(.v (.bool false)), (.v (.bool false)), (.v (.bool false))]), none⟩]) (.seq (.seq (.ops [⟨(some 5), (.move (.tmp 1)), none⟩]) (.block 0 (.seq (.seq (.ops [⟨(some 7), (.bin .eql (.tmp 5) (.const (.int .u8 72))), none⟩, ⟨(some 6), (.assign (.tmp 7)), none⟩]) (.cond (.tmp 6) .skip (.ops [⟨(some 8), (.bin .eql (.tmp 5) (.const (.int .u8 88))), none⟩, ⟨(some 6), (.assign (.tmp 8)), none⟩]))) (.cond (.tmp 6) (.seq (.ops [⟨(some 9), (.loadN 3 (.tmp 2)), none⟩, ⟨none, (.store 3 (.tmp 4) (.tmp 9)), none⟩]) .ret) (.seq (.ops [⟨(some 11), (.bin .eql (.tmp 5) (.const (.int .u8 83))), none⟩, ⟨(some 10), (.assign (.tmp 11)), none⟩]) (.cond (.tmp 10) (.ops [⟨(some 12), (.faddr 0 (.tmp 2)), none⟩, ⟨none, (.store 1 (.tmp 12) (.const (.bool false))), none⟩, ⟨(some 13), (.faddr 1 (.tmp 2)), none⟩, ⟨none, (.store 1 (.tmp 13) (.const (.bool true))), none⟩]) (.seq (.ops [⟨(some 15), (.bin .eql (.tmp 5) (.const (.int .u8 81))), none⟩, ⟨(some 14), (.assign (.tmp 15)), none⟩]) (.cond (.tmp 14) (.ops [⟨(some 16), (.faddr 1 (.tmp 2)), none⟩, ⟨none, (.store 1 (.tmp 16) (.const (.bool true))), none⟩]) .skip)))))))) (.seq (.ops [⟨(some 17), (.faddr 2 (.tmp 2)), none⟩, ⟨none, (.store 1 (.tmp 17) (.const (.bool true))), none⟩]) (.seq (.ops [⟨(some 18), (.loadN 3 (.tmp 2)), none⟩, ⟨none, (.store 3 (.tmp 4) (.tmp 18)), none⟩]) .ret)))), [(.loadN 3 (.tmp 4))]⟩
theorem k8 : cfun Try.prog 8 = some c8 := by kernel_rfl
def c10 : XFun := ⟨12, (.seq (.ops [⟨(some 2), (.box (.tmp 0)), none⟩, ⟨(some 4), (.alloc [(.v (.bool false)), (.v (.bool false)), (.v (.bool false))]), none⟩]) (.seq (.seq (.ops [⟨(some 5), (.move (.tmp 1)), none⟩, ⟨(some 6), (.bin .gtr (.tmp 5) (.const (.int .i64 0))), none⟩]) (.cond (.tmp 6) (.seq (.ops [⟨(some 7), (.faddr 0 (.tmp 2)), none⟩, ⟨none, (.store 1 (.tmp 7) (.const (.bool false))), none⟩]) (.seq (.ops [⟨(some 8), (.loadN 3 (.tmp 2)), none⟩, ⟨none, (.store 3 (.tmp 4) (.tmp 8)), none⟩]) .ret)) .skip)) (.seq (.ops [⟨(some 9), (.faddr 0 (.tmp 2)), none⟩, ⟨none, (.store 1 (.tmp 9) (.const (.bool true))), none⟩, ⟨(some 10), (.faddr 1 (.tmp 2)), none⟩, ⟨none, (.store 1 (.tmp 10) (.const (.bool false))), none⟩]) (.seq (.ops [⟨(some 11), (.loadN 3 (.tmp 2)), none⟩, ⟨none, (.store 3 (.tmp 4) (.tmp 11)), none⟩]) .ret)))), [(.loadN 3 (.tmp 4))]⟩
theorem k10 : cfun Try.prog 10 = some c10 := by kernel_rfl
def c12 : XFun := ⟨6, (.seq (.ops [⟨(some 1), (.box (.tmp 0)), none⟩, ⟨(some 2), (.alloc [(.v (.bool false)), (.v (.bool false)), (.v (.bool false))]), none⟩]) (.seq (.ops [⟨(some 3), (.faddr 1 (.tmp 1)), none⟩, ⟨none, (.store 1 (.tmp 3) (.const (.bool false))), none⟩, ⟨(some 4), (.faddr 2 (.tmp 1)), none⟩, ⟨none, (.store 1 (.tmp 4) (.const (.bool false))), none⟩]) (.seq (.ops [⟨(some 5), (.loadN 3 (.tmp 1)), none⟩, ⟨none, (.store 3 (.tmp 2) (.tmp 5)), none⟩]) .ret))), [(.loadN 3 (.tmp 2))]⟩
theorem k12 : cfun Try.prog 12 = some c12 := by kernel_rfl
def c7 : XFun := ⟨18, (.seq (.ops [⟨(some 2), (.box (.tmp 0)), none⟩, ⟨(some 4), (.assign (.const (.int .i64 0))), none⟩]) (.seq (.block 0 (.seq (.ops [⟨(some 6), (.move (.tmp 1)), none⟩, ⟨(some 7), (.bin .eql (.tmp 6) (.const (.int .u8 88))), none⟩, ⟨(some 5), (.assign (.tmp 7)), none⟩]) (.cond (.tmp 5) (.seq (.ops [⟨(some 4), (.assign (.const (.int .i64 0))), none⟩]) .ret) (.seq (.ops [⟨(some 9), (.faddr 1 (.tmp 2)), none⟩, ⟨(some 10), (.load1 (.tmp 9)), none⟩, ⟨(some 8), (.assign (.tmp 10)), none⟩]) (.cond (.tmp 8) (.seq (.ops [⟨(some 4), (.assign (.const (.int .i64 2))), none⟩]) .ret) (.seq (.ops [⟨(some 12), (.faddr 0 (.tmp 2)), none⟩, ⟨(some 13), (.load1 (.tmp 12)), none⟩, ⟨(some 14), (.move (.tmp 13)), none⟩, ⟨(some 15), (.move (.tmp 1)), (some (14, true))⟩, ⟨(some 16), (.bin .neq (.tmp 15) (.const (.int .u8 83))), (some (14, true))⟩, ⟨(some 17), (.pick (.tmp 14) (.tmp 16) (.const (.bool false))), none⟩, ⟨(some 11), (.assign (.tmp 17)), none⟩]) (.cond (.tmp 11) (.seq (.ops [⟨(some 4), (.assign (.const (.int .i64 1))), none⟩]) .ret) .skip))))))) (.seq (.ops [⟨(some 4), (.assign (.const (.int .i64 0))), none⟩]) .ret))), [(.move (.tmp 4))]⟩
theorem k7 : cfun Try.prog 7 = some c7 := by kernel_rfl
def c9 : XFun := ⟨23, (.seq (.ops [⟨(some 2), (.box (.tmp 0)), none⟩, ⟨(some 4), (.alloc [(.v (.bool false)), (.v (.bool false)), (.v (.bool false))]), none⟩]) (.seq (.seq (.ops [⟨(some 5), (.move (.tmp 1)), none⟩, ⟨(some 6), (.bin .eql (.tmp 5) (.const (.int .u8 83))), none⟩, ⟨(some 7), (.move (.tmp 6)), none⟩, ⟨(some 8), (.move (.tmp 1)), (some (7, false))⟩, ⟨(some 9), (.bin .eql (.tmp 8) (.const (.int .u8 81))), (some (7, false))⟩, ⟨(some 10), (.pick (.tmp 7) (.const (.bool true)) (.tmp 9)), none⟩]) (.cond (.tmp 10) (.ops [⟨(some 11), (.faddr 1 (.tmp 2)), none⟩, ⟨none, (.store 1 (.tmp 11) (.const (.bool true))), none⟩]) .skip)) (.seq (.seq (.ops [⟨(some 12), (.move (.tmp 1)), none⟩, ⟨(some 13), (.bin .neq (.tmp 12) (.const (.int .u8 72))), none⟩, ⟨(some 14), (.move (.tmp 13)), none⟩, ⟨(some 15), (.move (.tmp 1)), (some (14, true))⟩, ⟨(some 16), (.bin .neq (.tmp 15) (.const (.int .u8 88))), (some (14, true))⟩, ⟨(some 17), (.pick (.tmp 14) (.tmp 16) (.const (.bool false))), none⟩]) (.cond (.tmp 17) (.ops [⟨(some 18), (.faddr 2 (.tmp 2)), none⟩, ⟨none, (.store 1 (.tmp 18) (.const (.bool true))), none⟩]) .skip)) (.seq (.seq (.ops [⟨(some 19), (.move (.tmp 1)), none⟩, ⟨(some 20), (.bin .eql (.tmp 19) (.const (.int .u8 83))), none⟩]) (.cond (.tmp 20) (.ops [⟨(some 21), (.faddr 0 (.tmp 2)), none⟩, ⟨none, (.store 1 (.tmp 21) (.const (.bool false))), none⟩]) .skip)) (.seq (.ops [⟨(some 22), (.loadN 3 (.tmp 2)), none⟩, ⟨none, (.store 3 (.tmp 4) (.tmp 22)), none⟩]) .ret))))), [(.loadN 3 (.tmp 4))]⟩
theorem k9 : cfun Try.prog 9 = some c9 := by kernel_rfl
def c11 : XFun := ⟨12, (.seq (.ops [⟨(some 2), (.box (.tmp 0)), none⟩, ⟨(some 4), (.alloc [(.v (.bool false)), (.v (.bool false)), (.v (.bool false))]), none⟩]) (.seq (.seq (.ops [⟨(some 5), (.move (.tmp 1)), none⟩, ⟨(some 6), (.bin .gtr (.tmp 5) (.const (.int .i64 0))), none⟩]) (.cond (.tmp 6) (.seq (.ops [⟨(some 7), (.faddr 0 (.tmp 2)), none⟩, ⟨none, (.store 1 (.tmp 7) (.const (.bool false))), none⟩]) (.seq (.ops [⟨(some 8), (.loadN 3 (.tmp 2)), none⟩, ⟨none, (.store 3 (.tmp 4) (.tmp 8)), none⟩]) .ret)) .skip)) (.seq (.ops [⟨(some 9), (.faddr 0 (.tmp 2)), none⟩, ⟨none, (.store 1 (.tmp 9) (.const (.bool true))), none⟩, ⟨(some 10), (.faddr 1 (.tmp 2)), none⟩, ⟨none, (.store 1 (.tmp 10) (.const (.bool false))), none⟩]) (.seq (.ops [⟨(some 11), (.loadN 3 (.tmp 2)), none⟩, ⟨none, (.store 3 (.tmp 4) (.tmp 11)), none⟩]) .ret)))), [(.loadN 3 (.tmp 4))]⟩
theorem k11 : cfun Try.prog 11 = some c11 := by kernel_rfl
def c13 : XFun := ⟨6, (.seq (.ops [⟨(some 1), (.box (.tmp 0)), none⟩, ⟨(some 2), (.alloc [(.v (.bool false)), (.v (.bool false)), (.v (.bool false))]), none⟩]) (.seq (.ops [⟨(some 3), (.faddr 1 (.tmp 1)), none⟩, ⟨none, (.store 1 (.tmp 3) (.const (.bool false))), none⟩, ⟨(some 4), (.faddr 2 (.tmp 1)), none⟩, ⟨none, (.store 1 (.tmp 4) (.const (.bool false))), none⟩]) (.seq (.ops [⟨(some 5), (.loadN 3 (.tmp 1)), none⟩, ⟨none, (.store 3 (.tmp 2) (.tmp 5)), none⟩]) .ret))), [(.loadN 3 (.tmp 2))]⟩
theorem k13 : cfun Try.prog 13 = some c13 := by kernel_rfl
def c14 : XFun := ⟨19, (.seq (.ops [⟨(some 0), (.assign (.const (.bool false))), none⟩]) (.seq (.ops [⟨(some 2), (.build [(.v (.bool false)), (.v (.bool false)), (.v (.bool false))] []), none⟩, ⟨(some 3), (.call 8 [(.tmp 2), (.const (.int .u8 83))]), none⟩, ⟨(some 1), (.alloc [(.v (.bool false)), (.v (.bool false)), (.v (.bool false))]), none⟩, ⟨none, (.store 3 (.tmp 1) (.tmp 3)), none⟩]) (.seq (.ops [⟨(some 4), (.loadN 3 (.tmp 1)), none⟩, ⟨(some 5), (.call 6 [(.tmp 4), (.const (.int .u8 80))]), none⟩, ⟨(some 6), (.bin .eql (.tmp 5) (.const (.int .i64 2))), none⟩, ⟨(some 7), (.move (.tmp 6)), none⟩, ⟨(some 8), (.loadN 3 (.tmp 1)), (some (7, true))⟩, ⟨(some 9), (.call 12 [(.tmp 8)]), (some (7, true))⟩, ⟨(some 10), (.call 6 [(.tmp 9), (.const (.int .u8 80))]), (some (7, true))⟩, ⟨(some 11), (.bin .eql (.tmp 10) (.const (.int .i64 0))), (some (7, true))⟩, ⟨(some 12), (.pick (.tmp 7) (.tmp 11) (.const (.bool false))), none⟩, ⟨(some 13), (.move (.tmp 12)), none⟩, ⟨(some 14), (.build [(.v (.bool false)), (.v (.bool false)), (.v (.bool false))] []), (some (13, true))⟩, ⟨(some 15), (.call 10 [(.tmp 14), (.const (.int .i64 0))]), (some (13, true))⟩, ⟨(some 16), (.call 6 [(.tmp 15), (.const (.int .u8 80))]), (some (13, true))⟩, ⟨(some 17), (.bin .eql (.tmp 16) (.const (.int .i64 1))), (some (13, true))⟩, ⟨(some 18), (.pick (.tmp 13) (.tmp 17) (.const (.bool false))), none⟩, ⟨(some 0), (.assign (.tmp 18)), none⟩]) .ret))), [(.move (.tmp 0))]⟩
theorem k14 : cfun Try.prog 14 = some c14 := by kernel_rfl
def c5 : XFun := ⟨10, (.seq (.ops [⟨(some 1), (.box (.tmp 0)), none⟩, ⟨(some 2), (.alloc [(.v (.bool false)), (.v (.bool false)), (.v (.bool false))]), none⟩]) (.seq (.ops [⟨(some 3), (.faddr 0 (.tmp 1)), none⟩, ⟨(some 4), (.load1 (.tmp 3)), none⟩, ⟨(some 5), (.faddr 1 (.tmp 1)), none⟩, ⟨(some 6), (.load1 (.tmp 5)), none⟩, ⟨(some 7), (.faddr 2 (.tmp 1)), none⟩, ⟨(some 8), (.load1 (.tmp 7)), none⟩, ⟨(some 9), (.build [(.v (.bool false)), (.v (.bool false)), (.v (.bool false))] [(0, (1, (.tmp 4))), (1, (1, (.tmp 6))), (2, (1, (.tmp 8)))]), none⟩, ⟨none, (.store 3 (.tmp 2) (.tmp 9)), none⟩]) .ret)), [(.loadN 3 (.tmp 2))]⟩
theorem k5 : cfun Try.prog 5 = some c5 := by kernel_rfl
def c3 : XFun := ⟨48, (.seq (.ops [⟨(some 3), (.box (.tmp 0)), none⟩, ⟨(some 6), (.assign (.const (.bool false))), none⟩]) (.seq (.ops [⟨(some 8), (.loadN 3 (.tmp 3)), none⟩, ⟨(some 9), (.call 5 [(.tmp 8)]), none⟩, ⟨(some 7), (.alloc [(.v (.bool false)), (.v (.bool false)), (.v (.bool false))]), none⟩, ⟨none, (.store 3 (.tmp 7) (.tmp 9)), none⟩]) (.seq (.draws (.take ⟨(some 10), (.loadN 3 (.tmp 3)), none⟩ (.take ⟨(some 11), (.move (.tmp 1)), none⟩ (.take ⟨(some 13), (.loadN 3 (.tmp 7)), none⟩ (.take ⟨(some 14), (.move (.tmp 1)), none⟩ (.only ⟨(some 12), (.call 6 [(.tmp 10), (.tmp 11)]), none⟩ (.only ⟨(some 15), (.call 7 [(.tmp 13), (.tmp 14)]), none⟩ (.take ⟨(some 16), (.bin .eql (.tmp 12) (.tmp 15)), none⟩ (.take ⟨(some 17), (.move (.tmp 16)), none⟩ (.take ⟨(some 18), (.loadN 3 (.tmp 3)), (some (17, true))⟩ (.take ⟨(some 19), (.move (.tmp 1)), (some (17, true))⟩ (.take ⟨(some 22), (.loadN 3 (.tmp 7)), (some (17, true))⟩ (.take ⟨(some 23), (.move (.tmp 1)), (some (17, true))⟩ (.only ⟨(some 20), (.call 8 [(.tmp 18), (.tmp 19)]), (some (17, true))⟩ (.only ⟨(some 21), (.call 5 [(.tmp 20)]), (some (17, true))⟩ (.only ⟨(some 24), (.call 9 [(.tmp 22), (.tmp 23)]), (some (17, true))⟩ (.take ⟨(some 25), (.aeq false [0, 0, 0] (.tmp 21) (.tmp 24)), (some (17, true))⟩ (.take ⟨(some 26), (.pick (.tmp 17) (.tmp 25) (.const (.bool false))), none⟩ (.take ⟨(some 27), (.move (.tmp 26)), none⟩ (.take ⟨(some 28), (.loadN 3 (.tmp 3)), (some (27, true))⟩ (.take ⟨(some 29), (.move (.tmp 2)), (some (27, true))⟩ (.take ⟨(some 32), (.loadN 3 (.tmp 7)), (some (27, true))⟩ (.take ⟨(some 33), (.move (.tmp 2)), (some (27, true))⟩ (.only ⟨(some 30), (.call 10 [(.tmp 28), (.tmp 29)]), (some (27, true))⟩ (.only ⟨(some 31), (.call 5 [(.tmp 30)]), (some (27, true))⟩ (.only ⟨(some 34), (.call 11 [(.tmp 32), (.tmp 33)]), (some (27, true))⟩ (.take ⟨(some 35), (.aeq false [0, 0, 0] (.tmp 31) (.tmp 34)), (some (27, true))⟩ (.take ⟨(some 36), (.pick (.tmp 27) (.tmp 35) (.const (.bool false))), none⟩ (.take ⟨(some 37), (.move (.tmp 36)), none⟩ (.take ⟨(some 38), (.loadN 3 (.tmp 3)), (some (37, true))⟩ (.take ⟨(some 41), (.loadN 3 (.tmp 7)), (some (37, true))⟩ (.only ⟨(some 39), (.call 12 [(.tmp 38)]), (some (37, true))⟩ (.only ⟨(some 40), (.call 5 [(.tmp 39)]), (some (37, true))⟩ (.only ⟨(some 42), (.call 13 [(.tmp 41)]), (some (37, true))⟩ (.take ⟨(some 43), (.aeq false [0, 0, 0] (.tmp 40) (.tmp 42)), (some (37, true))⟩ (.take ⟨(some 44), (.pick (.tmp 37) (.tmp 43) (.const (.bool false))), none⟩ (.take ⟨(some 45), (.move (.tmp 44)), none⟩ (.only ⟨(some 46), (.call 14 []), (some (45, true))⟩ (.take ⟨(some 47), (.pick (.tmp 45) (.tmp 46) (.const (.bool false))), none⟩ (.take ⟨(some 6), (.assign (.tmp 47)), none⟩ .done)))))))))))))))))))))))))))))))))))))))) .ret))), [(.move (.tmp 6))]⟩
theorem k3 : cfun Try.prog 3 = some c3 := by kernel_rfl
end Go.Proofs.Ytdfgljojemmlcaa.Ax
/- Layer 23: which messages go on, over values without memory. -/
namespace Go.Proofs.Ytdfgljojemmlcaa.Ax
open Go.RowKit Go By
set_option linter.unusedSimpArgs false
set_option linter.unusedVariables false
set_option maxRecDepth 10000

theorem mixedSk : Try.prog.follows .mixedOrders = true := by kernel_rfl
structure Sk where
  on : Bool
  wait : Bool
  dirty : Bool
def skC (s : Sk) : List AV := [.v (.bool s.on), .v (.bool s.wait), .v (.bool s.dirty)]
theorem sh_skC : Shape Try.prog 23 skC (fun _ => True) :=
  Shape.map (shape_struct Try.underlying23 (by kernel_rfl) (shape_cons (k := 1) rfl (by kernel_rfl) sh_bool (by kernel_rfl) (shape_cons (k := 1) rfl (by kernel_rfl) sh_bool (by kernel_rfl) (shape_one (k := 1) rfl (by kernel_rfl) sh_bool)))) (fun p => ⟨p.1, p.2.1, p.2.2⟩) (fun p => rfl) (fun _ _ => trivial)
def verdI (s : Sk) (k : Int) : Int := if k = 88 then 0 else if s.wait = true then 2 else if s.on = true ∧ k ≠ 83 then 1 else 0
def sentS (s : Sk) (k : Int) : Sk := ⟨s.on && !decide (k = 83), s.wait || decide (k = 83) || decide (k = 81), s.dirty || (!decide (k = 72) && !decide (k = 88))⟩
def failS (s : Sk) (left : Int) : Sk := if 0 < left then ⟨false, s.wait, s.dirty⟩ else ⟨true, false, s.dirty⟩
def readyS (s : Sk) : Sk := ⟨s.on, false, false⟩
section
variable {h : List (List AV)}
theorem skverd_c (s : Sk) (k : Int) : Contract Try.prog 6 [.agg (skC s), .v (.int .u8 k)] h (.v (.int .i64 (verdI s k))) h [] := by
  obtain ⟨a, b, d⟩ := s
  refine contract_of k6 mixedSk (by simp [c6]) fun hh hargs => ?_
  unfold verdI skC
  by_cases h1 : k = 88
  · subst h1; cases a <;> cases b <;> simp [c6, hh]
  · by_cases h2 : k = 83
    · subst h2; cases a <;> cases b <;> simp [c6, hh]
    · cases a <;> cases b <;> simp [c6, hh, h1, h2]
theorem rskverd_c (s : Sk) (k : Int) : Contract Try.prog 7 [.agg (skC s), .v (.int .u8 k)] h (.v (.int .i64 (verdI s k))) h [] := by
  obtain ⟨a, b, d⟩ := s
  refine contract_of k7 mixedSk (by simp [c7]) fun hh hargs => ?_
  unfold verdI skC
  by_cases h1 : k = 88
  · subst h1; cases a <;> cases b <;> simp [c7, hh]
  · by_cases h2 : k = 83
    · subst h2; cases a <;> cases b <;> simp [c7, hh]
    · cases a <;> cases b <;> simp [c7, hh, h1, h2]
theorem sksent_c (s : Sk) (k : Int) : Contract Try.prog 8 [.agg (skC s), .v (.int .u8 k)] h (.agg (skC (sentS s k))) h [] := by
  obtain ⟨a, b, d⟩ := s
  refine contract_of k8 mixedSk (by simp [c8]) fun hh hargs => ?_
  unfold sentS skC
  by_cases h1 : k = 72
  · subst h1; simp [c8, hh]
  by_cases h2 : k = 88
  · subst h2; simp [c8, hh]
  by_cases h3 : k = 83
  · subst h3; simp [c8, hh]
  by_cases h4 : k = 81
  · subst h4; simp [c8, hh]
  simp [c8, hh, h1, h2, h3, h4]
theorem rsksent_c (s : Sk) (k : Int) : Contract Try.prog 9 [.agg (skC s), .v (.int .u8 k)] h (.agg (skC (sentS s k))) h [] := by
  obtain ⟨a, b, d⟩ := s
  refine contract_of k9 mixedSk (by simp [c9]) fun hh hargs => ?_
  unfold sentS skC
  by_cases h1 : k = 72
  · subst h1; simp [c9, hh]
  by_cases h2 : k = 88
  · subst h2; simp [c9, hh]
  by_cases h3 : k = 83
  · subst h3; simp [c9, hh]
  by_cases h4 : k = 81
  · subst h4; simp [c9, hh]
  simp [c9, hh, h1, h2, h3, h4]
theorem skfail_c (s : Sk) (n : Int) : Contract Try.prog 10 [.agg (skC s), .v (.int .i64 n)] h (.agg (skC (failS s n))) h [] := by
  obtain ⟨a, b, d⟩ := s
  refine contract_of k10 mixedSk (by simp [c10]) fun hh hargs => ?_
  unfold failS skC
  by_cases h1 : 0 < n <;> simp [c10, hh, h1]
theorem rskfail_c (s : Sk) (n : Int) : Contract Try.prog 11 [.agg (skC s), .v (.int .i64 n)] h (.agg (skC (failS s n))) h [] := by
  obtain ⟨a, b, d⟩ := s
  refine contract_of k11 mixedSk (by simp [c11]) fun hh hargs => ?_
  unfold failS skC
  by_cases h1 : 0 < n <;> simp [c11, hh, h1]
theorem skready_c (s : Sk) : Contract Try.prog 12 [.agg (skC s)] h (.agg (skC (readyS s))) h [] := by
  refine contract_of k12 mixedSk (by simp [c12]) fun hh hargs => ?_
  simp [c12, hh, readyS, skC]
theorem rskready_c (s : Sk) : Contract Try.prog 13 [.agg (skC s)] h (.agg (skC (readyS s))) h [] := by
  refine contract_of k13 mixedSk (by simp [c13]) fun hh hargs => ?_
  simp [c13, hh, readyS, skC]
theorem skown_c (s : Sk) : Contract Try.prog 5 [.agg (skC s)] h (.agg (skC s)) h [] := by
  refine contract_of k5 mixedSk (by simp [c5]) fun hh hargs => ?_
  simp [c5, hh, skC]
def zSk : Sk := ⟨false, false, false⟩
theorem zSk_c : skC zSk = [.v (.bool false), .v (.bool false), .v (.bool false)] := rfl
theorem skawake_c : Contract Try.prog 14 [] h (.v (.bool true)) h [] := by
  refine contract_of k14 mixedSk (by simp [c14]) fun hh hargs => ?_
  have e1 : verdI (sentS zSk 83) 80 = 2 := by decide
  have e2 : verdI (readyS (sentS zSk 83)) 80 = 0 := by decide
  have e3 : verdI (failS zSk 0) 80 = 1 := by decide
  simp [c14]
  refine xcall_of (sksent_c zSk 83) (by simp [zSk_c]) (by simp) ?_
  simp [skC]
  refine xcall_of (skverd_c (sentS zSk 83) 80) (by simp [skC]) (by simp) ?_
  rw [e1]
  simp
  refine xcall_of (skready_c (sentS zSk 83)) (by simp [skC]) (by simp) ?_
  simp
  refine xcall_self (by simp) (skverd_c (readyS (sentS zSk 83)) 80) ?_
  rw [e2]
  simp
  refine xcall_of (skfail_c zSk 0) (by simp [zSk_c]) (by simp) ?_
  simp
  refine xcall_self (by simp) (skverd_c (failS zSk 0) 80) ?_
  rw [e3]
  simp [hh]
end
set_option maxHeartbeats 4000000 in
theorem sktells_c (s : Sk) (k left : Int) : Contract Try.prog 3 [.agg (skC s), .v (.int .u8 k), .v (.int .i64 left)] [] (.v (.bool true)) [] [] := by
  refine contract_of k3 mixedSk (by simp [c3]) fun hh hargs => ?_
  have e0 : ∀ t : Sk, skC t = [.v (.bool t.on), .v (.bool t.wait), .v (.bool t.dirty)] := fun _ => rfl
  simp [c3, e0]
  refine xcall_of (skown_c s) (by simp [skC]) (by simp) ?_
  simp [e0]
  refine xcall_of (skverd_c s k) (by simp [skC]) (by simp) ?_
  simp
  refine xcall_of (rskverd_c s k) (by simp [skC]) (by simp) ?_
  simp
  refine xcall_of (sksent_c s k) (by simp [skC]) (by simp) ?_
  simp
  refine xcall_self (by simp) (skown_c (sentS s k)) ?_
  simp
  refine xcall_of (rsksent_c s k) (by simp [skC]) (by simp) ?_
  simp [e0]
  refine xcall_of (skfail_c s left) (by simp [skC]) (by simp) ?_
  simp
  refine xcall_self (by simp) (skown_c (failS s left)) ?_
  simp
  refine xcall_of (rskfail_c s left) (by simp [skC]) (by simp) ?_
  simp [e0]
  refine xcall_of (skready_c s) (by simp [skC]) (by simp) ?_
  simp
  refine xcall_self (by simp) (skown_c (readyS s)) ?_
  simp
  refine xcall_of (rskready_c s) (by simp [skC]) (by simp) ?_
  simp [e0]
  refine xcall_self (by simp) skawake_c ?_
  simp
end Go.Proofs.Ytdfgljojemmlcaa.Ax
/- Layer 23's statement: behind a sync nothing passes until a Z came. -/
namespace Go.Proofs.Ytdfgljojemmlcaa.Ax
open Go.RowKit Go By
set_option linter.unusedSimpArgs false
set_option linter.unusedVariables false
set_option maxRecDepth 10000

theorem sktells_l (s : Sk) (k left : Int) : Contract Try.prog 3 [.agg (skC s), .v (.int .u8 k), .v (.int .i64 left)] [] (.v (.bool true)) [] [] := sktells_c s k left
end Go.Proofs.Ytdfgljojemmlcaa.Ax
namespace Go.Proofs.Ytdfgljojemmlcaa.skipTells
open Go.ChangeShapes Go.WideShapes Go.ChangeAt Go.RowKit
open Go.ChangeMaps (open_string shut_string)
set_option linter.unusedVariables false

theorem own : ownKnob Try.prog.godebug = none := by kernel_rfl
theorem laidOut : laidOutB Try.prog = true := by kernel_rfl

set_option maxRecDepth 100000 in
theorem lifted (os : Os) (started : os.Started) (H : Type) (enc : TypeId × Value → H) :
    ReturnsInHanded {} Try.checked os 3 .any (Rows.skipTellsSpec.pre6 enc Try.prog Try.f3 Rows.skipTellsRow.domain false) (Rows.skipTellsSpec.post enc Try.prog Try.f3 false true false false) := by
  refine returnsInHanded_of_change (C := Try.checked) own started (by kernel_rfl) Try.func3
    (ChangeSpec.witness6 (enc := enc) (C := Try.checked) false ⟨#[], #[.agg #[.bool false, .bool false, .bool false], .int .u8 0, .int .i64 0], []⟩ 8 (by kernel_rfl) (by kernel_rfl) (by kernel_rfl) (by kernel_rfl)) ?_
  intro W base args ds gs before hval0 hW hcnd _
  have hval : ∀ (j : Nat) t v, Try.f3.params[j]? = some t → args[j]? = some v → Value.okWide Try.prog W .any base t v := hval0
  have hW' := hW
  obtain ⟨p, q, hA0, hV, rfl, hfz, hnd⟩ := hW
  have hA : DataW.TrodAll enc Try.prog W 0 (fun _ => true) true Try.f3.params.toList args.toList ds p := hA0
  rw [Try.params3] at hA hval
  obtain ⟨v0, vs0, d0, ds0, p0, q0, hargs, rfl, rfl, h0, r0⟩ := trodAll_cons hA
  obtain ⟨v1, vs1, d1, ds1, p1, q1, rfl, rfl, rfl, h1, r1⟩ := trodAll_cons r0
  obtain ⟨v2, vs2, d2, ds2, p2, q2, rfl, rfl, rfl, h2, r2⟩ := trodAll_cons r1
  obtain ⟨rfl, rfl, rfl⟩ := trodAll_nil r2
  obtain rfl : args = #[v0, v1, v2] := by cases args; simp_all
  obtain ⟨rfl, rfl⟩ := trodVars_none hV
  have k0 := h0
  have lt0 : ∀ x ∈ p0, x.block < W.heap.size := by obtain ⟨m, hm⟩ := k0; exact DataW.trod_lt m _ _ _ hm
  obtain ⟨a0, ok0, s0⟩ := Ax.arg_struct Try.underlying23 Ax.sh_skC (hval 0 23 v0 rfl rfl) h0
  have k1 := h1
  have lt1 : ∀ x ∈ p1, x.block < W.heap.size := by obtain ⟨m, hm⟩ := k1; exact DataW.trod_lt m _ _ _ hm
  obtain ⟨a1, ok1, s1⟩ := Ax.arg_int Try.underlying5 (hval 1 5 v1 rfl rfl) h1
  have k2 := h2
  have lt2 : ∀ x ∈ p2, x.block < W.heap.size := by obtain ⟨m, hm⟩ := k2; exact DataW.trod_lt m _ _ _ hm
  obtain ⟨a2, ok2, s2⟩ := Ax.arg_int Try.underlying3 (hval 2 3 v2 rfl rfl) h2
  clear hA0 hval0
  refine (Ax.law_walk (w := W) (Ax.dom_any W) (Ax.sktells_l a0 a1 a2) (by simp) (.cons s0 (.cons s1 (.cons s2 .nil)))).mono fun e W' ⟨he, bel⟩ => ?_
  subst he
  exact ⟨_, rfl, _, _, _, [], _, [], hW', trodAll_mk1 (shut_bool Try.underlying4 _), (trodAll_cons_mk (Below.trod laidOut (by kernel_rfl) (of_decide_eq_true (by kernel_rfl)) k0 bel lt0) (trodAll_cons_mk (Below.trod laidOut (by kernel_rfl) (of_decide_eq_true (by kernel_rfl)) k1 bel lt1) (trodAll_cons_mk (Below.trod laidOut (by kernel_rfl) (of_decide_eq_true (by kernel_rfl)) k2 bel lt2) trodAll_mk0))), rfl, bel.frame _, fun h => by cases h⟩

theorem over : Rows.skipTellsRow.holds Try.pinned (OpenSpec.ofChange Rows.skipTellsSpec) :=
  OpenClaim.holds_of_wide 3 Try.f3 rfl rfl rfl rfl rfl rfl rfl ⟨rfl, rfl, rfl, rfl, rfl⟩ rfl rfl rfl rfl rfl (by kernel_rfl) Try.func3 (by kernel_rfl)
    (of_decide_eq_true (by kernel_rfl)) (by unfold Func.isWrapper; first | (rw [if_pos (by decide +kernel)]; kernel_rfl) | (rw [if_neg (by decide +kernel)]; exact ⟨rfl, rfl⟩))
    (fun os started H enc _ => lifted os started H enc)

theorem proved : Rows.SkipTellsSaid := over
#print axioms proved
end Go.Proofs.Ytdfgljojemmlcaa.skipTells
