/- tell.Rename over values without memory, but for numbers of parameters; awake; the statement of what is said of any name. -/
import Derived.Test.YthielckgianmgaaGreatDoorQAxHs
import Derived.Test.YthielckgianmgaaGreatDoorRows
import Derived.Test.YthielckgianmgaaGreatDoorQAxDg
/- The texts of functions over values without memory, as the kernel reckons them out of the program. -/
namespace Go.Proofs.YthielckgianmgaaGreatDoor.Ax
open Go.RowKit Go By

def c18 : XFun := ⟨8, (.seq (.ops [⟨(some 2), (.assign (.const (.string (strB [])))), none⟩]) (.seq (.seq (.ops [⟨(some 3), (.move (.tmp 0)), none⟩, ⟨(some 4), (.bin .eql (.tmp 3) (.const (.string (strB [])))), none⟩]) (.cond (.tmp 4) (.seq (.ops [⟨(some 2), (.assign (.const (.string (strB [117, 110, 110, 97, 109, 101, 100, 32, 112, 114, 101, 112, 97, 114, 101, 100, 32, 115, 116, 97, 116, 101, 109, 101, 110, 116, 32, 100, 111, 101, 115, 32, 110, 111, 116, 32, 101, 120, 105, 115, 116])))), none⟩]) .ret) .skip)) (.seq (.ops [⟨(some 5), (.move (.tmp 0)), none⟩, ⟨(some 6), (.call 44 [(.tmp 5)]), none⟩, ⟨(some 7), (.bin .add (.tmp 6) (.const (.string (strB [32, 100, 111, 101, 115, 32, 110, 111, 116, 32, 101, 120, 105, 115, 116])))), none⟩, ⟨(some 2), (.assign (.tmp 7)), none⟩]) .ret))), [(.move (.tmp 2))]⟩
theorem k18 : cfun Tryz.prog 18 = some c18 := by kernel_rfl
def c19 : XFun := ⟨6, (.seq (.ops [⟨(some 2), (.assign (.const (.string (strB [])))), none⟩]) (.seq (.ops [⟨(some 3), (.move (.tmp 0)), none⟩, ⟨(some 4), (.call 44 [(.tmp 3)]), none⟩, ⟨(some 5), (.bin .add (.tmp 4) (.const (.string (strB [32, 97, 108, 114, 101, 97, 100, 121, 32, 101, 120, 105, 115, 116, 115])))), none⟩, ⟨(some 2), (.assign (.tmp 5)), none⟩]) .ret)), [(.move (.tmp 2))]⟩
theorem k19 : cfun Tryz.prog 19 = some c19 := by kernel_rfl
def c58 : XFun := ⟨35, (.seq (.ops [⟨(some 8), (.assign (.const (.string (strB [])))), none⟩]) (.seq (.seq (.ops [⟨(some 9), (.move (.tmp 0)), none⟩]) (.block 0 (.seq (.ops [⟨(some 11), (.bin .eql (.tmp 9) (.const (.string (strB [50, 54, 48, 48, 48])))), none⟩, ⟨(some 10), (.assign (.tmp 11)), none⟩]) (.cond (.tmp 10) (.seq (.ops [⟨(some 12), (.move (.tmp 1)), none⟩, ⟨(some 13), (.move (.tmp 2)), none⟩, ⟨(some 14), (.call 18 [(.tmp 13)]), none⟩, ⟨(some 15), (.bin .eql (.tmp 12) (.tmp 14)), none⟩]) (.cond (.tmp 15) (.seq (.ops [⟨(some 16), (.move (.tmp 3)), none⟩, ⟨(some 17), (.call 18 [(.tmp 16)]), none⟩, ⟨(some 8), (.assign (.tmp 17)), none⟩]) .ret) .skip)) (.seq (.ops [⟨(some 19), (.bin .eql (.tmp 9) (.const (.string (strB [52, 50, 80, 48, 53])))), none⟩, ⟨(some 18), (.assign (.tmp 19)), none⟩]) (.cond (.tmp 18) (.seq (.ops [⟨(some 20), (.move (.tmp 1)), none⟩, ⟨(some 21), (.move (.tmp 2)), none⟩, ⟨(some 22), (.call 19 [(.tmp 21)]), none⟩, ⟨(some 23), (.bin .eql (.tmp 20) (.tmp 22)), none⟩]) (.cond (.tmp 23) (.seq (.ops [⟨(some 24), (.move (.tmp 3)), none⟩, ⟨(some 25), (.call 19 [(.tmp 24)]), none⟩, ⟨(some 8), (.assign (.tmp 25)), none⟩]) .ret) .skip)) (.seq (.ops [⟨(some 27), (.bin .eql (.tmp 9) (.const (.string (strB [48, 56, 80, 48, 49])))), none⟩, ⟨(some 26), (.assign (.tmp 27)), none⟩]) (.cond (.tmp 26) (.seq (.ops [⟨(some 28), (.move (.tmp 1)), none⟩, ⟨(some 29), (.move (.tmp 2)), none⟩, ⟨(some 30), (.call 46 [(.tmp 29)]), none⟩, ⟨(some 31), (.move (.tmp 3)), none⟩, ⟨(some 32), (.call 46 [(.tmp 31)]), none⟩, ⟨(some 33), (.call 72 [(.tmp 28), (.tmp 30), (.tmp 32), (.const (.int .i64 1))]), none⟩, ⟨(some 8), (.assign (.tmp 33)), none⟩]) .ret) .skip)))))))) (.seq (.ops [⟨(some 34), (.move (.tmp 1)), none⟩, ⟨(some 8), (.assign (.tmp 34)), none⟩]) .ret))), [(.move (.tmp 8))]⟩
theorem k58 : cfun Tryz.prog 58 = some c58 := by kernel_rfl
def c46 : XFun := ⟨7, (.seq (.ops [⟨(some 2), (.assign (.const (.string (strB [])))), none⟩]) (.seq (.ops [⟨(some 3), (.move (.tmp 0)), none⟩, ⟨(some 4), (.call 44 [(.tmp 3)]), none⟩, ⟨(some 5), (.bin .add (.const (.string (strB [44, 32, 98, 117, 116, 32]))) (.tmp 4)), none⟩, ⟨(some 6), (.bin .add (.tmp 5) (.const (.string (strB [32, 114, 101, 113, 117, 105, 114, 101, 115, 32])))), none⟩, ⟨(some 2), (.assign (.tmp 6)), none⟩]) .ret)), [(.move (.tmp 2))]⟩
theorem k46 : cfun Tryz.prog 46 = some c46 := by kernel_rfl
def c44 : XFun := ⟨6, (.seq (.ops [⟨(some 2), (.assign (.const (.string (strB [])))), none⟩]) (.seq (.ops [⟨(some 3), (.move (.tmp 0)), none⟩, ⟨(some 4), (.call 68 [(.tmp 3)]), none⟩, ⟨(some 5), (.bin .add (.const (.string (strB [112, 114, 101, 112, 97, 114, 101, 100, 32, 115, 116, 97, 116, 101, 109, 101, 110, 116, 32]))) (.tmp 4)), none⟩, ⟨(some 2), (.assign (.tmp 5)), none⟩]) .ret)), [(.move (.tmp 2))]⟩
theorem k44 : cfun Tryz.prog 44 = some c44 := by kernel_rfl
def c59 : XFun := ⟨9, (.seq (.ops [⟨(some 2), (.assign (.const (.string (strB [])))), none⟩]) (.seq (.seq (.ops [⟨(some 3), (.move (.tmp 0)), none⟩, ⟨(some 4), (.bin .eql (.tmp 3) (.const (.string (strB [])))), none⟩]) (.cond (.tmp 4) (.seq (.ops [⟨(some 2), (.assign (.const (.string (strB [117, 110, 110, 97, 109, 101, 100, 32, 112, 114, 101, 112, 97, 114, 101, 100, 32, 115, 116, 97, 116, 101, 109, 101, 110, 116, 32, 100, 111, 101, 115, 32, 110, 111, 116, 32, 101, 120, 105, 115, 116])))), none⟩]) .ret) .skip)) (.seq (.ops [⟨(some 5), (.move (.tmp 0)), none⟩, ⟨(some 6), (.call 61 [(.tmp 5)]), none⟩, ⟨(some 7), (.bin .add (.const (.string (strB [112, 114, 101, 112, 97, 114, 101, 100, 32, 115, 116, 97, 116, 101, 109, 101, 110, 116, 32]))) (.tmp 6)), none⟩, ⟨(some 8), (.bin .add (.tmp 7) (.const (.string (strB [32, 100, 111, 101, 115, 32, 110, 111, 116, 32, 101, 120, 105, 115, 116])))), none⟩, ⟨(some 2), (.assign (.tmp 8)), none⟩]) .ret))), [(.move (.tmp 2))]⟩
theorem k59 : cfun Tryz.prog 59 = some c59 := by kernel_rfl
def c60 : XFun := ⟨7, (.seq (.ops [⟨(some 2), (.assign (.const (.string (strB [])))), none⟩]) (.seq (.ops [⟨(some 3), (.move (.tmp 0)), none⟩, ⟨(some 4), (.call 61 [(.tmp 3)]), none⟩, ⟨(some 5), (.bin .add (.const (.string (strB [112, 114, 101, 112, 97, 114, 101, 100, 32, 115, 116, 97, 116, 101, 109, 101, 110, 116, 32]))) (.tmp 4)), none⟩, ⟨(some 6), (.bin .add (.tmp 5) (.const (.string (strB [32, 97, 108, 114, 101, 97, 100, 121, 32, 101, 120, 105, 115, 116, 115])))), none⟩, ⟨(some 2), (.assign (.tmp 6)), none⟩]) .ret)), [(.move (.tmp 2))]⟩
theorem k60 : cfun Tryz.prog 60 = some c60 := by kernel_rfl
def c37 : XFun := ⟨87, (.seq (.ops [⟨(some 8), (.assign (.const (.string (strB [])))), none⟩]) (.seq (.block 0 (.seq (.ops [⟨(some 15), (.move (.tmp 0)), none⟩, ⟨(some 16), (.bin .eql (.tmp 15) (.const (.string (strB [50, 54, 48, 48, 48])))), none⟩, ⟨(some 17), (.move (.tmp 16)), none⟩, ⟨(some 18), (.move (.tmp 1)), (some (17, true))⟩, ⟨(some 19), (.move (.tmp 2)), (some (17, true))⟩, ⟨(some 20), (.call 59 [(.tmp 19)]), (some (17, true))⟩, ⟨(some 21), (.bin .eql (.tmp 18) (.tmp 20)), (some (17, true))⟩, ⟨(some 22), (.pick (.tmp 17) (.tmp 21) (.const (.bool false))), none⟩, ⟨(some 14), (.assign (.tmp 22)), none⟩]) (.cond (.tmp 14) (.seq (.ops [⟨(some 23), (.move (.tmp 3)), none⟩, ⟨(some 24), (.call 59 [(.tmp 23)]), none⟩, ⟨(some 8), (.assign (.tmp 24)), none⟩]) .ret) (.seq (.ops [⟨(some 26), (.move (.tmp 0)), none⟩, ⟨(some 27), (.bin .eql (.tmp 26) (.const (.string (strB [52, 50, 80, 48, 53])))), none⟩, ⟨(some 28), (.move (.tmp 27)), none⟩, ⟨(some 29), (.move (.tmp 1)), (some (28, true))⟩, ⟨(some 30), (.move (.tmp 2)), (some (28, true))⟩, ⟨(some 31), (.call 60 [(.tmp 30)]), (some (28, true))⟩, ⟨(some 32), (.bin .eql (.tmp 29) (.tmp 31)), (some (28, true))⟩, ⟨(some 33), (.pick (.tmp 28) (.tmp 32) (.const (.bool false))), none⟩, ⟨(some 25), (.assign (.tmp 33)), none⟩]) (.cond (.tmp 25) (.seq (.ops [⟨(some 34), (.move (.tmp 3)), none⟩, ⟨(some 35), (.call 60 [(.tmp 34)]), none⟩, ⟨(some 8), (.assign (.tmp 35)), none⟩]) .ret) (.seq (.ops [⟨(some 37), (.move (.tmp 0)), none⟩, ⟨(some 38), (.bin .neq (.tmp 37) (.const (.string (strB [48, 56, 80, 48, 49])))), none⟩, ⟨(some 36), (.assign (.tmp 38)), none⟩]) (.cond (.tmp 36) (.seq (.ops [⟨(some 39), (.move (.tmp 1)), none⟩, ⟨(some 8), (.assign (.tmp 39)), none⟩]) .ret) .skip))))))) (.seq (.ops [⟨(some 40), (.move (.tmp 2)), none⟩, ⟨(some 41), (.call 61 [(.tmp 40)]), none⟩, ⟨(some 9), (.assign (.const (.string (strB [44, 32, 98, 117, 116, 32, 112, 114, 101, 112, 97, 114, 101, 100, 32, 115, 116, 97, 116, 101, 109, 101, 110, 116, 32])))), none⟩, ⟨(some 10), (.assign (.tmp 41)), none⟩, ⟨(some 11), (.assign (.const (.string (strB [32, 114, 101, 113, 117, 105, 114, 101, 115, 32])))), none⟩]) (.seq (.ops [⟨(some 42), (.move (.tmp 9)), none⟩, ⟨(some 43), (.lenS (.tmp 42)), none⟩, ⟨(some 44), (.move (.tmp 10)), none⟩, ⟨(some 45), (.lenS (.tmp 44)), none⟩, ⟨(some 46), (.bin .add (.tmp 43) (.tmp 45)), none⟩, ⟨(some 47), (.move (.tmp 11)), none⟩, ⟨(some 48), (.lenS (.tmp 47)), none⟩, ⟨(some 49), (.bin .add (.tmp 46) (.tmp 48)), none⟩, ⟨(some 12), (.assign (.tmp 49)), none⟩]) (.seq (.seq (.ops [⟨(some 13), (.assign (.const (.int .i64 0))), none⟩]) (.block 1 (.loop (.seq (.seq (.ops [⟨(some 50), (.move (.tmp 13)), none⟩, ⟨(some 51), (.move (.tmp 12)), none⟩, ⟨(some 52), (.bin .add (.tmp 50) (.tmp 51)), none⟩, ⟨(some 53), (.move (.tmp 1)), none⟩, ⟨(some 54), (.lenS (.tmp 53)), none⟩, ⟨(some 55), (.bin .leq (.tmp 52) (.tmp 54)), none⟩]) (.cond (.tmp 55) .skip (.exit 1))) (.seq (.block 2 (.seq (.ops [⟨(some 58), (.move (.tmp 1)), none⟩, ⟨(some 59), (.move (.tmp 13)), none⟩, ⟨(some 60), (.move (.tmp 13)), none⟩, ⟨(some 61), (.move (.tmp 12)), none⟩, ⟨(some 62), (.bin .add (.tmp 60) (.tmp 61)), none⟩, ⟨(some 63), (.sliceS (.tmp 58) (some (.tmp 59)) (some (.tmp 62))), none⟩, ⟨(some 64), (.move (.tmp 9)), none⟩, ⟨(some 65), (.move (.tmp 10)), none⟩, ⟨(some 66), (.bin .add (.tmp 64) (.tmp 65)), none⟩, ⟨(some 67), (.move (.tmp 11)), none⟩, ⟨(some 68), (.bin .add (.tmp 66) (.tmp 67)), none⟩, ⟨(some 69), (.bin .eql (.tmp 63) (.tmp 68)), none⟩]) (.cond (.tmp 69) (.seq (.draws (.take ⟨(some 70), (.move (.tmp 1)), none⟩ (.take ⟨(some 71), (.move (.tmp 13)), none⟩ (.take ⟨(some 72), (.sliceS (.tmp 70) none (some (.tmp 71))), none⟩ (.take ⟨(some 73), (.move (.tmp 9)), none⟩ (.take ⟨(some 74), (.bin .add (.tmp 72) (.tmp 73)), none⟩ (.take ⟨(some 75), (.move (.tmp 3)), none⟩ (.take ⟨(some 78), (.move (.tmp 11)), none⟩ (.take ⟨(some 80), (.move (.tmp 1)), none⟩ (.take ⟨(some 81), (.move (.tmp 13)), none⟩ (.take ⟨(some 82), (.move (.tmp 12)), none⟩ (.take ⟨(some 83), (.bin .add (.tmp 81) (.tmp 82)), none⟩ (.take ⟨(some 84), (.sliceS (.tmp 80) (some (.tmp 83)) none), none⟩ (.only ⟨(some 76), (.call 61 [(.tmp 75)]), none⟩ (.take ⟨(some 77), (.bin .add (.tmp 74) (.tmp 76)), none⟩ (.take ⟨(some 79), (.bin .add (.tmp 77) (.tmp 78)), none⟩ (.take ⟨(some 85), (.bin .add (.tmp 79) (.tmp 84)), none⟩ (.take ⟨(some 8), (.assign (.tmp 85)), none⟩ .done)))))))))))))))))) .ret) .skip))) (.ops [⟨(some 56), (.move (.tmp 13)), none⟩, ⟨(some 57), (.bin .add (.tmp 56) (.const (.int .i64 1))), none⟩, ⟨(some 13), (.assign (.tmp 57)), none⟩])))))) (.seq (.ops [⟨(some 86), (.move (.tmp 1)), none⟩, ⟨(some 8), (.assign (.tmp 86)), none⟩]) .ret)))))), [(.move (.tmp 8))]⟩
theorem k37 : cfun Tryz.prog 37 = some c37 := by kernel_rfl
end Go.Proofs.YthielckgianmgaaGreatDoor.Ax
/- Package tell and the document's answers for it, over values without memory: what is said of a name. -/
namespace Go.Proofs.YthielckgianmgaaGreatDoor.Ax
open Go.RowKit Go By Nm Sc Dg
set_option linter.unusedSimpArgs false
set_option linter.unusedVariables false
set_option maxRecDepth 10000

/-! ### What is said -/
def stmtT : List UInt8 := [112, 114, 101, 112, 97, 114, 101, 100, 32, 115, 116, 97, 116, 101, 109, 101, 110, 116, 32]
def notT : List UInt8 := [32, 100, 111, 101, 115, 32, 110, 111, 116, 32, 101, 120, 105, 115, 116]
def alreadyT : List UInt8 := [32, 97, 108, 114, 101, 97, 100, 121, 32, 101, 120, 105, 115, 116, 115]
def unnamedT : List UInt8 := [117, 110, 110, 97, 109, 101, 100, 32, 112, 114, 101, 112, 97, 114, 101, 100, 32, 115, 116, 97, 116, 101, 109, 101, 110, 116, 32, 100, 111, 101, 115, 32, 110, 111, 116, 32, 101, 120, 105, 115, 116]
def butT : List UInt8 := [44, 32, 98, 117, 116, 32]
def requiresT : List UInt8 := [32, 114, 101, 113, 117, 105, 114, 101, 115, 32]
def stmtL (s : List UInt8) : List UInt8 := stmtT ++ quoteL s
def missL (s : List UInt8) : List UInt8 := if s = [] then unnamedT else stmtL s ++ notT
def existL (s : List UInt8) : List UInt8 := stmtL s ++ alreadyT
def reqL (s : List UInt8) : List UInt8 := butT ++ stmtL s ++ requiresT
theorem tstmt_c (s : List UInt8) (hs : s.length ≤ 100000) (h : List (List AV)) : Contract Tryz.prog 44 [.v (.string (strB s))] h (.v (.string (strB (stmtL s)))) h [] := by
  have q := quote_len s
  refine contract_of k44 mixed (by simp [c44]) fun hh hargs => ?_
  simp [c44]
  refine xcall_self (by simp) (dquote_c s (by omega) _) ?_
  simp [hh, stmtL, stmtT]
  omega
theorem tmiss_c (s : List UInt8) (hs : s.length ≤ 100000) (h : List (List AV)) : Contract Tryz.prog 18 [.v (.string (strB s))] h (.v (.string (strB (missL s)))) h [] := by
  have q := quote_len s
  refine contract_of k18 mixed (by simp [c18]) fun hh hargs => ?_
  unfold missL
  by_cases h0 : s = []
  · simp [c18, h0, hh, unnamedT]
  · simp [c18, h0]
    refine xcall_self (by simp) (tstmt_c s hs _) ?_
    simp [hh, stmtL, notT, stmtT]
    omega
theorem texist_c (s : List UInt8) (hs : s.length ≤ 100000) (h : List (List AV)) : Contract Tryz.prog 19 [.v (.string (strB s))] h (.v (.string (strB (existL s)))) h [] := by
  have q := quote_len s
  refine contract_of k19 mixed (by simp [c19]) fun hh hargs => ?_
  simp [c19]
  refine xcall_self (by simp) (tstmt_c s hs _) ?_
  simp [hh, existL, stmtL, alreadyT, stmtT]
  omega
theorem treq_c (s : List UInt8) (hs : s.length ≤ 100000) (h : List (List AV)) : Contract Tryz.prog 46 [.v (.string (strB s))] h (.v (.string (strB (reqL s)))) h [] := by
  have q := quote_len s
  refine contract_of k46 mixed (by simp [c46]) fun hh hargs => ?_
  simp [c46]
  refine xcall_self (by simp) (tstmt_c s hs _) ?_
  simp [hh, reqL, stmtL, butT, requiresT, stmtT]
  omega
/-! ### The document's -/
theorem rtmiss_c (s : List UInt8) (hs : s.length ≤ 100000) (h : List (List AV)) : Contract Tryz.prog 59 [.v (.string (strB s))] h (.v (.string (strB (missL s)))) h [] := by
  have q := quote_len s
  refine contract_of k59 mixed (by simp [c59]) fun hh hargs => ?_
  unfold missL
  by_cases h0 : s = []
  · simp [c59, h0, hh, unnamedT]
  · simp [c59, h0]
    refine xcall_self (by simp) (drquote_c s (by omega) _) ?_
    simp [hh, stmtL, notT, stmtT]
    omega
theorem rtexist_c (s : List UInt8) (hs : s.length ≤ 100000) (h : List (List AV)) : Contract Tryz.prog 60 [.v (.string (strB s))] h (.v (.string (strB (existL s)))) h [] := by
  have q := quote_len s
  refine contract_of k60 mixed (by simp [c60]) fun hh hargs => ?_
  simp [c60]
  refine xcall_self (by simp) (drquote_c s (by omega) _) ?_
  simp [hh, existL, stmtL, alreadyT, stmtT]
  omega
end Go.Proofs.YthielckgianmgaaGreatDoor.Ax
namespace Go.Proofs.YthielckgianmgaaGreatDoor.Ax
open Go.RowKit Go By Nm Sc Dg
set_option linter.unusedSimpArgs false
set_option linter.unusedVariables false
set_option maxRecDepth 10000

def ren26 (text a b : List UInt8) : List UInt8 := if text = missL a then missL b else text
def ren42 (text a b : List UInt8) : List UInt8 := if text = existL a then existL b else text
theorem trename26_c (text a b : List UInt8) (ha : a.length ≤ 100000) (hb : b.length ≤ 100000) (h : List (List AV)) : Contract Tryz.prog 58 [.v (.string (strB [50, 54, 48, 48, 48])), .v (.string (strB text)), .v (.string (strB a)), .v (.string (strB b))] h (.v (.string (strB (ren26 text a b)))) h [] := by
  refine contract_of k58 mixed (by simp [c58]) fun hh hargs => ?_
  unfold ren26
  simp [c58]
  refine xcall_self (by simp) (tmiss_c a ha _) ?_
  by_cases e : text = missL a
  · simp [e]
    refine xcall_self (by simp) (tmiss_c b hb _) ?_
    simp [hh]
  · simp [e, hh]
theorem trename42_c (text a b : List UInt8) (ha : a.length ≤ 100000) (hb : b.length ≤ 100000) (h : List (List AV)) : Contract Tryz.prog 58 [.v (.string (strB [52, 50, 80, 48, 53])), .v (.string (strB text)), .v (.string (strB a)), .v (.string (strB b))] h (.v (.string (strB (ren42 text a b)))) h [] := by
  refine contract_of k58 mixed (by simp [c58]) fun hh hargs => ?_
  unfold ren42
  simp [c58]
  refine xcall_self (by simp) (texist_c a ha _) ?_
  by_cases e : text = existL a
  · simp [e]
    refine xcall_self (by simp) (texist_c b hb _) ?_
    simp [hh]
  · simp [e, hh]
theorem trename_no_c (code text a b : List UInt8) (h1 : code ≠ [50, 54, 48, 48, 48]) (h2 : code ≠ [52, 50, 80, 48, 53]) (h3 : code ≠ [48, 56, 80, 48, 49]) (h : List (List AV)) : Contract Tryz.prog 58 [.v (.string (strB code)), .v (.string (strB text)), .v (.string (strB a)), .v (.string (strB b))] h (.v (.string (strB text))) h [] := by
  refine contract_of k58 mixed (by simp [c58]) fun hh hargs => ?_
  simp [c58, h1, h2, h3, hh]
end Go.Proofs.YthielckgianmgaaGreatDoor.Ax
