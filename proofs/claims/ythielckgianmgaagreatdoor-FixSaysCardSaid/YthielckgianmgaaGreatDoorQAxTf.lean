/- tell.Rename over values without memory, but for numbers of parameters; awake; the statement of what is said of any name. -/
import Derived.Test.YthielckgianmgaaGreatDoorQAxHs
import Derived.Test.YthielckgianmgaaGreatDoorRows
import Derived.Test.YthielckgianmgaaGreatDoorQAxDg
/- The texts of functions over values without memory, as the kernel reckons them out of the program. -/
namespace Go.Proofs.YthielckgianmgaaGreatDoor.Ax
open Go.RowKit Go By

def c18 : XFun := ⟨8, (.seq (.ops [⟨(some 2), (.assign (.const (.string (strB [])))), none⟩]) (.seq (.seq (.ops [⟨(some 3), (.move (.tmp 0)), none⟩, ⟨(some 4), (.bin .eql (.tmp 3) (.const (.string (strB [])))), none⟩]) (.cond (.tmp 4) (.seq (.ops [⟨(some 2), (.assign (.const (.string (strB [117, 110, 110, 97, 109, 101, 100, 32, 112, 114, 101, 112, 97, 114, 101, 100, 32, 115, 116, 97, 116, 101, 109, 101, 110, 116, 32, 100, 111, 101, 115, 32, 110, 111, 116, 32, 101, 120, 105, 115, 116])))), none⟩]) .ret) .skip)) (.seq (.ops [⟨(some 5), (.move (.tmp 0)), none⟩, ⟨(some 6), (.call 44 [(.tmp 5)]), none⟩, ⟨(some 7), (.bin .add (.tmp 6) (.const (.string (strB [32, 100, 111, 101, 115, 32, 110, 111, 116, 32, 101, 120, 105, 115, 116])))), none⟩, ⟨(some 2), (.assign (.tmp 7)), none⟩]) .ret))), [(.move (.tmp 2))]⟩
theorem k18 : cfun Tryz.prog 18 = some c18 := by kernel_rfl
def c19 : XFun := ⟨6, (.seq (.ops [⟨(some 2), (.assign (.const (.string (strB [])))), none⟩]) (.seq (.ops [⟨(some 3), (.move (.tmp 0)), none⟩, ⟨(some 4), (.call 44 [(.tmp 3)]), none⟩, ⟨(some 5), (.bin .add (.tmp 4) (.const (.string (strB [32, 97, 108, 114, 101, 97, 100, 121, 32, 101, 120, 105, 115, 116, 115])))), none⟩, ⟨(some 2), (.assign (.tmp 5)), none⟩]) .ret)), [(.move (.tmp 2))]⟩
theorem k19 : cfun Tryz.prog 19 = some c19 := by kernel_rfl
def c20 : XFun := ⟨17, (.seq (.ops [⟨(some 6), (.assign (.const (.string (strB [])))), none⟩]) (.seq (.ops [⟨(some 7), (.move (.tmp 0)), none⟩, ⟨(some 8), (.call 45 [(.tmp 7)]), none⟩, ⟨(some 9), (.bin .add (.const (.string (strB [98, 105, 110, 100, 32, 109, 101, 115, 115, 97, 103, 101, 32, 115, 117, 112, 112, 108, 105, 101, 115, 32]))) (.tmp 8)), none⟩, ⟨(some 10), (.bin .add (.tmp 9) (.const (.string (strB [32, 112, 97, 114, 97, 109, 101, 116, 101, 114, 115])))), none⟩, ⟨(some 11), (.move (.tmp 1)), none⟩, ⟨(some 12), (.call 46 [(.tmp 11)]), none⟩, ⟨(some 13), (.bin .add (.tmp 10) (.tmp 12)), none⟩, ⟨(some 14), (.move (.tmp 2)), none⟩, ⟨(some 15), (.call 45 [(.tmp 14)]), none⟩, ⟨(some 16), (.bin .add (.tmp 13) (.tmp 15)), none⟩, ⟨(some 6), (.assign (.tmp 16)), none⟩]) .ret)), [(.move (.tmp 6))]⟩
theorem k20 : cfun Tryz.prog 20 = some c20 := by kernel_rfl
def c58 : XFun := ⟨35, (.seq (.ops [⟨(some 8), (.assign (.const (.string (strB [])))), none⟩]) (.seq (.seq (.ops [⟨(some 9), (.move (.tmp 0)), none⟩]) (.block 0 (.seq (.ops [⟨(some 11), (.bin .eql (.tmp 9) (.const (.string (strB [50, 54, 48, 48, 48])))), none⟩, ⟨(some 10), (.assign (.tmp 11)), none⟩]) (.cond (.tmp 10) (.seq (.ops [⟨(some 12), (.move (.tmp 1)), none⟩, ⟨(some 13), (.move (.tmp 2)), none⟩, ⟨(some 14), (.call 18 [(.tmp 13)]), none⟩, ⟨(some 15), (.bin .eql (.tmp 12) (.tmp 14)), none⟩]) (.cond (.tmp 15) (.seq (.ops [⟨(some 16), (.move (.tmp 3)), none⟩, ⟨(some 17), (.call 18 [(.tmp 16)]), none⟩, ⟨(some 8), (.assign (.tmp 17)), none⟩]) .ret) .skip)) (.seq (.ops [⟨(some 19), (.bin .eql (.tmp 9) (.const (.string (strB [52, 50, 80, 48, 53])))), none⟩, ⟨(some 18), (.assign (.tmp 19)), none⟩]) (.cond (.tmp 18) (.seq (.ops [⟨(some 20), (.move (.tmp 1)), none⟩, ⟨(some 21), (.move (.tmp 2)), none⟩, ⟨(some 22), (.call 19 [(.tmp 21)]), none⟩, ⟨(some 23), (.bin .eql (.tmp 20) (.tmp 22)), none⟩]) (.cond (.tmp 23) (.seq (.ops [⟨(some 24), (.move (.tmp 3)), none⟩, ⟨(some 25), (.call 19 [(.tmp 24)]), none⟩, ⟨(some 8), (.assign (.tmp 25)), none⟩]) .ret) .skip)) (.seq (.ops [⟨(some 27), (.bin .eql (.tmp 9) (.const (.string (strB [48, 56, 80, 48, 49])))), none⟩, ⟨(some 26), (.assign (.tmp 27)), none⟩]) (.cond (.tmp 26) (.seq (.ops [⟨(some 28), (.move (.tmp 1)), none⟩, ⟨(some 29), (.move (.tmp 2)), none⟩, ⟨(some 30), (.call 46 [(.tmp 29)]), none⟩, ⟨(some 31), (.move (.tmp 3)), none⟩, ⟨(some 32), (.call 46 [(.tmp 31)]), none⟩, ⟨(some 33), (.call 72 [(.tmp 28), (.tmp 30), (.tmp 32), (.const (.int .i64 1))]), none⟩, ⟨(some 8), (.assign (.tmp 33)), none⟩]) .ret) .skip)))))))) (.seq (.ops [⟨(some 34), (.move (.tmp 1)), none⟩, ⟨(some 8), (.assign (.tmp 34)), none⟩]) .ret))), [(.move (.tmp 8))]⟩
theorem k58 : cfun Tryz.prog 58 = some c58 := by kernel_rfl
def c46 : XFun := ⟨7, (.seq (.ops [⟨(some 2), (.assign (.const (.string (strB [])))), none⟩]) (.seq (.ops [⟨(some 3), (.move (.tmp 0)), none⟩, ⟨(some 4), (.call 44 [(.tmp 3)]), none⟩, ⟨(some 5), (.bin .add (.const (.string (strB [44, 32, 98, 117, 116, 32]))) (.tmp 4)), none⟩, ⟨(some 6), (.bin .add (.tmp 5) (.const (.string (strB [32, 114, 101, 113, 117, 105, 114, 101, 115, 32])))), none⟩, ⟨(some 2), (.assign (.tmp 6)), none⟩]) .ret)), [(.move (.tmp 2))]⟩
theorem k46 : cfun Tryz.prog 46 = some c46 := by kernel_rfl
def c44 : XFun := ⟨6, (.seq (.ops [⟨(some 2), (.assign (.const (.string (strB [])))), none⟩]) (.seq (.ops [⟨(some 3), (.move (.tmp 0)), none⟩, ⟨(some 4), (.call 68 [(.tmp 3)]), none⟩, ⟨(some 5), (.bin .add (.const (.string (strB [112, 114, 101, 112, 97, 114, 101, 100, 32, 115, 116, 97, 116, 101, 109, 101, 110, 116, 32]))) (.tmp 4)), none⟩, ⟨(some 2), (.assign (.tmp 5)), none⟩]) .ret)), [(.move (.tmp 2))]⟩
theorem k44 : cfun Tryz.prog 44 = some c44 := by kernel_rfl
end Go.Proofs.YthielckgianmgaaGreatDoor.Ax
/- Package tell and the document's answers for it, over values without memory: what is said of a name. -/
namespace Go.Proofs.YthielckgianmgaaGreatDoor.Ax
open Go.RowKit Go By Nm Sc Dg
set_option linter.unusedSimpArgs false
set_option linter.unusedVariables false
set_option maxRecDepth 10000

/-! ### What is said -/
def stmtT : List UInt8 := [112, 114, 101, 112, 97, 114, 101, 100, 32, 115, 116, 97, 116, 101, 109, 101, 110, 116, 32]
def notT : List UInt8 := [32, 100, 111, 101, 115, 32, 110, 111, 116, 32, 101, 120, 105, 115, 116]
def alreadyT : List UInt8 := [32, 97, 108, 114, 101, 97, 100, 121, 32, 101, 120, 105, 115, 116, 115]
def unnamedT : List UInt8 := [117, 110, 110, 97, 109, 101, 100, 32, 112, 114, 101, 112, 97, 114, 101, 100, 32, 115, 116, 97, 116, 101, 109, 101, 110, 116, 32, 100, 111, 101, 115, 32, 110, 111, 116, 32, 101, 120, 105, 115, 116]
def butT : List UInt8 := [44, 32, 98, 117, 116, 32]
def requiresT : List UInt8 := [32, 114, 101, 113, 117, 105, 114, 101, 115, 32]
def bindT : List UInt8 := [98, 105, 110, 100, 32, 109, 101, 115, 115, 97, 103, 101, 32, 115, 117, 112, 112, 108, 105, 101, 115, 32]
def paramsT : List UInt8 := [32, 112, 97, 114, 97, 109, 101, 116, 101, 114, 115]
def stmtL (s : List UInt8) : List UInt8 := stmtT ++ quoteL s
def missL (s : List UInt8) : List UInt8 := if s = [] then unnamedT else stmtL s ++ notT
def existL (s : List UInt8) : List UInt8 := stmtL s ++ alreadyT
def reqL (s : List UInt8) : List UInt8 := butT ++ stmtL s ++ requiresT
def arityL (n : Int) (s : List UInt8) (m : Int) : List UInt8 := bindT ++ Dg.textL n ++ paramsT ++ reqL s ++ Dg.textL m
theorem tstmt_c (s : List UInt8) (hs : s.length ≤ 100000) (h : List (List AV)) : Contract Tryz.prog 44 [.v (.string (strB s))] h (.v (.string (strB (stmtL s)))) h [] := by
  have q := quote_len s
  refine contract_of k44 mixed (by simp [c44]) fun hh hargs => ?_
  simp [c44]
  refine xcall_self (by simp) (dquote_c s (by omega) _) ?_
  simp [hh, stmtL, stmtT]
  omega
theorem tmiss_c (s : List UInt8) (hs : s.length ≤ 100000) (h : List (List AV)) : Contract Tryz.prog 18 [.v (.string (strB s))] h (.v (.string (strB (missL s)))) h [] := by
  have q := quote_len s
  refine contract_of k18 mixed (by simp [c18]) fun hh hargs => ?_
  unfold missL
  by_cases h0 : s = []
  · simp [c18, h0, hh, unnamedT]
  · simp [c18, h0]
    refine xcall_self (by simp) (tstmt_c s hs _) ?_
    simp [hh, stmtL, notT, stmtT]
    omega
theorem texist_c (s : List UInt8) (hs : s.length ≤ 100000) (h : List (List AV)) : Contract Tryz.prog 19 [.v (.string (strB s))] h (.v (.string (strB (existL s)))) h [] := by
  have q := quote_len s
  refine contract_of k19 mixed (by simp [c19]) fun hh hargs => ?_
  simp [c19]
  refine xcall_self (by simp) (tstmt_c s hs _) ?_
  simp [hh, existL, stmtL, alreadyT, stmtT]
  omega
theorem treq_c (s : List UInt8) (hs : s.length ≤ 100000) (h : List (List AV)) : Contract Tryz.prog 46 [.v (.string (strB s))] h (.v (.string (strB (reqL s)))) h [] := by
  have q := quote_len s
  refine contract_of k46 mixed (by simp [c46]) fun hh hargs => ?_
  simp [c46]
  refine xcall_self (by simp) (tstmt_c s hs _) ?_
  simp [hh, reqL, stmtL, butT, requiresT, stmtT]
  omega
theorem tarity_c (n m : Int) (s : List UInt8) (hn : -9223372036854775808 ≤ n ∧ n ≤ 9223372036854775807) (hm : -9223372036854775808 ≤ m ∧ m ≤ 9223372036854775807) (hs : s.length ≤ 100000) (h : List (List AV)) : Contract Tryz.prog 20 [.v (.int .i64 n), .v (.string (strB s)), .v (.int .i64 m)] h (.v (.string (strB (arityL n s m)))) h [] := by
  have q := quote_len s
  have l1 := dtext_len n hn.1 hn.2
  have l2 := dtext_len m hm.1 hm.2
  have l3 : (reqL s).length = 37 + s.length := by simp [reqL, stmtL, butT, stmtT, requiresT, q]; omega
  refine contract_of k20 mixed (by simp [c20]) fun hh hargs => ?_
  simp [c20]
  refine xcall_self (by simp) (dtext_c n hn.1 hn.2 _) ?_
  simp
  refine ⟨by omega, by omega, ?_⟩
  refine xcall_self (by simp) (treq_c s hs _) ?_
  simp
  refine ⟨by omega, ?_⟩
  refine xcall_self (by simp) (dtext_c m hm.1 hm.2 _) ?_
  simp [hh, arityL, bindT, paramsT]
  omega
/-! ### The document's -/
end Go.Proofs.YthielckgianmgaaGreatDoor.Ax
namespace Go.Proofs.YthielckgianmgaaGreatDoor.Ax
open Go.RowKit Go By Nm Sc Dg
set_option linter.unusedSimpArgs false
set_option linter.unusedVariables false
set_option maxRecDepth 10000

def ren26 (text a b : List UInt8) : List UInt8 := if text = missL a then missL b else text
def ren42 (text a b : List UInt8) : List UInt8 := if text = existL a then existL b else text
theorem trename26_c (text a b : List UInt8) (ha : a.length ≤ 100000) (hb : b.length ≤ 100000) (h : List (List AV)) : Contract Tryz.prog 58 [.v (.string (strB [50, 54, 48, 48, 48])), .v (.string (strB text)), .v (.string (strB a)), .v (.string (strB b))] h (.v (.string (strB (ren26 text a b)))) h [] := by
  refine contract_of k58 mixed (by simp [c58]) fun hh hargs => ?_
  unfold ren26
  simp [c58]
  refine xcall_self (by simp) (tmiss_c a ha _) ?_
  by_cases e : text = missL a
  · simp [e]
    refine xcall_self (by simp) (tmiss_c b hb _) ?_
    simp [hh]
  · simp [e, hh]
theorem trename42_c (text a b : List UInt8) (ha : a.length ≤ 100000) (hb : b.length ≤ 100000) (h : List (List AV)) : Contract Tryz.prog 58 [.v (.string (strB [52, 50, 80, 48, 53])), .v (.string (strB text)), .v (.string (strB a)), .v (.string (strB b))] h (.v (.string (strB (ren42 text a b)))) h [] := by
  refine contract_of k58 mixed (by simp [c58]) fun hh hargs => ?_
  unfold ren42
  simp [c58]
  refine xcall_self (by simp) (texist_c a ha _) ?_
  by_cases e : text = existL a
  · simp [e]
    refine xcall_self (by simp) (texist_c b hb _) ?_
    simp [hh]
  · simp [e, hh]
theorem trename_no_c (code text a b : List UInt8) (h1 : code ≠ [50, 54, 48, 48, 48]) (h2 : code ≠ [52, 50, 80, 48, 53]) (h3 : code ≠ [48, 56, 80, 48, 49]) (h : List (List AV)) : Contract Tryz.prog 58 [.v (.string (strB code)), .v (.string (strB text)), .v (.string (strB a)), .v (.string (strB b))] h (.v (.string (strB text))) h [] := by
  refine contract_of k58 mixed (by simp [c58]) fun hh hargs => ?_
  simp [c58, h1, h2, h3, hh]
theorem ren26_self (a b : List UInt8) : ren26 (missL a) a b = missL b := if_pos rfl
theorem ren42_self (a b : List UInt8) : ren42 (existL a) a b = existL b := if_pos rfl
end Go.Proofs.YthielckgianmgaaGreatDoor.Ax
