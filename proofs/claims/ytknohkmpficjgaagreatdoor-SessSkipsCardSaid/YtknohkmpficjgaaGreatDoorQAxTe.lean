import Derived.Test.YtknohkmpficjgaaGreatDoorQAxXr
import Derived.Test.YtknohkmpficjgaaGreatDoorRows
import Derived.Test.YtknohkmpficjgaaGreatDoorQAxDg
set_option linter.unusedSimpArgs false
set_option linter.unusedVariables false
namespace Go.Proofs.YtknohkmpficjgaaGreatDoor.Ax
open Go.RowKit Go By
def c146 : XFun := ⟨8, (.seq (.ops [⟨(some 2), (.assign (.const (.string (strB [])))), none⟩]) (.seq (.seq (.ops [⟨(some 3), (.move (.tmp 0)), none⟩, ⟨(some 4), (.bin .eql (.tmp 3) (.const (.string (strB [])))), none⟩]) (.cond (.tmp 4) (.seq (.ops [⟨(some 2), (.assign (.const (.string (strB [117, 110, 110, 97, 109, 101, 100, 32, 112, 114, 101, 112, 97, 114, 101, 100, 32, 115, 116, 97, 116, 101, 109, 101, 110, 116, 32, 100, 111, 101, 115, 32, 110, 111, 116, 32, 101, 120, 105, 115, 116])))), none⟩]) .ret) .skip)) (.seq (.ops [⟨(some 5), (.move (.tmp 0)), none⟩, ⟨(some 6), (.call 144 [(.tmp 5)]), none⟩, ⟨(some 7), (.bin .add (.tmp 6) (.const (.string (strB [32, 100, 111, 101, 115, 32, 110, 111, 116, 32, 101, 120, 105, 115, 116])))), none⟩, ⟨(some 2), (.assign (.tmp 7)), none⟩]) .ret))), [(.move (.tmp 2))]⟩
theorem k146 : cfun Tryz.prog 146 = some c146 := by kernel_rfl
def c82 : XFun := ⟨6, (.seq (.ops [⟨(some 2), (.assign (.const (.string (strB [])))), none⟩]) (.seq (.ops [⟨(some 3), (.move (.tmp 0)), none⟩, ⟨(some 4), (.call 144 [(.tmp 3)]), none⟩, ⟨(some 5), (.bin .add (.tmp 4) (.const (.string (strB [32, 97, 108, 114, 101, 97, 100, 121, 32, 101, 120, 105, 115, 116, 115])))), none⟩, ⟨(some 2), (.assign (.tmp 5)), none⟩]) .ret)), [(.move (.tmp 2))]⟩
theorem k82 : cfun Tryz.prog 82 = some c82 := by kernel_rfl
def c86 : XFun := ⟨17, (.seq (.ops [⟨(some 6), (.assign (.const (.string (strB [])))), none⟩]) (.seq (.ops [⟨(some 7), (.move (.tmp 0)), none⟩, ⟨(some 8), (.call 142 [(.tmp 7)]), none⟩, ⟨(some 9), (.bin .add (.const (.string (strB [98, 105, 110, 100, 32, 109, 101, 115, 115, 97, 103, 101, 32, 115, 117, 112, 112, 108, 105, 101, 115, 32]))) (.tmp 8)), none⟩, ⟨(some 10), (.bin .add (.tmp 9) (.const (.string (strB [32, 112, 97, 114, 97, 109, 101, 116, 101, 114, 115])))), none⟩, ⟨(some 11), (.move (.tmp 1)), none⟩, ⟨(some 12), (.call 148 [(.tmp 11)]), none⟩, ⟨(some 13), (.bin .add (.tmp 10) (.tmp 12)), none⟩, ⟨(some 14), (.move (.tmp 2)), none⟩, ⟨(some 15), (.call 142 [(.tmp 14)]), none⟩, ⟨(some 16), (.bin .add (.tmp 13) (.tmp 15)), none⟩, ⟨(some 6), (.assign (.tmp 16)), none⟩]) .ret)), [(.move (.tmp 6))]⟩
theorem k86 : cfun Tryz.prog 86 = some c86 := by kernel_rfl
def c152 : XFun := ⟨7, (.seq (.ops [⟨(some 2), (.assign (.const (.string (strB [])))), none⟩]) (.seq (.ops [⟨(some 3), (.move (.tmp 0)), none⟩, ⟨(some 4), (.call 150 [(.tmp 3)]), none⟩, ⟨(some 5), (.bin .add (.const (.string (strB [112, 111, 114, 116, 97, 108, 32]))) (.tmp 4)), none⟩, ⟨(some 6), (.bin .add (.tmp 5) (.const (.string (strB [32, 100, 111, 101, 115, 32, 110, 111, 116, 32, 101, 120, 105, 115, 116])))), none⟩, ⟨(some 2), (.assign (.tmp 6)), none⟩]) .ret)), [(.move (.tmp 2))]⟩
theorem k152 : cfun Tryz.prog 152 = some c152 := by kernel_rfl
def c88 : XFun := ⟨7, (.seq (.ops [⟨(some 2), (.assign (.const (.string (strB [])))), none⟩]) (.seq (.ops [⟨(some 3), (.move (.tmp 0)), none⟩, ⟨(some 4), (.call 150 [(.tmp 3)]), none⟩, ⟨(some 5), (.bin .add (.const (.string (strB [99, 117, 114, 115, 111, 114, 32]))) (.tmp 4)), none⟩, ⟨(some 6), (.bin .add (.tmp 5) (.const (.string (strB [32, 97, 108, 114, 101, 97, 100, 121, 32, 101, 120, 105, 115, 116, 115])))), none⟩, ⟨(some 2), (.assign (.tmp 6)), none⟩]) .ret)), [(.move (.tmp 2))]⟩
theorem k88 : cfun Tryz.prog 88 = some c88 := by kernel_rfl
def c148 : XFun := ⟨7, (.seq (.ops [⟨(some 2), (.assign (.const (.string (strB [])))), none⟩]) (.seq (.ops [⟨(some 3), (.move (.tmp 0)), none⟩, ⟨(some 4), (.call 144 [(.tmp 3)]), none⟩, ⟨(some 5), (.bin .add (.const (.string (strB [44, 32, 98, 117, 116, 32]))) (.tmp 4)), none⟩, ⟨(some 6), (.bin .add (.tmp 5) (.const (.string (strB [32, 114, 101, 113, 117, 105, 114, 101, 115, 32])))), none⟩, ⟨(some 2), (.assign (.tmp 6)), none⟩]) .ret)), [(.move (.tmp 2))]⟩
theorem k148 : cfun Tryz.prog 148 = some c148 := by kernel_rfl
def c144 : XFun := ⟨6, (.seq (.ops [⟨(some 2), (.assign (.const (.string (strB [])))), none⟩]) (.seq (.ops [⟨(some 3), (.move (.tmp 0)), none⟩, ⟨(some 4), (.call 150 [(.tmp 3)]), none⟩, ⟨(some 5), (.bin .add (.const (.string (strB [112, 114, 101, 112, 97, 114, 101, 100, 32, 115, 116, 97, 116, 101, 109, 101, 110, 116, 32]))) (.tmp 4)), none⟩, ⟨(some 2), (.assign (.tmp 5)), none⟩]) .ret)), [(.move (.tmp 2))]⟩
theorem k144 : cfun Tryz.prog 144 = some c144 := by kernel_rfl
end Go.Proofs.YtknohkmpficjgaaGreatDoor.Ax
namespace Go.Proofs.YtknohkmpficjgaaGreatDoor.Ax
open Go.RowKit Go By YtknohkmpficjgaaGreatDoor.Nm Sc Dg
set_option maxRecDepth 10000
def stmtT : List UInt8 := [112, 114, 101, 112, 97, 114, 101, 100, 32, 115, 116, 97, 116, 101, 109, 101, 110, 116, 32]
def notT : List UInt8 := [32, 100, 111, 101, 115, 32, 110, 111, 116, 32, 101, 120, 105, 115, 116]
def alreadyT : List UInt8 := [32, 97, 108, 114, 101, 97, 100, 121, 32, 101, 120, 105, 115, 116, 115]
def unnamedT : List UInt8 := [117, 110, 110, 97, 109, 101, 100, 32, 112, 114, 101, 112, 97, 114, 101, 100, 32, 115, 116, 97, 116, 101, 109, 101, 110, 116, 32, 100, 111, 101, 115, 32, 110, 111, 116, 32, 101, 120, 105, 115, 116]
def butT : List UInt8 := [44, 32, 98, 117, 116, 32]
def requiresT : List UInt8 := [32, 114, 101, 113, 117, 105, 114, 101, 115, 32]
def bindT : List UInt8 := [98, 105, 110, 100, 32, 109, 101, 115, 115, 97, 103, 101, 32, 115, 117, 112, 112, 108, 105, 101, 115, 32]
def paramsT : List UInt8 := [32, 112, 97, 114, 97, 109, 101, 116, 101, 114, 115]
def portalT : List UInt8 := [112, 111, 114, 116, 97, 108, 32]
def cursorT : List UInt8 := [99, 117, 114, 115, 111, 114, 32]
def stmtL (s : List UInt8) : List UInt8 := stmtT ++ quoteL s
def missL (s : List UInt8) : List UInt8 := if s = [] then unnamedT else stmtL s ++ notT
def existL (s : List UInt8) : List UInt8 := stmtL s ++ alreadyT
def reqL (s : List UInt8) : List UInt8 := butT ++ stmtL s ++ requiresT
def arityL (n : Int) (s : List UInt8) (m : Int) : List UInt8 := bindT ++ Dg.textL n ++ paramsT ++ reqL s ++ Dg.textL m
def portL (s : List UInt8) : List UInt8 := portalT ++ quoteL s ++ notT
def cursL (s : List UInt8) : List UInt8 := cursorT ++ quoteL s ++ alreadyT
theorem tstmt_c (s : List UInt8) (hs : s.length <= 100000) (h : List (List AV)) : Contract Tryz.prog 144 [.v (.string (strB s))] h (.v (.string (strB (stmtL s)))) h [] := by
 have q := quote_len s
 refine contract_of k144 mixed (by simp [c144]) fun hh hargs => ?_
 simp [c144]
 refine xcall_self (by simp) (dquote_c s (by omega) _) ?_
 simp [hh, stmtL, stmtT]
 omega
theorem tmiss_c (s : List UInt8) (hs : s.length <= 100000) (h : List (List AV)) : Contract Tryz.prog 146 [.v (.string (strB s))] h (.v (.string (strB (missL s)))) h [] := by
 have q := quote_len s
 refine contract_of k146 mixed (by simp [c146]) fun hh hargs => ?_
 unfold missL
 by_cases h0 : s = []
 ·simp [c146, h0, hh, unnamedT]
 ·simp [c146, h0]
  refine xcall_self (by simp) (tstmt_c s hs _) ?_
  simp [hh, stmtL, notT, stmtT]
  omega
theorem texist_c (s : List UInt8) (hs : s.length <= 100000) (h : List (List AV)) : Contract Tryz.prog 82 [.v (.string (strB s))] h (.v (.string (strB (existL s)))) h [] := by
 have q := quote_len s
 refine contract_of k82 mixed (by simp [c82]) fun hh hargs => ?_
 simp [c82]
 refine xcall_self (by simp) (tstmt_c s hs _) ?_
 simp [hh, existL, stmtL, alreadyT, stmtT]
 omega
theorem treq_c (s : List UInt8) (hs : s.length <= 100000) (h : List (List AV)) : Contract Tryz.prog 148 [.v (.string (strB s))] h (.v (.string (strB (reqL s)))) h [] := by
 have q := quote_len s
 refine contract_of k148 mixed (by simp [c148]) fun hh hargs => ?_
 simp [c148]
 refine xcall_self (by simp) (tstmt_c s hs _) ?_
 simp [hh, reqL, stmtL, butT, requiresT, stmtT]
 omega
theorem tarity_c (n m : Int) (s : List UInt8) (hn : -9223372036854775808 <= n /\ n <= 9223372036854775807) (hm : -9223372036854775808 <= m /\ m <= 9223372036854775807) (hs : s.length <= 100000) (h : List (List AV)) : Contract Tryz.prog 86 [.v (.int .i64 n), .v (.string (strB s)), .v (.int .i64 m)] h (.v (.string (strB (arityL n s m)))) h [] := by
 have q := quote_len s
 have l1 := dtext_len n hn.1 hn.2
 have l2 := dtext_len m hm.1 hm.2
 have l3 : (reqL s).length = 37 + s.length := by simp [reqL, stmtL, butT, stmtT, requiresT, q]; omega
 refine contract_of k86 mixed (by simp [c86]) fun hh hargs => ?_
 simp [c86]
 refine xcall_self (by simp) (dtext_c n hn.1 hn.2 _) ?_
 simp
 refine ⟨by omega, by omega, ?_⟩
 refine xcall_self (by simp) (treq_c s hs _) ?_
 simp
 refine ⟨by omega, ?_⟩
 refine xcall_self (by simp) (dtext_c m hm.1 hm.2 _) ?_
 simp [hh, arityL, bindT, paramsT]
 omega
theorem tport_c (s : List UInt8) (hs : s.length <= 100000) (h : List (List AV)) : Contract Tryz.prog 152 [.v (.string (strB s))] h (.v (.string (strB (portL s)))) h [] := by
 have q := quote_len s
 refine contract_of k152 mixed (by simp [c152]) fun hh hargs => ?_
 simp [c152]
 refine xcall_self (by simp) (dquote_c s (by omega) _) ?_
 simp [hh, portL, portalT, notT]
 omega
theorem tcurs_c (s : List UInt8) (hs : s.length <= 100000) (h : List (List AV)) : Contract Tryz.prog 88 [.v (.string (strB s))] h (.v (.string (strB (cursL s)))) h [] := by
 have q := quote_len s
 refine contract_of k88 mixed (by simp [c88]) fun hh hargs => ?_
 simp [c88]
 refine xcall_self (by simp) (dquote_c s (by omega) _) ?_
 simp [hh, cursL, cursorT, alreadyT]
 omega
end Go.Proofs.YtknohkmpficjgaaGreatDoor.Ax
