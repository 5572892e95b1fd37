/- A BEGIN leads into a transaction, an end out of one, a fault into a failed one. -/
import Derived.Test.YtknohkmpficjgaaQAxX
import Derived.Test.YtknohkmpficjgaaRows
import Derived.Test.YtknohkmpficjgaaQAxIh
import Derived.Test.YtknohkmpficjgaaQAxTz
import Derived.Test.YtknohkmpficjgaaQCodeC
import Derived.Test.YtknohkmpficjgaaQElems
import Derived.WalkKit
import Derived.ProofKit
import Derived.OpenShut
import Derived.ShutString
import Derived.ChangeOld
import Derived.Below
/- The texts of functions over values without memory, as the kernel reckons them out of the program. -/
namespace Go.Proofs.Ytknohkmpficjgaa.Ax
open Go.RowKit Go By

def c5 : XFun := ⟨22, (.seq (.ops [⟨(some 3), (.box (.tmp 1)), none⟩, ⟨(some 4), (.assign (.const (.int .u8 0))), none⟩, ⟨(some 5), (.assign (.const (.string (strB [])))), none⟩]) (.seq (.seq (.ops [⟨(some 6), (.move (.tmp 0)), none⟩, ⟨(some 7), (.call 9 [(.tmp 6)]), none⟩, ⟨(some 8), (.un .not (.tmp 7)), none⟩]) (.cond (.tmp 8) (.ops [⟨(some 0), (.assign (.const (.int .u8 73))), none⟩]) .skip)) (.seq (.block 0 (.seq (.ops [⟨(some 10), (.faddr 0 (.tmp 3)), none⟩, ⟨(some 11), (.load1 (.tmp 10)), none⟩, ⟨(some 12), (.bin .eql (.tmp 11) (.const (.int .i64 2))), none⟩, ⟨(some 9), (.assign (.tmp 12)), none⟩]) (.cond (.tmp 9) (.seq (.ops [⟨(some 13), (.move (.tmp 0)), none⟩, ⟨(some 14), (.call 12 [(.tmp 13)]), none⟩, ⟨(some 4), (.assign (.tmp 14)), none⟩, ⟨(some 5), (.assign (.const (.string (strB [66, 69, 71, 73, 78])))), none⟩]) .ret) (.seq (.ops [⟨(some 16), (.loadN 3 (.tmp 3)), none⟩, ⟨(some 17), (.call 13 [(.tmp 16)]), none⟩, ⟨(some 15), (.assign (.tmp 17)), none⟩]) (.cond (.tmp 15) (.seq (.ops [⟨(some 18), (.move (.tmp 0)), none⟩, ⟨(some 19), (.loadN 3 (.tmp 3)), none⟩, ⟨(some 20), (.call 14 [(.tmp 18), (.tmp 19)]), none⟩, ⟨(some 4), (.assign (.const (.int .u8 73))), none⟩, ⟨(some 5), (.assign (.tmp 20)), none⟩]) .ret) .skip))))) (.seq (.ops [⟨(some 21), (.move (.tmp 0)), none⟩, ⟨(some 4), (.assign (.tmp 21)), none⟩, ⟨(some 5), (.assign (.const (.string (strB [])))), none⟩]) .ret)))), [(.move (.tmp 4)), (.move (.tmp 5))]⟩
theorem k5 : cfun Try.prog 5 = some c5 := by kernel_rfl
def c7 : XFun := ⟨9, (.seq (.ops [⟨(some 2), (.assign (.const (.int .u8 0))), none⟩]) (.seq (.seq (.ops [⟨(some 3), (.move (.tmp 0)), none⟩, ⟨(some 4), (.bin .eql (.tmp 3) (.const (.int .u8 84))), none⟩, ⟨(some 5), (.move (.tmp 4)), none⟩, ⟨(some 6), (.move (.tmp 0)), (some (5, false))⟩, ⟨(some 7), (.bin .eql (.tmp 6) (.const (.int .u8 69))), (some (5, false))⟩, ⟨(some 8), (.pick (.tmp 5) (.const (.bool true)) (.tmp 7)), none⟩]) (.cond (.tmp 8) (.seq (.ops [⟨(some 2), (.assign (.const (.int .u8 69))), none⟩]) .ret) .skip)) (.seq (.ops [⟨(some 2), (.assign (.const (.int .u8 73))), none⟩]) .ret))), [(.move (.tmp 2))]⟩
theorem k7 : cfun Try.prog 7 = some c7 := by kernel_rfl
def c9 : XFun := ⟨13, (.seq (.ops [⟨(some 2), (.assign (.const (.bool false))), none⟩]) (.seq (.ops [⟨(some 3), (.move (.tmp 0)), none⟩, ⟨(some 4), (.bin .eql (.tmp 3) (.const (.int .u8 73))), none⟩, ⟨(some 5), (.move (.tmp 4)), none⟩, ⟨(some 6), (.move (.tmp 0)), (some (5, false))⟩, ⟨(some 7), (.bin .eql (.tmp 6) (.const (.int .u8 84))), (some (5, false))⟩, ⟨(some 8), (.pick (.tmp 5) (.const (.bool true)) (.tmp 7)), none⟩, ⟨(some 9), (.move (.tmp 8)), none⟩, ⟨(some 10), (.move (.tmp 0)), (some (9, false))⟩, ⟨(some 11), (.bin .eql (.tmp 10) (.const (.int .u8 69))), (some (9, false))⟩, ⟨(some 12), (.pick (.tmp 9) (.const (.bool true)) (.tmp 11)), none⟩, ⟨(some 2), (.assign (.tmp 12)), none⟩]) .ret)), [(.move (.tmp 2))]⟩
theorem k9 : cfun Try.prog 9 = some c9 := by kernel_rfl
def c12 : XFun := ⟨6, (.seq (.ops [⟨(some 2), (.assign (.const (.int .u8 0))), none⟩]) (.seq (.seq (.ops [⟨(some 3), (.move (.tmp 0)), none⟩, ⟨(some 4), (.bin .eql (.tmp 3) (.const (.int .u8 73))), none⟩]) (.cond (.tmp 4) (.seq (.ops [⟨(some 2), (.assign (.const (.int .u8 84))), none⟩]) .ret) .skip)) (.seq (.ops [⟨(some 5), (.move (.tmp 0)), none⟩, ⟨(some 2), (.assign (.tmp 5)), none⟩]) .ret))), [(.move (.tmp 2))]⟩
theorem k12 : cfun Try.prog 12 = some c12 := by kernel_rfl
def c14 : XFun := ⟨12, (.seq (.ops [⟨(some 3), (.box (.tmp 1)), none⟩, ⟨(some 4), (.assign (.const (.string (strB [])))), none⟩]) (.seq (.seq (.ops [⟨(some 5), (.faddr 0 (.tmp 3)), none⟩, ⟨(some 6), (.load1 (.tmp 5)), none⟩, ⟨(some 7), (.bin .eql (.tmp 6) (.const (.int .i64 4))), none⟩, ⟨(some 8), (.move (.tmp 7)), none⟩, ⟨(some 9), (.move (.tmp 0)), (some (8, false))⟩, ⟨(some 10), (.bin .eql (.tmp 9) (.const (.int .u8 69))), (some (8, false))⟩, ⟨(some 11), (.pick (.tmp 8) (.const (.bool true)) (.tmp 10)), none⟩]) (.cond (.tmp 11) (.seq (.ops [⟨(some 4), (.assign (.const (.string (strB [82, 79, 76, 76, 66, 65, 67, 75])))), none⟩]) .ret) .skip)) (.seq (.ops [⟨(some 4), (.assign (.const (.string (strB [67, 79, 77, 77, 73, 84])))), none⟩]) .ret))), [(.move (.tmp 4))]⟩
theorem k14 : cfun Try.prog 14 = some c14 := by kernel_rfl
def c11 : XFun := ⟨36, (.seq (.ops [⟨(some 0), (.assign (.const (.bool false))), none⟩]) (.seq (.ops [⟨(some 6), (.build [(.v (.int .i64 0)), (.v (.int .i64 0)), (.v (.string (strB [])))] [(0, (1, (.const (.int .i64 2))))]), none⟩, ⟨(some 7), (.call 5 [(.const (.int .u8 73)), (.tmp 6)]), none⟩, ⟨(some 5), (.move (.tmp 7)), none⟩, ⟨(some 8), (.extract (.tmp 5) 0), none⟩, ⟨(some 9), (.extract (.tmp 5) 1), none⟩, ⟨(some 1), (.assign (.tmp 8)), none⟩, ⟨(some 2), (.assign (.tmp 9)), none⟩]) (.seq (.ops [⟨(some 11), (.build [(.v (.int .i64 0)), (.v (.int .i64 0)), (.v (.string (strB [])))] [(0, (1, (.const (.int .i64 3))))]), none⟩, ⟨(some 12), (.call 5 [(.const (.int .u8 69)), (.tmp 11)]), none⟩, ⟨(some 10), (.move (.tmp 12)), none⟩, ⟨(some 13), (.extract (.tmp 10) 0), none⟩, ⟨(some 14), (.extract (.tmp 10) 1), none⟩, ⟨(some 3), (.assign (.tmp 13)), none⟩, ⟨(some 4), (.assign (.tmp 14)), none⟩]) (.seq (.ops [⟨(some 15), (.move (.tmp 1)), none⟩, ⟨(some 16), (.bin .eql (.tmp 15) (.const (.int .u8 84))), none⟩, ⟨(some 17), (.move (.tmp 16)), none⟩, ⟨(some 18), (.move (.tmp 2)), (some (17, true))⟩, ⟨(some 19), (.bin .eql (.tmp 18) (.const (.string (strB [66, 69, 71, 73, 78])))), (some (17, true))⟩, ⟨(some 20), (.pick (.tmp 17) (.tmp 19) (.const (.bool false))), none⟩, ⟨(some 21), (.move (.tmp 20)), none⟩, ⟨(some 22), (.move (.tmp 3)), (some (21, true))⟩, ⟨(some 23), (.bin .eql (.tmp 22) (.const (.int .u8 73))), (some (21, true))⟩, ⟨(some 24), (.pick (.tmp 21) (.tmp 23) (.const (.bool false))), none⟩, ⟨(some 25), (.move (.tmp 24)), none⟩, ⟨(some 26), (.move (.tmp 4)), (some (25, true))⟩, ⟨(some 27), (.bin .eql (.tmp 26) (.const (.string (strB [82, 79, 76, 76, 66, 65, 67, 75])))), (some (25, true))⟩, ⟨(some 28), (.pick (.tmp 25) (.tmp 27) (.const (.bool false))), none⟩, ⟨(some 29), (.move (.tmp 28)), none⟩, ⟨(some 30), (.call 7 [(.const (.int .u8 84))]), (some (29, true))⟩, ⟨(some 31), (.bin .eql (.tmp 30) (.const (.int .u8 69))), (some (29, true))⟩, ⟨(some 32), (.pick (.tmp 29) (.tmp 31) (.const (.bool false))), none⟩, ⟨(some 33), (.move (.tmp 32)), none⟩, ⟨(some 34), (.call 9 [(.const (.int .u8 73))]), (some (33, true))⟩, ⟨(some 35), (.pick (.tmp 33) (.tmp 34) (.const (.bool false))), none⟩, ⟨(some 0), (.assign (.tmp 35)), none⟩]) .ret)))), [(.move (.tmp 0))]⟩
theorem k11 : cfun Try.prog 11 = some c11 := by kernel_rfl
def c3 : XFun := ⟨46, (.seq (.ops [⟨(some 3), (.box (.tmp 1)), none⟩, ⟨(some 4), (.assign (.const (.bool false))), none⟩]) (.seq (.ops [⟨(some 10), (.move (.tmp 0)), none⟩, ⟨(some 11), (.loadN 3 (.tmp 3)), none⟩, ⟨(some 12), (.call 5 [(.tmp 10), (.tmp 11)]), none⟩, ⟨(some 9), (.move (.tmp 12)), none⟩, ⟨(some 13), (.extract (.tmp 9) 0), none⟩, ⟨(some 14), (.extract (.tmp 9) 1), none⟩, ⟨(some 5), (.assign (.tmp 13)), none⟩, ⟨(some 6), (.assign (.tmp 14)), none⟩]) (.seq (.ops [⟨(some 16), (.move (.tmp 0)), none⟩, ⟨(some 17), (.loadN 3 (.tmp 3)), none⟩, ⟨(some 18), (.call 6 [(.tmp 16), (.tmp 17)]), none⟩, ⟨(some 15), (.move (.tmp 18)), none⟩, ⟨(some 19), (.extract (.tmp 15) 0), none⟩, ⟨(some 20), (.extract (.tmp 15) 1), none⟩, ⟨(some 7), (.assign (.tmp 19)), none⟩, ⟨(some 8), (.assign (.tmp 20)), none⟩]) (.seq (.ops [⟨(some 21), (.move (.tmp 5)), none⟩, ⟨(some 22), (.move (.tmp 7)), none⟩, ⟨(some 23), (.bin .eql (.tmp 21) (.tmp 22)), none⟩, ⟨(some 24), (.move (.tmp 23)), none⟩, ⟨(some 25), (.move (.tmp 6)), (some (24, true))⟩, ⟨(some 26), (.move (.tmp 8)), (some (24, true))⟩, ⟨(some 27), (.bin .eql (.tmp 25) (.tmp 26)), (some (24, true))⟩, ⟨(some 28), (.pick (.tmp 24) (.tmp 27) (.const (.bool false))), none⟩, ⟨(some 29), (.move (.tmp 28)), none⟩, ⟨(some 30), (.move (.tmp 0)), (some (29, true))⟩, ⟨(some 31), (.call 7 [(.tmp 30)]), (some (29, true))⟩, ⟨(some 32), (.move (.tmp 0)), (some (29, true))⟩, ⟨(some 33), (.call 8 [(.tmp 32)]), (some (29, true))⟩, ⟨(some 34), (.bin .eql (.tmp 31) (.tmp 33)), (some (29, true))⟩, ⟨(some 35), (.pick (.tmp 29) (.tmp 34) (.const (.bool false))), none⟩, ⟨(some 36), (.move (.tmp 35)), none⟩, ⟨(some 37), (.move (.tmp 0)), (some (36, true))⟩, ⟨(some 38), (.call 9 [(.tmp 37)]), (some (36, true))⟩, ⟨(some 39), (.move (.tmp 0)), (some (36, true))⟩, ⟨(some 40), (.call 10 [(.tmp 39)]), (some (36, true))⟩, ⟨(some 41), (.beq false (.tmp 38) (.tmp 40)), (some (36, true))⟩, ⟨(some 42), (.pick (.tmp 36) (.tmp 41) (.const (.bool false))), none⟩, ⟨(some 43), (.move (.tmp 42)), none⟩, ⟨(some 44), (.call 11 []), (some (43, true))⟩, ⟨(some 45), (.pick (.tmp 43) (.tmp 44) (.const (.bool false))), none⟩, ⟨(some 4), (.assign (.tmp 45)), none⟩]) .ret)))), [(.move (.tmp 4))]⟩
theorem k3 : cfun Try.prog 3 = some c3 := by kernel_rfl
def c4 : XFun := ⟨60, (.seq (.ops [⟨(some 4), (.assign (.const (.bool false))), none⟩]) (.seq (.ops [⟨(some 12), (.move (.tmp 1)), none⟩, ⟨(some 13), (.build [(.v (.int .i64 0)), (.v (.int .i64 0)), (.v (.string (strB [])))] [(0, (1, (.tmp 12)))]), none⟩, ⟨(some 14), (.call 5 [(.const (.int .u8 73)), (.tmp 13)]), none⟩, ⟨(some 11), (.move (.tmp 14)), none⟩, ⟨(some 15), (.extract (.tmp 11) 0), none⟩, ⟨(some 16), (.extract (.tmp 11) 1), none⟩, ⟨(some 5), (.assign (.tmp 15)), none⟩, ⟨(some 6), (.assign (.tmp 16)), none⟩]) (.seq (.seq (.ops [⟨(some 17), (.move (.tmp 5)), none⟩, ⟨(some 18), (.bin .neq (.tmp 17) (.const (.int .u8 73))), none⟩, ⟨(some 19), (.move (.tmp 1)), none⟩, ⟨(some 20), (.bin .eql (.tmp 19) (.const (.int .i64 2))), none⟩, ⟨(some 21), (.beq true (.tmp 18) (.tmp 20)), none⟩]) (.cond (.tmp 21) (.seq (.ops [⟨(some 4), (.assign (.const (.bool false))), none⟩]) .ret) .skip)) (.seq (.ops [⟨(some 23), (.move (.tmp 0)), none⟩, ⟨(some 24), (.build [(.v (.int .i64 0)), (.v (.int .i64 0)), (.v (.string (strB [])))] [(0, (1, (.const (.int .i64 3))))]), none⟩, ⟨(some 25), (.call 5 [(.tmp 23), (.tmp 24)]), none⟩, ⟨(some 22), (.move (.tmp 25)), none⟩, ⟨(some 26), (.extract (.tmp 22) 0), none⟩, ⟨(some 27), (.extract (.tmp 22) 1), none⟩, ⟨(some 7), (.assign (.tmp 26)), none⟩, ⟨(some 8), (.assign (.tmp 27)), none⟩]) (.seq (.ops [⟨(some 29), (.move (.tmp 0)), none⟩, ⟨(some 30), (.build [(.v (.int .i64 0)), (.v (.int .i64 0)), (.v (.string (strB [])))] [(0, (1, (.const (.int .i64 4))))]), none⟩, ⟨(some 31), (.call 5 [(.tmp 29), (.tmp 30)]), none⟩, ⟨(some 28), (.move (.tmp 31)), none⟩, ⟨(some 32), (.extract (.tmp 28) 0), none⟩, ⟨(some 33), (.extract (.tmp 28) 1), none⟩, ⟨(some 9), (.assign (.tmp 32)), none⟩, ⟨(some 10), (.assign (.tmp 33)), none⟩]) (.seq (.ops [⟨(some 34), (.move (.tmp 7)), none⟩, ⟨(some 35), (.bin .eql (.tmp 34) (.const (.int .u8 73))), none⟩, ⟨(some 36), (.move (.tmp 35)), none⟩, ⟨(some 37), (.move (.tmp 9)), (some (36, true))⟩, ⟨(some 38), (.bin .eql (.tmp 37) (.const (.int .u8 73))), (some (36, true))⟩, ⟨(some 39), (.pick (.tmp 36) (.tmp 38) (.const (.bool false))), none⟩, ⟨(some 40), (.move (.tmp 39)), none⟩, ⟨(some 41), (.move (.tmp 0)), (some (40, true))⟩, ⟨(some 42), (.call 7 [(.tmp 41)]), (some (40, true))⟩, ⟨(some 43), (.call 9 [(.tmp 42)]), (some (40, true))⟩, ⟨(some 44), (.pick (.tmp 40) (.tmp 43) (.const (.bool false))), none⟩, ⟨(some 45), (.move (.tmp 44)), none⟩, ⟨(some 46), (.move (.tmp 0)), (some (45, true))⟩, ⟨(some 47), (.call 7 [(.tmp 46)]), (some (45, true))⟩, ⟨(some 48), (.bin .eql (.tmp 47) (.const (.int .u8 73))), (some (45, true))⟩, ⟨(some 49), (.move (.tmp 0)), (some (45, true))⟩, ⟨(some 50), (.bin .neq (.tmp 49) (.const (.int .u8 84))), (some (45, true))⟩, ⟨(some 51), (.move (.tmp 50)), (some (45, true))⟩, ⟨(some 52), (.move (.tmp 0)), (some (51, true))⟩, ⟨(some 53), (.bin .neq (.tmp 52) (.const (.int .u8 69))), (some (51, true))⟩, ⟨(some 54), (.pick (.tmp 51) (.tmp 53) (.const (.bool false))), (some (45, true))⟩, ⟨(some 55), (.beq false (.tmp 48) (.tmp 54)), (some (45, true))⟩, ⟨(some 56), (.pick (.tmp 45) (.tmp 55) (.const (.bool false))), none⟩, ⟨(some 57), (.move (.tmp 56)), none⟩, ⟨(some 58), (.call 11 []), (some (57, true))⟩, ⟨(some 59), (.pick (.tmp 57) (.tmp 58) (.const (.bool false))), none⟩, ⟨(some 4), (.assign (.tmp 59)), none⟩]) .ret)))))), [(.move (.tmp 4))]⟩
theorem k4 : cfun Try.prog 4 = some c4 := by kernel_rfl
end Go.Proofs.Ytknohkmpficjgaa.Ax
/- Layer 29 (tx), over values without memory. -/
namespace Go.Proofs.Ytknohkmpficjgaa.Ax
open Go.RowKit Go By Dg
set_option linter.unusedSimpArgs false
set_option linter.unusedVariables false
set_option maxRecDepth 10000

theorem txis_c (v : Vb) (ks : List Int) (hk : ks.length ≤ 1000) (h : List (List AV)) : Contract Try.prog 15 [.agg (vbC v), .sl 1 (enc intC ks) none .no] h (.v (.bool (ks.contains v.kind))) h [] := by
  refine contract_of k15 mixed (by simp [c15]) fun hh hargs => ?_
  simp [c15]
  refine xcall_self (by simp) (jhas_c (by omega) _) ?_
  simp [hh]
theorem txexit_c (v : Vb) (h : List (List AV)) : Contract Try.prog 13 [.agg (vbC v)] h (.v (.bool ([3, 4].contains v.kind))) h [] := by
  refine contract_of k13 mixed (by simp [c13]) fun hh hargs => ?_
  simp [c13]
  refine xcall_of (txis_c v [3, 4] (by simp) _) (by simp [intC]) (by simp) ?_
  simp [hh]
/-- May a session have that status? -/
def txR (s : Int) : Bool := decide (s = 73 ∨ s = 84 ∨ s = 69)
def txF (s : Int) : Int := if s = 84 ∨ s = 69 then 69 else 73
/-- A status that may be. -/
def txS (s : Int) : Int := if txR s = true then s else 73
def txN (s : Int) (k : Int) : Int := if k = 2 then (if txS s = 73 then 84 else txS s) else if k = 3 ∨ k = 4 then 73 else txS s
def txBegin : List UInt8 := [66, 69, 71, 73, 78]
def txCommit : List UInt8 := [67, 79, 77, 77, 73, 84]
def txRoll : List UInt8 := [82, 79, 76, 76, 66, 65, 67, 75]
def txT (s : Int) (k : Int) : List UInt8 := if k = 2 then txBegin else if k = 4 ∨ (k = 3 ∧ s = 69) then txRoll else if k = 3 then txCommit else []
theorem txS_69 (s : Int) : txS s = 69 ↔ s = 69 := by
  unfold txS txR
  split
  · exact Iff.rfl
  · rename_i h
    simp at h
    omega
theorem txF_right (s : Int) : txR (txF s) = true := by
  unfold txF txR
  split <;> simp
theorem txright_c (s : Int) (h : List (List AV)) : Contract Try.prog 9 [.v (.int .u8 s)] h (.v (.bool (txR s))) h [] := by
  refine contract_of k9 mixed (by simp [c9]) fun hh hargs => ?_
  by_cases h1 : s = 73
  · simp [c9, h1, hh, txR]
  by_cases h2 : s = 84
  · simp [c9, h1, h2, hh, txR]
  by_cases h3 : s = 69 <;> simp [c9, h1, h2, h3, hh, txR]
theorem txfail_c (s : Int) (h : List (List AV)) : Contract Try.prog 7 [.v (.int .u8 s)] h (.v (.int .u8 (txF s))) h [] := by
  refine contract_of k7 mixed (by simp [c7]) fun hh hargs => ?_
  by_cases h2 : s = 84
  · simp [c7, h2, hh, txF]
  by_cases h3 : s = 69 <;> simp [c7, h2, h3, hh, txF]
theorem txbegun_c (s : Int) (h : List (List AV)) : Contract Try.prog 12 [.v (.int .u8 s)] h (.v (.int .u8 (if s = 73 then 84 else s))) h [] := by
  refine contract_of k12 mixed (by simp [c12]) fun hh hargs => ?_
  by_cases h2 : s = 73 <;> simp [c12, h2, hh]
theorem txended_c (s : Int) (v : Vb) (h : List (List AV)) : Contract Try.prog 14 [.v (.int .u8 s), .agg (vbC v)] h (.v (.string (strB (if v.kind = 4 ∨ s = 69 then txRoll else txCommit)))) h [] := by
  refine contract_of k14 mixed (by simp [c14]) fun hh hargs => ?_
  by_cases h2 : v.kind = 4
  · simp [c14, h2, hh, txRoll, leqH_take]
  by_cases h3 : s = 69 <;> simp [c14, h2, h3, hh, txRoll, txCommit, leqH_take]
theorem txnext_c (s : Int) (v : Vb) (h : List (List AV)) : Contract Try.prog 5 [.v (.int .u8 s), .agg (vbC v)] h (.tup [.v (.int .u8 (txN s v.kind)), .v (.string (strB (txT s v.kind)))]) h [] := by
  refine contract_of k5 mixed (by simp [c5]) fun hh hargs => ?_
  have h69 := txS_69 s
  unfold txN txT
  simp [c5]
  refine xcall_self (by simp) (txright_c s _) ?_
  cases hr : txR s with
  | true =>
    have e : txS s = s := by unfold txS; rw [if_pos hr]
    rw [e]
    by_cases k2 : v.kind = 2
    · simp [k2]
      refine xcall_self (by simp) (txbegun_c s _) ?_
      simp [hh, txBegin, leqH_take]
    have k2' : (v.kind == 2) = false := by simpa using k2
    simp [k2, k2']
    refine xcall_self (by simp) (txexit_c v _) ?_
    by_cases k3 : v.kind = 3
    · simp [k3]
      refine xcall_self (by simp) (txended_c s v _) ?_
      by_cases h3 : s = 69 <;> simp [k3, h3, hh, leqH_take]
    by_cases k4 : v.kind = 4
    · simp [k4]
      refine xcall_self (by simp) (txended_c s v _) ?_
      simp [k4, hh, leqH_take]
    have k3' : (v.kind == 3) = false := by simpa using k3
    have k4' : (v.kind == 4) = false := by simpa using k4
    simp [k3, k4, k3', k4', hh, leqH_take]
  | false =>
    have e : txS s = 73 := by unfold txS; rw [if_neg (by simp [hr])]
    have hne : ¬ s = 69 := fun e2 => by rw [e2] at hr; cases hr
    rw [e]
    by_cases k2 : v.kind = 2
    · simp [k2]
      refine xcall_self (by simp) (txbegun_c 73 _) ?_
      simp [hh, txBegin, leqH_take]
    have k2' : (v.kind == 2) = false := by simpa using k2
    simp [k2, k2']
    refine xcall_self (by simp) (txexit_c v _) ?_
    by_cases k3 : v.kind = 3
    · simp [k3]
      refine xcall_self (by simp) (txended_c 73 v _) ?_
      simp [k3, hne, hh, leqH_take]
    by_cases k4 : v.kind = 4
    · simp [k4]
      refine xcall_self (by simp) (txended_c 73 v _) ?_
      simp [k4, hh, leqH_take]
    have k3' : (v.kind == 3) = false := by simpa using k3
    have k4' : (v.kind == 4) = false := by simpa using k4
    simp [k3, k4, k3', k4', hh, leqH_take]
/-! ### The document's, and the laws -/
theorem txawake_c (h : List (List AV)) : Contract Try.prog 11 [] h (.v (.bool true)) h [] := by
  refine contract_of k11 mixed (by simp [c11]) fun hh hargs => ?_
  have n1 := txnext_c 73 ⟨2, 0, []⟩ h
  have n2 := txnext_c 69 ⟨3, 0, []⟩ h
  have f1 := txfail_c 84 h
  have r1 := txright_c 73 h
  have e1 : txN 73 2 = 84 ∧ txT 73 2 = txBegin ∧ txN 69 3 = 73 ∧ txT 69 3 = txRoll ∧ txF 84 = 69 ∧ txR 73 = true := by decide
  obtain ⟨q1, q2, q3, q4, q5, q6⟩ := e1
  simp only [q1, q2] at n1
  simp only [q3, q4] at n2
  rw [q5] at f1
  rw [q6] at r1
  simp [c11]
  refine xcall_self (by simp) n1 ?_
  simp [txBegin]
  refine xcall_self (by simp) n2 ?_
  simp [txRoll]
  refine xcall_self (by simp) f1 ?_
  simp
  refine xcall_self (by simp) r1 ?_
  simp [hh]
theorem txleads_c (s k : Int) : Contract Try.prog 4 [.v (.int .u8 s), .v (.int .i64 k)] [] (.v (.bool true)) [] [] := by
  refine contract_of k4 mixed (by simp [c4]) fun hh hargs => ?_
  have n1 := fun H => txnext_c 73 ⟨k, 0, []⟩ H
  have n2 := fun H => txnext_c s ⟨3, 0, []⟩ H
  have n3 := fun H => txnext_c s ⟨4, 0, []⟩ H
  have e2 : txN s 3 = 73 ∧ txN s 4 = 73 := ⟨rfl, rfl⟩
  have hk : txN 73 k = if k = 2 then 84 else 73 := by
    have : txS 73 = 73 := by decide
    unfold txN
    rw [this]
    by_cases k2 : k = 2 <;> simp [k2]
  simp only [hk] at n1
  simp only [e2.1] at n2
  simp only [e2.2] at n3
  have hfr := txF_right s
  simp [c4]
  refine xcall_self (by simp) (n1 _) ?_
  by_cases k2 : k = 2
  · simp [k2]
    refine xcall_self (by simp) (n2 _) ?_
    simp
    refine xcall_self (by simp) (n3 _) ?_
    simp
    refine xcall_self (by simp) (txfail_c s _) ?_
    simp
    refine xcall_self (by simp) (txright_c _ _) ?_
    simp [hfr]
    refine xcall_self (by simp) (txfail_c s _) ?_
    by_cases s84 : s = 84
    · simp [s84, txF]
      refine xcall_self (by simp) (txawake_c _) ?_
      simp
    by_cases s69 : s = 69
    · simp [s84, s69, txF]
      refine xcall_self (by simp) (txawake_c _) ?_
      simp
    simp [s84, s69, txF]
    refine xcall_self (by simp) (txawake_c _) ?_
    simp [s84, s69]
  · simp [k2]
    refine xcall_self (by simp) (n2 _) ?_
    simp
    refine xcall_self (by simp) (n3 _) ?_
    simp
    refine xcall_self (by simp) (txfail_c s _) ?_
    simp
    refine xcall_self (by simp) (txright_c _ _) ?_
    simp [hfr]
    refine xcall_self (by simp) (txfail_c s _) ?_
    by_cases s84 : s = 84
    · simp [s84, txF]
      refine xcall_self (by simp) (txawake_c _) ?_
      simp
    by_cases s69 : s = 69
    · simp [s84, s69, txF]
      refine xcall_self (by simp) (txawake_c _) ?_
      simp
    simp [s84, s69, txF]
    refine xcall_self (by simp) (txawake_c _) ?_
    simp [s84, s69]
end Go.Proofs.Ytknohkmpficjgaa.Ax
namespace Go.Proofs.Ytknohkmpficjgaa.txLeads
open Go.ChangeShapes Go.WideShapes Go.ChangeAt Go.RowKit
open Go.ChangeMaps (open_string shut_string)
set_option linter.unusedVariables false

theorem own : ownKnob Try.prog.godebug = none := by kernel_rfl
theorem laidOut : laidOutB Try.prog = true := by kernel_rfl

set_option maxRecDepth 100000 in
theorem lifted (os : Os) (started : os.Started) (H : Type) (enc : TypeId × Value → H) :
    ReturnsInHanded {} Try.checked os 4 .any (Rows.txLeadsSpec.pre6 enc Try.prog Try.f4 Rows.txLeadsRow.domain false) (Rows.txLeadsSpec.post enc Try.prog Try.f4 false true false false) := by
  refine returnsInHanded_of_change (C := Try.checked) own started (by kernel_rfl) Try.func4
    (ChangeSpec.witness6 (enc := enc) (C := Try.checked) false ⟨#[], #[.int .u8 0, .int .i64 0], []⟩ 8 (by kernel_rfl) (by kernel_rfl) (by kernel_rfl) (by kernel_rfl)) ?_
  intro W base args ds gs before hval0 hW hcnd _
  have hval : ∀ (j : Nat) t v, Try.f4.params[j]? = some t → args[j]? = some v → Value.okWide Try.prog W .any base t v := hval0
  have hW' := hW
  obtain ⟨p, q, hA0, hV, rfl, hfz, hnd⟩ := hW
  have hA : DataW.TrodAll enc Try.prog W 0 (fun _ => true) true Try.f4.params.toList args.toList ds p := hA0
  rw [Try.params4] at hA hval
  obtain ⟨v0, vs0, d0, ds0, p0, q0, hargs, rfl, rfl, h0, r0⟩ := trodAll_cons hA
  obtain ⟨v1, vs1, d1, ds1, p1, q1, rfl, rfl, rfl, h1, r1⟩ := trodAll_cons r0
  obtain ⟨rfl, rfl, rfl⟩ := trodAll_nil r1
  obtain rfl : args = #[v0, v1] := by cases args; simp_all
  obtain ⟨rfl, rfl⟩ := trodVars_none hV
  have k0 := h0
  have lt0 : ∀ x ∈ p0, x.block < W.heap.size := by obtain ⟨m, hm⟩ := k0; exact DataW.trod_lt m _ _ _ hm
  obtain ⟨a0, ok0, s0⟩ := Ax.arg_int Try.underlying5 (hval 0 5 v0 rfl rfl) h0
  have k1 := h1
  have lt1 : ∀ x ∈ p1, x.block < W.heap.size := by obtain ⟨m, hm⟩ := k1; exact DataW.trod_lt m _ _ _ hm
  obtain ⟨a1, ok1, s1⟩ := Ax.arg_int Try.underlying3 (hval 1 3 v1 rfl rfl) h1
  clear hA0 hval0
  refine (Ax.law_walk (w := W) (Ax.dom_any W) (Ax.txleads_c a0 a1) (by simp) (.cons s0 (.cons s1 .nil))).mono fun e W' ⟨he, bel⟩ => ?_
  subst he
  exact ⟨_, rfl, _, _, _, [], _, [], hW', trodAll_mk1 (shut_bool Try.underlying4 _), (trodAll_cons_mk (Below.trod laidOut (by kernel_rfl) (of_decide_eq_true (by kernel_rfl)) k0 bel lt0) (trodAll_cons_mk (Below.trod laidOut (by kernel_rfl) (of_decide_eq_true (by kernel_rfl)) k1 bel lt1) trodAll_mk0)), rfl, bel.frame _, fun h => by cases h⟩

theorem over : Rows.txLeadsRow.holds Try.pinned (OpenSpec.ofChange Rows.txLeadsSpec) :=
  OpenClaim.holds_of_wide 4 Try.f4 rfl rfl rfl rfl rfl rfl rfl ⟨rfl, rfl, rfl, rfl, rfl⟩ rfl rfl rfl rfl rfl (by kernel_rfl) Try.func4 (by kernel_rfl)
    (of_decide_eq_true (by kernel_rfl)) (by unfold Func.isWrapper; first | (rw [if_pos (by decide +kernel)]; kernel_rfl) | (rw [if_neg (by decide +kernel)]; exact ⟨rfl, rfl⟩))
    (fun os started H enc _ => lifted os started H enc)

theorem proved : Rows.TxLeadsSaid := over
#print axioms proved
end Go.Proofs.Ytknohkmpficjgaa.txLeads
