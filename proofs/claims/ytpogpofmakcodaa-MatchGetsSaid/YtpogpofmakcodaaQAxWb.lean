/- Messages of a server that are short enough, over values without memory. -/
import Derived.Test.YtpogpofmakcodaaQAxX
import Derived.Test.YtpogpofmakcodaaRows
import Derived.Test.YtpogpofmakcodaaQAxTz
import Derived.Test.YtpogpofmakcodaaQAxBa
import Derived.Test.YtpogpofmakcodaaQAxIb
import Derived.Test.YtpogpofmakcodaaQCodeA
/- The texts of functions over values without memory, as the kernel reckons them out of the program. -/
namespace Go.Proofs.Ytpogpofmakcodaa.Ax
open Go.RowKit Go By

def c60 : XFun := ⟨9, (.seq (.ops [⟨(some 4), (.assign (.const (.bool false))), none⟩]) (.seq (.ops [⟨(some 5), (.move (.tmp 0)), none⟩, ⟨(some 6), (.move (.tmp 1)), none⟩, ⟨(some 7), (.call 73 [(.tmp 5), (.tmp 6)]), none⟩, ⟨(some 8), (.bin .geq (.tmp 7) (.const (.int .i64 0))), none⟩, ⟨(some 4), (.assign (.tmp 8)), none⟩]) .ret)), [(.move (.tmp 4))]⟩
theorem k60 : cfun Try.prog 60 = some c60 := by kernel_rfl
def c73 : XFun := ⟨19, (.seq (.ops [⟨(some 4), (.assign (.const (.int .i64 0))), none⟩]) (.seq (.seq (.ops [⟨(some 6), (.move (.tmp 0)), none⟩, ⟨(some 7), (.lenL (.tmp 6)), none⟩, ⟨(some 8), (.move (.const (.int .i64 0))), none⟩]) (.block 0 (.loop (.seq (.ops [⟨(some 9), (.bin .lss (.tmp 8) (.tmp 7)), none⟩]) (.seq (.cond (.tmp 9) .skip (.exit 0)) (.seq (.block 1 (.seq (.ops [⟨(some 10), (.move (.tmp 8)), none⟩, ⟨(some 5), (.assign (.tmp 10)), none⟩]) (.seq (.ops [⟨(some 11), (.move (.tmp 1)), none⟩, ⟨(some 12), (.move (.tmp 0)), none⟩, ⟨(some 13), (.move (.tmp 5)), none⟩, ⟨(some 14), (.iaddr 7 (.tmp 12) (.tmp 13)), none⟩, ⟨(some 15), (.loadN 7 (.tmp 14)), none⟩, ⟨(some 16), (.callv (.tmp 11) [(.tmp 15)]), none⟩]) (.cond (.tmp 16) (.seq (.ops [⟨(some 17), (.move (.tmp 5)), none⟩, ⟨(some 4), (.assign (.tmp 17)), none⟩]) .ret) .skip)))) (.ops [⟨(some 18), (.bin .add (.tmp 8) (.const (.int .i64 1))), none⟩, ⟨(some 8), (.move (.tmp 18)), none⟩]))))))) (.seq (.ops [⟨(some 4), (.assign (.const (.int .i64 (-1)))), none⟩]) .ret))), [(.move (.tmp 4))]⟩
theorem k73 : cfun Try.prog 73 = some c73 := by kernel_rfl
def c64 : XFun := ⟨9, (.seq (.ops [⟨(some 4), (.assign (.const (.bool false))), none⟩]) (.seq (.ops [⟨(some 5), (.move (.tmp 0)), none⟩, ⟨(some 6), (.move (.tmp 1)), none⟩, ⟨(some 7), (.call 75 [(.tmp 5), (.tmp 6)]), none⟩, ⟨(some 8), (.bin .geq (.tmp 7) (.const (.int .i64 0))), none⟩, ⟨(some 4), (.assign (.tmp 8)), none⟩]) .ret)), [(.move (.tmp 4))]⟩
theorem k64 : cfun Try.prog 64 = some c64 := by kernel_rfl
def c75 : XFun := ⟨19, (.seq (.ops [⟨(some 4), (.assign (.const (.int .i64 0))), none⟩]) (.seq (.seq (.ops [⟨(some 6), (.move (.tmp 0)), none⟩, ⟨(some 7), (.lenL (.tmp 6)), none⟩, ⟨(some 8), (.move (.const (.int .i64 0))), none⟩]) (.block 0 (.loop (.seq (.ops [⟨(some 9), (.bin .lss (.tmp 8) (.tmp 7)), none⟩]) (.seq (.cond (.tmp 9) .skip (.exit 0)) (.seq (.block 1 (.seq (.ops [⟨(some 10), (.move (.tmp 8)), none⟩, ⟨(some 5), (.assign (.tmp 10)), none⟩]) (.seq (.ops [⟨(some 11), (.move (.tmp 1)), none⟩, ⟨(some 12), (.move (.tmp 0)), none⟩, ⟨(some 13), (.move (.tmp 5)), none⟩, ⟨(some 14), (.iaddr 2 (.tmp 12) (.tmp 13)), none⟩, ⟨(some 15), (.loadN 2 (.tmp 14)), none⟩, ⟨(some 16), (.callv (.tmp 11) [(.tmp 15)]), none⟩]) (.cond (.tmp 16) (.seq (.ops [⟨(some 17), (.move (.tmp 5)), none⟩, ⟨(some 4), (.assign (.tmp 17)), none⟩]) .ret) .skip)))) (.ops [⟨(some 18), (.bin .add (.tmp 8) (.const (.int .i64 1))), none⟩, ⟨(some 8), (.move (.tmp 18)), none⟩]))))))) (.seq (.ops [⟨(some 4), (.assign (.const (.int .i64 (-1)))), none⟩]) .ret))), [(.move (.tmp 4))]⟩
theorem k75 : cfun Try.prog 75 = some c75 := by kernel_rfl
def c40 : XFun := ⟨60, (.seq (.ops [⟨(some 1), (.box (.tmp 0)), none⟩, ⟨(some 2), (.assign (.const (.bool false))), none⟩]) (.seq (.seq (.ops [⟨(some 4), (.faddr 7 (.tmp 1)), none⟩, ⟨(some 5), (.load1 (.tmp 4)), none⟩, ⟨(some 6), (.lenL (.tmp 5)), none⟩, ⟨(some 7), (.bin .gtr (.tmp 6) (.const (.int .i64 50))), none⟩, ⟨(some 8), (.move (.tmp 7)), none⟩, ⟨(some 9), (.faddr 8 (.tmp 1)), (some (8, false))⟩, ⟨(some 10), (.load1 (.tmp 9)), (some (8, false))⟩, ⟨(some 11), (.lenL (.tmp 10)), (some (8, false))⟩, ⟨(some 12), (.bin .gtr (.tmp 11) (.const (.int .i64 50))), (some (8, false))⟩, ⟨(some 13), (.pick (.tmp 8) (.const (.bool true)) (.tmp 12)), none⟩, ⟨(some 14), (.move (.tmp 13)), none⟩, ⟨(some 15), (.faddr 9 (.tmp 1)), (some (14, false))⟩, ⟨(some 16), (.load1 (.tmp 15)), (some (14, false))⟩, ⟨(some 17), (.lenL (.tmp 16)), (some (14, false))⟩, ⟨(some 18), (.bin .gtr (.tmp 17) (.const (.int .i64 50))), (some (14, false))⟩, ⟨(some 19), (.pick (.tmp 14) (.const (.bool true)) (.tmp 18)), none⟩, ⟨(some 20), (.move (.tmp 19)), none⟩, ⟨(some 21), (.faddr 10 (.tmp 1)), (some (20, false))⟩, ⟨(some 22), (.load1 (.tmp 21)), (some (20, false))⟩, ⟨(some 23), (.lenL (.tmp 22)), (some (20, false))⟩, ⟨(some 24), (.bin .gtr (.tmp 23) (.const (.int .i64 50))), (some (20, false))⟩, ⟨(some 25), (.pick (.tmp 20) (.const (.bool true)) (.tmp 24)), none⟩]) (.cond (.tmp 25) (.seq (.ops [⟨(some 2), (.assign (.const (.bool false))), none⟩]) .ret) .skip)) (.seq (.ops [⟨(some 26), (.faddr 8 (.tmp 1)), none⟩, ⟨(some 27), (.load1 (.tmp 26)), none⟩, ⟨(some 28), (.call 60 [(.tmp 27), (.func 61)]), none⟩, ⟨(some 29), (.move (.tmp 28)), none⟩, ⟨(some 30), (.faddr 9 (.tmp 1)), (some (29, false))⟩, ⟨(some 31), (.load1 (.tmp 30)), (some (29, false))⟩, ⟨(some 32), (.call 62 [(.tmp 31), (.func 63)]), (some (29, false))⟩, ⟨(some 33), (.pick (.tmp 29) (.const (.bool true)) (.tmp 32)), none⟩, ⟨(some 3), (.assign (.tmp 33)), none⟩]) (.seq (.ops [⟨(some 34), (.move (.tmp 3)), none⟩, ⟨(some 35), (.move (.tmp 34)), none⟩, ⟨(some 36), (.faddr 10 (.tmp 1)), (some (35, false))⟩, ⟨(some 37), (.load1 (.tmp 36)), (some (35, false))⟩, ⟨(some 38), (.call 64 [(.tmp 37), (.func 65)]), (some (35, false))⟩, ⟨(some 39), (.pick (.tmp 35) (.const (.bool true)) (.tmp 38)), none⟩, ⟨(some 3), (.assign (.tmp 39)), none⟩]) (.seq (.ops [⟨(some 40), (.move (.tmp 3)), none⟩, ⟨(some 41), (.un .not (.tmp 40)), none⟩, ⟨(some 42), (.move (.tmp 41)), none⟩, ⟨(some 43), (.faddr 2 (.tmp 1)), (some (42, true))⟩, ⟨(some 44), (.load1 (.tmp 43)), (some (42, true))⟩, ⟨(some 45), (.lenS (.tmp 44)), (some (42, true))⟩, ⟨(some 46), (.bin .leq (.tmp 45) (.const (.int .i64 300))), (some (42, true))⟩, ⟨(some 47), (.pick (.tmp 42) (.tmp 46) (.const (.bool false))), none⟩, ⟨(some 48), (.move (.tmp 47)), none⟩, ⟨(some 49), (.faddr 3 (.tmp 1)), (some (48, true))⟩, ⟨(some 50), (.load1 (.tmp 49)), (some (48, true))⟩, ⟨(some 51), (.lenS (.tmp 50)), (some (48, true))⟩, ⟨(some 52), (.bin .leq (.tmp 51) (.const (.int .i64 300))), (some (48, true))⟩, ⟨(some 53), (.pick (.tmp 48) (.tmp 52) (.const (.bool false))), none⟩, ⟨(some 54), (.move (.tmp 53)), none⟩, ⟨(some 55), (.faddr 4 (.tmp 1)), (some (54, true))⟩, ⟨(some 56), (.load1 (.tmp 55)), (some (54, true))⟩, ⟨(some 57), (.lenS (.tmp 56)), (some (54, true))⟩, ⟨(some 58), (.bin .leq (.tmp 57) (.const (.int .i64 300))), (some (54, true))⟩, ⟨(some 59), (.pick (.tmp 54) (.tmp 58) (.const (.bool false))), none⟩, ⟨(some 2), (.assign (.tmp 59)), none⟩]) .ret))))), [(.move (.tmp 2))]⟩
theorem k40 : cfun Try.prog 40 = some c40 := by kernel_rfl
def c61 : XFun := ⟨7, (.seq (.ops [⟨(some 1), (.box (.tmp 0)), none⟩, ⟨(some 2), (.assign (.const (.bool false))), none⟩]) (.seq (.ops [⟨(some 3), (.faddr 0 (.tmp 1)), none⟩, ⟨(some 4), (.load1 (.tmp 3)), none⟩, ⟨(some 5), (.lenS (.tmp 4)), none⟩, ⟨(some 6), (.bin .gtr (.tmp 5) (.const (.int .i64 300))), none⟩, ⟨(some 2), (.assign (.tmp 6)), none⟩]) .ret)), [(.move (.tmp 2))]⟩
theorem k61 : cfun Try.prog 61 = some c61 := by kernel_rfl
def c63 : XFun := ⟨7, (.seq (.ops [⟨(some 1), (.box (.tmp 0)), none⟩, ⟨(some 2), (.assign (.const (.bool false))), none⟩]) (.seq (.ops [⟨(some 3), (.faddr 1 (.tmp 1)), none⟩, ⟨(some 4), (.load1 (.tmp 3)), none⟩, ⟨(some 5), (.lenL (.tmp 4)), none⟩, ⟨(some 6), (.bin .gtr (.tmp 5) (.const (.int .i64 300))), none⟩, ⟨(some 2), (.assign (.tmp 6)), none⟩]) .ret)), [(.move (.tmp 2))]⟩
theorem k63 : cfun Try.prog 63 = some c63 := by kernel_rfl
def c65 : XFun := ⟨7, (.seq (.ops [⟨(some 1), (.box (.tmp 0)), none⟩, ⟨(some 2), (.assign (.const (.bool false))), none⟩]) (.seq (.ops [⟨(some 3), (.faddr 1 (.tmp 1)), none⟩, ⟨(some 4), (.load1 (.tmp 3)), none⟩, ⟨(some 5), (.lenS (.tmp 4)), none⟩, ⟨(some 6), (.bin .gtr (.tmp 5) (.const (.int .i64 1000))), none⟩, ⟨(some 2), (.assign (.tmp 6)), none⟩]) .ret)), [(.move (.tmp 2))]⟩
theorem k65 : cfun Try.prog 65 = some c65 := by kernel_rfl
end Go.Proofs.Ytpogpofmakcodaa.Ax
namespace Go.Proofs.Ytpogpofmakcodaa.Ax
open Go.RowKit Go By
set_option linter.unusedSimpArgs false
set_option linter.unusedVariables false
set_option maxRecDepth 10000

/-! ### Messages that are short enough -/
def manyBW (m : Bk) : Bool := decide (50 < (m.oids.length : Int)) || (decide (50 < (m.cols.length : Int)) || (decide (50 < (m.row.length : Int)) || decide (50 < (m.fields.length : Int))))
def longCoW (c : Co) : Bool := decide (300 < (c.name.length : Int))
def longCW (c : Cl) : Bool := decide (300 < (c.2.length : Int))
def longFiW (c : Fi) : Bool := decide (1000 < (c.text.length : Int))
def longBW (m : Bk) : Bool := m.cols.any longCoW || (m.row.any longCW || m.fields.any longFiW)
def plainBW (m : Bk) : Bool := !manyBW m && (!longBW m && (decide ((m.tag.length : Int) ≤ 300) && (decide ((m.name.length : Int) ≤ 300) && decide ((m.value.length : Int) ≤ 300))))
theorem bplain1w_c (c : Co) (h : List (List AV)) : Contract Try.prog 61 [.agg (coC c)] h (.v (.bool (longCoW c))) h [] := by
  refine contract_of k61 mixed (by simp [c61]) fun hh hargs => ?_
  simp [c61, hh, longCoW]
theorem bplain2w_c (c : Cl) (h : List (List AV)) : Contract Try.prog 63 [.agg (cellC c)] h (.v (.bool (longCW c))) h [] := by
  refine contract_of k63 mixed (by simp [c63]) fun hh hargs => ?_
  simp [c63, hh, longCW]
theorem bplain3w_c (c : Fi) (h : List (List AV)) : Contract Try.prog 65 [.agg (fiC c)] h (.v (.bool (longFiW c))) h [] := by
  refine contract_of k65 mixed (by simp [c65]) fun hh hargs => ?_
  simp [c65, hh, longFiW]
theorem bplainw_c (m : Bk) (h : List (List AV)) : Contract Try.prog 40 [.agg (bkC m)] h (.v (.bool (plainBW m))) h [] := by
  refine contract_cut (XCode.cuts [false, true] c40.code) k40 rfl mixed (by simp [c40]) fun hh hargs => ?_
  have plain_no : manyBW m = true → plainBW m = false := fun h => by unfold plainBW; rw [h]; rfl
  simp [c40]
  by_cases hm : manyBW m = true
  · rw [plain_no hm]
    refine xmark ?_
    unfold manyBW at hm
    by_cases h1 : 50 < (m.oids.length : Int)
    · simp [h1, hh]
    by_cases h2 : 50 < (m.cols.length : Int)
    · simp [h1, h2, hh]
    by_cases h3 : 50 < (m.row.length : Int)
    · simp [h1, h2, h3, hh]
    by_cases h4 : 50 < (m.fields.length : Int)
    · simp [h1, h2, h3, h4, hh]
    simp [h1, h2, h3, h4] at hm
  · have hm' : manyBW m = false := by simpa using hm
    have hp : plainBW m = (!longBW m && (decide ((m.tag.length : Int) ≤ 300) && (decide ((m.name.length : Int) ≤ 300) && decide ((m.value.length : Int) ≤ 300)))) := by unfold plainBW; rw [hm']; rfl
    rw [hp]
    unfold manyBW at hm'
    simp only [Bool.or_eq_false_iff, decide_eq_false_iff_not] at hm'
    obtain ⟨h1, h2, h3, h4⟩ := hm'
    unfold longBW
    refine xseq_cut ⟨[(1, .box h.length 0)], [], h ++ [bkC m], []⟩ ?_ ?_
    · simp [h1, h2, h3, h4, Leq, hh]
    · simp
      refine xcall_self (by simp) (containsN_any mixed k60 k73 coC longCoW m.cols [] _ (by simp) (by simp) (by simp) (fun c hm => bplain1w_c c _) (by omega)) ?_
      cases p1 : m.cols.any longCoW with
      | true => simp [hh]
      | false =>
      simp
      refine xcall_self (by simp) (containsN_any mixed k62 k74 cellC longCW m.row [] _ (by simp) (by simp) (by simp) (fun c hm => bplain2w_c c _) (by omega)) ?_
      cases p2 : m.row.any longCW with
      | true => simp [hh]
      | false =>
      simp
      refine xcall_self (by simp) (containsN_any mixed k64 k75 fiC longFiW m.fields [] _ (by simp) (by simp) (by simp) (fun c hm => bplain3w_c c _) (by omega)) ?_
      cases p3 : m.fields.any longFiW with
      | true => simp [hh]
      | false =>
      simp
      by_cases p4 : (m.tag.length : Int) ≤ 300
      · by_cases p5 : (m.name.length : Int) ≤ 300
        · simp [p4, p5, hh]
        · simp [p4, p5, hh]
      · simp [p4, hh]
end Go.Proofs.Ytpogpofmakcodaa.Ax
