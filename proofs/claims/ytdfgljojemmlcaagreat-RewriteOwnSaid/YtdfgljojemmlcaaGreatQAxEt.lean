import Derived.Test.YtdfgljojemmlcaaGreatQAxXr
import Derived.Test.YtdfgljojemmlcaaGreatRows
import Derived.Test.YtdfgljojemmlcaaGreatQAxWo
import Derived.Test.YtdfgljojemmlcaaGreatQAxSc
set_option linter.unusedSimpArgs false
set_option linter.unusedVariables false
namespace Go.Proofs.YtdfgljojemmlcaaGreat.Ax
open Go.RowKit Go By
def c69 : XFun := ⟨22, (.seq (.ops [⟨(some 1), (.box (.tmp 0)), none⟩, ⟨(some 2), (.assign (.const (.int .i64 0))), none⟩]) (.seq (.seq (.ops [⟨(some 3), (.faddr 0 (.tmp 1)), none⟩, ⟨(some 4), (.load1 (.tmp 3)), none⟩]) (.block 0 (.seq (.ops [⟨(some 6), (.bin .eql (.tmp 4) (.const (.int .u8 80))), none⟩, ⟨(some 5), (.assign (.tmp 6)), none⟩]) (.cond (.tmp 5) (.seq (.ops [⟨(some 2), (.assign (.const (.int .i64 2))), none⟩]) .ret) (.seq (.ops [⟨(some 8), (.bin .eql (.tmp 4) (.const (.int .u8 66))), none⟩, ⟨(some 7), (.assign (.tmp 8)), none⟩]) (.cond (.tmp 7) (.seq (.ops [⟨(some 2), (.assign (.const (.int .i64 3))), none⟩]) .ret) (.seq (.ops [⟨(some 10), (.bin .eql (.tmp 4) (.const (.int .u8 68))), none⟩, ⟨(some 9), (.assign (.tmp 10)), none⟩]) (.cond (.tmp 9) (.seq (.ops [⟨(some 11), (.faddr 1 (.tmp 1)), none⟩, ⟨(some 12), (.load1 (.tmp 11)), none⟩, ⟨(some 13), (.call 101 [(.tmp 12)]), none⟩, ⟨(some 2), (.assign (.tmp 13)), none⟩]) .ret) (.seq (.ops [⟨(some 15), (.bin .eql (.tmp 4) (.const (.int .u8 69))), none⟩, ⟨(some 14), (.assign (.tmp 15)), none⟩]) (.cond (.tmp 14) (.seq (.ops [⟨(some 2), (.assign (.const (.int .i64 6))), none⟩]) .ret) (.seq (.ops [⟨(some 17), (.bin .eql (.tmp 4) (.const (.int .u8 67))), none⟩, ⟨(some 16), (.assign (.tmp 17)), none⟩]) (.cond (.tmp 16) (.seq (.ops [⟨(some 2), (.assign (.const (.int .i64 7))), none⟩]) .ret) (.seq (.ops [⟨(some 19), (.bin .eql (.tmp 4) (.const (.int .u8 83))), none⟩, ⟨(some 18), (.assign (.tmp 19)), none⟩]) (.cond (.tmp 18) (.seq (.ops [⟨(some 2), (.assign (.const (.int .i64 8))), none⟩]) .ret) (.seq (.ops [⟨(some 21), (.bin .eql (.tmp 4) (.const (.int .u8 81))), none⟩, ⟨(some 20), (.assign (.tmp 21)), none⟩]) (.cond (.tmp 20) (.seq (.ops [⟨(some 2), (.assign (.const (.int .i64 9))), none⟩]) .ret) .skip)))))))))))))))) (.seq (.ops [⟨(some 2), (.assign (.const (.int .i64 0))), none⟩]) .ret))), [(.move (.tmp 2))]⟩
theorem k69 : cfun Tryz.prog 69 = some c69 := by kernel_rfl
def c101 : XFun := ⟨8, (.seq (.ops [⟨(some 2), (.assign (.const (.int .i64 0))), none⟩]) (.seq (.seq (.ops [⟨(some 3), (.move (.tmp 0)), none⟩]) (.block 0 (.seq (.ops [⟨(some 5), (.bin .eql (.tmp 3) (.const (.int .u8 83))), none⟩, ⟨(some 4), (.assign (.tmp 5)), none⟩]) (.cond (.tmp 4) (.seq (.ops [⟨(some 2), (.assign (.const (.int .i64 4))), none⟩]) .ret) (.seq (.ops [⟨(some 7), (.bin .eql (.tmp 3) (.const (.int .u8 80))), none⟩, ⟨(some 6), (.assign (.tmp 7)), none⟩]) (.cond (.tmp 6) (.seq (.ops [⟨(some 2), (.assign (.const (.int .i64 5))), none⟩]) .ret) .skip)))))) (.seq (.ops [⟨(some 2), (.assign (.const (.int .i64 0))), none⟩]) .ret))), [(.move (.tmp 2))]⟩
theorem k101 : cfun Tryz.prog 101 = some c101 := by kernel_rfl
end Go.Proofs.YtdfgljojemmlcaaGreat.Ax
namespace Go.Proofs.YtdfgljojemmlcaaGreat.Ax
set_option maxRecDepth 100000
open Go.RowKit Go By
set_option maxRecDepth 10000
def kindI (k w : Int) : Int := if k = 80 then 2 else if k = 66 then 3 else if k = 68 then (if w = 83 then 4 else if w = 80 then 5 else 0) else if k = 69 then 6 else if k = 67 then 7 else if k = 83 then 8 else if k = 81 then 9 else 0
theorem described_c (w : Int) (h : List (List AV)) : Contract Tryz.prog 101 [.v (.int .u8 w)] h (.v (.int .i64 (if w = 83 then 4 else if w = 80 then 5 else 0))) h [] := by
 refine contract_of k101 mixed (by simp [c101]) fun hh hargs => ?_
 by_cases h1 : w = 83
 ·subst h1; simp [c101, hh]
 by_cases h2 : w = 80
 ·subst h2; simp [c101, hh]
 ·simp [c101, h1, h2, hh]
theorem kind_c (m : Fm) (h : List (List AV)) : Contract Tryz.prog 69 [.agg (fmC m)] h (.v (.int .i64 (kindI m.kind m.what))) h [] := by
 refine contract_of k69 mixed (by simp [c69]) fun hh hargs => ?_
 have hl2 := ltLL_mono (Nat.le_add_right h.length 1) hh
 by_cases q80 : m.kind = 80
 ·simp [c69, kindI, q80, hh, hl2, leqH_take]
 by_cases q66 : m.kind = 66
 ·simp [c69, kindI, q66, hh, hl2, leqH_take]
 by_cases q68 : m.kind = 68
 ·simp [c69, kindI, q68]
  refine xcall_self (by simp) (described_c m.what _) ?_
  simp [hh, hl2, leqH_take]
 by_cases q69 : m.kind = 69
 ·simp [c69, kindI, q69, hh, hl2, leqH_take]
 by_cases q67 : m.kind = 67
 ·simp [c69, kindI, q67, hh, hl2, leqH_take]
 by_cases q83 : m.kind = 83
 ·simp [c69, kindI, q83, hh, hl2, leqH_take]
 by_cases q81 : m.kind = 81
 ·simp [c69, kindI, q81, hh, hl2, leqH_take]
 simp [c69, kindI, hh, hl2, leqH_take, q80, q66, q68, q69, q67, q83, q81]
end Go.Proofs.YtdfgljojemmlcaaGreat.Ax
