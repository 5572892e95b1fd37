import Derived.Test.YtdfgljojemmlcaaGreatQAxXr
import Derived.Test.YtdfgljojemmlcaaGreatRows
import Derived.Test.YtdfgljojemmlcaaGreatQAxDg
import Derived.Test.YtdfgljojemmlcaaGreatQDigC
set_option linter.unusedSimpArgs false
set_option linter.unusedVariables false
set_option linter.ambiguousOpen false
namespace Go.Proofs.YtdfgljojemmlcaaGreat.Ax
open Go.RowKit Go By
def c63 : XFun := ⟨12, (.seq (.ops [⟨(some 2), (.assign (.const (.string (strB [])))), none⟩]) (.seq (.seq (.ops [⟨(some 3), (.move (.tmp 0)), none⟩, ⟨(some 4), (.bin .lss (.tmp 3) (.const (.int .i64 1))), none⟩, ⟨(some 5), (.move (.tmp 4)), none⟩, ⟨(some 6), (.move (.tmp 0)), (some (5, false))⟩, ⟨(some 7), (.bin .gtr (.tmp 6) (.const (.int .i64 2147483648))), (some (5, false))⟩, ⟨(some 8), (.pick (.tmp 5) (.const (.bool true)) (.tmp 7)), none⟩]) (.cond (.tmp 8) (.seq (.ops [⟨(some 2), (.assign (.const (.string (strB [])))), none⟩]) .ret) .skip)) (.seq (.ops [⟨(some 9), (.move (.tmp 0)), none⟩, ⟨(some 10), (.call 98 [(.tmp 9)]), none⟩, ⟨(some 11), (.bin .add (.const (.string (strB [95, 112]))) (.tmp 10)), none⟩, ⟨(some 2), (.assign (.tmp 11)), none⟩]) .ret))), [(.move (.tmp 2))]⟩
theorem k63 : cfun Tryz.prog 63 = some c63 := by kernel_rfl
def c57 : XFun := ⟨1, (.seq (.ops [⟨(some 0), (.assign (.const (.string (strB [])))), none⟩]) (.seq (.ops [⟨(some 0), (.assign (.const (.string (strB [95, 100, 117, 112])))), none⟩]) .ret)), [(.move (.tmp 0))]⟩
theorem k57 : cfun Tryz.prog 57 = some c57 := by kernel_rfl
def c64 : XFun := ⟨1, (.seq (.ops [⟨(some 0), (.assign (.const (.string (strB [])))), none⟩]) (.seq (.ops [⟨(some 0), (.assign (.const (.string (strB [95, 110, 111, 110, 101])))), none⟩]) .ret)), [(.move (.tmp 0))]⟩
theorem k64 : cfun Tryz.prog 64 = some c64 := by kernel_rfl
end Go.Proofs.YtdfgljojemmlcaaGreat.Ax
namespace Go.Proofs.YtdfgljojemmlcaaGreat.Ax
open Go.RowKit Go By Nm Sc Dg
set_option maxRecDepth 10000
def preN : List UInt8 := [95, 112]
def dupN : List UInt8 := [95, 100, 117, 112]
def noneN : List UInt8 := [95, 110, 111, 110, 101]
def serverL (n : Int) : List UInt8 := if n < 1 \/ 2147483648 < n then [] else preN ++ textL n
theorem nserver_c (n : Int) (h0 : (Lit.int .i64 n).wf = true) (h : List (List AV)) : Contract Tryz.prog 63 [.v (.int .i64 n)] h (.v (.string (strB (serverL n)))) h [] := by
 obtain ⟨l1, l2⟩ := int_of_wf h0
 refine contract_of k63 mixed (by simp [c63]) fun hh hargs => ?_
 by_cases h1 : n < 1
 ·simp [c63, h1, hh, serverL]
 ·by_cases h2 : 2147483648 < n
  ·simp [c63, h1, h2, hh, serverL]
  ·have h3 : ¬ n > 2147483648 := h2
   have hl := dtext_len n l1 l2
   simp [c63, h1, h2, h3]
   refine xcall_self (by simp) (dtext_c n l1 l2 _) ?_
   simp [hh, serverL, h1, h2, str_append, preN]
   omega
theorem ndup_c (h : List (List AV)) : Contract Tryz.prog 57 [] h (.v (.string (strB dupN))) h [] := by
 refine contract_of k57 mixed (by simp [c57]) fun hh hargs => ?_
 simp [c57, hh, dupN]
theorem nnone_c (h : List (List AV)) : Contract Tryz.prog 64 [] h (.v (.string (strB noneN))) h [] := by
 refine contract_of k64 mixed (by simp [c64]) fun hh hargs => ?_
 simp [c64, hh, noneN]
end Go.Proofs.YtdfgljojemmlcaaGreat.Ax
