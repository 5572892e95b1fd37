import Derived.Test.YtdfgljojemmlcaaGreatQAxDg
set_option linter.unusedSimpArgs false
set_option linter.unusedVariables false
namespace Go.Proofs.YtdfgljojemmlcaaGreat.Ax
open Go.RowKit Go By
def Cn:XFun:=⟨12,.seq (.ops [oK 2 (.string (ah []))]) (.seq (.seq (.ops [oM 3 0,oI 4 .lss 3 (.int .i64 1),oM 5 4,oG 5 false (oM 6 0),oG 5 false (oI 7 .gtr 6 (.int .i64 2147483648)),oU 8 5 7]) (.cond (.tmp 8) (.seq (.ops [oK 2 (.string (ah []))]) .ret) .skip)) (.seq (.ops [oM 9 0,oC 10 98 [9],oX 11 (.bin .add (.const (.string (ah [95,112]))) (.tmp 10)),oA 2 11]) .ret)),[.move (.tmp 2)]⟩
theorem NX : ak Tryz.prog 63 = some Cn := by kernel_rfl
def Ow:XFun:=⟨1,.seq (.ops [oK 0 (.string (ah []))]) (.seq (.ops [oK 0 (.string (ah [95,100,117,112]))]) .ret),[.move (.tmp 0)]⟩
theorem PP : ak Tryz.prog 57 = some Ow := by kernel_rfl
def Ph:XFun:=⟨1,.seq (.ops [oK 0 (.string (ah []))]) (.seq (.ops [oK 0 (.string (ah [95,110,111,110,101]))]) .ret),[.move (.tmp 0)]⟩
theorem QE : ak Tryz.prog 64 = some Ph := by kernel_rfl
def CY:XFun:=⟨12,.seq (.ops [oK 2 (.string (ah []))]) (.seq (.seq (.ops [oM 3 0,oI 4 .lss 3 (.int .i64 1),oM 5 4,oG 5 false (oM 6 0),oG 5 false (oI 7 .gtr 6 (.int .i64 2147483648)),oU 8 5 7]) (.cond (.tmp 8) (.seq (.ops [oK 2 (.string (ah []))]) .ret) .skip)) (.seq (.ops [oM 9 0,oC 10 104 [9],oX 11 (.bin .add (.const (.string (ah [95,112]))) (.tmp 10)),oA 2 11]) .ret)),[.move (.tmp 2)]⟩
theorem Nb : ak Tryz.prog 74 = some CY := by kernel_rfl
end Go.Proofs.YtdfgljojemmlcaaGreat.Ax
namespace Go.Proofs.YtdfgljojemmlcaaGreat.Ax
open Go.RowKit Go By Go.Proofs.YtdfgljojemmlcaaGreat.Nm Sc Dg
set_option maxRecDepth 10000
def Ci : List UInt8 := [95, 112]
def dupN : List UInt8 := [95, 100, 117, 112]
def noneN : List UInt8 := [95, 110, 111, 110, 101]
def an (n : Int) : List UInt8 := if n < 1 \/ 2147483648 < n then [] else Ci ++ textL n
theorem yr (n : Int) (h0 : (Lit.int .i64 n).wf = true) (h : List (List AV)) : Contract Tryz.prog 63 [.v (.int .i64 n)] h (.v (.string (ah (an n)))) h [] := by
 obtain ⟨l1, l2⟩ := qW h0
 refine ab NX mixed (by simp [Cn]) fun hh hargs => ?_
 by_cases h1 : n < 1
 ·simp [Cn, h1, hh, an]
 ·by_cases h2 : 2147483648 < n
  ·simp [Cn, h1, h2, hh, an]
  ·have h3 : ¬ n > 2147483648 := h2
   have hl := ng n l1 l2
   simp [Cn, h1, h2, h3]
   refine aa (by simp) (CJ n l1 l2 _) ?_
   simp [hh, an, h1, h2, je, Ci]
   omega
theorem vA (n : Int) (h0 : (Lit.int .i64 n).wf = true) (h : List (List AV)) : Contract Tryz.prog 74 [.v (.int .i64 n)] h (.v (.string (ah (an n)))) h [] := by
 obtain ⟨l1, l2⟩ := qW h0
 refine ab Nb mixed (by simp [CY]) fun hh hargs => ?_
 by_cases h1 : n < 1
 ·simp [CY, h1, hh, an]
 ·by_cases h2 : 2147483648 < n
  ·simp [CY, h1, h2, hh, an]
  ·have h3 : ¬ n > 2147483648 := h2
   have hl := ng n l1 l2
   simp [CY, h1, h2, h3]
   refine aa (by simp) (Ae n l1 l2 _) ?_
   simp [hh, an, h1, h2, je, Ci]
   omega
theorem E9 (h : List (List AV)) : Contract Tryz.prog 57 [] h (.v (.string (ah dupN))) h [] := by
 refine ab PP mixed (by simp [Ow]) fun hh hargs => ?_
 simp [Ow, hh, dupN]
theorem B5 (h : List (List AV)) : Contract Tryz.prog 64 [] h (.v (.string (ah noneN))) h [] := by
 refine ab QE mixed (by simp [Ph]) fun hh hargs => ?_
 simp [Ph, hh, noneN]
end Go.Proofs.YtdfgljojemmlcaaGreat.Ax
