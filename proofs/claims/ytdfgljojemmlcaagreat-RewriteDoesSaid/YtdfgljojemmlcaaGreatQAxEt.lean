import Derived.Test.YtdfgljojemmlcaaGreatQAxWo
set_option linter.unusedSimpArgs false
set_option linter.unusedVariables false
open Nat renaming le_add_right -> Q0
namespace Go.Proofs.YtdfgljojemmlcaaGreat.Ax
open Go.RowKit Go By
def BK:XFun:=⟨22,.seq (.ops [oJ 1 0,oK 2 (.int .i64 0)]) (.seq (.seq (.ops [oF 3 0 1,oL 4 3]) (.block 0 (.seq (.ops [oI 6 .eql 4 (.int .u8 80),oA 5 6]) (.cond (.tmp 5) (.seq (.ops [oK 2 (.int .i64 2)]) .ret) (.seq (.ops [oI 8 .eql 4 (.int .u8 66),oA 7 8]) (.cond (.tmp 7) (.seq (.ops [oK 2 (.int .i64 3)]) .ret) (.seq (.ops [oI 10 .eql 4 (.int .u8 68),oA 9 10]) (.cond (.tmp 9) (.seq (.ops [oF 11 1 1,oL 12 11,oC 13 101 [12],oA 2 13]) .ret) (.seq (.ops [oI 15 .eql 4 (.int .u8 69),oA 14 15]) (.cond (.tmp 14) (.seq (.ops [oK 2 (.int .i64 6)]) .ret) (.seq (.ops [oI 17 .eql 4 (.int .u8 67),oA 16 17]) (.cond (.tmp 16) (.seq (.ops [oK 2 (.int .i64 7)]) .ret) (.seq (.ops [oI 19 .eql 4 (.int .u8 83),oA 18 19]) (.cond (.tmp 18) (.seq (.ops [oK 2 (.int .i64 8)]) .ret) (.seq (.ops [oI 21 .eql 4 (.int .u8 81),oA 20 21]) (.cond (.tmp 20) (.seq (.ops [oK 2 (.int .i64 9)]) .ret) .skip)))))))))))))))) (.seq (.ops [oK 2 (.int .i64 0)]) .ret)),[.move (.tmp 2)]⟩
theorem Qi : ak Tryz.prog 69 = some BK := by kernel_rfl
def AG:XFun:=⟨8,.seq (.ops [oK 2 (.int .i64 0)]) (.seq (.seq (.ops [oM 3 0]) (.block 0 (.seq (.ops [oI 5 .eql 3 (.int .u8 83),oA 4 5]) (.cond (.tmp 4) (.seq (.ops [oK 2 (.int .i64 4)]) .ret) (.seq (.ops [oI 7 .eql 3 (.int .u8 80),oA 6 7]) (.cond (.tmp 6) (.seq (.ops [oK 2 (.int .i64 5)]) .ret) .skip)))))) (.seq (.ops [oK 2 (.int .i64 0)]) .ret)),[.move (.tmp 2)]⟩
theorem MN : ak Tryz.prog 101 = some AG := by kernel_rfl
def yS:XFun:=⟨25,.seq (.ops [oJ 1 0,oK 2 (.int .i64 0)]) (.seq (.seq (.ops [oF 3 0 1,oL 4 3]) (.block 0 (.seq (.ops [oI 6 .eql 4 (.int .u8 80),oA 5 6]) (.cond (.tmp 5) (.seq (.ops [oK 2 (.int .i64 2)]) .ret) (.seq (.ops [oI 8 .eql 4 (.int .u8 66),oA 7 8]) (.cond (.tmp 7) (.seq (.ops [oK 2 (.int .i64 3)]) .ret) (.seq (.ops [oI 10 .eql 4 (.int .u8 68),oA 9 10]) (.cond (.tmp 9) (.seq (.seq (.ops [oF 11 1 1,oL 12 11,oI 13 .eql 12 (.int .u8 83)]) (.cond (.tmp 13) (.seq (.ops [oK 2 (.int .i64 4)]) .ret) .skip)) (.seq (.ops [oF 14 1 1,oL 15 14,oI 16 .eql 15 (.int .u8 80)]) (.cond (.tmp 16) (.seq (.ops [oK 2 (.int .i64 5)]) .ret) .skip))) (.seq (.ops [oI 18 .eql 4 (.int .u8 69),oA 17 18]) (.cond (.tmp 17) (.seq (.ops [oK 2 (.int .i64 6)]) .ret) (.seq (.ops [oI 20 .eql 4 (.int .u8 67),oA 19 20]) (.cond (.tmp 19) (.seq (.ops [oK 2 (.int .i64 7)]) .ret) (.seq (.ops [oI 22 .eql 4 (.int .u8 83),oA 21 22]) (.cond (.tmp 21) (.seq (.ops [oK 2 (.int .i64 8)]) .ret) (.seq (.ops [oI 24 .eql 4 (.int .u8 81),oA 23 24]) (.cond (.tmp 23) (.seq (.ops [oK 2 (.int .i64 9)]) .ret) .skip)))))))))))))))) (.seq (.ops [oK 2 (.int .i64 0)]) .ret)),[.move (.tmp 2)]⟩
theorem QS : ak Tryz.prog 36 = some yS := by kernel_rfl
end Go.Proofs.YtdfgljojemmlcaaGreat.Ax
namespace Go.Proofs.YtdfgljojemmlcaaGreat.Ax
set_option maxRecDepth 100000
open Go.RowKit Go By
set_option maxRecDepth 10000
def cN (k w : Int) : Int := if k = 80 then 2 else if k = 66 then 3 else if k = 68 then (if w = 83 then 4 else if w = 80 then 5 else 0) else if k = 69 then 6 else if k = 67 then 7 else if k = 83 then 8 else if k = 81 then 9 else 0
theorem ut (w : Int) (h : List (List AV)) : Contract Tryz.prog 101 [.v (.int .u8 w)] h (.v (.int .i64 (if w = 83 then 4 else if w = 80 then 5 else 0))) h [] := by
 refine ab MN mixed (by simp [AG]) fun hh hargs => ?_
 by_cases h1 : w = 83
 ·subst h1; simp [AG, hh]
 by_cases h2 : w = 80
 ·subst h2; simp [AG, hh]
 ·simp [AG, h1, h2, hh]
theorem zh (m : Fm) (h : List (List AV)) : Contract Tryz.prog 69 [.agg (aG m)] h (.v (.int .i64 (cN m.kind m.what))) h [] := by
 refine ab Qi mixed (by simp [BK]) fun hh hargs => ?_
 have hl2 := al (Q0 h.length 1) hh
 by_cases q80 : m.kind = 80
 ·simp [BK, cN, q80, hh, hl2, ac]
 by_cases q66 : m.kind = 66
 ·simp [BK, cN, q66, hh, hl2, ac]
 by_cases q68 : m.kind = 68
 ·simp [BK, cN, q68]
  refine aa (by simp) (ut m.what _) ?_
  simp [hh, hl2, ac]
 by_cases q69 : m.kind = 69
 ·simp [BK, cN, q69, hh, hl2, ac]
 by_cases q67 : m.kind = 67
 ·simp [BK, cN, q67, hh, hl2, ac]
 by_cases q83 : m.kind = 83
 ·simp [BK, cN, q83, hh, hl2, ac]
 by_cases q81 : m.kind = 81
 ·simp [BK, cN, q81, hh, hl2, ac]
 simp [BK, cN, hh, hl2, ac, q80, q66, q68, q69, q67, q83, q81]
theorem iS (m : Fm) (h : List (List AV)) : Contract Tryz.prog 36 [.agg (aG m)] h (.v (.int .i64 (cN m.kind m.what))) h [] := by
 refine ab QS mixed (by simp [yS]) fun hh hargs => ?_
 have hl2 := al (Q0 h.length 1) hh
 by_cases q80 : m.kind = 80
 ·simp [yS, cN, q80, hh, hl2, ac]
 by_cases q66 : m.kind = 66
 ·simp [yS, cN, q66, hh, hl2, ac]
 by_cases q68 : m.kind = 68
 ·by_cases w1 : m.what = 83
  ·simp [yS, cN, q68, w1, hh, hl2, ac]
  by_cases w2 : m.what = 80
  ·simp [yS, cN, q68, w2, hh, hl2, ac]
  ·simp [yS, cN, q68, w1, w2, hh, hl2, ac]
 by_cases q69 : m.kind = 69
 ·simp [yS, cN, q69, hh, hl2, ac]
 by_cases q67 : m.kind = 67
 ·simp [yS, cN, q67, hh, hl2, ac]
 by_cases q83 : m.kind = 83
 ·simp [yS, cN, q83, hh, hl2, ac]
 by_cases q81 : m.kind = 81
 ·simp [yS, cN, q81, hh, hl2, ac]
 simp [yS, cN, hh, hl2, ac, q80, q66, q68, q69, q67, q83, q81]
end Go.Proofs.YtdfgljojemmlcaaGreat.Ax
