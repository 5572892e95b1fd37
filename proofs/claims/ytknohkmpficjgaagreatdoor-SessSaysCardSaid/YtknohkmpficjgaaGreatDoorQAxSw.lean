import Derived.Test.YtknohkmpficjgaaGreatDoorQAxBk
import Derived.Test.YtknohkmpficjgaaGreatDoorQCodeR
import Derived.Test.YtknohkmpficjgaaGreatDoorQAxPk
set_option linter.unusedSimpArgs false
set_option linter.unusedVariables false
open List renaming getElem?_set_ne -> Q7, getElem?_eq_some_iff -> Q8, getElem?_append_left -> Q9, getElem?_set_self -> Ra
open UInt8 renaming ofNat -> Rb
namespace Go.Proofs.YtknohkmpficjgaaGreatDoor.Ax
open Go.RowKit Go By
def c3:XFun:=⟨115,.seq (.ops [oK 4 (.bool false)]) (.seq (.seq (.ops [oM 13 0,oX 14 (.call 6 [.tmp 13,.const (.int .i64 40)]),oV 15 14,oM 16 15,oG 16 false (oM 17 1),oG 16 false (oX 18 (.call 6 [.tmp 17,.const (.int .i64 40)])),oG 16 false (oV 19 18),oU 20 16 19]) (.cond (.tmp 20) (.seq (.ops [oC 21 7 [],oA 4 21]) .ret) .skip)) (.seq (.ops [oC 22 9 [],oC 23 8 [22],oA 5 23]) (.seq (.seq (.ops [oM 24 5,oX 25 (.pnileq false (.tmp 24))]) (.cond (.tmp 25) (.seq (.ops [oK 4 (.bool false)]) .ret) .skip)) (.seq (.seq (.ops [oM 26 0,oH 27 26,oX 28 (.move (.const (.int .i64 0)))]) (.block 0 (.loop (.seq (.ops [oB 29 .lss 28 27]) (.seq (.cond (.tmp 29) .skip (.exit 0)) (.seq (.block 1 (.seq (.ops [oW 30 10 26 28,oP 31 10 30,oZ 7 lx,oS 10 7 31]) (.ops [oM 32 5,oP 33 10 7,oC 34 10 [32,33]]))) (.ops [oI 35 .add 28 (.int .i64 1),oM 28 35]))))))) (.seq (.seq (.ops [oM 36 5,oC 37 11 [36],oV 38 37,oM 39 38,oG 39 false (oM 40 5),oG 39 false (oC 41 12 [40]),oU 42 39 41]) (.cond (.tmp 42) (.seq (.ops [oC 43 7 [],oA 4 43]) .ret) .skip)) (.seq (.ops [oM 44 5,oC 45 13 [44],oM 46 5,oC 47 14 [46],oA 8 45,oA 9 47]) (.seq (.seq (.ops [oM 48 1,oH 49 48,oX 50 (.move (.const (.int .i64 0)))]) (.block 2 (.loop (.seq (.ops [oB 51 .lss 50 49]) (.seq (.cond (.tmp 51) .skip (.exit 2)) (.seq (.block 3 (.seq (.ops [oW 52 10 48 50,oP 53 10 52,oZ 11 lx,oS 10 11 53]) (.seq (.seq (.ops [oF 54 0 11,oL 55 54,oI 56 .eql 55 (.int .u8 83),oM 57 56,oG 57 false (oF 58 0 11),oG 57 false (oL 59 58),oG 57 false (oI 60 .eql 59 (.int .u8 88)),oU 61 57 60]) (.cond (.tmp 61) (.exit 2) .skip)) (.seq (.ops [oM 62 5,oP 63 10 11,oC 64 10 [62,63],oH 65 64,oI 66 .gtr 65 (.int .i64 0),oM 67 66,oG 67 false (oM 68 5),oG 67 false (oC 69 11 [68]),oG 67 false (oV 70 69),oU 71 67 70,oM 72 71,oG 72 false (oM 73 5),oG 72 false (oC 74 13 [73]),oG 72 false (oM 75 8),oG 72 false (oC 76 15 [74,75]),oG 72 false (oV 77 76),oU 78 72 77,oM 79 78,oG 79 false (oM 80 5),oG 79 false (oC 81 14 [80]),oG 79 false (oM 82 9),oG 79 false (oB 83 .neq 81 82),oU 84 79 83]) (.cond (.tmp 84) (.seq (.ops [oK 4 (.bool false)]) .ret) .skip))))) (.ops [oI 85 .add 50 (.int .i64 1),oM 50 85]))))))) (.seq (.ops [oM 86 5,oX 87 (.build lx [(0,1,.const (.int .u8 83))]),oC 88 10 [86,87],oA 12 88]) (.seq (.ops [oM 89 12,oH 90 89,oI 91 .eql 90 (.int .i64 1),oM 92 91,oG 92 true (oM 93 12),oG 92 true (oX 94 (.iaddr 11 (.tmp 93) (.const (.int .i64 0)))),oG 92 true (oF 95 0 94),oG 92 true (oL 96 95),oG 92 true (oI 97 .eql 96 (.int .u8 90)),oT 98 92 97,oM 99 98,oG 99 true (oM 100 12),oG 99 true (oX 101 (.iaddr 11 (.tmp 100) (.const (.int .i64 0)))),oG 99 true (oF 102 1 101),oG 99 true (oL 103 102),oG 99 true (oM 104 9),oG 99 true (oB 105 .eql 103 104),oT 106 99 105,oM 107 106,oG 107 true (oM 108 5),oG 107 true (oC 109 11 [108]),oG 107 true (oV 110 109),oT 111 107 110,oM 112 111,oG 112 true (oC 113 7 []),oT 114 112 113,oA 4 114]) .ret))))))))),[.move (.tmp 4)]⟩
theorem k3 : ai Tryz.prog 3 = some c3 := by kernel_rfl
def c4:XFun:=⟨92,.seq (.ops [oK 2 (.bool false)]) (.seq (.seq (.ops [oM 11 0,oX 12 (.call 6 [.tmp 11,.const (.int .i64 60)]),oV 13 12]) (.cond (.tmp 13) (.seq (.ops [oC 14 7 [],oA 2 14]) .ret) .skip)) (.seq (.ops [oC 15 9 [],oC 16 8 [15],oA 3 16]) (.seq (.seq (.ops [oM 17 3,oX 18 (.pnileq false (.tmp 17))]) (.cond (.tmp 18) (.seq (.ops [oK 2 (.bool false)]) .ret) .skip)) (.seq (.seq (.ops [oM 19 0,oH 20 19,oX 21 (.move (.const (.int .i64 0)))]) (.block 0 (.loop (.seq (.ops [oB 22 .lss 21 20]) (.seq (.cond (.tmp 22) .skip (.exit 0)) (.seq (.block 1 (.seq (.ops [oW 23 10 19 21,oP 24 10 23,oZ 5 lx,oS 10 5 24]) (.seq (.ops [oK 6 (.int .i64 0)]) (.seq (.seq (.ops [oM 25 3,oC 26 12 [25],oV 27 26,oM 28 27,oG 28 true (oF 29 0 5),oG 28 true (oL 30 29),oG 28 true (oI 31 .eql 30 (.int .u8 83)),oG 28 true (oM 32 31),oG 32 false (oF 33 0 5),oG 32 false (oL 34 33),oG 32 false (oI 35 .eql 34 (.int .u8 81)),oG 32 false (oM 36 35),oG 36 true (oM 37 3),oG 36 true (oC 38 11 [37]),oG 36 true (oV 39 38),oG 32 false (oT 40 36 39),oG 28 true (oU 41 32 40),oT 42 28 41]) (.cond (.tmp 42) (.ops [oK 6 (.int .i64 1)]) .skip)) (.seq (.ops [oM 43 3,oP 44 10 5,oC 45 10 [43,44],oA 7 45]) (.seq (.ops [oK 8 (.int .i64 0)]) (.seq (.seq (.ops [oM 46 7,oH 47 46,oX 48 (.move (.const (.int .i64 0)))]) (.block 2 (.loop (.seq (.ops [oB 49 .lss 48 47]) (.seq (.cond (.tmp 49) .skip (.exit 2)) (.seq (.block 3 (.seq (.ops [oM 50 48,oW 51 11 46 48,oP 52 11 51,oZ 10 bM,oA 9 50,oS 11 10 52]) (.seq (.seq (.ops [oF 53 0 10,oL 54 53,oI 55 .eql 54 (.int .u8 90)]) (.cond (.tmp 55) (.seq (.ops [oM 56 8,oI 57 .add 56 (.int .i64 1),oA 8 57]) (.seq (.draws (.take (oM 58 9) (.take (oI 59 .add 58 (.int .i64 1)) (.take (oM 60 7) (.take (oH 61 60) (.take (oB 62 .neq 59 61) (.take (oM 63 62) (.take (oG 63 false (oF 64 1 10)) (.take (oG 63 false (oL 65 64)) (.take (oG 63 false (oM 66 3)) (.only (oG 63 false (oC 67 14 [66])) (.take (oG 63 false (oB 68 .neq 65 67)) (.take (oU 69 63 68) .done))))))))))))) (.cond (.tmp 69) (.seq (.ops [oK 2 (.bool false)]) .ret) .skip))) .skip)) (.seq (.ops [oF 70 0 10,oL 71 70,oI 72 .neq 71 (.int .u8 69),oM 73 72,oG 73 true (oP 74 11 10),oG 73 true (oC 75 16 [74]),oG 73 true (oI 76 .neq 75 (.int .i64 0)),oT 77 73 76,oM 78 77,oG 78 true (oP 79 10 5),oG 78 true (oC 80 17 [79]),oT 81 78 80,oM 82 81,oG 82 true (oM 83 0),oG 82 true (oC 84 18 [83]),oT 85 82 84]) (.cond (.tmp 85) (.seq (.ops [oK 2 (.bool false)]) .ret) .skip))))) (.ops [oI 86 .add 48 (.int .i64 1),oM 48 86]))))))) (.seq (.ops [oM 87 8,oM 88 6,oB 89 .neq 87 88]) (.cond (.tmp 89) (.seq (.ops [oK 2 (.bool false)]) .ret) .skip))))))))) (.ops [oI 90 .add 21 (.int .i64 1),oM 21 90]))))))) (.seq (.ops [oC 91 7 [],oA 2 91]) .ret))))),[.move (.tmp 2)]⟩
theorem k4 : ai Tryz.prog 4 = some c4 := by kernel_rfl
def c5:XFun:=⟨54,.seq (.ops [oJ 1 0,oK 2 (.bool false)]) (.seq (.ops [oK 3 (.pointer none)]) (.seq (.ops [oZ 4 Ja]) (.seq (.ops [oX 6 (.call 8 [.const (.pointer none)]),oA 5 6]) (.seq (.ops [oM 7 3,oP 8 10 1,oC 9 10 [7,8],oH 10 9,oI 11 .eql 10 (.int .i64 0),oM 12 11,oG 12 true (oP 13 10 1),oG 12 true (oC 14 10 [4,13]),oG 12 true (oH 15 14),oG 12 true (oI 16 .eql 15 (.int .i64 0)),oT 17 12 16,oM 18 17,oG 18 true (oM 19 5),oG 18 true (oP 20 10 1),oG 18 true (oC 21 10 [19,20]),oG 18 true (oH 22 21),oG 18 true (oI 23 .eql 22 (.int .i64 0)),oT 24 18 23,oM 25 24,oG 25 true (oM 26 3),oG 25 true (oC 27 11 [26]),oG 25 true (oV 28 27),oT 29 25 28,oM 30 29,oG 30 true (oM 31 3),oG 30 true (oC 32 12 [31]),oG 30 true (oV 33 32),oT 34 30 33,oM 35 34,oG 35 true (oC 36 12 [4]),oG 35 true (oV 37 36),oT 38 35 37,oM 39 38,oG 39 true (oM 40 3),oG 39 true (oC 41 13 [40]),oG 39 true (oH 42 41),oG 39 true (oI 43 .eql 42 (.int .i64 0)),oT 44 39 43,oM 45 44,oG 45 true (oM 46 5),oG 45 true (oC 47 13 [46]),oG 45 true (oH 48 47),oG 45 true (oI 49 .eql 48 (.int .i64 0)),oT 50 45 49,oM 51 50,oG 51 true (oC 52 7 []),oT 53 51 52,oA 2 53]) .ret)))),[.move (.tmp 2)]⟩
theorem k5 : ai Tryz.prog 5 = some c5 := by kernel_rfl
def c7:XFun:=⟨53,.seq (.ops [oK 0 (.bool false)]) (.seq (.ops [oC 4 9 [],oC 5 8 [4],oA 1 5]) (.seq (.seq (.ops [oM 6 1,oX 7 (.pnileq false (.tmp 6))]) (.cond (.tmp 7) (.seq (.ops [oK 0 (.bool false)]) .ret) .skip)) (.seq (.ops [oM 8 1,oX 9 (.build lx [(0,1,.const (.int .u8 80)),(2,1,.const (.string (ah [97]))),(4,1,.const (.string (ah [98,101,103,105,110])))]),oC 10 10 [8,9]]) (.seq (.ops [oM 11 1,oX 12 (.build lx [(0,1,.const (.int .u8 66)),(2,1,.const (.string (ah [97])))]),oC 13 10 [11,12]]) (.seq (.ops [oM 14 1,oX 15 (.build lx [(0,1,.const (.int .u8 69))]),oC 16 10 [14,15],oA 2 16]) (.seq (.ops [oM 17 1,oX 18 (.build lx [(0,1,.const (.int .u8 83))]),oC 19 10 [17,18],oA 3 19]) (.seq (.ops [oM 20 2,oH 21 20,oI 22 .eql 21 (.int .i64 1),oM 23 22,oG 23 true (oM 24 2),oG 23 true (oX 25 (.iaddr 11 (.tmp 24) (.const (.int .i64 0)))),oG 23 true (oF 26 2 25),oG 23 true (oL 27 26),oG 23 true (oI 28 .eql 27 (.string (ah [66,69,71,73,78]))),oT 29 23 28,oM 30 29,oG 30 true (oM 31 3),oG 30 true (oH 32 31),oG 30 true (oI 33 .eql 32 (.int .i64 1)),oT 34 30 33,oM 35 34,oG 35 true (oM 36 3),oG 35 true (oX 37 (.iaddr 11 (.tmp 36) (.const (.int .i64 0)))),oG 35 true (oF 38 1 37),oG 35 true (oL 39 38),oG 35 true (oI 40 .eql 39 (.int .u8 84)),oT 41 35 40,oM 42 41,oG 42 true (oM 43 1),oG 42 true (oC 44 14 [43]),oG 42 true (oI 45 .eql 44 (.int .u8 84)),oT 46 42 45,oM 47 46,oG 47 true (oM 48 1),oG 47 true (oC 49 13 [48]),oG 47 true (oX 50 (.buildSlice 1 1 rA [(0,.const (.string (ah [97])))])),oG 47 true (oC 51 15 [49,50]),oT 52 47 51,oA 0 52]) .ret))))))),[.move (.tmp 0)]⟩
theorem k7 : ai Tryz.prog 7 = some c7 := by kernel_rfl
def Nt:XFun:=⟨6,.seq (.ops [oK 2 (.bool false)]) (.seq (.ops [oM 3 0,oX 4 (.call 19 [.tmp 3,.func 37]),oV 5 4,oA 2 5]) .ret),[.move (.tmp 2)]⟩
theorem Qp : ai Tryz.prog 18 = some Nt := by kernel_rfl
def Nz:XFun:=⟨8,.seq (.ops [oJ 1 0,oK 2 (.bool false)]) (.seq (.ops [oP 3 10 1,oR 4 10 1 3 lx,oC 5 38 [4],oH 6 5,oI 7 .eql 6 (.int .i64 0),oA 2 7]) .ret),[.move (.tmp 2)]⟩
theorem QB : ai Tryz.prog 37 = some Nz := by kernel_rfl
def NA:XFun:=⟨27,.seq (.ops [oN 2]) (.seq (.ops [oN 3]) (.seq (.seq (.ops [oM 8 0,oH 9 8,oX 10 (.move (.const (.int .i64 0)))]) (.block 0 (.loop (.seq (.ops [oB 11 .lss 10 9]) (.seq (.cond (.tmp 11) .skip (.exit 0)) (.seq (.block 1 (.seq (.ops [oW 12 10 8 10,oP 13 10 12,oZ 5 lx,oS 10 5 13]) (.seq (.ops [oP 15 10 5,oC 16 72 [15],oM 14 16,oE 17 14 0,oE 18 14 1,oZ 6 uW,oS 2 6 17,oA 7 18]) (.seq (.ops [oM 19 7,oI 20 .eql 19 (.int .i64 0)]) (.cond (.tmp 20) (.ops [oM 21 3,oP 22 2 6,oC 23 73 [22],oX 24 (.append 1 1 (.tmp 21) (.tmp 23)),oA 3 24]) .skip))))) (.ops [oI 25 .add 10 (.int .i64 1),oM 10 25]))))))) (.seq (.ops [oM 26 3,oA 2 26]) .ret))),[.move (.tmp 2)]⟩
theorem QC : ai Tryz.prog 38 = some NA := by kernel_rfl
def Nr:XFun:=⟨26,.seq (.ops [oK 4 (.bool false)]) (.seq (.seq (.ops [oM 6 0,oH 7 6,oM 8 1,oH 9 8,oB 10 .neq 7 9]) (.cond (.tmp 10) (.seq (.ops [oK 4 (.bool false)]) .ret) .skip)) (.seq (.seq (.ops [oM 11 0,oH 12 11,oX 13 (.move (.const (.int .i64 0)))]) (.block 0 (.loop (.seq (.ops [oB 14 .lss 13 12]) (.seq (.cond (.tmp 14) .skip (.exit 0)) (.seq (.block 1 (.seq (.ops [oM 15 13,oA 5 15]) (.seq (.draws (.take (oM 16 0) (.take (oM 17 5) (.take (oW 18 1 16 17) (.take (oL 19 18) (.take (oM 20 1) (.take (oM 21 5) (.take (oW 22 1 20 21) (.take (oL 23 22) (.take (oB 24 .neq 19 23) .done)))))))))) (.cond (.tmp 24) (.seq (.ops [oK 4 (.bool false)]) .ret) .skip)))) (.ops [oI 25 .add 13 (.int .i64 1),oM 13 25]))))))) (.seq (.ops [oK 4 (.bool true)]) .ret))),[.move (.tmp 4)]⟩
theorem Qm : ai Tryz.prog 15 = some Nr := by kernel_rfl
def c6:XFun:=⟨14,.seq (.ops [oK 4 (.bool false)]) (.seq (.ops [oM 5 0,oH 6 5,oM 7 1,oB 8 .leq 6 7,oM 9 8,oG 9 true (oM 10 0),oG 9 true (oX 11 (.call 19 [.tmp 10,.func 20])),oG 9 true (oV 12 11),oT 13 9 12,oA 4 13]) .ret),[.move (.tmp 4)]⟩
theorem k6 : ai Tryz.prog 6 = some c6 := by kernel_rfl
def Nu:XFun:=⟨6,.seq (.ops [oJ 1 0,oK 2 (.bool false)]) (.seq (.ops [oP 3 10 1,oC 4 17 [3],oV 5 4,oA 2 5]) .ret),[.move (.tmp 2)]⟩
theorem Qq : ai Tryz.prog 20 = some Nu := by kernel_rfl
def P6:XFun:=⟨9,.seq (.ops [oK 4 (.bool false)]) (.seq (.ops [oM 5 0,oM 6 1,oC 7 39 [5,6],oI 8 .geq 7 (.int .i64 0),oA 4 8]) .ret),[.move (.tmp 4)]⟩
theorem PU : ai Tryz.prog 19 = some P6 := by kernel_rfl
def P8:XFun:=⟨19,.seq (.ops [oK 4 (.int .i64 0)]) (.seq (.seq (.ops [oM 6 0,oH 7 6,oX 8 (.move (.const (.int .i64 0)))]) (.block 0 (.loop (.seq (.ops [oB 9 .lss 8 7]) (.seq (.cond (.tmp 9) .skip (.exit 0)) (.seq (.block 1 (.seq (.ops [oM 10 8,oA 5 10]) (.seq (.ops [oM 11 1,oM 12 0,oM 13 5,oW 14 10 12 13,oP 15 10 14,oX 16 (.callv (.tmp 11) [.tmp 15])]) (.cond (.tmp 16) (.seq (.ops [oM 17 5,oA 4 17]) .ret) .skip)))) (.ops [oI 18 .add 8 (.int .i64 1),oM 8 18]))))))) (.seq (.ops [oK 4 (.int .i64 (-1))]) .ret)),[.move (.tmp 4)]⟩
theorem PY : ai Tryz.prog 39 = some P8 := by kernel_rfl
end Go.Proofs.YtknohkmpficjgaaGreatDoor.Ax
namespace Go.Proofs.YtknohkmpficjgaaGreatDoor.Ax
open Go.RowKit Go By YtknohkmpficjgaaGreatDoor.Nm Sc Dg
set_option maxRecDepth 10000
def xl (code text : List UInt8) : Bk := ⟨69, 0, [], [], [], 0, 0, [], [], [], [⟨83, [69, 82, 82, 79, 82]⟩, ⟨86, [69, 82, 82, 79, 82]⟩, ⟨67, code⟩, ⟨77, text⟩]⟩
theorem Dl (sev code text : List UInt8) (h : List (List AV)) : ae Tryz.prog 158 [.v (.string (ah sev)), .v (.string (ah code)), .v (.string (ah text))] h (.sl 2 (al pL [⟨83, sev⟩, ⟨86, sev⟩, ⟨67, code⟩, ⟨77, text⟩]) none .no) h [] := by
 refine ac OY mixed (by simp [Ge]) fun hh hargs => ?_
 simp [Ge, hh, vA]
theorem Dn (sev code text : List UInt8) (h : List (List AV)) : ae Tryz.prog 97 [.v (.string (ah sev)), .v (.string (ah code)), .v (.string (ah text))] h (.agg (aU ⟨69, 0, [], [], [], 0, 0, [], [], [], [⟨83, sev⟩, ⟨86, sev⟩, ⟨67, code⟩, ⟨77, text⟩]⟩)) h [] := by
 refine ac Q5 mixed (by simp [NW]) fun hh hargs => ?_
 simp [NW]
 refine aa (by simp) (Dl _ _ _ _) ?_
 simp [hh, aB]
theorem AN (code text : List UInt8) (h : List (List AV)) : ae Tryz.prog 50 [.v (.string (ah code)), .v (.string (ah text))] h (.agg (aU (xl code text))) h [] := by
 refine ac QH mixed (by simp [NC]) fun hh hargs => ?_
 simp [NC]
 refine aa (by simp) (Dn [69, 82, 82, 79, 82] code text _) ?_
 simp [hh, xl]
theorem uC (m : Fm) (h : List (List AV)) : ae Tryz.prog 20 [.agg (aG m)] h (.v (.bool (!bY m))) h [] := by
 refine ac Qq mixed (by simp [Nu]) fun hh hargs => ?_
 simp [Nu]
 refine aa (by simp) (sm m _) ?_
 simp [hh]
def fS (n : Nat) (l : List Fm) : Bool := decide ((l.length : Int) <= (n : Int)) && l.all bY
theorem wE (l : List Fm) (n : Nat) (hn : n <= 1000) (h : List (List AV)) : ae Tryz.prog 6 [.sl 10 (al aG l) none .no, .v (.int .i64 (n : Int))] h (.v (.bool (fS n l))) h [] := by
 refine ac k6 mixed (by simp [c6]) fun hh hargs => ?_
 by_cases hL : (n : Int) < l.length
 ·have e : fS n l = false := by unfold fS; simp; intro h1; omega
  rw [e]
  have hL3 : ¬ l.length <= n := by omega
  simp [c6, hL3, hh]
 ·have e : fS n l = !(l.any fun e => !bY e) := by unfold fS; rw [<- List.not_all_eq_any_not]; simp; omega
  rw [e]
  have hL2 : l.length <= n := by omega
  simp [c6, hL2]
  refine aa (by simp) (bW mixed PU PY aG (fun m => !bY m) l [] _ (by simp) (by simp) (by simp) (fun m hm => uC m _) (by omega)) ?_
  simp [hh]
theorem xR (size n : Int) (h : size <= 4) : (dq size n).length <= 4 := by
 have := Ax.put_len n size h []
 simpa [dq] using this
theorem zG (m : Ms) (ht : 0 < m.type /\ m.type < 256) (hl : m.body.length <= 10000000) (h : List (List AV)) : ae Tryz.prog 73 [.agg (vU m)] h (.sl 1 (ak ([Rb m.type.toNat] ++ dq 4 ((m.body.length : Int) + 4) ++ m.body)) none (.own .res)) h [] := by
 have hw : IntKind.i64.wrap ((m.body.length : Int) + 4) = (m.body.length : Int) + 4 := wrap64 (by omega) (by omega)
 have hn := xR 4 ((m.body.length : Int) + 4) (by omega)
 have hk : max m.type 0 % 256 = m.type := by omega
 have h0 : ¬ m.type = 0 := by omega
 refine ac QV mixed (by simp [NK]) fun hh hargs => ?_
 rw [jw]
 generalize hn' : (m.body.length : Int) + 4 = n at *
 generalize hE : ak ([Rb m.type.toNat] ++ dq 4 n) = E at *
 have hEl : E.length = 1 + (dq 4 n).length := by rw [<- hE, pN, List.length_append, List.length_singleton]
 simp [NK, h0, hn', hw]
 refine dm ?_
 simp [hn', hw]
 refine ao (ky [Rb m.type.toNat] n 4 (by simp) _) (by simp [hk]) (by simp) ?_
 rw [fM [Rb m.type.toNat], show bG [] n 4 = dq 4 n from rfl, hE]
 simp [hh, -List.append_assoc]
 exact ⟨by omega, by rw [<- hE]; exact fc _ _⟩
end Go.Proofs.YtknohkmpficjgaaGreatDoor.Ax
namespace Go.Proofs.YtknohkmpficjgaaGreatDoor.Ax
open Go.RowKit Go By
set_option maxRecDepth 10000
structure Sx where
 text : List UInt8
 oids : List Int
def eC (s : Sx) : List AV := [.v (.string (ah s.text)), .sl 1 (al aN s.oids) none .no]
theorem xY (s : Sx) : (eC s).length = 2 := rfl
theorem lY (s : Sx) : ∀ c ∈ eC s, c.idOf = none := by simp [eC]
theorem wH (n : Nat) (s : Sx) : cg n (eC s) := by simp [eC]
structure Zs where
 e : Nat
 T : Eg
 a : Nat
 clock : Nat
 st : List (KE Sx)
 p : Nat
 S : Ps
 status : Int
 skips : Bool
 over : Bool
def Zs.cells (Z : Zs) : List AV := aJ Z.clock (Z.st.map (KE.ent eC))
def Zs.top (Z : Zs) : List AV := [.box Z.e 0, .mp Z.a 2 false, .box Z.p 0, .v (.int .u8 Z.status), .v (.bool Z.skips), .v (.bool Z.over)]
theorem Zs.top_mk (Z : Zs) : Z.top = [.box Z.e 0, .mp Z.a 2 false, .box Z.p 0, .v (.int .u8 Z.status), .v (.bool Z.skips), .v (.bool Z.over)] := rfl
def Zs.get (Z : Zs) (k : List UInt8) : Option Sx := KE.get k Z.st
def Zs.del (Z : Zs) (k : List UInt8) : Zs := { Z with st := KE.del k Z.st }
def Zs.put (Z : Zs) (k : List UInt8) (s : Sx) : Zs := { Z with clock := KE.tick k Z.clock Z.st, st := KE.put k Z.clock s Z.st }
def Zs.own (Z : Zs) (i : Nat) : List Nat := [i, Z.e, Z.T.a, Z.a]
def Zs.vars (Z : Zs) (i : Nat) : List Nat := Z.p :: (Z.own i ++ Z.S.vars)
theorem Zs.of_cells (Z : Zs) : mapOf 2 Z.cells = some (Z.clock, Z.st.map (KE.ent eC)) := KE.ents_of xY _ _
theorem Zs.keys (Z : Zs) : fa none (Z.st.map (KE.ent eC)) := KE.ents_keys lY _
theorem Zs.plain (Z : Zs) : ∀ c ∈ Z.cells, c.idOf = none := KE.ents_plain lY _ _
theorem Zs.lt (Z : Zs) (n : Nat) : cg n Z.cells := oa fun e he => by obtain ⟨s, _, rfl⟩ := List.mem_map.1 he; exact wH n _
theorem Zs.found (Z : Zs) (k : List UInt8) (z : List AV) : Ax.found false true z (AEnt.find (.string (ah k)) (Z.st.map (KE.ent eC)) 0) = (match Z.get k with | some s => .tup [.agg (eC s), .v (.bool true)] | none => .tup [lF false z, .v (.bool false)]) := by
 rw [KE.found_eq]
 unfold Zs.get
 cases KE.get k Z.st <;> rfl
structure SsG (L : List (Nat × List AV)) (h : List (List AV)) (i : Nat) (Z : Zs) : Prop where
 top : h[i]? = some Z.top
 eng : EgAt h Z.e Z.T
 ents : h[Z.a]? = some Z.cells
 por : PsAt h Z.p Z.S
 nd : (Z.own i).Nodup
 sep : ∀ q ∈ Z.own i, q ≠ Z.p /\ q ∉ Z.S.vars
 tmp : ∀ t ∈ L, h[t.1]? = some t.2 /\ t.1 ∉ Z.vars i
 pl : bZ h
section
variable {L : List (Nat × List AV)} {h : List (List AV)} {i : Nat} {Z : Zs}
theorem SsG.i_lt (g : SsG L h i Z) : i < h.length := (Q8.1 g.top).1
theorem SsG.a_lt (g : SsG L h i Z) : Z.a < h.length := (Q8.1 g.ents).1
theorem SsG.e_lt (g : SsG L h i Z) : Z.e < h.length := g.eng.i_lt
theorem SsG.ea_lt (g : SsG L h i Z) : Z.T.a < h.length := g.eng.a_lt
theorem SsG.p_lt (g : SsG L h i Z) : Z.p < h.length := g.por.i_lt
theorem SsG.hh (g : SsG L h i Z) : aR h.length h := g.por.lt
theorem SsG.tmp_lt (g : SsG L h i Z) {t : Nat × List AV} (ht : t ∈ L) : t.1 < h.length := (Q8.1 (g.tmp t ht).1).1
theorem Zs.own_mem {q : Nat} : q ∈ Z.own i ↔ q = i \/ q = Z.e \/ q = Z.T.a \/ q = Z.a := by simp [Zs.own]
theorem SsG.own_lt (g : SsG L h i Z) {q : Nat} (hq : q ∈ Z.own i) : q < h.length := by
 rcases Zs.own_mem.1 hq with rfl | rfl | rfl | rfl
 ·exact g.i_lt
 ·exact g.e_lt
 ·exact g.ea_lt
 ·exact g.a_lt
theorem Zs.vars_mem {q : Nat} : q ∈ Z.vars i ↔ q = Z.p \/ q ∈ Z.own i \/ q ∈ Z.S.vars := by simp [Zs.vars]
theorem SsG.vars_lt (g : SsG L h i Z) {q : Nat} (hq : q ∈ Z.vars i) : q < h.length := by
 rcases Zs.vars_mem.1 hq with rfl | hq | hq
 ·exact g.p_lt
 ·exact g.own_lt hq
 ·exact g.por.var_lt hq
theorem SsG.ni (g : SsG L h i Z) (n : Nat) : ¬ i = h.length + n := by have := g.i_lt; omega
theorem SsG.oi (g : SsG L h i Z) : ¬ i = h.length := by have := g.i_lt; omega
theorem SsG.na (g : SsG L h i Z) (n : Nat) : ¬ Z.a = h.length + n := by have := g.a_lt; omega
theorem SsG.ne (g : SsG L h i Z) (n : Nat) : ¬ Z.e = h.length + n := by have := g.e_lt; omega
theorem SsG.oe (g : SsG L h i Z) : ¬ Z.e = h.length := by have := g.e_lt; omega
theorem SsG.none (g : SsG L h i Z) : SsG [] h i Z := ⟨g.top, g.eng, g.ents, g.por, g.nd, g.sep, (fun t ht => by cases ht), g.pl⟩
theorem SsG.less (g : SsG L h i Z) {L' : List (Nat × List AV)} (hl : ∀ t ∈ L', t ∈ L) : SsG L' h i Z := ⟨g.top, g.eng, g.ents, g.por, g.nd, g.sep, (fun t ht => g.tmp t (hl t ht)), g.pl⟩
theorem SsG.app (g : SsG L h i Z) {c : List AV} (hc : cg (h.length + 1) c) (hp : ∀ x ∈ c, x.idOf = .none) : SsG ((h.length, c) :: L) (h ++ [c]) i Z := by
 refine ⟨by rw [Q9 g.i_lt]; exact g.top, g.eng.app _, by rw [Q9 g.a_lt]; exact g.ents, g.por.app [c] ⟨hc, trivial⟩, g.nd, g.sep, fun t ht => ?_, cG g.pl fun z hz => by rw [List.mem_singleton.1 hz]; exact hp⟩
 rcases List.mem_cons.1 ht with rfl | ht
 ·exact ⟨by simp, fun hq => by have := g.vars_lt hq; simp at this⟩
 ·obtain ⟨h1, h2⟩ := g.tmp t ht
  exact ⟨by rw [Q9 (g.tmp_lt ht)]; exact h1, h2⟩
theorem SsG.byP (g : SsG L h i Z) {f : FuncId} {args : List AV} {r : AV} {S' : Ps} (hd : mf f args h Z.p Z.S r S') :
  ∃ h' wr, ae Tryz.prog f args h r h' wr /\ SsG L h' i { Z with S := S' } /\ (∀ t ∈ L, t.1 ∉ wr) /\ h.length <= h'.length /\ (∀ q ∈ wr, q < h.length -> q ∈ Z.S.vars) /\ (∀ q < h.length, q ∉ Z.S.vars -> h'[q]? = h[q]?) /\ (∀ q ∈ S'.vars, q ∈ Z.S.vars \/ h.length <= q) := by
 obtain ⟨h', wr, k, at_, hw, hl, hs, hv, hp⟩ := hd
 have own : ∀ q ∈ Z.own i, h'[q]? = h[q]? := fun q hq => hs q (g.own_lt hq) (g.sep q hq).2
 refine ⟨h', wr, k, ⟨(own i (by simp [Zs.own])).trans g.top, g.eng.move (own _ (by simp [Zs.own])) (own _ (by simp [Zs.own])), (own _ (by simp [Zs.own])).trans g.ents, at_, g.nd, fun q hq => ⟨(g.sep q hq).1, fun hh => ?_⟩, fun t ht => ?_, hp g.pl⟩, fun t ht hq => ?_, hl, hw, hs, hv⟩
 ·rcases hv q hh with h1 | h1
  ·exact (g.sep q hq).2 h1
  ·have := g.own_lt hq; omega
 ·obtain ⟨t1, t2⟩ := g.tmp t ht
  have hlt := g.tmp_lt ht
  rw [Zs.vars_mem, not_or, not_or] at t2
  refine ⟨(hs _ hlt t2.2.2).trans t1, fun hq => ?_⟩
  rcases Zs.vars_mem.1 hq with hq | hq | hq
  ·exact t2.1 hq
  ·exact t2.2.1 hq
  ·rcases hv _ hq with h1 | h1
   ·exact t2.2.2 h1
   ·omega
 ·obtain ⟨t1, t2⟩ := g.tmp t ht
  exact t2 (Zs.vars_mem.2 (.inr (.inr (hw _ hq (g.tmp_lt ht)))))
theorem SsG.off (g : SsG L h i Z) {wr : List Nat} (hw : ∀ q ∈ wr, q < h.length -> q ∈ Z.S.vars) : i ∉ wr /\ Z.e ∉ wr /\ Z.T.a ∉ wr /\ Z.a ∉ wr /\ Z.p ∉ wr := by
 have own : ∀ q ∈ Z.own i, q ∉ wr := fun q hq hh => (g.sep q hq).2 (hw q hh (g.own_lt hq))
 exact ⟨own _ (by simp [Zs.own]), own _ (by simp [Zs.own]), own _ (by simp [Zs.own]), own _ (by simp [Zs.own]), fun hh => g.por.i_not (hw _ hh g.p_lt)⟩
theorem SsG.set (g : SsG L h i Z) {Z' : Zs} {q : Nat} {cs : List AV} (hq : q ∈ Z.own i) (he : Z'.e = Z.e) (hT : Z'.T.a = Z.T.a) (ha : Z'.a = Z.a) (hp : Z'.p = Z.p) (hS : Z'.S = Z.S) (hlt : cg h.length cs) (hid : ∀ x ∈ cs, x.idOf = .none)
  (htop : (h.set q cs)[i]? = some Z'.top) (heng : (h.set q cs)[Z.e]? = some (fB Z'.T.a Z'.T.n) /\ (h.set q cs)[Z.T.a]? = some Z'.T.cells) (hents : (h.set q cs)[Z.a]? = some Z'.cells) : SsG L (h.set q cs) i Z' := by
 have hown : Z'.own i = Z.own i := by unfold Zs.own; rw [he, hT, ha]
 have hvars : Z'.vars i = Z.vars i := by unfold Zs.vars; rw [hown, hp, hS]
 obtain ⟨s1, s2⟩ := g.sep q hq
 have hl := ay (i := q) g.hh hlt
 refine ⟨htop, ⟨by rw [he]; exact heng.1, by rw [hT]; exact heng.2, by rw [he, hT]; exact g.eng.apart⟩, by rw [ha]; exact hents, ?_, by rw [hown]; exact g.nd, by rw [hown, hp, hS]; exact g.sep, fun t ht => ?_, bz g.pl hid _⟩
 ·rw [hp, hS]
  exact g.por.move (Q7 s1) (fun p hp2 => Q7 fun e => s2 (by rw [e]; exact hp2)) (by rw [List.length_set]; exact hl)
 ·obtain ⟨t1, t2⟩ := g.tmp t ht
  refine ⟨by rw [Q7 fun e => t2 (by rw [<- e]; exact Zs.vars_mem.2 (.inr (.inl hq)))]; exact t1, by rw [hvars]; exact t2⟩
theorem SsG.nd4 (g : SsG L h i Z) : i ≠ Z.e /\ i ≠ Z.T.a /\ i ≠ Z.a /\ Z.e ≠ Z.T.a /\ Z.e ≠ Z.a /\ Z.T.a ≠ Z.a := by
 have := g.nd
 simp [Zs.own] at this
 omega
theorem Zs.top_lt (Z : Zs) {n : Nat} (h1 : Z.e < n) (h2 : Z.a < n) (h3 : Z.p < n) : cg n Z.top := by simp [Zs.top, h1, h2, h3]
theorem Zs.top_id (Z : Zs) : ∀ x ∈ Z.top, x.idOf = .none := by simp [Zs.top]
theorem SsG.setTop (g : SsG L h i Z) (st : Int) (sk ov : Bool) : SsG L (h.set i { Z with status := st, skips := sk, over := ov }.top) i { Z with status := st, skips := sk, over := ov } := by
 obtain ⟨n1, n2, n3, _⟩ := g.nd4
 refine g.set (q := i) (by simp [Zs.own]) rfl rfl rfl rfl rfl (Zs.top_lt _ g.e_lt g.a_lt g.p_lt) (Zs.top_id _) (Ra g.i_lt) ⟨?_, ?_⟩ ?_
 ·rw [Q7 n1]; exact g.eng.top
 ·rw [Q7 n2]; exact g.eng.ents
 ·rw [Q7 n3]; exact g.ents
theorem SsG.setEnts (g : SsG L h i Z) (c : Nat) (l : List (KE Sx)) : SsG L (h.set Z.a { Z with clock := c, st := l }.cells) i { Z with clock := c, st := l } := by
 obtain ⟨n1, n2, n3, n4, n5, n6⟩ := g.nd4
 refine g.set (q := Z.a) (by simp [Zs.own]) rfl rfl rfl rfl rfl (Zs.lt _ _) (Zs.plain _) ?_ ⟨?_, ?_⟩ (Ra g.a_lt)
 ·rw [Q7 (Ne.symm n3)]; exact g.top
 ·rw [Q7 (Ne.symm n5)]; exact g.eng.top
 ·rw [Q7 (Ne.symm n6)]; exact g.eng.ents
theorem SsG.setEng (g : SsG L h i Z) (n : Nat) : SsG L (h.set Z.e (fB Z.T.a n)) i { Z with T := { Z.T with n := n } } := by
 obtain ⟨n1, n2, n3, n4, n5, n6⟩ := g.nd4
 have ha := g.ea_lt
 refine g.set (q := Z.e) (by simp [Zs.own]) rfl rfl rfl rfl rfl (by simp [fB, ha]) (by simp [fB]) ?_ ⟨Ra g.e_lt, ?_⟩ ?_
 ·rw [Q7 (Ne.symm n1)]; exact g.top
 ·rw [Q7 n4]; exact g.eng.ents
 ·rw [Q7 n5]; exact g.ents
end
def DoesS (f : FuncId) (args : List AV) (h : List (List AV)) (i : Nat) (Z : Zs) (r : List (List AV) -> AV -> Prop) (Z' : Zs) : Prop :=
 ∃ h' wr v, ae Tryz.prog f args h v h' wr /\ r h' v /\ SsG [] h' i Z' /\ (∀ q ∈ wr, q < h.length -> q ∈ Z.vars i) /\ h.length <= h'.length /\ (∀ q < h.length, q ∉ Z.vars i -> h'[q]? = h[q]?) /\ (∀ q ∈ Z'.vars i, q ∈ Z.vars i \/ h.length <= q)
section
variable {L : List (Nat × List AV)} {h : List (List AV)} {i : Nat} {Z : Zs}
theorem SsG.byS (g : SsG L h i Z) {f : FuncId} {args : List AV} {r : List (List AV) -> AV -> Prop} {Z' : Zs} (hd : DoesS f args h i Z r Z') :
  ∃ h' wr v, ae Tryz.prog f args h v h' wr /\ r h' v /\ SsG L h' i Z' /\ (∀ t ∈ L, t.1 ∉ wr) /\ h.length <= h'.length /\ (∀ q ∈ wr, q < h.length -> q ∈ Z.vars i) /\ (∀ q < h.length, q ∉ Z.vars i -> h'[q]? = h[q]?) /\ (∀ q ∈ Z'.vars i, q ∈ Z.vars i \/ h.length <= q) := by
 obtain ⟨h', wr, v, k, hr, g', hw, hl, hs, hv⟩ := hd
 refine ⟨h', wr, v, k, hr, ⟨g'.top, g'.eng, g'.ents, g'.por, g'.nd, g'.sep, fun t ht => ?_, g'.pl⟩, fun t ht hq => (g.tmp t ht).2 (hw _ hq (g.tmp_lt ht)), hl, hw, hs, hv⟩
 obtain ⟨t1, t2⟩ := g.tmp t ht
 refine ⟨(hs _ (g.tmp_lt ht) t2).trans t1, fun hq => ?_⟩
 rcases hv _ hq with h1 | h1
 ·exact t2 h1
 ·have := g.tmp_lt ht; omega
end
end Go.Proofs.YtknohkmpficjgaaGreatDoor.Ax
