import Derived.Test.YtknohkmpficjgaaGreatDoorQAxSw
import Derived.Test.YtknohkmpficjgaaGreatDoorQAxTe
import Derived.Test.YtknohkmpficjgaaGreatDoorQAxKc
set_option linter.unusedSimpArgs false
set_option linter.unusedVariables false
open List renaming getElem?_append_left -> Q7, set_append_left -> Q8, getElem?_set_ne -> Q9, mem_singleton -> Ra, set_set -> Rc
open Bool renaming eq_iff_iff -> Rb
namespace Go.Proofs.YtknohkmpficjgaaGreatDoor.Ax
open Go.RowKit Go By
def c8:XFun:=⟨8,.seq (.ops [oK 2 (.pointer none)]) (.seq (.ops [oM 3 0,oX 4 (.makeMap 2 false),oC 5 21 [],oX 6 (.build Ja [(0,1,.tmp 3),(1,1,.tmp 4),(2,1,.tmp 5),(3,1,.const (.int .u8 73))]),oJ 7 6,oA 2 7]) .ret),[.move (.tmp 2)]⟩
theorem k8 : ai Tryz.prog 8 = some c8 := by kernel_rfl
def va:XFun:=⟨49,.seq (.ops [oJ 3 1,oN 4]) (.seq (.seq (.ops [oM 7 0,oF 8 0 3,oL 9 8,oC 10 22 [7,9],oV 11 10]) (.cond (.tmp 11) (.seq (.ops [oN 4]) .ret) .skip)) (.seq (.seq (.ops [oF 12 0 3,oL 13 12]) (.block 0 (.seq (.ops [oI 15 .eql 13 (.int .u8 83),oA 14 15]) (.cond (.tmp 14) (.seq (.ops [oM 16 0,oX 17 (.nilCheck (.tmp 16)),oF 18 4 17,oQ 1 18 (.bool false)]) (.seq (.ops [oM 19 0,oC 20 23 [19],oR 21 11 1 20 bM,oA 4 21]) .ret)) (.seq (.ops [oI 23 .eql 13 (.int .u8 88),oA 22 23]) (.cond (.tmp 22) (.seq (.ops [oM 24 0,oX 25 (.nilCheck (.tmp 24)),oF 26 5 25,oQ 1 26 (.bool true)]) (.seq (.ops [oN 4]) .ret)) (.seq (.ops [oI 28 .eql 13 (.int .u8 81),oA 27 28]) (.cond (.tmp 27) (.seq (.ops [oM 29 0,oF 30 4 3,oL 31 30,oC 32 24 [29,31],oA 4 32]) .ret) .skip)))))))) (.seq (.ops [oM 34 0,oP 35 10 3,oC 36 25 [34,35],oM 33 36,oE 37 33 0,oE 38 33 1,oA 5 37,oA 6 38]) (.seq (.ops [oM 39 0,oM 40 6,oX 41 (.inileq true (.tmp 40)),oX 42 (.nilCheck (.tmp 39)),oF 43 4 42,oS 1 43 41]) (.seq (.ops [oM 44 5,oM 45 0,oM 46 6,oC 47 26 [45,46],oX 48 (.append 11 168 (.tmp 44) (.tmp 47)),oA 4 48]) .ret))))),[.move (.tmp 4)]⟩
theorem GP : ai Tryz.prog 10 = some va := by kernel_rfl
def Nh:XFun:=⟨11,.seq (.ops [oK 2 (.bool false)]) (.seq (.ops [oM 3 0,oX 4 (.pnileq true (.tmp 3)),oM 5 4,oG 5 true (oM 6 0),oG 5 true (oX 7 (.nilCheck (.tmp 6))),oG 5 true (oF 8 4 7),oG 5 true (oL 9 8),oT 10 5 9,oA 2 10]) .ret),[.move (.tmp 2)]⟩
theorem Qi : ai Tryz.prog 11 = some Nh := by kernel_rfl
def No:XFun:=⟨11,.seq (.ops [oK 2 (.bool false)]) (.seq (.ops [oM 3 0,oX 4 (.pnileq true (.tmp 3)),oM 5 4,oG 5 true (oM 6 0),oG 5 true (oX 7 (.nilCheck (.tmp 6))),oG 5 true (oF 8 5 7),oG 5 true (oL 9 8),oT 10 5 9,oA 2 10]) .ret),[.move (.tmp 2)]⟩
theorem Qj : ai Tryz.prog 12 = some No := by kernel_rfl
def Np:XFun:=⟨23,.seq (.ops [oN 2]) (.seq (.seq (.ops [oM 5 0,oX 6 (.pnileq false (.tmp 5))]) (.cond (.tmp 6) (.seq (.ops [oN 2]) .ret) .skip)) (.seq (.ops [oN 3]) (.seq (.seq (.ops [oM 7 0,oX 8 (.nilCheck (.tmp 7)),oF 9 1 8,oL 10 9,oX 11 (.rangeM 2 false (.tmp 10))]) (.block 0 (.loop (.seq (.nexts (some 12) (.tmp 11) [oE 13 12 0]) (.seq (.cond (.tmp 13) .skip (.exit 0)) (.block 1 (.seq (.ops [oX 14 (.entry (.tmp 11)),oE 15 14 0,oA 4 15]) (.ops [oM 16 3,oM 17 4,oR 18 1 1 17 rA,oX 19 (.append 1 16 (.tmp 16) (.tmp 18)),oA 3 19])))))))) (.seq (.sortr 3 20 (some 21) 27) (.seq (.ops [oM 22 3,oA 2 22]) .ret))))),[.move (.tmp 2)]⟩
theorem Qk : ai Tryz.prog 13 = some Np := by kernel_rfl
def Nq:XFun:=⟨9,.seq (.ops [oK 2 (.int .u8 0)]) (.seq (.seq (.ops [oM 3 0,oX 4 (.pnileq false (.tmp 3))]) (.cond (.tmp 4) (.seq (.ops [oK 2 (.int .u8 0)]) .ret) .skip)) (.seq (.ops [oM 5 0,oX 6 (.nilCheck (.tmp 5)),oF 7 3 6,oL 8 7,oA 2 8]) .ret)),[.move (.tmp 2)]⟩
theorem Ql : ai Tryz.prog 14 = some Nq := by kernel_rfl
def Jd:XFun:=⟨32,.seq (.ops [oK 4 (.bool false)]) (.seq (.block 0 (.seq (.ops [oM 6 0,oX 7 (.pnileq false (.tmp 6)),oM 8 7,oG 8 false (oM 9 0),oG 8 false (oX 10 (.nilCheck (.tmp 9))),oG 8 false (oF 11 0 10),oG 8 false (oL 12 11),oG 8 false (oX 13 (.pnileq false (.tmp 12))),oU 14 8 13,oM 15 14,oG 15 false (oM 16 0),oG 15 false (oX 17 (.nilCheck (.tmp 16))),oG 15 false (oF 18 5 17),oG 15 false (oL 19 18),oU 20 15 19,oA 5 20]) (.cond (.tmp 5) (.seq (.ops [oK 4 (.bool false)]) .ret) (.seq (.ops [oM 22 0,oX 23 (.nilCheck (.tmp 22)),oF 24 4 23,oL 25 24,oA 21 25]) (.cond (.tmp 21) (.seq (.ops [oM 26 1,oI 27 .eql 26 (.int .u8 83),oM 28 27,oG 28 false (oM 29 1),oG 28 false (oI 30 .eql 29 (.int .u8 88)),oU 31 28 30,oA 4 31]) .ret) .skip))))) (.seq (.ops [oK 4 (.bool true)]) .ret)),[.move (.tmp 4)]⟩
theorem Qs : ai Tryz.prog 22 = some Jd := by kernel_rfl
def Ku:XFun:=⟨18,.seq (.ops [oZ 2 bM]) (.seq (.seq (.ops [oM 3 0,oX 4 (.nilCheck (.tmp 3)),oF 5 3 4,oL 6 5,oI 7 .eql 6 (.int .u8 73)]) (.cond (.tmp 7) (.ops [oM 8 0,oX 9 (.nilCheck (.tmp 8)),oF 10 2 9,oL 11 10,oC 12 40 [11]]) .skip)) (.seq (.ops [oM 13 0,oX 14 (.nilCheck (.tmp 13)),oF 15 3 14,oL 16 15,oX 17 (.build bM [(0,1,.const (.int .u8 90)),(1,1,.tmp 16)]),oS 11 2 17]) .ret)),[.loadN 11 (.tmp 2)]⟩
theorem PW : ai Tryz.prog 23 = some Ku := by kernel_rfl
def Gw:XFun:=⟨32,.seq (.ops [oN 4]) (.seq (.ops [oM 7 0,oX 8 (.nilCheck (.tmp 7)),oF 9 1 8,oL 10 9,⟨none,.mapDel none 2 false (.tmp 10) (.const (.string (ah []))),none⟩]) (.seq (.ops [oM 11 0,oX 12 (.nilCheck (.tmp 11)),oF 13 2 12,oL 14 13,oX 15 (.call 41 [.tmp 14,.const (.string (ah []))])]) (.seq (.ops [oM 17 0,oM 18 1,oC 19 42 [17,18],oM 16 19,oE 20 16 0,oE 21 16 1,oA 5 20,oA 6 21]) (.seq (.ops [oM 22 5,oM 23 0,oM 24 6,oC 25 26 [23,24],oX 26 (.append 11 168 (.tmp 22) (.tmp 25)),oA 5 26]) (.seq (.ops [oM 27 5,oM 28 0,oC 29 23 [28],oR 30 11 1 29 bM,oX 31 (.append 11 168 (.tmp 27) (.tmp 30)),oA 4 31]) .ret))))),[.move (.tmp 4)]⟩
theorem Pu : ai Tryz.prog 24 = some Gw := by kernel_rfl
def yv:XFun:=⟨44,.seq (.ops [oJ 3 1,oN 4,oK 5 .nilIface]) (.seq (.seq (.ops [oF 6 0 3,oL 7 6]) (.block 0 (.seq (.ops [oI 9 .eql 7 (.int .u8 80),oA 8 9]) (.cond (.tmp 8) (.seq (.ops [oM 10 0,oP 11 10 3,oC 12 43 [10,11],oE 13 12 0,oE 14 12 1,oA 4 13,oA 5 14]) .ret) (.seq (.ops [oI 16 .eql 7 (.int .u8 66),oA 15 16]) (.cond (.tmp 15) (.seq (.ops [oM 17 0,oP 18 10 3,oC 19 44 [17,18],oE 20 19 0,oE 21 19 1,oA 4 20,oA 5 21]) .ret) (.seq (.ops [oI 23 .eql 7 (.int .u8 68),oA 22 23]) (.cond (.tmp 22) (.seq (.ops [oM 24 0,oP 25 10 3,oC 26 45 [24,25],oE 27 26 0,oE 28 26 1,oA 4 27,oA 5 28]) .ret) (.seq (.ops [oI 30 .eql 7 (.int .u8 69),oA 29 30]) (.cond (.tmp 29) (.seq (.ops [oM 31 0,oF 32 3 3,oL 33 32,oF 34 9 3,oL 35 34,oC 36 46 [31,33,35],oE 37 36 0,oE 38 36 1,oA 4 37,oA 5 38]) .ret) (.seq (.ops [oI 40 .eql 7 (.int .u8 67),oA 39 40]) (.cond (.tmp 39) (.seq (.ops [oM 41 0,oP 42 10 3,oC 43 47 [41,42],oA 4 43,oK 5 .nilIface]) .ret) .skip)))))))))))) (.seq (.ops [oN 4,oK 5 .nilIface]) .ret)),[.move (.tmp 4),.move (.tmp 5)]⟩
theorem Jr : ai Tryz.prog 25 = some yv := by kernel_rfl
def Gx:XFun:=⟨34,.seq (.ops [oN 4]) (.seq (.ops [oZ 5 pJ]) (.seq (.seq (.ops [oM 6 1,oX 7 (.mkI 92 (.tmp 5)),oC 8 48 [6,7],oV 9 8]) (.cond (.tmp 9) (.seq (.ops [oN 4]) .ret) .skip)) (.seq (.ops [oM 10 0,oM 11 0,oX 12 (.nilCheck (.tmp 11)),oF 13 3 12,oL 14 13,oC 15 49 [14],oX 16 (.nilCheck (.tmp 10)),oF 17 3 16,oS 1 17 15]) (.seq (.seq (.ops [oM 18 0,oX 19 (.nilCheck (.tmp 18)),oF 20 3 19,oL 21 20,oI 22 .eql 21 (.int .u8 69)]) (.cond (.tmp 22) (.ops [oM 23 0,oX 24 (.nilCheck (.tmp 23)),oF 25 2 24,oL 26 25,oC 27 40 [26]]) .skip)) (.seq (.ops [oF 28 0 5,oL 29 28,oF 30 1 5,oL 31 30,oC 32 50 [29,31],oR 33 11 1 32 bM,oA 4 33]) .ret))))),[.move (.tmp 4)]⟩
theorem Pv : ai Tryz.prog 26 = some Gx := by kernel_rfl
def Gy:XFun:=⟨36,.seq (.ops [oN 4,oK 5 .nilIface]) (.seq (.seq (.ops [oM 8 0,oM 9 1,oC 10 75 [8,9],oA 6 10]) (.seq (.ops [oM 11 6,oX 12 (.inileq true (.tmp 11))]) (.cond (.tmp 12) (.seq (.ops [oM 13 6,oN 4,oA 5 13]) .ret) .skip))) (.seq (.ops [oM 14 1,oC 15 76 [14],oZ 7 kI,oS 3 7 15]) (.seq (.seq (.ops [oP 16 3 7,oC 17 77 [16],oV 18 17]) (.cond (.tmp 18) (.seq (.ops [oM 19 0,oP 20 3 7,oC 21 78 [19,20],oE 22 21 0,oE 23 21 1,oA 4 22,oA 5 23]) .ret) .skip)) (.seq (.draws (.take (oM 24 1) (.take (oD 25 0 mZ 24) (.take (oM 28 0) (.take (oX 29 (.nilCheck (.tmp 28))) (.take (oF 30 0 29) (.take (oL 31 30) (.take (oP 32 3 7) (.only (oC 26 79 [25]) (.two (oR 27 11 1 26 bM) (oX 33 (.call 81 [.tmp 31,.tmp 32,.const (.slice none 0 0)])) (.only (oX 33 (.call 81 [.tmp 31,.tmp 32,.const (.slice none 0 0)])) (.only (oX 34 (.call 80 [.tmp 33,.const (.bool false)])) (.only (oX 35 (.append 11 168 (.tmp 27) (.tmp 34))) (.take (oA 4 35) (.take (oK 5 .nilIface) .done))))) (.two (oR 27 11 1 26 bM) (oX 34 (.call 80 [.tmp 33,.const (.bool false)])) (.only (oX 34 (.call 80 [.tmp 33,.const (.bool false)])) (.only (oX 35 (.append 11 168 (.tmp 27) (.tmp 34))) (.take (oA 4 35) (.take (oK 5 .nilIface) .done)))) (.only (oR 27 11 1 26 bM) (.only (oX 35 (.append 11 168 (.tmp 27) (.tmp 34))) (.take (oA 4 35) (.take (oK 5 .nilIface) .done))))))))))))))) .ret)))),[.move (.tmp 4),.move (.tmp 5)]⟩
theorem Pw : ai Tryz.prog 42 = some Gy := by kernel_rfl
def Mb:XFun:=⟨55,.seq (.ops [oJ 3 1,oN 4,oK 5 .nilIface]) (.seq (.seq (.ops [oF 9 2 3,oL 10 9,oI 11 .eql 10 (.string (ah []))]) (.cond (.tmp 11) (.ops [oM 12 0,oX 13 (.nilCheck (.tmp 12)),oF 14 1 13,oL 15 14,⟨none,.mapDel none 2 false (.tmp 15) (.const (.string (ah []))),none⟩]) .skip)) (.seq (.seq (.ops [oM 16 0,oF 17 4 3,oL 18 17,oC 19 75 [16,18],oA 6 19]) (.seq (.ops [oM 20 6,oX 21 (.inileq true (.tmp 20))]) (.cond (.tmp 21) (.seq (.ops [oM 22 6,oN 4,oA 5 22]) .ret) .skip))) (.seq (.seq (.draws (.take (oM 24 0) (.take (oX 25 (.nilCheck (.tmp 24))) (.take (oF 26 1 25) (.take (oL 27 26) (.take (oF 28 2 3) (.take (oL 29 28) (.take (oX 30 (.lookup none 2 false true mZ (.tmp 27) (.tmp 29))) (.take (oM 23 30) (.take (oE 31 23 0) (.take (oE 32 23 1) (.only (oZ 7 mZ) (.only (oS 2 7 31) (.take (oA 8 32) .done)))))))))))))) (.seq (.ops [oM 33 8]) (.cond (.tmp 33) (.seq (.ops [oF 34 2 3,oL 35 34,oC 36 82 [35],oX 37 (.build pJ [(0,1,.const (.string (ah [52,50,80,48,53]))),(1,1,.tmp 36)]),oX 38 (.mkI 90 (.tmp 37)),oN 4,oA 5 38]) .ret) .skip))) (.seq (.draws (.take (oM 39 0) (.take (oX 40 (.nilCheck (.tmp 39))) (.take (oF 41 1 40) (.take (oL 42 41) (.take (oF 43 2 3) (.take (oL 44 43) (.take (oF 46 4 3) (.take (oL 47 46) (.take (oF 49 5 3) (.take (oL 50 49) (.only (oC 45 83 [44]) (.only (oC 48 83 [47]) (.only (oC 51 84 [50]) (.take (oX 52 (.build mZ [(0,1,.tmp 48),(1,1,.tmp 51)])) (.last ⟨none,.mapUpd none 2 false (.tmp 42) (.tmp 45) (.tmp 52),none⟩)))))))))))))))) (.seq (.ops [oX 53 (.build bM [(0,1,.const (.int .u8 49))]),oR 54 11 1 53 bM,oA 4 54,oK 5 .nilIface]) .ret))))),[.move (.tmp 4),.move (.tmp 5)]⟩
theorem QE : ai Tryz.prog 43 = some Mb := by kernel_rfl
def C7:XFun:=⟨58,.seq (.ops [oJ 3 1,oN 4,oK 5 .nilIface]) (.seq (.ops [oM 9 0,oF 10 2 3,oL 11 10,oC 12 85 [9,11],oM 8 12,oE 13 8 0,oE 14 8 1,oZ 6 mZ,oS 2 6 13,oA 7 14]) (.seq (.block 0 (.seq (.ops [oM 16 7,oX 17 (.inileq true (.tmp 16)),oA 15 17]) (.cond (.tmp 15) (.seq (.ops [oM 18 7,oN 4,oA 5 18]) .ret) (.seq (.ops [oF 20 8 3,oL 21 20,oH 22 21,oF 23 1 6,oL 24 23,oH 25 24,oB 26 .neq 22 25,oA 19 26]) (.cond (.tmp 19) (.seq (.ops [oF 27 8 3,oL 28 27,oH 29 28,oF 30 2 3,oL 31 30,oF 32 1 6,oL 33 32,oH 34 33,oC 35 86 [29,31,34],oX 36 (.build pJ [(0,1,.const (.string (ah [48,56,80,48,49]))),(1,1,.tmp 35)]),oX 37 (.mkI 90 (.tmp 36)),oN 4,oA 5 37]) .ret) (.seq (.draws (.take (oM 39 0) (.take (oX 40 (.nilCheck (.tmp 39))) (.take (oF 41 2 40) (.take (oL 42 41) (.take (oF 43 3 3) (.take (oL 44 43) (.take (oP 45 2 6) (.take (oF 46 8 3) (.take (oL 47 46) (.take (oX 48 (.build pI [(0,2,.tmp 45),(2,1,.tmp 47)])) (.only (oC 49 87 [42,44,48]) (.take (oI 50 .neq 49 (.int .i64 0)) (.take (oA 38 50) .done)))))))))))))) (.cond (.tmp 38) (.seq (.ops [oF 51 3 3,oL 52 51,oC 53 88 [52],oX 54 (.build pJ [(0,1,.const (.string (ah [52,50,80,48,51]))),(1,1,.tmp 53)]),oX 55 (.mkI 90 (.tmp 54)),oN 4,oA 5 55]) .ret) .skip))))))) (.seq (.ops [oX 56 (.build bM [(0,1,.const (.int .u8 50))]),oR 57 11 1 56 bM,oA 4 57,oK 5 .nilIface]) .ret))),[.move (.tmp 4),.move (.tmp 5)]⟩
theorem Mz : ai Tryz.prog 44 = some C7 := by kernel_rfl
def Kw:XFun:=⟨47,.seq (.ops [oJ 3 1,oN 4,oK 5 .nilIface]) (.seq (.seq (.ops [oF 10 1 3,oL 11 10]) (.block 0 (.seq (.ops [oI 13 .eql 11 (.int .u8 83),oA 12 13]) (.cond (.tmp 12) (.seq (.ops [oM 15 0,oF 16 2 3,oL 17 16,oC 18 85 [15,17],oM 14 18,oE 19 14 0,oE 20 14 1,oZ 6 mZ,oS 2 6 19,oA 7 20]) (.seq (.seq (.ops [oM 21 7,oX 22 (.inileq true (.tmp 21))]) (.cond (.tmp 22) (.seq (.ops [oM 23 7,oN 4,oA 5 23]) .ret) .skip)) (.seq (.draws (.take (oF 24 1 6) (.take (oL 25 24) (.take (oP 28 2 6) (.only (oC 26 84 [25]) (.take (oX 27 (.build bM [(0,1,.const (.int .u8 116)),(7,1,.tmp 26)])) (.only (oC 29 79 [28]) (.only (oX 30 (.buildSlice 11 2 bM [(0,.tmp 27),(1,.tmp 29)])) (.take (oA 4 30) (.take (oK 5 .nilIface) .done)))))))))) .ret))) (.seq (.ops [oI 32 .eql 11 (.int .u8 80),oA 31 32]) (.cond (.tmp 31) (.seq (.ops [oM 34 0,oF 35 3 3,oL 36 35,oC 37 89 [34,36],oM 33 37,oE 38 33 0,oE 39 33 1,oZ 8 pI,oS 6 8 38,oA 9 39]) (.seq (.seq (.ops [oM 40 9,oX 41 (.inileq true (.tmp 40))]) (.cond (.tmp 41) (.seq (.ops [oM 42 9,oN 4,oA 5 42]) .ret) .skip)) (.seq (.ops [oF 43 0 8,oP 44 2 43,oC 45 79 [44],oR 46 11 1 45 bM,oA 4 46,oK 5 .nilIface]) .ret))) .skip)))))) (.seq (.ops [oN 4,oK 5 .nilIface]) .ret)),[.move (.tmp 4),.move (.tmp 5)]⟩
theorem QF : ai Tryz.prog 45 = some Kw := by kernel_rfl
def yw:XFun:=⟨73,.seq (.ops [oN 6,oK 7 .nilIface]) (.seq (.ops [oM 14 0,oM 15 1,oC 16 89 [14,15],oM 13 16,oE 17 13 0,oE 18 13 1,oZ 8 pI,oS 6 8 17,oA 9 18]) (.seq (.seq (.ops [oM 19 9,oX 20 (.inileq true (.tmp 19))]) (.cond (.tmp 20) (.seq (.ops [oM 21 9,oN 6,oA 7 21]) .ret) .skip)) (.seq (.ops [oF 22 0 8,oF 23 0 22,oL 24 23,oC 25 76 [24],oZ 10 kI,oS 3 10 25]) (.seq (.seq (.ops [oF 26 4 8,oL 27 26,oM 28 27,oG 28 true (oP 29 3 10),oG 28 true (oC 30 90 [29]),oG 28 true (oV 31 30),oT 32 28 31]) (.cond (.tmp 32) (.seq (.ops [oX 33 (.build pJ [(0,1,.const (.string (ah [53,53,48,48,48]))),(1,1,.const (.string (ah [112,111,114,116,97,108,32,99,97,110,110,111,116,32,98,101,32,114,117,110])))]),oX 34 (.mkI 90 (.tmp 33)),oN 6,oA 7 34]) .ret) .skip)) (.seq (.seq (.ops [oF 35 4 8,oL 36 35,oV 37 36]) (.cond (.tmp 37) (.draws (.take (oM 38 0) (.take (oX 39 (.nilCheck (.tmp 38))) (.take (oF 40 2 39) (.take (oL 41 40) (.take (oM 42 1) (.take (oM 43 0) (.take (oX 44 (.nilCheck (.tmp 43))) (.take (oF 45 0 44) (.take (oL 46 45) (.take (oP 47 3 10) (.take (oF 48 2 8) (.take (oL 49 48) (.only (oC 50 81 [46,47,49]) (.only (oC 51 91 [41,42,50]) .done))))))))))))))) .skip)) (.seq (.seq (.ops [oP 52 3 10,oC 53 77 [52],oV 54 53]) (.cond (.tmp 54) (.seq (.ops [oM 55 0,oP 56 3 10,oC 57 78 [55,56],oE 58 57 0,oE 59 57 1,oA 6 58,oA 7 59]) .ret) .skip)) (.seq (.ops [oM 61 0,oX 62 (.nilCheck (.tmp 61)),oF 63 2 62,oL 64 63,oM 65 1,oM 66 2,oC 67 92 [64,65,66],oM 60 67,oE 68 60 0,oE 69 60 1,oA 11 68,oA 12 69]) (.seq (.ops [oM 70 11,oM 71 12,oC 72 80 [70,71],oA 6 72,oK 7 .nilIface]) .ret)))))))),[.move (.tmp 6),.move (.tmp 7)]⟩
theorem Js : ai Tryz.prog 46 = some yw := by kernel_rfl
def Gz:XFun:=⟨26,.seq (.ops [oJ 3 1,oN 4]) (.seq (.seq (.ops [oF 5 1 3,oL 6 5]) (.block 0 (.seq (.ops [oI 8 .eql 6 (.int .u8 83),oA 7 8]) (.cond (.tmp 7) (.draws (.take (oM 9 0) (.take (oX 10 (.nilCheck (.tmp 9))) (.take (oF 11 1 10) (.take (oL 12 11) (.take (oF 13 2 3) (.take (oL 14 13) (.last ⟨none,.mapDel none 2 false (.tmp 12) (.tmp 14),none⟩)))))))) (.seq (.ops [oI 16 .eql 6 (.int .u8 80),oA 15 16]) (.cond (.tmp 15) (.draws (.take (oM 17 0) (.take (oX 18 (.nilCheck (.tmp 17))) (.take (oF 19 2 18) (.take (oL 20 19) (.take (oF 21 3 3) (.take (oL 22 21) (.only (oC 23 41 [20,22]) .done)))))))) (.seq (.ops [oN 4]) .ret))))))) (.seq (.ops [oX 24 (.build bM [(0,1,.const (.int .u8 51))]),oR 25 11 1 24 bM,oA 4 25]) .ret)),[.move (.tmp 4)]⟩
theorem Px : ai Tryz.prog 47 = some Gz := by kernel_rfl
def NL:XFun:=⟨27,.seq (.ops [oK 4 .nilIface]) (.seq (.seq (.draws (.take (oM 9 0) (.take (oX 10 (.nilCheck (.tmp 9))) (.take (oF 11 0 10) (.take (oL 12 11) (.take (oM 13 1) (.take (oM 14 0) (.take (oX 15 (.nilCheck (.tmp 14))) (.take (oF 16 3 15) (.take (oL 17 16) (.only (oC 18 126 [12,13,17]) (.take (oM 8 18) (.take (oE 19 8 0) (.take (oE 20 8 1) (.take (oE 21 8 2) (.take (oA 5 19) (.take (oA 6 20) (.take (oA 7 21) .done)))))))))))))))))) (.seq (.ops [oM 22 7]) (.cond (.tmp 22) (.seq (.ops [oM 23 5,oM 24 6,oX 25 (.build pJ [(0,1,.tmp 23),(1,1,.tmp 24)]),oX 26 (.mkI 90 (.tmp 25)),oA 4 26]) .ret) .skip))) (.seq (.ops [oK 4 .nilIface]) .ret)),[.move (.tmp 4)]⟩
theorem QX : ai Tryz.prog 75 = some NL := by kernel_rfl
def C8:XFun:=⟨43,.seq (.ops [oJ 3 1,oN 4,oK 5 .nilIface]) (.seq (.seq (.ops [oF 8 0 3,oL 9 8]) (.block 0 (.seq (.ops [oI 11 .eql 9 (.int .i64 1),oA 10 11]) (.cond (.tmp 10) (.seq (.ops [oX 12 (.build bM [(0,1,.const (.int .u8 73))]),oR 13 11 1 12 bM,oA 4 13,oK 5 .nilIface]) .ret) (.seq (.ops [oI 15 .eql 9 (.int .i64 8),oA 14 15]) (.cond (.tmp 14) (.seq (.draws (.take (oF 16 2 3) (.take (oL 17 16) (.take (oX 18 (.build pJ [(0,1,.tmp 17),(1,1,.const (.string (ah [102,97,105,108,101,100,32,111,110,32,112,117,114,112,111,115,101])))])) (.take (oX 19 (.mkI 90 (.tmp 18))) (.take (oN 4) (.take (oA 5 19) .done))))))) .ret) .skip)))))) (.seq (.draws (.take (oM 21 0) (.take (oX 22 (.nilCheck (.tmp 21))) (.take (oF 23 3 22) (.take (oL 24 23) (.take (oP 25 3 3) (.only (oC 26 133 [24,25]) (.take (oM 20 26) (.take (oE 27 20 0) (.take (oE 28 20 1) (.take (oA 6 27) (.take (oA 7 28) .done)))))))))))) (.seq (.ops [oM 29 0,oM 30 6,oX 31 (.nilCheck (.tmp 29)),oF 32 3 31,oS 1 32 30]) (.seq (.seq (.ops [oP 33 3 3,oC 34 134 [33]]) (.cond (.tmp 34) (.ops [oM 35 0,oX 36 (.nilCheck (.tmp 35)),oF 37 2 36,oL 38 37,oC 39 40 [38]]) .skip)) (.seq (.ops [oM 40 7,oX 41 (.build bM [(0,1,.const (.int .u8 67)),(2,1,.tmp 40)]),oR 42 11 1 41 bM,oA 4 42,oK 5 .nilIface]) .ret))))),[.move (.tmp 4),.move (.tmp 5)]⟩
theorem MA : ai Tryz.prog 78 = some C8 := by kernel_rfl
def NO:XFun:=⟨17,.seq (.ops [oJ 1 0,oZ 2 bM]) (.seq (.ops [oF 4 0 1,oL 5 4,oC 6 76 [5],oZ 3 kI,oS 3 3 6]) (.seq (.seq (.ops [oP 7 3 3,oC 8 77 [7],oV 9 8]) (.cond (.tmp 9) (.seq (.ops [oX 10 (.build bM [(0,1,.const (.int .u8 110))]),oS 11 2 10]) .ret) .skip)) (.seq (.ops [oP 11 3 3,oF 12 1 1,oL 13 12,oH 14 13,oC 15 136 [11,14],oC 16 135 [15],oS 11 2 16]) .ret))),[.loadN 11 (.tmp 2)]⟩
theorem Q0 : ai Tryz.prog 79 = some NO := by kernel_rfl
def NP:XFun:=⟨32,.seq (.ops [oN 4]) (.seq (.ops [oN 5]) (.seq (.seq (.ops [oM 8 0,oH 9 8,oX 10 (.move (.const (.int .i64 0)))]) (.block 0 (.loop (.seq (.ops [oB 11 .lss 10 9]) (.seq (.cond (.tmp 11) .skip (.exit 0)) (.seq (.block 1 (.seq (.ops [oW 12 1 8 10,oL 13 12,oA 7 13]) (.ops [oM 14 5,oM 15 7,oC 16 137 [15],oR 17 11 1 16 bM,oX 18 (.append 11 168 (.tmp 14) (.tmp 17)),oA 5 18]))) (.ops [oI 19 .add 10 (.int .i64 1),oM 10 19]))))))) (.seq (.seq (.ops [oM 20 1]) (.cond (.tmp 20) (.seq (.ops [oM 21 5,oX 22 (.build bM [(0,1,.const (.int .u8 115))]),oR 23 11 1 22 bM,oX 24 (.append 11 168 (.tmp 21) (.tmp 23)),oA 4 24]) .ret) .skip)) (.seq (.ops [oM 25 5,oM 26 0,oH 27 26,oC 28 138 [27],oX 29 (.build bM [(0,1,.const (.int .u8 67)),(2,1,.tmp 28)]),oR 30 11 1 29 bM,oX 31 (.append 11 168 (.tmp 25) (.tmp 30)),oA 4 31]) .ret)))),[.move (.tmp 4)]⟩
theorem GR : ai Tryz.prog 80 = some NP := by kernel_rfl
def Mh:XFun:=⟨28,.seq (.ops [oZ 4 mZ,oK 5 .nilIface]) (.seq (.ops [oM 9 0,oX 10 (.nilCheck (.tmp 9)),oF 11 1 10,oL 12 11,oM 13 1,oX 14 (.lookup none 2 false true mZ (.tmp 12) (.tmp 13)),oM 8 14,oE 15 8 0,oE 16 8 1,oZ 6 mZ,oS 2 6 15,oA 7 16]) (.seq (.seq (.ops [oM 17 7,oV 18 17]) (.cond (.tmp 18) (.seq (.ops [oX 19 (.build mZ []),oM 20 1,oC 21 146 [20],oX 22 (.build pJ [(0,1,.const (.string (ah [50,54,48,48,48]))),(1,1,.tmp 21)]),oX 23 (.mkI 90 (.tmp 22)),oS 2 4 19,oA 5 23]) .ret) .skip)) (.seq (.draws (.take (oP 24 2 6) (.take (oM 25 0) (.take (oP 26 2 6) (.only (oC 27 147 [25,26]) (.only (oS 2 4 24) (.take (oA 5 27) .done))))))) .ret))),[.loadN 2 (.tmp 4),.move (.tmp 5)]⟩
theorem Q2 : ai Tryz.prog 85 = some Mh := by kernel_rfl
def Mi:XFun:=⟨29,.seq (.ops [oZ 4 pI,oK 5 .nilIface]) (.seq (.ops [oM 9 0,oX 10 (.nilCheck (.tmp 9)),oF 11 2 10,oL 12 11,oM 13 1,oC 14 151 [12,13],oM 8 14,oE 15 8 0,oE 16 8 1,oZ 6 pI,oS 6 6 15,oA 7 16]) (.seq (.seq (.ops [oM 17 7,oV 18 17]) (.cond (.tmp 18) (.seq (.ops [oX 19 (.build pI []),oM 20 1,oC 21 152 [20],oX 22 (.build pJ [(0,1,.const (.string (ah [51,52,48,48,48]))),(1,1,.tmp 21)]),oX 23 (.mkI 90 (.tmp 22)),oS 6 4 19,oA 5 23]) .ret) .skip)) (.seq (.draws (.take (oP 24 6 6) (.take (oM 25 0) (.take (oF 26 0 6) (.take (oP 27 2 26) (.only (oC 28 147 [25,27]) (.only (oS 6 4 24) (.take (oA 5 28) .done)))))))) .ret))),[.loadN 6 (.tmp 4),.move (.tmp 5)]⟩
theorem Q4 : ai Tryz.prog 89 = some Mi := by kernel_rfl
def NV:XFun:=⟨10,.seq (.ops [oJ 1 0,oK 2 (.bool false)]) (.seq (.ops [oP 3 3 1,oC 4 77 [3],oM 5 4,oG 5 false (oF 6 0 1),oG 5 false (oL 7 6),oG 5 false (oI 8 .eql 7 (.int .i64 1)),oU 9 5 8,oA 2 9]) .ret),[.move (.tmp 2)]⟩
theorem Do : ai Tryz.prog 90 = some NV := by kernel_rfl
def C0:XFun:=⟨20,.seq (.ops [oJ 3 1,oK 4 .nilIface]) (.seq (.seq (.ops [oM 5 0,oX 6 (.nilCheck (.tmp 5)),oF 7 3 6,oL 8 7,oI 9 .eql 8 (.int .u8 69),oM 10 9,oG 10 true (oF 11 0 3),oG 10 true (oL 12 11),oG 10 true (oC 13 76 [12]),oG 10 true (oC 14 134 [13]),oG 10 true (oV 15 14),oT 16 10 15]) (.cond (.tmp 16) (.seq (.ops [oC 17 176 [],oX 18 (.build pJ [(0,1,.const (.string (ah [50,53,80,48,50]))),(1,1,.tmp 17)]),oX 19 (.mkI 90 (.tmp 18)),oA 4 19]) .ret) .skip)) (.seq (.ops [oK 4 .nilIface]) .ret)),[.move (.tmp 4)]⟩
theorem OV : ai Tryz.prog 147 = some C0 := by kernel_rfl
end Go.Proofs.YtknohkmpficjgaaGreatDoor.Ax
namespace Go.Proofs.YtknohkmpficjgaaGreatDoor.Ax
open Go.RowKit Go By
set_option maxRecDepth 10000
abbrev Er := Option (List UInt8 × List UInt8)
def pK : Er -> AV
 | none => .v .nilIface
 | some x => .ifc 90 (.agg [.v (.string (ah x.1)), .v (.string (ah x.2))])
@[simp] theorem KF : pK none = .v .nilIface := of_eq_true (eq_self _)
@[simp] theorem AL (c t : List UInt8) : pK (some (c, t)) = .ifc 90 (.agg [.v (.string (ah c)), .v (.string (ah t))]) := of_eq_true (eq_self _)
theorem gS (o : Er) : (pK o).idOf = none := by cases o <;> rfl
@[simp] theorem Jp (t : TypeId) (a : AV) : (AV.ifc t a).unown = AV.ifc t a := of_eq_true (eq_self _)
@[simp] theorem Oq (t : TypeId) (a : AV) : (AV.ifc t a).idOf = none := of_eq_true (eq_self _)
@[simp] theorem Jk (o : Er) : (pK o).unown = pK o := by cases o <;> rfl
theorem gT (n : Nat) (o : Er) : (pK o).lt n := by cases o <;> simp [pK]
def PL (d : Vd) : Er := if d.is = true then some (d.code, d.text) else none
def gG (t : List UInt8) : Vb := ej (fm t)
def jy (k : Int) : Bool := decide (k = 3 \/ k = 4)
def eh (k : Int) : Bool := decide (k = 5 \/ k = 6 \/ k = 7)
theorem AW (v : Vb) : [3, 4].contains v.kind = jy v.kind := by
 unfold jy
 rw [Rb]; simp
theorem BH (v : Vb) : [5, 6, 7].contains v.kind = eh v.kind := by
 unfold eh
 rw [Rb]; simp
theorem sB (v : Vb) (h : List (List AV)) : ae Tryz.prog 134 [.agg (ea v)] h (.v (.bool (jy v.kind))) h [] := by
 have := xD v h
 rwa [AW] at this
theorem nk (v : Vb) (h : List (List AV)) : ae Tryz.prog 77 [.agg (ea v)] h (.v (.bool (eh v.kind))) h [] := by
 have := xE v h
 rwa [BH] at this
section
variable {L : List (Nat × List AV)} {h : List (List AV)} {i : Nat} {Z : Zs}
def fV (Z : Zs) (s : List UInt8) : Er := PL (verdict (Z.T.no s) (gG s) Z.status)
theorem pm (g : SsG L h i Z) (s : List UInt8) (hs : s.length <= 100000) : ae Tryz.prog 75 [.box i 0, .v (.string (ah s))] h (pK (fV Z s)) h [] := by
 have h1 := g.top
 have hv := vy g.eng s (by omega) Z.status
 refine ac QX mixed (by simp [NL]) fun hh hargs => ?_
 simp [NL, h1, Zs.top_mk]
 refine aa (by simp) hv ?_
 unfold fV gG
 generalize verdict (Z.T.no s) (ej (fm s)) Z.status = d
 cases hd : d.is <;> simp [Eo, hd, PL, hh]
def ed (Z : Zs) (s : Sx) : Er := if Z.status = 69 /\ jy (gG s.text).kind = false then some (L3, L4) else none
theorem ra (g : SsG L h i Z) (s : Sx) (hs : s.text.length <= 100000) : ae Tryz.prog 147 [.box i 0, .agg (eC s)] h (pK (ed Z s)) h [] := by
 have e1 : ∀ xs, (h ++ xs)[i]? = some Z.top := fun xs => by rw [Q7 g.i_lt]; exact g.top
 have hq := fun H => iV s.text (by omega) H
 refine ac OV mixed (by simp [C0]) fun hh hargs => ?_
 unfold ed
 by_cases s69 : Z.status = 69
 ·simp [C0, e1, Zs.top_mk, s69, eC]
  refine aa (by simp) (hq _) ?_
  simp
  refine aa (by simp) (sB _ _) ?_
  cases he : jy (gG s.text).kind with
  | true =>
   have he' : jy (ej (fm s.text)).kind = true := he
   simp [he', hh, af]
  | false =>
   have he' : jy (ej (fm s.text)).kind = false := he
   simp [he']
   refine aa (by simp) (nF _) ?_
   simp [hh, af, L3]
 ·have s69' : (Z.status == 69) = false := by simpa using s69
  simp [C0, e1, Zs.top_mk, s69, s69', eC, hh, af]
def ER : List UInt8 := [50, 54, 48, 48, 48]
def dk (Z : Zs) (k : List UInt8) : Sx × Er := match Z.get k with
 | none => (⟨[], []⟩, some (ER, Bd k))
 | some s => (s, ed Z s)
def Short (Z : Zs) : Prop := ∀ x ∈ Z.st, x.val.text.length <= 100000 /\ x.val.oids.length <= 1000
theorem Short.get (hz : Short Z) {k : List UInt8} {s : Sx} (hg : Z.get k = some s) : s.text.length <= 100000 /\ s.oids.length <= 1000 := by
 obtain ⟨x, hx, _, rfl⟩ := cx hg
 exact hz x hx
theorem xW (g : SsG L h i Z) (hz : Short Z) (k : List UInt8) (hk : k.length <= 100000) : ae Tryz.prog 85 [.box i 0, .v (.string (ah k))] h (.tup [.agg (eC (dk Z k).1), pK (dk Z k).2]) h [] := by
 have e1 : ∀ xs, (h ++ xs)[i]? = some Z.top := fun xs => by rw [Q7 g.i_lt]; exact g.top
 have e2 : ∀ xs, (h ++ xs)[Z.a]? = some Z.cells := fun xs => by rw [Q7 g.a_lt]; exact g.ents
 have h3 := Z.of_cells
 have h4 := Z.keys
 have h5 := Z.found k
 refine ac Q2 mixed (by simp [Mh]) fun hh hargs => ?_
 unfold dk
 cases hg : Z.get k with
 | none =>
  rw [hg] at h5
  simp only at h5
  simp [Mh, e1, Zs.top_mk, e2, h3, h4, h5, lF]
  refine aa (by simp) (Eh k hk _) ?_
  simp [hh, af, eC, ER]
 | some s =>
  rw [hg] at h5
  simp only at h5
  have hun : (eC s).map AV.unown = eC s := rfl
  have htk : List.take 2 (eC s) = eC s := rfl
  have hln : (eC s).length = 2 := rfl
  have g2 : SsG [] (h ++ [[AV.v (.string (ah [])), .sl 0 [] (some true) .exact], eC s]) i Z := by
   have := (g.none.app (c := [AV.v (.string (ah [])), .sl 0 [] (some true) .exact]) (by simp) (by simp)).app (c := eC s) (wH _ s) (lY s)
   simpa using this.none
  have ha := ra g2 s (hz.get hg).1
  simp [Mh, e1, Zs.top_mk, e2, h3, h4, h5, hun, htk, hln]
  refine aa (by simp) ha ?_
  have hid := gS (ed Z s)
  have hl := gT h.length (ed Z s)
  simp [hh, af, hid, hl, hun, htk, hln, wH]
end
def pB (k : Int) : Bk := ⟨k, 0, [], [], [], 0, 0, [], [], [], []⟩
def pU (s : Sx) : Bk := if eh (gG s.text).kind = true then ⟨84, 0, [], [], [], 0, 0, [], er (dt (th (gG s.text) s.oids.length)).toNat, [], []⟩ else pB 110
theorem sA (s : Sx) (hs : s.text.length <= 100000) (h : List (List AV)) : ae Tryz.prog 79 [.agg (eC s)] h (.agg (aU (pU s))) h [] := by
 have hq := fun H => iV s.text (by omega) H
 have hv : ej (fm s.text) = gG s.text := rfl
 rw [hv] at hq
 refine ac Q0 mixed (by simp [NO]) fun hh hargs => ?_
 unfold pU
 simp [NO, eC]
 refine aa (by simp) (hq _) ?_
 simp
 refine aa (by simp) (nk _ _) ?_
 cases hr : eh (gG s.text).kind with
 | false => simp [hh, af, aB, pB]
 | true =>
  simp
  refine aa (by simp) (DL _ _ _) ?_
  simp
  refine aa (by simp) (Dq _ _) ?_
  simp [hh, af]
def mX (l : List Cl) : Bk := ⟨68, 0, [], [], [], 0, 0, [], [], l, []⟩
def Lw (n : Nat) : Bk := ⟨67, 0, [83, 69, 76, 69, 67, 84, 32] ++ Dg.textL (n : Int), [], [], 0, 0, [], [], [], []⟩
def AI (n : Nat) (more : Bool) : Bk := if more = true then pB 115 else Lw n
def cC (rows : List (List Cl)) (more : Bool) : List Bk := rows.map mX ++ [AI rows.length more]
theorem sF (rows : List (List Cl)) (more : Bool) (hl : rows.length <= 1000000) (hr : ∀ r ∈ rows, r.length <= 1000000 /\ ∀ c ∈ r, c.2.length <= 140737488351232) (h : List (List AV)) :
  ae Tryz.prog 80 [.sl 1 (al bl rows) none .no, .v (.bool more)] h (.sl 11 (al aU (cC rows more)) none (.own .res)) h [] := by
 refine ac GR mixed (by simp [NP]) fun hh hargs => ?_
 simp [NP]
 refine ar (D := Nat) (fun j => ⟨[(0, .sl 1 (al bl rows) none .no), (1, .v (.bool more)), (8, .sl 1 (al bl rows) none .no), (9, .v (.int .i64 (rows.length : Int))), (10, .v (.int .i64 j))], [(5, .sl 11 (al aU ((rows.take j).map mX)) none (.own (.slot 5)))], h, []⟩) (fun j => j <= rows.length) (fun j => rows.length - j) 0 (by simp) ?_ ?_
 ·simp [Leq, hh]
 ·intro j hj
  by_cases hlt : j < rows.length
  ·have hw : IntKind.i64.wrap ((j : Int) + 1) = (j : Int) + 1 := wrap64 (by omega) (by omega)
   obtain ⟨f1, f2⟩ := hr _ (List.getElem_mem hlt)
   have hnext : al aU ((rows.map mX).take (j + 1)) = al aU ((rows.map mX).take j) ++ [aU ⟨68, 0, [], [], [], 0, 0, [], [], rows[j], []⟩] := by
    rw [List.take_succ_eq_append_getElem (by simpa using hlt)]
    simp [al, mX]
   simp [hlt, lk]
   refine aa (by simp) (Dt rows[j] f1 f2 _) ?_
   simp [hw]
   refine ⟨by omega, by omega, j + 1, by omega, by omega, ?_⟩
   simp [Leq, hh, hnext]
  ·have : j = rows.length := by omega
   subst this
   cases more with
   | true =>
    simp [cC, AI, pB, aB, hh]
    omega
   | false =>
    simp
    refine aa (by simp) (GY _ (by omega) (by omega) _) ?_
    simp [cC, AI, Lw, aB, hh]
    omega
section
variable {L : List (Nat × List AV)} {h : List (List AV)} {i : Nat} {Z : Zs}
def EW : List UInt8 := [51, 52, 48, 48, 48]
def gC (Z : Zs) (k : List UInt8) : Pt × Er := match Z.S.get k with
 | none => (L2, some (EW, Bs k))
 | some x => (x.p, ed Z ⟨x.p.text, x.p.oids⟩)
def uX (Z : Zs) : Prop := ∀ x ∈ Z.S.e, x.val.p.text.length <= 100000
def z6 : List AV := [.v (.string (ah [])), .sl 0 [] (some true) .exact, .sl 0 [] (some true) .exact, .sl 0 [] (some true) .exact, .v (.bool false), .v (.bool false)]
theorem xQ (g : SsG L h i Z) (ho : PsOk Z.S) (hz : uX Z) (k : List UInt8) (hk : k.length <= 100000) : ae Tryz.prog 89 [.box i 0, .v (.string (ah k))] h (.tup [.agg (cZ (gC Z k).1), pK (gC Z k).2]) h [] := by
 have e1 : ∀ xs, (h ++ xs)[i]? = some Z.top := fun xs => by rw [Q7 g.i_lt]; exact g.top
 have hr' := g.por.app [z6] (by simp [z6])
 unfold z6 at hr'
 refine ac Q4 mixed (by simp [Mi]) fun hh hargs => ?_
 unfold gC
 cases hg : Z.S.get k with
 | none =>
  have hp := Hb hr' hg
  simp [Mi, e1, Zs.top_mk]
  refine aa (by simp) hp ?_
  simp [cZ, aT, L2]
  refine aa (by simp) (Ei k hk _) ?_
  simp [hh, af, EW]
 | some x =>
  obtain ⟨y, hy, _, rfl⟩ := cx hg
  have hp := Hc hr' ho hg
  have g2 : SsG [] (h ++ [[AV.v (.string (ah [])), .sl 0 [] (some true) .exact, .sl 0 [] (some true) .exact, .sl 0 [] (some true) .exact, .v (.bool false), .v (.bool false)], cZ y.val.p]) i Z := by
   have := (g.none.app (c := z6) (by simp [z6]) (by simp [z6])).app (c := cZ y.val.p) (wc (by simp)) (kq rfl)
   simpa [z6] using this.none
  have ha := ra g2 ⟨y.val.p.text, y.val.p.oids⟩ (hz y hy)
  have hid := gS (ed Z ⟨y.val.p.text, y.val.p.oids⟩)
  have hl := gT h.length (ed Z ⟨y.val.p.text, y.val.p.oids⟩)
  simp only [cZ, aT, eC] at hp ha g2 ⊢
  simp [Mi, e1, Zs.top_mk]
  refine aa (by simp) hp ?_
  simp
  refine aa (by simp) ha ?_
  simp [hh, af, hid, hl]
def jP (f : Fm) : List Bk := if f.what = 83 \/ f.what = 80 then [pB 51] else []
def nA (Z : Zs) (f : Fm) : Zs := if f.what = 83 then Z.del f.name else if f.what = 80 then { Z with S := Z.S.del f.portal } else Z
theorem Zs.del_cells (Z : Zs) (k : List UInt8) : aJ Z.clock (AEnt.del (.string (ah k)) (Z.st.map (KE.ent eC))) = (Z.del k).cells := by rw [KE.del_eq]; rfl
theorem BP (g : SsG [] h i Z) (f : Fm) : DoesS 47 [.box i 0, .agg (aG f)] h i Z (fun _ v => v = .sl 11 (al aU (jP f)) none .no) (nA Z f) := by
 have e1 : ∀ xs, (h ++ xs)[i]? = some Z.top := fun xs => by rw [Q7 g.i_lt]; exact g.top
 have e2 : ∀ xs, (h ++ xs)[Z.a]? = some Z.cells := fun xs => by rw [Q7 g.a_lt]; exact g.ents
 have e3 : ∀ xs cs, (h ++ xs).set Z.a cs = h.set Z.a cs ++ xs := fun xs cs => Q8 _ _ g.a_lt
 have h3 := Z.of_cells
 have h4 := Z.keys
 unfold nA jP
 by_cases w83 : f.what = 83
 ·have hd := Z.del_cells f.name
  have hl := (Z.del f.name).lt h.length
  have hll := ay (i := Z.a) g.hh hl
  rw [if_pos w83, if_pos (.inl w83)]
  refine ⟨h.set Z.a (Z.del f.name).cells, [Z.a], _, ?_, rfl, g.setEnts _ _, fun q hq _ => by rw [Ra.1 hq]; exact Zs.vars_mem.2 (.inr (.inl (by simp [Zs.own]))), by simp, fun q hq hn => Q9 fun e => hn (by rw [<- e]; exact Zs.vars_mem.2 (.inr (.inl (by simp [Zs.own])))), fun q hq => .inl hq⟩
  refine ac Px mixed (by simp [Gz]) fun hh hargs => ?_
  simp [Gz, w83, e1, Zs.top_mk, e2, h3, h4, hd, e3, hll, af, aB, pB, aY]
 ·rw [if_neg w83]
  have w83' : (f.what == 83) = false := by simpa using w83
  by_cases w80 : f.what = 80
  ·rw [if_pos w80, if_pos (.inr w80)]
   have g1 := g.app (c := aG f) (by simp) (by simp [aF])
   obtain ⟨h', wr, k, g', ht, hl, hw, hs, hv⟩ := g1.byP (Bn g1.por f.portal)
   have hlen : h.length <= h'.length := by simp at hl; omega
   have hmem : ∀ q ∈ wr, q < h.length -> q ∈ Z.S.vars := fun q hq hlt => hw q hq (by simp; omega)
   refine ⟨h', wr, _, ?_, rfl, g'.none, fun q hq hlt => Zs.vars_mem.2 (.inr (.inr (hmem q hq hlt))), hlen, fun q hq hn => ?_, fun q hq => ?_⟩
   ·refine ac Px mixed (by simp [Gz]) fun hh hargs => ?_
    have hgh := g'.hh
    simp [Gz, w83, w83', w80, e1, Zs.top_mk]
    refine aa (by simp) k ?_
    obtain ⟨o1, _⟩ := g1.off hw
    have o2 := ht (h.length, aG f) (by simp)
    dsimp only at o2
    simp [hgh, af, aB, pB, o1, o2, hlen]
    exact fun q hq _ => hq
   ·rw [hs q (by simp; omega) fun hh => hn (Zs.vars_mem.2 (.inr (.inr hh))), Q7 hq]
   ·rcases Zs.vars_mem.1 hq with hq | hq | hq
    ·exact .inl (Zs.vars_mem.2 (.inl hq))
    ·exact .inl (Zs.vars_mem.2 (.inr (.inl hq)))
    ·rcases hv q hq with h1 | h1
     ·exact .inl (Zs.vars_mem.2 (.inr (.inr h1)))
     ·right; simp at h1; omega
  ·rw [if_neg w80, if_neg (by rintro (e | e); exact w83 e; exact w80 e)]
   have w80' : (f.what == 80) = false := by simpa using w80
   refine ⟨h, [], _, ?_, rfl, g, (fun q hq => by cases hq), Nat.le_refl _, (fun _ _ _ => rfl), (fun q hq => .inl hq)⟩
   refine ac Px mixed (by simp [Gz]) fun hh hargs => ?_
   simp [Gz, w83, w83', w80, w80', hh, af]
def rU : List UInt8 := [52, 50, 80, 48, 53]
def parse1 (Z : Zs) (f : Fm) : Zs := if f.name = [] then Z.del [] else Z
def oc (Z : Zs) (f : Fm) : Er := match fV Z f.text with
 | some e => some e
 | none => if ((parse1 Z f).get f.name).isSome = true then some (rU, rV f.name) else none
def ki (Z : Zs) (f : Fm) : Zs := match fV Z f.text with
 | some _ => parse1 Z f
 | none => if ((parse1 Z f).get f.name).isSome = true then parse1 Z f else (parse1 Z f).put f.name ⟨f.text, f.oids⟩
theorem tZ (Z : Zs) (f : Fm) (s : List UInt8) : fV (parse1 Z f) s = fV Z s := by unfold parse1; split <;> rfl
def au (M : List Bk) (o : Er) : AV := .tup [if o.isSome = true then .sl 0 [] (some true) .exact else .sl 11 (al aU M) none .no, pK o]
theorem wF (M : List Bk) : au M none = .tup [.sl 11 (al aU M) none .no, .v .nilIface] := rfl
theorem wG (M : List Bk) (c t : List UInt8) : au M (some (c, t)) = .tup [.sl 0 [] (some true) .exact, .ifc 90 (.agg [.v (.string (ah c)), .v (.string (ah t))])] := rfl
theorem Zs.put_cells {Z : Zs} (ho : KE.Ok Z.clock Z.st) (k : List UInt8) (s : Sx) : aJ (AEnt.put (.string (ah k)) Z.clock (eC s) (Z.st.map (KE.ent eC))).2 (AEnt.put (.string (ah k)) Z.clock (eC s) (Z.st.map (KE.ent eC))).1 = (Z.put k s).cells := by
 rw [KE.put_eq eC ho k s]; rfl
theorem uA (g : SsG [] h i Z) (ho : KE.Ok Z.clock Z.st) (f : Fm) (hn : f.name.length <= 100000) (ht : f.text.length <= 100000) (hoi : f.oids.length <= 1000000) : DoesS 43 [.box i 0, .agg (aG f)] h i Z (fun _ v => v = au [pB 49] (oc Z f)) (ki Z f) := by
 have e1 : ∀ xs, (h ++ xs)[i]? = some Z.top := fun xs => by rw [Q7 g.i_lt]; exact g.top
 have e2 : ∀ xs, (h ++ xs)[Z.a]? = some Z.cells := fun xs => by rw [Q7 g.a_lt]; exact g.ents
 have e3 : ∀ xs cs, (h ++ xs).set Z.a cs = h.set Z.a cs ++ xs := fun xs cs => Q8 _ _ g.a_lt
 have n3 := g.nd4.2.2.1
 have na := g.na
 have ni := g.ni
 have Y : ∃ Y, Y = parse1 Z f := ⟨_, rfl⟩
 obtain ⟨Y, hY⟩ := Y
 have hYa : Y.a = Z.a := by rw [hY]; unfold parse1; split <;> rfl
 have hYo : KE.Ok Y.clock Y.st := by rw [hY]; unfold parse1; split
                                     ·exact KE.del_ok ho _
                                     ·exact ho
 have hYt : Y.top = Z.top := by rw [hY]; unfold parse1; split <;> rfl
 have hYv : ∀ i, Y.vars i = Z.vars i := fun i => by rw [hY]; unfold parse1; split <;> rfl
 have gY : SsG [] (h.set Z.a Y.cells) i Y := by
  rw [hY]; unfold parse1
  split
  ·exact g.setEnts _ _
  ·have : h.set Z.a Z.cells = h := ux g.ents
   rw [this]; exact g
 have gYf : SsG [] (h.set Z.a Y.cells ++ [aG f]) i Y := (gY.app (c := aG f) (by simp) (by simp [aF])).none
 have hv := pm gYf f.text ht
 rw [hY, tZ, <- hY] at hv
 have f1 : ∀ xs, (h.set Z.a Y.cells ++ xs)[i]? = some Z.top := fun xs => by rw [Q7 gY.i_lt, <- hYt]; exact gY.top
 have f2 : ∀ xs, (h.set Z.a Y.cells ++ xs)[Z.a]? = some Y.cells := fun xs => by rw [Q7 (by simpa using g.a_lt)]; exact List.getElem?_set_self g.a_lt
 have f3 : ∀ xs cs, (h.set Z.a Y.cells ++ xs).set Z.a cs = h.set Z.a cs ++ xs := fun xs cs => by rw [Q8 _ _ (by simpa using g.a_lt), Rc]
 have q3 := Y.of_cells
 have q4 := Y.keys
 have q5 := Y.found f.name
 have fin : ∀ (o : Er) (Z' : Zs), (∃ c l, Z' = { Y with clock := c, st := l }) -> ae Tryz.prog 43 [.box i 0, .agg (aG f)] h (au [pB 49] o) (h.set Z.a Z'.cells) [Z.a] -> DoesS 43 [.box i 0, .agg (aG f)] h i Z (fun _ v => v = au [pB 49] o) Z' := fun o Z' hz k => by
  obtain ⟨c, l, rfl⟩ := hz
  have gg := gY.setEnts c l
  have e : ∀ X, (h.set Z.a Y.cells).set Y.a X = h.set Z.a X := fun X => by rw [hYa, Rc]
  rw [e] at gg
  refine ⟨_, [Z.a], _, k, rfl, gg, fun q hq _ => by rw [Ra.1 hq]; exact Zs.vars_mem.2 (.inr (.inl (by simp [Zs.own]))), by simp, fun q hq hn => Q9 fun e => hn (by rw [<- e]; exact Zs.vars_mem.2 (.inr (.inl (by simp [Zs.own])))), fun q hq => .inl ?_⟩
  rw [<- hYv]; exact hq
 have hwalk : ∀ (o : Er) (Z' : Zs), (∃ c l, Z' = { Y with clock := c, st := l }) ->
   (match fV Z f.text with
    | some e => o = some e /\ Z' = Y
    | none => match Y.get f.name with
     | some _ => o = some (rU, rV f.name) /\ Z' = Y
     | none => o = none /\ Z' = Y.put f.name ⟨f.text, f.oids⟩) -> ae Tryz.prog 43 [.box i 0, .agg (aG f)] h (au [pB 49] o) (h.set Z.a Z'.cells) [Z.a] := fun o Z' hz hres => by
  have hll := ay (i := Z.a) g.hh (Z'.lt h.length)
  refine ac QE mixed (by simp [Mb]) fun hh hargs => ?_
  have tail : ∀ (K : Prop), K -> K := fun K hk => hk
  by_cases h0 : f.name = []
  ·have hd := Z.del_cells []
   have hYd : Y = Z.del [] := by rw [hY]; unfold parse1; rw [if_pos h0]
   rw [<- hYd] at hd
   have h3 := Z.of_cells
   have h4 := Z.keys
   simp [Mb, h0, e1, Zs.top_mk, e2, h3, h4, hd, e3]
   refine aa (by simp) hv ?_
   cases hvd : fV Z f.text with
   | some e =>
    rw [hvd] at hres
    obtain ⟨rfl, rfl⟩ := hres
    obtain ⟨c, t⟩ := e
    simp [au, hll, af, aY]
   | none =>
    rw [hvd] at hres
    simp only at hres
    cases hg : Y.get f.name with
    | some s =>
     rw [hg] at hres q5
     obtain ⟨rfl, rfl⟩ := hres
     simp only [h0, eC] at q5
     simp [f1, Zs.top_mk, f2, na, ni, q3, q4, q5, h0]
     refine aa (by simp) (uE [] (by simp) _) ?_
     simp [au, hll, af, aY, rU, h0]
    | none =>
     rw [hg] at hres q5
     obtain ⟨rfl, rfl⟩ := hres
     simp only [h0] at q5
     have hput := Zs.put_cells hYo f.name ⟨f.text, f.oids⟩
     simp only [eC, h0] at hput hll
     simp [f1, Zs.top_mk, f2, na, ni, q3, q4, q5, h0, lF]
     refine aa (by simp) (cH [] (by simp) _) ?_
     simp
     refine aa (by simp) (cH f.text (by omega) _) ?_
     simp
     refine aa (by simp) (iO f.oids hoi _) ?_
     simp [f1, f2, q3, q4, hput, f3, au, hll, af, aY, pB, aB]
  ·have h0' : (f.name == []) = false := by simpa using h0
   have hYd : Y = Z := by rw [hY]; unfold parse1; rw [if_neg h0]
   have hsame : h.set Z.a Y.cells = h := by rw [hYd]; exact ux g.ents
   rw [hsame] at hv f1 f2 f3
   simp [Mb, h0, h0']
   refine aa (by simp) hv ?_
   cases hvd : fV Z f.text with
   | some e =>
    rw [hvd] at hres
    obtain ⟨rfl, rfl⟩ := hres
    obtain ⟨c, t⟩ := e
    simp [au, hh, hsame, af, aY]
   | none =>
    rw [hvd] at hres
    simp only at hres
    cases hg : Y.get f.name with
    | some s =>
     rw [hg] at hres q5
     obtain ⟨rfl, rfl⟩ := hres
     simp only [eC] at q5
     simp [f1, Zs.top_mk, f2, na, ni, q3, q4, q5]
     refine aa (by simp) (uE f.name hn _) ?_
     simp [au, hh, hsame, af, aY, rU]
    | none =>
     rw [hg] at hres q5
     obtain ⟨rfl, rfl⟩ := hres
     simp only at q5
     have hput := Zs.put_cells hYo f.name ⟨f.text, f.oids⟩
     simp only [eC] at hput
     simp [f1, Zs.top_mk, f2, na, ni, q3, q4, q5, lF]
     refine aa (by simp) (cH f.name (by omega) _) ?_
     simp
     refine aa (by simp) (cH f.text (by omega) _) ?_
     simp
     refine aa (by simp) (iO f.oids hoi _) ?_
     simp [f1, f2, q3, q4, hput, f3, au, hll, af, aY, pB, aB]
 unfold oc ki
 rw [<- hY]
 cases hvd : fV Z f.text with
 | some e => exact fin _ _ ⟨Y.clock, Y.st, rfl⟩ (hwalk _ _ ⟨Y.clock, Y.st, rfl⟩ (by rw [hvd]; exact ⟨rfl, rfl⟩))
 | none =>
  cases hg : Y.get f.name with
  | some s => exact fin _ _ ⟨Y.clock, Y.st, rfl⟩ (hwalk _ _ ⟨Y.clock, Y.st, rfl⟩ (by rw [hvd]; simp only [hg]; exact ⟨rfl, rfl⟩))
  | none => exact fin _ _ ⟨_, _, rfl⟩ (hwalk _ _ ⟨_, _, rfl⟩ (by rw [hvd]; simp only [hg]; exact ⟨rfl, rfl⟩))
end
end Go.Proofs.YtknohkmpficjgaaGreatDoor.Ax
