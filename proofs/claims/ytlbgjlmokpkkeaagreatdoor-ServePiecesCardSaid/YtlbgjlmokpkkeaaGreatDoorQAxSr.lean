import Derived.Test.YtlbgjlmokpkkeaaGreatDoorQAxSw
import Derived.Test.YtlbgjlmokpkkeaaGreatDoorQAxTe
import Derived.Test.YtlbgjlmokpkkeaaGreatDoorQAxKc
open List renaming getElem?_append_left -> aaa, set_append_left -> aab, getElem?_set_ne -> aac, mem_singleton -> aad, set_set -> aaf
open Bool renaming eq_iff_iff -> aae
set_option linter.all false
set_option maxRecDepth 10000
namespace Go.Proofs.YtlbgjlmokpkkeaaGreatDoor
namespace Ax
open Go.RowKit Go By
def VJ:XFun:=⟨8,.seq (.ops [oK 2 (.pointer none)]) (.seq (.ops [oM 3 0,oX 4 (.makeMap 2 false),oC 5 52 [],oX 6 (.build [.v (.pointer none),.v (.map none),.v (.pointer none),.v (.int .u8 0),.v (.bool false),.v (.bool false)] [(0,1,.tmp 3),(1,1,.tmp 4),(2,1,.tmp 5),(3,1,.const (.int .u8 73))]),oJ 7 6,oA 2 7]) .ret),[.move (.tmp 2)]⟩
theorem Zz:aj Tryz.prog 34=some VJ:=by kernel_rfl
def zT:XFun:=⟨49,.seq (.ops [oJ 3 1,oN 4]) (.seq (.seq (.ops [oM 7 0,oF 8 0 3,oL 9 8,oC 10 70 [7,9],oV 11 10]) (.cond (.tmp 11) (.seq (.ops [oN 4]) .ret) .skip)) (.seq (.seq (.ops [oF 12 0 3,oL 13 12]) (.block 0 (.seq (.ops [oI 15 .eql 13 (.int .u8 83),oA 14 15]) (.cond (.tmp 14) (.seq (.ops [oM 16 0,oX 17 (.nilCheck (.tmp 16)),oF 18 4 17,oQ 1 18 (.bool false)]) (.seq (.ops [oM 19 0,oC 20 71 [19],oR 21 11 1 20 bZ,oA 4 21]) .ret)) (.seq (.ops [oI 23 .eql 13 (.int .u8 88),oA 22 23]) (.cond (.tmp 22) (.seq (.ops [oM 24 0,oX 25 (.nilCheck (.tmp 24)),oF 26 5 25,oQ 1 26 (.bool true)]) (.seq (.ops [oN 4]) .ret)) (.seq (.ops [oI 28 .eql 13 (.int .u8 81),oA 27 28]) (.cond (.tmp 27) (.seq (.ops [oM 29 0,oF 30 4 3,oL 31 30,oC 32 72 [29,31],oA 4 32]) .ret) .skip)))))))) (.seq (.ops [oM 34 0,oP 35 10 3,oC 36 73 [34,35],oM 33 36,oE 37 33 0,oE 38 33 1,oA 5 37,oA 6 38]) (.seq (.ops [oM 39 0,oM 40 6,oX 41 (.inileq true (.tmp 40)),oX 42 (.nilCheck (.tmp 39)),oF 43 4 42,oS 1 43 41]) (.seq (.ops [oM 44 5,oM 45 0,oM 46 6,oC 47 74 [45,46],oX 48 (.append 11 168 (.tmp 44) (.tmp 47)),oA 4 48]) .ret))))),[.move (.tmp 4)]⟩
theorem OC:aj Tryz.prog 46=some zT:=by kernel_rfl
def QG:XFun:=⟨32,.seq (.ops [oK 4 (.bool false)]) (.seq (.block 0 (.seq (.ops [oM 6 0,oX 7 (.pnileq false (.tmp 6)),oM 8 7,oG 8 false (oM 9 0),oG 8 false (oX 10 (.nilCheck (.tmp 9))),oG 8 false (oF 11 0 10),oG 8 false (oL 12 11),oG 8 false (oX 13 (.pnileq false (.tmp 12))),oU 14 8 13,oM 15 14,oG 15 false (oM 16 0),oG 15 false (oX 17 (.nilCheck (.tmp 16))),oG 15 false (oF 18 5 17),oG 15 false (oL 19 18),oU 20 15 19,oA 5 20]) (.cond (.tmp 5) (.seq (.ops [oK 4 (.bool false)]) .ret) (.seq (.ops [oM 22 0,oX 23 (.nilCheck (.tmp 22)),oF 24 4 23,oL 25 24,oA 21 25]) (.cond (.tmp 21) (.seq (.ops [oM 26 1,oI 27 .eql 26 (.int .u8 83),oM 28 27,oG 28 false (oM 29 1),oG 28 false (oI 30 .eql 29 (.int .u8 88)),oU 31 28 30,oA 4 31]) .ret) .skip))))) (.seq (.ops [oK 4 (.bool true)]) .ret)),[.move (.tmp 4)]⟩
theorem ZY:aj Tryz.prog 70=some QG:=by kernel_rfl
def Si:XFun:=⟨18,.seq (.ops [oZ 2 bZ]) (.seq (.seq (.ops [oM 3 0,oX 4 (.nilCheck (.tmp 3)),oF 5 3 4,oL 6 5,oI 7 .eql 6 (.int .u8 73)]) (.cond (.tmp 7) (.ops [oM 8 0,oX 9 (.nilCheck (.tmp 8)),oF 10 2 9,oL 11 10,oC 12 92 [11]]) .skip)) (.seq (.ops [oM 13 0,oX 14 (.nilCheck (.tmp 13)),oF 15 3 14,oL 16 15,oX 17 (.build bZ [(0,1,.const (.int .u8 90)),(1,1,.tmp 16)]),oS 11 2 17]) .ret)),[.loadN 11 (.tmp 2)]⟩
theorem Y7:aj Tryz.prog 71=some Si:=by kernel_rfl
def N8:XFun:=⟨32,.seq (.ops [oN 4]) (.seq (.ops [oM 7 0,oX 8 (.nilCheck (.tmp 7)),oF 9 1 8,oL 10 9,⟨none,.mapDel none 2 false (.tmp 10) (.const (.string (af []))),none⟩]) (.seq (.ops [oM 11 0,oX 12 (.nilCheck (.tmp 11)),oF 13 2 12,oL 14 13,oX 15 (.call 93 [.tmp 14,.const (.string (af []))])]) (.seq (.ops [oM 17 0,oM 18 1,oC 19 94 [17,18],oM 16 19,oE 20 16 0,oE 21 16 1,oA 5 20,oA 6 21]) (.seq (.ops [oM 22 5,oM 23 0,oM 24 6,oC 25 74 [23,24],oX 26 (.append 11 168 (.tmp 22) (.tmp 25)),oA 5 26]) (.seq (.ops [oM 27 5,oM 28 0,oC 29 71 [28],oR 30 11 1 29 bZ,oX 31 (.append 11 168 (.tmp 27) (.tmp 30)),oA 4 31]) .ret))))),[.move (.tmp 4)]⟩
theorem Yy:aj Tryz.prog 72=some N8:=by kernel_rfl
def Dx:XFun:=⟨44,.seq (.ops [oJ 3 1,oN 4,oK 5 .nilIface]) (.seq (.seq (.ops [oF 6 0 3,oL 7 6]) (.block 0 (.seq (.ops [oI 9 .eql 7 (.int .u8 80),oA 8 9]) (.cond (.tmp 8) (.seq (.ops [oM 10 0,oP 11 10 3,oC 12 95 [10,11],oE 13 12 0,oE 14 12 1,oA 4 13,oA 5 14]) .ret) (.seq (.ops [oI 16 .eql 7 (.int .u8 66),oA 15 16]) (.cond (.tmp 15) (.seq (.ops [oM 17 0,oP 18 10 3,oC 19 96 [17,18],oE 20 19 0,oE 21 19 1,oA 4 20,oA 5 21]) .ret) (.seq (.ops [oI 23 .eql 7 (.int .u8 68),oA 22 23]) (.cond (.tmp 22) (.seq (.ops [oM 24 0,oP 25 10 3,oC 26 97 [24,25],oE 27 26 0,oE 28 26 1,oA 4 27,oA 5 28]) .ret) (.seq (.ops [oI 30 .eql 7 (.int .u8 69),oA 29 30]) (.cond (.tmp 29) (.seq (.ops [oM 31 0,oF 32 3 3,oL 33 32,oF 34 9 3,oL 35 34,oC 36 98 [31,33,35],oE 37 36 0,oE 38 36 1,oA 4 37,oA 5 38]) .ret) (.seq (.ops [oI 40 .eql 7 (.int .u8 67),oA 39 40]) (.cond (.tmp 39) (.seq (.ops [oM 41 0,oP 42 10 3,oC 43 99 [41,42],oA 4 43,oK 5 .nilIface]) .ret) .skip)))))))))))) (.seq (.ops [oN 4,oK 5 .nilIface]) .ret)),[.move (.tmp 4),.move (.tmp 5)]⟩
theorem QY:aj Tryz.prog 73=some Dx:=by kernel_rfl
def N9:XFun:=⟨34,.seq (.ops [oN 4]) (.seq (.ops [oZ 5 jX]) (.seq (.seq (.ops [oM 6 1,oX 7 (.mkI 177 (.tmp 5)),oC 8 100 [6,7],oV 9 8]) (.cond (.tmp 9) (.seq (.ops [oN 4]) .ret) .skip)) (.seq (.ops [oM 10 0,oM 11 0,oX 12 (.nilCheck (.tmp 11)),oF 13 3 12,oL 14 13,oC 15 101 [14],oX 16 (.nilCheck (.tmp 10)),oF 17 3 16,oS 1 17 15]) (.seq (.seq (.ops [oM 18 0,oX 19 (.nilCheck (.tmp 18)),oF 20 3 19,oL 21 20,oI 22 .eql 21 (.int .u8 69)]) (.cond (.tmp 22) (.ops [oM 23 0,oX 24 (.nilCheck (.tmp 23)),oF 25 2 24,oL 26 25,oC 27 92 [26]]) .skip)) (.seq (.ops [oF 28 0 5,oL 29 28,oF 30 1 5,oL 31 30,oC 32 102 [29,31],oR 33 11 1 32 bZ,oA 4 33]) .ret))))),[.move (.tmp 4)]⟩
theorem Yz:aj Tryz.prog 74=some N9:=by kernel_rfl
def Oa:XFun:=⟨36,.seq (.ops [oN 4,oK 5 .nilIface]) (.seq (.seq (.ops [oM 8 0,oM 9 1,oC 10 128 [8,9],oA 6 10]) (.seq (.ops [oM 11 6,oX 12 (.inileq true (.tmp 11))]) (.cond (.tmp 12) (.seq (.ops [oM 13 6,oN 4,oA 5 13]) .ret) .skip))) (.seq (.ops [oM 14 1,oC 15 129 [14],oZ 7 nv,oS 3 7 15]) (.seq (.seq (.ops [oP 16 3 7,oC 17 130 [16],oV 18 17]) (.cond (.tmp 18) (.seq (.ops [oM 19 0,oP 20 3 7,oC 21 131 [19,20],oE 22 21 0,oE 23 21 1,oA 4 22,oA 5 23]) .ret) .skip)) (.seq (.draws (.take (oM 24 1) (.take (oD 25 0 qJ 24) (.take (oM 28 0) (.take (oX 29 (.nilCheck (.tmp 28))) (.take (oF 30 0 29) (.take (oL 31 30) (.take (oP 32 3 7) (.only (oC 26 132 [25]) (.two (oR 27 11 1 26 bZ) (oX 33 (.call 134 [.tmp 31,.tmp 32,.const (.slice none 0 0)])) (.only (oX 33 (.call 134 [.tmp 31,.tmp 32,.const (.slice none 0 0)])) (.only (oX 34 (.call 133 [.tmp 33,.const (.bool false)])) (.only (oX 35 (.append 11 168 (.tmp 27) (.tmp 34))) (.take (oA 4 35) (.take (oK 5 .nilIface) .done))))) (.two (oR 27 11 1 26 bZ) (oX 34 (.call 133 [.tmp 33,.const (.bool false)])) (.only (oX 34 (.call 133 [.tmp 33,.const (.bool false)])) (.only (oX 35 (.append 11 168 (.tmp 27) (.tmp 34))) (.take (oA 4 35) (.take (oK 5 .nilIface) .done)))) (.only (oR 27 11 1 26 bZ) (.only (oX 35 (.append 11 168 (.tmp 27) (.tmp 34))) (.take (oA 4 35) (.take (oK 5 .nilIface) .done))))))))))))))) .ret)))),[.move (.tmp 4),.move (.tmp 5)]⟩
theorem YA:aj Tryz.prog 94=some Oa:=by kernel_rfl
def Um:XFun:=⟨55,.seq (.ops [oJ 3 1,oN 4,oK 5 .nilIface]) (.seq (.seq (.ops [oF 9 2 3,oL 10 9,oI 11 .eql 10 (.string (af []))]) (.cond (.tmp 11) (.ops [oM 12 0,oX 13 (.nilCheck (.tmp 12)),oF 14 1 13,oL 15 14,⟨none,.mapDel none 2 false (.tmp 15) (.const (.string (af []))),none⟩]) .skip)) (.seq (.seq (.ops [oM 16 0,oF 17 4 3,oL 18 17,oC 19 128 [16,18],oA 6 19]) (.seq (.ops [oM 20 6,oX 21 (.inileq true (.tmp 20))]) (.cond (.tmp 21) (.seq (.ops [oM 22 6,oN 4,oA 5 22]) .ret) .skip))) (.seq (.seq (.draws (.take (oM 24 0) (.take (oX 25 (.nilCheck (.tmp 24))) (.take (oF 26 1 25) (.take (oL 27 26) (.take (oF 28 2 3) (.take (oL 29 28) (.take (oX 30 (.lookup none 2 false true qJ (.tmp 27) (.tmp 29))) (.take (oM 23 30) (.take (oE 31 23 0) (.take (oE 32 23 1) (.only (oZ 7 qJ) (.only (oS 2 7 31) (.take (oA 8 32) .done)))))))))))))) (.seq (.ops [oM 33 8]) (.cond (.tmp 33) (.seq (.ops [oF 34 2 3,oL 35 34,oC 36 135 [35],oX 37 (.build jX [(0,1,.const (.string (af [52,50,80,48,53]))),(1,1,.tmp 36)]),oX 38 (.mkI 175 (.tmp 37)),oN 4,oA 5 38]) .ret) .skip))) (.seq (.draws (.take (oM 39 0) (.take (oX 40 (.nilCheck (.tmp 39))) (.take (oF 41 1 40) (.take (oL 42 41) (.take (oF 43 2 3) (.take (oL 44 43) (.take (oF 46 4 3) (.take (oL 47 46) (.take (oF 49 5 3) (.take (oL 50 49) (.only (oC 45 53 [44]) (.only (oC 48 53 [47]) (.only (oC 51 136 [50]) (.take (oX 52 (.build qJ [(0,1,.tmp 48),(1,1,.tmp 51)])) (.last ⟨none,.mapUpd none 2 false (.tmp 42) (.tmp 45) (.tmp 52),none⟩)))))))))))))))) (.seq (.ops [oX 53 (.build bZ [(0,1,.const (.int .u8 49))]),oR 54 11 1 53 bZ,oA 4 54,oK 5 .nilIface]) .ret))))),[.move (.tmp 4),.move (.tmp 5)]⟩
theorem k95:aj Tryz.prog 95=some Um:=by kernel_rfl
def JU:XFun:=⟨58,.seq (.ops [oJ 3 1,oN 4,oK 5 .nilIface]) (.seq (.ops [oM 9 0,oF 10 2 3,oL 11 10,oC 12 137 [9,11],oM 8 12,oE 13 8 0,oE 14 8 1,oZ 6 qJ,oS 2 6 13,oA 7 14]) (.seq (.block 0 (.seq (.ops [oM 16 7,oX 17 (.inileq true (.tmp 16)),oA 15 17]) (.cond (.tmp 15) (.seq (.ops [oM 18 7,oN 4,oA 5 18]) .ret) (.seq (.ops [oF 20 8 3,oL 21 20,oH 22 21,oF 23 1 6,oL 24 23,oH 25 24,oB 26 .neq 22 25,oA 19 26]) (.cond (.tmp 19) (.seq (.ops [oF 27 8 3,oL 28 27,oH 29 28,oF 30 2 3,oL 31 30,oF 32 1 6,oL 33 32,oH 34 33,oC 35 138 [29,31,34],oX 36 (.build jX [(0,1,.const (.string (af [48,56,80,48,49]))),(1,1,.tmp 35)]),oX 37 (.mkI 175 (.tmp 36)),oN 4,oA 5 37]) .ret) (.seq (.draws (.take (oM 39 0) (.take (oX 40 (.nilCheck (.tmp 39))) (.take (oF 41 2 40) (.take (oL 42 41) (.take (oF 43 3 3) (.take (oL 44 43) (.take (oP 45 2 6) (.take (oF 46 8 3) (.take (oL 47 46) (.take (oX 48 (.build tE [(0,2,.tmp 45),(2,1,.tmp 47)])) (.only (oC 49 139 [42,44,48]) (.take (oI 50 .neq 49 (.int .i64 0)) (.take (oA 38 50) .done)))))))))))))) (.cond (.tmp 38) (.seq (.ops [oF 51 3 3,oL 52 51,oC 53 140 [52],oX 54 (.build jX [(0,1,.const (.string (af [52,50,80,48,51]))),(1,1,.tmp 53)]),oX 55 (.mkI 175 (.tmp 54)),oN 4,oA 5 55]) .ret) .skip))))))) (.seq (.ops [oX 56 (.build bZ [(0,1,.const (.int .u8 50))]),oR 57 11 1 56 bZ,oA 4 57,oK 5 .nilIface]) .ret))),[.move (.tmp 4),.move (.tmp 5)]⟩
theorem UC:aj Tryz.prog 96=some JU:=by kernel_rfl
def Sk:XFun:=⟨47,.seq (.ops [oJ 3 1,oN 4,oK 5 .nilIface]) (.seq (.seq (.ops [oF 10 1 3,oL 11 10]) (.block 0 (.seq (.ops [oI 13 .eql 11 (.int .u8 83),oA 12 13]) (.cond (.tmp 12) (.seq (.ops [oM 15 0,oF 16 2 3,oL 17 16,oC 18 137 [15,17],oM 14 18,oE 19 14 0,oE 20 14 1,oZ 6 qJ,oS 2 6 19,oA 7 20]) (.seq (.seq (.ops [oM 21 7,oX 22 (.inileq true (.tmp 21))]) (.cond (.tmp 22) (.seq (.ops [oM 23 7,oN 4,oA 5 23]) .ret) .skip)) (.seq (.draws (.take (oF 24 1 6) (.take (oL 25 24) (.take (oP 28 2 6) (.only (oC 26 136 [25]) (.take (oX 27 (.build bZ [(0,1,.const (.int .u8 116)),(7,1,.tmp 26)])) (.only (oC 29 132 [28]) (.only (oX 30 (.buildSlice 11 2 bZ [(0,.tmp 27),(1,.tmp 29)])) (.take (oA 4 30) (.take (oK 5 .nilIface) .done)))))))))) .ret))) (.seq (.ops [oI 32 .eql 11 (.int .u8 80),oA 31 32]) (.cond (.tmp 31) (.seq (.ops [oM 34 0,oF 35 3 3,oL 36 35,oC 37 141 [34,36],oM 33 37,oE 38 33 0,oE 39 33 1,oZ 8 tE,oS 6 8 38,oA 9 39]) (.seq (.seq (.ops [oM 40 9,oX 41 (.inileq true (.tmp 40))]) (.cond (.tmp 41) (.seq (.ops [oM 42 9,oN 4,oA 5 42]) .ret) .skip)) (.seq (.ops [oF 43 0 8,oP 44 2 43,oC 45 132 [44],oR 46 11 1 45 bZ,oA 4 46,oK 5 .nilIface]) .ret))) .skip)))))) (.seq (.ops [oN 4,oK 5 .nilIface]) .ret)),[.move (.tmp 4),.move (.tmp 5)]⟩
theorem k97:aj Tryz.prog 97=some Sk:=by kernel_rfl
def Dy:XFun:=⟨73,.seq (.ops [oN 6,oK 7 .nilIface]) (.seq (.ops [oM 14 0,oM 15 1,oC 16 141 [14,15],oM 13 16,oE 17 13 0,oE 18 13 1,oZ 8 tE,oS 6 8 17,oA 9 18]) (.seq (.seq (.ops [oM 19 9,oX 20 (.inileq true (.tmp 19))]) (.cond (.tmp 20) (.seq (.ops [oM 21 9,oN 6,oA 7 21]) .ret) .skip)) (.seq (.ops [oF 22 0 8,oF 23 0 22,oL 24 23,oC 25 129 [24],oZ 10 nv,oS 3 10 25]) (.seq (.seq (.ops [oF 26 4 8,oL 27 26,oM 28 27,oG 28 true (oP 29 3 10),oG 28 true (oC 30 142 [29]),oG 28 true (oV 31 30),oT 32 28 31]) (.cond (.tmp 32) (.seq (.ops [oX 33 (.build jX [(0,1,.const (.string (af [53,53,48,48,48]))),(1,1,.const (.string (af [112,111,114,116,97,108,32,99,97,110,110,111,116,32,98,101,32,114,117,110])))]),oX 34 (.mkI 175 (.tmp 33)),oN 6,oA 7 34]) .ret) .skip)) (.seq (.seq (.ops [oF 35 4 8,oL 36 35,oV 37 36]) (.cond (.tmp 37) (.draws (.take (oM 38 0) (.take (oX 39 (.nilCheck (.tmp 38))) (.take (oF 40 2 39) (.take (oL 41 40) (.take (oM 42 1) (.take (oM 43 0) (.take (oX 44 (.nilCheck (.tmp 43))) (.take (oF 45 0 44) (.take (oL 46 45) (.take (oP 47 3 10) (.take (oF 48 2 8) (.take (oL 49 48) (.only (oC 50 134 [46,47,49]) (.last (oC 51 143 [41,42,50])))))))))))))))) .skip)) (.seq (.seq (.ops [oP 52 3 10,oC 53 130 [52],oV 54 53]) (.cond (.tmp 54) (.seq (.ops [oM 55 0,oP 56 3 10,oC 57 131 [55,56],oE 58 57 0,oE 59 57 1,oA 6 58,oA 7 59]) .ret) .skip)) (.seq (.ops [oM 61 0,oX 62 (.nilCheck (.tmp 61)),oF 63 2 62,oL 64 63,oM 65 1,oM 66 2,oC 67 144 [64,65,66],oM 60 67,oE 68 60 0,oE 69 60 1,oA 11 68,oA 12 69]) (.seq (.ops [oM 70 11,oM 71 12,oC 72 133 [70,71],oA 6 72,oK 7 .nilIface]) .ret)))))))),[.move (.tmp 6),.move (.tmp 7)]⟩
theorem QZ:aj Tryz.prog 98=some Dy:=by kernel_rfl
def Ob:XFun:=⟨26,.seq (.ops [oJ 3 1,oN 4]) (.seq (.seq (.ops [oF 5 1 3,oL 6 5]) (.block 0 (.seq (.ops [oI 8 .eql 6 (.int .u8 83),oA 7 8]) (.cond (.tmp 7) (.draws (.take (oM 9 0) (.take (oX 10 (.nilCheck (.tmp 9))) (.take (oF 11 1 10) (.take (oL 12 11) (.take (oF 13 2 3) (.take (oL 14 13) (.last ⟨none,.mapDel none 2 false (.tmp 12) (.tmp 14),none⟩)))))))) (.seq (.ops [oI 16 .eql 6 (.int .u8 80),oA 15 16]) (.cond (.tmp 15) (.draws (.take (oM 17 0) (.take (oX 18 (.nilCheck (.tmp 17))) (.take (oF 19 2 18) (.take (oL 20 19) (.take (oF 21 3 3) (.take (oL 22 21) (.last (oC 23 93 [20,22]))))))))) (.seq (.ops [oN 4]) .ret))))))) (.seq (.ops [oX 24 (.build bZ [(0,1,.const (.int .u8 51))]),oR 25 11 1 24 bZ,oA 4 25]) .ret)),[.move (.tmp 4)]⟩
theorem YB:aj Tryz.prog 99=some Ob:=by kernel_rfl
def Nf:XFun:=⟨27,.seq (.ops [oK 4 .nilIface]) (.seq (.seq (.draws (.take (oM 9 0) (.take (oX 10 (.nilCheck (.tmp 9))) (.take (oF 11 0 10) (.take (oL 12 11) (.take (oM 13 1) (.take (oM 14 0) (.take (oX 15 (.nilCheck (.tmp 14))) (.take (oF 16 3 15) (.take (oL 17 16) (.only (oC 18 176 [12,13,17]) (.take (oM 8 18) (.take (oE 19 8 0) (.take (oE 20 8 1) (.take (oE 21 8 2) (.take (oA 5 19) (.take (oA 6 20) (.take (oA 7 21) .done)))))))))))))))))) (.seq (.ops [oM 22 7]) (.cond (.tmp 22) (.seq (.ops [oM 23 5,oM 24 6,oX 25 (.build jX [(0,1,.tmp 23),(1,1,.tmp 24)]),oX 26 (.mkI 175 (.tmp 25)),oA 4 26]) .ret) .skip))) (.seq (.ops [oK 4 .nilIface]) .ret)),[.move (.tmp 4)]⟩
theorem Xg:aj Tryz.prog 128=some Nf:=by kernel_rfl
def vX:XFun:=⟨43,.seq (.ops [oJ 3 1,oN 4,oK 5 .nilIface]) (.seq (.seq (.ops [oF 8 0 3,oL 9 8]) (.block 0 (.seq (.ops [oI 11 .eql 9 (.int .i64 1),oA 10 11]) (.cond (.tmp 10) (.seq (.ops [oX 12 (.build bZ [(0,1,.const (.int .u8 73))]),oR 13 11 1 12 bZ,oA 4 13,oK 5 .nilIface]) .ret) (.seq (.ops [oI 15 .eql 9 (.int .i64 8),oA 14 15]) (.cond (.tmp 14) (.seq (.draws (.take (oF 16 2 3) (.take (oL 17 16) (.take (oX 18 (.build jX [(0,1,.tmp 17),(1,1,.const (.string (af [102,97,105,108,101,100,32,111,110,32,112,117,114,112,111,115,101])))])) (.take (oX 19 (.mkI 175 (.tmp 18))) (.take (oN 4) (.take (oA 5 19) .done))))))) .ret) .skip)))))) (.seq (.draws (.take (oM 21 0) (.take (oX 22 (.nilCheck (.tmp 21))) (.take (oF 23 3 22) (.take (oL 24 23) (.take (oP 25 3 3) (.only (oC 26 183 [24,25]) (.take (oM 20 26) (.take (oE 27 20 0) (.take (oE 28 20 1) (.take (oA 6 27) (.take (oA 7 28) .done)))))))))))) (.seq (.ops [oM 29 0,oM 30 6,oX 31 (.nilCheck (.tmp 29)),oF 32 3 31,oS 1 32 30]) (.seq (.seq (.ops [oP 33 3 3,oC 34 184 [33]]) (.cond (.tmp 34) (.ops [oM 35 0,oX 36 (.nilCheck (.tmp 35)),oF 37 2 36,oL 38 37,oC 39 92 [38]]) .skip)) (.seq (.ops [oM 40 7,oX 41 (.build bZ [(0,1,.const (.int .u8 67)),(2,1,.tmp 40)]),oR 42 11 1 41 bZ,oA 4 42,oK 5 .nilIface]) .ret))))),[.move (.tmp 4),.move (.tmp 5)]⟩
theorem Kh:aj Tryz.prog 131=some vX:=by kernel_rfl
def Ni:XFun:=⟨17,.seq (.ops [oJ 1 0,oZ 2 bZ]) (.seq (.ops [oF 4 0 1,oL 5 4,oC 6 129 [5],oZ 3 nv,oS 3 3 6]) (.seq (.seq (.ops [oP 7 3 3,oC 8 130 [7],oV 9 8]) (.cond (.tmp 9) (.seq (.ops [oX 10 (.build bZ [(0,1,.const (.int .u8 110))]),oS 11 2 10]) .ret) .skip)) (.seq (.ops [oP 11 3 3,oF 12 1 1,oL 13 12,oH 14 13,oC 15 186 [11,14],oC 16 185 [15],oS 11 2 16]) .ret))),[.loadN 11 (.tmp 2)]⟩
theorem Xj:aj Tryz.prog 132=some Ni:=by kernel_rfl
def Nj:XFun:=⟨32,.seq (.ops [oN 4]) (.seq (.ops [oN 5]) (.seq (.seq (.ops [oM 8 0,oH 9 8,oX 10 (.move (.const (.int .i64 0)))]) (.block 0 (.loop (.seq (.ops [oB 11 .lss 10 9]) (.seq (.cond (.tmp 11) .skip (.exit 0)) (.seq (.block 1 (.seq (.ops [oW 12 1 8 10,oL 13 12,oA 7 13]) (.ops [oM 14 5,oM 15 7,oC 16 187 [15],oR 17 11 1 16 bZ,oX 18 (.append 11 168 (.tmp 14) (.tmp 17)),oA 5 18]))) (.ops [oI 19 .add 10 (.int .i64 1),oM 10 19]))))))) (.seq (.seq (.ops [oM 20 1]) (.cond (.tmp 20) (.seq (.ops [oM 21 5,oX 22 (.build bZ [(0,1,.const (.int .u8 115))]),oR 23 11 1 22 bZ,oX 24 (.append 11 168 (.tmp 21) (.tmp 23)),oA 4 24]) .ret) .skip)) (.seq (.ops [oM 25 5,oM 26 0,oH 27 26,oC 28 188 [27],oX 29 (.build bZ [(0,1,.const (.int .u8 67)),(2,1,.tmp 28)]),oR 30 11 1 29 bZ,oX 31 (.append 11 168 (.tmp 25) (.tmp 30)),oA 4 31]) .ret)))),[.move (.tmp 4)]⟩
theorem Xk:aj Tryz.prog 133=some Nj:=by kernel_rfl
def JG:XFun:=⟨28,.seq (.ops [oZ 4 qJ,oK 5 .nilIface]) (.seq (.ops [oM 9 0,oX 10 (.nilCheck (.tmp 9)),oF 11 1 10,oL 12 11,oM 13 1,oX 14 (.lookup none 2 false true qJ (.tmp 12) (.tmp 13)),oM 8 14,oE 15 8 0,oE 16 8 1,oZ 6 qJ,oS 2 6 15,oA 7 16]) (.seq (.seq (.ops [oM 17 7,oV 18 17]) (.cond (.tmp 18) (.seq (.ops [oX 19 (.build qJ []),oM 20 1,oC 21 195 [20],oX 22 (.build jX [(0,1,.const (.string (af [50,54,48,48,48]))),(1,1,.tmp 21)]),oX 23 (.mkI 175 (.tmp 22)),oS 2 4 19,oA 5 23]) .ret) .skip)) (.seq (.draws (.take (oP 24 2 6) (.take (oM 25 0) (.take (oP 26 2 6) (.only (oC 27 196 [25,26]) (.only (oS 2 4 24) (.take (oA 5 27) .done))))))) .ret))),[.loadN 2 (.tmp 4),.move (.tmp 5)]⟩
theorem Xn:aj Tryz.prog 137=some JG:=by kernel_rfl
def JH:XFun:=⟨29,.seq (.ops [oZ 4 tE,oK 5 .nilIface]) (.seq (.ops [oM 9 0,oX 10 (.nilCheck (.tmp 9)),oF 11 2 10,oL 12 11,oM 13 1,oC 14 200 [12,13],oM 8 14,oE 15 8 0,oE 16 8 1,oZ 6 tE,oS 6 6 15,oA 7 16]) (.seq (.seq (.ops [oM 17 7,oV 18 17]) (.cond (.tmp 18) (.seq (.ops [oX 19 (.build tE []),oM 20 1,oC 21 201 [20],oX 22 (.build jX [(0,1,.const (.string (af [51,52,48,48,48]))),(1,1,.tmp 21)]),oX 23 (.mkI 175 (.tmp 22)),oS 6 4 19,oA 5 23]) .ret) .skip)) (.seq (.draws (.take (oP 24 6 6) (.take (oM 25 0) (.take (oF 26 0 6) (.take (oP 27 2 26) (.only (oC 28 196 [25,27]) (.only (oS 6 4 24) (.take (oA 5 28) .done)))))))) .ret))),[.loadN 6 (.tmp 4),.move (.tmp 5)]⟩
theorem Xq:aj Tryz.prog 141=some JH:=by kernel_rfl
def Np:XFun:=⟨10,.seq (.ops [oJ 1 0,oK 2 (.bool false)]) (.seq (.ops [oP 3 3 1,oC 4 130 [3],oM 5 4,oG 5 false (oF 6 0 1),oG 5 false (oL 7 6),oG 5 false (oI 8 .eql 7 (.int .i64 1)),oU 9 5 8,oA 2 9]) .ret),[.move (.tmp 2)]⟩
theorem Xr:aj Tryz.prog 142=some Np:=by kernel_rfl
def JO:XFun:=⟨20,.seq (.ops [oJ 3 1,oK 4 .nilIface]) (.seq (.seq (.ops [oM 5 0,oX 6 (.nilCheck (.tmp 5)),oF 7 3 6,oL 8 7,oI 9 .eql 8 (.int .u8 69),oM 10 9,oG 10 true (oF 11 0 3),oG 10 true (oL 12 11),oG 10 true (oC 13 129 [12]),oG 10 true (oC 14 184 [13]),oG 10 true (oV 15 14),oT 16 10 15]) (.cond (.tmp 16) (.seq (.ops [oC 17 217 [],oX 18 (.build jX [(0,1,.const (.string (af [50,53,80,48,50]))),(1,1,.tmp 17)]),oX 19 (.mkI 175 (.tmp 18)),oA 4 19]) .ret) .skip)) (.seq (.ops [oK 4 .nilIface]) .ret)),[.move (.tmp 4)]⟩
theorem X3:aj Tryz.prog 196=some JO:=by kernel_rfl
end Ax
namespace Ax
open Go.RowKit Go By
abbrev Er:=Option (d5×d5)
def tG:Er -> AV
 | none=>.v .nilIface
 | some x=>.ifc 175 (.agg [.v (.string (af x.1)),.v (.string (af x.2))])
@[simp] theorem Su:tG none=.v .nilIface:=of_eq_true (eq_self _)
@[simp] theorem Gd(c t:d5):tG (some (c,t))=.ifc 175 (.agg [.v (.string (af c)),.v (.string (af t))]):=of_eq_true (eq_self _)
theorem jA(o:Er):(tG o).idOf=none:=by cases o<;>rfl
@[simp] theorem QW(t:TypeId)(a:AV):(AV.ifc t a).unown=AV.ifc t a:=of_eq_true (eq_self _)
@[simp] theorem WK(t:TypeId)(a:AV):(AV.ifc t a).idOf=none:=of_eq_true (eq_self _)
@[simp] theorem QQ(o:Er):(tG o).unown=tG o:=by cases o<;>rfl
theorem jB(n:Nat)(o:Er):(tG o).lt n:=by cases o<;>simp[tG]
def UT(d:Vd):Er:=if d.is=true then some (d.code,d.text) else none
def ct(t:d5):Vb:=fz (gL t)
def fH(k:Int):Bool:=decide (k=3 \/ k=4)
def cJ(k:Int):Bool:=decide (k=5 \/ k=6 \/ k=7)
theorem Gp(v:Vb):[3,4].contains v.kind=fH v.kind:=by
 unfold fH
 rw[aae];simp
theorem Hz(v:Vb):[5,6,7].contains v.kind=cJ v.kind:=by
 unfold cJ
 rw[aae];simp
theorem wW(v:Vb)(h:d4):ae Tryz.prog 184 [.agg (fC v)] h (.v (.bool (fH v.kind))) h []:=by
 have:=CN v h
 rwa [Gp] at this
theorem qZ(v:Vb)(h:d4):ae Tryz.prog 130 [.agg (fC v)] h (.v (.bool (cJ v.kind))) h []:=by
 have:=CO v h
 rwa [Hz] at this
section
variable {L:List (Nat×List AV)} {h:d4} {i:Nat} {Z:Zs}
def jl(Z:Zs)(s:d5):Er:=UT (verdict (Z.T.no s) (ct s) Z.status)
theorem tc(g:SsG L h i Z)(s:d5)(hs:s.length <= 100000):ae Tryz.prog 128 [.box i 0,.v (.string (af s))] h (tG (jl Z s)) h []:=by
 have h1:=g.top
 have hv:=Au g.eng s (by omega) Z.status
 refine ac Xg mixed (by simp[Nf]) fun hh hargs=>?_
 simp[Nf,h1,Zs.top_mk]
 refine aa (by simp) hv ?_
 unfold jl ct
 generalize verdict (Z.T.no s) (fz (gL s)) Z.status=d
 cases hd:d.is<;>simp[Lq,hd,UT,hh]
def js(Z:Zs)(s:Sx):Er:=if Z.status=69 /\ fH (ct s.text).kind=false then some (RZ,R8) else none
theorem vo(g:SsG L h i Z)(s:Sx)(hs:s.text.length <= 100000):ae Tryz.prog 196 [.box i 0,.agg (iL s)] h (tG (js Z s)) h []:=by
 have e1:∀ xs,(h++xs)[i]?=some Z.top:=fun xs=>by rw[aaa g.i_lt];exact g.top
 have hq:=fun H=>lh s.text (by omega) H
 refine ac X3 mixed (by simp[JO]) fun hh hargs=>?_
 unfold js
 by_cases s69:Z.status=69
 ·simp[JO,e1,Zs.top_mk,s69,iL]
  refine aa (by simp) (hq _) ?_
  simp
  refine aa (by simp) (wW _ _) ?_
  cases he:fH (ct s.text).kind with
  | true =>
   have he':fH (fz (gL s.text)).kind=true:=he
   simp[he',hh,ag]
  | false =>
   have he':fH (fz (gL s.text)).kind=false:=he
   simp[he']
   refine aa (by simp) (rN _) ?_
   simp[hh,ag,RZ]
 ·have s69':(Z.status==69)=false:=by simpa using s69
  simp[JO,e1,Zs.top_mk,s69,s69',iL,hh,ag]
def GP:d5:=[50,54,48,48,48]
def eH(Z:Zs)(k:d5):Sx×Er:=match Z.get k with
 | none=>(⟨[],[]⟩,some (GP,uP k))
 | some s=>(s,js Z s)
def Short(Z:Zs):Prop:=∀ x∈Z.st,x.val.text.length <= 100000 /\ x.val.oids.length <= 1000
theorem Short.get(hz:Short Z){k:d5}{s:Sx}(hg:Z.get k=some s):s.text.length <= 100000 /\ s.oids.length <= 1000:=by
 obtain⟨x,hx,_,rfl⟩:=dl hg
 exact hz x hx
theorem C2(g:SsG L h i Z)(hz:Short Z)(k:d5)(hk:k.length <= 100000):ae Tryz.prog 137 [.box i 0,.v (.string (af k))] h (.tup [.agg (iL (eH Z k).1),tG (eH Z k).2]) h []:=by
 have e1:∀ xs,(h++xs)[i]?=some Z.top:=fun xs=>by rw[aaa g.i_lt];exact g.top
 have e2:∀ xs,(h++xs)[Z.a]?=some Z.cells:=fun xs=>by rw[aaa g.a_lt];exact g.ents
 have h3:=Z.of_cells
 have h4:=Z.keys
 have h5:=Z.found k
 refine ac Xn mixed (by simp[JG]) fun hh hargs=>?_
 unfold eH
 cases hg:Z.get k with
 | none =>
  rw[hg] at h5
  simp only at h5
  simp[JG,e1,Zs.top_mk,e2,h3,h4,h5,qM]
  refine aa (by simp) (Lh k hk _) ?_
  simp[hh,ag,iL,GP]
 | some s =>
  rw[hg] at h5
  simp only at h5
  have hun:(iL s).map AV.unown=iL s:=rfl
  have htk:List.take 2 (iL s)=iL s:=rfl
  have hln:(iL s).length=2:=rfl
  have g2:SsG [] (h++[[AV.v (.string (af [])),.sl 0 [] (some true) .exact],iL s]) i Z:=by
   have:=(g.none.app (c:=[AV.v (.string (af [])),.sl 0 [] (some true) .exact]) (by simp) (by simp)).app (c:=iL s) (BG _ s) (pJ s)
   simpa using this.none
  have ha:=vo g2 s (hz.get hg).1
  simp[JG,e1,Zs.top_mk,e2,h3,h4,h5,hun,htk,hln]
  refine aa (by simp) ha ?_
  have hid:=jA (js Z s)
  have hl:=jB h.length (js Z s)
  simp[hh,ag,hid,hl,hun,htk,hln,BG]
end
def pB(k:Int):Bk:=⟨k,0,[],[],[],0,0,[],[],[],[]⟩
def lV(s:Sx):Bk:=if cJ (ct s.text).kind=true then⟨84,0,[],[],[],0,0,[],dD (dt (xN (ct s.text) s.oids.length)).toNat,[],[]⟩ else pB 110
theorem wV(s:Sx)(hs:s.text.length <= 100000)(h:d4):ae Tryz.prog 132 [.agg (iL s)] h (.agg (bh (lV s))) h []:=by
 have hq:=fun H=>lh s.text (by omega) H
 have hv:fz (gL s.text)=ct s.text:=rfl
 rw[hv] at hq
 refine ac Xj mixed (by simp[Ni]) fun hh hargs=>?_
 unfold lV
 simp[Ni,iL]
 refine aa (by simp) (hq _) ?_
 simp
 refine aa (by simp) (qZ _ _) ?_
 cases hr:cJ (ct s.text).kind with
 | false=>simp[hh,ag,aV,pB]
 | true =>
  simp
  refine aa (by simp) (KL _ _ _) ?_
  simp
  refine aa (by simp) (Kl _ _) ?_
  simp[hh,ag]
def jg(l:List Cl):Bk:=⟨68,0,[],[],[],0,0,[],[],l,[]⟩
def TD(n:Nat):Bk:=⟨67,0,[83,69,76,69,67,84,32]++Dg.textL (n:Int),[],[],0,0,[],[],[],[]⟩
def Am(n:Nat)(more:Bool):Bk:=if more=true then pB 115 else TD n
def cr(rows:List (List Cl))(more:Bool):List Bk:=rows.map jg++[Am rows.length more]
theorem xb(rows:List (List Cl))(more:Bool)(hl:rows.length <= 1000000)(hr:∀ r∈rows,r.length <= 1000000 /\ ∀ c∈r,c.2.length <= 140737488351232)(h:d4):
  ae Tryz.prog 133 [.sl 1 (am bN rows) none .no,.v (.bool more)] h (.sl 11 (am bh (cr rows more)) none (.own .res)) h []:=by
 refine ac Xk mixed (by simp[Nj]) fun hh hargs=>?_
 simp[Nj]
 refine ap (D:=Nat) (fun j=>⟨[(0,.sl 1 (am bN rows) none .no),(1,.v (.bool more)),(8,.sl 1 (am bN rows) none .no),(9,.v (.int .i64 (rows.length:Int))),(10,.v (.int .i64 j))],[(5,.sl 11 (am bh ((rows.take j).map jg)) none (.own (.slot 5)))],h,[]⟩) (fun j=>j <= rows.length) (fun j=>rows.length-j) 0 (by simp) ?_ ?_
 ·simp[Leq,hh]
 ·intro j hj
  by_cases hlt:j<rows.length
  ·have hw:IntKind.i64.wrap ((j:Int)+1)=(j:Int)+1:=wrap64 (by omega) (by omega)
   obtain⟨f1,f2⟩:=hr _ (List.getElem_mem hlt)
   have hnext:am bh ((rows.map jg).take (j+1))=am bh ((rows.map jg).take j)++[bh ⟨68,0,[],[],[],0,0,[],[],rows[j],[]⟩]:=by
    rw[List.take_succ_eq_append_getElem (by simpa using hlt)]
    simp[am,jg]
   simp[hlt,oc]
   refine aa (by simp) (Ko rows[j] f1 f2 _) ?_
   simp[hw]
   refine⟨by omega,by omega,j+1,by omega,by omega,?_⟩
   simp[Leq,hh,hnext]
  ·have:j=rows.length:=by omega
   subst this
   cases more with
   | true =>
    simp[cr,Am,pB,aV,hh]
    omega
   | false =>
    simp
    refine aa (by simp) (OK _ (by omega) (by omega) _) ?_
    simp[cr,Am,TD,aV,hh]
    omega
section
variable {L:List (Nat×List AV)} {h:d4} {i:Nat} {Z:Zs}
def Ha:d5:=[51,52,48,48,48]
def fJ(Z:Zs)(k:d5):Pt×Er:=match Z.S.get k with
 | none=>(Jj,some (Ha,vd k))
 | some x=>(x.p,js Z ⟨x.p.text,x.p.oids⟩)
def zL(Z:Zs):Prop:=∀ x∈Z.S.e,x.val.p.text.length <= 100000
def z6:List AV:=[.v (.string (af [])),.sl 0 [] (some true) .exact,.sl 0 [] (some true) .exact,.sl 0 [] (some true) .exact,.v (.bool false),.v (.bool false)]
theorem C1(g:SsG L h i Z)(ho:PsOk Z.S)(hz:zL Z)(k:d5)(hk:k.length <= 100000):ae Tryz.prog 141 [.box i 0,.v (.string (af k))] h (.tup [.agg (er (fJ Z k).1),tG (fJ Z k).2]) h []:=by
 have e1:∀ xs,(h++xs)[i]?=some Z.top:=fun xs=>by rw[aaa g.i_lt];exact g.top
 have hr':=g.por.app [z6] (by simp[z6])
 unfold z6 at hr'
 refine ac Xq mixed (by simp[JH]) fun hh hargs=>?_
 unfold fJ
 cases hg:Z.S.get k with
 | none =>
  have hp:=O0 hr' hg
  simp[JH,e1,Zs.top_mk]
  refine aa (by simp) hp ?_
  simp[er,bv,Jj]
  refine aa (by simp) (Li k hk _) ?_
  simp[hh,ag,Ha]
 | some x =>
  obtain⟨y,hy,_,rfl⟩:=dl hg
  have hp:=O1 hr' ho hg
  have g2:SsG [] (h++[[AV.v (.string (af [])),.sl 0 [] (some true) .exact,.sl 0 [] (some true) .exact,.sl 0 [] (some true) .exact,.v (.bool false),.v (.bool false)],er y.val.p]) i Z:=by
   have:=(g.none.app (c:=z6) (by simp[z6]) (by simp[z6])).app (c:=er y.val.p) (Ba (by simp)) (mZ rfl)
   simpa[z6] using this.none
  have ha:=vo g2 ⟨y.val.p.text,y.val.p.oids⟩ (hz y hy)
  have hid:=jA (js Z ⟨y.val.p.text,y.val.p.oids⟩)
  have hl:=jB h.length (js Z ⟨y.val.p.text,y.val.p.oids⟩)
  simp only[er,bv,iL] at hp ha g2 ⊢
  simp[JH,e1,Zs.top_mk]
  refine aa (by simp) hp ?_
  simp
  refine aa (by simp) ha ?_
  simp[hh,ag,hid,hl]
def iF(f:Fm):List Bk:=if f.what=83 \/ f.what=80 then[pB 51] else[]
def mJ(Z:Zs)(f:Fm):Zs:=if f.what=83 then Z.del f.name else if f.what=80 then { Z with S:=Z.S.del f.portal } else Z
theorem Zs.del_cells(Z:Zs)(k:d5):bc Z.clock (AEnt.del (.string (af k)) (Z.st.map (KE.ent iL)))=(Z.del k).cells:=by rw[KE.del_eq];rfl
theorem H7(g:SsG [] h i Z)(f:Fm):DoesS 99 [.box i 0,.agg (aJ f)] h i Z (fun _ v=>v=.sl 11 (am bh (iF f)) none .no) (mJ Z f):=by
 have e1:∀ xs,(h++xs)[i]?=some Z.top:=fun xs=>by rw[aaa g.i_lt];exact g.top
 have e2:∀ xs,(h++xs)[Z.a]?=some Z.cells:=fun xs=>by rw[aaa g.a_lt];exact g.ents
 have e3:∀ xs cs,(h++xs).set Z.a cs=h.set Z.a cs++xs:=fun xs cs=>aab _ _ g.a_lt
 have h3:=Z.of_cells
 have h4:=Z.keys
 unfold mJ iF
 by_cases w83:f.what=83
 ·have hd:=Z.del_cells f.name
  have hl:=(Z.del f.name).lt h.length
  have hll:=ao (i:=Z.a) g.hh hl
  rw[if_pos w83,if_pos (.inl w83)]
  refine⟨h.set Z.a (Z.del f.name).cells,[Z.a],_,?_,rfl,g.setEnts _ _,fun q hq _=>by rw[aad.1 hq];exact Zs.vars_mem.2 (.inr (.inl (by simp[Zs.own]))),by simp,fun q hq hn=>aac fun e=>hn (by rw[<- e];exact Zs.vars_mem.2 (.inr (.inl (by simp[Zs.own])))),fun q hq=>.inl hq⟩
  refine ac YB mixed (by simp[Ob]) fun hh hargs=>?_
  simp[Ob,w83,e1,Zs.top_mk,e2,h3,h4,hd,e3,hll,ag,aV,pB,bA]
 ·rw[if_neg w83]
  have w83':(f.what==83)=false:=by simpa using w83
  by_cases w80:f.what=80
  ·rw[if_pos w80,if_pos (.inr w80)]
   have g1:=g.app (c:=aJ f) (by simp) (by simp[aL])
   obtain⟨h',wr,k,g',ht,hl,hw,hs,hv⟩:=g1.byP (G5 g1.por f.portal)
   have hlen:h.length <= h'.length:=by simp at hl;omega
   have hmem:∀ q∈wr,q<h.length -> q∈Z.S.vars:=fun q hq hlt=>hw q hq (by simp;omega)
   refine⟨h',wr,_,?_,rfl,g'.none,fun q hq hlt=>Zs.vars_mem.2 (.inr (.inr (hmem q hq hlt))),hlen,fun q hq hn=>?_,fun q hq=>?_⟩
   ·refine ac YB mixed (by simp[Ob]) fun hh hargs=>?_
    have hgh:=g'.hh
    simp[Ob,w83,w83',w80,e1,Zs.top_mk]
    refine aa (by simp) k ?_
    obtain⟨o1,_⟩:=g1.off hw
    have o2:=ht (h.length,aJ f) (by simp)
    dsimp only at o2
    simp[hgh,ag,aV,pB,o1,o2,hlen]
    exact fun q hq _=>hq
   ·rw[hs q (by simp;omega) fun hh=>hn (Zs.vars_mem.2 (.inr (.inr hh))),aaa hq]
   ·rcases Zs.vars_mem.1 hq with hq |hq |hq
    ·exact .inl (Zs.vars_mem.2 (.inl hq))
    ·exact .inl (Zs.vars_mem.2 (.inr (.inl hq)))
    ·rcases hv q hq with h1 |h1
     ·exact .inl (Zs.vars_mem.2 (.inr (.inr h1)))
     ·right;simp at h1;omega
  ·rw[if_neg w80,if_neg (by rintro(e |e);exact w83 e;exact w80 e)]
   have w80':(f.what==80)=false:=by simpa using w80
   refine⟨h,[],_,?_,rfl,g,(fun q hq=>by cases hq),Nat.le_refl _,(fun _ _ _=>rfl),(fun q hq=>.inl hq)⟩
   refine ac YB mixed (by simp[Ob]) fun hh hargs=>?_
   simp[Ob,w83,w83',w80,w80',hh,ag]
def rT:d5:=[52,50,80,48,53]
def parse1(Z:Zs)(f:Fm):Zs:=if f.name=[] then Z.del [] else Z
def sC(Z:Zs)(f:Fm):Er:=match jl Z f.text with
 | some e=>some e
 | none=>if((parse1 Z f).get f.name).isSome=true then some (rT,mM f.name) else none
def mX(Z:Zs)(f:Fm):Zs:=match jl Z f.text with
 | some _=>parse1 Z f
 | none=>if((parse1 Z f).get f.name).isSome=true then parse1 Z f else(parse1 Z f).put f.name ⟨f.text,f.oids⟩
theorem yN(Z:Zs)(f:Fm)(s:d5):jl (parse1 Z f) s=jl Z s:=by unfold parse1;split<;>rfl
def aI(M:List Bk)(o:Er):AV:=.tup [if o.isSome=true then .sl 0 [] (some true) .exact else .sl 11 (am bh M) none .no,tG o]
theorem BD(M:List Bk):aI M none=.tup [.sl 11 (am bh M) none .no,.v .nilIface]:=rfl
theorem BE(M:List Bk)(c t:d5):aI M (some (c,t))=.tup [.sl 0 [] (some true) .exact,.ifc 175 (.agg [.v (.string (af c)),.v (.string (af t))])]:=rfl
theorem Zs.put_cells{Z:Zs}(ho:KE.Ok Z.clock Z.st)(k:d5)(s:Sx):bc (AEnt.put (.string (af k)) Z.clock (iL s) (Z.st.map (KE.ent iL))).2 (AEnt.put (.string (af k)) Z.clock (iL s) (Z.st.map (KE.ent iL))).1=(Z.put k s).cells:=by
 rw[KE.put_eq iL ho k s];rfl
theorem Ii(g:SsG [] h i Z)(ho:KE.Ok Z.clock Z.st)(f:Fm)(hn:f.name.length <= 100000)(ht:f.text.length <= 100000)(hoi:f.oids.length <= 1000000):DoesS 95 [.box i 0,.agg (aJ f)] h i Z (fun _ v=>v=aI [pB 49] (sC Z f)) (mX Z f):=by
 have e1:∀ xs,(h++xs)[i]?=some Z.top:=fun xs=>by rw[aaa g.i_lt];exact g.top
 have e2:∀ xs,(h++xs)[Z.a]?=some Z.cells:=fun xs=>by rw[aaa g.a_lt];exact g.ents
 have e3:∀ xs cs,(h++xs).set Z.a cs=h.set Z.a cs++xs:=fun xs cs=>aab _ _ g.a_lt
 have n3:=g.nd4.2.2.1
 have na:=g.na
 have ni:=g.ni
 have Y:∃ Y,Y=parse1 Z f:=⟨_,rfl⟩
 obtain⟨Y,hY⟩:=Y
 have hYa:Y.a=Z.a:=by rw[hY];unfold parse1;split<;>rfl
 have hYo : KE.Ok Y.clock Y.st := by rw [hY]; unfold parse1; split
                                     ·exact KE.del_ok ho _
                                     ·exact ho
 have hYt:Y.top=Z.top:=by rw[hY];unfold parse1;split<;>rfl
 have hYv:∀ i,Y.vars i=Z.vars i:=fun i=>by rw[hY];unfold parse1;split<;>rfl
 have gY:SsG [] (h.set Z.a Y.cells) i Y:=by
  rw[hY];unfold parse1
  split
  ·exact g.setEnts _ _
  ·have:h.set Z.a Z.cells=h:=gH g.ents
   rw[this];exact g
 have gYf:SsG [] (h.set Z.a Y.cells++[aJ f]) i Y:=(gY.app (c:=aJ f) (by simp) (by simp[aL])).none
 have hv:=tc gYf f.text ht
 rw[hY,yN,<- hY] at hv
 have f1:∀ xs,(h.set Z.a Y.cells++xs)[i]?=some Z.top:=fun xs=>by rw[aaa gY.i_lt,<- hYt];exact gY.top
 have f2:∀ xs,(h.set Z.a Y.cells++xs)[Z.a]?=some Y.cells:=fun xs=>by rw[aaa (by simpa using g.a_lt)];exact List.getElem?_set_self g.a_lt
 have f3:∀ xs cs,(h.set Z.a Y.cells++xs).set Z.a cs=h.set Z.a cs++xs:=fun xs cs=>by rw[aab _ _ (by simpa using g.a_lt),aaf]
 have q3:=Y.of_cells
 have q4:=Y.keys
 have q5:=Y.found f.name
 have fin:∀(o:Er) (Z':Zs),(∃ c l,Z'={ Y with clock:=c,st:=l }) -> ae Tryz.prog 95 [.box i 0,.agg (aJ f)] h (aI [pB 49] o) (h.set Z.a Z'.cells) [Z.a] -> DoesS 95 [.box i 0,.agg (aJ f)] h i Z (fun _ v=>v=aI [pB 49] o) Z':=fun o Z' hz k=>by
  obtain⟨c,l,rfl⟩:=hz
  have gg:=gY.setEnts c l
  have e:∀ X,(h.set Z.a Y.cells).set Y.a X=h.set Z.a X:=fun X=>by rw[hYa,aaf]
  rw[e] at gg
  refine⟨_,[Z.a],_,k,rfl,gg,fun q hq _=>by rw[aad.1 hq];exact Zs.vars_mem.2 (.inr (.inl (by simp[Zs.own]))),by simp,fun q hq hn=>aac fun e=>hn (by rw[<- e];exact Zs.vars_mem.2 (.inr (.inl (by simp[Zs.own])))),fun q hq=>.inl ?_⟩
  rw[<- hYv];exact hq
 have hwalk:∀(o:Er) (Z':Zs),(∃ c l,Z'={ Y with clock:=c,st:=l }) ->
   (match jl Z f.text with
    | some e=>o=some e /\ Z'=Y
    | none=>match Y.get f.name with
     | some _=>o=some (rT,mM f.name) /\ Z'=Y
     | none=>o=none /\ Z'=Y.put f.name ⟨f.text,f.oids⟩) -> ae Tryz.prog 95 [.box i 0,.agg (aJ f)] h (aI [pB 49] o) (h.set Z.a Z'.cells) [Z.a]:=fun o Z' hz hres=>by
  have hll:=ao (i:=Z.a) g.hh (Z'.lt h.length)
  refine ac k95 mixed (by simp[Um]) fun hh hargs=>?_
  have tail:∀(K:Prop),K -> K:=fun K hk=>hk
  by_cases h0:f.name=[]
  ·have hd:=Z.del_cells []
   have hYd:Y=Z.del []:=by rw[hY];unfold parse1;rw[if_pos h0]
   rw[<- hYd] at hd
   have h3:=Z.of_cells
   have h4:=Z.keys
   simp[Um,h0,e1,Zs.top_mk,e2,h3,h4,hd,e3]
   refine aa (by simp) hv ?_
   cases hvd:jl Z f.text with
   | some e =>
    rw[hvd] at hres
    obtain⟨rfl,rfl⟩:=hres
    obtain⟨c,t⟩:=e
    simp[aI,hll,ag,bA]
   | none =>
    rw[hvd] at hres
    simp only at hres
    cases hg:Y.get f.name with
    | some s =>
     rw[hg] at hres q5
     obtain⟨rfl,rfl⟩:=hres
     simp only[h0,iL] at q5
     simp[f1,Zs.top_mk,f2,na,ni,q3,q4,q5,h0]
     refine aa (by simp) (zm [] (by simp) _) ?_
     simp[aI,hll,ag,bA,rT,h0]
    | none =>
     rw[hg] at hres q5
     obtain⟨rfl,rfl⟩:=hres
     simp only[h0] at q5
     have hput:=Zs.put_cells hYo f.name ⟨f.text,f.oids⟩
     simp only[iL,h0] at hput hll
     simp[f1,Zs.top_mk,f2,na,ni,q3,q4,q5,h0,qM]
     refine aa (by simp) (dI [] (by simp) _) ?_
     simp
     refine aa (by simp) (dI f.text (by omega) _) ?_
     simp
     refine aa (by simp) (la f.oids hoi _) ?_
     simp[f1,f2,q3,q4,hput,f3,aI,hll,ag,bA,pB,aV]
  ·have h0':(f.name==[])=false:=by simpa using h0
   have hYd:Y=Z:=by rw[hY];unfold parse1;rw[if_neg h0]
   have hsame:h.set Z.a Y.cells=h:=by rw[hYd];exact gH g.ents
   rw[hsame] at hv f1 f2 f3
   simp[Um,h0,h0']
   refine aa (by simp) hv ?_
   cases hvd:jl Z f.text with
   | some e =>
    rw[hvd] at hres
    obtain⟨rfl,rfl⟩:=hres
    obtain⟨c,t⟩:=e
    simp[aI,hh,hsame,ag,bA]
   | none =>
    rw[hvd] at hres
    simp only at hres
    cases hg:Y.get f.name with
    | some s =>
     rw[hg] at hres q5
     obtain⟨rfl,rfl⟩:=hres
     simp only[iL] at q5
     simp[f1,Zs.top_mk,f2,na,ni,q3,q4,q5]
     refine aa (by simp) (zm f.name hn _) ?_
     simp[aI,hh,hsame,ag,bA,rT]
    | none =>
     rw[hg] at hres q5
     obtain⟨rfl,rfl⟩:=hres
     simp only at q5
     have hput:=Zs.put_cells hYo f.name ⟨f.text,f.oids⟩
     simp only[iL] at hput
     simp[f1,Zs.top_mk,f2,na,ni,q3,q4,q5,qM]
     refine aa (by simp) (dI f.name (by omega) _) ?_
     simp
     refine aa (by simp) (dI f.text (by omega) _) ?_
     simp
     refine aa (by simp) (la f.oids hoi _) ?_
     simp[f1,f2,q3,q4,hput,f3,aI,hll,ag,bA,pB,aV]
 unfold sC mX
 rw[<- hY]
 cases hvd:jl Z f.text with
 | some e=>exact fin _ _ ⟨Y.clock,Y.st,rfl⟩ (hwalk _ _ ⟨Y.clock,Y.st,rfl⟩ (by rw[hvd];exact⟨rfl,rfl⟩))
 | none =>
  cases hg:Y.get f.name with
  | some s=>exact fin _ _ ⟨Y.clock,Y.st,rfl⟩ (hwalk _ _ ⟨Y.clock,Y.st,rfl⟩ (by rw[hvd];simp only[hg];exact⟨rfl,rfl⟩))
  | none=>exact fin _ _ ⟨_,_,rfl⟩ (hwalk _ _ ⟨_,_,rfl⟩ (by rw[hvd];simp only[hg];exact⟨rfl,rfl⟩))
end
end Ax
end Go.Proofs.YtlbgjlmokpkkeaaGreatDoor
