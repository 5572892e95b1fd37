import Derived.Test.YtdfgljojemmlcaaGreatQAxFl
set_option linter.unusedSimpArgs false
set_option linter.unusedVariables false
open List renaming all_cons -> Q0, length_flatMap -> Q2, all_nil -> Q3, getElem_mem -> Q5, not_all_eq_any_not -> Q6, length_append -> Q7, append_assoc -> Q8, length_cons -> Q9
open Bool renaming and_true -> Q1, eq_iff_iff -> Ra
open UInt8 renaming ofNat -> Q4
open Nat renaming zero_add -> Rb
namespace Go.Proofs.YtdfgljojemmlcaaGreat.Ax
open Go.RowKit Go By
def Nu:XFun:=⟨9,.seq (.ops [oK 4 (.bool false)]) (.seq (.ops [oM 5 0,oM 6 1,oC 7 178 [5,6],oI 8 .geq 7 (.int .i64 0),oA 4 8]) .ret),[.move (.tmp 4)]⟩
theorem Pq : ak Tryz.prog 157 = some Nu := by kernel_rfl
def Ny:XFun:=⟨19,.seq (.ops [oK 4 (.int .i64 0)]) (.seq (.seq (.ops [oM 6 0,oH 7 6,oX 8 (.move (.const (.int .i64 0)))]) (.block 0 (.loop (.seq (.ops [oB 9 .lss 8 7]) (.seq (.cond (.tmp 9) .skip (.exit 0)) (.seq (.block 1 (.seq (.ops [oM 10 8,oA 5 10]) (.seq (.ops [oM 11 1,oM 12 0,oM 13 5,oW 14 7 12 13,oP 15 7 14,oX 16 (.callv (.tmp 11) [.tmp 15])]) (.cond (.tmp 16) (.seq (.ops [oM 17 5,oA 4 17]) .ret) .skip)))) (.ops [oI 18 .add 8 (.int .i64 1),oM 8 18]))))))) (.seq (.ops [oK 4 (.int .i64 (-1))]) .ret)),[.move (.tmp 4)]⟩
theorem Pn : ak Tryz.prog 178 = some Ny := by kernel_rfl
def OI:XFun:=⟨9,.seq (.ops [oK 4 (.bool false)]) (.seq (.ops [oM 5 0,oM 6 1,oC 7 180 [5,6],oI 8 .geq 7 (.int .i64 0),oA 4 8]) .ret),[.move (.tmp 4)]⟩
theorem Nq : ak Tryz.prog 160 = some OI := by kernel_rfl
def Me:XFun:=⟨19,.seq (.ops [oK 4 (.int .i64 0)]) (.seq (.seq (.ops [oM 6 0,oH 7 6,oX 8 (.move (.const (.int .i64 0)))]) (.block 0 (.loop (.seq (.ops [oB 9 .lss 8 7]) (.seq (.cond (.tmp 9) .skip (.exit 0)) (.seq (.block 1 (.seq (.ops [oM 10 8,oA 5 10]) (.seq (.ops [oM 11 1,oM 12 0,oM 13 5,oW 14 2 12 13,oP 15 2 14,oX 16 (.callv (.tmp 11) [.tmp 15])]) (.cond (.tmp 16) (.seq (.ops [oM 17 5,oA 4 17]) .ret) .skip)))) (.ops [oI 18 .add 8 (.int .i64 1),oM 8 18]))))))) (.seq (.ops [oK 4 (.int .i64 (-1))]) .ret)),[.move (.tmp 4)]⟩
theorem NO : ak Tryz.prog 180 = some Me := by kernel_rfl
def Pw:XFun:=⟨26,.seq (.ops [oK 4 (.bool false)]) (.seq (.seq (.ops [oM 6 0,oH 7 6,oM 8 1,oH 9 8,oB 10 .neq 7 9]) (.cond (.tmp 10) (.seq (.ops [oK 4 (.bool false)]) .ret) .skip)) (.seq (.seq (.ops [oM 11 0,oH 12 11,oX 13 (.move (.const (.int .i64 0)))]) (.block 0 (.loop (.seq (.ops [oB 14 .lss 13 12]) (.seq (.cond (.tmp 14) .skip (.exit 0)) (.seq (.block 1 (.seq (.ops [oM 15 13,oA 5 15]) (.seq (.draws (.take (oM 16 0) (.take (oM 17 5) (.take (oW 18 7 16 17) (.take (oP 19 7 18) (.take (oM 20 1) (.take (oM 21 5) (.take (oW 22 7 20 21) (.take (oP 23 7 22) (.take (oX 24 (.aeq true [2,1,1,1,1,1,1] (.tmp 19) (.tmp 23))) .done)))))))))) (.cond (.tmp 24) (.seq (.ops [oK 4 (.bool false)]) .ret) .skip)))) (.ops [oI 25 .add 13 (.int .i64 1),oM 13 25]))))))) (.seq (.ops [oK 4 (.bool true)]) .ret))),[.move (.tmp 4)]⟩
theorem N7 : ak Tryz.prog 168 = some Pw := by kernel_rfl
def MY:XFun:=⟨26,.seq (.ops [oK 4 (.bool false)]) (.seq (.seq (.ops [oM 6 0,oH 7 6,oM 8 1,oH 9 8,oB 10 .neq 7 9]) (.cond (.tmp 10) (.seq (.ops [oK 4 (.bool false)]) .ret) .skip)) (.seq (.seq (.ops [oM 11 0,oH 12 11,oX 13 (.move (.const (.int .i64 0)))]) (.block 0 (.loop (.seq (.ops [oB 14 .lss 13 12]) (.seq (.cond (.tmp 14) .skip (.exit 0)) (.seq (.block 1 (.seq (.ops [oM 15 13,oA 5 15]) (.seq (.draws (.take (oM 16 0) (.take (oM 17 5) (.take (oW 18 2 16 17) (.take (oP 19 2 18) (.take (oM 20 1) (.take (oM 21 5) (.take (oW 22 2 20 21) (.take (oP 23 2 22) (.take (oX 24 (.aeq true [1,2] (.tmp 19) (.tmp 23))) .done)))))))))) (.cond (.tmp 24) (.seq (.ops [oK 4 (.bool false)]) .ret) .skip)))) (.ops [oI 25 .add 13 (.int .i64 1),oM 13 25]))))))) (.seq (.ops [oK 4 (.bool true)]) .ret))),[.move (.tmp 4)]⟩
theorem Pv : ak Tryz.prog 170 = some MY := by kernel_rfl
def GQ:XFun:=⟨24,.seq (.ops [oN 4]) (.seq (.ops [oM 8 0,oH 9 8,oX 10 (.call 85 [.const (.slice none 0 0),.tmp 9,.const (.int .i64 2)]),oA 5 10]) (.seq (.seq (.ops [oM 11 0,oH 12 11,oX 13 (.move (.const (.int .i64 0)))]) (.block 0 (.loop (.seq (.ops [oB 14 .lss 13 12]) (.seq (.cond (.tmp 14) .skip (.exit 0)) (.seq (.block 1 (.seq (.ops [oW 15 7 11 13,oP 16 7 15,oZ 7 z7,oS 7 7 16]) (.ops [oM 17 5,oM 18 1,oP 19 7 7,oX 20 (.callv (.tmp 18) [.tmp 19]),oX 21 (.append 1 1 (.tmp 17) (.tmp 20)),oA 5 21]))) (.ops [oI 22 .add 13 (.int .i64 1),oM 13 22]))))))) (.seq (.ops [oM 23 5,oA 4 23]) .ret))),[.move (.tmp 4)]⟩
theorem O2 : ak Tryz.prog 151 = some GQ := by kernel_rfl
def EP:XFun:=⟨16,.seq (.ops [oJ 1 0,oZ 2 z8,oK 3 (.int .i64 0)]) (.seq (.seq (.ops [oP 5 11 1,oC 6 123 [5],oA 4 6]) (.seq (.ops [oM 7 4,oI 8 .neq 7 (.int .i64 0)]) (.cond (.tmp 8) (.seq (.ops [oX 9 (.build z8 []),oM 10 4,oS 2 2 9,oA 3 10]) .ret) .skip))) (.seq (.draws (.take (oF 11 0 1) (.take (oL 12 11) (.take (oP 13 11 1) (.only (oC 14 124 [13]) (.take (oX 15 (.build z8 [(0,1,.tmp 12),(1,1,.tmp 14)])) (.only (oS 2 2 15) (.take (oK 3 (.int .i64 0)) .done)))))))) .ret)),[.loadN 2 (.tmp 2),.move (.tmp 3)]⟩
theorem Nt : ak Tryz.prog 100 = some EP := by kernel_rfl
def qP:XFun:=⟨80,.seq (.ops [oJ 2 0,oJ 3 1,oK 4 (.bool false)]) (.seq (.ops [oF 5 0 2,oL 6 5,oF 7 0 3,oL 8 7,oB 9 .eql 6 8,oM 10 9,oG 10 true (oF 11 1 2),oG 10 true (oL 12 11),oG 10 true (oF 13 1 3),oG 10 true (oL 14 13),oG 10 true (oB 15 .eql 12 14),oT 16 10 15,oM 17 16,oG 17 true (oF 18 2 2),oG 17 true (oL 19 18),oG 17 true (oF 20 2 3),oG 17 true (oL 21 20),oG 17 true (oB 22 .eql 19 21),oT 23 17 22,oM 24 23,oG 24 true (oF 25 3 2),oG 24 true (oL 26 25),oG 24 true (oF 27 3 3),oG 24 true (oL 28 27),oG 24 true (oB 29 .eql 26 28),oT 30 24 29,oM 31 30,oG 31 true (oF 32 4 2),oG 31 true (oL 33 32),oG 31 true (oF 34 4 3),oG 31 true (oL 35 34),oG 31 true (oB 36 .eql 33 35),oT 37 31 36,oM 38 37,oG 38 true (oF 39 5 2),oG 38 true (oL 40 39),oG 38 true (oF 41 5 3),oG 38 true (oL 42 41),oG 38 true (oB 43 .eql 40 42),oT 44 38 43,oM 45 44,oG 45 true (oF 46 6 2),oG 45 true (oL 47 46),oG 45 true (oF 48 6 3),oG 45 true (oL 49 48),oG 45 true (oB 50 .eql 47 49),oT 51 45 50,oM 52 51,oG 52 true (oF 53 7 2),oG 52 true (oL 54 53),oG 52 true (oF 55 7 3),oG 52 true (oL 56 55),oG 52 true (oC 57 167 [54,56]),oT 58 52 57,oM 59 58,oG 59 true (oF 60 8 2),oG 59 true (oL 61 60),oG 59 true (oF 62 8 3),oG 59 true (oL 63 62),oG 59 true (oC 64 168 [61,63]),oT 65 59 64,oM 66 65,oG 66 true (oF 67 9 2),oG 66 true (oL 68 67),oG 66 true (oF 69 9 3),oG 66 true (oL 70 69),oG 66 true (oC 71 169 [68,70]),oT 72 66 71,oM 73 72,oG 73 true (oF 74 10 2),oG 73 true (oL 75 74),oG 73 true (oF 76 10 3),oG 73 true (oL 77 76),oG 73 true (oC 78 170 [75,77]),oT 79 73 78,oA 4 79]) .ret),[.move (.tmp 4)]⟩
theorem OK : ak Tryz.prog 145 = some qP := by kernel_rfl
def ML:XFun:=⟨39,.seq (.ops [oN 2]) (.seq (.ops [oN 3]) (.seq (.seq (.ops [oM 8 0,oH 9 8,oX 10 (.move (.const (.int .i64 0)))]) (.block 0 (.loop (.seq (.ops [oB 11 .lss 10 9]) (.seq (.cond (.tmp 11) .skip (.exit 0)) (.seq (.block 1 (.seq (.ops [oW 12 11 8 10,oP 13 11 12,oZ 5 z2,oS 11 5 13]) (.seq (.ops [oP 15 11 5,oC 16 100 [15],oM 14 16,oE 17 14 0,oE 18 14 1,oZ 6 z8,oS 2 6 17,oA 7 18]) (.seq (.seq (.ops [oM 19 7,oI 20 .neq 19 (.int .i64 0)]) (.cond (.tmp 20) (.exit 1) .skip)) (.seq (.ops [oM 21 3,oF 22 0 6,oL 23 22,oR 24 1 1 23 zK,oX 25 (.append 1 1 (.tmp 21) (.tmp 24)),oA 3 25]) (.seq (.ops [oM 26 3,oF 27 1 6,oL 28 27,oH 29 28,oI 30 .add 29 (.int .i64 4),oX 31 (.call 85 [.const (.slice none 0 0),.tmp 30,.const (.int .i64 4)]),oX 32 (.append 1 1 (.tmp 26) (.tmp 31)),oA 3 32]) (.ops [oM 33 3,oF 34 1 6,oL 35 34,oX 36 (.append 1 1 (.tmp 33) (.tmp 35)),oA 3 36]))))))) (.ops [oI 37 .add 10 (.int .i64 1),oM 10 37]))))))) (.seq (.ops [oM 38 3,oA 2 38]) .ret))),[.move (.tmp 2)]⟩
theorem QH : ak Tryz.prog 68 = some ML := by kernel_rfl
def EL:XFun:=⟨42,.seq (.ops [oJ 1 0,oK 2 (.int .i64 0)]) (.seq (.seq (.ops [oF 3 0 1,oL 4 3,oC 5 140 [4],oV 6 5]) (.cond (.tmp 6) (.seq (.ops [oK 2 (.int .i64 9)]) .ret) .skip)) (.seq (.seq (.draws (.take (oP 7 11 1) (.only (oC 8 141 [7]) (.take (oV 9 8) (.take (oM 10 9) (.take (oG 10 false (oP 11 11 1)) (.only (oG 10 false (oC 12 142 [11])) (.take (oG 10 false (oV 13 12)) (.take (oU 14 10 13) (.take (oM 15 14) (.take (oG 15 false (oF 16 2 1)) (.take (oG 15 false (oL 17 16)) (.take (oG 15 false (oF 18 3 1)) (.take (oG 15 false (oL 19 18)) (.take (oG 15 false (oF 20 4 1)) (.take (oG 15 false (oL 21 20)) (.only (oG 15 false (oX 22 (.buildSlice 1 3 z12 [(0,.tmp 17),(1,.tmp 19),(2,.tmp 21)]))) (.only (oG 15 false (oC 23 143 [22])) (.take (oG 15 false (oV 24 23)) (.take (oU 25 15 24) (.take (oM 26 25) (.take (oG 26 false (oF 27 5 1)) (.take (oG 26 false (oL 28 27)) (.take (oG 26 false (oF 29 6 1)) (.take (oG 26 false (oL 30 29)) (.only (oG 26 false (oX 31 (.buildSlice 1 2 z9 [(0,.tmp 28),(1,.tmp 30)]))) (.only (oG 26 false (oX 32 (.call 144 [.const (.int .i64 4),.tmp 31]))) (.take (oG 26 false (oV 33 32)) (.take (oU 34 26 33) (.take (oM 35 34) (.take (oG 35 false (oP 36 11 1)) (.take (oG 35 false (oP 37 11 1)) (.only (oG 35 false (oC 38 146 [37])) (.only (oG 35 false (oC 39 145 [36,38])) (.take (oG 35 false (oV 40 39)) (.take (oU 41 35 40) .done)))))))))))))))))))))))))))))))))))) (.cond (.tmp 41) (.seq (.ops [oK 2 (.int .i64 1)]) .ret) .skip)) (.seq (.ops [oK 2 (.int .i64 0)]) .ret))),[.move (.tmp 2)]⟩
theorem O0 : ak Tryz.prog 123 = some EL := by kernel_rfl
def nR:XFun:=⟨58,.seq (.ops [oJ 1 0,oN 2]) (.seq (.seq (.ops [oF 3 0 1,oL 4 3]) (.block 0 (.seq (.ops [oI 6 .eql 4 (.int .u8 82),oA 5 6]) (.cond (.tmp 5) (.seq (.ops [oX 7 (.call 147 [.const (.int .i64 0)]),oA 2 7]) .ret) (.seq (.ops [oI 9 .eql 4 (.int .u8 83),oA 8 9]) (.cond (.tmp 8) (.seq (.ops [oF 10 3 1,oL 11 10,oF 12 4 1,oL 13 12,oX 14 (.buildSlice 1 2 z12 [(0,.tmp 11),(1,.tmp 13)]),oC 15 148 [14],oA 2 15]) .ret) (.seq (.ops [oI 17 .eql 4 (.int .u8 75),oA 16 17]) (.cond (.tmp 16) (.seq (.draws (.take (oF 18 5 1) (.take (oL 19 18) (.take (oF 21 6 1) (.take (oL 22 21) (.only (oC 20 147 [19]) (.only (oC 23 147 [22]) (.only (oX 24 (.buildSlice 1 2 [.sl 0 [] (some true) .exact] [(0,.tmp 20),(1,.tmp 23)])) (.only (oC 25 149 [24]) (.take (oA 2 25) .done)))))))))) .ret) (.seq (.ops [oI 27 .eql 4 (.int .u8 90),oA 26 27]) (.cond (.tmp 26) (.seq (.ops [oF 28 1 1,oL 29 28,oR 30 1 1 29 zK,oA 2 30]) .ret) (.seq (.ops [oI 32 .eql 4 (.int .u8 67),oA 31 32]) (.cond (.tmp 31) (.seq (.ops [oF 33 2 1,oL 34 33,oR 35 1 1 34 z12,oC 36 148 [35],oA 2 36]) .ret) (.seq (.ops [oI 38 .eql 4 (.int .u8 68),oA 37 38]) (.cond (.tmp 37) (.seq (.ops [oF 39 9 1,oL 40 39,oC 41 150 [40],oA 2 41]) .ret) (.seq (.ops [oI 43 .eql 4 (.int .u8 84),oA 42 43]) (.cond (.tmp 42) (.seq (.ops [oF 44 8 1,oL 45 44,oX 46 (.call 151 [.tmp 45,.func 152]),oA 2 46]) .ret) (.seq (.ops [oI 48 .eql 4 (.int .u8 116),oA 47 48]) (.cond (.tmp 47) (.seq (.ops [oF 49 7 1,oL 50 49,oX 51 (.call 153 [.const (.int .i64 4),.tmp 50]),oA 2 51]) .ret) (.seq (.seq (.ops [oI 53 .eql 4 (.int .u8 69),oA 52 53]) (.cond (.tmp 52) .skip (.ops [oI 54 .eql 4 (.int .u8 78),oA 52 54]))) (.cond (.tmp 52) (.seq (.ops [oF 55 10 1,oL 56 55,oC 57 154 [56],oA 2 57]) .ret) .skip)))))))))))))))))))) (.seq (.ops [oN 2]) .ret)),[.move (.tmp 2)]⟩
theorem Mq : ak Tryz.prog 124 = some nR := by kernel_rfl
def iC:XFun:=⟨21,.seq (.ops [oK 2 (.bool false)]) (.seq (.seq (.ops [oM 3 0]) (.block 0 (.seq (.seq (.ops [oI 5 .eql 3 (.int .u8 82),oA 4 5]) (.cond (.tmp 4) .skip (.seq (.ops [oI 6 .eql 3 (.int .u8 83),oA 4 6]) (.cond (.tmp 4) .skip (.seq (.ops [oI 7 .eql 3 (.int .u8 75),oA 4 7]) (.cond (.tmp 4) .skip (.seq (.ops [oI 8 .eql 3 (.int .u8 90),oA 4 8]) (.cond (.tmp 4) .skip (.seq (.ops [oI 9 .eql 3 (.int .u8 49),oA 4 9]) (.cond (.tmp 4) .skip (.seq (.ops [oI 10 .eql 3 (.int .u8 50),oA 4 10]) (.cond (.tmp 4) .skip (.seq (.ops [oI 11 .eql 3 (.int .u8 51),oA 4 11]) (.cond (.tmp 4) .skip (.seq (.ops [oI 12 .eql 3 (.int .u8 110),oA 4 12]) (.cond (.tmp 4) .skip (.seq (.ops [oI 13 .eql 3 (.int .u8 115),oA 4 13]) (.cond (.tmp 4) .skip (.seq (.ops [oI 14 .eql 3 (.int .u8 73),oA 4 14]) (.cond (.tmp 4) .skip (.seq (.ops [oI 15 .eql 3 (.int .u8 67),oA 4 15]) (.cond (.tmp 4) .skip (.seq (.ops [oI 16 .eql 3 (.int .u8 68),oA 4 16]) (.cond (.tmp 4) .skip (.seq (.ops [oI 17 .eql 3 (.int .u8 84),oA 4 17]) (.cond (.tmp 4) .skip (.seq (.ops [oI 18 .eql 3 (.int .u8 116),oA 4 18]) (.cond (.tmp 4) .skip (.seq (.ops [oI 19 .eql 3 (.int .u8 69),oA 4 19]) (.cond (.tmp 4) .skip (.ops [oI 20 .eql 3 (.int .u8 78),oA 4 20]))))))))))))))))))))))))))))))) (.cond (.tmp 4) (.seq (.ops [oK 2 (.bool true)]) .ret) .skip)))) (.seq (.ops [oK 2 (.bool false)]) .ret)),[.move (.tmp 2)]⟩
theorem N1 : ak Tryz.prog 140 = some iC := by kernel_rfl
def BX:XFun:=⟨11,.seq (.ops [oJ 1 0,oK 2 (.bool false)]) (.seq (.ops [oF 3 0 1,oL 4 3,oI 5 .neq 4 (.int .u8 90),oM 6 5,oG 6 false (oF 7 1 1),oG 6 false (oL 8 7),oG 6 false (oC 9 155 [8]),oU 10 6 9,oA 2 10]) .ret),[.move (.tmp 2)]⟩
theorem Oj : ak Tryz.prog 141 = some BX := by kernel_rfl
def Cw:XFun:=⟨39,.seq (.ops [oJ 1 0,oK 2 (.bool false)]) (.seq (.ops [oF 3 7 1,oL 4 3,oH 5 4,oF 6 8 1,oL 7 6,oH 8 7,oF 9 9 1,oL 10 9,oH 11 10,oF 12 10 1,oL 13 12,oH 14 13,oX 15 (.maxI [.tmp 5,.tmp 8,.tmp 11,.tmp 14]),oI 16 .leq 15 (.int .i64 65535),oM 17 16,oG 17 true (oF 18 7 1),oG 17 true (oL 19 18),oG 17 true (oX 20 (.call 144 [.const (.int .i64 4),.tmp 19])),oT 21 17 20,oM 22 21,oG 22 true (oF 23 9 1),oG 22 true (oL 24 23),oG 22 true (oC 25 156 [24]),oT 26 22 25,oM 27 26,oG 27 true (oF 28 8 1),oG 27 true (oL 29 28),oG 27 true (oX 30 (.call 157 [.tmp 29,.func 158])),oG 27 true (oV 31 30),oT 32 27 31,oM 33 32,oG 33 true (oF 34 10 1),oG 33 true (oL 35 34),oG 33 true (oX 36 (.call 160 [.tmp 35,.func 161])),oG 33 true (oV 37 36),oT 38 33 37,oA 2 38]) .ret),[.move (.tmp 2)]⟩
theorem N4 : ak Tryz.prog 142 = some Cw := by kernel_rfl
def Gb:XFun:=⟨6,.seq (.ops [oJ 1 0,oK 2 (.bool false)]) (.seq (.ops [oP 3 7 1,oC 4 159 [3],oV 5 4,oA 2 5]) .ret),[.move (.tmp 2)]⟩
theorem M4 : ak Tryz.prog 158 = some Gb := by kernel_rfl
def Hx:XFun:=⟨6,.seq (.ops [oJ 1 0,oK 2 (.bool false)]) (.seq (.ops [oP 3 2 1,oC 4 162 [3],oV 5 4,oA 2 5]) .ret),[.move (.tmp 2)]⟩
theorem Mw : ak Tryz.prog 161 = some Hx := by kernel_rfl
def Hf:XFun:=⟨35,.seq (.ops [oJ 1 0,oK 2 (.bool false)]) (.seq (.ops [oF 3 0 1,oL 4 3,oR 5 1 1 4 z12,oC 6 143 [5],oM 7 6,oG 7 true (oF 8 1 1),oG 7 true (oL 9 8),oG 7 true (oF 10 3 1),oG 7 true (oL 11 10),oG 7 true (oX 12 (.buildSlice 1 2 z9 [(0,.tmp 9),(1,.tmp 11)])),oG 7 true (oX 13 (.call 144 [.const (.int .i64 4),.tmp 12])),oT 14 7 13,oM 15 14,oG 15 true (oF 16 2 1),oG 15 true (oL 17 16),oG 15 true (oF 18 6 1),oG 15 true (oL 19 18),oG 15 true (oX 20 (.buildSlice 1 2 z9 [(0,.tmp 17),(1,.tmp 19)])),oG 15 true (oX 21 (.call 144 [.const (.int .i64 2),.tmp 20])),oT 22 15 21,oM 23 22,oG 23 true (oF 24 4 1),oG 23 true (oL 25 24),oG 23 true (oR 26 1 1 25 z9),oG 23 true (oX 27 (.call 179 [.const (.int .i64 2),.tmp 26])),oT 28 23 27,oM 29 28,oG 29 true (oF 30 5 1),oG 29 true (oL 31 30),oG 29 true (oR 32 1 1 31 z9),oG 29 true (oX 33 (.call 179 [.const (.int .i64 4),.tmp 32])),oT 34 29 33,oA 2 34]) .ret),[.move (.tmp 2)]⟩
theorem N2 : ak Tryz.prog 159 = some Hf := by kernel_rfl
def C6:XFun:=⟨12,.seq (.ops [oJ 1 0,oK 2 (.bool false)]) (.seq (.ops [oF 3 0 1,oL 4 3,oI 5 .neq 4 (.int .u8 0),oM 6 5,oG 6 true (oF 7 1 1),oG 6 true (oL 8 7),oG 6 true (oR 9 1 1 8 z12),oG 6 true (oC 10 143 [9]),oT 11 6 10,oA 2 11]) .ret),[.move (.tmp 2)]⟩
theorem Ni : ak Tryz.prog 162 = some C6 := by kernel_rfl
def nQ:XFun:=⟨57,.seq (.ops [oJ 1 0,oZ 2 z2]) (.seq (.ops [oF 4 0 1,oL 5 4,oD 6 0 z2 5,oZ 3 z2,oS 11 3 6]) (.seq (.seq (.ops [oF 7 0 1,oL 8 7]) (.block 0 (.seq (.ops [oI 10 .eql 8 (.int .u8 83),oA 9 10]) (.cond (.tmp 9) (.draws (.take (oF 11 3 1) (.take (oL 12 11) (.take (oF 13 4 1) (.take (oL 14 13) (.take (oF 15 3 3) (.only (oS 1 15 12) (.take (oF 16 4 3) (.last (oS 1 16 14)))))))))) (.seq (.ops [oI 18 .eql 8 (.int .u8 75),oA 17 18]) (.cond (.tmp 17) (.draws (.take (oF 19 5 1) (.take (oL 20 19) (.take (oF 21 6 1) (.take (oL 22 21) (.take (oF 23 5 3) (.only (oS 1 23 20) (.take (oF 24 6 3) (.last (oS 1 24 22)))))))))) (.seq (.ops [oI 26 .eql 8 (.int .u8 90),oA 25 26]) (.cond (.tmp 25) (.ops [oF 27 1 1,oL 28 27,oF 29 1 3,oS 1 29 28]) (.seq (.ops [oI 31 .eql 8 (.int .u8 67),oA 30 31]) (.cond (.tmp 30) (.ops [oF 32 2 1,oL 33 32,oF 34 2 3,oS 1 34 33]) (.seq (.ops [oI 36 .eql 8 (.int .u8 68),oA 35 36]) (.cond (.tmp 35) (.ops [oF 37 9 1,oL 38 37,oF 39 9 3,oS 1 39 38]) (.seq (.ops [oI 41 .eql 8 (.int .u8 84),oA 40 41]) (.cond (.tmp 40) (.ops [oF 42 8 1,oL 43 42,oF 44 8 3,oS 1 44 43]) (.seq (.ops [oI 46 .eql 8 (.int .u8 116),oA 45 46]) (.cond (.tmp 45) (.ops [oF 47 7 1,oL 48 47,oF 49 7 3,oS 1 49 48]) (.seq (.seq (.ops [oI 51 .eql 8 (.int .u8 69),oA 50 51]) (.cond (.tmp 50) .skip (.ops [oI 52 .eql 8 (.int .u8 78),oA 50 52]))) (.cond (.tmp 50) (.ops [oF 53 10 1,oL 54 53,oF 55 10 3,oS 1 55 54]) .skip)))))))))))))))))) (.seq (.ops [oP 56 11 3,oS 11 2 56]) .ret))),[.loadN 11 (.tmp 2)]⟩
theorem NY : ak Tryz.prog 146 = some nQ := by kernel_rfl
def E3:XFun:=⟨5,.seq (.ops [oN 2]) (.seq (.ops [oM 3 0,oX 4 (.call 85 [.const (.slice none 0 0),.tmp 3,.const (.int .i64 4)]),oA 2 4]) .ret),[.move (.tmp 2)]⟩
theorem Ns : ak Tryz.prog 147 = some E3 := by kernel_rfl
def Gh:XFun:=⟨5,.seq (.ops [oN 2]) (.seq (.ops [oM 3 0,oX 4 (.call 85 [.const (.slice none 0 0),.tmp 3,.const (.int .i64 2)]),oA 2 4]) .ret),[.move (.tmp 2)]⟩
theorem N8 : ak Tryz.prog 174 = some Gh := by kernel_rfl
def E7:XFun:=⟨27,.seq (.ops [oJ 1 0,oN 2]) (.seq (.draws (.take (oF 3 0 1) (.take (oL 4 3) (.take (oF 7 1 1) (.take (oL 8 7) (.take (oF 10 2 1) (.take (oL 11 10) (.take (oF 13 3 1) (.take (oL 14 13) (.take (oF 16 4 1) (.take (oL 17 16) (.take (oF 19 5 1) (.take (oL 20 19) (.take (oF 22 6 1) (.take (oL 23 22) (.only (oR 5 1 1 4 z12) (.only (oC 6 148 [5]) (.only (oC 9 147 [8]) (.only (oC 12 174 [11]) (.only (oC 15 147 [14]) (.only (oC 18 174 [17]) (.only (oC 21 147 [20]) (.only (oC 24 174 [23]) (.only (oX 25 (.buildSlice 1 7 [.sl 0 [] (some true) .exact] [(0,.tmp 6),(1,.tmp 9),(2,.tmp 12),(3,.tmp 15),(4,.tmp 18),(5,.tmp 21),(6,.tmp 24)])) (.only (oC 26 149 [25]) (.take (oA 2 26) .done)))))))))))))))))))))))))) .ret),[.move (.tmp 2)]⟩
theorem N6 : ak Tryz.prog 152 = some E7 := by kernel_rfl
def HT:XFun:=⟨27,.seq (.ops [oN 2]) (.seq (.ops [oN 3]) (.seq (.seq (.ops [oM 6 0,oH 7 6,oX 8 (.move (.const (.int .i64 0)))]) (.block 0 (.loop (.seq (.ops [oB 9 .lss 8 7]) (.seq (.cond (.tmp 9) .skip (.exit 0)) (.seq (.block 1 (.seq (.ops [oW 10 2 6 8,oP 11 2 10,oZ 5 [.v (.int .u8 0),.v (.string (ah []))],oS 2 5 11]) (.seq (.ops [oM 12 3,oF 13 0 5,oL 14 13,oR 15 1 1 14 zK,oX 16 (.append 1 1 (.tmp 12) (.tmp 15)),oA 3 16]) (.ops [oM 17 3,oF 18 1 5,oL 19 18,oR 20 1 1 19 z12,oC 21 148 [20],oX 22 (.append 1 1 (.tmp 17) (.tmp 21)),oA 3 22])))) (.ops [oI 23 .add 8 (.int .i64 1),oM 8 23]))))))) (.seq (.ops [oM 24 3,oX 25 (.buildSlice 1 1 zK [(0,.const (.int .u8 0))]),oX 26 (.append 1 1 (.tmp 24) (.tmp 25)),oA 2 26]) .ret))),[.move (.tmp 2)]⟩
theorem On : ak Tryz.prog 154 = some HT := by kernel_rfl
def CP:XFun:=⟨13,.seq (.ops [oK 2 (.bool false)]) (.seq (.ops [oM 3 0,oI 4 .eql 3 (.int .u8 73),oM 5 4,oG 5 false (oM 6 0),oG 5 false (oI 7 .eql 6 (.int .u8 84)),oU 8 5 7,oM 9 8,oG 9 false (oM 10 0),oG 9 false (oI 11 .eql 10 (.int .u8 69)),oU 12 9 11,oA 2 12]) .ret),[.move (.tmp 2)]⟩
theorem Ou : ak Tryz.prog 155 = some CP := by kernel_rfl
end Go.Proofs.YtdfgljojemmlcaaGreat.Ax
namespace Go.Proofs.YtdfgljojemmlcaaGreat.Ax
open Go.RowKit Go By Go.Proofs.YtdfgljojemmlcaaGreat.Nm Sc Dg
set_option maxRecDepth 10000
def aZ (k : Int) : Bool := decide (k = 82 \/ k = 83 \/ k = 75 \/ k = 90 \/ k = 49 \/ k = 50 \/ k = 51 \/ k = 110 \/ k = 115 \/ k = 73 \/ k = 67 \/ k = 68 \/ k = 84 \/ k = 116 \/ k = 69 \/ k = 78)
theorem Ce (k : Int) (h : List (List AV)) : Contract Tryz.prog 140 [.v (.int .u8 k)] h (.v (.bool (aZ k))) h [] := by
 refine ab N1 mixed (by simp [iC]) fun hh hargs => ?_
 by_cases h82 : k = 82
 ·subst h82; simp [iC, hh, aZ]
 by_cases h83 : k = 83
 ·subst h83; simp [iC, hh, aZ]
 by_cases h75 : k = 75
 ·subst h75; simp [iC, hh, aZ]
 by_cases h90 : k = 90
 ·subst h90; simp [iC, hh, aZ]
 by_cases h49 : k = 49
 ·subst h49; simp [iC, hh, aZ]
 by_cases h50 : k = 50
 ·subst h50; simp [iC, hh, aZ]
 by_cases h51 : k = 51
 ·subst h51; simp [iC, hh, aZ]
 by_cases h110 : k = 110
 ·subst h110; simp [iC, hh, aZ]
 by_cases h115 : k = 115
 ·subst h115; simp [iC, hh, aZ]
 by_cases h73 : k = 73
 ·subst h73; simp [iC, hh, aZ]
 by_cases h67 : k = 67
 ·subst h67; simp [iC, hh, aZ]
 by_cases h68 : k = 68
 ·subst h68; simp [iC, hh, aZ]
 by_cases h84 : k = 84
 ·subst h84; simp [iC, hh, aZ]
 by_cases h116 : k = 116
 ·subst h116; simp [iC, hh, aZ]
 by_cases h69 : k = 69
 ·subst h69; simp [iC, hh, aZ]
 by_cases h78 : k = 78
 ·subst h78; simp [iC, hh, aZ]
 simp [iC, hh, aZ, h82, h83, h75, h90, h49, h50, h51, h110, h115, h73, h67, h68, h84, h116, h69, h78]
def tL (s : Int) : Bool := s == 73 || (s == 84 || s == 69)
theorem Dw (s : Int) (h : List (List AV)) : Contract Tryz.prog 155 [.v (.int .u8 s)] h (.v (.bool (tL s))) h [] := by
 refine ab Ou mixed (by simp [CP]) fun hh hargs => ?_
 cases h1 : s == 73 with
 | true => simp [CP, hh, tL, h1]
 | false =>
  cases h2 : s == 84 <;> simp [CP, hh, tL, h1, h2]
def gr (m : Bk) : Prop := m.oids.length <= 140737488355328 /\ m.cols.length <= 140737488355328 /\ m.row.length <= 140737488355328 /\ m.fields.length <= 140737488355328 /\ (∀ c ∈ m.row, c.2.length <= 140737488355328)
def js (a b : Co) : Bool := a.name == b.name && (a.table == b.table && (a.attr == b.attr && (a.oid == b.oid && (a.size == b.size && (a.mod == b.mod && (a.format == b.format && true))))))
def jy (a b : Fi) : Bool := a.code == b.code && (a.text == b.text && true)
theorem r7 (a b : Co) : js a b = (a == b) := by
 obtain ⟨a1, a2, a3, a4, a5, a6, a7⟩ := a
 obtain ⟨b1, b2, b3, b4, b5, b6, b7⟩ := b
 rw [Ra]; simp [js]
theorem rn (a b : Fi) : jy a b = (a == b) := by
 obtain ⟨a1, a2⟩ := a
 obtain ⟨b1, b2⟩ := b
 rw [Ra]; simp [jy]
theorem y2 (l m : List Co) (hl : l.length <= 140737488355328) (h : List (List AV)) : Contract Tryz.prog 168 [.sl 7 (ai gM l) none .no, .sl 7 (ai gM m) none .no] h (.v (.bool (l == m))) h [] := by
 have := pn mixed N7 js gM (by simp) (by simp) (fun x y => by simp [zw, js]) l m h hl
 rwa [show js = (· == ·) from funext fun a => funext fun b => r7 a b, eU] at this
theorem vl (l m : List Fi) (hl : l.length <= 140737488355328) (h : List (List AV)) : Contract Tryz.prog 170 [.sl 2 (ai lC l) none .no, .sl 2 (ai lC m) none .no] h (.v (.bool (l == m))) h [] := by
 have := pn mixed Pv jy lC (by simp) (by simp) (fun x y => by simp [pp, jy]) l m h hl
 rwa [show jy = (· == ·) from funext fun a => funext fun b => rn a b, eU] at this
def kL (a b : Bk) : Bool := a.kind == b.kind && (a.status == b.status && (a.tag == b.tag && (a.name == b.name && (a.value == b.value && (a.n == b.n && (a.m == b.m && (a.oids == b.oids && (a.cols == b.cols && (a.row == b.row && a.fields == b.fields)))))))))
theorem DB (a b : Bk) (ha : gr a) (h : List (List AV)) : Contract Tryz.prog 145 [.agg (eH a), .agg (eH b)] h (.v (.bool (kL a b))) h [] := by
 obtain ⟨q1, q2, q3, q4, _⟩ := ha
 refine ab OK mixed (by simp [qP]) fun hh hargs => ?_
 unfold kL
 cases p0 : a.kind == b.kind with
 | false => simp [qP, hh, p0]
 | true =>
 cases p1 : a.status == b.status with
 | false => simp [qP, hh, p0, p1]
 | true =>
 cases p2 : a.tag == b.tag with
 | false => simp [qP, hh, p0, p1, p2]
 | true =>
 cases p3 : a.name == b.name with
 | false => simp [qP, hh, p0, p1, p2, p3]
 | true =>
 cases p4 : a.value == b.value with
 | false => simp [qP, hh, p0, p1, p2, p3, p4]
 | true =>
 cases p5 : a.n == b.n with
 | false => simp [qP, hh, p0, p1, p2, p3, p4, p5]
 | true =>
 cases p6 : a.m == b.m with
 | false => simp [qP, hh, p0, p1, p2, p3, p4, p5, p6]
 | true =>
 simp [qP, p0, p1, p2, p3, p4, p5, p6]
 refine aa (by simp) (vT _ _ q1 _) ?_
 cases p7 : a.oids == b.oids with
 | false => simp [hh]
 | true =>
 simp
 refine aa (by simp) (y2 _ _ q2 _) ?_
 cases p8 : a.cols == b.cols with
 | false => simp [hh]
 | true =>
 simp
 refine aa (by simp) (C9 _ _ q3 _) ?_
 cases p9 : a.row == b.row with
 | false => simp [hh]
 | true =>
 simp
 refine aa (by simp) (vl _ _ q4 _) ?_
 simp [hh]
def gL (m : Bk) : Bool := !(m.kind == 90) || tL m.status
theorem yV (m : Bk) (h : List (List AV)) : Contract Tryz.prog 141 [.agg (eH m)] h (.v (.bool (gL m))) h [] := by
 refine ab Oj mixed (by simp [BX]) fun hh hargs => ?_
 unfold gL
 cases h1 : m.kind == 90 with
 | false =>
  have e1 : (m.kind != 90) = true := by simp [bne, h1]
  simp [BX, hh, e1]
 | true =>
  have e1 : (m.kind != 90) = false := by simp [bne, h1]
  simp [BX, e1]
  refine aa (by simp) (Dw _ _) ?_
  simp [hh]
def uo (c : Co) : Bool := bv c.name && ((fT 4 c.table && fT 4 c.oid) && ((fT 2 c.attr && fT 2 c.format) && (lZ 2 c.size && lZ 4 c.mod)))
theorem CB (c : Co) (h : List (List AV)) : Contract Tryz.prog 159 [.agg (gM c)] h (.v (.bool (uo c))) h [] := by
 refine ab N2 mixed (by simp [Hf]) fun hh hargs => ?_
 unfold uo
 simp [Hf]
 refine aj (pQ [c.name] (by simp) _) (by simp [fS]) (by simp) ?_
 simp only [Q0, Q3, Q1]
 cases p1 : bv c.name with
 | false => simp [hh]
 | true =>
 simp
 refine aj (sP 4 [c.table, c.oid] (by simp) _) (by simp [ao]) (by simp) ?_
 simp only [Q0, Q3, Q1]
 cases p2 : (fT 4 c.table && fT 4 c.oid) with
 | false => simp [hh]
 | true =>
 simp
 refine aj (sP 2 [c.attr, c.format] (by simp) _) (by simp [ao]) (by simp) ?_
 simp only [Q0, Q3, Q1]
 cases p3 : (fT 2 c.attr && fT 2 c.format) with
 | false => simp [hh]
 | true =>
 simp
 refine aj (Bb 2 [c.size] (by simp) _) (by simp [ao]) (by simp) ?_
 simp only [Q0, Q3, Q1]
 cases p4 : lZ 2 c.size with
 | false => simp [hh]
 | true =>
 simp
 refine aj (Bb 4 [c.mod] (by simp) _) (by simp [ao]) (by simp) ?_
 simp [hh]
def cS (f : Fi) : Bool := !(f.code == 0) && bv f.text
theorem yv (f : Fi) (h : List (List AV)) : Contract Tryz.prog 162 [.agg (lC f)] h (.v (.bool (cS f))) h [] := by
 refine ab Ni mixed (by simp [C6]) fun hh hargs => ?_
 unfold cS
 cases h1 : f.code == 0 with
 | true =>
  have e1 : (f.code != 0) = false := by simp [bne, h1]
  simp [C6, hh, e1]
 | false =>
  have e1 : (f.code != 0) = true := by simp [bne, h1]
  simp [C6, e1]
  refine aj (pQ [f.text] (by simp) _) (by simp [fS]) (by simp) ?_
  simp [hh]
theorem EO (c : Co) (h : List (List AV)) : Contract Tryz.prog 158 [.agg (gM c)] h (.v (.bool (!uo c))) h [] := by
 refine ab M4 mixed (by simp [Gb]) fun hh hargs => ?_
 simp [Gb]
 refine aa (by simp) (CB _ _) ?_
 simp [hh]
theorem EK (c : Fi) (h : List (List AV)) : Contract Tryz.prog 161 [.agg (lC c)] h (.v (.bool (!cS c))) h [] := by
 refine ab Mw mixed (by simp [Hx]) fun hh hargs => ?_
 simp [Hx]
 refine aa (by simp) (yv _ _) ?_
 simp [hh]
def B1 (m : Bk) : Bool := decide ((m.oids.length : Int) <= 65535 /\ (m.cols.length : Int) <= 65535 /\ (m.row.length : Int) <= 65535 /\ (m.fields.length : Int) <= 65535)
def jT (m : Bk) : Bool := B1 m && (m.oids.all (fT 4) && (m.row.all dx && (m.cols.all uo && m.fields.all cS)))
theorem yR (m : Bk) (hf : gr m) (h : List (List AV)) : Contract Tryz.prog 142 [.agg (eH m)] h (.v (.bool (jT m))) h [] := by
 obtain ⟨q1, q2, q3, q4, q5⟩ := hf
 refine ab N4 mixed (by simp [Cw]) fun hh hargs => ?_
 unfold jT
 by_cases hL : (m.oids.length : Int) <= 65535 /\ (m.cols.length : Int) <= 65535 /\ (m.row.length : Int) <= 65535 /\ (m.fields.length : Int) <= 65535
 ·have e : B1 m = true := decide_eq_true hL
  rw [e]
  obtain ⟨l1, l2, l3, l4⟩ := hL
  simp [Cw, l1, l2, l3, l4]
  refine aa (by simp) (sP 4 _ q1 _) ?_
  cases p1 : m.oids.all (fT 4) with
  | false => simp [hh]
  | true =>
  simp
  refine aa (by simp) (zc _ q3 q5 _) ?_
  cases p2 : m.row.all dx with
  | false => simp [hh]
  | true =>
  simp
  refine aa (by simp) (dB mixed Pq Pn gM (fun c => !uo c) m.cols [] _ (by simp) (by simp) (by simp) (fun c _ => EO c _) q2) ?_
  rw [<- Q6]
  cases p3 : m.cols.all uo with
  | false => simp [hh]
  | true =>
  simp
  refine aa (by simp) (dB mixed Nq NO lC (fun c => !cS c) m.fields [] _ (by simp) (by simp) (by simp) (fun c _ => EK c _) q4) ?_
  rw [<- Q6]
  simp [hh]
 ·have e : B1 m = false := decide_eq_false hL
  rw [e]
  simp [Cw, hL, hh]
def cg (m : Bk) : Bk :=
 if m.kind = 83 then ⟨83, 0, [], m.name, m.value, 0, 0, [], [], [], []⟩
 else if m.kind = 75 then ⟨75, 0, [], [], [], m.n, m.m, [], [], [], []⟩
 else if m.kind = 90 then ⟨90, m.status, [], [], [], 0, 0, [], [], [], []⟩
 else if m.kind = 67 then ⟨67, 0, m.tag, [], [], 0, 0, [], [], [], []⟩
 else if m.kind = 68 then ⟨68, 0, [], [], [], 0, 0, [], [], m.row, []⟩
 else if m.kind = 84 then ⟨84, 0, [], [], [], 0, 0, [], m.cols, [], []⟩
 else if m.kind = 116 then ⟨116, 0, [], [], [], 0, 0, m.oids, [], [], []⟩
 else if m.kind = 69 then ⟨69, 0, [], [], [], 0, 0, [], [], [], m.fields⟩
 else if m.kind = 78 then ⟨78, 0, [], [], [], 0, 0, [], [], [], m.fields⟩
 else ⟨m.kind, 0, [], [], [], 0, 0, [], [], [], []⟩
theorem Do (m : Bk) (h : List (List AV)) : Contract Tryz.prog 146 [.agg (eH m)] h (.agg (eH (cg m))) h [] := by
 refine ab NY mixed (by simp [nQ]) fun hh hargs => ?_
 by_cases h83 : m.kind = 83
 ·simp [nQ, bW, hh, cg, h83]
 by_cases h75 : m.kind = 75
 ·simp [nQ, bW, hh, cg, h75]
 by_cases h90 : m.kind = 90
 ·simp [nQ, bW, hh, cg, h90]
 by_cases h67 : m.kind = 67
 ·simp [nQ, bW, hh, cg, h67]
 by_cases h68 : m.kind = 68
 ·simp [nQ, bW, hh, cg, h68]
 by_cases h84 : m.kind = 84
 ·simp [nQ, bW, hh, cg, h84]
 by_cases h116 : m.kind = 116
 ·simp [nQ, bW, hh, cg, h116]
 by_cases h69 : m.kind = 69
 ·simp [nQ, bW, hh, cg, h69]
 by_cases h78 : m.kind = 78
 ·simp [nQ, bW, hh, cg, h78]
 simp [nQ, bW, hh, cg, h83, h75, h90, h67, h68, h84, h116, h69, h78]
def er (m : Bk) : Bool := bv m.tag && (bv m.name && bv m.value)
def tE (m : Bk) : Bool := fT 4 m.n && fT 4 m.m
def ci (m : Bk) : Int :=
 if aZ m.kind = false then 9
 else if gL m && (jT m && (er m && (tE m && kL m (cg m)))) then 0 else 1
theorem AC (m : Bk) (hf : gr m) (h : List (List AV)) : Contract Tryz.prog 123 [.agg (eH m)] h (.v (.int .i64 (ci m))) h [] := by
 refine ab O0 mixed (by simp [EL]) fun hh hargs => ?_
 simp [EL]
 refine aa (by simp) (Ce _ _) ?_
 cases hk : aZ m.kind with
 | false => simp [hh, ci, hk]
 | true =>
 have e : ci m = if gL m && (jT m && (er m && (tE m && kL m (cg m)))) then 0 else 1 := by unfold ci; rw [hk]; rfl
 rw [e]
 simp
 refine aa (by simp) (yV m _) ?_
 cases p1 : gL m with
 | false => simp [hh]
 | true =>
 simp
 refine aa (by simp) (yR m hf _) ?_
 cases p2 : jT m with
 | false => simp [hh]
 | true =>
 simp
 refine aj (pQ [m.tag, m.name, m.value] (by simp) _) (by simp [fS]) (by simp) ?_
 have hc : (bv m.tag && (bv m.name && bv m.value)) = er m := rfl
 simp only [Q0, Q3, Q1, hc]
 cases p3 : er m with
 | false => simp [hh]
 | true =>
 simp
 refine aj (sP 4 [m.n, m.m] (by simp) _) (by simp [ao]) (by simp) ?_
 have hn : (fT 4 m.n && fT 4 m.m) = tE m := rfl
 simp only [Q0, Q3, Q1, hn]
 cases p4 : tE m with
 | false => simp [hh]
 | true =>
 simp
 refine aa (by simp) (Do m _) ?_
 simp
 refine aa (by simp) (DB m (cg m) hf _) ?_
 cases p5 : kL m (cg m) <;> simp [hh]
theorem Bz (e : Co -> List UInt8) (l : List Co) (g : FuncId) (cap : List AV) (h : List (List AV)) (hl : (bV e l).length <= 140737488355328) (hl2 : l.length <= 140737488355328) (hcap : ∀ c ∈ cap, c.idOf = none) (hlt : dP h.length cap)
  (hg : ∀ n, n ∈ l -> ∀ h', Contract Tryz.prog g (.agg (gM n) :: cap) (h ++ h') (.sl 1 (af (e n)) none (.own .res)) (h ++ h') []) :
  Contract Tryz.prog 151 [.sl 7 (ai gM l) none .no, .fn (.func g) [] cap] h (.sl 1 (af (bV e l)) none (.own .res)) h [] := by
 refine ab O2 mixed (by simp [GQ]) fun hh hargs => ?_
 simp at hargs
 simp [GQ]
 refine aj (kB [] l.length 2 (by simp) h) (by simp) (by simp) ?_
 simp
 refine am (D := Nat) (fun j => ⟨[(1, .fn (.func g) [] cap), (11, .sl 7 (ai gM l) none .no), (12, .v (.int .i64 l.length)), (13, .v (.int .i64 j))], [(5, .sl 1 (af (bo [] l.length 2 ++ (l.take j).flatMap e)) none (.own (.slot 5)))], h, []⟩) (fun j => j <= l.length) (fun j => l.length - j) 0 (by simp) ?_ ?_
 ·simp [Leq, hh, hargs]
 ·intro j hj
  by_cases hlt : j < l.length
  ·have hlt' : (j : Int) < l.length := by omega
   have hw : IntKind.i64.wrap ((j : Int) + 1) = (j : Int) + 1 := wrap64 (by omega) (by omega)
   obtain ⟨hx, hb⟩ := cK e l (bo [] l.length 2).length j hlt _ (by simpa [bV] using hl)
   have hq : ∀ y ∈ (AV.agg (gM l[j])) :: cap, y.idOf = none := by simpa using hcap
   simp [hlt, hlt']
   refine ⟨hcap, aa hq (hg l[j] (Q5 _) _) ?_⟩
   simp [bZ hq, bZ hcap, hw, -Q2]
   refine ⟨by omega, j + 1, by omega, by omega, ?_⟩
   simp [Leq, hh, hargs, hx]
  ·have hlt' : ¬ (j : Int) < l.length := by omega
   have : j = l.length := by omega
   subst this
   simp [hh, bV]
theorem jU (n : Int) (h : List (List AV)) : Contract Tryz.prog 147 [.v (.int .i64 n)] h (.sl 1 (af (aB 4 n)) none (.own .res)) h [] := by
 refine ab Ns mixed (by simp [E3]) fun hh hargs => ?_
 simp [E3]
 refine aj (kB [] n 4 (by simp) h) (by simp) (by simp) ?_
 simp [hh, aB]
theorem qx (n : Int) (h : List (List AV)) : Contract Tryz.prog 174 [.v (.int .i64 n)] h (.sl 1 (af (aB 2 n)) none (.own .res)) h [] := by
 refine ab N8 mixed (by simp [Gh]) fun hh hargs => ?_
 simp [Gh]
 refine aj (kB [] n 2 (by simp) h) (by simp) (by simp) ?_
 simp [hh, aB]
theorem dA (size n : Int) (h : size <= 4) : (aB size n).length <= 4 := by
 have := put_len n size h []
 simpa [aB] using this
def ll (c : Co) : List UInt8 := bX [c.name] ++ (aB 4 c.table ++ (aB 2 c.attr ++ (aB 4 c.oid ++ (aB 2 c.size ++ (aB 4 c.mod ++ aB 2 c.format)))))
theorem FF (c : Co) (hl : c.name.length <= 70000000000000) (h : List (List AV)) : Contract Tryz.prog 152 [.agg (gM c)] h (.sl 1 (af (ll c)) none (.own .res)) h [] := by
 have ht : (bX [c.name]).length = c.name.length + 1 := by simp [bX, He.encT]
 have l1 := dA 4 c.table (by omega)
 have l2 := dA 2 c.attr (by omega)
 have l3 := dA 4 c.oid (by omega)
 have l4 := dA 2 c.size (by omega)
 have l5 := dA 4 c.mod (by omega)
 have l6 := dA 2 c.format (by omega)
 refine ab N6 mixed (by simp [E7]) fun hh hargs => ?_
 simp [E7]
 refine aj (lI [c.name] (by omega) _) (by simp [fS]) (by simp) ?_
 simp
 refine aa (by simp) (jU _ _) ?_
 simp
 refine aa (by simp) (qx _ _) ?_
 simp
 refine aa (by simp) (jU _ _) ?_
 simp
 refine aa (by simp) (qx _ _) ?_
 simp
 refine aa (by simp) (jU _ _) ?_
 simp
 refine aa (by simp) (qx _ _) ?_
 simp
 refine aj (uL [bX [c.name], aB 4 c.table, aB 2 c.attr, aB 4 c.oid, aB 2 c.size, aB 4 c.mod, aB 2 c.format] _ (by simp; omega) (by simp)) (by simp [po]) (by simp) ?_
 simp [hh, ll]
def fr (f : Fi) : List UInt8 := Q4 f.code.toNat :: bX [f.text]
def fN (l : List Fi) : List UInt8 := l.flatMap fr ++ [0]
theorem yf (l : List Fi) (hl : (fN l).length <= 140737488351232) (hn : l.length <= 140737488355328) (hc : ∀ f ∈ l, 0 <= f.code /\ f.code < 256) (h : List (List AV)) : Contract Tryz.prog 154 [.sl 2 (ai lC l) none .no] h (.sl 1 (af (fN l)) none (.own .res)) h [] := by
 refine ab On mixed (by simp [HT]) fun hh hargs => ?_
 unfold fN at hl
 rw [Q7, List.length_singleton] at hl
 simp [HT]
 refine am (D := Nat) (fun j => ⟨[(6, .sl 2 (ai lC l) none .no), (7, .v (.int .i64 l.length)), (8, .v (.int .i64 j))], [(3, .sl 1 (af ((l.take j).flatMap fr)) none (.own (.slot 3)))], h, []⟩) (fun j => j <= l.length) (fun j => l.length - j) 0 (by simp) ?_ ?_
 ·simp [Leq, hh]
 ·intro j hj
  by_cases hlt : j < l.length
  ·have hw : IntKind.i64.wrap ((j : Int) + 1) = (j : Int) + 1 := wrap64 (by omega) (by omega)
   obtain ⟨hx, hb⟩ := cK fr l 1 j hlt 140737488351232 (by omega)
   have hc1 := hc l[j] (Q5 _)
   have hc3 : max l[j].code 0 % 256 = l[j].code := by omega
   unfold fr at hb
   rw [Q9] at hb
   change 1 + ((List.flatMap fr (List.take j l)).length + _) <= _ at hb
   simp [hlt, -Q2]
   refine ⟨by omega, ?_⟩
   refine aj (lI [l[j].text] (by omega) _) (by simp [fS]) (by simp) ?_
   simp [hw, -Q2]
   refine ⟨by omega, j + 1, by omega, by omega, ?_⟩
   simp [Leq, hh, hx, fr, hc3]
  ·have : j = l.length := by omega
   subst this
   simp [hh, fN, -Q2]
   omega
def bM (m : Bk) : List UInt8 :=
 if m.kind = 82 then aB 4 0
 else if m.kind = 83 then bX [m.name, m.value]
 else if m.kind = 75 then aB 4 m.n ++ aB 4 m.m
 else if m.kind = 90 then [Q4 m.status.toNat]
 else if m.kind = 67 then bX [m.tag]
 else if m.kind = 68 then bV eg m.row
 else if m.kind = 84 then bV ll m.cols
 else if m.kind = 116 then bV (aB 4) m.oids
 else if m.kind = 69 \/ m.kind = 78 then fN m.fields
 else []
def sf (m : Bk) : Prop := (0 <= m.status /\ m.status < 256) /\ (∀ c ∈ m.row, c.2.length <= 70000000000000) /\ (∀ c ∈ m.cols, c.name.length <= 70000000000000) /\ ∀ f ∈ m.fields, 0 <= f.code /\ f.code < 256
theorem B7 (m : Bk) (hf : gr m) (ho : sf m) (hb : (bM m).length <= 140737488351232) (h : List (List AV)) : Contract Tryz.prog 124 [.agg (eH m)] h (.sl 1 (af (bM m)) none .no) h [] := by
 obtain ⟨q1, q2, q3, q4, q5⟩ := hf
 obtain ⟨o1, o2, o3, o4⟩ := ho
 refine ab Mq mixed (by simp [nR]) fun hh hargs => ?_
 unfold bM at hb ⊢
 by_cases h82 : m.kind = 82
 ·simp [nR, h82]
  refine aa (by simp) (jU 0 _) ?_
  simp [hh]
 rw [if_neg h82] at hb ⊢
 by_cases h83 : m.kind = 83
 ·rw [if_pos h83] at hb
  simp [nR, h83]
  refine aj (lI [m.name, m.value] (by omega) _) (by simp [fS]) (by simp) ?_
  simp [hh]
 rw [if_neg h83] at hb ⊢
 by_cases h75 : m.kind = 75
 ·have l1 := dA 4 m.n (by omega)
  have l2 := dA 4 m.m (by omega)
  simp [nR, h75]
  refine aa (by simp) (jU _ _) ?_
  simp
  refine aa (by simp) (jU _ _) ?_
  simp
  refine aj (uL [aB 4 m.n, aB 4 m.m] _ (by simp; omega) (by simp)) (by simp [po]) (by simp) ?_
  simp [hh]
 rw [if_neg h75] at hb ⊢
 by_cases h90 : m.kind = 90
 ·have hw : max m.status 0 % 256 = m.status := by omega
  simp [nR, h90, hh, hw]
 rw [if_neg h90] at hb ⊢
 by_cases h67 : m.kind = 67
 ·rw [if_pos h67] at hb
  simp [nR, h67]
  refine aj (lI [m.tag] (by omega) _) (by simp [fS]) (by simp) ?_
  simp [hh]
 rw [if_neg h67] at hb ⊢
 by_cases h68 : m.kind = 68
 ·rw [if_pos h68] at hb
  simp [nR, h68]
  refine aa (by simp) (ye m.row _ (by omega) q3 o2) ?_
  simp [hh]
 rw [if_neg h68] at hb ⊢
 by_cases h84 : m.kind = 84
 ·rw [if_pos h84] at hb
  simp [nR, h84]
  refine aa (by simp) (Bz ll m.cols _ [] _ (by omega) q2 (by simp) (by simp) fun n hn h' => FF n (o3 n hn) _) ?_
  simp [hh]
 rw [if_neg h84] at hb ⊢
 by_cases h116 : m.kind = 116
 ·rw [if_pos h116] at hb
  simp [nR, h116]
  refine aa (by simp) (wg 4 m.oids _ (by omega) q1) ?_
  simp [hh]
 rw [if_neg h116] at hb ⊢
 by_cases h69 : m.kind = 69 \/ m.kind = 78
 ·rw [if_pos h69] at hb
  rcases h69 with h69 | h69
  all_goals
   simp [nR, h69]
   refine aa (by simp) (yf m.fields (by omega) q4 o4 _) ?_
   simp [hh]
 have h69' : ¬ m.kind = 69 := fun h => h69 (.inl h)
 have h78' : ¬ m.kind = 78 := fun h => h69 (.inr h)
 rw [if_neg h69]
 simp [nR, h82, h83, h75, h90, h67, h68, h84, h116, h69', h78', hh]
def qy (m : Bk) : Ms × Int := if ci m = 0 then (⟨m.kind, bM m⟩, 0) else (⟨0, []⟩, ci m)
theorem BS {m : Bk} (h : ci m = 0) : qy m = (⟨m.kind, bM m⟩, 0) := by unfold qy; rw [if_pos h]
theorem xa {m : Bk} (h : ¬ ci m = 0) : qy m = (⟨0, []⟩, ci m) := by unfold qy; rw [if_neg h]
theorem x4 (m : Bk) (hf : gr m) (ho : sf m) (hb : (bM m).length <= 140737488351232) (h : List (List AV)) : Contract Tryz.prog 100 [.agg (eH m)] h (.tup [.agg (xW (qy m).1), .v (.int .i64 (qy m).2)]) h [] := by
 refine ab Nt mixed (by simp [EP]) fun hh hargs => ?_
 simp [EP]
 refine aa (by simp) (AC m hf _) ?_
 by_cases he : ci m = 0
 ·simp [he]
  refine aa (by simp) (B7 m hf ho hb _) ?_
  simp [hh, qy, he, eL]
 ·simp [he, hh, qy, eL]
open He (textL)
def nT (m : Bk) : List UInt8 := if ci m = 0 then Q4 m.kind.toNat :: (aB 4 ((bM m).length + 4) ++ bM m) else []
theorem xc {m : Bk} (h : ci m = 0) : nT m = Q4 m.kind.toNat :: (aB 4 ((bM m).length + 4) ++ bM m) := by unfold nT; rw [if_pos h]
theorem wR {m : Bk} (h : ¬ ci m = 0) : nT m = [] := by unfold nT; rw [if_neg h]
theorem C7 (size n : Int) : aB size n = bo [] n size := rfl
def cT (l : List Bk) : List UInt8 := l.flatMap nT
theorem vS {k : Int} (h : aZ k = true) : 0 <= k /\ k < 256 := by
 unfold aZ at h
 have := of_decide_eq_true h
 omega
theorem nD {m : Bk} (h : ci m = 0) : aZ m.kind = true := by
 cases hk : aZ m.kind with
 | true => rfl
 | false => unfold ci at h; rw [hk] at h; cases h
theorem wT (l : List Bk) {M : Nat} (hl : (cT l).length <= M) (j : Nat) (hlt : j < l.length) : cT (l.take (j + 1)) = cT (l.take j) ++ nT l[j] /\ (cT (l.take j)).length + (nT l[j]).length <= M := by
 unfold cT at *
 obtain ⟨hx, hb⟩ := cK nT l 0 j hlt M (by rw [Rb]; exact hl)
 exact ⟨hx, by rw [Rb] at hb; exact hb⟩
theorem BD {m : Bk} (h : ci m = 0) : (nT m).length = (aB 4 ((bM m).length + 4)).length + (bM m).length + 1 := by
 rw [xc h, Q9, Q7]
theorem KB {a n b : Nat} (h : a + (n + b + 1) <= 140737488351232) : a <= 140737488355327 /\ a + 1 + n <= 140737488355328 /\ a + 1 + n + b <= 140737488355328 := by omega
theorem E6 {a : Nat} {m : Bk} (h : ci m = 0) (hb : a + (nT m).length <= 140737488351232) : a <= 140737488355327 /\ a + 1 + (aB 4 ((bM m).length + 4)).length <= 140737488355328 /\ a + 1 + (aB 4 ((bM m).length + 4)).length + (bM m).length <= 140737488355328 := by
 rw [BD h] at hb
 exact KB hb
theorem w1 (x : Nat) (f3 : x <= 140737488351232) : IntKind.i64.wrap ((x : Int) + 4) = (x : Int) + 4 := wrap64 (by omega) (by omega)
theorem ND (k : Int) (hk : 0 <= k /\ k < 256) : max k 0 % 256 = k := by omega
theorem Hd (n : Int) (h : List (List AV)) : Contract Tryz.prog 85 [.sl 1 (af []) none .no, .v (.int .i64 n), .v (.int .i64 4)] h (.sl 1 (af (aB 4 n)) none (.own .res)) h [] := by
 rw [C7]
 exact kB [] n 4 (by simp) h
theorem wy (B E X : List UInt8) (k : Int) (hk : max k 0 % 256 = k) : af (B ++ Q4 k.toNat :: (E ++ X)) = af B ++ [[AV.v (.int .u8 k)]] ++ af E ++ af X := by simp [hk]
theorem zi (l : List Bk) (hf : ∀ m ∈ l, gr m /\ sf m /\ (bM m).length <= 140737488351232) (hl : (cT l).length <= 140737488351232) (hn : l.length <= 140737488351232) (h : List (List AV)) : Contract Tryz.prog 68 [.sl 11 (ai eH l) none .no] h (.sl 1 (af (cT l)) none (.own .res)) h [] := by
 refine ab QH mixed (by simp [ML]) fun hh hargs => ?_
 simp [ML]
 refine am (D := Nat) (fun j => ⟨[(8, .sl 11 (ai eH l) none .no), (9, .v (.int .i64 l.length)), (10, .v (.int .i64 j))], [(3, .sl 1 (af (cT (l.take j))) none (.own (.slot 3)))], h, []⟩) (fun j => j <= l.length) (fun j => l.length - j) 0 (by simp) ?_ ?_
 ·simp [Leq, hh, cT]
 ·intro j hj
  by_cases hlt : j < l.length
  ·have hw : IntKind.i64.wrap ((j : Int) + 1) = (j : Int) + 1 := wrap64 (by omega) (by omega)
   obtain ⟨hx', hb'⟩ := wT l hl j hlt
   obtain ⟨f1, f2, f3⟩ := hf l[j] (Q5 _)
   simp [hlt]
   generalize l[j] = m at *
   refine aa (by simp) (x4 m f1 f2 f3 _) ?_
   by_cases he : ci m = 0
   ·have e1 : qy m = (⟨m.kind, bM m⟩, 0) := if_pos he
    have e2 : nT m = Q4 m.kind.toNat :: (aB 4 ((bM m).length + 4) ++ bM m) := if_pos he
    have hk3 := ND m.kind (vS (nD he))
    have hw2 := w1 (bM m).length f3
    obtain ⟨b1, b2, b3⟩ := E6 he hb'
    rw [e2] at hx'
    rw [e1]
    clear hb' e1 e2 hl hf f1 f2 f3
    simp [hw2]
    refine ⟨b1, ?_⟩
    clear hw2
    generalize ((bM m).length : Int) + 4 = n at *
    refine aj (Hd n _) (by simp) (by simp) ?_
    generalize aB 4 n = E at *
    generalize bM m = X at *
    simp [hw, -Q8]
    refine ⟨b2, b3, j + 1, by omega, by omega, ?_⟩
    have hx2 := wy (cT (l.take j)) E X m.kind hk3
    rw [<- hx'] at hx2
    simp [Leq, hh, hx2, -Q8]
   ·have e2 := wR he
    rw [e2, List.append_nil] at hx'
    rw [xa he]
    simp [he, hw]
    refine ⟨j + 1, by omega, by omega, ?_⟩
    simp [Leq, hh, hx']
  ·have : j = l.length := by omega
   subst this
   simp [hh]
end Go.Proofs.YtdfgljojemmlcaaGreat.Ax
namespace Go.Proofs.YtdfgljojemmlcaaGreat.Ax
open Go.RowKit Go By Go.Proofs.YtdfgljojemmlcaaGreat.Nm Sc Dg
open He (textL)
theorem C1 (n : Int) : cn n 2 = if 32768 <= n /\ n < 65536 then n - 65536 else n := by
 have e : szB 2 = true := rfl
 have e2 : iv 2 = 65536 := rfl
 unfold cn
 rw [e, e2]
 simp only [true_and]
 split <;> split <;> omega
section
variable (st : Sta)
end
section
variable {m : Bk}
end
end Go.Proofs.YtdfgljojemmlcaaGreat.Ax
namespace Go.Proofs.YtdfgljojemmlcaaGreat.Ax
open Go.RowKit Go By Go.Proofs.YtdfgljojemmlcaaGreat.Nm Sc Dg
open He (textL)
set_option maxRecDepth 10000
end Go.Proofs.YtdfgljojemmlcaaGreat.Ax
