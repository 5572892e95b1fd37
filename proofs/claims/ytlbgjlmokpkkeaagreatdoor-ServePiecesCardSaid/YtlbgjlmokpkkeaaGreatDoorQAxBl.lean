import Derived.Test.YtlbgjlmokpkkeaaGreatDoorQAxFl
open List renaming all_cons -> aaa, length_flatMap -> aac, all_nil -> aad, not_all_eq_any_not -> aae, getElem_mem -> aag
open Bool renaming and_true -> aab, eq_iff_iff -> aaf
open UInt8 renaming ofNat -> aah
set_option linter.all false
set_option maxRecDepth 10000
namespace Go.Proofs.YtlbgjlmokpkkeaaGreatDoor
namespace Ax
open Go.RowKit Go By
def Vm:XFun:=⟨9,.seq (.ops [oK 4 (.bool false)]) (.seq (.ops [oM 5 0,oM 6 1,oC 7 208 [5,6],oI 8 .geq 7 (.int .i64 0),oA 4 8]) .ret),[.move (.tmp 4)]⟩
theorem Xv:aj Tryz.prog 152=some Vm:=by kernel_rfl
def Vx:XFun:=⟨19,.seq (.ops [oK 4 (.int .i64 0)]) (.seq (.seq (.ops [oM 6 0,oH 7 6,oX 8 (.move (.const (.int .i64 0)))]) (.block 0 (.loop (.seq (.ops [oB 9 .lss 8 7]) (.seq (.cond (.tmp 9) .skip (.exit 0)) (.seq (.block 1 (.seq (.ops [oM 10 8,oA 5 10]) (.seq (.ops [oM 11 1,oM 12 0,oM 13 5,oW 14 7 12 13,oP 15 7 14,oX 16 (.callv (.tmp 11) [.tmp 15])]) (.cond (.tmp 16) (.seq (.ops [oM 17 5,oA 4 17]) .ret) .skip)))) (.ops [oI 18 .add 8 (.int .i64 1),oM 8 18]))))))) (.seq (.ops [oK 4 (.int .i64 (-1))]) .ret)),[.move (.tmp 4)]⟩
theorem X7:aj Tryz.prog 208=some Vx:=by kernel_rfl
def Vn:XFun:=⟨9,.seq (.ops [oK 4 (.bool false)]) (.seq (.ops [oM 5 0,oM 6 1,oC 7 210 [5,6],oI 8 .geq 7 (.int .i64 0),oA 4 8]) .ret),[.move (.tmp 4)]⟩
theorem Xy:aj Tryz.prog 155=some Vn:=by kernel_rfl
def Vy:XFun:=⟨19,.seq (.ops [oK 4 (.int .i64 0)]) (.seq (.seq (.ops [oM 6 0,oH 7 6,oX 8 (.move (.const (.int .i64 0)))]) (.block 0 (.loop (.seq (.ops [oB 9 .lss 8 7]) (.seq (.cond (.tmp 9) .skip (.exit 0)) (.seq (.block 1 (.seq (.ops [oM 10 8,oA 5 10]) (.seq (.ops [oM 11 1,oM 12 0,oM 13 5,oW 14 2 12 13,oP 15 2 14,oX 16 (.callv (.tmp 11) [.tmp 15])]) (.cond (.tmp 16) (.seq (.ops [oM 17 5,oA 4 17]) .ret) .skip)))) (.ops [oI 18 .add 8 (.int .i64 1),oM 8 18]))))))) (.seq (.ops [oK 4 (.int .i64 (-1))]) .ret)),[.move (.tmp 4)]⟩
theorem X9:aj Tryz.prog 210=some Vy:=by kernel_rfl
def Vs:XFun:=⟨26,.seq (.ops [oK 4 (.bool false)]) (.seq (.seq (.ops [oM 6 0,oH 7 6,oM 8 1,oH 9 8,oB 10 .neq 7 9]) (.cond (.tmp 10) (.seq (.ops [oK 4 (.bool false)]) .ret) .skip)) (.seq (.seq (.ops [oM 11 0,oH 12 11,oX 13 (.move (.const (.int .i64 0)))]) (.block 0 (.loop (.seq (.ops [oB 14 .lss 13 12]) (.seq (.cond (.tmp 14) .skip (.exit 0)) (.seq (.block 1 (.seq (.ops [oM 15 13,oA 5 15]) (.seq (.draws (.take (oM 16 0) (.take (oM 17 5) (.take (oW 18 7 16 17) (.take (oP 19 7 18) (.take (oM 20 1) (.take (oM 21 5) (.take (oW 22 7 20 21) (.take (oP 23 7 22) (.take (oX 24 (.aeq true [2,1,1,1,1,1,1] (.tmp 19) (.tmp 23))) .done)))))))))) (.cond (.tmp 24) (.seq (.ops [oK 4 (.bool false)]) .ret) .skip)))) (.ops [oI 25 .add 13 (.int .i64 1),oM 13 25]))))))) (.seq (.ops [oK 4 (.bool true)]) .ret))),[.move (.tmp 4)]⟩
theorem XF:aj Tryz.prog 165=some Vs:=by kernel_rfl
def Vt:XFun:=⟨26,.seq (.ops [oK 4 (.bool false)]) (.seq (.seq (.ops [oM 6 0,oH 7 6,oM 8 1,oH 9 8,oB 10 .neq 7 9]) (.cond (.tmp 10) (.seq (.ops [oK 4 (.bool false)]) .ret) .skip)) (.seq (.seq (.ops [oM 11 0,oH 12 11,oX 13 (.move (.const (.int .i64 0)))]) (.block 0 (.loop (.seq (.ops [oB 14 .lss 13 12]) (.seq (.cond (.tmp 14) .skip (.exit 0)) (.seq (.block 1 (.seq (.ops [oM 15 13,oA 5 15]) (.seq (.draws (.take (oM 16 0) (.take (oM 17 5) (.take (oW 18 2 16 17) (.take (oP 19 2 18) (.take (oM 20 1) (.take (oM 21 5) (.take (oW 22 2 20 21) (.take (oP 23 2 22) (.take (oX 24 (.aeq true [1,2] (.tmp 19) (.tmp 23))) .done)))))))))) (.cond (.tmp 24) (.seq (.ops [oK 4 (.bool false)]) .ret) .skip)))) (.ops [oI 25 .add 13 (.int .i64 1),oM 13 25]))))))) (.seq (.ops [oK 4 (.bool true)]) .ret))),[.move (.tmp 4)]⟩
theorem XH:aj Tryz.prog 167=some Vt:=by kernel_rfl
def M6:XFun:=⟨24,.seq (.ops [oN 4]) (.seq (.ops [oM 8 0,oH 9 8,oX 10 (.call 168 [.const (.slice none 0 0),.tmp 9,.const (.int .i64 2)]),oA 5 10]) (.seq (.seq (.ops [oM 11 0,oH 12 11,oX 13 (.move (.const (.int .i64 0)))]) (.block 0 (.loop (.seq (.ops [oB 14 .lss 13 12]) (.seq (.cond (.tmp 14) .skip (.exit 0)) (.seq (.block 1 (.seq (.ops [oW 15 7 11 13,oP 16 7 15,oZ 7 I9,oS 7 7 16]) (.ops [oM 17 5,oM 18 1,oP 19 7 7,oX 20 (.callv (.tmp 18) [.tmp 19]),oX 21 (.append 1 1 (.tmp 17) (.tmp 20)),oA 5 21]))) (.ops [oI 22 .add 13 (.int .i64 1),oM 13 22]))))))) (.seq (.ops [oM 23 5,oA 4 23]) .ret))),[.move (.tmp 4)]⟩
theorem W7:aj Tryz.prog 117=some M6:=by kernel_rfl
def VY:XFun:=⟨16,.seq (.ops [oJ 1 0,oZ 2 dA,oK 3 (.int .i64 0)]) (.seq (.seq (.ops [oP 5 11 1,oC 6 86 [5],oA 4 6]) (.seq (.ops [oM 7 4,oI 8 .neq 7 (.int .i64 0)]) (.cond (.tmp 8) (.seq (.ops [oX 9 (.build dA []),oM 10 4,oS 2 2 9,oA 3 10]) .ret) .skip))) (.seq (.draws (.take (oF 11 0 1) (.take (oL 12 11) (.take (oP 13 11 1) (.only (oC 14 87 [13]) (.take (oX 15 (.build dA [(0,1,.tmp 12),(1,1,.tmp 14)])) (.only (oS 2 2 15) (.take (oK 3 (.int .i64 0)) .done)))))))) .ret)),[.loadN 2 (.tmp 2),.move (.tmp 3)]⟩
theorem ZW:aj Tryz.prog 64=some VY:=by kernel_rfl
def tK:XFun:=⟨80,.seq (.ops [oJ 2 0,oJ 3 1,oK 4 (.bool false)]) (.seq (.ops [oF 5 0 2,oL 6 5,oF 7 0 3,oL 8 7,oB 9 .eql 6 8,oM 10 9,oG 10 true (oF 11 1 2),oG 10 true (oL 12 11),oG 10 true (oF 13 1 3),oG 10 true (oL 14 13),oG 10 true (oB 15 .eql 12 14),oT 16 10 15,oM 17 16,oG 17 true (oF 18 2 2),oG 17 true (oL 19 18),oG 17 true (oF 20 2 3),oG 17 true (oL 21 20),oG 17 true (oB 22 .eql 19 21),oT 23 17 22,oM 24 23,oG 24 true (oF 25 3 2),oG 24 true (oL 26 25),oG 24 true (oF 27 3 3),oG 24 true (oL 28 27),oG 24 true (oB 29 .eql 26 28),oT 30 24 29,oM 31 30,oG 31 true (oF 32 4 2),oG 31 true (oL 33 32),oG 31 true (oF 34 4 3),oG 31 true (oL 35 34),oG 31 true (oB 36 .eql 33 35),oT 37 31 36,oM 38 37,oG 38 true (oF 39 5 2),oG 38 true (oL 40 39),oG 38 true (oF 41 5 3),oG 38 true (oL 42 41),oG 38 true (oB 43 .eql 40 42),oT 44 38 43,oM 45 44,oG 45 true (oF 46 6 2),oG 45 true (oL 47 46),oG 45 true (oF 48 6 3),oG 45 true (oL 49 48),oG 45 true (oB 50 .eql 47 49),oT 51 45 50,oM 52 51,oG 52 true (oF 53 7 2),oG 52 true (oL 54 53),oG 52 true (oF 55 7 3),oG 52 true (oL 56 55),oG 52 true (oC 57 164 [54,56]),oT 58 52 57,oM 59 58,oG 59 true (oF 60 8 2),oG 59 true (oL 61 60),oG 59 true (oF 62 8 3),oG 59 true (oL 63 62),oG 59 true (oC 64 165 [61,63]),oT 65 59 64,oM 66 65,oG 66 true (oF 67 9 2),oG 66 true (oL 68 67),oG 66 true (oF 69 9 3),oG 66 true (oL 70 69),oG 66 true (oC 71 166 [68,70]),oT 72 66 71,oM 73 72,oG 73 true (oF 74 10 2),oG 73 true (oL 75 74),oG 73 true (oF 76 10 3),oG 73 true (oL 77 76),oG 73 true (oC 78 167 [75,77]),oT 79 73 78,oA 4 79]) .ret),[.move (.tmp 4)]⟩
theorem WU:aj Tryz.prog 111=some tK:=by kernel_rfl
def V7:XFun:=⟨42,.seq (.ops [oJ 1 0,oK 2 (.int .i64 0)]) (.seq (.seq (.ops [oF 3 0 1,oL 4 3,oC 5 106 [4],oV 6 5]) (.cond (.tmp 6) (.seq (.ops [oK 2 (.int .i64 9)]) .ret) .skip)) (.seq (.seq (.draws (.take (oP 7 11 1) (.only (oC 8 107 [7]) (.take (oV 9 8) (.take (oM 10 9) (.take (oG 10 false (oP 11 11 1)) (.only (oG 10 false (oC 12 108 [11])) (.take (oG 10 false (oV 13 12)) (.take (oU 14 10 13) (.take (oM 15 14) (.take (oG 15 false (oF 16 2 1)) (.take (oG 15 false (oL 17 16)) (.take (oG 15 false (oF 18 3 1)) (.take (oG 15 false (oL 19 18)) (.take (oG 15 false (oF 20 4 1)) (.take (oG 15 false (oL 21 20)) (.only (oG 15 false (oX 22 (.buildSlice 1 3 qu [(0,.tmp 17),(1,.tmp 19),(2,.tmp 21)]))) (.only (oG 15 false (oC 23 109 [22])) (.take (oG 15 false (oV 24 23)) (.take (oU 25 15 24) (.take (oM 26 25) (.take (oG 26 false (oF 27 5 1)) (.take (oG 26 false (oL 28 27)) (.take (oG 26 false (oF 29 6 1)) (.take (oG 26 false (oL 30 29)) (.only (oG 26 false (oX 31 (.buildSlice 1 2 mz [(0,.tmp 28),(1,.tmp 30)]))) (.only (oG 26 false (oX 32 (.call 110 [.const (.int .i64 4),.tmp 31]))) (.take (oG 26 false (oV 33 32)) (.take (oU 34 26 33) (.take (oM 35 34) (.take (oG 35 false (oP 36 11 1)) (.take (oG 35 false (oP 37 11 1)) (.only (oG 35 false (oC 38 112 [37])) (.only (oG 35 false (oC 39 111 [36,38])) (.take (oG 35 false (oV 40 39)) (.take (oU 41 35 40) .done)))))))))))))))))))))))))))))))))))) (.cond (.tmp 41) (.seq (.ops [oK 2 (.int .i64 1)]) .ret) .skip)) (.seq (.ops [oK 2 (.int .i64 0)]) .ret))),[.move (.tmp 2)]⟩
theorem k86:aj Tryz.prog 86=some V7:=by kernel_rfl
def Fh:XFun:=⟨58,.seq (.ops [oJ 1 0,oN 2]) (.seq (.seq (.ops [oF 3 0 1,oL 4 3]) (.block 0 (.seq (.ops [oI 6 .eql 4 (.int .u8 82),oA 5 6]) (.cond (.tmp 5) (.seq (.ops [oX 7 (.call 113 [.const (.int .i64 0)]),oA 2 7]) .ret) (.seq (.ops [oI 9 .eql 4 (.int .u8 83),oA 8 9]) (.cond (.tmp 8) (.seq (.ops [oF 10 3 1,oL 11 10,oF 12 4 1,oL 13 12,oX 14 (.buildSlice 1 2 qu [(0,.tmp 11),(1,.tmp 13)]),oC 15 114 [14],oA 2 15]) .ret) (.seq (.ops [oI 17 .eql 4 (.int .u8 75),oA 16 17]) (.cond (.tmp 16) (.seq (.draws (.take (oF 18 5 1) (.take (oL 19 18) (.take (oF 21 6 1) (.take (oL 22 21) (.only (oC 20 113 [19]) (.only (oC 23 113 [22]) (.only (oX 24 (.buildSlice 1 2 vL [(0,.tmp 20),(1,.tmp 23)])) (.only (oC 25 115 [24]) (.take (oA 2 25) .done)))))))))) .ret) (.seq (.ops [oI 27 .eql 4 (.int .u8 90),oA 26 27]) (.cond (.tmp 26) (.seq (.ops [oF 28 1 1,oL 29 28,oR 30 1 1 29 ky,oA 2 30]) .ret) (.seq (.ops [oI 32 .eql 4 (.int .u8 67),oA 31 32]) (.cond (.tmp 31) (.seq (.ops [oF 33 2 1,oL 34 33,oR 35 1 1 34 qu,oC 36 114 [35],oA 2 36]) .ret) (.seq (.ops [oI 38 .eql 4 (.int .u8 68),oA 37 38]) (.cond (.tmp 37) (.seq (.ops [oF 39 9 1,oL 40 39,oC 41 116 [40],oA 2 41]) .ret) (.seq (.ops [oI 43 .eql 4 (.int .u8 84),oA 42 43]) (.cond (.tmp 42) (.seq (.ops [oF 44 8 1,oL 45 44,oX 46 (.call 117 [.tmp 45,.func 118]),oA 2 46]) .ret) (.seq (.ops [oI 48 .eql 4 (.int .u8 116),oA 47 48]) (.cond (.tmp 47) (.seq (.ops [oF 49 7 1,oL 50 49,oX 51 (.call 119 [.const (.int .i64 4),.tmp 50]),oA 2 51]) .ret) (.seq (.seq (.ops [oI 53 .eql 4 (.int .u8 69),oA 52 53]) (.cond (.tmp 52) .skip (.ops [oI 54 .eql 4 (.int .u8 78),oA 52 54]))) (.cond (.tmp 52) (.seq (.ops [oF 55 10 1,oL 56 55,oC 57 120 [56],oA 2 57]) .ret) .skip)))))))))))))))))))) (.seq (.ops [oN 2]) .ret)),[.move (.tmp 2)]⟩
theorem k87:aj Tryz.prog 87=some Fh:=by kernel_rfl
def jv:XFun:=⟨21,.seq (.ops [oK 2 (.bool false)]) (.seq (.seq (.ops [oM 3 0]) (.block 0 (.seq (.seq (.ops [oI 5 .eql 3 (.int .u8 82),oA 4 5]) (.cond (.tmp 4) .skip (.seq (.ops [oI 6 .eql 3 (.int .u8 83),oA 4 6]) (.cond (.tmp 4) .skip (.seq (.ops [oI 7 .eql 3 (.int .u8 75),oA 4 7]) (.cond (.tmp 4) .skip (.seq (.ops [oI 8 .eql 3 (.int .u8 90),oA 4 8]) (.cond (.tmp 4) .skip (.seq (.ops [oI 9 .eql 3 (.int .u8 49),oA 4 9]) (.cond (.tmp 4) .skip (.seq (.ops [oI 10 .eql 3 (.int .u8 50),oA 4 10]) (.cond (.tmp 4) .skip (.seq (.ops [oI 11 .eql 3 (.int .u8 51),oA 4 11]) (.cond (.tmp 4) .skip (.seq (.ops [oI 12 .eql 3 (.int .u8 110),oA 4 12]) (.cond (.tmp 4) .skip (.seq (.ops [oI 13 .eql 3 (.int .u8 115),oA 4 13]) (.cond (.tmp 4) .skip (.seq (.ops [oI 14 .eql 3 (.int .u8 73),oA 4 14]) (.cond (.tmp 4) .skip (.seq (.ops [oI 15 .eql 3 (.int .u8 67),oA 4 15]) (.cond (.tmp 4) .skip (.seq (.ops [oI 16 .eql 3 (.int .u8 68),oA 4 16]) (.cond (.tmp 4) .skip (.seq (.ops [oI 17 .eql 3 (.int .u8 84),oA 4 17]) (.cond (.tmp 4) .skip (.seq (.ops [oI 18 .eql 3 (.int .u8 116),oA 4 18]) (.cond (.tmp 4) .skip (.seq (.ops [oI 19 .eql 3 (.int .u8 69),oA 4 19]) (.cond (.tmp 4) .skip (.ops [oI 20 .eql 3 (.int .u8 78),oA 4 20]))))))))))))))))))))))))))))))) (.cond (.tmp 4) (.seq (.ops [oK 2 (.bool true)]) .ret) .skip)))) (.seq (.ops [oK 2 (.bool false)]) .ret)),[.move (.tmp 2)]⟩
theorem WP:aj Tryz.prog 106=some jv:=by kernel_rfl
def JD:XFun:=⟨11,.seq (.ops [oJ 1 0,oK 2 (.bool false)]) (.seq (.ops [oF 3 0 1,oL 4 3,oI 5 .neq 4 (.int .u8 90),oM 6 5,oG 6 false (oF 7 1 1),oG 6 false (oL 8 7),oG 6 false (oC 9 150 [8]),oU 10 6 9,oA 2 10]) .ret),[.move (.tmp 2)]⟩
theorem WQ:aj Tryz.prog 107=some JD:=by kernel_rfl
def JE:XFun:=⟨39,.seq (.ops [oJ 1 0,oK 2 (.bool false)]) (.seq (.ops [oF 3 7 1,oL 4 3,oH 5 4,oF 6 8 1,oL 7 6,oH 8 7,oF 9 9 1,oL 10 9,oH 11 10,oF 12 10 1,oL 13 12,oH 14 13,oX 15 (.maxI [.tmp 5,.tmp 8,.tmp 11,.tmp 14]),oI 16 .leq 15 (.int .i64 65535),oM 17 16,oG 17 true (oF 18 7 1),oG 17 true (oL 19 18),oG 17 true (oX 20 (.call 110 [.const (.int .i64 4),.tmp 19])),oT 21 17 20,oM 22 21,oG 22 true (oF 23 9 1),oG 22 true (oL 24 23),oG 22 true (oC 25 151 [24]),oT 26 22 25,oM 27 26,oG 27 true (oF 28 8 1),oG 27 true (oL 29 28),oG 27 true (oX 30 (.call 152 [.tmp 29,.func 153])),oG 27 true (oV 31 30),oT 32 27 31,oM 33 32,oG 33 true (oF 34 10 1),oG 33 true (oL 35 34),oG 33 true (oX 36 (.call 155 [.tmp 35,.func 156])),oG 33 true (oV 37 36),oT 38 33 37,oA 2 38]) .ret),[.move (.tmp 2)]⟩
theorem WR:aj Tryz.prog 108=some JE:=by kernel_rfl
def Ns:XFun:=⟨6,.seq (.ops [oJ 1 0,oK 2 (.bool false)]) (.seq (.ops [oP 3 7 1,oC 4 154 [3],oV 5 4,oA 2 5]) .ret),[.move (.tmp 2)]⟩
theorem Xw:aj Tryz.prog 153=some Ns:=by kernel_rfl
def Nu:XFun:=⟨6,.seq (.ops [oJ 1 0,oK 2 (.bool false)]) (.seq (.ops [oP 3 2 1,oC 4 157 [3],oV 5 4,oA 2 5]) .ret),[.move (.tmp 2)]⟩
theorem Xz:aj Tryz.prog 156=some Nu:=by kernel_rfl
def Nt:XFun:=⟨35,.seq (.ops [oJ 1 0,oK 2 (.bool false)]) (.seq (.ops [oF 3 0 1,oL 4 3,oR 5 1 1 4 qu,oC 6 109 [5],oM 7 6,oG 7 true (oF 8 1 1),oG 7 true (oL 9 8),oG 7 true (oF 10 3 1),oG 7 true (oL 11 10),oG 7 true (oX 12 (.buildSlice 1 2 mz [(0,.tmp 9),(1,.tmp 11)])),oG 7 true (oX 13 (.call 110 [.const (.int .i64 4),.tmp 12])),oT 14 7 13,oM 15 14,oG 15 true (oF 16 2 1),oG 15 true (oL 17 16),oG 15 true (oF 18 6 1),oG 15 true (oL 19 18),oG 15 true (oX 20 (.buildSlice 1 2 mz [(0,.tmp 17),(1,.tmp 19)])),oG 15 true (oX 21 (.call 110 [.const (.int .i64 2),.tmp 20])),oT 22 15 21,oM 23 22,oG 23 true (oF 24 4 1),oG 23 true (oL 25 24),oG 23 true (oR 26 1 1 25 mz),oG 23 true (oX 27 (.call 209 [.const (.int .i64 2),.tmp 26])),oT 28 23 27,oM 29 28,oG 29 true (oF 30 5 1),oG 29 true (oL 31 30),oG 29 true (oR 32 1 1 31 mz),oG 29 true (oX 33 (.call 209 [.const (.int .i64 4),.tmp 32])),oT 34 29 33,oA 2 34]) .ret),[.move (.tmp 2)]⟩
theorem Xx:aj Tryz.prog 154=some Nt:=by kernel_rfl
def JJ:XFun:=⟨12,.seq (.ops [oJ 1 0,oK 2 (.bool false)]) (.seq (.ops [oF 3 0 1,oL 4 3,oI 5 .neq 4 (.int .u8 0),oM 6 5,oG 6 true (oF 7 1 1),oG 6 true (oL 8 7),oG 6 true (oR 9 1 1 8 qu),oG 6 true (oC 10 109 [9]),oT 11 6 10,oA 2 11]) .ret),[.move (.tmp 2)]⟩
theorem XA:aj Tryz.prog 157=some JJ:=by kernel_rfl
def qA:XFun:=⟨57,.seq (.ops [oJ 1 0,oZ 2 bZ]) (.seq (.ops [oF 4 0 1,oL 5 4,oD 6 0 bZ 5,oZ 3 bZ,oS 11 3 6]) (.seq (.seq (.ops [oF 7 0 1,oL 8 7]) (.block 0 (.seq (.ops [oI 10 .eql 8 (.int .u8 83),oA 9 10]) (.cond (.tmp 9) (.draws (.take (oF 11 3 1) (.take (oL 12 11) (.take (oF 13 4 1) (.take (oL 14 13) (.take (oF 15 3 3) (.only (oS 1 15 12) (.take (oF 16 4 3) (.last (oS 1 16 14)))))))))) (.seq (.ops [oI 18 .eql 8 (.int .u8 75),oA 17 18]) (.cond (.tmp 17) (.draws (.take (oF 19 5 1) (.take (oL 20 19) (.take (oF 21 6 1) (.take (oL 22 21) (.take (oF 23 5 3) (.only (oS 1 23 20) (.take (oF 24 6 3) (.last (oS 1 24 22)))))))))) (.seq (.ops [oI 26 .eql 8 (.int .u8 90),oA 25 26]) (.cond (.tmp 25) (.ops [oF 27 1 1,oL 28 27,oF 29 1 3,oS 1 29 28]) (.seq (.ops [oI 31 .eql 8 (.int .u8 67),oA 30 31]) (.cond (.tmp 30) (.ops [oF 32 2 1,oL 33 32,oF 34 2 3,oS 1 34 33]) (.seq (.ops [oI 36 .eql 8 (.int .u8 68),oA 35 36]) (.cond (.tmp 35) (.ops [oF 37 9 1,oL 38 37,oF 39 9 3,oS 1 39 38]) (.seq (.ops [oI 41 .eql 8 (.int .u8 84),oA 40 41]) (.cond (.tmp 40) (.ops [oF 42 8 1,oL 43 42,oF 44 8 3,oS 1 44 43]) (.seq (.ops [oI 46 .eql 8 (.int .u8 116),oA 45 46]) (.cond (.tmp 45) (.ops [oF 47 7 1,oL 48 47,oF 49 7 3,oS 1 49 48]) (.seq (.seq (.ops [oI 51 .eql 8 (.int .u8 69),oA 50 51]) (.cond (.tmp 50) .skip (.ops [oI 52 .eql 8 (.int .u8 78),oA 50 52]))) (.cond (.tmp 50) (.ops [oF 53 10 1,oL 54 53,oF 55 10 3,oS 1 55 54]) .skip)))))))))))))))))) (.seq (.ops [oP 56 11 3,oS 11 2 56]) .ret))),[.loadN 11 (.tmp 2)]⟩
theorem WV:aj Tryz.prog 112=some qA:=by kernel_rfl
def M2:XFun:=⟨5,.seq (.ops [oN 2]) (.seq (.ops [oM 3 0,oX 4 (.call 168 [.const (.slice none 0 0),.tmp 3,.const (.int .i64 4)]),oA 2 4]) .ret),[.move (.tmp 2)]⟩
theorem WW:aj Tryz.prog 113=some M2:=by kernel_rfl
def Ny:XFun:=⟨5,.seq (.ops [oN 2]) (.seq (.ops [oM 3 0,oX 4 (.call 168 [.const (.slice none 0 0),.tmp 3,.const (.int .i64 2)]),oA 2 4]) .ret),[.move (.tmp 2)]⟩
theorem XK:aj Tryz.prog 172=some Ny:=by kernel_rfl
def M7:XFun:=⟨27,.seq (.ops [oJ 1 0,oN 2]) (.seq (.draws (.take (oF 3 0 1) (.take (oL 4 3) (.take (oF 7 1 1) (.take (oL 8 7) (.take (oF 10 2 1) (.take (oL 11 10) (.take (oF 13 3 1) (.take (oL 14 13) (.take (oF 16 4 1) (.take (oL 17 16) (.take (oF 19 5 1) (.take (oL 20 19) (.take (oF 22 6 1) (.take (oL 23 22) (.only (oR 5 1 1 4 qu) (.only (oC 6 114 [5]) (.only (oC 9 113 [8]) (.only (oC 12 172 [11]) (.only (oC 15 113 [14]) (.only (oC 18 172 [17]) (.only (oC 21 113 [20]) (.only (oC 24 172 [23]) (.only (oX 25 (.buildSlice 1 7 vL [(0,.tmp 6),(1,.tmp 9),(2,.tmp 12),(3,.tmp 15),(4,.tmp 18),(5,.tmp 21),(6,.tmp 24)])) (.only (oC 26 115 [25]) (.take (oA 2 26) .done)))))))))))))))))))))))))) .ret),[.move (.tmp 2)]⟩
theorem W8:aj Tryz.prog 118=some M7:=by kernel_rfl
def M9:XFun:=⟨27,.seq (.ops [oN 2]) (.seq (.ops [oN 3]) (.seq (.seq (.ops [oM 6 0,oH 7 6,oX 8 (.move (.const (.int .i64 0)))]) (.block 0 (.loop (.seq (.ops [oB 9 .lss 8 7]) (.seq (.cond (.tmp 9) .skip (.exit 0)) (.seq (.block 1 (.seq (.ops [oW 10 2 6 8,oP 11 2 10,oZ 5 tD,oS 2 5 11]) (.seq (.ops [oM 12 3,oF 13 0 5,oL 14 13,oR 15 1 1 14 ky,oX 16 (.append 1 1 (.tmp 12) (.tmp 15)),oA 3 16]) (.ops [oM 17 3,oF 18 1 5,oL 19 18,oR 20 1 1 19 qu,oC 21 114 [20],oX 22 (.append 1 1 (.tmp 17) (.tmp 21)),oA 3 22])))) (.ops [oI 23 .add 8 (.int .i64 1),oM 8 23]))))))) (.seq (.ops [oM 24 3,oX 25 (.buildSlice 1 1 ky [(0,.const (.int .u8 0))]),oX 26 (.append 1 1 (.tmp 24) (.tmp 25)),oA 2 26]) .ret))),[.move (.tmp 2)]⟩
theorem Xa:aj Tryz.prog 120=some M9:=by kernel_rfl
def JI:XFun:=⟨13,.seq (.ops [oK 2 (.bool false)]) (.seq (.ops [oM 3 0,oI 4 .eql 3 (.int .u8 73),oM 5 4,oG 5 false (oM 6 0),oG 5 false (oI 7 .eql 6 (.int .u8 84)),oU 8 5 7,oM 9 8,oG 9 false (oM 10 0),oG 9 false (oI 11 .eql 10 (.int .u8 69)),oU 12 9 11,oA 2 12]) .ret),[.move (.tmp 2)]⟩
theorem Xt:aj Tryz.prog 150=some JI:=by kernel_rfl
def VP:XFun:=⟨16,.seq (.ops [oN 6]) (.seq (.ops [oM 7 0,oX 8 (.build tD [(0,1,.const (.int .u8 83)),(1,1,.tmp 7)]),oM 9 0,oX 10 (.build tD [(0,1,.const (.int .u8 86)),(1,1,.tmp 9)]),oM 11 1,oX 12 (.build tD [(0,1,.const (.int .u8 67)),(1,1,.tmp 11)]),oM 13 2,oX 14 (.build tD [(0,1,.const (.int .u8 77)),(1,1,.tmp 13)]),oX 15 (.buildSlice 2 4 tD [(0,.tmp 8),(1,.tmp 10),(2,.tmp 12),(3,.tmp 14)]),oA 6 15]) .ret),[.move (.tmp 6)]⟩
theorem ZH:aj Tryz.prog 44=some VP:=by kernel_rfl
def Nq:XFun:=⟨12,.seq (.ops [oZ 6 bZ]) (.seq (.ops [oM 7 0,oM 8 1,oM 9 2,oC 10 44 [7,8,9],oX 11 (.build bZ [(0,1,.const (.int .u8 69)),(10,1,.tmp 10)]),oS 11 6 11]) .ret),[.loadN 11 (.tmp 6)]⟩
theorem Xs:aj Tryz.prog 149=some Nq:=by kernel_rfl
end Ax
namespace Ax
open Go.RowKit Go By YtlbgjlmokpkkeaaGreatDoor.Nm Sc Dg
def cx(k:Int):Bool:=decide (k=82 \/ k=83 \/ k=75 \/ k=90 \/ k=49 \/ k=50 \/ k=51 \/ k=110 \/ k=115 \/ k=73 \/ k=67 \/ k=68 \/ k=84 \/ k=116 \/ k=69 \/ k=78)
theorem Jt(k:Int)(h:d4):ae Tryz.prog 106 [.v (.int .u8 k)] h (.v (.bool (cx k))) h []:=by
 refine ac WP mixed (by simp[jv]) fun hh hargs=>?_
 by_cases h82:k=82
 ·subst h82;simp[jv,hh,cx]
 by_cases h83:k=83
 ·subst h83;simp[jv,hh,cx]
 by_cases h75:k=75
 ·subst h75;simp[jv,hh,cx]
 by_cases h90:k=90
 ·subst h90;simp[jv,hh,cx]
 by_cases h49:k=49
 ·subst h49;simp[jv,hh,cx]
 by_cases h50:k=50
 ·subst h50;simp[jv,hh,cx]
 by_cases h51:k=51
 ·subst h51;simp[jv,hh,cx]
 by_cases h110:k=110
 ·subst h110;simp[jv,hh,cx]
 by_cases h115:k=115
 ·subst h115;simp[jv,hh,cx]
 by_cases h73:k=73
 ·subst h73;simp[jv,hh,cx]
 by_cases h67:k=67
 ·subst h67;simp[jv,hh,cx]
 by_cases h68:k=68
 ·subst h68;simp[jv,hh,cx]
 by_cases h84:k=84
 ·subst h84;simp[jv,hh,cx]
 by_cases h116:k=116
 ·subst h116;simp[jv,hh,cx]
 by_cases h69:k=69
 ·subst h69;simp[jv,hh,cx]
 by_cases h78:k=78
 ·subst h78;simp[jv,hh,cx]
 simp[jv,hh,cx,h82,h83,h75,h90,h49,h50,h51,h110,h115,h73,h67,h68,h84,h116,h69,h78]
def C3(s:Int):Bool:=s==73||(s==84||s==69)
theorem Jy(s:Int)(h:d4):ae Tryz.prog 150 [.v (.int .u8 s)] h (.v (.bool (C3 s))) h []:=by
 refine ac Xt mixed (by simp[JI]) fun hh hargs=>?_
 cases h1:s==73 with
 | true=>simp[JI,hh,C3,h1]
 | false =>
  cases h2:s==84<;>simp[JI,hh,C3,h1,h2]
def lY(m:Bk):Prop:=m.oids.length <= 140737488355328 /\ m.cols.length <= 140737488355328 /\ m.row.length <= 140737488355328 /\ m.fields.length <= 140737488355328 /\ (∀ c∈m.row,c.2.length <= 140737488355328)
def sT(a b:Co):Bool:=a.name==b.name&&(a.table==b.table&&(a.attr==b.attr&&(a.oid==b.oid&&(a.size==b.size&&(a.mod==b.mod&&(a.format==b.format&&true))))))
def sU(a b:Fi):Bool:=a.code==b.code&&(a.text==b.text&&true)
theorem EJ(a b:Co):sT a b=(a==b):=by
 obtain⟨a1,a2,a3,a4,a5,a6,a7⟩:=a
 obtain⟨b1,b2,b3,b4,b5,b6,b7⟩:=b
 rw[aaf];simp[sT]
theorem EK(a b:Fi):sU a b=(a==b):=by
 obtain⟨a1,a2⟩:=a
 obtain⟨b1,b2⟩:=b
 rw[aaf];simp[sU]
theorem Gc(l m:List Co)(hl:l.length <= 140737488355328)(h:d4):ae Tryz.prog 165 [.sl 7 (am jq l) none .no,.sl 7 (am jq m) none .no] h (.v (.bool (l==m))) h []:=by
 have:=rS mixed XF sT jq (by simp) (by simp) (fun x y=>by simp[zX,sT]) l m h hl
 rwa [show sT=(·==·) from funext fun a=>funext fun b=>EJ a b,jz] at this
theorem An(l m:List Fi)(hl:l.length <= 140737488355328)(h:d4):ae Tryz.prog 167 [.sl 2 (am qN l) none .no,.sl 2 (am qN m) none .no] h (.v (.bool (l==m))) h []:=by
 have:=rS mixed XH sU qN (by simp) (by simp) (fun x y=>by simp[Aw,sU]) l m h hl
 rwa [show sU=(·==·) from funext fun a=>funext fun b=>EK a b,jz] at this
def qi(a b:Bk):Bool:=a.kind==b.kind&&(a.status==b.status&&(a.tag==b.tag&&(a.name==b.name&&(a.value==b.value&&(a.n==b.n&&(a.m==b.m&&(a.oids==b.oids&&(a.cols==b.cols&&(a.row==b.row&&a.fields==b.fields)))))))))
theorem HT(a b:Bk):qi a b=decide (a=b):=by
 obtain⟨a1,a2,a3,a4,a5,a6,a7,a8,a9,a10,a11⟩:=a
 obtain⟨b1,b2,b3,b4,b5,b6,b7,b8,b9,b10,b11⟩:=b
 rw[aaf];simp[qi]
theorem Bn(a:Bk):qi a a=true:=by rw[HT];simp
theorem Jx(a b:Bk)(ha:lY a)(h:d4):ae Tryz.prog 111 [.agg (bh a),.agg (bh b)] h (.v (.bool (qi a b))) h []:=by
 obtain⟨q1,q2,q3,q4,_⟩:=ha
 refine ac WU mixed (by simp[tK]) fun hh hargs=>?_
 unfold qi
 cases p0:a.kind==b.kind with
 | false=>simp[tK,hh,p0]
 | true =>
 cases p1:a.status==b.status with
 | false=>simp[tK,hh,p0,p1]
 | true =>
 cases p2:a.tag==b.tag with
 | false=>simp[tK,hh,p0,p1,p2]
 | true =>
 cases p3:a.name==b.name with
 | false=>simp[tK,hh,p0,p1,p2,p3]
 | true =>
 cases p4:a.value==b.value with
 | false=>simp[tK,hh,p0,p1,p2,p3,p4]
 | true =>
 cases p5:a.n==b.n with
 | false=>simp[tK,hh,p0,p1,p2,p3,p4,p5]
 | true =>
 cases p6:a.m==b.m with
 | false=>simp[tK,hh,p0,p1,p2,p3,p4,p5,p6]
 | true =>
 simp[tK,p0,p1,p2,p3,p4,p5,p6]
 refine aa (by simp) (Bv _ _ q1 _) ?_
 cases p7:a.oids==b.oids with
 | false=>simp[hh]
 | true =>
 simp
 refine aa (by simp) (Gc _ _ q2 _) ?_
 cases p8:a.cols==b.cols with
 | false=>simp[hh]
 | true =>
 simp
 refine aa (by simp) (Lw _ _ q3 _) ?_
 cases p9:a.row==b.row with
 | false=>simp[hh]
 | true =>
 simp
 refine aa (by simp) (An _ _ q4 _) ?_
 simp[hh]
def pF(m:Bk):Bool:=!(m.kind==90)||C3 m.status
theorem FM(m:Bk)(h:d4):ae Tryz.prog 107 [.agg (bh m)] h (.v (.bool (pF m))) h []:=by
 refine ac WQ mixed (by simp[JD]) fun hh hargs=>?_
 unfold pF
 cases h1:m.kind==90 with
 | false =>
  have e1:(m.kind != 90)=true:=by simp[bne,h1]
  simp[JD,hh,e1]
 | true =>
  have e1:(m.kind != 90)=false:=by simp[bne,h1]
  simp[JD,e1]
  refine aa (by simp) (Jy _ _) ?_
  simp[hh]
def qB(c:Co):Bool:=cleanB c.name&&((cu 4 c.table&&cu 4 c.oid)&&((cu 2 c.attr&&cu 2 c.format)&&(oh 2 c.size&&oh 4 c.mod)))
theorem Jv(c:Co)(h:d4):ae Tryz.prog 154 [.agg (jq c)] h (.v (.bool (qB c))) h []:=by
 refine ac Xx mixed (by simp[Nt]) fun hh hargs=>?_
 unfold qB
 simp[Nt]
 refine ak (tv [c.name] (by simp) _) (by simp[lW]) (by simp) ?_
 simp only[aaa,aad,aab]
 cases p1:cleanB c.name with
 | false=>simp[hh]
 | true =>
 simp
 refine ak (xj 4 [c.table,c.oid] (by simp) _) (by simp[aX]) (by simp) ?_
 simp only[aaa,aad,aab]
 cases p2:(cu 4 c.table&&cu 4 c.oid) with
 | false=>simp[hh]
 | true =>
 simp
 refine ak (xj 2 [c.attr,c.format] (by simp) _) (by simp[aX]) (by simp) ?_
 simp only[aaa,aad,aab]
 cases p3:(cu 2 c.attr&&cu 2 c.format) with
 | false=>simp[hh]
 | true =>
 simp
 refine ak (IZ 2 [c.size] (by simp) _) (by simp[aX]) (by simp) ?_
 simp only[aaa,aad,aab]
 cases p4:oh 2 c.size with
 | false=>simp[hh]
 | true =>
 simp
 refine ak (IZ 4 [c.mod] (by simp) _) (by simp[aX]) (by simp) ?_
 simp[hh]
def kR(f:Fi):Bool:=!(f.code==0)&&cleanB f.text
theorem Dt(f:Fi)(h:d4):ae Tryz.prog 157 [.agg (qN f)] h (.v (.bool (kR f))) h []:=by
 refine ac XA mixed (by simp[JJ]) fun hh hargs=>?_
 unfold kR
 cases h1:f.code==0 with
 | true =>
  have e1:(f.code != 0)=false:=by simp[bne,h1]
  simp[JJ,hh,e1]
 | false =>
  have e1:(f.code != 0)=true:=by simp[bne,h1]
  simp[JJ,e1]
  refine ak (tv [f.text] (by simp) _) (by simp[lW]) (by simp) ?_
  simp[hh]
theorem MU(c:Co)(h:d4):ae Tryz.prog 153 [.agg (jq c)] h (.v (.bool (!qB c))) h []:=by
 refine ac Xw mixed (by simp[Ns]) fun hh hargs=>?_
 simp[Ns]
 refine aa (by simp) (Jv _ _) ?_
 simp[hh]
theorem MV(c:Fi)(h:d4):ae Tryz.prog 156 [.agg (qN c)] h (.v (.bool (!kR c))) h []:=by
 refine ac Xz mixed (by simp[Nu]) fun hh hargs=>?_
 simp[Nu]
 refine aa (by simp) (Dt _ _) ?_
 simp[hh]
def wq(m:Bk):Bool:=decide ((m.oids.length:Int) <= 65535 /\ (m.cols.length:Int) <= 65535 /\ (m.row.length:Int) <= 65535 /\ (m.fields.length:Int) <= 65535)
def fL(m:Bk):Bool:=wq m&&(m.oids.all (cu 4)&&(m.row.all bS&&(m.cols.all qB&&m.fields.all kR)))
theorem Du(m:Bk)(hf:lY m)(h:d4):ae Tryz.prog 108 [.agg (bh m)] h (.v (.bool (fL m))) h []:=by
 obtain⟨q1,q2,q3,q4,q5⟩:=hf
 refine ac WR mixed (by simp[JE]) fun hh hargs=>?_
 unfold fL
 by_cases hL:(m.oids.length:Int) <= 65535 /\ (m.cols.length:Int) <= 65535 /\ (m.row.length:Int) <= 65535 /\ (m.fields.length:Int) <= 65535
 ·have e:wq m=true:=decide_eq_true hL
  rw[e]
  obtain⟨l1,l2,l3,l4⟩:=hL
  simp[JE,l1,l2,l3,l4]
  refine aa (by simp) (xj 4 _ q1 _) ?_
  cases p1:m.oids.all (cu 4) with
  | false=>simp[hh]
  | true =>
  simp
  refine aa (by simp) (IR _ q3 q5 _) ?_
  cases p2:m.row.all bS with
  | false=>simp[hh]
  | true =>
  simp
  refine aa (by simp) (dE mixed Xv X7 jq (fun c=>!qB c) m.cols [] _ (by simp) (by simp) (by simp) (fun c _=>MU c _) q2) ?_
  rw[<- aae]
  cases p3:m.cols.all qB with
  | false=>simp[hh]
  | true =>
  simp
  refine aa (by simp) (dE mixed Xy X9 qN (fun c=>!kR c) m.fields [] _ (by simp) (by simp) (by simp) (fun c _=>MV c _) q4) ?_
  rw[<- aae]
  simp[hh]
 ·have e:wq m=false:=decide_eq_false hL
  rw[e]
  simp[JE,hL,hh]
def fK(m:Bk):Bk :=
 if m.kind=83 then⟨83,0,[],m.name,m.value,0,0,[],[],[],[]⟩
 else if m.kind=75 then⟨75,0,[],[],[],m.n,m.m,[],[],[],[]⟩
 else if m.kind=90 then⟨90,m.status,[],[],[],0,0,[],[],[],[]⟩
 else if m.kind=67 then⟨67,0,m.tag,[],[],0,0,[],[],[],[]⟩
 else if m.kind=68 then⟨68,0,[],[],[],0,0,[],[],m.row,[]⟩
 else if m.kind=84 then⟨84,0,[],[],[],0,0,[],m.cols,[],[]⟩
 else if m.kind=116 then⟨116,0,[],[],[],0,0,m.oids,[],[],[]⟩
 else if m.kind=69 then⟨69,0,[],[],[],0,0,[],[],[],m.fields⟩
 else if m.kind=78 then⟨78,0,[],[],[],0,0,[],[],[],m.fields⟩
 else⟨m.kind,0,[],[],[],0,0,[],[],[],[]⟩
theorem Jw(m:Bk)(h:d4):ae Tryz.prog 112 [.agg (bh m)] h (.agg (bh (fK m))) h []:=by
 refine ac WV mixed (by simp[qA]) fun hh hargs=>?_
 by_cases h83:m.kind=83
 ·simp[qA,aV,hh,fK,h83]
 by_cases h75:m.kind=75
 ·simp[qA,aV,hh,fK,h75]
 by_cases h90:m.kind=90
 ·simp[qA,aV,hh,fK,h90]
 by_cases h67:m.kind=67
 ·simp[qA,aV,hh,fK,h67]
 by_cases h68:m.kind=68
 ·simp[qA,aV,hh,fK,h68]
 by_cases h84:m.kind=84
 ·simp[qA,aV,hh,fK,h84]
 by_cases h116:m.kind=116
 ·simp[qA,aV,hh,fK,h116]
 by_cases h69:m.kind=69
 ·simp[qA,aV,hh,fK,h69]
 by_cases h78:m.kind=78
 ·simp[qA,aV,hh,fK,h78]
 simp[qA,aV,hh,fK,h83,h75,h90,h67,h68,h84,h116,h69,h78]
def nz(m:Bk):Bool:=cleanB m.tag&&(cleanB m.name&&cleanB m.value)
def nA(m:Bk):Bool:=cu 4 m.n&&cu 4 m.m
def gl(m:Bk):Int :=
 if cx m.kind=false then 9
 else if pF m&&(fL m&&(nz m&&(nA m&&qi m (fK m)))) then 0 else 1
theorem FC(m:Bk)(hf:lY m)(h:d4):ae Tryz.prog 86 [.agg (bh m)] h (.v (.int .i64 (gl m))) h []:=by
 refine ac k86 mixed (by simp[V7]) fun hh hargs=>?_
 simp[V7]
 refine aa (by simp) (Jt _ _) ?_
 cases hk:cx m.kind with
 | false=>simp[hh,gl,hk]
 | true =>
 have e:gl m=if pF m&&(fL m&&(nz m&&(nA m&&qi m (fK m)))) then 0 else 1:=by unfold gl;rw[hk];rfl
 rw[e]
 simp
 refine aa (by simp) (FM m _) ?_
 cases p1:pF m with
 | false=>simp[hh]
 | true =>
 simp
 refine aa (by simp) (Du m hf _) ?_
 cases p2:fL m with
 | false=>simp[hh]
 | true =>
 simp
 refine ak (tv [m.tag,m.name,m.value] (by simp) _) (by simp[lW]) (by simp) ?_
 have hc:(cleanB m.tag&&(cleanB m.name&&cleanB m.value))=nz m:=rfl
 simp only[aaa,aad,aab,hc]
 cases p3:nz m with
 | false=>simp[hh]
 | true =>
 simp
 refine ak (xj 4 [m.n,m.m] (by simp) _) (by simp[aX]) (by simp) ?_
 have hn:(cu 4 m.n&&cu 4 m.m)=nA m:=rfl
 simp only[aaa,aad,aab,hn]
 cases p4:nA m with
 | false=>simp[hh]
 | true =>
 simp
 refine aa (by simp) (Jw m _) ?_
 simp
 refine aa (by simp) (Jx m (fK m) hf _) ?_
 cases p5:qi m (fK m)<;>simp[hh]
theorem IU(e:Co -> d5)(l:List Co)(g:FuncId)(cap:List AV)(h:d4)(hl:(aG e l).length <= 140737488355328)(hl2:l.length <= 140737488355328)(hcap:∀ c∈cap,c.idOf=none)(hlt:cb h.length cap)
  (hg:∀ n,n∈l -> ∀ h',ae Tryz.prog g (.agg (jq n)::cap) (h++h') (.sl 1 (ai (e n)) none (.own .res)) (h++h') []) :
  ae Tryz.prog 117 [.sl 7 (am jq l) none .no,.fn (.func g) [] cap] h (.sl 1 (ai (aG e l)) none (.own .res)) h []:=by
 refine ac W7 mixed (by simp[M6]) fun hh hargs=>?_
 simp at hargs
 simp[M6]
 refine ak (qf [] l.length 2 (by simp) h) (by simp) (by simp) ?_
 simp
 refine ap (D:=Nat) (fun j=>⟨[(1,.fn (.func g) [] cap),(11,.sl 7 (am jq l) none .no),(12,.v (.int .i64 l.length)),(13,.v (.int .i64 j))],[(5,.sl 1 (ai (aY [] l.length 2++(l.take j).flatMap e)) none (.own (.slot 5)))],h,[]⟩) (fun j=>j <= l.length) (fun j=>l.length-j) 0 (by simp) ?_ ?_
 ·simp[Leq,hh,hargs]
 ·intro j hj
  by_cases hlt:j<l.length
  ·have hlt':(j:Int)<l.length:=by omega
   have hw:IntKind.i64.wrap ((j:Int)+1)=(j:Int)+1:=wrap64 (by omega) (by omega)
   obtain⟨hx,hb⟩:=dk e l (aY [] l.length 2).length j hlt _ (by simpa[aG] using hl)
   have hq:∀ y∈(AV.agg (jq l[j]))::cap,y.idOf=none:=by simpa using hcap
   simp[hlt,hlt']
   refine⟨hcap,aa hq (hg l[j] (aag _) _) ?_⟩
   simp[bI hq,bI hcap,hw,-aac]
   refine⟨by omega,j+1,by omega,by omega,?_⟩
   simp[Leq,hh,hargs,hx]
  ·have hlt':¬(j:Int)<l.length:=by omega
   have:j=l.length:=by omega
   subst this
   simp[hh,aG]
theorem lB(n:Int)(h:d4):ae Tryz.prog 113 [.v (.int .i64 n)] h (.sl 1 (ai (aD 4 n)) none (.own .res)) h []:=by
 refine ac WW mixed (by simp[M2]) fun hh hargs=>?_
 simp[M2]
 refine ak (qf [] n 4 (by simp) h) (by simp) (by simp) ?_
 simp[hh,aD]
theorem rp(n:Int)(h:d4):ae Tryz.prog 172 [.v (.int .i64 n)] h (.sl 1 (ai (aD 2 n)) none (.own .res)) h []:=by
 refine ac XK mixed (by simp[Ny]) fun hh hargs=>?_
 simp[Ny]
 refine ak (qf [] n 2 (by simp) h) (by simp) (by simp) ?_
 simp[hh,aD]
theorem bp(size n:Int)(h:size <= 4):(aD size n).length <= 4:=by
 have:=put_len n size h []
 simpa[aD] using this
def DC(c:Co):d5:=aM [c.name]++(aD 4 c.table++(aD 2 c.attr++(aD 4 c.oid++(aD 2 c.size++(aD 4 c.mod++aD 2 c.format)))))
theorem MR(c:Co)(hl:c.name.length <= 70000000000000)(h:d4):ae Tryz.prog 118 [.agg (jq c)] h (.sl 1 (ai (DC c)) none (.own .res)) h []:=by
 have ht:(aM [c.name]).length=c.name.length+1:=by simp[aM,He.encT]
 have l1:=bp 4 c.table (by omega)
 have l2:=bp 2 c.attr (by omega)
 have l3:=bp 4 c.oid (by omega)
 have l4:=bp 2 c.size (by omega)
 have l5:=bp 4 c.mod (by omega)
 have l6:=bp 2 c.format (by omega)
 refine ac W8 mixed (by simp[M7]) fun hh hargs=>?_
 simp[M7]
 refine ak (pb [c.name] (by omega) _) (by simp[lW]) (by simp) ?_
 simp
 refine aa (by simp) (lB _ _) ?_
 simp
 refine aa (by simp) (rp _ _) ?_
 simp
 refine aa (by simp) (lB _ _) ?_
 simp
 refine aa (by simp) (rp _ _) ?_
 simp
 refine aa (by simp) (lB _ _) ?_
 simp
 refine aa (by simp) (rp _ _) ?_
 simp
 refine ak (xO [aM [c.name],aD 4 c.table,aD 2 c.attr,aD 4 c.oid,aD 2 c.size,aD 4 c.mod,aD 2 c.format] _ (by simp;omega) (by simp)) (by simp[rq]) (by simp) ?_
 simp[hh,DC]
def kT(f:Fi):d5:=aah f.code.toNat::aM [f.text]
def lF(l:List Fi):d5:=l.flatMap kT++[0]
theorem Dm(l:List Fi)(hl:(lF l).length <= 140737488351232)(hn:l.length <= 140737488355328)(hc:∀ f∈l,0 <= f.code /\ f.code<256)(h:d4):ae Tryz.prog 120 [.sl 2 (am qN l) none .no] h (.sl 1 (ai (lF l)) none (.own .res)) h []:=by
 refine ac Xa mixed (by simp[M9]) fun hh hargs=>?_
 unfold lF at hl
 rw[List.length_append,List.length_singleton] at hl
 simp[M9]
 refine ap (D:=Nat) (fun j=>⟨[(6,.sl 2 (am qN l) none .no),(7,.v (.int .i64 l.length)),(8,.v (.int .i64 j))],[(3,.sl 1 (ai ((l.take j).flatMap kT)) none (.own (.slot 3)))],h,[]⟩) (fun j=>j <= l.length) (fun j=>l.length-j) 0 (by simp) ?_ ?_
 ·simp[Leq,hh]
 ·intro j hj
  by_cases hlt:j<l.length
  ·have hw:IntKind.i64.wrap ((j:Int)+1)=(j:Int)+1:=wrap64 (by omega) (by omega)
   obtain⟨hx,hb⟩:=dk kT l 1 j hlt 140737488351232 (by omega)
   have hc1:=hc l[j] (aag _)
   have hc3:max l[j].code 0 % 256=l[j].code:=by omega
   unfold kT at hb
   rw[List.length_cons] at hb
   change 1+((List.flatMap kT (List.take j l)).length+_) <= _ at hb
   simp[hlt,-aac]
   refine⟨by omega,?_⟩
   refine ak (pb [l[j].text] (by omega) _) (by simp[lW]) (by simp) ?_
   simp[hw,-aac]
   refine⟨by omega,j+1,by omega,by omega,?_⟩
   simp[Leq,hh,hx,kT,hc3]
  ·have:j=l.length:=by omega
   subst this
   simp[hh,lF,-aac]
   omega
def rn(m:Bk):d5 :=
 if m.kind=82 then aD 4 0
 else if m.kind=83 then aM [m.name,m.value]
 else if m.kind=75 then aD 4 m.n++aD 4 m.m
 else if m.kind=90 then[aah m.status.toNat]
 else if m.kind=67 then aM [m.tag]
 else if m.kind=68 then aG cd m.row
 else if m.kind=84 then aG DC m.cols
 else if m.kind=116 then aG (aD 4) m.oids
 else if m.kind=69 \/ m.kind=78 then lF m.fields
 else[]
def MK(m:Bk):Prop:=(0 <= m.status /\ m.status<256) /\ (∀ c∈m.row,c.2.length <= 70000000000000) /\ (∀ c∈m.cols,c.name.length <= 70000000000000) /\ ∀ f∈m.fields,0 <= f.code /\ f.code<256
theorem Jq(m:Bk)(hf:lY m)(ho:MK m)(hb:(rn m).length <= 140737488351232)(h:d4):ae Tryz.prog 87 [.agg (bh m)] h (.sl 1 (ai (rn m)) none .no) h []:=by
 obtain⟨q1,q2,q3,q4,q5⟩:=hf
 obtain⟨o1,o2,o3,o4⟩:=ho
 refine ac k87 mixed (by simp[Fh]) fun hh hargs=>?_
 unfold rn at hb ⊢
 by_cases h82:m.kind=82
 ·simp[Fh,h82]
  refine aa (by simp) (lB 0 _) ?_
  simp[hh]
 rw[if_neg h82] at hb ⊢
 by_cases h83:m.kind=83
 ·rw[if_pos h83] at hb
  simp[Fh,h83]
  refine ak (pb [m.name,m.value] (by omega) _) (by simp[lW]) (by simp) ?_
  simp[hh]
 rw[if_neg h83] at hb ⊢
 by_cases h75:m.kind=75
 ·have l1:=bp 4 m.n (by omega)
  have l2:=bp 4 m.m (by omega)
  simp[Fh,h75]
  refine aa (by simp) (lB _ _) ?_
  simp
  refine aa (by simp) (lB _ _) ?_
  simp
  refine ak (xO [aD 4 m.n,aD 4 m.m] _ (by simp;omega) (by simp)) (by simp[rq]) (by simp) ?_
  simp[hh]
 rw[if_neg h75] at hb ⊢
 by_cases h90:m.kind=90
 ·have hw:max m.status 0 % 256=m.status:=by omega
  simp[Fh,h90,hh,hw]
 rw[if_neg h90] at hb ⊢
 by_cases h67:m.kind=67
 ·rw[if_pos h67] at hb
  simp[Fh,h67]
  refine ak (pb [m.tag] (by omega) _) (by simp[lW]) (by simp) ?_
  simp[hh]
 rw[if_neg h67] at hb ⊢
 by_cases h68:m.kind=68
 ·rw[if_pos h68] at hb
  simp[Fh,h68]
  refine aa (by simp) (E7 m.row _ (by omega) q3 o2) ?_
  simp[hh]
 rw[if_neg h68] at hb ⊢
 by_cases h84:m.kind=84
 ·rw[if_pos h84] at hb
  simp[Fh,h84]
  refine aa (by simp) (IU DC m.cols _ [] _ (by omega) q2 (by simp) (by simp) fun n hn h'=>MR n (o3 n hn) _) ?_
  simp[hh]
 rw[if_neg h84] at hb ⊢
 by_cases h116:m.kind=116
 ·rw[if_pos h116] at hb
  simp[Fh,h116]
  refine aa (by simp) (B7 4 m.oids _ (by omega) q1) ?_
  simp[hh]
 rw[if_neg h116] at hb ⊢
 by_cases h69:m.kind=69 \/ m.kind=78
 ·rw[if_pos h69] at hb
  rcases h69 with h69 |h69
  all_goals
   simp[Fh,h69]
   refine aa (by simp) (Dm m.fields (by omega) q4 o4 _) ?_
   simp[hh]
 have h69':¬m.kind=69:=fun h=>h69 (.inl h)
 have h78':¬m.kind=78:=fun h=>h69 (.inr h)
 rw[if_neg h69]
 simp[Fh,h82,h83,h75,h90,h67,h68,h84,h116,h69',h78',hh]
def bP(m:Bk):Ms×Int:=if gl m=0 then(⟨m.kind,rn m⟩,0) else(⟨0,[]⟩,gl m)
theorem Dl(m:Bk)(hf:lY m)(ho:MK m)(hb:(rn m).length <= 140737488351232)(h:d4):ae Tryz.prog 64 [.agg (bh m)] h (.tup [.agg (bL (bP m).1),.v (.int .i64 (bP m).2)]) h []:=by
 refine ac ZW mixed (by simp[VY]) fun hh hargs=>?_
 simp[VY]
 refine aa (by simp) (FC m hf _) ?_
 by_cases he:gl m=0
 ·simp[he]
  refine aa (by simp) (Jq m hf ho hb _) ?_
  simp[hh,bP,he,aO]
 ·simp[he,hh,bP,aO]
open He (textL)
end Ax
end Go.Proofs.YtlbgjlmokpkkeaaGreatDoor
