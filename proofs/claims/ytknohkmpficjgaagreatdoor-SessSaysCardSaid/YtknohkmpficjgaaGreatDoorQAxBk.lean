import Derived.Test.YtknohkmpficjgaaGreatDoorQAxPl
set_option linter.unusedSimpArgs false
set_option linter.unusedVariables false
open List renaming all_cons -> Q7, all_nil -> Q9, not_all_eq_any_not -> Ra
open Bool renaming and_true -> Q8, eq_iff_iff -> Rb
namespace Go.Proofs.YtknohkmpficjgaaGreatDoor.Ax
open Go.RowKit Go By
def P9:XFun:=⟨9,.seq (.ops [oK 4 (.bool false)]) (.seq (.ops [oM 5 0,oM 6 1,oC 7 110 [5,6],oI 8 .geq 7 (.int .i64 0),oA 4 8]) .ret),[.move (.tmp 4)]⟩
theorem QK : ai Tryz.prog 55 = some P9 := by kernel_rfl
def Ni:XFun:=⟨19,.seq (.ops [oK 4 (.int .i64 0)]) (.seq (.seq (.ops [oM 6 0,oH 7 6,oX 8 (.move (.const (.int .i64 0)))]) (.block 0 (.loop (.seq (.ops [oB 9 .lss 8 7]) (.seq (.cond (.tmp 9) .skip (.exit 0)) (.seq (.block 1 (.seq (.ops [oM 10 8,oA 5 10]) (.seq (.ops [oM 11 1,oM 12 0,oM 13 5,oW 14 7 12 13,oP 15 7 14,oX 16 (.callv (.tmp 11) [.tmp 15])]) (.cond (.tmp 16) (.seq (.ops [oM 17 5,oA 4 17]) .ret) .skip)))) (.ops [oI 18 .add 8 (.int .i64 1),oM 8 18]))))))) (.seq (.ops [oK 4 (.int .i64 (-1))]) .ret)),[.move (.tmp 4)]⟩
theorem Ou : ai Tryz.prog 110 = some Ni := by kernel_rfl
def Qa:XFun:=⟨9,.seq (.ops [oK 4 (.bool false)]) (.seq (.ops [oM 5 0,oM 6 1,oC 7 112 [5,6],oI 8 .geq 7 (.int .i64 0),oA 4 8]) .ret),[.move (.tmp 4)]⟩
theorem QN : ai Tryz.prog 58 = some Qa := by kernel_rfl
def Nj:XFun:=⟨19,.seq (.ops [oK 4 (.int .i64 0)]) (.seq (.seq (.ops [oM 6 0,oH 7 6,oX 8 (.move (.const (.int .i64 0)))]) (.block 0 (.loop (.seq (.ops [oB 9 .lss 8 7]) (.seq (.cond (.tmp 9) .skip (.exit 0)) (.seq (.block 1 (.seq (.ops [oM 10 8,oA 5 10]) (.seq (.ops [oM 11 1,oM 12 0,oM 13 5,oW 14 2 12 13,oP 15 2 14,oX 16 (.callv (.tmp 11) [.tmp 15])]) (.cond (.tmp 16) (.seq (.ops [oM 17 5,oA 4 17]) .ret) .skip)))) (.ops [oI 18 .add 8 (.int .i64 1),oM 8 18]))))))) (.seq (.ops [oK 4 (.int .i64 (-1))]) .ret)),[.move (.tmp 4)]⟩
theorem Ow : ai Tryz.prog 112 = some Nj := by kernel_rfl
def Qe:XFun:=⟨26,.seq (.ops [oK 4 (.bool false)]) (.seq (.seq (.ops [oM 6 0,oH 7 6,oM 8 1,oH 9 8,oB 10 .neq 7 9]) (.cond (.tmp 10) (.seq (.ops [oK 4 (.bool false)]) .ret) .skip)) (.seq (.seq (.ops [oM 11 0,oH 12 11,oX 13 (.move (.const (.int .i64 0)))]) (.block 0 (.loop (.seq (.ops [oB 14 .lss 13 12]) (.seq (.cond (.tmp 14) .skip (.exit 0)) (.seq (.block 1 (.seq (.ops [oM 15 13,oA 5 15]) (.seq (.draws (.take (oM 16 0) (.take (oM 17 5) (.take (oW 18 7 16 17) (.take (oP 19 7 18) (.take (oM 20 1) (.take (oM 21 5) (.take (oW 22 7 20 21) (.take (oP 23 7 22) (.take (oX 24 (.aeq true [2,1,1,1,1,1,1] (.tmp 19) (.tmp 23))) .done)))))))))) (.cond (.tmp 24) (.seq (.ops [oK 4 (.bool false)]) .ret) .skip)))) (.ops [oI 25 .add 13 (.int .i64 1),oM 13 25]))))))) (.seq (.ops [oK 4 (.bool true)]) .ret))),[.move (.tmp 4)]⟩
theorem Jt : ai Tryz.prog 68 = some Qe := by kernel_rfl
def Qf:XFun:=⟨26,.seq (.ops [oK 4 (.bool false)]) (.seq (.seq (.ops [oM 6 0,oH 7 6,oM 8 1,oH 9 8,oB 10 .neq 7 9]) (.cond (.tmp 10) (.seq (.ops [oK 4 (.bool false)]) .ret) .skip)) (.seq (.seq (.ops [oM 11 0,oH 12 11,oX 13 (.move (.const (.int .i64 0)))]) (.block 0 (.loop (.seq (.ops [oB 14 .lss 13 12]) (.seq (.cond (.tmp 14) .skip (.exit 0)) (.seq (.block 1 (.seq (.ops [oM 15 13,oA 5 15]) (.seq (.draws (.take (oM 16 0) (.take (oM 17 5) (.take (oW 18 2 16 17) (.take (oP 19 2 18) (.take (oM 20 1) (.take (oM 21 5) (.take (oW 22 2 20 21) (.take (oP 23 2 22) (.take (oX 24 (.aeq true [1,2] (.tmp 19) (.tmp 23))) .done)))))))))) (.cond (.tmp 24) (.seq (.ops [oK 4 (.bool false)]) .ret) .skip)))) (.ops [oI 25 .add 13 (.int .i64 1),oM 13 25]))))))) (.seq (.ops [oK 4 (.bool true)]) .ret))),[.move (.tmp 4)]⟩
theorem QT : ai Tryz.prog 70 = some Qf := by kernel_rfl
def CE:XFun:=⟨80,.seq (.ops [oJ 2 0,oJ 3 1,oK 4 (.bool false)]) (.seq (.ops [oF 5 0 2,oL 6 5,oF 7 0 3,oL 8 7,oB 9 .eql 6 8,oM 10 9,oG 10 true (oF 11 1 2),oG 10 true (oL 12 11),oG 10 true (oF 13 1 3),oG 10 true (oL 14 13),oG 10 true (oB 15 .eql 12 14),oT 16 10 15,oM 17 16,oG 17 true (oF 18 2 2),oG 17 true (oL 19 18),oG 17 true (oF 20 2 3),oG 17 true (oL 21 20),oG 17 true (oB 22 .eql 19 21),oT 23 17 22,oM 24 23,oG 24 true (oF 25 3 2),oG 24 true (oL 26 25),oG 24 true (oF 27 3 3),oG 24 true (oL 28 27),oG 24 true (oB 29 .eql 26 28),oT 30 24 29,oM 31 30,oG 31 true (oF 32 4 2),oG 31 true (oL 33 32),oG 31 true (oF 34 4 3),oG 31 true (oL 35 34),oG 31 true (oB 36 .eql 33 35),oT 37 31 36,oM 38 37,oG 38 true (oF 39 5 2),oG 38 true (oL 40 39),oG 38 true (oF 41 5 3),oG 38 true (oL 42 41),oG 38 true (oB 43 .eql 40 42),oT 44 38 43,oM 45 44,oG 45 true (oF 46 6 2),oG 45 true (oL 47 46),oG 45 true (oF 48 6 3),oG 45 true (oL 49 48),oG 45 true (oB 50 .eql 47 49),oT 51 45 50,oM 52 51,oG 52 true (oF 53 7 2),oG 52 true (oL 54 53),oG 52 true (oF 55 7 3),oG 52 true (oL 56 55),oG 52 true (oC 57 67 [54,56]),oT 58 52 57,oM 59 58,oG 59 true (oF 60 8 2),oG 59 true (oL 61 60),oG 59 true (oF 62 8 3),oG 59 true (oL 63 62),oG 59 true (oC 64 68 [61,63]),oT 65 59 64,oM 66 65,oG 66 true (oF 67 9 2),oG 66 true (oL 68 67),oG 66 true (oF 69 9 3),oG 66 true (oL 70 69),oG 66 true (oC 71 69 [68,70]),oT 72 66 71,oM 73 72,oG 73 true (oF 74 10 2),oG 73 true (oL 75 74),oG 73 true (oF 76 10 3),oG 73 true (oL 77 76),oG 73 true (oC 78 70 [75,77]),oT 79 73 78,oA 4 79]) .ret),[.move (.tmp 4)]⟩
theorem Qy : ai Tryz.prog 33 = some CE := by kernel_rfl
def Ns:XFun:=⟨42,.seq (.ops [oJ 1 0,oK 2 (.int .i64 0)]) (.seq (.seq (.ops [oF 3 0 1,oL 4 3,oC 5 28 [4],oV 6 5]) (.cond (.tmp 6) (.seq (.ops [oK 2 (.int .i64 9)]) .ret) .skip)) (.seq (.seq (.draws (.take (oP 7 11 1) (.only (oC 8 29 [7]) (.take (oV 9 8) (.take (oM 10 9) (.take (oG 10 false (oP 11 11 1)) (.only (oG 10 false (oC 12 30 [11])) (.take (oG 10 false (oV 13 12)) (.take (oU 14 10 13) (.take (oM 15 14) (.take (oG 15 false (oF 16 2 1)) (.take (oG 15 false (oL 17 16)) (.take (oG 15 false (oF 18 3 1)) (.take (oG 15 false (oL 19 18)) (.take (oG 15 false (oF 20 4 1)) (.take (oG 15 false (oL 21 20)) (.only (oG 15 false (oX 22 (.buildSlice 1 3 rA [(0,.tmp 17),(1,.tmp 19),(2,.tmp 21)]))) (.only (oG 15 false (oC 23 31 [22])) (.take (oG 15 false (oV 24 23)) (.take (oU 25 15 24) (.take (oM 26 25) (.take (oG 26 false (oF 27 5 1)) (.take (oG 26 false (oL 28 27)) (.take (oG 26 false (oF 29 6 1)) (.take (oG 26 false (oL 30 29)) (.only (oG 26 false (oX 31 (.buildSlice 1 2 ly [(0,.tmp 28),(1,.tmp 30)]))) (.only (oG 26 false (oX 32 (.call 32 [.const (.int .i64 4),.tmp 31]))) (.take (oG 26 false (oV 33 32)) (.take (oU 34 26 33) (.take (oM 35 34) (.take (oG 35 false (oP 36 11 1)) (.take (oG 35 false (oP 37 11 1)) (.only (oG 35 false (oC 38 34 [37])) (.only (oG 35 false (oC 39 33 [36,38])) (.take (oG 35 false (oV 40 39)) (.take (oU 41 35 40) .done)))))))))))))))))))))))))))))))))))) (.cond (.tmp 41) (.seq (.ops [oK 2 (.int .i64 1)]) .ret) .skip)) (.seq (.ops [oK 2 (.int .i64 0)]) .ret))),[.move (.tmp 2)]⟩
theorem Qn : ai Tryz.prog 16 = some Ns := by kernel_rfl
def rJ:XFun:=⟨21,.seq (.ops [oK 2 (.bool false)]) (.seq (.seq (.ops [oM 3 0]) (.block 0 (.seq (.seq (.ops [oI 5 .eql 3 (.int .u8 82),oA 4 5]) (.cond (.tmp 4) .skip (.seq (.ops [oI 6 .eql 3 (.int .u8 83),oA 4 6]) (.cond (.tmp 4) .skip (.seq (.ops [oI 7 .eql 3 (.int .u8 75),oA 4 7]) (.cond (.tmp 4) .skip (.seq (.ops [oI 8 .eql 3 (.int .u8 90),oA 4 8]) (.cond (.tmp 4) .skip (.seq (.ops [oI 9 .eql 3 (.int .u8 49),oA 4 9]) (.cond (.tmp 4) .skip (.seq (.ops [oI 10 .eql 3 (.int .u8 50),oA 4 10]) (.cond (.tmp 4) .skip (.seq (.ops [oI 11 .eql 3 (.int .u8 51),oA 4 11]) (.cond (.tmp 4) .skip (.seq (.ops [oI 12 .eql 3 (.int .u8 110),oA 4 12]) (.cond (.tmp 4) .skip (.seq (.ops [oI 13 .eql 3 (.int .u8 115),oA 4 13]) (.cond (.tmp 4) .skip (.seq (.ops [oI 14 .eql 3 (.int .u8 73),oA 4 14]) (.cond (.tmp 4) .skip (.seq (.ops [oI 15 .eql 3 (.int .u8 67),oA 4 15]) (.cond (.tmp 4) .skip (.seq (.ops [oI 16 .eql 3 (.int .u8 68),oA 4 16]) (.cond (.tmp 4) .skip (.seq (.ops [oI 17 .eql 3 (.int .u8 84),oA 4 17]) (.cond (.tmp 4) .skip (.seq (.ops [oI 18 .eql 3 (.int .u8 116),oA 4 18]) (.cond (.tmp 4) .skip (.seq (.ops [oI 19 .eql 3 (.int .u8 69),oA 4 19]) (.cond (.tmp 4) .skip (.ops [oI 20 .eql 3 (.int .u8 78),oA 4 20]))))))))))))))))))))))))))))))) (.cond (.tmp 4) (.seq (.ops [oK 2 (.bool true)]) .ret) .skip)))) (.seq (.ops [oK 2 (.bool false)]) .ret)),[.move (.tmp 2)]⟩
theorem Qt : ai Tryz.prog 28 = some rJ := by kernel_rfl
def L9:XFun:=⟨11,.seq (.ops [oJ 1 0,oK 2 (.bool false)]) (.seq (.ops [oF 3 0 1,oL 4 3,oI 5 .neq 4 (.int .u8 90),oM 6 5,oG 6 false (oF 7 1 1),oG 6 false (oL 8 7),oG 6 false (oC 9 53 [8]),oU 10 6 9,oA 2 10]) .ret),[.move (.tmp 2)]⟩
theorem Qu : ai Tryz.prog 29 = some L9 := by kernel_rfl
def Ma:XFun:=⟨39,.seq (.ops [oJ 1 0,oK 2 (.bool false)]) (.seq (.ops [oF 3 7 1,oL 4 3,oH 5 4,oF 6 8 1,oL 7 6,oH 8 7,oF 9 9 1,oL 10 9,oH 11 10,oF 12 10 1,oL 13 12,oH 14 13,oX 15 (.maxI [.tmp 5,.tmp 8,.tmp 11,.tmp 14]),oI 16 .leq 15 (.int .i64 65535),oM 17 16,oG 17 true (oF 18 7 1),oG 17 true (oL 19 18),oG 17 true (oX 20 (.call 32 [.const (.int .i64 4),.tmp 19])),oT 21 17 20,oM 22 21,oG 22 true (oF 23 9 1),oG 22 true (oL 24 23),oG 22 true (oC 25 54 [24]),oT 26 22 25,oM 27 26,oG 27 true (oF 28 8 1),oG 27 true (oL 29 28),oG 27 true (oX 30 (.call 55 [.tmp 29,.func 56])),oG 27 true (oV 31 30),oT 32 27 31,oM 33 32,oG 33 true (oF 34 10 1),oG 33 true (oL 35 34),oG 33 true (oX 36 (.call 58 [.tmp 35,.func 59])),oG 33 true (oV 37 36),oT 38 33 37,oA 2 38]) .ret),[.move (.tmp 2)]⟩
theorem Qv : ai Tryz.prog 30 = some Ma := by kernel_rfl
def NE:XFun:=⟨6,.seq (.ops [oJ 1 0,oK 2 (.bool false)]) (.seq (.ops [oP 3 7 1,oC 4 57 [3],oV 5 4,oA 2 5]) .ret),[.move (.tmp 2)]⟩
theorem QL : ai Tryz.prog 56 = some NE := by kernel_rfl
def NG:XFun:=⟨6,.seq (.ops [oJ 1 0,oK 2 (.bool false)]) (.seq (.ops [oP 3 2 1,oC 4 60 [3],oV 5 4,oA 2 5]) .ret),[.move (.tmp 2)]⟩
theorem QO : ai Tryz.prog 59 = some NG := by kernel_rfl
def NF:XFun:=⟨35,.seq (.ops [oJ 1 0,oK 2 (.bool false)]) (.seq (.ops [oF 3 0 1,oL 4 3,oR 5 1 1 4 rA,oC 6 31 [5],oM 7 6,oG 7 true (oF 8 1 1),oG 7 true (oL 9 8),oG 7 true (oF 10 3 1),oG 7 true (oL 11 10),oG 7 true (oX 12 (.buildSlice 1 2 ly [(0,.tmp 9),(1,.tmp 11)])),oG 7 true (oX 13 (.call 32 [.const (.int .i64 4),.tmp 12])),oT 14 7 13,oM 15 14,oG 15 true (oF 16 2 1),oG 15 true (oL 17 16),oG 15 true (oF 18 6 1),oG 15 true (oL 19 18),oG 15 true (oX 20 (.buildSlice 1 2 ly [(0,.tmp 17),(1,.tmp 19)])),oG 15 true (oX 21 (.call 32 [.const (.int .i64 2),.tmp 20])),oT 22 15 21,oM 23 22,oG 23 true (oF 24 4 1),oG 23 true (oL 25 24),oG 23 true (oR 26 1 1 25 ly),oG 23 true (oX 27 (.call 111 [.const (.int .i64 2),.tmp 26])),oT 28 23 27,oM 29 28,oG 29 true (oF 30 5 1),oG 29 true (oL 31 30),oG 29 true (oR 32 1 1 31 ly),oG 29 true (oX 33 (.call 111 [.const (.int .i64 4),.tmp 32])),oT 34 29 33,oA 2 34]) .ret),[.move (.tmp 2)]⟩
theorem QM : ai Tryz.prog 57 = some NF := by kernel_rfl
def Me:XFun:=⟨12,.seq (.ops [oJ 1 0,oK 2 (.bool false)]) (.seq (.ops [oF 3 0 1,oL 4 3,oI 5 .neq 4 (.int .u8 0),oM 6 5,oG 6 true (oF 7 1 1),oG 6 true (oL 8 7),oG 6 true (oR 9 1 1 8 rA),oG 6 true (oC 10 31 [9]),oT 11 6 10,oA 2 11]) .ret),[.move (.tmp 2)]⟩
theorem QP : ai Tryz.prog 60 = some Me := by kernel_rfl
def Aa:XFun:=⟨57,.seq (.ops [oJ 1 0,oZ 2 bM]) (.seq (.ops [oF 4 0 1,oL 5 4,oD 6 0 bM 5,oZ 3 bM,oS 11 3 6]) (.seq (.seq (.ops [oF 7 0 1,oL 8 7]) (.block 0 (.seq (.ops [oI 10 .eql 8 (.int .u8 83),oA 9 10]) (.cond (.tmp 9) (.draws (.take (oF 11 3 1) (.take (oL 12 11) (.take (oF 13 4 1) (.take (oL 14 13) (.take (oF 15 3 3) (.only (oS 1 15 12) (.take (oF 16 4 3) (.last (oS 1 16 14)))))))))) (.seq (.ops [oI 18 .eql 8 (.int .u8 75),oA 17 18]) (.cond (.tmp 17) (.draws (.take (oF 19 5 1) (.take (oL 20 19) (.take (oF 21 6 1) (.take (oL 22 21) (.take (oF 23 5 3) (.only (oS 1 23 20) (.take (oF 24 6 3) (.last (oS 1 24 22)))))))))) (.seq (.ops [oI 26 .eql 8 (.int .u8 90),oA 25 26]) (.cond (.tmp 25) (.ops [oF 27 1 1,oL 28 27,oF 29 1 3,oS 1 29 28]) (.seq (.ops [oI 31 .eql 8 (.int .u8 67),oA 30 31]) (.cond (.tmp 30) (.ops [oF 32 2 1,oL 33 32,oF 34 2 3,oS 1 34 33]) (.seq (.ops [oI 36 .eql 8 (.int .u8 68),oA 35 36]) (.cond (.tmp 35) (.ops [oF 37 9 1,oL 38 37,oF 39 9 3,oS 1 39 38]) (.seq (.ops [oI 41 .eql 8 (.int .u8 84),oA 40 41]) (.cond (.tmp 40) (.ops [oF 42 8 1,oL 43 42,oF 44 8 3,oS 1 44 43]) (.seq (.ops [oI 46 .eql 8 (.int .u8 116),oA 45 46]) (.cond (.tmp 45) (.ops [oF 47 7 1,oL 48 47,oF 49 7 3,oS 1 49 48]) (.seq (.seq (.ops [oI 51 .eql 8 (.int .u8 69),oA 50 51]) (.cond (.tmp 50) .skip (.ops [oI 52 .eql 8 (.int .u8 78),oA 50 52]))) (.cond (.tmp 50) (.ops [oF 53 10 1,oL 54 53,oF 55 10 3,oS 1 55 54]) .skip)))))))))))))))))) (.seq (.ops [oP 56 11 3,oS 11 2 56]) .ret))),[.loadN 11 (.tmp 2)]⟩
theorem Qz : ai Tryz.prog 34 = some Aa := by kernel_rfl
def Md:XFun:=⟨13,.seq (.ops [oK 2 (.bool false)]) (.seq (.ops [oM 3 0,oI 4 .eql 3 (.int .u8 73),oM 5 4,oG 5 false (oM 6 0),oG 5 false (oI 7 .eql 6 (.int .u8 84)),oU 8 5 7,oM 9 8,oG 9 false (oM 10 0),oG 9 false (oI 11 .eql 10 (.int .u8 69)),oU 12 9 11,oA 2 12]) .ret),[.move (.tmp 2)]⟩
theorem QI : ai Tryz.prog 53 = some Md := by kernel_rfl
def Ge:XFun:=⟨16,.seq (.ops [oN 6]) (.seq (.ops [oM 7 0,oX 8 (.build zZ [(0,1,.const (.int .u8 83)),(1,1,.tmp 7)]),oM 9 0,oX 10 (.build zZ [(0,1,.const (.int .u8 86)),(1,1,.tmp 9)]),oM 11 1,oX 12 (.build zZ [(0,1,.const (.int .u8 67)),(1,1,.tmp 11)]),oM 13 2,oX 14 (.build zZ [(0,1,.const (.int .u8 77)),(1,1,.tmp 13)]),oX 15 (.buildSlice 2 4 zZ [(0,.tmp 8),(1,.tmp 10),(2,.tmp 12),(3,.tmp 14)]),oA 6 15]) .ret),[.move (.tmp 6)]⟩
theorem OY : ai Tryz.prog 158 = some Ge := by kernel_rfl
def NW:XFun:=⟨12,.seq (.ops [oZ 6 bM]) (.seq (.ops [oM 7 0,oM 8 1,oM 9 2,oC 10 158 [7,8,9],oX 11 (.build bM [(0,1,.const (.int .u8 69)),(10,1,.tmp 10)]),oS 11 6 11]) .ret),[.loadN 11 (.tmp 6)]⟩
theorem Q5 : ai Tryz.prog 97 = some NW := by kernel_rfl
end Go.Proofs.YtknohkmpficjgaaGreatDoor.Ax
namespace Go.Proofs.YtknohkmpficjgaaGreatDoor.Ax
open Go.RowKit Go By YtknohkmpficjgaaGreatDoor.Nm Sc Dg
set_option maxRecDepth 10000
def bP (k : Int) : Bool := decide (k = 82 \/ k = 83 \/ k = 75 \/ k = 90 \/ k = 49 \/ k = 50 \/ k = 51 \/ k = 110 \/ k = 115 \/ k = 73 \/ k = 67 \/ k = 68 \/ k = 84 \/ k = 116 \/ k = 69 \/ k = 78)
theorem CQ (k : Int) (h : List (List AV)) : ae Tryz.prog 28 [.v (.int .u8 k)] h (.v (.bool (bP k))) h [] := by
 refine ac Qt mixed (by simp [rJ]) fun hh hargs => ?_
 by_cases h82 : k = 82
 ·subst h82; simp [rJ, hh, bP]
 by_cases h83 : k = 83
 ·subst h83; simp [rJ, hh, bP]
 by_cases h75 : k = 75
 ·subst h75; simp [rJ, hh, bP]
 by_cases h90 : k = 90
 ·subst h90; simp [rJ, hh, bP]
 by_cases h49 : k = 49
 ·subst h49; simp [rJ, hh, bP]
 by_cases h50 : k = 50
 ·subst h50; simp [rJ, hh, bP]
 by_cases h51 : k = 51
 ·subst h51; simp [rJ, hh, bP]
 by_cases h110 : k = 110
 ·subst h110; simp [rJ, hh, bP]
 by_cases h115 : k = 115
 ·subst h115; simp [rJ, hh, bP]
 by_cases h73 : k = 73
 ·subst h73; simp [rJ, hh, bP]
 by_cases h67 : k = 67
 ·subst h67; simp [rJ, hh, bP]
 by_cases h68 : k = 68
 ·subst h68; simp [rJ, hh, bP]
 by_cases h84 : k = 84
 ·subst h84; simp [rJ, hh, bP]
 by_cases h116 : k = 116
 ·subst h116; simp [rJ, hh, bP]
 by_cases h69 : k = 69
 ·subst h69; simp [rJ, hh, bP]
 by_cases h78 : k = 78
 ·subst h78; simp [rJ, hh, bP]
 simp [rJ, hh, bP, h82, h83, h75, h90, h49, h50, h51, h110, h115, h73, h67, h68, h84, h116, h69, h78]
def xX (s : Int) : Bool := s == 73 || (s == 84 || s == 69)
theorem CV (s : Int) (h : List (List AV)) : ae Tryz.prog 53 [.v (.int .u8 s)] h (.v (.bool (xX s))) h [] := by
 refine ac QI mixed (by simp [Md]) fun hh hargs => ?_
 cases h1 : s == 73 with
 | true => simp [Md, hh, xX, h1]
 | false =>
  cases h2 : s == 84 <;> simp [Md, hh, xX, h1, h2]
def ix (m : Bk) : Prop := m.oids.length <= 140737488355328 /\ m.cols.length <= 140737488355328 /\ m.row.length <= 140737488355328 /\ m.fields.length <= 140737488355328 /\ (∀ c ∈ m.row, c.2.length <= 140737488355328)
def oO (a b : Co) : Bool := a.name == b.name && (a.table == b.table && (a.attr == b.attr && (a.oid == b.oid && (a.size == b.size && (a.mod == b.mod && (a.format == b.format && true))))))
def pa (a b : Fi) : Bool := a.code == b.code && (a.text == b.text && true)
theorem zu (a b : Co) : oO a b = (a == b) := by
 obtain ⟨a1, a2, a3, a4, a5, a6, a7⟩ := a
 obtain ⟨b1, b2, b3, b4, b5, b6, b7⟩ := b
 rw [Rb]; simp [oO]
theorem zw (a b : Fi) : pa a b = (a == b) := by
 obtain ⟨a1, a2⟩ := a
 obtain ⟨b1, b2⟩ := b
 rw [Rb]; simp [pa]
theorem AK (l m : List Co) (hl : l.length <= 140737488355328) (h : List (List AV)) : ae Tryz.prog 68 [.sl 7 (al iE l) none .no, .sl 7 (al iE m) none .no] h (.v (.bool (l == m))) h [] := by
 have := nK mixed Jt oO iE (by simp) (by simp) (fun x y => by simp [vd, oO]) l m h hl
 rwa [show oO = (· == ·) from funext fun a => funext fun b => zu a b, gR] at this
theorem vp (l m : List Fi) (hl : l.length <= 140737488355328) (h : List (List AV)) : ae Tryz.prog 70 [.sl 2 (al pL l) none .no, .sl 2 (al pL m) none .no] h (.v (.bool (l == m))) h [] := by
 have := nK mixed QT pa pL (by simp) (by simp) (fun x y => by simp [vA, pa]) l m h hl
 rwa [show pa = (· == ·) from funext fun a => funext fun b => zw a b, gR] at this
def mG (a b : Bk) : Bool := a.kind == b.kind && (a.status == b.status && (a.tag == b.tag && (a.name == b.name && (a.value == b.value && (a.n == b.n && (a.m == b.m && (a.oids == b.oids && (a.cols == b.cols && (a.row == b.row && a.fields == b.fields)))))))))
theorem BM (a b : Bk) : mG a b = decide (a = b) := by
 obtain ⟨a1, a2, a3, a4, a5, a6, a7, a8, a9, a10, a11⟩ := a
 obtain ⟨b1, b2, b3, b4, b5, b6, b7, b8, b9, b10, b11⟩ := b
 rw [Rb]; simp [mG]
theorem wn (a : Bk) : mG a a = true := by rw [BM]; simp
theorem CU (a b : Bk) (ha : ix a) (h : List (List AV)) : ae Tryz.prog 33 [.agg (aU a), .agg (aU b)] h (.v (.bool (mG a b))) h [] := by
 obtain ⟨q1, q2, q3, q4, _⟩ := ha
 refine ac Qy mixed (by simp [CE]) fun hh hargs => ?_
 unfold mG
 cases p0 : a.kind == b.kind with
 | false => simp [CE, hh, p0]
 | true =>
 cases p1 : a.status == b.status with
 | false => simp [CE, hh, p0, p1]
 | true =>
 cases p2 : a.tag == b.tag with
 | false => simp [CE, hh, p0, p1, p2]
 | true =>
 cases p3 : a.name == b.name with
 | false => simp [CE, hh, p0, p1, p2, p3]
 | true =>
 cases p4 : a.value == b.value with
 | false => simp [CE, hh, p0, p1, p2, p3, p4]
 | true =>
 cases p5 : a.n == b.n with
 | false => simp [CE, hh, p0, p1, p2, p3, p4, p5]
 | true =>
 cases p6 : a.m == b.m with
 | false => simp [CE, hh, p0, p1, p2, p3, p4, p5, p6]
 | true =>
 simp [CE, p0, p1, p2, p3, p4, p5, p6]
 refine aa (by simp) (wy _ _ q1 _) ?_
 cases p7 : a.oids == b.oids with
 | false => simp [hh]
 | true =>
 simp
 refine aa (by simp) (AK _ _ q2 _) ?_
 cases p8 : a.cols == b.cols with
 | false => simp [hh]
 | true =>
 simp
 refine aa (by simp) (Ep _ _ q3 _) ?_
 cases p9 : a.row == b.row with
 | false => simp [hh]
 | true =>
 simp
 refine aa (by simp) (vp _ _ q4 _) ?_
 simp [hh]
def lT (m : Bk) : Bool := !(m.kind == 90) || xX m.status
theorem Am (m : Bk) (h : List (List AV)) : ae Tryz.prog 29 [.agg (aU m)] h (.v (.bool (lT m))) h [] := by
 refine ac Qu mixed (by simp [L9]) fun hh hargs => ?_
 unfold lT
 cases h1 : m.kind == 90 with
 | false =>
  have e1 : (m.kind != 90) = true := by simp [bne, h1]
  simp [L9, hh, e1]
 | true =>
  have e1 : (m.kind != 90) = false := by simp [bne, h1]
  simp [L9, e1]
  refine aa (by simp) (CV _ _) ?_
  simp [hh]
def mQ (c : Co) : Bool := aA c.name && ((dl 4 c.table && dl 4 c.oid) && ((dl 2 c.attr && dl 2 c.format) && (uy 2 c.size && uy 4 c.mod)))
theorem CS (c : Co) (h : List (List AV)) : ae Tryz.prog 57 [.agg (iE c)] h (.v (.bool (mQ c))) h [] := by
 refine ac QM mixed (by simp [NF]) fun hh hargs => ?_
 unfold mQ
 simp [NF]
 refine ao (pC [c.name] (by simp) _) (by simp [gh]) (by simp) ?_
 simp only [Q7, Q9, Q8]
 cases p1 : aA c.name with
 | false => simp [hh]
 | true =>
 simp
 refine ao (sK 4 [c.table, c.oid] (by simp) _) (by simp [aN]) (by simp) ?_
 simp only [Q7, Q9, Q8]
 cases p2 : (dl 4 c.table && dl 4 c.oid) with
 | false => simp [hh]
 | true =>
 simp
 refine ao (sK 2 [c.attr, c.format] (by simp) _) (by simp [aN]) (by simp) ?_
 simp only [Q7, Q9, Q8]
 cases p3 : (dl 2 c.attr && dl 2 c.format) with
 | false => simp [hh]
 | true =>
 simp
 refine ao (Ct 2 [c.size] (by simp) _) (by simp [aN]) (by simp) ?_
 simp only [Q7, Q9, Q8]
 cases p4 : uy 2 c.size with
 | false => simp [hh]
 | true =>
 simp
 refine ao (Ct 4 [c.mod] (by simp) _) (by simp [aN]) (by simp) ?_
 simp [hh]
def iK (f : Fi) : Bool := !(f.code == 0) && aA f.text
theorem yr (f : Fi) (h : List (List AV)) : ae Tryz.prog 60 [.agg (pL f)] h (.v (.bool (iK f))) h [] := by
 refine ac QP mixed (by simp [Me]) fun hh hargs => ?_
 unfold iK
 cases h1 : f.code == 0 with
 | true =>
  have e1 : (f.code != 0) = false := by simp [bne, h1]
  simp [Me, hh, e1]
 | false =>
  have e1 : (f.code != 0) = true := by simp [bne, h1]
  simp [Me, e1]
  refine ao (pC [f.text] (by simp) _) (by simp [gh]) (by simp) ?_
  simp [hh]
theorem FQ (c : Co) (h : List (List AV)) : ae Tryz.prog 56 [.agg (iE c)] h (.v (.bool (!mQ c))) h [] := by
 refine ac QL mixed (by simp [NE]) fun hh hargs => ?_
 simp [NE]
 refine aa (by simp) (CS _ _) ?_
 simp [hh]
theorem FR (c : Fi) (h : List (List AV)) : ae Tryz.prog 59 [.agg (pL c)] h (.v (.bool (!iK c))) h [] := by
 refine ac QO mixed (by simp [NG]) fun hh hargs => ?_
 simp [NG]
 refine aa (by simp) (yr _ _) ?_
 simp [hh]
def rX (m : Bk) : Bool := decide ((m.oids.length : Int) <= 65535 /\ (m.cols.length : Int) <= 65535 /\ (m.row.length : Int) <= 65535 /\ (m.fields.length : Int) <= 65535)
def eD (m : Bk) : Bool := rX m && (m.oids.all (dl 4) && (m.row.all bE && (m.cols.all mQ && m.fields.all iK)))
theorem yt (m : Bk) (hf : ix m) (h : List (List AV)) : ae Tryz.prog 30 [.agg (aU m)] h (.v (.bool (eD m))) h [] := by
 obtain ⟨q1, q2, q3, q4, q5⟩ := hf
 refine ac Qv mixed (by simp [Ma]) fun hh hargs => ?_
 unfold eD
 by_cases hL : (m.oids.length : Int) <= 65535 /\ (m.cols.length : Int) <= 65535 /\ (m.row.length : Int) <= 65535 /\ (m.fields.length : Int) <= 65535
 ·have e : rX m = true := decide_eq_true hL
  rw [e]
  obtain ⟨l1, l2, l3, l4⟩ := hL
  simp [Ma, l1, l2, l3, l4]
  refine aa (by simp) (sK 4 _ q1 _) ?_
  cases p1 : m.oids.all (dl 4) with
  | false => simp [hh]
  | true =>
  simp
  refine aa (by simp) (Cr _ q3 q5 _) ?_
  cases p2 : m.row.all bE with
  | false => simp [hh]
  | true =>
  simp
  refine aa (by simp) (bW mixed QK Ou iE (fun c => !mQ c) m.cols [] _ (by simp) (by simp) (by simp) (fun c _ => FQ c _) q2) ?_
  rw [<- Ra]
  cases p3 : m.cols.all mQ with
  | false => simp [hh]
  | true =>
  simp
  refine aa (by simp) (bW mixed QN Ow pL (fun c => !iK c) m.fields [] _ (by simp) (by simp) (by simp) (fun c _ => FR c _) q4) ?_
  rw [<- Ra]
  simp [hh]
 ·have e : rX m = false := decide_eq_false hL
  rw [e]
  simp [Ma, hL, hh]
def ew (m : Bk) : Bk :=
 if m.kind = 83 then ⟨83, 0, [], m.name, m.value, 0, 0, [], [], [], []⟩
 else if m.kind = 75 then ⟨75, 0, [], [], [], m.n, m.m, [], [], [], []⟩
 else if m.kind = 90 then ⟨90, m.status, [], [], [], 0, 0, [], [], [], []⟩
 else if m.kind = 67 then ⟨67, 0, m.tag, [], [], 0, 0, [], [], [], []⟩
 else if m.kind = 68 then ⟨68, 0, [], [], [], 0, 0, [], [], m.row, []⟩
 else if m.kind = 84 then ⟨84, 0, [], [], [], 0, 0, [], m.cols, [], []⟩
 else if m.kind = 116 then ⟨116, 0, [], [], [], 0, 0, m.oids, [], [], []⟩
 else if m.kind = 69 then ⟨69, 0, [], [], [], 0, 0, [], [], [], m.fields⟩
 else if m.kind = 78 then ⟨78, 0, [], [], [], 0, 0, [], [], [], m.fields⟩
 else ⟨m.kind, 0, [], [], [], 0, 0, [], [], [], []⟩
theorem CT (m : Bk) (h : List (List AV)) : ae Tryz.prog 34 [.agg (aU m)] h (.agg (aU (ew m))) h [] := by
 refine ac Qz mixed (by simp [Aa]) fun hh hargs => ?_
 by_cases h83 : m.kind = 83
 ·simp [Aa, aB, hh, ew, h83]
 by_cases h75 : m.kind = 75
 ·simp [Aa, aB, hh, ew, h75]
 by_cases h90 : m.kind = 90
 ·simp [Aa, aB, hh, ew, h90]
 by_cases h67 : m.kind = 67
 ·simp [Aa, aB, hh, ew, h67]
 by_cases h68 : m.kind = 68
 ·simp [Aa, aB, hh, ew, h68]
 by_cases h84 : m.kind = 84
 ·simp [Aa, aB, hh, ew, h84]
 by_cases h116 : m.kind = 116
 ·simp [Aa, aB, hh, ew, h116]
 by_cases h69 : m.kind = 69
 ·simp [Aa, aB, hh, ew, h69]
 by_cases h78 : m.kind = 78
 ·simp [Aa, aB, hh, ew, h78]
 simp [Aa, aB, hh, ew, h83, h75, h90, h67, h68, h84, h116, h69, h78]
def jd (m : Bk) : Bool := aA m.tag && (aA m.name && aA m.value)
def jv (m : Bk) : Bool := dl 4 m.n && dl 4 m.m
def cD (m : Bk) : Int :=
 if bP m.kind = false then 9
 else if lT m && (eD m && (jd m && (jv m && mG m (ew m)))) then 0 else 1
theorem kL (m : Bk) (hf : ix m) (h : List (List AV)) : ae Tryz.prog 16 [.agg (aU m)] h (.v (.int .i64 (cD m))) h [] := by
 refine ac Qn mixed (by simp [Ns]) fun hh hargs => ?_
 simp [Ns]
 refine aa (by simp) (CQ _ _) ?_
 cases hk : bP m.kind with
 | false => simp [hh, cD, hk]
 | true =>
 have e : cD m = if lT m && (eD m && (jd m && (jv m && mG m (ew m)))) then 0 else 1 := by unfold cD; rw [hk]; rfl
 rw [e]
 simp
 refine aa (by simp) (Am m _) ?_
 cases p1 : lT m with
 | false => simp [hh]
 | true =>
 simp
 refine aa (by simp) (yt m hf _) ?_
 cases p2 : eD m with
 | false => simp [hh]
 | true =>
 simp
 refine ao (pC [m.tag, m.name, m.value] (by simp) _) (by simp [gh]) (by simp) ?_
 have hc : (aA m.tag && (aA m.name && aA m.value)) = jd m := rfl
 simp only [Q7, Q9, Q8, hc]
 cases p3 : jd m with
 | false => simp [hh]
 | true =>
 simp
 refine ao (sK 4 [m.n, m.m] (by simp) _) (by simp [aN]) (by simp) ?_
 have hn : (dl 4 m.n && dl 4 m.m) = jv m := rfl
 simp only [Q7, Q9, Q8, hn]
 cases p4 : jv m with
 | false => simp [hh]
 | true =>
 simp
 refine aa (by simp) (CT m _) ?_
 simp
 refine aa (by simp) (CU m (ew m) hf _) ?_
 cases p5 : mG m (ew m) <;> simp [hh]
end Go.Proofs.YtknohkmpficjgaaGreatDoor.Ax
