import Derived.Test.YtdfgljojemmlcaaGreatQAxBt
import Derived.Test.YtdfgljojemmlcaaGreatQAxUa
set_option linter.unusedSimpArgs false
set_option linter.unusedVariables false
open List renaming append_assoc -> Q0, length_append -> Q1, getElem?_append_right -> Q2, getElem?_eq_some_iff -> Q4, take_of_length_le -> Q6, length_singleton -> Q7, getElem_mem -> Q8, take_succ_eq_append_getElem -> Ra, append_nil -> Rc, getElem?_set_ne -> Re, set_append_left -> Rf, flatMap_append -> Rh, take_length -> Rj, all_eq_true -> Rk, take_append -> Rl
open Nat renaming le_add_right -> Q3, le_trans -> Rb, zero_le -> Rd, le_refl -> Ri, add_assoc -> Rn, le_succ -> Ro
open UInt8 renaming ofNat -> Q5
open Bool renaming and_eq_true -> Q9, eq_iff_iff -> Rm
namespace Go.Proofs.YtdfgljojemmlcaaGreat.Ax
open Go.RowKit Go By
def iP:XFun:=⟨21,.seq (.ops [oK 2 (.bool false)]) (.seq (.seq (.ops [oM 3 0]) (.block 0 (.seq (.seq (.ops [oI 5 .eql 3 (.int .u8 82),oA 4 5]) (.cond (.tmp 4) .skip (.seq (.ops [oI 6 .eql 3 (.int .u8 83),oA 4 6]) (.cond (.tmp 4) .skip (.seq (.ops [oI 7 .eql 3 (.int .u8 75),oA 4 7]) (.cond (.tmp 4) .skip (.seq (.ops [oI 8 .eql 3 (.int .u8 90),oA 4 8]) (.cond (.tmp 4) .skip (.seq (.ops [oI 9 .eql 3 (.int .u8 49),oA 4 9]) (.cond (.tmp 4) .skip (.seq (.ops [oI 10 .eql 3 (.int .u8 50),oA 4 10]) (.cond (.tmp 4) .skip (.seq (.ops [oI 11 .eql 3 (.int .u8 51),oA 4 11]) (.cond (.tmp 4) .skip (.seq (.ops [oI 12 .eql 3 (.int .u8 110),oA 4 12]) (.cond (.tmp 4) .skip (.seq (.ops [oI 13 .eql 3 (.int .u8 115),oA 4 13]) (.cond (.tmp 4) .skip (.seq (.ops [oI 14 .eql 3 (.int .u8 73),oA 4 14]) (.cond (.tmp 4) .skip (.seq (.ops [oI 15 .eql 3 (.int .u8 67),oA 4 15]) (.cond (.tmp 4) .skip (.seq (.ops [oI 16 .eql 3 (.int .u8 68),oA 4 16]) (.cond (.tmp 4) .skip (.seq (.ops [oI 17 .eql 3 (.int .u8 84),oA 4 17]) (.cond (.tmp 4) .skip (.seq (.ops [oI 18 .eql 3 (.int .u8 116),oA 4 18]) (.cond (.tmp 4) .skip (.seq (.ops [oI 19 .eql 3 (.int .u8 69),oA 4 19]) (.cond (.tmp 4) .skip (.ops [oI 20 .eql 3 (.int .u8 78),oA 4 20]))))))))))))))))))))))))))))))) (.cond (.tmp 4) (.seq (.ops [oK 2 (.bool true)]) .ret) .skip)))) (.seq (.ops [oK 2 (.bool false)]) .ret)),[.move (.tmp 2)]⟩
theorem MZ : ak Tryz.prog 126 = some iP := by kernel_rfl
def nU:XFun:=⟨57,.seq (.ops [oJ 1 0,oZ 2 z2]) (.seq (.ops [oF 4 0 1,oL 5 4,oD 6 0 z2 5,oZ 3 z2,oS 11 3 6]) (.seq (.seq (.ops [oF 7 0 1,oL 8 7]) (.block 0 (.seq (.ops [oI 10 .eql 8 (.int .u8 83),oA 9 10]) (.cond (.tmp 9) (.draws (.take (oF 11 3 1) (.take (oL 12 11) (.take (oF 13 4 1) (.take (oL 14 13) (.take (oF 15 3 3) (.only (oS 1 15 12) (.take (oF 16 4 3) (.last (oS 1 16 14)))))))))) (.seq (.ops [oI 18 .eql 8 (.int .u8 75),oA 17 18]) (.cond (.tmp 17) (.draws (.take (oF 19 5 1) (.take (oL 20 19) (.take (oF 21 6 1) (.take (oL 22 21) (.take (oF 23 5 3) (.only (oS 1 23 20) (.take (oF 24 6 3) (.last (oS 1 24 22)))))))))) (.seq (.ops [oI 26 .eql 8 (.int .u8 90),oA 25 26]) (.cond (.tmp 25) (.ops [oF 27 1 1,oL 28 27,oF 29 1 3,oS 1 29 28]) (.seq (.ops [oI 31 .eql 8 (.int .u8 67),oA 30 31]) (.cond (.tmp 30) (.ops [oF 32 2 1,oL 33 32,oF 34 2 3,oS 1 34 33]) (.seq (.ops [oI 36 .eql 8 (.int .u8 68),oA 35 36]) (.cond (.tmp 35) (.ops [oF 37 9 1,oL 38 37,oF 39 9 3,oS 1 39 38]) (.seq (.ops [oI 41 .eql 8 (.int .u8 84),oA 40 41]) (.cond (.tmp 40) (.ops [oF 42 8 1,oL 43 42,oF 44 8 3,oS 1 44 43]) (.seq (.ops [oI 46 .eql 8 (.int .u8 116),oA 45 46]) (.cond (.tmp 45) (.ops [oF 47 7 1,oL 48 47,oF 49 7 3,oS 1 49 48]) (.seq (.seq (.ops [oI 51 .eql 8 (.int .u8 69),oA 50 51]) (.cond (.tmp 50) .skip (.ops [oI 52 .eql 8 (.int .u8 78),oA 50 52]))) (.cond (.tmp 50) (.ops [oF 53 10 1,oL 54 53,oF 55 10 3,oS 1 55 54]) .skip)))))))))))))))))) (.seq (.ops [oP 56 11 3,oS 11 2 56]) .ret))),[.loadN 11 (.tmp 2)]⟩
theorem NS : ak Tryz.prog 133 = some nU := by kernel_rfl
def zg:XFun:=⟨15,.seq (.ops [oK 6 (.bool false)]) (.seq (.ops [oM 7 0,oM 8 1,oB 9 .geq 7 8,oM 10 9,oG 10 true (oM 11 0),oG 10 true (oM 12 2),oG 10 true (oB 13 .leq 11 12),oT 14 10 13,oA 6 14]) .ret),[.move (.tmp 6)]⟩
theorem Pm : ak Tryz.prog 128 = some zg := by kernel_rfl
def Dt:XFun:=⟨56,.seq (.ops [oK 2 (.bool false)]) (.seq (.seq (.ops [oM 5 0,oH 6 5,oI 7 .gtr 6 (.int .i64 65535)]) (.cond (.tmp 7) (.seq (.ops [oK 2 (.bool false)]) .ret) .skip)) (.seq (.seq (.ops [oK 3 (.int .i64 0)]) (.block 0 (.loop (.seq (.seq (.ops [oM 8 3,oM 9 0,oH 10 9,oB 11 .lss 8 10]) (.cond (.tmp 11) .skip (.exit 0))) (.seq (.block 1 (.seq (.ops [oM 14 0,oM 15 3,oW 16 7 14 15,oP 17 7 16,oZ 4 z7,oS 7 4 17]) (.seq (.seq (.ops [oF 18 0 4,oL 19 18,oC 20 127 [19],oV 21 20,oM 22 21,oG 22 false (oF 23 1 4),oG 22 false (oL 24 23),oG 22 false (oX 25 (.call 128 [.tmp 24,.const (.int .i64 0),.const (.int .i64 4294967295)])),oG 22 false (oV 26 25),oU 27 22 26,oM 28 27,oG 28 false (oF 29 2 4),oG 28 false (oL 30 29),oG 28 false (oX 31 (.call 128 [.tmp 30,.const (.int .i64 0),.const (.int .i64 65535)])),oG 28 false (oV 32 31),oU 33 28 32,oM 34 33,oG 34 false (oF 35 3 4),oG 34 false (oL 36 35),oG 34 false (oX 37 (.call 128 [.tmp 36,.const (.int .i64 0),.const (.int .i64 4294967295)])),oG 34 false (oV 38 37),oU 39 34 38]) (.cond (.tmp 39) (.seq (.ops [oK 2 (.bool false)]) .ret) .skip)) (.seq (.ops [oF 40 4 4,oL 41 40,oX 42 (.call 128 [.tmp 41,.const (.int .i64 (-32768)),.const (.int .i64 32767)]),oV 43 42,oM 44 43,oG 44 false (oF 45 5 4),oG 44 false (oL 46 45),oG 44 false (oX 47 (.call 128 [.tmp 46,.const (.int .i64 (-2147483648)),.const (.int .i64 2147483647)])),oG 44 false (oV 48 47),oU 49 44 48,oM 50 49,oG 50 false (oF 51 6 4),oG 50 false (oL 52 51),oG 50 false (oX 53 (.call 128 [.tmp 52,.const (.int .i64 0),.const (.int .i64 65535)])),oG 50 false (oV 54 53),oU 55 50 54]) (.cond (.tmp 55) (.seq (.ops [oK 2 (.bool false)]) .ret) .skip))))) (.ops [oM 12 3,oI 13 .add 12 (.int .i64 1),oA 3 13])))))) (.seq (.ops [oK 2 (.bool true)]) .ret))),[.move (.tmp 2)]⟩
theorem Ob : ak Tryz.prog 129 = some Dt := by kernel_rfl
def Du:XFun:=⟨28,.seq (.ops [oK 2 (.bool false)]) (.seq (.seq (.ops [oM 4 0,oH 5 4,oI 6 .gtr 5 (.int .i64 65535)]) (.cond (.tmp 6) (.seq (.ops [oK 2 (.bool false)]) .ret) .skip)) (.seq (.seq (.ops [oK 3 (.int .i64 0)]) (.block 0 (.loop (.seq (.seq (.ops [oM 7 3,oM 8 0,oH 9 8,oB 10 .lss 7 9]) (.cond (.tmp 10) .skip (.exit 0))) (.seq (.block 1 (.seq (.ops [oM 13 0,oM 14 3,oW 15 2 13 14,oF 16 0 15,oL 17 16,oI 18 .eql 17 (.int .u8 0),oM 19 18,oG 19 false (oM 20 0),oG 19 false (oM 21 3),oG 19 false (oW 22 2 20 21),oG 19 false (oF 23 1 22),oG 19 false (oL 24 23),oG 19 false (oC 25 127 [24]),oG 19 false (oV 26 25),oU 27 19 26]) (.cond (.tmp 27) (.seq (.ops [oK 2 (.bool false)]) .ret) .skip))) (.ops [oM 11 3,oI 12 .add 11 (.int .i64 1),oA 3 12])))))) (.seq (.ops [oK 2 (.bool true)]) .ret))),[.move (.tmp 2)]⟩
theorem OP : ak Tryz.prog 130 = some Du := by kernel_rfl
def qE:XFun:=⟨127,.seq (.ops [oJ 2 0,oJ 3 1,oK 4 (.bool false)]) (.seq (.ops [oF 8 0 2,oL 9 8,oF 10 0 3,oL 11 10,oB 12 .eql 9 11,oM 13 12,oG 13 true (oF 14 1 2),oG 13 true (oL 15 14),oG 13 true (oF 16 1 3),oG 13 true (oL 17 16),oG 13 true (oB 18 .eql 15 17),oT 19 13 18,oM 20 19,oG 20 true (oF 21 2 2),oG 20 true (oL 22 21),oG 20 true (oF 23 2 3),oG 20 true (oL 24 23),oG 20 true (oB 25 .eql 22 24),oT 26 20 25,oM 27 26,oG 27 true (oF 28 3 2),oG 27 true (oL 29 28),oG 27 true (oF 30 3 3),oG 27 true (oL 31 30),oG 27 true (oB 32 .eql 29 31),oT 33 27 32,oM 34 33,oG 34 true (oF 35 4 2),oG 34 true (oL 36 35),oG 34 true (oF 37 4 3),oG 34 true (oL 38 37),oG 34 true (oB 39 .eql 36 38),oT 40 34 39,oM 41 40,oG 41 true (oF 42 5 2),oG 41 true (oL 43 42),oG 41 true (oF 44 5 3),oG 41 true (oL 45 44),oG 41 true (oB 46 .eql 43 45),oT 47 41 46,oM 48 47,oG 48 true (oF 49 6 2),oG 48 true (oL 50 49),oG 48 true (oF 51 6 3),oG 48 true (oL 52 51),oG 48 true (oB 53 .eql 50 52),oT 54 48 53,oA 5 54]) (.seq (.seq (.ops [oM 55 5,oV 56 55,oM 57 56,oG 57 false (oF 58 7 2),oG 57 false (oL 59 58),oG 57 false (oF 60 7 3),oG 57 false (oL 61 60),oG 57 false (oC 62 79 [59,61]),oG 57 false (oV 63 62),oU 64 57 63,oM 65 64,oG 65 false (oF 66 9 2),oG 65 false (oL 67 66),oG 65 false (oF 68 9 3),oG 65 false (oL 69 68),oG 65 false (oC 70 80 [67,69]),oG 65 false (oV 71 70),oU 72 65 71,oM 73 72,oG 73 false (oF 74 8 2),oG 73 false (oL 75 74),oG 73 false (oH 76 75),oG 73 false (oF 77 8 3),oG 73 false (oL 78 77),oG 73 false (oH 79 78),oG 73 false (oB 80 .neq 76 79),oU 81 73 80,oM 82 81,oG 82 false (oF 83 10 2),oG 82 false (oL 84 83),oG 82 false (oH 85 84),oG 82 false (oF 86 10 3),oG 82 false (oL 87 86),oG 82 false (oH 88 87),oG 82 false (oB 89 .neq 85 88),oU 90 82 89]) (.cond (.tmp 90) (.seq (.ops [oK 4 (.bool false)]) .ret) .skip)) (.seq (.seq (.ops [oK 6 (.int .i64 0)]) (.block 0 (.loop (.seq (.seq (.ops [oM 91 6,oF 92 8 2,oL 93 92,oH 94 93,oB 95 .lss 91 94]) (.cond (.tmp 95) .skip (.exit 0))) (.seq (.block 1 (.seq (.draws (.take (oF 98 8 2) (.take (oL 99 98) (.take (oM 100 6) (.take (oW 101 7 99 100) (.take (oP 102 7 101) (.take (oF 103 8 3) (.take (oL 104 103) (.take (oM 105 6) (.take (oW 106 7 104 105) (.take (oP 107 7 106) (.take (oX 108 (.aeq true [2,1,1,1,1,1,1] (.tmp 102) (.tmp 107))) .done)))))))))))) (.cond (.tmp 108) (.seq (.ops [oK 4 (.bool false)]) .ret) .skip))) (.ops [oM 96 6,oI 97 .add 96 (.int .i64 1),oA 6 97])))))) (.seq (.seq (.ops [oK 7 (.int .i64 0)]) (.block 2 (.loop (.seq (.seq (.ops [oM 109 7,oF 110 10 2,oL 111 110,oH 112 111,oB 113 .lss 109 112]) (.cond (.tmp 113) .skip (.exit 2))) (.seq (.block 3 (.seq (.draws (.take (oF 116 10 2) (.take (oL 117 116) (.take (oM 118 7) (.take (oW 119 2 117 118) (.take (oP 120 2 119) (.take (oF 121 10 3) (.take (oL 122 121) (.take (oM 123 7) (.take (oW 124 2 122 123) (.take (oP 125 2 124) (.take (oX 126 (.aeq true [1,2] (.tmp 120) (.tmp 125))) .done)))))))))))) (.cond (.tmp 126) (.seq (.ops [oK 4 (.bool false)]) .ret) .skip))) (.ops [oM 114 7,oI 115 .add 114 (.int .i64 1),oA 7 115])))))) (.seq (.ops [oK 4 (.bool true)]) .ret))))),[.move (.tmp 4)]⟩
theorem Om : ak Tryz.prog 132 = some qE := by kernel_rfl
def c106:XFun:=⟨89,.seq (.ops [oJ 1 0,oK 2 (.int .i64 0)]) (.seq (.seq (.ops [oF 6 0 1,oL 7 6,oC 8 126 [7],oV 9 8]) (.cond (.tmp 9) (.seq (.ops [oK 2 (.int .i64 9)]) .ret) .skip)) (.seq (.ops [oF 10 2 1,oL 11 10,oC 12 127 [11],oM 13 12,oG 13 true (oF 14 3 1),oG 13 true (oL 15 14),oG 13 true (oC 16 127 [15]),oT 17 13 16,oM 18 17,oG 18 true (oF 19 4 1),oG 18 true (oL 20 19),oG 18 true (oC 21 127 [20]),oT 22 18 21,oA 3 22]) (.seq (.ops [oF 23 5 1,oL 24 23,oX 25 (.call 128 [.tmp 24,.const (.int .i64 0),.const (.int .i64 4294967295)]),oM 26 25,oG 26 true (oF 27 6 1),oG 26 true (oL 28 27),oG 26 true (oX 29 (.call 128 [.tmp 28,.const (.int .i64 0),.const (.int .i64 4294967295)])),oT 30 26 29,oM 31 30,oG 31 true (oF 32 7 1),oG 31 true (oL 33 32),oG 31 true (oX 34 (.call 87 [.tmp 33,.const (.int .i64 0),.const (.int .i64 4294967295)])),oT 35 31 34,oA 4 35]) (.seq (.ops [oF 36 0 1,oL 37 36,oI 38 .neq 37 (.int .u8 90),oM 39 38,oG 39 false (oF 40 1 1),oG 39 false (oL 41 40),oG 39 false (oI 42 .eql 41 (.int .u8 73)),oU 43 39 42,oM 44 43,oG 44 false (oF 45 1 1),oG 44 false (oL 46 45),oG 44 false (oI 47 .eql 46 (.int .u8 84)),oU 48 44 47,oM 49 48,oG 49 false (oF 50 1 1),oG 49 false (oL 51 50),oG 49 false (oI 52 .eql 51 (.int .u8 69)),oU 53 49 52,oA 5 53]) (.seq (.seq (.draws (.take (oM 54 3) (.take (oV 55 54) (.take (oM 56 55) (.take (oG 56 false (oM 57 4)) (.take (oG 56 false (oV 58 57)) (.take (oU 59 56 58) (.take (oM 60 59) (.take (oG 60 false (oM 61 5)) (.take (oG 60 false (oV 62 61)) (.take (oU 63 60 62) (.take (oM 64 63) (.take (oG 64 false (oF 65 8 1)) (.take (oG 64 false (oL 66 65)) (.only (oG 64 false (oC 67 129 [66])) (.take (oG 64 false (oV 68 67)) (.take (oU 69 64 68) (.take (oM 70 69) (.take (oG 70 false (oF 71 10 1)) (.take (oG 70 false (oL 72 71)) (.only (oG 70 false (oC 73 130 [72])) (.take (oG 70 false (oV 74 73)) (.take (oU 75 70 74) (.take (oM 76 75) (.take (oG 76 false (oF 77 9 1)) (.take (oG 76 false (oL 78 77)) (.only (oG 76 false (oC 79 131 [78])) (.take (oG 76 false (oV 80 79)) (.take (oU 81 76 80) (.take (oM 82 81) (.take (oG 82 false (oP 83 11 1)) (.take (oG 82 false (oP 84 11 1)) (.only (oG 82 false (oC 85 133 [84])) (.only (oG 82 false (oC 86 132 [83,85])) (.take (oG 82 false (oV 87 86)) (.take (oU 88 82 87) .done)))))))))))))))))))))))))))))))))))) (.cond (.tmp 88) (.seq (.ops [oK 2 (.int .i64 1)]) .ret) .skip)) (.seq (.ops [oK 2 (.int .i64 0)]) .ret)))))),[.move (.tmp 2)]⟩
theorem Pb : ak Tryz.prog 106 = some c106 := by kernel_rfl
def Gv:XFun:=⟨44,.seq (.ops [oN 2]) (.seq (.ops [oM 6 0,oH 7 6,oX 8 (.call 88 [.const (.slice none 0 0),.tmp 7,.const (.int .i64 2)]),oA 3 8]) (.seq (.seq (.ops [oK 4 (.int .i64 0)]) (.block 0 (.loop (.seq (.seq (.ops [oM 9 4,oM 10 0,oH 11 10,oB 12 .lss 9 11]) (.cond (.tmp 12) .skip (.exit 0))) (.seq (.block 1 (.seq (.ops [oM 15 0,oM 16 4,oW 17 7 15 16,oP 18 7 17,oZ 5 z7,oS 7 5 18]) (.seq (.draws (.take (oM 19 3) (.take (oF 20 0 5) (.take (oL 21 20) (.take (oF 23 1 5) (.take (oL 24 23) (.take (oF 26 2 5) (.take (oL 27 26) (.only (oC 22 107 [19,21]) (.only (oX 25 (.call 88 [.tmp 22,.tmp 24,.const (.int .i64 4)])) (.only (oX 28 (.call 88 [.tmp 25,.tmp 27,.const (.int .i64 2)])) (.take (oA 3 28) .done)))))))))))) (.seq (.draws (.take (oM 29 3) (.take (oF 30 3 5) (.take (oL 31 30) (.take (oF 33 4 5) (.take (oL 34 33) (.only (oX 32 (.call 88 [.tmp 29,.tmp 31,.const (.int .i64 4)])) (.only (oX 35 (.call 88 [.tmp 32,.tmp 34,.const (.int .i64 2)])) (.take (oA 3 35) .done))))))))) (.draws (.take (oM 36 3) (.take (oF 37 5 5) (.take (oL 38 37) (.take (oF 40 6 5) (.take (oL 41 40) (.only (oX 39 (.call 88 [.tmp 36,.tmp 38,.const (.int .i64 4)])) (.only (oX 42 (.call 88 [.tmp 39,.tmp 41,.const (.int .i64 2)])) (.take (oA 3 42) .done))))))))))))) (.ops [oM 13 4,oI 14 .add 13 (.int .i64 1),oA 4 14])))))) (.seq (.ops [oM 43 3,oA 2 43]) .ret))),[.move (.tmp 2)]⟩
theorem Mx : ak Tryz.prog 109 = some Gv := by kernel_rfl
def FE:XFun:=⟨28,.seq (.ops [oN 2]) (.seq (.ops [oN 3]) (.seq (.seq (.ops [oK 4 (.int .i64 0)]) (.block 0 (.loop (.seq (.seq (.ops [oM 5 4,oM 6 0,oH 7 6,oB 8 .lss 5 7]) (.cond (.tmp 8) .skip (.exit 0))) (.seq (.block 1 (.draws (.take (oM 11 3) (.take (oM 12 0) (.take (oM 13 4) (.take (oW 14 2 12 13) (.take (oF 15 0 14) (.take (oL 16 15) (.take (oM 19 0) (.take (oM 20 4) (.take (oW 21 2 19 20) (.take (oF 22 1 21) (.take (oL 23 22) (.only (oR 17 1 1 16 zK) (.only (oX 18 (.append 1 1 (.tmp 11) (.tmp 17))) (.only (oC 24 107 [18,23]) (.take (oA 3 24) .done))))))))))))))))) (.ops [oM 9 4,oI 10 .add 9 (.int .i64 1),oA 4 10])))))) (.seq (.ops [oM 25 3,oX 26 (.buildSlice 1 1 zK [(0,.const (.int .u8 0))]),oX 27 (.append 1 1 (.tmp 25) (.tmp 26)),oA 2 27]) .ret))),[.move (.tmp 2)]⟩
theorem Nn : ak Tryz.prog 111 = some FE := by kernel_rfl
def Nc:XFun:=⟨68,.seq (.ops [oJ 1 0,oZ 2 z8,oK 3 (.int .i64 0)]) (.seq (.seq (.ops [oP 6 11 1,oC 7 106 [6],oA 4 7]) (.seq (.ops [oM 8 4,oI 9 .neq 8 (.int .i64 0)]) (.cond (.tmp 9) (.seq (.ops [oX 10 (.build z8 []),oM 11 4,oS 2 2 10,oA 3 11]) .ret) .skip))) (.seq (.ops [oN 5]) (.seq (.seq (.ops [oF 12 0 1,oL 13 12]) (.block 0 (.seq (.ops [oI 15 .eql 13 (.int .u8 82),oA 14 15]) (.cond (.tmp 14) (.ops [oX 16 (.call 88 [.const (.slice none 0 0),.const (.int .i64 0),.const (.int .i64 4)]),oA 5 16]) (.seq (.ops [oI 18 .eql 13 (.int .u8 83),oA 17 18]) (.cond (.tmp 17) (.draws (.take (oF 19 3 1) (.take (oL 20 19) (.take (oF 22 4 1) (.take (oL 23 22) (.only (oX 21 (.call 107 [.const (.slice none 0 0),.tmp 20])) (.only (oC 24 107 [21,23]) (.take (oA 5 24) .done)))))))) (.seq (.ops [oI 26 .eql 13 (.int .u8 75),oA 25 26]) (.cond (.tmp 25) (.draws (.take (oF 27 5 1) (.take (oL 28 27) (.take (oF 30 6 1) (.take (oL 31 30) (.only (oX 29 (.call 88 [.const (.slice none 0 0),.tmp 28,.const (.int .i64 4)])) (.only (oX 32 (.call 88 [.tmp 29,.tmp 31,.const (.int .i64 4)])) (.take (oA 5 32) .done)))))))) (.seq (.ops [oI 34 .eql 13 (.int .u8 90),oA 33 34]) (.cond (.tmp 33) (.ops [oF 35 1 1,oL 36 35,oR 37 1 1 36 zK,oA 5 37]) (.seq (.ops [oI 39 .eql 13 (.int .u8 67),oA 38 39]) (.cond (.tmp 38) (.ops [oF 40 2 1,oL 41 40,oX 42 (.call 107 [.const (.slice none 0 0),.tmp 41]),oA 5 42]) (.seq (.ops [oI 44 .eql 13 (.int .u8 68),oA 43 44]) (.cond (.tmp 43) (.ops [oF 45 9 1,oL 46 45,oX 47 (.call 108 [.const (.slice none 0 0),.tmp 46]),oA 5 47]) (.seq (.ops [oI 49 .eql 13 (.int .u8 84),oA 48 49]) (.cond (.tmp 48) (.ops [oF 50 8 1,oL 51 50,oC 52 109 [51],oA 5 52]) (.seq (.ops [oI 54 .eql 13 (.int .u8 116),oA 53 54]) (.cond (.tmp 53) (.ops [oF 55 7 1,oL 56 55,oX 57 (.call 110 [.const (.slice none 0 0),.tmp 56,.const (.int .i64 4)]),oA 5 57]) (.seq (.seq (.ops [oI 59 .eql 13 (.int .u8 69),oA 58 59]) (.cond (.tmp 58) .skip (.ops [oI 60 .eql 13 (.int .u8 78),oA 58 60]))) (.cond (.tmp 58) (.ops [oF 61 10 1,oL 62 61,oC 63 111 [62],oA 5 63]) .skip)))))))))))))))))))) (.seq (.ops [oF 64 0 1,oL 65 64,oM 66 5,oX 67 (.build z8 [(0,1,.tmp 65),(1,1,.tmp 66)]),oS 2 2 67,oK 3 (.int .i64 0)]) .ret)))),[.loadN 2 (.tmp 2),.move (.tmp 3)]⟩
theorem QN : ak Tryz.prog 77 = some Nc := by kernel_rfl
def Pu:XFun:=⟨28,.seq (.ops [oN 2]) (.seq (.ops [oN 3]) (.seq (.seq (.ops [oK 4 (.int .i64 0)]) (.block 0 (.loop (.seq (.seq (.ops [oM 7 4,oM 8 0,oH 9 8,oB 10 .lss 7 9]) (.cond (.tmp 10) .skip (.exit 0))) (.seq (.block 1 (.seq (.ops [oM 14 0,oM 15 4,oW 16 11 14 15,oP 17 11 16,oC 18 77 [17],oM 13 18,oE 19 13 0,oE 20 13 1,oZ 5 z8,oS 2 5 19,oA 6 20]) (.seq (.ops [oM 21 6,oI 22 .eql 21 (.int .i64 0)]) (.cond (.tmp 22) (.ops [oM 23 3,oP 24 2 5,oC 25 78 [24],oX 26 (.append 1 1 (.tmp 23) (.tmp 25)),oA 3 26]) .skip)))) (.ops [oM 11 4,oI 12 .add 11 (.int .i64 1),oA 4 12])))))) (.seq (.ops [oM 27 3,oA 2 27]) .ret))),[.move (.tmp 2)]⟩
theorem Qv : ak Tryz.prog 35 = some Pu := by kernel_rfl
def NT:XFun:=⟨21,.seq (.ops [oJ 1 0,oN 2]) (.seq (.ops [oN 3]) (.seq (.seq (.ops [oF 4 0 1,oL 5 4,oI 6 .neq 5 (.int .u8 0)]) (.cond (.tmp 6) (.ops [oM 7 3,oF 8 0 1,oL 9 8,oR 10 1 1 9 zK,oX 11 (.append 1 1 (.tmp 7) (.tmp 10)),oA 3 11]) .skip)) (.seq (.draws (.take (oM 12 3) (.take (oF 13 1 1) (.take (oL 14 13) (.take (oH 15 14) (.take (oI 16 .add 15 (.int .i64 4)) (.take (oF 18 1 1) (.take (oL 19 18) (.only (oX 17 (.call 88 [.tmp 12,.tmp 16,.const (.int .i64 4)])) (.only (oX 20 (.append 1 1 (.tmp 17) (.tmp 19))) (.take (oA 2 20) .done))))))))))) .ret))),[.move (.tmp 2)]⟩
theorem PR : ak Tryz.prog 78 = some NT := by kernel_rfl
end Go.Proofs.YtdfgljojemmlcaaGreat.Ax
namespace Go.Proofs.YtdfgljojemmlcaaGreat.Ax
open Go.RowKit Go By Go.Proofs.YtdfgljojemmlcaaGreat.Nm Sc Dg
set_option maxRecDepth 10000
theorem zx (k : Int) (h : List (List AV)) : Contract Tryz.prog 126 [.v (.int .u8 k)] h (.v (.bool (aZ k))) h [] := by
 refine ab MZ mixed (by simp [iP]) fun hh hargs => ?_
 by_cases h82 : k = 82
 ·subst h82; simp [iP, hh, aZ]
 by_cases h83 : k = 83
 ·subst h83; simp [iP, hh, aZ]
 by_cases h75 : k = 75
 ·subst h75; simp [iP, hh, aZ]
 by_cases h90 : k = 90
 ·subst h90; simp [iP, hh, aZ]
 by_cases h49 : k = 49
 ·subst h49; simp [iP, hh, aZ]
 by_cases h50 : k = 50
 ·subst h50; simp [iP, hh, aZ]
 by_cases h51 : k = 51
 ·subst h51; simp [iP, hh, aZ]
 by_cases h110 : k = 110
 ·subst h110; simp [iP, hh, aZ]
 by_cases h115 : k = 115
 ·subst h115; simp [iP, hh, aZ]
 by_cases h73 : k = 73
 ·subst h73; simp [iP, hh, aZ]
 by_cases h67 : k = 67
 ·subst h67; simp [iP, hh, aZ]
 by_cases h68 : k = 68
 ·subst h68; simp [iP, hh, aZ]
 by_cases h84 : k = 84
 ·subst h84; simp [iP, hh, aZ]
 by_cases h116 : k = 116
 ·subst h116; simp [iP, hh, aZ]
 by_cases h69 : k = 69
 ·subst h69; simp [iP, hh, aZ]
 by_cases h78 : k = 78
 ·subst h78; simp [iP, hh, aZ]
 simp [iP, hh, aZ, h82, h83, h75, h90, h49, h50, h51, h110, h115, h73, h67, h68, h84, h116, h69, h78]
theorem jJ (n lo hi : Int) (h : List (List AV)) : Contract Tryz.prog 128 [.v (.int .i64 n), .v (.int .i64 lo), .v (.int .i64 hi)] h (.v (.bool (cD lo hi n))) h [] := by
 refine ab Pm mixed (by simp [zg]) fun hh hargs => ?_
 by_cases h1 : lo <= n
 ·have h2 : ¬ n < lo := by omega
  by_cases h3 : n <= hi
  ·have h4 : ¬ hi < n := by omega
   simp [zg, hh, cD, h1, h2, h3, h4]
  ·have h4 : hi < n := by omega
   simp [zg, hh, cD, h1, h2, h3, h4]
 ·have h2 : n < lo := by omega
  simp [zg, hh, cD, h1, h2]
theorem zd (m : Bk) (h : List (List AV)) : Contract Tryz.prog 133 [.agg (eH m)] h (.agg (eH (cg m))) h [] := by
 refine ab NS mixed (by simp [nU]) fun hh hargs => ?_
 by_cases h83 : m.kind = 83
 ·simp [nU, bW, hh, cg, h83]
 by_cases h75 : m.kind = 75
 ·simp [nU, bW, hh, cg, h75]
 by_cases h90 : m.kind = 90
 ·simp [nU, bW, hh, cg, h90]
 by_cases h67 : m.kind = 67
 ·simp [nU, bW, hh, cg, h67]
 by_cases h68 : m.kind = 68
 ·simp [nU, bW, hh, cg, h68]
 by_cases h84 : m.kind = 84
 ·simp [nU, bW, hh, cg, h84]
 by_cases h116 : m.kind = 116
 ·simp [nU, bW, hh, cg, h116]
 by_cases h69 : m.kind = 69
 ·simp [nU, bW, hh, cg, h69]
 by_cases h78 : m.kind = 78
 ·simp [nU, bW, hh, cg, h78]
 simp [nU, bW, hh, cg, h83, h75, h90, h67, h68, h84, h116, h69, h78]
def dD (c : Co) : Bool := bv c.name && (cD 0 4294967295 c.table && (cD 0 65535 c.attr && (cD 0 4294967295 c.oid && (cD (-32768) 32767 c.size && (cD (-2147483648) 2147483647 c.mod && cD 0 65535 c.format)))))
theorem AL (l : List Co) (hn : ∀ c ∈ l, c.name.length <= 1000000) (h : List (List AV)) : Contract Tryz.prog 129 [.sl 7 (ai gM l) none .no] h (.v (.bool (decide (l.length <= 65535) && l.all dD))) h [] := by
 refine ab Ob mixed (by simp [Dt]) fun hh hargs => ?_
 by_cases hl : (65535 : Int) < l.length
 ·have hl' : ¬ l.length <= 65535 := by omega
  simp [Dt, hl, hl', hh]
 ·have hl' : l.length <= 65535 := by omega
  simp [Dt, hl, hl']
  refine am (D := Nat) (fun j => ⟨[(0, .sl 7 (ai gM l) none .no), (3, .v (.int .i64 j))], [], h, []⟩) (fun j => j <= l.length /\ ∀ x ∈ l.take j, dD x = true) (fun j => l.length - j) 0 (by simp) ?_ ?_
  ·simp [Leq, hh]
  ·rintro j ⟨hj, hp⟩
   by_cases hlt : j < l.length
   ·have hw : IntKind.i64.wrap ((j : Int) + 1) = (j : Int) + 1 := wrap64 (by omega) (by omega)
    have hnm : l[j].name.length <= maxLen := Rb (hn _ (Q8 hlt)) (by unfold maxLen; omega)
    have no : dD l[j] = false -> l.all dD = false := fun e => nd (p := dD) hlt e
    have yes : dD l[j] = true -> ∀ x ∈ l.take (j + 1), dD x = true := fun e => fb hlt hp e
    simp [hlt]
    generalize l[j] = c at *
    refine aa (by simp) (jM _ hnm _) ?_
    cases p1 : bv c.name with
    | false => simp [hh, no (by simp [dD, p1])]
    | true =>
    simp
    refine aa (by simp) (jJ _ _ _ _) ?_
    cases p2 : cD 0 4294967295 c.table with
    | false => simp [hh, no (by simp [dD, p1, p2])]
    | true =>
    simp
    refine aa (by simp) (jJ _ _ _ _) ?_
    cases p3 : cD 0 65535 c.attr with
    | false => simp [hh, no (by simp [dD, p1, p2, p3])]
    | true =>
    simp
    refine aa (by simp) (jJ _ _ _ _) ?_
    cases p4 : cD 0 4294967295 c.oid with
    | false => simp [hh, no (by simp [dD, p1, p2, p3, p4])]
    | true =>
    simp
    refine aa (by simp) (jJ _ _ _ _) ?_
    cases p5 : cD (-32768) 32767 c.size with
    | false => simp [hh, no (by simp [dD, p1, p2, p3, p4, p5])]
    | true =>
    simp
    refine aa (by simp) (jJ _ _ _ _) ?_
    cases p6 : cD (-2147483648) 2147483647 c.mod with
    | false => simp [hh, no (by simp [dD, p1, p2, p3, p4, p5, p6])]
    | true =>
    simp
    refine aa (by simp) (jJ _ _ _ _) ?_
    cases p7 : cD 0 65535 c.format with
    | false => simp [hh, no (by simp [dD, p1, p2, p3, p4, p5, p6, p7])]
    | true =>
    simp [hw]
    refine ⟨j + 1, ⟨by omega, yes (by simp [dD, p1, p2, p3, p4, p5, p6, p7])⟩, by omega, ?_⟩
    simp [Leq, hh]
   ·have : j = l.length := by omega
    subst this
    have e : l.all dD = true := by rw [Rj] at hp; exact Rk.2 hp
    simp [hh, e]
theorem vz (l : List Fi) (hn : ∀ c ∈ l, c.text.length <= 1000000) (h : List (List AV)) : Contract Tryz.prog 130 [.sl 2 (ai lC l) none .no] h (.v (.bool (decide (l.length <= 65535) && l.all cS))) h [] := by
 refine ab OP mixed (by simp [Du]) fun hh hargs => ?_
 by_cases hl : (65535 : Int) < l.length
 ·have hl' : ¬ l.length <= 65535 := by omega
  simp [Du, hl, hl', hh]
 ·have hl' : l.length <= 65535 := by omega
  simp [Du, hl, hl']
  refine am (D := Nat) (fun j => ⟨[(0, .sl 2 (ai lC l) none .no), (3, .v (.int .i64 j))], [], h, []⟩) (fun j => j <= l.length /\ ∀ x ∈ l.take j, cS x = true) (fun j => l.length - j) 0 (by simp) ?_ ?_
  ·simp [Leq, hh]
  ·rintro j ⟨hj, hp⟩
   by_cases hlt : j < l.length
   ·have hw : IntKind.i64.wrap ((j : Int) + 1) = (j : Int) + 1 := wrap64 (by omega) (by omega)
    have hnm : l[j].text.length <= maxLen := Rb (hn _ (Q8 hlt)) (by unfold maxLen; omega)
    have no : cS l[j] = false -> l.all cS = false := fun e => nd (p := cS) hlt e
    have yes : cS l[j] = true -> ∀ x ∈ l.take (j + 1), cS x = true := fun e => fb hlt hp e
    obtain ⟨cd, tx, hx⟩ : ∃ cd tx, l[j] = ⟨cd, tx⟩ := ⟨_, _, rfl⟩
    rw [hx] at hnm no yes
    cases p1 : cd == 0 with
    | true => simp [hlt, hx, pp, hh, p1, no (by simp [cS, p1])]
    | false =>
    simp [hlt, hx, pp, p1]
    refine aa (by simp) (jM _ hnm _) ?_
    cases p2 : bv tx with
    | false => simp [hh, no (by simp [cS, p1, p2])]
    | true =>
    simp [hw]
    refine ⟨j + 1, ⟨by omega, yes (by simp [cS, p1, p2])⟩, by omega, ?_⟩
    simp [Leq, hh]
   ·have : j = l.length := by omega
    subst this
    have e : l.all cS = true := by rw [Rj] at hp; exact Rk.2 hp
    simp [hh, e]
theorem A9 {α : Type} [BEq α] [LawfulBEq α] {xs ys : List α} (h : xs.length ≠ ys.length) : (xs == ys) = false := by
 rw [<- eU]; exact iz h
theorem zp {α : Type} [BEq α] [LawfulBEq α] {xs ys : List α} (hl : xs.length = ys.length) (h : ∀ i (h1 : i < xs.length) (h2 : i < ys.length), (xs[i] == ys[i]) = true) : (xs == ys) = true := by
 rw [<- eU]; exact (eA _ xs ys).2 ⟨hl, h⟩
theorem zq {α : Type} [BEq α] [LawfulBEq α] {xs ys : List α} {i : Nat} (h1 : i < xs.length) (h2 : i < ys.length) (h : (xs[i] == ys[i]) = false) : (xs == ys) = false := by
 rw [<- eU]; exact lu (i := i) h1 h2 h
theorem w7 {α : Type} [BEq α] {xs ys : List α} {j : Nat} (hp : ∀ i (h1 : i < xs.length) (h2 : i < ys.length), i < j -> (xs[i] == ys[i]) = true) (hx : j < xs.length) (hy : j < ys.length) (h : (xs[j] == ys[j]) = true) : ∀ i (h1 : i < xs.length) (h2 : i < ys.length), i < j + 1 -> (xs[i] == ys[i]) = true := fun i h1 h2 h3 => by
 rcases Nat.lt_or_ge i j with h4 | h4
 ·exact hp i h1 h2 h4
 ·have : i = j := by omega
  subst this; exact h
theorem Mp (x y : Co) : mi [2, 1, 1, 1, 1, 1, 1] (gM x) (gM y) = some (js x y) := by simp [gM, js]
theorem Nz (x y : Fi) : mi [1, 2] (lC x) (lC y) = some (jy x y) := by simp [lC, jy]
theorem Bm (a b : Bk) (ha : gr a) (h : List (List AV)) : Contract Tryz.prog 132 [.agg (eH a), .agg (eH b)] h (.v (.bool (kL a b))) h [] := by
 obtain ⟨q1, q2, q3, q4, _⟩ := ha
 refine ab Om mixed (by simp [qE]) fun hh hargs => ?_
 unfold kL
 cases p0 : a.kind == b.kind with
 | false => simp [qE, hh, p0]
 | true =>
 cases p1 : a.status == b.status with
 | false => simp [qE, hh, p0, p1]
 | true =>
 cases p2 : a.tag == b.tag with
 | false => simp [qE, hh, p0, p1, p2]
 | true =>
 cases p3 : a.name == b.name with
 | false => simp [qE, hh, p0, p1, p2, p3]
 | true =>
 cases p4 : a.value == b.value with
 | false => simp [qE, hh, p0, p1, p2, p3, p4]
 | true =>
 cases p5 : a.n == b.n with
 | false => simp [qE, hh, p0, p1, p2, p3, p4, p5]
 | true =>
 cases p6 : a.m == b.m with
 | false => simp [qE, hh, p0, p1, p2, p3, p4, p5, p6]
 | true =>
 simp [qE, p0, p1, p2, p3, p4, p5, p6]
 refine aa (by simp) (lR _ _ q1 _) ?_
 cases p7 : a.oids == b.oids with
 | false => simp [hh]
 | true =>
 simp
 refine aa (by simp) (tq _ _ q3 _) ?_
 cases p9 : a.row == b.row with
 | false => simp [hh]
 | true =>
 by_cases l1 : a.cols.length = b.cols.length
 ·by_cases l2 : a.fields.length = b.fields.length
  ·simp [l1, l2]
   refine am (D := Nat) (fun j => ⟨[(2, .box h.length 0), (3, .box (h.length + 1) 0), (6, .v (.int .i64 j))], [], h ++ [eH a, eH b], []⟩) (fun j => j <= a.cols.length /\ ∀ i (h1 : i < a.cols.length) (h2 : i < b.cols.length), i < j -> (a.cols[i] == b.cols[i]) = true) (fun j => a.cols.length - j) 0 ⟨by omega, fun i h1 h2 h3 => by omega⟩ ?_ ?_
   ·simp [Leq, hh]
   ·rintro j ⟨hj, hp⟩
    by_cases hlt : j < b.cols.length
    ·have hlt' : j < a.cols.length := by omega
     have hw : IntKind.i64.wrap ((j : Int) + 1) = (j : Int) + 1 := wrap64 (by omega) (by omega)
     have no : (a.cols[j] == b.cols[j]) = false -> (a.cols == b.cols) = false := fun e => zq hlt' hlt e
     have yes := w7 hp hlt' hlt
     simp [hlt, hlt', Mp]
     rw [<- r7] at no yes
     refine aY (!(js a.cols[j] b.cols[j])) (by simp) (fun ht => ?_) (fun hf' => ?_)
     ·simp at ht
      simp [hh, no ht]
     ·simp at hf'
      simp [hw]
      refine ⟨j + 1, ⟨by omega, fun i h1 h2 h3 => by simpa using yes hf' i h1 h2 h3⟩, by omega, ?_⟩
      simp [Leq, hh]
    ·have ec : (a.cols == b.cols) = true := zp l1 fun i h1 h2 => hp i h1 h2 (by omega)
     have hlt' : ¬ j < a.cols.length := by omega
     simp [hlt, hlt', ec]
     refine am (D := Nat) (fun j => ⟨[(2, .box h.length 0), (3, .box (h.length + 1) 0), (7, .v (.int .i64 j))], [], h ++ [eH a, eH b], []⟩) (fun j => j <= a.fields.length /\ ∀ i (h1 : i < a.fields.length) (h2 : i < b.fields.length), i < j -> (a.fields[i] == b.fields[i]) = true) (fun j => a.fields.length - j) 0 ⟨by omega, fun i h1 h2 h3 => by omega⟩ ?_ ?_
     ·simp [Leq, hh]
     ·rintro j ⟨hj, hp⟩
      by_cases hlt : j < b.fields.length
      ·have hlt' : j < a.fields.length := by omega
       have hw : IntKind.i64.wrap ((j : Int) + 1) = (j : Int) + 1 := wrap64 (by omega) (by omega)
       have no : (a.fields[j] == b.fields[j]) = false -> (a.fields == b.fields) = false := fun e => zq hlt' hlt e
       have yes := w7 hp hlt' hlt
       simp [hlt, hlt', Nz]
       rw [<- rn] at no yes
       refine aY (!(jy a.fields[j] b.fields[j])) (by simp) (fun ht => ?_) (fun hf' => ?_)
       ·simp at ht
        simp [hh, no ht]
       ·simp at hf'
        simp [hw]
        refine ⟨j + 1, ⟨by omega, fun i h1 h2 h3 => by simpa using yes hf' i h1 h2 h3⟩, by omega, ?_⟩
        simp [Leq, hh]
      ·have ef : (a.fields == b.fields) = true := zp l2 fun i h1 h2 => hp i h1 h2 (by omega)
       have hlt' : ¬ j < a.fields.length := by omega
       simp [hlt, hlt', hh, ef]
  ·have hne : ((a.fields.length : Int) != b.fields.length) = true := by simp; omega
   have hx := A9 l2
   simp [l1, hne, hh, hx]
 ·have hne : ((a.cols.length : Int) != b.cols.length) = true := by simp; omega
  have hx := A9 l1
  simp [hne, hh, hx]
def kU (m : Bk) : Bool := cD 0 4294967295 m.n && (cD 0 4294967295 m.m && (decide (m.oids.length <= 65535) && m.oids.all (cD 0 4294967295)))
def fK (m : Bk) : Int :=
 if aZ m.kind = false then 9
 else if er m && (kU m && (gL m && ((decide (m.cols.length <= 65535) && m.cols.all dD) && ((decide (m.fields.length <= 65535) && m.fields.all cS) && ((decide (m.row.length <= 65535) && m.row.all dx) && kL m (cg m)))))) then 0 else 1
def ki (m : Bk) : Prop := (m.tag.length <= 1000000 /\ m.name.length <= 1000000 /\ m.value.length <= 1000000) /\ (∀ c ∈ m.cols, c.name.length <= 1000000) /\ ∀ c ∈ m.fields, c.text.length <= 1000000
theorem xR (m : Bk) (hf : gr m) (hs : ki m) (h : List (List AV)) : Contract Tryz.prog 106 [.agg (eH m)] h (.v (.int .i64 (fK m))) h [] := by
 obtain ⟨⟨s1, s2, s3⟩, s4, s5⟩ := hs
 have big : 1000000 <= maxLen := by unfold maxLen; omega
 refine aF (XCode.cuts [false, false, true, true, true] c106.code) Pb rfl mixed (by simp [c106]) fun hh hargs => ?_
 simp [c106]
 refine aa (by simp) (zx _ _) ?_
 cases hk : aZ m.kind with
 | false => simp [hh, fK, hk]
 | true =>
 have e : fK m = if er m && (kU m && (gL m && ((decide (m.cols.length <= 65535) && m.cols.all dD) && ((decide (m.fields.length <= 65535) && m.fields.all cS) && ((decide (m.row.length <= 65535) && m.row.all dx) && kL m (cg m)))))) then 0 else 1 := by unfold fK; rw [hk]; rfl
 rw [e]
 simp
 refine aU ⟨[(1, .box h.length 0), (2, .v (.int .i64 0)), (3, .v (.bool (er m)))], [], h ++ [eH m], []⟩ ?_ ?_
 ·unfold er
  simp
  refine aa (by simp) (jM _ (Rb s1 big) _) ?_
  cases p1 : bv m.tag with
  | false => simp [Leq, hh]
  | true =>
  simp
  refine aa (by simp) (jM _ (Rb s2 big) _) ?_
  cases p2 : bv m.name with
  | false => simp [Leq, hh]
  | true =>
  simp
  refine aa (by simp) (jM _ (Rb s3 big) _) ?_
  simp [Leq, hh]
 refine aU ⟨[(1, .box h.length 0), (2, .v (.int .i64 0)), (3, .v (.bool (er m))), (4, .v (.bool (kU m)))], [], h ++ [eH m], []⟩ ?_ ?_
 ·unfold kU
  simp
  refine aa (by simp) (jJ _ _ _ _) ?_
  cases p1 : cD 0 4294967295 m.n with
  | false => simp [Leq, hh]
  | true =>
  simp
  refine aa (by simp) (jJ _ _ _ _) ?_
  cases p2 : cD 0 4294967295 m.m with
  | false => simp [Leq, hh]
  | true =>
  simp
  refine aa (by simp) (oq _ _ _ _) ?_
  simp [Leq, hh]
 refine aU ⟨[(1, .box h.length 0), (2, .v (.int .i64 0)), (3, .v (.bool (er m))), (4, .v (.bool (kU m))), (5, .v (.bool (gL m)))], [], h ++ [eH m], []⟩ ?_ ?_
 ·unfold gL tL
  cases h1 : m.kind == 90 with
  | false =>
   have e1 : (m.kind != 90) = true := by simp [bne, h1]
   simp [Leq, hh, e1]
  | true =>
   have e1 : (m.kind != 90) = false := by simp [bne, h1]
   cases h2 : m.status == 73 with
   | true => simp [Leq, hh, e1, h2]
   | false => cases h3 : m.status == 84 <;> simp [Leq, hh, e1, h2, h3]
 cases p1 : er m with
 | false => simp [hh]
 | true =>
 cases p2 : kU m with
 | false => simp [hh]
 | true =>
 cases p3 : gL m with
 | false => simp [hh]
 | true =>
 simp
 refine aa (by simp) (AL _ s4 _) ?_
 cases p4 : (decide (m.cols.length <= 65535) && m.cols.all dD) with
 | false => simp [hh]
 | true =>
 simp
 refine aa (by simp) (vz _ s5 _) ?_
 cases p5 : (decide (m.fields.length <= 65535) && m.fields.all cS) with
 | false => simp [hh]
 | true =>
 simp
 refine aa (by simp) (yk _ _) ?_
 cases p6 : (decide (m.row.length <= 65535) && m.row.all dx) with
 | false => simp [hh]
 | true =>
 simp
 refine aa (by simp) (zd m _) ?_
 simp
 refine aa (by simp) (Bm m (cg m) hf _) ?_
 cases p7 : kL m (cg m) <;> simp [hh]
end Go.Proofs.YtdfgljojemmlcaaGreat.Ax
namespace Go.Proofs.YtdfgljojemmlcaaGreat.Ax
open Go.RowKit Go By Go.Proofs.YtdfgljojemmlcaaGreat.Nm Sc Dg
open He (textL)
set_option maxRecDepth 10000
theorem NP (n : Int) : lZ 2 n = cD (-32768) 32767 n := by
 have e : lZ 2 n = true ↔ (-32768 <= n /\ n < 65536) /\ cn n 2 = n := by
  simp only [lZ, Q9, Aq, beq_iff_eq]
 have e2 : cD (-32768) 32767 n = true ↔ ¬ n < -32768 /\ ¬ 32767 < n := by
  simp only [cD, Q9, Bool.not_eq_true', decide_eq_false_iff_not]
 rw [Rm, e, e2, C1]
 by_cases h : 32768 <= n /\ n < 65536
 ·rw [if_pos h]; omega
 ·rw [if_neg h]; omega
theorem FR : uo = dD := by
 funext c
 unfold uo dD
 rw [JP, NV, NP, Pe, Rm]
 simp only [Q9]
 constructor
 ·rintro ⟨a, ⟨b, c⟩, ⟨d, e⟩, f, g⟩; exact ⟨a, b, d, c, f, g, e⟩
 ·rintro ⟨a, b, d, c, f, g, e⟩; exact ⟨a, ⟨b, c⟩, ⟨d, e⟩, f, g⟩
theorem xT (m : Bk) : ci m = fK m := by
 unfold ci fK
 cases hk : aZ m.kind with
 | false => rfl
 | true =>
  simp only [Bool.true_eq_false, if_false]
  congr 1
  rw [eq_iff_iff]
  unfold jT B1 tE kU
  rw [FR, JP]
  simp only [Q9, decide_eq_true_eq]
  constructor
  ·rintro ⟨a, ⟨⟨l1, l2, l3, l4⟩, b, c, d, e⟩, f, ⟨g, i⟩, s⟩
   exact ⟨f, ⟨g, i, by omega, b⟩, a, ⟨by omega, d⟩, ⟨by omega, e⟩, ⟨by omega, c⟩, s⟩
  ·rintro ⟨f, ⟨g, i, l1, b⟩, a, ⟨l2, d⟩, ⟨l4, e⟩, ⟨l3, c⟩, s⟩
   exact ⟨a, ⟨⟨by omega, by omega, by omega, by omega⟩, b, c, d, e⟩, f, ⟨g, i⟩, s⟩
def rz (m : Bk) : Ms × Int := if fK m = 0 then (⟨m.kind, bM m⟩, 0) else (⟨0, []⟩, fK m)
theorem Ck (m : Bk) : qy m = rz m := by unfold qy rz; rw [xT]
theorem gD (xs : List UInt8) (n size : Int) : bo xs n size = xs ++ aB size n := gI xs n size
theorem BP (c : Co) : ll c = He.encT c.name ++ aB 4 c.table ++ aB 2 c.attr ++ aB 4 c.oid ++ aB 2 c.size ++ aB 4 c.mod ++ aB 2 c.format := by
 simp [ll, bX]
theorem qL (l : List Co) (hl : (bV ll l).length <= 140737488351232) (hn : l.length <= 140737488355328) (h : List (List AV)) :
  Contract Tryz.prog 109 [.sl 7 (ai gM l) none .no] h (.sl 1 (af (bV ll l)) none (.own .res)) h [] := by
 refine ab Mx mixed (by simp [Gv]) fun hh hargs => ?_
 simp [Gv]
 refine aj (cY [] l.length 2 (by simp) h) (by simp) (by simp) ?_
 simp
 have e0 : bo [] l.length 2 = bo [] l.length 2 ++ (l.take 0).flatMap ll := by simp
 rw [e0]
 refine am (D := Nat) (fun j => ⟨[(0, .sl 7 (ai gM l) none .no), (4, .v (.int .i64 j))], [(3, .sl 1 (af (bo [] l.length 2 ++ (l.take j).flatMap ll)) none (.own (.slot 3)))], h, []⟩) (fun j => j <= l.length) (fun j => l.length - j) 0 (by simp) ?_ ?_
 ·simp [Leq, hh]
 ·intro j hj
  by_cases hlt : j < l.length
  ·have hw : IntKind.i64.wrap ((j : Int) + 1) = (j : Int) + 1 := wrap64 (by omega) (by omega)
   obtain ⟨hx, hb⟩ := cK ll l (bo [] l.length 2).length j hlt 140737488351232 (by simpa [bV] using hl)
   have hc : ll l[j] = _ := BP l[j]
   rw [hc] at hx hb
   simp only [Q1] at hb
   have hs := ir l[j].name
   simp [hlt, -Q0, -aT]
   generalize l[j] = c at *
   generalize hB : bo [] l.length 2 ++ (l.take j).flatMap ll = B at *
   have hBl : B.length = (bo [] l.length 2).length + ((l.take j).flatMap ll).length := by rw [<- hB, Q1]
   refine aj (pu B c.name (by omega) _) (by simp) (by simp) ?_
   simp [-Q0, -aT]
   refine aj (cY (B ++ He.encT c.name) c.table 4 (by simp only [Q1]; omega) _) (by simp) (by simp) ?_
   rw [gD]
   simp [-Q0, -aT]
   refine aj (cY (B ++ He.encT c.name ++ aB 4 c.table) c.attr 2 (by simp only [Q1]; omega) _) (by simp) (by simp) ?_
   rw [gD]
   simp [-Q0, -aT]
   refine aj (cY (B ++ He.encT c.name ++ aB 4 c.table ++ aB 2 c.attr) c.oid 4 (by simp only [Q1]; omega) _) (by simp) (by simp) ?_
   rw [gD]
   simp [-Q0, -aT]
   refine aj (cY (B ++ He.encT c.name ++ aB 4 c.table ++ aB 2 c.attr ++ aB 4 c.oid) c.size 2 (by simp only [Q1]; omega) _) (by simp) (by simp) ?_
   rw [gD]
   simp [-Q0, -aT]
   refine aj (cY (B ++ He.encT c.name ++ aB 4 c.table ++ aB 2 c.attr ++ aB 4 c.oid ++ aB 2 c.size) c.mod 4 (by simp only [Q1]; omega) _) (by simp) (by simp) ?_
   rw [gD]
   simp [-Q0, -aT]
   refine aj (cY (B ++ He.encT c.name ++ aB 4 c.table ++ aB 2 c.attr ++ aB 4 c.oid ++ aB 2 c.size ++ aB 4 c.mod) c.format 2 (by simp only [Q1]; omega) _) (by simp) (by simp) ?_
   rw [gD]
   simp [hw, -Q0, -aT]
   refine ⟨j + 1, by omega, by omega, ?_⟩
   have e : bo [] l.length 2 ++ (l.take (j + 1)).flatMap ll = B ++ He.encT c.name ++ aB 4 c.table ++ aB 2 c.attr ++ aB 4 c.oid ++ aB 2 c.size ++ aB 4 c.mod ++ aB 2 c.format := by
    rw [hx, <- hB]; simp only [Q0]
   rw [e]
   simp [Leq, hh, -Q0, -aT]
  ·have : j = l.length := by omega
   subst this
   simp [hh, bV]
theorem AR (l : List Fi) (hl : (fN l).length <= 140737488351232) (hn : l.length <= 140737488355328) (hc : ∀ f ∈ l, 0 <= f.code /\ f.code < 256) (h : List (List AV)) : Contract Tryz.prog 111 [.sl 2 (ai lC l) none .no] h (.sl 1 (af (fN l)) none (.own .res)) h [] := by
 refine ab Nn mixed (by simp [FE]) fun hh hargs => ?_
 unfold fN at hl
 rw [Q1, Q7] at hl
 simp [FE]
 refine am (D := Nat) (fun j => ⟨[(0, .sl 2 (ai lC l) none .no), (4, .v (.int .i64 j))], [(3, .sl 1 (af ((l.take j).flatMap fr)) none (.own (.slot 3)))], h, []⟩) (fun j => j <= l.length) (fun j => l.length - j) 0 (by simp) ?_ ?_
 ·simp [Leq, hh]
 ·intro j hj
  by_cases hlt : j < l.length
  ·have hw : IntKind.i64.wrap ((j : Int) + 1) = (j : Int) + 1 := wrap64 (by omega) (by omega)
   obtain ⟨hx, hb⟩ := cK fr l 1 j hlt 140737488351232 (by omega)
   have hc1 := hc l[j] (Q8 _)
   have hc3 : max l[j].code 0 % 256 = l[j].code := by omega
   obtain ⟨cd, tx, hlj⟩ : ∃ cd tx, l[j] = ⟨cd, tx⟩ := ⟨_, _, rfl⟩
   rw [hlj] at hx hb hc1 hc3
   have hfe : fr ⟨cd, tx⟩ = [Q5 cd.toNat] ++ He.encT tx := by simp [fr, bX]
   rw [hfe] at hx hb
   rw [Q1, Q7, ir] at hb
   replace hc3 : max cd 0 % 256 = cd := hc3
   generalize hB : (l.take j).flatMap fr = B at *
   simp [hlt, hlj, pp, -Q0]
   refine ⟨by omega, ?_⟩
   refine aj (pu (B ++ [Q5 cd.toNat]) tx (by simp only [Q1, Q7]; omega) _) (by simp [hc3]) (by simp) ?_
   simp [hw, -Q0]
   refine ⟨j + 1, by omega, by omega, ?_⟩
   have e : af ((l.take (j + 1)).flatMap fr) = af (B ++ [Q5 cd.toNat]) ++ af (He.encT tx) := by rw [hx, <- aT, Q0]
   rw [e]
   simp [Leq, hh, hc3, -Q0]
  ·have : j = l.length := by omega
   subst this
   simp [hh, fN, -List.length_flatMap]
   omega
set_option maxHeartbeats 4000000 in
theorem vQ (m : Bk) (hf : gr m) (hs : ki m) (ho : sf m) (hb : (bM m).length <= 140737488351232) (h : List (List AV)) : Contract Tryz.prog 77 [.agg (eH m)] h (.tup [.agg (xW (rz m).1), .v (.int .i64 (rz m).2)]) h [] := by
 have hf0 := hf
 obtain ⟨q1, q2, q3, q4, q5⟩ := hf
 obtain ⟨o1, o2, o3, o4⟩ := ho
 refine ab QN mixed (by simp [Nc]) fun hh hargs => ?_
 simp [Nc]
 refine aa (by simp) (xR m hf0 hs _) ?_
 by_cases he : fK m = 0
 ·have e0 : rz m = (⟨m.kind, bM m⟩, 0) := if_pos he
  rw [e0]
  unfold bM at hb ⊢
  by_cases h82 : m.kind = 82
  ·simp [he, h82]
   refine aj (cY [] 0 4 (by simp) _) (by simp) (by simp) ?_
   simp [hh, eL, h82, aB]
  rw [if_neg h82] at hb ⊢
  by_cases h83 : m.kind = 83
  ·rw [if_pos h83] at hb
   have e : bX [m.name, m.value] = He.encT m.name ++ He.encT m.value := by simp [bX]
   rw [e, Q1, ir, ir] at hb
   simp [he, h83, -Q0]
   refine aj (pu [] m.name (by simp; omega) _) (by simp) (by simp) ?_
   simp
   refine aj (pu (He.encT m.name) m.value (by rw [ir]; omega) _) (by simp) (by simp) ?_
   simp [hh, eL, h83, e]
  rw [if_neg h83] at hb ⊢
  by_cases h75 : m.kind = 75
  ·have l1 := dA 4 m.n (by omega)
   simp [he, h75, -Q0]
   refine aj (cY [] m.n 4 (by simp) _) (by simp) (by simp) ?_
   simp
   refine aj (cY (aB 4 m.n) m.m 4 (by omega) _) (by simp [aB]) (by simp) ?_
   simp [hh, eL, h75, gD (aB 4 m.n) m.m 4]
  rw [if_neg h75] at hb ⊢
  by_cases h90 : m.kind = 90
  ·have hw : max m.status 0 % 256 = m.status := by omega
   simp [he, h90, hh, hw, eL]
  rw [if_neg h90] at hb ⊢
  by_cases h67 : m.kind = 67
  ·rw [if_pos h67] at hb
   have e : bX [m.tag] = He.encT m.tag := by simp [bX]
   rw [e, ir] at hb
   simp [he, h67]
   refine aj (pu [] m.tag (by simp; omega) _) (by simp) (by simp) ?_
   simp [hh, eL, h67, e]
  rw [if_neg h67] at hb ⊢
  by_cases h68 : m.kind = 68
  ·rw [if_pos h68] at hb
   simp [he, h68]
   refine aj (C5 [] m.row (by simpa using hb) q3 _) (by simp) (by simp) ?_
   simp [hh, eL, h68]
  rw [if_neg h68] at hb ⊢
  by_cases h84 : m.kind = 84
  ·rw [if_pos h84] at hb
   simp [he, h84]
   refine aa (by simp) (qL m.cols hb q2 _) ?_
   simp [hh, eL, h84]
  rw [if_neg h84] at hb ⊢
  by_cases h116 : m.kind = 116
  ·rw [if_pos h116] at hb
   simp [he, h116]
   refine aj (CW [] m.oids 4 (by simpa using hb) q1 _) (by simp) (by simp) ?_
   simp [hh, eL, h116]
  rw [if_neg h116] at hb ⊢
  by_cases h69 : m.kind = 69 \/ m.kind = 78
  ·rw [if_pos h69] at hb
   rcases h69 with h69 | h69
   all_goals
    simp [he, h69]
    refine aa (by simp) (AR m.fields hb q4 o4 _) ?_
    simp [hh, eL, h69]
  have h69' : ¬ m.kind = 69 := fun h => h69 (.inl h)
  have h78' : ¬ m.kind = 78 := fun h => h69 (.inr h)
  rw [if_neg h69]
  simp [he, h82, h83, h75, h90, h67, h68, h84, h116, h69', h78', hh, eL]
 ·simp [he, hh, rz, eL]
def Kb (k : UInt8) (E X : List UInt8) : List UInt8 := [k] ++ E ++ X
theorem xU (k : UInt8) (E X : List UInt8) : af (Kb k E X) = af ([k] ++ E) ++ af X := aT _ _
theorem zX (k : UInt8) (E X : List UInt8) : Kb k E X = k :: (E ++ X) := by simp [Kb]
def Bj (m : Ms) : List UInt8 := Kb (Q5 m.type.toNat) (aB 4 ((m.body.length : Int) + 4)) m.body
theorem w6 (m : Ms) : Bj m = Kb (Q5 m.type.toNat) (aB 4 ((m.body.length : Int) + 4)) m.body := by unfold Bj; exact Eq.refl _
theorem yH (m : Ms) (ht : 0 < m.type /\ m.type < 256) (hl : m.body.length <= 10000000) (h : List (List AV)) : Contract Tryz.prog 78 [.agg (xW m)] h (.sl 1 (af (Bj m)) none (.own .res)) h [] := by
 have hw : IntKind.i64.wrap ((m.body.length : Int) + 4) = (m.body.length : Int) + 4 := wrap64 (by omega) (by omega)
 have hn := dA 4 ((m.body.length : Int) + 4) (by omega)
 have hk : max m.type 0 % 256 = m.type := by omega
 have h0 : ¬ m.type = 0 := by omega
 refine ab PR mixed (by simp [NT]) fun hh hargs => ?_
 rw [w6, xU]
 generalize hn' : (m.body.length : Int) + 4 = n at *
 generalize hE : af ([Q5 m.type.toNat] ++ aB 4 n) = E at *
 have hEl : E.length = 1 + (aB 4 n).length := by rw [<- hE, qG, Q1, Q7]
 simp [NT, h0, hn', hw]
 refine cP ?_
 simp [hn', hw]
 refine aj (cY [Q5 m.type.toNat] n 4 (by simp) _) (by simp [hk]) (by simp) ?_
 rw [gD [Q5 m.type.toNat], hE]
 simp [hh, -Q0]
 exact ⟨by omega, by rw [<- hE]; exact iy _ _⟩
theorem zM {m : Bk} (he : ci m = 0) : Bj ⟨m.kind, bM m⟩ = nT m := by
 rw [xc he, w6, zX]
theorem AJ {k : Int} (h : aZ k = true) : 0 < k /\ k < 256 := by
 unfold aZ at h
 have := of_decide_eq_true h
 omega
theorem xN (l : List Bk) (hf : ∀ m ∈ l, gr m /\ ki m /\ sf m /\ (bM m).length <= 10000000) (hl : (cT l).length <= 100000000) (hn : l.length <= 1000) (h : List (List AV)) : Contract Tryz.prog 35 [.sl 11 (ai eH l) none .no] h (.sl 1 (af (cT l)) none (.own .res)) h [] := by
 refine ab Qv mixed (by simp [Pu]) fun hh hargs => ?_
 simp [Pu]
 refine am (D := Nat) (fun j => ⟨[(0, .sl 11 (ai eH l) none .no), (4, .v (.int .i64 j))], [(3, .sl 1 (af (cT (l.take j))) none (.own (.slot 3)))], h, []⟩) (fun j => j <= l.length) (fun j => l.length - j) 0 (by simp) ?_ ?_
 ·simp [Leq, hh, cT]
 ·intro j hj
  by_cases hlt : j < l.length
  ·have hw : IntKind.i64.wrap ((j : Int) + 1) = (j : Int) + 1 := wrap64 (by omega) (by omega)
   obtain ⟨hx, hb⟩ := wT l (M := 100000000) hl j hlt
   obtain ⟨f1, f2, f3, f4⟩ := hf l[j] (Q8 _)
   simp [hlt]
   generalize l[j] = m at *
   refine aa (by simp) (vQ m f1 f2 f3 (by omega) _) ?_
   rw [<- Ck]
   by_cases he : ci m = 0
   ·rw [BS he]
    have e1 := zM he
    rw [<- e1] at hx hb
    simp
    refine aa (by simp) (yH ⟨m.kind, bM m⟩ (AJ (nD he)) f4 _) ?_
    generalize Bj ⟨m.kind, bM m⟩ = X at *
    have hb2 : (cT (l.take j)).length + X.length <= 140737488355328 := by omega
    simp [hw, hb2, -Q0]
    refine ⟨j + 1, by omega, by omega, ?_⟩
    simp [Leq, hh, hx]
   ·have e2 := wR he
    rw [e2, Rc] at hx
    rw [xa he]
    simp [he, hw]
    refine ⟨j + 1, by omega, by omega, ?_⟩
    simp [Leq, hh, hx]
  ·have : j = l.length := by omega
   subst this
   simp [hh]
end Go.Proofs.YtdfgljojemmlcaaGreat.Ax
namespace Go.Proofs.YtdfgljojemmlcaaGreat.Ax
open Go.RowKit Go By Sc Dg
set_option maxRecDepth 10000
theorem dT (m : Fm) : ∀ c ∈ aG m, c.idOf = none := by intro c hc; rw [fy] at hc; simp at hc; rcases hc with rfl | rfl | rfl | rfl | rfl | rfl | rfl | rfl | rfl | rfl <;> rfl
theorem cx (m : En) : ∀ c ∈ aK m, c.idOf = none := by intro c hc; rw [aW] at hc; simp at hc; rcases hc with rfl | rfl | rfl | rfl | rfl | rfl | rfl | rfl <;> rfl
theorem fmE : Elt aG 10 := ⟨by omega, fun _ => rfl, dT, fun a n => by simp⟩
theorem enE : Elt aK 8 := ⟨by omega, fun _ => rfl, cx, fun a n => by simp⟩
section
variable {α : Type} {f : α -> List AV} {k : Nat}
def LsV (f : α -> List AV) (k : Nat) (h : List (List AV)) (v : AV) (L : List α) : Prop :=
 (∃ nul, v = .sl 0 [] nul .exact /\ nul ≠ some false /\ L = []) \/ (∃ nul, v = .sl k (ai f L) nul .exact /\ L ≠ []) \/ ∃ b, v = .bsl b 0 k L.length /\ h[b]? = some (ai f L).flatten /\ L ≠ []
def bK (v : AV) (h : List (List AV)) : List (List AV) := match v with
 | .bsl b _ _ _ => h.set b []
 | _ => h
def eT (v : AV) : List Nat := match v with
 | .bsl b _ _ _ => [b]
 | _ => []
theorem cW (v : AV) (h : List (List AV)) : (bK v h).length = h.length := by unfold bK; split <;> simp
theorem dt {v : AV} {h : List (List AV)} {q : Nat} (hq : q ∉ eT v) : (bK v h)[q]? = h[q]? := by
 unfold bK eT at *
 split
 ·rename_i b _ _ _
  rw [Re]
  intro e; subst e; exact hq (by simp)
 ·rfl
theorem eu {v : AV} {h : List (List AV)} {n : Nat} (hl : aw n h) : aw n (bK v h) := by
 unfold bK; split
 ·exact aN hl trivial
 ·exact hl
theorem mV {v : AV} {h xs : List (List AV)} (hv : ∀ q ∈ eT v, q < h.length) : bK v (h ++ xs) = bK v h ++ xs := by
 unfold bK eT at *
 split
 ·rename_i b _ _ _
  exact Rf _ _ (hv b (by simp))
 ·rfl
theorem gH {v : AV} {h : List (List AV)} (hp : aQ h) : aQ (bK v h) := by
 unfold bK; split
 ·exact aP hp (fun c hc => by simp at hc) _
 ·exact hp
variable {h : List (List AV)} {v : AV} {L : List α}
theorem LsV.bl (hv : LsV f k h v L) : ∀ q ∈ eT v, q < h.length := fun q hq => by
 rcases hv with ⟨_, rfl, _⟩ | ⟨_, rfl, _⟩ | ⟨b, rfl, hb, _⟩
 ·simp [eT] at hq
 ·simp [eT] at hq
 ·simp [eT] at hq
  subst hq
  exact (Q4.1 hb).1
theorem LsV.keep (hv : LsV f k h v L) {h' : List (List AV)} (hk : ∀ q ∈ eT v, h'[q]? = h[q]?) : LsV f k h' v L := by
 rcases hv with h1 | h1 | ⟨b, rfl, hb, h2⟩
 ·exact .inl h1
 ·exact .inr (.inl h1)
 ·exact .inr (.inr ⟨b, rfl, by rw [hk b (by simp [eT])]; exact hb, h2⟩)
theorem LsV.app (hv : LsV f k h v L) (xs : List (List AV)) : LsV f k (h ++ xs) v L := hv.keep fun q hq => List.getElem?_append_left (hv.bl q hq)
theorem LsV.id (hv : LsV f k h v L) : v.idOf = none := by rcases hv with ⟨_, rfl, _⟩ | ⟨_, rfl, _⟩ | ⟨b, rfl, hb, _⟩ <;> rfl
theorem LsV.unown (hv : LsV f k h v L) : v.unown = v := by rcases hv with ⟨_, rfl, _⟩ | ⟨_, rfl, _⟩ | ⟨b, rfl, hb, _⟩ <;> rfl
theorem LsV.cells (hv : LsV f k h v L) : v.cells = some [v] := by rcases hv with ⟨_, rfl, _⟩ | ⟨_, rfl, _⟩ | ⟨b, rfl, hb, _⟩ <;> rfl
theorem LsV.frz (hv : LsV f k h v L) {i : Nat} (hi : h.length <= i) (cs : List AV) : v.frz i cs = v := by
 rcases hv with ⟨_, rfl, _⟩ | ⟨_, rfl, _⟩ | ⟨b, rfl, hb, _⟩
 ·rfl
 ·rfl
 ·have := (Q4.1 hb).1
  unfold AV.frz
  exact if_neg (by omega)
theorem LsV.ltV (he : ∀ a n, dP n (f a)) (hv : LsV f k h v L) {n : Nat} (hn : h.length <= n) : v.lt n := by
 rcases hv with ⟨_, rfl, _⟩ | ⟨_, rfl, _⟩ | ⟨b, rfl, hb, _⟩
 ·exact trivial
 ·exact cp _ n (he · n) L
 ·have := (Q4.1 hb).1
  show b < n
  omega
theorem gu (f : α -> List AV) (k : Nat) (h : List (List AV)) : LsV f k h (.sl 0 [] (some true) .exact) [] := .inl ⟨_, rfl, by simp, rfl⟩
theorem gA (f : α -> List AV) (k : Nat) (h : List (List AV)) (L : List α) : LsV f k h (fm k f L) L /\ eT (fm k f L) = [] /\ ∀ h, bK (fm k f L) h = h := by
 cases L with
 | nil => exact ⟨.inl ⟨none, rfl, by simp, rfl⟩, rfl, fun _ => rfl⟩
 | cons x r => exact ⟨.inr (.inl ⟨none, rfl, by simp⟩), rfl, fun _ => rfl⟩
theorem n9 {f : α -> List AV} {k : Nat} {h : List (List AV)} {L : List α} {b : Nat} (hb : h[b]? = some (ai f L).flatten) (hne : L ≠ []) : LsV f k h (.bsl b 0 k L.length) L := .inr (.inr ⟨b, rfl, hb, hne⟩)
theorem bg (he : Elt f k) {s : St} {d : Option Nat} {bytes : Nat} {K : St -> List Nat -> Prop} (hv : LsV f k s.heap v L) (x : α) (h1 : (L.length + 1) * bytes <= 140737488355328) (h2 : L.length + 1 <= 140737488355328)
  (hK : K (({ s with heap := bK v s.heap ++ [(ai f (L ++ [x])).flatten], wr := eT v ++ s.wr } : St).puts d (.bsl s.heap.length 0 k (L.length + 1)) false) []) : cI s k bytes d v (.sl k [f x] (some false) .exact) K := by
 have hpl : ∀ c ∈ ([f x] : List (List AV)).flatten, c.idOf = none := fun c hc => he.plain x c (by simpa using hc)
 have hr : rowsOf s.heap k (.sl k [f x] (some false) .exact) = some [f x] := by show (if k = k then _ else _) = _; rw [if_pos rfl]
 have hfl := he.flat_len L
 have e : (ai f (L ++ [x])).flatten = (ai f L).flatten ++ [f x].flatten := by
  have : ai f (L ++ [x]) = ai f L ++ [f x] := by simp [ai]
  rw [this, List.flatten_append]
 rcases hv with ⟨nul, rfl, hnul, rfl⟩ | ⟨nul, rfl, hne⟩ | ⟨b, rfl, hb, hne⟩
 ·have hn2 : nul = some true \/ (nul = none /\ ([] : List (List AV)) = [] /\ Room.exact = .exact) := by
   cases nul with
   | none => exact .inr ⟨rfl, rfl, rfl⟩
   | some c => cases c with
    | true => exact .inl rfl
    | false => exact absurd rfl hnul
  exact .inr (.inl ⟨[f x], hr, by simp, hpl, .inl ⟨hn2, by simpa using h1, by simp, hK⟩⟩)
 ·have hle : (ai f L).length = L.length := by simp
  rw [e] at hK
  refine .inr (.inl ⟨[f x], hr, by simp, hpl, .inr ⟨rfl, fun e2 => hne (List.eq_nil_of_length_eq_zero (by rw [<- hle, e2]; rfl)), rfl, he.flat_plain L, ?_, ?_, ?_⟩⟩)
  ·rw [hle]; exact h1
  ·rw [hle]; exact h2
  ·rw [hle]; exact hK
 ·rw [e] at hK
  refine .inr (.inl ⟨[f x], hr, by simp, hpl, rfl, _, hb, fun e2 => ?_, by rw [hfl]; omega, he.flat_plain L, h1, h2, ?_⟩)
  ·rw [e2] at hfl
   have := List.length_pos_iff.2 hne
   have hk := he.two
   have : 0 < L.length * k := Nat.mul_pos this (by omega)
   simp at hfl; omega
  ·rw [List.drop_zero, Q6 (by rw [hfl]; exact Ri _)]
   exact hK
end
def gn (R : Rg) (id : Int) (h : List (List AV)) : List (List AV) := match R.find id with
 | some s => h.set s.box ({ s with refs := s.refs + 1 } : Sl).cells
 | none => h
section
variable {lo : Nat} {h : List (List AV)} {i : Nat} {R : Rg}
theorem uj (R : Rg) (id : Int) (h : List (List AV)) : (gn R id h).length = h.length := by unfold gn; split <;> simp
theorem Ad {id : Int} {q : Nat} (hq : q ∉ R.touch i) : (gn R id h)[q]? = h[q]? := by
 unfold gn
 split
 ·rename_i s hs
  rw [Re]
  intro e
  exact hq (by rw [<- e]; simp [Rg.touch]; exact .inr (.inr (.inr ⟨s, (bh hs).1, rfl⟩)))
 ·rfl
theorem vL (id : Int) (hp : aQ h) : aQ (gn R id h) := by
 unfold gn; split
 ·exact aP hp (Sl.cells_plain _) _
 ·exact hp
theorem o6 (R : Rg) (id : Int) (i : Nat) : (R.ref id).touch i = R.touch i := by
 unfold Rg.ref; split
 ·exact Rg.upd_touch _ _ _ _
 ·rfl
theorem tD (hr : RegAt lo h i R) (id : Int) (xs : List (List AV)) : gn R id (h ++ xs) = gn R id h ++ xs := by
 unfold gn; split
 ·rename_i s hs
  exact Rf _ _ (hr.box_lt (bh hs).1)
 ·rfl
theorem sc (hr : RegAt lo h i R) {n : Nat} (ho : RgOk n R) (hn : n <= 1000) (id : Int) : Contract Tryz.prog 121 [.box i 0, .v (.int .i64 id)] h (.v (.bool (R.find id).isSome)) (gn R id h) (R.touch i) /\ RegAt lo (gn R id h) i (R.ref id) := by
 cases hs : R.find id with
 | none =>
  have e : gn R id h = h := by unfold gn; rw [hs]
  rw [e]
  refine ⟨?_, ?_⟩
  ·refine ab Kg mixed (by simp [y8]) fun hh hargs => ?_
   simp [y8]
   refine aa (by simp) (n7 hr id) ?_
   simp [hs, ji, hh]
  ·unfold Rg.ref; rw [hs]; exact hr
 | some s =>
  have hm := (bh hs).1
  have hb := hr.box_lt hm
  have hc := hr.at_ s hm
  have hrf := (ho.refs s hm).2
  have e : gn R id h = h.set s.box ({ s with refs := s.refs + 1 } : Sl).cells := by unfold gn; rw [hs]
  rw [e]
  refine ⟨?_, ?_⟩
  ·rw [Sl.cells_mk] at hc
   refine ab Kg mixed (by simp [y8]) fun hh hargs => ?_
   have hw : IntKind.i64.wrap ((s.refs : Int) + 1) = (s.refs : Int) + 1 := wrap64 (by omega) (by omega)
   simp [y8]
   refine aa (by simp) (n7 hr id) ?_
   simp [hs, ji, hc, hw, Sl.cells_mk, hh, Rg.touch]
   exact fun _ => .inr (.inr (.inr ⟨s, hm, rfl⟩))
  ·unfold Rg.ref; rw [hs]; exact hr.upd ho.idsN hm _
end
def fC (p : Rg × List (List AV)) (op : Oc) : Rg × List (List AV) := if op.kind = 1 then (p.1.ref op.id, gn p.1 op.id p.2) else p
def kk (R : Rg) (h : List (List AV)) (ops : List Oc) : Rg × List (List AV) := ops.foldl fC (R, h)
def kp (R : Rg) (ops : List Oc) : Rg := ops.foldl (fun R op => if op.kind = 1 then R.ref op.id else R) R
theorem zm (R : Rg) (h : List (List AV)) (ops : List Oc) (op : Oc) : kk R h (ops ++ [op]) = fC (kk R h ops) op := by unfold kk; rw [List.foldl_append]; rfl
theorem jD (R : Rg) (h : List (List AV)) (op : Oc) (ops : List Oc) : kk R h (op :: ops) = kk (fC (R, h) op).1 (fC (R, h) op).2 ops := rfl
theorem wU : ∀ (ops : List Oc) (R : Rg) (h : List (List AV)), (kk R h ops).1 = kp R ops
 | [], _, _ => rfl
 | op :: ops, R, h => by
  rw [jD, wU ops]
  show kp (fC (R, h) op).1 ops = kp (if op.kind = 1 then R.ref op.id else R) ops
  congr 1
  unfold fC; split <;> rfl
structure RfOk (lo : Nat) (h : List (List AV)) (i n : Nat) (R : Rg) (ops : List Oc) : Prop where
 at_ : RegAt lo (kk R h ops).2 i (kp R ops)
 ok : RgOk (n + ops.length) (kp R ops)
 len : (kk R h ops).2.length = h.length
 touch : (kp R ops).touch i = R.touch i
 get : ∀ q, q ∉ R.touch i -> (kk R h ops).2[q]? = h[q]?
 plain : aQ h -> aQ (kk R h ops).2
theorem s8 {lo i : Nat} : ∀ (ops : List Oc) {h : List (List AV)} {n : Nat} {R : Rg}, RegAt lo h i R -> RgOk n R -> n + ops.length <= 1000 -> RfOk lo h i n R ops
 | [], h, n, R, hr, ho, hn => ⟨hr, ho, rfl, rfl, fun _ _ => rfl, fun h => h⟩
 | op :: ops, h, n, R, hr, ho, hn => by
  have hn1 : n + ops.length + 1 <= 1000 := by simpa [Rn] using hn
  by_cases h1 : op.kind = 1
  ·have e : fC (R, h) op = (R.ref op.id, gn R op.id h) := if_pos h1
   have hx := s8 ops (sc hr ho (by omega) op.id).2 (ho.ref op.id) (by omega)
   have e1 : kk R h (op :: ops) = kk (R.ref op.id) (gn R op.id h) ops := by rw [jD, e]
   have e2 : kp R (op :: ops) = kp (R.ref op.id) ops := by show kp (if op.kind = 1 then _ else _) ops = _; rw [if_pos h1]
   refine ⟨by rw [e1, e2]; exact hx.at_, by rw [e2]; have := hx.ok; rw [show n + 1 + ops.length = n + (op :: ops).length by simp; omega] at this; exact this, by rw [e1, hx.len, uj], by rw [e2, hx.touch, o6], fun q hq => ?_, fun hp => by rw [e1]; exact hx.plain (vL _ hp)⟩
   rw [e1, hx.get q (by rw [o6]; exact hq), Ad hq]
  ·have e : fC (R, h) op = (R, h) := if_neg h1
   have hx := s8 ops hr (ho.mono (Ro n)) (by omega)
   have e1 : kk R h (op :: ops) = kk R h ops := by rw [jD, e]
   have e2 : kp R (op :: ops) = kp R ops := by show kp (if op.kind = 1 then _ else _) ops = _; rw [if_neg h1]
   refine ⟨by rw [e1, e2]; exact hx.at_, by rw [e2]; have := hx.ok; rw [show n + 1 + ops.length = n + (op :: ops).length by simp; omega] at this; exact this, by rw [e1, hx.len], by rw [e2, hx.touch], fun q hq => by rw [e1]; exact hx.get q hq, fun hp => by rw [e1]; exact hx.plain hp⟩
theorem CS {lo i : Nat} {h : List (List AV)} {n : Nat} {R : Rg} (hr : RegAt lo h i R) (ho : RgOk n R) (xs : List (List AV)) (ops : List Oc) (hn : n + ops.length <= 1000) : (kk R (h ++ xs) ops).2 = (kk R h ops).2 ++ xs := by
 have key : ∀ (ops : List Oc) {h : List (List AV)} {n : Nat} {R : Rg}, RegAt lo h i R -> RgOk n R -> n + ops.length <= 1000 -> (kk R (h ++ xs) ops).2 = (kk R h ops).2 ++ xs := fun ops => by
  induction ops with
  | nil => intro h n R _ _ _; rfl
  | cons op ops ih =>
   intro h n R hr ho hn
   have hn1 : n + ops.length + 1 <= 1000 := by simpa [Rn] using hn
   rw [jD, jD]
   by_cases h1 : op.kind = 1
   ·have e : ∀ h, fC (R, h) op = (R.ref op.id, gn R op.id h) := fun h => if_pos h1
    rw [e, e]
    show (kk (R.ref op.id) (gn R op.id (h ++ xs)) ops).2 = (kk (R.ref op.id) (gn R op.id h) ops).2 ++ xs
    rw [tD hr]
    exact ih (sc hr ho (by omega) op.id).2 (ho.ref op.id) (by omega)
   ·have e : ∀ h, fC (R, h) op = (R, h) := fun h => if_neg h1
    rw [e, e]
    exact ih hr ho (by omega)
 exact key ops hr ho hn
theorem RegAt.keep0 {lo : Nat} {h h' : List (List AV)} {i : Nat} {R : Rg} (hr : RegAt lo h i R) (hk : ∀ k ∈ R.touch i, h'[k]? = h[k]?) (hlt : aw h'.length h') : RegAt lo h' i R :=
 ⟨(hk _ (by simp [Rg.touch])).trans hr.top, (hk _ (by simp [Rg.touch])).trans hr.recs, (hk _ (by simp [Rg.touch])).trans hr.ids, fun s hs => (hk _ (by simp [Rg.touch]; exact .inr (.inr (.inr ⟨s, hs, rfl⟩)))).trans (hr.at_ s hs), hr.low, hr.apart, hr.boxes, hlt⟩
def aE (E : List En) : List Oc := E.flatMap En.cache
theorem o0 {E : List En} {j : Nat} (hj : j < E.length) : aE (E.take (j + 1)) = aE (E.take j) ++ E[j].cache := by
 unfold aE; rw [Ra hj, Rh]; simp
theorem A3 {E : List En} {j : Nat} (hj : j < E.length) : (aE (E.take j)).length + E[j].cache.length <= (aE E).length := by
 have : aE E = aE (E.take (j + 1)) ++ aE (E.drop (j + 1)) := by unfold aE; rw [<- Rh, List.take_append_drop]
 rw [this, Q1, o0 hj, Q1]; omega
theorem iL {X : List (List AV)} {x : List AV} {n : Nat} (hX : X.length = n) : ∀ r : List (List AV), jo 0 ((X ++ x :: r).take (n + 1)) (X ++ [x]) := fun r => by
 have : (X ++ x :: r).take (n + 1) = X ++ [x] := by
  rw [<- hX, Rl, Q6 (Ro _)]
  simp
 rw [this]
 exact ag _ _
section
variable {h : List (List AV)} {lo i : Nat} {R : Rg} {j : Jb}
set_option maxHeartbeats 1000000 in
theorem zo (hr : RegAt lo h j.i R) {n : Nat} (ho : RgOk n R) (E : List En) (hE : E.length <= 1000) (hn : n + (aE E).length <= 1000) (hi2 : j.it < h.length) :
  Contract Tryz.prog 95 [.agg (cq j), .sl 8 (ai aK E) none .no] h (.tup []) (kk R h (aE E)).2 (R.touch j.i) := by
 have hi := hr.i_lt
 refine ab QC mixed (by simp [NG]) fun hh hargs => ?_
 have hJ := iT (j := j) (n := h.length + 1) (by omega) (by omega)
 have ok : ∀ ops : List Oc, n + ops.length <= 1000 -> RfOk lo h j.i n R ops := fun ops hops => s8 ops hr ho hops
 have hwr : ∀ q ∈ R.touch j.i, q < h.length := fun q hq => by
  unfold Rg.touch at hq
  simp only [List.mem_cons] at hq
  rcases hq with rfl | rfl | rfl | hq
  ·exact hi
  ·exact (Q4.1 hr.recs).1
  ·exact (Q4.1 hr.ids).1
  ·obtain ⟨s, hs, rfl⟩ := List.mem_map.1 hq; exact hr.box_lt hs
 have hT : (∀ a, a ∈ R.touch j.i -> a < h.length -> a ∈ R.touch j.i) = True := eq_true fun _ h _ => h
 simp [NG]
 refine am (D := Nat) (fun a => ⟨[(2, .box h.length 0), (8, .sl 8 (ai aK E) none .no), (9, .v (.int .i64 E.length)), (10, .v (.int .i64 a))], [], (kk R h (aE (E.take a))).2 ++ [cq j], R.touch j.i⟩) (fun a => a <= E.length) (fun a => E.length - a) 0 (by simp) ?_ ?_
 ·simp [Leq, hT, hh, aE, kk, hJ]
 ·intro a ha
  by_cases hlt : a < E.length
  ·have hw : IntKind.i64.wrap ((a : Int) + 1) = (a : Int) + 1 := wrap64 (by omega) (by omega)
   have hle := A3 hlt
   have hnx := o0 hlt
   have hl0 := (ok (aE (E.take a)) (by omega)).len
   simp [hlt, hl0]
   obtain ⟨C, hC⟩ : ∃ C, E[a].cache = C := ⟨_, rfl⟩
   obtain ⟨O, hO⟩ : ∃ O, aE (E.take a) = O := ⟨_, rfl⟩
   rw [hC] at hle hnx ⊢
   rw [hO] at hle hnx hl0 ⊢
   have hlt0 := (ok O (by omega)).at_.lt
   rw [hl0] at hlt0
   have hlt1 := al (Q3 h.length 1) hlt0
   refine am (D := Nat) (fun q => ⟨[(2, .box h.length 0), (8, .sl 8 (ai aK E) none .no), (9, .v (.int .i64 E.length)), (10, .v (.int .i64 a)), (15, .sl 2 (ai jg C) none .no), (16, .v (.int .i64 C.length)), (17, .v (.int .i64 q))], [], (kk R h (O ++ C.take q)).2 ++ [cq j], R.touch j.i⟩) (fun q => q <= C.length) (fun q => C.length - q) 0 (by simp) ?_ ?_
   ·simp [Leq, hT, hl0, hlt1, hJ, iL hl0]
    done
   ·intro q hq
    by_cases hlq : q < C.length
    ·have hwq : IntKind.i64.wrap ((q : Int) + 1) = (q : Int) + 1 := wrap64 (by omega) (by omega)
     have hOq := ok (O ++ C.take q) (by simp; omega)
     have eq : C.take (q + 1) = C.take q ++ [C[q]] := Ra hlq
     have hsn := zm R h (O ++ C.take q) C[q]
     rw [Q0, <- eq] at hsn
     have h1 := hOq.len
     have h2 := hOq.at_
     have h3 := hOq.touch
     have h4 := hOq.ok
     have h5 : (kk R h (O ++ C.take q)).1 = kp R (O ++ C.take q) := wU _ _ _
     have hbd : n + (O ++ C.take q).length <= 1000 := by simp; omega
     obtain ⟨c, hc⟩ : ∃ c, C[q] = c := ⟨_, rfl⟩
     rw [hc] at hsn
     generalize O ++ C.take q = ops at *
     have hsn1 : c.kind = 1 -> (kk R h (O ++ C.take (q + 1))).2 = gn (kp R ops) c.id (kk R h ops).2 := fun hk => by
      rw [hsn]; unfold fC; rw [if_pos hk, h5]
     have hsn2 : ¬ c.kind = 1 -> (kk R h (O ++ C.take (q + 1))).2 = (kk R h ops).2 := fun hk => by
      rw [hsn]; unfold fC; rw [if_neg hk]
     clear hsn
     generalize hX : (kk R h ops).2 = X at *
     simp [hlq, h1, hc]
     have hcl := h2.lt
     rw [h1] at hcl
     have hcl1 := al (Q3 h.length 1) hcl
     by_cases hk : c.kind = 1
     ·have hk2 : (c.kind == 1) = true := by simpa using hk
      have hsn := hsn1 hk
      have hr2 := h2.app [cq j, jg c] (by rw [h1]; simp [iT (j := j) (n := h.length + 2) (by omega) (by omega)])
      have hg := sc hr2 h4 hbd c.id
      rw [tD h2, h3] at hg
      have hj0 : (X ++ [cq j, jg c])[h.length]? = some (cq j) := by rw [<- h1, Q2 (Ri _)]; simp
      have hj1 : (X ++ [cq j, jg c])[h.length + 1]? = some (jg c) := by rw [<- h1, Q2 (by omega)]; simp
      simp [hk, hk2, hj0, hj1]
      refine aa (by simp) hg.1 ?_
      simp [hwq]
      refine ⟨q + 1, by omega, by omega, ?_⟩
      have hrl := uj (kp R ops) c.id X
      have hrlt := hg.2.lt
      have hrlt2 : aw (h.length + 1) (gn (kp R ops) c.id X) := by
       have := (sc h2 h4 hbd c.id).2.lt
       rw [hrl, h1] at this
       exact al (Q3 _ _) this
      rw [hsn]
      simp [Leq, hT, hrl, h1, hrlt2, hJ, iL (hrl.trans h1)]
      exact fun x hx hx2 => by
       rcases hx with h | h | h
       ·exact h
       ·omega
       ·exact h
     ·have hsn := hsn2 hk
      have hk2 : (c.kind == 1) = false := by simpa using hk
      simp [hk, hk2, hwq]
      refine ⟨q + 1, by omega, by omega, ?_⟩
      rw [hsn]
      simp [Leq, hT, h1, hcl1, hJ, iL h1]
      done
    ·have : q = C.length := by omega
     subst this
     have hOq := ok (O ++ C) (by simp; omega)
     have h1 := hOq.len
     have hcl := hOq.at_.lt
     rw [h1] at hcl
     have hcl1 := al (Q3 h.length 1) hcl
     simp [hw]
     refine ⟨a + 1, by omega, by omega, ?_⟩
     rw [hnx]
     simp [Leq, hT, h1, hcl1, hJ, iL h1]
     done
  ·have : a = E.length := by omega
   subst this
   have hl0 := (ok (aE E) hn).len
   have ha0 := (ok (aE E) hn).at_.lt
   rw [hl0] at ha0
   simp [hl0, ha0, hh, hT]
theorem jH (E : List En) (e : En) : frzOk (ai aK (E ++ [e])).flatten := by cases E <;> exact trivial
theorem jI (E : List Fm) (e : Fm) : frzOk (ai aG (E ++ [e])).flatten := by cases E <;> exact trivial
set_option maxHeartbeats 1000000 in
theorem xh (hr : RegAt lo h j.i R) {n : Nat} (ho : RgOk n R) (hi2 : j.it < h.length) {fv ev : AV} {F : List Fm} {E : List En} (hf : LsV aG 10 h fv F) (he : LsV aK 8 h ev E) (hfe : ∀ q ∈ eT fv, q ∉ eT ev) (hfr : ∀ q ∈ eT fv, q ∉ R.touch j.i) (her : ∀ q ∈ eT ev, q ∉ R.touch j.i)
  (hF : F.length <= 100) (hE : E.length <= 100) (name : List UInt8) (e : En) (hn : n + (aE (E ++ [e])).length <= 1000) :
  Contract Tryz.prog 61 [.agg (cq j), .v (.string (ah name)), fv, ev, .agg (aK e)] h (.tup [.sl 10 (ai aG (F ++ [named j.m name])) none .no, .sl 8 (ai aK (E ++ [e])) none .no]) (bK fv (kk R (bK ev h) (aE (E ++ [e]))).2) (eT fv ++ (eT ev ++ R.touch j.i)) := by
 have hi := hr.i_lt
 have f1 := hf.id
 have f2 := hf.unown
 have f3 := hf.cells
 have e1 := he.id
 have e2 := he.unown
 have e3 := he.cells
 refine aF (XCode.cuts [false, false, false, true, false, true] c61.code) QA rfl mixed (by simp [c61]) fun hh hargs => ?_
 have hJ := iT (j := j) (n := h.length + 3) (by omega) (by omega)
 have hnm : ∀ m : Fm, (aG m).set 2 (.v (.string (ah name))) = aG (named m name) := fun _ => rfl
 have hkl := cW ev h
 have hr1 : RegAt lo (bK ev h) j.i R := hr.keep0 (fun q hq => dt fun hq2 => her q hq2 hq) (by rw [hkl]; exact eu hr.lt)
 simp at hargs
 obtain ⟨E', hE'⟩ : ∃ E', E ++ [e] = E' := ⟨_, rfl⟩
 obtain ⟨F', hF'⟩ : ∃ F', F ++ [named j.m name] = F' := ⟨_, rfl⟩
 have hEl : E'.length = E.length + 1 := by rw [<- hE']; simp
 have hFl : F'.length = F.length + 1 := by rw [<- hF']; simp
 have zE := jb (c := aK) (k := 8) (fun _ => rfl) E' (h.length + 3) (E.length + 1) (by rw [hEl])
 have zF := jb (c := aG) (k := 10) (fun _ => rfl) F' (h.length + 3) (F.length + 1) (by rw [hFl])
 have kE : frzOk (ai aK E').flatten := by rw [<- hE']; exact jH E e
 have kF : frzOk (ai aG F').flatten := by rw [<- hF']; exact jI F _
 have lE := fun m => enE.flat_lt m E'
 have lF := fun m => fmE.flat_lt m F'
 rw [hE'] at hn ⊢
 rw [hF']
 simp [c61, f1, f2, f3, e1, e2, e3, hnm, -vm]
 have l3 := fun x => eu (v := x) (al (Q3 h.length 3) hh)
 refine qj (h.length + 3) (ai aK E').flatten ⟨[(2, fv), (3, .sl 8 (ai aK E') none .no), (5, .box h.length 0), (12, .box (h.length + 2) 0)], [], bK ev h ++ [cq j, aK e, aG (named j.m name)], eT ev⟩ (by show h.length <= _; omega) kE ?_ ?_
 ·simp
  refine bg (L := E) (bytes := 144) enE (he.app [cq j, aK e, aG (named j.m name)]) e (by omega) (by omega) ?_
  rw [hE', mV he.bl]
  generalize hX : bK ev h = X at *
  have l4 := al (Q3 h.length 3) (show aw h.length X from by rw [<- hX]; exact eu hh)
  simp [e1, e2, f1, f2, f3, hkl]
  have t3 : (X ++ [cq j, aK e, aG (named j.m name), []]).take (h.length + 3) = X ++ [cq j, aK e, aG (named j.m name)] := by
   rw [<- hkl, Rl, Q6 (by omega), show X.length + 3 - X.length = 3 by omega]; rfl
  simp [Leq, hkl, zE, lE, l4, hJ, f1, t3, hf.frz (show h.length <= h.length + 3 by omega), hf.ltV fmE.lt (show h.length <= h.length + 3 by omega), ag]
  exact fun q hq _ => by
   rcases hq with hq | hq
   ·exact hq
   ·omega
 ·generalize hX : bK ev h = X at *
  have g0 : ∀ a b c : List AV, (X ++ [a, b, c])[h.length]? = some a := fun a b c => by rw [<- hkl, Q2 (Ri _)]; simp
  have g2 : ∀ a b c : List AV, (X ++ [a, b, c])[h.length + 2]? = some c := fun a b c => by rw [<- hkl, Q2 (by omega)]; simp
  have hr3 := hr1.app [cq j, aK e, aG (named j.m name)] (by rw [hkl]; simp [hJ])
  have hrf := zo hr3 ho E' (by omega) hn (by simp; omega)
  rw [CS hr1 ho _ _ hn] at hrf
  have hok := s8 (aE E') hr1 ho hn
  have hYl := hok.len
  have hYt := hok.at_.lt
  have hYg := hok.get
  simp [g0]
  refine aa (by simp) hrf ?_
  generalize hY : (kk R X (aE E')).2 = Y at *
  have k0 : ∀ a b c : List AV, (Y ++ [a, b, c])[h.length + 2]? = some c := fun a b c => by rw [<- hkl, <- hYl, Q2 (by omega)]; simp
  have hfY : LsV aG 10 Y fv F := hf.keep fun q hq => by rw [hYg q (hfr q hq), <- hX]; exact dt (hfe q hq)
  simp [f1, f2, f3, k0]
  refine qj (h.length + 3) (ai aG F').flatten ⟨[(10, .sl 10 (ai aG F') none .no), (11, .sl 8 (ai aK E') none .no)], [], bK fv Y, eT fv ++ (R.touch j.i ++ eT ev)⟩ (by show h.length <= _; omega) kF ?_ ?_
  ·simp [f1, f2, f3, k0]
   refine bg (L := F) (bytes := 160) fmE (hfY.app [cq j, aK e, aG (named j.m name)]) (named j.m name) (by omega) (by omega) ?_
   rw [hF', mV hfY.bl]
   have hZl : (bK fv Y).length = h.length := by rw [cW, hYl, hkl]
   have l5 : aw h.length (bK fv Y) := eu (by rw [hYl, hkl] at hYt; exact hYt)
   generalize bK fv Y = Z at *
   simp [hZl, hYl, hkl]
   simp [Leq, hZl, zF, lF, l5]
   exact fun _ hq _ => hq
  ·have hZl : (bK fv Y).length = h.length := by rw [cW, hYl, hkl]
   have l5 : aw h.length (bK fv Y) := eu (by rw [hYl, hkl] at hYt; exact hYt)
   have t0 : (bK fv Y).take h.length = bK fv Y := Q6 (by omega)
   simp [hh, hZl, l5, t0, ag]
   exact fun q hq _ => by
    rcases hq with hq | hq | hq
    ·exact .inl hq
    ·exact .inr (.inr hq)
    ·exact .inr (.inl hq)
end
structure RdyV (h : List (List AV)) (fv ev : AV) (xs : List (List AV)) (F : List Fm) (E : List En) : Prop where
 f : LsV aG 10 (h ++ xs) fv F
 e : LsV aK 8 (h ++ xs) ev E
 kf : ∀ q ∈ eT fv, h.length <= q /\ q ∉ eT ev
 ke : ∀ q ∈ eT ev, h.length <= q
 lt : aw (h.length + xs.length) xs
 plain : ∀ x ∈ xs, ∀ c ∈ x, c.idOf = none
set_option maxHeartbeats 2000000 in
theorem x6 (spec : List Int) (hl : spec.length <= 1000000) (most id : Int) (s : Sm) (hs : s.oids.length <= 1000000) (h : List (List AV)) :
  ∃ fv ev xs, Contract Tryz.prog 66 [.sl 1 (ai ao spec) none .no, .v (.int .i64 most), .v (.int .i64 id), .agg (db s)] h (.tup [fv, ev]) (h ++ xs) [] /\ RdyV h fv ev xs (ba spec most id s) (aI spec most id) := by
 by_cases hm : id ∈ spec
 ·have e1 : ba spec most id s = [] := by unfold ba; rw [if_pos (by simpa using hm)]
  have e2 : aI spec most id = [] := by unfold aI; rw [if_pos (by simpa using hm)]
  rw [e1, e2]
  refine ⟨_, _, [], ?_, gu _ _ _, gu _ _ _, fun q hq => by simp [eT] at hq, fun q hq => by simp [eT] at hq, by simp, by simp⟩
  rw [Rc]
  refine ab PD mixed (by simp [c66]) fun hh hargs => ?_
  simp [c66]
  refine aa (by simp) (sD hl id) ?_
  simp [hm, hh, ac]
  done
 have e1 : ba spec most id s = cA spec most ++ [cc (an id) s] := by unfold ba; rw [if_neg (by simpa using hm)]
 have e2 : aI spec most id = roomE spec most ++ [cL 2 ⟨1, id⟩] := by unfold aI; rw [if_neg (by simpa using hm)]
 have hrf := gX spec most
 rw [e1, e2]
 have hroom := wJ spec hl most (h ++ [db s])
 generalize cA spec most = F0 at *
 generalize roomE spec most = E0 at *
 obtain ⟨F, hF⟩ : ∃ F, F0 ++ [cc (an id) s] = F := ⟨_, rfl⟩
 obtain ⟨E, hE⟩ : ∃ E, E0 ++ [cL 2 ⟨1, id⟩] = E := ⟨_, rfl⟩
 rw [hF, hE]
 have hFl : F.length = F0.length + 1 := by rw [<- hF]; simp
 have hEl : E.length = E0.length + 1 := by rw [<- hE]; simp
 have hF0 : F0.length <= 1 := hrf.2.2.1
 have hE0 : E0.length <= 1 := by rw [hrf.2.2.2]; exact hF0
 have lF0 := fun x => gA aG 10 x F0
 have lE0 := fun x => gA aK 8 x E0
 have f1 := (lF0 h).1.id
 have f2 := (lF0 h).1.unown
 have f3 := (lF0 h).1.cells
 have e1 := (lE0 h).1.id
 have e2 := (lE0 h).1.unown
 have e3 := (lE0 h).1.cells
 have f4 := fun m => (lF0 []).1.ltV fmE.lt (Rd m)
 have e4 := fun m => (lE0 []).1.ltV enE.lt (Rd m)
 generalize fm 10 aG F0 = fv at *
 generalize fm 8 aK E0 = ev at *
 have lF := fun m => fmE.flat_lt m F
 have lE := fun m => enE.flat_lt m E
 have hen : aK (cL 2 ⟨1, id⟩) = [.v (.int .i64 2), .v (.bool true), .v (.string (ah [])), .v (.string (ah [])), .sl 3 [] none .no, .sl 3 [] none .no, .sl 2 [jg ⟨1, id⟩] none .no, .sl 1 [] none .no] := rfl
 refine ⟨.bsl (h.length + 2) 0 10 F.length, .bsl (h.length + 3) 0 8 E.length, [db s, aK (cL 2 ⟨1, id⟩), (ai aG F).flatten, (ai aK E).flatten], ?_, n9 (by simp) (fun e => by rw [e] at hFl; simp at hFl), n9 (by simp) (fun e => by rw [e] at hEl; simp at hEl), fun q hq => ?_, fun q hq => ?_, by simp [lF, lE], fun x hx => ?_⟩
 ·refine aF (XCode.cuts [false, false, false, true] c66.code) PD rfl mixed (by simp [c66]) fun hh hargs => ?_
  have hh2 := al (Q3 h.length 2) hh
  simp [c66]
  refine aa (by simp) (sD hl id) ?_
  simp [hm]
  refine aa (by simp) hroom ?_
  simp [f1, f2, f3, e1, e2, e3]
  refine aU ⟨[(2, .v (.int .i64 id)), (7, .box h.length 0), (10, fv), (11, ev), (12, .box (h.length + 1) 0)], [], h ++ [db s, aK (cL 2 ⟨1, id⟩)], []⟩ ?_ ?_
  ·simp
   refine aj (tA 2 [⟨1, id⟩] _) (by simp [jg]) (by simp) ?_
   simp [f1, f2, f3, e1, e2, e3, Leq, hh2, f4, e4, ag, cL]
   done
  simp [f1, f2, f3, e1, e2, e3]
  refine ⟨?_, ?_⟩
  ·refine aa (by simp) (dn id _) ?_
   simp [f1, f2, f3, e1, e2, e3]
   refine ⟨?_, ?_⟩
   ·refine aa (by simp) (pz _ s hs _) ?_
    simp [f1, f2, f3, e1, e2, e3]
    refine ⟨⟨?_, ?_⟩, ?_⟩
    ·refine bg (L := F0) (bytes := 160) fmE (lF0 _).1 (cc (an id) s) (by omega) (by omega) ?_
     rw [(lF0 h).2.2, (lF0 h).2.1, hF]
     simp [f1, f2, f3, e1, e2, e3]
     refine bg (L := E0) (bytes := 144) enE (lE0 _).1 (cL 2 ⟨1, id⟩) (by omega) (by omega) ?_
     rw [(lE0 h).2.2, (lE0 h).2.1, hE]
     simp [hh, f1, f2, f3, e1, e2, e3, lF, lE, ag, hEl, hFl]
     done
    ·refine bg (L := F0) (bytes := 160) fmE (lF0 _).1 (cc (an id) s) (by omega) (by omega) ?_
     rw [(lF0 h).2.2, (lF0 h).2.1, hF]
     simp [f1, f2, f3, e1, e2, e3]
     refine bg (L := E0) (bytes := 144) enE (lE0 _).1 (cL 2 ⟨1, id⟩) (by omega) (by omega) ?_
     rw [(lE0 h).2.2, (lE0 h).2.1, hE]
     simp [hh, f1, f2, f3, e1, e2, e3, lF, lE, ag, hEl, hFl]
     done
    ·refine bg (L := F0) (bytes := 160) fmE (lF0 _).1 (cc (an id) s) (by omega) (by omega) ?_
     rw [(lF0 h).2.2, (lF0 h).2.1, hF]
     simp [f1, f2, f3, e1, e2, e3]
     refine bg (L := E0) (bytes := 144) enE (lE0 _).1 (cL 2 ⟨1, id⟩) (by omega) (by omega) ?_
     rw [(lE0 h).2.2, (lE0 h).2.1, hE]
     simp [hh, f1, f2, f3, e1, e2, e3, lF, lE, ag, hEl, hFl]
     done
   ·refine aa (by simp) (pz _ s hs _) ?_
    simp [f1, f2, f3, e1, e2, e3]
    refine bg (L := F0) (bytes := 160) fmE (lF0 _).1 (cc (an id) s) (by omega) (by omega) ?_
    rw [(lF0 h).2.2, (lF0 h).2.1, hF]
    simp [f1, f2, f3, e1, e2, e3]
    refine bg (L := E0) (bytes := 144) enE (lE0 _).1 (cL 2 ⟨1, id⟩) (by omega) (by omega) ?_
    rw [(lE0 h).2.2, (lE0 h).2.1, hE]
    simp [hh, f1, f2, f3, e1, e2, e3, lF, lE, ag, hEl, hFl]
    done
  ·refine aa (by simp) (dn id _) ?_
   simp [f1, f2, f3, e1, e2, e3]
   refine aa (by simp) (pz _ s hs _) ?_
   simp [f1, f2, f3, e1, e2, e3]
   refine bg (L := F0) (bytes := 160) fmE (lF0 _).1 (cc (an id) s) (by omega) (by omega) ?_
   rw [(lF0 h).2.2, (lF0 h).2.1, hF]
   simp [f1, f2, f3, e1, e2, e3]
   refine bg (L := E0) (bytes := 144) enE (lE0 _).1 (cL 2 ⟨1, id⟩) (by omega) (by omega) ?_
   rw [(lE0 h).2.2, (lE0 h).2.1, hE]
   simp [hh, f1, f2, f3, e1, e2, e3, lF, lE, ag, hEl, hFl]
   done
 ·simp [eT] at hq ⊢; omega
 ·simp [eT] at hq ⊢; omega
 ·simp at hx
  rcases hx with rfl | rfl | rfl | rfl
  ·intro c hc; simp [aR] at hc; rcases hc with rfl | rfl <;> rfl
  ·exact cx _
  ·exact fmE.flat_plain F
  ·exact enE.flat_plain E
set_option maxHeartbeats 2000000 in
theorem vI (spec : List Int) (hl : spec.length <= 1000000) (most id : Int) (s : Sm) (hs : s.oids.length <= 1000000) (h : List (List AV)) :
  ∃ fv ev xs, Contract Tryz.prog 76 [.sl 1 (ai ao spec) none .no, .v (.int .i64 most), .v (.int .i64 id), .agg (db s)] h (.tup [fv, ev]) (h ++ xs) [] /\ RdyV h fv ev xs (ba spec most id s) (aI spec most id) := by
 by_cases hm : id ∈ spec
 ·have e1 : ba spec most id s = [] := by unfold ba; rw [if_pos (by simpa using hm)]
  have e2 : aI spec most id = [] := by unfold aI; rw [if_pos (by simpa using hm)]
  rw [e1, e2]
  refine ⟨_, _, [], ?_, gu _ _ _, gu _ _ _, fun q hq => by simp [eT] at hq, fun q hq => by simp [eT] at hq, by simp, by simp⟩
  rw [Rc]
  refine ab PC mixed (by simp [c76]) fun hh hargs => ?_
  simp [c76]
  refine aa (by simp) (nY hl id) ?_
  simp [hm, hh, ac]
  done
 have e1 : ba spec most id s = cA spec most ++ [cc (an id) s] := by unfold ba; rw [if_neg (by simpa using hm)]
 have e2 : aI spec most id = roomE spec most ++ [cL 2 ⟨1, id⟩] := by unfold aI; rw [if_neg (by simpa using hm)]
 have hrf := gX spec most
 rw [e1, e2]
 have hroom := tw spec hl most (h ++ [db s])
 generalize cA spec most = F0 at *
 generalize roomE spec most = E0 at *
 obtain ⟨F, hF⟩ : ∃ F, F0 ++ [cc (an id) s] = F := ⟨_, rfl⟩
 obtain ⟨E, hE⟩ : ∃ E, E0 ++ [cL 2 ⟨1, id⟩] = E := ⟨_, rfl⟩
 rw [hF, hE]
 have hFl : F.length = F0.length + 1 := by rw [<- hF]; simp
 have hEl : E.length = E0.length + 1 := by rw [<- hE]; simp
 have hF0 : F0.length <= 1 := hrf.2.2.1
 have hE0 : E0.length <= 1 := by rw [hrf.2.2.2]; exact hF0
 have lF0 := fun x => gA aG 10 x F0
 have lE0 := fun x => gA aK 8 x E0
 have f1 := (lF0 h).1.id
 have f2 := (lF0 h).1.unown
 have f3 := (lF0 h).1.cells
 have e1 := (lE0 h).1.id
 have e2 := (lE0 h).1.unown
 have e3 := (lE0 h).1.cells
 have f4 := fun m => (lF0 []).1.ltV fmE.lt (Rd m)
 have e4 := fun m => (lE0 []).1.ltV enE.lt (Rd m)
 generalize fm 10 aG F0 = fv at *
 generalize fm 8 aK E0 = ev at *
 have lF := fun m => fmE.flat_lt m F
 have lE := fun m => enE.flat_lt m E
 have hen : aK (cL 2 ⟨1, id⟩) = [.v (.int .i64 2), .v (.bool true), .v (.string (ah [])), .v (.string (ah [])), .sl 3 [] none .no, .sl 3 [] none .no, .sl 2 [jg ⟨1, id⟩] none .no, .sl 1 [] none .no] := rfl
 refine ⟨.bsl (h.length + 2) 0 10 F.length, .bsl (h.length + 3) 0 8 E.length, [db s, aK (cL 2 ⟨1, id⟩), (ai aG F).flatten, (ai aK E).flatten], ?_, n9 (by simp) (fun e => by rw [e] at hFl; simp at hFl), n9 (by simp) (fun e => by rw [e] at hEl; simp at hEl), fun q hq => ?_, fun q hq => ?_, by simp [lF, lE], fun x hx => ?_⟩
 ·refine aF (XCode.cuts [false, false, false, true] c76.code) PC rfl mixed (by simp [c76]) fun hh hargs => ?_
  have hh2 := al (Q3 h.length 2) hh
  simp [c76]
  refine aa (by simp) (nY hl id) ?_
  simp [hm]
  refine aa (by simp) hroom ?_
  simp [f1, f2, f3, e1, e2, e3]
  refine aU ⟨[(2, .v (.int .i64 id)), (7, .box h.length 0), (10, fv), (11, ev), (12, .box (h.length + 1) 0)], [], h ++ [db s, aK (cL 2 ⟨1, id⟩)], []⟩ ?_ ?_
  ·simp [f1, f2, f3, e1, e2, e3, Leq, hh2, f4, e4, ag, hen, jg]
   refine dd h 0 ⟨.inl rfl, .inr ?_, trivial⟩
   simp [dC, LeqV]
   done
  simp [f1, f2, f3, e1, e2, e3]
  refine ⟨?_, ?_⟩
  ·refine aa (by simp) (dw id _) ?_
   simp [f1, f2, f3, e1, e2, e3]
   refine ⟨?_, ?_⟩
   ·refine aa (by simp) (mC _ s hs _) ?_
    simp [f1, f2, f3, e1, e2, e3]
    refine ⟨⟨?_, ?_⟩, ?_⟩
    ·refine bg (L := F0) (bytes := 160) fmE (lF0 _).1 (cc (an id) s) (by omega) (by omega) ?_
     rw [(lF0 h).2.2, (lF0 h).2.1, hF]
     simp [f1, f2, f3, e1, e2, e3]
     refine bg (L := E0) (bytes := 144) enE (lE0 _).1 (cL 2 ⟨1, id⟩) (by omega) (by omega) ?_
     rw [(lE0 h).2.2, (lE0 h).2.1, hE]
     simp [hh, f1, f2, f3, e1, e2, e3, lF, lE, ag, hEl, hFl]
     done
    ·refine bg (L := F0) (bytes := 160) fmE (lF0 _).1 (cc (an id) s) (by omega) (by omega) ?_
     rw [(lF0 h).2.2, (lF0 h).2.1, hF]
     simp [f1, f2, f3, e1, e2, e3]
     refine bg (L := E0) (bytes := 144) enE (lE0 _).1 (cL 2 ⟨1, id⟩) (by omega) (by omega) ?_
     rw [(lE0 h).2.2, (lE0 h).2.1, hE]
     simp [hh, f1, f2, f3, e1, e2, e3, lF, lE, ag, hEl, hFl]
     done
    ·refine bg (L := F0) (bytes := 160) fmE (lF0 _).1 (cc (an id) s) (by omega) (by omega) ?_
     rw [(lF0 h).2.2, (lF0 h).2.1, hF]
     simp [f1, f2, f3, e1, e2, e3]
     refine bg (L := E0) (bytes := 144) enE (lE0 _).1 (cL 2 ⟨1, id⟩) (by omega) (by omega) ?_
     rw [(lE0 h).2.2, (lE0 h).2.1, hE]
     simp [hh, f1, f2, f3, e1, e2, e3, lF, lE, ag, hEl, hFl]
     done
   ·refine aa (by simp) (mC _ s hs _) ?_
    simp [f1, f2, f3, e1, e2, e3]
    refine bg (L := F0) (bytes := 160) fmE (lF0 _).1 (cc (an id) s) (by omega) (by omega) ?_
    rw [(lF0 h).2.2, (lF0 h).2.1, hF]
    simp [f1, f2, f3, e1, e2, e3]
    refine bg (L := E0) (bytes := 144) enE (lE0 _).1 (cL 2 ⟨1, id⟩) (by omega) (by omega) ?_
    rw [(lE0 h).2.2, (lE0 h).2.1, hE]
    simp [hh, f1, f2, f3, e1, e2, e3, lF, lE, ag, hEl, hFl]
    done
  ·refine aa (by simp) (dw id _) ?_
   simp [f1, f2, f3, e1, e2, e3]
   refine aa (by simp) (mC _ s hs _) ?_
   simp [f1, f2, f3, e1, e2, e3]
   refine bg (L := F0) (bytes := 160) fmE (lF0 _).1 (cc (an id) s) (by omega) (by omega) ?_
   rw [(lF0 h).2.2, (lF0 h).2.1, hF]
   simp [f1, f2, f3, e1, e2, e3]
   refine bg (L := E0) (bytes := 144) enE (lE0 _).1 (cL 2 ⟨1, id⟩) (by omega) (by omega) ?_
   rw [(lE0 h).2.2, (lE0 h).2.1, hE]
   simp [hh, f1, f2, f3, e1, e2, e3, lF, lE, ag, hEl, hFl]
   done
 ·simp [eT] at hq ⊢; omega
 ·simp [eT] at hq ⊢; omega
 ·simp at hx
  rcases hx with rfl | rfl | rfl | rfl
  ·intro c hc; simp [aR] at hc; rcases hc with rfl | rfl <;> rfl
  ·exact cx _
  ·exact fmE.flat_plain F
  ·exact enE.flat_plain E
end Go.Proofs.YtdfgljojemmlcaaGreat.Ax
