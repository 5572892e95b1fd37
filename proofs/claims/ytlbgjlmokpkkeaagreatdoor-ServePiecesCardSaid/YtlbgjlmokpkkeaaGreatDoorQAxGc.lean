import Derived.Test.YtlbgjlmokpkkeaaGreatDoorQAxGb
set_option linter.all false
set_option maxRecDepth 10000
namespace Go.Proofs.YtlbgjlmokpkkeaaGreatDoor
namespace Ax
open Go.RowKit Go By
def VC:XFun:=⟨71,.seq (.ops [oJ 1 0,oZ 2 dA,oK 3 (.int .i64 0)]) (.seq (.seq (.ops [oP 6 10 1,oC 7 38 [6],oA 4 7]) (.seq (.ops [oM 8 4,oI 9 .neq 8 (.int .i64 0)]) (.cond (.tmp 9) (.seq (.ops [oX 10 (.build dA []),oM 11 4,oS 2 2 10,oA 3 11]) .ret) .skip))) (.seq (.ops [oN 5]) (.seq (.seq (.ops [oF 12 0 1,oL 13 12]) (.block 0 (.seq (.ops [oI 15 .eql 13 (.int .u8 80),oA 14 15]) (.cond (.tmp 14) (.draws (.take (oF 16 2 1) (.take (oL 17 16) (.take (oF 19 4 1) (.take (oL 20 19) (.take (oF 22 5 1) (.take (oL 23 22) (.only (oX 18 (.call 40 [.const (.slice none 0 0),.tmp 17])) (.only (oC 21 40 [18,20]) (.only (oX 24 (.call 39 [.tmp 21,.tmp 23,.const (.int .i64 4)])) (.take (oA 5 24) .done))))))))))) (.seq (.ops [oI 26 .eql 13 (.int .u8 66),oA 25 26]) (.cond (.tmp 25) (.draws (.take (oF 27 3 1) (.take (oL 28 27) (.take (oF 30 2 1) (.take (oL 31 30) (.take (oF 33 6 1) (.take (oL 34 33) (.take (oF 36 8 1) (.take (oL 37 36) (.take (oF 39 7 1) (.take (oL 40 39) (.only (oX 29 (.call 40 [.const (.slice none 0 0),.tmp 28])) (.only (oC 32 40 [29,31]) (.only (oX 35 (.call 39 [.tmp 32,.tmp 34,.const (.int .i64 2)])) (.only (oC 38 41 [35,37]) (.only (oX 41 (.call 39 [.tmp 38,.tmp 40,.const (.int .i64 2)])) (.take (oA 5 41) .done))))))))))))))))) (.seq (.seq (.ops [oI 43 .eql 13 (.int .u8 67),oA 42 43]) (.cond (.tmp 42) .skip (.ops [oI 44 .eql 13 (.int .u8 68),oA 42 44]))) (.cond (.tmp 42) (.ops [oF 45 1 1,oL 46 45,oR 47 1 1 46 ky,oF 48 2 1,oL 49 48,oF 50 3 1,oL 51 50,oB 52 .add 49 51,oC 53 40 [47,52],oA 5 53]) (.seq (.ops [oI 55 .eql 13 (.int .u8 69),oA 54 55]) (.cond (.tmp 54) (.draws (.take (oF 56 3 1) (.take (oL 57 56) (.take (oF 59 9 1) (.take (oL 60 59) (.only (oX 58 (.call 40 [.const (.slice none 0 0),.tmp 57])) (.only (oX 61 (.call 37 [.tmp 58,.tmp 60,.const (.int .i64 4)])) (.take (oA 5 61) .done)))))))) (.seq (.ops [oI 63 .eql 13 (.int .u8 81),oA 62 63]) (.cond (.tmp 62) (.ops [oF 64 4 1,oL 65 64,oX 66 (.call 40 [.const (.slice none 0 0),.tmp 65]),oA 5 66]) .skip)))))))))))) (.seq (.ops [oF 67 0 1,oL 68 67,oM 69 5,oX 70 (.build dA [(0,1,.tmp 68),(1,1,.tmp 69)]),oS 2 2 70,oK 3 (.int .i64 0)]) .ret)))),[.loadN 2 (.tmp 2),.move (.tmp 3)]⟩
theorem Zq:aj Tryz.prog 22=some VC:=by kernel_rfl
def c38:XFun:=⟨97,.seq (.ops [oJ 1 0,oK 2 (.int .i64 0)]) (.seq (.seq (.ops [oF 6 0 1,oL 7 6,oC 8 57 [7],oI 9 .neq 8 (.int .i64 1)]) (.cond (.tmp 9) (.seq (.ops [oK 2 (.int .i64 9)]) .ret) .skip)) (.seq (.ops [oF 10 2 1,oL 11 10,oC 12 54 [11],oM 13 12,oG 13 true (oF 14 3 1),oG 13 true (oL 15 14),oG 13 true (oC 16 54 [15]),oT 17 13 16,oM 18 17,oG 18 true (oF 19 4 1),oG 18 true (oL 20 19),oG 18 true (oC 21 54 [20]),oT 22 18 21,oA 3 22]) (.seq (.ops [oF 23 5 1,oL 24 23,oX 25 (.call 58 [.tmp 24,.const (.int .i64 0),.const (.int .i64 4294967295)]),oM 26 25,oG 26 true (oF 27 6 1),oG 26 true (oL 28 27),oG 26 true (oX 29 (.call 58 [.tmp 28,.const (.int .i64 0),.const (.int .i64 65535)])),oT 30 26 29,oM 31 30,oG 31 true (oF 32 7 1),oG 31 true (oL 33 32),oG 31 true (oX 34 (.call 58 [.tmp 33,.const (.int .i64 0),.const (.int .i64 65535)])),oT 35 31 34,oM 36 35,oG 36 true (oF 37 8 1),oG 36 true (oL 38 37),oG 36 true (oC 39 59 [38]),oT 40 36 39,oA 4 40]) (.seq (.ops [oF 41 1 1,oL 42 41,oI 43 .eql 42 (.int .u8 0),oM 44 43,oG 44 false (oF 45 1 1),oG 44 false (oL 46 45),oG 44 false (oI 47 .eql 46 (.int .u8 83)),oU 48 44 47,oM 49 48,oG 49 false (oF 50 1 1),oG 49 false (oL 51 50),oG 49 false (oI 52 .eql 51 (.int .u8 80)),oU 53 49 52,oA 5 53]) (.seq (.seq (.ops [oF 54 0 1,oL 55 54,oI 56 .eql 55 (.int .u8 67),oM 57 56,oG 57 false (oF 58 0 1),oG 57 false (oL 59 58),oG 57 false (oI 60 .eql 59 (.int .u8 68)),oU 61 57 60]) (.cond (.tmp 61) (.ops [oF 62 1 1,oL 63 62,oI 64 .eql 63 (.int .u8 83),oM 65 64,oG 65 false (oF 66 1 1),oG 65 false (oL 67 66),oG 65 false (oI 68 .eql 67 (.int .u8 80)),oU 69 65 68,oA 5 69]) .skip)) (.seq (.seq (.draws (.take (oM 70 3) (.take (oV 71 70) (.take (oM 72 71) (.take (oG 72 false (oM 73 4)) (.take (oG 72 false (oV 74 73)) (.take (oU 75 72 74) (.take (oM 76 75) (.take (oG 76 false (oM 77 5)) (.take (oG 76 false (oV 78 77)) (.take (oU 79 76 78) (.take (oM 80 79) (.take (oG 80 false (oF 81 9 1)) (.take (oG 80 false (oL 82 81)) (.take (oG 80 false (oI 83 .lss 82 (.int .i64 (-2147483648)))) (.take (oU 84 80 83) (.take (oM 85 84) (.take (oG 85 false (oF 86 9 1)) (.take (oG 85 false (oL 87 86)) (.take (oG 85 false (oI 88 .gtr 87 (.int .i64 2147483647))) (.take (oU 89 85 88) (.take (oM 90 89) (.take (oG 90 false (oP 91 10 1)) (.take (oG 90 false (oP 92 10 1)) (.only (oG 90 false (oC 93 61 [92])) (.only (oG 90 false (oC 94 60 [91,93])) (.take (oG 90 false (oV 95 94)) (.take (oU 96 90 95) .done)))))))))))))))))))))))))))) (.cond (.tmp 96) (.seq (.ops [oK 2 (.int .i64 1)]) .ret) .skip)) (.seq (.ops [oK 2 (.int .i64 0)]) .ret))))))),[.move (.tmp 2)]⟩
theorem ZC:aj Tryz.prog 38=some c38:=by kernel_rfl
def JS:XFun:=⟨75,.seq (.ops [oJ 2 0,oJ 3 1,oK 4 (.bool false)]) (.seq (.ops [oF 6 0 2,oL 7 6,oF 8 0 3,oL 9 8,oB 10 .eql 7 9,oM 11 10,oG 11 true (oF 12 1 2),oG 11 true (oL 13 12),oG 11 true (oF 14 1 3),oG 11 true (oL 15 14),oG 11 true (oB 16 .eql 13 15),oT 17 11 16,oM 18 17,oG 18 true (oF 19 2 2),oG 18 true (oL 20 19),oG 18 true (oF 21 2 3),oG 18 true (oL 22 21),oG 18 true (oB 23 .eql 20 22),oT 24 18 23,oM 25 24,oG 25 true (oF 26 3 2),oG 25 true (oL 27 26),oG 25 true (oF 28 3 3),oG 25 true (oL 29 28),oG 25 true (oB 30 .eql 27 29),oT 31 25 30,oM 32 31,oG 32 true (oF 33 4 2),oG 32 true (oL 34 33),oG 32 true (oF 35 4 3),oG 32 true (oL 36 35),oG 32 true (oB 37 .eql 34 36),oT 38 32 37,oM 39 38,oG 39 true (oF 40 9 2),oG 39 true (oL 41 40),oG 39 true (oF 42 9 3),oG 39 true (oL 43 42),oG 39 true (oB 44 .eql 41 43),oT 45 39 44,oA 5 45]) (.seq (.ops [oM 46 5,oM 47 46,oG 47 true (oF 48 5 2),oG 47 true (oL 49 48),oG 47 true (oF 50 5 3),oG 47 true (oL 51 50),oG 47 true (oC 52 82 [49,51]),oT 53 47 52,oM 54 53,oG 54 true (oF 55 6 2),oG 54 true (oL 56 55),oG 54 true (oF 57 6 3),oG 54 true (oL 58 57),oG 54 true (oC 59 82 [56,58]),oT 60 54 59,oM 61 60,oG 61 true (oF 62 7 2),oG 61 true (oL 63 62),oG 61 true (oF 64 7 3),oG 61 true (oL 65 64),oG 61 true (oC 66 82 [63,65]),oT 67 61 66,oM 68 67,oG 68 true (oF 69 8 2),oG 68 true (oL 70 69),oG 68 true (oF 71 8 3),oG 68 true (oL 72 71),oG 68 true (oC 73 83 [70,72]),oT 74 68 73,oA 4 74]) .ret)),[.move (.tmp 4)]⟩
theorem ZS:aj Tryz.prog 60=some JS:=by kernel_rfl
def xF:XFun:=⟨20,.seq (.ops [oK 2 (.int .i64 0)]) (.seq (.seq (.ops [oM 3 0]) (.block 0 (.seq (.seq (.ops [oI 5 .eql 3 (.int .u8 66),oA 4 5]) (.cond (.tmp 4) .skip (.seq (.ops [oI 6 .eql 3 (.int .u8 67),oA 4 6]) (.cond (.tmp 4) .skip (.seq (.ops [oI 7 .eql 3 (.int .u8 68),oA 4 7]) (.cond (.tmp 4) .skip (.seq (.ops [oI 8 .eql 3 (.int .u8 69),oA 4 8]) (.cond (.tmp 4) .skip (.seq (.ops [oI 9 .eql 3 (.int .u8 72),oA 4 9]) (.cond (.tmp 4) .skip (.seq (.ops [oI 10 .eql 3 (.int .u8 80),oA 4 10]) (.cond (.tmp 4) .skip (.seq (.ops [oI 11 .eql 3 (.int .u8 81),oA 4 11]) (.cond (.tmp 4) .skip (.seq (.ops [oI 12 .eql 3 (.int .u8 83),oA 4 12]) (.cond (.tmp 4) .skip (.ops [oI 13 .eql 3 (.int .u8 88),oA 4 13]))))))))))))))))) (.cond (.tmp 4) (.seq (.ops [oK 2 (.int .i64 1)]) .ret) (.seq (.seq (.ops [oI 15 .eql 3 (.int .u8 70),oA 14 15]) (.cond (.tmp 14) .skip (.seq (.ops [oI 16 .eql 3 (.int .u8 99),oA 14 16]) (.cond (.tmp 14) .skip (.seq (.ops [oI 17 .eql 3 (.int .u8 100),oA 14 17]) (.cond (.tmp 14) .skip (.seq (.ops [oI 18 .eql 3 (.int .u8 102),oA 14 18]) (.cond (.tmp 14) .skip (.ops [oI 19 .eql 3 (.int .u8 112),oA 14 19]))))))))) (.cond (.tmp 14) (.seq (.ops [oK 2 (.int .i64 2)]) .ret) .skip)))))) (.seq (.ops [oK 2 (.int .i64 0)]) .ret)),[.move (.tmp 2)]⟩
theorem ZP:aj Tryz.prog 57=some xF:=by kernel_rfl
def VM:XFun:=⟨26,.seq (.ops [oN 6]) (.seq (.ops [oM 8 0,oM 9 1,oH 10 9,oX 11 (.call 37 [.tmp 8,.tmp 10,.const (.int .i64 2)]),oA 0 11]) (.seq (.seq (.ops [oK 7 (.int .i64 0)]) (.block 0 (.loop (.seq (.seq (.ops [oM 12 7,oM 13 1,oH 14 13,oB 15 .lss 12 14]) (.cond (.tmp 15) .skip (.exit 0))) (.seq (.block 1 (.ops [oM 18 0,oM 19 1,oM 20 7,oW 21 1 19 20,oL 22 21,oM 23 2,oC 24 37 [18,22,23],oA 0 24])) (.ops [oM 16 7,oI 17 .add 16 (.int .i64 1),oA 7 17])))))) (.seq (.ops [oM 25 0,oA 6 25]) .ret))),[.move (.tmp 6)]⟩
theorem ZD:aj Tryz.prog 39=some VM:=by kernel_rfl
def VN:XFun:=⟨10,.seq (.ops [oN 4]) (.seq (.ops [oM 5 0,oM 6 1,oX 7 (.appendS (.tmp 5) (.tmp 6)),oX 8 (.buildSlice 1 1 ky [(0,.const (.int .u8 0))]),oX 9 (.append 1 1 (.tmp 7) (.tmp 8)),oA 4 9]) .ret),[.move (.tmp 4)]⟩
theorem ZE:aj Tryz.prog 40=some VN:=by kernel_rfl
def VO:XFun:=⟨38,.seq (.ops [oN 4]) (.seq (.ops [oM 6 0,oM 7 1,oH 8 7,oX 9 (.call 37 [.tmp 6,.tmp 8,.const (.int .i64 2)]),oA 0 9]) (.seq (.seq (.ops [oK 5 (.int .i64 0)]) (.block 0 (.loop (.seq (.seq (.ops [oM 10 5,oM 11 1,oH 12 11,oB 13 .lss 10 12]) (.cond (.tmp 13) .skip (.exit 0))) (.seq (.block 1 (.seq (.ops [oM 16 1,oM 17 5,oW 18 2 16 17,oF 19 0 18,oL 20 19]) (.cond (.tmp 20) (.ops [oM 21 0,oX 22 (.call 37 [.tmp 21,.const (.int .i64 (-1)),.const (.int .i64 4)]),oA 0 22]) (.draws (.take (oM 23 0) (.take (oM 24 1) (.take (oM 25 5) (.take (oW 26 2 24 25) (.take (oF 27 1 26) (.take (oL 28 27) (.take (oH 29 28) (.take (oM 31 1) (.take (oM 32 5) (.take (oW 33 2 31 32) (.take (oF 34 1 33) (.take (oL 35 34) (.only (oX 30 (.call 37 [.tmp 23,.tmp 29,.const (.int .i64 4)])) (.only (oX 36 (.append 1 1 (.tmp 30) (.tmp 35))) (.take (oA 0 36) .done))))))))))))))))))) (.ops [oM 14 5,oI 15 .add 14 (.int .i64 1),oA 5 15])))))) (.seq (.ops [oM 37 0,oA 4 37]) .ret))),[.move (.tmp 4)]⟩
theorem ZF:aj Tryz.prog 41=some VO:=by kernel_rfl
def Uh:XFun:=⟨31,.seq (.ops [oK 6 (.bool false)]) (.seq (.seq (.ops [oM 8 0,oH 9 8,oI 10 .gtr 9 (.int .i64 65535)]) (.cond (.tmp 10) (.seq (.ops [oK 6 (.bool false)]) .ret) .skip)) (.seq (.seq (.ops [oK 7 (.int .i64 0)]) (.block 0 (.loop (.seq (.seq (.ops [oM 11 7,oM 12 0,oH 13 12,oB 14 .lss 11 13]) (.cond (.tmp 14) .skip (.exit 0))) (.seq (.block 1 (.seq (.ops [oM 17 0,oM 18 7,oW 19 1 17 18,oL 20 19,oM 21 1,oB 22 .lss 20 21,oM 23 22,oG 23 false (oM 24 0),oG 23 false (oM 25 7),oG 23 false (oW 26 1 24 25),oG 23 false (oL 27 26),oG 23 false (oM 28 2),oG 23 false (oB 29 .gtr 27 28),oU 30 23 29]) (.cond (.tmp 30) (.seq (.ops [oK 6 (.bool false)]) .ret) .skip))) (.ops [oM 15 7,oI 16 .add 15 (.int .i64 1),oA 7 16])))))) (.seq (.ops [oK 6 (.bool true)]) .ret))),[.move (.tmp 6)]⟩
theorem ZQ:aj Tryz.prog 58=some Uh:=by kernel_rfl
def Ui:XFun:=⟨36,.seq (.ops [oK 2 (.bool false)]) (.seq (.seq (.ops [oM 4 0,oH 5 4,oI 6 .gtr 5 (.int .i64 65535)]) (.cond (.tmp 6) (.seq (.ops [oK 2 (.bool false)]) .ret) .skip)) (.seq (.seq (.ops [oK 3 (.int .i64 0)]) (.block 0 (.loop (.seq (.seq (.ops [oM 7 3,oM 8 0,oH 9 8,oB 10 .lss 7 9]) (.cond (.tmp 10) .skip (.exit 0))) (.seq (.block 1 (.seq (.ops [oM 13 0,oM 14 3,oW 15 2 13 14,oF 16 0 15,oL 17 16,oM 18 17,oG 18 true (oM 19 0),oG 18 true (oM 20 3),oG 18 true (oW 21 2 19 20),oG 18 true (oF 22 1 21),oG 18 true (oL 23 22),oG 18 true (oH 24 23),oG 18 true (oI 25 .gtr 24 (.int .i64 0)),oT 26 18 25,oM 27 26,oG 27 false (oM 28 0),oG 27 false (oM 29 3),oG 27 false (oW 30 2 28 29),oG 27 false (oF 31 1 30),oG 27 false (oL 32 31),oG 27 false (oH 33 32),oG 27 false (oI 34 .gtr 33 (.int .i64 1048576)),oU 35 27 34]) (.cond (.tmp 35) (.seq (.ops [oK 2 (.bool false)]) .ret) .skip))) (.ops [oM 11 3,oI 12 .add 11 (.int .i64 1),oA 3 12])))))) (.seq (.ops [oK 2 (.bool true)]) .ret))),[.move (.tmp 2)]⟩
theorem ZR:aj Tryz.prog 59=some Ui:=by kernel_rfl
def JT:XFun:=⟨66,.seq (.ops [oJ 1 0,oZ 2 iQ]) (.seq (.ops [oF 4 0 1,oL 5 4,oD 6 0 iQ 5,oZ 3 iQ,oS 10 3 6]) (.seq (.seq (.ops [oF 7 0 1,oL 8 7]) (.block 0 (.seq (.ops [oI 10 .eql 8 (.int .u8 80),oA 9 10]) (.cond (.tmp 9) (.draws (.take (oF 11 2 1) (.take (oL 12 11) (.take (oF 13 4 1) (.take (oL 14 13) (.take (oF 15 5 1) (.take (oL 16 15) (.take (oF 17 2 3) (.only (oS 1 17 12) (.take (oF 18 4 3) (.only (oS 1 18 14) (.take (oF 19 5 3) (.last (oS 1 19 16)))))))))))))) (.seq (.ops [oI 21 .eql 8 (.int .u8 66),oA 20 21]) (.cond (.tmp 20) (.draws (.take (oF 22 3 1) (.take (oL 23 22) (.take (oF 24 2 1) (.take (oL 25 24) (.take (oF 26 6 1) (.take (oL 27 26) (.take (oF 28 8 1) (.take (oL 29 28) (.take (oF 30 7 1) (.take (oL 31 30) (.take (oF 32 3 3) (.only (oS 1 32 23) (.take (oF 33 2 3) (.only (oS 1 33 25) (.take (oF 34 6 3) (.only (oS 1 34 27) (.take (oF 35 8 3) (.only (oS 1 35 29) (.take (oF 36 7 3) (.last (oS 1 36 31)))))))))))))))))))))) (.seq (.seq (.ops [oI 38 .eql 8 (.int .u8 67),oA 37 38]) (.cond (.tmp 37) .skip (.ops [oI 39 .eql 8 (.int .u8 68),oA 37 39]))) (.cond (.tmp 37) (.seq (.ops [oF 40 1 1,oL 41 40,oF 42 1 3,oS 1 42 41]) (.seq (.ops [oF 43 1 1,oL 44 43,oI 45 .eql 44 (.int .u8 83)]) (.cond (.tmp 45) (.ops [oF 46 2 1,oL 47 46,oF 48 2 3,oS 1 48 47]) (.ops [oF 49 3 1,oL 50 49,oF 51 3 3,oS 1 51 50])))) (.seq (.ops [oI 53 .eql 8 (.int .u8 69),oA 52 53]) (.cond (.tmp 52) (.draws (.take (oF 54 3 1) (.take (oL 55 54) (.take (oF 56 9 1) (.take (oL 57 56) (.take (oF 58 3 3) (.only (oS 1 58 55) (.take (oF 59 9 3) (.last (oS 1 59 57)))))))))) (.seq (.ops [oI 61 .eql 8 (.int .u8 81),oA 60 61]) (.cond (.tmp 60) (.ops [oF 62 4 1,oL 63 62,oF 64 4 3,oS 1 64 63]) .skip)))))))))))) (.seq (.ops [oP 65 10 3,oS 10 2 65]) .ret))),[.loadN 10 (.tmp 2)]⟩
theorem ZT:aj Tryz.prog 61=some JT:=by kernel_rfl
def Uk:XFun:=⟨26,.seq (.ops [oK 4 (.bool false)]) (.seq (.seq (.ops [oM 6 0,oH 7 6,oM 8 1,oH 9 8,oB 10 .neq 7 9]) (.cond (.tmp 10) (.seq (.ops [oK 4 (.bool false)]) .ret) .skip)) (.seq (.seq (.ops [oK 5 (.int .i64 0)]) (.block 0 (.loop (.seq (.seq (.ops [oM 11 5,oM 12 0,oH 13 12,oB 14 .lss 11 13]) (.cond (.tmp 14) .skip (.exit 0))) (.seq (.block 1 (.seq (.draws (.take (oM 17 0) (.take (oM 18 5) (.take (oW 19 1 17 18) (.take (oL 20 19) (.take (oM 21 1) (.take (oM 22 5) (.take (oW 23 1 21 22) (.take (oL 24 23) (.take (oB 25 .neq 20 24) .done)))))))))) (.cond (.tmp 25) (.seq (.ops [oK 4 (.bool false)]) .ret) .skip))) (.ops [oM 15 5,oI 16 .add 15 (.int .i64 1),oA 5 16])))))) (.seq (.ops [oK 4 (.bool true)]) .ret))),[.move (.tmp 4)]⟩
theorem Z8:aj Tryz.prog 82=some Uk:=by kernel_rfl
def Ul:XFun:=⟨43,.seq (.ops [oK 4 (.bool false)]) (.seq (.seq (.ops [oM 6 0,oH 7 6,oM 8 1,oH 9 8,oB 10 .neq 7 9]) (.cond (.tmp 10) (.seq (.ops [oK 4 (.bool false)]) .ret) .skip)) (.seq (.seq (.ops [oK 5 (.int .i64 0)]) (.block 0 (.loop (.seq (.seq (.ops [oM 11 5,oM 12 0,oH 13 12,oB 14 .lss 11 13]) (.cond (.tmp 14) .skip (.exit 0))) (.seq (.block 1 (.seq (.draws (.take (oM 17 0) (.take (oM 18 5) (.take (oW 19 2 17 18) (.take (oF 20 0 19) (.take (oL 21 20) (.take (oM 22 1) (.take (oM 23 5) (.take (oW 24 2 22 23) (.take (oF 25 0 24) (.take (oL 26 25) (.take (oX 27 (.beq true (.tmp 21) (.tmp 26))) (.take (oM 28 27) (.take (oG 28 false (oM 29 0)) (.take (oG 28 false (oM 30 5)) (.take (oG 28 false (oW 31 2 29 30)) (.take (oG 28 false (oF 32 1 31)) (.take (oG 28 false (oL 33 32)) (.take (oG 28 false (oX 34 (.b2s (.tmp 33)))) (.take (oG 28 false (oM 35 1)) (.take (oG 28 false (oM 36 5)) (.take (oG 28 false (oW 37 2 35 36)) (.take (oG 28 false (oF 38 1 37)) (.take (oG 28 false (oL 39 38)) (.take (oG 28 false (oX 40 (.b2s (.tmp 39)))) (.take (oG 28 false (oB 41 .neq 34 40)) (.take (oU 42 28 41) .done))))))))))))))))))))))))))) (.cond (.tmp 42) (.seq (.ops [oK 4 (.bool false)]) .ret) .skip))) (.ops [oM 15 5,oI 16 .add 15 (.int .i64 1),oA 5 16])))))) (.seq (.ops [oK 4 (.bool true)]) .ret))),[.move (.tmp 4)]⟩
theorem nw:aj Tryz.prog 83=some Ul:=by kernel_rfl
def c17:XFun:=⟨44,.seq (.ops [oJ 1 0,oK 2 (.bool false)]) (.seq (.seq (.ops [oF 3 5 1,oL 4 3,oH 5 4,oI 6 .gtr 5 (.int .i64 50),oM 7 6,oG 7 false (oF 8 6 1),oG 7 false (oL 9 8),oG 7 false (oH 10 9),oG 7 false (oI 11 .gtr 10 (.int .i64 50)),oU 12 7 11,oM 13 12,oG 13 false (oF 14 7 1),oG 13 false (oL 15 14),oG 13 false (oH 16 15),oG 13 false (oI 17 .gtr 16 (.int .i64 50)),oU 18 13 17,oM 19 18,oG 19 false (oF 20 8 1),oG 19 false (oL 21 20),oG 19 false (oH 22 21),oG 19 false (oI 23 .gtr 22 (.int .i64 50)),oU 24 19 23]) (.cond (.tmp 24) (.seq (.ops [oK 2 (.bool false)]) .ret) .skip)) (.seq (.seq (.ops [oF 25 8 1,oL 26 25,oX 27 (.call 31 [.tmp 26,.func 32])]) (.cond (.tmp 27) (.seq (.ops [oK 2 (.bool false)]) .ret) .skip)) (.seq (.ops [oF 28 2 1,oL 29 28,oX 30 (.lenS (.tmp 29)),oI 31 .leq 30 (.int .i64 300),oM 32 31,oG 32 true (oF 33 3 1),oG 32 true (oL 34 33),oG 32 true (oX 35 (.lenS (.tmp 34))),oG 32 true (oI 36 .leq 35 (.int .i64 300)),oT 37 32 36,oM 38 37,oG 38 true (oF 39 4 1),oG 38 true (oL 40 39),oG 38 true (oX 41 (.lenS (.tmp 40))),oG 38 true (oI 42 .leq 41 (.int .i64 1000)),oT 43 38 42,oA 2 43]) .ret))),[.move (.tmp 2)]⟩
theorem Zm:aj Tryz.prog 17=some c17:=by kernel_rfl
def VH:XFun:=⟨7,.seq (.ops [oJ 1 0,oK 2 (.bool false)]) (.seq (.ops [oF 3 1 1,oL 4 3,oH 5 4,oI 6 .gtr 5 (.int .i64 300),oA 2 6]) .ret),[.move (.tmp 2)]⟩
theorem Zx:aj Tryz.prog 32=some VH:=by kernel_rfl
end Ax
namespace Ax
open Go.RowKit Go By Dg
def TB:d5:=[52,50,54,48,49]
def TC:d5:=[115,121,110,116,97,120,32,101,114,114,111,114]
def RZ:d5:=[50,53,80,48,50]
def R8:d5:=[99,117,114,114,101,110,116,32,116,114,97,110,115,97,99,116,105,111,110,32,105,115,32,97,98,111,114,116,101,100,44,32,99,111,109,109,97,110,100,115,32,105,103,110,111,114,101,100,32,117,110,116,105,108,32,101,110,100,32,111,102,32,116,114,97,110,115,97,99,116,105,111,110,32,98,108,111,99,107]
def Tu:d5:=[52,50,80,48,49]
def Tv:d5:=[114,101,108,97,116,105,111,110,32,100,111,101,115,32,110,111,116,32,101,120,105,115,116]
structure Vd where
 code:d5
 text:d5
 is:Bool
def Lq(d:Vd):AV:=.tup [.v (.string (af d.code)),.v (.string (af d.text)),.v (.bool d.is)]
def verdict(no:Bool)(v:Vb)(st:Int):Vd :=
 if v.kind=0 then⟨TB,TC,true⟩ else if v.kind=3 \/ v.kind=4 then⟨[],[],false⟩ else if st=69 then⟨RZ,R8,true⟩ else if v.kind=1 then⟨[],[],false⟩ else if no=true then⟨Tu,Tv,true⟩ else⟨[],[],false⟩
theorem rN(h:d4):ae Tryz.prog 217 [] h (.v (.string (af R8))) h []:=by
 refine ac Ye mixed (by simp[NS]) fun hh hargs=>?_
 simp[NS,hh,R8]
section
variable {h:d4} {i:Nat} {T:Eg}
theorem Au(ht:EgAt h i T)(s:d5)(hs:s.length <= 9223372036854775807)(st:Int):ae Tryz.prog 176 [.box i 0,.v (.string (af s)),.v (.int .u8 st)] h (Lq (verdict (T.no s) (fz (gL s)) st)) h []:=by
 refine ac XN mixed (by simp[NB]) fun hh hargs=>?_
 simp[NB]
 refine aa (by simp) (lh s hs _) ?_
 generalize fz (gL s)=v
 have hm:=AO (ht.app [fC v])
 have hr:=At (ht.app [fC v]) s
 simp
 refine aa (by simp) hm ?_
 unfold verdict
 by_cases k0:v.kind=0
 ·simp[k0,hh,Lq,TB,TC,ag]
 have k0':(v.kind==0)=false:=by simpa using k0
 simp[k0,k0']
 refine aa (by simp) (CN v _) ?_
 by_cases k3:v.kind=3
 ·simp[k3,hh,Lq,ag]
 by_cases k4:v.kind=4
 ·simp[k4,hh,Lq,ag]
 have k3':(v.kind==3)=false:=by simpa using k3
 have k4':(v.kind==4)=false:=by simpa using k4
 simp[k3,k4,k3',k4']
 by_cases s69:st=69
 ·simp[s69]
  refine aa (by simp) (rN _) ?_
  simp[hh,Lq,RZ,ag]
 have s69':(st==69)=false:=by simpa using s69
 by_cases k1:v.kind=1
 ·simp[s69,s69',k1,hh,Lq,ag]
 have k1':(v.kind==1)=false:=by simpa using k1
 have k1n:(v.kind != 1)=true:=by simpa using k1
 simp[s69,s69',k1,k1',k1n]
 refine aa (by simp) hr ?_
 cases hn:T.no s with
 | true=>simp[hh,Lq,Tu,Tv,ag]
 | false=>simp[hh,Lq,ag]
def iw(v:Vb)(n:Nat)(ps:List Cl):List (List Cl):=if v.kind=5 then jh (dt v.n).toNat else if v.kind=6 then[ps] else if v.kind=7 then[[(false,textL ((n:Int)+1))]] else[]
def du(v:Vb)(n:Nat):Nat:=if v.kind=7 then n+1 else n
theorem EgAt.set_self(ht:EgAt h i T):h.set i (fU T.a T.n)=h:=by
 obtain⟨h1,h2⟩:=List.getElem?_eq_some_iff.1 ht.top
 rw[<- h2,List.set_getElem_self]
theorem Ct(ht:EgAt h i T)(hn:T.n <= 1000000)(v:Vb)(ps:List Cl)(hl:ps.length <= 1000000)(hb:∀ c∈ps,c.2.length <= 140737488351232):ae Tryz.prog 134 [.box i 0,.agg (fC v),.sl 2 (am aq ps) none .no] h (.sl 1 (am bN (iw v T.n ps)) none .no) (h.set i (fU T.a (du v T.n))) [i]:=by
 have hset:=ht.set_self
 have ht2:=ht.app [fC v]
 have hi:=ht.i_lt
 have ha:=ht.a_lt
 refine ac Xl mixed (by simp[Nk]) fun hh hargs=>?_
 simp[Nk]
 refine aa (by simp) (AO ht2) ?_
 unfold iw du
 by_cases k5:v.kind=5
 ·simp[k5]
  refine aa (by simp) (Kp v.n _) ?_
  simp[hset,hh,ag]
 have k5':(v.kind==5)=false:=by simpa using k5
 by_cases k6:v.kind=6
 ·simp[k6]
  refine aa (by simp) (dW ps (by omega) hb _) ?_
  simp[hset,hh,ag,oc]
 have k6':(v.kind==6)=false:=by simpa using k6
 by_cases k7:v.kind=7
 ·have ht3:=J2 ht2 hn
  have e:(h++[fC v]).set i (fU T.a (T.n+1))=h.set i (fU T.a (T.n+1))++[fC v]:=by rw[List.set_append_left _ _ hi]
  rw[e] at ht3
  have hlen:=ce ((T.n:Int)+1) (by omega) (by omega)
  have hlt:=ao (i:=i) hh (show cb h.length (fU T.a (T.n+1)) by simp[fU,ha])
  simp[k7]
  refine aa (by simp) ht3 ?_
  simp
  refine aa (by simp) (lE ((T.n:Int)+1) (by omega) (by omega) _) ?_
  simp[hh,ag,oc,aq,hlt]
  omega
 have k7':(v.kind==7)=false:=by simpa using k7
 simp[k5,k6,k7,k5',k6',k7',hset,hh,ag]
theorem Gb(h:d4):ae Tryz.prog 19 [] h (.box (h.length+1) 0) (h++[bc 0 [],fU h.length 0]) []:=by
 refine ac Zo mixed (by simp[Vv]) fun hh hargs=>?_
 have hl:=aF (Nat.le_add_right h.length 2) hh
 simp[Vv,hl,fU,bc]
variable {L:List d5} {n:Nat}
def AW(a:Nat):Eg:=⟨a,0,0,[]⟩
end
end Ax
end Go.Proofs.YtlbgjlmokpkkeaaGreatDoor
