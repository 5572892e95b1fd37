import Derived.Test.YtdfgljojemmlcaaGreatQAxJd
import Derived.Test.YtdfgljojemmlcaaGreatQAxEt
import Derived.Test.YtdfgljojemmlcaaGreatQAxOf
import Derived.Test.YtdfgljojemmlcaaGreatQAxRo
set_option linter.unusedSimpArgs false
set_option linter.unusedVariables false
open List renaming take -> Q0
namespace Go.Proofs.YtdfgljojemmlcaaGreat.Ax
open Go.RowKit Go By
theorem jE {α : Sort _} {a : α} : a = a := of_eq_true (eq_self a)
def c8:XFun:=⟨69,.seq (.ops [oJ 11 5,oN 12,oN 13]) (.seq (.seq (.ops [oP 16 10 11,oC 17 12 [16],oV 18 17]) (.cond (.tmp 18) (.seq (.ops [oN 12,oN 13]) .ret) .skip)) (.seq (.ops [oP 19 10 11,oC 20 27 [19],oM 21 0,oM 22 1,oM 23 2,oM 24 3,oM 25 4,oX 26 (.build z5 [(0,10,.tmp 20),(10,1,.tmp 21),(11,1,.tmp 22),(12,1,.tmp 23),(13,1,.tmp 24),(14,1,.tmp 25)]),oZ 14 z5,oS 15 14 26]) (.seq (.ops [oF 27 1 11,oL 28 27,oI 29 .eql 28 (.int .u8 83),oA 15 29]) (.seq (.block 0 (.seq (.ops [oF 31 0 11,oL 32 31,oI 33 .eql 32 (.int .u8 80),oA 30 33]) (.cond (.tmp 30) (.seq (.ops [oP 34 15 14,oC 35 28 [34],oE 36 35 0,oE 37 35 1,oA 12 36,oA 13 37]) .ret) (.seq (.ops [oF 39 0 11,oL 40 39,oI 41 .eql 40 (.int .u8 66),oM 42 41,oG 42 false (oF 43 0 11),oG 42 false (oL 44 43),oG 42 false (oI 45 .eql 44 (.int .u8 68)),oG 42 false (oM 46 45),oG 46 true (oM 47 15),oG 42 false (oT 48 46 47),oU 49 42 48,oA 38 49]) (.cond (.tmp 38) (.seq (.ops [oP 50 15 14,oC 51 29 [50],oE 52 51 0,oE 53 51 1,oA 12 52,oA 13 53]) .ret) (.seq (.ops [oF 55 0 11,oL 56 55,oI 57 .eql 56 (.int .u8 67),oM 58 57,oG 58 true (oM 59 15),oT 60 58 59,oA 54 60]) (.cond (.tmp 54) (.seq (.ops [oP 61 15 14,oC 62 30 [61],oE 63 62 0,oE 64 62 1,oA 12 63,oA 13 64]) .ret) .skip))))))) (.seq (.ops [oP 65 15 14,oC 66 31 [65],oE 67 66 0,oE 68 66 1,oA 12 67,oA 13 68]) .ret))))),[.move (.tmp 12),.move (.tmp 13)]⟩
theorem k8 : ak Tryz.prog 8 = some c8 := by kernel_rfl
def K0:XFun:=⟨12,.seq (.ops [oJ 1 0,oK 2 (.bool false)]) (.seq (.ops [oF 3 0 1,oL 4 3,oI 5 .neq 4 (.int .u8 88),oM 6 5,oG 6 true (oF 7 0 1),oG 6 true (oL 8 7),oG 6 true (oC 9 40 [8]),oG 6 true (oI 10 .eql 9 (.int .i64 1)),oT 11 6 10,oA 2 11]) .ret),[.move (.tmp 2)]⟩
theorem PZ : ak Tryz.prog 12 = some K0 := by kernel_rfl
def MC:XFun:=⟨20,.seq (.ops [oJ 1 0,oZ 2 z1]) (.seq (.ops [oF 3 5 1,oL 4 3,oC 5 53 [4],oF 6 5 1,oS 1 6 5]) (.seq (.ops [oF 7 6 1,oL 8 7,oC 9 53 [8],oF 10 6 1,oS 1 10 9]) (.seq (.ops [oF 11 7 1,oL 12 11,oC 13 53 [12],oF 14 7 1,oS 1 14 13]) (.seq (.ops [oF 15 8 1,oL 16 15,oC 17 54 [16],oF 18 8 1,oS 1 18 17]) (.seq (.ops [oP 19 10 1,oS 10 2 19]) .ret))))),[.loadN 10 (.tmp 2)]⟩
theorem Qr : ak Tryz.prog 27 = some MC := by kernel_rfl
def c28:XFun:=⟨84,.seq (.ops [oJ 1 0,oN 2,oN 3]) (.seq (.seq (.ops [oP 11 15 1,oC 12 55 [11],oM 10 12,oE 13 10 0,oE 14 10 1,oA 4 13,oA 5 14]) (.seq (.ops [oM 15 5,oM 16 15,oG 16 true (oF 17 0 1),oG 16 true (oF 18 2 17),oG 16 true (oL 19 18),oG 16 true (oI 20 .neq 19 (.string (ah []))),oT 21 16 20]) (.cond (.tmp 21) (.seq (.draws (.take (oP 22 15 1) (.only (oC 23 57 []) (.only (oC 24 56 [22,23]) (.take (oE 25 24 0) (.take (oE 26 24 1) (.take (oA 2 25) (.take (oA 3 26) .done)))))))) .ret) .skip))) (.seq (.ops [oF 27 10 1,oL 28 27,oF 29 0 1,oF 30 4 29,oL 31 30,oF 32 0 1,oF 33 5 32,oL 34 33,oX 35 (.build z3 [(0,1,.tmp 31),(1,1,.tmp 34)]),oC 36 21 [28,35],oA 6 36]) (.seq (.seq (.ops [oM 37 6,oI 38 .eql 37 (.int .i64 0)]) (.cond (.tmp 38) (.seq (.ops [oN 2,oN 3]) .ret) .skip)) (.seq (.ops [oF 39 0 1,oF 40 2 39,oL 41 40,oM 42 6,oX 43 (.build z4 [(0,1,.const (.bool true)),(1,1,.tmp 41),(2,1,.tmp 42)]),oR 44 3 1 43 z4,oX 45 (.build z0 [(0,1,.const (.int .i64 2)),(4,1,.tmp 44)]),oZ 7 z0,oS 8 7 45]) (.seq (.seq (.ops [oF 46 0 1,oF 47 2 46,oL 48 47,oI 49 .eql 48 (.string (ah []))]) (.cond (.tmp 49) (.ops [oX 50 (.call 58 [.const (.string (ah []))]),oF 51 5 7,oS 1 51 50]) .skip)) (.seq (.seq (.ops [oF 52 13 1,oL 53 52,oM 54 6,oC 55 59 [53,54]]) (.cond (.tmp 55) (.seq (.ops [oM 56 6,oX 57 (.call 60 [.const (.int .i64 3),.tmp 56]),oF 58 6 7,oS 1 58 57]) (.seq (.ops [oP 59 15 1,oP 60 8 7,oX 61 (.call 61 [.tmp 59,.const (.string (ah [])),.const (.slice none 0 0),.const (.slice none 0 0),.tmp 60]),oE 62 61 0,oE 63 61 1,oA 2 62,oA 3 63]) .ret)) .skip)) (.seq (.ops [oM 64 6,oX 65 (.call 60 [.const (.int .i64 1),.tmp 64]),oF 66 6 7,oS 1 66 65]) (.seq (.ops [oF 68 13 1,oL 69 68,oF 70 14 1,oL 71 70,oC 72 62 [69,71],oM 67 72,oE 73 67 0,oE 74 67 1,oA 8 73,oA 9 74]) (.seq (.draws (.take (oP 75 15 1) (.take (oM 76 6) (.take (oM 78 8) (.take (oM 79 9) (.take (oP 80 8 7) (.only (oC 77 63 [76]) (.only (oC 81 61 [75,77,78,79,80]) (.take (oE 82 81 0) (.take (oE 83 81 1) (.take (oA 2 82) (.take (oA 3 83) .done)))))))))))) .ret))))))))),[.move (.tmp 2),.move (.tmp 3)]⟩
theorem Lr : ak Tryz.prog 28 = some c28 := by kernel_rfl
def c29:XFun:=⟨56,.seq (.ops [oJ 1 0,oN 2,oN 3]) (.seq (.ops [oP 12 15 1,oC 13 55 [12],oM 11 13,oE 14 11 0,oE 15 11 1,oA 4 14,oA 5 15]) (.seq (.seq (.ops [oM 16 5,oV 17 16]) (.cond (.tmp 17) (.seq (.draws (.take (oP 18 15 1) (.only (oC 19 64 []) (.only (oC 20 56 [18,19]) (.take (oE 21 20 0) (.take (oE 22 20 1) (.take (oA 2 21) (.take (oA 3 22) .done)))))))) .ret) .skip)) (.seq (.ops [oF 24 10 1,oL 25 24,oM 26 4,oC 27 65 [25,26],oM 23 27,oE 28 23 0,oE 29 23 1,oZ 6 z3,oS 2 6 28,oA 7 29]) (.seq (.ops [oF 31 13 1,oL 32 31,oF 33 14 1,oL 34 33,oM 35 4,oP 36 2 6,oC 37 66 [32,34,35,36],oM 30 37,oE 38 30 0,oE 39 30 1,oA 8 38,oA 9 39]) (.seq (.draws (.take (oP 40 15 1) (.take (oM 41 4) (.two (oC 42 63 [41]) (oZ 10 z0) (.two (oC 43 67 [40,42]) (oZ 10 z0) (.only (oZ 10 z0) (.last (oS 8 10 43))) (.only (oC 43 67 [40,42]) (.last (oS 8 10 43)))) (.only (oC 42 63 [41]) (.only (oC 43 67 [40,42]) (.last (oS 8 10 43)))))))) (.seq (.ops [oM 44 4,oX 45 (.call 60 [.const (.int .i64 3),.tmp 44]),oF 46 6 10,oS 1 46 45]) (.seq (.ops [oP 47 15 1,oF 48 2 10,oL 49 48,oM 50 8,oM 51 9,oP 52 8 10,oC 53 61 [47,49,50,51,52],oE 54 53 0,oE 55 53 1,oA 2 54,oA 3 55]) .ret))))))),[.move (.tmp 2),.move (.tmp 3)]⟩
theorem PJ : ak Tryz.prog 29 = some c29 := by kernel_rfl
def MH:XFun:=⟨15,.seq (.ops [oJ 1 0,oN 2,oN 3]) (.seq (.ops [oX 5 (.build z2 [(0,1,.const (.int .u8 51))]),oR 6 11 1 5 z2,oC 7 68 [6],oA 4 7]) (.seq (.ops [oF 8 0 1,oF 9 2 8,oL 10 9,oC 11 58 [10],oM 12 4,oX 13 (.build z0 [(0,1,.const (.int .i64 10)),(4,1,.tmp 11),(7,1,.tmp 12)]),oR 14 8 1 13 z0,oN 2,oA 3 14]) .ret)),[.move (.tmp 2),.move (.tmp 3)]⟩
theorem QX : ak Tryz.prog 30 = some MH := by kernel_rfl
def Nk:XFun:=⟨26,.seq (.ops [oJ 1 0,oN 2,oN 3]) (.seq (.ops [oF 6 0 1,oP 7 10 6,oR 8 10 1 7 z1,oA 4 8]) (.seq (.ops [oF 9 0 1,oP 10 10 9,oC 11 69 [10],oD 12 0 z0 11,oZ 5 z0,oS 8 5 12]) (.seq (.seq (.ops [oF 13 0 1,oF 14 0 13,oL 15 14]) (.block 0 (.seq (.ops [oI 17 .eql 15 (.int .u8 72),oA 16 17]) (.cond (.tmp 16) (.seq (.ops [oM 18 4,oA 2 18,oN 3]) .ret) (.seq (.ops [oI 20 .eql 15 (.int .u8 81),oA 19 20]) (.cond (.tmp 19) (.ops [oX 21 (.call 58 [.const (.string (ah []))]),oF 22 4 5,oS 1 22 21]) .skip)))))) (.seq (.draws (.take (oM 23 4) (.take (oP 24 8 5) (.take (oA 2 23) (.only (oR 25 8 1 24 z0) (.take (oA 3 25) .done)))))) .ret)))),[.move (.tmp 2),.move (.tmp 3)]⟩
theorem Qy : ak Tryz.prog 31 = some Nk := by kernel_rfl
def MF:XFun:=⟨14,.seq (.ops [oJ 1 0,oK 2 (.int .i64 0),oK 3 (.bool false)]) (.seq (.ops [oF 4 11 1,oL 5 4,oF 6 12 1,oL 7 6,oF 8 0 1,oF 9 2 8,oL 10 9,oC 11 93 [5,7,10],oE 12 11 0,oE 13 11 1,oA 2 12,oA 3 13]) .ret),[.move (.tmp 2),.move (.tmp 3)]⟩
theorem Qg : ak Tryz.prog 55 = some MF := by kernel_rfl
def L5:XFun:=⟨14,.seq (.ops [oJ 2 0,oN 4,oN 5]) (.seq (.draws (.take (oP 6 15 2) (.take (oM 7 1) (.take (oP 8 15 2) (.take (oM 9 1) (.only (oC 10 67 [8,9]) (.only (oX 11 (.call 61 [.tmp 6,.tmp 7,.const (.slice none 0 0),.const (.slice none 0 0),.tmp 10])) (.take (oE 12 11 0) (.take (oE 13 11 1) (.take (oA 4 12) (.take (oA 5 13) .done))))))))))) .ret),[.move (.tmp 4),.move (.tmp 5)]⟩
theorem Qw : ak Tryz.prog 56 = some L5 := by kernel_rfl
def c61:XFun:=⟨29,.seq (.ops [oJ 5 0,oJ 9 4,oN 10,oN 11]) (.seq (.ops [oF 13 0 5,oP 14 10 13,oZ 12 z1,oS 10 12 14]) (.seq (.ops [oM 15 1,oF 16 2 12,oS 1 16 15]) (.seq (.ops [oM 17 3,oP 18 8 9,oR 19 8 1 18 z0,oX 20 (.append 8 144 (.tmp 17) (.tmp 19)),oA 3 20]) (.seq (.ops [oP 21 15 5,oM 22 3,oC 23 95 [21,22]]) (.seq (.ops [oM 24 2,oP 25 10 12,oR 26 10 1 25 z1,oX 27 (.append 10 160 (.tmp 24) (.tmp 26)),oM 28 3,oA 10 27,oA 11 28]) .ret))))),[.move (.tmp 10),.move (.tmp 11)]⟩
theorem QA : ak Tryz.prog 61 = some c61 := by kernel_rfl
def MV:XFun:=⟨13,.seq (.ops [oJ 2 0,oZ 4 z0]) (.seq (.draws (.take (oF 5 0 2) (.take (oP 6 10 5) (.take (oM 8 1) (.take (oF 9 0 2) (.take (oF 10 2 9) (.take (oL 11 10) (.only (oC 7 69 [6]) (.take (oX 12 (.build z0 [(0,1,.tmp 7),(2,1,.tmp 8),(3,1,.tmp 11)])) (.last (oS 8 4 12))))))))))) .ret),[.loadN 8 (.tmp 4)]⟩
theorem QP : ak Tryz.prog 67 = some MV := by kernel_rfl
def NG:XFun:=⟨31,.seq (.ops [oJ 2 0]) (.seq (.ops [oM 8 1,oH 9 8,oX 10 (.move (.const (.int .i64 0)))]) (.block 0 (.loop (.seq (.ops [oB 11 .lss 10 9]) (.seq (.cond (.tmp 11) .skip (.exit 0)) (.seq (.block 1 (.seq (.ops [oW 12 8 8 10,oP 13 8 12,oZ 5 z0,oS 8 5 13]) (.seq (.ops [oF 14 6 5,oL 15 14,oH 16 15,oX 17 (.move (.const (.int .i64 0)))]) (.block 2 (.loop (.seq (.ops [oB 18 .lss 17 16]) (.seq (.cond (.tmp 18) .skip (.exit 2)) (.seq (.block 3 (.seq (.ops [oW 19 2 15 17,oP 20 2 19,oZ 7 z6,oS 2 7 20]) (.seq (.ops [oF 21 0 7,oL 22 21,oI 23 .eql 22 (.int .i64 1)]) (.cond (.tmp 23) (.ops [oF 24 10 2,oL 25 24,oF 26 1 7,oL 27 26,oC 28 121 [25,27]]) .skip)))) (.ops [oI 29 .add 17 (.int .i64 1),oM 17 29]))))))))) (.ops [oI 30 .add 10 (.int .i64 1),oM 10 30]))))))),[]⟩
theorem QC : ak Tryz.prog 95 = some NG := by kernel_rfl
def NL:XFun:=⟨6,.seq (.ops [oN 2]) (.seq (.ops [oM 3 0,oD 4 1 z4 3,oR 5 3 1 4 z4,oA 2 5]) .ret),[.move (.tmp 2)]⟩
theorem QZ : ak Tryz.prog 58 = some NL := by kernel_rfl
def Mv:XFun:=⟨9,.seq (.ops [oN 4]) (.seq (.ops [oM 5 0,oM 6 1,oX 7 (.build z6 [(0,1,.tmp 5),(1,1,.tmp 6)]),oR 8 2 1 7 z6,oA 4 8]) .ret),[.move (.tmp 4)]⟩
theorem QJ : ak Tryz.prog 60 = some Mv := by kernel_rfl
def c54:XFun:=⟨24,.seq (.ops [oN 2]) (.seq (.ops [oM 5 0,oC 6 91 [5],oA 3 6]) (.seq (.seq (.ops [oM 7 3,oH 8 7,oX 9 (.move (.const (.int .i64 0)))]) (.block 0 (.loop (.seq (.ops [oB 10 .lss 9 8]) (.seq (.cond (.tmp 10) .skip (.exit 0)) (.seq (.block 1 (.seq (.ops [oM 11 9,oA 4 11]) (.ops [oM 12 3,oM 13 4,oM 14 3,oM 15 4,oW 16 2 14 15,oF 17 1 16,oL 18 17,oC 19 92 [18],oW 20 2 12 13,oF 21 1 20,oS 1 21 19]))) (.ops [oI 22 .add 9 (.int .i64 1),oM 9 22]))))))) (.seq (.ops [oM 23 3,oA 2 23]) .ret))),[.move (.tmp 2)]⟩
theorem PK : ak Tryz.prog 54 = some c54 := by kernel_rfl
def c9:XFun:=⟨104,.seq (.ops [oJ 11 5,oN 12,oN 13]) (.seq (.seq (.ops [oP 17 10 11,oC 18 13 [17],oV 19 18]) (.cond (.tmp 19) (.seq (.ops [oN 12,oN 13]) .ret) .skip)) (.seq (.ops [oM 21 1,oM 22 2,oF 23 2 11,oL 24 23,oC 25 32 [21,22,24],oM 20 25,oE 26 20 0,oE 27 20 1,oA 14 26,oA 15 27]) (.seq (.block 0 (.seq (.ops [oF 29 0 11,oL 30 29,oI 31 .eql 30 (.int .u8 80),oA 28 31]) (.cond (.tmp 28) (.seq (.ops [oM 32 0,oM 33 15,oM 34 3,oM 35 4,oP 36 10 11,oC 37 33 [32,33,34,35,36],oE 38 37 0,oE 39 37 1,oA 12 38,oA 13 39]) .ret) (.seq (.ops [oF 41 0 11,oL 42 41,oI 43 .eql 42 (.int .u8 66),oM 44 43,oG 44 false (oF 45 0 11),oG 44 false (oL 46 45),oG 44 false (oI 47 .eql 46 (.int .u8 68)),oG 44 false (oM 48 47),oG 48 true (oF 49 1 11),oG 48 true (oL 50 49),oG 48 true (oI 51 .eql 50 (.int .u8 83)),oG 44 false (oT 52 48 51),oU 53 44 52,oA 40 53]) (.cond (.tmp 40) (.seq (.ops [oM 54 0,oM 55 14,oM 56 15,oM 57 3,oM 58 4,oP 59 10 11,oC 60 34 [54,55,56,57,58,59],oE 61 60 0,oE 62 60 1,oA 12 61,oA 13 62]) .ret) (.seq (.ops [oF 64 0 11,oL 65 64,oI 66 .eql 65 (.int .u8 67),oM 67 66,oG 67 true (oF 68 1 11),oG 67 true (oL 69 68),oG 67 true (oI 70 .eql 69 (.int .u8 83)),oT 71 67 70,oA 63 71]) (.cond (.tmp 63) (.seq (.ops [oX 72 (.build z2 [(0,1,.const (.int .u8 51))]),oR 73 11 1 72 z2,oC 74 35 [73],oA 16 74]) (.seq (.draws (.take (oM 75 16) (.take (oF 76 2 11) (.take (oL 77 76) (.take (oD 78 1 z4 77) (.take (oN 12) (.only (oR 79 3 1 78 z4) (.take (oX 80 (.build z0 [(0,1,.const (.int .i64 10)),(7,1,.tmp 75),(4,1,.tmp 79)])) (.only (oR 81 8 1 80 z0) (.take (oA 13 81) .done)))))))))) .ret)) (.seq (.ops [oF 83 0 11,oL 84 83,oI 85 .eql 84 (.int .u8 81),oA 82 85]) (.cond (.tmp 82) (.seq (.ops [oP 86 10 11,oR 87 10 1 86 z1,oX 88 (.build z4 []),oR 89 3 1 88 z4,oX 90 (.build z0 [(0,1,.const (.int .i64 9)),(4,1,.tmp 89)]),oR 91 8 1 90 z0,oA 12 87,oA 13 91]) .ret) (.seq (.ops [oF 93 0 11,oL 94 93,oI 95 .eql 94 (.int .u8 72),oA 92 95]) (.cond (.tmp 92) (.seq (.ops [oP 96 10 11,oR 97 10 1 96 z1,oA 12 97,oN 13]) .ret) .skip))))))))))) (.seq (.draws (.take (oP 98 10 11) (.take (oP 100 10 11) (.two (oR 99 10 1 98 z1) (oC 101 36 [100]) (.only (oC 101 36 [100]) (.take (oD 102 0 z0 101) (.take (oA 12 99) (.only (oR 103 8 1 102 z0) (.take (oA 13 103) .done))))) (.take (oD 102 0 z0 101) (.two (oR 99 10 1 98 z1) (oR 103 8 1 102 z0) (.take (oA 12 99) (.only (oR 103 8 1 102 z0) (.take (oA 13 103) .done))) (.only (oR 99 10 1 98 z1) (.take (oA 12 99) (.take (oA 13 103) .done))))))))) .ret)))),[.move (.tmp 12),.move (.tmp 13)]⟩
theorem k9 : ak Tryz.prog 9 = some c9 := by kernel_rfl
def LO:XFun:=⟨12,.seq (.ops [oJ 1 0,oK 2 (.bool false)]) (.seq (.ops [oF 3 0 1,oL 4 3,oI 5 .neq 4 (.int .u8 88),oM 6 5,oG 6 true (oF 7 0 1),oG 6 true (oL 8 7),oG 6 true (oC 9 41 [8]),oG 6 true (oI 10 .eql 9 (.int .i64 1)),oT 11 6 10,oA 2 11]) .ret),[.move (.tmp 2)]⟩
theorem P8 : ak Tryz.prog 13 = some LO := by kernel_rfl
def c33:XFun:=⟨88,.seq (.ops [oJ 9 4,oN 10,oN 11]) (.seq (.seq (.ops [oF 17 2 9,oL 18 17,oI 19 .neq 18 (.string (ah [])),oM 20 19,oG 20 true (oM 21 1),oT 22 20 21]) (.cond (.tmp 22) (.seq (.ops [oF 23 2 9,oL 24 23,oX 25 (.build z0 [(0,1,.const (.int .i64 2)),(2,1,.const (.string (ah [95,100,117,112]))),(3,1,.tmp 24)]),oZ 12 z0,oS 8 12 25]) (.seq (.ops [oF 26 2 9,oQ 1 26 (.string (ah [95,100,117,112]))]) (.seq (.draws (.take (oP 27 10 9) (.take (oP 29 8 12) (.two (oR 28 10 1 27 z1) (oR 30 8 1 29 z0) (.take (oA 10 28) (.only (oR 30 8 1 29 z0) (.take (oA 11 30) .done))) (.only (oR 28 10 1 27 z1) (.take (oA 10 28) (.take (oA 11 30) .done))))))) .ret))) .skip)) (.seq (.ops [oM 31 0,oF 32 4 9,oL 33 32,oF 34 5 9,oL 35 34,oX 36 (.build z3 [(0,1,.tmp 33),(1,1,.tmp 35)]),oC 37 22 [31,36],oA 13 37]) (.seq (.seq (.ops [oM 38 13,oI 39 .eql 38 (.int .i64 0)]) (.cond (.tmp 39) (.seq (.ops [oN 10,oN 11]) .ret) .skip)) (.seq (.ops [oF 40 2 9,oL 41 40,oM 42 13,oX 43 (.build z4 [(0,1,.const (.bool true)),(1,1,.tmp 41),(2,1,.tmp 42)]),oR 44 3 1 43 z4,oX 45 (.build z0 [(0,1,.const (.int .i64 2)),(4,1,.tmp 44)]),oZ 14 z0,oS 8 14 45]) (.seq (.seq (.ops [oF 46 2 9,oL 47 46,oI 48 .eql 47 (.string (ah []))]) (.cond (.tmp 48) (.ops [oX 49 (.build z4 []),oR 50 3 1 49 z4,oF 51 5 14,oS 1 51 50]) .skip)) (.seq (.seq (.ops [oM 52 2,oM 53 13,oC 54 72 [52,53]]) (.cond (.tmp 54) (.seq (.ops [oF 55 2 9,oQ 1 55 (.string (ah []))]) (.seq (.ops [oM 56 13,oX 57 (.build z6 [(0,1,.const (.int .i64 3)),(1,1,.tmp 56)]),oR 58 2 1 57 z6,oF 59 6 14,oS 1 59 58]) (.seq (.draws (.take (oP 60 10 9) (.take (oP 62 8 14) (.two (oR 61 10 1 60 z1) (oR 63 8 1 62 z0) (.take (oA 10 61) (.only (oR 63 8 1 62 z0) (.take (oA 11 63) .done))) (.only (oR 61 10 1 60 z1) (.take (oA 10 61) (.take (oA 11 63) .done))))))) .ret))) .skip)) (.seq (.ops [oM 64 0,oM 65 13,oC 66 50 [64,65]]) (.seq (.ops [oM 68 2,oM 69 3,oC 70 73 [68,69],oM 67 70,oE 71 67 0,oE 72 67 1,oA 15 71,oA 16 72]) (.seq (.ops [oM 73 13,oC 74 74 [73],oF 75 2 9,oS 1 75 74]) (.seq (.ops [oM 76 13,oX 77 (.build z6 [(0,1,.const (.int .i64 1)),(1,1,.tmp 76)]),oR 78 2 1 77 z6,oF 79 6 14,oS 1 79 78]) (.seq (.draws (.take (oM 80 15) (.take (oP 81 10 9) (.take (oM 84 16) (.take (oP 85 8 14) (.two (oR 82 10 1 81 z1) (oR 86 8 1 85 z0) (.two (oX 83 (.append 10 160 (.tmp 80) (.tmp 82))) (oR 86 8 1 85 z0) (.only (oR 86 8 1 85 z0) (.only (oX 87 (.append 8 144 (.tmp 84) (.tmp 86))) (.take (oA 10 83) (.take (oA 11 87) .done)))) (.only (oX 83 (.append 10 160 (.tmp 80) (.tmp 82))) (.only (oX 87 (.append 8 144 (.tmp 84) (.tmp 86))) (.take (oA 10 83) (.take (oA 11 87) .done))))) (.only (oR 82 10 1 81 z1) (.only (oX 83 (.append 10 160 (.tmp 80) (.tmp 82))) (.only (oX 87 (.append 8 144 (.tmp 84) (.tmp 86))) (.take (oA 10 83) (.take (oA 11 87) .done))))))))))) .ret))))))))))),[.move (.tmp 10),.move (.tmp 11)]⟩
theorem K2 : ak Tryz.prog 33 = some c33 := by kernel_rfl
def c34:XFun:=⟨69,.seq (.ops [oJ 11 5,oN 12,oN 13]) (.seq (.draws (.take (oP 19 10 11) (.take (oF 21 2 11) (.take (oL 22 21) (.two (oC 20 36 [19]) (oZ 14 z0) (.take (oX 23 (.build z0 [(0,1,.tmp 20),(2,1,.const (.string (ah [95,110,111,110,101]))),(3,1,.tmp 22)])) (.only (oZ 14 z0) (.last (oS 8 14 23)))) (.only (oC 20 36 [19]) (.take (oX 23 (.build z0 [(0,1,.tmp 20),(2,1,.const (.string (ah [95,110,111,110,101]))),(3,1,.tmp 22)])) (.last (oS 8 14 23))))))))) (.seq (.seq (.ops [oM 24 2,oV 25 24]) (.cond (.tmp 25) (.seq (.ops [oF 26 2 11,oQ 1 26 (.string (ah [95,110,111,110,101]))]) (.seq (.draws (.take (oP 27 10 11) (.take (oP 29 8 14) (.two (oR 28 10 1 27 z1) (oR 30 8 1 29 z0) (.take (oA 12 28) (.only (oR 30 8 1 29 z0) (.take (oA 13 30) .done))) (.only (oR 28 10 1 27 z1) (.take (oA 12 28) (.take (oA 13 30) .done))))))) .ret)) .skip)) (.seq (.ops [oM 32 0,oM 33 1,oC 34 75 [32,33],oM 31 34,oE 35 31 0,oE 36 31 1,oZ 15 z3,oS 2 15 35,oA 16 36]) (.seq (.ops [oM 38 3,oM 39 4,oM 40 1,oP 41 2 15,oC 42 76 [38,39,40,41],oM 37 42,oE 43 37 0,oE 44 37 1,oA 17 43,oA 18 44]) (.seq (.seq (.ops [oM 45 17,oH 46 45,oI 47 .gtr 46 (.int .i64 0)]) (.cond (.tmp 47) (.ops [oM 48 0,oM 49 1,oC 50 50 [48,49]]) .skip)) (.seq (.ops [oM 51 1,oC 52 74 [51],oF 53 2 11,oS 1 53 52]) (.seq (.ops [oF 54 2 11,oL 55 54,oM 56 1,oX 57 (.build z6 [(0,1,.const (.int .i64 3)),(1,1,.tmp 56)]),oR 58 2 1 57 z6,oF 59 2 14,oS 1 59 55,oF 60 6 14,oS 1 60 58]) (.seq (.draws (.take (oM 61 17) (.take (oP 62 10 11) (.take (oM 65 18) (.take (oP 66 8 14) (.two (oR 63 10 1 62 z1) (oR 67 8 1 66 z0) (.two (oX 64 (.append 10 160 (.tmp 61) (.tmp 63))) (oR 67 8 1 66 z0) (.only (oR 67 8 1 66 z0) (.only (oX 68 (.append 8 144 (.tmp 65) (.tmp 67))) (.take (oA 12 64) (.take (oA 13 68) .done)))) (.only (oX 64 (.append 10 160 (.tmp 61) (.tmp 63))) (.only (oX 68 (.append 8 144 (.tmp 65) (.tmp 67))) (.take (oA 12 64) (.take (oA 13 68) .done))))) (.only (oR 63 10 1 62 z1) (.only (oX 64 (.append 10 160 (.tmp 61) (.tmp 63))) (.only (oX 68 (.append 8 144 (.tmp 65) (.tmp 67))) (.take (oA 12 64) (.take (oA 13 68) .done))))))))))) .ret)))))))),[.move (.tmp 12),.move (.tmp 13)]⟩
theorem PL : ak Tryz.prog 34 = some c34 := by kernel_rfl
def c5:XFun:=⟨94,.seq (.ops [oK 4 (.pointer none),oK 5 (.pointer none),oK 6 (.pointer none),oK 7 (.pointer none)]) (.seq (.ops [oC 17 18 [],oX 18 (.build Ll []),oJ 19 18,oA 8 17,oA 9 19]) (.seq (.ops [oX 21 (.call 19 [.const (.int .i64 40)]),oM 20 21,oE 22 20 0,oE 23 20 1,oA 10 22,oA 11 23]) (.seq (.ops [oX 25 (.call 20 [.const (.int .i64 40)]),oM 24 25,oE 26 24 0,oE 27 24 1,oA 12 26,oA 13 27]) (.seq (.seq (.ops [oM 28 0,oH 29 28,oX 30 (.move (.const (.int .i64 0)))]) (.block 0 (.loop (.seq (.ops [oB 31 .lss 30 29]) (.seq (.cond (.tmp 31) .skip (.exit 0)) (.seq (.block 1 (.seq (.ops [oM 32 30,oW 33 2 28 30,oP 34 2 33,oZ 15 z3,oA 14 32,oS 2 15 34]) (.seq (.seq (.ops [oM 35 14,oI 36 .geq 35 (.int .i64 20),oM 37 36,oG 37 false (oF 38 0 15),oG 37 false (oL 39 38),oG 37 false (oX 40 (.lenS (.tmp 39))),oG 37 false (oI 41 .gtr 40 (.int .i64 300)),oU 42 37 41,oM 43 42,oG 43 false (oF 44 1 15),oG 43 false (oL 45 44),oG 43 false (oH 46 45),oG 43 false (oI 47 .gtr 46 (.int .i64 20)),oU 48 43 47,oM 49 48,oG 49 false (oM 50 10),oG 49 false (oX 51 (.pnileq false (.tmp 50))),oU 52 49 51,oM 53 52,oG 53 false (oM 54 8),oG 53 false (oX 55 (.pnileq false (.tmp 54))),oU 56 53 55]) (.cond (.tmp 56) (.exit 0) .skip)) (.seq (.ops [oM 57 8,oP 58 2 15,oC 59 21 [57,58],oA 16 59]) (.seq (.ops [oM 60 9,oP 61 2 15,oC 62 22 [60,61]]) (.seq (.ops [oM 63 14,oM 64 1,oH 65 64,oB 66 .lss 63 65,oM 67 66,oG 67 true (oM 68 1),oG 67 true (oM 69 14),oG 67 true (oW 70 1 68 69),oG 67 true (oL 71 70),oG 67 true (oX 72 (.lenS (.tmp 71))),oG 67 true (oI 73 .leq 72 (.int .i64 300)),oT 74 67 73]) (.cond (.tmp 74) (.seq (.ops [oM 75 10,oM 76 1,oM 77 14,oW 78 1 76 77,oL 79 78,oM 80 16,oC 81 23 [75,79,80]]) (.ops [oM 82 12,oM 83 1,oM 84 14,oW 85 1 83 84,oL 86 85,oM 87 16,oC 88 24 [82,86,87]])) .skip))))))) (.ops [oI 89 .add 30 (.int .i64 1),oM 30 89]))))))) (.seq (.ops [oM 90 8,oM 91 10,oM 92 9,oM 93 12,oA 4 90,oA 5 91,oA 6 92,oA 7 93]) .ret))))),[.move (.tmp 4),.move (.tmp 5),.move (.tmp 6),.move (.tmp 7)]⟩
theorem k5 : ak Tryz.prog 5 = some c5 := by kernel_rfl
def c7:XFun:=⟨83,.seq (.ops [oK 0 (.bool false)]) (.seq (.ops [oC 8 18 [],oA 1 8]) (.seq (.ops [oX 10 (.call 19 [.const (.int .i64 4)]),oM 9 10,oE 11 9 0,oE 12 9 1,oA 2 11,oA 3 12]) (.seq (.seq (.ops [oM 13 1,oX 14 (.pnileq false (.tmp 13)),oM 15 14,oG 15 false (oM 16 2),oG 15 false (oX 17 (.pnileq false (.tmp 16))),oU 18 15 17,oM 19 18,oG 19 false (oM 20 3),oG 19 false (oI 21 .neq 20 (.int .i64 0)),oU 22 19 21]) (.cond (.tmp 22) (.seq (.ops [oK 0 (.bool false)]) .ret) .skip)) (.seq (.ops [oM 24 1,oM 25 2,oX 26 (.build z1 [(0,1,.const (.int .u8 80)),(2,1,.const (.string (ah [97]))),(4,1,.const (.string (ah [98,101,103,105,110])))]),oX 27 (.call 8 [.tmp 24,.tmp 25,.const (.slice none 0 0),.const (.slice none 0 0),.const (.int .i64 2),.tmp 26]),oM 23 27,oE 28 23 0,oE 29 23 1,oA 4 28,oA 5 29]) (.seq (.ops [oM 31 1,oM 32 2,oM 33 5,oX 34 (.buildSlice 1 1 z9 [(0,.const (.int .i64 1))]),oX 35 (.build z1 [(0,1,.const (.int .u8 66)),(2,1,.const (.string (ah [97])))]),oX 36 (.call 8 [.tmp 31,.tmp 32,.tmp 33,.tmp 34,.const (.int .i64 2),.tmp 35]),oM 30 36,oE 37 30 0,oE 38 30 1,oA 6 37,oA 7 38]) (.seq (.ops [oM 39 4,oH 40 39,oI 41 .eql 40 (.int .i64 1),oM 42 41,oG 42 true (oM 43 4),oG 42 true (oX 44 (.iaddr 10 (.tmp 43) (.const (.int .i64 0)))),oG 42 true (oF 45 2 44),oG 42 true (oL 46 45),oG 42 true (oI 47 .eql 46 (.string (ah [95,112,49]))),oT 48 42 47,oM 49 48,oG 49 true (oM 50 5),oG 49 true (oH 51 50),oG 49 true (oI 52 .eql 51 (.int .i64 1)),oT 53 49 52,oM 54 53,oG 54 true (oM 55 6),oG 54 true (oH 56 55),oG 54 true (oI 57 .eql 56 (.int .i64 1)),oT 58 54 57,oM 59 58,oG 59 true (oM 60 6),oG 59 true (oX 61 (.iaddr 10 (.tmp 60) (.const (.int .i64 0)))),oG 59 true (oF 62 2 61),oG 59 true (oL 63 62),oG 59 true (oI 64 .eql 63 (.string (ah [95,112,49]))),oT 65 59 64,oM 66 65,oG 66 true (oM 67 7),oG 66 true (oH 68 67),oG 66 true (oI 69 .eql 68 (.int .i64 1)),oT 70 66 69,oM 71 70,oG 71 true (oM 72 7),oG 71 true (oX 73 (.iaddr 8 (.tmp 72) (.const (.int .i64 0)))),oG 71 true (oF 74 3 73),oG 71 true (oL 75 74),oG 71 true (oI 76 .eql 75 (.string (ah [97]))),oT 77 71 76,oM 78 77,oG 78 true (oM 79 1),oG 78 true (oX 80 (.call 14 [.tmp 79,.const (.int .i64 1)])),oG 78 true (oI 81 .eql 80 (.int .i64 2)),oT 82 78 81,oA 0 82]) .ret)))))),[.move (.tmp 0)]⟩
theorem k7 : ak Tryz.prog 7 = some c7 := by kernel_rfl
def OC:XFun:=⟨8,.seq (.ops [oK 4 (.bool false)]) (.seq (.ops [oM 5 0,oM 6 1,oX 7 (.call 37 [.tmp 5,.tmp 6,.func 38]),oA 4 7]) .ret),[.move (.tmp 4)]⟩
theorem PX : ak Tryz.prog 10 = some OC := by kernel_rfl
def c3:XFun:=⟨129,.seq (.ops [oK 10 (.bool false)]) (.seq (.ops [oM 25 0,oM 26 1,oC 27 5 [25,26],oM 24 27,oE 28 24 0,oE 29 24 1,oE 30 24 2,oE 31 24 3,oA 11 28,oA 12 29,oA 13 30,oA 14 31]) (.seq (.seq (.ops [oM 32 11,oX 33 (.pnileq false (.tmp 32)),oM 34 33,oG 34 false (oM 35 12),oG 34 false (oX 36 (.pnileq false (.tmp 35))),oU 37 34 36,oM 38 37,oG 38 false (oM 39 4),oG 38 false (oX 40 (.call 6 [.tmp 39,.const (.int .i64 20)])),oG 38 false (oV 41 40),oU 42 38 41,oM 43 42,oG 43 false (oM 44 2),oG 43 false (oH 45 44),oG 43 false (oI 46 .gtr 45 (.int .i64 40)),oU 47 43 46]) (.cond (.tmp 47) (.seq (.ops [oM 48 11,oX 49 (.pnileq true (.tmp 48)),oM 50 49,oG 50 true (oM 51 12),oG 50 true (oX 52 (.pnileq true (.tmp 51))),oT 53 50 52,oM 54 53,oG 54 true (oC 55 7 []),oT 56 54 55,oA 10 56]) .ret) .skip)) (.seq (.ops [oN 15,oN 16]) (.seq (.seq (.ops [oM 57 4,oH 58 57,oX 59 (.move (.const (.int .i64 0)))]) (.block 0 (.loop (.seq (.ops [oB 60 .lss 59 58]) (.seq (.cond (.tmp 60) .skip (.exit 0)) (.seq (.block 1 (.seq (.ops [oW 61 10 57 59,oP 62 10 61,oZ 18 z1,oS 10 18 62]) (.seq (.ops [oM 64 11,oM 65 12,oM 66 15,oM 67 2,oM 68 3,oP 69 10 18,oC 70 8 [64,65,66,67,68,69],oM 63 70,oE 71 63 0,oE 72 63 1,oA 19 71,oA 20 72]) (.seq (.ops [oM 74 13,oM 75 14,oM 76 16,oM 77 2,oM 78 3,oP 79 10 18,oC 80 9 [74,75,76,77,78,79],oM 73 80,oE 81 73 0,oE 82 73 1,oA 21 81,oA 22 82]) (.seq (.seq (.draws (.take (oM 83 19) (.take (oM 84 21) (.only (oC 85 10 [83,84]) (.take (oV 86 85) (.take (oM 87 86) (.take (oG 87 false (oM 88 20)) (.take (oG 87 false (oM 89 22)) (.only (oG 87 false (oC 90 11 [88,89])) (.take (oG 87 false (oV 91 90)) (.take (oU 92 87 91) (.take (oM 93 92) (.take (oG 93 false (oP 94 10 18)) (.take (oG 93 false (oP 96 10 18)) (.only (oG 93 false (oC 95 12 [94])) (.only (oG 93 false (oC 97 13 [96])) (.take (oG 93 false (oX 98 (.beq true (.tmp 95) (.tmp 97)))) (.take (oU 99 93 98) .done)))))))))))))))))) (.cond (.tmp 99) (.seq (.ops [oK 10 (.bool false)]) .ret) .skip)) (.seq (.ops [oM 100 15,oM 101 20,oX 102 (.append 8 144 (.tmp 100) (.tmp 101)),oM 103 16,oM 104 22,oX 105 (.append 8 144 (.tmp 103) (.tmp 104)),oA 15 102,oA 16 105]) (.seq (.ops [oX 106 (.move (.const (.int .i64 0)))]) (.block 2 (.loop (.seq (.ops [oI 107 .lss 106 (.int .i64 25)]) (.seq (.cond (.tmp 107) .skip (.exit 2)) (.seq (.block 3 (.seq (.ops [oM 108 106,oA 23 108]) (.seq (.ops [oM 109 11,oM 110 23,oC 111 14 [109,110],oM 112 13,oM 113 23,oC 114 15 [112,113],oB 115 .neq 111 114]) (.cond (.tmp 115) (.seq (.ops [oK 10 (.bool false)]) .ret) .skip)))) (.ops [oI 116 .add 106 (.int .i64 1),oM 106 116]))))))))))))) (.ops [oI 117 .add 59 (.int .i64 1),oM 59 117]))))))) (.seq (.draws (.take (oM 118 11) (.take (oM 120 13) (.take (oX 121 (.nilCheck (.tmp 120))) (.take (oF 122 0 121) (.take (oL 123 122) (.take (oH 124 123) (.only (oC 119 16 [118]) (.take (oB 125 .eql 119 124) (.take (oM 126 125) (.only (oG 126 true (oC 127 7 [])) (.take (oT 128 126 127) (.take (oA 10 128) .done))))))))))))) .ret))))),[.move (.tmp 10)]⟩
theorem k3 : ak Tryz.prog 3 = some c3 := by kernel_rfl
def c4:XFun:=⟨138,.seq (.ops [oJ 9 4,oK 10 (.bool false)]) (.seq (.ops [oM 21 0,oM 22 1,oC 23 5 [21,22],oM 20 23,oE 24 20 0,oE 25 20 1,oE 26 20 2,oE 27 20 3,oA 11 24,oA 12 25,oA 13 26,oA 14 27]) (.seq (.seq (.ops [oM 28 11,oX 29 (.pnileq false (.tmp 28)),oM 30 29,oG 30 false (oM 31 12),oG 30 false (oX 32 (.pnileq false (.tmp 31))),oU 33 30 32,oM 34 33,oG 34 false (oP 35 10 9),oG 34 false (oC 36 17 [35]),oG 34 false (oV 37 36),oU 38 34 37,oM 39 38,oG 39 false (oM 40 2),oG 39 false (oH 41 40),oG 39 false (oI 42 .gtr 41 (.int .i64 40)),oU 43 39 42]) (.cond (.tmp 43) (.seq (.ops [oM 44 11,oX 45 (.pnileq true (.tmp 44)),oM 46 45,oG 46 true (oM 47 12),oG 46 true (oX 48 (.pnileq true (.tmp 47))),oT 49 46 48,oM 50 49,oG 50 true (oC 51 7 []),oT 52 50 51,oA 10 52]) .ret) .skip)) (.seq (.ops [oM 54 11,oM 55 12,oM 56 2,oM 57 3,oP 58 10 9,oX 59 (.call 8 [.tmp 54,.tmp 55,.const (.slice none 0 0),.tmp 56,.tmp 57,.tmp 58]),oM 53 59,oE 60 53 0,oE 61 53 1,oA 15 60,oA 16 61]) (.seq (.seq (.ops [oM 62 15,oH 63 62,oI 64 .gtr 63 (.int .i64 3),oM 65 64,oG 65 false (oM 66 16),oG 65 false (oH 67 66),oG 65 false (oI 68 .gtr 67 (.int .i64 3)),oU 69 65 68]) (.cond (.tmp 69) (.seq (.ops [oK 10 (.bool false)]) .ret) .skip)) (.seq (.seq (.ops [oM 70 16,oH 71 70,oX 72 (.move (.const (.int .i64 0)))]) (.block 0 (.loop (.seq (.ops [oB 73 .lss 72 71]) (.seq (.cond (.tmp 73) .skip (.exit 0)) (.seq (.block 1 (.seq (.ops [oM 74 72,oW 75 8 70 72,oP 76 8 75,oZ 18 z0,oA 17 74,oS 8 18 76]) (.seq (.ops [oM 77 17,oM 78 16,oH 79 78,oI 80 .sub 79 (.int .i64 1),oB 81 .eql 77 80,oA 19 81]) (.seq (.seq (.ops [oF 82 1 18,oL 83 82,oM 84 19,oX 85 (.beq false (.tmp 83) (.tmp 84))]) (.cond (.tmp 85) (.seq (.ops [oK 10 (.bool false)]) .ret) .skip)) (.seq (.ops [oM 86 19,oV 87 86,oM 88 87,oG 88 true (oM 89 15),oG 88 true (oM 90 17),oG 88 true (oW 91 10 89 90),oG 88 true (oF 92 0 91),oG 88 true (oL 93 92),oG 88 true (oI 94 .neq 93 (.int .u8 67)),oG 88 true (oM 95 94),oG 95 false (oF 96 0 18),oG 95 false (oL 97 96),oG 95 false (oI 98 .neq 97 (.int .i64 7)),oG 88 true (oU 99 95 98),oT 100 88 99,oM 101 100,oG 101 true (oM 102 15),oG 101 true (oM 103 17),oG 101 true (oW 104 10 102 103),oG 101 true (oF 105 0 104),oG 101 true (oL 106 105),oG 101 true (oI 107 .neq 106 (.int .u8 80)),oG 101 true (oM 108 107),oG 108 false (oF 109 0 18),oG 108 false (oL 110 109),oG 108 false (oI 111 .neq 110 (.int .i64 2)),oG 101 true (oU 112 108 111),oG 101 true (oM 113 112),oG 113 false (oM 114 17),oG 113 false (oM 115 16),oG 113 false (oH 116 115),oG 113 false (oI 117 .sub 116 (.int .i64 2)),oG 113 false (oB 118 .lss 114 117),oG 101 true (oU 119 113 118),oT 120 101 119]) (.cond (.tmp 120) (.seq (.ops [oK 10 (.bool false)]) .ret) .skip)))))) (.ops [oI 121 .add 72 (.int .i64 1),oM 72 121]))))))) (.seq (.seq (.draws (.take (oM 122 15) (.take (oH 123 122) (.take (oI 124 .gtr 123 (.int .i64 0)) (.take (oM 125 124) (.take (oG 125 true (oM 126 15)) (.take (oG 125 true (oM 127 15)) (.take (oG 125 true (oH 128 127)) (.take (oG 125 true (oI 129 .sub 128 (.int .i64 1))) (.take (oG 125 true (oW 130 10 126 129)) (.take (oG 125 true (oF 131 0 130)) (.take (oG 125 true (oL 132 131)) (.take (oG 125 true (oF 133 0 9)) (.take (oG 125 true (oL 134 133)) (.take (oG 125 true (oB 135 .neq 132 134)) (.take (oT 136 125 135) .done)))))))))))))))) (.cond (.tmp 136) (.seq (.ops [oK 10 (.bool false)]) .ret) .skip)) (.seq (.ops [oC 137 7 [],oA 10 137]) .ret))))))),[.move (.tmp 10)]⟩
theorem k4 : ak Tryz.prog 4 = some c4 := by kernel_rfl
def c6:XFun:=⟨14,.seq (.ops [oK 4 (.bool false)]) (.seq (.ops [oM 5 0,oH 6 5,oM 7 1,oB 8 .leq 6 7,oM 9 8,oG 9 true (oM 10 0),oG 9 true (oX 11 (.call 25 [.tmp 10,.func 26])),oG 9 true (oV 12 11),oT 13 9 12,oA 4 13]) .ret),[.move (.tmp 4)]⟩
theorem k6 : ak Tryz.prog 6 = some c6 := by kernel_rfl
def OE:XFun:=⟨6,.seq (.ops [oJ 1 0,oK 2 (.bool false)]) (.seq (.ops [oP 3 10 1,oC 4 17 [3],oV 5 4,oA 2 5]) .ret),[.move (.tmp 2)]⟩
theorem QR : ak Tryz.prog 26 = some OE := by kernel_rfl
def Qp:XFun:=⟨9,.seq (.ops [oK 4 (.bool false)]) (.seq (.ops [oM 5 0,oM 6 1,oC 7 52 [5,6],oI 8 .geq 7 (.int .i64 0),oA 4 8]) .ret),[.move (.tmp 4)]⟩
theorem PU : ak Tryz.prog 25 = some Qp := by kernel_rfl
def P7:XFun:=⟨19,.seq (.ops [oK 4 (.int .i64 0)]) (.seq (.seq (.ops [oM 6 0,oH 7 6,oX 8 (.move (.const (.int .i64 0)))]) (.block 0 (.loop (.seq (.ops [oB 9 .lss 8 7]) (.seq (.cond (.tmp 9) .skip (.exit 0)) (.seq (.block 1 (.seq (.ops [oM 10 8,oA 5 10]) (.seq (.ops [oM 11 1,oM 12 0,oM 13 5,oW 14 10 12 13,oP 15 10 14,oX 16 (.callv (.tmp 11) [.tmp 15])]) (.cond (.tmp 16) (.seq (.ops [oM 17 5,oA 4 17]) .ret) .skip)))) (.ops [oI 18 .add 8 (.int .i64 1),oM 8 18]))))))) (.seq (.ops [oK 4 (.int .i64 (-1))]) .ret)),[.move (.tmp 4)]⟩
theorem Qf : ak Tryz.prog 52 = some P7 := by kernel_rfl
end Go.Proofs.YtdfgljojemmlcaaGreat.Ax
namespace Go.Proofs.YtdfgljojemmlcaaGreat.Ax
open Go.RowKit Go By Sc Dg
set_option maxRecDepth 10000
theorem xx (m : Fm) (h : List (List AV)) : Contract Tryz.prog 26 [.agg (aG m)] h (.v (.bool (!ft m))) h [] := by
 refine ab QR mixed (by simp [OE]) fun hh hargs => ?_
 simp [OE]
 refine aa (by simp) (Cy m _) ?_
 simp [hh]
def gC (l : List Fm) : Bool := decide ((l.length : Int) <= 20) && l.all ft
theorem zV (l : List Fm) (h : List (List AV)) : Contract Tryz.prog 6 [.sl 10 (ai aG l) none .no, .v (.int .i64 20)] h (.v (.bool (gC l))) h [] := by
 refine ab k6 mixed (by simp [c6]) fun hh hargs => ?_
 by_cases hL : (20 : Int) < l.length
 ·have e : gC l = false := by unfold gC; simp; intro h1; omega
  rw [e]
  have hL3 : ¬ (l.length : Int) <= 20 := by omega
  simp [c6, hL3, hh]
 ·have e : gC l = !(l.any fun e => !ft e) := by unfold gC; rw [<- List.not_all_eq_any_not]; simp; omega
  rw [e]
  have hL2 : (l.length : Int) <= 20 := by omega
  simp [c6, hL2]
  refine aa (by simp) (dB mixed PU Qf aG (fun m => !ft m) l [] _ (by simp) (by simp) (by simp) (fun m hm => xx m _) (by omega)) ?_
  simp [hh]
structure FmSh (m : Fm) : Prop where
 oids : m.oids.length <= 50
 formats : m.formats.length <= 50
 results : m.results.length <= 50
 params : m.params.length <= 50
 cells : ∀ c ∈ m.params, c.2.length <= 300
 name : m.name.length <= 300
 portal : m.portal.length <= 300
 text : m.text.length <= 1000
theorem Cs {m : Fm} (h : ft m = true) : FmSh m := by
 unfold ft nK at h
 simp only [Bool.and_eq_true, Bool.not_eq_true', Bool.or_eq_false_iff, decide_eq_false_iff_not, decide_eq_true_eq] at h
 obtain ⟨⟨h1, h2, h3, h4⟩, h5, h6, h7, h8⟩ := h
 exact ⟨by omega, by omega, by omega, by omega, fun c hc => by
  have := List.any_eq_false.1 h5 c hc
  simp [pR] at this; omega, by omega, by omega, by omega⟩
theorem tY (l : List Cl) (hl : l.length <= 1000000) (hb : ∀ c ∈ l, c.2.length <= 140737488351232) (h : List (List AV)) : Contract Tryz.prog 54 [.sl 2 (ai aC l) none .no] h (.sl 2 (ai aC l) none .no) h [] := by
 by_cases hne : l = []
 ·subst hne
  refine ab PK mixed (by simp [c54]) fun hh hargs => ?_
  simp [c54]
  refine aa (by simp) (qJ _) ?_
  simp
  refine am (D := Nat) (fun _ => ⟨[(3, .sl 2 [] none .no), (8, .v (.int .i64 0)), (9, .v (.int .i64 0))], [], h, []⟩) (fun _ => True) (fun _ => 0) 0 trivial ?_ ?_
  ·simp [Leq, hh]
  ·intro _ _
   simp [hh]
 refine aF (XCode.cuts [false, false, true] c54.code) PK rfl mixed (by simp [c54]) fun hh hargs => ?_
 have hlen := mz (c := aC) (k := 2) (fun _ => rfl) l
 have hfz : frzOk (ai aC l).flatten := by
  cases l with
  | nil => exact absurd rfl hne
  | cons x r => exact trivial
 simp [c54]
 refine aa (by simp) (sj l hne (by omega) _) ?_
 simp
 have hz := jb (c := aC) (k := 2) (fun _ => rfl) l h.length l.length rfl
 have hget := rN l
 have hF := fun n => ti n l
 generalize (ai aC l).flatten = F at *
 refine qj h.length F ⟨[(3, .sl 2 (ai aC l) none .no)], [], h, []⟩ (Nat.le_refl _) hfz ?_ ?_
 ·simp
  refine am (D := Nat) (fun j => ⟨[(3, .bsl h.length 0 2 l.length), (8, .v (.int .i64 l.length)), (9, .v (.int .i64 j))], [], h ++ [F], []⟩) (fun j => j <= l.length) (fun j => l.length - j) 0 (by simp) ?_ ?_
  ·simp [Leq, hh, hF]
  ·intro j hj
   by_cases hlt : j < l.length
   ·have hw : IntKind.i64.wrap ((j : Int) + 1) = (j : Int) + 1 := wrap64 (by omega) (by omega)
    have hg := hget j hlt
    have hfit : j * 2 + 1 + 1 <= F.length := by omega
    have hbl := hb _ (List.getElem_mem hlt)
    generalize l[j] = c at *
    simp [hlt, hg]
    refine aa (by simp) (vf c.2 (by omega) _) ?_
    have hfit2 : j * 2 + 1 < F.length := by omega
    simp [hlt, hg, hw, hfit, hfit2]
    refine ⟨j + 1, by omega, by omega, ?_⟩
    have hq := dd (a := [F.set (j * 2 + 1) (.sl 1 (af c.2) none (.own (.cell h.length (j * 2 + 1))))]) (b := [F]) h 0 ⟨.inr (uU F 0 (j * 2 + 1) _ _ hg (by simp [LeqV])), trivial⟩
    simp [Leq, hh, hF] at hq ⊢
    exact hq
   ·have : j = l.length := by omega
    subst this
    simp [Leq, hh, hz]
 ·simp [hh]
theorem Ao (m : Fm) (hm : FmSh m) (h : List (List AV)) : Contract Tryz.prog 27 [.agg (aG m)] h (.agg (aG m)) h [] := by
 have h1 := hm.oids
 have h2 := hm.formats
 have h3 := hm.results
 have h4 := hm.params
 refine ab Qr mixed (by simp [MC]) fun hh hargs => ?_
 simp [MC, fy]
 refine aa (by simp) (lD m.oids (by omega) _) ?_
 simp
 refine aa (by simp) (lD m.formats (by omega) _) ?_
 simp
 refine aa (by simp) (lD m.results (by omega) _) ?_
 simp
 refine aa (by simp) (tY m.params (by omega) (fun c hc => by have := hm.cells c hc; omega) _) ?_
 simp [hh]
def ey (m : Fm) : Bool := (m.kind != 88) && (be m.kind == 1)
theorem sy (m : Fm) (h : List (List AV)) : Contract Tryz.prog 12 [.agg (aG m)] h (.v (.bool (ey m))) h [] := by
 refine ab PZ mixed (by simp [K0]) fun hh hargs => ?_
 unfold ey
 by_cases hx : m.kind = 88
 ·simp [K0, hx, hh]
 ·have hx2 : (m.kind != 88) = true := by simpa using hx
  simp [K0, hx, hx2]
  refine aa (by simp) (Cm m.kind _) ?_
  simp [hh]
theorem pL (m : Fm) (h : List (List AV)) : Contract Tryz.prog 13 [.agg (aG m)] h (.v (.bool (ey m))) h [] := by
 refine ab P8 mixed (by simp [LO]) fun hh hargs => ?_
 unfold ey
 by_cases hx : m.kind = 88
 ·simp [LO, hx, hh]
 ·have hx2 : (m.kind != 88) = true := by simpa using hx
  simp [LO, hx, hx2]
  refine aa (by simp) (zY m.kind _) ?_
  simp [hh]
theorem iN (name : List UInt8) (h : List (List AV)) : Contract Tryz.prog 58 [.v (.string (ah name))] h (.sl 3 (ai mY [⟨false, name, 0⟩]) none .no) h [] := by
 refine ab QZ mixed (by simp [NL]) fun hh hargs => ?_
 simp [NL, hh, bG]
theorem wn (k id : Int) (h : List (List AV)) : Contract Tryz.prog 60 [.v (.int .i64 k), .v (.int .i64 id)] h (.sl 2 (ai jg [⟨k, id⟩]) none .no) h [] := by
 refine ab QJ mixed (by simp [Mv]) fun hh hargs => ?_
 simp [Mv, hh, sV]
structure Jb where
 m : Fm
 i : Nat
 it : Nat
 l : List En
 spec : List Int
 most : Int
def cq (j : Jb) : List AV := [.v (.int .u8 j.m.kind), .v (.int .u8 j.m.what), .v (.string (ah j.m.name)), .v (.string (ah j.m.portal)), .v (.string (ah j.m.text)), .sl 1 (ai ao j.m.oids) none .no, .sl 1 (ai ao j.m.formats) none .no, .sl 1 (ai ao j.m.results) none .no, .sl 2 (ai aC j.m.params) none .no, .v (.int .i64 j.m.max), .box j.i 0, .box j.it 0, .sl 8 (ai aK j.l) none .no, .sl 1 (ai ao j.spec) none .no, .v (.int .i64 j.most)]
theorem qn (j : Jb) : cq j = [.v (.int .u8 j.m.kind), .v (.int .u8 j.m.what), .v (.string (ah j.m.name)), .v (.string (ah j.m.portal)), .v (.string (ah j.m.text)), .sl 1 (ai ao j.m.oids) none .no, .sl 1 (ai ao j.m.formats) none .no, .sl 1 (ai ao j.m.results) none .no, .sl 2 (ai aC j.m.params) none .no, .v (.int .i64 j.m.max), .box j.i 0, .box j.it 0, .sl 8 (ai aK j.l) none .no, .sl 1 (ai ao j.spec) none .no, .v (.int .i64 j.most)] := rfl
@[simp] theorem Lq (j : Jb) : (cq j).length = 15 := jE
@[simp] theorem Jd (j : Jb) : (cq j).map AV.unown = cq j := jE
@[simp] theorem Jo (j : Jb) : Q0 15 (cq j) = cq j := jE
@[simp] theorem Ft (j : Jb) : Q0 10 (cq j) = aG j.m := jE
@[simp] theorem N5 (j : Jb) (h : 0 < (cq j).length) : (cq j)[0] = .v (.int .u8 j.m.kind) := jE
@[simp] theorem Oy (j : Jb) (h : 2 < (cq j).length) : (cq j)[2] = .v (.string (ah j.m.name)) := jE
@[simp] theorem NM (j : Jb) (h : 4 < (cq j).length) : (cq j)[4] = .v (.string (ah j.m.text)) := jE
@[simp] theorem Oe (j : Jb) (h : 5 < (cq j).length) : (cq j)[5] = .sl 1 (ai ao j.m.oids) none .no := jE
@[simp] theorem LS (j : Jb) (h : 10 < (cq j).length) : (cq j)[10] = .box j.i 0 := jE
@[simp] theorem Li (j : Jb) (h : 13 < (cq j).length) : (cq j)[13] = .sl 1 (ai ao j.spec) none .no := jE
@[simp] theorem Lw (j : Jb) (h : 14 < (cq j).length) : (cq j)[14] = .v (.int .i64 j.most) := jE
theorem iT {j : Jb} {n : Nat} (h1 : j.i < n) (h2 : j.it < n) : dP n (cq j) := by simp [qn, h1, h2]
theorem na (j : Jb) : ∀ c ∈ cq j, c.idOf = none := by intro c hc; rw [qn] at hc; simp at hc; rcases hc with rfl | rfl | rfl | rfl | rfl | rfl | rfl | rfl | rfl | rfl | rfl | rfl | rfl | rfl | rfl <;> rfl
def dc (m : Fm) (name : List UInt8) : En := ⟨cN m.kind m.what, false, name, m.name, [], [], [], []⟩
def named (m : Fm) (name : List UInt8) : Fm := { m with name := name }
section
variable {h : List (List AV)} {lo : Nat} {j : Jb} {T : Tb}
theorem tV (ht : TbAt lo h j.it T) (hl : j.l.length <= 1000000) (hg : ∀ x ∈ j.l, x.good.length <= 1000000) (hi : j.i < h.length) :
  Contract Tryz.prog 55 [.agg (cq j)] h (.tup [.v (.int .i64 ((dj j.m.name (T.get j.m.name) (opsOf j.l)).getD 0)), .v (.bool (dj j.m.name (T.get j.m.name) (opsOf j.l)).isSome)]) h [] := by
 have hi2 := ht.i_lt
 refine ab Qg mixed (by simp [MF]) fun hh hargs => ?_
 have hJ := iT (j := j) (n := h.length + 1) (by omega) (by omega)
 rw [qn] at hJ
 simp [MF, qn]
 refine aa (by simp) (yl (ht.app _ (by simpa using hJ)) j.l hl hg j.m.name) ?_
 simp [hh]
theorem jc (name : List UInt8) (hi : j.i < h.length) (hi2 : j.it < h.length) : Contract Tryz.prog 67 [.agg (cq j), .v (.string (ah name))] h (.agg (aK (dc j.m name))) h [] := by
 refine ab QP mixed (by simp [MV]) fun hh hargs => ?_
 simp [MV, qn]
 refine aj (zh j.m _) (by simp [fy]) (by simp) ?_
 simp [hh, aW, dc]
end
end Go.Proofs.YtdfgljojemmlcaaGreat.Ax
