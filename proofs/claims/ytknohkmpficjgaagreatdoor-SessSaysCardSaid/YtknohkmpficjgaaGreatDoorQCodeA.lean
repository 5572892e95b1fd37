import Derived.Test.YtknohkmpficjgaaGreatDoorQAxXr
import Derived.Test.YtknohkmpficjgaaGreatDoorRows
set_option linter.unusedSimpArgs false
set_option linter.unusedVariables false
namespace Go.Proofs.YtknohkmpficjgaaGreatDoor.Ax
open Go.RowKit Go By
def FV:XFun:=⟨10,.seq (.ops [oK 4 (.bool false)]) (.seq (.ops [oM 5 0,oX 6 (.b2s (.tmp 5)),oM 7 1,oX 8 (.b2s (.tmp 7)),oB 9 .eql 6 8,oA 4 9]) .ret),[.move (.tmp 4)]⟩
theorem OA : ai Tryz.prog 120 = some FV := by kernel_rfl
def P7:XFun:=⟨9,.seq (.ops [oK 4 (.bool false)]) (.seq (.ops [oM 5 0,oM 6 1,oC 7 71 [5,6],oI 8 .geq 7 (.int .i64 0),oA 4 8]) .ret),[.move (.tmp 4)]⟩
theorem PX : ai Tryz.prog 35 = some P7 := by kernel_rfl
def Qg:XFun:=⟨19,.seq (.ops [oK 4 (.int .i64 0)]) (.seq (.seq (.ops [oM 6 0,oH 7 6,oX 8 (.move (.const (.int .i64 0)))]) (.block 0 (.loop (.seq (.ops [oB 9 .lss 8 7]) (.seq (.cond (.tmp 9) .skip (.exit 0)) (.seq (.block 1 (.seq (.ops [oM 10 8,oA 5 10]) (.seq (.ops [oM 11 1,oM 12 0,oM 13 5,oW 14 2 12 13,oP 15 2 14,oX 16 (.callv (.tmp 11) [.tmp 15])]) (.cond (.tmp 16) (.seq (.ops [oM 17 5,oA 4 17]) .ret) .skip)))) (.ops [oI 18 .add 8 (.int .i64 1),oM 8 18]))))))) (.seq (.ops [oK 4 (.int .i64 (-1))]) .ret)),[.move (.tmp 4)]⟩
theorem P1 : ai Tryz.prog 71 = some Qg := by kernel_rfl
def Qb:XFun:=⟨9,.seq (.ops [oK 4 (.bool false)]) (.seq (.ops [oM 5 0,oM 6 1,oC 7 113 [5,6],oI 8 .geq 7 (.int .i64 0),oA 4 8]) .ret),[.move (.tmp 4)]⟩
theorem QQ : ai Tryz.prog 61 = some Qb := by kernel_rfl
def Nk:XFun:=⟨19,.seq (.ops [oK 4 (.int .i64 0)]) (.seq (.seq (.ops [oM 6 0,oH 7 6,oX 8 (.move (.const (.int .i64 0)))]) (.block 0 (.loop (.seq (.ops [oB 9 .lss 8 7]) (.seq (.cond (.tmp 9) .skip (.exit 0)) (.seq (.block 1 (.seq (.ops [oM 10 8,oA 5 10]) (.seq (.ops [oM 11 1,oM 12 0,oM 13 5,oW 14 1 12 13,oL 15 14,oX 16 (.callv (.tmp 11) [.tmp 15])]) (.cond (.tmp 16) (.seq (.ops [oM 17 5,oA 4 17]) .ret) .skip)))) (.ops [oI 18 .add 8 (.int .i64 1),oM 8 18]))))))) (.seq (.ops [oK 4 (.int .i64 (-1))]) .ret)),[.move (.tmp 4)]⟩
theorem Ox : ai Tryz.prog 113 = some Nk := by kernel_rfl
def Qc:XFun:=⟨9,.seq (.ops [oK 4 (.bool false)]) (.seq (.ops [oM 5 0,oM 6 1,oC 7 115 [5,6],oI 8 .geq 7 (.int .i64 0),oA 4 8]) .ret),[.move (.tmp 4)]⟩
theorem P0 : ai Tryz.prog 64 = some Qc := by kernel_rfl
def Nl:XFun:=⟨19,.seq (.ops [oK 4 (.int .i64 0)]) (.seq (.seq (.ops [oM 6 0,oH 7 6,oX 8 (.move (.const (.int .i64 0)))]) (.block 0 (.loop (.seq (.ops [oB 9 .lss 8 7]) (.seq (.cond (.tmp 9) .skip (.exit 0)) (.seq (.block 1 (.seq (.ops [oM 10 8,oA 5 10]) (.seq (.ops [oM 11 1,oM 12 0,oM 13 5,oW 14 1 12 13,oL 15 14,oX 16 (.callv (.tmp 11) [.tmp 15])]) (.cond (.tmp 16) (.seq (.ops [oM 17 5,oA 4 17]) .ret) .skip)))) (.ops [oI 18 .add 8 (.int .i64 1),oM 8 18]))))))) (.seq (.ops [oK 4 (.int .i64 (-1))]) .ret)),[.move (.tmp 4)]⟩
theorem KR : ai Tryz.prog 115 = some Nl := by kernel_rfl
def Qd:XFun:=⟨26,.seq (.ops [oK 4 (.bool false)]) (.seq (.seq (.ops [oM 6 0,oH 7 6,oM 8 1,oH 9 8,oB 10 .neq 7 9]) (.cond (.tmp 10) (.seq (.ops [oK 4 (.bool false)]) .ret) .skip)) (.seq (.seq (.ops [oM 11 0,oH 12 11,oX 13 (.move (.const (.int .i64 0)))]) (.block 0 (.loop (.seq (.ops [oB 14 .lss 13 12]) (.seq (.cond (.tmp 14) .skip (.exit 0)) (.seq (.block 1 (.seq (.ops [oM 15 13,oA 5 15]) (.seq (.draws (.take (oM 16 0) (.take (oM 17 5) (.take (oW 18 1 16 17) (.take (oL 19 18) (.take (oM 20 1) (.take (oM 21 5) (.take (oW 22 1 20 21) (.take (oL 23 22) (.take (oB 24 .neq 19 23) .done)))))))))) (.cond (.tmp 24) (.seq (.ops [oK 4 (.bool false)]) .ret) .skip)))) (.ops [oI 25 .add 13 (.int .i64 1),oM 13 25]))))))) (.seq (.ops [oK 4 (.bool true)]) .ret))),[.move (.tmp 4)]⟩
theorem KY : ai Tryz.prog 67 = some Qd := by kernel_rfl
def Nn:XFun:=⟨32,.seq (.ops [oK 6 (.bool false)]) (.seq (.seq (.ops [oM 10 0,oH 11 10,oM 12 1,oH 13 12,oB 14 .neq 11 13]) (.cond (.tmp 14) (.seq (.ops [oK 6 (.bool false)]) .ret) .skip)) (.seq (.seq (.ops [oM 15 0,oH 16 15,oX 17 (.move (.const (.int .i64 0)))]) (.block 0 (.loop (.seq (.ops [oB 18 .lss 17 16]) (.seq (.cond (.tmp 18) .skip (.exit 0)) (.seq (.block 1 (.seq (.ops [oM 19 17,oW 20 2 15 17,oP 21 2 20,oZ 8 xg,oA 7 19,oS 2 8 21]) (.seq (.ops [oM 22 1,oM 23 7,oW 24 2 22 23,oP 25 2 24,oZ 9 xg,oS 2 9 25]) (.seq (.ops [oM 26 2,oP 27 2 8,oP 28 2 9,oX 29 (.callv (.tmp 26) [.tmp 27,.tmp 28]),oV 30 29]) (.cond (.tmp 30) (.seq (.ops [oK 6 (.bool false)]) .ret) .skip))))) (.ops [oI 31 .add 17 (.int .i64 1),oM 17 31]))))))) (.seq (.ops [oK 6 (.bool true)]) .ret))),[.move (.tmp 6)]⟩
theorem Oy : ai Tryz.prog 118 = some Nn := by kernel_rfl
def Kx:XFun:=⟨8,.seq (.ops [oN 2]) (.seq (.seq (.ops [oM 3 0,oX 4 (.nileq false (.tmp 3))]) (.cond (.tmp 4) (.seq (.ops [oN 2]) .ret) .skip)) (.seq (.ops [oX 5 (.emptyS 1),oM 6 0,oX 7 (.append 1 8 (.tmp 5) (.tmp 6)),oA 2 7]) .ret)),[.move (.tmp 2)]⟩
theorem P2 : ai Tryz.prog 84 = some Kx := by kernel_rfl
end Go.Proofs.YtknohkmpficjgaaGreatDoor.Ax
