import Derived.Test.YtdfgljojemmlcaaGreatQAxXr
import Derived.Test.YtdfgljojemmlcaaGreatRows
set_option linter.unusedSimpArgs false
set_option linter.unusedVariables false
namespace Go.Proofs.YtdfgljojemmlcaaGreat.Ax
open Go.RowKit Go By
def Hb:XFun:=⟨19,.seq (.ops [oN 2]) (.seq (.ops [oN 3]) (.seq (.seq (.ops [oM 6 0,oH 7 6,oX 8 (.move (.const (.int .i64 0)))]) (.block 0 (.loop (.seq (.ops [oB 9 .lss 8 7]) (.seq (.cond (.tmp 9) .skip (.exit 0)) (.seq (.block 1 (.seq (.ops [oW 10 1 6 8,oL 11 10,oA 5 11]) (.ops [oM 12 3,oM 13 5,oX 14 (.appendS (.tmp 12) (.tmp 13)),oX 15 (.buildSlice 1 1 zK [(0,.const (.int .u8 0))]),oX 16 (.append 1 1 (.tmp 14) (.tmp 15)),oA 3 16]))) (.ops [oI 17 .add 8 (.int .i64 1),oM 8 17]))))))) (.seq (.ops [oM 18 3,oA 2 18]) .ret))),[.move (.tmp 2)]⟩
theorem Mg : ak Tryz.prog 148 = some Hb := by kernel_rfl
def Hl:XFun:=⟨6,.seq (.ops [oK 2 (.bool false)]) (.seq (.ops [oM 3 0,oX 4 (.call 163 [.tmp 3,.func 164]),oV 5 4,oA 2 5]) .ret),[.move (.tmp 2)]⟩
theorem OV : ak Tryz.prog 143 = some Hl := by kernel_rfl
def Fa:XFun:=⟨9,.seq (.ops [oJ 2 0,oK 4 (.bool false)]) (.seq (.ops [oM 5 1,oX 6 (.mkfn (.func 186) [] [.tmp 2]),oC 7 112 [5,6],oV 8 7,oA 4 8]) .ret),[.move (.tmp 4)]⟩
theorem ME : ak Tryz.prog 179 = some Fa := by kernel_rfl
def Gu:XFun:=⟨8,.seq (.ops [oK 4 (.bool false)]) (.seq (.ops [oM 5 0,oM 6 1,oX 7 (.call 183 [.tmp 5,.tmp 6,.func 184]),oA 4 7]) .ret),[.move (.tmp 4)]⟩
theorem M6 : ak Tryz.prog 169 = some Gu := by kernel_rfl
def Hn:XFun:=⟨9,.seq (.ops [oJ 2 0,oK 4 (.bool false)]) (.seq (.ops [oM 5 1,oX 6 (.mkfn (.func 166) [] [.tmp 2]),oC 7 112 [5,6],oV 8 7,oA 4 8]) .ret),[.move (.tmp 4)]⟩
theorem NJ : ak Tryz.prog 144 = some Hn := by kernel_rfl
def HI:XFun:=⟨8,.seq (.ops [oJ 2 0,oN 4]) (.seq (.ops [oM 5 1,oX 6 (.mkfn (.func 176) [] [.tmp 2]),oC 7 175 [5,6],oA 4 7]) .ret),[.move (.tmp 4)]⟩
theorem Nx : ak Tryz.prog 153 = some HI := by kernel_rfl
def F9:XFun:=⟨5,.seq (.ops [oN 2]) (.seq (.ops [oM 3 0,oX 4 (.call 172 [.tmp 3,.func 173]),oA 2 4]) .ret),[.move (.tmp 2)]⟩
theorem Pp : ak Tryz.prog 150 = some F9 := by kernel_rfl
def EG:XFun:=⟨6,.seq (.ops [oK 2 (.bool false)]) (.seq (.ops [oM 3 0,oX 4 (.call 44 [.tmp 3,.func 177]),oV 5 4,oA 2 5]) .ret),[.move (.tmp 2)]⟩
theorem OR : ak Tryz.prog 156 = some EG := by kernel_rfl
def G8:XFun:=⟨6,.seq (.ops [oK 2 (.bool false)]) (.seq (.ops [oM 3 0,oC 4 165 [3],oV 5 4,oA 2 5]) .ret),[.move (.tmp 2)]⟩
theorem M8 : ak Tryz.prog 164 = some G8 := by kernel_rfl
def Gi:XFun:=⟨15,.seq (.ops [oK 3 (.bool false)]) (.seq (.ops [oM 4 0,oL 5 1,oC 6 114 [4,5],oV 7 6,oM 8 7,oG 8 false (oM 9 0),oG 8 false (oL 10 1),oG 8 false (oC 11 187 [9,10]),oG 8 false (oM 12 0),oG 8 false (oB 13 .neq 11 12),oU 14 8 13,oA 3 14]) .ret),[.move (.tmp 3)]⟩
theorem NZ : ak Tryz.prog 186 = some Gi := by kernel_rfl
def B4:XFun:=⟨17,.seq (.ops [oJ 2 0,oJ 3 1,oK 4 (.bool false)]) (.seq (.ops [oF 5 0 2,oL 6 5,oF 7 0 3,oL 8 7,oX 9 (.beq false (.tmp 6) (.tmp 8)),oM 10 9,oG 10 true (oF 11 1 2),oG 10 true (oL 12 11),oG 10 true (oF 13 1 3),oG 10 true (oL 14 13),oG 10 true (oC 15 185 [12,14]),oT 16 10 15,oA 4 16]) .ret),[.move (.tmp 4)]⟩
theorem OH : ak Tryz.prog 184 = some B4 := by kernel_rfl
def DG:XFun:=⟨12,.seq (.ops [oK 3 (.bool false)]) (.seq (.ops [oM 4 0,oI 5 .lss 4 (.int .i64 0),oM 6 5,oG 6 false (oM 7 0),oG 6 false (oL 8 1),oG 6 false (oC 9 114 [7,8]),oG 6 false (oV 10 9),oU 11 6 10,oA 3 11]) .ret),[.move (.tmp 3)]⟩
theorem Np : ak Tryz.prog 166 = some DG := by kernel_rfl
def Hy:XFun:=⟨24,.seq (.ops [oN 4]) (.seq (.ops [oM 8 0,oH 9 8,oX 10 (.call 85 [.const (.slice none 0 0),.tmp 9,.const (.int .i64 2)]),oA 5 10]) (.seq (.seq (.ops [oM 11 0,oH 12 11,oX 13 (.move (.const (.int .i64 0)))]) (.block 0 (.loop (.seq (.ops [oB 14 .lss 13 12]) (.seq (.cond (.tmp 14) .skip (.exit 0)) (.seq (.block 1 (.seq (.ops [oW 15 1 11 13,oL 16 15,oA 7 16]) (.ops [oM 17 5,oM 18 1,oM 19 7,oX 20 (.callv (.tmp 18) [.tmp 19]),oX 21 (.append 1 1 (.tmp 17) (.tmp 20)),oA 5 21]))) (.ops [oI 22 .add 13 (.int .i64 1),oM 13 22]))))))) (.seq (.ops [oM 23 5,oA 4 23]) .ret))),[.move (.tmp 4)]⟩
theorem NB : ak Tryz.prog 175 = some Hy := by kernel_rfl
def H0:XFun:=⟨7,.seq (.ops [oN 3]) (.seq (.ops [oM 4 0,oL 5 1,oX 6 (.call 85 [.const (.slice none 0 0),.tmp 4,.tmp 5]),oA 3 6]) .ret),[.move (.tmp 3)]⟩
theorem Oa : ak Tryz.prog 176 = some H0 := by kernel_rfl
def EZ:XFun:=⟨24,.seq (.ops [oN 4]) (.seq (.ops [oM 8 0,oH 9 8,oX 10 (.call 85 [.const (.slice none 0 0),.tmp 9,.const (.int .i64 2)]),oA 5 10]) (.seq (.seq (.ops [oM 11 0,oH 12 11,oX 13 (.move (.const (.int .i64 0)))]) (.block 0 (.loop (.seq (.ops [oB 14 .lss 13 12]) (.seq (.cond (.tmp 14) .skip (.exit 0)) (.seq (.block 1 (.seq (.ops [oW 15 2 11 13,oP 16 2 15,oZ 7 K4,oS 2 7 16]) (.ops [oM 17 5,oM 18 1,oP 19 2 7,oX 20 (.callv (.tmp 18) [.tmp 19]),oX 21 (.append 1 1 (.tmp 17) (.tmp 20)),oA 5 21]))) (.ops [oI 22 .add 13 (.int .i64 1),oM 13 22]))))))) (.seq (.ops [oM 23 5,oA 4 23]) .ret))),[.move (.tmp 4)]⟩
theorem MS : ak Tryz.prog 172 = some EZ := by kernel_rfl
def xH:XFun:=⟨13,.seq (.ops [oJ 1 0,oN 2]) (.seq (.seq (.ops [oF 3 0 1,oL 4 3]) (.cond (.tmp 4) (.seq (.ops [oX 5 (.call 85 [.const (.slice none 0 0),.const (.int .i64 4294967295),.const (.int .i64 4)]),oA 2 5]) .ret) .skip)) (.seq (.draws (.take (oF 6 1 1) (.take (oL 7 6) (.take (oH 8 7) (.take (oF 10 1 1) (.take (oL 11 10) (.only (oX 9 (.call 85 [.const (.slice none 0 0),.tmp 8,.const (.int .i64 4)])) (.only (oX 12 (.append 1 1 (.tmp 9) (.tmp 11))) (.take (oA 2 12) .done))))))))) .ret)),[.move (.tmp 2)]⟩
theorem MJ : ak Tryz.prog 173 = some xH := by kernel_rfl
def AQ:XFun:=⟨17,.seq (.ops [oJ 1 0,oK 2 (.bool false)]) (.seq (.ops [oF 3 1 1,oL 4 3,oH 5 4,oI 6 .gtr 5 (.int .i64 1048576),oM 7 6,oG 7 false (oF 8 0 1),oG 7 false (oL 9 8),oG 7 false (oM 10 9),oG 10 true (oF 11 1 1),oG 10 true (oL 12 11),oG 10 true (oH 13 12),oG 10 true (oI 14 .gtr 13 (.int .i64 0)),oG 7 false (oT 15 10 14),oU 16 7 15,oA 2 16]) .ret),[.move (.tmp 2)]⟩
theorem Mi : ak Tryz.prog 177 = some AQ := by kernel_rfl
end Go.Proofs.YtdfgljojemmlcaaGreat.Ax
