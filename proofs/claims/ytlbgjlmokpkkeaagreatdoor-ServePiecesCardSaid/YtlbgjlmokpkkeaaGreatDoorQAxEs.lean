import Derived.Test.YtlbgjlmokpkkeaaGreatDoorQAxSf
import Derived.Test.YtlbgjlmokpkkeaaGreatDoorQAxWf
open List renaming getElem?_append_left -> aaa, mem_singleton -> aab, getElem?_eq_some_iff -> aac, getElem?_set_ne -> aad, length_set -> aae, getElem?_set_self -> aaf, set_append_left -> aag, getElem?_append_right -> aah, set_append_right -> aai, mem_append -> aal
open Nat renaming sub_self -> aaj, le_refl -> aak
set_option linter.all false
set_option maxRecDepth 10000
namespace Go.Proofs.YtlbgjlmokpkkeaaGreatDoor
namespace Ax
open Go.RowKit Go By
def Vu:XFun:=⟨21,.seq (.ops [oK 6 (.pointer none)]) (.seq (.ops [oX 10 (.call 33 [.const (.int .i64 65536),.const (.int .i64 262144),.const (.bool true)]),oM 9 10,oE 11 9 0,oE 12 9 1,oA 7 11,oA 8 12]) (.seq (.ops [oM 13 7,oM 14 0,oC 15 34 [14],oM 16 1,oC 17 35 [16],oM 18 2,oX 19 (.build [.sl 0 [] (some true) .exact,.v (.pointer none),.v (.pointer none),.sl 0 [] (some true) .exact,.v (.int .i64 0),.v (.bool false),.v (.bool false)] [(1,1,.tmp 13),(2,1,.tmp 15),(3,1,.tmp 17),(4,1,.tmp 18)]),oJ 20 19,oA 6 20]) .ret)),[.move (.tmp 6)]⟩
theorem Zn:aj Tryz.prog 18=some Vu:=by kernel_rfl
def Sb:XFun:=⟨20,.seq (.ops [oK 4 (.int .i64 0)]) (.seq (.block 0 (.seq (.ops [oM 6 0,oC 7 23 [6],oV 8 7,oA 5 8]) (.cond (.tmp 5) (.seq (.ops [oK 4 (.int .i64 2)]) .ret) (.seq (.ops [oM 10 0,oX 11 (.nilCheck (.tmp 10)),oF 12 6 11,oL 13 12,oA 9 13]) (.cond (.tmp 9) (.seq (.ops [oK 4 (.int .i64 10)]) .ret) .skip))))) (.seq (.ops [oM 14 0,oX 15 (.nilCheck (.tmp 14)),oF 16 1 15,oL 17 16,oM 18 1,oC 19 29 [17,18],oA 4 19]) .ret)),[.move (.tmp 4)]⟩
theorem Y0:aj Tryz.prog 12=some Sb:=by kernel_rfl
def JB:XFun:=⟨48,.seq (.ops [oZ 2 iQ,oK 3 (.bool false)]) (.seq (.seq (.ops [oM 7 0,oC 8 23 [7],oV 9 8,oM 10 9,oG 10 false (oM 11 0),oG 10 false (oX 12 (.nilCheck (.tmp 11))),oG 10 false (oF 13 6 12),oG 10 false (oL 14 13),oU 15 10 14]) (.cond (.tmp 15) (.seq (.ops [oX 16 (.build iQ []),oS 10 2 16,oK 3 (.bool false)]) .ret) .skip)) (.seq (.ops [oM 18 0,oX 19 (.nilCheck (.tmp 18)),oF 20 1 19,oL 21 20,oC 22 24 [21],oM 17 22,oE 23 17 0,oE 24 17 1,oE 25 17 2,oZ 4 dA,oS 2 4 23,oA 5 24,oA 6 25]) (.seq (.block 0 (.seq (.ops [oM 30 6,oI 31 .neq 30 (.int .i64 0),oA 29 31]) (.cond (.tmp 29) (.ops [oM 32 0,oC 33 25 [32]]) (.seq (.ops [oM 35 5,oV 36 35,oA 34 36]) (.cond (.tmp 34) .skip (.seq (.ops [oM 38 0,oX 39 (.nilCheck (.tmp 38)),oF 40 5 39,oL 41 40,oA 37 41]) (.cond (.tmp 37) (.seq (.ops [oM 42 0,oP 43 2 4,oC 44 26 [42,43],oE 45 44 0,oE 46 44 1,oS 10 2 45,oA 3 46]) .ret) (.ops [oM 26 0,oP 27 2 4,oC 28 27 [26,27]])))))))) (.seq (.ops [oX 47 (.build iQ []),oS 10 2 47,oK 3 (.bool false)]) .ret)))),[.loadN 10 (.tmp 2),.move (.tmp 3)]⟩
theorem UB:aj Tryz.prog 10=some JB:=by kernel_rfl
def Sa:XFun:=⟨14,.seq (.ops [oZ 2 dA,oK 3 (.bool false)]) (.seq (.seq (.ops [oM 4 0,oC 5 23 [4],oV 6 5]) (.cond (.tmp 6) (.seq (.ops [oX 7 (.build dA []),oS 2 2 7,oK 3 (.bool false)]) .ret) .skip)) (.seq (.ops [oM 8 0,oX 9 (.nilCheck (.tmp 8)),oF 10 0 9,oC 11 28 [10],oE 12 11 0,oE 13 11 1,oS 2 2 12,oA 3 13]) .ret)),[.loadN 2 (.tmp 2),.move (.tmp 3)]⟩
theorem YZ:aj Tryz.prog 11=some Sa:=by kernel_rfl
def Vl:XFun:=⟨11,.seq (.ops [oK 2 (.bool false)]) (.seq (.ops [oM 3 0,oC 4 23 [3],oM 5 4,oG 5 true (oM 6 0),oG 5 true (oX 7 (.nilCheck (.tmp 6))),oG 5 true (oF 8 6 7),oG 5 true (oL 9 8),oT 10 5 9,oA 2 10]) .ret),[.move (.tmp 2)]⟩
theorem Zj:aj Tryz.prog 13=some Vl:=by kernel_rfl
def VD:XFun:=⟨12,.seq (.ops [oK 2 (.bool false)]) (.seq (.ops [oM 3 0,oX 4 (.pnileq true (.tmp 3)),oM 5 4,oG 5 true (oM 6 0),oG 5 true (oX 7 (.nilCheck (.tmp 6))),oG 5 true (oF 8 2 7),oG 5 true (oL 9 8),oG 5 true (oX 10 (.pnileq true (.tmp 9))),oT 11 5 10,oA 2 11]) .ret),[.move (.tmp 2)]⟩
theorem Zr:aj Tryz.prog 23=some VD:=by kernel_rfl
def VF:XFun:=⟨51,.seq (.ops [oJ 3 1]) (.seq (.ops [oF 7 1 3,oL 8 7,oC 9 47 [8],oM 6 9,oE 10 6 0,oE 11 6 1,oZ 4 xo,oS 4 4 10,oA 5 11]) (.block 0 (.seq (.ops [oM 13 5,oI 14 .neq 13 (.int .i64 0),oM 15 14,oG 15 false (oF 16 0 4),oG 15 false (oL 17 16),oG 15 false (oI 18 .eql 17 (.int .i64 80877102)),oU 19 15 18,oA 12 19]) (.cond (.tmp 12) (.ops [oM 20 0,oX 21 (.nilCheck (.tmp 20)),oF 22 6 21,oQ 1 22 (.bool true)]) (.seq (.ops [oF 24 0 4,oL 25 24,oI 26 .eql 25 (.int .i64 196608),oA 23 26]) (.cond (.tmp 23) (.seq (.draws (.take (oM 27 0) (.take (oX 28 (.nilCheck (.tmp 27))) (.take (oF 29 0 28) (.take (oM 30 0) (.take (oX 31 (.nilCheck (.tmp 30))) (.take (oF 32 3 31) (.take (oL 33 32) (.take (oM 34 0) (.take (oX 35 (.nilCheck (.tmp 34))) (.take (oF 36 4 35) (.take (oL 37 36) (.only (oC 38 48 [33,37]) (.last (oC 39 43 [29,38]))))))))))))))) (.seq (.ops [oM 40 0,oX 41 (.nilCheck (.tmp 40)),oF 42 3 41,oQ 1 42 (.slice none 0 0)]) (.seq (.ops [oM 43 0,oX 44 (.nilCheck (.tmp 43)),oF 45 1 44,oL 46 45,oC 47 49 [46]]) (.ops [oM 48 0,oX 49 (.nilCheck (.tmp 48)),oF 50 5 49,oQ 1 50 (.bool true)])))) .skip)))))),[]⟩
theorem Zu:aj Tryz.prog 27=some VF:=by kernel_rfl
def VE:XFun:=⟨35,.seq (.ops [oJ 3 1,oZ 4 iQ,oK 5 (.bool false)]) (.seq (.ops [oP 9 2 3,oC 10 45 [9],oM 8 10,oE 11 8 0,oE 12 8 1,oZ 6 iQ,oS 10 6 11,oA 7 12]) (.seq (.seq (.ops [oM 13 7,oI 14 .neq 13 (.int .i64 0)]) (.cond (.tmp 14) (.seq (.ops [oM 15 0,oC 16 25 [15]]) (.seq (.ops [oX 17 (.build iQ []),oS 10 4 17,oK 5 (.bool false)]) .ret)) .skip)) (.seq (.draws (.take (oM 18 0) (.take (oX 19 (.nilCheck (.tmp 18))) (.take (oF 20 0 19) (.take (oM 21 0) (.take (oX 22 (.nilCheck (.tmp 21))) (.take (oF 23 2 22) (.take (oL 24 23) (.take (oP 25 10 6) (.only (oC 26 46 [24,25]) (.last (oC 27 43 [20,26])))))))))))) (.seq (.ops [oM 28 0,oF 29 0 6,oL 30 29,oI 31 .eql 30 (.int .u8 88),oX 32 (.nilCheck (.tmp 28)),oF 33 6 32,oS 1 33 31]) (.seq (.ops [oP 34 10 6,oS 10 4 34,oK 5 (.bool true)]) .ret))))),[.loadN 10 (.tmp 4),.move (.tmp 5)]⟩
theorem Zt:aj Tryz.prog 26=some VE:=by kernel_rfl
def VK:XFun:=⟨24,.seq (.ops [oN 2]) (.seq (.ops [oN 3]) (.seq (.seq (.ops [oM 6 0,oH 7 6,oX 8 (.move (.const (.int .i64 0)))]) (.block 0 (.loop (.seq (.ops [oB 9 .lss 8 7]) (.seq (.cond (.tmp 9) .skip (.exit 0)) (.seq (.block 1 (.seq (.ops [oW 10 2 6 8,oP 11 2 10,oZ 5 jX,oS 2 5 11]) (.draws (.take (oM 12 3) (.take (oF 13 0 5) (.take (oL 14 13) (.take (oF 16 1 5) (.take (oL 17 16) (.only (oC 15 53 [14]) (.only (oC 18 53 [17]) (.take (oX 19 (.build jX [(0,1,.tmp 15),(1,1,.tmp 18)])) (.only (oR 20 2 1 19 jX) (.only (oX 21 (.append 2 32 (.tmp 12) (.tmp 20))) (.take (oA 3 21) .done)))))))))))))) (.ops [oI 22 .add 8 (.int .i64 1),oM 8 22]))))))) (.seq (.ops [oM 23 3,oA 2 23]) .ret))),[.move (.tmp 2)]⟩
theorem ZA:aj Tryz.prog 35=some VK:=by kernel_rfl
def c43:XFun:=⟨32,.seq (.ops [oM 8 1,oH 9 8,oX 10 (.move (.const (.int .i64 0)))]) (.block 0 (.loop (.seq (.ops [oB 11 .lss 10 9]) (.seq (.cond (.tmp 11) .skip (.exit 0)) (.seq (.block 1 (.seq (.ops [oW 12 11 8 10,oP 13 11 12,oZ 5 bZ,oS 11 5 13]) (.seq (.ops [oP 15 11 5,oC 16 64 [15],oM 14 16,oE 17 14 0,oE 18 14 1,oZ 6 dA,oS 2 6 17,oA 7 18]) (.seq (.ops [oM 19 7,oI 20 .eql 19 (.int .i64 0)]) (.cond (.tmp 20) (.draws (.take (oM 21 0) (.take (oM 22 0) (.take (oX 23 (.nilCheck (.tmp 22))) (.take (oF 24 0 23) (.take (oL 25 24) (.take (oP 26 2 6) (.only (oR 27 2 1 26 dA) (.only (oX 28 (.append 2 32 (.tmp 25) (.tmp 27))) (.take (oX 29 (.nilCheck (.tmp 21))) (.take (oF 30 0 29) (.last (oS 1 30 28))))))))))))) .skip))))) (.ops [oI 31 .add 10 (.int .i64 1),oM 10 31])))))),[]⟩
theorem ZG:aj Tryz.prog 43=some c43:=by kernel_rfl
def Sf:XFun:=⟨33,.seq (.ops [oZ 2 dA,oK 3 (.bool false)]) (.seq (.seq (.ops [oM 5 0,oX 6 (.nilCheck (.tmp 5)),oF 7 0 6,oL 8 7,oH 9 8,oI 10 .eql 9 (.int .i64 0)]) (.cond (.tmp 10) (.seq (.ops [oX 11 (.build dA []),oS 2 2 11,oK 3 (.bool false)]) .ret) .skip)) (.seq (.ops [oM 12 0,oX 13 (.nilCheck (.tmp 12)),oF 14 0 13,oL 15 14,oX 16 (.iaddr 2 (.tmp 15) (.const (.int .i64 0))),oP 17 2 16,oZ 4 dA,oS 2 4 17]) (.seq (.ops [oM 18 0,oX 19 (.nilCheck (.tmp 18)),oF 20 0 19,oL 21 20,oX 22 (.build dA []),oX 23 (.iaddr 2 (.tmp 21) (.const (.int .i64 0))),oS 2 23 22]) (.seq (.ops [oM 24 0,oM 25 0,oX 26 (.nilCheck (.tmp 25)),oF 27 0 26,oL 28 27,oX 29 (.slice 2 (.tmp 28) (some (.const (.int .i64 1))) none none),oX 30 (.nilCheck (.tmp 24)),oF 31 0 30,oS 1 31 29]) (.seq (.ops [oP 32 2 4,oS 2 2 32,oK 3 (.bool true)]) .ret))))),[.loadN 2 (.tmp 2),.move (.tmp 3)]⟩
theorem Y3:aj Tryz.prog 28=some Sf:=by kernel_rfl
def c6:XFun:=⟨73,.seq (.ops [oK 0 (.bool false)]) (.seq (.ops [oC 10 19 [],oX 11 (.call 18 [.tmp 10,.const (.slice none 0 0),.const (.int .i64 0)]),oA 1 11]) (.seq (.seq (.ops [oM 12 1,oX 13 (.pnileq false (.tmp 12)),oM 14 13,oG 14 false (oM 15 1),oG 14 false (oC 16 7 []),oG 14 false (oC 17 12 [15,16]),oG 14 false (oI 18 .neq 17 (.int .i64 0)),oU 19 14 18]) (.cond (.tmp 19) (.seq (.ops [oK 0 (.bool false)]) .ret) .skip)) (.seq (.ops [oM 20 1,oC 21 10 [20]]) (.seq (.ops [oM 23 1,oC 24 11 [23],oM 22 24,oE 25 22 0,oE 26 22 1,oZ 2 dA,oS 2 2 25,oA 3 26]) (.seq (.ops [oM 28 1,oC 29 11 [28],oM 27 29,oE 30 27 0,oE 31 27 1,oZ 4 dA,oS 2 4 30,oA 5 31]) (.seq (.ops [oM 33 1,oC 34 11 [33],oM 32 34,oE 35 32 0,oE 36 32 1,oZ 6 dA,oS 2 6 35,oA 7 36]) (.seq (.ops [oM 38 1,oC 39 11 [38],oM 37 39,oE 40 37 0,oE 41 37 1,oZ 8 dA,oS 2 8 40,oA 9 41]) (.seq (.ops [oM 42 3,oM 43 42,oG 43 true (oM 44 5),oT 45 43 44,oM 46 45,oG 46 true (oM 47 7),oT 48 46 47,oM 49 48,oG 49 true (oM 50 9),oG 49 true (oV 51 50),oT 52 49 51,oM 53 52,oG 53 true (oF 54 0 2),oG 53 true (oL 55 54),oG 53 true (oI 56 .eql 55 (.int .u8 82)),oT 57 53 56,oM 58 57,oG 58 true (oF 59 0 4),oG 58 true (oL 60 59),oG 58 true (oI 61 .eql 60 (.int .u8 75)),oT 62 58 61,oM 63 62,oG 63 true (oF 64 0 6),oG 63 true (oL 65 64),oG 63 true (oI 66 .eql 65 (.int .u8 90)),oT 67 63 66,oM 68 67,oG 68 true (oM 69 1),oG 68 true (oC 70 13 [69]),oG 68 true (oV 71 70),oT 72 68 71,oA 0 72]) .ret)))))))),[.move (.tmp 0)]⟩
theorem k6:aj Tryz.prog 6=some c6:=by kernel_rfl
def c9:XFun:=⟨93,.seq (.ops [oK 4 (.string (af []))]) (.seq (.ops [oC 16 19 [],oX 17 (.call 18 [.tmp 16,.const (.slice none 0 0),.const (.int .i64 0)]),oA 5 17]) (.seq (.ops [oK 6 (.string (af []))]) (.seq (.ops [oK 7 (.int .i64 0)]) (.seq (.seq (.ops [oK 8 (.int .i64 0)]) (.block 0 (.loop (.seq (.seq (.ops [oM 18 8,oM 19 1,oH 20 19,oB 21 .leq 18 20]) (.cond (.tmp 21) .skip (.exit 0))) (.seq (.block 1 (.seq (.ops [oM 24 0,oH 25 24,oM 26 7,oB 27 .sub 25 26,oA 9 27]) (.seq (.seq (.ops [oM 28 8,oM 29 1,oH 30 29,oB 31 .lss 28 30]) (.cond (.tmp 31) (.ops [oM 32 9,oM 33 1,oM 34 8,oW 35 1 33 34,oL 36 35,oX 37 (.conv .i64 (.tmp 36)),oX 38 (.minI [.tmp 32,.tmp 37]),oA 9 38]) .skip)) (.seq (.ops [oM 39 5,oM 40 0,oM 41 7,oM 42 7,oM 43 9,oB 44 .add 42 43,oX 45 (.slice 1 (.tmp 40) (some (.tmp 41)) (some (.tmp 44)) none),oC 46 12 [39,45]]) (.seq (.ops [oM 47 7,oM 48 9,oB 49 .add 47 48,oA 7 49]) (.seq (.seq (.ops [oX 50 (.move (.const (.int .i64 0)))]) (.block 2 (.loop (.seq (.ops [oI 51 .lss 50 (.int .i64 700)]) (.seq (.cond (.tmp 51) .skip (.exit 2)) (.seq (.block 3 (.seq (.ops [oM 53 5,oC 54 10 [53],oM 52 54,oE 55 52 0,oE 56 52 1,oZ 10 iQ,oS 10 10 55,oA 11 56]) (.seq (.ops [oM 57 11,oV 58 57,oM 59 58,oG 59 true (oF 60 0 10),oG 59 true (oL 61 60),oG 59 true (oI 62 .eql 61 (.int .u8 0)),oT 63 59 62]) (.cond (.tmp 63) (.seq (.ops [oM 65 5,oC 66 10 [65],oM 64 66,oE 67 64 0,oE 68 64 1,oZ 12 iQ,oS 10 12 67,oA 13 68]) (.seq (.ops [oM 69 13,oV 70 69]) (.cond (.tmp 70) (.exit 2) .skip))) .skip)))) (.ops [oI 71 .add 50 (.int .i64 1),oM 50 71]))))))) (.seq (.ops [oX 72 (.move (.const (.int .i64 0)))]) (.block 4 (.loop (.seq (.ops [oI 73 .lss 72 (.int .i64 5000)]) (.seq (.cond (.tmp 73) .skip (.exit 4)) (.seq (.block 5 (.seq (.ops [oM 75 5,oC 76 11 [75],oM 74 76,oE 77 74 0,oE 78 74 1,oZ 14 dA,oS 2 14 77,oA 15 78]) (.seq (.seq (.ops [oM 79 15,oV 80 79]) (.cond (.tmp 80) (.exit 4) .skip)) (.ops [oM 81 6,oF 82 0 14,oL 83 82,oR 84 1 1 83 ky,oX 85 (.b2s (.tmp 84)),oF 86 1 14,oL 87 86,oX 88 (.b2s (.tmp 87)),oB 89 .add 85 88,oB 90 .add 81 89,oA 6 90])))) (.ops [oI 91 .add 72 (.int .i64 1),oM 72 91]))))))))))))) (.ops [oM 22 8,oI 23 .add 22 (.int .i64 1),oA 8 23])))))) (.seq (.ops [oM 92 6,oA 4 92]) .ret))))),[.move (.tmp 4)]⟩
theorem k9:aj Tryz.prog 9=some c9:=by kernel_rfl
def c3:XFun:=⟨32,.seq (.ops [oK 4 (.bool false)]) (.seq (.seq (.ops [oM 6 0,oX 7 (.call 5 [.tmp 6,.const (.int .i64 20)]),oV 8 7,oM 9 8,oG 9 false (oM 10 1),oG 9 false (oH 11 10),oG 9 false (oI 12 .gtr 11 (.int .i64 60)),oU 13 9 12]) (.cond (.tmp 13) (.seq (.ops [oC 14 6 [],oA 4 14]) .ret) .skip)) (.seq (.ops [oC 15 7 [],oM 16 0,oC 17 8 [16],oX 18 (.append 1 1 (.tmp 15) (.tmp 17)),oA 5 18]) (.seq (.seq (.ops [oM 19 5,oH 20 19,oI 21 .gtr 20 (.int .i64 3000)]) (.cond (.tmp 21) (.seq (.ops [oC 22 6 [],oA 4 22]) .ret) .skip)) (.seq (.ops [oM 23 5,oM 24 1,oC 25 9 [23,24],oM 26 5,oX 27 (.call 9 [.tmp 26,.const (.slice none 0 0)]),oB 28 .eql 25 27,oM 29 28,oG 29 true (oC 30 6 []),oT 31 29 30,oA 4 31]) .ret)))),[.move (.tmp 4)]⟩
theorem k3:aj Tryz.prog 3=some c3:=by kernel_rfl
def c7:XFun:=⟨13,.seq (.ops [oN 0]) (.seq (.ops [oX 4 (.build jX [(0,1,.const (.string (af [117,115,101,114]))),(1,1,.const (.string (af [117])))]),oR 5 2 1 4 jX,oX 6 (.build xo [(0,1,.const (.int .i64 196608)),(3,1,.tmp 5)]),oC 7 20 [6],oM 3 7,oE 8 3 0,oE 9 3 1,oA 1 8,oA 2 9]) (.seq (.ops [oM 10 1,oD 11 1 dA 10,oC 12 21 [11],oA 0 12]) .ret)),[.move (.tmp 0)]⟩
theorem k7:aj Tryz.prog 7=some c7:=by kernel_rfl
end Ax
namespace Ax
open Go.RowKit Go By YtlbgjlmokpkkeaaGreatDoor.Nm Dg
structure Srv where
 i:Nat
 f:Nat
 s:Nat
 o:Option (Nat×Nat)
 Q:List Ms
 F:Fw
 Z:Zs
 id:Int
 greeted:Bool
 over:Bool
def qT:Option (Nat×Nat) -> Nat -> AV
 | none,_=>.sl 0 [] (some true) .exact
 | some p,n=>.bsl p.1 p.2 2 n
theorem Ek(o:Option (Nat×Nat))(n:Nat):(qT o n).cells=some [qT o n]:=by cases o<;>rfl
theorem uQ(o:Option (Nat×Nat))(n:Nat):(qT o n).unown=qT o n:=by cases o<;>rfl
theorem GS(o:Option (Nat×Nat))(n:Nat):(qT o n).idOf=none:=by cases o<;>rfl
theorem Kv(o:Option (Nat×Nat))(n:Nat)(h:o=none -> n=0):lv (qT o n)=⟨True,.v (.int .i64 (n:Int)),false,[]⟩:=by
 cases o with
 | none=>rw[h rfl];rfl
 | some p=>rfl
theorem OQ{o:Option (Nat×Nat)}{n k:Nat}(h:∀ p,o=some p -> p.1<k):(qT o n).lt k:=by
 cases o with
 | none=>trivial
 | some p=>exact h p rfl
def Srv.top(S:Srv):List AV:=[qT S.o S.Q.length,.box S.f 0,.box S.s 0,.sl 0 [] (some true) .exact,.v (.int .i64 S.id),.v (.bool S.greeted),.v (.bool S.over)]
theorem Srv.top_mk(S:Srv):S.top=[qT S.o S.Q.length,.box S.f 0,.box S.s 0,.sl 0 [] (some true) .exact,.v (.int .i64 S.id),.v (.bool S.greeted),.v (.bool S.over)]:=rfl
def fO:Option (Nat×Nat) -> List Nat
 | none=>[]
 | some p=>[p.1]
def Srv.vars(S:Srv):List Nat:=S.i::S.f::(fO S.o++S.Z.vars S.s)
theorem Srv.vars_mem{S:Srv}{q:Nat}:q∈S.vars↔q=S.i \/ q=S.f \/ q∈fO S.o \/ q∈S.Z.vars S.s:=by simp[Srv.vars]
structure MqAt (h:d4) (o:Option (Nat×Nat)) (Q:List Ms):Prop where
 emp:o=none -> Q=[]
 row:∀ p,o=some p -> ∃ A:List AV,p.2=A.length /\ h[p.1]?=some (A++(am bL Q).flatten) /\ A++(am bL Q).flatten≠[] /\ ∀ c∈A,c.idOf=none
structure SvAt (h:d4) (S:Srv):Prop where
 top:h[S.i]?=some S.top
 fr:h[S.f]?=some (S.F.cells S.f)
 mq:MqAt h S.o S.Q
 ses:SsG [] h S.s S.Z
 ne:S.i≠S.f
 one:∀ q∈fO S.o,q≠S.i /\ q≠S.f /\ q∉S.Z.vars S.s
 out:S.i∉S.Z.vars S.s /\ S.f∉S.Z.vars S.s
 pln:S.Z.pln=false
theorem SsG.turn{h:d4}{s:Nat}{Z:Zs}(g:SsG [] h s Z)(hb:Z.pln=false){h2:d4}(same:∀ q∈Z.vars s,h2[q]?=h[q]?)(hl:aK h2.length h2):SsG [] h2 s Z:=by
 have own:∀ q∈Z.own s,h2[q]?=h[q]?:=fun q hq=>same q (Zs.vars_mem.2 (.inr (.inl hq)))
 refine⟨(own s (by simp[Zs.own])).trans g.top,g.eng.move (own _ (by simp[Zs.own])) (own _ (by simp[Zs.own])),(own _ (by simp[Zs.own])).trans g.ents,g.por.move (same _ (Zs.vars_mem.2 (.inl rfl))) (fun q hq=>same q (Zs.vars_mem.2 (.inr (.inr hq)))) hl,g.nd,g.sep,(fun t ht=>by cases ht),fun hh=>by rw[hb] at hh;cases hh⟩
section
variable {h:d4} {S:Srv}
theorem MqAt.o_lt{o:Option (Nat×Nat)}{Q:List Ms}(m:MqAt h o Q):∀ p,o=some p -> p.1<h.length:=fun p hp=>by
 obtain⟨A,_,h2,_⟩:=m.row p hp
 exact(aac.1 h2).1
theorem MqAt.move{o:Option (Nat×Nat)}{Q:List Ms}(m:MqAt h o Q){h2:d4}(hs:∀ q∈fO o,h2[q]?=h[q]?):MqAt h2 o Q:=⟨m.emp,fun p hp=>by
 obtain⟨A,h1,h3,h4⟩:=m.row p hp
 exact⟨A,h1,(hs _ (by rw[hp];exact aab.2 rfl)).trans h3,h4⟩⟩
theorem SvAt.hh(g:SvAt h S):aK h.length h:=g.ses.hh
theorem SvAt.i_lt(g:SvAt h S):S.i<h.length:=(aac.1 g.top).1
theorem SvAt.f_lt(g:SvAt h S):S.f<h.length:=(aac.1 g.fr).1
theorem SvAt.s_lt(g:SvAt h S):S.s<h.length:=g.ses.i_lt
theorem SvAt.vars_lt(g:SvAt h S){q:Nat}(hq:q∈S.vars):q<h.length:=by
 rcases Srv.vars_mem.1 hq with rfl |rfl |hq |hq
 ·exact g.i_lt
 ·exact g.f_lt
 ·cases ho:S.o with
  | none=>rw[ho] at hq;cases hq
  | some p=>rw[ho] at hq;rw[aab.1 hq];exact g.mq.o_lt p ho
 ·exact g.ses.vars_lt hq
theorem SvAt.move(g:SvAt h S){h2:d4}(hs:∀ q∈S.vars,h2[q]?=h[q]?)(hl:aK h2.length h2):SvAt h2 S :=
 ⟨(hs _ (Srv.vars_mem.2 (.inl rfl))).trans g.top,(hs _ (Srv.vars_mem.2 (.inr (.inl rfl)))).trans g.fr,g.mq.move fun q hq=>hs q (Srv.vars_mem.2 (.inr (.inr (.inl hq)))),g.ses.turn g.pln (fun q hq=>hs q (Srv.vars_mem.2 (.inr (.inr (.inr hq))))) hl,g.ne,g.one,g.out,g.pln⟩
theorem SvAt.app(g:SvAt h S)(xs:d4)(hx:aK (h.length+xs.length) xs):SvAt (h++xs) S :=
 g.move (fun q hq=>aaa (g.vars_lt hq)) (by rw[cD,List.length_append];exact⟨aF (Nat.le_add_right _ _) g.hh,hx⟩)
theorem Srv.top_lt(g:SvAt h S)(a b:Bool):cb h.length { S with greeted:=a,over:=b }.top:=by
 have:=OQ (n:=S.Q.length) g.mq.o_lt
 have h1:=g.f_lt
 have h2:=g.s_lt
 simp[Srv.top,this,h1,h2]
theorem SvAt.setTop(g:SvAt h S)(a b:Bool):SvAt (h.set S.i { S with greeted:=a,over:=b }.top) { S with greeted:=a,over:=b }:=by
 have hn:∀ q,q≠S.i -> (h.set S.i { S with greeted:=a,over:=b }.top)[q]?=h[q]?:=fun q hq=>aad (Ne.symm hq)
 refine⟨aaf g.i_lt,(hn _ (Ne.symm g.ne)).trans g.fr,g.mq.move fun q hq=>hn q (g.one q hq).1,g.ses.turn g.pln (fun q hq=>hn q fun e=>g.out.1 (by rw[<- e];exact hq)) ?_,g.ne,g.one,g.out,g.pln⟩
 rw[aae]
 exact ao g.hh (Srv.top_lt g a b)
theorem SvAt.setF(g:SvAt h S)(F':Fw):SvAt (h.set S.f (F'.cells S.f)) { S with F:=F' }:=by
 have hn:∀ q,q≠S.f -> (h.set S.f (F'.cells S.f))[q]?=h[q]?:=fun q hq=>aad (Ne.symm hq)
 refine⟨(hn _ g.ne).trans g.top,aaf g.f_lt,g.mq.move fun q hq=>hn q (g.one q hq).2.1,g.ses.turn g.pln (fun q hq=>hn q fun e=>g.out.2 (by rw[<- e];exact hq)) ?_,g.ne,g.one,g.out,g.pln⟩
 rw[aae]
 exact ao g.hh (by simp[Fw.cells])
structure ViaV (h:d4) (S:Srv) (W:List Nat) (H:d4) (S':Srv):Prop where
 len:h.length <= H.length
 kept:∀ q<h.length,q∉S.vars -> H[q]?=h[q]?
 wr:∀ q∈W,q<h.length -> q∈S.vars
 vars:∀ q∈S'.vars,q∈S.vars \/ h.length <= q
theorem ViaV.refl(h:d4)(S:Srv):ViaV h S [] h S:=⟨aak _,fun _ _ _=>rfl,(fun q hq=>by cases hq),fun q hq=>.inl hq⟩
theorem ViaV.step{W wr:List Nat}{H h2:d4}{S' S2:Srv}(v:ViaV h S W H S')(u:ViaV H S' wr h2 S2):ViaV h S (wr++W) h2 S2:=by
 have back:∀ q,q<h.length -> q∈S'.vars -> q∈S.vars:=fun q hq hv=>by
  rcases v.vars q hv with h1 |h1
  ·exact h1
  ·omega
 have h1:=v.len
 have h2':=u.len
 refine⟨by omega,fun q hq hn=>?_,fun q hq hlt=>?_,fun q hq=>?_⟩
 ·rw[u.kept q (by omega) fun hh=>hn (back q hq hh)];exact v.kept q hq hn
 ·rcases aal.1 hq with hq |hq
  ·exact back q hlt (u.wr q hq (by omega))
  ·exact v.wr q hq hlt
 ·rcases u.vars q hq with h3 |h3
  ·exact v.vars q h3
  ·exact .inr (by omega)
theorem ViaV.app{W:List Nat}{H:d4}{S':Srv}(v:ViaV h S W H S')(xs:d4):ViaV h S W (H++xs) S':=⟨by have:=v.len;simp;omega,fun q hq hn=>by rw[aaa (by have:=v.len;omega)];exact v.kept q hq hn,v.wr,v.vars⟩
theorem ViaV.set{q0:Nat}(hq0:q0∈S.vars)(cs:List AV){S':Srv}(he:S'.vars=S.vars):ViaV h S [q0] (h.set q0 cs) S':=⟨by simp,fun q _ hn=>aad fun e=>hn (by rw[<- e];exact hq0),(fun q hq _=>by rw[aab.1 hq];exact hq0),fun q hq=>.inl (by rw[<- he];exact hq)⟩
def DoesV(f:FuncId)(args:List AV)(h:d4)(S:Srv)(r:AV)(S':Srv):Prop :=
 ∃ h' wr,ae Tryz.prog f args h r h' wr /\ SvAt h' S' /\ ViaV h S wr h' S'
theorem BF(S:Srv):S.i∈S.vars:=Srv.vars_mem.2 (.inl rfl)
theorem Io(S:Srv):S.f∈S.vars:=Srv.vars_mem.2 (.inr (.inl rfl))
theorem fR(g:SvAt h S):ae Tryz.prog 23 [.box S.i 0] h (.v (.bool true)) h []:=by
 have e1:=g.top
 rw[Srv.top_mk] at e1
 refine ac Zr mixed (by simp[VD]) fun hh hargs=>?_
 simp[VD,e1,hh]
theorem Lr(g:SvAt h S):ae Tryz.prog 13 [.box S.i 0] h (.v (.bool S.over)) h []:=by
 have e1:=g.top
 rw[Srv.top_mk] at e1
 refine ac Zj mixed (by simp[Vl]) fun hh hargs=>?_
 simp[Vl]
 refine aa (by simp) (fR g) ?_
 simp[e1,hh]
theorem BY(g:SvAt h S)(ho:S.over=true)(xs:d5):ae Tryz.prog 12 [.box S.i 0,.sl 1 (ai xs) none .no] h (.v (.int .i64 10)) h []:=by
 have e1:=g.top
 rw[Srv.top_mk] at e1
 refine ac Y0 mixed (by simp[Sb]) fun hh hargs=>?_
 simp[Sb]
 refine aa (by simp) (fR g) ?_
 simp[e1,ho,hh]
theorem Dc(g:SvAt h S)(ho:S.over=false)(xs:d5)(hm:0<S.F.most)(hx:xs.length <= 1000000)(hr:S.F.rest.length <= 1000000)(hrm:S.F.room <= 1000000)(hroom:xs.length+S.F.rest.length <= S.F.room):
  DoesV 12 [.box S.i 0,.sl 1 (ai xs) none .no] h S (.v (.int .i64 0)) { S with F:={ S.F with rest:=S.F.rest++xs } }:=by
 have e1:=g.top
 rw[Srv.top_mk] at e1
 have g2:=g.setF { S.F with rest:=S.F.rest++xs }
 have hg2:=g2.hh
 refine⟨_,[S.f],?_,g2,ViaV.set (Io S) _ rfl⟩
 have kf:=Lt g.fr hm xs hx hr hrm hroom
 obtain⟨H2,hH2⟩:∃ H2,H2=h.set S.f ({ S.F with rest:=S.F.rest++xs }.cells S.f):=⟨_,rfl⟩
 have hl2:H2.length=h.length:=by rw[hH2,aae]
 rw[<- hH2] at kf hg2 ⊢
 have htk:H2.take h.length=H2:=List.take_of_length_le (by omega)
 rw[hl2] at hg2
 refine ac Y0 mixed (by simp[Sb]) fun hh hargs=>?_
 simp[Sb]
 refine aa (by simp) (fR g) ?_
 simp[e1,ho]
 refine aa (by simp) kf ?_
 simp[hg2,hl2,htk]
theorem AT{i:Nat}{o:Option (Nat×Nat)}{l:List AV}(h1:h[i]?=some (qT o 0::l))(ho:o=none -> True):ae Tryz.prog 28 [.box i 0] h (.tup [.agg (bL ⟨0,[]⟩),.v (.bool false)]) h []:=by
 have e:=Kv o 0 fun _=>rfl
 have hi:=(aac.1 h1).1
 have hid:=GS o 0
 have hun:=uQ o 0
 have g1:∀ xs,(h++xs)[i]?=some (qT o 0::l):=fun xs=>by rw[aaa hi];exact h1
 refine ac Y3 mixed (by simp[Sf]) fun hh hargs=>?_
 generalize qT o 0=q at *
 simp[-lv,Sf,g1,h1,e,hid,hun,hh,ag,aO]
 done
theorem qS{α:Type}:∀(l:List α) (A m B:List α),m.length=l.length -> lay (A++(m++B)) A.length l=A++(l++B)
 | [],A,m,B,h=>by
  have:m=[]:=List.eq_nil_of_length_eq_zero h
  subst this;rfl
 | a::l,A,[],B,h=>by cases h
 | a::l,A,x::m,B,h=>by
  show lay ((A++(x::(m++B))).set A.length a) (A.length+1) l=_
  have e:(A++(x::(m++B))).set A.length a=(A++[a])++(m++B):=by
   rw[aai _ _ (aak _),aaj];simp
  have e2:A.length+1=(A++[a]).length:=by simp
  rw[e,e2,qS l (A++[a]) m B (by simpa using h)]
  simp
theorem AU{i b off n:Nat}{l:List AV}{m:Ms}{A B:List AV}(h1:h[i]?=some (.bsl b off 2 (n+1)::l))(hl:cb h.length l)(hb:h[b]?=some (A++(bL m++B)))(hA:off=A.length)(hne:b≠i):
  ae Tryz.prog 28 [.box i 0] h (.tup [.agg (bL m),.v (.bool true)]) ((h.set b ((A++[.v (.int .u8 0),.sl 0 [] (some true) .exact])++B)).set i (.bsl b (off+2) 2 n::l)) [i,b]:=by
 have hi:=(aac.1 h1).1
 have hbl:=(aac.1 hb).1
 have g1:∀ xs,(h++xs)[i]?=some (.bsl b off 2 (n+1)::l):=fun xs=>by rw[aaa hi];exact h1
 obtain⟨cs,hcs⟩:∃ cs,cs=A++(bL m++B):=⟨_,rfl⟩
 obtain⟨cs2,hcs2⟩:∃ cs2,cs2=(A++[.v (.int .u8 0),.sl 0 [] (some true) .exact])++B:=⟨_,rfl⟩
 rw[<- hcs] at hb
 rw[<- hcs2]
 have g2:∀ xs,(h++xs)[b]?=some cs:=fun xs=>by rw[aaa hbl];exact hb
 have fit:off+2 <= cs.length:=by rw[hcs,hA];simp[aO]
 have rd:(cs.drop off).take 2=bL m:=by rw[hcs,hA,List.drop_left];simp[aO]
 have ly:lay cs off [.v (.int .u8 0),.sl 0 [] (some true) .exact]=cs2:=by
  rw[hcs,hcs2,hA,qS [AV.v (.int .u8 0),.sl 0 [] (some true) .exact] A (bL m) B rfl]
  simp
 have e0:((n:Int)+1==0)=false:=by simp;omega
 have e1:(0:Int)<(n:Int)+1:=by omega
 have e2:¬(n:Int)+1<1:=by omega
 have hln:cs2.length=cs.length:=by rw[hcs,hcs2];simp[aO]
 refine ac Y3 mixed (by simp[Sf]) fun hh hargs=>?_
 have g3:∀ xs,(h++xs).set b cs2=h.set b cs2++xs:=fun xs=>aag _ _ hbl
 have g4:∀ xs,(h.set b cs2++xs)[i]?=some (.bsl b off 2 (n+1)::l):=fun xs=>by rw[aaa (by rw[aae];exact hi),aad hne];exact h1
 have g5:∀ xs x,(h.set b cs2++xs).set i x=(h.set b cs2).set i x++xs:=fun xs x=>aag _ _ (by rw[aae];exact hi)
 have g6:∀ x (xs:d4) (j:Nat),((h.set b cs2).set i x++xs)[h.length+j]?=xs[j]?:=fun x xs j=>by
  rw[aah (by simp)];simp
 have g7:∀ x (xs:d4),((h.set b cs2).set i x++xs)[h.length]?=xs[0]?:=fun x xs=>by
  rw[aah (by simp)];simp
 simp[Sf,g1,h1,g2,e0,e1,e2,fit,rd,ly,g3,g4,g5,g6,g7]
 have hcl:cb h.length cs:=dH hh b cs hb
 have hcl2:cb h.length cs2:=by
  rw[hcs,bX,bX] at hcl
  rw[hcs2,bX,bX]
  exact⟨⟨hcl.1,by simp⟩,hcl.2.2⟩
 refine⟨by omega,ao (ao hh hcl2) ?_⟩
 simp[hbl,hl]
theorem tu(g:SvAt h S)(hQ:S.Q=[]):ae Tryz.prog 11 [.box S.i 0] h (.tup [.agg (bL ⟨0,[]⟩),.v (.bool false)]) h []:=by
 have e1:=g.top
 rw[Srv.top_mk,hQ] at e1
 have hzl:aK (h.length+1) [[AV.v (.int .u8 0),.sl 0 [] (some true) .exact]]:=by simp
 have g2:=g.app [[.v (.int .u8 0),.sl 0 [] (some true) .exact]] hzl
 have e2:(h++[[AV.v (.int .u8 0),.sl 0 [] (some true) .exact]])[S.i]?=some [qT S.o 0,.box S.f 0,.box S.s 0,.sl 0 [] (some true) .exact,.v (.int .i64 S.id),.v (.bool S.greeted),.v (.bool S.over)]:=by rw[aaa g.i_lt];exact e1
 have kt:=AT (h:=h++[[AV.v (.int .u8 0),.sl 0 [] (some true) .exact]]) e2 fun _=>trivial
 refine ac YZ mixed (by simp[Sa]) fun hh hargs=>?_
 simp[Sa]
 refine aa (by simp) (fR g2) ?_
 simp
 refine aa (by simp) kt ?_
 simp[hh,ag,aO]
 done
theorem jR(g:SvAt h S){m:Ms}{r:List Ms}(hQ:S.Q=m::r):∃ o,DoesV 11 [.box S.i 0] h S (.tup [.agg (bL m),.v (.bool true)]) { S with Q:=r,o:=o }:=by
 obtain⟨p,hp⟩:∃ p,S.o=some p:=by
  cases ho:S.o with
  | none=>have:=g.mq.emp ho;rw[hQ] at this;cases this
  | some p=>exact⟨p,rfl⟩
 obtain⟨A,hA,hb,hne,hid⟩:=g.mq.row p hp
 have e1:=g.top
 rw[Srv.top_mk,hp,hQ] at e1
 rw[hQ] at hb
 have hb:h[p.1]?=some (A++(bL m++(am bL r).flatten)):=hb
 obtain⟨n1,n2,n3⟩:=g.one p.1 (by rw[hp];exact aab.2 rfl)
 have hpl:=g.mq.o_lt p hp
 have hfl:=g.f_lt
 have hsl:=g.s_lt
 have hil:=g.i_lt
 obtain⟨z,hz⟩:∃ z,z=[AV.v (.int .u8 0),.sl 0 [] (some true) .exact]:=⟨_,rfl⟩
 have hzl:aK (h.length+1) [z]:=by rw[hz];simp
 have g2:=g.app [z] hzl
 obtain⟨tl,htl⟩:∃ tl,tl=[AV.box S.f 0,.box S.s 0,.sl 0 [] (some true) .exact,.v (.int .i64 S.id),.v (.bool S.greeted),.v (.bool S.over)]:=⟨_,rfl⟩
 have htll:∀ n,h.length <= n -> cb n tl:=fun n hn=>by rw[htl];simp;omega
 have e2:(h++[z])[S.i]?=some (.bsl p.1 p.2 2 (r.length+1)::tl):=by rw[aaa hil,htl];exact e1
 have kt:=AU (h:=h++[z]) e2 (htll _ (by simp)) ((aaa hpl).trans hb) hA n1
 obtain⟨c2,hc2⟩:∃ c2,c2=(A++[AV.v (.int .u8 0),.sl 0 [] (some true) .exact])++(am bL r).flatten:=⟨_,rfl⟩
 rw[<- hc2,aag _ _ hpl,aag _ _ (by rw[aae];exact hil)] at kt
 obtain⟨H2,hH2⟩:∃ H2,H2=(h.set p.1 c2).set S.i (.bsl p.1 (p.2+2) 2 r.length::tl):=⟨_,rfl⟩
 rw[<- hH2] at kt
 have hH2l:H2.length=h.length:=by rw[hH2];simp
 have a2:∀ q,q≠p.1 -> q≠S.i -> H2[q]?=h[q]?:=fun q h1 h2=>by rw[hH2,aad (Ne.symm h2),aad (Ne.symm h1)]
 have hcl:cb h.length (A++(bL m++(am bL r).flatten)):=dH g.hh _ _ hb
 have hcl2:cb h.length c2:=by
  rw[bX,bX] at hcl
  rw[hc2,bX,bX]
  exact⟨⟨hcl.1,by simp⟩,hcl.2.2⟩
 have hlt2:aK H2.length H2:=by
  rw[hH2l,hH2]
  refine ao (ao g.hh hcl2) ?_
  have:=htll h.length (aak _)
  simp[this,hpl]
 have top2:H2[S.i]?=some (.bsl p.1 (p.2+2) 2 r.length::tl):=by rw[hH2,aaf (by simp;omega)]
 have row2:H2[p.1]?=some c2:=by rw[hH2,aad (Ne.symm n1),aaf (by omega)]
 have hses:∀ q∈S.Z.vars S.s,q≠p.1 /\ q≠S.i:=fun q hq=>⟨fun e=>n3 (by rw[<- e];exact hq),fun e=>g.out.1 (by rw[<- e];exact hq)⟩
 refine⟨some (p.1,p.2+2),H2,[S.i,p.1],?_,⟨by rw[htl] at top2;exact top2,?_,⟨(fun e=>by cases e),fun q hq=>?_⟩,g.ses.turn g.pln (fun q hq=>a2 q (hses q hq).1 (hses q hq).2) hlt2,g.ne,fun q hq=>?_,g.out,g.pln⟩,⟨by omega,fun q hq hn=>?_,fun q hq _=>?_,fun q hq=>.inl ?_⟩⟩
 ·have at_:∀ xs:d4,(H2++xs)[h.length]?=xs[0]?:=fun xs=>by rw[aah (by omega),hH2l,aaj]
  have set_:∀(x:List AV) (xs:d4) (y:List AV),(H2++x::xs).set h.length y=H2++y::xs:=fun x xs y=>by rw[aai _ _ (by omega),hH2l,aaj];rfl
  have tk:∀ xs:d4,(H2++xs).take h.length=H2:=fun xs=>by rw[<- hH2l,List.take_left]
  rw[hH2l] at hlt2
  refine ac YZ mixed (by simp[Sa]) fun hh hargs=>?_
  simp[Sa]
  have e3:[AV.v (.int .u8 0),.sl 0 [] (some true) .exact]=z:=hz.symm
  rw[e3]
  refine aa (by simp) (fR g2) ?_
  simp
  refine aa (by simp) kt ?_
  simp[at_,set_,tk,hz,hlt2,aO]
  exact⟨by omega,by rw[hH2l];exact hlt2⟩
 ·rw[a2 _ (Ne.symm n2) (Ne.symm g.ne)];exact g.fr
 ·injection hq with hq
  subst hq
  refine⟨A++[.v (.int .u8 0),.sl 0 [] (some true) .exact],by simp[hA],by rw[row2,hc2],by simp,fun c hc=>?_⟩
  rcases aal.1 hc with hc |hc
  ·exact hid c hc
  ·simp at hc
   rcases hc with rfl |rfl<;>rfl
 ·have hq:q∈fO (some (p.1,p.2+2)):=hq
  rw[aab.1 hq]
  exact⟨n1,n2,n3⟩
 ·rw[a2 q (fun e=>hn (by rw[e];exact Srv.vars_mem.2 (.inr (.inr (.inl (by rw[hp];exact aab.2 rfl)))))) (fun e=>hn (by rw[e];exact BF S))]
 ·simp at hq
  rcases hq with rfl |rfl
  ·exact BF S
  ·exact Srv.vars_mem.2 (.inr (.inr (.inl (by rw[hp];exact aab.2 rfl))))
 ·rcases Srv.vars_mem.1 hq with h1 |h1 |h1 |h1
  ·exact Srv.vars_mem.2 (.inl h1)
  ·exact Srv.vars_mem.2 (.inr (.inl h1))
  ·have h1:q∈fO (some (p.1,p.2+2)):=h1
   rw[aab.1 h1]
   exact Srv.vars_mem.2 (.inr (.inr (.inl (by rw[hp];exact aab.2 rfl))))
  ·exact Srv.vars_mem.2 (.inr (.inr (.inr h1)))
end
end Ax
end Go.Proofs.YtlbgjlmokpkkeaaGreatDoor
