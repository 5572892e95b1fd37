import Derived.Test.YtlbgjlmokpkkeaaGreatDoorQAxKc0
set_option linter.all false
set_option maxRecDepth 10000
namespace Go.Proofs.YtlbgjlmokpkkeaaGreatDoor
namespace Ax
open Go.RowKit Go By
def M3:XFun:=⟨19,.seq (.ops [oN 2]) (.seq (.ops [oN 3]) (.seq (.seq (.ops [oM 6 0,oH 7 6,oX 8 (.move (.const (.int .i64 0)))]) (.block 0 (.loop (.seq (.ops [oB 9 .lss 8 7]) (.seq (.cond (.tmp 9) .skip (.exit 0)) (.seq (.block 1 (.seq (.ops [oW 10 1 6 8,oL 11 10,oA 5 11]) (.ops [oM 12 3,oM 13 5,oX 14 (.appendS (.tmp 12) (.tmp 13)),oX 15 (.buildSlice 1 1 ky [(0,.const (.int .u8 0))]),oX 16 (.append 1 1 (.tmp 14) (.tmp 15)),oA 3 16]))) (.ops [oI 17 .add 8 (.int .i64 1),oM 8 17]))))))) (.seq (.ops [oM 18 3,oA 2 18]) .ret))),[.move (.tmp 2)]⟩
theorem WX:aj Tryz.prog 114=some M3:=by kernel_rfl
def M0:XFun:=⟨6,.seq (.ops [oK 2 (.bool false)]) (.seq (.ops [oM 3 0,oX 4 (.call 158 [.tmp 3,.func 159]),oV 5 4,oA 2 5]) .ret),[.move (.tmp 2)]⟩
theorem WS:aj Tryz.prog 109=some M0:=by kernel_rfl
def NQ:XFun:=⟨9,.seq (.ops [oJ 2 0,oK 4 (.bool false)]) (.seq (.ops [oM 5 1,oX 6 (.mkfn (.func 243) [] [.tmp 2]),oC 7 161 [5,6],oV 8 7,oA 4 8]) .ret),[.move (.tmp 4)]⟩
theorem X8:aj Tryz.prog 209=some NQ:=by kernel_rfl
def Nw:XFun:=⟨8,.seq (.ops [oK 4 (.bool false)]) (.seq (.ops [oM 5 0,oM 6 1,oX 7 (.call 214 [.tmp 5,.tmp 6,.func 215]),oA 4 7]) .ret),[.move (.tmp 4)]⟩
theorem XG:aj Tryz.prog 166=some Nw:=by kernel_rfl
def VZ:XFun:=⟨6,.seq (.ops [oZ 2 qw]) (.seq (.ops [oM 3 0,oC 4 75 [3],oD 5 0 qw 4,oS 1 2 5]) .ret),[.loadN 1 (.tmp 2)]⟩
theorem Fk:aj Tryz.prog 66=some VZ:=by kernel_rfl
def M1:XFun:=⟨9,.seq (.ops [oJ 2 0,oK 4 (.bool false)]) (.seq (.ops [oM 5 1,oX 6 (.mkfn (.func 162) [] [.tmp 2]),oC 7 161 [5,6],oV 8 7,oA 4 8]) .ret),[.move (.tmp 4)]⟩
theorem WT:aj Tryz.prog 110=some M1:=by kernel_rfl
def M8:XFun:=⟨8,.seq (.ops [oJ 2 0,oN 4]) (.seq (.ops [oM 5 1,oX 6 (.mkfn (.func 174) [] [.tmp 2]),oC 7 173 [5,6],oA 4 7]) .ret),[.move (.tmp 4)]⟩
theorem W9:aj Tryz.prog 119=some M8:=by kernel_rfl
def M5:XFun:=⟨5,.seq (.ops [oN 2]) (.seq (.ops [oM 3 0,oX 4 (.call 170 [.tmp 3,.func 171]),oA 2 4]) .ret),[.move (.tmp 2)]⟩
theorem W0:aj Tryz.prog 116=some M5:=by kernel_rfl
def Nr:XFun:=⟨6,.seq (.ops [oK 2 (.bool false)]) (.seq (.ops [oM 3 0,oX 4 (.call 31 [.tmp 3,.func 207]),oV 5 4,oA 2 5]) .ret),[.move (.tmp 2)]⟩
theorem Xu:aj Tryz.prog 151=some Nr:=by kernel_rfl
def Nv:XFun:=⟨6,.seq (.ops [oK 2 (.bool false)]) (.seq (.ops [oM 3 0,oC 4 160 [3],oV 5 4,oA 2 5]) .ret),[.move (.tmp 2)]⟩
theorem XC:aj Tryz.prog 159=some Nv:=by kernel_rfl
def N3:XFun:=⟨15,.seq (.ops [oK 3 (.bool false)]) (.seq (.ops [oM 4 0,oL 5 1,oC 6 163 [4,5],oV 7 6,oM 8 7,oG 8 false (oM 9 0),oG 8 false (oL 10 1),oG 8 false (oC 11 91 [9,10]),oG 8 false (oM 12 0),oG 8 false (oB 13 .neq 11 12),oU 14 8 13,oA 3 14]) .ret),[.move (.tmp 3)]⟩
theorem Ys:aj Tryz.prog 243=some N3:=by kernel_rfl
def JP:XFun:=⟨17,.seq (.ops [oJ 2 0,oJ 3 1,oK 4 (.bool false)]) (.seq (.ops [oF 5 0 2,oL 6 5,oF 7 0 3,oL 8 7,oX 9 (.beq false (.tmp 6) (.tmp 8)),oM 10 9,oG 10 true (oF 11 1 2),oG 10 true (oL 12 11),oG 10 true (oF 13 1 3),oG 10 true (oL 14 13),oG 10 true (oC 15 216 [12,14]),oT 16 10 15,oA 4 16]) .ret),[.move (.tmp 4)]⟩
theorem Yc:aj Tryz.prog 215=some JP:=by kernel_rfl
def V9:XFun:=⟨8,.seq (.ops [oJ 2 0,oJ 3 1,oN 4]) (.seq (.ops [oP 5 1 2,oX 6 (.mkfn (.func 123) [] [.tmp 2,.tmp 3]),oC 7 122 [5,6],oA 4 7]) .ret),[.move (.tmp 4)]⟩
theorem k89:aj Tryz.prog 89=some V9:=by kernel_rfl
def Wa:XFun:=⟨7,.seq (.ops [oJ 1 0,oN 2]) (.seq (.ops [oP 3 1 1,oP 4 1 1,oX 5 (.mkfn (.func 125) [.tmp 4] []),oC 6 124 [3,5],oA 2 6]) .ret),[.move (.tmp 2)]⟩
theorem k90:aj Tryz.prog 90=some Wa:=by kernel_rfl
def JK:XFun:=⟨12,.seq (.ops [oK 3 (.bool false)]) (.seq (.ops [oM 4 0,oI 5 .lss 4 (.int .i64 0),oM 6 5,oG 6 false (oM 7 0),oG 6 false (oL 8 1),oG 6 false (oC 9 163 [7,8]),oG 6 false (oV 10 9),oU 11 6 10,oA 3 11]) .ret),[.move (.tmp 3)]⟩
theorem XD:aj Tryz.prog 162=some JK:=by kernel_rfl
def Nz:XFun:=⟨24,.seq (.ops [oN 4]) (.seq (.ops [oM 8 0,oH 9 8,oX 10 (.call 168 [.const (.slice none 0 0),.tmp 9,.const (.int .i64 2)]),oA 5 10]) (.seq (.seq (.ops [oM 11 0,oH 12 11,oX 13 (.move (.const (.int .i64 0)))]) (.block 0 (.loop (.seq (.ops [oB 14 .lss 13 12]) (.seq (.cond (.tmp 14) .skip (.exit 0)) (.seq (.block 1 (.seq (.ops [oW 15 1 11 13,oL 16 15,oA 7 16]) (.ops [oM 17 5,oM 18 1,oM 19 7,oX 20 (.callv (.tmp 18) [.tmp 19]),oX 21 (.append 1 1 (.tmp 17) (.tmp 20)),oA 5 21]))) (.ops [oI 22 .add 13 (.int .i64 1),oM 13 22]))))))) (.seq (.ops [oM 23 5,oA 4 23]) .ret))),[.move (.tmp 4)]⟩
theorem XL:aj Tryz.prog 173=some Nz:=by kernel_rfl
def NA:XFun:=⟨7,.seq (.ops [oN 3]) (.seq (.ops [oM 4 0,oL 5 1,oX 6 (.call 168 [.const (.slice none 0 0),.tmp 4,.tmp 5]),oA 3 6]) .ret),[.move (.tmp 3)]⟩
theorem XM:aj Tryz.prog 174=some NA:=by kernel_rfl
def Nx:XFun:=⟨24,.seq (.ops [oN 4]) (.seq (.ops [oM 8 0,oH 9 8,oX 10 (.call 168 [.const (.slice none 0 0),.tmp 9,.const (.int .i64 2)]),oA 5 10]) (.seq (.seq (.ops [oM 11 0,oH 12 11,oX 13 (.move (.const (.int .i64 0)))]) (.block 0 (.loop (.seq (.ops [oB 14 .lss 13 12]) (.seq (.cond (.tmp 14) .skip (.exit 0)) (.seq (.block 1 (.seq (.ops [oW 15 2 11 13,oP 16 2 15,oZ 7 pg,oS 2 7 16]) (.ops [oM 17 5,oM 18 1,oP 19 2 7,oX 20 (.callv (.tmp 18) [.tmp 19]),oX 21 (.append 1 1 (.tmp 17) (.tmp 20)),oA 5 21]))) (.ops [oI 22 .add 13 (.int .i64 1),oM 13 22]))))))) (.seq (.ops [oM 23 5,oA 4 23]) .ret))),[.move (.tmp 4)]⟩
theorem XI:aj Tryz.prog 170=some Nx:=by kernel_rfl
def Dw:XFun:=⟨13,.seq (.ops [oJ 1 0,oN 2]) (.seq (.seq (.ops [oF 3 0 1,oL 4 3]) (.cond (.tmp 4) (.seq (.ops [oX 5 (.call 168 [.const (.slice none 0 0),.const (.int .i64 4294967295),.const (.int .i64 4)]),oA 2 5]) .ret) .skip)) (.seq (.draws (.take (oF 6 1 1) (.take (oL 7 6) (.take (oH 8 7) (.take (oF 10 1 1) (.take (oL 11 10) (.only (oX 9 (.call 168 [.const (.slice none 0 0),.tmp 8,.const (.int .i64 4)])) (.only (oX 12 (.append 1 1 (.tmp 9) (.tmp 11))) (.take (oA 2 12) .done))))))))) .ret)),[.move (.tmp 2)]⟩
theorem XJ:aj Tryz.prog 171=some Dw:=by kernel_rfl
def FU:XFun:=⟨17,.seq (.ops [oJ 1 0,oK 2 (.bool false)]) (.seq (.ops [oF 3 1 1,oL 4 3,oH 5 4,oI 6 .gtr 5 (.int .i64 1048576),oM 7 6,oG 7 false (oF 8 0 1),oG 7 false (oL 9 8),oG 7 false (oM 10 9),oG 10 true (oF 11 1 1),oG 10 true (oL 12 11),oG 10 true (oH 13 12),oG 10 true (oI 14 .gtr 13 (.int .i64 0)),oG 7 false (oT 15 10 14),oU 16 7 15,oA 2 16]) .ret),[.move (.tmp 2)]⟩
theorem X6:aj Tryz.prog 207=some FU:=by kernel_rfl
def Na:XFun:=⟨21,.seq (.ops [oJ 2 0,oN 4]) (.seq (.ops [oN 5]) (.seq (.seq (.ops [oF 6 0 2,oL 7 6,oX 8 (.call 76 [.tmp 7,.const (.int .i64 2)]),oX 9 (.move (.const (.int .i64 0)))]) (.block 0 (.loop (.seq (.ops [oB 10 .lss 9 8]) (.seq (.cond (.tmp 10) .skip (.exit 0)) (.seq (.block 1 (.seq (.ops [oM 11 5,oM 12 1,oX 13 (.callv (.tmp 12) []),oR 14 1 1 13 mz,oX 15 (.append 1 8 (.tmp 11) (.tmp 14)),oA 5 15]) (.seq (.ops [oF 16 0 2,oL 17 16,oC 18 77 [17]]) (.cond (.tmp 18) (.seq (.ops [oN 4]) .ret) .skip)))) (.ops [oI 19 .add 9 (.int .i64 1),oM 9 19]))))))) (.seq (.ops [oM 20 5,oA 4 20]) .ret))),[.move (.tmp 4)]⟩
theorem Xb:aj Tryz.prog 122=some Na:=by kernel_rfl
def Nb:XFun:=⟨7,.seq (.ops [oK 2 (.int .i64 0)]) (.seq (.ops [oF 3 0 0,oL 4 3,oL 5 1,oC 6 76 [4,5],oA 2 6]) .ret),[.move (.tmp 2)]⟩
theorem Xc:aj Tryz.prog 123=some Nb:=by kernel_rfl
def Nc:XFun:=⟨21,.seq (.ops [oJ 2 0,oN 4]) (.seq (.ops [oN 5]) (.seq (.seq (.ops [oF 6 0 2,oL 7 6,oX 8 (.call 76 [.tmp 7,.const (.int .i64 2)]),oX 9 (.move (.const (.int .i64 0)))]) (.block 0 (.loop (.seq (.ops [oB 10 .lss 9 8]) (.seq (.cond (.tmp 10) .skip (.exit 0)) (.seq (.block 1 (.seq (.ops [oM 11 5,oM 12 1,oX 13 (.callv (.tmp 12) []),oR 14 2 1 13 pg,oX 15 (.append 2 32 (.tmp 11) (.tmp 14)),oA 5 15]) (.seq (.ops [oF 16 0 2,oL 17 16,oC 18 77 [17]]) (.cond (.tmp 18) (.seq (.ops [oN 4]) .ret) .skip)))) (.ops [oI 19 .add 9 (.int .i64 1),oM 9 19]))))))) (.seq (.ops [oM 20 5,oA 4 20]) .ret))),[.move (.tmp 4)]⟩
theorem Xd:aj Tryz.prog 124=some Nc:=by kernel_rfl
def Nd:XFun:=⟨15,.seq (.ops [oJ 1 0,oZ 2 pg]) (.seq (.ops [oF 4 0 1,oL 5 4,oX 6 (.call 76 [.tmp 5,.const (.int .i64 4)]),oA 3 6]) (.seq (.seq (.ops [oM 7 3,oI 8 .eql 7 (.int .i64 4294967295)]) (.cond (.tmp 8) (.seq (.ops [oX 9 (.build pg [(0,1,.const (.bool true))]),oS 2 2 9]) .ret) .skip)) (.seq (.ops [oF 10 0 1,oL 11 10,oM 12 3,oC 13 104 [11,12],oD 14 1 pg 13,oS 2 2 14]) .ret))),[.loadN 2 (.tmp 2)]⟩
theorem Xe:aj Tryz.prog 125=some Nd:=by kernel_rfl
def c191:XFun:=⟨24,.seq (.ops [oN 2]) (.seq (.ops [oM 5 0,oC 6 238 [5],oA 3 6]) (.seq (.seq (.ops [oM 7 3,oH 8 7,oX 9 (.move (.const (.int .i64 0)))]) (.block 0 (.loop (.seq (.ops [oB 10 .lss 9 8]) (.seq (.cond (.tmp 10) .skip (.exit 0)) (.seq (.block 1 (.seq (.ops [oM 11 9,oA 4 11]) (.ops [oM 12 3,oM 13 4,oM 14 3,oM 15 4,oW 16 2 14 15,oF 17 1 16,oL 18 17,oC 19 239 [18],oW 20 2 12 13,oF 21 1 20,oS 1 21 19]))) (.ops [oI 22 .add 9 (.int .i64 1),oM 9 22]))))))) (.seq (.ops [oM 23 3,oA 2 23]) .ret))),[.move (.tmp 2)]⟩
theorem SO:aj Tryz.prog 191=some c191:=by kernel_rfl
end Ax
namespace Ax
open Go.RowKit Go By Sc Dg
theorem dW(l:List Cl)(hl:l.length <= 4398046511104)(hb:∀ c∈l,c.2.length <= 140737488351232)(h:d4):ae Tryz.prog 191 [.sl 2 (am aq l) none .no] h (.sl 2 (am aq l) none .no) h []:=by
 by_cases hne:l=[]
 ·subst hne
  refine ac SO mixed (by simp[c191]) fun hh hargs=>?_
  simp[c191]
  refine aa (by simp) (tM _) ?_
  simp
  refine ap (D:=Nat) (fun _=>⟨[(3,.sl 2 [] none .no),(8,.v (.int .i64 0)),(9,.v (.int .i64 0))],[],h,[]⟩) (fun _=>True) (fun _=>0) 0 trivial ?_ ?_
  ·simp[Leq,hh]
  ·intro _ _
   simp[hh]
 refine cf (XCode.cuts [false,false,true] c191.code) SO rfl mixed (by simp[c191]) fun hh hargs=>?_
 have hlen:=pq (c:=aq) (k:=2) (fun _=>rfl) l
 have hfz:frzOk (am aq l).flatten:=by
  cases l with
  | nil=>exact absurd rfl hne
  | cons x r=>exact trivial
 simp[c191]
 refine aa (by simp) (we l hne (by omega) _) ?_
 simp
 have hz:=Cw (c:=aq) (k:=2) (fun _=>rfl) l h.length l.length rfl
 have hget:=uE l
 have hF:=fun n=>yh n l
 generalize (am aq l).flatten=F at *
 refine tC h.length F ⟨[(3,.sl 2 (am aq l) none .no)],[],h,[]⟩ (Nat.le_refl _) hfz ?_ ?_
 ·simp
  refine ap (D:=Nat) (fun j=>⟨[(3,.bsl h.length 0 2 l.length),(8,.v (.int .i64 l.length)),(9,.v (.int .i64 j))],[],h++[F],[]⟩) (fun j=>j <= l.length) (fun j=>l.length-j) 0 (by simp) ?_ ?_
  ·simp[Leq,hh,hF]
  ·intro j hj
   by_cases hlt:j<l.length
   ·have hw:IntKind.i64.wrap ((j:Int)+1)=(j:Int)+1:=wrap64 (by omega) (by omega)
    have hg:=hget j hlt
    have hfit:j*2+1+1 <= F.length:=by omega
    have hbl:=hb _ (List.getElem_mem hlt)
    generalize l[j]=c at *
    simp[hlt,hg]
    refine aa (by simp) (zW c.2 (by omega) _) ?_
    have hfit2:j*2+1<F.length:=by omega
    simp[hlt,hg,hw,hfit,hfit2]
    refine⟨j+1,by omega,by omega,?_⟩
    have hq:=sg (a:=[F.set (j*2+1) (.sl 1 (ai c.2) none (.own (.cell h.length (j*2+1))))]) (b:=[F]) h 0 ⟨.inr (yF F 0 (j*2+1) _ _ hg (by simp[LeqV])),trivial⟩
    simp[Leq,hh,hF] at hq ⊢
    exact hq
   ·have:j=l.length:=by omega
    subst this
    simp[Leq,hh,hz]
 ·simp[hh]
end Ax
end Go.Proofs.YtlbgjlmokpkkeaaGreatDoor
