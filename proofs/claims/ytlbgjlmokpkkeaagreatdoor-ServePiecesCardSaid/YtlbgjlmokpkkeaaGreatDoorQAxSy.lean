import Derived.Test.YtlbgjlmokpkkeaaGreatDoorQAxSx
import Derived.Test.YtlbgjlmokpkkeaaGreatDoorQAxSo
import Derived.Lib.TrimU
open List renaming eq_nil_of_length_eq_zero -> aaa, drop_eq_nil_of_le -> aab
open Nat renaming le_refl -> aac
set_option linter.all false
set_option maxRecDepth 10000
namespace Go.Proofs.YtlbgjlmokpkkeaaGreatDoor
namespace Ax
open Go.RowKit Go By
def Ng:XFun:=⟨28,.seq (.ops [oZ 2 nv]) (.seq (.ops [oM 7 0,oX 8 (.call 177 [.tmp 7,.const (.string (af [32]))]),oA 0 8]) (.seq (.seq (.ops [oM 10 0,oX 11 (.call 178 [.tmp 10,.const (.string (af [115,101,108,101,99,116,32]))]),oM 9 11,oE 12 9 0,oE 13 9 1,oA 3 12,oA 4 13]) (.seq (.ops [oM 14 4]) (.cond (.tmp 14) (.seq (.ops [oM 15 3,oC 16 179 [15],oS 3 2 16]) .ret) .skip))) (.seq (.seq (.ops [oM 18 0,oX 19 (.call 178 [.tmp 18,.const (.string (af [102,97,105,108,32]))]),oM 17 19,oE 20 17 0,oE 21 17 1,oA 5 20,oA 6 21]) (.seq (.ops [oM 22 6]) (.cond (.tmp 22) (.seq (.ops [oM 23 5,oC 24 180 [23],oS 3 2 24]) .ret) .skip))) (.seq (.ops [oM 25 0,oX 26 (.buildSlice 1 6 mz [(0,.const (.int .i64 1)),(1,.const (.int .i64 2)),(2,.const (.int .i64 3)),(3,.const (.int .i64 4)),(4,.const (.int .i64 6)),(5,.const (.int .i64 7))]),oC 27 181 [25,26],oS 3 2 27]) .ret)))),[.loadN 3 (.tmp 2)]⟩
theorem Xh:aj Tryz.prog 129=some Ng:=by kernel_rfl
def FR:XFun:=⟨6,.seq (.ops [oJ 1 0,oK 2 (.bool false)]) (.seq (.ops [oP 3 3 1,oX 4 (.buildSlice 1 2 mz [(0,.const (.int .i64 3)),(1,.const (.int .i64 4))]),oC 5 182 [3,4],oA 2 5]) .ret),[.move (.tmp 2)]⟩
theorem SN:aj Tryz.prog 184=some FR:=by kernel_rfl
def Nh:XFun:=⟨6,.seq (.ops [oJ 1 0,oK 2 (.bool false)]) (.seq (.ops [oP 3 3 1,oX 4 (.buildSlice 1 3 mz [(0,.const (.int .i64 5)),(1,.const (.int .i64 6)),(2,.const (.int .i64 7))]),oC 5 182 [3,4],oA 2 5]) .ret),[.move (.tmp 2)]⟩
theorem Xi:aj Tryz.prog 130=some Nh:=by kernel_rfl
def NH:XFun:=⟨15,.seq (.ops [oJ 2 0,oK 4 (.int .i64 0)]) (.seq (.block 0 (.seq (.ops [oF 6 0 2,oL 7 6,oI 8 .eql 7 (.int .i64 6),oA 5 8]) (.cond (.tmp 5) (.seq (.ops [oM 9 1,oX 10 (.maxI [.tmp 9,.const (.int .i64 0)]),oX 11 (.minI [.tmp 10,.const (.int .i64 1000)]),oA 4 11]) .ret) (.seq (.ops [oP 13 3 2,oC 14 130 [13],oA 12 14]) (.cond (.tmp 12) (.seq (.ops [oK 4 (.int .i64 1)]) .ret) .skip))))) (.seq (.ops [oK 4 (.int .i64 0)]) .ret)),[.move (.tmp 4)]⟩
theorem XV:aj Tryz.prog 186=some NH:=by kernel_rfl
def ND:XFun:=⟨15,.seq (.ops [oZ 2 nv]) (.seq (.ops [oM 6 0,oX 7 (.call 227 [.tmp 6,.const (.int .i64 99)]),oM 5 7,oE 8 5 0,oE 9 5 1,oA 3 8,oA 4 9]) (.seq (.seq (.ops [oM 10 4,oV 11 10]) (.cond (.tmp 11) (.seq (.ops [oX 12 (.build nv []),oS 3 2 12]) .ret) .skip)) (.seq (.ops [oM 13 3,oX 14 (.build nv [(0,1,.const (.int .i64 5)),(1,1,.tmp 13)]),oS 3 2 14]) .ret))),[.loadN 3 (.tmp 2)]⟩
theorem XQ:aj Tryz.prog 179=some ND:=by kernel_rfl
def JM:XFun:=⟨13,.seq (.ops [oZ 2 nv]) (.seq (.seq (.ops [oM 3 0,oX 4 (.lenS (.tmp 3)),oI 5 .neq 4 (.int .i64 5),oM 6 5,oG 6 false (oM 7 0),oG 6 false (oX 8 (.call 228 [.tmp 7,.func 229])),oU 9 6 8]) (.cond (.tmp 9) (.seq (.ops [oX 10 (.build nv []),oS 3 2 10]) .ret) .skip)) (.seq (.ops [oM 11 0,oX 12 (.build nv [(0,1,.const (.int .i64 8)),(2,1,.tmp 11)]),oS 3 2 12]) .ret)),[.loadN 3 (.tmp 2)]⟩
theorem XR:aj Tryz.prog 180=some JM:=by kernel_rfl
def NE:XFun:=⟨21,.seq (.ops [oZ 4 nv]) (.seq (.seq (.ops [oM 7 1,oH 8 7,oX 9 (.move (.const (.int .i64 0)))]) (.block 0 (.loop (.seq (.ops [oB 10 .lss 9 8]) (.seq (.cond (.tmp 10) .skip (.exit 0)) (.seq (.block 1 (.seq (.ops [oW 11 1 7 9,oL 12 11,oA 6 12]) (.seq (.ops [oM 13 0,oM 14 6,oC 15 230 [14],oB 16 .eql 13 15]) (.cond (.tmp 16) (.seq (.ops [oM 17 6,oD 18 0 nv 17,oS 3 4 18]) .ret) .skip)))) (.ops [oI 19 .add 9 (.int .i64 1),oM 9 19]))))))) (.seq (.ops [oX 20 (.build nv []),oS 3 4 20]) .ret)),[.loadN 3 (.tmp 4)]⟩
theorem XS:aj Tryz.prog 181=some NE:=by kernel_rfl
def tL:XFun:=⟨18,.seq (.ops [oK 2 (.string (af []))]) (.seq (.seq (.ops [oM 3 0]) (.block 0 (.seq (.ops [oI 5 .eql 3 (.int .i64 2),oA 4 5]) (.cond (.tmp 4) (.seq (.ops [oK 2 (.string (af [98,101,103,105,110]))]) .ret) (.seq (.ops [oI 7 .eql 3 (.int .i64 3),oA 6 7]) (.cond (.tmp 6) (.seq (.ops [oK 2 (.string (af [99,111,109,109,105,116]))]) .ret) (.seq (.ops [oI 9 .eql 3 (.int .i64 4),oA 8 9]) (.cond (.tmp 8) (.seq (.ops [oK 2 (.string (af [114,111,108,108,98,97,99,107]))]) .ret) (.seq (.ops [oI 11 .eql 3 (.int .i64 5),oA 10 11]) (.cond (.tmp 10) (.seq (.ops [oK 2 (.string (af [115,101,108,101,99,116,32]))]) .ret) (.seq (.ops [oI 13 .eql 3 (.int .i64 6),oA 12 13]) (.cond (.tmp 12) (.seq (.ops [oK 2 (.string (af [101,99,104,111]))]) .ret) (.seq (.ops [oI 15 .eql 3 (.int .i64 7),oA 14 15]) (.cond (.tmp 14) (.seq (.ops [oK 2 (.string (af [110,101,120,116]))]) .ret) (.seq (.ops [oI 17 .eql 3 (.int .i64 8),oA 16 17]) (.cond (.tmp 16) (.seq (.ops [oK 2 (.string (af [102,97,105,108,32]))]) .ret) .skip)))))))))))))))) (.seq (.ops [oK 2 (.string (af []))]) .ret)),[.move (.tmp 2)]⟩
theorem Yk:aj Tryz.prog 230=some tL:=by kernel_rfl
def FQ:XFun:=⟨9,.seq (.ops [oJ 2 0,oK 4 (.bool false)]) (.seq (.ops [oM 5 1,oF 6 0 2,oL 7 6,oC 8 231 [5,7],oA 4 8]) .ret),[.move (.tmp 4)]⟩
theorem SM:aj Tryz.prog 182=some FQ:=by kernel_rfl
def JL:XFun:=⟨43,.seq (.ops [oK 4 (.string (af []))]) (.seq (.seq (.ops [oM 7 0,oI 8 .eql 7 (.string (af [])),oM 9 8,oG 9 false (oM 10 1),oG 9 false (oI 11 .eql 10 (.string (af []))),oU 12 9 11]) (.cond (.tmp 12) (.seq (.ops [oM 13 0,oA 4 13]) .ret) .skip)) (.seq (.seq (.ops [oM 14 1,oX 15 (.lenS (.tmp 14)),oI 16 .eql 15 (.int .i64 1),oM 17 16,oG 17 true (oM 18 1),oG 17 true (oX 19 (.idxS (.tmp 18) (.const (.int .i64 0)))),oG 17 true (oI 20 .lss 19 (.int .u8 128)),oT 21 17 20]) (.cond (.tmp 21) (.seq (.draws (.take (oM 22 0) (.take (oM 23 1) (.take (oX 24 (.idxS (.tmp 23) (.const (.int .i64 0)))) (.take (oM 26 1) (.take (oX 27 (.idxS (.tmp 26) (.const (.int .i64 0)))) (.only (oC 25 220 [22,24]) (.only (oC 28 219 [25,27]) (.take (oA 4 28) .done))))))))) .ret) .skip)) (.seq (.seq (.ops [oM 30 1,oC 31 221 [30],oM 29 31,oE 32 29 0,oE 33 29 1,oZ 5 [.v (.bool false),.v (.bool false),.v (.bool false),.v (.bool false),.v (.bool false),.v (.bool false),.v (.bool false),.v (.bool false),.v (.bool false),.v (.bool false),.v (.bool false),.v (.bool false),.v (.bool false),.v (.bool false),.v (.bool false),.v (.bool false),.v (.bool false),.v (.bool false),.v (.bool false),.v (.bool false),.v (.bool false),.v (.bool false),.v (.bool false),.v (.bool false),.v (.bool false),.v (.bool false),.v (.bool false),.v (.bool false),.v (.bool false),.v (.bool false),.v (.bool false),.v (.bool false),.v (.bool false),.v (.bool false),.v (.bool false),.v (.bool false),.v (.bool false),.v (.bool false),.v (.bool false),.v (.bool false),.v (.bool false),.v (.bool false),.v (.bool false),.v (.bool false),.v (.bool false),.v (.bool false),.v (.bool false),.v (.bool false),.v (.bool false),.v (.bool false),.v (.bool false),.v (.bool false),.v (.bool false),.v (.bool false),.v (.bool false),.v (.bool false),.v (.bool false),.v (.bool false),.v (.bool false),.v (.bool false),.v (.bool false),.v (.bool false),.v (.bool false),.v (.bool false),.v (.bool false),.v (.bool false),.v (.bool false),.v (.bool false),.v (.bool false),.v (.bool false),.v (.bool false),.v (.bool false),.v (.bool false),.v (.bool false),.v (.bool false),.v (.bool false),.v (.bool false),.v (.bool false),.v (.bool false),.v (.bool false),.v (.bool false),.v (.bool false),.v (.bool false),.v (.bool false),.v (.bool false),.v (.bool false),.v (.bool false),.v (.bool false),.v (.bool false),.v (.bool false),.v (.bool false),.v (.bool false),.v (.bool false),.v (.bool false),.v (.bool false),.v (.bool false),.v (.bool false),.v (.bool false),.v (.bool false),.v (.bool false),.v (.bool false),.v (.bool false),.v (.bool false),.v (.bool false),.v (.bool false),.v (.bool false),.v (.bool false),.v (.bool false),.v (.bool false),.v (.bool false),.v (.bool false),.v (.bool false),.v (.bool false),.v (.bool false),.v (.bool false),.v (.bool false),.v (.bool false),.v (.bool false),.v (.bool false),.v (.bool false),.v (.bool false),.v (.bool false),.v (.bool false),.v (.bool false),.v (.bool false),.v (.bool false),.v (.bool false),.v (.bool false),.v (.bool false),.v (.bool false),.v (.bool false),.v (.bool false),.v (.bool false),.v (.bool false),.v (.bool false),.v (.bool false),.v (.bool false),.v (.bool false),.v (.bool false),.v (.bool false),.v (.bool false),.v (.bool false),.v (.bool false),.v (.bool false),.v (.bool false),.v (.bool false),.v (.bool false),.v (.bool false),.v (.bool false),.v (.bool false),.v (.bool false),.v (.bool false),.v (.bool false),.v (.bool false),.v (.bool false),.v (.bool false),.v (.bool false),.v (.bool false),.v (.bool false),.v (.bool false),.v (.bool false),.v (.bool false),.v (.bool false),.v (.bool false),.v (.bool false),.v (.bool false),.v (.bool false),.v (.bool false),.v (.bool false),.v (.bool false),.v (.bool false),.v (.bool false),.v (.bool false),.v (.bool false),.v (.bool false),.v (.bool false),.v (.bool false),.v (.bool false),.v (.bool false),.v (.bool false),.v (.bool false),.v (.bool false),.v (.bool false),.v (.bool false),.v (.bool false),.v (.bool false),.v (.bool false),.v (.bool false),.v (.bool false),.v (.bool false),.v (.bool false),.v (.bool false),.v (.bool false),.v (.bool false),.v (.bool false),.v (.bool false),.v (.bool false),.v (.bool false),.v (.bool false),.v (.bool false),.v (.bool false),.v (.bool false),.v (.bool false),.v (.bool false),.v (.bool false),.v (.bool false),.v (.bool false),.v (.bool false),.v (.bool false),.v (.bool false),.v (.bool false),.v (.bool false),.v (.bool false),.v (.bool false),.v (.bool false),.v (.bool false),.v (.bool false),.v (.bool false),.v (.bool false),.v (.bool false),.v (.bool false),.v (.bool false),.v (.bool false),.v (.bool false),.v (.bool false),.v (.bool false),.v (.bool false),.v (.bool false),.v (.bool false),.v (.bool false),.v (.bool false),.v (.bool false),.v (.bool false),.v (.bool false),.v (.bool false),.v (.bool false),.v (.bool false),.v (.bool false),.v (.bool false),.v (.bool false),.v (.bool false),.v (.bool false),.v (.bool false),.v (.bool false),.v (.bool false),.v (.bool false),.v (.bool false),.v (.bool false),.v (.bool false),.v (.bool false),.v (.bool false),.v (.bool false),.v (.bool false),.v (.bool false),.v (.bool false),.v (.bool false)],oS 256 5 32,oA 6 33]) (.seq (.ops [oM 34 6]) (.cond (.tmp 34) (.seq (.ops [oM 35 0,oC 36 223 [35,5],oC 37 222 [36,5],oA 4 37]) .ret) .skip))) (.seq (.ops [oM 38 0,oM 39 1,oC 40 225 [38,39],oM 41 1,oC 42 224 [40,41],oA 4 42]) .ret)))),[.move (.tmp 4)]⟩
theorem XO:aj Tryz.prog 177=some JL:=by kernel_rfl
def NU:XFun:=⟨17,.seq (.ops [oK 4 (.string (af []))]) (.seq (.block 0 (.loop (.seq (.seq (.ops [oM 5 0,oX 6 (.lenS (.tmp 5)),oI 7 .gtr 6 (.int .i64 0),oM 8 7,oG 8 true (oM 9 0),oG 8 true (oX 10 (.idxS (.tmp 9) (.const (.int .i64 0)))),oG 8 true (oM 11 1),oG 8 true (oB 12 .eql 10 11),oT 13 8 12]) (.cond (.tmp 13) .skip (.exit 0))) (.block 1 (.ops [oM 14 0,oX 15 (.sliceS (.tmp 14) (some (.const (.int .i64 1))) none),oA 0 15]))))) (.seq (.ops [oM 16 0,oA 4 16]) .ret)),[.move (.tmp 4)]⟩
theorem Yg:aj Tryz.prog 219=some NU:=by kernel_rfl
def NV:XFun:=⟨23,.seq (.ops [oK 4 (.string (af []))]) (.seq (.block 0 (.loop (.seq (.seq (.ops [oM 5 0,oX 6 (.lenS (.tmp 5)),oI 7 .gtr 6 (.int .i64 0),oM 8 7,oG 8 true (oM 9 0),oG 8 true (oM 10 0),oG 8 true (oX 11 (.lenS (.tmp 10))),oG 8 true (oI 12 .sub 11 (.int .i64 1)),oG 8 true (oX 13 (.idxS (.tmp 9) (.tmp 12))),oG 8 true (oM 14 1),oG 8 true (oB 15 .eql 13 14),oT 16 8 15]) (.cond (.tmp 16) .skip (.exit 0))) (.block 1 (.ops [oM 17 0,oM 18 0,oX 19 (.lenS (.tmp 18)),oI 20 .sub 19 (.int .i64 1),oX 21 (.sliceS (.tmp 17) none (some (.tmp 20))),oA 0 21]))))) (.seq (.ops [oM 22 0,oA 4 22]) .ret)),[.move (.tmp 4)]⟩
theorem Yh:aj Tryz.prog 220=some NV:=by kernel_rfl
def NX:XFun:=⟨9,.seq (.ops [oK 4 (.bool false)]) (.seq (.ops [oM 5 0,oM 6 1,oC 7 250 [5,6],oI 8 .geq 7 (.int .i64 0),oA 4 8]) .ret),[.move (.tmp 4)]⟩
theorem Yj:aj Tryz.prog 228=some NX:=by kernel_rfl
def N4:XFun:=⟨8,.seq (.ops [oK 4 (.int .i64 0)]) (.seq (.ops [oM 5 0,oM 6 1,oX 7 (.call 259 [.tmp 5,.tmp 6,.const (.bool true)]),oA 4 7]) .ret),[.move (.tmp 4)]⟩
theorem Yu:aj Tryz.prog 250=some N4:=by kernel_rfl
end Ax
namespace Ax
set_option maxRecDepth 100000
open Go.RowKit Go By Dg
theorem vW{x:UInt8}:((x.toNat:Int)=32)↔x=32:=by
 constructor
 ·intro e
  exact UInt8.toNat_inj.1 (by show x.toNat=32;omega)
 ·intro e;subst e;rfl
theorem BJ(s:d5)(hs:s.length <= 9223372036854775807)(h:d4):ae Tryz.prog 219 [.v (.string (af s)),.v (.int .u8 32)] h (.v (.string (af (ea s)))) h []:=by
 refine ac Yg mixed (by simp[NU]) fun hh hargs=>?_
 simp[NU]
 refine ap (D:=d5) (fun u=>⟨[(0,.v (.string (af u))),(1,.v (.int .u8 32))],[],h,[]⟩) (fun u=>u.length <= s.length /\ ea u=ea s) (fun u=>u.length) s ⟨aac _,rfl⟩ ?_ ?_
 ·simp[Leq,hh,ag]
 ·rintro u ⟨hj,hl⟩
  cases u with
  | nil=>simp[hh,<- hl,ea]
  | cons x t =>
   simp at hj
   by_cases e:x=32
   ·have e3:(0:Int) <= (t.length:Int):=by omega
    simp[e,oo,e3]
    refine⟨by omega,t,⟨by omega,?_⟩,?_⟩
    ·rw[<- hl,ea,if_pos e]
    ·simp[Leq,hh,ag]
   ·have e4:((x.toNat:Int)==32)=false:=by
     rw[beq_eq_false_iff_ne]
     exact fun k=>e (vW.1 k)
    have e5:¬(x.toNat:Int)=32:=fun k=>e (vW.1 k)
    rw[ea,if_neg e] at hl
    simp[e4,e5,hh,<- hl]
theorem zn(s:d5)(hs:s.length <= 9223372036854775807)(h:d4):ae Tryz.prog 220 [.v (.string (af s)),.v (.int .u8 32)] h (.v (.string (af (cM s)))) h []:=by
 refine ac Yh mixed (by simp[NV]) fun hh hargs=>?_
 simp[NV]
 refine ap (D:=d5) (fun u=>⟨[(0,.v (.string (af u))),(1,.v (.int .u8 32))],[],h,[]⟩) (fun u=>u.length <= s.length /\ cM u=cM s) (fun u=>u.length) s ⟨aac _,rfl⟩ ?_ ?_
 ·simp[Leq,hh,ag]
 ·rintro u ⟨hj,hl⟩
  by_cases hu:u=[]
  ·subst hu
   simp[hh,<- hl,cM]
  ·obtain⟨v,x,rfl⟩:=K7 hu
   simp at hj
   have hw:IntKind.i64.wrap (v.length:Int)=(v.length:Int):=wrap64 (by omega) (by omega)
   by_cases e:x=32
   ·simp[e,oo,hw]
    refine⟨by omega,by omega,v,⟨by omega,?_⟩,by omega,?_⟩
    ·rw[<- hl,e,Bf]
    ·simp[Leq,hh,ag]
   ·have e4:((x.toNat:Int)==32)=false:=by
     rw[beq_eq_false_iff_ne]
     exact fun k=>e (vW.1 k)
    have e5:¬(x.toNat:Int)=32:=fun k=>e (vW.1 k)
    rw[EE v e] at hl
    simp[e4,e5,hh,<- hl,hw]
    omega
theorem PK(s:d5)(hs:s.length <= 9223372036854775807)(h:d4):ae Tryz.prog 177 [.v (.string (af s)),.v (.string (af [32]))] h (.v (.string (af (gL s)))) h []:=by
 refine ac XO mixed (by simp[JL]) fun hh hargs=>?_
 by_cases e:s=[]
 ·subst e
  simp[JL,hh,gL,ea,cM]
 ·have e0:(s==[])=false:=by simpa using e
  simp[JL,e,e0]
  refine aa (by simp) (zn s hs _) ?_
  simp
  refine aa (by simp) (BJ (cM s) (Nat.le_trans (vm s) hs) _) ?_
  simp[hh,gL,ES]
theorem xB{p:UInt8 -> Bool}{s:d5}{j:Nat}(hj:j<s.length)(h:(s.take j).all p=true)(e:p s[j]=true):(s.take (j+1)).all p=true:=by
 rw[List.take_succ_eq_append_getElem hj,List.all_append,h]
 simp[e]
def gG(x:Nat):Bool:=!((decide (48 <= x)&&decide (x <= 57))||(decide (65 <= x)&&decide (x <= 90)))
theorem yJ(x:Nat)(W:World):Calls Tryz.prog 229 #[.int .i32 (x:Int)] W fun e w'=>e=.returned (.bool (gG x)) /\ ∃ q,w'=W.drewN q:=by
 have e:gG x=((decide ((x:Int)<48)||decide (57<(x:Int)))&&(decide ((x:Int)<65)||decide (90<(x:Int)))):=by
  unfold gG
  rw[Bool.eq_iff_iff]
  simp
  omega
 go_enter Tryz.func229,Tryz.ntmps229
 go_wp2
 all_goals go_ret
 all_goals exact⟨by first |rfl |(rw[e];simp;done) |(rw[e];simp;omega) |(rw[e];simp_all;omega) |(simp_all;omega),0,rfl⟩
theorem yz(s:d5)(h:d4):ae Tryz.prog 259 [.v (.string (af s)),.fn (.func 229) [] [],.v (.bool true)] h (.v (.int .i64 (Lib.idxFunc gG true (af s)))) h [] :=
 bW (by kernel_rfl) rfl fun G w vs _ hs=>by
  obtain⟨a,r,rfl,h1,h2⟩:=hs.split
  obtain⟨b,r,rfl,h3,h4⟩:=h2.split
  obtain⟨c,r,rfl,h5,h6⟩:=h4.split
  have hr:r=[]:=aaa (by have:=h6.1;simpa using this)
  rw[h1.inv_v,h5.inv_v,hr]
  cases h3 with
  | fn _ _ _ us vs l1 l2 _ _ =>
   have e1:us=[]:=aaa (by simpa using l1)
   have e2:vs=[]:=aaa (by simpa using l2)
   subst e1 e2
   refine(Tryz.strings_indexFunc 229 #[] (fun args W=>fY (dS (by kernel_rfl)) args W) gG true (af s) w fun W x _=>?_).mono fun e w' he=>?_
   ·exact yJ x W
   ·exact⟨_,he.1,.v _,he.2⟩
theorem decode_high(n b0 b1 b2 b3:Nat)(h:128 <= b0):128 <= (Lib.decodeN n b0 b1 b2 b3).1:=by
 unfold Lib.decodeN
 repeat' split
 all_goals (simp only;omega)
theorem Ae(n b0 b1 b2 b3:Nat)(h:b0<128):Lib.decodeN n b0 b1 b2 b3=(b0,1):=by unfold Lib.decodeN;rw[if_pos h]
theorem Ik(s:d5){j:Nat}(hj:j<s.length):(af s).get! j=s[j]:=by
 show(af s).data[j]! = s[j]
 have:(af s).data=s.toArray:=rfl
 rw[this]
 simp[hj]
theorem Cz(s:d5):∀(f j:Nat),s.length <= j+f -> decide (0 <= Lib.idxFuncFrom gG true (af s) f j) = !((s.drop j).all Jb)
 | 0,j,h=>by
  have:s.drop j=[]:=aab (by omega)
  rw[this];rfl
 | f+1,j,h=>by
  unfold Lib.idxFuncFrom
  rw[ej]
  by_cases hj:j<s.length
  ·rw[if_pos hj,List.drop_eq_getElem_cons hj,List.all_cons,Lib.decode_at,Ik s hj]
   by_cases hb:s[j].toNat<128
   ·rw[Ae _ _ _ _ _ hb]
    have e:gG s[j].toNat = !Jb s[j]:=rfl
    simp only[e]
    cases hc:Jb s[j] with
    | true =>
     simp only[Bool.not_true,Bool.false_eq_true,if_false,Bool.true_and]
     exact Cz s f (j+1) (by omega)
    | false=>simp
   ·have h1:=decode_high ((af s).size-j) s[j].toNat ((af s).get! (j+1)).toNat ((af s).get! (j+2)).toNat ((af s).get! (j+3)).toNat (by omega)
    generalize Lib.decodeN ((af s).size-j) s[j].toNat ((af s).get! (j+1)).toNat ((af s).get! (j+2)).toNat ((af s).get! (j+3)).toNat=q at h1 ⊢
    have e1:gG q.1=true:=by unfold gG;simp;omega
    have e2:Jb s[j]=false:=by unfold Jb;simp;omega
    rw[e1,e2]
    simp
  ·have:s.drop j=[]:=aab (by omega)
   rw[if_neg hj,this];rfl
theorem xP(s:d5)(hs:s.length <= 9223372036854775807)(h:d4):ae Tryz.prog 228 [.v (.string (af s)),.fn (.func 229) [] []] h (.v (.bool (!s.all Jb))) h []:=by
 have hi:ae Tryz.prog 250 [.v (.string (af s)),.fn (.func 229) [] []] h (.v (.int .i64 (Lib.idxFunc gG true (af s)))) h []:=by
  refine ac Yu mixed (by simp[N4]) fun hh hargs=>?_
  simp[N4]
  refine aa (by simp) (yz s _) ?_
  simp[hh]
 have e:=Cz s s.length 0 (by omega)
 rw[List.drop_zero] at e
 have e:decide (0 <= Lib.idxFunc gG true (af s)) = !s.all Jb:=by rw[<- e];unfold Lib.idxFunc;rw[ej]
 refine ac Yj mixed (by simp[NX]) fun hh hargs=>?_
 rw[<- e]
 simp[NX]
 refine aa (by simp) hi ?_
 simp[hh]
end Ax
end Go.Proofs.YtlbgjlmokpkkeaaGreatDoor
