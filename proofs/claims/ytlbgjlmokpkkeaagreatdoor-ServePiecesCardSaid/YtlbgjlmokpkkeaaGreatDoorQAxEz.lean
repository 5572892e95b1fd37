import Derived.Test.YtlbgjlmokpkkeaaGreatDoorQAxEv
open List renaming length_append -> aaa, getElem?_append_left -> aab, getElem?_append_right -> aac, getElem?_eq_some_iff -> aad, length_singleton -> aae, length_set -> aah, set_getElem_self -> aaj
open Nat renaming le_add_right -> aaf, sub_self -> aag, le_refl -> aai
set_option linter.all false
set_option maxRecDepth 10000
namespace Go.Proofs.YtlbgjlmokpkkeaaGreatDoor
namespace Ax
open Go.RowKit Go By
def VR:XFun:=⟨43,.seq (.ops [oZ 2 xo,oK 3 (.int .i64 0)]) (.seq (.ops [oM 6 0,oC 7 75 [6],oD 8 0 qw 7,oZ 4 qw,oS 1 4 8]) (.seq (.ops [oF 9 0 4,oL 10 9,oX 11 (.call 76 [.tmp 10,.const (.int .i64 4)]),oD 12 0 xo 11,oZ 5 xo,oS 4 5 12]) (.seq (.seq (.ops [oF 13 0 4,oL 14 13,oC 15 77 [14]]) (.cond (.tmp 15) (.seq (.ops [oX 16 (.build xo []),oS 4 2 16,oK 3 (.int .i64 4)]) .ret) .skip)) (.seq (.seq (.ops [oF 17 0 5,oL 18 17]) (.block 0 (.seq (.ops [oI 21 .eql 18 (.int .i64 196608),oA 20 21]) (.cond (.tmp 20) (.ops [oP 22 1 4,oC 23 78 [22],oF 24 3 5,oS 1 24 23]) (.seq (.ops [oI 26 .eql 18 (.int .i64 80877102),oA 25 26]) (.cond (.tmp 25) (.seq (.ops [oF 27 0 4,oL 28 27,oX 29 (.call 76 [.tmp 28,.const (.int .i64 4)]),oF 30 1 5,oS 1 30 29]) (.ops [oF 31 0 4,oL 32 31,oX 33 (.call 76 [.tmp 32,.const (.int .i64 4)]),oF 34 2 5,oS 1 34 33])) (.seq (.ops [oI 36 .eql 18 (.int .i64 80877103),oA 35 36]) (.cond (.tmp 35) .skip (.seq (.ops [oX 19 (.build xo []),oS 4 2 19,oK 3 (.int .i64 9)]) .ret))))))))) (.seq (.seq (.ops [oF 37 0 4,oL 38 37,oC 39 68 [38],oV 40 39]) (.cond (.tmp 40) (.seq (.ops [oX 41 (.build xo []),oS 4 2 41,oK 3 (.int .i64 4)]) .ret) .skip)) (.seq (.ops [oP 42 4 5,oS 4 2 42,oK 3 (.int .i64 0)]) .ret)))))),[.loadN 4 (.tmp 2),.move (.tmp 3)]⟩
theorem ZJ:aj Tryz.prog 47=some VR:=by kernel_rfl
def Vw:XFun:=⟨56,.seq (.ops [oJ 1 0,oN 2,oK 3 (.int .i64 0)]) (.seq (.seq (.ops [oP 6 4 1,oC 7 36 [6],oV 8 7]) (.cond (.tmp 8) (.seq (.ops [oN 2,oK 3 (.int .i64 1)]) .ret) .skip)) (.seq (.ops [oF 9 0 1,oL 10 9,oX 11 (.call 37 [.const (.slice none 0 0),.tmp 10,.const (.int .i64 4)]),oA 4 11]) (.seq (.seq (.ops [oF 12 0 1,oL 13 12]) (.block 0 (.seq (.ops [oI 15 .eql 13 (.int .i64 196608),oA 14 15]) (.cond (.tmp 14) (.seq (.seq (.ops [oK 5 (.int .i64 0)]) (.block 1 (.loop (.seq (.seq (.ops [oM 16 5,oF 17 3 1,oL 18 17,oH 19 18,oB 20 .lss 16 19]) (.cond (.tmp 20) .skip (.exit 1))) (.seq (.block 2 (.seq (.ops [oM 23 4,oF 24 3 1,oL 25 24,oM 26 5,oW 27 2 25 26,oF 28 0 27,oL 29 28,oX 30 (.appendS (.tmp 23) (.tmp 29)),oX 31 (.buildSlice 1 1 ky [(0,.const (.int .u8 0))]),oX 32 (.append 1 1 (.tmp 30) (.tmp 31)),oA 4 32]) (.ops [oM 33 4,oF 34 3 1,oL 35 34,oM 36 5,oW 37 2 35 36,oF 38 1 37,oL 39 38,oX 40 (.appendS (.tmp 33) (.tmp 39)),oX 41 (.buildSlice 1 1 ky [(0,.const (.int .u8 0))]),oX 42 (.append 1 1 (.tmp 40) (.tmp 41)),oA 4 42]))) (.ops [oM 21 5,oI 22 .add 21 (.int .i64 1),oA 5 22])))))) (.ops [oM 43 4,oX 44 (.buildSlice 1 1 ky [(0,.const (.int .u8 0))]),oX 45 (.append 1 1 (.tmp 43) (.tmp 44)),oA 4 45])) (.seq (.ops [oI 47 .eql 13 (.int .i64 80877102),oA 46 47]) (.cond (.tmp 46) (.draws (.take (oM 48 4) (.take (oF 49 1 1) (.take (oL 50 49) (.take (oF 52 2 1) (.take (oL 53 52) (.only (oX 51 (.call 37 [.tmp 48,.tmp 50,.const (.int .i64 4)])) (.only (oX 54 (.call 37 [.tmp 51,.tmp 53,.const (.int .i64 4)])) (.take (oA 4 54) .done))))))))) .skip)))))) (.seq (.ops [oM 55 4,oA 2 55,oK 3 (.int .i64 0)]) .ret)))),[.move (.tmp 2),.move (.tmp 3)]⟩
theorem Zp:aj Tryz.prog 20=some Vw:=by kernel_rfl
def V4:XFun:=⟨20,.seq (.ops [oJ 1 0,oN 2]) (.seq (.ops [oN 3]) (.seq .skip (.seq (.block 0 (.loop (.block 1 (.seq (.ops [oF 5 0 1,oL 6 5,oC 7 88 [6],oA 4 7]) (.seq (.ops [oM 8 4]) (.block 2 (.seq (.ops [oI 18 .eql 8 (.string (af [])),oA 17 18]) (.cond (.tmp 17) (.exit 0) (.ops [oM 9 3,oM 10 4,oF 11 0 1,oL 12 11,oC 13 88 [12],oX 14 (.build jX [(0,1,.tmp 10),(1,1,.tmp 13)]),oR 15 2 1 14 jX,oX 16 (.append 2 32 (.tmp 9) (.tmp 15)),oA 3 16]))))))))) (.seq (.ops [oM 19 3,oA 2 19]) .ret)))),[.move (.tmp 2)]⟩
theorem Z6:aj Tryz.prog 78=some V4:=by kernel_rfl
def VL:XFun:=⟨87,.seq (.ops [oJ 1 0,oK 2 (.bool false)]) (.seq (.seq (.ops [oK 3 (.int .i64 0)]) (.block 0 (.loop (.seq (.seq (.ops [oM 5 3,oF 6 3 1,oL 7 6,oH 8 7,oB 9 .lss 5 8]) (.cond (.tmp 9) .skip (.exit 0))) (.seq (.block 1 (.seq (.ops [oF 12 3 1,oL 13 12,oM 14 3,oW 15 2 13 14,oF 16 0 15,oL 17 16,oI 18 .eql 17 (.string (af [])),oM 19 18,oG 19 false (oF 20 3 1),oG 19 false (oL 21 20),oG 19 false (oM 22 3),oG 19 false (oW 23 2 21 22),oG 19 false (oF 24 0 23),oG 19 false (oL 25 24),oG 19 false (oC 26 54 [25]),oG 19 false (oV 27 26),oU 28 19 27,oM 29 28,oG 29 false (oF 30 3 1),oG 29 false (oL 31 30),oG 29 false (oM 32 3),oG 29 false (oW 33 2 31 32),oG 29 false (oF 34 1 33),oG 29 false (oL 35 34),oG 29 false (oC 36 54 [35]),oG 29 false (oV 37 36),oU 38 29 37]) (.cond (.tmp 38) (.seq (.ops [oK 2 (.bool false)]) .ret) .skip))) (.ops [oM 10 3,oI 11 .add 10 (.int .i64 1),oA 3 11])))))) (.seq (.ops [oF 39 1 1,oL 40 39,oI 41 .eql 40 (.int .i64 0),oM 42 41,oG 42 true (oF 43 2 1),oG 42 true (oL 44 43),oG 42 true (oI 45 .eql 44 (.int .i64 0)),oT 46 42 45,oA 4 46]) (.seq (.seq (.ops [oF 47 0 1,oL 48 47]) (.block 2 (.seq (.ops [oI 50 .eql 48 (.int .i64 196608),oA 49 50]) (.cond (.tmp 49) (.seq (.ops [oM 51 4,oA 2 51]) .ret) (.seq (.ops [oI 53 .eql 48 (.int .i64 80877103),oA 52 53]) (.cond (.tmp 52) (.seq (.ops [oM 54 4,oM 55 54,oG 55 true (oF 56 3 1),oG 55 true (oL 57 56),oG 55 true (oH 58 57),oG 55 true (oI 59 .eql 58 (.int .i64 0)),oT 60 55 59,oA 2 60]) .ret) (.seq (.ops [oI 62 .eql 48 (.int .i64 80877102),oA 61 62]) (.cond (.tmp 61) (.seq (.ops [oF 63 3 1,oL 64 63,oH 65 64,oI 66 .eql 65 (.int .i64 0),oM 67 66,oG 67 true (oF 68 1 1),oG 67 true (oL 69 68),oG 67 true (oI 70 .geq 69 (.int .i64 0)),oT 71 67 70,oM 72 71,oG 72 true (oF 73 2 1),oG 72 true (oL 74 73),oG 72 true (oI 75 .geq 74 (.int .i64 0)),oT 76 72 75,oM 77 76,oG 77 true (oF 78 1 1),oG 77 true (oL 79 78),oG 77 true (oX 80 (.call 55 [.tmp 79,.const (.int .i64 4)])),oT 81 77 80,oM 82 81,oG 82 true (oF 83 2 1),oG 82 true (oL 84 83),oG 82 true (oX 85 (.call 55 [.tmp 84,.const (.int .i64 4)])),oT 86 82 85,oA 2 86]) .ret) .skip)))))))) (.seq (.ops [oK 2 (.bool false)]) .ret)))),[.move (.tmp 2)]⟩
theorem ZB:aj Tryz.prog 36=some VL:=by kernel_rfl
end Ax
namespace Ax
open Go.RowKit Go By YtlbgjlmokpkkeaaGreatDoor.Nm Sc Dg
def jY(p:Pa):Bool:=p.name==[]||!cleanB p.name||!cleanB p.value
def tF(m:Hm):Bool:=m.process==0&&m.secret==0
def ON(m:Hm):Bool :=
 if m.code=196608 then tF m&&!m.params.any jY
 else if m.code=80877102 then decide (m.params.length=0)&&(cu 4 m.process&&cu 4 m.secret)
 else if m.code=80877103 then decide (m.params.length=0)&&tF m
 else false
def uY(p:Pa):d5:=aM [p.name,p.value]
def mW(l:List Pa):d5:=l.flatMap uY
def zS(m:Hm):d5 :=
 if m.code=196608 then aD 4 m.code++(mW m.params++[0])
 else if m.code=80877102 then aD 4 m.code++(aD 4 m.process++aD 4 m.secret)
 else aD 4 m.code
def vV(m:Hm):d5×Int:=if ON m=true then(zS m,0) else([],1)
theorem uU(n:Int):(aD 4 n).length <= 4:=by
 have:=put_len n 4 (by omega) []
 simpa[aD] using this
def qh(m:Hm):Bool :=
 if m.params.any jY=true then false
 else if m.code=196608 then tF m
 else if m.code=80877103 then tF m&&decide (m.params.length=0)
 else if m.code=80877102 then decide (m.params.length=0)&&(decide (0 <= m.process)&&(decide (0 <= m.secret)&&(aB m.process 4&&aB m.secret 4)))
 else false
theorem OO(m:Hm):ON m=qh m:=by
 unfold ON qh
 have hu:∀ n:Int,cu 4 n=(decide (0 <= n)&&aB n 4):=fun n=>by
  unfold cu
  congr 1
  rw[Bool.eq_iff_iff];simp
 cases ha:m.params.any jY with
 | true =>
  have hne:¬m.params.length=0:=fun h=>by
   rw[List.length_eq_zero_iff.1 h] at ha;cases ha
  simp[hne]
 | false =>
  by_cases k1:m.code=196608
  ·simp[k1]
  by_cases k2:m.code=80877102
  ·simp[k1,k2,hu,Bool.and_assoc,Bool.and_left_comm]
  by_cases k3:m.code=80877103
  ·simp[k1,k2,k3,Bool.and_comm]
  simp[k1,k2,k3]
theorem Px(m:Hm)(hl:m.params.length <= 140737488355328)(ho:∀ p∈m.params,MN p)(h:d4):ae Tryz.prog 36 [.agg (tH m)] h (.v (.bool (qh m))) h []:=by
 refine ac ZB mixed (by simp[VL]) fun hh hargs=>?_
 simp[VL]
 refine ap (D:=Nat) (fun j=>⟨[(1,.box h.length 0),(3,.v (.int .i64 j))],[],h++[tH m],[]⟩) (fun j=>j <= m.params.length /\ (m.params.take j).any jY=false) (fun j=>m.params.length-j) 0 (by simp) ?_ ?_
 ·simp[Leq,hh]
 ·rintro j ⟨hj,ha⟩
  by_cases hlt:j<m.params.length
  ·have hw:IntKind.i64.wrap ((j:Int)+1)=(j:Int)+1:=wrap64 (by omega) (by omega)
   have hmem:m.params[j]∈m.params:=List.getElem_mem _
   obtain⟨o1,o2⟩:=ho _ hmem
   have hbad:jY m.params[j]=true -> qh m=false:=fun hb=>by
    have:m.params.any jY=true:=List.any_eq_true.2 ⟨_,hmem,hb⟩
    unfold qh;rw[if_pos this]
   have hgood:jY m.params[j]=false -> (m.params.take (j+1)).any jY=false:=fun hb=>by
    rw[List.take_succ_eq_append_getElem hlt,List.any_append,ha];simp[hb]
   obtain⟨p,hp⟩:∃ p,m.params[j]=p:=⟨_,rfl⟩
   rw[hp] at hmem o1 o2 hbad hgood
   simp[hlt,hp,lf]
   cases h1:p.name.isEmpty with
   | true =>
    have hb:=hbad (by
     have:p.name=[]:=by simpa using h1
     simp[jY,this])
    simp[h1,hh,hb]
   | false =>
   have h1':p.name≠[]:=fun h=>by rw[h] at h1;cases h1
   simp[hlt,hp,lf,h1]
   refine aa (by simp) (lj p.name o1 _) ?_
   cases h2:cleanB p.name with
   | false =>
    have hb:=hbad (by simp[jY,h2])
    simp[hh,hb,h1]
   | true =>
   simp[hlt,hp,lf,h1]
   refine aa (by simp) (lj p.value o2 _) ?_
   cases h3:cleanB p.value with
   | false =>
    have hb:=hbad (by simp[jY,h3])
    simp[hh,hb]
   | true =>
   have hg:=hgood (by simp[jY,h1',h2,h3])
   simp[hw]
   refine⟨j+1,⟨by omega,fun x hx=>by simpa using List.any_eq_false.1 hg x hx⟩,by omega,?_⟩
   simp[Leq,hh]
  ·have:j=m.params.length:=by omega
   subst this
   rw[List.take_length] at ha
   have e:qh m=if m.code=196608 then tF m else if m.code=80877103 then tF m&&decide (m.params.length=0) else if m.code=80877102 then decide (m.params.length=0)&&(decide (0 <= m.process)&&(decide (0 <= m.secret)&&(aB m.process 4&&aB m.secret 4))) else false:=by
    unfold qh;rw[ha];rfl
   rw[e]
   clear e
   have hne:m.params≠[] -> (((m.params.length:Nat):Int)==0)=false:=fun h3=>by
    have:=List.length_pos_iff.2 h3
    rw[beq_eq_false_iff_ne];omega
   have hzz:tF m=(m.process==0&&m.secret==0):=rfl
   rw[hzz]
   cases z1:(m.process==0) with
   | false =>
    simp[z1]
    by_cases k1:m.code=196608
    ·simp[k1,hh,z1]
    by_cases k3:m.code=80877103
    ·by_cases h3:m.params=[]
     ·simp[k1,k3,h3,hh,z1]
     ·simp[k1,k3,h3,hne h3,hh,z1]
    by_cases k2:m.code=80877102
    ·by_cases h3:m.params=[]
     ·by_cases p0:0 <= m.process
      ·by_cases s0:0 <= m.secret
       ·simp[k1,k2,k3,h3,p0,s0]
        refine aa (by simp) (ji m.process 4 _) ?_
        cases r1:aB m.process 4 with
        | false=>simp[hh]
        | true =>
        simp
        refine aa (by simp) (ji m.secret 4 _) ?_
        simp[hh]
       ·simp[k1,k2,k3,h3,p0,s0,hh]
      ·simp[k1,k2,k3,h3,p0,hh]
     ·simp[k1,k2,k3,h3,hne h3,hh]
    simp[k1,k2,k3,hh]
   | true =>
    cases z2:(m.secret==0) with
    | false =>
     simp[z1,z2]
     by_cases k1:m.code=196608
     ·simp[k1,hh,z1,z2]
     by_cases k3:m.code=80877103
     ·by_cases h3:m.params=[]
      ·simp[k1,k3,h3,hh,z1,z2]
      ·simp[k1,k3,h3,hne h3,hh,z1,z2]
     by_cases k2:m.code=80877102
     ·by_cases h3:m.params=[]
      ·by_cases p0:0 <= m.process
       ·by_cases s0:0 <= m.secret
        ·simp[k1,k2,k3,h3,p0,s0]
         refine aa (by simp) (ji m.process 4 _) ?_
         cases r1:aB m.process 4 with
         | false=>simp[hh]
         | true =>
         simp
         refine aa (by simp) (ji m.secret 4 _) ?_
         simp[hh]
        ·simp[k1,k2,k3,h3,p0,s0,hh]
       ·simp[k1,k2,k3,h3,p0,hh]
      ·simp[k1,k2,k3,h3,hne h3,hh]
     simp[k1,k2,k3,hh]
    | true =>
     simp[z1,z2]
     by_cases k1:m.code=196608
     ·simp[k1,hh,z1,z2]
     by_cases k3:m.code=80877103
     ·by_cases h3:m.params=[]
      ·simp[k1,k3,h3,hh,z1,z2]
      ·simp[k1,k3,h3,hne h3,hh,z1,z2]
     by_cases k2:m.code=80877102
     ·by_cases h3:m.params=[]
      ·by_cases p0:0 <= m.process
       ·by_cases s0:0 <= m.secret
        ·simp[k1,k2,k3,h3,p0,s0]
         refine aa (by simp) (ji m.process 4 _) ?_
         cases r1:aB m.process 4 with
         | false=>simp[hh]
         | true =>
         simp
         refine aa (by simp) (ji m.secret 4 _) ?_
         simp[hh]
        ·simp[k1,k2,k3,h3,p0,s0,hh]
       ·simp[k1,k2,k3,h3,p0,hh]
      ·simp[k1,k2,k3,h3,hne h3,hh]
     simp[k1,k2,k3,hh]
theorem Kf(n:Int)(h:d4):ae Tryz.prog 37 [.sl 1 (ai []) none .no,.v (.int .i64 n),.v (.int .i64 4)] h (.sl 1 (ai (aD 4 n)) none (.own .res)) h []:=iK [] n 4 (by simp) h
theorem yw(xs:d5)(n:Int)(hl:xs.length <= 140737488351232)(h:d4):ae Tryz.prog 37 [.sl 1 (ai xs) none .no,.v (.int .i64 n),.v (.int .i64 4)] h (.sl 1 (ai (xs++aD 4 n)) none (.own .res)) h []:=by
 have e:aY xs n 4=xs++aD 4 n:=fh xs n 4
 rw[<- e]
 exact iK xs n 4 hl h
theorem GV(p:Pa):uY p=p.name++(0::(p.value++[0])):=by simp[uY,aM,He.encT]
theorem Eb(m:Hm)(hl:m.params.length <= 140737488351232)(ho:∀ p∈m.params,MN p)(hb:(zS m).length <= 140737488351232)(h:d4):ae Tryz.prog 20 [.agg (tH m)] h (.tup [.sl 1 (ai (vV m).1) none .no,.v (.int .i64 (vV m).2)]) h []:=by
 refine ac Zp mixed (by simp[Vw]) fun hh hargs=>?_
 simp[Vw]
 refine aa (by simp) (Px m (by omega) ho _) ?_
 unfold vV
 rw[OO]
 cases hm:qh m with
 | false=>simp[hh]
 | true =>
 have hC4:=uU m.code
 simp
 refine ak (Kf m.code _) (by simp) (by simp) ?_
 unfold zS at hb ⊢
 by_cases h1:m.code=196608
 ·rw[if_pos h1] at hb ⊢
  generalize aD 4 m.code=C at *
  rw[aaa,aaa,aae] at hb
  simp[h1]
  refine ap (D:=Nat) (fun j=>⟨[(1,.box h.length 0),(5,.v (.int .i64 j))],[(4,.sl 1 (ai (C++mW (m.params.take j))) none (.own (.slot 4)))],h++[tH m],[]⟩) (fun j=>j <= m.params.length) (fun j=>m.params.length-j) 0 (by simp) ?_ ?_
  ·simp[Leq,hh,mW]
  ·intro j hj
   by_cases hlt:j<m.params.length
   ·have hw:IntKind.i64.wrap ((j:Int)+1)=(j:Int)+1:=wrap64 (by omega) (by omega)
    obtain⟨hx,hb2⟩:=dk uY m.params C.length j hlt 140737488351232 (by unfold mW at hb;omega)
    have hx':mW (m.params.take (j+1))=mW (m.params.take j)++uY m.params[j]:=hx
    have hb3:C.length+((mW (m.params.take j)).length+(uY m.params[j]).length) <= 140737488351232:=hb2
    clear hx hb2
    obtain⟨p,hp⟩:∃ p,m.params[j]=p:=⟨_,rfl⟩
    rw[hp,GV] at hb3 hx'
    simp only[aaa,List.length_cons,List.length_nil] at hb3
    simp[hlt,hp,lf]
    refine⟨by omega,by omega,?_⟩
    simp[hlt,hp,lf,hw]
    refine⟨by omega,by omega,j+1,by omega,by omega,?_⟩
    simp[Leq,hh,hx']
   ·have:j=m.params.length:=by omega
    subst this
    simp
    refine⟨by omega,?_⟩
    simp[hh]
 ·rw[if_neg h1] at hb ⊢
  by_cases h2:m.code=80877102
  ·rw[if_pos h2] at hb ⊢
   have l1:=uU m.process
   generalize aD 4 m.code=C at *
   simp[h1,h2]
   refine ak (yw C m.process (by omega) _) (by simp) (by simp) ?_
   simp
   refine ak (yw (C++aD 4 m.process) m.secret (by rw[aaa];omega) _) (by simp) (by simp) ?_
   simp[hh]
  ·rw[if_neg h2] at hb ⊢
   simp[h1,h2,hh]
def shortP(p:Pa):Bool:=decide ((p.name.length:Int) <= 200)&&decide ((p.value.length:Int) <= 200)
def sA:Nat -> Sta -> List Pa×Sta
 | 0,st=>([],ax st)
 | k+1,st=>if He.textL st=[] then([],ax st) else(⟨He.textL st,He.textL (ax st)⟩::(sA k (ax (ax st))).1,(sA k (ax (ax st))).2)
def A3(st:Sta):List Pa:=(sA (He.lenS st+1) st).1
def sB(st:Sta):Sta:=(sA (He.lenS st+1) st).2
theorem Gz(i:Nat)(h:d4)(st:Sta)(hi:h[i]?=some (iy st))(hl:He.lenS st <= 1000000000000):ae Tryz.prog 78 [.agg [.box i 0]] h (.sl 2 (am Je (A3 st)) none .no) (h.set i (iy (sB st))) [i]:=by
 have hil:=jC hi
 refine ac Z6 mixed (by simp[V4]) fun hh hargs=>?_
 simp[V4]
 refine ap (D:=List Pa×Sta×Nat) (fun d=>⟨[(1,.box h.length 0)],[(3,.sl 2 (am Je d.1) none (.own (.slot 3)))],h.set i (iy d.2.1)++[[.box i 0]],[i]⟩)
  (fun d=>A3 st=d.1++(sA d.2.2 d.2.1).1 /\ sB st=(sA d.2.2 d.2.1).2 /\ He.lenS d.2.1<d.2.2 /\ d.1.length+He.lenS d.2.1 <= He.lenS st) (fun d=>d.2.2) ([],st,He.lenS st+1) ⟨rfl,rfl,by simp,by simp⟩ ?_ ?_
 ·simp[Leq,hh,hil,cA,gH hi]
  omega
 ·rintro⟨acc,s,k⟩ ⟨e1,e2,e3,e4⟩
  dsimp only at e1 e2 e3 e4
  obtain⟨k,rfl⟩:∃ n,k=n+1:=⟨k-1,by omega⟩
  rw[sA] at e1 e2
  simp
  refine aa (by simp) (iM i _ s (aR hil _ _) (by omega)) ?_
  simp[aW hil]
  by_cases hz:He.textL s=[]
  ·rw[if_pos hz] at e1 e2
   simp at e1
   simp[hz,hh,hil,e1,e2,cA]
  ·rw[if_neg hz] at e1 e2
   have hless:=He.textS_lt hz
   have hlt:=He.textS_len (ax s)
   have hb:(acc.length+1)*32 <= 140737488355328:=by omega
   have hb2:acc.length+1 <= 140737488355328:=by omega
   simp[hz]
   refine aa (by simp) (iM i _ (ax s) (aR hil _ _) (by omega)) ?_
   simp[aW hil,hb,hb2]
   refine⟨acc++[⟨He.textL s,He.textL (ax s)⟩],ax (ax s),k,⟨by rw[e1];simp,e2,by omega,by simp;omega⟩,by omega,?_⟩
   simp[Leq,hh,hil,cA,lf]
   omega
def tZ:Hm:=⟨0,0,0,[]⟩
def GW(c:Int)(st:Sta):Hm×Int :=
 if kH st=true then(tZ,4)
 else if c=196608 then(if kq (sB st)=true then(⟨c,0,0,A3 st⟩,0) else(tZ,4))
 else if c=80877102 then(if kq (aA (aA st 4) 4)=true then(⟨c,bf st 4,bf (aA st 4) 4,[]⟩,0) else(tZ,4))
 else if c=80877103 then(if kq st=true then(⟨c,0,0,[]⟩,0) else(tZ,4))
 else(tZ,9)
def wL(xs:d5):Hm×Int:=GW (bf (some xs) 4) (aA (some xs) 4)
theorem GA(xs:d5)(hx:xs.length <= 1000000000000)(h:d4):ae Tryz.prog 47 [.sl 1 (ai xs) none .no] h (.tup [.agg (tH (wL xs).1),.v (.int .i64 (wL xs).2)]) h []:=by
 refine ac ZJ mixed (by simp[VR]) fun hh hargs=>?_
 simp[VR]
 refine aa (by simp) (LZ xs (by omega) _) ?_
 simp
 refine aa (by simp) (nW (h.length+1) _ (some xs) (by simp) 4) ?_
 simp
 unfold wL
 have hl:He.lenS (aA (some xs) 4) <= 1000000000000:=Nat.le_trans (yL _ _) hx
 generalize bf (some xs) 4=c at *
 generalize aA (some xs) 4=st at *
 refine aa (by simp) (rj (h.length+1) _ st (by simp)) ?_
 unfold GW
 cases hb:kH st with
 | true=>simp[hh,tZ,jD]
 | false =>
 simp
 by_cases h1:c=196608
 ·simp[h1]
  refine aa (by simp) (Gz (h.length+1) _ st (by simp) hl) ?_
  simp
  refine aa (by simp) (wk (h.length+1) _ (sB st) (by simp)) ?_
  cases hd:kq (sB st) with
  | false=>simp[hh,tZ,jD]
  | true=>simp[hh,jD]
 by_cases h2:c=80877102
 ·simp[h1,h2]
  refine aa (by simp) (nW (h.length+1) _ st (by simp) 4) ?_
  simp
  refine aa (by simp) (nW (h.length+1) _ (aA st 4) (by simp) 4) ?_
  simp
  refine aa (by simp) (wk (h.length+1) _ (aA (aA st 4) 4) (by simp)) ?_
  cases hd:kq (aA (aA st 4) 4) with
  | false=>simp[hh,tZ,jD]
  | true=>simp[hh,jD]
 by_cases h3:c=80877103
 ·simp[h1,h2,h3]
  refine aa (by simp) (wk (h.length+1) _ st (by simp)) ?_
  cases hd:kq st with
  | false=>simp[hh,tZ,jD]
  | true=>simp[hh,jD]
 ·simp[h1,h2,h3,hh,tZ,jD]
end Ax
namespace Ax
open Go.RowKit Go By YtlbgjlmokpkkeaaGreatDoor.Nm Dg
def helM:Hm:=⟨196608,0,0,[⟨[117,115,101,114],[117]⟩]⟩
def helX:d5:=[0,3,0,0,117,115,101,114,0,117,0,0]
def helB:d5:=[0,0,0,16]++helX
theorem D9:vV helM=(helX,0):=by decide +kernel
theorem Ea:wL helX=(helM,0):=by decide +kernel
theorem BB(b:d5)(hl:b.length <= 10000000)(h:d4):ae Tryz.prog 21 [.agg (bL ⟨0,b⟩)] h (.sl 1 (ai (aD 4 ((b.length:Int)+4)++b)) none (.own .res)) h []:=by
 have hw:IntKind.i64.wrap ((b.length:Int)+4)=(b.length:Int)+4:=wrap64 (by omega) (by omega)
 have hn:=xa 4 ((b.length:Int)+4) (by omega)
 refine ac Y1 mixed (by simp[Sd]) fun hh hargs=>?_
 rw[dC]
 generalize hn':(b.length:Int)+4=n at *
 simp[Sd,hn',hw]
 refine ak (iK [] n 4 (by simp) _) (by simp) (by simp) ?_
 rw[show aY [] n 4=aD 4 n from rfl]
 generalize hE:ai (aD 4 n)=E at *
 have hEl:E.length=(aD 4 n).length:=by rw[<- hE,ma]
 simp[hh,-List.append_assoc]
 exact⟨by omega,by rw[<- hE];exact cH _ _⟩
theorem yQ(h:d4):ae Tryz.prog 7 [] h (.sl 1 (ai helB) none (.own .res)) h []:=by
 have kb:=Eb helM (by decide) (by simp[helM,MN,maxLen]) (by decide)
 rw[D9] at kb
 have e0:aD 4 ((helX.length:Int)+4)++helX=helB:=by decide +kernel
 have k2:=fun h=>BB helX (by decide) h
 rw[e0] at k2
 have hB:aK h.length (ai helB):=cH _ _
 have e1:[AV.agg [AV.v (.int .i64 196608),AV.v (.int .i64 0),AV.v (.int .i64 0),AV.sl 2 [[AV.v (.string (af [117,115,101,114])),AV.v (.string (af [117]))]] none .no]]=[.agg (tH helM)]:=rfl
 have e2:AV.agg (bL ⟨0,helX⟩)=AV.agg [AV.v (.int .u8 0),.sl 1 (ai helX) none .no]:=rfl
 refine ac k7 mixed (by simp[c7]) fun hh hargs=>?_
 rw[e2] at k2
 generalize ai helB=E at *
 generalize ai helX=X at *
 simp[c7]
 refine ak (kb _) (by rw[<- e1];simp) (by simp) ?_
 simp
 refine aa (by simp[aO]) (k2 _) ?_
 simp[hh]
 exact hB
section
variable {h:d4} {S:Srv}
set_option maxHeartbeats 1000000 in
theorem IJ(g:SvAt h S)(hm:0<S.F.most)(hg:S.greeted=false)(ho:S.over=false)(hq:S.Q.length <= 100000)(hs:∀ m∈bk [] S.id,BkSm m):
  ∃ o,DoesV 27 [.box S.i 0,.agg (bL ⟨0,helX⟩)] h S (.tup []) { S with Q:=S.Q++cc (bk [] S.id),o:=o,F:={ S.F with typed:=true },greeted:=true }:=by
 obtain⟨i,f,s,o0,Q,F,Z,id,greeted,over⟩:=S
 dsimp only at hm hg ho hq hs ⊢
 subst hg ho
 obtain⟨xs,hxs⟩:∃ xs:d4,xs=[bL ⟨0,helX⟩,tH helM]:=⟨_,rfl⟩
 have hxl:aK (h.length+xs.length) xs:=by rw[hxs];simp[aO]
 have g2:=g.app xs hxl
 obtain⟨o,H,W,kS,gS,vS⟩:=IL g2 (SayX.sl rfl) hs (by simp[bk]) hq
 have e1:=g2.top
 rw[Srv.top_mk] at e1
 have e2:=gS.top
 rw[Srv.top_mk] at e2
 have kF:=IN gS.fr hm
 have g3:=gS.setF { F with typed:=true }
 have e3:=g3.top
 rw[Srv.top_mk] at e3
 have g4:=g3.setTop true false
 dsimp only at kF g3 e1 e2 e3 g4 kS vS
 refine⟨o,_,i::f::W,?_,g4,?_⟩
 ·rw[hxs] at e1 kS
  refine ac Zu mixed (by simp[VF]) fun hh hargs=>?_
  generalize hbk:am bh (bk [] id)=B at *
  simp[VF]
  refine aa (by simp) (GA helX (by decide) _) ?_
  rw[Ea]
  have hco:helM.code=196608:=rfl
  simp[hco,e1]
  refine ak (Gt [] id (by decide) _) (by simp) (by simp) ?_
  rw[hbk]
  simp[e1]
  refine aa (by simp) kS ?_
  rw[aaa] at e2
  have hil:=(aad.1 e2).1
  have hset:H.set i [qT o (Q.length+(cc (bk [] id)).length),.box f 0,.box s 0,.sl 0 [] (some true) .exact,.v (.int .i64 id),.v (.bool false),.v (.bool false)]=H:=by
   rw[<- (aad.1 e2).2];exact aaj hil
  simp[e2,hset]
  refine aa (by simp) kF ?_
  rw[aaa] at e3
  simp[e3]
  have hg4:=g4.hh
  rw[aah,aah] at hg4
  have hvl:=vS.len
  rw[hxs,aaa] at hvl
  refine⟨by omega,?_,hg4,fun a ha hlt=>?_⟩
  ·rw[List.take_of_length_le (by simp)]
   have ht:Srv.top { i:=i,f:=f,s:=s,o:=o,Q:=Q++cc (bk [] id),F:={ F with typed:=true },Z:=Z,id:=id,greeted:=true,over:=false }=[qT o (Q.length+(cc (bk [] id)).length),.box f 0,.box s 0,.sl 0 [] (some true) .exact,.v (.int .i64 id),.v (.bool true),.v (.bool false)]:=by simp[Srv.top]
   rw[<- ht]
   exact cy _ _
  ·rcases ha with ha |rfl
   ·exact .inr (.inr ha)
   ·omega
 ·have v1:=(((ViaV.refl h _).app xs).step vS).step (ViaV.set (S':={ i:=i,f:=f,s:=s,o:=o,Q:=Q++cc (bk [] id),F:={ F with typed:=true },Z:=Z,id:=id,greeted:=false,over:=false }) (Io _) ({ F with typed:=true }.cells f) rfl)
  have v2:=v1.step (ViaV.set (S':={ i:=i,f:=f,s:=s,o:=o,Q:=Q++cc (bk [] id),F:={ F with typed:=true },Z:=Z,id:=id,greeted:=true,over:=false }) (BF _) (Srv.top { i:=i,f:=f,s:=s,o:=o,Q:=Q++cc (bk [] id),F:={ F with typed:=true },Z:=Z,id:=id,greeted:=true,over:=false }) rfl)
  simpa using v2
end
theorem IK(e:AV)(he:e.idOf=none)(hu:e.cells=some [e])(hun:e.unown=e)(h:d4)(hl:e.lt h.length):ae Tryz.prog 18 [e,.sl 0 [] (some true) .exact,.v (.int .i64 0)] h (.box (h.length+5) 0) (h++[(⟨false,65536,262144,[],0⟩:Fw).cells h.length,bc 0 [],bc 0 [],[.mp (h.length+2) 1 true],[e,.mp (h.length+1) 2 false,.box (h.length+3) 0,.v (.int .u8 73),.v (.bool false),.v (.bool false)],[.sl 0 [] (some true) .exact,.box h.length 0,.box (h.length+4) 0,.sl 0 [] (some true) .exact,.v (.int .i64 0),.v (.bool false),.v (.bool false)]]) []:=by
 have kc:∀ h,ae Tryz.prog 35 [.sl 0 [] (some true) .exact] h (.sl 0 [] (some true) .exact) h []:=fun h=>by
  refine ac ZA mixed (by simp[VK]) fun hh hargs=>?_
  simp[VK]
  refine ap (D:=Unit) (fun _=>⟨[(8,.v (.int .i64 0)),(7,.v (.int .i64 0)),(6,.sl 0 [] (some true) .exact),(3,.sl 0 [] (some true) .exact),(2,.sl 0 [] (some true) .exact),(0,.sl 0 [] (some true) .exact)],[],h,[]⟩) (fun _=>True) (fun _=>0) () trivial (by simp[Leq,hh]) (fun _ _=>by simp[hh])
 have hle:=fN (aaf h.length 1) hl
 have hle5:=fN (aaf h.length 5) hl
 have hle6:=fN (aaf h.length 6) hl
 refine ac Zn mixed (by simp[Vu]) fun hh hargs=>?_
 have hl6:=aF (aaf h.length 6) hh
 simp[Vu,he]
 refine aa (by simp) (PY 65536 262144 true (by decide) (by decide) (by decide) (by decide) _) ?_
 simp
 refine aa (by simp[he,hun]) (PE e he hu hun _ (by simp[hle])) ?_
 simp
 refine aa (by simp) (kc _) ?_
 simp
 exact⟨hl6,by simp[Fw.cells],by simp[bc],hle6⟩
def zK(b:Nat):Zs:=⟨b+1,AW b,b+3,0,[],b+5,Em (b+4),73,false,false,false⟩
def v0(b:Nat):Srv:=⟨b+7,b+2,b+6,none,[],⟨false,65536,262144,[],0⟩,zK b,0,false,false⟩
def db(h:d4):d4:=h++[bc 0 [],fU h.length 0,(v0 h.length).F.cells (h.length+2),bc 0 [],bc 0 [],[.mp (h.length+4) 1 true],(zK h.length).top,(v0 h.length).top]
theorem Iy{h:d4}(hh:aK h.length h):SvAt (db h) (v0 h.length):=by
 have at_:∀(j:Nat) (l:d4),(h++l)[h.length+j]?=l[j]?:=fun j l=>by rw[aac (by omega)];simp
 have hl:=aF (aaf h.length 8) hh
 have hs:SsG [] (db h) (h.length+6) (zK h.length):=by
  refine⟨?_,⟨?_,?_,?_⟩,?_,⟨?_,?_,fun x hx=>(by cases hx),fun x hx=>(by cases hx),fun x hx=>(by cases hx),fun x hx=>(by cases hx),?_,?_⟩,?_,?_,fun t ht=>(by cases ht),?_⟩
  ·unfold db;rw[at_];rfl
  ·unfold db;show(h++_)[h.length+1]?=_;rw[at_];rfl
  ·unfold db;show(h++_)[h.length]?=_;rw[aac (aai _)];simp[zK,AW,Eg.cells]
  ·show h.length+1≠h.length;omega
  ·unfold db;show(h++_)[h.length+3]?=_;rw[at_];rfl
  ·unfold db;show(h++_)[h.length+5]?=_;rw[at_];rfl
  ·unfold db;show(h++_)[h.length+4]?=_;rw[at_];rfl
  ·show h.length+5≠h.length+4;omega
  ·unfold db;simp[zK,v0,Srv.top,qT,Fw.cells,Zs.top,fU,bc,hl]
  ·simp[Zs.own,zK,AW]
  ·intro q hq
   simp[Zs.own,zK,AW] at hq
   simp[zK,Em,Ps.vars]
   omega
  ·intro hq;cases hq
 refine⟨?_,?_,⟨fun _=>rfl,fun p hp=>(by cases hp)⟩,hs,?_,fun q hq=>(by cases hq),?_,rfl⟩
 ·unfold db;show(h++_)[h.length+7]?=_;rw[at_];rfl
 ·unfold db;show(h++_)[h.length+2]?=_;rw[at_];rfl
 ·show h.length+7≠h.length+2;omega
 ·simp[v0,Zs.vars,Zs.own,zK,AW,Em,Ps.vars]
theorem C7(b:Nat):∀ q∈(v0 b).vars,b <= q:=fun q hq=>by
 simp[Srv.vars,v0,fO,Zs.vars,Zs.own,zK,AW,Em,Ps.vars] at hq
 omega
theorem DoesV.low{f:FuncId}{args:List AV}{h:d4}{S:Srv}{r:AV}{S':Srv}(d:DoesV f args h S r S'){lo:Nat}(hlo:∀ q∈S.vars,lo <= q)(hl:lo <= h.length):
  ∃ h' wr,ae Tryz.prog f args h r h' wr /\ SvAt h' S' /\ (∀ q∈wr,lo <= q) /\ h.length <= h'.length /\ (∀ q<lo,h'[q]?=h[q]?) /\ (∀ q∈S'.vars,lo <= q) /\ (∀ q<h.length,q∉S.vars -> h'[q]?=h[q]?) /\ ∀ q∈S'.vars,q∈S.vars \/ h.length <= q:=by
 obtain⟨h',wr,k,g',v⟩:=d
 refine⟨h',wr,k,g',fun q hq=>?_,v.len,fun q hq=>v.kept q (by omega) fun hh=>by have:=hlo q hh;omega,fun q hq=>?_,v.kept,v.vars⟩
 ·rcases Nat.lt_or_ge q h.length with h1 |h1
  ·exact hlo q (v.wr q hq h1)
  ·omega
 ·rcases v.vars q hq with h1 |h1
  ·exact hlo q h1
  ·omega
def zF:List AV:=[.v (.int .u8 0),.v (.int .u8 0),.v (.string (af [])),.v (.string (af [])),.v (.string (af [])),.sl 0 [] (some true) .exact,.sl 0 [] (some true) .exact,.sl 0 [] (some true) .exact,.sl 0 [] (some true) .exact,.v (.int .i64 0)]
theorem qO:helB=tI false ⟨0,helX⟩:=by decide +kernel
section
variable {h:d4} {S:Srv}
set_option maxHeartbeats 1000000 in
theorem qp(g:SvAt h S)(hg:S.greeted=false)(ho:S.over=false)(r:d5)(hF:S.F=⟨false,65536,262144,helB++r,0⟩)(hr:r.length <= 100000)(hq:S.Q.length <= 100000)(hs:∀ m∈bk [] S.id,BkSm m):
  ∃ o,DoesV 10 [.box S.i 0] h S (.tup [.agg (aJ noFm),.v (.bool false)]) { S with Q:=S.Q++cc (bk [] S.id),o:=o,F:=⟨true,65536,262144,r,0⟩,greeted:=true }:=by
 obtain⟨i,f,s,o0,Q,F,Z,id,greeted,over⟩:=S
 dsimp only at hg ho hF hq hs ⊢
 subst hg ho hF
 have hsz:=Fw.size_full (F:=⟨false,65536,262144,helB++r,0⟩) (m:=⟨0,helX⟩) (y:=r) (by rw[qO]) (by show helX.length+4 <= 65536;decide) (by show 65536 <= 65536;decide) rfl
 obtain⟨q1,q2,q3,q4,q5⟩:=hsz
 have hz1:aK (h.length+1) [zF]:=by simp[zF]
 have ga:=g.app [zF] hz1
 have kn:=qt ga.fr (by show 0<65536;decide) (by show 65536 <= 1000000;decide) rfl (by show(helB++r).length <= _;rw[aaa,show helB.length=16 from by decide];omega) q2 q3
 rw[q4,q5] at kn
 have g1:=g.setF ⟨false,65536,262144,r,0⟩
 dsimp only at g1 kn
 have hfl:=g.f_lt
 dsimp only at hfl
 rw[List.set_append_left _ _ hfl] at kn
 obtain⟨xs,hxs⟩:∃ xs:d4,xs=[zF,bL ⟨0,helX⟩]:=⟨_,rfl⟩
 have hxl:aK ((h.set f (Fw.cells ⟨false,65536,262144,r,0⟩ f)).length+xs.length) xs:=by rw[hxs];simp[zF,aO]
 have g2:=g1.app xs hxl
 obtain⟨o,H,W,kb,gb,vb⟩:=IJ g2 (by show 0<65536;decide) rfl rfl hq hs
 dsimp only at gb vb kb
 have vz:H[h.length]?=some zF:=by
  have hlen:(h.set f (Fw.cells ⟨false,65536,262144,r,0⟩ f)).length=h.length:=aah
  refine(vb.kept h.length (by rw[hxs];simp) fun hh=>?_).trans ?_
  ·have:=g1.vars_lt hh;omega
  ·rw[hxs,aac (by omega),hlen,aag];rfl
 have vs:=((ViaV.set (h:=h) (S:={ i:=i,f:=f,s:=s,o:=o0,Q:=Q,F:=⟨false,65536,262144,helB++r,0⟩,Z:=Z,id:=id,greeted:=false,over:=false }) (S':={ i:=i,f:=f,s:=s,o:=o0,Q:=Q,F:=⟨false,65536,262144,r,0⟩,Z:=Z,id:=id,greeted:=false,over:=false }) (Io _) (Fw.cells ⟨false,65536,262144,r,0⟩ f) rfl).app xs).step vb
 refine⟨o,H,W++[f],?_,gb,vs⟩
 rw[hxs] at kb
 have e1:=g2.top
 rw[Srv.top_mk,hxs] at e1
 dsimp only at e1
 have km:=fR ga
 have e0:=ga.top
 rw[Srv.top_mk] at e0
 dsimp only at e0 km
 refine ac UB mixed (by simp[JB]) fun hh hargs=>?_
 have ez:[AV.v (.int .u8 0),.v (.int .u8 0),.v (.string (af [])),.v (.string (af [])),.v (.string (af [])),.sl 0 [] (some true) .exact,.sl 0 [] (some true) .exact,.sl 0 [] (some true) .exact,.sl 0 [] (some true) .exact,.v (.int .i64 0)]=zF:=rfl
 simp[JB,ez]
 refine aa (by simp) km ?_
 simp[e0]
 refine aa (by simp) kn ?_
 simp[e1]
 refine aa (by simp) kb ?_
 have hlz:zF.length=10:=rfl
 have huz:zF.map AV.unown=zF:=rfl
 have hsz:H.set h.length zF=H:=by
  rw[<- (aad.1 vz).2];exact aaj (aad.1 vz).1
 have htz:zF.take 10=zF:=rfl
 simp[vz,hlz,huz,hsz,htz]
 have hvl:=vs.len
 refine⟨hvl,by simp[zF,noFm,aL],gb.hh,fun a ha hlt=>?_⟩
 rcases ha with ha |rfl |rfl
 ·exact .inl ha
 ·omega
 ·exact .inr rfl
end
theorem Gw:∃ B1 B2 B3:d5,cc (bk [] 0)=[⟨82,B1⟩,⟨75,B2⟩,⟨90,B3⟩]:=⟨(bP rG).1.body,(bP (kG 0)).1.body,(bP zG).1.body,by decide +kernel⟩
theorem pt:∀ m∈bk [] 0,BkSm m:=fun m hm=>by
 simp[bk] at hm
 rcases hm with rfl |rfl |rfl<;>simp[BkSm,rG,kG,zG]
set_option maxHeartbeats 2000000 in
theorem oy(h:d4):ae Tryz.prog 6 [] h (.v (.bool true)) h []:=by
 refine ac k6 mixed (by simp[c6]) fun hh hargs=>?_
 have g0:=Iy hh
 have lo0:=C7 h.length
 have kn0:=IK (.box (h.length+1) 0) rfl rfl rfl (h++[bc 0 [],fU h.length 0]) (by simp)
 have hheap:(h++[bc 0 [],fU h.length 0])++[(⟨false,65536,262144,[],0⟩:Fw).cells (h++[bc 0 [],fU h.length 0]).length,bc 0 [],bc 0 [],[.mp ((h++[bc 0 [],fU h.length 0]).length+2) 1 true],[.box (h.length+1) 0,.mp ((h++[bc 0 [],fU h.length 0]).length+1) 2 false,.box ((h++[bc 0 [],fU h.length 0]).length+3) 0,.v (.int .u8 73),.v (.bool false),.v (.bool false)],[.sl 0 [] (some true) .exact,.box (h++[bc 0 [],fU h.length 0]).length 0,.box ((h++[bc 0 [],fU h.length 0]).length+4) 0,.sl 0 [] (some true) .exact,.v (.int .i64 0),.v (.bool false),.v (.bool false)]]=db h:=by
  unfold db
  simp[zK,v0,Srv.top,qT,Zs.top]
 rw[hheap] at kn0
 have hlen2:(h++[bc 0 [],fU h.length 0]).length+5=h.length+7:=by simp
 rw[hlen2] at kn0
 have ke:=Gb h
 have hlv:(db h).length=h.length+8:=by simp[db]
 have D1:=Dc g0 rfl helB (by show 0<65536;decide) (by decide) (by show([]:d5).length <= 1000000;decide) (by show 262144 <= 1000000;decide) (by show helB.length+([]:d5).length <= 262144;decide)
 obtain⟨h1,w1,k1,g1,lw1,hl1,hs1,lo1,_⟩:=D1.low lo0 (by omega)
 obtain⟨S1,hS1⟩:∃ S1,S1={ v0 h.length with F:={ (v0 h.length).F with rest:=(v0 h.length).F.rest++helB } }:=⟨_,rfl⟩
 rw[<- hS1] at g1 lo1
 have hi1:S1.i=h.length+7:=by rw[hS1];rfl
 obtain⟨o2,D2⟩:=qp g1 (by rw[hS1];rfl) (by rw[hS1];rfl) [] (by rw[hS1];rfl) (by decide) (by rw[hS1];show([]:List Ms).length <= 100000;decide) (by rw[hS1];exact pt)
 obtain⟨h2,w2,k2,g2,lw2,hl2,hs2,lo2,_⟩:=D2.low lo1 (by omega)
 obtain⟨S2,hS2⟩:∃ S2,S2={ S1 with Q:=S1.Q++cc (bk [] S1.id),o:=o2,F:=⟨true,65536,262144,[],0⟩,greeted:=true }:=⟨_,rfl⟩
 rw[<- hS2] at g2 lo2
 obtain⟨B1,B2,B3,hB⟩:=Gw
 have hi2:S2.i=h.length+7:=by rw[hS2];exact hi1
 have hQ2:S2.Q=[⟨82,B1⟩,⟨75,B2⟩,⟨90,B3⟩]:=by
  rw[<- hB,hS2,hS1];rfl
 have ho2:S2.over=false:=by rw[hS2,hS1];rfl
 obtain⟨o3,D3⟩:=jR g2 hQ2
 obtain⟨h3,w3,k3,g3,lw3,hl3,hs3,lo3,_⟩:=D3.low lo2 (by omega)
 obtain⟨S3,hS3⟩:∃ S3,S3={ S2 with Q:=[⟨75,B2⟩,⟨90,B3⟩],o:=o3 }:=⟨_,rfl⟩
 rw[<- hS3] at g3 lo3
 have hi3:S3.i=h.length+7:=by rw[hS3];exact hi2
 have g3a:=g3.app [bL ⟨82,B1⟩] (by simp[aO])
 obtain⟨o4,D4⟩:=jR g3a (m:=⟨75,B2⟩) (r:=[⟨90,B3⟩]) (by rw[hS3])
 obtain⟨h4,w4,k4,g4,lw4,hl4,hs4,lo4,kp4,vv4⟩:=D4.low lo3 (by simp;omega)
 rw[aaa,aae] at hl4
 obtain⟨S4,hS4⟩:∃ S4,S4={ S3 with Q:=[⟨90,B3⟩],o:=o4 }:=⟨_,rfl⟩
 rw[<- hS4] at g4 lo4
 have hi4:S4.i=h.length+7:=by rw[hS4];exact hi3
 have g4a:=g4.app [bL ⟨75,B2⟩] (by simp[aO])
 obtain⟨o5,D5⟩:=jR g4a (m:=⟨90,B3⟩) (r:=[]) (by rw[hS4])
 obtain⟨h5,w5,k5,g5,lw5,hl5,hs5,lo5,kp5,_⟩:=D5.low lo4 (by simp;omega)
 obtain⟨S5,hS5⟩:∃ S5,S5={ S4 with Q:=[],o:=o5 }:=⟨_,rfl⟩
 rw[<- hS5] at g5 lo5
 have hi5:S5.i=h.length+7:=by rw[hS5];exact hi4
 have ho5:S5.over=false:=by rw[hS5,hS4,hS3];exact ho2
 have g5a:=g5.app [bL ⟨90,B3⟩] (by simp[aO])
 have k6:=tu g5a (by rw[hS5])
 have g6:=g5.app [bL ⟨90,B3⟩,bL ⟨0,[]⟩] (by simp[aO])
 have k7:=Lr g6
 rw[ho5] at k7
 rw[aaa,aae] at hl5
 have c1:∀ xs:d4,(h5++xs)[h3.length]?=some (bL ⟨82,B1⟩):=fun xs=>by
  have a1:h4[h3.length]?=some (bL ⟨82,B1⟩):=by
   rw[kp4 h3.length (by simp) (fun hq=>by have:=g3.vars_lt hq;omega),aac (aai _),aag];rfl
  rw[aab (by omega),kp5 h3.length (by simp;omega) (fun hq=>?_),aab (by omega)]
  ·exact a1
  ·rw[hS4] at hq
   rcases vv4 _ hq with h6 |h6
   ·have:=g3.vars_lt h6;omega
   ·rw[aaa,aae] at h6;omega
 have c2:∀ xs:d4,(h5++xs)[h4.length]?=some (bL ⟨75,B2⟩):=fun xs=>by
  rw[aab (by omega),kp5 h4.length (by simp) (fun hq=>by have:=g4.vars_lt hq;omega),aac (aai _),aag];rfl
 have c3:∀ xs:d4,(h5++bL ⟨90,B3⟩::xs)[h5.length]?=some (bL ⟨90,B3⟩):=fun xs=>by
  rw[aac (aai _),aag];rfl
 rw[show(v0 h.length).i=h.length+7 from rfl] at k1
 rw[hi1] at k2
 rw[hi2] at k3
 rw[hi3] at k4
 rw[hi4] at k5
 rw[hi5] at k6 k7
 simp[c6]
 refine aa (by simp) ke ?_
 simp
 refine aa (by simp) kn0 ?_
 simp
 refine aa (by simp) (yQ _) ?_
 simp
 refine ak k1 (by simp) (by simp) ?_
 simp
 refine aa (by simp) k2 ?_
 simp
 refine aa (by simp) k3 ?_
 simp
 refine aa (by simp) k4 ?_
 simp
 refine aa (by simp) k5 ?_
 simp
 refine aa (by simp) k6 ?_
 have t1:bL ⟨82,B1⟩=[.v (.int .u8 82),.sl 1 (ai B1) none .no]:=rfl
 have t2:bL ⟨75,B2⟩=[.v (.int .u8 75),.sl 1 (ai B2) none .no]:=rfl
 have t3:bL ⟨90,B3⟩=[.v (.int .u8 90),.sl 1 (ai B3) none .no]:=rfl
 simp[c1,c2,c3,t1,t2,t3]
 rw[<- t3]
 refine aa (by simp) k7 ?_
 simp
 have hk:∀ q<h.length,(h5++[bL ⟨90,B3⟩,bL ⟨0,[]⟩])[q]?=h[q]?:=fun q hq=>by
  rw[aab (by omega),hs5 q hq,aab (by omega),hs4 q hq,aab (by omega),hs3 q hq,hs2 q hq,hs1 q hq]
  unfold db
  rw[aab hq]
 refine⟨by omega,pw (by rw[aaa];omega) hk,hh,by omega,by omega,fun q hq=>?_⟩
 rcases hq with hq |rfl |hq |rfl |hq |hq |hq
 ·exact lw5 q hq
 ·omega
 ·exact lw4 q hq
 ·omega
 ·exact lw3 q hq
 ·exact lw2 q hq
 ·exact lw1 q hq
section
variable {h:d4} {z:Nat}
end
end Ax
end Go.Proofs.YtlbgjlmokpkkeaaGreatDoor
