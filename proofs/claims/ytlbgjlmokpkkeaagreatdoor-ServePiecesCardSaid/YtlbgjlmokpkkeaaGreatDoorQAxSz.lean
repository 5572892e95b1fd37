import Derived.Test.YtlbgjlmokpkkeaaGreatDoorQAxSy
open List renaming drop_eq_getElem_cons -> aaa
set_option linter.all false
set_option maxRecDepth 10000
namespace Go.Proofs.YtlbgjlmokpkkeaaGreatDoor
namespace Ax
open Go.RowKit Go By
def NY:XFun:=⟨9,.seq (.ops [oK 4 (.bool false)]) (.seq (.ops [oM 5 0,oM 6 1,oC 7 251 [5,6],oI 8 .geq 7 (.int .i64 0),oA 4 8]) .ret),[.move (.tmp 4)]⟩
theorem Yl:aj Tryz.prog 231=some NY:=by kernel_rfl
def N5:XFun:=⟨19,.seq (.ops [oK 4 (.int .i64 0)]) (.seq (.seq (.ops [oM 6 0,oH 7 6,oX 8 (.move (.const (.int .i64 0)))]) (.block 0 (.loop (.seq (.ops [oB 9 .lss 8 7]) (.seq (.cond (.tmp 9) .skip (.exit 0)) (.seq (.block 1 (.seq (.ops [oM 10 8,oA 5 10]) (.seq (.ops [oM 11 1,oM 12 0,oM 13 5,oW 14 1 12 13,oL 15 14,oB 16 .eql 11 15]) (.cond (.tmp 16) (.seq (.ops [oM 17 5,oA 4 17]) .ret) .skip)))) (.ops [oI 18 .add 8 (.int .i64 1),oM 8 18]))))))) (.seq (.ops [oK 4 (.int .i64 (-1))]) .ret)),[.move (.tmp 4)]⟩
theorem Yv:aj Tryz.prog 251=some N5:=by kernel_rfl
end Ax
namespace Ax
open Go.RowKit Go By
theorem yK{L:List Int}{x:Int}{j:Nat}(hj:j<L.length)(h:x∉L.take j)(e:¬L[j]=x):x∉L.take (j+1):=by
 rw[List.take_succ_eq_append_getElem hj]
 intro hm
 rcases List.mem_append.1 hm with h1 |h1
 ·exact h h1
 ·exact e (List.mem_singleton.1 h1).symm
theorem GD{h:d4}{L:List Int}(hl:L.length <= 1000000)(x:Int):∃ n:Int,ae Tryz.prog 251 [.sl 1 (am aX L) none .no,.v (.int .i64 x)] h (.v (.int .i64 n)) h [] /\ (decide (0 <= n)=L.contains x):=by
 refine⟨if x∈L then(L.idxOf x:Int) else -1,?_,?_⟩
 ·refine ac Yv mixed (by simp[N5]) fun hh hargs=>?_
  simp[N5]
  refine ap (D:=Nat) (fun j=>⟨[(0,.sl 1 (am aX L) none .no),(1,.v (.int .i64 x)),(7,.v (.int .i64 (L.length:Int))),(8,.v (.int .i64 (j:Int)))],[],h,[]⟩) (fun j=>j <= L.length /\ x∉L.take j) (fun j=>L.length-j) 0 ⟨by omega,by simp⟩ ?_ ?_
  ·simp[Leq,hh,ag]
   done
  ·rintro j ⟨hj,hno⟩
   by_cases hlt:j<L.length
   ·have hw:IntKind.i64.wrap ((j:Int)+1)=(j:Int)+1:=wrap64 (by omega) (by omega)
    by_cases e:L[j]=x
    ·have hm:x∈L:=e▸List.getElem_mem hlt
     have hi:L.idxOf x=j:=by
      have hx:=List.take_append_drop j L
      rw[<- hx,List.idxOf_append,if_neg hno,aaa hlt,e,List.idxOf_cons_self,List.length_take]
      omega
     have e2:x=L[j]:=e.symm
     simp[hlt,aX,e,hh,hm,hi]
     done
    ·have e2:¬x=L[j]:=fun k=>e k.symm
     have e3:(x==L[j])=false:=by simpa using e2
     simp[hlt,aX,e2,e3,hw]
     refine⟨j+1,⟨by omega,yK hlt hno e⟩,by omega,?_⟩
     simp[Leq,hh,ag]
     done
   ·have:j=L.length:=by omega
    subst this
    rw[List.take_length] at hno
    simp[hh,hno]
    done
 ·by_cases hm:x∈L
  ·rw[if_pos hm];simp[hm]
  ·rw[if_neg hm];simp[hm]
theorem GC{h:d4}{L:List Int}(hl:L.length <= 1000000)(x:Int):ae Tryz.prog 231 [.sl 1 (am aX L) none .no,.v (.int .i64 x)] h (.v (.bool (L.contains x))) h []:=by
 refine ac Yl mixed (by simp[NY]) fun hh hargs=>?_
 obtain⟨n,k1,k2⟩:=GD (h:=h) hl x
 simp[NY]
 refine aa (by simp) k1 ?_
 have k3:decide (0 <= n)=decide (x∈L):=by rw[k2];simp
 simp[hh,k3]
 done
end Ax
namespace Ax
open Go.RowKit Go By Dg
theorem yT(s:d5)(hs:s.length <= 9223372036854775807)(h:d4):ae Tryz.prog 179 [.v (.string (af s))] h (.agg (fC (if cI s 99=true then⟨5,dy s 99,[]⟩ else⟨0,0,[]⟩))) h []:=by
 refine ac XQ mixed (by simp[ND]) fun hh hargs=>?_
 simp[ND]
 refine aa (by simp) (F3 s 99 hs _) ?_
 cases p:cI s 99 with
 | false=>simp[hh,gO,ag]
 | true=>simp[hh,gO,ag]
theorem Ev(s:d5)(hs:s.length <= 9223372036854775807)(h:d4):ae Tryz.prog 180 [.v (.string (af s))] h (.agg (fC (if nH s=true then⟨8,0,s⟩ else⟨0,0,[]⟩))) h []:=by
 refine ac XR mixed (by simp[JM]) fun hh hargs=>?_
 by_cases hl:s.length=5
 ·have e1:(s.length:Int)=5:=by omega
  simp[JM,e1]
  refine aa (by simp) (xP s hs _) ?_
  have e2:nH s=s.all Jb:=by unfold nH;rw[decide_eq_true hl,Bool.true_and]
  rw[e2]
  cases p:s.all Jb with
  | false=>simp[hh,gO,ag]
  | true=>simp[hh,gO,ag]
 ·have e1:¬(s.length:Int)=5:=by omega
  have e2:nH s=false:=by unfold nH;rw[decide_eq_false hl,Bool.false_and]
  have e3:((s.length:Int) != 5)=true:=by simpa using e1
  simp[JM,e1,e2,e3,hh,gO,ag]
theorem KM(k:Int)(h:d4):ae Tryz.prog 230 [.v (.int .i64 k)] h (.v (.string (af (vG k)))) h []:=by
 refine ac Yk mixed (by simp[tL]) fun hh hargs=>?_
 unfold vG
 by_cases e2:k=2
 ·subst e2;simp[tL,hh,pi]
 by_cases e3:k=3
 ·subst e3;simp[tL,hh,lD]
 by_cases e4:k=4
 ·subst e4;simp[tL,hh,vj]
 by_cases e5:k=5
 ·subst e5;simp[tL,hh,kC]
 by_cases e6:k=6
 ·subst e6;simp[tL,hh,uv]
 by_cases e7:k=7
 ·subst e7;simp[tL,hh,uR]
 by_cases e8:k=8
 ·subst e8;simp[tL,hh,eL]
 simp[tL,hh,e2,e3,e4,e5,e6,e7,e8]
def kD(s:d5):List Int -> Vb
 | []=>⟨0,0,[]⟩
 | k::r=>if s=vG k then⟨k,0,[]⟩ else kD s r
theorem Hg(s:d5)(ks:List Int)(hk:ks.length <= 1000)(h:d4):ae Tryz.prog 181 [.v (.string (af s)),.sl 1 (am aX ks) none .no] h (.agg (fC (kD s ks))) h []:=by
 refine ac XS mixed (by simp[NE]) fun hh hargs=>?_
 simp[NE]
 refine ap (D:=Nat) (fun j=>⟨[(0,.v (.string (af s))),(4,.box h.length 0),(7,.sl 1 (am aX ks) none .no),(8,.v (.int .i64 (ks.length:Int))),(9,.v (.int .i64 (j:Int)))],[],h++[[.v (.int .i64 0),.v (.int .i64 0),.v (.string (af []))]],[]⟩) (fun j=>j <= ks.length /\ kD s (ks.drop j)=kD s ks) (fun j=>ks.length-j) 0 ⟨by omega,by simp⟩ ?_ ?_
 ·simp[Leq,hh,ag]
 ·rintro j ⟨hj,hl⟩
  have hw:IntKind.i64.wrap ((j:Int)+1)=(j:Int)+1:=wrap64 (by omega) (by omega)
  by_cases hlt:j<ks.length
  ·rw[aaa hlt,kD] at hl
   simp[hlt,aX]
   refine aa (by simp) (KM _ _) ?_
   by_cases e:s=vG ks[j]
   ·rw[if_pos e] at hl
    simp[<- e,<- hl,hh,gO,ag]
   ·rw[if_neg e] at hl
    have e0:(s==vG ks[j])=false:=by simpa using e
    simp[e,e0,hw]
    refine⟨j+1,⟨by omega,hl⟩,by omega,?_⟩
    simp[Leq,hh,ag]
  ·have:j=ks.length:=by omega
   subst this
   rw[List.drop_length] at hl
   simp[<- hl,kD,hh,gO,ag]
theorem L3(v:Vb)(ks:List Int)(hk:ks.length <= 1000)(h:d4):ae Tryz.prog 182 [.agg (fC v),.sl 1 (am aX ks) none .no] h (.v (.bool (ks.contains v.kind))) h []:=by
 refine ac SM mixed (by simp[FQ]) fun hh hargs=>?_
 simp[FQ]
 refine aa (by simp) (GC (by omega) _) ?_
 simp[hh]
theorem lh(s:d5)(hs:s.length <= 9223372036854775807)(h:d4):ae Tryz.prog 129 [.v (.string (af s))] h (.agg (fC (fz (gL s)))) h []:=by
 refine ac Xh mixed (by simp[Ng]) fun hh hargs=>?_
 simp[Ng]
 refine aa (by simp) (PK s hs _) ?_
 have hu:=Ix s
 generalize gL s=u at hu ⊢
 simp
 refine aa (by simp) (pW u kC _) ?_
 cases hp:fM u kC with
 | true =>
  have e1:=Cx hp
  have e2:xR u kC=u.drop 7:=by unfold xR;rw[hp];rfl
  rw[e2]
  have e3:fz u=if cI (u.drop 7) 99=true then⟨5,dy (u.drop 7) 99,[]⟩ else⟨0,0,[]⟩:=by
   rw[show fz u=fz (kC++u.drop 7) from congrArg fz e1]
   exact K1 _
  rw[e3]
  simp
  refine aa (by simp) (yT (u.drop 7) (by simp;omega) _) ?_
  simp[hh,ag]
 | false =>
  simp
  refine aa (by simp) (pW u eL _) ?_
  cases hq:fM u eL with
  | true =>
   have e1:=Cx hq
   have e2:xR u eL=u.drop 5:=by unfold xR;rw[hq];rfl
   rw[e2]
   have e3:fz u=if nH (u.drop 5)=true then⟨8,0,u.drop 5⟩ else⟨0,0,[]⟩:=by
    rw[show fz u=fz (eL++u.drop 5) from congrArg fz e1]
    exact H0 _
   rw[e3]
   simp
   refine aa (by simp) (Ev (u.drop 5) (by simp;omega) _) ?_
   simp[hh,ag]
  | false =>
   simp
   refine ak (Hg u [1,2,3,4,6,7] (by simp) _) (by simp[aX]) (by simp) ?_
   have e:kD u [1,2,3,4,6,7]=fz u:=by
    rw[HZ hp hq]
    simp[kD,vG]
   rw[e]
   simp[hh,ag]
end Ax
end Go.Proofs.YtlbgjlmokpkkeaaGreatDoor
