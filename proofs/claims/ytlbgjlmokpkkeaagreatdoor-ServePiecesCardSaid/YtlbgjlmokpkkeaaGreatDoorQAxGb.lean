import Derived.Test.YtlbgjlmokpkkeaaGreatDoorQAxSv
import Derived.Test.YtlbgjlmokpkkeaaGreatDoorQAxAt
import Derived.Test.YtlbgjlmokpkkeaaGreatDoorQAxSt
import Derived.Test.YtlbgjlmokpkkeaaGreatDoorQAxCy
open List renaming getElem?_append_left -> aaa, getElem?_eq_some_iff -> aab, range_succ -> aad, map_append -> aae, range -> aaf
open Int renaming toNat_natCast -> aac
set_option linter.all false
set_option maxRecDepth 10000
namespace Go.Proofs.YtlbgjlmokpkkeaaGreatDoor
namespace Ax
open Go.RowKit Go By
def N0:XFun:=⟨5,.seq (.ops [oN 2]) (.seq (.ops [oM 3 0,oX 4 (.call 252 [.tmp 3,.func 253]),oA 2 4]) .ret),[.move (.tmp 2)]⟩
theorem Yp:aj Tryz.prog 235=some N0:=by kernel_rfl
def NG:XFun:=⟨6,.seq (.ops [oZ 2 bZ]) (.seq (.ops [oM 3 0,oC 4 235 [3],oX 5 (.build bZ [(0,1,.const (.int .u8 84)),(8,1,.tmp 4)]),oS 11 2 5]) .ret),[.loadN 11 (.tmp 2)]⟩
theorem XU:aj Tryz.prog 185=some NG:=by kernel_rfl
def NL:XFun:=⟨5,.seq (.ops [oN 2]) (.seq (.ops [oM 3 0,oX 4 (.call 236 [.tmp 3,.func 237]),oA 2 4]) .ret),[.move (.tmp 2)]⟩
theorem XZ:aj Tryz.prog 190=some NL:=by kernel_rfl
def NI:XFun:=⟨6,.seq (.ops [oZ 2 bZ]) (.seq (.ops [oM 3 0,oC 4 191 [3],oX 5 (.build bZ [(0,1,.const (.int .u8 68)),(9,1,.tmp 4)]),oS 11 2 5]) .ret),[.loadN 11 (.tmp 2)]⟩
theorem XW:aj Tryz.prog 187=some NI:=by kernel_rfl
def NJ:XFun:=⟨6,.seq (.ops [oK 2 (.string (af []))]) (.seq (.ops [oM 3 0,oC 4 192 [3],oX 5 (.bin .add (.const (.string (af [83,69,76,69,67,84,32]))) (.tmp 4)),oA 2 5]) .ret),[.move (.tmp 2)]⟩
theorem XX:aj Tryz.prog 188=some NJ:=by kernel_rfl
def N6:XFun:=⟨22,.seq (.ops [oN 4]) (.seq (.ops [oN 5]) (.seq (.seq (.ops [oM 7 0,oX 8 (.maxI [.tmp 7,.const (.int .i64 0)]),oX 9 (.minI [.tmp 8,.const (.int .i64 1000)]),oX 10 (.move (.const (.int .i64 0)))]) (.block 0 (.loop (.seq (.ops [oB 11 .lss 10 9]) (.seq (.cond (.tmp 11) .skip (.exit 0)) (.seq (.block 1 (.seq (.ops [oM 12 10,oA 6 12]) (.ops [oM 13 5,oM 14 1,oM 15 6,oI 16 .add 15 (.int .i64 1),oX 17 (.callv (.tmp 14) [.tmp 16]),oR 18 7 1 17 I9,oX 19 (.append 7 64 (.tmp 13) (.tmp 18)),oA 5 19]))) (.ops [oI 20 .add 10 (.int .i64 1),oM 10 20]))))))) (.seq (.ops [oM 21 5,oA 4 21]) .ret))),[.move (.tmp 4)]⟩
theorem Yw:aj Tryz.prog 252=some N6:=by kernel_rfl
def N1:XFun:=⟨22,.seq (.ops [oN 4]) (.seq (.ops [oN 5]) (.seq (.seq (.ops [oM 7 0,oX 8 (.maxI [.tmp 7,.const (.int .i64 0)]),oX 9 (.minI [.tmp 8,.const (.int .i64 1000)]),oX 10 (.move (.const (.int .i64 0)))]) (.block 0 (.loop (.seq (.ops [oB 11 .lss 10 9]) (.seq (.cond (.tmp 11) .skip (.exit 0)) (.seq (.block 1 (.seq (.ops [oM 12 10,oA 6 12]) (.ops [oM 13 5,oM 14 1,oM 15 6,oI 16 .add 15 (.int .i64 1),oX 17 (.callv (.tmp 14) [.tmp 16]),oR 18 1 1 17 vL,oX 19 (.append 1 24 (.tmp 13) (.tmp 18)),oA 5 19]))) (.ops [oI 20 .add 10 (.int .i64 1),oM 10 20]))))))) (.seq (.ops [oM 21 5,oA 4 21]) .ret))),[.move (.tmp 4)]⟩
theorem Yq:aj Tryz.prog 236=some N1:=by kernel_rfl
def N7:XFun:=⟨7,.seq (.ops [oZ 2 I9]) (.seq (.ops [oM 3 0,oC 4 192 [3],oX 5 (.bin .add (.const (.string (af [99]))) (.tmp 4)),oX 6 (.build I9 [(0,1,.tmp 5),(3,1,.const (.int .i64 25)),(4,1,.const (.int .i64 (-1))),(5,1,.const (.int .i64 (-1)))]),oS 7 2 6]) .ret),[.loadN 7 (.tmp 2)]⟩
theorem Yx:aj Tryz.prog 253=some N7:=by kernel_rfl
def N2:XFun:=⟨8,.seq (.ops [oN 2]) (.seq (.ops [oM 3 0,oC 4 192 [3],oX 5 (.s2b (.tmp 4)),oD 6 1 pg 5,oR 7 2 1 6 pg,oA 2 7]) .ret),[.move (.tmp 2)]⟩
theorem Yr:aj Tryz.prog 237=some N2:=by kernel_rfl
end Ax
namespace Ax
open Go.RowKit Go By YtlbgjlmokpkkeaaGreatDoor.Nm Sc Dg
def dt(n:Int):Int:=if n<0 then 0 else if 1000<n then 1000 else n
theorem yv(n:Int):tY (tX n [0]) [1000]=dt n:=by
 unfold tY tX dt
 simp only[List.foldl_cons,List.foldl_nil]
 repeat' split
 all_goals omega
theorem ic (n : Int) : 0 <= dt n /\ dt n <= 1000 := by unfold dt; repeat' split
                                                       all_goals omega
def zY(i:Int):Co:=⟨99::Dg.textL i,0,0,25,-1,-1,0⟩
def dD(k:Nat):List Co:=(aaf k).map fun(j:Nat)=>zY ((j:Int)+1)
theorem zZ(j:Nat):dD (j+1)=dD j++[zY ((j:Int)+1)]:=by unfold dD;rw[aad,aae];rfl
theorem uo(j:Nat):(dD j).length=j:=by unfold dD;simp
theorem OE(n:Int)(h1 : -9223372036854775808 <= n)(h2:n <= 9223372036854775807)(h:d4):ae Tryz.prog 253 [.v (.int .i64 n)] h (.agg (jq (zY n))) h []:=by
 have hl:=ce n h1 h2
 refine ac Yx mixed (by simp[N7]) fun hh hargs=>?_
 simp[N7]
 refine aa (by simp) (lE n h1 h2 _) ?_
 simp[hh,zY,zX]
 omega
theorem OH(n:Int)(h:d4):ae Tryz.prog 252 [.v (.int .i64 n),.fn (.func 253) [] []] h (.sl 7 (am jq (dD (dt n).toNat)) none .no) h []:=by
 obtain⟨hk0,hk1⟩:=ic n
 have e:=yv n
 obtain⟨k,hk⟩:∃ k:Nat,dt n=k:=⟨(dt n).toNat,by omega⟩
 refine ac Yw mixed (by simp[N6]) fun hh hargs=>?_
 rw[hk,aac]
 rw[hk] at e
 simp[N6,e]
 refine ap (D:=Nat) (fun j=>⟨[(1,.fn (.func 253) [] []),(9,.v (.int .i64 k)),(10,.v (.int .i64 j))],[(5,.sl 7 (am jq (dD j)) none (.own (.slot 5)))],h,[]⟩) (fun j=>j <= k) (fun j=>k-j) 0 (by simp) ?_ ?_
 ·simp[Leq,hh,dD]
 ·intro j hj
  by_cases hlt:j<k
  ·have hw:IntKind.i64.wrap ((j:Int)+1)=(j:Int)+1:=wrap64 (by omega) (by omega)
   have hlen:=uo j
   simp[hlt,hw]
   refine aa (by simp) (OE _ (by omega) (by omega) _) ?_
   simp[hw,hlen]
   refine⟨by omega,by omega,j+1,by omega,by omega,?_⟩
   simp[Leq,hh,zZ]
  ·have:j=k:=by omega
   subst this
   simp[hh]
theorem Kk(n:Int)(h:d4):ae Tryz.prog 235 [.v (.int .i64 n)] h (.sl 7 (am jq (dD (dt n).toNat)) none .no) h []:=by
 refine ac Yp mixed (by simp[N0]) fun hh hargs=>?_
 simp[N0]
 refine aa (by simp) (OH n _) ?_
 simp[hh]
def EC(i:Int):List Cl:=[(false,Dg.textL i)]
def jh(k:Nat):List (List Cl):=(aaf k).map fun(j:Nat)=>EC ((j:Int)+1)
theorem Be(j:Nat):jh (j+1)=jh j++[EC ((j:Int)+1)]:=by unfold jh;rw[aad,aae];rfl
theorem vk(j:Nat):(jh j).length=j:=by unfold jh;simp
theorem OJ(n:Int)(h1 : -9223372036854775808 <= n)(h2:n <= 9223372036854775807)(h:d4):ae Tryz.prog 237 [.v (.int .i64 n)] h (.sl 2 (am aq (EC n)) none .no) h []:=by
 have hl:=ce n h1 h2
 refine ac Yr mixed (by simp[N2]) fun hh hargs=>?_
 simp[N2]
 refine aa (by simp) (lE n h1 h2 _) ?_
 simp[hh,EC,aq]
 omega
theorem OK(n:Int)(h1 : -9223372036854775808 <= n)(h2:n <= 9223372036854775807)(h:d4):ae Tryz.prog 188 [.v (.int .i64 n)] h (.v (.string (af ([83,69,76,69,67,84,32]++Dg.textL n)))) h []:=by
 have hl:=ce n h1 h2
 refine ac XX mixed (by simp[NJ]) fun hh hargs=>?_
 simp[NJ]
 refine aa (by simp) (lE n h1 h2 _) ?_
 simp[hh]
 omega
theorem Kl(n:Int)(h:d4):ae Tryz.prog 185 [.v (.int .i64 n)] h (.agg (bh ⟨84,0,[],[],[],0,0,[],dD (dt n).toNat,[],[]⟩)) h []:=by
 refine ac XU mixed (by simp[NG]) fun hh hargs=>?_
 simp[NG]
 refine aa (by simp) (Kk n _) ?_
 simp[hh,aV]
theorem Kn(n:Int)(h:d4):ae Tryz.prog 236 [.v (.int .i64 n),.fn (.func 237) [] []] h (.sl 1 (am bN (jh (dt n).toNat)) none .no) h []:=by
 obtain⟨hk0,hk1⟩:=ic n
 have e:=yv n
 obtain⟨k,hk⟩:∃ k:Nat,dt n=k:=⟨(dt n).toNat,by omega⟩
 refine ac Yq mixed (by simp[N1]) fun hh hargs=>?_
 rw[hk,aac]
 rw[hk] at e
 simp[N1,e]
 refine ap (D:=Nat) (fun j=>⟨[(1,.fn (.func 237) [] []),(9,.v (.int .i64 k)),(10,.v (.int .i64 j))],[(5,.sl 1 (am bN (jh j)) none (.own (.slot 5)))],h,[]⟩) (fun j=>j <= k) (fun j=>k-j) 0 (by simp) ?_ ?_
 ·simp[Leq,hh,jh]
 ·intro j hj
  by_cases hlt:j<k
  ·have hw:IntKind.i64.wrap ((j:Int)+1)=(j:Int)+1:=wrap64 (by omega) (by omega)
   have hlen:=vk j
   simp[hlt,hw]
   refine aa (by simp) (OJ _ (by omega) (by omega) _) ?_
   simp[hw,hlen]
   refine⟨by omega,by omega,j+1,by omega,by omega,?_⟩
   simp[Leq,hh,Be,oc]
  ·have:j=k:=by omega
   subst this
   simp[hh]
theorem Kp(n:Int)(h:d4):ae Tryz.prog 190 [.v (.int .i64 n)] h (.sl 1 (am bN (jh (dt n).toNat)) none .no) h []:=by
 refine ac XZ mixed (by simp[NL]) fun hh hargs=>?_
 simp[NL]
 refine aa (by simp) (Kn n _) ?_
 simp[hh]
end Ax
namespace Ax
open Go.RowKit Go By Dg
def Q7(_:Unit):List AV:=[]
theorem Ky(v:Unit):(Q7 v).length=0:=rfl
theorem En(v:Unit):∀ c∈Q7 v,c.idOf=none:=fun c hc=>by cases hc
structure Eg where
 a:Nat
 n:Nat
 clock:Nat
 e:List (KE Unit)
def Eg.cells(T:Eg):List AV:=bc T.clock (T.e.map (KE.ent Q7))
def Eg.no(T:Eg)(k:d5):Bool:=(KE.get k T.e).isSome
theorem Eg.of_cells(T:Eg):mapOf 0 T.cells=some (T.clock,T.e.map (KE.ent Q7)):=KE.ents_of Ky _ _
theorem Eg.keys(T:Eg):gw none (T.e.map (KE.ent Q7)):=KE.ents_keys En _
theorem Eg.found(T:Eg)(k:d5):Ax.found false true [] (AEnt.find (.string (af k)) (T.e.map (KE.ent Q7)) 0)=.tup [.agg [],.v (.bool (T.no k))]:=by
 rw[KE.found_eq]
 unfold Eg.no
 cases KE.get k T.e<;>rfl
def fU(a:Nat)(n:Nat):List AV:=[.mp a 0 false,.v (.int .i64 (n:Int))]
structure EgAt (h:d4) (i:Nat) (T:Eg):Prop where
 top:h[i]?=some (fU T.a T.n)
 ents:h[T.a]?=some T.cells
 apart:i≠T.a
section
variable {h:d4} {i:Nat} {T:Eg}
theorem EgAt.i_lt(ht:EgAt h i T):i<h.length:=(aab.1 ht.top).1
theorem EgAt.a_lt(ht:EgAt h i T):T.a<h.length:=(aab.1 ht.ents).1
theorem EgAt.move(ht:EgAt h i T){h':d4}(h1:h'[i]?=h[i]?)(h2:h'[T.a]?=h[T.a]?):EgAt h' i T:=⟨h1.trans ht.top,h2.trans ht.ents,ht.apart⟩
theorem EgAt.app(ht:EgAt h i T)(xs:d4):EgAt (h++xs) i T:=ht.move (aaa ht.i_lt) (aaa ht.a_lt)
theorem AO(ht:EgAt h i T):ae Tryz.prog 189 [.box i 0] h (.v (.bool true)) h []:=by
 have h1:=ht.top
 refine ac XY mixed (by simp[NK]) fun hh hargs=>?_
 simp[NK,h1,fU,hh]
theorem At(ht:EgAt h i T)(k:d5):ae Tryz.prog 218 [.box i 0,.v (.string (af k))] h (.v (.bool (T.no k))) h []:=by
 have h1:=ht.top
 have h2:=ht.ents
 have h3:=T.of_cells
 have h4:=T.keys
 have h5:=T.found k
 have hi:=ht.i_lt
 have ha:=ht.a_lt
 have g1:∀ xs,(h++xs)[i]?=some (fU T.a T.n):=fun xs=>by rw[aaa hi];exact h1
 have g2:∀ xs,(h++xs)[T.a]?=some T.cells:=fun xs=>by rw[aaa ha];exact h2
 refine ac Yf mixed (by simp[NT]) fun hh hargs=>?_
 simp[NT,h1,h2,h3,h4,h5,hh,fU,g1,g2]
theorem J2(ht:EgAt h i T)(hn:T.n <= 1000000):ae Tryz.prog 193 [.box i 0] h (.v (.int .i64 ((T.n+1:Nat):Int))) (h.set i (fU T.a (T.n+1))) [i]:=by
 have h1:=ht.top
 have hi:=ht.i_lt
 have ha:=ht.a_lt
 have hw:IntKind.i64.wrap ((T.n:Int)+1)=((T.n+1:Nat):Int):=wrap64 (by omega) (by omega)
 have key:=Dk (n:=(T.n:Int)) (d:=1) (off:=1) h1 rfl
 rw[hw] at key
 have e:(fU T.a T.n).set 1 (.v (.int .i64 ((T.n+1:Nat):Int)))=fU T.a (T.n+1):=rfl
 rw[e] at key
 refine ac X0 mixed (by simp[NM]) fun hh hargs=>?_
 simp[NM]
 refine aa (by simp) (AO ht) ?_
 simp
 refine aa (by simp) key ?_
 simp[fU,ao,hh,ha]
end
end Ax
end Go.Proofs.YtlbgjlmokpkkeaaGreatDoor
