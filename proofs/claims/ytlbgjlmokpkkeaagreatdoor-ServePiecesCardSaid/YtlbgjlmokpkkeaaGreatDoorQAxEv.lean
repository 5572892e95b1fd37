import Derived.Test.YtlbgjlmokpkkeaaGreatDoorQAxEs
open List renaming length_append -> aaa, mem_singleton -> aab, length_cons -> aac, getElem?_append_right -> aad, length_nil -> aae, getElem?_append_left -> aaf, getElem?_eq_some_iff -> aag, mem_map -> aah, flatMap_cons -> aai, mem_append -> aal, getElem?_set_ne -> aam, getD_eq_getElem?_getD -> aan, take_length -> aao, flatMap_nil -> aap, append_nil -> aaq, take_of_length_le -> aas, drop_left -> aat, mem_cons_of_mem -> aau, mem_cons_self -> aav, flatten_cons -> aaw, mem_flatten -> aax, nil_append -> aay, mem_range -> aaz, mem_cons -> aaA
open Nat renaming le_succ -> aaj, le_refl -> aak, le_trans -> aaB, sub_self -> aaC, zero_le -> aaD
open UInt8 renaming ofNat -> aar
set_option linter.all false
set_option maxRecDepth 10000
namespace Go.Proofs.YtlbgjlmokpkkeaaGreatDoor
namespace Ax
open Go.RowKit Go By
def VS:XFun:=⟨39,.seq (.ops [oN 4]) (.seq (.ops [oX 10 (.build bZ [(0,1,.const (.int .u8 82))]),oR 11 11 1 10 bZ,oA 5 11]) (.seq (.seq (.ops [oM 12 0,oH 13 12,oX 14 (.move (.const (.int .i64 0)))]) (.block 0 (.loop (.seq (.ops [oB 15 .lss 14 13]) (.seq (.cond (.tmp 15) .skip (.exit 0)) (.seq (.block 1 (.seq (.ops [oW 16 2 12 14,oP 17 2 16,oZ 7 jX,oS 2 7 17]) (.ops [oM 18 5,oF 19 0 7,oL 20 19,oF 21 1 7,oL 22 21,oX 23 (.build bZ [(0,1,.const (.int .u8 83)),(3,1,.tmp 20),(4,1,.tmp 22)]),oR 24 11 1 23 bZ,oX 25 (.append 11 168 (.tmp 18) (.tmp 24)),oA 5 25]))) (.ops [oI 26 .add 14 (.int .i64 1),oM 14 26]))))))) (.seq (.ops [oM 28 1,oC 29 79 [28],oM 27 29,oE 30 27 0,oE 31 27 1,oA 8 30,oA 9 31]) (.seq (.ops [oM 32 5,oM 33 8,oM 34 9,oX 35 (.build bZ [(0,1,.const (.int .u8 75)),(5,1,.tmp 33),(6,1,.tmp 34)]),oX 36 (.build bZ [(0,1,.const (.int .u8 90)),(1,1,.const (.int .u8 73))]),oX 37 (.buildSlice 11 2 bZ [(0,.tmp 35),(1,.tmp 36)]),oX 38 (.append 11 168 (.tmp 32) (.tmp 37)),oA 4 38]) .ret)))),[.move (.tmp 4)]⟩
theorem ZK:aj Tryz.prog 48=some VS:=by kernel_rfl
def V5:XFun:=⟨14,.seq (.ops [oK 2 (.int .i64 0),oK 3 (.int .i64 0)]) (.seq (.ops [oM 5 0,oX 6 (.maxI [.tmp 5,.const (.int .i64 0)]),oX 7 (.minI [.tmp 6,.const (.int .i64 1048576)]),oI 8 .add 7 (.int .i64 1),oA 4 8]) (.seq (.ops [oM 9 4,oI 10 .rem 9 (.int .i64 2147483648),oM 11 4,oI 12 .mul 11 (.int .i64 7919),oI 13 .rem 12 (.int .i64 2147483648),oA 2 10,oA 3 13]) .ret)),[.move (.tmp 2),.move (.tmp 3)]⟩
theorem Z7:aj Tryz.prog 79=some V5:=by kernel_rfl
end Ax
namespace Ax
open Go.RowKit Go By YtlbgjlmokpkkeaaGreatDoor.Nm Dg
def kW(n:Int):Int:=if n<0 then 0 else if 1048576<n then 1048576 else n
theorem Gx(n:Int):tY (tX n [0]) [1048576]=kW n:=by
 unfold tY tX kW
 simp only[List.foldl_cons,List.foldl_nil]
 repeat' split
 all_goals omega
theorem yu(n:Int):0 <= kW n /\ kW n <= 1048576:=by
 unfold kW
 repeat' split
 all_goals omega
def kA(id:Int):Int:=(kW id+1).tmod 2147483648
def kB(id:Int):Int:=((kW id+1)*7919).tmod 2147483648
theorem Kd(id:Int)(h:d4):ae Tryz.prog 79 [.v (.int .i64 id)] h (.tup [.v (.int .i64 (kA id)),.v (.int .i64 (kB id))]) h []:=by
 have e:=Gx id
 obtain⟨h1,h2⟩:=yu id
 have w1:IntKind.i64.wrap (kW id+1)=kW id+1:=wrap64 (by omega) (by omega)
 have w2:IntKind.i64.wrap ((kW id+1)*7919)=(kW id+1)*7919:=wrap64 (by omega) (by omega)
 refine ac Z7 mixed (by simp[V5]) fun hh hargs=>?_
 simp[V5,e,w1,w2,hh,kA,kB]
def rG:Bk:=⟨82,0,[],[],[],0,0,[],[],[],[]⟩
def sG(p:Pa):Bk:=⟨83,0,[],p.name,p.value,0,0,[],[],[],[]⟩
def kG(id:Int):Bk:=⟨75,0,[],[],[],kA id,kB id,[],[],[],[]⟩
def zG:Bk:=⟨90,73,[],[],[],0,0,[],[],[],[]⟩
def bk(l:List Pa)(id:Int):List Bk:=(rG::l.map sG)++[kG id,zG]
def od(l:List Pa)(j:Nat):List Bk:=(l.take j).map sG
theorem Bm(l:List Pa):od l 0=[]:=rfl
theorem Bl{l:List Pa}{j:Nat}(hlt:j<l.length):od l (j+1)=od l j++[sG l[j]]:=by unfold od;rw[cN hlt,List.map_append];rfl
theorem EH{l:List Pa}{j:Nat}(hj:j <= l.length):(od l j).length=j:=by unfold od;simp;omega
theorem EG(l:List Pa):od l l.length=l.map sG:=by unfold od;rw[aao]
theorem Gt(l:List Pa)(id:Int)(hl:l.length <= 1000000)(h:d4):ae Tryz.prog 48 [.sl 2 (am Je l) none .no,.v (.int .i64 id)] h (.sl 11 (am bh (bk l id)) none .no) h []:=by
 refine ac ZK mixed (by simp[VS]) fun hh hargs=>?_
 simp[VS]
 refine ap (D:=Nat) (fun j=>⟨[(1,.v (.int .i64 id)),(12,.sl 2 (am Je l) none .no),(13,.v (.int .i64 l.length)),(14,.v (.int .i64 j))],[(5,.sl 11 (am bh (rG::od l j)) none (.own (.slot 5)))],h,[]⟩) (fun j=>j <= l.length) (fun j=>l.length-j) 0 (by simp) ?_ ?_
 ·simp[Leq,hh,aV,rG,Bm]
 ·intro j hj
  by_cases hlt:j<l.length
  ·have hw:IntKind.i64.wrap ((j:Int)+1)=(j:Int)+1:=wrap64 (by omega) (by omega)
   have hp:=EH hj
   simp[hlt,lf,hw,hp]
   refine⟨by omega,by omega,j+1,by omega,by omega,?_⟩
   rw[Bl hlt]
   simp[Leq,hh,aV,sG]
  ·have:j=l.length:=by omega
   subst this
   have hp:=EG l
   rw[hp]
   simp
   refine aa (by simp) (Kd id _) ?_
   simp[hh]
   refine⟨by omega,by omega,?_⟩
   simp[bk,aV,kG,zG]
end Ax
namespace Ax
open Go.RowKit Go By YtlbgjlmokpkkeaaGreatDoor.Nm Sc Dg
theorem Wk:Sz 4:=.inr (.inr rfl)
theorem yn(xs:d5)(i:Nat):∀ k,dG xs i k=dG (xs.drop i) 0 k
 | 0=>rfl
 | k+1=>by
  rw[dG,dG,yn xs i k]
  congr 1
  unfold bt
  rw[aan,aan,List.getElem?_drop,Nat.zero_add]
theorem wG(n:Int)(h:0 <= n /\ n<4294967296):(aD 4 n).length=4:=by
 unfold aD
 have hr:aB n 4=true:=by rw[wQ];omega
 have e:aY [] n 4=aH n 4 4:=sK (size:=4) hr
 rw[e,aE]
theorem DZ(n:Int)(h:0 <= n /\ n<4294967296)(r:d5):dG (aD 4 n++r) 0 4=n:=by
 have h1:bf (some (aD 4 n++r)) 4=n:=(jL Wk n r ⟨h.1,by rw[A1];exact h.2⟩).1
 have hl:=wG n h
 have h2:cn (aD 4 n++r).length 0 4=0:=iY (i:=0) (size:=4) rfl (by rw[aaa];omega)
 exact(if_pos h2).symm.trans h1
def EY(typed:Bool):Nat:=if typed=true then 1 else 0
def LY(typed:Bool)(t:UInt8)(N b:d5):d5:=(if typed=true then[t] else[])++(N++b)
theorem Kt(typed:Bool)(t:UInt8)(N b:d5):(LY typed t N b).length=EY typed+(N.length+b.length):=by
 unfold LY EY
 cases typed<;>simp<;>omega
theorem CD(typed:Bool)(t:UInt8)(N b y:d5):(LY typed t N b++y).drop (EY typed)=N++(b++y):=by
 unfold LY EY
 cases typed<;>simp
theorem GQ(typed:Bool)(t:UInt8)(N b:d5):(LY typed t N b).drop (EY typed+N.length)=b:=by
 have h:=CD typed t N b []
 rw[aaq,aaq] at h
 rw[<- List.drop_drop,h,aat]
theorem GR(t:UInt8)(N b:d5):(LY true t N b).getD 0 0=t:=rfl
def tI(typed:Bool)(m:Ms):d5:=LY typed (aar m.type.toNat) (aD 4 ((m.body.length:Int)+4)) m.body
theorem qP(typed:Bool)(m:Ms)(hm:m.body.length <= 1000000):(tI typed m).length=EY typed+4+m.body.length:=by
 have:=wG ((m.body.length:Int)+4) (by omega)
 unfold tI
 rw[Kt,this]
 omega
theorem CA(typed:Bool)(m:Ms)(hm:m.body.length <= 1000000)(y:d5):dG (tI typed m++y) (EY typed) 4=(m.body.length:Int)+4:=by
 have h:=DZ ((m.body.length:Int)+4) (by omega) (m.body++y)
 unfold tI
 rw[yn,CD]
 exact h
theorem Fw.ts_eq(F:Fw):F.ts=EY F.typed:=rfl
theorem Fw.size_part{F:Fw}{m:Ms}{y z:d5}(he:F.rest++z=tI F.typed m++y)(hm:m.body.length+4 <= F.most)(hM:F.most <= 65536)(hlt:F.rest.length<(tI F.typed m).length):(F.size.1=0 \/ F.rest.length<F.size.1) /\ F.size.2=0:=by
 have ht:=F.ts_eq
 have hle:EY F.typed <= 1:=by unfold EY;split<;>omega
 unfold Fw.size
 by_cases h4:F.rest.length<F.ts+4
 ·have e:cn F.rest.length (F.ts:Int) 4=3:=nO rfl (by omega) (by omega)
  rw[if_pos (by rw[e];decide)]
  exact⟨.inl rfl,rfl⟩
 ·have e:cn F.rest.length (F.ts:Int) 4=0:=iY (i:=F.ts) (size:=4) rfl (by omega)
  have v:cO F.rest (F.ts:Int) 4=(m.body.length:Int)+4:=by
   unfold cO
   rw[if_pos e]
   show dG F.rest F.ts 4=_
   rw[<- rZ F.rest z F.ts 4 (by omega),he,ht]
   exact CA _ _ (by omega) _
  rw[if_neg (by rw[e];decide),v,if_neg (by omega),if_neg (by omega)]
  rw[qP _ _ (by omega)] at hlt
  refine⟨.inr ?_,rfl⟩
  show F.rest.length<F.ts+((m.body.length:Int)+4).toNat
  omega
theorem Fw.size_full{F:Fw}{m:Ms}{y:d5}(he:F.rest=tI F.typed m++y)(hm:m.body.length+4 <= F.most)(hM:F.most <= 65536)(hty:if F.typed=true then 0 <= m.type /\ m.type<256 else m.type=0):F.size=((tI F.typed m).length,0) /\ ¬F.size.1=0 /\ F.size.1 <= F.rest.length /\ F.head (F.rest.take F.size.1)=m /\ F.rest.drop F.size.1=y:=by
 have ht:=F.ts_eq
 have hle:EY F.typed <= 1:=by unfold EY;split<;>omega
 have hl:=qP F.typed m (by omega)
 have hs:F.size=((tI F.typed m).length,0):=by
  have e:cn F.rest.length (F.ts:Int) 4=0:=iY (i:=F.ts) (size:=4) rfl (by rw[he,aaa];omega)
  have v:cO F.rest (F.ts:Int) 4=(m.body.length:Int)+4:=by
   unfold cO
   rw[if_pos e]
   show dG F.rest F.ts 4=_
   rw[he,ht]
   exact CA _ _ (by omega) _
  unfold Fw.size
  rw[if_neg (by rw[e];decide),v,if_neg (by omega),if_neg (by omega)]
  exact Prod.ext (by show F.ts+((m.body.length:Int)+4).toNat=_;omega) rfl
 refine⟨hs,by rw[hs];show ¬(tI F.typed m).length=0;omega,by rw[hs,he,aaa];exact Nat.le_add_right _ _,?_,by rw[hs,he];show(tI F.typed m++y).drop (tI F.typed m).length=y;rw[aat]⟩
 rw[hs,he]
 show F.head ((tI F.typed m++y).take (tI F.typed m).length)=m
 rw[List.take_left]
 have hn:=wG ((m.body.length:Int)+4) (by omega)
 obtain⟨t,b⟩:=m
 dsimp only at hn hty
 have hd:(tI F.typed ⟨t,b⟩).drop (F.ts+4)=b:=by
  have h:=GQ F.typed (aar t.toNat) (aD 4 ((b.length:Int)+4)) b
  rw[hn] at h
  rw[ht]
  exact h
 have hg:(if F.typed=true then((((tI F.typed ⟨t,b⟩).getD 0 0).toNat:Nat):Int) else 0)=t:=by
  cases hty2:F.typed with
  | true =>
   rw[hty2,if_pos rfl] at hty
   rw[if_pos rfl]
   have:(tI true ⟨t,b⟩).getD 0 0=aar t.toNat:=GR _ _ _
   rw[this,UInt8.toNat_ofNat']
   omega
  | false =>
   rw[hty2] at hty
   rw[if_neg (by simp)] at hty ⊢
   exact hty.symm
 unfold Fw.head
 rw[hg,hd]
def BkSm(m:Bk):Prop:=(0 <= m.status /\ m.status<256) /\ m.tag.length <= 1000 /\ m.oids.length <= 1000 /\ (m.cols.length <= 1000 /\ ∀ c∈m.cols,c.name.length <= 1000) /\ (m.row.length <= 1000 /\ ∀ c∈m.row,c.2.length <= 1000) /\ (m.fields.length <= 10 /\ ∀ f∈m.fields,(0 <= f.code /\ f.code<256) /\ f.text.length <= 10000) /\ m.name.length <= 1000 /\ m.value.length <= 1000
theorem wu{α:Type}(e:α -> d5)(K:Nat):∀(l:List α),(∀ x∈l,(e x).length <= K) -> (l.flatMap e).length <= K*l.length
 | [],_=>by simp
 | x::l,h=>by
  have h1:=h x (aav ..)
  have h2:=wu e K l fun y hy=>h y (aau _ hy)
  rw[aai,aaa,aac,Nat.mul_succ]
  omega
theorem sj{α:Type}(e:α -> d5)(K:Nat)(l:List α)(h:∀ x∈l,(e x).length <= K):(aG e l).length <= 4+K*l.length:=by
 have h1:=wu e K l h
 have h2:=bp 2 (l.length:Int) (by omega)
 rw[yG,aaa]
 unfold aD at h2
 omega
theorem BkSm.parts{m:Bk}(h:BkSm m):lY m /\ MK m /\ (rn m).length <= 100000000:=by
 obtain⟨h1,h2,h3,⟨h4,h5⟩,⟨h6,h7⟩,⟨h8,h9⟩,h10,h11⟩:=h
 refine⟨⟨by omega,by omega,by omega,by omega,fun c hc=>by have:=h7 c hc;omega⟩,⟨h1,fun c hc=>by have:=h7 c hc;omega,fun c hc=>by have:=h5 c hc;omega,fun f hf=>(h9 f hf).1⟩,?_⟩
 have tl:∀ s:d5,(He.encT s).length=s.length+1:=fun s=>by simp[He.encT]
 have n0:=bp 4 0 (by omega)
 have n1:=bp 4 m.n (by omega)
 have n2:=bp 4 m.m (by omega)
 have b1:=sj cd 1010 m.row fun c hc=>by
  have:=h7 c hc
  obtain⟨n,b⟩:=c
  cases n with
  | true=>have:=put_len 4294967295 4 (by omega) [];rw[gj];simp only[aae] at this;omega
  | false =>
   have h3:b.length <= 1000:=this
   have:=put_len (b.length:Int) 4 (by omega) []
   rw[fl,aaa];simp only[aae] at this;omega
 have b2:=sj DC 1100 m.cols fun c hc=>by
  have:=h5 c hc
  have l1:=bp 4 c.table (by omega)
  have l2:=bp 2 c.attr (by omega)
  have l3:=bp 4 c.oid (by omega)
  have l4:=bp 2 c.size (by omega)
  have l5:=bp 4 c.mod (by omega)
  have l6:=bp 2 c.format (by omega)
  unfold DC
  simp only[aM,aai,aap,aaa,tl,aae]
  omega
 have b3:=sj (aD 4) 4 m.oids fun n _=>bp 4 n (by omega)
 have b4:=wu kT 10002 m.fields fun f hf=>by
  have:=(h9 f hf).2
  unfold kT
  simp only[aM,aai,aap,aaa,tl,aae,aac]
  omega
 unfold rn lF
 repeat' split
 all_goals try simp only[aM,aai,aap,aaa,tl,aae,aac]
 all_goals omega
structure PtSm (p:Pt):Prop where
 rows:p.rows.length <= 99
 each:∀ r∈p.rows,r.length <= 1000 /\ ∀ c∈r,c.2.length <= 1000
 oids:p.oids.length <= 1000
 ps:p.ps.length <= 1000 /\ ∀ c∈p.ps,c.2.length <= 1000
structure VaSm (k:Nat) (A:Va):Prop where
 n:A.n <= k
 status:0 <= A.status /\ A.status<256
 st:∀ x∈A.st,x.2.oids.length <= 1000
 ps:∀ x∈A.ps,PtSm x.2
def mB(f:Fm):Prop:=f.name.length <= 1000 /\ f.portal.length <= 1000 /\ f.oids.length <= 1000 /\ f.params.length <= 1000 /\ ∀ c∈f.params,c.2.length <= 1000
def qy(o:Er):Prop:=∀ c t,o=some (c,t) -> c.length <= 1000 /\ t.length <= 9000
def Told(n:Nat)(M:List Bk):Prop:=M.length <= n /\ ∀ m∈M,BkSm m
theorem dg(n:Nat):Told n []:=⟨aaD _,fun m hm=>by cases hm⟩
theorem ci{n:Nat}(hn:1 <= n){m:Bk}(h:BkSm m):Told n [m]:=⟨hn,fun x hx=>by rw[aab.1 hx];exact h⟩
theorem Told.mono{n k:Nat}{M:List Bk}(h:Told n M)(hk:n <= k):Told k M:=⟨aaB h.1 hk,h.2⟩
theorem Told.app{n k:Nat}{M N:List Bk}(h:Told n M)(h2:Told k N):Told (n+k) (M++N):=⟨by rw[aaa];exact Nat.add_le_add h.1 h2.1,fun m hm=>by
 rcases aal.1 hm with hm |hm
 ·exact h.2 m hm
 ·exact h2.2 m hm⟩
theorem rm(k:Int)(t:d5)(h:t.length <= 1000):BkSm ⟨k,0,t,[],[],0,0,[],[],[],[]⟩:=by simp[BkSm,h]
theorem lA(k:Int):BkSm (pB k):=rm k [] (by simp)
theorem vU(k s:Int)(h:0 <= s /\ s<256):BkSm ⟨k,s,[],[],[],0,0,[],[],[],[]⟩:=by simp[BkSm,h]
theorem Cn{c t:d5}(hc:c.length <= 1000)(ht:t.length <= 9000):BkSm (xp c t):=by
 simp[BkSm,xp]
 omega
theorem FK{l:List Cl}(h:l.length <= 1000 /\ ∀ c∈l,c.2.length <= 1000):BkSm (jg l):=by
 refine⟨by simp[jg],by simp[jg],by simp[jg],by simp[jg],h,by simp[jg],by simp[jg],by simp[jg]⟩
theorem Dr{l:List Int}(h:l.length <= 1000):BkSm ⟨116,0,[],[],[],0,0,l,[],[],[]⟩:=by simp[BkSm,h]
theorem Dq{k:Nat}(h:k <= 1000):BkSm ⟨84,0,[],[],[],0,0,[],dD k,[],[]⟩:=by
 have h1:(dD k).length=k:=by unfold dD;simp
 refine⟨by simp,by simp,by simp,⟨by show(dD k).length <= 1000;omega,fun c hc=>?_⟩,by simp,by simp,by simp,by simp⟩
 unfold dD at hc
 obtain⟨j,hj,rfl⟩:=aah.1 hc
 have hj:=aaz.1 hj
 have:=ce ((j:Int)+1) (by omega) (by omega)
 unfold zY
 simp
 omega
theorem Gy(n:Int):(dt n).toNat <= 1000:=by
 unfold dt
 repeat' split
 all_goals omega
theorem rl(s:Sx):BkSm (lV s):=by
 unfold lV
 split
 ·exact Dq (Gy _)
 ·exact lA _
theorem FJ(n:Nat)(hn:n <= 1000000)(more:Bool):BkSm (Am n more):=by
 unfold Am
 split
 ·exact lA _
 ·have:=ce (n:Int) (by omega) (by omega)
  exact rm _ _ (by simp;omega)
theorem CW(s:d5):((ct s).n <= 99 /\ 0 <= (ct s).n) /\ (ct s).code.length <= 5:=by
 have hp:∀ t:d5,dy t 99 <= 99 /\ 0 <= dy t 99:=fun t=>by
  unfold dy
  split
  ·rename_i h
   unfold cI at h
   simp at h
   omega
  ·omega
 unfold ct fz
 repeat' split
 all_goals first |exact⟨⟨by decide,by decide⟩,by decide⟩ |exact⟨hp _,by simp⟩ |(rename_i h;refine⟨⟨by show(0:Int) <= 99;omega,Int.le_refl _⟩,?_⟩;have:=h.2;unfold nH at this;simp at this;simp;omega)
theorem yY(s:d5)(n:Nat)(hn:n <= 1000000)(ps:List Cl)(hps:ps.length <= 1000 /\ ∀ c∈ps,c.2.length <= 1000):(iw (ct s) n ps).length <= 99 /\ ∀ r∈iw (ct s) n ps,r.length <= 1000 /\ ∀ c∈r,c.2.length <= 1000:=by
 obtain⟨⟨h1,h2⟩,_⟩:=CW s
 have one:∀ j:Int,0 <= j -> j <= 2000000 -> (Dg.textL j).length <= 1000:=fun j h1 h2=>by have:=ce j (by omega) (by omega);omega
 unfold iw
 split
 ·have hk:(dt (ct s).n).toNat <= 99:=by
   unfold dt
   repeat' split
   all_goals omega
  refine⟨by unfold jh;rw[List.length_map,List.length_range];exact hk,fun r hr=>?_⟩
  unfold jh at hr
  obtain⟨j,hj,rfl⟩:=aah.1 hr
  have hj:=aaz.1 hj
  have:=one ((j:Int)+1) (by omega) (by omega)
  unfold EC
  simp
  exact this
 ·repeat' split
  ·exact⟨by simp,fun r hr=>by rw[aab.1 hr];exact hps⟩
  ·refine⟨by simp,fun r hr=>?_⟩
   rw[aab.1 hr]
   have:=one ((n:Int)+1) (by omega) (by omega)
   simp
   exact this
  ·exact⟨by simp,fun r hr=>by cases hr⟩
theorem ox{rows:List (List Cl)}(more:Bool)(h:rows.length <= 99)(hr:∀ r∈rows,r.length <= 1000 /\ ∀ c∈r,c.2.length <= 1000):Told 100 (cr rows more):=by
 unfold cr
 refine⟨by simp;omega,fun m hm=>?_⟩
 rcases aal.1 hm with hm |hm
 ·obtain⟨r,hr2,rfl⟩:=aah.1 hm
  exact FK (hr r hr2)
 ·rw[aab.1 hm];exact FJ _ (by omega) _
theorem tt{α:Type}{k:d5}{l:List (d5 × α)}{v:α}(h:ns k l=some v):∃ x∈l,x.2=v:=by
 unfold ns at h
 cases hf:l.find? (fun x=>decide (x.1=k)) with
 | none=>rw[hf] at h;cases h
 | some x =>
  rw[hf] at h
  injection h with h
  exact⟨x,List.mem_of_find?_eq_some hf,h⟩
theorem oO{α:Type}{P:α -> Prop}{k:d5}{v:α}{l:List (d5 × α)}(h:∀ x∈l,P x.2)(hv:P v):∀ x∈uh k v l,P x.2:=fun x hx=>by
 unfold uh at hx
 split at hx
 ·obtain⟨y,hy,rfl⟩:=aah.1 hx
  split
  ·exact hv
  ·exact h y hy
 ·rcases aal.1 hx with hx |hx
  ·exact h x hx
  ·rw[aab.1 hx];exact hv
theorem lx{α:Type}{P:α -> Prop}{k:d5}{l:List (d5 × α)}(h:∀ x∈l,P x.2):∀ x∈qI k l,P x.2:=fun x hx=>h x ((List.eraseP_sublist ..).subset hx)
section
variable {k:Nat} {A:Va}
theorem VaSm.mono(h:VaSm k A){j:Nat}(hj:k <= j):VaSm j A:=⟨aaB h.n hj,h.status,h.st,h.ps⟩
theorem VaSm.of(h:VaSm k A){B:Va}(h1:B.n=A.n)(h2:0 <= B.status /\ B.status<256)(h3:∀ x∈B.st,x.2.oids.length <= 1000)(h4:∀ x∈B.ps,PtSm x.2):VaSm k B:=⟨by rw[h1];exact h.n,h2,h3,h4⟩
theorem qU{f:Fm}(hf:mB f):(uP f.name).length <= 9000 /\ (mM f.name).length <= 9000 /\ (vd f.portal).length <= 9000 /\ (kO f.portal).length <= 9000:=by
 obtain⟨h1,h2,_⟩:=hf
 have e1:∀ s:d5,(kx s).length <= s.length+100:=fun s=>by simp[kx,qm,fF]
 refine⟨?_,?_,?_,?_⟩
 ·unfold uP
  split
  ·decide
  ·have:=e1 f.name;simp[Eo];omega
 ·have:=e1 f.name;simp[mM,iR];omega
 ·simp[vd,wM,fF,Eo];omega
 ·simp[kO,wi,fF,iR];omega
theorem FB{f:Fm}(hf:mB f)(n:Nat)(hn:n <= 1000):(fZ f.params.length f.name n).length <= 9000:=by
 obtain⟨h1,_,_,h4,_⟩:=hf
 have d1:=ce (f.params.length:Int) (by omega) (by omega)
 have d2:=ce (n:Int) (by omega) (by omega)
 simp[fZ,FG,wK,EA,Jz,kx,qm,fF,lL]
 omega
theorem Db(A:Va)(s:d5):qy (tr A s):=fun c t h=>by
 unfold tr UT verdict at h
 repeat' split at h
 all_goals first |(injection h with h;injection h with h1 h2;subst h1 h2;exact⟨by decide,by decide⟩) |(cases h;done) |(rename_i h2;cases h2)
theorem xC(st:Int)(s:Sx):qy (vQ st s):=fun c t h=>by
 unfold vQ at h
 split at h
 ·injection h with h;injection h with h1 h2;subst h1 h2;exact⟨by decide,by decide⟩
 ·cases h
theorem C4(h:VaSm k A){f:Fm}(hf:mB f):qy (ln A f.name).2 /\ (ln A f.name).1.oids.length <= 1000:=by
 unfold ln
 split
 ·refine⟨fun c t he=>?_,by simp⟩
  injection he with he;injection he with h1 h2;subst h1 h2
  exact⟨by decide,(qU hf).1⟩
 ·rename_i s hs
  obtain⟨x,hx,rfl⟩:=tt hs
  exact⟨xC _ _,h.st x hx⟩
theorem CK(h:VaSm k A){f:Fm}(hf:mB f):qy (qe A f.portal).2 /\ PtSm (qe A f.portal).1:=by
 unfold qe
 split
 ·refine⟨fun c t he=>?_,⟨by simp[Jj],by simp[Jj],by simp[Jj],by simp[Jj]⟩⟩
  injection he with he;injection he with h1 h2;subst h1 h2
  exact⟨by decide,(qU hf).2.2.1⟩
 ·rename_i p hp
  obtain⟨x,hx,rfl⟩:=tt hp
  exact⟨xC _ _,h.ps x hx⟩
theorem yO(h:VaSm k A){f:Fm}(hf:mB f):qy (pA A f).1 /\ VaSm k (pA A f).2:=by
 have hv:=Db A f.text
 have h1:VaSm k (fP A f):=by
  unfold fP
  split
  ·exact h.of rfl h.status (lx (P:=fun s:Sx=>s.oids.length <= 1000) h.st) h.ps
  ·exact h
 unfold pA
 split
 ·rename_i e he
  rw[he] at hv
  exact⟨hv,h1⟩
 ·split
  ·refine⟨fun c t he=>?_,h1⟩
   injection he with he;injection he with h2 h3;subst h2 h3
   exact⟨by decide,(qU hf).2.1⟩
  ·exact⟨(fun c t he=>by cases he),h1.of rfl h1.status (oO (P:=fun s:Sx=>s.oids.length <= 1000) h1.st hf.2.2.1) h1.ps⟩
theorem Ck(h:VaSm k A){f:Fm}(hf:mB f):qy (kI A f).1 /\ VaSm k (kI A f).2:=by
 have hs:=C4 h hf
 unfold kI
 split
 ·rename_i s e he
  rw[he] at hs
  exact⟨hs.1,h⟩
 ·rename_i s he
  rw[he] at hs
  split
  ·refine⟨fun c t hq=>?_,h⟩
   injection hq with hq;injection hq with h2 h3;subst h2 h3
   exact⟨by decide,FB hf _ hs.2⟩
  ·split
   ·refine⟨fun c t hq=>?_,h⟩
    injection hq with hq;injection hq with h2 h3;subst h2 h3
    exact⟨by decide,(qU hf).2.2.2⟩
   ·refine⟨(fun c t hq=>by cases hq),h.of rfl h.status h.st (oO (P:=PtSm) h.ps ?_)⟩
    exact⟨by simp[eQ],by simp[eQ],hs.2,⟨hf.2.2.2.1,hf.2.2.2.2⟩⟩
theorem Cq(h:VaSm k A){f:Fm}(hf:mB f):qy (rJ A f).2 /\ Told 100 (rJ A f).1:=by
 have hs:=C4 h hf
 have hp:=CK h hf
 unfold rJ
 split
 ·split
  ·rename_i s e he
   rw[he] at hs
   exact⟨hs.1,dg _⟩
  ·rename_i s he
   rw[he] at hs
   exact⟨(fun c t hq=>by cases hq),(ci (n:=50) (by omega) (Dr hs.2)).app (ci (n:=50) (by omega) (rl _))⟩
 ·split
  ·split
   ·rename_i p e he
    rw[he] at hp
    exact⟨hp.1,dg _⟩
   ·exact⟨(fun c t hq=>by cases hq),ci (by omega) (rl _)⟩
  ·exact⟨(fun c t hq=>by cases hq),dg _⟩
theorem xM(h:VaSm k A)(f:Fm):VaSm k (rE A f) /\ Told 100 (iF f):=by
 unfold rE iF
 constructor
 ·split
  ·exact h.of rfl h.status (lx (P:=fun s:Sx=>s.oids.length <= 1000) h.st) h.ps
  ·split
   ·exact h.of rfl h.status h.st (lx (P:=PtSm) h.ps)
   ·exact h
 ·split
  ·exact ci (by omega) (lA _)
  ·exact dg _
theorem Mm(s k:Int):(0 <= qH s /\ qH s<256) /\ ((0 <= s /\ s<256) -> 0 <= zo s k /\ zo s k<256):=by
 unfold qH zo Fo
 constructor
 ·split<;>omega
 ·intro h
  repeat' split
  all_goals omega
theorem vN(h:VaSm k A)(v:Vb):VaSm k (zP A v) /\ BkSm (xx A.status v):=by
 constructor
 ·unfold zP
  split
  ·exact h
  ·refine h.of rfl ((Mm A.status v.kind).2 h.status) h.st ?_
   by_cases he:fH v.kind=true
   ·show ∀ x∈(if fH v.kind=true then[] else A.ps),PtSm x.2
    rw[if_pos he];intro x hx;cases hx
   ·show ∀ x∈(if fH v.kind=true then[] else A.ps),PtSm x.2
    rw[if_neg he];exact h.ps
 ·unfold xx
  split
  ·exact lA _
  ·refine rm _ _ ?_
   unfold Lj
   repeat' split
   all_goals decide
theorem Cj(s:d5):qy (eK (ct s)):=fun c t h=>by
 have:=(CW s).2
 unfold eK at h
 split at h
 ·injection h with h;injection h with h1 h2;subst h1 h2;exact⟨by omega,by decide⟩
 ·cases h
theorem Cu(h:VaSm k A):VaSm k (uA A):=by
 refine h.of rfl (Mm A.status 0).1 h.st ?_
 by_cases he:qH A.status=69
 ·show ∀ x∈(if qH A.status=69 then[] else A.ps),PtSm x.2
  rw[if_pos he];intro x hx;cases hx
 ·show ∀ x∈(if qH A.status=69 then[] else A.ps),PtSm x.2
  rw[if_neg he];exact h.ps
theorem sN(h:VaSm k A):VaSm k (pD A):=by
 refine h.of rfl h.status h.st ?_
 by_cases he:A.status=73
 ·show ∀ x∈(if A.status=73 then[] else A.ps),PtSm x.2
  rw[if_pos he];intro x hx;cases hx
 ·show ∀ x∈(if A.status=73 then[] else A.ps),PtSm x.2
  rw[if_neg he];exact h.ps
theorem Cs(h:VaSm k A)(q:d5)(most:Int)(s:d5):VaSm k (kj A q most (ct s)).2.2 /\ Told 100 (kj A q most (ct s)).1 /\ qy (kj A q most (ct s)).2.1:=by
 unfold kj
 split
 ·unfold iH
  split
  ·exact⟨h.of rfl h.status h.st h.ps,ox _ (by simp) (by simp),(fun c t hq=>by cases hq)⟩
  ·rename_i p hp
   obtain⟨x,hx,rfl⟩:=tt hp
   have hr:=h.ps x hx
   split
   ·exact⟨h.of rfl h.status h.st h.ps,ox _ (by simp) (by simp),(fun c t hq=>by cases hq)⟩
   ·have hr1:=hr.rows
    refine⟨h.of rfl h.status h.st (oO (P:=PtSm) h.ps ⟨?_,fun r hr2=>hr.each r (List.mem_of_mem_drop hr2),hr.oids,hr.ps⟩),ox _ ?_ fun r hr2=>hr.each r (List.mem_of_mem_take hr2),(fun c t hq=>by cases hq)⟩
    ·show(x.2.rows.drop _).length <= 99
     rw[List.length_drop];omega
    ·rw[List.length_take];omega
 ·exact⟨(vN h _).1,ci (by omega) (vN h _).2,Cj s⟩
theorem J9(h:VaSm k A)(hk:k <= 1000000){f:Fm}(hf:mB f)(most:Int):VaSm (k+1) (nL A f.portal most).2.2 /\ Told 100 (nL A f.portal most).1 /\ qy (nL A f.portal most).2.1:=by
 have hp:=CK h hf
 have hm:=h.mono (aaj k)
 unfold nL
 split
 ·rename_i p e he
  rw[he] at hp
  exact⟨hm,dg _,hp.1⟩
 ·rename_i p he
  rw[he] at hp
  split
  ·split
   ·exact Cs hm _ _ _
   ·refine⟨hm,dg _,fun c t hq=>?_⟩
    injection hq with hq;injection hq with h2 h3;subst h2 h3
    exact⟨by decide,by decide⟩
  ·refine Cs ?_ _ _ _
   have hr:=yY p.text A.n (by have:=h.n;omega) p.ps hp.2.ps
   refine⟨?_,hm.status,hm.st,oO (P:=PtSm) hm.ps ⟨hr.1,hr.2,hp.2.oids,hp.2.ps⟩⟩
   have:=h.n
   show du _ A.n <= k+1
   unfold du
   split<;>omega
theorem KB(h:VaSm k A)(hk:k <= 1000000)(s:d5):VaSm (k+1) (nX A s).2.2 /\ Told 101 (nX A s).1 /\ qy (nX A s).2.1:=by
 have hv:=Db A s
 have hm:=h.mono (aaj k)
 unfold nX
 split
 ·rename_i e he
  rw[he] at hv
  exact⟨hm,dg _,hv⟩
 ·split
  ·have hr:=yY s A.n (by have:=h.n;omega) [] ⟨by simp,fun c hc=>by cases hc⟩
   refine⟨⟨?_,hm.status,hm.st,hm.ps⟩,(ci (n:=1) (by omega) (rl _)).app (ox false hr.1 hr.2),(fun c t hq=>by cases hq)⟩
   have:=h.n
   show du _ A.n <= k+1
   unfold du
   split<;>omega
  ·refine⟨(vN hm _).1,?_,Cj s⟩
   split
   ·exact dg _
   ·exact ci (by omega) (vN hm _).2
theorem Hh(h:VaSm k A)(hk:k <= 1000000)(s:d5):VaSm (k+1) (li A s).2 /\ Told 102 (li A s).1:=by
 have h0:VaSm k { A with st:=qI [] A.st,ps:=qI [] A.ps }:=h.of rfl h.status (lx (P:=fun s:Sx=>s.oids.length <= 1000) h.st) (lx (P:=PtSm) h.ps)
 have h1:=KB h0 hk s
 unfold li
 split
 ·rename_i e A2 hq
  rw[hq] at h1
  have h2:=Cu h1.1
  obtain⟨q1,q2⟩:=h1.2.2 e.1 e.2 rfl
  exact⟨sN h2,(ci (n:=1) (by omega) (Cn q1 q2)).app (ci (n:=101) (by omega) (vU 90 _ h2.status))⟩
 ·rename_i M A2 hq
  rw[hq] at h1
  exact⟨sN h1.1,h1.2.1.app (ci (n:=1) (by omega) (vU 90 _ h1.1.status))⟩
theorem Ld(h:VaSm k A)(hk:k <= 1000000){f:Fm}(hf:mB f):VaSm (k+1) (kw A f).2.2 /\ Told 100 (kw A f).1 /\ qy (kw A f).2.1:=by
 have hm:=h.mono (aaj k)
 unfold kw
 split
 ·exact⟨(yO hm hf).2,ci (by omega) (lA _),(yO hm hf).1⟩
 ·split
  ·exact⟨(Ck hm hf).2,ci (by omega) (lA _),(Ck hm hf).1⟩
  ·split
   ·exact⟨hm,(Cq h hf).2,(Cq h hf).1⟩
   ·split
    ·exact J9 h hk hf _
    ·split
     ·exact⟨(xM hm f).1,(xM h f).2,(fun c t hq=>by cases hq)⟩
     ·exact⟨hm,dg _,(fun c t hq=>by cases hq)⟩
theorem Cr(h:VaSm k A)(hk:k <= 1000000){f:Fm}(hf:mB f):VaSm (k+1) (rK A f).2 /\ Told 102 (rK A f).1:=by
 have hm:=h.mono (aaj k)
 have h1:=Ld h hk hf
 unfold rK
 split
 ·exact⟨hm,dg _⟩
 ·split
  ·exact⟨sN (hm.of rfl hm.status hm.st hm.ps),ci (by omega) (vU 90 _ h.status)⟩
  ·split
   ·exact⟨hm.of rfl hm.status hm.st hm.ps,dg _⟩
   ·split
    ·exact Hh h hk _
    ·split
     ·rename_i M A2 hq
      rw[hq] at h1
      exact⟨h1.1.of rfl h1.1.status h1.1.st h1.1.ps,h1.2.1.mono (by omega)⟩
     ·rename_i M e A2 hq
      rw[hq] at h1
      obtain⟨q1,q2⟩:=h1.2.2 e.1 e.2 rfl
      exact⟨Cu (h1.1.of rfl h1.1.status h1.1.st h1.1.ps),ci (by omega) (Cn q1 q2)⟩
end
def cc(l:List Bk):List Ms:=l.filterMap fun b=>if(bP b).2=0 then some (bP b).1 else none
theorem og(l:List Bk):(cc l).length <= l.length:=List.length_filterMap_le _ _
theorem HV(a b:List Bk):cc (a++b)=cc a++cc b:=List.filterMap_append
def gK:Va -> List Fm -> List Ms
 | _,[]=>[]
 | A,f::r=>cc (rK A f).1++(if f.kind=88 then[] else gK (rK A f).2 r)
theorem td:∀(l:List Fm) {k:Nat} {A:Va},VaSm k A -> k+l.length <= 1000000 -> (∀ f∈l,mB f) -> (gK A l).length <= 102*l.length
 | [],k,A,_,_,_=>by simp[gK]
 | f::r,k,A,h,hk,hf=>by
  rw[aac] at hk
  obtain⟨h1,h2,_⟩:=Cr h (by omega) (hf f (aav ..))
  have h3:=og (rK A f).1
  have h4:=td r h1 (by omega) fun g hg=>hf g (aau _ hg)
  unfold gK
  rw[aaa,aac]
  split
  ·simp;omega
  ·omega
def wJ(l:List Ms):d5:=l.flatMap fun m=>aar m.type.toNat::m.body
def xq(f:Fm):d5:=tI true ⟨f.kind,aw f⟩
end Ax
namespace Ax
open Go.RowKit Go By YtlbgjlmokpkkeaaGreatDoor.Nm Dg
def Ku:Option (Nat×Nat) -> d4 -> d4
 | none,h=>h
 | some p,h=>h.set p.1 []
def Y9:Option (Nat×Nat) -> List Nat -> List Nat
 | none,w=>w
 | some p,w=>p.1::w
theorem lJ(o:Option (Nat×Nat))(h:d4):(Ku o h).length=h.length:=by cases o<;>simp[Ku]
theorem CE{o:Option (Nat×Nat)}{h:d4}{q:Nat}(hq:q∉fO o):(Ku o h)[q]?=h[q]?:=by
 cases o with
 | none=>rfl
 | some p=>exact aam fun e=>hq (aab.2 e.symm)
theorem AR(Q:List Ms):∀ c∈(am bL Q).flatten,c.idOf=none:=fun c hc=>by
 obtain⟨l,h1,h2⟩:=aax.1 hc
 obtain⟨m,_,rfl⟩:=aah.1 h1
 simp[aO] at h2
 rcases h2 with rfl |rfl<;>rfl
theorem AS(n:Nat)(Q:List Ms):cb n (am bL Q).flatten:=dx fun j c hj=>by
 obtain⟨l,h1,h2⟩:=aax.1 (List.mem_of_getElem? hj)
 obtain⟨m,_,rfl⟩:=aah.1 h1
 simp[aO] at h2
 rcases h2 with rfl |rfl<;>simp
theorem qc(Q:List Ms):(am bL Q).flatten.length=Q.length*2:=by
 induction Q with
 | nil=>rfl
 | cons a r ih=>rw[dF,aaw,aaa,ih];simp[aO];omega
theorem OR{e ow:List (Nat×AV)}{H:d4}{wr:List Nat}{d:Option Nat}{K:St -> List Nat -> Prop}{o:Option (Nat×Nat)}{Q:List Ms}(m:MqAt H o Q)(hq:Q.length <= 1000000)(x:Ms){nul:Option Bool}{room:Room}
  (hK:K (St.puts ⟨e,ow,Ku o H++[(am bL (Q++[x])).flatten],Y9 o wr⟩ d (.bsl H.length 0 2 (Q.length+1)) false) []):bO ⟨e,ow,H,wr⟩ 2 32 d (qT o Q.length) (.sl 2 [bL x] nul room) K:=by
 have e1:(am bL (Q++[x])).flatten=(am bL Q).flatten++[bL x].flatten:=by simp[am]
 cases o with
 | none =>
  have hQ:=m.emp rfl
  subst hQ
  refine .inr (.inl ⟨[bL x],by simp[rowsOf],by simp,?_,?_⟩)
  ·simp[aO]
  ·exact .inl ⟨.inl rfl,by simp,by simp,hK⟩
 | some p =>
  obtain⟨A,hA,hb,hne,hid⟩:=m.row p rfl
  have hfl:=qc Q
  refine pc hb hne (by rw[aaa,hfl,hA];exact aak _) (fun c hc=>?_) (by simp) (by simp[aO]) (by simp;omega) (by simp;omega) ?_
  ·rcases aal.1 hc with hc |hc
   ·exact hid c hc
   ·exact AR Q c hc
  ·rw[hA,aat,aas (by rw[hfl];exact aak _),<- e1]
   exact hK
inductive SayX (h:d4) (S:Srv) (L:List Bk) (x:AV):Prop
 | sl (hv:x=.sl 11 (am bh L) none .no)
 | bx (b:Nat) (hv:x=.bsl b 0 11 L.length) (hb:h[b]?=some (am bh L).flatten) (hn:b∉S.vars)
theorem xE(Q:List Bk):(am bh Q).flatten.length=Q.length*11:=by
 induction Q with
 | nil=>rfl
 | cons a r ih=>rw[dF,aaw,aaa,ih];simp;omega
section
variable {h:d4} {S:Srv}
def Srv.pushed(S:Srv)(n:Nat)(x:Ms):Srv:={ S with Q:=S.Q++[x],o:=some (n,0) }
def fy(H1:d4)(S:Srv)(x:Ms):d4:=(Ku S.o H1++[(am bL (S.Q++[x])).flatten]).set S.i (S.pushed H1.length x).top
theorem pC(H1:d4)(S:Srv)(x:Ms):(fy H1 S x).length=H1.length+1:=by unfold fy;simp[lJ]
theorem SvAt.pushed(g:SvAt h S)(x:Ms):SvAt (fy h S x) (S.pushed h.length x) /\ ViaV h S (S.i::fO S.o) (fy h S x) (S.pushed h.length x):=by
 have hil:=g.i_lt
 have hfl:=g.f_lt
 have hsl:=g.s_lt
 have at_:∀ q<h.length,q≠S.i -> q∉fO S.o -> (fy h S x)[q]?=h[q]?:=fun q hq h1 h2=>by
  unfold fy
  rw[aam (Ne.symm h1),aaf (by rw[lJ];exact hq),CE h2]
 have new_:(fy h S x)[h.length]?=some (am bL (S.Q++[x])).flatten:=by
  unfold fy
  rw[aam (by omega),aad (by rw[lJ];exact aak _),lJ,aaC];rfl
 have top_:(fy h S x)[S.i]?=some (S.pushed h.length x).top:=by
  unfold fy
  rw[List.getElem?_set_self (by simp[lJ];omega)]
 have hne:¬h.length=S.i:=by omega
 have hnv:∀ q∈S.vars,q≠h.length:=fun q hq=>by have:=g.vars_lt hq;omega
 have hlt:aK (fy h S x).length (fy h S x):=by
  rw[pC]
  unfold fy
  have h1:aK (h.length+1) (Ku S.o h++[(am bL (S.Q++[x])).flatten]):=by
   rw[cD]
   refine⟨aF (aaj _) ?_,⟨AS _ _,trivial⟩⟩
   cases S.o with
   | none=>exact g.hh
   | some p=>exact ao g.hh trivial
  refine ao h1 ?_
  simp[Srv.top,Srv.pushed,qT]
  omega
 refine⟨⟨top_,?_,⟨(fun e=>by cases e),fun p hp=>?_⟩,?_,g.ne,fun q hq=>?_,g.out,g.pln⟩,⟨by rw[pC];omega,fun q hq hn=>?_,fun q hq _=>?_,fun q hq=>?_⟩⟩
 ·exact(at_ S.f hfl (Ne.symm g.ne) fun hh=>(g.one _ hh).2.1 rfl).trans g.fr
 ·injection hp with hp
  subst hp
  refine⟨[],rfl,by rw[aay];exact new_,?_,fun c hc=>by cases hc⟩
  intro e
  have:=congrArg List.length e
  rw[aay,qc] at this
  simp[Srv.pushed] at this
 ·exact g.ses.turn g.pln (fun q hq=>at_ q (g.ses.vars_lt hq) (fun e=>g.out.1 (by rw[<- e];exact hq)) fun hh=>(g.one q hh).2.2 hq) hlt
 ·have hq:q∈fO (some (h.length,0)):=hq
  rw[aab.1 hq]
  exact⟨hne,by show h.length≠S.f;omega,fun hh=>by have:=g.ses.vars_lt hh;omega⟩
 ·exact at_ q hq (fun e=>hn (by rw[e];exact BF S)) fun hh=>hn (Srv.vars_mem.2 (.inr (.inr (.inl hh))))
 ·rcases aaA.1 hq with rfl |hq
  ·exact BF S
  ·exact Srv.vars_mem.2 (.inr (.inr (.inl hq)))
 ·rcases Srv.vars_mem.1 hq with h1 |h1 |h1 |h1
  ·exact .inl (Srv.vars_mem.2 (.inl h1))
  ·exact .inl (Srv.vars_mem.2 (.inr (.inl h1)))
  ·have h1:q∈fO (some (h.length,0)):=h1
   rw[aab.1 h1]
   exact .inr (aak _)
  ·exact .inl (Srv.vars_mem.2 (.inr (.inr (.inr h1))))
structure SY where
 H:d4
 S:Srv
def SY.step(y:SY)(m:Bk):SY :=
 if(bP m).2=0 then⟨fy (y.H++[bh m,bL (bP m).1]) y.S (bP m).1,y.S.pushed (y.H++[bh m,bL (bP m).1]).length (bP m).1⟩
 else⟨y.H++[bh m,bL (bP m).1],y.S⟩
def ze(h:d4)(S:Srv)(l:List Bk):SY:=l.foldl SY.step ⟨h,S⟩
theorem vp(h:d4)(S:Srv){L:List Bk}{j:Nat}(hj:j<L.length):ze h S (L.take (j+1))=(ze h S (L.take j)).step L[j]:=by
 unfold ze
 rw[cN hj,List.foldl_append]
 rfl
structure SY.Ok (h:d4) (S:Srv) (l:List Bk) (y:SY):Prop where
 at_:SvAt y.H y.S
 via:∃ W,ViaV h S W y.H y.S /\ ∀ q∈(S.i::fO S.o),q∈S.i::fO S.o
 eq:∃ o,y.S={ S with Q:=S.Q++cc l,o:=o }
 old:∀ q∈fO y.S.o,q∈fO S.o \/ h.length <= q
theorem SY.Ok.step{l:List Bk}{y:SY}(o:SY.Ok h S l y)(m:Bk):SY.Ok h S (l++[m]) (y.step m):=by
 obtain⟨at_,⟨W,via,hw⟩,⟨o1,eq⟩,old⟩:=o
 have hlt:aK (y.H.length+2) [bh m,bL (bP m).1]:=by simp[aO]
 have g1:=at_.app [bh m,bL (bP m).1] hlt
 have v1:=via.app [bh m,bL (bP m).1]
 have hs:cc (l++[m])=cc l++(if(bP m).2=0 then[(bP m).1] else[]):=by
  rw[HV]
  congr 1
  unfold cc
  by_cases h:(bP m).2=0<;>simp[h]
 unfold SY.step
 by_cases he:(bP m).2=0
 ·rw[if_pos he]
  rw[if_pos he] at hs
  obtain⟨g2,v2⟩:=g1.pushed (bP m).1
  refine⟨g2,⟨_,v1.step v2,hw⟩,⟨some ((y.H++[bh m,bL (bP m).1]).length,0),?_⟩,fun q hq=>?_⟩
  ·show y.S.pushed _ _=_
   rw[hs,eq]
   unfold Srv.pushed
   dsimp only
   rw[List.append_assoc]
  ·have hq:q∈fO (some ((y.H++[bh m,bL (bP m).1]).length,0)):=hq
   rw[aab.1 hq]
   right
   have:=via.len
   simp
   omega
 ·rw[if_neg he]
  rw[if_neg he,aaq] at hs
  exact⟨g1,⟨_,v1,hw⟩,⟨o1,by rw[hs];exact eq⟩,old⟩
theorem wT(g:SvAt h S)(L:List Bk):∀ j,j <= L.length -> SY.Ok h S (L.take j) (ze h S (L.take j))
 | 0,_=>⟨g,⟨[],ViaV.refl h S,fun q hq=>hq⟩,⟨S.o,by show S=_;unfold cc;simp⟩,fun q hq=>.inl hq⟩
 | j+1,hj=>by
  rw[vp h S hj,cN hj]
  exact(wT g L j (by omega)).step _
set_option maxHeartbeats 2000000 in
theorem IL(g:SvAt h S){x:AV}{L:List Bk}(hx:SayX h S L x)(hL:∀ m∈L,BkSm m)(hl:L.length <= 1000)(hq:S.Q.length <= 100000):
  ∃ o,DoesV 43 [.box S.i 0,x] h S (.tup []) { S with Q:=S.Q++cc L,o:=o }:=by
 have okL:=wT g L L.length (aak _)
 rw[aao] at okL
 obtain⟨at2,⟨W2,via2,_⟩,⟨o2,eq2⟩,_⟩:=okL
 rw[eq2] at at2 via2
 have hlen2:=via2.len
 refine⟨o2,(ze h S L).H,S.i::fO S.o,?_,at2,⟨via2.len,via2.kept,fun q hq _=>?_,via2.vars⟩⟩
 ·have hxid:x.idOf=none:=by cases hx with |sl hv=>rw[hv];rfl |bx b hv _ _=>rw[hv];rfl
  have hxun:x.unown=x:=by cases hx with |sl hv=>rw[hv];rfl |bx b hv _ _=>rw[hv];rfl
  have hxl:lv x=⟨True,.v (.int .i64 (L.length:Int)),false,[]⟩:=by cases hx with |sl hv=>rw[hv];simp |bx b hv _ _=>rw[hv];simp
  have hxlt:x.lt h.length:=by
   cases hx with
   | sl hv=>rw[hv];simp
   | bx b hv hb _=>rw[hv];exact(aag.1 hb).1
  refine cf (XCode.inside (XCode.cuts [true]) [1,1,1,1,1,0,1] c43.code) ZG rfl mixed (by simp[c43]) fun hh hargs=>?_
  simp[-lv,c43,hxid,hxl]
  refine ap (D:=Nat) (fun j=>⟨[(0,.box S.i 0),(8,x),(9,.v (.int .i64 (L.length:Int))),(10,.v (.int .i64 (j:Int)))],[],(ze h S (L.take j)).H,S.i::fO S.o⟩) (fun j=>j <= L.length) (fun j=>L.length-j) 0 (aaD _) ?_ ?_
  ·have e0:(ze h S (L.take 0)).H=h:=rfl
   rw[e0]
   simp[Leq,hh,g.i_lt,hxlt,hxid]
  ·intro j hj
   have hok:=wT g L j hj
   obtain⟨y,hy⟩:∃ y,y=ze h S (L.take j):=⟨_,rfl⟩
   rw[<- hy] at hok ⊢
   obtain⟨atY,⟨WY,viaY,_⟩,⟨oY,eqY⟩,oldY⟩:=hok
   have hlenY:=viaY.len
   have hhY:=atY.hh
   have hxY:x.lt y.H.length:=fN hlenY hxlt
   by_cases hlt:j<L.length
   ·have hw:IntKind.i64.wrap ((j:Int)+1)=(j:Int)+1:=wrap64 (by omega) (by omega)
    have hyn:=vp h S hlt
    rw[<- hy] at hyn
    obtain⟨m,hm⟩:∃ m,m=L[j]:=⟨_,rfl⟩
    rw[<- hm] at hyn
    obtain⟨b1,b2,b3⟩:=(hL m (by rw[hm];exact List.getElem_mem hlt)).parts
    simp[hlt]
    refine gT ⟨[(0,.box S.i 0),(5,.box y.H.length 0),(8,x),(9,.v (.int .i64 (L.length:Int))),(10,.v (.int .i64 (j:Int)))],[],y.H++[bh m],S.i::fO S.o⟩ ?_ ?_
    ·have h11:=aF (aaj y.H.length) hhY
     have hSi:S.i<y.H.length:=by have:=g.i_lt;omega
     have hlenY':¬y.H.length<h.length:=by omega
     cases hx with
     | sl hv =>
      subst hv
      simp[hlt,<- hm]
      simp[Leq,h11]
      exact⟨by omega,by omega,fun hh2=>absurd hh2 hlenY',fun a ha _=>.inr ha⟩
     | bx b hv hb hn =>
      subst hv
      have hbl:=(aag.1 hb).1
      have hbY:y.H[b]?=some (am bh L).flatten:=(viaY.kept b hbl hn).trans hb
      have hld:=yi (c:=bh) (k:=11) (by simp) L j hlt
      rw[<- hm] at hld
      have hfl:=xE L
      generalize (am bh L).flatten=Fl at *
      have hfit:j*11+11 <= Fl.length:=by omega
      simp[hlt,<- hm,hbY,hld,hfit]
      simp[Leq,h11]
      exact⟨by omega,⟨by omega,by omega⟩,fun hh2=>absurd hh2 hlenY',fun a ha _=>.inr ha⟩
    ·have hSY:y.S.i=S.i:=by rw[eqY]
     have top1:=atY.top
     rw[Srv.top_mk,hSY] at top1
     have hil:=(aag.1 top1).1
     have g1:∀ xs,(y.H++xs)[S.i]?=_:=fun xs=>(aaf hil).trans top1
     have h0:∀(c:List AV) xs,(y.H++c::xs)[y.H.length]?=some c:=fun c xs=>by rw[aad (aak _),aaC];rfl
     have h1:∀(c d:List AV) xs,(y.H++c::d::xs)[y.H.length+1]?=some d:=fun c d xs=>by rw[aad (by omega)];simp
     have hlt2:aK (y.H.length+2) [bh m,bL (bP m).1]:=by simp[aO]
     have g2:=atY.app [bh m,bL (bP m).1] hlt2
     have hQl:y.S.Q.length <= 1000000:=by
      rw[eqY]
      show(S.Q++cc (L.take j)).length <= _
      have:=og (L.take j)
      simp at this ⊢
      omega
     simp[h0]
     refine aa (by simp) (Dl m b1 b2 (by omega) _) ?_
     by_cases he:(bP m).2=0
     ·have hyn2:y.step m=⟨fy (y.H++[bh m,bL (bP m).1]) y.S (bP m).1,y.S.pushed (y.H++[bh m,bL (bP m).1]).length (bP m).1⟩:=if_pos he
      have happ:=fun(e ow:List (Nat×AV)) (wr:List Nat) (d:Option Nat) (K:St -> List Nat -> Prop) (nul:Option Bool) (room:Room)=>OR (e:=e) (ow:=ow) (wr:=wr) (d:=d) (K:=K) (nul:=nul) (room:=room) g2.mq hQl (bP m).1
      have hqid:=GS y.S.o y.S.Q.length
      have hqun:=uQ y.S.o y.S.Q.length
      have hqce:=Ek y.S.o y.S.Q.length
      have hpv:fy (y.H++[bh m,bL (bP m).1]) y.S (bP m).1=(Ku y.S.o (y.H++[bh m,bL (bP m).1])++[(am bL (y.S.Q++[(bP m).1])).flatten]).set S.i [.bsl (y.H.length+2) 0 2 (y.S.Q.length+1),.box y.S.f 0,.box y.S.s 0,.sl 0 [] (some true) .exact,.v (.int .i64 y.S.id),.v (.bool y.S.greeted),.v (.bool y.S.over)]:=by
       unfold fy
       rw[hSY]
       simp[Srv.top,Srv.pushed,qT]
      have hpl:=pC (y.H++[bh m,bL (bP m).1]) y.S (bP m).1
      have hph:=(g2.pushed (bP m).1).1.hh
      have hXi:(Ku y.S.o (y.H++[bh m,bL (bP m).1])++[(am bL (y.S.Q++[(bP m).1])).flatten])[S.i]?=some [qT y.S.o y.S.Q.length,.box y.S.f 0,.box y.S.s 0,.sl 0 [] (some true) .exact,.v (.int .i64 y.S.id),.v (.bool y.S.greeted),.v (.bool y.S.over)]:=by
       rw[aaf (by rw[lJ];simp;omega),CE (fun hh2=>(atY.one _ hh2).1 hSY.symm)]
       exact g1 _
      obtain⟨X,hX⟩:∃ X,X=Ku y.S.o (y.H++[bh m,bL (bP m).1])++[(am bL (y.S.Q++[(bP m).1])).flatten]:=⟨_,rfl⟩
      obtain⟨n,hn,hnm⟩:∃ n,Y9 y.S.o ((y.H.length+1)::S.i::fO S.o)=n++((y.H.length+1)::S.i::fO S.o) /\ ∀ q∈n,q∈fO y.S.o:=by
       cases y.S.o with
       | none=>exact⟨[],rfl,fun q hq=>by cases hq⟩
       | some p=>exact⟨[p.1],rfl,fun q hq=>hq⟩
      have hn1:¬y.H.length+1∈n:=fun hh2=>by have:=atY.vars_lt (Srv.vars_mem.2 (.inr (.inr (.inl (hnm _ hh2)))));omega
      have hn2:¬S.i∈n:=fun hh2=>(atY.one _ (hnm _ hh2)).1 hSY.symm
      rw[<- hX] at hpv hXi
      simp only[<- hX] at happ
      generalize qT y.S.o y.S.Q.length=qv at *
      simp[he,h0,h1,g1,hqid,hqun]
      refine happ _ _ _ _ _ _ _ ?_
      simp[hn,hn1,hn2,hXi,<- hpv,hw]
      refine⟨j+1,by omega,by omega,?_⟩
      rw[hyn,hyn2]
      have hyl:(y.H++[bh m,bL (bP m).1]).length=y.H.length+2:=by simp
      rw[hpl,hyl] at hph
      simp[Leq,hxid,hpl]
      have htk:=aas (Nat.le_of_eq hpl)
      rw[hyl] at htk
      rw[htk]
      refine⟨by omega,cy _ _,hph,⟨by have:=g.i_lt;omega,fN (by omega) hxY⟩,fun a ha hh3=>?_⟩
      ·rcases ha with ha |rfl |ha
       ·rcases oldY _ (hnm _ ha) with h5 |h5
        ·exact .inr h5
        ·omega
       ·omega
       ·exact ha
     ·have hyn2:y.step m=⟨y.H++[bh m,bL (bP m).1],y.S⟩:=if_neg he
      have he':((bP m).2==0)=false:=by simpa using he
      simp[he,he',h0,h1,hw]
      refine⟨j+1,by omega,by omega,?_⟩
      rw[hyn,hyn2]
      simp[Leq,hxid]
      exact⟨by omega,aF (by omega) hhY,⟨by omega,fN (by omega) hxY⟩,fun hh2=>absurd hh2 (by omega),fun a ha _=>.inr ha⟩
   ·have hjl:j=L.length:=by omega
    subst hjl
    rw[aao] at hy
    rw[<- hy] at at2 ⊢
    simp
    exact⟨hlenY,hhY,fun a ha _=>.inr ha⟩
 ·rcases aaA.1 hq with rfl |hq
  ·exact BF S
  ·exact Srv.vars_mem.2 (.inr (.inr (.inl hq)))
end
end Ax
end Go.Proofs.YtlbgjlmokpkkeaaGreatDoor
