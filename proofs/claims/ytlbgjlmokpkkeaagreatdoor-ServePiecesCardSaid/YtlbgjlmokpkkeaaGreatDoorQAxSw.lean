import Derived.Test.YtlbgjlmokpkkeaaGreatDoorQAxBl
import Derived.Test.YtlbgjlmokpkkeaaGreatDoorQCodeR
import Derived.Test.YtlbgjlmokpkkeaaGreatDoorQAxPk
open List renaming getElem?_set_ne -> aaa, getElem?_eq_some_iff -> aab, getElem?_append_left -> aac, getElem?_set_self -> aad
open UInt8 renaming ofNat -> aae
set_option linter.all false
set_option maxRecDepth 10000
namespace Go.Proofs.YtlbgjlmokpkkeaaGreatDoor
namespace Ax
open Go.RowKit Go By
def c8:XFun:=⟨27,.seq (.ops [oN 2]) (.seq (.ops [oN 3]) (.seq (.seq (.ops [oM 8 0,oH 9 8,oX 10 (.move (.const (.int .i64 0)))]) (.block 0 (.loop (.seq (.ops [oB 11 .lss 10 9]) (.seq (.cond (.tmp 11) .skip (.exit 0)) (.seq (.block 1 (.seq (.ops [oW 12 10 8 10,oP 13 10 12,oZ 5 iQ,oS 10 5 13]) (.seq (.ops [oP 15 10 5,oC 16 22 [15],oM 14 16,oE 17 14 0,oE 18 14 1,oZ 6 dA,oS 2 6 17,oA 7 18]) (.seq (.ops [oM 19 7,oI 20 .eql 19 (.int .i64 0)]) (.cond (.tmp 20) (.ops [oM 21 3,oP 22 2 6,oC 23 21 [22],oX 24 (.append 1 1 (.tmp 21) (.tmp 23)),oA 3 24]) .skip))))) (.ops [oI 25 .add 10 (.int .i64 1),oM 10 25]))))))) (.seq (.ops [oM 26 3,oA 2 26]) .ret))),[.move (.tmp 2)]⟩
theorem k8:aj Tryz.prog 8=some c8:=by kernel_rfl
def c5:XFun:=⟨14,.seq (.ops [oK 4 (.bool false)]) (.seq (.ops [oM 5 0,oH 6 5,oM 7 1,oB 8 .leq 6 7,oM 9 8,oG 9 true (oM 10 0),oG 9 true (oX 11 (.call 15 [.tmp 10,.func 16])),oG 9 true (oV 12 11),oT 13 9 12,oA 4 13]) .ret),[.move (.tmp 4)]⟩
theorem k5:aj Tryz.prog 5=some c5:=by kernel_rfl
def Vp:XFun:=⟨6,.seq (.ops [oJ 1 0,oK 2 (.bool false)]) (.seq (.ops [oP 3 10 1,oC 4 17 [3],oV 5 4,oA 2 5]) .ret),[.move (.tmp 2)]⟩
theorem Zl:aj Tryz.prog 16=some Vp:=by kernel_rfl
def Ze:XFun:=⟨9,.seq (.ops [oK 4 (.bool false)]) (.seq (.ops [oM 5 0,oM 6 1,oC 7 30 [5,6],oI 8 .geq 7 (.int .i64 0),oA 4 8]) .ret),[.move (.tmp 4)]⟩
theorem Zk:aj Tryz.prog 15=some Ze:=by kernel_rfl
def Zf:XFun:=⟨19,.seq (.ops [oK 4 (.int .i64 0)]) (.seq (.seq (.ops [oM 6 0,oH 7 6,oX 8 (.move (.const (.int .i64 0)))]) (.block 0 (.loop (.seq (.ops [oB 9 .lss 8 7]) (.seq (.cond (.tmp 9) .skip (.exit 0)) (.seq (.block 1 (.seq (.ops [oM 10 8,oA 5 10]) (.seq (.ops [oM 11 1,oM 12 0,oM 13 5,oW 14 10 12 13,oP 15 10 14,oX 16 (.callv (.tmp 11) [.tmp 15])]) (.cond (.tmp 16) (.seq (.ops [oM 17 5,oA 4 17]) .ret) .skip)))) (.ops [oI 18 .add 8 (.int .i64 1),oM 8 18]))))))) (.seq (.ops [oK 4 (.int .i64 (-1))]) .ret)),[.move (.tmp 4)]⟩
theorem Zw:aj Tryz.prog 30=some Zf:=by kernel_rfl
end Ax
namespace Ax
open Go.RowKit Go By YtlbgjlmokpkkeaaGreatDoor.Nm Sc Dg
def xp(code text:d5):Bk:=⟨69,0,[],[],[],0,0,[],[],[],[⟨83,[69,82,82,79,82]⟩,⟨86,[69,82,82,79,82]⟩,⟨67,code⟩,⟨77,text⟩]⟩
theorem J6(sev code text:d5)(h:d4):ae Tryz.prog 44 [.v (.string (af sev)),.v (.string (af code)),.v (.string (af text))] h (.sl 2 (am qN [⟨83,sev⟩,⟨86,sev⟩,⟨67,code⟩,⟨77,text⟩]) none .no) h []:=by
 refine ac ZH mixed (by simp[VP]) fun hh hargs=>?_
 simp[VP,hh,Aw]
theorem J8(sev code text:d5)(h:d4):ae Tryz.prog 149 [.v (.string (af sev)),.v (.string (af code)),.v (.string (af text))] h (.agg (bh ⟨69,0,[],[],[],0,0,[],[],[],[⟨83,sev⟩,⟨86,sev⟩,⟨67,code⟩,⟨77,text⟩]⟩)) h []:=by
 refine ac Xs mixed (by simp[Nq]) fun hh hargs=>?_
 simp[Nq]
 refine aa (by simp) (J6 _ _ _ _) ?_
 simp[hh,aV]
theorem Gf(code text:d5)(h:d4):ae Tryz.prog 102 [.v (.string (af code)),.v (.string (af text))] h (.agg (bh (xp code text))) h []:=by
 refine ac WM mixed (by simp[MX]) fun hh hargs=>?_
 simp[MX]
 refine aa (by simp) (J8 [69,82,82,79,82] code text _) ?_
 simp[hh,xp]
theorem zk(m:Fm)(h:d4):ae Tryz.prog 16 [.agg (aJ m)] h (.v (.bool (!cP m))) h []:=by
 refine ac Zl mixed (by simp[Vp]) fun hh hargs=>?_
 simp[Vp]
 refine aa (by simp) (KF m _) ?_
 simp[hh]
def iA(n:Nat)(l:List Fm):Bool:=decide ((l.length:Int) <= (n:Int))&&l.all cP
theorem BC(l:List Fm)(n:Nat)(hn:n <= 1000)(h:d4):ae Tryz.prog 5 [.sl 10 (am aJ l) none .no,.v (.int .i64 (n:Int))] h (.v (.bool (iA n l))) h []:=by
 refine ac k5 mixed (by simp[c5]) fun hh hargs=>?_
 by_cases hL:(n:Int)<l.length
 ·have e:iA n l=false:=by unfold iA;simp;intro h1;omega
  rw[e]
  have hL3:¬l.length <= n:=by omega
  simp[c5,hL3,hh]
 ·have e:iA n l = !(l.any fun e=>!cP e):=by unfold iA;rw[<- List.not_all_eq_any_not];simp;omega
  rw[e]
  have hL2:l.length <= n:=by omega
  simp[c5,hL2]
  refine aa (by simp) (dE mixed Zk Zw aJ (fun m=>!cP m) l [] _ (by simp) (by simp) (by simp) (fun m hm=>zk m _) (by omega)) ?_
  simp[hh]
theorem xa(size n:Int)(h:size <= 4):(aD size n).length <= 4:=by
 have:=Ax.put_len n size h []
 simpa[aD] using this
theorem EP(m:Ms)(ht:0<m.type /\ m.type<256)(hl:m.body.length <= 10000000)(h:d4):ae Tryz.prog 21 [.agg (bL m)] h (.sl 1 (ai ([aae m.type.toNat]++aD 4 ((m.body.length:Int)+4)++m.body)) none (.own .res)) h []:=by
 have hw:IntKind.i64.wrap ((m.body.length:Int)+4)=(m.body.length:Int)+4:=wrap64 (by omega) (by omega)
 have hn:=xa 4 ((m.body.length:Int)+4) (by omega)
 have hk:max m.type 0 % 256=m.type:=by omega
 have h0:¬m.type=0:=by omega
 refine ac Y1 mixed (by simp[Sd]) fun hh hargs=>?_
 rw[dC]
 generalize hn':(m.body.length:Int)+4=n at *
 generalize hE:ai ([aae m.type.toNat]++aD 4 n)=E at *
 have hEl:E.length=1+(aD 4 n).length:=by rw[<- hE,ma,List.length_append,List.length_singleton]
 simp[Sd,h0,hn',hw]
 refine dr ?_
 simp[hn',hw]
 refine ak (iK [aae m.type.toNat] n 4 (by simp) _) (by simp[hk]) (by simp) ?_
 rw[fh [aae m.type.toNat],show aY [] n 4=aD 4 n from rfl,hE]
 simp[hh,-List.append_assoc]
 exact⟨by omega,by rw[<- hE];exact cH _ _⟩
end Ax
namespace Ax
open Go.RowKit Go By
structure Sx where
 text:d5
 oids:List Int
def iL(s:Sx):List AV:=[.v (.string (af s.text)),.sl 1 (am aX s.oids) none .no]
theorem Le(s:Sx):(iL s).length=2:=rfl
theorem pJ(s:Sx):∀ c∈iL s,c.idOf=none:=by simp[iL]
theorem BG(n:Nat)(s:Sx):cb n (iL s):=by simp[iL]
structure Zs where
 e:Nat
 T:Eg
 a:Nat
 clock:Nat
 st:List (KE Sx)
 p:Nat
 S:Ps
 status:Int
 skips:Bool
 over:Bool
 pln:Bool
def Zs.cells(Z:Zs):List AV:=bc Z.clock (Z.st.map (KE.ent iL))
def Zs.top(Z:Zs):List AV:=[.box Z.e 0,.mp Z.a 2 false,.box Z.p 0,.v (.int .u8 Z.status),.v (.bool Z.skips),.v (.bool Z.over)]
theorem Zs.top_mk(Z:Zs):Z.top=[.box Z.e 0,.mp Z.a 2 false,.box Z.p 0,.v (.int .u8 Z.status),.v (.bool Z.skips),.v (.bool Z.over)]:=rfl
def Zs.get(Z:Zs)(k:d5):Option Sx:=KE.get k Z.st
def Zs.del(Z:Zs)(k:d5):Zs:={ Z with st:=KE.del k Z.st }
def Zs.put(Z:Zs)(k:d5)(s:Sx):Zs:={ Z with clock:=KE.tick k Z.clock Z.st,st:=KE.put k Z.clock s Z.st }
def Zs.own(Z:Zs)(i:Nat):List Nat:=[i,Z.e,Z.T.a,Z.a]
def Zs.vars(Z:Zs)(i:Nat):List Nat:=Z.p::(Z.own i++Z.S.vars)
theorem Zs.of_cells(Z:Zs):mapOf 2 Z.cells=some (Z.clock,Z.st.map (KE.ent iL)):=KE.ents_of Le _ _
theorem Zs.keys(Z:Zs):gw none (Z.st.map (KE.ent iL)):=KE.ents_keys pJ _
theorem Zs.plain(Z:Zs):∀ c∈Z.cells,c.idOf=none:=KE.ents_plain pJ _ _
theorem Zs.lt(Z:Zs)(n:Nat):cb n Z.cells:=ss fun e he=>by obtain⟨s,_,rfl⟩:=List.mem_map.1 he;exact BG n _
theorem Zs.found(Z:Zs)(k:d5)(z:List AV):Ax.found false true z (AEnt.find (.string (af k)) (Z.st.map (KE.ent iL)) 0)=(match Z.get k with |some s=>.tup [.agg (iL s),.v (.bool true)] |none=>.tup [qM false z,.v (.bool false)]):=by
 rw[KE.found_eq]
 unfold Zs.get
 cases KE.get k Z.st<;>rfl
structure SsG (L:List (Nat×List AV)) (h:d4) (i:Nat) (Z:Zs):Prop where
 top:h[i]?=some Z.top
 eng:EgAt h Z.e Z.T
 ents:h[Z.a]?=some Z.cells
 por:PsAt h Z.p Z.S
 nd:(Z.own i).Nodup
 sep:∀ q∈Z.own i,q≠Z.p /\ q∉Z.S.vars
 tmp:∀ t∈L,h[t.1]?=some t.2 /\ t.1∉Z.vars i
 pl:Z.pln=true -> eF h
section
variable {L:List (Nat×List AV)} {h:d4} {i:Nat} {Z:Zs}
theorem SsG.i_lt(g:SsG L h i Z):i<h.length:=(aab.1 g.top).1
theorem SsG.a_lt(g:SsG L h i Z):Z.a<h.length:=(aab.1 g.ents).1
theorem SsG.e_lt(g:SsG L h i Z):Z.e<h.length:=g.eng.i_lt
theorem SsG.ea_lt(g:SsG L h i Z):Z.T.a<h.length:=g.eng.a_lt
theorem SsG.p_lt(g:SsG L h i Z):Z.p<h.length:=g.por.i_lt
theorem SsG.hh(g:SsG L h i Z):aK h.length h:=g.por.lt
theorem SsG.tmp_lt(g:SsG L h i Z){t:Nat×List AV}(ht:t∈L):t.1<h.length:=(aab.1 (g.tmp t ht).1).1
theorem Zs.own_mem{q:Nat}:q∈Z.own i↔q=i \/ q=Z.e \/ q=Z.T.a \/ q=Z.a:=by simp[Zs.own]
theorem SsG.own_lt(g:SsG L h i Z){q:Nat}(hq:q∈Z.own i):q<h.length:=by
 rcases Zs.own_mem.1 hq with rfl |rfl |rfl |rfl
 ·exact g.i_lt
 ·exact g.e_lt
 ·exact g.ea_lt
 ·exact g.a_lt
theorem Zs.vars_mem{q:Nat}:q∈Z.vars i↔q=Z.p \/ q∈Z.own i \/ q∈Z.S.vars:=by simp[Zs.vars]
theorem SsG.vars_lt(g:SsG L h i Z){q:Nat}(hq:q∈Z.vars i):q<h.length:=by
 rcases Zs.vars_mem.1 hq with rfl |hq |hq
 ·exact g.p_lt
 ·exact g.own_lt hq
 ·exact g.por.var_lt hq
theorem SsG.ni(g:SsG L h i Z)(n:Nat):¬i=h.length+n:=by have:=g.i_lt;omega
theorem SsG.oi(g:SsG L h i Z):¬i=h.length:=by have:=g.i_lt;omega
theorem SsG.na(g:SsG L h i Z)(n:Nat):¬Z.a=h.length+n:=by have:=g.a_lt;omega
theorem SsG.ne(g:SsG L h i Z)(n:Nat):¬Z.e=h.length+n:=by have:=g.e_lt;omega
theorem SsG.oe(g:SsG L h i Z):¬Z.e=h.length:=by have:=g.e_lt;omega
theorem SsG.none(g:SsG L h i Z):SsG [] h i Z:=⟨g.top,g.eng,g.ents,g.por,g.nd,g.sep,(fun t ht=>by cases ht),g.pl⟩
theorem SsG.app(g:SsG L h i Z){c:List AV}(hc:cb (h.length+1) c)(hp:∀ x∈c,x.idOf=.none):SsG ((h.length,c)::L) (h++[c]) i Z:=by
 refine⟨by rw[aac g.i_lt];exact g.top,g.eng.app _,by rw[aac g.a_lt];exact g.ents,g.por.app [c] ⟨hc,trivial⟩,g.nd,g.sep,fun t ht=>?_,fun hb=>fg (g.pl hb) fun z hz=>by rw[List.mem_singleton.1 hz];exact hp⟩
 rcases List.mem_cons.1 ht with rfl |ht
 ·exact⟨by simp,fun hq=>by have:=g.vars_lt hq;simp at this⟩
 ·obtain⟨h1,h2⟩:=g.tmp t ht
  exact⟨by rw[aac (g.tmp_lt ht)];exact h1,h2⟩
theorem SsG.byP(g:SsG L h i Z){f:FuncId}{args:List AV}{r:AV}{S':Ps}(hd:pN f args h Z.p Z.S r S'):
  ∃ h' wr,ae Tryz.prog f args h r h' wr /\ SsG L h' i { Z with S:=S' } /\ (∀ t∈L,t.1∉wr) /\ h.length <= h'.length /\ (∀ q∈wr,q<h.length -> q∈Z.S.vars) /\ (∀ q<h.length,q∉Z.S.vars -> h'[q]?=h[q]?) /\ (∀ q∈S'.vars,q∈Z.S.vars \/ h.length <= q):=by
 obtain⟨h',wr,k,at_,hw,hl,hs,hv,hp⟩:=hd
 have own:∀ q∈Z.own i,h'[q]?=h[q]?:=fun q hq=>hs q (g.own_lt hq) (g.sep q hq).2
 refine⟨h',wr,k,⟨(own i (by simp[Zs.own])).trans g.top,g.eng.move (own _ (by simp[Zs.own])) (own _ (by simp[Zs.own])),(own _ (by simp[Zs.own])).trans g.ents,at_,g.nd,fun q hq=>⟨(g.sep q hq).1,fun hh=>?_⟩,fun t ht=>?_,fun hb=>hp (g.pl hb)⟩,fun t ht hq=>?_,hl,hw,hs,hv⟩
 ·rcases hv q hh with h1 |h1
  ·exact(g.sep q hq).2 h1
  ·have:=g.own_lt hq;omega
 ·obtain⟨t1,t2⟩:=g.tmp t ht
  have hlt:=g.tmp_lt ht
  rw[Zs.vars_mem,not_or,not_or] at t2
  refine⟨(hs _ hlt t2.2.2).trans t1,fun hq=>?_⟩
  rcases Zs.vars_mem.1 hq with hq |hq |hq
  ·exact t2.1 hq
  ·exact t2.2.1 hq
  ·rcases hv _ hq with h1 |h1
   ·exact t2.2.2 h1
   ·omega
 ·obtain⟨t1,t2⟩:=g.tmp t ht
  exact t2 (Zs.vars_mem.2 (.inr (.inr (hw _ hq (g.tmp_lt ht)))))
theorem SsG.off(g:SsG L h i Z){wr:List Nat}(hw:∀ q∈wr,q<h.length -> q∈Z.S.vars):i∉wr /\ Z.e∉wr /\ Z.T.a∉wr /\ Z.a∉wr /\ Z.p∉wr:=by
 have own:∀ q∈Z.own i,q∉wr:=fun q hq hh=>(g.sep q hq).2 (hw q hh (g.own_lt hq))
 exact⟨own _ (by simp[Zs.own]),own _ (by simp[Zs.own]),own _ (by simp[Zs.own]),own _ (by simp[Zs.own]),fun hh=>g.por.i_not (hw _ hh g.p_lt)⟩
theorem SsG.set(g:SsG L h i Z){Z':Zs}{q:Nat}{cs:List AV}(hq:q∈Z.own i)(he:Z'.e=Z.e)(hT:Z'.T.a=Z.T.a)(ha:Z'.a=Z.a)(hp:Z'.p=Z.p)(hS:Z'.S=Z.S)(hb:Z'.pln=Z.pln)(hlt:cb h.length cs)(hid:∀ x∈cs,x.idOf=.none)
  (htop:(h.set q cs)[i]?=some Z'.top) (heng:(h.set q cs)[Z.e]?=some (fU Z'.T.a Z'.T.n) /\ (h.set q cs)[Z.T.a]?=some Z'.T.cells) (hents:(h.set q cs)[Z.a]?=some Z'.cells):SsG L (h.set q cs) i Z':=by
 have hown:Z'.own i=Z.own i:=by unfold Zs.own;rw[he,hT,ha]
 have hvars:Z'.vars i=Z.vars i:=by unfold Zs.vars;rw[hown,hp,hS]
 obtain⟨s1,s2⟩:=g.sep q hq
 have hl:=ao (i:=q) g.hh hlt
 refine⟨htop,⟨by rw[he];exact heng.1,by rw[hT];exact heng.2,by rw[he,hT];exact g.eng.apart⟩,by rw[ha];exact hents,?_,by rw[hown];exact g.nd,by rw[hown,hp,hS];exact g.sep,fun t ht=>?_,fun hh=>bY (g.pl (hb▸hh)) hid _⟩
 ·rw[hp,hS]
  exact g.por.move (aaa s1) (fun p hp2=>aaa fun e=>s2 (by rw[e];exact hp2)) (by rw[List.length_set];exact hl)
 ·obtain⟨t1,t2⟩:=g.tmp t ht
  refine⟨by rw[aaa fun e=>t2 (by rw[<- e];exact Zs.vars_mem.2 (.inr (.inl hq)))];exact t1,by rw[hvars];exact t2⟩
theorem SsG.nd4(g:SsG L h i Z):i≠Z.e /\ i≠Z.T.a /\ i≠Z.a /\ Z.e≠Z.T.a /\ Z.e≠Z.a /\ Z.T.a≠Z.a:=by
 have:=g.nd
 simp[Zs.own] at this
 omega
theorem Zs.top_lt(Z:Zs){n:Nat}(h1:Z.e<n)(h2:Z.a<n)(h3:Z.p<n):cb n Z.top:=by simp[Zs.top,h1,h2,h3]
theorem Zs.top_id(Z:Zs):∀ x∈Z.top,x.idOf=.none:=by simp[Zs.top]
theorem SsG.setTop(g:SsG L h i Z)(st:Int)(sk ov:Bool):SsG L (h.set i { Z with status:=st,skips:=sk,over:=ov }.top) i { Z with status:=st,skips:=sk,over:=ov }:=by
 obtain⟨n1,n2,n3,_⟩:=g.nd4
 refine g.set (q:=i) (by simp[Zs.own]) rfl rfl rfl rfl rfl rfl (Zs.top_lt _ g.e_lt g.a_lt g.p_lt) (Zs.top_id _) (aad g.i_lt) ⟨?_,?_⟩ ?_
 ·rw[aaa n1];exact g.eng.top
 ·rw[aaa n2];exact g.eng.ents
 ·rw[aaa n3];exact g.ents
theorem SsG.setEnts(g:SsG L h i Z)(c:Nat)(l:List (KE Sx)):SsG L (h.set Z.a { Z with clock:=c,st:=l }.cells) i { Z with clock:=c,st:=l }:=by
 obtain⟨n1,n2,n3,n4,n5,n6⟩:=g.nd4
 refine g.set (q:=Z.a) (by simp[Zs.own]) rfl rfl rfl rfl rfl rfl (Zs.lt _ _) (Zs.plain _) ?_ ⟨?_,?_⟩ (aad g.a_lt)
 ·rw[aaa (Ne.symm n3)];exact g.top
 ·rw[aaa (Ne.symm n5)];exact g.eng.top
 ·rw[aaa (Ne.symm n6)];exact g.eng.ents
theorem SsG.setEng(g:SsG L h i Z)(n:Nat):SsG L (h.set Z.e (fU Z.T.a n)) i { Z with T:={ Z.T with n:=n } }:=by
 obtain⟨n1,n2,n3,n4,n5,n6⟩:=g.nd4
 have ha:=g.ea_lt
 refine g.set (q:=Z.e) (by simp[Zs.own]) rfl rfl rfl rfl rfl rfl (by simp[fU,ha]) (by simp[fU]) ?_ ⟨aad g.e_lt,?_⟩ ?_
 ·rw[aaa (Ne.symm n1)];exact g.top
 ·rw[aaa n4];exact g.eng.ents
 ·rw[aaa n5];exact g.ents
end
def DoesS(f:FuncId)(args:List AV)(h:d4)(i:Nat)(Z:Zs)(r:d4 -> AV -> Prop)(Z':Zs):Prop :=
 ∃ h' wr v,ae Tryz.prog f args h v h' wr /\ r h' v /\ SsG [] h' i Z' /\ (∀ q∈wr,q<h.length -> q∈Z.vars i) /\ h.length <= h'.length /\ (∀ q<h.length,q∉Z.vars i -> h'[q]?=h[q]?) /\ (∀ q∈Z'.vars i,q∈Z.vars i \/ h.length <= q)
section
variable {L:List (Nat×List AV)} {h:d4} {i:Nat} {Z:Zs}
theorem SsG.byS(g:SsG L h i Z){f:FuncId}{args:List AV}{r:d4 -> AV -> Prop}{Z':Zs}(hd:DoesS f args h i Z r Z'):
  ∃ h' wr v,ae Tryz.prog f args h v h' wr /\ r h' v /\ SsG L h' i Z' /\ (∀ t∈L,t.1∉wr) /\ h.length <= h'.length /\ (∀ q∈wr,q<h.length -> q∈Z.vars i) /\ (∀ q<h.length,q∉Z.vars i -> h'[q]?=h[q]?) /\ (∀ q∈Z'.vars i,q∈Z.vars i \/ h.length <= q):=by
 obtain⟨h',wr,v,k,hr,g',hw,hl,hs,hv⟩:=hd
 refine⟨h',wr,v,k,hr,⟨g'.top,g'.eng,g'.ents,g'.por,g'.nd,g'.sep,fun t ht=>?_,g'.pl⟩,fun t ht hq=>(g.tmp t ht).2 (hw _ hq (g.tmp_lt ht)),hl,hw,hs,hv⟩
 obtain⟨t1,t2⟩:=g.tmp t ht
 refine⟨(hs _ (g.tmp_lt ht) t2).trans t1,fun hq=>?_⟩
 rcases hv _ hq with h1 |h1
 ·exact t2 h1
 ·have:=g.tmp_lt ht;omega
end
end Ax
end Go.Proofs.YtlbgjlmokpkkeaaGreatDoor
