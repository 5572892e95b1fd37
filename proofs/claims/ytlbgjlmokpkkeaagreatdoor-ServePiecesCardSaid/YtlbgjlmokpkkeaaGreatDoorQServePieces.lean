/- Layer 31: ServePieces. -/
import Derived.Test.YtlbgjlmokpkkeaaGreatDoorQAxEz
import Derived.Test.YtlbgjlmokpkkeaaGreatDoorCards
import Derived.Test.YtlbgjlmokpkkeaaGreatDoorTie
import Derived.Below
import Derived.LaidMore
import Derived.LaidHandle
import Derived.LaidSub
import Derived.LaidLaws
import Derived.Lay
import Derived.SevenTiedAt
import Derived.Stop.Joined
open List renaming length_append -> aaa, length_cons -> aab, flatMap_cons -> aac, append_assoc -> aad, mem_cons_self -> aae, mem_cons_of_mem -> aaf, append_nil -> aag, length_set -> aah, length_singleton -> aai, getElem?_set_ne -> aaj, length_nil -> aak, all_eq_true -> aal, getElem?_append_left -> aan, take_append_drop -> aap, mem_append -> aaq, getElem?_append_right -> aas, getElem?_eq_some_iff -> aat, nil_append -> aax, mem_filter -> aay, getElem?_set_self -> aaz, take_of_length_le -> aaA, append_eq_nil_iff -> aaB, mem_singleton -> aaC, mem_filterMap -> aaD, length_take -> aaF, cons_append -> aaG, nodup_nil -> aaH, drop_zero -> aaI, range -> aaK
open UInt8 renaming ofNat -> aam
open Nat renaming le_add_right -> aao, le_refl -> aar, le_trans -> aaw, zero_le -> aaE, mul_succ -> aaJ
open Classical renaming byContradiction -> aau
open Bool renaming and_eq_true -> aav
set_option linter.all false
namespace Go.Proofs.YtlbgjlmokpkkeaaGreatDoor.Ax
open Go.RowKit Go.Deep Go.ChangeShapes Go.WideShapes Go.ChangeAt Go.Joins Go By
section
variable {P:Program} {t:TypeId}
end
end Go.Proofs.YtlbgjlmokpkkeaaGreatDoor.Ax
namespace Go.Proofs.YtlbgjlmokpkkeaaGreatDoor.Ax
open Go.RowKit Go By YtlbgjlmokpkkeaaGreatDoor.Nm Dg
set_option maxRecDepth 10000
section
variable {h:d4} {i:Nat}
end
theorem qY{m:Fm}(h:cP m=true):rf m /\ (∀ c∈m.params,c.2.length <= 300) /\ (aw m).length <= 100000 /\ m.params.length <= 50 /\ m.oids.length <= 50 /\ m.name.length <= 300 /\ m.portal.length <= 300 /\ m.text.length <= 1000:=by
 unfold cP qb at h
 simp only[aav,Bool.not_eq_true',Bool.or_eq_false_iff,decide_eq_false_iff_not,decide_eq_true_eq] at h
 obtain⟨⟨h1,h2,h3,h4⟩,h5,h6,h7,h8⟩:=h
 have hc:∀ c∈m.params,c.2.length <= 300:=fun c hc=>by
  have:=List.any_eq_false.1 h5 c hc
  simp[sp] at this;omega
 refine⟨⟨by omega,by omega,by omega,by omega,fun c h=>by have:=hc c h;omega,by omega,by omega,by omega⟩,hc,?_,by omega,by omega,by omega,by omega,by omega⟩
 have numsL:∀(size:Int) (l:List Int),size <= 4 -> l.length <= 50 -> (aG (aD size) l).length <= 204:=fun size l hs hl=>by
  have key:∀ l:List Int,(l.flatMap (aD size)).length <= 4*l.length:=fun l=>by
   induction l with
   | nil=>simp
   | cons x l ih =>
    have:=put_len x size hs []
    rw[aac,aaa,aab]
    simp only[aD,aak] at this ⊢
    omega
  have:=key l
  have:=put_len (l.length:Int) 2 (by omega) []
  unfold aG
  rw[aaa]
  simp only[aak] at this
  omega
 have cellsL:(aG cd m.params).length <= 15204:=by
  have key:∀ l:List Cl,(∀ c∈l,c.2.length <= 300) -> (l.flatMap cd).length <= 304*l.length:=fun l=>by
   induction l with
   | nil=>intro _;simp
   | cons x l ih =>
    intro hl
    have h1:=ih fun c hc=>hl c (aaf _ hc)
    have h2:=hl x (aae ..)
    rw[aac,aaa,aab]
    obtain⟨n,b⟩:=x
    have h2':b.length <= 300:=h2
    cases n with
    | true =>
     have:=put_len 4294967295 4 (by omega) []
     rw[gj];simp only[aak] at this;omega
    | false =>
     have:=put_len (b.length:Int) 4 (by omega) []
     rw[fl,aaa];simp only[aak] at this;omega
  have:=key m.params hc
  have:=put_len (m.params.length:Int) 2 (by omega) []
  unfold aG
  rw[aaa]
  simp only[aak] at this
  omega
 have n1:=numsL 4 m.oids (by omega) (by omega)
 have n2:=numsL 2 m.formats (by omega) (by omega)
 have n3:=numsL 2 m.results (by omega) (by omega)
 have n4:=put_len m.max 4 (by omega) (aM [m.portal])
 have t:∀(l:d5),(He.encT l).length=l.length+1:=cw
 unfold aw
 repeat' split
 all_goals simp only[aM,aac,List.flatMap_nil,aaa,aab,aak,t,aag] at n4 ⊢
 all_goals omega
theorem PH{l:List Int}(h:l.all (ep 0 4294967295)=true):l.all (cu 4)=true:=aal.2 fun x hx=>by
 have:=aal.1 h x hx
 unfold ep at this
 simp at this
 unfold cu aB szB jc
 simp
 omega
theorem Ou{m:Fm}(h:cP m=true)(c:Bool)(hc:c=true -> bQ m=0):FmS c m:=by
 obtain⟨_,q1,_,q2,q3,q4,q5,q6⟩:=qY h
 have parts:c=true -> m.oids.all (ep 0 4294967295)=true /\ m.params.all bS=true:=fun hh=>by
  have:=hc hh
  unfold bQ at this
  split at this
  ·cases this
  ·split at this
   ·rename_i h2
    simp only[aav,fi] at h2
    exact⟨h2.2.1.1.2,h2.2.1.2.2.2.2⟩
   ·cases this
 exact⟨by omega,by omega,q6,⟨by omega,fun hh=>PH (parts hh).1⟩,⟨by omega,fun x hx=>⟨by have:=q1 x hx;omega,fun hh=>aal.1 (parts hh).2 x hx⟩⟩⟩
theorem zj{n:Nat}{l:List Fm}(h:iA n l=true):l.length <= n /\ ∀ m∈l,cP m=true:=by
 unfold iA at h
 simp only[aav,decide_eq_true_eq] at h
 exact⟨by omega,fun m hm=>aal.1 h.2 m hm⟩
def gh(m:Fm):d5:=if bQ m=0 then[aam m.kind.toNat]++aD 4 (((aw m).length:Int)+4)++aw m else[]
structure S1 where
 H:d4
 j:Nat
 out:d5
inductive S1.Ok (m:Fm) (h:d4):S1 -> Prop
 | z:S1.Ok m h ⟨h,0,[]⟩
 | o (x:d4) (hh:aK (h++x).length (h++x)):S1.Ok m h ⟨h++x,1,gh m⟩
def dw(l:List Fm):d5:=l.flatMap gh
theorem ru{m:Fm}(hp:cP m=true):(gh m).length <= 100005:=by
 obtain⟨hfit,_,hbody,_⟩:=qY hp
 have:=xa 4 (((aw m).length:Int)+4) (by omega)
 unfold gh
 split
 ·rw[aaa,aaa];show 1+_+_ <= _;omega
 ·simp
theorem mF:∀ {l:List Fm},(∀ m∈l,cP m=true) -> (dw l).length <= 100005*l.length
 | [],_=>by simp[dw]
 | m::l,h=>by
  have h1:=ru (h m (aae ..))
  have h2:=mF (l:=l) fun x hx=>h x (aaf _ hx)
  unfold dw at h2 ⊢
  rw[aac,aaa,aab,aaJ]
  omega
structure SB where
 H:d4
 j:Nat
 out:d5
structure SB.Ok (l:List Fm) (h:d4) (d:SB):Prop where
 le:d.j <= l.length
 out:d.out=dw (l.take d.j)
 hp:∃ xs,d.H=h++xs
 hl:aK d.H.length d.H
set_option maxHeartbeats 1000000 in
theorem EL(l:List Fm)(hl:l.length <= 100)(hp:∀ m∈l,cP m=true)(hw:∀ m∈l,0 <= m.what /\ m.what<256)(h:d4):ae Tryz.prog 8 [.sl 10 (am aJ l) none .no] h (.sl 1 (ai (dw l)) none (.own .res)) h []:=by
 refine ac k8 mixed (by simp[c8]) fun hh hargs=>?_
 simp[c8]
 refine ap (D:=SB) (fun d=>⟨[(8,.sl 10 (am aJ l) none .no),(9,.v (.int .i64 (l.length:Int))),(10,.v (.int .i64 (d.j:Int)))],[(3,.sl 1 (ai d.out) none (.own (.new 3)))],d.H,[]⟩) (SB.Ok l h) (fun d=>l.length-d.j) ⟨h,0,[]⟩ ⟨aaE _,rfl,⟨[],by simp⟩,hh⟩ ?_ ?_
 ·simp[Leq,hh]
 ·intro d hd
  obtain⟨H,j,out⟩:=d
  obtain⟨hj,ho,⟨x,hx⟩,hlt⟩:=hd
  dsimp only at hj ho hx hlt ⊢
  by_cases hjl:j<l.length
  ·have hw1:IntKind.i64.wrap ((j:Int)+1)=(j:Int)+1:=wrap64 (by omega) (by omega)
   obtain⟨m,hm⟩:∃ m,m=l[j]:=⟨_,rfl⟩
   have hmem:m∈l:=by rw[hm];exact List.getElem_mem hjl
   obtain⟨hfit,_,hbody,_⟩:=qY (hp m hmem)
   have hbl:out.length <= 100005*100:=by
    rw[ho]
    have:=mF (l:=l.take j) fun x hx=>hp x (List.mem_of_mem_take hx)
    have h3:(l.take j).length <= 100:=by rw[aaF];omega
    omega
   have hb1:=ru (hp m hmem)
   have hnext:dw (l.take (j+1))=out++gh m:=by
    rw[cN hjl,ho,hm]
    unfold dw
    rw[List.flatMap_append]
    simp
   have hget:∀ xs,(H++aJ m::xs)[H.length]?=some (aJ m):=fun xs=>by simp
   simp[hjl,<- hm]
   refine aa (by simp) (Ez m hfit (hw m hmem) _ (by omega)) ?_
   by_cases hr:bQ m=0
   ·have e0:vi m=(⟨m.kind,aw m⟩,0):=if_pos hr
    have hb:gh m=[aam m.kind.toNat]++aD 4 (((aw m).length:Int)+4)++aw m:=if_pos hr
    have hk:0<m.kind /\ m.kind<256:=by
     unfold bQ at hr
     split at hr
     ·cases hr
     ·rename_i hk
      unfold az at hk
      split at hk
      ·omega
      ·split at hk<;>omega
    rw[e0]
    simp
    refine aa (by simp) (EP ⟨m.kind,aw m⟩ hk (by show(aw m).length <= _;omega) _) ?_
    rw[<- hb]
    simp
    refine⟨by omega,⟨H++[aJ m,bL ⟨m.kind,aw m⟩],j+1,out++gh m⟩,⟨by show j+1 <= _;omega,hnext.symm,⟨x++[aJ m,bL ⟨m.kind,aw m⟩],by rw[hx,aad]⟩,by simp[aF (aao H.length 2) hlt]⟩,by show l.length-(j+1)<_;omega,?_⟩
    have hlH:h.length <= H.length:=by rw[hx,aaa];omega
    simp[Leq,hw1,hlt,dC,aF (aao H.length 2) hlt]
    omega
   ·have e0:vi m=(⟨0,[]⟩,bQ m):=if_neg hr
    have hb:gh m=[]:=if_neg hr
    rw[hb,aag] at hnext
    rw[e0]
    simp[hr]
    refine⟨⟨H++[aJ m,bL ⟨0,[]⟩],j+1,out⟩,⟨by show j+1 <= _;omega,hnext.symm,⟨x++[aJ m,bL ⟨0,[]⟩],by rw[hx,aad]⟩,by simp[aF (aao H.length 2) hlt]⟩,by show l.length-(j+1)<_;omega,?_⟩
    have hlH:h.length <= H.length:=by rw[hx,aaa];omega
    simp[Leq,hw1,hlt,aF (aao H.length 2) hlt]
    omega
  ·have:j=l.length:=by omega
   subst this
   rw[List.take_length] at ho
   have hres:∀ m (es:d4),lk m (.sl 1 es none (.own (.new 2)))=.sl 1 es none (.own .res):=fun _ _=>rfl
   simp[hlt,hres]
   refine⟨by rw[hx,aaa];omega,by rw[ho];simp,pw (by rw[hx,aaa];omega) fun q hq=>by rw[hx,aan hq],hh⟩
section
variable {h:d4} {S:Srv}
theorem SvAt.turnS(g:SvAt h S){h':d4}{Z':Zs}{wr:List Nat}(gs:SsG [] h' S.s Z')(hw:∀ q∈wr,q<h.length -> q∈S.Z.vars S.s)(hl:h.length <= h'.length)(hs:∀ q<h.length,q∉S.Z.vars S.s -> h'[q]?=h[q]?)(hv:∀ q∈Z'.vars S.s,q∈S.Z.vars S.s \/ h.length <= q):
  SvAt h' { S with Z:=Z' } /\ ViaV h S wr h' { S with Z:=Z' }:=by
 have hi:=hs S.i g.i_lt g.out.1
 have hf:=hs S.f g.f_lt g.out.2
 have fr':h'[S.f]?=some (S.F.cells S.f):=hf.trans g.fr
 have hpl:Z'.pln=false:=by
  cases hb:Z'.pln with
  | false=>rfl
  | true =>
   have:=gs.pl hb _ (List.mem_of_getElem? fr') (.sl 1 (ai S.F.rest) none (.own (.cell S.f 3))) (by simp[Fw.cells])
   cases this
 have hol:∀ q∈fO S.o,q<h.length:=fun q hq=>g.vars_lt (Srv.vars_mem.2 (.inr (.inr (.inl hq))))
 have notv:∀ q<h.length,q∉S.Z.vars S.s -> q∉Z'.vars S.s:=fun q hq hn hh=>by
  rcases hv q hh with h1 |h1
  ·exact hn h1
  ·omega
 refine⟨⟨hi.trans g.top,fr',g.mq.move fun q hq=>hs q (hol q hq) (g.one q hq).2.2,gs,g.ne,fun q hq=>⟨(g.one q hq).1,(g.one q hq).2.1,notv q (hol q hq) (g.one q hq).2.2⟩,⟨notv _ g.i_lt g.out.1,notv _ g.f_lt g.out.2⟩,hpl⟩,⟨hl,fun q hq hn=>hs q hq fun hh=>hn (Srv.vars_mem.2 (.inr (.inr (.inr hh)))),fun q hq hlt=>Srv.vars_mem.2 (.inr (.inr (.inr (hw q hq hlt)))),fun q hq=>?_⟩⟩
 rcases Srv.vars_mem.1 hq with h1 |h1 |h1 |h1
 ·exact .inl (Srv.vars_mem.2 (.inl h1))
 ·exact .inl (Srv.vars_mem.2 (.inr (.inl h1)))
 ·exact .inl (Srv.vars_mem.2 (.inr (.inr (.inl h1))))
 ·rcases hv q h1 with h2 |h2
  ·exact .inl (Srv.vars_mem.2 (.inr (.inr (.inr h2))))
  ·exact .inr h2
theorem ViaV.put{W:List Nat}{H:d4}{S':Srv}(v:ViaV h S W H S'){q0:Nat}(hq0:h.length <= q0)(cs:List AV):ViaV h S W (H.set q0 cs) S' :=
 ⟨by rw[aah];exact v.len,fun q hq hn=>by rw[aaj (by omega)];exact v.kept q hq hn,v.wr,v.vars⟩
set_option maxHeartbeats 2000000 in
theorem TL{c:Bool}{n k:Nat}(g:SvAt h S)(z:ZOk c n S.Z)(hn:n <= 1000)(va:VaSm k S.Z.V)(hk:k <= 1000000)(f:Fm)(hf:FmS c f)(hfm:mB f)(hr:fD f=0)(hb:(aw f).length <= 1000000)(hq:S.Q.length <= 50000)(hov:S.over=false):
  ∃ o Z',DoesV 26 [.box S.i 0,.agg (bL ⟨f.kind,aw f⟩)] h S (.tup [.agg (aJ f),.v (.bool true)]) { S with Q:=S.Q++cc (rK S.Z.V f).1,o:=o,Z:=Z',over:=f.kind==88 } /\ ZOk c (n+1) Z' /\ Z'.V=(rK S.Z.V f).2:=by
 obtain⟨vz,vt⟩:=Cr va hk hfm
 obtain⟨xs,hxs⟩:∃ xs:d4,xs=[bL ⟨f.kind,aw f⟩,zF,aJ f]:=⟨_,rfl⟩
 have hxl:aK (h.length+xs.length) xs:=by rw[hxs];simp[aO,zF]
 have g1:=g.app xs hxl
 obtain⟨M,Z',hD,z',_,hdo⟩:=Ty g1.ses z hn f hf
 obtain⟨h1,w1,v1,k1,r1,gs1,hw1,hl1,hs1,hv1⟩:=hD
 obtain⟨g2,via2⟩:=g1.turnS gs1 hw1 hl1 hs1 hv1
 obtain⟨L,hL⟩:∃ L,L=M++(if iC S.Z f=true then[zB Z'.status] else[]):=⟨_,rfl⟩
 rw[<- hL] at r1 hdo
 rw[hdo] at vt ⊢
 dsimp only at vt ⊢
 have hsx:SayX h1 { S with Z:=Z' } L v1:=by
  cases r1 with
  | sl hv=>exact .sl hv
  | bx b hl hv hb hn =>
   refine .bx b hv hb fun hq=>?_
   rcases Srv.vars_mem.1 hq with h3 |h3 |h3 |h3
   ·have:=g1.i_lt;rw[h3] at hl;dsimp only at hl;omega
   ·have:=g1.f_lt;rw[h3] at hl;dsimp only at hl;omega
   ·have:=g1.vars_lt (Srv.vars_mem.2 (.inr (.inr (.inl h3))));omega
   ·exact hn h3
 obtain⟨o,h2,w2,k2,g3,via3⟩:=IL g2 hsx vt.2 (aaw vt.1 (by omega)) (by show S.Q.length <= _;omega)
 have g4:=g3.setTop S.greeted (f.kind==88)
 dsimp only at g3 g4 via2 via3
 have hlen1:(h++xs).length=h.length+3:=by rw[hxs,aaa];rfl
 have hl2:=via2.len
 have hl3:=via3.len
 rw[hlen1] at hl2
 obtain⟨S2,hS2⟩:∃ S2:Srv,S2={ S with Q:=S.Q++cc L,o:=o,Z:=Z',over:=f.kind==88 }:=⟨_,rfl⟩
 have hvars:∀ q∈S2.vars,q<h.length \/ h.length+3 <= q:=fun q hq=>by
  rw[hS2] at hq
  rcases via3.vars q hq with h3 |h3
  ·rcases via2.vars q h3 with h4 |h4
   ·exact .inl (g.vars_lt h4)
   ·rw[hlen1] at h4;exact .inr h4
  ·omega
 have kept:∀ j<3,h2[h.length+j]?=xs[j]?:=fun j hj=>by
  have e1:(h++xs)[h.length+j]?=xs[j]?:=by rw[aas (by omega)];simp
  rw[<- e1,<- via2.kept (h.length+j) (by omega) fun hq=>by have:=g.vars_lt hq;omega]
  refine via3.kept (h.length+j) (by omega) fun hq=>?_
  rcases via2.vars _ hq with h4 |h4
  ·have:=g.vars_lt h4;omega
  ·rw[hlen1] at h4;omega
 have c1:h2[h.length+1]?=some zF:=by rw[kept 1 (by omega),hxs];rfl
 have c2:h2[h.length+2]?=some (aJ f):=by rw[kept 2 (by omega),hxs];rfl
 have viaA:=((((ViaV.refl h S).app xs).step via2).step via3).step (ViaV.set (S:={ S with Q:=S.Q++cc L,o:=o,Z:=Z' }) (S':={ S with Q:=S.Q++cc L,o:=o,Z:=Z',over:=f.kind==88 }) (BF _) (Srv.top { S with Q:=S.Q++cc L,o:=o,Z:=Z',over:=f.kind==88 }) rfl)
 refine⟨o,Z',?_,z',rfl⟩
 rw[<- hS2] at g4 viaA ⊢
 have hS2i:S2.i=S.i:=by rw[hS2]
 have hil:=g.i_lt
 have hne:¬S.i=h.length+1:=by omega
 refine⟨(h2.set S.i S2.top).set (h.length+1) (aJ f),S.i::(w2++w1),?_,?_,?_⟩
 ·have e1:=g1.top
  rw[Srv.top_mk] at e1
  have e3:=g3.top
  rw[Srv.top_mk] at e3
  dsimp only at e3
  have hdec:=(Ad hr).2
  rw[hxs] at e1 k1
  have et:S2.top=[qT o (S.Q++cc L).length,.box S.f 0,.box S.s 0,.sl 0 [] (some true) .exact,.v (.int .i64 S.id),.v (.bool S.greeted),.v (.bool (f.kind==88))]:=by rw[hS2];rfl
  have ez:[AV.v (.int .u8 0),.v (.int .u8 0),.v (.string (af [])),.v (.string (af [])),.v (.string (af [])),.sl 0 [] (some true) .exact,.sl 0 [] (some true) .exact,.sl 0 [] (some true) .exact,.sl 0 [] (some true) .exact,.v (.int .i64 0)]=zF:=rfl
  have hlz:zF.length=10:=rfl
  refine ac Zt mixed (by simp[VE]) fun hh hargs=>?_
  simp[VE,ez]
  refine aa (by simp) (DS _ (by show(aw f).length <= _;omega) _) ?_
  rw[hdec]
  have n1:¬S.i∈w1:=fun hq=>g.out.1 (hw1 _ hq (by rw[hlen1];omega))
  have n2:¬h.length+2∈w1:=fun hq=>by have:=g.ses.vars_lt (hw1 _ hq (by rw[hlen1];omega));omega
  have hvid:v1.idOf=none:=by cases r1 with |sl hv=>rw[hv];rfl |bx b _ hv _ _=>rw[hv];rfl
  have hvun:v1.unown=v1:=by cases r1 with |sl hv=>rw[hv];rfl |bx b _ hv _ _=>rw[hv];rfl
  have hf0:aJ f=.v (.int .u8 f.kind)::(aJ f).drop 1:=rfl
  have hfl:(aJ f).length=10:=rfl
  have hfu:(aJ f).map AV.unown=aJ f:=rfl
  have hft:(aJ f).take 10=aJ f:=rfl
  simp[hlz,e1]
  refine aa (by simp) k1 ?_
  simp[n1,n2,hvid,hvun]
  refine aa (by simp[hvid,hvun]) k2 ?_
  have hf00:(aJ f)[0]?=some (.v (.int .u8 f.kind)):=rfl
  have d1:∀ X,(h2.set S.i X)[h.length+1]?=some zF:=fun X=>by rw[aaj hne];exact c1
  have d2:∀ X,(h2.set S.i X)[h.length+2]?=some (aJ f):=fun X=>by rw[aaj (by omega)];exact c2
  have d3:∀ X,((h2.set S.i X).set (h.length+1) (aJ f))[h.length+1]?=some (aJ f):=fun X=>by rw[aaz (by rw[aah];omega)]
  have hlf:cb h2.length (aJ f):=rX _ _
  have hg4:=g4.hh
  rw[aah] at hg4
  rw[aaa] at et
  obtain⟨F9,h9⟩:∃ F9,aJ f=.v (.int .u8 f.kind)::F9:=⟨_,rfl⟩
  have l9:F9.length=9:=by have:=hfl;rw[h9] at this;simpa using this
  have u9:F9.map AV.unown=F9:=by have:=hfu;rw[h9] at this;simpa using this
  have t9:F9.take 9=F9:=aaA (by omega)
  rw[h9] at c2 d2 d3 hlf ⊢
  simp[c1,c2,e3]
  rw[<- et]
  have hly:lay (zF.set 0 (.v (.int .u8 f.kind))) 1 F9=.v (.int .u8 f.kind)::F9:=by
   have:=qS F9 [.v (.int .u8 f.kind)] (zF.drop 1) [] (by rw[l9];rfl)
   simpa[zF] using this
  simp[d1,d2,d3,l9,u9,t9,hlz,hly]
  have hlf9:cb h2.length F9:=hlf.2
  refine⟨by omega,hlf9,?_,ao hg4 hlf,fun a ha hlt=>?_⟩
  ·rw[aaA (by simp)];exact cy _ _
  ·rcases ha with ha |ha |rfl
   ·exact .inr (.inl ha)
   ·exact .inr (.inr ha)
   ·omega
 ·refine g4.move (fun q hq=>aaj fun e=>?_) ?_
  ·rcases hvars q hq with h3 |h3<;>omega
  ·rw[aah]
   exact ao g4.hh (rX _ _)
 ·have:=viaA.put (q0:=h.length+1) (by omega) (aJ f)
  simpa using this
end
section
variable {h:d4} {S:Srv}
theorem B0(g:SvAt h S)(ho:S.over=true):ae Tryz.prog 10 [.box S.i 0] h (.tup [.agg (aJ noFm),.v (.bool false)]) h []:=by
 have hz1:aK (h.length+1) [zF]:=by simp[zF]
 have ga:=g.app [zF] hz1
 have e0:=ga.top
 rw[Srv.top_mk] at e0
 have ez:[AV.v (.int .u8 0),.v (.int .u8 0),.v (.string (af [])),.v (.string (af [])),.v (.string (af [])),.sl 0 [] (some true) .exact,.sl 0 [] (some true) .exact,.sl 0 [] (some true) .exact,.sl 0 [] (some true) .exact,.v (.int .i64 0)]=zF:=rfl
 have hlz:zF.length=10:=rfl
 have huz:zF.map AV.unown=zF:=rfl
 have htz:zF.take 10=zF:=rfl
 refine ac UB mixed (by simp[JB]) fun hh hargs=>?_
 simp[JB,ez]
 refine aa (by simp) (fR ga) ?_
 simp[e0,ho,hlz,huz,htz]
 exact⟨by simp[zF,noFm,aL],hh⟩
theorem BZ(g:SvAt h S)(ho:S.over=false)(hm:0<S.F.most)(hm2:S.F.most <= 1000000)(hw0:S.F.wrong=0)(hr:S.F.rest.length <= 1000000)(hno:S.F.size.1=0 \/ S.F.rest.length<S.F.size.1)(h2:S.F.size.2=0):
  ae Tryz.prog 10 [.box S.i 0] h (.tup [.agg (aJ noFm),.v (.bool false)]) h [S.f]:=by
 have hz1:aK (h.length+1) [zF]:=by simp[zF]
 have ga:=g.app [zF] hz1
 have kn:=B6 ga.fr hm hm2 hw0 hr hno
 have hsame:({ S.F with wrong:=S.F.size.2 }:Fw)=S.F:=by rw[h2,<- hw0]
 have hset:(h++[zF]).set S.f (S.F.cells S.f)=h++[zF]:=by
  have e:=ga.fr
  rw[<- (aat.1 e).2];exact List.set_getElem_self (aat.1 e).1
 rw[hsame,hset,h2] at kn
 have e0:=ga.top
 rw[Srv.top_mk] at e0
 have hfl:=g.f_lt
 have ez:[AV.v (.int .u8 0),.v (.int .u8 0),.v (.string (af [])),.v (.string (af [])),.v (.string (af [])),.sl 0 [] (some true) .exact,.sl 0 [] (some true) .exact,.sl 0 [] (some true) .exact,.sl 0 [] (some true) .exact,.v (.int .i64 0)]=zF:=rfl
 have hlz:zF.length=10:=rfl
 have huz:zF.map AV.unown=zF:=rfl
 have htz:zF.take 10=zF:=rfl
 refine ac UB mixed (by simp[JB]) fun hh hargs=>?_
 simp[JB,ez]
 refine aa (by simp) (fR ga) ?_
 simp[e0,ho]
 refine aa (by simp) kn ?_
 simp[hlz,huz,htz]
 exact⟨by simp[zF,noFm,aL],hh⟩
set_option maxHeartbeats 2000000 in
theorem IM{c:Bool}{n k:Nat}(g:SvAt h S)(hov:S.over=false)(hg:S.greeted=true)(z:ZOk c n S.Z)(hn:n <= 1000)(va:VaSm k S.Z.V)(hk:k <= 1000000)(f:Fm)(hf:FmS c f)(hfm:mB f)(hr:fD f=0)(hb:(aw f).length <= 60000)(hq:S.Q.length <= 50000)(r:d5)(hF:S.F=⟨true,65536,262144,xq f++r,0⟩)(hrl:r.length <= 100000):
  ∃ o Z',DoesV 10 [.box S.i 0] h S (.tup [.agg (aJ f),.v (.bool true)]) { S with Q:=S.Q++cc (rK S.Z.V f).1,o:=o,Z:=Z',F:=⟨true,65536,262144,r,0⟩,over:=f.kind==88 } /\ ZOk c (n+1) Z' /\ Z'.V=(rK S.Z.V f).2:=by
 obtain⟨i,fr,s,o0,Q,F,Z,id,greeted,over⟩:=S
 dsimp only at hg hov hF hq z va ⊢
 subst hg hov hF
 have hkind:0 <= f.kind /\ f.kind<256:=by
  have:=(nG hr).1
  unfold az at this
  split at this
  ·omega
  ·split at this<;>omega
 have hsz:=Fw.size_full (F:=⟨true,65536,262144,xq f++r,0⟩) (m:=⟨f.kind,aw f⟩) (y:=r) rfl (by show(aw f).length+4 <= 65536;omega) (by show 65536 <= 65536;decide) hkind
 obtain⟨q1,q2,q3,q4,q5⟩:=hsz
 have hlf:(xq f).length <= 70000:=by
  have:=qP true ⟨f.kind,aw f⟩ (by show(aw f).length <= _;omega)
  have e:EY true=1:=rfl
  show(tI true ⟨f.kind,aw f⟩).length <= _
  rw[this,e]
  show 1+4+(aw f).length <= _
  omega
 have hz1:aK (h.length+1) [zF]:=by simp[zF]
 have ga:=g.app [zF] hz1
 have kn:=qt ga.fr (by show 0<65536;decide) (by show 65536 <= 1000000;decide) rfl (by show(xq f++r).length <= _;rw[aaa];omega) q2 q3
 rw[q4,q5] at kn
 have g1:=g.setF ⟨true,65536,262144,r,0⟩
 dsimp only at g1 kn
 have hfl:=g.f_lt
 dsimp only at hfl
 rw[List.set_append_left _ _ hfl] at kn
 obtain⟨xs,hxs⟩:∃ xs:d4,xs=[zF,bL ⟨f.kind,aw f⟩]:=⟨_,rfl⟩
 have hlen:(h.set fr (Fw.cells ⟨true,65536,262144,r,0⟩ fr)).length=h.length:=aah
 have hxl:aK ((h.set fr (Fw.cells ⟨true,65536,262144,r,0⟩ fr)).length+xs.length) xs:=by rw[hxs];simp[zF,aO]
 have g2:=g1.app xs hxl
 obtain⟨o,Z',⟨H,W,kb,gb,vb⟩,zz,hV⟩:=TL g2 z hn va hk f hf hfm hr (by omega) hq rfl
 dsimp only at gb vb kb
 have hHl:=vb.len
 rw[aaa,hlen,hxs] at hHl
 have hHl:h.length+2 <= H.length:=hHl
 have notin:∀ j<2,h.length+j∉Srv.vars { i:=i,f:=fr,s:=s,o:=o,Q:=Q++cc (rK Z.V f).1,F:=⟨true,65536,262144,r,0⟩,Z:=Z',id:=id,greeted:=true,over:=f.kind==88 }:=fun j hj hh=>by
  rcases vb.vars _ hh with h3 |h3
  ·have:=g1.vars_lt h3;omega
  ·rw[aaa,hlen,hxs] at h3
   have h3:h.length+2 <= h.length+j:=h3
   omega
 have vz:H[h.length]?=some zF:=by
  refine(vb.kept h.length (by rw[hxs];simp) fun hh=>?_).trans ?_
  ·have:=g1.vars_lt hh;omega
  ·rw[hxs,aas (by omega),hlen,Nat.sub_self];rfl
 have vs:=(((ViaV.set (h:=h) (S:={ i:=i,f:=fr,s:=s,o:=o0,Q:=Q,F:=⟨true,65536,262144,xq f++r,0⟩,Z:=Z,id:=id,greeted:=true,over:=false }) (S':={ i:=i,f:=fr,s:=s,o:=o0,Q:=Q,F:=⟨true,65536,262144,r,0⟩,Z:=Z,id:=id,greeted:=true,over:=false }) (Io _) (Fw.cells ⟨true,65536,262144,r,0⟩ fr) rfl).app xs).step vb).put (q0:=h.length) (aar _) (aJ f)
 have gz:=gb.move (h2:=H.set h.length (aJ f)) (fun q hq=>aaj fun e=>notin 0 (by omega) (by rw[Nat.add_zero,e];exact hq)) (by rw[aah];exact ao gb.hh (rX _ _))
 refine⟨o,Z',⟨H.set h.length (aJ f),W++[fr],?_,gz,vs⟩,zz,hV⟩
 rw[hxs] at kb
 have e1:=g2.top
 rw[Srv.top_mk,hxs] at e1
 dsimp only at e1
 have km:=fR ga
 have e0:=ga.top
 rw[Srv.top_mk] at e0
 dsimp only at e0 km
 have hgz:=gz.hh
 rw[aah] at hgz
 have ez:[AV.v (.int .u8 0),.v (.int .u8 0),.v (.string (af [])),.v (.string (af [])),.v (.string (af [])),.sl 0 [] (some true) .exact,.sl 0 [] (some true) .exact,.sl 0 [] (some true) .exact,.sl 0 [] (some true) .exact,.v (.int .i64 0)]=zF:=rfl
 have hlz:zF.length=10:=rfl
 have hfl10:(aJ f).length=10:=rfl
 have hfu:(aJ f).map AV.unown=aJ f:=rfl
 have hft:(aJ f).take 10=aJ f:=rfl
 have hly:lay zF 0 (aJ f)=aJ f:=by
  have:=qS (aJ f) [] zF [] (by rw[hlz];rfl)
  simpa using this
 have hfid:∀ c∈aJ f,c.idOf=none:=Ot f
 have d3:(H.set h.length (aJ f))[h.length]?=some (aJ f):=aaz (by omega)
 refine ac UB mixed (by simp[JB]) fun hh hargs=>?_
 simp[JB,ez]
 refine aa (by simp) km ?_
 simp[e0]
 refine aa (by simp) kn ?_
 simp[e1]
 refine aa (by simp) kb ?_
 have hlf:cb H.length (aJ f):=rX _ _
 generalize aJ f=F10 at *
 simp[vz,hlz,hly,hfl10,d3,hfu,hft]
 refine⟨by omega,hlf,hgz,fun a ha hlt=>?_⟩
 rcases ha with ha |rfl |rfl
 ·exact .inl ha
 ·omega
 ·exact .inr rfl
end
structure GoodF (m:Fm):Prop where
 s:FmS false m
 sm:mB m
 ok:fD m=0
 b:(aw m).length <= 60000
theorem lK{α:Type}{r z a y:List α}(h:r++z=a++y)(hl:a.length <= r.length):∃ r',r=a++r' /\ r'++z=y:=by
 have h1:r.take a.length=a:=by
  have:=congrArg (List.take a.length) h
  rw[List.take_append_of_le_length hl,List.take_left] at this
  exact this
 refine⟨r.drop a.length,?_,?_⟩
 ·conv=>lhs;rw[<- aap a.length r,h1]
 ·have h2:a++(r.drop a.length++z)=a++y:=by
   rw[<- h,<- aad]
   congr 1
   conv=>rhs;rw[<- aap a.length r,h1]
  exact List.append_cancel_left h2
inductive Str (S:Srv) (z:d5) (T:List Ms) (μ:Nat):Prop
 | hel (l:List Fm) (r:d5) (n:Nat) (hg:S.greeted=false) (ho:S.over=false) (hF:S.F=⟨false,65536,262144,r,0⟩) (hr:r++z=helB++l.flatMap xq) (hb:r.length+z.length <= 4000) (hl:∀ m∈l,GoodF m) (hT:T=cc (bk [] S.id)++gK S.Z.V l) (hid:S.id=0) (zok:ZOk false n S.Z) (va:VaSm n S.Z.V) (hn:n+l.length <= 100) (hμ:μ=l.length+1)
 | run (l:List Fm) (r:d5) (n:Nat) (hg:S.greeted=true) (ho:S.over=false) (hF:S.F=⟨true,65536,262144,r,0⟩) (hr:r++z=l.flatMap xq) (hb:r.length+z.length <= 4000) (hl:∀ m∈l,GoodF m) (hT:T=gK S.Z.V l) (zok:ZOk false n S.Z) (va:VaSm n S.Z.V) (hn:n+l.length <= 100) (hμ:μ=l.length)
 | fin (ho:S.over=true) (hT:T=[])
theorem Str.queue{S:Srv}{z:d5}{T:List Ms}{μ:Nat}(st:Str S z T μ)(Q:List Ms)(o:Option (Nat×Nat)):Str { S with Q:=Q,o:=o } z T μ:=by
 cases st with
 | hel l r n hg ho hF hr hb hl hT hid zok va hn hμ=>exact .hel l r n hg ho hF hr hb hl hT hid zok va hn hμ
 | run l r n hg ho hF hr hb hl hT zok va hn hμ=>exact .run l r n hg ho hF hr hb hl hT zok va hn hμ
 | fin ho hT=>exact .fin ho hT
theorem Str.feed{S:Srv}{x z:d5}{T:List Ms}{μ:Nat}(st:Str S (x++z) T μ)(ho:S.over=false):Str { S with F:={ S.F with rest:=S.F.rest++x } } z T μ:=by
 cases st with
 | hel l r n hg ho hF hr hb hl hT hid zok va hn hμ=>exact .hel l (r++x) n hg ho (by rw[hF]) (by rw[aad];exact hr) (by rw[aaa] at hb ⊢;omega) hl hT hid zok va hn hμ
 | run l r n hg ho hF hr hb hl hT zok va hn hμ=>exact .run l (r++x) n hg ho (by rw[hF]) (by rw[aad];exact hr) (by rw[aaa] at hb ⊢;omega) hl hT zok va hn hμ
 | fin ho2 hT=>rw[ho] at ho2;cases ho2
theorem Str.room{S:Srv}{z:d5}{T:List Ms}{μ:Nat}(st:Str S z T μ)(ho:S.over=false):S.F.most=65536 /\ S.F.room=262144 /\ S.F.wrong=0 /\ S.F.rest.length+z.length <= 4000:=by
 cases st with
 | hel l r n hg ho hF hr hb hl hT hid zok va hn hμ=>rw[hF];exact⟨rfl,rfl,rfl,hb⟩
 | run l r n hg ho hF hr hb hl hT zok va hn hμ=>rw[hF];exact⟨rfl,rfl,rfl,hb⟩
 | fin ho2 hT=>rw[ho] at ho2;cases ho2
def qz(S:Srv):Prop:=S.over=true \/ (S.F.size.1=0 \/ S.F.rest.length<S.F.size.1)
theorem yt{r z y:d5}(hr:r++z=helB++y)(hi:(Fw.size ⟨false,65536,262144,r,0⟩).1=0 \/ r.length<(Fw.size ⟨false,65536,262144,r,0⟩).1):r.length<helB.length:=by
 refine aau fun hlt=>?_
 obtain⟨r',rfl,_⟩:=lK hr (by omega)
 obtain⟨_,q2,q3,_⟩:=Fw.size_full (F:=⟨false,65536,262144,helB++r',0⟩) (m:=⟨0,helX⟩) (y:=r') (by rw[qO]) (by show helX.length+4 <= 65536;decide) (by show 65536 <= 65536;decide) rfl
 rcases hi with hi |hi
 ·exact q2 hi
 ·have q3:_ <= (helB++r').length:=q3
  omega
theorem D6{f:Fm}(hr:fD f=0):0 <= f.kind /\ f.kind<256:=by
 have:=(nG hr).1
 unfold az at this
 split at this
 ·omega
 ·split at this<;>omega
theorem Cv{f:Fm}(gf:GoodF f){r z y:d5}(hr:r++z=xq f++y)(hi:(Fw.size ⟨true,65536,262144,r,0⟩).1=0 \/ r.length<(Fw.size ⟨true,65536,262144,r,0⟩).1):r.length<(xq f).length:=by
 refine aau fun hlt=>?_
 obtain⟨r',rfl,_⟩:=lK hr (by omega)
 have hb:=gf.b
 obtain⟨_,q2,q3,_⟩:=Fw.size_full (F:=⟨true,65536,262144,xq f++r',0⟩) (m:=⟨f.kind,aw f⟩) (y:=r') rfl (by show(aw f).length+4 <= 65536;omega) (by show 65536 <= 65536;decide) (D6 gf.ok)
 rcases hi with hi |hi
 ·exact q2 hi
 ·have q3:_ <= (xq f++r').length:=q3
  omega
theorem uT:(Fw.size ⟨true,65536,262144,[],0⟩)=(0,0):=by decide +kernel
theorem Str.last{S:Srv}{T:List Ms}{μ:Nat}(st:Str S [] T μ)(hi:qz S):T=[]:=by
 cases st with
 | hel l r n hg ho hF hr hb hl hT hid zok va hn hμ =>
  exfalso
  rcases hi with hi |hi
  ·rw[ho] at hi;cases hi
  ·rw[hF] at hi
   have:=yt hr hi
   rw[aag] at hr
   rw[hr,aaa] at this
   omega
 | run l r n hg ho hF hr hb hl hT zok va hn hμ =>
  cases l with
  | nil=>exact hT
  | cons f l =>
   exfalso
   rcases hi with hi |hi
   ·rw[ho] at hi;cases hi
   ·rw[hF] at hi
    rw[aac] at hr
    have:=Cv (hl f (aae ..)) hr hi
    rw[aag] at hr
    rw[hr,aaa] at this
    omega
 | fin ho2 hT=>exact hT
section
variable {h:d4} {S:Srv} {z:d5} {T:List Ms} {μ:Nat}
theorem Im(g:SvAt h S)(st:Str S z T μ)(hi:qz S):∃ wr,ae Tryz.prog 10 [.box S.i 0] h (.tup [.agg (aJ noFm),.v (.bool false)]) h wr /\ ∀ q∈wr,q∈S.vars:=by
 cases ho:S.over with
 | true=>exact⟨[],B0 g ho,fun q hq=>by cases hq⟩
 | false =>
  obtain⟨m1,m2,m3,m4⟩:=st.room ho
  have hi2:S.F.size.1=0 \/ S.F.rest.length<S.F.size.1:=by
   rcases hi with hi |hi
   ·rw[ho] at hi;cases hi
   ·exact hi
  have h2:S.F.size.2=0:=by
   cases st with
   | hel l r n hg ho hF hr hb hl hT hid zok va hn hμ =>
    rw[hF] at hi2 ⊢
    have:=yt hr hi2
    rw[qO] at hr this
    exact(Fw.size_part (F:=⟨false,65536,262144,r,0⟩) hr (by show helX.length+4 <= 65536;decide) (by show 65536 <= 65536;decide) this).2
   | run l r n hg ho hF hr hb hl hT zok va hn hμ =>
    rw[hF] at hi2 ⊢
    cases l with
    | nil =>
     have:r=[]:=(aaB.1 hr).1
     rw[this,uT]
    | cons f l =>
     rw[aac] at hr
     have gf:=hl f (aae ..)
     have hbf:=gf.b
     have:=Cv gf hr hi2
     exact(Fw.size_part (F:=⟨true,65536,262144,r,0⟩) hr (by show(aw f).length+4 <= 65536;omega) (by show 65536 <= 65536;decide) this).2
   | fin ho2 hT=>rw[ho] at ho2;cases ho2
  exact⟨[S.f],BZ g ho (by rw[m1];decide) (by rw[m1];decide) m3 (by omega) hi2 h2,fun q hq=>by rw[aaC.1 hq];exact Io S⟩
theorem Il(g:SvAt h S)(st:Str S z T μ)(hi:¬qz S)(few:(S.Q++T).length <= 10000):
  ∃ f ok S' T' μ',DoesV 10 [.box S.i 0] h S (.tup [.agg (aJ f),.v (.bool ok)]) S' /\ Str S' z T' μ' /\ S'.Q++T'=S.Q++T /\ S'.i=S.i /\ μ'<μ /\ ((ok=true) \/ (ok=false /\ f=noFm /\ S.greeted=false /\ S'.greeted=true)):=by
 rw[aaa] at few
 cases st with
 | hel l r n hg ho hF hr hb hl hT hid zok va hn hμ =>
  have hlt:¬r.length<helB.length:=fun hlt=>by
   rw[qO] at hr hlt
   exact hi (.inr (by rw[hF];exact(Fw.size_part (F:=⟨false,65536,262144,r,0⟩) hr (by show helX.length+4 <= 65536;decide) (by show 65536 <= 65536;decide) hlt).1))
  obtain⟨r',rfl,hr'⟩:=lK hr (by omega)
  rw[aaa] at hb
  obtain⟨o,D⟩:=qp g hg ho r' hF (by omega) (by omega) (by rw[hid];exact pt)
  refine⟨noFm,false,_,gK S.Z.V l,l.length,D,.run l r' n rfl ho rfl hr' (by omega) hl rfl zok va hn rfl,?_,rfl,by omega,.inr ⟨rfl,rfl,hg,rfl⟩⟩
  show(S.Q++cc (bk [] S.id))++gK S.Z.V l=_
  rw[hT,aad]
 | run l r n hg ho hF hr hb hl hT zok va hn hμ =>
  cases l with
  | nil =>
   exfalso
   have:r=[]:=(aaB.1 hr).1
   subst this
   exact hi (.inr (.inl (by rw[hF,uT])))
  | cons f l =>
   rw[aac] at hr
   have gf:=hl f (aae ..)
   have hbf:=gf.b
   have hlt:¬r.length<(xq f).length:=fun hlt=>hi (.inr (by rw[hF];exact(Fw.size_part (F:=⟨true,65536,262144,r,0⟩) hr (by show(aw f).length+4 <= 65536;omega) (by show 65536 <= 65536;decide) hlt).1))
   obtain⟨r',rfl,hr'⟩:=lK hr (by omega)
   rw[aaa] at hb
   rw[aab] at hn hμ
   obtain⟨o,Z',D,z',hV⟩:=IM g ho hg zok (by omega) va (by omega) f gf.s gf.sm gf.ok gf.b (by omega) r' hF (by omega)
   have va':=(Cr va (by omega) gf.sm).1
   rw[<- hV] at va'
   have hTk:gK S.Z.V (f::l)=cc (rK S.Z.V f).1++(if f.kind=88 then[] else gK (rK S.Z.V f).2 l):=rfl
   by_cases h88:f.kind=88
   ·rw[if_pos h88] at hTk
    refine⟨f,true,_,[],0,D,.fin (by simpa using h88) rfl,?_,rfl,by omega,.inl rfl⟩
    show(S.Q++cc (rK S.Z.V f).1)++[]=_
    rw[hT,hTk,aag,aag]
   ·rw[if_neg h88] at hTk
    refine⟨f,true,_,gK Z'.V l,l.length,D,.run l r' (n+1) hg (by simpa using h88) rfl hr' (by omega) (fun m hm=>hl m (aaf _ hm)) rfl z' va' (by omega) rfl,?_,rfl,by omega,.inl rfl⟩
    show(S.Q++cc (rK S.Z.V f).1)++gK Z'.V l=_
    rw[hT,hTk,hV,aad]
 | fin ho2 hT=>exact absurd (.inl ho2) hi
end
structure Run (h:d4) (all z:d5) (H:d4) (S:Srv) (T:List Ms) (μ:Nat) (out:d5):Prop where
 g:SvAt H S
 st:Str S z T μ
 i:S.i=h.length+7
 lo:∀ q∈S.vars,h.length <= q
 hl:h.length+8 <= H.length
 same:∀ q<h.length,H[q]?=h[q]?
 say:out++wJ (S.Q++T)=all
 few:(S.Q++T).length <= 2100
 mu:μ <= 21
 ty:∀ m∈S.Q++T,0 <= m.type /\ m.type<256
section
variable {h:d4} {all x z:d5} {H:d4} {S:Srv} {T:List Ms} {μ:Nat} {out:d5}
theorem Run.app(R:Run h all z H S T μ out)(xs:d4)(hx:aK (H.length+xs.length) xs):Run h all z (H++xs) S T μ out :=
 ⟨R.g.app xs hx,R.st,R.i,R.lo,by rw[aaa];have:=R.hl;omega,fun q hq=>by rw[aan (by have:=R.hl;omega)];exact R.same q hq,R.say,R.few,R.mu,R.ty⟩
theorem Run.does(R:Run h all z H S T μ out){f:FuncId}{args:List AV}{r:AV}{S':Srv}(D:DoesV f args H S r S'){z':d5}{T':List Ms}{μ':Nat}{out':d5}(st:Str S' z' T' μ')(hi:S'.i=S.i)(hs:out'++wJ (S'.Q++T')=all)(hf:(S'.Q++T').length <= 2100)(hm:μ' <= 21)(ht:∀ m∈S'.Q++T',0 <= m.type /\ m.type<256):
  ∃ H' W,ae Tryz.prog f args H r H' W /\ (∀ q∈W,h.length <= q) /\ Run h all z' H' S' T' μ' out' /\ H.length <= H'.length:=by
 have hl:=R.hl
 obtain⟨H',W,k,g',w',l',s',lo',_⟩:=D.low R.lo (by omega)
 exact⟨H',W,k,w',⟨g',st,hi.trans R.i,lo',by omega,fun q hq=>(s' q hq).trans (R.same q hq),hs,hf,hm,ht⟩,l'⟩
theorem Run.busy(R:Run h all z H S T μ out)(hi:¬qz S):∃ f ok S' T' μ' H' W,ae Tryz.prog 10 [.box (h.length+7) 0] H (.tup [.agg (aJ f),.v (.bool ok)]) H' W /\ (∀ q∈W,h.length <= q) /\ Run h all z H' S' T' μ' out /\ μ'<μ /\ (ok=true \/ (ok=false /\ f=noFm /\ S.greeted=false /\ S'.greeted=true)):=by
 obtain⟨f,ok,S',T',μ',D,st,hq,hi',hlt,hc⟩:=Il R.g R.st hi (aaw R.few (by decide))
 obtain⟨H',W,k,w,R',_⟩:=R.does D st hi' (out':=out) (by rw[hq];exact R.say) (by rw[hq];exact R.few) (by have:=R.mu;omega) (by rw[hq];exact R.ty)
 rw[R.i] at k
 exact⟨f,ok,S',T',μ',H',W,k,w,R',hlt,hc⟩
theorem Run.idle(R:Run h all z H S T μ out)(hi:qz S):∃ W,ae Tryz.prog 10 [.box (h.length+7) 0] H (.tup [.agg (aJ noFm),.v (.bool false)]) H W /\ ∀ q∈W,h.length <= q:=by
 obtain⟨W,k,w⟩:=Im R.g R.st hi
 rw[R.i] at k
 exact⟨W,k,fun q hq=>R.lo q (w q hq)⟩
theorem Run.fed(R:Run h all (x++z) H S T μ out)(hx:x.length <= 3000):∃ e S' H' W,ae Tryz.prog 12 [.box (h.length+7) 0,.sl 1 (ai x) none .no] H (.v (.int .i64 e)) H' W /\ (∀ q∈W,h.length <= q) /\ Run h all z H' S' T μ out /\ S'.Q=S.Q:=by
 cases ho:S.over with
 | true =>
  have k:=BY R.g ho x
  rw[R.i] at k
  have st:Str S z T μ:=by
   cases R.st with
   | hel l r n hg ho2=>rw[ho] at ho2;cases ho2
   | run l r n hg ho2=>rw[ho] at ho2;cases ho2
   | fin ho2 hT=>exact .fin ho2 hT
  exact⟨10,S,H,[],k,(fun q hq=>by cases hq),⟨R.g,st,R.i,R.lo,R.hl,R.same,R.say,R.few,R.mu,R.ty⟩,rfl⟩
 | false =>
  obtain⟨m1,m2,m3,m4⟩:=R.st.room ho
  rw[aaa] at m4
  have D:=Dc R.g ho x (by rw[m1];decide) (by omega) (by omega) (by rw[m2];decide) (by rw[m2];omega)
  obtain⟨H',W,k,w,R',_⟩:=R.does D (R.st.feed ho) rfl (out':=out) R.say R.few R.mu R.ty
  rw[R.i] at k
  exact⟨0,_,H',W,k,w,R',rfl⟩
theorem py(m:Ms)(l:List Ms):wJ (m::l)=(aam m.type.toNat::m.body)++wJ l:=rfl
theorem Run.taken(R:Run h all z H S T μ out){m:Ms}{r:List Ms}(hQ:S.Q=m::r):∃ S' H' W,ae Tryz.prog 11 [.box (h.length+7) 0] H (.tup [.agg (bL m),.v (.bool true)]) H' W /\ (∀ q∈W,h.length <= q) /\ Run h all z H' S' T μ (out++(aam m.type.toNat::m.body)) /\ S'.Q=r /\ (qz S -> qz S'):=by
 obtain⟨o,D⟩:=jR R.g hQ
 have hsay:=R.say
 have hfew:=R.few
 rw[hQ,aaG] at hsay hfew
 rw[py,<- aad] at hsay
 obtain⟨H',W,k,w,R',_⟩:=R.does D (R.st.queue r o) rfl (out':=out++(aam m.type.toNat::m.body)) hsay (by rw[aab] at hfew;show(r++T).length <= _;omega) R.mu (fun x hx=>R.ty x (by rw[hQ];exact aaf _ hx))
 rw[R.i] at k
 exact⟨_,H',W,k,w,R',rfl,fun hi=>hi⟩
theorem Run.empty(R:Run h all z H S T μ out)(hQ:S.Q=[]):ae Tryz.prog 11 [.box (h.length+7) 0] H (.tup [.agg (bL ⟨0,[]⟩),.v (.bool false)]) H []:=by
 have k:=tu R.g hQ
 rw[R.i] at k
 exact k
end
theorem CV(l:List Bk):∀ m∈cc l,0 <= m.type /\ m.type<256:=fun m hm=>by
 obtain⟨b,_,hb⟩:=aaD.1 hm
 split at hb
 ·rename_i h0
  injection hb with hb
  subst hb
  unfold bP at h0 ⊢
  split at h0
  ·rename_i hc
   rw[if_pos hc]
   have hk:cx b.kind=true:=by
    unfold gl at hc
    split at hc
    ·cases hc
    ·rename_i h1;simpa using h1
   show 0 <= b.kind /\ b.kind<256
   unfold cx at hk
   have:=of_decide_eq_true hk
   omega
  ·rename_i hc
   exact absurd h0 hc
 ·cases hb
theorem C5:∀(l:List Fm) (A:Va),∀ m∈gK A l,0 <= m.type /\ m.type<256
 | [],A,m,hm=>by cases hm
 | f::r,A,m,hm=>by
  unfold gK at hm
  rcases aaq.1 hm with h1 |h1
  ·exact CV _ m h1
  ·split at h1
   ·cases h1
   ·exact C5 r _ m h1
structure PD where
 H:d4
 S:Srv
 T:List Ms
 m:Nat
 out:d5
 c:Nat
def A0:Va:=(zK 0).V
theorem MJ(b:Nat):(zK b).V=A0:=rfl
theorem QD(b:Nat):ZOk false 0 (zK b):=⟨aar _,⟨aaH,aaH,fun x hx=>by cases hx⟩,aar _,(fun x hx=>by cases hx),Kx _,(fun x hx=>by cases hx),rfl⟩
theorem Ci:VaSm 0 A0:=⟨aar _,by decide,fun x hx=>(by cases hx),fun x hx=>(by cases hx)⟩
theorem HY{l:List Bk}(h:∀ m∈l,BkSm m):∀ m∈cc l,m.body.length <= 100000000:=fun m hm=>by
 obtain⟨b,hb1,hb⟩:=aaD.1 hm
 have h3:=(h b hb1).parts.2.2
 split at hb
 ·rename_i h0
  injection hb with hb
  subst hb
  unfold bP
  split
  ·exact h3
  ·simp
 ·cases hb
theorem Is:∀(l:List Fm) {k:Nat} {A:Va},VaSm k A -> k+l.length <= 1000000 -> (∀ f∈l,mB f) -> ∀ m∈gK A l,m.body.length <= 100000000
 | [],k,A,_,_,_,m,hm=>by cases hm
 | f::r,k,A,h,hk,hf,m,hm=>by
  rw[aab] at hk
  obtain⟨h1,h2⟩:=Cr h (by omega) (hf f (aae ..))
  unfold gK at hm
  rcases aaq.1 hm with h3 |h3
  ·exact HY h2.2 m h3
  ·split at h3
   ·cases h3
   ·exact Is r h1 (by omega) (fun g hg=>hf g (aaf _ hg)) m h3
theorem yM:∀(l:List Ms),(∀ m∈l,m.body.length <= 100000000) -> (wJ l).length <= 100000001*l.length
 | [],_=>by simp[wJ]
 | m::l,h=>by
  have h1:=h m (aae ..)
  have h2:=yM l fun x hx=>h x (aaf _ hx)
  rw[py,aaa,aab,aab,aaJ]
  omega
structure PO where
 H:d4
 S:Srv
 T:List Ms
 m:Nat
 out:d5
 a:Nat
 j:Nat
structure PO.Ok (h:d4) (all b sizes:d5) (d:PO):Prop where
 r:Run h all (b.drop d.a) d.H d.S d.T d.m d.out
 a:d.a <= b.length
 j:d.j <= sizes.length+1
 fin:d.j=sizes.length+1 -> d.a=b.length /\ qz d.S
 q:d.S.Q=[]
def PO.st(b sizes:d5)(lo:Nat)(d:PO):St:=⟨[(0,.sl 1 (ai b) none .no),(1,.sl 1 (ai sizes) none .no),(4,.v (.string (af []))),(5,.box (lo+7) 0),(6,.v (.string (af d.out))),(7,.v (.int .i64 (d.a:Int))),(8,.v (.int .i64 (d.j:Int)))],[],d.H,[]⟩
def PD.st(b sizes:d5)(lo:Nat)(a j:Nat)(d:PD):St:=⟨[(0,.sl 1 (ai b) none .no),(1,.sl 1 (ai sizes) none .no),(4,.v (.string (af []))),(5,.box (lo+7) 0),(6,.v (.string (af d.out))),(7,.v (.int .i64 (a:Int))),(8,.v (.int .i64 (j:Int)))],[],d.H,[]⟩
def PD.st2(b sizes:d5)(lo:Nat)(a j:Nat)(d:PD):St:=⟨[(50,.v (.int .i64 (d.c:Int))),(0,.sl 1 (ai b) none .no),(1,.sl 1 (ai sizes) none .no),(4,.v (.string (af []))),(5,.box (lo+7) 0),(6,.v (.string (af d.out))),(7,.v (.int .i64 ((a:Nat):Int))),(8,.v (.int .i64 (j:Int)))],[],d.H,[]⟩
def PD.st3(b sizes:d5)(lo:Nat)(a j:Nat)(d:PD):St:=⟨[(72,.v (.int .i64 (d.c:Int))),(0,.sl 1 (ai b) none .no),(1,.sl 1 (ai sizes) none .no),(4,.v (.string (af []))),(5,.box (lo+7) 0),(6,.v (.string (af d.out))),(7,.v (.int .i64 ((a:Nat):Int))),(8,.v (.int .i64 (j:Int)))],[],d.H,[]⟩
set_option maxHeartbeats 4000000 in
theorem PW(b sizes:d5)(l:List Fm)(hb:b=helB++l.flatMap xq)(hbl:b.length <= 3000)(hl:∀ m∈l,GoodF m)(hll:l.length <= 20)(hs:sizes.length <= 60)(h:d4):
  ae Tryz.prog 9 [.sl 1 (ai b) none .no,.sl 1 (ai sizes) none .no] h (.v (.string (af (wJ (cc (bk [] 0)++gK A0 l))))) h []:=by
 obtain⟨all,hall⟩:∃ all,all=wJ (cc (bk [] 0)++gK A0 l):=⟨_,rfl⟩
 rw[<- hall]
 have hallb:all.length <= 100000001*2100:=by
  have h1:=td l Ci (by omega) fun m hm=>(hl m hm).sm
  have h2:(cc (bk [] 0)).length <= 3:=og _
  rw[hall]
  refine aaw (yM _ fun m hm=>?_) (Nat.mul_le_mul_left _ (by rw[aaa];omega))
  rcases aaq.1 hm with h3 |h3
  ·exact HY pt m h3
  ·exact Is l Ci (by omega) (fun m hm=>(hl m hm).sm) m h3
 have kn0:=IK (.box (h.length+1) 0) rfl rfl rfl (h++[bc 0 [],fU h.length 0]) (by simp)
 have hheap:(h++[bc 0 [],fU h.length 0])++[(⟨false,65536,262144,[],0⟩:Fw).cells (h++[bc 0 [],fU h.length 0]).length,bc 0 [],bc 0 [],[.mp ((h++[bc 0 [],fU h.length 0]).length+2) 1 true],[.box (h.length+1) 0,.mp ((h++[bc 0 [],fU h.length 0]).length+1) 2 false,.box ((h++[bc 0 [],fU h.length 0]).length+3) 0,.v (.int .u8 73),.v (.bool false),.v (.bool false)],[.sl 0 [] (some true) .exact,.box (h++[bc 0 [],fU h.length 0]).length 0,.box ((h++[bc 0 [],fU h.length 0]).length+4) 0,.sl 0 [] (some true) .exact,.v (.int .i64 0),.v (.bool false),.v (.bool false)]]=db h:=by
  unfold db
  simp[zK,v0,Srv.top,qT,Zs.top]
 rw[hheap] at kn0
 have hlen2:(h++[bc 0 [],fU h.length 0]).length+5=h.length+7:=by simp
 rw[hlen2] at kn0
 have ke:=Gb h
 have hlv:(db h).length=h.length+8:=by simp[db]
 refine cf (XCode.inside (XCode.cuts [true,false,true,true]) [1,1,1,1,0,1,1,1,1,0,1,1] c9.code) k9 rfl mixed (by simp[c9]) fun hh hargs=>?_
 have R0:Run h all (b.drop 0) (db h) (v0 h.length) (cc (bk [] 0)++gK A0 l) (l.length+1) []:=by
  refine⟨Iy hh,.hel l [] 0 rfl rfl rfl (by rw[aax,aaI];exact hb) (by show 0+(b.drop 0).length <= 4000;rw[aaI];omega) hl (by rw[<- MJ h.length];rfl) rfl (QD _) (by show VaSm 0 (zK h.length).V;rw[MJ];exact Ci) (by omega) rfl,rfl,C7 _,by omega,fun q hq=>by unfold db;rw[aan hq],by rw[hall];rfl,?_,by omega,fun x hx=>?_⟩
  rotate_left
  ·have hx:x∈cc (bk [] 0)++gK A0 l:=hx
   rcases aaq.1 hx with h1 |h1
   ·exact CV _ x h1
   ·exact C5 _ _ x h1
  have h1:=td l Ci (by omega) fun m hm=>(hl m hm).sm
  have h2:(cc (bk [] 0)).length <= 3:=og _
  show([]++(cc (bk [] 0)++gK A0 l)).length <= 2100
  rw[aax,aaa]
  omega
 simp[c9]
 refine aa (by simp) ke ?_
 simp
 refine aa (by simp) kn0 ?_
 simp
 refine ap (D:=PO) (PO.st b sizes h.length) (PO.Ok h all b sizes) (fun d=>sizes.length+1-d.j) ⟨db h,v0 h.length,cc (bk [] 0)++gK A0 l,l.length+1,[],0,0⟩ ⟨R0,aaE _,aaE _,fun hx=>by dsimp only at hx;omega,rfl⟩ ?_ ?_
 ·have hlv2:=(Iy hh).hh
  rw[hlv] at hlv2
  simp[Leq,PO.st,hlv,hlv2]
  exact ag hlv
 ·intro d ok
  obtain⟨H,S,T,m,out,a,j⟩:=d
  obtain⟨R,ha,hj,hfin,hQ⟩:=ok
  dsimp only at R ha hj hfin hQ
  have hw:IntKind.i64.wrap ((j:Int)+1)=(j:Int)+1:=wrap64 (by omega) (by omega)
  have hsub:IntKind.i64.wrap ((b.length:Int)-(a:Int))=((b.length-a:Nat):Int):=by rw[wrap64 (by omega) (by omega)];omega
  have hhR:=R.g.hh
  have hHl:=R.hl
  by_cases hjl:j <= sizes.length
  ·obtain⟨k,hk⟩:∃ k,k=if hlt:j<sizes.length then min (b.length-a) (sizes[j]'hlt).toNat else b.length-a:=⟨_,rfl⟩
   have hkb:k <= b.length-a:=by rw[hk];split<;>omega
   have hke:j=sizes.length -> a+k=b.length:=fun e=>by rw[hk,dif_neg (by omega)];omega
   have hcut:b.drop a=(b.take (a+k)).drop a++b.drop (a+k):=by rw[List.drop_take,Nat.add_sub_cancel_left,<- List.drop_drop,aap]
   simp[PO.st,hjl,hsub]
   refine gT ⟨[(0,.sl 1 (ai b) none .no),(1,.sl 1 (ai sizes) none .no),(4,.v (.string (af []))),(5,.box (h.length+7) 0),(6,.v (.string (af out))),(7,.v (.int .i64 (a:Int))),(8,.v (.int .i64 (j:Int))),(9,.v (.int .i64 (k:Int)))],[],H,[]⟩ ?_ ?_
   ·by_cases hlt:j<sizes.length
    ·rw[dif_pos hlt] at hk
     have hu8:=(sizes[j]'hlt).toNat_lt
     have hmin:tY ((b.length-a:Nat):Int) [IntKind.i64.wrap (((sizes[j]'hlt).toNat:Nat):Int)]=(k:Int):=by
      rw[wrap64 (by omega) (by omega),hk]
      simp[tY]
      omega
     simp[hlt,hmin,Leq,hhR]
     omega
    ·rw[dif_neg hlt] at hk
     simp[hlt,Leq,hk,hhR]
     omega
   ·rw[hcut] at R
    obtain⟨e,S1,H1,W1,k1,w1,R1,hQ1⟩:=R.fed (by rw[List.length_drop,aaF];omega)
    have hw2:IntKind.i64.wrap ((a:Int)+(k:Int))=((a+k:Nat):Int):=by rw[wrap64 (by omega) (by omega)];omega
    have htn:((a:Int)+(k:Int)).toNat=a+k:=by omega
    simp[hw2,htn]
    refine⟨⟨by omega,by omega⟩,aa (by simp) k1 ?_⟩
    simp[hw2]
    refine vK (β:={ d:PD // Run h all (b.drop (a+k)) d.H d.S d.T d.m d.out /\ d.S.Q=[] }) (fun d=>d.1.st b sizes h.length (a+k) j) ?_ ?_
    ·have hhR1:=R1.g.hh
     have hHl1:=R1.hl
     have hw3:IntKind.i64.wrap ((a:Int)+(k:Int))=(a:Int)+(k:Int):=wrap64 (by omega) (by omega)
     simp[Leq,PD.st,hw3]
     exact⟨⟨H1,S1,T,m,out,0⟩,by dsimp only;omega,aar _,ag rfl,hhR1,⟨by dsimp only;omega,rfl⟩,⟨R1,hQ1.trans hQ⟩,w1⟩
    ·rintro⟨⟨H2,S2,T2,m2,out2,c2⟩,R2,hQ2⟩
     dsimp only at R2 hQ2
     refine vK (β:={ d:PD // Run h all (b.drop (a+k)) d.H d.S d.T d.m d.out /\ qz d.S }) (fun d=>d.1.st b sizes h.length (a+k) j) ?_ ?_
     ·simp[PD.st]
      refine ap (D:=PD) (PD.st2 b sizes h.length (a+k) j) (fun d=>Run h all (b.drop (a+k)) d.H d.S d.T d.m d.out /\ d.c+d.m <= 21) (fun d=>d.m) ⟨H2,S2,T2,m2,out2,0⟩ ⟨R2,by show 0+m2 <= 21;have:=R2.mu;omega⟩ ?_ ?_
      ·have hhR2:=R2.g.hh
       have hHl2:=R2.hl
       simp[Leq,PD.st2,hhR2]
       omega
      ·rintro⟨H4,S4,T4,m4,out4,c⟩ ⟨R4,hc⟩
       dsimp only at R4 hc
       have hc7:(c:Int)<700:=by omega
       have hhR4:=R4.g.hh
       have hHl4:=R4.hl
       have hwc:IntKind.i64.wrap ((c:Int)+1)=(c:Int)+1:=wrap64 (by omega) (by omega)
       have hk00:noFm.kind=0:=rfl
       have hf00:(aJ noFm)[0]?=some (.v (.int .u8 0)):=rfl
       have hzlt:∀(n:Nat) (f:Fm),aK n [aJ f]:=fun n f=>by simp
       by_cases hI4:qz S4
       ·obtain⟨W5,k5,w5⟩:=R4.idle hI4
        have R5:=R4.app [aJ noFm] (hzlt _ _)
        obtain⟨W6,k6,w6⟩:=R5.idle hI4
        have R6:=R5.app [aJ noFm] (hzlt _ _)
        have hhR6:=R6.g.hh
        simp[PD.st2,hc7]
        refine aa (by simp) k5 ?_
        simp[hf00,hk00]
        refine aa (by simp) k6 ?_
        simp
        have hHl6:=R6.hl
        simp at hhR6 hHl6
        have R7:Run h all (b.drop (a+k)) (H4++[aJ noFm,aJ noFm]) S4 T4 m4 out4:=by simpa using R6
        refine⟨⟨H4++[aJ noFm,aJ noFm],S4,T4,m4,out4,0⟩,⟨R7,hI4⟩,?_⟩
        simp[Leq,hhR6]
        refine⟨by omega,by omega,by omega,fun q hq=>?_⟩
        rcases hq with hq |rfl |hq
        ·exact w6 q hq
        ·omega
        ·exact w5 q hq
       ·obtain⟨f,okb,S5,T5,m5,H5,W5,k5,w5,R5,hm5,hcase⟩:=R4.busy hI4
        have R5:=R5.app [aJ f] (hzlt _ _)
        simp[PD.st2,hc7]
        refine aa (by simp) k5 ?_
        rcases hcase with rfl |⟨rfl,rfl,_,hgr⟩
        ·simp
         have hhR5:=R5.g.hh
         have hHl5:=R5.hl
         rw[aaa,aai] at hhR5 hHl5
         refine⟨⟨H5++[aJ f],S5,T5,m5,out4,c+1⟩,⟨R5,by dsimp only;omega⟩,hm5,?_⟩
         simp[Leq,hwc,hhR5]
         exact⟨by omega,by omega,by omega,w5⟩
        ·simp[hf00,hk00]
         have hhR5:=R5.g.hh
         by_cases hI5:qz S5
         ·obtain⟨W6,k6,w6⟩:=R5.idle hI5
          have R6:=R5.app [aJ noFm] (hzlt _ _)
          have hhR6:=R6.g.hh
          refine aa (by simp) k6 ?_
          simp
          have hHl6:=R6.hl
          simp at hhR6 hHl6
          have R7:Run h all (b.drop (a+k)) (H5++[aJ noFm,aJ noFm]) S5 T5 m5 out4:=by simpa using R6
          have hHl5:=R5.hl
          rw[aaa,aai] at hHl5
          refine⟨⟨H5++[aJ noFm,aJ noFm],S5,T5,m5,out4,0⟩,⟨R7,hI5⟩,?_⟩
          simp[Leq,hhR6]
          refine⟨by omega,by omega,by omega,fun q hq=>?_⟩
          rcases hq with hq |rfl |hq
          ·exact w6 q hq
          ·omega
          ·exact w5 q hq
         ·obtain⟨f6,ok6,S6,T6,m6,H6,W6,k6,w6,R6,hm6,hcase6⟩:=R5.busy hI5
          have R6:=R6.app [aJ f6] (hzlt _ _)
          rcases hcase6 with rfl |⟨_,_,hgr6,_⟩
          ·refine aa (by simp) k6 ?_
           simp
           have hhR6:=R6.g.hh
           have hHl6:=R6.hl
           have hHl5:=R5.hl
           rw[aaa,aai] at hhR6 hHl6 hHl5
           refine⟨⟨H6++[aJ f6],S6,T6,m6,out4,c+1⟩,⟨R6,by dsimp only;omega⟩,by dsimp only;omega,?_⟩
           simp[Leq,hwc,hhR6]
           refine⟨by omega,by omega,by omega,fun q hq=>?_⟩
           rcases hq with hq |rfl |hq
           ·exact w6 q hq
           ·omega
           ·exact w5 q hq
          ·rw[hgr] at hgr6;cases hgr6
     ·rintro⟨⟨H3,S3,T3,m3,out3,c3⟩,R3,hI3⟩
      dsimp only at R3 hI3
      simp[PD.st]
      refine ap (D:=PD) (PD.st3 b sizes h.length (a+k) j) (fun d=>(Run h all (b.drop (a+k)) d.H d.S d.T d.m d.out /\ qz d.S) /\ d.c+d.S.Q.length <= 2100) (fun d=>d.S.Q.length) ⟨H3,S3,T3,m3,out3,0⟩ ⟨⟨R3,hI3⟩,by dsimp only;have:=R3.few;rw[aaa] at this;omega⟩ ?_ ?_
      ·have hhR3:=R3.g.hh
       have hHl3:=R3.hl
       simp[Leq,PD.st3,hhR3]
       omega
      ·rintro⟨H4,S4,T4,m4,out4,c⟩ ⟨⟨R4,hI4⟩,hc⟩
       dsimp only at R4 hI4 hc
       have hc7:(c:Int)<5000:=by omega
       have hhR4:=R4.g.hh
       have hHl4:=R4.hl
       have hwc:IntKind.i64.wrap ((c:Int)+1)=(c:Int)+1:=wrap64 (by omega) (by omega)
       simp[PD.st3,hc7]
       cases hQ4:S4.Q with
       | nil =>
        have R5:=R4.app [bL ⟨0,[]⟩] (by simp[aO])
        have hhR5:=R5.g.hh
        have hHl5:=R5.hl
        rw[aaa,aai] at hhR5 hHl5
        refine aa (by simp) (R4.empty hQ4) ?_
        simp[hw]
        refine⟨⟨H4++[bL ⟨0,[]⟩],S4,T4,m4,out4,a+k,j+1⟩,⟨R5,by dsimp only;omega,by dsimp only;omega,fun e=>⟨hke (by dsimp only at e;omega),hI4⟩,hQ4⟩,by dsimp only;omega,?_⟩
        simp[Leq,hhR5]
        omega
       | cons mm r =>
        obtain⟨S5,H5,W5,k5,w5,R5,hQ5,hI5⟩:=R4.taken hQ4
        have R5:=R5.app [bL mm] (by simp[aO])
        refine aa (by simp) k5 ?_
        have hmm:bL mm=[.v (.int .u8 mm.type),.sl 1 (ai mm.body) none .no]:=rfl
        obtain⟨ty1,ty2⟩:=R4.ty mm (by rw[hQ4];exact aae ..)
        have hun:dO [[AV.v (.int .u8 mm.type)]]=some [aam mm.type.toNat]:=by simp[dO,ty1,ty2]
        have hlen:out4.length+(mm.body.length+1) <= 100000001*2100:=by
         have h1:=R4.say
         rw[hQ4,aaG,py] at h1
         have h2:=congrArg List.length h1
         simp only[aaa,aab] at h2
         omega
        have hhR5:=R5.g.hh
        have hHl5:=R5.hl
        rw[aaa,aai] at hhR5 hHl5
        rw[hmm] at hhR5 R5
        simp[hmm,hun]
        refine⟨by omega,by omega,⟨H5++[[.v (.int .u8 mm.type),.sl 1 (ai mm.body) none .no]],S5,T4,m4,out4++(aam mm.type.toNat::mm.body),c+1⟩,⟨⟨R5,hI5 hI4⟩,?_⟩,?_,?_⟩
        ·dsimp only
         rw[hQ5]
         rw[hQ4,aab] at hc
         omega
        ·dsimp only
         rw[hQ5]
         omega
        ·simp[Leq,hwc,hhR5]
         exact⟨by omega,by omega,by omega,w5⟩
  ·have hje:j=sizes.length+1:=by omega
   obtain⟨hab,hI⟩:=hfin hje
   rw[hab,List.drop_length] at R
   have hT:=R.st.last hI
   have hsay:=R.say
   rw[hQ,hT] at hsay
   have hsay:out=all:=by rw[<- hsay];exact(aag _).symm
   subst hsay
   simp[PO.st,hjl]
   exact⟨by omega,pw (by omega) R.same,hh⟩
def okF(m:Fm):Bool:=decide (bQ m=0)
theorem Dv{m:Fm}(h:bQ m=0):gh m=xq m:=by
 unfold gh xq tI LY
 rw[if_pos h,if_pos rfl,aad]
theorem pk:∀ l:List Fm,dw l=(l.filter okF).flatMap xq
 | []=>rfl
 | m::l=>by
  have ih:=pk l
  unfold dw at ih ⊢
  rw[aac,ih]
  by_cases h:bQ m=0
  ·rw[List.filter_cons_of_pos (by simpa[okF] using h),aac,Dv h]
  ·have e:gh m=[]:=if_neg h
   rw[List.filter_cons_of_neg (by simpa[okF] using h),e,aax]
theorem LS{α:Type}(f:α -> d5):∀(l:List α),∀ m∈l,(f m).length <= (l.flatMap f).length
 | a::l,m,hm=>by
  rw[aac,aaa]
  rcases List.mem_cons.1 hm with rfl |hm
  ·omega
  ·have:=LS f l m hm;omega
theorem Ka{m:Fm}(h:(aw m).length <= 1000000):(aw m).length <= (xq m).length:=by
 have:=qP true ⟨m.kind,aw m⟩ h
 show(aw m).length <= (tI true ⟨m.kind,aw m⟩).length
 rw[this]
 show(aw m).length <= _+4+(aw m).length
 omega
theorem Ke{l:List Fm}(hp:∀ m∈l,cP m=true)(hb:(helB++dw l).length <= 3000):∀ m∈l.filter okF,GoodF m:=fun m hm=>by
 obtain⟨h1,h2⟩:=aay.1 hm
 have hr:bQ m=0:=by simpa[okF] using h2
 obtain⟨_,q1,q0,q2,q3,q4,q5,q6⟩:=qY (hp m h1)
 have h3:=LS xq _ m hm
 rw[<- pk] at h3
 have h4:=Ka (m:=m) (by omega)
 rw[aaa] at hb
 exact⟨Ou (hp m h1) false (fun h=>by cases h),⟨by omega,by omega,by omega,by omega,fun c hc=>by have:=q1 c hc;omega⟩,by rw[FX];exact hr,by omega⟩
set_option maxHeartbeats 2000000 in
theorem vpieces_c(l:List Fm)(sizes:d5)(hok:l.length <= maxLen /\ ∀ x∈l,MM x):ae Tryz.prog 3 [.sl 10 (am aJ l) none .no,.sl 1 (ai sizes) none .no] [] (.v (.bool true)) [] []:=by
 refine ac k3 mixed (by simp[c3]) fun hh hargs=>?_
 have kf:=fun(l:List Fm) H=>BC l 20 (by omega) H
 simp[c3]
 refine aa (by simp) (kf l _) ?_
 cases hl:iA 20 l with
 | false =>
  simp
  refine aa (by simp) (oy _) ?_
  simp
 | true =>
  obtain⟨hl20,hlp⟩:=zj hl
  by_cases hs:sizes.length <= 60
  ·have hs2:¬(60:Int)<sizes.length:=by omega
   simp[hs,hs2]
   refine aa (by simp) (yQ _) ?_
   simp
   refine aa (by simp) (EL l (by omega) hlp (fun m hm=>(hok.2 m hm).2.1) _) ?_
   have hbl:=mF hlp
   have h16:helB.length=16:=by decide
   simp
   refine⟨by omega,?_⟩
   by_cases hb:(helB++dw l).length <= 3000
   ·have ka:=fun(sizes:d5) (hs:sizes.length <= 60)=>PW (helB++dw l) sizes (l.filter okF) (by rw[pk]) hb (Ke hlp hb) (aaw (List.length_filter_le _ _) hl20) hs
    rw[dC] at ka
    generalize wJ (cc (bk [] 0)++gK A0 (l.filter okF))=all at *
    rw[aaa] at hb
    have hb2:¬(3000:Int)<(helB.length:Int)+(dw l).length:=by omega
    have hlt1:=cH 0 helB
    have hlt2:=cH 0 (dw l)
    generalize ai helB=E1 at *
    generalize ai (dw l)=E2 at *
    simp[hb2]
    refine ak (ka sizes hs _) (by simp) (by simp) ?_
    simp
    refine ak (ka [] (by simp) _) (by simp) (by simp) ?_
    simp
    refine aa (by simp) (oy _) ?_
    simp
   ·rw[aaa] at hb
    have hb2:(3000:Int)<(helB.length:Int)+(dw l).length:=by omega
    simp[hb2]
    refine aa (by simp) (oy _) ?_
    simp
  ·have hs2:(60:Int)<sizes.length:=by omega
   simp[hs,hs2]
   refine aa (by simp) (oy _) ?_
   simp
end Go.Proofs.YtlbgjlmokpkkeaaGreatDoor.Ax
namespace Go.Proofs.YtlbgjlmokpkkeaaGreatDoor.servePieces
open Go.ChangeShapes Go.WideShapes Go.ChangeAt Go.RowKit
open Go.ChangeMaps (open_string shut_string)
theorem own:ownKnob Tryz.prog.godebug=none:=by kernel_rfl
theorem laidOut:laidOutB Tryz.prog=true:=by kernel_rfl
theorem et:Tryz.prog.globalNamed "errors.errorType" = some 0:=by kernel_rfl
theorem rt:(Tryz.prog.cutTypes.find? (·.1=="internal/reflectlite.rtype")).map (·.2)=some 277:=by kernel_rfl
theorem OU:((aaK 364).filter fun t=>Tryz.prog.rowNamed t [101,114,114,111,114])=[146]:=by kernel_rfl
theorem size:Tryz.prog.types.size=364:=by kernel_rfl
theorem dom(W:World)(h:laidMetH Tryz.prog Rows.servePiecesRow.laid W):Ax.Dom W:=by
 obtain⟨name,u,ty,e1,e2,e3,e4,e5⟩:=(laidMetH_iff.1 h).2 ("errors.errorType", Rows.laid_errors_errorType) (aay.2 ⟨by simp[Rows.servePiecesRow],by kernel_rfl⟩)
 have en:name=[101,114,114,111,114]:=(Option.some.inj e1).symm
 subst en
 obtain rfl:=Option.some.inj (rt.symm.trans e2)
 have hm:ty∈(aaK 364).filter fun t=>Tryz.prog.rowNamed t [101,114,114,111,114]:=aay.2 ⟨List.mem_range.2 (by rw[<- size];exact e3),e4⟩
 rw[OU] at hm
 obtain rfl:=aaC.1 hm
 have:=World.var?_cell et e5 0
 unfold Ax.Dom
 simpa using this
def data:List (String×DataW Unit):=Rows.servePiecesRow.laid.filter fun x=>x.2.handleName?.isNone
noncomputable def laidWorld (os:Os):World :=
 { World.laidAll Tryz.prog os data with heap:=(World.laidAll Tryz.prog os data).heap.modify 0 fun
   | .cells _ t frozen=>.cells #[.iface 277 (.agg #[.pointer (some ⟨4,146,none⟩)])] t frozen
   | o=>o }
set_option maxRecDepth 100000 in
theorem tV(os:Os)(args:Array Value):laidMetH Tryz.prog Rows.servePiecesRow.laid ((laidWorld os).forCall (fun _ _=>0) ⟨#[],args,[]⟩).memory :=
 laidMetH_of_parts (laidMet_of_run' 300 (by kernel_rfl) (by kernel_rfl)) (by kernel_rfl)
set_option maxRecDepth 100000 in
theorem lifted(os:Os)(started:os.Started)(H:Type)(am:TypeId×Value -> H):
  ReturnsInHanded {} Tryz.checked os 3 .any (fun w args=>(Rows.servePiecesSpec.pre am Tryz.prog Tryz.f3 Rows.servePiecesRow.domain false w args /\ laidMetH Tryz.prog Rows.servePiecesRow.laid w) /\ sizedMet am Tryz.prog Tryz.f3 (OpenSpec.ofChange Rows.servePiecesSpec) false w args) (Rows.servePiecesSpec.post am Tryz.prog Tryz.f3 false true false false):=by
 refine returnsInHanded_of_change_and (C:=Tryz.checked) (X:=fun w _=>laidMetH Tryz.prog Rows.servePiecesRow.laid w) (fun _ _ _ hh h=>h.of_heap hh) own started (by kernel_rfl) Tryz.func3
  (ChangeSpec.witness_shaped (enc:=am) (C:=Tryz.checked) (os:=os) (X:=fun w _=>laidMetH Tryz.prog Rows.servePiecesRow.laid w) false (laidWorld os) #[.slice none 0 0,.slice none 0 0] 8 (World.laidAll_os _ _ _)
   (by first |exact World.shaped_of_ZipB (by kernel_rfl) (by kernel_rfl) |exact World.shaped_of_RefB (by kernel_rfl) (by kernel_rfl)) (by kernel_rfl) (by kernel_rfl) (by kernel_rfl) (tV os _)) ?_
 intro W base args ds gs before hval0 hW hcnd hreach hL _
 have hval:∀(j:Nat) t v,Tryz.f3.params[j]?=some t -> args[j]?=some v -> Value.okWide Tryz.prog W .any base t v:=hval0
 have hW':=hW
 obtain⟨p,q,hA0,hV,rfl,hfz,hnd⟩:=hW
 have hA:DataW.TrodAll am Tryz.prog W 0 (fun _=>true) true Tryz.f3.params.toList args.toList ds p:=hA0
 rw[Tryz.params3] at hA hval
 obtain⟨v0,vs0,d0,ds0,p0,q0,hargs,rfl,rfl,h0,r0⟩:=trodAll_cons hA
 obtain⟨v1,vs1,d1,ds1,p1,q1,rfl,rfl,rfl,h1,r1⟩:=trodAll_cons r0
 obtain⟨rfl,rfl,rfl⟩:=trodAll_nil r1
 obtain rfl:args=#[v0,v1]:=by cases args;simp_all
 obtain⟨rfl,rfl⟩:=trodVars_none hV
 have k0:=h0
 have lt0:∀ x∈p0,x.block<W.heap.size:=by obtain⟨m,hm⟩:=k0;exact DataW.trod_lt m _ _ _ hm
 obtain⟨a0,ok0,s0⟩:=Ax.arg_slice Tryz.underlying22 Ax.sh_fmCL (hval 0 22 v0 rfl rfl) h0
 have k1:=h1
 have lt1:∀ x∈p1,x.block<W.heap.size:=by obtain⟨m,hm⟩:=k1;exact DataW.trod_lt m _ _ _ hm
 obtain⟨a1,ok1,s1⟩:=Ax.arg_slice Tryz.underlying23 Ax.sh_bytes (hval 1 23 v1 rfl rfl) h1
 clear hA0 hval0 hreach
 refine(Ax.law_walk (w:=W) (dom W hL) (Ax.vpieces_c a0 a1 ok0) (by simp) (.cons s0 (.cons s1 .nil))).mono fun e W' ⟨he,bel⟩=>?_
 subst he
 exact⟨_,rfl,_,_,_,[],_,[],hW',trodAll_mk1 (shut_bool Tryz.underlying4 _),(trodAll_cons_mk (Below.trod laidOut (by kernel_rfl) (of_decide_eq_true (by kernel_rfl)) k0 bel lt0) (trodAll_cons_mk (Below.trod laidOut (by kernel_rfl) (of_decide_eq_true (by kernel_rfl)) k1 bel lt1) trodAll_mk0)),rfl,bel.frame _,fun h=>by cases h⟩
theorem over:Rows.servePiecesRow.holds Tryz.pinned (OpenSpec.ofChange Rows.servePiecesSpec) :=
 OpenClaim.holds_of_wide 3 Tryz.f3 rfl rfl rfl rfl rfl rfl rfl ⟨rfl,rfl,rfl,rfl,rfl⟩ rfl rfl rfl rfl rfl (by kernel_rfl) Tryz.func3 (by kernel_rfl)
  (of_decide_eq_true (by kernel_rfl)) (by unfold Func.isWrapper;first |(rw[if_pos (by decide +kernel)];kernel_rfl) |(rw[if_neg (by decide +kernel)];exact⟨rfl,rfl⟩))
  (fun os started H am _=>lifted os started H am)
theorem proved:Rows.ServePiecesCardSaid :=
 Claim7.holds_tied_plain_at .later [] [.data,.handle,.pinned] true (true,"c9b2314fb9163c9be69c8403b613e7aa069144ca84db3d181c1d08fd86481334") true over (fun _ h=>by cases h) (by kernel_rfl) (fun _ h=>by cases h) servePieces_row_tie rfl ⟨rfl,rfl⟩ (by kernel_rfl) rfl
  (fun f fn hf hfn=>by
   obtain rfl:f=3:=Option.some.inj ((show Tryz.prog.funcNamed "remuda/remudalaw31.ServePieces" = some 3 by kernel_rfl).symm.trans hf) |>.symm
   obtain rfl:fn=Tryz.f3:=(Option.some.inj (Tryz.func3.symm.trans hfn)).symm
   exact⟨by kernel_rfl,fun j t ht=>by
    rw[Tryz.params3] at ht
    have hm:t∈[22,23]:=by simpa using Array.mem_of_getElem? ht
    have hall:([22,23].all fun u=>!Tryz.prog.wantsStandIn u)=true:=by kernel_rfl
    exact(show Tryz.prog.wantsStandIn t=false by simpa using aal.1 hall t hm)⟩)
  (by kernel_rfl)
#print axioms proved
end Go.Proofs.YtlbgjlmokpkkeaaGreatDoor.servePieces
