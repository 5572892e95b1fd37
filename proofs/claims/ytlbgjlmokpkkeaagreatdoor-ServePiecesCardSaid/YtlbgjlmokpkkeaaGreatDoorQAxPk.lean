import Derived.Test.YtlbgjlmokpkkeaaGreatDoorQAxPa
import Derived.Test.YtlbgjlmokpkkeaaGreatDoorQAxSt
open List renaming getElem?_append_left -> aaa, mem_singleton -> aab, getElem?_set_ne -> aac, getElem?_set_self -> aad, getElem?_eq_some_iff -> aae, mem_cons_self -> aaf, mem_cons -> aag, length_set -> aai, getElem?_append_right -> aaj, replicate -> aak, mem_flatMap -> aal, length_append -> aam, eq_of_mem_replicate -> aan, set_append_left -> aao, mem_of_getElem? -> aap, nodup_nil -> aaq, getElem?_take -> aar, getElem?_drop -> aas, ext_getElem? -> aat, length_drop -> aau, mem_of_mem_eraseP -> aaw, take_of_length_le -> aax, length_replicate -> aay, getElem?_eq_none -> aaz, getElem?_of_mem -> aaA, mem_map -> aaC, take -> aaD, getElem?_map -> aaE, drop_zero -> aaF
open Nat renaming le_add_right -> aah, le_refl -> aav
open Option renaming isSome_some -> aaB
set_option linter.all false
namespace Go.Proofs.YtlbgjlmokpkkeaaGreatDoor.Ax
open Go.RowKit Go By
set_option maxRecDepth 10000
theorem la(l:List Int)(hl:l.length <= 1000000)(h:d4):ae Tryz.prog 136 [.sl 1 (am aX l) none .no] h (.sl 1 (am aX l) none .no) h []:=by
 refine wh (pre:=[]) (post:=[]) (fun he=>?_) ?_
 ·have:l=[]:=by cases l with |nil=>rfl |cons _ _=>simp[am] at he
  subst this
  refine ac SJ mixed (by simp[FO]) fun hh hargs=>?_
  simp[FO,hh,am]
 ·refine ac SJ mixed (by simp[FO]) fun hh hargs=>?_
  simp[FO,hh]
  refine dr ?_
  simp[hh]
  omega
theorem yZ(L:List (List Cl))(hne:L≠[]):frzOk (L.map cL):=by
 cases L with
 | nil=>exact absurd rfl hne
 | cons x r=>exact trivial
theorem vl(L:List (List Cl))(i:Nat):(AV.bsl i 0 1 L.length).frz i (L.map cL)=.sl 1 (am bN L) (some false) .no:=by
 rw[<- pE]
 exact Cw (c:=bN) (k:=1) (fun _=>rfl) L i L.length rfl
theorem xL{h:d4}{x:AV}{L:List (List Cl)}(hx:RowsX h x L)(hf:RowsFit L):ae Tryz.prog 202 [x] h (.sl 1 (am bN L) none .no) h []:=by
 by_cases hne:L=[]
 ·subst hne
  exact pT hx
 have hid:=hx.id
 have hlt:=hx.lt
 have hz:=vl L h.length
 have hl1:=hf.1
 refine cf (XCode.cuts [false,false,true] c202.code) OB rfl mixed (by simp[c202]) fun hh hargs=>?_
 have hF:=fun n=>gE n L
 simp[c202,hid]
 refine aa (by simpa using hid) (kK hx hne (by omega)) ?_
 simp
 refine tC h.length (L.map cL) ⟨[(3,.sl 1 (am bN L) none .no)],[],h,[]⟩ (aav _) (yZ L hne) ?_ ?_
 ·simp
  refine ap (D:=Nat) (fun j=>⟨[(3,.bsl h.length 0 1 L.length),(8,.bsl h.length 0 1 L.length),(9,.v (.int .i64 L.length)),(10,.v (.int .i64 j))],[],h++[L.map cL],[]⟩) (fun j=>j <= L.length) (fun j=>L.length-j) 0 (by simp) ?_ ?_
  ·simp[Leq,hh,hF]
  ·intro j hj
   by_cases hlt:j<L.length
   ·have hw:IntKind.i64.wrap ((j:Int)+1)=(j:Int)+1:=wrap64 (by omega) (by omega)
    obtain⟨f1,f2⟩:=hf.2 _ (List.getElem_mem hlt)
    have hsame:(L.map cL).set j (cL L[j])=L.map cL:=by
     refine aat fun q=>?_
     rw[List.getElem?_set]
     split
     ·rename_i e;subst e;simp[hlt]
     ·rfl
    simp[hlt,CS] at hsame ⊢
    refine aa (by simp) (dW L[j] f1 f2 _) ?_
    have hnext:j+1 <= L.length:=hlt
    simp[hlt,hsame,hw,hnext]
    refine⟨j+1,by omega,by omega,?_⟩
    simp[Leq,hh,hF]
   ·have:j=L.length:=by omega
    subst this
    simp[Leq,hh,hz]
 ·simp[hh]
structure Pt where
 text:d5
 oids:List Int
 ps:List Cl
 rows:List (List Cl)
 ran:Bool
 over:Bool
def bv(p:Pt)(x:AV):List AV:=[.v (.string (af p.text)),.sl 1 (am aX p.oids) none .no,.sl 2 (am aq p.ps) none .no,x,.v (.bool p.ran),.v (.bool p.over)]
def er(p:Pt):List AV:=bv p (.sl 1 (am bN p.rows) none .no)
def Pt.fit(p:Pt):Prop:=p.text.length <= 1000000 /\ p.oids.length <= 1000000 /\ (p.ps.length <= 1000000 /\ ∀ c∈p.ps,c.2.length <= 140737488351232) /\ RowsFit p.rows
theorem Ba{n:Nat}{p:Pt}{x:AV}(hx:x.lt n):cb n (bv p x):=by simp[bv,hx]
theorem mZ{p:Pt}{x:AV}(hx:x.idOf=none):∀ c∈bv p x,c.idOf=none:=by simp[bv,hx]
theorem yP{h:d4}{p:Pt}{x:AV}(hx:RowsX h x p.rows)(hf:p.fit):ae Tryz.prog 198 [.agg (bv p x)] h (.agg (er p)) h []:=by
 obtain⟨f1,f2,⟨f3,f3'⟩,f4⟩:=hf
 have hid:=hx.id
 have hun:=hx.unown
 have hce:=hx.cells
 refine ac SP mixed (by simp[FS]) fun hh hargs=>?_
 simp[FS,bv,hun]
 refine aa (by simp) (dI p.text (by omega) _) ?_
 simp
 refine aa (by simp) (la p.oids (by omega) _) ?_
 simp
 refine aa (by simp) (dW p.ps (by omega) f3' _) ?_
 simp[hid,hun,hce]
 refine aa (by simpa using hid) (xL (hx.app _) f4) ?_
 simp[hid,hun,hce,er,bv,hh,ag]
def qW(h:d4)(p:Pt):d4:=h++[bv p (.bsl (h.length+2) 0 1 p.rows.length),bv p (.bsl (h.length+2) 0 1 p.rows.length),p.rows.map cL]
theorem GZ{h:d4}{p:Pt}{x:AV}(hx:RowsX h x p.rows)(hf:p.fit)(hne:p.rows≠[]):ae Tryz.prog 198 [.agg (bv p x)] h (.agg (bv p (.bsl (h.length+2) 0 1 p.rows.length))) (qW h p) []:=by
 obtain⟨f1,f2,⟨f3,f3'⟩,f4⟩:=hf
 have hid:=hx.id
 have hun:=hx.unown
 have hce:=hx.cells
 refine ac SP mixed (by simp[FS]) fun hh hargs=>?_
 have hF:=gE
 have hl:=aF (aah h.length 3) hh
 simp[FS,bv,hun]
 refine aa (by simp) (dI p.text (by omega) _) ?_
 simp
 refine aa (by simp) (la p.oids (by omega) _) ?_
 simp
 refine aa (by simp) (dW p.ps (by omega) f3' _) ?_
 simp[hid,hun,hce]
 refine aa (by simpa using hid) (pU (hx.app _) hne f4) ?_
 simp[hid,hun,hce,qW,bv,hh,hF,hl]
theorem GY{h:d4}{p:Pt}{x:AV}(hx:RowsX h x p.rows)(hf:p.fit)(he:p.rows=[]):ae Tryz.prog 198 [.agg (bv p x)] h (.agg (bv p (.sl 1 [] none .no))) h []:=by
 have:=yP hx hf
 unfold er at this
 rwa [he] at this
structure PV where
 v:Nat
 p:Pt
 b:Nat
 o:Nat
def xr(x:PV):List AV:=[.box x.v 0]
theorem KK(x:PV):(xr x).length=1:=rfl
theorem ve(x:PV):∀ c∈xr x,c.idOf=none:=fun c hc=>by unfold xr at hc;rw[aab.1 hc];rfl
def ll(x:PV):AV:=if x.p.rows=[] then .sl 1 [] none .no else .bsl x.b x.o 1 x.p.rows.length
def bg(x:PV):List Nat:=if x.p.rows=[] then[x.v] else[x.v,x.b]
theorem dN(x:PV):x.v∈bg x:=by unfold bg;split<;>simp
theorem ob{x:PV}(h:x.p.rows≠[]):x.b∈bg x:=by unfold bg;rw[if_neg h];simp
theorem Hx(x:PV):(ll x).idOf=none:=by unfold ll;split<;>rfl
structure Ps where
 a:Nat
 clock:Nat
 e:List (KE PV)
def Ps.cells(S:Ps):List AV:=bc S.clock (S.e.map (KE.ent xr))
def Ps.get(S:Ps)(k:d5):Option PV:=KE.get k S.e
def Ps.put(S:Ps)(k:d5)(x:PV):Ps:={ S with clock:=KE.tick k S.clock S.e,e:=KE.put k S.clock x S.e }
def Ps.del(S:Ps)(k:d5):Ps:={ S with e:=KE.del k S.e }
def Ps.clear(S:Ps):Ps:={ S with e:=[] }
def Ps.vars(S:Ps):List Nat:=S.a::S.e.flatMap fun x=>bg x.val
theorem Ps.of_cells(S:Ps):mapOf 1 S.cells=some (S.clock,S.e.map (KE.ent xr)):=KE.ents_of KK _ _
theorem Ps.keys(S:Ps):gw none (S.e.map (KE.ent xr)):=KE.ents_keys ve _
theorem Ps.plain(S:Ps):∀ c∈S.cells,c.idOf=none:=KE.ents_plain ve _ _
theorem Ps.mem_vars{S:Ps}{x:KE PV}(hx:x∈S.e){q:Nat}(hq:q∈bg x.val):q∈S.vars:=List.mem_cons_of_mem _ (aal.2 ⟨x,hx,hq⟩)
structure PsAt (h:d4) (i:Nat) (S:Ps):Prop where
 top:h[i]?=some [.mp S.a 1 true]
 ents:h[S.a]?=some S.cells
 each:∀ x∈S.e,h[x.val.v]?=some (bv x.val.p (ll x.val))
 rows:∀ x∈S.e,x.val.p.rows≠[] -> ∃ cs,h[x.val.b]?=some cs /\ (cs.drop x.val.o).take x.val.p.rows.length=x.val.p.rows.map cL /\ x.val.o+x.val.p.rows.length <= cs.length
 sep:∀ x∈S.e,∀ y∈S.e,x.key≠y.key -> ∀ q∈bg x.val,q∉bg y.val
 own:∀ x∈S.e,(bg x.val).Nodup /\ i∉bg x.val /\ S.a∉bg x.val
 apart:i≠S.a
 lt:aK h.length h
structure PsOk (S:Ps):Prop where
 ok:KE.Ok S.clock S.e
 fit:∀ x∈S.e,x.val.p.fit
theorem de{β:Type}{clock:Nat}{l:List (KE β)}(ho:KE.Ok clock l){k:d5}{v:β}{y:KE β}(hy:y∈KE.put k clock v l):(y.key=k /\ y.val=v) \/ (y.key≠k /\ y∈l):=by
 unfold KE.put at hy
 cases hf:KE.find k l with
 | some s =>
  rw[hf] at hy
  simp only[aaB,if_true] at hy
  obtain⟨x,hx,rfl⟩:=aaC.1 hy
  by_cases e:x.key=k
  ·left;unfold KE.upd;rw[if_pos e];exact⟨e,rfl⟩
  ·right;unfold KE.upd;rw[if_neg e];exact⟨e,hx⟩
 | none =>
  rw[hf] at hy
  rw[if_neg (by simp)] at hy
  rcases List.mem_append.1 hy with hy |hy
  ·exact .inr ⟨KE.find_none hf y hy,hy⟩
  ·rw[aab.1 hy];exact .inl ⟨rfl,rfl⟩
theorem dl{β:Type}{l:List (KE β)}{k:d5}{v:β}(hg:KE.get k l=some v):∃ x∈l,x.key=k /\ x.val=v:=by
 unfold KE.get at hg
 cases hf:KE.find k l with
 | none=>rw[hf] at hg;cases hg
 | some x =>
  rw[hf] at hg
  injection hg with hg
  exact⟨x,(KE.find_mem hf).1,(KE.find_mem hf).2,hg⟩
theorem PsOk.put{S:Ps}(ho:PsOk S)(k:d5){x:PV}(hx:x.p.fit):PsOk (S.put k x):=⟨KE.put_ok ho.ok k x,fun y hy=>by
 rcases de ho.ok hy with⟨_,e⟩ |⟨_,hy⟩
 ·rw[e];exact hx
 ·exact ho.fit y hy⟩
theorem PsOk.del{S:Ps}(ho:PsOk S)(k:d5):PsOk (S.del k):=⟨KE.del_ok ho.ok k,fun y hy=>ho.fit y ((KE.mem_del ho.ok).1 hy).1⟩
theorem PsOk.clear{S:Ps}:PsOk S.clear:=⟨⟨aaq,aaq,fun x hx=>by cases hx⟩,fun x hx=>by cases hx⟩
theorem PsOk.gfit{S:Ps}(ho:PsOk S){k:d5}{x:PV}(hg:S.get k=some x):x.p.fit:=by
 obtain⟨y,hy,_,rfl⟩:=dl hg
 exact ho.fit y hy
section
variable {h:d4} {i:Nat} {S:Ps}
theorem PsAt.i_lt(hr:PsAt h i S):i<h.length:=(aae.1 hr.top).1
theorem PsAt.a_lt(hr:PsAt h i S):S.a<h.length:=(aae.1 hr.ents).1
theorem PsAt.v_lt(hr:PsAt h i S){x:KE PV}(hx:x∈S.e):x.val.v<h.length:=(aae.1 (hr.each x hx)).1
theorem PsAt.b_lt(hr:PsAt h i S){x:KE PV}(hx:x∈S.e)(hne:x.val.p.rows≠[]):x.val.b<h.length:=by
 obtain⟨cs,h1,_⟩:=hr.rows x hx hne
 exact(aae.1 h1).1
theorem PsAt.var_lt(hr:PsAt h i S){q:Nat}(hq:q∈S.vars):q<h.length:=by
 unfold Ps.vars at hq
 rcases aag.1 hq with rfl |hq
 ·exact hr.a_lt
 ·obtain⟨x,hx,hq⟩:=aal.1 hq
  unfold bg at hq
  split at hq
  ·rw[aab.1 hq];exact hr.v_lt hx
  ·rename_i hne
   rcases aag.1 hq with rfl |hq
   ·exact hr.v_lt hx
   ·rw[aab.1 hq];exact hr.b_lt hx hne
theorem PsAt.i_not(hr:PsAt h i S):i∉S.vars:=fun hq=>by
 unfold Ps.vars at hq
 rcases aag.1 hq with e |hq
 ·exact hr.apart e
 ·obtain⟨x,hx,hq⟩:=aal.1 hq
  exact(hr.own x hx).2.1 hq
theorem PsAt.rowsX(hr:PsAt h i S){x:KE PV}(hx:x∈S.e):RowsX h (ll x.val) x.val.p.rows:=by
 unfold ll
 split
 ·rename_i e;rw[e];exact .inl rfl
 ·rename_i hne
  obtain⟨cs,h1,h2,h3⟩:=hr.rows x hx hne
  exact RowsX.bsl h1 h2 h3
theorem PsAt.move(hr:PsAt h i S){h':d4}(hi:h'[i]?=h[i]?)(hs:∀ q∈S.vars,h'[q]?=h[q]?)(hlt:aK h'.length h'):PsAt h' i S :=
 ⟨hi.trans hr.top,(hs _ (aaf ..)).trans hr.ents,fun x hx=>(hs _ (Ps.mem_vars hx (dN _))).trans (hr.each x hx),fun x hx hne=>by rw[hs _ (Ps.mem_vars hx (ob hne))];exact hr.rows x hx hne,hr.sep,hr.own,hr.apart,hlt⟩
theorem PsAt.app(hr:PsAt h i S)(xs:d4)(hx:aK (h.length+xs.length) xs):PsAt (h++xs) i S :=
 hr.move (aaa hr.i_lt) (fun q hq=>aaa (hr.var_lt hq)) (by rw[cD,aam];exact⟨aF (aah _ _) hr.lt,hx⟩)
theorem PsAt.put(hr:PsAt h i S)(ho:PsOk S){h':d4}{k:d5}{x:PV}(hv:h'[x.v]?=some (bv x.p (ll x)))
  (hrw:x.p.rows≠[] -> ∃ cs,h'[x.b]?=some cs /\ (cs.drop x.o).take x.p.rows.length=x.p.rows.map cL /\ x.o+x.p.rows.length <= cs.length) (hent:h'[S.a]?=some (S.put k x).cells)
  (hsame:∀ q<h.length,q≠S.a -> (∀ y∈S.e,y.key=k -> q∉bg y.val) -> h'[q]?=h[q]?) (hnew:∀ q∈bg x,h.length <= q \/ ∃ y∈S.e,y.key=k /\ q∈bg y.val) (hnd:(bg x).Nodup) (hlt:aK h'.length h'):PsAt h' i (S.put k x):=by
 have other:∀ y∈S.e,y.key≠k -> ∀ q∈bg y.val,h'[q]?=h[q]?:=fun y hy hk q hq =>
  hsame q (hr.var_lt (Ps.mem_vars hy hq)) (fun e=>by subst e;exact(hr.own y hy).2.2 hq) fun z hz hzk hqz=>hr.sep y hy z hz (by rw[hzk];exact hk) q hq hqz
 have nof:∀ q∈bg x,∀ z∈S.e,z.key≠k -> q∉bg z.val:=fun q hq z hz hzk hqz=>by
  rcases hnew q hq with h1 |⟨y,hy,hyk,hqy⟩
  ·have:=hr.var_lt (Ps.mem_vars hz hqz);omega
  ·exact hr.sep z hz y hy (by rw[hyk];exact hzk) q hqz hqy
 refine⟨?_,hent,fun y hy=>?_,fun y hy hne=>?_,fun y hy z hz hyz q hq=>?_,fun y hy=>?_,hr.apart,hlt⟩
 ·rw[hsame i hr.i_lt hr.apart fun y hy _=>(hr.own y hy).2.1];exact hr.top
 ·rcases de ho.ok hy with⟨_,e⟩ |⟨hk,hy⟩
  ·rw[e];exact hv
  ·rw[other y hy hk _ (dN _)];exact hr.each y hy
 ·rcases de ho.ok hy with⟨_,e⟩ |⟨hk,hy⟩
  ·rw[e] at hne ⊢;exact hrw hne
  ·rw[other y hy hk _ (ob hne)];exact hr.rows y hy hne
 ·rcases de ho.ok hy with⟨h1,e⟩ |⟨h1,hy⟩<;>rcases de ho.ok hz with⟨h2,e2⟩ |⟨h2,hz⟩
  ·exact absurd (h1.trans h2.symm) hyz
  ·rw[e] at hq;exact nof q hq z hz h2
  ·rw[e2];exact fun hqx=>nof q hqx y hy h1 hq
  ·exact hr.sep y hy z hz hyz q hq
 ·rcases de ho.ok hy with⟨_,e⟩ |⟨hk,hy⟩
  ·rw[e]
   refine⟨hnd,fun hi=>?_,fun ha=>?_⟩
   ·rcases hnew i hi with h1 |⟨y,hy,_,hqy⟩
    ·have:=hr.i_lt;omega
    ·exact(hr.own y hy).2.1 hqy
   ·rcases hnew S.a ha with h1 |⟨y,hy,_,hqy⟩
    ·have:=hr.a_lt;omega
    ·exact(hr.own y hy).2.2 hqy
  ·exact hr.own y hy
theorem PsAt.less(hr:PsAt h i S){S':Ps}(ha:S'.a=S.a)(hs:∀ x∈S'.e,x∈S.e)(hlt:cb h.length S'.cells):PsAt (h.set S.a S'.cells) i S':=by
 refine⟨?_,?_,fun x hx=>?_,fun x hx hne=>?_,fun x hx y hy=>hr.sep x (hs x hx) y (hs y hy),fun x hx=>by rw[ha];exact hr.own x (hs x hx),by rw[ha];exact hr.apart,?_⟩
 ·rw[aac (Ne.symm hr.apart),ha];exact hr.top
 ·rw[ha,aad hr.a_lt]
 ·rw[aac (fun e=>(hr.own x (hs x hx)).2.2 (by rw[e];exact dN _))];exact hr.each x (hs x hx)
 ·rw[aac (fun e=>(hr.own x (hs x hx)).2.2 (by rw[e];exact ob hne))];exact hr.rows x (hs x hx) hne
 ·rw[aai];exact ao hr.lt hlt
theorem PsAt.cells_lt(hr:PsAt h i S){S':Ps}(hs:∀ x∈S'.e,x.val.v<h.length):cb h.length S'.cells:=ss fun e he=>by
 obtain⟨s,hs2,rfl⟩:=aaC.1 he
 have:=hs s hs2
 simp[KE.ent,xr,this]
def pN(f:FuncId)(args:List AV)(h:d4)(i:Nat)(S:Ps)(r:AV)(S':Ps):Prop :=
 ∃ h' wr,ae Tryz.prog f args h r h' wr /\ PsAt h' i S' /\ (∀ q∈wr,q<h.length -> q∈S.vars) /\ h.length <= h'.length /\ (∀ q<h.length,q∉S.vars -> h'[q]?=h[q]?) /\ (∀ q∈S'.vars,q∈S.vars \/ h.length <= q) /\ (eF h -> eF h')
theorem Hf{S:Ps}{k:d5}{x x':PV}(hg:S.get k=some x)(ho:PsOk S)(hv:x'.v=x.v):(S.put k x').cells=S.cells:=by
 obtain⟨y,hy,hk,rfl⟩:=dl hg
 have hf:=KE.find_of ho.ok hy
 rw[hk] at hf
 unfold Ps.put Ps.cells KE.tick KE.put
 dsimp only
 rw[hf]
 simp only[aaB,if_true]
 rw[List.map_map]
 congr 1
 refine List.map_congr_left fun z hz=>?_
 show KE.ent xr (KE.upd k x' z)=KE.ent xr z
 unfold KE.upd
 split
 ·rename_i e
  have:z=y:=lc ho.ok.keys hz hy (e.trans hk.symm)
  subst this
  unfold KE.ent xr
  simp only[hv]
 ·rfl
theorem sL{S:Ps}(ho:PsOk S){k:d5}{x':PV}{n:Nat}(hnew:∀ q∈bg x',n <= q \/ ∃ y∈S.e,y.key=k /\ q∈bg y.val):∀ q∈(S.put k x').vars,q∈S.vars \/ n <= q:=fun q hq=>by
 unfold Ps.vars at hq
 rcases aag.1 hq with e |hq
 ·exact .inl (aag.2 (.inl e))
 ·obtain⟨y,hy,hq⟩:=aal.1 hq
  rcases de ho.ok hy with⟨_,e⟩ |⟨_,hy⟩
  ·rw[e] at hq
   rcases hnew q hq with h1 |⟨z,hz,_,hqz⟩
   ·exact .inr h1
   ·exact .inl (Ps.mem_vars hz hqz)
  ·exact .inl (Ps.mem_vars hy hq)
theorem uK{S S':Ps}(ha:S'.a=S.a)(hs:∀ x∈S'.e,x∈S.e){n:Nat}:∀ q∈S'.vars,q∈S.vars \/ n <= q:=fun q hq=>by
 unfold Ps.vars at hq
 rcases aag.1 hq with e |hq
 ·exact .inl (aag.2 (.inl (e.trans ha)))
 ·obtain⟨y,hy,hq⟩:=aal.1 hq
  exact .inl (Ps.mem_vars (hs y hy) hq)
end
section
variable {h:d4} {i:Nat} {S:Ps}
theorem Ps.found(S:Ps)(k:d5):Ax.found true false [.v (.pointer none)] (AEnt.find (.string (af k)) (S.e.map (KE.ent xr)) 0)=(match S.get k with |some x=>.box x.v 0 |none=>.v (.pointer none)):=by
 rw[KE.found_eq]
 unfold Ps.get
 cases KE.get k S.e<;>rfl
theorem CJ(hr:PsAt h i S)(k:d5):ae Tryz.prog 127 [.box i 0,.v (.string (af k))] h (match S.get k with |some x=>.box x.v 0 |none=>.v (.pointer none)) h []:=by
 have h1:=hr.top
 have h2:=hr.ents
 have h3:=S.of_cells
 have h4:=S.keys
 have h5:=S.found k
 have hv:∀ x,S.get k=some x -> x.v<h.length:=fun x hx=>by
  obtain⟨y,hy,_,rfl⟩:=dl hx
  exact hr.v_lt hy
 refine ac Xf mixed (by simp[JF]) fun hh hargs=>?_
 cases hg:S.get k with
 | none =>
  rw[hg] at h5
  simp only at h5
  simp[JF,h1,h2,h3,h4,h5,hh]
 | some x =>
  rw[hg] at h5
  simp only at h5
  have:=hv x hg
  simp[JF,h1,h2,h3,h4,h5,hh,this]
theorem nY(hr:PsAt h i S){k:d5}(hg:S.get k=none):ae Tryz.prog 127 [.box i 0,.v (.string (af k))] h (.v (.pointer none)) h []:=by
 have:=CJ hr k
 rwa [hg] at this
theorem iu(hr:PsAt h i S){k:d5}{x:PV}(hg:S.get k=some x):ae Tryz.prog 127 [.box i 0,.v (.string (af k))] h (.box x.v 0) h []:=by
 have:=CJ hr k
 rwa [hg] at this
theorem O4(h:d4):ae Tryz.prog 52 [] h (.box (h.length+1) 0) (h++[bc 0 [],[.mp h.length 1 true]]) []:=by
 refine ac ZN mixed (by simp[VV]) fun hh hargs=>?_
 have hl:=aF (aah h.length 2) hh
 simp[VV,hl,bc]
def Jj:Pt:=⟨[],[],[],[],false,false⟩
theorem O0(hr:PsAt h i S){k:d5}(hg:S.get k=none):ae Tryz.prog 200 [.box i 0,.v (.string (af k))] h (.tup [.agg (er Jj),.v (.bool false)]) h []:=by
 have hr':=hr.app [[AV.v (.string (af [])),.sl 0 [] (some true) .exact,.sl 0 [] (some true) .exact,.sl 0 [] (some true) .exact,.v (.bool false),.v (.bool false)]] (by simp)
 refine ac SQ mixed (by simp[FT]) fun hh hargs=>?_
 simp[FT]
 refine aa (by simp) (nY hr' hg) ?_
 simp[er,bv,Jj,hh,ag]
theorem O1(hr:PsAt h i S)(ho:PsOk S){k:d5}{x:PV}(hg:S.get k=some x):ae Tryz.prog 200 [.box i 0,.v (.string (af k))] h (.tup [.agg (er x.p),.v (.bool true)]) h []:=by
 have hr':=hr.app [[AV.v (.string (af [])),.sl 0 [] (some true) .exact,.sl 0 [] (some true) .exact,.sl 0 [] (some true) .exact,.v (.bool false),.v (.bool false)]] (by simp)
 have hfit:=ho.gfit hg
 obtain⟨y,hy,hk,rfl⟩:=dl hg
 have hv:=hr'.each y hy
 have hrx:=hr'.rowsX hy
 have hun:(bv y.val.p (ll y.val)).map AV.unown=bv y.val.p (ll y.val):=by simp[bv,hrx.unown]
 have hlen:(bv y.val.p (ll y.val)).length=6:=rfl
 have htk:aaD 6 (bv y.val.p (ll y.val))=bv y.val.p (ll y.val):=rfl
 have htm:aaD 6 (List.map AV.unown (bv y.val.p (ll y.val)))=bv y.val.p (ll y.val):=by rw[hun,htk]
 have hidx:∀ c∈[AV.agg (bv y.val.p (ll y.val))],c.idOf=none:=fun c hc=>by rw[aab.1 hc];rfl
 refine ac SQ mixed (by simp[FT]) fun hh hargs=>?_
 simp[FT]
 refine aa (by simp) (iu hr' hg) ?_
 simp[hv,hlen,hun,htk,htm]
 refine aa hidx (yP hrx hfit) ?_
 simp[er,bv,hh,ag]
theorem OY(hr:PsAt h i S){k:d5}(hg:S.get k=none):ae Tryz.prog 93 [.box i 0,.v (.string (af k))] h (.v (.bool false)) h []:=by
 refine ac Y8 mixed (by simp[Sj]) fun hh hargs=>?_
 simp[Sj]
 refine aa (by simp) (nY hr hg) ?_
 simp[hh]
theorem OZ(hr:PsAt h i S){k:d5}{x:PV}(hg:S.get k=some x):ae Tryz.prog 93 [.box i 0,.v (.string (af k))] h (.v (.bool true)) (h.set S.a (S.del k).cells) [S.a]:=by
 have h1:=hr.top
 have h2:=hr.ents
 have h3:=S.of_cells
 have h4:=S.keys
 have hdel:bc S.clock (AEnt.del (.string (af k)) (S.e.map (KE.ent xr)))=(S.del k).cells:=by rw[KE.del_eq];rfl
 have hl2:cb h.length (S.del k).cells:=hr.cells_lt fun x hx=>hr.v_lt (aaw hx)
 refine ac Y8 mixed (by simp[Sj]) fun hh hargs=>?_
 simp[Sj]
 refine aa (by simp) (iu hr hg) ?_
 simp[h1,h2,h3,h4,hdel,ao,hh,hl2,bA]
theorem G5(hr:PsAt h i S)(k:d5):pN 93 [.box i 0,.v (.string (af k))] h i S (.v (.bool (S.get k).isSome)) (S.del k):=by
 cases hg:S.get k with
 | none =>
  have e:S.del k=S:=by
   unfold Ps.del
   have:KE.del k S.e=S.e:=List.eraseP_of_forall_not fun x hx=>by
    have:=KE.get_none_iff.1 hg x hx
    simpa using this
   rw[this]
  rw[e]
  exact⟨h,[],OY hr hg,hr,(fun q hq=>by cases hq),aav _,(fun _ _ _=>rfl),(fun q hq=>.inl hq),fun h=>h⟩
 | some x =>
  have hs:∀ x∈(S.del k).e,x∈S.e:=fun x hx=>aaw hx
  refine⟨_,_,OZ hr hg,hr.less rfl hs (hr.cells_lt fun x hx=>hr.v_lt (hs x hx)),fun q hq _=>by rw[aab.1 hq];exact aaf ..,by simp,fun q hq hn=>?_,uK (S:=S) (S':=S.del k) rfl hs,fun hp=>bY hp (S.del k).plain _⟩
  exact aac fun e=>hn (by rw[<- e];exact aaf ..)
theorem GX(hr:PsAt h i S):ae Tryz.prog 92 [.box i 0] h (.tup []) (h.set S.a S.clear.cells) [S.a]:=by
 have h1:=hr.top
 have h2:=hr.ents
 have h3:=S.of_cells
 have hc:S.clear.cells=bc S.clock []:=rfl
 have hl2:cb h.length S.clear.cells:=hr.cells_lt fun x hx=>by cases hx
 rw[hc] at hl2 ⊢
 refine ac k92 mixed (by simp[Wb]) fun hh hargs=>?_
 simp[Wb,h1,h2,h3,ao,hh,hl2,bA]
theorem sE(hr:PsAt h i S):pN 92 [.box i 0] h i S (.tup []) S.clear:=by
 have hs:∀ x∈S.clear.e,x∈S.e:=fun x hx=>by cases hx
 refine⟨_,_,GX hr,hr.less rfl hs (hr.cells_lt fun x hx=>hr.v_lt (hs x hx)),fun q hq _=>by rw[aab.1 hq];exact aaf ..,by simp,fun q hq hn=>?_,uK (S:=S) (S':=S.clear) rfl hs,fun hp=>bY hp S.clear.plain _⟩
 exact aac fun e=>hn (by rw[<- e];exact aaf ..)
theorem A9(hr:PsAt h i S){k:d5}(hk:k≠[]){x:PV}(hg:S.get k=some x)(p:Pt):ae Tryz.prog 139 [.box i 0,.v (.string (af k)),.agg (er p)] h (.v (.int .i64 8)) h []:=by
 have h1:=hr.top
 have hr':=hr.app [er p] (by simp[er,bv])
 have h1':=hr'.top
 have hk':(k==[])=false:=by simpa using hk
 refine ac OA mixed (by simp[vY]) fun hh hargs=>?_
 have hun:(er p).map AV.unown=er p:=rfl
 simp[vY,hun,h1',hk,hk']
 refine aa (by simp) (iu hr' hg) ?_
 simp[hh,ag]
end
section
variable {h:d4} {i:Nat} {S:Ps}
theorem Hd(S:Ps)(ho:PsOk S)(k:d5)(x:PV):bc (AEnt.put (.string (af k)) S.clock [.box x.v 0] (S.e.map (KE.ent xr))).2 (AEnt.put (.string (af k)) S.clock [.box x.v 0] (S.e.map (KE.ent xr))).1=(S.put k x).cells:=by
 have:=KE.put_eq xr ho.ok k x
 have e:xr x=[.box x.v 0]:=rfl
 rw[e] at this
 rw[this];rfl
theorem wN(hr:PsAt h i S)(ho:PsOk S)(k:d5){x:PV}{n:Nat}(hx:x.v<n)(hn:h.length <= n):cb n (S.put k x).cells:=ss fun e he=>by
 obtain⟨y,hy,rfl⟩:=aaC.1 he
 rcases de ho.ok hy with⟨_,e⟩ |⟨_,hy⟩
 ·have:y.val.v<n:=by rw[e];exact hx
  simp[KE.ent,xr,this]
 ·have:=hr.v_lt hy
  have:y.val.v<n:=by omega
  simp[KE.ent,xr,this]
def cz(h:d4)(p:Pt):PV:=if p.rows=[] then⟨h.length+1,p,0,0⟩ else⟨h.length+4,p,h.length+3,0⟩
def uc(h:d4)(S:Ps)(k:d5)(p:Pt):d4 :=
 if p.rows=[] then h.set S.a (S.put k (cz h p)).cells++[er p,bv p (.sl 1 [] none .no)]
 else h.set S.a (S.put k (cz h p)).cells++[er p,bv p (.bsl (h.length+3) 0 1 p.rows.length),bv p (.bsl (h.length+3) 0 1 p.rows.length),p.rows.map cL,bv p (.bsl (h.length+3) 0 1 p.rows.length)]
set_option maxHeartbeats 1000000 in
theorem O5(hr:PsAt h i S)(ho:PsOk S){k:d5}(hk:k.length <= 1000000)(hc:k=[] \/ S.get k=none){p:Pt}(hf:p.fit):ae Tryz.prog 139 [.box i 0,.v (.string (af k)),.agg (er p)] h (.v (.int .i64 0)) (uc h S k p) [S.a]:=by
 have hr':=hr.app [er p] (by simp[er,bv])
 have h1':=hr'.top
 have e1:∀ xs,(h++xs)[i]?=some [.mp S.a 1 true]:=fun xs=>by rw[aaa hr.i_lt];exact hr.top
 have e2:∀ xs,(h++xs)[S.a]?=some S.cells:=fun xs=>by rw[aaa hr.a_lt];exact hr.ents
 have e3:∀ xs cs,(h++xs).set S.a cs=h.set S.a cs++xs:=fun xs cs=>aao _ _ hr.a_lt
 have h3:=S.of_cells
 have h4:=S.keys
 have hun:(er p).map AV.unown=er p:=rfl
 have hlen:(er p).length=6:=rfl
 have htk:aaD 6 (er p)=er p:=rfl
 have hput:=Hd S ho k (cz h p)
 have hF:=gE
 have hpt:∀ n,cb n (er p):=fun n=>by simp[er,bv]
 by_cases hrows:p.rows=[]
 ·have hpc:=GY (h:=h++[er p]) (p:=p) (x:=.sl 1 (am bN p.rows) none .no) (.inl rfl) hf hrows
  have hx:cz h p=⟨h.length+1,p,0,0⟩:=by unfold cz;rw[if_pos hrows]
  have hpl:=wN hr ho k (x:=cz h p) (n:=h.length+2) (by rw[hx];simp) (by omega)
  have hH:uc h S k p=h.set S.a (S.put k (cz h p)).cells++[er p,bv p (.sl 1 [] none .no)]:=by unfold uc;rw[if_pos hrows]
  rw[hH]
  have hv:(cz h p).v=h.length+1:=by rw[hx]
  rw[hv] at hput
  refine ac OA mixed (by simp[vY]) fun hh hargs=>?_
  have hl:=ao (i:=S.a) (aF (aah h.length 2) hh) hpl
  by_cases hk0:k=[]
  ·subst hk0
   simp[vY,hun,hlen,htk,e1]
   refine aa (by intro c hc;rw[aab.1 hc];rfl) hpc ?_
   simp[e1,bv,hun,hlen,htk]
   refine aa (by simp) (dI [] (by simp) _) ?_
   simp[e1,e2,e3,h3,h4,hput,bv,hl,hpt]
  ·have hk':(k==[])=false:=by simpa using hk0
   have hg:=hc.resolve_left hk0
   simp[vY,hun,hlen,htk,e1,hk0,hk']
   refine aa (by simp) (nY hr' hg) ?_
   simp[hlen,hun,htk]
   refine aa (by intro c hc;rw[aab.1 hc];rfl) hpc ?_
   simp[e1,bv,hun,hlen,htk]
   refine aa (by simp) (dI k (by omega) _) ?_
   simp[e1,e2,e3,h3,h4,hput,bv,hl,hpt]
 ·have hpc:=GZ (h:=h++[er p]) (p:=p) (x:=.sl 1 (am bN p.rows) none .no) (.inl rfl) hf hrows
  have hx:cz h p=⟨h.length+4,p,h.length+3,0⟩:=by unfold cz;rw[if_neg hrows]
  have hpl:=wN hr ho k (x:=cz h p) (n:=h.length+5) (by rw[hx];simp) (by omega)
  have hH:uc h S k p=h.set S.a (S.put k (cz h p)).cells++[er p,bv p (.bsl (h.length+3) 0 1 p.rows.length),bv p (.bsl (h.length+3) 0 1 p.rows.length),p.rows.map cL,bv p (.bsl (h.length+3) 0 1 p.rows.length)]:=by unfold uc;rw[if_neg hrows]
  rw[hH]
  have hv:(cz h p).v=h.length+4:=by rw[hx]
  rw[hv] at hput
  have hpH:qW (h++[er p]) p=h++[er p,bv p (.bsl (h.length+3) 0 1 p.rows.length),bv p (.bsl (h.length+3) 0 1 p.rows.length),p.rows.map cL]:=by unfold qW;simp
  rw[hpH] at hpc
  have hlen1:(h++[er p]).length+2=h.length+3:=by simp
  rw[hlen1] at hpc
  refine ac OA mixed (by simp[vY]) fun hh hargs=>?_
  have hl:=ao (i:=S.a) (aF (aah h.length 5) hh) hpl
  by_cases hk0:k=[]
  ·subst hk0
   simp[vY,hun,hlen,htk,e1]
   refine aa (by intro c hc;rw[aab.1 hc];rfl) hpc ?_
   simp[e1,bv,hun,hlen,htk]
   refine aa (by simp) (dI [] (by simp) _) ?_
   simp[e1,e2,e3,h3,h4,hput,bv,hl,hpt,hF]
  ·have hk':(k==[])=false:=by simpa using hk0
   have hg:=hc.resolve_left hk0
   simp[vY,hun,hlen,htk,e1,hk0,hk']
   refine aa (by simp) (nY hr' hg) ?_
   simp[hlen,hun,htk]
   refine aa (by intro c hc;rw[aab.1 hc];rfl) hpc ?_
   simp[e1,bv,hun,hlen,htk]
   refine aa (by simp) (dI k (by omega) _) ?_
   simp[e1,e2,e3,h3,h4,hput,bv,hl,hpt,hF]
theorem O6(hr:PsAt h i S)(ho:PsOk S){k:d5}(hk:k.length <= 1000000)(hc:k=[] \/ S.get k=none){p:Pt}(hf:p.fit):∃ x:PV,x.p=p /\ pN 139 [.box i 0,.v (.string (af k)),.agg (er p)] h i S (.v (.int .i64 0)) (S.put k x):=by
 have ha:=hr.a_lt
 have hF:=gE
 have hptid:∀ x:AV,x.idOf=none -> ∀ c∈bv p x,c.idOf=none:=fun x hx=>mZ hx
 refine⟨cz h p,by unfold cz;split<;>rfl,uc h S k p,[S.a],O5 hr ho hk hc hf,?_⟩
 by_cases hrows:p.rows=[]
 ·have hx:cz h p=⟨h.length+1,p,0,0⟩:=by unfold cz;rw[if_pos hrows]
  have hH:uc h S k p=h.set S.a (S.put k (cz h p)).cells++[er p,bv p (.sl 1 [] none .no)]:=by unfold uc;rw[if_pos hrows]
  have hpv:bg (cz h p)=[h.length+1]:=by rw[hx];unfold bg;rw[if_pos hrows]
  have hpl:=wN hr ho k (x:=cz h p) (n:=h.length+2) (by rw[hx];simp) (by omega)
  have hro:ll (cz h p)=.sl 1 [] none .no:=by rw[hx];unfold ll;rw[if_pos hrows]
  have hpx:(cz h p).p=p:=by rw[hx]
  have hpvv:(cz h p).v=h.length+1:=by rw[hx]
  have hnew:∀ q∈bg (cz h p),h.length <= q \/ ∃ y∈S.e,y.key=k /\ q∈bg y.val:=fun q hq=>by rw[hpv,aab] at hq;left;omega
  have hlen:(h.set S.a (S.put k (cz h p)).cells).length=h.length:=aai
  rw[hH]
  refine⟨hr.put ho (x:=cz h p) ?_ ?_ ?_ ?_ hnew ?_ ?_,fun q hq _=>by rw[aab.1 hq];exact aaf ..,by simp,fun q hq hn=>?_,sL ho hnew,fun hp=>fg (bY hp (S.put k (cz h p)).plain _) ?_⟩
  ·rw[hpvv,hpx,hro,aaj (by omega),hlen];simp
  ·rw[hpx];exact fun hne=>absurd hrows hne
  ·rw[aaa (by omega),aad ha]
  ·intro q hq hqa _
   rw[aaa (by omega),aac (Ne.symm hqa)]
  ·rw[hpv];simp
  ·rw[cD,aam,hlen]
   exact⟨ao (aF (aah _ _) hr.lt) hpl,by simp[er,bv]⟩
  ·rw[aaa (by omega),aac (fun e=>hn (by rw[<- e];exact aaf ..))]
  ·intro x hx2
   rcases aag.1 hx2 with rfl |hx2
   ·exact hptid _ rfl
   ·rw[aab.1 hx2];exact hptid _ rfl
 ·have hx:cz h p=⟨h.length+4,p,h.length+3,0⟩:=by unfold cz;rw[if_neg hrows]
  have hH:uc h S k p=h.set S.a (S.put k (cz h p)).cells++[er p,bv p (.bsl (h.length+3) 0 1 p.rows.length),bv p (.bsl (h.length+3) 0 1 p.rows.length),p.rows.map cL,bv p (.bsl (h.length+3) 0 1 p.rows.length)]:=by unfold uc;rw[if_neg hrows]
  have hpv:bg (cz h p)=[h.length+4,h.length+3]:=by rw[hx];unfold bg;rw[if_neg hrows]
  have hpl:=wN hr ho k (x:=cz h p) (n:=h.length+5) (by rw[hx];simp) (by omega)
  have hro:ll (cz h p)=.bsl (h.length+3) 0 1 p.rows.length:=by rw[hx];unfold ll;rw[if_neg hrows]
  have hpx:(cz h p).p=p:=by rw[hx]
  have hpvv:(cz h p).v=h.length+4:=by rw[hx]
  have hpb:(cz h p).b=h.length+3:=by rw[hx]
  have hpo:(cz h p).o=0:=by rw[hx]
  have hnew:∀ q∈bg (cz h p),h.length <= q \/ ∃ y∈S.e,y.key=k /\ q∈bg y.val:=fun q hq=>by rw[hpv] at hq;left;simp at hq;omega
  have hlen:(h.set S.a (S.put k (cz h p)).cells).length=h.length:=aai
  rw[hH]
  refine⟨hr.put ho (x:=cz h p) ?_ ?_ ?_ ?_ hnew ?_ ?_,fun q hq _=>by rw[aab.1 hq];exact aaf ..,by simp,fun q hq hn=>?_,sL ho hnew,fun hp=>fg (bY hp (S.put k (cz h p)).plain _) ?_⟩
  ·rw[hpvv,hpx,hro,aaj (by omega),hlen];simp
  ·rw[hpx,hpb,hpo]
   refine fun _=>⟨p.rows.map cL,?_,?_,?_⟩
   ·rw[aaj (by omega),hlen];simp
   ·rw[aaF,aax (by simp)]
   ·simp
  ·rw[aaa (by omega),aad ha]
  ·intro q hq hqa _
   rw[aaa (by omega),aac (Ne.symm hqa)]
  ·rw[hpv];simp
  ·rw[cD,aam,hlen]
   exact⟨ao (aF (aah _ _) hr.lt) hpl,by simp[er,bv,hF]⟩
  ·rw[aaa (by omega),aac (fun e=>hn (by rw[<- e];exact aaf ..))]
  ·intro x hx2
   simp only[aag,List.not_mem_nil,or_false] at hx2
   rcases hx2 with rfl |rfl |rfl |rfl |rfl
   ·exact hptid _ rfl
   ·exact hptid _ rfl
   ·exact hptid _ rfl
   ·exact sQ _
   ·exact hptid _ rfl
end
section
variable {h:d4} {i:Nat} {S:Ps}
theorem PsAt.turn(hr:PsAt h i S)(ho:PsOk S){k:d5}{y:KE PV}(hy:y∈S.e)(hk:y.key=k){x':PV}(hxv:x'.v=y.val.v){h':d4}(hl:h.length <= h'.length)(hv:h'[y.val.v]?=some (bv x'.p (ll x')))
  (hrw:x'.p.rows≠[] -> ∃ cs,h'[x'.b]?=some cs /\ (cs.drop x'.o).take x'.p.rows.length=x'.p.rows.map cL /\ x'.o+x'.p.rows.length <= cs.length) (hsame:∀ q<h.length,q∉bg y.val -> h'[q]?=h[q]?)
  (hb:x'.p.rows≠[] -> h.length <= x'.b \/ (x'.b=y.val.b /\ y.val.p.rows≠[])) (hlt:aK h'.length h') (hp:eF h -> eF h') :
  PsAt h' i (S.put k x') /\ (∀ q∈bg y.val,q<h.length -> q∈S.vars) /\ h.length <= h'.length /\ (∀ q<h.length,q∉S.vars -> h'[q]?=h[q]?) /\ (∀ q∈(S.put k x').vars,q∈S.vars \/ h.length <= q) /\ (eF h -> eF h'):=by
 have hg:S.get k=some y.val:=(KE.get_iff ho.ok).2 ⟨y,hy,hk,rfl⟩
 have hnew:∀ q∈bg x',h.length <= q \/ ∃ y∈S.e,y.key=k /\ q∈bg y.val:=fun q hq=>by
  unfold bg at hq
  split at hq
  ·rw[aab.1 hq,hxv];exact .inr ⟨y,hy,hk,dN _⟩
  ·rename_i hne
   rcases aag.1 hq with rfl |hq
   ·rw[hxv];exact .inr ⟨y,hy,hk,dN _⟩
   ·rw[aab.1 hq]
    rcases hb hne with h1 |⟨h1,h2⟩
    ·exact .inl h1
    ·rw[h1];exact .inr ⟨y,hy,hk,ob h2⟩
 have hnd:(bg x').Nodup:=by
  unfold bg
  split
  ·simp
  ·rename_i hne
   have:x'.v≠x'.b:=by
    rw[hxv]
    rcases hb hne with h1 |⟨h1,h2⟩
    ·have:=hr.v_lt hy;omega
    ·have hn:=(hr.own y hy).1
     unfold bg at hn
     rw[if_neg h2] at hn
     rw[h1]
     intro e
     simp[e] at hn
   simp[this]
 refine⟨hr.put ho (by rw[hxv];exact hv) hrw ?_ (fun q hq hqa hqy=>hsame q hq (hqy y hy hk)) hnew hnd hlt,fun q hq _=>Ps.mem_vars hy hq,hl,fun q hq hn=>hsame q hq fun hqy=>hn (Ps.mem_vars hy hqy),sL ho hnew,hp⟩
 rw[Hf hg ho hxv,hsame S.a hr.a_lt (hr.own y hy).2.2]
 exact hr.ents
def nb(p:Pt)(L:List (List Cl)):Pt:={ p with ran:=true,rows:=L }
theorem O7(hr:PsAt h i S)(ho:PsOk S){k:d5}{x:PV}(hg:S.get k=some x)(hran:x.p.ran=false){L:List (List Cl)}(hf:RowsFit L):pN 143 [.box i 0,.v (.string (af k)),.sl 1 (am bN L) none .no] h i S (.v (.bool true)) (S.put k ⟨x.v,nb x.p L,h.length,0⟩):=by
 obtain⟨y,hy,hk,rfl⟩:=dl hg
 have hv:=hr.each y hy
 have hvl:=hr.v_lt hy
 have hroid:=Hx y.val
 have e1:∀ xs,(h++xs)[y.val.v]?=some (bv y.val.p (ll y.val)):=fun xs=>by rw[aaa hvl];exact hv
 have e3:∀ xs cs,(h++xs).set y.val.v cs=h.set y.val.v cs++xs:=fun xs cs=>aao _ _ hvl
 have e4:∀ X,(h.set y.val.v X)[y.val.v]?=some X:=fun X=>aad hvl
 have e5:∀ X xs,(h.set y.val.v X++xs)[y.val.v]?=some X:=fun X xs=>by rw[aaa (by simpa using hvl),e4]
 have e6:∀ X xs cs,(h.set y.val.v X++xs).set y.val.v cs=h.set y.val.v cs++xs:=fun X xs cs=>by rw[aao _ _ (by simpa using hvl),List.set_set]
 have hF:=gE
 by_cases hL:L=[]
 ·subst hL
  have hset:cb h.length (bv (nb y.val.p []) (.sl 1 [] none .no)):=by simp[bv]
  refine⟨h.set y.val.v (bv (nb y.val.p []) (.sl 1 [] none .no)),bg y.val,?_,hr.turn ho hy hk (x':=⟨y.val.v,nb y.val.p [],h.length,0⟩) rfl (by simp) ?_ (fun hne=>absurd rfl hne) (fun q hq hn=>aac fun e=>hn (by rw[<- e];exact dN _)) (fun hne=>absurd rfl hne) (by rw[aai];exact ao hr.lt hset) (fun hp=>bY hp (mZ rfl) _)⟩
  ·refine ac SK mixed (by simp[FP]) fun hh hargs=>?_
   have hl:=ao (i:=y.val.v) hh hset
   have hpv:=dN y.val
   simp[FP]
   refine aa (by simp) (iu hr hg) ?_
   simp[hv,bv,hran]
   refine aa (by simp) (pT (.inl rfl)) ?_
   have hl':=hl
   simp only[bv,nb] at hl'
   simp[hv,e4,bv,nb,hl',hpv]
  ·rw[aad hvl];rfl
 ·have hro:ll ⟨y.val.v,nb y.val.p L,h.length,0⟩=.bsl h.length 0 1 L.length:=by unfold ll;exact if_neg hL
  have hset:cb (h.length+1) (bv (nb y.val.p L) (.bsl h.length 0 1 L.length)):=by simp[bv]
  have hset1:aK (h.length+1) (h.set y.val.v (bv (nb y.val.p L) (.bsl h.length 0 1 L.length))):=ao (aF (aah h.length 1) hr.lt) hset
  refine⟨h.set y.val.v (bv (nb y.val.p L) (.bsl h.length 0 1 L.length))++[L.map cL],bg y.val,?_,hr.turn ho hy hk (x':=⟨y.val.v,nb y.val.p L,h.length,0⟩) rfl (by simp) ?_ (fun _=>⟨L.map cL,?_,?_,?_⟩) (fun q hq hn=>?_) (fun _=>.inl (aav _)) ?_ (fun hp=>fg (bY hp (mZ rfl) _) ?_)⟩
  ·refine ac SK mixed (by simp[FP]) fun hh hargs=>?_
   have hpv:=dN y.val
   simp[FP]
   refine aa (by simp) (iu hr hg) ?_
   simp[hv,bv,hran]
   refine aa (by simp) (pU (.inl rfl) hL hf) ?_
   have hl':=hset1
   simp only[bv,nb] at hl'
   simp[e1,e3,e5,e6,bv,nb,hl',hpv,hF]
  ·rw[aaa (by simpa using hvl),aad hvl,hro]
  ·rw[aaj (by simp)];simp
  ·show(List.drop 0 (L.map cL)).take L.length=L.map cL
   rw[aaF,aax (by simp)]
  ·show 0+L.length <= (L.map cL).length
   simp
  ·rw[aaa (by simpa using hq),aac fun e=>hn (by rw[<- e];exact dN _)]
  ·rw[cD,aam,aai]
   exact⟨hset1,by simp[hF]⟩
  ·intro z hz;rw[aab.1 hz];exact sQ _
end
section
variable {h:d4} {i:Nat} {S:Ps}
def wE:AV:=.sl 0 [] (some true) .exact
theorem KH{v:Nat}{p:Pt}(hv:h[v]?=some (bv p (.sl 1 [] none .no))):ae Tryz.prog 203 [.box v 0,.v (.int .i64 0)] h (.sl 1 [] none .no) h [v]:=by
 have hvl:=(aae.1 hv).1
 have hs:h.set v (bv p (.sl 1 [] none .no))=h:=by
  obtain⟨h1,h2⟩:=aae.1 hv
  rw[<- h2,List.set_getElem_self]
 simp only[bv] at hs
 refine ac SR mixed (by simp[c203]) fun hh hargs=>?_
 simp[c203,hv,bv]
 refine aa (by simp) (pV (.inl rfl)) ?_
 simp[hv,bv,hs,hh]
set_option maxHeartbeats 1000000 in
theorem KG{v b o n:Nat}{p:Pt}{cs:List AV}(hv:h[v]?=some (bv p (.bsl b o 1 p.rows.length)))(hb:h[b]?=some cs)(hd:(cs.drop o).take p.rows.length=p.rows.map cL)(ho:o+p.rows.length <= cs.length)(hne:v≠b)(hn:1 <= n)(hnl:n <= p.rows.length)(hl:p.rows.length <= 1000000):
  ae Tryz.prog 203 [.box v 0,.v (.int .i64 (n:Int))] h (.sl 1 (am bN (p.rows.take n)) none .no) ((h.set b (lay cs o (aak n wE))).set v (bv p (.bsl b (o+n) 1 (p.rows.length-n)))) [v,b]:=by
 have hvl:=(aae.1 hv).1
 have hbl:=(aae.1 hb).1
 obtain⟨L,hL⟩:∃ L,L=p.rows.take n:=⟨_,rfl⟩
 have hLl:L.length=n:=by rw[hL,List.length_take];omega
 have hLne:L≠[]:=fun e=>by rw[e] at hLl;simp at hLl;omega
 have hx:RowsX h (.bsl b o 1 n) L:=by
  refine .inr ⟨b,o,cs,by rw[hLl],hb,?_,by omega⟩
  have:=congrArg (aaD n) hd
  rw[List.take_take,Nat.min_eq_left hnl,<- List.map_take,<- hL] at this
  rw[hLl,this]
 have hcl:=kK hx hLne (by omega)
 rw[hLl] at hcl
 have hz:=vl L h.length
 rw[hLl] at hz
 have hF:=fun n=>gE n L
 have hbv:∀ X,(h.set b X)[v]?=some (bv p (.bsl b o 1 p.rows.length)):=fun X=>by rw[aac (Ne.symm hne)];exact hv
 have hon:o+n <= cs.length:=by omega
 have ht:((p.rows.length:Int)-(n:Int)).toNat=p.rows.length-n:=by omega
 have hnl':(n:Int) <= (p.rows.length:Int):=by omega
 rw[<- hL]
 refine cf (XCode.cuts [false,true] c203.code) SR rfl mixed (by simp[c203]) fun hh hargs=>?_
 simp[c203]
 refine tC h.length (L.map cL) ⟨[(0,.box v 0),(1,.v (.int .i64 (n:Int))),(5,.sl 1 (am bN L) none .no)],[],h,[]⟩ (aav _) (yZ L hLne) ?_ ?_
 ·simp[hv,bv]
  refine⟨hnl,?_⟩
  refine aa (by simp) hcl ?_
  simp[Leq,hh,hz,hvl]
 ·have hlt1:cb h.length (lay cs o (aak n wE)):=by
   have hcs:cb h.length cs:=dH hh _ _ hb
   exact dx fun j c hj=>by
    rcases nQ _ _ _ _ (aap hj) with h1 |h1
    ·obtain⟨q,hq⟩:=aaA h1
     exact cS hcs q c hq
    ·rw[aan h1];trivial
  have hlt2:aK h.length (h.set b (lay cs o (aak n wE))):=ao hh hlt1
  have hlt3:aK h.length ((h.set b (lay cs o (aak n wE))).set v (bv p (.bsl b (o+n) 1 (p.rows.length-n)))):=by
   refine ao hlt2 ?_
   simp[bv,hbl]
  simp only[bv,wE] at hlt3
  simp[hv,hb,hbv,bv,wE,hon,hnl,hnl',ht,hh,hlt3]
  exact ag (by simp)
def cZ(most:Int)(len:Nat):Nat:=if most<1 then len else min most.toNat len
theorem DT(most:Int)(len:Nat):cZ most len <= len:=by unfold cZ;split<;>omega
theorem Av{most:Int}{len:Nat}(h:1 <= len):1 <= cZ most len:=by unfold cZ;split<;>omega
theorem DU(most:Int)(len:Nat):tY (if most<1 then(len:Int) else most) [(len:Int)]=(cZ most len:Int):=by
 unfold cZ tY
 simp only[List.foldl]
 by_cases h:most<1
 ·simp[h]
 ·rw[if_neg h,if_neg h]
  split<;>omega
def bu(p:Pt)(n:Nat):Pt:={ p with rows:=p.rows.drop n,over:=decide (p.rows.drop n=[]) }
def rU(x:PV)(most:Int):PV:=⟨x.v,bu x.p (cZ most x.p.rows.length),x.b,x.o+cZ most x.p.rows.length⟩
theorem G7(hr:PsAt h i S){k:d5}(hg:S.get k=none)(most:Int):ae Tryz.prog 144 [.box i 0,.v (.string (af k)),.v (.int .i64 most)] h (.tup [.sl 1 (am bN []) none .no,.v (.bool false)]) h []:=by
 refine ac Ki mixed (by simp[vZ]) fun hh hargs=>?_
 simp[vZ]
 refine aa (by simp) (nY hr hg) ?_
 simp[hh]
theorem Eu(hr:PsAt h i S){k:d5}{x:PV}(hg:S.get k=some x)(hno:x.p.ran=false \/ x.p.over=true)(most:Int):ae Tryz.prog 144 [.box i 0,.v (.string (af k)),.v (.int .i64 most)] h (.tup [.sl 1 (am bN []) none .no,.v (.bool false)]) h []:=by
 obtain⟨y,hy,hk,rfl⟩:=dl hg
 have hv:=hr.each y hy
 refine ac Ki mixed (by simp[vZ]) fun hh hargs=>?_
 simp[vZ]
 refine aa (by simp) (iu hr hg) ?_
 cases hran:y.val.p.ran with
 | false=>simp[hv,bv,hran,hh]
 | true =>
  have hov:y.val.p.over=true:=by simpa[hran] using hno
  simp[hv,bv,hran,hov,hh]
set_option maxHeartbeats 1000000 in
theorem G6(hr:PsAt h i S)(ho:PsOk S){k:d5}{x:PV}(hg:S.get k=some x)(hran:x.p.ran=true)(hov:x.p.over=false)(most:Int):
  pN 144 [.box i 0,.v (.string (af k)),.v (.int .i64 most)] h i S (.tup [.sl 1 (am bN (x.p.rows.take (cZ most x.p.rows.length))) none .no,.v (.bool (!decide (x.p.rows.drop (cZ most x.p.rows.length)=[])))]) (S.put k (rU x most)):=by
 have hfit:=ho.gfit hg
 obtain⟨y,hy,hk,rfl⟩:=dl hg
 have hv:=hr.each y hy
 have hvl:=hr.v_lt hy
 have e4:∀ X,(h.set y.val.v X)[y.val.v]?=some X:=fun X=>aad hvl
 obtain⟨_,_,_,hl1,_⟩:=hfit
 have hmin:=DU most y.val.p.rows.length
 have hle:=DT most y.val.p.rows.length
 obtain⟨n,hn⟩:∃ n,n=cZ most y.val.p.rows.length:=⟨_,rfl⟩
 have hfx:rU y.val most=⟨y.val.v,bu y.val.p n,y.val.b,y.val.o+n⟩:=by unfold rU;rw[<- hn]
 rw[hfx,<- hn]
 rw[<- hn] at hmin hle
 by_cases hrows:y.val.p.rows=[]
 ·have hro:ll y.val=.sl 1 [] none .no:=by unfold ll;rw[if_pos hrows]
  rw[hro] at hv
  have hn0:n=0:=by rw[hrows] at hle;simpa using hle
  subst hn0
  have htk:=KH hv
  have hset:cb h.length (bv (bu y.val.p 0) (.sl 1 [] none .no)):=by simp[bv]
  have hf0:(bu y.val.p 0).rows=[]:=by unfold bu;simp[hrows]
  have hfo:(bu y.val.p 0).over=true:=by unfold bu;simp[hrows]
  have hro':ll ⟨y.val.v,bu y.val.p 0,y.val.b,y.val.o+0⟩=.sl 1 [] none .no:=by unfold ll;rw[if_pos hf0]
  refine⟨h.set y.val.v (bv (bu y.val.p 0) (.sl 1 [] none .no)),bg y.val,?_,hr.turn ho hy hk (x':=⟨y.val.v,bu y.val.p 0,y.val.b,y.val.o+0⟩) rfl (by simp) ?_ (fun hne=>absurd hf0 hne) (fun q hq hn=>aac fun e=>hn (by rw[<- e];exact dN _)) (fun hne=>absurd hf0 hne) (by rw[aai];exact ao hr.lt hset) (fun hp=>bY hp (mZ rfl) _)⟩
  ·have hpv:=dN y.val
   have hl':=ao (i:=y.val.v) hr.lt hset
   simp only[bv,hfo] at hl'
   have hft:(bu y.val.p 0).text=y.val.p.text:=rfl
   have hfi:(bu y.val.p 0).oids=y.val.p.oids:=rfl
   have hfp:(bu y.val.p 0).ps=y.val.p.ps:=rfl
   have hfr:(bu y.val.p 0).ran=true:=hran
   rw[hft,hfi,hfp,hfr] at hl'
   rw[hrows] at hmin
   refine ac Ki mixed (by simp[vZ]) fun hh hargs=>?_
   simp[vZ]
   refine aa (by simp) (iu hr hg) ?_
   by_cases hm:most<1
   ·simp[hm] at hmin
    simp[hv,bv,hran,hov,hm]
    refine aa (by simp) htk ?_
    simp[hv,e4,bv,hft,hfi,hfp,hfr,hfo,hrows,hran,hl',hpv]
   ·simp[hm] at hmin
    simp[hv,bv,hran,hov,hm,hmin]
    refine aa (by simp) htk ?_
    simp[hv,e4,bv,hft,hfi,hfp,hfr,hfo,hrows,hran,hl',hpv]
  ·rw[aad hvl,hro']
 ·have hro:ll y.val=.bsl y.val.b y.val.o 1 y.val.p.rows.length:=by unfold ll;rw[if_neg hrows]
  have hrow0:=hv
  rw[hro] at hv
  obtain⟨cs,hb,hd,hoc⟩:=hr.rows y hy hrows
  have hbl:=hr.b_lt hy hrows
  have hne:y.val.v≠y.val.b:=by
   have:=(hr.own y hy).1
   unfold bg at this
   rw[if_neg hrows] at this
   simpa using this
  have hrl:1 <= y.val.p.rows.length:=List.length_pos_iff.2 hrows
  have hn1:1 <= n:=by rw[hn];exact Av hrl
  have htk:=KG (p:=y.val.p) hv hb hd hoc hne hn1 hle hl1
  obtain⟨H1,hH1⟩:∃ H,H=h.set y.val.b (lay cs y.val.o (aak n wE)):=⟨_,rfl⟩
  rw[<- hH1] at htk
  have hH1l:H1.length=h.length:=by rw[hH1,aai]
  have e7:∀ X,(H1.set y.val.v X)[y.val.v]?=some X:=fun X=>aad (by omega)
  have hcsl:cb h.length cs:=dH hr.lt _ _ hb
  have hlay:cb h.length (lay cs y.val.o (aak n wE)):=dx fun j c hj=>by
   rcases nQ _ _ _ _ (aap hj) with h1 |h1
   ·obtain⟨q,hq⟩:=aaA h1
    exact cS hcsl q c hq
   ·rw[aan h1];trivial
  have hH1t:aK h.length H1:=by rw[hH1];exact ao hr.lt hlay
  have hft:(bu y.val.p n).text=y.val.p.text:=rfl
  have hfi:(bu y.val.p n).oids=y.val.p.oids:=rfl
  have hfp:(bu y.val.p n).ps=y.val.p.ps:=rfl
  have hfr:(bu y.val.p n).ran=true:=hran
  have hfl:(bu y.val.p n).rows.length=y.val.p.rows.length-n:=by show(y.val.p.rows.drop n).length=_;rw[aau]
  have hfo:(bu y.val.p n).over=decide (y.val.p.rows.length-n=0):=by
   show decide (y.val.p.rows.drop n=[])=_
   refine decide_eq_decide.2 ?_
   rw[List.drop_eq_nil_iff];omega
  have hdr:decide (y.val.p.rows.drop n=[])=decide (y.val.p.rows.length-n=0):=hfo
  have hdc:(((y.val.p.rows.length-n:Nat):Int)==0)=decide (y.val.p.rows.length-n=0):=by
   rw[Bool.eq_iff_iff];simp
  obtain⟨x',hx'⟩:∃ x':PV,x'=⟨y.val.v,bu y.val.p n,y.val.b,y.val.o+n⟩:=⟨_,rfl⟩
  have hxro:ll x'=if y.val.p.rows.length-n=0 then .sl 1 [] none .no else .bsl y.val.b (y.val.o+n) 1 (y.val.p.rows.length-n):=by
   rw[hx'];unfold ll
   show(if(bu y.val.p n).rows=[] then AV.sl 1 [] none .no else AV.bsl y.val.b (y.val.o+n) 1 (bu y.val.p n).rows.length)=_
   rw[hfl]
   by_cases e:y.val.p.rows.length-n=0
   ·rw[if_pos e,if_pos (List.eq_nil_of_length_eq_zero (by rw[hfl];exact e))]
   ·rw[if_neg e,if_neg (fun e2=>e (by rw[<- hfl,e2];rfl))]
  have hxlt:(ll x').lt h.length:=by rw[hxro];split<;>simp[hbl]
  have hset:cb h.length (bv (bu y.val.p n) (ll x')):=Ba hxlt
  have hsetL:aK h.length (H1.set y.val.v (bv (bu y.val.p n) (ll x'))):=ao hH1t hset
  have hleq:LeqV (.cell y.val.v 3) (.bsl y.val.b (y.val.o+n) 1 (y.val.p.rows.length-n)) (ll x'):=by
   rw[hxro]
   split
   ·rename_i e;simp[e]
   ·simp
  have hpb:y.val.b∈bg y.val:=ob hrows
  have hP1:eF h -> eF H1:=fun hp=>by
   rw[hH1]
   refine bY hp (fun c hc=>?_) _
   rcases nQ _ _ _ _ hc with h1 |h1
   ·exact hp cs (aap hb) c h1
   ·rw[aan h1];rfl
  have hpv:=dN y.val
  rw[<- hx']
  refine⟨H1.set y.val.v (bv (bu y.val.p n) (ll x')),bg y.val,?_,hr.turn ho hy hk (x':=x') (by rw[hx']) (by simp[hH1l]) ?_ (fun hne2=>?_) (fun q hq hnq=>?_) (fun _=>.inr ⟨by rw[hx'],hrows⟩) (by rw[aai,hH1l];exact hsetL) (fun hp=>bY (hP1 hp) (mZ (Hx _)) _)⟩
  ·have hl':=hsetL
   simp only[bv] at hl'
   rw[hft,hfi,hfp,hfr,hfo] at hl'
   refine ac Ki mixed (by simp[vZ]) fun hh hargs=>?_
   simp[vZ]
   refine aa (by simp) (iu hr hg) ?_
   by_cases hm:most<1
   ·rw[if_pos hm] at hmin
    simp[hv,bv,hran,hov,hm]
    rw[hmin]
    refine aa (by simp) htk ?_
    simp[e7,bv,hft,hfi,hfp,hfr,hfo,hran,hl',hpv,hpb,hdr,hdc]
    exact⟨by omega,by omega,.inl hleq,by rw[hH1l];exact hl'⟩
   ·rw[if_neg hm] at hmin
    simp[hv,bv,hran,hov,hm]
    rw[hmin]
    refine aa (by simp) htk ?_
    simp[e7,bv,hft,hfi,hfp,hfr,hfo,hran,hl',hpv,hpb,hdr,hdc]
    exact⟨by omega,by omega,.inl hleq,by rw[hH1l];exact hl'⟩
  ·rw[aad (by omega)];rw[hx']
  ·have hr2:x'.p.rows=y.val.p.rows.drop n:=by rw[hx'];rfl
   have hb2:x'.b=y.val.b:=by rw[hx']
   have ho2:x'.o=y.val.o+n:=by rw[hx']
   rw[hb2,ho2,hr2]
   refine⟨lay cs y.val.o (aak n wE),?_,?_,?_⟩
   ·rw[aac hne,hH1,aad hbl]
   ·refine aat fun j=>?_
    rw[aar]
    have hdj:=congrArg (fun l=>l[n+j]?) hd
    simp only[aar] at hdj
    by_cases hj:j<(y.val.p.rows.drop n).length
    ·rw[if_pos hj,aas,jE _ _ _ _ (by rw[aay];omega),if_neg (by rw[aay];omega)]
     rw[aau] at hj
     rw[if_pos (by omega),aas] at hdj
     rw[show y.val.o+n+j=y.val.o+(n+j) by omega,hdj,aaE,aaE,aas]
    ·rw[if_neg hj,aaz (by simpa using hj)]
   ·rw[mR,aau];omega
  ·have h1:q≠y.val.v:=fun e=>hnq (by rw[e];exact hpv)
   have h2:q≠y.val.b:=fun e=>hnq (by rw[e];exact hpb)
   rw[aac (Ne.symm h1),hH1,aac (Ne.symm h2)]
end
section
variable {h:d4} {i:Nat} {S:Ps}
end
theorem pw{H h:d4}(hl:h.length <= H.length)(hs:∀ q<h.length,H[q]?=h[q]?):iI 0 (H.take h.length) h:=by
 have e:H.take h.length=h:=by
  refine aat fun q=>?_
  rw[aar]
  split
  ·rename_i hq;exact hs q hq
  ·rename_i hq;rw[aaz (by omega)]
 rw[e];exact cy _ _
def Em(a:Nat):Ps:=⟨a,0,[]⟩
theorem Kx(a:Nat):PsOk (Em a):=⟨⟨aaq,aaq,fun x hx=>by cases hx⟩,fun x hx=>by cases hx⟩
section
variable {h:d4} {i:Nat}
variable {p:AV}
end
end Go.Proofs.YtlbgjlmokpkkeaaGreatDoor.Ax
