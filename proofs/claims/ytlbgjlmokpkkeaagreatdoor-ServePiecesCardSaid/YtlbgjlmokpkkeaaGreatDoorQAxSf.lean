import Derived.Test.YtlbgjlmokpkkeaaGreatDoorQAxSr
import Derived.Test.YtlbgjlmokpkkeaaGreatDoorQAxEr
open List renaming mem_singleton -> aaa, getElem?_set_ne -> aab, getElem?_append_left -> aac, mem_cons_self -> aae, set_append_left -> aaf, length_set -> aag, getElem?_set_self -> aah, mem_map -> aai, append_assoc -> aaj, all_eq_true -> aak, mem_append -> aam, singleton_append -> aao, mem_cons -> aap, length_append -> aaq, cons_append -> aat, mem_flatten -> aau, nil_append -> aaw, map_map -> aax
open Nat renaming le_succ -> aad, le_trans -> aal, le_refl -> aan, le_succ_of_le -> aar, le_add_right -> aav
open Option renaming isSome_map -> aas
set_option linter.all false
set_option maxRecDepth 10000
namespace Go.Proofs.YtlbgjlmokpkkeaaGreatDoor
namespace Ax
open Go.RowKit Go By
def NF:XFun:=⟨22,.seq (.ops [oJ 3 1,oK 4 (.int .u8 0),oK 5 (.string (af []))]) (.seq (.seq (.ops [oM 6 0,oC 7 232 [6],oV 8 7]) (.cond (.tmp 8) (.ops [oK 0 (.int .u8 73)]) .skip)) (.seq (.block 0 (.seq (.ops [oF 10 0 3,oL 11 10,oI 12 .eql 11 (.int .i64 2),oA 9 12]) (.cond (.tmp 9) (.seq (.ops [oM 13 0,oC 14 233 [13],oA 4 14,oK 5 (.string (af [66,69,71,73,78]))]) .ret) (.seq (.ops [oP 16 3 3,oC 17 184 [16],oA 15 17]) (.cond (.tmp 15) (.seq (.ops [oM 18 0,oP 19 3 3,oC 20 234 [18,19],oK 4 (.int .u8 73),oA 5 20]) .ret) .skip))))) (.seq (.ops [oM 21 0,oA 4 21,oK 5 (.string (af []))]) .ret))),[.move (.tmp 4),.move (.tmp 5)]⟩
theorem XT:aj Tryz.prog 183=some NF:=by kernel_rfl
def JC:XFun:=⟨9,.seq (.ops [oK 2 (.int .u8 0)]) (.seq (.seq (.ops [oM 3 0,oI 4 .eql 3 (.int .u8 84),oM 5 4,oG 5 false (oM 6 0),oG 5 false (oI 7 .eql 6 (.int .u8 69)),oU 8 5 7]) (.cond (.tmp 8) (.seq (.ops [oK 2 (.int .u8 69)]) .ret) .skip)) (.seq (.ops [oK 2 (.int .u8 73)]) .ret)),[.move (.tmp 2)]⟩
theorem WL:aj Tryz.prog 101=some JC:=by kernel_rfl
def FV:XFun:=⟨13,.seq (.ops [oK 2 (.bool false)]) (.seq (.ops [oM 3 0,oI 4 .eql 3 (.int .u8 73),oM 5 4,oG 5 false (oM 6 0),oG 5 false (oI 7 .eql 6 (.int .u8 84)),oU 8 5 7,oM 9 8,oG 9 false (oM 10 0),oG 9 false (oI 11 .eql 10 (.int .u8 69)),oU 12 9 11,oA 2 12]) .ret),[.move (.tmp 2)]⟩
theorem Ym:aj Tryz.prog 232=some FV:=by kernel_rfl
def NZ:XFun:=⟨6,.seq (.ops [oK 2 (.int .u8 0)]) (.seq (.seq (.ops [oM 3 0,oI 4 .eql 3 (.int .u8 73)]) (.cond (.tmp 4) (.seq (.ops [oK 2 (.int .u8 84)]) .ret) .skip)) (.seq (.ops [oM 5 0,oA 2 5]) .ret)),[.move (.tmp 2)]⟩
theorem Yn:aj Tryz.prog 233=some NZ:=by kernel_rfl
def JQ:XFun:=⟨12,.seq (.ops [oJ 3 1,oK 4 (.string (af []))]) (.seq (.seq (.ops [oF 5 0 3,oL 6 5,oI 7 .eql 6 (.int .i64 4),oM 8 7,oG 8 false (oM 9 0),oG 8 false (oI 10 .eql 9 (.int .u8 69)),oU 11 8 10]) (.cond (.tmp 11) (.seq (.ops [oK 4 (.string (af [82,79,76,76,66,65,67,75]))]) .ret) .skip)) (.seq (.ops [oK 4 (.string (af [67,79,77,77,73,84]))]) .ret)),[.move (.tmp 4)]⟩
theorem Yo:aj Tryz.prog 234=some JQ:=by kernel_rfl
end Ax
namespace Ax
open Go.RowKit Go By Dg
theorem PM(v:Vb)(ks:List Int)(hk:ks.length <= 1000)(h:d4):ae Tryz.prog 182 [.agg (fC v),.sl 1 (am aX ks) none .no] h (.v (.bool (ks.contains v.kind))) h []:=by
 refine ac SM mixed (by simp[FQ]) fun hh hargs=>?_
 simp[FQ]
 refine aa (by simp) (GC (by omega) _) ?_
 simp[hh]
theorem zp(v:Vb)(h:d4):ae Tryz.prog 184 [.agg (fC v)] h (.v (.bool ([3,4].contains v.kind))) h []:=by
 refine ac SN mixed (by simp[FR]) fun hh hargs=>?_
 simp[FR]
 refine ak (PM v [3,4] (by simp) _) (by simp[aX]) (by simp) ?_
 simp[hh]
def EV(s:Int):Bool:=decide (s=73 \/ s=84 \/ s=69)
def qH(s:Int):Int:=if s=84 \/ s=69 then 69 else 73
def Fo(s:Int):Int:=if EV s=true then s else 73
def zo(s:Int)(k:Int):Int:=if k=2 then(if Fo s=73 then 84 else Fo s) else if k=3 \/ k=4 then 73 else Fo s
def xd:d5:=[66,69,71,73,78]
def tf:d5:=[67,79,77,77,73,84]
def xe:d5:=[82,79,76,76,66,65,67,75]
def Lj(s:Int)(k:Int):d5:=if k=2 then xd else if k=4 \/ (k=3 /\ s=69) then xe else if k=3 then tf else[]
theorem EW(s:Int):EV (Fo s)=true:=by
 unfold Fo
 split
 ·assumption
 ·rfl
theorem PL(s:Int):Fo s=69↔s=69:=by
 unfold Fo EV
 split
 ·exact Iff.rfl
 ·rename_i h
  simp at h
  omega
theorem ET(s:Int):EV (qH s)=true:=by
 unfold qH EV
 split<;>simp
theorem EU(s k:Int):EV (zo s k)=true:=by
 have:=EW s
 unfold zo
 split
 ·split
  ·rfl
  ·assumption
 ·split
  ·rfl
  ·assumption
theorem EX(s:Int)(h:d4):ae Tryz.prog 232 [.v (.int .u8 s)] h (.v (.bool (EV s))) h []:=by
 refine ac Ym mixed (by simp[FV]) fun hh hargs=>?_
 by_cases h1:s=73
 ·simp[FV,h1,hh,EV]
 by_cases h2:s=84
 ·simp[FV,h1,h2,hh,EV]
 by_cases h3:s=69<;>simp[FV,h1,h2,h3,hh,EV]
theorem zq(s:Int)(h:d4):ae Tryz.prog 101 [.v (.int .u8 s)] h (.v (.int .u8 (qH s))) h []:=by
 refine ac WL mixed (by simp[JC]) fun hh hargs=>?_
 by_cases h2:s=84
 ·simp[JC,h2,hh,qH]
 by_cases h3:s=69<;>simp[JC,h2,h3,hh,qH]
theorem vA(s:Int)(h:d4):ae Tryz.prog 233 [.v (.int .u8 s)] h (.v (.int .u8 (if s=73 then 84 else s))) h []:=by
 refine ac Yn mixed (by simp[NZ]) fun hh hargs=>?_
 by_cases h2:s=73<;>simp[NZ,h2,hh]
theorem lP(s:Int)(v:Vb)(h:d4):ae Tryz.prog 234 [.v (.int .u8 s),.agg (fC v)] h (.v (.string (af (if v.kind=4 \/ s=69 then xe else tf)))) h []:=by
 refine ac Yo mixed (by simp[JQ]) fun hh hargs=>?_
 by_cases h2:v.kind=4
 ·simp[JQ,h2,hh,xe,ag]
 by_cases h3:s=69<;>simp[JQ,h2,h3,hh,xe,tf,ag]
theorem zr(s:Int)(v:Vb)(h:d4):ae Tryz.prog 183 [.v (.int .u8 s),.agg (fC v)] h (.tup [.v (.int .u8 (zo s v.kind)),.v (.string (af (Lj s v.kind)))]) h []:=by
 refine ac XT mixed (by simp[NF]) fun hh hargs=>?_
 have h69:=PL s
 unfold zo Lj
 simp[NF]
 refine aa (by simp) (EX s _) ?_
 cases hr:EV s with
 | true =>
  have e:Fo s=s:=by unfold Fo;rw[if_pos hr]
  rw[e]
  by_cases k2:v.kind=2
  ·simp[k2]
   refine aa (by simp) (vA s _) ?_
   simp[hh,xd,ag]
  have k2':(v.kind==2)=false:=by simpa using k2
  simp[k2,k2']
  refine aa (by simp) (zp v _) ?_
  by_cases k3:v.kind=3
  ·simp[k3]
   refine aa (by simp) (lP s v _) ?_
   by_cases h3:s=69<;>simp[k3,h3,hh,ag]
  by_cases k4:v.kind=4
  ·simp[k4]
   refine aa (by simp) (lP s v _) ?_
   simp[k4,hh,ag]
  have k3':(v.kind==3)=false:=by simpa using k3
  have k4':(v.kind==4)=false:=by simpa using k4
  simp[k3,k4,k3',k4',hh,ag]
 | false =>
  have e:Fo s=73:=by unfold Fo;rw[if_neg (by simp[hr])]
  have hne:¬s=69:=fun e2=>by rw[e2] at hr;cases hr
  rw[e]
  by_cases k2:v.kind=2
  ·simp[k2]
   refine aa (by simp) (vA 73 _) ?_
   simp[hh,xd,ag]
  have k2':(v.kind==2)=false:=by simpa using k2
  simp[k2,k2']
  refine aa (by simp) (zp v _) ?_
  by_cases k3:v.kind=3
  ·simp[k3]
   refine aa (by simp) (lP 73 v _) ?_
   simp[k3,hne,hh,ag]
  by_cases k4:v.kind=4
  ·simp[k4]
   refine aa (by simp) (lP 73 v _) ?_
   simp[k4,hh,ag]
  have k3':(v.kind==3)=false:=by simpa using k3
  have k4':(v.kind==4)=false:=by simpa using k4
  simp[k3,k4,k3',k4',hh,ag]
end Ax
namespace Ax
open Go.RowKit Go By
section
variable {L:List (Nat×List AV)} {h:d4} {i:Nat} {Z:Zs}
theorem SsG.does(g:SsG [] h i Z){H:d4}(hH:∀ q<h.length,q∉Z.vars i -> H[q]?=h[q]?)(hlH:h.length <= H.length){L':List (Nat×List AV)}{h':d4}{Z':Zs}(g':SsG L' h' i Z'){wr w0:List Nat}(hw:∀ q∈wr,q<H.length -> q∈Z.S.vars)
  (hs:∀ q<H.length,q∉Z.S.vars -> h'[q]?=H[q]?) (hv:∀ q∈Z'.S.vars,q∈Z.S.vars \/ H.length <= q) (hl:H.length <= h'.length) (hown:Z'.own i=Z.own i) (hp:Z'.p=Z.p) (hw0:∀ q∈w0,q<h.length -> q∈Z.own i)
  {f:FuncId} {args:List AV} {v:AV} {r:d4 -> AV -> Prop} (k:ae Tryz.prog f args h v h' (wr++w0)) (hr:r h' v):DoesS f args h i Z r Z':=by
 refine⟨h',wr++w0,v,k,hr,g'.none,fun q hq hlt=>?_,by omega,fun q hq hn=>?_,fun q hq=>?_⟩
 ·rcases aam.1 hq with h1 |h1
  ·exact Zs.vars_mem.2 (.inr (.inr (hw q h1 (by omega))))
  ·exact Zs.vars_mem.2 (.inr (.inl (hw0 q h1 hlt)))
 ·rw[hs q (by omega) fun hh=>hn (Zs.vars_mem.2 (.inr (.inr hh))),hH q hq hn]
 ·rcases Zs.vars_mem.1 hq with h1 |h1 |h1
  ·exact .inl (Zs.vars_mem.2 (.inl (h1.trans hp)))
  ·exact .inl (Zs.vars_mem.2 (.inr (.inl (hown▸h1))))
  ·rcases hv q h1 with h2 |h2
   ·exact .inl (Zs.vars_mem.2 (.inr (.inr h2)))
   ·exact .inr (by omega)
theorem SsG.idle(g:SsG [] h i Z){f:FuncId}{args:List AV}{v:AV}{r:d4 -> AV -> Prop}(k:ae Tryz.prog f args h v h [])(hr:r h v):DoesS f args h i Z r Z :=
 ⟨h,[],v,k,hr,g,(fun q hq=>by cases hq),aan _,(fun _ _ _=>rfl),(fun q hq=>.inl hq)⟩
theorem SsG.at_(g:SsG L h i Z)(xs:d4):(h++xs)[i]?=some Z.top:=by rw[aac g.i_lt];exact g.top
def fw(Z:Zs)(f:Fm):List Bk×Er :=
 if f.what=83 then(match eH Z f.name with
  | (_,some e)=>([],some e)
  | (s,none)=>([⟨116,0,[],[],[],0,0,s.oids,[],[],[]⟩,lV s],none))
 else if f.what=80 then(match fJ Z f.portal with
  | (_,some e)=>([],some e)
  | (p,none)=>([lV ⟨p.text,p.oids⟩],none))
 else([],none)
theorem zg(g:SsG [] h i Z)(ho:PsOk Z.S)(hz:Short Z)(hp:zL Z)(f:Fm)(hn:f.name.length <= 100000)(hpn:f.portal.length <= 100000):ae Tryz.prog 97 [.box i 0,.agg (aJ f)] h (aI (fw Z f).1 (fw Z f).2) h []:=by
 have g1:=g.app (c:=aJ f) (by simp) (by simp[aL])
 have hst:=C2 g1 hz f.name hn
 have hpt:=C1 g1 ho hp f.portal hpn
 have hss:(eH Z f.name).1.text.length <= 100000 /\ (eH Z f.name).1.oids.length <= 1000:=by
  unfold eH
  cases hg:Z.get f.name with
  | none=>simp
  | some s=>exact hz.get hg
 have hsp:(fJ Z f.portal).1.text.length <= 100000:=by
  unfold fJ
  cases hg:Z.S.get f.portal with
  | none=>simp[Jj]
  | some x=>obtain⟨y,hy,_,rfl⟩:=dl hg;exact hp y hy
 refine ac k97 mixed (by simp[Sk]) fun hh hargs=>?_
 unfold fw
 by_cases w83:f.what=83
 ·rw[if_pos w83]
  obtain⟨⟨s,o⟩,hso⟩:∃ x,x=eH Z f.name:=⟨_,rfl⟩
  rw[<- hso] at hst hss ⊢
  dsimp only at hss
  simp only[iL] at hst
  simp[Sk,w83]
  refine aa (by simp) hst ?_
  cases o with
  | some e =>
   obtain⟨c,t⟩:=e
   simp[aI,hh,ag]
  | none =>
   have hd:=fun H=>wV s hss.1 H
   simp only[iL] at hd
   simp
   refine aa (by simp) (la s.oids (by omega) _) ?_
   simp
   refine aa (by simp) (hd _) ?_
   simp[aI,hh,ag,aV]
   done
 ·rw[if_neg w83]
  have w83':(f.what==83)=false:=by simpa using w83
  by_cases w80:f.what=80
  ·rw[if_pos w80]
   obtain⟨⟨p,o⟩,hso⟩:∃ x,x=fJ Z f.portal:=⟨_,rfl⟩
   rw[<- hso] at hpt hsp ⊢
   simp only[er,bv] at hpt
   simp[Sk,w83,w83',w80]
   refine aa (by simp) hpt ?_
   cases o with
   | some e =>
    obtain⟨c,t⟩:=e
    simp[aI,hh,ag]
   | none =>
    have hd:=fun H=>wV ⟨p.text,p.oids⟩ hsp H
    simp only[iL] at hd
    simp
    refine aa (by simp) (hd _) ?_
    simp[aI,hh,ag]
    done
  ·rw[if_neg w80]
   have w80':(f.what==80)=false:=by simpa using w80
   simp[Sk,w83,w83',w80,w80',hh,ag,aI]
def kE:d5:=[48,56,80,48,49]
def hP:d5:=[52,50,80,48,51]
def eQ(s:Sx)(f:Fm):Pt:=⟨s.text,s.oids,f.params,[],false,false⟩
def jZ(Z:Zs)(f:Fm):Er:=match eH Z f.name with
 | (_,some e)=>some e
 | (s,none)=>if f.params.length≠s.oids.length then some (kE,fZ f.params.length f.name s.oids.length) else if f.portal≠[] /\ (Z.S.get f.portal).isSome=true then some (hP,kO f.portal) else none
theorem nm{Z:Zs}{k:d5}{s:Sx}(h:eH Z k=(s,none)):Z.get k=some s:=by
 unfold eH at h
 cases hg:Z.get k with
 | none=>rw[hg] at h;cases h
 | some y=>rw[hg] at h;injection h with h1 h2;rw[h1]
theorem K2(g:SsG [] h i Z)(ho:PsOk Z.S)(hz:Short Z)(f:Fm)(hn:f.name.length <= 100000)(hpn:f.portal.length <= 100000)(hps:f.params.length <= 1000 /\ ∀ c∈f.params,c.2.length <= 100000):
  ∃ Z',DoesS 96 [.box i 0,.agg (aJ f)] h i Z (fun _ v=>v=aI [pB 50] (jZ Z f)) Z' /\ (jZ Z f≠none -> Z'=Z) /\ (jZ Z f=none -> ∃ x s,Z.get f.name=some s /\ x.p=eQ s f /\ Z'={ Z with S:=Z.S.put f.portal x }):=by
 have g1:=g.app (c:=aJ f) (by simp) (by simp[aL])
 have hst:=C2 g1 hz f.name hn
 have ni:=g.ni
 have oi:=g.oi
 obtain⟨⟨s,o⟩,hso⟩:∃ x,x=eH Z f.name:=⟨_,rfl⟩
 rw[<- hso] at hst
 have hsl:s.text.length <= 100000 /\ s.oids.length <= 1000:=by
  have:s=(eH Z f.name).1:=by rw[<- hso]
  rw[this]
  unfold eH
  cases hg:Z.get f.name with
  | none=>simp
  | some s=>exact hz.get hg
 unfold jZ
 rw[<- hso]
 have g2:=g1.app (c:=iL s) (by simp[iL]) (by simp[iL])
 have e2:∀ xs,(h++xs)[i]?=some Z.top:=fun xs=>g.at_ xs
 simp only[iL] at hst g2
 cases o with
 | some e =>
  obtain⟨c,t⟩:=e
  refine⟨Z,g.idle (v:=aI [pB 50] (some (c,t))) ?_ rfl,fun _=>rfl,fun hh=>by cases hh⟩
  refine ac UC mixed (by simp[JU]) fun hh hargs=>?_
  simp[JU]
  refine aa (by simp) hst ?_
  simp[aI,hh,ag]
 | none =>
  by_cases hne:f.params.length=s.oids.length
  ·have hne':((f.params.length:Int) != (s.oids.length:Int))=false:=by simp[hne]
   by_cases hcur:f.portal≠[] /\ (Z.S.get f.portal).isSome=true
   ·have hres:(if f.params.length≠s.oids.length then some (kE,fZ f.params.length f.name s.oids.length) else if f.portal≠[] /\ (Z.S.get f.portal).isSome=true then some (hP,kO f.portal) else none:Er)=some (hP,kO f.portal):=by rw[if_neg (by simp[hne]),if_pos hcur]
    dsimp only
    rw[hres]
    obtain⟨x,hx⟩:=Option.isSome_iff_exists.1 hcur.2
    refine⟨Z,g.idle (v:=aI [pB 50] (some (hP,kO f.portal))) ?_ rfl,fun _=>rfl,fun hh=>by cases hh⟩
    have kp:=A9 g2.por hcur.1 hx (eQ s f)
    simp only[er,bv,eQ,aaj,aao,aat,aaw] at kp
    refine ac UC mixed (by simp[JU]) fun hh hargs=>?_
    simp[JU]
    refine aa (by simp) hst ?_
    simp[hne',hne,e2,Zs.top_mk]
    refine ak kp (by simp) (by simp) ?_
    simp
    refine aa (by simp) (Lg f.portal hpn _) ?_
    simp[aI,hh,ag,hP]
   ·have hres:(if f.params.length≠s.oids.length then some (kE,fZ f.params.length f.name s.oids.length) else if f.portal≠[] /\ (Z.S.get f.portal).isSome=true then some (hP,kO f.portal) else none:Er)=none:=by rw[if_neg (by simp[hne]),if_neg hcur]
    dsimp only
    rw[hres]
    have hc:f.portal=[] \/ Z.S.get f.portal=none:=by
     by_cases hp0:f.portal=[]
     ·exact .inl hp0
     ·right
      cases hg:Z.S.get f.portal with
      | none=>rfl
      | some x=>exact absurd ⟨hp0,by rw[hg];rfl⟩ hcur
    have hfit:(eQ s f).fit:=⟨by show s.text.length <= _;omega,by show s.oids.length <= _;omega,⟨by show f.params.length <= _;omega,fun c hcm=>by have:=hps.2 c hcm;omega⟩,⟨by simp[eQ],fun r hr=>by simp[eQ] at hr⟩⟩
    obtain⟨x,hx,dp⟩:=O6 g2.por ho (k:=f.portal) (by omega) hc hfit
    obtain⟨h',wr,kp,g',ht,hl,hw,hs,hv⟩:=g2.byP dp
    have t1:=ht (h.length,aJ f) (by simp)
    have t2:=ht ((h++[aJ f]).length,[AV.v (.string (af s.text)),.sl 1 (am aX s.oids) none .no]) (by simp)
    obtain⟨o1,_⟩:=g2.off hw
    simp only[aaq,List.length_cons,List.length_nil,Nat.zero_add] at t1 t2
    simp only[er,bv,eQ,aaj,aao,aat,aaw] at kp
    have hgh:=g'.hh
    have hl':h.length+1+1 <= h'.length:=by simpa using hl
    refine⟨_,g.does (H:=h++[aJ f]++[[AV.v (.string (af s.text)),.sl 1 (am aX s.oids) none .no]]) (fun q hq _=>by rw[aaj,aac hq]) (by simp) g' hw hs hv hl rfl rfl (w0:=[]) (fun q hq=>by cases hq) (v:=aI [pB 50] none) ?_ rfl,fun hh=>absurd rfl hh,fun _=>⟨x,s,nm hso.symm,hx,rfl⟩⟩
    refine ac UC mixed (by simp[JU]) fun hh hargs=>?_
    simp[JU]
    refine aa (by simp) hst ?_
    simp[hne',hne,e2,Zs.top_mk]
    refine ak kp (by simp) (by simp) ?_
    simp[aI,hgh,ag,t1,t2,o1,pB,aV]
    refine⟨by omega,fun q hq _=>hq.resolve_right (by omega)⟩
  ·have hne2:¬(f.params.length:Int)=(s.oids.length:Int):=by omega
   have hres:(if f.params.length≠s.oids.length then some (kE,fZ f.params.length f.name s.oids.length) else if f.portal≠[] /\ (Z.S.get f.portal).isSome=true then some (hP,kO f.portal) else none:Er)=some (kE,fZ f.params.length f.name s.oids.length):=if_pos hne
   dsimp only
   rw[hres]
   refine⟨Z,g.idle (v:=aI [pB 50] (some (kE,fZ f.params.length f.name s.oids.length))) ?_ rfl,fun _=>rfl,fun hh=>by cases hh⟩
   refine ac UC mixed (by simp[JU]) fun hh hargs=>?_
   simp[JU]
   refine aa (by simp) hst ?_
   simp[hne2]
   refine aa (by simp) (It _ _ f.name (by omega) (by omega) hn _) ?_
   simp[aI,hh,ag,kE]
end
end Ax
namespace Ax
open Go.RowKit Go By YtlbgjlmokpkkeaaGreatDoor.Nm Dg
structure BkG (c:Bool) (m:Bk):Prop where
 fit:lY m
 kind:m.kind≠90
 ok:c=true -> m.kind=69 \/ gl m=0
theorem pj(c:Bool){k:Int}(h:k=49 \/ k=50 \/ k=51 \/ k=73 \/ k=110 \/ k=115):BkG c (pB k):=by
 refine⟨by simp[lY,pB],?_,fun _=>.inr ?_⟩
 ·show k≠90
  omega
 ·rcases h with rfl |rfl |rfl |rfl |rfl |rfl<;>decide
theorem FI(c:Bool)(a b:d5):BkG c (xp a b):=⟨by simp[lY,xp],by simp[xp],fun _=>.inl rfl⟩
theorem nF{m:Bk}(hk:cx m.kind=true)(hr:pF m=true)(hb:fL m=true)(hc:nz m=true)(hn:nA m=true)(hs:fK m=m):gl m=0:=by
 unfold gl
 rw[hk,hr,hb,hc,hn,hs,Bn];rfl
def Jh(t:d5):Bk:=⟨67,0,t,[],[],0,0,[],[],[],[]⟩
theorem Cm(c:Bool){t:d5}(h:cleanB t=true):BkG c (Jh t):=by
 refine⟨by simp[lY,Jh],by simp[Jh],fun _=>.inr (nF (by decide:cx 67=true) rfl rfl ?_ (by decide:nA ⟨67,0,[],[],[],0,0,[],[],[],[]⟩=true) rfl)⟩
 show(cleanB t&&(cleanB []&&cleanB []))=true
 rw[h];rfl
theorem ot(k:Nat):cleanB (Dg.textL (k:Int))=true:=by
 unfold Dg.textL cleanB
 rw[if_neg (by omega),Int.toNat_natCast]
 have h:=Dg.digsN_all k
 simp only[Bool.not_eq_true',List.contains_eq_mem,decide_eq_false_iff_not]
 intro h0
 have:=aak.1 h 0 h0
 revert this;decide
theorem Jr(c:Bool)(n:Nat)(more:Bool):BkG c (Am n more):=by
 unfold Am
 split
 ·exact pj c (by simp)
 ·refine Cm c ?_
  have:=ot n
  unfold cleanB at this ⊢
  simpa using this
theorem F0(i:Nat):qB (zY (i:Int))=true:=by
 have h1:cleanB (99::Dg.textL (i:Int))=true:=by
  have:=ot i
  unfold cleanB at this ⊢
  simpa using this
 unfold qB zY
 simp only[h1,Bool.true_and]
 decide
theorem vT(c:Bool)(s:Sx):BkG c (lV s):=by
 unfold lV
 split
 ·obtain⟨h0,h1⟩:=ic (xN (ct s.text) s.oids.length)
  obtain⟨k,hk⟩:∃ k,k=(dt (xN (ct s.text) s.oids.length)).toNat:=⟨_,rfl⟩
  rw[<- hk]
  have hl:=uo k
  have hall:(dD k).all qB=true:=aak.2 fun c hc=>by
   unfold dD at hc
   obtain⟨j,_,rfl⟩:=aai.1 hc
   exact F0 (j+1)
  refine⟨⟨by simp,by show(dD k).length <= _;omega,by simp,by simp,by simp⟩,by simp,fun _=>.inr (nF (by decide:cx 84=true) rfl ?_ rfl (by decide:nA ⟨84,0,[],[],[],0,0,[],[],[],[]⟩=true) rfl)⟩
  have hfew:wq ⟨84,0,[],[],[],0,0,[],dD k,[],[]⟩=true:=by
   unfold wq
   simp only[decide_eq_true_eq]
   refine⟨by simp,?_,by simp,by simp⟩
   omega
  unfold fL
  rw[hfew]
  show(true&&(([]:List Int).all (cu 4)&&(([]:List Cl).all bS&&((dD k).all qB&&([]:List Fi).all kR))))=true
  rw[hall];rfl
 ·exact pj c (by simp)
def Mn(l:List Int):Bk:=⟨116,0,[],[],[],0,0,l,[],[],[]⟩
theorem Dp(c:Bool){l:List Int}(hl:l.length <= 1000)(h:c=true -> l.all (cu 4)=true):BkG c (Mn l):=by
 refine⟨⟨by show l.length <= _;omega,by simp[Mn],by simp[Mn],by simp[Mn],by simp[Mn]⟩,by simp[Mn],fun hc=>.inr (nF (by decide:cx 116=true) rfl ?_ rfl (by decide:nA ⟨116,0,[],[],[],0,0,[],[],[],[]⟩=true) rfl)⟩
 have hfew:wq (Mn l)=true:=by
  unfold wq Mn
  simp only[decide_eq_true_eq]
  refine⟨?_,by simp,by simp,by simp⟩
  omega
 unfold fL
 rw[hfew]
 show(true&&(l.all (cu 4)&&(([]:List Cl).all bS&&(([]:List Co).all qB&&([]:List Fi).all kR))))=true
 rw[h hc];rfl
def re(c:Bool)(r:List Cl):Prop:=r.length <= 1000 /\ ∀ x∈r,x.2.length <= 1000 /\ (c=true -> bS x=true)
theorem Js(c:Bool){r:List Cl}(h:re c r):BkG c (jg r):=by
 obtain⟨h1,h2⟩:=h
 refine⟨⟨by simp[jg],by simp[jg],by show r.length <= _;omega,by simp[jg],fun x hx=>by have:=(h2 x hx).1;omega⟩,by simp[jg],fun hc=>.inr (nF (by decide:cx 68=true) rfl ?_ rfl (by decide:nA ⟨68,0,[],[],[],0,0,[],[],[],[]⟩=true) rfl)⟩
 have hfew:wq (jg r)=true:=by
  unfold wq jg
  simp only[decide_eq_true_eq]
  refine⟨by simp,by simp,?_,by simp⟩
  omega
 have hall:r.all bS=true:=aak.2 fun x hx=>(h2 x hx).2 hc
 unfold fL
 rw[hfew]
 show(true&&(([]:List Int).all (cu 4)&&(r.all bS&&(([]:List Co).all qB&&([]:List Fi).all kR))))=true
 rw[hall];rfl
def RowsF(c:Bool)(l:List (List Cl)):Prop:=l.length <= 1000 /\ ∀ r∈l,re c r
theorem rk(c:Bool){l:List (List Cl)}(h:RowsF c l)(more:Bool):∀ m∈cr l more,BkG c m:=fun m hm=>by
 unfold cr at hm
 rcases aam.1 hm with hm |hm
 ·obtain⟨r,hr,rfl⟩:=aai.1 hm
  exact Js c (h.2 r hr)
 ·rw[aaa.1 hm];exact Jr c _ _
theorem RowsF.fit{c:Bool}{l:List (List Cl)}(h:RowsF c l):RowsFit l:=⟨by have:=h.1;omega,fun r hr=>⟨by have:=(h.2 r hr).1;omega,fun x hx=>by have:=((h.2 r hr).2 x hx).1;omega⟩⟩
theorem RowsF.told{c:Bool}{l:List (List Cl)}(h:RowsF c l):l.length <= 1000000 /\ ∀ r∈l,r.length <= 1000000 /\ ∀ x∈r,x.2.length <= 140737488351232:=⟨by have:=h.1;omega,fun r hr=>⟨by have:=(h.2 r hr).1;omega,fun x hx=>by have:=((h.2 r hr).2 x hx).1;omega⟩⟩
theorem RowsF.sub{c:Bool}{l m:List (List Cl)}(h:RowsF c l)(hs:m.Sublist l):RowsF c m:=⟨aal hs.length_le h.1,fun r hr=>h.2 r (hs.subset hr)⟩
theorem rz(n:Nat)(hn:n <= 1000000):(Dg.textL (n:Int)).length <= 1000 /\ bS (false,Dg.textL (n:Int))=true:=by
 have:=ce (n:Int) (by omega) (by omega)
 refine⟨by omega,?_⟩
 unfold bS
 simp;omega
theorem CT(c:Bool)(v:Vb)(n:Nat)(hn:n <= 100000){ps:List Cl}(hp:re c ps):RowsF c (iw v n ps):=by
 unfold iw
 split
 ·obtain⟨h0,h1⟩:=ic v.n
  have hl:=vk (dt v.n).toNat
  refine⟨by omega,fun r hr=>?_⟩
  unfold jh at hr
  obtain⟨j,hj,rfl⟩:=aai.1 hr
  have hj2:=List.mem_range.1 hj
  obtain⟨q1,q2⟩:=rz (j+1) (by omega)
  rw[show((j+1:Nat):Int)=(j:Int)+1 by omega] at q1 q2
  exact⟨by simp[EC],fun x hx=>by rw[aaa.1 hx];exact⟨q1,fun _=>q2⟩⟩
 ·split
  ·exact⟨by simp,fun r hr=>by rw[aaa.1 hr];exact hp⟩
  ·split
   ·obtain⟨q1,q2⟩:=rz (n+1) (by omega)
    rw[show((n+1:Nat):Int)=(n:Int)+1 by omega] at q1 q2
    exact⟨by simp,fun r hr=>by rw[aaa.1 hr];exact⟨by simp,fun x hx=>by rw[aaa.1 hx];exact⟨q1,fun _=>q2⟩⟩⟩
   ·exact⟨by simp,fun r hr=>by cases hr⟩
theorem yI(v:Vb)(n:Nat):du v n <= n+1:=by unfold du;split<;>omega
structure FmS (c:Bool) (f:Fm):Prop where
 name:f.name.length <= 1000
 portal:f.portal.length <= 1000
 text:f.text.length <= 1000
 oids:f.oids.length <= 1000 /\ (c=true -> f.oids.all (cu 4)=true)
 params:re c f.params
structure PtF (c:Bool) (p:Pt):Prop where
 text:p.text.length <= 1000
 oids:p.oids.length <= 1000
 ps:re c p.ps
 rows:RowsF c p.rows
structure ZOk (c:Bool) (n:Nat) (Z:Zs):Prop where
 en:Z.T.n <= n
 ko:KE.Ok Z.clock Z.st
 len:Z.st.length <= n
 sx:∀ x∈Z.st,x.val.text.length <= 1000 /\ x.val.oids.length <= 1000 /\ (c=true -> x.val.oids.all (cu 4)=true)
 po:PsOk Z.S
 pf:∀ x∈Z.S.e,PtF c x.val.p
 st:EV Z.status=true
section
variable {c:Bool} {n:Nat} {Z:Zs}
theorem ZOk.short(z:ZOk c n Z):Short Z:=fun x hx=>by have:=z.sx x hx;exact⟨by omega,by omega⟩
theorem ZOk.shortP(z:ZOk c n Z):zL Z:=fun x hx=>by have:=(z.pf x hx).text;omega
theorem ZOk.mono(z:ZOk c n Z){m:Nat}(h:n <= m):ZOk c m Z:=⟨aal z.en h,z.ko,aal z.len h,z.sx,z.po,z.pf,z.st⟩
theorem ZOk.get(z:ZOk c n Z){k:d5}{s:Sx}(h:Z.get k=some s):s.text.length <= 1000 /\ s.oids.length <= 1000 /\ (c=true -> s.oids.all (cu 4)=true):=by
 obtain⟨x,hx,_,rfl⟩:=dl h
 exact z.sx x hx
theorem ZOk.getP(z:ZOk c n Z){k:d5}{x:PV}(h:Z.S.get k=some x):PtF c x.p:=by
 obtain⟨y,hy,_,rfl⟩:=dl h
 exact z.pf y hy
theorem ZOk.del(z:ZOk c n Z)(k:d5):ZOk c n (Z.del k):=⟨z.en,KE.del_ok z.ko k,aal (KE.del_len _ _) z.len,fun x hx=>z.sx x ((KE.mem_del z.ko).1 hx).1,z.po,z.pf,z.st⟩
theorem ZOk.put(z:ZOk c n Z)(k:d5){s:Sx}(h:s.text.length <= 1000 /\ s.oids.length <= 1000 /\ (c=true -> s.oids.all (cu 4)=true)):ZOk c (n+1) (Z.put k s):=by
 refine⟨aar z.en,KE.put_ok z.ko k s,?_,fun x hx=>?_,z.po,z.pf,z.st⟩
 ·show(KE.put k Z.clock s Z.st).length <= _
  rw[KE.put_len]
  have:=z.len
  split<;>omega
 ·rcases de z.ko hx with⟨_,e⟩ |⟨_,h2⟩
  ·rw[e];exact h
  ·exact z.sx x h2
theorem ZOk.setS(z:ZOk c n Z){S:Ps}(ho:PsOk S)(hf:∀ x∈S.e,PtF c x.val.p):ZOk c n { Z with S:=S }:=⟨z.en,z.ko,z.len,z.sx,ho,hf,z.st⟩
theorem ZOk.clear(z:ZOk c n Z):ZOk c n { Z with S:=Z.S.clear }:=z.setS PsOk.clear (fun x hx=>by cases hx)
theorem ZOk.delP(z:ZOk c n Z)(k:d5):ZOk c n { Z with S:=Z.S.del k }:=z.setS (z.po.del k) (fun x hx=>z.pf x ((KE.mem_del z.po.ok).1 hx).1)
theorem PtF.fit{p:Pt}(h:PtF c p):p.fit:=⟨by have:=h.text;omega,by have:=h.oids;omega,⟨by have:=h.ps.1;omega,fun x hx=>by have:=(h.ps.2 x hx).1;omega⟩,h.rows.fit⟩
theorem ZOk.putP(z:ZOk c n Z)(k:d5){x:PV}(hx:PtF c x.p):ZOk c n { Z with S:=Z.S.put k x }:=z.setS (z.po.put k hx.fit) (fun y hy=>by
 rcases de z.po.ok hy with⟨_,e⟩ |⟨_,h2⟩
 ·rw[e];exact hx
 ·exact z.pf y h2)
theorem ZOk.setT(z:ZOk c n Z){s:Int}(h:EV s=true)(sk ov:Bool):ZOk c n { Z with status:=s,skips:=sk,over:=ov }:=⟨z.en,z.ko,z.len,z.sx,z.po,z.pf,h⟩
theorem ZOk.setE(z:ZOk c n Z){m:Nat}(h:m <= n+1):ZOk c (n+1) { Z with T:={ Z.T with n:=m } }:=⟨h,z.ko,aar z.len,z.sx,z.po,z.pf,z.st⟩
theorem ZOk.parse1(z:ZOk c n Z)(f:Fm):ZOk c n (parse1 Z f):=by
 unfold Ax.parse1
 split
 ·exact z.del _
 ·exact z
theorem ZOk.parse(z:ZOk c n Z){f:Fm}(hf:FmS c f):ZOk c (n+1) (mX Z f):=by
 unfold mX
 split
 ·exact(z.parse1 f).mono (aad _)
 ·split
  ·exact(z.parse1 f).mono (aad _)
  ·exact(z.parse1 f).put _ ⟨hf.text,hf.oids.1,hf.oids.2⟩
theorem ZOk.close(z:ZOk c n Z)(f:Fm):ZOk c n (mJ Z f):=by
 unfold mJ
 split
 ·exact z.del _
 ·split
  ·exact z.delP _
  ·exact z
theorem FH(z:ZOk c n Z)(f:Fm):∀ m∈(fw Z f).1,BkG c m:=by
 unfold fw
 split
 ·obtain⟨⟨s,o⟩,hso⟩:∃ x,x=eH Z f.name:=⟨_,rfl⟩
  rw[<- hso]
  cases o with
  | some e=>intro m hm;cases hm
  | none =>
   have hs:=z.get (nm hso.symm)
   intro m hm
   simp at hm
   rcases hm with rfl |rfl
   ·exact Dp c hs.2.1 hs.2.2
   ·exact vT c s
 ·split
  ·obtain⟨⟨p,o⟩,hso⟩:∃ x,x=fJ Z f.portal:=⟨_,rfl⟩
   rw[<- hso]
   cases o with
   | some e=>intro m hm;cases hm
   | none =>
    intro m hm
    simp at hm
    rw[hm];exact vT c _
  ·intro m hm;cases hm
theorem Do(c:Bool)(f:Fm):∀ m∈iF f,BkG c m:=by
 unfold iF
 split
 ·intro m hm;rw[aaa.1 hm];exact pj c (by simp)
 ·intro m hm;cases hm
end
end Ax
namespace Ax
open Go.RowKit Go By
section
variable {L:List (Nat×List AV)} {h:d4} {i:Nat} {Z:Zs}
def Uw:d5:=[102,97,105,108,101,100,32,111,110,32,112,117,114,112,111,115,101]
def eK(v:Vb):Er:=if v.kind=8 then some (v.code,Uw) else none
def lU(Z:Zs)(v:Vb):Bk:=if v.kind=1 then pB 73 else Jh (Lj Z.status v.kind)
def gU(Z:Zs)(v:Vb):Zs:=if v.kind=1 \/ v.kind=8 then Z else { Z with status:=zo Z.status v.kind,S:=if fH v.kind=true then Z.S.clear else Z.S }
def zQ(m:Bk)(o:Er):AV:=.tup [if o.isSome=true then .sl 0 [] (some true) .exact else .sl 11 [bh m] (some false) .exact,tG o]
theorem uj(m:Bk):zQ m none=.tup [.sl 11 [bh m] (some false) .exact,.v .nilIface]:=rfl
theorem Dh(m:Bk)(c t:d5):zQ m (some (c,t))=.tup [.sl 0 [] (some true) .exact,tG (some (c,t))]:=rfl
theorem L1(Z:Zs)(i:Nat):∀ q∈[i],q∈Z.own i:=by simp[Zs.own]
theorem SsG.turned(g:SsG [] h i Z)(st:Int)(sk ov:Bool){f:FuncId}{args:List AV}{v:AV}{r:d4 -> AV -> Prop}(k:ae Tryz.prog f args h v (h.set i { Z with status:=st,skips:=sk,over:=ov }.top) [i])(hr:∀ h',r h' v):DoesS f args h i Z r { Z with status:=st,skips:=sk,over:=ov } :=
 ⟨_,[i],v,k,hr _,g.setTop st sk ov,fun q hq _=>Zs.vars_mem.2 (.inr (.inl (L1 Z i q hq))),by simp,fun q hq hn=>aab fun e=>hn (by rw[<- e];exact Zs.vars_mem.2 (.inr (.inl (by simp[Zs.own])))),fun q hq=>.inl hq⟩
theorem Bj(g:SsG [] h i Z)(v:Vb):DoesS 131 [.box i 0,.agg (fC v)] h i Z (fun _ r=>r=zQ (lU Z v) (eK v)) (gU Z v):=by
 have e1:∀ xs,(h++xs)[i]?=some Z.top:=fun xs=>g.at_ xs
 have e3:∀ xs cs,(h++xs).set i cs=h.set i cs++xs:=fun xs cs=>aaf _ _ g.i_lt
 have f1:∀ xs cs,(h.set i cs++xs)[i]?=some cs:=fun xs cs=>by rw[aac (by simpa using g.i_lt)];exact aah g.i_lt
 by_cases k1:v.kind=1
 ·have k8:¬v.kind=8:=by omega
  have ez:gU Z v=Z:=if_pos (.inl k1)
  have eb:lU Z v=pB 73:=if_pos k1
  have eo:eK v=none:=if_neg k8
  rw[ez,eb,eo,uj]
  refine g.idle (v:=.tup [.sl 11 [bh (pB 73)] (some false) .exact,.v .nilIface]) ?_ rfl
  refine ac Kh mixed (by simp[vX]) fun hh hargs=>?_
  simp[vX,k1,hh,ag,pB,aV]
 have k1':(v.kind==1)=false:=by simpa using k1
 by_cases k8:v.kind=8
 ·have ez:gU Z v=Z:=if_pos (.inr k8)
  have eo:eK v=some (v.code,Uw):=if_pos k8
  rw[ez,eo,Dh]
  refine g.idle (v:=.tup [.sl 0 [] (some true) .exact,tG (some (v.code,Uw))]) ?_ rfl
  refine ac Kh mixed (by simp[vX]) fun hh hargs=>?_
  simp[vX,k1,k1',k8,hh,ag,Uw]
 have k8':(v.kind==8)=false:=by simpa using k8
 have ez:gU Z v={ Z with status:=zo Z.status v.kind,S:=if fH v.kind=true then Z.S.clear else Z.S }:=if_neg (by rintro(e |e);exact k1 e;exact k8 e)
 have eb:lU Z v=Jh (Lj Z.status v.kind):=if_neg k1
 have eo:eK v=none:=if_neg k8
 rw[ez,eb,eo,uj]
 cases hx:fH v.kind with
 | false =>
  rw[if_neg (by simp)]
  refine g.turned (zo Z.status v.kind) Z.skips Z.over (v:=.tup [.sl 11 [bh (Jh (Lj Z.status v.kind))] (some false) .exact,.v .nilIface]) ?_ (fun _=>rfl)
  have hl:=ao (i:=i) g.hh (Zs.top_lt { Z with status:=zo Z.status v.kind } g.e_lt g.a_lt g.p_lt)
  simp only[Zs.top_mk] at hl ⊢
  refine ac Kh mixed (by simp[vX]) fun hh hargs=>?_
  simp[vX,k1,k1',k8,k8',e1,Zs.top_mk]
  refine aa (by simp) (zr Z.status v _) ?_
  simp[e1,Zs.top_mk,e3]
  refine aa (by simp) (wW v _) ?_
  simp[hx,hl,ag,bA,Jh,aV]
 | true =>
  rw[if_pos rfl]
  have g1:=(g.setTop (zo Z.status v.kind) Z.skips Z.over).app (c:=fC v) (by simp) (by simp[gO])
  obtain⟨h',wr,k,g',ht,hl,hw,hs,hv⟩:=g1.byP (sE g1.por)
  obtain⟨o1,_⟩:=g1.off hw
  have t1:=ht ((h.set i { Z with status:=zo Z.status v.kind,skips:=Z.skips,over:=Z.over }.top).length,fC v) (by simp)
  have hl':h.length+1 <= h'.length:=by simpa using hl
  have hgh:=g'.hh
  simp only[aag] at t1
  simp only[Zs.top_mk] at k
  refine g.does (H:=h.set i { Z with status:=zo Z.status v.kind,skips:=Z.skips,over:=Z.over }.top++[fC v]) (fun q hq hn=>?_) (by simp) g' hw hs hv hl rfl rfl (w0:=[i]) (fun q hq _=>L1 Z i q hq) (v:=.tup [.sl 11 [bh (Jh (Lj Z.status v.kind))] (some false) .exact,.v .nilIface]) ?_ rfl
  ·rw[aac (by simpa using hq),aab fun e=>hn (by rw[<- e];exact Zs.vars_mem.2 (.inr (.inl (by simp[Zs.own]))))]
  ·refine ac Kh mixed (by simp[vX]) fun hh hargs=>?_
   simp[vX,k1,k1',k8,k8',e1,Zs.top_mk]
   refine aa (by simp) (zr Z.status v _) ?_
   simp[e1,Zs.top_mk,e3]
   refine aa (by simp) (wW v _) ?_
   simp[hx,f1]
   refine aa (by simp) k ?_
   simp[hgh,ag,Jh,aV,o1,t1]
   refine⟨by omega,?_⟩
   intro q hq _
   first |exact hq |exact hq.symm |(rcases hq with hq |hq;exact .inr hq;exact .inl hq)
def nM(Z:Zs):Zs:={ Z with status:=qH Z.status,S:=if qH Z.status=69 then Z.S.clear else Z.S }
theorem sV(g:SsG L h i Z):ae Tryz.prog 74 [.box i 0,.v .nilIface] h (.sl 0 [] (some true) .exact) h []:=by
 refine ac Yz mixed (by simp[N9]) fun hh hargs=>?_
 simp[N9]
 refine aa (by simp) (Jp _ rfl) ?_
 simp[hh,ag]
theorem zf(g:SsG [] h i Z)(c t:d5):DoesS 74 [.box i 0,tG (some (c,t))] h i Z (fun _ r=>r=.sl 11 [bh (xp c t)] (some false) .exact) (nM Z):=by
 have e1:∀ xs,(h++xs)[i]?=some Z.top:=fun xs=>g.at_ xs
 have e3:∀ xs cs,(h++xs).set i cs=h.set i cs++xs:=fun xs cs=>aaf _ _ g.i_lt
 have f1:∀ xs cs,(h.set i cs++xs)[i]?=some cs:=fun xs cs=>by rw[aac (by simpa using g.i_lt)];exact aah g.i_lt
 have oi:=g.oi
 have ka:=Jo (h:=h++[[AV.v (.string (af [])),.v (.string (af []))]]) c t (i:=h.length) (cs:=[AV.v (.string (af [])),.v (.string (af []))]) (by simp) rfl
 simp only[K4,List.set_cons_zero] at ka
 have hb:∀ H,ae Tryz.prog 102 [.v (.string (af c)),.v (.string (af t))] H (.agg (bh (xp c t))) H []:=fun H=>Gf c t H
 unfold nM
 by_cases s69:qH Z.status=69
 ·rw[if_pos s69]
  have g1:=(g.setTop (qH Z.status) Z.skips Z.over).app (c:=[AV.v (.string (af c)),.v (.string (af t))]) (by simp) (by simp)
  obtain⟨h',wr,k,g',ht,hl,hw,hs,hv⟩:=g1.byP (sE g1.por)
  obtain⟨o1,_⟩:=g1.off hw
  obtain⟨t2,_⟩:=g'.tmp _ (aae ..)
  have t1:=ht ((h.set i { Z with status:=qH Z.status,skips:=Z.skips,over:=Z.over }.top).length,[AV.v (.string (af c)),.v (.string (af t))]) (by simp)
  have hl':h.length+1 <= h'.length:=by simpa using hl
  have hgh:=g'.hh
  simp only[aag] at t1 t2
  simp only[Zs.top_mk] at k
  refine g.does (H:=h.set i { Z with status:=qH Z.status,skips:=Z.skips,over:=Z.over }.top++[[AV.v (.string (af c)),.v (.string (af t))]]) (fun q hq hn=>?_) (by simp) g' hw hs hv hl rfl rfl (w0:=[i,h.length]) (fun q hq hlt=>?_) (v:=.sl 11 [bh (xp c t)] (some false) .exact) ?_ rfl
  ·rw[aac (by simpa using hq),aab fun e=>hn (by rw[<- e];exact Zs.vars_mem.2 (.inr (.inl (by simp[Zs.own]))))]
  ·simp at hq
   rcases hq with rfl |rfl
   ·simp[Zs.own]
   ·omega
  ·rw[s69] at k
   refine ac Yz mixed (by simp[N9]) fun hh hargs=>?_
   simp[N9]
   refine aa (by simp) ka ?_
   simp[e1,Zs.top_mk,oi]
   refine aa (by simp) (zq Z.status _) ?_
   simp[e1,Zs.top_mk,e3,s69,f1]
   refine aa (by simp) k ?_
   simp[t2]
   refine aa (by simp) (hb _) ?_
   simp[hgh,ag,o1,t1]
   refine⟨by omega,?_⟩
   intro q hq _
   first |exact hq |(rcases hq with hq |hq |hq<;>simp[hq])
 ·rw[if_neg s69]
  have s69':(qH Z.status==69)=false:=by simpa using s69
  refine g.turned (qH Z.status) Z.skips Z.over (v:=.sl 11 [bh (xp c t)] (some false) .exact) ?_ (fun _=>rfl)
  have hl:=ao (i:=i) g.hh (Zs.top_lt { Z with status:=qH Z.status } g.e_lt g.a_lt g.p_lt)
  simp only[Zs.top_mk] at hl ⊢
  refine ac Yz mixed (by simp[N9]) fun hh hargs=>?_
  simp[N9]
  refine aa (by simp) ka ?_
  simp[e1,Zs.top_mk,oi]
  refine aa (by simp) (zq Z.status _) ?_
  simp[e1,Zs.top_mk,e3,s69,s69',f1]
  refine aa (by simp) (hb _) ?_
  simp[hl,ag,bA]
def zB(s:Int):Bk:=⟨90,s,[],[],[],0,0,[],[],[],[]⟩
def cQ(Z:Zs):Zs:={ Z with S:=if Z.status=73 then Z.S.clear else Z.S }
theorem SsG.setTmp(g:SsG L h i Z){t:Nat}(ht:t∉Z.vars i)(hL:∀ x∈L,x.1≠t){c:List AV}(hc:cb h.length c)(hid:∀ x∈c,x.idOf=.none):SsG L (h.set t c) i Z:=by
 have ne:∀ q∈Z.vars i,t≠q:=fun q hq e=>ht (e▸hq)
 have own:∀ q∈Z.own i,(h.set t c)[q]?=h[q]?:=fun q hq=>aab (ne q (Zs.vars_mem.2 (.inr (.inl hq))))
 have hl:=ao (i:=t) g.hh hc
 refine⟨(own i (by simp[Zs.own])).trans g.top,g.eng.move (own _ (by simp[Zs.own])) (own _ (by simp[Zs.own])),(own _ (by simp[Zs.own])).trans g.ents,?_,g.nd,g.sep,fun x hx=>?_,fun hb=>bY (g.pl hb) hid _⟩
 ·exact g.por.move (aab (ne _ (Zs.vars_mem.2 (.inl rfl)))) (fun q hq=>aab (ne q (Zs.vars_mem.2 (.inr (.inr hq))))) (by rw[aag];exact hl)
 ·obtain⟨t1,t2⟩:=g.tmp x hx
  exact⟨by rw[aab (Ne.symm (hL x hx))];exact t1,t2⟩
theorem om(g:SsG [] h i Z):DoesS 71 [.box i 0] h i Z (fun _ r=>r=.agg (bh (zB Z.status))) (cQ Z):=by
 have e1:∀ xs,(h++xs)[i]?=some Z.top:=fun xs=>g.at_ xs
 by_cases s73:Z.status=73
 ·have ez:cQ Z={ Z with S:=Z.S.clear }:=by unfold cQ;rw[if_pos s73]
  rw[ez]
  have g1:=g.app (c:=RV) (by simp[RV]) (by simp[RV])
  obtain⟨h',wr,k,g',ht,hl,hw,hs,hv⟩:=g1.byP (sE g1.por)
  obtain⟨o1,_⟩:=g1.off hw
  have t1:=ht (h.length,RV) (by simp)
  obtain⟨t2,t3⟩:=g'.tmp _ (aae ..)
  have hl':h.length+1 <= h'.length:=by simpa using hl
  dsimp only at t1 t2 t3
  have g2:=g'.none.setTmp (t:=h.length) t3 (fun x hx=>by cases hx) (c:=bh (zB Z.status)) (by simp) (by simp[aV])
  have hgh:=g2.hh
  have ni:¬i=h.length:=g.oi
  obtain⟨t4,_⟩:=g'.none.setTmp (t:=h.length) t3 (fun x hx=>by cases hx) (c:=bh (zB Z.status)) (by simp) (by simp[aV])
  have t5:h'[i]?=some Z.top:=by
   have:=g'.top
   exact this
  simp only[aag] at hgh
  simp only[RV] at k t2
  have hlen1:(h++[RV]).length=h.length+1:=by simp
  refine g.does (H:=h) (fun q hq hn=>rfl) (aan _) g2 (fun q hq hlt=>hw q hq (by omega)) (fun q hq hn=>?_) (fun q hq=>?_) (by rw[aag];omega) rfl rfl (w0:=[h.length]) (fun q hq hlt=>?_) (v:=.agg (bh (zB Z.status))) ?_ rfl
  ·rw[aab (by omega),hs q (by omega) hn,aac hq]
  ·rcases hv q hq with h1 |h1
   ·exact .inl h1
   ·right;omega
  ·simp at hq;omega
  ·simp only[zB,aV] at hgh ⊢
   refine ac Y7 mixed (by simp[Si]) fun hh hargs=>?_
   simp[Si,e1,Zs.top_mk,s73]
   refine aa (by simp) k ?_
   have e6:∀ X,(h'.set h.length X)[h.length]?=some X:=fun X=>aah (by omega)
   simp[t5,Zs.top_mk,t2,s73,hgh,e6,ag,t1,o1]
   exact⟨by omega,by simpa[s73] using hgh,fun q hq _=>.inl hq⟩
 ·have ez:cQ Z=Z:=by unfold cQ;rw[if_neg s73]
  have s73':(Z.status==73)=false:=by simpa using s73
  rw[ez]
  refine g.idle (v:=.agg (bh (zB Z.status))) ?_ rfl
  refine ac Y7 mixed (by simp[Si]) fun hh hargs=>?_
  simp[Si,e1,Zs.top_mk,s73,s73',hh,ag,zB,aV]
end
section
variable {α β:Type}
def kv(f:α -> β)(l:List (KE α)):List (d5 × β):=l.map fun x=>(x.key,f x.val)
def ns(k:d5)(l:List (d5 × β)):Option β:=(l.find? fun x=>decide (x.1=k)).map Prod.snd
def uh(k:d5)(v:β)(l:List (d5 × β)):List (d5 × β):=if(ns k l).isSome=true then l.map (fun x=>if x.1=k then(x.1,v) else x) else l++[(k,v)]
def qI(k:d5)(l:List (d5 × β)):List (d5 × β):=l.eraseP fun x=>decide (x.1=k)
theorem oz(f:α -> β)(k:d5)(l:List (KE α)):ns k (kv f l)=(KE.get k l).map f:=by
 unfold ns kv KE.get KE.find
 rw[List.find?_map]
 simp only[Function.comp_def,Option.map_map]
theorem wB(f:α -> β)(k:d5)(c:Nat)(v:α)(l:List (KE α)):kv f (KE.put k c v l)=uh k (f v) (kv f l):=by
 unfold uh KE.put
 rw[oz,aas,KE.get_isSome]
 split
 ·unfold kv
  rw[aax,aax]
  refine List.map_congr_left fun x _=>?_
  show((KE.upd k v x).key,f (KE.upd k v x).val)=if x.key=k then(x.key,f v) else(x.key,f x.val)
  unfold KE.upd
  split<;>rfl
 ·unfold kv
  rw[List.map_append];rfl
theorem sf(f:α -> β)(k:d5)(l:List (KE α)):kv f (KE.del k l)=qI k (kv f l):=by
 unfold qI KE.del kv
 rw[List.eraseP_map];rfl
end
structure Va where
 n:Nat
 no:List d5
 st:List (d5×Sx)
 ps:List (d5×Pt)
 status:Int
 skips:Bool
 over:Bool
 pln:Bool
def Zs.V(Z:Zs):Va:=⟨Z.T.n,Z.T.e.map KE.key,kv id Z.st,kv PV.p Z.S.e,Z.status,Z.skips,Z.over,Z.pln⟩
theorem U6(T:Eg)(k:d5):T.no k=(T.e.map KE.key).contains k:=by
 unfold Eg.no
 rw[KE.get_isSome,Bool.eq_iff_iff,List.contains_iff_mem]
 unfold KE.find
 rw[List.find?_isSome]
 simp
theorem LJ(Z:Zs)(k:d5):Z.get k=ns k Z.V.st:=by
 show KE.get k Z.st=ns k (kv id Z.st)
 rw[oz,Option.map_id];rfl
theorem Fy(Z:Zs)(k:d5):(Z.S.get k).map PV.p=ns k Z.V.ps:=(oz PV.p k Z.S.e).symm
def tr(A:Va)(s:d5):Er:=UT (verdict (A.no.contains s) (ct s) A.status)
theorem zO(Z:Zs)(s:d5):jl Z s=tr Z.V s:=by
 unfold jl tr
 rw[U6];rfl
def vQ(st:Int)(s:Sx):Er:=if st=69 /\ fH (ct s.text).kind=false then some (RZ,R8) else none
def ln(A:Va)(k:d5):Sx×Er:=match ns k A.st with
 | none=>(⟨[],[]⟩,some (GP,uP k))
 | some s=>(s,vQ A.status s)
theorem zN(Z:Zs)(k:d5):eH Z k=ln Z.V k:=by
 unfold eH ln
 rw[LJ];rfl
def qe(A:Va)(k:d5):Pt×Er:=match ns k A.ps with
 | none=>(Jj,some (Ha,vd k))
 | some p=>(p,vQ A.status ⟨p.text,p.oids⟩)
theorem zM(Z:Zs)(k:d5):fJ Z k=qe Z.V k:=by
 unfold fJ qe
 rw[<- Fy]
 cases Z.S.get k<;>rfl
def fP(A:Va)(f:Fm):Va:=if f.name=[] then { A with st:=qI [] A.st } else A
theorem ny(Z:Zs)(f:Fm):(parse1 Z f).V=fP Z.V f:=by
 unfold parse1 fP
 split
 ·show Va.mk _ _ (kv id (KE.del [] Z.st)) _ _ _ _ _=_
  rw[sf];rfl
 ·rfl
def pA(A:Va)(f:Fm):Er×Va:=match tr A f.text with
 | some e=>(some e,fP A f)
 | none=>if(ns f.name (fP A f).st).isSome=true then(some (rT,mM f.name),fP A f) else(none,{ fP A f with st:=uh f.name ⟨f.text,f.oids⟩ (fP A f).st })
theorem Jm(Z:Zs)(f:Fm):(sC Z f,(mX Z f).V)=pA Z.V f:=by
 unfold sC mX pA
 rw[zO]
 cases tr Z.V f.text with
 | some e=>rw[<- ny]
 | none =>
  rw[LJ,ny]
  dsimp only
  split
  ·rw[ny]
  ·rw[<- ny]
   show(_,Va.mk _ _ (kv id (KE.put f.name _ _ (parse1 Z f).st)) _ _ _ _ _)=_
   rw[wB];rfl
def rJ(A:Va)(f:Fm):List Bk×Er :=
 if f.what=83 then(match ln A f.name with
  | (_,some e)=>([],some e)
  | (s,none)=>([⟨116,0,[],[],[],0,0,s.oids,[],[],[]⟩,lV s],none))
 else if f.what=80 then(match qe A f.portal with
  | (_,some e)=>([],some e)
  | (p,none)=>([lV ⟨p.text,p.oids⟩],none))
 else([],none)
theorem MO(Z:Zs)(f:Fm):fw Z f=rJ Z.V f:=by
 unfold fw rJ
 rw[zN,zM]
 all_goals obtain⟨s,o⟩:=ln Z.V f.name
 all_goals obtain⟨p,o2⟩:=qe Z.V f.portal
 all_goals (cases o<;>cases o2<;>rfl)
def kI(A:Va)(f:Fm):Er×Va:=match ln A f.name with
 | (_,some e)=>(some e,A)
 | (s,none)=>if f.params.length≠s.oids.length then(some (kE,fZ f.params.length f.name s.oids.length),A) else if f.portal≠[] /\ (ns f.portal A.ps).isSome=true then(some (hP,kO f.portal),A) else(none,{ A with ps:=uh f.portal (eQ s f) A.ps })
theorem Ch(Z:Zs)(f:Fm):jZ Z f=(kI Z.V f).1:=by
 unfold jZ kI
 rw[zN,<- Fy,aas]
 obtain⟨s,o⟩:=ln Z.V f.name
 cases o with
 | some e=>rfl
 | none =>
  dsimp only
  split
  ·rfl
  ·split<;>rfl
theorem Dn{Z:Zs}{f:Fm}{e:d5×d5}(h:jZ Z f=some e):kI Z.V f=(some e,Z.V):=by
 have hb:=Ch Z f
 rw[h] at hb
 unfold kI at hb ⊢
 cases hst:ln Z.V f.name with
 | mk s o =>
 rw[hst] at hb
 cases o with
 | some e2=>exact Prod.ext hb.symm rfl
 | none =>
  dsimp only at hb ⊢
  by_cases q1:f.params.length≠s.oids.length
  ·rw[if_pos q1] at hb ⊢
   exact Prod.ext hb.symm rfl
  ·rw[if_neg q1] at hb ⊢
   by_cases q2:f.portal≠[] /\ (ns f.portal Z.V.ps).isSome=true
   ·rw[if_pos q2] at hb ⊢
    exact Prod.ext hb.symm rfl
   ·rw[if_neg q2] at hb
    cases hb
theorem FF{Z:Zs}{f:Fm}(h:jZ Z f=none):∃ s,eH Z f.name=(s,none) /\ kI Z.V f=(none,{ Z.V with ps:=uh f.portal (eQ s f) Z.V.ps }):=by
 have hb:=Ch Z f
 rw[h] at hb
 rw[zN]
 unfold kI at hb ⊢
 cases hst:ln Z.V f.name with
 | mk s o =>
 rw[hst] at hb
 cases o with
 | some e2=>cases hb
 | none =>
  refine⟨s,rfl,?_⟩
  dsimp only at hb ⊢
  by_cases q1:f.params.length≠s.oids.length
  ·rw[if_pos q1] at hb
   cases hb
  ·rw[if_neg q1] at hb ⊢
   by_cases q2:f.portal≠[] /\ (ns f.portal Z.V.ps).isSome=true
   ·rw[if_pos q2] at hb
    cases hb
   ·rw[if_neg q2]
def rE(A:Va)(f:Fm):Va:=if f.what=83 then { A with st:=qI f.name A.st } else if f.what=80 then { A with ps:=qI f.portal A.ps } else A
theorem Jl(Z:Zs)(f:Fm):(mJ Z f).V=rE Z.V f:=by
 unfold mJ rE
 split
 ·show Va.mk _ _ (kv id (KE.del f.name Z.st)) _ _ _ _ _=_
  rw[sf];rfl
 ·split
  ·show Va.mk _ _ _ (kv PV.p (KE.del f.portal Z.S.e)) _ _ _ _=_
   rw[sf];rfl
  ·rfl
def xx(st:Int)(v:Vb):Bk:=if v.kind=1 then pB 73 else Jh (Lj st v.kind)
def zP(A:Va)(v:Vb):Va:=if v.kind=1 \/ v.kind=8 then A else { A with status:=zo A.status v.kind,ps:=if fH v.kind=true then[] else A.ps }
theorem LI(Z:Zs)(v:Vb):(gU Z v).V=zP Z.V v:=by
 unfold gU zP
 split
 ·rfl
 ·cases fH v.kind<;>rfl
def uA(A:Va):Va:={ A with status:=qH A.status,ps:=if qH A.status=69 then[] else A.ps }
theorem Fx(Z:Zs):(nM Z).V=uA Z.V:=by
 unfold nM uA
 by_cases h:qH Z.status=69
 ·have h2:qH Z.V.status=69:=h
  rw[if_pos h,if_pos h2];rfl
 ·have h2:¬qH Z.V.status=69:=h
  rw[if_neg h,if_neg h2];rfl
def pD(A:Va):Va:={ A with ps:=if A.status=73 then[] else A.ps }
theorem qK(Z:Zs):(cQ Z).V=pD Z.V:=by
 unfold cQ pD
 by_cases h:Z.status=73
 ·have h2:Z.V.status=73:=h
  rw[if_pos h,if_pos h2];rfl
 ·have h2:¬Z.V.status=73:=h
  rw[if_neg h,if_neg h2]
def iH(k:d5)(most:Int)(ps:List (d5×Pt)):List (List Cl)×Bool×List (d5×Pt):=match ns k ps with
 | none=>([],false,ps)
 | some p=>if p.ran=false \/ p.over=true then([],false,ps) else(p.rows.take (cZ most p.rows.length),!decide (p.rows.drop (cZ most p.rows.length)=[]),uh k (bu p (cZ most p.rows.length)) ps)
def Pp(A:Va)(k:d5)(p:Pt)(v:Vb):Va:={ A with n:=du v A.n,ps:=uh k (nb p (iw v A.n p.ps)) A.ps }
def kj(A:Va)(k:d5)(most:Int)(v:Vb):List Bk×Er×Va :=
 if cJ v.kind=true then(cr (iH k most A.ps).1 (iH k most A.ps).2.1,none,{ A with ps:=(iH k most A.ps).2.2 }) else([xx A.status v],eK v,zP A v)
def Hj:d5:=[53,53,48,48,48]
def Hk:d5:=[112,111,114,116,97,108,32,99,97,110,110,111,116,32,98,101,32,114,117,110]
def nL(A:Va)(k:d5)(most:Int):List Bk×Er×Va:=match qe A k with
 | (_,some e)=>([],some e,A)
 | (p,none)=>if p.ran=true then(if(cJ (ct p.text).kind||(ct p.text).kind==1)=true then kj A k most (ct p.text) else([],some (Hj,Hk),A)) else kj (Pp A k p (ct p.text)) k most (ct p.text)
def nX(A:Va)(s:d5):List Bk×Er×Va:=match tr A s with
 | some e=>([],some e,A)
 | none=>if cJ (ct s).kind=true then(lV ⟨s,[]⟩::cr (iw (ct s) A.n []) false,none,{ A with n:=du (ct s) A.n }) else((if(eK (ct s)).isSome=true then[] else[xx A.status (ct s)]),eK (ct s),zP A (ct s))
def li(A:Va)(s:d5):List Bk×Va:=match nX { A with st:=qI [] A.st,ps:=qI [] A.ps } s with
 | (_,some e,A2)=>([xp e.1 e.2]++[zB (uA A2).status],pD (uA A2))
 | (M,none,A2)=>(M++[zB A2.status],pD A2)
def kw(A:Va)(f:Fm):List Bk×Er×Va :=
 if f.kind=80 then([pB 49],pA A f)
 else if f.kind=66 then([pB 50],kI A f)
 else if f.kind=68 then((rJ A f).1,(rJ A f).2,A)
 else if f.kind=69 then nL A f.portal f.max
 else if f.kind=67 then(iF f,none,rE A f)
 else([],none,A)
def OL(A:Va)(k:Int):Bool:=!A.over&&(!A.skips||decide (k=83 \/ k=88))
def rK(A:Va)(f:Fm):List Bk×Va :=
 if OL A f.kind=false then([],A)
 else if f.kind=83 then([zB A.status],pD { A with skips:=false })
 else if f.kind=88 then([],{ A with over:=true })
 else if f.kind=81 then li A f.text
 else match kw A f with
  | (M,none,A2)=>(M,{ A2 with skips:=false })
  | (_,some e,A2)=>([xp e.1 e.2],uA { A2 with skips:=true })
theorem Gn{Z:Zs}{k:d5}{p:Pt}{v:Vb}(hpo:(p,none)=fJ Z k)(hv:v=ct p.text)(most:Int):
  nL Z.V k most=if p.ran=true then(if(cJ v.kind||v.kind==1)=true then kj Z.V k most v else([],some (Hj,Hk),Z.V)) else kj (Pp Z.V k p v) k most v:=by
 unfold nL
 rw[<- zM,<- hpo,hv]
theorem rL{Z:Zs}{S':Ps}{k:d5}{most:Int}{v:Vb}{R:List (List Cl)}{more:Bool}(hr:cJ v.kind=true)(hf:iH k most (kv PV.p Z.S.e)=(R,more,kv PV.p S'.e)):kj Z.V k most v=(cr R more,none,({ Z with S:=S' }:Zs).V):=by
 unfold kj
 have hf':iH k most Z.V.ps=(R,more,kv PV.p S'.e):=hf
 rw[if_pos hr,hf'];rfl
theorem ut{Z:Zs}{k:d5}{most:Int}{v:Vb}(hr:cJ v.kind=false):kj Z.V k most v=([lU Z v],eK v,(gU Z v).V):=by
 unfold kj
 rw[if_neg (by simp[hr]),LI];rfl
theorem Zd(Z:Zs):({ (Z.del []) with S:=(Z.del []).S.del [] }:Zs).V={ Z.V with st:=qI [] Z.V.st,ps:=qI [] Z.V.ps }:=by
 show Va.mk _ _ (kv id (KE.del [] Z.st)) (kv PV.p (KE.del [] Z.S.e)) _ _ _ _=_
 rw[sf,sf];rfl
structure Via (h:d4) (i:Nat) (Z:Zs) (W:List Nat) (H:d4) (Z':Zs):Prop where
 len:h.length <= H.length
 kept:∀ q<h.length,q∉Z.vars i -> H[q]?=h[q]?
 wr:∀ q∈W,q<h.length -> q∈Z.vars i
 vars:∀ q∈Z'.vars i,q∈Z.vars i \/ h.length <= q
section
variable {L:List (Nat×List AV)} {h H:d4} {i:Nat} {Z Z' Z2:Zs} {W:List Nat}
theorem Via.refl(h:d4)(i:Nat)(Z:Zs):Via h i Z [] h Z:=⟨aan _,fun _ _ _=>rfl,(fun q hq=>by cases hq),fun q hq=>.inl hq⟩
theorem Via.step(v:Via h i Z W H Z'){wr:List Nat}{h2:d4}(hl:H.length <= h2.length)(hw:∀ q∈wr,q<H.length -> q∈Z'.vars i)(hs:∀ q<H.length,q∉Z'.vars i -> h2[q]?=H[q]?)(hv:∀ q∈Z2.vars i,q∈Z'.vars i \/ H.length <= q):Via h i Z (wr++W) h2 Z2:=by
 have back:∀ q,q<h.length -> q∈Z'.vars i -> q∈Z.vars i:=fun q hq hv=>by
  rcases v.vars q hv with h1 |h1
  ·exact h1
  ·omega
 have:=v.len
 refine⟨by omega,fun q hq hn=>?_,fun q hq hlt=>?_,fun q hq=>?_⟩
 ·rw[hs q (by omega) fun hh=>hn (back q hq hh),v.kept q hq hn]
 ·rcases aam.1 hq with h1 |h1
  ·exact back q hlt (hw q h1 (by omega))
  ·exact v.wr q h1 hlt
 ·rcases hv q hq with h1 |h1
  ·exact v.vars q h1
  ·exact .inr (by omega)
theorem Via.app(v:Via h i Z W H Z')(xs:d4):Via h i Z W (H++xs) Z':=⟨by have:=v.len;simp;omega,fun q hq hn=>by rw[aac (by have:=v.len;omega)];exact v.kept q hq hn,v.wr,v.vars⟩
theorem Via.set(v:Via h i Z W H Z'){q0:Nat}(hq0:q0∈Z'.vars i)(cs:List AV)(he:Z2.vars i=Z'.vars i):Via h i Z (q0::W) (H.set q0 cs) Z2 :=
 v.step (wr:=[q0]) (by simp) (fun q hq _=>by rw[aaa.1 hq];exact hq0) (fun q hq hn=>aab fun e=>hn (by rw[<- e];exact hq0)) (fun q hq=>.inl (by rw[<- he];exact hq))
theorem Via.new(v:Via h i Z W H Z'){q0:Nat}(hq0:h.length <= q0)(cs:List AV):Via h i Z (q0::W) (H.set q0 cs) Z':=⟨by simpa using v.len,fun q hq hn=>by rw[aab (by omega)];exact v.kept q hq hn,fun q hq hlt=>by
 rcases aap.1 hq with h1 |h1
 ·omega
 ·exact v.wr q h1 hlt,v.vars⟩
theorem Via.byP(v:Via h i Z W H Z'){wr:List Nat}{h2:d4}{S':Ps}(hl:H.length <= h2.length)(hw:∀ q∈wr,q<H.length -> q∈Z'.S.vars)(hs:∀ q<H.length,q∉Z'.S.vars -> h2[q]?=H[q]?)(hv:∀ q∈S'.vars,q∈Z'.S.vars \/ H.length <= q):Via h i Z (wr++W) h2 { Z' with S:=S' } :=
 v.step hl (fun q hq hlt=>Zs.vars_mem.2 (.inr (.inr (hw q hq hlt)))) (fun q hq hn=>hs q hq fun hh=>hn (Zs.vars_mem.2 (.inr (.inr hh)))) (fun q hq=>by
  rcases Zs.vars_mem.1 hq with h1 |h1 |h1
  ·exact .inl (Zs.vars_mem.2 (.inl h1))
  ·exact .inl (Zs.vars_mem.2 (.inr (.inl h1)))
  ·rcases hv q h1 with h2 |h2
   ·exact .inl (Zs.vars_mem.2 (.inr (.inr h2)))
   ·exact .inr h2)
theorem Via.does(v:Via h i Z W H Z'){L':List (Nat×List AV)}(g':SsG L' H i Z'){f:FuncId}{args:List AV}{r:d4 -> AV -> Prop}{x:AV}(k:ae Tryz.prog f args h x H W)(hr:r H x):DoesS f args h i Z r Z':=⟨H,W,x,k,hr,g'.none,v.wr,v.len,v.kept,v.vars⟩
theorem BW(Z:Zs)(i:Nat):Z.e∈Z.vars i:=Zs.vars_mem.2 (.inr (.inl (by simp[Zs.own])))
theorem BX(Z:Zs)(i:Nat):i∈Z.vars i:=Zs.vars_mem.2 (.inr (.inl (by simp[Zs.own])))
theorem PX(Z:Zs)(i:Nat):Z.a∈Z.vars i:=Zs.vars_mem.2 (.inr (.inl (by simp[Zs.own])))
theorem uB{c:Bool}{p:Nat}{S:Ps}(hr:PsAt h p S)(ho:PsOk S)(hf:∀ x∈S.e,PtF c x.val.p)(k:d5)(most:Int):
  ∃ R more S',pN 144 [.box p 0,.v (.string (af k)),.v (.int .i64 most)] h p S (.tup [.sl 1 (am bN R) none .no,.v (.bool more)]) S' /\ RowsF c R /\ PsOk S' /\ (∀ x∈S'.e,PtF c x.val.p) /\ iH k most (kv PV.p S.e)=(R,more,kv PV.p S'.e):=by
 have idle:ae Tryz.prog 144 [.box p 0,.v (.string (af k)),.v (.int .i64 most)] h (.tup [.sl 1 (am bN []) none .no,.v (.bool false)]) h [] -> pN 144 [.box p 0,.v (.string (af k)),.v (.int .i64 most)] h p S (.tup [.sl 1 (am bN []) none .no,.v (.bool false)]) S :=
  fun kk=>⟨h,[],kk,hr,(fun q hq=>by cases hq),aan _,(fun _ _ _=>rfl),(fun q hq=>.inl hq),fun hp=>hp⟩
 cases hg:S.get k with
 | none =>
  have hg':KE.get k S.e=none:=hg
  exact⟨[],false,S,idle (G7 hr hg most),⟨by simp,fun r hr=>by cases hr⟩,ho,hf,by unfold iH;rw[oz,hg'];rfl⟩
 | some x =>
  have hg':KE.get k S.e=some x:=hg
  have hA:iH k most (kv PV.p S.e)=if x.p.ran=false \/ x.p.over=true then([],false,kv PV.p S.e) else(x.p.rows.take (cZ most x.p.rows.length),!decide (x.p.rows.drop (cZ most x.p.rows.length)=[]),uh k (bu x.p (cZ most x.p.rows.length)) (kv PV.p S.e)):=by
   unfold iH;rw[oz,hg'];rfl
  by_cases hno:x.p.ran=false \/ x.p.over=true
  ·exact⟨[],false,S,idle (Eu hr hg hno most),⟨by simp,fun r hr=>by cases hr⟩,ho,hf,by rw[hA,if_pos hno]⟩
  ·rw[if_neg hno] at hA
   rw[not_or] at hno
   have hran:x.p.ran=true:=by simpa using hno.1
   have hov:x.p.over=false:=by simpa using hno.2
   have hx:PtF c x.p:=by obtain⟨y,hy,_,rfl⟩:=dl hg;exact hf y hy
   have hx2:PtF c (rU x most).p:=⟨hx.text,hx.oids,hx.ps,hx.rows.sub (List.drop_sublist ..)⟩
   refine⟨_,_,_,G6 hr ho hg hran hov most,hx.rows.sub (List.take_sublist ..),ho.put k hx2.fit,fun y hy=>?_,?_⟩
   ·rcases de ho.ok hy with⟨_,e⟩ |⟨_,h2⟩
    ·rw[e];exact hx2
    ·exact hf y h2
   ·rw[hA]
    show(_,_,_)=(_,_,kv PV.p (KE.put k S.clock (rU x most) S.e))
    rw[wB];rfl
theorem HQ(v:Vb)(h:d4):ae Tryz.prog 142 [.agg (fC v)] h (.v (.bool (cJ v.kind||v.kind==1))) h []:=by
 refine ac Xr mixed (by simp[Np]) fun hh hargs=>?_
 simp[Np]
 refine aa (by simp) (qZ v _) ?_
 cases hr:cJ v.kind<;>simp[hh,ag]
theorem A7{Z:Zs}{k:d5}{p:Pt}(h:fJ Z k=(p,none)):∃ x,Z.S.get k=some x /\ x.p=p:=by
 unfold fJ at h
 cases hg:Z.S.get k with
 | none=>rw[hg] at h;cases h
 | some y=>rw[hg] at h;injection h with h1 h2;exact⟨y,rfl,h1⟩
theorem vR(c:Bool)(Z:Zs)(v:Vb):BkG c (lU Z v):=by
 unfold lU
 split
 ·exact pj c (by simp)
 ·refine Cm c ?_
  unfold Lj
  repeat' split
  all_goals decide
theorem ZOk.act{c:Bool}{n:Nat}{Z:Zs}(z:ZOk c n Z)(v:Vb):ZOk c n (gU Z v):=by
 unfold gU
 split
 ·exact z
 ·have h1:=z.setT (EU Z.status v.kind) Z.skips Z.over
  split
  ·exact h1.clear
  ·exact h1
theorem Ex{c:Bool}{n:Nat}(g:SsG L h i Z)(z:ZOk c n Z)(hn:n <= 1000){k:d5}{x:PV}(hx:Z.S.get k=some x)(hran:x.p.ran=false)(v:Vb):
  ∃ h' wr Z',ae Tryz.prog 134 [.box Z.e 0,.agg (fC v),.sl 2 (am aq x.p.ps) none .no] h (.sl 1 (am bN (iw v Z.T.n x.p.ps)) none .no) (h.set Z.e (fU Z.T.a (du v Z.T.n))) [Z.e] /\
   ae Tryz.prog 143 [.box Z.p 0,.v (.string (af k)),.sl 1 (am bN (iw v Z.T.n x.p.ps)) none .no] (h.set Z.e (fU Z.T.a (du v Z.T.n))) (.v (.bool true)) h' wr /\ SsG L h' i Z' /\ ZOk c (n+1) Z' /\
   (∀ t∈L,t.1∉wr /\ t.1≠Z.e) /\ i∉wr /\ (∀ {h0:d4} {Z0:Zs} {W:List Nat},Via h0 i Z0 W h Z -> Via h0 i Z0 (wr++Z.e::W) h' Z') /\ Z'.p=Z.p /\ Z'.V=Pp Z.V k x.p v /\ (Z'.status=Z.status /\ Z'.st=Z.st /\ Z'.clock=Z.clock /\ Z'.skips=Z.skips /\ Z'.over=Z.over /\ Z'.pln=Z.pln):=by
 have hp:=z.getP hx
 have hrf:=CT c v Z.T.n (by have:=z.en;omega) hp.ps
 have kr:=Ct g.eng (by have:=z.en;omega) v x.p.ps (by have:=hp.ps.1;omega) (fun y hy=>by have:=(hp.ps.2 y hy).1;omega)
 have g2:=g.setEng (du v Z.T.n)
 have z2:ZOk c (n+1) { Z with T:={ Z.T with n:=du v Z.T.n } }:=z.setE (by have:=yI v Z.T.n;have:=z.en;omega)
 obtain⟨h',wr,k2,g3,ht,hl,hw,hs,hv⟩:=g2.byP (O7 g2.por z.po hx hran hrf.fit)
 refine⟨h',wr,_,kr,k2,g3,z2.putP k (x:=⟨x.v,nb x.p (iw v Z.T.n x.p.ps),_,0⟩) ⟨hp.text,hp.oids,hp.ps,hrf⟩,fun t ht2=>⟨ht t ht2,fun e=>(g.tmp t ht2).2 (by rw[e];exact BW Z i)⟩,(g2.off hw).1,fun {h0 Z0 W} vv=>?_,rfl,?_,rfl,rfl,rfl,rfl,rfl,rfl⟩
 rotate_left
 ·show Va.mk _ _ _ (kv PV.p (KE.put k Z.S.clock _ Z.S.e)) _ _ _ _=_
  rw[wB];rfl
 exact(vv.set (BW Z i) _ (Z2:={ Z with T:={ Z.T with n:=du v Z.T.n } }) rfl).byP hl hw hs hv
end
section
variable {h:d4} {i:Nat} {Z:Zs}
theorem xz(m:Bk)(o:Er):∃ A B,zQ m o=.tup [A,tG o] /\ aI [m] o=.tup [B,tG o] /\ A.unown=A /\ A.idOf=none /\ weak A B /\ B.unown=B /\ B.idOf=none /\ ∀ n,A.lt n /\ B.lt n:=by
 refine⟨_,_,rfl,rfl,?_⟩
 cases o with
 | some e=>simp
 | none=>simp[weak,am,iq]
def RW(Z:Zs)(k:d5)(M:List Bk)(o:Er)(Z':Zs):Prop :=
 ∀ x,Z.S.get k=some x -> js Z ⟨x.p.text,x.p.oids⟩=none -> x.p.ran=false -> cJ (ct x.p.text).kind=false -> eK (ct x.p.text)=none ->
  M=[lU Z (ct x.p.text)] /\ o=none /\ Z'.status=(gU Z (ct x.p.text)).status /\ Z'.st=Z.st /\ Z'.clock=Z.clock /\ Z'.skips=Z.skips /\ Z'.over=Z.over /\ Z'.pln=Z.pln
theorem zR(Z:Zs)(v:Vb):(gU Z v).st=Z.st /\ (gU Z v).clock=Z.clock /\ (gU Z v).skips=Z.skips /\ (gU Z v).over=Z.over /\ (gU Z v).pln=Z.pln:=by
 unfold gU
 split<;>exact⟨rfl,rfl,rfl,rfl,rfl⟩
theorem xy(Z Z2:Zs)(v:Vb)(h:Z.status=Z2.status):(gU Z v).status=(gU Z2 v).status:=by
 unfold gU
 split
 ·exact h
 ·show zo Z.status v.kind=zo Z2.status v.kind
  rw[h]
set_option maxHeartbeats 1000000 in
theorem K5{c:Bool}{n:Nat}(g:SsG [] h i Z)(z:ZOk c n Z)(hn:n <= 1000)(k:d5)(hk:k.length <= 100000)(most:Int):
  ∃ M o Z',DoesS 98 [.box i 0,.v (.string (af k)),.v (.int .i64 most)] h i Z (fun _ r=>r=aI M o) Z' /\ ZOk c (n+1) Z' /\ ((∀ m∈M,BkG c m) /\ M.length <= 2000) /\ RW Z k M o Z' /\ nL Z.V k most=(M,o,Z'.V):=by
 have hpt:=C1 g z.po z.shortP k hk
 obtain⟨⟨p,o⟩,hpo⟩:∃ x,x=fJ Z k:=⟨_,rfl⟩
 rw[<- hpo] at hpt
 cases o with
 | some e =>
  obtain⟨c0,t0⟩:=e
  refine⟨[],some (c0,t0),Z,g.idle (v:=aI [] (some (c0,t0))) ?_ rfl,z.mono (aad _),⟨fun m hm=>(by cases hm),by simp⟩,(fun x hx ha _ _ _=>by unfold fJ at hpo;rw[hx] at hpo;simp only[ha] at hpo;cases hpo),by unfold nL;rw[<- zM,<- hpo]⟩
  simp only[er,bv] at hpt
  refine ac QZ mixed (by simp[Dy]) fun hh hargs=>?_
  simp[Dy]
  refine aa (by simp) hpt ?_
  simp[aI,hh,ag]
 | none =>
  obtain⟨x,hx,rfl⟩:=A7 hpo.symm
  have hxt:=(z.getP hx).text
  have hq:=fun H=>lh x.p.text (by omega) H
  obtain⟨v,hv⟩:∃ v,v=ct x.p.text:=⟨_,rfl⟩
  have hv':fz (gL x.p.text)=v:=hv.symm
  have hE:=Gn hpo hv most
  rw[hv'] at hq
  have g2:SsG [((h++[er x.p]).length,fC v),(h.length,er x.p)] (h++[er x.p]++[fC v]) i Z:=(g.app (c:=er x.p) (Ba (by simp)) (mZ rfl)).app (c:=fC v) (by simp) (by simp[gO])
  have via2:Via h i Z [] (h++[er x.p]++[fC v]) Z:=((Via.refl h i Z).app _).app _
  have e1:∀ xs,(h++xs)[i]?=some Z.top:=fun xs=>g.at_ xs
  have ni:=g.ni
  have oi:=g.oi
  have hag:=fun H=>HQ v H
  have hrw:=fun H=>qZ v H
  have happ:h++[er x.p]++[fC v]=h++[er x.p,fC v]:=by simp
  have hlen1:(h++[er x.p]).length=h.length+1:=by simp
  rw[happ,hlen1] at g2
  rw[happ] at via2
  cases hran:x.p.ran with
  | true =>
   cases hagain:(cJ v.kind||v.kind==1) with
   | false =>
    rw[hagain] at hag
    refine⟨[],some (Hj,Hk),Z,g.idle (v:=aI [] (some (Hj,Hk))) ?_ rfl,z.mono (aad _),⟨fun m hm=>(by cases hm),by simp⟩,(fun y hy _ hr _ _=>by rw[hx] at hy;injection hy with hy;subst hy;rw[hran] at hr;cases hr),by rw[hE,if_pos hran,hagain];rfl⟩
    simp only[er,bv,hran] at hpt
    refine ac QZ mixed (by simp[Dy]) fun hh hargs=>?_
    simp[Dy]
    refine aa (by simp) hpt ?_
    simp
    refine aa (by simp) (hq _) ?_
    simp
    refine aa (by simp) (hag _) ?_
    simp[aI,hh,ag,Hj,Hk]
   | true =>
    rw[hagain] at hag
    cases hrows:cJ v.kind with
    | false =>
     rw[hrows] at hrw
     obtain⟨h5,w5,r5,k5,hr5,g5,t5,hl5,hw5,hs5,hv5⟩:=g2.byS (Bj g2.none v)
     subst hr5
     obtain⟨A,B,eA,eB,a1,a2,a3,b1,b2,ab⟩:=xz (lU Z v) (eK v)
     rw[eA] at k5
     have via5:=via2.step hl5 hw5 hs5 hv5
     have hg5:=g5.hh
     have hab:=ab h5.length
     have hl5':h.length+2 <= h5.length:=by simpa using hl5
     refine⟨[lU Z v],eK v,gU Z v,via5.does g5 (x:=aI [lU Z v] (eK v)) ?_ rfl,(z.act v).mono (aad _),⟨fun m hm=>(by rw[aaa.1 hm];exact vR c Z v),by simp⟩,(fun y hy _ hr _ _=>by rw[hx] at hy;injection hy with hy;subst hy;rw[hran] at hr;cases hr),by rw[hE,if_pos hran,hagain,if_pos rfl,ut hrows]⟩
     rw[eB]
     have hid:=jA (eK v)
     have hel:=jB h5.length (eK v)
     simp only[er,bv,hran] at hpt k5
     refine ac QZ mixed (by simp[Dy]) fun hh hargs=>?_
     simp[Dy]
     refine aa (by simp) hpt ?_
     simp
     refine aa (by simp) (hq _) ?_
     simp
     refine aa (by simp) (hag _) ?_
     simp
     refine aa (by simp) (hrw _) ?_
     simp
     refine aa (by simp) k5 ?_
     simp[a1,a2,a3,hid,hg5,ag,hab,hel]
     refine⟨by omega,fun q hq hlt=>?_⟩
     rcases hq with hq |hq |hq
     ·exact hq
     ·omega
     ·omega
    | true =>
     rw[hrows] at hrw
     obtain⟨R,more,S',dP,hR,hoS,hfS,hfe⟩:=uB (c:=c) g2.por z.po z.pf k most
     obtain⟨h5,w5,k5,g5,t5,hl5,hw5,hs5,hv5⟩:=g2.byP dP
     have via5:=via2.byP hl5 hw5 hs5 hv5
     have hg5:=g5.hh
     have hl5':h.length+2 <= h5.length:=by simpa using hl5
     have kt:=fun H=>xb R more hR.told.1 hR.told.2 H
     refine⟨cr R more,none,{ Z with S:=S' },via5.does g5 (x:=aI (cr R more) none) ?_ rfl,(z.setS hoS hfS).mono (aad _),⟨rk c hR more,by have:=hR.1;unfold cr;simp;omega⟩,(fun y hy _ hr _ _=>by rw[hx] at hy;injection hy with hy;subst hy;rw[hran] at hr;cases hr),by rw[hE,if_pos hran,hagain,if_pos rfl,rL hrows hfe]⟩
     simp only[er,bv,hran] at hpt k5
     refine ac QZ mixed (by simp[Dy]) fun hh hargs=>?_
     simp[Dy]
     refine aa (by simp) hpt ?_
     simp
     refine aa (by simp) (hq _) ?_
     simp
     refine aa (by simp) (hag _) ?_
     simp
     refine aa (by simp) (hrw _) ?_
     simp[e1,Zs.top_mk]
     refine aa (by simp) k5 ?_
     simp
     refine aa (by simp) (kt _) ?_
     simp[aI,hg5,ag]
     refine⟨by omega,fun q hq hlt=>?_⟩
     rcases hq with hq |hq |hq
     ·exact hq
     ·omega
     ·omega
  | false =>
   obtain⟨h4,w4,Z4,kr,k2,g4,z4,t4,oi4,via4',hp4,hV4,ke⟩:=Ex g2 z hn hx hran v
   have via4:=via4' via2
   obtain⟨t4a,t4b⟩:=t4 (h.length+1,fC v) (by simp)
   obtain⟨t4c,t4d⟩:=t4 (h.length,er x.p) (by simp)
   obtain⟨m4a,_⟩:=g4.tmp (h.length+1,fC v) (by simp)
   obtain⟨m4b,_⟩:=g4.tmp (h.length,er x.p) (by simp)
   have top4:=g4.top
   have hie:¬i=Z.e:=g.nd4.1
   have noe:=g.oe
   have nne:=g.ne
   dsimp only at t4a t4b t4c t4d m4a m4b
   have t4b':¬Z.e=h.length+1:=fun e=>t4b e.symm
   have t4d':¬Z.e=h.length:=fun e=>t4d e.symm
   cases hrows:cJ v.kind with
   | false =>
    rw[hrows] at hrw
    obtain⟨h5,w5,r5,k5,hr5,g5,t5,hl5,hw5,hs5,hv5⟩:=g4.byS (Bj g4.none v)
    subst hr5
    obtain⟨A,B,eA,eB,a1,a2,a3,b1,b2,ab⟩:=xz (lU Z4 v) (eK v)
    rw[eA] at k5
    have via5:=via4.step hl5 hw5 hs5 hv5
    have hg5:=g5.hh
    have hab:=ab h5.length
    have hl5':=via5.len
    refine⟨[lU Z4 v],eK v,gU Z4 v,via5.does g5 (x:=aI [lU Z4 v] (eK v)) ?_ rfl,z4.act v,⟨fun m hm=>(by rw[aaa.1 hm];exact vR c Z4 v),by simp⟩,fun y hy _ _ _ ha=>?_,by rw[hE,if_neg (by simp[hran]),<- hV4,ut hrows]⟩
    rotate_left
    ·rw[hx] at hy;injection hy with hy;subst hy
     rw[<- hv] at ha ⊢
     obtain⟨q1,q2,q3,q4,q5⟩:=zR Z4 v
     refine⟨?_,ha,xy _ _ _ ke.1,q1.trans ke.2.1,q2.trans ke.2.2.1,q3.trans ke.2.2.2.1,q4.trans ke.2.2.2.2.1,q5.trans ke.2.2.2.2.2⟩
     unfold lU
     rw[ke.1]
    rw[eB]
    have hid:=jA (eK v)
    have hel:=jB h5.length (eK v)
    simp only[er,bv,hran] at hpt kr k2 m4b
    refine ac QZ mixed (by simp[Dy]) fun hh hargs=>?_
    simp[Dy]
    refine aa (by simp) hpt ?_
    simp
    refine aa (by simp) (hq _) ?_
    simp[e1,Zs.top_mk]
    refine aa (by simp) kr ?_
    simp[hie,t4b,t4d,t4b',t4d']
    refine aa (by simp) k2 ?_
    simp[m4a,m4b,oi4,t4a,t4c,hie,t4b,t4d,t4b',t4d']
    refine aa (by simp) (hrw _) ?_
    simp[m4a]
    refine aa (by simp) k5 ?_
    simp[a1,a2,a3,hid,hg5,ag,hab,hel]
    refine⟨hl5',fun q hq hlt=>?_⟩
    rcases hq with hq |hq |hq |hq |hq
    ·exact .inl hq
    ·exact .inr (.inl hq)
    ·exact .inr (.inr hq)
    ·omega
    ·omega
   | true =>
    rw[hrows] at hrw
    obtain⟨R,more,S',dP,hR,hoS,hfS,hfe⟩:=uB (c:=c) g4.por z4.po z4.pf k most
    obtain⟨h5,w5,k5,g5,t5,hl5,hw5,hs5,hv5⟩:=g4.byP dP
    have via5:=via4.byP hl5 hw5 hs5 hv5
    have hg5:=g5.hh
    have hl5':=via5.len
    have kt:=fun H=>xb R more hR.told.1 hR.told.2 H
    refine⟨cr R more,none,{ Z4 with S:=S' },via5.does g5 (x:=aI (cr R more) none) ?_ rfl,z4.setS hoS hfS,⟨rk c hR more,by have:=hR.1;unfold cr;simp;omega⟩,(fun y hy _ _ hr _=>by rw[hx] at hy;injection hy with hy;subst hy;rw[<- hv,hrows] at hr;cases hr),by rw[hE,if_neg (by simp[hran]),<- hV4,rL hrows hfe]⟩
    simp only[er,bv,hran] at hpt kr k2 m4b
    refine ac QZ mixed (by simp[Dy]) fun hh hargs=>?_
    simp[Dy]
    refine aa (by simp) hpt ?_
    simp
    refine aa (by simp) (hq _) ?_
    simp[e1,Zs.top_mk]
    refine aa (by simp) kr ?_
    simp[hie,t4b,t4d,t4b',t4d']
    refine aa (by simp) k2 ?_
    simp[m4a,m4b,oi4,t4a,t4c,hie,t4b,t4d,t4b',t4d']
    refine aa (by simp) (hrw _) ?_
    simp[top4,Zs.top_mk]
    refine aa (by simp) k5 ?_
    simp
    refine aa (by simp) (kt _) ?_
    simp[aI,hg5,ag]
    refine⟨hl5',fun q hq hlt=>?_⟩
    rcases hq with hq |hq |hq |hq |hq
    ·exact .inl hq
    ·exact .inr (.inl hq)
    ·exact .inr (.inr hq)
    ·omega
    ·omega
end
section
variable {e o:List (Nat×AV)} {h:d4} {wr:List Nat} {d:Option Nat} {K:St -> List Nat -> Prop} {k bytes:Nat}
theorem mr{es es2:d4}{nul nul2:Option Bool}{room2:Room}(h1:es≠[])(i1:∀ c∈es.flatten,c.idOf=none)(h2:es2≠[])(i2:∀ c∈es2.flatten,c.idOf=none)(s1:(es.length+es2.length)*bytes <= 140737488355328)(s2:es.length+es2.length <= 140737488355328)
  (hK:K (St.puts ⟨e,o,h++[es.flatten++es2.flatten],wr⟩ d (.bsl h.length 0 k (es.length+es2.length)) false) []):bO ⟨e,o,h,wr⟩ k bytes d (.sl k es nul .exact) (.sl k es2 nul2 room2) K :=
 .inr (.inl ⟨es2,if_pos rfl,h2,i2,.inr ⟨rfl,h1,rfl,i1,s1,s2,hK⟩⟩)
theorem pc{b off n:Nat}{cs:List AV}{es2:d4}{nul2:Option Bool}{room2:Room}(hb:h[b]?=some cs)(hne:cs≠[])(hf:off+n*k <= cs.length)(i1:∀ c∈cs,c.idOf=none)(h2:es2≠[])(i2:∀ c∈es2.flatten,c.idOf=none)(s1:(n+es2.length)*bytes <= 140737488355328)(s2:n+es2.length <= 140737488355328)
  (hK:K (St.puts ⟨e,o,h.set b []++[(cs.drop off).take (n*k)++es2.flatten],b::wr⟩ d (.bsl h.length 0 k (n+es2.length)) false) []):bO ⟨e,o,h,wr⟩ k bytes d (.bsl b off k n) (.sl k es2 nul2 room2) K :=
 .inr (.inl ⟨es2,if_pos rfl,h2,i2,rfl,cs,hb,hne,hf,i1,s1,s2,hK⟩)
theorem xk{k1 k2:Nat}{es:d4}{nul2:Option Bool}{room2:Room}(hk:2 <= k)(hK:K (St.puts ⟨e,o,h,wr⟩ d (.sl k1 es none .no) false) []):bO ⟨e,o,h,wr⟩ k bytes d (.sl k1 es none .no) (.sl k2 [] nul2 room2) K:=.inr (.inr ⟨rfl,.inr (.inr ⟨hk,rfl,rfl,hK⟩)⟩)
theorem ui{k1 k2 b off n:Nat}{nul2:Option Bool}{room2:Room}(hk:2 <= k)(hK:K (St.puts ⟨e,o,h,wr⟩ d (.bsl b off k1 n) false) []):bO ⟨e,o,h,wr⟩ k bytes d (.bsl b off k1 n) (.sl k2 [] nul2 room2) K:=.inr (.inr ⟨rfl,hk,hK⟩)
end
section
variable {h:d4} {i:Nat} {Z:Zs}
inductive OnceR (lo i:Nat) (Z':Zs) (M:List Bk) (o:Er) (h':d4) (v:AV):Prop
 | err (c t:d5) (ho:o=some (c,t)) (hm:M=[]) (hv:v=.tup [.sl 0 [] (some true) .exact,tG (some (c,t))])
 | one (m:Bk) (ho:o=none) (hm:M=[m]) (hv:v=.tup [.sl 11 [bh m] (some false) .exact,.v .nilIface])
 | many (b:Nat) (ho:o=none) (hm:M≠[]) (hv:v=.tup [.bsl b 0 11 M.length,.v .nilIface]) (hl:lo <= b) (hb:h'[b]?=some (am bh M).flatten) (hn:b∉Z'.vars i)
theorem Es{lo:Nat}{Z':Zs}{h':d4}(m:Bk)(o:Er):OnceR lo i Z' (if o.isSome=true then[] else[m]) o h' (zQ m o):=by
 cases o with
 | some e=>exact .err e.1 e.2 rfl rfl rfl
 | none=>exact .one m rfl rfl rfl
theorem dX(M:List Bk):∀ c∈(am bh M).flatten,c.idOf=none:=fun c hc=>by
 obtain⟨l,h1,h2⟩:=aau.1 hc
 obtain⟨m,_,rfl⟩:=aai.1 h1
 simp[aV] at h2
 rcases h2 with rfl |rfl |rfl |rfl |rfl |rfl |rfl |rfl |rfl |rfl |rfl<;>rfl
theorem fx(n:Nat)(M:List Bk):cb n (am bh M).flatten:=dx fun j c hj=>by
 obtain⟨l,h1,h2⟩:=aau.1 (List.mem_of_getElem? hj)
 obtain⟨m,_,rfl⟩:=aai.1 h1
 obtain⟨q,hq⟩:=List.getElem?_of_mem h2
 exact cS (by simp) q c hq
theorem Di(m:Bk)(o:Er):∃ A,zQ m o=.tup [A,tG o] /\ A.unown=A /\ A.idOf=none /\ ∀ n,A.lt n:=by
 refine⟨_,rfl,?_⟩
 cases o with
 | some e=>simp
 | none=>simp
set_option maxHeartbeats 1000000 in
theorem K8{c:Bool}{n:Nat}(g:SsG [] h i Z)(z:ZOk c n Z)(hn:n <= 1000)(s:d5)(hs:s.length <= 1000):
  ∃ M o Z',DoesS 94 [.box i 0,.v (.string (af s))] h i Z (OnceR h.length i Z' M o) Z' /\ ZOk c (n+1) Z' /\ (∀ m∈M,BkG c m) /\ M.length <= 2000 /\ nX Z.V s=(M,o,Z'.V):=by
 have hvd:=tc g s (by omega)
 cases ho:jl Z s with
 | some e =>
  obtain⟨c0,t0⟩:=e
  rw[ho] at hvd
  refine⟨[],some (c0,t0),Z,g.idle (v:=.tup [.sl 0 [] (some true) .exact,tG (some (c0,t0))]) ?_ (.err c0 t0 rfl rfl rfl),z.mono (aad _),(fun m hm=>by cases hm),by simp,by unfold nX;rw[<- zO,ho]⟩
  refine ac YA mixed (by simp[Oa]) fun hh hargs=>?_
  simp[Oa]
  refine aa (by simp) hvd ?_
  simp[hh]
 | none =>
  rw[ho] at hvd
  have hq:=fun H=>lh s (by omega) H
  obtain⟨v,hv⟩:∃ v,v=ct s:=⟨_,rfl⟩
  have hv':fz (gL s)=v:=hv.symm
  rw[hv'] at hq
  have hrw:=fun H=>qZ v H
  have hO:nX Z.V s=if cJ v.kind=true then(lV ⟨s,[]⟩::cr (iw v Z.V.n []) false,none,{ Z.V with n:=du v Z.V.n }) else((if(eK v).isSome=true then[] else[xx Z.V.status v]),eK v,zP Z.V v):=by unfold nX;rw[<- zO,ho,hv]
  have g2:=g.app (c:=fC v) (by simp) (by simp[gO])
  have via2:Via h i Z [] (h++[fC v]) Z:=(Via.refl h i Z).app _
  have e1:∀ xs,(h++xs)[i]?=some Z.top:=fun xs=>g.at_ xs
  cases hrows:cJ v.kind with
  | false =>
   rw[hrows] at hrw
   obtain⟨h5,w5,r5,k5,hr5,g5,t5,hl5,hw5,hs5,hv5⟩:=g2.byS (Bj g2.none v)
   subst hr5
   obtain⟨A,eA,a1,a2,ab⟩:=Di (lU Z v) (eK v)
   have via5:=via2.step hl5 hw5 hs5 hv5
   have hg5:=g5.hh
   have hab:=ab h5.length
   have hl5':=via5.len
   refine⟨_,eK v,gU Z v,via5.does g5 (x:=zQ (lU Z v) (eK v)) ?_ (Es _ _),(z.act v).mono (aad _),fun m hm=>?_,by split<;>simp,by rw[hO,if_neg (by simp[hrows]),LI];rfl⟩
   ·rw[eA] at k5 ⊢
    have hid:=jA (eK v)
    have hel:=jB h5.length (eK v)
    refine ac YA mixed (by simp[Oa]) fun hh hargs=>?_
    simp[Oa]
    refine aa (by simp) hvd ?_
    simp
    refine aa (by simp) (hq _) ?_
    simp
    refine aa (by simp) (hrw _) ?_
    simp
    refine aa (by simp) k5 ?_
    simp[a1,a2,hid,hg5,ag,hab,hel]
    refine⟨hl5',fun q hq hlt=>?_⟩
    rcases hq with hq |hq
    ·exact hq
    ·omega
   ·split at hm
    ·cases hm
    ·rw[aaa.1 hm];exact vR c Z v
  | true =>
   rw[hrows] at hrw
   have hrf:=CT c v Z.T.n (by have:=z.en;omega) (ps:=[]) ⟨by simp,fun y hy=>by cases hy⟩
   have kr:=Ct g2.eng (by have:=z.en;omega) v [] (by simp) (fun y hy=>by cases hy)
   obtain⟨R,hR⟩:∃ R,R=iw v Z.T.n []:=⟨_,rfl⟩
   rw[<- hR] at hrf kr
   have kd:=fun H=>wV ⟨s,[]⟩ (by show s.length <= _;omega) H
   have kt:=fun H=>xb R false hrf.told.1 hrf.told.2 H
   have g3:=g2.setEng (du v Z.T.n)
   have z3:ZOk c (n+1) { Z with T:={ Z.T with n:=du v Z.T.n } }:=z.setE (by have:=yI v Z.T.n;have:=z.en;omega)
   have via3:Via h i Z [Z.e] ((h++[fC v]).set Z.e (fU Z.T.a (du v Z.T.n))) { Z with T:={ Z.T with n:=du v Z.T.n } }:=via2.set (BW Z i) _ rfl
   obtain⟨M,hM⟩:∃ M,M=lV ⟨s,[]⟩::cr R false:=⟨_,rfl⟩
   have hMl:M.length=(cr R false).length+1:=by rw[hM];rfl
   have hMf:(am bh M).flatten=bh (lV ⟨s,[]⟩)++(am bh (cr R false)).flatten:=by rw[hM];rfl
   have htl:(cr R false).length=R.length+1:=by simp[cr]
   have hrl:=hrf.1
   have g4:=g3.app (c:=(am bh M).flatten) (fx _ M) (dX M)
   have via4:=via3.app [(am bh M).flatten]
   obtain⟨m4,m5⟩:=g4.tmp _ (aae ..)
   have hg4:=g4.hh
   have hie:¬i=Z.e:=g.nd4.1
   have noe:=g.oe
   have noe':¬h.length=Z.e:=fun e=>noe e.symm
   refine⟨M,none,_,via4.does g4 (x:=.tup [.bsl ((h++[fC v]).set Z.e (fU Z.T.a (du v Z.T.n))).length 0 11 M.length,.v .nilIface]) ?_ (.many _ rfl (by rw[hM];simp) rfl (by simp) m4 m5),z3,fun m hm=>?_,by rw[hMl,htl];omega,by rw[hO,if_pos hrows,hM,hR];rfl⟩
   ·simp only[iL] at kd
    refine ac YA mixed (by simp[Oa]) fun hh hargs=>?_
    simp[Oa]
    refine aa (by simp) hvd ?_
    simp
    refine aa (by simp) (hq _) ?_
    simp
    refine aa (by simp) (hrw _) ?_
    simp[e1,Zs.top_mk]
    refine ak (kd _) (by simp) (by simp) ?_
    have hne1:cr R false≠[]:=by simp[cr]
    have hne2:am bh (cr R false)≠[]:=by simp[am,cr]
    have hel:(am bh (cr R false)).length=R.length+1:=by simp[htl]
    have hidT:=dX (cr R false)
    have hid1:∀ c∈([bh (lV ⟨s,[]⟩)]:d4).flatten,c.idOf=none:=by
     have:=dX [lV ⟨s,[]⟩]
     simpa[am] using this
    have eM:R.length+1+1=M.length:=by rw[hMl,htl]
    have fin:∀ q:Nat,q=1+(R.length+1) -> q=M.length:=fun q hq=>by omega
    have hcount:1+(R.length+1)=M.length:=by omega
    simp only[fU] at kr hg4
    have hll:aK (h.length+1+1) ((h++[fC v]).set Z.e [AV.mp Z.T.a 0 false,AV.v (Value.int IntKind.i64 ↑(du v Z.T.n))]):=by
     have:=aF (aad _) g3.hh
     simpa[fU] using this
    simp[noe',hie]
    refine⟨?_,?_⟩
    ·refine ak kr (by simp) (by simp) ?_
     simp[noe',hie]
     refine aa (by simp) (kt _) ?_
     simp
     refine mr (by simp) hid1 hne2 hidT (by simp[htl];omega) (by simp[htl];omega) ?_
     simp[hMf,htl,hcount,fU,ag]
     exact⟨by omega,hll,fx _ _⟩
    ·refine ak kr (by simp) (by simp) ?_
     simp[noe',hie]
     refine⟨?_,?_⟩
     all_goals refine aa (by simp) (kt _) ?_
     all_goals simp
     all_goals refine mr (by simp) hid1 hne2 hidT (by simp[htl];omega) (by simp[htl];omega) ?_
     all_goals simp[hMf,htl,hcount,fU,ag]
     all_goals exact⟨by omega,hll,fx _ _⟩
   ·rw[hM] at hm
    rcases aap.1 hm with rfl |hm
    ·exact vT c _
    ·exact rk c hrf false m hm
end
section
variable {L:List (Nat×List AV)} {h:d4} {i:Nat} {Z:Zs} {c:Bool} {n:Nat}
theorem jP(M:List Bk)(o:Er):∃ B,aI M o=.tup [B,tG o] /\ B.unown=B /\ B.idOf=none /\ ∀ n,B.lt n:=by
 refine⟨_,rfl,?_⟩
 cases o with
 | some e=>simp
 | none=>simp
theorem ZOk.fail(z:ZOk c n Z):ZOk c n (nM Z):=by
 unfold nM
 have h1:=z.setT (ET Z.status) Z.skips Z.over
 split
 ·exact h1.clear
 ·exact h1
theorem ZOk.ready(z:ZOk c n Z):ZOk c n (cQ Z):=by
 unfold cQ
 split
 ·exact z.clear
 ·exact z
theorem Lb(g:SsG [] h i Z)(f:Fm)(hk:f.kind=80){M:List Bk}{o:Er}{Z2:Zs}(d2:DoesS 95 [.box i 0,.agg (aJ f)] (h++[aJ f]) i Z (fun _ r=>r=aI M o) Z2):DoesS 73 [.box i 0,.agg (aJ f)] h i Z (fun _ r=>r=aI M o) Z2:=by
 have g1:=g.app (c:=aJ f) (by simp) (by simp[aL])
 have via1:Via h i Z [] (h++[aJ f]) Z:=(Via.refl h i Z).app _
 obtain⟨h5,w5,r5,k5,hr5,g5,t5,hl5,hw5,hs5,hv5⟩:=g1.byS d2
 subst hr5
 obtain⟨B,eB,b1,b2,b3⟩:=jP M o
 have via5:=via1.step hl5 hw5 hs5 hv5
 have hl5':=via5.len
 have hg5:=g5.hh
 refine via5.does g5 (x:=aI M o) ?_ rfl
 rw[eB] at k5 ⊢
 have hid:=jA o
 have hel:=jB h5.length o
 refine ac QY mixed (by simp[Dx]) fun hh hargs=>?_
 simp[Dx,hk]
 refine aa (by simp) k5 ?_
 simp[b1,b2,b3,hid,hel,hg5,ag]
 refine⟨hl5',fun q hq hlt=>?_⟩
 first |exact hq |(rcases hq with hq |hq;exact hq;omega)
theorem K9(g:SsG [] h i Z)(f:Fm)(hk:f.kind=66){M:List Bk}{o:Er}{Z2:Zs}(d2:DoesS 96 [.box i 0,.agg (aJ f)] (h++[aJ f]) i Z (fun _ r=>r=aI M o) Z2):DoesS 73 [.box i 0,.agg (aJ f)] h i Z (fun _ r=>r=aI M o) Z2:=by
 have g1:=g.app (c:=aJ f) (by simp) (by simp[aL])
 have via1:Via h i Z [] (h++[aJ f]) Z:=(Via.refl h i Z).app _
 obtain⟨h5,w5,r5,k5,hr5,g5,t5,hl5,hw5,hs5,hv5⟩:=g1.byS d2
 subst hr5
 obtain⟨B,eB,b1,b2,b3⟩:=jP M o
 have via5:=via1.step hl5 hw5 hs5 hv5
 have hl5':=via5.len
 have hg5:=g5.hh
 refine via5.does g5 (x:=aI M o) ?_ rfl
 rw[eB] at k5 ⊢
 have hid:=jA o
 have hel:=jB h5.length o
 refine ac QY mixed (by simp[Dx]) fun hh hargs=>?_
 simp[Dx,hk]
 refine aa (by simp) k5 ?_
 simp[b1,b2,b3,hid,hel,hg5,ag]
 refine⟨hl5',fun q hq hlt=>?_⟩
 first |exact hq |(rcases hq with hq |hq;exact hq;omega)
theorem La(g:SsG [] h i Z)(f:Fm)(hk:f.kind=69){M:List Bk}{o:Er}{Z2:Zs}(d2:DoesS 98 [.box i 0,.v (.string (af f.portal)),.v (.int .i64 f.max)] (h++[aJ f]) i Z (fun _ r=>r=aI M o) Z2):DoesS 73 [.box i 0,.agg (aJ f)] h i Z (fun _ r=>r=aI M o) Z2:=by
 have g1:=g.app (c:=aJ f) (by simp) (by simp[aL])
 have via1:Via h i Z [] (h++[aJ f]) Z:=(Via.refl h i Z).app _
 obtain⟨h5,w5,r5,k5,hr5,g5,t5,hl5,hw5,hs5,hv5⟩:=g1.byS d2
 subst hr5
 obtain⟨B,eB,b1,b2,b3⟩:=jP M o
 have via5:=via1.step hl5 hw5 hs5 hv5
 have hl5':=via5.len
 have hg5:=g5.hh
 refine via5.does g5 (x:=aI M o) ?_ rfl
 rw[eB] at k5 ⊢
 have hid:=jA o
 have hel:=jB h5.length o
 refine ac QY mixed (by simp[Dx]) fun hh hargs=>?_
 simp[Dx,hk]
 refine aa (by simp) k5 ?_
 simp[b1,b2,b3,hid,hel,hg5,ag]
 refine⟨hl5',fun q hq hlt=>?_⟩
 first |exact hq |(rcases hq with hq |hq;exact hq;omega)
theorem F2(Z:Zs)(f:Fm):(fw Z f).1.length <= 2000:=by
 unfold fw
 split
 ·obtain⟨s,o⟩:=eH Z f.name
  cases o<;>simp
 ·split
  ·obtain⟨s,o⟩:=fJ Z f.portal
   cases o<;>simp
  ·simp
set_option maxHeartbeats 1000000 in
theorem Lc(g:SsG [] h i Z)(z:ZOk c n Z)(hn:n <= 1000)(f:Fm)(hf:FmS c f):
  ∃ M o Z',DoesS 73 [.box i 0,.agg (aJ f)] h i Z (fun _ r=>r=aI M o) Z' /\ ZOk c (n+1) Z' /\ (∀ m∈M,BkG c m) /\ M.length <= 2000 /\ kw Z.V f=(M,o,Z'.V):=by
 have g1:=g.app (c:=aJ f) (by simp) (by simp[aL])
 have via1:Via h i Z [] (h++[aJ f]) Z:=(Via.refl h i Z).app _
 have hfn:=hf.name
 have hfp:=hf.portal
 have hft:=hf.text
 by_cases k80:f.kind=80
 ·exact⟨[pB 49],sC Z f,mX Z f,Lb g f k80 (Ii g1.none z.ko f (by omega) (by omega) (by have:=hf.oids.1;omega)),z.parse hf,(fun m hm=>by rw[aaa.1 hm];exact pj c (by simp)),by simp,by unfold kw;rw[if_pos k80,<- Jm]⟩
 have k80':(f.kind==80)=false:=by simpa using k80
 by_cases Fk:f.kind=66
 ·obtain⟨Z2,d2,q1,q2⟩:=K2 g1.none z.po z.short f (by omega) (by omega) ⟨hf.params.1,fun x hx=>by have:=(hf.params.2 x hx).1;omega⟩
  have hbA:([pB 50],kI Z.V f)=([pB 50],jZ Z f,Z2.V):=by
   cases ho:jZ Z f with
   | some e=>rw[q1 (by rw[ho];simp),Dn ho]
   | none =>
    obtain⟨x,s,hs,hx,e⟩:=q2 ho
    obtain⟨s1,hst,hA⟩:=FF ho
    have hs3:s1=s:=Option.some.inj ((nm hst).symm.trans hs)
    rw[hA,hs3,e,<- hx]
    show(_,_,_)=(_,_,Va.mk _ _ _ (kv PV.p (KE.put f.portal Z.S.clock x Z.S.e)) _ _ _ _)
    rw[wB];rfl
  have z2:ZOk c (n+1) Z2:=by
   cases ho:jZ Z f with
   | some e=>rw[q1 (by rw[ho];simp)];exact z.mono (aad _)
   | none =>
    obtain⟨x,s,hs,hx,e⟩:=q2 ho
    have hsz:=z.get hs
    rw[e]
    exact(z.putP f.portal (x:=x) (by rw[hx];exact⟨hsz.1,hsz.2.1,hf.params,⟨by simp[eQ],fun r hr=>by simp[eQ] at hr⟩⟩)).mono (aad _)
  exact⟨[pB 50],jZ Z f,Z2,K9 g f Fk d2,z2,(fun m hm=>by rw[aaa.1 hm];exact pj c (by simp)),by simp,by unfold kw;rw[if_neg k80,if_pos Fk];exact hbA⟩
 have k66':(f.kind==66)=false:=by simpa using Fk
 by_cases Jd:f.kind=68
 ·have k5:=zg g1.none z.po z.short z.shortP f (by omega) (by omega)
  obtain⟨B,eB,b1,b2,b3⟩:=jP (fw Z f).1 (fw Z f).2
  refine⟨(fw Z f).1,(fw Z f).2,Z,g.idle (v:=aI (fw Z f).1 (fw Z f).2) ?_ rfl,z.mono (aad _),FH z f,F2 Z f,by unfold kw;rw[if_neg k80,if_neg Fk,if_pos Jd,<- MO]⟩
  rw[eB] at k5 ⊢
  have hid:=jA (fw Z f).2
  have hel:=jB h.length (fw Z f).2
  refine ac QY mixed (by simp[Dx]) fun hh hargs=>?_
  simp[Dx,k80,k80',Fk,k66',Jd]
  refine aa (by simp) k5 ?_
  simp[b1,b2,b3,hid,hel,hh,ag]
 have k68':(f.kind==68)=false:=by simpa using Jd
 by_cases Kj:f.kind=69
 ·obtain⟨M,o,Z2,d2,z2,m2,_,hA⟩:=K5 g1.none z hn f.portal (by omega) f.max
  exact⟨M,o,Z2,La g f Kj d2,z2,m2.1,m2.2,by unfold kw;rw[if_neg k80,if_neg Fk,if_neg Jd,if_pos Kj];exact hA⟩
 have k69':(f.kind==69)=false:=by simpa using Kj
 by_cases OD:f.kind=67
 ·obtain⟨h5,w5,r5,k5,hr5,g5,t5,hl5,hw5,hs5,hv5⟩:=g1.byS (H7 g1.none f)
  subst hr5
  have via5:=via1.step hl5 hw5 hs5 hv5
  have hl5':=via5.len
  have hg5:=g5.hh
  refine⟨iF f,none,mJ Z f,via5.does g5 (x:=aI (iF f) none) ?_ rfl,(z.close f).mono (aad _),Do c f,by unfold iF;split<;>simp,by unfold kw;rw[if_neg k80,if_neg Fk,if_neg Jd,if_neg Kj,if_pos OD,Jl]⟩
  refine ac QY mixed (by simp[Dx]) fun hh hargs=>?_
  simp[Dx,k80,k80',Fk,k66',Jd,k68',Kj,k69',OD]
  refine aa (by simp) k5 ?_
  simp[aI,hg5,ag]
  refine⟨hl5',fun q hq hlt=>?_⟩
  first |exact hq |(rcases hq with hq |hq;exact hq;omega)
 have k67':(f.kind==67)=false:=by simpa using OD
 refine⟨[],none,Z,g.idle (v:=aI [] none) ?_ rfl,z.mono (aad _),(fun m hm=>by cases hm),by simp,by unfold kw;rw[if_neg k80,if_neg Fk,if_neg Jd,if_neg Kj,if_neg OD]⟩
 refine ac QY mixed (by simp[Dx]) fun hh hargs=>?_
 simp[Dx,k80,k80',Fk,k66',Jd,k68',Kj,k69',OD,k67',aI,hh,ag]
inductive RepX (lo i:Nat) (Z':Zs) (M:List Bk) (h':d4) (v:AV):Prop
 | sl (hv:v=.sl 11 (am bh M) none .no)
 | bx (b:Nat) (hl:lo <= b) (hv:v=.bsl b 0 11 M.length) (hb:h'[b]?=some (am bh M).flatten) (hn:b∉Z'.vars i)
theorem SsG.more(g:SsG L h i Z){b:Nat}{cs:List AV}(hb:h[b]?=some cs)(hn:b∉Z.vars i):SsG ((b,cs)::L) h i Z:=⟨g.top,g.eng,g.ents,g.por,g.nd,g.sep,fun t ht=>by
 rcases aap.1 ht with rfl |ht
 ·exact⟨hb,hn⟩
 ·exact g.tmp t ht,g.pl⟩
theorem fQ(Z:Zs):(cQ Z).status=Z.status:=rfl
set_option maxHeartbeats 2000000 in
theorem Ij(g:SsG [] h i Z)(z:ZOk c n Z)(hn:n <= 1000)(s:d5)(hs:s.length <= 1000):
  ∃ M Z',DoesS 72 [.box i 0,.v (.string (af s))] h i Z (RepX h.length i Z' (M++[zB Z'.status])) Z' /\ ZOk c (n+1) Z' /\ (∀ m∈M,BkG c m) /\ M.length <= 2000 /\ li Z.V s=(M++[zB Z'.status],Z'.V):=by
 have g1:=g.setEnts Z.clock (KE.del [] Z.st)
 have z1:=z.del []
 have via1:Via h i Z [Z.a] (h.set Z.a (Z.del []).cells) (Z.del []):=(Via.refl h i Z).set (PX Z i) _ rfl
 have hd:=Z.del_cells []
 have h1:=g.top
 have h2:=g.ents
 have h3:=Z.of_cells
 have h4:=Z.keys
 have f1:(h.set Z.a (Z.del []).cells)[i]?=some Z.top:=by rw[aab (Ne.symm g.nd4.2.2.1)];exact g.top
 obtain⟨H2,w2,k2,g2,t2,hl2,hw2,hs2,hv2⟩:=g1.byP (G5 g1.por [])
 have z2:=z1.delP []
 have via2:=via1.byP hl2 hw2 hs2 hv2
 obtain⟨M,o,Z3,d3,z3,m3,l3,hA⟩:=K8 (Z:={ (Z.del []) with S:=(Z.del []).S.del [] }) g2 z2 hn s hs
 obtain⟨H3,w3,v3,k3,r3,g3,t3,hl3,hw3,hs3,hv3⟩:=g2.byS d3
 have via3:=via2.step hl3 hw3 hs3 hv3
 rw[Zd] at hA
 have fin:True:=trivial
 cases r3 with
 | err c0 t0 ho hm hv =>
  subst hv
  obtain⟨H4,w4,v4,k4,r4,g4,t4,hl4,hw4,hs4,hv4⟩:=g3.byS (zf g3 c0 t0)
  subst r4
  have via4:=via3.step hl4 hw4 hs4 hv4
  obtain⟨H5,w5,v5,k5,r5,g5,t5,hl5,hw5,hs5,hv5⟩:=g4.byS (om g4)
  subst r5
  have via5:=via4.step hl5 hw5 hs5 hv5
  have hg5:=g5.hh
  have hl:=via5.len
  refine⟨[xp c0 t0],cQ (nM Z3),via5.does g5 (x:=.sl 11 (am bh ([xp c0 t0]++[zB (cQ (nM Z3)).status])) none .no) ?_ (.sl rfl),z3.fail.ready,(fun m hm=>by rw[aaa.1 hm];exact FI c _ _),by simp,by unfold li;rw[hA,ho];show(_,_)=_;rw[<- Fx,<- qK];rfl⟩
  rw[fQ]
  refine ac Yy mixed (by simp[N8]) fun hh hargs=>?_
  simp[N8,h1,h2,h3,h4,hd,Zs.top_mk,f1]
  refine aa (by simp) k2 ?_
  simp
  refine aa (by simp) k3 ?_
  simp
  refine aa (by simp) k4 ?_
  simp
  refine dr ?_
  simp
  refine aa (by simp) k5 ?_
  simp[hg5,ag]
  exact⟨hl,fun q hq _=>hq⟩
 | one m ho hm hv =>
  subst hv hm
  have kb:=sV g3
  obtain⟨H5,w5,v5,k5,r5,g5,t5,hl5,hw5,hs5,hv5⟩:=g3.byS (om g3)
  subst r5
  have via5:=via3.step hl5 hw5 hs5 hv5
  have hg5:=g5.hh
  have hl:=via5.len
  refine⟨[m],cQ Z3,via5.does g5 (x:=.sl 11 (am bh ([m]++[zB (cQ Z3).status])) none .no) ?_ (.sl rfl),z3.ready,m3,by simp,by unfold li;rw[hA,ho,qK];rfl⟩
  rw[fQ]
  refine ac Yy mixed (by simp[N8]) fun hh hargs=>?_
  simp[N8,h1,h2,h3,h4,hd,Zs.top_mk,f1]
  refine aa (by simp) k2 ?_
  simp
  refine aa (by simp) k3 ?_
  simp
  refine aa (by simp) kb ?_
  simp
  refine dr ?_
  simp
  refine aa (by simp) k5 ?_
  simp[hg5,ag]
  exact⟨hl,fun q hq _=>hq⟩
 | many b ho hm hv hlb hb hnb =>
  subst hv
  have kb:=sV g3
  have g3b:=g3.more hb hnb
  obtain⟨H5,w5,v5,k5,r5,g5,t5,hl5,hw5,hs5,hv5⟩:=g3b.byS (om g3)
  subst r5
  obtain⟨b1,b2⟩:=g5.tmp _ (aae ..)
  have b3:=t5 _ (aae ..)
  dsimp only at b1 b2 b3
  have hbl:h.length <= b:=by have:=via2.len;omega
  have via5:=via3.step hl5 hw5 hs5 hv5
  have g6:=g5.none.setTmp (t:=b) b2 (fun x hx=>by cases hx) (c:=[]) trivial (fun x hx=>by cases hx)
  have via6:=via5.new hbl []
  obtain⟨X,hX⟩:∃ X,X=(am bh (M++[zB Z3.status])).flatten:=⟨_,rfl⟩
  have hXe:X=(am bh M).flatten++bh (zB Z3.status):=by rw[hX];simp[am]
  have g7:=g6.app (c:=X) (by rw[hX];exact fx _ _) (by rw[hX];exact dX _)
  have via7:=via6.app [X]
  obtain⟨m7,n7⟩:=g7.tmp _ (aae ..)
  have hg7:=g7.hh
  have hl:=via7.len
  have hne:(am bh M).flatten≠[]:=by
   cases M with
   | nil=>exact absurd rfl hm
   | cons a r=>simp[am,aV]
  have hfl:(am bh M).flatten.length=M.length*11:=by
   have:∀ M:List Bk,(am bh M).flatten.length=M.length*11:=fun M=>by
    induction M with
    | nil=>rfl
    | cons a r ih=>rw[dF,List.flatten_cons,aaq,ih];simp;omega
   exact this M
  have hcnt:(M++[zB Z3.status]).length=M.length+1:=by simp
  have hMl:M.length <= 100000:=by omega
  have htk:(am bh M).flatten.take (M.length*11)=(am bh M).flatten:=List.take_of_length_le (by omega)
  have hlt5:aK (H5.length+1) (H5.set b []):=by
   have:=aF (aad _) g6.hh
   simpa using this
  have hlm:=fun k=>fx k M
  have hl5':=via5.len
  refine⟨M,cQ Z3,via7.does g7 (x:=.bsl (H5.set b []).length 0 11 (M++[zB (cQ Z3).status]).length) ?_ (.bx _ (by have:=via6.len;exact this) rfl (by rw[fQ,<- hX];exact m7) n7),z3.ready,m3,l3,by unfold li;rw[hA,ho,qK];rfl⟩
  rw[fQ,hcnt]
  simp only[zB,aV] at hXe k5
  have hidZ:=dX [zB Z3.status]
  have hidM:=dX M
  refine ac Yy mixed (by simp[N8]) fun hh hargs=>?_
  simp[N8,h1,h2,h3,h4,hd,Zs.top_mk,f1]
  refine aa (by simp) k2 ?_
  simp
  refine aa (by simp) k3 ?_
  simp
  refine aa (by simp) kb ?_
  simp
  refine ui (by omega) ?_
  simp
  refine aa (by simp) k5 ?_
  simp
  refine pc b1 hne (by omega) hidM (by simp) (by simp) (by simp;omega) (by simp;omega) ?_
  simp[htk,hXe,hlt5,hlm,ag]
  exact⟨by omega,fun q hq _=>.inr hq⟩
end
section
variable {L:List (Nat×List AV)} {h:d4} {i:Nat} {Z:Zs} {c:Bool} {n:Nat}
def si(Z:Zs)(k:Int):Bool:=!Z.over&&(!Z.skips||decide (k=83 \/ k=88))
theorem gI(g:SsG L h i Z)(k:Int):ae Tryz.prog 70 [.box i 0,.v (.int .u8 k)] h (.v (.bool (si Z k))) h []:=by
 have h1:=g.top
 unfold si
 refine ac ZY mixed (by simp[QG]) fun hh hargs=>?_
 cases ho:Z.over with
 | true=>simp[QG,h1,Zs.top_mk,ho,hh]
 | false =>
  cases hs:Z.skips with
  | false=>simp[QG,h1,Zs.top_mk,ho,hs,hh]
  | true =>
   by_cases nw:k=83
   ·simp[QG,h1,Zs.top_mk,ho,hs,hh,nw]
   ·have k83':(k==83)=false:=by simpa using nw
    by_cases qR:k=88<;>simp[QG,h1,Zs.top_mk,ho,hs,hh,nw,k83',qR]
def iC(Z:Zs)(f:Fm):Bool:=!Z.over&&(decide (f.kind=83)||(decide (f.kind=81)&&!Z.skips))
theorem H8(g:SsG [] h i Z)(f:Fm)(hl:si Z f.kind=false):ae Tryz.prog 46 [.box i 0,.agg (aJ f)] h (.sl 11 [] none .no) h []:=by
 have g1:=g.app (c:=aJ f) (by simp) (by simp[aL])
 have kl:=gI g1 f.kind
 rw[hl] at kl
 refine ac OC mixed (by simp[zT]) fun hh hargs=>?_
 simp[zT]
 refine aa (by simp) kl ?_
 simp[hh,ag]
theorem Kq{Z:Zs}{k:Int}(h:si Z k=true):Z.over=false /\ (Z.skips=false \/ k=83 \/ k=88):=by
 unfold si at h
 cases ho:Z.over<;>cases hs:Z.skips<;>simp[ho,hs] at h ⊢
 exact h
theorem Ib(g:SsG [] h i Z)(f:Fm)(hl:si Z f.kind=true)(nw:f.kind=83):
  DoesS 46 [.box i 0,.agg (aJ f)] h i Z (fun _ v=>v=.sl 11 (am bh [zB Z.status]) none .no) (cQ { Z with skips:=false }):=by
 have g1:=g.app (c:=aJ f) (by simp) (by simp[aL])
 have kl:=gI g1 f.kind
 rw[hl,nw] at kl
 have e1:∀ xs,(h++xs)[i]?=some Z.top:=fun xs=>g.at_ xs
 have e3:∀ xs cs,(h++xs).set i cs=h.set i cs++xs:=fun xs cs=>aaf _ _ g.i_lt
 have g2:=(g.setTop Z.status false Z.over).app (c:=aJ f) (by simp) (by simp[aL])
 have via2:Via h i Z [i] (h.set i { Z with status:=Z.status,skips:=false,over:=Z.over }.top++[aJ f]) { Z with status:=Z.status,skips:=false,over:=Z.over }:=((Via.refl h i Z).set (BX Z i) _ (Z2:={ Z with status:=Z.status,skips:=false,over:=Z.over }) rfl).app _
 obtain⟨H5,w5,v5,k5,r5,g5,t5,hl5,hw5,hs5,hv5⟩:=g2.byS (om g2.none)
 subst r5
 have via5:=via2.step hl5 hw5 hs5 hv5
 have hg5:=g5.hh
 have hlen:=via5.len
 refine via5.does g5 (x:=.sl 11 (am bh [zB Z.status]) none .no) ?_ rfl
 simp only[Zs.top_mk] at k5
 refine ac OC mixed (by simp[zT]) fun hh hargs=>?_
 simp[zT,nw]
 refine aa (by simp) kl ?_
 simp[nw,e1,Zs.top_mk,e3]
 refine aa (by simp) k5 ?_
 simp[hg5,ag,hlen]
 intro q hq _
 first |exact hq |exact hq.symm |(rcases hq with hq |hq<;>simp[hq])
theorem DoesS.imp{f:FuncId}{args:List AV}{r r':d4 -> AV -> Prop}{Z':Zs}(d:DoesS f args h i Z r Z')(hr:∀ h' v,r h' v -> r' h' v):DoesS f args h i Z r' Z':=by
 obtain⟨h',wr,v,k,h1,rest⟩:=d
 exact⟨h',wr,v,k,hr _ _ h1,rest⟩
theorem H9(g:SsG [] h i Z)(f:Fm)(hl:si Z f.kind=true)(nw:¬f.kind=83)(qR:¬f.kind=88)(k81:¬f.kind=81){M:List Bk}{Z2:Zs}(d2:DoesS 73 [.box i 0,.agg (aJ f)] (h++[aJ f]) i Z (fun _ r=>r=aI M none) Z2):
  DoesS 46 [.box i 0,.agg (aJ f)] h i Z (fun _ v=>v=.sl 11 (am bh M) none .no) { Z2 with status:=Z2.status,skips:=false,over:=Z2.over }:=by
 have k83':(f.kind==83)=false:=by simpa using nw
 have k88':(f.kind==88)=false:=by simpa using qR
 have k81':(f.kind==81)=false:=by simpa using k81
 have g1:=g.app (c:=aJ f) (by simp) (by simp[aL])
 have via1:Via h i Z [] (h++[aJ f]) Z:=(Via.refl h i Z).app _
 have kl:=gI g1 f.kind
 rw[hl] at kl
 obtain⟨H2,w2,r2,k2,hr2,g2,t2,hl2,hw2,hs2,hv2⟩:=g1.byS d2
 subst hr2
 have via2:=via1.step hl2 hw2 hs2 hv2
 have top2:=g2.top
 have g3:=g2.setTop Z2.status false Z2.over
 have via3:Via h i Z (i::(w2++[])) (H2.set i { Z2 with status:=Z2.status,skips:=false,over:=Z2.over }.top) { Z2 with status:=Z2.status,skips:=false,over:=Z2.over }:=via2.set (BX Z2 i) _ rfl
 have kb:=sV g3
 have hg3:=g3.hh
 have hlen:=via3.len
 refine via3.does g3 (x:=.sl 11 (am bh M) none .no) ?_ rfl
 simp only[Zs.top_mk] at kb hg3 hlen ⊢
 simp only[BD] at k2
 refine ac OC mixed (by simp[zT]) fun hh hargs=>?_
 simp[zT,nw,k83',qR,k88',k81,k81']
 refine aa (by simp) kl ?_
 simp[nw,k83',qR,k88',k81,k81']
 refine aa (by simp) k2 ?_
 simp[top2,Zs.top_mk]
 refine aa (by simp) kb ?_
 simp
 refine xk (by omega) ?_
 simp at hg3 hlen
 simp[hg3,ag,hlen,bA]
 exact fun q hq _=>.inr hq
theorem Ia(g:SsG [] h i Z)(f:Fm)(hl:si Z f.kind=true)(nw:¬f.kind=83)(qR:¬f.kind=88)(k81:¬f.kind=81){M:List Bk}{c0 t0:d5}{Z2:Zs}(d2:DoesS 73 [.box i 0,.agg (aJ f)] (h++[aJ f]) i Z (fun _ r=>r=aI M (some (c0,t0))) Z2):
  DoesS 46 [.box i 0,.agg (aJ f)] h i Z (fun _ v=>v=.sl 11 (am bh [xp c0 t0]) none .no) (nM { Z2 with status:=Z2.status,skips:=true,over:=Z2.over }):=by
 have k83':(f.kind==83)=false:=by simpa using nw
 have k88':(f.kind==88)=false:=by simpa using qR
 have k81':(f.kind==81)=false:=by simpa using k81
 have g1:=g.app (c:=aJ f) (by simp) (by simp[aL])
 have via1:Via h i Z [] (h++[aJ f]) Z:=(Via.refl h i Z).app _
 have kl:=gI g1 f.kind
 rw[hl] at kl
 obtain⟨H2,w2,r2,k2,hr2,g2,t2,hl2,hw2,hs2,hv2⟩:=g1.byS d2
 subst hr2
 have via2:=via1.step hl2 hw2 hs2 hv2
 have top2:=g2.top
 have g3:=g2.setTop Z2.status true Z2.over
 have via3:Via h i Z (i::(w2++[])) (H2.set i { Z2 with status:=Z2.status,skips:=true,over:=Z2.over }.top) { Z2 with status:=Z2.status,skips:=true,over:=Z2.over }:=via2.set (BX Z2 i) _ rfl
 obtain⟨h4,w4,r4,k4,hr4,g4,t4,hl4,hw4,hs4,hv4⟩:=g3.byS (zf g3.none c0 t0)
 subst hr4
 have via4:=via3.step hl4 hw4 hs4 hv4
 have hg4:=g4.hh
 have hlen:=via4.len
 refine via4.does g4 (x:=.sl 11 (am bh [xp c0 t0]) none .no) ?_ rfl
 simp only[Zs.top_mk] at k4
 simp only[BE] at k2
 simp only[Gd] at k4
 refine ac OC mixed (by simp[zT]) fun hh hargs=>?_
 simp[zT,nw,k83',qR,k88',k81,k81']
 refine aa (by simp) kl ?_
 simp[nw,k83',qR,k88',k81,k81']
 refine aa (by simp) k2 ?_
 simp[top2,Zs.top_mk]
 refine aa (by simp) k4 ?_
 simp
 refine dr ?_
 simp[hg4,ag,hlen]
 exact fun q hq _=>hq
set_option maxHeartbeats 1000000 in
theorem Ty(g:SsG [] h i Z)(z:ZOk c n Z)(hn:n <= 1000)(f:Fm)(hf:FmS c f):
  ∃ M Z',DoesS 46 [.box i 0,.agg (aJ f)] h i Z (RepX h.length i Z' (M++(if iC Z f=true then[zB Z'.status] else[]))) Z' /\ ZOk c (n+1) Z' /\ ((∀ m∈M,BkG c m) /\ M.length <= 2000) /\ rK Z.V f=(M++(if iC Z f=true then[zB Z'.status] else[]),Z'.V):=by
 cases hl:si Z f.kind with
 | false =>
  have hw:iC Z f=false:=by
   unfold si at hl
   unfold iC
   cases ho:Z.over<;>cases hs:Z.skips<;>simp[ho,hs] at hl ⊢
   exact hl.1
  exact⟨[],Z,g.idle (H8 g f hl) (by rw[hw];exact .sl rfl),z.mono (aad _),⟨fun m hm=>(by cases hm),by simp⟩,by unfold rK;rw[if_pos (show OL Z.V f.kind=false from hl),hw];rfl⟩
 | true =>
  obtain⟨ho,hsk⟩:=Kq hl
  have hlA:¬OL Z.V f.kind=false:=by show ¬si Z f.kind=false;rw[hl];simp
  by_cases nw:f.kind=83
  ·have hw:iC Z f=true:=by unfold iC;simp[ho,nw]
   obtain⟨h',wr,v,kk,hv,rest⟩:=Ib g f hl nw
   refine⟨[],cQ { Z with skips:=false },⟨h',wr,v,kk,?_,rest⟩,((z.setT z.st false Z.over).ready).mono (aad _),⟨fun m hm=>(by cases hm),by simp⟩,by unfold rK;rw[if_neg hlA,if_pos nw,hw,qK];rfl⟩
   rw[hw]
   exact .sl hv
  have k83':(f.kind==83)=false:=by simpa using nw
  have g1:=g.app (c:=aJ f) (by simp) (by simp[aL])
  have via1:Via h i Z [] (h++[aJ f]) Z:=(Via.refl h i Z).app _
  have kl:=gI g1 f.kind
  rw[hl] at kl
  have e1:∀ xs,(h++xs)[i]?=some Z.top:=fun xs=>g.at_ xs
  have e3:∀ xs cs,(h++xs).set i cs=h.set i cs++xs:=fun xs cs=>aaf _ _ g.i_lt
  by_cases qR:f.kind=88
  ·have hw:iC Z f=false:=by unfold iC;simp[qR]
   refine⟨[],{ Z with status:=Z.status,skips:=Z.skips,over:=true },g.turned Z.status Z.skips true (v:=.sl 11 [] none .no) ?_ (fun h'=>by rw[hw];exact .sl rfl),(z.setT z.st Z.skips true).mono (aad _),⟨fun m hm=>(by cases hm),by simp⟩,by unfold rK;rw[if_neg hlA,if_neg nw,if_pos qR,hw];rfl⟩
   have hlt:=ao (i:=i) g.hh (Zs.top_lt { Z with over:=true } g.e_lt g.a_lt g.p_lt)
   simp only[Zs.top_mk] at hlt ⊢
   rw[qR] at kl
   refine ac OC mixed (by simp[zT]) fun hh hargs=>?_
   simp[zT,qR]
   refine aa (by simp) kl ?_
   simp[qR,e1,Zs.top_mk,e3,hlt,ag,bA]
  have k88':(f.kind==88)=false:=by simpa using qR
  have hns:Z.skips=false:=hsk.resolve_right (by rintro(e |e);exact nw e;exact qR e)
  by_cases k81:f.kind=81
  ·have hw:iC Z f=true:=by unfold iC;simp[ho,k81,hns]
   obtain⟨M,Z2,d2,z2,m2,ml2,hA⟩:=Ij g1.none z hn f.text hf.text
   have hD:rK Z.V f=(M++(if iC Z f=true then[zB Z2.status] else[]),Z2.V):=by unfold rK;rw[if_neg hlA,if_neg nw,if_neg qR,if_pos k81,hw,if_pos rfl];exact hA
   obtain⟨h5,w5,r5,k5,hr5,g5,t5,hl5,hw5,hs5,hv5⟩:=g1.byS d2
   have via5:=via1.step hl5 hw5 hs5 hv5
   have hlen:=via5.len
   have hg5:=g5.hh
   rw[k81] at kl
   cases hr5 with
   | sl hv =>
    subst hv
    refine⟨M,Z2,via5.does g5 (x:=.sl 11 (am bh (M++[zB Z2.status])) none .no) ?_ (by rw[hw];exact .sl rfl),z2,⟨m2,ml2⟩,hD⟩
    refine ac OC mixed (by simp[zT]) fun hh hargs=>?_
    simp[zT,k81]
    refine aa (by simp) kl ?_
    simp[k81]
    refine aa (by simp) k5 ?_
    simp[hg5,ag,hlen]
    exact fun q hq _=>hq
   | bx b hlb hv hb hnb =>
    subst hv
    have hbl:b<h5.length:=(List.getElem?_eq_some_iff.1 hb).1
    refine⟨M,Z2,via5.does g5 (x:=.bsl b 0 11 (M++[zB Z2.status]).length) ?_ (by rw[hw];exact .bx b (by simp at hlb;omega) rfl hb hnb),z2,⟨m2,ml2⟩,hD⟩
    refine ac OC mixed (by simp[zT]) fun hh hargs=>?_
    simp[zT,k81]
    refine aa (by simp) kl ?_
    simp[k81]
    refine aa (by simp) k5 ?_
    simp[hg5,ag,hlen,hbl]
    exact fun q hq _=>hq
  have hw:iC Z f=false:=by unfold iC;simp[nw,k81]
  obtain⟨M,o,Z2,d2,z2,m2,ml2,hA⟩:=Lc g1.none z hn f hf
  cases o with
  | none=>exact⟨M,_,(H9 g f hl nw qR k81 d2).imp fun h' v hv=>by rw[hw];exact .sl (by simpa using hv),z2.setT z2.st false Z2.over,⟨m2,ml2⟩,by unfold rK;rw[if_neg hlA,if_neg nw,if_neg qR,if_neg k81,hA,hw];show(_,_)=(_++[],_);rw[List.append_nil];rfl⟩
  | some e =>
   obtain⟨c0,t0⟩:=e
   exact⟨[xp c0 t0],_,(Ia g f hl nw qR k81 d2).imp fun h' v hv=>by rw[hw];exact .sl (by simpa using hv),(z2.setT z2.st true Z2.over).fail,⟨fun m hm=>(by rw[aaa.1 hm];exact FI c _ _),by simp⟩,by unfold rK;rw[if_neg hlA,if_neg nw,if_neg qR,if_neg k81,hA,hw,Fx];rfl⟩
end
section
variable {L:List (Nat×List AV)} {h:d4} {i:Nat} {Z:Zs}
theorem PE(e:AV)(he:e.idOf=none)(hu:e.cells=some [e])(hun:e.unown=e)(h:d4)(hl:e.lt h.length):ae Tryz.prog 34 [e] h (.box (h.length+3) 0) (h++[bc 0 [],bc 0 [],[.mp (h.length+1) 1 true],[e,.mp h.length 2 false,.box (h.length+2) 0,.v (.int .u8 73),.v (.bool false),.v (.bool false)]]) []:=by
 refine ac Zz mixed (by simp[VJ]) fun hh hargs=>?_
 have hl4:=aF (aav h.length 4) hh
 have hle:=fN (aav h.length 4) hl
 simp[VJ,he]
 refine aa (by simp) (O4 _) ?_
 simp[he,hu,hun]
 simp[bc,hl4,hle]
def z0(b:Nat):Zs:=⟨b+1,AW b,b+2,0,[],b+4,Em (b+3),73,false,false,true⟩
end
end Ax
end Go.Proofs.YtlbgjlmokpkkeaaGreatDoor
