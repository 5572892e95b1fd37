import Derived.Test.YtlbgjlmokpkkeaaGreatDoorRows
import Derived.Laws.LoneSync
import Derived.Test.YtlbgjlmokpkkeaaGreatDoorQAxIp
open List renaming getD_eq_getElem?_getD -> aaa, getElem?_eq_some_iff -> aab, getElem?_eq_getElem -> aac, getElem?_set_ne -> aad, getElem?_set -> aae
set_option linter.all false
set_option maxRecDepth 10000
namespace Go.Proofs.YtlbgjlmokpkkeaaGreatDoor
namespace Ax
open Go.RowKit Go By
def Vv:XFun:=⟨4,.seq (.ops [oK 0 (.pointer none)]) (.seq (.ops [oX 1 (.makeMap 0 false),oD 2 0 [.v (.map none),.v (.int .i64 0)] 1,oJ 3 2,oA 0 3]) .ret),[.move (.tmp 0)]⟩
theorem Zo:aj Tryz.prog 19=some Vv:=by kernel_rfl
def NM:XFun:=⟨10,.seq (.ops [oK 2 (.int .i64 0)]) (.seq (.seq (.ops [oM 3 0,oC 4 189 [3],oV 5 4]) (.cond (.tmp 5) (.seq (.ops [oK 2 (.int .i64 0)]) .ret) .skip)) (.seq (.ops [oM 6 0,oX 7 (.nilCheck (.tmp 6)),oF 8 1 7,oX 9 (.call 241 [.tmp 8,.const (.int .i64 1)]),oA 2 9]) .ret)),[.move (.tmp 2)]⟩
theorem X0:aj Tryz.prog 193=some NM:=by kernel_rfl
def Nk:XFun:=⟨31,.seq (.ops [oJ 4 1,oN 6]) (.seq (.seq (.ops [oM 7 0,oC 8 189 [7],oV 9 8]) (.cond (.tmp 9) (.seq (.ops [oN 6]) .ret) .skip)) (.seq (.seq (.ops [oF 10 0 4,oL 11 10]) (.block 0 (.seq (.ops [oI 13 .eql 11 (.int .i64 5),oA 12 13]) (.cond (.tmp 12) (.seq (.ops [oF 14 1 4,oL 15 14,oC 16 190 [15],oA 6 16]) .ret) (.seq (.ops [oI 18 .eql 11 (.int .i64 6),oA 17 18]) (.cond (.tmp 17) (.seq (.ops [oM 19 2,oC 20 191 [19],oR 21 1 1 20 vL,oA 6 21]) .ret) (.seq (.ops [oI 23 .eql 11 (.int .i64 7),oA 22 23]) (.cond (.tmp 22) (.seq (.ops [oM 24 0,oC 25 193 [24],oC 26 192 [25],oX 27 (.s2b (.tmp 26)),oD 28 1 pg 27,oR 29 2 1 28 pg,oR 30 1 1 29 vL,oA 6 30]) .ret) .skip)))))))) (.seq (.ops [oN 6]) .ret))),[.move (.tmp 6)]⟩
theorem Xl:aj Tryz.prog 134=some Nk:=by kernel_rfl
def NB:XFun:=⟨36,.seq (.ops [oK 6 (.string (af [])),oK 7 (.string (af [])),oK 8 (.bool false)]) (.seq (.ops [oM 10 1,oC 11 129 [10],oZ 9 nv,oS 3 9 11]) (.seq (.block 0 (.seq (.ops [oM 13 0,oC 14 189 [13],oV 15 14,oA 12 15]) (.cond (.tmp 12) (.seq (.ops [oK 6 (.string (af [])),oK 7 (.string (af [])),oK 8 (.bool false)]) .ret) (.seq (.ops [oF 17 0 9,oL 18 17,oI 19 .eql 18 (.int .i64 0),oA 16 19]) (.cond (.tmp 16) (.seq (.ops [oK 6 (.string (af [52,50,54,48,49])),oK 7 (.string (af [115,121,110,116,97,120,32,101,114,114,111,114])),oK 8 (.bool true)]) .ret) (.seq (.ops [oP 21 3 9,oC 22 184 [21],oA 20 22]) (.cond (.tmp 20) (.seq (.ops [oK 6 (.string (af [])),oK 7 (.string (af [])),oK 8 (.bool false)]) .ret) (.seq (.ops [oM 24 2,oI 25 .eql 24 (.int .u8 69),oA 23 25]) (.cond (.tmp 23) (.seq (.ops [oC 26 217 [],oK 6 (.string (af [50,53,80,48,50])),oA 7 26,oK 8 (.bool true)]) .ret) (.seq (.ops [oF 28 0 9,oL 29 28,oI 30 .neq 29 (.int .i64 1),oM 31 30,oG 31 true (oM 32 0),oG 31 true (oM 33 1),oG 31 true (oC 34 218 [32,33]),oT 35 31 34,oA 27 35]) (.cond (.tmp 27) (.seq (.ops [oK 6 (.string (af [52,50,80,48,49])),oK 7 (.string (af [114,101,108,97,116,105,111,110,32,100,111,101,115,32,110,111,116,32,101,120,105,115,116])),oK 8 (.bool true)]) .ret) .skip))))))))))) (.seq (.ops [oK 6 (.string (af [])),oK 7 (.string (af [])),oK 8 (.bool false)]) .ret))),[.move (.tmp 6),.move (.tmp 7),.move (.tmp 8)]⟩
theorem XN:aj Tryz.prog 176=some NB:=by kernel_rfl
def NS:XFun:=⟨1,.seq (.ops [oK 0 (.string (af []))]) (.seq (.ops [oK 0 (.string (af [99,117,114,114,101,110,116,32,116,114,97,110,115,97,99,116,105,111,110,32,105,115,32,97,98,111,114,116,101,100,44,32,99,111,109,109,97,110,100,115,32,105,103,110,111,114,101,100,32,117,110,116,105,108,32,101,110,100,32,111,102,32,116,114,97,110,115,97,99,116,105,111,110,32,98,108,111,99,107]))]) .ret),[.move (.tmp 0)]⟩
theorem Ye:aj Tryz.prog 217=some NS:=by kernel_rfl
def NK:XFun:=⟨12,.seq (.ops [oK 2 (.bool false)]) (.seq (.ops [oM 3 0,oX 4 (.pnileq true (.tmp 3)),oM 5 4,oG 5 true (oM 6 0),oG 5 true (oX 7 (.nilCheck (.tmp 6))),oG 5 true (oF 8 0 7),oG 5 true (oL 9 8),oG 5 true (oX 10 (.mnileq true (.tmp 9))),oT 11 5 10,oA 2 11]) .ret),[.move (.tmp 2)]⟩
theorem XY:aj Tryz.prog 189=some NK:=by kernel_rfl
def NT:XFun:=⟨17,.seq (.ops [oK 4 (.bool false)]) (.seq (.ops [oM 8 0,oX 9 (.nilCheck (.tmp 8)),oF 10 0 9,oL 11 10,oM 12 1,oX 13 (.lookup none 0 false true [] (.tmp 11) (.tmp 12)),oM 7 13,oE 14 7 0,oE 15 7 1,oZ 5 [],oS 0 5 14,oA 6 15]) (.seq (.ops [oM 16 6,oA 4 16]) .ret)),[.move (.tmp 4)]⟩
theorem Yf:aj Tryz.prog 218=some NT:=by kernel_rfl
end Ax
namespace Ax
set_option maxRecDepth 100000
open Go.RowKit Go By
section
variable {P:Program} {f:FuncId} {args:List AV} {h:d4}
theorem tQ(hE:dL P f=true){i off:Nat}{cs:List AV}{x:Value}{r:AV}(hcs:h[i]?=some cs)(ho:off<cs.length)(hx:x.oneCell'=true)(hr:r.idOf=none)
  (hc:∀(G:Ghost) (w:World) (vs:List Value),WorldOk G w -> dB G h -> SeesL G args vs -> ∃ b v,G.boxes[i]?=some b /\ G.kinds b=none /\ Sees G r v /\ Calls P f vs.toArray w fun e w'=>e=.returned v /\ w'=w.setCell ⟨b,G.base i+off,none⟩ x) :
  ae P f args h r (h.set i (cs.set off (.v x))) [i]:=by
 refine⟨dS hE,fun G w vs cls hW hS hvs hown hoh=>?_⟩
 obtain⟨b,v,hb,hk,hv,hcl⟩:=hc G w vs hW hS hvs
 refine hcl.mono fun e w' he=>?_
 obtain⟨rfl,rfl⟩:=he
 have hlh:i<h.length:=(aab.1 hcs).1
 have hbl:i<G.boxv.length:=by rw[<- hS.1];exact hlh
 obtain⟨us,hus⟩:∃ us,G.boxv[i]?=some us:=⟨_,aac hbl⟩
 obtain⟨q1,q2,q3⟩:=hS.2 i cs us hcs hus
 have hW':=hW.setBox hb hk hus off [x] (by rw[q1];simp;omega)
 have hE':Ext G (G.setBox i (Ax.lay us off [x])):=Ext.setBox i _
 have el:Ax.lay us off [x]=us.set off x:=rfl
 rw[el] at hW' hE'
 have at_:∀(j:Nat) (ds:List AV) (ws:List Value),(h.set i (cs.set off (.v x)))[j]?=some ds -> (G.boxv.set i (us.set off x))[j]?=some ws -> (j=i /\ ds=cs.set off (.v x) /\ ws=us.set off x) \/ (j≠i /\ h[j]?=some ds /\ G.boxv[j]?=some ws):=fun j ds ws e1 e2=>by
  rw[aae] at e1 e2
  by_cases hi:i=j
  ·rw[if_pos hi,if_pos hlh] at e1
   rw[if_pos hi,if_pos hbl] at e2
   injection e1 with e1;injection e2 with e2
   exact .inl ⟨hi.symm,e1.symm,e2.symm⟩
  ·rw[if_neg hi] at e1 e2
   exact .inr ⟨fun hh=>hi hh.symm,e1,e2⟩
 refine⟨v,G.setBox i (us.set off x),cls,rfl,hE',hW',⟨by simp[Ghost.setBox,hS.1],fun j ds ws e1 e2=>?_⟩,fun j ds ws e1 e2 p y hj=>?_,hv.ext hE',.none _ hr,fun y hy=>(by rw[hr] at hy;cases hy),fun j hj hn=>?_,fun y B hy _=>hy⟩
 ·rcases at_ j ds ws e1 e2 with⟨_,rfl,rfl⟩ |⟨_,h3,h4⟩
  ·refine⟨by simpa using q1,fun y hy=>?_,fun p c hp=>?_⟩
   ·rcases List.mem_or_eq_of_mem_set hy with hy |rfl
    ·exact q2 y hy
    ·exact hx
   ·rw[aae] at hp
    by_cases hpo:off=p
    ·rw[if_pos hpo,if_pos ho] at hp
     injection hp with hp
     subst hp hpo
     rw[aaa,List.getElem?_set_self (by rw[q1];exact ho)]
     exact .v _
    ·rw[if_neg hpo] at hp
     rw[aaa,aad hpo,<- aaa]
     exact(q3 p c hp).ext hE'
  ·obtain⟨h5,h6,h7⟩:=hS.2 j ds ws h3 h4
   exact⟨h5,h6,fun p c hp=>(h7 p c hp).ext hE'⟩
 ·rcases at_ j ds ws e1 e2 with⟨rfl,rfl,rfl⟩ |⟨_,h3,h4⟩
  ·rw[aae] at hj
   by_cases hpo:off=p
   ·rw[if_pos hpo,if_pos ho] at hj
    injection hj with hj
    subst hj
    exact⟨.none _ rfl,fun y hy=>by cases hy⟩
   ·rw[if_neg hpo] at hj
    obtain⟨h5,h6⟩:=hoh j cs us hcs hus p y hj
    refine⟨?_,h6⟩
    rw[aaa,aad hpo,<- aaa]
    exact h5.move fun q y' B hB' _ hbB hcl=>⟨hbB,hcl,.inr (.inr ⟨j,cs,us,p,y,hcs,hus,hj,hB'⟩)⟩
  ·obtain⟨h5,h6⟩:=hoh j ds ws h3 h4 p y hj
   exact⟨h5.move fun q y' B hB' _ hbB hcl=>⟨hbB,hcl,.inr (.inr ⟨j,ds,ws,p,y,h3,h4,hj,hB'⟩)⟩,h6⟩
 ·show(G.boxv.set i _)[j]?=_
  rw[aad (fun e=>hn (by rw[e];exact List.mem_cons_self ..))]
end
theorem xD(b o:Nat)(n d:Int)(w:World)(hc:w.cell? ⟨b,o,none⟩=some (.int .i64 n))(hz:w.frozen? ⟨b,o,none⟩=false):
  Calls Tryz.prog 241 #[.pointer (some ⟨b,o,none⟩),.int .i64 d] w fun e w'=>e=.returned (.int .i64 (IntKind.i64.wrap (n+d))) /\ w'=w.setCell ⟨b,o,none⟩ (.int .i64 (IntKind.i64.wrap (n+d))):=by
 have hadd:=run_call_add (P:=Tryz.prog) Tryz.func254 (by kernel_rfl) (by kernel_rfl) (by kernel_rfl) .i64 (by kernel_rfl) (y:=d) (s:=IntKind.i64.wrap (n+d)) hc hz (by simp[go_sem])
 go_enter Tryz.func241,Tryz.ntmps241
 go_wp2
 go_ret
 have e:IntKind.i64.wrap (n+d)=RowKit.wrap64 (n+d):=by unfold RowKit.wrap64;exact IntKind.wrap_i64 _
 rw[e]
 exact⟨rfl,rfl⟩
theorem FL{G:Ghost}{w:World}{h:d4}(hW:WorldOk G w)(hS:dB G h){i b off:Nat}{cs:List AV}{x:Value}(hcs:h[i]?=some cs)(hx:cs[off]?=some (.v x))(hb:G.boxes[i]?=some b /\ G.kinds b=none):
  w.cell? ⟨b,G.base i+off,none⟩=some x /\ w.frozen? ⟨b,G.base i+off,none⟩=false:=by
 have hbl:i<G.boxv.length:=by rw[<- hS.1];exact(aab.1 hcs).1
 obtain⟨us,hus⟩:∃ us,G.boxv[i]?=some us:=⟨_,aac hbl⟩
 obtain⟨q1,q2,q3⟩:=hS.2 i cs us hcs hus
 obtain⟨b1,b2,b3,b4⟩:=hW.box i b us hb.1 hus
 have ho:off<us.length:=by rw[q1];exact(aab.1 hx).1
 have e:=(q3 off _ hx).inv_v
 rw[aaa,aac ho] at e
 have e:us[off]=x:=e
 exact b4 off x (by rw[aac ho,e]) hb.2
theorem Dk{h:d4}{i off:Nat}{cs:List AV}{n d:Int}(hcs:h[i]?=some cs)(hx:cs[off]?=some (.v (.int .i64 n))):
  ae Tryz.prog 241 [.box i off,.v (.int .i64 d)] h (.v (.int .i64 (IntKind.i64.wrap (n+d)))) (h.set i (cs.set off (.v (.int .i64 (IntKind.i64.wrap (n+d)))))) [i] :=
 tQ (by kernel_rfl) hcs (aab.1 hx).1 rfl rfl fun G w vs hW hS hvs=>by
  obtain⟨a,c,rfl,ha,hc⟩:=Bp hvs
  obtain⟨b,rfl,hb⟩:=ha.inv_box
  rw[hc.inv_v]
  obtain⟨h1,h2⟩:=FL hW hS hcs hx hb
  exact⟨b,_,hb.1,hb.2,.v _,xD b _ n d w h1 h2⟩
end Ax
end Go.Proofs.YtlbgjlmokpkkeaaGreatDoor
