import Derived.LaidEql
import Derived.Stop.Asserts
import Derived.RowKitTokens
import Derived.Deep.MidRow
import Derived.Test.YtlbgjlmokpkkeaaGreatDoorQAxIp
open List renaming getElem?_eq_getElem -> aaa, getElem?_eq_some_iff -> aab, getElem?_eq_none -> aac, getElem?_map -> aae
open Nat renaming add_zero -> aad
set_option linter.all false
set_option maxRecDepth 10000
namespace Go.Proofs.YtlbgjlmokpkkeaaGreatDoor
namespace Ax
open Go.RowKit Go By
section
variable {P:Program} {f:FuncId} {args:List AV} {h:d4}
theorem WorldOk.below_of{G:Ghost}{w w':World}(hW:WorldOk G w)(hb:Below w.heap.size w w'):WorldOk G w':=by
 have hcell:∀(b j:Nat),b<w.heap.size -> w'.cell? ⟨b,j,none⟩=w.cell? ⟨b,j,none⟩ /\ w'.frozen? ⟨b,j,none⟩=w.frozen? ⟨b,j,none⟩:=fun b j hlt =>
  ⟨World.cell?_of_block (w:=w) (a:=⟨b,j,none⟩) (hb.block b hlt),World.frozen?_of_block (w:=w) (a:=⟨b,j,none⟩) (hb.block b hlt)⟩
 refine⟨hW.below.trans (hb.mono hW.size),fun b B hB=>?_,fun i b us h1 h2=>?_,hW.nodup2,hW.len,hW.objK (eC hb)⟩
 ·obtain⟨h1,h2,h3,h4,h5⟩:=hW.buf b B hB
  exact⟨h1,by have:=hb.size;omega,h3,fun j hj=>by rw[(hcell b j h2).1,(hcell b j h2).2];exact h4 j hj,fun j x hx=>by rw[(hcell b j h2).1];exact h5 j x hx⟩
 ·obtain⟨h3,h4,h5,h6⟩:=hW.box i b us h1 h2
  exact⟨h3,by have:=hb.size;omega,h5,fun j x hx=>by rw[(hcell b _ h4).1,(hcell b _ h4).2];exact h6 j x hx⟩
theorem WorldOk.cell0{G:Ghost}{w:World}(hW:WorldOk G w){b:Nat}{x:Value}(hd:G.w0.cell? ⟨b,0,none⟩=some x):w.cell? ⟨b,0,none⟩=some x:=by
 have hlt:b<G.w0.heap.size:=gW (b:=b) (j:=0) (by rw[hd];rfl)
 rw[hW.below.cell (p:=⟨b,0,none⟩) hlt]
 exact hd
theorem qE(hE:dL P f=true){i:Nat}{cs:List AV}{xs:List Value}{r:AV}(hcs:h[i]?=some cs)(hl:xs.length=cs.length)(hx:∀ x∈xs,x.oneCell'=true)(hr:r.idOf=none)
  (hc:∀(G:Ghost) (w:World) (vs:List Value),WorldOk G w -> dB G h -> SeesL G args vs -> ∃ b v,G.boxes[i]?=some b /\ G.kinds b=none /\ Sees G r v /\ Calls P f vs.toArray w fun e w'=>e=.returned v /\ ∃ w1,Below w.heap.size w w1 /\ w'=w1.setCells b (G.base i) xs) :
  ae P f args h r (h.set i (xs.map AV.v)) [i]:=by
 refine⟨dS hE,fun G w vs cls hW hS hvs hown hoh=>?_⟩
 obtain⟨b,v,hb,hk,hv,hcl⟩:=hc G w vs hW hS hvs
 refine hcl.mono fun e w' he=>?_
 obtain⟨rfl,w1,hbel,rfl⟩:=he
 have hlh:i<h.length:=(aab.1 hcs).1
 have hbl:i<G.boxv.length:=by rw[<- hS.1];exact hlh
 obtain⟨us,hus⟩:∃ us,G.boxv[i]?=some us:=⟨_,aaa hbl⟩
 obtain⟨q1,q2,q3⟩:=hS.2 i cs us hcs hus
 have hW':=(hW.below_of hbel).setBox hb hk hus 0 xs (by rw[q1];omega)
 have hxu:xs.length=us.length:=by omega
 have el:Ax.lay us 0 xs=xs:=List.ext_getElem? fun q=>by
  rw[jE xs us 0 q (by omega),Nat.zero_add,Nat.sub_zero]
  split
  ·rfl
  ·rw[aac (by omega),aac (by omega)]
 rw[el,aad] at hW'
 have hE':Ext G (G.setBox i xs):=Ext.setBox i _
 have at_:∀(j:Nat) (ds:List AV) (ws:List Value),(h.set i (xs.map AV.v))[j]?=some ds -> (G.boxv.set i xs)[j]?=some ws -> (j=i /\ ds=xs.map AV.v /\ ws=xs) \/ (j≠i /\ h[j]?=some ds /\ G.boxv[j]?=some ws):=fun j ds ws e1 e2=>by
  rw[List.getElem?_set] at e1 e2
  by_cases hi:i=j
  ·rw[if_pos hi,if_pos hlh] at e1
   rw[if_pos hi,if_pos hbl] at e2
   injection e1 with e1;injection e2 with e2
   exact .inl ⟨hi.symm,e1.symm,e2.symm⟩
  ·rw[if_neg hi] at e1 e2
   exact .inr ⟨fun hh=>hi hh.symm,e1,e2⟩
 have vid:∀(p:Nat) (y:AV),(xs.map AV.v)[p]?=some y -> y.idOf=none:=fun p y hp=>by
  rw[aae] at hp
  cases hx:xs[p]? with
  | none=>rw[hx] at hp;cases hp
  | some z=>rw[hx] at hp;injection hp with hp;subst hp;rfl
 refine⟨v,G.setBox i xs,cls,rfl,hE',hW',⟨by simp[Ghost.setBox,hS.1],fun j ds ws e1 e2=>?_⟩,fun j ds ws e1 e2 p y hj=>?_,hv.ext hE',.none _ hr,fun y hy=>(by rw[hr] at hy;cases hy),fun j hj hn=>?_,fun y B hy _=>hy⟩
 ·rcases at_ j ds ws e1 e2 with⟨_,rfl,rfl⟩ |⟨_,h3,h4⟩
  ·refine⟨by simp,hx,fun p c hp=>?_⟩
   rw[aae] at hp
   cases hxp:ws[p]? with
   | none=>rw[hxp] at hp;cases hp
   | some z=>rw[hxp] at hp;injection hp with hp;subst hp;rw[List.getD_eq_getElem?_getD,hxp];exact .v _
  ·obtain⟨h5,h6,h7⟩:=hS.2 j ds ws h3 h4
   exact⟨h5,h6,fun p c hp=>(h7 p c hp).ext hE'⟩
 ·rcases at_ j ds ws e1 e2 with⟨rfl,rfl,rfl⟩ |⟨_,h3,h4⟩
  ·have:=vid p y hj
   exact⟨.none _ this,fun x hx=>by rw[this] at hx;cases hx⟩
  ·obtain⟨h5,h6⟩:=hoh j ds ws h3 h4 p y hj
   exact⟨h5.move fun q y' B hB' _ hbB hcl=>⟨hbB,hcl,.inr (.inr ⟨j,ds,ws,p,y,h3,h4,hj,hB'⟩)⟩,h6⟩
 ·show(G.boxv.set i _)[j]?=_
  rw[List.getElem?_set_ne (fun e=>hn (by rw[e];exact List.mem_cons_self ..))]
end
end Ax
namespace Ax
set_option maxRecDepth 100000
open Go.RowKit Go.Extern.Stop Go.Stop Go.Extern Go By
theorem MQ(t:Value)(w:World):
  Calls Tryz.prog 100 #[.nilIface,t] w fun e w'=>e=.returned (.bool false) /\ w'=w:=by
 go_enter Tryz.func100,Tryz.ntmps100
 go_wp2
 go_ret
 exact⟨rfl,rfl⟩
theorem yd(t:Addr)(w:World):(ReflectliteValue.unpack (.iface 177 (.pointer (some t)))).run Tryz.prog w
  = .ok (.agg #[.pointer (some ⟨4,177,none⟩),.pointer (some ⟨w.heap.size,0,none⟩),.int .u64 150]) (w.alloc (.cells #[.pointer (some t)] 177)):=by kernel_rfl
theorem Gm(a:Addr)(w:World):(ReflectliteValue.methodAny (ReflectliteValue.valueError "reflectlite.Value.Type" 0) (fun t _ _ _=>ReflectliteType.toType t) #[.agg #[.pointer (some ⟨4,177,none⟩),.pointer (some a),.int .u64 150]]).run Tryz.prog w
  = .ok (.iface 277 (.agg #[.pointer (some ⟨4,177,none⟩)])) w:=by kernel_rfl
theorem Gl(h:Value)(w:World):(Go.method 464 277 (.agg #[h]) "Kind").run Tryz.prog w=.ok (277,h) w:=by kernel_rfl
theorem Gh(w:World):((ReflectliteType.abiMethod fun t=>(fun a:Nat=>Value.int IntKind.u8 (a:Int)) <$> Rtype.kind t) #[.pointer (some ⟨4,177,none⟩)]).run Tryz.prog w=.ok (.int .u8 22) w:=by kernel_rfl
theorem Gi(w:World):((ReflectliteType.abiMethod fun t=>(fun a:Nat=>Value.int IntKind.u8 (a:Int)) <$> Rtype.kind t) #[.pointer (some ⟨4,175,none⟩)]).run Tryz.prog w=.ok (.int .u8 25) w:=by kernel_rfl
theorem uz(a:Addr)(w:World):(ReflectliteValue.parts (.agg #[.pointer (some ⟨4,177,none⟩),.pointer (some a),.int .u64 150])).run Tryz.prog w=.ok (some (177,a,150)) w:=by kernel_rfl
theorem DP(a p:Addr)(W:World)(ha:W.cell? a=some (.pointer (some p))):
  (ReflectliteValue.method (ReflectliteValue.valueError "reflectlite.Value.IsNil" 0) ReflectliteValue.isNil #[.agg #[.pointer (some ⟨4,177,none⟩),.pointer (some a),.int .u64 150]]).run Tryz.prog W=.ok (.bool false) W:=by
 change (bind (ReflectliteValue.parts (.agg #[.pointer (some ⟨4,177,none⟩),.pointer (some a),.int .u64 150])) _).run _ _=_
 rw[Sem.run_bind,uz]
 simp only[Result.andThen]
 simp[ReflectliteValue.isNil,loadVar,isAgg,underlying,Tryz.underlying177,ha,Result.andThen]
theorem Gj(h:Value)(w:World):(Go.method 464 277 (.agg #[h]) "Elem").run Tryz.prog w=.ok (289,.agg #[h]) w:=by kernel_rfl
theorem Gk(h:Value)(w:World):(Go.method 464 277 (.agg #[h]) "Implements").run Tryz.prog w=.ok (290,.agg #[h]) w:=by kernel_rfl
theorem J5(h:Value)(w:World):(Go.method 464 277 (.agg #[h]) "AssignableTo").run Tryz.prog w=.ok (287,.agg #[h]) w:=by kernel_rfl
theorem Ge(w:World):(ReflectliteType.method ReflectliteType.elem #[.agg #[.pointer (some ⟨4,177,none⟩)]]).run Tryz.prog w=.ok (.iface 277 (.agg #[.pointer (some ⟨4,175,none⟩)])) w:=by kernel_rfl
theorem Gg(w:World):(ReflectliteType.relation "Implements" ReflectliteType.implements_ #[.agg #[.pointer (some ⟨4,175,none⟩)],.iface 277 (.agg #[.pointer (some ⟨4,146,none⟩)])]).run Tryz.prog w=.ok (.bool true) w:=by kernel_rfl
theorem As(v:Value)(w:World):(ReflectliteType.typeOf #[.iface 175 v]).run Tryz.prog w=.ok (.iface 277 (.agg #[.pointer (some ⟨4,175,none⟩)])) w:=by kernel_rfl
theorem J4(w:World):(ReflectliteType.relation "AssignableTo" ReflectliteType.assignableTo #[.agg #[.pointer (some ⟨4,175,none⟩)],.iface 277 (.agg #[.pointer (some ⟨4,175,none⟩)])]).run Tryz.prog w=.ok (.bool true) w:=by kernel_rfl
theorem ye(c s:ByteArray)(w:World):(ReflectliteValue.unpack (.iface 175 (.agg #[.string c,.string s]))).run Tryz.prog w
  = .ok (.agg #[.pointer (some ⟨4,175,none⟩),.pointer (some ⟨w.heap.size,0,none⟩),.int .u64 153]) (w.alloc (.cells #[.string c,.string s] 175)):=by kernel_rfl
theorem Ar(w:World):(Rtype.elem? 177).run Tryz.prog w=.ok (some 175) w:=by kernel_rfl
theorem On(p:Addr)(w:World):(ReflectliteValue.mk 175 p ReflectliteValue.flagAddr).run Tryz.prog w=.ok (.agg #[.pointer (some ⟨4,175,none⟩),.pointer (some p),.int .u64 409]) w:=by kernel_rfl
theorem DO(a p:Addr)(W:World)(ha:W.cell? a=some (.pointer (some p))):
  (ReflectliteValue.method (ReflectliteValue.valueError "reflectlite.Value.Elem" 0) ReflectliteValue.elem #[.agg #[.pointer (some ⟨4,177,none⟩),.pointer (some a),.int .u64 150]]).run Tryz.prog W
   = .ok (.agg #[.pointer (some ⟨4,175,none⟩),.pointer (some p),.int .u64 409]) W:=by
 change (bind (ReflectliteValue.parts (.agg #[.pointer (some ⟨4,177,none⟩),.pointer (some a),.int .u64 150])) _).run _ _=_
 rw[Sem.run_bind,uz]
 simp only[Result.andThen]
 simp[ReflectliteValue.elem,loadVar,isAgg,underlying,Tryz.underlying177,ha,Result.andThen,Ar,On]
theorem DQ(a:Addr)(w:World):(ReflectliteValue.parts (.agg #[.pointer (some ⟨4,175,none⟩),.pointer (some a),.int .u64 409])).run Tryz.prog w=.ok (some (175,a,409)) w:=by kernel_rfl
theorem DR(a:Addr)(w:World):(ReflectliteValue.parts (.agg #[.pointer (some ⟨4,175,none⟩),.pointer (some a),.int .u64 153])).run Tryz.prog w=.ok (some (175,a,153)) w:=by kernel_rfl
theorem Aq(w:World):(Rtype.directlyAssignable 175 175).run Tryz.prog w=.ok true w:=by kernel_rfl
theorem yc:(Tryz.prog.info? 175).map (·.size)=some 2:=by kernel_rfl
theorem J7(tb to_ bb:Nat)(c s:ByteArray)(W:World)(hb0:W.cell? ⟨bb,0,none⟩=some (.string c))(hb1:W.cell? ⟨bb,1,none⟩=some (.string s))(ht:∀ j,j<2 -> (W.cell? ⟨tb,to_+j,none⟩).isSome=true /\ W.frozen? ⟨tb,to_+j,none⟩=false):
  (ReflectliteValue.set #[.agg #[.pointer (some ⟨4,175,none⟩),.pointer (some ⟨tb,to_,none⟩),.int .u64 409],.agg #[.pointer (some ⟨4,175,none⟩),.pointer (some ⟨bb,0,none⟩),.int .u64 153]]).run Tryz.prog W
   = .ok (.tuple #[]) (W.setCells tb to_ [.string c,.string s]):=by
 have hl:=run_loadVar_mid (P:=Tryz.prog) W bb 0 175 [.string c,.string s] _ (fun j v hv=>by
  match j with
  | 0=>simp at hv;subst hv;exact hb0
  | 1=>simp at hv;subst hv;exact hb1
  | j+2=>simp at hv) Tryz.underlying175 rfl yc
 have hs:=run_storeVar_mid (P:=Tryz.prog) W tb to_ 175 #[.string c,.string s] (fun j hj=>ht j hj) yc (by simp[Value.oneCell'])
 have hl':(loadVar 175 ⟨bb,0,none⟩).run Tryz.prog W=.ok (.agg #[.string c,.string s]) W:=hl
 change (bind (ReflectliteValue.parts (.agg #[.pointer (some ⟨4,175,none⟩),.pointer (some ⟨tb,to_,none⟩),.int .u64 409])) fun x=>bind (ReflectliteValue.parts (.agg #[.pointer (some ⟨4,175,none⟩),.pointer (some ⟨bb,0,none⟩),.int .u64 153])) _).run _ _=_
 rw[Sem.run_bind,DQ]
 simp only[Result.andThen]
 rw[Sem.run_bind,DR]
 simp only[Result.andThen]
 simp[ReflectliteValue.flagAddr,hl',Result.andThen,Aq,hs]
set_option maxHeartbeats 4000000 in
theorem MP(tb to_:Nat)(c s:ByteArray)(w:World)(hg:w.cell? ⟨0,0,none⟩=some (.iface 277 (.agg #[.pointer (some ⟨4,146,none⟩)])))(ht:∀ j,j<2 -> (w.cell? ⟨tb,to_+j,none⟩).isSome=true /\ w.frozen? ⟨tb,to_+j,none⟩=false):
  Calls Tryz.prog 100 #[.iface 175 (.agg #[.string c,.string s]),.iface 177 (.pointer (some ⟨tb,to_,none⟩))] w fun ev w'=>ev=.returned (.bool true) /\ ∃ w1,Below w.heap.size w w1 /\ w'=w1.setCells tb to_ [.string c,.string s]:=by
 have h6:=@run_callFunc_extern Tryz.prog 145 _ (fun args=>ReflectliteValue.unpack (args.getD 0 (.tuple #[]))) Tryz.func145 (by kernel_rfl) (by kernel_rfl) (by kernel_rfl) (by kernel_rfl)
 have h7:=@run_callFunc_extern Tryz.prog 146 _ (ReflectliteValue.methodAny (ReflectliteValue.valueError "reflectlite.Value.Type" 0) (fun t _ _ _=>ReflectliteType.toType t)) Tryz.func146 (by kernel_rfl) (by kernel_rfl) (by kernel_rfl) (by kernel_rfl)
 have h8:=@run_callFunc_extern Tryz.prog 147 _ (ReflectliteValue.method (ReflectliteValue.valueError "reflectlite.Value.IsNil" 0) ReflectliteValue.isNil) Tryz.func147 (by kernel_rfl) (by kernel_rfl) (by kernel_rfl) (by kernel_rfl)
 have h27:=@run_callFunc_extern Tryz.prog 277 _ (ReflectliteType.abiMethod fun t=>do pure (.int .u8 (<- Rtype.kind t))) Tryz.func277 (by kernel_rfl) (by kernel_rfl) (by kernel_rfl) (by kernel_rfl)
 have h37:=@run_callFunc_extern Tryz.prog 289 _ (ReflectliteType.method ReflectliteType.elem) Tryz.func289 (by kernel_rfl) (by kernel_rfl) (by kernel_rfl) (by kernel_rfl)
 have h38:=@run_callFunc_extern Tryz.prog 290 _ (ReflectliteType.relation "Implements" ReflectliteType.implements_) Tryz.func290 (by kernel_rfl) (by kernel_rfl) (by kernel_rfl) (by kernel_rfl)
 have h10:=@run_callFunc_extern Tryz.prog 204 _ ReflectliteType.typeOf Tryz.func204 (by kernel_rfl) (by kernel_rfl) (by kernel_rfl) (by kernel_rfl)
 have h35:=@run_callFunc_extern Tryz.prog 287 _ (ReflectliteType.relation "AssignableTo" ReflectliteType.assignableTo) Tryz.func287 (by kernel_rfl) (by kernel_rfl) (by kernel_rfl) (by kernel_rfl)
 have h11:=@run_callFunc_extern Tryz.prog 205 _ (ReflectliteValue.method (ReflectliteValue.valueError "reflectlite.Value.Elem" 0) ReflectliteValue.elem) Tryz.func205 (by kernel_rfl) (by kernel_rfl) (by kernel_rfl) (by kernel_rfl)
 have h12:=@run_callFunc_extern Tryz.prog 206 _ ReflectliteValue.set Tryz.func206 (by kernel_rfl) (by kernel_rfl) (by kernel_rfl) (by kernel_rfl)
 have tO:=As
 have mA:=J5
 have aS:=J4
 have vS:=ye c s
 have f6:=yd
 have f7:=Gm
 have mK:=Gl
 have mE:=Gj
 have mI:=Gk
 have kP:=Gh
 have kS:=Gi
 have eP:=Ge
 have iS:=Gg
 have htl:tb<w.heap.size:=gW (ht 0 (by decide)).1
 have hlt:0<w.heap.size:=gW (b:=0) (j:=0) (by rw[hg];rfl)
 obtain⟨W1,hW1⟩:∃ W1,W1=w.alloc (.cells #[.pointer (some ⟨tb,to_,none⟩)] 177):=⟨_,rfl⟩
 obtain⟨W2,hW2⟩:∃ W2,W2=W1.alloc (.cells #[.pointer (some ⟨4,177,none⟩),.pointer (some ⟨w.heap.size,0,none⟩),.int .u64 150] 231):=⟨_,rfl⟩
 obtain⟨W3,hW3⟩:∃ W3,W3=W2.alloc (.cells #[.pointer (some ⟨4,177,none⟩),.pointer (some ⟨w.heap.size,0,none⟩),.int .u64 150] 231):=⟨_,rfl⟩
 obtain⟨W4,hW4⟩:∃ W4,W4=W3.alloc (.cells #[.string c,.string s] 175):=⟨_,rfl⟩
 have z1:W1.heap.size=w.heap.size+1:=by rw[hW1];simp
 have z2:W2.heap.size=w.heap.size+2:=by rw[hW2];simp[z1]
 have z3:W3.heap.size=w.heap.size+3:=by rw[hW3];simp[z2]
 have c1:W1.cell? ⟨w.heap.size,0,none⟩=some (.pointer (some ⟨tb,to_,none⟩)):=by rw[hW1];exact cell_of_row _ _ 0 _ _ (0,0) (heap_alloc_new w _)
 have c2:W2.cell? ⟨w.heap.size,0,none⟩=some (.pointer (some ⟨tb,to_,none⟩)):=by rw[hW2,(al W1 _ 0 (by omega)).1];exact c1
 have c3:W3.cell? ⟨w.heap.size,0,none⟩=some (.pointer (some ⟨tb,to_,none⟩)):=by rw[hW3,(al W2 _ 0 (by omega)).1];exact c2
 have g2:W2.cell? ⟨0,0,none⟩=some (.iface 277 (.agg #[.pointer (some ⟨4,146,none⟩)])):=by
  rw[hW2,(al W1 _ 0 (by omega)).1,hW1,(al w _ 0 hlt).1];exact hg
 have t4:∀ j,j<2 -> (W4.cell? ⟨tb,to_+j,none⟩).isSome=true /\ W4.frozen? ⟨tb,to_+j,none⟩=false:=fun j hj=>by
  rw[hW4,(al W3 _ _ (by omega)).1,(al W3 _ _ (by omega)).2,hW3,(al W2 _ _ (by omega)).1,(al W2 _ _ (by omega)).2,hW2,(al W1 _ _ (by omega)).1,(al W1 _ _ (by omega)).2,hW1,(al w _ _ htl).1,(al w _ _ htl).2]
  exact ht j hj
 have b4:Below w.heap.size w W4:=by
  rw[hW4,hW3,hW2,hW1]
  exact(((((Below.refl _ _).alloc (Nat.le_refl _) _).alloc (by simp) _).alloc (by simp;omega) _).alloc (by simp;omega) _)
 have n8:=DP ⟨w.heap.size,0,none⟩ ⟨tb,to_,none⟩ W2 c2
 have el:=DO ⟨w.heap.size,0,none⟩ ⟨tb,to_,none⟩ W3 c3
 have st:=J7 tb to_ (w.heap.size+3) c s W4 (by rw[hW4,<- z3];exact cell_of_row _ _ 0 _ _ (0,0) (heap_alloc_new W3 _)) (by rw[hW4,<- z3];exact cell_of_row _ _ 1 _ _ (0,0) (heap_alloc_new W3 _)) t4
 subst hW4 hW3 hW2 hW1
 go_enter Tryz.func100,Tryz.ntmps100
 go_wp2
 refine wp_loop_rounds 1 ?_
 rw[rounds_succ]
 go_wp2
 go_ret
 exact⟨rfl,_,b4,rfl⟩
section
variable {h:d4}
theorem Jo(c s:d5){i:Nat}{cs:List AV}(hcs:h[i]?=some cs)(hl:cs.length=2):
  ae Tryz.prog 100 [.ifc 175 (.agg [.v (.string (af c)),.v (.string (af s))]),.ifc 177 (.box i 0)] h (.v (.bool true)) (h.set i [.v (.string (af c)),.v (.string (af s))]) [i]:=by
 refine qE (xs:=[.string (af c),.string (af s)]) (by kernel_rfl) hcs (by simp[hl]) (by simp[Value.oneCell']) rfl fun G w vs hW hS hvs=>?_
 obtain⟨x,y,rfl,hx,hy⟩:=Bp hvs
 obtain⟨x',rfl,hx'⟩:=hx.inv_ifc
 obtain⟨y',rfl,hy'⟩:=hy.inv_ifc
 obtain⟨b,rfl,hb⟩:=hy'.inv_box
 cases hx' with
 | agg _ us hul hus h1 =>
  match us,hul with
  | [u0,u1],_ =>
   have e0:=(hus 0 _ rfl).inv_v
   have e1:=(hus 1 _ rfl).inv_v
   simp at e0 e1
   subst e0 e1
   have hg:w.cell? ⟨0,0,none⟩=some (.iface 277 (.agg #[.pointer (some ⟨4,146,none⟩)])):=hW.cell0 hW.dom
   have hbl:i<G.boxv.length:=by rw[<- hS.1];exact(aab.1 hcs).1
   obtain⟨us,hus⟩:∃ us,G.boxv[i]?=some us:=⟨_,aaa hbl⟩
   obtain⟨q1,q2,q3⟩:=hS.2 i cs us hcs hus
   obtain⟨b1,b2,b3,b4⟩:=hW.box i b us hb.1 hus
   refine⟨b,_,hb.1,hb.2,.v _,?_⟩
   have:=MP b (G.base i+0) (af c) (af s) w hg (fun j hj=>by
    have hju:j<us.length:=by omega
    obtain⟨h3,h4⟩:=b4 j _ (aaa hju) hb.2
    rw[aad]
    exact⟨by rw[h3];rfl,h4⟩)
   rw[aad] at this
   exact this
theorem Jp(y:AV)(hy:y.idOf=none):ae Tryz.prog 100 [.v .nilIface,y] h (.v (.bool false)) h []:=by
 refine bW (by kernel_rfl) rfl fun G w vs hW hvs=>?_
 obtain⟨x,y,rfl,hx,hy⟩:=Bp hvs
 rw[hx.inv_v]
 refine(MQ _ w).mono fun e w' he=>?_
 obtain⟨rfl,rfl⟩:=he
 exact⟨_,rfl,.v _,Below.refl _ _⟩
end
end Ax
end Go.Proofs.YtlbgjlmokpkkeaaGreatDoor
