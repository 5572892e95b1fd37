import Derived.Test.YtlbgjlmokpkkeaaGreatDoorQAxMc
import Derived.SizedLaws
open List renaming getElem?_eq_some_iff -> aaa, getD_eq_getElem?_getD -> aab, getElem?_eq_getElem -> aac, getElem?_append_right -> aad, getElem?_append_left -> aae, mem_cons_self -> aaf, getElem?_set_self -> aag, take_of_length_le -> aah, eq_nil_of_length_eq_zero -> aai, mem_cons_of_mem -> aaj, set_eq_of_length_le -> aal, getElem?_map -> aan, length_eq_one_iff -> aao, mem_of_getElem? -> aap, set_append_right -> aaw, getElem?_eq_none -> aax, set_append_left -> aaz, mem_map -> aaC, all_eq_true -> aaG, map_toArray -> aaI, take_append -> aaJ, append_nil -> aaK, nodup_nil -> aaL, mapM_cons -> aaM, drop_zero -> aaN, take -> aaO, map_cons -> aaP, map_nil -> aaQ, range -> aaR
open Array renaming replicate -> aak, getD_eq_getD_getElem? -> aaq, toArray_toList -> aay, empty_append -> aaA, append_empty -> aaB
open Nat renaming add_sub_cancel_left -> aam, sub_zero -> aas, sub_self -> aat, lt_or_ge -> aau, le_refl -> aaD, zero_le -> aaE
open Classical renaming choose -> aar, choose_spec -> aav
open UInt8 renaming ofNat -> aaF
open Bool renaming and_eq_true -> aaH
set_option linter.all false
namespace Go.Proofs.YtlbgjlmokpkkeaaGreatDoor
namespace Ax
open Go.RowKit Go By
theorem ah{α:Sort _}{a:α}:a=a:=of_eq_true (eq_self a)
inductive XCode where
 | skip
 | ops (xs:List XOper)
 | draws (t:XTree)
 | seq (a b:XCode)
 | cond (x:Operand) (a b:XCode)
 | block (id:Nat) (a:XCode)
 | loop (a:XCode)
 | exit (id:Nat)
 | ret
 | range (x:Operand) (ps:List Nat) (a b:XCode)
 | cut (a:XCode)
 | mark (a:XCode)
 | nexts (d:Option Nat) (x:Operand) (xs:List XOper)
 | sortr (t d:Nat) (e:Option Nat) (g:FuncId)
 | sortf (t d:Nat) (x:XOp) (d2:Nat) (e:Option Nat) (g:FuncId)
def XCode.strip:XCode -> XCode
 | .seq a b=>.seq a.strip b.strip
 | .cond x a b=>.cond x a.strip b.strip
 | .block id a=>.block id a.strip
 | .loop a=>.loop a.strip
 | .range x ps a b=>.range x ps a.strip b.strip
 | .cut a=>a.strip
 | .mark a=>a.strip
 | x=>x
def XCode.okIn(rr:Option Nat):XCode -> Prop
 | .seq a b=>a.okIn rr /\ b.okIn rr
 | .cond _ a b=>a.okIn rr /\ b.okIn rr
 | .block _ a=>a.okIn rr
 | .loop a=>a.okIn rr
 | .cut a=>a.okIn rr
 | .mark a=>a.okIn rr
 | .range _ _ _ _=>rr=none
 | _=>True
theorem XCode.okIn_none:∀ x:XCode,x.okIn none
 | .skip |.ops _ |.draws _ |.exit _ |.ret |.nexts .. |.sortr .. |.sortf ..=>trivial
 | .range _ _ _ _=>rfl
 | .seq a b=>⟨okIn_none a,okIn_none b⟩
 | .cond _ a b=>⟨okIn_none a,okIn_none b⟩
 | .block _ a=>okIn_none a
 | .loop a=>okIn_none a
 | .cut a=>okIn_none a
 | .mark a=>okIn_none a
def LO(P:Program)(N:Nat)(ops:Array Oper):Option XCode :=
 match ops.toList with
 | o::r=>match o.op with
  | .next x false=>if o.guard.isNone=true /\ ay N o=true then match r.mapM (cm P N ops) with
   | some xs=>some (.nexts o.dst x xs)
   | none=>none
   else none
  | _=>none
 | []=>none
def uW(N t:Nat):Option Nat -> Bool
 | some e=>decide (e<N)&&decide (e≠t)
 | none=>true
def LP(P:Program)(N:Nat)(ops:Array Oper):Option XCode :=
 match ops.toList with
 | [p,q]=>match p.op,p.dst,q.op with
  | .move (.tmp t),some d,.call c=>match c.callee,c.args.toList with
   | .value (.func g),[.tmp d']=>if(PF P g&&decide (d'=d)&&decide (t≠d)&&decide (t<N)&&decide (d<N)&&p.guard.isNone&&q.guard.isNone&&uW N t q.dst)=true then some (.sortr t d q.dst g) else none
   | _,_=>none
  | _,_,_=>none
 | _=>none
def F1(P:Program)(N:Nat)(ops:Array Oper):Option XCode :=
 match ops.toList with
 | [p,y,q]=>match p.op,p.dst,Fj P y.op,y.dst,q.op with
  | .move (.tmp t),some d,some x,some d2,.call c=>match c.callee,c.args.toList with
   | .value (.func g),[.tmp d',.tmp d2']=>if(PG P g&&x.isVal&&ay N y&&decide (d'=d)&&decide (d2'=d2)&&decide (d≠d2)&&decide (t≠d)&&decide (t≠d2)&&decide (t<N)&&decide (d<N)&&decide (d2<N)&&p.guard.isNone&&y.guard.isNone&&q.guard.isNone&&uW N t q.dst)=true then some (.sortf t d x d2 q.dst g) else none
   | _,_=>none
  | _,_,_,_,_=>none
 | _=>none
def wY(P:Program)(N:Nat)(ops:Array Oper):Option XCode :=
 match LO P N ops with
 | some x=>some x
 | none=>match LP P N ops with
  | some x=>some x
  | none=>F1 P N ops
def bl(P:Program)(N:Nat):Code -> Option XCode
 | .skip=>some .skip
 | .region _ ops false=>match wY P N ops with
  | some x=>some x
  | none=>(ops.toList.mapM (cm P N ops)).map .ops
 | .region _ ops true=>if Region.noSelect ops=true /\ qV ops=true then(iV P N ops ops.size (aak ops.size false)).map .draws else none
 | .seq a b=>match bl P N a,bl P N b with
  | some x,some y=>some (.seq x y)
  | _,_=>none
 | .cond x a b=>if da N x=true then match bl P N a,bl P N b with
  | some y,some z=>some (.cond x y z)
  | _,_=>none
  else none
 | .block id a=>(bl P N a).map (.block id)
 | .loop a=>(bl P N a).map .loop
 | .exit id=>some (.exit id)
 | .scope a=>bl P N a
 | .label _=>some .skip
 | .ret=>some .ret
 | .rangeFunc g ps a c=>if da N g=true /\ nodupB ps.toList=true /\ ps.toList.all (fun t=>decide (t<N))=true then match bl P N a,bl P N c with
  | some x,some y=>some (.range g ps.toList x y)
  | _,_=>none
  else none
 | _=>none
inductive XExit where
 | normal
 | exit (id:Nat)
 | ret
def XExit.then(K':St -> Prop)(K:XExit -> St -> Prop):XExit -> St -> Prop
 | .normal,s=>K' s
 | e,s=>K e s
def XExit.inBlock(id:Nat)(K:XExit -> St -> Prop):XExit -> St -> Prop
 | .exit i,s=>if i=id then K .normal s else K (.exit i) s
 | e,s=>K e s
def vH(v:AV)(A B:Prop):Prop :=
 match v with
 | .v (.bool c)=>(c=true -> A) /\ (c=false -> B)
 | _=>False
def XExit.code:XExit -> Code
 | .normal=>.skip
 | .exit id=>.exit id
 | .ret=>.ret
def YJ(i n:Nat)(stop:Bool)(e:XExit)(h':List (List AV))(wr:List Nat)(e':XExit)(s:St):Prop:=e'=(if stop=true then e else .normal) /\ s.heap[i]?=some (bE true false) /\ stays n h' wr (s.turn i false stop)
def LG(P:Program)(m:Frm)(t d:Nat)(e:Option Nat)(g:FuncId)(s:St)(K:St -> Prop):Prop :=
 ∃(us us':List Value) (k:Nat) (nul:Option Bool) (room:Room),s.look t=.sl k (vE us) nul room /\ ((k=1 /\ ∃ c,room=.own c /\ c.isNew=true) \/ nul=some true) /\ Cd P g us us' /\ m.plain /\ (∀ i∈s.wr,m.h.length <= i) /\ K (s.sorted m.h t d e (.sl 1 (vE us') nul (.own (.new t))))
def I6(P:Program)(m:Frm)(t d:Nat)(x:XOp)(d2:Nat)(e:Option Nat)(g:FuncId)(s:St)(K:St -> Prop):Prop :=
 ∃(us us':List Value) (k:Nat) (nul:Option Bool) (room:Room),s.look t=.sl k (vE us) nul room /\ ((k=1 /\ ∃ c,room=.own c /\ c.isNew=true) \/ nul=some true) /\ (cl (s.put d .any) x).ok /\ Ft P g us us' (cl (s.put d .any) x).val s.heap /\ m.plain /\ (∀ i∈s.wr,m.h.length <= i) /\ K (s.sortedF m.h t d d2 e (.sl 1 (vE us') nul (.own (.new t))))
def eO(P:Program)(m:Frm):XCode -> St -> (XExit -> St -> Prop) -> Prop
 | .skip,s,K=>K .normal s
 | .ops xs,s,K=>gR P xs s [] fun s' _=>K .normal s'
 | .draws t,s,K=>bV P t s [] (K .normal)
 | .seq a b,s,K=>eO P m a s (XExit.then (fun s'=>eO P m b s' K) K)
 | .cond x a b,s,K=>vH (s.get x) (eO P m a s K) (eO P m b s K)
 | .block id a,s,K=>eO P m a s (XExit.inBlock id K)
 | .loop a,s,K=>∃(D:Type) (inv:D -> St) (μ:D -> Nat),(∃ d,Leq m.h.length s (inv d)) /\ ∀ d,eO P m a (inv d) (XExit.then (fun s'=>∃ d',μ d'<μ d /\ Leq m.h.length s' (inv d')) K)
 | .exit id,s,K=>K (.exit id) s
 | .ret,s,K=>K .ret s
 | .range x ps a b,s,K=>(∀ l,a.okIn (some l)) /\ (∀ l,b.okIn (some l)) /\ ∃(g:FuncId) (cap:List AV) (n:Nat) (xs:Nat -> List AV) (all:Bool) (R:List (List AV) -> Prop) (e:XExit) (H:Nat -> List (List AV)) (wr:List Nat) (h3:List (List AV)) (E:Nat -> List (List AV)),
   s.get x=.fn (.func g) [] cap /\ (∀ y∈cap,y.idOf=none) /\ RY P g cap n xs all R E /\ H 0=s.heap++[bE false false] /\ (∀ j,j <= n -> R (H j)) /\
   (∀ j,j<n -> (xs j).length=ps.length /\ (∀ y∈xs j,y.idOf=none) /\ (H j++E j)[s.heap.length]?=some (bE false false) /\
    eO P ⟨H j++E j,xs j⟩ a (s.round ps (xs j) (H j++E j)) (XExit.then (fun s1=>s1.heap[s.heap.length]?=some (bE false false) /\ eO P ⟨H j++E j,xs j⟩ b (s1.turn s.heap.length true false) (YJ s.heap.length (H j++E j).length (!all&&j+1==n) e (H (j+1)++E j) wr)) (fun _ _=>False))) /\
   H n=h3++[bE false !all] /\ h3.length=s.heap.length /\ aK s.heap.length h3 /\ (all=true -> K .normal ⟨s.env,gA (bD []) s.own,h3,wr++s.wr⟩) /\ (all=false -> e≠.normal /\ K e ⟨s.env,gA (bD []) s.own,h3,wr++s.wr⟩)
 | .cut a,s,K=>∃ s2,LeqF m.h.length s s2 /\ eO P m a s2 K
 | .mark a,s,K=>eO P m a s K
 | .nexts d x xs,s,K=>vI s d (s.get x) fun s'=>gR P xs s' [] fun s' _=>K .normal s'
 | .sortr t d e g,s,K=>LG P m t d e g s (K .normal)
 | .sortf t d x d2 e g,s,K=>I6 P m t d x d2 e g s (K .normal)
def post(C:Ctx)(N:Nat)(K:XExit -> St -> Prop):Exit -> Act -> World -> Prop
 | .normal,a,w=>∃ s G cls,Rel C N G cls s a w /\ K .normal s
 | .exit id,a,w=>∃ s G cls,Rel C N G cls s a w /\ K (.exit id) s
 | .ret,a,w=>∃ s G cls,Rel C N G cls s a w /\ K .ret s
 | _,_,_=>False
theorem least{p:Nat -> Prop}(h:∃ n,p n):∃ n,p n /\ ∀ k,p k -> n <= k:=by
 obtain⟨n,hn⟩:=h
 induction n using Nat.strongRecOn with
 | _ n ih =>
  by_cases hk:∃ k,k<n /\ p k
  ·obtain⟨k,h1,h2⟩:=hk;exact ih k h1 h2
  ·exact⟨n,hn,fun k h2=>Nat.le_of_not_lt fun h1=>hk ⟨k,h1,h2⟩⟩
section
variable {P:Program} {C:Ctx} {N m:Nat}
def Code.bare:Code -> Bool
 | .scope _=>false
 | _=>true
theorem cT{rr:Option Nat}:∀(c:Code),∃ d:Code,Code.bare d=true /\ bl P N c=bl P N d /\ ∀(K:XExit -> St -> Prop) (a:Act) (w:World),d.wpIn (Fr rr) 0 P (post C N K) a w -> c.wpIn (Fr rr) 0 P (post C N K) a w
 | .scope c=>by
  obtain⟨d,h1,h2,h3⟩:=cT (rr:=rr) c
  refine⟨d,h1,by rw[<- h2];rfl,fun K a w h=>?_⟩
  refine lX (wpIn_mono (h3 K a w h) fun e a' w' hh=>?_)
  cases e with
  | goto l=>exact hh
  | _=>exact hh
 | .skip=>⟨_,rfl,rfl,fun _ _ _ h=>h⟩
 | .region _ _ _=>⟨_,rfl,rfl,fun _ _ _ h=>h⟩
 | .seq _ _=>⟨_,rfl,rfl,fun _ _ _ h=>h⟩
 | .cond _ _ _=>⟨_,rfl,rfl,fun _ _ _ h=>h⟩
 | .block _ _=>⟨_,rfl,rfl,fun _ _ _ h=>h⟩
 | .loop _=>⟨_,rfl,rfl,fun _ _ _ h=>h⟩
 | .exit _=>⟨_,rfl,rfl,fun _ _ _ h=>h⟩
 | .label _=>⟨_,rfl,rfl,fun _ _ _ h=>h⟩
 | .ret=>⟨_,rfl,rfl,fun _ _ _ h=>h⟩
 | .goto _=>⟨_,rfl,rfl,fun _ _ _ h=>h⟩
 | .refuse _=>⟨_,rfl,rfl,fun _ _ _ h=>h⟩
 | .rangeFunc ..=>⟨_,rfl,rfl,fun _ _ _ h=>h⟩
theorem bH{c d:Code}{x:XCode}(h:bl P N (.seq c d)=some x):∃ y z,bl P N c=some y /\ bl P N d=some z /\ x=.seq y z:=by
 unfold bl at h
 split at h
 ·rename_i y z hy hz;injection h with h;exact⟨y,z,hy,hz,h.symm⟩
 ·cases h
theorem bn{y:Operand}{c d:Code}{x:XCode}(h:bl P N (.cond y c d)=some x):∃ p q,da N y=true /\ bl P N c=some p /\ bl P N d=some q /\ x=.cond y p q:=by
 unfold bl at h
 split at h
 ·rename_i hf
  split at h
  ·rename_i p q hp hq;injection h with h;exact⟨p,q,hf,hp,hq,h.symm⟩
  ·cases h
 ·cases h
theorem bd{id:Nat}{c:Code}{x:XCode}(h:bl P N (.block id c)=some x):∃ y,bl P N c=some y /\ x=.block id y:=by
 unfold bl at h
 cases hy:bl P N c with
 | none=>rw[hy] at h;cases h
 | some y=>rw[hy] at h;injection h with h;exact⟨y,rfl,h.symm⟩
theorem bo{c:Code}{x:XCode}(h:bl P N (.loop c)=some x):∃ y,bl P N c=some y /\ x=.loop y:=by
 unfold bl at h
 cases hy:bl P N c with
 | none=>rw[hy] at h;cases h
 | some y=>rw[hy] at h;injection h with h;exact⟨y,rfl,h.symm⟩
theorem be{g:Operand}{ps:Array Tmp}{c d:Code}{x:XCode}(h:bl P N (.rangeFunc g ps c d)=some x):∃ y z,da N g=true /\ nodupB ps.toList=true /\ (∀ t∈ps.toList,t<N) /\ bl P N c=some y /\ bl P N d=some z /\ x=.range g ps.toList y z:=by
 unfold bl at h
 split at h
 ·rename_i hf
  split at h
  ·rename_i p q hp hq;injection h with h;exact⟨p,q,hf.1,hf.2.1,fun t ht=>by simpa using aaG.1 hf.2.2 t ht,hp,hq,h.symm⟩
  ·cases h
 ·cases h
def Fu(P:Program)(N:Nat)(ops:Array Oper)(d:Option Nat)(y:Operand)(xs:List XOper):Prop :=
 ∃ o r,ops.toList=o::r /\ o.op=.next y false /\ o.guard=none /\ ay N o=true /\ o.dst=d /\ r.mapM (cm P N ops)=some xs
def Fv(P:Program)(N:Nat)(ops:Array Oper)(t d:Nat)(e:Option Nat)(g:FuncId):Prop :=
 ∃ p q ts,ops.toList=[p,q] /\ p.op=.move (.tmp t) /\ p.dst=some d /\ p.guard=none /\ q.op=.call { callee:=.value (.func g),args:=#[.tmp d],argTypes:=ts } /\ q.dst=e /\ q.guard=none /\ t<N /\ d<N /\ (∀ x,e=some x -> x<N) /\ t≠d /\ e≠some t
def Ce(P:Program)(N:Nat)(ops:Array Oper)(t d:Nat)(x:XOp)(d2:Nat)(e:Option Nat)(g:FuncId):Prop :=
 ∃ p y q ts,ops.toList=[p,y,q] /\ (p.op=.move (.tmp t) /\ p.dst=some d /\ p.guard=none) /\ (Fj P y.op=some x /\ x.isVal=true /\ ay N y=true /\ y.dst=some d2 /\ y.guard=none) /\ (q.op=.call { callee:=.value (.func g),args:=#[.tmp d,.tmp d2],argTypes:=ts } /\ q.dst=e /\ q.guard=none) /\ t<N /\ d<N /\ d2<N /\ (∀ x,e=some x -> x<N) /\ d≠d2 /\ t≠d /\ t≠d2 /\ e≠some t
theorem fV{α:Type}{o:Option α}(h:o.isNone=true):o=none:=by cases o with |none=>rfl |some _=>cases h
theorem wZ{ops:Array Oper}{x:XCode}(h:wY P N ops=some x):(∃ d y xs,Fu P N ops d y xs /\ x=.nexts d y xs) \/ (∃ t d e g,Fv P N ops t d e g /\ x=.sortr t d e g) \/ ∃ t d y d2 e g,Ce P N ops t d y d2 e g /\ x=.sortf t d y d2 e g:=by
 unfold wY at h
 split at h
 ·rename_i z hz
  injection h with h;subst h
  left
  unfold LO at hz
  split at hz
  ·rename_i o r hl
   split at hz
   ·rename_i y ho
    split at hz
    ·rename_i hg
     split at hz
     ·rename_i xs hxs
      injection hz with hz
      exact⟨_,_,_,⟨o,r,hl,ho,fV hg.1,hg.2,rfl,hxs⟩,hz.symm⟩
     ·cases hz
    ·cases hz
   ·cases hz
  ·cases hz
 ·right
  split at h
  ·rename_i z hz2
   injection h with h;subst h
   left
   have h:=hz2
   unfold LP at h
   split at h
   ·rename_i p q hl
    split at h
    ·rename_i t d c hp hd hq
     split at h
     ·rename_i g d' hcal hargs
      split at h
      ·rename_i hcond
       injection h with h
       simp only[aaH,decide_eq_true_eq] at hcond
       obtain⟨⟨⟨⟨⟨⟨⟨_,h2⟩,h3⟩,h4⟩,h5⟩,h6⟩,h7⟩,h8⟩:=hcond
       subst h2
       have e:q.op=.call { callee:=.value (.func g),args:=#[.tmp d'],argTypes:=c.argTypes }:=by
        rw[hq]
        obtain⟨cal,args,ts'⟩:=c
        congr 1
        simp only at hcal hargs
        subst hcal
        rw[<- aay (xs:=args),hargs]
       refine⟨t,d',q.dst,g,⟨p,q,c.argTypes,hl,hp,hd,fV h6,e,rfl,fV h7,h4,h5,fun x hx=>?_,h3,fun hx=>?_⟩,h.symm⟩
       ·rw[hx] at h8;simp[uW] at h8;exact h8.1
       ·rw[hx] at h8;simp[uW] at h8
      ·cases h
     ·cases h
    ·cases h
   ·cases h
  ·right
   unfold F1 at h
   split at h
   ·rename_i p y q hl
    split at h
    ·rename_i t d x2 d2 c hp hd hx hd2 hq
     split at h
     ·rename_i g d' d2' hcal hargs
      split at h
      ·rename_i hcond
       injection h with h
       simp only[aaH,decide_eq_true_eq] at hcond
       obtain⟨⟨⟨⟨⟨⟨⟨⟨⟨⟨⟨⟨⟨⟨_,q1⟩,q2⟩,q3⟩,q4⟩,q5⟩,q6⟩,q7⟩,q8⟩,q9⟩,q10⟩,q11⟩,q12⟩,q13⟩,q14⟩:=hcond
       subst q3 q4
       have e:q.op=.call { callee:=.value (.func g),args:=#[.tmp d',.tmp d2'],argTypes:=c.argTypes }:=by
        rw[hq]
        obtain⟨cal,args,ts'⟩:=c
        congr 1
        simp only at hcal hargs
        subst hcal
        rw[<- aay (xs:=args),hargs]
       refine⟨t,d',x2,d2',q.dst,g,⟨p,y,q,c.argTypes,hl,⟨hp,hd,fV q11⟩,⟨hx,q1,q2,hd2,fV q12⟩,⟨e,rfl,fV q13⟩,q8,q9,q10,fun z hz=>?_,q5,q6,q7,fun hz=>?_⟩,h.symm⟩
       ·rw[hz] at q14;simp[uW] at q14;exact q14.1
       ·rw[hz] at q14;simp[uW] at q14
      ·cases h
     ·cases h
    ·cases h
   ·cases h
theorem aU{id:Nat}{ops:Array Oper}{b:Bool}{x:XCode}(h:bl P N (.region id ops b)=some x):(b=false /\ ∃ xs,ops.toList.mapM (cm P N ops)=some xs /\ x=.ops xs) \/ (b=true /\ (Region.noSelect ops=true /\ qV ops=true) /\ ∃ t,iV P N ops ops.size (aak ops.size false)=some t /\ x=.draws t) \/
  (b=false /\ ∃ d y xs,Fu P N ops d y xs /\ x=.nexts d y xs) \/ (b=false /\ ∃ t d e g,Fv P N ops t d e g /\ x=.sortr t d e g) \/ (b=false /\ ∃ t d y d2 e g,Ce P N ops t d y d2 e g /\ x=.sortf t d y d2 e g):=by
 cases b with
 | false =>
  unfold bl at h
  split at h
  ·rename_i z hz
   injection h with h;subst h
   rcases wZ hz with h1 |h1 |h1
   ·exact .inr (.inr (.inl ⟨rfl,h1⟩))
   ·exact .inr (.inr (.inr (.inl ⟨rfl,h1⟩)))
   ·exact .inr (.inr (.inr (.inr ⟨rfl,h1⟩)))
  ·cases hx:ops.toList.mapM (cm P N ops) with
   | none=>rw[hx] at h;cases h
   | some xs=>rw[hx] at h;injection h with h;exact .inl ⟨rfl,xs,rfl,h.symm⟩
 | true =>
  unfold bl at h
  split at h
  ·rename_i hs
   cases hx:iV P N ops ops.size (aak ops.size false) with
   | none=>rw[hx] at h;cases h
   | some t=>rw[hx] at h;injection h with h;exact .inr (.inl ⟨rfl,hs,t,rfl,h.symm⟩)
  ·cases h
end
def xw(P:Program)(N:Nat)(x:XCode)(c:Code):Prop:=∀(rr:Option Nat) (C:Ctx) (m:Frm),C.G0.boxv.length=m.h.length -> C.G0.boxes.length=m.h.length -> (dB C.G0 m.h /\ (m.plain -> ∀ b,¬C.T b)) -> x.okIn rr -> ∀(s:St) (K:XExit -> St -> Prop),eO P m x s K -> ∀(G:Ghost) (cls:Nat -> Id) (a:Act) (w:World),Rel C N G cls s a w -> c.wpIn (Fr rr) 0 P (post C N K) a w
section
variable {P:Program} {N:Nat}
theorem yW{rec:Loop}{xas xbd:XCode}(hsA:xw P N xas rec.assign)(hsB:xw P N xbd rec.body)(hoA:∀ l,xas.okIn (some l))(hoB:∀ l,xbd.okIn (some l)){s:St}(hp:∀ t,find s.own t=none -> (s.look t).idOf=none)(hN:rec.tmps.size=N){ps:List Nat}(hps:rec.params=ps.toArray)(hnd:nodupB ps=true)(hlt:∀ p∈ps,p<N)
  {args:List AV} (hlen:args.length=ps.length) (hid:∀ y∈args,y.idOf=none) {i:Nat} {h h':List (List AV)} {wr:List Nat} {stop:Bool} {e:XExit} {c:Code} (hec:stop=true -> e≠.normal /\ c=e.code) (hi:h[i]?=some (bE false false))
  (hx:eO P ⟨h,args⟩ xas (s.round ps args h) (XExit.then (fun s1=>s1.heap[i]?=some (bE false false) /\ eO P ⟨h,args⟩ xbd (s1.turn i true false) (YJ i h.length stop e h' wr)) (fun _ _=>False))) :
  ph P i rec c (slotsOf N s) args h (.v (.bool !stop)) h' wr:=by
 intro G w vs cls b hy hW hS hvs hown hoh
 obtain⟨hb,hk,hs⟩:G.boxes[i]?=some b /\ G.kinds b=some (.loop rec c) /\ ∀ j x,(slotsOf N s)[j]?=some x -> Sees G x (rec.tmps.toList.getD j undef):=by
  cases hy with |yld _ _ _ _ _ hb hk hl hs=>exact⟨hb,hk,hs⟩
 have hq:w.heap[b]?=some (.loop { rec with state:=.ready,pending:=none }):=(hW.obj.kbox i b _ _ hb (dZ hS hi) hk).1
 have e1:G.boxv.length=h.length:=hS.1.symm
 have e2:G.boxes.length=h.length:=by rw[<- hW.len];exact e1
 have hR0:=Rel.roundStart (args:=args) (ps:=ps) (r:=rec) hp hN hs hW hS hvs hid hoh hnd hlen.symm hlt
 have hfold:(rec.params.zip vs.toArray).foldl (fun tmps (t,a)=>tmps.setIfInBounds t a) rec.tmps=(ps.zip vs).foldl (fun(tmps:Array Value) (p:Nat×Value)=>tmps.setIfInBounds p.1 p.2) rec.tmps:=by
  rw[hps];simp[List.zip_toArray]
 have hyr:=run_yield (P:=P) (args:=vs.toArray) hq (by show _=rec.params.size;rw[hps];simp[hvs.1,hlen])
 refine⟨rec.fn,_,rec.assign,rec.body,hyr,roundIn_of_wpIn trivial ?_⟩
 show rec.assign.wpIn (Fr (some b)) 0 P _ { tmps:=(rec.params.zip vs.toArray).foldl (fun tmps (t,a)=>tmps.setIfInBounds t a) rec.tmps,defers:=[] } w
 rw[hfold]
 refine wpIn_mono (hsA (some b) ⟨G,aQ G args vs h⟩ ⟨h,args⟩ e1 e2 ⟨hS,fun hp=>iN (m:=⟨h,args⟩) hp⟩ (hoA b) _ _ hx G cls _ w hR0) fun ex a1 w1 hh=>?_
 cases ex with
 | normal =>
  obtain⟨s1,G1,cls1,hR1,h1i,hxb⟩:=hh
  have hb1:G1.boxes[i]?=some b:=hR1.ext.box_at hb
  have hk1:G1.kinds b=some (.loop rec c):=(hR1.ext.kindsE hb).trans hk
  have hq1:w1.heap[b]?=some (.loop { rec with state:=.ready,pending:=none }):=(hR1.ok.obj.kbox i b _ _ hb1 (dZ hR1.heap h1i) hk1).1
  refine⟨_,run_beginRound hq1 rfl,?_⟩
  have hR2:=hR1.turn hb1 hk1 h1i true false
  refine wpIn_mono (hsB (some b) ⟨G,aQ G args vs h⟩ ⟨h,args⟩ e1 e2 ⟨hS,fun hp=>iN (m:=⟨h,args⟩) hp⟩ (hoB b) _ _ hxb _ _ _ _ hR2) fun ex a3 w3 hh=>?_
  have fin:∀(ex:XExit) (jump:Option Code),(ex=.normal -> jump=none) -> (ex≠.normal -> jump=some ex.code) -> ∀(s3:St) (G3:Ghost) (cls3:Nat -> Id),Rel ⟨G,aQ G args vs h⟩ N G3 cls3 s3 a3 w3 -> YJ i h.length stop e h' wr ex s3 ->
    ∃ v w',(Instr.endRound b jump).run P w3=.ok v w' /\ ∃ v' G' cls',Ending.returned v=.returned v' /\ After G (aQ G args vs h) (.v (.bool !stop)) h' wr v' G' cls' w':=by
   intro ex jump hj1 hj2 s3 G3 cls3 hR3 hr
   obtain⟨he,hbusy,hst⟩:=hr
   have hb3:G3.boxes[i]?=some b:=hR3.ext.box_at hb
   have hk3:G3.kinds b=some (.loop rec c):=(hR3.ext.kindsE hb).trans hk
   have hq3:w3.heap[b]?=some (.loop { rec with state:=.busy,pending:=none }):=(hR3.ok.obj.kbox i b _ _ hb3 (dZ hR3.heap hbusy) hk3).1
   have hR4:=hR3.turn hb3 hk3 hbusy false stop
   obtain⟨G4,hA⟩:=xA e1 e2 hR4 hst (.bool !stop)
   have hend:=run_endRound (P:=P) jump hq3
   cases stop with
   | true =>
    rw[if_pos rfl] at he
    obtain⟨hne,hce⟩:=hec rfl
    subst he
    obtain rfl:=hj2 hne
    subst hce
    exact⟨_,_,hend,_,_,_,rfl,hA⟩
   | false =>
    rw[if_neg (by simp)] at he
    obtain rfl:=hj1 he
    exact⟨_,_,hend,_,_,_,rfl,hA⟩
  cases ex with
  | normal=>obtain⟨s3,G3,cls3,hR3,hr⟩:=hh;exact fin .normal none (fun _=>rfl) (fun h=>absurd rfl h) s3 G3 cls3 hR3 hr
  | ret=>obtain⟨s3,G3,cls3,hR3,hr⟩:=hh;exact fin .ret (some .ret) (fun h=>by cases h) (fun _=>rfl) s3 G3 cls3 hR3 hr
  | exit id=>obtain⟨s3,G3,cls3,hR3,hr⟩:=hh;exact fin (.exit id) (some (.exit id)) (fun h=>by cases h) (fun _=>rfl) s3 G3 cls3 hR3 hr
  | _=>exact hh.elim
 | ret=>obtain⟨_,_,_,_,hr⟩:=hh;exact hr.elim
 | exit id=>obtain⟨_,_,_,_,hr⟩:=hh;exact hr.elim
 | _=>exact hh.elim
theorem yV{C:Ctx}{m:Frm}{g:Operand}{ps:Array Tmp}{xas xbd:XCode}{c d:Code}(hsA:xw P N xas c)(hsB:xw P N xbd d)(hf:da N g=true)(hnd:nodupB ps.toList=true)(hlt:∀ t∈ps.toList,t<N)(hv:C.G0.boxv.length=m.h.length)(hb:C.G0.boxes.length=m.h.length){s:St}{K:XExit -> St -> Prop}(h:eO P m (.range g ps.toList xas xbd) s K)
  {G:Ghost} {cls:Nat -> Id} {a:Act} {w:World} (hR:Rel C N G cls s a w):(Code.rangeFunc g ps c d).wpIn (Fr none) 0 P (post C N K) a w:=by
 obtain⟨hoA,hoB,gf,cap,n,xs,all,R,e,H,wr,h3,E,hg,hcap,hIter,hH0,hRH,hround,hHn,h3l,h3lt,hK1,hK2⟩:=h
 refine wpIn_rangeFunc fun fn _=>?_
 obtain⟨rec,hrec⟩:∃ rec:Loop,rec={ state:=.ready,pending:=none,fn:=fn,tmps:=a.tmps,params:=ps,assign:=c,body:=d,defers:=w.heap.size }:=⟨_,rfl⟩
 have hgy:=hR.get hf
 rw[hg] at hgy
 obtain⟨us,vs,hgv,hus,hvl,_,hvs⟩:=hgy.inv_fn
 obtain rfl:us=[]:=aai hus
 have hil:s.heap.length=G.boxes.length:=hR.heapLen
 have hR1:=hR.enterLoop rec e.code (by rw[hrec]) (by rw[hrec])
 have hE:=(hR.ok.enterLoop rec e.code (by rw[hrec]) (by rw[hrec])).2
 have hyl:Sees (G.enterLoop w.heap.size rec e.code) (.yld s.heap.length rec e.code (slotsOf N s)) (.func (.yield (w.heap.size+1)) #[] #[]):=by
  refine .yld _ _ _ _ _ ?_ ?_ (by rw[hrec];simp[slotsOf,hR.size]) fun j x hj=>?_
  ·show(G.boxes++[w.heap.size+1])[s.heap.length]?=_
   rw[hil];simp
  ·show(if w.heap.size+1=w.heap.size+1 then(some (Kind.loop rec e.code),0) else G.kr (w.heap.size+1)).1=_
   rw[if_pos rfl]
  ·have hjN:j<N:=by have:=(aaa.1 hj).1;simpa[slotsOf] using this
   rw[ql N s j hjN] at hj
   injection hj with hj;subst hj
   have:=(hR.env j hjN).1.unown.ext hE
   have e:rec.tmps.toList.getD j undef=a.tmps.getD j undef:=by
    rw[hrec,aab,aaq];simp
   rw[e];exact this
 have hsl:SeesL (G.enterLoop w.heap.size rec e.code) (.yld s.heap.length rec e.code (slotsOf N s)::cap) (.func (.yield (w.heap.size+1)) #[] #[]::vs):=SeesL.cons hyl ⟨hvl,fun j x hj=>(hvs j x hj).ext hE⟩
 have hids:∀ y∈(AV.yld s.heap.length rec e.code (slotsOf N s)::cap),y.idOf=none:=fun y hy=>by
  rcases List.mem_cons.1 hy with rfl |hy
  ·rfl
  ·exact hcap y hy
 have hstop:∀ j,(!all&&j+1==n)=true -> e≠.normal /\ e.code=e.code:=fun j hj=>by
  cases all with
  | true=>simp at hj
  | false=>exact⟨(hK2 rfl).1,rfl⟩
 have hC:ae P gf (bR 0 (.yld s.heap.length rec e.code (slotsOf N s)::cap)) (s.heap++[bE false false]) (.tup []) (H n) wr:=by
  rw[pS _ _ hids,<- hH0]
  refine hIter _ _ _ _ H wr hRH fun j hj=>?_
  obtain⟨r1,r2,r3,r4⟩:=hround j hj
  exact yW (rec:=rec) (by rw[hrec];exact hsA) (by rw[hrec];exact hsB) hoA hoB hR.plain (by rw[hrec];exact hR.size) (by rw[hrec]) hnd hlt r1 r2 (hstop j) r3 r4
 refine⟨w.heap.size+1,[gB w.heap.size],(w.alloc (.deferred (some []))).alloc (.loop rec),{ target:=.fn (.func gf) vs.toArray,args:=#[.func (.yield (w.heap.size+1)) #[] #[]] },(w.alloc (.deferred (some []))).alloc (.loop rec),gf,
  #[.func (.yield (w.heap.size+1)) #[] #[]]++vs.toArray,(w.alloc (.deferred (some []))).alloc (.loop rec),?_,?_,fun _ _=>trivial,?_,fun hh=>(by cases hh),?_⟩
 ·rw[hrec];exact run_enterLoop_outer _ _ _ _ _
 ·simp only[resolve,hgv]
  simp[go_sem]
 ·simp[invoke,go_sem,fY hC.1]
 ·have e0:#[.func (.yield (w.heap.size+1)) #[] #[]]++vs.toArray=(Value.func (.yield (w.heap.size+1)) #[] #[]::vs).toArray:=by simp
  rw[e0]
  refine(rv (mG hR1 hsl (fun i x hx=>.none _ (hids x (aap hx))) (by rw[kX _ hids];exact aaL) hC none (fun x hx=>by cases hx))).mono ?_
  rintro _ w3 ⟨v,rfl,G',cls',hR2,hS2⟩
  have hbx:(G.enterLoop w.heap.size rec e.code).boxes[s.heap.length]?=some (w.heap.size+1):=by
   show(G.boxes++[w.heap.size+1])[s.heap.length]?=_
   rw[hil];simp
  have hb':G'.boxes[s.heap.length]?=some (w.heap.size+1):=hS2.ext.box_at hbx
  have hk':G'.kinds (w.heap.size+1)=some (.loop rec e.code):=by
   rw[hS2.ext.kindsE hbx]
   show(if w.heap.size+1=w.heap.size+1 then(some (Kind.loop rec e.code),0) else G.kr (w.heap.size+1)).1=_
   rw[if_pos rfl]
  have hci:(H n)[s.heap.length]?=some (bE false !all):=by rw[hHn,<- h3l];simp
  have hkill:bD (.yld s.heap.length rec e.code (slotsOf N s)::cap)=bD []:=by
   funext y;unfold bD;rw[kX _ hids];rfl
  have htake:(H n).take s.heap.length=h3:=by rw[hHn,<- h3l];simp
  have hm1:C.G0.boxes.length <= s.heap.length:=by
   obtain⟨more,hmore⟩:=hR.ext.boxes
   rw[hil,hmore];simp
  have hend:∀ o:Obj,Rel C N (G'.trunc s.heap.length) cls' ⟨s.env,gA (bD []) s.own,h3,wr++s.wr⟩ { a with defers:=[gB w.heap.size]++a.defers } (w3.putObj (w.heap.size+1) o):=fun o=>by
   have:=Rel.leaveLoop hR2 hb' hk' hci (by omega) hm1 (fun t ht=>?_) (by show aK _ ((H n).take _);rw[htake];exact h3lt) o
   ·have eS:({ (({ s with heap:=s.heap++[bE false false] }:St).called (.yld s.heap.length rec e.code (slotsOf N s)::cap) none (.tup []) (H n) wr) with heap:=(H n).take s.heap.length }:St)=⟨s.env,gA (bD []) s.own,h3,wr++s.wr⟩:=by
     rw[htake]
     show St.mk s.env (gA (bD _) s.own) h3 (wr++s.wr)=_
     rw[hkill]
    have this':Rel C N (G'.trunc s.heap.length) cls' ({ (({ s with heap:=s.heap++[bE false false] }:St).called (.yld s.heap.length rec e.code (slotsOf N s)::cap) none (.tup []) (H n) wr) with heap:=(H n).take s.heap.length }:St) { a with defers:=[gB w.heap.size]++a.defers } (w3.putObj (w.heap.size+1) o):=this
    rw[eS] at this'
    exact this'
   ·have:=((hR.kill (bD (.yld s.heap.length rec e.code (slotsOf N s)::cap))).env t ht).1.lt
    rw[<- hil] at this
    exact this
  have hq:=(hR2.ok.obj.kbox _ _ _ _ hb' (dZ hR2.heap hci) hk').1
  cases all with
  | true =>
   have hq:w3.heap[w.heap.size+1]?=some (.loop { rec with state:=.ready,pending:=none }):=hq
   exact⟨none,_,run_endLoop hq (by simp),_,_,_,hend _,hK1 rfl⟩
  | false =>
   have hq:w3.heap[w.heap.size+1]?=some (.loop { rec with state:=.done,pending:=some e.code }):=hq
   obtain⟨hne,hKe⟩:=hK2 rfl
   refine⟨some e.code,_,run_endLoop hq (by simp),?_⟩
   cases e with
   | normal=>exact absurd rfl hne
   | ret=>exact wpIn_ret ⟨_,_,_,hend _,hKe⟩
   | exit id=>exact wpIn_exit ⟨_,_,_,hend _,hKe⟩
end
section
variable {P:Program} {N:Nat}
theorem Cb(hm:P.follows .mixedOrders=true):∀(x:XCode) (c:Code),bl P N c=some x.strip -> xw P N x c:=by
 intro x
 induction x with
 | cut y ih =>
  intro c hc rr C m hv hb hB hok s K h G cls a w hR
  obtain⟨s2,h1,h2⟩:=h
  obtain⟨G2,hR2⟩:=h1.rel hv hb hR
  exact ih c hc rr C m hv hb hB hok s2 K h2 G2 cls a w hR2
 | mark y ih=>intro c hc rr C m hv hb hB hok s K h G cls a w hR;exact ih c hc rr C m hv hb hB hok s K h G cls a w hR
 | skip =>
  intro c0 hc rr C m hv hb hB hok s K h G cls a w hR
  obtain⟨c,hbare,hcc,lift⟩:=cT (P:=P) (C:=C) (N:=N) (rr:=rr) c0
  rw[hcc] at hc
  apply lift
  cases c with
  | skip=>exact wpIn_skip ⟨s,G,cls,hR,h⟩
  | label l=>exact wpIn_label ⟨s,G,cls,hR,h⟩
  | scope c=>cases hbare
  | region i o b=>rcases aU hc with⟨_,xs,_,e⟩ |⟨_,_,t,_,e⟩ |⟨_,_,_,_,_,e⟩ |⟨_,_,_,_,_,_,e⟩ |⟨_,_,_,_,_,_,_,_,e⟩<;>cases e
  | seq c d=>obtain⟨_,_,_,_,e⟩:=bH hc;cases e
  | cond y c d=>obtain⟨_,_,_,_,_,e⟩:=bn hc;cases e
  | block i c=>obtain⟨_,_,e⟩:=bd hc;cases e
  | loop c=>obtain⟨_,_,e⟩:=bo hc;cases e
  | rangeFunc g ps c d=>obtain⟨_,_,_,_,_,_,_,e⟩:=be hc;cases e
  | _=>cases hc
 | exit id =>
  intro c0 hc rr C m hv hb hB hok s K h G cls a w hR
  obtain⟨c,hbare,hcc,lift⟩:=cT (P:=P) (C:=C) (N:=N) (rr:=rr) c0
  rw[hcc] at hc
  apply lift
  cases c with
  | exit i =>
   have e:i=id:=by have:=hc;unfold bl XCode.strip at this;injection this with this;injection this
   subst e
   exact wpIn_exit ⟨s,G,cls,hR,h⟩
  | scope c=>cases hbare
  | region i o b=>rcases aU hc with⟨_,xs,_,e⟩ |⟨_,_,t,_,e⟩ |⟨_,_,_,_,_,e⟩ |⟨_,_,_,_,_,_,e⟩ |⟨_,_,_,_,_,_,_,_,e⟩<;>cases e
  | seq c d=>obtain⟨_,_,_,_,e⟩:=bH hc;cases e
  | cond y c d=>obtain⟨_,_,_,_,_,e⟩:=bn hc;cases e
  | block i c=>obtain⟨_,_,e⟩:=bd hc;cases e
  | loop c=>obtain⟨_,_,e⟩:=bo hc;cases e
  | rangeFunc g ps c d=>obtain⟨_,_,_,_,_,_,_,e⟩:=be hc;cases e
  | _=>cases hc
 | ret =>
  intro c0 hc rr C m hv hb hB hok s K h G cls a w hR
  obtain⟨c,hbare,hcc,lift⟩:=cT (P:=P) (C:=C) (N:=N) (rr:=rr) c0
  rw[hcc] at hc
  apply lift
  cases c with
  | ret=>exact wpIn_ret ⟨s,G,cls,hR,h⟩
  | scope c=>cases hbare
  | region i o b=>rcases aU hc with⟨_,xs,_,e⟩ |⟨_,_,t,_,e⟩ |⟨_,_,_,_,_,e⟩ |⟨_,_,_,_,_,_,e⟩ |⟨_,_,_,_,_,_,_,_,e⟩<;>cases e
  | seq c d=>obtain⟨_,_,_,_,e⟩:=bH hc;cases e
  | cond y c d=>obtain⟨_,_,_,_,_,e⟩:=bn hc;cases e
  | block i c=>obtain⟨_,_,e⟩:=bd hc;cases e
  | loop c=>obtain⟨_,_,e⟩:=bo hc;cases e
  | rangeFunc g ps c d=>obtain⟨_,_,_,_,_,_,_,e⟩:=be hc;cases e
  | _=>cases hc
 | ops xs =>
  intro c0 hc rr C m hv hb hB hok s K h G cls a w hR
  obtain⟨c,hbare,hcc,lift⟩:=cT (P:=P) (C:=C) (N:=N) (rr:=rr) c0
  rw[hcc] at hc
  apply lift
  cases c with
  | region i ops b =>
   rcases aU hc with⟨rfl,ys,hx,e⟩ |⟨_,_,t,_,e⟩ |⟨_,_,_,_,_,e⟩ |⟨_,_,_,_,_,_,e⟩ |⟨_,_,_,_,_,_,_,_,e⟩
   ·injection e with e;subst e
    obtain⟨s',ld',h1,h2⟩:=pd xs s [] _ h
    exact wpIn_region_list (sJ (C:=C) ops h2 _ hx G cls a w hR fun a' w' G' cls' hR' _=>⟨s',G',cls',hR',h1⟩)
   ·cases e
   ·cases e
   ·cases e
   ·cases e
  | scope c=>cases hbare
  | seq c d=>obtain⟨_,_,_,_,e⟩:=bH hc;cases e
  | cond y c d=>obtain⟨_,_,_,_,_,e⟩:=bn hc;cases e
  | block i c=>obtain⟨_,_,e⟩:=bd hc;cases e
  | loop c=>obtain⟨_,_,e⟩:=bo hc;cases e
  | rangeFunc g ps c d=>obtain⟨_,_,_,_,_,_,_,e⟩:=be hc;cases e
  | _=>cases hc
 | draws t =>
  intro c0 hc rr C m hv hb hB hok s K h G cls a w hR
  obtain⟨c,hbare,hcc,lift⟩:=cT (P:=P) (C:=C) (N:=N) (rr:=rr) c0
  rw[hcc] at hc
  apply lift
  cases c with
  | region i ops b =>
   rcases aU hc with⟨_,xs,_,e⟩ |⟨rfl,⟨hs,hnd⟩,u,hx,e⟩ |⟨_,_,_,_,_,e⟩ |⟨_,_,_,_,_,_,e⟩ |⟨_,_,_,_,_,_,_,_,e⟩
   ·cases e
   ·injection e with e;subst e
    exact xV hm hs hnd (fun _ _ h=>h) hx hR h fun s' G' cls' a' w' h1 h2=>⟨s',G',cls',h2,h1⟩
   ·cases e
   ·cases e
   ·cases e
  | scope c=>cases hbare
  | seq c d=>obtain⟨_,_,_,_,e⟩:=bH hc;cases e
  | cond y c d=>obtain⟨_,_,_,_,_,e⟩:=bn hc;cases e
  | block i c=>obtain⟨_,_,e⟩:=bd hc;cases e
  | loop c=>obtain⟨_,_,e⟩:=bo hc;cases e
  | rangeFunc g ps c d=>obtain⟨_,_,_,_,_,_,_,e⟩:=be hc;cases e
  | _=>cases hc
 | seq y z ihy ihz =>
  intro c0 hc rr C m hv hb hB hok s K h G cls a w hR
  obtain⟨c,hbare,hcc,lift⟩:=cT (P:=P) (C:=C) (N:=N) (rr:=rr) c0
  rw[hcc] at hc
  apply lift
  cases c with
  | seq c d =>
   obtain⟨y',z',hy,hz,e⟩:=bH hc
   injection e with e1 e2
   subst e1 e2
   refine wpIn_seq (wpIn_mono (ihy c hy rr C m hv hb hB hok.1 s _ h G cls a w hR) fun e a' w' hh=>?_)
   cases e with
   | normal=>obtain⟨s',G',cls',h1,h2⟩:=hh;exact ihz d hz rr C m hv hb hB hok.2 s' K h2 G' cls' a' w' h1
   | _=>exact hh
  | region i o b=>rcases aU hc with⟨_,xs,_,e⟩ |⟨_,_,t,_,e⟩ |⟨_,_,_,_,_,e⟩ |⟨_,_,_,_,_,_,e⟩ |⟨_,_,_,_,_,_,_,_,e⟩<;>cases e
  | scope c=>cases hbare
  | cond y c d=>obtain⟨_,_,_,_,_,e⟩:=bn hc;cases e
  | block i c=>obtain⟨_,_,e⟩:=bd hc;cases e
  | loop c=>obtain⟨_,_,e⟩:=bo hc;cases e
  | rangeFunc g ps c d=>obtain⟨_,_,_,_,_,_,_,e⟩:=be hc;cases e
  | _=>cases hc
 | cond v p q ihp ihq =>
  intro c0 hc rr C m hv hb hB hok s K h G cls a w hR
  obtain⟨c,hbare,hcc,lift⟩:=cT (P:=P) (C:=C) (N:=N) (rr:=rr) c0
  rw[hcc] at hc
  apply lift
  cases c with
  | cond y c d =>
   obtain⟨p',q',hf,hp,hq,e⟩:=bn hc
   injection e with e1 e2 e3
   subst e1 e2 e3
   unfold eO vH at h
   split at h
   ·rename_i t ht
    have h1:=hR.get hf
    rw[ht] at h1
    exact wpIn_cond_split h1.inv_v (fun e=>ihp c hp rr C m hv hb hB hok.1 s K (h.1 e) G cls a w hR) (fun e=>ihq d hq rr C m hv hb hB hok.2 s K (h.2 e) G cls a w hR)
   ·exact h.elim
  | region i o b=>rcases aU hc with⟨_,xs,_,e⟩ |⟨_,_,t,_,e⟩ |⟨_,_,_,_,_,e⟩ |⟨_,_,_,_,_,_,e⟩ |⟨_,_,_,_,_,_,_,_,e⟩<;>cases e
  | scope c=>cases hbare
  | seq c d=>obtain⟨_,_,_,_,e⟩:=bH hc;cases e
  | block i c=>obtain⟨_,_,e⟩:=bd hc;cases e
  | loop c=>obtain⟨_,_,e⟩:=bo hc;cases e
  | rangeFunc g ps c d=>obtain⟨_,_,_,_,_,_,_,e⟩:=be hc;cases e
  | _=>cases hc
 | block id y ih =>
  intro c0 hc rr C m hv hb hB hok s K h G cls a w hR
  obtain⟨c,hbare,hcc,lift⟩:=cT (P:=P) (C:=C) (N:=N) (rr:=rr) c0
  rw[hcc] at hc
  apply lift
  cases c with
  | block i c =>
   obtain⟨y',hy,e⟩:=bd hc
   injection e with e1 e2
   subst e1 e2
   refine wpIn_block (wpIn_mono (ih c hy rr C m hv hb hB hok s _ h G cls a w hR) fun e a' w' hh=>?_)
   cases e with
   | exit i =>
    obtain⟨s',G',cls',h1,h2⟩:=hh
    replace h2:if i=id then K .normal s' else K (.exit i) s':=h2
    show if i=id then _ else _
    split
    ·rename_i e;rw[if_pos e] at h2;exact⟨s',G',cls',h1,h2⟩
    ·rename_i e;rw[if_neg e] at h2;exact⟨s',G',cls',h1,h2⟩
   | _=>exact hh
  | region i o b=>rcases aU hc with⟨_,xs,_,e⟩ |⟨_,_,t,_,e⟩ |⟨_,_,_,_,_,e⟩ |⟨_,_,_,_,_,_,e⟩ |⟨_,_,_,_,_,_,_,_,e⟩<;>cases e
  | scope c=>cases hbare
  | seq c d=>obtain⟨_,_,_,_,e⟩:=bH hc;cases e
  | cond y c d=>obtain⟨_,_,_,_,_,e⟩:=bn hc;cases e
  | loop c=>obtain⟨_,_,e⟩:=bo hc;cases e
  | rangeFunc g ps c d=>obtain⟨_,_,_,_,_,_,_,e⟩:=be hc;cases e
  | _=>cases hc
 | loop y ih =>
  intro c0 hc rr C m hv hb hB hok s K h G cls a w hR
  obtain⟨c,hbare,hcc,lift⟩:=cT (P:=P) (C:=C) (N:=N) (rr:=rr) c0
  rw[hcc] at hc
  apply lift
  cases c with
  | loop c =>
   obtain⟨y',hy,e⟩:=bo hc
   injection e with e1
   subst e1
   obtain⟨D,inv,μ,⟨d0,h0⟩,hround⟩:=h
   classical
   obtain⟨G0,hR0⟩:=h0.rel hv hb hR
   let I:Act -> World -> Prop:=fun a w=>∃ d G cls,Rel C N G cls (inv d) a w
   let ok:Act -> World -> Nat -> Prop:=fun a w n=>∃ d G cls,μ d=n /\ Rel C N G cls (inv d) a w
   let rank:Act -> World -> Nat:=fun a w=>if h:∃ n,ok a w n then aar (least h) else 0
   have hrank:∀ a w,I a w -> ok a w (rank a w):=fun a w hI=>by
    have hex:∃ n,ok a w n:=by obtain⟨d,G,cls,hR⟩:=hI;exact⟨μ d,d,G,cls,rfl,hR⟩
    show ok a w (if h:∃ n,ok a w n then aar (least h) else 0)
    rw[dif_pos hex];exact(aav (least hex)).1
   have hmin:∀ a w n,ok a w n -> rank a w <= n:=fun a w n hn=>by
    show(if h:∃ n,ok a w n then aar (least h) else 0) <= n
    rw[dif_pos ⟨n,hn⟩];exact(aav (least ⟨n,hn⟩)).2 n hn
   refine wpIn_loop I rank ⟨d0,G0,cls,hR0⟩ fun a w hI=>?_
   obtain⟨d,G,cls,hd,hR⟩:=hrank a w hI
   refine wpIn_mono (ih c hy rr C m hv hb hB hok (inv d) _ (hround d) G cls a w hR) fun e a' w' hh=>?_
   cases e with
   | normal =>
    obtain⟨s',G',cls',h1,d',h2,h3⟩:=hh
    obtain⟨G2,h4⟩:=h3.rel hv hb h1
    refine⟨⟨d',G2,cls',h4⟩,?_⟩
    have:=hmin a' w' (μ d') ⟨d',G2,cls',rfl,h4⟩
    omega
   | _=>exact hh
  | region i o b=>rcases aU hc with⟨_,xs,_,e⟩ |⟨_,_,t,_,e⟩ |⟨_,_,_,_,_,e⟩ |⟨_,_,_,_,_,_,e⟩ |⟨_,_,_,_,_,_,_,_,e⟩<;>cases e
  | scope c=>cases hbare
  | seq c d=>obtain⟨_,_,_,_,e⟩:=bH hc;cases e
  | cond y c d=>obtain⟨_,_,_,_,_,e⟩:=bn hc;cases e
  | block i c=>obtain⟨_,_,e⟩:=bd hc;cases e
  | rangeFunc g ps c d=>obtain⟨_,_,_,_,_,_,_,e⟩:=be hc;cases e
  | _=>cases hc
 | range v qs xas xbd iha ihb =>
  intro c0 hc rr C m hv hb hB hok s K h G cls a w hR
  obtain⟨c,hbare,hcc,lift⟩:=cT (P:=P) (C:=C) (N:=N) (rr:=rr) c0
  rw[hcc] at hc
  apply lift
  cases c with
  | rangeFunc g ps c d =>
   obtain⟨y,z,hf,hnd,hlt,hy,hz,e⟩:=be hc
   injection e with e1 e2 e3 e4
   subst e1 e2 e3 e4
   obtain rfl:rr=none:=hok
   exact yV (iha c hy) (ihb d hz) hf hnd hlt hv hb h hR
  | region i o b=>rcases aU hc with⟨_,xs,_,e⟩ |⟨_,_,t,_,e⟩ |⟨_,_,_,_,_,e⟩ |⟨_,_,_,_,_,_,e⟩ |⟨_,_,_,_,_,_,_,_,e⟩<;>cases e
  | scope c=>cases hbare
  | seq c d=>obtain⟨_,_,_,_,e⟩:=bH hc;cases e
  | cond y c d=>obtain⟨_,_,_,_,_,e⟩:=bn hc;cases e
  | block i c=>obtain⟨_,_,e⟩:=bd hc;cases e
  | loop c=>obtain⟨_,_,e⟩:=bo hc;cases e
  | _=>cases hc
 | nexts d x xs =>
  intro c0 hc rr C m hv hb hB hok s K h G cls a w hR
  obtain⟨c,hbare,hcc,lift⟩:=cT (P:=P) (C:=C) (N:=N) (rr:=rr) c0
  rw[hcc] at hc
  apply lift
  cases c with
  | region i ops b =>
   rcases aU hc with⟨_,xs,_,e⟩ |⟨_,_,t,_,e⟩ |⟨rfl,d,y,ys,hN,e⟩ |⟨rfl,t,d,f,g,hN,e⟩ |⟨_,_,_,_,_,_,_,_,e⟩
   ·cases e
   ·cases e
   ·injection e with e1 e2 e3
    subst e1 e2 e3
    obtain⟨o,r,hl,ho,hg,hf,rfl,hr⟩:=hN
    refine wpIn_region_list ?_
    rw[hl]
    unfold wpListIn
    rw[if_pos (by simp[Region.wanted,hg])]
    refine Oper.wpIn_mono (fun a' w' hh=>?_) (ir (fun c e=>by rw[ho] at e;cases e) (F5 (Q:=post C N K) o _ ho (fun s'=>gR P xs s' [] fun s' _=>K .normal s') h hf hR))
    obtain⟨s1,G1,cls1,hx,hR1⟩:=hh
    obtain⟨s',ld',h1,h2⟩:=pd xs s1 [] _ hx
    exact sJ (C:=C) ops h2 _ hr G1 cls1 a' w' hR1 fun a2 w2 G' cls' hR' _=>⟨s',G',cls',hR',h1⟩
   ·cases e
   ·cases e
  | scope c=>cases hbare
  | seq c d=>obtain⟨_,_,_,_,e⟩:=bH hc;cases e
  | cond y c d=>obtain⟨_,_,_,_,_,e⟩:=bn hc;cases e
  | block i c=>obtain⟨_,_,e⟩:=bd hc;cases e
  | loop c=>obtain⟨_,_,e⟩:=bo hc;cases e
  | rangeFunc g ps c d=>obtain⟨_,_,_,_,_,_,_,e⟩:=be hc;cases e
  | _=>cases hc
 | sortr t d e g =>
  intro c0 hc rr C m hv hb hB hok s K h G cls a w hR
  obtain⟨c,hbare,hcc,lift⟩:=cT (P:=P) (C:=C) (N:=N) (rr:=rr) c0
  rw[hcc] at hc
  apply lift
  cases c with
  | region i ops b =>
   rcases aU hc with⟨_,xs,_,e0⟩ |⟨_,_,t,_,e0⟩ |⟨rfl,d,y,ys,hN,e0⟩ |⟨rfl,t2,d2,f2,g2,hN,e0⟩ |⟨_,_,_,_,_,_,_,_,e0⟩
   ·cases e0
   ·cases e0
   ·cases e0
   ·injection e0 with e1 e2 e3 e4
    subst e1 e2 e3 e4
    obtain⟨p,q,ts,hl,hp,hpd,hpg,hq,hqd,hqg,ht,hd,he,htd,hte⟩:=hN
    obtain⟨us,us',k,nul,room,hlook,hroom,hI,hpl,hwr,hK⟩:=h
    obtain⟨ad,cap,hval,hcalls⟩:=hR.sorted hv hb hB.1 hB.2 hpl hwr ht hd he htd hte hlook hroom hI
    refine wpIn_region_list ?_
    rw[hl]
    unfold wpListIn
    rw[if_pos (by simp[Region.wanted,hpg])]
    refine ir (fun c e=>by rw[hp] at e;cases e) ?_
    have hr1:(execOp a.eval p).run P w=.ok (.value (.slice ad us.length cap)) w:=by
     have e1:a.eval (.tmp t)=.slice ad us.length cap:=hval
     unfold execOp;rw[hp];simp only[e1];rfl
    unfold Oper.wp
    rw[hr1]
    show wpListIn (Fr rr) 0 P ops (post C N K) [q] (a.put p.dst (.slice ad us.length cap)) w
    rw[hpd]
    unfold wpListIn
    rw[if_pos (by simp[Region.wanted,hqg])]
    refine ir (fun c e=>by rw[hq] at e;cases e) ?_
    have ev:(a.put (some d) (.slice ad us.length cap)).eval (.tmp d)=.slice ad us.length cap:=(lq (by rw[hR.size];exact hd) _).trans (if_pos rfl)
    have hrun:(execOp (a.put (some d) (.slice ad us.length cap)).eval q).run P w=.ok (.enter g #[.slice ad us.length cap]) w:=by
     simp only[execOp,hq,resolve,Deferred.ofValue,Sem.run_bind,Sem.run_pure,Result.andThen_ok,invoke,aaA,aaB,aaI,aaP,aaQ,ev]
     exact fY hI.1 _ w
    unfold Oper.wp
    rw[hrun]
    refine hcalls.mono fun r w' hh=>?_
    obtain⟨rfl,hR2⟩:=hh
    obtain⟨G',cls',hR3⟩:=hR2 (.slice ad us.length cap) (.tuple #[])
    show wpListIn (Fr rr) 0 P ops (post C N K) [] _ w'
    rw[hqd]
    exact⟨_,G',cls',hR3,hK⟩
   ·cases e0
  | scope c=>cases hbare
  | seq c d=>obtain⟨_,_,_,_,e⟩:=bH hc;cases e
  | cond y c d=>obtain⟨_,_,_,_,_,e⟩:=bn hc;cases e
  | block i c=>obtain⟨_,_,e⟩:=bd hc;cases e
  | loop c=>obtain⟨_,_,e⟩:=bo hc;cases e
  | rangeFunc g ps c d=>obtain⟨_,_,_,_,_,_,_,e⟩:=be hc;cases e
  | _=>cases hc
 | sortf t d x d2 e g =>
  intro c0 hc rr C m hv hb hB hok s K h G cls a w hR
  obtain⟨c,hbare,hcc,lift⟩:=cT (P:=P) (C:=C) (N:=N) (rr:=rr) c0
  rw[hcc] at hc
  apply lift
  cases c with
  | region i ops b =>
   rcases aU hc with⟨_,xs,_,e0⟩ |⟨_,_,t,_,e0⟩ |⟨_,_,_,_,_,e0⟩ |⟨_,_,_,_,_,_,e0⟩ |⟨rfl,t2,d2,x2,f2,e2,g2,hN,e0⟩
   ·cases e0
   ·cases e0
   ·cases e0
   ·cases e0
   ·injection e0 with e1 e2 e3 e4 e5 e6
    subst e1 e2 e3 e4 e5 e6
    obtain⟨p,y,q,ts,hl,⟨hp,hpd,hpg⟩,⟨hy,hyv,hyf,hyd,hyg⟩,⟨hq,hqd,hqg⟩,ht,hd,hd2,he,hdd,htd,htd2,hte⟩:=hN
    obtain⟨us,us',k,nul,room,hlook,hroom,hok2,hI,hpl,hwr,hK⟩:=h
    obtain⟨sv,hsv⟩:∃ sv,sv=a.tmps.getD t undef:=⟨_,rfl⟩
    have hR1:=hR.put hd (.any sv) rfl
    obtain⟨fv,hsee,_,_,hrunY⟩:=lR hR1 y x hy hyv hyf hok2
    obtain⟨ad,cap,hval,hcalls⟩:=hR.sortedA (A:=fun v=>#[v,fv]) hv hb hB.1 hB.2 hpl hwr ht hlook hroom hI.2.1 hI.2.2.1 fun ad cap hc hx=>hI.2.2.2 G w fv ad cap hR.ok hR.heap hsee hc hx
    have hsv2:sv=.slice ad us.length cap:=hsv.trans hval
    refine wpIn_region_list ?_
    rw[hl]
    unfold wpListIn
    rw[if_pos (by simp[Region.wanted,hpg])]
    refine ir (fun c e=>by rw[hp] at e;cases e) ?_
    have hr1:(execOp a.eval p).run P w=.ok (.value sv) w:=by
     have e1:a.eval (.tmp t)=sv:=hsv.symm
     unfold execOp;rw[hp];simp only[e1];rfl
    unfold Oper.wp
    rw[hr1]
    show wpListIn (Fr rr) 0 P ops (post C N K) [y,q] (a.put p.dst sv) w
    rw[hpd]
    unfold wpListIn
    rw[if_pos (by simp[Region.wanted,hyg])]
    refine ir (fun c e=>by rw[e] at hy;cases hy<;>cases hyv) ?_
    unfold Oper.wp
    rw[hrunY G w (Ext.refl G) hR.ok (fun _ _=>rfl)]
    show wpListIn (Fr rr) 0 P ops (post C N K) [q] ((a.put (some d) sv).put y.dst fv) w
    rw[hyd]
    unfold wpListIn
    rw[if_pos (by simp[Region.wanted,hqg])]
    refine ir (fun c e=>by rw[hq] at e;cases e) ?_
    have ev1:((a.put (some d) sv).put (some d2) fv).eval (.tmp d)=.slice ad us.length cap:=by
     refine Eq.trans (ou (a.put (some d) sv) (e:=none) fv fv hdd (by simp)) ?_
     exact((lq (by rw[hR.size];exact hd) _).trans (if_pos rfl)).trans hsv2
    have ev2:((a.put (some d) sv).put (some d2) fv).eval (.tmp d2)=fv:=(lq (by rw[hR1.size];exact hd2) _).trans (if_pos rfl)
    have hrun:(execOp ((a.put (some d) sv).put (some d2) fv).eval q).run P w=.ok (.enter g #[.slice ad us.length cap,fv]) w:=by
     simp only[execOp,hq,resolve,Deferred.ofValue,Sem.run_bind,Sem.run_pure,Result.andThen_ok,invoke,aaA,aaB,aaI,aaP,aaQ,ev1,ev2]
     exact fY hI.1 _ w
    unfold Oper.wp
    rw[hrun]
    refine hcalls.mono fun r w' hh=>?_
    obtain⟨rfl,hR2⟩:=hh
    obtain⟨G',cls',hR3⟩:=hR2 _ (((a.put (some d) sv).put (some d2) fv).put e (.tuple #[])) (fun G1 cls1 hR=>((hR.put hd (.any sv) rfl).put hd2 (.any fv) rfl).puts he (o:=false) (.any (.tuple #[])) trivial (fun _=>rfl)) ((ou (a.put (some d) sv) fv (.tuple #[]) htd2 hte).trans (ou a (e:=none) sv sv htd (by simp)))
    show wpListIn (Fr rr) 0 P ops (post C N K) [] _ w'
    rw[hqd]
    exact⟨_,G',cls',hR3,hK⟩
  | scope c=>cases hbare
  | seq c d=>obtain⟨_,_,_,_,e⟩:=bH hc;cases e
  | cond y c d=>obtain⟨_,_,_,_,_,e⟩:=bn hc;cases e
  | block i c=>obtain⟨_,_,e⟩:=bd hc;cases e
  | loop c=>obtain⟨_,_,e⟩:=bo hc;cases e
  | rangeFunc g ps c d=>obtain⟨_,_,_,_,_,_,_,e⟩:=be hc;cases e
  | _=>cases hc
theorem Ff{rr:Option Nat}{C:Ctx}{m:Frm}(hm:P.follows .mixedOrders=true)(hv:C.G0.boxv.length=m.h.length)(hb:C.G0.boxes.length=m.h.length)(hB:dB C.G0 m.h /\ (m.plain -> ∀ b,¬C.T b))(x:XCode)(hok:x.okIn rr)(c:Code)(hc:bl P N c=some x.strip)(s:St)(K:XExit -> St -> Prop)(h:eO P m x s K)(G:Ghost)(cls:Nat -> Id)(a:Act)(w:World)(hR:Rel C N G cls s a w):c.wpIn (Fr rr) 0 P (post C N K) a w :=
 Cb hm x c hc rr C m hv hb hB hok s K h G cls a w hR
end
def XCode.cuts:List Bool -> XCode -> XCode
 | true::r,.seq a b=>.mark (.seq a (.cut (XCode.cuts r b)))
 | false::r,.seq a b=>.seq a (XCode.cuts r b)
 | _,c=>c
def XCode.inside(f:XCode -> XCode):List Nat -> XCode -> XCode
 | [],c=>f c
 | 0::r,.seq a b=>.seq (XCode.inside f r a) b
 | _::r,.seq a b=>.seq a (XCode.inside f r b)
 | 0::r,.cond x a b=>.cond x (XCode.inside f r a) b
 | _::r,.cond x a b=>.cond x a (XCode.inside f r b)
 | _::r,.block id a=>.block id (XCode.inside f r a)
 | _::r,.loop a=>.loop (XCode.inside f r a)
 | 0::r,.range x ps a b=>.range x ps (XCode.inside f r a) b
 | _::r,.range x ps a b=>.range x ps a (XCode.inside f r b)
 | _::r,.cut a=>.cut (XCode.inside f r a)
 | _::r,.mark a=>.mark (XCode.inside f r a)
 | _,c=>c
def DF(P:Program)(N:Nat):ResultVar -> Option XOp
 | .tmp t=>if t<N then some (.move (.tmp t)) else none
 | .cell t ty=>if t<N then dK P ty (.tmp t) else none
def wP(tmps:Array Value):ResultVar -> Sem Value
 | .tmp t=>pure (tmps.getD t undef)
 | .cell t ty=>do loadVar ty (<- asAddr (tmps.getD t undef))
structure XFun where
 n:Nat
 code:XCode
 res:List XOp
def aj(P:Program)(f:FuncId):Option XFun :=
 match P.funcs[f]? with
 | some fn=>match fn.body with
  | some c=>if(fn.name=="runtime.NumGoroutine")=false then
    match bl P fn.ntmps c,fn.results.toList.mapM (DF P fn.ntmps) with
    | some x,some rs=>some ⟨fn.ntmps,x,rs⟩
    | _,_=>none
   else none
  | none=>none
 | none=>none
def rh(s:St):List XOp -> Prop
 | []=>True
 | x::r=>(cl s x).ok /\ rh s r
def pM(rs:List XOp)(s:St):AV :=
 match rs with
 | [x]=>(cl s x).val
 | l=>.tup (l.map fun x=>(cl s x).val.unown)
def lk(m:Nat):AV -> AV
 | .sl k es nul (.own c)=>match c with
  | .cell i _=>if i<m then .sl k es nul .no else .sl k es nul (.own .res)
  | _=>.sl k es nul (.own .res)
 | a=>a
def CB(rs:List XOp)(n:Nat)(r:AV)(h':List (List AV))(wr:List Nat)(s:St):Prop :=
 rh s rs /\ n <= h'.length /\ h'.length <= s.heap.length /\ LeqV .res (lk h'.length (pM rs s)) r /\ r.lt h'.length /\ iI 0 (s.heap.take h'.length) h' /\ aK h'.length h' /\ ∀ i∈s.wr,i<n -> i∈wr
def OI(rs:List XOp)(n:Nat)(r:AV)(h':List (List AV))(wr:List Nat):XExit -> St -> Prop
 | .exit _,_=>False
 | _,s=>CB rs n r h' wr s
def cY(own:Bool):Nat -> List AV -> List (Nat×AV)
 | _,[]=>[]
 | i,a::r=>bif a.idOf.isSome==own then(i,a)::cY own (i+1) r else cY own (i+1) r
def enter(args:List AV)(h:List (List AV)):St:=⟨cY false 0 args,cY true 0 args,h,[]⟩
theorem kQ(own:Bool):∀(l:List AV) (i t:Nat) (a:AV),find (cY own i l) t=some a -> i <= t /\ l[t-i]?=some a /\ a.idOf.isSome=own
 | [],i,t,a,h=>by simp[cY,find] at h
 | x::l,i,t,a,h=>by
  unfold cY at h
  have rec_:find (cY own (i+1) l) t=some a -> i <= t /\ (x::l)[t-i]?=some a /\ a.idOf.isSome=own:=fun h=>by
   obtain⟨h1,h2,h3⟩:=kQ own l (i+1) t a h
   refine⟨by omega,?_,h3⟩
   rw[show t-i=(t-(i+1))+1 by omega]
   simpa using h2
  cases hx:(x.idOf.isSome==own) with
  | true =>
   rw[hx] at h
   simp only[cond_true,find] at h
   split at h
   ·rename_i e
    injection h with h;subst h e
    exact⟨aaD _,by simp,by simpa using hx⟩
   ·exact rec_ h
  | false=>rw[hx] at h;exact rec_ h
theorem hZ(own:Bool):∀(l:List AV) (i t:Nat) (a:AV),i <= t -> l[t-i]?=some a -> a.idOf.isSome=own -> find (cY own i l) t=some a
 | [],i,t,a,_,h,_=>by simp at h
 | x::l,i,t,a,hi,h,ho=>by
  unfold cY
  by_cases e:t=i
  ·subst e
   simp at h;subst h
   simp[ho,find]
  ·have h2:l[t-(i+1)]?=some a:=by
    rw[show t-i=(t-(i+1))+1 by omega] at h
    simpa using h
   have:=hZ own l (i+1) t a (by omega) h2 ho
   cases hx:(x.idOf.isSome==own) with
   | true=>simp only[cond_true,find];rw[if_neg (by omega)];exact this
   | false=>exact this
theorem sq(args:List AV)(h:List (List AV))(t:Nat):(enter args h).look t=(match args[t]? with |some a=>a |none=>.any):=by
 unfold St.look enter
 dsimp only
 cases hT:find (cY true 0 args) t with
 | some a =>
  obtain⟨_,h2,_⟩:=kQ true args 0 t a hT
  rw[aas] at h2
  rw[h2]
 | none =>
  dsimp only
  cases hF:find (cY false 0 args) t with
  | some a =>
   obtain⟨_,h2,_⟩:=kQ false args 0 t a hF
   rw[aas] at h2
   rw[h2]
  | none =>
   dsimp only
   cases ha:args[t]? with
   | none=>rfl
   | some a =>
    exfalso
    cases ho:a.idOf.isSome with
    | true=>rw[hZ true args 0 t a (aaE _) (by simpa using ha) ho] at hT;cases hT
    | false=>rw[hZ false args 0 t a (aaE _) (by simpa using ha) ho] at hF;cases hF
section
variable {P:Program} {C:Ctx} {N:Nat} {G:Ghost} {cls:Nat -> Id} {s:St} {a:Act} {w:World}
theorem O8(h:Rel C N G cls s a w){x:Operand}(hx:da N x=true){op:XOp}(ho:op=.load1 x \/ ∃ n,op=.loadN n x)(hok:(cl s op).ok):∃ p,a.eval x=.pointer (some p):=by
 have h1:=h.get hx
 have key:(∃ i o,s.get x=.box i o) \/ ∃ cs,s.get x=.ro cs:=by
  rcases ho with rfl |⟨n,rfl⟩
  ·replace hok:(fG s.heap (s.get x)).ok:=hok
   unfold fG at hok
   split at hok
   ·rename_i e;exact .inl ⟨_,_,e⟩
   ·rename_i e;exact .inr ⟨_,e⟩
   ·exact hok.elim
  ·replace hok:(fe s.heap n (s.get x)).ok:=hok
   unfold fe at hok
   split at hok
   ·rename_i e;exact .inl ⟨_,_,e⟩
   ·rename_i e;exact .inr ⟨_,e⟩
   ·exact hok.elim
 rcases key with⟨i,o,e⟩ |⟨cs,e⟩
 ·rw[e] at h1;obtain⟨b,hb,_⟩:=h1.inv_box;exact⟨_,hb⟩
 ·rw[e] at h1;obtain⟨b,o,u,hb,_⟩:=h1.inv_ro;exact⟨_,hb⟩
theorem Aa{ty:TypeId}{x:Operand}{op:XOp}(h:dK P ty x=some op):(op=.load1 x \/ ∃ n,op=.loadN n x) /\ op.isVal=true:=by
 unfold dK at h
 split at h
 ·cases hs:dn P ty with
  | none=>rw[hs] at h;cases h
  | some n=>rw[hs] at h;injection h with h;subst h;exact⟨.inr ⟨n,rfl⟩,rfl⟩
 ·cases hs:dn P ty with
  | none=>rw[hs] at h;cases h
  | some n=>rw[hs] at h;injection h with h;subst h;exact⟨.inr ⟨n,rfl⟩,rfl⟩
 ·injection h with h;subst h;exact⟨.inl rfl,rfl⟩
 ·cases h
theorem EB(h:Rel C N G cls s a w){r:ResultVar}{op:XOp}(hc:DF P N r=some op)(hok:(cl s op).ok):
  ∃ v,(wP a.tmps r).run P w=.ok v w /\ Sees G (cl s op).val v /\ OwnAt G (Own C cls) (cl s op).val v:=by
 cases r with
 | tmp t =>
  replace hc:(if t<N then some (XOp.move (.tmp t)) else none)=some op:=hc
  split at hc
  ·rename_i ht
   injection hc with hc;subst hc
   exact⟨_,rfl,h.env t ht⟩
  ·cases hc
 | cell t ty =>
  replace hc:(if t<N then dK P ty (.tmp t) else none)=some op:=hc
  split at hc
  ·rename_i ht
   obtain⟨h1,h2⟩:=Aa hc
   have hfx:da N (.tmp t)=true:=by simpa[da] using ht
   obtain⟨v,h3,h4,_,h6⟩:=lR (P:=P) h { (default:Oper) with dst:=none,op:=.load ty (.tmp t) } op hc h2 (by simp[ay,Op.operands,hfx]) hok
   obtain⟨p,hp⟩:=O8 h hfx h1 hok
   have h7:=h6 G w (Ext.refl G) h.ok fun _ _=>rfl
   have hp':a.tmps.getD t undef=.pointer (some p):=hp
   refine⟨v,?_,h3,h4⟩
   simp only[execOp,Instr.loadAt,Instr.sureAddr,hp,Sem.run_bind,Sem.run_pure,Result.andThen_ok] at h7
   unfold wP
   simp only[hp',asAddr,Sem.run_bind,Sem.run_pure,Result.andThen_ok]
   cases hl:(loadVar ty p).run P w with
   | ok v' w'=>rw[hl] at h7;simpa using h7
   | halt x w'=>rw[hl] at h7;simp at h7
  ·cases hc
theorem sP(h:Rel C N G cls s a w):∀(rs:List ResultVar) (ops:List XOp),rs.mapM (DF P N)=some ops -> rh s ops ->
  ∃ vs:List Value,(rs.mapM (wP a.tmps)).run P w=.ok vs w /\ vs.length=ops.length /\ ∀(j:Nat) (op:XOp),ops[j]?=some op -> Sees G (cl s op).val (vs.getD j undef) /\ OwnAt G (Own C cls) (cl s op).val (vs.getD j undef)
 | [],ops,hc,_=>by
  simp at hc;subst hc
  exact⟨[],by simp,rfl,fun j op hj=>by simp at hj⟩
 | r::rs,ops,hc,hok=>by
  simp only[aaM,Option.bind_eq_bind,Option.pure_def] at hc
  cases hr:DF P N r with
  | none=>rw[hr] at hc;cases hc
  | some op =>
   cases hrs:rs.mapM (DF P N) with
   | none=>rw[hr,hrs] at hc;cases hc
   | some ops' =>
    rw[hr,hrs] at hc
    simp at hc;subst hc
    obtain⟨v,h1,h2,h3⟩:=EB h hr hok.1
    obtain⟨vs,h4,h5,h6⟩:=sP h rs ops' hrs hok.2
    refine⟨v::vs,?_,by simp[h5],fun j o hj=>?_⟩
    ·simp only[aaM,Sem.run_bind,h1,Result.andThen_ok,h4,Sem.run_pure]
    ·cases j with
     | zero=>simp at hj;subst hj;exact⟨h2,h3⟩
     | succ j=>simpa using h6 j o (by simpa using hj)
theorem ud(h:Rel C N G cls s a w)(fn:Func)(rs:List XOp)(hc:fn.results.toList.mapM (DF P N)=some rs)(hok:rh s rs):∃ v,(results fn a.tmps).run P w=.ok v w /\ Sees G (pM rs s) v /\ OwnAt G (Own C cls) (pM rs s) v:=by
 obtain⟨vs,h1,h2,h3⟩:=sP (P:=P) h fn.results.toList rs hc hok
 have hrun:(results fn a.tmps).run P w=.ok (if h:vs.toArray.size=1 then vs.toArray[0] else .tuple vs.toArray) w:=by
  show (do let vs <- fn.results.mapM (wP a.tmps)
           pure (if h:vs.size=1 then vs[0] else .tuple vs):Sem Value).run P w=_
  rw[Array.mapM_eq_mapM_toList]
  simp only[Sem.run_bind,Sem.run_map,h1,Result.andThen_ok,Sem.run_pure]
 refine⟨_,hrun,?_⟩
 by_cases hl:vs.length=1
 ·obtain⟨v,rfl⟩:∃ v,vs=[v]:=aao.1 hl
  obtain⟨op,rfl⟩:∃ op,rs=[op]:=aao.1 (by rw[<- h2];rfl)
  exact h3 0 op rfl
 ·have hx:pM rs s=.tup (rs.map fun x=>(cl s x).val.unown):=by
   unfold pM
   split
   ·simp at h2;exact absurd h2 hl
   ·rfl
  rw[hx]
  refine⟨?_,.none _ rfl⟩
  rw[dif_neg (by simpa using hl)]
  refine .tup _ _ (by simpa using h2) fun j c hj=>?_
  rw[aan] at hj
  cases ho:rs[j]? with
  | none=>rw[ho] at hj;cases hj
  | some op=>rw[ho] at hj;injection hj with hj;subst hj;exact(h3 j op ho).1.unown
end
theorem iv(m:Nat)(x:AV):(lk m x=x /\ x.idOf=none) \/ (lk m x=x.unown /\ x.idOf≠none) \/ ∃ c,x.idOf=some c /\ lk m x=x.relabel .res /\ ∀ i j,c=.cell i j -> m <= i:=by
 cases x with
 | sl k es nul room =>
  cases room with
  | own c =>
   cases c with
   | cell i j =>
    unfold lk
    by_cases hi:i<m
    ·right;left;simp[hi,AV.unown,AV.idOf]
    ·right;right
     refine⟨_,rfl,by simp[hi,AV.relabel],fun i' j' e=>?_⟩
     injection e with e;omega
   | _=>right;right;exact⟨_,rfl,rfl,fun i j e=>by cases e⟩
  | _=>exact .inl ⟨rfl,rfl⟩
 | _=>exact .inl ⟨rfl,rfl⟩
theorem cf{P:Program}{f:FuncId}{X:XFun}(y:XCode)(hf:aj P f=some X)(hy:y.strip=X.code)(hm:P.follows .mixedOrders=true){args:List AV}{h:List (List AV)}{r:AV}{h':List (List AV)}{wr:List Nat}(ha:args.length <= X.n)
  (hx:aK h.length h -> cb h.length args -> eO P ⟨h,args⟩ y (enter args h) (OI X.res h.length r h' wr)):ae P f args h r h' wr:=by
 unfold aj at hf
 split at hf
 ·rename_i fn hfn
  split at hf
  ·rename_i c hb
   split at hf
   ·rename_i hname
    split at hf
    ·rename_i x rs hc hr
     injection hf with hf;subst hf
     refine⟨⟨fn,hfn,hname,by rw[hb];rfl⟩,fun G w vs cls hW hS hvs hown hoh=>?_⟩
     have hlen:h.length=G.boxes.length:=by rw[hS.1,hW.len]
     have hx:=hx (nR fun i e he=>dx fun j c hj=>by
      have hi:i<G.boxv.length:=by rw[<- hS.1];exact(aaa.1 he).1
      rw[hlen]
      exact((hS.2 i e _ he (aac hi)).2.2 j c hj).lt) (dx fun j c hj=>by rw[hlen];exact(hvs.2 j c hj).lt)
     let C:Ctx:=⟨G,aQ G args vs h⟩
     have hl:vs.length=args.length:=hvs.1
     have hR:Rel C fn.ntmps G cls (enter args h) { tmps:=vs.toArray++aak (fn.ntmps-vs.toArray.size) undef,defers:=[] } w:=by
      refine⟨hW,hS,fun i cs us h1 h2 j c hj=>?_,fun t ht=>?_,fun t ht=>?_,?_,Marks.none _ _,Ext.refl G,fun _ _ _=>rfl,fun _ _ hb _=>hb⟩
      ·obtain⟨h3,h4⟩:=hoh i cs us h1 h2 j c hj
       exact⟨h3.imp2 fun b y B hB _ _ hcl=>⟨hcl,.inr (.inr ⟨i,cs,us,j,c,h1,h2,hj,hB⟩)⟩,h4⟩
      ·rw[sq]
       cases hat:args[t]? with
       | none=>exact⟨.any _,trivial⟩
       | some x =>
        have hlt:t<vs.length:=by rw[hl];exact(aaa.1 hat).1
        have e:(vs.toArray++aak (fn.ntmps-vs.toArray.size) undef).getD t undef=vs.getD t undef:=by
         rw[aaq,Array.getElem?_append_left (by simpa using hlt),aab]
         simp
        show Sees G x _ /\ OwnAt G _ x _
        rw[e]
        exact⟨hvs.2 t x hat,(hown t x hat).1.imp2 fun b y B hB _ _ hcl=>⟨hcl,.inr (.inl ⟨t,x,hat,hB⟩)⟩⟩
      ·rw[sq]
       cases hat:args[t]? with
       | none=>rfl
       | some x =>
        show x.idOf=none
        cases hi:x.idOf with
        | none=>rfl
        | some y =>
         have:=hZ true args 0 t x (aaE _) (by simpa using hat) (by rw[hi];rfl)
         rw[show(enter args h).own=cY true 0 args from rfl,this] at ht
         cases ht
      ·have:args.length <= fn.ntmps:=ha
       simp;omega
     refine(callsIn_wide (n:=0)).1 (callsIn_of_wp_marks (F:=Fr none) hfn hb trivial (wpIn_mono (Ff (rr:=none) (C:=C) hm hS.1.symm (by show G.boxes.length=_;rw[<- hW.len];exact hS.1.symm) ⟨hS,fun hp=>iN (m:=⟨h,args⟩) hp⟩ y y.okIn_none c (by rw[hy];exact hc) _ _ hx G cls _ w hR) fun e a' w' hh=>?_))
     have fin0:∀ s G' cls' a' w',Rel C fn.ntmps G' cls' s a' w' -> CB rs h.length r h' wr s -> ∃ v,(results fn a'.tmps).run P w'=.ok v w' /\ ∃ v' G'' cls'',Ending.returned v=.returned v' /\ After G (aQ G args vs h) r h' wr v' G'' cls'' w':=by
      intro s G' cls' a' w' hR' hL
      obtain⟨l1,l2,l3,l4,l5,l6,l7,l8⟩:=hL
      obtain⟨v,hv,hs,ho⟩:=ud (P:=P) hR' fn rs hr l1
      refine⟨v,hv,v,?_⟩
      have hq:Leq h.length { s with env:=[],own:=[] } ⟨[],[],h',wr⟩:=⟨l2,l3,l6,l7,trivial,trivial,l8⟩
      have hR0:Rel C fn.ntmps G' cls' { s with env:=[],own:=[] } a' w' :=
       ⟨hR'.ok,hR'.heap,hR'.ownh,fun t ht=>⟨.any _,trivial⟩,fun t ht=>rfl,hR'.size,hR'.defers,hR'.ext,hR'.boxes,hR'.bufs⟩
      have hR2:Rel C fn.ntmps (G'.trunc h'.length) cls' ⟨[],[],h',wr⟩ a' w':=by
       obtain⟨G2,hG2,hR2⟩:=hq.rel' hS.1.symm (by show G.boxes.length=_;rw[<- hW.len];exact hS.1.symm) hR0
       rw[hG2] at hR2
       exact hR2
      have hs2:Sees (G'.trunc h'.length) r v:=by
       have:Sees G' (lk h'.length (pM rs s)) v:=by
        rcases iv h'.length (pM rs s) with⟨e,_⟩ |⟨e,_⟩ |⟨c,_,e,_⟩<;>rw[e]
        ·exact hs
        ·exact hs.unown
        ·exact hs.relabel _
       exact(l4.sees this).trunc l5
      obtain⟨cls2,k1,k2⟩:∃ cls2:Nat -> Id,OwnAt G' (fun b c=>cls2 b=c /\ (G.bufs b=none \/ aQ G args vs h b)) (lk h'.length (pM rs s)) v /\ ∀ b i j,i<h'.length -> cls' b=.cell i j -> cls2 b=cls' b:=by
       rcases iv h'.length (pM rs s) with⟨e,e2⟩ |⟨e,_⟩ |⟨c,e1,e,e2⟩<;>rw[e]
       ·exact⟨cls',.none _ e2,fun _ _ _ _ _=>rfl⟩
       ·exact⟨cls',.none _ (AV.idOf_unown _),fun _ _ _ _ _=>rfl⟩
       ·classical
        refine⟨fun b=>if cls' b=c then .res else cls' b,ho.relabel _ fun b y B _ hy _ hcl=>?_,fun b i j hi hb=>?_⟩
        ·rw[e1] at hy;injection hy with hy;subst hy
         exact⟨by show(if _ then _ else _)=_;rw[if_pos hcl.1],hcl.2⟩
        ·show(if _ then _ else _)=_
         rw[if_neg]
         intro hh
         have:=e2 i j (hh.symm.trans hb)
         omega
      refine⟨G'.trunc h'.length,cls2,rfl,hR2.ext,hR2.ok,hR2.heap,fun i cs us h1 h2 j c hj=>?_,hs2,?_,fun c hc=>?_,fun i hi hn=>hR2.boxes i hi hn,fun b B hb hT=>hR2.bufs b B hb hT⟩
      ·obtain⟨h3,h4⟩:=hR2.ownh i cs us h1 h2 j c hj
       have hi:i<h'.length:=(aaa.1 h1).1
       refine⟨h3.imp2 fun b y B _ hy _ hcl=>?_,h4⟩
       have:=h4 y hy
       subst this
       exact⟨(k2 b i j hi hcl.1).trans hcl.1,hcl.2⟩
      ·have:Sees G' (lk h'.length (pM rs s)) v:=by
        rcases iv h'.length (pM rs s) with⟨e,_⟩ |⟨e,_⟩ |⟨c,_,e,_⟩<;>rw[e]
        ·exact hs
        ·exact hs.unown
        ·exact hs.relabel _
       exact(l4.own this k1).keep fun b B c hb _=>hb
      ·rcases l4.id with e |e |e |⟨_,e,_⟩
       ·rw[e] at hc;cases hc
       ·rw[e] at hc;injection hc with hc;exact hc.symm
       ·rw[e] at hc
        rcases iv h'.length (pM rs s) with⟨e3,e2⟩ |⟨e3,_⟩ |⟨c',e1,e3,_⟩<;>rw[e3] at hc
        ·rw[e2] at hc;cases hc
        ·rw[AV.idOf_unown] at hc;cases hc
        ·rw[gD,e1] at hc;injection hc with hc;exact hc.symm
       ·cases e
     have fin:∀(Ds:List Nat) (s:St) (G':Ghost) (cls':Nat -> Id) (a':Act) (w':World),a'.defers=Ds.map gB -> Rel C fn.ntmps G' cls' s a' w' -> CB rs h.length r h' wr s ->
       LeavesInM (Fr none) 0 P fn a'.tmps (fun e w'=>∃ v G' cls',e=.returned v /\ After G (aQ G args vs h) r h' wr v G' cls' w') a'.defers .returning w':=by
      intro Ds
      induction Ds with
      | nil =>
       intro s G' cls' a' w' hd hR' hL
       rw[hd]
       obtain⟨v,hv,v',G2,c2,e,hA⟩:=fin0 s G' cls' a' w' hR' hL
       exact⟨v,hv,v',G2,c2,e,hA⟩
      | cons D Ds ih =>
       intro s G' cls' a' w' hd hR' hL
       obtain⟨hobj,hR2⟩:=hR'.shut hd
       rw[hd]
       exact⟨by simp,.inl ⟨D,_,rfl,run_takeDeferred hobj,ih s _ cls' { a' with defers:=Ds.map gB } _ rfl hR2 hL⟩⟩
     cases e with
     | normal=>obtain⟨s,G',cls',h1,h2⟩:=hh;obtain⟨Ds,hd,_⟩:=h1.defers;exact fin Ds s G' cls' a' w' hd h1 h2
     | ret=>obtain⟨s,G',cls',h1,h2⟩:=hh;obtain⟨Ds,hd,_⟩:=h1.defers;exact fin Ds s G' cls' a' w' hd h1 h2
     | exit id=>obtain⟨s,G',cls',h1,h2⟩:=hh;exact h2.elim
     | _=>exact hh.elim
    ·cases hf
   ·cases hf
  ·cases hf
 ·cases hf
theorem bU{P:Program}{N:Nat}:∀(c:Code) (x:XCode),bl P N c=some x -> x.strip=x
 | .scope c,x,h=>bU c x h
 | .skip,x,h=>by injection h with h;subst h;rfl
 | .label _,x,h=>by injection h with h;subst h;rfl
 | .ret,x,h=>by injection h with h;subst h;rfl
 | .exit _,x,h=>by injection h with h;subst h;rfl
 | .region _ _ _,x,h=>by rcases aU h with⟨_,xs,_,rfl⟩ |⟨_,_,t,_,rfl⟩ |⟨_,_,_,_,_,rfl⟩ |⟨_,_,_,_,_,_,rfl⟩ |⟨_,_,_,_,_,_,_,_,rfl⟩<;>rfl
 | .seq c d,x,h=>by obtain⟨y,z,h1,h2,rfl⟩:=bH h;simp only[XCode.strip,bU c y h1,bU d z h2]
 | .cond v c d,x,h=>by obtain⟨y,z,_,h1,h2,rfl⟩:=bn h;simp only[XCode.strip,bU c y h1,bU d z h2]
 | .block i c,x,h=>by obtain⟨y,h1,rfl⟩:=bd h;simp only[XCode.strip,bU c y h1]
 | .loop c,x,h=>by obtain⟨y,h1,rfl⟩:=bo h;simp only[XCode.strip,bU c y h1]
 | .goto _,x,h=>by cases h
 | .refuse _,x,h=>by cases h
 | .rangeFunc g ps c d,x,h=>by obtain⟨y,z,_,_,_,h1,h2,rfl⟩:=be h;simp only[XCode.strip,bU c y h1,bU d z h2]
theorem zV{P:Program}{f:FuncId}{X:XFun}(hf:aj P f=some X):X.code.strip=X.code:=by
 unfold aj at hf
 split at hf
 ·split at hf
  ·split at hf
   ·split at hf
    ·rename_i x rs hc hr
     injection hf with hf;subst hf
     exact bU _ _ hc
    ·cases hf
   ·cases hf
  ·cases hf
 ·cases hf
theorem ac{P:Program}{f:FuncId}{X:XFun}(hf:aj P f=some X)(hm:P.follows .mixedOrders=true){args:List AV}{h:List (List AV)}{r:AV}{h':List (List AV)}{wr:List Nat}(ha:args.length <= X.n)
  (hx:aK h.length h -> cb h.length args -> eO P ⟨h,args⟩ X.code (enter args h) (OI X.res h.length r h' wr)):ae P f args h r h' wr :=
 cf X.code hf (zV hf) hm ha hx
def nx(v:Val)(s:St)(d:Option Nat)(K:St -> List Nat -> Prop):Prop:=v.ok /\ K (s.puts d v.val v.own) v.ld
def TM(o:Option (List AV))(s:St)(d:Option Nat)(K:St -> List Nat -> Prop):Prop:=aP o fun l=>K ({ s with heap:=s.heap++[l.map AV.unown] }.puts d (.box s.heap.length 0) false) []
def I3(o:Option (List AV))(k len:Nat)(s:St)(d:Option Nat)(K:St -> List Nat -> Prop):Prop:=aP o fun cs=>K (s.puts d (.sl k (cC k len cs) (some false) .exact) false) []
def I7(o:Option St)(d:Option Nat)(K:St -> List Nat -> Prop):Prop:=aP o fun s'=>K (s'.puts d .any false) []
theorem ak{P:Program}{f:FuncId}{args bs:List AV}{s:St}{d:Option Nat}{K:St -> List Nat -> Prop}{r:AV}{h':List (List AV)}{wr:List Nat}(hc:ae P f bs s.heap r h' wr)(hf:iW 0 args bs)(hn:(bB (cq args bs)).Nodup)(hk:K (s.called (cq args bs) d r h' wr) []):my P f args s d K :=
 .inl ⟨bs,r,h',wr,hc,hf,hn,hk⟩
@[simp] theorem Kr(x y:Bool):(bE x y).map AV.unown=bE x y:=rfl
@[simp] theorem PN:lu []=[]:=rfl
@[simp] theorem Mo(k:Nat)(a:AV)(r:List (Nat×AV)):lu ((k,a)::r)=(k,a.unown)::lu r:=rfl
attribute [simp] St.round St.turn
theorem I4{P:Program}{m:Frm}{a:XCode}{s:St}{K:XExit -> St -> Prop}{D:Type}(inv:D -> St)(μ:D -> Nat)(d0:D)(h0:Leq m.h.length s (inv d0))(hr:∀ d,eO P m a (inv d) (XExit.then (fun s'=>∃ d',μ d'<μ d /\ Leq m.h.length s' (inv d')) K)):eO P m (.loop a) s K :=
 ⟨D,inv,μ,⟨d0,h0⟩,hr⟩
section
variable {P:Program} {m:Frm} {e o:List (Nat×AV)} {h:List (List AV)} {wr:List Nat} {s:St} {K:XExit -> St -> Prop}
@[simp] theorem Uc:eO P m .skip ⟨e,o,h,wr⟩ K=K .normal ⟨e,o,h,wr⟩:=ah
@[simp] theorem U2(xs:List XOper):eO P m (.ops xs) ⟨e,o,h,wr⟩ K=gR P xs ⟨e,o,h,wr⟩ [] fun s' _=>K .normal s':=ah
@[simp] theorem RU(t:XTree):eO P m (.draws t) ⟨e,o,h,wr⟩ K=bV P t ⟨e,o,h,wr⟩ [] (K .normal):=ah
@[simp] theorem U4(a b:XCode):eO P m (.seq a b) ⟨e,o,h,wr⟩ K=eO P m a ⟨e,o,h,wr⟩ (XExit.then (fun s'=>eO P m b s' K) K):=ah
@[simp] theorem RT(id:Nat)(a:XCode):eO P m (.block id a) ⟨e,o,h,wr⟩ K=eO P m a ⟨e,o,h,wr⟩ (XExit.inBlock id K):=ah
@[simp] theorem Ub(id:Nat):eO P m (.exit id) ⟨e,o,h,wr⟩ K=K (.exit id) ⟨e,o,h,wr⟩:=ah
@[simp] theorem U3:eO P m .ret ⟨e,o,h,wr⟩ K=K .ret ⟨e,o,h,wr⟩:=ah
@[simp] theorem QC(x:Operand)(a b:XCode)(hx:St.get ⟨e,o,h,wr⟩ x=.v (.bool true)):eO P m (.cond x a b) ⟨e,o,h,wr⟩ K=eO P m a ⟨e,o,h,wr⟩ K:=by simp[eO,hx,vH]
@[simp] theorem QB(x:Operand)(a b:XCode)(hx:St.get ⟨e,o,h,wr⟩ x=.v (.bool false)):eO P m (.cond x a b) ⟨e,o,h,wr⟩ K=eO P m b ⟨e,o,h,wr⟩ K:=by simp[eO,hx,vH]
theorem bG{x:Operand}{a b:XCode}(c:Bool)(hx:St.get s x=.v (.bool c))(ht:c=true -> eO P m a s K)(hf:c=false -> eO P m b s K):eO P m (.cond x a b) s K:=by
 unfold eO vH;rw[hx];exact⟨ht,hf⟩
@[simp] theorem Ml(k:St -> Prop):XExit.then k K .normal ⟨e,o,h,wr⟩=k ⟨e,o,h,wr⟩:=ah
@[simp] theorem Rg(k:St -> Prop)(id:Nat):XExit.then k K (.exit id) ⟨e,o,h,wr⟩=K (.exit id) ⟨e,o,h,wr⟩:=ah
@[simp] theorem TE(k:St -> Prop):XExit.then k K .ret ⟨e,o,h,wr⟩=K .ret ⟨e,o,h,wr⟩:=ah
@[simp] theorem Ju(id:Nat):XExit.inBlock id K .normal ⟨e,o,h,wr⟩=K .normal ⟨e,o,h,wr⟩:=ah
@[simp] theorem MT(id:Nat):XExit.inBlock id K (.exit id) ⟨e,o,h,wr⟩=K .normal ⟨e,o,h,wr⟩:=by simp[XExit.inBlock]
@[simp] theorem LK(id i:Nat)(hi:i≠id):XExit.inBlock id K (.exit i) ⟨e,o,h,wr⟩=K (.exit i) ⟨e,o,h,wr⟩:=by simp[XExit.inBlock,hi]
@[simp] theorem QF(id:Nat):XExit.inBlock id K .ret ⟨e,o,h,wr⟩=K .ret ⟨e,o,h,wr⟩:=ah
end
attribute [simp] XCode.cuts XCode.inside
section
variable {P:Program} {e o:List (Nat×AV)} {h:List (List AV)} {wr:List Nat} {K:St -> List Nat -> Prop} {d:Option Nat} {ld:List Nat}
@[simp] theorem UA(k:St -> Prop):gu ⟨e,o,h,wr⟩ k=k ⟨e,o,h,wr⟩:=ah
@[simp] theorem T9:gR P [] ⟨e,o,h,wr⟩ ld K=K ⟨e,o,h,wr⟩ ld:=ah
@[simp] theorem RO(op:XOp)(r:List XOper):gR P (⟨d,op,none⟩::r) ⟨e,o,h,wr⟩ ld K=br P d op ⟨e,o,h,wr⟩ fun s' l=>gu s' fun s'=>gR P r s' (l++ld) K:=ah
@[simp] theorem RP(op:XOp)(g:Nat)(w:Bool)(r:List XOper)(hg:St.look ⟨e,o,h,wr⟩ g=.v (.bool w)):gR P (⟨d,op,some (g,w)⟩::r) ⟨e,o,h,wr⟩ ld K=br P d op ⟨e,o,h,wr⟩ fun s' l=>gu s' fun s'=>gR P r s' (l++ld) K:=by
 rw[gR];simp[eN,hg,cB]
@[simp] theorem Qt(op:XOp)(g:Nat)(w:Bool)(r:List XOper)(hg:St.look ⟨e,o,h,wr⟩ g=.v (.bool (!w))):gR P (⟨d,op,some (g,w)⟩::r) ⟨e,o,h,wr⟩ ld K=gu (St.puts ⟨e,o,h,wr⟩ d (.v undef) false) fun s'=>gR P r s' ld K:=by
 rw[gR];cases w<;>simp[eN,hg,cB]
@[simp] theorem Qu(op:XOp)(g:Nat)(w:Bool)(r:List XOper)(hg:St.look ⟨e,o,h,wr⟩ g=.v undef):gR P (⟨d,op,some (g,w)⟩::r) ⟨e,o,h,wr⟩ ld K=gu (St.puts ⟨e,o,h,wr⟩ d (.v undef) false) fun s'=>gR P r s' ld K:=by
 rw[gR];simp[eN,hg,cB,undef]
@[simp] theorem YR(p:Prop)(a:AV)(w:Bool)(l:List Nat):nx ⟨p,a,w,l⟩ ⟨e,o,h,wr⟩ d K=(p /\ K (St.puts ⟨e,o,h,wr⟩ d a w) l):=ah
@[simp] theorem RD(a_x:Operand):br P d (.move a_x) ⟨e,o,h,wr⟩ K=ba P d (.move a_x) ⟨e,o,h,wr⟩ K:=ah
@[simp] theorem Mu(a_x:Operand):br P d (.assign a_x) ⟨e,o,h,wr⟩ K=ba P d (.assign a_x) ⟨e,o,h,wr⟩ K:=ah
@[simp] theorem RE(a_c a_a a_b:Operand):br P d (.pick a_c a_a a_b) ⟨e,o,h,wr⟩ K=ba P d (.pick a_c a_a a_b) ⟨e,o,h,wr⟩ K:=ah
@[simp] theorem P7(a_z:List AV):br P d (.alloc a_z) ⟨e,o,h,wr⟩ K=ba P d (.alloc a_z) ⟨e,o,h,wr⟩ K:=ah
@[simp] theorem TR(a_x:Operand):br P d (.box a_x) ⟨e,o,h,wr⟩ K=ba P d (.box a_x) ⟨e,o,h,wr⟩ K:=ah
@[simp] theorem P8(a_z:List AV)(a_parts:List (Nat×Nat×Operand)):br P d (.build a_z a_parts) ⟨e,o,h,wr⟩ K=ba P d (.build a_z a_parts) ⟨e,o,h,wr⟩ K:=ah
@[simp] theorem Fp(a_k a_len:Nat)(a_z:List AV)(a_parts:List (Nat×Operand)):br P d (.buildSlice a_k a_len a_z a_parts) ⟨e,o,h,wr⟩ K=ba P d (.buildSlice a_k a_len a_z a_parts) ⟨e,o,h,wr⟩ K:=ah
@[simp] theorem Qc(a_x:Operand):br P d (.load1 a_x) ⟨e,o,h,wr⟩ K=ba P d (.load1 a_x) ⟨e,o,h,wr⟩ K:=ah
@[simp] theorem Qd(a_n:Nat)(a_x:Operand):br P d (.loadN a_n a_x) ⟨e,o,h,wr⟩ K=ba P d (.loadN a_n a_x) ⟨e,o,h,wr⟩ K:=ah
@[simp] theorem Qg(a_n:Nat)(a_p a_x:Operand):br P d (.store a_n a_p a_x) ⟨e,o,h,wr⟩ K=ba P d (.store a_n a_p a_x) ⟨e,o,h,wr⟩ K:=ah
@[simp] theorem Ji(a_x:Operand):br P d (.nilCheck a_x) ⟨e,o,h,wr⟩ K=ba P d (.nilCheck a_x) ⟨e,o,h,wr⟩ K:=ah
@[simp] theorem TQ(a_op:BinOp)(a_x a_y:Operand):br P d (.bin a_op a_x a_y) ⟨e,o,h,wr⟩ K=ba P d (.bin a_op a_x a_y) ⟨e,o,h,wr⟩ K:=ah
@[simp] theorem TP(a_neg:Bool)(a_x a_y:Operand):br P d (.beq a_neg a_x a_y) ⟨e,o,h,wr⟩ K=ba P d (.beq a_neg a_x a_y) ⟨e,o,h,wr⟩ K:=ah
@[simp] theorem Qe(a_neg:Bool)(a_x:Operand):br P d (.nileq a_neg a_x) ⟨e,o,h,wr⟩ K=ba P d (.nileq a_neg a_x) ⟨e,o,h,wr⟩ K:=ah
@[simp] theorem My(a_neg:Bool)(a_x:Operand):br P d (.inileq a_neg a_x) ⟨e,o,h,wr⟩ K=ba P d (.inileq a_neg a_x) ⟨e,o,h,wr⟩ K:=ah
@[simp] theorem TS(a_t:TypeId)(a_x:Operand):br P d (.mkI a_t a_x) ⟨e,o,h,wr⟩ K=ba P d (.mkI a_t a_x) ⟨e,o,h,wr⟩ K:=ah
@[simp] theorem MC(a_neg:Bool)(a_x:Operand):br P d (.pnileq a_neg a_x) ⟨e,o,h,wr⟩ K=ba P d (.pnileq a_neg a_x) ⟨e,o,h,wr⟩ K:=ah
@[simp] theorem UU(a_op:UnOp)(a_x:Operand):br P d (.un a_op a_x) ⟨e,o,h,wr⟩ K=ba P d (.un a_op a_x) ⟨e,o,h,wr⟩ K:=ah
@[simp] theorem Rw(a_k:IntKind)(a_x:Operand):br P d (.conv a_k a_x) ⟨e,o,h,wr⟩ K=ba P d (.conv a_k a_x) ⟨e,o,h,wr⟩ K:=ah
@[simp] theorem TO(a_x:Operand):br P d (.b2s a_x) ⟨e,o,h,wr⟩ K=ba P d (.b2s a_x) ⟨e,o,h,wr⟩ K:=ah
@[simp] theorem RC(a_f:Fn)(a_first a_cap:List Operand):br P d (.mkfn a_f a_first a_cap) ⟨e,o,h,wr⟩ K=ba P d (.mkfn a_f a_first a_cap) ⟨e,o,h,wr⟩ K:=ah
@[simp] theorem Qf(a_k:Nat)(a_x:Operand)(a_lo a_hi a_mx:Option Operand):br P d (.slice a_k a_x a_lo a_hi a_mx) ⟨e,o,h,wr⟩ K=ba P d (.slice a_k a_x a_lo a_hi a_mx) ⟨e,o,h,wr⟩ K:=ah
@[simp] theorem MD(a_x:Operand)(a_lo a_hi:Option Operand):br P d (.sliceS a_x a_lo a_hi) ⟨e,o,h,wr⟩ K=ba P d (.sliceS a_x a_lo a_hi) ⟨e,o,h,wr⟩ K:=ah
@[simp] theorem Qa(a_off:Nat)(a_x:Operand):br P d (.faddr a_off a_x) ⟨e,o,h,wr⟩ K=ba P d (.faddr a_off a_x) ⟨e,o,h,wr⟩ K:=ah
@[simp] theorem Qb(a_k:Nat)(a_x a_i:Operand):br P d (.iaddr a_k a_x a_i) ⟨e,o,h,wr⟩ K=ba P d (.iaddr a_k a_x a_i) ⟨e,o,h,wr⟩ K:=ah
@[simp] theorem Rx(a_x a_i:Operand):br P d (.idxS a_x a_i) ⟨e,o,h,wr⟩ K=ba P d (.idxS a_x a_i) ⟨e,o,h,wr⟩ K:=ah
@[simp] theorem LB(a_x:Operand)(a_i:Nat):br P d (.extract a_x a_i) ⟨e,o,h,wr⟩ K=ba P d (.extract a_x a_i) ⟨e,o,h,wr⟩ K:=ah
@[simp] theorem Rz(a_x:Operand):br P d (.lenS a_x) ⟨e,o,h,wr⟩ K=ba P d (.lenS a_x) ⟨e,o,h,wr⟩ K:=ah
@[simp] theorem Ry(a_x:Operand):br P d (.lenL a_x) ⟨e,o,h,wr⟩ K=ba P d (.lenL a_x) ⟨e,o,h,wr⟩ K:=ah
@[simp] theorem RA(a_xs:List Operand):br P d (.maxI a_xs) ⟨e,o,h,wr⟩ K=ba P d (.maxI a_xs) ⟨e,o,h,wr⟩ K:=ah
@[simp] theorem RB(a_xs:List Operand):br P d (.minI a_xs) ⟨e,o,h,wr⟩ K=ba P d (.minI a_xs) ⟨e,o,h,wr⟩ K:=ah
@[simp] theorem Mt(a_k a_bytes:Nat)(a_s a_x:Operand):br P d (.append a_k a_bytes a_s a_x) ⟨e,o,h,wr⟩ K=ba P d (.append a_k a_bytes a_s a_x) ⟨e,o,h,wr⟩ K:=ah
@[simp] theorem LA(a_s a_x:Operand):br P d (.appendS a_s a_x) ⟨e,o,h,wr⟩ K=ba P d (.appendS a_s a_x) ⟨e,o,h,wr⟩ K:=ah
@[simp] theorem TT(a_x:Operand):br P d (.s2b a_x) ⟨e,o,h,wr⟩ K=ba P d (.s2b a_x) ⟨e,o,h,wr⟩ K:=ah
@[simp] theorem Rv(a_f:FuncId)(a_args:List Operand):br P d (.call a_f a_args) ⟨e,o,h,wr⟩ K=ba P d (.call a_f a_args) ⟨e,o,h,wr⟩ K:=ah
@[simp] theorem P9(x:Operand)(args:List Operand):br P d (.callv x args) ⟨e,o,h,wr⟩ K=iD P (St.get ⟨e,o,h,wr⟩ x) (args.map fun x=>St.get ⟨e,o,h,wr⟩ x) ⟨e,o,h,wr⟩ d K:=ah
@[simp] theorem P2(f:Fn)(first cap args:List AV):iD P (.fn f first cap) args ⟨e,o,h,wr⟩ d K=nt P (.fn f first cap) args ⟨e,o,h,wr⟩ d K:=ah
@[simp] theorem Mz(a_ks:Option IntKind)(a_n:Nat)(a_one a_c:Bool)(a_z:List AV)(a_x a_k:Operand):br P d (.lookup a_ks a_n a_one a_c a_z a_x a_k) ⟨e,o,h,wr⟩ K=ba P d (.lookup a_ks a_n a_one a_c a_z a_x a_k) ⟨e,o,h,wr⟩ K:=ah
@[simp] theorem MB(a_neg:Bool)(a_x:Operand):br P d (.mnileq a_neg a_x) ⟨e,o,h,wr⟩ K=ba P d (.mnileq a_neg a_x) ⟨e,o,h,wr⟩ K:=ah
@[simp] theorem LC(a_n:Nat)(a_one:Bool):br P d (.makeMap a_n a_one) ⟨e,o,h,wr⟩ K=ba P d (.makeMap a_n a_one) ⟨e,o,h,wr⟩ K:=ah
@[simp] theorem MA(a_ks:Option IntKind)(a_n:Nat)(a_one:Bool)(a_m a_k:Operand):br P d (.mapDel a_ks a_n a_one a_m a_k) ⟨e,o,h,wr⟩ K=ba P d (.mapDel a_ks a_n a_one a_m a_k) ⟨e,o,h,wr⟩ K:=ah
@[simp] theorem Mx(k:Nat):br P d (.emptyS k) ⟨e,o,h,wr⟩ K=ba P d (.emptyS k) ⟨e,o,h,wr⟩ K:=ah
@[simp] theorem Mw(z:Value)(x:Operand):br P d (.clearS z x) ⟨e,o,h,wr⟩ K=ba P d (.clearS z x) ⟨e,o,h,wr⟩ K:=ah
@[simp] theorem Mv(n:Nat)(one:Bool)(x:Operand):br P d (.clearM n one x) ⟨e,o,h,wr⟩ K=ba P d (.clearM n one x) ⟨e,o,h,wr⟩ K:=ah
@[simp] theorem Qj(n:Nat)(one:Bool)(x:Operand):ba P d (.clearM n one x) ⟨e,o,h,wr⟩ K=jU ⟨e,o,h,wr⟩ n one d (St.get ⟨e,o,h,wr⟩ x) K:=ah
@[simp] theorem P3(n:Nat)(one:Bool)(i n':Nat)(one':Bool):jU ⟨e,o,h,wr⟩ n one d (.mp i n' one') K=((n'=n /\ one'=one) /\ aP (eE h n i) fun p=>K (St.puts ⟨e,o,h.set i (bc p.1 []),i::wr⟩ d .any false) []):=ah
@[simp] theorem Qk(z:Value)(x:Operand):ba P d (.clearS z x) ⟨e,o,h,wr⟩ K=lz ⟨e,o,h,wr⟩ z d (St.get ⟨e,o,h,wr⟩ x) K:=ah
@[simp] theorem Ru(z:Value)(k:Nat)(nul:Option Bool)(room:Room):lz ⟨e,o,h,wr⟩ z d (.sl k [] nul room) K=K (St.puts ⟨e,o,h,wr⟩ d .any false) []:=propext ⟨fun h=>h.2,fun h=>⟨rfl,h⟩⟩
@[simp] theorem P4(z:Value)(i off n:Nat):lz ⟨e,o,h,wr⟩ z d (.bsl i off 1 n) K=aP (h[i]?) fun cs=>off+n <= cs.length /\ K (St.puts ⟨e,o,h.set i (lay cs off (List.replicate n (cV z))),i::wr⟩ d .any false) []:=propext ⟨fun h=>h.2,fun h=>⟨rfl,h⟩⟩
@[simp] theorem Ql(k:Nat):ba P d (.emptyS k) ⟨e,o,h,wr⟩ K=K (St.puts ⟨e,o,h,wr⟩ d (.sl k [] (some false) .exact) false) []:=ah
@[simp] theorem Qn(ks:Option IntKind)(n:Nat)(one c:Bool)(z:List AV)(x k:Operand):ba P d (.lookup ks n one c z x k) ⟨e,o,h,wr⟩ K=nx (fk h ks n one c z (St.get ⟨e,o,h,wr⟩ x) (St.get ⟨e,o,h,wr⟩ k)) ⟨e,o,h,wr⟩ d K:=ah
@[simp] theorem Qq(neg:Bool)(x:Operand):ba P d (.mnileq neg x) ⟨e,o,h,wr⟩ K=nx (tn neg (St.get ⟨e,o,h,wr⟩ x)) ⟨e,o,h,wr⟩ d K:=ah
@[simp] theorem MG(n:Nat)(one:Bool):ba P d (.makeMap n one) ⟨e,o,h,wr⟩ K=K (St.puts ⟨e,o,h++[bc 0 []],wr⟩ d (.mp h.length n one) false) []:=ah
@[simp] theorem Qp(ks:Option IntKind)(n:Nat)(one:Bool)(m k x:Operand):ba P d (.mapUpd ks n one m k x) ⟨e,o,h,wr⟩ K=jW ⟨e,o,h,wr⟩ ks n one d (St.get ⟨e,o,h,wr⟩ m) (St.get ⟨e,o,h,wr⟩ k) (St.get ⟨e,o,h,wr⟩ x) K:=ah
@[simp] theorem Qo(ks:Option IntKind)(n:Nat)(one:Bool)(m k:Operand):ba P d (.mapDel ks n one m k) ⟨e,o,h,wr⟩ K=jV ⟨e,o,h,wr⟩ ks n one d (St.get ⟨e,o,h,wr⟩ m) (St.get ⟨e,o,h,wr⟩ k) K:=ah
@[simp] theorem L0{α:Type}(a:α)(k:α -> Prop):aP (some a) k=k a:=ah
@[simp] theorem P6(ks:Option IntKind)(n:Nat)(one:Bool)(i n':Nat)(one':Bool)(kv:Value)(x:AV):jW ⟨e,o,h,wr⟩ ks n one d (.mp i n' one') (.v kv) x K=((n'=n /\ one'=one) /\ dc ks kv=true /\ aP (eE h n i) fun p=>gw ks p.2 /\ aP (LQ n one x) fun cs =>
  K (St.puts ⟨e,o,h.set i (bc (AEnt.put kv p.1 cs p.2).2 (AEnt.put kv p.1 cs p.2).1),i::wr⟩ d .any false) []):=ah
@[simp] theorem P5(ks:Option IntKind)(n:Nat)(one:Bool)(i n':Nat)(one':Bool)(kv:Value):jV ⟨e,o,h,wr⟩ ks n one d (.mp i n' one') (.v kv) K=((n'=n /\ one'=one) /\ dc ks kv=true /\ aP (eE h n i) fun p=>gw ks p.2 /\
  K (St.puts ⟨e,o,h.set i (bc p.1 (AEnt.del kv p.2)),i::wr⟩ d .any false) []):=ah
def YM{α:Type}(o:Option α)(f:α -> Val):Val:=match o with |some p=>f p |none=>.bad
@[simp] theorem TJ{α:Type}(p:α)(f:α -> Val):YM (some p) f=f p:=ah
@[simp] theorem PS(ks:Option IntKind)(n:Nat)(one c:Bool)(z:List AV)(kv:Value)(i n':Nat)(one':Bool):fk h ks n one c z (.mp i n' one') (.v kv)=YM (eE h n i) fun p=>⟨(n'=n /\ one'=one) /\ dc ks kv=true /\ gw ks p.2,found one c z (AEnt.find kv p.2 0),false,[i]⟩:=by
 unfold fk YM;dsimp only;cases eE h n i<;>rfl
@[simp] theorem TI(neg:Bool)(i n:Nat)(one:Bool):tn neg (.mp i n one)=.of (.v (.bool neg)):=ah
@[simp] theorem Uq(n:Nat)(x:AV)(hx:x.one=true):LQ n true x=some [x.unown]:=by unfold LQ;simp[hx]
@[simp] theorem Up(n:Nat)(cs:List AV)(hx:cs.length=n):LQ n false (.agg cs)=some (cs.map AV.unown):=by unfold LQ;simp[hx]
@[simp] theorem Oz(b:ByteArray):dc none (.string b)=true:=ah
attribute [simp] eE Ec
@[simp] theorem T7(x:Operand):ba P d (.move x) ⟨e,o,h,wr⟩ K=nx ⟨True,St.get ⟨e,o,h,wr⟩ x,St.mine ⟨e,o,h,wr⟩ x,[]⟩ ⟨e,o,h,wr⟩ d K:=ah
@[simp] theorem T8(c a b:Operand):ba P d (.pick c a b) ⟨e,o,h,wr⟩ K=nx (to (St.get ⟨e,o,h,wr⟩ c) (St.get ⟨e,o,h,wr⟩ a) (St.get ⟨e,o,h,wr⟩ b)) ⟨e,o,h,wr⟩ d K:=ah
@[simp] theorem RJ(x:Operand):ba P d (.load1 x) ⟨e,o,h,wr⟩ K=nx (fG h (St.get ⟨e,o,h,wr⟩ x)) ⟨e,o,h,wr⟩ d K:=ah
@[simp] theorem RK(n:Nat)(x:Operand):ba P d (.loadN n x) ⟨e,o,h,wr⟩ K=nx (fe h n (St.get ⟨e,o,h,wr⟩ x)) ⟨e,o,h,wr⟩ d K:=ah
@[simp] theorem RG(z:List AV)(parts:List (Nat×Nat×Operand)):ba P d (.build z parts) ⟨e,o,h,wr⟩ K=nx (iO z (parts.map fun p=>(p.1,p.2.1,St.get ⟨e,o,h,wr⟩ p.2.2))) ⟨e,o,h,wr⟩ d K:=ah
@[simp] theorem LD(x:Operand):ba P d (.nilCheck x) ⟨e,o,h,wr⟩ K=nx (BR (St.get ⟨e,o,h,wr⟩ x)) ⟨e,o,h,wr⟩ d K:=ah
@[simp] theorem UY(op:BinOp)(x y:Operand):ba P d (.bin op x y) ⟨e,o,h,wr⟩ K=nx (BO op (St.get ⟨e,o,h,wr⟩ x) (St.get ⟨e,o,h,wr⟩ y)) ⟨e,o,h,wr⟩ d K:=ah
@[simp] theorem UX(neg:Bool)(x y:Operand):ba P d (.beq neg x y) ⟨e,o,h,wr⟩ K=nx (BN neg (St.get ⟨e,o,h,wr⟩ x) (St.get ⟨e,o,h,wr⟩ y)) ⟨e,o,h,wr⟩ d K:=ah
@[simp] theorem RL(neg:Bool)(x:Operand):ba P d (.nileq neg x) ⟨e,o,h,wr⟩ K=nx (nr neg (St.get ⟨e,o,h,wr⟩ x)) ⟨e,o,h,wr⟩ d K:=ah
@[simp] theorem Qm(neg:Bool)(x:Operand):ba P d (.inileq neg x) ⟨e,o,h,wr⟩ K=nx (ti neg (St.get ⟨e,o,h,wr⟩ x)) ⟨e,o,h,wr⟩ d K:=ah
@[simp] theorem U0(t:TypeId)(x:Operand):ba P d (.mkI t x) ⟨e,o,h,wr⟩ K=nx (.of (.ifc t (St.get ⟨e,o,h,wr⟩ x).unown)) ⟨e,o,h,wr⟩ d K:=ah
@[simp] theorem Qr(neg:Bool)(x:Operand):ba P d (.pnileq neg x) ⟨e,o,h,wr⟩ K=nx (tp neg (St.get ⟨e,o,h,wr⟩ x)) ⟨e,o,h,wr⟩ d K:=ah
@[simp] theorem UV(neg:Bool)(ts:List Nat)(x y:Operand):ba P d (.aeq neg ts x y) ⟨e,o,h,wr⟩ K=nx (BL neg ts (St.get ⟨e,o,h,wr⟩ x) (St.get ⟨e,o,h,wr⟩ y)) ⟨e,o,h,wr⟩ d K:=ah
@[simp] theorem UW(x:Operand):ba P d (.b2s x) ⟨e,o,h,wr⟩ K=nx (BM (St.get ⟨e,o,h,wr⟩ x)) ⟨e,o,h,wr⟩ d K:=ah
@[simp] theorem YS(op:UnOp)(x:Operand):ba P d (.un op x) ⟨e,o,h,wr⟩ K=nx (PT op (St.get ⟨e,o,h,wr⟩ x)) ⟨e,o,h,wr⟩ d K:=ah
@[simp] theorem TV(k:IntKind)(x:Operand):ba P d (.conv k x) ⟨e,o,h,wr⟩ K=nx (tg k (St.get ⟨e,o,h,wr⟩ x)) ⟨e,o,h,wr⟩ d K:=ah
@[simp] theorem T1(f:Fn)(first cap:List Operand):ba P d (.mkfn f first cap) ⟨e,o,h,wr⟩ K=nx ⟨True,.fn f (first.map fun x=>(St.get ⟨e,o,h,wr⟩ x).unown) (cap.map fun x=>(St.get ⟨e,o,h,wr⟩ x).unown),false,[]⟩ ⟨e,o,h,wr⟩ d K:=ah
@[simp] theorem RM(k:Nat)(x:Operand)(lo hi mx:Option Operand):ba P d (.slice k x lo hi mx) ⟨e,o,h,wr⟩ K=nx (pK k (St.get ⟨e,o,h,wr⟩ x) (fun n=>cutAt ⟨e,o,h,wr⟩ n lo hi) (mx.map fun m=>kZ (St.get ⟨e,o,h,wr⟩ m)) (hi.isNone&&mx.isNone)) ⟨e,o,h,wr⟩ d K:=ah
@[simp] theorem Qs(x:Operand)(lo hi:Option Operand):ba P d (.sliceS x lo hi) ⟨e,o,h,wr⟩ K=nx (lQ (St.get ⟨e,o,h,wr⟩ x) (fun n=>cutAt ⟨e,o,h,wr⟩ n lo hi)) ⟨e,o,h,wr⟩ d K:=ah
@[simp] theorem RH(off:Nat)(x:Operand):ba P d (.faddr off x) ⟨e,o,h,wr⟩ K=nx (np off (St.get ⟨e,o,h,wr⟩ x)) ⟨e,o,h,wr⟩ d K:=ah
@[simp] theorem RI(k:Nat)(x i:Operand):ba P d (.iaddr k x i) ⟨e,o,h,wr⟩ K=nx (nq k (St.get ⟨e,o,h,wr⟩ x) (St.get ⟨e,o,h,wr⟩ i)) ⟨e,o,h,wr⟩ d K:=ah
@[simp] theorem TW(x i:Operand):ba P d (.idxS x i) ⟨e,o,h,wr⟩ K=nx (th (St.get ⟨e,o,h,wr⟩ x) (St.get ⟨e,o,h,wr⟩ i)) ⟨e,o,h,wr⟩ d K:=ah
@[simp] theorem MF(x:Operand)(i:Nat):ba P d (.extract x i) ⟨e,o,h,wr⟩ K=nx (gN (St.get ⟨e,o,h,wr⟩ x) i) ⟨e,o,h,wr⟩ d K:=ah
@[simp] theorem TY(x:Operand):ba P d (.lenS x) ⟨e,o,h,wr⟩ K=nx (tm (St.get ⟨e,o,h,wr⟩ x)) ⟨e,o,h,wr⟩ d K:=ah
@[simp] theorem TX(x:Operand):ba P d (.lenL x) ⟨e,o,h,wr⟩ K=nx (lv (St.get ⟨e,o,h,wr⟩ x)) ⟨e,o,h,wr⟩ d K:=ah
@[simp] theorem TZ(xs:List Operand):ba P d (.maxI xs) ⟨e,o,h,wr⟩ K=nx (BP (xs.mapM fun x=>eX (St.get ⟨e,o,h,wr⟩ x))) ⟨e,o,h,wr⟩ d K:=ah
@[simp] theorem T0(xs:List Operand):ba P d (.minI xs) ⟨e,o,h,wr⟩ K=nx (BQ (xs.mapM fun x=>eX (St.get ⟨e,o,h,wr⟩ x))) ⟨e,o,h,wr⟩ d K:=ah
@[simp] theorem Qi(n:Nat)(x:Operand):ba P (some n) (.assign x) ⟨e,o,h,wr⟩ K=K (St.assigned ⟨e,o,h,wr⟩ n x) []:=ah
@[simp] theorem RF(z:List AV):ba P d (.alloc z) ⟨e,o,h,wr⟩ K=K (St.puts ⟨e,o,h++[z],wr⟩ d (.box h.length 0) false) []:=ah
@[simp] theorem UZ(x:Operand):ba P d (.box x) ⟨e,o,h,wr⟩ K=TM (St.get ⟨e,o,h,wr⟩ x).cells ⟨e,o,h,wr⟩ d K:=ah
@[simp] theorem Rr(l:List AV):TM (some l) ⟨e,o,h,wr⟩ d K=K (St.puts ⟨e,o,h++[l.map AV.unown],wr⟩ d (.box h.length 0) false) []:=ah
@[simp] theorem I5(k len:Nat)(z:List AV)(parts:List (Nat×Operand)):ba P d (.buildSlice k len z parts) ⟨e,o,h,wr⟩ K=I3 (ib (CP k z len) (parts.map fun p=>(p.1*k,k,St.get ⟨e,o,h,wr⟩ p.2))) k len ⟨e,o,h,wr⟩ d K:=ah
@[simp] theorem Mr(cs:List AV)(k len:Nat):I3 (some cs) k len ⟨e,o,h,wr⟩ d K=K (St.puts ⟨e,o,h,wr⟩ d (.sl k (cC k len cs) (some false) .exact) false) []:=ah
@[simp] theorem RN(n:Nat)(p x:Operand):ba P d (.store n p x) ⟨e,o,h,wr⟩ K=I7 (St.storedAt ⟨e,o,h,wr⟩ n (St.get ⟨e,o,h,wr⟩ p) (St.get ⟨e,o,h,wr⟩ x)) d K:=ah
@[simp] theorem MI:I7 (some ⟨e,o,h,wr⟩) d K=K (St.puts ⟨e,o,h,wr⟩ d .any false) []:=ah
@[simp] theorem Qh(k bytes:Nat)(a x:Operand):ba P d (.append k bytes a x) ⟨e,o,h,wr⟩ K=bO ⟨e,o,h,wr⟩ k bytes d (St.get ⟨e,o,h,wr⟩ a) (St.get ⟨e,o,h,wr⟩ x) K:=ah
@[simp] theorem Lz(k bytes k1:Nat)(es:List (List AV))(nul:Option Bool)(c:Id)(x:AV)(hn:nul≠some true):bO ⟨e,o,h,wr⟩ k bytes d (.sl k1 es nul (.own c)) x K=jS ⟨e,o,h,wr⟩ k bytes d (.sl k1 es nul (.own c)) x K:=by
 refine propext ⟨fun hh=>?_,.inl⟩
 rcases hh with hh |hh |hh
 ·exact hh
 ·obtain⟨es2,hr,hne,hid,hm⟩:=hh
  rcases hm with hm |hm
  ·rcases hm.1 with h1 |⟨_,_,h1⟩
   ·exact absurd h1 hn
   ·cases h1
  ·cases hm.2.2.1
 ·obtain⟨hx,hm⟩:=hh
  rcases hm with⟨_,h1,_⟩ |⟨_,_,_,h1,_⟩ |⟨_,_,h1,_⟩
  ·exact absurd h1 hn
  ·cases h1
  ·cases h1
theorem dr{k bytes:Nat}{a x:AV}(hh:jS ⟨e,o,h,wr⟩ k bytes d a x K):bO ⟨e,o,h,wr⟩ k bytes d a x K:=.inl hh
@[simp] theorem ME(a x:Operand):ba P d (.appendS a x) ⟨e,o,h,wr⟩ K=jp ⟨e,o,h,wr⟩ d (St.get ⟨e,o,h,wr⟩ a) (St.get ⟨e,o,h,wr⟩ x) K:=ah
@[simp] theorem U1(x:Operand):ba P d (.s2b x) ⟨e,o,h,wr⟩ K=Fe ⟨e,o,h,wr⟩ d (St.get ⟨e,o,h,wr⟩ x) K:=ah
@[simp] theorem YT(b:ByteArray):Fe ⟨e,o,h,wr⟩ d (.v (.string b)) K=(b.size <= 140737488355328 /\ K (St.puts ⟨e,o,h,wr⟩ d (.sl 1 (ai b.data.toList) none .no) false) []):=ah
@[simp] theorem TU(f:FuncId)(args:List Operand):ba P d (.call f args) ⟨e,o,h,wr⟩ K=my P f (args.map fun x=>St.get ⟨e,o,h,wr⟩ x) ⟨e,o,h,wr⟩ d K:=ah
@[simp] theorem Rt(f:FuncId)(first cap args:List AV):nt P (.fn (.func f) first cap) args ⟨e,o,h,wr⟩ d K=((∀ c∈first++cap,c.idOf=none) /\ my P f (first++args++cap) ⟨e,o,h,wr⟩ d K):=ah
@[simp] theorem PZ(k bytes n k1 k2:Nat)(es es2:List (List AV))(nul nul2:Option Bool)(room room2:Room):jS ⟨e,o,h,wr⟩ k bytes (some n) (.sl k1 es nul room) (.sl k2 es2 nul2 room2) K=(nh k1 k es room /\ (k2=k \/ es2=[]) /\ (es.length+es2.length)*bytes <= 140737488355328 /\ es.length+es2.length <= 140737488355328 /\ K ((St.stripR ⟨e,o,h,wr⟩ room).putO n (.sl k (es++es2) none (.own (qG room n)))) []):=ah
@[simp] theorem Mq(n k1:Nat)(es:List (List AV))(nul:Option Bool)(room:Room)(t:ByteArray):jp ⟨e,o,h,wr⟩ (some n) (.sl k1 es nul room) (.v (.string t)) K=(nh k1 1 es room /\ es.length+t.size <= 140737488355328 /\ K ((St.stripR ⟨e,o,h,wr⟩ room).putO n (.sl 1 (es++ai t.data.toList) none (.own (qG room n)))) []):=ah
@[simp] theorem RQ(op:XOp):iP P ⟨d,op,none⟩ ⟨e,o,h,wr⟩ ld K=ba P d op ⟨e,o,h,wr⟩ fun s' l=>gu s' fun s'=>K s' (l++ld):=ah
@[simp] theorem Qv(op:XOp)(g:Nat)(w:Bool)(hg:St.look ⟨e,o,h,wr⟩ g=.v (.bool w)):iP P ⟨d,op,some (g,w)⟩ ⟨e,o,h,wr⟩ ld K=ba P d op ⟨e,o,h,wr⟩ fun s' l=>gu s' fun s'=>K s' (l++ld):=by
 rw[iP];simp[eN,hg,cB]
@[simp] theorem MH(op:XOp)(g:Nat)(w:Bool)(hg:St.look ⟨e,o,h,wr⟩ g=.v (.bool (!w))):iP P ⟨d,op,some (g,w)⟩ ⟨e,o,h,wr⟩ ld K=gu (St.puts ⟨e,o,h,wr⟩ d (.v undef) false) fun s'=>K s' ld:=by
 rw[iP];cases w<;>simp[eN,hg,cB]
@[simp] theorem Ua(op:XOp):eJ P ⟨d,op,none⟩ ⟨e,o,h,wr⟩ ld K=ba P d op ⟨e,o,h,wr⟩ fun s' l=>fresh ld ⟨e,o,h,wr⟩ s' /\ gu s' fun s'=>K s' (l++ld):=ah
@[simp] theorem RR(op:XOp)(g:Nat)(w:Bool)(hg:St.look ⟨e,o,h,wr⟩ g=.v (.bool w)):eJ P ⟨d,op,some (g,w)⟩ ⟨e,o,h,wr⟩ ld K=ba P d op ⟨e,o,h,wr⟩ fun s' l=>fresh ld ⟨e,o,h,wr⟩ s' /\ gu s' fun s'=>K s' (l++ld):=by
 rw[eJ];simp[eN,hg,cB]
@[simp] theorem Qw(op:XOp)(g:Nat)(w:Bool)(hg:St.look ⟨e,o,h,wr⟩ g=.v (.bool (!w))):eJ P ⟨d,op,some (g,w)⟩ ⟨e,o,h,wr⟩ ld K=gu (St.puts ⟨e,o,h,wr⟩ d (.v undef) false) fun s'=>K s' ld:=by
 rw[eJ];cases w<;>simp[eN,hg,cB]
@[simp] theorem Qx(k:St -> Prop):bV P .done ⟨e,o,h,wr⟩ ld k=k ⟨e,o,h,wr⟩:=ah
@[simp] theorem QA(q:XOper)(t:XTree)(k:St -> Prop):bV P (.take q t) ⟨e,o,h,wr⟩ ld k=iP P q ⟨e,o,h,wr⟩ ld fun s' ld'=>bV P t s' ld' k:=ah
@[simp] theorem Qz(q:XOper)(t:XTree)(k:St -> Prop):bV P (.only q t) ⟨e,o,h,wr⟩ ld k=eJ P q ⟨e,o,h,wr⟩ ld fun s' ld'=>bV P t s' ld' k:=ah
@[simp] theorem Qy(op:XOp)(k:St -> Prop):bV P (.last ⟨d,op,none⟩) ⟨e,o,h,wr⟩ ld k=ba P d op ⟨e,o,h,wr⟩ fun s' _=>gu s' k:=ah
@[simp] theorem RS(q p:XOper)(t u:XTree)(k:St -> Prop):bV P (.two q p t u) ⟨e,o,h,wr⟩ ld k=((eJ P q ⟨e,o,h,wr⟩ ld fun s' ld'=>bV P t s' ld' k) /\ eJ P p ⟨e,o,h,wr⟩ ld fun s' ld'=>bV P u s' ld' k):=ah
@[simp] theorem UG(t:Nat):St.look ⟨e,o,h,wr⟩ t=(match find o t with
  | some a=>a
  | none=>match find e t with
   | some a=>a
   | none=>.any):=ah
@[simp] theorem Uy(t:Nat):St.get ⟨e,o,h,wr⟩ (.tmp t)=St.look ⟨e,o,h,wr⟩ t:=ah
@[simp] theorem QU(v:Value):St.get ⟨e,o,h,wr⟩ (.const v)=OT v:=ah
@[simp] theorem SE(f:FuncId):St.get ⟨e,o,h,wr⟩ (.func f)=.fn (.func f) [] []:=ah
@[simp] theorem Te(t:Nat):St.mine ⟨e,o,h,wr⟩ (.tmp t)=(find o t).isSome:=ah
@[simp] theorem OP(v:Value):St.mine ⟨e,o,h,wr⟩ (.const v)=false:=ah
@[simp] theorem Q8(a:AV)(w:Bool):St.puts ⟨e,o,h,wr⟩ none a w=⟨e,o,h,wr⟩:=ah
@[simp] theorem O9(n:Nat)(a:AV):St.puts ⟨e,o,h,wr⟩ (some n) a false=⟨(n,a)::e,drop n o,h,wr⟩:=ah
@[simp] theorem Q9(n:Nat)(a:AV):St.puts ⟨e,o,h,wr⟩ (some n) a true=⟨e,(n,a)::drop n o,h,wr⟩:=ah
@[simp] theorem YH(n:Nat)(a:AV):St.put ⟨e,o,h,wr⟩ n a=⟨(n,a)::e,drop n o,h,wr⟩:=ah
@[simp] theorem UM(n:Nat)(a:AV):St.putO ⟨e,o,h,wr⟩ n a=⟨e,(n,a)::drop n o,h,wr⟩:=ah
@[simp] theorem UD(p:Id -> Bool):St.kill ⟨e,o,h,wr⟩ p=⟨e,gA p o,h,wr⟩:=ah
@[simp] theorem Sw(t:Nat):find [] t=none:=ah
@[simp] theorem QS(t:Nat)(a:AV)(r:List (Nat×AV)):find ((t,a)::r) t=some a:=by simp[find]
@[simp] theorem Oq(k t:Nat)(a:AV)(r:List (Nat×AV))(hk:k≠t):find ((k,a)::r) t=find r t:=by simp[find,hk]
@[simp] theorem drop_nil(t:Nat):drop t []=[]:=ah
@[simp] theorem QP(t:Nat)(a:AV)(r:List (Nat×AV)):drop t ((t,a)::r)=drop t r:=by simp[drop]
@[simp] theorem Og(k t:Nat)(a:AV)(r:List (Nat×AV))(hk:k≠t):drop t ((k,a)::r)=(k,a)::drop t r:=by simp[drop,hk]
end
section
variable {c:Id} {x:Value} {i o k:Nat} {cs:List AV} {es:List (List AV)} {nul:Option Bool} {room:Room} {f:Fn} {a b:List AV}
@[simp] theorem UR:(AV.v x).unown=.v x:=ah
@[simp] theorem Ri:(AV.box i o).unown=.box i o:=ah
@[simp] theorem Rj{i off k n:Nat}:(AV.bsl i off k n).unown=.bsl i off k n:=ah
@[simp] theorem TH:(AV.sl k es nul .no).unown=.sl k es nul .no:=ah
@[simp] theorem Mp:(AV.sl k es nul .exact).unown=.sl k es nul .exact:=ah
@[simp] theorem Rl:(AV.sl k es nul (.own c)).unown=.sl k es nul .no:=ah
@[simp] theorem Rh:(AV.agg cs).unown=.agg cs:=ah
@[simp] theorem Zi:(AV.v x).idOf=none:=ah
@[simp] theorem WE:(AV.box i o).idOf=none:=ah
@[simp] theorem WF{i off k n:Nat}:(AV.bsl i off k n).idOf=none:=ah
@[simp] theorem YY:(AV.sl k es nul .no).idOf=none:=ah
@[simp] theorem SH:(AV.sl k es nul .exact).idOf=none:=ah
@[simp] theorem WH:(AV.sl k es nul (.own c)).idOf=some c:=ah
@[simp] theorem YW:(AV.fn f a b).idOf=none:=ah
@[simp] theorem WD:(AV.agg cs).idOf=none:=ah
@[simp] theorem WI:(AV.tup cs).idOf=none:=ah
@[simp] theorem UI:(AV.box i o).one=true:=ah
@[simp] theorem QJ:(AV.agg cs).cells=some cs:=ah
theorem cells_one{a:AV}(h:a.one=true):a.cells=some [a]:=by
 cases a with
 | agg cs=>cases h
 | _=>simp[AV.cells,h]
@[simp] theorem Un(h:x.oneCell'=true):(AV.v x).cells=some [.v x]:=cells_one h
@[simp] theorem QK:(AV.box i o).cells=some [.box i o]:=ah
@[simp] theorem QL{i off k n:Nat}:(AV.bsl i off k n).cells=some [.bsl i off k n]:=ah
@[simp] theorem So:(AV.sl k es nul room).cells=some [.sl k es nul room]:=ah
@[simp] theorem UJ(k:IntKind)(n:Int):(Value.int k n).oneCell'=true:=ah
@[simp] theorem Tg(b:Bool):(Value.bool b).oneCell'=true:=ah
@[simp] theorem UL(s:ByteArray):(Value.string s).oneCell'=true:=ah
@[simp] theorem Mj{d:Id}:(AV.sl k es nul (.own c)).relabel d=.sl k es nul (.own d):=ah
@[simp] theorem OG(p:Id -> Bool):(AV.sl k es nul (.own c)).killed p=if p c then .sl k es nul .no else .sl k es nul (.own c):=ah
@[simp] theorem Q0(p:Id -> Bool):(AV.sl k es nul .no).killed p=.sl k es nul .no:=ah
@[simp] theorem Pu{m:Nat}{a:AV}(h:a.idOf=none):lk m a=a:=by
 cases a with
 | sl k es nul room=>cases room<;>first |rfl |cases h
 | _=>rfl
@[simp] theorem Pv{m n:Nat}:lk m (.sl k es nul (.own (.slot n)))=.sl k es nul (.own .res):=ah
@[simp] theorem Q1(a:AV):LeqV c a a:=ja c a
@[simp] theorem Rq(a:AV):weak a a:=jn a
@[simp] theorem LW(i o k n k':Nat)(es':List (List AV))(nul':Option Bool)(room':Room):LeqV c (.bsl i o k n) (.sl k' es' nul' room')=(n=0 /\ es'=[] /\ nul'≠some true /\ room'=.no):=ah
@[simp] theorem UF(k':Nat)(es':List (List AV))(nul':Option Bool)(room':Room):LeqV c (.sl k es nul room) (.sl k' es' nul' room')=(cK es es' /\ (k=k' \/ (es=[] /\ room=.exact)) /\ iq nul nul' /\ (ng c room room' \/ (nul=some true /\ newRoom c room'))):=ah
@[simp] theorem YC(y:Value)(a:AV):LeqV c a (.v y)=weak a (.v y):=ah
@[simp] theorem SW(a:AV):LeqV c a (.box i o)=weak a (.box i o):=ah
@[simp] theorem SX{i off k n:Nat}(a:AV):LeqV c a (.bsl i off k n)=weak a (.bsl i off k n):=ah
@[simp] theorem SV(a:AV):LeqV c a (.agg cs)=weak a (.agg cs):=ah
@[simp] theorem S0(a:AV):LeqV c a (.tup cs)=weak a (.tup cs):=ah
@[simp] theorem DV(n:Nat){a:AV}(h:a.idOf=none):rW n a a:=by
 unfold rW
 cases a with
 | sl k es nul room =>
  refine⟨fA _,.inl rfl,jI _,?_⟩
  cases room<;>first |trivial |cases h
 | any=>trivial
 | _=>exact jn _
@[simp] theorem Uu(n k':Nat)(es':List (List AV))(nul':Option Bool)(room':Room):rW n (.sl k es nul room) (.sl k' es' nul' room')=(cK es es' /\ (k=k' \/ (es=[] /\ room=.exact)) /\ iq nul nul' /\ qX n room room'):=ah
@[simp] theorem Sy(n:Nat)(a:AV):rW n a (.agg cs)=weak a (.agg cs):=ah
@[simp] theorem D8{a b:AV}(h:b.idOf=none):hand a b=b:=by
 cases b with
 | sl k es nul room=>cases room<;>first |rfl |cases h
 | _=>rfl
@[simp] theorem SF(k':Nat)(es':List (List AV))(nul':Option Bool)(d:Id):hand (.sl k es nul (.own c)) (.sl k' es' nul' (.own d))=.sl k' es' nul' (.own c):=ah
@[simp] theorem Ox(k':Nat)(es':List (List AV))(nul':Option Bool)(d:Id):hand (.sl k es nul .exact) (.sl k' es' nul' (.own d))=.sl k' es' nul' (.own .res):=ah
end
@[simp] theorem O3(x:Value)(b:AV):nZ true (.v x) b=.v x:=by
 unfold nZ
 split<;>simp_all [AV.unown]
@[simp] theorem L2(a:AV)(y:Value):nZ false a (.v y)=.v y:=by
 unfold nZ
 split<;>simp_all [AV.unown]
@[simp] theorem O2(t x y:Bool):nZ t (.v (.bool x)) (.v (.bool y))=.v (.bool (bif t then x else y)):=ah
@[simp] theorem PQ(h:List (List AV))(i o:Nat):fG h (.box i o)=(match h[i]? with
  | some cs=>match cs[o]? with
   | some a=>⟨True,a,a.idOf.isSome,[i]⟩
   | none=>.bad
  | none=>.bad):=rfl
@[simp] theorem Rn(h:List (List AV))(c:AV)(r:List AV):fG h (.ro (c::r))=⟨True,c.unown,false,[]⟩:=ah
@[simp] theorem PR(h:List (List AV))(n i o:Nat):fe h n (.box i o)=(match h[i]? with
  | some cs=>⟨o+n <= cs.length,.agg (((cs.drop o).take n).map AV.unown),false,[i]⟩
  | none=>.bad):=rfl
@[simp] theorem Ro(h:List (List AV)){n:Nat}{cs:List AV}(hl:cs.length=n)(hu:cs.map AV.unown=cs):fe h n (.ro cs)=⟨True,.agg cs,false,[]⟩:=by
 unfold fe
 subst hl
 simp[hu]
@[simp] theorem OS(n:Option Bool):iq n none:=by simp[iq]
@[simp] theorem Mb(p:Id -> Bool):gA p []=[]:=ah
@[simp] theorem KT(p:Id -> Bool)(k:Nat)(a:AV)(r:List (Nat×AV)):gA p ((k,a)::r)=(k,a.killed p)::gA p r:=ah
@[simp] theorem YI(n:Nat)(x:Value):(AV.v x).lt n=True:=ah
@[simp] theorem Tm(n:Nat):AV.any.lt n=True:=ah
@[simp] theorem Tn(n i o:Nat):(AV.box i o).lt n=(i<n):=ah
@[simp] theorem To(n i o k m:Nat):(AV.bsl i o k m).lt n=(i<n):=ah
@[simp] theorem Tr(n i:Nat)(r:Loop)(c:Code)(a:List AV):(AV.yld i r c a).lt n=(i<n /\ cb n a):=ah
@[simp] theorem UP(n:Nat)(cs:List AV):(AV.ro cs).lt n=cb n cs:=ah
@[simp] theorem KU(n k:Nat)(es:List (List AV))(nul:Option Bool)(room:Room):(AV.sl k es nul room).lt n=aK n es:=ah
@[simp] theorem UN(n:Nat)(f:Fn)(a b:List AV):(AV.fn f a b).lt n=(cb n a /\ cb n b):=ah
@[simp] theorem Tl(n:Nat)(cs:List AV):(AV.agg cs).lt n=cb n cs:=ah
@[simp] theorem Tq(n:Nat)(cs:List AV):(AV.tup cs).lt n=cb n cs:=ah
@[simp] theorem Rb(n:Nat):cb n []=True:=ah
@[simp] theorem Pj(n:Nat)(a:AV)(r:List AV):cb n (a::r)=(a.lt n /\ cb n r):=ah
@[simp] theorem Pi(n:Nat):aK n []=True:=ah
@[simp] theorem Mf(n:Nat)(a:List AV)(r:List (List AV)):aK n (a::r)=(cb n a /\ aK n r):=ah
@[simp] theorem Ra{α:Type}(cs:List α)(o:Nat):lay cs o []=cs:=ah
@[simp] theorem Pe{α:Type}(cs:List α)(o:Nat)(a:α)(r:List α):lay cs o (a::r)=lay (cs.set o a) (o+1) r:=ah
@[simp] theorem L6(cs:List AV):ib cs []=some cs:=ah
@[simp] theorem KQ(cs:List AV)(off size:Nat)(a:AV)(r:List (Nat×Nat×AV)):ib cs ((off,size,a)::r)=(match a.cells with |some l=>if l.length=size /\ off+size <= cs.length then ib (lay cs off (l.map AV.unown)) r else none |none=>none):=ah
@[simp] theorem KO(k:Nat)(l:List AV):cC k 0 l=[]:=ah
@[simp] theorem wO(k n:Nat)(l:List AV):cC k (n+1) l=l.take k::cC k n (l.drop k):=ah
@[simp] theorem Pm(k:Nat)(z:List AV):CP k z 0=[]:=ah
@[simp] theorem Pk(k n:Nat)(z:List AV):CP k z (n+1)=z++CP k z n:=ah
def tY(x:Int)(r:List Int):Int:=r.foldl (fun m y=>if y<m then y else m) x
@[simp] theorem Mh(x:Int)(r:List Int):GO (x::r)=some (tY x r):=ah
def tX(x:Int)(r:List Int):Int:=r.foldl (fun m y=>if y>m then y else m) x
@[simp] theorem Mg(x:Int)(r:List Int):GN (x::r)=some (tX x r):=ah
@[simp] theorem Ks{n:Int}:∀(x:Int) (r:List Int),tX x r <= n↔x <= n /\ ∀ y∈r,y <= n
 | x,[]=>by simp[tX]
 | x,y::r=>by
  have ih:=Ks (n:=n) (if y>x then y else x) r
  have e:tX x (y::r)=tX (if y>x then y else x) r:=rfl
  rw[e,ih,List.forall_mem_cons]
  split
  ·exact⟨fun h=>⟨by omega,h⟩,fun h=>h.2⟩
  ·exact⟨fun h=>⟨h.1,by omega,h.2⟩,fun h=>⟨h.1,h.2.2⟩⟩
@[simp] theorem Pb: qF [] [] []=some true:=ah
@[simp] theorem L5(t:Nat)(ts:List Nat)(a b:AV)(r q:List AV):qF (t::ts) (a::r) (b::q)=(match Ss t a b,qF ts r q with |some x,some y=>some (x&&y) |_,_=>none):=ah
@[simp] theorem L4(s:St):rh s []=True:=ah
@[simp] theorem KN(s:St)(x:XOp)(r:List XOp):rh s (x::r)=((cl s x).ok /\ rh s r):=ah
@[simp] theorem KP(own:Bool)(i:Nat):cY own i []=[]:=ah
@[simp] theorem Jf(own:Bool)(i:Nat)(a:AV)(r:List AV):cY own i (a::r)=(bif a.idOf.isSome==own then(i,a)::cY own (i+1) r else cY own (i+1) r):=ah
@[simp] theorem Re(k k':Nat)(es es':List (List AV))(nul nul':Option Bool)(room room':Room):weak (.sl k es nul room) (.sl k' es' nul' room')=((k=k' \/ (es=[] /\ room'=.no)) /\ cK es es' /\ iq nul nul' /\ (room'=.no \/ room'=room)):=ah
@[simp] theorem Pn(cs ds:List AV):weak (.agg cs) (.agg ds)=dJ cs ds:=ah
@[simp] theorem Po(cs ds:List AV):weak (.tup cs) (.tup ds)=dJ cs ds:=ah
@[simp] theorem Ts(x y:Value):weak (.v x) (.v y)=(x=y):=ah
@[simp] theorem Tp(n:Nat)(t:TypeId)(a:AV):(AV.ifc t a).lt n=a.lt n:=ah
@[simp] theorem Rc(k i n:Nat)(o:Bool):(AV.itr i none n o).lt k=(i<k /\ True):=ah
@[simp] theorem Rd(k i j n:Nat)(o:Bool):(AV.itr i (some j) n o).lt k=(i<k /\ j<k):=ah
@[simp] theorem UO(k i n:Nat)(o:Bool):(AV.mp i n o).lt k=(i<k):=ah
@[simp] theorem KV(a b:AV)(r q:List AV):dJ (a::r) (b::q)=(weak a b /\ dJ r q):=ah
@[simp] theorem Jg(a b:List AV)(r q:List (List AV)):cK (a::r) (b::q)=(dJ a b /\ cK r q):=ah
@[simp] theorem Pf(i j:Nat):kz i j [] []=True:=ah
@[simp] theorem Mc(i j:Nat)(a b:AV)(r q:List AV):kz i j (a::r) (b::q)=(LeqV (.cell i j) a b /\ kz i (j+1) r q):=ah
@[simp] theorem Ph(s:St)(n:Nat):AN s n []=True:=ah
@[simp] theorem Me(s:St)(n:Nat)(p:Nat×AV)(r:List (Nat×AV)):AN s n (p::r)=((LeqV (.slot p.1) (s.look p.1) p.2 /\ p.2.lt n) /\ AN s n r):=ah
@[simp] theorem Pg(s:St)(n:Nat):AM s n []=True:=ah
@[simp] theorem Md(s:St)(n:Nat)(p:Nat×AV)(r:List (Nat×AV)):AM s n (p::r)=((LeqV (.slot p.1) (s.look p.1) p.2 /\ p.2.idOf=none /\ p.2.lt n) /\ AM s n r):=ah
@[simp] theorem Pc(i:Nat):iW i [] []=True:=ah
@[simp] theorem L7(i:Nat)(a b:AV)(r q:List AV):iW i (a::r) (b::q)=(rW i a b /\ iW (i+1) r q):=ah
@[simp] theorem L9: cq [] []=[]:=ah
@[simp] theorem KR(a b:AV)(r q:List AV):cq (a::r) (b::q)=hand a b::cq r q:=ah
@[simp] theorem Ma: bB []=[]:=ah
@[simp] theorem KS(a:AV)(r:List AV):bB (a::r)=(match a.idOf with |some c=>if c.isCell then bB r else c::bB r |none=>bB r):=ah
attribute [simp] St.called St.calledU St.assigned St.stored St.storedAt St.strip St.stripR nh
attribute [simp] OT cV
attribute [simp] kZ eX cutAt to iO BR FE FD BO BN nr tp ti Ss BL BM gM PT tg vC pK lQ np nq th gN xf tm lv BP BQ cl
attribute [simp] OI CB pM enter ng qX bD Id.isCell Id.isNew AL qG newRoom St.sorted St.calm sI Dj sH
attribute [simp] cy cp fA gP jI bX cD cH fresh Val.of Val.bad
section
variable {i:Nat} {r:Loop} {c:Code} {l:List AV}
@[simp] theorem Rk{im:Option Nat}{n:Nat}{o:Bool}:(AV.itr i im n o).unown=.itr i im n o:=rfl
@[simp] theorem WG{im:Option Nat}{n:Nat}{o:Bool}:(AV.itr i im n o).idOf=none:=rfl
@[simp] theorem UK{im:Option Nat}{n:Nat}{o:Bool}:(AV.itr i im n o).one=true:=rfl
@[simp] theorem SZ{d:Id}{im:Option Nat}{n:Nat}{o:Bool}(a:AV):LeqV d a (.itr i im n o)=weak a (.itr i im n o):=rfl
@[simp] theorem SA(k:Nat){im:Option Nat}{n:Nat}{o:Bool}(a:AV):rW k a (.itr i im n o)=weak a (.itr i im n o):=rfl
@[simp] theorem TG{n:Nat}{o:Bool}:(AV.mp i n o).unown=.mp i n o:=rfl
@[simp] theorem YX{n:Nat}{o:Bool}:(AV.mp i n o).idOf=none:=rfl
@[simp] theorem YG{n:Nat}{o:Bool}:(AV.mp i n o).one=true:=rfl
@[simp] theorem Sn{n:Nat}{o:Bool}:(AV.mp i n o).cells=some [.mp i n o]:=rfl
@[simp] theorem UE{d:Id}{n:Nat}{o:Bool}(a:AV):LeqV d a (.mp i n o)=weak a (.mp i n o):=rfl
@[simp] theorem Ut(k:Nat){n:Nat}{o:Bool}(a:AV):rW k a (.mp i n o)=weak a (.mp i n o):=rfl
@[simp] theorem Rm:(AV.yld i r c l).unown=.yld i r c l:=rfl
@[simp] theorem WJ:(AV.yld i r c l).idOf=none:=rfl
@[simp] theorem S7{d:Id}(a:AV):LeqV d a (.yld i r c l)=weak a (.yld i r c l):=rfl
@[simp] theorem SC(n:Nat)(a:AV):rW n a (.yld i r c l)=weak a (.yld i r c l):=rfl
theorem ag{L:Nat}{H:List (List AV)}(h:H.length=L):iI 0 (H.take L) H:=by
 rw[<- h,List.take_length];exact cy _ _
end
section
variable {P:Program} {m:Frm}
theorem bF{α:Type}{o:Option α}{k k':α -> Prop}(hk:∀ a,k a -> k' a)(h:aP o k):aP o k':=by
 cases o with
 | none=>exact h
 | some a=>exact hk a h
theorem B8{s:St}{d:Option Nat}{v:AV}{K K':St -> Prop}(hK:∀ s,K s -> K' s)(h:vI s d v K):vI s d v K':=by
 unfold vI at h ⊢
 split at h
 ·exact hK _ h
 ·exact bF (fun q h=>bF (fun p h=>⟨h.1,h.2.1,h.2.2.1,fun hh=>hK _ (h.2.2.2.1 hh),fun a ha hn=>hK _ (h.2.2.2.2 a ha hn)⟩) h) h
 ·exact h.elim
theorem tB{f:FuncId}{args:List AV}{s:St}{d:Option Nat}{K K':St -> List Nat -> Prop}(hK:∀ s l,K s l -> K' s l)(h:my P f args s d K):my P f args s d K':=by
 rcases h with h |h
 ·obtain⟨bs,r,h',wr,h1,h2,h3,h4⟩:=h
  exact .inl ⟨bs,r,h',wr,h1,h2,h3,hK _ _ h4⟩
 ·obtain⟨bs,r,h',wr,hh,h0,h1,h2,h3,h4⟩:=h
  exact .inr ⟨bs,r,h',wr,hh,h0,h1,h2,h3,hK _ _ h4⟩
theorem fB{d:Option Nat}{op:XOp}{s:St}{K K':St -> List Nat -> Prop}(hK:∀ s l,K s l -> K' s l)(h:ba P d op s K):ba P d op s K':=by
 cases op with
 | assign x=>cases d with
  | none=>exact h
  | some d=>exact hK _ _ h
 | alloc z=>exact hK _ _ h
 | box x=>exact bF (fun _ h=>hK _ _ h) h
 | buildSlice k len z parts=>exact bF (fun _ h=>hK _ _ h) h
 | store n p x=>exact bF (fun _ h=>hK _ _ h) h
 | append k b a x=>exact mv hK h
 | appendN k b x =>
  rcases h with h |h
  ·exact .inl (mv hK h)
  ·refine .inr ?_
   unfold jT at h ⊢
   split at h
   ·exact⟨h.1,h.2.1,h.2.2.1,h.2.2.2.1,h.2.2.2.2.1,hK _ _ h.2.2.2.2.2⟩
   ·exact h.elim
 | s2b x =>
  unfold ba Fe at h ⊢
  dsimp only at h ⊢
  split at h
  ·exact⟨h.1,hK _ _ h.2⟩
  ·exact h.elim
 | appendS a x =>
  unfold ba jp at h ⊢
  dsimp only at h ⊢
  split at h
  ·exact⟨h.1,h.2.1,hK _ _ h.2.2⟩
  ·exact h.elim
 | makeMap n one=>exact hK _ _ h
 | emptyS k=>exact hK _ _ h
 | clearM n one x =>
  unfold ba jU at h ⊢
  dsimp only at h ⊢
  split at h
  ·exact hK _ _ h
  ·exact⟨h.1,bF (fun _ h=>hK _ _ h) h.2⟩
  ·exact h.elim
 | clearS z x =>
  unfold ba lz at h ⊢
  dsimp only at h ⊢
  split at h
  ·exact⟨h.1,hK _ _ h.2⟩
  ·exact⟨h.1,bF (fun _ h=>⟨h.1,hK _ _ h.2⟩) h.2⟩
  ·exact h.elim
 | makeS k bytes c =>
  unfold ba xm at h ⊢
  dsimp only at h ⊢
  split at h
  ·exact⟨h.1,h.2.1,h.2.2.1,hK _ _ h.2.2.2⟩
  ·exact h.elim
 | makeB k bytes z c =>
  unfold ba xl at h ⊢
  dsimp only at h ⊢
  split at h
  ·exact⟨h.1,h.2.1,h.2.2.1,hK _ _ h.2.2.2⟩
  ·exact h.elim
 | mapUpd ks n one m k x =>
  unfold ba jW at h ⊢
  dsimp only at h ⊢
  split at h
  ·exact⟨h.1,h.2.1,bF (fun _ h=>⟨h.1,bF (fun _ h=>hK _ _ h) h.2⟩) h.2.2⟩
  ·exact h.elim
 | mapDel ks n one m k =>
  unfold ba jV at h ⊢
  dsimp only at h ⊢
  split at h
  ·exact⟨h.1,hK _ _ h.2⟩
  ·exact⟨h.1,h.2.1,bF (fun _ h=>⟨h.1,hK _ _ h.2⟩) h.2.2⟩
  ·exact h.elim
 | rangeM n one x =>
  unfold ba pe at h ⊢
  dsimp only at h ⊢
  split at h
  ·exact hK _ _ h
  ·exact⟨h.1,bF (fun _ h=>hK _ _ h) h.2⟩
  ·exact h.elim
 | call f args=>exact tB hK h
 | callv x args =>
  unfold ba nt at h ⊢
  dsimp only at h ⊢
  split at h
  ·exact⟨h.1,tB hK h.2⟩
  ·exact h.elim
 | _=>exact⟨h.1,hK _ _ h.2⟩
theorem Fc{d:Option Nat}{op:XOp}{s:St}{K K':St -> List Nat -> Prop}(hK:∀ s l,K s l -> K' s l)(h:br P d op s K):br P d op s K':=by
 cases op with
 | callv x args =>
  unfold br iD at h ⊢
  dsimp only at h ⊢
  split at h
  ·rename_i i r c slots hg
   obtain⟨bs,res,h',wr,h1,h2,h3,h4⟩:=h
   exact⟨bs,res,h',wr,h1,h2,h3,hK _ _ h4⟩
  ·exact fB (op:=.callv x args) hK h
 | _=>rw[nu (fun y args e=>by cases e)] at h ⊢;exact fB hK h
theorem dh{α:Option Bool}{A A' B B':Prop}(ha:A -> A')(hb:B -> B')(h:cB α A B):cB α A' B':=by
 unfold cB at h ⊢
 split at h
 ·exact ha h
 ·exact hb h
 ·exact h
theorem lS:∀ {xs:List XOper} {s:St} {ld:List Nat} {K K':St -> List Nat -> Prop},(∀ s l,K s l -> K' s l) -> gR P xs s ld K -> gR P xs s ld K'
 | [],s,ld,K,K',hK,h=>hK _ _ h
 | o::r,s,ld,K,K',hK,h=>by
  unfold gR at h ⊢
  exact dh (fun h=>Fc (fun s l h=>lS hK h) h) (fun h=>lS hK h) h
theorem bJ:∀ {t:XTree} {s:St} {ld:List Nat} {K K':St -> Prop},(∀ s,K s -> K' s) -> bV P t s ld K -> bV P t s ld K'
 | .done,s,ld,K,K',hK,h=>hK _ h
 | .take o t,s,ld,K,K',hK,h=>by
  unfold bV iP at h ⊢
  exact dh (fun h=>fB (fun s l h=>bJ hK h) h) (fun h=>bJ hK h) h
 | .only o t,s,ld,K,K',hK,h=>by
  unfold bV eJ at h ⊢
  exact dh (fun h=>fB (fun s l h=>⟨h.1,bJ hK h.2⟩) h) (fun h=>bJ hK h) h
 | .last o,s,ld,K,K',hK,h=>by
  unfold bV at h ⊢
  exact dh (fun h=>fB (fun s l h=>hK _ h) h) (fun h=>hK _ h) h
 | .two o p t u,s,ld,K,K',hK,h=>by
  unfold bV eJ at h ⊢
  exact⟨dh (fun h=>fB (fun s l h=>⟨h.1,bJ hK h.2⟩) h) (fun h=>bJ hK h) h.1,dh (fun h=>fB (fun s l h=>⟨h.1,bJ hK h.2⟩) h) (fun h=>bJ hK h) h.2⟩
 | .alt o t u,s,ld,K,K',hK,h=>by
  unfold bV eJ at h ⊢
  exact⟨dh (fun h=>fB (fun s l h=>⟨h.1,bJ hK h.2⟩) h) (fun h=>bJ hK h) h.1,bJ hK h.2⟩
theorem jk{k k':St -> Prop}{K K':XExit -> St -> Prop}(hk:∀ s,k s -> k' s)(hK:∀ e s,K e s -> K' e s):∀ e s,XExit.then k K e s -> XExit.then k' K' e s
 | .normal,s,h=>hk s h
 | .exit _,s,h=>hK _ s h
 | .ret,s,h=>hK _ s h
theorem di:∀ {c:XCode} {s:St} {K K':XExit -> St -> Prop},(∀ e s,K e s -> K' e s) -> eO P m c s K -> eO P m c s K'
 | .skip,s,K,K',hK,h=>hK _ _ h
 | .ops xs,s,K,K',hK,h=>lS (fun s _ h=>hK _ s h) h
 | .draws t,s,K,K',hK,h=>bJ (fun s h=>hK _ s h) h
 | .seq a b,s,K,K',hK,h=>di (c:=a) (jk (fun s h=>di (c:=b) hK h) hK) h
 | .cond x a b,s,K,K',hK,h=>by
  unfold eO vH at h ⊢
  split at h
  ·exact⟨fun e=>di hK (h.1 e),fun e=>di hK (h.2 e)⟩
  ·exact h.elim
 | .block id a,s,K,K',hK,h=>by
  refine di (c:=a) (fun e s h=>?_) h
  cases e with
  | normal=>exact hK _ _ h
  | ret=>exact hK _ _ h
  | exit i =>
   unfold XExit.inBlock at h ⊢
   dsimp only at h ⊢
   split at h
   ·rename_i e;rw[if_pos e];exact hK _ _ h
   ·rename_i e;rw[if_neg e];exact hK _ _ h
 | .loop a,s,K,K',hK,h=>by
  obtain⟨D,inv,μ,h1,h2⟩:=h
  exact⟨D,inv,μ,h1,fun d=>di (c:=a) (jk (fun s h=>h) hK) (h2 d)⟩
 | .range x ps a b,s,K,K',hK,h=>by
  obtain⟨h1,h2,g,cap,n,xs,all,R,e,H,wr,h3,E,q1,q2,q3,q4,q5,q6,q7,q8,q9,q10,q11⟩:=h
  exact⟨h1,h2,g,cap,n,xs,all,R,e,H,wr,h3,E,q1,q2,q3,q4,q5,q6,q7,q8,q9,fun ha=>hK _ _ (q10 ha),fun ha=>⟨(q11 ha).1,hK _ _ (q11 ha).2⟩⟩
 | .exit id,s,K,K',hK,h=>hK _ _ h
 | .ret,s,K,K',hK,h=>hK _ _ h
 | .cut a,s,K,K',hK,h=>by
  obtain⟨s2,h1,h2⟩:=h
  exact⟨s2,h1,di (c:=a) hK h2⟩
 | .mark a,s,K,K',hK,h=>di (c:=a) hK h
 | .nexts d x xs,s,K,K',hK,h=>B8 (fun s h=>lS (fun s _ h=>hK _ s h) h) h
 | .sortr t d e g,s,K,K',hK,h=>by
  obtain⟨us,us',k,nul,room,h1,h2,h3,h4,h5,h6⟩:=h
  exact⟨us,us',k,nul,room,h1,h2,h3,h4,h5,hK _ _ h6⟩
 | .sortf t d x d2 e g,s,K,K',hK,h=>by
  obtain⟨us,us',k,nul,room,h1,h2,h3,h4,h5,h6,h7⟩:=h
  exact⟨us,us',k,nul,room,h1,h2,h3,h4,h5,h6,hK _ _ h7⟩
theorem gT{a b:XCode}{s:St}{K:XExit -> St -> Prop}(s2:St)(ha:eO P m a s (XExit.then (fun s'=>Leq m.h.length s' s2) K))(hb:eO P m b s2 K):eO P m (.mark (.seq a (.cut b))) s K :=
 di (c:=a) (jk (fun _ h=>⟨s2,.inl h,hb⟩) fun _ _ h=>h) ha
theorem vK{β:Type}{a b:XCode}{s:St}{K:XExit -> St -> Prop}(S:β -> St)(ha:eO P m a s (XExit.then (fun s'=>∃ d,Leq m.h.length s' (S d)) K))(hb:∀ d,eO P m b (S d) K):eO P m (.mark (.seq a (.cut b))) s K :=
 di (c:=a) (jk (fun _ h=>by obtain⟨d,hd⟩:=h;exact⟨S d,.inl hd,hb d⟩) fun _ _ h=>h) ha
theorem tC{a b:XCode}{s:St}{K:XExit -> St -> Prop}(i:Nat)(cs:List AV)(s2:St)(hi:m.h.length <= i)(hne:frzOk cs)(ha:eO P m a s (XExit.then (fun s'=>s'.heap[i]?=some cs /\ Leq m.h.length (s'.frz i cs) s2) K))(hb:eO P m b s2 K):eO P m (.mark (.seq a (.cut b))) s K :=
 di (c:=a) (jk (fun _ h=>⟨s2,.inr ⟨i,cs,hi,h.1,hne,h.2⟩,hb⟩) fun _ _ h=>h) ha
theorem TN{a:XCode}{s:St}{K:XExit -> St -> Prop}(h:eO P m a s K):eO P m (.mark a) s K:=h
end
def am{α:Type}(f:α -> List AV)(l:List α):List (List AV):=l.map f
section
variable {α:Type} (f:α -> List AV)
@[simp] theorem Ur:am f []=[]:=rfl
@[simp] theorem dF(x:α)(l:List α):am f (x::l)=f x::am f l:=rfl
@[simp] theorem Oi(l m:List α):am f (l++m)=am f l++am f m:=by simp[am]
@[simp] theorem Om(l:List α):(am f l).length=l.length:=by simp[am]
@[simp] theorem LR(l:List α)(j:Nat)(hj:j<(am f l).length):(am f l)[j]=f (l[j]'(by simpa using hj)):=by simp[am]
@[simp] theorem Ol(l:List α):am f l=[]↔l=[]:=by simp[am]
theorem Ga(l:List α)(n:Nat):(am f l).take n=am f (l.take n):=by simp[am]
theorem F8(l:List α)(n:Nat):(am f l).drop n=am f (l.drop n):=by simp[am]
theorem dd(n:Nat)(h:∀ x,cb n (f x)):∀ l:List α,aK n (am f l)
 | []=>trivial
 | x::l=>⟨h x,dd n h l⟩
theorem cN{l:List α}{j:Nat}(hj:j<l.length):l.take (j+1)=l.take j++[l[j]]:=by
 rw[List.take_add_one,aac hj];rfl
end
@[simp] theorem MW:ai []=[]:=rfl
@[simp] theorem LL(x:UInt8)(l:List UInt8):ai (x::l)=[.v (.int .u8 (x.toNat:Int))]::ai l:=rfl
@[simp] theorem dC(l m:List UInt8):ai (l++m)=ai l++ai m:=by simp[ai]
@[simp] theorem ma(l:List UInt8):(ai l).length=l.length:=by simp[ai]
@[simp] theorem Ja(l:List UInt8):ai l=[]↔l=[]:=by simp[ai]
@[simp] theorem FN(l:List UInt8)(j:Nat)(hj:j<(ai l).length):(ai l)[j]=[.v (.int .u8 (((l[j]'(by simpa using hj)).toNat:Nat):Int))]:=by simp[ai]
theorem pQ(l:List UInt8)(n:Nat):(ai l).take n=ai (l.take n):=by simp[ai]
theorem pP(l:List UInt8)(n:Nat):(ai l).drop n=ai (l.drop n):=by simp[ai]
def aX(n:Int):List AV:=[.v (.int .i64 n)]
def lW(s:List UInt8):List AV:=[.v (.string (af s))]
@[simp] theorem lO(xs:List UInt8):(af xs).data.toList=xs:=by simp[af]
@[simp] theorem UQ(xs:List UInt8):(af xs).size=xs.length:=ej xs
@[simp] theorem Rf(xs:List UInt8):(af xs).toList=xs:=zl xs
@[simp] theorem TA(xs ys:List UInt8):af xs++af ys=af (xs++ys):=by
 apply ByteArray.ext;simp[af]
@[simp] theorem Q3(n:Nat)(l:List Int):aK n (am aX l):=dd aX n (fun _=>⟨trivial,trivial⟩) l
@[simp] theorem Q5(n:Nat)(l:List (List UInt8)):aK n (am lW l):=dd lW n (fun _=>⟨trivial,trivial⟩) l
theorem jC{h:List (List AV)}{i:Nat}{cs:List AV}(hi:h[i]?=some cs):i<h.length:=(aaa.1 hi).1
theorem ao{n:Nat}{h:List (List AV)}(hh:aK n h){i:Nat}{cs:List AV}(hc:cb n cs):aK n (h.set i cs) :=
 nR fun j e he=>by
  rw[List.getElem?_set] at he
  split at he
  ·split at he
   ·injection he with he;subst he;exact hc
   ·cases he
  ·exact dH hh j e he
theorem GH{h:List (List AV)}{i:Nat}{a b:List AV}(hab:kz i 0 a b):iI 0 (h.set i a) (h.set i b):=by
 have key:∀(h:List (List AV)) (k i:Nat),kz (k+i) 0 a b -> iI k (h.set i a) (h.set i b):=fun h=>by
  induction h with
  | nil=>intro k i _;trivial
  | cons c r ih =>
   intro k i hh
   cases i with
   | zero=>exact⟨.inr hh,cy r _⟩
   | succ i=>exact⟨.inl rfl,ih (k+1) i (by rw[show k+1+i=k+(i+1) by omega];exact hh)⟩
 exact key h 0 i (by rw[Nat.zero_add];exact hab)
@[simp] theorem wC(h:List (List AV))(i:Nat)(hi:i<h.length)(a b:List AV):iI 0 (h.set i a) (h.set i b)↔a=b \/ kz i 0 a b:=by
 constructor
 ·intro hh
  obtain⟨_,h2⟩:=sh hh
  right
  obtain⟨cs,h3,h4,h5⟩:=h2 i b (by rw[aag hi])
  rw[aag hi] at h3
  injection h3 with h3
  subst h3
  have key:∀(a b:List AV) (j:Nat),a.length=b.length -> (∀(k:Nat) (y:AV),b[k]?=some y -> ∃ x,a[k]?=some x /\ LeqV (.cell i (j+k)) x y) -> kz i j a b:=fun a=>by
   induction a with
   | nil=>intro b j hl _;cases b with
    | nil=>trivial
    | cons _ _=>simp at hl
   | cons x r ih =>
    intro b j hl hh
    cases b with
    | nil=>simp at hl
    | cons y q =>
     refine⟨?_,ih q (j+1) (by simpa using hl) fun k z hz=>?_⟩
     ·obtain⟨x',h1,h2⟩:=hh 0 y rfl
      simp at h1;subst h1;exact h2
     ·obtain⟨x',h1,h2⟩:=hh (k+1) z (by simpa using hz)
      exact⟨x',by simpa using h1,by rw[show j+1+k=j+(k+1) by omega];exact h2⟩
  exact key a b 0 h4 fun k y hy=>by obtain⟨x,h6,h7⟩:=h5 k y hy;exact⟨x,h6,by simpa using h7⟩
 ·rintro(rfl |hh)
  ·exact cy _ _
  ·exact GH hh
section
variable {α:Type} (h l:List α) (n:Nat) (x:α)
@[simp] theorem U7:(h++l)[h.length+n]?=l[n]?:=by rw[aad (by omega),aam]
@[simp] theorem Ue:(h++l)[h.length]?=l[0]?:=by rw[aad (by omega),aat]
@[simp] theorem Bq:(h++l).set (h.length+n) x=h++l.set n x:=by rw[aaw _ _ (by omega),aam]
@[simp] theorem K4:(h++l).set h.length x=h++l.set 0 x:=by rw[aaw _ _ (by omega),aat]
end
@[simp] theorem Lf{α:Type}(h:List α)(i:Nat)(x:α):aaO h.length (h.set i x)=h.set i x:=aah (by simp)
@[simp] theorem LX{n:Nat}{h:List (List AV)}(hh:aK n h)(i:Nat)(cs:List AV):aK n (h.set i cs)↔cb n cs \/ h.length <= i:=by
 constructor
 ·intro hx
  rcases aau i h.length with h1 |h1
  ·exact .inl (dH hx i cs (aag h1))
  ·exact .inr h1
 ·rintro(h1 |h1)
  ·exact ao hh h1
  ·rw[aal h1];exact hh
@[simp] theorem LV(h:List (List AV))(i:Nat)(a b:List AV):iI 0 (h.set i a) (h.set i b)↔kz i 0 a b \/ h.length <= i:=by
 rcases aau i h.length with h1 |h1
 ·rw[wC h i h1 a b]
  constructor
  ·rintro(rfl |h2)
   ·left
    have key:∀(a:List AV) (j:Nat),kz i j a a:=fun a=>by
     induction a with
     | nil=>intro j;trivial
     | cons x r ih=>intro j;exact⟨ja _ _,ih _⟩
    exact key a 0
   ·exact .inl h2
  ·rintro(h2 |h2)
   ·exact .inr h2
   ·omega
 ·rw[aal h1,aal h1]
  simp[h1]
theorem gH{α:Type}{h:List α}{i:Nat}{x:α}(hi:h[i]?=some x):h.set i x=h:=by
 obtain⟨h1,h2⟩:=aaa.1 hi
 rw[<- h2];exact List.set_getElem_self h1
@[simp] theorem PI{α:Type}(h l:List α)(n:Nat):aaO (h.length+n) (h++l)=h++l.take n:=by rw[aaJ,aah (by omega),aam]
mutual
theorem fN{n m:Nat}(hnm:n <= m):∀ {a:AV},a.lt n -> a.lt m
 | .v _,_=>by simp
 | .any,_=>by simp
 | .box i o,h=>by simp at h ⊢;omega
 | .bsl i o k n,h=>by simp at h ⊢;omega
 | .yld i r c a,h=>by simp at h ⊢;exact⟨by omega,bM hnm h.2⟩
 | .mp i _ _,h=>by simp at h ⊢;omega
 | .ifc t a,h=>by simp at h ⊢;exact fN hnm h
 | .itr i none _ _,h=>by simp at h ⊢;omega
 | .itr i (some j) _ _,h=>by simp at h ⊢;omega
 | .ro cs,h=>by simp at h ⊢;exact bM hnm h
 | .sl k es nul room,h=>by simp at h ⊢;exact aF hnm h
 | .fn f a b,h=>by simp at h ⊢;exact⟨bM hnm h.1,bM hnm h.2⟩
 | .agg cs,h=>by simp at h ⊢;exact bM hnm h
 | .tup cs,h=>by simp at h ⊢;exact bM hnm h
theorem bM{n m:Nat}(hnm:n <= m):∀ {l:List AV},cb n l -> cb m l
 | [],_=>by simp
 | a::r,h=>by simp at h ⊢;exact⟨fN hnm h.1,bM hnm h.2⟩
theorem aF{n m:Nat}(hnm:n <= m):∀ {l:List (List AV)},aK n l -> aK m l
 | [],_=>by simp
 | a::r,h=>by simp at h ⊢;exact⟨bM hnm h.1,aF hnm h.2⟩
end
@[simp] theorem Q4{h:List (List AV)}(hh:aK h.length h)(k:Nat):aK (h.length+k) h:=aF (Nat.le_add_right _ _) hh
section
variable {α:Type} (h l:List α) (n i:Nat) (x y:α)
@[simp] theorem Ir:aaO (h.length+n) (h.set i x++l)=h.set i x++l.take n:=by rw[aaJ,aah (by simp)];simp
theorem aR{h:List α}{i:Nat}(hi:i<h.length)(x:α)(l:List α):(h.set i x++l)[i]?=some x:=by rw[aae (by simpa using hi),aag hi]
theorem aW{h:List α}{i:Nat}(hi:i<h.length)(x y:α)(l:List α):(h.set i x++l).set i y=h.set i y++l:=by rw[aaz _ _ (by simpa using hi),List.set_set]
theorem gV{h:List α}{i:Nat}{x:α}(hi:h[i]?=some x)(l:List α):(h++l)[i]?=some x:=by rw[aae (aaa.1 hi).1,hi]
theorem cE{h:List α}{i:Nat}(hi:i<h.length)(x:α)(l:List α):(h++l).set i x=h.set i x++l:=aaz _ _ hi
end
@[simp] theorem Ud(a b:Nat):(a+b<a)=False:=by simp
attribute [simp] pQ pP Ga F8
@[simp] theorem GG{α:Type}{l:List α}:∀ {cs:List α},cs.length=l.length -> lay cs 0 l=l:=fun {cs} hl=>by
 apply List.ext_getElem?
 intro j
 rw[jE l cs 0 j (by omega)]
 by_cases hj:j<l.length
 ·rw[if_pos ⟨by omega,by omega⟩,aas]
 ·rw[if_neg (by omega),aax (by omega),aax (by omega)]
section
variable {P:Program} {f:FuncId} {args:List AV} {h:List (List AV)}
theorem enters_of{fn:Func}(h1:P.funcs[f]?=some fn)(h2:((fn.name=="runtime.NumGoroutine")||fn.body.isNone)=false):Enters P f:=by
 rw[Bool.or_eq_false_iff] at h2
 exact⟨fn,h1,h2.1,h2.2⟩
def dL(P:Program)(f:FuncId):Bool :=
 match P.funcs[f]? with
 | some fn=>!((fn.name=="runtime.NumGoroutine")||fn.body.isNone)
 | none=>false
theorem dS(h:dL P f=true):Enters P f:=by
 unfold dL at h
 split at h
 ·rename_i fn hfn;exact enters_of hfn (by simpa using h)
 ·cases h
theorem ew(hE:dL P f=true){r:AV}(hr:r.idOf=none)(hc:∀(G:Ghost) (w:World) (vs:List Value),WorldOk G w -> SeesL G args vs -> ∃ v,Sees G r v /\ Calls P f vs.toArray w fun e w'=>e=.returned v /\ w=w'):ae P f args h r h []:=by
 refine⟨dS hE,fun G w vs cls hW hS hvs hown hoh=>?_⟩
 obtain⟨v,hv,hcl⟩:=hc G w vs hW hvs
 refine hcl.mono fun e w' he=>?_
 obtain⟨rfl,rfl⟩:=he
 refine⟨v,G,cls,rfl,Ext.refl G,hW,hS,fun i cs us h1 h2 j c hj=>?_,hv,.none _ hr,fun c hc=>(by rw[hr] at hc;cases hc),fun _ _ _=>rfl,fun _ _ hb _=>hb⟩
 obtain⟨h3,h4⟩:=hoh i cs us h1 h2 j c hj
 exact⟨h3.imp2 fun b y B hB _ _ hcl=>⟨hcl,.inr (.inr ⟨i,cs,us,j,c,h1,h2,hj,hB⟩)⟩,h4⟩
theorem ff(hE:dL P f=true){E:TypeId}{xs:List UInt8}(hc:∀(G:Ghost) (w:World) (vs:List Value),WorldOk G w -> SeesL G args vs -> Calls P f vs.toArray w fun e w'=>∃ v,e=.returned v /\ OwnB E w' w.heap.size v xs /\ Below w.heap.size w w'):ae P f args h (.sl 1 (ai xs) none (.own .res)) h []:=by
 refine⟨dS hE,fun G w vs cls hW hS hvs hown hoh=>?_⟩
 refine(hc G w vs hW hvs).mono fun e w' he=>?_
 obtain⟨v,rfl,⟨_,ho⟩,hb⟩:=he
 have hbelow:Below G.w0.heap.size G.w0 w':=hW.below.trans (hb.mono hW.size)
 have hcell:∀(b j:Nat),b<w.heap.size -> w'.cell? ⟨b,j,none⟩=w.cell? ⟨b,j,none⟩ /\ w'.frozen? ⟨b,j,none⟩=w.frozen? ⟨b,j,none⟩:=fun b j hlt =>
  ⟨World.cell?_of_block (w:=w) (a:=⟨b,j,none⟩) (hb.block b hlt),World.frozen?_of_block (w:=w) (a:=⟨b,j,none⟩) (hb.block b hlt)⟩
 have own_:∀(G':Ghost),G'.boxv=G.boxv -> (∀ b B,G.bufs b=some B -> G'.bufs b=some B) -> ∀ cls':Nat -> Id,(∀ b,b<w.heap.size -> cls' b=cls b) -> xu G' (fun b c=>cls' b=c /\ (G.bufs b=none \/ aQ G args vs h b)) h:=fun G' e1 e2 cls' e3 i cs us h1 h2 j c hj=>by
  rw[e1] at h2
  obtain⟨h3,h4⟩:=hoh i cs us h1 h2 j c hj
  refine⟨h3.move fun b y B hB _ hbB hcl=>⟨e2 b B hbB,?_,.inr (.inr ⟨i,cs,us,j,c,h1,h2,hj,hB⟩)⟩,h4⟩
  rw[e3 b (hW.buf b B hbB).2.1];exact hcl
 rcases ho with⟨rfl,hn⟩ |⟨g,cap,cur,rfl,hg,hrow,hcap,hmax,hcs,htake⟩
 ·
  have hxs:xs=[]:=aai hn
  subst hxs
  have hW':WorldOk G w':=by
   refine⟨hbelow,fun b B hB=>?_,fun i b us h1 h2=>?_,hW.nodup2,hW.len,hW.objK (eC hb)⟩
   ·obtain⟨h1,h2,h3,h4,h5⟩:=hW.buf b B hB
    exact⟨h1,by have:=hb.size;omega,h3,fun j hj=>by rw[(hcell b j h2).1,(hcell b j h2).2];exact h4 j hj,fun j x hx=>by rw[(hcell b j h2).1];exact h5 j x hx⟩
   ·obtain⟨h3,h4,h5,h6⟩:=hW.box i b us h1 h2
    exact⟨h3,by have:=hb.size;omega,h5,fun j x hx=>by rw[(hcell b _ h4).1,(hcell b _ h4).2];exact h6 j x hx⟩
  refine⟨_,G,cls,rfl,Ext.refl G,hW',hS,own_ G rfl (fun _ _ h=>h) cls (fun _ _=>rfl),?_,.inl ⟨rfl,fun _=>rfl⟩,fun c hc=>(by simp[AV.idOf] at hc;exact hc.symm),fun _ _ _=>rfl,fun _ _ hb _=>hb⟩
  exact .sl 1 [] none _ none 0 0 (fun _ _=>undef) rfl ⟨fun _=>⟨rfl,rfl⟩,fun h=>(by cases h),fun h=>(by cases h)⟩ (fun e h=>by simp at h) (aaD _) (by simp[maxLen]) (fun h=>by cases h) (fun h=>by simp at h) (fun i e h=>by simp at h) (fun i j h=>by simp at h)
 ·have hgw:g<w'.heap.size:=by
   rcases aau g w'.heap.size with h1 |h1
   ·exact h1
   ·rw[Array.getElem?_eq_none h1] at hrow;cases hrow
  let G':Ghost:=G.setBuf g ⟨vals xs,cap⟩
  have hnew:∀ j,w'.cell? ⟨g,j,none⟩=cur[j]? /\ (j<cur.size -> w'.frozen? ⟨g,j,none⟩=false):=fun j=>by
   refine⟨cell_of_row _ _ j cur E (0,0) hrow,fun hj=>?_⟩
   simp[World.frozen?,hrow]
  have hbufs:∀ b B,G.bufs b=some B -> G'.bufs b=some B:=fun b B hB=>by
   have:=(hW.buf b B hB).2.1
   show(if b=g then _ else G.bufs b)=_
   rw[if_neg (by omega),hB]
  have hE':Ext G G':=⟨rfl,fun b B hB=>⟨[],by rw[hbufs b B hB,aaK]⟩,⟨[],by rw[aaK];rfl⟩,fun _ _ h=>h,fun _ _ _=>⟨rfl,rfl⟩⟩
  have hcur:cur.size=cap:=by rw[hcs,Nat.mul_one]
  have hvals:∀ j x,(vals xs)[j]?=some x -> w'.cell? ⟨g,j,none⟩=some x:=fun j x hx=>by
   rw[(hnew j).1]
   rw[<- htake,List.getElem?_take] at hx
   split at hx
   ·rw[<- Array.getElem?_toList];exact hx
   ·cases hx
  have hW':WorldOk G' w':=by
   refine⟨hbelow,fun b B hB=>?_,fun i b us h1 h2=>?_,hW.nodup2,hW.len,hW.objK (eC hb)⟩
   ·have hB':(if b=g then some (⟨vals xs,cap⟩:Buf) else G.bufs b)=some B:=hB
    split at hB'
    ·rename_i e
     subst e
     injection hB' with hB'
     subst hB'
     refine⟨by have:=hW.size;show G.w0.heap.size <= _;omega,hgw,by rw[cj];exact hcap,fun j hj=>?_,hvals⟩
     rw[(hnew j).1,(hnew j).2 (by rw[hcur];exact hj),Array.getElem?_eq_getElem (by rw[hcur];exact hj)]
     exact⟨rfl,rfl⟩
    ·obtain⟨h1,h2,h3,h4,h5⟩:=hW.buf b B hB'
     exact⟨h1,by have:=hb.size;omega,h3,fun j hj=>by rw[(hcell b j h2).1,(hcell b j h2).2];exact h4 j hj,fun j x hx=>by rw[(hcell b j h2).1];exact h5 j x hx⟩
   ·obtain⟨h3,h4,h5,h6⟩:=hW.box i b us h1 h2
    refine⟨h3,by have:=hb.size;omega,fun hne=>?_,fun j x hx=>by rw[(hcell b _ h4).1,(hcell b _ h4).2];exact h6 j x hx⟩
    show(if b=g then _ else G.bufs b)=none
    rw[if_neg (by omega)];exact h5 hne
  refine⟨_,G',fun b=>if b=g then .res else cls b,rfl,hE',hW',⟨hS.1,fun i cs us h1 h2=>?_⟩,own_ G' rfl hbufs _ (fun b hlt=>by show(if b=g then _ else _)=_;rw[if_neg (by omega)]),?_,.inr ⟨g,0,⟨vals xs,cap⟩,rfl,?_,?_,?_,?_,?_⟩,fun c hc=>(by simp[AV.idOf] at hc;exact hc.symm),fun _ _ _=>rfl,fun b B hB _=>hbufs b B hB⟩
  ·obtain⟨h3,h4,h5⟩:=hS.2 i cs us h1 h2
   exact⟨h3,h4,fun j c hj=>(h5 j c hj).ext hE'⟩
  ·refine .sl 1 (ai xs) none _ (some ⟨g,0,none⟩) xs.length cap (fun i _=>.int .u8 (bt xs i)) (by simp[ai]) ⟨fun h=>(by cases h),fun h=>(by cases h),fun h=>(by cases h)⟩ (fun e he=>?_) hcap hmax (fun h=>by cases h) (fun _=>⟨g,0,rfl,fun i j hi hj=>?_⟩) (fun i e he j c hj=>?_) (fun _ _ _ _=>rfl)
   ·unfold ai at he;obtain⟨q,_,rfl⟩:=aaC.1 he;rfl
   ·have hi':i<xs.length:=by simpa[ai] using hi
    have hj0:j=0:=by omega
    subst hj0
    unfold Ghost.cell
    rw[if_neg (by have:=hW.size;show ¬g<G.w0.heap.size;omega)]
    show(if g=g then _ else _:Option Buf).bind _=_
    rw[if_pos rfl]
    show(vals xs)[0+i*1+0]?=_
    rw[show 0+i*1+0=i by omega]
    exact eI xs i hi'
   ·have hi':i<xs.length:=by
     have:=(aaa.1 he).1;simpa[ai] using this
    have e1:e=[.v (.int .u8 (bt xs i))]:=by
     unfold ai at he
     rw[aan,aac hi'] at he
     injection he with he
     rw[<- he]
     simp[bt,aab,hi']
    subst e1
    cases j with
    | zero=>simp at hj;subst hj;exact .v _
    | succ j=>simp at hj
  ·show(if g=g then _ else _)=_
   rw[if_pos rfl]
  ·rw[cj];simp
  ·simp
  ·simp
  ·left
   cases hB:G.bufs g with
   | none=>rfl
   | some B=>have:=(hW.buf g B hB).2.1;omega
end
theorem SeesL.one{G:Ghost}{a:AV}{vs:List Value}(h:SeesL G [a] vs):∃ x,vs=[x] /\ Sees G a x:=by
 obtain⟨x,rfl⟩:=aao.1 h.1
 exact⟨x,rfl,h.2 0 a rfl⟩
theorem SeesL.split{G:Ghost}{a:AV}{l:List AV}{vs:List Value}(h:SeesL G (a::l) vs):∃ x r,vs=x::r /\ Sees G a x /\ SeesL G l r:=by
 cases vs with
 | nil=>have:=h.1;simp at this
 | cons x r=>exact⟨x,r,rfl,h.tail⟩
theorem SeesL.none{G:Ghost}{vs:List Value}(h:SeesL G [] vs):vs=[]:=aai h.1
theorem Sees.bytes{G:Ghost}{k:Nat}{bs:List UInt8}{nul:Option Bool}{room:Room}{x:Value}(h:Sees G (.sl k (ai bs) nul room) x){w:World}(hW:WorldOk G w):∃ a cap,x=.slice a bs.length cap /\ (a=none -> cap=0) /\ bs.length <= cap /\ cap <= maxLen /\ BytesAt w w.heap.size a bs:=by
 have h0:=h
 cases h with
 | sl _ _ _ _ a len cap u hlen hn hk hcap hm =>
  obtain⟨e,hb⟩:=sW (gM bs) h0 hW
  subst e
  exact⟨a,cap,rfl,fun ha=>(hn.1 ha).1,hcap,hm,hb⟩
theorem uD:∀ {n:Nat} {l:List AV},(∀ c∈l,c.idOf=none) -> iW n l l
 | _,[],_=>trivial
 | n,c::_,h=>⟨DV n (h c (aaf ..)),uD fun x hx=>h x (aaj _ hx)⟩
theorem mP:∀ {l:List AV},(∀ c∈l,c.idOf=none) -> cq l l=l
 | [],_=>rfl
 | c::r,h=>by
  show hand c c::cq r r=c::r
  rw[D8 (h c (aaf ..)),mP fun x hx=>h x (aaj _ hx)]
theorem bI:∀ {l:List AV},(∀ c∈l,c.idOf=none) -> bB l=[]
 | [],_=>rfl
 | c::_,h=>by
  rw[gv,h c (aaf ..)]
  exact bI fun x hx=>h x (aaj _ hx)
theorem aa{P:Program}{f:FuncId}{args:List AV}{s:St}{d:Option Nat}{K:St -> List Nat -> Prop}{r:AV}{h':List (List AV)}{wr:List Nat}(hn:∀ c∈args,c.idOf=none)(hc:ae P f args s.heap r h' wr)(hk:K (s.called args d r h' wr) []):my P f args s d K :=
 ak hc (uD hn) (by rw[mP hn,bI hn];exact aaL) (by rw[mP hn];exact hk)
def oG(c:Nat)(b:Bool)(x:XOper):XOper:=⟨x.dst,x.op,some (c,b)⟩
def oX(d:Nat)(x:XOp):XOper:=⟨some d,x,none⟩
def oM(d a:Nat):XOper:=⟨some d,.move (.tmp a),none⟩
def oA(d a:Nat):XOper:=⟨some d,.assign (.tmp a),none⟩
def oK(d:Nat)(v:Value):XOper:=⟨some d,.assign (.const v),none⟩
def oN(d:Nat):XOper:=⟨some d,.assign (.const (.slice none 0 0)),none⟩
def oF(d k a:Nat):XOper:=⟨some d,.faddr k (.tmp a),none⟩
def oL(d a:Nat):XOper:=⟨some d,.load1 (.tmp a),none⟩
def oP(d k a:Nat):XOper:=⟨some d,.loadN k (.tmp a),none⟩
def oE(d a k:Nat):XOper:=⟨some d,.extract (.tmp a) k,none⟩
def oB(d:Nat)(o:BinOp)(a b:Nat):XOper:=⟨some d,.bin o (.tmp a) (.tmp b),none⟩
def oI(d:Nat)(o:BinOp)(a:Nat)(v:Value):XOper:=⟨some d,.bin o (.tmp a) (.const v),none⟩
def oC(d f:Nat)(l:List Nat):XOper:=⟨some d,.call f (l.map .tmp),none⟩
def oS(n a b:Nat):XOper:=⟨none,.store n (.tmp a) (.tmp b),none⟩
def oZ(d:Nat)(z:List AV):XOper:=⟨some d,.alloc z,none⟩
def oY(d i a b:Nat):XOper:=⟨some d,.pick (.tmp i) (.tmp a) (.tmp b),none⟩
def oT(d i a:Nat):XOper:=⟨some d,.pick (.tmp i) (.tmp a) (.const (.bool false)),none⟩
def oU(d i a:Nat):XOper:=⟨some d,.pick (.tmp i) (.const (.bool true)) (.tmp a),none⟩
def oW(d k a b:Nat):XOper:=⟨some d,.iaddr k (.tmp a) (.tmp b),none⟩
def oH(d a:Nat):XOper:=⟨some d,.lenL (.tmp a),none⟩
def oV(d a:Nat):XOper:=⟨some d,.un .not (.tmp a),none⟩
def oJ(d a:Nat):XOper:=⟨some d,.box (.tmp a),none⟩
def oQ(n a:Nat)(v:Value):XOper:=⟨none,.store n (.tmp a) (.const v),none⟩
def oR(d k n a:Nat)(z:List AV):XOper:=⟨some d,.buildSlice k n z [(0,.tmp a)],none⟩
def oD(d k:Nat)(z:List AV)(a:Nat):XOper:=⟨some d,.build z [(k,1,.tmp a)],none⟩
attribute [simp] oG oX oM oA oK oN oF oL oP oE oB oI oC oS oZ oY oT oU oW oH oV oJ oQ oR oD
abbrev d4:=List (List AV)
abbrev d5:=List UInt8
def bZ:List AV:=[.v (.int .u8 0),.v (.int .u8 0),.v (.string (af [])),.v (.string (af [])),.v (.string (af [])),.v (.int .i64 0),.v (.int .i64 0),.sl 0 [] (some true) .exact,.sl 0 [] (some true) .exact,.sl 0 [] (some true) .exact,.sl 0 [] (some true) .exact]
def iQ:List AV:=[.v (.int .u8 0),.v (.int .u8 0),.v (.string (af [])),.v (.string (af [])),.v (.string (af [])),.sl 0 [] (some true) .exact,.sl 0 [] (some true) .exact,.sl 0 [] (some true) .exact,.sl 0 [] (some true) .exact,.v (.int .i64 0)]
def dA:List AV:=[.v (.int .u8 0),.sl 0 [] (some true) .exact]
def tE:List AV:=[.v (.string (af [])),.sl 0 [] (some true) .exact,.sl 0 [] (some true) .exact,.sl 0 [] (some true) .exact,.v (.bool false),.v (.bool false)]
def jX:List AV:=[.v (.string (af [])),.v (.string (af []))]
def nv:List AV:=[.v (.int .i64 0),.v (.int .i64 0),.v (.string (af []))]
def xo:List AV:=[.v (.int .i64 0),.v (.int .i64 0),.v (.int .i64 0),.sl 0 [] (some true) .exact]
def pg:List AV:=[.v (.bool false),.sl 0 [] (some true) .exact]
def qJ:List AV:=[.v (.string (af [])),.sl 0 [] (some true) .exact]
def I9:List AV:=[.v (.string (af [])),.v (.int .i64 0),.v (.int .i64 0),.v (.int .i64 0),.v (.int .i64 0),.v (.int .i64 0),.v (.int .i64 0)]
def tD:List AV:=[.v (.int .u8 0),.v (.string (af []))]
def ky:List AV:=[.v (.int .u8 0)]
def qu:List AV:=[.v (.string (af []))]
def mz:List AV:=[.v (.int .i64 0)]
def vL:List AV:=[.sl 0 [] (some true) .exact]
def qw:List AV:=[.v (.pointer none)]
attribute [simp] bZ iQ dA tE jX nv xo pg qJ I9 tD ky qu mz vL qw
theorem wrap64{n:Int}(h1 : -9223372036854775808 <= n)(h2:n <= 9223372036854775807):IntKind.i64.wrap n=n:=by
 simp only[IntKind.wrap]
 simp[IntKind.bits,IntKind.signed]
 omega
theorem ap{P:Program}{m:Frm}{a:XCode}{s:St}{K:XExit -> St -> Prop}{D:Type}(inv:D -> St)(ok:D -> Prop)(μ:D -> Nat)(d0:D)(hd:ok d0)(h0:Leq m.h.length s (inv d0))(hr:∀ d,ok d -> eO P m a (inv d) (XExit.then (fun s'=>∃ d',ok d' /\ μ d'<μ d /\ Leq m.h.length s' (inv d')) K)):eO P m (.loop a) s K:=by
 refine I4 (D:={ d:D // ok d }) (fun d=>inv d.1) (fun d=>μ d.1) ⟨d0,hd⟩ h0 fun d=>?_
 have e:(fun s'=>∃ d':{ d:D // ok d },μ d'.1<μ d.1 /\ Leq m.h.length s' (inv d'.1))=fun s'=>∃ d',ok d' /\ μ d'<μ d.1 /\ Leq m.h.length s' (inv d'):=by
  funext s'
  exact propext ⟨fun⟨d',h1,h2⟩=>⟨d'.1,d'.2,h1,h2⟩,fun⟨d',h1,h2,h3⟩=>⟨⟨d',h1⟩,h2,h3⟩⟩
 rw[e]
 exact hr d.1 d.2
end Ax
namespace Ax
open Go.RowKit Go.Deep Go.ChangeShapes Go.WideShapes Go.ChangeAt Go.Joins Go By
def G0(w:World):Ghost:=⟨w,fun _=>none,[],[],fun _=>none,fun _=>(none,0),fun _=>0⟩
theorem RX(w:World)(hd:Dom w):WorldOk (G0 w) w:=⟨Below.refl _ _,fun b B h=>(by cases h),fun i b vs h=>(by simp[G0] at h),⟨fun i j b h=>(by simp[G0] at h),hd⟩,rfl,fun b o h=>(by cases h),fun i b vs κ h=>(by simp[G0] at h),fun b h=>absurd rfl h,fun b j h=>absurd h (Nat.not_lt_zero j)⟩
theorem Jk{w:World}{b o:Nat}{x:Value}(h:w.cell? ⟨b,o,none⟩=some x):(G0 w).cell b o=some x:=by
 have hb:b<w.heap.size:=mS h
 unfold Ghost.cell G0
 rw[if_pos hb,h]
def SeesCs(G:Ghost)(es:List AV)(cs:List Value):Prop:=cs.length=es.length /\ (∀ x∈cs,x.oneCell'=true) /\ ∀ j c,es[j]?=some c -> Sees G c (cs.getD j undef)
theorem SeesCs.one{G:Ghost}{a:AV}{x:Value}(h1:x.oneCell'=true)(h:Sees G a x):SeesCs G [a] [x] :=
 ⟨rfl,fun y hy=>by simp at hy;subst hy;exact h1,fun j c hj=>by cases j with |zero=>simp at hj;subst hj;exact h |succ j=>simp at hj⟩
theorem SeesCs.append{G:Ghost}{es fs:List AV}{cs ds:List Value}(h:SeesCs G es cs)(k:SeesCs G fs ds):SeesCs G (es++fs) (cs++ds):=by
 refine⟨by simp[h.1,k.1],fun x hx=>?_,fun j c hj=>?_⟩
 ·rcases List.mem_append.1 hx with hx |hx
  ·exact h.2.1 x hx
  ·exact k.2.1 x hx
 ·rcases aau j es.length with hl |hl
  ·rw[aae hl] at hj
   have:=h.2.2 j c hj
   rwa [aab,aae (by rw[h.1];exact hl),<- aab]
  ·rw[aad hl] at hj
   have:=k.2.2 _ c hj
   rwa [aab,aad (by rw[h.1];exact hl),h.1,<- aab]
theorem SeesCs.single{G:Ghost}{a:AV}{x:Value}(h:SeesCs G [a] [x]):Sees G a x:=h.2.2 0 a rfl
def Shape(P:Program)(t:TypeId){α:Type}(f:α -> List AV)(ok:α -> Prop):Prop :=
 ∀ {H:Type} (am:TypeId×Value -> H) (w:World) (base:Nat) (held:Bool) (n:Nat) (cs:List Value) (x:DataW H×List MemPlace),DataW.trod am P w base (fun _=>true) held n t cs=some x -> ∃ a,ok a /\ SeesCs (G0 w) (f a) cs
section
variable {P:Program} {t:TypeId}
theorem Shape.map{α β:Type}{f:α -> List AV}{ok:α -> Prop}(h:Shape P t f ok){f':β -> List AV}{ok':β -> Prop}(g:α -> β)(hf:∀ a,f' (g a)=f a)(hok:∀ a,ok a -> ok' (g a)):Shape P t f' ok':=fun am w base held n cs x hx=>by
 obtain⟨a,h1,h2⟩:=h am w base held n cs x hx
 exact⟨g a,hok a h1,by rw[hf];exact h2⟩
theorem pG{k:IntKind}(ht:P.underlying t=some (.int k)):Shape P t (fun n:Int=>[.v (.int k n)]) (fun n=>(Lit.int k n).wf=true):=fun am w base held n cs x hx=>by
 obtain⟨n,rfl,_,hw⟩:=DataW.trod_int ht hx
 exact⟨n,hw,.one rfl (.v _)⟩
theorem Bs(ht:P.underlying t=some .bool):Shape P t (fun b:Bool=>[.v (.bool b)]) (fun _=>True):=fun am w base held n cs x hx=>by
 obtain⟨n,rfl,_⟩:=DataW.trod_bool ht hx
 exact⟨n,trivial,.one rfl (.v _)⟩
theorem EQ(s:ByteArray):af s.data.toList=s:=by apply ByteArray.ext;simp[af]
theorem EN(ht:P.underlying t=some .string):Shape P t lW (fun s=>s.length <= maxLen):=fun am w base held n cs x hx=>by
 obtain⟨s,rfl,_,hw⟩:=DataW.trod_string ht hx
 exact⟨s.data.toList,by simpa using hw,by unfold lW;rw[EQ];exact .one rfl (.v _)⟩
theorem Oj{α:Type}(f:α -> List AV)(l:List α)(i:Nat){e:List AV}(h:(am f l)[i]?=some e):∃ a,l[i]?=some a /\ f a=e:=by
 unfold am at h
 rw[aan] at h
 cases hl:l[i]? with
 | none=>rw[hl] at h;cases h
 | some a=>rw[hl] at h;injection h with h;exact⟨a,rfl,h⟩
theorem iz{e:TypeId}{k:Nat}{α:Type}{f:α -> List AV}{ok:α -> Prop}(ht:P.underlying t=some (.slice e))(hk:P.cellsOf e=k)(hp:0<k)(he:Shape P e f ok)(hf:∀ a,(f a).length=k):
  Shape P t (fun l:List α=>[.sl k (am f l) none .no]) (fun l=>l.length <= maxLen /\ ∀ x∈l,ok x):=fun en w base held n cs x hx=>by
 rcases open_slice ht hx with⟨rfl,_⟩ |⟨a,len,cap,m,n,D,Pl,rfl,_,hl,hcm,hm,_,hi⟩
 ·exact⟨[],⟨by simp[maxLen],fun x h=>by cases h⟩,.one rfl (.sl k [] none .no none 0 0 (fun _ _=>undef) rfl ⟨fun _=>⟨rfl,rfl⟩,fun h=>(by cases h),fun h=>(by cases h)⟩ (fun e h=>by cases h) (aaD _) (by simp[maxLen]) (fun h=>by cases h) (fun h=>by simp at h) (fun i e h=>by simp at h) (fun i j h=>by simp at h))⟩
 ·simp at hm
  by_cases h0:len=0
  ·subst h0
   exact⟨[],⟨by simp[maxLen],fun x h=>by cases h⟩,.one rfl (.sl k [] none .no (some a) 0 cap (fun _ _=>undef) rfl ⟨fun h=>(by cases h),fun h=>(by cases h),fun h=>(by cases h)⟩ (fun e h=>by cases h) hl hcm (fun h=>by cases h) (fun h=>by simp at h) (fun i e h=>by simp at h) (fun i j h=>by simp at h))⟩
  have at_:∀ i,i<len -> ∃ p:α × List Value,ok p.1 /\ SeesCs (G0 w) (f p.1) p.2 /\ p.2.length=k /\ ∀ j u,p.2[j]?=some u -> w.cell? ((a.add (i*k)).add j)=some u:=fun i hlt=>by
   obtain⟨cs',hc,ht'⟩:=hi i (by omega)
   rw[hk] at hc
   obtain⟨_,hlen,hat⟩:=World.cells?_some hc
   obtain⟨b,h1,h2⟩:=he en w base held n cs' _ ht'
   refine⟨(b,cs'),h1,h2,hlen,fun j u hu=>?_⟩
   have hj:j<k:=by rw[<- hlen];exact(aaa.1 hu).1
   rw[hat j hj,hu]
  have hel:∀ i,∃ p:α × List Value,i<len -> ok p.1 /\ SeesCs (G0 w) (f p.1) p.2 /\ p.2.length=k /\ ∀ j u,p.2[j]?=some u -> w.cell? ((a.add (i*k)).add j)=some u:=fun i=>by
   by_cases hlt:i<len
   ·obtain⟨p,hp⟩:=at_ i hlt;exact⟨p,fun _=>hp⟩
   ·obtain⟨p,_⟩:=at_ 0 (by omega);exact⟨p,fun hh=>absurd hh hlt⟩
  obtain⟨g,hg⟩:=Classical.axiomOfChoice hel
  have hget:∀ i,i<len -> ((aaR len).map fun i=>(g i).1)[i]?=some (g i).1:=fun i hi'=>by
   rw[aan,List.getElem?_range hi'];rfl
  refine⟨(aaR len).map fun i=>(g i).1,⟨by simp;omega,fun x hx=>?_⟩,.one rfl ?_⟩
  ·obtain⟨i,hi',rfl⟩:=aaC.1 hx
   exact(hg i (List.mem_range.1 hi')).1
  ·refine .sl k _ none .no (some a) len cap (fun i j=>(g i).2.getD j undef) (by simp[am]) ⟨fun h=>(by cases h),fun h=>(by cases h),fun h=>(by cases h)⟩ (fun e he'=>?_) hl hcm (fun h=>by cases h) (fun hpos=>?_) (fun i e he' j c hj=>?_) (fun i j hi' hj=>?_)
   ·obtain⟨x,_,rfl⟩:=aaC.1 he';exact hf x
   ·obtain⟨b,off,spot⟩:=a
    obtain⟨_,_,hl0,hc0⟩:=hg 0 (by omega)
    have h1:=hc0 0 _ (aac (by omega))
    have hs:spot=none:=by simpa[Addr.add] using World.cell?_spot h1
    subst hs
    refine⟨b,off,rfl,fun i j hi' hj=>?_⟩
    have hi2:i<len:=by simpa[am] using hi'
    obtain⟨_,_,hl1,hc1⟩:=hg i hi2
    have h2:=hc1 j _ (aac (by omega))
    rw[By.add_plain,By.add_plain] at h2
    rw[aab,aac (by omega)]
    exact Jk h2
   ·obtain⟨x,hx1,rfl⟩:=Oj f _ i he'
    have hi2:i<len:=by have:=(aaa.1 hx1).1;simpa using this
    rw[hget i hi2] at hx1
    injection hx1 with hx1
    subst hx1
    exact(hg i hi2).2.1.2.2 j c hj
   ·have hi2:i<len:=by simpa[am] using hi'
    obtain⟨_,hs,hl1,_⟩:=hg i hi2
    rw[aab,aac (by omega)]
    exact hs.2.1 _ (List.getElem_mem _)
theorem zh{e:TypeId}(ht:P.underlying t=some (.slice e))(hk:P.cellsOf e=1)(he:P.underlying e=some (.int .u8)):Shape P t (fun l:List UInt8=>[.sl 1 (ai l) none .no]) (fun l=>l.length <= maxLen):=by
 refine Shape.map (iz ht hk (by decide) (f:=fun c:UInt8=>[.v (.int .u8 (c.toNat:Int))]) (ok:=fun _=>True) (fun {_} am w base held n cs x hx=>?_) (fun _=>rfl)) id (fun a=>rfl) (fun a h=>h.1)
 obtain⟨z,h1,h2⟩:=pG he am w base held n cs x hx
 obtain⟨h3,h4⟩:=zu h1
 refine⟨aaF z.toNat,trivial,?_⟩
 have:((aaF z.toNat).toNat:Int)=z:=by simp;omega
 show SeesCs _ [.v (.int .u8 ((aaF z.toNat).toNat:Int))] _
 rw[this];exact h2
def vM(P:Program)(fs:List Field)(o m:Nat){α:Type}(f:α -> List AV)(ok:α -> Prop):Prop :=
 ∀ {H:Type} (am:TypeId×Value -> H) (w:World) (base:Nat) (held:Bool) (n:Nat) (cs:List Value),cs.length=m ->
  (∀ fd∈fs,∃ x:DataW H×List MemPlace,DataW.trod am P w base (fun _=>true) held n fd.type ((cs.drop (fd.offset-o)).take (P.cellsOf fd.type))=some x) -> ∃ a,ok a /\ SeesCs (G0 w) (f a) cs
theorem vx{fd:Field}{o k:Nat}{α:Type}{f:α -> List AV}{ok:α -> Prop}(ho:fd.offset=o)(hk:P.cellsOf fd.type=k)(h:Shape P fd.type f ok):vM P [fd] o k f ok:=fun am w base held n cs hl hf=>by
 obtain⟨x,hx⟩:=hf fd (aaf ..)
 rw[ho,aat,aaN,hk,aah (by omega)] at hx
 exact h am w base held n cs x hx
theorem co{fd:Field}{fs:List Field}{o k m:Nat}{α β:Type}{f:α -> List AV}{ok:α -> Prop}{g:β -> List AV}{ok':β -> Prop}(ho:fd.offset=o)(hk:P.cellsOf fd.type=k)(h:Shape P fd.type f ok)
  (ha:fs.all (fun x=>decide (o+k <= x.offset))=true) (hr:vM P fs (o+k) m g ok'):vM P (fd::fs) o (k+m) (fun p:α × β=>f p.1++g p.2) (fun p=>ok p.1 /\ ok' p.2):=fun am w base held n cs hl hf=>by
 obtain⟨x,hx⟩:=hf fd (aaf ..)
 rw[ho,aat,aaN,hk] at hx
 obtain⟨a,h1,h2⟩:=h am w base held n _ x hx
 obtain⟨b,h3,h4⟩:=hr am w base held n (cs.drop k) (by simp;omega) (fun y hy=>by
  obtain⟨z,hz⟩:=hf y (aaj _ hy)
  have:=aaG.1 ha y hy
  simp at this
  rw[List.drop_drop]
  exact⟨z,by rw[show k+(y.offset-(o+k))=y.offset-o by omega];exact hz⟩)
 exact⟨(a,b),⟨h1,h3⟩,by have:=h2.append h4;rwa [List.take_append_drop] at this⟩
theorem ol{fs:Array Field}{m:Nat}{α:Type}{f:α -> List AV}{ok:α -> Prop}(ht:P.underlying t=some (.struct fs))(hm:P.cellsOf t=m)(h:vM P fs.toList 0 m f ok):Shape P t f ok:=fun am w base held n cs x hx=>by
 obtain⟨ys,n',_,_,hlen,hyl,hf⟩:=DataW.trod_struct ht hx
 refine h am w base held n' cs (by omega) fun fd hfd=>?_
 obtain⟨j,hj⟩:=List.getElem?_of_mem hfd
 have hj':fs[j]?=some fd:=by simpa using hj
 have hlt:j<fs.size:=(Array.getElem?_eq_some_iff.1 hj').1
 have:=hf j fd hj'
 rw[aas,this]
 cases hy:ys[j]? with
 | none=>rw[List.getElem?_eq_none_iff] at hy;omega
 | some y=>exact⟨y,rfl⟩
variable {H:Type} {am:TypeId×Value -> H} {w:World} {base:Nat} {held:Bool} {r:Reach} {b0:Nat} {v:Value} {d:DataW H} {p:List MemPlace} {α:Type} {ok:α -> Prop}
theorem Jn{c:α -> AV}(h:Shape P t (fun a=>[c a]) ok)(hv:v.cells.toList=[v])(hd:DataW.Trod am P w base (fun _=>true) held t v d p):∃ a,ok a /\ Sees (G0 w) (c a) v:=by
 obtain⟨fuel,hf⟩:=hd
 obtain⟨a,h1,h2⟩:=h am w base held fuel _ _ hf
 rw[hv] at h2
 exact⟨a,h1,h2.single⟩
theorem arg_slice{e:TypeId}{c:α -> AV}(ht:P.underlying t=some (.slice e))(h:Shape P t (fun a=>[c a]) ok)(hv:Value.okWide P w r b0 t v)(hd:DataW.Trod am P w base (fun _=>true) held t v d p):∃ a,ok a /\ Sees (G0 w) (c a) v:=by
 obtain⟨a,l,k,rfl⟩:=okWide_slice ht hv
 exact Jn h rfl hd
theorem law_walk{f:FuncId}{args:List AV}{vs:List Value}{b:Bool}{h':List (List AV)}{wr:List Nat}(hd:Dom w)(hc:ae P f args [] (.v (.bool b)) h' wr)(hn:∀ a∈args,a.idOf=none)(hs:SeesL (G0 w) args vs):
  Calls P f vs.toArray w fun e w'=>e=.returned (.bool b) /\ Below w.heap.size w w':=by
 refine(hc.2 (G0 w) w vs (fun _=>.res) (RX w hd) ⟨rfl,fun i cs us h=>by simp at h⟩ hs (fun i x hx=>⟨.none _ (hn x (aap hx)),fun c hc=>?_⟩) (fun i cs us h=>by simp at h)).mono fun e w' he=>?_
 ·rw[hn x (aap hx)] at hc;cases hc
 ·obtain⟨v,G',cls',rfl,ha⟩:=he
  refine⟨by rw[ha.sees.inv_v],?_⟩
  have:=ha.ok.below
  rwa [ha.ext.w0] at this
end
section
variable {P:Program} {t:TypeId}
variable {H:Type} {am:TypeId×Value -> H} {w:World} {base:Nat} {held:Bool} {r:Reach} {b0:Nat} {v:Value} {d:DataW H} {p:List MemPlace} {α:Type} {ok:α -> Prop}
end
end Ax
end Go.Proofs.YtlbgjlmokpkkeaaGreatDoor
