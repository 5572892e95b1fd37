import Derived.Test.YtlbgjlmokpkkeaaGreatDoorQAxIb
open List renaming map_cons -> aaa, mem_cons_of_mem -> aab, mem_cons_self -> aac, mem_map -> aad, mem_cons -> aae, mem_singleton -> aaf, nodup_cons -> aag, map_append -> aah, eraseP_sublist -> aai, nodup_append -> aak, find?_cons -> aal, mem_append -> aan, map_map -> aao
open Option renaming isSome_some -> aaj
open Bool renaming eq_iff_iff -> aam
set_option linter.all false
namespace Go.Proofs.YtlbgjlmokpkkeaaGreatDoor.Ax
open Go.RowKit Go By
set_option maxRecDepth 10000
theorem uH{α:Type}{f:α -> AEnt}{p:α -> Bool}{k:Value}{one c:Bool}{z:List AV}:∀ {l:List α} (i:Nat),(∀ s∈l,eD k (f s).key=p s) ->
  found one c z (AEnt.find k (l.map f) i)=(match l.find? p with
   | some s=>if c=true then .tup [qM one (f s).cells,.v (.bool true)] else qM one (f s).cells
   | none=>if c=true then .tup [qM one z,.v (.bool false)] else qM one z)
 | [],i,_=>rfl
 | s::l,i,h=>by
  rw[aaa]
  unfold AEnt.find
  rw[h s (aac ..),aal]
  cases p s with
  | true=>rfl
  | false=>exact uH (i+1) fun x hx=>h x (aab _ hx)
theorem me{α:Type}{f:α -> AEnt}{p:α -> Bool}{k:Value}:∀ {l:List α} (i:Nat),(∀ s∈l,eD k (f s).key=p s) -> l.find? p=none -> AEnt.find k (l.map f) i=none
 | [],i,_,_=>rfl
 | s::l,i,h,hn=>by
  rw[aaa]
  unfold AEnt.find
  rw[h s (aac ..)]
  rw[aal] at hn
  cases hp:p s with
  | true=>rw[hp] at hn;cases hn
  | false=>rw[hp] at hn;exact me (i+1) (fun x hx=>h x (aab _ hx)) hn
theorem yS{α:Type}{f:α -> AEnt}{p:α -> Bool}{k:Value}{l:List α}(clock:Nat)(cells:List AV)(h:∀ s∈l,eD k (f s).key=p s)(hn:l.find? p=none):AEnt.put k clock cells (l.map f)=(l.map f++[⟨k,clock,cells⟩],clock+1):=by
 unfold AEnt.put
 rw[me 0 h hn]
theorem pY{α:Type}{f:α -> AEnt}{p:α -> Bool}{k:Value}:∀ {l:List α} (i:Nat),(∀ s∈l,eD k (f s).key=p s) -> ∀ {j:Nat} {e:AEnt},AEnt.find k (l.map f) i=some (j,e) -> i <= j /\ (l.map f).eraseIdx (j-i)=(l.eraseP p).map f
 | [],i,_,j,e,hj=>by cases hj
 | s::l,i,h,j,e,hj=>by
  rw[aaa] at hj
  unfold AEnt.find at hj
  rw[h s (aac ..)] at hj
  cases hp:p s with
  | true =>
   rw[hp] at hj
   injection hj with hj
   injection hj with h1 h2
   subst h1
   simp[hp]
  | false =>
   rw[hp] at hj
   obtain⟨h1,h2⟩:=pY (i+1) (fun x hx=>h x (aab _ hx)) hj
   refine⟨by omega,?_⟩
   rw[show j-i=(j-(i+1))+1 by omega]
   simp[hp,h2]
theorem JY{α:Type}{f:α -> AEnt}{p:α -> Bool}{k:Value}{l:List α}(h:∀ s∈l,eD k (f s).key=p s):AEnt.del k (l.map f)=(l.eraseP p).map f:=by
 unfold AEnt.del
 cases hj:AEnt.find k (l.map f) 0 with
 | some q =>
  obtain⟨j,e⟩:=q
  exact(pY 0 h hj).2
 | none =>
  have:∀ s∈l,¬p s=true:=fun s hs hp=>by
   have key:∀ {l:List α} (i:Nat),(∀ s∈l,eD k (f s).key=p s) -> AEnt.find k (l.map f) i=none -> ∀ s∈l,¬p s=true:=by
    intro l
    induction l with
    | nil=>intro i _ _ s hs;cases hs
    | cons x l ih =>
     intro i hh hn s hs
     rw[aaa] at hn
     unfold AEnt.find at hn
     rw[hh x (aac ..)] at hn
     cases hx:p x with
     | true=>rw[hx] at hn;cases hn
     | false =>
      rw[hx] at hn
      rcases aae.1 hs with rfl |hs
      ·simp[hx]
      ·exact ih (i+1) (fun y hy=>hh y (aab _ hy)) hn s hs
   exact key 0 h hj s hs hp
  rw[List.eraseP_of_forall_not this]
theorem Ee(x y:d5):eD (.string (af x)) (.string (af y))=(x==y):=by
 show(af x==af y)=(x==y)
 rw[aam]
 constructor
 ·intro h
  have:=bytes_beq h
  have:=congrArg (fun b:ByteArray=>b.data.toList) this
  simpa[lO] using this
 ·intro h
  have e:x=y:=by simpa using h
  subst e
  show(af x).data==(af x).data
  simp
def eF(h:d4):Prop:=∀ cs∈h,∀ c∈cs,c.idOf=none
theorem bY{h:d4}(hp:eF h){cs:List AV}(hc:∀ c∈cs,c.idOf=none)(k:Nat):eF (h.set k cs):=fun x hx=>by
 rcases List.mem_or_eq_of_mem_set hx with h1 |h1
 ·exact hp x h1
 ·subst h1;exact hc
theorem fg{h g:d4}(hp:eF h)(hg:eF g):eF (h++g):=fun x hx=>by
 rcases aan.1 hx with h1 |h1
 ·exact hp x h1
 ·exact hg x h1
theorem lc{α β:Type}{f:α -> β}:∀ {l:List α},(l.map f).Nodup -> ∀ {x y:α},x∈l -> y∈l -> f x=f y -> x=y
 | a::l,h,x,y,hx,hy,e=>by
  rw[aaa,aag] at h
  rcases aae.1 hx with h1 |h1<;>rcases aae.1 hy with h2 |h2
  ·rw[h1,h2]
  ·exact(h.1 (aad.2 ⟨y,h2,by rw[<- h1];exact e.symm⟩)).elim
  ·exact(h.1 (aad.2 ⟨x,h1,by rw[<- h2];exact e⟩)).elim
  ·exact lc h.2 h1 h2 e
theorem mh{α β:Type}[DecidableEq β]{f:α -> β}{b:β}:∀ {l:List α},(l.map f).Nodup -> ∀ {x:α},x∈l.eraseP (fun y=>decide (f y=b)) -> x∈l /\ f x≠b
 | [],_,x,hx=>by simp at hx
 | a::l,h,x,hx=>by
  rw[aaa,aag] at h
  rw[List.eraseP_cons] at hx
  by_cases e:f a=b
  ·simp[e] at hx
   exact⟨aab _ hx,fun e2=>h.1 (aad.2 ⟨x,hx,e2.trans e.symm⟩)⟩
  ·simp[e] at hx
   rcases hx with rfl |hx
   ·exact⟨aac ..,e⟩
   ·obtain⟨h1,h2⟩:=mh h.2 hx
    exact⟨aab _ h1,h2⟩
structure KE (β:Type) where
 key:d5
 born:Nat
 val:β
namespace KE
variable {β:Type}
def ent(f:β -> List AV)(x:KE β):AEnt:=⟨.string (af x.key),x.born,f x.val⟩
def find(k:d5)(l:List (KE β)):Option (KE β):=l.find? fun x=>decide (x.key=k)
def get(k:d5)(l:List (KE β)):Option β:=(find k l).map KE.val
def upd(k:d5)(v:β)(x:KE β):KE β:=if x.key=k then { x with val:=v } else x
def put(k:d5)(clock:Nat)(v:β)(l:List (KE β)):List (KE β):=if(find k l).isSome=true then l.map (upd k v) else l++[⟨k,clock,v⟩]
def tick(k:d5)(clock:Nat)(l:List (KE β)):Nat:=if(find k l).isSome=true then clock else clock+1
def del(k:d5)(l:List (KE β)):List (KE β):=l.eraseP fun x=>decide (x.key=k)
structure Ok (clock:Nat) (l:List (KE β)):Prop where
 keys:(l.map KE.key).Nodup
 borns:(l.map KE.born).Nodup
 lt:∀ x∈l,x.born<clock
theorem Lk(k:d5)(v:β)(x:KE β):(upd k v x).key=x.key:=by unfold upd;split<;>rfl
theorem zx(k:d5)(v:β)(x:KE β):(upd k v x).born=x.born:=by unfold upd;split<;>rfl
theorem find_mem{k:d5}{l:List (KE β)}{x:KE β}(h:find k l=some x):x∈l /\ x.key=k:=⟨List.mem_of_find?_eq_some h,by simpa using List.find?_some h⟩
theorem find_none{k:d5}{l:List (KE β)}(h:find k l=none):∀ x∈l,x.key≠k:=fun x hx=>by
 have:=List.find?_eq_none.1 h x hx
 simpa using this
theorem find_of{clock:Nat}{l:List (KE β)}(ho:Ok clock l){x:KE β}(hx:x∈l):find x.key l=some x:=by
 cases hf:find x.key l with
 | none=>exact absurd rfl (find_none hf x hx)
 | some y =>
  obtain⟨h1,h2⟩:=find_mem hf
  rw[lc ho.keys h1 hx h2]
theorem get_isSome(k:d5)(l:List (KE β)):(get k l).isSome=(find k l).isSome:=by unfold get;cases find k l<;>rfl
theorem ents_of{f:β -> List AV}{n:Nat}(hf:∀ v,(f v).length=n)(clock:Nat)(l:List (KE β)):mapOf n (bc clock (l.map (ent f)))=some (clock,l.map (ent f)):=AP fun e he=>by obtain⟨s,_,rfl⟩:=aad.1 he;exact hf _
theorem ents_keys{f:β -> List AV}(hf:∀ v,∀ c∈f v,c.idOf=none)(l:List (KE β)):gw none (l.map (ent f)):=fun e he=>by
 obtain⟨s,_,rfl⟩:=aad.1 he
 exact⟨rfl,hf _⟩
theorem ents_plain{f:β -> List AV}(hf:∀ v,∀ c∈f v,c.idOf=none)(clock:Nat)(l:List (KE β)):∀ c∈bc clock (l.map (ent f)),c.idOf=none:=nS fun e he c hc=>(ents_keys hf l e he).2 c hc
theorem nI(f:β -> List AV)(k:d5)(l:List (KE β)):∀ s∈l,eD (.string (af k)) (s.ent f).key=decide (s.key=k):=fun s _=>by
 show eD (.string (af k)) (.string (af s.key))=_
 rw[Ee,aam]
 simp
 exact eq_comm
theorem del_eq(f:β -> List AV)(k:d5)(l:List (KE β)):AEnt.del (.string (af k)) (l.map (ent f))=(del k l).map (ent f):=JY (nI f k l)
theorem vB{k:d5}{v:β}:∀ {l:List (KE β)},(∀ x∈l,x.key≠k) -> l.map (upd k v)=l
 | [],_=>rfl
 | a::l,h=>by
  have h1:upd k v a=a:=by unfold upd;rw[if_neg (h a (aac ..))]
  rw[aaa,h1,vB fun x hx=>h x (aab _ hx)]
theorem Bq{f:β -> List AV}{k:d5}{v:β}:∀ {l:List (KE β)} (i:Nat),(l.map KE.key).Nodup -> ∀ {j:Nat} {e:AEnt},AEnt.find (.string (af k)) (l.map (ent f)) i=some (j,e) -> i <= j /\ (l.map (ent f)).set (j-i) ⟨.string (af k),e.born,f v⟩=(l.map (upd k v)).map (ent f)
 | [],i,_,j,e,h=>by cases h
 | s::l,i,hn,j,e,h=>by
  rw[aaa,aag] at hn
  rw[aaa] at h
  unfold AEnt.find at h
  rw[nI f k [s] s (aaf.2 rfl)] at h
  by_cases hk:s.key=k
  ·rw[if_pos (by simpa using hk)] at h
   injection h with h
   injection h with h1 h2
   subst h1 h2
   refine⟨Nat.le_refl _,?_⟩
   rw[Nat.sub_self,aaa,aaa,vB (k:=k) (l:=l) fun x hx e=>hn.1 (aad.2 ⟨x,hx,e.trans hk.symm⟩)]
   have:upd k v s={ s with val:=v }:=by unfold upd;rw[if_pos hk]
   rw[this,List.set_cons_zero,aaa]
   subst hk
   rfl
  ·rw[if_neg (by simpa using hk)] at h
   obtain⟨h1,h2⟩:=Bq (i+1) hn.2 h
   refine⟨by omega,?_⟩
   have:upd k v s=s:=by unfold upd;rw[if_neg hk]
   rw[show j-i=(j-(i+1))+1 by omega,aaa,aaa,this,List.set_cons_succ,h2,aaa]
theorem put_eq(f:β -> List AV){clock:Nat}{l:List (KE β)}(ho:Ok clock l)(k:d5)(v:β):AEnt.put (.string (af k)) clock (f v) (l.map (ent f))=((put k clock v l).map (ent f),tick k clock l):=by
 unfold put tick
 cases hf:find k l with
 | none =>
  rw[if_neg (by simp),if_neg (by simp)]
  rw[yS clock (f v) (nI f k l) hf,aah]
  rfl
 | some s =>
  simp only[aaj,if_true]
  unfold AEnt.put
  cases hj:AEnt.find (.string (af k)) (l.map (ent f)) 0 with
  | none =>
   exfalso
   have hs:=find_mem hf
   have key:∀ {l:List (KE β)} (i:Nat),AEnt.find (.string (af k)) (l.map (ent f)) i=none -> ∀ x∈l,x.key≠k:=by
    intro l
    induction l with
    | nil=>intro i _ x hx;cases hx
    | cons a l ih =>
     intro i h x hx
     rw[aaa] at h
     unfold AEnt.find at h
     rw[nI f k [a] a (aaf.2 rfl)] at h
     by_cases hk:a.key=k
     ·rw[if_pos (by simpa using hk)] at h;cases h
     ·rw[if_neg (by simpa using hk)] at h
      rcases aae.1 hx with rfl |hx
      ·exact hk
      ·exact ih (i+1) h x hx
   exact key 0 hj s hs.1 hs.2
  | some q =>
   obtain⟨j,e⟩:=q
   dsimp only
   have:=(Bq (v:=v) 0 ho.keys hj).2
   rw[Nat.sub_zero] at this
   rw[this]
theorem found_eq(f:β -> List AV)(k:d5)(l:List (KE β))(one c:Bool)(z:List AV):found one c z (AEnt.find (.string (af k)) (l.map (ent f)) 0)=(match get k l with
  | some v=>if c=true then .tup [qM one (f v),.v (.bool true)] else qM one (f v)
  | none=>if c=true then .tup [qM one z,.v (.bool false)] else qM one z):=by
 rw[uH 0 (nI f k l)]
 unfold get find
 cases l.find? (fun x=>decide (x.key=k))<;>rfl
theorem put_ok{clock:Nat}{l:List (KE β)}(ho:Ok clock l)(k:d5)(v:β):Ok (tick k clock l) (put k clock v l):=by
 unfold put tick
 cases hf:find k l with
 | some s =>
  simp only[aaj,if_true]
  refine⟨?_,?_,fun x hx=>?_⟩
  ·rw[aao,show KE.key∘upd k v=KE.key from funext (Lk k v)];exact ho.keys
  ·rw[aao,show KE.born∘upd k v=KE.born from funext (zx k v)];exact ho.borns
  ·obtain⟨y,hy,rfl⟩:=aad.1 hx
   rw[zx];exact ho.lt y hy
 | none =>
  rw[if_neg (by simp),if_neg (by simp)]
  refine⟨?_,?_,fun x hx=>?_⟩
  ·rw[aah,aak]
   refine⟨ho.keys,by simp,fun a ha b hb e=>?_⟩
   obtain⟨x,hx,rfl⟩:=aad.1 ha
   simp at hb
   subst hb
   exact find_none hf x hx e
  ·rw[aah,aak]
   refine⟨ho.borns,by simp,fun a ha b hb e=>?_⟩
   obtain⟨x,hx,rfl⟩:=aad.1 ha
   simp at hb
   have:=ho.lt x hx
   omega
  ·rcases aan.1 hx with hx |hx
   ·have:=ho.lt x hx;omega
   ·rw[aaf.1 hx];exact Nat.lt_succ_self _
theorem del_ok{clock:Nat}{l:List (KE β)}(ho:Ok clock l)(k:d5):Ok clock (del k l):=by
 have hs:(del k l).Sublist l:=aai ..
 exact⟨ho.keys.sublist (hs.map _),ho.borns.sublist (hs.map _),fun x hx=>ho.lt x (hs.subset hx)⟩
theorem mem_del{clock:Nat}{l:List (KE β)}(ho:Ok clock l){k:d5}{x:KE β}:x∈del k l↔x∈l /\ x.key≠k:=by
 constructor
 ·exact fun h=>mh ho.keys h
 ·intro ⟨h1,h2⟩
  exact(List.mem_eraseP_of_neg (by simpa using h2)).2 h1
theorem get_iff{clock:Nat}{l:List (KE β)}(ho:Ok clock l){k:d5}{v:β}:get k l=some v↔∃ x∈l,x.key=k /\ x.val=v:=by
 unfold get
 constructor
 ·intro h
  cases hf:find k l with
  | none=>rw[hf] at h;cases h
  | some x =>
   rw[hf] at h
   injection h with h
   exact⟨x,(find_mem hf).1,(find_mem hf).2,h⟩
 ·rintro⟨x,hx,rfl,rfl⟩
  rw[find_of ho hx];rfl
theorem get_none_iff{l:List (KE β)}{k:d5}:get k l=none↔∀ x∈l,x.key≠k:=by
 unfold get
 constructor
 ·intro h
  cases hf:find k l with
  | none=>exact find_none hf
  | some x=>rw[hf] at h;cases h
 ·intro h
  cases hf:find k l with
  | none=>rfl
  | some x=>exact absurd (find_mem hf).2 (h x (find_mem hf).1)
theorem put_len(k:d5)(clock:Nat)(v:β)(l:List (KE β)):(put k clock v l).length=if(get k l).isSome=true then l.length else l.length+1:=by
 rw[get_isSome]
 unfold put
 split<;>simp
theorem del_len(k:d5)(l:List (KE β)):(del k l).length <= l.length:=(aai ..).length_le
end KE
theorem ss{l:List AEnt}{n t:Nat}(h:∀ e∈l,cb n e.cells):cb n (bc t l):=by
 refine dx fun j c hj=>?_
 have hc:=List.mem_of_getElem? hj
 unfold bc at hc
 rcases aae.1 hc with rfl |hc
 ·trivial
 rcases aae.1 hc with rfl |hc
 ·trivial
 obtain⟨e,he,hc⟩:=List.mem_flatMap.1 hc
 unfold AEnt.avs at hc
 rcases aae.1 hc with rfl |hc
 ·trivial
 rcases aae.1 hc with rfl |hc
 ·trivial
 obtain⟨q,hq⟩:=List.getElem?_of_mem hc
 exact cS (h e he) q c hq
end Go.Proofs.YtlbgjlmokpkkeaaGreatDoor.Ax
