import Derived.Test.YtlbgjlmokpkkeaaGreatDoorQAxXr
open List renaming flatten_cons -> aaa, findIdx?_eq_some_iff_getElem -> aab, findIdx?_eq_none_iff -> aac, getElem_mem -> aad, length_cons -> aae, take_of_length_le -> aaf, take_left' -> aah, drop_zero -> aai
open Nat renaming lt_or_ge -> aag, succ_mul -> aaj
set_option linter.all false
namespace Go.Proofs.YtlbgjlmokpkkeaaGreatDoor.Ax
open Go.RowKit Go By
set_option maxRecDepth 10000
theorem uy{α:Sort _}{a:α}:a=a:=of_eq_true (eq_self a)
def wy{α:Type}(p:α -> Bool)(l:List α):Int:=match l.findIdx? p with |some i=>(i:Int) |none=>-1
theorem Cy{α:Type}{p:α -> Bool}{xs:List α}{j:Nat}(hj:j<xs.length)(h1:∀ x∈xs.take j,p x=false)(h2:p xs[j]=true):wy p xs=j:=by
 have:xs.findIdx? p=some j:=by
  rw[aab]
  refine⟨hj,h2,fun k hk=>?_⟩
  have:=h1 xs[k] (List.mem_take_iff_getElem.2 ⟨k,by omega,rfl⟩)
  simp[this]
 unfold wy;rw[this]
theorem uI{α:Type}{p:α -> Bool}{xs:List α}(h1:∀ x∈xs,p x=false):wy p xs = -1:=by
 have:xs.findIdx? p=none:=by
  rw[aac];exact h1
 unfold wy;rw[this]
theorem yx{α:Type}(p:α -> Bool)(xs:List α):decide (0 <= wy p xs)=xs.any p:=by
 cases h:xs.findIdx? p with
 | none =>
  have h1:=aac.1 h
  have h2:xs.any p=false:=by simpa using h1
  unfold wy;rw[h,h2];rfl
 | some i =>
  obtain⟨hi,h1,_⟩:=aab.1 h
  have h2:xs.any p=true:=List.any_eq_true.2 ⟨_,aad hi,h1⟩
  unfold wy;rw[h,h2];simp
theorem vy{α:Type}{p:α -> Bool}{xs:List α}{j:Nat}(hj:j<xs.length)(h1:∀ x∈xs.take j,p x=false)(h2:p xs[j]=false):∀ x∈xs.take (j+1),p x=false:=by
 rw[cN hj]
 intro x hx
 rcases List.mem_append.1 hx with h |h
 ·exact h1 x h
 ·simp at h;subst h;exact h2
def fT(f:FuncId):XFun:=⟨9,(.seq (.ops [⟨(some 4),(.assign (.const (.bool false))),none⟩]) (.seq (.ops [⟨(some 5),(.move (.tmp 0)),none⟩,⟨(some 6),(.move (.tmp 1)),none⟩,⟨(some 7),(.call f [(.tmp 5),(.tmp 6)]),none⟩,⟨(some 8),(.bin .geq (.tmp 7) (.const (.int .i64 0))),none⟩,⟨(some 4),(.assign (.tmp 8)),none⟩]) .ret)),[(.move (.tmp 4))]⟩
def wz:XFun:=⟨19,(.seq (.ops [⟨(some 4),(.assign (.const (.int .i64 0))),none⟩]) (.seq (.seq (.ops [⟨(some 6),(.move (.tmp 0)),none⟩,⟨(some 7),(.lenL (.tmp 6)),none⟩,⟨(some 8),(.move (.const (.int .i64 0))),none⟩]) (.block 0 (.loop (.seq (.ops [⟨(some 9),(.bin .lss (.tmp 8) (.tmp 7)),none⟩]) (.seq (.cond (.tmp 9) .skip (.exit 0)) (.seq (.block 1 (.seq (.ops [⟨(some 10),(.move (.tmp 8)),none⟩,⟨(some 5),(.assign (.tmp 10)),none⟩]) (.seq (.ops [⟨(some 11),(.move (.tmp 1)),none⟩,⟨(some 12),(.move (.tmp 0)),none⟩,⟨(some 13),(.move (.tmp 5)),none⟩,⟨(some 14),(.iaddr 1 (.tmp 12) (.tmp 13)),none⟩,⟨(some 15),(.load1 (.tmp 14)),none⟩,⟨(some 16),(.callv (.tmp 11) [(.tmp 15)]),none⟩]) (.cond (.tmp 16) (.seq (.ops [⟨(some 17),(.move (.tmp 5)),none⟩,⟨(some 4),(.assign (.tmp 17)),none⟩]) .ret) .skip)))) (.ops [⟨(some 18),(.bin .add (.tmp 8) (.const (.int .i64 1))),none⟩,⟨(some 8),(.move (.tmp 18)),none⟩]))))))) (.seq (.ops [⟨(some 4),(.assign (.const (.int .i64 (-1)))),none⟩]) .ret))),[(.move (.tmp 4))]⟩
theorem AE{P:Program}(hm:P.follows .mixedOrders=true){f g:FuncId}(hf:aj P f=some (wz)){α:Type}(c:α -> AV)(p:α -> Bool)(xs:List α)(cap:List AV)(h:d4)(hcap:∀ c∈cap,c.idOf=none)(hc:∀ x,(c x).idOf=none)(hu:∀ x,(c x).unown=c x)
  (hg:∀ x,x∈xs -> ae P g ((c x)::cap) h (.v (.bool (p x))) h []) (hl:xs.length <= 140737488355328) :
  ae P f [.sl 1 (am (fun x=>[c x]) xs) none .no,.fn (.func g) [] cap] h (.v (.int .i64 (wy p xs))) h []:=by
 refine ac hf hm (by simp[wz]) fun hh hargs=>?_
 simp at hargs
 simp[wz]
 refine ap (D:=Nat) (fun j=>⟨[(0,.sl 1 (am (fun x=>[c x]) xs) none .no),(1,.fn (.func g) [] cap),(7,.v (.int .i64 xs.length)),(8,.v (.int .i64 j))],[],h,[]⟩) (fun j=>j <= xs.length /\ ∀ x∈xs.take j,p x=false) (fun j=>xs.length-j) 0 (by simp) ?_ ?_
 ·simp[Leq,hh,hargs]
 ·rintro j ⟨hj,hp⟩
  simp
  refine bG (decide (j<xs.length)) (by simp) (fun hlt=>?_) (fun hge=>?_)
  ·simp at hlt
   have hq:∀ y∈(c xs[j])::cap,y.idOf=none:=by simpa[hc] using hcap
   have hw:IntKind.i64.wrap ((j:Int)+1)=(j:Int)+1:=wrap64 (by omega) (by omega)
   simp[hlt,hc,hu]
   refine⟨hcap,aa hq (hg xs[j] (aad _)) ?_⟩
   simp[bI hq]
   refine bG (p xs[j]) (by simp) (fun ht=>?_) (fun hf'=>?_)
   ·simp[hh,Cy hlt hp ht]
   ·simp
    refine⟨j+1,⟨by omega,vy hlt hp hf'⟩,by omega,?_⟩
    simp[Leq,hh,hargs,hw]
  ·simp at hge
   have hj':j=xs.length:=by omega
   subst hj'
   simp at hp
   simp[hh,uI hp]
theorem iG{P:Program}(hm:P.follows .mixedOrders=true){f f2 g:FuncId}(hf:aj P f=some (fT f2))(hf2:aj P f2=some (wz)){α:Type}(c:α -> AV)(p:α -> Bool)(xs:List α)(cap:List AV)(h:d4)(hcap:∀ c∈cap,c.idOf=none)(hc:∀ x,(c x).idOf=none)(hu:∀ x,(c x).unown=c x)
  (hg:∀ x,x∈xs -> ae P g ((c x)::cap) h (.v (.bool (p x))) h []) (hl:xs.length <= 140737488355328) :
  ae P f [.sl 1 (am (fun x=>[c x]) xs) none .no,.fn (.func g) [] cap] h (.v (.bool (xs.any p))) h []:=by
 refine ac hf hm (by simp[fT]) fun hh hargs=>?_
 simp[fT]
 refine aa (by simp) (AE hm hf2 c p xs cap h hcap hc hu hg hl) ?_
 simp[hh,yx]
def wA(k:Nat):XFun:=⟨19,(.seq (.ops [⟨(some 4),(.assign (.const (.int .i64 0))),none⟩]) (.seq (.seq (.ops [⟨(some 6),(.move (.tmp 0)),none⟩,⟨(some 7),(.lenL (.tmp 6)),none⟩,⟨(some 8),(.move (.const (.int .i64 0))),none⟩]) (.block 0 (.loop (.seq (.ops [⟨(some 9),(.bin .lss (.tmp 8) (.tmp 7)),none⟩]) (.seq (.cond (.tmp 9) .skip (.exit 0)) (.seq (.block 1 (.seq (.ops [⟨(some 10),(.move (.tmp 8)),none⟩,⟨(some 5),(.assign (.tmp 10)),none⟩]) (.seq (.ops [⟨(some 11),(.move (.tmp 1)),none⟩,⟨(some 12),(.move (.tmp 0)),none⟩,⟨(some 13),(.move (.tmp 5)),none⟩,⟨(some 14),(.iaddr k (.tmp 12) (.tmp 13)),none⟩,⟨(some 15),(.loadN k (.tmp 14)),none⟩,⟨(some 16),(.callv (.tmp 11) [(.tmp 15)]),none⟩]) (.cond (.tmp 16) (.seq (.ops [⟨(some 17),(.move (.tmp 5)),none⟩,⟨(some 4),(.assign (.tmp 17)),none⟩]) .ret) .skip)))) (.ops [⟨(some 18),(.bin .add (.tmp 8) (.const (.int .i64 1))),none⟩,⟨(some 8),(.move (.tmp 18)),none⟩]))))))) (.seq (.ops [⟨(some 4),(.assign (.const (.int .i64 (-1)))),none⟩]) .ret))),[(.move (.tmp 4))]⟩
theorem AF{P:Program}(hm:P.follows .mixedOrders=true){f g:FuncId}{k:Nat}(hf:aj P f=some (wA k)){α:Type}(c:α -> List AV)(p:α -> Bool)(xs:List α)(cap:List AV)(h:d4)(hcap:∀ c∈cap,c.idOf=none)(hc:∀ x,(c x).length=k)(hu:∀ x,(c x).map AV.unown=c x)
  (hg:∀ x,x∈xs -> ae P g ((.agg (c x))::cap) h (.v (.bool (p x))) h []) (hl:xs.length <= 140737488355328) :
  ae P f [.sl k (am c xs) none .no,.fn (.func g) [] cap] h (.v (.int .i64 (wy p xs))) h []:=by
 refine ac hf hm (by simp[wA]) fun hh hargs=>?_
 simp at hargs
 simp[wA]
 refine ap (D:=Nat) (fun j=>⟨[(0,.sl k (am c xs) none .no),(1,.fn (.func g) [] cap),(7,.v (.int .i64 xs.length)),(8,.v (.int .i64 j))],[],h,[]⟩) (fun j=>j <= xs.length /\ ∀ x∈xs.take j,p x=false) (fun j=>xs.length-j) 0 (by simp) ?_ ?_
 ·simp[Leq,hh,hargs]
 ·rintro j ⟨hj,hp⟩
  simp
  refine bG (decide (j<xs.length)) (by simp) (fun hlt=>?_) (fun hge=>?_)
  ·simp at hlt
   have hq:∀ y∈(.agg (c xs[j]))::cap,y.idOf=none:=by simpa using hcap
   have hw:IntKind.i64.wrap ((j:Int)+1)=(j:Int)+1:=wrap64 (by omega) (by omega)
   simp[hlt,hc,hu]
   refine⟨hcap,aa hq (hg xs[j] (aad _)) ?_⟩
   simp[bI hq]
   refine bG (p xs[j]) (by simp) (fun ht=>?_) (fun hf'=>?_)
   ·simp[hh,Cy hlt hp ht]
   ·simp
    refine⟨j+1,⟨by omega,vy hlt hp hf'⟩,by omega,?_⟩
    simp[Leq,hh,hargs,hw]
  ·simp at hge
   have hj':j=xs.length:=by omega
   subst hj'
   simp at hp
   simp[hh,uI hp]
theorem dE{P:Program}(hm:P.follows .mixedOrders=true){f f2 g:FuncId}{k:Nat}(hf:aj P f=some (fT f2))(hf2:aj P f2=some (wA k)){α:Type}(c:α -> List AV)(p:α -> Bool)(xs:List α)(cap:List AV)(h:d4)(hcap:∀ c∈cap,c.idOf=none)(hc:∀ x,(c x).length=k)(hu:∀ x,(c x).map AV.unown=c x)
  (hg:∀ x,x∈xs -> ae P g ((.agg (c x))::cap) h (.v (.bool (p x))) h []) (hl:xs.length <= 140737488355328) :
  ae P f [.sl k (am c xs) none .no,.fn (.func g) [] cap] h (.v (.bool (xs.any p))) h []:=by
 refine ac hf hm (by simp[fT]) fun hh hargs=>?_
 simp[fT]
 refine aa (by simp) (AF hm hf2 c p xs cap h hcap hc hu hg hl) ?_
 simp[hh,yx]
def nJ{α:Type}(e:α -> α -> Bool):List α -> List α -> Bool
 | [],[]=>true
 | x::r,y::q=>e x y&&nJ e r q
 | _,_=>false
theorem ia{α:Type}(e:α -> α -> Bool):∀(xs ys:List α),nJ e xs ys=true↔xs.length=ys.length /\ ∀ i (h1:i<xs.length) (h2:i<ys.length),e xs[i] ys[i]=true
 | [],[]=>by simp[nJ]
 | [],_::_=>by simp[nJ]
 | _::_,[]=>by simp[nJ]
 | x::r,y::q=>by
  simp only[nJ,Bool.and_eq_true,ia e r q,aae]
  constructor
  ·rintro⟨h1,h2,h3⟩
   refine⟨by omega,fun i hi hj=>?_⟩
   cases i with
   | zero=>exact h1
   | succ i=>exact h3 i (by simpa using hi) (by simpa using hj)
  ·rintro⟨h1,h2⟩
   exact⟨h2 0 (by simp) (by simp),by omega,fun i hi hj=>h2 (i+1) (by simpa using hi) (by simpa using hj)⟩
theorem rR{α:Type}{e:α -> α -> Bool}{xs ys:List α}{i:Nat}(h1:i<xs.length)(h2:i<ys.length)(h:e xs[i] ys[i]=false):nJ e xs ys=false:=by
 cases hh:nJ e xs ys with
 | false=>rfl
 | true=>have:=((ia e xs ys).1 hh).2 i h1 h2;rw[h] at this;cases this
theorem nK{α:Type}{e:α -> α -> Bool}{xs ys:List α}(h:xs.length≠ys.length):nJ e xs ys=false:=by
 cases hh:nJ e xs ys with
 | false=>rfl
 | true=>exact absurd ((ia e xs ys).1 hh).1 h
theorem jz{α:Type}[BEq α][LawfulBEq α]:∀(xs ys:List α),nJ (·==·) xs ys=(xs==ys)
 | [],[]=>rfl
 | [],_::_=>rfl
 | _::_,[]=>rfl
 | x::r,y::q=>by simp[nJ,jz r q]
def wl:XFun:=⟨26,(.seq (.ops [⟨(some 4),(.assign (.const (.bool false))),none⟩]) (.seq (.seq (.ops [⟨(some 6),(.move (.tmp 0)),none⟩,⟨(some 7),(.lenL (.tmp 6)),none⟩,⟨(some 8),(.move (.tmp 1)),none⟩,⟨(some 9),(.lenL (.tmp 8)),none⟩,⟨(some 10),(.bin .neq (.tmp 7) (.tmp 9)),none⟩]) (.cond (.tmp 10) (.seq (.ops [⟨(some 4),(.assign (.const (.bool false))),none⟩]) .ret) .skip)) (.seq (.seq (.ops [⟨(some 11),(.move (.tmp 0)),none⟩,⟨(some 12),(.lenL (.tmp 11)),none⟩,⟨(some 13),(.move (.const (.int .i64 0))),none⟩]) (.block 0 (.loop (.seq (.ops [⟨(some 14),(.bin .lss (.tmp 13) (.tmp 12)),none⟩]) (.seq (.cond (.tmp 14) .skip (.exit 0)) (.seq (.block 1 (.seq (.ops [⟨(some 15),(.move (.tmp 13)),none⟩,⟨(some 5),(.assign (.tmp 15)),none⟩]) (.seq (.draws (.take ⟨(some 16),(.move (.tmp 0)),none⟩ (.take ⟨(some 17),(.move (.tmp 5)),none⟩ (.take ⟨(some 18),(.iaddr 1 (.tmp 16) (.tmp 17)),none⟩ (.take ⟨(some 19),(.load1 (.tmp 18)),none⟩ (.take ⟨(some 20),(.move (.tmp 1)),none⟩ (.take ⟨(some 21),(.move (.tmp 5)),none⟩ (.take ⟨(some 22),(.iaddr 1 (.tmp 20) (.tmp 21)),none⟩ (.take ⟨(some 23),(.load1 (.tmp 22)),none⟩ (.take ⟨(some 24),(.bin .neq (.tmp 19) (.tmp 23)),none⟩ .done)))))))))) (.cond (.tmp 24) (.seq (.ops [⟨(some 4),(.assign (.const (.bool false))),none⟩]) .ret) .skip)))) (.ops [⟨(some 25),(.bin .add (.tmp 13) (.const (.int .i64 1))),none⟩,⟨(some 13),(.move (.tmp 25)),none⟩]))))))) (.seq (.ops [⟨(some 4),(.assign (.const (.bool true))),none⟩]) .ret)))),[(.move (.tmp 4))]⟩
theorem Ao{P:Program}(hm:P.follows .mixedOrders=true){f:FuncId}(hf:aj P f=some (wl))(xs ys:List Int)(h:d4)(hl:xs.length <= 140737488355328):
  ae P f [.sl 1 (am aX xs) none .no,.sl 1 (am aX ys) none .no] h (.v (.bool (nJ (·==·) xs ys))) h []:=by
 refine ac hf hm (by simp[wl]) fun hh hargs=>?_
 simp at hargs
 by_cases hlen:xs.length=ys.length
 ·simp[wl,hlen]
  refine ap (D:=Nat) (fun j=>⟨[(0,.sl 1 (am aX xs) none .no),(1,.sl 1 (am aX ys) none .no),(12,.v (.int .i64 ys.length)),(13,.v (.int .i64 j))],[],h,[]⟩) (fun j=>j <= xs.length /\ ∀ i (h1:i<xs.length) (h2:i<ys.length),i<j -> ((·==·):Int -> Int -> Bool) xs[i] ys[i]=true) (fun j=>xs.length-j) 0 ⟨by omega,fun i h1 h2 h3=>by omega⟩ ?_ ?_
  ·simp[Leq,hh,hargs]
  ·rintro j ⟨hj,hp⟩
   simp
   refine bG (decide (j<ys.length)) (by simp) (fun hlt=>?_) (fun hge=>?_)
   ·simp at hlt
    have hlt':j<xs.length:=by omega
    have hw:IntKind.i64.wrap ((j:Int)+1)=(j:Int)+1:=wrap64 (by omega) (by omega)
    simp[hlt,hlt',aX]
    refine bG (xs[j] != ys[j]) (by simp) (fun ht=>?_) (fun hf'=>?_)
    ·simp at ht
     have:nJ (·==·) xs ys=false:=rR (i:=j) hlt' hlt (by simpa using ht)
     simp[hh,this]
    ·simp at hf'
     simp
     refine⟨j+1,⟨by omega,fun i h1 h2 h3=>?_⟩,by omega,?_⟩
     ·rcases aag i j with h4 |h4
      ·simpa using hp i h1 h2 h4
      ·have:i=j:=by omega
       subst this;simpa using hf'
     ·simp[Leq,hh,hargs,hw]
   ·simp at hge
    have hx:nJ (·==·) xs ys=true:=(ia _ xs ys).2 ⟨hlen,fun i h1 h2=>hp i h1 h2 (by omega)⟩
    simp[hh,hx]
 ·have hne:(xs.length:Int)≠ys.length:=by omega
  have hx:nJ (·==·) xs ys=false:=nK hlen
  simp[wl,hne,hh,hx]
def wn(k:Nat)(ts:List Nat):XFun:=⟨26,(.seq (.ops [⟨(some 4),(.assign (.const (.bool false))),none⟩]) (.seq (.seq (.ops [⟨(some 6),(.move (.tmp 0)),none⟩,⟨(some 7),(.lenL (.tmp 6)),none⟩,⟨(some 8),(.move (.tmp 1)),none⟩,⟨(some 9),(.lenL (.tmp 8)),none⟩,⟨(some 10),(.bin .neq (.tmp 7) (.tmp 9)),none⟩]) (.cond (.tmp 10) (.seq (.ops [⟨(some 4),(.assign (.const (.bool false))),none⟩]) .ret) .skip)) (.seq (.seq (.ops [⟨(some 11),(.move (.tmp 0)),none⟩,⟨(some 12),(.lenL (.tmp 11)),none⟩,⟨(some 13),(.move (.const (.int .i64 0))),none⟩]) (.block 0 (.loop (.seq (.ops [⟨(some 14),(.bin .lss (.tmp 13) (.tmp 12)),none⟩]) (.seq (.cond (.tmp 14) .skip (.exit 0)) (.seq (.block 1 (.seq (.ops [⟨(some 15),(.move (.tmp 13)),none⟩,⟨(some 5),(.assign (.tmp 15)),none⟩]) (.seq (.draws (.take ⟨(some 16),(.move (.tmp 0)),none⟩ (.take ⟨(some 17),(.move (.tmp 5)),none⟩ (.take ⟨(some 18),(.iaddr k (.tmp 16) (.tmp 17)),none⟩ (.take ⟨(some 19),(.loadN k (.tmp 18)),none⟩ (.take ⟨(some 20),(.move (.tmp 1)),none⟩ (.take ⟨(some 21),(.move (.tmp 5)),none⟩ (.take ⟨(some 22),(.iaddr k (.tmp 20) (.tmp 21)),none⟩ (.take ⟨(some 23),(.loadN k (.tmp 22)),none⟩ (.take ⟨(some 24),(.aeq true ts (.tmp 19) (.tmp 23)),none⟩ .done)))))))))) (.cond (.tmp 24) (.seq (.ops [⟨(some 4),(.assign (.const (.bool false))),none⟩]) .ret) .skip)))) (.ops [⟨(some 25),(.bin .add (.tmp 13) (.const (.int .i64 1))),none⟩,⟨(some 13),(.move (.tmp 25)),none⟩]))))))) (.seq (.ops [⟨(some 4),(.assign (.const (.bool true))),none⟩]) .ret)))),[(.move (.tmp 4))]⟩
theorem rS{P:Program}(hm:P.follows .mixedOrders=true){f:FuncId}{k:Nat}{ts:List Nat}(hf:aj P f=some (wn k ts)){α:Type}(e:α -> α -> Bool)(c:α -> List AV)(hc:∀ x,(c x).length=k)(hu:∀ x,(c x).map AV.unown=c x)(he:∀ x y,qF ts (c x) (c y)=some (e x y))(xs ys:List α)(h:d4)(hl:xs.length <= 140737488355328):
  ae P f [.sl k (am c xs) none .no,.sl k (am c ys) none .no] h (.v (.bool (nJ e xs ys))) h []:=by
 refine ac hf hm (by simp[wn]) fun hh hargs=>?_
 simp at hargs
 by_cases hlen:xs.length=ys.length
 ·simp[wn,hlen]
  refine ap (D:=Nat) (fun j=>⟨[(0,.sl k (am c xs) none .no),(1,.sl k (am c ys) none .no),(12,.v (.int .i64 ys.length)),(13,.v (.int .i64 j))],[],h,[]⟩) (fun j=>j <= xs.length /\ ∀ i (h1:i<xs.length) (h2:i<ys.length),i<j -> (e:α -> α -> Bool) xs[i] ys[i]=true) (fun j=>xs.length-j) 0 ⟨by omega,fun i h1 h2 h3=>by omega⟩ ?_ ?_
  ·simp[Leq,hh,hargs]
  ·rintro j ⟨hj,hp⟩
   simp
   refine bG (decide (j<ys.length)) (by simp) (fun hlt=>?_) (fun hge=>?_)
   ·simp at hlt
    have hlt':j<xs.length:=by omega
    have hw:IntKind.i64.wrap ((j:Int)+1)=(j:Int)+1:=wrap64 (by omega) (by omega)
    simp[hlt,hlt',hc,hu,he]
    refine bG (!e xs[j] ys[j]) (by simp) (fun ht=>?_) (fun hf'=>?_)
    ·simp at ht
     have:nJ e xs ys=false:=rR (i:=j) hlt' hlt (by simpa using ht)
     simp[hh,this]
    ·simp at hf'
     simp
     refine⟨j+1,⟨by omega,fun i h1 h2 h3=>?_⟩,by omega,?_⟩
     ·rcases aag i j with h4 |h4
      ·simpa using hp i h1 h2 h4
      ·have:i=j:=by omega
       subst this;simpa using hf'
     ·simp[Leq,hh,hargs,hw]
   ·simp at hge
    have hx:nJ e xs ys=true:=(ia _ xs ys).2 ⟨hlen,fun i h1 h2=>hp i h1 h2 (by omega)⟩
    simp[hh,hx]
 ·have hne:(xs.length:Int)≠ys.length:=by omega
  have hx:nJ e xs ys=false:=nK hlen
  simp[wn,hne,hh,hx]
def wm(z:List AV)(k:Nat):XFun:=⟨32,(.seq (.ops [⟨(some 6),(.assign (.const (.bool false))),none⟩]) (.seq (.seq (.ops [⟨(some 10),(.move (.tmp 0)),none⟩,⟨(some 11),(.lenL (.tmp 10)),none⟩,⟨(some 12),(.move (.tmp 1)),none⟩,⟨(some 13),(.lenL (.tmp 12)),none⟩,⟨(some 14),(.bin .neq (.tmp 11) (.tmp 13)),none⟩]) (.cond (.tmp 14) (.seq (.ops [⟨(some 6),(.assign (.const (.bool false))),none⟩]) .ret) .skip)) (.seq (.seq (.ops [⟨(some 15),(.move (.tmp 0)),none⟩,⟨(some 16),(.lenL (.tmp 15)),none⟩,⟨(some 17),(.move (.const (.int .i64 0))),none⟩]) (.block 0 (.loop (.seq (.ops [⟨(some 18),(.bin .lss (.tmp 17) (.tmp 16)),none⟩]) (.seq (.cond (.tmp 18) .skip (.exit 0)) (.seq (.block 1 (.seq (.ops [⟨(some 19),(.move (.tmp 17)),none⟩,⟨(some 20),(.iaddr k (.tmp 15) (.tmp 17)),none⟩,⟨(some 21),(.loadN k (.tmp 20)),none⟩,⟨(some 8),(.alloc z),none⟩,⟨(some 7),(.assign (.tmp 19)),none⟩,⟨none,(.store k (.tmp 8) (.tmp 21)),none⟩]) (.seq (.ops [⟨(some 22),(.move (.tmp 1)),none⟩,⟨(some 23),(.move (.tmp 7)),none⟩,⟨(some 24),(.iaddr k (.tmp 22) (.tmp 23)),none⟩,⟨(some 25),(.loadN k (.tmp 24)),none⟩,⟨(some 9),(.alloc z),none⟩,⟨none,(.store k (.tmp 9) (.tmp 25)),none⟩]) (.seq (.ops [⟨(some 26),(.move (.tmp 2)),none⟩,⟨(some 27),(.loadN k (.tmp 8)),none⟩,⟨(some 28),(.loadN k (.tmp 9)),none⟩,⟨(some 29),(.callv (.tmp 26) [(.tmp 27),(.tmp 28)]),none⟩,⟨(some 30),(.un .not (.tmp 29)),none⟩]) (.cond (.tmp 30) (.seq (.ops [⟨(some 6),(.assign (.const (.bool false))),none⟩]) .ret) .skip))))) (.ops [⟨(some 31),(.bin .add (.tmp 17) (.const (.int .i64 1))),none⟩,⟨(some 17),(.move (.tmp 31)),none⟩]))))))) (.seq (.ops [⟨(some 6),(.assign (.const (.bool true))),none⟩]) .ret)))),[(.move (.tmp 6))]⟩
theorem Ap{P:Program}(hm:P.follows .mixedOrders=true){f g:FuncId}{z:List AV}{k:Nat}(hf:aj P f=some (wm z k))(hz:z.length=k){α:Type}(e:α -> α -> Bool)(c:α -> List AV)(hc:∀ x,(c x).length=k)(hu:∀ x,(c x).map AV.unown=c x)(xs ys:List α)(h:d4)
  (hg:∀ x y h,ae P g [.agg (c x),.agg (c y)] h (.v (.bool (e x y))) h []) (hl:xs.length <= 140737488355328) :
  ae P f [.sl k (am c xs) none .no,.sl k (am c ys) none .no,.fn (.func g) [] []] h (.v (.bool (nJ e xs ys))) h []:=by
 refine ac hf hm (by simp[wm]) fun hh hargs=>?_
 simp at hargs
 have tk:∀ x,(c x).take k=c x:=fun x=>aaf (by rw[hc];exact Nat.le_refl _)
 by_cases hlen:xs.length=ys.length
 ·simp[wm,hlen]
  refine ap (D:=Nat) (fun j=>⟨[(0,.sl k (am c xs) none .no),(1,.sl k (am c ys) none .no),(2,.fn (.func g) [] []),(15,.sl k (am c xs) none .no),(16,.v (.int .i64 ys.length)),(17,.v (.int .i64 j))],[],h,[]⟩) (fun j=>j <= xs.length /\ ∀ i (h1:i<xs.length) (h2:i<ys.length),i<j -> e xs[i] ys[i]=true) (fun j=>xs.length-j) 0 ⟨by omega,fun i h1 h2 h3=>by omega⟩ ?_ ?_
  ·simp[Leq,hh,hargs]
  ·rintro j ⟨hj,hp⟩
   simp
   refine bG (decide (j<ys.length)) (by simp) (fun hlt=>?_) (fun hge=>?_)
   ·simp at hlt
    have hlt':j<xs.length:=by omega
    have hw:IntKind.i64.wrap ((j:Int)+1)=(j:Int)+1:=wrap64 (by omega) (by omega)
    simp[hlt,hlt',hc,hu,hz,GG,tk]
    refine aa (by simp) (hg _ _ _) ?_
    simp
    refine bG (!e xs[j] ys[j]) (by simp) (fun ht=>?_) (fun hf'=>?_)
    ·simp at ht
     simp[hh,rR hlt' hlt ht]
    ·simp at hf'
     simp
     refine⟨j+1,⟨by omega,fun i h1 h2 h3=>?_⟩,by omega,?_⟩
     ·rcases aag i j with h4 |h4
      ·exact hp i h1 h2 h4
      ·have:i=j:=by omega
       subst this;exact hf'
     ·simp[Leq,hh,hargs,hw]
   ·simp at hge
    have hx:nJ e xs ys=true:=(ia _ xs ys).2 ⟨hlen,fun i h1 h2=>hp i h1 h2 (by omega)⟩
    simp[hh,hx]
 ·have hne:(xs.length:Int)≠ys.length:=by omega
  have hx:nJ e xs ys=false:=nK hlen
  simp[wm,hne,hh,hx]
theorem pq{α:Type}{c:α -> List AV}{k:Nat}(hc:∀ x,(c x).length=k):∀ xs:List α,(am c xs).flatten.length=xs.length*k
 | []=>by simp
 | x::xs=>by rw[dF,aaa,List.length_append,hc,pq hc xs,aae,aaj];omega
theorem yi{α:Type}{c:α -> List AV}{k:Nat}(hc:∀ x,(c x).length=k):∀(xs:List α) (j:Nat) (hj:j<xs.length),((am c xs).flatten.drop (j*k)).take k=c xs[j]
 | x::xs,0,_=>by rw[dF,aaa,Nat.zero_mul,aai,aah (hc x)];rfl
 | x::xs,j+1,hj=>by
  have hj':j<xs.length:=by simpa using hj
  rw[dF,aaa,show(j+1)*k=(c x).length+j*k by rw[hc,aaj];omega,List.drop_append,List.drop_of_length_le (by omega),List.nil_append,show(c x).length+j*k-(c x).length=j*k by omega,yi hc xs j hj']
  rfl
theorem rA{α:Type}{c:α -> List AV}{k:Nat}(hc:∀ x,(c x).length=k):∀ xs:List α,cC k xs.length (am c xs).flatten=am c xs
 | []=>rfl
 | x::xs=>by
  rw[aae,wO,dF,aaa,aah (hc x),List.drop_left' (hc x),rA hc xs]
theorem Cw{α:Type}{c:α -> List AV}{k:Nat}(hc:∀ x,(c x).length=k)(xs:List α)(i n:Nat)(hn:n=xs.length):(AV.bsl i 0 k n).frz i (am c xs).flatten=.sl k (am c xs) (some false) .no:=by
 subst hn
 have hl:=pq hc xs
 show(if i=i /\ 0+xs.length*k <= (am c xs).flatten.length then AV.sl k (cC k xs.length (((am c xs).flatten.drop 0).take (xs.length*k))) (some false) .no else AV.bsl i 0 k xs.length)=_
 rw[if_pos ⟨rfl,by rw[hl];omega⟩,aai,aaf (by rw[hl];omega),rA hc]
@[simp] theorem YV(i:Nat)(cs:List AV)(x:Value):(AV.v x).frz i cs=.v x:=uy
@[simp] theorem Ux(i:Nat)(cs:List AV)(j o:Nat):(AV.box j o).frz i cs=.box j o:=uy
@[simp] theorem Wx(i:Nat)(cs:List AV)(k:Nat)(es:d4)(nul:Option Bool)(room:Room):(AV.sl k es nul room).frz i cs=.sl k es nul room:=uy
@[simp] theorem Pd(i:Nat)(cs:List AV):yl i cs []=[]:=uy
@[simp] theorem L8(i:Nat)(cs:List AV)(t:Nat)(a:AV)(r:List (Nat×AV)):yl i cs ((t,a)::r)=(t,a.frz i cs)::yl i cs r:=uy
@[simp] theorem Za(i:Nat)(cs:List AV)(e o:List (Nat×AV))(h:d4)(wr:List Nat):(St.mk e o h wr).frz i cs=⟨yl i cs e,o,h.set i [],wr⟩:=uy
end Go.Proofs.YtlbgjlmokpkkeaaGreatDoor.Ax
