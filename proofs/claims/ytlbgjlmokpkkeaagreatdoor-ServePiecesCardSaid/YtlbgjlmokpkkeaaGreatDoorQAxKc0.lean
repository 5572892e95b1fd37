import Derived.Lib.Walk
import Derived.Lib.AppendZeros
import Derived.Test.YtlbgjlmokpkkeaaGreatDoorQAxIb
import Derived.Test.YtlbgjlmokpkkeaaGreatDoorQCodeA
import Derived.Test.YtlbgjlmokpkkeaaGreatDoorQHelA
import Derived.Test.YtlbgjlmokpkkeaaGreatDoorQAxCl
import Derived.Test.YtlbgjlmokpkkeaaGreatDoorQAxRo
open Nat renaming le_refl -> aaa, zero_le -> aag, succ_mul -> aal
open List renaming getElem?_eq_some_iff -> aab, flatten_cons -> aac, getD_eq_getElem?_getD -> aad, getElem?_append_right -> aae, getElem?_map -> aaf, mem_cons_of_mem -> aah, length_pos_iff -> aai, getElem?_range -> aaj, mem_cons_self -> aak, length_cons -> aam, mem_map -> aan, range -> aao
set_option linter.all false
namespace Go.Proofs.YtlbgjlmokpkkeaaGreatDoor.Nm
set_option maxRecDepth 100000
open Go.RowKit Go By
theorem JA:∃ i,Tryz.prog.info? 5=some i /\ i.zero=some (.int .u8 0) /\ i.size=1 /\ i.bytes=1:=by
 have h:(Tryz.prog.info? 5).map (fun i=>(i.zero,i.size,i.bytes))=some (some (.int .u8 0),1,1):=by kernel_rfl
 cases hi:Tryz.prog.info? 5 with
 | none=>rw[hi] at h;cases h
 | some i =>
  rw[hi] at h
  simp at h
  exact⟨i,rfl,h.1,h.2.1,h.2.2⟩
theorem Gv(n:Nat)(w:World)(hn:n <= 140737488355328):
  Calls Tryz.prog 169 #[.slice none 0 0,.int .i64 n] w fun e w'=>∃ v,e=.returned v /\ OwnB 5 w' w.heap.size v [] /\ Below w.heap.size w w':=by
 obtain⟨i,hi,hz,hs,hb⟩:=JA
 have h1:¬((n:Int)<0):=by omega
 rcases Nat.eq_zero_or_pos n with h0 |h0
 ·subst h0
  go_enter Tryz.func169,Tryz.ntmps169
  go_wp2
  go_ret
  exact⟨_,rfl,⟨rfl,.inl ⟨rfl,rfl⟩⟩,Below.refl _ _⟩
 ·have h3:wrap64 (n:Int)=n:=by unfold wrap64;omega
  have h4:(n:Int)>0:=by omega
  have hr:∀ ty,_:=fun ty=>Lib.run_append_nil_zeros (P:=Tryz.prog) w 23 3 ty 5 i (.int .u8 0) .i64 .i64 Tryz.underlying23 Tryz.underlying3 hi hz n h0 (by omega) (by omega) (by rw[hb];omega)
  have hG:=grownCap_ge w n 0 5
  have hG2:=grownCap_le_maxLen w n 0 5 (by unfold maxLen;omega)
  obtain⟨g,hg⟩:∃ g,g=grownCap w n 0 5:=⟨_,rfl⟩
  rw[<- hg] at hr hG hG2
  have hG3:g <= 9223372036854775807:=by unfold maxLen at hG2;omega
  go_enter Tryz.func169,Tryz.ntmps169
  go_wp2_with (at_builtin;refine Lib.wpList_append_run _ rfl _ _ _ _ rfl _ _ rfl rfl _ _ (hr _) ?_)
  rw[<- hg]
  go_ret
  refine⟨_,rfl,⟨rfl,.inr ⟨_,g,_,rfl,aaa _,heap_alloc_new w _,aag _,hG2,?_,rfl⟩⟩,?_⟩
  ·have hz1:∀ m,(Builtin.zeroCells #[Value.int IntKind.u8 0] m).size=m:=fun m=>by simp[Builtin.zeroCells]
   rw[Array.size_append,hz1,hz1];omega
  ·exact((Below.refl _ _).alloc (aaa _) _).drew
end Go.Proofs.YtlbgjlmokpkkeaaGreatDoor.Nm
namespace Go.Proofs.YtlbgjlmokpkkeaaGreatDoor.Ax
open Go.RowKit Go By YtlbgjlmokpkkeaaGreatDoor.Nm Sc Dg
set_option maxRecDepth 10000
theorem mixed:Tryz.prog.follows .mixedOrders=true:=by kernel_rfl
theorem dT{G:Ghost}:∀ {l:List Value} {vs:List Value},SeesL G (l.map AV.v) vs -> vs=l
 | [],vs,h=>h.none
 | x::l,vs,h=>by
  obtain⟨y,r,rfl,h1,h2⟩:=h.split
  rw[h1.inv_v,dT h2]
theorem ed{P:Program}{f:FuncId}(hE:dL P f=true){l:List Value}{v:Value}(h:d4)(hc:∀ w,Calls P f l.toArray w fun e w'=>e=.returned v /\ w=w'):ae P f (l.map AV.v) h (.v v) h [] :=
 ew hE rfl fun G w vs _ hs=>⟨v,.v v,by rw[dT hs];exact hc w⟩
theorem ub{P:Program}{f:FuncId}(hE:dL P f=true){l r:List Value}(h:d4)(hc:∀ w,Calls P f l.toArray w fun e w'=>e=.returned (.tuple r.toArray) /\ w=w'):ae P f (l.map AV.v) h (.tup (r.map AV.v)) h [] :=
 ew hE rfl fun G w vs _ hs=>⟨.tuple r.toArray,.tup _ r (by simp) (fun j c hj=>by
  rw[aaf] at hj
  cases hr:r[j]? with
  | none=>rw[hr] at hj;cases hj
  | some x=>rw[hr] at hj;injection hj with hj;subst hj;rw[aad,hr];exact .v x),by rw[dT hs];exact hc w⟩
theorem CR(n size:Int)(h:d4):ae Tryz.prog 163 [.v (.int .i64 n),.v (.int .i64 size)] h (.v (.bool (aB n size))) h [] :=
 ed (l:=[.int .i64 n,.int .i64 size]) (by kernel_rfl) h (jd n size)
theorem ji(n size:Int)(h:d4):ae Tryz.prog 55 [.v (.int .i64 n),.v (.int .i64 size)] h (.v (.bool (aB n size))) h [] :=
 ed (l:=[.int .i64 n,.int .i64 size]) (by kernel_rfl) h (gF n size)
theorem zi(n size:Int)(h:d4):ae Tryz.prog 91 [.v (.int .i64 n),.v (.int .i64 size)] h (.v (.int .i64 (cv n size))) h [] :=
 ed (l:=[.int .i64 n,.int .i64 size]) (by kernel_rfl) h (Bt n size)
theorem JW(s:d5)(h:d4):ae Tryz.prog 160 [.v (.string (af s))] h (.v (.bool (cleanB s))) h [] :=
 ed (l:=[.string (af s)]) (by kernel_rfl) h fun w=>by have:=Dz (af s) w;rwa [lO] at this
theorem lj(s:d5)(hs:s.length <= maxLen)(h:d4):ae Tryz.prog 54 [.v (.string (af s))] h (.v (.bool (cleanB s))) h [] :=
 ed (l:=[.string (af s)]) (by kernel_rfl) h fun w=>by have:=Bb (af s) w (by simpa using hs);rwa [lO] at this
theorem lC{G:Ghost}{w:World}(hW:WorldOk G w){xs:d5}{vs:List Value}{l:List Value}(hs:SeesL G (.sl 1 (ai xs) none .no::l.map AV.v) vs):∃ a cap,vs=.slice a xs.length cap::l /\ (a=none -> cap=0) /\ xs.length <= cap /\ cap <= maxLen /\ BytesAt w w.heap.size a xs:=by
 obtain⟨x,r,rfl,h1,h2⟩:=hs.split
 obtain⟨a,cap,rfl,h3⟩:=h1.bytes hW
 exact⟨a,cap,by rw[dT h2],h3⟩
theorem CC{xs:d5}{w w':World}{e:Ending}(h:Made xs w e w'):∃ v,e=.returned v /\ OwnB 5 w' w.heap.size v xs /\ Below w.heap.size w w':=by
 obtain⟨a,cap,he,_,ho,_,hb⟩:=h
 exact⟨_,he,ho,hb⟩
theorem qf(xs:d5)(n size:Int)(hl:xs.length <= 140737488351232)(h:d4):ae Tryz.prog 168 [.sl 1 (ai xs) none .no,.v (.int .i64 n),.v (.int .i64 size)] h (.sl 1 (ai (aY xs n size)) none (.own .res)) h [] :=
 ff (E:=5) (by kernel_rfl) fun G w vs hW hs=>by
  obtain⟨a,cap,rfl,h1,_,_,h2⟩:=lC (l:=[.int .i64 n,.int .i64 size]) hW hs
  exact(KI _ a cap xs n size w h2 (aaa _) h1 hl).mono fun e w' hm=>CC hm
theorem iK(xs:d5)(n size:Int)(hl:xs.length <= 140737488351232)(h:d4):ae Tryz.prog 37 [.sl 1 (ai xs) none .no,.v (.int .i64 n),.v (.int .i64 size)] h (.sl 1 (ai (aY xs n size)) none (.own .res)) h [] :=
 ff (E:=5) (by kernel_rfl) fun G w vs hW hs=>by
  obtain⟨a,cap,rfl,h1,_,_,h2⟩:=lC (l:=[.int .i64 n,.int .i64 size]) hW hs
  exact(HG _ a cap xs n size w h2 h1 hl).mono fun e w' hm=>CC hm
theorem LU(xs:d5)(i size:Int)(h:d4):ae Tryz.prog 84 [.sl 1 (ai xs) none .no,.v (.int .i64 i),.v (.int .i64 size)] h (.tup [.v (.int .i64 (cO xs i size)),.v (.int .i64 (cn xs.length i size))]) h [] :=
 ew (by kernel_rfl) rfl fun G w vs hW hs=>by
  obtain⟨a,cap,rfl,_,h1,h3,h2⟩:=lC (l:=[.int .i64 i,.int .i64 size]) hW hs
  refine⟨kV xs i size,.tup _ [_,_] rfl fun j c hj=>?_,Kb _ a cap xs i size w (by unfold maxLen at h3;omega) h2⟩
  rcases j with _ |_ |j<;>simp at hj<;>subst hj<;>exact .v _
theorem Ow(n:Nat)(hn:n <= 140737488355328)(h:d4):ae Tryz.prog 169 [.sl 0 [] (some true) .exact,.v (.int .i64 n)] h (.sl 1 (ai []) none (.own .res)) h [] :=
 ff (E:=5) (by kernel_rfl) fun G w vs _ hs=>by
  obtain⟨x,r,rfl,h1,h2⟩:=hs.split
  rw[dT (l:=[.int .i64 n]) h2]
  cases h1 with
  | sl _ _ _ _ a len cap u hlen hn2 =>
   have ha:=hn2.2.1 rfl
   obtain⟨e1,e2⟩:=hn2.1 ha
   subst ha e1 e2
   exact Gv n w hn
end Go.Proofs.YtlbgjlmokpkkeaaGreatDoor.Ax
namespace Go.Proofs.YtlbgjlmokpkkeaaGreatDoor.Ax
set_option maxRecDepth 100000
open Go.RowKit Go By YtlbgjlmokpkkeaaGreatDoor.Nm
set_option maxRecDepth 10000
theorem iZ{P:Program}{t:TypeId}{z:Value}{k b:Nat}(h:(P.info? t).map (fun i=>(i.zero,i.size,i.bytes))=some (some z,k,b)):∃ i,P.info? t=some i /\ i.zero=some z /\ i.size=k /\ i.bytes=b:=by
 cases hi:P.info? t with
 | none=>rw[hi] at h;cases h
 | some i=>rw[hi] at h;injection h with h;injection h with h1 h2;injection h2 with h2 h3;exact⟨i,rfl,h1,h2,h3⟩
theorem uF{G:Ghost}{k:Nat}(hk0:0<k){es:d4}{nul:Option Bool}{room:Room}{x:Value}(h:Sees G (.sl k es nul room) x)(hne:es≠[]){w:World}(hW:WorldOk G w):
  ∃(b o cap:Nat) (us:List Value),x=.slice (some ⟨b,o,none⟩) es.length cap /\ b<w.heap.size /\ us.length=es.length*k /\ es.flatten.length=es.length*k /\ (∀ x∈us,x.oneCell'=true) /\ (∀(j:Nat) (u:Value),us[j]?=some u -> w.cell? ⟨b,o+j,none⟩=some u) /\ ∀(j:Nat) (c:AV),es.flatten[j]?=some c -> Sees G c (us.getD j undef):=by
 cases h with
 | sl _ _ _ _ a len cap u hlen hn hk hcap hm hr hc hs h1 =>
  have hpos:0<es.length:=aai.2 hne
  obtain⟨b,o,rfl,hcell⟩:=hc hpos
  subst hlen
  have hfl:es.flatten.length=es.length*k:=by
   have key:∀ l:d4,(∀ e∈l,e.length=k) -> l.flatten.length=l.length*k:=fun l=>by
    induction l with
    | nil=>intro _;simp
    | cons x l ih=>intro hl;rw[aac,List.length_append,ih fun e he=>hl e (aah _ he),hl x (aak ..),aam,aal];omega
   exact key es hk
  have at_:∀ j,j<es.length*k -> j / k<es.length /\ j % k<k /\ j / k*k+j % k=j:=fun j hj=>⟨(Nat.div_lt_iff_lt_mul hk0).2 hj,Nat.mod_lt _ hk0,by rw[Nat.mul_comm];exact Nat.div_add_mod j k⟩
  have cellj:∀ j,j<es.length*k -> w.cell? ⟨b,o+j,none⟩=some (u (j / k) (j % k)):=fun j hj=>by
   obtain⟨h2,h3,h4⟩:=at_ j hj
   have:=hW.cell (hcell _ _ h2 h3)
   rwa [Nat.add_assoc,h4] at this
  refine⟨b,o,cap,(aao (es.length*k)).map fun j=>u (j / k) (j % k),rfl,?_,by simp,hfl,fun x hx=>?_,fun j y hy=>?_,fun j c hj=>?_⟩
  ·exact mS (cellj 0 (Nat.mul_pos hpos hk0))
  ·obtain⟨j,hj,rfl⟩:=aan.1 hx
   obtain⟨h2,h3,_⟩:=at_ j (List.mem_range.1 hj)
   exact h1 _ _ h2 h3
  ·rw[aaf] at hy
   cases hj:(aao (es.length*k))[j]? with
   | none=>rw[hj] at hy;cases hy
   | some i =>
    rw[hj] at hy
    injection hy with hy
    have hlt:=(aab.1 hj).1
    simp at hlt
    rw[aaj hlt] at hj
    injection hj with hj
    subst hj hy
    exact cellj j hlt
  ·have hlt:j<es.length*k:=by rw[<- hfl];exact(aab.1 hj).1
   obtain⟨h2,h3,h4⟩:=at_ j hlt
   rw[aad,aaf,aaj hlt]
   have key:∀(l:d4) (p q:Nat) (c:AV),(∀ e∈l,e.length=k) -> q<k -> l.flatten[p*k+q]?=some c -> ∃ e,l[p]?=some e /\ e[q]?=some c:=fun l=>by
    induction l with
    | nil=>intro p q c _ _ hh;simp at hh
    | cons x l ih =>
     intro p q c hl hq hh
     have hx:=hl x (aak ..)
     rw[aac] at hh
     cases p with
     | zero=>rw[Nat.zero_mul,Nat.zero_add,List.getElem?_append_left (by omega)] at hh;exact⟨x,rfl,hh⟩
     | succ p =>
      rw[aae (by rw[hx,aal];omega),hx,show(p+1)*k+q-k=p*k+q by rw[aal];omega] at hh
      obtain⟨e,h5,h6⟩:=ih p q c (fun e he=>hl e (aah _ he)) hq hh
      exact⟨e,by simpa using h5,h6⟩
   rw[<- h4] at hj
   obtain⟨e,h5,h6⟩:=key es _ _ c hk h3 hj
   exact hs _ e h5 _ c h6
theorem um:(Tryz.prog.info? 74).map (fun i=>(i.zero,i.size,i.bytes))=some (some (.agg #[.bool false,.slice none 0 0]),2,32):=by kernel_rfl
theorem rC(b o n c:Nat)(us:List Value)(w:World)(hl:us.length=n*2)(hc:∀(j:Nat) (u:Value),us[j]?=some u -> w.cell? ⟨b,o+j,none⟩=some u)(hb:b<w.heap.size)(h1:∀ u∈us,u.oneCell'=true)(hn:n <= 4398046511104):
  Calls Tryz.prog 238 #[.slice (some ⟨b,o,none⟩) n c] w fun e w'=>∃ v,e=.returned v /\ w'.ownsRow w.heap.size 74 2 v n us /\ Below w.heap.size w w':=by
 obtain⟨i0,hi,hz0,hz1,hz2⟩:=iZ um
 have heq:=fun W:World=>Lib.run_eql_slice_nil (P:=Tryz.prog) W 40 74 (some ⟨b,o,none⟩) n c 0 0 Tryz.underlying40
 have HX0:∀(j:Nat) (u:Value),us[j]?=some u -> (w.alloc (.cells #[] 74)).cell? ((⟨b,o,none⟩:Addr).add j)=some u:=fun j u hu=>by
  rw[add_plain,(al w _ (o+j) hb).1];exact hc j u hu
 have HX:=Lib.hid HX0
 have HL:=Lib.hid hl
 have H1:=Lib.hid h1
 clear HX0 hc hl h1
 go_enter Tryz.func238,Tryz.ntmps238
 go_wp2_with (at_builtin;refine wpList_append_own_at (w:=w.alloc (.cells #[] 74)) rfl _ _ 40 rfl w.heap.size 74 i0 (.agg #[.bool false,.slice none 0 0]) 2 32 Tryz.underlying40 hi hz0 hz1 hz2 rfl (by omega) _ 0 [] rfl ?c1 ⟨b,o,none⟩ n c us rfl HL.out HX.out H1.out ?c4 ?c5 ?c6 ?c7)
 case c1=>exact World.ownsRow_made w #[] 0 (aaa _) (by simp[maxLen]) (by simp)
 case c4=>unfold maxLen;omega
 case c5=>omega
 case c6=>simp
 case c7 =>
  intro v' w' hown hg
  intros
  have HO:=Lib.hid hown
  clear hown
  go_wp2
  go_ret
  refine⟨v',rfl,by simpa using HO.out,((Below.refl _ _).alloc (aaa _) _).grown hg (by simp) (by simp[Value.ownBlock])⟩
theorem pm(ad:Addr)(c:Nat)(w:World):
  Calls Tryz.prog 238 #[.slice (some ad) 0 c] w fun e w'=>∃ v,e=.returned v /\ w'.ownsRow w.heap.size 74 2 v 0 [] /\ Below w.heap.size w w':=by
 obtain⟨i0,hi,hz0,hz1,hz2⟩:=iZ um
 have heq:=fun W:World=>Lib.run_eql_slice_nil (P:=Tryz.prog) W 40 74 (some ad) 0 c 0 0 Tryz.underlying40
 go_enter Tryz.func238,Tryz.ntmps238
 go_wp2_with (at_builtin;refine wpList_append_own_at (w:=w.alloc (.cells #[] 74)) rfl _ _ 40 rfl w.heap.size 74 i0 (.agg #[.bool false,.slice none 0 0]) 2 32 Tryz.underlying40 hi hz0 hz1 hz2 rfl (by omega) _ 0 [] rfl ?c1 ad 0 c [] rfl (by simp) (by simp) (by simp) ?c4 ?c5 ?c6 ?c7)
 case c1=>exact World.ownsRow_made w #[] 0 (aaa _) (by simp[maxLen]) (by simp)
 case c4=>unfold maxLen;omega
 case c5=>omega
 case c6=>simp
 case c7 =>
  intro v' w' hown hg
  intros
  have HO:=Lib.hid hown
  clear hown
  go_wp2
  go_ret
  refine⟨v',rfl,by simpa using HO.out,((Below.refl _ _).alloc (aaa _) _).grown hg (by simp) (by simp[Value.ownBlock])⟩
theorem rD(w:World)(c:Nat):Calls Tryz.prog 238 #[.slice none 0 c] w fun e w'=>e=.returned (.slice none 0 0) /\ w=w':=by
 have heq:=fun W:World=>Lib.run_eql_slice_nil (P:=Tryz.prog) W 40 74 none 0 c 0 0 Tryz.underlying40
 go_enter Tryz.func238,Tryz.ntmps238
 go_wp2
 go_ret
 exact⟨rfl,rfl⟩
theorem Cp:(Tryz.prog.info? 5).map (fun i=>(i.zero,i.size,i.bytes))=some (some (.int .u8 0),1,1):=by kernel_rfl
theorem wb(b o n c:Nat)(us:List Value)(w:World)(hl:us.length=n*1)(hc:∀(j:Nat) (u:Value),us[j]?=some u -> w.cell? ⟨b,o+j,none⟩=some u)(hb:b<w.heap.size)(h1:∀ u∈us,u.oneCell'=true)(hn:n <= 140737488351232):
  Calls Tryz.prog 239 #[.slice (some ⟨b,o,none⟩) n c] w fun e w'=>∃ v,e=.returned v /\ w'.ownsRow w.heap.size 5 1 v n us /\ Below w.heap.size w w':=by
 obtain⟨i0,hi,hz0,hz1,hz2⟩:=iZ Cp
 have heq:=fun W:World=>Lib.run_eql_slice_nil (P:=Tryz.prog) W 23 5 (some ⟨b,o,none⟩) n c 0 0 Tryz.underlying23
 have HX0:∀(j:Nat) (u:Value),us[j]?=some u -> (w.alloc (.cells #[] 5)).cell? ((⟨b,o,none⟩:Addr).add j)=some u:=fun j u hu=>by
  rw[add_plain,(al w _ (o+j) hb).1];exact hc j u hu
 have HX:=Lib.hid HX0
 have HL:=Lib.hid hl
 have H1:=Lib.hid h1
 clear HX0 hc hl h1
 go_enter Tryz.func239,Tryz.ntmps239
 go_wp2_with (at_builtin;refine wpList_append_own_at (w:=w.alloc (.cells #[] 5)) rfl _ _ 23 rfl w.heap.size 5 i0 (.int .u8 0) 1 1 Tryz.underlying23 hi hz0 hz1 hz2 rfl (by omega) _ 0 [] rfl ?c1 ⟨b,o,none⟩ n c us rfl HL.out HX.out H1.out ?c4 ?c5 ?c6 ?c7)
 case c1=>exact World.ownsRow_made w #[] 0 (aaa _) (by simp[maxLen]) (by simp)
 case c4=>unfold maxLen;omega
 case c5=>omega
 case c6=>simp
 case c7 =>
  intro v' w' hown hg
  intros
  have HO:=Lib.hid hown
  clear hown
  go_wp2
  go_ret
  refine⟨v',rfl,by simpa using HO.out,((Below.refl _ _).alloc (aaa _) _).grown hg (by simp) (by simp[Value.ownBlock])⟩
theorem rB(ad:Addr)(c:Nat)(w:World):
  Calls Tryz.prog 239 #[.slice (some ad) 0 c] w fun e w'=>∃ v,e=.returned v /\ w'.ownsRow w.heap.size 5 1 v 0 [] /\ Below w.heap.size w w':=by
 obtain⟨i0,hi,hz0,hz1,hz2⟩:=iZ Cp
 have heq:=fun W:World=>Lib.run_eql_slice_nil (P:=Tryz.prog) W 23 5 (some ad) 0 c 0 0 Tryz.underlying23
 go_enter Tryz.func239,Tryz.ntmps239
 go_wp2_with (at_builtin;refine wpList_append_own_at (w:=w.alloc (.cells #[] 5)) rfl _ _ 23 rfl w.heap.size 5 i0 (.int .u8 0) 1 1 Tryz.underlying23 hi hz0 hz1 hz2 rfl (by omega) _ 0 [] rfl ?c1 ad 0 c [] rfl (by simp) (by simp) (by simp) ?c4 ?c5 ?c6 ?c7)
 case c1=>exact World.ownsRow_made w #[] 0 (aaa _) (by simp[maxLen]) (by simp)
 case c4=>unfold maxLen;omega
 case c5=>omega
 case c6=>simp
 case c7 =>
  intro v' w' hown hg
  intros
  have HO:=Lib.hid hown
  clear hown
  go_wp2
  go_ret
  refine⟨v',rfl,by simpa using HO.out,((Below.refl _ _).alloc (aaa _) _).grown hg (by simp) (by simp[Value.ownBlock])⟩
theorem wc(w:World)(c:Nat):Calls Tryz.prog 239 #[.slice none 0 c] w fun e w'=>e=.returned (.slice none 0 0) /\ w=w':=by
 have heq:=fun W:World=>Lib.run_eql_slice_nil (P:=Tryz.prog) W 23 5 none 0 c 0 0 Tryz.underlying23
 go_enter Tryz.func239,Tryz.ntmps239
 go_wp2
 go_ret
 exact⟨rfl,rfl⟩
theorem we(l:List Cl)(hne:l≠[])(hl:l.length <= 4398046511104)(h:d4):ae Tryz.prog 238 [.sl 2 (am aq l) none .no] h (.bsl h.length 0 2 l.length) (h++[(am aq l).flatten]) []:=by
 refine qD (by kernel_rfl) (fun c hc=>?_) fun G w vs hW hvs=>?_
 ·obtain⟨e,he,hce⟩:=List.mem_flatten.1 hc
  unfold am at he
  obtain⟨x,_,rfl⟩:=aan.1 he
  simp[aq] at hce
  rcases hce with rfl |rfl<;>rfl
 ·obtain⟨x,rfl,hx⟩:=hvs.one
  obtain⟨b,o,cap,us,rfl,h1,h2,h3,h4,h5,h6⟩:=uF (by omega) hx (by simpa[am] using hne) hW
  have hlen:(am aq l).length=l.length:=by simp
  rw[hlen] at h2 h3 ⊢
  refine(rC b o l.length cap us w h2 h5 h1 h4 hl).mono fun e w' he=>?_
  obtain⟨v,rfl,⟨_,hown⟩,hb⟩:=he
  rcases hown with⟨_,hn⟩ |⟨g,cap2,cur,rfl,hg,hrow,hcap,hmax,hcs,htake⟩
  ·exact absurd (List.eq_nil_of_length_eq_zero hn) hne
  ·refine⟨g,cap2,us,rfl,hg,(Array.getElem?_eq_some_iff.1 hrow).1,hcap,⟨hmax,fun j hj=>⟨by rw[cell_of_row _ _ j cur _ (0,0) hrow,Array.getElem?_eq_getElem (by omega)];rfl,by simp[World.frozen?,hrow]⟩⟩,by rw[h2,h3],h4,h6,fun j x hj=>?_,hb⟩
   rw[<- htake,List.getElem?_take] at hj
   split at hj
   ·refine⟨by rw[cell_of_row _ _ j cur _ (0,0) hrow,<- Array.getElem?_toList];exact hj,?_⟩
    simp[World.frozen?,hrow]
   ·cases hj
theorem tM(h:d4):ae Tryz.prog 238 [.sl 2 [] none .no] h (.sl 2 [] none .no) h []:=by
 refine bW (by kernel_rfl) rfl fun G w vs hW hvs=>?_
 obtain⟨x,rfl,hx⟩:=hvs.one
 cases hx with
 | sl _ _ _ _ a len cap u hlen hn hk hcap hm =>
  have hl0:len=0:=hlen
  subst hl0
  have empty:∀(G:Ghost) (a:Option Addr) (cap:Nat),(a=none -> cap=0) -> cap <= maxLen -> Sees G (.sl 2 [] none .no) (.slice a 0 cap):=fun G a cap h1 h2 =>
   .sl 2 [] none .no a 0 cap (fun _ _=>undef) rfl ⟨fun h=>⟨h1 h,rfl⟩,fun h=>(by cases h),fun h=>(by cases h)⟩ (fun e h=>by cases h) (aag _) h2 (fun h=>by cases h) (fun h=>by simp at h) (fun i e h=>by simp at h) (fun i j h=>by simp at h)
  cases a with
  | none =>
   refine(rD w cap).mono fun e w' he=>?_
   obtain⟨rfl,rfl⟩:=he
   exact⟨_,rfl,empty G none 0 (fun _=>rfl) (aag _),Below.refl _ _⟩
  | some ad =>
   refine(pm ad cap w).mono fun e w' he=>?_
   obtain⟨v,rfl,⟨_,hown⟩,hb⟩:=he
   rcases hown with⟨rfl,_⟩ |⟨g,cap2,cur,rfl,hg,hrow,hcap2,hmax,hcs,htake⟩
   ·exact⟨_,rfl,empty G none 0 (fun _=>rfl) (aag _),hb⟩
   ·exact⟨_,rfl,empty G _ cap2 (fun h=>by cases h) hmax,hb⟩
theorem zW(xs:d5)(hl:xs.length <= 140737488351232)(h:d4):ae Tryz.prog 239 [.sl 1 (ai xs) none .no] h (.sl 1 (ai xs) none (.own .res)) h []:=by
 refine ff (E:=5) (by kernel_rfl) fun G w vs hW hvs=>?_
 obtain⟨x,rfl,hx⟩:=hvs.one
 obtain⟨a,cap,rfl,hc0,hcap,hmax,hat⟩:=hx.bytes hW
 cases a with
 | none =>
  have hn:xs=[]:=by
   cases xs with
   | nil=>rfl
   | cons x l=>obtain⟨_,_,hh,_⟩:=hat (by simp);cases hh
  subst hn
  refine(wc w cap).mono fun e w' he=>?_
  obtain⟨rfl,rfl⟩:=he
  exact⟨_,rfl,World.ownsRow_nil _ _ _ _,Below.refl _ _⟩
 | some ad =>
  by_cases hn:xs=[]
  ·subst hn
   refine(rB ad cap w).mono fun e w' he=>?_
   obtain⟨v,rfl,hown,hb⟩:=he
   exact⟨v,rfl,hown,hb⟩
  ·obtain⟨b,off,e1,hblt,hcell⟩:=hat (aai.2 hn)
   injection e1 with e1
   subst e1
   refine(wb b off xs.length cap (vals xs) w (by simp[vals]) (fun j u hu=>by
    have hj:j<xs.length:=by
     have:=(aab.1 hu).1;simpa[vals] using this
    rw[eI xs j hj] at hu
    injection hu with hu
    subst hu
    exact hcell j hj) hblt (lw xs) hl).mono fun e w' he=>?_
   obtain⟨v,rfl,hown,hb⟩:=he
   exact⟨v,rfl,hown,hb⟩
end Go.Proofs.YtlbgjlmokpkkeaaGreatDoor.Ax
namespace Go.Proofs.YtlbgjlmokpkkeaaGreatDoor.Ax
open Go.RowKit Go By YtlbgjlmokpkkeaaGreatDoor.Nm Sc Dg
set_option maxRecDepth 10000
theorem bA{i:Nat}:∀(F:List AV) (j:Nat),kz i j F F
 | [],_=>trivial
 | x::r,j=>⟨ja _ _,bA r (j+1)⟩
theorem yF{i:Nat}:∀(F:List AV) (j p:Nat) (a b:AV),F[p]?=some b -> LeqV (.cell i (j+p)) a b -> kz i j (F.set p a) F
 | x::r,j,0,a,b,h,hv=>by
  simp at h
  subst h
  exact⟨hv,bA r (j+1)⟩
 | x::r,j,p+1,a,b,h,hv=>⟨ja _ _,yF r (j+1) p a b (by simpa using h) (by rw[show j+1+p=j+(p+1) by omega];exact hv)⟩
theorem uE:∀(l:List Cl) (i:Nat) (hi:i<l.length),(am aq l).flatten[i*2+1]?=some (.sl 1 (ai l[i].2) none .no)
 | x::l,0,_=>by simp[aq]
 | x::l,i+1,hi=>by
  have hi':i<l.length:=by simpa using hi
  have ih:=uE l i hi'
  have hc:(aq x).length=2:=rfl
  rw[dF,aac,aae (by rw[hc];omega),show(i+1)*2+1-(aq x).length=i*2+1 by rw[hc];omega,ih]
  rfl
theorem yh(n:Nat):∀ l:List Cl,cb n (am aq l).flatten
 | []=>trivial
 | x::l=>by rw[dF,aac,bX];exact⟨⟨trivial,cH n _,trivial⟩,yh n l⟩
theorem sg{a b:d4}:∀(h:d4) (k:Nat),iI (k+h.length) a b -> iI k (h++a) (h++b)
 | [],k,hh=>by simpa using hh
 | c::r,k,hh=>⟨.inl rfl,sg r (k+1) (by simp only[aam] at hh;rw[show k+1+r.length=k+(r.length+1) by omega];exact hh)⟩
end Go.Proofs.YtlbgjlmokpkkeaaGreatDoor.Ax
