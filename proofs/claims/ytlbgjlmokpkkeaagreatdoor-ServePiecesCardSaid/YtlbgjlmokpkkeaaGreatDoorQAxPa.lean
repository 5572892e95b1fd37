import Derived.Test.YtlbgjlmokpkkeaaGreatDoorQAxCy
import Derived.Test.YtlbgjlmokpkkeaaGreatDoorQAxIp
open List renaming getElem?_eq_some_iff -> aaa, getElem?_take -> aab, getElem?_drop -> aad, getD_eq_getElem?_getD -> aae, mem_map -> aag
open Nat renaming zero_le -> aac, le_refl -> aaf
set_option linter.all false
set_option maxRecDepth 10000
namespace Go.Proofs.YtlbgjlmokpkkeaaGreatDoor
namespace Ax
open Go.RowKit Go By
def VV:XFun:=⟨4,.seq (.ops [oK 0 (.pointer none)]) (.seq (.ops [oX 1 (.makeMap 1 true),oD 2 0 [.v (.map none)] 1,oJ 3 2,oA 0 3]) .ret),[.move (.tmp 0)]⟩
theorem ZN:aj Tryz.prog 52=some VV:=by kernel_rfl
def vY:XFun:=⟨35,.seq (.ops [oJ 5 2,oK 6 (.int .i64 0)]) (.seq (.block 0 (.seq (.ops [oM 9 0,oX 10 (.pnileq false (.tmp 9)),oM 11 10,oG 11 false (oM 12 0),oG 11 false (oX 13 (.nilCheck (.tmp 12))),oG 11 false (oF 14 0 13),oG 11 false (oL 15 14),oG 11 false (oX 16 (.mnileq false (.tmp 15))),oU 17 11 16,oA 8 17]) (.cond (.tmp 8) (.seq (.ops [oK 6 (.int .i64 2)]) .ret) (.seq (.ops [oM 19 1,oI 20 .neq 19 (.string (af [])),oM 21 20,oG 21 true (oM 22 0),oG 21 true (oM 23 1),oG 21 true (oC 24 127 [22,23]),oG 21 true (oX 25 (.pnileq true (.tmp 24))),oT 26 21 25,oA 18 26]) (.cond (.tmp 18) (.seq (.ops [oK 6 (.int .i64 8)]) .ret) .skip))))) (.seq (.ops [oP 27 6 5,oC 28 198 [27],oZ 7 tE,oS 6 7 28]) (.seq (.draws (.take (oM 29 0) (.take (oX 30 (.nilCheck (.tmp 29))) (.take (oF 31 0 30) (.take (oL 32 31) (.take (oM 33 1) (.only (oC 34 53 [33]) (.last ⟨none,.mapUpd none 1 true (.tmp 32) (.tmp 34) (.tmp 7),none⟩)))))))) (.seq (.ops [oK 6 (.int .i64 0)]) .ret)))),[.move (.tmp 6)]⟩
theorem OA:aj Tryz.prog 139=some vY:=by kernel_rfl
def FT:XFun:=⟨17,.seq (.ops [oZ 4 tE,oK 5 (.bool false)]) (.seq (.ops [oM 7 0,oM 8 1,oC 9 127 [7,8],oA 6 9]) (.seq (.seq (.ops [oM 10 6,oX 11 (.pnileq false (.tmp 10))]) (.cond (.tmp 11) (.seq (.ops [oX 12 (.build tE []),oS 6 4 12,oK 5 (.bool false)]) .ret) .skip)) (.seq (.ops [oM 13 6,oX 14 (.nilCheck (.tmp 13)),oP 15 6 14,oC 16 198 [15],oS 6 4 16,oK 5 (.bool true)]) .ret))),[.loadN 6 (.tmp 4),.move (.tmp 5)]⟩
theorem SQ:aj Tryz.prog 200=some FT:=by kernel_rfl
def FP:XFun:=⟨27,.seq (.ops [oK 6 (.bool false)]) (.seq (.ops [oM 8 0,oM 9 1,oC 10 127 [8,9],oA 7 10]) (.seq (.seq (.ops [oM 11 7,oX 12 (.pnileq false (.tmp 11)),oM 13 12,oG 13 false (oM 14 7),oG 13 false (oX 15 (.nilCheck (.tmp 14))),oG 13 false (oF 16 4 15),oG 13 false (oL 17 16),oU 18 13 17]) (.cond (.tmp 18) (.seq (.ops [oK 6 (.bool false)]) .ret) .skip)) (.seq (.ops [oM 19 7,oM 20 7,oM 21 2,oC 22 202 [21],oX 23 (.nilCheck (.tmp 19)),oF 24 4 23,oQ 1 24 (.bool true),oX 25 (.nilCheck (.tmp 20)),oF 26 3 25,oS 1 26 22]) (.seq (.ops [oK 6 (.bool true)]) .ret)))),[.move (.tmp 6)]⟩
theorem SK:aj Tryz.prog 143=some FP:=by kernel_rfl
def vZ:XFun:=⟨59,.seq (.ops [oN 6,oK 7 (.bool false)]) (.seq (.ops [oM 10 0,oM 11 1,oC 12 127 [10,11],oA 8 12]) (.seq (.seq (.ops [oM 13 8,oX 14 (.pnileq false (.tmp 13)),oM 15 14,oG 15 false (oM 16 8),oG 15 false (oX 17 (.nilCheck (.tmp 16))),oG 15 false (oF 18 4 17),oG 15 false (oL 19 18),oG 15 false (oV 20 19),oU 21 15 20,oM 22 21,oG 22 false (oM 23 8),oG 22 false (oX 24 (.nilCheck (.tmp 23))),oG 22 false (oF 25 5 24),oG 22 false (oL 26 25),oU 27 22 26]) (.cond (.tmp 27) (.seq (.ops [oN 6,oK 7 (.bool false)]) .ret) .skip)) (.seq (.seq (.ops [oM 28 2,oI 29 .lss 28 (.int .i64 1)]) (.cond (.tmp 29) (.ops [oM 30 8,oX 31 (.nilCheck (.tmp 30)),oF 32 3 31,oL 33 32,oH 34 33,oA 2 34]) .skip)) (.seq (.ops [oM 35 8,oM 36 2,oM 37 8,oX 38 (.nilCheck (.tmp 37)),oF 39 3 38,oL 40 39,oH 41 40,oX 42 (.minI [.tmp 36,.tmp 41]),oC 43 203 [35,42],oA 9 43]) (.seq (.ops [oM 44 8,oM 45 8,oX 46 (.nilCheck (.tmp 45)),oF 47 3 46,oL 48 47,oH 49 48,oI 50 .eql 49 (.int .i64 0),oX 51 (.nilCheck (.tmp 44)),oF 52 5 51,oS 1 52 50]) (.seq (.draws (.take (oM 53 9) (.take (oM 54 8) (.take (oX 55 (.nilCheck (.tmp 54))) (.take (oF 56 5 55) (.take (oL 57 56) (.take (oV 58 57) (.take (oA 6 53) (.take (oA 7 58) .done))))))))) .ret)))))),[.move (.tmp 6),.move (.tmp 7)]⟩
theorem Ki:aj Tryz.prog 144=some vZ:=by kernel_rfl
def Sj:XFun:=⟨14,.seq (.ops [oK 4 (.bool false)]) (.seq (.seq (.ops [oM 5 0,oM 6 1,oC 7 127 [5,6],oX 8 (.pnileq false (.tmp 7))]) (.cond (.tmp 8) (.seq (.ops [oK 4 (.bool false)]) .ret) .skip)) (.seq (.ops [oM 9 0,oX 10 (.nilCheck (.tmp 9)),oF 11 0 10,oL 12 11,oM 13 1,⟨none,.mapDel none 1 true (.tmp 12) (.tmp 13),none⟩]) (.seq (.ops [oK 4 (.bool true)]) .ret))),[.move (.tmp 4)]⟩
theorem Y8:aj Tryz.prog 93=some Sj:=by kernel_rfl
def Wb:XFun:=⟨8,.seq (.ops [oM 2 0,oX 3 (.pnileq true (.tmp 2))]) (.cond (.tmp 3) (.ops [oM 4 0,oX 5 (.nilCheck (.tmp 4)),oF 6 0 5,oL 7 6,⟨none,.clearM 1 true (.tmp 7),none⟩]) .skip),[]⟩
theorem k92:aj Tryz.prog 92=some Wb:=by kernel_rfl
def JF:XFun:=⟨13,.seq (.ops [oK 4 (.pointer none)]) (.seq (.seq (.ops [oM 5 0,oX 6 (.pnileq false (.tmp 5))]) (.cond (.tmp 6) (.seq (.ops [oK 4 (.pointer none)]) .ret) .skip)) (.seq (.ops [oM 7 0,oX 8 (.nilCheck (.tmp 7)),oF 9 0 8,oL 10 9,oM 11 1,oX 12 (.lookup none 1 true false qw (.tmp 10) (.tmp 11)),oA 4 12]) .ret)),[.move (.tmp 4)]⟩
theorem Xf:aj Tryz.prog 127=some JF:=by kernel_rfl
def c203:XFun:=⟨29,.seq (.ops [oN 4]) (.seq (.ops [oM 6 0,oX 7 (.nilCheck (.tmp 6)),oF 8 3 7,oL 9 8,oM 10 1,oX 11 (.slice 1 (.tmp 9) none (some (.tmp 10)) none),oC 12 242 [11],oA 5 12]) (.seq (.ops [oM 13 0,oX 14 (.nilCheck (.tmp 13)),oF 15 3 14,oL 16 15,oM 17 1,oX 18 (.slice 1 (.tmp 16) none (some (.tmp 17)) none),⟨none,.clearS (.slice none 0 0) (.tmp 18),none⟩]) (.seq (.ops [oM 19 0,oM 20 0,oX 21 (.nilCheck (.tmp 20)),oF 22 3 21,oL 23 22,oM 24 1,oX 25 (.slice 1 (.tmp 23) (some (.tmp 24)) none none),oX 26 (.nilCheck (.tmp 19)),oF 27 3 26,oS 1 27 25]) (.seq (.ops [oM 28 5,oA 4 28]) .ret)))),[.move (.tmp 4)]⟩
theorem SR:aj Tryz.prog 203=some c203:=by kernel_rfl
def FS:XFun:=⟨22,.seq (.ops [oJ 1 0,oZ 2 tE]) (.seq (.draws (.take (oF 3 0 1) (.take (oF 4 0 3) (.take (oL 5 4) (.take (oF 7 0 1) (.take (oF 8 1 7) (.take (oL 9 8) (.only (oC 6 53 [5]) (.only (oC 10 136 [9]) (.take (oX 11 (.build qJ [(0,1,.tmp 6),(1,1,.tmp 10)])) (.take (oF 12 0 1) (.last (oS 2 12 11))))))))))))) (.seq (.ops [oF 13 2 1,oL 14 13,oC 15 191 [14],oF 16 2 1,oS 1 16 15]) (.seq (.ops [oF 17 3 1,oL 18 17,oC 19 202 [18],oF 20 3 1,oS 1 20 19]) (.seq (.ops [oP 21 6 1,oS 6 2 21]) .ret)))),[.loadN 6 (.tmp 2)]⟩
theorem SP:aj Tryz.prog 198=some FS:=by kernel_rfl
def c202:XFun:=⟨22,.seq (.ops [oN 2]) (.seq (.ops [oM 6 0,oC 7 242 [6],oA 3 7]) (.seq (.seq (.ops [oM 8 3,oH 9 8,oX 10 (.move (.const (.int .i64 0)))]) (.block 0 (.loop (.seq (.ops [oB 11 .lss 10 9]) (.seq (.cond (.tmp 11) .skip (.exit 0)) (.seq (.block 1 (.seq (.ops [oM 12 10,oW 13 1 8 10,oL 14 13,oA 4 12,oA 5 14]) (.ops [oM 15 3,oM 16 4,oM 17 5,oC 18 191 [17],oW 19 1 15 16,oS 1 19 18]))) (.ops [oI 20 .add 10 (.int .i64 1),oM 10 20]))))))) (.seq (.ops [oM 21 3,oA 2 21]) .ret))),[.move (.tmp 2)]⟩
theorem OB:aj Tryz.prog 202=some c202:=by kernel_rfl
end Ax
namespace Ax
set_option maxRecDepth 100000
open Go.RowKit Go By YtlbgjlmokpkkeaaGreatDoor.Nm Sc Dg
def cL(r:List Cl):AV:=.sl 2 (am aq r) none .no
theorem CS(r:List Cl):cL r=.sl 2 (am aq r) none .no:=rfl
theorem KY(n:Nat)(r:List Cl):(cL r).lt n:=by simp[cL]
theorem pE:∀ L:List (List Cl),(am bN L).flatten=L.map cL
 | []=>rfl
 | x::L=>by rw[dF,List.flatten_cons,pE L];rfl
theorem gE(n:Nat)(L:List (List Cl)):cb n (L.map cL):=dx fun j c hj=>by
 obtain⟨r,_,rfl⟩:=aag.1 (List.mem_of_getElem? hj)
 exact KY n r
theorem sQ(L:List (List Cl)):∀ c∈L.map cL,c.idOf=none:=fun c hc=>by
 obtain⟨r,_,rfl⟩:=aag.1 hc
 rfl
theorem Gq{G:Ghost}{w:World}{h:d4}(hW:WorldOk G w)(hS:dB G h){i off n:Nat}{cs:List AV}(hcs:h[i]?=some cs)(hfit:off+n <= cs.length){x:Value}(hx:Sees G (.bsl i off 1 n) x)(hn:0<n):
  ∃(b o cap:Nat) (us:List Value),x=.slice (some ⟨b,o,none⟩) n cap /\ b<w.heap.size /\ us.length=n*1 /\ (∀ x∈us,x.oneCell'=true) /\ (∀(j:Nat) (u:Value),us[j]?=some u -> w.cell? ⟨b,o+j,none⟩=some u) /\ ∀(j:Nat) (c:AV),((cs.drop off).take n)[j]?=some c -> Sees G c (us.getD j undef):=by
 cases hx with
 | bsl _ _ _ _ b cap hb hcap hm o ho =>
  have hbl:i<G.boxv.length:=by rw[<- hS.1];exact(aaa.1 hcs).1
  obtain⟨vs,hvs⟩:∃ vs,G.boxv[i]?=some vs:=⟨_,List.getElem?_eq_getElem hbl⟩
  obtain⟨q1,q2,q3⟩:=hS.2 i cs vs hcs hvs
  obtain⟨b1,b2,b3,b4⟩:=hW.box i b vs hb.1 hvs
  have ho2:o=G.base i+off:=by omega
  subst ho2
  refine⟨b,G.base i+off,cap,(vs.drop off).take n,rfl,b2,by rw[List.length_take,List.length_drop];omega,fun x hx=>q2 x (List.mem_of_mem_drop (List.mem_of_mem_take hx)),fun j u hu=>?_,fun j c hj=>?_⟩
  ·rw[aab] at hu
   split at hu
   ·rw[aad] at hu
    rw[Nat.add_assoc]
    exact(b4 (off+j) u hu hb.2).1
   ·cases hu
  ·rw[aab] at hj
   split at hj
   ·rename_i hjn
    rw[aad] at hj
    rw[aae,aab,if_pos hjn,aad,<- aae]
    exact q3 _ c hj
   ·cases hj
theorem yX:(Tryz.prog.info? 40).map (fun i=>(i.zero,i.size,i.bytes))=some (some (.slice none 0 0),1,24):=by kernel_rfl
theorem tN(b o n c:Nat)(us:List Value)(w:World)(hl:us.length=n*1)(hc:∀(j:Nat) (u:Value),us[j]?=some u -> w.cell? ⟨b,o+j,none⟩=some u)(hb:b<w.heap.size)(h1:∀ u∈us,u.oneCell'=true)(hn:n <= 4398046511104):
  Calls Tryz.prog 242 #[.slice (some ⟨b,o,none⟩) n c] w fun e w'=>∃ v,e=.returned v /\ w'.ownsRow w.heap.size 40 1 v n us /\ Below w.heap.size w w':=by
 obtain⟨i0,hi,hz0,hz1,hz2⟩:=iZ yX
 have heq:=fun W:World=>Lib.run_eql_slice_nil (P:=Tryz.prog) W 213 40 (some ⟨b,o,none⟩) n c 0 0 Tryz.underlying213
 have HX0:∀(j:Nat) (u:Value),us[j]?=some u -> (w.alloc (.cells #[] 40)).cell? ((⟨b,o,none⟩:Addr).add j)=some u:=fun j u hu=>by
  rw[add_plain,(al w _ (o+j) hb).1];exact hc j u hu
 have HX:=Lib.hid HX0
 have HL:=Lib.hid hl
 have H1:=Lib.hid h1
 clear HX0 hc hl h1
 go_enter Tryz.func242,Tryz.ntmps242
 go_wp2_with (at_builtin;refine wpList_append_own_at (w:=w.alloc (.cells #[] 40)) rfl _ _ 213 rfl w.heap.size 40 i0 (.slice none 0 0) 1 24 Tryz.underlying213 hi hz0 hz1 hz2 rfl (by omega) _ 0 [] rfl ?c1 ⟨b,o,none⟩ n c us rfl HL.out HX.out H1.out ?c4 ?c5 ?c6 ?c7)
 case c1=>exact World.ownsRow_made w #[] 0 (aaf _) (by simp[maxLen]) (by simp)
 case c4=>unfold maxLen;omega
 case c5=>omega
 case c6=>simp
 case c7 =>
  intro v' w' hown hg
  intros
  have HO:=Lib.hid hown
  clear hown
  go_wp2
  go_ret
  refine⟨v',rfl,by simpa using HO.out,((Below.refl _ _).alloc (aaf _) _).grown hg (by simp) (by simp[Value.ownBlock])⟩
theorem ki(ad:Addr)(c:Nat)(w:World):
  Calls Tryz.prog 242 #[.slice (some ad) 0 c] w fun e w'=>∃ v,e=.returned v /\ w'.ownsRow w.heap.size 40 1 v 0 [] /\ Below w.heap.size w w':=by
 obtain⟨i0,hi,hz0,hz1,hz2⟩:=iZ yX
 have heq:=fun W:World=>Lib.run_eql_slice_nil (P:=Tryz.prog) W 213 40 (some ad) 0 c 0 0 Tryz.underlying213
 go_enter Tryz.func242,Tryz.ntmps242
 go_wp2_with (at_builtin;refine wpList_append_own_at (w:=w.alloc (.cells #[] 40)) rfl _ _ 213 rfl w.heap.size 40 i0 (.slice none 0 0) 1 24 Tryz.underlying213 hi hz0 hz1 hz2 rfl (by omega) _ 0 [] rfl ?c1 ad 0 c [] rfl (by simp) (by simp) (by simp) ?c4 ?c5 ?c6 ?c7)
 case c1=>exact World.ownsRow_made w #[] 0 (aaf _) (by simp[maxLen]) (by simp)
 case c4=>unfold maxLen;omega
 case c5=>omega
 case c6=>simp
 case c7 =>
  intro v' w' hown hg
  intros
  have HO:=Lib.hid hown
  clear hown
  go_wp2
  go_ret
  refine⟨v',rfl,by simpa using HO.out,((Below.refl _ _).alloc (aaf _) _).grown hg (by simp) (by simp[Value.ownBlock])⟩
theorem tP(w:World)(c:Nat):Calls Tryz.prog 242 #[.slice none 0 c] w fun e w'=>e=.returned (.slice none 0 0) /\ w=w':=by
 have heq:=fun W:World=>Lib.run_eql_slice_nil (P:=Tryz.prog) W 213 40 none 0 c 0 0 Tryz.underlying213
 go_enter Tryz.func242,Tryz.ntmps242
 go_wp2
 go_ret
 exact⟨rfl,rfl⟩
theorem wg(h:d4):ae Tryz.prog 242 [.sl 1 [] none .no] h (.sl 1 [] none .no) h []:=by
 refine bW (by kernel_rfl) rfl fun G w vs hW hvs=>?_
 obtain⟨x,rfl,hx⟩:=hvs.one
 cases hx with
 | sl _ _ _ _ a len cap u hlen hn hk hcap hm =>
  have hl0:len=0:=hlen
  subst hl0
  have empty:∀(G:Ghost) (a:Option Addr) (cap:Nat),(a=none -> cap=0) -> cap <= maxLen -> Sees G (.sl 1 [] none .no) (.slice a 0 cap):=fun G a cap h1 h2 =>
   .sl 1 [] none .no a 0 cap (fun _ _=>undef) rfl ⟨fun h=>⟨h1 h,rfl⟩,fun h=>(by cases h),fun h=>(by cases h)⟩ (fun e h=>by cases h) (aac _) h2 (fun h=>by cases h) (fun h=>by simp at h) (fun i e h=>by simp at h) (fun i j h=>by simp at h)
  cases a with
  | none =>
   refine(tP w cap).mono fun e w' he=>?_
   obtain⟨rfl,rfl⟩:=he
   exact⟨_,rfl,empty G none 0 (fun _=>rfl) (aac _),Below.refl _ _⟩
  | some ad =>
   refine(ki ad cap w).mono fun e w' he=>?_
   obtain⟨v,rfl,⟨_,hown⟩,hb⟩:=he
   rcases hown with⟨rfl,_⟩ |⟨g,cap2,cur,rfl,hg,hrow,hcap2,hmax,hcs,htake⟩
   ·exact⟨_,rfl,empty G none 0 (fun _=>rfl) (aac _),hb⟩
   ·exact⟨_,rfl,empty G _ cap2 (fun h=>by cases h) hmax,hb⟩
def RowsX(h:d4)(x:AV)(L:List (List Cl)):Prop :=
 x=.sl 1 (am bN L) none .no \/ ∃ b o cs,x=.bsl b o 1 L.length /\ h[b]?=some cs /\ (cs.drop o).take L.length=L.map cL /\ o+L.length <= cs.length
theorem RowsX.bsl{h:d4}{b o:Nat}{cs:List AV}{L:List (List Cl)}(hb:h[b]?=some cs)(hd:(cs.drop o).take L.length=L.map cL)(ho:o+L.length <= cs.length):RowsX h (.bsl b o 1 L.length) L:=.inr ⟨b,o,cs,rfl,hb,hd,ho⟩
theorem RowsX.id{h:d4}{x:AV}{L:List (List Cl)}(hx:RowsX h x L):x.idOf=none:=by
 rcases hx with rfl |⟨b,o,cs,rfl,_⟩<;>rfl
theorem RowsX.unown{h:d4}{x:AV}{L:List (List Cl)}(hx:RowsX h x L):x.unown=x:=by
 rcases hx with rfl |⟨b,o,cs,rfl,_⟩<;>rfl
theorem RowsX.cells{h:d4}{x:AV}{L:List (List Cl)}(hx:RowsX h x L):x.cells=some [x]:=by
 rcases hx with rfl |⟨b,o,cs,rfl,_⟩<;>rfl
theorem RowsX.lt{h:d4}{x:AV}{L:List (List Cl)}(hx:RowsX h x L):x.lt h.length:=by
 rcases hx with rfl |⟨b,o,cs,rfl,hb,_⟩
 ·simp only[KU]
  exact dd (f:=bN) _ (fun a=>by simp[bN]) L
 ·exact(aaa.1 hb).1
theorem RowsX.app{h:d4}{x:AV}{L:List (List Cl)}(hx:RowsX h x L)(xs:d4):RowsX (h++xs) x L:=by
 rcases hx with rfl |⟨b,o,cs,rfl,hb,h2,h3⟩
 ·exact .inl rfl
 ·exact .inr ⟨b,o,cs,rfl,by rw[List.getElem?_append_left (aaa.1 hb).1];exact hb,h2,h3⟩
theorem kK{h:d4}{x:AV}{L:List (List Cl)}(hx:RowsX h x L)(hne:L≠[])(hl:L.length <= 4398046511104):ae Tryz.prog 242 [x] h (.bsl h.length 0 1 L.length) (h++[L.map cL]) []:=by
 refine iT (by kernel_rfl) (sQ L) fun G w vs hW hS hvs=>?_
 obtain⟨v,rfl,hv⟩:=hvs.one
 have key:∃(b o cap:Nat) (us:List Value),v=.slice (some ⟨b,o,none⟩) L.length cap /\ b<w.heap.size /\ us.length=L.length*1 /\ (∀ x∈us,x.oneCell'=true) /\ (∀(j:Nat) (u:Value),us[j]?=some u -> w.cell? ⟨b,o+j,none⟩=some u) /\ ∀(j:Nat) (c:AV),(L.map cL)[j]?=some c -> Sees G c (us.getD j undef):=by
  rcases hx with rfl |⟨b,o,cs,rfl,hb,hd,ho⟩
  ·obtain⟨b,o,cap,us,rfl,h1,h2,h3,h4,h5,h6⟩:=uF (by omega) hv (by simpa[am] using hne) hW
   have hlen:(am bN L).length=L.length:=by simp
   rw[hlen] at h2 h3 ⊢
   rw[pE] at h6
   exact⟨b,o,cap,us,rfl,h1,h2,h4,h5,h6⟩
  ·obtain⟨b',o',cap,us,e,h1,h2,h4,h5,h6⟩:=Gq hW hS hb ho hv (List.length_pos_iff.2 hne)
   rw[hd] at h6
   exact⟨b',o',cap,us,e,h1,h2,h4,h5,h6⟩
 obtain⟨b,o,cap,us,rfl,h1,h2,h4,h5,h6⟩:=key
 refine(tN b o L.length cap us w h2 h5 h1 h4 hl).mono fun e w' he=>?_
 obtain⟨v,rfl,⟨_,hown⟩,hb⟩:=he
 rcases hown with⟨_,hn⟩ |⟨g,cap2,cur,rfl,hg,hrow,hcap,hmax,hcs,htake⟩
 ·exact absurd (List.eq_nil_of_length_eq_zero hn) hne
 ·refine⟨g,cap2,us,rfl,hg,(Array.getElem?_eq_some_iff.1 hrow).1,hcap,⟨hmax,fun j hj=>⟨by rw[cell_of_row _ _ j cur _ (0,0) hrow,Array.getElem?_eq_getElem (by omega)];rfl,by simp[World.frozen?,hrow]⟩⟩,by rw[h2];simp,h4,h6,fun j x hj=>?_,hb⟩
  rw[<- htake,aab] at hj
  split at hj
  ·refine⟨by rw[cell_of_row _ _ j cur _ (0,0) hrow,<- Array.getElem?_toList];exact hj,?_⟩
   simp[World.frozen?,hrow]
  ·cases hj
theorem pV{h:d4}{x:AV}(hx:RowsX h x []):ae Tryz.prog 242 [x] h (.sl 1 [] none .no) h []:=by
 rcases hx with rfl |⟨b,o,cs,rfl,hb,hd,ho⟩
 ·exact wg h
 ·refine bW (by kernel_rfl) rfl fun G w vs hW hvs=>?_
  obtain⟨x,rfl,hx⟩:=hvs.one
  cases hx with
  | bsl _ _ _ _ bb cap hbb hcap hm o2 ho2 =>
   refine(ki ⟨bb,o2,none⟩ cap w).mono fun e w' he=>?_
   obtain⟨v,rfl,⟨_,hown⟩,hb2⟩:=he
   have empty:∀(G:Ghost) (a:Option Addr) (cap:Nat),(a=none -> cap=0) -> cap <= maxLen -> Sees G (.sl 1 [] none .no) (.slice a 0 cap):=fun G a cap h1 h2 =>
    .sl 1 [] none .no a 0 cap (fun _ _=>undef) rfl ⟨fun h=>⟨h1 h,rfl⟩,fun h=>(by cases h),fun h=>(by cases h)⟩ (fun e h=>by cases h) (aac _) h2 (fun h=>by cases h) (fun h=>by simp at h) (fun i e h=>by simp at h) (fun i j h=>by simp at h)
   rcases hown with⟨rfl,_⟩ |⟨g,cap2,cur,rfl,hg,hrow,hcap2,hmax,hcs,htake⟩
   ·exact⟨_,rfl,empty G none 0 (fun _=>rfl) (aac _),hb2⟩
   ·exact⟨_,rfl,empty G _ cap2 (fun h=>by cases h) hmax,hb2⟩
def RowsFit(L:List (List Cl)):Prop:=L.length <= 1000000 /\ ∀ r∈L,r.length <= 4398046511104 /\ ∀ c∈r,c.2.length <= 140737488351232
theorem pT{h:d4}{x:AV}(hx:RowsX h x []):ae Tryz.prog 202 [x] h (.sl 1 [] none .no) h []:=by
 have hid:=hx.id
 refine ac OB mixed (by simp[c202]) fun hh hargs=>?_
 simp[c202,hid]
 refine aa (by simpa using hid) (pV hx) ?_
 simp
 refine ap (D:=Nat) (fun _=>⟨[(3,.sl 1 [] none .no),(8,.sl 1 [] none .no),(9,.v (.int .i64 0)),(10,.v (.int .i64 0))],[],h,[]⟩) (fun _=>True) (fun _=>0) 0 trivial ?_ ?_
 ·simp[Leq,hh]
 ·intro _ _
  simp[hh]
theorem pU{h:d4}{x:AV}{L:List (List Cl)}(hx:RowsX h x L)(hne:L≠[])(hf:RowsFit L):ae Tryz.prog 202 [x] h (.bsl h.length 0 1 L.length) (h++[L.map cL]) []:=by
 have hid:=hx.id
 have hlt:=hx.lt
 refine ac OB mixed (by simp[c202]) fun hh hargs=>?_
 have hF:=fun n=>gE n L
 have hl1:=hf.1
 simp[c202,hid]
 refine aa (by simpa using hid) (kK hx hne (by omega)) ?_
 simp
 refine ap (D:=Nat) (fun j=>⟨[(3,.bsl h.length 0 1 L.length),(8,.bsl h.length 0 1 L.length),(9,.v (.int .i64 L.length)),(10,.v (.int .i64 j))],[],h++[L.map cL],[]⟩) (fun j=>j <= L.length) (fun j=>L.length-j) 0 (by simp) ?_ ?_
 ·simp[Leq,hh,hF]
 ·intro j hj
  by_cases hlt:j<L.length
  ·have hw:IntKind.i64.wrap ((j:Int)+1)=(j:Int)+1:=wrap64 (by omega) (by omega)
   obtain⟨f1,f2⟩:=hf.2 _ (List.getElem_mem hlt)
   have hsame:(L.map cL).set j (cL L[j])=L.map cL:=by
    refine List.ext_getElem? fun q=>?_
    rw[List.getElem?_set]
    split
    ·rename_i e;subst e;simp[hlt]
    ·rfl
   simp[hlt,CS] at hsame ⊢
   refine aa (by simp) (dW L[j] f1 f2 _) ?_
   have hnext:j+1 <= L.length:=hlt
   simp[hlt,hsame,hw,hnext]
   refine⟨j+1,by omega,by omega,?_⟩
   simp[Leq,hh,hF]
  ·have:j=L.length:=by omega
   subst this
   simp[hh,hF]
end Ax
end Go.Proofs.YtlbgjlmokpkkeaaGreatDoor
