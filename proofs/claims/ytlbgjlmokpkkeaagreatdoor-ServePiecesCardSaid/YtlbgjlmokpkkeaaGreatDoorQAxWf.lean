import Derived.Test.YtlbgjlmokpkkeaaGreatDoorQAxKc0
open List renaming getElem?_eq_some_iff -> aaa, getElem?_append_left -> aab, set_append_left -> aac, getElem?_set_self -> aad, length_set -> aae, set_set -> aaf
set_option linter.all false
set_option maxRecDepth 10000
namespace Go.Proofs.YtlbgjlmokpkkeaaGreatDoor
namespace Ax
open Go.RowKit Go By
def VI:XFun:=⟨31,.seq (.ops [oK 6 (.pointer none),oK 7 (.int .i64 0)]) (.seq (.seq (.ops [oM 8 0,oI 9 .lss 8 (.int .i64 4),oM 10 9,oG 10 false (oM 11 0),oG 10 false (oI 12 .gtr 11 (.int .i64 65536)),oU 13 10 12,oM 14 13,oG 14 false (oM 15 1),oG 14 false (oM 16 0),oG 14 false (oI 17 .add 16 (.int .i64 1)),oG 14 false (oB 18 .lss 15 17),oU 19 14 18,oM 20 19,oG 20 false (oM 21 1),oG 20 false (oI 22 .gtr 21 (.int .i64 262144)),oU 23 20 22]) (.cond (.tmp 23) (.seq (.ops [oK 6 (.pointer none),oK 7 (.int .i64 1)]) .ret) .skip)) (.seq (.ops [oM 24 2,oV 25 24,oM 26 0,oX 27 (.build [.v (.bool false),.v (.int .i64 0)] [(0,1,.tmp 25),(1,1,.tmp 26)]),oM 28 1,oX 29 (.build [.v (.bool false),.v (.int .i64 0),.v (.int .i64 0),.sl 0 [] (some true) .exact,.v (.int .i64 0)] [(0,2,.tmp 27),(2,1,.tmp 28)]),oJ 30 29,oA 6 30,oK 7 (.int .i64 0)]) .ret)),[.move (.tmp 6),.move (.tmp 7)]⟩
theorem Zy:aj Tryz.prog 33=some VI:=by kernel_rfl
def VG:XFun:=⟨30,.seq (.ops [oK 4 (.int .i64 0)]) (.seq (.seq (.ops [oM 5 0,oC 6 50 [5],oV 7 6]) (.cond (.tmp 7) (.seq (.ops [oK 4 (.int .i64 2)]) .ret) .skip)) (.seq (.seq (.draws (.take (oM 8 1) (.take (oH 9 8) (.take (oM 10 0) (.take (oX 11 (.nilCheck (.tmp 10))) (.take (oF 12 2 11) (.take (oL 13 12) (.take (oM 14 0) (.take (oX 15 (.nilCheck (.tmp 14))) (.take (oF 16 3 15) (.take (oL 17 16) (.take (oH 18 17) (.take (oB 19 .sub 13 18) (.take (oB 20 .gtr 9 19) .done)))))))))))))) (.cond (.tmp 20) (.seq (.ops [oK 4 (.int .i64 6)]) .ret) .skip)) (.seq (.ops [oM 21 0,oM 22 0,oX 23 (.nilCheck (.tmp 22)),oF 24 3 23,oL 25 24,oM 26 1,oX 27 (.append 1 1 (.tmp 25) (.tmp 26)),oX 28 (.nilCheck (.tmp 21)),oF 29 3 28,oS 1 29 27]) (.seq (.ops [oK 4 (.int .i64 0)]) .ret)))),[.move (.tmp 4)]⟩
theorem Zv:aj Tryz.prog 29=some VG:=by kernel_rfl
def Se:XFun:=⟨28,.seq (.ops [oZ 2 dA,oK 3 (.bool false),oK 4 (.int .i64 0)]) (.seq (.ops [oM 9 0,oC 10 42 [9],oM 8 10,oE 11 8 0,oE 12 8 1,oE 13 8 2,oZ 5 dA,oS 2 5 11,oA 6 12,oA 7 13]) (.seq (.seq (.ops [oM 14 6,oI 15 .eql 14 (.int .i64 0)]) (.cond (.tmp 15) (.seq (.ops [oX 16 (.build dA []),oM 17 7,oS 2 2 16,oK 3 (.bool false),oA 4 17]) .ret) .skip)) (.seq (.ops [oM 18 0,oM 19 0,oX 20 (.nilCheck (.tmp 19)),oF 21 3 20,oL 22 21,oM 23 6,oX 24 (.slice 1 (.tmp 22) (some (.tmp 23)) none none),oX 25 (.nilCheck (.tmp 18)),oF 26 3 25,oS 1 26 24]) (.seq (.ops [oP 27 2 5,oS 2 2 27,oK 3 (.bool true),oK 4 (.int .i64 0)]) .ret)))),[.loadN 2 (.tmp 2),.move (.tmp 3),.move (.tmp 4)]⟩
theorem Y2:aj Tryz.prog 24=some Se:=by kernel_rfl
def VT:XFun:=⟨8,.seq (.ops [oM 2 0,oC 3 50 [2]]) (.cond (.tmp 3) (.ops [oM 4 0,oX 5 (.nilCheck (.tmp 4)),oF 6 0 5,oF 7 0 6,oQ 1 7 (.bool true)]) .skip),[]⟩
theorem ZL:aj Tryz.prog 49=some VT:=by kernel_rfl
def VU:XFun:=⟨13,.seq (.ops [oK 2 (.bool false)]) (.seq (.ops [oM 3 0,oX 4 (.pnileq true (.tmp 3)),oM 5 4,oG 5 true (oM 6 0),oG 5 true (oX 7 (.nilCheck (.tmp 6))),oG 5 true (oF 8 0 7),oG 5 true (oF 9 1 8),oG 5 true (oL 10 9),oG 5 true (oI 11 .gtr 10 (.int .i64 0)),oT 12 5 11,oA 2 12]) .ret),[.move (.tmp 2)]⟩
theorem ZM:aj Tryz.prog 50=some VU:=by kernel_rfl
def Sg:XFun:=⟨60,.seq (.ops [oZ 2 dA,oK 3 (.int .i64 0),oK 4 (.int .i64 0)]) (.seq (.seq (.ops [oM 7 0,oC 8 50 [7],oV 9 8]) (.cond (.tmp 9) (.seq (.ops [oX 10 (.build dA []),oS 2 2 10,oK 3 (.int .i64 0),oK 4 (.int .i64 2)]) .ret) .skip)) (.seq (.seq (.ops [oM 11 0,oX 12 (.nilCheck (.tmp 11)),oF 13 4 12,oL 14 13,oI 15 .neq 14 (.int .i64 0)]) (.cond (.tmp 15) (.seq (.draws (.take (oX 16 (.build dA [])) (.take (oM 17 0) (.take (oX 18 (.nilCheck (.tmp 17))) (.take (oF 19 4 18) (.take (oL 20 19) (.only (oS 2 2 16) (.take (oK 3 (.int .i64 0)) (.take (oA 4 20) .done))))))))) .ret) .skip)) (.seq (.draws (.take (oM 22 0) (.take (oX 23 (.nilCheck (.tmp 22))) (.take (oF 24 0 23) (.take (oM 25 0) (.take (oX 26 (.nilCheck (.tmp 25))) (.take (oF 27 3 26) (.take (oL 28 27) (.only (oC 29 62 [24,28]) (.take (oM 21 29) (.take (oE 30 21 0) (.take (oE 31 21 1) (.take (oA 5 30) (.take (oA 6 31) .done)))))))))))))) (.seq (.ops [oM 32 0,oM 33 6,oX 34 (.nilCheck (.tmp 32)),oF 35 4 34,oS 1 35 33]) (.seq (.seq (.ops [oM 36 5,oI 37 .eql 36 (.int .i64 0),oM 38 37,oG 38 false (oM 39 5),oG 38 false (oM 40 0),oG 38 false (oX 41 (.nilCheck (.tmp 40))),oG 38 false (oF 42 3 41),oG 38 false (oL 43 42),oG 38 false (oH 44 43),oG 38 false (oB 45 .gtr 39 44),oU 46 38 45]) (.cond (.tmp 46) (.seq (.ops [oX 47 (.build dA []),oM 48 6,oS 2 2 47,oK 3 (.int .i64 0),oA 4 48]) .ret) .skip)) (.seq (.draws (.take (oM 49 0) (.take (oX 50 (.nilCheck (.tmp 49))) (.take (oF 51 0 50) (.take (oM 52 0) (.take (oX 53 (.nilCheck (.tmp 52))) (.take (oF 54 3 53) (.take (oL 55 54) (.take (oM 56 5) (.take (oX 57 (.slice 1 (.tmp 55) none (some (.tmp 56)) none)) (.take (oM 59 5) (.only (oC 58 63 [51,57]) (.only (oS 2 2 58) (.take (oA 3 59) (.take (oK 4 (.int .i64 0)) .done))))))))))))))) .ret)))))),[.loadN 2 (.tmp 2),.move (.tmp 3),.move (.tmp 4)]⟩
theorem Y5:aj Tryz.prog 42=some Sg:=by kernel_rfl
def V6:XFun:=⟨7,.seq (.ops [oK 2 (.int .i64 0)]) (.seq (.seq (.ops [oM 3 0,oX 4 (.nilCheck (.tmp 3)),oF 5 0 4,oL 6 5]) (.cond (.tmp 6) (.seq (.ops [oK 2 (.int .i64 1)]) .ret) .skip)) (.seq (.ops [oK 2 (.int .i64 0)]) .ret)),[.move (.tmp 2)]⟩
theorem Z9:aj Tryz.prog 85=some V6:=by kernel_rfl
def VX:XFun:=⟨32,.seq (.ops [oK 4 (.int .i64 0),oK 5 (.int .i64 0)]) (.seq (.ops [oM 9 1,oM 10 0,oC 11 85 [10],oX 12 (.call 84 [.tmp 9,.tmp 11,.const (.int .i64 4)]),oM 8 12,oE 13 8 0,oE 14 8 1,oA 6 13,oA 7 14]) (.seq (.block 0 (.seq (.ops [oM 16 7,oI 17 .neq 16 (.int .i64 0),oA 15 17]) (.cond (.tmp 15) (.seq (.ops [oK 4 (.int .i64 0),oK 5 (.int .i64 0)]) .ret) (.seq (.ops [oM 19 6,oI 20 .lss 19 (.int .i64 4),oA 18 20]) (.cond (.tmp 18) (.seq (.ops [oK 4 (.int .i64 0),oK 5 (.int .i64 4)]) .ret) (.seq (.ops [oM 22 6,oM 23 0,oX 24 (.nilCheck (.tmp 23)),oF 25 1 24,oL 26 25,oB 27 .gtr 22 26,oA 21 27]) (.cond (.tmp 21) (.seq (.ops [oK 4 (.int .i64 0),oK 5 (.int .i64 5)]) .ret) .skip))))))) (.seq (.ops [oM 28 0,oC 29 85 [28],oM 30 6,oB 31 .add 29 30,oA 4 31,oK 5 (.int .i64 0)]) .ret))),[.move (.tmp 4),.move (.tmp 5)]⟩
theorem ZU:aj Tryz.prog 62=some VX:=by kernel_rfl
def Uj:XFun:=⟨26,.seq (.ops [oZ 4 dA]) (.seq (.ops [oX 6 (.build dA []),oZ 5 dA,oS 2 5 6]) (.seq (.seq (.ops [oM 7 0,oX 8 (.nilCheck (.tmp 7)),oF 9 0 8,oL 10 9]) (.cond (.tmp 10) (.ops [oM 11 1,oX 12 (.iaddr 1 (.tmp 11) (.const (.int .i64 0))),oL 13 12,oF 14 0 5,oS 1 14 13]) .skip)) (.seq (.ops [oM 15 1,oM 16 0,oC 17 85 [16],oI 18 .add 17 (.int .i64 4),oM 19 1,oH 20 19,oM 21 1,oH 22 21,oX 23 (.slice 1 (.tmp 15) (some (.tmp 18)) (some (.tmp 20)) (some (.tmp 22))),oF 24 1 5,oS 1 24 23]) (.seq (.ops [oP 25 2 5,oS 2 4 25]) .ret)))),[.loadN 2 (.tmp 4)]⟩
theorem ZV:aj Tryz.prog 63=some Uj:=by kernel_rfl
end Ax
namespace Ax
open Go.RowKit Go By YtlbgjlmokpkkeaaGreatDoor.Nm Dg
structure Fw where
 typed:Bool
 most:Nat
 room:Nat
 rest:d5
 wrong:Int
def Fw.cells(F:Fw)(i:Nat):List AV:=[.v (.bool F.typed),.v (.int .i64 (F.most:Int)),.v (.int .i64 (F.room:Int)),.sl 1 (ai F.rest) none (.own (.cell i 3)),.v (.int .i64 F.wrong)]
section
variable {h:d4} {i:Nat} {F:Fw}
def Fw.ts(F:Fw):Nat:=if F.typed=true then 1 else 0
theorem rc(hF:h[i]?=some (F.cells i)):ae Tryz.prog 85 [.box i 0] h (.v (.int .i64 (F.ts:Int))) h []:=by
 refine ac Z9 mixed (by simp[V6]) fun hh hargs=>?_
 unfold Fw.ts
 cases ht:F.typed<;>simp[V6,hF,Fw.cells,ht,hh]
theorem ra(hF:h[i]?=some (F.cells i))(hm:0<F.most):ae Tryz.prog 50 [.box i 0] h (.v (.bool true)) h []:=by
 refine ac ZM mixed (by simp[VU]) fun hh hargs=>?_
 simp[VU,hF,Fw.cells,hm,hh]
theorem Lt(hF:h[i]?=some (F.cells i))(hm:0<F.most)(xs:d5)(hx:xs.length <= 1000000)(hr:F.rest.length <= 1000000)(hrm:F.room <= 1000000)(hroom:xs.length+F.rest.length <= F.room):
  ae Tryz.prog 29 [.box i 0,.sl 1 (ai xs) none .no] h (.v (.int .i64 0)) (h.set i ({ F with rest:=F.rest++xs }.cells i)) [i]:=by
 refine ac Zv mixed (by simp[VG]) fun hh hargs=>?_
 have hw:IntKind.i64.wrap ((F.room:Int)-F.rest.length)=(F.room:Int)-F.rest.length:=wrap64 (by omega) (by omega)
 have hle:¬(F.room:Int)-F.rest.length<xs.length:=by omega
 simp[VG]
 refine aa (by simp) (ra hF hm) ?_
 have hil:=(aaa.1 hF).1
 have hu:dQ h i 3=h.set i [.v (.bool F.typed),.v (.int .i64 (F.most:Int)),.v (.int .i64 (F.room:Int)),.sl 1 (ai F.rest) none .no,.v (.int .i64 F.wrong)]:=by unfold dQ;rw[hF];rfl
 have hlt:=ao (i:=i) hh (cs:=[.v (.bool F.typed),.v (.int .i64 (F.most:Int)),.v (.int .i64 (F.room:Int)),.sl 1 (ai F.rest++ai xs) none (.own (.cell i 3)),.v (.int .i64 F.wrong)]) (by simp)
 have hset:∀ X:List AV,(h.set i X)[i]?=some X:=fun X=>aad hil
 simp[hF,Fw.cells,hw,hle,hu,hset,aaf]
 exact⟨by omega,hlt⟩
def Fw.size(F:Fw):Nat×Int :=
 if cn F.rest.length (F.ts:Int) 4≠0 then(0,0)
 else if cO F.rest (F.ts:Int) 4<4 then(0,4)
 else if(F.most:Int)<cO F.rest (F.ts:Int) 4 then(0,5)
 else(F.ts+(cO F.rest (F.ts:Int) 4).toNat,0)
theorem De(hF:h[i]?=some (F.cells i))(hm:F.most <= 1000000):ae Tryz.prog 62 [.box i 0,.sl 1 (ai F.rest) none .no] h (.tup [.v (.int .i64 (F.size.1:Int)),.v (.int .i64 F.size.2)]) h []:=by
 have ht:F.ts <= 1:=by unfold Fw.ts;split<;>omega
 refine ac ZU mixed (by simp[VX]) fun hh hargs=>?_
 simp[VX]
 refine aa (by simp) (rc hF) ?_
 simp
 refine aa (by simp) (LU F.rest (F.ts:Int) 4 _) ?_
 unfold Fw.size
 by_cases he:cn F.rest.length (F.ts:Int) 4=0
 ·by_cases h4:cO F.rest (F.ts:Int) 4<4
  ·simp[he,h4,hh]
  ·by_cases h5:(F.most:Int)<cO F.rest (F.ts:Int) 4
   ·simp[he,h4,h5,hF,Fw.cells,hh]
   ·have hv:=Int.toNat_of_nonneg (show 0 <= cO F.rest (F.ts:Int) 4 by omega)
    have hw:IntKind.i64.wrap ((F.ts:Int)+cO F.rest (F.ts:Int) 4)=(F.ts:Int)+cO F.rest (F.ts:Int) 4:=wrap64 (by omega) (by omega)
    simp[he,h4,h5,hF,Fw.cells]
    refine aa (by simp) (rc hF) ?_
    simp[hw,hh]
    omega
 ·simp[he,hh]
def Fw.head(F:Fw)(xs:d5):Ms:=⟨if F.typed=true then((xs.getD 0 0).toNat:Int) else 0,xs.drop (F.ts+4)⟩
theorem B5(hF:h[i]?=some (F.cells i))(xs:d5)(hl:F.ts+4 <= xs.length)(hx:xs.length <= 1000000):ae Tryz.prog 63 [.box i 0,.sl 1 (ai xs) none .no] h (.agg (bL (F.head xs))) h []:=by
 have ht:F.ts <= 1:=by unfold Fw.ts;split<;>omega
 have hw:IntKind.i64.wrap ((F.ts:Int)+4)=(F.ts:Int)+4:=wrap64 (by omega) (by omega)
 have hFx:∀ Y,(h++Y)[i]?=some (F.cells i):=fun Y=>by rw[aab (aaa.1 hF).1];exact hF
 refine ac ZV mixed (by simp[Uj]) fun hh hargs=>?_
 unfold Fw.head
 have e:((F.ts:Int)+4).toNat=F.ts+4:=by omega
 cases htp:F.typed with
 | true =>
  obtain⟨x,r,rfl⟩:∃ x r,xs=x::r:=by
   cases xs with
   | nil=>simp at hl
   | cons x r=>exact⟨x,r,rfl⟩
  have hb:ai (x::r)=[.v (.int .u8 (x.toNat:Int))]::ai r:=rfl
  simp[Uj,hFx,Fw.cells,htp,hb]
  refine aa (by simp) (rc (hFx _)) ?_
  simp[hw,e,aO,hh]
  simp at hl
  omega
 | false =>
  simp[Uj,hFx,Fw.cells,htp]
  refine aa (by simp) (rc (hFx _)) ?_
  simp[hw,e,aO,hh]
  omega
theorem zJ(hF:h[i]?=some (F.cells i))(hm:0<F.most)(hm2:F.most <= 1000000)(hw0:F.wrong=0)(hr:F.rest.length <= 1000000)(hno:F.size.1=0 \/ F.rest.length<F.size.1):
  ae Tryz.prog 42 [.box i 0] h (.tup [.agg (bL ⟨0,[]⟩),.v (.int .i64 0),.v (.int .i64 F.size.2)]) (h.set i (({ F with wrong:=F.size.2 }:Fw).cells i)) [i]:=by
 have hil:=(aaa.1 hF).1
 have hFx:∀ Y,(h++Y)[i]?=some (F.cells i):=fun Y=>by rw[aab hil];exact hF
 have hset:∀(X:List AV) Y,(h++Y).set i X=h.set i X++Y:=fun X Y=>aac _ _ hil
 have hget:∀(X:List AV) Y,(h.set i X++Y)[i]?=some X:=fun X Y=>by rw[aab (by rw[aae];exact hil),aad hil]
 refine ac Y5 mixed (by simp[Sg]) fun hh hargs=>?_
 simp[Sg]
 refine aa (by simp) (ra (hFx _) hm) ?_
 simp[hFx,Fw.cells,hw0]
 refine ak (De (hFx _) hm2) (by simp) (by simp) ?_
 have hlt:=ao (i:=i) hh (cs:=({ F with wrong:=F.size.2 }:Fw).cells i) (by simp[Fw.cells])
 simp only[Fw.cells] at hlt
 by_cases z:F.size.1=0
 ·simp[hFx,Fw.cells,hset,hget,z,aO]
  exact hlt
 ·have hgt:F.rest.length<F.size.1:=hno.resolve_left z
  simp[hFx,Fw.cells,hset,hget,z,hgt,aO]
  exact hlt
theorem Fw.size_ok{F:Fw}(h:¬F.size.1=0):F.ts+4 <= F.size.1 /\ F.size.2=0:=by
 unfold Fw.size at h ⊢
 split at h
 ·exact absurd rfl h
 ·split at h
  ·exact absurd rfl h
  ·split at h
   ·exact absurd rfl h
   ·rename_i h1 h2 h3
    rw[if_neg h1,if_neg h2,if_neg h3]
    exact⟨by show _ <= F.ts+_;omega,rfl⟩
theorem xg(hF:h[i]?=some (F.cells i))(hm:0<F.most)(hm2:F.most <= 1000000)(hw0:F.wrong=0)(hr:F.rest.length <= 1000000)(z:¬F.size.1=0)(hle:F.size.1 <= F.rest.length):
  ae Tryz.prog 42 [.box i 0] h (.tup [.agg (bL (F.head (F.rest.take F.size.1))),.v (.int .i64 (F.size.1:Int)),.v (.int .i64 0)]) h [i]:=by
 have hil:=(aaa.1 hF).1
 obtain⟨z1,z2⟩:=Fw.size_ok z
 have hFx:∀ Y,(h++Y)[i]?=some (F.cells i):=fun Y=>by rw[aab hil];exact hF
 have hself:h.set i (F.cells i)=h:=by
  obtain⟨_,h2⟩:=aaa.1 hF
  rw[<- h2,List.set_getElem_self]
 have hset:∀ Y,(h++Y).set i [.v (.bool F.typed),.v (.int .i64 (F.most:Int)),.v (.int .i64 (F.room:Int)),.sl 1 (ai F.rest) none (.own (.cell i 3)),.v (.int .i64 0)]=h++Y:=fun Y=>by
  have:F.cells i=[.v (.bool F.typed),.v (.int .i64 (F.most:Int)),.v (.int .i64 (F.room:Int)),.sl 1 (ai F.rest) none (.own (.cell i 3)),.v (.int .i64 0)]:=by unfold Fw.cells;rw[hw0]
  rw[<- this,aac _ _ hil,hself]
 have ht:F.ts <= 1:=by unfold Fw.ts;split<;>omega
 refine ac Y5 mixed (by simp[Sg]) fun hh hargs=>?_
 simp[Sg]
 refine aa (by simp) (ra (hFx _) hm) ?_
 simp[hFx,Fw.cells,hw0]
 refine ak (De (hFx _) hm2) (by simp) (by simp) ?_
 have hgt:¬F.rest.length<F.size.1:=by omega
 simp[hFx,Fw.cells,hset,z,z2,hgt,hw0,hle]
 refine aa (by simp) (B5 (hFx _) (F.rest.take F.size.1) (by simp;omega) (by simp;omega)) ?_
 simp[hh]
 omega
theorem qt(hF:h[i]?=some (F.cells i))(hm:0<F.most)(hm2:F.most <= 1000000)(hw0:F.wrong=0)(hr:F.rest.length <= 1000000)(z:¬F.size.1=0)(hle:F.size.1 <= F.rest.length):
  ae Tryz.prog 24 [.box i 0] h (.tup [.agg (bL (F.head (F.rest.take F.size.1))),.v (.bool true),.v (.int .i64 0)]) (h.set i (({ F with rest:=F.rest.drop F.size.1 }:Fw).cells i)) [i]:=by
 have hil:=(aaa.1 hF).1
 have hFx:∀ Y,(h++Y)[i]?=some (F.cells i):=fun Y=>by rw[aab hil];exact hF
 have hset:∀(X:List AV) Y,(h++Y).set i X=h.set i X++Y:=fun X Y=>aac _ _ hil
 have hget:∀(X:List AV) Y,(h.set i X++Y)[i]?=some X:=fun X Y=>by rw[aab (by rw[aae];exact hil),aad hil]
 refine ac Y2 mixed (by simp[Se]) fun hh hargs=>?_
 simp[Se]
 refine aa (by simp) (xg (hFx _) hm hm2 hw0 hr z hle) ?_
 have hu:∀ Y,dQ (h++Y) i 3=h.set i [.v (.bool F.typed),.v (.int .i64 (F.most:Int)),.v (.int .i64 (F.room:Int)),.sl 1 (ai F.rest) none .no,.v (.int .i64 F.wrong)]++Y:=fun Y=>by
  unfold dQ
  rw[hFx]
  show(h++Y).set i _=_
  rw[aac _ _ hil];rfl
 have hset2:∀(X Z:List AV) Y,(h.set i X++Y).set i Z=h.set i Z++Y:=fun X Z Y=>by rw[aac _ _ (by rw[aae];exact hil),aaf]
 have hlt:=ao (i:=i) hh (cs:=({ F with rest:=F.rest.drop F.size.1 }:Fw).cells i) (by simp[Fw.cells])
 simp only[Fw.cells] at hlt
 simp[hFx,Fw.cells,z,hset,hget,hle,hu,hset2]
 exact hlt
theorem B6(hF:h[i]?=some (F.cells i))(hm:0<F.most)(hm2:F.most <= 1000000)(hw0:F.wrong=0)(hr:F.rest.length <= 1000000)(hno:F.size.1=0 \/ F.rest.length<F.size.1):
  ae Tryz.prog 24 [.box i 0] h (.tup [.agg (bL ⟨0,[]⟩),.v (.bool false),.v (.int .i64 F.size.2)]) (h.set i (({ F with wrong:=F.size.2 }:Fw).cells i)) [i]:=by
 have hil:=(aaa.1 hF).1
 have hFx:∀ Y,(h++Y)[i]?=some (F.cells i):=fun Y=>by rw[aab hil];exact hF
 have hset:∀(X:List AV) Y,(h++Y).set i X=h.set i X++Y:=fun X Y=>aac _ _ hil
 refine ac Y2 mixed (by simp[Se]) fun hh hargs=>?_
 have hlt:=ao (i:=i) hh (cs:=({ F with wrong:=F.size.2 }:Fw).cells i) (by simp[Fw.cells])
 simp[Se]
 refine aa (by simp) (zJ (hFx _) hm hm2 hw0 hr hno) ?_
 simp[hset,aO]
 exact hlt
theorem IN(hF:h[i]?=some (F.cells i))(hm:0<F.most):ae Tryz.prog 49 [.box i 0] h (.tup []) (h.set i (({ F with typed:=true }:Fw).cells i)) [i]:=by
 have hset:∀ X:List AV,(h.set i X)[i]?=some X:=fun X=>aad (aaa.1 hF).1
 refine ac ZL mixed (by simp[VT]) fun hh hargs=>?_
 have hlt:=ao (i:=i) hh (cs:=({ F with typed:=true }:Fw).cells i) (by simp[Fw.cells])
 simp[VT]
 refine aa (by simp) (ra hF hm) ?_
 simp[hF,Fw.cells]
 exact hlt
theorem qq{a b:d4}:∀(h:d4) (k:Nat),iI (k+h.length) a b -> iI k (h++a) (h++b)
 | [],k,hh=>by simpa using hh
 | c::r,k,hh=>⟨.inl rfl,qq r (k+1) (by simp only[List.length_cons] at hh;rw[show k+1+r.length=k+(r.length+1) by omega];exact hh)⟩
theorem PY(most room:Nat)(hello:Bool)(h1:4 <= most)(h2:most <= 65536)(h3:most+1 <= room)(h4:room <= 262144)(h:d4):
  ae Tryz.prog 33 [.v (.int .i64 (most:Int)),.v (.int .i64 (room:Int)),.v (.bool hello)] h (.tup [.box h.length 0,.v (.int .i64 0)]) (h++[(⟨!hello,most,room,[],0⟩:Fw).cells h.length]) []:=by
 have hw:IntKind.i64.wrap ((most:Int)+1)=(most:Int)+1:=wrap64 (by omega) (by omega)
 have q1:¬(most:Int)<4:=by omega
 have q2:¬(65536:Int)<most:=by omega
 have q3:¬(room:Int)<(most:Int)+1:=by omega
 have q4:¬(262144:Int)<room:=by omega
 refine ac Zy mixed (by simp[VI]) fun hh hargs=>?_
 simp[VI,hw,q1,q2,q3,q4,Fw.cells]
 refine⟨qq h 0 ⟨.inr ?_,trivial⟩,aF (Nat.le_succ _) hh⟩
 rw[Nat.zero_add]
 simp[kz,LeqV]
end
end Ax
end Go.Proofs.YtlbgjlmokpkkeaaGreatDoor
