import Derived.Test.YtlbgjlmokpkkeaaGreatDoorQNumD
import Derived.Lib.Bytealg
open Nat renaming le_refl -> aaa, zero_le -> aaj, lt_or_ge -> aam, pow_succ -> aap
open List renaming getD_eq_getElem?_getD -> aab, getElem?_eq_getElem -> aad, length_singleton -> aae, length_append -> aaf, take_succ_eq_append_getElem -> aag, all_append -> aai, replicate -> aak, contains_iff_mem -> aal, getElem_mem -> aan
open UInt8 renaming ofNat -> aac, toNat_ofNat' -> aah, toNat_inj -> aao
set_option linter.all false
namespace Go.Proofs.YtlbgjlmokpkkeaaGreatDoor.Dg
open Go.RowKit Go By
theorem Ih{α:Type}{P:List α -> Prop}(nil:P [])(snoc:∀ xs c,P xs -> P (xs++[c]))(xs:List α):P xs:=by
 have h:∀ ys:List α,P ys.reverse:=by
  intro ys
  induction ys with
  | nil=>exact nil
  | cons c t ih=>rw[List.reverse_cons];exact snoc _ _ ih
 have:=h xs.reverse
 rwa [List.reverse_reverse] at this
def digsN(m:Nat):List UInt8:=if m<10 then[aac (48+m)] else digsN (m / 10)++[aac (48+m % 10)]
termination_by m
decreasing_by omega
theorem cX{m:Nat}(h:m<10):digsN m=[aac (48+m)]:=by rw[digsN,if_pos h]
theorem eU{m:Nat}(h:¬m<10):digsN m=digsN (m / 10)++[aac (48+m % 10)]:=by rw[digsN,if_neg h]
theorem ur(m:Nat):1 <= (digsN m).length:=by
 by_cases h:m<10
 ·rw[cX h];simp
 ·rw[eU h];simp
theorem uq:∀(k m:Nat),m<10 ^ (k+1) -> (digsN m).length <= k+1
 | 0,m,h=>by rw[cX (by omega)];simp
 | k+1,m,h=>by
  by_cases h1:m<10
  ·rw[cX h1];simp
  ·rw[eU h1,aaf]
   have:=uq k (m / 10) (by rw[aap] at h;omega)
   simp;omega
def textL(n:Int):List UInt8:=if n<0 then 45::digsN n.natAbs else digsN n.toNat
def jJ(xs:List UInt8):Nat:=xs.foldl (fun n c=>n*10+(c.toNat-48)) 0
theorem uV(xs:List UInt8)(c:UInt8):jJ (xs++[c])=jJ xs*10+(c.toNat-48):=by simp[jJ]
def jy(c:UInt8):Bool:=decide (48 <= c.toNat)&&decide (c.toNat <= 57)
theorem xU(c:UInt8):jy c=true↔48 <= c.toNat /\ c.toNat <= 57:=by simp[jy]
theorem KA(xs:List UInt8):xs.all jy=true -> jJ xs<10 ^ xs.length:=by
 refine Ih (P:=fun xs=>xs.all jy=true -> jJ xs<10 ^ xs.length) ?_ ?_ xs
 ·intro _;simp[jJ]
 ·intro xs c ih h
  rw[aai,Bool.and_eq_true] at h
  have h1:=ih h.1
  have h2:jy c=true:=by simpa using h.2
  rw[xU] at h2
  rw[uV,aaf,aae,aap]
  omega
def gr(xs:List UInt8):Bool:=decide (1 <= xs.length)&&(decide (xs.length <= 10)&&(!(xs.getD 0 0==48&&decide (1<xs.length))&&xs.all jy))
def cI(xs:List UInt8)(most:Int):Bool:=gr xs&&decide ((jJ xs:Int) <= most)
def dy(xs:List UInt8)(most:Int):Int:=if cI xs most=true then(jJ xs:Int) else 0
theorem yj{xs:List UInt8}{most:Int}(h:gr xs=false):cI xs most=false /\ dy xs most=0:=by
 have h1:cI xs most=false:=by simp[cI,h]
 exact⟨h1,by simp[dy,h1]⟩
theorem Az{xs:List UInt8}(h:xs.length<1):gr xs=false:=by
 unfold gr;rw[decide_eq_false (by omega)];rfl
theorem DX{xs:List UInt8}(h:10<xs.length):gr xs=false:=by
 unfold gr;rw[decide_eq_false (p:=xs.length <= 10) (by omega)];simp
theorem yk{xs:List UInt8}(h:xs.getD 0 0=48)(h1:1<xs.length):gr xs=false:=by
 unfold gr;rw[h,decide_eq_true h1];simp
theorem wv{xs:List UInt8}{k:Nat}(hk:k<xs.length)(h:jy (xs.getD k 0)=false):gr xs=false:=by
 have h1:xs.all jy=false:=by
  rw[List.all_eq_false]
  refine⟨xs[k],aan hk,?_⟩
  rw[aab,aad hk] at h
  simpa using h
 unfold gr;rw[h1];simp
theorem Gr{xs:List UInt8}(h1:1 <= xs.length)(h2:xs.length <= 10)(h3:¬(xs.getD 0 0=48 /\ 1<xs.length))(h4:xs.all jy=true):gr xs=true:=by
 unfold gr
 rw[decide_eq_true h1,decide_eq_true h2,h4]
 have h5:(xs.getD 0 0==48&&decide (1<xs.length))=false:=by
  rw[Bool.and_eq_false_iff]
  by_cases e:xs.getD 0 0=48
  ·right;exact decide_eq_false (fun e1=>h3 ⟨e,e1⟩)
  ·left;exact beq_eq_false_iff_ne.2 e
 rw[h5];rfl
theorem uZ{xs:List UInt8}{most:Int}(h:gr xs=true)(hm:(jJ xs:Int) <= most):cI xs most=true /\ dy xs most=jJ xs:=by
 have h1:cI xs most=true:=by simp[cI,h,hm]
 exact⟨h1,by simp[dy,h1]⟩
theorem sD{xs:List UInt8}{most:Int}(hm:most<(jJ xs:Int)):cI xs most=false /\ dy xs most=0:=by
 have h1:cI xs most=false:=by simp[cI];omega
 exact⟨h1,by simp[dy,h1]⟩
theorem digsN_all(m:Nat):(digsN m).all jy=true:=by
 induction m using digsN.induct with
 | case1 m h =>
  rw[cX h]
  simp[jy,aah]
  omega
 | case2 m h ih =>
  rw[eU h,aai,ih]
  simp[jy,aah]
  omega
end Go.Proofs.YtlbgjlmokpkkeaaGreatDoor.Dg
namespace Go.Proofs.YtlbgjlmokpkkeaaGreatDoor.Dg
set_option maxRecDepth 100000
open Go.RowKit Go By
theorem nD(s:ByteArray)(k:Nat)(h:k<s.size):s.data.toList.getD k 0=s[k]:=by
 rw[aab,aad (by simpa using h)];rfl
theorem jF(s:ByteArray):s.data.toList.length=s.size:=by simp
theorem cN(s:ByteArray)(k:Nat)(h:k<s.size):s.data.toList.take (k+1)=s.data.toList.take k++[s[k]]:=by
 rw[aag (by simpa using h)];rfl
theorem gJ(s:ByteArray):s.data.toList.take s.size=s.data.toList:=List.take_of_length_le (by simp)
def mY(xs:List UInt8)(most:Int):Value:=.tuple #[.int .i64 (dy xs most),.bool (cI xs most)]
theorem jM{xs:List UInt8}(most:Int)(h:gr xs=false):mY xs most=.tuple #[.int .i64 0,.bool false]:=by
 unfold mY;rw[(yj h).1,(yj h).2]
theorem lg{s:ByteArray}(most:Int){k:Nat}(hk:k<s.size)(h:¬(48 <= s[k].toNat /\ s[k].toNat <= 57)):mY s.data.toList most=.tuple #[.int .i64 0,.bool false]:=by
 refine jM most (wv (k:=k) (by rw[jF];exact hk) ?_)
 rw[nD s k hk]
 cases hd:jy s[k] with
 | false=>rfl
 | true=>exact absurd ((xU _).1 hd) h
theorem A5{s:ByteArray}{most:Int}(h1:1 <= s.size)(h2:s.size <= 10)(h3:¬(s.data.toList.getD 0 0=48 /\ 1<s.size))(h4:(s.data.toList.take s.size).all jy=true):
  mY s.data.toList most=if most<(jJ (s.data.toList.take s.size):Int) then .tuple #[.int .i64 0,.bool false] else .tuple #[.int .i64 (jJ (s.data.toList.take s.size)),.bool true]:=by
 rw[gJ] at h4 ⊢
 have hf:gr s.data.toList=true:=Gr (by rw[jF];exact h1) (by rw[jF];exact h2) (by rw[jF];exact h3) h4
 unfold mY
 by_cases hm:most<(jJ s.data.toList:Int)
 ·rw[if_pos hm,(sD hm).1,(sD hm).2]
 ·rw[if_neg hm,(uZ hf (by omega)).1,(uZ hf (by omega)).2]
theorem xB{s:ByteArray}{k:Nat}(hk:k<s.size)(h:(s.data.toList.take k).all jy=true)(h1:48 <= s[k].toNat)(h2:s[k].toNat <= 57):(s.data.toList.take (k+1)).all jy=true:=by
 rw[cN s k hk,aai,h]
 simp[jy,h1,h2]
theorem GT{s:ByteArray}{k:Nat}(hk:k<s.size)(h1:48 <= s[k].toNat):(jJ (s.data.toList.take (k+1)):Int)=(jJ (s.data.toList.take k):Int)*10+((s[k].toNat:Int)-48):=by
 rw[cN s k hk,uV];omega
theorem Ep{s:ByteArray}{k:Nat}(h:(s.data.toList.take k).all jy=true)(hk:k <= 10):jJ (s.data.toList.take k) <= 10000000000:=by
 have h1:=KA _ h
 have h2:(s.data.toList.take k).length <= 10:=Nat.le_trans (List.length_take_le _ _) hk
 have h3:10 ^ (s.data.toList.take k).length <= 10 ^ 10:=Nat.pow_le_pow_right (by omega) h2
 omega
set_option maxHeartbeats 400000 in
theorem A4(s:ByteArray)(most:Int)(w:World)(h1:1 <= s.size)(h2:s.size <= 10)(h3:¬(s.data.toList.getD 0 0=48 /\ 1<s.size)):
  Calls Tryz.prog 227 #[.string s,.int .i64 most] w fun e w'=>e=.returned (mY s.data.toList most) /\ w=w':=by
 have H3:=Lib.hid h3
 have h0:0<s.size:=h1
 have hc:((s[0].toNat:Int)==48)=false \/ (((s[0].toNat:Int)==48)=true /\ s.size <= 1):=by
  rw[nD s 0 h0] at h3
  by_cases e:s[0].toNat=48
  ·right
   refine⟨by simp[e],?_⟩
   rcases aam 1 s.size with h |h
   ·exact absurd ⟨by apply aao.1;simpa using e,h⟩ h3
   ·exact h
  ·left;simp;omega
 clear h3
 rcases hc with hc |⟨hc,hs1⟩
 all_goals
  go_enter Tryz.func227,Tryz.ntmps227
  go_wp2
  clear hc
  go_loop [6,28] (fun n i=>∃ k:Nat,k <= s.size /\ i=.int .i64 k /\ n=.int .i64 (jJ (s.data.toList.take k)) /\ (s.data.toList.take k).all jy=true) (fun _ i=>s.size-(intOf i).toNat)
  case atStart=>exact⟨0,aaj _,rfl,rfl,rfl⟩
  case round =>
   obtain⟨k,hk,rfl,rfl,hall⟩:=hrel
   have HA:=Lib.hid hall
   have hb:=Ep hall (by omega)
   clear hall
   by_cases hlt:k<s.size
   ·by_cases hlo:s[k].toNat<48
    ·have HE:=Lib.hid (lg most hlt (by omega))
     go_wp2
     go_ret2
     exact⟨by rw[HE.out];rfl,rfl⟩
    ·by_cases hhi:57<s[k].toNat
     ·have HE:=Lib.hid (lg most hlt (by omega))
      go_wp2
      go_ret2
      exact⟨by rw[HE.out];rfl,rfl⟩
     ·have HN:=Lib.hid (GT hlt (by omega))
      go_wp2
      go_round
      case rel=>exact⟨k+1,by omega,by go_num,by rw[HN.out],xB hlt HA.out (by omega) (by omega)⟩
      case measure=>simp[intOf];omega
   ·obtain rfl:k=s.size:=by omega
    have HE:=Lib.hid (A5 (most:=most) h1 h2 H3.out HA.out)
    by_cases hm:most<(jJ (s.data.toList.take s.size):Int)
    ·go_wp2
     go_ret2
     exact⟨by rw[HE.out,if_pos hm];rfl,rfl⟩
    ·go_wp2
     go_ret2
     exact⟨by rw[HE.out,if_neg (by omega)];rfl,rfl⟩
theorem Et(s:ByteArray)(most:Int)(w:World)(hm:s.size <= maxLen):
  Calls Tryz.prog 227 #[.string s,.int .i64 most] w fun e w'=>e=.returned (mY s.data.toList most) /\ w=w':=by
 unfold maxLen at hm
 by_cases h1:s.size<1
 ·have hn:s.size=0:=by omega
  rw[jM most (Az (by rw[jF];exact h1))]
  clear hn
  go_enter Tryz.func227,Tryz.ntmps227
  go_wp2
  go_ret2
  exact⟨rfl,rfl⟩
 ·by_cases h2:10<s.size
  ·rw[jM most (DX (by rw[jF];exact h2))]
   go_enter Tryz.func227,Tryz.ntmps227
   go_wp2
   go_ret2
   exact⟨rfl,rfl⟩
  ·by_cases h3:s.data.toList.getD 0 0=48 /\ 1<s.size
   ·rw[jM most (yk h3.1 (by rw[jF];exact h3.2))]
    have h0:0<s.size:=by omega
    have h4:=h3.2
    have hc:((s[0].toNat:Int)==48)=true:=by
     have:=h3.1
     rw[nD s 0 h0] at this
     rw[this];rfl
    clear h3
    go_enter Tryz.func227,Tryz.ntmps227
    go_wp2
    go_ret2
    exact⟨rfl,rfl⟩
   ·exact A4 s most w (by omega) (by omega) h3
theorem gQ(x:Int)(h0:0 <= x)(h1:x <= 9223372036854775808):IntKind.u64.wrap x=x:=by
 rw[IntKind.wrap_u64];omega
theorem BK{a b:Int}(h:a=b):Value.int .u64 a=Value.int .u64 b:=by rw[h]
theorem gp(m:Nat)(hm:m <= 9223372036854775808):(digsN m).length <= 20:=uq 19 m (by omega)
set_option maxHeartbeats 400000 in
theorem sF(m:Nat)(w:World)(hm:m <= 9223372036854775808):
  Calls Tryz.prog 240 #[.int .u64 m] w fun e w'=>e=.returned (.int .i64 (digsN m).length) /\ w=w':=by
 have HM:=Lib.hid hm
 have HL:=Lib.hid (gp m hm)
 clear hm
 go_enter Tryz.func240,Tryz.ntmps240
 go_wp2
 go_loop [0,3] (fun n c=>∃ k j:Nat,k <= m /\ n=.int .u64 k /\ c=.int .i64 j /\ j+(digsN k).length=(digsN m).length+1 /\ j <= 100) (fun n _=>(intOf n).toNat)
 case atStart=>exact⟨m,1,aaa _,rfl,rfl,by omega,by omega⟩
 case round =>
  obtain⟨k,j,hk,rfl,rfl,hj,hj2⟩:=hrel
  have HJ:=Lib.hid hj
  clear hj
  by_cases hlt:k<10
  ·go_wp2
   go_ret
   refine⟨?_,rfl⟩
   have:=HJ.out
   rw[cX hlt,aae] at this
   obtain rfl:j=(digsN m).length:=by omega
   rfl
  ·go_wp2
   have hw:IntKind.u64.wrap ((k:Int) / 10)=((k / 10:Nat):Int):=by rw[gQ _ (by omega) (by have:=HM.out;omega)];omega
   go_round
   case rel =>
    refine⟨k / 10,j+1,by omega,BK hw,by go_num,?_,?_⟩
    ·have:=HJ.out
     rw[eU hlt,aaf,aae] at this
     omega
    ·have:=HJ.out
     have:=HL.out
     rw[eU hlt,aaf,aae] at *
     omega
   case measure =>
    simp only[intOf]
    show(IntKind.u64.wrap ((k:Int) / 10)).toNat<((k:Int)).toNat
    rw[hw];omega
def fill(m i:Nat):List UInt8:=aak ((digsN m).length-i) 0++(digsN m).drop ((digsN m).length-i)
theorem dY(m i:Nat):(fill m i).length=(digsN m).length:=by simp[fill]
theorem yf(m:Nat):fill m (digsN m).length=digsN m:=by simp[fill]
theorem Af(k:Nat):∃ init,digsN k=init++[aac (48+k % 10)]:=by
 by_cases h:k<10
 ·exact⟨[],by rw[cX h,Nat.mod_eq_of_lt h];rfl⟩
 ·exact⟨_,eU h⟩
theorem uC(m i k:Nat)(hi:i<(digsN m).length)(ht:(digsN m).take ((digsN m).length-i)=digsN k):
  (fill m i).set ((digsN m).length-1-i) (aac (48+k % 10))=fill m (i+1) /\ (i+1<(digsN m).length -> (digsN m).take ((digsN m).length-(i+1))=digsN (k / 10)):=by
 generalize hL:digsN m=L at *
 obtain⟨d,hd⟩:∃ d,L.length-i=d+1:=⟨L.length-i-1,by omega⟩
 have hd1:L.length-1-i=d:=by omega
 have hd2:L.length-(i+1)=d:=by omega
 have hdl:d<L.length:=by omega
 rw[hd] at ht
 have htk:L.take (d+1)=L.take d++[L[d]]:=aag hdl
 constructor
 ·obtain⟨init,hi2⟩:=Af k
  have h1:L.take d++[L[d]]=init++[aac (48+k % 10)]:=by rw[<- htk,ht,hi2]
  have h2:L[d]=aac (48+k % 10):=by
   have:=List.append_inj_right' h1 rfl
   injection this
  unfold fill
  rw[hL,hd,hd1,hd2,List.replicate_succ',List.append_assoc,List.set_append_right _ _ (by simp)]
  simp only[List.length_replicate,Nat.sub_self]
  rw[List.drop_eq_getElem_cons hdl,h2]
  rfl
 ·intro h
  rw[hd2]
  rcases aam k 10 with hk |hk
  ·exfalso
   rw[cX hk] at ht
   have:=congrArg List.length ht
   simp at this
   omega
  ·rw[eU (by omega),htk] at ht
   have:=List.append_inj_left' ht rfl
   exact this
theorem zI(xs:List UInt8)(i:Nat)(c:UInt8):(vals xs).set i (.int .u8 (c.toNat:Int))=vals (xs.set i c):=by simp[vals,List.map_set]
theorem Ej(xs:List UInt8):(⟨#[45]⟩:ByteArray)++af xs=af (45::xs):=by
 apply ByteArray.ext
 apply Array.toList_inj.1
 simp[af]
theorem zt(k:Nat):((aac (48+k % 10)).toNat:Int)=48+(k:Int) % 10:=by
 rw[aah];omega
set_option maxHeartbeats 1000000 in
theorem Iw(n:Int)(m:Nat)(w:World)(h:n=(m:Int))(hm:m <= 9223372036854775807):
  Calls Tryz.prog 192 #[.int .i64 n] w fun e w'=>e=.returned (.string (af (digsN m))) /\ Below w.heap.size w w':=by
 subst h
 obtain⟨i0,hi,hz0,hz1,hz2⟩:=info_parts Nm.byte_info
 have HM:=Lib.hid hm
 have HU:Hid (IntKind.u64.wrap (m:Int)=(m:Int)):=Lib.hid (by simp only[IntKind.wrap_u64];omega)
 obtain⟨c,HC⟩:∃ c,Hid ((digsN m).length=c):=⟨_,rfl⟩
 have hc1:1 <= c:=by have:=ur m;have:=HC.out;omega
 have hc20:c <= 20:=by have:=gp m (by omega);have:=HC.out;omega
 have HP:Hid (∀ W:World,Calls Tryz.prog 240 #[.int .u64 m] W fun e w'=>e=.returned (.int .i64 c) /\ W=w'):=Lib.hid fun W=>by
  have:=sF m W (by omega)
  rw[HC.out] at this
  exact this
 clear hm
 go_enter Tryz.func192,Tryz.ntmps192
 go_wp2_with (first
  | (go_at_call 240;rw[HU.out];refine(HP.out _).mono ?_;rintro e w' ⟨rfl,rfl⟩)
  | (at_make;refine ck rfl _ _ 23 rfl 5 i0 Tryz.underlying23 hi hz0 hz1 hz2 .i64 .i64 c c _ _ rfl rfl rfl rfl (aaa _) (by omega) ?_;intro w1 hg1 hb1 hs1))
 have HO:Hid (w1.ownsRow w.heap.size 5 1 (.slice (some ⟨w.heap.size,0,none⟩) c c) c (vals (fill m 0))):=by
  have e0:fill m 0=aak c 0:=by unfold fill;rw[HC.out];simp[<- HC.out]
  have:=OwnB.of_block (E:=5) (w:=w1) (base:=w.heap.size) (xs:=fill m 0) (cap:=c) hg1.out (aaa _) (by simp) (by unfold maxLen;omega) (by rw[dY,HC.out];exact aaa _)
   (by rw[e0];simp[vals])
  unfold OwnB at this
  rw[dY,HC.out] at this
  exact this
 have HB1:=Lib.hid hb1
 clear hg1 hb1 hs1
 go_loopw [3,18] (fun r i wr=>∃ k j:Nat,k <= m /\ j <= c /\ r=.int .u64 k /\ i=.int .i64 j /\ wr.ownsRow w.heap.size 5 1 (.slice (some ⟨w.heap.size,0,none⟩) c c) c (vals (fill m j)) /\ (j<c -> (digsN m).take (c-j)=digsN k) /\ Below w.heap.size w wr) (fun _ i _=>c-(intOf i).toNat)
 case atStart=>exact⟨m,0,aaa _,aaj _,rfl,rfl,HO.out,fun _=>by rw[<- HC.out];simp,HB1.out⟩
 case round =>
  obtain⟨k,j,hk,hj,rfl,rfl,hown,hdig,hbw⟩:=hrel
  have HW:=Lib.hid hown
  have HB:=Lib.hid hbw
  have HD:=Lib.hid hdig
  have HK:Hid (k <= 9223372036854775808):=Lib.hid (by have:=HM.out;omega)
  clear hown hbw HB1 HO hdig
  by_cases hlt:j<c
  ·have hcell:wr.cell? ⟨w.heap.size,c-1-j,none⟩=some (.int .u8 (bt (fill m j) (c-1-j))):=by
    rw[World.ownsRow.cellAt HW.out (c-1-j) (by omega)]
    exact eI _ _ (by rw[dY,HC.out];omega)
   have hfroz:=World.ownsRow.frozenAt HW.out (c-1-j)
   have HS:=Lib.hid (World.ownsRow.stored HW.out (c-1-j) (.int .u8 (48+(k:Int) % 10))).1
   have HF:=Lib.hid (uC m j k (by rw[HC.out];exact hlt) (by rw[HC.out];exact HD.out hlt))
   go_wp2
   have hw:IntKind.u64.wrap ((k:Int) / 10)=((k / 10:Nat):Int):=by rw[gQ _ (by omega) (by have:=HK.out;omega)];omega
   go_roundw
   case rel =>
    refine⟨k / 10,j+1,by omega,by omega,BK hw,by go_num,?_,?_,HB.out.setCell (aaa _) _⟩
    ·have e:=HF.out.1
     rw[HC.out] at e
     rw[<- e,<- zI,zt]
     exact HS.out
    ·have e:=HF.out.2
     rw[HC.out] at e
     exact e
   case measure=>simp[intOf];omega
  ·obtain rfl:j=c:=by omega
   have hr:(convert 23 9 (.slice (some ⟨w.heap.size,0,none⟩) j j)).run Tryz.prog wr=.ok (.string (af (digsN m))) wr:=by
    have hx:OwnB 5 wr w.heap.size (.slice (some ⟨w.heap.size,0,none⟩) j j) (digsN m):=by
     have:=HW.out
     unfold OwnB
     rw[HC.out]
     rw[<- HC.out,yf,HC.out] at this
     exact this
    obtain⟨a,cap,e,_,_,hy⟩:=hx.at_
    injection e with e1 e2 e3
    subst e1
    have:=dz (P:=Tryz.prog) 23 5 9 Tryz.underlying23 Tryz.underlying5 Tryz.underlying9 wr _ _ j (digsN m) hy
    rw[HC.out] at this
    exact this
   have hsz:(af (digsN m)).size <= 20:=by rw[ej,HC.out];exact hc20
   go_wp2
   go_ret
   exact⟨rfl,HB.out⟩
set_option maxHeartbeats 1000000 in
theorem Iv(n:Int)(m:Nat)(w:World)(h:n = -(m:Int))(h0:0<m)(hm:m <= 9223372036854775808):
  Calls Tryz.prog 192 #[.int .i64 n] w fun e w'=>e=.returned (.string (af (45::digsN m))) /\ Below w.heap.size w w':=by
 subst h
 obtain⟨i0,hi,hz0,hz1,hz2⟩:=info_parts Nm.byte_info
 have HM:=Lib.hid hm
 have HU:Hid (IntKind.u64.wrap (-IntKind.u64.wrap (-(m:Int)))=(m:Int)):=Lib.hid (by simp only[IntKind.wrap_u64];omega)
 obtain⟨c,HC⟩:∃ c,Hid ((digsN m).length=c):=⟨_,rfl⟩
 have hc1:1 <= c:=by have:=ur m;have:=HC.out;omega
 have hc20:c <= 20:=by have:=gp m (by omega);have:=HC.out;omega
 have HP:Hid (∀ W:World,Calls Tryz.prog 240 #[.int .u64 m] W fun e w'=>e=.returned (.int .i64 c) /\ W=w'):=Lib.hid fun W=>by
  have:=sF m W (by omega)
  rw[HC.out] at this
  exact this
 clear hm
 go_enter Tryz.func192,Tryz.ntmps192
 go_wp2_with (first
  | (go_at_call 240;rw[HU.out];refine(HP.out _).mono ?_;rintro e w' ⟨rfl,rfl⟩)
  | (at_make;refine ck rfl _ _ 23 rfl 5 i0 Tryz.underlying23 hi hz0 hz1 hz2 .i64 .i64 c c _ _ rfl rfl rfl rfl (aaa _) (by omega) ?_;intro w1 hg1 hb1 hs1))
 have HO:Hid (w1.ownsRow w.heap.size 5 1 (.slice (some ⟨w.heap.size,0,none⟩) c c) c (vals (fill m 0))):=by
  have e0:fill m 0=aak c 0:=by unfold fill;rw[HC.out];simp[<- HC.out]
  have:=OwnB.of_block (E:=5) (w:=w1) (base:=w.heap.size) (xs:=fill m 0) (cap:=c) hg1.out (aaa _) (by simp) (by unfold maxLen;omega) (by rw[dY,HC.out];exact aaa _)
   (by rw[e0];simp[vals])
  unfold OwnB at this
  rw[dY,HC.out] at this
  exact this
 have HB1:=Lib.hid hb1
 clear hg1 hb1 hs1
 go_loopw [3,18] (fun r i wr=>∃ k j:Nat,k <= m /\ j <= c /\ r=.int .u64 k /\ i=.int .i64 j /\ wr.ownsRow w.heap.size 5 1 (.slice (some ⟨w.heap.size,0,none⟩) c c) c (vals (fill m j)) /\ (j<c -> (digsN m).take (c-j)=digsN k) /\ Below w.heap.size w wr) (fun _ i _=>c-(intOf i).toNat)
 case atStart=>exact⟨m,0,aaa _,aaj _,rfl,rfl,HO.out,fun _=>by rw[<- HC.out];simp,HB1.out⟩
 case round =>
  obtain⟨k,j,hk,hj,rfl,rfl,hown,hdig,hbw⟩:=hrel
  have HW:=Lib.hid hown
  have HB:=Lib.hid hbw
  have HD:=Lib.hid hdig
  have HK:Hid (k <= 9223372036854775808):=Lib.hid (by have:=HM.out;omega)
  clear hown hbw HB1 HO hdig
  by_cases hlt:j<c
  ·have hcell:wr.cell? ⟨w.heap.size,c-1-j,none⟩=some (.int .u8 (bt (fill m j) (c-1-j))):=by
    rw[World.ownsRow.cellAt HW.out (c-1-j) (by omega)]
    exact eI _ _ (by rw[dY,HC.out];omega)
   have hfroz:=World.ownsRow.frozenAt HW.out (c-1-j)
   have HS:=Lib.hid (World.ownsRow.stored HW.out (c-1-j) (.int .u8 (48+(k:Int) % 10))).1
   have HF:=Lib.hid (uC m j k (by rw[HC.out];exact hlt) (by rw[HC.out];exact HD.out hlt))
   go_wp2
   have hw:IntKind.u64.wrap ((k:Int) / 10)=((k / 10:Nat):Int):=by rw[gQ _ (by omega) (by have:=HK.out;omega)];omega
   go_roundw
   case rel =>
    refine⟨k / 10,j+1,by omega,by omega,BK hw,by go_num,?_,?_,HB.out.setCell (aaa _) _⟩
    ·have e:=HF.out.1
     rw[HC.out] at e
     rw[<- e,<- zI,zt]
     exact HS.out
    ·have e:=HF.out.2
     rw[HC.out] at e
     exact e
   case measure=>simp[intOf];omega
  ·obtain rfl:j=c:=by omega
   have hr:(convert 23 9 (.slice (some ⟨w.heap.size,0,none⟩) j j)).run Tryz.prog wr=.ok (.string (af (digsN m))) wr:=by
    have hx:OwnB 5 wr w.heap.size (.slice (some ⟨w.heap.size,0,none⟩) j j) (digsN m):=by
     have:=HW.out
     unfold OwnB
     rw[HC.out]
     rw[<- HC.out,yf,HC.out] at this
     exact this
    obtain⟨a,cap,e,_,_,hy⟩:=hx.at_
    injection e with e1 e2 e3
    subst e1
    have:=dz (P:=Tryz.prog) 23 5 9 Tryz.underlying23 Tryz.underlying5 Tryz.underlying9 wr _ _ j (digsN m) hy
    rw[HC.out] at this
    exact this
   have hsz:(af (digsN m)).size <= 20:=by rw[ej,HC.out];exact hc20
   go_wp2
   go_ret
   exact⟨by rw[<- Ej];rfl,HB.out⟩
theorem Iu(n:Int)(w:World)(h1 : -9223372036854775808 <= n)(h2:n <= 9223372036854775807):
  Calls Tryz.prog 192 #[.int .i64 n] w fun e w'=>e=.returned (.string (af (textL n))) /\ Below w.heap.size w w':=by
 by_cases h:n<0
 ·rw[textL,if_pos h];exact Iv n n.natAbs w (by omega) (by omega) (by omega)
 ·rw[textL,if_neg h];exact Iw n n.toNat w (by omega) (by omega)
def cleanB(xs:List UInt8):Bool:=!xs.contains 0
theorem tU(xs:List UInt8):decide (Lib.indexByte xs 0<0)=cleanB xs:=by
 induction xs with
 | nil=>rfl
 | cons b t ih =>
  have hge:=Lib.indexByte_ge t 0
  unfold Lib.indexByte cleanB
  by_cases hb:b=0
  ·subst hb;simp
  ·have h1:(b==0)=false:=by simpa using hb
   have h2:(0==b)=false:=by simpa using fun e:0=b=>hb e.symm
   rw[List.contains_cons,h1,h2,Bool.false_or]
   unfold cleanB at ih
   rw[<- ih]
   by_cases h3:Lib.indexByte t 0 = -1
   ·simp[h3]
   ·have h4:(Lib.indexByte t 0==-1)=false:=by simpa using h3
    simp[h4];omega
theorem Dz(s:ByteArray)(w:World):
  Calls Tryz.prog 160 #[.string s] w fun e w'=>e=.returned (.bool (cleanB s.data.toList)) /\ w=w':=by
 go_enter Tryz.func160,Tryz.ntmps160
 go_wp2
 rw[run_callFunc_extern Tryz.func255 (by kernel_rfl) (by kernel_rfl) (by kernel_rfl) (e:=Extern.BytealgIndexByte.indexByte) (by kernel_rfl),Lib.run_indexByteString]
 simp only[Result.andThen]
 rw[Oper.upon_value]
 go_wp2
 go_ret
 exact⟨by rw[<- tU];rfl,rfl⟩
theorem clean_no{xs:List UInt8}{k:Nat}(hk:k<xs.length)(h:xs.getD k 0=0):cleanB xs=false:=by
 have:xs.contains 0=true:=by
  rw[aal,<- h,aab,aad hk]
  exact aan hk
 simp[cleanB] at this ⊢
 exact this
theorem DA{xs:List UInt8}(h:∀ k,k<xs.length -> xs.getD k 0≠0):cleanB xs=true:=by
 simp only[cleanB,Bool.not_eq_true',<- Bool.not_eq_true,aal]
 intro hm
 obtain⟨k,hk,he⟩:=List.mem_iff_getElem.1 hm
 exact h k hk (by rw[aab,aad hk,he];rfl)
set_option maxHeartbeats 400000 in
theorem Bb(s:ByteArray)(w:World)(hs:s.size <= maxLen):
  Calls Tryz.prog 54 #[.string s] w fun e w'=>e=.returned (.bool (cleanB s.data.toList)) /\ w=w':=by
 unfold maxLen at hs
 go_enter Tryz.func54,Tryz.ntmps54
 go_wp2
 go_loop [3] (fun i=>∃ k:Nat,k <= s.size /\ i=.int .i64 k /\ ∀ j,j<k -> s.data.toList.getD j 0≠0) (fun i=>s.size-(intOf i).toNat)
 case atStart=>exact⟨0,aaj _,rfl,fun j hj=>by omega⟩
 case round =>
  obtain⟨k,hk,rfl,hall⟩:=hrel
  have HA:=Lib.hid hall
  clear hall
  by_cases hlt:k<s.size
  ·by_cases h0:s[k].toNat=0
   ·have hb:((s[k].toNat:Int)==0)=true:=by simp[h0]
    have HE:=Lib.hid (clean_no (xs:=s.data.toList) (k:=k) (by rw[jF];exact hlt) (by rw[nD s k hlt];apply aao.1;simpa using h0))
    clear h0
    go_wp2
    go_ret
    exact⟨by rw[HE.out];rfl,rfl⟩
   ·have hb:((s[k].toNat:Int)==0)=false:=by simp;omega
    have HN:Hid (s.data.toList.getD k 0≠0):=Lib.hid (by rw[nD s k hlt];intro e;exact h0 (by rw[e];rfl))
    clear h0
    go_wp2
    go_round
    case rel =>
     refine⟨k+1,by omega,by go_num,fun j hj=>?_⟩
     rcases aam j k with h |h
     ·exact HA.out j h
     ·obtain rfl:j=k:=by omega
      exact HN.out
    case measure=>simp[intOf];omega
  ·obtain rfl:k=s.size:=by omega
   have HE:=Lib.hid (DA (xs:=s.data.toList) (by rw[jF];exact HA.out))
   go_wp2
   go_ret
   exact⟨by rw[HE.out];rfl,rfl⟩
theorem Ew(s:ByteArray)(w:World)(hs:s.size <= 9223372036854775805):
  Calls Tryz.prog 199 #[.string s] w fun e w'=>e=.returned (.string ((⟨#[34]⟩++s)++⟨#[34]⟩)) /\ w=w':=by
 go_enter Tryz.func199,Tryz.ntmps199
 go_wp2
 go_ret
 exact⟨rfl,rfl⟩
end Go.Proofs.YtlbgjlmokpkkeaaGreatDoor.Dg
