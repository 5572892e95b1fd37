import Derived.Test.YtlbgjlmokpkkeaaGreatDoorQAxFr
open List renaming take_length -> aaa, all_eq_true -> aab
open Nat renaming lt_or_ge -> aac
set_option linter.all false
set_option maxRecDepth 10000
namespace Go.Proofs.YtlbgjlmokpkkeaaGreatDoor
namespace Ax
open Go.RowKit Go By
theorem wR(xs ys:List Int)(hl:xs.length <= 140737488355328)(h:d4):ae Tryz.prog 82 [.sl 1 (am aX xs) none .no,.sl 1 (am aX ys) none .no] h (.v (.bool (xs==ys))) h []:=by
 refine ac Z8 mixed (by simp[Uk]) fun hh hargs=>?_
 rw[<- jz]
 by_cases hlen:xs.length=ys.length
 ·simp[Uk,hlen]
  refine ap (D:=Nat) (fun j=>⟨[(0,.sl 1 (am aX xs) none .no),(1,.sl 1 (am aX ys) none .no),(5,.v (.int .i64 j))],[],h,[]⟩) (fun j=>j <= xs.length /\ ∀ i (h1:i<xs.length) (h2:i<ys.length),i<j -> ((·==·):Int -> Int -> Bool) xs[i] ys[i]=true) (fun j=>xs.length-j) 0 ⟨by omega,fun i h1 h2 h3=>by omega⟩ ?_ ?_
  ·simp[Leq,hh]
  ·rintro j ⟨hj,hp⟩
   by_cases hlt:j<ys.length
   ·have hlt':j<xs.length:=by omega
    have hw:IntKind.i64.wrap ((j:Int)+1)=(j:Int)+1:=wrap64 (by omega) (by omega)
    simp[hlt,hlt',aX]
    refine bG (xs[j] != ys[j]) (by simp) (fun ht=>?_) (fun hf'=>?_)
    ·simp at ht
     have:nJ (·==·) xs ys=false:=rR (i:=j) hlt' hlt (by simpa using ht)
     simp[hh,this]
    ·simp at hf'
     simp[hw]
     refine⟨j+1,⟨by omega,fun i h1 h2 h3=>?_⟩,by omega,?_⟩
     ·rcases aac i j with h4 |h4
      ·simpa using hp i h1 h2 h4
      ·have:i=j:=by omega
       subst this;simpa using hf'
     ·simp[Leq,hh]
   ·have hx:nJ (·==·) xs ys=true:=(ia _ xs ys).2 ⟨hlen,fun i h1 h2=>hp i h1 h2 (by omega)⟩
    have hlt':¬j<xs.length:=by omega
    simp[hh,hx,hlt,hlt']
 ·have hne:(xs.length:Int)≠ys.length:=by omega
  have hx:nJ (·==·) xs ys=false:=nK hlen
  simp[Uk,hne,hh,hx]
theorem Hl(xs ys:List Cl)(hl:xs.length <= 140737488355328)(h:d4):ae Tryz.prog 83 [.sl 2 (am aq xs) none .no,.sl 2 (am aq ys) none .no] h (.v (.bool (xs==ys))) h []:=by
 refine ac nw mixed (by simp[Ul]) fun hh hargs=>?_
 rw[<- jz]
 by_cases hlen:xs.length=ys.length
 ·simp[Ul,hlen]
  refine ap (D:=Nat) (fun j=>⟨[(0,.sl 2 (am aq xs) none .no),(1,.sl 2 (am aq ys) none .no),(5,.v (.int .i64 j))],[],h,[]⟩) (fun j=>j <= xs.length /\ ∀ i (h1:i<xs.length) (h2:i<ys.length),i<j -> ((·==·):Cl -> Cl -> Bool) xs[i] ys[i]=true) (fun j=>xs.length-j) 0 ⟨by omega,fun i h1 h2 h3=>by omega⟩ ?_ ?_
  ·simp[Leq,hh]
  ·rintro j ⟨hj,hp⟩
   by_cases hlt:j<ys.length
   ·have hlt':j<xs.length:=by omega
    have hw:IntKind.i64.wrap ((j:Int)+1)=(j:Int)+1:=wrap64 (by omega) (by omega)
    obtain⟨n,b,hx⟩:∃ n b,xs[j]=(n,b):=⟨_,_,rfl⟩
    obtain⟨m,d,hy⟩:∃ m d,ys[j]=(m,d):=⟨_,_,rfl⟩
    have next:xs[j]=ys[j] -> ∀ i (h1:i<xs.length) (h2:i<ys.length),i<j+1 -> ((·==·):Cl -> Cl -> Bool) xs[i] ys[i]=true:=fun he i h1 h2 h3=>by
     rcases aac i j with h4 |h4
     ·exact hp i h1 h2 h4
     ·have:i=j:=by omega
      subst this;simp[he]
    have no:xs[j]≠ys[j] -> nJ (·==·) xs ys=false:=fun he=>rR (i:=j) hlt' hlt (by simpa using he)
    rw[hx,hy] at next no
    cases hnm:n==m with
    | false =>
     have e:=no (by rintro he;injection he with h1 h2;simp[h1] at hnm)
     simp[hlt,hlt',hx,hy,cW,hnm,hh,e]
    | true =>
     have hnm':n=m:=by simpa using hnm
     cases hbd:b==d with
     | false =>
      have e:=no (by rintro he;injection he with h1 h2;simp[h2] at hbd)
      simp[hlt,hlt',hx,hy,cW,hnm,hbd,hh,e]
     | true =>
      have hbd':b=d:=by simpa using hbd
      have e:=next (by rw[hnm',hbd'])
      simp[hlt,hlt',hx,hy,cW,hnm,hbd,hw]
      refine⟨j+1,⟨by omega,fun i h1 h2 h3=>by simpa using e i h1 h2 h3⟩,by omega,?_⟩
      simp[Leq,hh]
   ·have hx:nJ (·==·) xs ys=true:=(ia _ xs ys).2 ⟨hlen,fun i h1 h2=>hp i h1 h2 (by omega)⟩
    have hlt':¬j<xs.length:=by omega
    simp[hh,hx,hlt,hlt']
 ·have hne:(xs.length:Int)≠ys.length:=by omega
  have hx:nJ (·==·) xs ys=false:=nK hlen
  simp[Ul,hne,hh,hx]
end Ax
namespace Ax
open Go.RowKit Go By YtlbgjlmokpkkeaaGreatDoor.Nm Sc Dg
def ep(lo hi z:Int):Bool:=!decide (z<lo)&&!decide (hi<z)
theorem gJ{α:Type}{p:α -> Bool}{xs:List α}{j:Nat}(hj:j<xs.length)(h1:∀ x∈xs.take j,p x=true)(h2:p xs[j]=true):∀ x∈xs.take (j+1),p x=true:=by
 rw[cN hj]
 intro x hx
 rcases List.mem_append.1 hx with h |h
 ·exact h1 x h
 ·simp at h;subst h;exact h2
theorem vO{α:Type}{p:α -> Bool}{xs:List α}{j:Nat}(hj:j<xs.length)(h2:p xs[j]=false):xs.all p=false:=by
 rw[List.all_eq_false];exact⟨_,List.getElem_mem hj,by simp[h2]⟩
theorem nf(l:List Int)(lo hi:Int)(h:d4):ae Tryz.prog 58 [.sl 1 (am aX l) none .no,.v (.int .i64 lo),.v (.int .i64 hi)] h (.v (.bool (decide (l.length <= 65535)&&l.all (ep lo hi)))) h []:=by
 refine ac ZQ mixed (by simp[Uh]) fun hh hargs=>?_
 by_cases hl:(65535:Int)<l.length
 ·have hl':¬l.length <= 65535:=by omega
  simp[Uh,hl,hl',hh]
 ·have hl':l.length <= 65535:=by omega
  simp[Uh,hl,hl']
  refine ap (D:=Nat) (fun j=>⟨[(0,.sl 1 (am aX l) none .no),(1,.v (.int .i64 lo)),(2,.v (.int .i64 hi)),(7,.v (.int .i64 j))],[],h,[]⟩) (fun j=>j <= l.length /\ ∀ x∈l.take j,ep lo hi x=true) (fun j=>l.length-j) 0 (by simp) ?_ ?_
  ·simp[Leq,hh]
  ·rintro j ⟨hj,hp⟩
   by_cases hlt:j<l.length
   ·have hw:IntKind.i64.wrap ((j:Int)+1)=(j:Int)+1:=wrap64 (by omega) (by omega)
    by_cases h1:l[j]<lo
    ·have e:=vO (p:=ep lo hi) hlt (by simp[ep,h1])
     simp[hlt,aX,h1,hh,e]
    ·by_cases h2:hi<l[j]
     ·have e:=vO (p:=ep lo hi) hlt (by simp[ep,h2])
      simp[hlt,aX,h1,h2,hh,e]
     ·simp[hlt,aX,h1,h2,hw]
      refine⟨j+1,⟨by omega,gJ hlt hp (by simp[ep,h1,h2])⟩,by omega,?_⟩
      simp[Leq,hh]
   ·have:j=l.length:=by omega
    subst this
    have e:l.all (ep lo hi)=true:=by rw[aaa] at hp;exact aab.2 hp
    simp[hh,e]
theorem EF(l:List Cl)(h:d4):ae Tryz.prog 59 [.sl 2 (am aq l) none .no] h (.v (.bool (decide (l.length <= 65535)&&l.all bS))) h []:=by
 refine ac ZR mixed (by simp[Ui]) fun hh hargs=>?_
 by_cases hl:(65535:Int)<l.length
 ·have hl':¬l.length <= 65535:=by omega
  simp[Ui,hl,hl',hh]
 ·have hl':l.length <= 65535:=by omega
  simp[Ui,hl,hl']
  refine ap (D:=Nat) (fun j=>⟨[(0,.sl 2 (am aq l) none .no),(3,.v (.int .i64 j))],[],h,[]⟩) (fun j=>j <= l.length /\ ∀ x∈l.take j,bS x=true) (fun j=>l.length-j) 0 (by simp) ?_ ?_
  ·simp[Leq,hh]
  ·rintro j ⟨hj,hp⟩
   by_cases hlt:j<l.length
   ·have hw:IntKind.i64.wrap ((j:Int)+1)=(j:Int)+1:=wrap64 (by omega) (by omega)
    obtain⟨n,b,hx⟩:∃ n b,l[j]=(n,b):=⟨_,_,rfl⟩
    by_cases h1:(1048576:Int)<b.length
    ·have h3:¬b.length <= 1048576:=by omega
     have e:=vO (p:=bS) hlt (by rw[hx];simp[bS,h3])
     cases n
     ·simp[hlt,hx,cW,h1,hh,e]
     ·have h2:0<b.length:=by omega
      simp[hlt,hx,cW,h1,h2,hh,e]
    ·have h1':b.length <= 1048576:=by omega
     cases n
     ·simp[hlt,hx,cW,h1,hw]
      refine⟨j+1,⟨by omega,⟨fun b=>gJ hlt hp (by rw[hx];simp[bS,h1']) (_,b),fun b=>gJ hlt hp (by rw[hx];simp[bS,h1']) (_,b)⟩⟩,by omega,?_⟩
      simp[Leq,hh]
     ·by_cases h2:0<b.length
      ·have e:=vO (p:=bS) hlt (by rw[hx];simp[bS,h2])
       simp[hlt,hx,cW,h1,h2,hh,e]
      ·simp[hlt,hx,cW,h1,h2,hw]
       refine⟨j+1,⟨by omega,⟨fun b=>gJ hlt hp (by rw[hx];simp[bS,h1',h2]) (_,b),fun b=>gJ hlt hp (by rw[hx];simp[bS,h1',h2]) (_,b)⟩⟩,by omega,?_⟩
       simp[Leq,hh]
   ·have:j=l.length:=by omega
    subst this
    have e:l.all bS=true:=by rw[aaa] at hp;exact aab.2 hp
    simp[hh,e]
theorem K0(a b:Fm)(ha:rf a)(h:d4):ae Tryz.prog 60 [.agg (aJ a),.agg (aJ b)] h (.v (.bool (mn a b))) h []:=by
 obtain⟨q1,q2,q3,q4,_⟩:=ha
 refine ac ZS mixed (by simp[JS]) fun hh hargs=>?_
 have one:mn a b=((a.kind==b.kind&&(a.what==b.what&&(a.name==b.name&&(a.portal==b.portal&&(a.text==b.text&&a.max==b.max)))))&&(a.oids==b.oids&&(a.formats==b.formats&&(a.results==b.results&&a.params==b.params)))):=by
  simp only[mn,Bool.and_assoc]
 rw[one]
 cases p1:a.kind==b.kind with
 | false=>simp[JS,hh,p1]
 | true =>
 cases p2:a.what==b.what with
 | false=>simp[JS,hh,p1,p2]
 | true =>
 cases p3:a.name==b.name with
 | false=>simp[JS,hh,p1,p2,p3]
 | true =>
 cases p4:a.portal==b.portal with
 | false=>simp[JS,hh,p1,p2,p3,p4]
 | true =>
 cases p5:a.text==b.text with
 | false=>simp[JS,hh,p1,p2,p3,p4,p5]
 | true =>
 cases p6:a.max==b.max with
 | false=>simp[JS,hh,p1,p2,p3,p4,p5,p6]
 | true =>
 simp[JS,p1,p2,p3,p4,p5,p6]
 refine aa (by simp) (wR _ _ q1 _) ?_
 cases p7:a.oids==b.oids with
 | false=>simp[hh]
 | true =>
 simp
 refine aa (by simp) (wR _ _ q2 _) ?_
 cases p8:a.formats==b.formats with
 | false=>simp[hh]
 | true =>
 simp
 refine aa (by simp) (wR _ _ q3 _) ?_
 cases p9:a.results==b.results with
 | false=>simp[hh]
 | true =>
 simp
 refine aa (by simp) (Hl _ _ q4 _) ?_
 simp[hh]
theorem KX(m:Fm)(h:d4):ae Tryz.prog 61 [.agg (aJ m)] h (.agg (aJ (bw m))) h []:=by
 refine ac ZT mixed (by simp[JT]) fun hh hargs=>?_
 by_cases h80:m.kind=80
 ·simp[JT,aL,hh,bw,h80]
 by_cases h66:m.kind=66
 ·simp[JT,aL,hh,bw,h66]
 by_cases h67:m.kind=67
 ·by_cases hw:m.what=83<;>simp[JT,aL,hh,bw,h67,hw]
 by_cases h68:m.kind=68
 ·by_cases hw:m.what=83<;>simp[JT,aL,hh,bw,h68,hw]
 by_cases h69:m.kind=69
 ·simp[JT,aL,hh,bw,h69]
 by_cases h81:m.kind=81
 ·simp[JT,aL,hh,bw,h81]
 simp[JT,aL,hh,bw,h80,h66,h67,h68,h69,h81]
def eZ(m:Fm):Bool:=if m.kind=67 \/ m.kind=68 then m.what==83||m.what==80 else m.what==0||(m.what==83||m.what==80)
def fi(m:Fm):Bool:=(decide (m.oids.length <= 65535)&&m.oids.all (ep 0 4294967295))&&((decide (m.formats.length <= 65535)&&m.formats.all (ep 0 65535))&&((decide (m.results.length <= 65535)&&m.results.all (ep 0 65535))&&(decide (m.params.length <= 65535)&&m.params.all bS)))
def bQ(m:Fm):Int :=
 if ¬az m.kind=1 then 9
 else if eT m&&(fi m&&(eZ m&&(ep (-2147483648) 2147483647 m.max&&mn m (bw m)))) then 0 else 1
theorem Hn(m:Fm)(hf:rf m)(h:d4):ae Tryz.prog 38 [.agg (aJ m)] h (.v (.int .i64 (bQ m))) h []:=by
 refine cf (XCode.cuts [false,false,true,true,true,true] c38.code) ZC rfl mixed (by simp[c38]) fun hh hargs=>?_
 have hf':=Ay hf
 have hf0:=hf
 obtain⟨q1,q2,q3,q4,q5,q6,q7,q8⟩:=hf
 simp[c38]
 refine aa (by simp) (Hw _ _) ?_
 by_cases hk:az m.kind=1
 ·simp[hk]
  refine gT ⟨[(1,.box h.length 0),(2,.v (.int .i64 0)),(3,.v (.bool (eT m)))],[],h++[aJ m],[]⟩ ?_ ?_
  ·simp
   refine aa (by simp) (lj _ (by unfold maxLen;omega) _) ?_
   cases p1:cleanB m.name with
   | false=>simp[Leq,hh,eT,p1]
   | true =>
   simp
   refine aa (by simp) (lj _ (by unfold maxLen;omega) _) ?_
   cases p2:cleanB m.portal with
   | false=>simp[Leq,hh,eT,p1,p2]
   | true =>
   simp
   refine aa (by simp) (lj _ (by unfold maxLen;omega) _) ?_
   simp[Leq,hh,eT,p1,p2]
  refine gT ⟨[(1,.box h.length 0),(2,.v (.int .i64 0)),(3,.v (.bool (eT m))),(4,.v (.bool (fi m)))],[],h++[aJ m],[]⟩ ?_ ?_
  ·unfold fi
   simp
   refine aa (by simp) (nf _ _ _ _) ?_
   cases p1:(decide (m.oids.length <= 65535)&&m.oids.all (ep 0 4294967295)) with
   | false=>simp[Leq,hh]
   | true =>
   simp
   refine aa (by simp) (nf _ _ _ _) ?_
   cases p2:(decide (m.formats.length <= 65535)&&m.formats.all (ep 0 65535)) with
   | false=>simp[Leq,hh]
   | true =>
   simp
   refine aa (by simp) (nf _ _ _ _) ?_
   cases p3:(decide (m.results.length <= 65535)&&m.results.all (ep 0 65535)) with
   | false=>simp[Leq,hh]
   | true =>
   simp
   refine aa (by simp) (EF _ _) ?_
   simp[Leq,hh]
  refine gT ⟨[(1,.box h.length 0),(2,.v (.int .i64 0)),(3,.v (.bool (eT m))),(4,.v (.bool (fi m))),(5,.v (.bool (m.what==0||(m.what==83||m.what==80))))],[],h++[aJ m],[]⟩ ?_ ?_
  ·cases p0:m.what==0 with
   | true=>simp[Leq,hh,p0]
   | false =>
   cases p1:m.what==83<;>simp[Leq,hh,p0,p1]
  refine gT ⟨[(1,.box h.length 0),(2,.v (.int .i64 0)),(3,.v (.bool (eT m))),(4,.v (.bool (fi m))),(5,.v (.bool (eZ m)))],[],h++[aJ m],[]⟩ ?_ ?_
  ·by_cases p67:m.kind=67
   ·have e:eZ m=(m.what==83||m.what==80):=by simp[eZ,p67]
    cases p1:m.what==83<;>simp[Leq,hh,p67,p1,e]
   ·by_cases p68:m.kind=68
    ·have e:eZ m=(m.what==83||m.what==80):=by simp[eZ,p68]
     cases p1:m.what==83<;>simp[Leq,hh,p68,p1,e]
    ·have e:eZ m=(m.what==0||(m.what==83||m.what==80)):=by simp[eZ,p67,p68]
     simp[Leq,hh,p67,p68,e]
  have e:bQ m=if eT m&&(fi m&&(eZ m&&(ep (-2147483648) 2147483647 m.max&&mn m (bw m)))) then 0 else 1:=by unfold bQ;rw[if_neg (by simp[hk])]
  rw[e]
  cases p1:eT m with
  | false=>simp[hh]
  | true =>
  cases p2:fi m with
  | false=>simp[hh]
  | true =>
  cases p3:eZ m with
  | false=>simp[hh]
  | true =>
  by_cases p4:m.max < -2147483648
  ·simp[hh,p4,ep]
  by_cases p5:2147483647<m.max
  ·simp[hh,p4,p5,ep]
  simp[p4,p5,ep]
  refine aa (by simp) (KX m _) ?_
  simp
  refine aa (by simp) (K0 m (bw m) hf0 _) ?_
  cases p5:mn m (bw m)<;>simp[hh]
 ·simp[hk,hh,bQ]
def qb(m:Fm):Bool:=decide (50<(m.oids.length:Int))||(decide (50<(m.formats.length:Int))||(decide (50<(m.results.length:Int))||decide (50<(m.params.length:Int))))
def sp(c:Cl):Bool:=decide (300<(c.2.length:Int))
def cP(m:Fm):Bool:=!qb m&&(!m.params.any sp&&(decide ((m.name.length:Int) <= 300)&&(decide ((m.portal.length:Int) <= 300)&&decide ((m.text.length:Int) <= 1000))))
theorem G9(c:Cl)(h:d4):ae Tryz.prog 32 [.agg (aq c)] h (.v (.bool (sp c))) h []:=by
 refine ac Zx mixed (by simp[VH]) fun hh hargs=>?_
 simp[VH,hh,sp]
theorem KF(m:Fm)(h:d4):ae Tryz.prog 17 [.agg (aJ m)] h (.v (.bool (cP m))) h []:=by
 refine cf (XCode.cuts [false,true] c17.code) Zm rfl mixed (by simp[c17]) fun hh hargs=>?_
 have plain_no:qb m=true -> cP m=false:=fun h=>by unfold cP;rw[h];rfl
 have many_of:∀ b,b=qb m -> b=true -> cP m=false:=fun b h1 h2=>plain_no (h1▸h2)
 simp[c17]
 by_cases hm:qb m=true
 ·rw[plain_no hm]
  refine TN ?_
  unfold qb at hm
  by_cases h1:50<(m.oids.length:Int)
  ·simp[h1,hh]
  by_cases h2:50<(m.formats.length:Int)
  ·simp[h1,h2,hh]
  by_cases h3:50<(m.results.length:Int)
  ·simp[h1,h2,h3,hh]
  by_cases h4:50<(m.params.length:Int)
  ·simp[h1,h2,h3,h4,hh]
  simp[h1,h2,h3,h4] at hm
 ·have hm':qb m=false:=by simpa using hm
  have hp:cP m=(!m.params.any sp&&(decide ((m.name.length:Int) <= 300)&&(decide ((m.portal.length:Int) <= 300)&&decide ((m.text.length:Int) <= 1000)))):=by unfold cP;rw[hm'];rfl
  rw[hp]
  unfold qb at hm'
  simp only[Bool.or_eq_false_iff,decide_eq_false_iff_not] at hm'
  obtain⟨h1,h2,h3,h4⟩:=hm'
  refine gT ⟨[(1,.box h.length 0)],[],h++[aJ m],[]⟩ ?_ ?_
  ·simp[h1,h2,h3,h4,Leq,hh]
  ·simp
   refine aa (by simp) (dE mixed Y4 Y6 aq sp m.params [] _ (by simp) (by simp) (by simp) (fun c hm=>G9 c _) (by omega)) ?_
   cases p1:m.params.any sp with
   | true=>simp[hh]
   | false =>
   simp
   by_cases p2:(m.name.length:Int) <= 300
   ·by_cases p3:(m.portal.length:Int) <= 300
    ·simp[p2,p3,hh]
    ·simp[p2,p3,hh]
   ·simp[p2,hh]
end Ax
end Go.Proofs.YtlbgjlmokpkkeaaGreatDoor
