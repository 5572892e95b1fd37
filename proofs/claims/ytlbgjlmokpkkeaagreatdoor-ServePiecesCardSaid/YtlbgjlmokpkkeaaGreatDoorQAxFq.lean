import Derived.Test.YtlbgjlmokpkkeaaGreatDoorQAxPf
open List renaming length_append -> aaa, append_assoc -> aab, getElem?_append_left -> aad, mem_append -> aag
open Nat renaming le_add_right -> aac, le_trans -> aah
open Int renaming toNat_natCast -> aae
open UInt8 renaming ofNat -> aaf
set_option linter.all false
set_option maxRecDepth 10000
namespace Go.Proofs.YtlbgjlmokpkkeaaGreatDoor
namespace Ax
open Go.RowKit Go By YtlbgjlmokpkkeaaGreatDoor.Nm Sc Dg
def iy(st:Sta):List AV:=[.v (.bool st.isSome),.sl 1 (ai (st.getD [])) none .no]
@[simp] theorem Tx(xs:d5):iy (some xs)=[.v (.bool true),.sl 1 (ai xs) none .no]:=rfl
@[simp] theorem Tw:iy none=[.v (.bool false),.sl 1 (ai []) none .no]:=rfl
theorem cA(n:Nat)(st:Sta):cb n (iy st):=by unfold iy;simp
section
variable (i:Nat) (h:d4) (st:Sta) (hi:h[i]?=some (iy st))
include hi
theorem rj:ae Tryz.prog 77 [.box i 0] h (.v (.bool (kH st))) h []:=by
 refine ac Z5 mixed (by simp[V3]) fun hh hargs=>?_
 cases st<;>simp at hi<;>simp[V3,hi,hh,kH]
theorem wk:ae Tryz.prog 68 [.box i 0] h (.v (.bool (kq st))) h []:=by
 refine ac Jd mixed (by simp[V0]) fun hh hargs=>?_
 simp[V0]
 refine aa (by simp) (rj i h st hi) ?_
 rcases st with _ |(_ |⟨x,xs⟩)<;>simp at hi<;>simp[hi,hh,kH,kq]
 omega
end
theorem wo(i:Nat)(h:d4)(a b:AV)(hi:h[i]?=some [a,b]):ae Tryz.prog 103 [.box i 0] h (.tup []) (h.set i (iy none)) [i]:=by
 refine ac WN mixed (by simp[MY]) fun hh hargs=>?_
 simp[MY,hi,hh]
section
variable (i:Nat) (h:d4) (st:Sta) (hi:h[i]?=some (iy st))
include hi
theorem BH(n:Int):ae Tryz.prog 104 [.box i 0,.v (.int .i64 n)] h (.sl 1 (ai (lp st n)) none .exact) (h.set i (iy (iB st n))) [i]:=by
 refine ac WO mixed (by simp[MZ]) fun hh hargs=>?_
 simp[MZ]
 refine aa (by simp) (rj i h st hi) ?_
 rcases st with _ |xs
 ·simp at hi
  simp[hi,hh,kH,lp,iB,gH hi]
 ·simp at hi
  by_cases hn:jj xs n=true
  ·obtain⟨h1,h2⟩:=ER hn
   have h1':¬n<0:=by omega
   have h2':¬(xs.length:Int)<n:=by omega
   simp[hi,hh,kH,lp,iB,hn,h1,h2,h1',h2',pQ,pP]
  ·by_cases h0:n<0
   ·simp[hi,hh,kH,lp,iB,hn,h0]
    refine aa (by simp) (wo i h _ _ hi) ?_
    simp[hh]
   ·have h1:(xs.length:Int)<n:=by have:=Ip hn;omega
    simp[hi,hh,kH,lp,iB,hn,h0,h1]
    refine aa (by simp) (wo i h _ _ hi) ?_
    simp[hh]
theorem nW(n:Int):ae Tryz.prog 76 [.box i 0,.v (.int .i64 n)] h (.v (.int .i64 (bf st n))) (h.set i (iy (aA st n))) [i]:=by
 refine ac Z1 mixed (by simp[V2]) fun hh hargs=>?_
 simp[V2]
 refine aa (by simp) (rj i h st hi) ?_
 rcases st with _ |xs
 ·simp at hi
  simp[hi,hh,kH,bf,aA,gH hi]
 ·have hi0:=hi
  simp at hi
  simp[hi,kH]
  refine aa (by simp) (LU xs 0 n h) ?_
  by_cases he:cn xs.length 0 n=0
  ·have:=ym he
   simp[he]
   refine aa (by simp) (BH i h _ hi0 n) ?_
   have ht:jj xs n=true:=by simp[jj];omega
   simp[hh,bf,aA,he,iB,ht,cO]
  ·simp[he]
   refine aa (by simp) (wo i h _ _ hi) ?_
   simp[hh,bf,aA,he]
end
theorem yy(xs:d5)(h:d4):ae Tryz.prog 121 [.sl 1 (ai xs) none .no,.v (.int .u8 0)] h (.v (.int .i64 (match zeroAt xs with |none=>-1 |some k=>(k:Int)))) h [] :=
 ew (by kernel_rfl) rfl fun G w vs hW hs=>by
  obtain⟨a,cap,rfl,_,h1,h3,h2⟩:=lC (l:=[.int .u8 0]) hW hs
  have e:=tT _ a cap xs w h2
  rw[kY] at e
  exact⟨_,.v _,e⟩
theorem iM(i:Nat)(h:d4)(st:Sta)(hi:h[i]?=some (iy st))(hl:He.lenS st <= 140737488355328):ae Tryz.prog 88 [.box i 0] h (.v (.string (af (He.textL st)))) (h.set i (iy (ax st))) [i]:=by
 refine ac qR mixed (by simp[V8]) fun hh hargs=>?_
 simp[V8]
 refine aa (by simp) (rj i h st hi) ?_
 rcases st with _ |xs
 ·simp at hi
  simp[hi,hh,kH,He.textL,ax,gH hi]
 ·have hi0:=hi
  simp at hi
  simp[hi,kH]
  refine aa (by simp) (yy xs h) ?_
  cases hz:zeroAt xs with
  | none =>
   simp
   refine aa (by simp) (wo i h _ _ hi) ?_
   simp[hh,ax,He.textL,hz]
  | some k =>
   have hk:=(iE hz).1
   have h0:¬(k:Int)<0:=by omega
   have ht:jj xs ((k:Int)+1)=true:=by simp[jj];omega
   have hw:IntKind.i64.wrap ((k:Int)+1)=(k:Int)+1:=wrap64 (by omega) (by simp[He.lenS] at hl;omega)
   simp[h0,hw]
   refine aa (by simp) (BH i h _ hi0 _) ?_
   have hk':k <= min (k+1) xs.length:=by omega
   simp[hh,lp,iB,ht,ax,He.textL,hz,List.take_take,hk']
theorem LZ(xs:d5)(hx:xs.length <= 140737488355328)(h:d4):ae Tryz.prog 75 [.sl 1 (ai xs) none .no] h (.box h.length 0) (h++[iy (some xs)]) []:=by
 refine ac ZZ mixed (by simp[V1]) fun hh hargs=>?_
 simp[V1,hh,hx]
 refine dr ?_
 simp[hh,hx]
abbrev Rs:=d5×Bool
def rsC(r:Rs):List AV:=[.sl 1 (ai r.1) none .no,.v (.bool r.2)]
def yU(r:Rs):Sta:=bif r.2 then none else some r.1
def Tt(b:d5):Sta -> Rs
 | some xs=>(xs,false)
 | none=>(b,true)
def za(f:Sta -> Sta)(r:Rs):Rs:=Tt r.1 (f (yU r))
section
variable (i:Nat) (h:d4) (r:Rs) (hi:h[i]?=some (rsC r))
include hi
end
def aT{α:Type}(v:Sta -> α)(s:Sta -> Sta):Nat -> Sta -> List α × Sta
 | 0,st=>([],st)
 | k+1,st=>(v st::(aT v s k (s st)).1,(aT v s k (s st)).2)
section
variable {α:Type} (v:Sta -> α) (s:Sta -> Sta)
theorem jN:∀(k:Nat) (st:Sta),aT v s (k+1) st=((aT v s k st).1++[v (aT v s k st).2],s (aT v s k st).2)
 | 0,st=>rfl
 | k+1,st=>by
  have ih:=jN k (s st)
  rw[aT,ih]
  simp[aT]
@[simp] theorem Ey:∀(k:Nat) (st:Sta),(aT v s k st).1.length=k
 | 0,_=>rfl
 | k+1,st=>by simp[aT,Ey k]
theorem vf(hs:s none=none){k n:Nat}(hk:k <= n){st:Sta}(h:(aT v s k st).2=none):(aT v s n st).2=none:=by
 induction n with
 | zero => have : k = 0 := by omega
           subst this;exact h
 | succ n ih =>
  by_cases e:k=n+1
  ·subst e;exact h
  ·rw[jN,ih (by omega)];exact hs
end
def ij{α:Type}(v:Sta -> α)(s:Sta -> Sta)(st:Sta):List α :=
 if(aT v s (bf st 2).toNat (aA st 2)).2=none then[] else(aT v s (bf st 2).toNat (aA st 2)).1
def ii{α:Type}(v:Sta -> α)(s:Sta -> Sta)(st:Sta):Sta:=(aT v s (bf st 2).toNat (aA st 2)).2
theorem sy(st:Sta):0 <= bf st 2 /\ bf st 2<65536:=by
 unfold bf
 split
 ·split
  ·exact⟨(eV _ 0 2 (by omega)).1,by have:=(eV (by assumption) 0 2 (by omega)).2;simpa using this⟩
  ·omega
 ·omega
theorem IX(v:Sta -> Int)(s:Sta -> Sta)(hs:s none=none)(g:FuncId)(first cap:List AV)(i:Nat)(h:d4)(st:Sta)(hi:h[i]?=some (iy st))(hf:∀ c∈first,c.idOf=none)(hcap:∀ c∈cap,c.idOf=none)(hlf:cb h.length first)(hlc:cb h.length cap)
  (hg:∀ st' h',ae Tryz.prog g (first++cap) (h.set i (iy st')++h') (.v (.int .i64 (v st'))) (h.set i (iy (s st'))++h') [i]) :
  ae Tryz.prog 122 [.agg [.box i 0],.fn (.func g) first cap] h (.sl 1 (am aX (ij v s st)) none .no) (h.set i (iy (ii v s st))) [i]:=by
 refine ac Xb mixed (by simp[Na]) fun hh hargs=>?_
 simp at hargs
 have hil:=jC hi
 have hi1:i<h.length+1:=by omega
 obtain⟨hn0,hn1⟩:=sy st
 obtain⟨n,hn⟩:∃ n:Nat,bf st 2=n:=⟨(bf st 2).toNat,by omega⟩
 have hle:iI 0 (h.set i (iy (aA st 2))) (h.set i (iy (aA st 2))):=cy _ _
 simp[Na]
 refine aa (by simp) (nW i _ st (by simpa[aad hil] using hi) 2) ?_
 simp[cE hil,hn]
 refine ap (D:=Nat) (fun j=>⟨[(1,.fn (.func g) first cap),(2,.box h.length 0),(8,.v (.int .i64 n)),(9,.v (.int .i64 j))],[(5,.sl 1 (am aX (aT v s j (aA st 2)).1) none (.own (.slot 5)))],h.set i (iy (aT v s j (aA st 2)).2)++[[.box i 0]],[i]⟩)
  (fun j=>j <= n /\ (j=0 \/ (aT v s j (aA st 2)).2≠none)) (fun j=>n-j) 0 (by simp) ?_ ?_
 ·simp[Leq,hh,hil,hlf,hlc,aT,bM (aac _ 1) hlf,bM (aac _ 1) hlc,cA,hi1]
 ·rintro j ⟨hj,hj2⟩
  by_cases hlt:j<n
  ·have hlt':(j:Int)<n:=by omega
   have hw:IntKind.i64.wrap ((j:Int)+1)=(j:Int)+1:=wrap64 (by omega) (by omega)
   have hx:=jN v s j (aA st 2)
   have hq:∀ y∈first++cap,y.idOf=none:=fun y hy=>(aag.1 hy).elim (hf y) (hcap y)
   have hb:(j+1)*8 <= 140737488355328:=by omega
   have hb2:(j+1) <= 140737488355328:=by omega
   have h5:aX (v (aT v s j (aA st 2)).2)=[.v (.int .i64 (v (aT v s j (aA st 2)).2))]:=rfl
   simp[hlt']
   refine⟨by simpa[or_imp,forall_and] using⟨hf,hcap⟩,aa hq (hg _ _) ?_⟩
   simp[bI hq,hw,hb,hb2]
   refine aa (by simp) (rj i _ (s (aT v s j (aA st 2)).2) (aR hil _ _)) ?_
   have hx1:(aT v s (j+1) (aA st 2)).1=(aT v s j (aA st 2)).1++[v (aT v s j (aA st 2)).2]:=by rw[hx]
   have hx2:(aT v s (j+1) (aA st 2)).2=s (aT v s j (aA st 2)).2:=by rw[hx]
   cases he:s (aT v s j (aA st 2)).2 with
   | none =>
    have h6:=vf v s hs (k:=j+1) (n:=n) (by omega) (st:=aA st 2) (by rw[hx2,he])
    simp[kH,hh,hil,ij,ii,hn,h6]
   | some xs =>
    simp[kH,hw]
    refine⟨j+1,⟨by omega,by rw[hx2,he];simp⟩,by omega,?_⟩
    simp[Leq,hh,hil,hx1,hx2,he,h5,bM (aac _ 1) hlf,bM (aac _ 1) hlc,cA,hi1]
  ·have hlt':¬(j:Int)<n:=by omega
   have:j=n:=by omega
   subst this
   have h6:ij v s st=(aT v s j (aA st 2)).1 /\ ii v s st=(aT v s j (aA st 2)).2:=by
    unfold ij ii
    rw[hn]
    simp only[aae]
    refine⟨?_,trivial⟩
    rcases hj2 with rfl |h7
    ·by_cases h8:(aT v s 0 (aA st 2)).2=none
     ·rw[if_pos h8];rfl
     ·rw[if_neg h8]
    ·rw[if_neg h7]
   simp[hh,hil,h6,iy]
theorem IW(v:Sta -> Cl)(s:Sta -> Sta)(hs:s none=none)(g:FuncId)(first cap:List AV)(i:Nat)(h:d4)(st:Sta)(hi:h[i]?=some (iy st))(hf:∀ c∈first,c.idOf=none)(hcap:∀ c∈cap,c.idOf=none)(hlf:cb h.length first)(hlc:cb h.length cap)
  (hg:∀ st' h',ae Tryz.prog g (first++cap) (h.set i (iy st')++h') (.agg (aq (v st'))) (h.set i (iy (s st'))++h') [i]) :
  ae Tryz.prog 124 [.agg [.box i 0],.fn (.func g) first cap] h (.sl 2 (am aq (ij v s st)) none .no) (h.set i (iy (ii v s st))) [i]:=by
 refine ac Xd mixed (by simp[Nc]) fun hh hargs=>?_
 simp at hargs
 have hil:=jC hi
 have hi1:i<h.length+1:=by omega
 obtain⟨hn0,hn1⟩:=sy st
 obtain⟨n,hn⟩:∃ n:Nat,bf st 2=n:=⟨(bf st 2).toNat,by omega⟩
 have hle:iI 0 (h.set i (iy (aA st 2))) (h.set i (iy (aA st 2))):=cy _ _
 simp[Nc]
 refine aa (by simp) (nW i _ st (by simpa[aad hil] using hi) 2) ?_
 simp[cE hil,hn]
 refine ap (D:=Nat) (fun j=>⟨[(1,.fn (.func g) first cap),(2,.box h.length 0),(8,.v (.int .i64 n)),(9,.v (.int .i64 j))],[(5,.sl 2 (am aq (aT v s j (aA st 2)).1) none (.own (.slot 5)))],h.set i (iy (aT v s j (aA st 2)).2)++[[.box i 0]],[i]⟩)
  (fun j=>j <= n /\ (j=0 \/ (aT v s j (aA st 2)).2≠none)) (fun j=>n-j) 0 (by simp) ?_ ?_
 ·simp[Leq,hh,hil,hlf,hlc,aT,bM (aac _ 1) hlf,bM (aac _ 1) hlc,cA,hi1]
 ·rintro j ⟨hj,hj2⟩
  by_cases hlt:j<n
  ·have hlt':(j:Int)<n:=by omega
   have hw:IntKind.i64.wrap ((j:Int)+1)=(j:Int)+1:=wrap64 (by omega) (by omega)
   have hx:=jN v s j (aA st 2)
   have hq:∀ y∈first++cap,y.idOf=none:=fun y hy=>(aag.1 hy).elim (hf y) (hcap y)
   have hb:(j+1)*32 <= 140737488355328:=by omega
   have hb2:(j+1) <= 140737488355328:=by omega
   simp[hlt']
   refine⟨by simpa[or_imp,forall_and] using⟨hf,hcap⟩,aa hq (hg _ _) ?_⟩
   simp[bI hq,hw,hb,hb2]
   refine aa (by simp) (rj i _ (s (aT v s j (aA st 2)).2) (aR hil _ _)) ?_
   have hx1:(aT v s (j+1) (aA st 2)).1=(aT v s j (aA st 2)).1++[v (aT v s j (aA st 2)).2]:=by rw[hx]
   have hx2:(aT v s (j+1) (aA st 2)).2=s (aT v s j (aA st 2)).2:=by rw[hx]
   cases he:s (aT v s j (aA st 2)).2 with
   | none =>
    have h6:=vf v s hs (k:=j+1) (n:=n) (by omega) (st:=aA st 2) (by rw[hx2,he])
    simp[kH,hh,hil,ij,ii,hn,h6]
   | some xs =>
    simp[kH,hw]
    refine⟨j+1,⟨by omega,by rw[hx2,he];simp⟩,by omega,?_⟩
    simp[Leq,hh,hil,hx1,hx2,he,bM (aac _ 1) hlf,bM (aac _ 1) hlc,cA,hi1]
  ·have hlt':¬(j:Int)<n:=by omega
   have:j=n:=by omega
   subst this
   have h6:ij v s st=(aT v s j (aA st 2)).1 /\ ii v s st=(aT v s j (aA st 2)).2:=by
    unfold ij ii
    rw[hn]
    simp only[aae]
    refine⟨?_,trivial⟩
    rcases hj2 with rfl |h7
    ·by_cases h8:(aT v s 0 (aA st 2)).2=none
     ·rw[if_pos h8];rfl
     ·rw[if_neg h8]
    ·rw[if_neg h7]
   simp[hh,hil,h6,iy]
theorem IV(a b:Nat)(h:d4)(i:Nat)(size:Int)(st:Sta)(ha:h[a]?=some [.box i 0])(hb:h[b]?=some [.v (.int .i64 size)])(hi:h[i]?=some (iy st)):
  ae Tryz.prog 123 [.box a 0,.box b 0] h (.v (.int .i64 (bf st size))) (h.set i (iy (aA st size))) [i]:=by
 refine ac Xc mixed (by simp[Nb]) fun hh hargs=>?_
 simp[Nb,ha,hb]
 refine aa (by simp) (nW i h st hi size) ?_
 simp[hh,cA]
theorem xh(i:Nat)(h:d4)(st:Sta)(hi:h[i]?=some (iy st))(size:Int):
  ae Tryz.prog 89 [.agg [.box i 0],.v (.int .i64 size)] h (.sl 1 (am aX (ij (bf · size) (aA · size) st)) none .no) (h.set i (iy (ii (bf · size) (aA · size) st))) [i]:=by
 have hil:=jC hi
 refine ac k89 mixed (by simp[V9]) fun hh hargs=>?_
 simp[V9]
 refine aa (by simp) (IX (bf · size) (aA · size) rfl _ [] [.box h.length 0,.box (h.length+1) 0] i _ st (gV hi _) (by simp) (by simp) (by simp) (by simp) fun st' h'=>?_) ?_
 ·have:=IV h.length (h.length+1) (h.set i (iy st')++([[.box i 0],[.v (.int .i64 size)]]++h')) i size st' (by simp) (by simp) (aR hil _ _)
  rw[aW hil,<- aab,<- aab] at this
  simpa[cE hil] using this
 ·simp[hh,cE hil,cA]
def mc(st:Sta):Cl:=if bf st 4=4294967295 then(true,[]) else(false,lp (aA st 4) (bf st 4))
def kg(st:Sta):Sta:=if bf st 4=4294967295 then aA st 4 else iB (aA st 4) (bf st 4)
theorem zU:kg none=none:=by simp[kg,aA,bf,iB]
theorem IQ(i:Nat)(h:d4)(st:Sta)(hi:h[i]?=some (iy st)):
  ae Tryz.prog 125 [.agg [.box i 0]] h (.agg (aq (mc st))) (h.set i (iy (kg st))) [i]:=by
 have hil:=jC hi
 refine ac Xe mixed (by simp[Nd]) fun hh hargs=>?_
 simp[Nd]
 refine aa (by simp) (nW i _ st (gV hi _) 4) ?_
 by_cases hn:bf st 4=4294967295
 ·have e1:mc st=(true,[]):=if_pos hn
  have e2:kg st=aA st 4:=if_pos hn
  rw[e1,e2]
  simp[hn,hh,cE hil,cA,aq]
 ·have e1:mc st=(false,lp (aA st 4) (bf st 4)):=if_neg hn
  have e2:kg st=iB (aA st 4) (bf st 4):=if_neg hn
  rw[e1,e2]
  simp[hn,cE hil]
  refine aa (by simp) (BH i _ (aA st 4) (aR hil _ _) _) ?_
  simp[hh,cE hil,aW hil,cA,aq]
theorem E8(i:Nat)(h:d4)(st:Sta)(hi:h[i]?=some (iy st)):
  ae Tryz.prog 90 [.agg [.box i 0]] h (.sl 2 (am aq (ij mc kg st)) none .no) (h.set i (iy (ii mc kg st))) [i]:=by
 have hil:=jC hi
 refine ac k90 mixed (by simp[Wa]) fun hh hargs=>?_
 simp[Wa]
 refine aa (by simp) (IW mc kg zU _ [.agg [.box i 0]] [] i _ st (gV hi _) (by simp) (by simp) (by simp;omega) (by simp) fun st' h'=>?_) ?_
 ·have:=IQ i (h.set i (iy st')++([[.box i 0]]++h')) st' (aR hil _ _)
  rw[aW hil,<- aab,<- aab] at this
  simpa[cE hil] using this
 ·simp[hh,cE hil,cA]
def Mi{α:Type}(v:Sta -> α)(s:Sta -> Sta):Nat -> Sta -> List α
 | 0,_=>[]
 | k+1,st=>if st=none then[] else v st::Mi v s k (s st)
def S8{α:Type}(v:Sta -> α)(s:Sta -> Sta)(st:Sta):List α:=Mi v s (bf st 2).toNat (aA st 2)
def Zb(q:Rs -> Rs):Nat -> Rs -> Rs
 | 0,r=>r
 | k+1,r=>Zb q k (q r)
def GI(q:Rs -> Rs)(r:Rs):Rs:=Zb q (bf (yU r) 2).toNat (za (aA · 2) r)
section
variable {α:Type} (v:Sta -> α) (s:Sta -> Sta) (q:Rs -> Rs) (hq:∀ r,yU (q r)=s (yU r)) (hb:∀ r,yU r=none -> q r=r) (r:Rs) (n:Nat) (hn:bf (yU r) 2=n)
include hq hn
end
theorem yL(st:Sta)(n:Int):He.lenS (aA st n) <= He.lenS st:=by
 unfold aA;split
 ·split
  ·simp[He.lenS]
  ·simp[He.lenS]
 ·exact Nat.le_refl _
def Pq(r:Rs):Rs:=if bf (yU r) 4=4294967295 then za (aA · 4) r else za (iB · (bf (yU r) 4)) (za (aA · 4) r)
def rq(b:d5):List AV:=[.sl 1 (ai b) none .no]
@[simp] theorem Q2(n:Nat)(l:List d5):aK n (am rq l):=dd rq n (fun _=>by simp[rq]) l
def nE(l:List d5):d5:=l.flatMap id
theorem ul(l:List d5)(a j:Nat)(hj:j<l.length)(N:Nat)(hN:a+(nE l).length <= N):nE (l.take (j+1))=nE (l.take j)++l[j] /\ a+((nE (l.take j)).length+l[j].length) <= N:=dk id l a j hj N hN
@[simp] theorem Sl:nE []=[]:=of_eq_true (eq_self _)
@[simp] theorem QH(x:d5)(l:List d5):nE (x::l)=x++nE l:=of_eq_true (eq_self _)
theorem xO(l:List d5)(h:d4)(hl:(nE l).length <= 140737488355328)(hn:l.length <= 140737488355328):ae Tryz.prog 115 [.sl 1 (am rq l) none .no] h (.sl 1 (ai (nE l)) none (.own .res)) h []:=by
 refine ac WZ mixed (by simp[M4]) fun hh hargs=>?_
 simp[M4]
 refine ap (D:=Nat) (fun j=>⟨[(0,.sl 1 (am rq l) none .no),(3,.v (.int .i64 (nE (l.take j)).length)),(9,.sl 1 (am rq l) none .no),(10,.v (.int .i64 l.length)),(11,.v (.int .i64 j))],[],h,[]⟩) (fun j=>j <= l.length) (fun j=>l.length-j) 0 (by simp) ?_ ?_
 ·simp[Leq,hh]
 ·intro j hj
  by_cases hlt:j<l.length
  ·have hw:IntKind.i64.wrap ((j:Int)+1)=(j:Int)+1:=wrap64 (by omega) (by omega)
   obtain⟨hx,hb⟩:=ul l 0 j hlt _ (by simpa using hl)
   have hw2:IntKind.i64.wrap (((nE (l.take j)).length:Int)+(l[j].length:Int))=((nE (l.take (j+1))).length:Int):=by
    rw[hx,aaa,wrap64 (by omega) (by omega)];simp
   have h0:¬((nE (l.take (j+1))).length:Int)<0:=by omega
   simp[hlt,rq,hw,hw2,h0]
   refine⟨j+1,by omega,by omega,?_⟩
   simp[Leq,hh]
  ·have:j=l.length:=by omega
   subst this
   simp
   refine aa (by simp) (Ow _ hl h) ?_
   simp
   refine ap (D:=Nat) (fun j=>⟨[(25,.sl 1 (am rq l) none .no),(26,.v (.int .i64 l.length)),(27,.v (.int .i64 j))],[(6,.sl 1 (ai (nE (l.take j))) none (.own (.slot 6)))],h,[]⟩) (fun j=>j <= l.length) (fun j=>l.length-j) 0 (by simp) ?_ ?_
   ·simp[Leq,hh]
   ·intro j hj
    by_cases hlt:j<l.length
    ·have hw:IntKind.i64.wrap ((j:Int)+1)=(j:Int)+1:=wrap64 (by omega) (by omega)
     obtain⟨hx,hb⟩:=ul l 0 j hlt _ (by simpa using hl)
     simp[hlt,rq,hw]
     refine⟨by omega,j+1,by omega,by omega,?_⟩
     simp[Leq,hh,hx]
    ·have:j=l.length:=by omega
     subst this
     simp[hh]
def aw(m:Fm):d5 :=
 if m.kind=80 then aM [m.name,m.text]++aG (aD 4) m.oids
 else if m.kind=66 then aM [m.portal,m.name]++(aG (aD 2) m.formats++(aG cd m.params++aG (aD 2) m.results))
 else if m.kind=67 \/ m.kind=68 then aaf m.what.toNat::aM [m.name++m.portal]
 else if m.kind=69 then aY (aM [m.portal]) m.max 4
 else if m.kind=81 then aM [m.text]
 else[]
def Wj(m:Fm):Ms×Int:=if fD m=0 then(⟨m.kind,aw m⟩,0) else(⟨0,[]⟩,fD m)
abbrev numbersV (size:Int) (st:Sta):List Int:=ij (bf · size) (aA · size) st
abbrev numbersS (size:Int) (st:Sta):Sta:=ii (bf · size) (aA · size) st
abbrev cellsV (st:Sta):List Cl:=ij mc kg st
abbrev cellsS (st:Sta):Sta:=ii mc kg st
open He (textL)
def dv(kind:Int)(st:Sta):Fm :=
 if kind=80 then⟨80,0,textL st,[],textL (ax st),numbersV 4 (ax (ax st)),[],[],[],0⟩
 else if kind=66 then⟨66,0,textL (ax st),textL st,[],[],numbersV 2 (ax (ax st)),numbersV 2 (cellsS (numbersS 2 (ax (ax st)))),cellsV (numbersS 2 (ax (ax st))),0⟩
 else if kind=67 \/ kind=68 then(if bf st 1=83 then⟨kind,bf st 1,textL (aA st 1),[],[],[],[],[],[],0⟩ else⟨kind,bf st 1,[],textL (aA st 1),[],[],[],[],[],0⟩)
 else if kind=69 then⟨69,0,[],textL st,[],[],[],[],[],cv (bf (ax st) 4) 4⟩
 else if kind=81 then⟨81,0,[],[],textL st,[],[],[],[],0⟩
 else⟨kind,0,[],[],[],[],[],[],[],0⟩
def ef(kind:Int)(st:Sta):Sta :=
 if kind=80 then numbersS 4 (ax (ax st))
 else if kind=66 then numbersS 2 (cellsS (numbersS 2 (ax (ax st))))
 else if kind=67 \/ kind=68 then ax (aA st 1)
 else if kind=69 then aA (ax st) 4
 else if kind=81 then ax st
 else st
theorem AX(st:Sta):0 <= bf st 1 /\ bf st 1<256:=by
 unfold bf
 split
 ·split
  ·exact⟨(eV _ 0 1 (by omega)).1,by have:=(eV (by assumption) 0 1 (by omega)).2;simpa using this⟩
  ·omega
 ·omega
theorem wrap_u8{n:Int}(h:0 <= n /\ n<256):IntKind.u8.wrap n=n:=by
 simp only[IntKind.wrap]
 simp[IntKind.bits,IntKind.signed]
 omega
theorem DY(i:Nat)(h:d4)(st:Sta)(hi:h[i]?=some (iy st))(hl:He.lenS st <= 140737488355328)(kind:Int):
  ae Tryz.prog 67 [.agg [.box i 0],.v (.int .u8 kind)] h (.agg (aJ (dv kind st))) (h.set i (iy (ef kind st))) [i]:=by
 have hil:=jC hi
 have hl1:He.lenS (ax st) <= 140737488355328:=aah (He.textS_len st) hl
 refine ac OD mixed (by simp[LM]) fun hh hargs=>?_
 by_cases h80:kind=80
 ·subst h80
  simp[LM]
  refine aa (by simp) (iM i _ st (gV hi _) hl) ?_
  simp[cE hil]
  refine aa (by simp) (iM i _ (ax st) (aR hil _ _) hl1) ?_
  simp[aW hil]
  refine aa (by simp) (xh i _ (ax (ax st)) (aR hil _ _) 4) ?_
  simp[aW hil,hh,dv,ef,cA,aL]
 by_cases h66:kind=66
 ·subst h66
  simp[LM]
  refine aa (by simp) (iM i _ st (gV hi _) hl) ?_
  simp[cE hil]
  refine aa (by simp) (iM i _ (ax st) (aR hil _ _) hl1) ?_
  simp[aW hil]
  refine aa (by simp) (xh i _ (ax (ax st)) (aR hil _ _) 2) ?_
  simp[aW hil]
  refine aa (by simp) (E8 i _ _ (aR hil _ _)) ?_
  simp[aW hil]
  refine aa (by simp) (xh i _ _ (aR hil _ _) 2) ?_
  simp[aW hil,hh,dv,ef,cA,aL]
 by_cases h678:kind=67 \/ kind=68
 ·have e1:dv kind st=if bf st 1=83 then⟨kind,bf st 1,textL (aA st 1),[],[],[],[],[],[],0⟩ else⟨kind,bf st 1,[],textL (aA st 1),[],[],[],[],[],0⟩:=by unfold dv;rw[if_neg h80,if_neg h66,if_pos h678]
  have e2:ef kind st=ax (aA st 1):=by unfold ef;rw[if_neg h80,if_neg h66,if_pos h678]
  have hl3:He.lenS (aA st 1) <= 140737488355328:=aah (yL _ _) hl
  have hwr:=wrap_u8 (AX st)
  have hw83:IntKind.u8.wrap 83=83:=wrap_u8 (by omega)
  rw[e1,e2]
  rcases h678 with rfl |rfl
  all_goals
   simp[LM]
   refine aa (by simp) (nW i _ st (gV hi _) 1) ?_
   by_cases hw:bf st 1=83
   ·simp[cE hil,hwr,hw,hw83]
    refine aa (by simp) (iM i _ _ (aR hil _ _) hl3) ?_
    simp[aW hil,hh,cA,aL]
   ·simp[cE hil,hwr,hw]
    refine aa (by simp) (iM i _ _ (aR hil _ _) hl3) ?_
    simp[aW hil,hh,cA,aL]
 by_cases h69:kind=69
 ·subst h69
  simp[LM]
  refine aa (by simp) (iM i _ st (gV hi _) hl) ?_
  simp[cE hil]
  refine aa (by simp) (nW i _ (ax st) (aR hil _ _) 4) ?_
  simp[aW hil]
  refine aa (by simp) (zi _ 4 _) ?_
  simp[aW hil,hh,dv,ef,cA,aL]
 by_cases h81:kind=81
 ·subst h81
  simp[LM]
  refine aa (by simp) (iM i _ st (gV hi _) hl) ?_
  simp[cE hil,hh,dv,ef,cA,aL]
 have h67:¬kind=67:=fun h=>h678 (.inl h)
 have h68:¬kind=68:=fun h=>h678 (.inr h)
 simp[LM,h80,h66,h67,h68,h69,h81,hh,dv,ef,cA,aL,gH hi,hil]
def noFm:Fm:=⟨0,0,[],[],[],[],[],[],[],0⟩
def xT(m:Ms):Fm×Int :=
 if az m.type=0 then(noFm,4) else if az m.type=2 then(noFm,9)
 else if kq (ef m.type (some m.body))&&jo (dv m.type (some m.body)) then(dv m.type (some m.body),0) else(noFm,4)
theorem Lv(xs:d5)(hx:xs.length <= 140737488355328)(h:d4):ae Tryz.prog 66 [.sl 1 (ai xs) none .no] h (.agg [.box (h.length+1) 0]) (h++[[.box (h.length+1) 0],iy (some xs)]) []:=by
 refine ac Fk mixed (by simp[VZ]) fun hh hargs=>?_
 simp[VZ]
 refine aa (by simp) (LZ xs hx _) ?_
 simp[hh,cA]
theorem DS(m:Ms)(hx:m.body.length <= 140737488355328)(h:d4):ae Tryz.prog 45 [.agg (bL m)] h (.tup [.agg (aJ (xT m).1),.v (.int .i64 (xT m).2)]) h []:=by
 refine ac ZI mixed (by simp[VQ]) fun hh hargs=>?_
 simp[VQ]
 refine aa (by simp) (Km _ _) ?_
 by_cases k0:az m.type=0
 ·simp[k0,hh,xT,noFm,aL]
 by_cases k2:az m.type=2
 ·simp[k0,k2,hh,xT,noFm,aL]
 simp[k0,k2]
 refine aa (by simp) (Lv _ hx _) ?_
 simp
 refine aa (by simp) (DY (h.length+3) _ (some m.body) (by simp) hx _) ?_
 simp
 refine aa (by simp) (wk (h.length+3) _ (ef m.type (some m.body)) (by simp)) ?_
 have e:xT m=if kq (ef m.type (some m.body))&&jo (dv m.type (some m.body)) then(dv m.type (some m.body),0) else(noFm,4):=by unfold xT;rw[if_neg k0,if_neg k2]
 rw[e]
 cases p1:kq (ef m.type (some m.body)) with
 | false=>simp[hh,noFm,aL]
 | true =>
 simp
 refine aa (by simp) (ww _ _) ?_
 cases p2:jo (dv m.type (some m.body)) with
 | false=>simp[hh,noFm,aL]
 | true=>simp[hh]
end Ax
namespace Ax
open Go.RowKit Go By YtlbgjlmokpkkeaaGreatDoor.Nm Sc Dg
open He (textL)
theorem nj(xs s:d5)(hl:xs.length+(s.length+1) <= 140737488355328)(h:d4):ae Tryz.prog 40 [.sl 1 (ai xs) none (.own (.arg 0)),.v (.string (af s))] h (.sl 1 (ai (xs++He.encT s)) none (.own .res)) h []:=by
 refine ac ZE mixed (by simp[VN]) fun hh hargs=>?_
 simp[VN,hh,He.encT]
 omega
theorem fh(xs:d5)(n size:Int):aY xs n size=xs++aY [] n size:=by
 unfold aY;split<;>simp
theorem wS(xs:d5)(l:List Int)(size:Int)(hl:(xs++aG (aD size) l).length <= 140737488351232)(hn:l.length <= 140737488355328)(h:d4):
  ae Tryz.prog 39 [.sl 1 (ai xs) none .no,.sl 1 (am aX l) none .no,.v (.int .i64 size)] h (.sl 1 (ai (xs++aG (aD size) l)) none (.own .res)) h []:=by
 refine ac ZD mixed (by simp[VM]) fun hh hargs=>?_
 rw[aaa] at hl
 simp[VM]
 refine aa (by simp) (iK xs l.length 2 (by omega) h) ?_
 simp
 have e0:aY xs l.length 2=xs++(aY [] l.length 2++(l.take 0).flatMap (aD size)):=by rw[fh];simp
 rw[e0]
 refine ap (D:=Nat) (fun j=>⟨[(1,.sl 1 (am aX l) none .no),(2,.v (.int .i64 size)),(7,.v (.int .i64 j))],[(0,.sl 1 (ai (xs++(aY [] l.length 2++(l.take j).flatMap (aD size)))) none (.own (.slot 0)))],h,[]⟩) (fun j=>j <= l.length) (fun j=>l.length-j) 0 (by simp) ?_ ?_
 ·simp[Leq,hh]
 ·intro j hj
  by_cases hlt:j<l.length
  ·have hw:IntKind.i64.wrap ((j:Int)+1)=(j:Int)+1:=wrap64 (by omega) (by omega)
   obtain⟨hx,hb⟩:=dk (aD size) l (xs.length+(aY [] l.length 2).length) j hlt 140737488351232 (by simp only[aG,aaa] at hl;omega)
   simp[hlt,aX,-aab]
   refine ak (iK (xs++(aY [] l.length 2++(l.take j).flatMap (aD size))) l[j] size (by simp only[aaa];omega) h) (by simp) (by simp) ?_
   have e:aY (xs++(aY [] l.length 2++(l.take j).flatMap (aD size))) l[j] size=xs++(aY [] l.length 2++(l.take (j+1)).flatMap (aD size)):=by
    rw[fh,hx];simp[aD]
   rw[e]
   simp[hw]
   refine⟨j+1,by omega,by omega,?_⟩
   simp[Leq,hh]
  ·have:j=l.length:=by omega
   subst this
   simp[hh,aG]
theorem Kz:aY [] (-1) 4=aY [] 4294967295 4:=by decide
theorem KZ(xs:d5)(l:List Cl)(hl:(xs++aG cd l).length <= 140737488351232)(hn:l.length <= 140737488355328)(h:d4):
  ae Tryz.prog 41 [.sl 1 (ai xs) none .no,.sl 2 (am aq l) none .no] h (.sl 1 (ai (xs++aG cd l)) none (.own .res)) h []:=by
 refine ac ZF mixed (by simp[VO]) fun hh hargs=>?_
 rw[aaa] at hl
 simp[VO]
 refine aa (by simp) (iK xs l.length 2 (by omega) h) ?_
 simp
 have e0:aY xs l.length 2=xs++(aY [] l.length 2++(l.take 0).flatMap cd):=by rw[fh];simp
 rw[e0]
 refine ap (D:=Nat) (fun j=>⟨[(1,.sl 2 (am aq l) none .no),(5,.v (.int .i64 j))],[(0,.sl 1 (ai (xs++(aY [] l.length 2++(l.take j).flatMap cd))) none (.own (.slot 0)))],h,[]⟩) (fun j=>j <= l.length) (fun j=>l.length-j) 0 (by simp) ?_ ?_
 ·simp[Leq,hh]
 ·intro j hj
  by_cases hlt:j<l.length
  ·have hw:IntKind.i64.wrap ((j:Int)+1)=(j:Int)+1:=wrap64 (by omega) (by omega)
   obtain⟨hx,hb⟩:=dk cd l (xs.length+(aY [] l.length 2).length) j hlt 140737488351232 (by simp only[aG,aaa] at hl;omega)
   obtain⟨n,b,hc⟩:∃ n b,l[j]=(n,b):=⟨_,_,rfl⟩
   rw[hc] at hx hb
   cases n with
   | true =>
    rw[gj] at hx hb
    have e:aY (xs++(aY [] l.length 2++(l.take j).flatMap cd)) (-1) 4=xs++(aY [] l.length 2++(l.take (j+1)).flatMap cd):=by
     rw[fh,hx,Kz];simp
    simp[hlt,hc,cW,-aab]
    refine ak (iK (xs++(aY [] l.length 2++(l.take j).flatMap cd)) (-1) 4 (by simp only[aaa];omega) h) (by simp) (by simp) ?_
    rw[e]
    simp[hw]
    refine⟨j+1,by omega,by omega,?_⟩
    simp[Leq,hh]
   | false =>
    rw[fl] at hx hb
    have e:aY (xs++(aY [] l.length 2++(l.take j).flatMap cd)) b.length 4++b=xs++(aY [] l.length 2++(l.take (j+1)).flatMap cd):=by
     rw[fh,hx];simp
    have e2:(aY (xs++(aY [] l.length 2++(l.take j).flatMap cd)) b.length 4).length+b.length <= 140737488355328:=by
     rw[fh];simp only[aaa] at hb ⊢;omega
    simp[hlt,hc,cW,-aab]
    refine ak (iK (xs++(aY [] l.length 2++(l.take j).flatMap cd)) b.length 4 (by simp only[aaa];omega) h) (by simp) (by simp) ?_
    simp[hw,e2,-aab]
    refine⟨j+1,by omega,by omega,?_⟩
    rw[<- dC,e]
    simp[Leq,hh]
  ·have:j=l.length:=by omega
   subst this
   simp[hh,aG]
def vi(m:Fm):Ms×Int:=if bQ m=0 then(⟨m.kind,aw m⟩,0) else(⟨0,[]⟩,bQ m)
theorem cw(a:d5):(He.encT a).length=a.length+1:=by simp[He.encT]
theorem Ez(m:Fm)(hf:rf m)(hw:0 <= m.what /\ m.what<256)(h:d4)(hb:(aw m).length <= 140737488351232):ae Tryz.prog 22 [.agg (aJ m)] h (.tup [.agg (bL (vi m).1),.v (.int .i64 (vi m).2)]) h []:=by
 have hf0:=hf
 obtain⟨q1,q2,q3,q4,q5,q6,q7,q8⟩:=hf
 refine ac Zq mixed (by simp[VC]) fun hh hargs=>?_
 simp[VC]
 refine aa (by simp) (Hn m hf0 _) ?_
 by_cases he:bQ m=0
 ·have e0:vi m=(⟨m.kind,aw m⟩,0):=if_pos he
  rw[e0]
  by_cases h80:m.kind=80
  ·have e:aw m=(He.encT m.name++He.encT m.text)++aG (aD 4) m.oids:=by unfold aw;rw[if_pos h80];simp[aM]
   rw[e] at hb ⊢
   simp only[aaa,cw] at hb
   simp[he,h80,-aab]
   refine ak (nj [] m.name (by simp;omega) _) (by simp) (by simp) ?_
   simp
   refine ak (nj (He.encT m.name) m.text (by rw[cw];omega) _) (by simp) (by simp) ?_
   simp
   refine ak (wS (He.encT m.name++He.encT m.text) m.oids 4 (by simp only[aaa,cw];omega) q1 _) (by simp) (by simp) ?_
   simp[hh,aO,h80]
  by_cases h66:m.kind=66
  ·have e:aw m=(((He.encT m.portal++He.encT m.name)++aG (aD 2) m.formats)++aG cd m.params)++aG (aD 2) m.results:=by unfold aw;rw[if_neg h80,if_pos h66];simp[aM]
   rw[e] at hb ⊢
   simp only[aaa,cw] at hb
   simp[he,h66,-aab]
   refine ak (nj [] m.portal (by simp;omega) _) (by simp) (by simp) ?_
   simp
   refine ak (nj (He.encT m.portal) m.name (by rw[cw];omega) _) (by simp) (by simp) ?_
   simp
   refine ak (wS (He.encT m.portal++He.encT m.name) m.formats 2 (by simp only[aaa,cw];omega) q2 _) (by simp) (by simp) ?_
   simp
   refine ak (KZ ((He.encT m.portal++He.encT m.name)++aG (aD 2) m.formats) m.params (by simp only[aaa,cw];omega) q4 _) (by simp) (by simp) ?_
   simp
   refine ak (wS (((He.encT m.portal++He.encT m.name)++aG (aD 2) m.formats)++aG cd m.params) m.results 2 (by simp only[aaa,cw];omega) q3 _) (by simp) (by simp) ?_
   simp[hh,aO,h66]
  have hw3:max m.what 0 % 256=m.what:=by omega
  by_cases h678:m.kind=67 \/ m.kind=68
  ·have e:aw m=[aaf m.what.toNat]++He.encT (m.name++m.portal):=by unfold aw;rw[if_neg h80,if_neg h66,if_pos h678];simp[aM]
   rw[e] at hb ⊢
   simp only[aaa,cw,List.length_singleton] at hb
   rcases h678 with h67 |h67
   all_goals
    simp[he,h67]
    refine⟨by omega,?_⟩
    refine ak (nj [aaf m.what.toNat] (m.name++m.portal) (by simp;omega) _) (by simp[hw3]) (by simp) ?_
    simp[hh,aO,h67,hw3]
  have h67:¬m.kind=67:=fun h=>h678 (.inl h)
  have h68:¬m.kind=68:=fun h=>h678 (.inr h)
  by_cases h69:m.kind=69
  ·have e:aw m=aY (He.encT m.portal) m.max 4:=by unfold aw;rw[if_neg h80,if_neg h66,if_neg h678,if_pos h69];simp[aM]
   rw[e] at hb ⊢
   rw[fh,aaa,cw] at hb
   simp[he,h69]
   refine ak (nj [] m.portal (by simp;omega) _) (by simp) (by simp) ?_
   simp
   refine ak (iK (He.encT m.portal) m.max 4 (by rw[cw];omega) _) (by simp) (by simp) ?_
   simp[hh,aO,h69]
  by_cases h81:m.kind=81
  ·have e:aw m=He.encT m.text:=by unfold aw;rw[if_neg h80,if_neg h66,if_neg h678,if_neg h69,if_pos h81];simp[aM]
   rw[e] at hb ⊢
   rw[cw] at hb
   simp[he,h81]
   refine ak (nj [] m.text (by simp;omega) _) (by simp) (by simp) ?_
   simp[hh,aO,h81]
  have e:aw m=[]:=by unfold aw;rw[if_neg h80,if_neg h66,if_neg h678,if_neg h69,if_neg h81]
  rw[e]
  simp[he,h80,h66,h67,h68,h69,h81,hh,aO]
 ·simp[he,hh,vi,aO]
abbrev rnumbersQ (size:Int) (r:Rs):Rs:=GI (za (aA · size)) r
abbrev rcellsQ (r:Rs):Rs:=GI Pq r
abbrev numbersU (size:Int) (st:Sta):List Int:=S8 (bf · size) (aA · size) st
end Ax
end Go.Proofs.YtlbgjlmokpkkeaaGreatDoor
