import Derived.Test.YtlbgjlmokpkkeaaGreatDoorQAxFq
open Bool renaming and_eq_true -> aaa, eq_iff_iff -> aac
open Int renaming emod_eq_of_lt -> aab
open List renaming append_assoc -> aad, all_eq_true -> aae, append_nil -> aaf, nil_append -> aag
open UInt8 renaming ofNat -> aah
set_option linter.all false
set_option maxRecDepth 10000
namespace Go.Proofs.YtlbgjlmokpkkeaaGreatDoor
namespace Ax
open Go.RowKit Go By YtlbgjlmokpkkeaaGreatDoor.Nm Sc Dg
open He (textL)
theorem rZ(xs ys:d5)(i:Nat):∀ j,i+j <= xs.length -> dG (xs++ys) i j=dG xs i j
 | 0,_=>rfl
 | j+1,h=>by rw[dG,dG,rZ xs ys i j (by omega),mD xs ys _ (by omega)]
def Sz(size:Nat):Prop:=size=1 \/ size=2 \/ size=4
theorem Sz.szB{size:Nat}(h:Sz size):szB (size:Int)=true:=by rcases h with rfl |rfl |rfl<;>rfl
theorem Sz.pow{size:Nat}(h:Sz size):jc (size:Int)=256 ^ size:=by rcases h with rfl |rfl |rfl<;>rfl
theorem fX{n:Int}{size:Nat}(h:Sz size):aB n size=true↔-(256 ^ size / 2) <= n /\ n<256 ^ size:=by
 unfold aB;rw[h.szB,h.pow];simp
theorem eG{n:Int}{size:Nat}(h:Sz size)(h0:0 <= n)(h1:n<256 ^ size):aB n size=true:=(fX h).2 ⟨by rcases h with rfl |rfl |rfl<;>omega,h1⟩
theorem AC(n:Int){size:Nat}(h:Sz size):dG (aH n size size) 0 size=n % 256 ^ size:=by
 rcases h with rfl |rfl |rfl
 ·simp[dG,aH,bt,aN]
 ·simp[dG,aH,bt,aN];omega
 ·simp[dG,aH,bt,aN];omega
theorem sK{n:Int}{size:Nat}(hr:aB n size=true):aY [] n size=aH n size size:=by
 unfold aY;rw[if_pos hr];simp
theorem jK{n:Int}{size:Nat}(h:Sz size)(r:d5)(hr:aB n size=true):bf (some (aY [] n size++r)) size=n % 256 ^ size /\ aA (some (aY [] n size++r)) size=some r:=by
 rw[sK hr]
 have h4:(aH n size size).length=size:=aE _ _ _
 have he:cn (aH n size size++r).length 0 size=0:=iY (size:=size) (i:=0) h.szB (by rw[List.length_append,h4];omega)
 simp only[bf,aA]
 rw[if_pos he,if_pos he]
 constructor
 ·show dG (aH n size size++r) 0 size=_
  rw[rZ _ _ _ _ (by rw[h4];omega),AC n h]
 ·show some ((aH n size size++r).drop size)=some r
  rw[List.drop_append_of_le_length (by rw[h4];omega),List.drop_of_length_le (by rw[h4];omega)];rfl
theorem GJ{α:Type}(v:Sta -> α)(s:Sta -> Sta)(st:Sta):ii v s st=(aT v s (bf st 2).toNat (aA st 2)).2:=rfl
theorem GK{α:Type}(v:Sta -> α)(s:Sta -> Sta)(st:Sta):ij v s st=if(aT v s (bf st 2).toNat (aA st 2)).2=none then[] else(aT v s (bf st 2).toNat (aA st 2)).1:=rfl
theorem yG{α:Type}(e:α -> d5)(l:List α):aG e l=aY [] l.length 2++l.flatMap e:=rfl
theorem xJ(st:Sta):mc st=if bf st 4=4294967295 then(true,[]) else(false,lp (aA st 4) (bf st 4)):=rfl
theorem xI(st:Sta):kg st=if bf st 4=4294967295 then aA st 4 else iB (aA st 4) (bf st 4):=rfl
theorem two:((2:Nat):Int)=2:=rfl
theorem four:((4:Nat):Int)=4:=rfl
section
variable {α:Type} (e:α -> d5) (v:Sta -> α) (s:Sta -> Sta) (ok:α -> Prop)
def Cg:Prop:=∀ x r,ok x -> v (some (e x++r))=x /\ s (some (e x++r))=some r
variable {e v s ok}
theorem qg(hT:Cg e v s ok):∀(l:List α) (r:d5),(∀ x∈l,ok x) -> aT v s l.length (some (l.flatMap e++r))=(l,some r)
 | [],r,_=>rfl
 | x::l,r,h=>by
  obtain⟨h1,h2⟩:=hT x (l.flatMap e++r) (h x (List.mem_cons_self ..))
  have e1:(x::l).flatMap e++r=e x++(l.flatMap e++r):=by simp
  rw[e1,List.length_cons,aT,h1,h2,qg hT l r fun y hy=>h y (List.mem_cons_of_mem _ hy)]
theorem jG(hT:Cg e v s ok)(l:List α)(r:d5)(hl:l.length<65536)(h:∀ x∈l,ok x):ij v s (some (aG e l++r))=l /\ ii v s (some (aG e l++r))=some r:=by
 have hr:aB (l.length:Int) (2:Nat)=true:=eG (.inr (.inl rfl)) (by omega) (by omega)
 obtain⟨h1,h2⟩:=jK (.inr (.inl rfl)) (l.flatMap e++r) hr
 rw[aab (by omega) (by omega),two] at h1
 rw[two] at h2
 have h3:=qg hT l r h
 rw[GK,GJ,yG]
 rw[aad,h1,h2,Int.toNat_natCast,h3]
 exact⟨if_neg (by simp),rfl⟩
end
theorem jL{size:Nat}(h:Sz size):Cg (aD size) (bf · size) (aA · size) (fun n=>0 <= n /\ n<256 ^ size):=fun n r hn=>by
 obtain⟨h1,h2⟩:=jK h r (eG h hn.1 hn.2)
 rw[aab hn.1 hn.2] at h1
 exact⟨h1,h2⟩
def Fs(c:Cl):Prop:=(c.1=true /\ c.2=[]) \/ (c.1=false /\ c.2.length<4294967295)
theorem Iq(b r:d5):lp (some (b++r)) b.length=b /\ iB (some (b++r)) b.length=some r:=by
 have h:jj (b++r) b.length=true:=by simp[jj];omega
 simp[lp,iB,h]
theorem xK:Cg cd mc kg Fs:=fun c r hc=>by
 obtain⟨n,b⟩:=c
 rcases hc with⟨h1,h2⟩ |⟨h1,h2⟩
 ·have h1':n=true:=h1
  have h2':b=[]:=h2
  subst h1' h2'
  have h4:(256:Int) ^ 4=4294967296:=by decide
  obtain⟨h3,h5⟩:=jK (n:=4294967295) (size:=4) (.inr (.inr rfl)) r (by rw[fX (.inr (.inr rfl)),h4];omega)
  have h3':bf (some (aY [] 4294967295 4++r)) 4=4294967295:=by have:=h3;rw[h4] at this;exact this
  have h5':aA (some (aY [] 4294967295 4++r)) 4=some r:=h5
  rw[gj]
  rw[xJ,xI,if_pos h3',if_pos h3',h5']
  exact⟨rfl,rfl⟩
 ·have h1':n=false:=h1
  subst h1'
  have h2':b.length<4294967295:=h2
  have h4:(256:Int) ^ 4=4294967296:=by decide
  obtain⟨h3,h5⟩:=jK (n:=b.length) (size:=4) (.inr (.inr rfl)) (b++r) (by rw[fX (.inr (.inr rfl)),h4];omega)
  have h3':bf (some (aY [] b.length 4++(b++r))) 4=b.length:=by have:=h3;rw[h4,aab (by omega) (by omega)] at this;exact this
  have h5':aA (some (aY [] b.length 4++(b++r))) 4=some (b++r):=h5
  obtain⟨h6,h7⟩:=Iq b r
  rw[fl,aad]
  rw[xJ,xI,if_neg (by rw[h3'];omega),if_neg (by rw[h3'];omega),h3',h5',h6,h7]
  exact⟨rfl,rfl⟩
theorem A1:(256:Int) ^ 4=4294967296:=by decide
theorem OW:(256:Int) ^ 2=65536:=by decide
theorem wQ(n:Int):aB n 4=true↔-2147483648 <= n /\ n<4294967296:=by
 have h:=@fX n 4 (.inr (.inr rfl))
 rw[four,A1] at h
 rw[h];omega
theorem Pw(n:Int):aB n 2=true↔-32768 <= n /\ n<65536:=by
 have h:=@fX n 2 (.inr (.inl rfl))
 rw[two,OW] at h
 rw[h];omega
theorem YL:cu 4=ep 0 4294967295:=by
 funext n
 rw[aac]
 simp[cu,ep,wQ];omega
theorem YK:cu 2=ep 0 65535:=by
 funext n
 rw[aac]
 simp[cu,ep,Pw];omega
theorem CX(n:Int):cv n 4=if 2147483648 <= n /\ n<4294967296 then n-4294967296 else n:=by
 have e:szB 4=true:=rfl
 have e2:jc 4=4294967296:=rfl
 unfold cv
 rw[e,e2]
 simp only[true_and]
 split<;>split<;>omega
theorem Tz(n:Int):oh 4 n=ep (-2147483648) 2147483647 n:=by
 have e:oh 4 n=true↔(-2147483648 <= n /\ n<4294967296) /\ cv n 4=n:=by
  simp only[oh,aaa,wQ,beq_iff_eq]
 have e2:ep (-2147483648) 2147483647 n=true↔¬n < -2147483648 /\ ¬2147483647<n:=by
  simp only[ep,aaa,Bool.not_eq_true',decide_eq_false_iff_not]
 rw[aac,e,e2,CX]
 by_cases h:2147483648 <= n /\ n<4294967296
 ·rw[if_pos h];omega
 ·rw[if_neg h];omega
theorem GL(m:Fm):so m=fi m:=by
 rw[aac]
 simp only[so,fi,YL,YK,aaa]
 constructor
 ·rintro⟨⟨a,b,c,d⟩,e,f,g,h⟩;exact⟨⟨a,e⟩,⟨b,f⟩,⟨c,g⟩,d,h⟩
 ·rintro⟨⟨a,e⟩,⟨b,f⟩,⟨c,g⟩,d,h⟩;exact⟨⟨a,b,c,d⟩,e,f,g,h⟩
theorem EI(m:Fm)(h67:¬(m.kind=67 \/ m.kind=68)):(bw m).what=0:=by
 unfold bw
 repeat' split
 all_goals first |rfl |(rename_i h;exact absurd h h67)
theorem FX(m:Fm):fD m=bQ m:=by
 unfold fD bQ
 by_cases hk:az m.kind=1
 ·have e1:¬¬az m.kind=1:=by simp[hk]
  rw[if_neg e1,if_neg e1,GL,Tz]
  by_cases hs:mn m (bw m)=true
  ·have hw:jo m=eZ m:=by
    by_cases h67:m.kind=67 \/ m.kind=68
    ·unfold eZ jo
     rw[if_pos h67]
     rcases h67 with h |h<;>simp[h]
    ·have h0:m.what=0:=by
      rw[zd] at hs
      have:=congrArg Fm.what (of_decide_eq_true hs)
      rw[this];exact EI m h67
     have h1:¬m.kind=67:=fun h=>h67 (.inl h)
     have h2:¬m.kind=68:=fun h=>h67 (.inr h)
     unfold eZ jo
     rw[if_neg h67];simp[h0,h1,h2]
   rw[hw]
   congr 1
   rw[eq_iff_iff]
   simp only[aaa]
   constructor
   ·rintro⟨a,b,c,d⟩;exact⟨c,b,a,d⟩
   ·rintro⟨c,b,a,d⟩;exact⟨a,b,c,d⟩
  ·simp[hs]
 ·rw[if_pos hk,if_pos hk]
theorem yB{k:Int}(h:az k=1):k=66 \/ k=67 \/ k=68 \/ k=69 \/ k=72 \/ k=80 \/ k=81 \/ k=83 \/ k=88:=by
 unfold az at h
 split at h
 ·assumption
 ·split at h<;>omega
theorem nG{m:Fm}(h:fD m=0):az m.kind=1 /\ jo m=true /\ so m=true /\ eT m=true /\ oh 4 m.max=true /\ m=bw m:=by
 unfold fD at h
 split at h
 ·cases h
 ·rename_i hk
  split at h
  ·rename_i hc
   simp only[aaa] at hc
   rw[zd] at hc
   exact⟨by simpa using hk,hc.1,hc.2.1,hc.2.2.1,hc.2.2.2.1,of_decide_eq_true hc.2.2.2.2⟩
  ·cases h
section
variable (st:Sta)
theorem Hu:dv 80 st=⟨80,0,textL st,[],textL (ax st),numbersV 4 (ax (ax st)),[],[],[],0⟩:=rfl
theorem Hq:ef 80 st=numbersS 4 (ax (ax st)):=rfl
theorem Hs:dv 66 st=⟨66,0,textL (ax st),textL st,[],[],numbersV 2 (ax (ax st)),numbersV 2 (cellsS (numbersS 2 (ax (ax st)))),cellsV (numbersS 2 (ax (ax st))),0⟩:=rfl
theorem Ho:ef 66 st=numbersS 2 (cellsS (numbersS 2 (ax (ax st)))):=rfl
theorem vh{k:Int}(h:k=67 \/ k=68):dv k st=if bf st 1=83 then⟨k,bf st 1,textL (aA st 1),[],[],[],[],[],[],0⟩ else⟨k,bf st 1,[],textL (aA st 1),[],[],[],[],[],0⟩:=by
 rcases h with rfl |rfl<;>rfl
theorem vg{k:Int}(h:k=67 \/ k=68):ef k st=ax (aA st 1):=by rcases h with rfl |rfl<;>rfl
theorem Ht:dv 69 st=⟨69,0,[],textL st,[],[],[],[],[],cv (bf (ax st) 4) 4⟩:=rfl
theorem Hp:ef 69 st=aA (ax st) 4:=rfl
theorem Hv:dv 81 st=⟨81,0,[],[],textL st,[],[],[],[],0⟩:=rfl
theorem Hr:ef 81 st=ax st:=rfl
theorem sM{k:Int}(h:k=72 \/ k=83 \/ k=88):dv k st=⟨k,0,[],[],[],[],[],[],[],0⟩ /\ ef k st=st:=by
 rcases h with rfl |rfl |rfl<;>exact⟨rfl,rfl⟩
end
theorem vP{size:Int}{l:List Int}{size':Nat}(hs:(size:Int)=size')(hz:Sz size')(h:l.all (cu size)=true):∀ x∈l,0 <= x /\ x<256 ^ size':=fun x hx=>by
 have:=aae.1 h x hx
 simp only[cu,aaa] at this
 rw[hs,fX hz] at this
 simp at this
 exact⟨by omega,this.2.2⟩
theorem JV{c:Cl}(h:bS c=true):Fs c:=by
 obtain⟨n,b⟩:=c
 cases n with
 | true =>
  left
  refine⟨rfl,?_⟩
  simp[bS] at h
  exact h.2
 | false =>
  right
  refine⟨rfl,?_⟩
  simp[bS] at h
  show b.length<_
  omega
theorem wI:(256:Int) ^ 1=256:=by decide
theorem CH:((1:Nat):Int)=1:=rfl
theorem Bc{m:Fm}(h:fD m=0):dv m.kind (some (aw m))=m /\ ef m.kind (some (aw m))=some []:=by
 obtain⟨hk,hw,hl,hc,hm,hs⟩:=nG h
 simp only[eT,aaa] at hc
 obtain⟨c1,c2,c3⟩:=hc
 simp only[so,aaa,decide_eq_true_eq] at hl
 obtain⟨⟨l1,l2,l3,l4⟩,u1,u2,u3,u4⟩:=hl
 rcases yB hk with e |e |e |e |e |e |e |e |e
 ·
  have hs':m=⟨66,0,m.name,m.portal,[],[],m.formats,m.results,m.params,0⟩:=by
   have:bw m=⟨66,0,m.name,m.portal,[],[],m.formats,m.results,m.params,0⟩:=by unfold bw;rw[if_neg (by omega),if_pos e]
   rw[<- this];exact hs
  have hb:aw m=He.encT m.portal++(He.encT m.name++(aG (aD 2) m.formats++(aG cd m.params++(aG (aD 2) m.results++[])))):=by
   unfold aw;rw[if_neg (by omega),if_pos e];simp[aM]
  obtain⟨a1,a2⟩:=He.text_enc (He.encT m.name++(aG (aD 2) m.formats++(aG cd m.params++(aG (aD 2) m.results++[])))) c2
  obtain⟨a3,a4⟩:=He.text_enc (aG (aD 2) m.formats++(aG cd m.params++(aG (aD 2) m.results++[]))) c1
  obtain⟨a5,a6⟩:=jG (jL (size:=2) (.inr (.inl rfl))) m.formats (aG cd m.params++(aG (aD 2) m.results++[])) (by omega) (vP rfl (.inr (.inl rfl)) u2)
  obtain⟨a7,a8⟩:=jG xK m.params (aG (aD 2) m.results++[]) (by omega) (fun c hc=>JV (aae.1 u4 c hc))
  obtain⟨a9,a10⟩:=jG (jL (size:=2) (.inr (.inl rfl))) m.results [] (by omega) (vP rfl (.inr (.inl rfl)) u3)
  rw[e,hb,Hs,Ho]
  simp only[numbersV,numbersS,cellsV,cellsS]
  rw[two] at a5 a6 a9 a10
  rw[a1,a2,a3,a4,a5,a6,a7,a8,a9,a10]
  exact⟨hs'.symm,rfl⟩
 ·
  have hs':m=if m.what=83 then⟨m.kind,m.what,m.name,[],[],[],[],[],[],0⟩ else⟨m.kind,m.what,[],m.portal,[],[],[],[],[],0⟩:=by
   have:bw m=if m.what=83 then⟨m.kind,m.what,m.name,[],[],[],[],[],[],0⟩ else⟨m.kind,m.what,[],m.portal,[],[],[],[],[],0⟩:=by unfold bw;rw[if_neg (by omega),if_neg (by omega),if_pos (by omega)]
   rw[<- this];exact hs
  have hwt:m.what=83 \/ m.what=80:=by
   simp[jo,e] at hw;exact hw
  have hwb:[aah m.what.toNat]=aY [] m.what 1:=by rcases hwt with h |h<;>rw[h]<;>decide
  have hb:aw m=aY [] m.what 1++(He.encT (m.name++m.portal)++[]):=by
   unfold aw;rw[if_neg (by omega),if_neg (by omega),if_pos (by omega),<- hwb];simp[aM]
  obtain⟨a1,a2⟩:=jK (n:=m.what) (size:=1) (.inl rfl) (He.encT (m.name++m.portal)++[]) (eG (.inl rfl) (by omega) (by rw[wI];omega))
  rw[CH] at a1 a2
  rw[wI,aab (by omega) (by omega)] at a1
  have h678:m.kind=67 \/ m.kind=68:=by omega
  rw[hb,vh _ h678,vg _ h678,a1,a2]
  rcases hwt with h83 |h80
  ·rw[if_pos h83] at hs'
   have hp:m.portal=[]:=by rw[hs']
   obtain⟨a3,a4⟩:=He.text_enc [] c1
   have e5:m.name++m.portal=m.name:=by rw[hp,aaf]
   rw[if_pos h83,e5,a3,a4]
   exact⟨hs'.symm,rfl⟩
  ·have hn83:¬m.what=83:=by omega
   rw[if_neg hn83] at hs'
   have hp:m.name=[]:=by rw[hs']
   obtain⟨a3,a4⟩:=He.text_enc [] c2
   have e5:m.name++m.portal=m.portal:=by rw[hp,aag]
   rw[if_neg hn83,e5,a3,a4]
   exact⟨hs'.symm,rfl⟩
 ·
  have hs':m=if m.what=83 then⟨m.kind,m.what,m.name,[],[],[],[],[],[],0⟩ else⟨m.kind,m.what,[],m.portal,[],[],[],[],[],0⟩:=by
   have:bw m=if m.what=83 then⟨m.kind,m.what,m.name,[],[],[],[],[],[],0⟩ else⟨m.kind,m.what,[],m.portal,[],[],[],[],[],0⟩:=by unfold bw;rw[if_neg (by omega),if_neg (by omega),if_pos (by omega)]
   rw[<- this];exact hs
  have hwt:m.what=83 \/ m.what=80:=by
   simp[jo,e] at hw;exact hw
  have hwb:[aah m.what.toNat]=aY [] m.what 1:=by rcases hwt with h |h<;>rw[h]<;>decide
  have hb:aw m=aY [] m.what 1++(He.encT (m.name++m.portal)++[]):=by
   unfold aw;rw[if_neg (by omega),if_neg (by omega),if_pos (by omega),<- hwb];simp[aM]
  obtain⟨a1,a2⟩:=jK (n:=m.what) (size:=1) (.inl rfl) (He.encT (m.name++m.portal)++[]) (eG (.inl rfl) (by omega) (by rw[wI];omega))
  rw[CH] at a1 a2
  rw[wI,aab (by omega) (by omega)] at a1
  have h678:m.kind=67 \/ m.kind=68:=by omega
  rw[hb,vh _ h678,vg _ h678,a1,a2]
  rcases hwt with h83 |h80
  ·rw[if_pos h83] at hs'
   have hp:m.portal=[]:=by rw[hs']
   obtain⟨a3,a4⟩:=He.text_enc [] c1
   have e5:m.name++m.portal=m.name:=by rw[hp,aaf]
   rw[if_pos h83,e5,a3,a4]
   exact⟨hs'.symm,rfl⟩
  ·have hn83:¬m.what=83:=by omega
   rw[if_neg hn83] at hs'
   have hp:m.name=[]:=by rw[hs']
   obtain⟨a3,a4⟩:=He.text_enc [] c2
   have e5:m.name++m.portal=m.portal:=by rw[hp,aag]
   rw[if_neg hn83,e5,a3,a4]
   exact⟨hs'.symm,rfl⟩
 ·
  have hs':m=⟨69,0,[],m.portal,[],[],[],[],[],m.max⟩:=by
   have:bw m=⟨69,0,[],m.portal,[],[],[],[],[],m.max⟩:=by unfold bw;rw[if_neg (by omega),if_neg (by omega),if_neg (by omega),if_pos e]
   rw[<- this];exact hs
  have hb:aw m=He.encT m.portal++(aY [] m.max 4++[]):=by
   unfold aw;rw[if_neg (by omega),if_neg (by omega),if_neg (by omega),if_pos e,fh];simp[aM]
  obtain⟨a1,a2⟩:=He.text_enc (aY [] m.max 4++[]) c2
  have hm':=hm
  simp only[oh,aaa,beq_iff_eq] at hm
  obtain⟨a3,a4⟩:=jK (size:=4) (.inr (.inr rfl)) [] hm.1
  rw[four] at a3 a4
  rw[e,hb,Ht,Hp,a1,a2,a3,a4]
  refine⟨?_,rfl⟩
  rw[A1,CX]
  have hr:=(wQ _).1 hm.1
  rw[Tz] at hm'
  simp[ep] at hm'
  have:(if 2147483648 <= m.max % 4294967296 /\ m.max % 4294967296<4294967296 then m.max % 4294967296-4294967296 else m.max % 4294967296)=m.max:=by
   split<;>omega
  rw[this];exact hs'.symm
 ·have hs':m=⟨m.kind,0,[],[],[],[],[],[],[],0⟩:=by
   have:bw m=⟨m.kind,0,[],[],[],[],[],[],[],0⟩:=by unfold bw;rw[if_neg (by omega),if_neg (by omega),if_neg (by omega),if_neg (by omega),if_neg (by omega)]
   rw[<- this];exact hs
  have hb:aw m=[]:=by
   unfold aw;rw[if_neg (by omega),if_neg (by omega),if_neg (by omega),if_neg (by omega),if_neg (by omega)]
  obtain⟨a1,a2⟩:=sM (some []) (k:=m.kind) (by omega)
  rw[hb,a1,a2]
  exact⟨hs'.symm,rfl⟩
 ·
  have hs':m=⟨80,0,m.name,[],m.text,m.oids,[],[],[],0⟩:=by
   have:bw m=⟨80,0,m.name,[],m.text,m.oids,[],[],[],0⟩:=by unfold bw;rw[if_pos e]
   rw[<- this];exact hs
  have hb:aw m=He.encT m.name++(He.encT m.text++(aG (aD 4) m.oids++[])):=by
   unfold aw;rw[if_pos e];simp[aM]
  obtain⟨a1,a2⟩:=He.text_enc (He.encT m.text++(aG (aD 4) m.oids++[])) c1
  obtain⟨a3,a4⟩:=He.text_enc (aG (aD 4) m.oids++[]) c3
  obtain⟨a5,a6⟩:=jG (jL (size:=4) (.inr (.inr rfl))) m.oids [] (by omega) (vP rfl (.inr (.inr rfl)) u1)
  rw[four] at a5 a6
  rw[e,hb,Hu,Hq]
  simp only[numbersV,numbersS]
  rw[a1,a2,a3,a4,a5,a6]
  exact⟨hs'.symm,rfl⟩
 ·
  have hs':m=⟨81,0,[],[],m.text,[],[],[],[],0⟩:=by
   have:bw m=⟨81,0,[],[],m.text,[],[],[],[],0⟩:=by unfold bw;rw[if_neg (by omega),if_neg (by omega),if_neg (by omega),if_neg (by omega),if_pos e]
   rw[<- this];exact hs
  have hb:aw m=He.encT m.text++[]:=by
   unfold aw;rw[if_neg (by omega),if_neg (by omega),if_neg (by omega),if_neg (by omega),if_pos e];simp[aM]
  obtain⟨a1,a2⟩:=He.text_enc [] c3
  rw[e,hb,Hv,Hr,a1,a2]
  exact⟨hs'.symm,rfl⟩
 ·have hs':m=⟨m.kind,0,[],[],[],[],[],[],[],0⟩:=by
   have:bw m=⟨m.kind,0,[],[],[],[],[],[],[],0⟩:=by unfold bw;rw[if_neg (by omega),if_neg (by omega),if_neg (by omega),if_neg (by omega),if_neg (by omega)]
   rw[<- this];exact hs
  have hb:aw m=[]:=by
   unfold aw;rw[if_neg (by omega),if_neg (by omega),if_neg (by omega),if_neg (by omega),if_neg (by omega)]
  obtain⟨a1,a2⟩:=sM (some []) (k:=m.kind) (by omega)
  rw[hb,a1,a2]
  exact⟨hs'.symm,rfl⟩
 ·have hs':m=⟨m.kind,0,[],[],[],[],[],[],[],0⟩:=by
   have:bw m=⟨m.kind,0,[],[],[],[],[],[],[],0⟩:=by unfold bw;rw[if_neg (by omega),if_neg (by omega),if_neg (by omega),if_neg (by omega),if_neg (by omega)]
   rw[<- this];exact hs
  have hb:aw m=[]:=by
   unfold aw;rw[if_neg (by omega),if_neg (by omega),if_neg (by omega),if_neg (by omega),if_neg (by omega)]
  obtain⟨a1,a2⟩:=sM (some []) (k:=m.kind) (by omega)
  rw[hb,a1,a2]
  exact⟨hs'.symm,rfl⟩
end Ax
namespace Ax
open Go.RowKit Go By YtlbgjlmokpkkeaaGreatDoor.Nm Sc Dg
open He (textL)
theorem Ad{m:Fm}(h:fD m=0):Wj m=(⟨m.kind,aw m⟩,0) /\ xT ⟨m.kind,aw m⟩=(m,0):=by
 obtain⟨h1,h2,_⟩:=nG h
 obtain⟨h3,h4⟩:=Bc h
 refine⟨if_pos h,?_⟩
 have n0:¬az m.kind=0:=by omega
 have n2:¬az m.kind=2:=by omega
 unfold xT
 rw[if_neg n0,if_neg n2]
 show(if kq (ef m.kind (some (aw m)))&&jo (dv m.kind (some (aw m))) then(dv m.kind (some (aw m)),(0:Int)) else(noFm,4))=(m,0)
 rw[h3,h4,h2];rfl
end Ax
end Go.Proofs.YtlbgjlmokpkkeaaGreatDoor
