import Derived.Test.YtlbgjlmokpkkeaaGreatDoorQAxCy
open List renaming not_any_eq_all_not -> aaa, length_append -> aab, flatMap_append -> aac, length_flatMap -> aad, getElem_mem -> aae
set_option linter.all false
namespace Go.Proofs.YtlbgjlmokpkkeaaGreatDoor.Ax
open Go.RowKit Go By YtlbgjlmokpkkeaaGreatDoor.Nm Sc Dg
set_option maxRecDepth 10000
theorem J3(xs ys:d5)(h:d4):ae Tryz.prog 216 [.sl 1 (ai xs) none .no,.sl 1 (ai ys) none .no] h (.v (.bool (xs==ys))) h []:=by
 refine ac Yd mixed (by simp[NR]) fun hh hargs=>?_
 simp[NR,hh]
theorem E9(s:d5)(h:d4):ae Tryz.prog 159 [.v (.string (af s))] h (.v (.bool (!cleanB s))) h []:=by
 refine ac XC mixed (by simp[Nv]) fun hh hargs=>?_
 simp[Nv]
 refine aa (by simp) (JW s h) ?_
 simp[hh]
theorem tv(l:List d5)(hl:l.length <= 140737488355328)(h:d4):ae Tryz.prog 109 [.sl 1 (am lW l) none .no] h (.v (.bool (l.all cleanB))) h []:=by
 refine ac WS mixed (by simp[M0]) fun hh hargs=>?_
 simp[M0]
 refine aa (by simp) (iG mixed XB Ya (fun s=>.v (.string (af s))) (fun s=>!cleanB s) l [] h (by simp) (by simp) (by simp) (fun s _=>E9 s h) hl) ?_
 simp[hh,aaa]
def cu(size n:Int):Bool:=!decide (n<0)&&aB n size
theorem Ly(size n:Int)(i:Nat)(h:d4)(hi:h[i]?=some [.v (.int .i64 size)]):ae Tryz.prog 162 [.v (.int .i64 n),.box i 0] h (.v (.bool (!cu size n))) h []:=by
 refine ac XD mixed (by simp[JK]) fun hh hargs=>?_
 by_cases hn:n<0
 ·simp[JK,hn,hh,cu]
 ·simp[JK,hn,hi]
  refine aa (by simp) (CR n size h) ?_
  simp[hh,cu,hn]
theorem xj(size:Int)(l:List Int)(hl:l.length <= 140737488355328)(h:d4):ae Tryz.prog 110 [.v (.int .i64 size),.sl 1 (am aX l) none .no] h (.v (.bool (l.all (cu size)))) h []:=by
 refine ac WT mixed (by simp[M1]) fun hh hargs=>?_
 simp[M1]
 refine aa (by simp) (iG mixed SL SU (fun n=>.v (.int .i64 n)) (fun n=>!cu size n) l [.box h.length 0] _ (by simp) (by simp) (by simp) (fun n _=>Ly size n _ _ (by simp)) hl) ?_
 simp[hh,aaa]
def oh(size n:Int):Bool:=aB n size&&cv n size==n
theorem Lx(size n:Int)(i:Nat)(h:d4)(hi:h[i]?=some [.v (.int .i64 size)]):ae Tryz.prog 243 [.v (.int .i64 n),.box i 0] h (.v (.bool (!oh size n))) h []:=by
 refine ac Ys mixed (by simp[N3]) fun hh hargs=>?_
 simp[N3,hi]
 refine aa (by simp) (CR n size h) ?_
 cases hr:aB n size with
 | false=>simp[hh,oh,hr]
 | true =>
  simp[hi]
  refine aa (by simp) (zi n size h) ?_
  simp[hh,oh,hr]
  rfl
theorem IZ(size:Int)(l:List Int)(hl:l.length <= 140737488355328)(h:d4):ae Tryz.prog 209 [.v (.int .i64 size),.sl 1 (am aX l) none .no] h (.v (.bool (l.all (oh size)))) h []:=by
 refine ac X8 mixed (by simp[NQ]) fun hh hargs=>?_
 simp[NQ]
 refine aa (by simp) (iG mixed SL SU (fun n=>.v (.int .i64 n)) (fun n=>!oh size n) l [.box h.length 0] _ (by simp) (by simp) (by simp) (fun n _=>Lx size n _ _ (by simp)) hl) ?_
 simp[hh,aaa]
def bS(c:Cl):Bool:=decide (c.2.length <= 1048576)&&!(c.1&&decide (0<c.2.length))
theorem IP(c:Cl)(hc:c.2.length <= 140737488355328)(h:d4):ae Tryz.prog 207 [.agg (aq c)] h (.v (.bool (!bS c))) h []:=by
 refine ac X6 mixed (by simp[FU]) fun hh hargs=>?_
 obtain⟨n,b⟩:=c
 by_cases hb:(1048576:Int)<b.length
 ·have hb':¬b.length <= 1048576:=by omega
  simp[FU,aq,hb,hb',hh,bS]
 ·have hb':b.length <= 1048576:=by omega
  cases n with
  | false=>simp[FU,aq,hb,hb',hh,bS]
  | true =>
   simp[FU,aq,hb,hb',hh,bS]
theorem IR(l:List Cl)(hl:l.length <= 140737488355328)(hc:∀ c∈l,c.2.length <= 140737488355328)(h:d4):ae Tryz.prog 151 [.sl 2 (am aq l) none .no] h (.v (.bool (l.all bS))) h []:=by
 refine ac Xu mixed (by simp[Nr]) fun hh hargs=>?_
 simp[Nr]
 refine aa (by simp) (dE mixed Y4 Y6 aq (fun c=>!bS c) l [] h (by simp) (by simp) (by simp) (fun c hm=>IP c (hc c hm) h) hl) ?_
 simp[hh,aaa]
theorem IY(a b:Cl)(h:d4):ae Tryz.prog 215 [.agg (aq a),.agg (aq b)] h (.v (.bool (a==b))) h []:=by
 refine ac Yc mixed (by simp[JP]) fun hh hargs=>?_
 obtain⟨n,x⟩:=a
 obtain⟨m,y⟩:=b
 have e:((n,x)==(m,y))=(n==m&&x==y):=rfl
 cases hnm:n==m with
 | false=>simp[JP,aq,hnm,hh,e]
 | true =>
  simp[JP,aq,hnm]
  refine aa (by simp) (J3 x y _) ?_
  simp[hh,e,hnm]
theorem Lw(l m:List Cl)(hl:l.length <= 140737488355328)(h:d4):ae Tryz.prog 166 [.sl 2 (am aq l) none .no,.sl 2 (am aq m) none .no] h (.v (.bool (l==m))) h []:=by
 refine ac XG mixed (by simp[Nw]) fun hh hargs=>?_
 simp[Nw]
 refine aa (by simp) (Ap mixed Yb (by rfl) (·==·) aq (by simp) (by simp) l m h (fun x y h=>IY x y h) hl) ?_
 simp[hh,jz]
theorem Fa{α:Type}(e:α -> d5)(l:List α)(j:Nat):((l.take j).flatMap e).length <= (l.flatMap e).length:=by
 conv=>rhs;rw[<- List.take_append_drop j l]
 rw[aac,aab];omega
theorem DW{α:Type}(e:α -> d5){l:List α}{j:Nat}(hj:j<l.length):(l.take (j+1)).flatMap e=(l.take j).flatMap e++e l[j]:=by
 rw[cN hj,aac];simp
theorem put_len(n size:Int)(h4:size <= 4)(xs:d5):(aY xs n size).length <= xs.length+4:=by
 unfold aY
 split
 ·simp[aE];omega
 ·omega
theorem dk{α:Type}(e:α -> d5)(l:List α)(a j:Nat)(hj:j<l.length)(N:Nat)(hN:a+(l.flatMap e).length <= N):(l.take (j+1)).flatMap e=(l.take j).flatMap e++e l[j] /\ a+(((l.take j).flatMap e).length+(e l[j]).length) <= N:=by
 have h1:=DW e hj
 have h2:=Fa e l (j+1)
 rw[h1,aab] at h2
 exact⟨h1,by omega⟩
def aM(l:List d5):d5:=l.flatMap He.encT
theorem pb(l:List d5)(hl:(aM l).length <= 140737488355328)(h:d4):ae Tryz.prog 114 [.sl 1 (am lW l) none .no] h (.sl 1 (ai (aM l)) none (.own .res)) h []:=by
 have hn:∀ l:List d5,l.length <= (aM l).length:=fun l=>by
  induction l with
  | nil=>simp
  | cons x r ih=>simp[aM,He.encT] at ih ⊢;omega
 have hl0:=hn l
 refine ac WX mixed (by simp[M3]) fun hh hargs=>?_
 simp at hargs
 simp[M3]
 refine ap (D:=Nat) (fun j=>⟨[(6,.sl 1 (am lW l) none .no),(7,.v (.int .i64 l.length)),(8,.v (.int .i64 j))],[(3,.sl 1 (ai (aM (l.take j))) none (.own (.slot 3)))],h,[]⟩) (fun j=>j <= l.length) (fun j=>l.length-j) 0 (by simp) ?_ ?_
 ·simp[Leq,hh,hargs,aM]
 ·intro j hj
  by_cases hlt:j<l.length
  ·have hlt':(j:Int)<l.length:=by omega
   have hw:IntKind.i64.wrap ((j:Int)+1)=(j:Int)+1:=wrap64 (by omega) (by omega)
   obtain⟨hx,hb⟩:=dk He.encT l 0 j hlt _ (by simpa[aM] using hl)
   have hx':aM (l.take (j+1))=aM (l.take j)++(l[j]++[0]):=hx
   have hb':0+((aM (l.take j)).length+(l[j]++[0]).length) <= 140737488355328:=hb
   rw[aab,List.length_singleton] at hb'
   simp[hlt,hlt',lW,hw]
   refine⟨by omega,by omega,j+1,by omega,by omega,?_⟩
   simp[Leq,hh,hargs,hx']
  ·have hlt':¬(j:Int)<l.length:=by omega
   have:j=l.length:=by omega
   subst this
   simp[hh]
def aG{α:Type}(e:α -> d5)(l:List α):d5:=aY [] l.length 2++l.flatMap e
theorem IT(e:Int -> d5)(l:List Int)(g:FuncId)(cap:List AV)(h:d4)(hl:(aG e l).length <= 140737488355328)(hl2:l.length <= 140737488355328)(hcap:∀ c∈cap,c.idOf=none)(hlt:cb h.length cap)
  (hg:∀ n,n∈l -> ae Tryz.prog g (.v (.int .i64 n)::cap) h (.sl 1 (ai (e n)) none (.own .res)) h []) :
  ae Tryz.prog 173 [.sl 1 (am aX l) none .no,.fn (.func g) [] cap] h (.sl 1 (ai (aG e l)) none (.own .res)) h []:=by
 refine ac XL mixed (by simp[Nz]) fun hh hargs=>?_
 simp at hargs
 simp[Nz]
 refine ak (qf [] l.length 2 (by simp) h) (by simp) (by simp) ?_
 simp
 refine ap (D:=Nat) (fun j=>⟨[(1,.fn (.func g) [] cap),(11,.sl 1 (am aX l) none .no),(12,.v (.int .i64 l.length)),(13,.v (.int .i64 j))],[(5,.sl 1 (ai (aY [] l.length 2++(l.take j).flatMap e)) none (.own (.slot 5)))],h,[]⟩) (fun j=>j <= l.length) (fun j=>l.length-j) 0 (by simp) ?_ ?_
 ·simp[Leq,hh,hargs]
 ·intro j hj
  by_cases hlt:j<l.length
  ·have hlt':(j:Int)<l.length:=by omega
   have hw:IntKind.i64.wrap ((j:Int)+1)=(j:Int)+1:=wrap64 (by omega) (by omega)
   obtain⟨hx,hb⟩:=dk e l (aY [] l.length 2).length j hlt _ (by simpa[aG] using hl)
   have hq:∀ y∈(AV.v (.int .i64 l[j]))::cap,y.idOf=none:=by simpa using hcap
   simp[hlt,hlt',aX]
   refine⟨hcap,aa hq (hg l[j] (aae _)) ?_⟩
   simp[bI hq,bI hcap,hw,-aad]
   refine⟨by omega,j+1,by omega,by omega,?_⟩
   simp[Leq,hh,hargs,hx]
  ·have hlt':¬(j:Int)<l.length:=by omega
   have:j=l.length:=by omega
   subst this
   simp[hh,aG]
theorem IS(e:Cl -> d5)(l:List Cl)(g:FuncId)(cap:List AV)(h:d4)(hl:(aG e l).length <= 140737488355328)(hl2:l.length <= 140737488355328)(hcap:∀ c∈cap,c.idOf=none)(hlt:cb h.length cap)
  (hg:∀ n,n∈l -> ∀ h',ae Tryz.prog g (.agg (aq n)::cap) (h++h') (.sl 1 (ai (e n)) none (.own .res)) (h++h') []) :
  ae Tryz.prog 170 [.sl 2 (am aq l) none .no,.fn (.func g) [] cap] h (.sl 1 (ai (aG e l)) none (.own .res)) h []:=by
 refine ac XI mixed (by simp[Nx]) fun hh hargs=>?_
 simp at hargs
 simp[Nx]
 refine ak (qf [] l.length 2 (by simp) h) (by simp) (by simp) ?_
 simp
 refine ap (D:=Nat) (fun j=>⟨[(1,.fn (.func g) [] cap),(11,.sl 2 (am aq l) none .no),(12,.v (.int .i64 l.length)),(13,.v (.int .i64 j))],[(5,.sl 1 (ai (aY [] l.length 2++(l.take j).flatMap e)) none (.own (.slot 5)))],h,[]⟩) (fun j=>j <= l.length) (fun j=>l.length-j) 0 (by simp) ?_ ?_
 ·simp[Leq,hh,hargs]
 ·intro j hj
  by_cases hlt:j<l.length
  ·have hlt':(j:Int)<l.length:=by omega
   have hw:IntKind.i64.wrap ((j:Int)+1)=(j:Int)+1:=wrap64 (by omega) (by omega)
   obtain⟨hx,hb⟩:=dk e l (aY [] l.length 2).length j hlt _ (by simpa[aG] using hl)
   have hq:∀ y∈(AV.agg (aq l[j]))::cap,y.idOf=none:=by simpa using hcap
   simp[hlt,hlt']
   refine⟨hcap,aa hq (hg l[j] (aae _) _) ?_⟩
   simp[bI hq,bI hcap,hw,-aad]
   refine⟨by omega,j+1,by omega,by omega,?_⟩
   simp[Leq,hh,hargs,hx]
  ·have hlt':¬(j:Int)<l.length:=by omega
   have:j=l.length:=by omega
   subst this
   simp[hh,aG]
def aD(size:Int)(n:Int):d5:=aY [] n size
theorem Lu(size n:Int)(i:Nat)(h:d4)(hi:h[i]?=some [.v (.int .i64 size)]):ae Tryz.prog 174 [.v (.int .i64 n),.box i 0] h (.sl 1 (ai (aD size n)) none (.own .res)) h []:=by
 refine ac XM mixed (by simp[NA]) fun hh hargs=>?_
 simp[NA,hi]
 refine ak (qf [] n size (by simp) h) (by simp) (by simp) ?_
 simp[hh,aD]
theorem B7(size:Int)(l:List Int)(h:d4)(hl:(aG (aD size) l).length <= 140737488355328)(hl2:l.length <= 140737488355328):
  ae Tryz.prog 119 [.v (.int .i64 size),.sl 1 (am aX l) none .no] h (.sl 1 (ai (aG (aD size) l)) none (.own .res)) h []:=by
 refine ac W9 mixed (by simp[M8]) fun hh hargs=>?_
 simp[M8]
 refine aa (by simp) (IT (aD size) l _ [.box h.length 0] _ hl hl2 (by simp) (by simp) fun n _=>Lu size n _ _ (by simp)) ?_
 simp[hh]
def cd(c:Cl):d5:=if c.1=true then aY [] 4294967295 4 else aY [] c.2.length 4++c.2
theorem gj(b:d5):cd (true,b)=aY [] 4294967295 4:=if_pos rfl
theorem fl(b:d5):cd (false,b)=aY [] b.length 4++b:=if_neg (by simp)
theorem Ls(c:Cl)(h:d4)(hl:c.2.length <= 70000000000000):ae Tryz.prog 171 [.agg (aq c)] h (.sl 1 (ai (cd c)) none (.own .res)) h []:=by
 refine ac XJ mixed (by simp[Dw]) fun hh hargs=>?_
 obtain⟨n,b⟩:=c
 cases n with
 | true =>
  rw[gj]
  generalize hN:(4294967295:Int)=N
  have hc:Dw=Dw:=rfl
  simp[Dw,aq,hN]
  refine ak (qf [] N 4 (by simp) _) (by simp) (by simp) ?_
  simp[hh]
 | false =>
  have hp:=put_len b.length 4 (by omega) []
  rw[fl]
  simp[Dw,aq]
  refine ak (qf [] b.length 4 (by simp) _) (by simp) (by simp) ?_
  simp at hl hp
  simp[hh]
  omega
theorem E7(l:List Cl)(h:d4)(hl:(aG cd l).length <= 140737488355328)(hl2:l.length <= 140737488355328)(hl3:∀ c∈l,c.2.length <= 70000000000000):
  ae Tryz.prog 116 [.sl 2 (am aq l) none .no] h (.sl 1 (ai (aG cd l)) none (.own .res)) h []:=by
 refine ac W0 mixed (by simp[M5]) fun hh hargs=>?_
 simp[M5]
 refine aa (by simp) (IS cd l _ [] _ hl hl2 (by simp) (by simp) fun n hn h'=>Ls n _ (hl3 n hn)) ?_
 simp[hh]
end Go.Proofs.YtlbgjlmokpkkeaaGreatDoor.Ax
