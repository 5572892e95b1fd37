import Derived.Test.YtlbgjlmokpkkeaaGreatDoorQAxSb
import Derived.Lib.BytesEntry
import Derived.Test.YtlbgjlmokpkkeaaGreatDoorQDigC
open List renaming getD_eq_getElem?_getD -> aaa
set_option linter.all false
namespace Go.Proofs.YtlbgjlmokpkkeaaGreatDoor.Sc
set_option maxRecDepth 100000
open Go.RowKit Go By Go.Proofs.YtlbgjlmokpkkeaaGreatDoor.Nm
def Good(w:World)(g:Nat)(xs:List UInt8):Prop :=
 ∃ a c,YU w g 171 [.bool true,.slice a xs.length c] /\ BytesAt w g a xs /\ (a=none -> c=0) /\ xs.length <= c /\ c <= maxLen
def U5(w:World)(g:Nat):Prop:=YU w g 171 [.bool false,.slice none 0 0]
theorem ym{len:Nat}{size:Int}(h:cn len 0 size=0):1 <= size /\ size <= 4 /\ size <= len:=by
 unfold cn at h
 split at h
 ·omega
 ·rename_i h1
  have hs:szB size=true:=by cases hh:szB size<;>simp_all
  have:=oq hs
  split at h
  ·omega
  ·omega
def zeroAt:List UInt8 -> Option Nat
 | []=>none
 | b::l=>if b==0 then some 0 else(zeroAt l).map (·+1)
theorem iE:∀ {xs:List UInt8} {k:Nat},zeroAt xs=some k -> k<xs.length /\ xs.getD k 0=0 /\ ∀ j,j<k -> xs.getD j 0≠0
 | [],k,h=>by simp[zeroAt] at h
 | b::l,k,h=>by
  unfold zeroAt at h
  by_cases hb:b=0
  ·subst hb
   simp at h
   subst h
   exact⟨by simp,rfl,fun j hj=>by omega⟩
  ·have hb1:(b==0)=false:=by simpa using hb
   rw[hb1] at h
   simp at h
   obtain⟨m,hm,rfl⟩:=h
   obtain⟨h1,h2,h3⟩:=iE hm
   refine⟨by simp;omega,by simpa using h2,fun j hj=>?_⟩
   cases j with
   | zero=>simpa using hb
   | succ j=>simpa using h3 j (by omega)
theorem qx:∀ {xs:List UInt8},zeroAt xs=none -> ∀ j,j<xs.length -> xs.getD j 0≠0
 | [],_,j,hj=>by simp at hj
 | b::l,h,j,hj=>by
  unfold zeroAt at h
  by_cases hb:b=0
  ·subst hb;simp at h
  ·have hb1:(b==0)=false:=by simpa using hb
   rw[hb1] at h
   simp at h
   cases j with
   | zero=>simpa using hb
   | succ j=>simpa using qx h j (by simpa using hj)
theorem Fg{xs:List UInt8}{k:Nat}(h1:k<xs.length)(h2:xs.getD k 0=0)(h3:∀ j,j<k -> xs.getD j 0≠0):zeroAt xs=some k:=by
 cases h:zeroAt xs with
 | none=>exact absurd h2 (qx h k h1)
 | some m =>
  obtain⟨a1,a2,a3⟩:=iE h
  rcases Nat.lt_trichotomy m k with hk |hk |hk
  ·exact absurd a2 (h3 m hk)
  ·rw[hk]
  ·exact absurd h2 (a3 k hk)
theorem kY:∀ xs:List UInt8,Lib.indexByte xs 0=match zeroAt xs with |none=>-1 |some k=>(k:Int)
 | []=>rfl
 | b::l=>by
  have ih:=kY l
  unfold Lib.indexByte zeroAt
  by_cases hb:(b==0)=true
  ·rw[if_pos hb,if_pos hb];rfl
  ·rw[if_neg hb,if_neg hb,ih]
   cases zeroAt l with
   | none=>rfl
   | some k=>simp
theorem tT(B:Nat)(a:Option Addr)(cap:Nat)(xs:List UInt8)(w:World)(hb:BytesAt w B a xs):
  Calls Tryz.prog 121 #[.slice a xs.length cap,.int .u8 0] w fun e w'=>e=.returned (.int .i64 (Lib.indexByte xs 0)) /\ w=w':=by
 have hr:(Extern.BytealgIndexByte.indexByte #[.slice a xs.length cap,.int .u8 0]).run Tryz.prog w=.ok (.int .i64 (Lib.indexByte xs 0)) w:=by
  cases xs with
  | nil =>
   cases a with
   | none=>exact Lib.run_indexByteNil w _ _ _
   | some ad =>
    obtain⟨b,off,spot⟩:=ad
    cases spot with
    | none=>exact Lib.run_indexByteSlice w b off 0 cap [] rfl (fun i hi=>by omega) 0
    | some s=>kernel_rfl
  | cons x l =>
   obtain⟨b,off,rfl,_,hc⟩:=hb (by simp)
   have:=Lib.run_indexByteSlice (P:=Tryz.prog) w b off (x::l).length cap ((x::l).map fun c=>(c.toNat:Int)) (by simp) (fun i hi=>by
    rw[hc i hi]
    unfold bt
    simp only[aaa,List.getElem?_map,List.getElem?_eq_getElem hi,Option.map_some,Option.getD_some]) 0
   rw[this]
   have e:Lib.bytesOf ((x::l).map fun c=>(c.toNat:Int))=x::l:=by
    unfold Lib.bytesOf
    rw[List.map_map]
    have e2:((fun n:Int=>n.toNat.toUInt8)∘fun c:UInt8=>(c.toNat:Int))=id:=by
     funext c;simp
    first |rw[e2,List.map_id] |skip
   rw[e];rfl
 go_enter Tryz.func121,Tryz.ntmps121
 go_wp2
 rw[run_callFunc_extern Tryz.func175 (by kernel_rfl) (by kernel_rfl) (by kernel_rfl) (e:=Extern.BytealgIndexByte.indexByte) (by kernel_rfl),hr]
 simp only[Result.andThen]
 rw[Oper.upon_value]
 go_wp2
 go_ret
 exact⟨rfl,rfl⟩
end Go.Proofs.YtlbgjlmokpkkeaaGreatDoor.Sc
namespace Go.Proofs.YtlbgjlmokpkkeaaGreatDoor.Sc
open Go.RowKit Go By Go.Proofs.YtlbgjlmokpkkeaaGreatDoor.Nm
abbrev Sta:=Option (List UInt8)
def St(w:World)(g:Nat):Sta -> Prop
 | some xs=>Good w g xs
 | none=>U5 w g
def bf:Sta -> Int -> Int
 | some xs,n=>if cn xs.length 0 n=0 then dG xs 0 n.toNat else 0
 | none,_=>0
def aA:Sta -> Int -> Sta
 | some xs,n=>if cn xs.length 0 n=0 then some (xs.drop n.toNat) else none
 | none,_=>none
def Zc:Sta -> ByteArray
 | some xs=>match zeroAt xs with
  | some k=>af (xs.take k)
  | none=>⟨#[]⟩
 | none=>⟨#[]⟩
def ax:Sta -> Sta
 | some xs=>match zeroAt xs with
  | some k=>some (xs.drop (k+1))
  | none=>none
 | none=>none
def jj(xs:List UInt8)(n:Int):Bool:=decide (0 <= n)&&decide (n <= xs.length)
def lp:Sta -> Int -> List UInt8
 | some xs,n=>if jj xs n=true then xs.take n.toNat else[]
 | none,_=>[]
def iB:Sta -> Int -> Sta
 | some xs,n=>if jj xs n=true then some (xs.drop n.toNat) else none
 | none,_=>none
theorem ER{xs:List UInt8}{n:Int}(h:jj xs n=true):0 <= n /\ n <= xs.length:=by simpa[jj] using h
theorem Ip{xs:List UInt8}{n:Int}(h:¬jj xs n=true):n<0 \/ (xs.length:Int)<n:=by
 simp[jj] at h;omega
def kH:Sta -> Bool
 | some _=>false
 | none=>true
def kq:Sta -> Bool
 | some xs=>xs.isEmpty
 | none=>false
end Go.Proofs.YtlbgjlmokpkkeaaGreatDoor.Sc
namespace Go.Proofs.YtlbgjlmokpkkeaaGreatDoor.He
open Go.RowKit Go By Go.Proofs.YtlbgjlmokpkkeaaGreatDoor.Nm Sc
def textL:Sta -> List UInt8
 | some xs=>match zeroAt xs with
  | some k=>xs.take k
  | none=>[]
 | none=>[]
def lenS:Sta -> Nat
 | some xs=>xs.length
 | none=>0
theorem textS_len(st:Sta):lenS (ax st) <= lenS st:=by
 cases st with
 | none=>exact Nat.le_refl _
 | some xs =>
  simp only[ax]
  cases zeroAt xs with
  | none=>exact Nat.zero_le _
  | some k=>simp[lenS]
theorem textS_lt{st:Sta}(h:textL st≠[]):lenS (ax st)<lenS st:=by
 cases st with
 | none=>exact absurd rfl h
 | some xs =>
  simp only[ax,textL] at *
  cases hz:zeroAt xs with
  | none=>rw[hz] at h;exact absurd rfl h
  | some k=>have:=(iE hz).1;simp[lenS];omega
abbrev Pr:=List UInt8×List UInt8
inductive Prs:Sta -> List Pr -> Sta -> Prop
 | stop (st:Sta):textL st=[] -> Prs st [] (ax st)
 | step (st:Sta) (l:List Pr) (s:Sta):textL st≠[] -> Prs (ax (ax st)) l s -> Prs st ((textL st,textL (ax st))::l) s
def encT(t:List UInt8):List UInt8:=t++[0]
theorem FY{t:List UInt8}(h:Dg.cleanB t=true)(j:Nat)(hj:j<t.length):t.getD j 0≠0:=fun h0=>by
 rw[Dg.clean_no hj h0] at h;cases h
theorem Cc{t:List UInt8}(r:List UInt8)(h:Dg.cleanB t=true):zeroAt (encT t++r)=some t.length:=by
 refine Fg (by simp[encT]) ?_ fun j hj=>?_
 ·simp[encT,aaa]
 ·rw[encT,List.append_assoc,aaa,List.getElem?_append_left hj,<- aaa]
  exact FY h j hj
theorem text_enc{t:List UInt8}(r:List UInt8)(h:Dg.cleanB t=true):textL (some (encT t++r))=t /\ ax (some (encT t++r))=some r:=by
 simp only[textL,ax,Cc r h]
 constructor
 ·simp[encT]
 ·rw[List.drop_append_of_le_length (by simp[encT])]
  simp[encT]
end Go.Proofs.YtlbgjlmokpkkeaaGreatDoor.He
