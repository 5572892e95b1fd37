import Derived.Test.YtlbgjlmokpkkeaaGreatDoorQAxDg
set_option linter.all false
set_option maxRecDepth 10000
namespace Go.Proofs.YtlbgjlmokpkkeaaGreatDoor
namespace Ax
open Go.RowKit Go By
def NC:XFun:=⟨11,.seq (.ops [oK 4 (.string (af [])),oK 5 (.bool false)]) (.seq (.ops [oM 6 0,oM 7 1,oC 8 226 [6,7],oE 9 8 0,oE 10 8 1,oA 4 9,oA 5 10]) .ret),[.move (.tmp 4),.move (.tmp 5)]⟩
theorem XP:aj Tryz.prog 178=some NC:=by kernel_rfl
def NW:XFun:=⟨15,.seq (.ops [oK 4 (.string (af [])),oK 5 (.bool false)]) (.seq (.seq (.ops [oM 6 0,oM 7 1,oC 8 249 [6,7],oV 9 8]) (.cond (.tmp 9) (.seq (.ops [oM 10 0,oA 4 10,oK 5 (.bool false)]) .ret) .skip)) (.seq (.ops [oM 11 0,oM 12 1,oX 13 (.lenS (.tmp 12)),oX 14 (.sliceS (.tmp 11) (some (.tmp 13)) none),oA 4 14,oK 5 (.bool true)]) .ret)),[.move (.tmp 4),.move (.tmp 5)]⟩
theorem Yi:aj Tryz.prog 226=some NW:=by kernel_rfl
def JR:XFun:=⟨18,.seq (.ops [oK 4 (.bool false)]) (.seq (.ops [oM 5 0,oX 6 (.lenS (.tmp 5)),oM 7 1,oX 8 (.lenS (.tmp 7)),oB 9 .geq 6 8,oM 10 9,oG 10 true (oM 11 0),oG 10 true (oM 12 1),oG 10 true (oX 13 (.lenS (.tmp 12))),oG 10 true (oX 14 (.sliceS (.tmp 11) none (some (.tmp 13)))),oG 10 true (oM 15 1),oG 10 true (oB 16 .eql 14 15),oT 17 10 16,oA 4 17]) .ret),[.move (.tmp 4)]⟩
theorem Yt:aj Tryz.prog 249=some JR:=by kernel_rfl
end Ax
namespace Ax
open Go.RowKit Go By YtlbgjlmokpkkeaaGreatDoor.Nm Sc Dg
theorem F3(s:d5)(most:Int)(hs:s.length <= 9223372036854775807)(h:d4):ae Tryz.prog 227 [.v (.string (af s)),.v (.int .i64 most)] h (.tup [.v (.int .i64 (dy s most)),.v (.bool (cI s most))]) h [] :=
 ub (l:=[.string (af s),.int .i64 most]) (r:=[.int .i64 (dy s most),.bool (cI s most)]) (by kernel_rfl) h fun w=>by
  have:=Et (af s) most w (by rw[ej];unfold maxLen;omega)
  rwa [lO] at this
theorem oo(xs:d5)(i j:Nat):(af xs).extract i j=af ((xs.drop i).take (j-i)):=by
 apply ByteArray.ext
 simp[af,ByteArray.data_extract]
def fM(s p:d5):Bool:=decide (p.length <= s.length)&&(s.take p.length==p)
theorem yr(s p:d5)(h:d4):ae Tryz.prog 249 [.v (.string (af s)),.v (.string (af p))] h (.v (.bool (fM s p))) h []:=by
 refine ac Yt mixed (by simp[JR]) fun hh hargs=>?_
 by_cases hl:p.length <= s.length
 ·have e:decide ((p.length:Int) <= (s.length:Int))=true:=by simpa using hl
  simp[JR,fM,hl,hh,e,oo]
 ·have e:decide ((p.length:Int) <= (s.length:Int))=false:=by simpa using hl
  simp[JR,fM,hl,hh,e]
def xR(s p:d5):d5:=if fM s p=true then s.drop p.length else s
theorem wU(s p:d5)(h:d4):ae Tryz.prog 226 [.v (.string (af s)),.v (.string (af p))] h (.tup [.v (.string (af (xR s p))),.v (.bool (fM s p))]) h []:=by
 refine ac Yi mixed (by simp[NW]) fun hh hargs=>?_
 simp[NW]
 refine aa (by simp) (yr s p _) ?_
 cases hp:fM s p with
 | false=>simp[hh,xR,hp]
 | true =>
  have hl:p.length <= s.length:=by
   unfold fM at hp
   simp at hp
   exact hp.1
  have ht:List.take (s.length-p.length) (s.drop p.length)=s.drop p.length:=List.take_of_length_le (by simp)
  simp[hh,xR,hp,oo,ht,hl]
theorem pW(s p:d5)(h:d4):ae Tryz.prog 178 [.v (.string (af s)),.v (.string (af p))] h (.tup [.v (.string (af (xR s p))),.v (.bool (fM s p))]) h []:=by
 refine ac XP mixed (by simp[NC]) fun hh hargs=>?_
 simp[NC]
 refine aa (by simp) (wU s p _) ?_
 simp[hh]
end Ax
namespace Ax
open Go.RowKit Go By YtlbgjlmokpkkeaaGreatDoor.Nm Dg
def ea:d5 -> d5
 | []=>[]
 | x::t=>if x=32 then ea t else x::t
def cM:d5 -> d5
 | []=>[]
 | x::t=>if cM t=[] /\ x=32 then[] else x::cM t
def gL(s:d5):d5:=cM (ea s)
theorem Bf(l:d5):cM (l++[32])=cM l:=by
 induction l with
 | nil=>simp[cM]
 | cons x t ih=>simp only[List.cons_append,cM,ih]
theorem EE(l:d5){c:UInt8}(h:c≠32):cM (l++[c])=l++[c]:=by
 induction l with
 | nil=>simp[cM,h]
 | cons x t ih=>simp[cM,ih]
theorem ES(s:d5):ea (cM s)=cM (ea s):=by
 induction s with
 | nil=>rfl
 | cons x t ih =>
  by_cases hx:x=32
  ·subst hx
   have e:ea (32::t)=ea t:=by simp[ea]
   rw[e,<- ih]
   by_cases hr:cM t=[]
   ·simp[cM,hr,ea]
   ·simp[cM,hr,ea]
  ·simp[cM,ea,hx]
theorem Ei(s:d5):(ea s).length <= s.length:=by
 induction s with
 | nil=>simp[ea]
 | cons x t ih=>unfold ea;split<;>simp<;>omega
theorem vm(s:d5):(cM s).length <= s.length:=by
 induction s with
 | nil=>simp[cM]
 | cons x t ih=>unfold cM;split<;>simp<;>omega
theorem Ix(s:d5):(gL s).length <= s.length:=Nat.le_trans (vm _) (Ei _)
def pi:d5:=[98,101,103,105,110]
def lD:d5:=[99,111,109,109,105,116]
def vj:d5:=[114,111,108,108,98,97,99,107]
def uv:d5:=[101,99,104,111]
def uR:d5:=[110,101,120,116]
def kC:d5:=[115,101,108,101,99,116,32]
def eL:d5:=[102,97,105,108,32]
def Jb(c:UInt8):Bool:=(decide (48 <= c.toNat)&&decide (c.toNat <= 57))||(decide (65 <= c.toNat)&&decide (c.toNat <= 90))
def nH(s:d5):Bool:=decide (s.length=5)&&s.all Jb
def fz(s:d5):Vb :=
 if s=[] then⟨1,0,[]⟩ else if s=pi then⟨2,0,[]⟩ else if s=lD then⟨3,0,[]⟩ else if s=vj then⟨4,0,[]⟩ else if s=uv then⟨6,0,[]⟩ else if s=uR then⟨7,0,[]⟩
 else if fM s kC=true /\ cI (s.drop 7) 99=true then⟨5,dy (s.drop 7) 99,[]⟩
 else if fM s eL=true /\ nH (s.drop 5)=true then⟨8,0,s.drop 5⟩ else⟨0,0,[]⟩
def vG(k:Int):d5:=if k=2 then pi else if k=3 then lD else if k=4 then vj else if k=5 then kC else if k=6 then uv else if k=7 then uR else if k=8 then eL else[]
theorem Cx{s p:d5}(h:fM s p=true):s=p++s.drop p.length:=by
 unfold fM at h
 simp at h
 conv=>lhs;rw[<- List.take_append_drop p.length s]
 rw[h.2]
theorem yq(p s:d5):fM (p++s) p=true:=by
 unfold fM
 simp
theorem K7{s:d5}(h:s≠[]):∃ u c,s=u++[c]:=⟨s.dropLast,s.getLast h,(List.dropLast_concat_getLast h).symm⟩
theorem K1(t:d5):fz (kC++t)=if cI t 99=true then⟨5,dy t 99,[]⟩ else⟨0,0,[]⟩:=by
 have h1:fM (kC++t) kC=true:=yq _ _
 have h2:fM (kC++t) eL=false:=by simp[fM,kC,eL]
 have h3:(kC++t).drop 7=t:=by simp[kC]
 unfold fz
 rw[h1,h2,h3]
 simp[kC,pi,lD,vj,uv,uR]
theorem H0(t:d5):fz (eL++t)=if nH t=true then⟨8,0,t⟩ else⟨0,0,[]⟩:=by
 have h1:fM (eL++t) kC=false:=by simp[fM,kC,eL]
 have h2:fM (eL++t) eL=true:=yq _ _
 have h3:(eL++t).drop 5=t:=by simp[eL]
 unfold fz
 rw[h1,h2,h3]
 simp[eL,pi,lD,vj,uv,uR]
theorem HZ{u:d5}(h1:fM u kC=false)(h2:fM u eL=false):fz u=if u=[] then⟨1,0,[]⟩ else if u=pi then⟨2,0,[]⟩ else if u=lD then⟨3,0,[]⟩ else if u=vj then⟨4,0,[]⟩ else if u=uv then⟨6,0,[]⟩ else if u=uR then⟨7,0,[]⟩ else⟨0,0,[]⟩:=by
 unfold fz
 rw[h1,h2]
 simp
end Ax
end Go.Proofs.YtlbgjlmokpkkeaaGreatDoor
