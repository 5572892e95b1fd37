import Derived.Test.YtlbgjlmokpkkeaaGreatDoorQAxDg
set_option linter.all false
set_option maxRecDepth 10000
namespace Go.Proofs.YtlbgjlmokpkkeaaGreatDoor
namespace Ax
open Go.RowKit Go By
def JN:XFun:=⟨8,.seq (.ops [oK 2 (.string (af []))]) (.seq (.seq (.ops [oM 3 0,oI 4 .eql 3 (.string (af []))]) (.cond (.tmp 4) (.seq (.ops [oK 2 (.string (af [117,110,110,97,109,101,100,32,112,114,101,112,97,114,101,100,32,115,116,97,116,101,109,101,110,116,32,100,111,101,115,32,110,111,116,32,101,120,105,115,116]))]) .ret) .skip)) (.seq (.ops [oM 5 0,oC 6 194 [5],oI 7 .add 6 (.string (af [32,100,111,101,115,32,110,111,116,32,101,120,105,115,116])),oA 2 7]) .ret)),[.move (.tmp 2)]⟩
theorem X2:aj Tryz.prog 195=some JN:=by kernel_rfl
def Nl:XFun:=⟨6,.seq (.ops [oK 2 (.string (af []))]) (.seq (.ops [oM 3 0,oC 4 194 [3],oI 5 .add 4 (.string (af [32,97,108,114,101,97,100,121,32,101,120,105,115,116,115])),oA 2 5]) .ret),[.move (.tmp 2)]⟩
theorem Xm:aj Tryz.prog 135=some Nl:=by kernel_rfl
def Nn:XFun:=⟨17,.seq (.ops [oK 6 (.string (af []))]) (.seq (.ops [oM 7 0,oC 8 192 [7],oX 9 (.bin .add (.const (.string (af [98,105,110,100,32,109,101,115,115,97,103,101,32,115,117,112,112,108,105,101,115,32]))) (.tmp 8)),oI 10 .add 9 (.string (af [32,112,97,114,97,109,101,116,101,114,115])),oM 11 1,oC 12 197 [11],oB 13 .add 10 12,oM 14 2,oC 15 192 [14],oB 16 .add 13 15,oA 6 16]) .ret),[.move (.tmp 6)]⟩
theorem Xo:aj Tryz.prog 138=some Nn:=by kernel_rfl
def NP:XFun:=⟨7,.seq (.ops [oK 2 (.string (af []))]) (.seq (.ops [oM 3 0,oC 4 199 [3],oX 5 (.bin .add (.const (.string (af [112,111,114,116,97,108,32]))) (.tmp 4)),oI 6 .add 5 (.string (af [32,100,111,101,115,32,110,111,116,32,101,120,105,115,116])),oA 2 6]) .ret),[.move (.tmp 2)]⟩
theorem X5:aj Tryz.prog 201=some NP:=by kernel_rfl
def No:XFun:=⟨7,.seq (.ops [oK 2 (.string (af []))]) (.seq (.ops [oM 3 0,oC 4 199 [3],oX 5 (.bin .add (.const (.string (af [99,117,114,115,111,114,32]))) (.tmp 4)),oI 6 .add 5 (.string (af [32,97,108,114,101,97,100,121,32,101,120,105,115,116,115])),oA 2 6]) .ret),[.move (.tmp 2)]⟩
theorem Xp:aj Tryz.prog 140=some No:=by kernel_rfl
def NO:XFun:=⟨7,.seq (.ops [oK 2 (.string (af []))]) (.seq (.ops [oM 3 0,oC 4 194 [3],oX 5 (.bin .add (.const (.string (af [44,32,98,117,116,32]))) (.tmp 4)),oI 6 .add 5 (.string (af [32,114,101,113,117,105,114,101,115,32])),oA 2 6]) .ret),[.move (.tmp 2)]⟩
theorem X4:aj Tryz.prog 197=some NO:=by kernel_rfl
def NN:XFun:=⟨6,.seq (.ops [oK 2 (.string (af []))]) (.seq (.ops [oM 3 0,oC 4 199 [3],oX 5 (.bin .add (.const (.string (af [112,114,101,112,97,114,101,100,32,115,116,97,116,101,109,101,110,116,32]))) (.tmp 4)),oA 2 5]) .ret),[.move (.tmp 2)]⟩
theorem X1:aj Tryz.prog 194=some NN:=by kernel_rfl
end Ax
namespace Ax
open Go.RowKit Go By YtlbgjlmokpkkeaaGreatDoor.Nm Sc Dg
def qm:d5:=[112,114,101,112,97,114,101,100,32,115,116,97,116,101,109,101,110,116,32]
def Eo:d5:=[32,100,111,101,115,32,110,111,116,32,101,120,105,115,116]
def iR:d5:=[32,97,108,114,101,97,100,121,32,101,120,105,115,116,115]
def zw:d5:=[117,110,110,97,109,101,100,32,112,114,101,112,97,114,101,100,32,115,116,97,116,101,109,101,110,116,32,100,111,101,115,32,110,111,116,32,101,120,105,115,116]
def Jz:d5:=[44,32,98,117,116,32]
def lL:d5:=[32,114,101,113,117,105,114,101,115,32]
def FG:d5:=[98,105,110,100,32,109,101,115,115,97,103,101,32,115,117,112,112,108,105,101,115,32]
def wK:d5:=[32,112,97,114,97,109,101,116,101,114,115]
def wM:d5:=[112,111,114,116,97,108,32]
def wi:d5:=[99,117,114,115,111,114,32]
def kx(s:d5):d5:=qm++fF s
def uP(s:d5):d5:=if s=[] then zw else kx s++Eo
def mM(s:d5):d5:=kx s++iR
def EA(s:d5):d5:=Jz++kx s++lL
def fZ(n:Int)(s:d5)(m:Int):d5:=FG++Dg.textL n++wK++EA s++Dg.textL m
def vd(s:d5):d5:=wM++fF s++Eo
def kO(s:d5):d5:=wi++fF s++iR
theorem xc(s:d5)(hs:s.length <= 100000)(h:d4):ae Tryz.prog 194 [.v (.string (af s))] h (.v (.string (af (kx s)))) h []:=by
 have q:=eY s
 refine ac X1 mixed (by simp[NN]) fun hh hargs=>?_
 simp[NN]
 refine aa (by simp) (rM s (by omega) _) ?_
 simp[hh,kx,qm]
 omega
theorem Lh(s:d5)(hs:s.length <= 100000)(h:d4):ae Tryz.prog 195 [.v (.string (af s))] h (.v (.string (af (uP s)))) h []:=by
 have q:=eY s
 refine ac X2 mixed (by simp[JN]) fun hh hargs=>?_
 unfold uP
 by_cases h0:s=[]
 ·simp[JN,h0,hh,zw]
 ·simp[JN,h0]
  refine aa (by simp) (xc s hs _) ?_
  simp[hh,kx,Eo,qm]
  omega
theorem zm(s:d5)(hs:s.length <= 100000)(h:d4):ae Tryz.prog 135 [.v (.string (af s))] h (.v (.string (af (mM s)))) h []:=by
 have q:=eY s
 refine ac Xm mixed (by simp[Nl]) fun hh hargs=>?_
 simp[Nl]
 refine aa (by simp) (xc s hs _) ?_
 simp[hh,mM,kx,iR,qm]
 omega
theorem PJ(s:d5)(hs:s.length <= 100000)(h:d4):ae Tryz.prog 197 [.v (.string (af s))] h (.v (.string (af (EA s)))) h []:=by
 have q:=eY s
 refine ac X4 mixed (by simp[NO]) fun hh hargs=>?_
 simp[NO]
 refine aa (by simp) (xc s hs _) ?_
 simp[hh,EA,kx,Jz,lL,qm]
 omega
theorem It(n m:Int)(s:d5)(hn : -9223372036854775808 <= n /\ n <= 9223372036854775807)(hm : -9223372036854775808 <= m /\ m <= 9223372036854775807)(hs:s.length <= 100000)(h:d4):ae Tryz.prog 138 [.v (.int .i64 n),.v (.string (af s)),.v (.int .i64 m)] h (.v (.string (af (fZ n s m)))) h []:=by
 have q:=eY s
 have l1:=ce n hn.1 hn.2
 have l2:=ce m hm.1 hm.2
 have l3:(EA s).length=37+s.length:=by simp[EA,kx,Jz,qm,lL,q];omega
 refine ac Xo mixed (by simp[Nn]) fun hh hargs=>?_
 simp[Nn]
 refine aa (by simp) (lE n hn.1 hn.2 _) ?_
 simp
 refine⟨by omega,by omega,?_⟩
 refine aa (by simp) (PJ s hs _) ?_
 simp
 refine⟨by omega,?_⟩
 refine aa (by simp) (lE m hm.1 hm.2 _) ?_
 simp[hh,fZ,FG,wK]
 omega
theorem Li(s:d5)(hs:s.length <= 100000)(h:d4):ae Tryz.prog 201 [.v (.string (af s))] h (.v (.string (af (vd s)))) h []:=by
 have q:=eY s
 refine ac X5 mixed (by simp[NP]) fun hh hargs=>?_
 simp[NP]
 refine aa (by simp) (rM s (by omega) _) ?_
 simp[hh,vd,wM,Eo]
 omega
theorem Lg(s:d5)(hs:s.length <= 100000)(h:d4):ae Tryz.prog 140 [.v (.string (af s))] h (.v (.string (af (kO s)))) h []:=by
 have q:=eY s
 refine ac Xp mixed (by simp[No]) fun hh hargs=>?_
 simp[No]
 refine aa (by simp) (rM s (by omega) _) ?_
 simp[hh,kO,wi,iR]
 omega
end Ax
end Go.Proofs.YtlbgjlmokpkkeaaGreatDoor
