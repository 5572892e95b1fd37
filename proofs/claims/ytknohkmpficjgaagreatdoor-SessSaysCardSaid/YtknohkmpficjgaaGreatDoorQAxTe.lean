import Derived.Test.YtknohkmpficjgaaGreatDoorQAxDg
set_option linter.unusedSimpArgs false
set_option linter.unusedVariables false
namespace Go.Proofs.YtknohkmpficjgaaGreatDoor.Ax
open Go.RowKit Go By
def CZ:XFun:=⟨8,.seq (.ops [oK 2 (.string (ah []))]) (.seq (.seq (.ops [oM 3 0,oI 4 .eql 3 (.string (ah []))]) (.cond (.tmp 4) (.seq (.ops [oK 2 (.string (ah [117,110,110,97,109,101,100,32,112,114,101,112,97,114,101,100,32,115,116,97,116,101,109,101,110,116,32,100,111,101,115,32,110,111,116,32,101,120,105,115,116]))]) .ret) .skip)) (.seq (.ops [oM 5 0,oC 6 144 [5],oI 7 .add 6 (.string (ah [32,100,111,101,115,32,110,111,116,32,101,120,105,115,116])),oA 2 7]) .ret)),[.move (.tmp 2)]⟩
theorem OU : ai Tryz.prog 146 = some CZ := by kernel_rfl
def NR:XFun:=⟨6,.seq (.ops [oK 2 (.string (ah []))]) (.seq (.ops [oM 3 0,oC 4 144 [3],oI 5 .add 4 (.string (ah [32,97,108,114,101,97,100,121,32,101,120,105,115,116,115])),oA 2 5]) .ret),[.move (.tmp 2)]⟩
theorem Q1 : ai Tryz.prog 82 = some NR := by kernel_rfl
def NT:XFun:=⟨17,.seq (.ops [oK 6 (.string (ah []))]) (.seq (.ops [oM 7 0,oC 8 142 [7],oX 9 (.bin .add (.const (.string (ah [98,105,110,100,32,109,101,115,115,97,103,101,32,115,117,112,112,108,105,101,115,32]))) (.tmp 8)),oI 10 .add 9 (.string (ah [32,112,97,114,97,109,101,116,101,114,115])),oM 11 1,oC 12 148 [11],oB 13 .add 10 12,oM 14 2,oC 15 142 [14],oB 16 .add 13 15,oA 6 16]) .ret),[.move (.tmp 6)]⟩
theorem Q3 : ai Tryz.prog 86 = some NT := by kernel_rfl
def Gd:XFun:=⟨7,.seq (.ops [oK 2 (.string (ah []))]) (.seq (.ops [oM 3 0,oC 4 150 [3],oX 5 (.bin .add (.const (.string (ah [112,111,114,116,97,108,32]))) (.tmp 4)),oI 6 .add 5 (.string (ah [32,100,111,101,115,32,110,111,116,32,101,120,105,115,116])),oA 2 6]) .ret),[.move (.tmp 2)]⟩
theorem OX : ai Tryz.prog 152 = some Gd := by kernel_rfl
def NU:XFun:=⟨7,.seq (.ops [oK 2 (.string (ah []))]) (.seq (.ops [oM 3 0,oC 4 150 [3],oX 5 (.bin .add (.const (.string (ah [99,117,114,115,111,114,32]))) (.tmp 4)),oI 6 .add 5 (.string (ah [32,97,108,114,101,97,100,121,32,101,120,105,115,116,115])),oA 2 6]) .ret),[.move (.tmp 2)]⟩
theorem qE : ai Tryz.prog 88 = some NU := by kernel_rfl
def Gc:XFun:=⟨7,.seq (.ops [oK 2 (.string (ah []))]) (.seq (.ops [oM 3 0,oC 4 144 [3],oX 5 (.bin .add (.const (.string (ah [44,32,98,117,116,32]))) (.tmp 4)),oI 6 .add 5 (.string (ah [32,114,101,113,117,105,114,101,115,32])),oA 2 6]) .ret),[.move (.tmp 2)]⟩
theorem OW : ai Tryz.prog 148 = some Gc := by kernel_rfl
def Gb:XFun:=⟨6,.seq (.ops [oK 2 (.string (ah []))]) (.seq (.ops [oM 3 0,oC 4 150 [3],oX 5 (.bin .add (.const (.string (ah [112,114,101,112,97,114,101,100,32,115,116,97,116,101,109,101,110,116,32]))) (.tmp 4)),oA 2 5]) .ret),[.move (.tmp 2)]⟩
theorem OT : ai Tryz.prog 144 = some Gb := by kernel_rfl
end Go.Proofs.YtknohkmpficjgaaGreatDoor.Ax
namespace Go.Proofs.YtknohkmpficjgaaGreatDoor.Ax
open Go.RowKit Go By YtknohkmpficjgaaGreatDoor.Nm Sc Dg
set_option maxRecDepth 10000
def rj : List UInt8 := [112, 114, 101, 112, 97, 114, 101, 100, 32, 115, 116, 97, 116, 101, 109, 101, 110, 116, 32]
def DD : List UInt8 := [32, 100, 111, 101, 115, 32, 110, 111, 116, 32, 101, 120, 105, 115, 116]
def kK : List UInt8 := [32, 97, 108, 114, 101, 97, 100, 121, 32, 101, 120, 105, 115, 116, 115]
def uM : List UInt8 := [117, 110, 110, 97, 109, 101, 100, 32, 112, 114, 101, 112, 97, 114, 101, 100, 32, 115, 116, 97, 116, 101, 109, 101, 110, 116, 32, 100, 111, 101, 115, 32, 110, 111, 116, 32, 101, 120, 105, 115, 116]
def FS : List UInt8 := [44, 32, 98, 117, 116, 32]
def lR : List UInt8 := [32, 114, 101, 113, 117, 105, 114, 101, 115, 32]
def ED : List UInt8 := [98, 105, 110, 100, 32, 109, 101, 115, 115, 97, 103, 101, 32, 115, 117, 112, 112, 108, 105, 101, 115, 32]
def xy : List UInt8 := [32, 112, 97, 114, 97, 109, 101, 116, 101, 114, 115]
def xA : List UInt8 := [112, 111, 114, 116, 97, 108, 32]
def xk : List UInt8 := [99, 117, 114, 115, 111, 114, 32]
def lp (s : List UInt8) : List UInt8 := rj ++ iW s
def Bd (s : List UInt8) : List UInt8 := if s = [] then uM else lp s ++ DD
def rV (s : List UInt8) : List UInt8 := lp s ++ kK
def BC (s : List UInt8) : List UInt8 := FS ++ lp s ++ lR
def iz (n : Int) (s : List UInt8) (m : Int) : List UInt8 := ED ++ Dg.textL n ++ xy ++ BC s ++ Dg.textL m
def Bs (s : List UInt8) : List UInt8 := xA ++ iW s ++ DD
def mu (s : List UInt8) : List UInt8 := xk ++ iW s ++ kK
theorem sG (s : List UInt8) (hs : s.length <= 100000) (h : List (List AV)) : ae Tryz.prog 144 [.v (.string (ah s))] h (.v (.string (ah (lp s)))) h [] := by
 have q := dD s
 refine ac OT mixed (by simp [Gb]) fun hh hargs => ?_
 simp [Gb]
 refine aa (by simp) (nE s (by omega) _) ?_
 simp [hh, lp, rj]
 omega
theorem Eh (s : List UInt8) (hs : s.length <= 100000) (h : List (List AV)) : ae Tryz.prog 146 [.v (.string (ah s))] h (.v (.string (ah (Bd s)))) h [] := by
 have q := dD s
 refine ac OU mixed (by simp [CZ]) fun hh hargs => ?_
 unfold Bd
 by_cases h0 : s = []
 ·simp [CZ, h0, hh, uM]
 ·simp [CZ, h0]
  refine aa (by simp) (sG s hs _) ?_
  simp [hh, lp, DD, rj]
  omega
theorem uE (s : List UInt8) (hs : s.length <= 100000) (h : List (List AV)) : ae Tryz.prog 82 [.v (.string (ah s))] h (.v (.string (ah (rV s)))) h [] := by
 have q := dD s
 refine ac Q1 mixed (by simp [NR]) fun hh hargs => ?_
 simp [NR]
 refine aa (by simp) (sG s hs _) ?_
 simp [hh, rV, lp, kK, rj]
 omega
theorem Ia (s : List UInt8) (hs : s.length <= 100000) (h : List (List AV)) : ae Tryz.prog 148 [.v (.string (ah s))] h (.v (.string (ah (BC s)))) h [] := by
 have q := dD s
 refine ac OW mixed (by simp [Gc]) fun hh hargs => ?_
 simp [Gc]
 refine aa (by simp) (sG s hs _) ?_
 simp [hh, BC, lp, FS, lR, rj]
 omega
theorem B6 (n m : Int) (s : List UInt8) (hn : -9223372036854775808 <= n /\ n <= 9223372036854775807) (hm : -9223372036854775808 <= m /\ m <= 9223372036854775807) (hs : s.length <= 100000) (h : List (List AV)) : ae Tryz.prog 86 [.v (.int .i64 n), .v (.string (ah s)), .v (.int .i64 m)] h (.v (.string (ah (iz n s m)))) h [] := by
 have q := dD s
 have l1 := dy n hn.1 hn.2
 have l2 := dy m hm.1 hm.2
 have l3 : (BC s).length = 37 + s.length := by simp [BC, lp, FS, rj, lR, q]; omega
 refine ac Q3 mixed (by simp [NT]) fun hh hargs => ?_
 simp [NT]
 refine aa (by simp) (jf n hn.1 hn.2 _) ?_
 simp
 refine ⟨by omega, by omega, ?_⟩
 refine aa (by simp) (Ia s hs _) ?_
 simp
 refine ⟨by omega, ?_⟩
 refine aa (by simp) (jf m hm.1 hm.2 _) ?_
 simp [hh, iz, ED, xy]
 omega
theorem Ei (s : List UInt8) (hs : s.length <= 100000) (h : List (List AV)) : ae Tryz.prog 152 [.v (.string (ah s))] h (.v (.string (ah (Bs s)))) h [] := by
 have q := dD s
 refine ac OX mixed (by simp [Gd]) fun hh hargs => ?_
 simp [Gd]
 refine aa (by simp) (nE s (by omega) _) ?_
 simp [hh, Bs, xA, DD]
 omega
theorem Ef (s : List UInt8) (hs : s.length <= 100000) (h : List (List AV)) : ae Tryz.prog 88 [.v (.string (ah s))] h (.v (.string (ah (mu s)))) h [] := by
 have q := dD s
 refine ac qE mixed (by simp [NU]) fun hh hargs => ?_
 simp [NU]
 refine aa (by simp) (nE s (by omega) _) ?_
 simp [hh, mu, xk, kK]
 omega
end Go.Proofs.YtknohkmpficjgaaGreatDoor.Ax
