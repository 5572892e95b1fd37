import Derived.Test.YtknohkmpficjgaaGreatDoorQAxKc0
set_option linter.unusedSimpArgs false
set_option linter.unusedVariables false
namespace Go.Proofs.YtknohkmpficjgaaGreatDoor.Ax
open Go.RowKit Go By
def Nw:XFun:=⟨6,.seq (.ops [oK 2 (.bool false)]) (.seq (.ops [oM 3 0,oX 4 (.call 61 [.tmp 3,.func 62]),oV 5 4,oA 2 5]) .ret),[.move (.tmp 2)]⟩
theorem Qw : ai Tryz.prog 31 = some Nw := by kernel_rfl
def FU:XFun:=⟨9,.seq (.ops [oJ 2 0,oK 4 (.bool false)]) (.seq (.ops [oM 5 1,oX 6 (.mkfn (.func 165) [] [.tmp 2]),oC 7 64 [5,6],oV 8 7,oA 4 8]) .ret),[.move (.tmp 4)]⟩
theorem Ov : ai Tryz.prog 111 = some FU := by kernel_rfl
def NI:XFun:=⟨8,.seq (.ops [oK 4 (.bool false)]) (.seq (.ops [oM 5 0,oM 6 1,oX 7 (.call 118 [.tmp 5,.tmp 6,.func 119]),oA 4 7]) .ret),[.move (.tmp 4)]⟩
theorem sQ : ai Tryz.prog 69 = some NI := by kernel_rfl
def Nx:XFun:=⟨9,.seq (.ops [oJ 2 0,oK 4 (.bool false)]) (.seq (.ops [oM 5 1,oX 6 (.mkfn (.func 65) [] [.tmp 2]),oC 7 64 [5,6],oV 8 7,oA 4 8]) .ret),[.move (.tmp 4)]⟩
theorem Qx : ai Tryz.prog 32 = some Nx := by kernel_rfl
def ND:XFun:=⟨6,.seq (.ops [oK 2 (.bool false)]) (.seq (.ops [oM 3 0,oX 4 (.call 35 [.tmp 3,.func 109]),oV 5 4,oA 2 5]) .ret),[.move (.tmp 2)]⟩
theorem QJ : ai Tryz.prog 54 = some ND := by kernel_rfl
def NH:XFun:=⟨6,.seq (.ops [oK 2 (.bool false)]) (.seq (.ops [oM 3 0,oC 4 63 [3],oV 5 4,oA 2 5]) .ret),[.move (.tmp 2)]⟩
theorem QR : ai Tryz.prog 62 = some NH := by kernel_rfl
def Gf:XFun:=⟨15,.seq (.ops [oK 3 (.bool false)]) (.seq (.ops [oM 4 0,oL 5 1,oC 6 66 [4,5],oV 7 6,oM 8 7,oG 8 false (oM 9 0),oG 8 false (oL 10 1),oG 8 false (oC 11 166 [9,10]),oG 8 false (oM 12 0),oG 8 false (oB 13 .neq 11 12),oU 14 8 13,oA 3 14]) .ret),[.move (.tmp 3)]⟩
theorem OZ : ai Tryz.prog 165 = some Gf := by kernel_rfl
def CW:XFun:=⟨17,.seq (.ops [oJ 2 0,oJ 3 1,oK 4 (.bool false)]) (.seq (.ops [oF 5 0 2,oL 6 5,oF 7 0 3,oL 8 7,oX 9 (.beq false (.tmp 6) (.tmp 8)),oM 10 9,oG 10 true (oF 11 1 2),oG 10 true (oL 12 11),oG 10 true (oF 13 1 3),oG 10 true (oL 14 13),oG 10 true (oC 15 120 [12,14]),oT 16 10 15,oA 4 16]) .ret),[.move (.tmp 4)]⟩
theorem Oz : ai Tryz.prog 119 = some CW := by kernel_rfl
def Mf:XFun:=⟨12,.seq (.ops [oK 3 (.bool false)]) (.seq (.ops [oM 4 0,oI 5 .lss 4 (.int .i64 0),oM 6 5,oG 6 false (oM 7 0),oG 6 false (oL 8 1),oG 6 false (oC 9 66 [7,8]),oG 6 false (oV 10 9),oU 11 6 10,oA 3 11]) .ret),[.move (.tmp 3)]⟩
theorem QS : ai Tryz.prog 65 = some Mf := by kernel_rfl
def An:XFun:=⟨17,.seq (.ops [oJ 1 0,oK 2 (.bool false)]) (.seq (.ops [oF 3 1 1,oL 4 3,oH 5 4,oI 6 .gtr 5 (.int .i64 1048576),oM 7 6,oG 7 false (oF 8 0 1),oG 7 false (oL 9 8),oG 7 false (oM 10 9),oG 10 true (oF 11 1 1),oG 10 true (oL 12 11),oG 10 true (oH 13 12),oG 10 true (oI 14 .gtr 13 (.int .i64 0)),oG 7 false (oT 15 10 14),oU 16 7 15,oA 2 16]) .ret),[.move (.tmp 2)]⟩
theorem Ot : ai Tryz.prog 109 = some An := by kernel_rfl
def c141:XFun:=⟨24,.seq (.ops [oN 2]) (.seq (.ops [oM 5 0,oC 6 197 [5],oA 3 6]) (.seq (.seq (.ops [oM 7 3,oH 8 7,oX 9 (.move (.const (.int .i64 0)))]) (.block 0 (.loop (.seq (.ops [oB 10 .lss 9 8]) (.seq (.cond (.tmp 10) .skip (.exit 0)) (.seq (.block 1 (.seq (.ops [oM 11 9,oA 4 11]) (.ops [oM 12 3,oM 13 4,oM 14 3,oM 15 4,oW 16 2 14 15,oF 17 1 16,oL 18 17,oC 19 198 [18],oW 20 2 12 13,oF 21 1 20,oS 1 21 19]))) (.ops [oI 22 .add 9 (.int .i64 1),oM 9 22]))))))) (.seq (.ops [oM 23 3,oA 2 23]) .ret))),[.move (.tmp 2)]⟩
theorem KU : ai Tryz.prog 141 = some c141 := by kernel_rfl
end Go.Proofs.YtknohkmpficjgaaGreatDoor.Ax
namespace Go.Proofs.YtknohkmpficjgaaGreatDoor.Ax
open Go.RowKit Go By Sc Dg
set_option maxRecDepth 10000
theorem cR (l : List Cl) (hl : l.length <= 4398046511104) (hb : ∀ c ∈ l, c.2.length <= 140737488351232) (h : List (List AV)) : ae Tryz.prog 141 [.sl 2 (al aq l) none .no] h (.sl 2 (al aq l) none .no) h [] := by
 by_cases hne : l = []
 ·subst hne
  refine ac KU mixed (by simp [c141]) fun hh hargs => ?_
  simp [c141]
  refine aa (by simp) (pQ _) ?_
  simp
  refine ar (D := Nat) (fun _ => ⟨[(3, .sl 2 [] none .no), (8, .v (.int .i64 0)), (9, .v (.int .i64 0))], [], h, []⟩) (fun _ => True) (fun _ => 0) 0 trivial ?_ ?_
  ·simp [Leq, hh]
  ·intro _ _
   simp [hh]
 refine bR (XCode.cuts [false, false, true] c141.code) KU rfl mixed (by simp [c141]) fun hh hargs => ?_
 have hlen := lI (c := aq) (k := 2) (fun _ => rfl) l
 have hfz : frzOk (al aq l).flatten := by
  cases l with
  | nil => exact absurd rfl hne
  | cons x r => exact trivial
 simp [c141]
 refine aa (by simp) (rN l hne (by omega) _) ?_
 simp
 have hz := xn (c := aq) (k := 2) (fun _ => rfl) l h.length l.length rfl
 have hget := qy l
 have hF := fun n => tC n l
 generalize (al aq l).flatten = F at *
 refine pH h.length F ⟨[(3, .sl 2 (al aq l) none .no)], [], h, []⟩ (Nat.le_refl _) hfz ?_ ?_
 ·simp
  refine ar (D := Nat) (fun j => ⟨[(3, .bsl h.length 0 2 l.length), (8, .v (.int .i64 l.length)), (9, .v (.int .i64 j))], [], h ++ [F], []⟩) (fun j => j <= l.length) (fun j => l.length - j) 0 (by simp) ?_ ?_
  ·simp [Leq, hh, hF]
  ·intro j hj
   by_cases hlt : j < l.length
   ·have hw : IntKind.i64.wrap ((j : Int) + 1) = (j : Int) + 1 := wrap64 (by omega) (by omega)
    have hg := hget j hlt
    have hfit : j * 2 + 1 + 1 <= F.length := by omega
    have hbl := hb _ (List.getElem_mem hlt)
    generalize l[j] = c at *
    simp [hlt, hg]
    refine aa (by simp) (vc c.2 (by omega) _) ?_
    have hfit2 : j * 2 + 1 < F.length := by omega
    simp [hlt, hg, hw, hfit, hfit2]
    refine ⟨j + 1, by omega, by omega, ?_⟩
    have hq := nV (a := [F.set (j * 2 + 1) (.sl 1 (ak c.2) none (.own (.cell h.length (j * 2 + 1))))]) (b := [F]) h 0 ⟨.inr (tT F 0 (j * 2 + 1) _ _ hg (by simp [LeqV])), trivial⟩
    simp [Leq, hh, hF] at hq ⊢
    exact hq
   ·have : j = l.length := by omega
    subst this
    simp [Leq, hh, hz]
 ·simp [hh]
end Go.Proofs.YtknohkmpficjgaaGreatDoor.Ax
