import Derived.Test.YtknohkmpficjgaaGreatDoorQAxSy
set_option linter.unusedSimpArgs false
set_option linter.unusedVariables false
open List renaming drop_eq_getElem_cons -> Q7
namespace Go.Proofs.YtknohkmpficjgaaGreatDoor.Ax
open Go.RowKit Go By
def Gm:XFun:=⟨9,.seq (.ops [oK 4 (.bool false)]) (.seq (.ops [oM 5 0,oM 6 1,oC 7 213 [5,6],oI 8 .geq 7 (.int .i64 0),oA 4 8]) .ret),[.move (.tmp 4)]⟩
theorem Pc : ai Tryz.prog 190 = some Gm := by kernel_rfl
def Gt:XFun:=⟨19,.seq (.ops [oK 4 (.int .i64 0)]) (.seq (.seq (.ops [oM 6 0,oH 7 6,oX 8 (.move (.const (.int .i64 0)))]) (.block 0 (.loop (.seq (.ops [oB 9 .lss 8 7]) (.seq (.cond (.tmp 9) .skip (.exit 0)) (.seq (.block 1 (.seq (.ops [oM 10 8,oA 5 10]) (.seq (.ops [oM 11 1,oM 12 0,oM 13 5,oW 14 1 12 13,oL 15 14,oB 16 .eql 11 15]) (.cond (.tmp 16) (.seq (.ops [oM 17 5,oA 4 17]) .ret) .skip)))) (.ops [oI 18 .add 8 (.int .i64 1),oM 8 18]))))))) (.seq (.ops [oK 4 (.int .i64 (-1))]) .ret)),[.move (.tmp 4)]⟩
theorem Po : ai Tryz.prog 213 = some Gt := by kernel_rfl
end Go.Proofs.YtknohkmpficjgaaGreatDoor.Ax
namespace Go.Proofs.YtknohkmpficjgaaGreatDoor.Ax
open Go.RowKit Go By
set_option maxRecDepth 10000
theorem tY {L : List Int} {x : Int} {j : Nat} (hj : j < L.length) (h : x ∉ L.take j) (e : ¬ L[j] = x) : x ∉ L.take (j + 1) := by
 rw [List.take_succ_eq_append_getElem hj]
 intro hm
 rcases List.mem_append.1 hm with h1 | h1
 ·exact h h1
 ·exact e (List.mem_singleton.1 h1).symm
theorem A4 {h : List (List AV)} {L : List Int} (hl : L.length <= 1000000) (x : Int) : ∃ n : Int, ae Tryz.prog 213 [.sl 1 (al aN L) none .no, .v (.int .i64 x)] h (.v (.int .i64 n)) h [] /\ (decide (0 <= n) = L.contains x) := by
 refine ⟨if x ∈ L then (L.idxOf x : Int) else -1, ?_, ?_⟩
 ·refine ac Po mixed (by simp [Gt]) fun hh hargs => ?_
  simp [Gt]
  refine ar (D := Nat) (fun j => ⟨[(0, .sl 1 (al aN L) none .no), (1, .v (.int .i64 x)), (7, .v (.int .i64 (L.length : Int))), (8, .v (.int .i64 (j : Int)))], [], h, []⟩) (fun j => j <= L.length /\ x ∉ L.take j) (fun j => L.length - j) 0 ⟨by omega, by simp⟩ ?_ ?_
  ·simp [Leq, hh, af]
   done
  ·rintro j ⟨hj, hno⟩
   by_cases hlt : j < L.length
   ·have hw : IntKind.i64.wrap ((j : Int) + 1) = (j : Int) + 1 := wrap64 (by omega) (by omega)
    by_cases e : L[j] = x
    ·have hm : x ∈ L := e ▸ List.getElem_mem hlt
     have hi : L.idxOf x = j := by
      have hx := List.take_append_drop j L
      rw [<- hx, List.idxOf_append, if_neg hno, Q7 hlt, e, List.idxOf_cons_self, List.length_take]
      omega
     have e2 : x = L[j] := e.symm
     simp [hlt, aN, e, hh, hm, hi]
     done
    ·have e2 : ¬ x = L[j] := fun k => e k.symm
     have e3 : (x == L[j]) = false := by simpa using e2
     simp [hlt, aN, e2, e3, hw]
     refine ⟨j + 1, ⟨by omega, tY hlt hno e⟩, by omega, ?_⟩
     simp [Leq, hh, af]
     done
   ·have : j = L.length := by omega
    subst this
    rw [List.take_length] at hno
    simp [hh, hno]
    done
 ·by_cases hm : x ∈ L
  ·rw [if_pos hm]; simp [hm]
  ·rw [if_neg hm]; simp [hm]
theorem A3 {h : List (List AV)} {L : List Int} (hl : L.length <= 1000000) (x : Int) : ae Tryz.prog 190 [.sl 1 (al aN L) none .no, .v (.int .i64 x)] h (.v (.bool (L.contains x))) h [] := by
 refine ac Pc mixed (by simp [Gm]) fun hh hargs => ?_
 obtain ⟨n, k1, k2⟩ := A4 (h := h) hl x
 simp [Gm]
 refine aa (by simp) k1 ?_
 have k3 : decide (0 <= n) = decide (x ∈ L) := by rw [k2]; simp
 simp [hh, k3]
 done
end Go.Proofs.YtknohkmpficjgaaGreatDoor.Ax
namespace Go.Proofs.YtknohkmpficjgaaGreatDoor.Ax
open Go.RowKit Go By Dg
set_option maxRecDepth 10000
theorem ue (s : List UInt8) (hs : s.length <= 9223372036854775807) (h : List (List AV)) : ae Tryz.prog 129 [.v (.string (ah s))] h (.agg (ea (if bX s 99 = true then ⟨5, dB s 99, []⟩ else ⟨0, 0, []⟩))) h [] := by
 refine ac OI mixed (by simp [F1]) fun hh hargs => ?_
 simp [F1]
 refine aa (by simp) (AB s 99 hs _) ?_
 cases p : bX s 99 with
 | false => simp [hh, fq, af]
 | true => simp [hh, fq, af]
theorem zk (s : List UInt8) (hs : s.length <= 9223372036854775807) (h : List (List AV)) : ae Tryz.prog 130 [.v (.string (ah s))] h (.agg (ea (if mr s = true then ⟨8, 0, s⟩ else ⟨0, 0, []⟩))) h [] := by
 refine ac OJ mixed (by simp [CY]) fun hh hargs => ?_
 by_cases hl : s.length = 5
 ·have e1 : (s.length : Int) = 5 := by omega
  simp [CY, e1]
  refine aa (by simp) (ti s hs _) ?_
  have e2 : mr s = s.all CF := by unfold mr; rw [decide_eq_true hl, Bool.true_and]
  rw [e2]
  cases p : s.all CF with
  | false => simp [hh, fq, af]
  | true => simp [hh, fq, af]
 ·have e1 : ¬ (s.length : Int) = 5 := by omega
  have e2 : mr s = false := by unfold mr; rw [decide_eq_false hl, Bool.false_and]
  have e3 : ((s.length : Int) != 5) = true := by simpa using e1
  simp [CY, e1, e2, e3, hh, fq, af]
theorem DM (k : Int) (h : List (List AV)) : ae Tryz.prog 189 [.v (.int .i64 k)] h (.v (.string (ah (rv k)))) h [] := by
 refine ac Pb mixed (by simp [pP]) fun hh hargs => ?_
 unfold rv
 by_cases e2 : k = 2
 ·subst e2; simp [pP, hh, lB]
 by_cases e3 : k = 3
 ·subst e3; simp [pP, hh, je]
 by_cases e4 : k = 4
 ·subst e4; simp [pP, hh, qV]
 by_cases e5 : k = 5
 ·subst e5; simp [pP, hh, iw]
 by_cases e6 : k = 6
 ·subst e6; simp [pP, hh, qo]
 by_cases e7 : k = 7
 ·subst e7; simp [pP, hh, qN]
 by_cases e8 : k = 8
 ·subst e8; simp [pP, hh, dr]
 simp [pP, hh, e2, e3, e4, e5, e6, e7, e8]
def iy (s : List UInt8) : List Int -> Vb
 | [] => ⟨0, 0, []⟩
 | k :: r => if s = rv k then ⟨k, 0, []⟩ else iy s r
theorem Bx (s : List UInt8) (ks : List Int) (hk : ks.length <= 1000) (h : List (List AV)) : ae Tryz.prog 131 [.v (.string (ah s)), .sl 1 (al aN ks) none .no] h (.agg (ea (iy s ks))) h [] := by
 refine ac OK mixed (by simp [F2]) fun hh hargs => ?_
 simp [F2]
 refine ar (D := Nat) (fun j => ⟨[(0, .v (.string (ah s))), (4, .box h.length 0), (7, .sl 1 (al aN ks) none .no), (8, .v (.int .i64 (ks.length : Int))), (9, .v (.int .i64 (j : Int)))], [], h ++ [[.v (.int .i64 0), .v (.int .i64 0), .v (.string (ah []))]], []⟩) (fun j => j <= ks.length /\ iy s (ks.drop j) = iy s ks) (fun j => ks.length - j) 0 ⟨by omega, by simp⟩ ?_ ?_
 ·simp [Leq, hh, af]
 ·rintro j ⟨hj, hl⟩
  have hw : IntKind.i64.wrap ((j : Int) + 1) = (j : Int) + 1 := wrap64 (by omega) (by omega)
  by_cases hlt : j < ks.length
  ·rw [Q7 hlt, iy] at hl
   simp [hlt, aN]
   refine aa (by simp) (DM _ _) ?_
   by_cases e : s = rv ks[j]
   ·rw [if_pos e] at hl
    simp [<- e, <- hl, hh, fq, af]
   ·rw [if_neg e] at hl
    have e0 : (s == rv ks[j]) = false := by simpa using e
    simp [e, e0, hw]
    refine ⟨j + 1, ⟨by omega, hl⟩, by omega, ?_⟩
    simp [Leq, hh, af]
  ·have : j = ks.length := by omega
   subst this
   rw [List.drop_length] at hl
   simp [<- hl, iy, hh, fq, af]
theorem EX (v : Vb) (ks : List Int) (hk : ks.length <= 1000) (h : List (List AV)) : ae Tryz.prog 132 [.agg (ea v), .sl 1 (al aN ks) none .no] h (.v (.bool (ks.contains v.kind))) h [] := by
 refine ac KS mixed (by simp [Ao]) fun hh hargs => ?_
 simp [Ao]
 refine aa (by simp) (A3 (by omega) _) ?_
 simp [hh]
theorem iV (s : List UInt8) (hs : s.length <= 9223372036854775807) (h : List (List AV)) : ae Tryz.prog 76 [.v (.string (ah s))] h (.agg (ea (ej (fm s)))) h [] := by
 refine ac QY mixed (by simp [NM]) fun hh hargs => ?_
 simp [NM]
 refine aa (by simp) (Ib s hs _) ?_
 have hu := Cc s
 generalize fm s = u at hu ⊢
 simp
 refine aa (by simp) (mv u iw _) ?_
 cases hp : eE u iw with
 | true =>
  have e1 := xo hp
  have e2 : tl u iw = u.drop 7 := by unfold tl; rw [hp]; rfl
  rw [e2]
  have e3 : ej u = if bX (u.drop 7) 99 = true then ⟨5, dB (u.drop 7) 99, []⟩ else ⟨0, 0, []⟩ := by
   rw [show ej u = ej (iw ++ u.drop 7) from congrArg ej e1]
   exact D6 _
  rw [e3]
  simp
  refine aa (by simp) (ue (u.drop 7) (by simp; omega) _) ?_
  simp [hh, af]
 | false =>
  simp
  refine aa (by simp) (mv u dr _) ?_
  cases hq : eE u dr with
  | true =>
   have e1 := xo hq
   have e2 : tl u dr = u.drop 5 := by unfold tl; rw [hq]; rfl
   rw [e2]
   have e3 : ej u = if mr (u.drop 5) = true then ⟨8, 0, u.drop 5⟩ else ⟨0, 0, []⟩ := by
    rw [show ej u = ej (dr ++ u.drop 5) from congrArg ej e1]
    exact BO _
   rw [e3]
   simp
   refine aa (by simp) (zk (u.drop 5) (by simp; omega) _) ?_
   simp [hh, af]
  | false =>
   simp
   refine ao (Bx u [1, 2, 3, 4, 6, 7] (by simp) _) (by simp [aN]) (by simp) ?_
   have e : iy u [1, 2, 3, 4, 6, 7] = ej u := by
    rw [BN hp hq]
    simp [iy, rv]
   rw [e]
   simp [hh, af]
end Go.Proofs.YtknohkmpficjgaaGreatDoor.Ax
