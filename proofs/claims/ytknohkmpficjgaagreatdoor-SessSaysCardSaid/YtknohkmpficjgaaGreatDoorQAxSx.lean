import Derived.Test.YtknohkmpficjgaaGreatDoorQAxDg
set_option linter.unusedSimpArgs false
set_option linter.unusedVariables false
namespace Go.Proofs.YtknohkmpficjgaaGreatDoor.Ax
open Go.RowKit Go By
def F0:XFun:=⟨11,.seq (.ops [oK 4 (.string (ah [])),oK 5 (.bool false)]) (.seq (.ops [oM 6 0,oM 7 1,oC 8 185 [6,7],oE 9 8 0,oE 10 8 1,oA 4 9,oA 5 10]) .ret),[.move (.tmp 4),.move (.tmp 5)]⟩
theorem OH : ai Tryz.prog 128 = some F0 := by kernel_rfl
def Gk:XFun:=⟨15,.seq (.ops [oK 4 (.string (ah [])),oK 5 (.bool false)]) (.seq (.seq (.ops [oM 6 0,oM 7 1,oC 8 211 [6,7],oV 9 8]) (.cond (.tmp 9) (.seq (.ops [oM 10 0,oA 4 10,oK 5 (.bool false)]) .ret) .skip)) (.seq (.ops [oM 11 0,oM 12 1,oX 13 (.lenS (.tmp 12)),oX 14 (.sliceS (.tmp 11) (some (.tmp 13)) none),oA 4 14,oK 5 (.bool true)]) .ret)),[.move (.tmp 4),.move (.tmp 5)]⟩
theorem O9 : ai Tryz.prog 185 = some Gk := by kernel_rfl
def C6:XFun:=⟨18,.seq (.ops [oK 4 (.bool false)]) (.seq (.ops [oM 5 0,oX 6 (.lenS (.tmp 5)),oM 7 1,oX 8 (.lenS (.tmp 7)),oB 9 .geq 6 8,oM 10 9,oG 10 true (oM 11 0),oG 10 true (oM 12 1),oG 10 true (oX 13 (.lenS (.tmp 12))),oG 10 true (oX 14 (.sliceS (.tmp 11) none (some (.tmp 13)))),oG 10 true (oM 15 1),oG 10 true (oB 16 .eql 14 15),oT 17 10 16,oA 4 17]) .ret),[.move (.tmp 4)]⟩
theorem Pm : ai Tryz.prog 211 = some C6 := by kernel_rfl
end Go.Proofs.YtknohkmpficjgaaGreatDoor.Ax
namespace Go.Proofs.YtknohkmpficjgaaGreatDoor.Ax
open Go.RowKit Go By YtknohkmpficjgaaGreatDoor.Nm Sc Dg
set_option maxRecDepth 10000
theorem AB (s : List UInt8) (most : Int) (hs : s.length <= 9223372036854775807) (h : List (List AV)) : ae Tryz.prog 186 [.v (.string (ah s)), .v (.int .i64 most)] h (.tup [.v (.int .i64 (dB s most)), .v (.bool (bX s most))]) h [] :=
 qa (l := [.string (ah s), .int .i64 most]) (r := [.int .i64 (dB s most), .bool (bX s most)]) (by kernel_rfl) h fun w => by
  have := zi (ah s) most w (by rw [cY]; unfold maxLen; omega)
  rwa [jl] at this
theorem lq (xs : List UInt8) (i j : Nat) : (ah xs).extract i j = ah ((xs.drop i).take (j - i)) := by
 apply ByteArray.ext
 simp [ah, ByteArray.data_extract]
def eE (s p : List UInt8) : Bool := decide (p.length <= s.length) && (s.take p.length == p)
theorem tK (s p : List UInt8) (h : List (List AV)) : ae Tryz.prog 211 [.v (.string (ah s)), .v (.string (ah p))] h (.v (.bool (eE s p))) h [] := by
 refine ac Pm mixed (by simp [C6]) fun hh hargs => ?_
 by_cases hl : p.length <= s.length
 ·have e : decide ((p.length : Int) <= (s.length : Int)) = true := by simpa using hl
  simp [C6, eE, hl, hh, e, lq]
 ·have e : decide ((p.length : Int) <= (s.length : Int)) = false := by simpa using hl
  simp [C6, eE, hl, hh, e]
def tl (s p : List UInt8) : List UInt8 := if eE s p = true then s.drop p.length else s
theorem sz (s p : List UInt8) (h : List (List AV)) : ae Tryz.prog 185 [.v (.string (ah s)), .v (.string (ah p))] h (.tup [.v (.string (ah (tl s p))), .v (.bool (eE s p))]) h [] := by
 refine ac O9 mixed (by simp [Gk]) fun hh hargs => ?_
 simp [Gk]
 refine aa (by simp) (tK s p _) ?_
 cases hp : eE s p with
 | false => simp [hh, tl, hp]
 | true =>
  have hl : p.length <= s.length := by
   unfold eE at hp
   simp at hp
   exact hp.1
  have ht : List.take (s.length - p.length) (s.drop p.length) = s.drop p.length := List.take_of_length_le (by simp)
  simp [hh, tl, hp, lq, ht, hl]
theorem mv (s p : List UInt8) (h : List (List AV)) : ae Tryz.prog 128 [.v (.string (ah s)), .v (.string (ah p))] h (.tup [.v (.string (ah (tl s p))), .v (.bool (eE s p))]) h [] := by
 refine ac OH mixed (by simp [F0]) fun hh hargs => ?_
 simp [F0]
 refine aa (by simp) (sz s p _) ?_
 simp [hh]
end Go.Proofs.YtknohkmpficjgaaGreatDoor.Ax
namespace Go.Proofs.YtknohkmpficjgaaGreatDoor.Ax
open Go.RowKit Go By YtknohkmpficjgaaGreatDoor.Nm Dg
set_option maxRecDepth 10000
def cW : List UInt8 -> List UInt8
 | [] => []
 | x :: t => if x = 32 then cW t else x :: t
def bV : List UInt8 -> List UInt8
 | [] => []
 | x :: t => if bV t = [] /\ x = 32 then [] else x :: bV t
def fm (s : List UInt8) : List UInt8 := bV (cW s)
theorem wi (l : List UInt8) : bV (l ++ [32]) = bV l := by
 induction l with
 | nil => simp [bV]
 | cons x t ih => simp only [List.cons_append, bV, ih]
theorem zr (l : List UInt8) {c : UInt8} (h : c ≠ 32) : bV (l ++ [c]) = l ++ [c] := by
 induction l with
 | nil => simp [bV, h]
 | cons x t ih => simp [bV, ih]
theorem zI (s : List UInt8) : cW (bV s) = bV (cW s) := by
 induction s with
 | nil => rfl
 | cons x t ih =>
  by_cases hx : x = 32
  ·subst hx
   have e : cW (32 :: t) = cW t := by simp [cW]
   rw [e, <- ih]
   by_cases hr : bV t = []
   ·simp [bV, hr, cW]
   ·simp [bV, hr, cW]
  ·simp [bV, cW, hx]
theorem zb (s : List UInt8) : (cW s).length <= s.length := by
 induction s with
 | nil => simp [cW]
 | cons x t ih => unfold cW; split <;> simp <;> omega
theorem qY (s : List UInt8) : (bV s).length <= s.length := by
 induction s with
 | nil => simp [bV]
 | cons x t ih => unfold bV; split <;> simp <;> omega
theorem Cc (s : List UInt8) : (fm s).length <= s.length := Nat.le_trans (qY _) (zb _)
def lB : List UInt8 := [98, 101, 103, 105, 110]
def je : List UInt8 := [99, 111, 109, 109, 105, 116]
def qV : List UInt8 := [114, 111, 108, 108, 98, 97, 99, 107]
def qo : List UInt8 := [101, 99, 104, 111]
def qN : List UInt8 := [110, 101, 120, 116]
def iw : List UInt8 := [115, 101, 108, 101, 99, 116, 32]
def dr : List UInt8 := [102, 97, 105, 108, 32]
def CF (c : UInt8) : Bool := (decide (48 <= c.toNat) && decide (c.toNat <= 57)) || (decide (65 <= c.toNat) && decide (c.toNat <= 90))
def mr (s : List UInt8) : Bool := decide (s.length = 5) && s.all CF
def ej (s : List UInt8) : Vb :=
 if s = [] then ⟨1, 0, []⟩ else if s = lB then ⟨2, 0, []⟩ else if s = je then ⟨3, 0, []⟩ else if s = qV then ⟨4, 0, []⟩ else if s = qo then ⟨6, 0, []⟩ else if s = qN then ⟨7, 0, []⟩
 else if eE s iw = true /\ bX (s.drop 7) 99 = true then ⟨5, dB (s.drop 7) 99, []⟩
 else if eE s dr = true /\ mr (s.drop 5) = true then ⟨8, 0, s.drop 5⟩ else ⟨0, 0, []⟩
def rv (k : Int) : List UInt8 := if k = 2 then lB else if k = 3 then je else if k = 4 then qV else if k = 5 then iw else if k = 6 then qo else if k = 7 then qN else if k = 8 then dr else []
theorem xo {s p : List UInt8} (h : eE s p = true) : s = p ++ s.drop p.length := by
 unfold eE at h
 simp at h
 conv => lhs; rw [<- List.take_append_drop p.length s]
 rw [h.2]
theorem tJ (p s : List UInt8) : eE (p ++ s) p = true := by
 unfold eE
 simp
theorem Ea {s : List UInt8} (h : s ≠ []) : ∃ u c, s = u ++ [c] := ⟨s.dropLast, s.getLast h, (List.dropLast_concat_getLast h).symm⟩
theorem D6 (t : List UInt8) : ej (iw ++ t) = if bX t 99 = true then ⟨5, dB t 99, []⟩ else ⟨0, 0, []⟩ := by
 have h1 : eE (iw ++ t) iw = true := tJ _ _
 have h2 : eE (iw ++ t) dr = false := by simp [eE, iw, dr]
 have h3 : (iw ++ t).drop 7 = t := by simp [iw]
 unfold ej
 rw [h1, h2, h3]
 simp [iw, lB, je, qV, qo, qN]
theorem BO (t : List UInt8) : ej (dr ++ t) = if mr t = true then ⟨8, 0, t⟩ else ⟨0, 0, []⟩ := by
 have h1 : eE (dr ++ t) iw = false := by simp [eE, iw, dr]
 have h2 : eE (dr ++ t) dr = true := tJ _ _
 have h3 : (dr ++ t).drop 5 = t := by simp [dr]
 unfold ej
 rw [h1, h2, h3]
 simp [dr, lB, je, qV, qo, qN]
theorem BN {u : List UInt8} (h1 : eE u iw = false) (h2 : eE u dr = false) : ej u = if u = [] then ⟨1, 0, []⟩ else if u = lB then ⟨2, 0, []⟩ else if u = je then ⟨3, 0, []⟩ else if u = qV then ⟨4, 0, []⟩ else if u = qo then ⟨6, 0, []⟩ else if u = qN then ⟨7, 0, []⟩ else ⟨0, 0, []⟩ := by
 unfold ej
 rw [h1, h2]
 simp
end Go.Proofs.YtknohkmpficjgaaGreatDoor.Ax
