import Derived.Test.YtknohkmpficjgaaGreatDoorQAxXr
import Derived.Test.YtknohkmpficjgaaGreatDoorRows
import Derived.Test.YtknohkmpficjgaaGreatDoorQAxDg
import Derived.Test.YtknohkmpficjgaaGreatDoorQDigC
import Derived.Test.YtknohkmpficjgaaGreatDoorQAxRo
set_option linter.unusedSimpArgs false
set_option linter.unusedVariables false
namespace Go.Proofs.YtknohkmpficjgaaGreatDoor.Ax
open Go.RowKit Go By
def c128 : XFun := ⟨11, (.seq (.ops [⟨(some 4), (.assign (.const (.string (strB [])))), none⟩, ⟨(some 5), (.assign (.const (.bool false))), none⟩]) (.seq (.ops [⟨(some 6), (.move (.tmp 0)), none⟩, ⟨(some 7), (.move (.tmp 1)), none⟩, ⟨(some 8), (.call 185 [(.tmp 6), (.tmp 7)]), none⟩, ⟨(some 9), (.extract (.tmp 8) 0), none⟩, ⟨(some 10), (.extract (.tmp 8) 1), none⟩, ⟨(some 4), (.assign (.tmp 9)), none⟩, ⟨(some 5), (.assign (.tmp 10)), none⟩]) .ret)), [(.move (.tmp 4)), (.move (.tmp 5))]⟩
theorem k128 : cfun Tryz.prog 128 = some c128 := by kernel_rfl
def c185 : XFun := ⟨15, (.seq (.ops [⟨(some 4), (.assign (.const (.string (strB [])))), none⟩, ⟨(some 5), (.assign (.const (.bool false))), none⟩]) (.seq (.seq (.ops [⟨(some 6), (.move (.tmp 0)), none⟩, ⟨(some 7), (.move (.tmp 1)), none⟩, ⟨(some 8), (.call 211 [(.tmp 6), (.tmp 7)]), none⟩, ⟨(some 9), (.un .not (.tmp 8)), none⟩]) (.cond (.tmp 9) (.seq (.ops [⟨(some 10), (.move (.tmp 0)), none⟩, ⟨(some 4), (.assign (.tmp 10)), none⟩, ⟨(some 5), (.assign (.const (.bool false))), none⟩]) .ret) .skip)) (.seq (.ops [⟨(some 11), (.move (.tmp 0)), none⟩, ⟨(some 12), (.move (.tmp 1)), none⟩, ⟨(some 13), (.lenS (.tmp 12)), none⟩, ⟨(some 14), (.sliceS (.tmp 11) (some (.tmp 13)) none), none⟩, ⟨(some 4), (.assign (.tmp 14)), none⟩, ⟨(some 5), (.assign (.const (.bool true))), none⟩]) .ret))), [(.move (.tmp 4)), (.move (.tmp 5))]⟩
theorem k185 : cfun Tryz.prog 185 = some c185 := by kernel_rfl
def c211 : XFun := ⟨18, (.seq (.ops [⟨(some 4), (.assign (.const (.bool false))), none⟩]) (.seq (.ops [⟨(some 5), (.move (.tmp 0)), none⟩, ⟨(some 6), (.lenS (.tmp 5)), none⟩, ⟨(some 7), (.move (.tmp 1)), none⟩, ⟨(some 8), (.lenS (.tmp 7)), none⟩, ⟨(some 9), (.bin .geq (.tmp 6) (.tmp 8)), none⟩, ⟨(some 10), (.move (.tmp 9)), none⟩, ⟨(some 11), (.move (.tmp 0)), (some (10, true))⟩, ⟨(some 12), (.move (.tmp 1)), (some (10, true))⟩, ⟨(some 13), (.lenS (.tmp 12)), (some (10, true))⟩, ⟨(some 14), (.sliceS (.tmp 11) none (some (.tmp 13))), (some (10, true))⟩, ⟨(some 15), (.move (.tmp 1)), (some (10, true))⟩, ⟨(some 16), (.bin .eql (.tmp 14) (.tmp 15)), (some (10, true))⟩, ⟨(some 17), (.pick (.tmp 10) (.tmp 16) (.const (.bool false))), none⟩, ⟨(some 4), (.assign (.tmp 17)), none⟩]) .ret)), [(.move (.tmp 4))]⟩
theorem k211 : cfun Tryz.prog 211 = some c211 := by kernel_rfl
end Go.Proofs.YtknohkmpficjgaaGreatDoor.Ax
namespace Go.Proofs.YtknohkmpficjgaaGreatDoor.Ax
open Go.RowKit Go By YtknohkmpficjgaaGreatDoor.Nm Sc Dg
set_option maxRecDepth 10000
theorem dparse_c (s : List UInt8) (most : Int) (hs : s.length <= 9223372036854775807) (h : List (List AV)) : Contract Tryz.prog 186 [.v (.string (strB s)), .v (.int .i64 most)] h (.tup [.v (.int .i64 (parseV s most)), .v (.bool (parseB s most))]) h [] :=
 plain_quiet_t (l := [.string (strB s), .int .i64 most]) (r := [.int .i64 (parseV s most), .bool (parseB s most)]) (by kernel_rfl) h fun w => by
  have := parse_any (strB s) most w (by rw [strB_size]; unfold maxLen; omega)
  rwa [strB_data] at this
theorem strB_cut (xs : List UInt8) (i j : Nat) : (strB xs).extract i j = strB ((xs.drop i).take (j - i)) := by
 apply ByteArray.ext
 simp [strB, ByteArray.data_extract]
def hasP (s p : List UInt8) : Bool := decide (p.length <= s.length) && (s.take p.length == p)
theorem hasPrefix_c (s p : List UInt8) (h : List (List AV)) : Contract Tryz.prog 211 [.v (.string (strB s)), .v (.string (strB p))] h (.v (.bool (hasP s p))) h [] := by
 refine contract_of k211 mixed (by simp [c211]) fun hh hargs => ?_
 by_cases hl : p.length <= s.length
 ·have e : decide ((p.length : Int) <= (s.length : Int)) = true := by simpa using hl
  simp [c211, hasP, hl, hh, e, strB_cut]
 ·have e : decide ((p.length : Int) <= (s.length : Int)) = false := by simpa using hl
  simp [c211, hasP, hl, hh, e]
def cutP (s p : List UInt8) : List UInt8 := if hasP s p = true then s.drop p.length else s
theorem scutPrefix_c (s p : List UInt8) (h : List (List AV)) : Contract Tryz.prog 185 [.v (.string (strB s)), .v (.string (strB p))] h (.tup [.v (.string (strB (cutP s p))), .v (.bool (hasP s p))]) h [] := by
 refine contract_of k185 mixed (by simp [c185]) fun hh hargs => ?_
 simp [c185]
 refine xcall_self (by simp) (hasPrefix_c s p _) ?_
 cases hp : hasP s p with
 | false => simp [hh, cutP, hp]
 | true =>
  have hl : p.length <= s.length := by
   unfold hasP at hp
   simp at hp
   exact hp.1
  have ht : List.take (s.length - p.length) (s.drop p.length) = s.drop p.length := List.take_of_length_le (by simp)
  simp [hh, cutP, hp, strB_cut, ht, hl]
theorem cutPrefix_c (s p : List UInt8) (h : List (List AV)) : Contract Tryz.prog 128 [.v (.string (strB s)), .v (.string (strB p))] h (.tup [.v (.string (strB (cutP s p))), .v (.bool (hasP s p))]) h [] := by
 refine contract_of k128 mixed (by simp [c128]) fun hh hargs => ?_
 simp [c128]
 refine xcall_self (by simp) (scutPrefix_c s p _) ?_
 simp [hh]
end Go.Proofs.YtknohkmpficjgaaGreatDoor.Ax
namespace Go.Proofs.YtknohkmpficjgaaGreatDoor.Ax
open Go.RowKit Go By YtknohkmpficjgaaGreatDoor.Nm Dg
set_option maxRecDepth 10000
def ltrim : List UInt8 -> List UInt8
 | [] => []
 | x :: t => if x = 32 then ltrim t else x :: t
def rtrim : List UInt8 -> List UInt8
 | [] => []
 | x :: t => if rtrim t = [] /\ x = 32 then [] else x :: rtrim t
def trimL (s : List UInt8) : List UInt8 := rtrim (ltrim s)
theorem rtrim_snoc (l : List UInt8) : rtrim (l ++ [32]) = rtrim l := by
 induction l with
 | nil => simp [rtrim]
 | cons x t ih => simp only [List.cons_append, rtrim, ih]
theorem rtrim_end (l : List UInt8) {c : UInt8} (h : c ≠ 32) : rtrim (l ++ [c]) = l ++ [c] := by
 induction l with
 | nil => simp [rtrim, h]
 | cons x t ih => simp [rtrim, ih]
theorem trim_swap (s : List UInt8) : ltrim (rtrim s) = rtrim (ltrim s) := by
 induction s with
 | nil => rfl
 | cons x t ih =>
  by_cases hx : x = 32
  ·subst hx
   have e : ltrim (32 :: t) = ltrim t := by simp [ltrim]
   rw [e, <- ih]
   by_cases hr : rtrim t = []
   ·simp [rtrim, hr, ltrim]
   ·simp [rtrim, hr, ltrim]
  ·simp [rtrim, ltrim, hx]
theorem ltrim_len (s : List UInt8) : (ltrim s).length <= s.length := by
 induction s with
 | nil => simp [ltrim]
 | cons x t ih => unfold ltrim; split <;> simp <;> omega
theorem rtrim_len (s : List UInt8) : (rtrim s).length <= s.length := by
 induction s with
 | nil => simp [rtrim]
 | cons x t ih => unfold rtrim; split <;> simp <;> omega
theorem trim_len (s : List UInt8) : (trimL s).length <= s.length := Nat.le_trans (rtrim_len _) (ltrim_len _)
def beginT : List UInt8 := [98, 101, 103, 105, 110]
def commitT : List UInt8 := [99, 111, 109, 109, 105, 116]
def rollT : List UInt8 := [114, 111, 108, 108, 98, 97, 99, 107]
def echoT : List UInt8 := [101, 99, 104, 111]
def nextT : List UInt8 := [110, 101, 120, 116]
def selT : List UInt8 := [115, 101, 108, 101, 99, 116, 32]
def failT : List UInt8 := [102, 97, 105, 108, 32]
def cdB (c : UInt8) : Bool := (decide (48 <= c.toNat) && decide (c.toNat <= 57)) || (decide (65 <= c.toNat) && decide (c.toNat <= 90))
def codeB (s : List UInt8) : Bool := decide (s.length = 5) && s.all cdB
def sayQ (s : List UInt8) : Vb :=
 if s = [] then ⟨1, 0, []⟩ else if s = beginT then ⟨2, 0, []⟩ else if s = commitT then ⟨3, 0, []⟩ else if s = rollT then ⟨4, 0, []⟩ else if s = echoT then ⟨6, 0, []⟩ else if s = nextT then ⟨7, 0, []⟩
 else if hasP s selT = true /\ parseB (s.drop 7) 99 = true then ⟨5, parseV (s.drop 7) 99, []⟩
 else if hasP s failT = true /\ codeB (s.drop 5) = true then ⟨8, 0, s.drop 5⟩ else ⟨0, 0, []⟩
def wordQ (k : Int) : List UInt8 := if k = 2 then beginT else if k = 3 then commitT else if k = 4 then rollT else if k = 5 then selT else if k = 6 then echoT else if k = 7 then nextT else if k = 8 then failT else []
theorem hasP_eq {s p : List UInt8} (h : hasP s p = true) : s = p ++ s.drop p.length := by
 unfold hasP at h
 simp at h
 conv => lhs; rw [<- List.take_append_drop p.length s]
 rw [h.2]
theorem hasP_app (p s : List UInt8) : hasP (p ++ s) p = true := by
 unfold hasP
 simp
theorem snoc_of {s : List UInt8} (h : s ≠ []) : ∃ u c, s = u ++ [c] := ⟨s.dropLast, s.getLast h, (List.dropLast_concat_getLast h).symm⟩
theorem say_sel (t : List UInt8) : sayQ (selT ++ t) = if parseB t 99 = true then ⟨5, parseV t 99, []⟩ else ⟨0, 0, []⟩ := by
 have h1 : hasP (selT ++ t) selT = true := hasP_app _ _
 have h2 : hasP (selT ++ t) failT = false := by simp [hasP, selT, failT]
 have h3 : (selT ++ t).drop 7 = t := by simp [selT]
 unfold sayQ
 rw [h1, h2, h3]
 simp [selT, beginT, commitT, rollT, echoT, nextT]
theorem say_fail (t : List UInt8) : sayQ (failT ++ t) = if codeB t = true then ⟨8, 0, t⟩ else ⟨0, 0, []⟩ := by
 have h1 : hasP (failT ++ t) selT = false := by simp [hasP, selT, failT]
 have h2 : hasP (failT ++ t) failT = true := hasP_app _ _
 have h3 : (failT ++ t).drop 5 = t := by simp [failT]
 unfold sayQ
 rw [h1, h2, h3]
 simp [failT, beginT, commitT, rollT, echoT, nextT]
theorem say_else {u : List UInt8} (h1 : hasP u selT = false) (h2 : hasP u failT = false) : sayQ u = if u = [] then ⟨1, 0, []⟩ else if u = beginT then ⟨2, 0, []⟩ else if u = commitT then ⟨3, 0, []⟩ else if u = rollT then ⟨4, 0, []⟩ else if u = echoT then ⟨6, 0, []⟩ else if u = nextT then ⟨7, 0, []⟩ else ⟨0, 0, []⟩ := by
 unfold sayQ
 rw [h1, h2]
 simp
end Go.Proofs.YtknohkmpficjgaaGreatDoor.Ax
