import Derived.Test.YtknohkmpficjgaaGreatDoorQNumB
import Derived.Test.YtknohkmpficjgaaGreatDoorQNumD
import Derived.Test.YtknohkmpficjgaaGreatDoorQAxSb
import Derived.Lib.BytesEntry
import Derived.Test.YtknohkmpficjgaaGreatDoorQDigC
import Derived.Test.YtknohkmpficjgaaGreatDoorQElems
set_option linter.unusedSimpArgs false
set_option linter.unusedVariables false
namespace Go.Proofs.YtknohkmpficjgaaGreatDoor.Sc
open Go.RowKit Go By Go.Proofs.YtknohkmpficjgaaGreatDoor.Nm
def zeroAt : List UInt8 -> Option Nat
 | [] => none
 | b :: l => if b == 0 then some 0 else (zeroAt l).map (· + 1)
abbrev Sta := Option (List UInt8)
def Small : Sta -> Prop
 | some xs => xs.length <= 2000
 | none => True
def numV : Sta -> Int -> Int
 | some xs, n => if getErr xs.length 0 n = 0 then getI xs 0 n.toNat else 0
 | none, _ => 0
def numS : Sta -> Int -> Sta
 | some xs, n => if getErr xs.length 0 n = 0 then some (xs.drop n.toNat) else none
 | none, _ => none
def textS : Sta -> Sta
 | some xs => match zeroAt xs with
  | some k => some (xs.drop (k + 1))
  | none => none
 | none => none
theorem Small.text {st : Sta} (h : Small st) : Small (textS st) := by
 cases st with
 | none => trivial
 | some xs =>
  simp only [textS]
  split
  ·show (xs.drop _).length <= 2000
   have : xs.length <= 2000 := h
   rw [List.length_drop]; omega
  ·trivial
def takeB (xs : List UInt8) (n : Int) : Bool := decide (0 <= n) && decide (n <= xs.length)
def takeL : Sta -> Int -> List UInt8
 | some xs, n => if takeB xs n = true then xs.take n.toNat else []
 | none, _ => []
def takeS : Sta -> Int -> Sta
 | some xs, n => if takeB xs n = true then some (xs.drop n.toNat) else none
 | none, _ => none
theorem Small.take {st : Sta} (n : Int) (h : Small st) : Small (takeS st n) := by
 cases st with
 | none => trivial
 | some xs =>
  simp only [takeS]
  split
  ·show (xs.drop _).length <= 2000
   have : xs.length <= 2000 := h
   rw [List.length_drop]; omega
  ·trivial
end Go.Proofs.YtknohkmpficjgaaGreatDoor.Sc
namespace Go.Proofs.YtknohkmpficjgaaGreatDoor.He
open Go.RowKit Go By Go.Proofs.YtknohkmpficjgaaGreatDoor.Nm Sc
def textL : Sta -> List UInt8
 | some xs => match zeroAt xs with
  | some k => xs.take k
  | none => []
 | none => []
def lenS : Sta -> Nat
 | some xs => xs.length
 | none => 0
abbrev Pr := List UInt8 × List UInt8
inductive Prs : Sta -> List Pr -> Sta -> Prop
 | stop (st : Sta) : textL st = [] -> Prs st [] (textS st)
 | step (st : Sta) (l : List Pr) (s : Sta) : textL st ≠ [] -> Prs (textS (textS st)) l s -> Prs st ((textL st, textL (textS st)) :: l) s
def encT (t : List UInt8) : List UInt8 := t ++ [0]
end Go.Proofs.YtknohkmpficjgaaGreatDoor.He
