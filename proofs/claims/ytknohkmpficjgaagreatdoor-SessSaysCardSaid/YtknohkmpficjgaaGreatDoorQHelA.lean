import Derived.Test.YtknohkmpficjgaaGreatDoorQAxSb
import Derived.Lib.BytesEntry
import Derived.Test.YtknohkmpficjgaaGreatDoorQDigC
set_option linter.unusedSimpArgs false
set_option linter.unusedVariables false
namespace Go.Proofs.YtknohkmpficjgaaGreatDoor.Sc
open Go.RowKit Go By Go.Proofs.YtknohkmpficjgaaGreatDoor.Nm
def zeroAt : List UInt8 -> Option Nat
 | [] => none
 | b :: l => if b == 0 then some 0 else (zeroAt l).map (· + 1)
abbrev Sta := Option (List UInt8)
def kg : Sta -> Int -> Int
 | some xs, n => if A0 xs.length 0 n = 0 then KM xs 0 n.toNat else 0
 | none, _ => 0
def la : Sta -> Int -> Sta
 | some xs, n => if A0 xs.length 0 n = 0 then some (xs.drop n.toNat) else none
 | none, _ => none
def xZ : Sta -> Sta
 | some xs => match zeroAt xs with
  | some k => some (xs.drop (k + 1))
  | none => none
 | none => none
def Fg (xs : List UInt8) (n : Int) : Bool := decide (0 <= n) && decide (n <= xs.length)
def Lx : Sta -> Int -> List UInt8
 | some xs, n => if Fg xs n = true then xs.take n.toNat else []
 | none, _ => []
def Fh : Sta -> Int -> Sta
 | some xs, n => if Fg xs n = true then some (xs.drop n.toNat) else none
 | none, _ => none
end Go.Proofs.YtknohkmpficjgaaGreatDoor.Sc
namespace Go.Proofs.YtknohkmpficjgaaGreatDoor.He
open Go.RowKit Go By Go.Proofs.YtknohkmpficjgaaGreatDoor.Nm Sc
def textL : Sta -> List UInt8
 | some xs => match zeroAt xs with
  | some k => xs.take k
  | none => []
 | none => []
def lenS : Sta -> Nat
 | some xs => xs.length
 | none => 0
abbrev Pr := List UInt8 × List UInt8
inductive Prs : Sta -> List Pr -> Sta -> Prop
 | stop (st : Sta) : textL st = [] -> Prs st [] (xZ st)
 | step (st : Sta) (l : List Pr) (s : Sta) : textL st ≠ [] -> Prs (xZ (xZ st)) l s -> Prs st ((textL st, textL (xZ st)) :: l) s
def encT (t : List UInt8) : List UInt8 := t ++ [0]
end Go.Proofs.YtknohkmpficjgaaGreatDoor.He
