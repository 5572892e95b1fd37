import Derived.Test.YtdfgljojemmlcaaGreatQNumB
import Derived.Test.YtdfgljojemmlcaaGreatQNumD
import Derived.Test.YtdfgljojemmlcaaGreatQAxSb
import Derived.Lib.BytesEntry
import Derived.Test.YtdfgljojemmlcaaGreatQDigC
import Derived.Test.YtdfgljojemmlcaaGreatQElems
set_option linter.ambiguousOpen false
namespace Go.Proofs.YtdfgljojemmlcaaGreat.Sc
open Go.RowKit Go By Nm
def zeroAt : List UInt8 -> Option Nat
 | [] => none
 | b :: l => if b == 0 then some 0 else (zeroAt l).map (· + 1)
abbrev Sta := Option (List UInt8)
def numV : Sta -> Int -> Int
 | some xs, n => if getErr xs.length 0 n = 0 then getI xs 0 n.toNat else 0
 | none, _ => 0
def numS : Sta -> Int -> Sta
 | some xs, n => if getErr xs.length 0 n = 0 then some (xs.drop n.toNat) else none
 | none, _ => none
def textS : Sta -> Sta
 | some xs => match zeroAt xs with
  | some k => some (xs.drop (k + 1))
  | none => none
 | none => none
def takeB (xs : List UInt8) (n : Int) : Bool := decide (0 <= n) && decide (n <= xs.length)
def takeL : Sta -> Int -> List UInt8
 | some xs, n => if takeB xs n = true then xs.take n.toNat else []
 | none, _ => []
def takeS : Sta -> Int -> Sta
 | some xs, n => if takeB xs n = true then some (xs.drop n.toNat) else none
 | none, _ => none
end Go.Proofs.YtdfgljojemmlcaaGreat.Sc
namespace Go.Proofs.YtdfgljojemmlcaaGreat.He
open Go.RowKit Go By Nm Sc
def textL : Sta -> List UInt8
 | some xs => match zeroAt xs with
  | some k => xs.take k
  | none => []
 | none => []
def lenS : Sta -> Nat
 | some xs => xs.length
 | none => 0
abbrev Pr := List UInt8 × List UInt8
inductive Prs : Sta -> List Pr -> Sta -> Prop
 | stop (st : Sta) : textL st = [] -> Prs st [] (textS st)
 | step (st : Sta) (l : List Pr) (s : Sta) : textL st ≠ [] -> Prs (textS (textS st)) l s -> Prs st ((textL st, textL (textS st)) :: l) s
def encT (t : List UInt8) : List UInt8 := t ++ [0]
end Go.Proofs.YtdfgljojemmlcaaGreat.He
