import Derived.Test.YtdfgljojemmlcaaGreatQAxSb
import Derived.Lib.BytesEntry
import Derived.Test.YtdfgljojemmlcaaGreatQDigC
set_option linter.unusedSimpArgs false
set_option linter.unusedVariables false
namespace Go.Proofs.YtdfgljojemmlcaaGreat.Sc
open Go.RowKit Go By Go.Proofs.YtdfgljojemmlcaaGreat.Nm
def zeroAt : List UInt8 -> Option Nat
 | [] => none
 | b :: l => if b == 0 then some 0 else (zeroAt l).map (· + 1)
abbrev Sta := Option (List UInt8)
def lc : Sta -> Int -> Int
 | some xs, n => if dJ xs.length 0 n = 0 then cJ xs 0 n.toNat else 0
 | none, _ => 0
def lL : Sta -> Int -> Sta
 | some xs, n => if dJ xs.length 0 n = 0 then some (xs.drop n.toNat) else none
 | none, _ => none
def wB : Sta -> Sta
 | some xs => match zeroAt xs with
  | some k => some (xs.drop (k + 1))
  | none => none
 | none => none
def Ei (xs : List UInt8) (n : Int) : Bool := decide (0 <= n) && decide (n <= xs.length)
def J4 : Sta -> Int -> List UInt8
 | some xs, n => if Ei xs n = true then xs.take n.toNat else []
 | none, _ => []
def Ee : Sta -> Int -> Sta
 | some xs, n => if Ei xs n = true then some (xs.drop n.toNat) else none
 | none, _ => none
end Go.Proofs.YtdfgljojemmlcaaGreat.Sc
namespace Go.Proofs.YtdfgljojemmlcaaGreat.He
open Go.RowKit Go By Go.Proofs.YtdfgljojemmlcaaGreat.Nm Sc
def textL : Sta -> List UInt8
 | some xs => match zeroAt xs with
  | some k => xs.take k
  | none => []
 | none => []
def lenS : Sta -> Nat
 | some xs => xs.length
 | none => 0
abbrev Pr := List UInt8 × List UInt8
inductive Prs : Sta -> List Pr -> Sta -> Prop
 | stop (st : Sta) : textL st = [] -> Prs st [] (wB st)
 | step (st : Sta) (l : List Pr) (s : Sta) : textL st ≠ [] -> Prs (wB (wB st)) l s -> Prs st ((textL st, textL (wB st)) :: l) s
def encT (t : List UInt8) : List UInt8 := t ++ [0]
end Go.Proofs.YtdfgljojemmlcaaGreat.He
