/- Plain words on first messages: what pairs of texts stand in bytes, what a first message's body says, and the bytes of one. No program is named here. -/
import Derived.Test.YtofkddajlgebjaaGreatQNumB
import Derived.Test.YtofkddajlgebjaaGreatQNumD
import Derived.Test.YtofkddajlgebjaaGreatQAxSb
import Derived.Lib.BytesEntry
import Derived.Test.YtofkddajlgebjaaGreatQDigC
import Derived.Test.YtofkddajlgebjaaGreatQElems
/- The contracts of package scan's calls that ask (Bad, Left, Done) and of its fail, at a scan that a call made. -/
namespace Go.Proofs.YtofkddajlgebjaaGreat.Sc
open Go.RowKit Go By Nm

end Go.Proofs.YtofkddajlgebjaaGreat.Sc
/- The contracts of package scan's Take, Num and Text, at a scan that a call made. -/
namespace Go.Proofs.YtofkddajlgebjaaGreat.Sc
open Go.RowKit Go By Nm

/-- Where the first byte 0 stands. -/
def zeroAt : List UInt8 → Option Nat
  | [] => none
  | b :: l => if b == 0 then some 0 else (zeroAt l).map (· + 1)
end Go.Proofs.YtofkddajlgebjaaGreat.Sc
/- The contracts of scan.New and of the document's answer for layer 3 (New, Num, Text, Take, Left, Done), at a scan that a call made. -/
namespace Go.Proofs.YtofkddajlgebjaaGreat.Sc
open Go.RowKit Go By Nm

end Go.Proofs.YtofkddajlgebjaaGreat.Sc
/- The walks of ScanNobody and ScanAll: each returns true at every input, and writes nothing that was there. -/
namespace Go.Proofs.YtofkddajlgebjaaGreat.Sc
open Go.RowKit Go By Nm

end Go.Proofs.YtofkddajlgebjaaGreat.Sc
/- Package scan's calls and the document's answers for layer 3, in one form for a scan that is good and one that is bad: what is answered, and what is left. -/
namespace Go.Proofs.YtofkddajlgebjaaGreat.Sc
open Go.RowKit Go By Nm

/-- A scan's state: the bytes that are left, or bad. -/
abbrev Sta := Option (List UInt8)
def Small : Sta → Prop
  | some xs => xs.length ≤ 2000
  | none => True

def numV : Sta → Int → Int
  | some xs, n => if getErr xs.length 0 n = 0 then getI xs 0 n.toNat else 0
  | none, _ => 0
def numS : Sta → Int → Sta
  | some xs, n => if getErr xs.length 0 n = 0 then some (xs.drop n.toNat) else none
  | none, _ => none
def textS : Sta → Sta
  | some xs => match zeroAt xs with
    | some k => some (xs.drop (k + 1))
    | none => none
  | none => none
theorem Small.text {st : Sta} (h : Small st) : Small (textS st) := by
  cases st with
  | none => trivial
  | some xs =>
    simp only [textS]
    split
    · show (xs.drop _).length ≤ 2000
      have : xs.length ≤ 2000 := h
      rw [List.length_drop]; omega
    · trivial

def takeB (xs : List UInt8) (n : Int) : Bool := decide (0 ≤ n) && decide (n ≤ xs.length)
def takeL : Sta → Int → List UInt8
  | some xs, n => if takeB xs n = true then xs.take n.toNat else []
  | none, _ => []
def takeS : Sta → Int → Sta
  | some xs, n => if takeB xs n = true then some (xs.drop n.toNat) else none
  | none, _ => none
theorem Small.take {st : Sta} (n : Int) (h : Small st) : Small (takeS st n) := by
  cases st with
  | none => trivial
  | some xs =>
    simp only [takeS]
    split
    · show (xs.drop _).length ≤ 2000
      have : xs.length ≤ 2000 := h
      rw [List.length_drop]; omega
    · trivial

end Go.Proofs.YtofkddajlgebjaaGreat.Sc
namespace Go.Proofs.YtofkddajlgebjaaGreat.He
open Go.RowKit Go By Nm Sc

/-- The text that is read in a state. -/
def textL : Sta → List UInt8
  | some xs => match zeroAt xs with
    | some k => xs.take k
    | none => []
  | none => []
def lenS : Sta → Nat
  | some xs => xs.length
  | none => 0
/-- A pair: its name and its value. -/
abbrev Pr := List UInt8 × List UInt8
/-- The pairs that are read from a state on, up to an empty name, and the state behind it. -/
inductive Prs : Sta → List Pr → Sta → Prop
  | stop (st : Sta) : textL st = [] → Prs st [] (textS st)
  | step (st : Sta) (l : List Pr) (s : Sta) : textL st ≠ [] → Prs (textS (textS st)) l s → Prs st ((textL st, textL (textS st)) :: l) s
/-- A text with its byte 0, pairs with the empty name behind them. -/
def encT (t : List UInt8) : List UInt8 := t ++ [0]
end Go.Proofs.YtofkddajlgebjaaGreat.He
