import Derived.Test.YtknohkmpficjgaaGreatDoorQAxKc0
import Derived.Test.YtknohkmpficjgaaGreatDoorQAxCy
import Derived.Test.YtknohkmpficjgaaGreatDoorQAxRo
import Derived.Test.YtknohkmpficjgaaGreatDoorQHelA
set_option linter.unusedSimpArgs false
set_option linter.unusedVariables false
namespace Go.Proofs.YtknohkmpficjgaaGreatDoor.Ax
open Go.RowKit Go By YtknohkmpficjgaaGreatDoor.Nm Sc Dg
set_option maxRecDepth 10000
def unsB (size n : Int) : Bool := !decide (n < 0) && rightB n size
def sgnB (size n : Int) : Bool := rightB n size && signedI n size == n
def cellB (c : Cl) : Bool := decide (c.2.length <= 1048576) && !(c.1 && decide (0 < c.2.length))
theorem put_len (n size : Int) (h4 : size <= 4) (xs : List UInt8) : (putL xs n size).length <= xs.length + 4 := by
 unfold putL
 split
 ·simp [putTo_length]; omega
 ·omega
def textsL (l : List (List UInt8)) : List UInt8 := l.flatMap He.encT
def listL {α : Type} (e : α -> List UInt8) (l : List α) : List UInt8 := putL [] l.length 2 ++ l.flatMap e
def numE (size : Int) (n : Int) : List UInt8 := putL [] n size
def cellE (c : Cl) : List UInt8 := if c.1 = true then putL [] 4294967295 4 else putL [] c.2.length 4 ++ c.2
theorem cellE_null (b : List UInt8) : cellE (true, b) = putL [] 4294967295 4 := if_pos rfl
theorem cellE_bytes (b : List UInt8) : cellE (false, b) = putL [] b.length 4 ++ b := if_neg (by simp)
end Go.Proofs.YtknohkmpficjgaaGreatDoor.Ax
