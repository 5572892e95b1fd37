/- The contracts of what package wire writes, over values without memory. -/
import Derived.Test.YtknohkmpficjgaaGreatDoorQAxKc0
import Derived.Test.YtknohkmpficjgaaGreatDoorQAxCy
import Derived.Test.YtknohkmpficjgaaGreatDoorQAxRo
import Derived.Test.YtknohkmpficjgaaGreatDoorQHelA
/- The contracts of package wire's checks and of what it writes, over values without memory. -/
namespace Go.Proofs.YtknohkmpficjgaaGreatDoor.Ax
open Go.RowKit Go By YtknohkmpficjgaaGreatDoor.Nm Sc Dg
set_option linter.unusedSimpArgs false
set_option maxRecDepth 10000

/-! ### bytes.Equal -/
/-! ### Checks -/
def unsB (size n : Int) : Bool := !decide (n < 0) && rightB n size
def sgnB (size n : Int) : Bool := rightB n size && signedI n size == n
/-- A cell may be said. -/
def cellB (c : Cl) : Bool := decide (c.2.length ≤ 1048576) && !(c.1 && decide (0 < c.2.length))
end Go.Proofs.YtknohkmpficjgaaGreatDoor.Ax
namespace Go.Proofs.YtknohkmpficjgaaGreatDoor.Ax
open Go.RowKit Go By YtknohkmpficjgaaGreatDoor.Nm Sc Dg
set_option linter.unusedSimpArgs false
set_option linter.unusedVariables false
set_option maxRecDepth 10000

theorem put_len (n size : Int) (h4 : size ≤ 4) (xs : List UInt8) : (putL xs n size).length ≤ xs.length + 4 := by
  unfold putL
  split
  · simp [putTo_length]; omega
  · omega
/-! ### Texts -/
/-! ### Lists -/
end Go.Proofs.YtknohkmpficjgaaGreatDoor.Ax
