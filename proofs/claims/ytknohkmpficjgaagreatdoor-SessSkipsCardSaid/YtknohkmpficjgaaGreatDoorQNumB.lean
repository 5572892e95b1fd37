import Derived.Test.YtknohkmpficjgaaGreatDoorRows
import Derived.WalkKit
import Derived.WalkSpells
import Derived.WalkLawsBesides
import Derived.Lib.Hide
import Derived.Test.YtknohkmpficjgaaGreatDoorQElems
set_option linter.unusedSimpArgs false
set_option linter.unusedVariables false
namespace Go.Proofs.YtknohkmpficjgaaGreatDoor.Nm
set_option maxRecDepth 100000
open Go.RowKit Go
def szB (n : Int) : Bool := n == 1 || n == 2 || n == 4
def powI (n : Int) : Int := if n = 1 then 256 else if n = 2 then 65536 else 4294967296
def rightB (n size : Int) : Bool := szB size && (decide (-(powI size / 2) <= n) && decide (n < powI size))
def signedI (n size : Int) : Int := if szB size = true /\ powI size / 2 <= n /\ n < powI size then n - powI size else n
end Go.Proofs.YtknohkmpficjgaaGreatDoor.Nm
namespace Go.Proofs.YtknohkmpficjgaaGreatDoor.Nm
open Go.RowKit Go By
def getErr (len : Nat) (i size : Int) : Int := if szB size = false \/ i < 0 then 1 else if i > len - size then 3 else 0
end Go.Proofs.YtknohkmpficjgaaGreatDoor.Nm
