/- The contracts of the two functions that read a number from bytes (num.Get and the document's answer): at any bytes, any place, any size they give the same number and the same error. -/
import Derived.Test.YtdfocmmajngelaaRows
import Derived.WalkKit
import Derived.WalkSpells
import Derived.WalkLawsBesides
import Derived.Lib.Hide
import Derived.Test.YtdfocmmajngelaaQElems
/- The contracts of the functions that only compute: sizes, powers, which numbers are right, signs (package num and the document's answers). Conditions: none beyond each contract's own premises. -/
namespace Go.Proofs.Ytdfocmmajngelaa.Nm
set_option maxRecDepth 100000
open Go.RowKit Go

/-- Is it a size? -/
def szB (n : Int) : Bool := n == 1 || n == 2 || n == 4
end Go.Proofs.Ytdfocmmajngelaa.Nm
namespace Go.Proofs.Ytdfocmmajngelaa.Nm
open Go.RowKit Go By

/-- The error of a read: 1 (no size, or a place below 0), 3 (the bytes end too early), 0. -/
def getErr (len : Nat) (i size : Int) : Int := if szB size = false ∨ i < 0 then 1 else if i > len - size then 3 else 0
end Go.Proofs.Ytdfocmmajngelaa.Nm
