/- strings.Trim of blanks, strings.ContainsFunc of bytes that are none of a code, over values without memory. -/
import Derived.Test.YtlbgjlmokpkkeaaGreatDoorQAxX
import Derived.Test.YtlbgjlmokpkkeaaGreatDoorRows
import Derived.Test.YtlbgjlmokpkkeaaGreatDoorQAxSx
import Derived.Test.YtlbgjlmokpkkeaaGreatDoorQAxSo
import Derived.Lib.TrimU
/- The texts of functions over values without memory, as the kernel reckons them out of the program. -/
namespace Go.Proofs.YtlbgjlmokpkkeaaGreatDoor.Ax
open Go.RowKit Go By

end Go.Proofs.YtlbgjlmokpkkeaaGreatDoor.Ax
namespace Go.Proofs.YtlbgjlmokpkkeaaGreatDoor.Ax
set_option maxRecDepth 100000
open Go.RowKit Go By Dg
set_option linter.unusedSimpArgs false
set_option linter.unusedVariables false
set_option maxRecDepth 10000

/-! ### Blanks -/
/-! ### Codes -/
end Go.Proofs.YtlbgjlmokpkkeaaGreatDoor.Ax
