/- A row is put, blocks are made: nothing else turns. No program is named here. -/
import Derived.Test.YtlbgjlmokpkkeaaGreatDoorQAxIb
import Derived.Sort.Walk0
import Derived.Sort.Row
import Derived.Sort.Grow
namespace Go.Proofs.YtlbgjlmokpkkeaaGreatDoor.Ax
open Go.RowKit Go By Go.Sort
set_option linter.unusedSimpArgs false
set_option linter.unusedVariables false

end Go.Proofs.YtlbgjlmokpkkeaaGreatDoor.Ax
