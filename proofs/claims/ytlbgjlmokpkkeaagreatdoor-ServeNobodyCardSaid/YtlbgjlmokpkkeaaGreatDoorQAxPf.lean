/- remudaplain.Front, .Fronts: messages that are short enough to be tried, over values without memory. -/
import Derived.Test.YtlbgjlmokpkkeaaGreatDoorQAxIb
import Derived.Test.YtlbgjlmokpkkeaaGreatDoorQAxKc0
import Derived.Test.YtlbgjlmokpkkeaaGreatDoorQAxRo
import Derived.Test.YtlbgjlmokpkkeaaGreatDoorQAxGc
import Derived.Test.YtlbgjlmokpkkeaaGreatDoorQAxFr
import Derived.Test.YtlbgjlmokpkkeaaGreatDoorQCodeA
/- The document's answers: the same numbers, the same cells. -/
namespace Go.Proofs.YtlbgjlmokpkkeaaGreatDoor.Ax
open Go.RowKit Go By
set_option linter.unusedSimpArgs false
set_option linter.unusedVariables false
set_option maxRecDepth 10000

end Go.Proofs.YtlbgjlmokpkkeaaGreatDoor.Ax
/- The document's answers for front, over values without memory: checks, what is the same. -/
namespace Go.Proofs.YtlbgjlmokpkkeaaGreatDoor.Ax
open Go.RowKit Go By YtlbgjlmokpkkeaaGreatDoor.Nm Sc Dg
set_option linter.unusedSimpArgs false
set_option linter.unusedVariables false
set_option maxRecDepth 10000

end Go.Proofs.YtlbgjlmokpkkeaaGreatDoor.Ax
namespace Go.Proofs.YtlbgjlmokpkkeaaGreatDoor.Ax
open Go.RowKit Go By YtlbgjlmokpkkeaaGreatDoor.Nm Sc Dg
set_option linter.unusedSimpArgs false
set_option linter.unusedVariables false
set_option maxRecDepth 10000

end Go.Proofs.YtlbgjlmokpkkeaaGreatDoor.Ax
