import Derived.Test.YtlbgjlmokpkkeaaGreatDoorQAxIb
import Derived.Sort.Walk0
import Derived.Sort.Row
import Derived.Sort.Grow
set_option linter.all false
namespace Go.Proofs.YtlbgjlmokpkkeaaGreatDoor.Ax
open Go.RowKit Go By Go.Sort
end Go.Proofs.YtlbgjlmokpkkeaaGreatDoor.Ax
