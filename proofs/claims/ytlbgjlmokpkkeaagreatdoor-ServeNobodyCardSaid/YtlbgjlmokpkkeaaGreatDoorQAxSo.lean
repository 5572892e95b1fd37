/- slices.Sort of numbers, in place, by the kit's contract. -/
import Derived.Shelf.GgClosure.StringsIndexFunc
import Derived.Test.YtlbgjlmokpkkeaaGreatDoorProg
import Derived.Test.YtlbgjlmokpkkeaaGreatDoorQAxIp
import Derived.Test.YtlbgjlmokpkkeaaGreatDoorQAxTr
/- Contracts of Go's library, laid at this program by the kit's shelf (plain words): strings_indexFunc. -/
namespace Go.Sort
end Go.Sort
namespace Go.Proofs
open Go.Shelf Go.RowKit Go.Lib Go.Sort
end Go.Proofs
namespace Go.Proofs.YtlbgjlmokpkkeaaGreatDoor.Ax
open Go.RowKit Go By Go.Sort
set_option linter.unusedSimpArgs false
set_option linter.unusedVariables false

end Go.Proofs.YtlbgjlmokpkkeaaGreatDoor.Ax
