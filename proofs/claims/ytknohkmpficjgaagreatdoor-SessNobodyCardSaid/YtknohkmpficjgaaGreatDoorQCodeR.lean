/- The texts of functions over values without memory, as the kernel reckons them out of the program. -/
import Derived.Test.YtknohkmpficjgaaGreatDoorQAxXr
import Derived.Test.YtknohkmpficjgaaGreatDoorRows
namespace Go.Proofs.YtknohkmpficjgaaGreatDoor.Ax
open Go.RowKit Go By

end Go.Proofs.YtknohkmpficjgaaGreatDoor.Ax
