/- The texts of functions over values without memory, as the kernel reckons them out of the program. -/
import Derived.Test.YtknohkmpficjgaaQAxX
import Derived.Test.YtknohkmpficjgaaRows
namespace Go.Proofs.Ytknohkmpficjgaa.Ax
open Go.RowKit Go By

end Go.Proofs.Ytknohkmpficjgaa.Ax
