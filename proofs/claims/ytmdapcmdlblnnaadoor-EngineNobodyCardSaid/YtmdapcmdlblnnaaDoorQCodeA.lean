/- The texts of functions over values without memory, as the kernel reckons them out of the program. -/
import Derived.Test.YtmdapcmdlblnnaaDoorQAxXr
import Derived.Test.YtmdapcmdlblnnaaDoorRows
namespace Go.Proofs.YtmdapcmdlblnnaaDoor.Ax
open Go.RowKit Go By

end Go.Proofs.YtmdapcmdlblnnaaDoor.Ax
