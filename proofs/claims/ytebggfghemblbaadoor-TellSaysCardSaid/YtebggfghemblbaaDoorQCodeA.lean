/- The texts of functions over values without memory, as the kernel reckons them out of the program. -/
import Derived.Test.YtebggfghemblbaaDoorQAxHs
import Derived.Test.YtebggfghemblbaaDoorRows
namespace Go.Proofs.YtebggfghemblbaaDoor.Ax
open Go.RowKit Go By

end Go.Proofs.YtebggfghemblbaaDoor.Ax
