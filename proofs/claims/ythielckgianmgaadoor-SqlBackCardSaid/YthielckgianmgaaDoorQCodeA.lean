/- The texts of functions over values without memory, as the kernel reckons them out of the program. -/
import Derived.Test.YthielckgianmgaaDoorQAxX
import Derived.Test.YthielckgianmgaaDoorRows
namespace Go.Proofs.YthielckgianmgaaDoor.Ax
open Go.RowKit Go By

end Go.Proofs.YthielckgianmgaaDoor.Ax
