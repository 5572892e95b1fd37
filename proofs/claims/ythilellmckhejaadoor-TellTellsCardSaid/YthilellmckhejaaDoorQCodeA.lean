/- The texts of functions over values without memory, as the kernel reckons them out of the program. -/
import Derived.Test.YthilellmckhejaaDoorQAxX
import Derived.Test.YthilellmckhejaaDoorRows
namespace Go.Proofs.YthilellmckhejaaDoor.Ax
open Go.RowKit Go By

end Go.Proofs.YthilellmckhejaaDoor.Ax
