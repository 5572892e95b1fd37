/- The texts of functions over values without memory, as the kernel reckons them out of the program. -/
import Derived.Test.YthilellmckhejaaQAxX
import Derived.Test.YthilellmckhejaaRows
namespace Go.Proofs.Ythilellmckhejaa.Ax
open Go.RowKit Go By

end Go.Proofs.Ythilellmckhejaa.Ax
