/- The texts of functions over values without memory, as the kernel reckons them out of the program. -/
import Derived.Test.YtplbobfbdlapcaaQAxX
import Derived.Test.YtplbobfbdlapcaaRows
namespace Go.Proofs.Ytplbobfbdlapcaa.Ax
open Go.RowKit Go By

end Go.Proofs.Ytplbobfbdlapcaa.Ax
