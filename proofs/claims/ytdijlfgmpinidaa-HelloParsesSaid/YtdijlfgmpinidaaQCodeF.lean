/- The texts of functions over values without memory, as the kernel reckons them out of the program. -/
import Derived.Test.YtdijlfgmpinidaaQAxX
import Derived.Test.YtdijlfgmpinidaaRows
namespace Go.Proofs.Ytdijlfgmpinidaa.Ax
open Go.RowKit Go By

end Go.Proofs.Ytdijlfgmpinidaa.Ax
