/- The texts of functions over values without memory, as the kernel reckons them out of the program. -/
import Derived.Test.YtpogpofmakcodaaQAxX
import Derived.Test.YtpogpofmakcodaaRows
namespace Go.Proofs.Ytpogpofmakcodaa.Ax
open Go.RowKit Go By

end Go.Proofs.Ytpogpofmakcodaa.Ax
