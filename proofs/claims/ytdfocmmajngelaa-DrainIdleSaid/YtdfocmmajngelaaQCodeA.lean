/- The texts of functions over values without memory, as the kernel reckons them out of the program. -/
import Derived.Test.YtdfocmmajngelaaQAxX
import Derived.Test.YtdfocmmajngelaaRows
namespace Go.Proofs.Ytdfocmmajngelaa.Ax
open Go.RowKit Go By

end Go.Proofs.Ytdfocmmajngelaa.Ax
