/- The texts of functions over values without memory, as the kernel reckons them out of the program. -/
import Derived.Test.YtebggfghemblbaaQAxXr
import Derived.Test.YtebggfghemblbaaRows
namespace Go.Proofs.Ytebggfghemblbaa.Ax
open Go.RowKit Go By

end Go.Proofs.Ytebggfghemblbaa.Ax
