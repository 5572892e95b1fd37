/- The texts of functions over values without memory, as the kernel reckons them out of the program. -/
import Derived.Test.YtngkdlfgmpflnaaQAxXr
import Derived.Test.YtngkdlfgmpflnaaRows
namespace Go.Proofs.Ytngkdlfgmpflnaa.Ax
open Go.RowKit Go By

end Go.Proofs.Ytngkdlfgmpflnaa.Ax
