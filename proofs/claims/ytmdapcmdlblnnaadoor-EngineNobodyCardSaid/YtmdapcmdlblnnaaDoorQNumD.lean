/- The contracts of the two functions that put a number behind bytes (num.Put and the document's answer). -/
import Derived.Test.YtmdapcmdlblnnaaDoorRows
import Derived.Test.YtmdapcmdlblnnaaDoorQElems
import Derived.Test.YtmdapcmdlblnnaaDoorQNumB
/- The contract of bytes.Equal at slices that hold bytes, and what it means that a call made new bytes. -/
namespace Go.Proofs.YtmdapcmdlblnnaaDoor.Nm
open Go.RowKit Go By

end Go.Proofs.YtmdapcmdlblnnaaDoor.Nm
namespace Go.Proofs.YtmdapcmdlblnnaaDoor.Nm
open Go.RowKit Go By

end Go.Proofs.YtmdapcmdlblnnaaDoor.Nm
