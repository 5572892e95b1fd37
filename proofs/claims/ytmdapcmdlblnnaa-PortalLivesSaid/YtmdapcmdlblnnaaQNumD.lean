/- The contracts of the two functions that put a number behind bytes (num.Put and the document's answer). -/
import Derived.Test.YtmdapcmdlblnnaaRows
import Derived.Test.YtmdapcmdlblnnaaQElems
import Derived.Test.YtmdapcmdlblnnaaQNumB
/- The contract of bytes.Equal at slices that hold bytes, and what it means that a call made new bytes. -/
namespace Go.Proofs.Ytmdapcmdlblnnaa.Nm
open Go.RowKit Go By

end Go.Proofs.Ytmdapcmdlblnnaa.Nm
namespace Go.Proofs.Ytmdapcmdlblnnaa.Nm
open Go.RowKit Go By

end Go.Proofs.Ytmdapcmdlblnnaa.Nm
