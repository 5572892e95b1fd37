/- The contracts of the two functions that put a number behind bytes (num.Put and the document's answer). -/
import Derived.Test.YtknohkmpficjgaaRows
import Derived.Test.YtknohkmpficjgaaQElems
import Derived.Test.YtknohkmpficjgaaQNumB
/- The contract of bytes.Equal at slices that hold bytes, and what it means that a call made new bytes. -/
namespace Go.Proofs.Ytknohkmpficjgaa.Nm
open Go.RowKit Go By

end Go.Proofs.Ytknohkmpficjgaa.Nm
namespace Go.Proofs.Ytknohkmpficjgaa.Nm
open Go.RowKit Go By

end Go.Proofs.Ytknohkmpficjgaa.Nm
