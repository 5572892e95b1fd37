/- The contracts of the two functions that put a number behind bytes (num.Put and the document's answer). -/
import Derived.Test.YtpogpofmakcodaaRows
import Derived.Test.YtpogpofmakcodaaQElems
import Derived.Test.YtpogpofmakcodaaQNumB
/- The contract of bytes.Equal at slices that hold bytes, and what it means that a call made new bytes. -/
namespace Go.Proofs.Ytpogpofmakcodaa.Nm
open Go.RowKit Go By

end Go.Proofs.Ytpogpofmakcodaa.Nm
namespace Go.Proofs.Ytpogpofmakcodaa.Nm
open Go.RowKit Go By

end Go.Proofs.Ytpogpofmakcodaa.Nm
