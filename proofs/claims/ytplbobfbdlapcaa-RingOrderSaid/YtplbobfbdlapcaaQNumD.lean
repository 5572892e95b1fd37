/- The contracts of the two functions that put a number behind bytes (num.Put and the document's answer). -/
import Derived.Test.YtplbobfbdlapcaaRows
import Derived.Test.YtplbobfbdlapcaaQElems
import Derived.Test.YtplbobfbdlapcaaQNumB
/- The contract of bytes.Equal at slices that hold bytes, and what it means that a call made new bytes. -/
namespace Go.Proofs.Ytplbobfbdlapcaa.Nm
set_option maxRecDepth 100000
open Go.RowKit Go By

end Go.Proofs.Ytplbobfbdlapcaa.Nm
namespace Go.Proofs.Ytplbobfbdlapcaa.Nm
open Go.RowKit Go By

end Go.Proofs.Ytplbobfbdlapcaa.Nm
