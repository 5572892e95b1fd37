/- The contracts of the two functions that put a number behind bytes (num.Put and the document's answer). -/
import Derived.Test.YtdfocmmajngelaaRows
import Derived.Test.YtdfocmmajngelaaQElems
import Derived.Test.YtdfocmmajngelaaQNumB
/- The contract of bytes.Equal at slices that hold bytes, and what it means that a call made new bytes. -/
namespace Go.Proofs.Ytdfocmmajngelaa.Nm
set_option maxRecDepth 100000
open Go.RowKit Go By

end Go.Proofs.Ytdfocmmajngelaa.Nm
namespace Go.Proofs.Ytdfocmmajngelaa.Nm
set_option maxRecDepth 100000
open Go.RowKit Go By

end Go.Proofs.Ytdfocmmajngelaa.Nm
