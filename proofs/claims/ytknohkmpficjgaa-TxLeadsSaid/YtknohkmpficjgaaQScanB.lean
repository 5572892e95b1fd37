/- The contracts of package scan's Take, Num and Text, at a scan that a call made. -/
import Derived.Test.YtknohkmpficjgaaQNumB
import Derived.Test.YtknohkmpficjgaaQNumD
import Derived.Test.YtknohkmpficjgaaQAxSb
import Derived.Lib.BytesEntry
/- The contracts of package scan's calls that ask (Bad, Left, Done) and of its fail, at a scan that a call made. -/
namespace Go.Proofs.Ytknohkmpficjgaa.Sc
open Go.RowKit Go By Nm

end Go.Proofs.Ytknohkmpficjgaa.Sc
namespace Go.Proofs.Ytknohkmpficjgaa.Sc
open Go.RowKit Go By Nm

end Go.Proofs.Ytknohkmpficjgaa.Sc
