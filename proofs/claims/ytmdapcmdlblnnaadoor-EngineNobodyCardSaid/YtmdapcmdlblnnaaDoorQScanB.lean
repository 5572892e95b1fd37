/- The contracts of package scan's Take, Num and Text, at a scan that a call made. -/
import Derived.Test.YtmdapcmdlblnnaaDoorQNumB
import Derived.Test.YtmdapcmdlblnnaaDoorQNumD
import Derived.Test.YtmdapcmdlblnnaaDoorQAxSb
import Derived.Lib.BytesEntry
/- The contracts of package scan's calls that ask (Bad, Left, Done) and of its fail, at a scan that a call made. -/
namespace Go.Proofs.YtmdapcmdlblnnaaDoor.Sc
open Go.RowKit Go By Nm

end Go.Proofs.YtmdapcmdlblnnaaDoor.Sc
namespace Go.Proofs.YtmdapcmdlblnnaaDoor.Sc
open Go.RowKit Go By Nm

end Go.Proofs.YtmdapcmdlblnnaaDoor.Sc
