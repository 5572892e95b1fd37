/- The contracts of package scan's Take, Num and Text, at a scan that a call made. -/
import Derived.Test.YtmdapcmdlblnnaaQNumB
import Derived.Test.YtmdapcmdlblnnaaQNumD
import Derived.Test.YtmdapcmdlblnnaaQAxSb
import Derived.Lib.BytesEntry
/- The contracts of package scan's calls that ask (Bad, Left, Done) and of its fail, at a scan that a call made. -/
namespace Go.Proofs.Ytmdapcmdlblnnaa.Sc
open Go.RowKit Go By Nm

end Go.Proofs.Ytmdapcmdlblnnaa.Sc
namespace Go.Proofs.Ytmdapcmdlblnnaa.Sc
open Go.RowKit Go By Nm

end Go.Proofs.Ytmdapcmdlblnnaa.Sc
