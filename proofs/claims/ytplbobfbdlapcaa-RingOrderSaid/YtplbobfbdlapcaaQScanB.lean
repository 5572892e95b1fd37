/- The contracts of package scan's Take, Num and Text, at a scan that a call made. -/
import Derived.Test.YtplbobfbdlapcaaQNumB
import Derived.Test.YtplbobfbdlapcaaQNumD
import Derived.Test.YtplbobfbdlapcaaQAxSb
import Derived.Lib.BytesEntry
/- The contracts of package scan's calls that ask (Bad, Left, Done) and of its fail, at a scan that a call made. -/
namespace Go.Proofs.Ytplbobfbdlapcaa.Sc
open Go.RowKit Go By Nm

end Go.Proofs.Ytplbobfbdlapcaa.Sc
namespace Go.Proofs.Ytplbobfbdlapcaa.Sc
open Go.RowKit Go By Nm

end Go.Proofs.Ytplbobfbdlapcaa.Sc
