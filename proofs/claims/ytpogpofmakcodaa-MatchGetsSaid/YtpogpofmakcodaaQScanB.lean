/- The contracts of package scan's Take, Num and Text, at a scan that a call made. -/
import Derived.Test.YtpogpofmakcodaaQNumB
import Derived.Test.YtpogpofmakcodaaQNumD
import Derived.Test.YtpogpofmakcodaaQAxSb
import Derived.Lib.BytesEntry
/- The contracts of package scan's calls that ask (Bad, Left, Done) and of its fail, at a scan that a call made. -/
namespace Go.Proofs.Ytpogpofmakcodaa.Sc
open Go.RowKit Go By Nm

end Go.Proofs.Ytpogpofmakcodaa.Sc
namespace Go.Proofs.Ytpogpofmakcodaa.Sc
open Go.RowKit Go By Nm

end Go.Proofs.Ytpogpofmakcodaa.Sc
