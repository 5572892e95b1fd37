/- The contracts of package scan's Take, Num and Text, at a scan that a call made. -/
import Derived.Test.YtdfocmmajngelaaQNumB
import Derived.Test.YtdfocmmajngelaaQNumD
import Derived.Test.YtdfocmmajngelaaQAxSb
import Derived.Lib.BytesEntry
/- The contracts of package scan's calls that ask (Bad, Left, Done) and of its fail, at a scan that a call made. -/
namespace Go.Proofs.Ytdfocmmajngelaa.Sc
open Go.RowKit Go By Nm

end Go.Proofs.Ytdfocmmajngelaa.Sc
namespace Go.Proofs.Ytdfocmmajngelaa.Sc
open Go.RowKit Go By Nm

end Go.Proofs.Ytdfocmmajngelaa.Sc
