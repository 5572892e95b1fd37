/- The contracts of package scan's Take, Num and Text, at a scan that a call made. -/
import Derived.Test.YthielckgianmgaaDoorQNumB
import Derived.Test.YthielckgianmgaaDoorQNumD
import Derived.Test.YthielckgianmgaaDoorQAxSb
import Derived.Lib.BytesEntry
/- The contracts of package scan's calls that ask (Bad, Left, Done) and of its fail, at a scan that a call made. -/
namespace Go.Proofs.YthielckgianmgaaDoor.Sc
open Go.RowKit Go By Nm

end Go.Proofs.YthielckgianmgaaDoor.Sc
namespace Go.Proofs.YthielckgianmgaaDoor.Sc
open Go.RowKit Go By Nm

end Go.Proofs.YthielckgianmgaaDoor.Sc
