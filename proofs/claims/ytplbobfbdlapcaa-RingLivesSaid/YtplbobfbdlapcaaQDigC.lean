/- The contracts of the functions that tell a number in decimal digits (digits.Text and the document's answer): at any number they give the same text. -/
import Derived.Test.YtplbobfbdlapcaaQElems
import Derived.Test.YtplbobfbdlapcaaRows
import Derived.Test.YtplbobfbdlapcaaQNumD
import Derived.Lib.Bytealg
/- Plain words on decimal digits: the digits of a number, the number of digits, and that the two belong together. No program is named here. -/
namespace Go.Proofs.Ytplbobfbdlapcaa.Dg
open Go.RowKit Go By

end Go.Proofs.Ytplbobfbdlapcaa.Dg
/- The contracts of the two functions that read a number from decimal digits (digits.Parse and the document's answer): at any text and any bound they give the same. -/
namespace Go.Proofs.Ytplbobfbdlapcaa.Dg
open Go.RowKit Go By

end Go.Proofs.Ytplbobfbdlapcaa.Dg
namespace Go.Proofs.Ytplbobfbdlapcaa.Dg
set_option maxRecDepth 100000
open Go.RowKit Go By

end Go.Proofs.Ytplbobfbdlapcaa.Dg
