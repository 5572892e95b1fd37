/- The contracts of the functions that tell a number in decimal digits (digits.Text and the document's answer): at any number they give the same text. -/
import Derived.Test.YtdfocmmajngelaaQElems
import Derived.Test.YtdfocmmajngelaaRows
import Derived.Test.YtdfocmmajngelaaQNumD
import Derived.Lib.Bytealg
/- Plain words on decimal digits: the digits of a number, the number of digits, and that the two belong together. No program is named here. -/
namespace Go.Proofs.Ytdfocmmajngelaa.Dg
open Go.RowKit Go By

end Go.Proofs.Ytdfocmmajngelaa.Dg
/- The contracts of the two functions that read a number from decimal digits (digits.Parse and the document's answer): at any text and any bound they give the same. -/
namespace Go.Proofs.Ytdfocmmajngelaa.Dg
open Go.RowKit Go By

end Go.Proofs.Ytdfocmmajngelaa.Dg
namespace Go.Proofs.Ytdfocmmajngelaa.Dg
set_option maxRecDepth 100000
open Go.RowKit Go By

end Go.Proofs.Ytdfocmmajngelaa.Dg
