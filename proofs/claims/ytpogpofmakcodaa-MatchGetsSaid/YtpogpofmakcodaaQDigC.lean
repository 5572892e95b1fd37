/- The contracts of the functions that tell a number in decimal digits (digits.Text and the document's answer): at any number they give the same text. -/
import Derived.Test.YtpogpofmakcodaaQElems
import Derived.Test.YtpogpofmakcodaaRows
import Derived.Test.YtpogpofmakcodaaQNumD
import Derived.Lib.Bytealg
/- Plain words on decimal digits: the digits of a number, the number of digits, and that the two belong together. No program is named here. -/
namespace Go.Proofs.Ytpogpofmakcodaa.Dg
open Go.RowKit Go By

end Go.Proofs.Ytpogpofmakcodaa.Dg
/- The contracts of the two functions that read a number from decimal digits (digits.Parse and the document's answer): at any text and any bound they give the same. -/
namespace Go.Proofs.Ytpogpofmakcodaa.Dg
open Go.RowKit Go By

theorem take_next (s : ByteArray) (k : Nat) (h : k < s.size) : s.data.toList.take (k + 1) = s.data.toList.take k ++ [s[k]] := by
  rw [List.take_succ_eq_append_getElem (by simpa using h)]; rfl
end Go.Proofs.Ytpogpofmakcodaa.Dg
namespace Go.Proofs.Ytpogpofmakcodaa.Dg
open Go.RowKit Go By

end Go.Proofs.Ytpogpofmakcodaa.Dg
