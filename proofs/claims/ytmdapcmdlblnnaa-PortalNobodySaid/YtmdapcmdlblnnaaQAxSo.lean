/- slices.Sort of numbers, in place, by the kit's contract. -/
import Derived.Shelf.Sort.Plain
import Derived.Shelf.Slices.In.SortNone
import Derived.Shelf.Strconv.Clone
import Derived.Test.YtmdapcmdlblnnaaProg
import Derived.Test.YtmdapcmdlblnnaaQAxIp
/- Contracts of Go's library, laid at this program by the kit's shelf (plain words): slices_Sort_string, slices_Sort_string_none. -/
namespace Go.Sort
end Go.Sort
namespace Go.Proofs
open Go.Shelf Go.RowKit Go.Lib Go.Sort
end Go.Proofs
namespace Go.Proofs.Ytmdapcmdlblnnaa.Ax
open Go.RowKit Go By Go.Sort
set_option linter.unusedSimpArgs false
set_option linter.unusedVariables false

end Go.Proofs.Ytmdapcmdlblnnaa.Ax
