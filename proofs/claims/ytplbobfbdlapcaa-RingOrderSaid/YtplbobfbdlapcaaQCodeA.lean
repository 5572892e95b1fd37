/- The texts of functions over values without memory, as the kernel reckons them out of the program. -/
import Derived.Test.YtplbobfbdlapcaaQAxX
import Derived.Test.YtplbobfbdlapcaaRows
namespace Go.Proofs.Ytplbobfbdlapcaa.Ax
open Go.RowKit Go By

def c15 : XFun := ⟨10, (.seq (.ops [⟨(some 4), (.assign (.const (.bool false))), none⟩]) (.seq (.ops [⟨(some 5), (.move (.tmp 0)), none⟩, ⟨(some 6), (.b2s (.tmp 5)), none⟩, ⟨(some 7), (.move (.tmp 1)), none⟩, ⟨(some 8), (.b2s (.tmp 7)), none⟩, ⟨(some 9), (.bin .eql (.tmp 6) (.tmp 8)), none⟩, ⟨(some 4), (.assign (.tmp 9)), none⟩]) .ret)), [(.move (.tmp 4))]⟩
theorem k15 : cfun Try.prog 15 = some c15 := by kernel_rfl
end Go.Proofs.Ytplbobfbdlapcaa.Ax
