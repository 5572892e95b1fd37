/- Entries that are the same, by the document's answer for layer 21, over values without memory. -/
import Derived.Test.YtpogpofmakcodaaQAxX
import Derived.Test.YtpogpofmakcodaaRows
import Derived.Test.YtpogpofmakcodaaQAxTz
import Derived.Test.YtpogpofmakcodaaQAxBa
/- The texts of functions over values without memory, as the kernel reckons them out of the program. -/
namespace Go.Proofs.Ytpogpofmakcodaa.Ax
open Go.RowKit Go By

end Go.Proofs.Ytpogpofmakcodaa.Ax
namespace Go.Proofs.Ytpogpofmakcodaa.Ax
open Go.RowKit Go By
set_option linter.unusedSimpArgs false
set_option linter.unusedVariables false
set_option maxRecDepth 10000

def sameTo (x y : To) : Bool := x.set == y.set && (x.name == y.name && x.id == y.id)
theorem sameTo_iff (x y : To) : sameTo x y = decide (x = y) := by
  obtain ⟨a1, a2, a3⟩ := x
  obtain ⟨b1, b2, b3⟩ := y
  rw [Bool.eq_iff_iff]; simp [sameTo]
def sameOc (x y : Oc) : Bool := x.kind == y.kind && x.id == y.id
theorem sameOc_iff (x y : Oc) : sameOc x y = decide (x = y) := by
  obtain ⟨a1, a2⟩ := x
  obtain ⟨b1, b2⟩ := y
  rw [Bool.eq_iff_iff]; simp [sameOc]
/-- An entry whose lists are not too long. -/
def EnFit (e : En) : Prop := e.good.length ≤ 1000000 ∧ e.bad.length ≤ 1000000 ∧ e.cache.length ≤ 1000000 ∧ e.reply.length ≤ 1000000
end Go.Proofs.Ytpogpofmakcodaa.Ax
