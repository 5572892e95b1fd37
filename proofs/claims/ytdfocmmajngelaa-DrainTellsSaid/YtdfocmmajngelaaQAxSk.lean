/- Layer 23: which messages go on, over values without memory. -/
import Derived.Test.YtdfocmmajngelaaQAxX
import Derived.Test.YtdfocmmajngelaaRows
import Derived.Test.YtdfocmmajngelaaQAxTz
/- The texts of functions over values without memory, as the kernel reckons them out of the program. -/
namespace Go.Proofs.Ytdfocmmajngelaa.Ax
open Go.RowKit Go By

end Go.Proofs.Ytdfocmmajngelaa.Ax
namespace Go.Proofs.Ytdfocmmajngelaa.Ax
open Go.RowKit Go By
set_option linter.unusedSimpArgs false
set_option linter.unusedVariables false
set_option maxRecDepth 10000

theorem mixedSk : Try.prog.follows .mixedOrders = true := by kernel_rfl
structure Sk where
  on : Bool
  wait : Bool
  dirty : Bool
def skC (s : Sk) : List AV := [.v (.bool s.on), .v (.bool s.wait), .v (.bool s.dirty)]
theorem sh_skC : Shape Try.prog 49 skC (fun _ => True) :=
  Shape.map (shape_struct Try.underlying49 (by kernel_rfl) (shape_cons (k := 1) rfl (by kernel_rfl) sh_bool (by kernel_rfl) (shape_cons (k := 1) rfl (by kernel_rfl) sh_bool (by kernel_rfl) (shape_one (k := 1) rfl (by kernel_rfl) sh_bool)))) (fun p => ⟨p.1, p.2.1, p.2.2⟩) (fun p => rfl) (fun _ _ => trivial)
section
variable {h : List (List AV)}
end
end Go.Proofs.Ytdfocmmajngelaa.Ax
