/- What reads as data of the types of package api is laid out as their structures are. Written by gen/ax_types.py. -/
import Derived.Test.YtofkddajlgebjaaGreatQAxWo
import Derived.Test.YtofkddajlgebjaaGreatQAxXr
import Derived.Test.YtofkddajlgebjaaGreatRows
namespace Go.Proofs.YtofkddajlgebjaaGreat.Ax
open Go.RowKit Go By
set_option linter.unusedSimpArgs false
set_option linter.unusedVariables false

theorem sh_str : Shape Tryz.prog 9 strC (fun s => s.length ≤ maxLen) := shape_str Tryz.underlying9
def OkPa (x : Pa) : Prop := x.name.length ≤ maxLen ∧ x.value.length ≤ maxLen
theorem sh_paC : Shape Tryz.prog 54 paC OkPa :=
  Shape.map (shape_struct Tryz.underlying54 (by kernel_rfl) (shape_cons (k := 1) rfl (by kernel_rfl) sh_str (by kernel_rfl) (shape_one (k := 1) rfl (by kernel_rfl) sh_str))) (fun p => ⟨p.1, p.2⟩) (fun _ => rfl) (fun _ h => h)
theorem sh_paCL : Shape Tryz.prog 22 (fun l : List Pa => [.sl 2 (enc paC l) none .no]) (fun l => l.length ≤ maxLen ∧ ∀ x ∈ l, OkPa x) := shape_slice Tryz.underlying22 (by kernel_rfl) (by decide) sh_paC (fun _ => rfl)
end Go.Proofs.YtofkddajlgebjaaGreat.Ax
