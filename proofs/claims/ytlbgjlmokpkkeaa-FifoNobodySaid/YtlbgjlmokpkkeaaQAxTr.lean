/- A row is put, blocks are made: nothing else turns. No program is named here. -/
import Derived.Test.YtlbgjlmokpkkeaaQAxMi
import Derived.Sort.Walk0
import Derived.Sort.Row
import Derived.Sort.Grow
namespace Go.Proofs.Ytlbgjlmokpkkeaa.Ax
open Go.RowKit Go By Go.Sort
set_option linter.unusedSimpArgs false
set_option linter.unusedVariables false

theorem turned_none (w : World) (a : Option Addr) : Turned w w a [] := ⟨KeepsOthers.refl w, rfl, rfl, rfl, fun _ _ _ => rfl, fun b o _ j => ⟨rfl, by rw [if_neg (by simp)]⟩⟩
end Go.Proofs.Ytlbgjlmokpkkeaa.Ax
