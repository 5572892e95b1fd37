/- The engine over values without memory: what it is, and its calls; the document's. -/
import Derived.Test.YtlbgjlmokpkkeaaGreatDoorQAxX
import Derived.Test.YtlbgjlmokpkkeaaGreatDoorRows
import Derived.Test.YtlbgjlmokpkkeaaGreatDoorQAxDg
import Derived.Test.YtlbgjlmokpkkeaaGreatDoorQAxSv
import Derived.Test.YtlbgjlmokpkkeaaGreatDoorQAxRo
import Derived.Test.YtlbgjlmokpkkeaaGreatDoorQAxAt
import Derived.Test.YtlbgjlmokpkkeaaGreatDoorQAxSt
import Derived.Test.YtlbgjlmokpkkeaaGreatDoorQAxCy
/- The texts of functions over values without memory, as the kernel reckons them out of the program. -/
namespace Go.Proofs.YtlbgjlmokpkkeaaGreatDoor.Ax
open Go.RowKit Go By

end Go.Proofs.YtlbgjlmokpkkeaaGreatDoor.Ax
/- Columns by number, over values without memory. -/
namespace Go.Proofs.YtlbgjlmokpkkeaaGreatDoor.Ax
open Go.RowKit Go By YtlbgjlmokpkkeaaGreatDoor.Nm Sc Dg
set_option linter.unusedSimpArgs false
set_option linter.unusedVariables false
set_option maxRecDepth 10000

end Go.Proofs.YtlbgjlmokpkkeaaGreatDoor.Ax
/- Rows by number, over values without memory; what a row is described by, and its tag. -/
namespace Go.Proofs.YtlbgjlmokpkkeaaGreatDoor.Ax
open Go.RowKit Go By YtlbgjlmokpkkeaaGreatDoor.Nm Sc Dg
set_option linter.unusedSimpArgs false
set_option linter.unusedVariables false
set_option maxRecDepth 10000

end Go.Proofs.YtlbgjlmokpkkeaaGreatDoor.Ax
namespace Go.Proofs.YtlbgjlmokpkkeaaGreatDoor.Ax
open Go.RowKit Go By Dg
set_option linter.unusedSimpArgs false
set_option linter.unusedVariables false
set_option maxRecDepth 10000

/-- No cells. -/
def noC (_ : Unit) : List AV := []
structure Eg where
  a : Nat
  n : Nat
  clock : Nat
  e : List (KE Unit)
def Eg.cells (T : Eg) : List AV := mapC T.clock (T.e.map (KE.ent noC))
def egC (a : Nat) (n : Nat) : List AV := [.mp a 0 false, .v (.int .i64 (n : Int))]
structure EgAt (h : List (List AV)) (i : Nat) (T : Eg) : Prop where
  top : h[i]? = some (egC T.a T.n)
  ents : h[T.a]? = some T.cells
  apart : i ≠ T.a
section
variable {h : List (List AV)} {i : Nat} {T : Eg}
theorem EgAt.i_lt (ht : EgAt h i T) : i < h.length := (List.getElem?_eq_some_iff.1 ht.top).1
theorem EgAt.a_lt (ht : EgAt h i T) : T.a < h.length := (List.getElem?_eq_some_iff.1 ht.ents).1
theorem EgAt.move (ht : EgAt h i T) {h' : List (List AV)} (h1 : h'[i]? = h[i]?) (h2 : h'[T.a]? = h[T.a]?) : EgAt h' i T := ⟨h1.trans ht.top, h2.trans ht.ents, ht.apart⟩
end
end Go.Proofs.YtlbgjlmokpkkeaaGreatDoor.Ax
