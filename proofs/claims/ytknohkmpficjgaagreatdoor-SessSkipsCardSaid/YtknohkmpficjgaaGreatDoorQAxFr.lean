import Derived.Test.YtknohkmpficjgaaGreatDoorQAxXr
import Derived.Test.YtknohkmpficjgaaGreatDoorRows
import Derived.Test.YtknohkmpficjgaaGreatDoorQAxWo
import Derived.Test.YtknohkmpficjgaaGreatDoorQAxGc
set_option linter.unusedSimpArgs false
set_option linter.unusedVariables false
namespace Go.Proofs.YtknohkmpficjgaaGreatDoor.Ax
open Go.RowKit Go By
end Go.Proofs.YtknohkmpficjgaaGreatDoor.Ax
namespace Go.Proofs.YtknohkmpficjgaaGreatDoor.Ax
open Go.RowKit Go By YtknohkmpficjgaaGreatDoor.Nm Sc Dg
set_option maxRecDepth 10000
def knownI (k : Int) : Int :=
 if k = 66 \/ k = 67 \/ k = 68 \/ k = 69 \/ k = 72 \/ k = 80 \/ k = 81 \/ k = 83 \/ k = 88 then 1 else if k = 70 \/ k = 99 \/ k = 100 \/ k = 102 \/ k = 112 then 2 else 0
def FmFit (m : Fm) : Prop := m.oids.length <= 140737488355328 /\ m.formats.length <= 140737488355328 /\ m.results.length <= 140737488355328 /\ m.params.length <= 140737488355328 /\ (∀ c ∈ m.params, c.2.length <= 140737488355328) /\ m.name.length <= 140737488355328 /\ m.portal.length <= 140737488355328 /\ m.text.length <= 140737488355328
def sameF (a b : Fm) : Bool := a.kind == b.kind && a.what == b.what && (a.name == b.name && a.portal == b.portal && a.text == b.text) && a.max == b.max && a.oids == b.oids && a.formats == b.formats && a.results == b.results && a.params == b.params
def saidF (m : Fm) : Fm :=
 if m.kind = 80 then ⟨80, 0, m.name, [], m.text, m.oids, [], [], [], 0⟩
 else if m.kind = 66 then ⟨66, 0, m.name, m.portal, [], [], m.formats, m.results, m.params, 0⟩
 else if m.kind = 67 \/ m.kind = 68 then (if m.what = 83 then ⟨m.kind, m.what, m.name, [], [], [], [], [], [], 0⟩ else ⟨m.kind, m.what, [], m.portal, [], [], [], [], [], 0⟩)
 else if m.kind = 69 then ⟨69, 0, [], m.portal, [], [], [], [], [], m.max⟩
 else if m.kind = 81 then ⟨81, 0, [], [], m.text, [], [], [], [], 0⟩
 else ⟨m.kind, 0, [], [], [], [], [], [], [], 0⟩
def cleanF (m : Fm) : Bool := cleanB m.name && (cleanB m.portal && cleanB m.text)
end Go.Proofs.YtknohkmpficjgaaGreatDoor.Ax
