import Derived.Test.YtknohkmpficjgaaGreatDoorQAxWo
import Derived.Test.YtknohkmpficjgaaGreatDoorQAxGc
set_option linter.unusedSimpArgs false
set_option linter.unusedVariables false
namespace Go.Proofs.YtknohkmpficjgaaGreatDoor.Ax
open Go.RowKit Go By
end Go.Proofs.YtknohkmpficjgaaGreatDoor.Ax
namespace Go.Proofs.YtknohkmpficjgaaGreatDoor.Ax
open Go.RowKit Go By YtknohkmpficjgaaGreatDoor.Nm Sc Dg
set_option maxRecDepth 10000
def bS (k : Int) : Int :=
 if k = 66 \/ k = 67 \/ k = 68 \/ k = 69 \/ k = 72 \/ k = 80 \/ k = 81 \/ k = 83 \/ k = 88 then 1 else if k = 70 \/ k = 99 \/ k = 100 \/ k = 102 \/ k = 112 then 2 else 0
theorem BD (k : Int) (h : List (List AV)) : ae Tryz.prog 168 [.v (.int .u8 k)] h (.v (.int .i64 (bS k))) h [] := by
 refine ac O0 mixed (by simp [iA]) fun hh hargs => ?_
 by_cases h66 : k = 66
 ·subst h66; simp [iA, hh, bS]
 by_cases h67 : k = 67
 ·subst h67; simp [iA, hh, bS]
 by_cases h68 : k = 68
 ·subst h68; simp [iA, hh, bS]
 by_cases h69 : k = 69
 ·subst h69; simp [iA, hh, bS]
 by_cases h72 : k = 72
 ·subst h72; simp [iA, hh, bS]
 by_cases h80 : k = 80
 ·subst h80; simp [iA, hh, bS]
 by_cases h81 : k = 81
 ·subst h81; simp [iA, hh, bS]
 by_cases h83 : k = 83
 ·subst h83; simp [iA, hh, bS]
 by_cases h88 : k = 88
 ·subst h88; simp [iA, hh, bS]
 by_cases h70 : k = 70
 ·subst h70; simp [iA, hh, bS]
 by_cases h99 : k = 99
 ·subst h99; simp [iA, hh, bS]
 by_cases h100 : k = 100
 ·subst h100; simp [iA, hh, bS]
 by_cases h102 : k = 102
 ·subst h102; simp [iA, hh, bS]
 by_cases h112 : k = 112
 ·subst h112; simp [iA, hh, bS]
 simp [iA, hh, bS, h66, h67, h68, h69, h72, h80, h81, h83, h88, h70, h99, h100, h102, h112]
def nn (m : Fm) : Prop := m.oids.length <= 140737488355328 /\ m.formats.length <= 140737488355328 /\ m.results.length <= 140737488355328 /\ m.params.length <= 140737488355328 /\ (∀ c ∈ m.params, c.2.length <= 140737488355328) /\ m.name.length <= 140737488355328 /\ m.portal.length <= 140737488355328 /\ m.text.length <= 140737488355328
def rb (a b : Fm) : Bool := a.kind == b.kind && a.what == b.what && (a.name == b.name && a.portal == b.portal && a.text == b.text) && a.max == b.max && a.oids == b.oids && a.formats == b.formats && a.results == b.results && a.params == b.params
theorem wy (l m : List Int) (hl : l.length <= 140737488355328) (h : List (List AV)) : ae Tryz.prog 67 [.sl 1 (al aN l) none .no, .sl 1 (al aN m) none .no] h (.v (.bool (l == m))) h [] := by
 have := vq mixed KY l m h hl
 rwa [gR] at this
def fQ (m : Fm) : Fm :=
 if m.kind = 80 then ⟨80, 0, m.name, [], m.text, m.oids, [], [], [], 0⟩
 else if m.kind = 66 then ⟨66, 0, m.name, m.portal, [], [], m.formats, m.results, m.params, 0⟩
 else if m.kind = 67 \/ m.kind = 68 then (if m.what = 83 then ⟨m.kind, m.what, m.name, [], [], [], [], [], [], 0⟩ else ⟨m.kind, m.what, [], m.portal, [], [], [], [], [], 0⟩)
 else if m.kind = 69 then ⟨69, 0, [], m.portal, [], [], [], [], [], m.max⟩
 else if m.kind = 81 then ⟨81, 0, [], [], m.text, [], [], [], [], 0⟩
 else ⟨m.kind, 0, [], [], [], [], [], [], [], 0⟩
def fZ (m : Fm) : Bool := aA m.name && (aA m.portal && aA m.text)
theorem vB {m : Fm} (h : nn m) : nn (fQ m) := by
 obtain ⟨h1, h2, h3, h4, h5, h6, h7, h8⟩ := h
 unfold fQ nn
 repeat' split
 all_goals simp [h1, h2, h3, h4, h6, h7, h8]
 all_goals exact ⟨fun b hc => h5 (_, b) hc, fun b hc => h5 (_, b) hc⟩
end Go.Proofs.YtknohkmpficjgaaGreatDoor.Ax
