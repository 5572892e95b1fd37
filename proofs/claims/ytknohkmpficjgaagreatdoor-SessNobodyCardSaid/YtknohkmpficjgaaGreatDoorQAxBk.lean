/- Package back over values without memory: which kinds there are, checks, what is the same, bodies. Written by gen/ax_back.py. -/
import Derived.Test.YtknohkmpficjgaaGreatDoorQAxXr
import Derived.Test.YtknohkmpficjgaaGreatDoorRows
import Derived.Test.YtknohkmpficjgaaGreatDoorQAxPl
import Derived.Test.YtknohkmpficjgaaGreatDoorQAxFq
/- The texts of functions over values without memory, as the kernel reckons them out of the program. -/
namespace Go.Proofs.YtknohkmpficjgaaGreatDoor.Ax
open Go.RowKit Go By

end Go.Proofs.YtknohkmpficjgaaGreatDoor.Ax
namespace Go.Proofs.YtknohkmpficjgaaGreatDoor.Ax
open Go.RowKit Go By YtknohkmpficjgaaGreatDoor.Nm Sc Dg
set_option linter.unusedSimpArgs false
set_option linter.unusedVariables false
set_option maxRecDepth 10000

def kindB (k : Int) : Bool := decide (k = 82 ∨ k = 83 ∨ k = 75 ∨ k = 90 ∨ k = 49 ∨ k = 50 ∨ k = 51 ∨ k = 110 ∨ k = 115 ∨ k = 73 ∨ k = 67 ∨ k = 68 ∨ k = 84 ∨ k = 116 ∨ k = 69 ∨ k = 78)
def statB (s : Int) : Bool := s == 73 || (s == 84 || s == 69)
/-- Its lists are no longer than memory is. -/
def BkFit (m : Bk) : Prop := m.oids.length ≤ 140737488355328 ∧ m.cols.length ≤ 140737488355328 ∧ m.row.length ≤ 140737488355328 ∧ m.fields.length ≤ 140737488355328 ∧ (∀ c ∈ m.row, c.2.length ≤ 140737488355328)
def sameB (a b : Bk) : Bool := a.kind == b.kind && (a.status == b.status && (a.tag == b.tag && (a.name == b.name && (a.value == b.value && (a.n == b.n && (a.m == b.m && (a.oids == b.oids && (a.cols == b.cols && (a.row == b.row && a.fields == b.fields)))))))))
theorem sameB_eq (a b : Bk) : sameB a b = decide (a = b) := by
  obtain ⟨a1, a2, a3, a4, a5, a6, a7, a8, a9, a10, a11⟩ := a
  obtain ⟨b1, b2, b3, b4, b5, b6, b7, b8, b9, b10, b11⟩ := b
  rw [Bool.eq_iff_iff]; simp [sameB]
theorem sameB_refl (a : Bk) : sameB a a = true := by rw [sameB_eq]; simp
/-! ### Checks -/
def rstatB (m : Bk) : Bool := !(m.kind == 90) || statB m.status
def colB (c : Co) : Bool := cleanB c.name && ((unsB 4 c.table && unsB 4 c.oid) && ((unsB 2 c.attr && unsB 2 c.format) && (sgnB 2 c.size && sgnB 4 c.mod)))
def fieldB (f : Fi) : Bool := !(f.code == 0) && cleanB f.text
def fewB (m : Bk) : Bool := decide ((m.oids.length : Int) ≤ 65535 ∧ (m.cols.length : Int) ≤ 65535 ∧ (m.row.length : Int) ≤ 65535 ∧ (m.fields.length : Int) ≤ 65535)
def blistsB (m : Bk) : Bool := fewB m && (m.oids.all (unsB 4) && (m.row.all cellB && (m.cols.all colB && m.fields.all fieldB)))
/-- With those fields alone that the body has. -/
def saidB (m : Bk) : Bk :=
  if m.kind = 83 then ⟨83, 0, [], m.name, m.value, 0, 0, [], [], [], []⟩
  else if m.kind = 75 then ⟨75, 0, [], [], [], m.n, m.m, [], [], [], []⟩
  else if m.kind = 90 then ⟨90, m.status, [], [], [], 0, 0, [], [], [], []⟩
  else if m.kind = 67 then ⟨67, 0, m.tag, [], [], 0, 0, [], [], [], []⟩
  else if m.kind = 68 then ⟨68, 0, [], [], [], 0, 0, [], [], m.row, []⟩
  else if m.kind = 84 then ⟨84, 0, [], [], [], 0, 0, [], m.cols, [], []⟩
  else if m.kind = 116 then ⟨116, 0, [], [], [], 0, 0, m.oids, [], [], []⟩
  else if m.kind = 69 then ⟨69, 0, [], [], [], 0, 0, [], [], [], m.fields⟩
  else if m.kind = 78 then ⟨78, 0, [], [], [], 0, 0, [], [], [], m.fields⟩
  else ⟨m.kind, 0, [], [], [], 0, 0, [], [], [], []⟩
def bcleanB (m : Bk) : Bool := cleanB m.tag && (cleanB m.name && cleanB m.value)
def bnumB (m : Bk) : Bool := unsB 4 m.n && unsB 4 m.m
def checkB (m : Bk) : Int :=
  if kindB m.kind = false then 9
  else if rstatB m && (blistsB m && (bcleanB m && (bnumB m && sameB m (saidB m)))) then 0 else 1
/-! ### Bodies -/
end Go.Proofs.YtknohkmpficjgaaGreatDoor.Ax
