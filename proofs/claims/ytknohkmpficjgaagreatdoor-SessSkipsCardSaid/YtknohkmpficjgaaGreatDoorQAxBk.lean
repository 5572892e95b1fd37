import Derived.Test.YtknohkmpficjgaaGreatDoorQAxXr
import Derived.Test.YtknohkmpficjgaaGreatDoorRows
import Derived.Test.YtknohkmpficjgaaGreatDoorQAxPl
import Derived.Test.YtknohkmpficjgaaGreatDoorQAxFq
set_option linter.unusedSimpArgs false
set_option linter.unusedVariables false
namespace Go.Proofs.YtknohkmpficjgaaGreatDoor.Ax
open Go.RowKit Go By
def c68 : XFun := ⟨26, (.seq (.ops [⟨(some 4), (.assign (.const (.bool false))), none⟩]) (.seq (.seq (.ops [⟨(some 6), (.move (.tmp 0)), none⟩, ⟨(some 7), (.lenL (.tmp 6)), none⟩, ⟨(some 8), (.move (.tmp 1)), none⟩, ⟨(some 9), (.lenL (.tmp 8)), none⟩, ⟨(some 10), (.bin .neq (.tmp 7) (.tmp 9)), none⟩]) (.cond (.tmp 10) (.seq (.ops [⟨(some 4), (.assign (.const (.bool false))), none⟩]) .ret) .skip)) (.seq (.seq (.ops [⟨(some 11), (.move (.tmp 0)), none⟩, ⟨(some 12), (.lenL (.tmp 11)), none⟩, ⟨(some 13), (.move (.const (.int .i64 0))), none⟩]) (.block 0 (.loop (.seq (.ops [⟨(some 14), (.bin .lss (.tmp 13) (.tmp 12)), none⟩]) (.seq (.cond (.tmp 14) .skip (.exit 0)) (.seq (.block 1 (.seq (.ops [⟨(some 15), (.move (.tmp 13)), none⟩, ⟨(some 5), (.assign (.tmp 15)), none⟩]) (.seq (.draws (.take ⟨(some 16), (.move (.tmp 0)), none⟩ (.take ⟨(some 17), (.move (.tmp 5)), none⟩ (.take ⟨(some 18), (.iaddr 7 (.tmp 16) (.tmp 17)), none⟩ (.take ⟨(some 19), (.loadN 7 (.tmp 18)), none⟩ (.take ⟨(some 20), (.move (.tmp 1)), none⟩ (.take ⟨(some 21), (.move (.tmp 5)), none⟩ (.take ⟨(some 22), (.iaddr 7 (.tmp 20) (.tmp 21)), none⟩ (.take ⟨(some 23), (.loadN 7 (.tmp 22)), none⟩ (.take ⟨(some 24), (.aeq true [2, 1, 1, 1, 1, 1, 1] (.tmp 19) (.tmp 23)), none⟩ .done)))))))))) (.cond (.tmp 24) (.seq (.ops [⟨(some 4), (.assign (.const (.bool false))), none⟩]) .ret) .skip)))) (.ops [⟨(some 25), (.bin .add (.tmp 13) (.const (.int .i64 1))), none⟩, ⟨(some 13), (.move (.tmp 25)), none⟩]))))))) (.seq (.ops [⟨(some 4), (.assign (.const (.bool true))), none⟩]) .ret)))), [(.move (.tmp 4))]⟩
theorem k68 : cfun Tryz.prog 68 = some c68 := by kernel_rfl
def c158 : XFun := ⟨16, (.seq (.ops [⟨(some 6), (.assign (.const (.slice none 0 0))), none⟩]) (.seq (.ops [⟨(some 7), (.move (.tmp 0)), none⟩, ⟨(some 8), (.build [(.v (.int .u8 0)), (.v (.string (strB [])))] [(0, (1, (.const (.int .u8 83)))), (1, (1, (.tmp 7)))]), none⟩, ⟨(some 9), (.move (.tmp 0)), none⟩, ⟨(some 10), (.build [(.v (.int .u8 0)), (.v (.string (strB [])))] [(0, (1, (.const (.int .u8 86)))), (1, (1, (.tmp 9)))]), none⟩, ⟨(some 11), (.move (.tmp 1)), none⟩, ⟨(some 12), (.build [(.v (.int .u8 0)), (.v (.string (strB [])))] [(0, (1, (.const (.int .u8 67)))), (1, (1, (.tmp 11)))]), none⟩, ⟨(some 13), (.move (.tmp 2)), none⟩, ⟨(some 14), (.build [(.v (.int .u8 0)), (.v (.string (strB [])))] [(0, (1, (.const (.int .u8 77)))), (1, (1, (.tmp 13)))]), none⟩, ⟨(some 15), (.buildSlice 2 4 [(.v (.int .u8 0)), (.v (.string (strB [])))] [(0, (.tmp 8)), (1, (.tmp 10)), (2, (.tmp 12)), (3, (.tmp 14))]), none⟩, ⟨(some 6), (.assign (.tmp 15)), none⟩]) .ret)), [(.move (.tmp 6))]⟩
theorem k158 : cfun Tryz.prog 158 = some c158 := by kernel_rfl
def c97 : XFun := ⟨12, (.seq (.ops [⟨(some 6), (.alloc [(.v (.int .u8 0)), (.v (.int .u8 0)), (.v (.string (strB []))), (.v (.string (strB []))), (.v (.string (strB []))), (.v (.int .i64 0)), (.v (.int .i64 0)), (.sl 0 [] (some true) .exact), (.sl 0 [] (some true) .exact), (.sl 0 [] (some true) .exact), (.sl 0 [] (some true) .exact)]), none⟩]) (.seq (.ops [⟨(some 7), (.move (.tmp 0)), none⟩, ⟨(some 8), (.move (.tmp 1)), none⟩, ⟨(some 9), (.move (.tmp 2)), none⟩, ⟨(some 10), (.call 158 [(.tmp 7), (.tmp 8), (.tmp 9)]), none⟩, ⟨(some 11), (.build [(.v (.int .u8 0)), (.v (.int .u8 0)), (.v (.string (strB []))), (.v (.string (strB []))), (.v (.string (strB []))), (.v (.int .i64 0)), (.v (.int .i64 0)), (.sl 0 [] (some true) .exact), (.sl 0 [] (some true) .exact), (.sl 0 [] (some true) .exact), (.sl 0 [] (some true) .exact)] [(0, (1, (.const (.int .u8 69)))), (10, (1, (.tmp 10)))]), none⟩, ⟨none, (.store 11 (.tmp 6) (.tmp 11)), none⟩]) .ret)), [(.loadN 11 (.tmp 6))]⟩
theorem k97 : cfun Tryz.prog 97 = some c97 := by kernel_rfl
end Go.Proofs.YtknohkmpficjgaaGreatDoor.Ax
namespace Go.Proofs.YtknohkmpficjgaaGreatDoor.Ax
open Go.RowKit Go By YtknohkmpficjgaaGreatDoor.Nm Sc Dg
set_option maxRecDepth 10000
def kindB (k : Int) : Bool := decide (k = 82 \/ k = 83 \/ k = 75 \/ k = 90 \/ k = 49 \/ k = 50 \/ k = 51 \/ k = 110 \/ k = 115 \/ k = 73 \/ k = 67 \/ k = 68 \/ k = 84 \/ k = 116 \/ k = 69 \/ k = 78)
def statB (s : Int) : Bool := s == 73 || (s == 84 || s == 69)
def BkFit (m : Bk) : Prop := m.oids.length <= 140737488355328 /\ m.cols.length <= 140737488355328 /\ m.row.length <= 140737488355328 /\ m.fields.length <= 140737488355328 /\ (∀ c ∈ m.row, c.2.length <= 140737488355328)
def sameB (a b : Bk) : Bool := a.kind == b.kind && (a.status == b.status && (a.tag == b.tag && (a.name == b.name && (a.value == b.value && (a.n == b.n && (a.m == b.m && (a.oids == b.oids && (a.cols == b.cols && (a.row == b.row && a.fields == b.fields)))))))))
theorem sameB_eq (a b : Bk) : sameB a b = decide (a = b) := by
 obtain ⟨a1, a2, a3, a4, a5, a6, a7, a8, a9, a10, a11⟩ := a
 obtain ⟨b1, b2, b3, b4, b5, b6, b7, b8, b9, b10, b11⟩ := b
 rw [Bool.eq_iff_iff]; simp [sameB]
theorem sameB_refl (a : Bk) : sameB a a = true := by rw [sameB_eq]; simp
def rstatB (m : Bk) : Bool := !(m.kind == 90) || statB m.status
def colB (c : Co) : Bool := cleanB c.name && ((unsB 4 c.table && unsB 4 c.oid) && ((unsB 2 c.attr && unsB 2 c.format) && (sgnB 2 c.size && sgnB 4 c.mod)))
def fieldB (f : Fi) : Bool := !(f.code == 0) && cleanB f.text
def fewB (m : Bk) : Bool := decide ((m.oids.length : Int) <= 65535 /\ (m.cols.length : Int) <= 65535 /\ (m.row.length : Int) <= 65535 /\ (m.fields.length : Int) <= 65535)
def blistsB (m : Bk) : Bool := fewB m && (m.oids.all (unsB 4) && (m.row.all cellB && (m.cols.all colB && m.fields.all fieldB)))
def saidB (m : Bk) : Bk :=
 if m.kind = 83 then ⟨83, 0, [], m.name, m.value, 0, 0, [], [], [], []⟩
 else if m.kind = 75 then ⟨75, 0, [], [], [], m.n, m.m, [], [], [], []⟩
 else if m.kind = 90 then ⟨90, m.status, [], [], [], 0, 0, [], [], [], []⟩
 else if m.kind = 67 then ⟨67, 0, m.tag, [], [], 0, 0, [], [], [], []⟩
 else if m.kind = 68 then ⟨68, 0, [], [], [], 0, 0, [], [], m.row, []⟩
 else if m.kind = 84 then ⟨84, 0, [], [], [], 0, 0, [], m.cols, [], []⟩
 else if m.kind = 116 then ⟨116, 0, [], [], [], 0, 0, m.oids, [], [], []⟩
 else if m.kind = 69 then ⟨69, 0, [], [], [], 0, 0, [], [], [], m.fields⟩
 else if m.kind = 78 then ⟨78, 0, [], [], [], 0, 0, [], [], [], m.fields⟩
 else ⟨m.kind, 0, [], [], [], 0, 0, [], [], [], []⟩
def bcleanB (m : Bk) : Bool := cleanB m.tag && (cleanB m.name && cleanB m.value)
def bnumB (m : Bk) : Bool := unsB 4 m.n && unsB 4 m.m
def checkB (m : Bk) : Int :=
 if kindB m.kind = false then 9
 else if rstatB m && (blistsB m && (bcleanB m && (bnumB m && sameB m (saidB m)))) then 0 else 1
end Go.Proofs.YtknohkmpficjgaaGreatDoor.Ax
