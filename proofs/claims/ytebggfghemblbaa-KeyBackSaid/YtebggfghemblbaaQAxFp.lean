/- The document's answers for front, over values without memory: checks, what is the same. -/
import Derived.Test.YtebggfghemblbaaQAxXr
import Derived.Test.YtebggfghemblbaaRows
import Derived.Test.YtebggfghemblbaaQAxWo
import Derived.Test.YtebggfghemblbaaQCodeF
/- The texts of functions over values without memory, as the kernel reckons them out of the program. -/
namespace Go.Proofs.Ytebggfghemblbaa.Ax
open Go.RowKit Go By

def c111 : XFun := ⟨26, (.seq (.ops [⟨(some 6), (.assign (.const (.slice none 0 0))), none⟩]) (.seq (.ops [⟨(some 8), (.move (.tmp 0)), none⟩, ⟨(some 9), (.move (.tmp 1)), none⟩, ⟨(some 10), (.lenL (.tmp 9)), none⟩, ⟨(some 11), (.call 67 [(.tmp 8), (.tmp 10), (.const (.int .i64 2))]), none⟩, ⟨(some 0), (.assign (.tmp 11)), none⟩]) (.seq (.seq (.ops [⟨(some 7), (.assign (.const (.int .i64 0))), none⟩]) (.block 0 (.loop (.seq (.seq (.ops [⟨(some 12), (.move (.tmp 7)), none⟩, ⟨(some 13), (.move (.tmp 1)), none⟩, ⟨(some 14), (.lenL (.tmp 13)), none⟩, ⟨(some 15), (.bin .lss (.tmp 12) (.tmp 14)), none⟩]) (.cond (.tmp 15) .skip (.exit 0))) (.seq (.block 1 (.ops [⟨(some 18), (.move (.tmp 0)), none⟩, ⟨(some 19), (.move (.tmp 1)), none⟩, ⟨(some 20), (.move (.tmp 7)), none⟩, ⟨(some 21), (.iaddr 1 (.tmp 19) (.tmp 20)), none⟩, ⟨(some 22), (.load1 (.tmp 21)), none⟩, ⟨(some 23), (.move (.tmp 2)), none⟩, ⟨(some 24), (.call 67 [(.tmp 18), (.tmp 22), (.tmp 23)]), none⟩, ⟨(some 0), (.assign (.tmp 24)), none⟩])) (.ops [⟨(some 16), (.move (.tmp 7)), none⟩, ⟨(some 17), (.bin .add (.tmp 16) (.const (.int .i64 1))), none⟩, ⟨(some 7), (.assign (.tmp 17)), none⟩])))))) (.seq (.ops [⟨(some 25), (.move (.tmp 0)), none⟩, ⟨(some 6), (.assign (.tmp 25)), none⟩]) .ret)))), [(.move (.tmp 6))]⟩
theorem k111 : cfun Try.prog 111 = some c111 := by kernel_rfl
def c108 : XFun := ⟨10, (.seq (.ops [⟨(some 4), (.assign (.const (.slice none 0 0))), none⟩]) (.seq (.ops [⟨(some 5), (.move (.tmp 0)), none⟩, ⟨(some 6), (.move (.tmp 1)), none⟩, ⟨(some 7), (.appendS (.tmp 5) (.tmp 6)), none⟩, ⟨(some 8), (.buildSlice 1 1 [(.v (.int .u8 0))] [(0, (.const (.int .u8 0)))]), none⟩, ⟨(some 9), (.append 1 1 (.tmp 7) (.tmp 8)), none⟩, ⟨(some 4), (.assign (.tmp 9)), none⟩]) .ret)), [(.move (.tmp 4))]⟩
theorem k108 : cfun Try.prog 108 = some c108 := by kernel_rfl
def c109 : XFun := ⟨38, (.seq (.ops [⟨(some 4), (.assign (.const (.slice none 0 0))), none⟩]) (.seq (.ops [⟨(some 6), (.move (.tmp 0)), none⟩, ⟨(some 7), (.move (.tmp 1)), none⟩, ⟨(some 8), (.lenL (.tmp 7)), none⟩, ⟨(some 9), (.call 67 [(.tmp 6), (.tmp 8), (.const (.int .i64 2))]), none⟩, ⟨(some 0), (.assign (.tmp 9)), none⟩]) (.seq (.seq (.ops [⟨(some 5), (.assign (.const (.int .i64 0))), none⟩]) (.block 0 (.loop (.seq (.seq (.ops [⟨(some 10), (.move (.tmp 5)), none⟩, ⟨(some 11), (.move (.tmp 1)), none⟩, ⟨(some 12), (.lenL (.tmp 11)), none⟩, ⟨(some 13), (.bin .lss (.tmp 10) (.tmp 12)), none⟩]) (.cond (.tmp 13) .skip (.exit 0))) (.seq (.block 1 (.seq (.ops [⟨(some 16), (.move (.tmp 1)), none⟩, ⟨(some 17), (.move (.tmp 5)), none⟩, ⟨(some 18), (.iaddr 2 (.tmp 16) (.tmp 17)), none⟩, ⟨(some 19), (.faddr 0 (.tmp 18)), none⟩, ⟨(some 20), (.load1 (.tmp 19)), none⟩]) (.cond (.tmp 20) (.ops [⟨(some 21), (.move (.tmp 0)), none⟩, ⟨(some 22), (.call 67 [(.tmp 21), (.const (.int .i64 (-1))), (.const (.int .i64 4))]), none⟩, ⟨(some 0), (.assign (.tmp 22)), none⟩]) (.draws (.take ⟨(some 23), (.move (.tmp 0)), none⟩ (.take ⟨(some 24), (.move (.tmp 1)), none⟩ (.take ⟨(some 25), (.move (.tmp 5)), none⟩ (.take ⟨(some 26), (.iaddr 2 (.tmp 24) (.tmp 25)), none⟩ (.take ⟨(some 27), (.faddr 1 (.tmp 26)), none⟩ (.take ⟨(some 28), (.load1 (.tmp 27)), none⟩ (.take ⟨(some 29), (.lenL (.tmp 28)), none⟩ (.take ⟨(some 31), (.move (.tmp 1)), none⟩ (.take ⟨(some 32), (.move (.tmp 5)), none⟩ (.take ⟨(some 33), (.iaddr 2 (.tmp 31) (.tmp 32)), none⟩ (.take ⟨(some 34), (.faddr 1 (.tmp 33)), none⟩ (.take ⟨(some 35), (.load1 (.tmp 34)), none⟩ (.only ⟨(some 30), (.call 67 [(.tmp 23), (.tmp 29), (.const (.int .i64 4))]), none⟩ (.only ⟨(some 36), (.append 1 1 (.tmp 30) (.tmp 35)), none⟩ (.take ⟨(some 0), (.assign (.tmp 36)), none⟩ .done))))))))))))))))))) (.ops [⟨(some 14), (.move (.tmp 5)), none⟩, ⟨(some 15), (.bin .add (.tmp 14) (.const (.int .i64 1))), none⟩, ⟨(some 5), (.assign (.tmp 15)), none⟩])))))) (.seq (.ops [⟨(some 37), (.move (.tmp 0)), none⟩, ⟨(some 4), (.assign (.tmp 37)), none⟩]) .ret)))), [(.move (.tmp 4))]⟩
theorem k109 : cfun Try.prog 109 = some c109 := by kernel_rfl
def c66 : XFun := ⟨31, (.seq (.ops [⟨(some 6), (.assign (.const (.bool false))), none⟩]) (.seq (.seq (.ops [⟨(some 8), (.move (.tmp 0)), none⟩, ⟨(some 9), (.lenL (.tmp 8)), none⟩, ⟨(some 10), (.bin .gtr (.tmp 9) (.const (.int .i64 65535))), none⟩]) (.cond (.tmp 10) (.seq (.ops [⟨(some 6), (.assign (.const (.bool false))), none⟩]) .ret) .skip)) (.seq (.seq (.ops [⟨(some 7), (.assign (.const (.int .i64 0))), none⟩]) (.block 0 (.loop (.seq (.seq (.ops [⟨(some 11), (.move (.tmp 7)), none⟩, ⟨(some 12), (.move (.tmp 0)), none⟩, ⟨(some 13), (.lenL (.tmp 12)), none⟩, ⟨(some 14), (.bin .lss (.tmp 11) (.tmp 13)), none⟩]) (.cond (.tmp 14) .skip (.exit 0))) (.seq (.block 1 (.seq (.ops [⟨(some 17), (.move (.tmp 0)), none⟩, ⟨(some 18), (.move (.tmp 7)), none⟩, ⟨(some 19), (.iaddr 1 (.tmp 17) (.tmp 18)), none⟩, ⟨(some 20), (.load1 (.tmp 19)), none⟩, ⟨(some 21), (.move (.tmp 1)), none⟩, ⟨(some 22), (.bin .lss (.tmp 20) (.tmp 21)), none⟩, ⟨(some 23), (.move (.tmp 22)), none⟩, ⟨(some 24), (.move (.tmp 0)), (some (23, false))⟩, ⟨(some 25), (.move (.tmp 7)), (some (23, false))⟩, ⟨(some 26), (.iaddr 1 (.tmp 24) (.tmp 25)), (some (23, false))⟩, ⟨(some 27), (.load1 (.tmp 26)), (some (23, false))⟩, ⟨(some 28), (.move (.tmp 2)), (some (23, false))⟩, ⟨(some 29), (.bin .gtr (.tmp 27) (.tmp 28)), (some (23, false))⟩, ⟨(some 30), (.pick (.tmp 23) (.const (.bool true)) (.tmp 29)), none⟩]) (.cond (.tmp 30) (.seq (.ops [⟨(some 6), (.assign (.const (.bool false))), none⟩]) .ret) .skip))) (.ops [⟨(some 15), (.move (.tmp 7)), none⟩, ⟨(some 16), (.bin .add (.tmp 15) (.const (.int .i64 1))), none⟩, ⟨(some 7), (.assign (.tmp 16)), none⟩])))))) (.seq (.ops [⟨(some 6), (.assign (.const (.bool true))), none⟩]) .ret)))), [(.move (.tmp 6))]⟩
theorem k66 : cfun Try.prog 66 = some c66 := by kernel_rfl
def c130 : XFun := ⟨36, (.seq (.ops [⟨(some 2), (.assign (.const (.bool false))), none⟩]) (.seq (.seq (.ops [⟨(some 4), (.move (.tmp 0)), none⟩, ⟨(some 5), (.lenL (.tmp 4)), none⟩, ⟨(some 6), (.bin .gtr (.tmp 5) (.const (.int .i64 65535))), none⟩]) (.cond (.tmp 6) (.seq (.ops [⟨(some 2), (.assign (.const (.bool false))), none⟩]) .ret) .skip)) (.seq (.seq (.ops [⟨(some 3), (.assign (.const (.int .i64 0))), none⟩]) (.block 0 (.loop (.seq (.seq (.ops [⟨(some 7), (.move (.tmp 3)), none⟩, ⟨(some 8), (.move (.tmp 0)), none⟩, ⟨(some 9), (.lenL (.tmp 8)), none⟩, ⟨(some 10), (.bin .lss (.tmp 7) (.tmp 9)), none⟩]) (.cond (.tmp 10) .skip (.exit 0))) (.seq (.block 1 (.seq (.ops [⟨(some 13), (.move (.tmp 0)), none⟩, ⟨(some 14), (.move (.tmp 3)), none⟩, ⟨(some 15), (.iaddr 2 (.tmp 13) (.tmp 14)), none⟩, ⟨(some 16), (.faddr 0 (.tmp 15)), none⟩, ⟨(some 17), (.load1 (.tmp 16)), none⟩, ⟨(some 18), (.move (.tmp 17)), none⟩, ⟨(some 19), (.move (.tmp 0)), (some (18, true))⟩, ⟨(some 20), (.move (.tmp 3)), (some (18, true))⟩, ⟨(some 21), (.iaddr 2 (.tmp 19) (.tmp 20)), (some (18, true))⟩, ⟨(some 22), (.faddr 1 (.tmp 21)), (some (18, true))⟩, ⟨(some 23), (.load1 (.tmp 22)), (some (18, true))⟩, ⟨(some 24), (.lenL (.tmp 23)), (some (18, true))⟩, ⟨(some 25), (.bin .gtr (.tmp 24) (.const (.int .i64 0))), (some (18, true))⟩, ⟨(some 26), (.pick (.tmp 18) (.tmp 25) (.const (.bool false))), none⟩, ⟨(some 27), (.move (.tmp 26)), none⟩, ⟨(some 28), (.move (.tmp 0)), (some (27, false))⟩, ⟨(some 29), (.move (.tmp 3)), (some (27, false))⟩, ⟨(some 30), (.iaddr 2 (.tmp 28) (.tmp 29)), (some (27, false))⟩, ⟨(some 31), (.faddr 1 (.tmp 30)), (some (27, false))⟩, ⟨(some 32), (.load1 (.tmp 31)), (some (27, false))⟩, ⟨(some 33), (.lenL (.tmp 32)), (some (27, false))⟩, ⟨(some 34), (.bin .gtr (.tmp 33) (.const (.int .i64 1048576))), (some (27, false))⟩, ⟨(some 35), (.pick (.tmp 27) (.const (.bool true)) (.tmp 34)), none⟩]) (.cond (.tmp 35) (.seq (.ops [⟨(some 2), (.assign (.const (.bool false))), none⟩]) .ret) .skip))) (.ops [⟨(some 11), (.move (.tmp 3)), none⟩, ⟨(some 12), (.bin .add (.tmp 11) (.const (.int .i64 1))), none⟩, ⟨(some 3), (.assign (.tmp 12)), none⟩])))))) (.seq (.ops [⟨(some 2), (.assign (.const (.bool true))), none⟩]) .ret)))), [(.move (.tmp 2))]⟩
theorem k130 : cfun Try.prog 130 = some c130 := by kernel_rfl
def c44 : XFun := ⟨26, (.seq (.ops [⟨(some 4), (.assign (.const (.bool false))), none⟩]) (.seq (.seq (.ops [⟨(some 6), (.move (.tmp 0)), none⟩, ⟨(some 7), (.lenL (.tmp 6)), none⟩, ⟨(some 8), (.move (.tmp 1)), none⟩, ⟨(some 9), (.lenL (.tmp 8)), none⟩, ⟨(some 10), (.bin .neq (.tmp 7) (.tmp 9)), none⟩]) (.cond (.tmp 10) (.seq (.ops [⟨(some 4), (.assign (.const (.bool false))), none⟩]) .ret) .skip)) (.seq (.seq (.ops [⟨(some 5), (.assign (.const (.int .i64 0))), none⟩]) (.block 0 (.loop (.seq (.seq (.ops [⟨(some 11), (.move (.tmp 5)), none⟩, ⟨(some 12), (.move (.tmp 0)), none⟩, ⟨(some 13), (.lenL (.tmp 12)), none⟩, ⟨(some 14), (.bin .lss (.tmp 11) (.tmp 13)), none⟩]) (.cond (.tmp 14) .skip (.exit 0))) (.seq (.block 1 (.seq (.draws (.take ⟨(some 17), (.move (.tmp 0)), none⟩ (.take ⟨(some 18), (.move (.tmp 5)), none⟩ (.take ⟨(some 19), (.iaddr 1 (.tmp 17) (.tmp 18)), none⟩ (.take ⟨(some 20), (.load1 (.tmp 19)), none⟩ (.take ⟨(some 21), (.move (.tmp 1)), none⟩ (.take ⟨(some 22), (.move (.tmp 5)), none⟩ (.take ⟨(some 23), (.iaddr 1 (.tmp 21) (.tmp 22)), none⟩ (.take ⟨(some 24), (.load1 (.tmp 23)), none⟩ (.take ⟨(some 25), (.bin .neq (.tmp 20) (.tmp 24)), none⟩ .done)))))))))) (.cond (.tmp 25) (.seq (.ops [⟨(some 4), (.assign (.const (.bool false))), none⟩]) .ret) .skip))) (.ops [⟨(some 15), (.move (.tmp 5)), none⟩, ⟨(some 16), (.bin .add (.tmp 15) (.const (.int .i64 1))), none⟩, ⟨(some 5), (.assign (.tmp 16)), none⟩])))))) (.seq (.ops [⟨(some 4), (.assign (.const (.bool true))), none⟩]) .ret)))), [(.move (.tmp 4))]⟩
theorem k44 : cfun Try.prog 44 = some c44 := by kernel_rfl
def c12 : XFun := ⟨43, (.seq (.ops [⟨(some 4), (.assign (.const (.bool false))), none⟩]) (.seq (.seq (.ops [⟨(some 6), (.move (.tmp 0)), none⟩, ⟨(some 7), (.lenL (.tmp 6)), none⟩, ⟨(some 8), (.move (.tmp 1)), none⟩, ⟨(some 9), (.lenL (.tmp 8)), none⟩, ⟨(some 10), (.bin .neq (.tmp 7) (.tmp 9)), none⟩]) (.cond (.tmp 10) (.seq (.ops [⟨(some 4), (.assign (.const (.bool false))), none⟩]) .ret) .skip)) (.seq (.seq (.ops [⟨(some 5), (.assign (.const (.int .i64 0))), none⟩]) (.block 0 (.loop (.seq (.seq (.ops [⟨(some 11), (.move (.tmp 5)), none⟩, ⟨(some 12), (.move (.tmp 0)), none⟩, ⟨(some 13), (.lenL (.tmp 12)), none⟩, ⟨(some 14), (.bin .lss (.tmp 11) (.tmp 13)), none⟩]) (.cond (.tmp 14) .skip (.exit 0))) (.seq (.block 1 (.seq (.draws (.take ⟨(some 17), (.move (.tmp 0)), none⟩ (.take ⟨(some 18), (.move (.tmp 5)), none⟩ (.take ⟨(some 19), (.iaddr 2 (.tmp 17) (.tmp 18)), none⟩ (.take ⟨(some 20), (.faddr 0 (.tmp 19)), none⟩ (.take ⟨(some 21), (.load1 (.tmp 20)), none⟩ (.take ⟨(some 22), (.move (.tmp 1)), none⟩ (.take ⟨(some 23), (.move (.tmp 5)), none⟩ (.take ⟨(some 24), (.iaddr 2 (.tmp 22) (.tmp 23)), none⟩ (.take ⟨(some 25), (.faddr 0 (.tmp 24)), none⟩ (.take ⟨(some 26), (.load1 (.tmp 25)), none⟩ (.take ⟨(some 27), (.beq true (.tmp 21) (.tmp 26)), none⟩ (.take ⟨(some 28), (.move (.tmp 27)), none⟩ (.take ⟨(some 29), (.move (.tmp 0)), (some (28, false))⟩ (.take ⟨(some 30), (.move (.tmp 5)), (some (28, false))⟩ (.take ⟨(some 31), (.iaddr 2 (.tmp 29) (.tmp 30)), (some (28, false))⟩ (.take ⟨(some 32), (.faddr 1 (.tmp 31)), (some (28, false))⟩ (.take ⟨(some 33), (.load1 (.tmp 32)), (some (28, false))⟩ (.take ⟨(some 34), (.b2s (.tmp 33)), (some (28, false))⟩ (.take ⟨(some 35), (.move (.tmp 1)), (some (28, false))⟩ (.take ⟨(some 36), (.move (.tmp 5)), (some (28, false))⟩ (.take ⟨(some 37), (.iaddr 2 (.tmp 35) (.tmp 36)), (some (28, false))⟩ (.take ⟨(some 38), (.faddr 1 (.tmp 37)), (some (28, false))⟩ (.take ⟨(some 39), (.load1 (.tmp 38)), (some (28, false))⟩ (.take ⟨(some 40), (.b2s (.tmp 39)), (some (28, false))⟩ (.take ⟨(some 41), (.bin .neq (.tmp 34) (.tmp 40)), (some (28, false))⟩ (.take ⟨(some 42), (.pick (.tmp 28) (.const (.bool true)) (.tmp 41)), none⟩ .done))))))))))))))))))))))))))) (.cond (.tmp 42) (.seq (.ops [⟨(some 4), (.assign (.const (.bool false))), none⟩]) .ret) .skip))) (.ops [⟨(some 15), (.move (.tmp 5)), none⟩, ⟨(some 16), (.bin .add (.tmp 15) (.const (.int .i64 1))), none⟩, ⟨(some 5), (.assign (.tmp 16)), none⟩])))))) (.seq (.ops [⟨(some 4), (.assign (.const (.bool true))), none⟩]) .ret)))), [(.move (.tmp 4))]⟩
theorem k12 : cfun Try.prog 12 = some c12 := by kernel_rfl
end Go.Proofs.Ytebggfghemblbaa.Ax
/- Front's messages over values without memory: which kinds are served, checks, what is the same. -/
namespace Go.Proofs.Ytebggfghemblbaa.Ax
open Go.RowKit Go By Nm Sc Dg
set_option linter.unusedSimpArgs false
set_option linter.unusedVariables false
set_option maxRecDepth 10000

/-! ### Which kinds are served -/
def knownI (k : Int) : Int :=
  if k = 66 ∨ k = 67 ∨ k = 68 ∨ k = 69 ∨ k = 72 ∨ k = 80 ∨ k = 81 ∨ k = 83 ∨ k = 88 then 1 else if k = 70 ∨ k = 99 ∨ k = 100 ∨ k = 102 ∨ k = 112 then 2 else 0
/-! ### A message -/
/-- Its lists, and what they hold, are no longer than memory is. -/
def FmFit (m : Fm) : Prop := m.oids.length ≤ 140737488355328 ∧ m.formats.length ≤ 140737488355328 ∧ m.results.length ≤ 140737488355328 ∧ m.params.length ≤ 140737488355328 ∧ (∀ c ∈ m.params, c.2.length ≤ 140737488355328) ∧ m.name.length ≤ 140737488355328 ∧ m.portal.length ≤ 140737488355328 ∧ m.text.length ≤ 140737488355328

def sameF (a b : Fm) : Bool := a.kind == b.kind && a.what == b.what && (a.name == b.name && a.portal == b.portal && a.text == b.text) && a.max == b.max && a.oids == b.oids && a.formats == b.formats && a.results == b.results && a.params == b.params
theorem sameF_eq (a b : Fm) : sameF a b = decide (a = b) := by
  obtain ⟨a1, a2, a3, a4, a5, a6, a7, a8, a9, a10⟩ := a
  obtain ⟨b1, b2, b3, b4, b5, b6, b7, b8, b9, b10⟩ := b
  rw [Bool.eq_iff_iff]
  simp [sameF]
  constructor
  · rintro ⟨⟨⟨⟨⟨⟨⟨h1, h2⟩, h3, h4, h5⟩, h6⟩, h7⟩, h8⟩, h9⟩, h10⟩; simp_all
  · rintro ⟨h1, h2, h3, h4, h5, h6, h7, h8, h9, h10⟩; simp_all
theorem sliceseq_c (l m : List Int) (hl : l.length ≤ 140737488355328) (h : List (List AV)) : Contract Try.prog 68 [.sl 1 (enc intC l) none .no, .sl 1 (enc intC m) none .no] h (.v (.bool (l == m))) h [] := by
  have := equal1_any mixed k68 l m h hl
  rwa [eqL_beq] at this
/-! ### Checks -/
def whatB (m : Fm) : Bool := (!(m.kind == 67) && !(m.kind == 68)) || m.what == 83 || m.what == 80
def listsB (m : Fm) : Bool := (decide (m.oids.length ≤ 65535) && (decide (m.formats.length ≤ 65535) && (decide (m.results.length ≤ 65535) && decide (m.params.length ≤ 65535)))) && (m.oids.all (unsB 4) && (m.formats.all (unsB 2) && (m.results.all (unsB 2) && m.params.all cellB)))
/-- With those fields alone that the body has. -/
def saidF (m : Fm) : Fm :=
  if m.kind = 80 then ⟨80, 0, m.name, [], m.text, m.oids, [], [], [], 0⟩
  else if m.kind = 66 then ⟨66, 0, m.name, m.portal, [], [], m.formats, m.results, m.params, 0⟩
  else if m.kind = 67 ∨ m.kind = 68 then (if m.what = 83 then ⟨m.kind, m.what, m.name, [], [], [], [], [], [], 0⟩ else ⟨m.kind, m.what, [], m.portal, [], [], [], [], [], 0⟩)
  else if m.kind = 69 then ⟨69, 0, [], m.portal, [], [], [], [], [], m.max⟩
  else if m.kind = 81 then ⟨81, 0, [], [], m.text, [], [], [], [], 0⟩
  else ⟨m.kind, 0, [], [], [], [], [], [], [], 0⟩
/-- What is wrong with a message. -/
def cleanF (m : Fm) : Bool := cleanB m.name && (cleanB m.portal && cleanB m.text)
def checkF (m : Fm) : Int :=
  if ¬ knownI m.kind = 1 then 9
  else if whatB m && (listsB m && (cleanF m && (sgnB 4 m.max && sameF m (saidF m)))) then 0 else 1
theorem fmfit_said {m : Fm} (h : FmFit m) : FmFit (saidF m) := by
  obtain ⟨h1, h2, h3, h4, h5, h6, h7, h8⟩ := h
  unfold saidF FmFit
  repeat' split
  all_goals simp [h1, h2, h3, h4, h6, h7, h8]
  all_goals exact ⟨fun b hc => h5 (_, b) hc, fun b hc => h5 (_, b) hc⟩
end Go.Proofs.Ytebggfghemblbaa.Ax
namespace Go.Proofs.Ytebggfghemblbaa.Ax
open Go.RowKit Go By Nm Sc Dg
set_option linter.unusedSimpArgs false
set_option linter.unusedVariables false
set_option maxRecDepth 10000

theorem rints_c (xs ys : List Int) (hl : xs.length ≤ 140737488355328) (h : List (List AV)) : Contract Try.prog 44 [.sl 1 (enc intC xs) none .no, .sl 1 (enc intC ys) none .no] h (.v (.bool (xs == ys))) h [] := by
  refine contract_of k44 mixed (by simp [c44]) fun hh hargs => ?_
  rw [← eqL_beq]
  by_cases hlen : xs.length = ys.length
  · simp [c44, hlen]
    refine xloop_ok (D := Nat) (fun j => ⟨[(0, .sl 1 (enc intC xs) none .no), (1, .sl 1 (enc intC ys) none .no), (5, .v (.int .i64 j))], [], h, []⟩) (fun j => j ≤ xs.length ∧ ∀ i (h1 : i < xs.length) (h2 : i < ys.length), i < j → ((· == ·) : Int → Int → Bool) xs[i] ys[i] = true) (fun j => xs.length - j) 0 ⟨by omega, fun i h1 h2 h3 => by omega⟩ ?_ ?_
    · simp [Leq, hh]
    · rintro j ⟨hj, hp⟩
      by_cases hlt : j < ys.length
      · have hlt' : j < xs.length := by omega
        have hw : IntKind.i64.wrap ((j : Int) + 1) = (j : Int) + 1 := wrap64 (by omega) (by omega)
        simp [hlt, hlt', intC]
        refine xwp_cond_of (xs[j] != ys[j]) (by simp) (fun ht => ?_) (fun hf' => ?_)
        · simp at ht
          have : eqL (· == ·) xs ys = false := eqL_no (i := j) hlt' hlt (by simpa using ht)
          simp [hh, this]
        · simp at hf'
          simp [hw]
          refine ⟨j + 1, ⟨by omega, fun i h1 h2 h3 => ?_⟩, by omega, ?_⟩
          · rcases Nat.lt_or_ge i j with h4 | h4
            · simpa using hp i h1 h2 h4
            · have : i = j := by omega
              subst this; simpa using hf'
          · simp [Leq, hh]
      · have hx : eqL (· == ·) xs ys = true := (eqL_iff _ xs ys).2 ⟨hlen, fun i h1 h2 => hp i h1 h2 (by omega)⟩
        have hlt' : ¬ j < xs.length := by omega
        simp [hh, hx, hlt, hlt']
  · have hne : (xs.length : Int) ≠ ys.length := by omega
    have hx : eqL (· == ·) xs ys = false := eqL_len hlen
    simp [c44, hne, hh, hx]
theorem rcells_c (xs ys : List Cl) (hl : xs.length ≤ 140737488355328) (h : List (List AV)) : Contract Try.prog 12 [.sl 2 (enc cellC xs) none .no, .sl 2 (enc cellC ys) none .no] h (.v (.bool (xs == ys))) h [] := by
  refine contract_of k12 mixed (by simp [c12]) fun hh hargs => ?_
  rw [← eqL_beq]
  by_cases hlen : xs.length = ys.length
  · simp [c12, hlen]
    refine xloop_ok (D := Nat) (fun j => ⟨[(0, .sl 2 (enc cellC xs) none .no), (1, .sl 2 (enc cellC ys) none .no), (5, .v (.int .i64 j))], [], h, []⟩) (fun j => j ≤ xs.length ∧ ∀ i (h1 : i < xs.length) (h2 : i < ys.length), i < j → ((· == ·) : Cl → Cl → Bool) xs[i] ys[i] = true) (fun j => xs.length - j) 0 ⟨by omega, fun i h1 h2 h3 => by omega⟩ ?_ ?_
    · simp [Leq, hh]
    · rintro j ⟨hj, hp⟩
      by_cases hlt : j < ys.length
      · have hlt' : j < xs.length := by omega
        have hw : IntKind.i64.wrap ((j : Int) + 1) = (j : Int) + 1 := wrap64 (by omega) (by omega)
        obtain ⟨n, b, hx⟩ : ∃ n b, xs[j] = (n, b) := ⟨_, _, rfl⟩
        obtain ⟨m, d, hy⟩ : ∃ m d, ys[j] = (m, d) := ⟨_, _, rfl⟩
        have next : xs[j] = ys[j] → ∀ i (h1 : i < xs.length) (h2 : i < ys.length), i < j + 1 → ((· == ·) : Cl → Cl → Bool) xs[i] ys[i] = true := fun he i h1 h2 h3 => by
          rcases Nat.lt_or_ge i j with h4 | h4
          · exact hp i h1 h2 h4
          · have : i = j := by omega
            subst this; simp [he]
        have no : xs[j] ≠ ys[j] → eqL (· == ·) xs ys = false := fun he => eqL_no (i := j) hlt' hlt (by simpa using he)
        rw [hx, hy] at next no
        cases hnm : n == m with
        | false =>
          have e := no (by rintro he; injection he with h1 h2; simp [h1] at hnm)
          simp [hlt, hlt', hx, hy, cellC_mk, hnm, hh, e]
        | true =>
          have hnm' : n = m := by simpa using hnm
          cases hbd : b == d with
          | false =>
            have e := no (by rintro he; injection he with h1 h2; simp [h2] at hbd)
            simp [hlt, hlt', hx, hy, cellC_mk, hnm, hbd, hh, e]
          | true =>
            have hbd' : b = d := by simpa using hbd
            have e := next (by rw [hnm', hbd'])
            simp [hlt, hlt', hx, hy, cellC_mk, hnm, hbd, hw]
            refine ⟨j + 1, ⟨by omega, fun i h1 h2 h3 => by simpa using e i h1 h2 h3⟩, by omega, ?_⟩
            simp [Leq, hh]
      · have hx : eqL (· == ·) xs ys = true := (eqL_iff _ xs ys).2 ⟨hlen, fun i h1 h2 => hp i h1 h2 (by omega)⟩
        have hlt' : ¬ j < xs.length := by omega
        simp [hh, hx, hlt, hlt']
  · have hne : (xs.length : Int) ≠ ys.length := by omega
    have hx : eqL (· == ·) xs ys = false := eqL_len hlen
    simp [c12, hne, hh, hx]
def betB (lo hi z : Int) : Bool := !decide (z < lo) && !decide (hi < z)
theorem take_all {α : Type} {p : α → Bool} {xs : List α} {j : Nat} (hj : j < xs.length) (h1 : ∀ x ∈ xs.take j, p x = true) (h2 : p xs[j] = true) : ∀ x ∈ xs.take (j + 1), p x = true := by
  rw [take_next hj]
  intro x hx
  rcases List.mem_append.1 hx with h | h
  · exact h1 x h
  · simp at h; subst h; exact h2
theorem all_no {α : Type} {p : α → Bool} {xs : List α} {j : Nat} (hj : j < xs.length) (h2 : p xs[j] = false) : xs.all p = false := by
  rw [List.all_eq_false]; exact ⟨_, List.getElem_mem hj, by simp [h2]⟩
theorem rbetween_c (l : List Int) (lo hi : Int) (h : List (List AV)) : Contract Try.prog 66 [.sl 1 (enc intC l) none .no, .v (.int .i64 lo), .v (.int .i64 hi)] h (.v (.bool (decide (l.length ≤ 65535) && l.all (betB lo hi)))) h [] := by
  refine contract_of k66 mixed (by simp [c66]) fun hh hargs => ?_
  by_cases hl : (65535 : Int) < l.length
  · have hl' : ¬ l.length ≤ 65535 := by omega
    simp [c66, hl, hl', hh]
  · have hl' : l.length ≤ 65535 := by omega
    simp [c66, hl, hl']
    refine xloop_ok (D := Nat) (fun j => ⟨[(0, .sl 1 (enc intC l) none .no), (1, .v (.int .i64 lo)), (2, .v (.int .i64 hi)), (7, .v (.int .i64 j))], [], h, []⟩) (fun j => j ≤ l.length ∧ ∀ x ∈ l.take j, betB lo hi x = true) (fun j => l.length - j) 0 (by simp) ?_ ?_
    · simp [Leq, hh]
    · rintro j ⟨hj, hp⟩
      by_cases hlt : j < l.length
      · have hw : IntKind.i64.wrap ((j : Int) + 1) = (j : Int) + 1 := wrap64 (by omega) (by omega)
        by_cases h1 : l[j] < lo
        · have e := all_no (p := betB lo hi) hlt (by simp [betB, h1])
          simp [hlt, intC, h1, hh, e]
        · by_cases h2 : hi < l[j]
          · have e := all_no (p := betB lo hi) hlt (by simp [betB, h2])
            simp [hlt, intC, h1, h2, hh, e]
          · simp [hlt, intC, h1, h2, hw]
            refine ⟨j + 1, ⟨by omega, take_all hlt hp (by simp [betB, h1, h2])⟩, by omega, ?_⟩
            simp [Leq, hh]
      · have : j = l.length := by omega
        subst this
        have e : l.all (betB lo hi) = true := by rw [List.take_length] at hp; exact List.all_eq_true.2 hp
        simp [hh, e]
theorem rvalues_c (l : List Cl) (h : List (List AV)) : Contract Try.prog 130 [.sl 2 (enc cellC l) none .no] h (.v (.bool (decide (l.length ≤ 65535) && l.all cellB))) h [] := by
  refine contract_of k130 mixed (by simp [c130]) fun hh hargs => ?_
  by_cases hl : (65535 : Int) < l.length
  · have hl' : ¬ l.length ≤ 65535 := by omega
    simp [c130, hl, hl', hh]
  · have hl' : l.length ≤ 65535 := by omega
    simp [c130, hl, hl']
    refine xloop_ok (D := Nat) (fun j => ⟨[(0, .sl 2 (enc cellC l) none .no), (3, .v (.int .i64 j))], [], h, []⟩) (fun j => j ≤ l.length ∧ ∀ x ∈ l.take j, cellB x = true) (fun j => l.length - j) 0 (by simp) ?_ ?_
    · simp [Leq, hh]
    · rintro j ⟨hj, hp⟩
      by_cases hlt : j < l.length
      · have hw : IntKind.i64.wrap ((j : Int) + 1) = (j : Int) + 1 := wrap64 (by omega) (by omega)
        obtain ⟨n, b, hx⟩ : ∃ n b, l[j] = (n, b) := ⟨_, _, rfl⟩
        by_cases h1 : (1048576 : Int) < b.length
        · have h3 : ¬ b.length ≤ 1048576 := by omega
          have e := all_no (p := cellB) hlt (by rw [hx]; simp [cellB, h3])
          cases n
          · simp [hlt, hx, cellC_mk, h1, hh, e]
          · have h2 : 0 < b.length := by omega
            simp [hlt, hx, cellC_mk, h1, h2, hh, e]
        · have h1' : b.length ≤ 1048576 := by omega
          cases n
          · simp [hlt, hx, cellC_mk, h1, hw]
            refine ⟨j + 1, ⟨by omega, ⟨fun b => take_all hlt hp (by rw [hx]; simp [cellB, h1']) (_, b), fun b => take_all hlt hp (by rw [hx]; simp [cellB, h1']) (_, b)⟩⟩, by omega, ?_⟩
            simp [Leq, hh]
          · by_cases h2 : 0 < b.length
            · have e := all_no (p := cellB) hlt (by rw [hx]; simp [cellB, h2])
              simp [hlt, hx, cellC_mk, h1, h2, hh, e]
            · simp [hlt, hx, cellC_mk, h1, h2, hw]
              refine ⟨j + 1, ⟨by omega, ⟨fun b => take_all hlt hp (by rw [hx]; simp [cellB, h1', h2]) (_, b), fun b => take_all hlt hp (by rw [hx]; simp [cellB, h1', h2]) (_, b)⟩⟩, by omega, ?_⟩
              simp [Leq, hh]
      · have : j = l.length := by omega
        subst this
        have e : l.all cellB = true := by rw [List.take_length] at hp; exact List.all_eq_true.2 hp
        simp [hh, e]
/-- Whether that one speaks of something, as the document says it. -/
def rwhatB (m : Fm) : Bool := if m.kind = 67 ∨ m.kind = 68 then m.what == 83 || m.what == 80 else m.what == 0 || (m.what == 83 || m.what == 80)
def rlistsB (m : Fm) : Bool := (decide (m.oids.length ≤ 65535) && m.oids.all (betB 0 4294967295)) && ((decide (m.formats.length ≤ 65535) && m.formats.all (betB 0 65535)) && ((decide (m.results.length ≤ 65535) && m.results.all (betB 0 65535)) && (decide (m.params.length ≤ 65535) && m.params.all cellB)))
def rcheckF (m : Fm) : Int :=
  if ¬ knownI m.kind = 1 then 9
  else if cleanF m && (rlistsB m && (rwhatB m && (betB (-2147483648) 2147483647 m.max && sameF m (saidF m)))) then 0 else 1
end Go.Proofs.Ytebggfghemblbaa.Ax
