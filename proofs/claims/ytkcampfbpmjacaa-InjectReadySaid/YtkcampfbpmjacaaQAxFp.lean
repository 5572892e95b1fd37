/- The document's answers for front, over values without memory: checks, what is the same. -/
import Derived.Test.YtkcampfbpmjacaaQAxX
import Derived.Test.YtkcampfbpmjacaaRows
import Derived.Test.YtkcampfbpmjacaaQAxWi
import Derived.Test.YtkcampfbpmjacaaQCodeF
/- The texts of functions over values without memory, as the kernel reckons them out of the program. -/
namespace Go.Proofs.Ytkcampfbpmjacaa.Ax
open Go.RowKit Go By

def c12 : XFun := ⟨75, (.seq (.ops [⟨(some 2), (.box (.tmp 0)), none⟩, ⟨(some 3), (.box (.tmp 1)), none⟩, ⟨(some 4), (.assign (.const (.bool false))), none⟩]) (.seq (.ops [⟨(some 6), (.faddr 0 (.tmp 2)), none⟩, ⟨(some 7), (.load1 (.tmp 6)), none⟩, ⟨(some 8), (.faddr 0 (.tmp 3)), none⟩, ⟨(some 9), (.load1 (.tmp 8)), none⟩, ⟨(some 10), (.bin .eql (.tmp 7) (.tmp 9)), none⟩, ⟨(some 11), (.move (.tmp 10)), none⟩, ⟨(some 12), (.faddr 1 (.tmp 2)), (some (11, true))⟩, ⟨(some 13), (.load1 (.tmp 12)), (some (11, true))⟩, ⟨(some 14), (.faddr 1 (.tmp 3)), (some (11, true))⟩, ⟨(some 15), (.load1 (.tmp 14)), (some (11, true))⟩, ⟨(some 16), (.bin .eql (.tmp 13) (.tmp 15)), (some (11, true))⟩, ⟨(some 17), (.pick (.tmp 11) (.tmp 16) (.const (.bool false))), none⟩, ⟨(some 18), (.move (.tmp 17)), none⟩, ⟨(some 19), (.faddr 2 (.tmp 2)), (some (18, true))⟩, ⟨(some 20), (.load1 (.tmp 19)), (some (18, true))⟩, ⟨(some 21), (.faddr 2 (.tmp 3)), (some (18, true))⟩, ⟨(some 22), (.load1 (.tmp 21)), (some (18, true))⟩, ⟨(some 23), (.bin .eql (.tmp 20) (.tmp 22)), (some (18, true))⟩, ⟨(some 24), (.pick (.tmp 18) (.tmp 23) (.const (.bool false))), none⟩, ⟨(some 25), (.move (.tmp 24)), none⟩, ⟨(some 26), (.faddr 3 (.tmp 2)), (some (25, true))⟩, ⟨(some 27), (.load1 (.tmp 26)), (some (25, true))⟩, ⟨(some 28), (.faddr 3 (.tmp 3)), (some (25, true))⟩, ⟨(some 29), (.load1 (.tmp 28)), (some (25, true))⟩, ⟨(some 30), (.bin .eql (.tmp 27) (.tmp 29)), (some (25, true))⟩, ⟨(some 31), (.pick (.tmp 25) (.tmp 30) (.const (.bool false))), none⟩, ⟨(some 32), (.move (.tmp 31)), none⟩, ⟨(some 33), (.faddr 4 (.tmp 2)), (some (32, true))⟩, ⟨(some 34), (.load1 (.tmp 33)), (some (32, true))⟩, ⟨(some 35), (.faddr 4 (.tmp 3)), (some (32, true))⟩, ⟨(some 36), (.load1 (.tmp 35)), (some (32, true))⟩, ⟨(some 37), (.bin .eql (.tmp 34) (.tmp 36)), (some (32, true))⟩, ⟨(some 38), (.pick (.tmp 32) (.tmp 37) (.const (.bool false))), none⟩, ⟨(some 39), (.move (.tmp 38)), none⟩, ⟨(some 40), (.faddr 9 (.tmp 2)), (some (39, true))⟩, ⟨(some 41), (.load1 (.tmp 40)), (some (39, true))⟩, ⟨(some 42), (.faddr 9 (.tmp 3)), (some (39, true))⟩, ⟨(some 43), (.load1 (.tmp 42)), (some (39, true))⟩, ⟨(some 44), (.bin .eql (.tmp 41) (.tmp 43)), (some (39, true))⟩, ⟨(some 45), (.pick (.tmp 39) (.tmp 44) (.const (.bool false))), none⟩, ⟨(some 5), (.assign (.tmp 45)), none⟩]) (.seq (.ops [⟨(some 46), (.move (.tmp 5)), none⟩, ⟨(some 47), (.move (.tmp 46)), none⟩, ⟨(some 48), (.faddr 5 (.tmp 2)), (some (47, true))⟩, ⟨(some 49), (.load1 (.tmp 48)), (some (47, true))⟩, ⟨(some 50), (.faddr 5 (.tmp 3)), (some (47, true))⟩, ⟨(some 51), (.load1 (.tmp 50)), (some (47, true))⟩, ⟨(some 52), (.call 38 [(.tmp 49), (.tmp 51)]), (some (47, true))⟩, ⟨(some 53), (.pick (.tmp 47) (.tmp 52) (.const (.bool false))), none⟩, ⟨(some 54), (.move (.tmp 53)), none⟩, ⟨(some 55), (.faddr 6 (.tmp 2)), (some (54, true))⟩, ⟨(some 56), (.load1 (.tmp 55)), (some (54, true))⟩, ⟨(some 57), (.faddr 6 (.tmp 3)), (some (54, true))⟩, ⟨(some 58), (.load1 (.tmp 57)), (some (54, true))⟩, ⟨(some 59), (.call 38 [(.tmp 56), (.tmp 58)]), (some (54, true))⟩, ⟨(some 60), (.pick (.tmp 54) (.tmp 59) (.const (.bool false))), none⟩, ⟨(some 61), (.move (.tmp 60)), none⟩, ⟨(some 62), (.faddr 7 (.tmp 2)), (some (61, true))⟩, ⟨(some 63), (.load1 (.tmp 62)), (some (61, true))⟩, ⟨(some 64), (.faddr 7 (.tmp 3)), (some (61, true))⟩, ⟨(some 65), (.load1 (.tmp 64)), (some (61, true))⟩, ⟨(some 66), (.call 38 [(.tmp 63), (.tmp 65)]), (some (61, true))⟩, ⟨(some 67), (.pick (.tmp 61) (.tmp 66) (.const (.bool false))), none⟩, ⟨(some 68), (.move (.tmp 67)), none⟩, ⟨(some 69), (.faddr 8 (.tmp 2)), (some (68, true))⟩, ⟨(some 70), (.load1 (.tmp 69)), (some (68, true))⟩, ⟨(some 71), (.faddr 8 (.tmp 3)), (some (68, true))⟩, ⟨(some 72), (.load1 (.tmp 71)), (some (68, true))⟩, ⟨(some 73), (.call 39 [(.tmp 70), (.tmp 72)]), (some (68, true))⟩, ⟨(some 74), (.pick (.tmp 68) (.tmp 73) (.const (.bool false))), none⟩, ⟨(some 4), (.assign (.tmp 74)), none⟩]) .ret))), [(.move (.tmp 4))]⟩
theorem k12 : cfun Try.prog 12 = some c12 := by kernel_rfl
def c38 : XFun := ⟨26, (.seq (.ops [⟨(some 4), (.assign (.const (.bool false))), none⟩]) (.seq (.seq (.ops [⟨(some 6), (.move (.tmp 0)), none⟩, ⟨(some 7), (.lenL (.tmp 6)), none⟩, ⟨(some 8), (.move (.tmp 1)), none⟩, ⟨(some 9), (.lenL (.tmp 8)), none⟩, ⟨(some 10), (.bin .neq (.tmp 7) (.tmp 9)), none⟩]) (.cond (.tmp 10) (.seq (.ops [⟨(some 4), (.assign (.const (.bool false))), none⟩]) .ret) .skip)) (.seq (.seq (.ops [⟨(some 5), (.assign (.const (.int .i64 0))), none⟩]) (.block 0 (.loop (.seq (.seq (.ops [⟨(some 11), (.move (.tmp 5)), none⟩, ⟨(some 12), (.move (.tmp 0)), none⟩, ⟨(some 13), (.lenL (.tmp 12)), none⟩, ⟨(some 14), (.bin .lss (.tmp 11) (.tmp 13)), none⟩]) (.cond (.tmp 14) .skip (.exit 0))) (.seq (.block 1 (.seq (.draws (.take ⟨(some 17), (.move (.tmp 0)), none⟩ (.take ⟨(some 18), (.move (.tmp 5)), none⟩ (.take ⟨(some 19), (.iaddr 1 (.tmp 17) (.tmp 18)), none⟩ (.take ⟨(some 20), (.load1 (.tmp 19)), none⟩ (.take ⟨(some 21), (.move (.tmp 1)), none⟩ (.take ⟨(some 22), (.move (.tmp 5)), none⟩ (.take ⟨(some 23), (.iaddr 1 (.tmp 21) (.tmp 22)), none⟩ (.take ⟨(some 24), (.load1 (.tmp 23)), none⟩ (.take ⟨(some 25), (.bin .neq (.tmp 20) (.tmp 24)), none⟩ .done)))))))))) (.cond (.tmp 25) (.seq (.ops [⟨(some 4), (.assign (.const (.bool false))), none⟩]) .ret) .skip))) (.ops [⟨(some 15), (.move (.tmp 5)), none⟩, ⟨(some 16), (.bin .add (.tmp 15) (.const (.int .i64 1))), none⟩, ⟨(some 5), (.assign (.tmp 16)), none⟩])))))) (.seq (.ops [⟨(some 4), (.assign (.const (.bool true))), none⟩]) .ret)))), [(.move (.tmp 4))]⟩
theorem k38 : cfun Try.prog 38 = some c38 := by kernel_rfl
def c39 : XFun := ⟨43, (.seq (.ops [⟨(some 4), (.assign (.const (.bool false))), none⟩]) (.seq (.seq (.ops [⟨(some 6), (.move (.tmp 0)), none⟩, ⟨(some 7), (.lenL (.tmp 6)), none⟩, ⟨(some 8), (.move (.tmp 1)), none⟩, ⟨(some 9), (.lenL (.tmp 8)), none⟩, ⟨(some 10), (.bin .neq (.tmp 7) (.tmp 9)), none⟩]) (.cond (.tmp 10) (.seq (.ops [⟨(some 4), (.assign (.const (.bool false))), none⟩]) .ret) .skip)) (.seq (.seq (.ops [⟨(some 5), (.assign (.const (.int .i64 0))), none⟩]) (.block 0 (.loop (.seq (.seq (.ops [⟨(some 11), (.move (.tmp 5)), none⟩, ⟨(some 12), (.move (.tmp 0)), none⟩, ⟨(some 13), (.lenL (.tmp 12)), none⟩, ⟨(some 14), (.bin .lss (.tmp 11) (.tmp 13)), none⟩]) (.cond (.tmp 14) .skip (.exit 0))) (.seq (.block 1 (.seq (.draws (.take ⟨(some 17), (.move (.tmp 0)), none⟩ (.take ⟨(some 18), (.move (.tmp 5)), none⟩ (.take ⟨(some 19), (.iaddr 2 (.tmp 17) (.tmp 18)), none⟩ (.take ⟨(some 20), (.faddr 0 (.tmp 19)), none⟩ (.take ⟨(some 21), (.load1 (.tmp 20)), none⟩ (.take ⟨(some 22), (.move (.tmp 1)), none⟩ (.take ⟨(some 23), (.move (.tmp 5)), none⟩ (.take ⟨(some 24), (.iaddr 2 (.tmp 22) (.tmp 23)), none⟩ (.take ⟨(some 25), (.faddr 0 (.tmp 24)), none⟩ (.take ⟨(some 26), (.load1 (.tmp 25)), none⟩ (.take ⟨(some 27), (.beq true (.tmp 21) (.tmp 26)), none⟩ (.take ⟨(some 28), (.move (.tmp 27)), none⟩ (.take ⟨(some 29), (.move (.tmp 0)), (some (28, false))⟩ (.take ⟨(some 30), (.move (.tmp 5)), (some (28, false))⟩ (.take ⟨(some 31), (.iaddr 2 (.tmp 29) (.tmp 30)), (some (28, false))⟩ (.take ⟨(some 32), (.faddr 1 (.tmp 31)), (some (28, false))⟩ (.take ⟨(some 33), (.load1 (.tmp 32)), (some (28, false))⟩ (.take ⟨(some 34), (.b2s (.tmp 33)), (some (28, false))⟩ (.take ⟨(some 35), (.move (.tmp 1)), (some (28, false))⟩ (.take ⟨(some 36), (.move (.tmp 5)), (some (28, false))⟩ (.take ⟨(some 37), (.iaddr 2 (.tmp 35) (.tmp 36)), (some (28, false))⟩ (.take ⟨(some 38), (.faddr 1 (.tmp 37)), (some (28, false))⟩ (.take ⟨(some 39), (.load1 (.tmp 38)), (some (28, false))⟩ (.take ⟨(some 40), (.b2s (.tmp 39)), (some (28, false))⟩ (.take ⟨(some 41), (.bin .neq (.tmp 34) (.tmp 40)), (some (28, false))⟩ (.take ⟨(some 42), (.pick (.tmp 28) (.const (.bool true)) (.tmp 41)), none⟩ .done))))))))))))))))))))))))))) (.cond (.tmp 42) (.seq (.ops [⟨(some 4), (.assign (.const (.bool false))), none⟩]) .ret) .skip))) (.ops [⟨(some 15), (.move (.tmp 5)), none⟩, ⟨(some 16), (.bin .add (.tmp 15) (.const (.int .i64 1))), none⟩, ⟨(some 5), (.assign (.tmp 16)), none⟩])))))) (.seq (.ops [⟨(some 4), (.assign (.const (.bool true))), none⟩]) .ret)))), [(.move (.tmp 4))]⟩
theorem k39 : cfun Try.prog 39 = some c39 := by kernel_rfl
end Go.Proofs.Ytkcampfbpmjacaa.Ax
/- Front's messages over values without memory: which kinds are served, checks, what is the same. -/
namespace Go.Proofs.Ytkcampfbpmjacaa.Ax
open Go.RowKit Go By Nm Sc Dg
set_option linter.unusedSimpArgs false
set_option linter.unusedVariables false
set_option maxRecDepth 10000

/-! ### Which kinds are served -/
def knownI (k : Int) : Int :=
  if k = 66 ∨ k = 67 ∨ k = 68 ∨ k = 69 ∨ k = 72 ∨ k = 80 ∨ k = 81 ∨ k = 83 ∨ k = 88 then 1 else if k = 70 ∨ k = 99 ∨ k = 100 ∨ k = 102 ∨ k = 112 then 2 else 0
theorem known_c (k : Int) (h : List (List AV)) : Contract Try.prog 44 [.v (.int .u8 k)] h (.v (.int .i64 (knownI k))) h [] := by
  refine contract_of k44 mixed (by simp [c44]) fun hh hargs => ?_
  by_cases h66 : k = 66
  · subst h66; simp [c44, hh, knownI]
  by_cases h67 : k = 67
  · subst h67; simp [c44, hh, knownI]
  by_cases h68 : k = 68
  · subst h68; simp [c44, hh, knownI]
  by_cases h69 : k = 69
  · subst h69; simp [c44, hh, knownI]
  by_cases h72 : k = 72
  · subst h72; simp [c44, hh, knownI]
  by_cases h80 : k = 80
  · subst h80; simp [c44, hh, knownI]
  by_cases h81 : k = 81
  · subst h81; simp [c44, hh, knownI]
  by_cases h83 : k = 83
  · subst h83; simp [c44, hh, knownI]
  by_cases h88 : k = 88
  · subst h88; simp [c44, hh, knownI]
  by_cases h70 : k = 70
  · subst h70; simp [c44, hh, knownI]
  by_cases h99 : k = 99
  · subst h99; simp [c44, hh, knownI]
  by_cases h100 : k = 100
  · subst h100; simp [c44, hh, knownI]
  by_cases h102 : k = 102
  · subst h102; simp [c44, hh, knownI]
  by_cases h112 : k = 112
  · subst h112; simp [c44, hh, knownI]
  simp [c44, hh, knownI, h66, h67, h68, h69, h72, h80, h81, h83, h88, h70, h99, h100, h102, h112]
/-! ### A message -/
/-- Its lists, and what they hold, are no longer than memory is. -/
def FmFit (m : Fm) : Prop := m.oids.length ≤ 140737488355328 ∧ m.formats.length ≤ 140737488355328 ∧ m.results.length ≤ 140737488355328 ∧ m.params.length ≤ 140737488355328 ∧ (∀ c ∈ m.params, c.2.length ≤ 140737488355328) ∧ m.name.length ≤ 140737488355328 ∧ m.portal.length ≤ 140737488355328 ∧ m.text.length ≤ 140737488355328

def sameF (a b : Fm) : Bool := a.kind == b.kind && a.what == b.what && (a.name == b.name && a.portal == b.portal && a.text == b.text) && a.max == b.max && a.oids == b.oids && a.formats == b.formats && a.results == b.results && a.params == b.params
theorem sameF_eq (a b : Fm) : sameF a b = decide (a = b) := by
  obtain ⟨a1, a2, a3, a4, a5, a6, a7, a8, a9, a10⟩ := a
  obtain ⟨b1, b2, b3, b4, b5, b6, b7, b8, b9, b10⟩ := b
  rw [Bool.eq_iff_iff]
  simp [sameF]
  constructor
  · rintro ⟨⟨⟨⟨⟨⟨⟨h1, h2⟩, h3, h4, h5⟩, h6⟩, h7⟩, h8⟩, h9⟩, h10⟩; simp_all
  · rintro ⟨h1, h2, h3, h4, h5, h6, h7, h8, h9, h10⟩; simp_all
theorem fkinds_c (m : Fm) (h : List (List AV)) : Contract Try.prog 70 [.agg (fmC m)] h (.agg [.v (.int .u8 m.kind), .v (.int .u8 m.what)]) h [] := by
  refine contract_of k70 mixed (by simp [c70]) fun hh hargs => ?_
  simp [c70, fmC_mk, hh]
theorem ftexts_c (m : Fm) (h : List (List AV)) : Contract Try.prog 71 [.agg (fmC m)] h (.agg [.v (.string (strB m.name)), .v (.string (strB m.portal)), .v (.string (strB m.text))]) h [] := by
  refine contract_of k71 mixed (by simp [c71]) fun hh hargs => ?_
  simp [c71, fmC_mk, hh]
theorem sliceseq_c (l m : List Int) (hl : l.length ≤ 140737488355328) (h : List (List AV)) : Contract Try.prog 22 [.sl 1 (enc intC l) none .no, .sl 1 (enc intC m) none .no] h (.v (.bool (l == m))) h [] := by
  have := equal1_any mixed k22 l m h hl
  rwa [eqL_beq] at this
theorem fsame_c (a b : Fm) (ha : FmFit a) (h : List (List AV)) : Contract Try.prog 49 [.agg (fmC a), .agg (fmC b)] h (.v (.bool (sameF a b))) h [] := by
  obtain ⟨q1, q2, q3, q4, _⟩ := ha
  refine contract_of k49 mixed (by simp [c49]) fun hh hargs => ?_
  simp [c49]
  refine xcall_self (by simp) (fkinds_c a _) ?_
  simp
  refine xcall_self (by simp) (fkinds_c b _) ?_
  simp
  cases p1 : (a.kind == b.kind && a.what == b.what) with
  | false =>
    have e : sameF a b = false := by simp only [sameF, p1, Bool.false_and]
    simp [hh, e]
  | true =>
  simp
  refine xcall_self (by simp) (ftexts_c a _) ?_
  simp
  refine xcall_self (by simp) (ftexts_c b _) ?_
  simp
  cases p2 : (a.name == b.name && (a.portal == b.portal && a.text == b.text)) with
  | false =>
    have e : sameF a b = false := by simp only [sameF, p1, ← Bool.and_assoc] at p2 ⊢; simp only [p2, Bool.true_and, Bool.false_and]
    simp [hh, e]
  | true =>
  cases p3 : (a.max == b.max) with
  | false =>
    have e : sameF a b = false := by simp only [sameF, p1, ← Bool.and_assoc] at p2 ⊢; simp only [p2, p3, Bool.true_and, Bool.false_and]
    simp [hh, e, fmC_mk, p3]
  | true =>
  simp [fmC_mk, p3]
  refine xcall_self (by simp) (sliceseq_c _ _ q1 _) ?_
  have hp : sameF a b = (a.oids == b.oids && a.formats == b.formats && a.results == b.results && a.params == b.params) := by simp only [sameF, p1, ← Bool.and_assoc] at p2 ⊢; simp only [p2, p3, Bool.true_and]
  rw [hp]
  cases p4 : (a.oids == b.oids) with
  | false => simp [hh]
  | true =>
  simp
  refine xcall_self (by simp) (sliceseq_c _ _ q2 _) ?_
  cases p5 : (a.formats == b.formats) with
  | false => simp [hh]
  | true =>
  simp
  refine xcall_self (by simp) (sliceseq_c _ _ q3 _) ?_
  cases p6 : (a.results == b.results) with
  | false => simp [hh]
  | true =>
  simp
  refine xcall_self (by simp) (wsame_c _ _ q4 _) ?_
  simp [hh]
/-! ### Checks -/
def whatB (m : Fm) : Bool := (!(m.kind == 67) && !(m.kind == 68)) || m.what == 83 || m.what == 80
theorem frightwhat_c (m : Fm) (h : List (List AV)) : Contract Try.prog 45 [.agg (fmC m)] h (.v (.bool (whatB m))) h [] := by
  refine contract_of k45 mixed (by simp [c45]) fun hh hargs => ?_
  unfold whatB
  cases h1 : m.kind == 67 with
  | false =>
    have e1 : (m.kind != 67) = true := by simp [bne, h1]
    cases h2 : m.kind == 68 with
    | false =>
      have e2 : (m.kind != 68) = true := by simp [bne, h2]
      simp [c45, fmC_mk, hh, e1, e2]
    | true =>
      have e2 : (m.kind != 68) = false := by simp [bne, h2]
      cases h3 : m.what == 83 <;> simp [c45, fmC_mk, hh, e1, e2, h3]
  | true =>
    have e1 : (m.kind != 67) = false := by simp [bne, h1]
    cases h3 : m.what == 83 <;> simp [c45, fmC_mk, hh, e1, h3]
def listsB (m : Fm) : Bool := (decide (m.oids.length ≤ 65535) && (decide (m.formats.length ≤ 65535) && (decide (m.results.length ≤ 65535) && decide (m.params.length ≤ 65535)))) && (m.oids.all (unsB 4) && (m.formats.all (unsB 2) && (m.results.all (unsB 2) && m.params.all cellB)))
theorem frightlists_c (m : Fm) (hf : FmFit m) (h : List (List AV)) : Contract Try.prog 46 [.agg (fmC m)] h (.v (.bool (listsB m))) h [] := by
  obtain ⟨q1, q2, q3, q4, q5, _⟩ := hf
  refine contract_of k46 mixed (by simp [c46]) fun hh hargs => ?_
  have e : listsB m = (decide ((m.oids.length : Int) ≤ 65535 ∧ (m.formats.length : Int) ≤ 65535 ∧ (m.results.length : Int) ≤ 65535 ∧ (m.params.length : Int) ≤ 65535) && (m.oids.all (unsB 4) && (m.formats.all (unsB 2) && (m.results.all (unsB 2) && m.params.all cellB)))) := by
    unfold listsB
    congr 1
    rw [Bool.eq_iff_iff]
    simp
    omega
  rw [e]
  by_cases hL : (m.oids.length : Int) ≤ 65535 ∧ (m.formats.length : Int) ≤ 65535 ∧ (m.results.length : Int) ≤ 65535 ∧ (m.params.length : Int) ≤ 65535
  · obtain ⟨l1, l2, l3, l4⟩ := hL
    simp [c46, fmC_mk, l1, l2, l3, l4]
    refine xcall_self (by simp) (wuns_c 4 _ q1 _) ?_
    cases p1 : m.oids.all (unsB 4) with
    | false => simp [hh]
    | true =>
    simp
    refine xcall_self (by simp) (wuns_c 2 _ q2 _) ?_
    cases p2 : m.formats.all (unsB 2) with
    | false => simp [hh]
    | true =>
    simp
    refine xcall_self (by simp) (wuns_c 2 _ q3 _) ?_
    cases p3 : m.results.all (unsB 2) with
    | false => simp [hh]
    | true =>
    simp
    refine xcall_self (by simp) (wcells_c _ q4 q5 _) ?_
    simp [hh]
  · simp [c46, fmC_mk, hL, hh]
/-- With those fields alone that the body has. -/
def saidF (m : Fm) : Fm :=
  if m.kind = 80 then ⟨80, 0, m.name, [], m.text, m.oids, [], [], [], 0⟩
  else if m.kind = 66 then ⟨66, 0, m.name, m.portal, [], [], m.formats, m.results, m.params, 0⟩
  else if m.kind = 67 ∨ m.kind = 68 then (if m.what = 83 then ⟨m.kind, m.what, m.name, [], [], [], [], [], [], 0⟩ else ⟨m.kind, m.what, [], m.portal, [], [], [], [], [], 0⟩)
  else if m.kind = 69 then ⟨69, 0, [], m.portal, [], [], [], [], [], m.max⟩
  else if m.kind = 81 then ⟨81, 0, [], [], m.text, [], [], [], [], 0⟩
  else ⟨m.kind, 0, [], [], [], [], [], [], [], 0⟩
theorem fsaid_c (m : Fm) (h : List (List AV)) : Contract Try.prog 50 [.agg (fmC m)] h (.agg (fmC (saidF m))) h [] := by
  refine contract_of k50 mixed (by simp [c50]) fun hh hargs => ?_
  by_cases h80 : m.kind = 80
  · simp [c50, fmC_mk, hh, saidF, h80]
  by_cases h66 : m.kind = 66
  · simp [c50, fmC_mk, hh, saidF, h66]
  by_cases h67 : m.kind = 67
  · by_cases hw : m.what = 83 <;> simp [c50, fmC_mk, hh, saidF, h67, hw]
  by_cases h68 : m.kind = 68
  · by_cases hw : m.what = 83 <;> simp [c50, fmC_mk, hh, saidF, h68, hw]
  by_cases h69 : m.kind = 69
  · simp [c50, fmC_mk, hh, saidF, h69]
  by_cases h81 : m.kind = 81
  · simp [c50, fmC_mk, hh, saidF, h81]
  simp [c50, fmC_mk, hh, saidF, h80, h66, h67, h68, h69, h81]
/-- What is wrong with a message. -/
def cleanF (m : Fm) : Bool := cleanB m.name && (cleanB m.portal && cleanB m.text)
def checkF (m : Fm) : Int :=
  if ¬ knownI m.kind = 1 then 9
  else if whatB m && (listsB m && (cleanF m && (sgnB 4 m.max && sameF m (saidF m)))) then 0 else 1
theorem fmfit_said {m : Fm} (h : FmFit m) : FmFit (saidF m) := by
  obtain ⟨h1, h2, h3, h4, h5, h6, h7, h8⟩ := h
  unfold saidF FmFit
  repeat' split
  all_goals simp [h1, h2, h3, h4, h6, h7, h8]
  all_goals exact ⟨fun b hc => h5 (_, b) hc, fun b hc => h5 (_, b) hc⟩
theorem fcheck_c (m : Fm) (hf : FmFit m) (h : List (List AV)) : Contract Try.prog 20 [.agg (fmC m)] h (.v (.int .i64 (checkF m))) h [] := by
  refine contract_of k20 mixed (by simp [c20]) fun hh hargs => ?_
  have hf' := fmfit_said hf
  simp [c20]
  refine xcall_self (by simp) (known_c _ _) ?_
  by_cases hk : knownI m.kind = 1
  · simp [hk]
    refine xcall_self (by simp) (frightwhat_c m _) ?_
    have e : checkF m = if whatB m && (listsB m && (cleanF m && (sgnB 4 m.max && sameF m (saidF m)))) then 0 else 1 := by unfold checkF; rw [if_neg (by simp [hk])]
    rw [e]
    cases p1 : whatB m with
    | false => simp [hh]
    | true =>
    simp
    refine xcall_self (by simp) (frightlists_c m hf _) ?_
    cases p2 : listsB m with
    | false => simp [hh]
    | true =>
    simp
    refine xcall_of (wclean_c [m.name, m.portal, m.text] (by simp) _) (by simp [strC]) (by simp) ?_
    have hc : (cleanB m.name && (cleanB m.portal && cleanB m.text)) = cleanF m := rfl
    simp only [List.all_cons, List.all_nil, Bool.and_true, hc]
    cases p3 : cleanF m with
    | false => simp [hh]
    | true =>
    simp
    refine xcall_of (wsgn_c 4 [m.max] (by simp) _) (by simp [intC]) (by simp) ?_
    cases p4 : sgnB 4 m.max with
    | false => simp [hh, p4]
    | true =>
    simp [p4]
    refine xcall_self (by simp) (fsaid_c m _) ?_
    simp
    refine xcall_self (by simp) (fsame_c m (saidF m) hf _) ?_
    cases p5 : sameF m (saidF m) <;> simp [hh]
  · simp [hk, hh, checkF]
end Go.Proofs.Ytkcampfbpmjacaa.Ax
namespace Go.Proofs.Ytkcampfbpmjacaa.Ax
open Go.RowKit Go By Nm Sc Dg
set_option linter.unusedSimpArgs false
set_option linter.unusedVariables false
set_option maxRecDepth 10000

theorem rints_c (xs ys : List Int) (hl : xs.length ≤ 140737488355328) (h : List (List AV)) : Contract Try.prog 38 [.sl 1 (enc intC xs) none .no, .sl 1 (enc intC ys) none .no] h (.v (.bool (xs == ys))) h [] := by
  refine contract_of k38 mixed (by simp [c38]) fun hh hargs => ?_
  rw [← eqL_beq]
  by_cases hlen : xs.length = ys.length
  · simp [c38, hlen]
    refine xloop_ok (D := Nat) (fun j => ⟨[(0, .sl 1 (enc intC xs) none .no), (1, .sl 1 (enc intC ys) none .no), (5, .v (.int .i64 j))], [], h, []⟩) (fun j => j ≤ xs.length ∧ ∀ i (h1 : i < xs.length) (h2 : i < ys.length), i < j → ((· == ·) : Int → Int → Bool) xs[i] ys[i] = true) (fun j => xs.length - j) 0 ⟨by omega, fun i h1 h2 h3 => by omega⟩ ?_ ?_
    · simp [Leq, hh]
    · rintro j ⟨hj, hp⟩
      by_cases hlt : j < ys.length
      · have hlt' : j < xs.length := by omega
        have hw : IntKind.i64.wrap ((j : Int) + 1) = (j : Int) + 1 := wrap64 (by omega) (by omega)
        simp [hlt, hlt', intC]
        refine xwp_cond_of (xs[j] != ys[j]) (by simp) (fun ht => ?_) (fun hf' => ?_)
        · simp at ht
          have : eqL (· == ·) xs ys = false := eqL_no (i := j) hlt' hlt (by simpa using ht)
          simp [hh, this]
        · simp at hf'
          simp [hw]
          refine ⟨j + 1, ⟨by omega, fun i h1 h2 h3 => ?_⟩, by omega, ?_⟩
          · rcases Nat.lt_or_ge i j with h4 | h4
            · simpa using hp i h1 h2 h4
            · have : i = j := by omega
              subst this; simpa using hf'
          · simp [Leq, hh]
      · have hx : eqL (· == ·) xs ys = true := (eqL_iff _ xs ys).2 ⟨hlen, fun i h1 h2 => hp i h1 h2 (by omega)⟩
        have hlt' : ¬ j < xs.length := by omega
        simp [hh, hx, hlt, hlt']
  · have hne : (xs.length : Int) ≠ ys.length := by omega
    have hx : eqL (· == ·) xs ys = false := eqL_len hlen
    simp [c38, hne, hh, hx]
theorem rcells_c (xs ys : List Cl) (hl : xs.length ≤ 140737488355328) (h : List (List AV)) : Contract Try.prog 39 [.sl 2 (enc cellC xs) none .no, .sl 2 (enc cellC ys) none .no] h (.v (.bool (xs == ys))) h [] := by
  refine contract_of k39 mixed (by simp [c39]) fun hh hargs => ?_
  rw [← eqL_beq]
  by_cases hlen : xs.length = ys.length
  · simp [c39, hlen]
    refine xloop_ok (D := Nat) (fun j => ⟨[(0, .sl 2 (enc cellC xs) none .no), (1, .sl 2 (enc cellC ys) none .no), (5, .v (.int .i64 j))], [], h, []⟩) (fun j => j ≤ xs.length ∧ ∀ i (h1 : i < xs.length) (h2 : i < ys.length), i < j → ((· == ·) : Cl → Cl → Bool) xs[i] ys[i] = true) (fun j => xs.length - j) 0 ⟨by omega, fun i h1 h2 h3 => by omega⟩ ?_ ?_
    · simp [Leq, hh]
    · rintro j ⟨hj, hp⟩
      by_cases hlt : j < ys.length
      · have hlt' : j < xs.length := by omega
        have hw : IntKind.i64.wrap ((j : Int) + 1) = (j : Int) + 1 := wrap64 (by omega) (by omega)
        obtain ⟨n, b, hx⟩ : ∃ n b, xs[j] = (n, b) := ⟨_, _, rfl⟩
        obtain ⟨m, d, hy⟩ : ∃ m d, ys[j] = (m, d) := ⟨_, _, rfl⟩
        have next : xs[j] = ys[j] → ∀ i (h1 : i < xs.length) (h2 : i < ys.length), i < j + 1 → ((· == ·) : Cl → Cl → Bool) xs[i] ys[i] = true := fun he i h1 h2 h3 => by
          rcases Nat.lt_or_ge i j with h4 | h4
          · exact hp i h1 h2 h4
          · have : i = j := by omega
            subst this; simp [he]
        have no : xs[j] ≠ ys[j] → eqL (· == ·) xs ys = false := fun he => eqL_no (i := j) hlt' hlt (by simpa using he)
        rw [hx, hy] at next no
        cases hnm : n == m with
        | false =>
          have e := no (by rintro he; injection he with h1 h2; simp [h1] at hnm)
          simp [hlt, hlt', hx, hy, cellC_mk, hnm, hh, e]
        | true =>
          have hnm' : n = m := by simpa using hnm
          cases hbd : b == d with
          | false =>
            have e := no (by rintro he; injection he with h1 h2; simp [h2] at hbd)
            simp [hlt, hlt', hx, hy, cellC_mk, hnm, hbd, hh, e]
          | true =>
            have hbd' : b = d := by simpa using hbd
            have e := next (by rw [hnm', hbd'])
            simp [hlt, hlt', hx, hy, cellC_mk, hnm, hbd, hw]
            refine ⟨j + 1, ⟨by omega, fun i h1 h2 h3 => by simpa using e i h1 h2 h3⟩, by omega, ?_⟩
            simp [Leq, hh]
      · have hx : eqL (· == ·) xs ys = true := (eqL_iff _ xs ys).2 ⟨hlen, fun i h1 h2 => hp i h1 h2 (by omega)⟩
        have hlt' : ¬ j < xs.length := by omega
        simp [hh, hx, hlt, hlt']
  · have hne : (xs.length : Int) ≠ ys.length := by omega
    have hx : eqL (· == ·) xs ys = false := eqL_len hlen
    simp [c39, hne, hh, hx]
def betB (lo hi z : Int) : Bool := !decide (z < lo) && !decide (hi < z)
theorem take_all {α : Type} {p : α → Bool} {xs : List α} {j : Nat} (hj : j < xs.length) (h1 : ∀ x ∈ xs.take j, p x = true) (h2 : p xs[j] = true) : ∀ x ∈ xs.take (j + 1), p x = true := by
  rw [take_next hj]
  intro x hx
  rcases List.mem_append.1 hx with h | h
  · exact h1 x h
  · simp at h; subst h; exact h2
theorem all_no {α : Type} {p : α → Bool} {xs : List α} {j : Nat} (hj : j < xs.length) (h2 : p xs[j] = false) : xs.all p = false := by
  rw [List.all_eq_false]; exact ⟨_, List.getElem_mem hj, by simp [h2]⟩
theorem rsame_c (a b : Fm) (ha : FmFit a) (h : List (List AV)) : Contract Try.prog 12 [.agg (fmC a), .agg (fmC b)] h (.v (.bool (sameF a b))) h [] := by
  obtain ⟨q1, q2, q3, q4, _⟩ := ha
  refine contract_of k12 mixed (by simp [c12]) fun hh hargs => ?_
  have one : sameF a b = ((a.kind == b.kind && (a.what == b.what && (a.name == b.name && (a.portal == b.portal && (a.text == b.text && a.max == b.max))))) && (a.oids == b.oids && (a.formats == b.formats && (a.results == b.results && a.params == b.params)))) := by
    simp only [sameF, Bool.and_assoc]
  rw [one]
  cases p1 : a.kind == b.kind with
  | false => simp [c12, hh, p1]
  | true =>
  cases p2 : a.what == b.what with
  | false => simp [c12, hh, p1, p2]
  | true =>
  cases p3 : a.name == b.name with
  | false => simp [c12, hh, p1, p2, p3]
  | true =>
  cases p4 : a.portal == b.portal with
  | false => simp [c12, hh, p1, p2, p3, p4]
  | true =>
  cases p5 : a.text == b.text with
  | false => simp [c12, hh, p1, p2, p3, p4, p5]
  | true =>
  cases p6 : a.max == b.max with
  | false => simp [c12, hh, p1, p2, p3, p4, p5, p6]
  | true =>
  simp [c12, p1, p2, p3, p4, p5, p6]
  refine xcall_self (by simp) (rints_c _ _ q1 _) ?_
  cases p7 : a.oids == b.oids with
  | false => simp [hh]
  | true =>
  simp
  refine xcall_self (by simp) (rints_c _ _ q2 _) ?_
  cases p8 : a.formats == b.formats with
  | false => simp [hh]
  | true =>
  simp
  refine xcall_self (by simp) (rints_c _ _ q3 _) ?_
  cases p9 : a.results == b.results with
  | false => simp [hh]
  | true =>
  simp
  refine xcall_self (by simp) (rcells_c _ _ q4 _) ?_
  simp [hh]
/-- Whether that one speaks of something, as the document says it. -/
def rwhatB (m : Fm) : Bool := if m.kind = 67 ∨ m.kind = 68 then m.what == 83 || m.what == 80 else m.what == 0 || (m.what == 83 || m.what == 80)
def rlistsB (m : Fm) : Bool := (decide (m.oids.length ≤ 65535) && m.oids.all (betB 0 4294967295)) && ((decide (m.formats.length ≤ 65535) && m.formats.all (betB 0 65535)) && ((decide (m.results.length ≤ 65535) && m.results.all (betB 0 65535)) && (decide (m.params.length ≤ 65535) && m.params.all cellB)))
def rcheckF (m : Fm) : Int :=
  if ¬ knownI m.kind = 1 then 9
  else if cleanF m && (rlistsB m && (rwhatB m && (betB (-2147483648) 2147483647 m.max && sameF m (saidF m)))) then 0 else 1
end Go.Proofs.Ytkcampfbpmjacaa.Ax
