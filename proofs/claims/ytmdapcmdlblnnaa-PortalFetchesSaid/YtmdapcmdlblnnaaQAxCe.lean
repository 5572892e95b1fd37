/- The document's answers: the same numbers, the same cells. -/
import Derived.Test.YtmdapcmdlblnnaaQAxXr
import Derived.Test.YtmdapcmdlblnnaaRows
import Derived.Test.YtmdapcmdlblnnaaQAxIb
import Derived.Test.YtmdapcmdlblnnaaQAxKc0
import Derived.Test.YtmdapcmdlblnnaaQAxRo
/- The texts of functions over values without memory, as the kernel reckons them out of the program. -/
namespace Go.Proofs.Ytmdapcmdlblnnaa.Ax
open Go.RowKit Go By

def c30 : XFun := ⟨43, (.seq (.ops [⟨(some 4), (.assign (.const (.bool false))), none⟩]) (.seq (.seq (.ops [⟨(some 6), (.move (.tmp 0)), none⟩, ⟨(some 7), (.lenL (.tmp 6)), none⟩, ⟨(some 8), (.move (.tmp 1)), none⟩, ⟨(some 9), (.lenL (.tmp 8)), none⟩, ⟨(some 10), (.bin .neq (.tmp 7) (.tmp 9)), none⟩]) (.cond (.tmp 10) (.seq (.ops [⟨(some 4), (.assign (.const (.bool false))), none⟩]) .ret) .skip)) (.seq (.seq (.ops [⟨(some 5), (.assign (.const (.int .i64 0))), none⟩]) (.block 0 (.loop (.seq (.seq (.ops [⟨(some 11), (.move (.tmp 5)), none⟩, ⟨(some 12), (.move (.tmp 0)), none⟩, ⟨(some 13), (.lenL (.tmp 12)), none⟩, ⟨(some 14), (.bin .lss (.tmp 11) (.tmp 13)), none⟩]) (.cond (.tmp 14) .skip (.exit 0))) (.seq (.block 1 (.seq (.draws (.take ⟨(some 17), (.move (.tmp 0)), none⟩ (.take ⟨(some 18), (.move (.tmp 5)), none⟩ (.take ⟨(some 19), (.iaddr 2 (.tmp 17) (.tmp 18)), none⟩ (.take ⟨(some 20), (.faddr 0 (.tmp 19)), none⟩ (.take ⟨(some 21), (.load1 (.tmp 20)), none⟩ (.take ⟨(some 22), (.move (.tmp 1)), none⟩ (.take ⟨(some 23), (.move (.tmp 5)), none⟩ (.take ⟨(some 24), (.iaddr 2 (.tmp 22) (.tmp 23)), none⟩ (.take ⟨(some 25), (.faddr 0 (.tmp 24)), none⟩ (.take ⟨(some 26), (.load1 (.tmp 25)), none⟩ (.take ⟨(some 27), (.beq true (.tmp 21) (.tmp 26)), none⟩ (.take ⟨(some 28), (.move (.tmp 27)), none⟩ (.take ⟨(some 29), (.move (.tmp 0)), (some (28, false))⟩ (.take ⟨(some 30), (.move (.tmp 5)), (some (28, false))⟩ (.take ⟨(some 31), (.iaddr 2 (.tmp 29) (.tmp 30)), (some (28, false))⟩ (.take ⟨(some 32), (.faddr 1 (.tmp 31)), (some (28, false))⟩ (.take ⟨(some 33), (.load1 (.tmp 32)), (some (28, false))⟩ (.take ⟨(some 34), (.b2s (.tmp 33)), (some (28, false))⟩ (.take ⟨(some 35), (.move (.tmp 1)), (some (28, false))⟩ (.take ⟨(some 36), (.move (.tmp 5)), (some (28, false))⟩ (.take ⟨(some 37), (.iaddr 2 (.tmp 35) (.tmp 36)), (some (28, false))⟩ (.take ⟨(some 38), (.faddr 1 (.tmp 37)), (some (28, false))⟩ (.take ⟨(some 39), (.load1 (.tmp 38)), (some (28, false))⟩ (.take ⟨(some 40), (.b2s (.tmp 39)), (some (28, false))⟩ (.take ⟨(some 41), (.bin .neq (.tmp 34) (.tmp 40)), (some (28, false))⟩ (.take ⟨(some 42), (.pick (.tmp 28) (.const (.bool true)) (.tmp 41)), none⟩ .done))))))))))))))))))))))))))) (.cond (.tmp 42) (.seq (.ops [⟨(some 4), (.assign (.const (.bool false))), none⟩]) .ret) .skip))) (.ops [⟨(some 15), (.move (.tmp 5)), none⟩, ⟨(some 16), (.bin .add (.tmp 15) (.const (.int .i64 1))), none⟩, ⟨(some 5), (.assign (.tmp 16)), none⟩])))))) (.seq (.ops [⟨(some 4), (.assign (.const (.bool true))), none⟩]) .ret)))), [(.move (.tmp 4))]⟩
theorem k30 : cfun Try.prog 30 = some c30 := by kernel_rfl
end Go.Proofs.Ytmdapcmdlblnnaa.Ax
namespace Go.Proofs.Ytmdapcmdlblnnaa.Ax
open Go.RowKit Go By
set_option linter.unusedSimpArgs false
set_option linter.unusedVariables false
set_option maxRecDepth 10000

theorem rcells_c (xs ys : List Cl) (hl : xs.length ≤ 140737488355328) (h : List (List AV)) : Contract Try.prog 30 [.sl 2 (enc cellC xs) none .no, .sl 2 (enc cellC ys) none .no] h (.v (.bool (xs == ys))) h [] := by
  refine contract_of k30 mixed (by simp [c30]) fun hh hargs => ?_
  rw [← eqL_beq]
  by_cases hlen : xs.length = ys.length
  · simp [c30, hlen]
    refine xloop_ok (D := Nat) (fun j => ⟨[(0, .sl 2 (enc cellC xs) none .no), (1, .sl 2 (enc cellC ys) none .no), (5, .v (.int .i64 j))], [], h, []⟩) (fun j => j ≤ xs.length ∧ ∀ i (h1 : i < xs.length) (h2 : i < ys.length), i < j → ((· == ·) : Cl → Cl → Bool) xs[i] ys[i] = true) (fun j => xs.length - j) 0 ⟨by omega, fun i h1 h2 h3 => by omega⟩ ?_ ?_
    · simp [Leq, hh]
    · rintro j ⟨hj, hp⟩
      by_cases hlt : j < ys.length
      · have hlt' : j < xs.length := by omega
        have hw : IntKind.i64.wrap ((j : Int) + 1) = (j : Int) + 1 := wrap64 (by omega) (by omega)
        obtain ⟨n, b, hx⟩ : ∃ n b, xs[j] = (n, b) := ⟨_, _, rfl⟩
        obtain ⟨m, d, hy⟩ : ∃ m d, ys[j] = (m, d) := ⟨_, _, rfl⟩
        have next : xs[j] = ys[j] → ∀ i (h1 : i < xs.length) (h2 : i < ys.length), i < j + 1 → ((· == ·) : Cl → Cl → Bool) xs[i] ys[i] = true := fun he i h1 h2 h3 => by
          rcases Nat.lt_or_ge i j with h4 | h4
          · exact hp i h1 h2 h4
          · have : i = j := by omega
            subst this; simp [he]
        have no : xs[j] ≠ ys[j] → eqL (· == ·) xs ys = false := fun he => eqL_no (i := j) hlt' hlt (by simpa using he)
        rw [hx, hy] at next no
        cases hnm : n == m with
        | false =>
          have e := no (by rintro he; injection he with h1 h2; simp [h1] at hnm)
          simp [hlt, hlt', hx, hy, cellC_mk, hnm, hh, e]
        | true =>
          have hnm' : n = m := by simpa using hnm
          cases hbd : b == d with
          | false =>
            have e := no (by rintro he; injection he with h1 h2; simp [h2] at hbd)
            simp [hlt, hlt', hx, hy, cellC_mk, hnm, hbd, hh, e]
          | true =>
            have hbd' : b = d := by simpa using hbd
            have e := next (by rw [hnm', hbd'])
            simp [hlt, hlt', hx, hy, cellC_mk, hnm, hbd, hw]
            refine ⟨j + 1, ⟨by omega, fun i h1 h2 h3 => by simpa using e i h1 h2 h3⟩, by omega, ?_⟩
            simp [Leq, hh]
      · have hx : eqL (· == ·) xs ys = true := (eqL_iff _ xs ys).2 ⟨hlen, fun i h1 h2 => hp i h1 h2 (by omega)⟩
        have hlt' : ¬ j < xs.length := by omega
        simp [hh, hx, hlt, hlt']
  · have hne : (xs.length : Int) ≠ ys.length := by omega
    have hx : eqL (· == ·) xs ys = false := eqL_len hlen
    simp [c30, hne, hh, hx]
end Go.Proofs.Ytmdapcmdlblnnaa.Ax
