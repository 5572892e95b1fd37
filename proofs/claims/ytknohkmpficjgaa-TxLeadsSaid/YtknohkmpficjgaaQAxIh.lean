/- Has a list a number: slices.Contains, over values without memory. -/
import Derived.Test.YtknohkmpficjgaaQAxX
import Derived.Test.YtknohkmpficjgaaRows
import Derived.Test.YtknohkmpficjgaaQAxBa
/- The texts of functions over values without memory, as the kernel reckons them out of the program. -/
namespace Go.Proofs.Ytknohkmpficjgaa.Ax
open Go.RowKit Go By

def c16 : XFun := ⟨9, (.seq (.ops [⟨(some 4), (.assign (.const (.bool false))), none⟩]) (.seq (.ops [⟨(some 5), (.move (.tmp 0)), none⟩, ⟨(some 6), (.move (.tmp 1)), none⟩, ⟨(some 7), (.call 17 [(.tmp 5), (.tmp 6)]), none⟩, ⟨(some 8), (.bin .geq (.tmp 7) (.const (.int .i64 0))), none⟩, ⟨(some 4), (.assign (.tmp 8)), none⟩]) .ret)), [(.move (.tmp 4))]⟩
theorem k16 : cfun Try.prog 16 = some c16 := by kernel_rfl
def c17 : XFun := ⟨19, (.seq (.ops [⟨(some 4), (.assign (.const (.int .i64 0))), none⟩]) (.seq (.seq (.ops [⟨(some 6), (.move (.tmp 0)), none⟩, ⟨(some 7), (.lenL (.tmp 6)), none⟩, ⟨(some 8), (.move (.const (.int .i64 0))), none⟩]) (.block 0 (.loop (.seq (.ops [⟨(some 9), (.bin .lss (.tmp 8) (.tmp 7)), none⟩]) (.seq (.cond (.tmp 9) .skip (.exit 0)) (.seq (.block 1 (.seq (.ops [⟨(some 10), (.move (.tmp 8)), none⟩, ⟨(some 5), (.assign (.tmp 10)), none⟩]) (.seq (.ops [⟨(some 11), (.move (.tmp 1)), none⟩, ⟨(some 12), (.move (.tmp 0)), none⟩, ⟨(some 13), (.move (.tmp 5)), none⟩, ⟨(some 14), (.iaddr 1 (.tmp 12) (.tmp 13)), none⟩, ⟨(some 15), (.load1 (.tmp 14)), none⟩, ⟨(some 16), (.bin .eql (.tmp 11) (.tmp 15)), none⟩]) (.cond (.tmp 16) (.seq (.ops [⟨(some 17), (.move (.tmp 5)), none⟩, ⟨(some 4), (.assign (.tmp 17)), none⟩]) .ret) .skip)))) (.ops [⟨(some 18), (.bin .add (.tmp 8) (.const (.int .i64 1))), none⟩, ⟨(some 8), (.move (.tmp 18)), none⟩]))))))) (.seq (.ops [⟨(some 4), (.assign (.const (.int .i64 (-1)))), none⟩]) .ret))), [(.move (.tmp 4))]⟩
theorem k17 : cfun Try.prog 17 = some c17 := by kernel_rfl
end Go.Proofs.Ytknohkmpficjgaa.Ax
namespace Go.Proofs.Ytknohkmpficjgaa.Ax
open Go.RowKit Go By
set_option linter.unusedSimpArgs false
set_option linter.unusedVariables false
set_option maxRecDepth 10000

/-! ### Has a list a number? -/
theorem nothas_take {L : List Int} {x : Int} {j : Nat} (hj : j < L.length) (h : x ∉ L.take j) (e : ¬ L[j] = x) : x ∉ L.take (j + 1) := by
  rw [List.take_succ_eq_append_getElem hj]
  intro hm
  rcases List.mem_append.1 hm with h1 | h1
  · exact h h1
  · exact e (List.mem_singleton.1 h1).symm
theorem jindex_c {h : List (List AV)} {L : List Int} (hl : L.length ≤ 1000000) (x : Int) : ∃ n : Int, Contract Try.prog 17 [.sl 1 (enc intC L) none .no, .v (.int .i64 x)] h (.v (.int .i64 n)) h [] ∧ (decide (0 ≤ n) = L.contains x) := by
  refine ⟨if x ∈ L then (L.idxOf x : Int) else -1, ?_, ?_⟩
  · refine contract_of k17 mixed (by simp [c17]) fun hh hargs => ?_
    simp [c17]
    refine xloop_ok (D := Nat) (fun j => ⟨[(0, .sl 1 (enc intC L) none .no), (1, .v (.int .i64 x)), (7, .v (.int .i64 (L.length : Int))), (8, .v (.int .i64 (j : Int)))], [], h, []⟩) (fun j => j ≤ L.length ∧ x ∉ L.take j) (fun j => L.length - j) 0 ⟨by omega, by simp⟩ ?_ ?_
    · simp [Leq, hh, leqH_take]
      done
    · rintro j ⟨hj, hno⟩
      by_cases hlt : j < L.length
      · have hw : IntKind.i64.wrap ((j : Int) + 1) = (j : Int) + 1 := wrap64 (by omega) (by omega)
        by_cases e : L[j] = x
        · have hm : x ∈ L := e ▸ List.getElem_mem hlt
          have hi : L.idxOf x = j := by
            have hx := List.take_append_drop j L
            rw [← hx, List.idxOf_append, if_neg hno, List.drop_eq_getElem_cons hlt, e, List.idxOf_cons_self, List.length_take]
            omega
          have e2 : x = L[j] := e.symm
          simp [hlt, intC, e, hh, hm, hi]
          done
        · have e2 : ¬ x = L[j] := fun k => e k.symm
          have e3 : (x == L[j]) = false := by simpa using e2
          simp [hlt, intC, e2, e3, hw]
          refine ⟨j + 1, ⟨by omega, nothas_take hlt hno e⟩, by omega, ?_⟩
          simp [Leq, hh, leqH_take]
          done
      · have : j = L.length := by omega
        subst this
        rw [List.take_length] at hno
        simp [hh, hno]
        done
  · by_cases hm : x ∈ L
    · rw [if_pos hm]; simp [hm]
    · rw [if_neg hm]; simp [hm]
theorem jhas_c {h : List (List AV)} {L : List Int} (hl : L.length ≤ 1000000) (x : Int) : Contract Try.prog 16 [.sl 1 (enc intC L) none .no, .v (.int .i64 x)] h (.v (.bool (L.contains x))) h [] := by
  refine contract_of k16 mixed (by simp [c16]) fun hh hargs => ?_
  obtain ⟨n, k1, k2⟩ := jindex_c (h := h) hl x
  simp [c16]
  refine xcall_self (by simp) k1 ?_
  have k3 : decide (0 ≤ n) = decide (x ∈ L) := by rw [k2]; simp
  simp [hh, k3]
  done
end Go.Proofs.Ytknohkmpficjgaa.Ax
