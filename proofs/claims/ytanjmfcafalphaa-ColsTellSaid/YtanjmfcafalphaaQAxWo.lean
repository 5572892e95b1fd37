/- The contracts of what package wire writes, over values without memory. -/
import Derived.Test.YtanjmfcafalphaaQAxSc
import Derived.Test.YtanjmfcafalphaaQAxKc
import Derived.Test.YtanjmfcafalphaaQAxTz
import Derived.Test.YtanjmfcafalphaaQHelA
/- The contracts of package wire's checks and of what it writes, over values without memory. -/
namespace Go.Proofs.Ytanjmfcafalphaa.Ax
open Go.RowKit Go By Nm Sc Dg
set_option linter.unusedSimpArgs false
set_option maxRecDepth 10000

/-! ### bytes.Equal -/
theorem equal_c (xs ys : List UInt8) (h : List (List AV)) : Contract Try.prog 67 [.sl 1 (bytesE xs) none .no, .sl 1 (bytesE ys) none .no] h (.v (.bool (xs == ys))) h [] := by
  refine contract_of k67 mixed (by simp [c67]) fun hh hargs => ?_
  simp [c67, hh]

/-! ### Checks -/
theorem wclean1_c (s : List UInt8) (h : List (List AV)) : Contract Try.prog 46 [.v (.string (strB s))] h (.v (.bool (!cleanB s))) h [] := by
  refine contract_of k46 mixed (by simp [c46]) fun hh hargs => ?_
  simp [c46]
  refine xcall_self (by simp) (clean_c s h) ?_
  simp [hh]
theorem wclean_c (l : List (List UInt8)) (hl : l.length ≤ 140737488355328) (h : List (List AV)) : Contract Try.prog 29 [.sl 1 (enc strC l) none .no] h (.v (.bool (l.all cleanB))) h [] := by
  refine contract_of k29 mixed (by simp [c29]) fun hh hargs => ?_
  simp [c29]
  refine xcall_self (by simp) (contains1_any mixed k45 k60 (fun s => .v (.string (strB s))) (fun s => !cleanB s) l [] h (by simp) (by simp) (by simp) (fun s _ => wclean1_c s h) hl) ?_
  simp [hh, List.not_any_eq_all_not]
def unsB (size n : Int) : Bool := !decide (n < 0) && rightB n size
theorem wuns1_c (size n : Int) (i : Nat) (h : List (List AV)) (hi : h[i]? = some [.v (.int .i64 size)]) : Contract Try.prog 49 [.v (.int .i64 n), .box i 0] h (.v (.bool (!unsB size n))) h [] := by
  refine contract_of k49 mixed (by simp [c49]) fun hh hargs => ?_
  by_cases hn : n < 0
  · simp [c49, hn, hh, unsB]
  · simp [c49, hn, hi]
    refine xcall_self (by simp) (right_c n size h) ?_
    simp [hh, unsB, hn]
theorem wuns_c (size : Int) (l : List Int) (hl : l.length ≤ 140737488355328) (h : List (List AV)) : Contract Try.prog 30 [.v (.int .i64 size), .sl 1 (enc intC l) none .no] h (.v (.bool (l.all (unsB size)))) h [] := by
  refine contract_of k30 mixed (by simp [c30]) fun hh hargs => ?_
  simp [c30]
  refine xcall_self (by simp) (contains1_any mixed k48 k62 (fun n => .v (.int .i64 n)) (fun n => !unsB size n) l [.box h.length 0] _ (by simp) (by simp) (by simp) (fun n _ => wuns1_c size n _ _ (by simp)) hl) ?_
  simp [hh, List.not_any_eq_all_not]
def sgnB (size n : Int) : Bool := rightB n size && signedI n size == n
theorem wsgn1_c (size n : Int) (i : Nat) (h : List (List AV)) (hi : h[i]? = some [.v (.int .i64 size)]) : Contract Try.prog 69 [.v (.int .i64 n), .box i 0] h (.v (.bool (!sgnB size n))) h [] := by
  refine contract_of k69 mixed (by simp [c69]) fun hh hargs => ?_
  simp [c69, hi]
  refine xcall_self (by simp) (right_c n size h) ?_
  cases hr : rightB n size with
  | false => simp [hh, sgnB, hr]
  | true =>
    simp [hi]
    refine xcall_self (by simp) (signed_c n size h) ?_
    simp [hh, sgnB, hr]
    rfl
theorem wsgn_c (size : Int) (l : List Int) (hl : l.length ≤ 140737488355328) (h : List (List AV)) : Contract Try.prog 58 [.v (.int .i64 size), .sl 1 (enc intC l) none .no] h (.v (.bool (l.all (sgnB size)))) h [] := by
  refine contract_of k58 mixed (by simp [c58]) fun hh hargs => ?_
  simp [c58]
  refine xcall_self (by simp) (contains1_any mixed k48 k62 (fun n => .v (.int .i64 n)) (fun n => !sgnB size n) l [.box h.length 0] _ (by simp) (by simp) (by simp) (fun n _ => wsgn1_c size n _ _ (by simp)) hl) ?_
  simp [hh, List.not_any_eq_all_not]
/-- A cell may be said. -/
def cellB (c : Cl) : Bool := decide (c.2.length ≤ 1048576) && !(c.1 && decide (0 < c.2.length))
theorem wcell1_c (c : Cl) (hc : c.2.length ≤ 140737488355328) (h : List (List AV)) : Contract Try.prog 56 [.agg (cellC c)] h (.v (.bool (!cellB c))) h [] := by
  refine contract_of k56 mixed (by simp [c56]) fun hh hargs => ?_
  obtain ⟨n, b⟩ := c
  by_cases hb : (1048576 : Int) < b.length
  · have hb' : ¬ b.length ≤ 1048576 := by omega
    simp [c56, cellC, hb, hb', hh, cellB]
  · have hb' : b.length ≤ 1048576 := by omega
    cases n with
    | false => simp [c56, cellC, hb, hb', hh, cellB]
    | true =>
      simp [c56, cellC, hb, hb', hh, cellB]
theorem wcells_c (l : List Cl) (hl : l.length ≤ 140737488355328) (hc : ∀ c ∈ l, c.2.length ≤ 140737488355328) (h : List (List AV)) : Contract Try.prog 38 [.sl 2 (enc cellC l) none .no] h (.v (.bool (l.all cellB))) h [] := by
  refine contract_of k38 mixed (by simp [c38]) fun hh hargs => ?_
  simp [c38]
  refine xcall_self (by simp) (containsN_any mixed k55 k68 cellC (fun c => !cellB c) l [] h (by simp) (by simp) (by simp) (fun c hm => wcell1_c c (hc c hm) h) hl) ?_
  simp [hh, List.not_any_eq_all_not]
theorem wsame1_c (a b : Cl) (h : List (List AV)) : Contract Try.prog 66 [.agg (cellC a), .agg (cellC b)] h (.v (.bool (a == b))) h [] := by
  refine contract_of k66 mixed (by simp [c66]) fun hh hargs => ?_
  obtain ⟨n, x⟩ := a
  obtain ⟨m, y⟩ := b
  have e : ((n, x) == (m, y)) = (n == m && x == y) := rfl
  cases hnm : n == m with
  | false => simp [c66, cellC, hnm, hh, e]
  | true =>
    simp [c66, cellC, hnm]
    refine xcall_self (by simp) (equal_c x y _) ?_
    simp [hh, e, hnm]
theorem wsame_c (l m : List Cl) (hl : l.length ≤ 140737488355328) (h : List (List AV)) : Contract Try.prog 53 [.sl 2 (enc cellC l) none .no, .sl 2 (enc cellC m) none .no] h (.v (.bool (l == m))) h [] := by
  refine contract_of k53 mixed (by simp [c53]) fun hh hargs => ?_
  simp [c53]
  refine xcall_self (by simp) (equalF_any mixed k65 (by rfl) (· == ·) cellC (by simp) (by simp) l m h (fun x y h => wsame1_c x y h) hl) ?_
  simp [hh, eqL_beq]
end Go.Proofs.Ytanjmfcafalphaa.Ax
namespace Go.Proofs.Ytanjmfcafalphaa.Ax
open Go.RowKit Go By Nm Sc Dg
set_option linter.unusedSimpArgs false
set_option linter.unusedVariables false
set_option maxRecDepth 10000

theorem wflat_len {α : Type} (e : α → List UInt8) (l : List α) (j : Nat) : ((l.take j).flatMap e).length ≤ (l.flatMap e).length := by
  conv => rhs; rw [← List.take_append_drop j l]
  rw [List.flatMap_append, List.length_append]; omega
theorem flat_next {α : Type} (e : α → List UInt8) {l : List α} {j : Nat} (hj : j < l.length) : (l.take (j + 1)).flatMap e = (l.take j).flatMap e ++ e l[j] := by
  rw [take_next hj, List.flatMap_append]; simp
theorem put_len (n size : Int) (h4 : size ≤ 4) (xs : List UInt8) : (putL xs n size).length ≤ xs.length + 4 := by
  unfold putL
  split
  · simp [putTo_length]; omega
  · omega
/-- What is appended element by element. -/
theorem flat_step {α : Type} (e : α → List UInt8) (l : List α) (a j : Nat) (hj : j < l.length) (N : Nat) (hN : a + (l.flatMap e).length ≤ N) : (l.take (j + 1)).flatMap e = (l.take j).flatMap e ++ e l[j] ∧ a + (((l.take j).flatMap e).length + (e l[j]).length) ≤ N := by
  have h1 := flat_next e hj
  have h2 := wflat_len e l (j + 1)
  rw [h1, List.length_append] at h2
  exact ⟨h1, by omega⟩

/-! ### Texts -/
def textsL (l : List (List UInt8)) : List UInt8 := l.flatMap He.encT
/-! ### Lists -/
def listL {α : Type} (e : α → List UInt8) (l : List α) : List UInt8 := putL [] l.length 2 ++ l.flatMap e
theorem list_start {α : Type} (e : α → List UInt8) (l : List α) : listL e (l.take 0) = putL [] 0 2 := by simp [listL]
def numE (size : Int) (n : Int) : List UInt8 := putL [] n size
/-- A cell's bytes. -/
def cellE (c : Cl) : List UInt8 := if c.1 = true then putL [] 4294967295 4 else putL [] c.2.length 4 ++ c.2
theorem cellE_null (b : List UInt8) : cellE (true, b) = putL [] 4294967295 4 := if_pos rfl
theorem cellE_bytes (b : List UInt8) : cellE (false, b) = putL [] b.length 4 ++ b := if_neg (by simp)
end Go.Proofs.Ytanjmfcafalphaa.Ax
