/- Package scan and the document's answers for layer 3, over values without memory. -/
import Derived.Test.YthilellmckhejaaQAxCm
import Derived.Test.YthilellmckhejaaQHelA
namespace Go.Proofs.Ythilellmckhejaa.Ax
open Go.RowKit Go By Nm Sc Dg
set_option linter.unusedSimpArgs false
set_option maxRecDepth 10000

/-- A scan's cells. -/
def scC (st : Sta) : List AV := [.v (.bool st.isSome), .sl 1 (bytesE (st.getD [])) none .no]
@[simp] theorem scC_some (xs : List UInt8) : scC (some xs) = [.v (.bool true), .sl 1 (bytesE xs) none .no] := rfl
@[simp] theorem scC_none : scC none = [.v (.bool false), .sl 1 (bytesE []) none .no] := rfl
theorem scC_lt (n : Nat) (st : Sta) : ltL n (scC st) := by unfold scC; simp
section
variable (i : Nat) (h : List (List AV)) (st : Sta) (hi : h[i]? = some (scC st))
include hi
theorem bad_c : Contract Try.prog 36 [.box i 0] h (.v (.bool (badB st))) h [] := by
  refine contract_of k36 mixed (by simp [c36]) fun hh hargs => ?_
  cases st <;> simp at hi <;> simp [c36, hi, hh, badB]
theorem done_c : Contract Try.prog 38 [.box i 0] h (.v (.bool (doneB st))) h [] := by
  refine contract_of k38 mixed (by simp [c38]) fun hh hargs => ?_
  simp [c38]
  refine xcall_self (by simp) (bad_c i h st hi) ?_
  rcases st with _ | (_ | ⟨x, xs⟩) <;> simp at hi <;> simp [hi, hh, badB, doneB]
  omega
end
theorem fail_c (i : Nat) (h : List (List AV)) (a b : AV) (hi : h[i]? = some [a, b]) : Contract Try.prog 68 [.box i 0] h (.tup []) (h.set i (scC none)) [i] := by
  refine contract_of k68 mixed (by simp [c68]) fun hh hargs => ?_
  simp [c68, hi, hh]
section
variable (i : Nat) (h : List (List AV)) (st : Sta) (hi : h[i]? = some (scC st))
include hi
theorem take_c (n : Int) : Contract Try.prog 69 [.box i 0, .v (.int .i64 n)] h (.sl 1 (bytesE (takeL st n)) none .exact) (h.set i (scC (takeS st n))) [i] := by
  refine contract_of k69 mixed (by simp [c69]) fun hh hargs => ?_
  simp [c69]
  refine xcall_self (by simp) (bad_c i h st hi) ?_
  rcases st with _ | xs
  · simp at hi
    simp [hi, hh, badB, takeL, takeS, set_same hi]
  · simp at hi
    by_cases hn : takeB xs n = true
    · obtain ⟨h1, h2⟩ := takeB_yes hn
      have h1' : ¬ n < 0 := by omega
      have h2' : ¬ (xs.length : Int) < n := by omega
      simp [hi, hh, badB, takeL, takeS, hn, h1, h2, h1', h2', bytesE_take, bytesE_drop]
    · by_cases h0 : n < 0
      · simp [hi, hh, badB, takeL, takeS, hn, h0]
        refine xcall_self (by simp) (fail_c i h _ _ hi) ?_
        simp [hh]
      · have h1 : (xs.length : Int) < n := by have := takeB_no hn; omega
        simp [hi, hh, badB, takeL, takeS, hn, h0, h1]
        refine xcall_self (by simp) (fail_c i h _ _ hi) ?_
        simp [hh]
theorem num_c (n : Int) : Contract Try.prog 35 [.box i 0, .v (.int .i64 n)] h (.v (.int .i64 (numV st n))) (h.set i (scC (numS st n))) [i] := by
  refine contract_of k35 mixed (by simp [c35]) fun hh hargs => ?_
  simp [c35]
  refine xcall_self (by simp) (bad_c i h st hi) ?_
  rcases st with _ | xs
  · simp at hi
    simp [hi, hh, badB, numV, numS, set_same hi]
  · have hi0 := hi
    simp at hi
    simp [hi, badB]
    refine xcall_self (by simp) (get_c xs 0 n h) ?_
    by_cases he : getErr xs.length 0 n = 0
    · have := getErr_zero he
      simp [he]
      refine xcall_self (by simp) (take_c i h _ hi0 n) ?_
      have ht : takeB xs n = true := by simp [takeB]; omega
      simp [hh, numV, numS, he, takeS, ht, getVal]
    · simp [he]
      refine xcall_self (by simp) (fail_c i h _ _ hi) ?_
      simp [hh, numV, numS, he]
end
theorem indexByte_c (xs : List UInt8) (h : List (List AV)) : Contract Try.prog 94 [.sl 1 (bytesE xs) none .no, .v (.int .u8 0)] h (.v (.int .i64 (match zeroAt xs with | none => -1 | some k => (k : Int)))) h [] :=
  contract_quiet (by kernel_rfl) rfl fun G w vs hW hs => by
    obtain ⟨a, cap, rfl, _, h1, h3, h2⟩ := bytes_two (l := [.int .u8 0]) hW hs
    have e := indexByte_any _ a cap xs w h2
    rw [indexByte_zero] at e
    exact ⟨_, .v _, e⟩
theorem text_c (i : Nat) (h : List (List AV)) (st : Sta) (hi : h[i]? = some (scC st)) (hl : He.lenS st ≤ 140737488355328) : Contract Try.prog 70 [.box i 0] h (.v (.string (strB (He.textL st)))) (h.set i (scC (textS st))) [i] := by
  refine contract_of k70 mixed (by simp [c70]) fun hh hargs => ?_
  simp [c70]
  refine xcall_self (by simp) (bad_c i h st hi) ?_
  rcases st with _ | xs
  · simp at hi
    simp [hi, hh, badB, He.textL, textS, set_same hi]
  · have hi0 := hi
    simp at hi
    simp [hi, badB]
    refine xcall_self (by simp) (indexByte_c xs h) ?_
    cases hz : zeroAt xs with
    | none =>
      simp
      refine xcall_self (by simp) (fail_c i h _ _ hi) ?_
      simp [hh, textS, He.textL, hz]
    | some k =>
      have hk := (zeroAt_some hz).1
      have h0 : ¬ (k : Int) < 0 := by omega
      have ht : takeB xs ((k : Int) + 1) = true := by simp [takeB]; omega
      have hw : IntKind.i64.wrap ((k : Int) + 1) = (k : Int) + 1 := wrap64 (by omega) (by simp [He.lenS] at hl; omega)
      simp [h0, hw]
      refine xcall_self (by simp) (take_c i h _ hi0 _) ?_
      have hk' : k ≤ min (k + 1) xs.length := by omega
      simp [hh, takeL, takeS, ht, textS, He.textL, hz, List.take_take, hk']
theorem new_c (xs : List UInt8) (hx : xs.length ≤ 140737488355328) (h : List (List AV)) : Contract Try.prog 34 [.sl 1 (bytesE xs) none .no] h (.box h.length 0) (h ++ [scC (some xs)]) [] := by
  refine contract_of k34 mixed (by simp [c34]) fun hh hargs => ?_
  simp [c34, hh, hx]

/-! ### The document's -/
/-- A scan of the document's: its bytes, and whether it is bad. -/
abbrev Rs := List UInt8 × Bool
def rsC (r : Rs) : List AV := [.sl 1 (bytesE r.1) none .no, .v (.bool r.2)]
def rabs (r : Rs) : Sta := bif r.2 then none else some r.1
@[simp] theorem rsC_mk (b : List UInt8) (no : Bool) : rsC (b, no) = [.sl 1 (bytesE b) none .no, .v (.bool no)] := of_eq_true (eq_self _)
theorem rsC_lt (n : Nat) (r : Rs) : ltL n (rsC r) := by unfold rsC; simp
@[simp] theorem rabs_true (b : List UInt8) : rabs (b, true) = none := of_eq_true (eq_self _)
@[simp] theorem rabs_false (b : List UInt8) : rabs (b, false) = some b := of_eq_true (eq_self _)
def rback (b : List UInt8) : Sta → Rs
  | some xs => (xs, false)
  | none => (b, true)
def rstep (f : Sta → Sta) (r : Rs) : Rs := rback r.1 (f (rabs r))
theorem rabs_step (f : Sta → Sta) (r : Rs) : rabs (rstep f r) = f (rabs r) := by
  unfold rstep; cases f (rabs r) <;> rfl
theorem rstep_bad {f : Sta → Sta} (hf : f none = none) {r : Rs} (h : rabs r = none) : rstep f r = r := by
  obtain ⟨b, no⟩ := r
  cases no with
  | true => simp [rstep, hf, rback]
  | false => cases h
section
variable (i : Nat) (h : List (List AV)) (r : Rs) (hi : h[i]? = some (rsC r))
include hi
end
end Go.Proofs.Ythilellmckhejaa.Ax
