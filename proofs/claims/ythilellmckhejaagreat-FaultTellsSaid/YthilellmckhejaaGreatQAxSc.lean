/- Package scan and the document's answers for layer 3, over values without memory. -/
import Derived.Test.YthilellmckhejaaGreatQAxCm
import Derived.Test.YthilellmckhejaaGreatQHelA
namespace Go.Proofs.YthilellmckhejaaGreat.Ax
open Go.RowKit Go By Nm Sc Dg
set_option linter.unusedSimpArgs false
set_option maxRecDepth 10000

/-- A scan's cells. -/
def scC (st : Sta) : List AV := [.v (.bool st.isSome), .sl 1 (bytesE (st.getD [])) none .no]
@[simp] theorem scC_some (xs : List UInt8) : scC (some xs) = [.v (.bool true), .sl 1 (bytesE xs) none .no] := rfl
@[simp] theorem scC_none : scC none = [.v (.bool false), .sl 1 (bytesE []) none .no] := rfl
theorem scC_lt (n : Nat) (st : Sta) : ltL n (scC st) := by unfold scC; simp
section
variable (i : Nat) (h : List (List AV)) (st : Sta) (hi : h[i]? = some (scC st))
include hi
theorem bad_c : Contract Tryz.prog 111 [.box i 0] h (.v (.bool (badB st))) h [] := by
  refine contract_of k111 mixed (by simp [c111]) fun hh hargs => ?_
  cases st <;> simp at hi <;> simp [c111, hi, hh, badB]
theorem done_c : Contract Tryz.prog 69 [.box i 0] h (.v (.bool (doneB st))) h [] := by
  refine contract_of k69 mixed (by simp [c69]) fun hh hargs => ?_
  simp [c69]
  refine xcall_self (by simp) (bad_c i h st hi) ?_
  rcases st with _ | (_ | ⟨x, xs⟩) <;> simp at hi <;> simp [hi, hh, badB, doneB]
  omega
end
theorem fail_c (i : Nat) (h : List (List AV)) (a b : AV) (hi : h[i]? = some [a, b]) : Contract Tryz.prog 134 [.box i 0] h (.tup []) (h.set i (scC none)) [i] := by
  refine contract_of k134 mixed (by simp [c134]) fun hh hargs => ?_
  simp [c134, hi, hh]
section
variable (i : Nat) (h : List (List AV)) (st : Sta) (hi : h[i]? = some (scC st))
include hi
theorem take_c (n : Int) : Contract Tryz.prog 135 [.box i 0, .v (.int .i64 n)] h (.sl 1 (bytesE (takeL st n)) none .exact) (h.set i (scC (takeS st n))) [i] := by
  refine contract_of k135 mixed (by simp [c135]) fun hh hargs => ?_
  simp [c135]
  refine xcall_self (by simp) (bad_c i h st hi) ?_
  rcases st with _ | xs
  · simp at hi
    simp [hi, hh, badB, takeL, takeS, set_same hi]
  · simp at hi
    by_cases hn : takeB xs n = true
    · obtain ⟨h1, h2⟩ := takeB_yes hn
      have h1' : ¬ n < 0 := by omega
      have h2' : ¬ (xs.length : Int) < n := by omega
      simp [hi, hh, badB, takeL, takeS, hn, h1, h2, h1', h2', bytesE_take, bytesE_drop]
    · by_cases h0 : n < 0
      · simp [hi, hh, badB, takeL, takeS, hn, h0]
        refine xcall_self (by simp) (fail_c i h _ _ hi) ?_
        simp [hh]
      · have h1 : (xs.length : Int) < n := by have := takeB_no hn; omega
        simp [hi, hh, badB, takeL, takeS, hn, h0, h1]
        refine xcall_self (by simp) (fail_c i h _ _ hi) ?_
        simp [hh]
theorem num_c (n : Int) : Contract Tryz.prog 104 [.box i 0, .v (.int .i64 n)] h (.v (.int .i64 (numV st n))) (h.set i (scC (numS st n))) [i] := by
  refine contract_of k104 mixed (by simp [c104]) fun hh hargs => ?_
  simp [c104]
  refine xcall_self (by simp) (bad_c i h st hi) ?_
  rcases st with _ | xs
  · simp at hi
    simp [hi, hh, badB, numV, numS, set_same hi]
  · have hi0 := hi
    simp at hi
    simp [hi, badB]
    refine xcall_self (by simp) (get_c xs 0 n h) ?_
    by_cases he : getErr xs.length 0 n = 0
    · have := getErr_zero he
      simp [he]
      refine xcall_self (by simp) (take_c i h _ hi0 n) ?_
      have ht : takeB xs n = true := by simp [takeB]; omega
      simp [hh, numV, numS, he, takeS, ht, getVal]
    · simp [he]
      refine xcall_self (by simp) (fail_c i h _ _ hi) ?_
      simp [hh, numV, numS, he]
end
theorem indexByte_c (xs : List UInt8) (h : List (List AV)) : Contract Tryz.prog 136 [.sl 1 (bytesE xs) none .no, .v (.int .u8 0)] h (.v (.int .i64 (match zeroAt xs with | none => -1 | some k => (k : Int)))) h [] :=
  contract_quiet (by kernel_rfl) rfl fun G w vs hW hs => by
    obtain ⟨a, cap, rfl, _, h1, h3, h2⟩ := bytes_two (l := [.int .u8 0]) hW hs
    have e := indexByte_any _ a cap xs w h2
    rw [indexByte_zero] at e
    exact ⟨_, .v _, e⟩
theorem text_c (i : Nat) (h : List (List AV)) (st : Sta) (hi : h[i]? = some (scC st)) (hl : He.lenS st ≤ 140737488355328) : Contract Tryz.prog 105 [.box i 0] h (.v (.string (strB (He.textL st)))) (h.set i (scC (textS st))) [i] := by
  refine contract_of k105 mixed (by simp [c105]) fun hh hargs => ?_
  simp [c105]
  refine xcall_self (by simp) (bad_c i h st hi) ?_
  rcases st with _ | xs
  · simp at hi
    simp [hi, hh, badB, He.textL, textS, set_same hi]
  · have hi0 := hi
    simp at hi
    simp [hi, badB]
    refine xcall_self (by simp) (indexByte_c xs h) ?_
    cases hz : zeroAt xs with
    | none =>
      simp
      refine xcall_self (by simp) (fail_c i h _ _ hi) ?_
      simp [hh, textS, He.textL, hz]
    | some k =>
      have hk := (zeroAt_some hz).1
      have h0 : ¬ (k : Int) < 0 := by omega
      have ht : takeB xs ((k : Int) + 1) = true := by simp [takeB]; omega
      have hw : IntKind.i64.wrap ((k : Int) + 1) = (k : Int) + 1 := wrap64 (by omega) (by simp [He.lenS] at hl; omega)
      simp [h0, hw]
      refine xcall_self (by simp) (take_c i h _ hi0 _) ?_
      have hk' : k ≤ min (k + 1) xs.length := by omega
      simp [hh, takeL, takeS, ht, textS, He.textL, hz, List.take_take, hk']
theorem new_c (xs : List UInt8) (hx : xs.length ≤ 140737488355328) (h : List (List AV)) : Contract Tryz.prog 103 [.sl 1 (bytesE xs) none .no] h (.box h.length 0) (h ++ [scC (some xs)]) [] := by
  refine contract_of k103 mixed (by simp [c103]) fun hh hargs => ?_
  simp [c103, hh, hx]

/-! ### The document's -/
/-- A scan of the document's: its bytes, and whether it is bad. -/
abbrev Rs := List UInt8 × Bool
def rsC (r : Rs) : List AV := [.sl 1 (bytesE r.1) none .no, .v (.bool r.2)]
def rabs (r : Rs) : Sta := bif r.2 then none else some r.1
@[simp] theorem rsC_mk (b : List UInt8) (no : Bool) : rsC (b, no) = [.sl 1 (bytesE b) none .no, .v (.bool no)] := of_eq_true (eq_self _)
theorem rsC_lt (n : Nat) (r : Rs) : ltL n (rsC r) := by unfold rsC; simp
@[simp] theorem rabs_true (b : List UInt8) : rabs (b, true) = none := of_eq_true (eq_self _)
@[simp] theorem rabs_false (b : List UInt8) : rabs (b, false) = some b := of_eq_true (eq_self _)
def rback (b : List UInt8) : Sta → Rs
  | some xs => (xs, false)
  | none => (b, true)
def rstep (f : Sta → Sta) (r : Rs) : Rs := rback r.1 (f (rabs r))
theorem rabs_step (f : Sta → Sta) (r : Rs) : rabs (rstep f r) = f (rabs r) := by
  unfold rstep; cases f (rabs r) <;> rfl
theorem rstep_bad {f : Sta → Sta} (hf : f none = none) {r : Rs} (h : rabs r = none) : rstep f r = r := by
  obtain ⟨b, no⟩ := r
  cases no with
  | true => simp [rstep, hf, rback]
  | false => cases h
theorem rnew_c (xs : List UInt8) (hx : xs.length ≤ 140737488355328) (h : List (List AV)) : Contract Tryz.prog 70 [.sl 1 (bytesE xs) none .no] h (.box h.length 0) (h ++ [rsC (xs, false)]) [] := by
  refine contract_of k70 mixed (by simp [c70]) fun hh hargs => ?_
  simp [c70, hh, hx]
section
variable (i : Nat) (h : List (List AV)) (r : Rs) (hi : h[i]? = some (rsC r))
include hi
theorem rdone_c : Contract Tryz.prog 72 [.box i 0] h (.v (.bool (doneB (rabs r)))) h [] := by
  obtain ⟨b, no⟩ := r
  refine contract_of k72 mixed (by simp [c72]) fun hh hargs => ?_
  rcases no <;> rcases b with _ | ⟨x, b⟩ <;> simp at hi <;> simp [c72, hi, hh, doneB]
  omega
theorem rnum_c (n : Int) : Contract Tryz.prog 112 [.box i 0, .v (.int .i64 n)] h (.v (.int .i64 (numV (rabs r) n))) (h.set i (rsC (rstep (numS · n) r))) [i] := by
  obtain ⟨b, no⟩ := r
  cases no with
  | true =>
    have hE : rstep (numS · n) (b, true) = (b, true) := by simp [rstep, rback, numS]
    rw [hE]
    refine contract_of k112 mixed (by simp [c112]) fun hh hargs => ?_
    simp [c112, hi]
    refine xcall_self (by simp) (rget_c b 0 n h) ?_
    simp [hi, hh, numV]
  | false =>
    by_cases he : getErr b.length 0 n = 0
    · have hE : rstep (numS · n) (b, false) = (b.drop n.toNat, false) := by simp [rstep, rback, numS, he]
      rw [hE]
      refine contract_of k112 mixed (by simp [c112]) fun hh hargs => ?_
      have h1 := getErr_zero he
      have h2 : ¬ n < 0 := by omega
      have h3 : 0 ≤ n := by omega
      simp [c112, hi]
      refine xcall_self (by simp) (rget_c b 0 n h) ?_
      simp [hi, hh, numV, he, getVal, h1, h2, h3, bytesE_drop]
    · have hE : rstep (numS · n) (b, false) = (b, true) := by simp [rstep, rback, numS, he]
      rw [hE]
      refine contract_of k112 mixed (by simp [c112]) fun hh hargs => ?_
      simp [c112, hi]
      refine xcall_self (by simp) (rget_c b 0 n h) ?_
      simp [hi, hh, numV, he]
theorem rtake_c (n : Int) (hl : He.lenS (rabs r) ≤ 140737488355328) : Contract Tryz.prog 143 [.box i 0, .v (.int .i64 n)] h (.sl 1 (bytesE (takeL (rabs r) n)) none .no) (h.set i (rsC (rstep (takeS · n) r))) [i] := by
  obtain ⟨b, no⟩ := r
  cases no with
  | true =>
    have hE : rstep (takeS · n) (b, true) = (b, true) := by simp [rstep, rback, takeS]
    rw [hE]
    refine contract_of k143 mixed (by simp [c143]) fun hh hargs => ?_
    simp [c143, hi, hh, takeL]
  | false =>
    have hb : b.length ≤ 140737488355328 := hl
    by_cases hn : takeB b n = true
    · have hE : rstep (takeS · n) (b, false) = (b.drop n.toNat, false) := by simp [rstep, rback, takeS, hn]
      rw [hE]
      refine contract_of k143 mixed (by simp [c143]) fun hh hargs => ?_
      obtain ⟨h1, h2⟩ := takeB_yes hn
      have h1' : ¬ n < 0 := by omega
      have h2' : ¬ (b.length : Int) < n := by omega
      have h3 : min n.toNat b.length ≤ 140737488355328 := by omega
      simp [c143, hi, hh, takeL, hn, h1, h2, h1', h2', h3]
      omega
    · have hE : rstep (takeS · n) (b, false) = (b, true) := by simp [rstep, rback, takeS, hn]
      rw [hE]
      refine contract_of k143 mixed (by simp [c143]) fun hh hargs => ?_
      by_cases h0 : n < 0
      · simp [c143, hi, hh, takeL, hn, h0]
      · have h1 : (b.length : Int) < n := by have := takeB_no hn; omega
        simp [c143, hi, hh, takeL, hn, h0, h1]
theorem rtext_c (hl : He.lenS (rabs r) ≤ 140737488355328) : Contract Tryz.prog 113 [.box i 0] h (.v (.string (strB (He.textL (rabs r))))) (h.set i (rsC (rstep textS r))) [i] := by
  obtain ⟨b, no⟩ := r
  by_cases hc : ∃ k, no = false ∧ zeroAt b = some k
  · obtain ⟨k, rfl, hz⟩ := hc
    have hb : b.length ≤ 140737488355328 := hl
    obtain ⟨h1, h2, h3⟩ := zeroAt_some hz
    have hE : rstep textS (b, false) = (b.drop (k + 1), false) := by simp [rstep, rback, textS, hz]
    rw [hE]
    refine contract_of k113 mixed (by simp [c113]) fun hh hargs => ?_
    simp at hargs
    simp [c113]
    refine xloop_ok (D := Nat) (fun j => ⟨[(0, .box i 0), (3, .v (.int .i64 j))], [], h, []⟩) (fun j => j ≤ k) (fun j => b.length - j) 0 (by simp) ?_ ?_
    · simp [Leq, hh, hargs]
    · intro j hj
      have hlt : j < b.length := by omega
      have hlt' : (j : Int) < b.length := by omega
      have hw : IntKind.i64.wrap ((j : Int) + 1) = (j : Int) + 1 := wrap64 (by omega) (by omega)
      simp [hi, hlt, hlt']
      refine xwp_cond_of ((b[j].toNat : Int) == 0) (by simp) (fun ht => ?_) (fun hf => ?_)
      · have : j = k := by
          rcases Nat.lt_or_ge j k with h4 | h4
          · have := h3 j h4
            simp [List.getD_eq_getElem?_getD, hlt] at this
            exfalso; apply this; apply UInt8.toNat_inj.1; simp at ht; simp; omega
          · omega
        subst this
        simp [hi, hlt, hlt', hw, hh, He.textL, hz]
        omega
      · have : j ≠ k := by
          rintro rfl
          simp [List.getD_eq_getElem?_getD, hlt] at h2
          simp [h2] at hf
        simp [hi, hw]
        refine ⟨j + 1, by omega, by omega, ?_⟩
        simp [Leq, hh, hargs]
  · have hst : textS (rabs (b, no)) = none ∧ He.textL (rabs (b, no)) = [] := by
      cases no with
      | true => exact ⟨rfl, rfl⟩
      | false =>
        cases hz : zeroAt b with
        | none => simp [textS, He.textL, hz]
        | some k => exact absurd ⟨k, rfl, hz⟩ hc
    have hE : rstep textS (b, no) = (b, true) := by simp [rstep, rback, hst.1]
    rw [hE]
    refine contract_of k113 mixed (by simp [c113]) fun hh hargs => ?_
    simp at hargs
    simp [c113, hst.2]
    refine xloop_ok (D := Nat) (fun j => ⟨[(0, .box i 0), (3, .v (.int .i64 j))], [], h, []⟩) (fun j => j ≤ b.length) (fun j => b.length - j) 0 (by simp) ?_ ?_
    · simp [Leq, hh, hargs]
    · intro j hj
      cases no with
      | true =>
        by_cases hlt' : (j : Int) < b.length
        · simp [hi, hlt', hh]
        · simp [hi, hlt', hh]
      | false =>
        have hb : b.length ≤ 140737488355328 := hl
        by_cases hlt : j < b.length
        · have hlt' : (j : Int) < b.length := by omega
          have hw : IntKind.i64.wrap ((j : Int) + 1) = (j : Int) + 1 := wrap64 (by omega) (by omega)
          have hz : zeroAt b = none := by
            cases hz : zeroAt b with
            | none => rfl
            | some k => exact absurd ⟨k, rfl, hz⟩ hc
          have h2 := zeroAt_none hz j hlt
          have h4 : ((b[j].toNat : Int) == 0) = false := by
            simp [List.getD_eq_getElem?_getD, hlt] at h2
            simp
            intro h5; apply h2; apply UInt8.toNat_inj.1; simp; omega
          simp [hi, hlt, hlt', h4, hw]
          refine ⟨j + 1, by omega, by omega, ?_⟩
          simp [Leq, hh, hargs]
        · have hlt' : ¬ (j : Int) < b.length := by omega
          simp [hi, hlt', hh]
end
end Go.Proofs.YthilellmckhejaaGreat.Ax
