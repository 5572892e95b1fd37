/- Package scan and the document's answers for layer 3, over values without memory. -/
import Derived.Test.YtdijlfgmpinidaaRows
import Derived.Test.YtdijlfgmpinidaaQElems
import Derived.WalkKit
import Derived.Lib.Walk
import Derived.Lib.AppendZeros
import Derived.Test.YtdijlfgmpinidaaQAxU
import Derived.Test.YtdijlfgmpinidaaQCodeA
import Derived.Test.YtdijlfgmpinidaaQNumD
import Derived.Test.YtdijlfgmpinidaaQDigC
import Derived.Test.YtdijlfgmpinidaaQHelA
/- The contract of slices.Grow at no slice of bytes: a slice of the call's own, without bytes. -/
namespace Go.Proofs.Ytdijlfgmpinidaa.Nm
open Go.RowKit Go By

theorem byte_at : ∃ i, Try.prog.info? 5 = some i ∧ i.zero = some (.int .u8 0) ∧ i.size = 1 ∧ i.bytes = 1 := by
  have h : (Try.prog.info? 5).map (fun i => (i.zero, i.size, i.bytes)) = some (some (.int .u8 0), 1, 1) := by kernel_rfl
  cases hi : Try.prog.info? 5 with
  | none => rw [hi] at h; cases h
  | some i =>
    rw [hi] at h
    simp at h
    exact ⟨i, rfl, h.1, h.2.1, h.2.2⟩
end Go.Proofs.Ytdijlfgmpinidaa.Nm
/- The contracts of what other packages and the document's answers build on, over values without memory: numbers, texts, bytes. -/
namespace Go.Proofs.Ytdijlfgmpinidaa.Ax
open Go.RowKit Go By Nm Sc Dg
set_option linter.unusedSimpArgs false
set_option maxRecDepth 10000

theorem mixed : Try.prog.follows .mixedOrders = true := by kernel_rfl
theorem plain_vals {G : Ghost} : ∀ {l : List Value} {vs : List Value}, SeesL G (l.map AV.v) vs → vs = l
  | [], vs, h => h.none
  | x :: l, vs, h => by
    obtain ⟨y, r, rfl, h1, h2⟩ := h.split
    rw [h1.inv_v, plain_vals h2]
theorem plain_quiet {P : Program} {f : FuncId} (hE : entersB P f = true) {l : List Value} {v : Value} (h : List (List AV)) (hc : ∀ w, Calls P f l.toArray w fun e w' => e = .returned v ∧ w = w') : Contract P f (l.map AV.v) h (.v v) h [] :=
  contract_quiet hE rfl fun G w vs _ hs => ⟨v, .v v, by rw [plain_vals hs]; exact hc w⟩
/-- The same, of several results. -/
theorem plain_quiet_t {P : Program} {f : FuncId} (hE : entersB P f = true) {l r : List Value} (h : List (List AV)) (hc : ∀ w, Calls P f l.toArray w fun e w' => e = .returned (.tuple r.toArray) ∧ w = w') : Contract P f (l.map AV.v) h (.tup (r.map AV.v)) h [] :=
  contract_quiet hE rfl fun G w vs _ hs => ⟨.tuple r.toArray, .tup _ r (by simp) (fun j c hj => by
    rw [List.getElem?_map] at hj
    cases hr : r[j]? with
    | none => rw [hr] at hj; cases hj
    | some x => rw [hr] at hj; injection hj with hj; subst hj; rw [List.getD_eq_getElem?_getD, hr]; exact .v x), by rw [plain_vals hs]; exact hc w⟩

/-! ### Numbers -/
theorem right_c (n size : Int) (h : List (List AV)) : Contract Try.prog 35 [.v (.int .i64 n), .v (.int .i64 size)] h (.v (.bool (rightB n size))) h [] :=
  plain_quiet (l := [.int .i64 n, .int .i64 size]) (by kernel_rfl) h (right_any n size)
theorem clean_c (s : List UInt8) (h : List (List AV)) : Contract Try.prog 41 [.v (.string (strB s))] h (.v (.bool (cleanB s))) h [] :=
  plain_quiet (l := [.string (strB s)]) (by kernel_rfl) h fun w => by have := clean_any (strB s) w; rwa [strB_data] at this
/-! ### Bytes with a number behind; a number in bytes -/
theorem bytes_two {G : Ghost} {w : World} (hW : WorldOk G w) {xs : List UInt8} {vs : List Value} {l : List Value} (hs : SeesL G (.sl 1 (bytesE xs) none .no :: l.map AV.v) vs) : ∃ a cap, vs = .slice a xs.length cap :: l ∧ (a = none → cap = 0) ∧ xs.length ≤ cap ∧ cap ≤ maxLen ∧ BytesAt w w.heap.size a xs := by
  obtain ⟨x, r, rfl, h1, h2⟩ := hs.split
  obtain ⟨a, cap, rfl, h3⟩ := h1.bytes hW
  exact ⟨a, cap, by rw [plain_vals h2], h3⟩
theorem made_of {xs : List UInt8} {w w' : World} {e : Ending} (h : Made xs w e w') : ∃ v, e = .returned v ∧ OwnB 5 w' w.heap.size v xs ∧ Below w.heap.size w w' := by
  obtain ⟨a, cap, he, _, ho, _, hb⟩ := h
  exact ⟨_, he, ho, hb⟩
theorem put_c (xs : List UInt8) (n size : Int) (hl : xs.length ≤ 140737488351232) (h : List (List AV)) : Contract Try.prog 23 [.sl 1 (bytesE xs) none .no, .v (.int .i64 n), .v (.int .i64 size)] h (.sl 1 (bytesE (putL xs n size)) none (.own .res)) h [] :=
  contract_made (E := 5) (by kernel_rfl) fun G w vs hW hs => by
    obtain ⟨a, cap, rfl, h1, _, _, h2⟩ := bytes_two (l := [.int .i64 n, .int .i64 size]) hW hs
    exact (put_any _ a cap xs n size w h2 (Nat.le_refl _) h1 hl).mono fun e w' hm => made_of hm
theorem get_c (xs : List UInt8) (i size : Int) (h : List (List AV)) : Contract Try.prog 25 [.sl 1 (bytesE xs) none .no, .v (.int .i64 i), .v (.int .i64 size)] h (.tup [.v (.int .i64 (getVal xs i size)), .v (.int .i64 (getErr xs.length i size))]) h [] :=
  contract_quiet (by kernel_rfl) rfl fun G w vs hW hs => by
    obtain ⟨a, cap, rfl, _, h1, h3, h2⟩ := bytes_two (l := [.int .i64 i, .int .i64 size]) hW hs
    refine ⟨gotten xs i size, .tup _ [_, _] rfl fun j c hj => ?_, get_any _ a cap xs i size w (by unfold maxLen at h3; omega) h2⟩
    rcases j with _ | _ | j <;> simp at hj <;> subst hj <;> exact .v _
theorem rget_c (xs : List UInt8) (i size : Int) (h : List (List AV)) : Contract Try.prog 29 [.sl 1 (bytesE xs) none .no, .v (.int .i64 i), .v (.int .i64 size)] h (.tup [.v (.int .i64 (getVal xs i size)), .v (.int .i64 (getErr xs.length i size))]) h [] :=
  contract_quiet (by kernel_rfl) rfl fun G w vs hW hs => by
    obtain ⟨a, cap, rfl, _, h1, h3, h2⟩ := bytes_two (l := [.int .i64 i, .int .i64 size]) hW hs
    refine ⟨gotten xs i size, .tup _ [_, _] rfl fun j c hj => ?_, rget_any _ a cap xs i size w (by unfold maxLen at h3; omega) h2⟩
    rcases j with _ | _ | j <;> simp at hj <;> subst hj <;> exact .v _
end Go.Proofs.Ytdijlfgmpinidaa.Ax
namespace Go.Proofs.Ytdijlfgmpinidaa.Ax
open Go.RowKit Go By Nm Sc Dg
set_option linter.unusedSimpArgs false
set_option maxRecDepth 10000

/-- A scan's cells. -/
def scC (st : Sta) : List AV := [.v (.bool st.isSome), .sl 1 (bytesE (st.getD [])) none .no]
@[simp] theorem scC_some (xs : List UInt8) : scC (some xs) = [.v (.bool true), .sl 1 (bytesE xs) none .no] := rfl
@[simp] theorem scC_none : scC none = [.v (.bool false), .sl 1 (bytesE []) none .no] := rfl
theorem scC_lt (n : Nat) (st : Sta) : ltL n (scC st) := by unfold scC; simp
section
variable (i : Nat) (h : List (List AV)) (st : Sta) (hi : h[i]? = some (scC st))
include hi
theorem bad_c : Contract Try.prog 13 [.box i 0] h (.v (.bool (badB st))) h [] := by
  refine contract_of k13 mixed (by simp [c13]) fun hh hargs => ?_
  cases st <;> simp at hi <;> simp [c13, hi, hh, badB]
theorem done_c : Contract Try.prog 15 [.box i 0] h (.v (.bool (doneB st))) h [] := by
  refine contract_of k15 mixed (by simp [c15]) fun hh hargs => ?_
  simp [c15]
  refine xcall_self (by simp) (bad_c i h st hi) ?_
  rcases st with _ | (_ | ⟨x, xs⟩) <;> simp at hi <;> simp [hi, hh, badB, doneB]
  omega
end
theorem fail_c (i : Nat) (h : List (List AV)) (a b : AV) (hi : h[i]? = some [a, b]) : Contract Try.prog 26 [.box i 0] h (.tup []) (h.set i (scC none)) [i] := by
  refine contract_of k26 mixed (by simp [c26]) fun hh hargs => ?_
  simp [c26, hi, hh]
section
variable (i : Nat) (h : List (List AV)) (st : Sta) (hi : h[i]? = some (scC st))
include hi
theorem take_c (n : Int) : Contract Try.prog 27 [.box i 0, .v (.int .i64 n)] h (.sl 1 (bytesE (takeL st n)) none .exact) (h.set i (scC (takeS st n))) [i] := by
  refine contract_of k27 mixed (by simp [c27]) fun hh hargs => ?_
  simp [c27]
  refine xcall_self (by simp) (bad_c i h st hi) ?_
  rcases st with _ | xs
  · simp at hi
    simp [hi, hh, badB, takeL, takeS, set_same hi]
  · simp at hi
    by_cases hn : takeB xs n = true
    · obtain ⟨h1, h2⟩ := takeB_yes hn
      have h1' : ¬ n < 0 := by omega
      have h2' : ¬ (xs.length : Int) < n := by omega
      simp [hi, hh, badB, takeL, takeS, hn, h1, h2, h1', h2', bytesE_take, bytesE_drop]
    · by_cases h0 : n < 0
      · simp [hi, hh, badB, takeL, takeS, hn, h0]
        refine xcall_self (by simp) (fail_c i h _ _ hi) ?_
        simp [hh]
      · have h1 : (xs.length : Int) < n := by have := takeB_no hn; omega
        simp [hi, hh, badB, takeL, takeS, hn, h0, h1]
        refine xcall_self (by simp) (fail_c i h _ _ hi) ?_
        simp [hh]
theorem num_c (n : Int) : Contract Try.prog 12 [.box i 0, .v (.int .i64 n)] h (.v (.int .i64 (numV st n))) (h.set i (scC (numS st n))) [i] := by
  refine contract_of k12 mixed (by simp [c12]) fun hh hargs => ?_
  simp [c12]
  refine xcall_self (by simp) (bad_c i h st hi) ?_
  rcases st with _ | xs
  · simp at hi
    simp [hi, hh, badB, numV, numS, set_same hi]
  · have hi0 := hi
    simp at hi
    simp [hi, badB]
    refine xcall_self (by simp) (get_c xs 0 n h) ?_
    by_cases he : getErr xs.length 0 n = 0
    · have := getErr_zero he
      simp [he]
      refine xcall_self (by simp) (take_c i h _ hi0 n) ?_
      have ht : takeB xs n = true := by simp [takeB]; omega
      simp [hh, numV, numS, he, takeS, ht, getVal]
    · simp [he]
      refine xcall_self (by simp) (fail_c i h _ _ hi) ?_
      simp [hh, numV, numS, he]
end
theorem indexByte_c (xs : List UInt8) (h : List (List AV)) : Contract Try.prog 37 [.sl 1 (bytesE xs) none .no, .v (.int .u8 0)] h (.v (.int .i64 (match zeroAt xs with | none => -1 | some k => (k : Int)))) h [] :=
  contract_quiet (by kernel_rfl) rfl fun G w vs hW hs => by
    obtain ⟨a, cap, rfl, _, h1, h3, h2⟩ := bytes_two (l := [.int .u8 0]) hW hs
    have e := indexByte_any _ a cap xs w h2
    rw [indexByte_zero] at e
    exact ⟨_, .v _, e⟩
theorem text_c (i : Nat) (h : List (List AV)) (st : Sta) (hi : h[i]? = some (scC st)) (hl : He.lenS st ≤ 140737488355328) : Contract Try.prog 28 [.box i 0] h (.v (.string (strB (He.textL st)))) (h.set i (scC (textS st))) [i] := by
  refine contract_of k28 mixed (by simp [c28]) fun hh hargs => ?_
  simp [c28]
  refine xcall_self (by simp) (bad_c i h st hi) ?_
  rcases st with _ | xs
  · simp at hi
    simp [hi, hh, badB, He.textL, textS, set_same hi]
  · have hi0 := hi
    simp at hi
    simp [hi, badB]
    refine xcall_self (by simp) (indexByte_c xs h) ?_
    cases hz : zeroAt xs with
    | none =>
      simp
      refine xcall_self (by simp) (fail_c i h _ _ hi) ?_
      simp [hh, textS, He.textL, hz]
    | some k =>
      have hk := (zeroAt_some hz).1
      have h0 : ¬ (k : Int) < 0 := by omega
      have ht : takeB xs ((k : Int) + 1) = true := by simp [takeB]; omega
      have hw : IntKind.i64.wrap ((k : Int) + 1) = (k : Int) + 1 := wrap64 (by omega) (by simp [He.lenS] at hl; omega)
      simp [h0, hw]
      refine xcall_self (by simp) (take_c i h _ hi0 _) ?_
      have hk' : k ≤ min (k + 1) xs.length := by omega
      simp [hh, takeL, takeS, ht, textS, He.textL, hz, List.take_take, hk']
theorem new_c (xs : List UInt8) (hx : xs.length ≤ 140737488355328) (h : List (List AV)) : Contract Try.prog 11 [.sl 1 (bytesE xs) none .no] h (.box h.length 0) (h ++ [scC (some xs)]) [] := by
  refine contract_of k11 mixed (by simp [c11]) fun hh hargs => ?_
  simp [c11, hh, hx]
  refine xappendA_own ?_
  simp [hh, hx]

/-! ### The document's -/
/-- A scan of the document's: its bytes, and whether it is bad. -/
abbrev Rs := List UInt8 × Bool
def rsC (r : Rs) : List AV := [.sl 1 (bytesE r.1) none .no, .v (.bool r.2)]
def rabs (r : Rs) : Sta := bif r.2 then none else some r.1
@[simp] theorem rsC_mk (b : List UInt8) (no : Bool) : rsC (b, no) = [.sl 1 (bytesE b) none .no, .v (.bool no)] := of_eq_true (eq_self _)
theorem rsC_lt (n : Nat) (r : Rs) : ltL n (rsC r) := by unfold rsC; simp
@[simp] theorem rabs_true (b : List UInt8) : rabs (b, true) = none := of_eq_true (eq_self _)
@[simp] theorem rabs_false (b : List UInt8) : rabs (b, false) = some b := of_eq_true (eq_self _)
def rback (b : List UInt8) : Sta → Rs
  | some xs => (xs, false)
  | none => (b, true)
def rstep (f : Sta → Sta) (r : Rs) : Rs := rback r.1 (f (rabs r))
theorem rabs_step (f : Sta → Sta) (r : Rs) : rabs (rstep f r) = f (rabs r) := by
  unfold rstep; cases f (rabs r) <;> rfl
theorem rstep_bad {f : Sta → Sta} (hf : f none = none) {r : Rs} (h : rabs r = none) : rstep f r = r := by
  obtain ⟨b, no⟩ := r
  cases no with
  | true => simp [rstep, hf, rback]
  | false => cases h
theorem rnew_c (xs : List UInt8) (hx : xs.length ≤ 140737488355328) (h : List (List AV)) : Contract Try.prog 16 [.sl 1 (bytesE xs) none .no] h (.box h.length 0) (h ++ [rsC (xs, false)]) [] := by
  refine contract_of k16 mixed (by simp [c16]) fun hh hargs => ?_
  simp [c16, hh, hx]
  refine xappendA_own ?_
  simp [hh, hx]
section
variable (i : Nat) (h : List (List AV)) (r : Rs) (hi : h[i]? = some (rsC r))
include hi
theorem rdone_c : Contract Try.prog 19 [.box i 0] h (.v (.bool (doneB (rabs r)))) h [] := by
  obtain ⟨b, no⟩ := r
  refine contract_of k19 mixed (by simp [c19]) fun hh hargs => ?_
  rcases no <;> rcases b with _ | ⟨x, b⟩ <;> simp at hi <;> simp [c19, hi, hh, doneB]
  omega
theorem rnum_c (n : Int) : Contract Try.prog 17 [.box i 0, .v (.int .i64 n)] h (.v (.int .i64 (numV (rabs r) n))) (h.set i (rsC (rstep (numS · n) r))) [i] := by
  obtain ⟨b, no⟩ := r
  cases no with
  | true =>
    have hE : rstep (numS · n) (b, true) = (b, true) := by simp [rstep, rback, numS]
    rw [hE]
    refine contract_of k17 mixed (by simp [c17]) fun hh hargs => ?_
    simp [c17, hi]
    refine xcall_self (by simp) (rget_c b 0 n h) ?_
    simp [hi, hh, numV]
  | false =>
    by_cases he : getErr b.length 0 n = 0
    · have hE : rstep (numS · n) (b, false) = (b.drop n.toNat, false) := by simp [rstep, rback, numS, he]
      rw [hE]
      refine contract_of k17 mixed (by simp [c17]) fun hh hargs => ?_
      have h1 := getErr_zero he
      have h2 : ¬ n < 0 := by omega
      have h3 : 0 ≤ n := by omega
      simp [c17, hi]
      refine xcall_self (by simp) (rget_c b 0 n h) ?_
      simp [hi, hh, numV, he, getVal, h1, h2, h3, bytesE_drop]
    · have hE : rstep (numS · n) (b, false) = (b, true) := by simp [rstep, rback, numS, he]
      rw [hE]
      refine contract_of k17 mixed (by simp [c17]) fun hh hargs => ?_
      simp [c17, hi]
      refine xcall_self (by simp) (rget_c b 0 n h) ?_
      simp [hi, hh, numV, he]
theorem rtext_c (hl : He.lenS (rabs r) ≤ 140737488355328) : Contract Try.prog 30 [.box i 0] h (.v (.string (strB (He.textL (rabs r))))) (h.set i (rsC (rstep textS r))) [i] := by
  obtain ⟨b, no⟩ := r
  by_cases hc : ∃ k, no = false ∧ zeroAt b = some k
  · obtain ⟨k, rfl, hz⟩ := hc
    have hb : b.length ≤ 140737488355328 := hl
    obtain ⟨h1, h2, h3⟩ := zeroAt_some hz
    have hE : rstep textS (b, false) = (b.drop (k + 1), false) := by simp [rstep, rback, textS, hz]
    rw [hE]
    refine contract_of k30 mixed (by simp [c30]) fun hh hargs => ?_
    simp at hargs
    simp [c30]
    refine xloop_ok (D := Nat) (fun j => ⟨[(0, .box i 0), (3, .v (.int .i64 j))], [], h, []⟩) (fun j => j ≤ k) (fun j => b.length - j) 0 (by simp) ?_ ?_
    · simp [Leq, hh, hargs]
    · intro j hj
      have hlt : j < b.length := by omega
      have hlt' : (j : Int) < b.length := by omega
      have hw : IntKind.i64.wrap ((j : Int) + 1) = (j : Int) + 1 := wrap64 (by omega) (by omega)
      simp [hi, hlt, hlt']
      refine xwp_cond_of ((b[j].toNat : Int) == 0) (by simp) (fun ht => ?_) (fun hf => ?_)
      · have : j = k := by
          rcases Nat.lt_or_ge j k with h4 | h4
          · have := h3 j h4
            simp [List.getD_eq_getElem?_getD, hlt] at this
            exfalso; apply this; apply UInt8.toNat_inj.1; simp at ht; simp; omega
          · omega
        subst this
        simp [hi, hlt, hlt', hw, hh, He.textL, hz]
        omega
      · have : j ≠ k := by
          rintro rfl
          simp [List.getD_eq_getElem?_getD, hlt] at h2
          simp [h2] at hf
        simp [hi, hw]
        refine ⟨j + 1, by omega, by omega, ?_⟩
        simp [Leq, hh, hargs]
  · have hst : textS (rabs (b, no)) = none ∧ He.textL (rabs (b, no)) = [] := by
      cases no with
      | true => exact ⟨rfl, rfl⟩
      | false =>
        cases hz : zeroAt b with
        | none => simp [textS, He.textL, hz]
        | some k => exact absurd ⟨k, rfl, hz⟩ hc
    have hE : rstep textS (b, no) = (b, true) := by simp [rstep, rback, hst.1]
    rw [hE]
    refine contract_of k30 mixed (by simp [c30]) fun hh hargs => ?_
    simp at hargs
    simp [c30, hst.2]
    refine xloop_ok (D := Nat) (fun j => ⟨[(0, .box i 0), (3, .v (.int .i64 j))], [], h, []⟩) (fun j => j ≤ b.length) (fun j => b.length - j) 0 (by simp) ?_ ?_
    · simp [Leq, hh, hargs]
    · intro j hj
      cases no with
      | true =>
        by_cases hlt' : (j : Int) < b.length
        · simp [hi, hlt', hh]
        · simp [hi, hlt', hh]
      | false =>
        have hb : b.length ≤ 140737488355328 := hl
        by_cases hlt : j < b.length
        · have hlt' : (j : Int) < b.length := by omega
          have hw : IntKind.i64.wrap ((j : Int) + 1) = (j : Int) + 1 := wrap64 (by omega) (by omega)
          have hz : zeroAt b = none := by
            cases hz : zeroAt b with
            | none => rfl
            | some k => exact absurd ⟨k, rfl, hz⟩ hc
          have h2 := zeroAt_none hz j hlt
          have h4 : ((b[j].toNat : Int) == 0) = false := by
            simp [List.getD_eq_getElem?_getD, hlt] at h2
            simp
            intro h5; apply h2; apply UInt8.toNat_inj.1; simp; omega
          simp [hi, hlt, hlt', h4, hw]
          refine ⟨j + 1, by omega, by omega, ?_⟩
          simp [Leq, hh, hargs]
        · have hlt' : ¬ (j : Int) < b.length := by omega
          simp [hi, hlt', hh]
end
end Go.Proofs.Ytdijlfgmpinidaa.Ax
