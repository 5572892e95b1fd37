/- The document's messages of front as bytes and out of bytes, over values without memory. -/
import Derived.Test.YtlbgjlmokpkkeaaGreatDoorQAxKc0
import Derived.Test.YtlbgjlmokpkkeaaGreatDoorQHelA
import Derived.Test.YtlbgjlmokpkkeaaGreatDoorQAxWo
import Derived.Test.YtlbgjlmokpkkeaaGreatDoorQAxGc
import Derived.Test.YtlbgjlmokpkkeaaGreatDoorQAxPf
/- Package scan and the document's answers for layer 3, over values without memory. -/
namespace Go.Proofs.YtlbgjlmokpkkeaaGreatDoor.Ax
open Go.RowKit Go By YtlbgjlmokpkkeaaGreatDoor.Nm Sc Dg
set_option linter.unusedSimpArgs false
set_option maxRecDepth 10000

/-- A scan's cells. -/
def scC (st : Sta) : List AV := [.v (.bool st.isSome), .sl 1 (bytesE (st.getD [])) none .no]
@[simp] theorem scC_some (xs : List UInt8) : scC (some xs) = [.v (.bool true), .sl 1 (bytesE xs) none .no] := rfl
@[simp] theorem scC_none : scC none = [.v (.bool false), .sl 1 (bytesE []) none .no] := rfl
theorem scC_lt (n : Nat) (st : Sta) : ltL n (scC st) := by unfold scC; simp
section
variable (i : Nat) (h : List (List AV)) (st : Sta) (hi : h[i]? = some (scC st))
include hi
theorem bad_c : Contract Tryz.prog 77 [.box i 0] h (.v (.bool (badB st))) h [] := by
  refine contract_of k77 mixed (by simp [c77]) fun hh hargs => ?_
  cases st <;> simp at hi <;> simp [c77, hi, hh, badB]
theorem done_c : Contract Tryz.prog 68 [.box i 0] h (.v (.bool (doneB st))) h [] := by
  refine contract_of k68 mixed (by simp [c68]) fun hh hargs => ?_
  simp [c68]
  refine xcall_self (by simp) (bad_c i h st hi) ?_
  rcases st with _ | (_ | ⟨x, xs⟩) <;> simp at hi <;> simp [hi, hh, badB, doneB]
  omega
end
theorem fail_c (i : Nat) (h : List (List AV)) (a b : AV) (hi : h[i]? = some [a, b]) : Contract Tryz.prog 103 [.box i 0] h (.tup []) (h.set i (scC none)) [i] := by
  refine contract_of k103 mixed (by simp [c103]) fun hh hargs => ?_
  simp [c103, hi, hh]
section
variable (i : Nat) (h : List (List AV)) (st : Sta) (hi : h[i]? = some (scC st))
include hi
theorem take_c (n : Int) : Contract Tryz.prog 104 [.box i 0, .v (.int .i64 n)] h (.sl 1 (bytesE (takeL st n)) none .exact) (h.set i (scC (takeS st n))) [i] := by
  refine contract_of k104 mixed (by simp [c104]) fun hh hargs => ?_
  simp [c104]
  refine xcall_self (by simp) (bad_c i h st hi) ?_
  rcases st with _ | xs
  · simp at hi
    simp [hi, hh, badB, takeL, takeS, set_same hi]
  · simp at hi
    by_cases hn : takeB xs n = true
    · obtain ⟨h1, h2⟩ := takeB_yes hn
      have h1' : ¬ n < 0 := by omega
      have h2' : ¬ (xs.length : Int) < n := by omega
      simp [hi, hh, badB, takeL, takeS, hn, h1, h2, h1', h2', bytesE_take, bytesE_drop]
    · by_cases h0 : n < 0
      · simp [hi, hh, badB, takeL, takeS, hn, h0]
        refine xcall_self (by simp) (fail_c i h _ _ hi) ?_
        simp [hh]
      · have h1 : (xs.length : Int) < n := by have := takeB_no hn; omega
        simp [hi, hh, badB, takeL, takeS, hn, h0, h1]
        refine xcall_self (by simp) (fail_c i h _ _ hi) ?_
        simp [hh]
theorem num_c (n : Int) : Contract Tryz.prog 76 [.box i 0, .v (.int .i64 n)] h (.v (.int .i64 (numV st n))) (h.set i (scC (numS st n))) [i] := by
  refine contract_of k76 mixed (by simp [c76]) fun hh hargs => ?_
  simp [c76]
  refine xcall_self (by simp) (bad_c i h st hi) ?_
  rcases st with _ | xs
  · simp at hi
    simp [hi, hh, badB, numV, numS, set_same hi]
  · have hi0 := hi
    simp at hi
    simp [hi, badB]
    refine xcall_self (by simp) (get_c xs 0 n h) ?_
    by_cases he : getErr xs.length 0 n = 0
    · have := getErr_zero he
      simp [he]
      refine xcall_self (by simp) (take_c i h _ hi0 n) ?_
      have ht : takeB xs n = true := by simp [takeB]; omega
      simp [hh, numV, numS, he, takeS, ht, getVal]
    · simp [he]
      refine xcall_self (by simp) (fail_c i h _ _ hi) ?_
      simp [hh, numV, numS, he]
end
theorem indexByte_c (xs : List UInt8) (h : List (List AV)) : Contract Tryz.prog 121 [.sl 1 (bytesE xs) none .no, .v (.int .u8 0)] h (.v (.int .i64 (match zeroAt xs with | none => -1 | some k => (k : Int)))) h [] :=
  contract_quiet (by kernel_rfl) rfl fun G w vs hW hs => by
    obtain ⟨a, cap, rfl, _, h1, h3, h2⟩ := bytes_two (l := [.int .u8 0]) hW hs
    have e := indexByte_any _ a cap xs w h2
    rw [indexByte_zero] at e
    exact ⟨_, .v _, e⟩
theorem text_c (i : Nat) (h : List (List AV)) (st : Sta) (hi : h[i]? = some (scC st)) (hl : He.lenS st ≤ 140737488355328) : Contract Tryz.prog 88 [.box i 0] h (.v (.string (strB (He.textL st)))) (h.set i (scC (textS st))) [i] := by
  refine contract_of k88 mixed (by simp [c88]) fun hh hargs => ?_
  simp [c88]
  refine xcall_self (by simp) (bad_c i h st hi) ?_
  rcases st with _ | xs
  · simp at hi
    simp [hi, hh, badB, He.textL, textS, set_same hi]
  · have hi0 := hi
    simp at hi
    simp [hi, badB]
    refine xcall_self (by simp) (indexByte_c xs h) ?_
    cases hz : zeroAt xs with
    | none =>
      simp
      refine xcall_self (by simp) (fail_c i h _ _ hi) ?_
      simp [hh, textS, He.textL, hz]
    | some k =>
      have hk := (zeroAt_some hz).1
      have h0 : ¬ (k : Int) < 0 := by omega
      have ht : takeB xs ((k : Int) + 1) = true := by simp [takeB]; omega
      have hw : IntKind.i64.wrap ((k : Int) + 1) = (k : Int) + 1 := wrap64 (by omega) (by simp [He.lenS] at hl; omega)
      simp [h0, hw]
      refine xcall_self (by simp) (take_c i h _ hi0 _) ?_
      have hk' : k ≤ min (k + 1) xs.length := by omega
      simp [hh, takeL, takeS, ht, textS, He.textL, hz, List.take_take, hk']
theorem new_c (xs : List UInt8) (hx : xs.length ≤ 140737488355328) (h : List (List AV)) : Contract Tryz.prog 75 [.sl 1 (bytesE xs) none .no] h (.box h.length 0) (h ++ [scC (some xs)]) [] := by
  refine contract_of k75 mixed (by simp [c75]) fun hh hargs => ?_
  simp [c75, hh, hx]
  refine xappendA_own ?_
  simp [hh, hx]

/-! ### The document's -/
/-- A scan of the document's: its bytes, and whether it is bad. -/
abbrev Rs := List UInt8 × Bool
def rsC (r : Rs) : List AV := [.sl 1 (bytesE r.1) none .no, .v (.bool r.2)]
def rabs (r : Rs) : Sta := bif r.2 then none else some r.1
@[simp] theorem rsC_mk (b : List UInt8) (no : Bool) : rsC (b, no) = [.sl 1 (bytesE b) none .no, .v (.bool no)] := of_eq_true (eq_self _)
@[simp] theorem rabs_true (b : List UInt8) : rabs (b, true) = none := of_eq_true (eq_self _)
@[simp] theorem rabs_false (b : List UInt8) : rabs (b, false) = some b := of_eq_true (eq_self _)
def rback (b : List UInt8) : Sta → Rs
  | some xs => (xs, false)
  | none => (b, true)
def rstep (f : Sta → Sta) (r : Rs) : Rs := rback r.1 (f (rabs r))
section
variable (i : Nat) (h : List (List AV)) (r : Rs) (hi : h[i]? = some (rsC r))
include hi
end
end Go.Proofs.YtlbgjlmokpkkeaaGreatDoor.Ax
/- The contracts of what package wire reads, and of what the document reads, over values without memory. -/
namespace Go.Proofs.YtlbgjlmokpkkeaaGreatDoor.Ax
open Go.RowKit Go By YtlbgjlmokpkkeaaGreatDoor.Nm Sc Dg
set_option linter.unusedSimpArgs false
set_option linter.unusedVariables false
set_option maxRecDepth 10000

/-- What is read again and again: v is read where a scan stands, and leads to s. -/
def readR {α : Type} (v : Sta → α) (s : Sta → Sta) : Nat → Sta → List α × Sta
  | 0, st => ([], st)
  | k + 1, st => (v st :: (readR v s k (s st)).1, (readR v s k (s st)).2)
section
variable {α : Type} (v : Sta → α) (s : Sta → Sta)
end
/-- A list that is read: how many, and each; none, if anything could not be had. -/
def listV {α : Type} (v : Sta → α) (s : Sta → Sta) (st : Sta) : List α :=
  if (readR v s (numV st 2).toNat (numS st 2)).2 = none then [] else (readR v s (numV st 2).toNat (numS st 2)).1
def listS {α : Type} (v : Sta → α) (s : Sta → Sta) (st : Sta) : Sta := (readR v s (numV st 2).toNat (numS st 2)).2
/-- A cell that is read. -/
def cellV (st : Sta) : Cl := if numV st 4 = 4294967295 then (true, []) else (false, takeL (numS st 4) (numV st 4))
def cellS (st : Sta) : Sta := if numV st 4 = 4294967295 then numS st 4 else takeS (numS st 4) (numV st 4)
/-! ### The document's -/
/-- What is read as long as all could be had. -/
def readU {α : Type} (v : Sta → α) (s : Sta → Sta) : Nat → Sta → List α
  | 0, _ => []
  | k + 1, st => if st = none then [] else v st :: readU v s k (s st)
/-- A list that the document reads. -/
def listU {α : Type} (v : Sta → α) (s : Sta → Sta) (st : Sta) : List α := readU v s (numV st 2).toNat (numS st 2)
/-- The document's scan goes on so, again and again. -/
def rsN (q : Rs → Rs) : Nat → Rs → Rs
  | 0, r => r
  | k + 1, r => rsN q k (q r)
def listRs (q : Rs → Rs) (r : Rs) : Rs := rsN q (numV (rabs r) 2).toNat (rstep (numS · 2) r)
section
variable {α : Type} (v : Sta → α) (s : Sta → Sta) (q : Rs → Rs) (hq : ∀ r, rabs (q r) = s (rabs r)) (hb : ∀ r, rabs r = none → q r = r) (r : Rs) (n : Nat) (hn : numV (rabs r) 2 = n)
include hq hn
end
theorem numS_len (st : Sta) (n : Int) : He.lenS (numS st n) ≤ He.lenS st := by
  unfold numS; split
  · split
    · simp [He.lenS]
    · simp [He.lenS]
  · exact Nat.le_refl _
/-- The document's scan behind a cell. -/
def rcellQ (r : Rs) : Rs := if numV (rabs r) 4 = 4294967295 then rstep (numS · 4) r else rstep (takeS · (numV (rabs r) 4)) (rstep (numS · 4) r)
end Go.Proofs.YtlbgjlmokpkkeaaGreatDoor.Ax
/- Front's messages as bytes, over values without memory: both sides. -/
namespace Go.Proofs.YtlbgjlmokpkkeaaGreatDoor.Ax
open Go.RowKit Go By YtlbgjlmokpkkeaaGreatDoor.Nm Sc Dg
set_option linter.unusedSimpArgs false
set_option linter.unusedVariables false
set_option maxRecDepth 10000

/-! ### slices.Concat -/
def bytC (b : List UInt8) : List AV := [.sl 1 (bytesE b) none .no]
@[simp] theorem ltLL_bytC (n : Nat) (l : List (List UInt8)) : ltLL n (enc bytC l) := ltLL_enc bytC n (fun _ => by simp [bytC]) l
/-- Lists of bytes, one behind the other. -/
def catL (l : List (List UInt8)) : List UInt8 := l.flatMap id
theorem catL_step (l : List (List UInt8)) (a j : Nat) (hj : j < l.length) (N : Nat) (hN : a + (catL l).length ≤ N) : catL (l.take (j + 1)) = catL (l.take j) ++ l[j] ∧ a + ((catL (l.take j)).length + l[j].length) ≤ N := flat_step id l a j hj N hN
@[simp] theorem catL_nil : catL [] = [] := of_eq_true (eq_self _)
@[simp] theorem catL_cons (x : List UInt8) (l : List (List UInt8)) : catL (x :: l) = x ++ catL l := of_eq_true (eq_self _)
theorem concat_c (l : List (List UInt8)) (h : List (List AV)) (hl : (catL l).length ≤ 140737488355328) (hn : l.length ≤ 140737488355328) : Contract Tryz.prog 115 [.sl 1 (enc bytC l) none .no] h (.sl 1 (bytesE (catL l)) none (.own .res)) h [] := by
  refine contract_of k115 mixed (by simp [c115]) fun hh hargs => ?_
  simp [c115]
  refine xloop_ok (D := Nat) (fun j => ⟨[(0, .sl 1 (enc bytC l) none .no), (3, .v (.int .i64 (catL (l.take j)).length)), (9, .sl 1 (enc bytC l) none .no), (10, .v (.int .i64 l.length)), (11, .v (.int .i64 j))], [], h, []⟩) (fun j => j ≤ l.length) (fun j => l.length - j) 0 (by simp) ?_ ?_
  · simp [Leq, hh]
  · intro j hj
    by_cases hlt : j < l.length
    · have hw : IntKind.i64.wrap ((j : Int) + 1) = (j : Int) + 1 := wrap64 (by omega) (by omega)
      obtain ⟨hx, hb⟩ := catL_step l 0 j hlt _ (by simpa using hl)
      have hw2 : IntKind.i64.wrap (((catL (l.take j)).length : Int) + (l[j].length : Int)) = ((catL (l.take (j + 1))).length : Int) := by
        rw [hx, List.length_append, wrap64 (by omega) (by omega)]; simp
      have h0 : ¬ ((catL (l.take (j + 1))).length : Int) < 0 := by omega
      simp [hlt, bytC, hw, hw2, h0]
      refine ⟨j + 1, by omega, by omega, ?_⟩
      simp [Leq, hh]
    · have : j = l.length := by omega
      subst this
      simp 
      refine xcall_self (by simp) (grow_c _ hl h) ?_
      simp 
      refine xloop_ok (D := Nat) (fun j => ⟨[(25, .sl 1 (enc bytC l) none .no), (26, .v (.int .i64 l.length)), (27, .v (.int .i64 j))], [(6, .sl 1 (bytesE (catL (l.take j))) none (.own (.slot 6)))], h, []⟩) (fun j => j ≤ l.length) (fun j => l.length - j) 0 (by simp) ?_ ?_
      · simp [Leq, hh]
      · intro j hj
        by_cases hlt : j < l.length
        · have hw : IntKind.i64.wrap ((j : Int) + 1) = (j : Int) + 1 := wrap64 (by omega) (by omega)
          obtain ⟨hx, hb⟩ := catL_step l 0 j hlt _ (by simpa using hl)
          simp [hlt, bytC, hw]
          refine ⟨by omega, j + 1, by omega, by omega, ?_⟩
          simp [Leq, hh, hx]
        · have : j = l.length := by omega
          subst this
          simp [hh]

/-! ### A body -/
end Go.Proofs.YtlbgjlmokpkkeaaGreatDoor.Ax
/- Front's messages out of bytes, over values without memory: both sides. -/
namespace Go.Proofs.YtlbgjlmokpkkeaaGreatDoor.Ax
open Go.RowKit Go By YtlbgjlmokpkkeaaGreatDoor.Nm Sc Dg
set_option linter.unusedSimpArgs false
set_option linter.unusedVariables false
set_option maxRecDepth 10000

abbrev numbersV (size : Int) (st : Sta) : List Int := listV (numV · size) (numS · size) st
abbrev numbersS (size : Int) (st : Sta) : Sta := listS (numV · size) (numS · size) st
abbrev cellsV (st : Sta) : List Cl := listV cellV cellS st
abbrev cellsS (st : Sta) : Sta := listS cellV cellS st
open He (textL)
/-- What Decode answers. -/
def noFm : Fm := ⟨0, 0, [], [], [], [], [], [], [], 0⟩
end Go.Proofs.YtlbgjlmokpkkeaaGreatDoor.Ax
namespace Go.Proofs.YtlbgjlmokpkkeaaGreatDoor.Ax
open Go.RowKit Go By YtlbgjlmokpkkeaaGreatDoor.Nm Sc Dg
set_option linter.unusedSimpArgs false
set_option linter.unusedVariables false
set_option maxRecDepth 10000
open He (textL)

theorem putL_eq (xs : List UInt8) (n size : Int) : putL xs n size = xs ++ putL [] n size := by
  unfold putL; split <;> simp
abbrev rnumbersQ (size : Int) (r : Rs) : Rs := listRs (rstep (numS · size)) r
abbrev rcellsQ (r : Rs) : Rs := listRs rcellQ r
abbrev numbersU (size : Int) (st : Sta) : List Int := listU (numV · size) (numS · size) st
end Go.Proofs.YtlbgjlmokpkkeaaGreatDoor.Ax
