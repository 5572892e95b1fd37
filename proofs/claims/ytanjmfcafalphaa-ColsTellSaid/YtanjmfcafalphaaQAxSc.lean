/- Package scan and the document's answers for layer 3, over values without memory. -/
import Derived.Test.YtanjmfcafalphaaRows
import Derived.Test.YtanjmfcafalphaaQElems
import Derived.WalkKit
import Derived.Lib.Walk
import Derived.Lib.AppendZeros
import Derived.Test.YtanjmfcafalphaaQAxIb
import Derived.Test.YtanjmfcafalphaaQCodeA
import Derived.Test.YtanjmfcafalphaaQNumD
import Derived.Test.YtanjmfcafalphaaQDigC
import Derived.Test.YtanjmfcafalphaaQHelA
/- The contract of slices.Grow at no slice of bytes: a slice of the call's own, without bytes. -/
namespace Go.Proofs.Ytanjmfcafalphaa.Nm
open Go.RowKit Go By

theorem byte_at : ∃ i, Try.prog.info? 5 = some i ∧ i.zero = some (.int .u8 0) ∧ i.size = 1 ∧ i.bytes = 1 := by
  have h : (Try.prog.info? 5).map (fun i => (i.zero, i.size, i.bytes)) = some (some (.int .u8 0), 1, 1) := by kernel_rfl
  cases hi : Try.prog.info? 5 with
  | none => rw [hi] at h; cases h
  | some i =>
    rw [hi] at h
    simp at h
    exact ⟨i, rfl, h.1, h.2.1, h.2.2⟩
end Go.Proofs.Ytanjmfcafalphaa.Nm
/- The contracts of what other packages and the document's answers build on, over values without memory: numbers, texts, bytes. -/
namespace Go.Proofs.Ytanjmfcafalphaa.Ax
open Go.RowKit Go By Nm Sc Dg
set_option linter.unusedSimpArgs false
set_option maxRecDepth 10000

theorem mixed : Try.prog.follows .mixedOrders = true := by kernel_rfl
theorem plain_vals {G : Ghost} : ∀ {l : List Value} {vs : List Value}, SeesL G (l.map AV.v) vs → vs = l
  | [], vs, h => h.none
  | x :: l, vs, h => by
    obtain ⟨y, r, rfl, h1, h2⟩ := h.split
    rw [h1.inv_v, plain_vals h2]
theorem plain_quiet {P : Program} {f : FuncId} (hE : entersB P f = true) {l : List Value} {v : Value} (h : List (List AV)) (hc : ∀ w, Calls P f l.toArray w fun e w' => e = .returned v ∧ w = w') : Contract P f (l.map AV.v) h (.v v) h [] :=
  contract_quiet hE rfl fun G w vs _ hs => ⟨v, .v v, by rw [plain_vals hs]; exact hc w⟩
/-- The same, of several results. -/
theorem plain_quiet_t {P : Program} {f : FuncId} (hE : entersB P f = true) {l r : List Value} (h : List (List AV)) (hc : ∀ w, Calls P f l.toArray w fun e w' => e = .returned (.tuple r.toArray) ∧ w = w') : Contract P f (l.map AV.v) h (.tup (r.map AV.v)) h [] :=
  contract_quiet hE rfl fun G w vs _ hs => ⟨.tuple r.toArray, .tup _ r (by simp) (fun j c hj => by
    rw [List.getElem?_map] at hj
    cases hr : r[j]? with
    | none => rw [hr] at hj; cases hj
    | some x => rw [hr] at hj; injection hj with hj; subst hj; rw [List.getD_eq_getElem?_getD, hr]; exact .v x), by rw [plain_vals hs]; exact hc w⟩

/-! ### Numbers -/
theorem right_c (n size : Int) (h : List (List AV)) : Contract Try.prog 50 [.v (.int .i64 n), .v (.int .i64 size)] h (.v (.bool (rightB n size))) h [] :=
  plain_quiet (l := [.int .i64 n, .int .i64 size]) (by kernel_rfl) h (right_any n size)
theorem signed_c (n size : Int) (h : List (List AV)) : Contract Try.prog 70 [.v (.int .i64 n), .v (.int .i64 size)] h (.v (.int .i64 (signedI n size))) h [] :=
  plain_quiet (l := [.int .i64 n, .int .i64 size]) (by kernel_rfl) h (signed_any n size)
theorem clean_c (s : List UInt8) (h : List (List AV)) : Contract Try.prog 47 [.v (.string (strB s))] h (.v (.bool (cleanB s))) h [] :=
  plain_quiet (l := [.string (strB s)]) (by kernel_rfl) h fun w => by have := clean_any (strB s) w; rwa [strB_data] at this
/-! ### Bytes with a number behind; a number in bytes -/
theorem bytes_two {G : Ghost} {w : World} (hW : WorldOk G w) {xs : List UInt8} {vs : List Value} {l : List Value} (hs : SeesL G (.sl 1 (bytesE xs) none .no :: l.map AV.v) vs) : ∃ a cap, vs = .slice a xs.length cap :: l ∧ (a = none → cap = 0) ∧ xs.length ≤ cap ∧ cap ≤ maxLen ∧ BytesAt w w.heap.size a xs := by
  obtain ⟨x, r, rfl, h1, h2⟩ := hs.split
  obtain ⟨a, cap, rfl, h3⟩ := h1.bytes hW
  exact ⟨a, cap, by rw [plain_vals h2], h3⟩
theorem made_of {xs : List UInt8} {w w' : World} {e : Ending} (h : Made xs w e w') : ∃ v, e = .returned v ∧ OwnB 5 w' w.heap.size v xs ∧ Below w.heap.size w w' := by
  obtain ⟨a, cap, he, _, ho, _, hb⟩ := h
  exact ⟨_, he, ho, hb⟩
end Go.Proofs.Ytanjmfcafalphaa.Ax
namespace Go.Proofs.Ytanjmfcafalphaa.Ax
open Go.RowKit Go By Nm Sc Dg
set_option linter.unusedSimpArgs false
set_option maxRecDepth 10000

/-- A scan's cells. -/
def scC (st : Sta) : List AV := [.v (.bool st.isSome), .sl 1 (bytesE (st.getD [])) none .no]
@[simp] theorem scC_some (xs : List UInt8) : scC (some xs) = [.v (.bool true), .sl 1 (bytesE xs) none .no] := rfl
@[simp] theorem scC_none : scC none = [.v (.bool false), .sl 1 (bytesE []) none .no] := rfl
theorem scC_lt (n : Nat) (st : Sta) : ltL n (scC st) := by unfold scC; simp
section
variable (i : Nat) (h : List (List AV)) (st : Sta) (hi : h[i]? = some (scC st))
include hi
end
section
variable (i : Nat) (h : List (List AV)) (st : Sta) (hi : h[i]? = some (scC st))
include hi
end
/-! ### The document's -/
/-- A scan of the document's: its bytes, and whether it is bad. -/
abbrev Rs := List UInt8 × Bool
def rsC (r : Rs) : List AV := [.sl 1 (bytesE r.1) none .no, .v (.bool r.2)]
def rabs (r : Rs) : Sta := bif r.2 then none else some r.1
@[simp] theorem rsC_mk (b : List UInt8) (no : Bool) : rsC (b, no) = [.sl 1 (bytesE b) none .no, .v (.bool no)] := of_eq_true (eq_self _)
theorem rsC_lt (n : Nat) (r : Rs) : ltL n (rsC r) := by unfold rsC; simp
@[simp] theorem rabs_true (b : List UInt8) : rabs (b, true) = none := of_eq_true (eq_self _)
@[simp] theorem rabs_false (b : List UInt8) : rabs (b, false) = some b := of_eq_true (eq_self _)
def rback (b : List UInt8) : Sta → Rs
  | some xs => (xs, false)
  | none => (b, true)
def rstep (f : Sta → Sta) (r : Rs) : Rs := rback r.1 (f (rabs r))
theorem rabs_step (f : Sta → Sta) (r : Rs) : rabs (rstep f r) = f (rabs r) := by
  unfold rstep; cases f (rabs r) <;> rfl
theorem rstep_bad {f : Sta → Sta} (hf : f none = none) {r : Rs} (h : rabs r = none) : rstep f r = r := by
  obtain ⟨b, no⟩ := r
  cases no with
  | true => simp [rstep, hf, rback]
  | false => cases h
section
variable (i : Nat) (h : List (List AV)) (r : Rs) (hi : h[i]? = some (rsC r))
include hi
end
end Go.Proofs.Ytanjmfcafalphaa.Ax
