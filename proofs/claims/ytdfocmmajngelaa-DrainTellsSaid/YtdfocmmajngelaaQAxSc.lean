/- Package scan and the document's answers for layer 3, over values without memory. -/
import Derived.Test.YtdfocmmajngelaaRows
import Derived.Test.YtdfocmmajngelaaQElems
import Derived.WalkKit
import Derived.Lib.Walk
import Derived.Lib.AppendZeros
import Derived.Test.YtdfocmmajngelaaQAxU
import Derived.Test.YtdfocmmajngelaaQCodeA
import Derived.Test.YtdfocmmajngelaaQNumD
import Derived.Test.YtdfocmmajngelaaQDigC
import Derived.Test.YtdfocmmajngelaaQHelA
/- The contract of slices.Grow at no slice of bytes: a slice of the call's own, without bytes. -/
namespace Go.Proofs.Ytdfocmmajngelaa.Nm
open Go.RowKit Go By

end Go.Proofs.Ytdfocmmajngelaa.Nm
/- The contracts of what other packages and the document's answers build on, over values without memory: numbers, texts, bytes. -/
namespace Go.Proofs.Ytdfocmmajngelaa.Ax
open Go.RowKit Go By Ytdfocmmajngelaa.Nm Sc Dg
set_option linter.unusedSimpArgs false
set_option maxRecDepth 10000

theorem mixed : Try.prog.follows .mixedOrders = true := by kernel_rfl
theorem plain_vals {G : Ghost} : ∀ {l : List Value} {vs : List Value}, SeesL G (l.map AV.v) vs → vs = l
  | [], vs, h => h.none
  | x :: l, vs, h => by
    obtain ⟨y, r, rfl, h1, h2⟩ := h.split
    rw [h1.inv_v, plain_vals h2]
theorem plain_quiet {P : Program} {f : FuncId} (hE : entersB P f = true) {l : List Value} {v : Value} (h : List (List AV)) (hc : ∀ w, Calls P f l.toArray w fun e w' => e = .returned v ∧ w = w') : Contract P f (l.map AV.v) h (.v v) h [] :=
  contract_quiet hE rfl fun G w vs _ hs => ⟨v, .v v, by rw [plain_vals hs]; exact hc w⟩
/-! ### Numbers -/
theorem rclean_c (s : List UInt8) (hs : s.length ≤ maxLen) (h : List (List AV)) : Contract Try.prog 57 [.v (.string (strB s))] h (.v (.bool (cleanB s))) h [] :=
  plain_quiet (l := [.string (strB s)]) (by kernel_rfl) h fun w => by have := rclean_any (strB s) w (by simpa using hs); rwa [strB_data] at this

/-! ### Bytes with a number behind; a number in bytes -/
theorem bytes_two {G : Ghost} {w : World} (hW : WorldOk G w) {xs : List UInt8} {vs : List Value} {l : List Value} (hs : SeesL G (.sl 1 (bytesE xs) none .no :: l.map AV.v) vs) : ∃ a cap, vs = .slice a xs.length cap :: l ∧ (a = none → cap = 0) ∧ xs.length ≤ cap ∧ cap ≤ maxLen ∧ BytesAt w w.heap.size a xs := by
  obtain ⟨x, r, rfl, h1, h2⟩ := hs.split
  obtain ⟨a, cap, rfl, h3⟩ := h1.bytes hW
  exact ⟨a, cap, by rw [plain_vals h2], h3⟩
theorem made_of {xs : List UInt8} {w w' : World} {e : Ending} (h : Made xs w e w') : ∃ v, e = .returned v ∧ OwnB 5 w' w.heap.size v xs ∧ Below w.heap.size w w' := by
  obtain ⟨a, cap, he, _, ho, _, hb⟩ := h
  exact ⟨_, he, ho, hb⟩
theorem rput_c (xs : List UInt8) (n size : Int) (hl : xs.length ≤ 140737488351232) (h : List (List AV)) : Contract Try.prog 55 [.sl 1 (bytesE xs) none .no, .v (.int .i64 n), .v (.int .i64 size)] h (.sl 1 (bytesE (putL xs n size)) none (.own .res)) h [] :=
  contract_made (E := 5) (by kernel_rfl) fun G w vs hW hs => by
    obtain ⟨a, cap, rfl, h1, _, _, h2⟩ := bytes_two (l := [.int .i64 n, .int .i64 size]) hW hs
    exact (rput_any _ a cap xs n size w h2 h1 hl).mono fun e w' hm => made_of hm
end Go.Proofs.Ytdfocmmajngelaa.Ax
namespace Go.Proofs.Ytdfocmmajngelaa.Ax
open Go.RowKit Go By Ytdfocmmajngelaa.Nm Sc Dg
set_option linter.unusedSimpArgs false
set_option maxRecDepth 10000

/-- A scan's cells. -/
def scC (st : Sta) : List AV := [.v (.bool st.isSome), .sl 1 (bytesE (st.getD [])) none .no]
@[simp] theorem scC_some (xs : List UInt8) : scC (some xs) = [.v (.bool true), .sl 1 (bytesE xs) none .no] := rfl
@[simp] theorem scC_none : scC none = [.v (.bool false), .sl 1 (bytesE []) none .no] := rfl
section
variable (i : Nat) (h : List (List AV)) (st : Sta) (hi : h[i]? = some (scC st))
include hi
end
section
variable (i : Nat) (h : List (List AV)) (st : Sta) (hi : h[i]? = some (scC st))
include hi
end
/-! ### The document's -/
/-- A scan of the document's: its bytes, and whether it is bad. -/
abbrev Rs := List UInt8 × Bool
def rsC (r : Rs) : List AV := [.sl 1 (bytesE r.1) none .no, .v (.bool r.2)]
def rabs (r : Rs) : Sta := bif r.2 then none else some r.1
@[simp] theorem rsC_mk (b : List UInt8) (no : Bool) : rsC (b, no) = [.sl 1 (bytesE b) none .no, .v (.bool no)] := of_eq_true (eq_self _)
@[simp] theorem rabs_true (b : List UInt8) : rabs (b, true) = none := of_eq_true (eq_self _)
@[simp] theorem rabs_false (b : List UInt8) : rabs (b, false) = some b := of_eq_true (eq_self _)
def rback (b : List UInt8) : Sta → Rs
  | some xs => (xs, false)
  | none => (b, true)
def rstep (f : Sta → Sta) (r : Rs) : Rs := rback r.1 (f (rabs r))
section
variable (i : Nat) (h : List (List AV)) (r : Rs) (hi : h[i]? = some (rsC r))
include hi
end
end Go.Proofs.Ytdfocmmajngelaa.Ax
