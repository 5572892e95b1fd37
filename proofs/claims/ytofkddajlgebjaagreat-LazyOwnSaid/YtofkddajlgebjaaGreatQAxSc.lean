/- Package scan and the document's answers for layer 3, over values without memory. -/
import Derived.Test.YtofkddajlgebjaaGreatRows
import Derived.Test.YtofkddajlgebjaaGreatQElems
import Derived.WalkKit
import Derived.Lib.Walk
import Derived.Lib.AppendZeros
import Derived.Test.YtofkddajlgebjaaGreatQAxIb
import Derived.Test.YtofkddajlgebjaaGreatQCodeA
import Derived.Test.YtofkddajlgebjaaGreatQNumD
import Derived.Test.YtofkddajlgebjaaGreatQDigC
import Derived.Test.YtofkddajlgebjaaGreatQHelA
/- The contract of slices.Grow at no slice of bytes: a slice of the call's own, without bytes. -/
namespace Go.Proofs.YtofkddajlgebjaaGreat.Nm
set_option maxRecDepth 100000
open Go.RowKit Go By

theorem byte_at : ∃ i, Tryz.prog.info? 5 = some i ∧ i.zero = some (.int .u8 0) ∧ i.size = 1 ∧ i.bytes = 1 := by
  have h : (Tryz.prog.info? 5).map (fun i => (i.zero, i.size, i.bytes)) = some (some (.int .u8 0), 1, 1) := by kernel_rfl
  cases hi : Tryz.prog.info? 5 with
  | none => rw [hi] at h; cases h
  | some i =>
    rw [hi] at h
    simp at h
    exact ⟨i, rfl, h.1, h.2.1, h.2.2⟩
theorem grow_nil (n : Nat) (w : World) (hn : n ≤ 140737488355328) :
    Calls Tryz.prog 28 #[.slice none 0 0, .int .i64 n] w fun e w' => ∃ v, e = .returned v ∧ OwnB 5 w' w.heap.size v [] ∧ Below w.heap.size w w' := by
  obtain ⟨i, hi, hz, hs, hb⟩ := byte_at
  have h1 : ¬ ((n : Int) < 0) := by omega
  rcases Nat.eq_zero_or_pos n with h0 | h0
  · subst h0
    go_enter Tryz.func28, Tryz.ntmps28
    go_wp2
    go_ret
    exact ⟨_, rfl, ⟨rfl, .inl ⟨rfl, rfl⟩⟩, Below.refl _ _⟩
  · have h3 : wrap64 (n : Int) = n := by unfold wrap64; omega
    have h4 : (n : Int) > 0 := by omega
    have hr : ∀ ty, _ := fun ty => Lib.run_append_nil_zeros (P := Tryz.prog) w 30 3 ty 5 i (.int .u8 0) .i64 .i64 Tryz.underlying30 Tryz.underlying3 hi hz n h0 (by omega) (by omega) (by rw [hb]; omega)
    have hG := grownCap_ge w n 0 5
    have hG2 := grownCap_le_maxLen w n 0 5 (by unfold maxLen; omega)
    obtain ⟨g, hg⟩ : ∃ g, g = grownCap w n 0 5 := ⟨_, rfl⟩
    rw [← hg] at hr hG hG2
    have hG3 : g ≤ 9223372036854775807 := by unfold maxLen at hG2; omega
    go_enter Tryz.func28, Tryz.ntmps28
    go_wp2_with (at_builtin; refine Lib.wpList_append_run _ rfl _ _ _ _ rfl _ _ rfl rfl _ _ (hr _) ?_)
    rw [← hg]
    go_ret
    refine ⟨_, rfl, ⟨rfl, .inr ⟨_, g, _, rfl, Nat.le_refl _, heap_alloc_new w _, Nat.zero_le _, hG2, ?_, rfl⟩⟩, ?_⟩
    · have hz1 : ∀ m, (Builtin.zeroCells #[Value.int IntKind.u8 0] m).size = m := fun m => by simp [Builtin.zeroCells]
      rw [Array.size_append, hz1, hz1]; omega
    · exact ((Below.refl _ _).alloc (Nat.le_refl _) _).drew
end Go.Proofs.YtofkddajlgebjaaGreat.Nm
/- The contracts of what other packages and the document's answers build on, over values without memory: numbers, texts, bytes. -/
namespace Go.Proofs.YtofkddajlgebjaaGreat.Ax
open Go.RowKit Go By YtofkddajlgebjaaGreat.Nm Sc Dg
set_option linter.unusedSimpArgs false
set_option maxRecDepth 10000

theorem mixed : Tryz.prog.follows .mixedOrders = true := by kernel_rfl
theorem plain_vals {G : Ghost} : ∀ {l : List Value} {vs : List Value}, SeesL G (l.map AV.v) vs → vs = l
  | [], vs, h => h.none
  | x :: l, vs, h => by
    obtain ⟨y, r, rfl, h1, h2⟩ := h.split
    rw [h1.inv_v, plain_vals h2]
theorem plain_quiet {P : Program} {f : FuncId} (hE : entersB P f = true) {l : List Value} {v : Value} (h : List (List AV)) (hc : ∀ w, Calls P f l.toArray w fun e w' => e = .returned v ∧ w = w') : Contract P f (l.map AV.v) h (.v v) h [] :=
  contract_quiet hE rfl fun G w vs _ hs => ⟨v, .v v, by rw [plain_vals hs]; exact hc w⟩
/-! ### Numbers -/
theorem right_c (n size : Int) (h : List (List AV)) : Contract Tryz.prog 49 [.v (.int .i64 n), .v (.int .i64 size)] h (.v (.bool (rightB n size))) h [] :=
  plain_quiet (l := [.int .i64 n, .int .i64 size]) (by kernel_rfl) h (right_any n size)
theorem signed_c (n size : Int) (h : List (List AV)) : Contract Tryz.prog 133 [.v (.int .i64 n), .v (.int .i64 size)] h (.v (.int .i64 (signedI n size))) h [] :=
  plain_quiet (l := [.int .i64 n, .int .i64 size]) (by kernel_rfl) h (signed_any n size)
theorem clean_c (s : List UInt8) (h : List (List AV)) : Contract Tryz.prog 102 [.v (.string (strB s))] h (.v (.bool (cleanB s))) h [] :=
  plain_quiet (l := [.string (strB s)]) (by kernel_rfl) h fun w => by have := clean_any (strB s) w; rwa [strB_data] at this
theorem rclean_c (s : List UInt8) (hs : s.length ≤ maxLen) (h : List (List AV)) : Contract Tryz.prog 55 [.v (.string (strB s))] h (.v (.bool (cleanB s))) h [] :=
  plain_quiet (l := [.string (strB s)]) (by kernel_rfl) h fun w => by have := rclean_any (strB s) w (by simpa using hs); rwa [strB_data] at this

/-! ### Bytes with a number behind; a number in bytes -/
theorem bytes_two {G : Ghost} {w : World} (hW : WorldOk G w) {xs : List UInt8} {vs : List Value} {l : List Value} (hs : SeesL G (.sl 1 (bytesE xs) none .no :: l.map AV.v) vs) : ∃ a cap, vs = .slice a xs.length cap :: l ∧ (a = none → cap = 0) ∧ xs.length ≤ cap ∧ cap ≤ maxLen ∧ BytesAt w w.heap.size a xs := by
  obtain ⟨x, r, rfl, h1, h2⟩ := hs.split
  obtain ⟨a, cap, rfl, h3⟩ := h1.bytes hW
  exact ⟨a, cap, by rw [plain_vals h2], h3⟩
theorem made_of {xs : List UInt8} {w w' : World} {e : Ending} (h : Made xs w e w') : ∃ v, e = .returned v ∧ OwnB 5 w' w.heap.size v xs ∧ Below w.heap.size w w' := by
  obtain ⟨a, cap, he, _, ho, _, hb⟩ := h
  exact ⟨_, he, ho, hb⟩
theorem put_c (xs : List UInt8) (n size : Int) (hl : xs.length ≤ 140737488351232) (h : List (List AV)) : Contract Tryz.prog 33 [.sl 1 (bytesE xs) none .no, .v (.int .i64 n), .v (.int .i64 size)] h (.sl 1 (bytesE (putL xs n size)) none (.own .res)) h [] :=
  contract_made (E := 5) (by kernel_rfl) fun G w vs hW hs => by
    obtain ⟨a, cap, rfl, h1, _, _, h2⟩ := bytes_two (l := [.int .i64 n, .int .i64 size]) hW hs
    exact (put_any _ a cap xs n size w h2 (Nat.le_refl _) h1 hl).mono fun e w' hm => made_of hm
theorem rput_c (xs : List UInt8) (n size : Int) (hl : xs.length ≤ 140737488351232) (h : List (List AV)) : Contract Tryz.prog 41 [.sl 1 (bytesE xs) none .no, .v (.int .i64 n), .v (.int .i64 size)] h (.sl 1 (bytesE (putL xs n size)) none (.own .res)) h [] :=
  contract_made (E := 5) (by kernel_rfl) fun G w vs hW hs => by
    obtain ⟨a, cap, rfl, h1, _, _, h2⟩ := bytes_two (l := [.int .i64 n, .int .i64 size]) hW hs
    exact (rput_any _ a cap xs n size w h2 h1 hl).mono fun e w' hm => made_of hm
theorem grow_c (n : Nat) (hn : n ≤ 140737488355328) (h : List (List AV)) : Contract Tryz.prog 28 [.sl 0 [] (some true) .exact, .v (.int .i64 n)] h (.sl 1 (bytesE []) none (.own .res)) h [] :=
  contract_made (E := 5) (by kernel_rfl) fun G w vs _ hs => by
    obtain ⟨x, r, rfl, h1, h2⟩ := hs.split
    rw [plain_vals (l := [.int .i64 n]) h2]
    cases h1 with
    | sl _ _ _ _ a len cap u hlen hn2 =>
      have ha := hn2.2.1 rfl
      obtain ⟨e1, e2⟩ := hn2.1 ha
      subst ha e1 e2
      exact grow_nil n w hn
end Go.Proofs.YtofkddajlgebjaaGreat.Ax
namespace Go.Proofs.YtofkddajlgebjaaGreat.Ax
open Go.RowKit Go By YtofkddajlgebjaaGreat.Nm Sc Dg
set_option linter.unusedSimpArgs false
set_option maxRecDepth 10000

/-- A scan's cells. -/
def scC (st : Sta) : List AV := [.v (.bool st.isSome), .sl 1 (bytesE (st.getD [])) none .no]
@[simp] theorem scC_some (xs : List UInt8) : scC (some xs) = [.v (.bool true), .sl 1 (bytesE xs) none .no] := rfl
@[simp] theorem scC_none : scC none = [.v (.bool false), .sl 1 (bytesE []) none .no] := rfl
section
variable (i : Nat) (h : List (List AV)) (st : Sta) (hi : h[i]? = some (scC st))
include hi
end
section
variable (i : Nat) (h : List (List AV)) (st : Sta) (hi : h[i]? = some (scC st))
include hi
end
/-! ### The document's -/
/-- A scan of the document's: its bytes, and whether it is bad. -/
abbrev Rs := List UInt8 × Bool
def rsC (r : Rs) : List AV := [.sl 1 (bytesE r.1) none .no, .v (.bool r.2)]
def rabs (r : Rs) : Sta := bif r.2 then none else some r.1
@[simp] theorem rsC_mk (b : List UInt8) (no : Bool) : rsC (b, no) = [.sl 1 (bytesE b) none .no, .v (.bool no)] := of_eq_true (eq_self _)
@[simp] theorem rabs_true (b : List UInt8) : rabs (b, true) = none := of_eq_true (eq_self _)
@[simp] theorem rabs_false (b : List UInt8) : rabs (b, false) = some b := of_eq_true (eq_self _)
def rback (b : List UInt8) : Sta → Rs
  | some xs => (xs, false)
  | none => (b, true)
def rstep (f : Sta → Sta) (r : Rs) : Rs := rback r.1 (f (rabs r))
section
variable (i : Nat) (h : List (List AV)) (r : Rs) (hi : h[i]? = some (rsC r))
include hi
end
end Go.Proofs.YtofkddajlgebjaaGreat.Ax
