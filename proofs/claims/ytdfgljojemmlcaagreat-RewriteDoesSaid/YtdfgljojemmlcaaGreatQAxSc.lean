import Derived.Lib.Walk
import Derived.Lib.AppendZeros
import Derived.Test.YtdfgljojemmlcaaGreatQAxIb
import Derived.Test.YtdfgljojemmlcaaGreatQCodeA
import Derived.Test.YtdfgljojemmlcaaGreatQHelA
set_option linter.unusedSimpArgs false
set_option linter.unusedVariables false
open Nat renaming le_refl -> Q0
namespace Go.Proofs.YtdfgljojemmlcaaGreat.Nm
set_option maxRecDepth 100000
open Go.RowKit Go By
theorem CK : ∃ i, Tryz.prog.info? 5 = some i /\ i.zero = some (.int .u8 0) /\ i.size = 1 /\ i.bytes = 1 := by
 have h : (Tryz.prog.info? 5).map (fun i => (i.zero, i.size, i.bytes)) = some (some (.int .u8 0), 1, 1) := by kernel_rfl
 cases hi : Tryz.prog.info? 5 with
 | none => rw [hi] at h; cases h
 | some i =>
  rw [hi] at h
  simp at h
  exact ⟨i, rfl, h.1, h.2.1, h.2.2⟩
theorem AW (n : Nat) (w : World) (hn : n <= 140737488355328) :
  Calls Tryz.prog 171 #[.slice none 0 0, .int .i64 n] w fun e w' => ∃ v, e = .returned v /\ OwnB 5 w' w.heap.size v [] /\ Below w.heap.size w w' := by
 obtain ⟨i, hi, hz, hs, hb⟩ := CK
 have h1 : ¬ ((n : Int) < 0) := by omega
 rcases Nat.eq_zero_or_pos n with h0 | h0
 ·subst h0
  go_enter Tryz.func171, Tryz.ntmps171
  go_wp2
  go_ret
  exact ⟨_, rfl, ⟨rfl, .inl ⟨rfl, rfl⟩⟩, Below.refl _ _⟩
 ·have h3 : wrap64 (n : Int) = n := by unfold wrap64; omega
  have h4 : (n : Int) > 0 := by omega
  have hr : ∀ ty, _ := fun ty => Lib.run_append_nil_zeros (P := Tryz.prog) w 52 3 ty 5 i (.int .u8 0) .i64 .i64 Tryz.underlying52 Tryz.underlying3 hi hz n h0 (by omega) (by omega) (by rw [hb]; omega)
  have hG := grownCap_ge w n 0 5
  have hG2 := grownCap_le_maxLen w n 0 5 (by unfold maxLen; omega)
  obtain ⟨g, hg⟩ : ∃ g, g = grownCap w n 0 5 := ⟨_, rfl⟩
  rw [<- hg] at hr hG hG2
  have hG3 : g <= 9223372036854775807 := by unfold maxLen at hG2; omega
  go_enter Tryz.func171, Tryz.ntmps171
  go_wp2_with (at_builtin; refine Lib.wpList_append_run _ rfl _ _ _ _ rfl _ _ rfl rfl _ _ (hr _) ?_)
  rw [<- hg]
  go_ret
  refine ⟨_, rfl, ⟨rfl, .inr ⟨_, g, _, rfl, Q0 _, heap_alloc_new w _, Nat.zero_le _, hG2, ?_, rfl⟩⟩, ?_⟩
  ·have hz1 : ∀ m, (Builtin.zeroCells #[Value.int IntKind.u8 0] m).size = m := fun m => by simp [Builtin.zeroCells]
   rw [Array.size_append, hz1, hz1]; omega
  ·exact ((Below.refl _ _).alloc (Q0 _) _).drew
end Go.Proofs.YtdfgljojemmlcaaGreat.Nm
namespace Go.Proofs.YtdfgljojemmlcaaGreat.Ax
open Go.RowKit Go By Go.Proofs.YtdfgljojemmlcaaGreat.Nm Sc Dg
set_option maxRecDepth 10000
theorem mixed : Tryz.prog.follows .mixedOrders = true := by kernel_rfl
theorem eQ {G : Ghost} : ∀ {l : List Value} {vs : List Value}, SeesL G (l.map AV.v) vs -> vs = l
 | [], vs, h => h.none
 | x :: l, vs, h => by
  obtain ⟨y, r, rfl, h1, h2⟩ := h.split
  rw [h1.inv_v, eQ h2]
theorem fh {P : Program} {f : FuncId} (hE : fJ P f = true) {l : List Value} {v : Value} (h : List (List AV)) (hc : ∀ w, Calls P f l.toArray w fun e w' => e = .returned v /\ w = w') : Contract P f (l.map AV.v) h (.v v) h [] :=
 jk hE rfl fun G w vs _ hs => ⟨v, .v v, by rw [eQ hs]; exact hc w⟩
theorem sa (n size : Int) (h : List (List AV)) : Contract Tryz.prog 114 [.v (.int .i64 n), .v (.int .i64 size)] h (.v (.bool (aV n size))) h [] :=
 fh (l := [.int .i64 n, .int .i64 size]) (by kernel_rfl) h (hZ n size)
theorem AZ (n size : Int) (h : List (List AV)) : Contract Tryz.prog 187 [.v (.int .i64 n), .v (.int .i64 size)] h (.v (.int .i64 (cn n size))) h [] :=
 fh (l := [.int .i64 n, .int .i64 size]) (by kernel_rfl) h (wh n size)
theorem B2 (s : List UInt8) (h : List (List AV)) : Contract Tryz.prog 165 [.v (.string (ah s))] h (.v (.bool (bv s))) h [] :=
 fh (l := [.string (ah s)]) (by kernel_rfl) h fun w => by have := yx (ah s) w; rwa [mD] at this
theorem jM (s : List UInt8) (hs : s.length <= maxLen) (h : List (List AV)) : Contract Tryz.prog 127 [.v (.string (ah s))] h (.v (.bool (bv s))) h [] :=
 fh (l := [.string (ah s)]) (by kernel_rfl) h fun w => by have := u9 (ah s) w (by simpa using hs); rwa [mD] at this
theorem mW {G : Ghost} {w : World} (hW : WorldOk G w) {xs : List UInt8} {vs : List Value} {l : List Value} (hs : SeesL G (.sl 1 (af xs) none .no :: l.map AV.v) vs) : ∃ a cap, vs = .slice a xs.length cap :: l /\ (a = none -> cap = 0) /\ xs.length <= cap /\ cap <= maxLen /\ BytesAt w w.heap.size a xs := by
 obtain ⟨x, r, rfl, h1, h2⟩ := hs.split
 obtain ⟨a, cap, rfl, h3⟩ := h1.bytes hW
 exact ⟨a, cap, by rw [eQ h2], h3⟩
theorem xk {xs : List UInt8} {w w' : World} {e : Ending} (h : Made xs w e w') : ∃ v, e = .returned v /\ OwnB 5 w' w.heap.size v xs /\ Below w.heap.size w w' := by
 obtain ⟨a, cap, he, _, ho, _, hb⟩ := h
 exact ⟨_, he, ho, hb⟩
theorem kB (xs : List UInt8) (n size : Int) (hl : xs.length <= 140737488351232) (h : List (List AV)) : Contract Tryz.prog 85 [.sl 1 (af xs) none .no, .v (.int .i64 n), .v (.int .i64 size)] h (.sl 1 (af (bo xs n size)) none (.own .res)) h [] :=
 eX (E := 5) (by kernel_rfl) fun G w vs hW hs => by
  obtain ⟨a, cap, rfl, h1, _, _, h2⟩ := mW (l := [.int .i64 n, .int .i64 size]) hW hs
  exact (Cp _ a cap xs n size w h2 (Q0 _) h1 hl).mono fun e w' hm => xk hm
theorem cY (xs : List UInt8) (n size : Int) (hl : xs.length <= 140737488351232) (h : List (List AV)) : Contract Tryz.prog 88 [.sl 1 (af xs) none .no, .v (.int .i64 n), .v (.int .i64 size)] h (.sl 1 (af (bo xs n size)) none (.own .res)) h [] :=
 eX (E := 5) (by kernel_rfl) fun G w vs hW hs => by
  obtain ⟨a, cap, rfl, h1, _, _, h2⟩ := mW (l := [.int .i64 n, .int .i64 size]) hW hs
  exact (BA _ a cap xs n size w h2 h1 hl).mono fun e w' hm => xk hm
theorem El (xs : List UInt8) (i size : Int) (h : List (List AV)) : Contract Tryz.prog 115 [.sl 1 (af xs) none .no, .v (.int .i64 i), .v (.int .i64 size)] h (.tup [.v (.int .i64 (iY xs i size)), .v (.int .i64 (dJ xs.length i size))]) h [] :=
 jk (by kernel_rfl) rfl fun G w vs hW hs => by
  obtain ⟨a, cap, rfl, _, h1, h3, h2⟩ := mW (l := [.int .i64 i, .int .i64 size]) hW hs
  refine ⟨jO xs i size, .tup _ [_, _] rfl fun j c hj => ?_, C2 _ a cap xs i size w (by unfold maxLen at h3; omega) h2⟩
  rcases j with _ | _ | j <;> simp at hj <;> subst hj <;> exact .v _
theorem Fq (n : Nat) (hn : n <= 140737488355328) (h : List (List AV)) : Contract Tryz.prog 171 [.sl 0 [] (some true) .exact, .v (.int .i64 n)] h (.sl 1 (af []) none (.own .res)) h [] :=
 eX (E := 5) (by kernel_rfl) fun G w vs _ hs => by
  obtain ⟨x, r, rfl, h1, h2⟩ := hs.split
  rw [eQ (l := [.int .i64 n]) h2]
  cases h1 with
  | sl _ _ _ _ a len cap u hlen hn2 =>
   have ha := hn2.2.1 rfl
   obtain ⟨e1, e2⟩ := hn2.1 ha
   subst ha e1 e2
   exact AW n w hn
def LG (st : Sta) : List AV := [.v (.bool st.isSome), .sl 1 (af (st.getD [])) none .no]
@[simp] theorem JY (xs : List UInt8) : LG (some xs) = [.v (.bool true), .sl 1 (af xs) none .no] := rfl
@[simp] theorem Jt : LG none = [.v (.bool false), .sl 1 (af []) none .no] := rfl
section
variable (i : Nat) (h : List (List AV)) (st : Sta) (hi : h[i]? = some (LG st))
include hi
end
section
variable (i : Nat) (h : List (List AV)) (st : Sta) (hi : h[i]? = some (LG st))
include hi
end
abbrev Rs := List UInt8 × Bool
def QU (r : Rs) : List AV := [.sl 1 (af r.1) none .no, .v (.bool r.2)]
def tZ (r : Rs) : Sta := bif r.2 then none else some r.1
def Kd (b : List UInt8) : Sta -> Rs
 | some xs => (xs, false)
 | none => (b, true)
def td (f : Sta -> Sta) (r : Rs) : Rs := Kd r.1 (f (tZ r))
section
variable (i : Nat) (h : List (List AV)) (r : Rs) (hi : h[i]? = some (QU r))
include hi
end
end Go.Proofs.YtdfgljojemmlcaaGreat.Ax
