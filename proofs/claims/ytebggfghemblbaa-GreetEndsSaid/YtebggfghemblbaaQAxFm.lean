/- Front's messages there and back, on lists of bytes: what both sides check is one; what is read has just these bytes. -/
import Derived.Test.YtebggfghemblbaaQAxXr
import Derived.Test.YtebggfghemblbaaRows
import Derived.Test.YtebggfghemblbaaQAxWo
import Derived.Test.YtebggfghemblbaaQAxPl
/- The texts of functions over values without memory, as the kernel reckons them out of the program. -/
namespace Go.Proofs.Ytebggfghemblbaa.Ax
open Go.RowKit Go By

end Go.Proofs.Ytebggfghemblbaa.Ax
/- Front's messages over values without memory: which kinds are served, checks, what is the same. -/
namespace Go.Proofs.Ytebggfghemblbaa.Ax
open Go.RowKit Go By Nm Sc Dg
set_option linter.unusedSimpArgs false
set_option linter.unusedVariables false
set_option maxRecDepth 10000

/-! ### Which kinds are served -/
def knownI (k : Int) : Int :=
  if k = 66 ∨ k = 67 ∨ k = 68 ∨ k = 69 ∨ k = 72 ∨ k = 80 ∨ k = 81 ∨ k = 83 ∨ k = 88 then 1 else if k = 70 ∨ k = 99 ∨ k = 100 ∨ k = 102 ∨ k = 112 then 2 else 0
/-! ### A message -/
/-- Its lists, and what they hold, are no longer than memory is. -/
def FmFit (m : Fm) : Prop := m.oids.length ≤ 140737488355328 ∧ m.formats.length ≤ 140737488355328 ∧ m.results.length ≤ 140737488355328 ∧ m.params.length ≤ 140737488355328 ∧ (∀ c ∈ m.params, c.2.length ≤ 140737488355328) ∧ m.name.length ≤ 140737488355328 ∧ m.portal.length ≤ 140737488355328 ∧ m.text.length ≤ 140737488355328

def sameF (a b : Fm) : Bool := a.kind == b.kind && a.what == b.what && (a.name == b.name && a.portal == b.portal && a.text == b.text) && a.max == b.max && a.oids == b.oids && a.formats == b.formats && a.results == b.results && a.params == b.params
theorem sameF_eq (a b : Fm) : sameF a b = decide (a = b) := by
  obtain ⟨a1, a2, a3, a4, a5, a6, a7, a8, a9, a10⟩ := a
  obtain ⟨b1, b2, b3, b4, b5, b6, b7, b8, b9, b10⟩ := b
  rw [Bool.eq_iff_iff]
  simp [sameF]
  constructor
  · rintro ⟨⟨⟨⟨⟨⟨⟨h1, h2⟩, h3, h4, h5⟩, h6⟩, h7⟩, h8⟩, h9⟩, h10⟩; simp_all
  · rintro ⟨h1, h2, h3, h4, h5, h6, h7, h8, h9, h10⟩; simp_all
theorem sliceseq_c (l m : List Int) (hl : l.length ≤ 140737488355328) (h : List (List AV)) : Contract Try.prog 68 [.sl 1 (enc intC l) none .no, .sl 1 (enc intC m) none .no] h (.v (.bool (l == m))) h [] := by
  have := equal1_any mixed k68 l m h hl
  rwa [eqL_beq] at this
/-! ### Checks -/
def whatB (m : Fm) : Bool := (!(m.kind == 67) && !(m.kind == 68)) || m.what == 83 || m.what == 80
def listsB (m : Fm) : Bool := (decide (m.oids.length ≤ 65535) && (decide (m.formats.length ≤ 65535) && (decide (m.results.length ≤ 65535) && decide (m.params.length ≤ 65535)))) && (m.oids.all (unsB 4) && (m.formats.all (unsB 2) && (m.results.all (unsB 2) && m.params.all cellB)))
/-- With those fields alone that the body has. -/
def saidF (m : Fm) : Fm :=
  if m.kind = 80 then ⟨80, 0, m.name, [], m.text, m.oids, [], [], [], 0⟩
  else if m.kind = 66 then ⟨66, 0, m.name, m.portal, [], [], m.formats, m.results, m.params, 0⟩
  else if m.kind = 67 ∨ m.kind = 68 then (if m.what = 83 then ⟨m.kind, m.what, m.name, [], [], [], [], [], [], 0⟩ else ⟨m.kind, m.what, [], m.portal, [], [], [], [], [], 0⟩)
  else if m.kind = 69 then ⟨69, 0, [], m.portal, [], [], [], [], [], m.max⟩
  else if m.kind = 81 then ⟨81, 0, [], [], m.text, [], [], [], [], 0⟩
  else ⟨m.kind, 0, [], [], [], [], [], [], [], 0⟩
/-- What is wrong with a message. -/
def cleanF (m : Fm) : Bool := cleanB m.name && (cleanB m.portal && cleanB m.text)
def checkF (m : Fm) : Int :=
  if ¬ knownI m.kind = 1 then 9
  else if whatB m && (listsB m && (cleanF m && (sgnB 4 m.max && sameF m (saidF m)))) then 0 else 1
theorem fmfit_said {m : Fm} (h : FmFit m) : FmFit (saidF m) := by
  obtain ⟨h1, h2, h3, h4, h5, h6, h7, h8⟩ := h
  unfold saidF FmFit
  repeat' split
  all_goals simp [h1, h2, h3, h4, h6, h7, h8]
  all_goals exact ⟨fun b hc => h5 (_, b) hc, fun b hc => h5 (_, b) hc⟩
end Go.Proofs.Ytebggfghemblbaa.Ax
/- The document's answers for front, over values without memory: checks, what is the same. -/
namespace Go.Proofs.Ytebggfghemblbaa.Ax
open Go.RowKit Go By Nm Sc Dg
set_option linter.unusedSimpArgs false
set_option linter.unusedVariables false
set_option maxRecDepth 10000

theorem rints_c (xs ys : List Int) (hl : xs.length ≤ 140737488355328) (h : List (List AV)) : Contract Try.prog 44 [.sl 1 (enc intC xs) none .no, .sl 1 (enc intC ys) none .no] h (.v (.bool (xs == ys))) h [] := by
  refine contract_of k44 mixed (by simp [c44]) fun hh hargs => ?_
  rw [← eqL_beq]
  by_cases hlen : xs.length = ys.length
  · simp [c44, hlen]
    refine xloop_ok (D := Nat) (fun j => ⟨[(0, .sl 1 (enc intC xs) none .no), (1, .sl 1 (enc intC ys) none .no), (5, .v (.int .i64 j))], [], h, []⟩) (fun j => j ≤ xs.length ∧ ∀ i (h1 : i < xs.length) (h2 : i < ys.length), i < j → ((· == ·) : Int → Int → Bool) xs[i] ys[i] = true) (fun j => xs.length - j) 0 ⟨by omega, fun i h1 h2 h3 => by omega⟩ ?_ ?_
    · simp [Leq, hh]
    · rintro j ⟨hj, hp⟩
      by_cases hlt : j < ys.length
      · have hlt' : j < xs.length := by omega
        have hw : IntKind.i64.wrap ((j : Int) + 1) = (j : Int) + 1 := wrap64 (by omega) (by omega)
        simp [hlt, hlt', intC]
        refine xwp_cond_of (xs[j] != ys[j]) (by simp) (fun ht => ?_) (fun hf' => ?_)
        · simp at ht
          have : eqL (· == ·) xs ys = false := eqL_no (i := j) hlt' hlt (by simpa using ht)
          simp [hh, this]
        · simp at hf'
          simp [hw]
          refine ⟨j + 1, ⟨by omega, fun i h1 h2 h3 => ?_⟩, by omega, ?_⟩
          · rcases Nat.lt_or_ge i j with h4 | h4
            · simpa using hp i h1 h2 h4
            · have : i = j := by omega
              subst this; simpa using hf'
          · simp [Leq, hh]
      · have hx : eqL (· == ·) xs ys = true := (eqL_iff _ xs ys).2 ⟨hlen, fun i h1 h2 => hp i h1 h2 (by omega)⟩
        have hlt' : ¬ j < xs.length := by omega
        simp [hh, hx, hlt, hlt']
  · have hne : (xs.length : Int) ≠ ys.length := by omega
    have hx : eqL (· == ·) xs ys = false := eqL_len hlen
    simp [c44, hne, hh, hx]
theorem rcells_c (xs ys : List Cl) (hl : xs.length ≤ 140737488355328) (h : List (List AV)) : Contract Try.prog 12 [.sl 2 (enc cellC xs) none .no, .sl 2 (enc cellC ys) none .no] h (.v (.bool (xs == ys))) h [] := by
  refine contract_of k12 mixed (by simp [c12]) fun hh hargs => ?_
  rw [← eqL_beq]
  by_cases hlen : xs.length = ys.length
  · simp [c12, hlen]
    refine xloop_ok (D := Nat) (fun j => ⟨[(0, .sl 2 (enc cellC xs) none .no), (1, .sl 2 (enc cellC ys) none .no), (5, .v (.int .i64 j))], [], h, []⟩) (fun j => j ≤ xs.length ∧ ∀ i (h1 : i < xs.length) (h2 : i < ys.length), i < j → ((· == ·) : Cl → Cl → Bool) xs[i] ys[i] = true) (fun j => xs.length - j) 0 ⟨by omega, fun i h1 h2 h3 => by omega⟩ ?_ ?_
    · simp [Leq, hh]
    · rintro j ⟨hj, hp⟩
      by_cases hlt : j < ys.length
      · have hlt' : j < xs.length := by omega
        have hw : IntKind.i64.wrap ((j : Int) + 1) = (j : Int) + 1 := wrap64 (by omega) (by omega)
        obtain ⟨n, b, hx⟩ : ∃ n b, xs[j] = (n, b) := ⟨_, _, rfl⟩
        obtain ⟨m, d, hy⟩ : ∃ m d, ys[j] = (m, d) := ⟨_, _, rfl⟩
        have next : xs[j] = ys[j] → ∀ i (h1 : i < xs.length) (h2 : i < ys.length), i < j + 1 → ((· == ·) : Cl → Cl → Bool) xs[i] ys[i] = true := fun he i h1 h2 h3 => by
          rcases Nat.lt_or_ge i j with h4 | h4
          · exact hp i h1 h2 h4
          · have : i = j := by omega
            subst this; simp [he]
        have no : xs[j] ≠ ys[j] → eqL (· == ·) xs ys = false := fun he => eqL_no (i := j) hlt' hlt (by simpa using he)
        rw [hx, hy] at next no
        cases hnm : n == m with
        | false =>
          have e := no (by rintro he; injection he with h1 h2; simp [h1] at hnm)
          simp [hlt, hlt', hx, hy, cellC_mk, hnm, hh, e]
        | true =>
          have hnm' : n = m := by simpa using hnm
          cases hbd : b == d with
          | false =>
            have e := no (by rintro he; injection he with h1 h2; simp [h2] at hbd)
            simp [hlt, hlt', hx, hy, cellC_mk, hnm, hbd, hh, e]
          | true =>
            have hbd' : b = d := by simpa using hbd
            have e := next (by rw [hnm', hbd'])
            simp [hlt, hlt', hx, hy, cellC_mk, hnm, hbd, hw]
            refine ⟨j + 1, ⟨by omega, fun i h1 h2 h3 => by simpa using e i h1 h2 h3⟩, by omega, ?_⟩
            simp [Leq, hh]
      · have hx : eqL (· == ·) xs ys = true := (eqL_iff _ xs ys).2 ⟨hlen, fun i h1 h2 => hp i h1 h2 (by omega)⟩
        have hlt' : ¬ j < xs.length := by omega
        simp [hh, hx, hlt, hlt']
  · have hne : (xs.length : Int) ≠ ys.length := by omega
    have hx : eqL (· == ·) xs ys = false := eqL_len hlen
    simp [c12, hne, hh, hx]
def betB (lo hi z : Int) : Bool := !decide (z < lo) && !decide (hi < z)
theorem take_all {α : Type} {p : α → Bool} {xs : List α} {j : Nat} (hj : j < xs.length) (h1 : ∀ x ∈ xs.take j, p x = true) (h2 : p xs[j] = true) : ∀ x ∈ xs.take (j + 1), p x = true := by
  rw [take_next hj]
  intro x hx
  rcases List.mem_append.1 hx with h | h
  · exact h1 x h
  · simp at h; subst h; exact h2
theorem all_no {α : Type} {p : α → Bool} {xs : List α} {j : Nat} (hj : j < xs.length) (h2 : p xs[j] = false) : xs.all p = false := by
  rw [List.all_eq_false]; exact ⟨_, List.getElem_mem hj, by simp [h2]⟩
theorem rbetween_c (l : List Int) (lo hi : Int) (h : List (List AV)) : Contract Try.prog 66 [.sl 1 (enc intC l) none .no, .v (.int .i64 lo), .v (.int .i64 hi)] h (.v (.bool (decide (l.length ≤ 65535) && l.all (betB lo hi)))) h [] := by
  refine contract_of k66 mixed (by simp [c66]) fun hh hargs => ?_
  by_cases hl : (65535 : Int) < l.length
  · have hl' : ¬ l.length ≤ 65535 := by omega
    simp [c66, hl, hl', hh]
  · have hl' : l.length ≤ 65535 := by omega
    simp [c66, hl, hl']
    refine xloop_ok (D := Nat) (fun j => ⟨[(0, .sl 1 (enc intC l) none .no), (1, .v (.int .i64 lo)), (2, .v (.int .i64 hi)), (7, .v (.int .i64 j))], [], h, []⟩) (fun j => j ≤ l.length ∧ ∀ x ∈ l.take j, betB lo hi x = true) (fun j => l.length - j) 0 (by simp) ?_ ?_
    · simp [Leq, hh]
    · rintro j ⟨hj, hp⟩
      by_cases hlt : j < l.length
      · have hw : IntKind.i64.wrap ((j : Int) + 1) = (j : Int) + 1 := wrap64 (by omega) (by omega)
        by_cases h1 : l[j] < lo
        · have e := all_no (p := betB lo hi) hlt (by simp [betB, h1])
          simp [hlt, intC, h1, hh, e]
        · by_cases h2 : hi < l[j]
          · have e := all_no (p := betB lo hi) hlt (by simp [betB, h2])
            simp [hlt, intC, h1, h2, hh, e]
          · simp [hlt, intC, h1, h2, hw]
            refine ⟨j + 1, ⟨by omega, take_all hlt hp (by simp [betB, h1, h2])⟩, by omega, ?_⟩
            simp [Leq, hh]
      · have : j = l.length := by omega
        subst this
        have e : l.all (betB lo hi) = true := by rw [List.take_length] at hp; exact List.all_eq_true.2 hp
        simp [hh, e]
theorem rvalues_c (l : List Cl) (h : List (List AV)) : Contract Try.prog 130 [.sl 2 (enc cellC l) none .no] h (.v (.bool (decide (l.length ≤ 65535) && l.all cellB))) h [] := by
  refine contract_of k130 mixed (by simp [c130]) fun hh hargs => ?_
  by_cases hl : (65535 : Int) < l.length
  · have hl' : ¬ l.length ≤ 65535 := by omega
    simp [c130, hl, hl', hh]
  · have hl' : l.length ≤ 65535 := by omega
    simp [c130, hl, hl']
    refine xloop_ok (D := Nat) (fun j => ⟨[(0, .sl 2 (enc cellC l) none .no), (3, .v (.int .i64 j))], [], h, []⟩) (fun j => j ≤ l.length ∧ ∀ x ∈ l.take j, cellB x = true) (fun j => l.length - j) 0 (by simp) ?_ ?_
    · simp [Leq, hh]
    · rintro j ⟨hj, hp⟩
      by_cases hlt : j < l.length
      · have hw : IntKind.i64.wrap ((j : Int) + 1) = (j : Int) + 1 := wrap64 (by omega) (by omega)
        obtain ⟨n, b, hx⟩ : ∃ n b, l[j] = (n, b) := ⟨_, _, rfl⟩
        by_cases h1 : (1048576 : Int) < b.length
        · have h3 : ¬ b.length ≤ 1048576 := by omega
          have e := all_no (p := cellB) hlt (by rw [hx]; simp [cellB, h3])
          cases n
          · simp [hlt, hx, cellC_mk, h1, hh, e]
          · have h2 : 0 < b.length := by omega
            simp [hlt, hx, cellC_mk, h1, h2, hh, e]
        · have h1' : b.length ≤ 1048576 := by omega
          cases n
          · simp [hlt, hx, cellC_mk, h1, hw]
            refine ⟨j + 1, ⟨by omega, ⟨fun b => take_all hlt hp (by rw [hx]; simp [cellB, h1']) (_, b), fun b => take_all hlt hp (by rw [hx]; simp [cellB, h1']) (_, b)⟩⟩, by omega, ?_⟩
            simp [Leq, hh]
          · by_cases h2 : 0 < b.length
            · have e := all_no (p := cellB) hlt (by rw [hx]; simp [cellB, h2])
              simp [hlt, hx, cellC_mk, h1, h2, hh, e]
            · simp [hlt, hx, cellC_mk, h1, h2, hw]
              refine ⟨j + 1, ⟨by omega, ⟨fun b => take_all hlt hp (by rw [hx]; simp [cellB, h1', h2]) (_, b), fun b => take_all hlt hp (by rw [hx]; simp [cellB, h1', h2]) (_, b)⟩⟩, by omega, ?_⟩
              simp [Leq, hh]
      · have : j = l.length := by omega
        subst this
        have e : l.all cellB = true := by rw [List.take_length] at hp; exact List.all_eq_true.2 hp
        simp [hh, e]
/-- Whether that one speaks of something, as the document says it. -/
def rwhatB (m : Fm) : Bool := if m.kind = 67 ∨ m.kind = 68 then m.what == 83 || m.what == 80 else m.what == 0 || (m.what == 83 || m.what == 80)
def rlistsB (m : Fm) : Bool := (decide (m.oids.length ≤ 65535) && m.oids.all (betB 0 4294967295)) && ((decide (m.formats.length ≤ 65535) && m.formats.all (betB 0 65535)) && ((decide (m.results.length ≤ 65535) && m.results.all (betB 0 65535)) && (decide (m.params.length ≤ 65535) && m.params.all cellB)))
def rcheckF (m : Fm) : Int :=
  if ¬ knownI m.kind = 1 then 9
  else if cleanF m && (rlistsB m && (rwhatB m && (betB (-2147483648) 2147483647 m.max && sameF m (saidF m)))) then 0 else 1
end Go.Proofs.Ytebggfghemblbaa.Ax
/- Front's messages as bytes, over values without memory: both sides. -/
namespace Go.Proofs.Ytebggfghemblbaa.Ax
open Go.RowKit Go By Nm Sc Dg
set_option linter.unusedSimpArgs false
set_option linter.unusedVariables false
set_option maxRecDepth 10000

/-! ### slices.Concat -/
def bytC (b : List UInt8) : List AV := [.sl 1 (bytesE b) none .no]
@[simp] theorem ltLL_bytC (n : Nat) (l : List (List UInt8)) : ltLL n (enc bytC l) := ltLL_enc bytC n (fun _ => by simp [bytC]) l
/-- Lists of bytes, one behind the other. -/
def catL (l : List (List UInt8)) : List UInt8 := l.flatMap id
theorem catL_step (l : List (List UInt8)) (a j : Nat) (hj : j < l.length) (N : Nat) (hN : a + (catL l).length ≤ N) : catL (l.take (j + 1)) = catL (l.take j) ++ l[j] ∧ a + ((catL (l.take j)).length + l[j].length) ≤ N := flat_step id l a j hj N hN
@[simp] theorem catL_nil : catL [] = [] := of_eq_true (eq_self _)
@[simp] theorem catL_cons (x : List UInt8) (l : List (List UInt8)) : catL (x :: l) = x ++ catL l := of_eq_true (eq_self _)
theorem concat_c (l : List (List UInt8)) (h : List (List AV)) (hl : (catL l).length ≤ 140737488355328) (hn : l.length ≤ 140737488355328) : Contract Try.prog 115 [.sl 1 (enc bytC l) none .no] h (.sl 1 (bytesE (catL l)) none (.own .res)) h [] := by
  refine contract_of k115 mixed (by simp [c115]) fun hh hargs => ?_
  simp [c115]
  refine xloop_ok (D := Nat) (fun j => ⟨[(0, .sl 1 (enc bytC l) none .no), (3, .v (.int .i64 (catL (l.take j)).length)), (9, .sl 1 (enc bytC l) none .no), (10, .v (.int .i64 l.length)), (11, .v (.int .i64 j))], [], h, []⟩) (fun j => j ≤ l.length) (fun j => l.length - j) 0 (by simp) ?_ ?_
  · simp [Leq, hh]
  · intro j hj
    by_cases hlt : j < l.length
    · have hw : IntKind.i64.wrap ((j : Int) + 1) = (j : Int) + 1 := wrap64 (by omega) (by omega)
      obtain ⟨hx, hb⟩ := catL_step l 0 j hlt _ (by simpa using hl)
      have hw2 : IntKind.i64.wrap (((catL (l.take j)).length : Int) + (l[j].length : Int)) = ((catL (l.take (j + 1))).length : Int) := by
        rw [hx, List.length_append, wrap64 (by omega) (by omega)]; simp
      have h0 : ¬ ((catL (l.take (j + 1))).length : Int) < 0 := by omega
      simp [hlt, bytC, hw, hw2, h0]
      refine ⟨j + 1, by omega, by omega, ?_⟩
      simp [Leq, hh]
    · have : j = l.length := by omega
      subst this
      simp 
      refine xcall_self (by simp) (grow_c _ hl h) ?_
      simp 
      refine xloop_ok (D := Nat) (fun j => ⟨[(25, .sl 1 (enc bytC l) none .no), (26, .v (.int .i64 l.length)), (27, .v (.int .i64 j))], [(6, .sl 1 (bytesE (catL (l.take j))) none (.own (.slot 6)))], h, []⟩) (fun j => j ≤ l.length) (fun j => l.length - j) 0 (by simp) ?_ ?_
      · simp [Leq, hh]
      · intro j hj
        by_cases hlt : j < l.length
        · have hw : IntKind.i64.wrap ((j : Int) + 1) = (j : Int) + 1 := wrap64 (by omega) (by omega)
          obtain ⟨hx, hb⟩ := catL_step l 0 j hlt _ (by simpa using hl)
          simp [hlt, bytC, hw]
          refine ⟨by omega, j + 1, by omega, by omega, ?_⟩
          simp [Leq, hh, hx]
        · have : j = l.length := by omega
          subst this
          simp [hh]

/-! ### A body -/
def bodyF (m : Fm) : List UInt8 :=
  if m.kind = 80 then textsL [m.name, m.text] ++ listL (numE 4) m.oids
  else if m.kind = 66 then textsL [m.portal, m.name] ++ (listL (numE 2) m.formats ++ (listL cellE m.params ++ listL (numE 2) m.results))
  else if m.kind = 67 ∨ m.kind = 68 then UInt8.ofNat m.what.toNat :: textsL [m.name ++ m.portal]
  else if m.kind = 69 then putL (textsL [m.portal]) m.max 4
  else if m.kind = 81 then textsL [m.text]
  else []
/-- What Encode answers. -/
def encF (m : Fm) : Ms × Int := if checkF m = 0 then (⟨m.kind, bodyF m⟩, 0) else (⟨0, []⟩, checkF m)
end Go.Proofs.Ytebggfghemblbaa.Ax
/- Front's messages out of bytes, over values without memory: both sides. -/
namespace Go.Proofs.Ytebggfghemblbaa.Ax
open Go.RowKit Go By Nm Sc Dg
set_option linter.unusedSimpArgs false
set_option linter.unusedVariables false
set_option maxRecDepth 10000

abbrev numbersV (size : Int) (st : Sta) : List Int := listV (numV · size) (numS · size) st
abbrev numbersS (size : Int) (st : Sta) : Sta := listS (numV · size) (numS · size) st
abbrev cellsV (st : Sta) : List Cl := listV cellV cellS st
abbrev cellsS (st : Sta) : Sta := listS cellV cellS st
open He (textL)
theorem listS_len {α : Type} (v : Sta → α) (s : Sta → Sta) (hs : ∀ st, He.lenS (s st) ≤ He.lenS st) (st : Sta) : He.lenS (listS v s st) ≤ He.lenS st := by
  unfold listS
  exact Nat.le_trans (readR_lenS v s hs _ _) (numS_len _ _)
/-- What a body says, and what is left of it. -/
def readV (kind : Int) (st : Sta) : Fm :=
  if kind = 80 then ⟨80, 0, textL st, [], textL (textS st), numbersV 4 (textS (textS st)), [], [], [], 0⟩
  else if kind = 66 then ⟨66, 0, textL (textS st), textL st, [], [], numbersV 2 (textS (textS st)), numbersV 2 (cellsS (numbersS 2 (textS (textS st)))), cellsV (numbersS 2 (textS (textS st))), 0⟩
  else if kind = 67 ∨ kind = 68 then (if numV st 1 = 83 then ⟨kind, numV st 1, textL (numS st 1), [], [], [], [], [], [], 0⟩ else ⟨kind, numV st 1, [], textL (numS st 1), [], [], [], [], [], 0⟩)
  else if kind = 69 then ⟨69, 0, [], textL st, [], [], [], [], [], signedI (numV (textS st) 4) 4⟩
  else if kind = 81 then ⟨81, 0, [], [], textL st, [], [], [], [], 0⟩
  else ⟨kind, 0, [], [], [], [], [], [], [], 0⟩
def readS (kind : Int) (st : Sta) : Sta :=
  if kind = 80 then numbersS 4 (textS (textS st))
  else if kind = 66 then numbersS 2 (cellsS (numbersS 2 (textS (textS st))))
  else if kind = 67 ∨ kind = 68 then textS (numS st 1)
  else if kind = 69 then numS (textS st) 4
  else if kind = 81 then textS st
  else st
theorem num1_range (st : Sta) : 0 ≤ numV st 1 ∧ numV st 1 < 256 := by
  unfold numV
  split
  · split
    · exact ⟨(getI_range _ 0 1 (by omega)).1, by have := (getI_range (by assumption) 0 1 (by omega)).2; simpa using this⟩
    · omega
  · omega
theorem wrap_u8 {n : Int} (h : 0 ≤ n ∧ n < 256) : IntKind.u8.wrap n = n := by
  simp only [IntKind.wrap]
  simp [IntKind.bits, IntKind.signed]
  omega
/-- What Decode answers. -/
def noFm : Fm := ⟨0, 0, [], [], [], [], [], [], [], 0⟩
def decF (m : Ms) : Fm × Int :=
  if knownI m.type = 0 then (noFm, 4) else if knownI m.type = 2 then (noFm, 9)
  else if doneB (readS m.type (some m.body)) && whatB (readV m.type (some m.body)) then (readV m.type (some m.body), 0) else (noFm, 4)
end Go.Proofs.Ytebggfghemblbaa.Ax
/- The document's messages of front as bytes and out of bytes, over values without memory. -/
namespace Go.Proofs.Ytebggfghemblbaa.Ax
open Go.RowKit Go By Nm Sc Dg
set_option linter.unusedSimpArgs false
set_option linter.unusedVariables false
set_option maxRecDepth 10000
open He (textL)

theorem rstr_c (xs s : List UInt8) (hl : xs.length + (s.length + 1) ≤ 140737488355328) (h : List (List AV)) : Contract Try.prog 108 [.sl 1 (bytesE xs) none (.own (.arg 0)), .v (.string (strB s))] h (.sl 1 (bytesE (xs ++ He.encT s)) none (.own .res)) h [] := by
  refine contract_of k108 mixed (by simp [c108]) fun hh hargs => ?_
  simp [c108, hh, He.encT]
  omega
theorem putL_eq (xs : List UInt8) (n size : Int) : putL xs n size = xs ++ putL [] n size := by
  unfold putL; split <;> simp
theorem rlist_c (xs : List UInt8) (l : List Int) (size : Int) (hl : (xs ++ listL (numE size) l).length ≤ 140737488351232) (hn : l.length ≤ 140737488355328) (h : List (List AV)) :
    Contract Try.prog 111 [.sl 1 (bytesE xs) none .no, .sl 1 (enc intC l) none .no, .v (.int .i64 size)] h (.sl 1 (bytesE (xs ++ listL (numE size) l)) none (.own .res)) h [] := by
  refine contract_of k111 mixed (by simp [c111]) fun hh hargs => ?_
  rw [List.length_append] at hl
  simp [c111]
  refine xcall_self (by simp) (rput_c xs l.length 2 (by omega) h) ?_
  simp
  have e0 : putL xs l.length 2 = xs ++ (putL [] l.length 2 ++ (l.take 0).flatMap (numE size)) := by rw [putL_eq]; simp
  rw [e0]
  refine xloop_ok (D := Nat) (fun j => ⟨[(1, .sl 1 (enc intC l) none .no), (2, .v (.int .i64 size)), (7, .v (.int .i64 j))], [(0, .sl 1 (bytesE (xs ++ (putL [] l.length 2 ++ (l.take j).flatMap (numE size)))) none (.own (.slot 0)))], h, []⟩) (fun j => j ≤ l.length) (fun j => l.length - j) 0 (by simp) ?_ ?_
  · simp [Leq, hh]
  · intro j hj
    by_cases hlt : j < l.length
    · have hw : IntKind.i64.wrap ((j : Int) + 1) = (j : Int) + 1 := wrap64 (by omega) (by omega)
      obtain ⟨hx, hb⟩ := flat_step (numE size) l (xs.length + (putL [] l.length 2).length) j hlt 140737488351232 (by simp only [listL, List.length_append] at hl; omega)
      simp [hlt, intC, -List.append_assoc]
      refine xcall_of (rput_c (xs ++ (putL [] l.length 2 ++ (l.take j).flatMap (numE size))) l[j] size (by simp only [List.length_append]; omega) h) (by simp) (by simp) ?_
      have e : putL (xs ++ (putL [] l.length 2 ++ (l.take j).flatMap (numE size))) l[j] size = xs ++ (putL [] l.length 2 ++ (l.take (j + 1)).flatMap (numE size)) := by
        rw [putL_eq, hx]; simp [numE]
      rw [e]
      simp [hw]
      refine ⟨j + 1, by omega, by omega, ?_⟩
      simp [Leq, hh]
    · have : j = l.length := by omega
      subst this
      simp [hh, listL]
theorem null_eq : putL [] (-1) 4 = putL [] 4294967295 4 := by decide
theorem rputc_c (xs : List UInt8) (l : List Cl) (hl : (xs ++ listL cellE l).length ≤ 140737488351232) (hn : l.length ≤ 140737488355328) (h : List (List AV)) :
    Contract Try.prog 109 [.sl 1 (bytesE xs) none .no, .sl 2 (enc cellC l) none .no] h (.sl 1 (bytesE (xs ++ listL cellE l)) none (.own .res)) h [] := by
  refine contract_of k109 mixed (by simp [c109]) fun hh hargs => ?_
  rw [List.length_append] at hl
  simp [c109]
  refine xcall_self (by simp) (rput_c xs l.length 2 (by omega) h) ?_
  simp
  have e0 : putL xs l.length 2 = xs ++ (putL [] l.length 2 ++ (l.take 0).flatMap cellE) := by rw [putL_eq]; simp
  rw [e0]
  refine xloop_ok (D := Nat) (fun j => ⟨[(1, .sl 2 (enc cellC l) none .no), (5, .v (.int .i64 j))], [(0, .sl 1 (bytesE (xs ++ (putL [] l.length 2 ++ (l.take j).flatMap cellE))) none (.own (.slot 0)))], h, []⟩) (fun j => j ≤ l.length) (fun j => l.length - j) 0 (by simp) ?_ ?_
  · simp [Leq, hh]
  · intro j hj
    by_cases hlt : j < l.length
    · have hw : IntKind.i64.wrap ((j : Int) + 1) = (j : Int) + 1 := wrap64 (by omega) (by omega)
      obtain ⟨hx, hb⟩ := flat_step cellE l (xs.length + (putL [] l.length 2).length) j hlt 140737488351232 (by simp only [listL, List.length_append] at hl; omega)
      obtain ⟨n, b, hc⟩ : ∃ n b, l[j] = (n, b) := ⟨_, _, rfl⟩
      rw [hc] at hx hb
      cases n with
      | true =>
        rw [cellE_null] at hx hb
        have e : putL (xs ++ (putL [] l.length 2 ++ (l.take j).flatMap cellE)) (-1) 4 = xs ++ (putL [] l.length 2 ++ (l.take (j + 1)).flatMap cellE) := by
          rw [putL_eq, hx, null_eq]; simp
        simp [hlt, hc, cellC_mk, -List.append_assoc]
        refine xcall_of (rput_c (xs ++ (putL [] l.length 2 ++ (l.take j).flatMap cellE)) (-1) 4 (by simp only [List.length_append]; omega) h) (by simp) (by simp) ?_
        rw [e]
        simp [hw]
        refine ⟨j + 1, by omega, by omega, ?_⟩
        simp [Leq, hh]
      | false =>
        rw [cellE_bytes] at hx hb
        have e : putL (xs ++ (putL [] l.length 2 ++ (l.take j).flatMap cellE)) b.length 4 ++ b = xs ++ (putL [] l.length 2 ++ (l.take (j + 1)).flatMap cellE) := by
          rw [putL_eq, hx]; simp
        have e2 : (putL (xs ++ (putL [] l.length 2 ++ (l.take j).flatMap cellE)) b.length 4).length + b.length ≤ 140737488355328 := by
          rw [putL_eq]; simp only [List.length_append] at hb ⊢; omega
        simp [hlt, hc, cellC_mk, -List.append_assoc]
        refine xcall_of (rput_c (xs ++ (putL [] l.length 2 ++ (l.take j).flatMap cellE)) b.length 4 (by simp only [List.length_append]; omega) h) (by simp) (by simp) ?_
        simp [hw, e2, -List.append_assoc]
        refine ⟨j + 1, by omega, by omega, ?_⟩
        rw [← bytesE_append, e]
        simp [Leq, hh]
    · have : j = l.length := by omega
      subst this
      simp [hh, listL]
/-- What the document's Encode answers. -/
def rencF (m : Fm) : Ms × Int := if rcheckF m = 0 then (⟨m.kind, bodyF m⟩, 0) else (⟨0, []⟩, rcheckF m)
theorem textsL_cons (a : List UInt8) (l : List (List UInt8)) : textsL (a :: l) = He.encT a ++ textsL l := rfl
theorem encT_len (a : List UInt8) : (He.encT a).length = a.length + 1 := by simp [He.encT]
abbrev rnumbersQ (size : Int) (r : Rs) : Rs := listRs (rstep (numS · size)) r
abbrev rcellsQ (r : Rs) : Rs := listRs rcellQ r
abbrev numbersU (size : Int) (st : Sta) : List Int := listU (numV · size) (numS · size) st
/-- What the document reads, and where its scan stands then. -/
def rreadV (kind : Int) (r : Rs) : Fm :=
  if kind = 80 then ⟨80, 0, textL (rabs r), [], textL (textS (rabs r)), numbersU 4 (textS (textS (rabs r))), [], [], [], 0⟩
  else if kind = 66 then ⟨66, 0, textL (textS (rabs r)), textL (rabs r), [], [], numbersU 2 (textS (textS (rabs r))), numbersU 2 (cellsS (numbersS 2 (textS (textS (rabs r))))), listU cellV cellS (numbersS 2 (textS (textS (rabs r)))), 0⟩
  else if kind = 67 ∨ kind = 68 then (if numV (rabs r) 1 = 83 then ⟨kind, numV (rabs r) 1, textL (numS (rabs r) 1), [], [], [], [], [], [], 0⟩ else ⟨kind, numV (rabs r) 1, [], textL (numS (rabs r) 1), [], [], [], [], [], 0⟩)
  else if kind = 69 then ⟨69, 0, [], textL (rabs r), [], [], [], [], [], signedI (numV (textS (rabs r)) 4) 4⟩
  else if kind = 81 then ⟨81, 0, [], [], textL (rabs r), [], [], [], [], 0⟩
  else ⟨kind, 0, [], [], [], [], [], [], [], 0⟩
def rreadQ (kind : Int) (r : Rs) : Rs :=
  if kind = 80 then rnumbersQ 4 (rstep textS (rstep textS r))
  else if kind = 66 then rnumbersQ 2 (rcellsQ (rnumbersQ 2 (rstep textS (rstep textS r))))
  else if kind = 67 ∨ kind = 68 then rstep textS (rstep (numS · 1) r)
  else if kind = 69 then rstep (numS · 4) (rstep textS r)
  else if kind = 81 then rstep textS r
  else r
theorem rnumbers_abs (size : Int) (r : Rs) : rabs (rnumbersQ size r) = numbersS size (rabs r) := listRs_abs (numV · size) (fun r => rabs_step _ r) r
theorem rcells_abs (r : Rs) : rabs (rcellsQ r) = cellsS (rabs r) := listRs_abs cellV rcell_abs r
theorem rread_abs (kind : Int) (r : Rs) : rabs (rreadQ kind r) = readS kind (rabs r) := by
  unfold rreadQ readS
  repeat' split
  all_goals simp only [rnumbers_abs, rcells_abs, rabs_step]
def rdecF (m : Ms) : Fm × Int :=
  if knownI m.type = 2 then (noFm, 9) else if knownI m.type = 0 then (noFm, 4)
  else if doneB (readS m.type (some m.body)) && rcheckF (rreadV m.type (m.body, false)) == 0 then (rreadV m.type (m.body, false), 0) else (noFm, 4)
end Go.Proofs.Ytebggfghemblbaa.Ax
namespace Go.Proofs.Ytebggfghemblbaa.Ax
open Go.RowKit Go By Nm Sc Dg
open He (textL)
set_option linter.unusedSimpArgs false
set_option linter.unusedVariables false

/-! ### What both sides check is one -/
theorem p256_4 : (256 : Int) ^ 4 = 4294967296 := by decide
theorem p256_2 : (256 : Int) ^ 2 = 65536 := by decide
theorem right4 (n : Int) : rightB n 4 = true ↔ -2147483648 ≤ n ∧ n < 4294967296 := by
  have h := @right_iff n 4 (.inr (.inr rfl))
  rw [four, p256_4] at h
  rw [h]; omega
theorem right2 (n : Int) : rightB n 2 = true ↔ -32768 ≤ n ∧ n < 65536 := by
  have h := @right_iff n 2 (.inr (.inl rfl))
  rw [two, p256_2] at h
  rw [h]; omega
theorem uns4 : unsB 4 = betB 0 4294967295 := by
  funext n
  rw [Bool.eq_iff_iff]
  simp [unsB, betB, right4]; omega
theorem uns2 : unsB 2 = betB 0 65535 := by
  funext n
  rw [Bool.eq_iff_iff]
  simp [unsB, betB, right2]; omega
theorem signed4 (n : Int) : signedI n 4 = if 2147483648 ≤ n ∧ n < 4294967296 then n - 4294967296 else n := by
  have e : szB 4 = true := rfl
  have e2 : powI 4 = 4294967296 := rfl
  unfold signedI
  rw [e, e2]
  simp only [true_and]
  split <;> split <;> omega
theorem sgn4 (n : Int) : sgnB 4 n = betB (-2147483648) 2147483647 n := by
  have e : sgnB 4 n = true ↔ (-2147483648 ≤ n ∧ n < 4294967296) ∧ signedI n 4 = n := by
    simp only [sgnB, Bool.and_eq_true, right4, beq_iff_eq]
  have e2 : betB (-2147483648) 2147483647 n = true ↔ ¬ n < -2147483648 ∧ ¬ 2147483647 < n := by
    simp only [betB, Bool.and_eq_true, Bool.not_eq_true', decide_eq_false_iff_not]
  rw [Bool.eq_iff_iff, e, e2, signed4]
  by_cases h : 2147483648 ≤ n ∧ n < 4294967296
  · rw [if_pos h]; omega
  · rw [if_neg h]; omega
theorem lists_eq (m : Fm) : listsB m = rlistsB m := by
  rw [Bool.eq_iff_iff]
  simp only [listsB, rlistsB, uns4, uns2, Bool.and_eq_true]
  constructor
  · rintro ⟨⟨a, b, c, d⟩, e, f, g, h⟩; exact ⟨⟨a, e⟩, ⟨b, f⟩, ⟨c, g⟩, d, h⟩
  · rintro ⟨⟨a, e⟩, ⟨b, f⟩, ⟨c, g⟩, d, h⟩; exact ⟨⟨a, b, c, d⟩, e, f, g, h⟩
theorem said_what (m : Fm) (h67 : ¬ (m.kind = 67 ∨ m.kind = 68)) : (saidF m).what = 0 := by
  unfold saidF
  repeat' split
  all_goals first | rfl | (rename_i h; exact absurd h h67)
theorem check_eq (m : Fm) : checkF m = rcheckF m := by
  unfold checkF rcheckF
  by_cases hk : knownI m.kind = 1
  · have e1 : ¬ ¬ knownI m.kind = 1 := by simp [hk]
    rw [if_neg e1, if_neg e1, lists_eq, sgn4]
    by_cases hs : sameF m (saidF m) = true
    · have hw : whatB m = rwhatB m := by
        by_cases h67 : m.kind = 67 ∨ m.kind = 68
        · unfold rwhatB whatB
          rw [if_pos h67]
          rcases h67 with h | h <;> simp [h]
        · have h0 : m.what = 0 := by
            rw [sameF_eq] at hs
            have := congrArg Fm.what (of_decide_eq_true hs)
            rw [this]; exact said_what m h67
          have h1 : ¬ m.kind = 67 := fun h => h67 (.inl h)
          have h2 : ¬ m.kind = 68 := fun h => h67 (.inr h)
          unfold rwhatB whatB
          rw [if_neg h67]; simp [h0, h1, h2]
      rw [hw]
      congr 1
      rw [eq_iff_iff]
      simp only [Bool.and_eq_true]
      constructor
      · rintro ⟨a, b, c, d⟩; exact ⟨c, b, a, d⟩
      · rintro ⟨c, b, a, d⟩; exact ⟨a, b, c, d⟩
    · simp [hs]
  · rw [if_pos hk, if_pos hk]
theorem enc_eq (m : Fm) : encF m = rencF m := by unfold encF rencF; rw [check_eq]
theorem known_kinds {k : Int} (h : knownI k = 1) : k = 66 ∨ k = 67 ∨ k = 68 ∨ k = 69 ∨ k = 72 ∨ k = 80 ∨ k = 81 ∨ k = 83 ∨ k = 88 := by
  unfold knownI at h
  split at h
  · assumption
  · split at h <;> omega
theorem known_three (k : Int) : knownI k = 0 ∨ knownI k = 1 ∨ knownI k = 2 := by
  unfold knownI
  split
  · exact .inr (.inl rfl)
  · split
    · exact .inr (.inr rfl)
    · exact .inl rfl
theorem check_ok {m : Fm} (h : checkF m = 0) : knownI m.kind = 1 ∧ whatB m = true ∧ listsB m = true ∧ cleanF m = true ∧ sgnB 4 m.max = true ∧ m = saidF m := by
  unfold checkF at h
  split at h
  · cases h
  · rename_i hk
    split at h
    · rename_i hc
      simp only [Bool.and_eq_true] at hc
      rw [sameF_eq] at hc
      exact ⟨by simpa using hk, hc.1, hc.2.1, hc.2.2.1, hc.2.2.2.1, of_decide_eq_true hc.2.2.2.2⟩
    · cases h
theorem check_of {m : Fm} (h1 : knownI m.kind = 1) (h2 : whatB m = true) (h3 : listsB m = true) (h4 : cleanF m = true) (h5 : sgnB 4 m.max = true) (h6 : m = saidF m) : checkF m = 0 := by
  unfold checkF
  have h7 : sameF m (saidF m) = true := by rw [sameF_eq]; exact decide_eq_true h6
  rw [if_neg (by simp [h1]), h2, h3, h4, h5, h7]; rfl

/-! ### What is read, kind by kind -/
section
variable (st : Sta)
theorem readV_80 : readV 80 st = ⟨80, 0, textL st, [], textL (textS st), numbersV 4 (textS (textS st)), [], [], [], 0⟩ := rfl
theorem readS_80 : readS 80 st = numbersS 4 (textS (textS st)) := rfl
theorem readV_66 : readV 66 st = ⟨66, 0, textL (textS st), textL st, [], [], numbersV 2 (textS (textS st)), numbersV 2 (cellsS (numbersS 2 (textS (textS st)))), cellsV (numbersS 2 (textS (textS st))), 0⟩ := rfl
theorem readS_66 : readS 66 st = numbersS 2 (cellsS (numbersS 2 (textS (textS st)))) := rfl
theorem readV_678 {k : Int} (h : k = 67 ∨ k = 68) : readV k st = if numV st 1 = 83 then ⟨k, numV st 1, textL (numS st 1), [], [], [], [], [], [], 0⟩ else ⟨k, numV st 1, [], textL (numS st 1), [], [], [], [], [], 0⟩ := by
  rcases h with rfl | rfl <;> rfl
theorem readS_678 {k : Int} (h : k = 67 ∨ k = 68) : readS k st = textS (numS st 1) := by rcases h with rfl | rfl <;> rfl
theorem readV_69 : readV 69 st = ⟨69, 0, [], textL st, [], [], [], [], [], signedI (numV (textS st) 4) 4⟩ := rfl
theorem readS_69 : readS 69 st = numS (textS st) 4 := rfl
theorem readV_81 : readV 81 st = ⟨81, 0, [], [], textL st, [], [], [], [], 0⟩ := rfl
theorem readS_81 : readS 81 st = textS st := rfl
theorem readV_no {k : Int} (h : k = 72 ∨ k = 83 ∨ k = 88) : readV k st = ⟨k, 0, [], [], [], [], [], [], [], 0⟩ ∧ readS k st = st := by
  rcases h with rfl | rfl | rfl <;> exact ⟨rfl, rfl⟩
end
theorem listS_none {α : Type} (v : Sta → α) (s : Sta → Sta) (hs : s none = none) : listS v s none = none := by
  rw [listS_eq]; exact readR_none v s hs _
theorem numbersS_none (size : Int) : numbersS size none = none := listS_none _ _ rfl
theorem cellsS_none : cellsS none = none := listS_none _ _ cellS_none
theorem some_of {f : Sta → Sta} (hf : f none = none) {st : Sta} {r : List UInt8} (h : f st = some r) : ∃ xs, st = some xs := by
  cases st with
  | none => rw [hf] at h; cases h
  | some xs => exact ⟨xs, rfl⟩

/-! ### A message is read from its bytes -/
theorem all_uns {size : Int} {l : List Int} {size' : Nat} (hs : (size : Int) = size') (hz : Sz size') (h : l.all (unsB size) = true) : ∀ x ∈ l, 0 ≤ x ∧ x < 256 ^ size' := fun x hx => by
  have := List.all_eq_true.1 h x hx
  simp only [unsB, Bool.and_eq_true] at this
  rw [hs, right_iff hz] at this
  simp at this
  exact ⟨by omega, this.2.2⟩
theorem cell_ok {c : Cl} (h : cellB c = true) : CellOk c := by
  obtain ⟨n, b⟩ := c
  cases n with
  | true =>
    left
    refine ⟨rfl, ?_⟩
    simp [cellB] at h
    exact h.2
  | false =>
    right
    refine ⟨rfl, ?_⟩
    simp [cellB] at h
    show b.length < _
    omega
theorem one256 : (256 : Int) ^ 1 = 256 := by decide
theorem onecast : ((1 : Nat) : Int) = 1 := rfl
theorem read_there {m : Fm} (h : checkF m = 0) : readV m.kind (some (bodyF m)) = m ∧ readS m.kind (some (bodyF m)) = some [] := by
  obtain ⟨hk, hw, hl, hc, hm, hs⟩ := check_ok h
  simp only [cleanF, Bool.and_eq_true] at hc
  obtain ⟨c1, c2, c3⟩ := hc
  simp only [listsB, Bool.and_eq_true, decide_eq_true_eq] at hl
  obtain ⟨⟨l1, l2, l3, l4⟩, u1, u2, u3, u4⟩ := hl
  rcases known_kinds hk with e | e | e | e | e | e | e | e | e
  · -- B
    have hs' : m = ⟨66, 0, m.name, m.portal, [], [], m.formats, m.results, m.params, 0⟩ := by
      have : saidF m = ⟨66, 0, m.name, m.portal, [], [], m.formats, m.results, m.params, 0⟩ := by unfold saidF; rw [if_neg (by omega), if_pos e]
      rw [← this]; exact hs
    have hb : bodyF m = He.encT m.portal ++ (He.encT m.name ++ (listL (numE 2) m.formats ++ (listL cellE m.params ++ (listL (numE 2) m.results ++ [])))) := by
      unfold bodyF; rw [if_neg (by omega), if_pos e]; simp [textsL]
    obtain ⟨a1, a2⟩ := He.text_enc (He.encT m.name ++ (listL (numE 2) m.formats ++ (listL cellE m.params ++ (listL (numE 2) m.results ++ [])))) c2
    obtain ⟨a3, a4⟩ := He.text_enc (listL (numE 2) m.formats ++ (listL cellE m.params ++ (listL (numE 2) m.results ++ []))) c1
    obtain ⟨a5, a6⟩ := list_there (nums_there (size := 2) (.inr (.inl rfl))) m.formats (listL cellE m.params ++ (listL (numE 2) m.results ++ [])) (by omega) (all_uns rfl (.inr (.inl rfl)) u2)
    obtain ⟨a7, a8⟩ := list_there cells_there m.params (listL (numE 2) m.results ++ []) (by omega) (fun c hc => cell_ok (List.all_eq_true.1 u4 c hc))
    obtain ⟨a9, a10⟩ := list_there (nums_there (size := 2) (.inr (.inl rfl))) m.results [] (by omega) (all_uns rfl (.inr (.inl rfl)) u3)
    rw [e, hb, readV_66, readS_66]
    simp only [numbersV, numbersS, cellsV, cellsS]
    rw [two] at a5 a6 a9 a10
    rw [a1, a2, a3, a4, a5, a6, a7, a8, a9, a10]
    exact ⟨hs'.symm, rfl⟩
  · -- C, D
    have hs' : m = if m.what = 83 then ⟨m.kind, m.what, m.name, [], [], [], [], [], [], 0⟩ else ⟨m.kind, m.what, [], m.portal, [], [], [], [], [], 0⟩ := by
      have : saidF m = if m.what = 83 then ⟨m.kind, m.what, m.name, [], [], [], [], [], [], 0⟩ else ⟨m.kind, m.what, [], m.portal, [], [], [], [], [], 0⟩ := by unfold saidF; rw [if_neg (by omega), if_neg (by omega), if_pos (by omega)]
      rw [← this]; exact hs
    have hwt : m.what = 83 ∨ m.what = 80 := by
      simp [whatB, e] at hw; exact hw
    have hwb : [UInt8.ofNat m.what.toNat] = putL [] m.what 1 := by rcases hwt with h | h <;> rw [h] <;> decide
    have hb : bodyF m = putL [] m.what 1 ++ (He.encT (m.name ++ m.portal) ++ []) := by
      unfold bodyF; rw [if_neg (by omega), if_neg (by omega), if_pos (by omega), ← hwb]; simp [textsL]
    obtain ⟨a1, a2⟩ := num_put (n := m.what) (size := 1) (.inl rfl) (He.encT (m.name ++ m.portal) ++ []) (right_of_range (.inl rfl) (by omega) (by rw [one256]; omega))
    rw [onecast] at a1 a2
    rw [one256, Int.emod_eq_of_lt (by omega) (by omega)] at a1
    have h678 : m.kind = 67 ∨ m.kind = 68 := by omega
    rw [hb, readV_678 _ h678, readS_678 _ h678, a1, a2]
    rcases hwt with h83 | h80
    · rw [if_pos h83] at hs'
      have hp : m.portal = [] := by rw [hs']
      obtain ⟨a3, a4⟩ := He.text_enc [] c1
      have e5 : m.name ++ m.portal = m.name := by rw [hp, List.append_nil]
      rw [if_pos h83, e5, a3, a4]
      exact ⟨hs'.symm, rfl⟩
    · have hn83 : ¬ m.what = 83 := by omega
      rw [if_neg hn83] at hs'
      have hp : m.name = [] := by rw [hs']
      obtain ⟨a3, a4⟩ := He.text_enc [] c2
      have e5 : m.name ++ m.portal = m.portal := by rw [hp, List.nil_append]
      rw [if_neg hn83, e5, a3, a4]
      exact ⟨hs'.symm, rfl⟩
  · -- C, D
    have hs' : m = if m.what = 83 then ⟨m.kind, m.what, m.name, [], [], [], [], [], [], 0⟩ else ⟨m.kind, m.what, [], m.portal, [], [], [], [], [], 0⟩ := by
      have : saidF m = if m.what = 83 then ⟨m.kind, m.what, m.name, [], [], [], [], [], [], 0⟩ else ⟨m.kind, m.what, [], m.portal, [], [], [], [], [], 0⟩ := by unfold saidF; rw [if_neg (by omega), if_neg (by omega), if_pos (by omega)]
      rw [← this]; exact hs
    have hwt : m.what = 83 ∨ m.what = 80 := by
      simp [whatB, e] at hw; exact hw
    have hwb : [UInt8.ofNat m.what.toNat] = putL [] m.what 1 := by rcases hwt with h | h <;> rw [h] <;> decide
    have hb : bodyF m = putL [] m.what 1 ++ (He.encT (m.name ++ m.portal) ++ []) := by
      unfold bodyF; rw [if_neg (by omega), if_neg (by omega), if_pos (by omega), ← hwb]; simp [textsL]
    obtain ⟨a1, a2⟩ := num_put (n := m.what) (size := 1) (.inl rfl) (He.encT (m.name ++ m.portal) ++ []) (right_of_range (.inl rfl) (by omega) (by rw [one256]; omega))
    rw [onecast] at a1 a2
    rw [one256, Int.emod_eq_of_lt (by omega) (by omega)] at a1
    have h678 : m.kind = 67 ∨ m.kind = 68 := by omega
    rw [hb, readV_678 _ h678, readS_678 _ h678, a1, a2]
    rcases hwt with h83 | h80
    · rw [if_pos h83] at hs'
      have hp : m.portal = [] := by rw [hs']
      obtain ⟨a3, a4⟩ := He.text_enc [] c1
      have e5 : m.name ++ m.portal = m.name := by rw [hp, List.append_nil]
      rw [if_pos h83, e5, a3, a4]
      exact ⟨hs'.symm, rfl⟩
    · have hn83 : ¬ m.what = 83 := by omega
      rw [if_neg hn83] at hs'
      have hp : m.name = [] := by rw [hs']
      obtain ⟨a3, a4⟩ := He.text_enc [] c2
      have e5 : m.name ++ m.portal = m.portal := by rw [hp, List.nil_append]
      rw [if_neg hn83, e5, a3, a4]
      exact ⟨hs'.symm, rfl⟩
  · -- E
    have hs' : m = ⟨69, 0, [], m.portal, [], [], [], [], [], m.max⟩ := by
      have : saidF m = ⟨69, 0, [], m.portal, [], [], [], [], [], m.max⟩ := by unfold saidF; rw [if_neg (by omega), if_neg (by omega), if_neg (by omega), if_pos e]
      rw [← this]; exact hs
    have hb : bodyF m = He.encT m.portal ++ (putL [] m.max 4 ++ []) := by
      unfold bodyF; rw [if_neg (by omega), if_neg (by omega), if_neg (by omega), if_pos e, putL_eq]; simp [textsL]
    obtain ⟨a1, a2⟩ := He.text_enc (putL [] m.max 4 ++ []) c2
    have hm' := hm
    simp only [sgnB, Bool.and_eq_true, beq_iff_eq] at hm
    obtain ⟨a3, a4⟩ := num_put (size := 4) (.inr (.inr rfl)) [] hm.1
    rw [four] at a3 a4
    rw [e, hb, readV_69, readS_69, a1, a2, a3, a4]
    refine ⟨?_, rfl⟩
    rw [p256_4, signed4]
    have hr := (right4 _).1 hm.1
    rw [sgn4] at hm'
    simp [betB] at hm'
    have : (if 2147483648 ≤ m.max % 4294967296 ∧ m.max % 4294967296 < 4294967296 then m.max % 4294967296 - 4294967296 else m.max % 4294967296) = m.max := by
      split <;> omega
    rw [this]; exact hs'.symm
  · have hs' : m = ⟨m.kind, 0, [], [], [], [], [], [], [], 0⟩ := by
      have : saidF m = ⟨m.kind, 0, [], [], [], [], [], [], [], 0⟩ := by unfold saidF; rw [if_neg (by omega), if_neg (by omega), if_neg (by omega), if_neg (by omega), if_neg (by omega)]
      rw [← this]; exact hs
    have hb : bodyF m = [] := by
      unfold bodyF; rw [if_neg (by omega), if_neg (by omega), if_neg (by omega), if_neg (by omega), if_neg (by omega)]
    obtain ⟨a1, a2⟩ := readV_no (some []) (k := m.kind) (by omega)
    rw [hb, a1, a2]
    exact ⟨hs'.symm, rfl⟩
  · -- P
    have hs' : m = ⟨80, 0, m.name, [], m.text, m.oids, [], [], [], 0⟩ := by
      have : saidF m = ⟨80, 0, m.name, [], m.text, m.oids, [], [], [], 0⟩ := by unfold saidF; rw [if_pos e]
      rw [← this]; exact hs
    have hb : bodyF m = He.encT m.name ++ (He.encT m.text ++ (listL (numE 4) m.oids ++ [])) := by
      unfold bodyF; rw [if_pos e]; simp [textsL]
    obtain ⟨a1, a2⟩ := He.text_enc (He.encT m.text ++ (listL (numE 4) m.oids ++ [])) c1
    obtain ⟨a3, a4⟩ := He.text_enc (listL (numE 4) m.oids ++ []) c3
    obtain ⟨a5, a6⟩ := list_there (nums_there (size := 4) (.inr (.inr rfl))) m.oids [] (by omega) (all_uns rfl (.inr (.inr rfl)) u1)
    rw [four] at a5 a6
    rw [e, hb, readV_80, readS_80]
    simp only [numbersV, numbersS]
    rw [a1, a2, a3, a4, a5, a6]
    exact ⟨hs'.symm, rfl⟩
  · -- Q
    have hs' : m = ⟨81, 0, [], [], m.text, [], [], [], [], 0⟩ := by
      have : saidF m = ⟨81, 0, [], [], m.text, [], [], [], [], 0⟩ := by unfold saidF; rw [if_neg (by omega), if_neg (by omega), if_neg (by omega), if_neg (by omega), if_pos e]
      rw [← this]; exact hs
    have hb : bodyF m = He.encT m.text ++ [] := by
      unfold bodyF; rw [if_neg (by omega), if_neg (by omega), if_neg (by omega), if_neg (by omega), if_pos e]; simp [textsL]
    obtain ⟨a1, a2⟩ := He.text_enc [] c3
    rw [e, hb, readV_81, readS_81, a1, a2]
    exact ⟨hs'.symm, rfl⟩
  · have hs' : m = ⟨m.kind, 0, [], [], [], [], [], [], [], 0⟩ := by
      have : saidF m = ⟨m.kind, 0, [], [], [], [], [], [], [], 0⟩ := by unfold saidF; rw [if_neg (by omega), if_neg (by omega), if_neg (by omega), if_neg (by omega), if_neg (by omega)]
      rw [← this]; exact hs
    have hb : bodyF m = [] := by
      unfold bodyF; rw [if_neg (by omega), if_neg (by omega), if_neg (by omega), if_neg (by omega), if_neg (by omega)]
    obtain ⟨a1, a2⟩ := readV_no (some []) (k := m.kind) (by omega)
    rw [hb, a1, a2]
    exact ⟨hs'.symm, rfl⟩
  · have hs' : m = ⟨m.kind, 0, [], [], [], [], [], [], [], 0⟩ := by
      have : saidF m = ⟨m.kind, 0, [], [], [], [], [], [], [], 0⟩ := by unfold saidF; rw [if_neg (by omega), if_neg (by omega), if_neg (by omega), if_neg (by omega), if_neg (by omega)]
      rw [← this]; exact hs
    have hb : bodyF m = [] := by
      unfold bodyF; rw [if_neg (by omega), if_neg (by omega), if_neg (by omega), if_neg (by omega), if_neg (by omega)]
    obtain ⟨a1, a2⟩ := readV_no (some []) (k := m.kind) (by omega)
    rw [hb, a1, a2]
    exact ⟨hs'.symm, rfl⟩

/-! ### What is read has just these bytes -/
theorem mem_flat {α : Type} (e : α → List UInt8) {l : List α} {c : α} (h : c ∈ l) : (e c).length ≤ (l.flatMap e).length := by
  induction l with
  | nil => cases h
  | cons x l ih =>
    rw [List.flatMap_cons, List.length_append]
    rcases List.mem_cons.1 h with rfl | h
    · omega
    · have := ih h; omega
theorem cells_ok {l : List Cl} {N : Nat} (h : ∀ c ∈ l, CellOk c) (hl : (listL cellE l).length ≤ N) (hN : N ≤ 1048576) : l.all cellB = true := by
  refine List.all_eq_true.2 fun c hc => ?_
  have h1 := mem_flat cellE hc
  rw [listL_eq, List.length_append] at hl
  obtain ⟨n, b⟩ := c
  rcases h _ hc with ⟨h2, h3⟩ | ⟨h2, h3⟩
  · have h2' : n = true := h2
    have h3' : b = [] := h3
    subst h2' h3'
    rfl
  · have h2' : n = false := h2
    subst h2'
    rw [cellE_bytes, List.length_append] at h1
    have : b.length ≤ 1048576 := by omega
    simp [cellB, this]
theorem nums_ok {l : List Int} {size : Nat} (hz : Sz size) (h : ∀ n ∈ l, 0 ≤ n ∧ n < 256 ^ size) : l.all (unsB size) = true := by
  refine List.all_eq_true.2 fun n hn => ?_
  obtain ⟨h1, h2⟩ := h n hn
  have h3 : ¬ n < 0 := by omega
  simp [unsB, h3, right_of_range hz h1 h2]
theorem bodyF_80 {m : Fm} (h : m.kind = 80) : bodyF m = textsL [m.name, m.text] ++ listL (numE 4) m.oids := if_pos h
theorem bodyF_66 {m : Fm} (h : m.kind = 66) : bodyF m = textsL [m.portal, m.name] ++ (listL (numE 2) m.formats ++ (listL cellE m.params ++ listL (numE 2) m.results)) := by unfold bodyF; rw [if_neg (by omega), if_pos h]
theorem bodyF_678 {m : Fm} (h : m.kind = 67 ∨ m.kind = 68) : bodyF m = UInt8.ofNat m.what.toNat :: textsL [m.name ++ m.portal] := by unfold bodyF; rw [if_neg (by omega), if_neg (by omega), if_pos h]
theorem bodyF_69 {m : Fm} (h : m.kind = 69) : bodyF m = putL (textsL [m.portal]) m.max 4 := by unfold bodyF; rw [if_neg (by omega), if_neg (by omega), if_neg (by omega), if_pos h]
theorem bodyF_81 {m : Fm} (h : m.kind = 81) : bodyF m = textsL [m.text] := by unfold bodyF; rw [if_neg (by omega), if_neg (by omega), if_neg (by omega), if_neg (by omega), if_pos h]
theorem put_signed {n : Int} (h0 : 0 ≤ n) (h1 : n < 4294967296) : putL [] (signedI n 4) 4 = putL [] n 4 := by
  rw [signed4]
  split
  · rename_i h
    have r1 : rightB (n - 4294967296) (4 : Nat) = true := by rw [four, right4]; omega
    have r2 : rightB n (4 : Nat) = true := by rw [four, right4]; omega
    have e1 := putL_right r1
    have e2 := putL_right r2
    rw [four] at e1 e2
    rw [e1, e2]
    have b : ∀ k, k < 4 → putByte (n - 4294967296) k = putByte n k := fun k hk => by
      unfold putByte
      congr 2
      rcases (by omega : k = 0 ∨ k = 1 ∨ k = 2 ∨ k = 3) with rfl | rfl | rfl | rfl <;> omega
    simp [putTo, b]
  · rfl
theorem clean_nil : cleanB [] = true := rfl
theorem sgn_zero : sgnB 4 0 = true := by decide
/-- What was read to its end, and may be, has just these bytes. -/
theorem read_back {k : Int} (hk : knownI k = 1) {xs : List UInt8} (hx : xs.length ≤ 1048576) (h : readS k (some xs) = some []) (hw : whatB (readV k (some xs)) = true) : bodyF (readV k (some xs)) = xs ∧ checkF (readV k (some xs)) = 0 := by
  rcases known_kinds hk with rfl | rfl | rfl | rfl | rfl | rfl | rfl | rfl | rfl
  · -- B
    rw [readS_66] at h
    rw [readV_66] at hw ⊢
    obtain ⟨ws, e4⟩ := some_of (numbersS_none 2) h
    obtain ⟨zs, e3⟩ := some_of cellsS_none e4
    obtain ⟨ys, e2⟩ := some_of (numbersS_none 2) e3
    obtain ⟨vs, e1⟩ := some_of (f := textS) rfl e2
    rw [e1] at e2
    obtain ⟨b1, c1⟩ := He.text_back e1
    obtain ⟨b2, c2⟩ := He.text_back e2
    rw [e1, e2] at e3
    rw [e1, e2, e3] at e4
    rw [e1, e2, e3, e4] at h
    rw [e1, e2, e3, e4] at hw ⊢
    obtain ⟨b3, o3, l3⟩ := list_back (nums_back (size := 2) (.inr (.inl rfl))) ys zs e3
    obtain ⟨b4, o4, l4⟩ := list_back cells_back zs ws e4
    obtain ⟨b5, o5, l5⟩ := list_back (nums_back (size := 2) (.inr (.inl rfl))) ws [] h
    rw [two] at b3 o3 l3 b5 o5 l5
    have hxs : xs = He.encT (textL (some xs)) ++ (He.encT (textL (some vs)) ++ (listL (numE 2) (numbersV 2 (some ys)) ++ (listL cellE (cellsV (some zs)) ++ (listL (numE 2) (numbersV 2 (some ws)) ++ [])))) := by
      rw [← b5, ← b4, ← b3, ← b2, ← b1]
    have l3' : (numbersV 2 (some ys)).length < 65536 := l3
    have l4' : (cellsV (some zs)).length < 65536 := l4
    have l5' : (numbersV 2 (some ws)).length < 65536 := l5
    have hlen := congrArg List.length hxs
    simp only [List.length_append] at hlen
    constructor
    · rw [bodyF_66 rfl]
      conv => rhs; rw [hxs]
      simp [textsL]
    · refine check_of rfl rfl ?_ ?_ sgn_zero rfl
      · simp only [listsB, Bool.and_eq_true, decide_eq_true_eq]
        exact ⟨⟨by simp, by omega, by omega, by omega⟩, rfl, nums_ok (size := 2) (.inr (.inl rfl)) o3, nums_ok (size := 2) (.inr (.inl rfl)) o5, cells_ok o4 (Nat.le_refl _) (by omega)⟩
      · simp only [cleanF, Bool.and_eq_true]; exact ⟨c2, c1, clean_nil⟩
  · -- C, D
    have h678 : (67 : Int) = 67 ∨ (67 : Int) = 68 := by omega
    rw [readS_678 _ h678] at h
    rw [readV_678 _ h678] at hw ⊢
    obtain ⟨ys, e1⟩ := some_of (f := textS) rfl h
    rw [e1] at h hw ⊢
    obtain ⟨b1, r1, r2⟩ := num_back (size := 1) (.inl rfl) e1
    obtain ⟨b2, c2⟩ := He.text_back h
    rw [onecast] at b1 r1 r2
    by_cases h83 : numV (some xs) 1 = 83
    · rw [if_pos h83] at hw ⊢
      have hp : [UInt8.ofNat (numV (some xs) 1).toNat] = putL [] (numV (some xs) 1) 1 := by rw [h83]; decide
      have hxs : xs = putL [] (numV (some xs) 1) 1 ++ (He.encT (textL (some ys)) ++ []) := by rw [← b2, ← b1]
      constructor
      · rw [bodyF_678 h678]
        conv => rhs; rw [hxs, ← hp]
        simp [textsL]
      · refine check_of rfl hw rfl ?_ sgn_zero ?_
        · simp only [cleanF, Bool.and_eq_true]; exact ⟨c2, clean_nil, clean_nil⟩
        · unfold saidF; rw [if_neg (by simp), if_neg (by simp), if_pos h678, if_pos h83]
    · rw [if_neg h83] at hw ⊢
      have h80 : numV (some xs) 1 = 80 := by simp [whatB, h83] at hw; exact hw
      have hp : [UInt8.ofNat (numV (some xs) 1).toNat] = putL [] (numV (some xs) 1) 1 := by rw [h80]; decide
      have hxs : xs = putL [] (numV (some xs) 1) 1 ++ (He.encT (textL (some ys)) ++ []) := by rw [← b2, ← b1]
      constructor
      · rw [bodyF_678 h678]
        conv => rhs; rw [hxs, ← hp]
        simp [textsL]
      · refine check_of rfl hw rfl ?_ sgn_zero ?_
        · simp only [cleanF, Bool.and_eq_true]; exact ⟨clean_nil, c2, clean_nil⟩
        · unfold saidF; rw [if_neg (by simp), if_neg (by simp), if_pos h678, if_neg h83]
  · -- C, D
    have h678 : (68 : Int) = 67 ∨ (68 : Int) = 68 := by omega
    rw [readS_678 _ h678] at h
    rw [readV_678 _ h678] at hw ⊢
    obtain ⟨ys, e1⟩ := some_of (f := textS) rfl h
    rw [e1] at h hw ⊢
    obtain ⟨b1, r1, r2⟩ := num_back (size := 1) (.inl rfl) e1
    obtain ⟨b2, c2⟩ := He.text_back h
    rw [onecast] at b1 r1 r2
    by_cases h83 : numV (some xs) 1 = 83
    · rw [if_pos h83] at hw ⊢
      have hp : [UInt8.ofNat (numV (some xs) 1).toNat] = putL [] (numV (some xs) 1) 1 := by rw [h83]; decide
      have hxs : xs = putL [] (numV (some xs) 1) 1 ++ (He.encT (textL (some ys)) ++ []) := by rw [← b2, ← b1]
      constructor
      · rw [bodyF_678 h678]
        conv => rhs; rw [hxs, ← hp]
        simp [textsL]
      · refine check_of rfl hw rfl ?_ sgn_zero ?_
        · simp only [cleanF, Bool.and_eq_true]; exact ⟨c2, clean_nil, clean_nil⟩
        · unfold saidF; rw [if_neg (by simp), if_neg (by simp), if_pos h678, if_pos h83]
    · rw [if_neg h83] at hw ⊢
      have h80 : numV (some xs) 1 = 80 := by simp [whatB, h83] at hw; exact hw
      have hp : [UInt8.ofNat (numV (some xs) 1).toNat] = putL [] (numV (some xs) 1) 1 := by rw [h80]; decide
      have hxs : xs = putL [] (numV (some xs) 1) 1 ++ (He.encT (textL (some ys)) ++ []) := by rw [← b2, ← b1]
      constructor
      · rw [bodyF_678 h678]
        conv => rhs; rw [hxs, ← hp]
        simp [textsL]
      · refine check_of rfl hw rfl ?_ sgn_zero ?_
        · simp only [cleanF, Bool.and_eq_true]; exact ⟨clean_nil, c2, clean_nil⟩
        · unfold saidF; rw [if_neg (by simp), if_neg (by simp), if_pos h678, if_neg h83]
  · -- E
    rw [readS_69] at h
    rw [readV_69] at hw ⊢
    obtain ⟨ys, e1⟩ := some_of (f := (numS · 4)) rfl h
    rw [e1] at h hw ⊢
    obtain ⟨b1, c1⟩ := He.text_back e1
    obtain ⟨b2, r1, r2⟩ := num_back (size := 4) (.inr (.inr rfl)) h
    rw [four] at b2 r1 r2
    rw [p256_4] at r2
    have hs4 : putL [] (signedI (numV (some ys) 4) 4) 4 = putL [] (numV (some ys) 4) 4 := put_signed r1 r2
    have hxs : xs = He.encT (textL (some xs)) ++ (putL [] (numV (some ys) 4) 4 ++ []) := by rw [← b2, ← b1]
    constructor
    · rw [bodyF_69 rfl, putL_eq, hs4]
      conv => rhs; rw [hxs]
      simp [textsL]
    · refine check_of rfl rfl rfl ?_ ?_ rfl
      · simp only [cleanF, Bool.and_eq_true]; exact ⟨clean_nil, c1, clean_nil⟩
      · rw [sgn4, signed4]
        simp only [betB, Bool.and_eq_true, Bool.not_eq_true', decide_eq_false_iff_not]
        split <;> omega
  · obtain ⟨e1, e2⟩ := readV_no (some xs) (k := 72) (by omega)
    rw [e2] at h; injection h with h; subst h
    rw [e1]; exact ⟨rfl, rfl⟩
  · -- P
    rw [readS_80] at h
    rw [readV_80] at hw ⊢
    obtain ⟨ys, e2⟩ := some_of (numbersS_none 4) h
    obtain ⟨vs, e1⟩ := some_of (f := textS) rfl e2
    rw [e1] at e2
    obtain ⟨b1, c1⟩ := He.text_back e1
    obtain ⟨b2, c2⟩ := He.text_back e2
    rw [e1, e2] at h
    rw [e1, e2] at hw ⊢
    obtain ⟨b3, o3, l3⟩ := list_back (nums_back (size := 4) (.inr (.inr rfl))) ys [] h
    rw [four] at b3 o3 l3
    have l3' : (numbersV 4 (some ys)).length < 65536 := l3
    have hxs : xs = He.encT (textL (some xs)) ++ (He.encT (textL (some vs)) ++ (listL (numE 4) (numbersV 4 (some ys)) ++ [])) := by
      rw [← b3, ← b2, ← b1]
    constructor
    · rw [bodyF_80 rfl]
      conv => rhs; rw [hxs]
      simp [textsL]
    · refine check_of rfl rfl ?_ ?_ sgn_zero rfl
      · simp only [listsB, Bool.and_eq_true, decide_eq_true_eq]
        exact ⟨⟨by omega, by simp, by simp, by simp⟩, nums_ok (size := 4) (.inr (.inr rfl)) o3, rfl, rfl, rfl⟩
      · simp only [cleanF, Bool.and_eq_true]; exact ⟨c1, clean_nil, c2⟩
  · -- Q
    rw [readS_81] at h
    rw [readV_81] at hw ⊢
    obtain ⟨b1, c1⟩ := He.text_back h
    constructor
    · rw [bodyF_81 rfl]
      conv => rhs; rw [b1]
      simp [textsL]
    · refine check_of rfl rfl rfl ?_ sgn_zero rfl
      simp only [cleanF, Bool.and_eq_true]; exact ⟨clean_nil, clean_nil, c1⟩
  · obtain ⟨e1, e2⟩ := readV_no (some xs) (k := 83) (by omega)
    rw [e2] at h; injection h with h; subst h
    rw [e1]; exact ⟨rfl, rfl⟩
  · obtain ⟨e1, e2⟩ := readV_no (some xs) (k := 88) (by omega)
    rw [e2] at h; injection h with h; subst h
    rw [e1]; exact ⟨rfl, rfl⟩
end Go.Proofs.Ytebggfghemblbaa.Ax
