/- Front's messages there and back, on lists of bytes: what both sides check is one; what is read has just these bytes. -/
import Derived.Test.YtofkddajlgebjaaGreatQAxIb
import Derived.Test.YtofkddajlgebjaaGreatQAxSc
import Derived.Test.YtofkddajlgebjaaGreatQAxWo
import Derived.Test.YtofkddajlgebjaaGreatQAxPl
import Derived.Test.YtofkddajlgebjaaGreatQAxFr
/- The document's answers: the same numbers, the same cells. -/
namespace Go.Proofs.YtofkddajlgebjaaGreat.Ax
open Go.RowKit Go By
set_option linter.unusedSimpArgs false
set_option linter.unusedVariables false
set_option maxRecDepth 10000

theorem rints_c (xs ys : List Int) (hl : xs.length ≤ 140737488355328) (h : List (List AV)) : Contract Tryz.prog 89 [.sl 1 (enc intC xs) none .no, .sl 1 (enc intC ys) none .no] h (.v (.bool (xs == ys))) h [] := by
  refine contract_of k89 mixed (by simp [c89]) fun hh hargs => ?_
  rw [← eqL_beq]
  by_cases hlen : xs.length = ys.length
  · simp [c89, hlen]
    refine xloop_ok (D := Nat) (fun j => ⟨[(0, .sl 1 (enc intC xs) none .no), (1, .sl 1 (enc intC ys) none .no), (5, .v (.int .i64 j))], [], h, []⟩) (fun j => j ≤ xs.length ∧ ∀ i (h1 : i < xs.length) (h2 : i < ys.length), i < j → ((· == ·) : Int → Int → Bool) xs[i] ys[i] = true) (fun j => xs.length - j) 0 ⟨by omega, fun i h1 h2 h3 => by omega⟩ ?_ ?_
    · simp [Leq, hh]
    · rintro j ⟨hj, hp⟩
      by_cases hlt : j < ys.length
      · have hlt' : j < xs.length := by omega
        have hw : IntKind.i64.wrap ((j : Int) + 1) = (j : Int) + 1 := wrap64 (by omega) (by omega)
        simp [hlt, hlt', intC]
        refine xwp_cond_of (xs[j] != ys[j]) (by simp) (fun ht => ?_) (fun hf' => ?_)
        · simp at ht
          have : eqL (· == ·) xs ys = false := eqL_no (i := j) hlt' hlt (by simpa using ht)
          simp [hh, this]
        · simp at hf'
          simp [hw]
          refine ⟨j + 1, ⟨by omega, fun i h1 h2 h3 => ?_⟩, by omega, ?_⟩
          · rcases Nat.lt_or_ge i j with h4 | h4
            · simpa using hp i h1 h2 h4
            · have : i = j := by omega
              subst this; simpa using hf'
          · simp [Leq, hh]
      · have hx : eqL (· == ·) xs ys = true := (eqL_iff _ xs ys).2 ⟨hlen, fun i h1 h2 => hp i h1 h2 (by omega)⟩
        have hlt' : ¬ j < xs.length := by omega
        simp [hh, hx, hlt, hlt']
  · have hne : (xs.length : Int) ≠ ys.length := by omega
    have hx : eqL (· == ·) xs ys = false := eqL_len hlen
    simp [c89, hne, hh, hx]
theorem rcells_c (xs ys : List Cl) (hl : xs.length ≤ 140737488355328) (h : List (List AV)) : Contract Tryz.prog 90 [.sl 2 (enc cellC xs) none .no, .sl 2 (enc cellC ys) none .no] h (.v (.bool (xs == ys))) h [] := by
  refine contract_of k90 mixed (by simp [c90]) fun hh hargs => ?_
  rw [← eqL_beq]
  by_cases hlen : xs.length = ys.length
  · simp [c90, hlen]
    refine xloop_ok (D := Nat) (fun j => ⟨[(0, .sl 2 (enc cellC xs) none .no), (1, .sl 2 (enc cellC ys) none .no), (5, .v (.int .i64 j))], [], h, []⟩) (fun j => j ≤ xs.length ∧ ∀ i (h1 : i < xs.length) (h2 : i < ys.length), i < j → ((· == ·) : Cl → Cl → Bool) xs[i] ys[i] = true) (fun j => xs.length - j) 0 ⟨by omega, fun i h1 h2 h3 => by omega⟩ ?_ ?_
    · simp [Leq, hh]
    · rintro j ⟨hj, hp⟩
      by_cases hlt : j < ys.length
      · have hlt' : j < xs.length := by omega
        have hw : IntKind.i64.wrap ((j : Int) + 1) = (j : Int) + 1 := wrap64 (by omega) (by omega)
        obtain ⟨n, b, hx⟩ : ∃ n b, xs[j] = (n, b) := ⟨_, _, rfl⟩
        obtain ⟨m, d, hy⟩ : ∃ m d, ys[j] = (m, d) := ⟨_, _, rfl⟩
        have next : xs[j] = ys[j] → ∀ i (h1 : i < xs.length) (h2 : i < ys.length), i < j + 1 → ((· == ·) : Cl → Cl → Bool) xs[i] ys[i] = true := fun he i h1 h2 h3 => by
          rcases Nat.lt_or_ge i j with h4 | h4
          · exact hp i h1 h2 h4
          · have : i = j := by omega
            subst this; simp [he]
        have no : xs[j] ≠ ys[j] → eqL (· == ·) xs ys = false := fun he => eqL_no (i := j) hlt' hlt (by simpa using he)
        rw [hx, hy] at next no
        cases hnm : n == m with
        | false =>
          have e := no (by rintro he; injection he with h1 h2; simp [h1] at hnm)
          simp [hlt, hlt', hx, hy, cellC_mk, hnm, hh, e]
        | true =>
          have hnm' : n = m := by simpa using hnm
          cases hbd : b == d with
          | false =>
            have e := no (by rintro he; injection he with h1 h2; simp [h2] at hbd)
            simp [hlt, hlt', hx, hy, cellC_mk, hnm, hbd, hh, e]
          | true =>
            have hbd' : b = d := by simpa using hbd
            have e := next (by rw [hnm', hbd'])
            simp [hlt, hlt', hx, hy, cellC_mk, hnm, hbd, hw]
            refine ⟨j + 1, ⟨by omega, fun i h1 h2 h3 => by simpa using e i h1 h2 h3⟩, by omega, ?_⟩
            simp [Leq, hh]
      · have hx : eqL (· == ·) xs ys = true := (eqL_iff _ xs ys).2 ⟨hlen, fun i h1 h2 => hp i h1 h2 (by omega)⟩
        have hlt' : ¬ j < xs.length := by omega
        simp [hh, hx, hlt, hlt']
  · have hne : (xs.length : Int) ≠ ys.length := by omega
    have hx : eqL (· == ·) xs ys = false := eqL_len hlen
    simp [c90, hne, hh, hx]
end Go.Proofs.YtofkddajlgebjaaGreat.Ax
/- The document's answers for front, over values without memory: checks, what is the same. -/
namespace Go.Proofs.YtofkddajlgebjaaGreat.Ax
open Go.RowKit Go By YtofkddajlgebjaaGreat.Nm Sc Dg
set_option linter.unusedSimpArgs false
set_option linter.unusedVariables false
set_option maxRecDepth 10000

def betB (lo hi z : Int) : Bool := !decide (z < lo) && !decide (hi < z)
theorem take_all {α : Type} {p : α → Bool} {xs : List α} {j : Nat} (hj : j < xs.length) (h1 : ∀ x ∈ xs.take j, p x = true) (h2 : p xs[j] = true) : ∀ x ∈ xs.take (j + 1), p x = true := by
  rw [take_next hj]
  intro x hx
  rcases List.mem_append.1 hx with h | h
  · exact h1 x h
  · simp at h; subst h; exact h2
theorem all_no {α : Type} {p : α → Bool} {xs : List α} {j : Nat} (hj : j < xs.length) (h2 : p xs[j] = false) : xs.all p = false := by
  rw [List.all_eq_false]; exact ⟨_, List.getElem_mem hj, by simp [h2]⟩
theorem rbetween_c (l : List Int) (lo hi : Int) (h : List (List AV)) : Contract Tryz.prog 57 [.sl 1 (enc intC l) none .no, .v (.int .i64 lo), .v (.int .i64 hi)] h (.v (.bool (decide (l.length ≤ 65535) && l.all (betB lo hi)))) h [] := by
  refine contract_of k57 mixed (by simp [c57]) fun hh hargs => ?_
  by_cases hl : (65535 : Int) < l.length
  · have hl' : ¬ l.length ≤ 65535 := by omega
    simp [c57, hl, hl', hh]
  · have hl' : l.length ≤ 65535 := by omega
    simp [c57, hl, hl']
    refine xloop_ok (D := Nat) (fun j => ⟨[(0, .sl 1 (enc intC l) none .no), (1, .v (.int .i64 lo)), (2, .v (.int .i64 hi)), (7, .v (.int .i64 j))], [], h, []⟩) (fun j => j ≤ l.length ∧ ∀ x ∈ l.take j, betB lo hi x = true) (fun j => l.length - j) 0 (by simp) ?_ ?_
    · simp [Leq, hh]
    · rintro j ⟨hj, hp⟩
      by_cases hlt : j < l.length
      · have hw : IntKind.i64.wrap ((j : Int) + 1) = (j : Int) + 1 := wrap64 (by omega) (by omega)
        by_cases h1 : l[j] < lo
        · have e := all_no (p := betB lo hi) hlt (by simp [betB, h1])
          simp [hlt, intC, h1, hh, e]
        · by_cases h2 : hi < l[j]
          · have e := all_no (p := betB lo hi) hlt (by simp [betB, h2])
            simp [hlt, intC, h1, h2, hh, e]
          · simp [hlt, intC, h1, h2, hw]
            refine ⟨j + 1, ⟨by omega, take_all hlt hp (by simp [betB, h1, h2])⟩, by omega, ?_⟩
            simp [Leq, hh]
      · have : j = l.length := by omega
        subst this
        have e : l.all (betB lo hi) = true := by rw [List.take_length] at hp; exact List.all_eq_true.2 hp
        simp [hh, e]
theorem rvalues_c (l : List Cl) (h : List (List AV)) : Contract Tryz.prog 60 [.sl 2 (enc cellC l) none .no] h (.v (.bool (decide (l.length ≤ 65535) && l.all cellB))) h [] := by
  refine contract_of k60 mixed (by simp [c60]) fun hh hargs => ?_
  by_cases hl : (65535 : Int) < l.length
  · have hl' : ¬ l.length ≤ 65535 := by omega
    simp [c60, hl, hl', hh]
  · have hl' : l.length ≤ 65535 := by omega
    simp [c60, hl, hl']
    refine xloop_ok (D := Nat) (fun j => ⟨[(0, .sl 2 (enc cellC l) none .no), (3, .v (.int .i64 j))], [], h, []⟩) (fun j => j ≤ l.length ∧ ∀ x ∈ l.take j, cellB x = true) (fun j => l.length - j) 0 (by simp) ?_ ?_
    · simp [Leq, hh]
    · rintro j ⟨hj, hp⟩
      by_cases hlt : j < l.length
      · have hw : IntKind.i64.wrap ((j : Int) + 1) = (j : Int) + 1 := wrap64 (by omega) (by omega)
        obtain ⟨n, b, hx⟩ : ∃ n b, l[j] = (n, b) := ⟨_, _, rfl⟩
        by_cases h1 : (1048576 : Int) < b.length
        · have h3 : ¬ b.length ≤ 1048576 := by omega
          have e := all_no (p := cellB) hlt (by rw [hx]; simp [cellB, h3])
          cases n
          · simp [hlt, hx, cellC_mk, h1, hh, e]
          · have h2 : 0 < b.length := by omega
            simp [hlt, hx, cellC_mk, h1, h2, hh, e]
        · have h1' : b.length ≤ 1048576 := by omega
          cases n
          · simp [hlt, hx, cellC_mk, h1, hw]
            refine ⟨j + 1, ⟨by omega, ⟨fun b => take_all hlt hp (by rw [hx]; simp [cellB, h1']) (_, b), fun b => take_all hlt hp (by rw [hx]; simp [cellB, h1']) (_, b)⟩⟩, by omega, ?_⟩
            simp [Leq, hh]
          · by_cases h2 : 0 < b.length
            · have e := all_no (p := cellB) hlt (by rw [hx]; simp [cellB, h2])
              simp [hlt, hx, cellC_mk, h1, h2, hh, e]
            · simp [hlt, hx, cellC_mk, h1, h2, hw]
              refine ⟨j + 1, ⟨by omega, ⟨fun b => take_all hlt hp (by rw [hx]; simp [cellB, h1', h2]) (_, b), fun b => take_all hlt hp (by rw [hx]; simp [cellB, h1', h2]) (_, b)⟩⟩, by omega, ?_⟩
              simp [Leq, hh]
      · have : j = l.length := by omega
        subst this
        have e : l.all cellB = true := by rw [List.take_length] at hp; exact List.all_eq_true.2 hp
        simp [hh, e]
end Go.Proofs.YtofkddajlgebjaaGreat.Ax
/- Front's messages as bytes, over values without memory: both sides. -/
namespace Go.Proofs.YtofkddajlgebjaaGreat.Ax
open Go.RowKit Go By YtofkddajlgebjaaGreat.Nm Sc Dg
set_option linter.unusedSimpArgs false
set_option linter.unusedVariables false
set_option maxRecDepth 10000

/-! ### slices.Concat -/
def bytC (b : List UInt8) : List AV := [.sl 1 (bytesE b) none .no]
@[simp] theorem ltLL_bytC (n : Nat) (l : List (List UInt8)) : ltLL n (enc bytC l) := ltLL_enc bytC n (fun _ => by simp [bytC]) l
/-- Lists of bytes, one behind the other. -/
def catL (l : List (List UInt8)) : List UInt8 := l.flatMap id
theorem catL_step (l : List (List UInt8)) (a j : Nat) (hj : j < l.length) (N : Nat) (hN : a + (catL l).length ≤ N) : catL (l.take (j + 1)) = catL (l.take j) ++ l[j] ∧ a + ((catL (l.take j)).length + l[j].length) ≤ N := flat_step id l a j hj N hN
@[simp] theorem catL_nil : catL [] = [] := of_eq_true (eq_self _)
@[simp] theorem catL_cons (x : List UInt8) (l : List (List UInt8)) : catL (x :: l) = x ++ catL l := of_eq_true (eq_self _)
theorem concat_c (l : List (List UInt8)) (h : List (List AV)) (hl : (catL l).length ≤ 140737488355328) (hn : l.length ≤ 140737488355328) : Contract Tryz.prog 19 [.sl 1 (enc bytC l) none .no] h (.sl 1 (bytesE (catL l)) none (.own .res)) h [] := by
  refine contract_of k19 mixed (by simp [c19]) fun hh hargs => ?_
  simp [c19]
  refine xloop_ok (D := Nat) (fun j => ⟨[(0, .sl 1 (enc bytC l) none .no), (3, .v (.int .i64 (catL (l.take j)).length)), (9, .sl 1 (enc bytC l) none .no), (10, .v (.int .i64 l.length)), (11, .v (.int .i64 j))], [], h, []⟩) (fun j => j ≤ l.length) (fun j => l.length - j) 0 (by simp) ?_ ?_
  · simp [Leq, hh]
  · intro j hj
    by_cases hlt : j < l.length
    · have hw : IntKind.i64.wrap ((j : Int) + 1) = (j : Int) + 1 := wrap64 (by omega) (by omega)
      obtain ⟨hx, hb⟩ := catL_step l 0 j hlt _ (by simpa using hl)
      have hw2 : IntKind.i64.wrap (((catL (l.take j)).length : Int) + (l[j].length : Int)) = ((catL (l.take (j + 1))).length : Int) := by
        rw [hx, List.length_append, wrap64 (by omega) (by omega)]; simp
      have h0 : ¬ ((catL (l.take (j + 1))).length : Int) < 0 := by omega
      simp [hlt, bytC, hw, hw2, h0]
      refine ⟨j + 1, by omega, by omega, ?_⟩
      simp [Leq, hh]
    · have : j = l.length := by omega
      subst this
      simp 
      refine xcall_self (by simp) (grow_c _ hl h) ?_
      simp 
      refine xloop_ok (D := Nat) (fun j => ⟨[(25, .sl 1 (enc bytC l) none .no), (26, .v (.int .i64 l.length)), (27, .v (.int .i64 j))], [(6, .sl 1 (bytesE (catL (l.take j))) none (.own (.slot 6)))], h, []⟩) (fun j => j ≤ l.length) (fun j => l.length - j) 0 (by simp) ?_ ?_
      · simp [Leq, hh]
      · intro j hj
        by_cases hlt : j < l.length
        · have hw : IntKind.i64.wrap ((j : Int) + 1) = (j : Int) + 1 := wrap64 (by omega) (by omega)
          obtain ⟨hx, hb⟩ := catL_step l 0 j hlt _ (by simpa using hl)
          simp [hlt, bytC, hw]
          refine ⟨by omega, j + 1, by omega, by omega, ?_⟩
          simp [Leq, hh, hx]
        · have : j = l.length := by omega
          subst this
          simp [hh]

/-! ### A body -/
end Go.Proofs.YtofkddajlgebjaaGreat.Ax
/- Front's messages out of bytes, over values without memory: both sides. -/
namespace Go.Proofs.YtofkddajlgebjaaGreat.Ax
open Go.RowKit Go By YtofkddajlgebjaaGreat.Nm Sc Dg
set_option linter.unusedSimpArgs false
set_option linter.unusedVariables false
set_option maxRecDepth 10000

abbrev numbersV (size : Int) (st : Sta) : List Int := listV (numV · size) (numS · size) st
abbrev numbersS (size : Int) (st : Sta) : Sta := listS (numV · size) (numS · size) st
abbrev cellsV (st : Sta) : List Cl := listV cellV cellS st
abbrev cellsS (st : Sta) : Sta := listS cellV cellS st
open He (textL)
end Go.Proofs.YtofkddajlgebjaaGreat.Ax
/- The document's messages of front as bytes and out of bytes, over values without memory. -/
namespace Go.Proofs.YtofkddajlgebjaaGreat.Ax
open Go.RowKit Go By YtofkddajlgebjaaGreat.Nm Sc Dg
set_option linter.unusedSimpArgs false
set_option linter.unusedVariables false
set_option maxRecDepth 10000
open He (textL)

theorem rstr_c (xs s : List UInt8) (hl : xs.length + (s.length + 1) ≤ 140737488355328) (h : List (List AV)) : Contract Tryz.prog 42 [.sl 1 (bytesE xs) none (.own (.arg 0)), .v (.string (strB s))] h (.sl 1 (bytesE (xs ++ He.encT s)) none (.own .res)) h [] := by
  refine contract_of k42 mixed (by simp [c42]) fun hh hargs => ?_
  simp [c42, hh, He.encT]
  omega
theorem putL_eq (xs : List UInt8) (n size : Int) : putL xs n size = xs ++ putL [] n size := by
  unfold putL; split <;> simp
theorem rlist_c (xs : List UInt8) (l : List Int) (size : Int) (hl : (xs ++ listL (numE size) l).length ≤ 140737488351232) (hn : l.length ≤ 140737488355328) (h : List (List AV)) :
    Contract Tryz.prog 45 [.sl 1 (bytesE xs) none .no, .sl 1 (enc intC l) none .no, .v (.int .i64 size)] h (.sl 1 (bytesE (xs ++ listL (numE size) l)) none (.own .res)) h [] := by
  refine contract_of k45 mixed (by simp [c45]) fun hh hargs => ?_
  rw [List.length_append] at hl
  simp [c45]
  refine xcall_self (by simp) (rput_c xs l.length 2 (by omega) h) ?_
  simp
  have e0 : putL xs l.length 2 = xs ++ (putL [] l.length 2 ++ (l.take 0).flatMap (numE size)) := by rw [putL_eq]; simp
  rw [e0]
  refine xloop_ok (D := Nat) (fun j => ⟨[(1, .sl 1 (enc intC l) none .no), (2, .v (.int .i64 size)), (7, .v (.int .i64 j))], [(0, .sl 1 (bytesE (xs ++ (putL [] l.length 2 ++ (l.take j).flatMap (numE size)))) none (.own (.slot 0)))], h, []⟩) (fun j => j ≤ l.length) (fun j => l.length - j) 0 (by simp) ?_ ?_
  · simp [Leq, hh]
  · intro j hj
    by_cases hlt : j < l.length
    · have hw : IntKind.i64.wrap ((j : Int) + 1) = (j : Int) + 1 := wrap64 (by omega) (by omega)
      obtain ⟨hx, hb⟩ := flat_step (numE size) l (xs.length + (putL [] l.length 2).length) j hlt 140737488351232 (by simp only [listL, List.length_append] at hl; omega)
      simp [hlt, intC, -List.append_assoc]
      refine xcall_of (rput_c (xs ++ (putL [] l.length 2 ++ (l.take j).flatMap (numE size))) l[j] size (by simp only [List.length_append]; omega) h) (by simp) (by simp) ?_
      have e : putL (xs ++ (putL [] l.length 2 ++ (l.take j).flatMap (numE size))) l[j] size = xs ++ (putL [] l.length 2 ++ (l.take (j + 1)).flatMap (numE size)) := by
        rw [putL_eq, hx]; simp [numE]
      rw [e]
      simp [hw]
      refine ⟨j + 1, by omega, by omega, ?_⟩
      simp [Leq, hh]
    · have : j = l.length := by omega
      subst this
      simp [hh, listL]
theorem null_eq : putL [] (-1) 4 = putL [] 4294967295 4 := by decide
theorem rputc_c (xs : List UInt8) (l : List Cl) (hl : (xs ++ listL cellE l).length ≤ 140737488351232) (hn : l.length ≤ 140737488355328) (h : List (List AV)) :
    Contract Tryz.prog 43 [.sl 1 (bytesE xs) none .no, .sl 2 (enc cellC l) none .no] h (.sl 1 (bytesE (xs ++ listL cellE l)) none (.own .res)) h [] := by
  refine contract_of k43 mixed (by simp [c43]) fun hh hargs => ?_
  rw [List.length_append] at hl
  simp [c43]
  refine xcall_self (by simp) (rput_c xs l.length 2 (by omega) h) ?_
  simp
  have e0 : putL xs l.length 2 = xs ++ (putL [] l.length 2 ++ (l.take 0).flatMap cellE) := by rw [putL_eq]; simp
  rw [e0]
  refine xloop_ok (D := Nat) (fun j => ⟨[(1, .sl 2 (enc cellC l) none .no), (5, .v (.int .i64 j))], [(0, .sl 1 (bytesE (xs ++ (putL [] l.length 2 ++ (l.take j).flatMap cellE))) none (.own (.slot 0)))], h, []⟩) (fun j => j ≤ l.length) (fun j => l.length - j) 0 (by simp) ?_ ?_
  · simp [Leq, hh]
  · intro j hj
    by_cases hlt : j < l.length
    · have hw : IntKind.i64.wrap ((j : Int) + 1) = (j : Int) + 1 := wrap64 (by omega) (by omega)
      obtain ⟨hx, hb⟩ := flat_step cellE l (xs.length + (putL [] l.length 2).length) j hlt 140737488351232 (by simp only [listL, List.length_append] at hl; omega)
      obtain ⟨n, b, hc⟩ : ∃ n b, l[j] = (n, b) := ⟨_, _, rfl⟩
      rw [hc] at hx hb
      cases n with
      | true =>
        rw [cellE_null] at hx hb
        have e : putL (xs ++ (putL [] l.length 2 ++ (l.take j).flatMap cellE)) (-1) 4 = xs ++ (putL [] l.length 2 ++ (l.take (j + 1)).flatMap cellE) := by
          rw [putL_eq, hx, null_eq]; simp
        simp [hlt, hc, cellC_mk, -List.append_assoc]
        refine xcall_of (rput_c (xs ++ (putL [] l.length 2 ++ (l.take j).flatMap cellE)) (-1) 4 (by simp only [List.length_append]; omega) h) (by simp) (by simp) ?_
        rw [e]
        simp [hw]
        refine ⟨j + 1, by omega, by omega, ?_⟩
        simp [Leq, hh]
      | false =>
        rw [cellE_bytes] at hx hb
        have e : putL (xs ++ (putL [] l.length 2 ++ (l.take j).flatMap cellE)) b.length 4 ++ b = xs ++ (putL [] l.length 2 ++ (l.take (j + 1)).flatMap cellE) := by
          rw [putL_eq, hx]; simp
        have e2 : (putL (xs ++ (putL [] l.length 2 ++ (l.take j).flatMap cellE)) b.length 4).length + b.length ≤ 140737488355328 := by
          rw [putL_eq]; simp only [List.length_append] at hb ⊢; omega
        simp [hlt, hc, cellC_mk, -List.append_assoc]
        refine xcall_of (rput_c (xs ++ (putL [] l.length 2 ++ (l.take j).flatMap cellE)) b.length 4 (by simp only [List.length_append]; omega) h) (by simp) (by simp) ?_
        simp [hw, e2, -List.append_assoc]
        refine ⟨j + 1, by omega, by omega, ?_⟩
        rw [← bytesE_append, e]
        simp [Leq, hh]
    · have : j = l.length := by omega
      subst this
      simp [hh, listL]
theorem encT_len (a : List UInt8) : (He.encT a).length = a.length + 1 := by simp [He.encT]
abbrev rnumbersQ (size : Int) (r : Rs) : Rs := listRs (rstep (numS · size)) r
abbrev rcellsQ (r : Rs) : Rs := listRs rcellQ r
abbrev numbersU (size : Int) (st : Sta) : List Int := listU (numV · size) (numS · size) st
end Go.Proofs.YtofkddajlgebjaaGreat.Ax
namespace Go.Proofs.YtofkddajlgebjaaGreat.Ax
open Go.RowKit Go By YtofkddajlgebjaaGreat.Nm Sc Dg
open He (textL)
set_option linter.unusedSimpArgs false
set_option linter.unusedVariables false

/-! ### What both sides check is one -/
theorem p256_4 : (256 : Int) ^ 4 = 4294967296 := by decide
theorem p256_2 : (256 : Int) ^ 2 = 65536 := by decide
theorem right4 (n : Int) : rightB n 4 = true ↔ -2147483648 ≤ n ∧ n < 4294967296 := by
  have h := @right_iff n 4 (.inr (.inr rfl))
  rw [four, p256_4] at h
  rw [h]; omega
theorem right2 (n : Int) : rightB n 2 = true ↔ -32768 ≤ n ∧ n < 65536 := by
  have h := @right_iff n 2 (.inr (.inl rfl))
  rw [two, p256_2] at h
  rw [h]; omega
theorem uns4 : unsB 4 = betB 0 4294967295 := by
  funext n
  rw [Bool.eq_iff_iff]
  simp [unsB, betB, right4]; omega
theorem uns2 : unsB 2 = betB 0 65535 := by
  funext n
  rw [Bool.eq_iff_iff]
  simp [unsB, betB, right2]; omega
theorem signed4 (n : Int) : signedI n 4 = if 2147483648 ≤ n ∧ n < 4294967296 then n - 4294967296 else n := by
  have e : szB 4 = true := rfl
  have e2 : powI 4 = 4294967296 := rfl
  unfold signedI
  rw [e, e2]
  simp only [true_and]
  split <;> split <;> omega
theorem sgn4 (n : Int) : sgnB 4 n = betB (-2147483648) 2147483647 n := by
  have e : sgnB 4 n = true ↔ (-2147483648 ≤ n ∧ n < 4294967296) ∧ signedI n 4 = n := by
    simp only [sgnB, Bool.and_eq_true, right4, beq_iff_eq]
  have e2 : betB (-2147483648) 2147483647 n = true ↔ ¬ n < -2147483648 ∧ ¬ 2147483647 < n := by
    simp only [betB, Bool.and_eq_true, Bool.not_eq_true', decide_eq_false_iff_not]
  rw [Bool.eq_iff_iff, e, e2, signed4]
  by_cases h : 2147483648 ≤ n ∧ n < 4294967296
  · rw [if_pos h]; omega
  · rw [if_neg h]; omega
/-! ### What is read, kind by kind -/
section
variable (st : Sta)
end
/-! ### A message is read from its bytes -/
/-! ### What is read has just these bytes -/
end Go.Proofs.YtofkddajlgebjaaGreat.Ax
