/- The document's answers for front, over values without memory: checks, what is the same. -/
import Derived.Test.YtdfocmmajngelaaQAxU
import Derived.Test.YtdfocmmajngelaaQAxSc
import Derived.Test.YtdfocmmajngelaaQAxTz
import Derived.Test.YtdfocmmajngelaaQAxFr
/- The document's answers: the same numbers, the same cells. -/
namespace Go.Proofs.Ytdfocmmajngelaa.Ax
open Go.RowKit Go By
set_option linter.unusedSimpArgs false
set_option linter.unusedVariables false
set_option maxRecDepth 10000

theorem rints_c (xs ys : List Int) (hl : xs.length ≤ 140737488355328) (h : List (List AV)) : Contract Try.prog 64 [.sl 1 (enc intC xs) none .no, .sl 1 (enc intC ys) none .no] h (.v (.bool (xs == ys))) h [] := by
  refine contract_of k64 mixed (by simp [c64]) fun hh hargs => ?_
  rw [← eqL_beq]
  by_cases hlen : xs.length = ys.length
  · simp [c64, hlen]
    refine xloop_ok (D := Nat) (fun j => ⟨[(0, .sl 1 (enc intC xs) none .no), (1, .sl 1 (enc intC ys) none .no), (5, .v (.int .i64 j))], [], h, []⟩) (fun j => j ≤ xs.length ∧ ∀ i (h1 : i < xs.length) (h2 : i < ys.length), i < j → ((· == ·) : Int → Int → Bool) xs[i] ys[i] = true) (fun j => xs.length - j) 0 ⟨by omega, fun i h1 h2 h3 => by omega⟩ ?_ ?_
    · simp [Leq, hh]
    · rintro j ⟨hj, hp⟩
      by_cases hlt : j < ys.length
      · have hlt' : j < xs.length := by omega
        have hw : IntKind.i64.wrap ((j : Int) + 1) = (j : Int) + 1 := wrap64 (by omega) (by omega)
        simp [hlt, hlt', intC]
        refine xwp_cond_of (xs[j] != ys[j]) (by simp) (fun ht => ?_) (fun hf' => ?_)
        · simp at ht
          have : eqL (· == ·) xs ys = false := eqL_no (i := j) hlt' hlt (by simpa using ht)
          simp [hh, this]
        · simp at hf'
          simp [hw]
          refine ⟨j + 1, ⟨by omega, fun i h1 h2 h3 => ?_⟩, by omega, ?_⟩
          · rcases Nat.lt_or_ge i j with h4 | h4
            · simpa using hp i h1 h2 h4
            · have : i = j := by omega
              subst this; simpa using hf'
          · simp [Leq, hh]
      · have hx : eqL (· == ·) xs ys = true := (eqL_iff _ xs ys).2 ⟨hlen, fun i h1 h2 => hp i h1 h2 (by omega)⟩
        have hlt' : ¬ j < xs.length := by omega
        simp [hh, hx, hlt, hlt']
  · have hne : (xs.length : Int) ≠ ys.length := by omega
    have hx : eqL (· == ·) xs ys = false := eqL_len hlen
    simp [c64, hne, hh, hx]
theorem rcells_c (xs ys : List Cl) (hl : xs.length ≤ 140737488355328) (h : List (List AV)) : Contract Try.prog 65 [.sl 2 (enc cellC xs) none .no, .sl 2 (enc cellC ys) none .no] h (.v (.bool (xs == ys))) h [] := by
  refine contract_of k65 mixed (by simp [c65]) fun hh hargs => ?_
  rw [← eqL_beq]
  by_cases hlen : xs.length = ys.length
  · simp [c65, hlen]
    refine xloop_ok (D := Nat) (fun j => ⟨[(0, .sl 2 (enc cellC xs) none .no), (1, .sl 2 (enc cellC ys) none .no), (5, .v (.int .i64 j))], [], h, []⟩) (fun j => j ≤ xs.length ∧ ∀ i (h1 : i < xs.length) (h2 : i < ys.length), i < j → ((· == ·) : Cl → Cl → Bool) xs[i] ys[i] = true) (fun j => xs.length - j) 0 ⟨by omega, fun i h1 h2 h3 => by omega⟩ ?_ ?_
    · simp [Leq, hh]
    · rintro j ⟨hj, hp⟩
      by_cases hlt : j < ys.length
      · have hlt' : j < xs.length := by omega
        have hw : IntKind.i64.wrap ((j : Int) + 1) = (j : Int) + 1 := wrap64 (by omega) (by omega)
        obtain ⟨n, b, hx⟩ : ∃ n b, xs[j] = (n, b) := ⟨_, _, rfl⟩
        obtain ⟨m, d, hy⟩ : ∃ m d, ys[j] = (m, d) := ⟨_, _, rfl⟩
        have next : xs[j] = ys[j] → ∀ i (h1 : i < xs.length) (h2 : i < ys.length), i < j + 1 → ((· == ·) : Cl → Cl → Bool) xs[i] ys[i] = true := fun he i h1 h2 h3 => by
          rcases Nat.lt_or_ge i j with h4 | h4
          · exact hp i h1 h2 h4
          · have : i = j := by omega
            subst this; simp [he]
        have no : xs[j] ≠ ys[j] → eqL (· == ·) xs ys = false := fun he => eqL_no (i := j) hlt' hlt (by simpa using he)
        rw [hx, hy] at next no
        cases hnm : n == m with
        | false =>
          have e := no (by rintro he; injection he with h1 h2; simp [h1] at hnm)
          simp [hlt, hlt', hx, hy, cellC_mk, hnm, hh, e]
        | true =>
          have hnm' : n = m := by simpa using hnm
          cases hbd : b == d with
          | false =>
            have e := no (by rintro he; injection he with h1 h2; simp [h2] at hbd)
            simp [hlt, hlt', hx, hy, cellC_mk, hnm, hbd, hh, e]
          | true =>
            have hbd' : b = d := by simpa using hbd
            have e := next (by rw [hnm', hbd'])
            simp [hlt, hlt', hx, hy, cellC_mk, hnm, hbd, hw]
            refine ⟨j + 1, ⟨by omega, fun i h1 h2 h3 => by simpa using e i h1 h2 h3⟩, by omega, ?_⟩
            simp [Leq, hh]
      · have hx : eqL (· == ·) xs ys = true := (eqL_iff _ xs ys).2 ⟨hlen, fun i h1 h2 => hp i h1 h2 (by omega)⟩
        have hlt' : ¬ j < xs.length := by omega
        simp [hh, hx, hlt, hlt']
  · have hne : (xs.length : Int) ≠ ys.length := by omega
    have hx : eqL (· == ·) xs ys = false := eqL_len hlen
    simp [c65, hne, hh, hx]
end Go.Proofs.Ytdfocmmajngelaa.Ax
namespace Go.Proofs.Ytdfocmmajngelaa.Ax
open Go.RowKit Go By Ytdfocmmajngelaa.Nm Sc Dg
set_option linter.unusedSimpArgs false
set_option linter.unusedVariables false
set_option maxRecDepth 10000

def betB (lo hi z : Int) : Bool := !decide (z < lo) && !decide (hi < z)
theorem take_all {α : Type} {p : α → Bool} {xs : List α} {j : Nat} (hj : j < xs.length) (h1 : ∀ x ∈ xs.take j, p x = true) (h2 : p xs[j] = true) : ∀ x ∈ xs.take (j + 1), p x = true := by
  rw [take_next hj]
  intro x hx
  rcases List.mem_append.1 hx with h | h
  · exact h1 x h
  · simp at h; subst h; exact h2
theorem all_no {α : Type} {p : α → Bool} {xs : List α} {j : Nat} (hj : j < xs.length) (h2 : p xs[j] = false) : xs.all p = false := by
  rw [List.all_eq_false]; exact ⟨_, List.getElem_mem hj, by simp [h2]⟩
theorem rbetween_c (l : List Int) (lo hi : Int) (h : List (List AV)) : Contract Try.prog 58 [.sl 1 (enc intC l) none .no, .v (.int .i64 lo), .v (.int .i64 hi)] h (.v (.bool (decide (l.length ≤ 65535) && l.all (betB lo hi)))) h [] := by
  refine contract_of k58 mixed (by simp [c58]) fun hh hargs => ?_
  by_cases hl : (65535 : Int) < l.length
  · have hl' : ¬ l.length ≤ 65535 := by omega
    simp [c58, hl, hl', hh]
  · have hl' : l.length ≤ 65535 := by omega
    simp [c58, hl, hl']
    refine xloop_ok (D := Nat) (fun j => ⟨[(0, .sl 1 (enc intC l) none .no), (1, .v (.int .i64 lo)), (2, .v (.int .i64 hi)), (7, .v (.int .i64 j))], [], h, []⟩) (fun j => j ≤ l.length ∧ ∀ x ∈ l.take j, betB lo hi x = true) (fun j => l.length - j) 0 (by simp) ?_ ?_
    · simp [Leq, hh]
    · rintro j ⟨hj, hp⟩
      by_cases hlt : j < l.length
      · have hw : IntKind.i64.wrap ((j : Int) + 1) = (j : Int) + 1 := wrap64 (by omega) (by omega)
        by_cases h1 : l[j] < lo
        · have e := all_no (p := betB lo hi) hlt (by simp [betB, h1])
          simp [hlt, intC, h1, hh, e]
        · by_cases h2 : hi < l[j]
          · have e := all_no (p := betB lo hi) hlt (by simp [betB, h2])
            simp [hlt, intC, h1, h2, hh, e]
          · simp [hlt, intC, h1, h2, hw]
            refine ⟨j + 1, ⟨by omega, take_all hlt hp (by simp [betB, h1, h2])⟩, by omega, ?_⟩
            simp [Leq, hh]
      · have : j = l.length := by omega
        subst this
        have e : l.all (betB lo hi) = true := by rw [List.take_length] at hp; exact List.all_eq_true.2 hp
        simp [hh, e]
theorem rvalues_c (l : List Cl) (h : List (List AV)) : Contract Try.prog 59 [.sl 2 (enc cellC l) none .no] h (.v (.bool (decide (l.length ≤ 65535) && l.all cellB))) h [] := by
  refine contract_of k59 mixed (by simp [c59]) fun hh hargs => ?_
  by_cases hl : (65535 : Int) < l.length
  · have hl' : ¬ l.length ≤ 65535 := by omega
    simp [c59, hl, hl', hh]
  · have hl' : l.length ≤ 65535 := by omega
    simp [c59, hl, hl']
    refine xloop_ok (D := Nat) (fun j => ⟨[(0, .sl 2 (enc cellC l) none .no), (3, .v (.int .i64 j))], [], h, []⟩) (fun j => j ≤ l.length ∧ ∀ x ∈ l.take j, cellB x = true) (fun j => l.length - j) 0 (by simp) ?_ ?_
    · simp [Leq, hh]
    · rintro j ⟨hj, hp⟩
      by_cases hlt : j < l.length
      · have hw : IntKind.i64.wrap ((j : Int) + 1) = (j : Int) + 1 := wrap64 (by omega) (by omega)
        obtain ⟨n, b, hx⟩ : ∃ n b, l[j] = (n, b) := ⟨_, _, rfl⟩
        by_cases h1 : (1048576 : Int) < b.length
        · have h3 : ¬ b.length ≤ 1048576 := by omega
          have e := all_no (p := cellB) hlt (by rw [hx]; simp [cellB, h3])
          cases n
          · simp [hlt, hx, cellC_mk, h1, hh, e]
          · have h2 : 0 < b.length := by omega
            simp [hlt, hx, cellC_mk, h1, h2, hh, e]
        · have h1' : b.length ≤ 1048576 := by omega
          cases n
          · simp [hlt, hx, cellC_mk, h1, hw]
            refine ⟨j + 1, ⟨by omega, ⟨fun b => take_all hlt hp (by rw [hx]; simp [cellB, h1']) (_, b), fun b => take_all hlt hp (by rw [hx]; simp [cellB, h1']) (_, b)⟩⟩, by omega, ?_⟩
            simp [Leq, hh]
          · by_cases h2 : 0 < b.length
            · have e := all_no (p := cellB) hlt (by rw [hx]; simp [cellB, h2])
              simp [hlt, hx, cellC_mk, h1, h2, hh, e]
            · simp [hlt, hx, cellC_mk, h1, h2, hw]
              refine ⟨j + 1, ⟨by omega, ⟨fun b => take_all hlt hp (by rw [hx]; simp [cellB, h1', h2]) (_, b), fun b => take_all hlt hp (by rw [hx]; simp [cellB, h1', h2]) (_, b)⟩⟩, by omega, ?_⟩
              simp [Leq, hh]
      · have : j = l.length := by omega
        subst this
        have e : l.all cellB = true := by rw [List.take_length] at hp; exact List.all_eq_true.2 hp
        simp [hh, e]
theorem rsame_c (a b : Fm) (ha : FmFit a) (h : List (List AV)) : Contract Try.prog 60 [.agg (fmC a), .agg (fmC b)] h (.v (.bool (sameF a b))) h [] := by
  obtain ⟨q1, q2, q3, q4, _⟩ := ha
  refine contract_of k60 mixed (by simp [c60]) fun hh hargs => ?_
  have one : sameF a b = ((a.kind == b.kind && (a.what == b.what && (a.name == b.name && (a.portal == b.portal && (a.text == b.text && a.max == b.max))))) && (a.oids == b.oids && (a.formats == b.formats && (a.results == b.results && a.params == b.params)))) := by
    simp only [sameF, Bool.and_assoc]
  rw [one]
  cases p1 : a.kind == b.kind with
  | false => simp [c60, hh, p1]
  | true =>
  cases p2 : a.what == b.what with
  | false => simp [c60, hh, p1, p2]
  | true =>
  cases p3 : a.name == b.name with
  | false => simp [c60, hh, p1, p2, p3]
  | true =>
  cases p4 : a.portal == b.portal with
  | false => simp [c60, hh, p1, p2, p3, p4]
  | true =>
  cases p5 : a.text == b.text with
  | false => simp [c60, hh, p1, p2, p3, p4, p5]
  | true =>
  cases p6 : a.max == b.max with
  | false => simp [c60, hh, p1, p2, p3, p4, p5, p6]
  | true =>
  simp [c60, p1, p2, p3, p4, p5, p6]
  refine xcall_self (by simp) (rints_c _ _ q1 _) ?_
  cases p7 : a.oids == b.oids with
  | false => simp [hh]
  | true =>
  simp
  refine xcall_self (by simp) (rints_c _ _ q2 _) ?_
  cases p8 : a.formats == b.formats with
  | false => simp [hh]
  | true =>
  simp
  refine xcall_self (by simp) (rints_c _ _ q3 _) ?_
  cases p9 : a.results == b.results with
  | false => simp [hh]
  | true =>
  simp
  refine xcall_self (by simp) (rcells_c _ _ q4 _) ?_
  simp [hh]
theorem rkept_c (m : Fm) (h : List (List AV)) : Contract Try.prog 61 [.agg (fmC m)] h (.agg (fmC (saidF m))) h [] := by
  refine contract_of k61 mixed (by simp [c61]) fun hh hargs => ?_
  by_cases h80 : m.kind = 80
  · simp [c61, fmC_mk, hh, saidF, h80]
  by_cases h66 : m.kind = 66
  · simp [c61, fmC_mk, hh, saidF, h66]
  by_cases h67 : m.kind = 67
  · by_cases hw : m.what = 83 <;> simp [c61, fmC_mk, hh, saidF, h67, hw]
  by_cases h68 : m.kind = 68
  · by_cases hw : m.what = 83 <;> simp [c61, fmC_mk, hh, saidF, h68, hw]
  by_cases h69 : m.kind = 69
  · simp [c61, fmC_mk, hh, saidF, h69]
  by_cases h81 : m.kind = 81
  · simp [c61, fmC_mk, hh, saidF, h81]
  simp [c61, fmC_mk, hh, saidF, h80, h66, h67, h68, h69, h81]
/-- Whether that one speaks of something, as the document says it. -/
def rwhatB (m : Fm) : Bool := if m.kind = 67 ∨ m.kind = 68 then m.what == 83 || m.what == 80 else m.what == 0 || (m.what == 83 || m.what == 80)
def rlistsB (m : Fm) : Bool := (decide (m.oids.length ≤ 65535) && m.oids.all (betB 0 4294967295)) && ((decide (m.formats.length ≤ 65535) && m.formats.all (betB 0 65535)) && ((decide (m.results.length ≤ 65535) && m.results.all (betB 0 65535)) && (decide (m.params.length ≤ 65535) && m.params.all cellB)))
def rcheckF (m : Fm) : Int :=
  if ¬ knownI m.kind = 1 then 9
  else if cleanF m && (rlistsB m && (rwhatB m && (betB (-2147483648) 2147483647 m.max && sameF m (saidF m)))) then 0 else 1
theorem rcheck_c (m : Fm) (hf : FmFit m) (h : List (List AV)) : Contract Try.prog 51 [.agg (fmC m)] h (.v (.int .i64 (rcheckF m))) h [] := by
  refine contract_cut (XCode.cuts [false, false, true, true, true, true] c51.code) k51 rfl mixed (by simp [c51]) fun hh hargs => ?_
  have hf' := fmfit_said hf
  have hf0 := hf
  obtain ⟨q1, q2, q3, q4, q5, q6, q7, q8⟩ := hf
  simp [c51]
  refine xcall_self (by simp) (rknown_c _ _) ?_
  by_cases hk : knownI m.kind = 1
  · simp [hk]
    refine xseq_cut ⟨[(1, .box h.length 0), (2, .v (.int .i64 0)), (3, .v (.bool (cleanF m)))], [], h ++ [fmC m], []⟩ ?_ ?_
    · simp
      refine xcall_self (by simp) (rclean_c _ (by unfold maxLen; omega) _) ?_
      cases p1 : cleanB m.name with
      | false => simp [Leq, hh, cleanF, p1]
      | true =>
      simp
      refine xcall_self (by simp) (rclean_c _ (by unfold maxLen; omega) _) ?_
      cases p2 : cleanB m.portal with
      | false => simp [Leq, hh, cleanF, p1, p2]
      | true =>
      simp
      refine xcall_self (by simp) (rclean_c _ (by unfold maxLen; omega) _) ?_
      simp [Leq, hh, cleanF, p1, p2]
    refine xseq_cut ⟨[(1, .box h.length 0), (2, .v (.int .i64 0)), (3, .v (.bool (cleanF m))), (4, .v (.bool (rlistsB m)))], [], h ++ [fmC m], []⟩ ?_ ?_
    · unfold rlistsB
      simp
      refine xcall_self (by simp) (rbetween_c _ _ _ _) ?_
      cases p1 : (decide (m.oids.length ≤ 65535) && m.oids.all (betB 0 4294967295)) with
      | false => simp [Leq, hh]
      | true =>
      simp
      refine xcall_self (by simp) (rbetween_c _ _ _ _) ?_
      cases p2 : (decide (m.formats.length ≤ 65535) && m.formats.all (betB 0 65535)) with
      | false => simp [Leq, hh]
      | true =>
      simp
      refine xcall_self (by simp) (rbetween_c _ _ _ _) ?_
      cases p3 : (decide (m.results.length ≤ 65535) && m.results.all (betB 0 65535)) with
      | false => simp [Leq, hh]
      | true =>
      simp
      refine xcall_self (by simp) (rvalues_c _ _) ?_
      simp [Leq, hh]
    refine xseq_cut ⟨[(1, .box h.length 0), (2, .v (.int .i64 0)), (3, .v (.bool (cleanF m))), (4, .v (.bool (rlistsB m))), (5, .v (.bool (m.what == 0 || (m.what == 83 || m.what == 80))))], [], h ++ [fmC m], []⟩ ?_ ?_
    · cases p0 : m.what == 0 with
      | true => simp [Leq, hh, p0]
      | false =>
      cases p1 : m.what == 83 <;> simp [Leq, hh, p0, p1]
    refine xseq_cut ⟨[(1, .box h.length 0), (2, .v (.int .i64 0)), (3, .v (.bool (cleanF m))), (4, .v (.bool (rlistsB m))), (5, .v (.bool (rwhatB m)))], [], h ++ [fmC m], []⟩ ?_ ?_
    · by_cases p67 : m.kind = 67
      · have e : rwhatB m = (m.what == 83 || m.what == 80) := by simp [rwhatB, p67]
        cases p1 : m.what == 83 <;> simp [Leq, hh, p67, p1, e]
      · by_cases p68 : m.kind = 68
        · have e : rwhatB m = (m.what == 83 || m.what == 80) := by simp [rwhatB, p68]
          cases p1 : m.what == 83 <;> simp [Leq, hh, p68, p1, e]
        · have e : rwhatB m = (m.what == 0 || (m.what == 83 || m.what == 80)) := by simp [rwhatB, p67, p68]
          simp [Leq, hh, p67, p68, e]
    have e : rcheckF m = if cleanF m && (rlistsB m && (rwhatB m && (betB (-2147483648) 2147483647 m.max && sameF m (saidF m)))) then 0 else 1 := by unfold rcheckF; rw [if_neg (by simp [hk])]
    rw [e]
    cases p1 : cleanF m with
    | false => simp [hh]
    | true =>
    cases p2 : rlistsB m with
    | false => simp [hh]
    | true =>
    cases p3 : rwhatB m with
    | false => simp [hh]
    | true =>
    by_cases p4 : m.max < -2147483648
    · simp [hh, p4, betB]
    by_cases p5 : 2147483647 < m.max
    · simp [hh, p4, p5, betB]
    simp [p4, p5, betB]
    refine xcall_self (by simp) (rkept_c m _) ?_
    simp
    refine xcall_self (by simp) (rsame_c m (saidF m) hf0 _) ?_
    cases p5 : sameF m (saidF m) <;> simp [hh]
  · simp [hk, hh, rcheckF]
end Go.Proofs.Ytdfocmmajngelaa.Ax
