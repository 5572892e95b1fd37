import Derived.Test.YtknohkmpficjgaaGreatDoorQAxFr
set_option linter.unusedSimpArgs false
set_option linter.unusedVariables false
open List renaming take_length -> Q7, all_eq_true -> Q8
open Nat renaming lt_or_ge -> Q9
namespace Go.Proofs.YtknohkmpficjgaaGreatDoor.Ax
open Go.RowKit Go By
set_option maxRecDepth 10000
theorem sw (xs ys : List Int) (hl : xs.length <= 140737488355328) (h : List (List AV)) : ae Tryz.prog 204 [.sl 1 (al aN xs) none .no, .sl 1 (al aN ys) none .no] h (.v (.bool (xs == ys))) h [] := by
 refine ac Pj mixed (by simp [C4]) fun hh hargs => ?_
 rw [<- gR]
 by_cases hlen : xs.length = ys.length
 ·simp [C4, hlen]
  refine ar (D := Nat) (fun j => ⟨[(0, .sl 1 (al aN xs) none .no), (1, .sl 1 (al aN ys) none .no), (5, .v (.int .i64 j))], [], h, []⟩) (fun j => j <= xs.length /\ ∀ i (h1 : i < xs.length) (h2 : i < ys.length), i < j -> ((· == ·) : Int -> Int -> Bool) xs[i] ys[i] = true) (fun j => xs.length - j) 0 ⟨by omega, fun i h1 h2 h3 => by omega⟩ ?_ ?_
  ·simp [Leq, hh]
  ·rintro j ⟨hj, hp⟩
   by_cases hlt : j < ys.length
   ·have hlt' : j < xs.length := by omega
    have hw : IntKind.i64.wrap ((j : Int) + 1) = (j : Int) + 1 := wrap64 (by omega) (by omega)
    simp [hlt, hlt', aN]
    refine bh (xs[j] != ys[j]) (by simp) (fun ht => ?_) (fun hf' => ?_)
    ·simp at ht
     have : kQ (· == ·) xs ys = false := nJ (i := j) hlt' hlt (by simpa using ht)
     simp [hh, this]
    ·simp at hf'
     simp [hw]
     refine ⟨j + 1, ⟨by omega, fun i h1 h2 h3 => ?_⟩, by omega, ?_⟩
     ·rcases Q9 i j with h4 | h4
      ·simpa using hp i h1 h2 h4
      ·have : i = j := by omega
       subst this; simpa using hf'
     ·simp [Leq, hh]
   ·have hx : kQ (· == ·) xs ys = true := (fD _ xs ys).2 ⟨hlen, fun i h1 h2 => hp i h1 h2 (by omega)⟩
    have hlt' : ¬ j < xs.length := by omega
    simp [hh, hx, hlt, hlt']
 ·have hne : (xs.length : Int) ≠ ys.length := by omega
  have hx : kQ (· == ·) xs ys = false := kR hlen
  simp [C4, hne, hh, hx]
theorem BA (xs ys : List Cl) (hl : xs.length <= 140737488355328) (h : List (List AV)) : ae Tryz.prog 205 [.sl 2 (al aq xs) none .no, .sl 2 (al aq ys) none .no] h (.v (.bool (xs == ys))) h [] := by
 refine ac Pk mixed (by simp [C5]) fun hh hargs => ?_
 rw [<- gR]
 by_cases hlen : xs.length = ys.length
 ·simp [C5, hlen]
  refine ar (D := Nat) (fun j => ⟨[(0, .sl 2 (al aq xs) none .no), (1, .sl 2 (al aq ys) none .no), (5, .v (.int .i64 j))], [], h, []⟩) (fun j => j <= xs.length /\ ∀ i (h1 : i < xs.length) (h2 : i < ys.length), i < j -> ((· == ·) : Cl -> Cl -> Bool) xs[i] ys[i] = true) (fun j => xs.length - j) 0 ⟨by omega, fun i h1 h2 h3 => by omega⟩ ?_ ?_
  ·simp [Leq, hh]
  ·rintro j ⟨hj, hp⟩
   by_cases hlt : j < ys.length
   ·have hlt' : j < xs.length := by omega
    have hw : IntKind.i64.wrap ((j : Int) + 1) = (j : Int) + 1 := wrap64 (by omega) (by omega)
    obtain ⟨n, b, hx⟩ : ∃ n b, xs[j] = (n, b) := ⟨_, _, rfl⟩
    obtain ⟨m, d, hy⟩ : ∃ m d, ys[j] = (m, d) := ⟨_, _, rfl⟩
    have next : xs[j] = ys[j] -> ∀ i (h1 : i < xs.length) (h2 : i < ys.length), i < j + 1 -> ((· == ·) : Cl -> Cl -> Bool) xs[i] ys[i] = true := fun he i h1 h2 h3 => by
     rcases Q9 i j with h4 | h4
     ·exact hp i h1 h2 h4
     ·have : i = j := by omega
      subst this; simp [he]
    have no : xs[j] ≠ ys[j] -> kQ (· == ·) xs ys = false := fun he => nJ (i := j) hlt' hlt (by simpa using he)
    rw [hx, hy] at next no
    cases hnm : n == m with
    | false =>
     have e := no (by rintro he; injection he with h1 h2; simp [h1] at hnm)
     simp [hlt, hlt', hx, hy, ci, hnm, hh, e]
    | true =>
     have hnm' : n = m := by simpa using hnm
     cases hbd : b == d with
     | false =>
      have e := no (by rintro he; injection he with h1 h2; simp [h2] at hbd)
      simp [hlt, hlt', hx, hy, ci, hnm, hbd, hh, e]
     | true =>
      have hbd' : b = d := by simpa using hbd
      have e := next (by rw [hnm', hbd'])
      simp [hlt, hlt', hx, hy, ci, hnm, hbd, hw]
      refine ⟨j + 1, ⟨by omega, fun i h1 h2 h3 => by simpa using e i h1 h2 h3⟩, by omega, ?_⟩
      simp [Leq, hh]
   ·have hx : kQ (· == ·) xs ys = true := (fD _ xs ys).2 ⟨hlen, fun i h1 h2 => hp i h1 h2 (by omega)⟩
    have hlt' : ¬ j < xs.length := by omega
    simp [hh, hx, hlt, hlt']
 ·have hne : (xs.length : Int) ≠ ys.length := by omega
  have hx : kQ (· == ·) xs ys = false := kR hlen
  simp [C5, hne, hh, hx]
end Go.Proofs.YtknohkmpficjgaaGreatDoor.Ax
namespace Go.Proofs.YtknohkmpficjgaaGreatDoor.Ax
open Go.RowKit Go By YtknohkmpficjgaaGreatDoor.Nm Sc Dg
set_option maxRecDepth 10000
def fv (lo hi z : Int) : Bool := !decide (z < lo) && !decide (hi < z)
theorem fl {α : Type} {p : α -> Bool} {xs : List α} {j : Nat} (hj : j < xs.length) (h1 : ∀ x ∈ xs.take j, p x = true) (h2 : p xs[j] = true) : ∀ x ∈ xs.take (j + 1), p x = true := by
 rw [eN hj]
 intro x hx
 rcases List.mem_append.1 hx with h | h
 ·exact h1 x h
 ·simp at h; subst h; exact h2
theorem rD {α : Type} {p : α -> Bool} {xs : List α} {j : Nat} (hj : j < xs.length) (h2 : p xs[j] = false) : xs.all p = false := by
 rw [List.all_eq_false]; exact ⟨_, List.getElem_mem hj, by simp [h2]⟩
theorem ku (l : List Int) (lo hi : Int) (h : List (List AV)) : ae Tryz.prog 170 [.sl 1 (al aN l) none .no, .v (.int .i64 lo), .v (.int .i64 hi)] h (.v (.bool (decide (l.length <= 65535) && l.all (fv lo hi)))) h [] := by
 refine ac O1 mixed (by simp [C1]) fun hh hargs => ?_
 by_cases hl : (65535 : Int) < l.length
 ·have hl' : ¬ l.length <= 65535 := by omega
  simp [C1, hl, hl', hh]
 ·have hl' : l.length <= 65535 := by omega
  simp [C1, hl, hl']
  refine ar (D := Nat) (fun j => ⟨[(0, .sl 1 (al aN l) none .no), (1, .v (.int .i64 lo)), (2, .v (.int .i64 hi)), (7, .v (.int .i64 j))], [], h, []⟩) (fun j => j <= l.length /\ ∀ x ∈ l.take j, fv lo hi x = true) (fun j => l.length - j) 0 (by simp) ?_ ?_
  ·simp [Leq, hh]
  ·rintro j ⟨hj, hp⟩
   by_cases hlt : j < l.length
   ·have hw : IntKind.i64.wrap ((j : Int) + 1) = (j : Int) + 1 := wrap64 (by omega) (by omega)
    by_cases h1 : l[j] < lo
    ·have e := rD (p := fv lo hi) hlt (by simp [fv, h1])
     simp [hlt, aN, h1, hh, e]
    ·by_cases h2 : hi < l[j]
     ·have e := rD (p := fv lo hi) hlt (by simp [fv, h2])
      simp [hlt, aN, h1, h2, hh, e]
     ·simp [hlt, aN, h1, h2, hw]
      refine ⟨j + 1, ⟨by omega, fl hlt hp (by simp [fv, h1, h2])⟩, by omega, ?_⟩
      simp [Leq, hh]
   ·have : j = l.length := by omega
    subst this
    have e : l.all (fv lo hi) = true := by rw [Q7] at hp; exact Q8.2 hp
    simp [hh, e]
theorem zt (l : List Cl) (h : List (List AV)) : ae Tryz.prog 171 [.sl 2 (al aq l) none .no] h (.v (.bool (decide (l.length <= 65535) && l.all bE))) h [] := by
 refine ac O2 mixed (by simp [C2]) fun hh hargs => ?_
 by_cases hl : (65535 : Int) < l.length
 ·have hl' : ¬ l.length <= 65535 := by omega
  simp [C2, hl, hl', hh]
 ·have hl' : l.length <= 65535 := by omega
  simp [C2, hl, hl']
  refine ar (D := Nat) (fun j => ⟨[(0, .sl 2 (al aq l) none .no), (3, .v (.int .i64 j))], [], h, []⟩) (fun j => j <= l.length /\ ∀ x ∈ l.take j, bE x = true) (fun j => l.length - j) 0 (by simp) ?_ ?_
  ·simp [Leq, hh]
  ·rintro j ⟨hj, hp⟩
   by_cases hlt : j < l.length
   ·have hw : IntKind.i64.wrap ((j : Int) + 1) = (j : Int) + 1 := wrap64 (by omega) (by omega)
    obtain ⟨n, b, hx⟩ : ∃ n b, l[j] = (n, b) := ⟨_, _, rfl⟩
    by_cases h1 : (1048576 : Int) < b.length
    ·have h3 : ¬ b.length <= 1048576 := by omega
     have e := rD (p := bE) hlt (by rw [hx]; simp [bE, h3])
     cases n
     ·simp [hlt, hx, ci, h1, hh, e]
     ·have h2 : 0 < b.length := by omega
      simp [hlt, hx, ci, h1, h2, hh, e]
    ·have h1' : b.length <= 1048576 := by omega
     cases n
     ·simp [hlt, hx, ci, h1, hw]
      refine ⟨j + 1, ⟨by omega, ⟨fun b => fl hlt hp (by rw [hx]; simp [bE, h1']) (_, b), fun b => fl hlt hp (by rw [hx]; simp [bE, h1']) (_, b)⟩⟩, by omega, ?_⟩
      simp [Leq, hh]
     ·by_cases h2 : 0 < b.length
      ·have e := rD (p := bE) hlt (by rw [hx]; simp [bE, h2])
       simp [hlt, hx, ci, h1, h2, hh, e]
      ·simp [hlt, hx, ci, h1, h2, hw]
       refine ⟨j + 1, ⟨by omega, ⟨fun b => fl hlt hp (by rw [hx]; simp [bE, h1', h2]) (_, b), fun b => fl hlt hp (by rw [hx]; simp [bE, h1', h2]) (_, b)⟩⟩, by omega, ?_⟩
       simp [Leq, hh]
   ·have : j = l.length := by omega
    subst this
    have e : l.all bE = true := by rw [Q7] at hp; exact Q8.2 hp
    simp [hh, e]
theorem D0 (a b : Fm) (ha : nn a) (h : List (List AV)) : ae Tryz.prog 172 [.agg (aG a), .agg (aG b)] h (.v (.bool (rb a b))) h [] := by
 obtain ⟨q1, q2, q3, q4, _⟩ := ha
 refine ac O3 mixed (by simp [rH]) fun hh hargs => ?_
 have one : rb a b = ((a.kind == b.kind && (a.what == b.what && (a.name == b.name && (a.portal == b.portal && (a.text == b.text && a.max == b.max))))) && (a.oids == b.oids && (a.formats == b.formats && (a.results == b.results && a.params == b.params)))) := by
  simp only [rb, Bool.and_assoc]
 rw [one]
 cases p1 : a.kind == b.kind with
 | false => simp [rH, hh, p1]
 | true =>
 cases p2 : a.what == b.what with
 | false => simp [rH, hh, p1, p2]
 | true =>
 cases p3 : a.name == b.name with
 | false => simp [rH, hh, p1, p2, p3]
 | true =>
 cases p4 : a.portal == b.portal with
 | false => simp [rH, hh, p1, p2, p3, p4]
 | true =>
 cases p5 : a.text == b.text with
 | false => simp [rH, hh, p1, p2, p3, p4, p5]
 | true =>
 cases p6 : a.max == b.max with
 | false => simp [rH, hh, p1, p2, p3, p4, p5, p6]
 | true =>
 simp [rH, p1, p2, p3, p4, p5, p6]
 refine aa (by simp) (sw _ _ q1 _) ?_
 cases p7 : a.oids == b.oids with
 | false => simp [hh]
 | true =>
 simp
 refine aa (by simp) (sw _ _ q2 _) ?_
 cases p8 : a.formats == b.formats with
 | false => simp [hh]
 | true =>
 simp
 refine aa (by simp) (sw _ _ q3 _) ?_
 cases p9 : a.results == b.results with
 | false => simp [hh]
 | true =>
 simp
 refine aa (by simp) (BA _ _ q4 _) ?_
 simp [hh]
theorem DX (m : Fm) (h : List (List AV)) : ae Tryz.prog 173 [.agg (aG m)] h (.agg (aG (fQ m))) h [] := by
 refine ac O4 mixed (by simp [rI]) fun hh hargs => ?_
 by_cases h80 : m.kind = 80
 ·simp [rI, aF, hh, fQ, h80]
 by_cases h66 : m.kind = 66
 ·simp [rI, aF, hh, fQ, h66]
 by_cases h67 : m.kind = 67
 ·by_cases hw : m.what = 83 <;> simp [rI, aF, hh, fQ, h67, hw]
 by_cases h68 : m.kind = 68
 ·by_cases hw : m.what = 83 <;> simp [rI, aF, hh, fQ, h68, hw]
 by_cases h69 : m.kind = 69
 ·simp [rI, aF, hh, fQ, h69]
 by_cases h81 : m.kind = 81
 ·simp [rI, aF, hh, fQ, h81]
 simp [rI, aF, hh, fQ, h80, h66, h67, h68, h69, h81]
def gd (m : Fm) : Bool := if m.kind = 67 \/ m.kind = 68 then m.what == 83 || m.what == 80 else m.what == 0 || (m.what == 83 || m.what == 80)
def fO (m : Fm) : Bool := (decide (m.oids.length <= 65535) && m.oids.all (fv 0 4294967295)) && ((decide (m.formats.length <= 65535) && m.formats.all (fv 0 65535)) && ((decide (m.results.length <= 65535) && m.results.all (fv 0 65535)) && (decide (m.params.length <= 65535) && m.params.all bE)))
def bc (m : Fm) : Int :=
 if ¬ bS m.kind = 1 then 9
 else if fZ m && (fO m && (gd m && (fv (-2147483648) 2147483647 m.max && rb m (fQ m)))) then 0 else 1
theorem BB (m : Fm) (hf : nn m) (h : List (List AV)) : ae Tryz.prog 121 [.agg (aG m)] h (.v (.int .i64 (bc m))) h [] := by
 refine bR (XCode.cuts [false, false, true, true, true, true] c121.code) OB rfl mixed (by simp [c121]) fun hh hargs => ?_
 have hf' := vB hf
 have hf0 := hf
 obtain ⟨q1, q2, q3, q4, q5, q6, q7, q8⟩ := hf
 simp [c121]
 refine aa (by simp) (BD _ _) ?_
 by_cases hk : bS m.kind = 1
 ·simp [hk]
  refine gJ ⟨[(1, .box h.length 0), (2, .v (.int .i64 0)), (3, .v (.bool (fZ m)))], [], h ++ [aG m], []⟩ ?_ ?_
  ·simp
   refine aa (by simp) (ot _ (by unfold maxLen; omega) _) ?_
   cases p1 : aA m.name with
   | false => simp [Leq, hh, fZ, p1]
   | true =>
   simp
   refine aa (by simp) (ot _ (by unfold maxLen; omega) _) ?_
   cases p2 : aA m.portal with
   | false => simp [Leq, hh, fZ, p1, p2]
   | true =>
   simp
   refine aa (by simp) (ot _ (by unfold maxLen; omega) _) ?_
   simp [Leq, hh, fZ, p1, p2]
  refine gJ ⟨[(1, .box h.length 0), (2, .v (.int .i64 0)), (3, .v (.bool (fZ m))), (4, .v (.bool (fO m)))], [], h ++ [aG m], []⟩ ?_ ?_
  ·unfold fO
   simp
   refine aa (by simp) (ku _ _ _ _) ?_
   cases p1 : (decide (m.oids.length <= 65535) && m.oids.all (fv 0 4294967295)) with
   | false => simp [Leq, hh]
   | true =>
   simp
   refine aa (by simp) (ku _ _ _ _) ?_
   cases p2 : (decide (m.formats.length <= 65535) && m.formats.all (fv 0 65535)) with
   | false => simp [Leq, hh]
   | true =>
   simp
   refine aa (by simp) (ku _ _ _ _) ?_
   cases p3 : (decide (m.results.length <= 65535) && m.results.all (fv 0 65535)) with
   | false => simp [Leq, hh]
   | true =>
   simp
   refine aa (by simp) (zt _ _) ?_
   simp [Leq, hh]
  refine gJ ⟨[(1, .box h.length 0), (2, .v (.int .i64 0)), (3, .v (.bool (fZ m))), (4, .v (.bool (fO m))), (5, .v (.bool (m.what == 0 || (m.what == 83 || m.what == 80))))], [], h ++ [aG m], []⟩ ?_ ?_
  ·cases p0 : m.what == 0 with
   | true => simp [Leq, hh, p0]
   | false =>
   cases p1 : m.what == 83 <;> simp [Leq, hh, p0, p1]
  refine gJ ⟨[(1, .box h.length 0), (2, .v (.int .i64 0)), (3, .v (.bool (fZ m))), (4, .v (.bool (fO m))), (5, .v (.bool (gd m)))], [], h ++ [aG m], []⟩ ?_ ?_
  ·by_cases p67 : m.kind = 67
   ·have e : gd m = (m.what == 83 || m.what == 80) := by simp [gd, p67]
    cases p1 : m.what == 83 <;> simp [Leq, hh, p67, p1, e]
   ·by_cases p68 : m.kind = 68
    ·have e : gd m = (m.what == 83 || m.what == 80) := by simp [gd, p68]
     cases p1 : m.what == 83 <;> simp [Leq, hh, p68, p1, e]
    ·have e : gd m = (m.what == 0 || (m.what == 83 || m.what == 80)) := by simp [gd, p67, p68]
     simp [Leq, hh, p67, p68, e]
  have e : bc m = if fZ m && (fO m && (gd m && (fv (-2147483648) 2147483647 m.max && rb m (fQ m)))) then 0 else 1 := by unfold bc; rw [if_neg (by simp [hk])]
  rw [e]
  cases p1 : fZ m with
  | false => simp [hh]
  | true =>
  cases p2 : fO m with
  | false => simp [hh]
  | true =>
  cases p3 : gd m with
  | false => simp [hh]
  | true =>
  by_cases p4 : m.max < -2147483648
  ·simp [hh, p4, fv]
  by_cases p5 : 2147483647 < m.max
  ·simp [hh, p4, p5, fv]
  simp [p4, p5, fv]
  refine aa (by simp) (DX m _) ?_
  simp
  refine aa (by simp) (D0 m (fQ m) hf0 _) ?_
  cases p5 : rb m (fQ m) <;> simp [hh]
 ·simp [hk, hh, bc]
def mC (m : Fm) : Bool := decide (50 < (m.oids.length : Int)) || (decide (50 < (m.formats.length : Int)) || (decide (50 < (m.results.length : Int)) || decide (50 < (m.params.length : Int))))
def nX (c : Cl) : Bool := decide (300 < (c.2.length : Int))
def bY (m : Fm) : Bool := !mC m && (!m.params.any nX && (decide ((m.name.length : Int) <= 300) && (decide ((m.portal.length : Int) <= 300) && decide ((m.text.length : Int) <= 1000))))
theorem Br (c : Cl) (h : List (List AV)) : ae Tryz.prog 36 [.agg (aq c)] h (.v (.bool (nX c))) h [] := by
 refine ac QA mixed (by simp [Ny]) fun hh hargs => ?_
 simp [Ny, hh, nX]
theorem sm (m : Fm) (h : List (List AV)) : ae Tryz.prog 17 [.agg (aG m)] h (.v (.bool (bY m))) h [] := by
 refine bR (XCode.cuts [false, true] c17.code) Qo rfl mixed (by simp [c17]) fun hh hargs => ?_
 have plain_no : mC m = true -> bY m = false := fun h => by unfold bY; rw [h]; rfl
 have many_of : ∀ b, b = mC m -> b = true -> bY m = false := fun b h1 h2 => plain_no (h1 ▸ h2)
 simp [c17]
 by_cases hm : mC m = true
 ·rw [plain_no hm]
  refine LH ?_
  unfold mC at hm
  by_cases h1 : 50 < (m.oids.length : Int)
  ·simp [h1, hh]
  by_cases h2 : 50 < (m.formats.length : Int)
  ·simp [h1, h2, hh]
  by_cases h3 : 50 < (m.results.length : Int)
  ·simp [h1, h2, h3, hh]
  by_cases h4 : 50 < (m.params.length : Int)
  ·simp [h1, h2, h3, h4, hh]
  simp [h1, h2, h3, h4] at hm
 ·have hm' : mC m = false := by simpa using hm
  have hp : bY m = (!m.params.any nX && (decide ((m.name.length : Int) <= 300) && (decide ((m.portal.length : Int) <= 300) && decide ((m.text.length : Int) <= 1000)))) := by unfold bY; rw [hm']; rfl
  rw [hp]
  unfold mC at hm'
  simp only [Bool.or_eq_false_iff, decide_eq_false_iff_not] at hm'
  obtain ⟨h1, h2, h3, h4⟩ := hm'
  refine gJ ⟨[(1, .box h.length 0)], [], h ++ [aG m], []⟩ ?_ ?_
  ·simp [h1, h2, h3, h4, Leq, hh]
  ·simp
   refine aa (by simp) (bW mixed PX P1 aq nX m.params [] _ (by simp) (by simp) (by simp) (fun c hm => Br c _) (by omega)) ?_
   cases p1 : m.params.any nX with
   | true => simp [hh]
   | false =>
   simp
   by_cases p2 : (m.name.length : Int) <= 300
   ·by_cases p3 : (m.portal.length : Int) <= 300
    ·simp [p2, p3, hh]
    ·simp [p2, p3, hh]
   ·simp [p2, hh]
end Go.Proofs.YtknohkmpficjgaaGreatDoor.Ax
