import Derived.Test.YtdfgljojemmlcaaGreatQAxXr
import Derived.Test.YtdfgljojemmlcaaGreatRows
import Derived.Test.YtdfgljojemmlcaaGreatQAxWo
import Derived.Test.YtdfgljojemmlcaaGreatQCodeF
import Derived.Test.YtdfgljojemmlcaaGreatQCodeA
set_option linter.unusedSimpArgs false
set_option linter.unusedVariables false
set_option linter.ambiguousOpen false
namespace Go.Proofs.YtdfgljojemmlcaaGreat.Ax
open Go.RowKit Go By
def c87 : XFun := ⟨31, (.seq (.ops [⟨(some 6), (.assign (.const (.bool false))), none⟩]) (.seq (.seq (.ops [⟨(some 8), (.move (.tmp 0)), none⟩, ⟨(some 9), (.lenL (.tmp 8)), none⟩, ⟨(some 10), (.bin .gtr (.tmp 9) (.const (.int .i64 65535))), none⟩]) (.cond (.tmp 10) (.seq (.ops [⟨(some 6), (.assign (.const (.bool false))), none⟩]) .ret) .skip)) (.seq (.seq (.ops [⟨(some 7), (.assign (.const (.int .i64 0))), none⟩]) (.block 0 (.loop (.seq (.seq (.ops [⟨(some 11), (.move (.tmp 7)), none⟩, ⟨(some 12), (.move (.tmp 0)), none⟩, ⟨(some 13), (.lenL (.tmp 12)), none⟩, ⟨(some 14), (.bin .lss (.tmp 11) (.tmp 13)), none⟩]) (.cond (.tmp 14) .skip (.exit 0))) (.seq (.block 1 (.seq (.ops [⟨(some 17), (.move (.tmp 0)), none⟩, ⟨(some 18), (.move (.tmp 7)), none⟩, ⟨(some 19), (.iaddr 1 (.tmp 17) (.tmp 18)), none⟩, ⟨(some 20), (.load1 (.tmp 19)), none⟩, ⟨(some 21), (.move (.tmp 1)), none⟩, ⟨(some 22), (.bin .lss (.tmp 20) (.tmp 21)), none⟩, ⟨(some 23), (.move (.tmp 22)), none⟩, ⟨(some 24), (.move (.tmp 0)), (some (23, false))⟩, ⟨(some 25), (.move (.tmp 7)), (some (23, false))⟩, ⟨(some 26), (.iaddr 1 (.tmp 24) (.tmp 25)), (some (23, false))⟩, ⟨(some 27), (.load1 (.tmp 26)), (some (23, false))⟩, ⟨(some 28), (.move (.tmp 2)), (some (23, false))⟩, ⟨(some 29), (.bin .gtr (.tmp 27) (.tmp 28)), (some (23, false))⟩, ⟨(some 30), (.pick (.tmp 23) (.const (.bool true)) (.tmp 29)), none⟩]) (.cond (.tmp 30) (.seq (.ops [⟨(some 6), (.assign (.const (.bool false))), none⟩]) .ret) .skip))) (.ops [⟨(some 15), (.move (.tmp 7)), none⟩, ⟨(some 16), (.bin .add (.tmp 15) (.const (.int .i64 1))), none⟩, ⟨(some 7), (.assign (.tmp 16)), none⟩])))))) (.seq (.ops [⟨(some 6), (.assign (.const (.bool true))), none⟩]) .ret)))), [(.move (.tmp 6))]⟩
theorem k87 : cfun Tryz.prog 87 = some c87 := by kernel_rfl
def c79 : XFun := ⟨26, (.seq (.ops [⟨(some 4), (.assign (.const (.bool false))), none⟩]) (.seq (.seq (.ops [⟨(some 6), (.move (.tmp 0)), none⟩, ⟨(some 7), (.lenL (.tmp 6)), none⟩, ⟨(some 8), (.move (.tmp 1)), none⟩, ⟨(some 9), (.lenL (.tmp 8)), none⟩, ⟨(some 10), (.bin .neq (.tmp 7) (.tmp 9)), none⟩]) (.cond (.tmp 10) (.seq (.ops [⟨(some 4), (.assign (.const (.bool false))), none⟩]) .ret) .skip)) (.seq (.seq (.ops [⟨(some 5), (.assign (.const (.int .i64 0))), none⟩]) (.block 0 (.loop (.seq (.seq (.ops [⟨(some 11), (.move (.tmp 5)), none⟩, ⟨(some 12), (.move (.tmp 0)), none⟩, ⟨(some 13), (.lenL (.tmp 12)), none⟩, ⟨(some 14), (.bin .lss (.tmp 11) (.tmp 13)), none⟩]) (.cond (.tmp 14) .skip (.exit 0))) (.seq (.block 1 (.seq (.draws (.take ⟨(some 17), (.move (.tmp 0)), none⟩ (.take ⟨(some 18), (.move (.tmp 5)), none⟩ (.take ⟨(some 19), (.iaddr 1 (.tmp 17) (.tmp 18)), none⟩ (.take ⟨(some 20), (.load1 (.tmp 19)), none⟩ (.take ⟨(some 21), (.move (.tmp 1)), none⟩ (.take ⟨(some 22), (.move (.tmp 5)), none⟩ (.take ⟨(some 23), (.iaddr 1 (.tmp 21) (.tmp 22)), none⟩ (.take ⟨(some 24), (.load1 (.tmp 23)), none⟩ (.take ⟨(some 25), (.bin .neq (.tmp 20) (.tmp 24)), none⟩ .done)))))))))) (.cond (.tmp 25) (.seq (.ops [⟨(some 4), (.assign (.const (.bool false))), none⟩]) .ret) .skip))) (.ops [⟨(some 15), (.move (.tmp 5)), none⟩, ⟨(some 16), (.bin .add (.tmp 15) (.const (.int .i64 1))), none⟩, ⟨(some 5), (.assign (.tmp 16)), none⟩])))))) (.seq (.ops [⟨(some 4), (.assign (.const (.bool true))), none⟩]) .ret)))), [(.move (.tmp 4))]⟩
theorem k79 : cfun Tryz.prog 79 = some c79 := by kernel_rfl
def c17 : XFun := ⟨44, (.seq (.ops [⟨(some 1), (.box (.tmp 0)), none⟩, ⟨(some 2), (.assign (.const (.bool false))), none⟩]) (.seq (.seq (.ops [⟨(some 3), (.faddr 5 (.tmp 1)), none⟩, ⟨(some 4), (.load1 (.tmp 3)), none⟩, ⟨(some 5), (.lenL (.tmp 4)), none⟩, ⟨(some 6), (.bin .gtr (.tmp 5) (.const (.int .i64 50))), none⟩, ⟨(some 7), (.move (.tmp 6)), none⟩, ⟨(some 8), (.faddr 6 (.tmp 1)), (some (7, false))⟩, ⟨(some 9), (.load1 (.tmp 8)), (some (7, false))⟩, ⟨(some 10), (.lenL (.tmp 9)), (some (7, false))⟩, ⟨(some 11), (.bin .gtr (.tmp 10) (.const (.int .i64 50))), (some (7, false))⟩, ⟨(some 12), (.pick (.tmp 7) (.const (.bool true)) (.tmp 11)), none⟩, ⟨(some 13), (.move (.tmp 12)), none⟩, ⟨(some 14), (.faddr 7 (.tmp 1)), (some (13, false))⟩, ⟨(some 15), (.load1 (.tmp 14)), (some (13, false))⟩, ⟨(some 16), (.lenL (.tmp 15)), (some (13, false))⟩, ⟨(some 17), (.bin .gtr (.tmp 16) (.const (.int .i64 50))), (some (13, false))⟩, ⟨(some 18), (.pick (.tmp 13) (.const (.bool true)) (.tmp 17)), none⟩, ⟨(some 19), (.move (.tmp 18)), none⟩, ⟨(some 20), (.faddr 8 (.tmp 1)), (some (19, false))⟩, ⟨(some 21), (.load1 (.tmp 20)), (some (19, false))⟩, ⟨(some 22), (.lenL (.tmp 21)), (some (19, false))⟩, ⟨(some 23), (.bin .gtr (.tmp 22) (.const (.int .i64 50))), (some (19, false))⟩, ⟨(some 24), (.pick (.tmp 19) (.const (.bool true)) (.tmp 23)), none⟩]) (.cond (.tmp 24) (.seq (.ops [⟨(some 2), (.assign (.const (.bool false))), none⟩]) .ret) .skip)) (.seq (.seq (.ops [⟨(some 25), (.faddr 8 (.tmp 1)), none⟩, ⟨(some 26), (.load1 (.tmp 25)), none⟩, ⟨(some 27), (.call 44 [(.tmp 26), (.func 45)]), none⟩]) (.cond (.tmp 27) (.seq (.ops [⟨(some 2), (.assign (.const (.bool false))), none⟩]) .ret) .skip)) (.seq (.ops [⟨(some 28), (.faddr 2 (.tmp 1)), none⟩, ⟨(some 29), (.load1 (.tmp 28)), none⟩, ⟨(some 30), (.lenS (.tmp 29)), none⟩, ⟨(some 31), (.bin .leq (.tmp 30) (.const (.int .i64 300))), none⟩, ⟨(some 32), (.move (.tmp 31)), none⟩, ⟨(some 33), (.faddr 3 (.tmp 1)), (some (32, true))⟩, ⟨(some 34), (.load1 (.tmp 33)), (some (32, true))⟩, ⟨(some 35), (.lenS (.tmp 34)), (some (32, true))⟩, ⟨(some 36), (.bin .leq (.tmp 35) (.const (.int .i64 300))), (some (32, true))⟩, ⟨(some 37), (.pick (.tmp 32) (.tmp 36) (.const (.bool false))), none⟩, ⟨(some 38), (.move (.tmp 37)), none⟩, ⟨(some 39), (.faddr 4 (.tmp 1)), (some (38, true))⟩, ⟨(some 40), (.load1 (.tmp 39)), (some (38, true))⟩, ⟨(some 41), (.lenS (.tmp 40)), (some (38, true))⟩, ⟨(some 42), (.bin .leq (.tmp 41) (.const (.int .i64 1000))), (some (38, true))⟩, ⟨(some 43), (.pick (.tmp 38) (.tmp 42) (.const (.bool false))), none⟩, ⟨(some 2), (.assign (.tmp 43)), none⟩]) .ret)))), [(.move (.tmp 2))]⟩
theorem k17 : cfun Tryz.prog 17 = some c17 := by kernel_rfl
def c45 : XFun := ⟨7, (.seq (.ops [⟨(some 1), (.box (.tmp 0)), none⟩, ⟨(some 2), (.assign (.const (.bool false))), none⟩]) (.seq (.ops [⟨(some 3), (.faddr 1 (.tmp 1)), none⟩, ⟨(some 4), (.load1 (.tmp 3)), none⟩, ⟨(some 5), (.lenL (.tmp 4)), none⟩, ⟨(some 6), (.bin .gtr (.tmp 5) (.const (.int .i64 300))), none⟩, ⟨(some 2), (.assign (.tmp 6)), none⟩]) .ret)), [(.move (.tmp 2))]⟩
theorem k45 : cfun Tryz.prog 45 = some c45 := by kernel_rfl
end Go.Proofs.YtdfgljojemmlcaaGreat.Ax
namespace Go.Proofs.YtdfgljojemmlcaaGreat.Ax
open Go.RowKit Go By Nm Sc Dg
set_option maxRecDepth 10000
def knownI (k : Int) : Int :=
 if k = 66 \/ k = 67 \/ k = 68 \/ k = 69 \/ k = 72 \/ k = 80 \/ k = 81 \/ k = 83 \/ k = 88 then 1 else if k = 70 \/ k = 99 \/ k = 100 \/ k = 102 \/ k = 112 then 2 else 0
theorem known_c (k : Int) (h : List (List AV)) : Contract Tryz.prog 40 [.v (.int .u8 k)] h (.v (.int .i64 (knownI k))) h [] := by
 refine contract_of k40 mixed (by simp [c40]) fun hh hargs => ?_
 by_cases h66 : k = 66
 ·subst h66; simp [c40, hh, knownI]
 by_cases h67 : k = 67
 ·subst h67; simp [c40, hh, knownI]
 by_cases h68 : k = 68
 ·subst h68; simp [c40, hh, knownI]
 by_cases h69 : k = 69
 ·subst h69; simp [c40, hh, knownI]
 by_cases h72 : k = 72
 ·subst h72; simp [c40, hh, knownI]
 by_cases h80 : k = 80
 ·subst h80; simp [c40, hh, knownI]
 by_cases h81 : k = 81
 ·subst h81; simp [c40, hh, knownI]
 by_cases h83 : k = 83
 ·subst h83; simp [c40, hh, knownI]
 by_cases h88 : k = 88
 ·subst h88; simp [c40, hh, knownI]
 by_cases h70 : k = 70
 ·subst h70; simp [c40, hh, knownI]
 by_cases h99 : k = 99
 ·subst h99; simp [c40, hh, knownI]
 by_cases h100 : k = 100
 ·subst h100; simp [c40, hh, knownI]
 by_cases h102 : k = 102
 ·subst h102; simp [c40, hh, knownI]
 by_cases h112 : k = 112
 ·subst h112; simp [c40, hh, knownI]
 simp [c40, hh, knownI, h66, h67, h68, h69, h72, h80, h81, h83, h88, h70, h99, h100, h102, h112]
def FmFit (m : Fm) : Prop := m.oids.length <= 140737488355328 /\ m.formats.length <= 140737488355328 /\ m.results.length <= 140737488355328 /\ m.params.length <= 140737488355328 /\ (∀ c ∈ m.params, c.2.length <= 140737488355328) /\ m.name.length <= 140737488355328 /\ m.portal.length <= 140737488355328 /\ m.text.length <= 140737488355328
theorem sliceseq_c (l m : List Int) (hl : l.length <= 140737488355328) (h : List (List AV)) : Contract Tryz.prog 167 [.sl 1 (enc intC l) none .no, .sl 1 (enc intC m) none .no] h (.v (.bool (l == m))) h [] := by
 have := equal1_any mixed k167 l m h hl
 rwa [eqL_beq] at this
theorem rints_c (xs ys : List Int) (hl : xs.length <= 140737488355328) (h : List (List AV)) : Contract Tryz.prog 79 [.sl 1 (enc intC xs) none .no, .sl 1 (enc intC ys) none .no] h (.v (.bool (xs == ys))) h [] := by
 refine contract_of k79 mixed (by simp [c79]) fun hh hargs => ?_
 rw [<- eqL_beq]
 by_cases hlen : xs.length = ys.length
 ·simp [c79, hlen]
  refine xloop_ok (D := Nat) (fun j => ⟨[(0, .sl 1 (enc intC xs) none .no), (1, .sl 1 (enc intC ys) none .no), (5, .v (.int .i64 j))], [], h, []⟩) (fun j => j <= xs.length /\ ∀ i (h1 : i < xs.length) (h2 : i < ys.length), i < j -> ((· == ·) : Int -> Int -> Bool) xs[i] ys[i] = true) (fun j => xs.length - j) 0 ⟨by omega, fun i h1 h2 h3 => by omega⟩ ?_ ?_
  ·simp [Leq, hh]
  ·rintro j ⟨hj, hp⟩
   by_cases hlt : j < ys.length
   ·have hlt' : j < xs.length := by omega
    have hw : IntKind.i64.wrap ((j : Int) + 1) = (j : Int) + 1 := wrap64 (by omega) (by omega)
    simp [hlt, hlt', intC]
    refine xwp_cond_of (xs[j] != ys[j]) (by simp) (fun ht => ?_) (fun hf' => ?_)
    ·simp at ht
     have : eqL (· == ·) xs ys = false := eqL_no (i := j) hlt' hlt (by simpa using ht)
     simp [hh, this]
    ·simp at hf'
     simp [hw]
     refine ⟨j + 1, ⟨by omega, fun i h1 h2 h3 => ?_⟩, by omega, ?_⟩
     ·rcases Nat.lt_or_ge i j with h4 | h4
      ·simpa using hp i h1 h2 h4
      ·have : i = j := by omega
       subst this; simpa using hf'
     ·simp [Leq, hh]
   ·have hx : eqL (· == ·) xs ys = true := (eqL_iff _ xs ys).2 ⟨hlen, fun i h1 h2 => hp i h1 h2 (by omega)⟩
    have hlt' : ¬ j < xs.length := by omega
    simp [hh, hx, hlt, hlt']
 ·have hne : (xs.length : Int) ≠ ys.length := by omega
  have hx : eqL (· == ·) xs ys = false := eqL_len hlen
  simp [c79, hne, hh, hx]
def betB (lo hi z : Int) : Bool := !decide (z < lo) && !decide (hi < z)
theorem take_all {α : Type} {p : α -> Bool} {xs : List α} {j : Nat} (hj : j < xs.length) (h1 : ∀ x ∈ xs.take j, p x = true) (h2 : p xs[j] = true) : ∀ x ∈ xs.take (j + 1), p x = true := by
 rw [take_next hj]
 intro x hx
 rcases List.mem_append.1 hx with h | h
 ·exact h1 x h
 ·simp at h; subst h; exact h2
theorem all_no {α : Type} {p : α -> Bool} {xs : List α} {j : Nat} (hj : j < xs.length) (h2 : p xs[j] = false) : xs.all p = false := by
 rw [List.all_eq_false]; exact ⟨_, List.getElem_mem hj, by simp [h2]⟩
theorem rbetween_c (l : List Int) (lo hi : Int) (h : List (List AV)) : Contract Tryz.prog 87 [.sl 1 (enc intC l) none .no, .v (.int .i64 lo), .v (.int .i64 hi)] h (.v (.bool (decide (l.length <= 65535) && l.all (betB lo hi)))) h [] := by
 refine contract_of k87 mixed (by simp [c87]) fun hh hargs => ?_
 by_cases hl : (65535 : Int) < l.length
 ·have hl' : ¬ l.length <= 65535 := by omega
  simp [c87, hl, hl', hh]
 ·have hl' : l.length <= 65535 := by omega
  simp [c87, hl, hl']
  refine xloop_ok (D := Nat) (fun j => ⟨[(0, .sl 1 (enc intC l) none .no), (1, .v (.int .i64 lo)), (2, .v (.int .i64 hi)), (7, .v (.int .i64 j))], [], h, []⟩) (fun j => j <= l.length /\ ∀ x ∈ l.take j, betB lo hi x = true) (fun j => l.length - j) 0 (by simp) ?_ ?_
  ·simp [Leq, hh]
  ·rintro j ⟨hj, hp⟩
   by_cases hlt : j < l.length
   ·have hw : IntKind.i64.wrap ((j : Int) + 1) = (j : Int) + 1 := wrap64 (by omega) (by omega)
    by_cases h1 : l[j] < lo
    ·have e := all_no (p := betB lo hi) hlt (by simp [betB, h1])
     simp [hlt, intC, h1, hh, e]
    ·by_cases h2 : hi < l[j]
     ·have e := all_no (p := betB lo hi) hlt (by simp [betB, h2])
      simp [hlt, intC, h1, h2, hh, e]
     ·simp [hlt, intC, h1, h2, hw]
      refine ⟨j + 1, ⟨by omega, take_all hlt hp (by simp [betB, h1, h2])⟩, by omega, ?_⟩
      simp [Leq, hh]
   ·have : j = l.length := by omega
    subst this
    have e : l.all (betB lo hi) = true := by rw [List.take_length] at hp; exact List.all_eq_true.2 hp
    simp [hh, e]
def manyF (m : Fm) : Bool := decide (50 < (m.oids.length : Int)) || (decide (50 < (m.formats.length : Int)) || (decide (50 < (m.results.length : Int)) || decide (50 < (m.params.length : Int))))
def longC (c : Cl) : Bool := decide (300 < (c.2.length : Int))
def plainF (m : Fm) : Bool := !manyF m && (!m.params.any longC && (decide ((m.name.length : Int) <= 300) && (decide ((m.portal.length : Int) <= 300) && decide ((m.text.length : Int) <= 1000))))
theorem plain1_c (c : Cl) (h : List (List AV)) : Contract Tryz.prog 45 [.agg (cellC c)] h (.v (.bool (longC c))) h [] := by
 refine contract_of k45 mixed (by simp [c45]) fun hh hargs => ?_
 simp [c45, hh, longC]
theorem plain_c (m : Fm) (h : List (List AV)) : Contract Tryz.prog 17 [.agg (fmC m)] h (.v (.bool (plainF m))) h [] := by
 refine contract_cut (XCode.cuts [false, true] c17.code) k17 rfl mixed (by simp [c17]) fun hh hargs => ?_
 have plain_no : manyF m = true -> plainF m = false := fun h => by unfold plainF; rw [h]; rfl
 have many_of : ∀ b, b = manyF m -> b = true -> plainF m = false := fun b h1 h2 => plain_no (h1 ▸ h2)
 simp [c17]
 by_cases hm : manyF m = true
 ·rw [plain_no hm]
  refine xmark ?_
  unfold manyF at hm
  by_cases h1 : 50 < (m.oids.length : Int)
  ·simp [h1, hh]
  by_cases h2 : 50 < (m.formats.length : Int)
  ·simp [h1, h2, hh]
  by_cases h3 : 50 < (m.results.length : Int)
  ·simp [h1, h2, h3, hh]
  by_cases h4 : 50 < (m.params.length : Int)
  ·simp [h1, h2, h3, h4, hh]
  simp [h1, h2, h3, h4] at hm
 ·have hm' : manyF m = false := by simpa using hm
  have hp : plainF m = (!m.params.any longC && (decide ((m.name.length : Int) <= 300) && (decide ((m.portal.length : Int) <= 300) && decide ((m.text.length : Int) <= 1000)))) := by unfold plainF; rw [hm']; rfl
  rw [hp]
  unfold manyF at hm'
  simp only [Bool.or_eq_false_iff, decide_eq_false_iff_not] at hm'
  obtain ⟨h1, h2, h3, h4⟩ := hm'
  refine xseq_cut ⟨[(1, .box h.length 0)], [], h ++ [fmC m], []⟩ ?_ ?_
  ·simp [h1, h2, h3, h4, Leq, hh]
  ·simp
   refine xcall_self (by simp) (containsN_any mixed k44 k82 cellC longC m.params [] _ (by simp) (by simp) (by simp) (fun c hm => plain1_c c _) (by omega)) ?_
   cases p1 : m.params.any longC with
   | true => simp [hh]
   | false =>
   simp
   by_cases p2 : (m.name.length : Int) <= 300
   ·by_cases p3 : (m.portal.length : Int) <= 300
    ·simp [p2, p3, hh]
    ·simp [p2, p3, hh]
   ·simp [p2, hh]
end Go.Proofs.YtdfgljojemmlcaaGreat.Ax
