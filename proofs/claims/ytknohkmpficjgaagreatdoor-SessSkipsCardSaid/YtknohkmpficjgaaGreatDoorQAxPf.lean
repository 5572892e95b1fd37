import Derived.Test.YtknohkmpficjgaaGreatDoorQAxIb
import Derived.Test.YtknohkmpficjgaaGreatDoorQAxKc0
import Derived.Test.YtknohkmpficjgaaGreatDoorQAxRo
import Derived.Test.YtknohkmpficjgaaGreatDoorQAxGc
import Derived.Test.YtknohkmpficjgaaGreatDoorQAxFr
import Derived.Test.YtknohkmpficjgaaGreatDoorQCodeA
set_option linter.unusedSimpArgs false
set_option linter.unusedVariables false
namespace Go.Proofs.YtknohkmpficjgaaGreatDoor.Ax
open Go.RowKit Go By
set_option maxRecDepth 10000
end Go.Proofs.YtknohkmpficjgaaGreatDoor.Ax
namespace Go.Proofs.YtknohkmpficjgaaGreatDoor.Ax
open Go.RowKit Go By YtknohkmpficjgaaGreatDoor.Nm Sc Dg
set_option maxRecDepth 10000
def betB (lo hi z : Int) : Bool := !decide (z < lo) && !decide (hi < z)
theorem take_all {α : Type} {p : α -> Bool} {xs : List α} {j : Nat} (hj : j < xs.length) (h1 : ∀ x ∈ xs.take j, p x = true) (h2 : p xs[j] = true) : ∀ x ∈ xs.take (j + 1), p x = true := by
 rw [take_next hj]
 intro x hx
 rcases List.mem_append.1 hx with h | h
 ·exact h1 x h
 ·simp at h; subst h; exact h2
def rwhatB (m : Fm) : Bool := if m.kind = 67 \/ m.kind = 68 then m.what == 83 || m.what == 80 else m.what == 0 || (m.what == 83 || m.what == 80)
def rlistsB (m : Fm) : Bool := (decide (m.oids.length <= 65535) && m.oids.all (betB 0 4294967295)) && ((decide (m.formats.length <= 65535) && m.formats.all (betB 0 65535)) && ((decide (m.results.length <= 65535) && m.results.all (betB 0 65535)) && (decide (m.params.length <= 65535) && m.params.all cellB)))
def rcheckF (m : Fm) : Int :=
 if ¬ knownI m.kind = 1 then 9
 else if cleanF m && (rlistsB m && (rwhatB m && (betB (-2147483648) 2147483647 m.max && sameF m (saidF m)))) then 0 else 1
def manyF (m : Fm) : Bool := decide (50 < (m.oids.length : Int)) || (decide (50 < (m.formats.length : Int)) || (decide (50 < (m.results.length : Int)) || decide (50 < (m.params.length : Int))))
def longC (c : Cl) : Bool := decide (300 < (c.2.length : Int))
def plainF (m : Fm) : Bool := !manyF m && (!m.params.any longC && (decide ((m.name.length : Int) <= 300) && (decide ((m.portal.length : Int) <= 300) && decide ((m.text.length : Int) <= 1000))))
theorem plain1_c (c : Cl) (h : List (List AV)) : Contract Tryz.prog 36 [.agg (cellC c)] h (.v (.bool (longC c))) h [] := by
 refine contract_of k36 mixed (by simp [c36]) fun hh hargs => ?_
 simp [c36, hh, longC]
theorem plain_c (m : Fm) (h : List (List AV)) : Contract Tryz.prog 17 [.agg (fmC m)] h (.v (.bool (plainF m))) h [] := by
 refine contract_cut (XCode.cuts [false, true] c17.code) k17 rfl mixed (by simp [c17]) fun hh hargs => ?_
 have plain_no : manyF m = true -> plainF m = false := fun h => by unfold plainF; rw [h]; rfl
 have many_of : ∀ b, b = manyF m -> b = true -> plainF m = false := fun b h1 h2 => plain_no (h1 ▸ h2)
 simp [c17]
 by_cases hm : manyF m = true
 ·rw [plain_no hm]
  refine xmark ?_
  unfold manyF at hm
  by_cases h1 : 50 < (m.oids.length : Int)
  ·simp [h1, hh]
  by_cases h2 : 50 < (m.formats.length : Int)
  ·simp [h1, h2, hh]
  by_cases h3 : 50 < (m.results.length : Int)
  ·simp [h1, h2, h3, hh]
  by_cases h4 : 50 < (m.params.length : Int)
  ·simp [h1, h2, h3, h4, hh]
  simp [h1, h2, h3, h4] at hm
 ·have hm' : manyF m = false := by simpa using hm
  have hp : plainF m = (!m.params.any longC && (decide ((m.name.length : Int) <= 300) && (decide ((m.portal.length : Int) <= 300) && decide ((m.text.length : Int) <= 1000)))) := by unfold plainF; rw [hm']; rfl
  rw [hp]
  unfold manyF at hm'
  simp only [Bool.or_eq_false_iff, decide_eq_false_iff_not] at hm'
  obtain ⟨h1, h2, h3, h4⟩ := hm'
  refine xseq_cut ⟨[(1, .box h.length 0)], [], h ++ [fmC m], []⟩ ?_ ?_
  ·simp [h1, h2, h3, h4, Leq, hh]
  ·simp
   refine xcall_self (by simp) (containsN_any mixed k35 k71 cellC longC m.params [] _ (by simp) (by simp) (by simp) (fun c hm => plain1_c c _) (by omega)) ?_
   cases p1 : m.params.any longC with
   | true => simp [hh]
   | false =>
   simp
   by_cases p2 : (m.name.length : Int) <= 300
   ·by_cases p3 : (m.portal.length : Int) <= 300
    ·simp [p2, p3, hh]
    ·simp [p2, p3, hh]
   ·simp [p2, hh]
end Go.Proofs.YtknohkmpficjgaaGreatDoor.Ax
