import Derived.Test.YtknohkmpficjgaaGreatDoorQAxXr
import Derived.Test.YtknohkmpficjgaaGreatDoorRows
import Derived.Test.YtknohkmpficjgaaGreatDoorQAxKc0
import Derived.Test.YtknohkmpficjgaaGreatDoorQAxIb
set_option linter.unusedSimpArgs false
set_option linter.unusedVariables false
namespace Go.Proofs.YtknohkmpficjgaaGreatDoor.Ax
open Go.RowKit Go By
def c69 : XFun := ⟨8, (.seq (.ops [⟨(some 4), (.assign (.const (.bool false))), none⟩]) (.seq (.ops [⟨(some 5), (.move (.tmp 0)), none⟩, ⟨(some 6), (.move (.tmp 1)), none⟩, ⟨(some 7), (.call 118 [(.tmp 5), (.tmp 6), (.func 119)]), none⟩, ⟨(some 4), (.assign (.tmp 7)), none⟩]) .ret)), [(.move (.tmp 4))]⟩
theorem k69 : cfun Tryz.prog 69 = some c69 := by kernel_rfl
def c141 : XFun := ⟨24, (.seq (.ops [⟨(some 2), (.assign (.const (.slice none 0 0))), none⟩]) (.seq (.ops [⟨(some 5), (.move (.tmp 0)), none⟩, ⟨(some 6), (.call 197 [(.tmp 5)]), none⟩, ⟨(some 3), (.assign (.tmp 6)), none⟩]) (.seq (.seq (.ops [⟨(some 7), (.move (.tmp 3)), none⟩, ⟨(some 8), (.lenL (.tmp 7)), none⟩, ⟨(some 9), (.move (.const (.int .i64 0))), none⟩]) (.block 0 (.loop (.seq (.ops [⟨(some 10), (.bin .lss (.tmp 9) (.tmp 8)), none⟩]) (.seq (.cond (.tmp 10) .skip (.exit 0)) (.seq (.block 1 (.seq (.ops [⟨(some 11), (.move (.tmp 9)), none⟩, ⟨(some 4), (.assign (.tmp 11)), none⟩]) (.ops [⟨(some 12), (.move (.tmp 3)), none⟩, ⟨(some 13), (.move (.tmp 4)), none⟩, ⟨(some 14), (.move (.tmp 3)), none⟩, ⟨(some 15), (.move (.tmp 4)), none⟩, ⟨(some 16), (.iaddr 2 (.tmp 14) (.tmp 15)), none⟩, ⟨(some 17), (.faddr 1 (.tmp 16)), none⟩, ⟨(some 18), (.load1 (.tmp 17)), none⟩, ⟨(some 19), (.call 198 [(.tmp 18)]), none⟩, ⟨(some 20), (.iaddr 2 (.tmp 12) (.tmp 13)), none⟩, ⟨(some 21), (.faddr 1 (.tmp 20)), none⟩, ⟨none, (.store 1 (.tmp 21) (.tmp 19)), none⟩]))) (.ops [⟨(some 22), (.bin .add (.tmp 9) (.const (.int .i64 1))), none⟩, ⟨(some 9), (.move (.tmp 22)), none⟩]))))))) (.seq (.ops [⟨(some 23), (.move (.tmp 3)), none⟩, ⟨(some 2), (.assign (.tmp 23)), none⟩]) .ret)))), [(.move (.tmp 2))]⟩
theorem k141 : cfun Tryz.prog 141 = some c141 := by kernel_rfl
end Go.Proofs.YtknohkmpficjgaaGreatDoor.Ax
namespace Go.Proofs.YtknohkmpficjgaaGreatDoor.Ax
open Go.RowKit Go By Sc Dg
set_option maxRecDepth 10000
theorem copyCells_c (l : List Cl) (hl : l.length <= 4398046511104) (hb : ∀ c ∈ l, c.2.length <= 140737488351232) (h : List (List AV)) : Contract Tryz.prog 141 [.sl 2 (enc cellC l) none .no] h (.sl 2 (enc cellC l) none .no) h [] := by
 by_cases hne : l = []
 ·subst hne
  refine contract_of k141 mixed (by simp [c141]) fun hh hargs => ?_
  simp [c141]
  refine xcall_self (by simp) (clone_cell0_c _) ?_
  simp
  refine xloop_ok (D := Nat) (fun _ => ⟨[(3, .sl 2 [] none .no), (8, .v (.int .i64 0)), (9, .v (.int .i64 0))], [], h, []⟩) (fun _ => True) (fun _ => 0) 0 trivial ?_ ?_
  ·simp [Leq, hh]
  ·intro _ _
   simp [hh]
 refine contract_cut (XCode.cuts [false, false, true] c141.code) k141 rfl mixed (by simp [c141]) fun hh hargs => ?_
 have hlen := flat_len2 (c := cellC) (k := 2) (fun _ => rfl) l
 have hfz : frzOk (enc cellC l).flatten := by
  cases l with
  | nil => exact absurd rfl hne
  | cons x r => exact trivial
 simp [c141]
 refine xcall_self (by simp) (clone_cell_c l hne (by omega) _) ?_
 simp
 have hz := frz_all (c := cellC) (k := 2) (fun _ => rfl) l h.length l.length rfl
 have hget := flat_getb l
 have hF := fun n => flat_ltB n l
 generalize (enc cellC l).flatten = F at *
 refine xseq_frz h.length F ⟨[(3, .sl 2 (enc cellC l) none .no)], [], h, []⟩ (Nat.le_refl _) hfz ?_ ?_
 ·simp
  refine xloop_ok (D := Nat) (fun j => ⟨[(3, .bsl h.length 0 2 l.length), (8, .v (.int .i64 l.length)), (9, .v (.int .i64 j))], [], h ++ [F], []⟩) (fun j => j <= l.length) (fun j => l.length - j) 0 (by simp) ?_ ?_
  ·simp [Leq, hh, hF]
  ·intro j hj
   by_cases hlt : j < l.length
   ·have hw : IntKind.i64.wrap ((j : Int) + 1) = (j : Int) + 1 := wrap64 (by omega) (by omega)
    have hg := hget j hlt
    have hfit : j * 2 + 1 + 1 <= F.length := by omega
    have hbl := hb _ (List.getElem_mem hlt)
    generalize l[j] = c at *
    simp [hlt, hg]
    refine xcall_self (by simp) (clone_by_c c.2 (by omega) _) ?_
    have hfit2 : j * 2 + 1 < F.length := by omega
    simp [hlt, hg, hw, hfit, hfit2]
    refine ⟨j + 1, by omega, by omega, ?_⟩
    have hq := leqH_front (a := [F.set (j * 2 + 1) (.sl 1 (bytesE c.2) none (.own (.cell h.length (j * 2 + 1))))]) (b := [F]) h 0 ⟨.inr (leqC_put F 0 (j * 2 + 1) _ _ hg (by simp [LeqV])), trivial⟩
    simp [Leq, hh, hF] at hq ⊢
    exact hq
   ·have : j = l.length := by omega
    subst this
    simp [Leq, hh, hz]
 ·simp [hh]
end Go.Proofs.YtknohkmpficjgaaGreatDoor.Ax
