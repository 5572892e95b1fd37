/- A row of cells, with bytes of its own. -/
import Derived.Test.YthielckgianmgaaGreatDoorQAxKc0
import Derived.Test.YthielckgianmgaaGreatDoorQAxIb
import Derived.Test.YthielckgianmgaaGreatDoorQAxWo
namespace Go.Proofs.YthielckgianmgaaGreatDoor.Ax
open Go.RowKit Go By Sc Dg
set_option linter.unusedSimpArgs false
set_option linter.unusedVariables false
set_option maxRecDepth 10000
theorem copyCells_c (l : List Cl) (hl : l.length ≤ 1000000) (hb : ∀ c ∈ l, c.2.length ≤ 140737488351232) (h : List (List AV)) : Contract Tryz.prog 55 [.sl 2 (enc cellC l) none .no] h (.sl 2 (enc cellC l) none .no) h [] := by
  by_cases hne : l = []
  · subst hne
    refine contract_of k55 mixed (by simp [c55]) fun hh hargs => ?_
    simp [c55]
    refine xcall_self (by simp) (clone_cell0_c _) ?_
    simp
    refine xloop_ok (D := Nat) (fun _ => ⟨[(3, .sl 2 [] none .no), (8, .v (.int .i64 0)), (9, .v (.int .i64 0))], [], h, []⟩) (fun _ => True) (fun _ => 0) 0 trivial ?_ ?_
    · simp [Leq, hh]
    · intro _ _
      simp [hh]
  refine contract_cut (XCode.cuts [false, false, true] c55.code) k55 rfl mixed (by simp [c55]) fun hh hargs => ?_
  have hlen := flat_len2 (c := cellC) (k := 2) (fun _ => rfl) l
  have hfz : frzOk (enc cellC l).flatten := by
    cases l with
    | nil => exact absurd rfl hne
    | cons x r => exact trivial
  simp [c55]
  refine xcall_self (by simp) (clone_cell_c l hne (by omega) _) ?_
  simp
  have hz := frz_all (c := cellC) (k := 2) (fun _ => rfl) l h.length l.length rfl
  have hget := flat_getb l
  have hF := fun n => flat_ltB n l
  generalize (enc cellC l).flatten = F at *
  refine xseq_frz h.length F ⟨[(3, .sl 2 (enc cellC l) none .no)], [], h, []⟩ (Nat.le_refl _) hfz ?_ ?_
  · simp
    refine xloop_ok (D := Nat) (fun j => ⟨[(3, .bsl h.length 0 2 l.length), (8, .v (.int .i64 l.length)), (9, .v (.int .i64 j))], [], h ++ [F], []⟩) (fun j => j ≤ l.length) (fun j => l.length - j) 0 (by simp) ?_ ?_
    · simp [Leq, hh, hF]
    · intro j hj
      by_cases hlt : j < l.length
      · have hw : IntKind.i64.wrap ((j : Int) + 1) = (j : Int) + 1 := wrap64 (by omega) (by omega)
        have hg := hget j hlt
        have hfit : j * 2 + 1 + 1 ≤ F.length := by omega
        have hbl := hb _ (List.getElem_mem hlt)
        generalize l[j] = c at *
        simp [hlt, hg]
        refine xcall_self (by simp) (clone_by_c c.2 (by omega) _) ?_
        have hfit2 : j * 2 + 1 < F.length := by omega
        simp [hlt, hg, hw, hfit, hfit2]
        refine ⟨j + 1, by omega, by omega, ?_⟩
        have hq := leqH_front (a := [F.set (j * 2 + 1) (.sl 1 (bytesE c.2) none (.own (.cell h.length (j * 2 + 1))))]) (b := [F]) h 0 ⟨.inr (leqC_put F 0 (j * 2 + 1) _ _ hg (by simp [LeqV])), trivial⟩
        simp [Leq, hh, hF] at hq ⊢
        exact hq
      · have : j = l.length := by omega
        subst this
        simp [Leq, hh, hz]
  · simp [hh]
end Go.Proofs.YthielckgianmgaaGreatDoor.Ax
