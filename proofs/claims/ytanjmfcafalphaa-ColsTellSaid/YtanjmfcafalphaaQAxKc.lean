/- A row of cells as a message, over values without memory. -/
import Derived.Test.YtanjmfcafalphaaQAxXr
import Derived.Test.YtanjmfcafalphaaRows
import Derived.Test.YtanjmfcafalphaaQAxKc0
import Derived.Test.YtanjmfcafalphaaQAxIb
import Derived.Test.YtanjmfcafalphaaQAxKb
/- The texts of functions over values without memory, as the kernel reckons them out of the program. -/
namespace Go.Proofs.Ytanjmfcafalphaa.Ax
open Go.RowKit Go By

def c29 : XFun := ⟨6, (.seq (.ops [⟨(some 2), (.assign (.const (.bool false))), none⟩]) (.seq (.ops [⟨(some 3), (.move (.tmp 0)), none⟩, ⟨(some 4), (.call 45 [(.tmp 3), (.func 46)]), none⟩, ⟨(some 5), (.un .not (.tmp 4)), none⟩, ⟨(some 2), (.assign (.tmp 5)), none⟩]) .ret)), [(.move (.tmp 2))]⟩
theorem k29 : cfun Try.prog 29 = some c29 := by kernel_rfl
def c58 : XFun := ⟨9, (.seq (.ops [⟨(some 2), (.box (.tmp 0)), none⟩, ⟨(some 4), (.assign (.const (.bool false))), none⟩]) (.seq (.ops [⟨(some 5), (.move (.tmp 1)), none⟩, ⟨(some 6), (.mkfn (.func 69) [] [(.tmp 2)]), none⟩, ⟨(some 7), (.call 48 [(.tmp 5), (.tmp 6)]), none⟩, ⟨(some 8), (.un .not (.tmp 7)), none⟩, ⟨(some 4), (.assign (.tmp 8)), none⟩]) .ret)), [(.move (.tmp 4))]⟩
theorem k58 : cfun Try.prog 58 = some c58 := by kernel_rfl
def c53 : XFun := ⟨8, (.seq (.ops [⟨(some 4), (.assign (.const (.bool false))), none⟩]) (.seq (.ops [⟨(some 5), (.move (.tmp 0)), none⟩, ⟨(some 6), (.move (.tmp 1)), none⟩, ⟨(some 7), (.call 65 [(.tmp 5), (.tmp 6), (.func 66)]), none⟩, ⟨(some 4), (.assign (.tmp 7)), none⟩]) .ret)), [(.move (.tmp 4))]⟩
theorem k53 : cfun Try.prog 53 = some c53 := by kernel_rfl
def c30 : XFun := ⟨9, (.seq (.ops [⟨(some 2), (.box (.tmp 0)), none⟩, ⟨(some 4), (.assign (.const (.bool false))), none⟩]) (.seq (.ops [⟨(some 5), (.move (.tmp 1)), none⟩, ⟨(some 6), (.mkfn (.func 49) [] [(.tmp 2)]), none⟩, ⟨(some 7), (.call 48 [(.tmp 5), (.tmp 6)]), none⟩, ⟨(some 8), (.un .not (.tmp 7)), none⟩, ⟨(some 4), (.assign (.tmp 8)), none⟩]) .ret)), [(.move (.tmp 4))]⟩
theorem k30 : cfun Try.prog 30 = some c30 := by kernel_rfl
def c38 : XFun := ⟨6, (.seq (.ops [⟨(some 2), (.assign (.const (.bool false))), none⟩]) (.seq (.ops [⟨(some 3), (.move (.tmp 0)), none⟩, ⟨(some 4), (.call 55 [(.tmp 3), (.func 56)]), none⟩, ⟨(some 5), (.un .not (.tmp 4)), none⟩, ⟨(some 2), (.assign (.tmp 5)), none⟩]) .ret)), [(.move (.tmp 2))]⟩
theorem k38 : cfun Try.prog 38 = some c38 := by kernel_rfl
def c46 : XFun := ⟨6, (.seq (.ops [⟨(some 2), (.assign (.const (.bool false))), none⟩]) (.seq (.ops [⟨(some 3), (.move (.tmp 0)), none⟩, ⟨(some 4), (.call 47 [(.tmp 3)]), none⟩, ⟨(some 5), (.un .not (.tmp 4)), none⟩, ⟨(some 2), (.assign (.tmp 5)), none⟩]) .ret)), [(.move (.tmp 2))]⟩
theorem k46 : cfun Try.prog 46 = some c46 := by kernel_rfl
def c69 : XFun := ⟨15, (.seq (.ops [⟨(some 3), (.assign (.const (.bool false))), none⟩]) (.seq (.ops [⟨(some 4), (.move (.tmp 0)), none⟩, ⟨(some 5), (.load1 (.tmp 1)), none⟩, ⟨(some 6), (.call 50 [(.tmp 4), (.tmp 5)]), none⟩, ⟨(some 7), (.un .not (.tmp 6)), none⟩, ⟨(some 8), (.move (.tmp 7)), none⟩, ⟨(some 9), (.move (.tmp 0)), (some (8, false))⟩, ⟨(some 10), (.load1 (.tmp 1)), (some (8, false))⟩, ⟨(some 11), (.call 70 [(.tmp 9), (.tmp 10)]), (some (8, false))⟩, ⟨(some 12), (.move (.tmp 0)), (some (8, false))⟩, ⟨(some 13), (.bin .neq (.tmp 11) (.tmp 12)), (some (8, false))⟩, ⟨(some 14), (.pick (.tmp 8) (.const (.bool true)) (.tmp 13)), none⟩, ⟨(some 3), (.assign (.tmp 14)), none⟩]) .ret)), [(.move (.tmp 3))]⟩
theorem k69 : cfun Try.prog 69 = some c69 := by kernel_rfl
def c66 : XFun := ⟨17, (.seq (.ops [⟨(some 2), (.box (.tmp 0)), none⟩, ⟨(some 3), (.box (.tmp 1)), none⟩, ⟨(some 4), (.assign (.const (.bool false))), none⟩]) (.seq (.ops [⟨(some 5), (.faddr 0 (.tmp 2)), none⟩, ⟨(some 6), (.load1 (.tmp 5)), none⟩, ⟨(some 7), (.faddr 0 (.tmp 3)), none⟩, ⟨(some 8), (.load1 (.tmp 7)), none⟩, ⟨(some 9), (.beq false (.tmp 6) (.tmp 8)), none⟩, ⟨(some 10), (.move (.tmp 9)), none⟩, ⟨(some 11), (.faddr 1 (.tmp 2)), (some (10, true))⟩, ⟨(some 12), (.load1 (.tmp 11)), (some (10, true))⟩, ⟨(some 13), (.faddr 1 (.tmp 3)), (some (10, true))⟩, ⟨(some 14), (.load1 (.tmp 13)), (some (10, true))⟩, ⟨(some 15), (.call 67 [(.tmp 12), (.tmp 14)]), (some (10, true))⟩, ⟨(some 16), (.pick (.tmp 10) (.tmp 15) (.const (.bool false))), none⟩, ⟨(some 4), (.assign (.tmp 16)), none⟩]) .ret)), [(.move (.tmp 4))]⟩
theorem k66 : cfun Try.prog 66 = some c66 := by kernel_rfl
def c49 : XFun := ⟨12, (.seq (.ops [⟨(some 3), (.assign (.const (.bool false))), none⟩]) (.seq (.ops [⟨(some 4), (.move (.tmp 0)), none⟩, ⟨(some 5), (.bin .lss (.tmp 4) (.const (.int .i64 0))), none⟩, ⟨(some 6), (.move (.tmp 5)), none⟩, ⟨(some 7), (.move (.tmp 0)), (some (6, false))⟩, ⟨(some 8), (.load1 (.tmp 1)), (some (6, false))⟩, ⟨(some 9), (.call 50 [(.tmp 7), (.tmp 8)]), (some (6, false))⟩, ⟨(some 10), (.un .not (.tmp 9)), (some (6, false))⟩, ⟨(some 11), (.pick (.tmp 6) (.const (.bool true)) (.tmp 10)), none⟩, ⟨(some 3), (.assign (.tmp 11)), none⟩]) .ret)), [(.move (.tmp 3))]⟩
theorem k49 : cfun Try.prog 49 = some c49 := by kernel_rfl
def c56 : XFun := ⟨17, (.seq (.ops [⟨(some 1), (.box (.tmp 0)), none⟩, ⟨(some 2), (.assign (.const (.bool false))), none⟩]) (.seq (.ops [⟨(some 3), (.faddr 1 (.tmp 1)), none⟩, ⟨(some 4), (.load1 (.tmp 3)), none⟩, ⟨(some 5), (.lenL (.tmp 4)), none⟩, ⟨(some 6), (.bin .gtr (.tmp 5) (.const (.int .i64 1048576))), none⟩, ⟨(some 7), (.move (.tmp 6)), none⟩, ⟨(some 8), (.faddr 0 (.tmp 1)), (some (7, false))⟩, ⟨(some 9), (.load1 (.tmp 8)), (some (7, false))⟩, ⟨(some 10), (.move (.tmp 9)), (some (7, false))⟩, ⟨(some 11), (.faddr 1 (.tmp 1)), (some (10, true))⟩, ⟨(some 12), (.load1 (.tmp 11)), (some (10, true))⟩, ⟨(some 13), (.lenL (.tmp 12)), (some (10, true))⟩, ⟨(some 14), (.bin .gtr (.tmp 13) (.const (.int .i64 0))), (some (10, true))⟩, ⟨(some 15), (.pick (.tmp 10) (.tmp 14) (.const (.bool false))), (some (7, false))⟩, ⟨(some 16), (.pick (.tmp 7) (.const (.bool true)) (.tmp 15)), none⟩, ⟨(some 2), (.assign (.tmp 16)), none⟩]) .ret)), [(.move (.tmp 2))]⟩
theorem k56 : cfun Try.prog 56 = some c56 := by kernel_rfl
def c24 : XFun := ⟨24, (.seq (.ops [⟨(some 2), (.assign (.const (.slice none 0 0))), none⟩]) (.seq (.ops [⟨(some 5), (.move (.tmp 0)), none⟩, ⟨(some 6), (.call 34 [(.tmp 5)]), none⟩, ⟨(some 3), (.assign (.tmp 6)), none⟩]) (.seq (.seq (.ops [⟨(some 7), (.move (.tmp 3)), none⟩, ⟨(some 8), (.lenL (.tmp 7)), none⟩, ⟨(some 9), (.move (.const (.int .i64 0))), none⟩]) (.block 0 (.loop (.seq (.ops [⟨(some 10), (.bin .lss (.tmp 9) (.tmp 8)), none⟩]) (.seq (.cond (.tmp 10) .skip (.exit 0)) (.seq (.block 1 (.seq (.ops [⟨(some 11), (.move (.tmp 9)), none⟩, ⟨(some 4), (.assign (.tmp 11)), none⟩]) (.ops [⟨(some 12), (.move (.tmp 3)), none⟩, ⟨(some 13), (.move (.tmp 4)), none⟩, ⟨(some 14), (.move (.tmp 3)), none⟩, ⟨(some 15), (.move (.tmp 4)), none⟩, ⟨(some 16), (.iaddr 2 (.tmp 14) (.tmp 15)), none⟩, ⟨(some 17), (.faddr 1 (.tmp 16)), none⟩, ⟨(some 18), (.load1 (.tmp 17)), none⟩, ⟨(some 19), (.call 35 [(.tmp 18)]), none⟩, ⟨(some 20), (.iaddr 2 (.tmp 12) (.tmp 13)), none⟩, ⟨(some 21), (.faddr 1 (.tmp 20)), none⟩, ⟨none, (.store 1 (.tmp 21) (.tmp 19)), none⟩]))) (.ops [⟨(some 22), (.bin .add (.tmp 9) (.const (.int .i64 1))), none⟩, ⟨(some 9), (.move (.tmp 22)), none⟩]))))))) (.seq (.ops [⟨(some 23), (.move (.tmp 3)), none⟩, ⟨(some 2), (.assign (.tmp 23)), none⟩]) .ret)))), [(.move (.tmp 2))]⟩
theorem k24 : cfun Try.prog 24 = some c24 := by kernel_rfl
end Go.Proofs.Ytanjmfcafalphaa.Ax
/- A row of cells, with bytes of its own. -/
namespace Go.Proofs.Ytanjmfcafalphaa.Ax
open Go.RowKit Go By Sc Dg
set_option linter.unusedSimpArgs false
set_option linter.unusedVariables false
set_option maxRecDepth 10000
theorem copyCells_c (l : List Cl) (hl : l.length ≤ 1000000) (hb : ∀ c ∈ l, c.2.length ≤ 140737488351232) (h : List (List AV)) : Contract Try.prog 24 [.sl 2 (enc cellC l) none .no] h (.sl 2 (enc cellC l) none .no) h [] := by
  by_cases hne : l = []
  · subst hne
    refine contract_of k24 mixed (by simp [c24]) fun hh hargs => ?_
    simp [c24]
    refine xcall_self (by simp) (clone_cell0_c _) ?_
    simp
    refine xloop_ok (D := Nat) (fun _ => ⟨[(3, .sl 2 [] none .no), (8, .v (.int .i64 0)), (9, .v (.int .i64 0))], [], h, []⟩) (fun _ => True) (fun _ => 0) 0 trivial ?_ ?_
    · simp [Leq, hh]
    · intro _ _
      simp [hh]
  refine contract_cut (XCode.cuts [false, false, true] c24.code) k24 rfl mixed (by simp [c24]) fun hh hargs => ?_
  have hlen := flat_len2 (c := cellC) (k := 2) (fun _ => rfl) l
  have hfz : frzOk (enc cellC l).flatten := by
    cases l with
    | nil => exact absurd rfl hne
    | cons x r => exact trivial
  simp [c24]
  refine xcall_self (by simp) (clone_cell_c l hne (by omega) _) ?_
  simp
  have hz := frz_all (c := cellC) (k := 2) (fun _ => rfl) l h.length l.length rfl
  have hget := flat_getb l
  have hF := fun n => flat_ltB n l
  generalize (enc cellC l).flatten = F at *
  refine xseq_frz h.length F ⟨[(3, .sl 2 (enc cellC l) none .no)], [], h, []⟩ (Nat.le_refl _) hfz ?_ ?_
  · simp
    refine xloop_ok (D := Nat) (fun j => ⟨[(3, .bsl h.length 0 2 l.length), (8, .v (.int .i64 l.length)), (9, .v (.int .i64 j))], [], h ++ [F], []⟩) (fun j => j ≤ l.length) (fun j => l.length - j) 0 (by simp) ?_ ?_
    · simp [Leq, hh, hF]
    · intro j hj
      by_cases hlt : j < l.length
      · have hw : IntKind.i64.wrap ((j : Int) + 1) = (j : Int) + 1 := wrap64 (by omega) (by omega)
        have hg := hget j hlt
        have hfit : j * 2 + 1 + 1 ≤ F.length := by omega
        have hbl := hb _ (List.getElem_mem hlt)
        generalize l[j] = c at *
        simp [hlt, hg]
        refine xcall_self (by simp) (clone_by_c c.2 (by omega) _) ?_
        have hfit2 : j * 2 + 1 < F.length := by omega
        simp [hlt, hg, hw, hfit, hfit2]
        refine ⟨j + 1, by omega, by omega, ?_⟩
        have hq := leqH_front (a := [F.set (j * 2 + 1) (.sl 1 (bytesE c.2) none (.own (.cell h.length (j * 2 + 1))))]) (b := [F]) h 0 ⟨.inr (leqC_put F 0 (j * 2 + 1) _ _ hg (by simp [LeqV])), trivial⟩
        simp [Leq, hh, hF] at hq ⊢
        exact hq
      · have : j = l.length := by omega
        subst this
        simp [Leq, hh, hz]
  · simp [hh]
end Go.Proofs.Ytanjmfcafalphaa.Ax
namespace Go.Proofs.Ytanjmfcafalphaa.Ax
open Go.RowKit Go By Nm Sc Dg
set_option linter.unusedSimpArgs false
set_option linter.unusedVariables false
set_option maxRecDepth 10000

/-- A message's cells when it is new. -/
def zBk : List AV := [.v (.int .u8 0), .v (.int .u8 0), .v (.string (strB [])), .v (.string (strB [])), .v (.string (strB [])), .v (.int .i64 0), .v (.int .i64 0), .sl 0 [] (some true) .exact, .sl 0 [] (some true) .exact, .sl 0 [] (some true) .exact, .sl 0 [] (some true) .exact]
theorem krowm_c (l : List Cl) (hl : l.length ≤ 1000000) (hb : ∀ c ∈ l, c.2.length ≤ 140737488351232) (h : List (List AV)) : Contract Try.prog 13 [.sl 2 (enc cellC l) none .no] h (.agg (bkC ⟨68, 0, [], [], [], 0, 0, [], [], l, []⟩)) h [] := by
  refine contract_of k13 mixed (by simp [c13]) fun hh hargs => ?_
  simp [c13]
  refine xcall_self (by simp) (copyCells_c l hl hb _) ?_
  simp [hh, bkC_mk]
end Go.Proofs.Ytanjmfcafalphaa.Ax
