/- Rows by number, over values without memory; what a row is described by, and its tag. -/
import Derived.Test.YtmdapcmdlblnnaaDoorQAxXr
import Derived.Test.YtmdapcmdlblnnaaDoorRows
import Derived.Test.YtmdapcmdlblnnaaDoorQAxDg
import Derived.Test.YtmdapcmdlblnnaaDoorQAxSv
/- The texts of functions over values without memory, as the kernel reckons them out of the program. -/
namespace Go.Proofs.YtmdapcmdlblnnaaDoor.Ax
open Go.RowKit Go By

def c27 : XFun := ⟨5, (.seq (.ops [⟨(some 2), (.assign (.const (.slice none 0 0))), none⟩]) (.seq (.ops [⟨(some 3), (.move (.tmp 0)), none⟩, ⟨(some 4), (.call 39 [(.tmp 3), (.func 40)]), none⟩, ⟨(some 2), (.assign (.tmp 4)), none⟩]) .ret)), [(.move (.tmp 2))]⟩
theorem k27 : cfun Tryd.prog 27 = some c27 := by kernel_rfl
def c39 : XFun := ⟨22, (.seq (.ops [⟨(some 4), (.assign (.const (.slice none 0 0))), none⟩]) (.seq (.ops [⟨(some 5), (.assign (.const (.slice none 0 0))), none⟩]) (.seq (.seq (.ops [⟨(some 7), (.move (.tmp 0)), none⟩, ⟨(some 8), (.maxI [(.tmp 7), (.const (.int .i64 0))]), none⟩, ⟨(some 9), (.minI [(.tmp 8), (.const (.int .i64 1000))]), none⟩, ⟨(some 10), (.move (.const (.int .i64 0))), none⟩]) (.block 0 (.loop (.seq (.ops [⟨(some 11), (.bin .lss (.tmp 10) (.tmp 9)), none⟩]) (.seq (.cond (.tmp 11) .skip (.exit 0)) (.seq (.block 1 (.seq (.ops [⟨(some 12), (.move (.tmp 10)), none⟩, ⟨(some 6), (.assign (.tmp 12)), none⟩]) (.ops [⟨(some 13), (.move (.tmp 5)), none⟩, ⟨(some 14), (.move (.tmp 1)), none⟩, ⟨(some 15), (.move (.tmp 6)), none⟩, ⟨(some 16), (.bin .add (.tmp 15) (.const (.int .i64 1))), none⟩, ⟨(some 17), (.callv (.tmp 14) [(.tmp 16)]), none⟩, ⟨(some 18), (.buildSlice 1 1 [(.sl 0 [] (some true) .exact)] [(0, (.tmp 17))]), none⟩, ⟨(some 19), (.append 1 24 (.tmp 13) (.tmp 18)), none⟩, ⟨(some 5), (.assign (.tmp 19)), none⟩]))) (.ops [⟨(some 20), (.bin .add (.tmp 10) (.const (.int .i64 1))), none⟩, ⟨(some 10), (.move (.tmp 20)), none⟩]))))))) (.seq (.ops [⟨(some 21), (.move (.tmp 5)), none⟩, ⟨(some 4), (.assign (.tmp 21)), none⟩]) .ret)))), [(.move (.tmp 4))]⟩
theorem k39 : cfun Tryd.prog 39 = some c39 := by kernel_rfl
def c40 : XFun := ⟨8, (.seq (.ops [⟨(some 2), (.assign (.const (.slice none 0 0))), none⟩]) (.seq (.ops [⟨(some 3), (.move (.tmp 0)), none⟩, ⟨(some 4), (.call 29 [(.tmp 3)]), none⟩, ⟨(some 5), (.s2b (.tmp 4)), none⟩, ⟨(some 6), (.build [(.v (.bool false)), (.sl 0 [] (some true) .exact)] [(1, (1, (.tmp 5)))]), none⟩, ⟨(some 7), (.buildSlice 2 1 [(.v (.bool false)), (.sl 0 [] (some true) .exact)] [(0, (.tmp 6))]), none⟩, ⟨(some 2), (.assign (.tmp 7)), none⟩]) .ret)), [(.move (.tmp 2))]⟩
theorem k40 : cfun Tryd.prog 40 = some c40 := by kernel_rfl
def c44 : XFun := ⟨6, (.seq (.ops [⟨(some 2), (.assign (.const (.int .i64 0))), none⟩]) (.seq (.ops [⟨(some 3), (.move (.tmp 0)), none⟩, ⟨(some 4), (.maxI [(.tmp 3), (.const (.int .i64 0))]), none⟩, ⟨(some 5), (.minI [(.tmp 4), (.const (.int .i64 1000))]), none⟩, ⟨(some 2), (.assign (.tmp 5)), none⟩]) .ret)), [(.move (.tmp 2))]⟩
theorem k44 : cfun Tryd.prog 44 = some c44 := by kernel_rfl
def c30 : XFun := ⟨20, (.seq (.ops [⟨(some 2), (.assign (.const (.slice none 0 0))), none⟩]) (.seq (.ops [⟨(some 3), (.assign (.const (.slice none 0 0))), none⟩]) (.seq (.seq (.ops [⟨(some 4), (.assign (.const (.int .i64 1))), none⟩]) (.block 0 (.loop (.seq (.seq (.ops [⟨(some 5), (.move (.tmp 4)), none⟩, ⟨(some 6), (.move (.tmp 0)), none⟩, ⟨(some 7), (.call 44 [(.tmp 6)]), none⟩, ⟨(some 8), (.bin .leq (.tmp 5) (.tmp 7)), none⟩]) (.cond (.tmp 8) .skip (.exit 0))) (.seq (.block 1 (.ops [⟨(some 11), (.move (.tmp 3)), none⟩, ⟨(some 12), (.move (.tmp 4)), none⟩, ⟨(some 13), (.call 31 [(.tmp 12)]), none⟩, ⟨(some 14), (.s2b (.tmp 13)), none⟩, ⟨(some 15), (.build [(.v (.bool false)), (.sl 0 [] (some true) .exact)] [(1, (1, (.tmp 14)))]), none⟩, ⟨(some 16), (.buildSlice 2 1 [(.v (.bool false)), (.sl 0 [] (some true) .exact)] [(0, (.tmp 15))]), none⟩, ⟨(some 17), (.buildSlice 1 1 [(.sl 0 [] (some true) .exact)] [(0, (.tmp 16))]), none⟩, ⟨(some 18), (.append 1 24 (.tmp 11) (.tmp 17)), none⟩, ⟨(some 3), (.assign (.tmp 18)), none⟩])) (.ops [⟨(some 9), (.move (.tmp 4)), none⟩, ⟨(some 10), (.bin .add (.tmp 9) (.const (.int .i64 1))), none⟩, ⟨(some 4), (.assign (.tmp 10)), none⟩])))))) (.seq (.ops [⟨(some 19), (.move (.tmp 3)), none⟩, ⟨(some 2), (.assign (.tmp 19)), none⟩]) .ret)))), [(.move (.tmp 2))]⟩
theorem k30 : cfun Tryd.prog 30 = some c30 := by kernel_rfl
end Go.Proofs.YtmdapcmdlblnnaaDoor.Ax
/- Columns by number, over values without memory. -/
namespace Go.Proofs.YtmdapcmdlblnnaaDoor.Ax
open Go.RowKit Go By YtmdapcmdlblnnaaDoor.Nm Sc Dg
set_option linter.unusedSimpArgs false
set_option linter.unusedVariables false
set_option maxRecDepth 10000

def heldI (n : Int) : Int := if n < 0 then 0 else if 1000 < n then 1000 else n
theorem heldI_eq (n : Int) : minZ (maxZ n [0]) [1000] = heldI n := by
  unfold minZ maxZ heldI
  simp only [List.foldl_cons, List.foldl_nil]
  repeat' split
  all_goals omega
theorem heldI_range (n : Int) : 0 ≤ heldI n ∧ heldI n ≤ 1000 := by unfold heldI; repeat' split
                                                                   all_goals omega
theorem kheld_c (n : Int) (h : List (List AV)) : Contract Tryd.prog 44 [.v (.int .i64 n)] h (.v (.int .i64 (heldI n))) h [] := by
  have e := heldI_eq n
  refine contract_of k44 mixed (by simp [c44]) fun hh hargs => ?_
  simp [c44, e, hh]
end Go.Proofs.YtmdapcmdlblnnaaDoor.Ax
namespace Go.Proofs.YtmdapcmdlblnnaaDoor.Ax
open Go.RowKit Go By YtmdapcmdlblnnaaDoor.Nm Sc Dg
set_option linter.unusedSimpArgs false
set_option linter.unusedVariables false
set_option maxRecDepth 10000

def rowK (i : Int) : List Cl := [(false, Dg.textL i)]
def rowsK (k : Nat) : List (List Cl) := (List.range k).map fun (j : Nat) => rowK ((j : Int) + 1)
/-- A row, as an element. -/
def rowKC (r : List Cl) : List AV := [.sl 2 (enc cellC r) none .no]
theorem rowKC_mk (r : List Cl) : rowKC r = [.sl 2 (enc cellC r) none .no] := rfl
theorem rowsK_succ (j : Nat) : rowsK (j + 1) = rowsK j ++ [rowK ((j : Int) + 1)] := by unfold rowsK; rw [List.range_succ, List.map_append]; rfl
theorem rowsK_len (j : Nat) : (rowsK j).length = j := by unfold rowsK; simp
@[simp] theorem rowKC_lt (n : Nat) (r : List Cl) : ltL n (rowKC r) := ⟨ltLL_of fun e he => by
  unfold enc at he
  obtain ⟨x, _, rfl⟩ := List.mem_map.1 he
  exact ⟨trivial, ltLL_bytes n _, trivial⟩, trivial⟩
@[simp] theorem rowKC_ltLL (n : Nat) (l : List (List Cl)) : ltLL n (enc rowKC l) := ltLL_of fun e he => by
  unfold enc at he
  obtain ⟨x, _, rfl⟩ := List.mem_map.1 he
  exact rowKC_lt n x
theorem krow_c (n : Int) (h1 : -9223372036854775808 ≤ n) (h2 : n ≤ 9223372036854775807) (h : List (List AV)) : Contract Tryd.prog 40 [.v (.int .i64 n)] h (.sl 2 (enc cellC (rowK n)) none .no) h [] := by
  have hl := dtext_len n h1 h2
  refine contract_of k40 mixed (by simp [c40]) fun hh hargs => ?_
  simp [c40]
  refine xcall_self (by simp) (dtext_c n h1 h2 _) ?_
  simp [hh, rowK, cellC]
  omega
theorem knumR_c (n : Int) (h : List (List AV)) : Contract Tryd.prog 39 [.v (.int .i64 n), .fn (.func 40) [] []] h (.sl 1 (enc rowKC (rowsK (heldI n).toNat)) none .no) h [] := by
  obtain ⟨hk0, hk1⟩ := heldI_range n
  have e := heldI_eq n
  obtain ⟨k, hk⟩ : ∃ k : Nat, heldI n = k := ⟨(heldI n).toNat, by omega⟩
  refine contract_of k39 mixed (by simp [c39]) fun hh hargs => ?_
  rw [hk, Int.toNat_natCast]
  rw [hk] at e
  simp [c39, e]
  refine xloop_ok (D := Nat) (fun j => ⟨[(1, .fn (.func 40) [] []), (9, .v (.int .i64 k)), (10, .v (.int .i64 j))], [(5, .sl 1 (enc rowKC (rowsK j)) none (.own (.slot 5)))], h, []⟩) (fun j => j ≤ k) (fun j => k - j) 0 (by simp) ?_ ?_
  · simp [Leq, hh, rowsK]
  · intro j hj
    by_cases hlt : j < k
    · have hw : IntKind.i64.wrap ((j : Int) + 1) = (j : Int) + 1 := wrap64 (by omega) (by omega)
      have hlen := rowsK_len j
      simp [hlt, hw]
      refine xcall_self (by simp) (krow_c _ (by omega) (by omega) _) ?_
      simp [hw, hlen]
      refine ⟨by omega, by omega, j + 1, by omega, by omega, ?_⟩
      simp [Leq, hh, rowsK_succ, rowKC_mk]
    · have : j = k := by omega
      subst this
      simp [hh]
theorem krows_c (n : Int) (h : List (List AV)) : Contract Tryd.prog 27 [.v (.int .i64 n)] h (.sl 1 (enc rowKC (rowsK (heldI n).toNat)) none .no) h [] := by
  refine contract_of k27 mixed (by simp [c27]) fun hh hargs => ?_
  simp [c27]
  refine xcall_self (by simp) (knumR_c n _) ?_
  simp [hh]
theorem rkrows_c (n : Int) (h : List (List AV)) : Contract Tryd.prog 30 [.v (.int .i64 n)] h (.sl 1 (enc rowKC (rowsK (heldI n).toNat)) none .no) h [] := by
  obtain ⟨hk0, hk1⟩ := heldI_range n
  obtain ⟨k, hk⟩ : ∃ k : Nat, heldI n = k := ⟨(heldI n).toNat, by omega⟩
  refine contract_of k30 mixed (by simp [c30]) fun hh hargs => ?_
  rw [hk, Int.toNat_natCast]
  simp [c30]
  refine xloop_ok (D := Nat) (fun j => ⟨[(0, .v (.int .i64 n)), (4, .v (.int .i64 ((j : Int) + 1)))], [(3, .sl 1 (enc rowKC (rowsK j)) none (.own (.slot 3)))], h, []⟩) (fun j => j ≤ k) (fun j => k - j) 0 (by simp) ?_ ?_
  · simp [Leq, hh, rowsK]
  · intro j hj
    simp
    refine xcall_self (by simp) (kheld_c n _) ?_
    rw [hk]
    by_cases hlt : j < k
    · have hw : IntKind.i64.wrap ((j : Int) + 1 + 1) = ((j + 1 : Nat) : Int) + 1 := by rw [wrap64 (by omega) (by omega)]; omega
      have hlen := rowsK_len j
      have hle : (j : Int) + 1 ≤ k := by omega
      have hl := dtext_len ((j : Int) + 1) (by omega) (by omega)
      simp [hle]
      refine xcall_self (by simp) (drtext_c _ (by omega) (by omega) _) ?_
      simp [hw, hlen]
      refine ⟨by omega, by omega, by omega, j + 1, by omega, by omega, ?_⟩
      simp [Leq, hh, rowsK_succ, rowKC_mk, rowK, cellC]
    · have hle : ¬ (j : Int) + 1 ≤ k := by omega
      have : j = k := by omega
      subst this
      simp [hle, hh]
end Go.Proofs.YtmdapcmdlblnnaaDoor.Ax
