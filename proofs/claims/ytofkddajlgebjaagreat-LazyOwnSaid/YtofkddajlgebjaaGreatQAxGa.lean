/- What a server says first, over values without memory: greet and its statements. -/
import Derived.Test.YtofkddajlgebjaaGreatQAxXr
import Derived.Test.YtofkddajlgebjaaGreatRows
import Derived.Test.YtofkddajlgebjaaGreatQAxWo
import Derived.Test.YtofkddajlgebjaaGreatQAxSc
import Derived.Test.YtofkddajlgebjaaGreatQAxBy
/- The texts of functions over values without memory, as the kernel reckons them out of the program. -/
namespace Go.Proofs.YtofkddajlgebjaaGreat.Ax
open Go.RowKit Go By

def c23 : XFun := ⟨39, (.seq (.ops [⟨(some 4), (.assign (.const (.slice none 0 0))), none⟩]) (.seq (.ops [⟨(some 10), (.build [(.v (.int .u8 0)), (.v (.int .u8 0)), (.v (.string (strB []))), (.v (.string (strB []))), (.v (.string (strB []))), (.v (.int .i64 0)), (.v (.int .i64 0)), (.sl 0 [] (some true) .exact), (.sl 0 [] (some true) .exact), (.sl 0 [] (some true) .exact), (.sl 0 [] (some true) .exact)] [(0, (1, (.const (.int .u8 82))))]), none⟩, ⟨(some 11), (.buildSlice 11 1 [(.v (.int .u8 0)), (.v (.int .u8 0)), (.v (.string (strB []))), (.v (.string (strB []))), (.v (.string (strB []))), (.v (.int .i64 0)), (.v (.int .i64 0)), (.sl 0 [] (some true) .exact), (.sl 0 [] (some true) .exact), (.sl 0 [] (some true) .exact), (.sl 0 [] (some true) .exact)] [(0, (.tmp 10))]), none⟩, ⟨(some 5), (.assign (.tmp 11)), none⟩]) (.seq (.seq (.ops [⟨(some 12), (.move (.tmp 0)), none⟩, ⟨(some 13), (.lenL (.tmp 12)), none⟩, ⟨(some 14), (.move (.const (.int .i64 0))), none⟩]) (.block 0 (.loop (.seq (.ops [⟨(some 15), (.bin .lss (.tmp 14) (.tmp 13)), none⟩]) (.seq (.cond (.tmp 15) .skip (.exit 0)) (.seq (.block 1 (.seq (.ops [⟨(some 16), (.iaddr 2 (.tmp 12) (.tmp 14)), none⟩, ⟨(some 17), (.loadN 2 (.tmp 16)), none⟩, ⟨(some 7), (.alloc [(.v (.string (strB []))), (.v (.string (strB [])))]), none⟩, ⟨none, (.store 2 (.tmp 7) (.tmp 17)), none⟩]) (.ops [⟨(some 18), (.move (.tmp 5)), none⟩, ⟨(some 19), (.faddr 0 (.tmp 7)), none⟩, ⟨(some 20), (.load1 (.tmp 19)), none⟩, ⟨(some 21), (.faddr 1 (.tmp 7)), none⟩, ⟨(some 22), (.load1 (.tmp 21)), none⟩, ⟨(some 23), (.build [(.v (.int .u8 0)), (.v (.int .u8 0)), (.v (.string (strB []))), (.v (.string (strB []))), (.v (.string (strB []))), (.v (.int .i64 0)), (.v (.int .i64 0)), (.sl 0 [] (some true) .exact), (.sl 0 [] (some true) .exact), (.sl 0 [] (some true) .exact), (.sl 0 [] (some true) .exact)] [(0, (1, (.const (.int .u8 83)))), (3, (1, (.tmp 20))), (4, (1, (.tmp 22)))]), none⟩, ⟨(some 24), (.buildSlice 11 1 [(.v (.int .u8 0)), (.v (.int .u8 0)), (.v (.string (strB []))), (.v (.string (strB []))), (.v (.string (strB []))), (.v (.int .i64 0)), (.v (.int .i64 0)), (.sl 0 [] (some true) .exact), (.sl 0 [] (some true) .exact), (.sl 0 [] (some true) .exact), (.sl 0 [] (some true) .exact)] [(0, (.tmp 23))]), none⟩, ⟨(some 25), (.append 11 168 (.tmp 18) (.tmp 24)), none⟩, ⟨(some 5), (.assign (.tmp 25)), none⟩]))) (.ops [⟨(some 26), (.bin .add (.tmp 14) (.const (.int .i64 1))), none⟩, ⟨(some 14), (.move (.tmp 26)), none⟩]))))))) (.seq (.ops [⟨(some 28), (.move (.tmp 1)), none⟩, ⟨(some 29), (.call 34 [(.tmp 28)]), none⟩, ⟨(some 27), (.move (.tmp 29)), none⟩, ⟨(some 30), (.extract (.tmp 27) 0), none⟩, ⟨(some 31), (.extract (.tmp 27) 1), none⟩, ⟨(some 8), (.assign (.tmp 30)), none⟩, ⟨(some 9), (.assign (.tmp 31)), none⟩]) (.seq (.ops [⟨(some 32), (.move (.tmp 5)), none⟩, ⟨(some 33), (.move (.tmp 8)), none⟩, ⟨(some 34), (.move (.tmp 9)), none⟩, ⟨(some 35), (.build [(.v (.int .u8 0)), (.v (.int .u8 0)), (.v (.string (strB []))), (.v (.string (strB []))), (.v (.string (strB []))), (.v (.int .i64 0)), (.v (.int .i64 0)), (.sl 0 [] (some true) .exact), (.sl 0 [] (some true) .exact), (.sl 0 [] (some true) .exact), (.sl 0 [] (some true) .exact)] [(0, (1, (.const (.int .u8 75)))), (5, (1, (.tmp 33))), (6, (1, (.tmp 34)))]), none⟩, ⟨(some 36), (.build [(.v (.int .u8 0)), (.v (.int .u8 0)), (.v (.string (strB []))), (.v (.string (strB []))), (.v (.string (strB []))), (.v (.int .i64 0)), (.v (.int .i64 0)), (.sl 0 [] (some true) .exact), (.sl 0 [] (some true) .exact), (.sl 0 [] (some true) .exact), (.sl 0 [] (some true) .exact)] [(0, (1, (.const (.int .u8 90)))), (1, (1, (.const (.int .u8 73))))]), none⟩, ⟨(some 37), (.buildSlice 11 2 [(.v (.int .u8 0)), (.v (.int .u8 0)), (.v (.string (strB []))), (.v (.string (strB []))), (.v (.string (strB []))), (.v (.int .i64 0)), (.v (.int .i64 0)), (.sl 0 [] (some true) .exact), (.sl 0 [] (some true) .exact), (.sl 0 [] (some true) .exact), (.sl 0 [] (some true) .exact)] [(0, (.tmp 35)), (1, (.tmp 36))]), none⟩, ⟨(some 38), (.append 11 168 (.tmp 32) (.tmp 37)), none⟩, ⟨(some 4), (.assign (.tmp 38)), none⟩]) .ret))))), [(.move (.tmp 4))]⟩
theorem k23 : cfun Tryz.prog 23 = some c23 := by kernel_rfl
def c34 : XFun := ⟨14, (.seq (.ops [⟨(some 2), (.assign (.const (.int .i64 0))), none⟩, ⟨(some 3), (.assign (.const (.int .i64 0))), none⟩]) (.seq (.ops [⟨(some 5), (.move (.tmp 0)), none⟩, ⟨(some 6), (.maxI [(.tmp 5), (.const (.int .i64 0))]), none⟩, ⟨(some 7), (.minI [(.tmp 6), (.const (.int .i64 1048576))]), none⟩, ⟨(some 8), (.bin .add (.tmp 7) (.const (.int .i64 1))), none⟩, ⟨(some 4), (.assign (.tmp 8)), none⟩]) (.seq (.ops [⟨(some 9), (.move (.tmp 4)), none⟩, ⟨(some 10), (.bin .rem (.tmp 9) (.const (.int .i64 2147483648))), none⟩, ⟨(some 11), (.move (.tmp 4)), none⟩, ⟨(some 12), (.bin .mul (.tmp 11) (.const (.int .i64 7919))), none⟩, ⟨(some 13), (.bin .rem (.tmp 12) (.const (.int .i64 2147483648))), none⟩, ⟨(some 2), (.assign (.tmp 10)), none⟩, ⟨(some 3), (.assign (.tmp 13)), none⟩]) .ret))), [(.move (.tmp 2)), (.move (.tmp 3))]⟩
theorem k34 : cfun Tryz.prog 34 = some c34 := by kernel_rfl
def c13 : XFun := ⟨9, (.seq (.ops [⟨(some 4), (.assign (.const (.slice none 0 0))), none⟩]) (.seq (.ops [⟨(some 5), (.move (.tmp 0)), none⟩, ⟨(some 6), (.move (.tmp 1)), none⟩, ⟨(some 7), (.call 23 [(.tmp 5), (.tmp 6)]), none⟩, ⟨(some 8), (.call 22 [(.tmp 7)]), none⟩, ⟨(some 4), (.assign (.tmp 8)), none⟩]) .ret)), [(.move (.tmp 4))]⟩
theorem k13 : cfun Tryz.prog 13 = some c13 := by kernel_rfl
def c21 : XFun := ⟨43, (.seq (.ops [⟨(some 4), (.assign (.const (.slice none 0 0))), none⟩]) (.seq (.ops [⟨(some 9), (.build [(.v (.int .u8 0)), (.v (.int .u8 0)), (.v (.string (strB []))), (.v (.string (strB []))), (.v (.string (strB []))), (.v (.int .i64 0)), (.v (.int .i64 0)), (.sl 0 [] (some true) .exact), (.sl 0 [] (some true) .exact), (.sl 0 [] (some true) .exact), (.sl 0 [] (some true) .exact)] [(0, (1, (.const (.int .u8 82))))]), none⟩, ⟨(some 10), (.buildSlice 11 1 [(.v (.int .u8 0)), (.v (.int .u8 0)), (.v (.string (strB []))), (.v (.string (strB []))), (.v (.string (strB []))), (.v (.int .i64 0)), (.v (.int .i64 0)), (.sl 0 [] (some true) .exact), (.sl 0 [] (some true) .exact), (.sl 0 [] (some true) .exact), (.sl 0 [] (some true) .exact)] [(0, (.tmp 9))]), none⟩, ⟨(some 5), (.assign (.tmp 10)), none⟩]) (.seq (.seq (.ops [⟨(some 6), (.assign (.const (.int .i64 0))), none⟩]) (.block 0 (.loop (.seq (.seq (.ops [⟨(some 11), (.move (.tmp 6)), none⟩, ⟨(some 12), (.move (.tmp 0)), none⟩, ⟨(some 13), (.lenL (.tmp 12)), none⟩, ⟨(some 14), (.bin .lss (.tmp 11) (.tmp 13)), none⟩]) (.cond (.tmp 14) .skip (.exit 0))) (.seq (.block 1 (.draws (.take ⟨(some 17), (.move (.tmp 5)), none⟩ (.take ⟨(some 18), (.move (.tmp 0)), none⟩ (.take ⟨(some 19), (.move (.tmp 6)), none⟩ (.take ⟨(some 20), (.iaddr 2 (.tmp 18) (.tmp 19)), none⟩ (.take ⟨(some 21), (.faddr 0 (.tmp 20)), none⟩ (.take ⟨(some 22), (.load1 (.tmp 21)), none⟩ (.take ⟨(some 23), (.move (.tmp 0)), none⟩ (.take ⟨(some 24), (.move (.tmp 6)), none⟩ (.take ⟨(some 25), (.iaddr 2 (.tmp 23) (.tmp 24)), none⟩ (.take ⟨(some 26), (.faddr 1 (.tmp 25)), none⟩ (.take ⟨(some 27), (.load1 (.tmp 26)), none⟩ (.take ⟨(some 28), (.build [(.v (.int .u8 0)), (.v (.int .u8 0)), (.v (.string (strB []))), (.v (.string (strB []))), (.v (.string (strB []))), (.v (.int .i64 0)), (.v (.int .i64 0)), (.sl 0 [] (some true) .exact), (.sl 0 [] (some true) .exact), (.sl 0 [] (some true) .exact), (.sl 0 [] (some true) .exact)] [(0, (1, (.const (.int .u8 83)))), (3, (1, (.tmp 22))), (4, (1, (.tmp 27)))]), none⟩ (.only ⟨(some 29), (.buildSlice 11 1 [(.v (.int .u8 0)), (.v (.int .u8 0)), (.v (.string (strB []))), (.v (.string (strB []))), (.v (.string (strB []))), (.v (.int .i64 0)), (.v (.int .i64 0)), (.sl 0 [] (some true) .exact), (.sl 0 [] (some true) .exact), (.sl 0 [] (some true) .exact), (.sl 0 [] (some true) .exact)] [(0, (.tmp 28))]), none⟩ (.only ⟨(some 30), (.append 11 168 (.tmp 17) (.tmp 29)), none⟩ (.take ⟨(some 5), (.assign (.tmp 30)), none⟩ .done))))))))))))))))) (.ops [⟨(some 15), (.move (.tmp 6)), none⟩, ⟨(some 16), (.bin .add (.tmp 15) (.const (.int .i64 1))), none⟩, ⟨(some 6), (.assign (.tmp 16)), none⟩])))))) (.seq (.ops [⟨(some 32), (.move (.tmp 1)), none⟩, ⟨(some 33), (.call 31 [(.tmp 32)]), none⟩, ⟨(some 31), (.move (.tmp 33)), none⟩, ⟨(some 34), (.extract (.tmp 31) 0), none⟩, ⟨(some 35), (.extract (.tmp 31) 1), none⟩, ⟨(some 7), (.assign (.tmp 34)), none⟩, ⟨(some 8), (.assign (.tmp 35)), none⟩]) (.seq (.ops [⟨(some 36), (.move (.tmp 5)), none⟩, ⟨(some 37), (.move (.tmp 7)), none⟩, ⟨(some 38), (.move (.tmp 8)), none⟩, ⟨(some 39), (.build [(.v (.int .u8 0)), (.v (.int .u8 0)), (.v (.string (strB []))), (.v (.string (strB []))), (.v (.string (strB []))), (.v (.int .i64 0)), (.v (.int .i64 0)), (.sl 0 [] (some true) .exact), (.sl 0 [] (some true) .exact), (.sl 0 [] (some true) .exact), (.sl 0 [] (some true) .exact)] [(0, (1, (.const (.int .u8 75)))), (5, (1, (.tmp 37))), (6, (1, (.tmp 38)))]), none⟩, ⟨(some 40), (.build [(.v (.int .u8 0)), (.v (.int .u8 0)), (.v (.string (strB []))), (.v (.string (strB []))), (.v (.string (strB []))), (.v (.int .i64 0)), (.v (.int .i64 0)), (.sl 0 [] (some true) .exact), (.sl 0 [] (some true) .exact), (.sl 0 [] (some true) .exact), (.sl 0 [] (some true) .exact)] [(0, (1, (.const (.int .u8 90)))), (1, (1, (.const (.int .u8 73))))]), none⟩, ⟨(some 41), (.buildSlice 11 2 [(.v (.int .u8 0)), (.v (.int .u8 0)), (.v (.string (strB []))), (.v (.string (strB []))), (.v (.string (strB []))), (.v (.int .i64 0)), (.v (.int .i64 0)), (.sl 0 [] (some true) .exact), (.sl 0 [] (some true) .exact), (.sl 0 [] (some true) .exact), (.sl 0 [] (some true) .exact)] [(0, (.tmp 39)), (1, (.tmp 40))]), none⟩, ⟨(some 42), (.append 11 168 (.tmp 36) (.tmp 41)), none⟩, ⟨(some 4), (.assign (.tmp 42)), none⟩]) .ret))))), [(.move (.tmp 4))]⟩
theorem k21 : cfun Tryz.prog 21 = some c21 := by kernel_rfl
def c31 : XFun := ⟨14, (.seq (.ops [⟨(some 2), (.assign (.const (.int .i64 0))), none⟩, ⟨(some 3), (.assign (.const (.int .i64 0))), none⟩]) (.seq (.ops [⟨(some 4), (.move (.tmp 0)), none⟩, ⟨(some 5), (.maxI [(.tmp 4), (.const (.int .i64 0))]), none⟩, ⟨(some 6), (.minI [(.tmp 5), (.const (.int .i64 1048576))]), none⟩, ⟨(some 0), (.assign (.tmp 6)), none⟩]) (.seq (.ops [⟨(some 7), (.move (.tmp 0)), none⟩, ⟨(some 8), (.bin .add (.tmp 7) (.const (.int .i64 1))), none⟩, ⟨(some 9), (.bin .rem (.tmp 8) (.const (.int .i64 2147483648))), none⟩, ⟨(some 10), (.move (.tmp 0)), none⟩, ⟨(some 11), (.bin .add (.tmp 10) (.const (.int .i64 1))), none⟩, ⟨(some 12), (.bin .mul (.tmp 11) (.const (.int .i64 7919))), none⟩, ⟨(some 13), (.bin .rem (.tmp 12) (.const (.int .i64 2147483648))), none⟩, ⟨(some 2), (.assign (.tmp 9)), none⟩, ⟨(some 3), (.assign (.tmp 13)), none⟩]) .ret))), [(.move (.tmp 2)), (.move (.tmp 3))]⟩
theorem k31 : cfun Tryz.prog 31 = some c31 := by kernel_rfl
def c12 : XFun := ⟨9, (.seq (.ops [⟨(some 4), (.assign (.const (.slice none 0 0))), none⟩]) (.seq (.ops [⟨(some 5), (.move (.tmp 0)), none⟩, ⟨(some 6), (.move (.tmp 1)), none⟩, ⟨(some 7), (.call 21 [(.tmp 5), (.tmp 6)]), none⟩, ⟨(some 8), (.call 20 [(.tmp 7)]), none⟩, ⟨(some 4), (.assign (.tmp 8)), none⟩]) .ret)), [(.move (.tmp 4))]⟩
theorem k12 : cfun Tryz.prog 12 = some c12 := by kernel_rfl
end Go.Proofs.YtofkddajlgebjaaGreat.Ax
/- What a server says first, over values without memory: greet.Keys and greet.Backs. -/
namespace Go.Proofs.YtofkddajlgebjaaGreat.Ax
open Go.RowKit Go By YtofkddajlgebjaaGreat.Nm Dg
set_option linter.unusedSimpArgs false
set_option linter.unusedVariables false
set_option maxRecDepth 10000

def heldG (n : Int) : Int := if n < 0 then 0 else if 1048576 < n then 1048576 else n
theorem heldG_eq (n : Int) : minZ (maxZ n [0]) [1048576] = heldG n := by
  unfold minZ maxZ heldG
  simp only [List.foldl_cons, List.foldl_nil]
  repeat' split
  all_goals omega
theorem heldG_range (n : Int) : 0 ≤ heldG n ∧ heldG n ≤ 1048576 := by
  unfold heldG
  repeat' split
  all_goals omega
def kA (id : Int) : Int := (heldG id + 1).tmod 2147483648
def kB (id : Int) : Int := ((heldG id + 1) * 7919).tmod 2147483648
theorem kA_range (id : Int) : 0 ≤ kA id ∧ kA id < 2147483648 := by
  obtain ⟨h1, h2⟩ := heldG_range id
  unfold kA
  rw [Int.tmod_eq_emod_of_nonneg (by omega)]; omega
theorem kB_range (id : Int) : 0 ≤ kB id ∧ kB id < 2147483648 := by
  obtain ⟨h1, h2⟩ := heldG_range id
  unfold kB
  rw [Int.tmod_eq_emod_of_nonneg (by omega)]; omega
theorem gkeys_c (id : Int) (h : List (List AV)) : Contract Tryz.prog 34 [.v (.int .i64 id)] h (.tup [.v (.int .i64 (kA id)), .v (.int .i64 (kB id))]) h [] := by
  have e := heldG_eq id
  obtain ⟨h1, h2⟩ := heldG_range id
  have w1 : IntKind.i64.wrap (heldG id + 1) = heldG id + 1 := wrap64 (by omega) (by omega)
  have w2 : IntKind.i64.wrap ((heldG id + 1) * 7919) = (heldG id + 1) * 7919 := wrap64 (by omega) (by omega)
  refine contract_of k34 mixed (by simp [c34]) fun hh hargs => ?_
  simp [c34, e, w1, w2, hh, kA, kB]
def rG : Bk := ⟨82, 0, [], [], [], 0, 0, [], [], [], []⟩
def sG (p : Pa) : Bk := ⟨83, 0, [], p.name, p.value, 0, 0, [], [], [], []⟩
def kG (id : Int) : Bk := ⟨75, 0, [], [], [], kA id, kB id, [], [], [], []⟩
def zG : Bk := ⟨90, 73, [], [], [], 0, 0, [], [], [], []⟩
def backsG (l : List Pa) (id : Int) : List Bk := (rG :: l.map sG) ++ [kG id, zG]
def saidP (l : List Pa) (j : Nat) : List Bk := (l.take j).map sG
theorem saidP_zero (l : List Pa) : saidP l 0 = [] := rfl
theorem saidP_succ {l : List Pa} {j : Nat} (hlt : j < l.length) : saidP l (j + 1) = saidP l j ++ [sG l[j]] := by unfold saidP; rw [take_next hlt, List.map_append]; rfl
theorem saidP_len {l : List Pa} {j : Nat} (hj : j ≤ l.length) : (saidP l j).length = j := by unfold saidP; simp; omega
theorem saidP_all (l : List Pa) : saidP l l.length = l.map sG := by unfold saidP; rw [List.take_length]
theorem gbacks_c (l : List Pa) (id : Int) (hl : l.length ≤ 1000000) (h : List (List AV)) : Contract Tryz.prog 23 [.sl 2 (enc paC l) none .no, .v (.int .i64 id)] h (.sl 11 (enc bkC (backsG l id)) none .no) h [] := by
  refine contract_of k23 mixed (by simp [c23]) fun hh hargs => ?_
  simp [c23]
  refine xloop_ok (D := Nat) (fun j => ⟨[(1, .v (.int .i64 id)), (12, .sl 2 (enc paC l) none .no), (13, .v (.int .i64 l.length)), (14, .v (.int .i64 j))], [(5, .sl 11 (enc bkC (rG :: saidP l j)) none (.own (.slot 5)))], h, []⟩) (fun j => j ≤ l.length) (fun j => l.length - j) 0 (by simp) ?_ ?_
  · simp [Leq, hh, bkC_mk, rG, saidP_zero]
  · intro j hj
    by_cases hlt : j < l.length
    · have hw : IntKind.i64.wrap ((j : Int) + 1) = (j : Int) + 1 := wrap64 (by omega) (by omega)
      have hp := saidP_len hj
      simp [hlt, paC_mk, hw, hp]
      refine ⟨by omega, by omega, j + 1, by omega, by omega, ?_⟩
      rw [saidP_succ hlt]
      simp [Leq, hh, bkC_mk, sG]
    · have : j = l.length := by omega
      subst this
      have hp := saidP_all l
      rw [hp]
      simp
      refine xcall_self (by simp) (gkeys_c id _) ?_
      simp [hh]
      refine ⟨by omega, by omega, ?_⟩
      simp [backsG, bkC_mk, kG, zG]
end Go.Proofs.YtofkddajlgebjaaGreat.Ax
namespace Go.Proofs.YtofkddajlgebjaaGreat.Ax
open Go.RowKit Go By YtofkddajlgebjaaGreat.Nm Sc Dg
set_option linter.unusedSimpArgs false
set_option linter.unusedVariables false
set_option maxRecDepth 10000

theorem rgkeys_c (id : Int) (h : List (List AV)) : Contract Tryz.prog 31 [.v (.int .i64 id)] h (.tup [.v (.int .i64 (kA id)), .v (.int .i64 (kB id))]) h [] := by
  have e := heldG_eq id
  obtain ⟨h1, h2⟩ := heldG_range id
  have w1 : IntKind.i64.wrap (heldG id + 1) = heldG id + 1 := wrap64 (by omega) (by omega)
  have w2 : IntKind.i64.wrap ((heldG id + 1) * 7919) = (heldG id + 1) * 7919 := wrap64 (by omega) (by omega)
  refine contract_of k31 mixed (by simp [c31]) fun hh hargs => ?_
  simp [c31, e, w1, w2, hh, kA, kB]
theorem rgbacks_c (l : List Pa) (id : Int) (hl : l.length ≤ 1000000) (h : List (List AV)) : Contract Tryz.prog 21 [.sl 2 (enc paC l) none .no, .v (.int .i64 id)] h (.sl 11 (enc bkC (backsG l id)) none .no) h [] := by
  refine contract_of k21 mixed (by simp [c21]) fun hh hargs => ?_
  simp [c21]
  refine xloop_ok (D := Nat) (fun j => ⟨[(0, .sl 2 (enc paC l) none .no), (1, .v (.int .i64 id)), (6, .v (.int .i64 j))], [(5, .sl 11 (enc bkC (rG :: saidP l j)) none (.own (.slot 5)))], h, []⟩) (fun j => j ≤ l.length) (fun j => l.length - j) 0 (by simp) ?_ ?_
  · simp [Leq, hh, bkC_mk, rG, saidP_zero]
  · intro j hj
    by_cases hlt : j < l.length
    · have hw : IntKind.i64.wrap ((j : Int) + 1) = (j : Int) + 1 := wrap64 (by omega) (by omega)
      have hp := saidP_len hj
      simp [hlt, paC_mk, hw, hp]
      refine ⟨by omega, by omega, j + 1, by omega, by omega, ?_⟩
      rw [saidP_succ hlt]
      simp [Leq, hh, bkC_mk, sG]
    · have : j = l.length := by omega
      subst this
      have hp := saidP_all l
      rw [hp]
      simp
      refine xcall_self (by simp) (rgkeys_c id _) ?_
      simp [hh]
      refine ⟨by omega, by omega, ?_⟩
      simp [backsG, bkC_mk, kG, zG]
/-! ### Their bytes -/
theorem rG_fit : BkFit rG := by unfold BkFit rG; simp
theorem zG_fit : BkFit zG := by unfold BkFit zG; simp
theorem kG_fit (id : Int) : BkFit (kG id) := by unfold BkFit kG; simp
theorem sG_fit (p : Pa) : BkFit (sG p) := by unfold BkFit sG; simp
def shortP (p : Pa) : Prop := p.name.length ≤ 200 ∧ p.value.length ≤ 200
theorem backsG_all {l : List Pa} {id : Int} (hs : ∀ p ∈ l, shortP p) : ∀ m ∈ backsG l id, BkFit m ∧ BkShort m ∧ BkOk m ∧ (bodyB m).length ≤ 500 := by
  intro m hm
  unfold backsG at hm
  simp only [List.cons_append, List.mem_cons, List.mem_append, List.mem_map, List.mem_singleton, List.not_mem_nil, or_false] at hm
  rcases hm with rfl | ⟨p, hp, rfl⟩ | rfl | rfl
  · exact ⟨rG_fit, by unfold BkShort rG; simp, by unfold BkOk rG; simp, by decide⟩
  · obtain ⟨h1, h2⟩ := hs p hp
    refine ⟨sG_fit p, by unfold BkShort sG; simp; omega, by unfold BkOk sG; simp, ?_⟩
    have e : bodyB (sG p) = textsL [p.name, p.value] := rfl
    rw [e]
    simp [textsL, He.encT]
    omega
  · refine ⟨kG_fit id, by unfold BkShort kG; simp, by unfold BkOk kG; simp, ?_⟩
    have e : bodyB (kG id) = numE 4 (kA id) ++ numE 4 (kB id) := rfl
    have l1 := numE_len 4 (kA id) (by omega)
    have l2 := numE_len 4 (kB id) (by omega)
    rw [e, List.length_append]
    omega
  · exact ⟨zG_fit, by unfold BkShort zG; simp, by unfold BkOk zG; simp, by decide⟩
theorem oneB_le {m : Bk} (h : (bodyB m).length ≤ 500) : (oneB m).length ≤ 505 := by
  by_cases hc : checkB m = 0
  · have := oneB_len hc
    have := numE_len 4 (((bodyB m).length : Int) + 4) (by omega)
    omega
  · rw [oneB_no hc]; simp
theorem bytesB_le : ∀ {l : List Bk}, (∀ m ∈ l, (bodyB m).length ≤ 500) → (bytesB l).length ≤ 505 * l.length
  | [], _ => by simp [bytesB]
  | m :: r, h => by
    have h1 := oneB_le (h m (List.mem_cons_self ..))
    have h2 := bytesB_le (l := r) fun x hx => h x (List.mem_cons_of_mem _ hx)
    have e : bytesB (m :: r) = oneB m ++ bytesB r := rfl
    rw [e, List.length_append, List.length_cons]
    omega
theorem backsG_len (l : List Pa) (id : Int) : (backsG l id).length = l.length + 3 := by unfold backsG; simp
theorem gbytes_c (l : List Pa) (id : Int) (hl : l.length ≤ 40) (hs : ∀ p ∈ l, shortP p) (h : List (List AV)) : Contract Tryz.prog 13 [.sl 2 (enc paC l) none .no, .v (.int .i64 id)] h (.sl 1 (bytesE (bytesB (backsG l id))) none .no) h [] := by
  have hall := backsG_all (id := id) hs
  have hb := bytesB_le (l := backsG l id) fun m hm => (hall m hm).2.2.2
  have hlen := backsG_len l id
  refine contract_of k13 mixed (by simp [c13]) fun hh hargs => ?_
  simp [c13]
  refine xcall_self (by simp) (gbacks_c l id (by omega) _) ?_
  simp
  refine xcall_self (by simp) (bbytes_c (backsG l id) (fun m hm => ⟨(hall m hm).1, (hall m hm).2.2.1, by have := (hall m hm).2.2.2; omega⟩) (by omega) (by omega) _) ?_
  simp [hh]
theorem rgbytes_c (l : List Pa) (id : Int) (hl : l.length ≤ 40) (hs : ∀ p ∈ l, shortP p) (h : List (List AV)) : Contract Tryz.prog 12 [.sl 2 (enc paC l) none .no, .v (.int .i64 id)] h (.sl 1 (bytesE (bytesB (backsG l id))) none .no) h [] := by
  have hall := backsG_all (id := id) hs
  have hb := bytesB_le (l := backsG l id) fun m hm => (hall m hm).2.2.2
  have hlen := backsG_len l id
  refine contract_of k12 mixed (by simp [c12]) fun hh hargs => ?_
  simp [c12]
  refine xcall_self (by simp) (rgbacks_c l id (by omega) _) ?_
  simp
  refine xcall_self (by simp) (rbbytes_c (backsG l id) (fun m hm => ⟨(hall m hm).1, (hall m hm).2.1, (hall m hm).2.2.1, by have := (hall m hm).2.2.2; omega⟩) (by omega) (by omega) _) ?_
  simp [hh]

/-! ### The statements -/
def longP (p : Pa) : Bool := decide (200 < p.name.length) || decide (200 < p.value.length)
def farG (l : List Pa) : Bool := decide (40 < l.length) || l.any longP
theorem far_no {l : List Pa} (h : farG l = false) : l.length ≤ 40 ∧ ∀ p ∈ l, shortP p := by
  unfold farG at h
  rw [Bool.or_eq_false_iff] at h
  obtain ⟨h1, h2⟩ := h
  refine ⟨by simpa using h1, fun p hp => ?_⟩
  have := List.any_eq_false.1 h2 p hp
  unfold longP at this
  unfold shortP
  simp at this
  omega
end Go.Proofs.YtofkddajlgebjaaGreat.Ax
