import Derived.Test.YtdfgljojemmlcaaGreatQAxXr
import Derived.Test.YtdfgljojemmlcaaGreatRows
import Derived.Test.YtdfgljojemmlcaaGreatQAxFq
import Derived.Test.YtdfgljojemmlcaaGreatQAxPf
import Derived.Test.YtdfgljojemmlcaaGreatQAxFl
import Derived.Test.YtdfgljojemmlcaaGreatQAxTc
set_option linter.unusedSimpArgs false
set_option linter.unusedVariables false
set_option linter.ambiguousOpen false
namespace Go.Proofs.YtdfgljojemmlcaaGreat.Ax
open Go.RowKit Go By
def c46 : XFun := ⟨41, (.seq (.ops [⟨(some 1), (.box (.tmp 0)), none⟩, ⟨(some 2), (.assign (.const (.string (strB [])))), none⟩]) (.seq (.seq (.ops [⟨(some 6), (.faddr 0 (.tmp 1)), none⟩, ⟨(some 7), (.load1 (.tmp 6)), none⟩, ⟨(some 8), (.lenS (.tmp 7)), none⟩, ⟨(some 9), (.faddr 1 (.tmp 1)), none⟩, ⟨(some 10), (.load1 (.tmp 9)), none⟩, ⟨(some 11), (.lenL (.tmp 10)), none⟩, ⟨(some 12), (.call 83 [(.tmp 8), (.tmp 11)]), none⟩, ⟨(some 13), (.un .not (.tmp 12)), none⟩, ⟨(some 14), (.move (.tmp 13)), none⟩, ⟨(some 15), (.faddr 1 (.tmp 1)), (some (14, false))⟩, ⟨(some 16), (.load1 (.tmp 15)), (some (14, false))⟩, ⟨(some 17), (.call 84 [(.tmp 16)]), (some (14, false))⟩, ⟨(some 18), (.un .not (.tmp 17)), (some (14, false))⟩, ⟨(some 19), (.pick (.tmp 14) (.const (.bool true)) (.tmp 18)), none⟩]) (.cond (.tmp 19) (.seq (.ops [⟨(some 2), (.assign (.const (.string (strB [])))), none⟩]) .ret) .skip)) (.seq (.draws (.take ⟨(some 20), (.faddr 0 (.tmp 1)), none⟩ (.take ⟨(some 21), (.load1 (.tmp 20)), none⟩ (.take ⟨(some 22), (.lenS (.tmp 21)), none⟩ (.take ⟨(some 24), (.faddr 0 (.tmp 1)), none⟩ (.take ⟨(some 25), (.load1 (.tmp 24)), none⟩ (.only ⟨(some 23), (.call 85 [(.const (.slice none 0 0)), (.tmp 22), (.const (.int .i64 4))]), none⟩ (.only ⟨(some 26), (.appendS (.tmp 23) (.tmp 25)), none⟩ (.take ⟨(some 3), (.assign (.tmp 26)), none⟩ .done))))))))) (.seq (.seq (.ops [⟨(some 27), (.faddr 1 (.tmp 1)), none⟩, ⟨(some 28), (.load1 (.tmp 27)), none⟩, ⟨(some 29), (.lenL (.tmp 28)), none⟩, ⟨(some 30), (.move (.const (.int .i64 0))), none⟩]) (.block 0 (.loop (.seq (.ops [⟨(some 31), (.bin .lss (.tmp 30) (.tmp 29)), none⟩]) (.seq (.cond (.tmp 31) .skip (.exit 0)) (.seq (.block 1 (.seq (.ops [⟨(some 32), (.iaddr 1 (.tmp 28) (.tmp 30)), none⟩, ⟨(some 33), (.load1 (.tmp 32)), none⟩, ⟨(some 5), (.assign (.tmp 33)), none⟩]) (.ops [⟨(some 34), (.move (.tmp 3)), none⟩, ⟨(some 35), (.move (.tmp 5)), none⟩, ⟨(some 36), (.call 85 [(.const (.slice none 0 0)), (.tmp 35), (.const (.int .i64 4))]), none⟩, ⟨(some 37), (.append 1 1 (.tmp 34) (.tmp 36)), none⟩, ⟨(some 3), (.assign (.tmp 37)), none⟩]))) (.ops [⟨(some 38), (.bin .add (.tmp 30) (.const (.int .i64 1))), none⟩, ⟨(some 30), (.move (.tmp 38)), none⟩]))))))) (.seq (.ops [⟨(some 39), (.move (.tmp 3)), none⟩, ⟨(some 40), (.b2s (.tmp 39)), none⟩, ⟨(some 2), (.assign (.tmp 40)), none⟩]) .ret))))), [(.move (.tmp 2))]⟩
theorem k46 : cfun Tryz.prog 46 = some c46 := by kernel_rfl
def c86 : XFun := ⟨62, (.seq (.ops [⟨(some 2), (.alloc [(.v (.string (strB []))), (.sl 0 [] (some true) .exact)]), none⟩, ⟨(some 3), (.assign (.const (.bool false))), none⟩]) (.seq (.ops [⟨(some 11), (.move (.tmp 0)), none⟩, ⟨(some 12), (.s2b (.tmp 11)), none⟩, ⟨(some 4), (.assign (.tmp 12)), none⟩]) (.seq (.ops [⟨(some 14), (.move (.tmp 4)), none⟩, ⟨(some 15), (.call 115 [(.tmp 14), (.const (.int .i64 0)), (.const (.int .i64 4))]), none⟩, ⟨(some 13), (.move (.tmp 15)), none⟩, ⟨(some 16), (.extract (.tmp 13) 0), none⟩, ⟨(some 17), (.extract (.tmp 13) 1), none⟩, ⟨(some 5), (.assign (.tmp 16)), none⟩, ⟨(some 6), (.assign (.tmp 17)), none⟩]) (.seq (.seq (.ops [⟨(some 18), (.move (.tmp 6)), none⟩, ⟨(some 19), (.bin .neq (.tmp 18) (.const (.int .i64 0))), none⟩, ⟨(some 20), (.move (.tmp 19)), none⟩, ⟨(some 21), (.move (.tmp 5)), (some (20, false))⟩, ⟨(some 22), (.move (.tmp 4)), (some (20, false))⟩, ⟨(some 23), (.lenL (.tmp 22)), (some (20, false))⟩, ⟨(some 24), (.bin .sub (.tmp 23) (.const (.int .i64 4))), (some (20, false))⟩, ⟨(some 25), (.bin .gtr (.tmp 21) (.tmp 24)), (some (20, false))⟩, ⟨(some 26), (.pick (.tmp 20) (.const (.bool true)) (.tmp 25)), none⟩]) (.cond (.tmp 26) (.seq (.ops [⟨(some 27), (.build [(.v (.string (strB []))), (.sl 0 [] (some true) .exact)] []), none⟩, ⟨none, (.store 2 (.tmp 2) (.tmp 27)), none⟩, ⟨(some 3), (.assign (.const (.bool false))), none⟩]) .ret) .skip)) (.seq (.draws (.take ⟨(some 28), (.move (.tmp 4)), none⟩ (.take ⟨(some 29), (.move (.tmp 5)), none⟩ (.take ⟨(some 30), (.bin .add (.const (.int .i64 4)) (.tmp 29)), none⟩ (.take ⟨(some 31), (.slice 1 (.tmp 28) (some (.const (.int .i64 4))) (some (.tmp 30)) none), none⟩ (.take ⟨(some 32), (.move (.tmp 4)), none⟩ (.take ⟨(some 33), (.move (.tmp 5)), none⟩ (.take ⟨(some 34), (.bin .add (.const (.int .i64 4)) (.tmp 33)), none⟩ (.take ⟨(some 35), (.slice 1 (.tmp 32) (some (.tmp 34)) none none), none⟩ (.take ⟨(some 7), (.assign (.tmp 31)), none⟩ (.take ⟨(some 8), (.assign (.tmp 35)), none⟩ .done))))))))))) (.seq (.seq (.ops [⟨(some 36), (.move (.tmp 8)), none⟩, ⟨(some 37), (.lenL (.tmp 36)), none⟩, ⟨(some 38), (.bin .rem (.tmp 37) (.const (.int .i64 4))), none⟩, ⟨(some 39), (.bin .neq (.tmp 38) (.const (.int .i64 0))), none⟩, ⟨(some 40), (.move (.tmp 39)), none⟩, ⟨(some 41), (.move (.tmp 5)), (some (40, false))⟩, ⟨(some 42), (.move (.tmp 8)), (some (40, false))⟩, ⟨(some 43), (.lenL (.tmp 42)), (some (40, false))⟩, ⟨(some 44), (.bin .quo (.tmp 43) (.const (.int .i64 4))), (some (40, false))⟩, ⟨(some 45), (.call 83 [(.tmp 41), (.tmp 44)]), (some (40, false))⟩, ⟨(some 46), (.un .not (.tmp 45)), (some (40, false))⟩, ⟨(some 47), (.pick (.tmp 40) (.const (.bool true)) (.tmp 46)), none⟩]) (.cond (.tmp 47) (.seq (.ops [⟨(some 48), (.build [(.v (.string (strB []))), (.sl 0 [] (some true) .exact)] []), none⟩, ⟨none, (.store 2 (.tmp 2) (.tmp 48)), none⟩, ⟨(some 3), (.assign (.const (.bool false))), none⟩]) .ret) .skip)) (.seq (.ops [⟨(some 49), (.move (.tmp 7)), none⟩, ⟨(some 50), (.b2s (.tmp 49)), none⟩, ⟨(some 51), (.build [(.v (.string (strB []))), (.sl 0 [] (some true) .exact)] [(0, (1, (.tmp 50)))]), none⟩, ⟨(some 9), (.alloc [(.v (.string (strB []))), (.sl 0 [] (some true) .exact)]), none⟩, ⟨none, (.store 2 (.tmp 9) (.tmp 51)), none⟩]) (.seq (.seq (.ops [⟨(some 52), (.move (.tmp 8)), none⟩, ⟨(some 53), (.call 116 [(.tmp 52)]), none⟩]) (.block 0 (.range (.tmp 53) [54] (.ops [⟨(some 10), (.assign (.tmp 54)), none⟩]) (.block 1 (.ops [⟨(some 55), (.faddr 1 (.tmp 9)), none⟩, ⟨(some 56), (.load1 (.tmp 55)), none⟩, ⟨(some 57), (.move (.tmp 10)), none⟩, ⟨(some 58), (.buildSlice 1 1 [(.v (.int .i64 0))] [(0, (.tmp 57))]), none⟩, ⟨(some 59), (.append 1 8 (.tmp 56) (.tmp 58)), none⟩, ⟨(some 60), (.faddr 1 (.tmp 9)), none⟩, ⟨none, (.store 1 (.tmp 60) (.tmp 59)), none⟩]))))) (.seq (.ops [⟨(some 61), (.loadN 2 (.tmp 9)), none⟩, ⟨none, (.store 2 (.tmp 2) (.tmp 61)), none⟩, ⟨(some 3), (.assign (.const (.bool true))), none⟩]) .ret))))))))), [(.loadN 2 (.tmp 2)), (.move (.tmp 3))]⟩
theorem k86 : cfun Tryz.prog 86 = some c86 := by kernel_rfl
def c83 : XFun := ⟨11, (.seq (.ops [⟨(some 4), (.assign (.const (.bool false))), none⟩]) (.seq (.ops [⟨(some 5), (.move (.tmp 0)), none⟩, ⟨(some 6), (.bin .leq (.tmp 5) (.const (.int .i64 1048576))), none⟩, ⟨(some 7), (.move (.tmp 6)), none⟩, ⟨(some 8), (.move (.tmp 1)), (some (7, true))⟩, ⟨(some 9), (.bin .leq (.tmp 8) (.const (.int .i64 65535))), (some (7, true))⟩, ⟨(some 10), (.pick (.tmp 7) (.tmp 9) (.const (.bool false))), none⟩, ⟨(some 4), (.assign (.tmp 10)), none⟩]) .ret)), [(.move (.tmp 4))]⟩
theorem k83 : cfun Tryz.prog 83 = some c83 := by kernel_rfl
def c84 : XFun := ⟨6, (.seq (.ops [⟨(some 2), (.assign (.const (.bool false))), none⟩]) (.seq (.ops [⟨(some 3), (.move (.tmp 0)), none⟩, ⟨(some 4), (.call 112 [(.tmp 3), (.func 113)]), none⟩, ⟨(some 5), (.un .not (.tmp 4)), none⟩, ⟨(some 2), (.assign (.tmp 5)), none⟩]) .ret)), [(.move (.tmp 2))]⟩
theorem k84 : cfun Tryz.prog 84 = some c84 := by kernel_rfl
def c113 : XFun := ⟨10, (.seq (.ops [⟨(some 2), (.assign (.const (.bool false))), none⟩]) (.seq (.ops [⟨(some 3), (.move (.tmp 0)), none⟩, ⟨(some 4), (.bin .lss (.tmp 3) (.const (.int .i64 0))), none⟩, ⟨(some 5), (.move (.tmp 4)), none⟩, ⟨(some 6), (.move (.tmp 0)), (some (5, false))⟩, ⟨(some 7), (.call 114 [(.tmp 6), (.const (.int .i64 4))]), (some (5, false))⟩, ⟨(some 8), (.un .not (.tmp 7)), (some (5, false))⟩, ⟨(some 9), (.pick (.tmp 5) (.const (.bool true)) (.tmp 8)), none⟩, ⟨(some 2), (.assign (.tmp 9)), none⟩]) .ret)), [(.move (.tmp 2))]⟩
theorem k113 : cfun Tryz.prog 113 = some c113 := by kernel_rfl
def c116 : XFun := ⟨4, (.seq (.ops [⟨(some 1), (.box (.tmp 0)), none⟩, ⟨(some 2), (.assign (.const .nilFunc)), none⟩]) (.seq (.ops [⟨(some 3), (.mkfn (.func 137) [] [(.tmp 1)]), none⟩, ⟨(some 2), (.assign (.tmp 3)), none⟩]) .ret)), [(.move (.tmp 2))]⟩
theorem k116 : cfun Tryz.prog 116 = some c116 := by kernel_rfl
def c137 : XFun := ⟨22, (.seq (.ops [⟨(some 3), (.assign (.const (.int .i64 0))), none⟩]) (.block 0 (.loop (.seq (.block 1 (.seq (.ops [⟨(some 9), (.load1 (.tmp 1)), none⟩, ⟨(some 10), (.move (.tmp 3)), none⟩, ⟨(some 11), (.call 115 [(.tmp 9), (.tmp 10), (.const (.int .i64 4))]), none⟩, ⟨(some 8), (.move (.tmp 11)), none⟩, ⟨(some 12), (.extract (.tmp 8) 0), none⟩, ⟨(some 13), (.extract (.tmp 8) 1), none⟩, ⟨(some 4), (.assign (.tmp 12)), none⟩, ⟨(some 5), (.assign (.tmp 13)), none⟩]) (.seq (.ops [⟨(some 14), (.move (.tmp 5)), none⟩, ⟨(some 15), (.bin .neq (.tmp 14) (.const (.int .i64 0))), none⟩, ⟨(some 16), (.move (.tmp 15)), none⟩, ⟨(some 17), (.move (.tmp 0)), (some (16, false))⟩, ⟨(some 18), (.move (.tmp 4)), (some (16, false))⟩, ⟨(some 19), (.callv (.tmp 17) [(.tmp 18)]), (some (16, false))⟩, ⟨(some 20), (.un .not (.tmp 19)), (some (16, false))⟩, ⟨(some 21), (.pick (.tmp 16) (.const (.bool true)) (.tmp 20)), none⟩]) (.cond (.tmp 21) .ret .skip)))) (.ops [⟨(some 6), (.move (.tmp 3)), none⟩, ⟨(some 7), (.bin .add (.tmp 6) (.const (.int .i64 4))), none⟩, ⟨(some 3), (.assign (.tmp 7)), none⟩]))))), []⟩
theorem k137 : cfun Tryz.prog 137 = some c137 := by kernel_rfl
def c48 : XFun := ⟨38, (.seq (.ops [⟨(some 1), (.box (.tmp 0)), none⟩, ⟨(some 2), (.assign (.const (.string (strB [])))), none⟩]) (.seq (.seq (.ops [⟨(some 5), (.faddr 0 (.tmp 1)), none⟩, ⟨(some 6), (.load1 (.tmp 5)), none⟩, ⟨(some 7), (.lenS (.tmp 6)), none⟩, ⟨(some 8), (.bin .gtr (.tmp 7) (.const (.int .i64 1048576))), none⟩, ⟨(some 9), (.move (.tmp 8)), none⟩, ⟨(some 10), (.faddr 1 (.tmp 1)), (some (9, false))⟩, ⟨(some 11), (.load1 (.tmp 10)), (some (9, false))⟩, ⟨(some 12), (.call 87 [(.tmp 11), (.const (.int .i64 0)), (.const (.int .i64 4294967295))]), (some (9, false))⟩, ⟨(some 13), (.un .not (.tmp 12)), (some (9, false))⟩, ⟨(some 14), (.pick (.tmp 9) (.const (.bool true)) (.tmp 13)), none⟩]) (.cond (.tmp 14) (.seq (.ops [⟨(some 2), (.assign (.const (.string (strB [])))), none⟩]) .ret) .skip)) (.seq (.draws (.take ⟨(some 15), (.faddr 0 (.tmp 1)), none⟩ (.take ⟨(some 16), (.load1 (.tmp 15)), none⟩ (.take ⟨(some 17), (.lenS (.tmp 16)), none⟩ (.take ⟨(some 19), (.faddr 0 (.tmp 1)), none⟩ (.take ⟨(some 20), (.load1 (.tmp 19)), none⟩ (.only ⟨(some 18), (.call 88 [(.const (.slice none 0 0)), (.tmp 17), (.const (.int .i64 4))]), none⟩ (.only ⟨(some 21), (.appendS (.tmp 18) (.tmp 20)), none⟩ (.take ⟨(some 3), (.assign (.tmp 21)), none⟩ .done))))))))) (.seq (.seq (.ops [⟨(some 4), (.assign (.const (.int .i64 0))), none⟩]) (.block 0 (.loop (.seq (.seq (.ops [⟨(some 22), (.move (.tmp 4)), none⟩, ⟨(some 23), (.faddr 1 (.tmp 1)), none⟩, ⟨(some 24), (.load1 (.tmp 23)), none⟩, ⟨(some 25), (.lenL (.tmp 24)), none⟩, ⟨(some 26), (.bin .lss (.tmp 22) (.tmp 25)), none⟩]) (.cond (.tmp 26) .skip (.exit 0))) (.seq (.block 1 (.ops [⟨(some 29), (.move (.tmp 3)), none⟩, ⟨(some 30), (.faddr 1 (.tmp 1)), none⟩, ⟨(some 31), (.load1 (.tmp 30)), none⟩, ⟨(some 32), (.move (.tmp 4)), none⟩, ⟨(some 33), (.iaddr 1 (.tmp 31) (.tmp 32)), none⟩, ⟨(some 34), (.load1 (.tmp 33)), none⟩, ⟨(some 35), (.call 88 [(.tmp 29), (.tmp 34), (.const (.int .i64 4))]), none⟩, ⟨(some 3), (.assign (.tmp 35)), none⟩])) (.ops [⟨(some 27), (.move (.tmp 4)), none⟩, ⟨(some 28), (.bin .add (.tmp 27) (.const (.int .i64 1))), none⟩, ⟨(some 4), (.assign (.tmp 28)), none⟩])))))) (.seq (.ops [⟨(some 36), (.move (.tmp 3)), none⟩, ⟨(some 37), (.b2s (.tmp 36)), none⟩, ⟨(some 2), (.assign (.tmp 37)), none⟩]) .ret))))), [(.move (.tmp 2))]⟩
theorem k48 : cfun Tryz.prog 48 = some c48 := by kernel_rfl
def c89 : XFun := ⟨17, (.seq (.ops [⟨(some 2), (.box (.tmp 0)), none⟩, ⟨(some 3), (.box (.tmp 1)), none⟩, ⟨(some 4), (.assign (.const (.bool false))), none⟩]) (.seq (.ops [⟨(some 5), (.faddr 0 (.tmp 2)), none⟩, ⟨(some 6), (.load1 (.tmp 5)), none⟩, ⟨(some 7), (.faddr 0 (.tmp 3)), none⟩, ⟨(some 8), (.load1 (.tmp 7)), none⟩, ⟨(some 9), (.bin .eql (.tmp 6) (.tmp 8)), none⟩, ⟨(some 10), (.move (.tmp 9)), none⟩, ⟨(some 11), (.faddr 1 (.tmp 2)), (some (10, true))⟩, ⟨(some 12), (.load1 (.tmp 11)), (some (10, true))⟩, ⟨(some 13), (.faddr 1 (.tmp 3)), (some (10, true))⟩, ⟨(some 14), (.load1 (.tmp 13)), (some (10, true))⟩, ⟨(some 15), (.call 79 [(.tmp 12), (.tmp 14)]), (some (10, true))⟩, ⟨(some 16), (.pick (.tmp 10) (.tmp 15) (.const (.bool false))), none⟩, ⟨(some 4), (.assign (.tmp 16)), none⟩]) .ret)), [(.move (.tmp 4))]⟩
theorem k89 : cfun Tryz.prog 89 = some c89 := by kernel_rfl
end Go.Proofs.YtdfgljojemmlcaaGreat.Ax
namespace Go.Proofs.YtdfgljojemmlcaaGreat.Ax
open Go.RowKit Go By Nm Sc Dg
set_option maxRecDepth 10000
theorem sz4 : Sz 4 := .inr (.inr rfl)
theorem getI_drop (xs : List UInt8) (i : Nat) : ∀ k, getI xs i k = getI (xs.drop i) 0 k
 | 0 => rfl
 | k + 1 => by
  rw [getI, getI, getI_drop xs i k]
  congr 1
  unfold byteAt
  rw [List.getD_eq_getElem?_getD, List.getD_eq_getElem?_getD, List.getElem?_drop, Nat.zero_add]
def okT (n : Int) : Bool := !decide (n < 0) && rightB n 4
theorem okT_iff (n : Int) : okT n = true ↔ 0 <= n /\ n < 4294967296 := by
 unfold okT
 have := right_iff (n := n) sz4
 simp at this
 simp [this]
 omega
theorem numE_right {n : Int} (h : okT n = true) : numE 4 n = putTo n 4 4 := by
 rw [okT_iff] at h
 exact putL_right (size := 4) (right_of_range sz4 (by omega) (by omega))
theorem numE_le (n : Int) : (numE 4 n).length <= 4 := by have := put_len n 4 (by omega) []; simpa [numE] using this
theorem numE_four {n : Int} (h : okT n = true) : (numE 4 n).length = 4 := by rw [numE_right h, putTo_length]
theorem numE_back {n : Int} (h : okT n = true) : getI (numE 4 n) 0 4 = n := by
 rw [numE_right h, getI_putTo n sz4]
 rw [okT_iff] at h
 omega
def numsL (l : List Int) : List UInt8 := l.flatMap (numE 4)
theorem numsL_len : ∀ {l : List Int}, (∀ n ∈ l, okT n = true) -> (numsL l).length = 4 * l.length
 | [], _ => rfl
 | n :: l, h => by
  have h1 := numE_four (h n (List.mem_cons_self ..))
  have h2 := numsL_len (l := l) fun x hx => h x (List.mem_cons_of_mem _ hx)
  have e : numsL (n :: l) = numE 4 n ++ numsL l := rfl
  rw [e, List.length_append, List.length_cons]; omega
theorem numsL_le : ∀ (l : List Int), (numsL l).length <= 4 * l.length
 | [] => Nat.le_refl _
 | n :: l => by
  have h1 := numE_le n
  have h2 := numsL_le l
  have e : numsL (n :: l) = numE 4 n ++ numsL l := rfl
  rw [e, List.length_append, List.length_cons]; omega
def numsOf (b : List UInt8) (k : Nat) : List Int := (List.range k).map fun j => getI b (4 * j) 4
theorem numsOf_zero (b : List UInt8) : numsOf b 0 = [] := rfl
theorem numsOf_succ (b : List UInt8) (k : Nat) : numsOf b (k + 1) = numsOf b k ++ [getI b (4 * k) 4] := by unfold numsOf; rw [List.range_succ, List.map_append]; rfl
@[simp] theorem numsOf_len (b : List UInt8) (k : Nat) : (numsOf b k).length = k := by unfold numsOf; simp
theorem numsOf_numsL : ∀ {l : List Int}, (∀ n ∈ l, okT n = true) -> numsOf (numsL l) l.length = l
 | [], _ => rfl
 | n :: l, h => by
  have h1 := numE_four (h n (List.mem_cons_self ..))
  have h2 := numsOf_numsL (l := l) fun x hx => h x (List.mem_cons_of_mem _ hx)
  have e : numsL (n :: l) = numE 4 n ++ numsL l := rfl
  unfold numsOf at h2 ⊢
  rw [List.length_cons, List.range_succ_eq_map, List.map_cons, List.map_map, e]
  have e0 : getI (numE 4 n ++ numsL l) (4 * 0) 4 = n := by
   rw [getI_pre _ _ _ _ (by omega)]; exact numE_back (h n (List.mem_cons_self ..))
  have e1 : ((fun j => getI (numE 4 n ++ numsL l) (4 * j) 4) ∘ Nat.succ) = fun j => getI (numsL l) (4 * j) 4 := by
   funext j
   show getI (numE 4 n ++ numsL l) (4 * (j + 1)) 4 = _
   rw [getI_drop, getI_drop (numsL l)]
   congr 1
   rw [show 4 * (j + 1) = (numE 4 n).length + 4 * j by omega, <- List.drop_drop, List.drop_left]
  rw [e0, e1, h2]
theorem unbytes_two (a b : List UInt8) : unbytes (bytesE a ++ bytesE b) = some (a ++ b) := by rw [<- bytesE_append, unbytes_bytesE]
def okList (l : List Int) : Bool := decide (l.length <= 65535) && l.all okT
def keyable (m : Sm) : Bool := decide (m.text.length <= 1048576) && okList m.oids
def keyBytes (m : Sm) : List UInt8 := numE 4 m.text.length ++ m.text ++ numsL m.oids
def keyB (m : Sm) : List UInt8 := if keyable m = true then keyBytes m else []
theorem fits_c (a b : Int) (h : List (List AV)) : Contract Tryz.prog 83 [.v (.int .i64 a), .v (.int .i64 b)] h (.v (.bool (decide (a <= 1048576) && decide (b <= 65535)))) h [] := by
 refine contract_of k83 mixed (by simp [c83]) fun hh hargs => ?_
 by_cases ha : a <= 1048576
 ·simp [c83, ha, hh]
 ·simp [c83, ha, hh]
theorem rt1_c (n : Int) (h : List (List AV)) : Contract Tryz.prog 113 [.v (.int .i64 n)] h (.v (.bool (!okT n))) h [] := by
 refine contract_of k113 mixed (by simp [c113]) fun hh hargs => ?_
 by_cases hn : n < 0
 ·simp [c113, hn, hh, okT]
 ·simp [c113, hn]
  refine xcall_self (by simp) (right_c n 4 h) ?_
  simp [hh, okT, hn]
theorem rt_c (l : List Int) (hl : l.length <= 140737488355328) (h : List (List AV)) : Contract Tryz.prog 84 [.sl 1 (enc intC l) none .no] h (.v (.bool (l.all okT))) h [] := by
 refine contract_of k84 mixed (by simp [c84]) fun hh hargs => ?_
 simp [c84]
 refine xcall_self (by simp) (contains1_any mixed k112 k134 (fun n => .v (.int .i64 n)) (fun n => !okT n) l [] h (by simp) (by simp) (by simp) (fun n _ => rt1_c n h) hl) ?_
 simp [hh, List.not_any_eq_all_not]
theorem kput_c (n : Int) (h : List (List AV)) : Contract Tryz.prog 85 [.sl 1 (bytesE []) none .no, .v (.int .i64 n), .v (.int .i64 4)] h (.sl 1 (bytesE (numE 4 n)) none (.own .res)) h [] := put_c [] n 4 (by simp) h
theorem krput_c (xs : List UInt8) (n : Int) (hl : xs.length <= 140737488351232) (h : List (List AV)) : Contract Tryz.prog 88 [.sl 1 (bytesE xs) none .no, .v (.int .i64 n), .v (.int .i64 4)] h (.sl 1 (bytesE (xs ++ numE 4 n)) none (.own .res)) h [] := by
 have e : putL xs n 4 = xs ++ numE 4 n := putL_eq xs n 4
 rw [<- e]
 exact rput_c xs n 4 hl h
theorem krput0_c (n : Int) (h : List (List AV)) : Contract Tryz.prog 88 [.sl 1 (bytesE []) none .no, .v (.int .i64 n), .v (.int .i64 4)] h (.sl 1 (bytesE (numE 4 n)) none (.own .res)) h [] := rput_c [] n 4 (by simp) h
theorem kof_c (m : Sm) (hl : m.oids.length <= 140737488355328) (h : List (List AV)) : Contract Tryz.prog 46 [.agg (smC m)] h (.v (.string (strB (keyB m)))) h [] := by
 refine contract_of k46 mixed (by simp [c46]) fun hh hargs => ?_
 simp [c46]
 refine xcall_self (by simp) (fits_c _ _ _) ?_
 have hk : keyable m = (decide ((m.text.length : Int) <= 1048576) && decide ((m.oids.length : Int) <= 65535) && m.oids.all okT) := by
  unfold keyable okList
  rw [<- Bool.and_assoc]
  congr 1
  congr 1
  ·rw [decide_eq_decide]; omega
  ·rw [decide_eq_decide]; omega
 cases hf : (decide ((m.text.length : Int) <= 1048576) && decide ((m.oids.length : Int) <= 65535)) with
 | false =>
  rw [hf] at hk
  simp [hh, keyB, hk]
 | true =>
 rw [hf] at hk
 rw [Bool.and_eq_true, decide_eq_true_eq, decide_eq_true_eq] at hf
 simp
 refine xcall_self (by simp) (rt_c m.oids hl _) ?_
 cases ha : m.oids.all okT with
 | false =>
  rw [ha] at hk
  simp [hh, keyB, hk]
 | true =>
 rw [ha] at hk
 have hL := numE_le (m.text.length : Int)
 have hle := numsL_le m.oids
 simp
 refine xcall_of (kput_c (m.text.length : Int) _) (by simp) (by simp) ?_
 unfold keyB
 rw [if_pos (by simpa using hk)]
 unfold keyBytes
 obtain ⟨C, hC⟩ : ∃ C, numE 4 (m.text.length : Int) ++ m.text = C := ⟨_, rfl⟩
 have hCl : C.length <= 1048580 := by rw [<- hC, List.length_append]; omega
 simp [hC]
 refine ⟨by omega, ?_⟩
 refine xloop_ok (D := Nat) (fun j => ⟨[(28, .sl 1 (enc intC m.oids) none .no), (29, .v (.int .i64 m.oids.length)), (30, .v (.int .i64 j))], [(3, .sl 1 (bytesE (C ++ numsL (m.oids.take j))) none (.own (.slot 3)))], h ++ [smC m], []⟩) (fun j => j <= m.oids.length) (fun j => m.oids.length - j) 0 (by simp) ?_ ?_
 ·simp [Leq, hh, <- hC, numsL]
 ·intro j hj
  by_cases hlt : j < m.oids.length
  ·have hw : IntKind.i64.wrap ((j : Int) + 1) = (j : Int) + 1 := wrap64 (by omega) (by omega)
   have hx : numsL (m.oids.take (j + 1)) = numsL (m.oids.take j) ++ numE 4 m.oids[j] := flat_next _ hlt
   have h1 := numsL_le (m.oids.take j)
   rw [List.length_take] at h1
   have h2 := numE_le m.oids[j]
   simp [hlt, intC]
   refine xcall_of (kput_c m.oids[j] _) (by simp) (by simp) ?_
   generalize numE 4 m.oids[j] = X at *
   simp [hw]
   refine ⟨by omega, j + 1, by omega, by omega, ?_⟩
   simp [Leq, hh, hx]
  ·have : j = m.oids.length := by omega
   subst this
   simp [hh, unbytes_two]
theorem betB_okT (n : Int) : betB 0 4294967295 n = okT n := by
 have h1 := okT_iff n
 unfold betB
 cases ho : okT n with
 | true =>
  obtain ⟨h2, h3⟩ := h1.1 ho
  rw [decide_eq_false (by omega), decide_eq_false (by omega)]; rfl
 | false =>
  have h2 : ¬ (0 <= n /\ n < 4294967296) := fun hh => by rw [h1.2 hh] at ho; cases ho
  by_cases h0 : n < 0
  ·rw [decide_eq_true h0]; rfl
  ·rw [decide_eq_true (p := 4294967295 < n) (by omega)]; simp
theorem krof_c (m : Sm) (hl : m.oids.length <= 140737488355328) (h : List (List AV)) : Contract Tryz.prog 48 [.agg (smC m)] h (.v (.string (strB (keyB m)))) h [] := by
 refine contract_of k48 mixed (by simp [c48]) fun hh hargs => ?_
 have hb : m.oids.all (betB 0 4294967295) = m.oids.all okT := by congr 1; funext n; exact betB_okT n
 by_cases ht : (1048576 : Int) < m.text.length
 ·have hk : keyable m = false := by unfold keyable; simp; omega
  simp [c48, ht, hh, keyB, hk]
 have ht' : m.text.length <= 1048576 := by omega
 simp [c48, ht]
 refine xcall_self (by simp) (rbetween_c m.oids 0 4294967295 _) ?_
 rw [hb]
 have hk : keyable m = (decide (m.oids.length <= 65535) && m.oids.all okT) := by unfold keyable okList; simp [ht']
 cases ha : (decide (m.oids.length <= 65535) && m.oids.all okT) with
 | false =>
  rw [ha] at hk
  simp [hh, keyB, hk]
 | true =>
 rw [ha] at hk
 rw [Bool.and_eq_true, decide_eq_true_eq] at ha
 have hL := numE_le (m.text.length : Int)
 have hle := numsL_le m.oids
 simp
 refine xcall_of (krput0_c (m.text.length : Int) _) (by simp) (by simp) ?_
 unfold keyB
 rw [if_pos hk]
 unfold keyBytes
 obtain ⟨C, hC⟩ : ∃ C, numE 4 (m.text.length : Int) ++ m.text = C := ⟨_, rfl⟩
 have hCl : C.length <= 1048580 := by rw [<- hC, List.length_append]; omega
 simp [hC]
 refine ⟨by omega, ?_⟩
 refine xloop_ok (D := Nat) (fun j => ⟨[(1, .box h.length 0), (4, .v (.int .i64 j))], [(3, .sl 1 (bytesE (C ++ numsL (m.oids.take j))) none (.own (.slot 3)))], h ++ [smC m], []⟩) (fun j => j <= m.oids.length) (fun j => m.oids.length - j) 0 (by simp) ?_ ?_
 ·simp [Leq, hh, <- hC, numsL]
 ·intro j hj
  by_cases hlt : j < m.oids.length
  ·have hw : IntKind.i64.wrap ((j : Int) + 1) = (j : Int) + 1 := wrap64 (by omega) (by omega)
   have hx : numsL (m.oids.take (j + 1)) = numsL (m.oids.take j) ++ numE 4 m.oids[j] := flat_next _ hlt
   have h1 := numsL_le (m.oids.take j)
   rw [List.length_take] at h1
   have h2 := numE_le m.oids[j]
   simp [hlt, intC]
   refine xcall_of (krput_c (C ++ numsL (m.oids.take j)) m.oids[j] (by rw [List.length_append]; omega) _) (by simp) (by simp) ?_
   generalize numE 4 m.oids[j] = X at *
   simp [hw]
   refine ⟨j + 1, by omega, by omega, ?_⟩
   simp [Leq, hh, hx]
  ·have : j = m.oids.length := by omega
   subst this
   simp [hh, unbytes_two]
theorem ktypes_c (b : List UInt8) (h : List (List AV)) : Contract Tryz.prog 116 [.sl 1 (bytesE b) none .no] h (.fn (.func 137) [] [.box h.length 0]) (h ++ [[.sl 1 (bytesE b) none .no]]) [] := by
 refine contract_of k116 mixed (by simp [c116]) fun hh hargs => ?_
 simp [c116, hh]
def RB (i0 : Nat) (b : List UInt8) (L : Nat) (H : List (List AV)) : Prop := H.length = L /\ ltLL L H /\ H[i0]? = some [.sl 1 (bytesE b) none .no]
theorem gerr_ok {len j : Nat} (h : 4 * j + 4 <= len) : getErr len (4 * (j : Int)) 4 = 0 := by
 have := getErr_ok (len := len) (i := 4 * j) (size := 4) sz4.szB h
 simpa using this
theorem gerr_no {len j : Nat} (h : len < 4 * j + 4) : getErr len (4 * (j : Int)) 4 = 3 := getErr_short (by rfl) (by omega) (by omega)
theorem gval_ok {b : List UInt8} {j : Nat} (h : 4 * j + 4 <= b.length) : getVal b (4 * (j : Int)) 4 = getI b (4 * j) 4 := by
 unfold getVal
 rw [if_pos (gerr_ok h)]
 congr 1
theorem ktypes_iter (b : List UInt8) (hb : b.length <= 100000) (i0 L : Nat) : Iter Tryz.prog 137 [.box i0 0] (b.length / 4) (fun j => [.v (.int .i64 (getI b (4 * j) 4))]) true (RB i0 b L) := by
 intro i r c slots H wr hR hY
 have hL : ∀ j, j <= b.length / 4 -> (H j).length = L := fun j hj => (hR j hj).1
 have hT : ∀ j, j <= b.length / 4 -> ltLL L (H j) := fun j hj => (hR j hj).2.1
 have hI : ∀ j, j <= b.length / 4 -> (H j)[i0]? = some [.sl 1 (bytesE b) none .no] := fun j hj => (hR j hj).2.2
 have h0 := hL 0 (by omega)
 refine contract_of k137 mixed (by simp [c137]) fun hh hargs => ?_
 rw [h0] at hh hargs ⊢
 simp at hargs
 simp [c137]
 refine xloop_ok (D := Nat) (fun j => ⟨[(0, .yld i r c slots), (1, .box i0 0), (3, .v (.int .i64 (4 * (j : Int))))], [], H j, wr⟩) (fun j => j <= b.length / 4) (fun j => b.length / 4 - j) 0 (by omega) ?_ ?_
 ·simp [Leq, hh, h0, hargs, leqH_take]
 ·intro j hj
  simp [hI j hj]
  refine xcall_self (by simp) (get_c b (4 * (j : Int)) 4 _) ?_
  by_cases hlt : j < b.length / 4
  ·have hw : IntKind.i64.wrap (4 * (j : Int) + 4) = 4 * (j : Int) + 4 := wrap64 (by omega) (by omega)
   rw [gerr_ok (by omega), gval_ok (by omega)]
   simp
   refine xyield_self (by simp) (hY j hlt) ?_
   have h1 := hL j hj
   have h2 := hL (j + 1) (by omega)
   have h3 := hT (j + 1) (by omega)
   simp [hw]
   refine ⟨j + 1, by omega, by omega, ?_⟩
   have e1 : 4 * ((j : Int) + 1) = 4 * j + 4 := by omega
   simp [Leq, h0, h2, h3, hargs, leqH_take, e1, sub_self]
  ·have : j = b.length / 4 := by omega
   subst this
   rw [gerr_no (by omega)]
   have h2 := hL _ hj
   have h3 := hT _ hj
   simp [h2, h3, leqH_take, sub_self]
def lenK (b : List UInt8) : Nat := (getI b 0 4).toNat
def textK (b : List UInt8) : List UInt8 := (b.drop 4).take (lenK b)
def restK (b : List UInt8) : List UInt8 := b.drop (4 + lenK b)
def splitOk (b : List UInt8) : Bool := decide (4 + lenK b <= b.length) && (restK b).length % 4 == 0
def splitK (b : List UInt8) : Sm := if splitOk b = true then ⟨textK b, numsOf (restK b) ((restK b).length / 4)⟩ else ⟨[], []⟩
theorem lenK_eq (b : List UInt8) : getI b 0 4 = (lenK b : Int) := by
 have := (getI_lt b 0 4 (by omega)).1
 unfold lenK; omega
def oidK (R : List UInt8) (i : Nat) : Nat -> AV
 | 0 => .sl 0 [] (some true) .exact
 | j + 1 => .sl 1 (enc intC (numsOf R (j + 1))) none (.own (.cell i 1))
def heapK (b R : List UInt8) (h : List (List AV)) (j : Nat) : List (List AV) := h ++ [[.v (.string (strB [])), .sl 0 [] (some true) .exact], [.v (.string (strB (textK b))), oidK R (h.length + 1) j], [.sl 1 (bytesE R) none .no]]
theorem heapK_len (b R : List UInt8) (h : List (List AV)) (j : Nat) : (heapK b R h j).length = h.length + 3 := by simp [heapK]
theorem oidK_lt (R : List UInt8) (i n : Nat) : ∀ j, (oidK R i j).lt n
 | 0 => by simp [oidK]
 | j + 1 => by simp [oidK]
theorem heapK_lt (b R : List UInt8) {h : List (List AV)} (hh : ltLL h.length h) (n : Nat) (hn : h.length <= n) (j : Nat) : ltLL n (heapK b R h j) := by
 have := oidK_lt R (h.length + 1) n j
 simp [heapK, this, ltLL_mono hn hh]
theorem heapK_RB (b R : List UInt8) {h : List (List AV)} (hh : ltLL h.length h) (j : Nat) : RB (h.length + 2) R (h.length + 4) (heapK b R h j ++ [lstate false false]) :=
 ⟨by simp [heapK], by have := heapK_lt b R hh (h.length + 4) (by omega) j; simp [this], by simp [heapK]⟩
theorem ksplit_c (b : List UInt8) (hb : b.length <= 100000) (h : List (List AV)) : Contract Tryz.prog 86 [.v (.string (strB b))] h (.tup [.agg (smC (splitK b)), .v (.bool (splitOk b))]) h [] := by
 refine contract_of k86 mixed (by simp [c86]) fun hh hargs => ?_
 simp [c86]
 refine ⟨by omega, ?_⟩
 refine xcall_self (by simp) (get_c b 0 4 _) ?_
 by_cases h4 : 4 <= b.length
 ·have he : getErr b.length 0 4 = 0 := getErr_ok (i := 0) (size := 4) sz4.szB (by omega)
  have hv : getVal b 0 4 = (lenK b : Int) := by
   unfold getVal; rw [if_pos he]; exact lenK_eq b
  rw [he, hv]
  obtain ⟨L, hL⟩ : ∃ L, lenK b = L := ⟨_, rfl⟩
  have hw4 : IntKind.i64.wrap ((b.length : Int) - 4) = (b.length : Int) - 4 := wrap64 (by omega) (by omega)
  by_cases h5 : 4 + L <= b.length
  ·have h5' : ¬ (b.length : Int) - 4 < (L : Int) := by omega
   have hw5 : IntKind.i64.wrap (4 + (L : Int)) = 4 + (L : Int) := wrap64 (by omega) (by omega)
   have hN : (4 + (L : Int)).toNat = 4 + L := by omega
   have hT : List.drop 4 (List.take (4 + L) b) = textK b := by unfold textK; rw [hL, List.drop_take]; congr 1; omega
   obtain ⟨R, hR⟩ : ∃ R, List.drop (4 + L) b = R := ⟨_, rfl⟩
   have hR' : restK b = R := by unfold restK; rw [hL]; exact hR
   have hRl : b.length - (4 + L) = R.length := by rw [<- hR]; simp
   obtain ⟨q, hq⟩ : ∃ q, R.length / 4 = q := ⟨_, rfl⟩
   simp [hL, hw4, h5', hw5, hN, hT, hR, hRl]
   refine ⟨⟨by omega, by omega⟩, ⟨by omega, by omega⟩, ?_⟩
   by_cases hm : R.length % 4 = 0
   ·have ho : splitOk b = true := by unfold splitOk; rw [hL, hR']; simp [hm]; omega
    have hm1 : (R.length : Int).tmod 4 = 0 := by rw [Int.tmod_eq_emod_of_nonneg (by omega)]; omega
    have hq1 : (R.length : Int).tdiv 4 = (q : Int) := by rw [Int.tdiv_eq_ediv_of_nonneg (by omega)]; omega
    have hw6 : IntKind.i64.wrap (q : Int) = (q : Int) := wrap64 (by omega) (by omega)
    simp [hm1, hq1, hw6]
    refine xcall_self (by simp) (fits_c L q _) ?_
    have f1 : (L : Int) <= 1048576 := by omega
    have f2 : (q : Int) <= 65535 := by omega
    simp [f1, f2]
    refine xcall_self (by simp) (ktypes_c R _) ?_
    simp
    subst hq
    refine xrange_all (ktypes_iter R (by rw [<- hR]; simp; omega) (h.length + 2) (h.length + 4)) (heapK b R h) [h.length + 1, h.length + 3] (by simp) (by simp) (fun _ => trivial) (fun _ => trivial) (by simp [heapK, oidK]) (fun j _ => by simp [heapK_len]) (fun j _ => heapK_RB b R hh j) (by simpa using heapK_lt b R hh (h.length + 3) (by omega) _) (fun j hj => ⟨rfl, by simp, ?_⟩) ?_
    ·cases j with
     | zero =>
      have e1 : numsOf R 1 = [getI R 0 4] := rfl
      simp [heapK, oidK]
      refine xappendA_own ?_
      simp [rnd, stays, e1, intC, hh]
     | succ j =>
      have e1 := numsOf_succ R (j + 1)
      simp [heapK, oidK, unownAt]
      refine ⟨by omega, by omega, ?_⟩
      simp [rnd, stays, intC, hh, e1]
    ·have hk : splitK b = ⟨textK b, numsOf R (R.length / 4)⟩ := by unfold splitK; rw [if_pos ho, hR']
     rw [hk, ho]
     cases R.length / 4 with
     | zero =>
      simp [heapK, oidK, numsOf_zero, smC_mk, hh]
     | succ j =>
      simp [heapK, oidK, smC_mk, hh]
   ·have ho : splitOk b = false := by unfold splitOk; rw [hL, hR']; simp [hm]
    have hm1 : ¬ (R.length : Int).tmod 4 = 0 := by rw [Int.tmod_eq_emod_of_nonneg (by omega)]; omega
    have hm2 : ((R.length : Int).tmod 4 != 0) = true := by simpa using hm1
    simp [hm2, hh, splitK, ho, smC_mk]
  ·have h5' : (b.length : Int) - 4 < (L : Int) := by omega
   have ho : splitOk b = false := by unfold splitOk; rw [hL]; simp; omega
   simp [hL, hw4, h5', hh, splitK, ho, smC_mk]
 ·have he : getErr b.length 0 4 = 3 := getErr_short (by rfl) (by omega) (by omega)
  have ho : splitOk b = false := by unfold splitOk; simp; omega
  rw [he]
  simp [hh, splitK, ho, smC_mk]
def sameK (a b : Sm) : Bool := a.text == b.text && a.oids == b.oids
theorem sameK_eq (a b : Sm) : sameK a b = decide (a = b) := by
 obtain ⟨a1, a2⟩ := a
 obtain ⟨b1, b2⟩ := b
 rw [Bool.eq_iff_iff]
 simp [sameK]
theorem krsame_c (a b : Sm) (hl : a.oids.length <= 140737488355328) (h : List (List AV)) : Contract Tryz.prog 89 [.agg (smC a), .agg (smC b)] h (.v (.bool (sameK a b))) h [] := by
 refine contract_of k89 mixed (by simp [c89]) fun hh hargs => ?_
 cases ht : a.text == b.text with
 | false => simp [c89, ht, hh, sameK]
 | true =>
  simp [c89, ht]
  refine xcall_self (by simp) (rints_c _ _ hl _) ?_
  simp [hh, sameK, ht]
def fewK (m : Sm) : Bool := decide ((m.text.length : Int) <= 1000) && decide ((m.oids.length : Int) <= 50)
theorem few_yes {m : Sm} (h : fewK m = true) : m.text.length <= 1000 /\ m.oids.length <= 50 := by
 unfold fewK at h
 simp at h
 omega
theorem keyB_len {m : Sm} (h : fewK m = true) : (keyB m).length <= 1300 := by
 obtain ⟨h1, h2⟩ := few_yes h
 unfold keyB
 split
 ·unfold keyBytes
  have h3 := numE_le (m.text.length : Int)
  have h4 := numsL_le m.oids
  rw [List.length_append, List.length_append]; omega
 ·simp
theorem key_split {m : Sm} (h : keyable m = true) : splitOk (keyB m) = true /\ splitK (keyB m) = m := by
 have hk : keyB m = numE 4 m.text.length ++ (m.text ++ numsL m.oids) := by unfold keyB; rw [if_pos h]; unfold keyBytes; rw [List.append_assoc]
 unfold keyable okList at h
 simp only [Bool.and_eq_true, decide_eq_true_eq] at h
 obtain ⟨h1, h2, h3⟩ := h
 have ho : okT (m.text.length : Int) = true := (okT_iff _).2 (by omega)
 have h4 := numE_four ho
 have ha : ∀ n ∈ m.oids, okT n = true := fun n hn => List.all_eq_true.1 h3 n hn
 have h5 := numsL_len ha
 have hL : lenK (keyB m) = m.text.length := by
  unfold lenK
  rw [hk, getI_pre _ _ _ _ (by omega), numE_back ho]; simp
 have hd : (keyB m).drop 4 = m.text ++ numsL m.oids := by rw [hk, show 4 = (numE 4 (m.text.length : Int)).length from h4.symm, List.drop_left]
 have ht : textK (keyB m) = m.text := by unfold textK; rw [hL, hd, List.take_left]
 have hr : restK (keyB m) = numsL m.oids := by unfold restK; rw [hL, <- List.drop_drop, hd, List.drop_left]
 have hlen : (keyB m).length = 4 + (m.text.length + (numsL m.oids).length) := by rw [hk, List.length_append, List.length_append, h4]
 have hs : splitOk (keyB m) = true := by
  unfold splitOk
  rw [hL, hr, Bool.and_eq_true, decide_eq_true_eq, beq_iff_eq]
  omega
 refine ⟨hs, ?_⟩
 unfold splitK
 rw [if_pos hs, ht, hr, show (numsL m.oids).length / 4 = m.oids.length by omega, numsOf_numsL ha]
theorem keyB_none {m : Sm} (h : keyable m = false) : keyB m = [] := by unfold keyB; rw [h]; rfl
theorem keyB_some {m : Sm} (h : keyable m = true) : keyB m ≠ [] := fun e => by
 have hk : keyB m = keyBytes m := by unfold keyB; rw [if_pos h]
 rw [hk] at e
 unfold keyBytes at e
 unfold keyable at h
 simp only [Bool.and_eq_true, decide_eq_true_eq] at h
 have h4 := numE_four (n := m.text.length) ((okT_iff _).2 (by omega))
 rw [List.append_eq_nil_iff, List.append_eq_nil_iff] at e
 rw [e.1.1] at h4
 cases h4
theorem keyB_inj {a b : Sm} (ha : keyable a = true) (hb : keyable b = true) : keyB a = keyB b ↔ a = b := by
 constructor
 ·intro e
  have h1 := (key_split ha).2
  rw [e, (key_split hb).2] at h1
  exact h1.symm
 ·rintro rfl; rfl
end Go.Proofs.YtdfgljojemmlcaaGreat.Ax
