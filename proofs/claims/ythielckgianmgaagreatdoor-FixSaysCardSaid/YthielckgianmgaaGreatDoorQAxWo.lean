/- The contracts of what package wire writes, over values without memory. -/
import Derived.Test.YthielckgianmgaaGreatDoorQAxHs
import Derived.Test.YthielckgianmgaaGreatDoorRows
import Derived.Test.YthielckgianmgaaGreatDoorQAxSc
import Derived.Test.YthielckgianmgaaGreatDoorQAxKc0
import Derived.Test.YthielckgianmgaaGreatDoorQHelA
/- The texts of functions over values without memory, as the kernel reckons them out of the program. -/
namespace Go.Proofs.YthielckgianmgaaGreatDoor.Ax
open Go.RowKit Go By

def c96 : XFun := ⟨19, (.seq (.ops [⟨(some 2), (.assign (.const (.slice none 0 0))), none⟩]) (.seq (.ops [⟨(some 3), (.assign (.const (.slice none 0 0))), none⟩]) (.seq (.seq (.ops [⟨(some 6), (.move (.tmp 0)), none⟩, ⟨(some 7), (.lenL (.tmp 6)), none⟩, ⟨(some 8), (.move (.const (.int .i64 0))), none⟩]) (.block 0 (.loop (.seq (.ops [⟨(some 9), (.bin .lss (.tmp 8) (.tmp 7)), none⟩]) (.seq (.cond (.tmp 9) .skip (.exit 0)) (.seq (.block 1 (.seq (.ops [⟨(some 10), (.iaddr 1 (.tmp 6) (.tmp 8)), none⟩, ⟨(some 11), (.load1 (.tmp 10)), none⟩, ⟨(some 5), (.assign (.tmp 11)), none⟩]) (.ops [⟨(some 12), (.move (.tmp 3)), none⟩, ⟨(some 13), (.move (.tmp 5)), none⟩, ⟨(some 14), (.appendS (.tmp 12) (.tmp 13)), none⟩, ⟨(some 15), (.buildSlice 1 1 [(.v (.int .u8 0))] [(0, (.const (.int .u8 0)))]), none⟩, ⟨(some 16), (.append 1 1 (.tmp 14) (.tmp 15)), none⟩, ⟨(some 3), (.assign (.tmp 16)), none⟩]))) (.ops [⟨(some 17), (.bin .add (.tmp 8) (.const (.int .i64 1))), none⟩, ⟨(some 8), (.move (.tmp 17)), none⟩]))))))) (.seq (.ops [⟨(some 18), (.move (.tmp 3)), none⟩, ⟨(some 2), (.assign (.tmp 18)), none⟩]) .ret)))), [(.move (.tmp 2))]⟩
theorem k96 : cfun Tryz.prog 96 = some c96 := by kernel_rfl
def c92 : XFun := ⟨6, (.seq (.ops [⟨(some 2), (.assign (.const (.bool false))), none⟩]) (.seq (.ops [⟨(some 3), (.move (.tmp 0)), none⟩, ⟨(some 4), (.call 127 [(.tmp 3), (.func 128)]), none⟩, ⟨(some 5), (.un .not (.tmp 4)), none⟩, ⟨(some 2), (.assign (.tmp 5)), none⟩]) .ret)), [(.move (.tmp 2))]⟩
theorem k92 : cfun Tryz.prog 92 = some c92 := by kernel_rfl
def c146 : XFun := ⟨9, (.seq (.ops [⟨(some 2), (.box (.tmp 0)), none⟩, ⟨(some 4), (.assign (.const (.bool false))), none⟩]) (.seq (.ops [⟨(some 5), (.move (.tmp 1)), none⟩, ⟨(some 6), (.mkfn (.func 152) [] [(.tmp 2)]), none⟩, ⟨(some 7), (.call 130 [(.tmp 5), (.tmp 6)]), none⟩, ⟨(some 8), (.un .not (.tmp 7)), none⟩, ⟨(some 4), (.assign (.tmp 8)), none⟩]) .ret)), [(.move (.tmp 4))]⟩
theorem k146 : cfun Tryz.prog 146 = some c146 := by kernel_rfl
def c31 : XFun := ⟨8, (.seq (.ops [⟨(some 4), (.assign (.const (.bool false))), none⟩]) (.seq (.ops [⟨(some 5), (.move (.tmp 0)), none⟩, ⟨(some 6), (.move (.tmp 1)), none⟩, ⟨(some 7), (.call 51 [(.tmp 5), (.tmp 6), (.func 52)]), none⟩, ⟨(some 4), (.assign (.tmp 7)), none⟩]) .ret)), [(.move (.tmp 4))]⟩
theorem k31 : cfun Tryz.prog 31 = some c31 := by kernel_rfl
def c93 : XFun := ⟨9, (.seq (.ops [⟨(some 2), (.box (.tmp 0)), none⟩, ⟨(some 4), (.assign (.const (.bool false))), none⟩]) (.seq (.ops [⟨(some 5), (.move (.tmp 1)), none⟩, ⟨(some 6), (.mkfn (.func 131) [] [(.tmp 2)]), none⟩, ⟨(some 7), (.call 130 [(.tmp 5), (.tmp 6)]), none⟩, ⟨(some 8), (.un .not (.tmp 7)), none⟩, ⟨(some 4), (.assign (.tmp 8)), none⟩]) .ret)), [(.move (.tmp 4))]⟩
theorem k93 : cfun Tryz.prog 93 = some c93 := by kernel_rfl
def c101 : XFun := ⟨8, (.seq (.ops [⟨(some 2), (.box (.tmp 0)), none⟩, ⟨(some 4), (.assign (.const (.slice none 0 0))), none⟩]) (.seq (.ops [⟨(some 5), (.move (.tmp 1)), none⟩, ⟨(some 6), (.mkfn (.func 137) [] [(.tmp 2)]), none⟩, ⟨(some 7), (.call 136 [(.tmp 5), (.tmp 6)]), none⟩, ⟨(some 4), (.assign (.tmp 7)), none⟩]) .ret)), [(.move (.tmp 4))]⟩
theorem k101 : cfun Tryz.prog 101 = some c101 := by kernel_rfl
def c98 : XFun := ⟨5, (.seq (.ops [⟨(some 2), (.assign (.const (.slice none 0 0))), none⟩]) (.seq (.ops [⟨(some 3), (.move (.tmp 0)), none⟩, ⟨(some 4), (.call 133 [(.tmp 3), (.func 134)]), none⟩, ⟨(some 2), (.assign (.tmp 4)), none⟩]) .ret)), [(.move (.tmp 2))]⟩
theorem k98 : cfun Tryz.prog 98 = some c98 := by kernel_rfl
def c122 : XFun := ⟨6, (.seq (.ops [⟨(some 2), (.assign (.const (.bool false))), none⟩]) (.seq (.ops [⟨(some 3), (.move (.tmp 0)), none⟩, ⟨(some 4), (.call 25 [(.tmp 3), (.func 145)]), none⟩, ⟨(some 5), (.un .not (.tmp 4)), none⟩, ⟨(some 2), (.assign (.tmp 5)), none⟩]) .ret)), [(.move (.tmp 2))]⟩
theorem k122 : cfun Tryz.prog 122 = some c122 := by kernel_rfl
def c128 : XFun := ⟨6, (.seq (.ops [⟨(some 2), (.assign (.const (.bool false))), none⟩]) (.seq (.ops [⟨(some 3), (.move (.tmp 0)), none⟩, ⟨(some 4), (.call 129 [(.tmp 3)]), none⟩, ⟨(some 5), (.un .not (.tmp 4)), none⟩, ⟨(some 2), (.assign (.tmp 5)), none⟩]) .ret)), [(.move (.tmp 2))]⟩
theorem k128 : cfun Tryz.prog 128 = some c128 := by kernel_rfl
def c152 : XFun := ⟨15, (.seq (.ops [⟨(some 3), (.assign (.const (.bool false))), none⟩]) (.seq (.ops [⟨(some 4), (.move (.tmp 0)), none⟩, ⟨(some 5), (.load1 (.tmp 1)), none⟩, ⟨(some 6), (.call 75 [(.tmp 4), (.tmp 5)]), none⟩, ⟨(some 7), (.un .not (.tmp 6)), none⟩, ⟨(some 8), (.move (.tmp 7)), none⟩, ⟨(some 9), (.move (.tmp 0)), (some (8, false))⟩, ⟨(some 10), (.load1 (.tmp 1)), (some (8, false))⟩, ⟨(some 11), (.call 153 [(.tmp 9), (.tmp 10)]), (some (8, false))⟩, ⟨(some 12), (.move (.tmp 0)), (some (8, false))⟩, ⟨(some 13), (.bin .neq (.tmp 11) (.tmp 12)), (some (8, false))⟩, ⟨(some 14), (.pick (.tmp 8) (.const (.bool true)) (.tmp 13)), none⟩, ⟨(some 3), (.assign (.tmp 14)), none⟩]) .ret)), [(.move (.tmp 3))]⟩
theorem k152 : cfun Tryz.prog 152 = some c152 := by kernel_rfl
def c52 : XFun := ⟨17, (.seq (.ops [⟨(some 2), (.box (.tmp 0)), none⟩, ⟨(some 3), (.box (.tmp 1)), none⟩, ⟨(some 4), (.assign (.const (.bool false))), none⟩]) (.seq (.ops [⟨(some 5), (.faddr 0 (.tmp 2)), none⟩, ⟨(some 6), (.load1 (.tmp 5)), none⟩, ⟨(some 7), (.faddr 0 (.tmp 3)), none⟩, ⟨(some 8), (.load1 (.tmp 7)), none⟩, ⟨(some 9), (.beq false (.tmp 6) (.tmp 8)), none⟩, ⟨(some 10), (.move (.tmp 9)), none⟩, ⟨(some 11), (.faddr 1 (.tmp 2)), (some (10, true))⟩, ⟨(some 12), (.load1 (.tmp 11)), (some (10, true))⟩, ⟨(some 13), (.faddr 1 (.tmp 3)), (some (10, true))⟩, ⟨(some 14), (.load1 (.tmp 13)), (some (10, true))⟩, ⟨(some 15), (.call 12 [(.tmp 12), (.tmp 14)]), (some (10, true))⟩, ⟨(some 16), (.pick (.tmp 10) (.tmp 15) (.const (.bool false))), none⟩, ⟨(some 4), (.assign (.tmp 16)), none⟩]) .ret)), [(.move (.tmp 4))]⟩
theorem k52 : cfun Tryz.prog 52 = some c52 := by kernel_rfl
def c131 : XFun := ⟨12, (.seq (.ops [⟨(some 3), (.assign (.const (.bool false))), none⟩]) (.seq (.ops [⟨(some 4), (.move (.tmp 0)), none⟩, ⟨(some 5), (.bin .lss (.tmp 4) (.const (.int .i64 0))), none⟩, ⟨(some 6), (.move (.tmp 5)), none⟩, ⟨(some 7), (.move (.tmp 0)), (some (6, false))⟩, ⟨(some 8), (.load1 (.tmp 1)), (some (6, false))⟩, ⟨(some 9), (.call 75 [(.tmp 7), (.tmp 8)]), (some (6, false))⟩, ⟨(some 10), (.un .not (.tmp 9)), (some (6, false))⟩, ⟨(some 11), (.pick (.tmp 6) (.const (.bool true)) (.tmp 10)), none⟩, ⟨(some 3), (.assign (.tmp 11)), none⟩]) .ret)), [(.move (.tmp 3))]⟩
theorem k131 : cfun Tryz.prog 131 = some c131 := by kernel_rfl
def c136 : XFun := ⟨24, (.seq (.ops [⟨(some 4), (.assign (.const (.slice none 0 0))), none⟩]) (.seq (.ops [⟨(some 8), (.move (.tmp 0)), none⟩, ⟨(some 9), (.lenL (.tmp 8)), none⟩, ⟨(some 10), (.call 63 [(.const (.slice none 0 0)), (.tmp 9), (.const (.int .i64 2))]), none⟩, ⟨(some 5), (.assign (.tmp 10)), none⟩]) (.seq (.seq (.ops [⟨(some 11), (.move (.tmp 0)), none⟩, ⟨(some 12), (.lenL (.tmp 11)), none⟩, ⟨(some 13), (.move (.const (.int .i64 0))), none⟩]) (.block 0 (.loop (.seq (.ops [⟨(some 14), (.bin .lss (.tmp 13) (.tmp 12)), none⟩]) (.seq (.cond (.tmp 14) .skip (.exit 0)) (.seq (.block 1 (.seq (.ops [⟨(some 15), (.iaddr 1 (.tmp 11) (.tmp 13)), none⟩, ⟨(some 16), (.load1 (.tmp 15)), none⟩, ⟨(some 7), (.assign (.tmp 16)), none⟩]) (.ops [⟨(some 17), (.move (.tmp 5)), none⟩, ⟨(some 18), (.move (.tmp 1)), none⟩, ⟨(some 19), (.move (.tmp 7)), none⟩, ⟨(some 20), (.callv (.tmp 18) [(.tmp 19)]), none⟩, ⟨(some 21), (.append 1 1 (.tmp 17) (.tmp 20)), none⟩, ⟨(some 5), (.assign (.tmp 21)), none⟩]))) (.ops [⟨(some 22), (.bin .add (.tmp 13) (.const (.int .i64 1))), none⟩, ⟨(some 13), (.move (.tmp 22)), none⟩]))))))) (.seq (.ops [⟨(some 23), (.move (.tmp 5)), none⟩, ⟨(some 4), (.assign (.tmp 23)), none⟩]) .ret)))), [(.move (.tmp 4))]⟩
theorem k136 : cfun Tryz.prog 136 = some c136 := by kernel_rfl
def c137 : XFun := ⟨7, (.seq (.ops [⟨(some 3), (.assign (.const (.slice none 0 0))), none⟩]) (.seq (.ops [⟨(some 4), (.move (.tmp 0)), none⟩, ⟨(some 5), (.load1 (.tmp 1)), none⟩, ⟨(some 6), (.call 63 [(.const (.slice none 0 0)), (.tmp 4), (.tmp 5)]), none⟩, ⟨(some 3), (.assign (.tmp 6)), none⟩]) .ret)), [(.move (.tmp 3))]⟩
theorem k137 : cfun Tryz.prog 137 = some c137 := by kernel_rfl
def c133 : XFun := ⟨24, (.seq (.ops [⟨(some 4), (.assign (.const (.slice none 0 0))), none⟩]) (.seq (.ops [⟨(some 8), (.move (.tmp 0)), none⟩, ⟨(some 9), (.lenL (.tmp 8)), none⟩, ⟨(some 10), (.call 63 [(.const (.slice none 0 0)), (.tmp 9), (.const (.int .i64 2))]), none⟩, ⟨(some 5), (.assign (.tmp 10)), none⟩]) (.seq (.seq (.ops [⟨(some 11), (.move (.tmp 0)), none⟩, ⟨(some 12), (.lenL (.tmp 11)), none⟩, ⟨(some 13), (.move (.const (.int .i64 0))), none⟩]) (.block 0 (.loop (.seq (.ops [⟨(some 14), (.bin .lss (.tmp 13) (.tmp 12)), none⟩]) (.seq (.cond (.tmp 14) .skip (.exit 0)) (.seq (.block 1 (.seq (.ops [⟨(some 15), (.iaddr 2 (.tmp 11) (.tmp 13)), none⟩, ⟨(some 16), (.loadN 2 (.tmp 15)), none⟩, ⟨(some 7), (.alloc [(.v (.bool false)), (.sl 0 [] (some true) .exact)]), none⟩, ⟨none, (.store 2 (.tmp 7) (.tmp 16)), none⟩]) (.ops [⟨(some 17), (.move (.tmp 5)), none⟩, ⟨(some 18), (.move (.tmp 1)), none⟩, ⟨(some 19), (.loadN 2 (.tmp 7)), none⟩, ⟨(some 20), (.callv (.tmp 18) [(.tmp 19)]), none⟩, ⟨(some 21), (.append 1 1 (.tmp 17) (.tmp 20)), none⟩, ⟨(some 5), (.assign (.tmp 21)), none⟩]))) (.ops [⟨(some 22), (.bin .add (.tmp 13) (.const (.int .i64 1))), none⟩, ⟨(some 13), (.move (.tmp 22)), none⟩]))))))) (.seq (.ops [⟨(some 23), (.move (.tmp 5)), none⟩, ⟨(some 4), (.assign (.tmp 23)), none⟩]) .ret)))), [(.move (.tmp 4))]⟩
theorem k133 : cfun Tryz.prog 133 = some c133 := by kernel_rfl
def c134 : XFun := ⟨13, (.seq (.ops [⟨(some 1), (.box (.tmp 0)), none⟩, ⟨(some 2), (.assign (.const (.slice none 0 0))), none⟩]) (.seq (.seq (.ops [⟨(some 3), (.faddr 0 (.tmp 1)), none⟩, ⟨(some 4), (.load1 (.tmp 3)), none⟩]) (.cond (.tmp 4) (.seq (.ops [⟨(some 5), (.call 63 [(.const (.slice none 0 0)), (.const (.int .i64 4294967295)), (.const (.int .i64 4))]), none⟩, ⟨(some 2), (.assign (.tmp 5)), none⟩]) .ret) .skip)) (.seq (.draws (.take ⟨(some 6), (.faddr 1 (.tmp 1)), none⟩ (.take ⟨(some 7), (.load1 (.tmp 6)), none⟩ (.take ⟨(some 8), (.lenL (.tmp 7)), none⟩ (.take ⟨(some 10), (.faddr 1 (.tmp 1)), none⟩ (.take ⟨(some 11), (.load1 (.tmp 10)), none⟩ (.only ⟨(some 9), (.call 63 [(.const (.slice none 0 0)), (.tmp 8), (.const (.int .i64 4))]), none⟩ (.only ⟨(some 12), (.append 1 1 (.tmp 9) (.tmp 11)), none⟩ (.take ⟨(some 2), (.assign (.tmp 12)), none⟩ .done))))))))) .ret))), [(.move (.tmp 2))]⟩
theorem k134 : cfun Tryz.prog 134 = some c134 := by kernel_rfl
def c145 : XFun := ⟨17, (.seq (.ops [⟨(some 1), (.box (.tmp 0)), none⟩, ⟨(some 2), (.assign (.const (.bool false))), none⟩]) (.seq (.ops [⟨(some 3), (.faddr 1 (.tmp 1)), none⟩, ⟨(some 4), (.load1 (.tmp 3)), none⟩, ⟨(some 5), (.lenL (.tmp 4)), none⟩, ⟨(some 6), (.bin .gtr (.tmp 5) (.const (.int .i64 1048576))), none⟩, ⟨(some 7), (.move (.tmp 6)), none⟩, ⟨(some 8), (.faddr 0 (.tmp 1)), (some (7, false))⟩, ⟨(some 9), (.load1 (.tmp 8)), (some (7, false))⟩, ⟨(some 10), (.move (.tmp 9)), (some (7, false))⟩, ⟨(some 11), (.faddr 1 (.tmp 1)), (some (10, true))⟩, ⟨(some 12), (.load1 (.tmp 11)), (some (10, true))⟩, ⟨(some 13), (.lenL (.tmp 12)), (some (10, true))⟩, ⟨(some 14), (.bin .gtr (.tmp 13) (.const (.int .i64 0))), (some (10, true))⟩, ⟨(some 15), (.pick (.tmp 10) (.tmp 14) (.const (.bool false))), (some (7, false))⟩, ⟨(some 16), (.pick (.tmp 7) (.const (.bool true)) (.tmp 15)), none⟩, ⟨(some 2), (.assign (.tmp 16)), none⟩]) .ret)), [(.move (.tmp 2))]⟩
theorem k145 : cfun Tryz.prog 145 = some c145 := by kernel_rfl
def c55 : XFun := ⟨24, (.seq (.ops [⟨(some 2), (.assign (.const (.slice none 0 0))), none⟩]) (.seq (.ops [⟨(some 5), (.move (.tmp 0)), none⟩, ⟨(some 6), (.call 70 [(.tmp 5)]), none⟩, ⟨(some 3), (.assign (.tmp 6)), none⟩]) (.seq (.seq (.ops [⟨(some 7), (.move (.tmp 3)), none⟩, ⟨(some 8), (.lenL (.tmp 7)), none⟩, ⟨(some 9), (.move (.const (.int .i64 0))), none⟩]) (.block 0 (.loop (.seq (.ops [⟨(some 10), (.bin .lss (.tmp 9) (.tmp 8)), none⟩]) (.seq (.cond (.tmp 10) .skip (.exit 0)) (.seq (.block 1 (.seq (.ops [⟨(some 11), (.move (.tmp 9)), none⟩, ⟨(some 4), (.assign (.tmp 11)), none⟩]) (.ops [⟨(some 12), (.move (.tmp 3)), none⟩, ⟨(some 13), (.move (.tmp 4)), none⟩, ⟨(some 14), (.move (.tmp 3)), none⟩, ⟨(some 15), (.move (.tmp 4)), none⟩, ⟨(some 16), (.iaddr 2 (.tmp 14) (.tmp 15)), none⟩, ⟨(some 17), (.faddr 1 (.tmp 16)), none⟩, ⟨(some 18), (.load1 (.tmp 17)), none⟩, ⟨(some 19), (.call 71 [(.tmp 18)]), none⟩, ⟨(some 20), (.iaddr 2 (.tmp 12) (.tmp 13)), none⟩, ⟨(some 21), (.faddr 1 (.tmp 20)), none⟩, ⟨none, (.store 1 (.tmp 21) (.tmp 19)), none⟩]))) (.ops [⟨(some 22), (.bin .add (.tmp 9) (.const (.int .i64 1))), none⟩, ⟨(some 9), (.move (.tmp 22)), none⟩]))))))) (.seq (.ops [⟨(some 23), (.move (.tmp 3)), none⟩, ⟨(some 2), (.assign (.tmp 23)), none⟩]) .ret)))), [(.move (.tmp 2))]⟩
theorem k55 : cfun Tryz.prog 55 = some c55 := by kernel_rfl
end Go.Proofs.YthielckgianmgaaGreatDoor.Ax
/- The contracts of package wire's checks and of what it writes, over values without memory. -/
namespace Go.Proofs.YthielckgianmgaaGreatDoor.Ax
open Go.RowKit Go By Nm Sc Dg
set_option linter.unusedSimpArgs false
set_option maxRecDepth 10000

/-! ### bytes.Equal -/
theorem equal_c (xs ys : List UInt8) (h : List (List AV)) : Contract Tryz.prog 12 [.sl 1 (bytesE xs) none .no, .sl 1 (bytesE ys) none .no] h (.v (.bool (xs == ys))) h [] := by
  refine contract_of k12 mixed (by simp [c12]) fun hh hargs => ?_
  simp [c12, hh]

/-! ### Checks -/
theorem wclean1_c (s : List UInt8) (h : List (List AV)) : Contract Tryz.prog 128 [.v (.string (strB s))] h (.v (.bool (!cleanB s))) h [] := by
  refine contract_of k128 mixed (by simp [c128]) fun hh hargs => ?_
  simp [c128]
  refine xcall_self (by simp) (clean_c s h) ?_
  simp [hh]
theorem wclean_c (l : List (List UInt8)) (hl : l.length ≤ 140737488355328) (h : List (List AV)) : Contract Tryz.prog 92 [.sl 1 (enc strC l) none .no] h (.v (.bool (l.all cleanB))) h [] := by
  refine contract_of k92 mixed (by simp [c92]) fun hh hargs => ?_
  simp [c92]
  refine xcall_self (by simp) (contains1_any mixed k127 k147 (fun s => .v (.string (strB s))) (fun s => !cleanB s) l [] h (by simp) (by simp) (by simp) (fun s _ => wclean1_c s h) hl) ?_
  simp [hh, List.not_any_eq_all_not]
def unsB (size n : Int) : Bool := !decide (n < 0) && rightB n size
theorem wuns1_c (size n : Int) (i : Nat) (h : List (List AV)) (hi : h[i]? = some [.v (.int .i64 size)]) : Contract Tryz.prog 131 [.v (.int .i64 n), .box i 0] h (.v (.bool (!unsB size n))) h [] := by
  refine contract_of k131 mixed (by simp [c131]) fun hh hargs => ?_
  by_cases hn : n < 0
  · simp [c131, hn, hh, unsB]
  · simp [c131, hn, hi]
    refine xcall_self (by simp) (right_c n size h) ?_
    simp [hh, unsB, hn]
theorem wuns_c (size : Int) (l : List Int) (hl : l.length ≤ 140737488355328) (h : List (List AV)) : Contract Tryz.prog 93 [.v (.int .i64 size), .sl 1 (enc intC l) none .no] h (.v (.bool (l.all (unsB size)))) h [] := by
  refine contract_of k93 mixed (by simp [c93]) fun hh hargs => ?_
  simp [c93]
  refine xcall_self (by simp) (contains1_any mixed k130 k149 (fun n => .v (.int .i64 n)) (fun n => !unsB size n) l [.box h.length 0] _ (by simp) (by simp) (by simp) (fun n _ => wuns1_c size n _ _ (by simp)) hl) ?_
  simp [hh, List.not_any_eq_all_not]
def sgnB (size n : Int) : Bool := rightB n size && signedI n size == n
theorem wsgn1_c (size n : Int) (i : Nat) (h : List (List AV)) (hi : h[i]? = some [.v (.int .i64 size)]) : Contract Tryz.prog 152 [.v (.int .i64 n), .box i 0] h (.v (.bool (!sgnB size n))) h [] := by
  refine contract_of k152 mixed (by simp [c152]) fun hh hargs => ?_
  simp [c152, hi]
  refine xcall_self (by simp) (right_c n size h) ?_
  cases hr : rightB n size with
  | false => simp [hh, sgnB, hr]
  | true =>
    simp [hi]
    refine xcall_self (by simp) (signed_c n size h) ?_
    simp [hh, sgnB, hr]
    rfl
theorem wsgn_c (size : Int) (l : List Int) (hl : l.length ≤ 140737488355328) (h : List (List AV)) : Contract Tryz.prog 146 [.v (.int .i64 size), .sl 1 (enc intC l) none .no] h (.v (.bool (l.all (sgnB size)))) h [] := by
  refine contract_of k146 mixed (by simp [c146]) fun hh hargs => ?_
  simp [c146]
  refine xcall_self (by simp) (contains1_any mixed k130 k149 (fun n => .v (.int .i64 n)) (fun n => !sgnB size n) l [.box h.length 0] _ (by simp) (by simp) (by simp) (fun n _ => wsgn1_c size n _ _ (by simp)) hl) ?_
  simp [hh, List.not_any_eq_all_not]
/-- A cell may be said. -/
def cellB (c : Cl) : Bool := decide (c.2.length ≤ 1048576) && !(c.1 && decide (0 < c.2.length))
theorem wcell1_c (c : Cl) (hc : c.2.length ≤ 140737488355328) (h : List (List AV)) : Contract Tryz.prog 145 [.agg (cellC c)] h (.v (.bool (!cellB c))) h [] := by
  refine contract_of k145 mixed (by simp [c145]) fun hh hargs => ?_
  obtain ⟨n, b⟩ := c
  by_cases hb : (1048576 : Int) < b.length
  · have hb' : ¬ b.length ≤ 1048576 := by omega
    simp [c145, cellC, hb, hb', hh, cellB]
  · have hb' : b.length ≤ 1048576 := by omega
    cases n with
    | false => simp [c145, cellC, hb, hb', hh, cellB]
    | true =>
      simp [c145, cellC, hb, hb', hh, cellB]
theorem wcells_c (l : List Cl) (hl : l.length ≤ 140737488355328) (hc : ∀ c ∈ l, c.2.length ≤ 140737488355328) (h : List (List AV)) : Contract Tryz.prog 122 [.sl 2 (enc cellC l) none .no] h (.v (.bool (l.all cellB))) h [] := by
  refine contract_of k122 mixed (by simp [c122]) fun hh hargs => ?_
  simp [c122]
  refine xcall_self (by simp) (containsN_any mixed k25 k49 cellC (fun c => !cellB c) l [] h (by simp) (by simp) (by simp) (fun c hm => wcell1_c c (hc c hm) h) hl) ?_
  simp [hh, List.not_any_eq_all_not]
theorem wsame1_c (a b : Cl) (h : List (List AV)) : Contract Tryz.prog 52 [.agg (cellC a), .agg (cellC b)] h (.v (.bool (a == b))) h [] := by
  refine contract_of k52 mixed (by simp [c52]) fun hh hargs => ?_
  obtain ⟨n, x⟩ := a
  obtain ⟨m, y⟩ := b
  have e : ((n, x) == (m, y)) = (n == m && x == y) := rfl
  cases hnm : n == m with
  | false => simp [c52, cellC, hnm, hh, e]
  | true =>
    simp [c52, cellC, hnm]
    refine xcall_self (by simp) (equal_c x y _) ?_
    simp [hh, e, hnm]
theorem wsame_c (l m : List Cl) (hl : l.length ≤ 140737488355328) (h : List (List AV)) : Contract Tryz.prog 31 [.sl 2 (enc cellC l) none .no, .sl 2 (enc cellC m) none .no] h (.v (.bool (l == m))) h [] := by
  refine contract_of k31 mixed (by simp [c31]) fun hh hargs => ?_
  simp [c31]
  refine xcall_self (by simp) (equalF_any mixed k51 (by rfl) (· == ·) cellC (by simp) (by simp) l m h (fun x y h => wsame1_c x y h) hl) ?_
  simp [hh, eqL_beq]
end Go.Proofs.YthielckgianmgaaGreatDoor.Ax
namespace Go.Proofs.YthielckgianmgaaGreatDoor.Ax
open Go.RowKit Go By Nm Sc Dg
set_option linter.unusedSimpArgs false
set_option linter.unusedVariables false
set_option maxRecDepth 10000

theorem wflat_len {α : Type} (e : α → List UInt8) (l : List α) (j : Nat) : ((l.take j).flatMap e).length ≤ (l.flatMap e).length := by
  conv => rhs; rw [← List.take_append_drop j l]
  rw [List.flatMap_append, List.length_append]; omega
theorem flat_next {α : Type} (e : α → List UInt8) {l : List α} {j : Nat} (hj : j < l.length) : (l.take (j + 1)).flatMap e = (l.take j).flatMap e ++ e l[j] := by
  rw [take_next hj, List.flatMap_append]; simp
theorem put_len (n size : Int) (h4 : size ≤ 4) (xs : List UInt8) : (putL xs n size).length ≤ xs.length + 4 := by
  unfold putL
  split
  · simp [putTo_length]; omega
  · omega
/-- What is appended element by element. -/
theorem flat_step {α : Type} (e : α → List UInt8) (l : List α) (a j : Nat) (hj : j < l.length) (N : Nat) (hN : a + (l.flatMap e).length ≤ N) : (l.take (j + 1)).flatMap e = (l.take j).flatMap e ++ e l[j] ∧ a + (((l.take j).flatMap e).length + (e l[j]).length) ≤ N := by
  have h1 := flat_next e hj
  have h2 := wflat_len e l (j + 1)
  rw [h1, List.length_append] at h2
  exact ⟨h1, by omega⟩

/-! ### Texts -/
def textsL (l : List (List UInt8)) : List UInt8 := l.flatMap He.encT
theorem wtexts_c (l : List (List UInt8)) (hl : (textsL l).length ≤ 140737488355328) (h : List (List AV)) : Contract Tryz.prog 96 [.sl 1 (enc strC l) none .no] h (.sl 1 (bytesE (textsL l)) none (.own .res)) h [] := by
  have hn : ∀ l : List (List UInt8), l.length ≤ (textsL l).length := fun l => by
    induction l with
    | nil => simp
    | cons x r ih => simp [textsL, He.encT] at ih ⊢; omega
  have hl0 := hn l
  refine contract_of k96 mixed (by simp [c96]) fun hh hargs => ?_
  simp at hargs
  simp [c96]
  refine xloop_ok (D := Nat) (fun j => ⟨[(6, .sl 1 (enc strC l) none .no), (7, .v (.int .i64 l.length)), (8, .v (.int .i64 j))], [(3, .sl 1 (bytesE (textsL (l.take j))) none (.own (.slot 3)))], h, []⟩) (fun j => j ≤ l.length) (fun j => l.length - j) 0 (by simp) ?_ ?_
  · simp [Leq, hh, hargs, textsL]
  · intro j hj
    by_cases hlt : j < l.length
    · have hlt' : (j : Int) < l.length := by omega
      have hw : IntKind.i64.wrap ((j : Int) + 1) = (j : Int) + 1 := wrap64 (by omega) (by omega)
      obtain ⟨hx, hb⟩ := flat_step He.encT l 0 j hlt _ (by simpa [textsL] using hl)
      have hx' : textsL (l.take (j + 1)) = textsL (l.take j) ++ (l[j] ++ [0]) := hx
      have hb' : 0 + ((textsL (l.take j)).length + (l[j] ++ [0]).length) ≤ 140737488355328 := hb
      rw [List.length_append, List.length_singleton] at hb'
      simp [hlt, hlt', strC, hw]
      refine ⟨by omega, by omega, j + 1, by omega, by omega, ?_⟩
      simp [Leq, hh, hargs, hx']
    · have hlt' : ¬ (j : Int) < l.length := by omega
      have : j = l.length := by omega
      subst this
      simp [hh]

/-! ### Lists -/
def listL {α : Type} (e : α → List UInt8) (l : List α) : List UInt8 := putL [] l.length 2 ++ l.flatMap e
theorem wlistI_c (e : Int → List UInt8) (l : List Int) (g : FuncId) (cap : List AV) (h : List (List AV)) (hl : (listL e l).length ≤ 140737488355328) (hl2 : l.length ≤ 140737488355328) (hcap : ∀ c ∈ cap, c.idOf = none) (hlt : ltL h.length cap)
    (hg : ∀ n, n ∈ l → Contract Tryz.prog g (.v (.int .i64 n) :: cap) h (.sl 1 (bytesE (e n)) none (.own .res)) h []) :
    Contract Tryz.prog 136 [.sl 1 (enc intC l) none .no, .fn (.func g) [] cap] h (.sl 1 (bytesE (listL e l)) none (.own .res)) h [] := by
  refine contract_of k136 mixed (by simp [c136]) fun hh hargs => ?_
  simp at hargs
  simp [c136]
  refine xcall_of (put_c [] l.length 2 (by simp) h) (by simp) (by simp) ?_
  simp
  refine xloop_ok (D := Nat) (fun j => ⟨[(1, .fn (.func g) [] cap), (11, .sl 1 (enc intC l) none .no), (12, .v (.int .i64 l.length)), (13, .v (.int .i64 j))], [(5, .sl 1 (bytesE (putL [] l.length 2 ++ (l.take j).flatMap e)) none (.own (.slot 5)))], h, []⟩) (fun j => j ≤ l.length) (fun j => l.length - j) 0 (by simp) ?_ ?_
  · simp [Leq, hh, hargs]
  · intro j hj
    by_cases hlt : j < l.length
    · have hlt' : (j : Int) < l.length := by omega
      have hw : IntKind.i64.wrap ((j : Int) + 1) = (j : Int) + 1 := wrap64 (by omega) (by omega)
      obtain ⟨hx, hb⟩ := flat_step e l (putL [] l.length 2).length j hlt _ (by simpa [listL] using hl)
      have hq : ∀ y ∈ (AV.v (.int .i64 l[j])) :: cap, y.idOf = none := by simpa using hcap
      simp [hlt, hlt', intC]
      refine ⟨hcap, xcall_self hq (hg l[j] (List.getElem_mem _)) ?_⟩
      simp [idsOf_none hq, idsOf_none hcap, hw, -List.length_flatMap]
      refine ⟨by omega, j + 1, by omega, by omega, ?_⟩
      simp [Leq, hh, hargs, hx]
    · have hlt' : ¬ (j : Int) < l.length := by omega
      have : j = l.length := by omega
      subst this
      simp [hh, listL]
theorem wlistC_c (e : Cl → List UInt8) (l : List Cl) (g : FuncId) (cap : List AV) (h : List (List AV)) (hl : (listL e l).length ≤ 140737488355328) (hl2 : l.length ≤ 140737488355328) (hcap : ∀ c ∈ cap, c.idOf = none) (hlt : ltL h.length cap)
    (hg : ∀ n, n ∈ l → ∀ h', Contract Tryz.prog g (.agg (cellC n) :: cap) (h ++ h') (.sl 1 (bytesE (e n)) none (.own .res)) (h ++ h') []) :
    Contract Tryz.prog 133 [.sl 2 (enc cellC l) none .no, .fn (.func g) [] cap] h (.sl 1 (bytesE (listL e l)) none (.own .res)) h [] := by
  refine contract_of k133 mixed (by simp [c133]) fun hh hargs => ?_
  simp at hargs
  simp [c133]
  refine xcall_of (put_c [] l.length 2 (by simp) h) (by simp) (by simp) ?_
  simp
  refine xloop_ok (D := Nat) (fun j => ⟨[(1, .fn (.func g) [] cap), (11, .sl 2 (enc cellC l) none .no), (12, .v (.int .i64 l.length)), (13, .v (.int .i64 j))], [(5, .sl 1 (bytesE (putL [] l.length 2 ++ (l.take j).flatMap e)) none (.own (.slot 5)))], h, []⟩) (fun j => j ≤ l.length) (fun j => l.length - j) 0 (by simp) ?_ ?_
  · simp [Leq, hh, hargs]
  · intro j hj
    by_cases hlt : j < l.length
    · have hlt' : (j : Int) < l.length := by omega
      have hw : IntKind.i64.wrap ((j : Int) + 1) = (j : Int) + 1 := wrap64 (by omega) (by omega)
      obtain ⟨hx, hb⟩ := flat_step e l (putL [] l.length 2).length j hlt _ (by simpa [listL] using hl)
      have hq : ∀ y ∈ (AV.agg (cellC l[j])) :: cap, y.idOf = none := by simpa using hcap
      simp [hlt, hlt']
      refine ⟨hcap, xcall_self hq (hg l[j] (List.getElem_mem _) _) ?_⟩
      simp [idsOf_none hq, idsOf_none hcap, hw, -List.length_flatMap]
      refine ⟨by omega, j + 1, by omega, by omega, ?_⟩
      simp [Leq, hh, hargs, hx]
    · have hlt' : ¬ (j : Int) < l.length := by omega
      have : j = l.length := by omega
      subst this
      simp [hh, listL]
def numE (size : Int) (n : Int) : List UInt8 := putL [] n size
theorem wnum1_c (size n : Int) (i : Nat) (h : List (List AV)) (hi : h[i]? = some [.v (.int .i64 size)]) : Contract Tryz.prog 137 [.v (.int .i64 n), .box i 0] h (.sl 1 (bytesE (numE size n)) none (.own .res)) h [] := by
  refine contract_of k137 mixed (by simp [c137]) fun hh hargs => ?_
  simp [c137, hi]
  refine xcall_of (put_c [] n size (by simp) h) (by simp) (by simp) ?_
  simp [hh, numE]
theorem wnumbers_c (size : Int) (l : List Int) (h : List (List AV)) (hl : (listL (numE size) l).length ≤ 140737488355328) (hl2 : l.length ≤ 140737488355328) :
    Contract Tryz.prog 101 [.v (.int .i64 size), .sl 1 (enc intC l) none .no] h (.sl 1 (bytesE (listL (numE size) l)) none (.own .res)) h [] := by
  refine contract_of k101 mixed (by simp [c101]) fun hh hargs => ?_
  simp [c101]
  refine xcall_self (by simp) (wlistI_c (numE size) l _ [.box h.length 0] _ hl hl2 (by simp) (by simp) fun n _ => wnum1_c size n _ _ (by simp)) ?_
  simp [hh]
/-- A cell's bytes. -/
def cellE (c : Cl) : List UInt8 := if c.1 = true then putL [] 4294967295 4 else putL [] c.2.length 4 ++ c.2
theorem cellE_null (b : List UInt8) : cellE (true, b) = putL [] 4294967295 4 := if_pos rfl
theorem cellE_bytes (b : List UInt8) : cellE (false, b) = putL [] b.length 4 ++ b := if_neg (by simp)
theorem wcell_c (c : Cl) (h : List (List AV)) (hl : c.2.length ≤ 70000000000000) : Contract Tryz.prog 134 [.agg (cellC c)] h (.sl 1 (bytesE (cellE c)) none (.own .res)) h [] := by
  refine contract_of k134 mixed (by simp [c134]) fun hh hargs => ?_
  obtain ⟨n, b⟩ := c
  cases n with
  | true =>
    rw [cellE_null]
    generalize hN : (4294967295 : Int) = N
    have hc : c134 = c134 := rfl
    simp [c134, cellC, hN]
    refine xcall_of (put_c [] N 4 (by simp) _) (by simp) (by simp) ?_
    simp [hh]
  | false =>
    have hp := put_len b.length 4 (by omega) []
    rw [cellE_bytes]
    simp [c134, cellC]
    refine xcall_of (put_c [] b.length 4 (by simp) _) (by simp) (by simp) ?_
    simp at hl hp
    simp [hh]
    omega
theorem wcells2_c (l : List Cl) (h : List (List AV)) (hl : (listL cellE l).length ≤ 140737488355328) (hl2 : l.length ≤ 140737488355328) (hl3 : ∀ c ∈ l, c.2.length ≤ 70000000000000) :
    Contract Tryz.prog 98 [.sl 2 (enc cellC l) none .no] h (.sl 1 (bytesE (listL cellE l)) none (.own .res)) h [] := by
  refine contract_of k98 mixed (by simp [c98]) fun hh hargs => ?_
  simp [c98]
  refine xcall_self (by simp) (wlistC_c cellE l _ [] _ hl hl2 (by simp) (by simp) fun n hn h' => wcell_c n _ (hl3 n hn)) ?_
  simp [hh]
end Go.Proofs.YthielckgianmgaaGreatDoor.Ax
