/- A name is seen as it is, once all has come about, if there is room; texts are within the form's reach. -/
import Derived.Test.YtphgbfemigcalaaQAxXr
import Derived.Test.YtphgbfemigcalaaRows
import Derived.Test.YtphgbfemigcalaaQAxOa
import Derived.Test.YtphgbfemigcalaaQAxMs
import Derived.Test.YtphgbfemigcalaaQElems
import Derived.SizedLaws
import Derived.WalkKit
import Derived.ProofKit
import Derived.OpenShut
import Derived.ShutString
import Derived.ChangeOld
import Derived.Below
/- The texts of functions over values without memory, as the kernel reckons them out of the program. -/
namespace Go.Proofs.Ytphgbfemigcalaa.Ax
open Go.RowKit Go By

def c25 : XFun := ⟨32, (.seq (.ops [⟨(some 5), (.box (.tmp 2)), none⟩, ⟨(some 6), (.assign (.const (.int .i64 0))), none⟩, ⟨(some 7), (.assign (.const (.bool false))), none⟩]) (.seq (.ops [⟨(some 12), (.move (.tmp 0)), none⟩, ⟨(some 13), (.load1 (.tmp 5)), none⟩, ⟨(some 14), (.call 17 [(.tmp 12), (.tmp 13)]), none⟩, ⟨(some 11), (.move (.tmp 14)), none⟩, ⟨(some 15), (.extract (.tmp 11) 0), none⟩, ⟨(some 16), (.extract (.tmp 11) 1), none⟩, ⟨(some 8), (.alloc [(.v (.int .i64 0))]), none⟩, ⟨(some 9), (.alloc [(.v (.bool false))]), none⟩, ⟨none, (.store 1 (.tmp 8) (.tmp 15)), none⟩, ⟨none, (.store 1 (.tmp 9) (.tmp 16)), none⟩]) (.seq (.seq (.ops [⟨(some 17), (.move (.tmp 1)), none⟩, ⟨(some 18), (.call 39 [(.tmp 17)]), none⟩]) (.block 0 (.range (.tmp 18) [19] (.ops [⟨(some 10), (.alloc [(.v (.bool false)), (.v (.string (strB []))), (.v (.int .i64 0))]), none⟩, ⟨none, (.store 3 (.tmp 10) (.tmp 19)), none⟩]) (.block 1 (.block 2 (.seq (.ops [⟨(some 21), (.faddr 1 (.tmp 10)), none⟩, ⟨(some 22), (.load1 (.tmp 21)), none⟩, ⟨(some 23), (.load1 (.tmp 5)), none⟩, ⟨(some 24), (.bin .neq (.tmp 22) (.tmp 23)), none⟩, ⟨(some 20), (.assign (.tmp 24)), none⟩]) (.cond (.tmp 20) .skip (.seq (.ops [⟨(some 26), (.faddr 0 (.tmp 10)), none⟩, ⟨(some 27), (.load1 (.tmp 26)), none⟩, ⟨(some 25), (.assign (.tmp 27)), none⟩]) (.cond (.tmp 25) (.ops [⟨(some 28), (.faddr 2 (.tmp 10)), none⟩, ⟨(some 29), (.load1 (.tmp 28)), none⟩, ⟨none, (.store 1 (.tmp 8) (.tmp 29)), none⟩, ⟨none, (.store 1 (.tmp 9) (.const (.bool true))), none⟩]) (.ops [⟨none, (.store 1 (.tmp 8) (.const (.int .i64 0))), none⟩, ⟨none, (.store 1 (.tmp 9) (.const (.bool false))), none⟩])))))))))) (.seq (.draws (.take ⟨(some 30), (.load1 (.tmp 8)), none⟩ (.take ⟨(some 31), (.load1 (.tmp 9)), none⟩ (.take ⟨(some 6), (.assign (.tmp 30)), none⟩ (.take ⟨(some 7), (.assign (.tmp 31)), none⟩ .done))))) .ret)))), [(.move (.tmp 6)), (.move (.tmp 7))]⟩
theorem k25 : cfun Try.prog 25 = some c25 := by kernel_rfl
def c27 : XFun := ⟨54, (.seq (.ops [⟨(some 4), (.assign (.const (.int .i64 0))), none⟩]) (.seq (.ops [⟨(some 12), (.makeMap 3 false), none⟩, ⟨(some 5), (.alloc [(.v (.map none))]), none⟩, ⟨none, (.store 1 (.tmp 5) (.tmp 12)), none⟩]) (.seq (.seq (.ops [⟨(some 13), (.move (.tmp 1)), none⟩, ⟨(some 14), (.call 39 [(.tmp 13)]), none⟩]) (.block 0 (.range (.tmp 14) [15] (.ops [⟨(some 6), (.alloc [(.v (.bool false)), (.v (.string (strB []))), (.v (.int .i64 0))]), none⟩, ⟨none, (.store 3 (.tmp 6) (.tmp 15)), none⟩]) (.block 1 (.ops [⟨(some 16), (.load1 (.tmp 5)), none⟩, ⟨(some 17), (.faddr 1 (.tmp 6)), none⟩, ⟨(some 18), (.load1 (.tmp 17)), none⟩, ⟨(some 19), (.loadN 3 (.tmp 6)), none⟩, ⟨none, (.mapUpd none 3 false (.tmp 16) (.tmp 18) (.tmp 19)), none⟩]))))) (.seq (.ops [⟨(some 20), (.move (.tmp 0)), none⟩, ⟨(some 21), (.call 20 [(.tmp 20)]), none⟩, ⟨(some 7), (.assign (.tmp 21)), none⟩]) (.seq (.seq (.ops [⟨(some 22), (.load1 (.tmp 5)), none⟩, ⟨(some 23), (.rangeM 3 false (.tmp 22)), none⟩]) (.block 2 (.loop (.seq (.nexts (some 24) (.tmp 23) [⟨(some 25), (.extract (.tmp 24) 0), none⟩]) (.seq (.cond (.tmp 25) .skip (.exit 2)) (.block 3 (.seq (.ops [⟨(some 26), (.entry (.tmp 23)), none⟩, ⟨(some 27), (.extract (.tmp 26) 0), none⟩, ⟨(some 28), (.extract (.tmp 26) 1), none⟩, ⟨(some 9), (.alloc [(.v (.bool false)), (.v (.string (strB []))), (.v (.int .i64 0))]), none⟩, ⟨(some 8), (.assign (.tmp 27)), none⟩, ⟨none, (.store 3 (.tmp 9) (.tmp 28)), none⟩]) (.seq (.ops [⟨(some 30), (.move (.tmp 0)), none⟩, ⟨(some 31), (.move (.tmp 8)), none⟩, ⟨(some 32), (.call 17 [(.tmp 30), (.tmp 31)]), none⟩, ⟨(some 29), (.move (.tmp 32)), none⟩, ⟨(some 33), (.extract (.tmp 29) 0), none⟩, ⟨(some 34), (.extract (.tmp 29) 1), none⟩, ⟨(some 10), (.assign (.tmp 33)), none⟩, ⟨(some 11), (.assign (.tmp 34)), none⟩]) (.block 4 (.seq (.ops [⟨(some 36), (.faddr 0 (.tmp 9)), none⟩, ⟨(some 37), (.load1 (.tmp 36)), none⟩, ⟨(some 38), (.move (.tmp 37)), none⟩, ⟨(some 39), (.move (.tmp 11)), (some (38, true))⟩, ⟨(some 40), (.un .not (.tmp 39)), (some (38, true))⟩, ⟨(some 41), (.pick (.tmp 38) (.tmp 40) (.const (.bool false))), none⟩, ⟨(some 35), (.assign (.tmp 41)), none⟩]) (.cond (.tmp 35) (.ops [⟨(some 42), (.move (.tmp 7)), none⟩, ⟨(some 43), (.bin .add (.tmp 42) (.const (.int .i64 1))), none⟩, ⟨(some 7), (.assign (.tmp 43)), none⟩]) (.seq (.ops [⟨(some 45), (.faddr 0 (.tmp 9)), none⟩, ⟨(some 46), (.load1 (.tmp 45)), none⟩, ⟨(some 47), (.un .not (.tmp 46)), none⟩, ⟨(some 48), (.move (.tmp 47)), none⟩, ⟨(some 49), (.move (.tmp 11)), (some (48, true))⟩, ⟨(some 50), (.pick (.tmp 48) (.tmp 49) (.const (.bool false))), none⟩, ⟨(some 44), (.assign (.tmp 50)), none⟩]) (.cond (.tmp 44) (.ops [⟨(some 51), (.move (.tmp 7)), none⟩, ⟨(some 52), (.bin .sub (.tmp 51) (.const (.int .i64 1))), none⟩, ⟨(some 7), (.assign (.tmp 52)), none⟩]) .skip))))))))))))) (.seq (.ops [⟨(some 53), (.move (.tmp 7)), none⟩, ⟨(some 4), (.assign (.tmp 53)), none⟩]) .ret)))))), [(.move (.tmp 4))]⟩
theorem k27 : cfun Try.prog 27 = some c27 := by kernel_rfl
def c30 : XFun := ⟨16, (.seq (.ops [⟨(some 2), (.assign (.const (.slice none 0 0))), none⟩]) (.seq (.ops [⟨(some 3), (.alloc [(.sl 0 [] (some true) .exact)]), none⟩]) (.seq (.seq (.ops [⟨(some 5), (.move (.tmp 0)), none⟩, ⟨(some 6), (.call 39 [(.tmp 5)]), none⟩]) (.block 0 (.range (.tmp 6) [7] (.ops [⟨(some 4), (.alloc [(.v (.bool false)), (.v (.string (strB []))), (.v (.int .i64 0))]), none⟩, ⟨none, (.store 3 (.tmp 4) (.tmp 7)), none⟩]) (.block 1 (.seq (.ops [⟨(some 8), (.faddr 0 (.tmp 4)), none⟩, ⟨(some 9), (.load1 (.tmp 8)), none⟩]) (.cond (.tmp 9) (.ops [⟨(some 10), (.load1 (.tmp 3)), none⟩, ⟨(some 11), (.faddr 2 (.tmp 4)), none⟩, ⟨(some 12), (.load1 (.tmp 11)), none⟩, ⟨(some 13), (.buildSlice 1 1 [(.v (.int .i64 0))] [(0, (.tmp 12))]), none⟩, ⟨(some 14), (.append 1 8 (.tmp 10) (.tmp 13)), none⟩, ⟨none, (.store 1 (.tmp 3) (.tmp 14)), none⟩]) .skip)))))) (.seq (.ops [⟨(some 15), (.load1 (.tmp 3)), none⟩, ⟨(some 2), (.assign (.tmp 15)), none⟩]) .ret)))), [(.move (.tmp 2))]⟩
theorem k30 : cfun Try.prog 30 = some c30 := by kernel_rfl
def c32 : XFun := ⟨35, (.seq (.ops [⟨(some 4), (.assign (.const (.slice none 0 0))), none⟩, ⟨(some 5), (.assign (.const (.int .i64 0))), none⟩]) (.seq (.ops [⟨(some 6), (.assign (.const (.slice none 0 0))), none⟩]) (.seq (.seq (.ops [⟨(some 11), (.move (.tmp 1)), none⟩, ⟨(some 12), (.lenL (.tmp 11)), none⟩, ⟨(some 13), (.move (.const (.int .i64 0))), none⟩]) (.block 0 (.loop (.seq (.ops [⟨(some 14), (.bin .lss (.tmp 13) (.tmp 12)), none⟩]) (.seq (.cond (.tmp 14) .skip (.exit 0)) (.seq (.block 1 (.seq (.ops [⟨(some 15), (.iaddr 3 (.tmp 11) (.tmp 13)), none⟩, ⟨(some 16), (.loadN 3 (.tmp 15)), none⟩, ⟨(some 8), (.alloc [(.v (.bool false)), (.v (.string (strB []))), (.v (.int .i64 0))]), none⟩, ⟨none, (.store 3 (.tmp 8) (.tmp 16)), none⟩]) (.seq (.ops [⟨(some 18), (.move (.tmp 0)), none⟩, ⟨(some 19), (.loadN 3 (.tmp 8)), none⟩, ⟨(some 20), (.call 41 [(.tmp 18), (.tmp 19)]), none⟩, ⟨(some 17), (.move (.tmp 20)), none⟩, ⟨(some 21), (.extract (.tmp 17) 0), none⟩, ⟨(some 22), (.extract (.tmp 17) 1), none⟩, ⟨(some 9), (.assign (.tmp 21)), none⟩, ⟨(some 10), (.assign (.tmp 22)), none⟩]) (.seq (.seq (.ops [⟨(some 23), (.move (.tmp 10)), none⟩, ⟨(some 24), (.bin .neq (.tmp 23) (.const (.int .i64 0))), none⟩]) (.cond (.tmp 24) (.seq (.ops [⟨(some 25), (.move (.tmp 6)), none⟩, ⟨(some 26), (.move (.tmp 10)), none⟩, ⟨(some 4), (.assign (.tmp 25)), none⟩, ⟨(some 5), (.assign (.tmp 26)), none⟩]) .ret) .skip)) (.seq (.ops [⟨(some 27), (.move (.tmp 9)), none⟩, ⟨(some 28), (.bin .gtr (.tmp 27) (.const (.int .i64 0))), none⟩]) (.cond (.tmp 28) (.ops [⟨(some 29), (.move (.tmp 6)), none⟩, ⟨(some 30), (.move (.tmp 9)), none⟩, ⟨(some 31), (.buildSlice 1 1 [(.v (.int .i64 0))] [(0, (.tmp 30))]), none⟩, ⟨(some 32), (.append 1 8 (.tmp 29) (.tmp 31)), none⟩, ⟨(some 6), (.assign (.tmp 32)), none⟩]) .skip)))))) (.ops [⟨(some 33), (.bin .add (.tmp 13) (.const (.int .i64 1))), none⟩, ⟨(some 13), (.move (.tmp 33)), none⟩]))))))) (.seq (.ops [⟨(some 34), (.move (.tmp 6)), none⟩, ⟨(some 4), (.assign (.tmp 34)), none⟩, ⟨(some 5), (.assign (.const (.int .i64 0))), none⟩]) .ret)))), [(.move (.tmp 4)), (.move (.tmp 5))]⟩
theorem k32 : cfun Try.prog 32 = some c32 := by kernel_rfl
def c41 : XFun := ⟨26, (.seq (.ops [⟨(some 3), (.box (.tmp 1)), none⟩, ⟨(some 4), (.assign (.const (.int .i64 0))), none⟩, ⟨(some 5), (.assign (.const (.int .i64 0))), none⟩]) (.seq (.seq (.ops [⟨(some 8), (.faddr 0 (.tmp 3)), none⟩, ⟨(some 9), (.load1 (.tmp 8)), none⟩]) (.cond (.tmp 9) (.seq (.ops [⟨(some 10), (.move (.tmp 0)), none⟩, ⟨(some 11), (.faddr 1 (.tmp 3)), none⟩, ⟨(some 12), (.load1 (.tmp 11)), none⟩, ⟨(some 13), (.faddr 2 (.tmp 3)), none⟩, ⟨(some 14), (.load1 (.tmp 13)), none⟩, ⟨(some 15), (.call 13 [(.tmp 10), (.tmp 12), (.tmp 14)]), none⟩, ⟨(some 16), (.extract (.tmp 15) 0), none⟩, ⟨(some 17), (.extract (.tmp 15) 1), none⟩, ⟨(some 4), (.assign (.tmp 16)), none⟩, ⟨(some 5), (.assign (.tmp 17)), none⟩]) .ret) .skip)) (.seq (.ops [⟨(some 19), (.move (.tmp 0)), none⟩, ⟨(some 20), (.faddr 1 (.tmp 3)), none⟩, ⟨(some 21), (.load1 (.tmp 20)), none⟩, ⟨(some 22), (.call 15 [(.tmp 19), (.tmp 21)]), none⟩, ⟨(some 18), (.move (.tmp 22)), none⟩, ⟨(some 23), (.extract (.tmp 18) 0), none⟩, ⟨(some 24), (.extract (.tmp 18) 1), none⟩, ⟨(some 6), (.assign (.tmp 23)), none⟩, ⟨(some 7), (.assign (.tmp 24)), none⟩]) (.seq (.ops [⟨(some 25), (.move (.tmp 6)), none⟩, ⟨(some 4), (.assign (.tmp 25)), none⟩, ⟨(some 5), (.assign (.const (.int .i64 0))), none⟩]) .ret)))), [(.move (.tmp 4)), (.move (.tmp 5))]⟩
theorem k41 : cfun Try.prog 41 = some c41 := by kernel_rfl
def c39 : XFun := ⟨4, (.seq (.ops [⟨(some 1), (.box (.tmp 0)), none⟩, ⟨(some 2), (.assign (.const .nilFunc)), none⟩]) (.seq (.ops [⟨(some 3), (.mkfn (.func 45) [] [(.tmp 1)]), none⟩, ⟨(some 2), (.assign (.tmp 3)), none⟩]) .ret)), [(.move (.tmp 2))]⟩
theorem k39 : cfun Try.prog 39 = some c39 := by kernel_rfl
def c45 : XFun := ⟨26, (.seq (.ops [⟨(some 7), (.load1 (.tmp 1)), none⟩, ⟨(some 8), (.lenL (.tmp 7)), none⟩, ⟨(some 9), (.move (.const (.int .i64 0))), none⟩]) (.block 0 (.loop (.seq (.ops [⟨(some 10), (.bin .lss (.tmp 9) (.tmp 8)), none⟩]) (.seq (.cond (.tmp 10) .skip (.exit 0)) (.seq (.block 1 (.seq (.ops [⟨(some 11), (.iaddr 8 (.tmp 7) (.tmp 9)), none⟩, ⟨(some 12), (.loadN 8 (.tmp 11)), none⟩, ⟨(some 4), (.alloc [(.v (.int .i64 0)), (.v (.bool false)), (.v (.string (strB []))), (.v (.string (strB []))), (.sl 0 [] (some true) .exact), (.sl 0 [] (some true) .exact), (.sl 0 [] (some true) .exact), (.sl 0 [] (some true) .exact)]), none⟩, ⟨none, (.store 8 (.tmp 4) (.tmp 12)), none⟩]) (.seq (.ops [⟨(some 13), (.faddr 4 (.tmp 4)), none⟩, ⟨(some 14), (.load1 (.tmp 13)), none⟩, ⟨(some 15), (.lenL (.tmp 14)), none⟩, ⟨(some 16), (.move (.const (.int .i64 0))), none⟩]) (.block 2 (.loop (.seq (.ops [⟨(some 17), (.bin .lss (.tmp 16) (.tmp 15)), none⟩]) (.seq (.cond (.tmp 17) .skip (.exit 2)) (.seq (.block 3 (.seq (.ops [⟨(some 18), (.iaddr 3 (.tmp 14) (.tmp 16)), none⟩, ⟨(some 19), (.loadN 3 (.tmp 18)), none⟩, ⟨(some 6), (.alloc [(.v (.bool false)), (.v (.string (strB []))), (.v (.int .i64 0))]), none⟩, ⟨none, (.store 3 (.tmp 6) (.tmp 19)), none⟩]) (.seq (.ops [⟨(some 20), (.move (.tmp 0)), none⟩, ⟨(some 21), (.loadN 3 (.tmp 6)), none⟩, ⟨(some 22), (.callv (.tmp 20) [(.tmp 21)]), none⟩, ⟨(some 23), (.un .not (.tmp 22)), none⟩]) (.cond (.tmp 23) .ret .skip)))) (.ops [⟨(some 24), (.bin .add (.tmp 16) (.const (.int .i64 1))), none⟩, ⟨(some 16), (.move (.tmp 24)), none⟩]))))))))) (.ops [⟨(some 25), (.bin .add (.tmp 9) (.const (.int .i64 1))), none⟩, ⟨(some 9), (.move (.tmp 25)), none⟩]))))))), []⟩
theorem k45 : cfun Try.prog 45 = some c45 := by kernel_rfl
def c40 : XFun := ⟨58, (.seq (.ops [⟨(some 4), (.assign (.const (.pointer none))), none⟩]) (.seq (.ops [⟨(some 9), (.build [(.sl 0 [] (some true) .exact), (.v (.int .i64 0))] [(1, (1, (.const (.int .i64 1073741824))))]), none⟩, ⟨(some 10), (.box (.tmp 9)), none⟩, ⟨(some 5), (.assign (.tmp 10)), none⟩]) (.seq (.seq (.ops [⟨(some 11), (.move (.tmp 0)), none⟩, ⟨(some 12), (.pnileq true (.tmp 11)), none⟩]) (.cond (.tmp 12) (.ops [⟨(some 13), (.move (.tmp 5)), none⟩, ⟨(some 14), (.move (.tmp 0)), none⟩, ⟨(some 15), (.nilCheck (.tmp 14)), none⟩, ⟨(some 16), (.faddr 0 (.tmp 15)), none⟩, ⟨(some 17), (.load1 (.tmp 16)), none⟩, ⟨(some 18), (.appendN 2 24 (.tmp 17)), none⟩, ⟨(some 19), (.nilCheck (.tmp 13)), none⟩, ⟨(some 20), (.faddr 0 (.tmp 19)), none⟩, ⟨none, (.store 1 (.tmp 20) (.tmp 18)), none⟩]) .skip)) (.seq (.seq (.ops [⟨(some 6), (.assign (.const (.int .i64 0))), none⟩]) (.block 0 (.loop (.seq (.seq (.ops [⟨(some 21), (.move (.tmp 6)), none⟩, ⟨(some 22), (.move (.tmp 1)), none⟩, ⟨(some 23), (.lenL (.tmp 22)), none⟩, ⟨(some 24), (.bin .lss (.tmp 21) (.tmp 23)), none⟩]) (.cond (.tmp 24) .skip (.exit 0))) (.seq (.block 1 (.seq (.ops [⟨(some 7), (.assign (.const (.int .i64 0))), none⟩]) (.block 2 (.loop (.seq (.seq (.ops [⟨(some 27), (.move (.tmp 7)), none⟩, ⟨(some 28), (.move (.tmp 1)), none⟩, ⟨(some 29), (.move (.tmp 6)), none⟩, ⟨(some 30), (.iaddr 8 (.tmp 28) (.tmp 29)), none⟩, ⟨(some 31), (.faddr 4 (.tmp 30)), none⟩, ⟨(some 32), (.load1 (.tmp 31)), none⟩, ⟨(some 33), (.lenL (.tmp 32)), none⟩, ⟨(some 34), (.bin .lss (.tmp 27) (.tmp 33)), none⟩]) (.cond (.tmp 34) .skip (.exit 2))) (.seq (.block 3 (.seq (.ops [⟨(some 37), (.move (.tmp 1)), none⟩, ⟨(some 38), (.move (.tmp 6)), none⟩, ⟨(some 39), (.iaddr 8 (.tmp 37) (.tmp 38)), none⟩, ⟨(some 40), (.faddr 4 (.tmp 39)), none⟩, ⟨(some 41), (.load1 (.tmp 40)), none⟩, ⟨(some 42), (.move (.tmp 7)), none⟩, ⟨(some 43), (.iaddr 3 (.tmp 41) (.tmp 42)), none⟩, ⟨(some 44), (.loadN 3 (.tmp 43)), none⟩, ⟨(some 8), (.alloc [(.v (.bool false)), (.v (.string (strB []))), (.v (.int .i64 0))]), none⟩, ⟨none, (.store 3 (.tmp 8) (.tmp 44)), none⟩]) (.seq (.ops [⟨(some 45), (.faddr 0 (.tmp 8)), none⟩, ⟨(some 46), (.load1 (.tmp 45)), none⟩]) (.cond (.tmp 46) (.ops [⟨(some 47), (.move (.tmp 5)), none⟩, ⟨(some 48), (.faddr 1 (.tmp 8)), none⟩, ⟨(some 49), (.load1 (.tmp 48)), none⟩, ⟨(some 50), (.faddr 2 (.tmp 8)), none⟩, ⟨(some 51), (.load1 (.tmp 50)), none⟩, ⟨(some 52), (.call 14 [(.tmp 47), (.tmp 49), (.tmp 51)]), none⟩]) (.ops [⟨(some 53), (.move (.tmp 5)), none⟩, ⟨(some 54), (.faddr 1 (.tmp 8)), none⟩, ⟨(some 55), (.load1 (.tmp 54)), none⟩, ⟨(some 56), (.call 16 [(.tmp 53), (.tmp 55)]), none⟩]))))) (.ops [⟨(some 35), (.move (.tmp 7)), none⟩, ⟨(some 36), (.bin .add (.tmp 35) (.const (.int .i64 1))), none⟩, ⟨(some 7), (.assign (.tmp 36)), none⟩]))))))) (.ops [⟨(some 25), (.move (.tmp 6)), none⟩, ⟨(some 26), (.bin .add (.tmp 25) (.const (.int .i64 1))), none⟩, ⟨(some 6), (.assign (.tmp 26)), none⟩])))))) (.seq (.ops [⟨(some 57), (.move (.tmp 5)), none⟩, ⟨(some 4), (.assign (.tmp 57)), none⟩]) .ret))))), [(.move (.tmp 4))]⟩
theorem k40 : cfun Try.prog 40 = some c40 := by kernel_rfl
def c26 : XFun := ⟨15, (.seq (.ops [⟨(some 6), (.assign (.const (.int .i64 0))), none⟩, ⟨(some 7), (.assign (.const (.bool false))), none⟩]) (.seq (.ops [⟨(some 8), (.move (.tmp 0)), none⟩, ⟨(some 9), (.move (.tmp 1)), none⟩, ⟨(some 10), (.call 40 [(.tmp 8), (.tmp 9)]), none⟩, ⟨(some 11), (.move (.tmp 2)), none⟩, ⟨(some 12), (.call 18 [(.tmp 10), (.tmp 11)]), none⟩, ⟨(some 13), (.extract (.tmp 12) 0), none⟩, ⟨(some 14), (.extract (.tmp 12) 1), none⟩, ⟨(some 6), (.assign (.tmp 13)), none⟩, ⟨(some 7), (.assign (.tmp 14)), none⟩]) .ret)), [(.move (.tmp 6)), (.move (.tmp 7))]⟩
theorem k26 : cfun Try.prog 26 = some c26 := by kernel_rfl
def c28 : XFun := ⟨12, (.seq (.ops [⟨(some 4), (.assign (.const (.int .i64 0))), none⟩]) (.seq (.ops [⟨(some 5), (.move (.tmp 0)), none⟩, ⟨(some 6), (.move (.tmp 1)), none⟩, ⟨(some 7), (.call 40 [(.tmp 5), (.tmp 6)]), none⟩, ⟨(some 8), (.nilCheck (.tmp 7)), none⟩, ⟨(some 9), (.faddr 0 (.tmp 8)), none⟩, ⟨(some 10), (.load1 (.tmp 9)), none⟩, ⟨(some 11), (.lenL (.tmp 10)), none⟩, ⟨(some 4), (.assign (.tmp 11)), none⟩]) .ret)), [(.move (.tmp 4))]⟩
theorem k28 : cfun Try.prog 28 = some c28 := by kernel_rfl
def c31 : XFun := ⟨44, (.seq (.ops [⟨(some 2), (.assign (.const (.slice none 0 0))), none⟩]) (.seq (.ops [⟨(some 3), (.assign (.const (.slice none 0 0))), none⟩]) (.seq (.seq (.ops [⟨(some 4), (.assign (.const (.int .i64 0))), none⟩]) (.block 0 (.loop (.seq (.seq (.ops [⟨(some 6), (.move (.tmp 4)), none⟩, ⟨(some 7), (.move (.tmp 0)), none⟩, ⟨(some 8), (.lenL (.tmp 7)), none⟩, ⟨(some 9), (.bin .lss (.tmp 6) (.tmp 8)), none⟩]) (.cond (.tmp 9) .skip (.exit 0))) (.seq (.block 1 (.seq (.ops [⟨(some 5), (.assign (.const (.int .i64 0))), none⟩]) (.block 2 (.loop (.seq (.seq (.ops [⟨(some 12), (.move (.tmp 5)), none⟩, ⟨(some 13), (.move (.tmp 0)), none⟩, ⟨(some 14), (.move (.tmp 4)), none⟩, ⟨(some 15), (.iaddr 8 (.tmp 13) (.tmp 14)), none⟩, ⟨(some 16), (.faddr 4 (.tmp 15)), none⟩, ⟨(some 17), (.load1 (.tmp 16)), none⟩, ⟨(some 18), (.lenL (.tmp 17)), none⟩, ⟨(some 19), (.bin .lss (.tmp 12) (.tmp 18)), none⟩]) (.cond (.tmp 19) .skip (.exit 2))) (.seq (.block 3 (.seq (.ops [⟨(some 22), (.move (.tmp 0)), none⟩, ⟨(some 23), (.move (.tmp 4)), none⟩, ⟨(some 24), (.iaddr 8 (.tmp 22) (.tmp 23)), none⟩, ⟨(some 25), (.faddr 4 (.tmp 24)), none⟩, ⟨(some 26), (.load1 (.tmp 25)), none⟩, ⟨(some 27), (.move (.tmp 5)), none⟩, ⟨(some 28), (.iaddr 3 (.tmp 26) (.tmp 27)), none⟩, ⟨(some 29), (.faddr 0 (.tmp 28)), none⟩, ⟨(some 30), (.load1 (.tmp 29)), none⟩]) (.cond (.tmp 30) (.ops [⟨(some 31), (.move (.tmp 3)), none⟩, ⟨(some 32), (.move (.tmp 0)), none⟩, ⟨(some 33), (.move (.tmp 4)), none⟩, ⟨(some 34), (.iaddr 8 (.tmp 32) (.tmp 33)), none⟩, ⟨(some 35), (.faddr 4 (.tmp 34)), none⟩, ⟨(some 36), (.load1 (.tmp 35)), none⟩, ⟨(some 37), (.move (.tmp 5)), none⟩, ⟨(some 38), (.iaddr 3 (.tmp 36) (.tmp 37)), none⟩, ⟨(some 39), (.faddr 2 (.tmp 38)), none⟩, ⟨(some 40), (.load1 (.tmp 39)), none⟩, ⟨(some 41), (.buildSlice 1 1 [(.v (.int .i64 0))] [(0, (.tmp 40))]), none⟩, ⟨(some 42), (.append 1 8 (.tmp 31) (.tmp 41)), none⟩, ⟨(some 3), (.assign (.tmp 42)), none⟩]) .skip))) (.ops [⟨(some 20), (.move (.tmp 5)), none⟩, ⟨(some 21), (.bin .add (.tmp 20) (.const (.int .i64 1))), none⟩, ⟨(some 5), (.assign (.tmp 21)), none⟩]))))))) (.ops [⟨(some 10), (.move (.tmp 4)), none⟩, ⟨(some 11), (.bin .add (.tmp 10) (.const (.int .i64 1))), none⟩, ⟨(some 4), (.assign (.tmp 11)), none⟩])))))) (.seq (.ops [⟨(some 43), (.move (.tmp 3)), none⟩, ⟨(some 2), (.assign (.tmp 43)), none⟩]) .ret)))), [(.move (.tmp 2))]⟩
theorem k31 : cfun Try.prog 31 = some c31 := by kernel_rfl
def c33 : XFun := ⟨59, (.seq (.ops [⟨(some 4), (.assign (.const (.slice none 0 0))), none⟩, ⟨(some 5), (.assign (.const (.int .i64 0))), none⟩]) (.seq (.ops [⟨(some 6), (.assign (.const (.slice none 0 0))), none⟩]) (.seq (.seq (.ops [⟨(some 7), (.assign (.const (.int .i64 0))), none⟩]) (.block 0 (.loop (.seq (.seq (.ops [⟨(some 11), (.move (.tmp 7)), none⟩, ⟨(some 12), (.move (.tmp 1)), none⟩, ⟨(some 13), (.lenL (.tmp 12)), none⟩, ⟨(some 14), (.bin .lss (.tmp 11) (.tmp 13)), none⟩]) (.cond (.tmp 14) .skip (.exit 0))) (.seq (.block 1 (.seq (.ops [⟨(some 8), (.assign (.const (.int .i64 0))), none⟩]) (.seq (.seq (.ops [⟨(some 17), (.move (.tmp 1)), none⟩, ⟨(some 18), (.move (.tmp 7)), none⟩, ⟨(some 19), (.iaddr 3 (.tmp 17) (.tmp 18)), none⟩, ⟨(some 20), (.faddr 0 (.tmp 19)), none⟩, ⟨(some 21), (.load1 (.tmp 20)), none⟩]) (.cond (.tmp 21) (.seq (.draws (.take ⟨(some 23), (.move (.tmp 0)), none⟩ (.take ⟨(some 24), (.move (.tmp 1)), none⟩ (.take ⟨(some 25), (.move (.tmp 7)), none⟩ (.take ⟨(some 26), (.iaddr 3 (.tmp 24) (.tmp 25)), none⟩ (.take ⟨(some 27), (.faddr 1 (.tmp 26)), none⟩ (.take ⟨(some 28), (.load1 (.tmp 27)), none⟩ (.take ⟨(some 29), (.move (.tmp 1)), none⟩ (.take ⟨(some 30), (.move (.tmp 7)), none⟩ (.take ⟨(some 31), (.iaddr 3 (.tmp 29) (.tmp 30)), none⟩ (.take ⟨(some 32), (.faddr 2 (.tmp 31)), none⟩ (.take ⟨(some 33), (.load1 (.tmp 32)), none⟩ (.only ⟨(some 34), (.call 14 [(.tmp 23), (.tmp 28), (.tmp 33)]), none⟩ (.take ⟨(some 22), (.move (.tmp 34)), none⟩ (.take ⟨(some 35), (.extract (.tmp 22) 0), none⟩ (.take ⟨(some 36), (.extract (.tmp 22) 1), none⟩ (.take ⟨(some 9), (.assign (.tmp 35)), none⟩ (.take ⟨(some 10), (.assign (.tmp 36)), none⟩ .done)))))))))))))))))) (.seq (.seq (.ops [⟨(some 37), (.move (.tmp 10)), none⟩, ⟨(some 38), (.bin .neq (.tmp 37) (.const (.int .i64 0))), none⟩]) (.cond (.tmp 38) (.seq (.ops [⟨(some 39), (.move (.tmp 6)), none⟩, ⟨(some 40), (.move (.tmp 10)), none⟩, ⟨(some 4), (.assign (.tmp 39)), none⟩, ⟨(some 5), (.assign (.tmp 40)), none⟩]) .ret) .skip)) (.ops [⟨(some 41), (.move (.tmp 9)), none⟩, ⟨(some 8), (.assign (.tmp 41)), none⟩]))) (.ops [⟨(some 43), (.move (.tmp 0)), none⟩, ⟨(some 44), (.move (.tmp 1)), none⟩, ⟨(some 45), (.move (.tmp 7)), none⟩, ⟨(some 46), (.iaddr 3 (.tmp 44) (.tmp 45)), none⟩, ⟨(some 47), (.faddr 1 (.tmp 46)), none⟩, ⟨(some 48), (.load1 (.tmp 47)), none⟩, ⟨(some 49), (.call 16 [(.tmp 43), (.tmp 48)]), none⟩, ⟨(some 42), (.move (.tmp 49)), none⟩, ⟨(some 50), (.extract (.tmp 42) 0), none⟩, ⟨(some 51), (.extract (.tmp 42) 1), none⟩, ⟨(some 8), (.assign (.tmp 50)), none⟩]))) (.seq (.ops [⟨(some 52), (.move (.tmp 8)), none⟩, ⟨(some 53), (.bin .gtr (.tmp 52) (.const (.int .i64 0))), none⟩]) (.cond (.tmp 53) (.ops [⟨(some 54), (.move (.tmp 6)), none⟩, ⟨(some 55), (.move (.tmp 8)), none⟩, ⟨(some 56), (.buildSlice 1 1 [(.v (.int .i64 0))] [(0, (.tmp 55))]), none⟩, ⟨(some 57), (.append 1 8 (.tmp 54) (.tmp 56)), none⟩, ⟨(some 6), (.assign (.tmp 57)), none⟩]) .skip))))) (.ops [⟨(some 15), (.move (.tmp 7)), none⟩, ⟨(some 16), (.bin .add (.tmp 15) (.const (.int .i64 1))), none⟩, ⟨(some 7), (.assign (.tmp 16)), none⟩])))))) (.seq (.ops [⟨(some 58), (.move (.tmp 6)), none⟩, ⟨(some 4), (.assign (.tmp 58)), none⟩, ⟨(some 5), (.assign (.const (.int .i64 0))), none⟩]) .ret)))), [(.move (.tmp 4)), (.move (.tmp 5))]⟩
theorem k33 : cfun Try.prog 33 = some c33 := by kernel_rfl
def c24 : XFun := ⟨60, (.seq (.ops [⟨(some 0), (.assign (.const (.bool false))), none⟩]) (.seq (.ops [⟨(some 9), (.call 11 [(.const (.int .i64 4))]), none⟩, ⟨(some 8), (.move (.tmp 9)), none⟩, ⟨(some 10), (.extract (.tmp 8) 0), none⟩, ⟨(some 11), (.extract (.tmp 8) 1), none⟩, ⟨(some 1), (.assign (.tmp 10)), none⟩, ⟨(some 2), (.assign (.tmp 11)), none⟩]) (.seq (.seq (.ops [⟨(some 12), (.move (.tmp 1)), none⟩, ⟨(some 13), (.pnileq false (.tmp 12)), none⟩, ⟨(some 14), (.move (.tmp 13)), none⟩, ⟨(some 15), (.move (.tmp 2)), (some (14, false))⟩, ⟨(some 16), (.bin .neq (.tmp 15) (.const (.int .i64 0))), (some (14, false))⟩, ⟨(some 17), (.pick (.tmp 14) (.const (.bool true)) (.tmp 16)), none⟩]) (.cond (.tmp 17) (.seq (.ops [⟨(some 0), (.assign (.const (.bool false))), none⟩]) .ret) .skip)) (.seq (.ops [⟨(some 18), (.move (.tmp 1)), none⟩, ⟨(some 19), (.call 13 [(.tmp 18), (.const (.string (strB [97]))), (.const (.int .i64 1))]), none⟩]) (.seq (.ops [⟨(some 20), (.build [(.v (.bool false)), (.v (.string (strB []))), (.v (.int .i64 0))] [(0, (1, (.const (.bool true)))), (1, (1, (.const (.string (strB [98]))))), (2, (1, (.const (.int .i64 2))))]), none⟩, ⟨(some 21), (.buildSlice 3 1 [(.v (.bool false)), (.v (.string (strB []))), (.v (.int .i64 0))] [(0, (.tmp 20))]), none⟩, ⟨(some 22), (.build [(.v (.int .i64 0)), (.v (.bool false)), (.v (.string (strB []))), (.v (.string (strB []))), (.sl 0 [] (some true) .exact), (.sl 0 [] (some true) .exact), (.sl 0 [] (some true) .exact), (.sl 0 [] (some true) .exact)] [(4, (1, (.tmp 21)))]), none⟩, ⟨(some 23), (.build [(.v (.bool false)), (.v (.string (strB []))), (.v (.int .i64 0))] [(1, (1, (.const (.string (strB [97])))))]), none⟩, ⟨(some 24), (.buildSlice 3 1 [(.v (.bool false)), (.v (.string (strB []))), (.v (.int .i64 0))] [(0, (.tmp 23))]), none⟩, ⟨(some 25), (.build [(.v (.int .i64 0)), (.v (.bool false)), (.v (.string (strB []))), (.v (.string (strB []))), (.sl 0 [] (some true) .exact), (.sl 0 [] (some true) .exact), (.sl 0 [] (some true) .exact), (.sl 0 [] (some true) .exact)] [(4, (1, (.tmp 24)))]), none⟩, ⟨(some 26), (.buildSlice 8 2 [(.v (.int .i64 0)), (.v (.bool false)), (.v (.string (strB []))), (.v (.string (strB []))), (.sl 0 [] (some true) .exact), (.sl 0 [] (some true) .exact), (.sl 0 [] (some true) .exact), (.sl 0 [] (some true) .exact)] [(0, (.tmp 22)), (1, (.tmp 25))]), none⟩, ⟨(some 3), (.assign (.tmp 26)), none⟩]) (.seq (.ops [⟨(some 28), (.move (.tmp 1)), none⟩, ⟨(some 29), (.move (.tmp 3)), none⟩, ⟨(some 30), (.call 25 [(.tmp 28), (.tmp 29), (.const (.string (strB [98])))]), none⟩, ⟨(some 27), (.move (.tmp 30)), none⟩, ⟨(some 31), (.extract (.tmp 27) 0), none⟩, ⟨(some 32), (.extract (.tmp 27) 1), none⟩, ⟨(some 4), (.assign (.tmp 31)), none⟩, ⟨(some 5), (.assign (.tmp 32)), none⟩]) (.seq (.ops [⟨(some 34), (.move (.tmp 1)), none⟩, ⟨(some 35), (.move (.tmp 3)), none⟩, ⟨(some 36), (.call 25 [(.tmp 34), (.tmp 35), (.const (.string (strB [97])))]), none⟩, ⟨(some 33), (.move (.tmp 36)), none⟩, ⟨(some 37), (.extract (.tmp 33) 0), none⟩, ⟨(some 38), (.extract (.tmp 33) 1), none⟩, ⟨(some 6), (.assign (.tmp 37)), none⟩, ⟨(some 7), (.assign (.tmp 38)), none⟩]) (.seq (.ops [⟨(some 39), (.move (.tmp 5)), none⟩, ⟨(some 40), (.move (.tmp 39)), none⟩, ⟨(some 41), (.move (.tmp 4)), (some (40, true))⟩, ⟨(some 42), (.bin .eql (.tmp 41) (.const (.int .i64 2))), (some (40, true))⟩, ⟨(some 43), (.pick (.tmp 40) (.tmp 42) (.const (.bool false))), none⟩, ⟨(some 44), (.move (.tmp 43)), none⟩, ⟨(some 45), (.move (.tmp 7)), (some (44, true))⟩, ⟨(some 46), (.un .not (.tmp 45)), (some (44, true))⟩, ⟨(some 47), (.pick (.tmp 44) (.tmp 46) (.const (.bool false))), none⟩, ⟨(some 48), (.move (.tmp 47)), none⟩, ⟨(some 49), (.move (.tmp 1)), (some (48, true))⟩, ⟨(some 50), (.move (.tmp 3)), (some (48, true))⟩, ⟨(some 51), (.call 27 [(.tmp 49), (.tmp 50)]), (some (48, true))⟩, ⟨(some 52), (.bin .eql (.tmp 51) (.const (.int .i64 1))), (some (48, true))⟩, ⟨(some 53), (.pick (.tmp 48) (.tmp 52) (.const (.bool false))), none⟩, ⟨(some 54), (.move (.tmp 53)), none⟩, ⟨(some 55), (.move (.tmp 3)), (some (54, true))⟩, ⟨(some 56), (.call 30 [(.tmp 55)]), (some (54, true))⟩, ⟨(some 57), (.buildSlice 1 1 [(.v (.int .i64 0))] [(0, (.const (.int .i64 2)))]), (some (54, true))⟩, ⟨(some 58), (.call 29 [(.tmp 56), (.tmp 57)]), (some (54, true))⟩, ⟨(some 59), (.pick (.tmp 54) (.tmp 58) (.const (.bool false))), none⟩, ⟨(some 0), (.assign (.tmp 59)), none⟩]) .ret)))))))), [(.move (.tmp 0))]⟩
theorem k24 : cfun Try.prog 24 = some c24 := by kernel_rfl
def c22 : XFun := ⟨62, (.seq (.ops [⟨(some 4), (.assign (.const (.pointer none))), none⟩, ⟨(some 5), (.assign (.const (.pointer none))), none⟩]) (.seq (.ops [⟨(some 13), (.move (.tmp 0)), none⟩, ⟨(some 14), (.bin .rem (.tmp 13) (.const (.int .u8 30))), none⟩, ⟨(some 15), (.conv .i64 (.tmp 14)), none⟩, ⟨(some 16), (.bin .add (.const (.int .i64 1)) (.tmp 15)), none⟩, ⟨(some 17), (.call 11 [(.tmp 16)]), none⟩, ⟨(some 12), (.move (.tmp 17)), none⟩, ⟨(some 18), (.extract (.tmp 12) 0), none⟩, ⟨(some 19), (.extract (.tmp 12) 1), none⟩, ⟨(some 6), (.assign (.tmp 18)), none⟩, ⟨(some 7), (.assign (.tmp 19)), none⟩]) (.seq (.ops [⟨(some 21), (.move (.tmp 0)), none⟩, ⟨(some 22), (.bin .rem (.tmp 21) (.const (.int .u8 30))), none⟩, ⟨(some 23), (.conv .i64 (.tmp 22)), none⟩, ⟨(some 24), (.bin .add (.const (.int .i64 1)) (.tmp 23)), none⟩, ⟨(some 25), (.call 12 [(.tmp 24)]), none⟩, ⟨(some 20), (.move (.tmp 25)), none⟩, ⟨(some 26), (.extract (.tmp 20) 0), none⟩, ⟨(some 27), (.extract (.tmp 20) 1), none⟩, ⟨(some 8), (.assign (.tmp 26)), none⟩, ⟨(some 9), (.assign (.tmp 27)), none⟩]) (.seq (.seq (.ops [⟨(some 28), (.move (.tmp 1)), none⟩, ⟨(some 29), (.lenL (.tmp 28)), none⟩, ⟨(some 30), (.move (.const (.int .i64 0))), none⟩]) (.block 0 (.loop (.seq (.ops [⟨(some 31), (.bin .lss (.tmp 30) (.tmp 29)), none⟩]) (.seq (.cond (.tmp 31) .skip (.exit 0)) (.seq (.block 1 (.seq (.ops [⟨(some 32), (.move (.tmp 30)), none⟩, ⟨(some 33), (.iaddr 3 (.tmp 28) (.tmp 30)), none⟩, ⟨(some 34), (.loadN 3 (.tmp 33)), none⟩, ⟨(some 11), (.alloc [(.v (.bool false)), (.v (.string (strB []))), (.v (.int .i64 0))]), none⟩, ⟨(some 10), (.assign (.tmp 32)), none⟩, ⟨none, (.store 3 (.tmp 11) (.tmp 34)), none⟩]) (.seq (.ops [⟨(some 35), (.move (.tmp 10)), none⟩, ⟨(some 36), (.bin .lss (.tmp 35) (.const (.int .i64 40))), none⟩, ⟨(some 37), (.move (.tmp 36)), none⟩, ⟨(some 38), (.move (.tmp 6)), (some (37, true))⟩, ⟨(some 39), (.pnileq true (.tmp 38)), (some (37, true))⟩, ⟨(some 40), (.pick (.tmp 37) (.tmp 39) (.const (.bool false))), none⟩, ⟨(some 41), (.move (.tmp 40)), none⟩, ⟨(some 42), (.faddr 1 (.tmp 11)), (some (41, true))⟩, ⟨(some 43), (.load1 (.tmp 42)), (some (41, true))⟩, ⟨(some 44), (.lenS (.tmp 43)), (some (41, true))⟩, ⟨(some 45), (.bin .leq (.tmp 44) (.const (.int .i64 300))), (some (41, true))⟩, ⟨(some 46), (.pick (.tmp 41) (.tmp 45) (.const (.bool false))), none⟩]) (.cond (.tmp 46) (.seq (.ops [⟨(some 47), (.move (.tmp 6)), none⟩, ⟨(some 48), (.faddr 1 (.tmp 11)), none⟩, ⟨(some 49), (.load1 (.tmp 48)), none⟩, ⟨(some 50), (.faddr 2 (.tmp 11)), none⟩, ⟨(some 51), (.load1 (.tmp 50)), none⟩, ⟨(some 52), (.call 13 [(.tmp 47), (.tmp 49), (.tmp 51)]), none⟩]) (.ops [⟨(some 53), (.move (.tmp 8)), none⟩, ⟨(some 54), (.faddr 1 (.tmp 11)), none⟩, ⟨(some 55), (.load1 (.tmp 54)), none⟩, ⟨(some 56), (.faddr 2 (.tmp 11)), none⟩, ⟨(some 57), (.load1 (.tmp 56)), none⟩, ⟨(some 58), (.call 14 [(.tmp 53), (.tmp 55), (.tmp 57)]), none⟩])) .skip)))) (.ops [⟨(some 59), (.bin .add (.tmp 30) (.const (.int .i64 1))), none⟩, ⟨(some 30), (.move (.tmp 59)), none⟩]))))))) (.seq (.ops [⟨(some 60), (.move (.tmp 6)), none⟩, ⟨(some 61), (.move (.tmp 8)), none⟩, ⟨(some 4), (.assign (.tmp 60)), none⟩, ⟨(some 5), (.assign (.tmp 61)), none⟩]) .ret))))), [(.move (.tmp 4)), (.move (.tmp 5))]⟩
theorem k22 : cfun Try.prog 22 = some c22 := by kernel_rfl
def c6 : XFun := ⟨79, (.seq (.ops [⟨(some 8), (.assign (.const (.bool false))), none⟩]) (.seq (.ops [⟨(some 16), (.move (.tmp 0)), none⟩, ⟨(some 17), (.move (.tmp 1)), none⟩, ⟨(some 18), (.call 22 [(.tmp 16), (.tmp 17)]), none⟩, ⟨(some 15), (.move (.tmp 18)), none⟩, ⟨(some 19), (.extract (.tmp 15) 0), none⟩, ⟨(some 20), (.extract (.tmp 15) 1), none⟩, ⟨(some 9), (.assign (.tmp 19)), none⟩, ⟨(some 10), (.assign (.tmp 20)), none⟩]) (.seq (.seq (.ops [⟨(some 21), (.move (.tmp 9)), none⟩, ⟨(some 22), (.pnileq false (.tmp 21)), none⟩, ⟨(some 23), (.move (.tmp 22)), none⟩, ⟨(some 24), (.move (.tmp 2)), (some (23, false))⟩, ⟨(some 25), (.call 23 [(.tmp 24), (.const (.int .i64 30))]), (some (23, false))⟩, ⟨(some 26), (.un .not (.tmp 25)), (some (23, false))⟩, ⟨(some 27), (.pick (.tmp 23) (.const (.bool true)) (.tmp 26)), none⟩, ⟨(some 28), (.move (.tmp 27)), none⟩, ⟨(some 29), (.move (.tmp 3)), (some (28, false))⟩, ⟨(some 30), (.lenS (.tmp 29)), (some (28, false))⟩, ⟨(some 31), (.bin .gtr (.tmp 30) (.const (.int .i64 300))), (some (28, false))⟩, ⟨(some 32), (.pick (.tmp 28) (.const (.bool true)) (.tmp 31)), none⟩]) (.cond (.tmp 32) (.seq (.ops [⟨(some 33), (.move (.tmp 9)), none⟩, ⟨(some 34), (.pnileq true (.tmp 33)), none⟩, ⟨(some 35), (.move (.tmp 34)), none⟩, ⟨(some 36), (.call 24 []), (some (35, true))⟩, ⟨(some 37), (.pick (.tmp 35) (.tmp 36) (.const (.bool false))), none⟩, ⟨(some 8), (.assign (.tmp 37)), none⟩]) .ret) .skip)) (.seq (.ops [⟨(some 39), (.move (.tmp 9)), none⟩, ⟨(some 40), (.move (.tmp 2)), none⟩, ⟨(some 41), (.move (.tmp 3)), none⟩, ⟨(some 42), (.call 25 [(.tmp 39), (.tmp 40), (.tmp 41)]), none⟩, ⟨(some 38), (.move (.tmp 42)), none⟩, ⟨(some 43), (.extract (.tmp 38) 0), none⟩, ⟨(some 44), (.extract (.tmp 38) 1), none⟩, ⟨(some 11), (.assign (.tmp 43)), none⟩, ⟨(some 12), (.assign (.tmp 44)), none⟩]) (.seq (.ops [⟨(some 46), (.move (.tmp 10)), none⟩, ⟨(some 47), (.move (.tmp 2)), none⟩, ⟨(some 48), (.move (.tmp 3)), none⟩, ⟨(some 49), (.call 26 [(.tmp 46), (.tmp 47), (.tmp 48)]), none⟩, ⟨(some 45), (.move (.tmp 49)), none⟩, ⟨(some 50), (.extract (.tmp 45) 0), none⟩, ⟨(some 51), (.extract (.tmp 45) 1), none⟩, ⟨(some 13), (.assign (.tmp 50)), none⟩, ⟨(some 14), (.assign (.tmp 51)), none⟩]) (.seq (.ops [⟨(some 52), (.move (.tmp 11)), none⟩, ⟨(some 53), (.move (.tmp 13)), none⟩, ⟨(some 54), (.bin .eql (.tmp 52) (.tmp 53)), none⟩, ⟨(some 55), (.move (.tmp 54)), none⟩, ⟨(some 56), (.move (.tmp 12)), (some (55, true))⟩, ⟨(some 57), (.move (.tmp 14)), (some (55, true))⟩, ⟨(some 58), (.beq false (.tmp 56) (.tmp 57)), (some (55, true))⟩, ⟨(some 59), (.pick (.tmp 55) (.tmp 58) (.const (.bool false))), none⟩, ⟨(some 60), (.move (.tmp 59)), none⟩, ⟨(some 61), (.move (.tmp 9)), (some (60, true))⟩, ⟨(some 62), (.move (.tmp 2)), (some (60, true))⟩, ⟨(some 63), (.call 27 [(.tmp 61), (.tmp 62)]), (some (60, true))⟩, ⟨(some 64), (.move (.tmp 10)), (some (60, true))⟩, ⟨(some 65), (.move (.tmp 2)), (some (60, true))⟩, ⟨(some 66), (.call 28 [(.tmp 64), (.tmp 65)]), (some (60, true))⟩, ⟨(some 67), (.bin .eql (.tmp 63) (.tmp 66)), (some (60, true))⟩, ⟨(some 68), (.pick (.tmp 60) (.tmp 67) (.const (.bool false))), none⟩, ⟨(some 69), (.move (.tmp 68)), none⟩, ⟨(some 70), (.move (.tmp 2)), (some (69, true))⟩, ⟨(some 71), (.call 30 [(.tmp 70)]), (some (69, true))⟩, ⟨(some 72), (.move (.tmp 2)), (some (69, true))⟩, ⟨(some 73), (.call 31 [(.tmp 72)]), (some (69, true))⟩, ⟨(some 74), (.call 29 [(.tmp 71), (.tmp 73)]), (some (69, true))⟩, ⟨(some 75), (.pick (.tmp 69) (.tmp 74) (.const (.bool false))), none⟩, ⟨(some 76), (.move (.tmp 75)), none⟩, ⟨(some 77), (.call 24 []), (some (76, true))⟩, ⟨(some 78), (.pick (.tmp 76) (.tmp 77) (.const (.bool false))), none⟩, ⟨(some 8), (.assign (.tmp 78)), none⟩]) .ret)))))), [(.move (.tmp 8))]⟩
theorem k6 : cfun Try.prog 6 = some c6 := by kernel_rfl
def c7 : XFun := ⟨97, (.seq (.ops [⟨(some 8), (.assign (.const (.bool false))), none⟩]) (.seq (.ops [⟨(some 20), (.move (.tmp 0)), none⟩, ⟨(some 21), (.move (.tmp 1)), none⟩, ⟨(some 22), (.call 22 [(.tmp 20), (.tmp 21)]), none⟩, ⟨(some 19), (.move (.tmp 22)), none⟩, ⟨(some 23), (.extract (.tmp 19) 0), none⟩, ⟨(some 24), (.extract (.tmp 19) 1), none⟩, ⟨(some 9), (.assign (.tmp 23)), none⟩, ⟨(some 10), (.assign (.tmp 24)), none⟩]) (.seq (.seq (.ops [⟨(some 25), (.move (.tmp 9)), none⟩, ⟨(some 26), (.pnileq false (.tmp 25)), none⟩, ⟨(some 27), (.move (.tmp 26)), none⟩, ⟨(some 28), (.move (.tmp 2)), (some (27, false))⟩, ⟨(some 29), (.lenL (.tmp 28)), (some (27, false))⟩, ⟨(some 30), (.bin .gtr (.tmp 29) (.const (.int .i64 40))), (some (27, false))⟩, ⟨(some 31), (.pick (.tmp 27) (.const (.bool true)) (.tmp 30)), none⟩, ⟨(some 32), (.move (.tmp 31)), none⟩, ⟨(some 33), (.move (.tmp 3)), (some (32, false))⟩, ⟨(some 34), (.lenS (.tmp 33)), (some (32, false))⟩, ⟨(some 35), (.bin .gtr (.tmp 34) (.const (.int .i64 300))), (some (32, false))⟩, ⟨(some 36), (.pick (.tmp 32) (.const (.bool true)) (.tmp 35)), none⟩]) (.cond (.tmp 36) (.seq (.ops [⟨(some 37), (.move (.tmp 9)), none⟩, ⟨(some 38), (.pnileq true (.tmp 37)), none⟩, ⟨(some 39), (.move (.tmp 38)), none⟩, ⟨(some 40), (.call 24 []), (some (39, true))⟩, ⟨(some 41), (.pick (.tmp 39) (.tmp 40) (.const (.bool false))), none⟩, ⟨(some 8), (.assign (.tmp 41)), none⟩]) .ret) .skip)) (.seq (.ops [⟨(some 43), (.move (.tmp 9)), none⟩, ⟨(some 44), (.move (.tmp 2)), none⟩, ⟨(some 45), (.call 32 [(.tmp 43), (.tmp 44)]), none⟩, ⟨(some 42), (.move (.tmp 45)), none⟩, ⟨(some 46), (.extract (.tmp 42) 0), none⟩, ⟨(some 47), (.extract (.tmp 42) 1), none⟩, ⟨(some 11), (.assign (.tmp 46)), none⟩, ⟨(some 12), (.assign (.tmp 47)), none⟩]) (.seq (.ops [⟨(some 49), (.move (.tmp 10)), none⟩, ⟨(some 50), (.move (.tmp 2)), none⟩, ⟨(some 51), (.call 33 [(.tmp 49), (.tmp 50)]), none⟩, ⟨(some 48), (.move (.tmp 51)), none⟩, ⟨(some 52), (.extract (.tmp 48) 0), none⟩, ⟨(some 53), (.extract (.tmp 48) 1), none⟩, ⟨(some 13), (.assign (.tmp 52)), none⟩, ⟨(some 14), (.assign (.tmp 53)), none⟩]) (.seq (.ops [⟨(some 55), (.move (.tmp 9)), none⟩, ⟨(some 56), (.move (.tmp 3)), none⟩, ⟨(some 57), (.call 17 [(.tmp 55), (.tmp 56)]), none⟩, ⟨(some 54), (.move (.tmp 57)), none⟩, ⟨(some 58), (.extract (.tmp 54) 0), none⟩, ⟨(some 59), (.extract (.tmp 54) 1), none⟩, ⟨(some 15), (.assign (.tmp 58)), none⟩, ⟨(some 16), (.assign (.tmp 59)), none⟩]) (.seq (.ops [⟨(some 61), (.move (.tmp 10)), none⟩, ⟨(some 62), (.move (.tmp 3)), none⟩, ⟨(some 63), (.call 18 [(.tmp 61), (.tmp 62)]), none⟩, ⟨(some 60), (.move (.tmp 63)), none⟩, ⟨(some 64), (.extract (.tmp 60) 0), none⟩, ⟨(some 65), (.extract (.tmp 60) 1), none⟩, ⟨(some 17), (.assign (.tmp 64)), none⟩, ⟨(some 18), (.assign (.tmp 65)), none⟩]) (.seq (.draws (.take ⟨(some 66), (.move (.tmp 11)), none⟩ (.take ⟨(some 67), (.move (.tmp 13)), none⟩ (.only ⟨(some 68), (.call 29 [(.tmp 66), (.tmp 67)]), none⟩ (.take ⟨(some 69), (.move (.tmp 68)), none⟩ (.take ⟨(some 70), (.move (.tmp 12)), (some (69, true))⟩ (.take ⟨(some 71), (.move (.tmp 14)), (some (69, true))⟩ (.take ⟨(some 72), (.bin .eql (.tmp 70) (.tmp 71)), (some (69, true))⟩ (.take ⟨(some 73), (.pick (.tmp 69) (.tmp 72) (.const (.bool false))), none⟩ (.take ⟨(some 74), (.move (.tmp 73)), none⟩ (.take ⟨(some 75), (.move (.tmp 15)), (some (74, true))⟩ (.take ⟨(some 76), (.move (.tmp 17)), (some (74, true))⟩ (.take ⟨(some 77), (.bin .eql (.tmp 75) (.tmp 76)), (some (74, true))⟩ (.take ⟨(some 78), (.pick (.tmp 74) (.tmp 77) (.const (.bool false))), none⟩ (.take ⟨(some 79), (.move (.tmp 78)), none⟩ (.take ⟨(some 80), (.move (.tmp 16)), (some (79, true))⟩ (.take ⟨(some 81), (.move (.tmp 18)), (some (79, true))⟩ (.take ⟨(some 82), (.beq false (.tmp 80) (.tmp 81)), (some (79, true))⟩ (.take ⟨(some 83), (.pick (.tmp 79) (.tmp 82) (.const (.bool false))), none⟩ (.take ⟨(some 84), (.move (.tmp 83)), none⟩ (.take ⟨(some 85), (.move (.tmp 9)), (some (84, true))⟩ (.take ⟨(some 87), (.move (.tmp 10)), (some (84, true))⟩ (.take ⟨(some 88), (.nilCheck (.tmp 87)), (some (84, true))⟩ (.take ⟨(some 89), (.faddr 0 (.tmp 88)), (some (84, true))⟩ (.take ⟨(some 90), (.load1 (.tmp 89)), (some (84, true))⟩ (.take ⟨(some 91), (.lenL (.tmp 90)), (some (84, true))⟩ (.only ⟨(some 86), (.call 20 [(.tmp 85)]), (some (84, true))⟩ (.take ⟨(some 92), (.bin .eql (.tmp 86) (.tmp 91)), (some (84, true))⟩ (.take ⟨(some 93), (.pick (.tmp 84) (.tmp 92) (.const (.bool false))), none⟩ (.take ⟨(some 94), (.move (.tmp 93)), none⟩ (.only ⟨(some 95), (.call 24 []), (some (94, true))⟩ (.take ⟨(some 96), (.pick (.tmp 94) (.tmp 95) (.const (.bool false))), none⟩ (.take ⟨(some 8), (.assign (.tmp 96)), none⟩ .done))))))))))))))))))))))))))))))))) .ret)))))))), [(.move (.tmp 8))]⟩
theorem k7 : cfun Try.prog 7 = some c7 := by kernel_rfl
def c8 : XFun := ⟨98, (.seq (.ops [⟨(some 6), (.assign (.const (.bool false))), none⟩]) (.seq (.ops [⟨(some 19), (.move (.tmp 0)), none⟩, ⟨(some 20), (.call 22 [(.const (.int .u8 29)), (.tmp 19)]), none⟩, ⟨(some 18), (.move (.tmp 20)), none⟩, ⟨(some 21), (.extract (.tmp 18) 0), none⟩, ⟨(some 22), (.extract (.tmp 18) 1), none⟩, ⟨(some 7), (.assign (.tmp 21)), none⟩, ⟨(some 8), (.assign (.tmp 22)), none⟩]) (.seq (.seq (.ops [⟨(some 23), (.move (.tmp 7)), none⟩, ⟨(some 24), (.pnileq false (.tmp 23)), none⟩, ⟨(some 25), (.move (.tmp 24)), none⟩, ⟨(some 26), (.move (.tmp 1)), (some (25, false))⟩, ⟨(some 27), (.call 23 [(.tmp 26), (.const (.int .i64 30))]), (some (25, false))⟩, ⟨(some 28), (.un .not (.tmp 27)), (some (25, false))⟩, ⟨(some 29), (.pick (.tmp 25) (.const (.bool true)) (.tmp 28)), none⟩, ⟨(some 30), (.move (.tmp 29)), none⟩, ⟨(some 31), (.move (.tmp 2)), (some (30, false))⟩, ⟨(some 32), (.lenS (.tmp 31)), (some (30, false))⟩, ⟨(some 33), (.bin .gtr (.tmp 32) (.const (.int .i64 300))), (some (30, false))⟩, ⟨(some 34), (.pick (.tmp 30) (.const (.bool true)) (.tmp 33)), none⟩, ⟨(some 35), (.move (.tmp 34)), none⟩, ⟨(some 36), (.move (.tmp 8)), (some (35, false))⟩, ⟨(some 37), (.pnileq false (.tmp 36)), (some (35, false))⟩, ⟨(some 38), (.pick (.tmp 35) (.const (.bool true)) (.tmp 37)), none⟩]) (.cond (.tmp 38) (.seq (.ops [⟨(some 39), (.move (.tmp 7)), none⟩, ⟨(some 40), (.pnileq true (.tmp 39)), none⟩, ⟨(some 41), (.move (.tmp 40)), none⟩, ⟨(some 42), (.call 24 []), (some (41, true))⟩, ⟨(some 43), (.pick (.tmp 41) (.tmp 42) (.const (.bool false))), none⟩, ⟨(some 6), (.assign (.tmp 43)), none⟩]) .ret) .skip)) (.seq (.ops [⟨(some 45), (.move (.tmp 7)), none⟩, ⟨(some 46), (.move (.tmp 1)), none⟩, ⟨(some 47), (.move (.tmp 2)), none⟩, ⟨(some 48), (.call 25 [(.tmp 45), (.tmp 46), (.tmp 47)]), none⟩, ⟨(some 44), (.move (.tmp 48)), none⟩, ⟨(some 49), (.extract (.tmp 44) 0), none⟩, ⟨(some 50), (.extract (.tmp 44) 1), none⟩, ⟨(some 9), (.assign (.tmp 49)), none⟩, ⟨(some 10), (.assign (.tmp 50)), none⟩]) (.seq (.ops [⟨(some 51), (.move (.tmp 7)), none⟩, ⟨(some 52), (.move (.tmp 1)), none⟩, ⟨(some 53), (.call 27 [(.tmp 51), (.tmp 52)]), none⟩, ⟨(some 11), (.assign (.tmp 53)), none⟩]) (.seq (.seq (.ops [⟨(some 54), (.move (.tmp 1)), none⟩, ⟨(some 55), (.lenL (.tmp 54)), none⟩, ⟨(some 56), (.move (.const (.int .i64 0))), none⟩]) (.block 0 (.loop (.seq (.ops [⟨(some 57), (.bin .lss (.tmp 56) (.tmp 55)), none⟩]) (.seq (.cond (.tmp 57) .skip (.exit 0)) (.seq (.block 1 (.seq (.ops [⟨(some 58), (.iaddr 8 (.tmp 54) (.tmp 56)), none⟩, ⟨(some 59), (.loadN 8 (.tmp 58)), none⟩, ⟨(some 13), (.alloc [(.v (.int .i64 0)), (.v (.bool false)), (.v (.string (strB []))), (.v (.string (strB []))), (.sl 0 [] (some true) .exact), (.sl 0 [] (some true) .exact), (.sl 0 [] (some true) .exact), (.sl 0 [] (some true) .exact)]), none⟩, ⟨none, (.store 8 (.tmp 13) (.tmp 59)), none⟩]) (.seq (.ops [⟨(some 61), (.move (.tmp 7)), none⟩, ⟨(some 62), (.faddr 4 (.tmp 13)), none⟩, ⟨(some 63), (.load1 (.tmp 62)), none⟩, ⟨(some 64), (.call 32 [(.tmp 61), (.tmp 63)]), none⟩, ⟨(some 60), (.move (.tmp 64)), none⟩, ⟨(some 65), (.extract (.tmp 60) 0), none⟩, ⟨(some 66), (.extract (.tmp 60) 1), none⟩, ⟨(some 14), (.assign (.tmp 65)), none⟩, ⟨(some 15), (.assign (.tmp 66)), none⟩]) (.seq (.ops [⟨(some 67), (.move (.tmp 15)), none⟩, ⟨(some 68), (.bin .neq (.tmp 67) (.const (.int .i64 0))), none⟩]) (.cond (.tmp 68) (.seq (.ops [⟨(some 69), (.move (.tmp 15)), none⟩, ⟨(some 70), (.bin .eql (.tmp 69) (.const (.int .i64 6))), none⟩, ⟨(some 71), (.move (.tmp 70)), none⟩, ⟨(some 72), (.call 24 []), (some (71, true))⟩, ⟨(some 73), (.pick (.tmp 71) (.tmp 72) (.const (.bool false))), none⟩, ⟨(some 6), (.assign (.tmp 73)), none⟩]) .ret) .skip))))) (.ops [⟨(some 74), (.bin .add (.tmp 56) (.const (.int .i64 1))), none⟩, ⟨(some 56), (.move (.tmp 74)), none⟩]))))))) (.seq (.ops [⟨(some 76), (.move (.tmp 7)), none⟩, ⟨(some 77), (.move (.tmp 2)), none⟩, ⟨(some 78), (.call 17 [(.tmp 76), (.tmp 77)]), none⟩, ⟨(some 75), (.move (.tmp 78)), none⟩, ⟨(some 79), (.extract (.tmp 75) 0), none⟩, ⟨(some 80), (.extract (.tmp 75) 1), none⟩, ⟨(some 16), (.assign (.tmp 79)), none⟩, ⟨(some 17), (.assign (.tmp 80)), none⟩]) (.seq (.ops [⟨(some 81), (.move (.tmp 9)), none⟩, ⟨(some 82), (.move (.tmp 16)), none⟩, ⟨(some 83), (.bin .eql (.tmp 81) (.tmp 82)), none⟩, ⟨(some 84), (.move (.tmp 83)), none⟩, ⟨(some 85), (.move (.tmp 10)), (some (84, true))⟩, ⟨(some 86), (.move (.tmp 17)), (some (84, true))⟩, ⟨(some 87), (.beq false (.tmp 85) (.tmp 86)), (some (84, true))⟩, ⟨(some 88), (.pick (.tmp 84) (.tmp 87) (.const (.bool false))), none⟩, ⟨(some 89), (.move (.tmp 88)), none⟩, ⟨(some 90), (.move (.tmp 7)), (some (89, true))⟩, ⟨(some 91), (.call 20 [(.tmp 90)]), (some (89, true))⟩, ⟨(some 92), (.move (.tmp 11)), (some (89, true))⟩, ⟨(some 93), (.bin .eql (.tmp 91) (.tmp 92)), (some (89, true))⟩, ⟨(some 94), (.pick (.tmp 89) (.tmp 93) (.const (.bool false))), none⟩, ⟨(some 95), (.move (.tmp 94)), none⟩, ⟨(some 96), (.call 24 []), (some (95, true))⟩, ⟨(some 97), (.pick (.tmp 95) (.tmp 96) (.const (.bool false))), none⟩, ⟨(some 6), (.assign (.tmp 97)), none⟩]) .ret)))))))), [(.move (.tmp 6))]⟩
theorem k8 : cfun Try.prog 8 = some c8 := by kernel_rfl
def c9 : XFun := ⟨84, (.seq (.ops [⟨(some 6), (.assign (.const (.bool false))), none⟩]) (.seq (.seq (.ops [⟨(some 16), (.move (.tmp 0)), none⟩, ⟨(some 17), (.call 23 [(.tmp 16), (.const (.int .i64 30))]), none⟩, ⟨(some 18), (.un .not (.tmp 17)), none⟩, ⟨(some 19), (.move (.tmp 18)), none⟩, ⟨(some 20), (.move (.tmp 1)), (some (19, false))⟩, ⟨(some 21), (.lenS (.tmp 20)), (some (19, false))⟩, ⟨(some 22), (.bin .gtr (.tmp 21) (.const (.int .i64 300))), (some (19, false))⟩, ⟨(some 23), (.pick (.tmp 19) (.const (.bool true)) (.tmp 22)), none⟩]) (.cond (.tmp 23) (.seq (.ops [⟨(some 24), (.call 24 []), none⟩, ⟨(some 6), (.assign (.tmp 24)), none⟩]) .ret) .skip)) (.seq (.ops [⟨(some 7), (.assign (.const (.pointer none))), none⟩]) (.seq (.ops [⟨(some 26), (.move (.tmp 7)), none⟩, ⟨(some 27), (.move (.tmp 0)), none⟩, ⟨(some 28), (.move (.tmp 1)), none⟩, ⟨(some 29), (.call 25 [(.tmp 26), (.tmp 27), (.tmp 28)]), none⟩, ⟨(some 25), (.move (.tmp 29)), none⟩, ⟨(some 30), (.extract (.tmp 25) 0), none⟩, ⟨(some 31), (.extract (.tmp 25) 1), none⟩, ⟨(some 8), (.assign (.tmp 30)), none⟩, ⟨(some 9), (.assign (.tmp 31)), none⟩]) (.seq (.ops [⟨(some 33), (.move (.tmp 0)), none⟩, ⟨(some 34), (.move (.tmp 1)), none⟩, ⟨(some 35), (.call 26 [(.const (.pointer none)), (.tmp 33), (.tmp 34)]), none⟩, ⟨(some 32), (.move (.tmp 35)), none⟩, ⟨(some 36), (.extract (.tmp 32) 0), none⟩, ⟨(some 37), (.extract (.tmp 32) 1), none⟩, ⟨(some 10), (.assign (.tmp 36)), none⟩, ⟨(some 11), (.assign (.tmp 37)), none⟩]) (.seq (.ops [⟨(some 39), (.move (.tmp 7)), none⟩, ⟨(some 40), (.move (.tmp 1)), none⟩, ⟨(some 41), (.move (.tmp 2)), none⟩, ⟨(some 42), (.build [(.v (.bool false)), (.v (.string (strB []))), (.v (.int .i64 0))] [(0, (1, (.const (.bool true)))), (1, (1, (.tmp 40))), (2, (1, (.tmp 41)))]), none⟩, ⟨(some 43), (.buildSlice 3 1 [(.v (.bool false)), (.v (.string (strB []))), (.v (.int .i64 0))] [(0, (.tmp 42))]), none⟩, ⟨(some 44), (.call 32 [(.tmp 39), (.tmp 43)]), none⟩, ⟨(some 38), (.move (.tmp 44)), none⟩, ⟨(some 45), (.extract (.tmp 38) 0), none⟩, ⟨(some 46), (.extract (.tmp 38) 1), none⟩, ⟨(some 12), (.assign (.tmp 45)), none⟩, ⟨(some 13), (.assign (.tmp 46)), none⟩]) (.seq (.ops [⟨(some 48), (.move (.tmp 7)), none⟩, ⟨(some 49), (.move (.tmp 1)), none⟩, ⟨(some 50), (.build [(.v (.bool false)), (.v (.string (strB []))), (.v (.int .i64 0))] [(1, (1, (.tmp 49)))]), none⟩, ⟨(some 51), (.buildSlice 3 1 [(.v (.bool false)), (.v (.string (strB []))), (.v (.int .i64 0))] [(0, (.tmp 50))]), none⟩, ⟨(some 52), (.call 32 [(.tmp 48), (.tmp 51)]), none⟩, ⟨(some 47), (.move (.tmp 52)), none⟩, ⟨(some 53), (.extract (.tmp 47) 0), none⟩, ⟨(some 54), (.extract (.tmp 47) 1), none⟩, ⟨(some 14), (.assign (.tmp 53)), none⟩, ⟨(some 15), (.assign (.tmp 54)), none⟩]) (.seq (.ops [⟨(some 55), (.move (.tmp 8)), none⟩, ⟨(some 56), (.move (.tmp 10)), none⟩, ⟨(some 57), (.bin .eql (.tmp 55) (.tmp 56)), none⟩, ⟨(some 58), (.move (.tmp 57)), none⟩, ⟨(some 59), (.move (.tmp 9)), (some (58, true))⟩, ⟨(some 60), (.move (.tmp 11)), (some (58, true))⟩, ⟨(some 61), (.beq false (.tmp 59) (.tmp 60)), (some (58, true))⟩, ⟨(some 62), (.pick (.tmp 58) (.tmp 61) (.const (.bool false))), none⟩, ⟨(some 63), (.move (.tmp 62)), none⟩, ⟨(some 64), (.move (.tmp 12)), (some (63, true))⟩, ⟨(some 65), (.lenL (.tmp 64)), (some (63, true))⟩, ⟨(some 66), (.bin .eql (.tmp 65) (.const (.int .i64 0))), (some (63, true))⟩, ⟨(some 67), (.pick (.tmp 63) (.tmp 66) (.const (.bool false))), none⟩, ⟨(some 68), (.move (.tmp 67)), none⟩, ⟨(some 69), (.move (.tmp 13)), (some (68, true))⟩, ⟨(some 70), (.bin .eql (.tmp 69) (.const (.int .i64 2))), (some (68, true))⟩, ⟨(some 71), (.pick (.tmp 68) (.tmp 70) (.const (.bool false))), none⟩, ⟨(some 72), (.move (.tmp 71)), none⟩, ⟨(some 73), (.move (.tmp 14)), (some (72, true))⟩, ⟨(some 74), (.lenL (.tmp 73)), (some (72, true))⟩, ⟨(some 75), (.bin .eql (.tmp 74) (.const (.int .i64 0))), (some (72, true))⟩, ⟨(some 76), (.pick (.tmp 72) (.tmp 75) (.const (.bool false))), none⟩, ⟨(some 77), (.move (.tmp 76)), none⟩, ⟨(some 78), (.move (.tmp 15)), (some (77, true))⟩, ⟨(some 79), (.bin .eql (.tmp 78) (.const (.int .i64 0))), (some (77, true))⟩, ⟨(some 80), (.pick (.tmp 77) (.tmp 79) (.const (.bool false))), none⟩, ⟨(some 81), (.move (.tmp 80)), none⟩, ⟨(some 82), (.call 24 []), (some (81, true))⟩, ⟨(some 83), (.pick (.tmp 81) (.tmp 82) (.const (.bool false))), none⟩, ⟨(some 6), (.assign (.tmp 83)), none⟩]) .ret)))))))), [(.move (.tmp 6))]⟩
theorem k9 : cfun Try.prog 9 = some c9 := by kernel_rfl
def c23 : XFun := ⟨12, (.seq (.ops [⟨(some 4), (.assign (.const (.bool false))), none⟩]) (.seq (.seq (.ops [⟨(some 5), (.move (.tmp 0)), none⟩, ⟨(some 6), (.lenL (.tmp 5)), none⟩, ⟨(some 7), (.move (.tmp 1)), none⟩, ⟨(some 8), (.bin .gtr (.tmp 6) (.tmp 7)), none⟩]) (.cond (.tmp 8) (.seq (.ops [⟨(some 4), (.assign (.const (.bool false))), none⟩]) .ret) .skip)) (.seq (.ops [⟨(some 9), (.move (.tmp 0)), none⟩, ⟨(some 10), (.call 37 [(.tmp 9), (.func 38)]), none⟩, ⟨(some 11), (.un .not (.tmp 10)), none⟩, ⟨(some 4), (.assign (.tmp 11)), none⟩]) .ret))), [(.move (.tmp 4))]⟩
theorem k23 : cfun Try.prog 23 = some c23 := by kernel_rfl
def c38 : XFun := ⟨37, (.seq (.ops [⟨(some 1), (.box (.tmp 0)), none⟩, ⟨(some 2), (.assign (.const (.bool false))), none⟩]) (.seq (.ops [⟨(some 3), (.faddr 4 (.tmp 1)), none⟩, ⟨(some 4), (.load1 (.tmp 3)), none⟩, ⟨(some 5), (.lenL (.tmp 4)), none⟩, ⟨(some 6), (.bin .gtr (.tmp 5) (.const (.int .i64 10))), none⟩, ⟨(some 7), (.move (.tmp 6)), none⟩, ⟨(some 8), (.faddr 5 (.tmp 1)), (some (7, false))⟩, ⟨(some 9), (.load1 (.tmp 8)), (some (7, false))⟩, ⟨(some 10), (.lenL (.tmp 9)), (some (7, false))⟩, ⟨(some 11), (.bin .gtr (.tmp 10) (.const (.int .i64 10))), (some (7, false))⟩, ⟨(some 12), (.pick (.tmp 7) (.const (.bool true)) (.tmp 11)), none⟩, ⟨(some 13), (.move (.tmp 12)), none⟩, ⟨(some 14), (.faddr 6 (.tmp 1)), (some (13, false))⟩, ⟨(some 15), (.load1 (.tmp 14)), (some (13, false))⟩, ⟨(some 16), (.lenL (.tmp 15)), (some (13, false))⟩, ⟨(some 17), (.bin .gtr (.tmp 16) (.const (.int .i64 10))), (some (13, false))⟩, ⟨(some 18), (.pick (.tmp 13) (.const (.bool true)) (.tmp 17)), none⟩, ⟨(some 19), (.move (.tmp 18)), none⟩, ⟨(some 20), (.faddr 7 (.tmp 1)), (some (19, false))⟩, ⟨(some 21), (.load1 (.tmp 20)), (some (19, false))⟩, ⟨(some 22), (.lenL (.tmp 21)), (some (19, false))⟩, ⟨(some 23), (.bin .gtr (.tmp 22) (.const (.int .i64 300))), (some (19, false))⟩, ⟨(some 24), (.pick (.tmp 19) (.const (.bool true)) (.tmp 23)), none⟩, ⟨(some 25), (.move (.tmp 24)), none⟩, ⟨(some 26), (.faddr 2 (.tmp 1)), (some (25, false))⟩, ⟨(some 27), (.load1 (.tmp 26)), (some (25, false))⟩, ⟨(some 28), (.lenS (.tmp 27)), (some (25, false))⟩, ⟨(some 29), (.bin .gtr (.tmp 28) (.const (.int .i64 300))), (some (25, false))⟩, ⟨(some 30), (.pick (.tmp 25) (.const (.bool true)) (.tmp 29)), none⟩, ⟨(some 31), (.move (.tmp 30)), none⟩, ⟨(some 32), (.faddr 3 (.tmp 1)), (some (31, false))⟩, ⟨(some 33), (.load1 (.tmp 32)), (some (31, false))⟩, ⟨(some 34), (.lenS (.tmp 33)), (some (31, false))⟩, ⟨(some 35), (.bin .gtr (.tmp 34) (.const (.int .i64 300))), (some (31, false))⟩, ⟨(some 36), (.pick (.tmp 31) (.const (.bool true)) (.tmp 35)), none⟩, ⟨(some 2), (.assign (.tmp 36)), none⟩]) .ret)), [(.move (.tmp 2))]⟩
theorem k38 : cfun Try.prog 38 = some c38 := by kernel_rfl
def c37 : XFun := ⟨9, (.seq (.ops [⟨(some 4), (.assign (.const (.bool false))), none⟩]) (.seq (.ops [⟨(some 5), (.move (.tmp 0)), none⟩, ⟨(some 6), (.move (.tmp 1)), none⟩, ⟨(some 7), (.call 44 [(.tmp 5), (.tmp 6)]), none⟩, ⟨(some 8), (.bin .geq (.tmp 7) (.const (.int .i64 0))), none⟩, ⟨(some 4), (.assign (.tmp 8)), none⟩]) .ret)), [(.move (.tmp 4))]⟩
theorem k37 : cfun Try.prog 37 = some c37 := by kernel_rfl
def c44 : XFun := ⟨19, (.seq (.ops [⟨(some 4), (.assign (.const (.int .i64 0))), none⟩]) (.seq (.seq (.ops [⟨(some 6), (.move (.tmp 0)), none⟩, ⟨(some 7), (.lenL (.tmp 6)), none⟩, ⟨(some 8), (.move (.const (.int .i64 0))), none⟩]) (.block 0 (.loop (.seq (.ops [⟨(some 9), (.bin .lss (.tmp 8) (.tmp 7)), none⟩]) (.seq (.cond (.tmp 9) .skip (.exit 0)) (.seq (.block 1 (.seq (.ops [⟨(some 10), (.move (.tmp 8)), none⟩, ⟨(some 5), (.assign (.tmp 10)), none⟩]) (.seq (.ops [⟨(some 11), (.move (.tmp 1)), none⟩, ⟨(some 12), (.move (.tmp 0)), none⟩, ⟨(some 13), (.move (.tmp 5)), none⟩, ⟨(some 14), (.iaddr 8 (.tmp 12) (.tmp 13)), none⟩, ⟨(some 15), (.loadN 8 (.tmp 14)), none⟩, ⟨(some 16), (.callv (.tmp 11) [(.tmp 15)]), none⟩]) (.cond (.tmp 16) (.seq (.ops [⟨(some 17), (.move (.tmp 5)), none⟩, ⟨(some 4), (.assign (.tmp 17)), none⟩]) .ret) .skip)))) (.ops [⟨(some 18), (.bin .add (.tmp 8) (.const (.int .i64 1))), none⟩, ⟨(some 8), (.move (.tmp 18)), none⟩]))))))) (.seq (.ops [⟨(some 4), (.assign (.const (.int .i64 (-1)))), none⟩]) .ret))), [(.move (.tmp 4))]⟩
theorem k44 : cfun Try.prog 44 = some c44 := by kernel_rfl
end Go.Proofs.Ytphgbfemigcalaa.Ax
/- A client's names as they will be, over values without memory: what is coming; Lookup, IDs. -/
namespace Go.Proofs.Ytphgbfemigcalaa.Ax
open Go.RowKit Go By
set_option linter.unusedSimpArgs false
set_option linter.unusedVariables false
set_option maxRecDepth 10000

theorem coming_c (l : List En) (h : List (List AV)) : Contract Try.prog 39 [.sl 8 (enc enC l) none .no] h (.fn (.func 45) [] [.box h.length 0]) (h ++ [[.sl 8 (enc enC l) none .no]]) [] := by
  refine contract_of k39 mixed (by simp [c39]) fun hh hargs => ?_
  simp [c39, hh]
def offO (l : List En) (a : Nat) : Nat := (opsOf (l.take a)).length
theorem offO_succ {l : List En} {a : Nat} (ha : a < l.length) : offO l (a + 1) = offO l a + l[a].good.length := by
  unfold offO opsOf
  rw [take_snoc ha, List.flatMap_append]
  simp
theorem offO_all (l : List En) : offO l l.length = (opsOf l).length := by unfold offO; rw [List.take_length]
theorem offO_le (l : List En) (a : Nat) : offO l a ≤ (opsOf l).length := by
  unfold offO opsOf
  conv => rhs; rw [← List.take_append_drop a l, List.flatMap_append, List.length_append]
  omega
theorem opsOf_at {l : List En} {a q : Nat} (ha : a < l.length) (hq : q < l[a].good.length) : (opsOf l)[offO l a + q]? = some l[a].good[q] := by
  have e : opsOf l = opsOf (l.take a) ++ (l[a].good ++ opsOf (l.drop (a + 1))) := by
    unfold opsOf
    conv => lhs; rw [← List.take_append_drop a l, List.flatMap_append, List.drop_eq_getElem_cons ha, List.flatMap_cons]
  rw [e, List.getElem?_append_right (by unfold offO; omega)]
  show (l[a].good ++ _)[offO l a + q - offO l a]? = _
  rw [show offO l a + q - offO l a = q by omega, List.getElem?_append_left hq, List.getElem?_eq_getElem hq]
def opAt (l : List En) (j : Nat) : To := (opsOf l).getD j ⟨false, [], 0⟩
theorem opAt_at {l : List En} {a q : Nat} (ha : a < l.length) (hq : q < l[a].good.length) : opAt l (offO l a + q) = l[a].good[q] := by
  unfold opAt
  rw [List.getD_eq_getElem?_getD, opsOf_at ha hq]; rfl
theorem opAt_get {l : List En} {j : Nat} (hj : j < (opsOf l).length) : opAt l j = (opsOf l)[j] := by
  unfold opAt
  rw [List.getD_eq_getElem?_getD, List.getElem?_eq_getElem hj]; rfl
/-- The variable that the function reads. -/
def RC (i0 : Nat) (l : List En) (L : Nat) (H : List (List AV)) : Prop := H.length = L ∧ ltLL L H ∧ H[i0]? = some [.sl 8 (enc enC l) none .no]
theorem coming_iter (l : List En) (hl : l.length ≤ 1000000) (hg : ∀ x ∈ l, x.good.length ≤ 1000000) (i0 L : Nat) : IterE Try.prog 45 [.box i0 0] (opsOf l).length (fun j => [.agg (toC (opAt l j))]) true (RC i0 l L) (fun j => [toC (opAt l j)]) := by
  intro i r c slots H wr hR hY
  have hL : ∀ j, j ≤ (opsOf l).length → (H j).length = L := fun j hj => (hR j hj).1
  have hT : ∀ j, j ≤ (opsOf l).length → ltLL L (H j) := fun j hj => (hR j hj).2.1
  have hI : ∀ j, j ≤ (opsOf l).length → (H j)[i0]? = some [.sl 8 (enc enC l) none .no] := fun j hj => (hR j hj).2.2
  have h0 := hL 0 (by omega)
  refine contract_of k45 mixed (by simp [c45]) fun hh hargs => ?_
  rw [h0] at hh hargs ⊢
  simp at hargs
  simp [c45, hI 0 (by omega)]
  refine xloop_ok (D := Nat) (fun a => ⟨[(0, .yld i r c slots), (1, .box i0 0), (7, .sl 8 (enc enC l) none .no), (8, .v (.int .i64 (l.length : Int))), (9, .v (.int .i64 (a : Int)))], [], H (offO l a), wr⟩) (fun a => a ≤ l.length) (fun a => l.length - a) 0 (by omega) ?_ ?_
  · have e0 : offO l 0 = 0 := rfl
    simp [Leq, hh, h0, hargs, leqH_take, e0]
    done
  · intro a ha
    have hoa := offO_le l a
    by_cases hlt : a < l.length
    · have hos := offO_succ hlt
      have hos2 := offO_le l (a + 1)
      have hgl := hg l[a] (List.getElem_mem hlt)
      have l1 := hL _ hoa
      have t1 := hT _ hoa
      simp [hlt, l1]
      refine xloop_ok (D := Nat) (fun q => ⟨[(0, .yld i r c slots), (1, .box i0 0), (7, .sl 8 (enc enC l) none .no), (8, .v (.int .i64 (l.length : Int))), (9, .v (.int .i64 (a : Int))), (14, .sl 3 (enc toC l[a].good) none .no), (15, .v (.int .i64 (l[a].good.length : Int))), (16, .v (.int .i64 (q : Int)))], [], H (offO l a + q), wr⟩) (fun q => q ≤ l[a].good.length) (fun q => l[a].good.length - q) 0 (by omega) ?_ ?_
      · simp [Leq, h0, l1, t1, hargs, leqH_take, sub_self]
        done
      · intro q hq
        by_cases hqt : q < l[a].good.length
        · have eop := opAt_at hlt hqt
          have hyj := hY (offO l a + q) (by omega)
          dsimp only at hyj
          rw [eop] at hyj
          have l2 := hL (offO l a + q) (by omega)
          simp [hqt, l2]
          refine xyield_self (by simp) hyj ?_
          have hw : IntKind.i64.wrap ((q : Int) + 1) = (q : Int) + 1 := wrap64 (by omega) (by omega)
          have l3 := hL (offO l a + q + 1) (by omega)
          have t3 := hT (offO l a + q + 1) (by omega)
          simp [hw]
          refine ⟨q + 1, by omega, by omega, ?_⟩
          have e1 : offO l a + (q + 1) = offO l a + q + 1 := by omega
          simp [Leq, h0, l3, t3, hargs, leqH_take, e1, sub_self]
          intro x h1 h2
          rcases h1 with h1 | h1 | h1
          · exact h1
          · omega
          · exact h1
        · have : q = l[a].good.length := by omega
          subst this
          have hw : IntKind.i64.wrap ((a : Int) + 1) = (a : Int) + 1 := wrap64 (by omega) (by omega)
          have l3 := hL (offO l (a + 1)) (by omega)
          have t3 := hT (offO l (a + 1)) (by omega)
          rw [← hos]
          simp [hw]
          refine ⟨a + 1, by omega, by omega, ?_⟩
          simp [Leq, h0, l3, t3, hargs, leqH_take, sub_self]
          done
    · have : a = l.length := by omega
      subst this
      rw [offO_all]
      have h2 := hL _ (Nat.le_refl _)
      have h3 := hT _ (Nat.le_refl _)
      simp [h2, h3, leqH_take, sub_self]
      done
theorem prefix_lt {l : List En} {j : Nat} (hj : j < (opsOf l).length) : (opsOf l).take (j + 1) = (opsOf l).take j ++ [opAt l j] := by
  rw [take_snoc hj, opAt_get hj]
/-! ### Lookup -/
def heapG (name : List UInt8) (l : List En) (h : List (List AV)) (g : Option Int) : List (List AV) := h ++ [[.v (.string (strB name))], [.v (.int .i64 (g.getD 0))], [.v (.bool g.isSome)], [.sl 8 (enc enC l) none .no]]
theorem olookup_c {h : List (List AV)} {lo i : Nat} {T : Tb} (ht : TbAt lo h i T) (l : List En) (hl : l.length ≤ 1000000) (hg : ∀ x ∈ l, x.good.length ≤ 1000000) (name : List UInt8) :
    Contract Try.prog 25 [.box i 0, .sl 8 (enc enC l) none .no, .v (.string (strB name))] h (.tup [.v (.int .i64 ((lookO name (T.get name) (opsOf l)).getD 0)), .v (.bool (lookO name (T.get name) (opsOf l)).isSome)]) h [] := by
  have hi := ht.i_lt
  refine contract_of k25 mixed (by simp [c25]) fun hh hargs => ?_
  simp [c25]
  refine xcall_self (by simp) (tget_c (ht.app _ (by simp)) name) ?_
  simp
  refine xcall_self (by simp) (coming_c l _) ?_
  simp
  have hp := ltLL_mono (Nat.le_add_right h.length 5) hh
  have hp4 := ltLL_mono (Nat.le_add_right h.length 4) hh
  have hp6 := ltLL_mono (Nat.le_add_right h.length 6) hh
  refine xrange_allE (coming_iter l hl hg (h.length + 3) (h.length + 5)) (fun j => heapG name l h (lookO name (T.get name) ((opsOf l).take j))) [h.length + 1, h.length + 2, h.length + 4] (by simp) (by simp) (fun _ => by simp [XCode.okIn]) (fun _ => by simp [XCode.okIn]) (by simp [heapG, lookO, Tb.old]) (fun j _ => by simp [heapG]) (fun j _ => ⟨by simp [heapG], by simp [heapG, lstate, hp], by simp [heapG]⟩) (by simp [heapG, hp4]) (fun j hj => ⟨rfl, by simp, ?_⟩) ?_
  · have e1 := prefix_lt hj
    have e2 := lookO_snoc name (T.get name) ((opsOf l).take j) (opAt l j)
    rw [← e1] at e2
    dsimp only
    rw [e2]
    generalize lookO name (T.get name) ((opsOf l).take j) = g
    generalize opAt l j = op
    unfold stepG
    by_cases hn : op.name = name
    · cases hs : op.set with
      | true =>
        simp [heapG, toC_mk, hn, hs, strB_toList]
        simp [rnd, stays, St.turn, hp6]
        done
      | false =>
        simp [heapG, toC_mk, hn, hs, strB_toList]
        simp [rnd, stays, St.turn, hp6]
        done
    · simp [heapG, toC_mk, hn, strB_toList]
      simp [rnd, stays, St.turn, hp6]
      done
  · simp [heapG, hh]
    done
theorem olookup_n {h : List (List AV)}  (l : List En) (hl : l.length ≤ 1000000) (hg : ∀ x ∈ l, x.good.length ≤ 1000000) (name : List UInt8) :
    Contract Try.prog 25 [.v (.pointer none), .sl 8 (enc enC l) none .no, .v (.string (strB name))] h (.tup [.v (.int .i64 ((lookO name none (opsOf l)).getD 0)), .v (.bool (lookO name none (opsOf l)).isSome)]) h [] := by
  skip
  refine contract_of k25 mixed (by simp [c25]) fun hh hargs => ?_
  simp [c25]
  refine xcall_self (by simp) (ntget_c name) ?_
  simp
  refine xcall_self (by simp) (coming_c l _) ?_
  simp
  have hp := ltLL_mono (Nat.le_add_right h.length 5) hh
  have hp4 := ltLL_mono (Nat.le_add_right h.length 4) hh
  have hp6 := ltLL_mono (Nat.le_add_right h.length 6) hh
  refine xrange_allE (coming_iter l hl hg (h.length + 3) (h.length + 5)) (fun j => heapG name l h (lookO name none ((opsOf l).take j))) [h.length + 1, h.length + 2, h.length + 4] (by simp) (by simp) (fun _ => by simp [XCode.okIn]) (fun _ => by simp [XCode.okIn]) (by simp [heapG, lookO]) (fun j _ => by simp [heapG]) (fun j _ => ⟨by simp [heapG], by simp [heapG, lstate, hp], by simp [heapG]⟩) (by simp [heapG, hp4]) (fun j hj => ⟨rfl, by simp, ?_⟩) ?_
  · have e1 := prefix_lt hj
    have e2 := lookO_snoc name none ((opsOf l).take j) (opAt l j)
    rw [← e1] at e2
    dsimp only
    rw [e2]
    generalize lookO name none ((opsOf l).take j) = g
    generalize opAt l j = op
    unfold stepG
    by_cases hn : op.name = name
    · cases hs : op.set with
      | true =>
        simp [heapG, toC_mk, hn, hs, strB_toList]
        simp [rnd, stays, St.turn, hp6]
        done
      | false =>
        simp [heapG, toC_mk, hn, hs, strB_toList]
        simp [rnd, stays, St.turn, hp6]
        done
    · simp [heapG, toC_mk, hn, strB_toList]
      simp [rnd, stays, St.turn, hp6]
      done
  · simp [heapG, hh]
    done
end Go.Proofs.Ytphgbfemigcalaa.Ax
/- A client's names as they will be, over values without memory: IDs, Many. -/
namespace Go.Proofs.Ytphgbfemigcalaa.Ax
open Go.RowKit Go By
set_option linter.unusedSimpArgs false
set_option linter.unusedVariables false
set_option maxRecDepth 10000

def idK (i : Nat) : List Int → AV
  | [] => .sl 0 [] (some true) .exact
  | x :: r => .sl 1 (enc intC (x :: r)) none (.own (.cell i 0))
theorem idK_lt (i n : Nat) : ∀ l, (idK i l).lt n
  | [] => by simp [idK]
  | x :: r => by simp [idK, intC]
theorem intC_lt (n : Nat) (x : Int) : ltL n (intC x) := by simp [intC]
theorem itC_lt (n a b : Nat) (l : List Nat) : ltL n (itC a b l) := ltL_of fun j c hj => by
  have hc := List.mem_of_getElem? hj
  unfold itC at hc
  simp only [List.mem_cons, List.mem_map] at hc
  rcases hc with rfl | rfl | rfl | ⟨b, _, rfl⟩ <;> trivial
def heapI (l : List En) (h : List (List AV)) (ids : List Int) : List (List AV) := h ++ [[idK h.length ids], [.sl 8 (enc enC l) none .no]]
theorem idsO_len (ops : List To) : (idsO ops).length ≤ ops.length := by unfold idsO; rw [List.length_map]; exact List.length_filter_le ..
theorem oids_c (l : List En) (hl : l.length ≤ 1000000) (hg : ∀ x ∈ l, x.good.length ≤ 1000000) (hn : (opsOf l).length ≤ 1000000) (h : List (List AV)) : Contract Try.prog 30 [.sl 8 (enc enC l) none .no] h (.sl 1 (enc intC (idsO (opsOf l))) none .no) h [] := by
  refine contract_of k30 mixed (by simp [c30]) fun hh hargs => ?_
  simp [c30]
  refine xcall_self (by simp) (coming_c l _) ?_
  simp
  have hp2 := ltLL_mono (Nat.le_add_right h.length 2) hh
  have hp3 := ltLL_mono (Nat.le_add_right h.length 3) hh
  have hp4 := ltLL_mono (Nat.le_add_right h.length 4) hh
  refine xrange_allE (coming_iter l hl hg (h.length + 1) (h.length + 3)) (fun j => heapI l h (idsO ((opsOf l).take j))) [h.length, h.length + 2] (by simp) (by simp) (fun _ => by simp [XCode.okIn]) (fun _ => by simp [XCode.okIn]) (by simp [heapI, idsO, idK]) (fun j _ => by simp [heapI]) (fun j _ => ⟨by simp [heapI], by simp [heapI, lstate, hp3, idK_lt], by simp [heapI]⟩) (by simp [heapI, hp2, idK_lt]) (fun j hj => ⟨rfl, by simp, ?_⟩) ?_
  · have e1 := prefix_lt hj
    have e2 := idsO_snoc ((opsOf l).take j) (opAt l j)
    rw [← e1] at e2
    have e3 := idsO_len ((opsOf l).take j)
    rw [List.length_take] at e3
    dsimp only
    rw [e2]
    generalize idsO ((opsOf l).take j) = ids at *
    generalize opAt l j = op
    cases hs : op.set with
    | false =>
      simp [heapI, toC_mk, hs]
      simp [rnd, stays, St.turn, hp4, idK_lt]
      done
    | true =>
      cases ids with
      | nil =>
        simp [heapI, toC_mk, hs, idK]
        simp [rnd, stays, St.turn, hp4, intC]
        done
      | cons x r =>
        have e4 : r.length + 1 ≤ 1000000 := by simp at e3; omega
        simp [heapI, toC_mk, hs, idK, unownAt]
        refine ⟨by omega, by omega, ?_⟩
        simp [rnd, stays, St.turn, hp4, intC]
        done
  · cases he : idsO (opsOf l) with
    | nil =>
      simp [heapI, hh, idK, he]
      done
    | cons x r =>
      simp [heapI, hh, idK, he, intC_lt]
      done
/-! ### Many -/
def heapM (l : List En) (h : List (List AV)) (p : Nat × List (KE To)) : List (List AV) := h ++ [mapC p.1 (p.2.map (KE.ent toC)), [.mp h.length 3 false], [.sl 8 (enc enC l) none .no]]
theorem mapTo_lt (n : Nat) (p : Nat × List (KE To)) : ltL n (mapC p.1 (p.2.map (KE.ent toC))) := mapC_lt fun e he => by obtain ⟨s, _, rfl⟩ := List.mem_map.1 he; simp [KE.ent]
section
variable {lo : Nat} {h : List (List AV)} {i : Nat} {T : Tb}
theorem omany_c (ht : TbAt lo h i T) (ho : TbOk T) (l : List En) (hl : l.length ≤ 1000000) (hg : ∀ x ∈ l, x.good.length ≤ 1000000) (hn : (opsOf l).length ≤ 1000000) : Contract Try.prog 27 [.box i 0, .sl 8 (enc enC l) none .no] h (.v (.int .i64 ((T.e.length : Int) + sumD (fun k => (T.get k).isSome) (lastO (opsOf l)).2))) h [] := by
  have hi := ht.i_lt
  refine contract_of k27 mixed (by simp [c27]) fun hh hargs => ?_
  simp [c27]
  refine xcall_self (by simp) (coming_c l _) ?_
  simp
  have hp3 := ltLL_mono (Nat.le_add_right h.length 3) hh
  have hp4 := ltLL_mono (Nat.le_add_right h.length 4) hh
  have hp5 := ltLL_mono (Nat.le_add_right h.length 5) hh
  refine xrange_allE (coming_iter l hl hg (h.length + 2) (h.length + 4)) (fun j => heapM l h (lastO ((opsOf l).take j))) [h.length, h.length + 3] (by simp) (by simp) (fun _ => by simp [XCode.okIn]) (fun _ => by simp [XCode.okIn]) (by simp [heapM, lastO, mapC]) (fun j _ => by simp [heapM]) (fun j _ => ⟨by simp [heapM], by simp [heapM, lstate, hp4, mapTo_lt], by simp [heapM]⟩) (by simp [heapM, hp3, mapTo_lt]) (fun j hj => ⟨rfl, by simp, ?_⟩) ?_
  · have e1 := prefix_lt hj
    have e2 := lastO_snoc ((opsOf l).take j) (opAt l j)
    rw [← e1] at e2
    have e3 := lastO_ok ((opsOf l).take j)
    dsimp only
    rw [e2]
    generalize lastO ((opsOf l).take j) = p at *
    obtain ⟨cl, es⟩ := p
    generalize opAt l j = op
    have q1 : mapOf 3 (mapC cl (es.map (KE.ent toC))) = some (cl, es.map (KE.ent toC)) := KE.ents_of toC_len _ _
    have q2 : keysOk none (es.map (KE.ent toC)) := KE.ents_keys toC_id _
    have q3 : mapC (AEnt.put (.string (strB op.name)) cl (toC op) (es.map (KE.ent toC))).2 (AEnt.put (.string (strB op.name)) cl (toC op) (es.map (KE.ent toC))).1 = mapC (lastS (cl, es) op).1 ((lastS (cl, es) op).2.map (KE.ent toC)) := by rw [KE.put_eq toC e3]; rfl
    have q4 := mapTo_lt (h.length + 5) (lastS (cl, es) op)
    simp [heapM, q1, q2, q3]
    simp [rnd, stays, St.turn, hp5, q4]
    done
  · have hok := lastO_ok (opsOf l)
    have hle := lastO_len (opsOf l)
    rw [List.take_length]
    obtain ⟨p, hpp⟩ : ∃ p, p = lastO (opsOf l) := ⟨_, rfl⟩
    rw [← hpp] at hok hle ⊢
    have hm := ho.most
    have hlm := ho.len
    have tA : ∀ xs, ltLL (h.length + xs.length) xs → TbAt lo (h ++ xs) i T := fun xs hx => ht.app xs hx
    have q1 : mapOf 3 (mapC p.1 (p.2.map (KE.ent toC))) = some (p.1, p.2.map (KE.ent toC)) := KE.ents_of toC_len _ _
    have m4 := fun n => mapTo_lt n p
    simp [heapM]
    refine xcall_self (by simp) (tlen_c (tA _ (by simp [m4]))) ?_
    simp [q1]
    refine xloop_ok (D := List (KE To)) (fun seen => ⟨[(0, .box i 0), (7, .v (.int .i64 ((T.e.length : Int) + sumD (fun k => (T.get k).isSome) seen))), (23, .itr (h.length + 3) (some h.length) 3 false)], [], h ++ [mapC p.1 (p.2.map (KE.ent toC)), [.mp h.length 3 false], [.sl 8 (enc enC l) none .no], itC p.1 p.1 (seen.map KE.born)], [h.length, h.length + 3]⟩) (fun seen => KE.Seen p.2 seen) (fun seen => p.2.length - seen.length) [] ⟨List.nodup_nil, fun x hx => by cases hx⟩ ?_ ?_
    · simp [Leq, leqH_take, itC_lt, sumD, hp4, m4]
      omega
    · intro seen hs
      simp [q1]
      refine ⟨fun a ha => hok.lt a ha, fun hall => ?_, ?_⟩
      · have hperm := hs.perm hok fun x hx => hall x hx
        rw [sumD_perm hperm]
        simp [hh]
        done
      · intro a ha hnew
        have hb := KE.at_born (f := toC) hok.borns ha
        have hkey : (KE.ent toC a).key = .string (strB a.key) := rfl
        have hborn : (KE.ent toC a).born = a.born := rfl
        have hcells : (KE.ent toC a).cells = toC a.val := rfl
        have hout : a ∉ seen := fun hx => hnew a hx rfl
        have hs2 := hs.snoc ha hout
        have hle2 := hs2.le
        simp at hle2
        have hsum : sumD (fun k => (T.get k).isSome) (seen ++ [a]) = sumD (fun k => (T.get k).isSome) seen + dlt (fun k => (T.get k).isSome) a := by rw [sumD_append, sumD_one]
        have hbd := sumD_bd (fun k => (T.get k).isSome) seen
        have w1 : IntKind.i64.wrap ((T.e.length : Int) + sumD (fun k => (T.get k).isSome) seen + 1) = (T.e.length : Int) + sumD (fun k => (T.get k).isSome) seen + 1 := wrap64 (by omega) (by omega)
        have w2 : IntKind.i64.wrap ((T.e.length : Int) + sumD (fun k => (T.get k).isSome) seen - 1) = (T.e.length : Int) + sumD (fun k => (T.get k).isSome) seen - 1 := wrap64 (by omega) (by omega)
        simp [hb, hkey, hborn, hcells]
        refine xcall_self (by simp) (tget_c (tA _ (by simp [m4, itC_lt])) a.key) ?_
        cases hset : a.val.set with
        | true =>
          cases hg : (T.get a.key).isSome with
          | true =>
            have hd : dlt (fun k => (T.get k).isSome) a = 0 := by unfold dlt; simp [hset, hg]
            simp [toC_mk, hset, hg]
            refine ⟨seen ++ [a], hs2, by simp; omega, ?_⟩
            simp [Leq, leqH_take, itC_lt, hp4, m4, hsum, hd]
            omega
          | false =>
            have hd : dlt (fun k => (T.get k).isSome) a = 1 := by unfold dlt; simp [hset, hg]
            simp [toC_mk, hset, hg, w1]
            refine ⟨seen ++ [a], hs2, by simp; omega, ?_⟩
            simp [Leq, leqH_take, itC_lt, hp4, m4, hsum, hd]
            omega
        | false =>
          cases hg : (T.get a.key).isSome with
          | true =>
            have hd : dlt (fun k => (T.get k).isSome) a = -1 := by unfold dlt; simp [hset, hg]
            simp [toC_mk, hset, hg, w2]
            refine ⟨seen ++ [a], hs2, by simp; omega, ?_⟩
            simp [Leq, leqH_take, itC_lt, hp4, m4, hsum, hd]
            omega
          | false =>
            have hd : dlt (fun k => (T.get k).isSome) a = 0 := by unfold dlt; simp [hset, hg]
            simp [toC_mk, hset, hg]
            refine ⟨seen ++ [a], hs2, by simp; omega, ?_⟩
            simp [Leq, leqH_take, itC_lt, hp4, m4, hsum, hd]
            omega
end
end Go.Proofs.Ytphgbfemigcalaa.Ax
/- A client's names as they will be, over values without memory: Apply; entries that are few. -/
namespace Go.Proofs.Ytphgbfemigcalaa.Ax
open Go.RowKit Go By
set_option linter.unusedSimpArgs false
set_option linter.unusedVariables false
set_option maxRecDepth 10000

theorem seq_c (l m : List Int) (hl : l.length ≤ 140737488355328) (h : List (List AV)) : Contract Try.prog 29 [.sl 1 (enc intC l) none .no, .sl 1 (enc intC m) none .no] h (.v (.bool (l == m))) h [] := by
  have := equal1_any mixed k29 l m h hl
  rwa [eqL_beq] at this
def NmFit (op : To) : Prop := op.name.length ≤ 281474976710656
section
variable {lo : Nat} {h : List (List AV)} {i : Nat} {T : Tb}
theorem oapp_c (ht : TbAt lo h i T) (ho : TbOk T) (op : To) (hf : NmFit op) : Contract Try.prog 41 [.box i 0, .agg (toC op)] h (.tup [.v (.int .i64 (T.old op.name)), .v (.int .i64 (T.errO op))]) (h.set T.a (T.step op).cells) [T.a] := by
  have hi := ht.i_lt
  have ha := ht.a_lt
  have hA := ht.app [toC op] (by simp)
  have hs : ∀ c, (h ++ [toC op]).set T.a c = h.set T.a c ++ [toC op] := fun c => List.set_append_left _ _ ha
  have hlt := (ht.to (T.step_a op) (T.step_most op)).lt
  rw [List.length_set] at hlt
  cases hset : op.set with
  | true =>
    have ct := tset_c hA ho op.name hf op.id
    rw [hs] at ct
    have e1 : T.step op = T.set op.name op.id := by unfold Tb.step; rw [if_pos hset]
    have e2 : T.errO op = T.err op.name := by unfold Tb.errO; rw [if_pos hset]
    rw [e2]
    rw [e1] at hlt ⊢
    refine contract_of k41 mixed (by simp [c41]) fun hh hargs => ?_
    simp [c41, hset]
    refine xcall_self (by simp) ct ?_
    simp [hlt, leqH_take]
    done
  | false =>
    have ct := tdel_c hA op.name
    rw [hs] at ct
    have e1 : T.step op = T.del op.name := by unfold Tb.step; rw [if_neg (by simp [hset])]
    have e2 : T.errO op = 0 := by unfold Tb.errO; rw [if_neg (by simp [hset])]
    rw [e2]
    rw [e1] at hlt ⊢
    refine contract_of k41 mixed (by simp [c41]) fun hh hargs => ?_
    simp [c41, hset]
    refine xcall_self (by simp) ct ?_
    simp [hlt, leqH_take]
    done
structure AP where
  T : Tb
  had : List Int
  j : Nat
structure AP.Ok (T : Tb) (ops : List To) (d : AP) : Prop where
  le : d.j ≤ ops.length
  eq : appT T ops [] = appT d.T (ops.drop d.j) d.had
  a : d.T.a = T.a
  most : d.T.most = T.most
  ok : TbOk d.T
  few : d.had.length ≤ d.j
theorem step_ok {T : Tb} (ho : TbOk T) (op : To) : TbOk (T.step op) := by
  unfold Tb.step
  split
  · exact ho.set _ _
  · exact ho.del _
theorem addH_len (x : Int) (had : List Int) : (addH x had).length ≤ had.length + 1 := by unfold addH; split <;> simp
theorem oapply_c (ht : TbAt lo h i T) (ho : TbOk T) (ops : List To) (hf : ∀ x ∈ ops, NmFit x) (hn : ops.length ≤ 1000000) : Contract Try.prog 32 [.box i 0, .sl 3 (enc toC ops) none .no] h (.tup [.sl 1 (enc intC (appT T ops []).2.1) none .no, .v (.int .i64 (appT T ops []).2.2)]) (h.set T.a (appT T ops []).1.cells) [T.a] := by
  have hi := ht.i_lt
  have ha := ht.a_lt
  have hself := ht.set_self
  refine contract_of k32 mixed (by simp [c32]) fun hh hargs => ?_
  simp [c32]
  refine xloop_ok (D := AP) (fun d => ⟨[(0, .box i 0), (11, .sl 3 (enc toC ops) none .no), (12, .v (.int .i64 (ops.length : Int))), (13, .v (.int .i64 (d.j : Int)))], [(6, .sl 1 (enc intC d.had) none (.own (.new 6)))], h.set T.a d.T.cells, [T.a]⟩) (AP.Ok T ops) (fun d => ops.length - d.j) ⟨T, [], 0⟩ ⟨Nat.zero_le _, rfl, rfl, rfl, ho, Nat.le_refl _⟩ ?_ ?_
  · simp [Leq, hself, hh, leqH_take, hi]
    done
  · rintro ⟨Tj, had, j⟩ ⟨hj, heq, hta, htm, hok, hfew⟩
    dsimp only at hj heq hta htm hok hfew
    have hat := ht.to hta htm
    have hatl := hat.lt
    rw [List.length_set] at hatl
    by_cases hlt : j < ops.length
    · have hdr : ops.drop j = ops[j] :: ops.drop (j + 1) := List.drop_eq_getElem_cons hlt
      have hw : IntKind.i64.wrap ((j : Int) + 1) = (j : Int) + 1 := wrap64 (by omega) (by omega)
      rw [hdr] at heq
      have hap := oapp_c (hat.app [toC ops[j]] (by simp)) hok ops[j] (hf _ (List.getElem_mem hlt))
      rw [hta, List.set_append_left _ _ (by simpa using ha), List.set_set] at hap
      have hat2 := ht.to ((Tj.step_a ops[j]).trans hta) ((Tj.step_most ops[j]).trans htm)
      have hatl2 := hat2.lt
      rw [List.length_set] at hatl2
      simp [hlt]
      refine xcall_self (by simp) hap ?_
      by_cases he : Tj.errO ops[j] = 0
      · have heq2 : appT T ops [] = appT (Tj.step ops[j]) (ops.drop (j + 1)) (addH (Tj.old ops[j].name) had) := by rw [heq]; show (if _ then _ else _) = _; rw [if_pos he]
        have hok2 := step_ok hok ops[j]
        have hal := addH_len (Tj.old ops[j].name) had
        have next : AP.Ok T ops ⟨Tj.step ops[j], addH (Tj.old ops[j].name) had, j + 1⟩ := ⟨hlt, heq2, (Tj.step_a _).trans hta, (Tj.step_most _).trans htm, hok2, by show (addH _ had).length ≤ j + 1; omega⟩
        by_cases hold : 0 < Tj.old ops[j].name
        · have hadd : addH (Tj.old ops[j].name) had = had ++ [Tj.old ops[j].name] := by unfold addH; rw [if_pos hold]
          simp [he, hold, hw]
          refine ⟨by omega, by omega, ⟨_, _, j + 1⟩, next, by show ops.length - (j + 1) < ops.length - j; omega, ?_⟩
          simp [Leq, hatl2, leqH_take, hi, hadd, intC_lt, intC]
          try omega
        · have hadd : addH (Tj.old ops[j].name) had = had := by unfold addH; rw [if_neg hold]
          simp [he, hold, hw]
          refine ⟨⟨_, _, j + 1⟩, next, by show ops.length - (j + 1) < ops.length - j; omega, ?_⟩
          simp [Leq, hatl2, leqH_take, hi, hadd]
          try omega
      · have heq2 : appT T ops [] = (Tj.step ops[j], had, Tj.errO ops[j]) := by rw [heq]; show (if _ then _ else _) = _; rw [if_neg he]
        rw [heq2]
        simp [he, hatl2, leqH_take]
        try omega
    · have : j = ops.length := by omega
      subst this
      rw [List.drop_length] at heq
      rw [heq]
      simp [appT, hatl, leqH_take]
      try omega
end
/-! ### A table that no call made -/
section
variable {h : List (List AV)}
theorem oappn_c (op : To) : Contract Try.prog 41 [.v (.pointer none), .agg (toC op)] h (.tup [.v (.int .i64 0), .v (.int .i64 (if op.set = true then 2 else 0))]) h [] := by
  refine contract_of k41 mixed (by simp [c41]) fun hh hargs => ?_
  cases hset : op.set with
  | true =>
    simp [c41, hset]
    refine xcall_self (by simp) (ntset_c _ _) ?_
    simp [hh]
  | false =>
    simp [c41, hset]
    refine xcall_self (by simp) (ntdel_c _) ?_
    simp [hh]
theorem oapplyn_c (op : To) : Contract Try.prog 32 [.v (.pointer none), .sl 3 (enc toC [op]) none .no] h (.tup [.sl 1 [] none .no, .v (.int .i64 (if op.set = true then 2 else 0))]) h [] := by
  refine contract_of k32 mixed (by simp [c32]) fun hh hargs => ?_
  simp [c32]
  refine xloop_ok (D := Nat) (fun j => ⟨[(0, .v (.pointer none)), (11, .sl 3 [toC op] none .no), (12, .v (.int .i64 1)), (13, .v (.int .i64 (j : Int)))], [(6, .sl 1 [] none (.own (.new 6)))], h, []⟩) (fun j => j ≤ 1 ∧ (j = 1 → op.set = false)) (fun j => 1 - j) 0 ⟨by omega, fun h => by omega⟩ ?_ ?_
  · simp [Leq, hh, leqH_take]
    done
  · rintro j ⟨hj, hj1⟩
    have hc : j = 0 ∨ j = 1 := by omega
    rcases hc with rfl | rfl
    · have hap := oappn_c (h := h ++ [toC op]) op
      simp
      refine xcall_self (by simp) hap ?_
      cases hset : op.set with
      | true => simp [hh]
      | false =>
        simp
        have hw : IntKind.i64.wrap 1 = 1 := by decide
        refine ⟨1, by omega, by omega, ?_⟩
        simp [Leq, hh, leqH_take, hw]
    · simp [hh, hj1 rfl]
      done
end
/-! ### Entries that are few -/
def fewE (e : En) : Bool := decide (e.good.length ≤ 10 ∧ e.bad.length ≤ 10 ∧ e.cache.length ≤ 10 ∧ e.reply.length ≤ 300 ∧ e.from_.length ≤ 300 ∧ e.to.length ≤ 300)
def fewEL (l : List En) (n : Int) : Bool := decide ((l.length : Int) ≤ n) && l.all fewE
theorem entry_c (e : En) (h : List (List AV)) : Contract Try.prog 38 [.agg (enC e)] h (.v (.bool (!fewE e))) h [] := by
  refine contract_of k38 mixed (by simp [c38]) fun hh hargs => ?_
  simp [c38, enC_mk]
  by_cases q1 : e.good.length ≤ 10
  · have p1 : ¬ (10 : Int) < e.good.length := by omega
    by_cases q2 : e.bad.length ≤ 10
    · have p2 : ¬ (10 : Int) < e.bad.length := by omega
      by_cases q3 : e.cache.length ≤ 10
      · have p3 : ¬ (10 : Int) < e.cache.length := by omega
        by_cases q4 : e.reply.length ≤ 300
        · have p4 : ¬ (300 : Int) < e.reply.length := by omega
          by_cases q5 : e.from_.length ≤ 300
          · have p5 : ¬ (300 : Int) < e.from_.length := by omega
            by_cases q6 : e.to.length ≤ 300
            · have p6 : ¬ (300 : Int) < e.to.length := by omega
              simp [p1, p2, p3, p4, p5, p6, q1, q2, q3, q4, q5, q6, fewE, strB_size, hh]
            · have p6 : (300 : Int) < e.to.length := by omega
              simp [p1, p2, p3, p4, p5, p6, q1, q2, q3, q4, q5, q6, fewE, strB_size, hh]
          · have p5 : (300 : Int) < e.from_.length := by omega
            simp [p1, p2, p3, p4, p5, q1, q2, q3, q4, q5, fewE, strB_size, hh]
        · have p4 : (300 : Int) < e.reply.length := by omega
          simp [p1, p2, p3, p4, q1, q2, q3, q4, fewE, strB_size, hh]
      · have p3 : (10 : Int) < e.cache.length := by omega
        simp [p1, p2, p3, q1, q2, q3, fewE, hh]
    · have p2 : (10 : Int) < e.bad.length := by omega
      simp [p1, p2, q1, q2, fewE, hh]
  · have p1 : (10 : Int) < e.good.length := by omega
    simp [p1, q1, fewE, hh]
theorem entries_c (l : List En) (h : List (List AV)) : Contract Try.prog 23 [.sl 8 (enc enC l) none .no, .v (.int .i64 30)] h (.v (.bool (fewEL l 30))) h [] := by
  refine contract_of k23 mixed (by simp [c23]) fun hh hargs => ?_
  by_cases hL : (30 : Int) < l.length
  · have e : fewEL l 30 = false := by unfold fewEL; simp; intro h1; omega
    rw [e]
    simp [c23, hL, hh]
  · have e : fewEL l 30 = !(l.any fun e => !fewE e) := by unfold fewEL; rw [← List.not_all_eq_any_not]; simp; omega
    rw [e]
    simp [c23, hL]
    refine xcall_self (by simp) (containsN_any mixed k37 k44 enC (fun e => !fewE e) l [] _ (by simp) (by simp) (by simp) (fun e _ => entry_c e _) (by omega)) ?_
    simp [hh]
end Go.Proofs.Ytphgbfemigcalaa.Ax
/- The document's view of a client's names as they will be, over values without memory. -/
namespace Go.Proofs.Ytphgbfemigcalaa.Ax
open Go.RowKit Go By
set_option linter.unusedSimpArgs false
set_option linter.unusedVariables false
set_option maxRecDepth 10000

theorem rids_c (l : List En) (hl : l.length ≤ 1000000) (hg : ∀ x ∈ l, x.good.length ≤ 1000000) (hn : (opsOf l).length ≤ 1000000) (h : List (List AV)) : Contract Try.prog 31 [.sl 8 (enc enC l) none .no] h (.sl 1 (enc intC (idsO (opsOf l))) none .no) h [] := by
  refine contract_of k31 mixed (by simp [c31]) fun hh hargs => ?_
  simp [c31]
  refine xloop_ok (D := Nat) (fun a => ⟨[(0, .sl 8 (enc enC l) none .no), (4, .v (.int .i64 (a : Int)))], [(3, .sl 1 (enc intC (idsO ((opsOf l).take (offO l a)))) none (.own (.new 3)))], h, []⟩) (fun a => a ≤ l.length) (fun a => l.length - a) 0 (by omega) ?_ ?_
  · have e0 : offO l 0 = 0 := rfl
    simp [Leq, hh, leqH_take, e0, idsO]
    done
  · intro a ha
    by_cases hlt : a < l.length
    · have hos := offO_succ hlt
      have hos2 := offO_le l (a + 1)
      have hgl := hg l[a] (List.getElem_mem hlt)
      simp [hlt]
      refine xloop_ok (D := Nat) (fun q => ⟨[(0, .sl 8 (enc enC l) none .no), (4, .v (.int .i64 (a : Int))), (5, .v (.int .i64 (q : Int)))], [(3, .sl 1 (enc intC (idsO ((opsOf l).take (offO l a + q)))) none (.own (.new 3)))], h, []⟩) (fun q => q ≤ l[a].good.length) (fun q => l[a].good.length - q) 0 (by omega) ?_ ?_
      · simp [Leq, hh, leqH_take]
        done
      · intro q hq
        by_cases hqt : q < l[a].good.length
        · have hj : offO l a + q < (opsOf l).length := by omega
          have eop := opAt_at hlt hqt
          have e1 := prefix_lt hj
          have e2 := idsO_snoc ((opsOf l).take (offO l a + q)) (opAt l (offO l a + q))
          rw [← e1, eop] at e2
          have e3 := idsO_len ((opsOf l).take (offO l a + q))
          rw [List.length_take] at e3
          have hw : IntKind.i64.wrap ((q : Int) + 1) = (q : Int) + 1 := wrap64 (by omega) (by omega)
          have e4 : offO l a + (q + 1) = offO l a + q + 1 := by omega
          generalize idsO ((opsOf l).take (offO l a + q)) = ids at *
          cases hs : l[a].good[q].set with
          | true =>
            rw [if_pos hs] at e2
            simp [hlt, hqt, hs, hw, enC_mk, toC_mk]
            refine ⟨by omega, by omega, q + 1, by omega, by omega, ?_⟩
            rw [e4, e2]
            simp [Leq, hh, leqH_take, intC]
            done
          | false =>
            rw [if_neg (by simp [hs])] at e2
            simp [hlt, hqt, hs, hw, enC_mk, toC_mk]
            refine ⟨q + 1, by omega, by omega, ?_⟩
            rw [e4, e2]
            simp [Leq, hh, leqH_take]
            done
        · have : q = l[a].good.length := by omega
          subst this
          have hw : IntKind.i64.wrap ((a : Int) + 1) = (a : Int) + 1 := wrap64 (by omega) (by omega)
          rw [← hos]
          simp [hlt, hw, enC_mk]
          refine ⟨a + 1, by omega, by omega, ?_⟩
          simp [Leq, hh, leqH_take]
          done
    · have : a = l.length := by omega
      subst this
      rw [offO_all, List.take_length]
      have hres : ∀ m (es : List (List AV)), resOf m (.sl 1 es none (.own (.new 2))) = .sl 1 es none (.own .res) := fun _ _ => rfl
      simp [hh, hres]
      done
/-! ### A list that changes, call by call -/
theorem set_rise {L : List Nm} (h : Nm.Rise L) (most : Nat) (k : List UInt8) (v : Int) : Nm.Rise (Nm.set most k v L) := by
  unfold Nm.set
  split
  · exact h
  · exact Nm.rise_put h k v
theorem stepM_rise {L : List Nm} (h : Nm.Rise L) (most : Nat) (op : To) : Nm.Rise (stepM most L op) := by
  unfold stepM
  split
  · exact set_rise h most _ _
  · exact Nm.rise_del h _
theorem stepM_len (most : Nat) (L : List Nm) (op : To) : (stepM most L op).length ≤ L.length + 1 := by
  unfold stepM Nm.set
  split
  · split
    · omega
    · rw [Nm.put_len]; split <;> omega
  · have : (Nm.del op.name L).length ≤ L.length := (List.eraseP_sublist ..).length_le
    omega
theorem stepM_big {most : Nat} {L : List Nm} (h : L.length < most) (op : To) : stepM most L op = stepL L op := by
  unfold stepM stepL Nm.set Nm.full
  have : decide (most ≤ L.length) = false := by simp; omega
  rw [this]
  simp
def LM (most : Nat) (L : List Nm) (ops : List To) (j : Nat) : List Nm := (ops.take j).foldl (stepM most) L
theorem LM_big {most : Nat} : ∀ (ops : List To) {L : List Nm}, L.length + ops.length < most → ∀ j, LM most L ops j = viewL L (ops.take j)
  | [], L, _, j => by unfold LM viewL; simp
  | op :: r, L, h, 0 => rfl
  | op :: r, L, h, j + 1 => by
    have h1 : stepM most L op = stepL L op := stepM_big (by omega) op
    have h2 := stepL_len L op
    have ih := LM_big r (L := stepL L op) (most := most) (by simp at h; omega) j
    show (r.take j).foldl (stepM most) (stepM most L op) = (r.take j).foldl stepL (stepL L op)
    rw [h1]; exact ih
structure NC (lo i b most : Nat) (h : List (List AV)) (H : List (List AV)) (B : Nat) (L : List Nm) : Prop where
  at_ : NlAt lo H i B most L
  len : h.length ≤ H.length
  ext : ∀ q < h.length, q ≠ i → q ≠ b → H[q]? = h[q]?
  new : B = b ∨ h.length ≤ B
theorem nchain (most : Nat) (xs : To → List (List AV)) (hxs : ∀ op n, ltLL n (xs op)) {lo i : Nat} : ∀ (ops : List To) {h : List (List AV)} {b : Nat} {L : List Nm}, NlAt lo h i b most L → Nm.Rise L → L.length + ops.length ≤ 1000000 →
    ∃ (H : Nat → List (List AV)) (B : Nat → Nat), H 0 = h ∧ B 0 = b ∧ (∀ j, j ≤ ops.length → NC lo i b most h (H j) (B j) (LM most L ops j)) ∧
      ∀ j (hj : j < ops.length), (ops[j].set = true → Contract Try.prog 14 [.box i 0, .v (.string (strB ops[j].name)), .v (.int .i64 ops[j].id)] (H j ++ xs ops[j]) (.tup [.v (.int .i64 ((Nm.get ops[j].name (LM most L ops j)).getD 0)), .v (.int .i64 (Nm.err most ops[j].name (LM most L ops j)))]) (H (j + 1)) [i, B j]) ∧
        (ops[j].set = false → Contract Try.prog 16 [.box i 0, .v (.string (strB ops[j].name))] (H j ++ xs ops[j]) (.tup [.v (.int .i64 ((Nm.get ops[j].name (LM most L ops j)).getD 0)), .v (.bool (Nm.get ops[j].name (LM most L ops j)).isSome)]) (H (j + 1)) [i, B j])
  | [], h, b, L, hr, _, _ => ⟨fun _ => h, fun _ => b, rfl, rfl, fun j hj => by
      have : j = 0 := by simpa using hj
      subst this
      exact ⟨hr, Nat.le_refl _, fun _ _ _ _ => rfl, .inl rfl⟩, fun j hj => by simp at hj⟩
  | op :: r, h, b, L, hr, hs, hn => by
    have hlen : L.length ≤ 1000000 := by omega
    have hA := hr.app (xs op) (hxs op _)
    have hstep : ∃ h1 b1, ((op.set = true → Contract Try.prog 14 [.box i 0, .v (.string (strB op.name)), .v (.int .i64 op.id)] (h ++ xs op) (.tup [.v (.int .i64 ((Nm.get op.name L).getD 0)), .v (.int .i64 (Nm.err most op.name L))]) h1 [i, b]) ∧
        (op.set = false → Contract Try.prog 16 [.box i 0, .v (.string (strB op.name))] (h ++ xs op) (.tup [.v (.int .i64 ((Nm.get op.name L).getD 0)), .v (.bool (Nm.get op.name L).isSome)]) h1 [i, b])) ∧ NlAt lo h1 i b1 most (stepM most L op) ∧ (b1 = b ∨ h.length ≤ b1) ∧ h.length ≤ h1.length ∧ ∀ q < h.length, q ≠ i → q ≠ b → h1[q]? = h[q]? := by
      cases hset : op.set with
      | true =>
        obtain ⟨h1, b1, ct, m1, m2, m3, m4, _⟩ := nset_c hA hs hlen op.name op.id
        simp only [List.length_append] at m2 m3 m4
        refine ⟨h1, b1, ⟨fun _ => ct, fun e => by simp at e⟩, ?_, by omega, by omega, fun q hq n1 n2 => ?_⟩
        · unfold stepM; rw [if_pos hset]; exact m1
        · rw [m4 q (by omega) n1 n2, List.getElem?_append_left hq]
      | false =>
        obtain ⟨h1, b1, ct, m1, m2, m3, m4, _⟩ := ndel_c hA hs hlen op.name
        simp only [List.length_append] at m2 m3 m4
        refine ⟨h1, b1, ⟨fun e => by simp at e, fun _ => ct⟩, ?_, by omega, by omega, fun q hq n1 n2 => ?_⟩
        · unfold stepM; rw [if_neg (by simp [hset])]; exact m1
        · rw [m4 q (by omega) n1 n2, List.getElem?_append_left hq]
    obtain ⟨h1, b1, hct, m1, m2, m3, m4⟩ := hstep
    obtain ⟨H, B, e0, e1, e2, e3⟩ := nchain most xs hxs r m1 (stepM_rise hs most op) (by have := stepM_len most L op; simp at hn; omega)
    refine ⟨fun j => match j with | 0 => h | j + 1 => H j, fun j => match j with | 0 => b | j + 1 => B j, rfl, rfl, fun j hj => ?_, fun j hj => ?_⟩
    · cases j with
      | zero => exact ⟨hr, Nat.le_refl _, fun _ _ _ _ => rfl, .inl rfl⟩
      | succ j =>
        obtain ⟨q1, q2, q3, q4⟩ := e2 j (by simpa using hj)
        refine ⟨q1, by show h.length ≤ (H j).length; omega, fun q hq n1 n2 => ?_, ?_⟩
        · show (H j)[q]? = h[q]?
          rw [← m4 q hq n1 n2]
          refine q3 q (by omega) n1 ?_
          rcases m2 with e | e
          · rw [e]; exact n2
          · omega
        · dsimp only
          rcases q4 with e | e
          · rw [e]; exact m2
          · exact .inr (by omega)
    · cases j with
      | zero =>
        dsimp only
        rw [e0]
        exact hct
      | succ j =>
        have := e3 j (by simpa using hj)
        exact this
/-! ### The view -/
def VM : Nat := 1073741824
def baseV (h : List (List AV)) : List (List AV) := h ++ [[.sl 0 [] (some true) .exact, .v (.int .i64 1073741824)]]
def copyV (h : List (List AV)) (L : List Nm) : List (List AV) := (apH nmC (baseV h) (h.length + 1) [] L).set h.length [lisV 2 (apB (baseV h) (h.length + 1) L) L, .v (.int .i64 1073741824)]
theorem baseV_at {h : List (List AV)} (hh : ltLL h.length h) : NlAt h.length (baseV h) h.length (h.length + 1) VM [] := by
  refine ⟨?_, fun e => absurd rfl e, ⟨Nat.le_refl _, by omega⟩, by omega, ?_⟩
  · unfold baseV; rw [List.getElem?_append_right (Nat.le_refl _), Nat.sub_self]; rfl
  · unfold baseV; simp [ltLL_mono (Nat.le_add_right h.length 1) hh]
theorem copyV_at {h : List (List AV)} (hh : ltLL h.length h) (L : List Nm) : NlAt h.length (copyV h L) h.length (apB (baseV h) (h.length + 1) L) VM L ∧ h.length ≤ (copyV h L).length ∧ (∀ q < h.length, (copyV h L)[q]? = h[q]?) ∧ h.length + 1 ≤ apB (baseV h) (h.length + 1) L := by
  have h0 := baseV_at hh
  have hbl : (baseV h).length = h.length + 1 := by simp [baseV]
  have F0 : OwnL nmC 2 (baseV h) (baseV h) (h.length + 1) ([] : List Nm) := OwnL.nil (by have := h0.lt; exact this) _
  have F1 := F0.ap nmE L
  simp only [List.nil_append] at F1
  obtain ⟨g1, g2, g3, g4, _⟩ := h0.own F1 (fun e => by unfold apB; rw [if_pos e])
  refine ⟨g1, by have : (baseV h).length ≤ (copyV h L).length := g3; omega, fun q hq => ?_, ?_⟩
  · have := g4 q (by omega) (by omega) (by omega)
    rw [show (copyV h L)[q]? = (baseV h)[q]? from this]
    unfold baseV
    exact List.getElem?_append_left hq
  · unfold apB; split <;> omega
theorem rview_c {h : List (List AV)} {tv : AV} {L : List Nm} (hsrc : (tv = .v (.pointer none) ∧ L = []) ∨ ∃ lo ix b most, tv = .box ix 0 ∧ NlAt lo h ix b most L) (hs : Nm.Rise L) (hh0 : ltLL h.length h) (l : List En) (hl : l.length ≤ 1000000) (hg : ∀ x ∈ l, x.good.length ≤ 1000000) (hn : L.length + (opsOf l).length ≤ 1000000) :
    ∃ h' b', Contract Try.prog 40 [tv, .sl 8 (enc enC l) none .no] h (.box h.length 0) h' [] ∧ NlAt h.length h' h.length b' VM (viewL L (opsOf l)) ∧ h.length ≤ h'.length ∧ ∀ q < h.length, h'[q]? = h[q]? := by
  obtain ⟨c1, c2, c3, c4⟩ := copyV_at hh0 L
  obtain ⟨H, B, e0, e1, e2, e3⟩ := nchain VM (fun op => [toC op]) (fun op n => by simp) (opsOf l) c1 hs hn
  have hLM : ∀ j, LM VM L (opsOf l) j = viewL L ((opsOf l).take j) := LM_big (opsOf l) (by unfold VM; omega)
  have hlast := e2 (opsOf l).length (Nat.le_refl _)
  have hlat := hlast.at_
  rw [hLM, List.take_length] at hlat
  have hHl : ∀ j, j ≤ (opsOf l).length → h.length < (H j).length := fun j hj => by
    have := (List.getElem?_eq_some_iff.1 (e2 j hj).at_.top).1
    omega
  have hHt : ∀ j, j ≤ (opsOf l).length → ltLL (H j).length (H j) := fun j hj => (e2 j hj).at_.lt
  have hBw : ∀ j, j ≤ (opsOf l).length → h.length ≤ B j := fun j hj => by
    rcases (e2 j hj).new with e | e
    · omega
    · omega
  refine ⟨H (opsOf l).length, B (opsOf l).length, ?_, hlat, by have := hlast.len; omega, fun q hq => by rw [hlast.ext q (by omega) (by omega) (by omega)]; exact c3 q hq⟩
  have hend := hHl _ (Nat.le_refl _)
  have htend := hHt _ (Nat.le_refl _)
  refine contract_of k40 mixed (by simp [c40]) fun hh hargs => ?_
  simp [c40]
  rcases hsrc with ⟨rfl, rfl⟩ | ⟨lo, ix, b, most, rfl, hnl⟩
  · have hcop : copyV h [] = h ++ [[.sl 0 [] (some true) .exact, .v (.int .i64 1073741824)]] := by
      unfold copyV apH apB baseV lisV
      simp
    simp
    refine xloop_ok (D := Nat) (fun a => ⟨[(1, .sl 8 (enc enC l) none .no), (5, .box h.length 0), (6, .v (.int .i64 (a : Int)))], [], H (offO l a), []⟩) (fun a => a ≤ l.length) (fun a => l.length - a) 0 (by omega) ?_ ?_
    · have q0 : offO l 0 = 0 := rfl
      have l0 := hHl 0 (Nat.zero_le _)
      have t0 := hHt 0 (Nat.zero_le _)
      rw [e0] at l0 t0
      simp [Leq, q0, e0, leqH_take]
      simp [hcop] at l0 t0 ⊢
      try omega
    · intro a ha
      have hoa := offO_le l a
      by_cases hlt : a < l.length
      · have hos := offO_succ hlt
        have hos2 := offO_le l (a + 1)
        have hgl := hg l[a] (List.getElem_mem hlt)
        have l1 := hHl _ hoa
        have t1 := hHt _ hoa
        simp [hlt]
        refine xloop_ok (D := Nat) (fun q => ⟨[(1, .sl 8 (enc enC l) none .no), (5, .box h.length 0), (6, .v (.int .i64 (a : Int))), (7, .v (.int .i64 (q : Int)))], [], H (offO l a + q), []⟩) (fun q => q ≤ l[a].good.length) (fun q => l[a].good.length - q) 0 (by omega) ?_ ?_
        · simp [Leq, t1, leqH_take]
          omega
        · intro q hq
          by_cases hqt : q < l[a].good.length
          · have hj : offO l a + q < (opsOf l).length := by omega
            have eop := opAt_at hlt hqt
            rw [opAt_get hj] at eop
            obtain ⟨s1, s2⟩ := e3 _ hj
            rw [eop] at s1 s2
            have hw : IntKind.i64.wrap ((q : Int) + 1) = (q : Int) + 1 := wrap64 (by omega) (by omega)
            have e4 : offO l a + (q + 1) = offO l a + q + 1 := by omega
            have l2 := hHl (offO l a + q) (by omega)
            have b2 := hBw (offO l a + q) (by omega)
            have l3 := hHl (offO l a + q + 1) (by omega)
            have t3 := hHt (offO l a + q + 1) (by omega)
            cases hset : l[a].good[q].set with
            | true =>
              simp [hlt, hqt, enC_mk, toC_mk, hset]
              have ct := s1 hset
              simp only [toC_mk, hset] at ct
              refine xcall_self (by simp) ct ?_
              simp [hw]
              refine ⟨q + 1, by omega, by omega, ?_⟩
              rw [e4]
              simp [Leq, t3, leqH_take]
              omega
            | false =>
              simp [hlt, hqt, enC_mk, toC_mk, hset]
              have ct := s2 hset
              simp only [toC_mk, hset] at ct
              refine xcall_self (by simp) ct ?_
              simp [hw]
              refine ⟨q + 1, by omega, by omega, ?_⟩
              rw [e4]
              simp [Leq, t3, leqH_take]
              omega
          · have : q = l[a].good.length := by omega
            subst this
            have hw : IntKind.i64.wrap ((a : Int) + 1) = (a : Int) + 1 := wrap64 (by omega) (by omega)
            have l3 := hHl (offO l (a + 1)) (by omega)
            have t3 := hHt (offO l (a + 1)) (by omega)
            rw [← hos]
            simp [hlt, hw, enC_mk]
            refine ⟨a + 1, by omega, by omega, ?_⟩
            simp [Leq, t3, leqH_take]
            omega
      · have : a = l.length := by omega
        subst this
        rw [offO_all]
        simp [htend, leqH_take]
        omega
  · have hix := (List.getElem?_eq_some_iff.1 hnl.top).1
    have htop := hnl.top
    have hbl : (baseV h).length = h.length + 1 := by simp [baseV]
    have hbase : h ++ [[.sl 0 [] (some true) .exact, .v (.int .i64 1073741824)]] = baseV h := rfl
    have F0 : OwnL nmC 2 (baseV h) (baseV h) (h.length + 1) ([] : List Nm) := OwnL.nil (baseV_at hh0).lt _
    have F1 := F0.ap nmE L
    simp only [List.nil_append] at F1
    have hx1 : IsRows nmC (baseV h) 2 (lisV 2 b L) L := isRows_lis nmE fun hne => by
      unfold baseV
      rw [List.getElem?_append_left (List.getElem?_eq_some_iff.1 (hnl.list hne)).1]
      exact hnl.list hne
    have hst : (apH nmC (baseV h) (h.length + 1) [] L)[h.length]? = some [.sl 0 [] (some true) .exact, .v (.int .i64 1073741824)] := by
      rw [F1.ext h.length (by omega)]
      unfold baseV
      rw [List.getElem?_append_right (Nat.le_refl _), Nat.sub_self]; rfl
    have hcop : (apH nmC (baseV h) (h.length + 1) [] L).set h.length [lisV 2 (apB (baseV h) (h.length + 1) L) L, .v (.int .i64 1073741824)] = copyV h L := rfl
    have htop2 : (baseV h)[ix]? = some [lisV 2 b L, .v (.int .i64 (most : Int))] := by unfold baseV; rw [List.getElem?_append_left hix]; exact htop
    simp [hbase, htop2]
    refine .inl (ap_run nmE (L := ([] : List Nm)) (b := h.length + 1) (fun h => absurd rfl h) hx1 (by simp; omega) (by simp; omega) ?_)
    simp [hbase, hst, hcop]
    refine xloop_ok (D := Nat) (fun a => ⟨[(1, .sl 8 (enc enC l) none .no), (5, .box h.length 0), (6, .v (.int .i64 (a : Int)))], [], H (offO l a), []⟩) (fun a => a ≤ l.length) (fun a => l.length - a) 0 (by omega) ?_ ?_
    · have q0 : offO l 0 = 0 := rfl
      have l0 := hHl 0 (Nat.zero_le _)
      have t0 := hHt 0 (Nat.zero_le _)
      rw [e0] at l0 t0
      simp [Leq, q0, e0, leqH_take, t0]
      try omega
    · intro a ha
      have hoa := offO_le l a
      by_cases hlt : a < l.length
      · have hos := offO_succ hlt
        have hos2 := offO_le l (a + 1)
        have hgl := hg l[a] (List.getElem_mem hlt)
        have l1 := hHl _ hoa
        have t1 := hHt _ hoa
        simp [hlt]
        refine xloop_ok (D := Nat) (fun q => ⟨[(1, .sl 8 (enc enC l) none .no), (5, .box h.length 0), (6, .v (.int .i64 (a : Int))), (7, .v (.int .i64 (q : Int)))], [], H (offO l a + q), []⟩) (fun q => q ≤ l[a].good.length) (fun q => l[a].good.length - q) 0 (by omega) ?_ ?_
        · simp [Leq, t1, leqH_take]
          omega
        · intro q hq
          by_cases hqt : q < l[a].good.length
          · have hj : offO l a + q < (opsOf l).length := by omega
            have eop := opAt_at hlt hqt
            rw [opAt_get hj] at eop
            obtain ⟨s1, s2⟩ := e3 _ hj
            rw [eop] at s1 s2
            have hw : IntKind.i64.wrap ((q : Int) + 1) = (q : Int) + 1 := wrap64 (by omega) (by omega)
            have e4 : offO l a + (q + 1) = offO l a + q + 1 := by omega
            have l2 := hHl (offO l a + q) (by omega)
            have b2 := hBw (offO l a + q) (by omega)
            have l3 := hHl (offO l a + q + 1) (by omega)
            have t3 := hHt (offO l a + q + 1) (by omega)
            cases hset : l[a].good[q].set with
            | true =>
              simp [hlt, hqt, enC_mk, toC_mk, hset]
              have ct := s1 hset
              simp only [toC_mk, hset] at ct
              refine xcall_self (by simp) ct ?_
              simp [hw]
              refine ⟨q + 1, by omega, by omega, ?_⟩
              rw [e4]
              simp [Leq, t3, leqH_take]
              omega
            | false =>
              simp [hlt, hqt, enC_mk, toC_mk, hset]
              have ct := s2 hset
              simp only [toC_mk, hset] at ct
              refine xcall_self (by simp) ct ?_
              simp [hw]
              refine ⟨q + 1, by omega, by omega, ?_⟩
              rw [e4]
              simp [Leq, t3, leqH_take]
              omega
          · have : q = l[a].good.length := by omega
            subst this
            have hw : IntKind.i64.wrap ((a : Int) + 1) = (a : Int) + 1 := wrap64 (by omega) (by omega)
            have l3 := hHl (offO l (a + 1)) (by omega)
            have t3 := hHt (offO l (a + 1)) (by omega)
            rw [← hos]
            simp [hlt, hw, enC_mk]
            refine ⟨a + 1, by omega, by omega, ?_⟩
            simp [Leq, t3, leqH_take]
            omega
      · have : a = l.length := by omega
        subst this
        rw [offO_all]
        simp [htend, leqH_take]
        omega
end Go.Proofs.Ytphgbfemigcalaa.Ax
/- The document's Lookup, Many, Apply; both tables with the same names. -/
namespace Go.Proofs.Ytphgbfemigcalaa.Ax
open Go.RowKit Go By
set_option linter.unusedSimpArgs false
set_option linter.unusedVariables false
set_option maxRecDepth 10000

section
variable {h : List (List AV)} {tv : AV} {L : List Nm}
def SrcV (h : List (List AV)) (tv : AV) (L : List Nm) : Prop := (tv = .v (.pointer none) ∧ L = []) ∨ ∃ lo ix b most, tv = .box ix 0 ∧ NlAt lo h ix b most L
theorem rlookup_c (hsrc : SrcV h tv L) (hs : Nm.Rise L) (hh0 : ltLL h.length h) (l : List En) (hl : l.length ≤ 1000000) (hg : ∀ x ∈ l, x.good.length ≤ 1000000) (hn : L.length + (opsOf l).length ≤ 1000000) (name : List UInt8) :
    Contract Try.prog 26 [tv, .sl 8 (enc enC l) none .no, .v (.string (strB name))] h (.tup [.v (.int .i64 ((lookO name (Nm.get name L) (opsOf l)).getD 0)), .v (.bool (lookO name (Nm.get name L) (opsOf l)).isSome)]) h [] := by
  obtain ⟨h', b', ct, q1, q2, q3⟩ := rview_c hsrc hs hh0 l hl hg hn
  have hv := viewL_rise (ops := opsOf l) hs
  have hlen := viewL_len (opsOf l) L
  have g := nget_c q1 hv (by omega) name
  rw [view_get name hs] at g
  have htake : h'.take h.length = h := List.ext_getElem? fun k => by
    by_cases hk : k < h.length
    · rw [List.getElem?_take_of_lt hk]; exact q3 k hk
    · rw [List.getElem?_eq_none (by rw [List.length_take]; omega), List.getElem?_eq_none (by omega)]
  rcases hsrc with ⟨rfl, _⟩ | ⟨lo, ix, b, most, rfl, _⟩
  · refine contract_of k26 mixed (by simp [c26]) fun hh hargs => ?_
    simp [c26]
    refine xcall_self (by simp) ct ?_
    simp
    refine xcall_self (by simp) g ?_
    simp [hh, htake, q2]
  · refine contract_of k26 mixed (by simp [c26]) fun hh hargs => ?_
    simp [c26]
    refine xcall_self (by simp) ct ?_
    simp
    refine xcall_self (by simp) g ?_
    simp [hh, htake, q2]
theorem rmany_c {lo ix b most : Nat} (hnl : NlAt lo h ix b most L) (hs : Nm.Rise L) (hh0 : ltLL h.length h) (l : List En) (hl : l.length ≤ 1000000) (hg : ∀ x ∈ l, x.good.length ≤ 1000000) (hn : L.length + (opsOf l).length ≤ 1000000) :
    Contract Try.prog 28 [.box ix 0, .sl 8 (enc enC l) none .no] h (.v (.int .i64 ((viewL L (opsOf l)).length : Int))) h [] := by
  obtain ⟨h', b', ct, q1, q2, q3⟩ := rview_c (.inr ⟨lo, ix, b, most, rfl, hnl⟩) hs hh0 l hl hg hn
  have htop := q1.top
  have htake : h'.take h.length = h := List.ext_getElem? fun k => by
    by_cases hk : k < h.length
    · rw [List.getElem?_take_of_lt hk]; exact q3 k hk
    · rw [List.getElem?_eq_none (by rw [List.length_take]; omega), List.getElem?_eq_none (by omega)]
  refine contract_of k28 mixed (by simp [c28]) fun hh hargs => ?_
  simp [c28]
  refine xcall_self (by simp) ct ?_
  by_cases hL : viewL L (opsOf l) = []
  · rw [hL] at htop ⊢
    simp [lisV] at htop
    simp [htop, hh, htake, q2]
  · rw [lisV_some _ _ hL] at htop
    simp [htop, hh, htake, q2]
end
/-! ### Apply -/
def TJ (T : Tb) (ops : List To) (j : Nat) : Tb := (ops.take j).foldl Tb.step T
theorem TJ_succ (T : Tb) {ops : List To} {j : Nat} (hj : j < ops.length) : TJ T ops (j + 1) = (TJ T ops j).step ops[j] := by
  unfold TJ; rw [take_snoc hj, List.foldl_append]; rfl
theorem LM_succ (most : Nat) (L : List Nm) {ops : List To} {j : Nat} (hj : j < ops.length) : LM most L ops (j + 1) = stepM most (LM most L ops j) ops[j] := by
  unfold LM; rw [take_snoc hj, List.foldl_append]; rfl
theorem TJ_both {T : Tb} {L : List Nm} (h : Both T L) (ops : List To) : ∀ j, j ≤ ops.length → Both (TJ T ops j) (LM T.most L ops j) ∧ (TJ T ops j).most = T.most ∧ (TJ T ops j).a = T.a
  | 0, _ => ⟨h, rfl, rfl⟩
  | j + 1, hj => by
    obtain ⟨h1, h2, h3⟩ := TJ_both h ops j (by omega)
    rw [TJ_succ T hj, LM_succ _ L hj]
    have := h1.step ops[j]
    rw [h2] at this
    exact ⟨this, (Tb.step_most _ _).trans h2, (Tb.step_a _ _).trans h3⟩
def stopN (T : Tb) : List To → Nat
  | [] => 0
  | op :: r => if T.errO op = 0 then stopN (T.step op) r + 1 else 1
theorem stopN_le : ∀ (ops : List To) (T : Tb), stopN T ops ≤ ops.length
  | [], _ => Nat.le_refl _
  | op :: r, T => by
    unfold stopN
    have := stopN_le r (T.step op)
    split <;> simp <;> omega
theorem appT_TJ : ∀ (ops : List To) (T : Tb) (had : List Int), (appT T ops had).1 = TJ T ops (stopN T ops)
  | [], T, _ => rfl
  | op :: r, T, had => by
    unfold appT stopN
    split
    · rw [appT_TJ r]; rfl
    · rfl
theorem appT_ok : ∀ (ops : List To) (T : Tb) {L : List Nm} (had : List Int), Both T L → (appT T ops had).2.2 = 0 → Both (appT T ops had).1 (viewL L ops)
  | [], T, L, _, h, _ => h
  | op :: r, T, L, had, h, he => by
    unfold appT at he ⊢
    split
    · rename_i h0
      rw [if_pos h0] at he
      have h1 := h.step op
      rw [stepM_ok h h0] at h1
      exact appT_ok r (T.step op) _ h1 he
    · rename_i h0
      rw [if_neg h0] at he
      exact absurd he h0
theorem appT_six : ∀ (ops : List To) (T : Tb) (had : List Int), (appT T ops had).2.2 ≠ 0 → (appT T ops had).2.2 = 6
  | [], T, _, h => absurd rfl h
  | op :: r, T, had, h => by
    unfold appT at h ⊢
    split
    · rename_i h0
      rw [if_pos h0] at h
      exact appT_six r _ _ h
    · rename_i h0
      exact errO_six T op h0
theorem appT_fine : ∀ (ops : List To) (T : Tb) (had : List Int), TbOk T → TbOk (appT T ops had).1
  | [], T, _, h => h
  | op :: r, T, had, h => by
    unfold appT
    split
    · exact appT_fine r _ _ (step_ok h op)
    · exact step_ok h op
theorem rapply_c {lo : Nat} {h : List (List AV)} {i b : Nat} {T : Tb} {L : List Nm} (hr : NlAt lo h i b T.most L) (hb : Both T L) (ops : List To) (hn : ops.length ≤ 900000) :
    ∃ h' b', Contract Try.prog 33 [.box i 0, .sl 3 (enc toC ops) none .no] h (.tup [.sl 1 (enc intC (appT T ops []).2.1) none .no, .v (.int .i64 (appT T ops []).2.2)]) h' [i, b] ∧ NC lo i b T.most h h' b' (LM T.most L ops (stopN T ops)) ∧ Both (appT T ops []).1 (LM T.most L ops (stopN T ops)) := by
  have hfew := hb.few
  have hi := (List.getElem?_eq_some_iff.1 hr.top).1
  obtain ⟨H, B, e0, e1, e2, e3⟩ := nchain T.most (fun _ => []) (fun _ _ => trivial) ops hr hb.rise (by omega)
  have hst := stopN_le ops T
  have hlast := e2 (stopN T ops) hst
  have hTJ := TJ_both hb ops
  refine ⟨H (stopN T ops), B (stopN T ops), ?_, hlast, by rw [appT_TJ]; exact (hTJ _ hst).1⟩
  have hHl : ∀ j, j ≤ ops.length → h.length ≤ (H j).length := fun j hj => (e2 j hj).len
  have hHt : ∀ j, j ≤ ops.length → ltLL (H j).length (H j) := fun j hj => (e2 j hj).at_.lt
  have hHi : ∀ j, j ≤ ops.length → i < (H j).length := fun j hj => (List.getElem?_eq_some_iff.1 (e2 j hj).at_.top).1
  have hBw : ∀ j, j ≤ ops.length → B j = b ∨ h.length ≤ B j := fun j hj => (e2 j hj).new
  refine contract_of k33 mixed (by simp [c33]) fun hh hargs => ?_
  simp [c33]
  have appAt : ∀ j, TJ T ops j = TJ T ops j := fun _ => rfl
  refine xloop_ok (D := Nat × List Int) (fun d => ⟨[(0, .box i 0), (1, .sl 3 (enc toC ops) none .no), (7, .v (.int .i64 (d.1 : Int)))], [(6, .sl 1 (enc intC d.2) none (.own (.new 6)))], H d.1, [i, b]⟩) (fun d => d.1 ≤ ops.length ∧ d.2.length ≤ d.1 ∧ appT T ops [] = appT (TJ T ops d.1) (ops.drop d.1) d.2 ∧ stopN T ops = d.1 + stopN (TJ T ops d.1) (ops.drop d.1)) (fun d => ops.length - d.1) (0, []) ⟨Nat.zero_le _, Nat.le_refl _, rfl, by simp [TJ]⟩ ?_ ?_
  · simp [Leq, e0, hh, leqH_take, hi]
    done
  · rintro ⟨j, had⟩ ⟨hj, hfewh, heq, hsn⟩
    dsimp only at hj hfewh heq hsn ⊢
    have l1 := hHl j hj
    have t1 := hHt j hj
    have i1 := hHi j hj
    by_cases hlt : j < ops.length
    · have hdr : ops.drop j = ops[j] :: ops.drop (j + 1) := List.drop_eq_getElem_cons hlt
      have hw : IntKind.i64.wrap ((j : Int) + 1) = (j : Int) + 1 := wrap64 (by omega) (by omega)
      rw [hdr] at heq hsn
      obtain ⟨s1, s2⟩ := e3 j hlt
      simp only [List.append_nil] at s1 s2
      obtain ⟨hbj, hmj, haj⟩ := hTJ j hj
      have hold := hbj.old ops[j].name
      have herr := hbj.err ops[j].name
      rw [hmj] at herr
      rw [hold, herr] at s1
      rw [hold, hbj.get] at s2
      have hsucc := TJ_succ T hlt
      have l2 := hHl (j + 1) (by omega)
      have t2 := hHt (j + 1) (by omega)
      have i2 := hHi (j + 1) (by omega)
      have b2 := hBw j hj
      have wrok : ∀ x : Nat, (x = i ∨ x = B j) → x < h.length → x = i ∨ x = b := fun x hx hlt => by
        rcases hx with rfl | rfl
        · exact .inl rfl
        · rcases b2 with e | e
          · exact .inr e
          · omega
      cases hset : ops[j].set with
      | true =>
        have he : (TJ T ops j).errO ops[j] = (TJ T ops j).err ops[j].name := by unfold Tb.errO; rw [if_pos hset]
        have ct := s1 hset
        by_cases hz : (TJ T ops j).err ops[j].name = 0
        · have he0 : (TJ T ops j).errO ops[j] = 0 := he.trans hz
          have heq2 : appT T ops [] = appT (TJ T ops (j + 1)) (ops.drop (j + 1)) (addH ((TJ T ops j).old ops[j].name) had) := by rw [heq, hsucc]; show (if _ then _ else _) = _; rw [if_pos he0]
          have hsn2 : stopN T ops = j + 1 + stopN (TJ T ops (j + 1)) (ops.drop (j + 1)) := by rw [hsn, hsucc]; show j + (if _ then _ else _) = _; rw [if_pos he0]; omega
          have hal := addH_len ((TJ T ops j).old ops[j].name) had
          simp [hlt, toC_mk, hset]
          refine xcall_self (by simp) ct ?_
          rw [hz]
          by_cases hol : 0 < (TJ T ops j).old ops[j].name
          · have hadd : addH ((TJ T ops j).old ops[j].name) had = had ++ [(TJ T ops j).old ops[j].name] := by unfold addH; rw [if_pos hol]
            rw [hadd] at heq2 hal
            simp [hlt, hol, hw]
            refine ⟨by omega, by omega, j + 1, _, ⟨by omega, by simp; omega, heq2, hsn2⟩, by omega, ?_⟩
            simp [Leq, t2, leqH_take, l2, i2, intC]
            try omega
          · have hadd : addH ((TJ T ops j).old ops[j].name) had = had := by unfold addH; rw [if_neg hol]
            rw [hadd] at heq2
            simp [hlt, hol, hw]
            refine ⟨j + 1, had, ⟨by omega, by omega, heq2, hsn2⟩, by omega, ?_⟩
            simp [Leq, t2, leqH_take, l2, i2]
            try omega
        · have he0 : ¬ (TJ T ops j).errO ops[j] = 0 := by rw [he]; exact hz
          have heq2 : appT T ops [] = ((TJ T ops j).step ops[j], had, (TJ T ops j).errO ops[j]) := by rw [heq]; show (if _ then _ else _) = _; rw [if_neg he0]
          have hsn2 : stopN T ops = j + 1 := by rw [hsn]; show j + (if _ then _ else _) = _; rw [if_neg he0]
          simp [hlt, toC_mk, hset]
          refine xcall_self (by simp) ct ?_
          rw [heq2, hsn2, he]
          simp [hlt, hz, t2, leqH_take, l2]
          try omega
      | false =>
        have he0 : (TJ T ops j).errO ops[j] = 0 := by unfold Tb.errO; rw [if_neg (by simp [hset])]
        have ct := s2 hset
        have heq2 : appT T ops [] = appT (TJ T ops (j + 1)) (ops.drop (j + 1)) (addH ((TJ T ops j).old ops[j].name) had) := by rw [heq, hsucc]; show (if _ then _ else _) = _; rw [if_pos he0]
        have hsn2 : stopN T ops = j + 1 + stopN (TJ T ops (j + 1)) (ops.drop (j + 1)) := by rw [hsn, hsucc]; show j + (if _ then _ else _) = _; rw [if_pos he0]; omega
        have hal := addH_len ((TJ T ops j).old ops[j].name) had
        simp [hlt, toC_mk, hset]
        refine xcall_self (by simp) ct ?_
        by_cases hol : 0 < (TJ T ops j).old ops[j].name
        · have hadd : addH ((TJ T ops j).old ops[j].name) had = had ++ [(TJ T ops j).old ops[j].name] := by unfold addH; rw [if_pos hol]
          rw [hadd] at heq2 hal
          simp [hlt, hol, hw]
          refine ⟨by omega, by omega, j + 1, _, ⟨by omega, by simp; omega, heq2, hsn2⟩, by omega, ?_⟩
          simp [Leq, t2, leqH_take, l2, i2, intC]
          try omega
        · have hadd : addH ((TJ T ops j).old ops[j].name) had = had := by unfold addH; rw [if_neg hol]
          rw [hadd] at heq2
          simp [hlt, hol, hw]
          refine ⟨j + 1, had, ⟨by omega, by omega, heq2, hsn2⟩, by omega, ?_⟩
          simp [Leq, t2, leqH_take, l2, i2]
          try omega
    · have : j = ops.length := by omega
      subst this
      rw [List.drop_length] at heq hsn
      have hsn2 : stopN T ops = ops.length := by rw [hsn]; rfl
      rw [heq, hsn2]
      have hres : ∀ m (es : List (List AV)), resOf m (.sl 1 es none (.own (.new 5))) = .sl 1 es none (.own .res) := fun _ _ => rfl
      simp [appT, t1, leqH_take, l1]
      try omega
end Go.Proofs.Ytphgbfemigcalaa.Ax
/- Layer 16's statements: what both tables are at first; OverTells. -/
namespace Go.Proofs.Ytphgbfemigcalaa.Ax
open Go.RowKit Go By
set_option linter.unusedSimpArgs false
set_option linter.unusedVariables false
set_option maxRecDepth 10000

theorem oawake_c (h : List (List AV)) : Contract Try.prog 24 [] h (.v (.bool true)) h [] := by
  refine contract_of k24 mixed (by simp [c24]) fun hh hargs => ?_
  have a0 := newT_at hh 4 0 (Nat.zero_le _)
  have o0 := newT_ok h (most := 4) (by omega) (by omega)
  have q0 : (newT h 4).old [97] = 0 := rfl
  have r0 : (newT h 4).err [97] = 0 := rfl
  have a1 := a0.to (Tb.set_a (newT h 4) [97] 1) (Tb.set_most _ _ _)
  have o1 := o0.set [97] 1
  have s1 := tset_c a0 o0 [97] (by simp) 1
  obtain ⟨T1, hT1⟩ : ∃ T1, T1 = (newT h 4).set [97] 1 := ⟨_, rfl⟩
  have e1 : T1 = ⟨h.length, 4, 1, [⟨[97], 0, 1⟩]⟩ := hT1
  rw [q0, r0] at s1
  rw [← hT1] at a1 o1 s1
  have b0 : (newT h 4).a = h.length := rfl
  rw [b0, newTH_set] at s1 a1
  obtain ⟨l, hl⟩ : ∃ l : List En, l = [⟨0, false, [], [], [⟨true, [98], 2⟩], [], [], []⟩, ⟨0, false, [], [], [⟨false, [97], 0⟩], [], [], []⟩] := ⟨_, rfl⟩
  have l1 : l.length ≤ 1000000 := by rw [hl]; simp
  have l2 : ∀ x ∈ l, x.good.length ≤ 1000000 := by rw [hl]; intro x hx; simp at hx; rcases hx with rfl | rfl <;> simp
  have l3 : (opsOf l).length ≤ 1000000 := by rw [hl]; simp [opsOf]
  have g1 := olookup_c a1 l l1 l2 [98]
  have g2 := olookup_c a1 l l1 l2 [97]
  have g3 := omany_c a1 o1 l l1 l2 l3
  have g4 := oids_c l l1 l2 l3 (h ++ [T1.cells, [.mp h.length 1 true, .v (.int .i64 4)]])
  have v1 : lookO [98] (T1.get [98]) (opsOf l) = some 2 := by rw [e1, hl]; rfl
  have v2 : lookO [97] (T1.get [97]) (opsOf l) = none := by rw [e1, hl]; rfl
  have v3 : ((T1.e.length : Int) + sumD (fun k => (T1.get k).isSome) (lastO (opsOf l)).2) = 1 := by rw [e1, hl]; rfl
  have v4 : idsO (opsOf l) = [2] := by rw [hl]; rfl
  rw [v1] at g1
  rw [v2] at g2
  rw [v3] at g3
  rw [v4] at g4
  have g5 := seq_c [2] [2] (by simp) (h ++ [T1.cells, [.mp h.length 1 true, .v (.int .i64 4)]])
  rw [hl] at g1 g2 g3 g4
  simp only [enc, List.map_cons, List.map_nil, enC_mk, toC_mk, bytesE, intC] at g1 g2 g3 g4 g5
  simp [c24]
  refine xcall_self (by simp) (tnew_c (most := 4) (by omega) (by omega) h) ?_
  simp
  refine xcall_self (by simp) s1 ?_
  simp
  refine xcall_of g1 (by simp) (by simp) ?_
  simp
  refine xcall_of g2 (by simp) (by simp) ?_
  simp
  refine xcall_of g3 (by simp) (by simp) ?_
  simp
  refine xcall_of g4 (by simp) (by simp) ?_
  simp
  refine xcall_of g5 (by simp) (by simp) ?_
  simp [hh]
  done
/-! ### Both tables, with the same names -/
structure BS where
  H : List (List AV)
  T : Tb
  L : List Nm
  b : Nat
structure BS.Ok (m : Nat) (d : BS) : Prop where
  a : d.T.a = 0
  most : d.T.most = m
  tb : TbAt 0 d.H 1 d.T
  nl : NlAt 0 d.H 2 d.b d.T.most d.L
  both : Both d.T d.L
  out : d.L ≠ [] → 3 ≤ d.b
  plain : plainH d.H
theorem bchain (m : Nat) : ∀ (ops : List To) (k : Nat) (d : BS), d.Ok m → ∃ S : Nat → BS, S 0 = d ∧ (∀ j, j ≤ ops.length → (S j).Ok m) ∧
    ∀ j (hj : j < ops.length), (k + j < 40 ∧ ops[j].name.length ≤ 300 → ∃ h1 b1 r1 r2 r3 r4, Contract Try.prog 13 [.box 1 0, .v (.string (strB ops[j].name)), .v (.int .i64 ops[j].id)] ((S j).H ++ [toC ops[j]]) (.tup [.v (.int .i64 r1), .v (.int .i64 r2)]) h1 [0] ∧
        Contract Try.prog 14 [.box 2 0, .v (.string (strB ops[j].name)), .v (.int .i64 ops[j].id)] h1 (.tup [.v (.int .i64 r3), .v (.int .i64 r4)]) (S (j + 1)).H [2, b1] ∧ h1[(S j).H.length]? = some (toC ops[j])) ∧
      (¬ (k + j < 40 ∧ ops[j].name.length ≤ 300) → S (j + 1) = S j)
  | [], k, d, hd => ⟨fun _ => d, rfl, fun _ _ => hd, fun j hj => by simp at hj⟩
  | op :: r, k, d, hd => by
    have hstep : ∃ d1 : BS, d1.Ok m ∧ (k < 40 ∧ op.name.length ≤ 300 → ∃ h1 b1 r1 r2 r3 r4, Contract Try.prog 13 [.box 1 0, .v (.string (strB op.name)), .v (.int .i64 op.id)] (d.H ++ [toC op]) (.tup [.v (.int .i64 r1), .v (.int .i64 r2)]) h1 [0] ∧
        Contract Try.prog 14 [.box 2 0, .v (.string (strB op.name)), .v (.int .i64 op.id)] h1 (.tup [.v (.int .i64 r3), .v (.int .i64 r4)]) d1.H [2, b1] ∧ h1[d.H.length]? = some (toC op)) ∧ (¬ (k < 40 ∧ op.name.length ≤ 300) → d1 = d) := by
      by_cases hc : k < 40 ∧ op.name.length ≤ 300
      · obtain ⟨ha, hm, tb, nl, bo, out, pl⟩ := hd
        obtain ⟨h1, h2, b1, b2, ct1, ct2, T2, N2, q0, P2, q1, q2, q3, q4, q5, q6⟩ := lw_step ha tb nl out pl (toC op) (toC_id op) (fun n => toC_lt n op) (Tb.set_a d.T op.name op.id) (Tb.set_most d.T op.name op.id) (fun hA => tset_c hA bo.ok op.name (by omega) op.id) (fun h1 b1 hX => nset_c hX bo.rise (by have := bo.few; omega) op.name op.id)
        exact ⟨⟨h2, d.T.set op.name op.id, Nm.set d.T.most op.name op.id d.L, b2⟩, ⟨(Tb.set_a _ _ _).trans ha, (Tb.set_most _ _ _).trans hm, T2, N2, bo.set op.name op.id, q0, P2⟩, fun _ => ⟨h1, b1, _, _, _, _, ct1, ct2, q1⟩, fun h => absurd hc h⟩
      · exact ⟨d, hd, fun h => absurd h hc, fun _ => rfl⟩
    obtain ⟨d1, hd1, c1, c2⟩ := hstep
    obtain ⟨S, s0, s1, s2⟩ := bchain m r (k + 1) d1 hd1
    refine ⟨fun j => match j with | 0 => d | j + 1 => S j, rfl, fun j hj => ?_, fun j hj => ?_⟩
    · cases j with
      | zero => exact hd
      | succ j => exact s1 j (by simpa using hj)
    · cases j with
      | zero =>
        dsimp only
        rw [s0]
        exact ⟨c1, c2⟩
      | succ j =>
        have := s2 j (by simpa using hj)
        rw [show k + 1 + j = k + (j + 1) by omega] at this
        exact this
def newBS (m : Nat) : BS := ⟨(newLW m).H, (newLW m).T, (newLW m).L, (newLW m).b⟩
theorem newBS_ok {m : Nat} (h1 : 1 ≤ m) (h2 : m ≤ 4096) : (newBS m).Ok m := by
  have := newLW_ok h1 h2 0
  exact ⟨this.a, rfl, this.tb, this.nl, this.both, this.out, this.plain⟩
theorem both_c (n : Nat) (hn : n < 256) (first : List To) (hf : first.length ≤ maxLen) : ∃ d : BS, d.Ok (1 + n % 30) ∧ Contract Try.prog 22 [.v (.int .u8 (n : Int)), .sl 3 (enc toC first) none .no] [] (.tup [.box 1 0, .box 2 0]) d.H [] := by
  have hm1 : 1 ≤ 1 + n % 30 := by omega
  have hm2 : 1 + n % 30 ≤ 4096 := by omega
  obtain ⟨m, hm⟩ : ∃ m, m = 1 + n % 30 := ⟨_, rfl⟩
  rw [← hm] at hm1 hm2 ⊢
  obtain ⟨S, s0, s1, s2⟩ := bchain m first 0 (newBS m) (newBS_ok hm1 hm2)
  have hend := s1 first.length (Nat.le_refl _)
  refine ⟨S first.length, hend, ?_⟩
  have hrem : ((n : Int)).tmod 30 = (n : Int) % 30 := Int.tmod_eq_emod_of_nonneg (by omega)
  have hw1 : IntKind.i64.wrap ((n : Int) % 30) = (n : Int) % 30 := wrap64 (by omega) (by omega)
  have hw2 : IntKind.i64.wrap (1 + (n : Int) % 30) = (m : Int) := by rw [wrap64 (by omega) (by omega)]; omega
  have hlen0 : (newTH [] m).length = 2 := by simp [newTH]
  have hSt : ∀ j, j ≤ first.length → ltLL (S j).H.length (S j).H := fun j hj => (s1 j hj).tb.lt
  have hbs0 : (newBS m).H = newTH [] m ++ [[.sl 0 [] (some true) .exact, .v (.int .i64 (m : Int))]] := rfl
  refine contract_of k22 mixed (by simp [c22]) fun hh hargs => ?_
  simp [c22, hrem, hw1, hw2]
  refine xcall_self (by simp) (tnew_c hm1 hm2 _) ?_
  simp [hrem, hw1, hw2]
  refine xcall_self (by simp) (nnew_c hm1 hm2 _) ?_
  simp [hlen0]
  refine xloop_ok (D := Nat) (fun j => ⟨[(6, .box 1 0), (8, .box 2 0), (28, .sl 3 (enc toC first) none .no), (29, .v (.int .i64 (first.length : Int))), (30, .v (.int .i64 (j : Int)))], [], (S j).H, []⟩) (fun j => j ≤ first.length) (fun j => first.length - j) 0 (by omega) ?_ ?_
  · have t0 := hSt 0 (Nat.zero_le _)
    rw [s0, hbs0] at t0
    simp [hlen0] at t0
    simp [Leq, s0, hbs0, hlen0, t0, leqH_take]
    done
  · intro j hj
    have hokj := s1 j hj
    have h2l : 2 < (S j).H.length := (List.getElem?_eq_some_iff.1 hokj.nl.top).1
    by_cases hlt : j < first.length
    · have hmx : (maxLen : Int) = 9223372036854775807 := by simp [maxLen]
      have hw : IntKind.i64.wrap ((j : Int) + 1) = (j : Int) + 1 := wrap64 (by omega) (by omega)
      have t2 := hSt (j + 1) (by omega)
      have h2l2 : 2 < (S (j + 1)).H.length := (List.getElem?_eq_some_iff.1 (s1 (j + 1) (by omega)).nl.top).1
      obtain ⟨c1, c2⟩ := s2 j hlt
      by_cases hc : 0 + j < 40 ∧ first[j].name.length ≤ 300
      · obtain ⟨h1, b1, r1, r2, r3, r4, ct1, ct2, q1⟩ := c1 hc
        have p1 : (j : Int) < 40 := by omega
        have p2 : (first[j].name.length : Int) ≤ 300 := by omega
        simp only [toC_mk] at ct1 q1
        simp [hlt, p1, p2, strB_size, toC_mk]
        refine xcall_self (by simp) ct1 ?_
        have n0 : ¬ (S j).H.length = 0 := by omega
        simp [q1, n0]
        refine xcall_self (by simp) ct2 ?_
        simp [hw]
        refine ⟨j + 1, by omega, by omega, ?_⟩
        simp [Leq, t2, leqH_take]
        omega
      · have e := c2 hc
        have t1 := hSt j hj
        by_cases p1 : (j : Int) < 40
        · have p2 : ¬ (first[j].name.length : Int) ≤ 300 := by omega
          simp [hlt, p1, p2, strB_size, toC_mk, hw]
          refine ⟨j + 1, by omega, by omega, ?_⟩
          rw [e]
          simp [Leq, t1, leqH_take]
          omega
        · simp [hlt, p1, toC_mk, hw]
          refine ⟨j + 1, by omega, by omega, ?_⟩
          rw [e]
          simp [Leq, t1, leqH_take]
          omega
    · have : j = first.length := by omega
      subst this
      have t1 := hSt _ (Nat.le_refl _)
      simp [t1, leqH_take]
      omega
/-! ### OverTells -/
theorem few_bounds {l : List En} (h : fewEL l 30 = true) : l.length ≤ 30 ∧ (∀ x ∈ l, x.good.length ≤ 10) ∧ (opsOf l).length ≤ 300 := by
  unfold fewEL at h
  rw [Bool.and_eq_true] at h
  obtain ⟨h1, h2⟩ := h
  have h1 : (l.length : Int) ≤ 30 := by simpa using h1
  have h3 : ∀ x ∈ l, x.good.length ≤ 10 := fun x hx => by
    have := List.all_eq_true.1 h2 x hx
    unfold fewE at this
    simp at this
    exact this.1
  refine ⟨by omega, h3, ?_⟩
  have key : ∀ m : List En, (∀ x ∈ m, x.good.length ≤ 10) → (opsOf m).length ≤ 10 * m.length := by
    intro m
    induction m with
    | nil => intro _; simp [opsOf]
    | cons x m ih =>
      intro hx
      have h4 := hx x (List.mem_cons_self ..)
      have h5 := ih fun y hy => hx y (List.mem_cons_of_mem _ hy)
      have e : (opsOf (x :: m)).length = x.good.length + (opsOf m).length := by simp [opsOf]
      rw [e, List.length_cons]; omega
  have := key l h3
  omega
theorem many_same {T : Tb} {L : List Nm} (hb : Both T L) (ops : List To) : (T.e.length : Int) + sumD (fun k => (T.get k).isSome) (lastO ops).2 = ((viewL L ops).length : Int) := by
  have h1 := (many_eq hb.rise ops).1
  have e : (fun k => (Nm.get k L).isSome) = fun k => (T.get k).isSome := funext fun k => by rw [hb.get]
  rw [h1, e, hb.len]
theorem otells_c (n : Nat) (hn : n < 256) (first : List To) (hf : first.length ≤ maxLen) (l : List En) (name : List UInt8) : Contract Try.prog 6 [.v (.int .u8 (n : Int)), .sl 3 (enc toC first) none .no, .sl 8 (enc enC l) none .no, .v (.string (strB name))] [] (.v (.bool true)) [] [] := by
  obtain ⟨d, hd, ct⟩ := both_c n hn first hf
  refine contract_of k6 mixed (by simp [c6]) fun hh hargs => ?_
  simp [c6]
  refine xcall_self (by simp) ct ?_
  simp
  refine xcall_self (by simp) (entries_c l _) ?_
  cases hE : fewEL l 30 with
  | false =>
    simp
    refine xcall_self (by simp) (oawake_c _) ?_
    simp
  | true =>
  by_cases hlong : 300 < (name.length : Int)
  · simp [strB_size, hlong]
    refine xcall_self (by simp) (oawake_c _) ?_
    simp
  obtain ⟨b1, b2, b3⟩ := few_bounds hE
  have b2' : ∀ x ∈ l, x.good.length ≤ 1000000 := fun x hx => by have := b2 x hx; omega
  have hfew := hd.both.few
  have g1 := olookup_c hd.tb l (by omega) b2' name
  have g2 := rlookup_c (.inr ⟨0, 2, d.b, d.T.most, rfl, hd.nl⟩) hd.both.rise hd.tb.lt l (by omega) b2' (by omega) name
  rw [hd.both.get] at g2
  have g3 := omany_c hd.tb hd.both.ok l (by omega) b2' (by omega)
  rw [many_same hd.both] at g3
  have g4 := rmany_c hd.nl hd.both.rise hd.tb.lt l (by omega) b2' (by omega)
  have hid := idsO_len (opsOf l)
  simp [strB_size, hlong]
  refine xcall_self (by simp) g1 ?_
  simp
  refine xcall_self (by simp) g2 ?_
  simp
  refine xcall_self (by simp) g3 ?_
  simp
  refine xcall_self (by simp) g4 ?_
  simp
  refine xcall_self (by simp) (oids_c l (by omega) b2' (by omega) _) ?_
  simp
  refine xcall_self (by simp) (rids_c l (by omega) b2' (by omega) _) ?_
  simp
  refine xcall_self (by simp) (seq_c _ _ (by omega) _) ?_
  simp
  refine xcall_self (by simp) (oawake_c _) ?_
  simp
  done
end Go.Proofs.Ytphgbfemigcalaa.Ax
/- Layer 16's statements: OverApplies, OverLater, OverNobody. -/
namespace Go.Proofs.Ytphgbfemigcalaa.Ax
open Go.RowKit Go By
set_option linter.unusedSimpArgs false
set_option linter.unusedVariables false
set_option maxRecDepth 10000

/-- The document's list stands where the code's table turned. -/
theorem nl_after {H h1 : List (List AV)} {b most : Nat} {L : List Nm} (nl : NlAt 0 H 2 b most L) (hout : L ≠ [] → 3 ≤ b) (hl : h1.length = H.length) (hs : ∀ q, q ≠ 0 → h1[q]? = H[q]?) (hlt : ltLL h1.length h1) : ∃ b1, NlAt 0 h1 2 b1 most L ∧ 3 ≤ b1 := by
  have h2l : 2 < H.length := (List.getElem?_eq_some_iff.1 nl.top).1
  by_cases hL : L = []
  · refine ⟨h1.length, ⟨?_, fun e => absurd hL e, ⟨by omega, by omega⟩, by omega, hlt⟩, by omega⟩
    rw [hs 2 (by omega), nl.top]
    subst hL; rfl
  · have h3 := hout hL
    exact ⟨b, nl.move (hs 2 (by omega)) (fun _ => hs b (by omega)) hlt, h3⟩
theorem oapplies_c (n : Nat) (hn : n < 256) (first ops : List To) (hf : first.length ≤ maxLen) (hnm : ∀ x ∈ ops, NmFit x) (name : List UInt8) : Contract Try.prog 7 [.v (.int .u8 (n : Int)), .sl 3 (enc toC first) none .no, .sl 3 (enc toC ops) none .no, .v (.string (strB name))] [] (.v (.bool true)) [] [] := by
  obtain ⟨d, hd, ct⟩ := both_c n hn first hf
  refine contract_of k7 mixed (by simp [c7]) fun hh hargs => ?_
  simp [c7]
  refine xcall_self (by simp) ct ?_
  by_cases h40 : 40 < (ops.length : Int)
  · simp [h40]
    refine xcall_self (by simp) (oawake_c _) ?_
    simp
  by_cases hlong : 300 < (name.length : Int)
  · simp [h40, strB_size, hlong]
    refine xcall_self (by simp) (oawake_c _) ?_
    simp
  have g1 := oapply_c hd.tb hd.both.ok ops hnm (by omega)
  have hTa := appT_a ops d.T []
  have tb1 := hd.tb.to hTa.1 hTa.2
  rw [hd.a] at g1 tb1
  obtain ⟨h1, hh1⟩ : ∃ h1, h1 = d.H.set 0 (appT d.T ops []).1.cells := ⟨_, rfl⟩
  rw [← hh1] at g1 tb1
  have hs : ∀ q, q ≠ 0 → h1[q]? = d.H[q]? := fun q hq => by rw [hh1, List.getElem?_set_ne (by omega)]
  obtain ⟨b1, nl1, hb1⟩ := nl_after hd.nl hd.out (by rw [hh1]; simp) hs tb1.lt
  obtain ⟨h2, b2, ct2, hnc, hbo⟩ := rapply_c nl1 hd.both ops (by omega)
  have hi1 := tb1.i_lt
  have ha1 := tb1.a_lt
  have hT0 : (appT d.T ops []).1.a = 0 := hTa.1.trans hd.a
  have tb2 : TbAt 0 h2 1 (appT d.T ops []).1 := tb1.move (hnc.ext 1 hi1 (by omega) (by omega)) (by rw [hT0] at ha1 ⊢; exact hnc.ext 0 ha1 (by omega) (by omega)) hnc.at_.lt
  have nl2 := hnc.at_
  have hfew := hbo.few
  have g3 := tget_c tb2 name
  have g4 := nget_c nl2 hbo.rise (by omega) name
  rw [hbo.old, hbo.get] at g4
  have g5 := tlen_c tb2
  rw [hbo.len] at g5
  have htop := nl2.top
  have hadl : (appT d.T ops []).2.1.length ≤ 1000000 := by
    have key : ∀ (ops : List To) (T : Tb) (had : List Int), (appT T ops had).2.1.length ≤ had.length + ops.length := by
      intro ops
      induction ops with
      | nil => intro T had; exact Nat.le_refl _
      | cons op r ih =>
        intro T had
        unfold appT
        split
        · have h1 := ih (T.step op) (addH (T.old op.name) had)
          have h2 := addH_len (T.old op.name) had
          rw [List.length_cons]; omega
        · show had.length ≤ _; omega
    have := key ops d.T []
    simp at this
    omega
  have g6 := seq_c (appT d.T ops []).2.1 (appT d.T ops []).2.1 (by omega) h2
  generalize LM d.T.most d.L ops (stopN d.T ops) = L' at *
  generalize appT d.T ops [] = R at *
  simp [h40, strB_size, hlong]
  refine xcall_self (by simp) g1 ?_
  simp
  refine xcall_self (by simp) ct2 ?_
  simp
  refine xcall_self (by simp) g3 ?_
  simp
  refine xcall_self (by simp) g4 ?_
  simp
  by_cases hL : L' = []
  · subst hL
    simp [lisV] at htop
    simp at g5
    refine xcall_self (by simp) g6 ?_
    simp [htop]
    refine xcall_self (by simp) g5 ?_
    simp
    refine xcall_self (by simp) (oawake_c _) ?_
    simp
    done
  · rw [lisV_some _ _ hL] at htop
    refine xcall_self (by simp) g6 ?_
    simp [htop]
    refine xcall_self (by simp) g5 ?_
    simp
    refine xcall_self (by simp) (oawake_c _) ?_
    simp
    done
/-! ### OverLater -/
structure LT where
  T : Tb
  j : Nat
structure LT.Ok (d : BS) (l : List En) (s : LT) : Prop where
  le : s.j ≤ l.length
  a : s.T.a = 0
  most : s.T.most = d.T.most
  both : Both s.T (viewL d.L (opsOf (l.take s.j)))
theorem opsOf_take {l : List En} {j : Nat} (hj : j < l.length) : opsOf (l.take (j + 1)) = opsOf (l.take j) ++ l[j].good := by
  unfold opsOf
  rw [take_snoc hj, List.flatMap_append]
  simp
theorem olater_c (first : List To) (l : List En) (name : List UInt8) (hf : first.length ≤ maxLen) (hnm : ∀ x ∈ l, ∀ op ∈ x.good, NmFit op) : Contract Try.prog 8 [.sl 3 (enc toC first) none .no, .sl 8 (enc enC l) none .no, .v (.string (strB name))] [] (.v (.bool true)) [] [] := by
  obtain ⟨d, hd, ct⟩ := both_c 29 (by omega) first hf
  refine contract_of k8 mixed (by simp [c8]) fun hh hargs => ?_
  simp [c8]
  refine xcall_self (by simp) ct ?_
  simp
  refine xcall_self (by simp) (entries_c l _) ?_
  cases hE : fewEL l 30 with
  | false =>
    simp
    refine xcall_self (by simp) (oawake_c _) ?_
    simp
  | true =>
  by_cases hlong : 300 < (name.length : Int)
  · simp [strB_size, hlong]
    refine xcall_self (by simp) (oawake_c _) ?_
    simp
  obtain ⟨b1, b2, b3⟩ := few_bounds hE
  have b2' : ∀ x ∈ l, x.good.length ≤ 1000000 := fun x hx => by have := b2 x hx; omega
  have hfew := hd.both.few
  have g1 := olookup_c hd.tb l (by omega) b2' name
  have g3 := omany_c hd.tb hd.both.ok l (by omega) b2' (by omega)
  rw [many_same hd.both] at g3
  have hself := hd.tb.set_self
  rw [hd.a] at hself
  have hHl : ltLL d.H.length d.H := hd.tb.lt
  have h1l := hd.tb.i_lt
  simp [strB_size, hlong]
  refine xcall_self (by simp) g1 ?_
  simp
  refine xcall_self (by simp) g3 ?_
  simp
  refine xloop_ok (D := LT) (fun s => ⟨[(2, .v (.string (strB name))), (7, .box 1 0), (9, .v (.int .i64 ((lookO name (d.T.get name) (opsOf l)).getD 0))), (10, .v (.bool (lookO name (d.T.get name) (opsOf l)).isSome)), (11, .v (.int .i64 ((viewL d.L (opsOf l)).length : Int))), (54, .sl 8 (enc enC l) none .no), (55, .v (.int .i64 (l.length : Int))), (56, .v (.int .i64 (s.j : Int)))], [], d.H.set 0 s.T.cells, []⟩) (LT.Ok d l) (fun s => l.length - s.j) ⟨d.T, 0⟩ ⟨Nat.zero_le _, hd.a, rfl, hd.both⟩ ?_ ?_
  · simp [Leq, hself, hHl, leqH_take]
    omega
  · rintro ⟨T, j⟩ ⟨hj, ha, hm, hbo⟩
    dsimp only at hj ha hm hbo
    have tb := hd.tb.to (ha.trans hd.a.symm) hm
    rw [hd.a] at tb
    have htl := tb.lt
    rw [List.length_set] at htl
    by_cases hlt : j < l.length
    · have hw : IntKind.i64.wrap ((j : Int) + 1) = (j : Int) + 1 := wrap64 (by omega) (by omega)
      have hg10 := b2 l[j] (List.getElem_mem hlt)
      have g5 := oapply_c (tb.app [enC l[j]] (by simp [enC_mk])) hbo.ok l[j].good (hnm _ (List.getElem_mem hlt)) (by omega)
      rw [ha, List.set_append_left _ _ (by simp; omega), List.set_set] at g5
      have hTa := appT_a l[j].good T []
      have hfine := appT_fine l[j].good T [] hbo.ok
      have tb2 := hd.tb.to (T' := (appT T l[j].good []).1) (hTa.1.trans (ha.trans hd.a.symm)) (hTa.2.trans hm)
      rw [hd.a] at tb2
      have htl2 := tb2.lt
      rw [List.length_set] at htl2
      simp only [enC_mk] at g5
      simp [hlt, enC_mk]
      refine xcall_self (by simp) g5 ?_
      by_cases he : (appT T l[j].good []).2.2 = 0
      · have hb2 := appT_ok l[j].good T [] hbo he
        rw [← viewL_append, ← opsOf_take hlt] at hb2
        simp [he, hw]
        refine ⟨⟨(appT T l[j].good []).1, j + 1⟩, ⟨hlt, hTa.1.trans ha, hTa.2.trans hm, hb2⟩, by show l.length - (j + 1) < l.length - j; omega, ?_⟩
        simp [Leq, htl2, leqH_take]
        omega
      · have he6 := appT_six l[j].good T [] he
        simp [he6]
        refine xcall_self (by simp) (oawake_c _) ?_
        simp
        done
    · have : j = l.length := by omega
      subst this
      rw [List.take_length] at hbo
      have g6 := tget_c tb name
      rw [← hbo.old, ← hbo.get, view_get name hd.both.rise, hd.both.get] at g6
      have g7 := tlen_c tb
      rw [hbo.len] at g7
      simp
      refine xcall_self (by simp) g6 ?_
      simp
      refine xcall_self (by simp) g7 ?_
      simp
      refine xcall_self (by simp) (oawake_c _) ?_
      simp
      done
/-! ### OverNobody -/
theorem onobody_c (l : List En) (name : List UInt8) (id : Int) : Contract Try.prog 9 [.sl 8 (enc enC l) none .no, .v (.string (strB name)), .v (.int .i64 id)] [] (.v (.bool true)) [] [] := by
  refine contract_of k9 mixed (by simp [c9]) fun hh hargs => ?_
  simp [c9]
  refine xcall_self (by simp) (entries_c l _) ?_
  cases hE : fewEL l 30 with
  | false =>
    simp
    refine xcall_self (by simp) (oawake_c _) ?_
    simp
  | true =>
  by_cases hlong : 300 < (name.length : Int)
  · simp [strB_size, hlong]
    refine xcall_self (by simp) (oawake_c _) ?_
    simp
  obtain ⟨b1, b2, b3⟩ := few_bounds hE
  have b2' : ∀ x ∈ l, x.good.length ≤ 1000000 := fun x hx => by have := b2 x hx; omega
  have g2 := rlookup_c (h := []) (tv := .v (.pointer none)) (L := []) (.inl ⟨rfl, rfl⟩) List.Pairwise.nil (by simp) l (by omega) b2' (by simp; omega) name
  rw [show Nm.get name ([] : List Nm) = none from rfl] at g2
  have g3 := oapplyn_c (h := []) ⟨true, name, id⟩
  have g4 := oapplyn_c (h := []) ⟨false, name, 0⟩
  simp only [enc, List.map_cons, List.map_nil, toC_mk, if_true, if_false, Bool.false_eq_true] at g3 g4
  simp [strB_size, hlong]
  refine xcall_self (by simp) (olookup_n l (by omega) b2' name) ?_
  simp
  refine xcall_self (by simp) g2 ?_
  simp
  refine xcall_of g3 (by simp) (by simp) ?_
  simp
  refine xcall_of g4 (by simp) (by simp) ?_
  simp
  refine xcall_self (by simp) (oawake_c _) ?_
  simp
  done
end Go.Proofs.Ytphgbfemigcalaa.Ax
/- Layer 16's statements, over what came in as data. -/
namespace Go.Proofs.Ytphgbfemigcalaa.Ax
open Go.RowKit Go By
set_option linter.unusedSimpArgs false
set_option linter.unusedVariables false
set_option maxRecDepth 10000

theorem sh_toR : ShapeR Try.prog 74 toC NmFit :=
  ShapeR.map (shapeR_struct Try.underlying74 (by kernel_rfl) (shapeR_cons (k := 1) rfl (by kernel_rfl) sh_bool.reach (by kernel_rfl) (shapeR_cons (k := 1) rfl (by kernel_rfl) (shapeR_str Try.underlying9) (by kernel_rfl) (shapeR_one (k := 1) rfl (by kernel_rfl) sh_int.reach)))) (fun p => (⟨p.1, p.2.1, p.2.2⟩ : To)) (fun _ => rfl) (fun p h => Nat.le_trans h.2.1 (by decide))
theorem sh_toLR : ShapeR Try.prog 48 (fun l : List To => [.sl 3 (enc toC l) none .no]) (fun l => l.length ≤ reachBytes ∧ ∀ x ∈ l, NmFit x) := shapeR_slice Try.underlying48 (k := 3) (by kernel_rfl) (by omega) (of_decide_eq_true (by kernel_rfl)) sh_toR (fun _ => rfl)
theorem sh_enR : ShapeR Try.prog 71 enC (fun x => ∀ op ∈ x.good, NmFit op) :=
  ShapeR.map (shapeR_struct Try.underlying71 (by kernel_rfl) (shapeR_cons (k := 1) rfl (by kernel_rfl) sh_int.reach (by kernel_rfl) (shapeR_cons (k := 1) rfl (by kernel_rfl) sh_bool.reach (by kernel_rfl) (shapeR_cons (k := 1) rfl (by kernel_rfl) sh_str.reach (by kernel_rfl) (shapeR_cons (k := 1) rfl (by kernel_rfl) sh_str.reach (by kernel_rfl) (shapeR_cons (k := 1) rfl (by kernel_rfl) sh_toLR (by kernel_rfl) (shapeR_cons (k := 1) rfl (by kernel_rfl) sh_toCL.reach (by kernel_rfl) (shapeR_cons (k := 1) rfl (by kernel_rfl) sh_ocCL.reach (by kernel_rfl) (shapeR_one (k := 1) rfl (by kernel_rfl) sh_bytes.reach))))))))) (fun p => (⟨p.1, p.2.1, p.2.2.1, p.2.2.2.1, p.2.2.2.2.1, p.2.2.2.2.2.1, p.2.2.2.2.2.2.1, p.2.2.2.2.2.2.2⟩ : En)) (fun _ => rfl) (fun p h => h.2.2.2.2.1.2)
theorem sh_enLR : ShapeR Try.prog 49 (fun l : List En => [.sl 8 (enc enC l) none .no]) (fun l => l.length ≤ reachBytes ∧ ∀ x ∈ l, ∀ op ∈ x.good, NmFit op) := shapeR_slice Try.underlying49 (k := 8) (by kernel_rfl) (by omega) (of_decide_eq_true (by kernel_rfl)) sh_enR (fun _ => rfl)
theorem u8_of {a : Int} (h : (Lit.int .u8 a).wf = true) : ∃ n : Nat, n < 256 ∧ a = (n : Int) := by
  have lo : IntKind.u8.min = 0 := rfl
  have hi : IntKind.u8.max = 255 := rfl
  simp [Lit.wf] at h
  exact ⟨a.toNat, by omega, by omega⟩
theorem otells_l (a : Int) (first : List To) (l : List En) (name : List UInt8) (h0 : (Lit.int .u8 a).wf = true) (h1 : first.length ≤ maxLen ∧ ∀ x ∈ first, OkTo x) : Contract Try.prog 6 [.v (.int .u8 a), .sl 3 (enc toC first) none .no, .sl 8 (enc enC l) none .no, .v (.string (strB name))] [] (.v (.bool true)) [] [] := by
  obtain ⟨n, hn, rfl⟩ := u8_of h0
  exact otells_c n hn first h1.1 l name
theorem oapplies_l (a : Int) (first ops : List To) (name : List UInt8) (h0 : (Lit.int .u8 a).wf = true) (h1 : first.length ≤ maxLen ∧ ∀ x ∈ first, OkTo x) (h2 : ops.length ≤ reachBytes ∧ ∀ x ∈ ops, NmFit x) : Contract Try.prog 7 [.v (.int .u8 a), .sl 3 (enc toC first) none .no, .sl 3 (enc toC ops) none .no, .v (.string (strB name))] [] (.v (.bool true)) [] [] := by
  obtain ⟨n, hn, rfl⟩ := u8_of h0
  exact oapplies_c n hn first ops h1.1 h2.2 name
theorem olater_l (first : List To) (l : List En) (name : List UInt8) (h0 : first.length ≤ maxLen ∧ ∀ x ∈ first, OkTo x) (h1 : l.length ≤ reachBytes ∧ ∀ x ∈ l, ∀ op ∈ x.good, NmFit op) : Contract Try.prog 8 [.sl 3 (enc toC first) none .no, .sl 8 (enc enC l) none .no, .v (.string (strB name))] [] (.v (.bool true)) [] [] := olater_c first l name h0.1 h1.2
end Go.Proofs.Ytphgbfemigcalaa.Ax
namespace Go.Proofs.Ytphgbfemigcalaa.overLater
open Go.ChangeShapes Go.WideShapes Go.ChangeAt Go.RowKit
open Go.ChangeMaps (open_string shut_string)
set_option linter.unusedVariables false

theorem own : ownKnob Try.prog.godebug = none := by kernel_rfl
theorem laidOut : laidOutB Try.prog = true := by kernel_rfl

set_option maxRecDepth 100000 in
theorem lifted (os : Os) (started : os.Started) (H : Type) (enc : TypeId × Value → H) :
    ReturnsInHanded {} Try.checked os 8 .any (Rows.overLaterSpec.pre6 enc Try.prog Try.f8 Rows.overLaterRow.domain false) (Rows.overLaterSpec.post enc Try.prog Try.f8 false true false false) := by
  refine returnsInHanded_of_change_sized (C := Try.checked) own started (by kernel_rfl) Try.func8
    (ChangeSpec.witness6 (enc := enc) (C := Try.checked) false ⟨#[], #[.slice none 0 0, .slice none 0 0, .string ByteArray.empty], []⟩ 8 (by kernel_rfl) (by kernel_rfl) (by kernel_rfl) (by kernel_rfl)) ?_
  intro W base args ds gs before hval0 hW hcnd hreach _
  have hval : ∀ (j : Nat) t v, Try.f8.params[j]? = some t → args[j]? = some v → Value.okWide Try.prog W .any base t v := hval0
  have hW' := hW
  obtain ⟨p, q, hA0, hV, rfl, hfz, hnd⟩ := hW
  have hA : DataW.TrodAll enc Try.prog W 0 (fun _ => true) true Try.f8.params.toList args.toList ds p := hA0
  rw [Try.params8] at hA hval
  obtain ⟨v0, vs0, d0, ds0, p0, q0, hargs, rfl, rfl, h0, r0⟩ := trodAll_cons hA
  obtain ⟨v1, vs1, d1, ds1, p1, q1, rfl, rfl, rfl, h1, r1⟩ := trodAll_cons r0
  obtain ⟨v2, vs2, d2, ds2, p2, q2, rfl, rfl, rfl, h2, r2⟩ := trodAll_cons r1
  obtain ⟨rfl, rfl, rfl⟩ := trodAll_nil r2
  obtain rfl : args = #[v0, v1, v2] := by cases args; simp_all
  obtain ⟨rfl, rfl⟩ := trodVars_none hV
  have k0 := h0
  have lt0 : ∀ x ∈ p0, x.block < W.heap.size := by obtain ⟨m, hm⟩ := k0; exact DataW.trod_lt m _ _ _ hm
  obtain ⟨a0, ok0, s0⟩ := Ax.arg_slice Try.underlying48 Ax.sh_toCL (hval 0 48 v0 rfl rfl) h0
  have k1 := h1
  have lt1 : ∀ x ∈ p1, x.block < W.heap.size := by obtain ⟨m, hm⟩ := k1; exact DataW.trod_lt m _ _ _ hm
  obtain ⟨a1, ok1, s1⟩ := Ax.argR_slice Try.underlying49 Ax.sh_enLR (hval 1 49 v1 rfl rfl) h1 (Ax.reached_of hreach (j := 1) rfl rfl)
  have k2 := h2
  have lt2 : ∀ x ∈ p2, x.block < W.heap.size := by obtain ⟨m, hm⟩ := k2; exact DataW.trod_lt m _ _ _ hm
  obtain ⟨a2, ok2, s2⟩ := Ax.arg_str Try.underlying9 (hval 2 9 v2 rfl rfl) h2
  clear hA0 hval0 hreach
  refine (Ax.law_walk (w := W) (Ax.dom_any W) (Ax.olater_l a0 a1 a2 ok0 ok1) (by simp) (.cons s0 (.cons s1 (.cons s2 .nil)))).mono fun e W' ⟨he, bel⟩ => ?_
  subst he
  exact ⟨_, rfl, _, _, _, [], _, [], hW', trodAll_mk1 (shut_bool Try.underlying4 _), (trodAll_cons_mk (Below.trod laidOut (by kernel_rfl) (of_decide_eq_true (by kernel_rfl)) k0 bel lt0) (trodAll_cons_mk (Below.trod laidOut (by kernel_rfl) (of_decide_eq_true (by kernel_rfl)) k1 bel lt1) (trodAll_cons_mk (Below.trod laidOut (by kernel_rfl) (of_decide_eq_true (by kernel_rfl)) k2 bel lt2) trodAll_mk0))), rfl, bel.frame _, fun h => by cases h⟩

theorem over : Rows.overLaterRow.holds Try.pinned (OpenSpec.ofChange Rows.overLaterSpec) :=
  OpenClaim.holds_of_wide 8 Try.f8 rfl rfl rfl rfl rfl rfl rfl ⟨rfl, rfl, rfl, rfl, rfl⟩ rfl rfl rfl rfl rfl (by kernel_rfl) Try.func8 (by kernel_rfl)
    (of_decide_eq_true (by kernel_rfl)) (by unfold Func.isWrapper; first | (rw [if_pos (by decide +kernel)]; kernel_rfl) | (rw [if_neg (by decide +kernel)]; exact ⟨rfl, rfl⟩))
    (fun os started H enc _ => lifted os started H enc)

theorem proved : Rows.OverLaterSaid := over
#print axioms proved
end Go.Proofs.Ytphgbfemigcalaa.overLater
