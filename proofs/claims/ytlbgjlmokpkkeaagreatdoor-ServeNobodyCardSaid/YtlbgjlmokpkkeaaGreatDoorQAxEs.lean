/- A server over values without memory: what one is; what it says and gives up. -/
import Derived.Test.YtlbgjlmokpkkeaaGreatDoorQAxX
import Derived.Test.YtlbgjlmokpkkeaaGreatDoorRows
import Derived.Test.YtlbgjlmokpkkeaaGreatDoorQAxSf
import Derived.Test.YtlbgjlmokpkkeaaGreatDoorQAxWf
import Derived.Test.YtlbgjlmokpkkeaaGreatDoorQAxBl
/- The texts of functions over values without memory, as the kernel reckons them out of the program. -/
namespace Go.Proofs.YtlbgjlmokpkkeaaGreatDoor.Ax
open Go.RowKit Go By

def c18 : XFun := ⟨21, (.seq (.ops [⟨(some 6), (.assign (.const (.pointer none))), none⟩]) (.seq (.ops [⟨(some 10), (.call 33 [(.const (.int .i64 65536)), (.const (.int .i64 262144)), (.const (.bool true))]), none⟩, ⟨(some 9), (.move (.tmp 10)), none⟩, ⟨(some 11), (.extract (.tmp 9) 0), none⟩, ⟨(some 12), (.extract (.tmp 9) 1), none⟩, ⟨(some 7), (.assign (.tmp 11)), none⟩, ⟨(some 8), (.assign (.tmp 12)), none⟩]) (.seq (.ops [⟨(some 13), (.move (.tmp 7)), none⟩, ⟨(some 14), (.move (.tmp 0)), none⟩, ⟨(some 15), (.call 34 [(.tmp 14)]), none⟩, ⟨(some 16), (.move (.tmp 1)), none⟩, ⟨(some 17), (.call 35 [(.tmp 16)]), none⟩, ⟨(some 18), (.move (.tmp 2)), none⟩, ⟨(some 19), (.build [(.sl 0 [] (some true) .exact), (.v (.pointer none)), (.v (.pointer none)), (.sl 0 [] (some true) .exact), (.v (.int .i64 0)), (.v (.bool false)), (.v (.bool false))] [(1, (1, (.tmp 13))), (2, (1, (.tmp 15))), (3, (1, (.tmp 17))), (4, (1, (.tmp 18)))]), none⟩, ⟨(some 20), (.box (.tmp 19)), none⟩, ⟨(some 6), (.assign (.tmp 20)), none⟩]) .ret))), [(.move (.tmp 6))]⟩
theorem k18 : cfun Tryz.prog 18 = some c18 := by kernel_rfl
def c12 : XFun := ⟨20, (.seq (.ops [⟨(some 4), (.assign (.const (.int .i64 0))), none⟩]) (.seq (.block 0 (.seq (.ops [⟨(some 6), (.move (.tmp 0)), none⟩, ⟨(some 7), (.call 23 [(.tmp 6)]), none⟩, ⟨(some 8), (.un .not (.tmp 7)), none⟩, ⟨(some 5), (.assign (.tmp 8)), none⟩]) (.cond (.tmp 5) (.seq (.ops [⟨(some 4), (.assign (.const (.int .i64 2))), none⟩]) .ret) (.seq (.ops [⟨(some 10), (.move (.tmp 0)), none⟩, ⟨(some 11), (.nilCheck (.tmp 10)), none⟩, ⟨(some 12), (.faddr 6 (.tmp 11)), none⟩, ⟨(some 13), (.load1 (.tmp 12)), none⟩, ⟨(some 9), (.assign (.tmp 13)), none⟩]) (.cond (.tmp 9) (.seq (.ops [⟨(some 4), (.assign (.const (.int .i64 10))), none⟩]) .ret) .skip))))) (.seq (.ops [⟨(some 14), (.move (.tmp 0)), none⟩, ⟨(some 15), (.nilCheck (.tmp 14)), none⟩, ⟨(some 16), (.faddr 1 (.tmp 15)), none⟩, ⟨(some 17), (.load1 (.tmp 16)), none⟩, ⟨(some 18), (.move (.tmp 1)), none⟩, ⟨(some 19), (.call 29 [(.tmp 17), (.tmp 18)]), none⟩, ⟨(some 4), (.assign (.tmp 19)), none⟩]) .ret))), [(.move (.tmp 4))]⟩
theorem k12 : cfun Tryz.prog 12 = some c12 := by kernel_rfl
def c10 : XFun := ⟨48, (.seq (.ops [⟨(some 2), (.alloc [(.v (.int .u8 0)), (.v (.int .u8 0)), (.v (.string (strB []))), (.v (.string (strB []))), (.v (.string (strB []))), (.sl 0 [] (some true) .exact), (.sl 0 [] (some true) .exact), (.sl 0 [] (some true) .exact), (.sl 0 [] (some true) .exact), (.v (.int .i64 0))]), none⟩, ⟨(some 3), (.assign (.const (.bool false))), none⟩]) (.seq (.seq (.ops [⟨(some 7), (.move (.tmp 0)), none⟩, ⟨(some 8), (.call 23 [(.tmp 7)]), none⟩, ⟨(some 9), (.un .not (.tmp 8)), none⟩, ⟨(some 10), (.move (.tmp 9)), none⟩, ⟨(some 11), (.move (.tmp 0)), (some (10, false))⟩, ⟨(some 12), (.nilCheck (.tmp 11)), (some (10, false))⟩, ⟨(some 13), (.faddr 6 (.tmp 12)), (some (10, false))⟩, ⟨(some 14), (.load1 (.tmp 13)), (some (10, false))⟩, ⟨(some 15), (.pick (.tmp 10) (.const (.bool true)) (.tmp 14)), none⟩]) (.cond (.tmp 15) (.seq (.ops [⟨(some 16), (.build [(.v (.int .u8 0)), (.v (.int .u8 0)), (.v (.string (strB []))), (.v (.string (strB []))), (.v (.string (strB []))), (.sl 0 [] (some true) .exact), (.sl 0 [] (some true) .exact), (.sl 0 [] (some true) .exact), (.sl 0 [] (some true) .exact), (.v (.int .i64 0))] []), none⟩, ⟨none, (.store 10 (.tmp 2) (.tmp 16)), none⟩, ⟨(some 3), (.assign (.const (.bool false))), none⟩]) .ret) .skip)) (.seq (.ops [⟨(some 18), (.move (.tmp 0)), none⟩, ⟨(some 19), (.nilCheck (.tmp 18)), none⟩, ⟨(some 20), (.faddr 1 (.tmp 19)), none⟩, ⟨(some 21), (.load1 (.tmp 20)), none⟩, ⟨(some 22), (.call 24 [(.tmp 21)]), none⟩, ⟨(some 17), (.move (.tmp 22)), none⟩, ⟨(some 23), (.extract (.tmp 17) 0), none⟩, ⟨(some 24), (.extract (.tmp 17) 1), none⟩, ⟨(some 25), (.extract (.tmp 17) 2), none⟩, ⟨(some 4), (.alloc [(.v (.int .u8 0)), (.sl 0 [] (some true) .exact)]), none⟩, ⟨none, (.store 2 (.tmp 4) (.tmp 23)), none⟩, ⟨(some 5), (.assign (.tmp 24)), none⟩, ⟨(some 6), (.assign (.tmp 25)), none⟩]) (.seq (.block 0 (.seq (.ops [⟨(some 30), (.move (.tmp 6)), none⟩, ⟨(some 31), (.bin .neq (.tmp 30) (.const (.int .i64 0))), none⟩, ⟨(some 29), (.assign (.tmp 31)), none⟩]) (.cond (.tmp 29) (.ops [⟨(some 32), (.move (.tmp 0)), none⟩, ⟨(some 33), (.call 25 [(.tmp 32)]), none⟩]) (.seq (.ops [⟨(some 35), (.move (.tmp 5)), none⟩, ⟨(some 36), (.un .not (.tmp 35)), none⟩, ⟨(some 34), (.assign (.tmp 36)), none⟩]) (.cond (.tmp 34) .skip (.seq (.ops [⟨(some 38), (.move (.tmp 0)), none⟩, ⟨(some 39), (.nilCheck (.tmp 38)), none⟩, ⟨(some 40), (.faddr 5 (.tmp 39)), none⟩, ⟨(some 41), (.load1 (.tmp 40)), none⟩, ⟨(some 37), (.assign (.tmp 41)), none⟩]) (.cond (.tmp 37) (.seq (.ops [⟨(some 42), (.move (.tmp 0)), none⟩, ⟨(some 43), (.loadN 2 (.tmp 4)), none⟩, ⟨(some 44), (.call 26 [(.tmp 42), (.tmp 43)]), none⟩, ⟨(some 45), (.extract (.tmp 44) 0), none⟩, ⟨(some 46), (.extract (.tmp 44) 1), none⟩, ⟨none, (.store 10 (.tmp 2) (.tmp 45)), none⟩, ⟨(some 3), (.assign (.tmp 46)), none⟩]) .ret) (.ops [⟨(some 26), (.move (.tmp 0)), none⟩, ⟨(some 27), (.loadN 2 (.tmp 4)), none⟩, ⟨(some 28), (.call 27 [(.tmp 26), (.tmp 27)]), none⟩])))))))) (.seq (.ops [⟨(some 47), (.build [(.v (.int .u8 0)), (.v (.int .u8 0)), (.v (.string (strB []))), (.v (.string (strB []))), (.v (.string (strB []))), (.sl 0 [] (some true) .exact), (.sl 0 [] (some true) .exact), (.sl 0 [] (some true) .exact), (.sl 0 [] (some true) .exact), (.v (.int .i64 0))] []), none⟩, ⟨none, (.store 10 (.tmp 2) (.tmp 47)), none⟩, ⟨(some 3), (.assign (.const (.bool false))), none⟩]) .ret))))), [(.loadN 10 (.tmp 2)), (.move (.tmp 3))]⟩
theorem k10 : cfun Tryz.prog 10 = some c10 := by kernel_rfl
def c11 : XFun := ⟨14, (.seq (.ops [⟨(some 2), (.alloc [(.v (.int .u8 0)), (.sl 0 [] (some true) .exact)]), none⟩, ⟨(some 3), (.assign (.const (.bool false))), none⟩]) (.seq (.seq (.ops [⟨(some 4), (.move (.tmp 0)), none⟩, ⟨(some 5), (.call 23 [(.tmp 4)]), none⟩, ⟨(some 6), (.un .not (.tmp 5)), none⟩]) (.cond (.tmp 6) (.seq (.ops [⟨(some 7), (.build [(.v (.int .u8 0)), (.sl 0 [] (some true) .exact)] []), none⟩, ⟨none, (.store 2 (.tmp 2) (.tmp 7)), none⟩, ⟨(some 3), (.assign (.const (.bool false))), none⟩]) .ret) .skip)) (.seq (.ops [⟨(some 8), (.move (.tmp 0)), none⟩, ⟨(some 9), (.nilCheck (.tmp 8)), none⟩, ⟨(some 10), (.faddr 0 (.tmp 9)), none⟩, ⟨(some 11), (.call 28 [(.tmp 10)]), none⟩, ⟨(some 12), (.extract (.tmp 11) 0), none⟩, ⟨(some 13), (.extract (.tmp 11) 1), none⟩, ⟨none, (.store 2 (.tmp 2) (.tmp 12)), none⟩, ⟨(some 3), (.assign (.tmp 13)), none⟩]) .ret))), [(.loadN 2 (.tmp 2)), (.move (.tmp 3))]⟩
theorem k11 : cfun Tryz.prog 11 = some c11 := by kernel_rfl
def c14 : XFun := ⟨10, (.seq (.ops [⟨(some 2), (.assign (.const (.pointer none))), none⟩]) (.seq (.seq (.ops [⟨(some 3), (.move (.tmp 0)), none⟩, ⟨(some 4), (.call 23 [(.tmp 3)]), none⟩, ⟨(some 5), (.un .not (.tmp 4)), none⟩]) (.cond (.tmp 5) (.seq (.ops [⟨(some 2), (.assign (.const (.pointer none))), none⟩]) .ret) .skip)) (.seq (.ops [⟨(some 6), (.move (.tmp 0)), none⟩, ⟨(some 7), (.nilCheck (.tmp 6)), none⟩, ⟨(some 8), (.faddr 2 (.tmp 7)), none⟩, ⟨(some 9), (.load1 (.tmp 8)), none⟩, ⟨(some 2), (.assign (.tmp 9)), none⟩]) .ret))), [(.move (.tmp 2))]⟩
theorem k14 : cfun Tryz.prog 14 = some c14 := by kernel_rfl
def c13 : XFun := ⟨11, (.seq (.ops [⟨(some 2), (.assign (.const (.bool false))), none⟩]) (.seq (.ops [⟨(some 3), (.move (.tmp 0)), none⟩, ⟨(some 4), (.call 23 [(.tmp 3)]), none⟩, ⟨(some 5), (.move (.tmp 4)), none⟩, ⟨(some 6), (.move (.tmp 0)), (some (5, true))⟩, ⟨(some 7), (.nilCheck (.tmp 6)), (some (5, true))⟩, ⟨(some 8), (.faddr 6 (.tmp 7)), (some (5, true))⟩, ⟨(some 9), (.load1 (.tmp 8)), (some (5, true))⟩, ⟨(some 10), (.pick (.tmp 5) (.tmp 9) (.const (.bool false))), none⟩, ⟨(some 2), (.assign (.tmp 10)), none⟩]) .ret)), [(.move (.tmp 2))]⟩
theorem k13 : cfun Tryz.prog 13 = some c13 := by kernel_rfl
def c23 : XFun := ⟨12, (.seq (.ops [⟨(some 2), (.assign (.const (.bool false))), none⟩]) (.seq (.ops [⟨(some 3), (.move (.tmp 0)), none⟩, ⟨(some 4), (.pnileq true (.tmp 3)), none⟩, ⟨(some 5), (.move (.tmp 4)), none⟩, ⟨(some 6), (.move (.tmp 0)), (some (5, true))⟩, ⟨(some 7), (.nilCheck (.tmp 6)), (some (5, true))⟩, ⟨(some 8), (.faddr 2 (.tmp 7)), (some (5, true))⟩, ⟨(some 9), (.load1 (.tmp 8)), (some (5, true))⟩, ⟨(some 10), (.pnileq true (.tmp 9)), (some (5, true))⟩, ⟨(some 11), (.pick (.tmp 5) (.tmp 10) (.const (.bool false))), none⟩, ⟨(some 2), (.assign (.tmp 11)), none⟩]) .ret)), [(.move (.tmp 2))]⟩
theorem k23 : cfun Tryz.prog 23 = some c23 := by kernel_rfl
def c27 : XFun := ⟨51, (.seq (.ops [⟨(some 3), (.box (.tmp 1)), none⟩]) (.seq (.ops [⟨(some 7), (.faddr 1 (.tmp 3)), none⟩, ⟨(some 8), (.load1 (.tmp 7)), none⟩, ⟨(some 9), (.call 47 [(.tmp 8)]), none⟩, ⟨(some 6), (.move (.tmp 9)), none⟩, ⟨(some 10), (.extract (.tmp 6) 0), none⟩, ⟨(some 11), (.extract (.tmp 6) 1), none⟩, ⟨(some 4), (.alloc [(.v (.int .i64 0)), (.v (.int .i64 0)), (.v (.int .i64 0)), (.sl 0 [] (some true) .exact)]), none⟩, ⟨none, (.store 4 (.tmp 4) (.tmp 10)), none⟩, ⟨(some 5), (.assign (.tmp 11)), none⟩]) (.block 0 (.seq (.ops [⟨(some 13), (.move (.tmp 5)), none⟩, ⟨(some 14), (.bin .neq (.tmp 13) (.const (.int .i64 0))), none⟩, ⟨(some 15), (.move (.tmp 14)), none⟩, ⟨(some 16), (.faddr 0 (.tmp 4)), (some (15, false))⟩, ⟨(some 17), (.load1 (.tmp 16)), (some (15, false))⟩, ⟨(some 18), (.bin .eql (.tmp 17) (.const (.int .i64 80877102))), (some (15, false))⟩, ⟨(some 19), (.pick (.tmp 15) (.const (.bool true)) (.tmp 18)), none⟩, ⟨(some 12), (.assign (.tmp 19)), none⟩]) (.cond (.tmp 12) (.ops [⟨(some 20), (.move (.tmp 0)), none⟩, ⟨(some 21), (.nilCheck (.tmp 20)), none⟩, ⟨(some 22), (.faddr 6 (.tmp 21)), none⟩, ⟨none, (.store 1 (.tmp 22) (.const (.bool true))), none⟩]) (.seq (.ops [⟨(some 24), (.faddr 0 (.tmp 4)), none⟩, ⟨(some 25), (.load1 (.tmp 24)), none⟩, ⟨(some 26), (.bin .eql (.tmp 25) (.const (.int .i64 196608))), none⟩, ⟨(some 23), (.assign (.tmp 26)), none⟩]) (.cond (.tmp 23) (.seq (.draws (.take ⟨(some 27), (.move (.tmp 0)), none⟩ (.take ⟨(some 28), (.nilCheck (.tmp 27)), none⟩ (.take ⟨(some 29), (.faddr 0 (.tmp 28)), none⟩ (.take ⟨(some 30), (.move (.tmp 0)), none⟩ (.take ⟨(some 31), (.nilCheck (.tmp 30)), none⟩ (.take ⟨(some 32), (.faddr 3 (.tmp 31)), none⟩ (.take ⟨(some 33), (.load1 (.tmp 32)), none⟩ (.take ⟨(some 34), (.move (.tmp 0)), none⟩ (.take ⟨(some 35), (.nilCheck (.tmp 34)), none⟩ (.take ⟨(some 36), (.faddr 4 (.tmp 35)), none⟩ (.take ⟨(some 37), (.load1 (.tmp 36)), none⟩ (.only ⟨(some 38), (.call 48 [(.tmp 33), (.tmp 37)]), none⟩ (.last ⟨(some 39), (.call 43 [(.tmp 29), (.tmp 38)]), none⟩)))))))))))))) (.seq (.ops [⟨(some 40), (.move (.tmp 0)), none⟩, ⟨(some 41), (.nilCheck (.tmp 40)), none⟩, ⟨(some 42), (.faddr 3 (.tmp 41)), none⟩, ⟨none, (.store 1 (.tmp 42) (.const (.slice none 0 0))), none⟩]) (.seq (.ops [⟨(some 43), (.move (.tmp 0)), none⟩, ⟨(some 44), (.nilCheck (.tmp 43)), none⟩, ⟨(some 45), (.faddr 1 (.tmp 44)), none⟩, ⟨(some 46), (.load1 (.tmp 45)), none⟩, ⟨(some 47), (.call 49 [(.tmp 46)]), none⟩]) (.ops [⟨(some 48), (.move (.tmp 0)), none⟩, ⟨(some 49), (.nilCheck (.tmp 48)), none⟩, ⟨(some 50), (.faddr 5 (.tmp 49)), none⟩, ⟨none, (.store 1 (.tmp 50) (.const (.bool true))), none⟩])))) .skip))))))), []⟩
theorem k27 : cfun Tryz.prog 27 = some c27 := by kernel_rfl
def c35 : XFun := ⟨24, (.seq (.ops [⟨(some 2), (.assign (.const (.slice none 0 0))), none⟩]) (.seq (.ops [⟨(some 3), (.assign (.const (.slice none 0 0))), none⟩]) (.seq (.seq (.ops [⟨(some 6), (.move (.tmp 0)), none⟩, ⟨(some 7), (.lenL (.tmp 6)), none⟩, ⟨(some 8), (.move (.const (.int .i64 0))), none⟩]) (.block 0 (.loop (.seq (.ops [⟨(some 9), (.bin .lss (.tmp 8) (.tmp 7)), none⟩]) (.seq (.cond (.tmp 9) .skip (.exit 0)) (.seq (.block 1 (.seq (.ops [⟨(some 10), (.iaddr 2 (.tmp 6) (.tmp 8)), none⟩, ⟨(some 11), (.loadN 2 (.tmp 10)), none⟩, ⟨(some 5), (.alloc [(.v (.string (strB []))), (.v (.string (strB [])))]), none⟩, ⟨none, (.store 2 (.tmp 5) (.tmp 11)), none⟩]) (.draws (.take ⟨(some 12), (.move (.tmp 3)), none⟩ (.take ⟨(some 13), (.faddr 0 (.tmp 5)), none⟩ (.take ⟨(some 14), (.load1 (.tmp 13)), none⟩ (.take ⟨(some 16), (.faddr 1 (.tmp 5)), none⟩ (.take ⟨(some 17), (.load1 (.tmp 16)), none⟩ (.only ⟨(some 15), (.call 53 [(.tmp 14)]), none⟩ (.only ⟨(some 18), (.call 53 [(.tmp 17)]), none⟩ (.take ⟨(some 19), (.build [(.v (.string (strB []))), (.v (.string (strB [])))] [(0, (1, (.tmp 15))), (1, (1, (.tmp 18)))]), none⟩ (.only ⟨(some 20), (.buildSlice 2 1 [(.v (.string (strB []))), (.v (.string (strB [])))] [(0, (.tmp 19))]), none⟩ (.only ⟨(some 21), (.append 2 32 (.tmp 12) (.tmp 20)), none⟩ (.take ⟨(some 3), (.assign (.tmp 21)), none⟩ .done)))))))))))))) (.ops [⟨(some 22), (.bin .add (.tmp 8) (.const (.int .i64 1))), none⟩, ⟨(some 8), (.move (.tmp 22)), none⟩]))))))) (.seq (.ops [⟨(some 23), (.move (.tmp 3)), none⟩, ⟨(some 2), (.assign (.tmp 23)), none⟩]) .ret)))), [(.move (.tmp 2))]⟩
theorem k35 : cfun Tryz.prog 35 = some c35 := by kernel_rfl
def c43 : XFun := ⟨32, (.seq (.ops [⟨(some 8), (.move (.tmp 1)), none⟩, ⟨(some 9), (.lenL (.tmp 8)), none⟩, ⟨(some 10), (.move (.const (.int .i64 0))), none⟩]) (.block 0 (.loop (.seq (.ops [⟨(some 11), (.bin .lss (.tmp 10) (.tmp 9)), none⟩]) (.seq (.cond (.tmp 11) .skip (.exit 0)) (.seq (.block 1 (.seq (.ops [⟨(some 12), (.iaddr 11 (.tmp 8) (.tmp 10)), none⟩, ⟨(some 13), (.loadN 11 (.tmp 12)), none⟩, ⟨(some 5), (.alloc [(.v (.int .u8 0)), (.v (.int .u8 0)), (.v (.string (strB []))), (.v (.string (strB []))), (.v (.string (strB []))), (.v (.int .i64 0)), (.v (.int .i64 0)), (.sl 0 [] (some true) .exact), (.sl 0 [] (some true) .exact), (.sl 0 [] (some true) .exact), (.sl 0 [] (some true) .exact)]), none⟩, ⟨none, (.store 11 (.tmp 5) (.tmp 13)), none⟩]) (.seq (.ops [⟨(some 15), (.loadN 11 (.tmp 5)), none⟩, ⟨(some 16), (.call 64 [(.tmp 15)]), none⟩, ⟨(some 14), (.move (.tmp 16)), none⟩, ⟨(some 17), (.extract (.tmp 14) 0), none⟩, ⟨(some 18), (.extract (.tmp 14) 1), none⟩, ⟨(some 6), (.alloc [(.v (.int .u8 0)), (.sl 0 [] (some true) .exact)]), none⟩, ⟨none, (.store 2 (.tmp 6) (.tmp 17)), none⟩, ⟨(some 7), (.assign (.tmp 18)), none⟩]) (.seq (.ops [⟨(some 19), (.move (.tmp 7)), none⟩, ⟨(some 20), (.bin .eql (.tmp 19) (.const (.int .i64 0))), none⟩]) (.cond (.tmp 20) (.draws (.take ⟨(some 21), (.move (.tmp 0)), none⟩ (.take ⟨(some 22), (.move (.tmp 0)), none⟩ (.take ⟨(some 23), (.nilCheck (.tmp 22)), none⟩ (.take ⟨(some 24), (.faddr 0 (.tmp 23)), none⟩ (.take ⟨(some 25), (.load1 (.tmp 24)), none⟩ (.take ⟨(some 26), (.loadN 2 (.tmp 6)), none⟩ (.only ⟨(some 27), (.buildSlice 2 1 [(.v (.int .u8 0)), (.sl 0 [] (some true) .exact)] [(0, (.tmp 26))]), none⟩ (.only ⟨(some 28), (.append 2 32 (.tmp 25) (.tmp 27)), none⟩ (.take ⟨(some 29), (.nilCheck (.tmp 21)), none⟩ (.take ⟨(some 30), (.faddr 0 (.tmp 29)), none⟩ (.last ⟨none, (.store 1 (.tmp 30) (.tmp 28)), none⟩)))))))))))) .skip))))) (.ops [⟨(some 31), (.bin .add (.tmp 10) (.const (.int .i64 1))), none⟩, ⟨(some 10), (.move (.tmp 31)), none⟩]))))))), []⟩
theorem k43 : cfun Tryz.prog 43 = some c43 := by kernel_rfl
def c28 : XFun := ⟨33, (.seq (.ops [⟨(some 2), (.alloc [(.v (.int .u8 0)), (.sl 0 [] (some true) .exact)]), none⟩, ⟨(some 3), (.assign (.const (.bool false))), none⟩]) (.seq (.seq (.ops [⟨(some 5), (.move (.tmp 0)), none⟩, ⟨(some 6), (.nilCheck (.tmp 5)), none⟩, ⟨(some 7), (.faddr 0 (.tmp 6)), none⟩, ⟨(some 8), (.load1 (.tmp 7)), none⟩, ⟨(some 9), (.lenL (.tmp 8)), none⟩, ⟨(some 10), (.bin .eql (.tmp 9) (.const (.int .i64 0))), none⟩]) (.cond (.tmp 10) (.seq (.ops [⟨(some 11), (.build [(.v (.int .u8 0)), (.sl 0 [] (some true) .exact)] []), none⟩, ⟨none, (.store 2 (.tmp 2) (.tmp 11)), none⟩, ⟨(some 3), (.assign (.const (.bool false))), none⟩]) .ret) .skip)) (.seq (.ops [⟨(some 12), (.move (.tmp 0)), none⟩, ⟨(some 13), (.nilCheck (.tmp 12)), none⟩, ⟨(some 14), (.faddr 0 (.tmp 13)), none⟩, ⟨(some 15), (.load1 (.tmp 14)), none⟩, ⟨(some 16), (.iaddr 2 (.tmp 15) (.const (.int .i64 0))), none⟩, ⟨(some 17), (.loadN 2 (.tmp 16)), none⟩, ⟨(some 4), (.alloc [(.v (.int .u8 0)), (.sl 0 [] (some true) .exact)]), none⟩, ⟨none, (.store 2 (.tmp 4) (.tmp 17)), none⟩]) (.seq (.ops [⟨(some 18), (.move (.tmp 0)), none⟩, ⟨(some 19), (.nilCheck (.tmp 18)), none⟩, ⟨(some 20), (.faddr 0 (.tmp 19)), none⟩, ⟨(some 21), (.load1 (.tmp 20)), none⟩, ⟨(some 22), (.build [(.v (.int .u8 0)), (.sl 0 [] (some true) .exact)] []), none⟩, ⟨(some 23), (.iaddr 2 (.tmp 21) (.const (.int .i64 0))), none⟩, ⟨none, (.store 2 (.tmp 23) (.tmp 22)), none⟩]) (.seq (.ops [⟨(some 24), (.move (.tmp 0)), none⟩, ⟨(some 25), (.move (.tmp 0)), none⟩, ⟨(some 26), (.nilCheck (.tmp 25)), none⟩, ⟨(some 27), (.faddr 0 (.tmp 26)), none⟩, ⟨(some 28), (.load1 (.tmp 27)), none⟩, ⟨(some 29), (.slice 2 (.tmp 28) (some (.const (.int .i64 1))) none none), none⟩, ⟨(some 30), (.nilCheck (.tmp 24)), none⟩, ⟨(some 31), (.faddr 0 (.tmp 30)), none⟩, ⟨none, (.store 1 (.tmp 31) (.tmp 29)), none⟩]) (.seq (.ops [⟨(some 32), (.loadN 2 (.tmp 4)), none⟩, ⟨none, (.store 2 (.tmp 2) (.tmp 32)), none⟩, ⟨(some 3), (.assign (.const (.bool true))), none⟩]) .ret)))))), [(.loadN 2 (.tmp 2)), (.move (.tmp 3))]⟩
theorem k28 : cfun Tryz.prog 28 = some c28 := by kernel_rfl
def c6 : XFun := ⟨73, (.seq (.ops [⟨(some 0), (.assign (.const (.bool false))), none⟩]) (.seq (.ops [⟨(some 10), (.call 19 []), none⟩, ⟨(some 11), (.call 18 [(.tmp 10), (.const (.slice none 0 0)), (.const (.int .i64 0))]), none⟩, ⟨(some 1), (.assign (.tmp 11)), none⟩]) (.seq (.seq (.ops [⟨(some 12), (.move (.tmp 1)), none⟩, ⟨(some 13), (.pnileq false (.tmp 12)), none⟩, ⟨(some 14), (.move (.tmp 13)), none⟩, ⟨(some 15), (.move (.tmp 1)), (some (14, false))⟩, ⟨(some 16), (.call 7 []), (some (14, false))⟩, ⟨(some 17), (.call 12 [(.tmp 15), (.tmp 16)]), (some (14, false))⟩, ⟨(some 18), (.bin .neq (.tmp 17) (.const (.int .i64 0))), (some (14, false))⟩, ⟨(some 19), (.pick (.tmp 14) (.const (.bool true)) (.tmp 18)), none⟩]) (.cond (.tmp 19) (.seq (.ops [⟨(some 0), (.assign (.const (.bool false))), none⟩]) .ret) .skip)) (.seq (.ops [⟨(some 20), (.move (.tmp 1)), none⟩, ⟨(some 21), (.call 10 [(.tmp 20)]), none⟩]) (.seq (.ops [⟨(some 23), (.move (.tmp 1)), none⟩, ⟨(some 24), (.call 11 [(.tmp 23)]), none⟩, ⟨(some 22), (.move (.tmp 24)), none⟩, ⟨(some 25), (.extract (.tmp 22) 0), none⟩, ⟨(some 26), (.extract (.tmp 22) 1), none⟩, ⟨(some 2), (.alloc [(.v (.int .u8 0)), (.sl 0 [] (some true) .exact)]), none⟩, ⟨none, (.store 2 (.tmp 2) (.tmp 25)), none⟩, ⟨(some 3), (.assign (.tmp 26)), none⟩]) (.seq (.ops [⟨(some 28), (.move (.tmp 1)), none⟩, ⟨(some 29), (.call 11 [(.tmp 28)]), none⟩, ⟨(some 27), (.move (.tmp 29)), none⟩, ⟨(some 30), (.extract (.tmp 27) 0), none⟩, ⟨(some 31), (.extract (.tmp 27) 1), none⟩, ⟨(some 4), (.alloc [(.v (.int .u8 0)), (.sl 0 [] (some true) .exact)]), none⟩, ⟨none, (.store 2 (.tmp 4) (.tmp 30)), none⟩, ⟨(some 5), (.assign (.tmp 31)), none⟩]) (.seq (.ops [⟨(some 33), (.move (.tmp 1)), none⟩, ⟨(some 34), (.call 11 [(.tmp 33)]), none⟩, ⟨(some 32), (.move (.tmp 34)), none⟩, ⟨(some 35), (.extract (.tmp 32) 0), none⟩, ⟨(some 36), (.extract (.tmp 32) 1), none⟩, ⟨(some 6), (.alloc [(.v (.int .u8 0)), (.sl 0 [] (some true) .exact)]), none⟩, ⟨none, (.store 2 (.tmp 6) (.tmp 35)), none⟩, ⟨(some 7), (.assign (.tmp 36)), none⟩]) (.seq (.ops [⟨(some 38), (.move (.tmp 1)), none⟩, ⟨(some 39), (.call 11 [(.tmp 38)]), none⟩, ⟨(some 37), (.move (.tmp 39)), none⟩, ⟨(some 40), (.extract (.tmp 37) 0), none⟩, ⟨(some 41), (.extract (.tmp 37) 1), none⟩, ⟨(some 8), (.alloc [(.v (.int .u8 0)), (.sl 0 [] (some true) .exact)]), none⟩, ⟨none, (.store 2 (.tmp 8) (.tmp 40)), none⟩, ⟨(some 9), (.assign (.tmp 41)), none⟩]) (.seq (.ops [⟨(some 42), (.move (.tmp 3)), none⟩, ⟨(some 43), (.move (.tmp 42)), none⟩, ⟨(some 44), (.move (.tmp 5)), (some (43, true))⟩, ⟨(some 45), (.pick (.tmp 43) (.tmp 44) (.const (.bool false))), none⟩, ⟨(some 46), (.move (.tmp 45)), none⟩, ⟨(some 47), (.move (.tmp 7)), (some (46, true))⟩, ⟨(some 48), (.pick (.tmp 46) (.tmp 47) (.const (.bool false))), none⟩, ⟨(some 49), (.move (.tmp 48)), none⟩, ⟨(some 50), (.move (.tmp 9)), (some (49, true))⟩, ⟨(some 51), (.un .not (.tmp 50)), (some (49, true))⟩, ⟨(some 52), (.pick (.tmp 49) (.tmp 51) (.const (.bool false))), none⟩, ⟨(some 53), (.move (.tmp 52)), none⟩, ⟨(some 54), (.faddr 0 (.tmp 2)), (some (53, true))⟩, ⟨(some 55), (.load1 (.tmp 54)), (some (53, true))⟩, ⟨(some 56), (.bin .eql (.tmp 55) (.const (.int .u8 82))), (some (53, true))⟩, ⟨(some 57), (.pick (.tmp 53) (.tmp 56) (.const (.bool false))), none⟩, ⟨(some 58), (.move (.tmp 57)), none⟩, ⟨(some 59), (.faddr 0 (.tmp 4)), (some (58, true))⟩, ⟨(some 60), (.load1 (.tmp 59)), (some (58, true))⟩, ⟨(some 61), (.bin .eql (.tmp 60) (.const (.int .u8 75))), (some (58, true))⟩, ⟨(some 62), (.pick (.tmp 58) (.tmp 61) (.const (.bool false))), none⟩, ⟨(some 63), (.move (.tmp 62)), none⟩, ⟨(some 64), (.faddr 0 (.tmp 6)), (some (63, true))⟩, ⟨(some 65), (.load1 (.tmp 64)), (some (63, true))⟩, ⟨(some 66), (.bin .eql (.tmp 65) (.const (.int .u8 90))), (some (63, true))⟩, ⟨(some 67), (.pick (.tmp 63) (.tmp 66) (.const (.bool false))), none⟩, ⟨(some 68), (.move (.tmp 67)), none⟩, ⟨(some 69), (.move (.tmp 1)), (some (68, true))⟩, ⟨(some 70), (.call 13 [(.tmp 69)]), (some (68, true))⟩, ⟨(some 71), (.un .not (.tmp 70)), (some (68, true))⟩, ⟨(some 72), (.pick (.tmp 68) (.tmp 71) (.const (.bool false))), none⟩, ⟨(some 0), (.assign (.tmp 72)), none⟩]) .ret))))))))), [(.move (.tmp 0))]⟩
theorem k6 : cfun Tryz.prog 6 = some c6 := by kernel_rfl
def c3 : XFun := ⟨32, (.seq (.ops [⟨(some 4), (.assign (.const (.bool false))), none⟩]) (.seq (.seq (.ops [⟨(some 6), (.move (.tmp 0)), none⟩, ⟨(some 7), (.call 5 [(.tmp 6), (.const (.int .i64 20))]), none⟩, ⟨(some 8), (.un .not (.tmp 7)), none⟩, ⟨(some 9), (.move (.tmp 8)), none⟩, ⟨(some 10), (.move (.tmp 1)), (some (9, false))⟩, ⟨(some 11), (.lenL (.tmp 10)), (some (9, false))⟩, ⟨(some 12), (.bin .gtr (.tmp 11) (.const (.int .i64 60))), (some (9, false))⟩, ⟨(some 13), (.pick (.tmp 9) (.const (.bool true)) (.tmp 12)), none⟩]) (.cond (.tmp 13) (.seq (.ops [⟨(some 14), (.call 6 []), none⟩, ⟨(some 4), (.assign (.tmp 14)), none⟩]) .ret) .skip)) (.seq (.ops [⟨(some 15), (.call 7 []), none⟩, ⟨(some 16), (.move (.tmp 0)), none⟩, ⟨(some 17), (.call 8 [(.tmp 16)]), none⟩, ⟨(some 18), (.append 1 1 (.tmp 15) (.tmp 17)), none⟩, ⟨(some 5), (.assign (.tmp 18)), none⟩]) (.seq (.seq (.ops [⟨(some 19), (.move (.tmp 5)), none⟩, ⟨(some 20), (.lenL (.tmp 19)), none⟩, ⟨(some 21), (.bin .gtr (.tmp 20) (.const (.int .i64 3000))), none⟩]) (.cond (.tmp 21) (.seq (.ops [⟨(some 22), (.call 6 []), none⟩, ⟨(some 4), (.assign (.tmp 22)), none⟩]) .ret) .skip)) (.seq (.ops [⟨(some 23), (.move (.tmp 5)), none⟩, ⟨(some 24), (.move (.tmp 1)), none⟩, ⟨(some 25), (.call 9 [(.tmp 23), (.tmp 24)]), none⟩, ⟨(some 26), (.move (.tmp 5)), none⟩, ⟨(some 27), (.call 9 [(.tmp 26), (.const (.slice none 0 0))]), none⟩, ⟨(some 28), (.bin .eql (.tmp 25) (.tmp 27)), none⟩, ⟨(some 29), (.move (.tmp 28)), none⟩, ⟨(some 30), (.call 6 []), (some (29, true))⟩, ⟨(some 31), (.pick (.tmp 29) (.tmp 30) (.const (.bool false))), none⟩, ⟨(some 4), (.assign (.tmp 31)), none⟩]) .ret))))), [(.move (.tmp 4))]⟩
theorem k3 : cfun Tryz.prog 3 = some c3 := by kernel_rfl
def c4 : XFun := ⟨68, (.seq (.ops [⟨(some 2), (.assign (.const (.bool false))), none⟩]) (.seq (.ops [⟨(some 3), (.assign (.const (.pointer none))), none⟩]) (.seq (.ops [⟨(some 4), (.alloc [(.sl 0 [] (some true) .exact), (.v (.pointer none)), (.v (.pointer none)), (.sl 0 [] (some true) .exact), (.v (.int .i64 0)), (.v (.bool false)), (.v (.bool false))]), none⟩]) (.seq (.ops [⟨(some 12), (.move (.tmp 3)), none⟩, ⟨(some 13), (.call 10 [(.tmp 12)]), none⟩, ⟨(some 11), (.move (.tmp 13)), none⟩, ⟨(some 14), (.extract (.tmp 11) 0), none⟩, ⟨(some 15), (.extract (.tmp 11) 1), none⟩, ⟨(some 5), (.alloc [(.v (.int .u8 0)), (.v (.int .u8 0)), (.v (.string (strB []))), (.v (.string (strB []))), (.v (.string (strB []))), (.sl 0 [] (some true) .exact), (.sl 0 [] (some true) .exact), (.sl 0 [] (some true) .exact), (.sl 0 [] (some true) .exact), (.v (.int .i64 0))]), none⟩, ⟨none, (.store 10 (.tmp 5) (.tmp 14)), none⟩, ⟨(some 6), (.assign (.tmp 15)), none⟩]) (.seq (.ops [⟨(some 17), (.call 11 [(.tmp 4)]), none⟩, ⟨(some 16), (.move (.tmp 17)), none⟩, ⟨(some 18), (.extract (.tmp 16) 0), none⟩, ⟨(some 19), (.extract (.tmp 16) 1), none⟩, ⟨(some 7), (.alloc [(.v (.int .u8 0)), (.sl 0 [] (some true) .exact)]), none⟩, ⟨none, (.store 2 (.tmp 7) (.tmp 18)), none⟩, ⟨(some 8), (.assign (.tmp 19)), none⟩]) (.seq (.ops [⟨(some 21), (.move (.tmp 3)), none⟩, ⟨(some 22), (.call 11 [(.tmp 21)]), none⟩, ⟨(some 20), (.move (.tmp 22)), none⟩, ⟨(some 23), (.extract (.tmp 20) 0), none⟩, ⟨(some 24), (.extract (.tmp 20) 1), none⟩, ⟨(some 9), (.alloc [(.v (.int .u8 0)), (.sl 0 [] (some true) .exact)]), none⟩, ⟨none, (.store 2 (.tmp 9) (.tmp 23)), none⟩, ⟨(some 10), (.assign (.tmp 24)), none⟩]) (.seq (.ops [⟨(some 25), (.move (.tmp 3)), none⟩, ⟨(some 26), (.move (.tmp 0)), none⟩, ⟨(some 27), (.call 12 [(.tmp 25), (.tmp 26)]), none⟩, ⟨(some 28), (.bin .eql (.tmp 27) (.const (.int .i64 2))), none⟩, ⟨(some 29), (.move (.tmp 28)), none⟩, ⟨(some 30), (.move (.tmp 0)), (some (29, true))⟩, ⟨(some 31), (.call 12 [(.tmp 4), (.tmp 30)]), (some (29, true))⟩, ⟨(some 32), (.bin .eql (.tmp 31) (.const (.int .i64 2))), (some (29, true))⟩, ⟨(some 33), (.pick (.tmp 29) (.tmp 32) (.const (.bool false))), none⟩, ⟨(some 34), (.move (.tmp 33)), none⟩, ⟨(some 35), (.move (.tmp 6)), (some (34, true))⟩, ⟨(some 36), (.un .not (.tmp 35)), (some (34, true))⟩, ⟨(some 37), (.pick (.tmp 34) (.tmp 36) (.const (.bool false))), none⟩, ⟨(some 38), (.move (.tmp 37)), none⟩, ⟨(some 39), (.faddr 0 (.tmp 5)), (some (38, true))⟩, ⟨(some 40), (.load1 (.tmp 39)), (some (38, true))⟩, ⟨(some 41), (.bin .eql (.tmp 40) (.const (.int .u8 0))), (some (38, true))⟩, ⟨(some 42), (.pick (.tmp 38) (.tmp 41) (.const (.bool false))), none⟩, ⟨(some 43), (.move (.tmp 42)), none⟩, ⟨(some 44), (.move (.tmp 8)), (some (43, true))⟩, ⟨(some 45), (.un .not (.tmp 44)), (some (43, true))⟩, ⟨(some 46), (.pick (.tmp 43) (.tmp 45) (.const (.bool false))), none⟩, ⟨(some 47), (.move (.tmp 46)), none⟩, ⟨(some 48), (.move (.tmp 10)), (some (47, true))⟩, ⟨(some 49), (.un .not (.tmp 48)), (some (47, true))⟩, ⟨(some 50), (.pick (.tmp 47) (.tmp 49) (.const (.bool false))), none⟩, ⟨(some 51), (.move (.tmp 50)), none⟩, ⟨(some 52), (.move (.tmp 3)), (some (51, true))⟩, ⟨(some 53), (.call 13 [(.tmp 52)]), (some (51, true))⟩, ⟨(some 54), (.un .not (.tmp 53)), (some (51, true))⟩, ⟨(some 55), (.pick (.tmp 51) (.tmp 54) (.const (.bool false))), none⟩, ⟨(some 56), (.move (.tmp 55)), none⟩, ⟨(some 57), (.call 13 [(.tmp 4)]), (some (56, true))⟩, ⟨(some 58), (.un .not (.tmp 57)), (some (56, true))⟩, ⟨(some 59), (.pick (.tmp 56) (.tmp 58) (.const (.bool false))), none⟩, ⟨(some 60), (.move (.tmp 59)), none⟩, ⟨(some 61), (.move (.tmp 3)), (some (60, true))⟩, ⟨(some 62), (.call 14 [(.tmp 61)]), (some (60, true))⟩, ⟨(some 63), (.pnileq false (.tmp 62)), (some (60, true))⟩, ⟨(some 64), (.pick (.tmp 60) (.tmp 63) (.const (.bool false))), none⟩, ⟨(some 65), (.move (.tmp 64)), none⟩, ⟨(some 66), (.call 6 []), (some (65, true))⟩, ⟨(some 67), (.pick (.tmp 65) (.tmp 66) (.const (.bool false))), none⟩, ⟨(some 2), (.assign (.tmp 67)), none⟩]) .ret))))))), [(.move (.tmp 2))]⟩
theorem k4 : cfun Tryz.prog 4 = some c4 := by kernel_rfl
def c7 : XFun := ⟨13, (.seq (.ops [⟨(some 0), (.assign (.const (.slice none 0 0))), none⟩]) (.seq (.ops [⟨(some 4), (.build [(.v (.string (strB []))), (.v (.string (strB [])))] [(0, (1, (.const (.string (strB [117, 115, 101, 114]))))), (1, (1, (.const (.string (strB [117])))))]), none⟩, ⟨(some 5), (.buildSlice 2 1 [(.v (.string (strB []))), (.v (.string (strB [])))] [(0, (.tmp 4))]), none⟩, ⟨(some 6), (.build [(.v (.int .i64 0)), (.v (.int .i64 0)), (.v (.int .i64 0)), (.sl 0 [] (some true) .exact)] [(0, (1, (.const (.int .i64 196608)))), (3, (1, (.tmp 5)))]), none⟩, ⟨(some 7), (.call 20 [(.tmp 6)]), none⟩, ⟨(some 3), (.move (.tmp 7)), none⟩, ⟨(some 8), (.extract (.tmp 3) 0), none⟩, ⟨(some 9), (.extract (.tmp 3) 1), none⟩, ⟨(some 1), (.assign (.tmp 8)), none⟩, ⟨(some 2), (.assign (.tmp 9)), none⟩]) (.seq (.ops [⟨(some 10), (.move (.tmp 1)), none⟩, ⟨(some 11), (.build [(.v (.int .u8 0)), (.sl 0 [] (some true) .exact)] [(1, (1, (.tmp 10)))]), none⟩, ⟨(some 12), (.call 21 [(.tmp 11)]), none⟩, ⟨(some 0), (.assign (.tmp 12)), none⟩]) .ret))), [(.move (.tmp 0))]⟩
theorem k7 : cfun Tryz.prog 7 = some c7 := by kernel_rfl
end Go.Proofs.YtlbgjlmokpkkeaaGreatDoor.Ax
namespace Go.Proofs.YtlbgjlmokpkkeaaGreatDoor.Ax
open Go.RowKit Go By YtlbgjlmokpkkeaaGreatDoor.Nm Dg
set_option linter.unusedSimpArgs false
set_option linter.unusedVariables false
set_option maxRecDepth 10000

/-! ### What it is -/
structure Srv where
  i : Nat
  f : Nat
  s : Nat
  o : Option (Nat × Nat)
  Q : List Ms
  F : Fw
  Z : Zs
  id : Int
  greeted : Bool
  over : Bool
/-- Where its messages lie. -/
def mqV : Option (Nat × Nat) → Nat → AV
  | none, _ => .sl 0 [] (some true) .exact
  | some p, n => .bsl p.1 p.2 2 n
theorem mqV_cells (o : Option (Nat × Nat)) (n : Nat) : (mqV o n).cells = some [mqV o n] := by cases o <;> rfl
theorem mqV_unown (o : Option (Nat × Nat)) (n : Nat) : (mqV o n).unown = mqV o n := by cases o <;> rfl
theorem mqV_id (o : Option (Nat × Nat)) (n : Nat) : (mqV o n).idOf = none := by cases o <;> rfl
theorem mqV_len (o : Option (Nat × Nat)) (n : Nat) (h : o = none → n = 0) : vLenL (mqV o n) = ⟨True, .v (.int .i64 (n : Int)), false, []⟩ := by
  cases o with
  | none => rw [h rfl]; rfl
  | some p => rfl
theorem mqV_lt {o : Option (Nat × Nat)} {n k : Nat} (h : ∀ p, o = some p → p.1 < k) : (mqV o n).lt k := by
  cases o with
  | none => trivial
  | some p => exact h p rfl
def Srv.top (S : Srv) : List AV := [mqV S.o S.Q.length, .box S.f 0, .box S.s 0, .sl 0 [] (some true) .exact, .v (.int .i64 S.id), .v (.bool S.greeted), .v (.bool S.over)]
theorem Srv.top_mk (S : Srv) : S.top = [mqV S.o S.Q.length, .box S.f 0, .box S.s 0, .sl 0 [] (some true) .exact, .v (.int .i64 S.id), .v (.bool S.greeted), .v (.bool S.over)] := rfl
def oVar : Option (Nat × Nat) → List Nat
  | none => []
  | some p => [p.1]
def Srv.vars (S : Srv) : List Nat := S.i :: S.f :: (oVar S.o ++ S.Z.vars S.s)
theorem Srv.vars_mem {S : Srv} {q : Nat} : q ∈ S.vars ↔ q = S.i ∨ q = S.f ∨ q ∈ oVar S.o ∨ q ∈ S.Z.vars S.s := by simp [Srv.vars]
/-- Where its list of messages lies. -/
structure MqAt (h : List (List AV)) (o : Option (Nat × Nat)) (Q : List Ms) : Prop where
  emp : o = none → Q = []
  row : ∀ p, o = some p → ∃ A : List AV, p.2 = A.length ∧ h[p.1]? = some (A ++ (enc msC Q).flatten) ∧ A ++ (enc msC Q).flatten ≠ [] ∧ ∀ c ∈ A, c.idOf = none
structure SvAt (h : List (List AV)) (S : Srv) : Prop where
  top : h[S.i]? = some S.top
  fr : h[S.f]? = some (S.F.cells S.f)
  mq : MqAt h S.o S.Q
  ses : SsG [] h S.s S.Z
  ne : S.i ≠ S.f
  one : ∀ q ∈ oVar S.o, q ≠ S.i ∧ q ≠ S.f ∧ q ∉ S.Z.vars S.s
  out : S.i ∉ S.Z.vars S.s ∧ S.f ∉ S.Z.vars S.s
  pln : S.Z.pln = false
theorem SsG.turn {h : List (List AV)} {s : Nat} {Z : Zs} (g : SsG [] h s Z) (hb : Z.pln = false) {h2 : List (List AV)} (same : ∀ q ∈ Z.vars s, h2[q]? = h[q]?) (hl : ltLL h2.length h2) : SsG [] h2 s Z := by
  have own : ∀ q ∈ Z.own s, h2[q]? = h[q]? := fun q hq => same q (Zs.vars_mem.2 (.inr (.inl hq)))
  refine ⟨(own s (by simp [Zs.own])).trans g.top, g.eng.move (own _ (by simp [Zs.own])) (own _ (by simp [Zs.own])), (own _ (by simp [Zs.own])).trans g.ents, g.por.move (same _ (Zs.vars_mem.2 (.inl rfl))) (fun q hq => same q (Zs.vars_mem.2 (.inr (.inr hq)))) hl, g.nd, g.sep, (fun t ht => by cases ht), fun hh => by rw [hb] at hh; cases hh⟩
section
variable {h : List (List AV)} {S : Srv}
theorem MqAt.o_lt {o : Option (Nat × Nat)} {Q : List Ms} (m : MqAt h o Q) : ∀ p, o = some p → p.1 < h.length := fun p hp => by
  obtain ⟨A, _, h2, _⟩ := m.row p hp
  exact (List.getElem?_eq_some_iff.1 h2).1
theorem MqAt.move {o : Option (Nat × Nat)} {Q : List Ms} (m : MqAt h o Q) {h2 : List (List AV)} (hs : ∀ q ∈ oVar o, h2[q]? = h[q]?) : MqAt h2 o Q := ⟨m.emp, fun p hp => by
  obtain ⟨A, h1, h3, h4⟩ := m.row p hp
  exact ⟨A, h1, (hs _ (by rw [hp]; exact List.mem_singleton.2 rfl)).trans h3, h4⟩⟩
theorem SvAt.hh (g : SvAt h S) : ltLL h.length h := g.ses.hh
theorem SvAt.i_lt (g : SvAt h S) : S.i < h.length := (List.getElem?_eq_some_iff.1 g.top).1
theorem SvAt.f_lt (g : SvAt h S) : S.f < h.length := (List.getElem?_eq_some_iff.1 g.fr).1
theorem SvAt.s_lt (g : SvAt h S) : S.s < h.length := g.ses.i_lt
theorem SvAt.vars_lt (g : SvAt h S) {q : Nat} (hq : q ∈ S.vars) : q < h.length := by
  rcases Srv.vars_mem.1 hq with rfl | rfl | hq | hq
  · exact g.i_lt
  · exact g.f_lt
  · cases ho : S.o with
    | none => rw [ho] at hq; cases hq
    | some p => rw [ho] at hq; rw [List.mem_singleton.1 hq]; exact g.mq.o_lt p ho
  · exact g.ses.vars_lt hq
theorem SvAt.move (g : SvAt h S) {h2 : List (List AV)} (hs : ∀ q ∈ S.vars, h2[q]? = h[q]?) (hl : ltLL h2.length h2) : SvAt h2 S :=
  ⟨(hs _ (Srv.vars_mem.2 (.inl rfl))).trans g.top, (hs _ (Srv.vars_mem.2 (.inr (.inl rfl)))).trans g.fr, g.mq.move fun q hq => hs q (Srv.vars_mem.2 (.inr (.inr (.inl hq)))), g.ses.turn g.pln (fun q hq => hs q (Srv.vars_mem.2 (.inr (.inr (.inr hq))))) hl, g.ne, g.one, g.out, g.pln⟩
theorem SvAt.app (g : SvAt h S) (xs : List (List AV)) (hx : ltLL (h.length + xs.length) xs) : SvAt (h ++ xs) S :=
  g.move (fun q hq => List.getElem?_append_left (g.vars_lt hq)) (by rw [ltLL_append, List.length_append]; exact ⟨ltLL_mono (Nat.le_add_right _ _) g.hh, hx⟩)
theorem Srv.top_lt (g : SvAt h S) (a b : Bool) : ltL h.length { S with greeted := a, over := b }.top := by
  have := mqV_lt (n := S.Q.length) g.mq.o_lt
  have h1 := g.f_lt
  have h2 := g.s_lt
  simp [Srv.top, this, h1, h2]
/-- Its own cells turn. -/
theorem SvAt.setTop (g : SvAt h S) (a b : Bool) : SvAt (h.set S.i { S with greeted := a, over := b }.top) { S with greeted := a, over := b } := by
  have hn : ∀ q, q ≠ S.i → (h.set S.i { S with greeted := a, over := b }.top)[q]? = h[q]? := fun q hq => List.getElem?_set_ne (Ne.symm hq)
  refine ⟨List.getElem?_set_self g.i_lt, (hn _ (Ne.symm g.ne)).trans g.fr, g.mq.move fun q hq => hn q (g.one q hq).1, g.ses.turn g.pln (fun q hq => hn q fun e => g.out.1 (by rw [← e]; exact hq)) ?_, g.ne, g.one, g.out, g.pln⟩
  rw [List.length_set]
  exact ltLL_set g.hh (Srv.top_lt g a b)
/-- Its framer turns. -/
theorem SvAt.setF (g : SvAt h S) (F' : Fw) : SvAt (h.set S.f (F'.cells S.f)) { S with F := F' } := by
  have hn : ∀ q, q ≠ S.f → (h.set S.f (F'.cells S.f))[q]? = h[q]? := fun q hq => List.getElem?_set_ne (Ne.symm hq)
  refine ⟨(hn _ g.ne).trans g.top, List.getElem?_set_self g.f_lt, g.mq.move fun q hq => hn q (g.one q hq).2.1, g.ses.turn g.pln (fun q hq => hn q fun e => g.out.2 (by rw [← e]; exact hq)) ?_, g.ne, g.one, g.out, g.pln⟩
  rw [List.length_set]
  exact ltLL_set g.hh (by simp [Fw.cells])
/-! ### What a call does to it -/
structure ViaV (h : List (List AV)) (S : Srv) (W : List Nat) (H : List (List AV)) (S' : Srv) : Prop where
  len : h.length ≤ H.length
  kept : ∀ q < h.length, q ∉ S.vars → H[q]? = h[q]?
  wr : ∀ q ∈ W, q < h.length → q ∈ S.vars
  vars : ∀ q ∈ S'.vars, q ∈ S.vars ∨ h.length ≤ q
theorem ViaV.refl (h : List (List AV)) (S : Srv) : ViaV h S [] h S := ⟨Nat.le_refl _, fun _ _ _ => rfl, (fun q hq => by cases hq), fun q hq => .inl hq⟩
theorem ViaV.step {W wr : List Nat} {H h2 : List (List AV)} {S' S2 : Srv} (v : ViaV h S W H S') (u : ViaV H S' wr h2 S2) : ViaV h S (wr ++ W) h2 S2 := by
  have back : ∀ q, q < h.length → q ∈ S'.vars → q ∈ S.vars := fun q hq hv => by
    rcases v.vars q hv with h1 | h1
    · exact h1
    · omega
  have h1 := v.len
  have h2' := u.len
  refine ⟨by omega, fun q hq hn => ?_, fun q hq hlt => ?_, fun q hq => ?_⟩
  · rw [u.kept q (by omega) fun hh => hn (back q hq hh)]; exact v.kept q hq hn
  · rcases List.mem_append.1 hq with hq | hq
    · exact back q hlt (u.wr q hq (by omega))
    · exact v.wr q hq hlt
  · rcases u.vars q hq with h3 | h3
    · exact v.vars q h3
    · exact .inr (by omega)
theorem ViaV.app {W : List Nat} {H : List (List AV)} {S' : Srv} (v : ViaV h S W H S') (xs : List (List AV)) : ViaV h S W (H ++ xs) S' := ⟨by have := v.len; simp; omega, fun q hq hn => by rw [List.getElem?_append_left (by have := v.len; omega)]; exact v.kept q hq hn, v.wr, v.vars⟩
theorem ViaV.set {q0 : Nat} (hq0 : q0 ∈ S.vars) (cs : List AV) {S' : Srv} (he : S'.vars = S.vars) : ViaV h S [q0] (h.set q0 cs) S' := ⟨by simp, fun q _ hn => List.getElem?_set_ne fun e => hn (by rw [← e]; exact hq0), (fun q hq _ => by rw [List.mem_singleton.1 hq]; exact hq0), fun q hq => .inl (by rw [← he]; exact hq)⟩
/-- What a call does to a server. -/
def DoesV (f : FuncId) (args : List AV) (h : List (List AV)) (S : Srv) (r : AV) (S' : Srv) : Prop :=
  ∃ h' wr, Contract Tryz.prog f args h r h' wr ∧ SvAt h' S' ∧ ViaV h S wr h' S'
theorem sv_i (S : Srv) : S.i ∈ S.vars := Srv.vars_mem.2 (.inl rfl)
theorem sv_f (S : Srv) : S.f ∈ S.vars := Srv.vars_mem.2 (.inr (.inl rfl))
/-! ### Calls that ask -/
theorem vmade_c (g : SvAt h S) : Contract Tryz.prog 23 [.box S.i 0] h (.v (.bool true)) h [] := by
  have e1 := g.top
  rw [Srv.top_mk] at e1
  refine contract_of k23 mixed (by simp [c23]) fun hh hargs => ?_
  simp [c23, e1, hh]
theorem vover_c (g : SvAt h S) : Contract Tryz.prog 13 [.box S.i 0] h (.v (.bool S.over)) h [] := by
  have e1 := g.top
  rw [Srv.top_mk] at e1
  refine contract_of k13 mixed (by simp [c13]) fun hh hargs => ?_
  simp [c13]
  refine xcall_self (by simp) (vmade_c g) ?_
  simp [e1, hh]
/-! ### Bytes go in -/
theorem vfeed_d (g : SvAt h S) (ho : S.over = false) (xs : List UInt8) (hm : 0 < S.F.most) (hx : xs.length ≤ 1000000) (hr : S.F.rest.length ≤ 1000000) (hrm : S.F.room ≤ 1000000) (hroom : xs.length + S.F.rest.length ≤ S.F.room) :
    DoesV 12 [.box S.i 0, .sl 1 (bytesE xs) none .no] h S (.v (.int .i64 0)) { S with F := { S.F with rest := S.F.rest ++ xs } } := by
  have e1 := g.top
  rw [Srv.top_mk] at e1
  have g2 := g.setF { S.F with rest := S.F.rest ++ xs }
  have hg2 := g2.hh
  refine ⟨_, [S.f], ?_, g2, ViaV.set (sv_f S) _ rfl⟩
  have kf := wfeed_c g.fr hm xs hx hr hrm hroom
  obtain ⟨H2, hH2⟩ : ∃ H2, H2 = h.set S.f ({ S.F with rest := S.F.rest ++ xs }.cells S.f) := ⟨_, rfl⟩
  have hl2 : H2.length = h.length := by rw [hH2, List.length_set]
  rw [← hH2] at kf hg2 ⊢
  have htk : H2.take h.length = H2 := List.take_of_length_le (by omega)
  rw [hl2] at hg2
  refine contract_of k12 mixed (by simp [c12]) fun hh hargs => ?_
  simp [c12]
  refine xcall_self (by simp) (vmade_c g) ?_
  simp [e1, ho]
  refine xcall_self (by simp) kf ?_
  simp [hg2, hl2, htk]
/-! ### Messages are taken -/
theorem mtake_none {i : Nat} {o : Option (Nat × Nat)} {l : List AV} (h1 : h[i]? = some (mqV o 0 :: l)) (ho : o = none → True) : Contract Tryz.prog 28 [.box i 0] h (.tup [.agg (msC ⟨0, []⟩), .v (.bool false)]) h [] := by
  have e := mqV_len o 0 fun _ => rfl
  have hi := (List.getElem?_eq_some_iff.1 h1).1
  have hid := mqV_id o 0
  have hun := mqV_unown o 0
  have g1 : ∀ xs, (h ++ xs)[i]? = some (mqV o 0 :: l) := fun xs => by rw [List.getElem?_append_left hi]; exact h1
  refine contract_of k28 mixed (by simp [c28]) fun hh hargs => ?_
  generalize mqV o 0 = q at *
  simp [-vLenL, c28, g1, h1, e, hid, hun, hh, leqH_take, msC_mk]
  done
theorem lay_mid {α : Type} : ∀ (l : List α) (A m B : List α), m.length = l.length → lay (A ++ (m ++ B)) A.length l = A ++ (l ++ B)
  | [], A, m, B, h => by
    have : m = [] := List.eq_nil_of_length_eq_zero h
    subst this; rfl
  | a :: l, A, [], B, h => by cases h
  | a :: l, A, x :: m, B, h => by
    show lay ((A ++ (x :: (m ++ B))).set A.length a) (A.length + 1) l = _
    have e : (A ++ (x :: (m ++ B))).set A.length a = (A ++ [a]) ++ (m ++ B) := by
      rw [List.set_append_right _ _ (Nat.le_refl _), Nat.sub_self]; simp
    have e2 : A.length + 1 = (A ++ [a]).length := by simp
    rw [e, e2, lay_mid l (A ++ [a]) m B (by simpa using h)]
    simp
/-- The oldest one. -/
theorem mtake_some {i b off n : Nat} {l : List AV} {m : Ms} {A B : List AV} (h1 : h[i]? = some (.bsl b off 2 (n + 1) :: l)) (hl : ltL h.length l) (hb : h[b]? = some (A ++ (msC m ++ B))) (hA : off = A.length) (hne : b ≠ i) :
    Contract Tryz.prog 28 [.box i 0] h (.tup [.agg (msC m), .v (.bool true)]) ((h.set b ((A ++ [.v (.int .u8 0), .sl 0 [] (some true) .exact]) ++ B)).set i (.bsl b (off + 2) 2 n :: l)) [i, b] := by
  have hi := (List.getElem?_eq_some_iff.1 h1).1
  have hbl := (List.getElem?_eq_some_iff.1 hb).1
  have g1 : ∀ xs, (h ++ xs)[i]? = some (.bsl b off 2 (n + 1) :: l) := fun xs => by rw [List.getElem?_append_left hi]; exact h1
  obtain ⟨cs, hcs⟩ : ∃ cs, cs = A ++ (msC m ++ B) := ⟨_, rfl⟩
  obtain ⟨cs2, hcs2⟩ : ∃ cs2, cs2 = (A ++ [.v (.int .u8 0), .sl 0 [] (some true) .exact]) ++ B := ⟨_, rfl⟩
  rw [← hcs] at hb
  rw [← hcs2]
  have g2 : ∀ xs, (h ++ xs)[b]? = some cs := fun xs => by rw [List.getElem?_append_left hbl]; exact hb
  have fit : off + 2 ≤ cs.length := by rw [hcs, hA]; simp [msC_mk]
  have rd : (cs.drop off).take 2 = msC m := by rw [hcs, hA, List.drop_left]; simp [msC_mk]
  have ly : lay cs off [.v (.int .u8 0), .sl 0 [] (some true) .exact] = cs2 := by
    rw [hcs, hcs2, hA, lay_mid [AV.v (.int .u8 0), .sl 0 [] (some true) .exact] A (msC m) B rfl]
    simp
  have e0 : ((n : Int) + 1 == 0) = false := by simp; omega
  have e1 : (0 : Int) < (n : Int) + 1 := by omega
  have e2 : ¬ (n : Int) + 1 < 1 := by omega
  have hln : cs2.length = cs.length := by rw [hcs, hcs2]; simp [msC_mk]
  refine contract_of k28 mixed (by simp [c28]) fun hh hargs => ?_
  have g3 : ∀ xs, (h ++ xs).set b cs2 = h.set b cs2 ++ xs := fun xs => List.set_append_left _ _ hbl
  have g4 : ∀ xs, (h.set b cs2 ++ xs)[i]? = some (.bsl b off 2 (n + 1) :: l) := fun xs => by rw [List.getElem?_append_left (by rw [List.length_set]; exact hi), List.getElem?_set_ne hne]; exact h1
  have g5 : ∀ xs x, (h.set b cs2 ++ xs).set i x = (h.set b cs2).set i x ++ xs := fun xs x => List.set_append_left _ _ (by rw [List.length_set]; exact hi)
  have g6 : ∀ x (xs : List (List AV)) (j : Nat), ((h.set b cs2).set i x ++ xs)[h.length + j]? = xs[j]? := fun x xs j => by
    rw [List.getElem?_append_right (by simp)]; simp
  have g7 : ∀ x (xs : List (List AV)), ((h.set b cs2).set i x ++ xs)[h.length]? = xs[0]? := fun x xs => by
    rw [List.getElem?_append_right (by simp)]; simp
  simp [c28, g1, h1, g2, e0, e1, e2, fit, rd, ly, g3, g4, g5, g6, g7]
  have hcl : ltL h.length cs := ltLL_get hh b cs hb
  have hcl2 : ltL h.length cs2 := by
    rw [hcs, ltL_append, ltL_append] at hcl
    rw [hcs2, ltL_append, ltL_append]
    exact ⟨⟨hcl.1, by simp⟩, hcl.2.2⟩
  refine ⟨by omega, ltLL_set (ltLL_set hh hcl2) ?_⟩
  simp [hbl, hl]
theorem vtake_none (g : SvAt h S) (hQ : S.Q = []) : Contract Tryz.prog 11 [.box S.i 0] h (.tup [.agg (msC ⟨0, []⟩), .v (.bool false)]) h [] := by
  have e1 := g.top
  rw [Srv.top_mk, hQ] at e1
  have hzl : ltLL (h.length + 1) [[AV.v (.int .u8 0), .sl 0 [] (some true) .exact]] := by simp
  have g2 := g.app [[.v (.int .u8 0), .sl 0 [] (some true) .exact]] hzl
  have e2 : (h ++ [[AV.v (.int .u8 0), .sl 0 [] (some true) .exact]])[S.i]? = some [mqV S.o 0, .box S.f 0, .box S.s 0, .sl 0 [] (some true) .exact, .v (.int .i64 S.id), .v (.bool S.greeted), .v (.bool S.over)] := by rw [List.getElem?_append_left g.i_lt]; exact e1
  have kt := mtake_none (h := h ++ [[AV.v (.int .u8 0), .sl 0 [] (some true) .exact]]) e2 fun _ => trivial
  refine contract_of k11 mixed (by simp [c11]) fun hh hargs => ?_
  simp [c11]
  refine xcall_self (by simp) (vmade_c g2) ?_
  simp
  refine xcall_self (by simp) kt ?_
  simp [hh, leqH_take, msC_mk]
  done
theorem vtake_some (g : SvAt h S) {m : Ms} {r : List Ms} (hQ : S.Q = m :: r) : ∃ o, DoesV 11 [.box S.i 0] h S (.tup [.agg (msC m), .v (.bool true)]) { S with Q := r, o := o } := by
  obtain ⟨p, hp⟩ : ∃ p, S.o = some p := by
    cases ho : S.o with
    | none => have := g.mq.emp ho; rw [hQ] at this; cases this
    | some p => exact ⟨p, rfl⟩
  obtain ⟨A, hA, hb, hne, hid⟩ := g.mq.row p hp
  have e1 := g.top
  rw [Srv.top_mk, hp, hQ] at e1
  rw [hQ] at hb
  have hb : h[p.1]? = some (A ++ (msC m ++ (enc msC r).flatten)) := hb
  obtain ⟨n1, n2, n3⟩ := g.one p.1 (by rw [hp]; exact List.mem_singleton.2 rfl)
  have hpl := g.mq.o_lt p hp
  have hfl := g.f_lt
  have hsl := g.s_lt
  have hil := g.i_lt
  obtain ⟨z, hz⟩ : ∃ z, z = [AV.v (.int .u8 0), .sl 0 [] (some true) .exact] := ⟨_, rfl⟩
  have hzl : ltLL (h.length + 1) [z] := by rw [hz]; simp
  have g2 := g.app [z] hzl
  obtain ⟨tl, htl⟩ : ∃ tl, tl = [AV.box S.f 0, .box S.s 0, .sl 0 [] (some true) .exact, .v (.int .i64 S.id), .v (.bool S.greeted), .v (.bool S.over)] := ⟨_, rfl⟩
  have htll : ∀ n, h.length ≤ n → ltL n tl := fun n hn => by rw [htl]; simp; omega
  have e2 : (h ++ [z])[S.i]? = some (.bsl p.1 p.2 2 (r.length + 1) :: tl) := by rw [List.getElem?_append_left hil, htl]; exact e1
  have kt := mtake_some (h := h ++ [z]) e2 (htll _ (by simp)) ((List.getElem?_append_left hpl).trans hb) hA n1
  obtain ⟨c2, hc2⟩ : ∃ c2, c2 = (A ++ [AV.v (.int .u8 0), .sl 0 [] (some true) .exact]) ++ (enc msC r).flatten := ⟨_, rfl⟩
  rw [← hc2, List.set_append_left _ _ hpl, List.set_append_left _ _ (by rw [List.length_set]; exact hil)] at kt
  obtain ⟨H2, hH2⟩ : ∃ H2, H2 = (h.set p.1 c2).set S.i (.bsl p.1 (p.2 + 2) 2 r.length :: tl) := ⟨_, rfl⟩
  rw [← hH2] at kt
  have hH2l : H2.length = h.length := by rw [hH2]; simp
  have a2 : ∀ q, q ≠ p.1 → q ≠ S.i → H2[q]? = h[q]? := fun q h1 h2 => by rw [hH2, List.getElem?_set_ne (Ne.symm h2), List.getElem?_set_ne (Ne.symm h1)]
  have hcl : ltL h.length (A ++ (msC m ++ (enc msC r).flatten)) := ltLL_get g.hh _ _ hb
  have hcl2 : ltL h.length c2 := by
    rw [ltL_append, ltL_append] at hcl
    rw [hc2, ltL_append, ltL_append]
    exact ⟨⟨hcl.1, by simp⟩, hcl.2.2⟩
  have hlt2 : ltLL H2.length H2 := by
    rw [hH2l, hH2]
    refine ltLL_set (ltLL_set g.hh hcl2) ?_
    have := htll h.length (Nat.le_refl _)
    simp [this, hpl]
  have top2 : H2[S.i]? = some (.bsl p.1 (p.2 + 2) 2 r.length :: tl) := by rw [hH2, List.getElem?_set_self (by simp; omega)]
  have row2 : H2[p.1]? = some c2 := by rw [hH2, List.getElem?_set_ne (Ne.symm n1), List.getElem?_set_self (by omega)]
  have hses : ∀ q ∈ S.Z.vars S.s, q ≠ p.1 ∧ q ≠ S.i := fun q hq => ⟨fun e => n3 (by rw [← e]; exact hq), fun e => g.out.1 (by rw [← e]; exact hq)⟩
  refine ⟨some (p.1, p.2 + 2), H2, [S.i, p.1], ?_, ⟨by rw [htl] at top2; exact top2, ?_, ⟨(fun e => by cases e), fun q hq => ?_⟩, g.ses.turn g.pln (fun q hq => a2 q (hses q hq).1 (hses q hq).2) hlt2, g.ne, fun q hq => ?_, g.out, g.pln⟩, ⟨by omega, fun q hq hn => ?_, fun q hq _ => ?_, fun q hq => .inl ?_⟩⟩
  · have at_ : ∀ xs : List (List AV), (H2 ++ xs)[h.length]? = xs[0]? := fun xs => by rw [List.getElem?_append_right (by omega), hH2l, Nat.sub_self]
    have set_ : ∀ (x : List AV) (xs : List (List AV)) (y : List AV), (H2 ++ x :: xs).set h.length y = H2 ++ y :: xs := fun x xs y => by rw [List.set_append_right _ _ (by omega), hH2l, Nat.sub_self]; rfl
    have tk : ∀ xs : List (List AV), (H2 ++ xs).take h.length = H2 := fun xs => by rw [← hH2l, List.take_left]
    rw [hH2l] at hlt2
    refine contract_of k11 mixed (by simp [c11]) fun hh hargs => ?_
    simp [c11]
    have e3 : [AV.v (.int .u8 0), .sl 0 [] (some true) .exact] = z := hz.symm
    rw [e3]
    refine xcall_self (by simp) (vmade_c g2) ?_
    simp
    refine xcall_self (by simp) kt ?_
    simp [at_, set_, tk, hz, hlt2, msC_mk]
    exact ⟨by omega, by rw [hH2l]; exact hlt2⟩
  · rw [a2 _ (Ne.symm n2) (Ne.symm g.ne)]; exact g.fr
  · injection hq with hq
    subst hq
    refine ⟨A ++ [.v (.int .u8 0), .sl 0 [] (some true) .exact], by simp [hA], by rw [row2, hc2], by simp, fun c hc => ?_⟩
    rcases List.mem_append.1 hc with hc | hc
    · exact hid c hc
    · simp at hc
      rcases hc with rfl | rfl <;> rfl
  · have hq : q ∈ oVar (some (p.1, p.2 + 2)) := hq
    rw [List.mem_singleton.1 hq]
    exact ⟨n1, n2, n3⟩
  · rw [a2 q (fun e => hn (by rw [e]; exact Srv.vars_mem.2 (.inr (.inr (.inl (by rw [hp]; exact List.mem_singleton.2 rfl)))))) (fun e => hn (by rw [e]; exact sv_i S))]
  · simp at hq
    rcases hq with rfl | rfl
    · exact sv_i S
    · exact Srv.vars_mem.2 (.inr (.inr (.inl (by rw [hp]; exact List.mem_singleton.2 rfl))))
  · rcases Srv.vars_mem.1 hq with h1 | h1 | h1 | h1
    · exact Srv.vars_mem.2 (.inl h1)
    · exact Srv.vars_mem.2 (.inr (.inl h1))
    · have h1 : q ∈ oVar (some (p.1, p.2 + 2)) := h1
      rw [List.mem_singleton.1 h1]
      exact Srv.vars_mem.2 (.inr (.inr (.inl (by rw [hp]; exact List.mem_singleton.2 rfl))))
    · exact Srv.vars_mem.2 (.inr (.inr (.inr h1)))
end
end Go.Proofs.YtlbgjlmokpkkeaaGreatDoor.Ax
