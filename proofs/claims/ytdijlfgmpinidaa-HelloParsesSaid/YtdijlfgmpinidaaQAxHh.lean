/- Hello over values without memory: pairs there and back. -/
import Derived.Test.YtdijlfgmpinidaaQAxX
import Derived.Test.YtdijlfgmpinidaaRows
import Derived.Test.YtdijlfgmpinidaaQAxWo
import Derived.Test.YtdijlfgmpinidaaQAxFq
import Derived.Test.YtdijlfgmpinidaaQAxTz
/- The texts of functions over values without memory, as the kernel reckons them out of the program. -/
namespace Go.Proofs.Ytdijlfgmpinidaa.Ax
open Go.RowKit Go By

def c31 : XFun := ⟨9, (.seq (.ops [⟨(some 4), (.assign (.const (.bool false))), none⟩]) (.seq (.ops [⟨(some 5), (.move (.tmp 0)), none⟩, ⟨(some 6), (.move (.tmp 1)), none⟩, ⟨(some 7), (.call 20 [(.tmp 5), (.tmp 6)]), none⟩, ⟨(some 8), (.bin .geq (.tmp 7) (.const (.int .i64 0))), none⟩, ⟨(some 4), (.assign (.tmp 8)), none⟩]) .ret)), [(.move (.tmp 4))]⟩
theorem k31 : cfun Try.prog 31 = some c31 := by kernel_rfl
def c20 : XFun := ⟨19, (.seq (.ops [⟨(some 4), (.assign (.const (.int .i64 0))), none⟩]) (.seq (.seq (.ops [⟨(some 6), (.move (.tmp 0)), none⟩, ⟨(some 7), (.lenL (.tmp 6)), none⟩, ⟨(some 8), (.move (.const (.int .i64 0))), none⟩]) (.block 0 (.loop (.seq (.ops [⟨(some 9), (.bin .lss (.tmp 8) (.tmp 7)), none⟩]) (.seq (.cond (.tmp 9) .skip (.exit 0)) (.seq (.block 1 (.seq (.ops [⟨(some 10), (.move (.tmp 8)), none⟩, ⟨(some 5), (.assign (.tmp 10)), none⟩]) (.seq (.ops [⟨(some 11), (.move (.tmp 1)), none⟩, ⟨(some 12), (.move (.tmp 0)), none⟩, ⟨(some 13), (.move (.tmp 5)), none⟩, ⟨(some 14), (.iaddr 2 (.tmp 12) (.tmp 13)), none⟩, ⟨(some 15), (.loadN 2 (.tmp 14)), none⟩, ⟨(some 16), (.callv (.tmp 11) [(.tmp 15)]), none⟩]) (.cond (.tmp 16) (.seq (.ops [⟨(some 17), (.move (.tmp 5)), none⟩, ⟨(some 4), (.assign (.tmp 17)), none⟩]) .ret) .skip)))) (.ops [⟨(some 18), (.bin .add (.tmp 8) (.const (.int .i64 1))), none⟩, ⟨(some 8), (.move (.tmp 18)), none⟩]))))))) (.seq (.ops [⟨(some 4), (.assign (.const (.int .i64 (-1)))), none⟩]) .ret))), [(.move (.tmp 4))]⟩
theorem k20 : cfun Try.prog 20 = some c20 := by kernel_rfl
def c3 : XFun := ⟨39, (.seq (.ops [⟨(some 2), (.assign (.const (.bool false))), none⟩]) (.seq (.seq (.ops [⟨(some 7), (.move (.tmp 0)), none⟩, ⟨(some 8), (.lenL (.tmp 7)), none⟩, ⟨(some 9), (.bin .gtr (.tmp 8) (.const (.int .i64 2000))), none⟩]) (.cond (.tmp 9) (.seq (.ops [⟨(some 10), (.call 4 []), none⟩, ⟨(some 2), (.assign (.tmp 10)), none⟩]) .ret) .skip)) (.seq (.ops [⟨(some 12), (.move (.tmp 0)), none⟩, ⟨(some 13), (.call 5 [(.tmp 12)]), none⟩, ⟨(some 11), (.move (.tmp 13)), none⟩, ⟨(some 14), (.extract (.tmp 11) 0), none⟩, ⟨(some 15), (.extract (.tmp 11) 1), none⟩, ⟨(some 3), (.alloc [(.v (.int .i64 0)), (.v (.int .i64 0)), (.v (.int .i64 0)), (.sl 0 [] (some true) .exact)]), none⟩, ⟨none, (.store 4 (.tmp 3) (.tmp 14)), none⟩, ⟨(some 4), (.assign (.tmp 15)), none⟩]) (.seq (.ops [⟨(some 17), (.move (.tmp 0)), none⟩, ⟨(some 18), (.call 6 [(.tmp 17)]), none⟩, ⟨(some 16), (.move (.tmp 18)), none⟩, ⟨(some 19), (.extract (.tmp 16) 0), none⟩, ⟨(some 20), (.extract (.tmp 16) 1), none⟩, ⟨(some 5), (.alloc [(.v (.int .i64 0)), (.v (.int .i64 0)), (.v (.int .i64 0)), (.sl 0 [] (some true) .exact)]), none⟩, ⟨none, (.store 4 (.tmp 5) (.tmp 19)), none⟩, ⟨(some 6), (.assign (.tmp 20)), none⟩]) (.seq (.draws (.take ⟨(some 21), (.move (.tmp 4)), none⟩ (.take ⟨(some 22), (.move (.tmp 6)), none⟩ (.take ⟨(some 23), (.bin .eql (.tmp 21) (.tmp 22)), none⟩ (.take ⟨(some 24), (.move (.tmp 23)), none⟩ (.take ⟨(some 25), (.loadN 4 (.tmp 3)), (some (24, true))⟩ (.take ⟨(some 26), (.loadN 4 (.tmp 5)), (some (24, true))⟩ (.only ⟨(some 27), (.call 7 [(.tmp 25), (.tmp 26)]), (some (24, true))⟩ (.take ⟨(some 28), (.pick (.tmp 24) (.tmp 27) (.const (.bool false))), none⟩ (.take ⟨(some 29), (.move (.tmp 28)), none⟩ (.take ⟨(some 30), (.loadN 4 (.tmp 3)), (some (29, true))⟩ (.take ⟨(some 32), (.loadN 4 (.tmp 5)), (some (29, true))⟩ (.only ⟨(some 31), (.call 8 [(.tmp 30)]), (some (29, true))⟩ (.only ⟨(some 33), (.call 9 [(.tmp 32)]), (some (29, true))⟩ (.take ⟨(some 34), (.bin .eql (.tmp 31) (.tmp 33)), (some (29, true))⟩ (.take ⟨(some 35), (.pick (.tmp 29) (.tmp 34) (.const (.bool false))), none⟩ (.take ⟨(some 36), (.move (.tmp 35)), none⟩ (.only ⟨(some 37), (.call 4 []), (some (36, true))⟩ (.take ⟨(some 38), (.pick (.tmp 36) (.tmp 37) (.const (.bool false))), none⟩ (.take ⟨(some 2), (.assign (.tmp 38)), none⟩ .done)))))))))))))))))))) .ret))))), [(.move (.tmp 2))]⟩
theorem k3 : cfun Try.prog 3 = some c3 := by kernel_rfl
def c4 : XFun := ⟨33, (.seq (.ops [⟨(some 0), (.assign (.const (.bool false))), none⟩]) (.seq (.ops [⟨(some 6), (.build [(.v (.string (strB []))), (.v (.string (strB [])))] [(0, (1, (.const (.string (strB [117, 115, 101, 114]))))), (1, (1, (.const (.string (strB [97])))))]), none⟩, ⟨(some 7), (.buildSlice 2 1 [(.v (.string (strB []))), (.v (.string (strB [])))] [(0, (.tmp 6))]), none⟩, ⟨(some 8), (.build [(.v (.int .i64 0)), (.v (.int .i64 0)), (.v (.int .i64 0)), (.sl 0 [] (some true) .exact)] [(0, (1, (.const (.int .i64 196608)))), (3, (1, (.tmp 7)))]), none⟩, ⟨(some 9), (.call 10 [(.tmp 8)]), none⟩, ⟨(some 5), (.move (.tmp 9)), none⟩, ⟨(some 10), (.extract (.tmp 5) 0), none⟩, ⟨(some 11), (.extract (.tmp 5) 1), none⟩, ⟨(some 1), (.assign (.tmp 10)), none⟩, ⟨(some 2), (.assign (.tmp 11)), none⟩]) (.seq (.ops [⟨(some 13), (.move (.tmp 1)), none⟩, ⟨(some 14), (.call 5 [(.tmp 13)]), none⟩, ⟨(some 12), (.move (.tmp 14)), none⟩, ⟨(some 15), (.extract (.tmp 12) 0), none⟩, ⟨(some 16), (.extract (.tmp 12) 1), none⟩, ⟨(some 3), (.alloc [(.v (.int .i64 0)), (.v (.int .i64 0)), (.v (.int .i64 0)), (.sl 0 [] (some true) .exact)]), none⟩, ⟨none, (.store 4 (.tmp 3) (.tmp 15)), none⟩, ⟨(some 4), (.assign (.tmp 16)), none⟩]) (.seq (.ops [⟨(some 17), (.move (.tmp 2)), none⟩, ⟨(some 18), (.bin .eql (.tmp 17) (.const (.int .i64 0))), none⟩, ⟨(some 19), (.move (.tmp 18)), none⟩, ⟨(some 20), (.move (.tmp 4)), (some (19, true))⟩, ⟨(some 21), (.bin .eql (.tmp 20) (.const (.int .i64 0))), (some (19, true))⟩, ⟨(some 22), (.pick (.tmp 19) (.tmp 21) (.const (.bool false))), none⟩, ⟨(some 23), (.move (.tmp 22)), none⟩, ⟨(some 24), (.move (.tmp 1)), (some (23, true))⟩, ⟨(some 25), (.lenL (.tmp 24)), (some (23, true))⟩, ⟨(some 26), (.bin .eql (.tmp 25) (.const (.int .i64 12))), (some (23, true))⟩, ⟨(some 27), (.pick (.tmp 23) (.tmp 26) (.const (.bool false))), none⟩, ⟨(some 28), (.move (.tmp 27)), none⟩, ⟨(some 29), (.loadN 4 (.tmp 3)), (some (28, true))⟩, ⟨(some 30), (.call 8 [(.tmp 29)]), (some (28, true))⟩, ⟨(some 31), (.bin .eql (.tmp 30) (.const (.string (strB [97])))), (some (28, true))⟩, ⟨(some 32), (.pick (.tmp 28) (.tmp 31) (.const (.bool false))), none⟩, ⟨(some 0), (.assign (.tmp 32)), none⟩]) .ret)))), [(.move (.tmp 0))]⟩
theorem k4 : cfun Try.prog 4 = some c4 := by kernel_rfl
def c5 : XFun := ⟨43, (.seq (.ops [⟨(some 2), (.alloc [(.v (.int .i64 0)), (.v (.int .i64 0)), (.v (.int .i64 0)), (.sl 0 [] (some true) .exact)]), none⟩, ⟨(some 3), (.assign (.const (.int .i64 0))), none⟩]) (.seq (.ops [⟨(some 6), (.move (.tmp 0)), none⟩, ⟨(some 7), (.call 11 [(.tmp 6)]), none⟩, ⟨(some 8), (.build [(.v (.pointer none))] [(0, (1, (.tmp 7)))]), none⟩, ⟨(some 4), (.alloc [(.v (.pointer none))]), none⟩, ⟨none, (.store 1 (.tmp 4) (.tmp 8)), none⟩]) (.seq (.ops [⟨(some 9), (.faddr 0 (.tmp 4)), none⟩, ⟨(some 10), (.load1 (.tmp 9)), none⟩, ⟨(some 11), (.call 12 [(.tmp 10), (.const (.int .i64 4))]), none⟩, ⟨(some 12), (.build [(.v (.int .i64 0)), (.v (.int .i64 0)), (.v (.int .i64 0)), (.sl 0 [] (some true) .exact)] [(0, (1, (.tmp 11)))]), none⟩, ⟨(some 5), (.alloc [(.v (.int .i64 0)), (.v (.int .i64 0)), (.v (.int .i64 0)), (.sl 0 [] (some true) .exact)]), none⟩, ⟨none, (.store 4 (.tmp 5) (.tmp 12)), none⟩]) (.seq (.seq (.ops [⟨(some 13), (.faddr 0 (.tmp 4)), none⟩, ⟨(some 14), (.load1 (.tmp 13)), none⟩, ⟨(some 15), (.call 13 [(.tmp 14)]), none⟩]) (.cond (.tmp 15) (.seq (.ops [⟨(some 16), (.build [(.v (.int .i64 0)), (.v (.int .i64 0)), (.v (.int .i64 0)), (.sl 0 [] (some true) .exact)] []), none⟩, ⟨none, (.store 4 (.tmp 2) (.tmp 16)), none⟩, ⟨(some 3), (.assign (.const (.int .i64 4))), none⟩]) .ret) .skip)) (.seq (.seq (.ops [⟨(some 17), (.faddr 0 (.tmp 5)), none⟩, ⟨(some 18), (.load1 (.tmp 17)), none⟩]) (.block 0 (.seq (.ops [⟨(some 21), (.bin .eql (.tmp 18) (.const (.int .i64 196608))), none⟩, ⟨(some 20), (.assign (.tmp 21)), none⟩]) (.cond (.tmp 20) (.ops [⟨(some 22), (.loadN 1 (.tmp 4)), none⟩, ⟨(some 23), (.call 14 [(.tmp 22)]), none⟩, ⟨(some 24), (.faddr 3 (.tmp 5)), none⟩, ⟨none, (.store 1 (.tmp 24) (.tmp 23)), none⟩]) (.seq (.ops [⟨(some 26), (.bin .eql (.tmp 18) (.const (.int .i64 80877102))), none⟩, ⟨(some 25), (.assign (.tmp 26)), none⟩]) (.cond (.tmp 25) (.seq (.ops [⟨(some 27), (.faddr 0 (.tmp 4)), none⟩, ⟨(some 28), (.load1 (.tmp 27)), none⟩, ⟨(some 29), (.call 12 [(.tmp 28), (.const (.int .i64 4))]), none⟩, ⟨(some 30), (.faddr 1 (.tmp 5)), none⟩, ⟨none, (.store 1 (.tmp 30) (.tmp 29)), none⟩]) (.ops [⟨(some 31), (.faddr 0 (.tmp 4)), none⟩, ⟨(some 32), (.load1 (.tmp 31)), none⟩, ⟨(some 33), (.call 12 [(.tmp 32), (.const (.int .i64 4))]), none⟩, ⟨(some 34), (.faddr 2 (.tmp 5)), none⟩, ⟨none, (.store 1 (.tmp 34) (.tmp 33)), none⟩])) (.seq (.ops [⟨(some 36), (.bin .eql (.tmp 18) (.const (.int .i64 80877103))), none⟩, ⟨(some 35), (.assign (.tmp 36)), none⟩]) (.cond (.tmp 35) .skip (.seq (.ops [⟨(some 19), (.build [(.v (.int .i64 0)), (.v (.int .i64 0)), (.v (.int .i64 0)), (.sl 0 [] (some true) .exact)] []), none⟩, ⟨none, (.store 4 (.tmp 2) (.tmp 19)), none⟩, ⟨(some 3), (.assign (.const (.int .i64 9))), none⟩]) .ret))))))))) (.seq (.seq (.ops [⟨(some 37), (.faddr 0 (.tmp 4)), none⟩, ⟨(some 38), (.load1 (.tmp 37)), none⟩, ⟨(some 39), (.call 15 [(.tmp 38)]), none⟩, ⟨(some 40), (.un .not (.tmp 39)), none⟩]) (.cond (.tmp 40) (.seq (.ops [⟨(some 41), (.build [(.v (.int .i64 0)), (.v (.int .i64 0)), (.v (.int .i64 0)), (.sl 0 [] (some true) .exact)] []), none⟩, ⟨none, (.store 4 (.tmp 2) (.tmp 41)), none⟩, ⟨(some 3), (.assign (.const (.int .i64 4))), none⟩]) .ret) .skip)) (.seq (.ops [⟨(some 42), (.loadN 4 (.tmp 5)), none⟩, ⟨none, (.store 4 (.tmp 2) (.tmp 42)), none⟩, ⟨(some 3), (.assign (.const (.int .i64 0))), none⟩]) .ret))))))), [(.loadN 4 (.tmp 2)), (.move (.tmp 3))]⟩
theorem k5 : cfun Try.prog 5 = some c5 := by kernel_rfl
def c6 : XFun := ⟨45, (.seq (.ops [⟨(some 2), (.alloc [(.v (.int .i64 0)), (.v (.int .i64 0)), (.v (.int .i64 0)), (.sl 0 [] (some true) .exact)]), none⟩, ⟨(some 3), (.assign (.const (.int .i64 0))), none⟩]) (.seq (.seq (.ops [⟨(some 7), (.move (.tmp 0)), none⟩, ⟨(some 8), (.lenL (.tmp 7)), none⟩, ⟨(some 9), (.bin .lss (.tmp 8) (.const (.int .i64 4))), none⟩]) (.cond (.tmp 9) (.seq (.ops [⟨(some 10), (.build [(.v (.int .i64 0)), (.v (.int .i64 0)), (.v (.int .i64 0)), (.sl 0 [] (some true) .exact)] []), none⟩, ⟨none, (.store 4 (.tmp 2) (.tmp 10)), none⟩, ⟨(some 3), (.assign (.const (.int .i64 4))), none⟩]) .ret) .skip)) (.seq (.ops [⟨(some 11), (.move (.tmp 0)), none⟩, ⟨(some 12), (.call 16 [(.tmp 11)]), none⟩, ⟨(some 4), (.assign (.tmp 12)), none⟩]) (.seq (.ops [⟨(some 13), (.move (.tmp 4)), none⟩, ⟨(some 14), (.call 17 [(.tmp 13), (.const (.int .i64 4))]), none⟩, ⟨(some 15), (.build [(.v (.int .i64 0)), (.v (.int .i64 0)), (.v (.int .i64 0)), (.sl 0 [] (some true) .exact)] [(0, (1, (.tmp 14)))]), none⟩, ⟨(some 5), (.alloc [(.v (.int .i64 0)), (.v (.int .i64 0)), (.v (.int .i64 0)), (.sl 0 [] (some true) .exact)]), none⟩, ⟨none, (.store 4 (.tmp 5) (.tmp 15)), none⟩]) (.seq (.ops [⟨(some 6), (.assign (.const (.bool false))), none⟩]) (.seq (.seq (.ops [⟨(some 16), (.faddr 0 (.tmp 5)), none⟩, ⟨(some 17), (.load1 (.tmp 16)), none⟩]) (.block 0 (.seq (.ops [⟨(some 20), (.bin .eql (.tmp 17) (.const (.int .i64 196608))), none⟩, ⟨(some 19), (.assign (.tmp 20)), none⟩]) (.cond (.tmp 19) (.ops [⟨(some 22), (.move (.tmp 4)), none⟩, ⟨(some 23), (.call 18 [(.tmp 22)]), none⟩, ⟨(some 21), (.move (.tmp 23)), none⟩, ⟨(some 24), (.extract (.tmp 21) 0), none⟩, ⟨(some 25), (.extract (.tmp 21) 1), none⟩, ⟨(some 26), (.faddr 3 (.tmp 5)), none⟩, ⟨none, (.store 1 (.tmp 26) (.tmp 24)), none⟩, ⟨(some 6), (.assign (.tmp 25)), none⟩]) (.seq (.ops [⟨(some 28), (.bin .eql (.tmp 17) (.const (.int .i64 80877103))), none⟩, ⟨(some 27), (.assign (.tmp 28)), none⟩]) (.cond (.tmp 27) (.ops [⟨(some 29), (.move (.tmp 4)), none⟩, ⟨(some 30), (.call 19 [(.tmp 29)]), none⟩, ⟨(some 6), (.assign (.tmp 30)), none⟩]) (.seq (.ops [⟨(some 32), (.bin .eql (.tmp 17) (.const (.int .i64 80877102))), none⟩, ⟨(some 31), (.assign (.tmp 32)), none⟩]) (.cond (.tmp 31) (.seq (.ops [⟨(some 33), (.move (.tmp 4)), none⟩, ⟨(some 34), (.call 17 [(.tmp 33), (.const (.int .i64 4))]), none⟩, ⟨(some 35), (.move (.tmp 4)), none⟩, ⟨(some 36), (.call 17 [(.tmp 35), (.const (.int .i64 4))]), none⟩, ⟨(some 37), (.faddr 1 (.tmp 5)), none⟩, ⟨none, (.store 1 (.tmp 37) (.tmp 34)), none⟩, ⟨(some 38), (.faddr 2 (.tmp 5)), none⟩, ⟨none, (.store 1 (.tmp 38) (.tmp 36)), none⟩]) (.ops [⟨(some 39), (.move (.tmp 4)), none⟩, ⟨(some 40), (.call 19 [(.tmp 39)]), none⟩, ⟨(some 6), (.assign (.tmp 40)), none⟩])) (.seq (.ops [⟨(some 18), (.build [(.v (.int .i64 0)), (.v (.int .i64 0)), (.v (.int .i64 0)), (.sl 0 [] (some true) .exact)] []), none⟩, ⟨none, (.store 4 (.tmp 2) (.tmp 18)), none⟩, ⟨(some 3), (.assign (.const (.int .i64 9))), none⟩]) .ret))))))))) (.seq (.seq (.ops [⟨(some 41), (.move (.tmp 6)), none⟩, ⟨(some 42), (.un .not (.tmp 41)), none⟩]) (.cond (.tmp 42) (.seq (.ops [⟨(some 43), (.build [(.v (.int .i64 0)), (.v (.int .i64 0)), (.v (.int .i64 0)), (.sl 0 [] (some true) .exact)] []), none⟩, ⟨none, (.store 4 (.tmp 2) (.tmp 43)), none⟩, ⟨(some 3), (.assign (.const (.int .i64 4))), none⟩]) .ret) .skip)) (.seq (.ops [⟨(some 44), (.loadN 4 (.tmp 5)), none⟩, ⟨none, (.store 4 (.tmp 2) (.tmp 44)), none⟩, ⟨(some 3), (.assign (.const (.int .i64 0))), none⟩]) .ret)))))))), [(.loadN 4 (.tmp 2)), (.move (.tmp 3))]⟩
theorem k6 : cfun Try.prog 6 = some c6 := by kernel_rfl
def c7 : XFun := ⟨52, (.seq (.ops [⟨(some 2), (.box (.tmp 0)), none⟩, ⟨(some 3), (.box (.tmp 1)), none⟩, ⟨(some 4), (.assign (.const (.bool false))), none⟩]) (.seq (.seq (.ops [⟨(some 6), (.faddr 0 (.tmp 2)), none⟩, ⟨(some 7), (.load1 (.tmp 6)), none⟩, ⟨(some 8), (.faddr 0 (.tmp 3)), none⟩, ⟨(some 9), (.load1 (.tmp 8)), none⟩, ⟨(some 10), (.bin .neq (.tmp 7) (.tmp 9)), none⟩, ⟨(some 11), (.move (.tmp 10)), none⟩, ⟨(some 12), (.faddr 1 (.tmp 2)), (some (11, false))⟩, ⟨(some 13), (.load1 (.tmp 12)), (some (11, false))⟩, ⟨(some 14), (.faddr 1 (.tmp 3)), (some (11, false))⟩, ⟨(some 15), (.load1 (.tmp 14)), (some (11, false))⟩, ⟨(some 16), (.bin .neq (.tmp 13) (.tmp 15)), (some (11, false))⟩, ⟨(some 17), (.pick (.tmp 11) (.const (.bool true)) (.tmp 16)), none⟩, ⟨(some 18), (.move (.tmp 17)), none⟩, ⟨(some 19), (.faddr 2 (.tmp 2)), (some (18, false))⟩, ⟨(some 20), (.load1 (.tmp 19)), (some (18, false))⟩, ⟨(some 21), (.faddr 2 (.tmp 3)), (some (18, false))⟩, ⟨(some 22), (.load1 (.tmp 21)), (some (18, false))⟩, ⟨(some 23), (.bin .neq (.tmp 20) (.tmp 22)), (some (18, false))⟩, ⟨(some 24), (.pick (.tmp 18) (.const (.bool true)) (.tmp 23)), none⟩, ⟨(some 25), (.move (.tmp 24)), none⟩, ⟨(some 26), (.faddr 3 (.tmp 2)), (some (25, false))⟩, ⟨(some 27), (.load1 (.tmp 26)), (some (25, false))⟩, ⟨(some 28), (.lenL (.tmp 27)), (some (25, false))⟩, ⟨(some 29), (.faddr 3 (.tmp 3)), (some (25, false))⟩, ⟨(some 30), (.load1 (.tmp 29)), (some (25, false))⟩, ⟨(some 31), (.lenL (.tmp 30)), (some (25, false))⟩, ⟨(some 32), (.bin .neq (.tmp 28) (.tmp 31)), (some (25, false))⟩, ⟨(some 33), (.pick (.tmp 25) (.const (.bool true)) (.tmp 32)), none⟩]) (.cond (.tmp 33) (.seq (.ops [⟨(some 4), (.assign (.const (.bool false))), none⟩]) .ret) .skip)) (.seq (.seq (.ops [⟨(some 5), (.assign (.const (.int .i64 0))), none⟩]) (.block 0 (.loop (.seq (.seq (.ops [⟨(some 34), (.move (.tmp 5)), none⟩, ⟨(some 35), (.faddr 3 (.tmp 2)), none⟩, ⟨(some 36), (.load1 (.tmp 35)), none⟩, ⟨(some 37), (.lenL (.tmp 36)), none⟩, ⟨(some 38), (.bin .lss (.tmp 34) (.tmp 37)), none⟩]) (.cond (.tmp 38) .skip (.exit 0))) (.seq (.block 1 (.seq (.draws (.take ⟨(some 41), (.faddr 3 (.tmp 2)), none⟩ (.take ⟨(some 42), (.load1 (.tmp 41)), none⟩ (.take ⟨(some 43), (.move (.tmp 5)), none⟩ (.take ⟨(some 44), (.iaddr 2 (.tmp 42) (.tmp 43)), none⟩ (.take ⟨(some 45), (.loadN 2 (.tmp 44)), none⟩ (.take ⟨(some 46), (.faddr 3 (.tmp 3)), none⟩ (.take ⟨(some 47), (.load1 (.tmp 46)), none⟩ (.take ⟨(some 48), (.move (.tmp 5)), none⟩ (.take ⟨(some 49), (.iaddr 2 (.tmp 47) (.tmp 48)), none⟩ (.take ⟨(some 50), (.loadN 2 (.tmp 49)), none⟩ (.take ⟨(some 51), (.aeq true [2, 2] (.tmp 45) (.tmp 50)), none⟩ .done)))))))))))) (.cond (.tmp 51) (.seq (.ops [⟨(some 4), (.assign (.const (.bool false))), none⟩]) .ret) .skip))) (.ops [⟨(some 39), (.move (.tmp 5)), none⟩, ⟨(some 40), (.bin .add (.tmp 39) (.const (.int .i64 1))), none⟩, ⟨(some 5), (.assign (.tmp 40)), none⟩])))))) (.seq (.ops [⟨(some 4), (.assign (.const (.bool true))), none⟩]) .ret)))), [(.move (.tmp 4))]⟩
theorem k7 : cfun Try.prog 7 = some c7 := by kernel_rfl
def c8 : XFun := ⟨15, (.seq (.ops [⟨(some 1), (.box (.tmp 0)), none⟩, ⟨(some 2), (.assign (.const (.string (strB [])))), none⟩]) (.seq (.ops [⟨(some 4), (.faddr 3 (.tmp 1)), none⟩, ⟨(some 5), (.load1 (.tmp 4)), none⟩, ⟨(some 6), (.call 20 [(.tmp 5), (.func 21)]), none⟩, ⟨(some 3), (.assign (.tmp 6)), none⟩]) (.seq (.seq (.ops [⟨(some 7), (.move (.tmp 3)), none⟩, ⟨(some 8), (.bin .lss (.tmp 7) (.const (.int .i64 0))), none⟩]) (.cond (.tmp 8) (.seq (.ops [⟨(some 2), (.assign (.const (.string (strB [])))), none⟩]) .ret) .skip)) (.seq (.ops [⟨(some 9), (.faddr 3 (.tmp 1)), none⟩, ⟨(some 10), (.load1 (.tmp 9)), none⟩, ⟨(some 11), (.move (.tmp 3)), none⟩, ⟨(some 12), (.iaddr 2 (.tmp 10) (.tmp 11)), none⟩, ⟨(some 13), (.faddr 1 (.tmp 12)), none⟩, ⟨(some 14), (.load1 (.tmp 13)), none⟩, ⟨(some 2), (.assign (.tmp 14)), none⟩]) .ret)))), [(.move (.tmp 2))]⟩
theorem k8 : cfun Try.prog 8 = some c8 := by kernel_rfl
def c9 : XFun := ⟨24, (.seq (.ops [⟨(some 1), (.box (.tmp 0)), none⟩, ⟨(some 2), (.assign (.const (.string (strB [])))), none⟩]) (.seq (.seq (.ops [⟨(some 3), (.assign (.const (.int .i64 0))), none⟩]) (.block 0 (.loop (.seq (.seq (.ops [⟨(some 4), (.move (.tmp 3)), none⟩, ⟨(some 5), (.faddr 3 (.tmp 1)), none⟩, ⟨(some 6), (.load1 (.tmp 5)), none⟩, ⟨(some 7), (.lenL (.tmp 6)), none⟩, ⟨(some 8), (.bin .lss (.tmp 4) (.tmp 7)), none⟩]) (.cond (.tmp 8) .skip (.exit 0))) (.seq (.block 1 (.seq (.ops [⟨(some 11), (.faddr 3 (.tmp 1)), none⟩, ⟨(some 12), (.load1 (.tmp 11)), none⟩, ⟨(some 13), (.move (.tmp 3)), none⟩, ⟨(some 14), (.iaddr 2 (.tmp 12) (.tmp 13)), none⟩, ⟨(some 15), (.faddr 0 (.tmp 14)), none⟩, ⟨(some 16), (.load1 (.tmp 15)), none⟩, ⟨(some 17), (.bin .eql (.tmp 16) (.const (.string (strB [117, 115, 101, 114])))), none⟩]) (.cond (.tmp 17) (.seq (.ops [⟨(some 18), (.faddr 3 (.tmp 1)), none⟩, ⟨(some 19), (.load1 (.tmp 18)), none⟩, ⟨(some 20), (.move (.tmp 3)), none⟩, ⟨(some 21), (.iaddr 2 (.tmp 19) (.tmp 20)), none⟩, ⟨(some 22), (.faddr 1 (.tmp 21)), none⟩, ⟨(some 23), (.load1 (.tmp 22)), none⟩, ⟨(some 2), (.assign (.tmp 23)), none⟩]) .ret) .skip))) (.ops [⟨(some 9), (.move (.tmp 3)), none⟩, ⟨(some 10), (.bin .add (.tmp 9) (.const (.int .i64 1))), none⟩, ⟨(some 3), (.assign (.tmp 10)), none⟩])))))) (.seq (.ops [⟨(some 2), (.assign (.const (.string (strB [])))), none⟩]) .ret))), [(.move (.tmp 2))]⟩
theorem k9 : cfun Try.prog 9 = some c9 := by kernel_rfl
def c10 : XFun := ⟨48, (.seq (.ops [⟨(some 1), (.box (.tmp 0)), none⟩, ⟨(some 2), (.assign (.const (.slice none 0 0))), none⟩, ⟨(some 3), (.assign (.const (.int .i64 0))), none⟩]) (.seq (.seq (.ops [⟨(some 7), (.loadN 4 (.tmp 1)), none⟩, ⟨(some 8), (.call 22 [(.tmp 7)]), none⟩, ⟨(some 9), (.un .not (.tmp 8)), none⟩]) (.cond (.tmp 9) (.seq (.ops [⟨(some 2), (.assign (.const (.slice none 0 0))), none⟩, ⟨(some 3), (.assign (.const (.int .i64 1))), none⟩]) .ret) .skip)) (.seq (.ops [⟨(some 10), (.faddr 0 (.tmp 1)), none⟩, ⟨(some 11), (.load1 (.tmp 10)), none⟩, ⟨(some 12), (.call 23 [(.const (.slice none 0 0)), (.tmp 11), (.const (.int .i64 4))]), none⟩, ⟨(some 4), (.assign (.tmp 12)), none⟩]) (.seq (.seq (.ops [⟨(some 13), (.faddr 0 (.tmp 1)), none⟩, ⟨(some 14), (.load1 (.tmp 13)), none⟩]) (.block 0 (.seq (.ops [⟨(some 16), (.bin .eql (.tmp 14) (.const (.int .i64 196608))), none⟩, ⟨(some 15), (.assign (.tmp 16)), none⟩]) (.cond (.tmp 15) (.seq (.seq (.ops [⟨(some 17), (.faddr 3 (.tmp 1)), none⟩, ⟨(some 18), (.load1 (.tmp 17)), none⟩, ⟨(some 19), (.lenL (.tmp 18)), none⟩, ⟨(some 20), (.move (.const (.int .i64 0))), none⟩]) (.block 1 (.loop (.seq (.ops [⟨(some 21), (.bin .lss (.tmp 20) (.tmp 19)), none⟩]) (.seq (.cond (.tmp 21) .skip (.exit 1)) (.seq (.block 2 (.seq (.ops [⟨(some 22), (.iaddr 2 (.tmp 18) (.tmp 20)), none⟩, ⟨(some 23), (.loadN 2 (.tmp 22)), none⟩, ⟨(some 6), (.alloc [(.v (.string (strB []))), (.v (.string (strB [])))]), none⟩, ⟨none, (.store 2 (.tmp 6) (.tmp 23)), none⟩]) (.ops [⟨(some 24), (.move (.tmp 4)), none⟩, ⟨(some 25), (.faddr 0 (.tmp 6)), none⟩, ⟨(some 26), (.load1 (.tmp 25)), none⟩, ⟨(some 27), (.faddr 1 (.tmp 6)), none⟩, ⟨(some 28), (.load1 (.tmp 27)), none⟩, ⟨(some 29), (.buildSlice 1 2 [(.v (.string (strB [])))] [(0, (.tmp 26)), (1, (.tmp 28))]), none⟩, ⟨(some 30), (.call 24 [(.tmp 29)]), none⟩, ⟨(some 31), (.append 1 1 (.tmp 24) (.tmp 30)), none⟩, ⟨(some 4), (.assign (.tmp 31)), none⟩]))) (.ops [⟨(some 32), (.bin .add (.tmp 20) (.const (.int .i64 1))), none⟩, ⟨(some 20), (.move (.tmp 32)), none⟩]))))))) (.ops [⟨(some 33), (.move (.tmp 4)), none⟩, ⟨(some 34), (.buildSlice 1 1 [(.v (.string (strB [])))] [(0, (.const (.string (strB []))))]), none⟩, ⟨(some 35), (.call 24 [(.tmp 34)]), none⟩, ⟨(some 36), (.append 1 1 (.tmp 33) (.tmp 35)), none⟩, ⟨(some 4), (.assign (.tmp 36)), none⟩])) (.seq (.ops [⟨(some 38), (.bin .eql (.tmp 14) (.const (.int .i64 80877102))), none⟩, ⟨(some 37), (.assign (.tmp 38)), none⟩]) (.cond (.tmp 37) (.seq (.ops [⟨(some 39), (.move (.tmp 4)), none⟩, ⟨(some 40), (.faddr 1 (.tmp 1)), none⟩, ⟨(some 41), (.load1 (.tmp 40)), none⟩, ⟨(some 42), (.call 23 [(.tmp 39), (.tmp 41), (.const (.int .i64 4))]), none⟩, ⟨(some 4), (.assign (.tmp 42)), none⟩]) (.ops [⟨(some 43), (.move (.tmp 4)), none⟩, ⟨(some 44), (.faddr 2 (.tmp 1)), none⟩, ⟨(some 45), (.load1 (.tmp 44)), none⟩, ⟨(some 46), (.call 23 [(.tmp 43), (.tmp 45), (.const (.int .i64 4))]), none⟩, ⟨(some 4), (.assign (.tmp 46)), none⟩])) .skip)))))) (.seq (.ops [⟨(some 47), (.move (.tmp 4)), none⟩, ⟨(some 2), (.assign (.tmp 47)), none⟩, ⟨(some 3), (.assign (.const (.int .i64 0))), none⟩]) .ret))))), [(.move (.tmp 2)), (.move (.tmp 3))]⟩
theorem k10 : cfun Try.prog 10 = some c10 := by kernel_rfl
def c14 : XFun := ⟨20, (.seq (.ops [⟨(some 1), (.box (.tmp 0)), none⟩, ⟨(some 2), (.assign (.const (.slice none 0 0))), none⟩]) (.seq (.ops [⟨(some 3), (.assign (.const (.slice none 0 0))), none⟩]) (.seq .skip (.seq (.block 0 (.loop (.block 1 (.seq (.ops [⟨(some 5), (.faddr 0 (.tmp 1)), none⟩, ⟨(some 6), (.load1 (.tmp 5)), none⟩, ⟨(some 7), (.call 28 [(.tmp 6)]), none⟩, ⟨(some 4), (.assign (.tmp 7)), none⟩]) (.seq (.ops [⟨(some 8), (.move (.tmp 4)), none⟩]) (.block 2 (.seq (.ops [⟨(some 18), (.bin .eql (.tmp 8) (.const (.string (strB [])))), none⟩, ⟨(some 17), (.assign (.tmp 18)), none⟩]) (.cond (.tmp 17) (.exit 0) (.ops [⟨(some 9), (.move (.tmp 3)), none⟩, ⟨(some 10), (.move (.tmp 4)), none⟩, ⟨(some 11), (.faddr 0 (.tmp 1)), none⟩, ⟨(some 12), (.load1 (.tmp 11)), none⟩, ⟨(some 13), (.call 28 [(.tmp 12)]), none⟩, ⟨(some 14), (.build [(.v (.string (strB []))), (.v (.string (strB [])))] [(0, (1, (.tmp 10))), (1, (1, (.tmp 13)))]), none⟩, ⟨(some 15), (.buildSlice 2 1 [(.v (.string (strB []))), (.v (.string (strB [])))] [(0, (.tmp 14))]), none⟩, ⟨(some 16), (.append 2 32 (.tmp 9) (.tmp 15)), none⟩, ⟨(some 3), (.assign (.tmp 16)), none⟩]))))))))) (.seq (.ops [⟨(some 19), (.move (.tmp 3)), none⟩, ⟨(some 2), (.assign (.tmp 19)), none⟩]) .ret))))), [(.move (.tmp 2))]⟩
theorem k14 : cfun Try.prog 14 = some c14 := by kernel_rfl
def c18 : XFun := ⟨29, (.seq (.ops [⟨(some 2), (.assign (.const (.slice none 0 0))), none⟩, ⟨(some 3), (.assign (.const (.bool false))), none⟩]) (.seq (.ops [⟨(some 4), (.assign (.const (.slice none 0 0))), none⟩]) (.seq (.block 0 (.loop (.seq (.seq (.ops [⟨(some 6), (.move (.tmp 0)), none⟩, ⟨(some 7), (.nilCheck (.tmp 6)), none⟩, ⟨(some 8), (.faddr 1 (.tmp 7)), none⟩, ⟨(some 9), (.load1 (.tmp 8)), none⟩, ⟨(some 10), (.un .not (.tmp 9)), none⟩]) (.cond (.tmp 10) .skip (.exit 0))) (.block 1 (.seq (.ops [⟨(some 11), (.move (.tmp 0)), none⟩, ⟨(some 12), (.call 30 [(.tmp 11)]), none⟩, ⟨(some 5), (.assign (.tmp 12)), none⟩]) (.seq (.seq (.ops [⟨(some 13), (.move (.tmp 0)), none⟩, ⟨(some 14), (.nilCheck (.tmp 13)), none⟩, ⟨(some 15), (.faddr 1 (.tmp 14)), none⟩, ⟨(some 16), (.load1 (.tmp 15)), none⟩]) (.cond (.tmp 16) (.exit 0) .skip)) (.seq (.seq (.ops [⟨(some 17), (.move (.tmp 5)), none⟩, ⟨(some 18), (.bin .eql (.tmp 17) (.const (.string (strB [])))), none⟩]) (.cond (.tmp 18) (.seq (.ops [⟨(some 19), (.move (.tmp 4)), none⟩, ⟨(some 20), (.move (.tmp 0)), none⟩, ⟨(some 21), (.call 19 [(.tmp 20)]), none⟩, ⟨(some 2), (.assign (.tmp 19)), none⟩, ⟨(some 3), (.assign (.tmp 21)), none⟩]) .ret) .skip)) (.ops [⟨(some 22), (.move (.tmp 4)), none⟩, ⟨(some 23), (.move (.tmp 5)), none⟩, ⟨(some 24), (.move (.tmp 0)), none⟩, ⟨(some 25), (.call 30 [(.tmp 24)]), none⟩, ⟨(some 26), (.build [(.v (.string (strB []))), (.v (.string (strB [])))] [(0, (1, (.tmp 23))), (1, (1, (.tmp 25)))]), none⟩, ⟨(some 27), (.buildSlice 2 1 [(.v (.string (strB []))), (.v (.string (strB [])))] [(0, (.tmp 26))]), none⟩, ⟨(some 28), (.append 2 32 (.tmp 22) (.tmp 27)), none⟩, ⟨(some 4), (.assign (.tmp 28)), none⟩])))))))) (.seq (.ops [⟨(some 2), (.assign (.const (.slice none 0 0))), none⟩, ⟨(some 3), (.assign (.const (.bool false))), none⟩]) .ret)))), [(.move (.tmp 2)), (.move (.tmp 3))]⟩
theorem k18 : cfun Try.prog 18 = some c18 := by kernel_rfl
def c21 : XFun := ⟨6, (.seq (.ops [⟨(some 1), (.box (.tmp 0)), none⟩, ⟨(some 2), (.assign (.const (.bool false))), none⟩]) (.seq (.ops [⟨(some 3), (.faddr 0 (.tmp 1)), none⟩, ⟨(some 4), (.load1 (.tmp 3)), none⟩, ⟨(some 5), (.bin .eql (.tmp 4) (.const (.string (strB [117, 115, 101, 114])))), none⟩, ⟨(some 2), (.assign (.tmp 5)), none⟩]) .ret)), [(.move (.tmp 2))]⟩
theorem k21 : cfun Try.prog 21 = some c21 := by kernel_rfl
def c22 : XFun := ⟨45, (.seq (.ops [⟨(some 1), (.box (.tmp 0)), none⟩, ⟨(some 2), (.assign (.const (.bool false))), none⟩]) (.seq (.ops [⟨(some 4), (.faddr 1 (.tmp 1)), none⟩, ⟨(some 5), (.load1 (.tmp 4)), none⟩, ⟨(some 6), (.faddr 2 (.tmp 1)), none⟩, ⟨(some 7), (.load1 (.tmp 6)), none⟩, ⟨(some 8), (.build [(.v (.int .i64 0)), (.v (.int .i64 0))] [(0, (1, (.tmp 5))), (1, (1, (.tmp 7)))]), none⟩, ⟨(some 9), (.build [(.v (.int .i64 0)), (.v (.int .i64 0))] []), none⟩, ⟨(some 10), (.aeq false [1, 1] (.tmp 8) (.tmp 9)), none⟩, ⟨(some 3), (.assign (.tmp 10)), none⟩]) (.seq (.seq (.ops [⟨(some 11), (.faddr 0 (.tmp 1)), none⟩, ⟨(some 12), (.load1 (.tmp 11)), none⟩]) (.block 0 (.seq (.ops [⟨(some 14), (.bin .eql (.tmp 12) (.const (.int .i64 196608))), none⟩, ⟨(some 13), (.assign (.tmp 14)), none⟩]) (.cond (.tmp 13) (.seq (.ops [⟨(some 15), (.move (.tmp 3)), none⟩, ⟨(some 16), (.move (.tmp 15)), none⟩, ⟨(some 17), (.faddr 3 (.tmp 1)), (some (16, true))⟩, ⟨(some 18), (.load1 (.tmp 17)), (some (16, true))⟩, ⟨(some 19), (.call 31 [(.tmp 18), (.func 32)]), (some (16, true))⟩, ⟨(some 20), (.un .not (.tmp 19)), (some (16, true))⟩, ⟨(some 21), (.pick (.tmp 16) (.tmp 20) (.const (.bool false))), none⟩, ⟨(some 2), (.assign (.tmp 21)), none⟩]) .ret) (.seq (.ops [⟨(some 23), (.bin .eql (.tmp 12) (.const (.int .i64 80877102))), none⟩, ⟨(some 22), (.assign (.tmp 23)), none⟩]) (.cond (.tmp 22) (.seq (.ops [⟨(some 24), (.faddr 3 (.tmp 1)), none⟩, ⟨(some 25), (.load1 (.tmp 24)), none⟩, ⟨(some 26), (.lenL (.tmp 25)), none⟩, ⟨(some 27), (.bin .eql (.tmp 26) (.const (.int .i64 0))), none⟩, ⟨(some 28), (.move (.tmp 27)), none⟩, ⟨(some 29), (.faddr 1 (.tmp 1)), (some (28, true))⟩, ⟨(some 30), (.load1 (.tmp 29)), (some (28, true))⟩, ⟨(some 31), (.faddr 2 (.tmp 1)), (some (28, true))⟩, ⟨(some 32), (.load1 (.tmp 31)), (some (28, true))⟩, ⟨(some 33), (.buildSlice 1 2 [(.v (.int .i64 0))] [(0, (.tmp 30)), (1, (.tmp 32))]), (some (28, true))⟩, ⟨(some 34), (.call 34 [(.const (.int .i64 4)), (.tmp 33)]), (some (28, true))⟩, ⟨(some 35), (.pick (.tmp 28) (.tmp 34) (.const (.bool false))), none⟩, ⟨(some 2), (.assign (.tmp 35)), none⟩]) .ret) (.seq (.ops [⟨(some 37), (.bin .eql (.tmp 12) (.const (.int .i64 80877103))), none⟩, ⟨(some 36), (.assign (.tmp 37)), none⟩]) (.cond (.tmp 36) (.seq (.ops [⟨(some 38), (.faddr 3 (.tmp 1)), none⟩, ⟨(some 39), (.load1 (.tmp 38)), none⟩, ⟨(some 40), (.lenL (.tmp 39)), none⟩, ⟨(some 41), (.bin .eql (.tmp 40) (.const (.int .i64 0))), none⟩, ⟨(some 42), (.move (.tmp 41)), none⟩, ⟨(some 43), (.move (.tmp 3)), (some (42, true))⟩, ⟨(some 44), (.pick (.tmp 42) (.tmp 43) (.const (.bool false))), none⟩, ⟨(some 2), (.assign (.tmp 44)), none⟩]) .ret) .skip)))))))) (.seq (.ops [⟨(some 2), (.assign (.const (.bool false))), none⟩]) .ret)))), [(.move (.tmp 2))]⟩
theorem k22 : cfun Try.prog 22 = some c22 := by kernel_rfl
def c32 : XFun := ⟨15, (.seq (.ops [⟨(some 1), (.box (.tmp 0)), none⟩, ⟨(some 2), (.assign (.const (.bool false))), none⟩]) (.seq (.ops [⟨(some 3), (.faddr 0 (.tmp 1)), none⟩, ⟨(some 4), (.load1 (.tmp 3)), none⟩, ⟨(some 5), (.bin .eql (.tmp 4) (.const (.string (strB [])))), none⟩, ⟨(some 6), (.move (.tmp 5)), none⟩, ⟨(some 7), (.faddr 0 (.tmp 1)), (some (6, false))⟩, ⟨(some 8), (.load1 (.tmp 7)), (some (6, false))⟩, ⟨(some 9), (.faddr 1 (.tmp 1)), (some (6, false))⟩, ⟨(some 10), (.load1 (.tmp 9)), (some (6, false))⟩, ⟨(some 11), (.buildSlice 1 2 [(.v (.string (strB [])))] [(0, (.tmp 8)), (1, (.tmp 10))]), (some (6, false))⟩, ⟨(some 12), (.call 33 [(.tmp 11)]), (some (6, false))⟩, ⟨(some 13), (.un .not (.tmp 12)), (some (6, false))⟩, ⟨(some 14), (.pick (.tmp 6) (.const (.bool true)) (.tmp 13)), none⟩, ⟨(some 2), (.assign (.tmp 14)), none⟩]) .ret)), [(.move (.tmp 2))]⟩
theorem k32 : cfun Try.prog 32 = some c32 := by kernel_rfl
end Go.Proofs.Ytdijlfgmpinidaa.Ax
/- Hello over values without memory: Build on both sides. -/
namespace Go.Proofs.Ytdijlfgmpinidaa.Ax
open Go.RowKit Go By Nm Sc Dg
set_option linter.unusedSimpArgs false
set_option linter.unusedVariables false
set_option maxRecDepth 10000

def badPa (p : Pa) : Bool := p.name == [] || !cleanB p.name || !cleanB p.value
theorem hmay1_c (p : Pa) (h : List (List AV)) : Contract Try.prog 32 [.agg (paC p)] h (.v (.bool (badPa p))) h [] := by
  refine contract_of k32 mixed (by simp [c32]) fun hh hargs => ?_
  unfold badPa
  by_cases h1 : p.name = []
  · simp [c32, h1, hh]
  · simp [c32, h1]
    refine xcall_of (wclean_c [p.name, p.value] (by simp) _) (by simp [strC]) (by simp) ?_
    cases h2 : cleanB p.name <;> cases h3 : cleanB p.value <;> simp [h1, h2, h3, hh]
def zeroH (m : Hm) : Bool := m.process == 0 && m.secret == 0
def mayH (m : Hm) : Bool :=
  if m.code = 196608 then zeroH m && !m.params.any badPa
  else if m.code = 80877102 then decide (m.params.length = 0) && (unsB 4 m.process && unsB 4 m.secret)
  else if m.code = 80877103 then decide (m.params.length = 0) && zeroH m
  else false
theorem hmay_c (m : Hm) (hl : m.params.length ≤ 140737488355328) (h : List (List AV)) : Contract Try.prog 22 [.agg (hmC m)] h (.v (.bool (mayH m))) h [] := by
  refine contract_of k22 mixed (by simp [c22]) fun hh hargs => ?_
  simp [c22]
  unfold mayH zeroH
  by_cases h1 : m.code = 196608
  · simp [h1]
    cases hz : (m.process == 0 && m.secret == 0) with
    | false => simp [hh]
    | true =>
    simp
    refine xcall_self (by simp) (containsN_any mixed k31 k20 paC badPa m.params [] _ (by simp) (by simp) (by simp) (fun c hm => hmay1_c c _) hl) ?_
    simp [hh]
  rw [if_neg h1]
  have hne : m.params ≠ [] → (((m.params.length : Nat) : Int) == 0) = false := fun h3 => by
    have := List.length_pos_iff.2 h3
    rw [beq_eq_false_iff_ne]; omega
  by_cases h2 : m.code = 80877102
  · by_cases h3 : m.params = []
    · simp [h1, h2, h3]
      refine xcall_of (wuns_c 4 [m.process, m.secret] (by simp) _) (by simp [intC]) (by simp) ?_
      simp [hh]
    · simp [h1, h2, h3, hne h3, hh]
  rw [if_neg h2]
  by_cases h4 : m.code = 80877103
  · by_cases h3 : m.params = []
    · simp [h1, h2, h3, h4, hh]
    · simp [h1, h2, h3, hne h3, h4, hh]
  simp [h1, h2, h4, hh]
/-- A pair's bytes; a first message's bytes. -/
def pairE (p : Pa) : List UInt8 := textsL [p.name, p.value]
def pairsE (l : List Pa) : List UInt8 := l.flatMap pairE
def bytesH (m : Hm) : List UInt8 :=
  if m.code = 196608 then numE 4 m.code ++ (pairsE m.params ++ [0])
  else if m.code = 80877102 then numE 4 m.code ++ (numE 4 m.process ++ numE 4 m.secret)
  else numE 4 m.code
def buildH (m : Hm) : List UInt8 × Int := if mayH m = true then (bytesH m, 0) else ([], 1)
theorem numE4_len (n : Int) : (numE 4 n).length ≤ 4 := by
  have := put_len n 4 (by omega) []
  simpa [numE] using this
theorem hput_c (n : Int) (h : List (List AV)) : Contract Try.prog 23 [.sl 1 (bytesE []) none .no, .v (.int .i64 n), .v (.int .i64 4)] h (.sl 1 (bytesE (numE 4 n)) none (.own .res)) h [] := put_c [] n 4 (by simp) h
theorem hput2_c (xs : List UInt8) (n : Int) (hl : xs.length ≤ 140737488351232) (h : List (List AV)) : Contract Try.prog 23 [.sl 1 (bytesE xs) none .no, .v (.int .i64 n), .v (.int .i64 4)] h (.sl 1 (bytesE (xs ++ numE 4 n)) none (.own .res)) h [] := by
  have e : putL xs n 4 = xs ++ numE 4 n := putL_eq xs n 4
  rw [← e]
  exact put_c xs n 4 hl h
theorem hbuild_c (m : Hm) (hl : m.params.length ≤ 140737488351232) (hb : (bytesH m).length ≤ 140737488351232) (h : List (List AV)) : Contract Try.prog 10 [.agg (hmC m)] h (.tup [.sl 1 (bytesE (buildH m).1) none .no, .v (.int .i64 (buildH m).2)]) h [] := by
  refine contract_of k10 mixed (by simp [c10]) fun hh hargs => ?_
  simp [c10]
  refine xcall_self (by simp) (hmay_c m (by omega) _) ?_
  unfold buildH
  cases hm : mayH m with
  | false => simp [hh]
  | true =>
  have hC4 := numE4_len m.code
  simp
  refine xcall_of (hput_c m.code _) (by simp) (by simp) ?_
  unfold bytesH at hb ⊢
  by_cases h1 : m.code = 196608
  · rw [if_pos h1] at hb ⊢
    generalize numE 4 m.code = C at *
    rw [List.length_append, List.length_append, List.length_singleton] at hb
    simp [h1]
    refine xloop_ok (D := Nat) (fun j => ⟨[(18, .sl 2 (enc paC m.params) none .no), (19, .v (.int .i64 m.params.length)), (20, .v (.int .i64 j))], [(4, .sl 1 (bytesE (C ++ pairsE (m.params.take j))) none (.own (.slot 4)))], h ++ [hmC m], []⟩) (fun j => j ≤ m.params.length) (fun j => m.params.length - j) 0 (by simp) ?_ ?_
    · simp [Leq, hh, pairsE]
    · intro j hj
      by_cases hlt : j < m.params.length
      · have hw : IntKind.i64.wrap ((j : Int) + 1) = (j : Int) + 1 := wrap64 (by omega) (by omega)
        obtain ⟨hx, hb2⟩ := flat_step pairE m.params C.length j hlt 140737488351232 (by unfold pairsE at hb; omega)
        have hx' : pairsE (m.params.take (j + 1)) = pairsE (m.params.take j) ++ pairE m.params[j] := hx
        have hb3 : C.length + ((pairsE (m.params.take j)).length + (pairE m.params[j]).length) ≤ 140737488351232 := hb2
        clear hx hb2
        simp [hlt]
        generalize m.params[j] = p at *
        unfold pairE at hb3 hx'
        refine xcall_of (wtexts_c [p.name, p.value] (by omega) _) (by simp [strC]) (by simp) ?_
        generalize textsL [p.name, p.value] = T at *
        simp [hw]
        refine ⟨by omega, j + 1, by omega, by omega, ?_⟩
        simp [Leq, hh, hx']
      · have : j = m.params.length := by omega
        subst this
        simp
        refine xcall_of (wtexts_c [[]] (by simp [textsL, He.encT]) _) (by simp [strC]) (by simp) ?_
        simp [textsL, He.encT]
        refine ⟨by omega, ?_⟩
        simp [hh]
  · rw [if_neg h1] at hb ⊢
    by_cases h2 : m.code = 80877102
    · rw [if_pos h2] at hb ⊢
      have l1 := numE4_len m.process
      generalize numE 4 m.code = C at *
      simp [h1, h2]
      refine xcall_of (hput2_c C m.process (by omega) _) (by simp) (by simp) ?_
      simp
      refine xcall_of (hput2_c (C ++ numE 4 m.process) m.secret (by rw [List.length_append]; omega) _) (by simp) (by simp) ?_
      simp [hh]
    · rw [if_neg h2] at hb ⊢
      simp [h1, h2, hh]
end Go.Proofs.Ytdijlfgmpinidaa.Ax
/- Hello over values without memory: the document's Build. -/
namespace Go.Proofs.Ytdijlfgmpinidaa.Ax
open Go.RowKit Go By Nm Sc Dg
set_option linter.unusedSimpArgs false
set_option linter.unusedVariables false
set_option maxRecDepth 10000

def rmayH (m : Hm) : Bool :=
  if m.params.any badPa = true then false
  else if m.code = 196608 then zeroH m
  else if m.code = 80877103 then zeroH m && decide (m.params.length = 0)
  else if m.code = 80877102 then decide (m.params.length = 0) && (decide (0 ≤ m.process) && (decide (0 ≤ m.secret) && (rightB m.process 4 && rightB m.secret 4)))
  else false
theorem may_eq (m : Hm) : mayH m = rmayH m := by
  unfold mayH rmayH
  have hu : ∀ n : Int, unsB 4 n = (decide (0 ≤ n) && rightB n 4) := fun n => by
    unfold unsB
    congr 1
    rw [Bool.eq_iff_iff]; simp
  cases ha : m.params.any badPa with
  | true =>
    have hne : ¬ m.params.length = 0 := fun h => by
      rw [List.length_eq_zero_iff.1 h] at ha; cases ha
    simp [hne]
  | false =>
    by_cases k1 : m.code = 196608
    · simp [k1]
    by_cases k2 : m.code = 80877102
    · simp [k1, k2, hu, Bool.and_assoc, Bool.and_left_comm]
    by_cases k3 : m.code = 80877103
    · simp [k1, k2, k3, Bool.and_comm]
    simp [k1, k2, k3]
end Go.Proofs.Ytdijlfgmpinidaa.Ax
/- Hello over values without memory: the document's Build, few, User. -/
namespace Go.Proofs.Ytdijlfgmpinidaa.Ax
open Go.RowKit Go By Nm Sc Dg
set_option linter.unusedSimpArgs false
set_option linter.unusedVariables false
set_option maxRecDepth 10000

theorem pairE_eq (p : Pa) : pairE p = p.name ++ (0 :: (p.value ++ [0])) := by simp [pairE, textsL, He.encT]
/-! ### Short messages -/
def shortP (p : Pa) : Bool := decide ((p.name.length : Int) ≤ 200) && decide ((p.value.length : Int) ≤ 200)
def fewH (l : List Pa) : Bool := decide (l.length ≤ 40) && l.all shortP
end Go.Proofs.Ytdijlfgmpinidaa.Ax
/- Hello over values without memory: User on both sides. -/
namespace Go.Proofs.Ytdijlfgmpinidaa.Ax
open Go.RowKit Go By Nm Sc Dg
set_option linter.unusedSimpArgs false
set_option linter.unusedVariables false
set_option maxRecDepth 10000

def isUser (p : Pa) : Bool := p.name == [117, 115, 101, 114]
def userH : List Pa → List UInt8
  | [] => []
  | p :: l => if isUser p = true then p.value else userH l
theorem userH_none : ∀ l : List Pa, (∀ p ∈ l, isUser p = false) → userH l = []
  | [], _ => rfl
  | p :: l, h => by rw [userH, if_neg (by simp [h p (by simp)])]; exact userH_none l fun q hq => h q (by simp [hq])
theorem userH_at : ∀ (l : List Pa) (j : Nat) (hj : j < l.length), (∀ p ∈ l.take j, isUser p = false) → isUser l[j] = true → userH l = l[j].value
  | p :: l, 0, _, _, h => by
    have h' : isUser p = true := h
    rw [userH, if_pos h']; rfl
  | p :: l, j + 1, hj, h1, h2 => by
    rw [userH, if_neg (by simp [h1 p (by simp)])]
    exact userH_at l j (by simpa using hj) (fun q hq => h1 q (by simp [hq])) h2
theorem huser1_c (p : Pa) (h : List (List AV)) : Contract Try.prog 21 [.agg (paC p)] h (.v (.bool (isUser p))) h [] := by
  refine contract_of k21 mixed (by simp [c21]) fun hh hargs => ?_
  simp [c21, hh, isUser]
theorem huser_c (m : Hm) (hl : m.params.length ≤ 140737488355328) (h : List (List AV)) : Contract Try.prog 8 [.agg (hmC m)] h (.v (.string (strB (userH m.params)))) h [] := by
  refine contract_of k8 mixed (by simp [c8]) fun hh hargs => ?_
  simp [c8]
  refine xcall_self (by simp) (indexN_any mixed k20 paC isUser m.params [] _ (by simp) (by simp) (by simp) (fun c hm => huser1_c c _) hl) ?_
  cases e : m.params.findIdx? isUser with
  | none =>
    have h1 := List.findIdx?_eq_none_iff.1 e
    rw [idxI_none h1, userH_none _ h1]
    simp [hh]
  | some i =>
    obtain ⟨hi, h2, h3⟩ := List.findIdx?_eq_some_iff_getElem.1 e
    have h4 : ∀ p ∈ m.params.take i, isUser p = false := fun p hp => by
      obtain ⟨k, hk, rfl⟩ := List.mem_take_iff_getElem.1 hp
      have := h3 k (by omega)
      simpa using this
    rw [idxI_of hi h4 h2, userH_at _ i hi h4 h2]
    have h0 : ¬ (i : Int) < 0 := by omega
    obtain ⟨p, hp⟩ : ∃ p, m.params[i] = p := ⟨_, rfl⟩
    simp [h0, hi, hp, paC_mk, hh]
theorem hruser_c (m : Hm) (hl : m.params.length ≤ 140737488355328) (h : List (List AV)) : Contract Try.prog 9 [.agg (hmC m)] h (.v (.string (strB (userH m.params)))) h [] := by
  refine contract_of k9 mixed (by simp [c9]) fun hh hargs => ?_
  simp [c9]
  refine xloop_ok (D := Nat) (fun j => ⟨[(1, .box h.length 0), (3, .v (.int .i64 j))], [], h ++ [hmC m], []⟩) (fun j => j ≤ m.params.length ∧ ∀ p ∈ m.params.take j, isUser p = false) (fun j => m.params.length - j) 0 (by simp) ?_ ?_
  · simp [Leq, hh]
  · rintro j ⟨hj, ha⟩
    by_cases hlt : j < m.params.length
    · have hw : IntKind.i64.wrap ((j : Int) + 1) = (j : Int) + 1 := wrap64 (by omega) (by omega)
      obtain ⟨p, hp⟩ : ∃ p, m.params[j] = p := ⟨_, rfl⟩
      simp [hlt, hp, paC_mk]
      cases hu : isUser p with
      | true =>
        have e := userH_at m.params j hlt ha (by rw [hp]; exact hu)
        rw [hp] at e
        have hu' : p.name = [117, 115, 101, 114] := by simpa [isUser] using hu
        simp [hlt, hp, paC_mk, hu', e, hh]
      | false =>
        have hu' : ¬ p.name = [117, 115, 101, 114] := by simpa [isUser] using hu
        have hg : ∀ q ∈ m.params.take (j + 1), isUser q = false := fun q hq => by
          rw [List.take_succ_eq_append_getElem hlt, List.mem_append, hp] at hq
          rcases hq with hq | hq
          · exact ha q hq
          · rw [List.mem_singleton.1 hq]; exact hu
        simp [hlt, hp, paC_mk, hu', hw]
        refine ⟨j + 1, ⟨by omega, hg⟩, by omega, ?_⟩
        simp [Leq, hh]
    · have : j = m.params.length := by omega
      subst this
      rw [List.take_length] at ha
      rw [userH_none _ ha]
      simp [hh]
end Go.Proofs.Ytdijlfgmpinidaa.Ax
/- Hello over values without memory: pairs that are read. -/
namespace Go.Proofs.Ytdijlfgmpinidaa.Ax
open Go.RowKit Go By Nm Sc Dg
set_option linter.unusedSimpArgs false
set_option linter.unusedVariables false
set_option maxRecDepth 10000

/-- Pairs that are read, up to an empty name: as many as there may be. -/
def pairR : Nat → Sta → List Pa × Sta
  | 0, st => ([], textS st)
  | k + 1, st => if He.textL st = [] then ([], textS st) else (⟨He.textL st, He.textL (textS st)⟩ :: (pairR k (textS (textS st))).1, (pairR k (textS (textS st))).2)
def pairsV (st : Sta) : List Pa := (pairR (He.lenS st + 1) st).1
def pairsS (st : Sta) : Sta := (pairR (He.lenS st + 1) st).2
theorem hpairs_c (i : Nat) (h : List (List AV)) (st : Sta) (hi : h[i]? = some (scC st)) (hl : He.lenS st ≤ 1000000000000) : Contract Try.prog 14 [.agg [.box i 0]] h (.sl 2 (enc paC (pairsV st)) none .no) (h.set i (scC (pairsS st))) [i] := by
  have hil := heap_lt hi
  refine contract_of k14 mixed (by simp [c14]) fun hh hargs => ?_
  simp [c14]
  refine xloop_ok (D := List Pa × Sta × Nat) (fun d => ⟨[(1, .box h.length 0)], [(3, .sl 2 (enc paC d.1) none (.own (.slot 3)))], h.set i (scC d.2.1) ++ [[.box i 0]], [i]⟩)
    (fun d => pairsV st = d.1 ++ (pairR d.2.2 d.2.1).1 ∧ pairsS st = (pairR d.2.2 d.2.1).2 ∧ He.lenS d.2.1 < d.2.2 ∧ d.1.length + He.lenS d.2.1 ≤ He.lenS st) (fun d => d.2.2) ([], st, He.lenS st + 1) ⟨rfl, rfl, by simp, by simp⟩ ?_ ?_
  · simp [Leq, hh, hil, scC_lt, set_same hi]
    omega
  · rintro ⟨acc, s, k⟩ ⟨e1, e2, e3, e4⟩
    dsimp only at e1 e2 e3 e4
    obtain ⟨k, rfl⟩ : ∃ n, k = n + 1 := ⟨k - 1, by omega⟩
    rw [pairR] at e1 e2
    simp
    refine xcall_self (by simp) (text_c i _ s (app_set_get hil _ _) (by omega)) ?_
    simp [app_set_set hil]
    by_cases hz : He.textL s = []
    · rw [if_pos hz] at e1 e2
      simp at e1
      simp [hz, hh, hil, e1, e2, scC_lt]
    · rw [if_neg hz] at e1 e2
      have hless := He.textS_lt hz
      have hlt := He.textS_len (textS s)
      have hb : (acc.length + 1) * 32 ≤ 140737488355328 := by omega
      have hb2 : acc.length + 1 ≤ 140737488355328 := by omega
      simp [hz]
      refine xcall_self (by simp) (text_c i _ (textS s) (app_set_get hil _ _) (by omega)) ?_
      simp [app_set_set hil, hb, hb2]
      refine ⟨acc ++ [⟨He.textL s, He.textL (textS s)⟩], textS (textS s), k, ⟨by rw [e1]; simp, e2, by omega, by simp; omega⟩, by omega, ?_⟩
      simp [Leq, hh, hil, scC_lt, paC_mk]
      omega
end Go.Proofs.Ytdijlfgmpinidaa.Ax
/- Hello over values without memory: Parse. -/
namespace Go.Proofs.Ytdijlfgmpinidaa.Ax
open Go.RowKit Go By Nm Sc Dg
set_option linter.unusedSimpArgs false
set_option linter.unusedVariables false
set_option maxRecDepth 10000

def noHm : Hm := ⟨0, 0, 0, []⟩
/-- What Parse answers, out of the code and the state behind it. -/
def parse2 (c : Int) (st : Sta) : Hm × Int :=
  if badB st = true then (noHm, 4)
  else if c = 196608 then (if doneB (pairsS st) = true then (⟨c, 0, 0, pairsV st⟩, 0) else (noHm, 4))
  else if c = 80877102 then (if doneB (numS (numS st 4) 4) = true then (⟨c, numV st 4, numV (numS st 4) 4, []⟩, 0) else (noHm, 4))
  else if c = 80877103 then (if doneB st = true then (⟨c, 0, 0, []⟩, 0) else (noHm, 4))
  else (noHm, 9)
def parseH (xs : List UInt8) : Hm × Int := parse2 (numV (some xs) 4) (numS (some xs) 4)
theorem hparse_c (xs : List UInt8) (hx : xs.length ≤ 1000000000000) (h : List (List AV)) : Contract Try.prog 5 [.sl 1 (bytesE xs) none .no] h (.tup [.agg (hmC (parseH xs).1), .v (.int .i64 (parseH xs).2)]) h [] := by
  refine contract_of k5 mixed (by simp [c5]) fun hh hargs => ?_
  simp [c5]
  refine xcall_self (by simp) (new_c xs (by omega) _) ?_
  simp
  refine xcall_self (by simp) (num_c (h.length + 1) _ (some xs) (by simp) 4) ?_
  simp
  unfold parseH
  have hl : He.lenS (numS (some xs) 4) ≤ 1000000000000 := Nat.le_trans (numS_len _ _) hx
  generalize numV (some xs) 4 = c at *
  generalize numS (some xs) 4 = st at *
  refine xcall_self (by simp) (bad_c (h.length + 1) _ st (by simp)) ?_
  unfold parse2
  cases hb : badB st with
  | true => simp [hh, noHm, hmC_mk]
  | false =>
  simp
  by_cases h1 : c = 196608
  · simp [h1]
    refine xcall_self (by simp) (hpairs_c (h.length + 1) _ st (by simp) hl) ?_
    simp
    refine xcall_self (by simp) (done_c (h.length + 1) _ (pairsS st) (by simp)) ?_
    cases hd : doneB (pairsS st) with
    | false => simp [hh, noHm, hmC_mk]
    | true => simp [hh, hmC_mk]
  by_cases h2 : c = 80877102
  · simp [h1, h2]
    refine xcall_self (by simp) (num_c (h.length + 1) _ st (by simp) 4) ?_
    simp
    refine xcall_self (by simp) (num_c (h.length + 1) _ (numS st 4) (by simp) 4) ?_
    simp
    refine xcall_self (by simp) (done_c (h.length + 1) _ (numS (numS st 4) 4) (by simp)) ?_
    cases hd : doneB (numS (numS st 4) 4) with
    | false => simp [hh, noHm, hmC_mk]
    | true => simp [hh, hmC_mk]
  by_cases h3 : c = 80877103
  · simp [h1, h2, h3]
    refine xcall_self (by simp) (done_c (h.length + 1) _ st (by simp)) ?_
    cases hd : doneB st with
    | false => simp [hh, noHm, hmC_mk]
    | true => simp [hh, hmC_mk]
  · simp [h1, h2, h3, hh, noHm, hmC_mk]
end Go.Proofs.Ytdijlfgmpinidaa.Ax
/- Hello over values without memory: awake, HelloBuilds. -/
namespace Go.Proofs.Ytdijlfgmpinidaa.Ax
open Go.RowKit Go By Nm Sc Dg
set_option linter.unusedSimpArgs false
set_option linter.unusedVariables false
set_option maxRecDepth 10000

def awH : Hm := ⟨196608, 0, 0, [⟨[117, 115, 101, 114], [97]⟩]⟩
def awX : List UInt8 := [0, 3, 0, 0, 117, 115, 101, 114, 0, 97, 0, 0]
theorem awH_build : buildH awH = (awX, 0) := by decide +kernel
theorem awH_bytes : (bytesH awH).length ≤ 12 := by decide +kernel
theorem awH_parse : parseH awX = (awH, 0) := by decide +kernel
theorem awH_user : userH awH.params = [97] := by decide +kernel
theorem hawake_c (h : List (List AV)) : Contract Try.prog 4 [] h (.v (.bool true)) h [] := by
  refine contract_of k4 mixed (by simp [c4]) fun hh hargs => ?_
  simp [c4]
  refine xcall_of (hbuild_c awH (by decide) (Nat.le_trans awH_bytes (by omega)) _) (by simp [hmC_mk, awH, paC_mk, intC]) (by simp) ?_
  rw [awH_build]
  simp
  refine xcall_self (by simp) (hparse_c awX (by decide) _) ?_
  rw [awH_parse]
  have l : awX.length = 12 := rfl
  simp [l]
  refine xcall_self (by simp) (huser_c awH (by decide) _) ?_
  rw [awH_user]
  simp [hh]
theorem fewH_parts {l : List Pa} (h : fewH l = true) : l.length ≤ 40 ∧ ∀ p ∈ l, p.name.length ≤ 200 ∧ p.value.length ≤ 200 := by
  simp only [fewH, Bool.and_eq_true, decide_eq_true_eq] at h
  refine ⟨h.1, fun p hp => ?_⟩
  have := List.all_eq_true.1 h.2 p hp
  simp only [shortP, Bool.and_eq_true, decide_eq_true_eq] at this
  omega
theorem pairs_le : ∀ l : List Pa, (∀ p ∈ l, p.name.length ≤ 200 ∧ p.value.length ≤ 200) → (pairsE l).length ≤ 402 * l.length
  | [], _ => by simp [pairsE]
  | p :: l, hl => by
    have h1 := pairs_le l fun c hc => hl c (List.mem_cons_of_mem _ hc)
    have h2 := hl p (List.mem_cons_self ..)
    unfold pairsE at *
    rw [List.flatMap_cons, List.length_append, List.length_cons, pairE_eq]
    simp only [List.length_append, List.length_cons, List.length_nil]
    omega
theorem bytesH_le {m : Hm} (h : fewH m.params = true) : (bytesH m).length ≤ 20000 := by
  obtain ⟨h1, h2⟩ := fewH_parts h
  have h3 := pairs_le _ h2
  have n1 := numE4_len m.code
  have n2 := numE4_len m.process
  have n3 := numE4_len m.secret
  unfold bytesH
  repeat' split
  all_goals try simp only [List.length_append, List.length_cons, List.length_nil]
  all_goals omega
end Go.Proofs.Ytdijlfgmpinidaa.Ax
namespace Go.Proofs.Ytdijlfgmpinidaa.Ax
open Go.RowKit Go By Nm Sc Dg
set_option linter.unusedSimpArgs false
set_option linter.unusedVariables false

theorem pairE_app (p : Pa) (r : List UInt8) : pairE p ++ r = He.encT p.name ++ (He.encT p.value ++ r) := by
  rw [pairE_eq]; simp [He.encT]
theorem badPa_parts {p : Pa} (h : badPa p = false) : p.name ≠ [] ∧ cleanB p.name = true ∧ cleanB p.value = true := by
  simp only [badPa, Bool.or_eq_false_iff, Bool.not_eq_false', beq_eq_false_iff_ne] at h
  exact ⟨h.1.1, h.1.2, h.2⟩
theorem badPa_of {p : Pa} (h1 : p.name ≠ []) (h2 : cleanB p.name = true) (h3 : cleanB p.value = true) : badPa p = false := by
  simp only [badPa, Bool.or_eq_false_iff, Bool.not_eq_false', beq_eq_false_iff_ne]
  exact ⟨⟨h1, h2⟩, h3⟩
theorem pairR_nil (k : Nat) (r : List UInt8) : pairR k (some (0 :: r)) = ([], some r) := by
  obtain ⟨a, b⟩ := He.text_enc (t := []) r rfl
  have e : He.encT [] ++ r = 0 :: r := rfl
  rw [e] at a b
  cases k with
  | zero => rw [pairR, b]
  | succ k => rw [pairR, if_pos a, b]
theorem pairs_there : ∀ (l : List Pa) (k : Nat) (r : List UInt8), l.length ≤ k → (∀ p ∈ l, badPa p = false) → pairR k (some (pairsE l ++ (0 :: r))) = (l, some r)
  | [], k, r, _, _ => pairR_nil k r
  | p :: l, 0, r, h, _ => by simp at h
  | p :: l, k + 1, r, h, hl => by
    obtain ⟨h1, h2, h3⟩ := badPa_parts (hl p (by simp))
    have e : pairsE (p :: l) ++ (0 :: r) = He.encT p.name ++ (He.encT p.value ++ (pairsE l ++ (0 :: r))) := by
      unfold pairsE
      rw [List.flatMap_cons, List.append_assoc, pairE_app]
    obtain ⟨a1, b1⟩ := He.text_enc (He.encT p.value ++ (pairsE l ++ (0 :: r))) h2
    obtain ⟨a2, b2⟩ := He.text_enc (pairsE l ++ (0 :: r)) h3
    rw [e, pairR, a1, b1, if_neg h1, a2, b2, pairs_there l k r (by simpa using h) (fun q hq => hl q (by simp [hq]))]
theorem pairR_none : ∀ k, pairR k none = ([], none)
  | 0 => rfl
  | k + 1 => rfl
theorem pairs_back : ∀ (k : Nat) (xs r : List UInt8) (l : List Pa), xs.length < k → pairR k (some xs) = (l, some r) → xs = pairsE l ++ (0 :: r) ∧ ∀ p ∈ l, badPa p = false
  | 0, xs, r, l, h, _ => by simp at h
  | k + 1, xs, r, l, h, hr => by
    rw [pairR] at hr
    by_cases hz : He.textL (some xs) = []
    · rw [if_pos hz] at hr
      obtain ⟨rfl, e⟩ := Prod.mk.inj hr
      obtain ⟨b, _⟩ := He.text_back e
      rw [hz] at b
      exact ⟨b, by simp⟩
    · rw [if_neg hz] at hr
      obtain ⟨hl, e⟩ := Prod.mk.inj hr
      cases e1 : textS (some xs) with
      | none => rw [e1] at e; change (pairR k none).2 = some r at e; rw [pairR_none] at e; cases e
      | some y1 =>
        rw [e1] at e hl
        cases e2 : textS (some y1) with
        | none => rw [e2, pairR_none] at e; cases e
        | some y2 =>
          rw [e2] at e hl
          obtain ⟨b1, c1⟩ := He.text_back e1
          obtain ⟨b2, c2⟩ := He.text_back e2
          have hlen1 := congrArg List.length b1
          have hlen2 := congrArg List.length b2
          simp only [List.length_append, He.encT, List.length_singleton] at hlen1 hlen2
          obtain ⟨b3, c3⟩ := pairs_back k y2 r (pairR k (some y2)).1 (by omega) (by rw [← e])
          subst hl
          refine ⟨?_, fun p hp => ?_⟩
          · unfold pairsE
            rw [List.flatMap_cons, List.append_assoc, pairE_app]
            unfold pairsE at b3
            rw [← b3, ← b2, ← b1]
          · rcases List.mem_cons.1 hp with rfl | hp
            · exact badPa_of hz c1 c2
            · exact c3 p hp
end Go.Proofs.Ytdijlfgmpinidaa.Ax
