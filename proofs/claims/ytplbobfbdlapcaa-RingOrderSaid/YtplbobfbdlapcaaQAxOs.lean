/- Bytes that wait, over values without memory: those that no call made, awake. -/
import Derived.Test.YtplbobfbdlapcaaQAxX
import Derived.Test.YtplbobfbdlapcaaRows
import Derived.Test.YtplbobfbdlapcaaQAxTz
import Derived.Test.YtplbobfbdlapcaaQAxIb
/- The texts of functions over values without memory, as the kernel reckons them out of the program. -/
namespace Go.Proofs.Ytplbobfbdlapcaa.Ax
open Go.RowKit Go By

def c13 : XFun := ⟨14, (.seq (.ops [⟨(some 2), (.assign (.const (.pointer none))), none⟩, ⟨(some 3), (.assign (.const (.int .i64 0))), none⟩]) (.seq (.seq (.ops [⟨(some 4), (.move (.tmp 0)), none⟩, ⟨(some 5), (.bin .lss (.tmp 4) (.const (.int .i64 1))), none⟩, ⟨(some 6), (.move (.tmp 5)), none⟩, ⟨(some 7), (.move (.tmp 0)), (some (6, false))⟩, ⟨(some 8), (.bin .gtr (.tmp 7) (.const (.int .i64 1048576))), (some (6, false))⟩, ⟨(some 9), (.pick (.tmp 6) (.const (.bool true)) (.tmp 8)), none⟩]) (.cond (.tmp 9) (.seq (.ops [⟨(some 2), (.assign (.const (.pointer none))), none⟩, ⟨(some 3), (.assign (.const (.int .i64 1))), none⟩]) .ret) .skip)) (.seq (.ops [⟨(some 10), (.move (.tmp 0)), none⟩, ⟨(some 11), (.makeB 1 1 [(.v (.int .u8 0))] (.tmp 10)), none⟩, ⟨(some 12), (.build [(.sl 0 [] (some true) .exact), (.v (.int .i64 0)), (.v (.int .i64 0))] [(0, (1, (.tmp 11)))]), none⟩, ⟨(some 13), (.box (.tmp 12)), none⟩, ⟨(some 2), (.assign (.tmp 13)), none⟩, ⟨(some 3), (.assign (.const (.int .i64 0))), none⟩]) .ret))), [(.move (.tmp 2)), (.move (.tmp 3))]⟩
theorem k13 : cfun Try.prog 13 = some c13 := by kernel_rfl
def c18 : XFun := ⟨48, (.seq (.ops [⟨(some 4), (.assign (.const (.int .i64 0))), none⟩]) (.seq (.block 0 (.seq (.ops [⟨(some 8), (.move (.tmp 0)), none⟩, ⟨(some 9), (.call 28 [(.tmp 8)]), none⟩, ⟨(some 10), (.un .not (.tmp 9)), none⟩, ⟨(some 7), (.assign (.tmp 10)), none⟩]) (.cond (.tmp 7) (.seq (.ops [⟨(some 4), (.assign (.const (.int .i64 2))), none⟩]) .ret) (.seq (.ops [⟨(some 12), (.move (.tmp 1)), none⟩, ⟨(some 13), (.lenL (.tmp 12)), none⟩, ⟨(some 14), (.move (.tmp 0)), none⟩, ⟨(some 15), (.call 21 [(.tmp 14)]), none⟩, ⟨(some 16), (.bin .gtr (.tmp 13) (.tmp 15)), none⟩, ⟨(some 11), (.assign (.tmp 16)), none⟩]) (.cond (.tmp 11) (.seq (.ops [⟨(some 4), (.assign (.const (.int .i64 6))), none⟩]) .ret) .skip))))) (.seq (.ops [⟨(some 17), (.move (.tmp 0)), none⟩, ⟨(some 18), (.move (.tmp 0)), none⟩, ⟨(some 19), (.nilCheck (.tmp 18)), none⟩, ⟨(some 20), (.faddr 2 (.tmp 19)), none⟩, ⟨(some 21), (.load1 (.tmp 20)), none⟩, ⟨(some 22), (.call 27 [(.tmp 17), (.tmp 21)]), none⟩, ⟨(some 5), (.assign (.tmp 22)), none⟩]) (.seq (.ops [⟨(some 23), (.move (.tmp 0)), none⟩, ⟨(some 24), (.nilCheck (.tmp 23)), none⟩, ⟨(some 25), (.faddr 0 (.tmp 24)), none⟩, ⟨(some 26), (.load1 (.tmp 25)), none⟩, ⟨(some 27), (.move (.tmp 5)), none⟩, ⟨(some 28), (.slice 1 (.tmp 26) (some (.tmp 27)) none none), none⟩, ⟨(some 29), (.move (.tmp 1)), none⟩, ⟨(some 30), (.copyB (.tmp 28) (.tmp 29)), none⟩, ⟨(some 6), (.assign (.tmp 30)), none⟩]) (.seq (.draws (.take ⟨(some 31), (.move (.tmp 0)), none⟩ (.take ⟨(some 32), (.nilCheck (.tmp 31)), none⟩ (.take ⟨(some 33), (.faddr 0 (.tmp 32)), none⟩ (.take ⟨(some 34), (.load1 (.tmp 33)), none⟩ (.take ⟨(some 35), (.move (.tmp 1)), none⟩ (.take ⟨(some 36), (.move (.tmp 6)), none⟩ (.take ⟨(some 37), (.slice 1 (.tmp 35) (some (.tmp 36)) none none), none⟩ (.last ⟨(some 38), (.copyB (.tmp 34) (.tmp 37)), none⟩))))))))) (.seq (.ops [⟨(some 39), (.move (.tmp 0)), none⟩, ⟨(some 40), (.nilCheck (.tmp 39)), none⟩, ⟨(some 41), (.faddr 2 (.tmp 40)), none⟩, ⟨(some 42), (.load1 (.tmp 41)), none⟩, ⟨(some 43), (.move (.tmp 1)), none⟩, ⟨(some 44), (.lenL (.tmp 43)), none⟩, ⟨(some 45), (.bin .add (.tmp 42) (.tmp 44)), none⟩, ⟨(some 46), (.nilCheck (.tmp 39)), none⟩, ⟨(some 47), (.faddr 2 (.tmp 46)), none⟩, ⟨none, (.store 1 (.tmp 47) (.tmp 45)), none⟩]) (.seq (.ops [⟨(some 4), (.assign (.const (.int .i64 0))), none⟩]) .ret))))))), [(.move (.tmp 4))]⟩
theorem k18 : cfun Try.prog 18 = some c18 := by kernel_rfl
def c16 : XFun := ⟨49, (.seq (.ops [⟨(some 4), (.assign (.const (.slice none 0 0))), none⟩]) (.seq (.ops [⟨(some 7), (.move (.tmp 1)), none⟩, ⟨(some 8), (.move (.tmp 0)), none⟩, ⟨(some 9), (.call 20 [(.tmp 8)]), none⟩, ⟨(some 10), (.minI [(.tmp 7), (.tmp 9)]), none⟩, ⟨(some 1), (.assign (.tmp 10)), none⟩]) (.seq (.seq (.ops [⟨(some 11), (.move (.tmp 1)), none⟩, ⟨(some 12), (.bin .lss (.tmp 11) (.const (.int .i64 1))), none⟩]) (.cond (.tmp 12) (.seq (.ops [⟨(some 4), (.assign (.const (.slice none 0 0))), none⟩]) .ret) .skip)) (.seq (.ops [⟨(some 13), (.move (.tmp 1)), none⟩, ⟨(some 14), (.makeB 1 1 [(.v (.int .u8 0))] (.tmp 13)), none⟩, ⟨(some 5), (.assign (.tmp 14)), none⟩]) (.seq (.draws (.take ⟨(some 15), (.move (.tmp 5)), none⟩ (.take ⟨(some 16), (.move (.tmp 0)), none⟩ (.take ⟨(some 17), (.nilCheck (.tmp 16)), none⟩ (.take ⟨(some 18), (.faddr 0 (.tmp 17)), none⟩ (.take ⟨(some 19), (.load1 (.tmp 18)), none⟩ (.take ⟨(some 20), (.move (.tmp 0)), none⟩ (.take ⟨(some 21), (.nilCheck (.tmp 20)), none⟩ (.take ⟨(some 22), (.faddr 1 (.tmp 21)), none⟩ (.take ⟨(some 23), (.load1 (.tmp 22)), none⟩ (.take ⟨(some 24), (.slice 1 (.tmp 19) (some (.tmp 23)) none none), none⟩ (.only ⟨(some 25), (.copyB (.tmp 15) (.tmp 24)), none⟩ (.take ⟨(some 6), (.assign (.tmp 25)), none⟩ .done))))))))))))) (.seq (.draws (.take ⟨(some 26), (.move (.tmp 5)), none⟩ (.take ⟨(some 27), (.move (.tmp 6)), none⟩ (.take ⟨(some 28), (.slice 1 (.tmp 26) (some (.tmp 27)) none none), none⟩ (.take ⟨(some 29), (.move (.tmp 0)), none⟩ (.take ⟨(some 30), (.nilCheck (.tmp 29)), none⟩ (.take ⟨(some 31), (.faddr 0 (.tmp 30)), none⟩ (.take ⟨(some 32), (.load1 (.tmp 31)), none⟩ (.last ⟨(some 33), (.copyB (.tmp 28) (.tmp 32)), none⟩))))))))) (.seq (.ops [⟨(some 34), (.move (.tmp 0)), none⟩, ⟨(some 35), (.move (.tmp 0)), none⟩, ⟨(some 36), (.move (.tmp 1)), none⟩, ⟨(some 37), (.call 27 [(.tmp 35), (.tmp 36)]), none⟩, ⟨(some 38), (.nilCheck (.tmp 34)), none⟩, ⟨(some 39), (.faddr 1 (.tmp 38)), none⟩, ⟨none, (.store 1 (.tmp 39) (.tmp 37)), none⟩]) (.seq (.ops [⟨(some 40), (.move (.tmp 0)), none⟩, ⟨(some 41), (.nilCheck (.tmp 40)), none⟩, ⟨(some 42), (.faddr 2 (.tmp 41)), none⟩, ⟨(some 43), (.load1 (.tmp 42)), none⟩, ⟨(some 44), (.move (.tmp 1)), none⟩, ⟨(some 45), (.bin .sub (.tmp 43) (.tmp 44)), none⟩, ⟨(some 46), (.nilCheck (.tmp 40)), none⟩, ⟨(some 47), (.faddr 2 (.tmp 46)), none⟩, ⟨none, (.store 1 (.tmp 47) (.tmp 45)), none⟩]) (.seq (.ops [⟨(some 48), (.move (.tmp 5)), none⟩, ⟨(some 4), (.assign (.tmp 48)), none⟩]) .ret))))))))), [(.move (.tmp 4))]⟩
theorem k16 : cfun Try.prog 16 = some c16 := by kernel_rfl
def c20 : XFun := ⟨10, (.seq (.ops [⟨(some 2), (.assign (.const (.int .i64 0))), none⟩]) (.seq (.seq (.ops [⟨(some 3), (.move (.tmp 0)), none⟩, ⟨(some 4), (.call 28 [(.tmp 3)]), none⟩, ⟨(some 5), (.un .not (.tmp 4)), none⟩]) (.cond (.tmp 5) (.seq (.ops [⟨(some 2), (.assign (.const (.int .i64 0))), none⟩]) .ret) .skip)) (.seq (.ops [⟨(some 6), (.move (.tmp 0)), none⟩, ⟨(some 7), (.nilCheck (.tmp 6)), none⟩, ⟨(some 8), (.faddr 2 (.tmp 7)), none⟩, ⟨(some 9), (.load1 (.tmp 8)), none⟩, ⟨(some 2), (.assign (.tmp 9)), none⟩]) .ret))), [(.move (.tmp 2))]⟩
theorem k20 : cfun Try.prog 20 = some c20 := by kernel_rfl
def c21 : XFun := ⟨16, (.seq (.ops [⟨(some 2), (.assign (.const (.int .i64 0))), none⟩]) (.seq (.seq (.ops [⟨(some 3), (.move (.tmp 0)), none⟩, ⟨(some 4), (.call 28 [(.tmp 3)]), none⟩, ⟨(some 5), (.un .not (.tmp 4)), none⟩]) (.cond (.tmp 5) (.seq (.ops [⟨(some 2), (.assign (.const (.int .i64 0))), none⟩]) .ret) .skip)) (.seq (.draws (.take ⟨(some 6), (.move (.tmp 0)), none⟩ (.take ⟨(some 7), (.nilCheck (.tmp 6)), none⟩ (.take ⟨(some 8), (.faddr 0 (.tmp 7)), none⟩ (.take ⟨(some 9), (.load1 (.tmp 8)), none⟩ (.take ⟨(some 10), (.lenL (.tmp 9)), none⟩ (.take ⟨(some 11), (.move (.tmp 0)), none⟩ (.take ⟨(some 12), (.nilCheck (.tmp 11)), none⟩ (.take ⟨(some 13), (.faddr 2 (.tmp 12)), none⟩ (.take ⟨(some 14), (.load1 (.tmp 13)), none⟩ (.take ⟨(some 15), (.bin .sub (.tmp 10) (.tmp 14)), none⟩ (.take ⟨(some 2), (.assign (.tmp 15)), none⟩ .done)))))))))))) .ret))), [(.move (.tmp 2))]⟩
theorem k21 : cfun Try.prog 21 = some c21 := by kernel_rfl
def c28 : XFun := ⟨13, (.seq (.ops [⟨(some 2), (.assign (.const (.bool false))), none⟩]) (.seq (.ops [⟨(some 3), (.move (.tmp 0)), none⟩, ⟨(some 4), (.pnileq true (.tmp 3)), none⟩, ⟨(some 5), (.move (.tmp 4)), none⟩, ⟨(some 6), (.move (.tmp 0)), (some (5, true))⟩, ⟨(some 7), (.nilCheck (.tmp 6)), (some (5, true))⟩, ⟨(some 8), (.faddr 0 (.tmp 7)), (some (5, true))⟩, ⟨(some 9), (.load1 (.tmp 8)), (some (5, true))⟩, ⟨(some 10), (.lenL (.tmp 9)), (some (5, true))⟩, ⟨(some 11), (.bin .gtr (.tmp 10) (.const (.int .i64 0))), (some (5, true))⟩, ⟨(some 12), (.pick (.tmp 5) (.tmp 11) (.const (.bool false))), none⟩, ⟨(some 2), (.assign (.tmp 12)), none⟩]) .ret)), [(.move (.tmp 2))]⟩
theorem k28 : cfun Try.prog 28 = some c28 := by kernel_rfl
def c27 : XFun := ⟨17, (.seq (.ops [⟨(some 4), (.assign (.const (.int .i64 0))), none⟩]) (.seq (.draws (.take ⟨(some 5), (.move (.tmp 0)), none⟩ (.take ⟨(some 6), (.nilCheck (.tmp 5)), none⟩ (.take ⟨(some 7), (.faddr 1 (.tmp 6)), none⟩ (.take ⟨(some 8), (.load1 (.tmp 7)), none⟩ (.take ⟨(some 9), (.move (.tmp 1)), none⟩ (.take ⟨(some 10), (.bin .add (.tmp 8) (.tmp 9)), none⟩ (.take ⟨(some 11), (.move (.tmp 0)), none⟩ (.take ⟨(some 12), (.nilCheck (.tmp 11)), none⟩ (.take ⟨(some 13), (.faddr 0 (.tmp 12)), none⟩ (.take ⟨(some 14), (.load1 (.tmp 13)), none⟩ (.take ⟨(some 15), (.lenL (.tmp 14)), none⟩ (.take ⟨(some 16), (.bin .rem (.tmp 10) (.tmp 15)), none⟩ (.take ⟨(some 4), (.assign (.tmp 16)), none⟩ .done)))))))))))))) .ret)), [(.move (.tmp 4))]⟩
theorem k27 : cfun Try.prog 27 = some c27 := by kernel_rfl
def c22 : XFun := ⟨45, (.seq (.ops [⟨(some 0), (.assign (.const (.bool false))), none⟩]) (.seq (.ops [⟨(some 4), (.call 13 [(.const (.int .i64 4))]), none⟩, ⟨(some 3), (.move (.tmp 4)), none⟩, ⟨(some 5), (.extract (.tmp 3) 0), none⟩, ⟨(some 6), (.extract (.tmp 3) 1), none⟩, ⟨(some 1), (.assign (.tmp 5)), none⟩, ⟨(some 2), (.assign (.tmp 6)), none⟩]) (.seq (.ops [⟨(some 7), (.move (.tmp 1)), none⟩, ⟨(some 8), (.pnileq true (.tmp 7)), none⟩, ⟨(some 9), (.move (.tmp 8)), none⟩, ⟨(some 10), (.move (.tmp 2)), (some (9, true))⟩, ⟨(some 11), (.bin .eql (.tmp 10) (.const (.int .i64 0))), (some (9, true))⟩, ⟨(some 12), (.pick (.tmp 9) (.tmp 11) (.const (.bool false))), none⟩, ⟨(some 13), (.move (.tmp 12)), none⟩, ⟨(some 14), (.move (.tmp 1)), (some (13, true))⟩, ⟨(some 15), (.buildSlice 1 3 [(.v (.int .u8 0))] [(0, (.const (.int .u8 97))), (1, (.const (.int .u8 98))), (2, (.const (.int .u8 99)))]), (some (13, true))⟩, ⟨(some 16), (.move (.tmp 15)), (some (13, true))⟩, ⟨(some 17), (.call 18 [(.tmp 14), (.tmp 16)]), (some (13, true))⟩, ⟨(some 18), (.bin .eql (.tmp 17) (.const (.int .i64 0))), (some (13, true))⟩, ⟨(some 19), (.pick (.tmp 13) (.tmp 18) (.const (.bool false))), none⟩, ⟨(some 20), (.move (.tmp 19)), none⟩, ⟨(some 21), (.move (.tmp 1)), (some (20, true))⟩, ⟨(some 22), (.call 16 [(.tmp 21), (.const (.int .i64 2))]), (some (20, true))⟩, ⟨(some 23), (.b2s (.tmp 22)), (some (20, true))⟩, ⟨(some 24), (.bin .eql (.tmp 23) (.const (.string (strB [97, 98])))), (some (20, true))⟩, ⟨(some 25), (.pick (.tmp 20) (.tmp 24) (.const (.bool false))), none⟩, ⟨(some 26), (.move (.tmp 25)), none⟩, ⟨(some 27), (.move (.tmp 1)), (some (26, true))⟩, ⟨(some 28), (.buildSlice 1 3 [(.v (.int .u8 0))] [(0, (.const (.int .u8 100))), (1, (.const (.int .u8 101))), (2, (.const (.int .u8 102)))]), (some (26, true))⟩, ⟨(some 29), (.move (.tmp 28)), (some (26, true))⟩, ⟨(some 30), (.call 18 [(.tmp 27), (.tmp 29)]), (some (26, true))⟩, ⟨(some 31), (.bin .eql (.tmp 30) (.const (.int .i64 0))), (some (26, true))⟩, ⟨(some 32), (.pick (.tmp 26) (.tmp 31) (.const (.bool false))), none⟩, ⟨(some 33), (.move (.tmp 32)), none⟩, ⟨(some 34), (.move (.tmp 1)), (some (33, true))⟩, ⟨(some 35), (.buildSlice 1 1 [(.v (.int .u8 0))] [(0, (.const (.int .u8 103)))]), (some (33, true))⟩, ⟨(some 36), (.move (.tmp 35)), (some (33, true))⟩, ⟨(some 37), (.call 18 [(.tmp 34), (.tmp 36)]), (some (33, true))⟩, ⟨(some 38), (.bin .eql (.tmp 37) (.const (.int .i64 6))), (some (33, true))⟩, ⟨(some 39), (.pick (.tmp 33) (.tmp 38) (.const (.bool false))), none⟩, ⟨(some 40), (.move (.tmp 39)), none⟩, ⟨(some 41), (.move (.tmp 1)), (some (40, true))⟩, ⟨(some 42), (.call 20 [(.tmp 41)]), (some (40, true))⟩, ⟨(some 43), (.bin .eql (.tmp 42) (.const (.int .i64 4))), (some (40, true))⟩, ⟨(some 44), (.pick (.tmp 40) (.tmp 43) (.const (.bool false))), none⟩, ⟨(some 0), (.assign (.tmp 44)), none⟩]) .ret))), [(.move (.tmp 0))]⟩
theorem k22 : cfun Try.prog 22 = some c22 := by kernel_rfl
def c5 : XFun := ⟨97, (.seq (.ops [⟨(some 4), (.assign (.const (.bool false))), none⟩]) (.seq (.ops [⟨(some 13), (.move (.tmp 0)), none⟩, ⟨(some 14), (.call 13 [(.tmp 13)]), none⟩, ⟨(some 12), (.move (.tmp 14)), none⟩, ⟨(some 15), (.extract (.tmp 12) 0), none⟩, ⟨(some 16), (.extract (.tmp 12) 1), none⟩, ⟨(some 5), (.assign (.tmp 15)), none⟩, ⟨(some 6), (.assign (.tmp 16)), none⟩]) (.seq (.ops [⟨(some 18), (.move (.tmp 0)), none⟩, ⟨(some 19), (.call 14 [(.tmp 18)]), none⟩, ⟨(some 17), (.move (.tmp 19)), none⟩, ⟨(some 20), (.extract (.tmp 17) 0), none⟩, ⟨(some 21), (.extract (.tmp 17) 1), none⟩, ⟨(some 7), (.assign (.tmp 20)), none⟩, ⟨(some 8), (.assign (.tmp 21)), none⟩]) (.seq (.seq (.ops [⟨(some 22), (.move (.tmp 6)), none⟩, ⟨(some 23), (.move (.tmp 8)), none⟩, ⟨(some 24), (.bin .neq (.tmp 22) (.tmp 23)), none⟩, ⟨(some 25), (.move (.tmp 24)), none⟩, ⟨(some 26), (.move (.tmp 5)), (some (25, false))⟩, ⟨(some 27), (.pnileq false (.tmp 26)), (some (25, false))⟩, ⟨(some 28), (.move (.tmp 7)), (some (25, false))⟩, ⟨(some 29), (.pnileq false (.tmp 28)), (some (25, false))⟩, ⟨(some 30), (.beq true (.tmp 27) (.tmp 29)), (some (25, false))⟩, ⟨(some 31), (.pick (.tmp 25) (.const (.bool true)) (.tmp 30)), none⟩]) (.cond (.tmp 31) (.seq (.ops [⟨(some 4), (.assign (.const (.bool false))), none⟩]) .ret) .skip)) (.seq (.seq (.ops [⟨(some 32), (.move (.tmp 1)), none⟩, ⟨(some 33), (.lenL (.tmp 32)), none⟩, ⟨(some 34), (.move (.const (.int .i64 0))), none⟩]) (.block 0 (.loop (.seq (.ops [⟨(some 35), (.bin .lss (.tmp 34) (.tmp 33)), none⟩]) (.seq (.cond (.tmp 35) .skip (.exit 0)) (.seq (.block 1 (.seq (.ops [⟨(some 36), (.move (.tmp 34)), none⟩, ⟨(some 37), (.iaddr 3 (.tmp 32) (.tmp 34)), none⟩, ⟨(some 38), (.loadN 3 (.tmp 37)), none⟩, ⟨(some 10), (.alloc [(.v (.bool false)), (.v (.int .i64 0)), (.sl 0 [] (some true) .exact)]), none⟩, ⟨(some 9), (.assign (.tmp 36)), none⟩, ⟨none, (.store 3 (.tmp 10) (.tmp 38)), none⟩]) (.seq (.seq (.ops [⟨(some 39), (.move (.tmp 9)), none⟩, ⟨(some 40), (.bin .geq (.tmp 39) (.const (.int .i64 100))), none⟩, ⟨(some 41), (.move (.tmp 40)), none⟩, ⟨(some 42), (.move (.tmp 7)), (some (41, false))⟩, ⟨(some 43), (.pnileq false (.tmp 42)), (some (41, false))⟩, ⟨(some 44), (.pick (.tmp 41) (.const (.bool true)) (.tmp 43)), none⟩, ⟨(some 45), (.move (.tmp 44)), none⟩, ⟨(some 46), (.faddr 2 (.tmp 10)), (some (45, false))⟩, ⟨(some 47), (.load1 (.tmp 46)), (some (45, false))⟩, ⟨(some 48), (.lenL (.tmp 47)), (some (45, false))⟩, ⟨(some 49), (.bin .gtr (.tmp 48) (.const (.int .i64 500))), (some (45, false))⟩, ⟨(some 50), (.pick (.tmp 45) (.const (.bool true)) (.tmp 49)), none⟩]) (.cond (.tmp 50) (.exit 0) .skip)) (.seq (.ops [⟨(some 11), (.assign (.const (.bool true))), none⟩]) (.seq (.seq (.ops [⟨(some 51), (.faddr 0 (.tmp 10)), none⟩, ⟨(some 52), (.load1 (.tmp 51)), none⟩]) (.cond (.tmp 52) (.draws (.take ⟨(some 53), (.move (.tmp 5)), none⟩ (.take ⟨(some 54), (.faddr 1 (.tmp 10)), none⟩ (.take ⟨(some 55), (.load1 (.tmp 54)), none⟩ (.take ⟨(some 57), (.move (.tmp 7)), none⟩ (.take ⟨(some 58), (.faddr 1 (.tmp 10)), none⟩ (.take ⟨(some 59), (.load1 (.tmp 58)), none⟩ (.only ⟨(some 56), (.call 16 [(.tmp 53), (.tmp 55)]), none⟩ (.only ⟨(some 60), (.call 17 [(.tmp 57), (.tmp 59)]), none⟩ (.only ⟨(some 61), (.call 15 [(.tmp 56), (.tmp 60)]), none⟩ (.take ⟨(some 11), (.assign (.tmp 61)), none⟩ .done))))))))))) (.draws (.take ⟨(some 62), (.move (.tmp 5)), none⟩ (.take ⟨(some 63), (.faddr 2 (.tmp 10)), none⟩ (.take ⟨(some 64), (.load1 (.tmp 63)), none⟩ (.take ⟨(some 66), (.move (.tmp 7)), none⟩ (.take ⟨(some 67), (.faddr 2 (.tmp 10)), none⟩ (.take ⟨(some 68), (.load1 (.tmp 67)), none⟩ (.only ⟨(some 65), (.call 18 [(.tmp 62), (.tmp 64)]), none⟩ (.only ⟨(some 69), (.call 19 [(.tmp 66), (.tmp 68)]), none⟩ (.take ⟨(some 70), (.bin .eql (.tmp 65) (.tmp 69)), none⟩ (.take ⟨(some 11), (.assign (.tmp 70)), none⟩ .done))))))))))))) (.seq (.draws (.take ⟨(some 71), (.move (.tmp 11)), none⟩ (.take ⟨(some 72), (.un .not (.tmp 71)), none⟩ (.take ⟨(some 73), (.move (.tmp 72)), none⟩ (.take ⟨(some 74), (.move (.tmp 5)), (some (73, false))⟩ (.take ⟨(some 76), (.move (.tmp 7)), (some (73, false))⟩ (.take ⟨(some 77), (.nilCheck (.tmp 76)), (some (73, false))⟩ (.take ⟨(some 78), (.faddr 0 (.tmp 77)), (some (73, false))⟩ (.take ⟨(some 79), (.load1 (.tmp 78)), (some (73, false))⟩ (.take ⟨(some 80), (.lenL (.tmp 79)), (some (73, false))⟩ (.only ⟨(some 75), (.call 20 [(.tmp 74)]), (some (73, false))⟩ (.take ⟨(some 81), (.bin .neq (.tmp 75) (.tmp 80)), (some (73, false))⟩ (.take ⟨(some 82), (.pick (.tmp 73) (.const (.bool true)) (.tmp 81)), none⟩ (.take ⟨(some 83), (.move (.tmp 82)), none⟩ (.take ⟨(some 84), (.move (.tmp 5)), (some (83, false))⟩ (.take ⟨(some 86), (.move (.tmp 0)), (some (83, false))⟩ (.take ⟨(some 87), (.move (.tmp 7)), (some (83, false))⟩ (.take ⟨(some 88), (.nilCheck (.tmp 87)), (some (83, false))⟩ (.take ⟨(some 89), (.faddr 0 (.tmp 88)), (some (83, false))⟩ (.take ⟨(some 90), (.load1 (.tmp 89)), (some (83, false))⟩ (.take ⟨(some 91), (.lenL (.tmp 90)), (some (83, false))⟩ (.take ⟨(some 92), (.bin .sub (.tmp 86) (.tmp 91)), (some (83, false))⟩ (.only ⟨(some 85), (.call 21 [(.tmp 84)]), (some (83, false))⟩ (.take ⟨(some 93), (.bin .neq (.tmp 85) (.tmp 92)), (some (83, false))⟩ (.take ⟨(some 94), (.pick (.tmp 83) (.const (.bool true)) (.tmp 93)), none⟩ .done))))))))))))))))))))))))) (.cond (.tmp 94) (.seq (.ops [⟨(some 4), (.assign (.const (.bool false))), none⟩]) .ret) .skip))))))) (.ops [⟨(some 95), (.bin .add (.tmp 34) (.const (.int .i64 1))), none⟩, ⟨(some 34), (.move (.tmp 95)), none⟩]))))))) (.seq (.ops [⟨(some 96), (.call 22 []), none⟩, ⟨(some 4), (.assign (.tmp 96)), none⟩]) .ret)))))), [(.move (.tmp 4))]⟩
def c6 : XFun := ⟨83, (.seq (.ops [⟨(some 4), (.assign (.const (.bool false))), none⟩]) (.seq (.ops [⟨(some 12), (.move (.tmp 0)), none⟩, ⟨(some 13), (.conv .i64 (.tmp 12)), none⟩, ⟨(some 14), (.bin .add (.const (.int .i64 1)) (.tmp 13)), none⟩, ⟨(some 15), (.call 13 [(.tmp 14)]), none⟩, ⟨(some 11), (.move (.tmp 15)), none⟩, ⟨(some 16), (.extract (.tmp 11) 0), none⟩, ⟨(some 17), (.extract (.tmp 11) 1), none⟩, ⟨(some 5), (.assign (.tmp 16)), none⟩, ⟨(some 6), (.assign (.tmp 17)), none⟩]) (.seq (.seq (.ops [⟨(some 18), (.move (.tmp 5)), none⟩, ⟨(some 19), (.pnileq false (.tmp 18)), none⟩, ⟨(some 20), (.move (.tmp 19)), none⟩, ⟨(some 21), (.move (.tmp 6)), (some (20, false))⟩, ⟨(some 22), (.bin .neq (.tmp 21) (.const (.int .i64 0))), (some (20, false))⟩, ⟨(some 23), (.pick (.tmp 20) (.const (.bool true)) (.tmp 22)), none⟩]) (.cond (.tmp 23) (.seq (.ops [⟨(some 4), (.assign (.const (.bool false))), none⟩]) .ret) .skip)) (.seq (.ops [⟨(some 7), (.assign (.const (.slice none 0 0))), none⟩, ⟨(some 8), (.assign (.const (.slice none 0 0))), none⟩]) (.seq (.seq (.ops [⟨(some 24), (.move (.tmp 1)), none⟩, ⟨(some 25), (.lenL (.tmp 24)), none⟩, ⟨(some 26), (.move (.const (.int .i64 0))), none⟩]) (.block 0 (.loop (.seq (.ops [⟨(some 27), (.bin .lss (.tmp 26) (.tmp 25)), none⟩]) (.seq (.cond (.tmp 27) .skip (.exit 0)) (.seq (.block 1 (.seq (.ops [⟨(some 28), (.move (.tmp 26)), none⟩, ⟨(some 29), (.iaddr 3 (.tmp 24) (.tmp 26)), none⟩, ⟨(some 30), (.loadN 3 (.tmp 29)), none⟩, ⟨(some 10), (.alloc [(.v (.bool false)), (.v (.int .i64 0)), (.sl 0 [] (some true) .exact)]), none⟩, ⟨(some 9), (.assign (.tmp 28)), none⟩, ⟨none, (.store 3 (.tmp 10) (.tmp 30)), none⟩]) (.seq (.seq (.ops [⟨(some 31), (.move (.tmp 9)), none⟩, ⟨(some 32), (.bin .geq (.tmp 31) (.const (.int .i64 100))), none⟩, ⟨(some 33), (.move (.tmp 32)), none⟩, ⟨(some 34), (.faddr 2 (.tmp 10)), (some (33, false))⟩, ⟨(some 35), (.load1 (.tmp 34)), (some (33, false))⟩, ⟨(some 36), (.lenL (.tmp 35)), (some (33, false))⟩, ⟨(some 37), (.bin .gtr (.tmp 36) (.const (.int .i64 500))), (some (33, false))⟩, ⟨(some 38), (.pick (.tmp 33) (.const (.bool true)) (.tmp 37)), none⟩]) (.cond (.tmp 38) (.exit 0) .skip)) (.seq (.seq (.ops [⟨(some 39), (.faddr 0 (.tmp 10)), none⟩, ⟨(some 40), (.load1 (.tmp 39)), none⟩]) (.cond (.tmp 40) (.ops [⟨(some 41), (.move (.tmp 8)), none⟩, ⟨(some 42), (.move (.tmp 5)), none⟩, ⟨(some 43), (.faddr 1 (.tmp 10)), none⟩, ⟨(some 44), (.load1 (.tmp 43)), none⟩, ⟨(some 45), (.call 16 [(.tmp 42), (.tmp 44)]), none⟩, ⟨(some 46), (.append 1 1 (.tmp 41) (.tmp 45)), none⟩, ⟨(some 8), (.assign (.tmp 46)), none⟩]) (.seq (.ops [⟨(some 47), (.move (.tmp 5)), none⟩, ⟨(some 48), (.faddr 2 (.tmp 10)), none⟩, ⟨(some 49), (.load1 (.tmp 48)), none⟩, ⟨(some 50), (.call 18 [(.tmp 47), (.tmp 49)]), none⟩, ⟨(some 51), (.bin .eql (.tmp 50) (.const (.int .i64 0))), none⟩]) (.cond (.tmp 51) (.ops [⟨(some 52), (.move (.tmp 7)), none⟩, ⟨(some 53), (.faddr 2 (.tmp 10)), none⟩, ⟨(some 54), (.load1 (.tmp 53)), none⟩, ⟨(some 55), (.append 1 1 (.tmp 52) (.tmp 54)), none⟩, ⟨(some 7), (.assign (.tmp 55)), none⟩]) .skip)))) (.seq (.ops [⟨(some 56), (.move (.tmp 5)), none⟩, ⟨(some 57), (.call 20 [(.tmp 56)]), none⟩, ⟨(some 58), (.move (.tmp 5)), none⟩, ⟨(some 59), (.call 21 [(.tmp 58)]), none⟩, ⟨(some 60), (.bin .add (.tmp 57) (.tmp 59)), none⟩, ⟨(some 61), (.move (.tmp 0)), none⟩, ⟨(some 62), (.conv .i64 (.tmp 61)), none⟩, ⟨(some 63), (.bin .add (.const (.int .i64 1)) (.tmp 62)), none⟩, ⟨(some 64), (.bin .neq (.tmp 60) (.tmp 63)), none⟩, ⟨(some 65), (.move (.tmp 64)), none⟩, ⟨(some 66), (.move (.tmp 5)), (some (65, false))⟩, ⟨(some 67), (.call 21 [(.tmp 66)]), (some (65, false))⟩, ⟨(some 68), (.bin .lss (.tmp 67) (.const (.int .i64 0))), (some (65, false))⟩, ⟨(some 69), (.pick (.tmp 65) (.const (.bool true)) (.tmp 68)), none⟩]) (.cond (.tmp 69) (.seq (.ops [⟨(some 4), (.assign (.const (.bool false))), none⟩]) .ret) .skip)))))) (.ops [⟨(some 70), (.bin .add (.tmp 26) (.const (.int .i64 1))), none⟩, ⟨(some 26), (.move (.tmp 70)), none⟩]))))))) (.seq (.ops [⟨(some 71), (.move (.tmp 8)), none⟩, ⟨(some 72), (.move (.tmp 5)), none⟩, ⟨(some 73), (.move (.tmp 5)), none⟩, ⟨(some 74), (.call 20 [(.tmp 73)]), none⟩, ⟨(some 75), (.call 16 [(.tmp 72), (.tmp 74)]), none⟩, ⟨(some 76), (.append 1 1 (.tmp 71) (.tmp 75)), none⟩, ⟨(some 8), (.assign (.tmp 76)), none⟩]) (.seq (.ops [⟨(some 77), (.move (.tmp 7)), none⟩, ⟨(some 78), (.move (.tmp 8)), none⟩, ⟨(some 79), (.call 15 [(.tmp 77), (.tmp 78)]), none⟩, ⟨(some 80), (.move (.tmp 79)), none⟩, ⟨(some 81), (.call 22 []), (some (80, true))⟩, ⟨(some 82), (.pick (.tmp 80) (.tmp 81) (.const (.bool false))), none⟩, ⟨(some 4), (.assign (.tmp 82)), none⟩]) .ret))))))), [(.move (.tmp 4))]⟩
theorem k6 : cfun Try.prog 6 = some c6 := by kernel_rfl
end Go.Proofs.Ytplbobfbdlapcaa.Ax
/- Bytes that wait, over values without memory: ring's calls. -/
namespace Go.Proofs.Ytplbobfbdlapcaa.Ax
open Go.RowKit Go By
set_option linter.unusedSimpArgs false
set_option linter.unusedVariables false
set_option maxRecDepth 10000

theorem mixedRi : Try.prog.follows .mixedOrders = true := by kernel_rfl
/-- Bytes, as a variable's cells. -/
def byL (l : List UInt8) : List AV := l.map fun c => .v (.int .u8 (c.toNat : Int))
@[simp] theorem byL_len (l : List UInt8) : (byL l).length = l.length := by simp [byL]
@[simp] theorem byL_lt (n : Nat) (l : List UInt8) : ltL n (byL l) = True := eq_true (ltL_of fun j c hc => by obtain ⟨x, _, rfl⟩ := List.mem_map.1 (List.mem_of_getElem? hc); trivial)
theorem byL_plain (l : List UInt8) : ∀ c ∈ byL l, c.idOf = none := fun c hc => by obtain ⟨x, _, rfl⟩ := List.mem_map.1 hc; rfl
theorem byL_take (l : List UInt8) (n : Nat) : (byL l).take n = byL (l.take n) := by simp [byL]
theorem byL_drop (l : List UInt8) (n : Nat) : (byL l).drop n = byL (l.drop n) := by simp [byL]
theorem map_lay {α β : Type} (f : α → β) : ∀ (ds cs : List α) (o : Nat), lay (cs.map f) o (ds.map f) = (lay cs o ds).map f
  | [], _, _ => rfl
  | x :: r, cs, o => by
    show lay ((cs.map f).set o (f x)) (o + 1) (r.map f) = (lay (cs.set o x) (o + 1) r).map f
    rw [← List.map_set, map_lay f r]
theorem byL_lay (cs ds : List UInt8) (o : Nat) : lay (byL cs) o (byL ds) = byL (lay cs o ds) := map_lay _ ds cs o
@[simp] theorem flat_bytes : ∀ l : List UInt8, (bytesE l).flatten = byL l
  | [] => rfl
  | x :: r => by show [_] ++ (bytesE r).flatten = _; rw [flat_bytes r]; rfl
theorem chunk_byL : ∀ l : List UInt8, chunk 1 l.length (byL l) = bytesE l
  | [] => rfl
  | x :: r => by
    show (byL (x :: r)).take 1 :: chunk 1 r.length ((byL (x :: r)).drop 1) = _
    have : (byL (x :: r)).drop 1 = byL r := rfl
    rw [this, chunk_byL r]; rfl
theorem copyOf_bytes (h : List (List AV)) (xs : List UInt8) (nul : Option Bool) (room : Room) : copyOf h (.sl 1 (bytesE xs) nul room) = some (byL xs) := by simp [copyOf]
theorem copyOf_drop (h : List (List AV)) (xs : List UInt8) (k : Nat) (nul : Option Bool) (room : Room) : copyOf h (.sl 1 ((bytesE xs).drop k) nul room) = some (byL (xs.drop k)) := by rw [bytesE_drop]; exact copyOf_bytes ..
theorem copyOf_bsl {h : List (List AV)} {j off m : Nat} {B : List UInt8} (h1 : h[j]? = some (byL B)) (hl : off + m ≤ B.length) : copyOf h (.bsl j off 1 m) = some (byL ((B.drop off).take m)) := by
  simp [copyOf, h1, hl, byL_drop, byL_take]
/-- The place that is j behind the first one. -/
def posR (n f j : Nat) : Nat := if f + j < n then f + j else f + j - n
theorem posR_lt {n f j : Nat} (hf : f < n) (hj : j ≤ n) : posR n f j < n := by unfold posR; split <;> omega
theorem posR_mod {n f j : Nat} (hf : f < n) (hj : j ≤ n) : ((f : Int) + (j : Int)).tmod (n : Int) = (posR n f j : Int) := by
  rw [Int.tmod_eq_emod_of_nonneg (by omega), ← Int.natCast_add, ← Int.natCast_emod]
  congr 1
  unfold posR
  split
  · exact Nat.mod_eq_of_lt (by assumption)
  · rw [Nat.mod_eq_sub_mod (by omega), Nat.mod_eq_of_lt (by omega)]
/-- L stands in B, n places, from place f on. -/
def Goes (n f : Nat) (B L : List UInt8) : Prop := ∀ j < L.length, B[posR n f j]? = L[j]?
/-- What stands where xs was put at place e, and on from the beginning. -/
def putR (n e : Nat) (B xs : List UInt8) : List UInt8 := lay (lay B e (xs.take (n - e))) 0 (xs.drop (min xs.length (n - e)))
theorem putR_len (n e : Nat) (B xs : List UInt8) : (putR n e B xs).length = B.length := by unfold putR; rw [lay_length, lay_length]
theorem putR_goes {n f : Nat} {B L xs : List UInt8} (hB : B.length = n) (hf : f < n) (hg : Goes n f B L) (hr : L.length + xs.length ≤ n) : Goes n f (putR n (posR n f L.length) B xs) (L ++ xs) := by
  intro j hj
  rw [List.length_append] at hj
  have he := posR_lt hf (show L.length ≤ n by omega)
  have hg' := hg j
  obtain ⟨e, hee⟩ : ∃ e, e = posR n f L.length := ⟨_, rfl⟩
  obtain ⟨p, hpp⟩ : ∃ p, p = posR n f j := ⟨_, rfl⟩
  rw [← hee] at he ⊢
  rw [← hpp] at hg' ⊢
  have he2 : (f + L.length < n ∧ e = f + L.length) ∨ (n ≤ f + L.length ∧ e = f + L.length - n) := by unfold posR at hee; split at hee <;> omega
  have hp2 : (f + j < n ∧ p = f + j) ∨ (n ≤ f + j ∧ p = f + j - n) := by unfold posR at hpp; split at hpp <;> omega
  unfold putR
  rw [lay_get _ _ _ _ (by rw [lay_length, hB, List.length_drop]; omega), lay_get _ _ _ _ (by rw [hB, List.length_take]; omega)]
  rw [List.length_drop, List.length_take, Nat.sub_zero]
  by_cases hl : j < L.length
  · rw [List.getElem?_append_left hl, if_neg (by omega), if_neg (by omega)]
    exact hg' hl
  · rw [List.getElem?_append_right (by omega)]
    by_cases h1 : f + L.length < n ∧ n ≤ f + j
    · rw [if_pos (by omega), List.getElem?_drop]
      congr 1; omega
    · rw [if_neg (by omega), if_pos (by omega), List.getElem?_take_of_lt (by omega)]
      congr 1; omega
theorem goes_drop {n f k : Nat} {B L : List UInt8} (hf : f < n) (hl : L.length ≤ n) (hk : k ≤ L.length) (hg : Goes n f B L) : Goes n (posR n f k) B (L.drop k) := by
  intro j hj
  rw [List.length_drop] at hj
  have := hg (k + j) (by omega)
  rw [List.getElem?_drop, ← this]
  congr 1
  unfold posR
  repeat' split
  all_goals omega
/-- What is taken: the bytes from place f on, and then those at the beginning. -/
def tookR (n f k : Nat) (B Z : List UInt8) : List UInt8 := lay (lay Z 0 ((B.drop f).take k)) (min (n - f) k) (B.take (k - min (n - f) k))
theorem tookR_is {n f k : Nat} {B L Z : List UInt8} (hB : B.length = n) (hf : f < n) (hl : L.length ≤ n) (hk : k ≤ L.length) (hZ : Z.length = k) (hg : Goes n f B L) : tookR n f k B Z = L.take k := by
  have hlen : (tookR n f k B Z).length = k := by unfold tookR; rw [lay_length, lay_length, hZ]
  apply List.ext_getElem?
  intro j
  by_cases hj : j < k
  · rw [List.getElem?_take_of_lt hj]
    have hg' := hg j (by omega)
    obtain ⟨p, hpp⟩ : ∃ p, p = posR n f j := ⟨_, rfl⟩
    rw [← hpp] at hg'
    have hp2 : (f + j < n ∧ p = f + j) ∨ (n ≤ f + j ∧ p = f + j - n) := by unfold posR at hpp; split at hpp <;> omega
    rw [← hg']
    unfold tookR
    rw [lay_get _ _ _ _ (by rw [lay_length, hZ, List.length_take]; omega), lay_get _ _ _ _ (by rw [hZ, List.length_take, List.length_drop]; omega)]
    rw [List.length_take, List.length_take, List.length_drop, Nat.sub_zero]
    by_cases h1 : f + j < n
    · rw [if_neg (by omega), if_pos (by omega), List.getElem?_take_of_lt hj, List.getElem?_drop]
      congr 1; omega
    · rw [if_pos (by omega), List.getElem?_take_of_lt (by omega)]
      congr 1; omega
  · rw [List.getElem?_eq_none (by omega), List.getElem?_eq_none (by rw [List.length_take]; omega)]
structure RiAt (h : List (List AV)) (i b n f : Nat) (L : List UInt8) : Prop where
  top : h[i]? = some [.bsl b 0 1 n, .v (.int .i64 (f : Int)), .v (.int .i64 (L.length : Int))]
  buf : ∃ B : List UInt8, h[b]? = some (byL B) ∧ B.length = n ∧ Goes n f B L
  ne : i ≠ b
  f_lt : f < n
  len : L.length ≤ n
  most : n ≤ 1048576
section
variable {h : List (List AV)} {i b n f : Nat} {L : List UInt8}
theorem RiAt.i_lt (hr : RiAt h i b n f L) : i < h.length := (List.getElem?_eq_some_iff.1 hr.top).1
theorem RiAt.b_lt (hr : RiAt h i b n f L) : b < h.length := by
  obtain ⟨_, h1, _⟩ := hr.buf
  exact (List.getElem?_eq_some_iff.1 h1).1
theorem RiAt.move {h2 : List (List AV)} (hr : RiAt h i b n f L) (h1 : h2[i]? = h[i]?) (h3 : h2[b]? = h[b]?) : RiAt h2 i b n f L := by
  obtain ⟨B, e1, e2⟩ := hr.buf
  exact ⟨h1.trans hr.top, ⟨B, h3.trans e1, e2⟩, hr.ne, hr.f_lt, hr.len, hr.most⟩
theorem RiAt.app (hr : RiAt h i b n f L) (xs : List (List AV)) : RiAt (h ++ xs) i b n f L := hr.move (List.getElem?_append_left hr.i_lt) (List.getElem?_append_left hr.b_lt)
theorem rmade_c (hr : RiAt h i b n f L) : Contract Try.prog 28 [.box i 0] h (.v (.bool true)) h [] := by
  have h1 := hr.top
  have h2 : 0 < n := by have := hr.f_lt; omega
  refine contract_of k28 mixedRi (by simp [c28]) fun hh hargs => ?_
  simp [c28, h1, h2, hh]
theorem rlen_c (hr : RiAt h i b n f L) : Contract Try.prog 20 [.box i 0] h (.v (.int .i64 (L.length : Int))) h [] := by
  have h1 := hr.top
  refine contract_of k20 mixedRi (by simp [c20]) fun hh hargs => ?_
  simp [c20]
  refine xcall_self (by simp) (rmade_c hr) ?_
  simp [h1, hh]
theorem rroom_c (hr : RiAt h i b n f L) : Contract Try.prog 21 [.box i 0] h (.v (.int .i64 ((n : Int) - (L.length : Int)))) h [] := by
  have h1 := hr.top
  have h2 := hr.len
  have h3 := hr.most
  have hw : IntKind.i64.wrap ((n : Int) - (L.length : Int)) = (n : Int) - (L.length : Int) := wrap64 (by omega) (by omega)
  refine contract_of k21 mixedRi (by simp [c21]) fun hh hargs => ?_
  simp [c21]
  refine xcall_self (by simp) (rmade_c hr) ?_
  simp [h1, hw, hh]
theorem rplace_c (hr : RiAt h i b n f L) {j : Nat} (hj : j ≤ n) : Contract Try.prog 27 [.box i 0, .v (.int .i64 (j : Int))] h (.v (.int .i64 (posR n f j : Int))) h [] := by
  have h1 := hr.top
  have h2 := hr.f_lt
  have h3 := hr.most
  have hw : IntKind.i64.wrap ((f : Int) + (j : Int)) = (f : Int) + (j : Int) := wrap64 (by omega) (by omega)
  have hm := posR_mod h2 hj
  have h0 : ¬ (n : Int) = 0 := by omega
  have h00 : ¬ n = 0 := by omega
  refine contract_of k27 mixedRi (by simp [c27]) fun hh hargs => ?_
  simp [c27, h1, hw, hm, h0, h00, hh]
/-- What a call does to a ring. -/
def RDoes (F : FuncId) (args : List AV) (h : List (List AV)) (i b n : Nat) (r : AV) (L' : List UInt8) : Prop :=
  ∃ (h' : List (List AV)) (f' : Nat), Contract Try.prog F args h r h' [b, i] ∧ RiAt h' i b n f' L' ∧ h'.length = h.length ∧ (∀ q, q ≠ b → q ≠ i → h'[q]? = h[q]?) ∧ (ltLL h.length h → ltLL h.length h')
def putE (n : Nat) (L xs : List UInt8) : Int := if L.length + xs.length ≤ n then 0 else 6
def putL' (n : Nat) (L xs : List UInt8) : List UInt8 := if L.length + xs.length ≤ n then L ++ xs else L
theorem rput_ (hr : RiAt h i b n f L) (xs : List UInt8) (hxl : xs.length ≤ maxLen) : RDoes 18 [.box i 0, .sl 1 (bytesE xs) none .no] h i b n (.v (.int .i64 (putE n L xs))) (putL' n L xs) := by
  have h1 := hr.top
  have h2 := hr.f_lt
  have h3 := hr.most
  have h4 := hr.len
  have hi := hr.i_lt
  have hb := hr.b_lt
  have hne := hr.ne
  obtain ⟨B, e1, e2, e3⟩ := hr.buf
  unfold putE putL'
  by_cases hfit : L.length + xs.length ≤ n
  · rw [if_pos hfit, if_pos hfit]
    have hlt := posR_lt h2 h4
    obtain ⟨e, he⟩ : ∃ e, e = posR n f L.length := ⟨_, rfl⟩
    have hpl := rplace_c hr h4
    rw [← he] at hpl hlt
    have hg := putR_goes e2 h2 e3 hfit
    rw [← he] at hg
    refine ⟨(h.set b (byL (putR n e B xs))).set i [.bsl b 0 1 n, .v (.int .i64 (f : Int)), .v (.int .i64 ((L ++ xs).length : Int))], f, ?_, ⟨?_, ⟨putR n e B xs, ?_, by rw [putR_len, e2], hg⟩, hne, h2, by simpa using hfit, h3⟩, by simp, fun q q1 q2 => by rw [List.getElem?_set_ne (Ne.symm q2), List.getElem?_set_ne (Ne.symm q1)], fun hl => ?_⟩
    · have hng : ¬ (n : Int) - (L.length : Int) < (xs.length : Int) := by omega
      have hw : IntKind.i64.wrap ((L.length : Int) + (xs.length : Int)) = (L.length : Int) + (xs.length : Int) := wrap64 (by omega) (by omega)
      refine contract_of k18 mixedRi (by simp [c18]) fun hh hargs => ?_
      simp [c18]
      refine xcall_self (by simp) (rmade_c hr) ?_
      simp
      refine xcall_self (by simp) (rroom_c hr) ?_
      simp [hng, h1]
      refine xcall_self (by simp) hpl ?_
      have hen : e + (n - e) ≤ B.length := by omega
      have g1 : ∀ X : List AV, (h.set b X)[i]? = some [.bsl b 0 1 n, .v (.int .i64 (f : Int)), .v (.int .i64 (L.length : Int))] := fun X => by rw [List.getElem?_set_ne hne.symm]; exact h1
      have g2 : ∀ X : List AV, (h.set b X)[b]? = some X := fun X => List.getElem?_set_self hb
      simp [h1, e1, Nat.le_of_lt hlt, hen, copyOf_bytes, byL_plain, g1, g2, byL_take, byL_lay, copyOf_drop, hw]
      have htk : (xs.drop (min xs.length (n - e))).take n = xs.drop (min xs.length (n - e)) := List.take_of_length_le (by rw [List.length_drop]; omega)
      have htk2 : ∀ X Y : List AV, ((h.set b X).set i Y).take h.length = (h.set b X).set i Y := fun X Y => List.take_of_length_le (by simp)
      rw [htk, htk2]
      exact ⟨by omega, byL_plain _, by omega, by rw [lay_length]; omega, byL_plain _, leqH_refl _ _, ltLL_set (ltLL_set hh (by simp)) (by simp; exact hb)⟩
    · rw [List.getElem?_set_self (by simpa using hi)]
    · rw [List.getElem?_set_ne hne, List.getElem?_set_self hb]
    · exact ltLL_set (ltLL_set hl (by simp)) (by simp; exact hb)
  · rw [if_neg hfit, if_neg hfit]
    refine ⟨h, f, ?_, hr, rfl, fun _ _ _ => rfl, fun hl => hl⟩
    have hng : (n : Int) - (L.length : Int) < (xs.length : Int) := by omega
    refine contract_of k18 mixedRi (by simp [c18]) fun hh hargs => ?_
    simp [c18]
    refine xcall_self (by simp) (rmade_c hr) ?_
    simp
    refine xcall_self (by simp) (rroom_c hr) ?_
    simp [hng, hh]
def newRi (n m : Nat) : List (List AV) := [byL (List.replicate n 0), [.bsl m 0 1 n, .v (.int .i64 0), .v (.int .i64 0)]]
theorem newRi_at (h : List (List AV)) {n : Nat} (h1 : 1 ≤ n) (h2 : n ≤ 1048576) : RiAt (h ++ newRi n h.length) (h.length + 1) h.length n 0 [] :=
  ⟨by simp [newRi], ⟨List.replicate n 0, by simp [newRi], by simp, fun j hj => by cases hj⟩, by omega, by omega, by simp, h2⟩
theorem newRi_lt {h : List (List AV)} (hh : ltLL h.length h) (n : Nat) : ltLL (h ++ newRi n h.length).length (h ++ newRi n h.length) := by
  have hl2 := ltLL_mono (Nat.le_add_right h.length 2) hh
  simp [newRi, hl2]
theorem rinew_c (h : List (List AV)) {n : Nat} (h1 : 1 ≤ n) (h2 : n ≤ 1048576) : Contract Try.prog 13 [.v (.int .i64 n)] h (.tup [.box (h.length + 1) 0, .v (.int .i64 0)]) (h ++ newRi n h.length) [] := by
  refine contract_of k13 mixedRi (by simp [c13]) fun hh hargs => ?_
  have hl2 := newRi_lt hh n
  have g1 : ¬ (n : Int) < 1 := by omega
  have g2 : ¬ (1048576 : Int) < (n : Int) := by omega
  have g4 : (List.replicate n [AV.v (.int .u8 0)]).flatten = byL (List.replicate n 0) := by simp [byL]
  have g5 : h ++ [byL (List.replicate n 0), [AV.bsl h.length 0 1 n, .v (.int .i64 0), .v (.int .i64 0)]] = h ++ newRi n h.length := by simp [newRi]
  have g6 : (newRi n h.length).length = 2 := rfl
  rw [List.length_append, g6] at hl2
  have g7 : (newRi n h.length).take 2 = newRi n h.length := rfl
  simp [c13, g1, g2, g4, g5, g6, g7, hl2]
  omega
/-- How many are taken. -/
def takeN (L : List UInt8) (k : Int) : Nat := (min k (L.length : Int)).toNat
theorem frz_byL (i : Nat) {X : List UInt8} {k : Nat} (hk : X.length = k) : AV.frz i (byL X) (.bsl i 0 1 k) = .sl 1 (bytesE X) (some false) .no := by
  subst hk
  show (if _ then _ else _) = _
  rw [if_pos ⟨rfl, by simp⟩]
  simp [chunk_byL, List.take_of_length_le]
theorem frz_byOk {X : List UInt8} (h : X ≠ []) : frzOk (byL X) := by
  cases X with
  | nil => exact absurd rfl h
  | cons x r => exact trivial
theorem minZ_two (a b : Int) : minZ a [b] = min a b := by
  simp only [minZ, List.foldl_cons, List.foldl_nil]
  split <;> omega
theorem takeN_le (L : List UInt8) (k : Int) : takeN L k ≤ L.length := by unfold takeN; omega
theorem rtake_c (hr : RiAt h i b n f L) (k : Int) : RDoes 16 [.box i 0, .v (.int .i64 k)] h i b n (.sl 1 (bytesE (L.take (takeN L k))) none .no) (L.drop (takeN L k)) := by
  have h1 := hr.top
  have h2 := hr.f_lt
  have h3 := hr.most
  have h4 := hr.len
  have hi := hr.i_lt
  have hb := hr.b_lt
  have hne := hr.ne
  obtain ⟨B, e1, e2, e3⟩ := hr.buf
  have hm := minZ_two k (L.length : Int)
  by_cases hk : min k (L.length : Int) < 1
  · have hz : takeN L k = 0 := by unfold takeN; omega
    rw [hz, List.take_zero, List.drop_zero]
    refine ⟨h, f, ?_, hr, rfl, fun _ _ _ => rfl, fun hl => hl⟩
    refine contract_of k16 mixedRi (by simp [c16]) fun hh hargs => ?_
    simp [c16]
    refine xcall_self (by simp) (rlen_c hr) ?_
    have hd : decide (min k (L.length : Int) < 1) = true := decide_eq_true hk
    simp [hm, hd, hh, LeqV]
  · have hkl := takeN_le L k
    obtain ⟨c, hc⟩ : ∃ c, c = takeN L k := ⟨_, rfl⟩
    have hmc : min k (L.length : Int) = (c : Int) := by rw [hc]; unfold takeN; omega
    rw [← hc] at hkl ⊢
    rw [hmc] at hm hk
    have hc1 : 1 ≤ c := by omega
    have hpl := fun h' (hr' : RiAt h' i b n f L) => rplace_c hr' (show c ≤ n by omega)
    have hg := goes_drop h2 h4 hkl e3
    have hpos := posR_lt h2 (show c ≤ n by omega)
    obtain ⟨F, hF⟩ : ∃ F, F = posR n f c := ⟨_, rfl⟩
    rw [← hF] at hg hpl hpos
    have hlen : (L.take c).length = c := by rw [List.length_take]; omega
    have hnn : L.take c ≠ [] := fun e => by rw [e] at hlen; simp at hlen; omega
    have htook := tookR_is (Z := List.replicate c 0) e2 h2 h4 hkl (by simp) e3
    refine ⟨h.set i [.bsl b 0 1 n, .v (.int .i64 (F : Int)), .v (.int .i64 ((L.drop c).length : Int))], F, ?_, ⟨by rw [List.getElem?_set_self hi], ⟨B, by rw [List.getElem?_set_ne hne]; exact e1, e2, hg⟩, hne, hpos, by rw [List.length_drop]; omega, h3⟩, by simp, fun q q1 q2 => by rw [List.getElem?_set_ne (Ne.symm q2)], fun hl => ltLL_set hl (by simp; exact hb)⟩
    refine contract_cut (XCode.cuts [false, false, false, false, false, false, false, true] c16.code) k16 rfl mixedRi (by simp [c16]) fun hh hargs => ?_
    simp [c16]
    refine xcall_self (by simp) (rlen_c hr) ?_
    have hd : decide ((c : Int) < 1) = false := decide_eq_false hk
    have g4 : (List.replicate c [AV.v (.int .u8 0)]).flatten = byL (List.replicate c 0) := by simp [byL]
    have g1 : ∀ X : List AV, (h ++ [X])[i]? = some [.bsl b 0 1 n, .v (.int .i64 (f : Int)), .v (.int .i64 (L.length : Int))] := fun X => by rw [List.getElem?_append_left hi]; exact h1
    have g2 : ∀ X : List AV, (h ++ [X])[b]? = some (byL B) := fun X => by rw [List.getElem?_append_left hb]; exact e1
    have g3 : ∀ X : List AV, (h ++ [X]).set i = fun Y => (h.set i Y) ++ [X] := fun X => by funext Y; rw [List.set_append_left _ _ hi]
    have hf1 : f + (n - f) ≤ B.length := by omega
    have hf2 : f ≤ n := by omega
    have q1 : ∀ X : List AV, copyOf (h ++ [X]) (.bsl b f 1 (n - f)) = some (byL (B.drop f)) := fun X => by rw [copyOf_bsl (g2 X) hf1, List.take_of_length_le (by rw [List.length_drop]; omega)]
    have q2 : ∀ X : List AV, copyOf (h ++ [X]) (.bsl b 0 1 n) = some (byL B) := fun X => by rw [copyOf_bsl (g2 X) (by omega), List.drop_zero, List.take_of_length_le (by omega)]
    have hw : IntKind.i64.wrap ((L.length : Int) - (c : Int)) = (L.length : Int) - (c : Int) := wrap64 (by omega) (by omega)
    unfold tookR at htook
    have hih : ¬ i = h.length := by omega
    simp [hm, hd, g4, g1, q1, q2, hf2, byL_take, byL_lay, e2, htook]
    refine ⟨by omega, byL_plain _, hih, Nat.min_le_right .., by rw [lay_length, List.length_replicate]; omega, byL_plain _, ?_⟩
    refine xcall_self (by simp) (hpl _ (hr.app _)) ?_
    simp [g1, g3, h1, hi]
    refine xseq_frz h.length (byL (L.take c)) ⟨[(5, .sl 1 (bytesE (L.take c)) none .no)], [], h.set i [.bsl b 0 1 n, .v (.int .i64 (F : Int)), .v (.int .i64 ((L.drop c).length : Int))], [i]⟩ (Nat.le_refl _) (frz_byOk hnn) ?_ ?_
    · have g5 : ∀ X Y : List AV, (h.set i X ++ [Y])[i]? = some X := fun X Y => by rw [List.getElem?_append_left (by simpa using hi), List.getElem?_set_self hi]
      have g6 : ∀ X Y Z : List AV, (h.set i X ++ [Y]).set i Z = (h.set i Z) ++ [Y] := fun X Y Z => by rw [List.set_append_left _ _ (by simpa using hi), List.set_set]
      have hcast : ((L.length - c : Nat) : Int) = (L.length : Int) - (c : Int) := by omega
      have hfz := frz_byL h.length hlen
      simp [g5, g6, hw, hcast, Leq, hfz]
      exact ltLL_set hh (by simp; exact hb)
    · simp
      exact ltLL_set hh (by simp; exact hb)
end
end Go.Proofs.Ytplbobfbdlapcaa.Ax
namespace Go.Proofs.Ytplbobfbdlapcaa.Ax
open Go.RowKit Go By
set_option linter.unusedSimpArgs false
set_option linter.unusedVariables false
set_option maxRecDepth 10000

section
variable {h : List (List AV)}
section
variable {x : AV} (hx : Contract Try.prog 28 [x] h (.v (.bool false)) h [])
include hx
end
theorem riawake_c (h : List (List AV)) : Contract Try.prog 22 [] h (.v (.bool true)) h [] := by
  have t0 := newRi_at h (n := 4) (by decide) (by decide)
  obtain ⟨H0, hH0⟩ : ∃ H0, H0 = h ++ newRi 4 h.length := ⟨_, rfl⟩
  have kn := rinew_c h (n := 4) (by decide) (by decide)
  rw [← hH0] at t0 kn
  have a0 : ∀ q < h.length, H0[q]? = h[q]? := fun q hq => by rw [hH0, List.getElem?_append_left hq]
  have l0 : H0.length = h.length + 2 := by rw [hH0]; simp [newRi]
  obtain ⟨H1, f1, c1, t1, l1, q1, _⟩ := rput_ t0 [97, 98, 99] (by decide)
  obtain ⟨H2, f2, c2, t2, l2, q2, _⟩ := rtake_c t1 2
  obtain ⟨H3, f3, c3, t3, l3, q3, _⟩ := rput_ t2 [100, 101, 102] (by decide)
  obtain ⟨H4, f4, c4', t4, l4, q4, _⟩ := rput_ t3 [103] (by decide)
  have c5 := rlen_c t4
  have e1 : putE 4 [] [97, 98, 99] = 0 := by decide
  have e2 : putL' 4 [] [97, 98, 99] = [97, 98, 99] := by decide
  have e3 : takeN [97, 98, 99] 2 = 2 := by decide
  have e4 : putE 4 [99] [100, 101, 102] = 0 := by decide
  have e5 : putL' 4 [99] [100, 101, 102] = [99, 100, 101, 102] := by decide
  have e6 : putE 4 [99, 100, 101, 102] [103] = 6 := by decide
  have e7 : putL' 4 [99, 100, 101, 102] [103] = [99, 100, 101, 102] := by decide
  simp only [e1, e2, e3, e4, e5, e6, e7, List.take_succ_cons, List.take_zero, List.drop_succ_cons, List.drop_zero] at c1 c2 c3 c4' c5
  have htk : H4.take h.length = h := by
    apply List.ext_getElem?
    intro q
    by_cases hq : q < h.length
    · rw [List.getElem?_take_of_lt hq, q4 q (by omega) (by omega), q3 q (by omega) (by omega), q2 q (by omega) (by omega), q1 q (by omega) (by omega), a0 q hq]
    · rw [List.getElem?_eq_none (by simp; omega), List.getElem?_eq_none (by omega)]
  refine contract_of k22 mixedRi (by simp [c22]) fun hh hargs => ?_
  simp [c22]
  refine xcall_of kn (by simp) (by simp) ?_
  simp
  refine xcall_of c1 (by simp) (by simp) ?_
  simp
  refine xcall_of c2 (by simp) (by simp) ?_
  have hun : unbytes [[AV.v (.int .u8 97)], [AV.v (.int .u8 98)]] = some [97, 98] := unbytes_bytesE [97, 98]
  simp [hun]
  refine xcall_of c3 (by simp) (by simp) ?_
  simp
  refine xcall_of c4' (by simp) (by simp) ?_
  simp
  refine xcall_of c5 (by simp) (by simp) ?_
  simp [htk, hh]
  omega
end
end Go.Proofs.Ytplbobfbdlapcaa.Ax
