/- The document's answers for front, over values without memory: checks, what is the same. -/
import Derived.Test.YtcaimoidnppnbaaQAxX
import Derived.Test.YtcaimoidnppnbaaRows
import Derived.Test.YtcaimoidnppnbaaQAxWo
import Derived.Test.YtcaimoidnppnbaaQCodeF
/- The texts of functions over values without memory, as the kernel reckons them out of the program. -/
namespace Go.Proofs.Ytcaimoidnppnbaa.Ax
open Go.RowKit Go By

def c24 : XFun := ⟨71, (.seq (.ops [⟨(some 1), (.box (.tmp 0)), none⟩, ⟨(some 2), (.alloc [(.v (.int .u8 0)), (.sl 0 [] (some true) .exact)]), none⟩, ⟨(some 3), (.assign (.const (.int .i64 0))), none⟩]) (.seq (.seq (.ops [⟨(some 6), (.loadN 10 (.tmp 1)), none⟩, ⟨(some 7), (.call 26 [(.tmp 6)]), none⟩, ⟨(some 4), (.assign (.tmp 7)), none⟩]) (.seq (.ops [⟨(some 8), (.move (.tmp 4)), none⟩, ⟨(some 9), (.bin .neq (.tmp 8) (.const (.int .i64 0))), none⟩]) (.cond (.tmp 9) (.seq (.ops [⟨(some 10), (.build [(.v (.int .u8 0)), (.sl 0 [] (some true) .exact)] []), none⟩, ⟨(some 11), (.move (.tmp 4)), none⟩, ⟨none, (.store 2 (.tmp 2) (.tmp 10)), none⟩, ⟨(some 3), (.assign (.tmp 11)), none⟩]) .ret) .skip))) (.seq (.ops [⟨(some 5), (.assign (.const (.slice none 0 0))), none⟩]) (.seq (.seq (.ops [⟨(some 12), (.faddr 0 (.tmp 1)), none⟩, ⟨(some 13), (.load1 (.tmp 12)), none⟩]) (.block 0 (.seq (.ops [⟨(some 15), (.bin .eql (.tmp 13) (.const (.int .u8 80))), none⟩, ⟨(some 14), (.assign (.tmp 15)), none⟩]) (.cond (.tmp 14) (.draws (.take ⟨(some 16), (.faddr 2 (.tmp 1)), none⟩ (.take ⟨(some 17), (.load1 (.tmp 16)), none⟩ (.take ⟨(some 19), (.faddr 4 (.tmp 1)), none⟩ (.take ⟨(some 20), (.load1 (.tmp 19)), none⟩ (.take ⟨(some 22), (.faddr 5 (.tmp 1)), none⟩ (.take ⟨(some 23), (.load1 (.tmp 22)), none⟩ (.only ⟨(some 18), (.call 62 [(.const (.slice none 0 0)), (.tmp 17)]), none⟩ (.only ⟨(some 21), (.call 62 [(.tmp 18), (.tmp 20)]), none⟩ (.only ⟨(some 24), (.call 61 [(.tmp 21), (.tmp 23), (.const (.int .i64 4))]), none⟩ (.take ⟨(some 5), (.assign (.tmp 24)), none⟩ .done))))))))))) (.seq (.ops [⟨(some 26), (.bin .eql (.tmp 13) (.const (.int .u8 66))), none⟩, ⟨(some 25), (.assign (.tmp 26)), none⟩]) (.cond (.tmp 25) (.draws (.take ⟨(some 27), (.faddr 3 (.tmp 1)), none⟩ (.take ⟨(some 28), (.load1 (.tmp 27)), none⟩ (.take ⟨(some 30), (.faddr 2 (.tmp 1)), none⟩ (.take ⟨(some 31), (.load1 (.tmp 30)), none⟩ (.take ⟨(some 33), (.faddr 6 (.tmp 1)), none⟩ (.take ⟨(some 34), (.load1 (.tmp 33)), none⟩ (.take ⟨(some 36), (.faddr 8 (.tmp 1)), none⟩ (.take ⟨(some 37), (.load1 (.tmp 36)), none⟩ (.take ⟨(some 39), (.faddr 7 (.tmp 1)), none⟩ (.take ⟨(some 40), (.load1 (.tmp 39)), none⟩ (.only ⟨(some 29), (.call 62 [(.const (.slice none 0 0)), (.tmp 28)]), none⟩ (.only ⟨(some 32), (.call 62 [(.tmp 29), (.tmp 31)]), none⟩ (.only ⟨(some 35), (.call 61 [(.tmp 32), (.tmp 34), (.const (.int .i64 2))]), none⟩ (.only ⟨(some 38), (.call 63 [(.tmp 35), (.tmp 37)]), none⟩ (.only ⟨(some 41), (.call 61 [(.tmp 38), (.tmp 40), (.const (.int .i64 2))]), none⟩ (.take ⟨(some 5), (.assign (.tmp 41)), none⟩ .done))))))))))))))))) (.seq (.seq (.ops [⟨(some 43), (.bin .eql (.tmp 13) (.const (.int .u8 67))), none⟩, ⟨(some 42), (.assign (.tmp 43)), none⟩]) (.cond (.tmp 42) .skip (.ops [⟨(some 44), (.bin .eql (.tmp 13) (.const (.int .u8 68))), none⟩, ⟨(some 42), (.assign (.tmp 44)), none⟩]))) (.cond (.tmp 42) (.ops [⟨(some 45), (.faddr 1 (.tmp 1)), none⟩, ⟨(some 46), (.load1 (.tmp 45)), none⟩, ⟨(some 47), (.buildSlice 1 1 [(.v (.int .u8 0))] [(0, (.tmp 46))]), none⟩, ⟨(some 48), (.faddr 2 (.tmp 1)), none⟩, ⟨(some 49), (.load1 (.tmp 48)), none⟩, ⟨(some 50), (.faddr 3 (.tmp 1)), none⟩, ⟨(some 51), (.load1 (.tmp 50)), none⟩, ⟨(some 52), (.bin .add (.tmp 49) (.tmp 51)), none⟩, ⟨(some 53), (.call 62 [(.tmp 47), (.tmp 52)]), none⟩, ⟨(some 5), (.assign (.tmp 53)), none⟩]) (.seq (.ops [⟨(some 55), (.bin .eql (.tmp 13) (.const (.int .u8 69))), none⟩, ⟨(some 54), (.assign (.tmp 55)), none⟩]) (.cond (.tmp 54) (.draws (.take ⟨(some 56), (.faddr 3 (.tmp 1)), none⟩ (.take ⟨(some 57), (.load1 (.tmp 56)), none⟩ (.take ⟨(some 59), (.faddr 9 (.tmp 1)), none⟩ (.take ⟨(some 60), (.load1 (.tmp 59)), none⟩ (.only ⟨(some 58), (.call 62 [(.const (.slice none 0 0)), (.tmp 57)]), none⟩ (.only ⟨(some 61), (.call 57 [(.tmp 58), (.tmp 60), (.const (.int .i64 4))]), none⟩ (.take ⟨(some 5), (.assign (.tmp 61)), none⟩ .done)))))))) (.seq (.ops [⟨(some 63), (.bin .eql (.tmp 13) (.const (.int .u8 81))), none⟩, ⟨(some 62), (.assign (.tmp 63)), none⟩]) (.cond (.tmp 62) (.ops [⟨(some 64), (.faddr 4 (.tmp 1)), none⟩, ⟨(some 65), (.load1 (.tmp 64)), none⟩, ⟨(some 66), (.call 62 [(.const (.slice none 0 0)), (.tmp 65)]), none⟩, ⟨(some 5), (.assign (.tmp 66)), none⟩]) .skip)))))))))))) (.seq (.ops [⟨(some 67), (.faddr 0 (.tmp 1)), none⟩, ⟨(some 68), (.load1 (.tmp 67)), none⟩, ⟨(some 69), (.move (.tmp 5)), none⟩, ⟨(some 70), (.build [(.v (.int .u8 0)), (.sl 0 [] (some true) .exact)] [(0, (1, (.tmp 68))), (1, (1, (.tmp 69)))]), none⟩, ⟨none, (.store 2 (.tmp 2) (.tmp 70)), none⟩, ⟨(some 3), (.assign (.const (.int .i64 0))), none⟩]) .ret))))), [(.loadN 2 (.tmp 2)), (.move (.tmp 3))]⟩
theorem k24 : cfun Try.prog 24 = some c24 := by kernel_rfl
def c26 : XFun := ⟨97, (.seq (.ops [⟨(some 1), (.box (.tmp 0)), none⟩, ⟨(some 2), (.assign (.const (.int .i64 0))), none⟩]) (.seq (.seq (.ops [⟨(some 6), (.faddr 0 (.tmp 1)), none⟩, ⟨(some 7), (.load1 (.tmp 6)), none⟩, ⟨(some 8), (.call 30 [(.tmp 7)]), none⟩, ⟨(some 9), (.bin .neq (.tmp 8) (.const (.int .i64 1))), none⟩]) (.cond (.tmp 9) (.seq (.ops [⟨(some 2), (.assign (.const (.int .i64 9))), none⟩]) .ret) .skip)) (.seq (.ops [⟨(some 10), (.faddr 2 (.tmp 1)), none⟩, ⟨(some 11), (.load1 (.tmp 10)), none⟩, ⟨(some 12), (.call 69 [(.tmp 11)]), none⟩, ⟨(some 13), (.move (.tmp 12)), none⟩, ⟨(some 14), (.faddr 3 (.tmp 1)), (some (13, true))⟩, ⟨(some 15), (.load1 (.tmp 14)), (some (13, true))⟩, ⟨(some 16), (.call 69 [(.tmp 15)]), (some (13, true))⟩, ⟨(some 17), (.pick (.tmp 13) (.tmp 16) (.const (.bool false))), none⟩, ⟨(some 18), (.move (.tmp 17)), none⟩, ⟨(some 19), (.faddr 4 (.tmp 1)), (some (18, true))⟩, ⟨(some 20), (.load1 (.tmp 19)), (some (18, true))⟩, ⟨(some 21), (.call 69 [(.tmp 20)]), (some (18, true))⟩, ⟨(some 22), (.pick (.tmp 18) (.tmp 21) (.const (.bool false))), none⟩, ⟨(some 3), (.assign (.tmp 22)), none⟩]) (.seq (.ops [⟨(some 23), (.faddr 5 (.tmp 1)), none⟩, ⟨(some 24), (.load1 (.tmp 23)), none⟩, ⟨(some 25), (.call 70 [(.tmp 24), (.const (.int .i64 0)), (.const (.int .i64 4294967295))]), none⟩, ⟨(some 26), (.move (.tmp 25)), none⟩, ⟨(some 27), (.faddr 6 (.tmp 1)), (some (26, true))⟩, ⟨(some 28), (.load1 (.tmp 27)), (some (26, true))⟩, ⟨(some 29), (.call 70 [(.tmp 28), (.const (.int .i64 0)), (.const (.int .i64 65535))]), (some (26, true))⟩, ⟨(some 30), (.pick (.tmp 26) (.tmp 29) (.const (.bool false))), none⟩, ⟨(some 31), (.move (.tmp 30)), none⟩, ⟨(some 32), (.faddr 7 (.tmp 1)), (some (31, true))⟩, ⟨(some 33), (.load1 (.tmp 32)), (some (31, true))⟩, ⟨(some 34), (.call 70 [(.tmp 33), (.const (.int .i64 0)), (.const (.int .i64 65535))]), (some (31, true))⟩, ⟨(some 35), (.pick (.tmp 31) (.tmp 34) (.const (.bool false))), none⟩, ⟨(some 36), (.move (.tmp 35)), none⟩, ⟨(some 37), (.faddr 8 (.tmp 1)), (some (36, true))⟩, ⟨(some 38), (.load1 (.tmp 37)), (some (36, true))⟩, ⟨(some 39), (.call 71 [(.tmp 38)]), (some (36, true))⟩, ⟨(some 40), (.pick (.tmp 36) (.tmp 39) (.const (.bool false))), none⟩, ⟨(some 4), (.assign (.tmp 40)), none⟩]) (.seq (.ops [⟨(some 41), (.faddr 1 (.tmp 1)), none⟩, ⟨(some 42), (.load1 (.tmp 41)), none⟩, ⟨(some 43), (.bin .eql (.tmp 42) (.const (.int .u8 0))), none⟩, ⟨(some 44), (.move (.tmp 43)), none⟩, ⟨(some 45), (.faddr 1 (.tmp 1)), (some (44, false))⟩, ⟨(some 46), (.load1 (.tmp 45)), (some (44, false))⟩, ⟨(some 47), (.bin .eql (.tmp 46) (.const (.int .u8 83))), (some (44, false))⟩, ⟨(some 48), (.pick (.tmp 44) (.const (.bool true)) (.tmp 47)), none⟩, ⟨(some 49), (.move (.tmp 48)), none⟩, ⟨(some 50), (.faddr 1 (.tmp 1)), (some (49, false))⟩, ⟨(some 51), (.load1 (.tmp 50)), (some (49, false))⟩, ⟨(some 52), (.bin .eql (.tmp 51) (.const (.int .u8 80))), (some (49, false))⟩, ⟨(some 53), (.pick (.tmp 49) (.const (.bool true)) (.tmp 52)), none⟩, ⟨(some 5), (.assign (.tmp 53)), none⟩]) (.seq (.seq (.ops [⟨(some 54), (.faddr 0 (.tmp 1)), none⟩, ⟨(some 55), (.load1 (.tmp 54)), none⟩, ⟨(some 56), (.bin .eql (.tmp 55) (.const (.int .u8 67))), none⟩, ⟨(some 57), (.move (.tmp 56)), none⟩, ⟨(some 58), (.faddr 0 (.tmp 1)), (some (57, false))⟩, ⟨(some 59), (.load1 (.tmp 58)), (some (57, false))⟩, ⟨(some 60), (.bin .eql (.tmp 59) (.const (.int .u8 68))), (some (57, false))⟩, ⟨(some 61), (.pick (.tmp 57) (.const (.bool true)) (.tmp 60)), none⟩]) (.cond (.tmp 61) (.ops [⟨(some 62), (.faddr 1 (.tmp 1)), none⟩, ⟨(some 63), (.load1 (.tmp 62)), none⟩, ⟨(some 64), (.bin .eql (.tmp 63) (.const (.int .u8 83))), none⟩, ⟨(some 65), (.move (.tmp 64)), none⟩, ⟨(some 66), (.faddr 1 (.tmp 1)), (some (65, false))⟩, ⟨(some 67), (.load1 (.tmp 66)), (some (65, false))⟩, ⟨(some 68), (.bin .eql (.tmp 67) (.const (.int .u8 80))), (some (65, false))⟩, ⟨(some 69), (.pick (.tmp 65) (.const (.bool true)) (.tmp 68)), none⟩, ⟨(some 5), (.assign (.tmp 69)), none⟩]) .skip)) (.seq (.seq (.draws (.take ⟨(some 70), (.move (.tmp 3)), none⟩ (.take ⟨(some 71), (.un .not (.tmp 70)), none⟩ (.take ⟨(some 72), (.move (.tmp 71)), none⟩ (.take ⟨(some 73), (.move (.tmp 4)), (some (72, false))⟩ (.take ⟨(some 74), (.un .not (.tmp 73)), (some (72, false))⟩ (.take ⟨(some 75), (.pick (.tmp 72) (.const (.bool true)) (.tmp 74)), none⟩ (.take ⟨(some 76), (.move (.tmp 75)), none⟩ (.take ⟨(some 77), (.move (.tmp 5)), (some (76, false))⟩ (.take ⟨(some 78), (.un .not (.tmp 77)), (some (76, false))⟩ (.take ⟨(some 79), (.pick (.tmp 76) (.const (.bool true)) (.tmp 78)), none⟩ (.take ⟨(some 80), (.move (.tmp 79)), none⟩ (.take ⟨(some 81), (.faddr 9 (.tmp 1)), (some (80, false))⟩ (.take ⟨(some 82), (.load1 (.tmp 81)), (some (80, false))⟩ (.take ⟨(some 83), (.bin .lss (.tmp 82) (.const (.int .i64 (-2147483648)))), (some (80, false))⟩ (.take ⟨(some 84), (.pick (.tmp 80) (.const (.bool true)) (.tmp 83)), none⟩ (.take ⟨(some 85), (.move (.tmp 84)), none⟩ (.take ⟨(some 86), (.faddr 9 (.tmp 1)), (some (85, false))⟩ (.take ⟨(some 87), (.load1 (.tmp 86)), (some (85, false))⟩ (.take ⟨(some 88), (.bin .gtr (.tmp 87) (.const (.int .i64 2147483647))), (some (85, false))⟩ (.take ⟨(some 89), (.pick (.tmp 85) (.const (.bool true)) (.tmp 88)), none⟩ (.take ⟨(some 90), (.move (.tmp 89)), none⟩ (.take ⟨(some 91), (.loadN 10 (.tmp 1)), (some (90, false))⟩ (.take ⟨(some 92), (.loadN 10 (.tmp 1)), (some (90, false))⟩ (.only ⟨(some 93), (.call 72 [(.tmp 92)]), (some (90, false))⟩ (.only ⟨(some 94), (.call 28 [(.tmp 91), (.tmp 93)]), (some (90, false))⟩ (.take ⟨(some 95), (.un .not (.tmp 94)), (some (90, false))⟩ (.take ⟨(some 96), (.pick (.tmp 90) (.const (.bool true)) (.tmp 95)), none⟩ .done)))))))))))))))))))))))))))) (.cond (.tmp 96) (.seq (.ops [⟨(some 2), (.assign (.const (.int .i64 1))), none⟩]) .ret) .skip)) (.seq (.ops [⟨(some 2), (.assign (.const (.int .i64 0))), none⟩]) .ret)))))))), [(.move (.tmp 2))]⟩
theorem k26 : cfun Try.prog 26 = some c26 := by kernel_rfl
def c28 : XFun := ⟨75, (.seq (.ops [⟨(some 2), (.box (.tmp 0)), none⟩, ⟨(some 3), (.box (.tmp 1)), none⟩, ⟨(some 4), (.assign (.const (.bool false))), none⟩]) (.seq (.ops [⟨(some 6), (.faddr 0 (.tmp 2)), none⟩, ⟨(some 7), (.load1 (.tmp 6)), none⟩, ⟨(some 8), (.faddr 0 (.tmp 3)), none⟩, ⟨(some 9), (.load1 (.tmp 8)), none⟩, ⟨(some 10), (.bin .eql (.tmp 7) (.tmp 9)), none⟩, ⟨(some 11), (.move (.tmp 10)), none⟩, ⟨(some 12), (.faddr 1 (.tmp 2)), (some (11, true))⟩, ⟨(some 13), (.load1 (.tmp 12)), (some (11, true))⟩, ⟨(some 14), (.faddr 1 (.tmp 3)), (some (11, true))⟩, ⟨(some 15), (.load1 (.tmp 14)), (some (11, true))⟩, ⟨(some 16), (.bin .eql (.tmp 13) (.tmp 15)), (some (11, true))⟩, ⟨(some 17), (.pick (.tmp 11) (.tmp 16) (.const (.bool false))), none⟩, ⟨(some 18), (.move (.tmp 17)), none⟩, ⟨(some 19), (.faddr 2 (.tmp 2)), (some (18, true))⟩, ⟨(some 20), (.load1 (.tmp 19)), (some (18, true))⟩, ⟨(some 21), (.faddr 2 (.tmp 3)), (some (18, true))⟩, ⟨(some 22), (.load1 (.tmp 21)), (some (18, true))⟩, ⟨(some 23), (.bin .eql (.tmp 20) (.tmp 22)), (some (18, true))⟩, ⟨(some 24), (.pick (.tmp 18) (.tmp 23) (.const (.bool false))), none⟩, ⟨(some 25), (.move (.tmp 24)), none⟩, ⟨(some 26), (.faddr 3 (.tmp 2)), (some (25, true))⟩, ⟨(some 27), (.load1 (.tmp 26)), (some (25, true))⟩, ⟨(some 28), (.faddr 3 (.tmp 3)), (some (25, true))⟩, ⟨(some 29), (.load1 (.tmp 28)), (some (25, true))⟩, ⟨(some 30), (.bin .eql (.tmp 27) (.tmp 29)), (some (25, true))⟩, ⟨(some 31), (.pick (.tmp 25) (.tmp 30) (.const (.bool false))), none⟩, ⟨(some 32), (.move (.tmp 31)), none⟩, ⟨(some 33), (.faddr 4 (.tmp 2)), (some (32, true))⟩, ⟨(some 34), (.load1 (.tmp 33)), (some (32, true))⟩, ⟨(some 35), (.faddr 4 (.tmp 3)), (some (32, true))⟩, ⟨(some 36), (.load1 (.tmp 35)), (some (32, true))⟩, ⟨(some 37), (.bin .eql (.tmp 34) (.tmp 36)), (some (32, true))⟩, ⟨(some 38), (.pick (.tmp 32) (.tmp 37) (.const (.bool false))), none⟩, ⟨(some 39), (.move (.tmp 38)), none⟩, ⟨(some 40), (.faddr 9 (.tmp 2)), (some (39, true))⟩, ⟨(some 41), (.load1 (.tmp 40)), (some (39, true))⟩, ⟨(some 42), (.faddr 9 (.tmp 3)), (some (39, true))⟩, ⟨(some 43), (.load1 (.tmp 42)), (some (39, true))⟩, ⟨(some 44), (.bin .eql (.tmp 41) (.tmp 43)), (some (39, true))⟩, ⟨(some 45), (.pick (.tmp 39) (.tmp 44) (.const (.bool false))), none⟩, ⟨(some 5), (.assign (.tmp 45)), none⟩]) (.seq (.ops [⟨(some 46), (.move (.tmp 5)), none⟩, ⟨(some 47), (.move (.tmp 46)), none⟩, ⟨(some 48), (.faddr 5 (.tmp 2)), (some (47, true))⟩, ⟨(some 49), (.load1 (.tmp 48)), (some (47, true))⟩, ⟨(some 50), (.faddr 5 (.tmp 3)), (some (47, true))⟩, ⟨(some 51), (.load1 (.tmp 50)), (some (47, true))⟩, ⟨(some 52), (.call 77 [(.tmp 49), (.tmp 51)]), (some (47, true))⟩, ⟨(some 53), (.pick (.tmp 47) (.tmp 52) (.const (.bool false))), none⟩, ⟨(some 54), (.move (.tmp 53)), none⟩, ⟨(some 55), (.faddr 6 (.tmp 2)), (some (54, true))⟩, ⟨(some 56), (.load1 (.tmp 55)), (some (54, true))⟩, ⟨(some 57), (.faddr 6 (.tmp 3)), (some (54, true))⟩, ⟨(some 58), (.load1 (.tmp 57)), (some (54, true))⟩, ⟨(some 59), (.call 77 [(.tmp 56), (.tmp 58)]), (some (54, true))⟩, ⟨(some 60), (.pick (.tmp 54) (.tmp 59) (.const (.bool false))), none⟩, ⟨(some 61), (.move (.tmp 60)), none⟩, ⟨(some 62), (.faddr 7 (.tmp 2)), (some (61, true))⟩, ⟨(some 63), (.load1 (.tmp 62)), (some (61, true))⟩, ⟨(some 64), (.faddr 7 (.tmp 3)), (some (61, true))⟩, ⟨(some 65), (.load1 (.tmp 64)), (some (61, true))⟩, ⟨(some 66), (.call 77 [(.tmp 63), (.tmp 65)]), (some (61, true))⟩, ⟨(some 67), (.pick (.tmp 61) (.tmp 66) (.const (.bool false))), none⟩, ⟨(some 68), (.move (.tmp 67)), none⟩, ⟨(some 69), (.faddr 8 (.tmp 2)), (some (68, true))⟩, ⟨(some 70), (.load1 (.tmp 69)), (some (68, true))⟩, ⟨(some 71), (.faddr 8 (.tmp 3)), (some (68, true))⟩, ⟨(some 72), (.load1 (.tmp 71)), (some (68, true))⟩, ⟨(some 73), (.call 78 [(.tmp 70), (.tmp 72)]), (some (68, true))⟩, ⟨(some 74), (.pick (.tmp 68) (.tmp 73) (.const (.bool false))), none⟩, ⟨(some 4), (.assign (.tmp 74)), none⟩]) .ret))), [(.move (.tmp 4))]⟩
theorem k28 : cfun Try.prog 28 = some c28 := by kernel_rfl
def c30 : XFun := ⟨20, (.seq (.ops [⟨(some 2), (.assign (.const (.int .i64 0))), none⟩]) (.seq (.seq (.ops [⟨(some 3), (.move (.tmp 0)), none⟩]) (.block 0 (.seq (.seq (.ops [⟨(some 5), (.bin .eql (.tmp 3) (.const (.int .u8 66))), none⟩, ⟨(some 4), (.assign (.tmp 5)), none⟩]) (.cond (.tmp 4) .skip (.seq (.ops [⟨(some 6), (.bin .eql (.tmp 3) (.const (.int .u8 67))), none⟩, ⟨(some 4), (.assign (.tmp 6)), none⟩]) (.cond (.tmp 4) .skip (.seq (.ops [⟨(some 7), (.bin .eql (.tmp 3) (.const (.int .u8 68))), none⟩, ⟨(some 4), (.assign (.tmp 7)), none⟩]) (.cond (.tmp 4) .skip (.seq (.ops [⟨(some 8), (.bin .eql (.tmp 3) (.const (.int .u8 69))), none⟩, ⟨(some 4), (.assign (.tmp 8)), none⟩]) (.cond (.tmp 4) .skip (.seq (.ops [⟨(some 9), (.bin .eql (.tmp 3) (.const (.int .u8 72))), none⟩, ⟨(some 4), (.assign (.tmp 9)), none⟩]) (.cond (.tmp 4) .skip (.seq (.ops [⟨(some 10), (.bin .eql (.tmp 3) (.const (.int .u8 80))), none⟩, ⟨(some 4), (.assign (.tmp 10)), none⟩]) (.cond (.tmp 4) .skip (.seq (.ops [⟨(some 11), (.bin .eql (.tmp 3) (.const (.int .u8 81))), none⟩, ⟨(some 4), (.assign (.tmp 11)), none⟩]) (.cond (.tmp 4) .skip (.seq (.ops [⟨(some 12), (.bin .eql (.tmp 3) (.const (.int .u8 83))), none⟩, ⟨(some 4), (.assign (.tmp 12)), none⟩]) (.cond (.tmp 4) .skip (.ops [⟨(some 13), (.bin .eql (.tmp 3) (.const (.int .u8 88))), none⟩, ⟨(some 4), (.assign (.tmp 13)), none⟩]))))))))))))))))) (.cond (.tmp 4) (.seq (.ops [⟨(some 2), (.assign (.const (.int .i64 1))), none⟩]) .ret) (.seq (.seq (.ops [⟨(some 15), (.bin .eql (.tmp 3) (.const (.int .u8 70))), none⟩, ⟨(some 14), (.assign (.tmp 15)), none⟩]) (.cond (.tmp 14) .skip (.seq (.ops [⟨(some 16), (.bin .eql (.tmp 3) (.const (.int .u8 99))), none⟩, ⟨(some 14), (.assign (.tmp 16)), none⟩]) (.cond (.tmp 14) .skip (.seq (.ops [⟨(some 17), (.bin .eql (.tmp 3) (.const (.int .u8 100))), none⟩, ⟨(some 14), (.assign (.tmp 17)), none⟩]) (.cond (.tmp 14) .skip (.seq (.ops [⟨(some 18), (.bin .eql (.tmp 3) (.const (.int .u8 102))), none⟩, ⟨(some 14), (.assign (.tmp 18)), none⟩]) (.cond (.tmp 14) .skip (.ops [⟨(some 19), (.bin .eql (.tmp 3) (.const (.int .u8 112))), none⟩, ⟨(some 14), (.assign (.tmp 19)), none⟩]))))))))) (.cond (.tmp 14) (.seq (.ops [⟨(some 2), (.assign (.const (.int .i64 2))), none⟩]) .ret) .skip)))))) (.seq (.ops [⟨(some 2), (.assign (.const (.int .i64 0))), none⟩]) .ret))), [(.move (.tmp 2))]⟩
theorem k30 : cfun Try.prog 30 = some c30 := by kernel_rfl
def c32 : XFun := ⟨32, (.seq (.ops [⟨(some 1), (.box (.tmp 0)), none⟩, ⟨(some 2), (.alloc [(.v (.int .u8 0)), (.v (.int .u8 0)), (.v (.string (strB []))), (.v (.string (strB []))), (.v (.string (strB []))), (.sl 0 [] (some true) .exact), (.sl 0 [] (some true) .exact), (.sl 0 [] (some true) .exact), (.sl 0 [] (some true) .exact), (.v (.int .i64 0))]), none⟩, ⟨(some 3), (.assign (.const (.int .i64 0))), none⟩]) (.seq (.seq (.ops [⟨(some 6), (.faddr 0 (.tmp 1)), none⟩, ⟨(some 7), (.load1 (.tmp 6)), none⟩, ⟨(some 8), (.call 30 [(.tmp 7)]), none⟩]) (.block 0 (.seq (.ops [⟨(some 10), (.bin .eql (.tmp 8) (.const (.int .i64 2))), none⟩, ⟨(some 9), (.assign (.tmp 10)), none⟩]) (.cond (.tmp 9) (.seq (.ops [⟨(some 11), (.build [(.v (.int .u8 0)), (.v (.int .u8 0)), (.v (.string (strB []))), (.v (.string (strB []))), (.v (.string (strB []))), (.sl 0 [] (some true) .exact), (.sl 0 [] (some true) .exact), (.sl 0 [] (some true) .exact), (.sl 0 [] (some true) .exact), (.v (.int .i64 0))] []), none⟩, ⟨none, (.store 10 (.tmp 2) (.tmp 11)), none⟩, ⟨(some 3), (.assign (.const (.int .i64 9))), none⟩]) .ret) (.seq (.ops [⟨(some 13), (.bin .eql (.tmp 8) (.const (.int .i64 0))), none⟩, ⟨(some 12), (.assign (.tmp 13)), none⟩]) (.cond (.tmp 12) (.seq (.ops [⟨(some 14), (.build [(.v (.int .u8 0)), (.v (.int .u8 0)), (.v (.string (strB []))), (.v (.string (strB []))), (.v (.string (strB []))), (.sl 0 [] (some true) .exact), (.sl 0 [] (some true) .exact), (.sl 0 [] (some true) .exact), (.sl 0 [] (some true) .exact), (.v (.int .i64 0))] []), none⟩, ⟨none, (.store 10 (.tmp 2) (.tmp 14)), none⟩, ⟨(some 3), (.assign (.const (.int .i64 4))), none⟩]) .ret) .skip)))))) (.seq (.ops [⟨(some 15), (.faddr 1 (.tmp 1)), none⟩, ⟨(some 16), (.load1 (.tmp 15)), none⟩, ⟨(some 17), (.call 47 [(.tmp 16)]), none⟩, ⟨(some 4), (.assign (.tmp 17)), none⟩]) (.seq (.ops [⟨(some 18), (.move (.tmp 4)), none⟩, ⟨(some 19), (.faddr 0 (.tmp 1)), none⟩, ⟨(some 20), (.load1 (.tmp 19)), none⟩, ⟨(some 21), (.call 81 [(.tmp 18), (.tmp 20)]), none⟩, ⟨(some 5), (.alloc [(.v (.int .u8 0)), (.v (.int .u8 0)), (.v (.string (strB []))), (.v (.string (strB []))), (.v (.string (strB []))), (.sl 0 [] (some true) .exact), (.sl 0 [] (some true) .exact), (.sl 0 [] (some true) .exact), (.sl 0 [] (some true) .exact), (.v (.int .i64 0))]), none⟩, ⟨none, (.store 10 (.tmp 5) (.tmp 21)), none⟩]) (.seq (.seq (.ops [⟨(some 22), (.move (.tmp 4)), none⟩, ⟨(some 23), (.call 50 [(.tmp 22)]), none⟩, ⟨(some 24), (.un .not (.tmp 23)), none⟩, ⟨(some 25), (.move (.tmp 24)), none⟩, ⟨(some 26), (.loadN 10 (.tmp 5)), (some (25, false))⟩, ⟨(some 27), (.call 26 [(.tmp 26)]), (some (25, false))⟩, ⟨(some 28), (.bin .neq (.tmp 27) (.const (.int .i64 0))), (some (25, false))⟩, ⟨(some 29), (.pick (.tmp 25) (.const (.bool true)) (.tmp 28)), none⟩]) (.cond (.tmp 29) (.seq (.ops [⟨(some 30), (.build [(.v (.int .u8 0)), (.v (.int .u8 0)), (.v (.string (strB []))), (.v (.string (strB []))), (.v (.string (strB []))), (.sl 0 [] (some true) .exact), (.sl 0 [] (some true) .exact), (.sl 0 [] (some true) .exact), (.sl 0 [] (some true) .exact), (.v (.int .i64 0))] []), none⟩, ⟨none, (.store 10 (.tmp 2) (.tmp 30)), none⟩, ⟨(some 3), (.assign (.const (.int .i64 4))), none⟩]) .ret) .skip)) (.seq (.ops [⟨(some 31), (.loadN 10 (.tmp 5)), none⟩, ⟨none, (.store 10 (.tmp 2) (.tmp 31)), none⟩, ⟨(some 3), (.assign (.const (.int .i64 0))), none⟩]) .ret)))))), [(.loadN 10 (.tmp 2)), (.move (.tmp 3))]⟩
theorem k32 : cfun Try.prog 32 = some c32 := by kernel_rfl
def c61 : XFun := ⟨26, (.seq (.ops [⟨(some 6), (.assign (.const (.slice none 0 0))), none⟩]) (.seq (.ops [⟨(some 8), (.move (.tmp 0)), none⟩, ⟨(some 9), (.move (.tmp 1)), none⟩, ⟨(some 10), (.lenL (.tmp 9)), none⟩, ⟨(some 11), (.call 57 [(.tmp 8), (.tmp 10), (.const (.int .i64 2))]), none⟩, ⟨(some 0), (.assign (.tmp 11)), none⟩]) (.seq (.seq (.ops [⟨(some 7), (.assign (.const (.int .i64 0))), none⟩]) (.block 0 (.loop (.seq (.seq (.ops [⟨(some 12), (.move (.tmp 7)), none⟩, ⟨(some 13), (.move (.tmp 1)), none⟩, ⟨(some 14), (.lenL (.tmp 13)), none⟩, ⟨(some 15), (.bin .lss (.tmp 12) (.tmp 14)), none⟩]) (.cond (.tmp 15) .skip (.exit 0))) (.seq (.block 1 (.ops [⟨(some 18), (.move (.tmp 0)), none⟩, ⟨(some 19), (.move (.tmp 1)), none⟩, ⟨(some 20), (.move (.tmp 7)), none⟩, ⟨(some 21), (.iaddr 1 (.tmp 19) (.tmp 20)), none⟩, ⟨(some 22), (.load1 (.tmp 21)), none⟩, ⟨(some 23), (.move (.tmp 2)), none⟩, ⟨(some 24), (.call 57 [(.tmp 18), (.tmp 22), (.tmp 23)]), none⟩, ⟨(some 0), (.assign (.tmp 24)), none⟩])) (.ops [⟨(some 16), (.move (.tmp 7)), none⟩, ⟨(some 17), (.bin .add (.tmp 16) (.const (.int .i64 1))), none⟩, ⟨(some 7), (.assign (.tmp 17)), none⟩])))))) (.seq (.ops [⟨(some 25), (.move (.tmp 0)), none⟩, ⟨(some 6), (.assign (.tmp 25)), none⟩]) .ret)))), [(.move (.tmp 6))]⟩
theorem k61 : cfun Try.prog 61 = some c61 := by kernel_rfl
def c62 : XFun := ⟨10, (.seq (.ops [⟨(some 4), (.assign (.const (.slice none 0 0))), none⟩]) (.seq (.ops [⟨(some 5), (.move (.tmp 0)), none⟩, ⟨(some 6), (.move (.tmp 1)), none⟩, ⟨(some 7), (.appendS (.tmp 5) (.tmp 6)), none⟩, ⟨(some 8), (.buildSlice 1 1 [(.v (.int .u8 0))] [(0, (.const (.int .u8 0)))]), none⟩, ⟨(some 9), (.append 1 1 (.tmp 7) (.tmp 8)), none⟩, ⟨(some 4), (.assign (.tmp 9)), none⟩]) .ret)), [(.move (.tmp 4))]⟩
theorem k62 : cfun Try.prog 62 = some c62 := by kernel_rfl
def c63 : XFun := ⟨38, (.seq (.ops [⟨(some 4), (.assign (.const (.slice none 0 0))), none⟩]) (.seq (.ops [⟨(some 6), (.move (.tmp 0)), none⟩, ⟨(some 7), (.move (.tmp 1)), none⟩, ⟨(some 8), (.lenL (.tmp 7)), none⟩, ⟨(some 9), (.call 57 [(.tmp 6), (.tmp 8), (.const (.int .i64 2))]), none⟩, ⟨(some 0), (.assign (.tmp 9)), none⟩]) (.seq (.seq (.ops [⟨(some 5), (.assign (.const (.int .i64 0))), none⟩]) (.block 0 (.loop (.seq (.seq (.ops [⟨(some 10), (.move (.tmp 5)), none⟩, ⟨(some 11), (.move (.tmp 1)), none⟩, ⟨(some 12), (.lenL (.tmp 11)), none⟩, ⟨(some 13), (.bin .lss (.tmp 10) (.tmp 12)), none⟩]) (.cond (.tmp 13) .skip (.exit 0))) (.seq (.block 1 (.seq (.ops [⟨(some 16), (.move (.tmp 1)), none⟩, ⟨(some 17), (.move (.tmp 5)), none⟩, ⟨(some 18), (.iaddr 2 (.tmp 16) (.tmp 17)), none⟩, ⟨(some 19), (.faddr 0 (.tmp 18)), none⟩, ⟨(some 20), (.load1 (.tmp 19)), none⟩]) (.cond (.tmp 20) (.ops [⟨(some 21), (.move (.tmp 0)), none⟩, ⟨(some 22), (.call 57 [(.tmp 21), (.const (.int .i64 (-1))), (.const (.int .i64 4))]), none⟩, ⟨(some 0), (.assign (.tmp 22)), none⟩]) (.draws (.take ⟨(some 23), (.move (.tmp 0)), none⟩ (.take ⟨(some 24), (.move (.tmp 1)), none⟩ (.take ⟨(some 25), (.move (.tmp 5)), none⟩ (.take ⟨(some 26), (.iaddr 2 (.tmp 24) (.tmp 25)), none⟩ (.take ⟨(some 27), (.faddr 1 (.tmp 26)), none⟩ (.take ⟨(some 28), (.load1 (.tmp 27)), none⟩ (.take ⟨(some 29), (.lenL (.tmp 28)), none⟩ (.take ⟨(some 31), (.move (.tmp 1)), none⟩ (.take ⟨(some 32), (.move (.tmp 5)), none⟩ (.take ⟨(some 33), (.iaddr 2 (.tmp 31) (.tmp 32)), none⟩ (.take ⟨(some 34), (.faddr 1 (.tmp 33)), none⟩ (.take ⟨(some 35), (.load1 (.tmp 34)), none⟩ (.only ⟨(some 30), (.call 57 [(.tmp 23), (.tmp 29), (.const (.int .i64 4))]), none⟩ (.only ⟨(some 36), (.append 1 1 (.tmp 30) (.tmp 35)), none⟩ (.take ⟨(some 0), (.assign (.tmp 36)), none⟩ .done))))))))))))))))))) (.ops [⟨(some 14), (.move (.tmp 5)), none⟩, ⟨(some 15), (.bin .add (.tmp 14) (.const (.int .i64 1))), none⟩, ⟨(some 5), (.assign (.tmp 15)), none⟩])))))) (.seq (.ops [⟨(some 37), (.move (.tmp 0)), none⟩, ⟨(some 4), (.assign (.tmp 37)), none⟩]) .ret)))), [(.move (.tmp 4))]⟩
theorem k63 : cfun Try.prog 63 = some c63 := by kernel_rfl
def c70 : XFun := ⟨31, (.seq (.ops [⟨(some 6), (.assign (.const (.bool false))), none⟩]) (.seq (.seq (.ops [⟨(some 8), (.move (.tmp 0)), none⟩, ⟨(some 9), (.lenL (.tmp 8)), none⟩, ⟨(some 10), (.bin .gtr (.tmp 9) (.const (.int .i64 65535))), none⟩]) (.cond (.tmp 10) (.seq (.ops [⟨(some 6), (.assign (.const (.bool false))), none⟩]) .ret) .skip)) (.seq (.seq (.ops [⟨(some 7), (.assign (.const (.int .i64 0))), none⟩]) (.block 0 (.loop (.seq (.seq (.ops [⟨(some 11), (.move (.tmp 7)), none⟩, ⟨(some 12), (.move (.tmp 0)), none⟩, ⟨(some 13), (.lenL (.tmp 12)), none⟩, ⟨(some 14), (.bin .lss (.tmp 11) (.tmp 13)), none⟩]) (.cond (.tmp 14) .skip (.exit 0))) (.seq (.block 1 (.seq (.ops [⟨(some 17), (.move (.tmp 0)), none⟩, ⟨(some 18), (.move (.tmp 7)), none⟩, ⟨(some 19), (.iaddr 1 (.tmp 17) (.tmp 18)), none⟩, ⟨(some 20), (.load1 (.tmp 19)), none⟩, ⟨(some 21), (.move (.tmp 1)), none⟩, ⟨(some 22), (.bin .lss (.tmp 20) (.tmp 21)), none⟩, ⟨(some 23), (.move (.tmp 22)), none⟩, ⟨(some 24), (.move (.tmp 0)), (some (23, false))⟩, ⟨(some 25), (.move (.tmp 7)), (some (23, false))⟩, ⟨(some 26), (.iaddr 1 (.tmp 24) (.tmp 25)), (some (23, false))⟩, ⟨(some 27), (.load1 (.tmp 26)), (some (23, false))⟩, ⟨(some 28), (.move (.tmp 2)), (some (23, false))⟩, ⟨(some 29), (.bin .gtr (.tmp 27) (.tmp 28)), (some (23, false))⟩, ⟨(some 30), (.pick (.tmp 23) (.const (.bool true)) (.tmp 29)), none⟩]) (.cond (.tmp 30) (.seq (.ops [⟨(some 6), (.assign (.const (.bool false))), none⟩]) .ret) .skip))) (.ops [⟨(some 15), (.move (.tmp 7)), none⟩, ⟨(some 16), (.bin .add (.tmp 15) (.const (.int .i64 1))), none⟩, ⟨(some 7), (.assign (.tmp 16)), none⟩])))))) (.seq (.ops [⟨(some 6), (.assign (.const (.bool true))), none⟩]) .ret)))), [(.move (.tmp 6))]⟩
theorem k70 : cfun Try.prog 70 = some c70 := by kernel_rfl
def c71 : XFun := ⟨36, (.seq (.ops [⟨(some 2), (.assign (.const (.bool false))), none⟩]) (.seq (.seq (.ops [⟨(some 4), (.move (.tmp 0)), none⟩, ⟨(some 5), (.lenL (.tmp 4)), none⟩, ⟨(some 6), (.bin .gtr (.tmp 5) (.const (.int .i64 65535))), none⟩]) (.cond (.tmp 6) (.seq (.ops [⟨(some 2), (.assign (.const (.bool false))), none⟩]) .ret) .skip)) (.seq (.seq (.ops [⟨(some 3), (.assign (.const (.int .i64 0))), none⟩]) (.block 0 (.loop (.seq (.seq (.ops [⟨(some 7), (.move (.tmp 3)), none⟩, ⟨(some 8), (.move (.tmp 0)), none⟩, ⟨(some 9), (.lenL (.tmp 8)), none⟩, ⟨(some 10), (.bin .lss (.tmp 7) (.tmp 9)), none⟩]) (.cond (.tmp 10) .skip (.exit 0))) (.seq (.block 1 (.seq (.ops [⟨(some 13), (.move (.tmp 0)), none⟩, ⟨(some 14), (.move (.tmp 3)), none⟩, ⟨(some 15), (.iaddr 2 (.tmp 13) (.tmp 14)), none⟩, ⟨(some 16), (.faddr 0 (.tmp 15)), none⟩, ⟨(some 17), (.load1 (.tmp 16)), none⟩, ⟨(some 18), (.move (.tmp 17)), none⟩, ⟨(some 19), (.move (.tmp 0)), (some (18, true))⟩, ⟨(some 20), (.move (.tmp 3)), (some (18, true))⟩, ⟨(some 21), (.iaddr 2 (.tmp 19) (.tmp 20)), (some (18, true))⟩, ⟨(some 22), (.faddr 1 (.tmp 21)), (some (18, true))⟩, ⟨(some 23), (.load1 (.tmp 22)), (some (18, true))⟩, ⟨(some 24), (.lenL (.tmp 23)), (some (18, true))⟩, ⟨(some 25), (.bin .gtr (.tmp 24) (.const (.int .i64 0))), (some (18, true))⟩, ⟨(some 26), (.pick (.tmp 18) (.tmp 25) (.const (.bool false))), none⟩, ⟨(some 27), (.move (.tmp 26)), none⟩, ⟨(some 28), (.move (.tmp 0)), (some (27, false))⟩, ⟨(some 29), (.move (.tmp 3)), (some (27, false))⟩, ⟨(some 30), (.iaddr 2 (.tmp 28) (.tmp 29)), (some (27, false))⟩, ⟨(some 31), (.faddr 1 (.tmp 30)), (some (27, false))⟩, ⟨(some 32), (.load1 (.tmp 31)), (some (27, false))⟩, ⟨(some 33), (.lenL (.tmp 32)), (some (27, false))⟩, ⟨(some 34), (.bin .gtr (.tmp 33) (.const (.int .i64 1048576))), (some (27, false))⟩, ⟨(some 35), (.pick (.tmp 27) (.const (.bool true)) (.tmp 34)), none⟩]) (.cond (.tmp 35) (.seq (.ops [⟨(some 2), (.assign (.const (.bool false))), none⟩]) .ret) .skip))) (.ops [⟨(some 11), (.move (.tmp 3)), none⟩, ⟨(some 12), (.bin .add (.tmp 11) (.const (.int .i64 1))), none⟩, ⟨(some 3), (.assign (.tmp 12)), none⟩])))))) (.seq (.ops [⟨(some 2), (.assign (.const (.bool true))), none⟩]) .ret)))), [(.move (.tmp 2))]⟩
theorem k71 : cfun Try.prog 71 = some c71 := by kernel_rfl
def c72 : XFun := ⟨66, (.seq (.ops [⟨(some 1), (.box (.tmp 0)), none⟩, ⟨(some 2), (.alloc [(.v (.int .u8 0)), (.v (.int .u8 0)), (.v (.string (strB []))), (.v (.string (strB []))), (.v (.string (strB []))), (.sl 0 [] (some true) .exact), (.sl 0 [] (some true) .exact), (.sl 0 [] (some true) .exact), (.sl 0 [] (some true) .exact), (.v (.int .i64 0))]), none⟩]) (.seq (.ops [⟨(some 4), (.faddr 0 (.tmp 1)), none⟩, ⟨(some 5), (.load1 (.tmp 4)), none⟩, ⟨(some 6), (.build [(.v (.int .u8 0)), (.v (.int .u8 0)), (.v (.string (strB []))), (.v (.string (strB []))), (.v (.string (strB []))), (.sl 0 [] (some true) .exact), (.sl 0 [] (some true) .exact), (.sl 0 [] (some true) .exact), (.sl 0 [] (some true) .exact), (.v (.int .i64 0))] [(0, (1, (.tmp 5)))]), none⟩, ⟨(some 3), (.alloc [(.v (.int .u8 0)), (.v (.int .u8 0)), (.v (.string (strB []))), (.v (.string (strB []))), (.v (.string (strB []))), (.sl 0 [] (some true) .exact), (.sl 0 [] (some true) .exact), (.sl 0 [] (some true) .exact), (.sl 0 [] (some true) .exact), (.v (.int .i64 0))]), none⟩, ⟨none, (.store 10 (.tmp 3) (.tmp 6)), none⟩]) (.seq (.seq (.ops [⟨(some 7), (.faddr 0 (.tmp 1)), none⟩, ⟨(some 8), (.load1 (.tmp 7)), none⟩]) (.block 0 (.seq (.ops [⟨(some 10), (.bin .eql (.tmp 8) (.const (.int .u8 80))), none⟩, ⟨(some 9), (.assign (.tmp 10)), none⟩]) (.cond (.tmp 9) (.draws (.take ⟨(some 11), (.faddr 2 (.tmp 1)), none⟩ (.take ⟨(some 12), (.load1 (.tmp 11)), none⟩ (.take ⟨(some 13), (.faddr 4 (.tmp 1)), none⟩ (.take ⟨(some 14), (.load1 (.tmp 13)), none⟩ (.take ⟨(some 15), (.faddr 5 (.tmp 1)), none⟩ (.take ⟨(some 16), (.load1 (.tmp 15)), none⟩ (.take ⟨(some 17), (.faddr 2 (.tmp 3)), none⟩ (.only ⟨none, (.store 1 (.tmp 17) (.tmp 12)), none⟩ (.take ⟨(some 18), (.faddr 4 (.tmp 3)), none⟩ (.only ⟨none, (.store 1 (.tmp 18) (.tmp 14)), none⟩ (.take ⟨(some 19), (.faddr 5 (.tmp 3)), none⟩ (.only ⟨none, (.store 1 (.tmp 19) (.tmp 16)), none⟩ .done))))))))))))) (.seq (.ops [⟨(some 21), (.bin .eql (.tmp 8) (.const (.int .u8 66))), none⟩, ⟨(some 20), (.assign (.tmp 21)), none⟩]) (.cond (.tmp 20) (.draws (.take ⟨(some 22), (.faddr 3 (.tmp 1)), none⟩ (.take ⟨(some 23), (.load1 (.tmp 22)), none⟩ (.take ⟨(some 24), (.faddr 2 (.tmp 1)), none⟩ (.take ⟨(some 25), (.load1 (.tmp 24)), none⟩ (.take ⟨(some 26), (.faddr 6 (.tmp 1)), none⟩ (.take ⟨(some 27), (.load1 (.tmp 26)), none⟩ (.take ⟨(some 28), (.faddr 8 (.tmp 1)), none⟩ (.take ⟨(some 29), (.load1 (.tmp 28)), none⟩ (.take ⟨(some 30), (.faddr 7 (.tmp 1)), none⟩ (.take ⟨(some 31), (.load1 (.tmp 30)), none⟩ (.take ⟨(some 32), (.faddr 3 (.tmp 3)), none⟩ (.only ⟨none, (.store 1 (.tmp 32) (.tmp 23)), none⟩ (.take ⟨(some 33), (.faddr 2 (.tmp 3)), none⟩ (.only ⟨none, (.store 1 (.tmp 33) (.tmp 25)), none⟩ (.take ⟨(some 34), (.faddr 6 (.tmp 3)), none⟩ (.only ⟨none, (.store 1 (.tmp 34) (.tmp 27)), none⟩ (.take ⟨(some 35), (.faddr 8 (.tmp 3)), none⟩ (.only ⟨none, (.store 1 (.tmp 35) (.tmp 29)), none⟩ (.take ⟨(some 36), (.faddr 7 (.tmp 3)), none⟩ (.only ⟨none, (.store 1 (.tmp 36) (.tmp 31)), none⟩ .done))))))))))))))))))))) (.seq (.seq (.ops [⟨(some 38), (.bin .eql (.tmp 8) (.const (.int .u8 67))), none⟩, ⟨(some 37), (.assign (.tmp 38)), none⟩]) (.cond (.tmp 37) .skip (.ops [⟨(some 39), (.bin .eql (.tmp 8) (.const (.int .u8 68))), none⟩, ⟨(some 37), (.assign (.tmp 39)), none⟩]))) (.cond (.tmp 37) (.seq (.ops [⟨(some 40), (.faddr 1 (.tmp 1)), none⟩, ⟨(some 41), (.load1 (.tmp 40)), none⟩, ⟨(some 42), (.faddr 1 (.tmp 3)), none⟩, ⟨none, (.store 1 (.tmp 42) (.tmp 41)), none⟩]) (.seq (.ops [⟨(some 43), (.faddr 1 (.tmp 1)), none⟩, ⟨(some 44), (.load1 (.tmp 43)), none⟩, ⟨(some 45), (.bin .eql (.tmp 44) (.const (.int .u8 83))), none⟩]) (.cond (.tmp 45) (.ops [⟨(some 46), (.faddr 2 (.tmp 1)), none⟩, ⟨(some 47), (.load1 (.tmp 46)), none⟩, ⟨(some 48), (.faddr 2 (.tmp 3)), none⟩, ⟨none, (.store 1 (.tmp 48) (.tmp 47)), none⟩]) (.ops [⟨(some 49), (.faddr 3 (.tmp 1)), none⟩, ⟨(some 50), (.load1 (.tmp 49)), none⟩, ⟨(some 51), (.faddr 3 (.tmp 3)), none⟩, ⟨none, (.store 1 (.tmp 51) (.tmp 50)), none⟩])))) (.seq (.ops [⟨(some 53), (.bin .eql (.tmp 8) (.const (.int .u8 69))), none⟩, ⟨(some 52), (.assign (.tmp 53)), none⟩]) (.cond (.tmp 52) (.draws (.take ⟨(some 54), (.faddr 3 (.tmp 1)), none⟩ (.take ⟨(some 55), (.load1 (.tmp 54)), none⟩ (.take ⟨(some 56), (.faddr 9 (.tmp 1)), none⟩ (.take ⟨(some 57), (.load1 (.tmp 56)), none⟩ (.take ⟨(some 58), (.faddr 3 (.tmp 3)), none⟩ (.only ⟨none, (.store 1 (.tmp 58) (.tmp 55)), none⟩ (.take ⟨(some 59), (.faddr 9 (.tmp 3)), none⟩ (.only ⟨none, (.store 1 (.tmp 59) (.tmp 57)), none⟩ .done))))))))) (.seq (.ops [⟨(some 61), (.bin .eql (.tmp 8) (.const (.int .u8 81))), none⟩, ⟨(some 60), (.assign (.tmp 61)), none⟩]) (.cond (.tmp 60) (.ops [⟨(some 62), (.faddr 4 (.tmp 1)), none⟩, ⟨(some 63), (.load1 (.tmp 62)), none⟩, ⟨(some 64), (.faddr 4 (.tmp 3)), none⟩, ⟨none, (.store 1 (.tmp 64) (.tmp 63)), none⟩]) .skip)))))))))))) (.seq (.ops [⟨(some 65), (.loadN 10 (.tmp 3)), none⟩, ⟨none, (.store 10 (.tmp 2) (.tmp 65)), none⟩]) .ret)))), [(.loadN 10 (.tmp 2))]⟩
theorem k72 : cfun Try.prog 72 = some c72 := by kernel_rfl
def c77 : XFun := ⟨26, (.seq (.ops [⟨(some 4), (.assign (.const (.bool false))), none⟩]) (.seq (.seq (.ops [⟨(some 6), (.move (.tmp 0)), none⟩, ⟨(some 7), (.lenL (.tmp 6)), none⟩, ⟨(some 8), (.move (.tmp 1)), none⟩, ⟨(some 9), (.lenL (.tmp 8)), none⟩, ⟨(some 10), (.bin .neq (.tmp 7) (.tmp 9)), none⟩]) (.cond (.tmp 10) (.seq (.ops [⟨(some 4), (.assign (.const (.bool false))), none⟩]) .ret) .skip)) (.seq (.seq (.ops [⟨(some 5), (.assign (.const (.int .i64 0))), none⟩]) (.block 0 (.loop (.seq (.seq (.ops [⟨(some 11), (.move (.tmp 5)), none⟩, ⟨(some 12), (.move (.tmp 0)), none⟩, ⟨(some 13), (.lenL (.tmp 12)), none⟩, ⟨(some 14), (.bin .lss (.tmp 11) (.tmp 13)), none⟩]) (.cond (.tmp 14) .skip (.exit 0))) (.seq (.block 1 (.seq (.draws (.take ⟨(some 17), (.move (.tmp 0)), none⟩ (.take ⟨(some 18), (.move (.tmp 5)), none⟩ (.take ⟨(some 19), (.iaddr 1 (.tmp 17) (.tmp 18)), none⟩ (.take ⟨(some 20), (.load1 (.tmp 19)), none⟩ (.take ⟨(some 21), (.move (.tmp 1)), none⟩ (.take ⟨(some 22), (.move (.tmp 5)), none⟩ (.take ⟨(some 23), (.iaddr 1 (.tmp 21) (.tmp 22)), none⟩ (.take ⟨(some 24), (.load1 (.tmp 23)), none⟩ (.take ⟨(some 25), (.bin .neq (.tmp 20) (.tmp 24)), none⟩ .done)))))))))) (.cond (.tmp 25) (.seq (.ops [⟨(some 4), (.assign (.const (.bool false))), none⟩]) .ret) .skip))) (.ops [⟨(some 15), (.move (.tmp 5)), none⟩, ⟨(some 16), (.bin .add (.tmp 15) (.const (.int .i64 1))), none⟩, ⟨(some 5), (.assign (.tmp 16)), none⟩])))))) (.seq (.ops [⟨(some 4), (.assign (.const (.bool true))), none⟩]) .ret)))), [(.move (.tmp 4))]⟩
theorem k77 : cfun Try.prog 77 = some c77 := by kernel_rfl
def c78 : XFun := ⟨43, (.seq (.ops [⟨(some 4), (.assign (.const (.bool false))), none⟩]) (.seq (.seq (.ops [⟨(some 6), (.move (.tmp 0)), none⟩, ⟨(some 7), (.lenL (.tmp 6)), none⟩, ⟨(some 8), (.move (.tmp 1)), none⟩, ⟨(some 9), (.lenL (.tmp 8)), none⟩, ⟨(some 10), (.bin .neq (.tmp 7) (.tmp 9)), none⟩]) (.cond (.tmp 10) (.seq (.ops [⟨(some 4), (.assign (.const (.bool false))), none⟩]) .ret) .skip)) (.seq (.seq (.ops [⟨(some 5), (.assign (.const (.int .i64 0))), none⟩]) (.block 0 (.loop (.seq (.seq (.ops [⟨(some 11), (.move (.tmp 5)), none⟩, ⟨(some 12), (.move (.tmp 0)), none⟩, ⟨(some 13), (.lenL (.tmp 12)), none⟩, ⟨(some 14), (.bin .lss (.tmp 11) (.tmp 13)), none⟩]) (.cond (.tmp 14) .skip (.exit 0))) (.seq (.block 1 (.seq (.draws (.take ⟨(some 17), (.move (.tmp 0)), none⟩ (.take ⟨(some 18), (.move (.tmp 5)), none⟩ (.take ⟨(some 19), (.iaddr 2 (.tmp 17) (.tmp 18)), none⟩ (.take ⟨(some 20), (.faddr 0 (.tmp 19)), none⟩ (.take ⟨(some 21), (.load1 (.tmp 20)), none⟩ (.take ⟨(some 22), (.move (.tmp 1)), none⟩ (.take ⟨(some 23), (.move (.tmp 5)), none⟩ (.take ⟨(some 24), (.iaddr 2 (.tmp 22) (.tmp 23)), none⟩ (.take ⟨(some 25), (.faddr 0 (.tmp 24)), none⟩ (.take ⟨(some 26), (.load1 (.tmp 25)), none⟩ (.take ⟨(some 27), (.beq true (.tmp 21) (.tmp 26)), none⟩ (.take ⟨(some 28), (.move (.tmp 27)), none⟩ (.take ⟨(some 29), (.move (.tmp 0)), (some (28, false))⟩ (.take ⟨(some 30), (.move (.tmp 5)), (some (28, false))⟩ (.take ⟨(some 31), (.iaddr 2 (.tmp 29) (.tmp 30)), (some (28, false))⟩ (.take ⟨(some 32), (.faddr 1 (.tmp 31)), (some (28, false))⟩ (.take ⟨(some 33), (.load1 (.tmp 32)), (some (28, false))⟩ (.take ⟨(some 34), (.b2s (.tmp 33)), (some (28, false))⟩ (.take ⟨(some 35), (.move (.tmp 1)), (some (28, false))⟩ (.take ⟨(some 36), (.move (.tmp 5)), (some (28, false))⟩ (.take ⟨(some 37), (.iaddr 2 (.tmp 35) (.tmp 36)), (some (28, false))⟩ (.take ⟨(some 38), (.faddr 1 (.tmp 37)), (some (28, false))⟩ (.take ⟨(some 39), (.load1 (.tmp 38)), (some (28, false))⟩ (.take ⟨(some 40), (.b2s (.tmp 39)), (some (28, false))⟩ (.take ⟨(some 41), (.bin .neq (.tmp 34) (.tmp 40)), (some (28, false))⟩ (.take ⟨(some 42), (.pick (.tmp 28) (.const (.bool true)) (.tmp 41)), none⟩ .done))))))))))))))))))))))))))) (.cond (.tmp 42) (.seq (.ops [⟨(some 4), (.assign (.const (.bool false))), none⟩]) .ret) .skip))) (.ops [⟨(some 15), (.move (.tmp 5)), none⟩, ⟨(some 16), (.bin .add (.tmp 15) (.const (.int .i64 1))), none⟩, ⟨(some 5), (.assign (.tmp 16)), none⟩])))))) (.seq (.ops [⟨(some 4), (.assign (.const (.bool true))), none⟩]) .ret)))), [(.move (.tmp 4))]⟩
theorem k78 : cfun Try.prog 78 = some c78 := by kernel_rfl
def c81 : XFun := ⟨68, (.seq (.ops [⟨(some 4), (.alloc [(.v (.int .u8 0)), (.v (.int .u8 0)), (.v (.string (strB []))), (.v (.string (strB []))), (.v (.string (strB []))), (.sl 0 [] (some true) .exact), (.sl 0 [] (some true) .exact), (.sl 0 [] (some true) .exact), (.sl 0 [] (some true) .exact), (.v (.int .i64 0))]), none⟩]) (.seq (.ops [⟨(some 6), (.move (.tmp 1)), none⟩, ⟨(some 7), (.build [(.v (.int .u8 0)), (.v (.int .u8 0)), (.v (.string (strB []))), (.v (.string (strB []))), (.v (.string (strB []))), (.sl 0 [] (some true) .exact), (.sl 0 [] (some true) .exact), (.sl 0 [] (some true) .exact), (.sl 0 [] (some true) .exact), (.v (.int .i64 0))] [(0, (1, (.tmp 6)))]), none⟩, ⟨(some 5), (.alloc [(.v (.int .u8 0)), (.v (.int .u8 0)), (.v (.string (strB []))), (.v (.string (strB []))), (.v (.string (strB []))), (.sl 0 [] (some true) .exact), (.sl 0 [] (some true) .exact), (.sl 0 [] (some true) .exact), (.sl 0 [] (some true) .exact), (.v (.int .i64 0))]), none⟩, ⟨none, (.store 10 (.tmp 5) (.tmp 7)), none⟩]) (.seq (.seq (.ops [⟨(some 8), (.move (.tmp 1)), none⟩]) (.block 0 (.seq (.ops [⟨(some 10), (.bin .eql (.tmp 8) (.const (.int .u8 80))), none⟩, ⟨(some 9), (.assign (.tmp 10)), none⟩]) (.cond (.tmp 9) (.ops [⟨(some 11), (.move (.tmp 0)), none⟩, ⟨(some 12), (.call 104 [(.tmp 11)]), none⟩, ⟨(some 13), (.move (.tmp 0)), none⟩, ⟨(some 14), (.call 104 [(.tmp 13)]), none⟩, ⟨(some 15), (.move (.tmp 0)), none⟩, ⟨(some 16), (.call 126 [(.tmp 15), (.const (.int .i64 4))]), none⟩, ⟨(some 17), (.faddr 2 (.tmp 5)), none⟩, ⟨none, (.store 1 (.tmp 17) (.tmp 12)), none⟩, ⟨(some 18), (.faddr 4 (.tmp 5)), none⟩, ⟨none, (.store 1 (.tmp 18) (.tmp 14)), none⟩, ⟨(some 19), (.faddr 5 (.tmp 5)), none⟩, ⟨none, (.store 1 (.tmp 19) (.tmp 16)), none⟩]) (.seq (.ops [⟨(some 21), (.bin .eql (.tmp 8) (.const (.int .u8 66))), none⟩, ⟨(some 20), (.assign (.tmp 21)), none⟩]) (.cond (.tmp 20) (.ops [⟨(some 22), (.move (.tmp 0)), none⟩, ⟨(some 23), (.call 104 [(.tmp 22)]), none⟩, ⟨(some 24), (.move (.tmp 0)), none⟩, ⟨(some 25), (.call 104 [(.tmp 24)]), none⟩, ⟨(some 26), (.move (.tmp 0)), none⟩, ⟨(some 27), (.call 126 [(.tmp 26), (.const (.int .i64 2))]), none⟩, ⟨(some 28), (.move (.tmp 0)), none⟩, ⟨(some 29), (.call 127 [(.tmp 28)]), none⟩, ⟨(some 30), (.move (.tmp 0)), none⟩, ⟨(some 31), (.call 126 [(.tmp 30), (.const (.int .i64 2))]), none⟩, ⟨(some 32), (.faddr 3 (.tmp 5)), none⟩, ⟨none, (.store 1 (.tmp 32) (.tmp 23)), none⟩, ⟨(some 33), (.faddr 2 (.tmp 5)), none⟩, ⟨none, (.store 1 (.tmp 33) (.tmp 25)), none⟩, ⟨(some 34), (.faddr 6 (.tmp 5)), none⟩, ⟨none, (.store 1 (.tmp 34) (.tmp 27)), none⟩, ⟨(some 35), (.faddr 8 (.tmp 5)), none⟩, ⟨none, (.store 1 (.tmp 35) (.tmp 29)), none⟩, ⟨(some 36), (.faddr 7 (.tmp 5)), none⟩, ⟨none, (.store 1 (.tmp 36) (.tmp 31)), none⟩]) (.seq (.seq (.ops [⟨(some 38), (.bin .eql (.tmp 8) (.const (.int .u8 67))), none⟩, ⟨(some 37), (.assign (.tmp 38)), none⟩]) (.cond (.tmp 37) .skip (.ops [⟨(some 39), (.bin .eql (.tmp 8) (.const (.int .u8 68))), none⟩, ⟨(some 37), (.assign (.tmp 39)), none⟩]))) (.cond (.tmp 37) (.seq (.ops [⟨(some 40), (.move (.tmp 0)), none⟩, ⟨(some 41), (.call 48 [(.tmp 40), (.const (.int .i64 1))]), none⟩, ⟨(some 42), (.conv .u8 (.tmp 41)), none⟩, ⟨(some 43), (.faddr 1 (.tmp 5)), none⟩, ⟨none, (.store 1 (.tmp 43) (.tmp 42)), none⟩]) (.seq (.ops [⟨(some 44), (.faddr 1 (.tmp 5)), none⟩, ⟨(some 45), (.load1 (.tmp 44)), none⟩, ⟨(some 46), (.bin .eql (.tmp 45) (.const (.int .u8 83))), none⟩]) (.cond (.tmp 46) (.ops [⟨(some 47), (.move (.tmp 0)), none⟩, ⟨(some 48), (.call 104 [(.tmp 47)]), none⟩, ⟨(some 49), (.faddr 2 (.tmp 5)), none⟩, ⟨none, (.store 1 (.tmp 49) (.tmp 48)), none⟩]) (.ops [⟨(some 50), (.move (.tmp 0)), none⟩, ⟨(some 51), (.call 104 [(.tmp 50)]), none⟩, ⟨(some 52), (.faddr 3 (.tmp 5)), none⟩, ⟨none, (.store 1 (.tmp 52) (.tmp 51)), none⟩])))) (.seq (.ops [⟨(some 54), (.bin .eql (.tmp 8) (.const (.int .u8 69))), none⟩, ⟨(some 53), (.assign (.tmp 54)), none⟩]) (.cond (.tmp 53) (.ops [⟨(some 55), (.move (.tmp 0)), none⟩, ⟨(some 56), (.call 104 [(.tmp 55)]), none⟩, ⟨(some 57), (.move (.tmp 0)), none⟩, ⟨(some 58), (.call 48 [(.tmp 57), (.const (.int .i64 4))]), none⟩, ⟨(some 59), (.call 128 [(.tmp 58), (.const (.int .i64 4))]), none⟩, ⟨(some 60), (.faddr 3 (.tmp 5)), none⟩, ⟨none, (.store 1 (.tmp 60) (.tmp 56)), none⟩, ⟨(some 61), (.faddr 9 (.tmp 5)), none⟩, ⟨none, (.store 1 (.tmp 61) (.tmp 59)), none⟩]) (.seq (.ops [⟨(some 63), (.bin .eql (.tmp 8) (.const (.int .u8 81))), none⟩, ⟨(some 62), (.assign (.tmp 63)), none⟩]) (.cond (.tmp 62) (.ops [⟨(some 64), (.move (.tmp 0)), none⟩, ⟨(some 65), (.call 104 [(.tmp 64)]), none⟩, ⟨(some 66), (.faddr 4 (.tmp 5)), none⟩, ⟨none, (.store 1 (.tmp 66) (.tmp 65)), none⟩]) .skip)))))))))))) (.seq (.ops [⟨(some 67), (.loadN 10 (.tmp 5)), none⟩, ⟨none, (.store 10 (.tmp 4) (.tmp 67)), none⟩]) .ret)))), [(.loadN 10 (.tmp 4))]⟩
theorem k81 : cfun Try.prog 81 = some c81 := by kernel_rfl
def c126 : XFun := ⟨27, (.seq (.ops [⟨(some 4), (.assign (.const (.slice none 0 0))), none⟩]) (.seq (.ops [⟨(some 5), (.assign (.const (.slice none 0 0))), none⟩]) (.seq (.seq (.ops [⟨(some 7), (.move (.tmp 0)), none⟩, ⟨(some 8), (.call 48 [(.tmp 7), (.const (.int .i64 2))]), none⟩, ⟨(some 6), (.assign (.tmp 8)), none⟩]) (.block 0 (.loop (.seq (.seq (.ops [⟨(some 9), (.move (.tmp 6)), none⟩, ⟨(some 10), (.bin .gtr (.tmp 9) (.const (.int .i64 0))), none⟩, ⟨(some 11), (.move (.tmp 10)), none⟩, ⟨(some 12), (.move (.tmp 0)), (some (11, true))⟩, ⟨(some 13), (.nilCheck (.tmp 12)), (some (11, true))⟩, ⟨(some 14), (.faddr 1 (.tmp 13)), (some (11, true))⟩, ⟨(some 15), (.load1 (.tmp 14)), (some (11, true))⟩, ⟨(some 16), (.un .not (.tmp 15)), (some (11, true))⟩, ⟨(some 17), (.pick (.tmp 11) (.tmp 16) (.const (.bool false))), none⟩]) (.cond (.tmp 17) .skip (.exit 0))) (.seq (.block 1 (.ops [⟨(some 20), (.move (.tmp 5)), none⟩, ⟨(some 21), (.move (.tmp 0)), none⟩, ⟨(some 22), (.move (.tmp 1)), none⟩, ⟨(some 23), (.call 48 [(.tmp 21), (.tmp 22)]), none⟩, ⟨(some 24), (.buildSlice 1 1 [(.v (.int .i64 0))] [(0, (.tmp 23))]), none⟩, ⟨(some 25), (.append 1 8 (.tmp 20) (.tmp 24)), none⟩, ⟨(some 5), (.assign (.tmp 25)), none⟩])) (.ops [⟨(some 18), (.move (.tmp 6)), none⟩, ⟨(some 19), (.bin .sub (.tmp 18) (.const (.int .i64 1))), none⟩, ⟨(some 6), (.assign (.tmp 19)), none⟩])))))) (.seq (.ops [⟨(some 26), (.move (.tmp 5)), none⟩, ⟨(some 4), (.assign (.tmp 26)), none⟩]) .ret)))), [(.move (.tmp 4))]⟩
theorem k126 : cfun Try.prog 126 = some c126 := by kernel_rfl
def c127 : XFun := ⟨35, (.seq (.ops [⟨(some 2), (.assign (.const (.slice none 0 0))), none⟩]) (.seq (.ops [⟨(some 3), (.assign (.const (.slice none 0 0))), none⟩]) (.seq (.seq (.ops [⟨(some 6), (.move (.tmp 0)), none⟩, ⟨(some 7), (.call 48 [(.tmp 6), (.const (.int .i64 2))]), none⟩, ⟨(some 4), (.assign (.tmp 7)), none⟩]) (.block 0 (.loop (.seq (.seq (.ops [⟨(some 8), (.move (.tmp 4)), none⟩, ⟨(some 9), (.bin .gtr (.tmp 8) (.const (.int .i64 0))), none⟩, ⟨(some 10), (.move (.tmp 9)), none⟩, ⟨(some 11), (.move (.tmp 0)), (some (10, true))⟩, ⟨(some 12), (.nilCheck (.tmp 11)), (some (10, true))⟩, ⟨(some 13), (.faddr 1 (.tmp 12)), (some (10, true))⟩, ⟨(some 14), (.load1 (.tmp 13)), (some (10, true))⟩, ⟨(some 15), (.un .not (.tmp 14)), (some (10, true))⟩, ⟨(some 16), (.pick (.tmp 10) (.tmp 15) (.const (.bool false))), none⟩]) (.cond (.tmp 16) .skip (.exit 0))) (.seq (.block 1 (.seq (.ops [⟨(some 19), (.move (.tmp 0)), none⟩, ⟨(some 20), (.call 48 [(.tmp 19), (.const (.int .i64 4))]), none⟩, ⟨(some 5), (.assign (.tmp 20)), none⟩]) (.seq (.ops [⟨(some 21), (.move (.tmp 5)), none⟩, ⟨(some 22), (.bin .eql (.tmp 21) (.const (.int .i64 4294967295))), none⟩]) (.cond (.tmp 22) (.ops [⟨(some 23), (.move (.tmp 3)), none⟩, ⟨(some 24), (.build [(.v (.bool false)), (.sl 0 [] (some true) .exact)] [(0, (1, (.const (.bool true))))]), none⟩, ⟨(some 25), (.buildSlice 2 1 [(.v (.bool false)), (.sl 0 [] (some true) .exact)] [(0, (.tmp 24))]), none⟩, ⟨(some 26), (.append 2 32 (.tmp 23) (.tmp 25)), none⟩, ⟨(some 3), (.assign (.tmp 26)), none⟩]) (.ops [⟨(some 27), (.move (.tmp 3)), none⟩, ⟨(some 28), (.move (.tmp 0)), none⟩, ⟨(some 29), (.move (.tmp 5)), none⟩, ⟨(some 30), (.call 162 [(.tmp 28), (.tmp 29)]), none⟩, ⟨(some 31), (.build [(.v (.bool false)), (.sl 0 [] (some true) .exact)] [(1, (1, (.tmp 30)))]), none⟩, ⟨(some 32), (.buildSlice 2 1 [(.v (.bool false)), (.sl 0 [] (some true) .exact)] [(0, (.tmp 31))]), none⟩, ⟨(some 33), (.append 2 32 (.tmp 27) (.tmp 32)), none⟩, ⟨(some 3), (.assign (.tmp 33)), none⟩]))))) (.ops [⟨(some 17), (.move (.tmp 4)), none⟩, ⟨(some 18), (.bin .sub (.tmp 17) (.const (.int .i64 1))), none⟩, ⟨(some 4), (.assign (.tmp 18)), none⟩])))))) (.seq (.ops [⟨(some 34), (.move (.tmp 3)), none⟩, ⟨(some 2), (.assign (.tmp 34)), none⟩]) .ret)))), [(.move (.tmp 2))]⟩
theorem k127 : cfun Try.prog 127 = some c127 := by kernel_rfl
def c6 : XFun := ⟨73, (.seq (.ops [⟨(some 2), (.box (.tmp 0)), none⟩, ⟨(some 3), (.box (.tmp 1)), none⟩, ⟨(some 4), (.assign (.const (.bool false))), none⟩]) (.seq (.seq (.ops [⟨(some 9), (.loadN 10 (.tmp 2)), none⟩, ⟨(some 10), (.call 21 [(.tmp 9)]), none⟩, ⟨(some 11), (.un .not (.tmp 10)), none⟩, ⟨(some 12), (.move (.tmp 11)), none⟩, ⟨(some 13), (.loadN 10 (.tmp 3)), (some (12, false))⟩, ⟨(some 14), (.call 21 [(.tmp 13)]), (some (12, false))⟩, ⟨(some 15), (.un .not (.tmp 14)), (some (12, false))⟩, ⟨(some 16), (.pick (.tmp 12) (.const (.bool true)) (.tmp 15)), none⟩]) (.cond (.tmp 16) (.seq (.ops [⟨(some 17), (.call 22 []), none⟩, ⟨(some 4), (.assign (.tmp 17)), none⟩]) .ret) .skip)) (.seq (.ops [⟨(some 19), (.loadN 10 (.tmp 2)), none⟩, ⟨(some 20), (.call 23 [(.tmp 19)]), none⟩, ⟨(some 18), (.move (.tmp 20)), none⟩, ⟨(some 21), (.extract (.tmp 18) 0), none⟩, ⟨(some 22), (.extract (.tmp 18) 1), none⟩, ⟨(some 5), (.alloc [(.v (.int .u8 0)), (.sl 0 [] (some true) .exact)]), none⟩, ⟨none, (.store 2 (.tmp 5) (.tmp 21)), none⟩, ⟨(some 6), (.assign (.tmp 22)), none⟩]) (.seq (.ops [⟨(some 24), (.loadN 10 (.tmp 2)), none⟩, ⟨(some 25), (.call 24 [(.tmp 24)]), none⟩, ⟨(some 23), (.move (.tmp 25)), none⟩, ⟨(some 26), (.extract (.tmp 23) 0), none⟩, ⟨(some 27), (.extract (.tmp 23) 1), none⟩, ⟨(some 7), (.alloc [(.v (.int .u8 0)), (.sl 0 [] (some true) .exact)]), none⟩, ⟨none, (.store 2 (.tmp 7) (.tmp 26)), none⟩, ⟨(some 8), (.assign (.tmp 27)), none⟩]) (.seq (.draws (.take ⟨(some 28), (.move (.tmp 6)), none⟩ (.take ⟨(some 29), (.move (.tmp 8)), none⟩ (.take ⟨(some 30), (.bin .eql (.tmp 28) (.tmp 29)), none⟩ (.take ⟨(some 31), (.move (.tmp 30)), none⟩ (.take ⟨(some 32), (.faddr 0 (.tmp 5)), (some (31, true))⟩ (.take ⟨(some 33), (.load1 (.tmp 32)), (some (31, true))⟩ (.take ⟨(some 34), (.faddr 0 (.tmp 7)), (some (31, true))⟩ (.take ⟨(some 35), (.load1 (.tmp 34)), (some (31, true))⟩ (.take ⟨(some 36), (.bin .eql (.tmp 33) (.tmp 35)), (some (31, true))⟩ (.take ⟨(some 37), (.pick (.tmp 31) (.tmp 36) (.const (.bool false))), none⟩ (.take ⟨(some 38), (.move (.tmp 37)), none⟩ (.take ⟨(some 39), (.faddr 1 (.tmp 5)), (some (38, true))⟩ (.take ⟨(some 40), (.load1 (.tmp 39)), (some (38, true))⟩ (.take ⟨(some 41), (.faddr 1 (.tmp 7)), (some (38, true))⟩ (.take ⟨(some 42), (.load1 (.tmp 41)), (some (38, true))⟩ (.only ⟨(some 43), (.call 20 [(.tmp 40), (.tmp 42)]), (some (38, true))⟩ (.take ⟨(some 44), (.pick (.tmp 38) (.tmp 43) (.const (.bool false))), none⟩ (.take ⟨(some 45), (.move (.tmp 44)), none⟩ (.take ⟨(some 46), (.loadN 10 (.tmp 2)), (some (45, true))⟩ (.take ⟨(some 48), (.loadN 10 (.tmp 2)), (some (45, true))⟩ (.only ⟨(some 47), (.call 25 [(.tmp 46)]), (some (45, true))⟩ (.only ⟨(some 49), (.call 26 [(.tmp 48)]), (some (45, true))⟩ (.take ⟨(some 50), (.bin .eql (.tmp 47) (.tmp 49)), (some (45, true))⟩ (.take ⟨(some 51), (.pick (.tmp 45) (.tmp 50) (.const (.bool false))), none⟩ (.take ⟨(some 52), (.move (.tmp 51)), none⟩ (.take ⟨(some 53), (.loadN 10 (.tmp 2)), (some (52, true))⟩ (.take ⟨(some 54), (.loadN 10 (.tmp 3)), (some (52, true))⟩ (.take ⟨(some 56), (.loadN 10 (.tmp 2)), (some (52, true))⟩ (.take ⟨(some 57), (.loadN 10 (.tmp 3)), (some (52, true))⟩ (.only ⟨(some 55), (.call 27 [(.tmp 53), (.tmp 54)]), (some (52, true))⟩ (.only ⟨(some 58), (.call 28 [(.tmp 56), (.tmp 57)]), (some (52, true))⟩ (.take ⟨(some 59), (.beq false (.tmp 55) (.tmp 58)), (some (52, true))⟩ (.take ⟨(some 60), (.pick (.tmp 52) (.tmp 59) (.const (.bool false))), none⟩ (.take ⟨(some 61), (.move (.tmp 60)), none⟩ (.take ⟨(some 62), (.faddr 0 (.tmp 2)), (some (61, true))⟩ (.take ⟨(some 63), (.load1 (.tmp 62)), (some (61, true))⟩ (.take ⟨(some 65), (.faddr 0 (.tmp 2)), (some (61, true))⟩ (.take ⟨(some 66), (.load1 (.tmp 65)), (some (61, true))⟩ (.only ⟨(some 64), (.call 29 [(.tmp 63)]), (some (61, true))⟩ (.only ⟨(some 67), (.call 30 [(.tmp 66)]), (some (61, true))⟩ (.take ⟨(some 68), (.bin .eql (.tmp 64) (.tmp 67)), (some (61, true))⟩ (.take ⟨(some 69), (.pick (.tmp 61) (.tmp 68) (.const (.bool false))), none⟩ (.take ⟨(some 70), (.move (.tmp 69)), none⟩ (.only ⟨(some 71), (.call 22 []), (some (70, true))⟩ (.take ⟨(some 72), (.pick (.tmp 70) (.tmp 71) (.const (.bool false))), none⟩ (.take ⟨(some 4), (.assign (.tmp 72)), none⟩ .done))))))))))))))))))))))))))))))))))))))))))))))) .ret))))), [(.move (.tmp 4))]⟩
theorem k6 : cfun Try.prog 6 = some c6 := by kernel_rfl
def c7 : XFun := ⟨33, (.seq (.ops [⟨(some 1), (.box (.tmp 0)), none⟩, ⟨(some 2), (.assign (.const (.bool false))), none⟩]) (.seq (.seq (.ops [⟨(some 7), (.faddr 1 (.tmp 1)), none⟩, ⟨(some 8), (.load1 (.tmp 7)), none⟩, ⟨(some 9), (.lenL (.tmp 8)), none⟩, ⟨(some 10), (.bin .gtr (.tmp 9) (.const (.int .i64 2000))), none⟩]) (.cond (.tmp 10) (.seq (.ops [⟨(some 11), (.call 22 []), none⟩, ⟨(some 2), (.assign (.tmp 11)), none⟩]) .ret) .skip)) (.seq (.ops [⟨(some 13), (.loadN 2 (.tmp 1)), none⟩, ⟨(some 14), (.call 31 [(.tmp 13)]), none⟩, ⟨(some 12), (.move (.tmp 14)), none⟩, ⟨(some 15), (.extract (.tmp 12) 0), none⟩, ⟨(some 16), (.extract (.tmp 12) 1), none⟩, ⟨(some 3), (.alloc [(.v (.int .u8 0)), (.v (.int .u8 0)), (.v (.string (strB []))), (.v (.string (strB []))), (.v (.string (strB []))), (.sl 0 [] (some true) .exact), (.sl 0 [] (some true) .exact), (.sl 0 [] (some true) .exact), (.sl 0 [] (some true) .exact), (.v (.int .i64 0))]), none⟩, ⟨none, (.store 10 (.tmp 3) (.tmp 15)), none⟩, ⟨(some 4), (.assign (.tmp 16)), none⟩]) (.seq (.ops [⟨(some 18), (.loadN 2 (.tmp 1)), none⟩, ⟨(some 19), (.call 32 [(.tmp 18)]), none⟩, ⟨(some 17), (.move (.tmp 19)), none⟩, ⟨(some 20), (.extract (.tmp 17) 0), none⟩, ⟨(some 21), (.extract (.tmp 17) 1), none⟩, ⟨(some 5), (.alloc [(.v (.int .u8 0)), (.v (.int .u8 0)), (.v (.string (strB []))), (.v (.string (strB []))), (.v (.string (strB []))), (.sl 0 [] (some true) .exact), (.sl 0 [] (some true) .exact), (.sl 0 [] (some true) .exact), (.sl 0 [] (some true) .exact), (.v (.int .i64 0))]), none⟩, ⟨none, (.store 10 (.tmp 5) (.tmp 20)), none⟩, ⟨(some 6), (.assign (.tmp 21)), none⟩]) (.seq (.ops [⟨(some 22), (.move (.tmp 4)), none⟩, ⟨(some 23), (.move (.tmp 6)), none⟩, ⟨(some 24), (.bin .eql (.tmp 22) (.tmp 23)), none⟩, ⟨(some 25), (.move (.tmp 24)), none⟩, ⟨(some 26), (.loadN 10 (.tmp 3)), (some (25, true))⟩, ⟨(some 27), (.loadN 10 (.tmp 5)), (some (25, true))⟩, ⟨(some 28), (.call 28 [(.tmp 26), (.tmp 27)]), (some (25, true))⟩, ⟨(some 29), (.pick (.tmp 25) (.tmp 28) (.const (.bool false))), none⟩, ⟨(some 30), (.move (.tmp 29)), none⟩, ⟨(some 31), (.call 22 []), (some (30, true))⟩, ⟨(some 32), (.pick (.tmp 30) (.tmp 31) (.const (.bool false))), none⟩, ⟨(some 2), (.assign (.tmp 32)), none⟩]) .ret))))), [(.move (.tmp 2))]⟩
theorem k7 : cfun Try.prog 7 = some c7 := by kernel_rfl
def c8 : XFun := ⟨80, (.seq (.ops [⟨(some 2), (.box (.tmp 0)), none⟩, ⟨(some 3), (.box (.tmp 1)), none⟩, ⟨(some 4), (.assign (.const (.bool false))), none⟩]) (.seq (.seq (.ops [⟨(some 13), (.loadN 10 (.tmp 2)), none⟩, ⟨(some 14), (.call 21 [(.tmp 13)]), none⟩, ⟨(some 15), (.un .not (.tmp 14)), none⟩, ⟨(some 16), (.move (.tmp 15)), none⟩, ⟨(some 17), (.faddr 1 (.tmp 3)), (some (16, false))⟩, ⟨(some 18), (.load1 (.tmp 17)), (some (16, false))⟩, ⟨(some 19), (.lenL (.tmp 18)), (some (16, false))⟩, ⟨(some 20), (.bin .gtr (.tmp 19) (.const (.int .i64 2000))), (some (16, false))⟩, ⟨(some 21), (.pick (.tmp 16) (.const (.bool true)) (.tmp 20)), none⟩]) (.cond (.tmp 21) (.seq (.ops [⟨(some 22), (.call 22 []), none⟩, ⟨(some 4), (.assign (.tmp 22)), none⟩]) .ret) .skip)) (.seq (.seq (.ops [⟨(some 24), (.loadN 10 (.tmp 2)), none⟩, ⟨(some 25), (.call 23 [(.tmp 24)]), none⟩, ⟨(some 23), (.move (.tmp 25)), none⟩, ⟨(some 26), (.extract (.tmp 23) 0), none⟩, ⟨(some 27), (.extract (.tmp 23) 1), none⟩, ⟨(some 5), (.alloc [(.v (.int .u8 0)), (.sl 0 [] (some true) .exact)]), none⟩, ⟨none, (.store 2 (.tmp 5) (.tmp 26)), none⟩, ⟨(some 6), (.assign (.tmp 27)), none⟩]) (.seq (.ops [⟨(some 28), (.move (.tmp 6)), none⟩, ⟨(some 29), (.bin .eql (.tmp 28) (.const (.int .i64 0))), none⟩]) (.cond (.tmp 29) (.seq (.ops [⟨(some 31), (.loadN 2 (.tmp 5)), none⟩, ⟨(some 32), (.call 31 [(.tmp 31)]), none⟩, ⟨(some 30), (.move (.tmp 32)), none⟩, ⟨(some 33), (.extract (.tmp 30) 0), none⟩, ⟨(some 34), (.extract (.tmp 30) 1), none⟩, ⟨(some 7), (.alloc [(.v (.int .u8 0)), (.v (.int .u8 0)), (.v (.string (strB []))), (.v (.string (strB []))), (.v (.string (strB []))), (.sl 0 [] (some true) .exact), (.sl 0 [] (some true) .exact), (.sl 0 [] (some true) .exact), (.sl 0 [] (some true) .exact), (.v (.int .i64 0))]), none⟩, ⟨none, (.store 10 (.tmp 7) (.tmp 33)), none⟩, ⟨(some 8), (.assign (.tmp 34)), none⟩]) (.seq (.ops [⟨(some 35), (.move (.tmp 8)), none⟩, ⟨(some 36), (.bin .neq (.tmp 35) (.const (.int .i64 0))), none⟩, ⟨(some 37), (.move (.tmp 36)), none⟩, ⟨(some 38), (.loadN 10 (.tmp 2)), (some (37, false))⟩, ⟨(some 39), (.loadN 10 (.tmp 7)), (some (37, false))⟩, ⟨(some 40), (.call 27 [(.tmp 38), (.tmp 39)]), (some (37, false))⟩, ⟨(some 41), (.un .not (.tmp 40)), (some (37, false))⟩, ⟨(some 42), (.pick (.tmp 37) (.const (.bool true)) (.tmp 41)), none⟩]) (.cond (.tmp 42) (.seq (.ops [⟨(some 4), (.assign (.const (.bool false))), none⟩]) .ret) .skip))) .skip))) (.seq (.ops [⟨(some 44), (.loadN 2 (.tmp 3)), none⟩, ⟨(some 45), (.call 31 [(.tmp 44)]), none⟩, ⟨(some 43), (.move (.tmp 45)), none⟩, ⟨(some 46), (.extract (.tmp 43) 0), none⟩, ⟨(some 47), (.extract (.tmp 43) 1), none⟩, ⟨(some 9), (.alloc [(.v (.int .u8 0)), (.v (.int .u8 0)), (.v (.string (strB []))), (.v (.string (strB []))), (.v (.string (strB []))), (.sl 0 [] (some true) .exact), (.sl 0 [] (some true) .exact), (.sl 0 [] (some true) .exact), (.sl 0 [] (some true) .exact), (.v (.int .i64 0))]), none⟩, ⟨none, (.store 10 (.tmp 9) (.tmp 46)), none⟩, ⟨(some 10), (.assign (.tmp 47)), none⟩]) (.seq (.seq (.ops [⟨(some 48), (.move (.tmp 10)), none⟩, ⟨(some 49), (.bin .neq (.tmp 48) (.const (.int .i64 0))), none⟩]) (.cond (.tmp 49) (.seq (.ops [⟨(some 50), (.loadN 10 (.tmp 9)), none⟩, ⟨(some 51), (.build [(.v (.int .u8 0)), (.v (.int .u8 0)), (.v (.string (strB []))), (.v (.string (strB []))), (.v (.string (strB []))), (.sl 0 [] (some true) .exact), (.sl 0 [] (some true) .exact), (.sl 0 [] (some true) .exact), (.sl 0 [] (some true) .exact), (.v (.int .i64 0))] []), none⟩, ⟨(some 52), (.call 27 [(.tmp 50), (.tmp 51)]), none⟩, ⟨(some 53), (.move (.tmp 52)), none⟩, ⟨(some 54), (.call 22 []), (some (53, true))⟩, ⟨(some 55), (.pick (.tmp 53) (.tmp 54) (.const (.bool false))), none⟩, ⟨(some 4), (.assign (.tmp 55)), none⟩]) .ret) .skip)) (.seq (.ops [⟨(some 57), (.loadN 10 (.tmp 9)), none⟩, ⟨(some 58), (.call 23 [(.tmp 57)]), none⟩, ⟨(some 56), (.move (.tmp 58)), none⟩, ⟨(some 59), (.extract (.tmp 56) 0), none⟩, ⟨(some 60), (.extract (.tmp 56) 1), none⟩, ⟨(some 11), (.alloc [(.v (.int .u8 0)), (.sl 0 [] (some true) .exact)]), none⟩, ⟨none, (.store 2 (.tmp 11) (.tmp 59)), none⟩, ⟨(some 12), (.assign (.tmp 60)), none⟩]) (.seq (.ops [⟨(some 61), (.move (.tmp 12)), none⟩, ⟨(some 62), (.bin .eql (.tmp 61) (.const (.int .i64 0))), none⟩, ⟨(some 63), (.move (.tmp 62)), none⟩, ⟨(some 64), (.faddr 0 (.tmp 11)), (some (63, true))⟩, ⟨(some 65), (.load1 (.tmp 64)), (some (63, true))⟩, ⟨(some 66), (.faddr 0 (.tmp 3)), (some (63, true))⟩, ⟨(some 67), (.load1 (.tmp 66)), (some (63, true))⟩, ⟨(some 68), (.bin .eql (.tmp 65) (.tmp 67)), (some (63, true))⟩, ⟨(some 69), (.pick (.tmp 63) (.tmp 68) (.const (.bool false))), none⟩, ⟨(some 70), (.move (.tmp 69)), none⟩, ⟨(some 71), (.faddr 1 (.tmp 11)), (some (70, true))⟩, ⟨(some 72), (.load1 (.tmp 71)), (some (70, true))⟩, ⟨(some 73), (.faddr 1 (.tmp 3)), (some (70, true))⟩, ⟨(some 74), (.load1 (.tmp 73)), (some (70, true))⟩, ⟨(some 75), (.call 20 [(.tmp 72), (.tmp 74)]), (some (70, true))⟩, ⟨(some 76), (.pick (.tmp 70) (.tmp 75) (.const (.bool false))), none⟩, ⟨(some 77), (.move (.tmp 76)), none⟩, ⟨(some 78), (.call 22 []), (some (77, true))⟩, ⟨(some 79), (.pick (.tmp 77) (.tmp 78) (.const (.bool false))), none⟩, ⟨(some 4), (.assign (.tmp 79)), none⟩]) .ret))))))), [(.move (.tmp 4))]⟩
theorem k8 : cfun Try.prog 8 = some c8 := by kernel_rfl
def c22 : XFun := ⟨41, (.seq (.ops [⟨(some 0), (.assign (.const (.bool false))), none⟩]) (.seq (.ops [⟨(some 6), (.buildSlice 1 1 [(.v (.int .i64 0))] [(0, (.const (.int .i64 23)))]), none⟩, ⟨(some 7), (.build [(.v (.int .u8 0)), (.v (.int .u8 0)), (.v (.string (strB []))), (.v (.string (strB []))), (.v (.string (strB []))), (.sl 0 [] (some true) .exact), (.sl 0 [] (some true) .exact), (.sl 0 [] (some true) .exact), (.sl 0 [] (some true) .exact), (.v (.int .i64 0))] [(0, (1, (.const (.int .u8 80)))), (2, (1, (.const (.string (strB [97]))))), (4, (1, (.const (.string (strB [98, 101, 103, 105, 110]))))), (5, (1, (.tmp 6)))]), none⟩, ⟨(some 8), (.call 23 [(.tmp 7)]), none⟩, ⟨(some 5), (.move (.tmp 8)), none⟩, ⟨(some 9), (.extract (.tmp 5) 0), none⟩, ⟨(some 10), (.extract (.tmp 5) 1), none⟩, ⟨(some 1), (.alloc [(.v (.int .u8 0)), (.sl 0 [] (some true) .exact)]), none⟩, ⟨none, (.store 2 (.tmp 1) (.tmp 9)), none⟩, ⟨(some 2), (.assign (.tmp 10)), none⟩]) (.seq (.ops [⟨(some 12), (.loadN 2 (.tmp 1)), none⟩, ⟨(some 13), (.call 31 [(.tmp 12)]), none⟩, ⟨(some 11), (.move (.tmp 13)), none⟩, ⟨(some 14), (.extract (.tmp 11) 0), none⟩, ⟨(some 15), (.extract (.tmp 11) 1), none⟩, ⟨(some 3), (.alloc [(.v (.int .u8 0)), (.v (.int .u8 0)), (.v (.string (strB []))), (.v (.string (strB []))), (.v (.string (strB []))), (.sl 0 [] (some true) .exact), (.sl 0 [] (some true) .exact), (.sl 0 [] (some true) .exact), (.sl 0 [] (some true) .exact), (.v (.int .i64 0))]), none⟩, ⟨none, (.store 10 (.tmp 3) (.tmp 14)), none⟩, ⟨(some 4), (.assign (.tmp 15)), none⟩]) (.seq (.ops [⟨(some 16), (.move (.tmp 2)), none⟩, ⟨(some 17), (.bin .eql (.tmp 16) (.const (.int .i64 0))), none⟩, ⟨(some 18), (.move (.tmp 17)), none⟩, ⟨(some 19), (.move (.tmp 4)), (some (18, true))⟩, ⟨(some 20), (.bin .eql (.tmp 19) (.const (.int .i64 0))), (some (18, true))⟩, ⟨(some 21), (.pick (.tmp 18) (.tmp 20) (.const (.bool false))), none⟩, ⟨(some 22), (.move (.tmp 21)), none⟩, ⟨(some 23), (.faddr 2 (.tmp 3)), (some (22, true))⟩, ⟨(some 24), (.load1 (.tmp 23)), (some (22, true))⟩, ⟨(some 25), (.bin .eql (.tmp 24) (.const (.string (strB [97])))), (some (22, true))⟩, ⟨(some 26), (.pick (.tmp 22) (.tmp 25) (.const (.bool false))), none⟩, ⟨(some 27), (.move (.tmp 26)), none⟩, ⟨(some 28), (.faddr 5 (.tmp 3)), (some (27, true))⟩, ⟨(some 29), (.load1 (.tmp 28)), (some (27, true))⟩, ⟨(some 30), (.lenL (.tmp 29)), (some (27, true))⟩, ⟨(some 31), (.bin .eql (.tmp 30) (.const (.int .i64 1))), (some (27, true))⟩, ⟨(some 32), (.pick (.tmp 27) (.tmp 31) (.const (.bool false))), none⟩, ⟨(some 33), (.move (.tmp 32)), none⟩, ⟨(some 34), (.call 29 [(.const (.int .u8 83))]), (some (33, true))⟩, ⟨(some 35), (.bin .eql (.tmp 34) (.const (.int .i64 1))), (some (33, true))⟩, ⟨(some 36), (.pick (.tmp 33) (.tmp 35) (.const (.bool false))), none⟩, ⟨(some 37), (.move (.tmp 36)), none⟩, ⟨(some 38), (.call 29 [(.const (.int .u8 112))]), (some (37, true))⟩, ⟨(some 39), (.bin .eql (.tmp 38) (.const (.int .i64 2))), (some (37, true))⟩, ⟨(some 40), (.pick (.tmp 37) (.tmp 39) (.const (.bool false))), none⟩, ⟨(some 0), (.assign (.tmp 40)), none⟩]) .ret)))), [(.move (.tmp 0))]⟩
theorem k22 : cfun Try.prog 22 = some c22 := by kernel_rfl
def c21 : XFun := ⟨44, (.seq (.ops [⟨(some 1), (.box (.tmp 0)), none⟩, ⟨(some 2), (.assign (.const (.bool false))), none⟩]) (.seq (.seq (.ops [⟨(some 3), (.faddr 5 (.tmp 1)), none⟩, ⟨(some 4), (.load1 (.tmp 3)), none⟩, ⟨(some 5), (.lenL (.tmp 4)), none⟩, ⟨(some 6), (.bin .gtr (.tmp 5) (.const (.int .i64 50))), none⟩, ⟨(some 7), (.move (.tmp 6)), none⟩, ⟨(some 8), (.faddr 6 (.tmp 1)), (some (7, false))⟩, ⟨(some 9), (.load1 (.tmp 8)), (some (7, false))⟩, ⟨(some 10), (.lenL (.tmp 9)), (some (7, false))⟩, ⟨(some 11), (.bin .gtr (.tmp 10) (.const (.int .i64 50))), (some (7, false))⟩, ⟨(some 12), (.pick (.tmp 7) (.const (.bool true)) (.tmp 11)), none⟩, ⟨(some 13), (.move (.tmp 12)), none⟩, ⟨(some 14), (.faddr 7 (.tmp 1)), (some (13, false))⟩, ⟨(some 15), (.load1 (.tmp 14)), (some (13, false))⟩, ⟨(some 16), (.lenL (.tmp 15)), (some (13, false))⟩, ⟨(some 17), (.bin .gtr (.tmp 16) (.const (.int .i64 50))), (some (13, false))⟩, ⟨(some 18), (.pick (.tmp 13) (.const (.bool true)) (.tmp 17)), none⟩, ⟨(some 19), (.move (.tmp 18)), none⟩, ⟨(some 20), (.faddr 8 (.tmp 1)), (some (19, false))⟩, ⟨(some 21), (.load1 (.tmp 20)), (some (19, false))⟩, ⟨(some 22), (.lenL (.tmp 21)), (some (19, false))⟩, ⟨(some 23), (.bin .gtr (.tmp 22) (.const (.int .i64 50))), (some (19, false))⟩, ⟨(some 24), (.pick (.tmp 19) (.const (.bool true)) (.tmp 23)), none⟩]) (.cond (.tmp 24) (.seq (.ops [⟨(some 2), (.assign (.const (.bool false))), none⟩]) .ret) .skip)) (.seq (.seq (.ops [⟨(some 25), (.faddr 8 (.tmp 1)), none⟩, ⟨(some 26), (.load1 (.tmp 25)), none⟩, ⟨(some 27), (.call 58 [(.tmp 26), (.func 59)]), none⟩]) (.cond (.tmp 27) (.seq (.ops [⟨(some 2), (.assign (.const (.bool false))), none⟩]) .ret) .skip)) (.seq (.ops [⟨(some 28), (.faddr 2 (.tmp 1)), none⟩, ⟨(some 29), (.load1 (.tmp 28)), none⟩, ⟨(some 30), (.lenS (.tmp 29)), none⟩, ⟨(some 31), (.bin .leq (.tmp 30) (.const (.int .i64 300))), none⟩, ⟨(some 32), (.move (.tmp 31)), none⟩, ⟨(some 33), (.faddr 3 (.tmp 1)), (some (32, true))⟩, ⟨(some 34), (.load1 (.tmp 33)), (some (32, true))⟩, ⟨(some 35), (.lenS (.tmp 34)), (some (32, true))⟩, ⟨(some 36), (.bin .leq (.tmp 35) (.const (.int .i64 300))), (some (32, true))⟩, ⟨(some 37), (.pick (.tmp 32) (.tmp 36) (.const (.bool false))), none⟩, ⟨(some 38), (.move (.tmp 37)), none⟩, ⟨(some 39), (.faddr 4 (.tmp 1)), (some (38, true))⟩, ⟨(some 40), (.load1 (.tmp 39)), (some (38, true))⟩, ⟨(some 41), (.lenS (.tmp 40)), (some (38, true))⟩, ⟨(some 42), (.bin .leq (.tmp 41) (.const (.int .i64 1000))), (some (38, true))⟩, ⟨(some 43), (.pick (.tmp 38) (.tmp 42) (.const (.bool false))), none⟩, ⟨(some 2), (.assign (.tmp 43)), none⟩]) .ret)))), [(.move (.tmp 2))]⟩
theorem k21 : cfun Try.prog 21 = some c21 := by kernel_rfl
def c59 : XFun := ⟨7, (.seq (.ops [⟨(some 1), (.box (.tmp 0)), none⟩, ⟨(some 2), (.assign (.const (.bool false))), none⟩]) (.seq (.ops [⟨(some 3), (.faddr 1 (.tmp 1)), none⟩, ⟨(some 4), (.load1 (.tmp 3)), none⟩, ⟨(some 5), (.lenL (.tmp 4)), none⟩, ⟨(some 6), (.bin .gtr (.tmp 5) (.const (.int .i64 300))), none⟩, ⟨(some 2), (.assign (.tmp 6)), none⟩]) .ret)), [(.move (.tmp 2))]⟩
theorem k59 : cfun Try.prog 59 = some c59 := by kernel_rfl
end Go.Proofs.Ytcaimoidnppnbaa.Ax
/- Front's messages over values without memory: which kinds are served, checks, what is the same. -/
namespace Go.Proofs.Ytcaimoidnppnbaa.Ax
open Go.RowKit Go By Nm Sc Dg
set_option linter.unusedSimpArgs false
set_option linter.unusedVariables false
set_option maxRecDepth 10000

/-! ### Which kinds are served -/
def knownI (k : Int) : Int :=
  if k = 66 ∨ k = 67 ∨ k = 68 ∨ k = 69 ∨ k = 72 ∨ k = 80 ∨ k = 81 ∨ k = 83 ∨ k = 88 then 1 else if k = 70 ∨ k = 99 ∨ k = 100 ∨ k = 102 ∨ k = 112 then 2 else 0
theorem known_c (k : Int) (h : List (List AV)) : Contract Try.prog 29 [.v (.int .u8 k)] h (.v (.int .i64 (knownI k))) h [] := by
  refine contract_of k29 mixed (by simp [c29]) fun hh hargs => ?_
  by_cases h66 : k = 66
  · subst h66; simp [c29, hh, knownI]
  by_cases h67 : k = 67
  · subst h67; simp [c29, hh, knownI]
  by_cases h68 : k = 68
  · subst h68; simp [c29, hh, knownI]
  by_cases h69 : k = 69
  · subst h69; simp [c29, hh, knownI]
  by_cases h72 : k = 72
  · subst h72; simp [c29, hh, knownI]
  by_cases h80 : k = 80
  · subst h80; simp [c29, hh, knownI]
  by_cases h81 : k = 81
  · subst h81; simp [c29, hh, knownI]
  by_cases h83 : k = 83
  · subst h83; simp [c29, hh, knownI]
  by_cases h88 : k = 88
  · subst h88; simp [c29, hh, knownI]
  by_cases h70 : k = 70
  · subst h70; simp [c29, hh, knownI]
  by_cases h99 : k = 99
  · subst h99; simp [c29, hh, knownI]
  by_cases h100 : k = 100
  · subst h100; simp [c29, hh, knownI]
  by_cases h102 : k = 102
  · subst h102; simp [c29, hh, knownI]
  by_cases h112 : k = 112
  · subst h112; simp [c29, hh, knownI]
  simp [c29, hh, knownI, h66, h67, h68, h69, h72, h80, h81, h83, h88, h70, h99, h100, h102, h112]
theorem rknown_c (k : Int) (h : List (List AV)) : Contract Try.prog 30 [.v (.int .u8 k)] h (.v (.int .i64 (knownI k))) h [] := by
  refine contract_of k30 mixed (by simp [c30]) fun hh hargs => ?_
  by_cases h66 : k = 66
  · subst h66; simp [c30, hh, knownI]
  by_cases h67 : k = 67
  · subst h67; simp [c30, hh, knownI]
  by_cases h68 : k = 68
  · subst h68; simp [c30, hh, knownI]
  by_cases h69 : k = 69
  · subst h69; simp [c30, hh, knownI]
  by_cases h72 : k = 72
  · subst h72; simp [c30, hh, knownI]
  by_cases h80 : k = 80
  · subst h80; simp [c30, hh, knownI]
  by_cases h81 : k = 81
  · subst h81; simp [c30, hh, knownI]
  by_cases h83 : k = 83
  · subst h83; simp [c30, hh, knownI]
  by_cases h88 : k = 88
  · subst h88; simp [c30, hh, knownI]
  by_cases h70 : k = 70
  · subst h70; simp [c30, hh, knownI]
  by_cases h99 : k = 99
  · subst h99; simp [c30, hh, knownI]
  by_cases h100 : k = 100
  · subst h100; simp [c30, hh, knownI]
  by_cases h102 : k = 102
  · subst h102; simp [c30, hh, knownI]
  by_cases h112 : k = 112
  · subst h112; simp [c30, hh, knownI]
  simp [c30, hh, knownI, h66, h67, h68, h69, h72, h80, h81, h83, h88, h70, h99, h100, h102, h112]

/-! ### A message -/
/-- Its lists, and what they hold, are no longer than memory is. -/
def FmFit (m : Fm) : Prop := m.oids.length ≤ 140737488355328 ∧ m.formats.length ≤ 140737488355328 ∧ m.results.length ≤ 140737488355328 ∧ m.params.length ≤ 140737488355328 ∧ (∀ c ∈ m.params, c.2.length ≤ 140737488355328) ∧ m.name.length ≤ 140737488355328 ∧ m.portal.length ≤ 140737488355328 ∧ m.text.length ≤ 140737488355328

def sameF (a b : Fm) : Bool := a.kind == b.kind && a.what == b.what && (a.name == b.name && a.portal == b.portal && a.text == b.text) && a.max == b.max && a.oids == b.oids && a.formats == b.formats && a.results == b.results && a.params == b.params
theorem sameF_eq (a b : Fm) : sameF a b = decide (a = b) := by
  obtain ⟨a1, a2, a3, a4, a5, a6, a7, a8, a9, a10⟩ := a
  obtain ⟨b1, b2, b3, b4, b5, b6, b7, b8, b9, b10⟩ := b
  rw [Bool.eq_iff_iff]
  simp [sameF]
  constructor
  · rintro ⟨⟨⟨⟨⟨⟨⟨h1, h2⟩, h3, h4, h5⟩, h6⟩, h7⟩, h8⟩, h9⟩, h10⟩; simp_all
  · rintro ⟨h1, h2, h3, h4, h5, h6, h7, h8, h9, h10⟩; simp_all
theorem fkinds_c (m : Fm) (h : List (List AV)) : Contract Try.prog 73 [.agg (fmC m)] h (.agg [.v (.int .u8 m.kind), .v (.int .u8 m.what)]) h [] := by
  refine contract_of k73 mixed (by simp [c73]) fun hh hargs => ?_
  simp [c73, fmC_mk, hh]
theorem ftexts_c (m : Fm) (h : List (List AV)) : Contract Try.prog 74 [.agg (fmC m)] h (.agg [.v (.string (strB m.name)), .v (.string (strB m.portal)), .v (.string (strB m.text))]) h [] := by
  refine contract_of k74 mixed (by simp [c74]) fun hh hargs => ?_
  simp [c74, fmC_mk, hh]
theorem sliceseq_c (l m : List Int) (hl : l.length ≤ 140737488355328) (h : List (List AV)) : Contract Try.prog 75 [.sl 1 (enc intC l) none .no, .sl 1 (enc intC m) none .no] h (.v (.bool (l == m))) h [] := by
  have := equal1_any mixed k75 l m h hl
  rwa [eqL_beq] at this
theorem fsame_c (a b : Fm) (ha : FmFit a) (h : List (List AV)) : Contract Try.prog 27 [.agg (fmC a), .agg (fmC b)] h (.v (.bool (sameF a b))) h [] := by
  obtain ⟨q1, q2, q3, q4, _⟩ := ha
  refine contract_of k27 mixed (by simp [c27]) fun hh hargs => ?_
  simp [c27]
  refine xcall_self (by simp) (fkinds_c a _) ?_
  simp
  refine xcall_self (by simp) (fkinds_c b _) ?_
  simp
  cases p1 : (a.kind == b.kind && a.what == b.what) with
  | false =>
    have e : sameF a b = false := by simp only [sameF, p1, Bool.false_and]
    simp [hh, e]
  | true =>
  simp
  refine xcall_self (by simp) (ftexts_c a _) ?_
  simp
  refine xcall_self (by simp) (ftexts_c b _) ?_
  simp
  cases p2 : (a.name == b.name && (a.portal == b.portal && a.text == b.text)) with
  | false =>
    have e : sameF a b = false := by simp only [sameF, p1, ← Bool.and_assoc] at p2 ⊢; simp only [p2, Bool.true_and, Bool.false_and]
    simp [hh, e]
  | true =>
  cases p3 : (a.max == b.max) with
  | false =>
    have e : sameF a b = false := by simp only [sameF, p1, ← Bool.and_assoc] at p2 ⊢; simp only [p2, p3, Bool.true_and, Bool.false_and]
    simp [hh, e, fmC_mk, p3]
  | true =>
  simp [fmC_mk, p3]
  refine xcall_self (by simp) (sliceseq_c _ _ q1 _) ?_
  have hp : sameF a b = (a.oids == b.oids && a.formats == b.formats && a.results == b.results && a.params == b.params) := by simp only [sameF, p1, ← Bool.and_assoc] at p2 ⊢; simp only [p2, p3, Bool.true_and]
  rw [hp]
  cases p4 : (a.oids == b.oids) with
  | false => simp [hh]
  | true =>
  simp
  refine xcall_self (by simp) (sliceseq_c _ _ q2 _) ?_
  cases p5 : (a.formats == b.formats) with
  | false => simp [hh]
  | true =>
  simp
  refine xcall_self (by simp) (sliceseq_c _ _ q3 _) ?_
  cases p6 : (a.results == b.results) with
  | false => simp [hh]
  | true =>
  simp
  refine xcall_self (by simp) (wsame_c _ _ q4 _) ?_
  simp [hh]
/-! ### Checks -/
def whatB (m : Fm) : Bool := (!(m.kind == 67) && !(m.kind == 68)) || m.what == 83 || m.what == 80
theorem frightwhat_c (m : Fm) (h : List (List AV)) : Contract Try.prog 64 [.agg (fmC m)] h (.v (.bool (whatB m))) h [] := by
  refine contract_of k64 mixed (by simp [c64]) fun hh hargs => ?_
  unfold whatB
  cases h1 : m.kind == 67 with
  | false =>
    have e1 : (m.kind != 67) = true := by simp [bne, h1]
    cases h2 : m.kind == 68 with
    | false =>
      have e2 : (m.kind != 68) = true := by simp [bne, h2]
      simp [c64, fmC_mk, hh, e1, e2]
    | true =>
      have e2 : (m.kind != 68) = false := by simp [bne, h2]
      cases h3 : m.what == 83 <;> simp [c64, fmC_mk, hh, e1, e2, h3]
  | true =>
    have e1 : (m.kind != 67) = false := by simp [bne, h1]
    cases h3 : m.what == 83 <;> simp [c64, fmC_mk, hh, e1, h3]
def listsB (m : Fm) : Bool := (decide (m.oids.length ≤ 65535) && (decide (m.formats.length ≤ 65535) && (decide (m.results.length ≤ 65535) && decide (m.params.length ≤ 65535)))) && (m.oids.all (unsB 4) && (m.formats.all (unsB 2) && (m.results.all (unsB 2) && m.params.all cellB)))
theorem frightlists_c (m : Fm) (hf : FmFit m) (h : List (List AV)) : Contract Try.prog 65 [.agg (fmC m)] h (.v (.bool (listsB m))) h [] := by
  obtain ⟨q1, q2, q3, q4, q5, _⟩ := hf
  refine contract_of k65 mixed (by simp [c65]) fun hh hargs => ?_
  have e : listsB m = (decide ((m.oids.length : Int) ≤ 65535 ∧ (m.formats.length : Int) ≤ 65535 ∧ (m.results.length : Int) ≤ 65535 ∧ (m.params.length : Int) ≤ 65535) && (m.oids.all (unsB 4) && (m.formats.all (unsB 2) && (m.results.all (unsB 2) && m.params.all cellB)))) := by
    unfold listsB
    congr 1
    rw [Bool.eq_iff_iff]
    simp
    omega
  rw [e]
  by_cases hL : (m.oids.length : Int) ≤ 65535 ∧ (m.formats.length : Int) ≤ 65535 ∧ (m.results.length : Int) ≤ 65535 ∧ (m.params.length : Int) ≤ 65535
  · obtain ⟨l1, l2, l3, l4⟩ := hL
    simp [c65, fmC_mk, l1, l2, l3, l4]
    refine xcall_self (by simp) (wuns_c 4 _ q1 _) ?_
    cases p1 : m.oids.all (unsB 4) with
    | false => simp [hh]
    | true =>
    simp
    refine xcall_self (by simp) (wuns_c 2 _ q2 _) ?_
    cases p2 : m.formats.all (unsB 2) with
    | false => simp [hh]
    | true =>
    simp
    refine xcall_self (by simp) (wuns_c 2 _ q3 _) ?_
    cases p3 : m.results.all (unsB 2) with
    | false => simp [hh]
    | true =>
    simp
    refine xcall_self (by simp) (wcells_c _ q4 q5 _) ?_
    simp [hh]
  · simp [c65, fmC_mk, hL, hh]
/-- With those fields alone that the body has. -/
def saidF (m : Fm) : Fm :=
  if m.kind = 80 then ⟨80, 0, m.name, [], m.text, m.oids, [], [], [], 0⟩
  else if m.kind = 66 then ⟨66, 0, m.name, m.portal, [], [], m.formats, m.results, m.params, 0⟩
  else if m.kind = 67 ∨ m.kind = 68 then (if m.what = 83 then ⟨m.kind, m.what, m.name, [], [], [], [], [], [], 0⟩ else ⟨m.kind, m.what, [], m.portal, [], [], [], [], [], 0⟩)
  else if m.kind = 69 then ⟨69, 0, [], m.portal, [], [], [], [], [], m.max⟩
  else if m.kind = 81 then ⟨81, 0, [], [], m.text, [], [], [], [], 0⟩
  else ⟨m.kind, 0, [], [], [], [], [], [], [], 0⟩
theorem fsaid_c (m : Fm) (h : List (List AV)) : Contract Try.prog 68 [.agg (fmC m)] h (.agg (fmC (saidF m))) h [] := by
  refine contract_of k68 mixed (by simp [c68]) fun hh hargs => ?_
  by_cases h80 : m.kind = 80
  · simp [c68, fmC_mk, hh, saidF, h80]
  by_cases h66 : m.kind = 66
  · simp [c68, fmC_mk, hh, saidF, h66]
  by_cases h67 : m.kind = 67
  · by_cases hw : m.what = 83 <;> simp [c68, fmC_mk, hh, saidF, h67, hw]
  by_cases h68 : m.kind = 68
  · by_cases hw : m.what = 83 <;> simp [c68, fmC_mk, hh, saidF, h68, hw]
  by_cases h69 : m.kind = 69
  · simp [c68, fmC_mk, hh, saidF, h69]
  by_cases h81 : m.kind = 81
  · simp [c68, fmC_mk, hh, saidF, h81]
  simp [c68, fmC_mk, hh, saidF, h80, h66, h67, h68, h69, h81]
/-- What is wrong with a message. -/
def cleanF (m : Fm) : Bool := cleanB m.name && (cleanB m.portal && cleanB m.text)
def checkF (m : Fm) : Int :=
  if ¬ knownI m.kind = 1 then 9
  else if whatB m && (listsB m && (cleanF m && (sgnB 4 m.max && sameF m (saidF m)))) then 0 else 1
theorem fmfit_said {m : Fm} (h : FmFit m) : FmFit (saidF m) := by
  obtain ⟨h1, h2, h3, h4, h5, h6, h7, h8⟩ := h
  unfold saidF FmFit
  repeat' split
  all_goals simp [h1, h2, h3, h4, h6, h7, h8]
  all_goals exact ⟨fun b hc => h5 (_, b) hc, fun b hc => h5 (_, b) hc⟩
theorem fcheck_c (m : Fm) (hf : FmFit m) (h : List (List AV)) : Contract Try.prog 25 [.agg (fmC m)] h (.v (.int .i64 (checkF m))) h [] := by
  refine contract_of k25 mixed (by simp [c25]) fun hh hargs => ?_
  have hf' := fmfit_said hf
  simp [c25]
  refine xcall_self (by simp) (known_c _ _) ?_
  by_cases hk : knownI m.kind = 1
  · simp [hk]
    refine xcall_self (by simp) (frightwhat_c m _) ?_
    have e : checkF m = if whatB m && (listsB m && (cleanF m && (sgnB 4 m.max && sameF m (saidF m)))) then 0 else 1 := by unfold checkF; rw [if_neg (by simp [hk])]
    rw [e]
    cases p1 : whatB m with
    | false => simp [hh]
    | true =>
    simp
    refine xcall_self (by simp) (frightlists_c m hf _) ?_
    cases p2 : listsB m with
    | false => simp [hh]
    | true =>
    simp
    refine xcall_of (wclean_c [m.name, m.portal, m.text] (by simp) _) (by simp [strC]) (by simp) ?_
    have hc : (cleanB m.name && (cleanB m.portal && cleanB m.text)) = cleanF m := rfl
    simp only [List.all_cons, List.all_nil, Bool.and_true, hc]
    cases p3 : cleanF m with
    | false => simp [hh]
    | true =>
    simp
    refine xcall_of (wsgn_c 4 [m.max] (by simp) _) (by simp [intC]) (by simp) ?_
    cases p4 : sgnB 4 m.max with
    | false => simp [hh, p4]
    | true =>
    simp [p4]
    refine xcall_self (by simp) (fsaid_c m _) ?_
    simp
    refine xcall_self (by simp) (fsame_c m (saidF m) hf _) ?_
    cases p5 : sameF m (saidF m) <;> simp [hh]
  · simp [hk, hh, checkF]
end Go.Proofs.Ytcaimoidnppnbaa.Ax
namespace Go.Proofs.Ytcaimoidnppnbaa.Ax
open Go.RowKit Go By Nm Sc Dg
set_option linter.unusedSimpArgs false
set_option linter.unusedVariables false
set_option maxRecDepth 10000

theorem rints_c (xs ys : List Int) (hl : xs.length ≤ 140737488355328) (h : List (List AV)) : Contract Try.prog 77 [.sl 1 (enc intC xs) none .no, .sl 1 (enc intC ys) none .no] h (.v (.bool (xs == ys))) h [] := by
  refine contract_of k77 mixed (by simp [c77]) fun hh hargs => ?_
  rw [← eqL_beq]
  by_cases hlen : xs.length = ys.length
  · simp [c77, hlen]
    refine xloop_ok (D := Nat) (fun j => ⟨[(0, .sl 1 (enc intC xs) none .no), (1, .sl 1 (enc intC ys) none .no), (5, .v (.int .i64 j))], [], h, []⟩) (fun j => j ≤ xs.length ∧ ∀ i (h1 : i < xs.length) (h2 : i < ys.length), i < j → ((· == ·) : Int → Int → Bool) xs[i] ys[i] = true) (fun j => xs.length - j) 0 ⟨by omega, fun i h1 h2 h3 => by omega⟩ ?_ ?_
    · simp [Leq, hh]
    · rintro j ⟨hj, hp⟩
      by_cases hlt : j < ys.length
      · have hlt' : j < xs.length := by omega
        have hw : IntKind.i64.wrap ((j : Int) + 1) = (j : Int) + 1 := wrap64 (by omega) (by omega)
        simp [hlt, hlt', intC]
        refine xwp_cond_of (xs[j] != ys[j]) (by simp) (fun ht => ?_) (fun hf' => ?_)
        · simp at ht
          have : eqL (· == ·) xs ys = false := eqL_no (i := j) hlt' hlt (by simpa using ht)
          simp [hh, this]
        · simp at hf'
          simp [hw]
          refine ⟨j + 1, ⟨by omega, fun i h1 h2 h3 => ?_⟩, by omega, ?_⟩
          · rcases Nat.lt_or_ge i j with h4 | h4
            · simpa using hp i h1 h2 h4
            · have : i = j := by omega
              subst this; simpa using hf'
          · simp [Leq, hh]
      · have hx : eqL (· == ·) xs ys = true := (eqL_iff _ xs ys).2 ⟨hlen, fun i h1 h2 => hp i h1 h2 (by omega)⟩
        have hlt' : ¬ j < xs.length := by omega
        simp [hh, hx, hlt, hlt']
  · have hne : (xs.length : Int) ≠ ys.length := by omega
    have hx : eqL (· == ·) xs ys = false := eqL_len hlen
    simp [c77, hne, hh, hx]
theorem rcells_c (xs ys : List Cl) (hl : xs.length ≤ 140737488355328) (h : List (List AV)) : Contract Try.prog 78 [.sl 2 (enc cellC xs) none .no, .sl 2 (enc cellC ys) none .no] h (.v (.bool (xs == ys))) h [] := by
  refine contract_of k78 mixed (by simp [c78]) fun hh hargs => ?_
  rw [← eqL_beq]
  by_cases hlen : xs.length = ys.length
  · simp [c78, hlen]
    refine xloop_ok (D := Nat) (fun j => ⟨[(0, .sl 2 (enc cellC xs) none .no), (1, .sl 2 (enc cellC ys) none .no), (5, .v (.int .i64 j))], [], h, []⟩) (fun j => j ≤ xs.length ∧ ∀ i (h1 : i < xs.length) (h2 : i < ys.length), i < j → ((· == ·) : Cl → Cl → Bool) xs[i] ys[i] = true) (fun j => xs.length - j) 0 ⟨by omega, fun i h1 h2 h3 => by omega⟩ ?_ ?_
    · simp [Leq, hh]
    · rintro j ⟨hj, hp⟩
      by_cases hlt : j < ys.length
      · have hlt' : j < xs.length := by omega
        have hw : IntKind.i64.wrap ((j : Int) + 1) = (j : Int) + 1 := wrap64 (by omega) (by omega)
        obtain ⟨n, b, hx⟩ : ∃ n b, xs[j] = (n, b) := ⟨_, _, rfl⟩
        obtain ⟨m, d, hy⟩ : ∃ m d, ys[j] = (m, d) := ⟨_, _, rfl⟩
        have next : xs[j] = ys[j] → ∀ i (h1 : i < xs.length) (h2 : i < ys.length), i < j + 1 → ((· == ·) : Cl → Cl → Bool) xs[i] ys[i] = true := fun he i h1 h2 h3 => by
          rcases Nat.lt_or_ge i j with h4 | h4
          · exact hp i h1 h2 h4
          · have : i = j := by omega
            subst this; simp [he]
        have no : xs[j] ≠ ys[j] → eqL (· == ·) xs ys = false := fun he => eqL_no (i := j) hlt' hlt (by simpa using he)
        rw [hx, hy] at next no
        cases hnm : n == m with
        | false =>
          have e := no (by rintro he; injection he with h1 h2; simp [h1] at hnm)
          simp [hlt, hlt', hx, hy, cellC_mk, hnm, hh, e]
        | true =>
          have hnm' : n = m := by simpa using hnm
          cases hbd : b == d with
          | false =>
            have e := no (by rintro he; injection he with h1 h2; simp [h2] at hbd)
            simp [hlt, hlt', hx, hy, cellC_mk, hnm, hbd, hh, e]
          | true =>
            have hbd' : b = d := by simpa using hbd
            have e := next (by rw [hnm', hbd'])
            simp [hlt, hlt', hx, hy, cellC_mk, hnm, hbd, hw]
            refine ⟨j + 1, ⟨by omega, fun i h1 h2 h3 => by simpa using e i h1 h2 h3⟩, by omega, ?_⟩
            simp [Leq, hh]
      · have hx : eqL (· == ·) xs ys = true := (eqL_iff _ xs ys).2 ⟨hlen, fun i h1 h2 => hp i h1 h2 (by omega)⟩
        have hlt' : ¬ j < xs.length := by omega
        simp [hh, hx, hlt, hlt']
  · have hne : (xs.length : Int) ≠ ys.length := by omega
    have hx : eqL (· == ·) xs ys = false := eqL_len hlen
    simp [c78, hne, hh, hx]
def betB (lo hi z : Int) : Bool := !decide (z < lo) && !decide (hi < z)
theorem take_all {α : Type} {p : α → Bool} {xs : List α} {j : Nat} (hj : j < xs.length) (h1 : ∀ x ∈ xs.take j, p x = true) (h2 : p xs[j] = true) : ∀ x ∈ xs.take (j + 1), p x = true := by
  rw [take_next hj]
  intro x hx
  rcases List.mem_append.1 hx with h | h
  · exact h1 x h
  · simp at h; subst h; exact h2
theorem all_no {α : Type} {p : α → Bool} {xs : List α} {j : Nat} (hj : j < xs.length) (h2 : p xs[j] = false) : xs.all p = false := by
  rw [List.all_eq_false]; exact ⟨_, List.getElem_mem hj, by simp [h2]⟩
theorem rbetween_c (l : List Int) (lo hi : Int) (h : List (List AV)) : Contract Try.prog 70 [.sl 1 (enc intC l) none .no, .v (.int .i64 lo), .v (.int .i64 hi)] h (.v (.bool (decide (l.length ≤ 65535) && l.all (betB lo hi)))) h [] := by
  refine contract_of k70 mixed (by simp [c70]) fun hh hargs => ?_
  by_cases hl : (65535 : Int) < l.length
  · have hl' : ¬ l.length ≤ 65535 := by omega
    simp [c70, hl, hl', hh]
  · have hl' : l.length ≤ 65535 := by omega
    simp [c70, hl, hl']
    refine xloop_ok (D := Nat) (fun j => ⟨[(0, .sl 1 (enc intC l) none .no), (1, .v (.int .i64 lo)), (2, .v (.int .i64 hi)), (7, .v (.int .i64 j))], [], h, []⟩) (fun j => j ≤ l.length ∧ ∀ x ∈ l.take j, betB lo hi x = true) (fun j => l.length - j) 0 (by simp) ?_ ?_
    · simp [Leq, hh]
    · rintro j ⟨hj, hp⟩
      by_cases hlt : j < l.length
      · have hw : IntKind.i64.wrap ((j : Int) + 1) = (j : Int) + 1 := wrap64 (by omega) (by omega)
        by_cases h1 : l[j] < lo
        · have e := all_no (p := betB lo hi) hlt (by simp [betB, h1])
          simp [hlt, intC, h1, hh, e]
        · by_cases h2 : hi < l[j]
          · have e := all_no (p := betB lo hi) hlt (by simp [betB, h2])
            simp [hlt, intC, h1, h2, hh, e]
          · simp [hlt, intC, h1, h2, hw]
            refine ⟨j + 1, ⟨by omega, take_all hlt hp (by simp [betB, h1, h2])⟩, by omega, ?_⟩
            simp [Leq, hh]
      · have : j = l.length := by omega
        subst this
        have e : l.all (betB lo hi) = true := by rw [List.take_length] at hp; exact List.all_eq_true.2 hp
        simp [hh, e]
theorem rvalues_c (l : List Cl) (h : List (List AV)) : Contract Try.prog 71 [.sl 2 (enc cellC l) none .no] h (.v (.bool (decide (l.length ≤ 65535) && l.all cellB))) h [] := by
  refine contract_of k71 mixed (by simp [c71]) fun hh hargs => ?_
  by_cases hl : (65535 : Int) < l.length
  · have hl' : ¬ l.length ≤ 65535 := by omega
    simp [c71, hl, hl', hh]
  · have hl' : l.length ≤ 65535 := by omega
    simp [c71, hl, hl']
    refine xloop_ok (D := Nat) (fun j => ⟨[(0, .sl 2 (enc cellC l) none .no), (3, .v (.int .i64 j))], [], h, []⟩) (fun j => j ≤ l.length ∧ ∀ x ∈ l.take j, cellB x = true) (fun j => l.length - j) 0 (by simp) ?_ ?_
    · simp [Leq, hh]
    · rintro j ⟨hj, hp⟩
      by_cases hlt : j < l.length
      · have hw : IntKind.i64.wrap ((j : Int) + 1) = (j : Int) + 1 := wrap64 (by omega) (by omega)
        obtain ⟨n, b, hx⟩ : ∃ n b, l[j] = (n, b) := ⟨_, _, rfl⟩
        by_cases h1 : (1048576 : Int) < b.length
        · have h3 : ¬ b.length ≤ 1048576 := by omega
          have e := all_no (p := cellB) hlt (by rw [hx]; simp [cellB, h3])
          cases n
          · simp [hlt, hx, cellC_mk, h1, hh, e]
          · have h2 : 0 < b.length := by omega
            simp [hlt, hx, cellC_mk, h1, h2, hh, e]
        · have h1' : b.length ≤ 1048576 := by omega
          cases n
          · simp [hlt, hx, cellC_mk, h1, hw]
            refine ⟨j + 1, ⟨by omega, ⟨fun b => take_all hlt hp (by rw [hx]; simp [cellB, h1']) (_, b), fun b => take_all hlt hp (by rw [hx]; simp [cellB, h1']) (_, b)⟩⟩, by omega, ?_⟩
            simp [Leq, hh]
          · by_cases h2 : 0 < b.length
            · have e := all_no (p := cellB) hlt (by rw [hx]; simp [cellB, h2])
              simp [hlt, hx, cellC_mk, h1, h2, hh, e]
            · simp [hlt, hx, cellC_mk, h1, h2, hw]
              refine ⟨j + 1, ⟨by omega, ⟨fun b => take_all hlt hp (by rw [hx]; simp [cellB, h1', h2]) (_, b), fun b => take_all hlt hp (by rw [hx]; simp [cellB, h1', h2]) (_, b)⟩⟩, by omega, ?_⟩
              simp [Leq, hh]
      · have : j = l.length := by omega
        subst this
        have e : l.all cellB = true := by rw [List.take_length] at hp; exact List.all_eq_true.2 hp
        simp [hh, e]
theorem rsame_c (a b : Fm) (ha : FmFit a) (h : List (List AV)) : Contract Try.prog 28 [.agg (fmC a), .agg (fmC b)] h (.v (.bool (sameF a b))) h [] := by
  obtain ⟨q1, q2, q3, q4, _⟩ := ha
  refine contract_of k28 mixed (by simp [c28]) fun hh hargs => ?_
  have one : sameF a b = ((a.kind == b.kind && (a.what == b.what && (a.name == b.name && (a.portal == b.portal && (a.text == b.text && a.max == b.max))))) && (a.oids == b.oids && (a.formats == b.formats && (a.results == b.results && a.params == b.params)))) := by
    simp only [sameF, Bool.and_assoc]
  rw [one]
  cases p1 : a.kind == b.kind with
  | false => simp [c28, hh, p1]
  | true =>
  cases p2 : a.what == b.what with
  | false => simp [c28, hh, p1, p2]
  | true =>
  cases p3 : a.name == b.name with
  | false => simp [c28, hh, p1, p2, p3]
  | true =>
  cases p4 : a.portal == b.portal with
  | false => simp [c28, hh, p1, p2, p3, p4]
  | true =>
  cases p5 : a.text == b.text with
  | false => simp [c28, hh, p1, p2, p3, p4, p5]
  | true =>
  cases p6 : a.max == b.max with
  | false => simp [c28, hh, p1, p2, p3, p4, p5, p6]
  | true =>
  simp [c28, p1, p2, p3, p4, p5, p6]
  refine xcall_self (by simp) (rints_c _ _ q1 _) ?_
  cases p7 : a.oids == b.oids with
  | false => simp [hh]
  | true =>
  simp
  refine xcall_self (by simp) (rints_c _ _ q2 _) ?_
  cases p8 : a.formats == b.formats with
  | false => simp [hh]
  | true =>
  simp
  refine xcall_self (by simp) (rints_c _ _ q3 _) ?_
  cases p9 : a.results == b.results with
  | false => simp [hh]
  | true =>
  simp
  refine xcall_self (by simp) (rcells_c _ _ q4 _) ?_
  simp [hh]
theorem rkept_c (m : Fm) (h : List (List AV)) : Contract Try.prog 72 [.agg (fmC m)] h (.agg (fmC (saidF m))) h [] := by
  refine contract_of k72 mixed (by simp [c72]) fun hh hargs => ?_
  by_cases h80 : m.kind = 80
  · simp [c72, fmC_mk, hh, saidF, h80]
  by_cases h66 : m.kind = 66
  · simp [c72, fmC_mk, hh, saidF, h66]
  by_cases h67 : m.kind = 67
  · by_cases hw : m.what = 83 <;> simp [c72, fmC_mk, hh, saidF, h67, hw]
  by_cases h68 : m.kind = 68
  · by_cases hw : m.what = 83 <;> simp [c72, fmC_mk, hh, saidF, h68, hw]
  by_cases h69 : m.kind = 69
  · simp [c72, fmC_mk, hh, saidF, h69]
  by_cases h81 : m.kind = 81
  · simp [c72, fmC_mk, hh, saidF, h81]
  simp [c72, fmC_mk, hh, saidF, h80, h66, h67, h68, h69, h81]
/-- Whether that one speaks of something, as the document says it. -/
def rwhatB (m : Fm) : Bool := if m.kind = 67 ∨ m.kind = 68 then m.what == 83 || m.what == 80 else m.what == 0 || (m.what == 83 || m.what == 80)
def rlistsB (m : Fm) : Bool := (decide (m.oids.length ≤ 65535) && m.oids.all (betB 0 4294967295)) && ((decide (m.formats.length ≤ 65535) && m.formats.all (betB 0 65535)) && ((decide (m.results.length ≤ 65535) && m.results.all (betB 0 65535)) && (decide (m.params.length ≤ 65535) && m.params.all cellB)))
def rcheckF (m : Fm) : Int :=
  if ¬ knownI m.kind = 1 then 9
  else if cleanF m && (rlistsB m && (rwhatB m && (betB (-2147483648) 2147483647 m.max && sameF m (saidF m)))) then 0 else 1
theorem rcheck_c (m : Fm) (hf : FmFit m) (h : List (List AV)) : Contract Try.prog 26 [.agg (fmC m)] h (.v (.int .i64 (rcheckF m))) h [] := by
  refine contract_cut (XCode.cuts [false, false, true, true, true, true] c26.code) k26 rfl mixed (by simp [c26]) fun hh hargs => ?_
  have hf' := fmfit_said hf
  have hf0 := hf
  obtain ⟨q1, q2, q3, q4, q5, q6, q7, q8⟩ := hf
  simp [c26]
  refine xcall_self (by simp) (rknown_c _ _) ?_
  by_cases hk : knownI m.kind = 1
  · simp [hk]
    refine xseq_cut ⟨[(1, .box h.length 0), (2, .v (.int .i64 0)), (3, .v (.bool (cleanF m)))], [], h ++ [fmC m], []⟩ ?_ ?_
    · simp
      refine xcall_self (by simp) (rclean_c _ (by unfold maxLen; omega) _) ?_
      cases p1 : cleanB m.name with
      | false => simp [Leq, hh, cleanF, p1]
      | true =>
      simp
      refine xcall_self (by simp) (rclean_c _ (by unfold maxLen; omega) _) ?_
      cases p2 : cleanB m.portal with
      | false => simp [Leq, hh, cleanF, p1, p2]
      | true =>
      simp
      refine xcall_self (by simp) (rclean_c _ (by unfold maxLen; omega) _) ?_
      simp [Leq, hh, cleanF, p1, p2]
    refine xseq_cut ⟨[(1, .box h.length 0), (2, .v (.int .i64 0)), (3, .v (.bool (cleanF m))), (4, .v (.bool (rlistsB m)))], [], h ++ [fmC m], []⟩ ?_ ?_
    · unfold rlistsB
      simp
      refine xcall_self (by simp) (rbetween_c _ _ _ _) ?_
      cases p1 : (decide (m.oids.length ≤ 65535) && m.oids.all (betB 0 4294967295)) with
      | false => simp [Leq, hh]
      | true =>
      simp
      refine xcall_self (by simp) (rbetween_c _ _ _ _) ?_
      cases p2 : (decide (m.formats.length ≤ 65535) && m.formats.all (betB 0 65535)) with
      | false => simp [Leq, hh]
      | true =>
      simp
      refine xcall_self (by simp) (rbetween_c _ _ _ _) ?_
      cases p3 : (decide (m.results.length ≤ 65535) && m.results.all (betB 0 65535)) with
      | false => simp [Leq, hh]
      | true =>
      simp
      refine xcall_self (by simp) (rvalues_c _ _) ?_
      simp [Leq, hh]
    refine xseq_cut ⟨[(1, .box h.length 0), (2, .v (.int .i64 0)), (3, .v (.bool (cleanF m))), (4, .v (.bool (rlistsB m))), (5, .v (.bool (m.what == 0 || (m.what == 83 || m.what == 80))))], [], h ++ [fmC m], []⟩ ?_ ?_
    · cases p0 : m.what == 0 with
      | true => simp [Leq, hh, p0]
      | false =>
      cases p1 : m.what == 83 <;> simp [Leq, hh, p0, p1]
    refine xseq_cut ⟨[(1, .box h.length 0), (2, .v (.int .i64 0)), (3, .v (.bool (cleanF m))), (4, .v (.bool (rlistsB m))), (5, .v (.bool (rwhatB m)))], [], h ++ [fmC m], []⟩ ?_ ?_
    · by_cases p67 : m.kind = 67
      · have e : rwhatB m = (m.what == 83 || m.what == 80) := by simp [rwhatB, p67]
        cases p1 : m.what == 83 <;> simp [Leq, hh, p67, p1, e]
      · by_cases p68 : m.kind = 68
        · have e : rwhatB m = (m.what == 83 || m.what == 80) := by simp [rwhatB, p68]
          cases p1 : m.what == 83 <;> simp [Leq, hh, p68, p1, e]
        · have e : rwhatB m = (m.what == 0 || (m.what == 83 || m.what == 80)) := by simp [rwhatB, p67, p68]
          simp [Leq, hh, p67, p68, e]
    have e : rcheckF m = if cleanF m && (rlistsB m && (rwhatB m && (betB (-2147483648) 2147483647 m.max && sameF m (saidF m)))) then 0 else 1 := by unfold rcheckF; rw [if_neg (by simp [hk])]
    rw [e]
    cases p1 : cleanF m with
    | false => simp [hh]
    | true =>
    cases p2 : rlistsB m with
    | false => simp [hh]
    | true =>
    cases p3 : rwhatB m with
    | false => simp [hh]
    | true =>
    by_cases p4 : m.max < -2147483648
    · simp [hh, p4, betB]
    by_cases p5 : 2147483647 < m.max
    · simp [hh, p4, p5, betB]
    simp [p4, p5, betB]
    refine xcall_self (by simp) (rkept_c m _) ?_
    simp
    refine xcall_self (by simp) (rsame_c m (saidF m) hf0 _) ?_
    cases p5 : sameF m (saidF m) <;> simp [hh]
  · simp [hk, hh, rcheckF]
end Go.Proofs.Ytcaimoidnppnbaa.Ax
