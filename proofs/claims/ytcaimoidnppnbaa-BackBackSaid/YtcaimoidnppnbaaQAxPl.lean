/- Numbers, texts and lists there and back, on lists of bytes. -/
import Derived.Test.YtcaimoidnppnbaaQAxX
import Derived.Test.YtcaimoidnppnbaaRows
import Derived.Test.YtcaimoidnppnbaaQAxWo
import Derived.Test.YtcaimoidnppnbaaQAxSc
/- The texts of functions over values without memory, as the kernel reckons them out of the program. -/
namespace Go.Proofs.Ytcaimoidnppnbaa.Ax
open Go.RowKit Go By

def c24 : XFun := ⟨71, (.seq (.ops [⟨(some 1), (.box (.tmp 0)), none⟩, ⟨(some 2), (.alloc [(.v (.int .u8 0)), (.sl 0 [] (some true) .exact)]), none⟩, ⟨(some 3), (.assign (.const (.int .i64 0))), none⟩]) (.seq (.seq (.ops [⟨(some 6), (.loadN 10 (.tmp 1)), none⟩, ⟨(some 7), (.call 26 [(.tmp 6)]), none⟩, ⟨(some 4), (.assign (.tmp 7)), none⟩]) (.seq (.ops [⟨(some 8), (.move (.tmp 4)), none⟩, ⟨(some 9), (.bin .neq (.tmp 8) (.const (.int .i64 0))), none⟩]) (.cond (.tmp 9) (.seq (.ops [⟨(some 10), (.build [(.v (.int .u8 0)), (.sl 0 [] (some true) .exact)] []), none⟩, ⟨(some 11), (.move (.tmp 4)), none⟩, ⟨none, (.store 2 (.tmp 2) (.tmp 10)), none⟩, ⟨(some 3), (.assign (.tmp 11)), none⟩]) .ret) .skip))) (.seq (.ops [⟨(some 5), (.assign (.const (.slice none 0 0))), none⟩]) (.seq (.seq (.ops [⟨(some 12), (.faddr 0 (.tmp 1)), none⟩, ⟨(some 13), (.load1 (.tmp 12)), none⟩]) (.block 0 (.seq (.ops [⟨(some 15), (.bin .eql (.tmp 13) (.const (.int .u8 80))), none⟩, ⟨(some 14), (.assign (.tmp 15)), none⟩]) (.cond (.tmp 14) (.draws (.take ⟨(some 16), (.faddr 2 (.tmp 1)), none⟩ (.take ⟨(some 17), (.load1 (.tmp 16)), none⟩ (.take ⟨(some 19), (.faddr 4 (.tmp 1)), none⟩ (.take ⟨(some 20), (.load1 (.tmp 19)), none⟩ (.take ⟨(some 22), (.faddr 5 (.tmp 1)), none⟩ (.take ⟨(some 23), (.load1 (.tmp 22)), none⟩ (.only ⟨(some 18), (.call 62 [(.const (.slice none 0 0)), (.tmp 17)]), none⟩ (.only ⟨(some 21), (.call 62 [(.tmp 18), (.tmp 20)]), none⟩ (.only ⟨(some 24), (.call 61 [(.tmp 21), (.tmp 23), (.const (.int .i64 4))]), none⟩ (.take ⟨(some 5), (.assign (.tmp 24)), none⟩ .done))))))))))) (.seq (.ops [⟨(some 26), (.bin .eql (.tmp 13) (.const (.int .u8 66))), none⟩, ⟨(some 25), (.assign (.tmp 26)), none⟩]) (.cond (.tmp 25) (.draws (.take ⟨(some 27), (.faddr 3 (.tmp 1)), none⟩ (.take ⟨(some 28), (.load1 (.tmp 27)), none⟩ (.take ⟨(some 30), (.faddr 2 (.tmp 1)), none⟩ (.take ⟨(some 31), (.load1 (.tmp 30)), none⟩ (.take ⟨(some 33), (.faddr 6 (.tmp 1)), none⟩ (.take ⟨(some 34), (.load1 (.tmp 33)), none⟩ (.take ⟨(some 36), (.faddr 8 (.tmp 1)), none⟩ (.take ⟨(some 37), (.load1 (.tmp 36)), none⟩ (.take ⟨(some 39), (.faddr 7 (.tmp 1)), none⟩ (.take ⟨(some 40), (.load1 (.tmp 39)), none⟩ (.only ⟨(some 29), (.call 62 [(.const (.slice none 0 0)), (.tmp 28)]), none⟩ (.only ⟨(some 32), (.call 62 [(.tmp 29), (.tmp 31)]), none⟩ (.only ⟨(some 35), (.call 61 [(.tmp 32), (.tmp 34), (.const (.int .i64 2))]), none⟩ (.only ⟨(some 38), (.call 63 [(.tmp 35), (.tmp 37)]), none⟩ (.only ⟨(some 41), (.call 61 [(.tmp 38), (.tmp 40), (.const (.int .i64 2))]), none⟩ (.take ⟨(some 5), (.assign (.tmp 41)), none⟩ .done))))))))))))))))) (.seq (.seq (.ops [⟨(some 43), (.bin .eql (.tmp 13) (.const (.int .u8 67))), none⟩, ⟨(some 42), (.assign (.tmp 43)), none⟩]) (.cond (.tmp 42) .skip (.ops [⟨(some 44), (.bin .eql (.tmp 13) (.const (.int .u8 68))), none⟩, ⟨(some 42), (.assign (.tmp 44)), none⟩]))) (.cond (.tmp 42) (.ops [⟨(some 45), (.faddr 1 (.tmp 1)), none⟩, ⟨(some 46), (.load1 (.tmp 45)), none⟩, ⟨(some 47), (.buildSlice 1 1 [(.v (.int .u8 0))] [(0, (.tmp 46))]), none⟩, ⟨(some 48), (.faddr 2 (.tmp 1)), none⟩, ⟨(some 49), (.load1 (.tmp 48)), none⟩, ⟨(some 50), (.faddr 3 (.tmp 1)), none⟩, ⟨(some 51), (.load1 (.tmp 50)), none⟩, ⟨(some 52), (.bin .add (.tmp 49) (.tmp 51)), none⟩, ⟨(some 53), (.call 62 [(.tmp 47), (.tmp 52)]), none⟩, ⟨(some 5), (.assign (.tmp 53)), none⟩]) (.seq (.ops [⟨(some 55), (.bin .eql (.tmp 13) (.const (.int .u8 69))), none⟩, ⟨(some 54), (.assign (.tmp 55)), none⟩]) (.cond (.tmp 54) (.draws (.take ⟨(some 56), (.faddr 3 (.tmp 1)), none⟩ (.take ⟨(some 57), (.load1 (.tmp 56)), none⟩ (.take ⟨(some 59), (.faddr 9 (.tmp 1)), none⟩ (.take ⟨(some 60), (.load1 (.tmp 59)), none⟩ (.only ⟨(some 58), (.call 62 [(.const (.slice none 0 0)), (.tmp 57)]), none⟩ (.only ⟨(some 61), (.call 57 [(.tmp 58), (.tmp 60), (.const (.int .i64 4))]), none⟩ (.take ⟨(some 5), (.assign (.tmp 61)), none⟩ .done)))))))) (.seq (.ops [⟨(some 63), (.bin .eql (.tmp 13) (.const (.int .u8 81))), none⟩, ⟨(some 62), (.assign (.tmp 63)), none⟩]) (.cond (.tmp 62) (.ops [⟨(some 64), (.faddr 4 (.tmp 1)), none⟩, ⟨(some 65), (.load1 (.tmp 64)), none⟩, ⟨(some 66), (.call 62 [(.const (.slice none 0 0)), (.tmp 65)]), none⟩, ⟨(some 5), (.assign (.tmp 66)), none⟩]) .skip)))))))))))) (.seq (.ops [⟨(some 67), (.faddr 0 (.tmp 1)), none⟩, ⟨(some 68), (.load1 (.tmp 67)), none⟩, ⟨(some 69), (.move (.tmp 5)), none⟩, ⟨(some 70), (.build [(.v (.int .u8 0)), (.sl 0 [] (some true) .exact)] [(0, (1, (.tmp 68))), (1, (1, (.tmp 69)))]), none⟩, ⟨none, (.store 2 (.tmp 2) (.tmp 70)), none⟩, ⟨(some 3), (.assign (.const (.int .i64 0))), none⟩]) .ret))))), [(.loadN 2 (.tmp 2)), (.move (.tmp 3))]⟩
theorem k24 : cfun Try.prog 24 = some c24 := by kernel_rfl
def c26 : XFun := ⟨97, (.seq (.ops [⟨(some 1), (.box (.tmp 0)), none⟩, ⟨(some 2), (.assign (.const (.int .i64 0))), none⟩]) (.seq (.seq (.ops [⟨(some 6), (.faddr 0 (.tmp 1)), none⟩, ⟨(some 7), (.load1 (.tmp 6)), none⟩, ⟨(some 8), (.call 30 [(.tmp 7)]), none⟩, ⟨(some 9), (.bin .neq (.tmp 8) (.const (.int .i64 1))), none⟩]) (.cond (.tmp 9) (.seq (.ops [⟨(some 2), (.assign (.const (.int .i64 9))), none⟩]) .ret) .skip)) (.seq (.ops [⟨(some 10), (.faddr 2 (.tmp 1)), none⟩, ⟨(some 11), (.load1 (.tmp 10)), none⟩, ⟨(some 12), (.call 69 [(.tmp 11)]), none⟩, ⟨(some 13), (.move (.tmp 12)), none⟩, ⟨(some 14), (.faddr 3 (.tmp 1)), (some (13, true))⟩, ⟨(some 15), (.load1 (.tmp 14)), (some (13, true))⟩, ⟨(some 16), (.call 69 [(.tmp 15)]), (some (13, true))⟩, ⟨(some 17), (.pick (.tmp 13) (.tmp 16) (.const (.bool false))), none⟩, ⟨(some 18), (.move (.tmp 17)), none⟩, ⟨(some 19), (.faddr 4 (.tmp 1)), (some (18, true))⟩, ⟨(some 20), (.load1 (.tmp 19)), (some (18, true))⟩, ⟨(some 21), (.call 69 [(.tmp 20)]), (some (18, true))⟩, ⟨(some 22), (.pick (.tmp 18) (.tmp 21) (.const (.bool false))), none⟩, ⟨(some 3), (.assign (.tmp 22)), none⟩]) (.seq (.ops [⟨(some 23), (.faddr 5 (.tmp 1)), none⟩, ⟨(some 24), (.load1 (.tmp 23)), none⟩, ⟨(some 25), (.call 70 [(.tmp 24), (.const (.int .i64 0)), (.const (.int .i64 4294967295))]), none⟩, ⟨(some 26), (.move (.tmp 25)), none⟩, ⟨(some 27), (.faddr 6 (.tmp 1)), (some (26, true))⟩, ⟨(some 28), (.load1 (.tmp 27)), (some (26, true))⟩, ⟨(some 29), (.call 70 [(.tmp 28), (.const (.int .i64 0)), (.const (.int .i64 65535))]), (some (26, true))⟩, ⟨(some 30), (.pick (.tmp 26) (.tmp 29) (.const (.bool false))), none⟩, ⟨(some 31), (.move (.tmp 30)), none⟩, ⟨(some 32), (.faddr 7 (.tmp 1)), (some (31, true))⟩, ⟨(some 33), (.load1 (.tmp 32)), (some (31, true))⟩, ⟨(some 34), (.call 70 [(.tmp 33), (.const (.int .i64 0)), (.const (.int .i64 65535))]), (some (31, true))⟩, ⟨(some 35), (.pick (.tmp 31) (.tmp 34) (.const (.bool false))), none⟩, ⟨(some 36), (.move (.tmp 35)), none⟩, ⟨(some 37), (.faddr 8 (.tmp 1)), (some (36, true))⟩, ⟨(some 38), (.load1 (.tmp 37)), (some (36, true))⟩, ⟨(some 39), (.call 71 [(.tmp 38)]), (some (36, true))⟩, ⟨(some 40), (.pick (.tmp 36) (.tmp 39) (.const (.bool false))), none⟩, ⟨(some 4), (.assign (.tmp 40)), none⟩]) (.seq (.ops [⟨(some 41), (.faddr 1 (.tmp 1)), none⟩, ⟨(some 42), (.load1 (.tmp 41)), none⟩, ⟨(some 43), (.bin .eql (.tmp 42) (.const (.int .u8 0))), none⟩, ⟨(some 44), (.move (.tmp 43)), none⟩, ⟨(some 45), (.faddr 1 (.tmp 1)), (some (44, false))⟩, ⟨(some 46), (.load1 (.tmp 45)), (some (44, false))⟩, ⟨(some 47), (.bin .eql (.tmp 46) (.const (.int .u8 83))), (some (44, false))⟩, ⟨(some 48), (.pick (.tmp 44) (.const (.bool true)) (.tmp 47)), none⟩, ⟨(some 49), (.move (.tmp 48)), none⟩, ⟨(some 50), (.faddr 1 (.tmp 1)), (some (49, false))⟩, ⟨(some 51), (.load1 (.tmp 50)), (some (49, false))⟩, ⟨(some 52), (.bin .eql (.tmp 51) (.const (.int .u8 80))), (some (49, false))⟩, ⟨(some 53), (.pick (.tmp 49) (.const (.bool true)) (.tmp 52)), none⟩, ⟨(some 5), (.assign (.tmp 53)), none⟩]) (.seq (.seq (.ops [⟨(some 54), (.faddr 0 (.tmp 1)), none⟩, ⟨(some 55), (.load1 (.tmp 54)), none⟩, ⟨(some 56), (.bin .eql (.tmp 55) (.const (.int .u8 67))), none⟩, ⟨(some 57), (.move (.tmp 56)), none⟩, ⟨(some 58), (.faddr 0 (.tmp 1)), (some (57, false))⟩, ⟨(some 59), (.load1 (.tmp 58)), (some (57, false))⟩, ⟨(some 60), (.bin .eql (.tmp 59) (.const (.int .u8 68))), (some (57, false))⟩, ⟨(some 61), (.pick (.tmp 57) (.const (.bool true)) (.tmp 60)), none⟩]) (.cond (.tmp 61) (.ops [⟨(some 62), (.faddr 1 (.tmp 1)), none⟩, ⟨(some 63), (.load1 (.tmp 62)), none⟩, ⟨(some 64), (.bin .eql (.tmp 63) (.const (.int .u8 83))), none⟩, ⟨(some 65), (.move (.tmp 64)), none⟩, ⟨(some 66), (.faddr 1 (.tmp 1)), (some (65, false))⟩, ⟨(some 67), (.load1 (.tmp 66)), (some (65, false))⟩, ⟨(some 68), (.bin .eql (.tmp 67) (.const (.int .u8 80))), (some (65, false))⟩, ⟨(some 69), (.pick (.tmp 65) (.const (.bool true)) (.tmp 68)), none⟩, ⟨(some 5), (.assign (.tmp 69)), none⟩]) .skip)) (.seq (.seq (.draws (.take ⟨(some 70), (.move (.tmp 3)), none⟩ (.take ⟨(some 71), (.un .not (.tmp 70)), none⟩ (.take ⟨(some 72), (.move (.tmp 71)), none⟩ (.take ⟨(some 73), (.move (.tmp 4)), (some (72, false))⟩ (.take ⟨(some 74), (.un .not (.tmp 73)), (some (72, false))⟩ (.take ⟨(some 75), (.pick (.tmp 72) (.const (.bool true)) (.tmp 74)), none⟩ (.take ⟨(some 76), (.move (.tmp 75)), none⟩ (.take ⟨(some 77), (.move (.tmp 5)), (some (76, false))⟩ (.take ⟨(some 78), (.un .not (.tmp 77)), (some (76, false))⟩ (.take ⟨(some 79), (.pick (.tmp 76) (.const (.bool true)) (.tmp 78)), none⟩ (.take ⟨(some 80), (.move (.tmp 79)), none⟩ (.take ⟨(some 81), (.faddr 9 (.tmp 1)), (some (80, false))⟩ (.take ⟨(some 82), (.load1 (.tmp 81)), (some (80, false))⟩ (.take ⟨(some 83), (.bin .lss (.tmp 82) (.const (.int .i64 (-2147483648)))), (some (80, false))⟩ (.take ⟨(some 84), (.pick (.tmp 80) (.const (.bool true)) (.tmp 83)), none⟩ (.take ⟨(some 85), (.move (.tmp 84)), none⟩ (.take ⟨(some 86), (.faddr 9 (.tmp 1)), (some (85, false))⟩ (.take ⟨(some 87), (.load1 (.tmp 86)), (some (85, false))⟩ (.take ⟨(some 88), (.bin .gtr (.tmp 87) (.const (.int .i64 2147483647))), (some (85, false))⟩ (.take ⟨(some 89), (.pick (.tmp 85) (.const (.bool true)) (.tmp 88)), none⟩ (.take ⟨(some 90), (.move (.tmp 89)), none⟩ (.take ⟨(some 91), (.loadN 10 (.tmp 1)), (some (90, false))⟩ (.take ⟨(some 92), (.loadN 10 (.tmp 1)), (some (90, false))⟩ (.only ⟨(some 93), (.call 72 [(.tmp 92)]), (some (90, false))⟩ (.only ⟨(some 94), (.call 28 [(.tmp 91), (.tmp 93)]), (some (90, false))⟩ (.take ⟨(some 95), (.un .not (.tmp 94)), (some (90, false))⟩ (.take ⟨(some 96), (.pick (.tmp 90) (.const (.bool true)) (.tmp 95)), none⟩ .done)))))))))))))))))))))))))))) (.cond (.tmp 96) (.seq (.ops [⟨(some 2), (.assign (.const (.int .i64 1))), none⟩]) .ret) .skip)) (.seq (.ops [⟨(some 2), (.assign (.const (.int .i64 0))), none⟩]) .ret)))))))), [(.move (.tmp 2))]⟩
theorem k26 : cfun Try.prog 26 = some c26 := by kernel_rfl
def c28 : XFun := ⟨75, (.seq (.ops [⟨(some 2), (.box (.tmp 0)), none⟩, ⟨(some 3), (.box (.tmp 1)), none⟩, ⟨(some 4), (.assign (.const (.bool false))), none⟩]) (.seq (.ops [⟨(some 6), (.faddr 0 (.tmp 2)), none⟩, ⟨(some 7), (.load1 (.tmp 6)), none⟩, ⟨(some 8), (.faddr 0 (.tmp 3)), none⟩, ⟨(some 9), (.load1 (.tmp 8)), none⟩, ⟨(some 10), (.bin .eql (.tmp 7) (.tmp 9)), none⟩, ⟨(some 11), (.move (.tmp 10)), none⟩, ⟨(some 12), (.faddr 1 (.tmp 2)), (some (11, true))⟩, ⟨(some 13), (.load1 (.tmp 12)), (some (11, true))⟩, ⟨(some 14), (.faddr 1 (.tmp 3)), (some (11, true))⟩, ⟨(some 15), (.load1 (.tmp 14)), (some (11, true))⟩, ⟨(some 16), (.bin .eql (.tmp 13) (.tmp 15)), (some (11, true))⟩, ⟨(some 17), (.pick (.tmp 11) (.tmp 16) (.const (.bool false))), none⟩, ⟨(some 18), (.move (.tmp 17)), none⟩, ⟨(some 19), (.faddr 2 (.tmp 2)), (some (18, true))⟩, ⟨(some 20), (.load1 (.tmp 19)), (some (18, true))⟩, ⟨(some 21), (.faddr 2 (.tmp 3)), (some (18, true))⟩, ⟨(some 22), (.load1 (.tmp 21)), (some (18, true))⟩, ⟨(some 23), (.bin .eql (.tmp 20) (.tmp 22)), (some (18, true))⟩, ⟨(some 24), (.pick (.tmp 18) (.tmp 23) (.const (.bool false))), none⟩, ⟨(some 25), (.move (.tmp 24)), none⟩, ⟨(some 26), (.faddr 3 (.tmp 2)), (some (25, true))⟩, ⟨(some 27), (.load1 (.tmp 26)), (some (25, true))⟩, ⟨(some 28), (.faddr 3 (.tmp 3)), (some (25, true))⟩, ⟨(some 29), (.load1 (.tmp 28)), (some (25, true))⟩, ⟨(some 30), (.bin .eql (.tmp 27) (.tmp 29)), (some (25, true))⟩, ⟨(some 31), (.pick (.tmp 25) (.tmp 30) (.const (.bool false))), none⟩, ⟨(some 32), (.move (.tmp 31)), none⟩, ⟨(some 33), (.faddr 4 (.tmp 2)), (some (32, true))⟩, ⟨(some 34), (.load1 (.tmp 33)), (some (32, true))⟩, ⟨(some 35), (.faddr 4 (.tmp 3)), (some (32, true))⟩, ⟨(some 36), (.load1 (.tmp 35)), (some (32, true))⟩, ⟨(some 37), (.bin .eql (.tmp 34) (.tmp 36)), (some (32, true))⟩, ⟨(some 38), (.pick (.tmp 32) (.tmp 37) (.const (.bool false))), none⟩, ⟨(some 39), (.move (.tmp 38)), none⟩, ⟨(some 40), (.faddr 9 (.tmp 2)), (some (39, true))⟩, ⟨(some 41), (.load1 (.tmp 40)), (some (39, true))⟩, ⟨(some 42), (.faddr 9 (.tmp 3)), (some (39, true))⟩, ⟨(some 43), (.load1 (.tmp 42)), (some (39, true))⟩, ⟨(some 44), (.bin .eql (.tmp 41) (.tmp 43)), (some (39, true))⟩, ⟨(some 45), (.pick (.tmp 39) (.tmp 44) (.const (.bool false))), none⟩, ⟨(some 5), (.assign (.tmp 45)), none⟩]) (.seq (.ops [⟨(some 46), (.move (.tmp 5)), none⟩, ⟨(some 47), (.move (.tmp 46)), none⟩, ⟨(some 48), (.faddr 5 (.tmp 2)), (some (47, true))⟩, ⟨(some 49), (.load1 (.tmp 48)), (some (47, true))⟩, ⟨(some 50), (.faddr 5 (.tmp 3)), (some (47, true))⟩, ⟨(some 51), (.load1 (.tmp 50)), (some (47, true))⟩, ⟨(some 52), (.call 77 [(.tmp 49), (.tmp 51)]), (some (47, true))⟩, ⟨(some 53), (.pick (.tmp 47) (.tmp 52) (.const (.bool false))), none⟩, ⟨(some 54), (.move (.tmp 53)), none⟩, ⟨(some 55), (.faddr 6 (.tmp 2)), (some (54, true))⟩, ⟨(some 56), (.load1 (.tmp 55)), (some (54, true))⟩, ⟨(some 57), (.faddr 6 (.tmp 3)), (some (54, true))⟩, ⟨(some 58), (.load1 (.tmp 57)), (some (54, true))⟩, ⟨(some 59), (.call 77 [(.tmp 56), (.tmp 58)]), (some (54, true))⟩, ⟨(some 60), (.pick (.tmp 54) (.tmp 59) (.const (.bool false))), none⟩, ⟨(some 61), (.move (.tmp 60)), none⟩, ⟨(some 62), (.faddr 7 (.tmp 2)), (some (61, true))⟩, ⟨(some 63), (.load1 (.tmp 62)), (some (61, true))⟩, ⟨(some 64), (.faddr 7 (.tmp 3)), (some (61, true))⟩, ⟨(some 65), (.load1 (.tmp 64)), (some (61, true))⟩, ⟨(some 66), (.call 77 [(.tmp 63), (.tmp 65)]), (some (61, true))⟩, ⟨(some 67), (.pick (.tmp 61) (.tmp 66) (.const (.bool false))), none⟩, ⟨(some 68), (.move (.tmp 67)), none⟩, ⟨(some 69), (.faddr 8 (.tmp 2)), (some (68, true))⟩, ⟨(some 70), (.load1 (.tmp 69)), (some (68, true))⟩, ⟨(some 71), (.faddr 8 (.tmp 3)), (some (68, true))⟩, ⟨(some 72), (.load1 (.tmp 71)), (some (68, true))⟩, ⟨(some 73), (.call 78 [(.tmp 70), (.tmp 72)]), (some (68, true))⟩, ⟨(some 74), (.pick (.tmp 68) (.tmp 73) (.const (.bool false))), none⟩, ⟨(some 4), (.assign (.tmp 74)), none⟩]) .ret))), [(.move (.tmp 4))]⟩
theorem k28 : cfun Try.prog 28 = some c28 := by kernel_rfl
def c30 : XFun := ⟨20, (.seq (.ops [⟨(some 2), (.assign (.const (.int .i64 0))), none⟩]) (.seq (.seq (.ops [⟨(some 3), (.move (.tmp 0)), none⟩]) (.block 0 (.seq (.seq (.ops [⟨(some 5), (.bin .eql (.tmp 3) (.const (.int .u8 66))), none⟩, ⟨(some 4), (.assign (.tmp 5)), none⟩]) (.cond (.tmp 4) .skip (.seq (.ops [⟨(some 6), (.bin .eql (.tmp 3) (.const (.int .u8 67))), none⟩, ⟨(some 4), (.assign (.tmp 6)), none⟩]) (.cond (.tmp 4) .skip (.seq (.ops [⟨(some 7), (.bin .eql (.tmp 3) (.const (.int .u8 68))), none⟩, ⟨(some 4), (.assign (.tmp 7)), none⟩]) (.cond (.tmp 4) .skip (.seq (.ops [⟨(some 8), (.bin .eql (.tmp 3) (.const (.int .u8 69))), none⟩, ⟨(some 4), (.assign (.tmp 8)), none⟩]) (.cond (.tmp 4) .skip (.seq (.ops [⟨(some 9), (.bin .eql (.tmp 3) (.const (.int .u8 72))), none⟩, ⟨(some 4), (.assign (.tmp 9)), none⟩]) (.cond (.tmp 4) .skip (.seq (.ops [⟨(some 10), (.bin .eql (.tmp 3) (.const (.int .u8 80))), none⟩, ⟨(some 4), (.assign (.tmp 10)), none⟩]) (.cond (.tmp 4) .skip (.seq (.ops [⟨(some 11), (.bin .eql (.tmp 3) (.const (.int .u8 81))), none⟩, ⟨(some 4), (.assign (.tmp 11)), none⟩]) (.cond (.tmp 4) .skip (.seq (.ops [⟨(some 12), (.bin .eql (.tmp 3) (.const (.int .u8 83))), none⟩, ⟨(some 4), (.assign (.tmp 12)), none⟩]) (.cond (.tmp 4) .skip (.ops [⟨(some 13), (.bin .eql (.tmp 3) (.const (.int .u8 88))), none⟩, ⟨(some 4), (.assign (.tmp 13)), none⟩]))))))))))))))))) (.cond (.tmp 4) (.seq (.ops [⟨(some 2), (.assign (.const (.int .i64 1))), none⟩]) .ret) (.seq (.seq (.ops [⟨(some 15), (.bin .eql (.tmp 3) (.const (.int .u8 70))), none⟩, ⟨(some 14), (.assign (.tmp 15)), none⟩]) (.cond (.tmp 14) .skip (.seq (.ops [⟨(some 16), (.bin .eql (.tmp 3) (.const (.int .u8 99))), none⟩, ⟨(some 14), (.assign (.tmp 16)), none⟩]) (.cond (.tmp 14) .skip (.seq (.ops [⟨(some 17), (.bin .eql (.tmp 3) (.const (.int .u8 100))), none⟩, ⟨(some 14), (.assign (.tmp 17)), none⟩]) (.cond (.tmp 14) .skip (.seq (.ops [⟨(some 18), (.bin .eql (.tmp 3) (.const (.int .u8 102))), none⟩, ⟨(some 14), (.assign (.tmp 18)), none⟩]) (.cond (.tmp 14) .skip (.ops [⟨(some 19), (.bin .eql (.tmp 3) (.const (.int .u8 112))), none⟩, ⟨(some 14), (.assign (.tmp 19)), none⟩]))))))))) (.cond (.tmp 14) (.seq (.ops [⟨(some 2), (.assign (.const (.int .i64 2))), none⟩]) .ret) .skip)))))) (.seq (.ops [⟨(some 2), (.assign (.const (.int .i64 0))), none⟩]) .ret))), [(.move (.tmp 2))]⟩
theorem k30 : cfun Try.prog 30 = some c30 := by kernel_rfl
def c32 : XFun := ⟨32, (.seq (.ops [⟨(some 1), (.box (.tmp 0)), none⟩, ⟨(some 2), (.alloc [(.v (.int .u8 0)), (.v (.int .u8 0)), (.v (.string (strB []))), (.v (.string (strB []))), (.v (.string (strB []))), (.sl 0 [] (some true) .exact), (.sl 0 [] (some true) .exact), (.sl 0 [] (some true) .exact), (.sl 0 [] (some true) .exact), (.v (.int .i64 0))]), none⟩, ⟨(some 3), (.assign (.const (.int .i64 0))), none⟩]) (.seq (.seq (.ops [⟨(some 6), (.faddr 0 (.tmp 1)), none⟩, ⟨(some 7), (.load1 (.tmp 6)), none⟩, ⟨(some 8), (.call 30 [(.tmp 7)]), none⟩]) (.block 0 (.seq (.ops [⟨(some 10), (.bin .eql (.tmp 8) (.const (.int .i64 2))), none⟩, ⟨(some 9), (.assign (.tmp 10)), none⟩]) (.cond (.tmp 9) (.seq (.ops [⟨(some 11), (.build [(.v (.int .u8 0)), (.v (.int .u8 0)), (.v (.string (strB []))), (.v (.string (strB []))), (.v (.string (strB []))), (.sl 0 [] (some true) .exact), (.sl 0 [] (some true) .exact), (.sl 0 [] (some true) .exact), (.sl 0 [] (some true) .exact), (.v (.int .i64 0))] []), none⟩, ⟨none, (.store 10 (.tmp 2) (.tmp 11)), none⟩, ⟨(some 3), (.assign (.const (.int .i64 9))), none⟩]) .ret) (.seq (.ops [⟨(some 13), (.bin .eql (.tmp 8) (.const (.int .i64 0))), none⟩, ⟨(some 12), (.assign (.tmp 13)), none⟩]) (.cond (.tmp 12) (.seq (.ops [⟨(some 14), (.build [(.v (.int .u8 0)), (.v (.int .u8 0)), (.v (.string (strB []))), (.v (.string (strB []))), (.v (.string (strB []))), (.sl 0 [] (some true) .exact), (.sl 0 [] (some true) .exact), (.sl 0 [] (some true) .exact), (.sl 0 [] (some true) .exact), (.v (.int .i64 0))] []), none⟩, ⟨none, (.store 10 (.tmp 2) (.tmp 14)), none⟩, ⟨(some 3), (.assign (.const (.int .i64 4))), none⟩]) .ret) .skip)))))) (.seq (.ops [⟨(some 15), (.faddr 1 (.tmp 1)), none⟩, ⟨(some 16), (.load1 (.tmp 15)), none⟩, ⟨(some 17), (.call 47 [(.tmp 16)]), none⟩, ⟨(some 4), (.assign (.tmp 17)), none⟩]) (.seq (.ops [⟨(some 18), (.move (.tmp 4)), none⟩, ⟨(some 19), (.faddr 0 (.tmp 1)), none⟩, ⟨(some 20), (.load1 (.tmp 19)), none⟩, ⟨(some 21), (.call 81 [(.tmp 18), (.tmp 20)]), none⟩, ⟨(some 5), (.alloc [(.v (.int .u8 0)), (.v (.int .u8 0)), (.v (.string (strB []))), (.v (.string (strB []))), (.v (.string (strB []))), (.sl 0 [] (some true) .exact), (.sl 0 [] (some true) .exact), (.sl 0 [] (some true) .exact), (.sl 0 [] (some true) .exact), (.v (.int .i64 0))]), none⟩, ⟨none, (.store 10 (.tmp 5) (.tmp 21)), none⟩]) (.seq (.seq (.ops [⟨(some 22), (.move (.tmp 4)), none⟩, ⟨(some 23), (.call 50 [(.tmp 22)]), none⟩, ⟨(some 24), (.un .not (.tmp 23)), none⟩, ⟨(some 25), (.move (.tmp 24)), none⟩, ⟨(some 26), (.loadN 10 (.tmp 5)), (some (25, false))⟩, ⟨(some 27), (.call 26 [(.tmp 26)]), (some (25, false))⟩, ⟨(some 28), (.bin .neq (.tmp 27) (.const (.int .i64 0))), (some (25, false))⟩, ⟨(some 29), (.pick (.tmp 25) (.const (.bool true)) (.tmp 28)), none⟩]) (.cond (.tmp 29) (.seq (.ops [⟨(some 30), (.build [(.v (.int .u8 0)), (.v (.int .u8 0)), (.v (.string (strB []))), (.v (.string (strB []))), (.v (.string (strB []))), (.sl 0 [] (some true) .exact), (.sl 0 [] (some true) .exact), (.sl 0 [] (some true) .exact), (.sl 0 [] (some true) .exact), (.v (.int .i64 0))] []), none⟩, ⟨none, (.store 10 (.tmp 2) (.tmp 30)), none⟩, ⟨(some 3), (.assign (.const (.int .i64 4))), none⟩]) .ret) .skip)) (.seq (.ops [⟨(some 31), (.loadN 10 (.tmp 5)), none⟩, ⟨none, (.store 10 (.tmp 2) (.tmp 31)), none⟩, ⟨(some 3), (.assign (.const (.int .i64 0))), none⟩]) .ret)))))), [(.loadN 10 (.tmp 2)), (.move (.tmp 3))]⟩
theorem k32 : cfun Try.prog 32 = some c32 := by kernel_rfl
def c61 : XFun := ⟨26, (.seq (.ops [⟨(some 6), (.assign (.const (.slice none 0 0))), none⟩]) (.seq (.ops [⟨(some 8), (.move (.tmp 0)), none⟩, ⟨(some 9), (.move (.tmp 1)), none⟩, ⟨(some 10), (.lenL (.tmp 9)), none⟩, ⟨(some 11), (.call 57 [(.tmp 8), (.tmp 10), (.const (.int .i64 2))]), none⟩, ⟨(some 0), (.assign (.tmp 11)), none⟩]) (.seq (.seq (.ops [⟨(some 7), (.assign (.const (.int .i64 0))), none⟩]) (.block 0 (.loop (.seq (.seq (.ops [⟨(some 12), (.move (.tmp 7)), none⟩, ⟨(some 13), (.move (.tmp 1)), none⟩, ⟨(some 14), (.lenL (.tmp 13)), none⟩, ⟨(some 15), (.bin .lss (.tmp 12) (.tmp 14)), none⟩]) (.cond (.tmp 15) .skip (.exit 0))) (.seq (.block 1 (.ops [⟨(some 18), (.move (.tmp 0)), none⟩, ⟨(some 19), (.move (.tmp 1)), none⟩, ⟨(some 20), (.move (.tmp 7)), none⟩, ⟨(some 21), (.iaddr 1 (.tmp 19) (.tmp 20)), none⟩, ⟨(some 22), (.load1 (.tmp 21)), none⟩, ⟨(some 23), (.move (.tmp 2)), none⟩, ⟨(some 24), (.call 57 [(.tmp 18), (.tmp 22), (.tmp 23)]), none⟩, ⟨(some 0), (.assign (.tmp 24)), none⟩])) (.ops [⟨(some 16), (.move (.tmp 7)), none⟩, ⟨(some 17), (.bin .add (.tmp 16) (.const (.int .i64 1))), none⟩, ⟨(some 7), (.assign (.tmp 17)), none⟩])))))) (.seq (.ops [⟨(some 25), (.move (.tmp 0)), none⟩, ⟨(some 6), (.assign (.tmp 25)), none⟩]) .ret)))), [(.move (.tmp 6))]⟩
theorem k61 : cfun Try.prog 61 = some c61 := by kernel_rfl
def c62 : XFun := ⟨10, (.seq (.ops [⟨(some 4), (.assign (.const (.slice none 0 0))), none⟩]) (.seq (.ops [⟨(some 5), (.move (.tmp 0)), none⟩, ⟨(some 6), (.move (.tmp 1)), none⟩, ⟨(some 7), (.appendS (.tmp 5) (.tmp 6)), none⟩, ⟨(some 8), (.buildSlice 1 1 [(.v (.int .u8 0))] [(0, (.const (.int .u8 0)))]), none⟩, ⟨(some 9), (.append 1 1 (.tmp 7) (.tmp 8)), none⟩, ⟨(some 4), (.assign (.tmp 9)), none⟩]) .ret)), [(.move (.tmp 4))]⟩
theorem k62 : cfun Try.prog 62 = some c62 := by kernel_rfl
def c63 : XFun := ⟨38, (.seq (.ops [⟨(some 4), (.assign (.const (.slice none 0 0))), none⟩]) (.seq (.ops [⟨(some 6), (.move (.tmp 0)), none⟩, ⟨(some 7), (.move (.tmp 1)), none⟩, ⟨(some 8), (.lenL (.tmp 7)), none⟩, ⟨(some 9), (.call 57 [(.tmp 6), (.tmp 8), (.const (.int .i64 2))]), none⟩, ⟨(some 0), (.assign (.tmp 9)), none⟩]) (.seq (.seq (.ops [⟨(some 5), (.assign (.const (.int .i64 0))), none⟩]) (.block 0 (.loop (.seq (.seq (.ops [⟨(some 10), (.move (.tmp 5)), none⟩, ⟨(some 11), (.move (.tmp 1)), none⟩, ⟨(some 12), (.lenL (.tmp 11)), none⟩, ⟨(some 13), (.bin .lss (.tmp 10) (.tmp 12)), none⟩]) (.cond (.tmp 13) .skip (.exit 0))) (.seq (.block 1 (.seq (.ops [⟨(some 16), (.move (.tmp 1)), none⟩, ⟨(some 17), (.move (.tmp 5)), none⟩, ⟨(some 18), (.iaddr 2 (.tmp 16) (.tmp 17)), none⟩, ⟨(some 19), (.faddr 0 (.tmp 18)), none⟩, ⟨(some 20), (.load1 (.tmp 19)), none⟩]) (.cond (.tmp 20) (.ops [⟨(some 21), (.move (.tmp 0)), none⟩, ⟨(some 22), (.call 57 [(.tmp 21), (.const (.int .i64 (-1))), (.const (.int .i64 4))]), none⟩, ⟨(some 0), (.assign (.tmp 22)), none⟩]) (.draws (.take ⟨(some 23), (.move (.tmp 0)), none⟩ (.take ⟨(some 24), (.move (.tmp 1)), none⟩ (.take ⟨(some 25), (.move (.tmp 5)), none⟩ (.take ⟨(some 26), (.iaddr 2 (.tmp 24) (.tmp 25)), none⟩ (.take ⟨(some 27), (.faddr 1 (.tmp 26)), none⟩ (.take ⟨(some 28), (.load1 (.tmp 27)), none⟩ (.take ⟨(some 29), (.lenL (.tmp 28)), none⟩ (.take ⟨(some 31), (.move (.tmp 1)), none⟩ (.take ⟨(some 32), (.move (.tmp 5)), none⟩ (.take ⟨(some 33), (.iaddr 2 (.tmp 31) (.tmp 32)), none⟩ (.take ⟨(some 34), (.faddr 1 (.tmp 33)), none⟩ (.take ⟨(some 35), (.load1 (.tmp 34)), none⟩ (.only ⟨(some 30), (.call 57 [(.tmp 23), (.tmp 29), (.const (.int .i64 4))]), none⟩ (.only ⟨(some 36), (.append 1 1 (.tmp 30) (.tmp 35)), none⟩ (.take ⟨(some 0), (.assign (.tmp 36)), none⟩ .done))))))))))))))))))) (.ops [⟨(some 14), (.move (.tmp 5)), none⟩, ⟨(some 15), (.bin .add (.tmp 14) (.const (.int .i64 1))), none⟩, ⟨(some 5), (.assign (.tmp 15)), none⟩])))))) (.seq (.ops [⟨(some 37), (.move (.tmp 0)), none⟩, ⟨(some 4), (.assign (.tmp 37)), none⟩]) .ret)))), [(.move (.tmp 4))]⟩
theorem k63 : cfun Try.prog 63 = some c63 := by kernel_rfl
def c70 : XFun := ⟨31, (.seq (.ops [⟨(some 6), (.assign (.const (.bool false))), none⟩]) (.seq (.seq (.ops [⟨(some 8), (.move (.tmp 0)), none⟩, ⟨(some 9), (.lenL (.tmp 8)), none⟩, ⟨(some 10), (.bin .gtr (.tmp 9) (.const (.int .i64 65535))), none⟩]) (.cond (.tmp 10) (.seq (.ops [⟨(some 6), (.assign (.const (.bool false))), none⟩]) .ret) .skip)) (.seq (.seq (.ops [⟨(some 7), (.assign (.const (.int .i64 0))), none⟩]) (.block 0 (.loop (.seq (.seq (.ops [⟨(some 11), (.move (.tmp 7)), none⟩, ⟨(some 12), (.move (.tmp 0)), none⟩, ⟨(some 13), (.lenL (.tmp 12)), none⟩, ⟨(some 14), (.bin .lss (.tmp 11) (.tmp 13)), none⟩]) (.cond (.tmp 14) .skip (.exit 0))) (.seq (.block 1 (.seq (.ops [⟨(some 17), (.move (.tmp 0)), none⟩, ⟨(some 18), (.move (.tmp 7)), none⟩, ⟨(some 19), (.iaddr 1 (.tmp 17) (.tmp 18)), none⟩, ⟨(some 20), (.load1 (.tmp 19)), none⟩, ⟨(some 21), (.move (.tmp 1)), none⟩, ⟨(some 22), (.bin .lss (.tmp 20) (.tmp 21)), none⟩, ⟨(some 23), (.move (.tmp 22)), none⟩, ⟨(some 24), (.move (.tmp 0)), (some (23, false))⟩, ⟨(some 25), (.move (.tmp 7)), (some (23, false))⟩, ⟨(some 26), (.iaddr 1 (.tmp 24) (.tmp 25)), (some (23, false))⟩, ⟨(some 27), (.load1 (.tmp 26)), (some (23, false))⟩, ⟨(some 28), (.move (.tmp 2)), (some (23, false))⟩, ⟨(some 29), (.bin .gtr (.tmp 27) (.tmp 28)), (some (23, false))⟩, ⟨(some 30), (.pick (.tmp 23) (.const (.bool true)) (.tmp 29)), none⟩]) (.cond (.tmp 30) (.seq (.ops [⟨(some 6), (.assign (.const (.bool false))), none⟩]) .ret) .skip))) (.ops [⟨(some 15), (.move (.tmp 7)), none⟩, ⟨(some 16), (.bin .add (.tmp 15) (.const (.int .i64 1))), none⟩, ⟨(some 7), (.assign (.tmp 16)), none⟩])))))) (.seq (.ops [⟨(some 6), (.assign (.const (.bool true))), none⟩]) .ret)))), [(.move (.tmp 6))]⟩
theorem k70 : cfun Try.prog 70 = some c70 := by kernel_rfl
def c71 : XFun := ⟨36, (.seq (.ops [⟨(some 2), (.assign (.const (.bool false))), none⟩]) (.seq (.seq (.ops [⟨(some 4), (.move (.tmp 0)), none⟩, ⟨(some 5), (.lenL (.tmp 4)), none⟩, ⟨(some 6), (.bin .gtr (.tmp 5) (.const (.int .i64 65535))), none⟩]) (.cond (.tmp 6) (.seq (.ops [⟨(some 2), (.assign (.const (.bool false))), none⟩]) .ret) .skip)) (.seq (.seq (.ops [⟨(some 3), (.assign (.const (.int .i64 0))), none⟩]) (.block 0 (.loop (.seq (.seq (.ops [⟨(some 7), (.move (.tmp 3)), none⟩, ⟨(some 8), (.move (.tmp 0)), none⟩, ⟨(some 9), (.lenL (.tmp 8)), none⟩, ⟨(some 10), (.bin .lss (.tmp 7) (.tmp 9)), none⟩]) (.cond (.tmp 10) .skip (.exit 0))) (.seq (.block 1 (.seq (.ops [⟨(some 13), (.move (.tmp 0)), none⟩, ⟨(some 14), (.move (.tmp 3)), none⟩, ⟨(some 15), (.iaddr 2 (.tmp 13) (.tmp 14)), none⟩, ⟨(some 16), (.faddr 0 (.tmp 15)), none⟩, ⟨(some 17), (.load1 (.tmp 16)), none⟩, ⟨(some 18), (.move (.tmp 17)), none⟩, ⟨(some 19), (.move (.tmp 0)), (some (18, true))⟩, ⟨(some 20), (.move (.tmp 3)), (some (18, true))⟩, ⟨(some 21), (.iaddr 2 (.tmp 19) (.tmp 20)), (some (18, true))⟩, ⟨(some 22), (.faddr 1 (.tmp 21)), (some (18, true))⟩, ⟨(some 23), (.load1 (.tmp 22)), (some (18, true))⟩, ⟨(some 24), (.lenL (.tmp 23)), (some (18, true))⟩, ⟨(some 25), (.bin .gtr (.tmp 24) (.const (.int .i64 0))), (some (18, true))⟩, ⟨(some 26), (.pick (.tmp 18) (.tmp 25) (.const (.bool false))), none⟩, ⟨(some 27), (.move (.tmp 26)), none⟩, ⟨(some 28), (.move (.tmp 0)), (some (27, false))⟩, ⟨(some 29), (.move (.tmp 3)), (some (27, false))⟩, ⟨(some 30), (.iaddr 2 (.tmp 28) (.tmp 29)), (some (27, false))⟩, ⟨(some 31), (.faddr 1 (.tmp 30)), (some (27, false))⟩, ⟨(some 32), (.load1 (.tmp 31)), (some (27, false))⟩, ⟨(some 33), (.lenL (.tmp 32)), (some (27, false))⟩, ⟨(some 34), (.bin .gtr (.tmp 33) (.const (.int .i64 1048576))), (some (27, false))⟩, ⟨(some 35), (.pick (.tmp 27) (.const (.bool true)) (.tmp 34)), none⟩]) (.cond (.tmp 35) (.seq (.ops [⟨(some 2), (.assign (.const (.bool false))), none⟩]) .ret) .skip))) (.ops [⟨(some 11), (.move (.tmp 3)), none⟩, ⟨(some 12), (.bin .add (.tmp 11) (.const (.int .i64 1))), none⟩, ⟨(some 3), (.assign (.tmp 12)), none⟩])))))) (.seq (.ops [⟨(some 2), (.assign (.const (.bool true))), none⟩]) .ret)))), [(.move (.tmp 2))]⟩
theorem k71 : cfun Try.prog 71 = some c71 := by kernel_rfl
def c72 : XFun := ⟨66, (.seq (.ops [⟨(some 1), (.box (.tmp 0)), none⟩, ⟨(some 2), (.alloc [(.v (.int .u8 0)), (.v (.int .u8 0)), (.v (.string (strB []))), (.v (.string (strB []))), (.v (.string (strB []))), (.sl 0 [] (some true) .exact), (.sl 0 [] (some true) .exact), (.sl 0 [] (some true) .exact), (.sl 0 [] (some true) .exact), (.v (.int .i64 0))]), none⟩]) (.seq (.ops [⟨(some 4), (.faddr 0 (.tmp 1)), none⟩, ⟨(some 5), (.load1 (.tmp 4)), none⟩, ⟨(some 6), (.build [(.v (.int .u8 0)), (.v (.int .u8 0)), (.v (.string (strB []))), (.v (.string (strB []))), (.v (.string (strB []))), (.sl 0 [] (some true) .exact), (.sl 0 [] (some true) .exact), (.sl 0 [] (some true) .exact), (.sl 0 [] (some true) .exact), (.v (.int .i64 0))] [(0, (1, (.tmp 5)))]), none⟩, ⟨(some 3), (.alloc [(.v (.int .u8 0)), (.v (.int .u8 0)), (.v (.string (strB []))), (.v (.string (strB []))), (.v (.string (strB []))), (.sl 0 [] (some true) .exact), (.sl 0 [] (some true) .exact), (.sl 0 [] (some true) .exact), (.sl 0 [] (some true) .exact), (.v (.int .i64 0))]), none⟩, ⟨none, (.store 10 (.tmp 3) (.tmp 6)), none⟩]) (.seq (.seq (.ops [⟨(some 7), (.faddr 0 (.tmp 1)), none⟩, ⟨(some 8), (.load1 (.tmp 7)), none⟩]) (.block 0 (.seq (.ops [⟨(some 10), (.bin .eql (.tmp 8) (.const (.int .u8 80))), none⟩, ⟨(some 9), (.assign (.tmp 10)), none⟩]) (.cond (.tmp 9) (.draws (.take ⟨(some 11), (.faddr 2 (.tmp 1)), none⟩ (.take ⟨(some 12), (.load1 (.tmp 11)), none⟩ (.take ⟨(some 13), (.faddr 4 (.tmp 1)), none⟩ (.take ⟨(some 14), (.load1 (.tmp 13)), none⟩ (.take ⟨(some 15), (.faddr 5 (.tmp 1)), none⟩ (.take ⟨(some 16), (.load1 (.tmp 15)), none⟩ (.take ⟨(some 17), (.faddr 2 (.tmp 3)), none⟩ (.only ⟨none, (.store 1 (.tmp 17) (.tmp 12)), none⟩ (.take ⟨(some 18), (.faddr 4 (.tmp 3)), none⟩ (.only ⟨none, (.store 1 (.tmp 18) (.tmp 14)), none⟩ (.take ⟨(some 19), (.faddr 5 (.tmp 3)), none⟩ (.only ⟨none, (.store 1 (.tmp 19) (.tmp 16)), none⟩ .done))))))))))))) (.seq (.ops [⟨(some 21), (.bin .eql (.tmp 8) (.const (.int .u8 66))), none⟩, ⟨(some 20), (.assign (.tmp 21)), none⟩]) (.cond (.tmp 20) (.draws (.take ⟨(some 22), (.faddr 3 (.tmp 1)), none⟩ (.take ⟨(some 23), (.load1 (.tmp 22)), none⟩ (.take ⟨(some 24), (.faddr 2 (.tmp 1)), none⟩ (.take ⟨(some 25), (.load1 (.tmp 24)), none⟩ (.take ⟨(some 26), (.faddr 6 (.tmp 1)), none⟩ (.take ⟨(some 27), (.load1 (.tmp 26)), none⟩ (.take ⟨(some 28), (.faddr 8 (.tmp 1)), none⟩ (.take ⟨(some 29), (.load1 (.tmp 28)), none⟩ (.take ⟨(some 30), (.faddr 7 (.tmp 1)), none⟩ (.take ⟨(some 31), (.load1 (.tmp 30)), none⟩ (.take ⟨(some 32), (.faddr 3 (.tmp 3)), none⟩ (.only ⟨none, (.store 1 (.tmp 32) (.tmp 23)), none⟩ (.take ⟨(some 33), (.faddr 2 (.tmp 3)), none⟩ (.only ⟨none, (.store 1 (.tmp 33) (.tmp 25)), none⟩ (.take ⟨(some 34), (.faddr 6 (.tmp 3)), none⟩ (.only ⟨none, (.store 1 (.tmp 34) (.tmp 27)), none⟩ (.take ⟨(some 35), (.faddr 8 (.tmp 3)), none⟩ (.only ⟨none, (.store 1 (.tmp 35) (.tmp 29)), none⟩ (.take ⟨(some 36), (.faddr 7 (.tmp 3)), none⟩ (.only ⟨none, (.store 1 (.tmp 36) (.tmp 31)), none⟩ .done))))))))))))))))))))) (.seq (.seq (.ops [⟨(some 38), (.bin .eql (.tmp 8) (.const (.int .u8 67))), none⟩, ⟨(some 37), (.assign (.tmp 38)), none⟩]) (.cond (.tmp 37) .skip (.ops [⟨(some 39), (.bin .eql (.tmp 8) (.const (.int .u8 68))), none⟩, ⟨(some 37), (.assign (.tmp 39)), none⟩]))) (.cond (.tmp 37) (.seq (.ops [⟨(some 40), (.faddr 1 (.tmp 1)), none⟩, ⟨(some 41), (.load1 (.tmp 40)), none⟩, ⟨(some 42), (.faddr 1 (.tmp 3)), none⟩, ⟨none, (.store 1 (.tmp 42) (.tmp 41)), none⟩]) (.seq (.ops [⟨(some 43), (.faddr 1 (.tmp 1)), none⟩, ⟨(some 44), (.load1 (.tmp 43)), none⟩, ⟨(some 45), (.bin .eql (.tmp 44) (.const (.int .u8 83))), none⟩]) (.cond (.tmp 45) (.ops [⟨(some 46), (.faddr 2 (.tmp 1)), none⟩, ⟨(some 47), (.load1 (.tmp 46)), none⟩, ⟨(some 48), (.faddr 2 (.tmp 3)), none⟩, ⟨none, (.store 1 (.tmp 48) (.tmp 47)), none⟩]) (.ops [⟨(some 49), (.faddr 3 (.tmp 1)), none⟩, ⟨(some 50), (.load1 (.tmp 49)), none⟩, ⟨(some 51), (.faddr 3 (.tmp 3)), none⟩, ⟨none, (.store 1 (.tmp 51) (.tmp 50)), none⟩])))) (.seq (.ops [⟨(some 53), (.bin .eql (.tmp 8) (.const (.int .u8 69))), none⟩, ⟨(some 52), (.assign (.tmp 53)), none⟩]) (.cond (.tmp 52) (.draws (.take ⟨(some 54), (.faddr 3 (.tmp 1)), none⟩ (.take ⟨(some 55), (.load1 (.tmp 54)), none⟩ (.take ⟨(some 56), (.faddr 9 (.tmp 1)), none⟩ (.take ⟨(some 57), (.load1 (.tmp 56)), none⟩ (.take ⟨(some 58), (.faddr 3 (.tmp 3)), none⟩ (.only ⟨none, (.store 1 (.tmp 58) (.tmp 55)), none⟩ (.take ⟨(some 59), (.faddr 9 (.tmp 3)), none⟩ (.only ⟨none, (.store 1 (.tmp 59) (.tmp 57)), none⟩ .done))))))))) (.seq (.ops [⟨(some 61), (.bin .eql (.tmp 8) (.const (.int .u8 81))), none⟩, ⟨(some 60), (.assign (.tmp 61)), none⟩]) (.cond (.tmp 60) (.ops [⟨(some 62), (.faddr 4 (.tmp 1)), none⟩, ⟨(some 63), (.load1 (.tmp 62)), none⟩, ⟨(some 64), (.faddr 4 (.tmp 3)), none⟩, ⟨none, (.store 1 (.tmp 64) (.tmp 63)), none⟩]) .skip)))))))))))) (.seq (.ops [⟨(some 65), (.loadN 10 (.tmp 3)), none⟩, ⟨none, (.store 10 (.tmp 2) (.tmp 65)), none⟩]) .ret)))), [(.loadN 10 (.tmp 2))]⟩
theorem k72 : cfun Try.prog 72 = some c72 := by kernel_rfl
def c77 : XFun := ⟨26, (.seq (.ops [⟨(some 4), (.assign (.const (.bool false))), none⟩]) (.seq (.seq (.ops [⟨(some 6), (.move (.tmp 0)), none⟩, ⟨(some 7), (.lenL (.tmp 6)), none⟩, ⟨(some 8), (.move (.tmp 1)), none⟩, ⟨(some 9), (.lenL (.tmp 8)), none⟩, ⟨(some 10), (.bin .neq (.tmp 7) (.tmp 9)), none⟩]) (.cond (.tmp 10) (.seq (.ops [⟨(some 4), (.assign (.const (.bool false))), none⟩]) .ret) .skip)) (.seq (.seq (.ops [⟨(some 5), (.assign (.const (.int .i64 0))), none⟩]) (.block 0 (.loop (.seq (.seq (.ops [⟨(some 11), (.move (.tmp 5)), none⟩, ⟨(some 12), (.move (.tmp 0)), none⟩, ⟨(some 13), (.lenL (.tmp 12)), none⟩, ⟨(some 14), (.bin .lss (.tmp 11) (.tmp 13)), none⟩]) (.cond (.tmp 14) .skip (.exit 0))) (.seq (.block 1 (.seq (.draws (.take ⟨(some 17), (.move (.tmp 0)), none⟩ (.take ⟨(some 18), (.move (.tmp 5)), none⟩ (.take ⟨(some 19), (.iaddr 1 (.tmp 17) (.tmp 18)), none⟩ (.take ⟨(some 20), (.load1 (.tmp 19)), none⟩ (.take ⟨(some 21), (.move (.tmp 1)), none⟩ (.take ⟨(some 22), (.move (.tmp 5)), none⟩ (.take ⟨(some 23), (.iaddr 1 (.tmp 21) (.tmp 22)), none⟩ (.take ⟨(some 24), (.load1 (.tmp 23)), none⟩ (.take ⟨(some 25), (.bin .neq (.tmp 20) (.tmp 24)), none⟩ .done)))))))))) (.cond (.tmp 25) (.seq (.ops [⟨(some 4), (.assign (.const (.bool false))), none⟩]) .ret) .skip))) (.ops [⟨(some 15), (.move (.tmp 5)), none⟩, ⟨(some 16), (.bin .add (.tmp 15) (.const (.int .i64 1))), none⟩, ⟨(some 5), (.assign (.tmp 16)), none⟩])))))) (.seq (.ops [⟨(some 4), (.assign (.const (.bool true))), none⟩]) .ret)))), [(.move (.tmp 4))]⟩
theorem k77 : cfun Try.prog 77 = some c77 := by kernel_rfl
def c78 : XFun := ⟨43, (.seq (.ops [⟨(some 4), (.assign (.const (.bool false))), none⟩]) (.seq (.seq (.ops [⟨(some 6), (.move (.tmp 0)), none⟩, ⟨(some 7), (.lenL (.tmp 6)), none⟩, ⟨(some 8), (.move (.tmp 1)), none⟩, ⟨(some 9), (.lenL (.tmp 8)), none⟩, ⟨(some 10), (.bin .neq (.tmp 7) (.tmp 9)), none⟩]) (.cond (.tmp 10) (.seq (.ops [⟨(some 4), (.assign (.const (.bool false))), none⟩]) .ret) .skip)) (.seq (.seq (.ops [⟨(some 5), (.assign (.const (.int .i64 0))), none⟩]) (.block 0 (.loop (.seq (.seq (.ops [⟨(some 11), (.move (.tmp 5)), none⟩, ⟨(some 12), (.move (.tmp 0)), none⟩, ⟨(some 13), (.lenL (.tmp 12)), none⟩, ⟨(some 14), (.bin .lss (.tmp 11) (.tmp 13)), none⟩]) (.cond (.tmp 14) .skip (.exit 0))) (.seq (.block 1 (.seq (.draws (.take ⟨(some 17), (.move (.tmp 0)), none⟩ (.take ⟨(some 18), (.move (.tmp 5)), none⟩ (.take ⟨(some 19), (.iaddr 2 (.tmp 17) (.tmp 18)), none⟩ (.take ⟨(some 20), (.faddr 0 (.tmp 19)), none⟩ (.take ⟨(some 21), (.load1 (.tmp 20)), none⟩ (.take ⟨(some 22), (.move (.tmp 1)), none⟩ (.take ⟨(some 23), (.move (.tmp 5)), none⟩ (.take ⟨(some 24), (.iaddr 2 (.tmp 22) (.tmp 23)), none⟩ (.take ⟨(some 25), (.faddr 0 (.tmp 24)), none⟩ (.take ⟨(some 26), (.load1 (.tmp 25)), none⟩ (.take ⟨(some 27), (.beq true (.tmp 21) (.tmp 26)), none⟩ (.take ⟨(some 28), (.move (.tmp 27)), none⟩ (.take ⟨(some 29), (.move (.tmp 0)), (some (28, false))⟩ (.take ⟨(some 30), (.move (.tmp 5)), (some (28, false))⟩ (.take ⟨(some 31), (.iaddr 2 (.tmp 29) (.tmp 30)), (some (28, false))⟩ (.take ⟨(some 32), (.faddr 1 (.tmp 31)), (some (28, false))⟩ (.take ⟨(some 33), (.load1 (.tmp 32)), (some (28, false))⟩ (.take ⟨(some 34), (.b2s (.tmp 33)), (some (28, false))⟩ (.take ⟨(some 35), (.move (.tmp 1)), (some (28, false))⟩ (.take ⟨(some 36), (.move (.tmp 5)), (some (28, false))⟩ (.take ⟨(some 37), (.iaddr 2 (.tmp 35) (.tmp 36)), (some (28, false))⟩ (.take ⟨(some 38), (.faddr 1 (.tmp 37)), (some (28, false))⟩ (.take ⟨(some 39), (.load1 (.tmp 38)), (some (28, false))⟩ (.take ⟨(some 40), (.b2s (.tmp 39)), (some (28, false))⟩ (.take ⟨(some 41), (.bin .neq (.tmp 34) (.tmp 40)), (some (28, false))⟩ (.take ⟨(some 42), (.pick (.tmp 28) (.const (.bool true)) (.tmp 41)), none⟩ .done))))))))))))))))))))))))))) (.cond (.tmp 42) (.seq (.ops [⟨(some 4), (.assign (.const (.bool false))), none⟩]) .ret) .skip))) (.ops [⟨(some 15), (.move (.tmp 5)), none⟩, ⟨(some 16), (.bin .add (.tmp 15) (.const (.int .i64 1))), none⟩, ⟨(some 5), (.assign (.tmp 16)), none⟩])))))) (.seq (.ops [⟨(some 4), (.assign (.const (.bool true))), none⟩]) .ret)))), [(.move (.tmp 4))]⟩
theorem k78 : cfun Try.prog 78 = some c78 := by kernel_rfl
def c81 : XFun := ⟨68, (.seq (.ops [⟨(some 4), (.alloc [(.v (.int .u8 0)), (.v (.int .u8 0)), (.v (.string (strB []))), (.v (.string (strB []))), (.v (.string (strB []))), (.sl 0 [] (some true) .exact), (.sl 0 [] (some true) .exact), (.sl 0 [] (some true) .exact), (.sl 0 [] (some true) .exact), (.v (.int .i64 0))]), none⟩]) (.seq (.ops [⟨(some 6), (.move (.tmp 1)), none⟩, ⟨(some 7), (.build [(.v (.int .u8 0)), (.v (.int .u8 0)), (.v (.string (strB []))), (.v (.string (strB []))), (.v (.string (strB []))), (.sl 0 [] (some true) .exact), (.sl 0 [] (some true) .exact), (.sl 0 [] (some true) .exact), (.sl 0 [] (some true) .exact), (.v (.int .i64 0))] [(0, (1, (.tmp 6)))]), none⟩, ⟨(some 5), (.alloc [(.v (.int .u8 0)), (.v (.int .u8 0)), (.v (.string (strB []))), (.v (.string (strB []))), (.v (.string (strB []))), (.sl 0 [] (some true) .exact), (.sl 0 [] (some true) .exact), (.sl 0 [] (some true) .exact), (.sl 0 [] (some true) .exact), (.v (.int .i64 0))]), none⟩, ⟨none, (.store 10 (.tmp 5) (.tmp 7)), none⟩]) (.seq (.seq (.ops [⟨(some 8), (.move (.tmp 1)), none⟩]) (.block 0 (.seq (.ops [⟨(some 10), (.bin .eql (.tmp 8) (.const (.int .u8 80))), none⟩, ⟨(some 9), (.assign (.tmp 10)), none⟩]) (.cond (.tmp 9) (.ops [⟨(some 11), (.move (.tmp 0)), none⟩, ⟨(some 12), (.call 104 [(.tmp 11)]), none⟩, ⟨(some 13), (.move (.tmp 0)), none⟩, ⟨(some 14), (.call 104 [(.tmp 13)]), none⟩, ⟨(some 15), (.move (.tmp 0)), none⟩, ⟨(some 16), (.call 126 [(.tmp 15), (.const (.int .i64 4))]), none⟩, ⟨(some 17), (.faddr 2 (.tmp 5)), none⟩, ⟨none, (.store 1 (.tmp 17) (.tmp 12)), none⟩, ⟨(some 18), (.faddr 4 (.tmp 5)), none⟩, ⟨none, (.store 1 (.tmp 18) (.tmp 14)), none⟩, ⟨(some 19), (.faddr 5 (.tmp 5)), none⟩, ⟨none, (.store 1 (.tmp 19) (.tmp 16)), none⟩]) (.seq (.ops [⟨(some 21), (.bin .eql (.tmp 8) (.const (.int .u8 66))), none⟩, ⟨(some 20), (.assign (.tmp 21)), none⟩]) (.cond (.tmp 20) (.ops [⟨(some 22), (.move (.tmp 0)), none⟩, ⟨(some 23), (.call 104 [(.tmp 22)]), none⟩, ⟨(some 24), (.move (.tmp 0)), none⟩, ⟨(some 25), (.call 104 [(.tmp 24)]), none⟩, ⟨(some 26), (.move (.tmp 0)), none⟩, ⟨(some 27), (.call 126 [(.tmp 26), (.const (.int .i64 2))]), none⟩, ⟨(some 28), (.move (.tmp 0)), none⟩, ⟨(some 29), (.call 127 [(.tmp 28)]), none⟩, ⟨(some 30), (.move (.tmp 0)), none⟩, ⟨(some 31), (.call 126 [(.tmp 30), (.const (.int .i64 2))]), none⟩, ⟨(some 32), (.faddr 3 (.tmp 5)), none⟩, ⟨none, (.store 1 (.tmp 32) (.tmp 23)), none⟩, ⟨(some 33), (.faddr 2 (.tmp 5)), none⟩, ⟨none, (.store 1 (.tmp 33) (.tmp 25)), none⟩, ⟨(some 34), (.faddr 6 (.tmp 5)), none⟩, ⟨none, (.store 1 (.tmp 34) (.tmp 27)), none⟩, ⟨(some 35), (.faddr 8 (.tmp 5)), none⟩, ⟨none, (.store 1 (.tmp 35) (.tmp 29)), none⟩, ⟨(some 36), (.faddr 7 (.tmp 5)), none⟩, ⟨none, (.store 1 (.tmp 36) (.tmp 31)), none⟩]) (.seq (.seq (.ops [⟨(some 38), (.bin .eql (.tmp 8) (.const (.int .u8 67))), none⟩, ⟨(some 37), (.assign (.tmp 38)), none⟩]) (.cond (.tmp 37) .skip (.ops [⟨(some 39), (.bin .eql (.tmp 8) (.const (.int .u8 68))), none⟩, ⟨(some 37), (.assign (.tmp 39)), none⟩]))) (.cond (.tmp 37) (.seq (.ops [⟨(some 40), (.move (.tmp 0)), none⟩, ⟨(some 41), (.call 48 [(.tmp 40), (.const (.int .i64 1))]), none⟩, ⟨(some 42), (.conv .u8 (.tmp 41)), none⟩, ⟨(some 43), (.faddr 1 (.tmp 5)), none⟩, ⟨none, (.store 1 (.tmp 43) (.tmp 42)), none⟩]) (.seq (.ops [⟨(some 44), (.faddr 1 (.tmp 5)), none⟩, ⟨(some 45), (.load1 (.tmp 44)), none⟩, ⟨(some 46), (.bin .eql (.tmp 45) (.const (.int .u8 83))), none⟩]) (.cond (.tmp 46) (.ops [⟨(some 47), (.move (.tmp 0)), none⟩, ⟨(some 48), (.call 104 [(.tmp 47)]), none⟩, ⟨(some 49), (.faddr 2 (.tmp 5)), none⟩, ⟨none, (.store 1 (.tmp 49) (.tmp 48)), none⟩]) (.ops [⟨(some 50), (.move (.tmp 0)), none⟩, ⟨(some 51), (.call 104 [(.tmp 50)]), none⟩, ⟨(some 52), (.faddr 3 (.tmp 5)), none⟩, ⟨none, (.store 1 (.tmp 52) (.tmp 51)), none⟩])))) (.seq (.ops [⟨(some 54), (.bin .eql (.tmp 8) (.const (.int .u8 69))), none⟩, ⟨(some 53), (.assign (.tmp 54)), none⟩]) (.cond (.tmp 53) (.ops [⟨(some 55), (.move (.tmp 0)), none⟩, ⟨(some 56), (.call 104 [(.tmp 55)]), none⟩, ⟨(some 57), (.move (.tmp 0)), none⟩, ⟨(some 58), (.call 48 [(.tmp 57), (.const (.int .i64 4))]), none⟩, ⟨(some 59), (.call 128 [(.tmp 58), (.const (.int .i64 4))]), none⟩, ⟨(some 60), (.faddr 3 (.tmp 5)), none⟩, ⟨none, (.store 1 (.tmp 60) (.tmp 56)), none⟩, ⟨(some 61), (.faddr 9 (.tmp 5)), none⟩, ⟨none, (.store 1 (.tmp 61) (.tmp 59)), none⟩]) (.seq (.ops [⟨(some 63), (.bin .eql (.tmp 8) (.const (.int .u8 81))), none⟩, ⟨(some 62), (.assign (.tmp 63)), none⟩]) (.cond (.tmp 62) (.ops [⟨(some 64), (.move (.tmp 0)), none⟩, ⟨(some 65), (.call 104 [(.tmp 64)]), none⟩, ⟨(some 66), (.faddr 4 (.tmp 5)), none⟩, ⟨none, (.store 1 (.tmp 66) (.tmp 65)), none⟩]) .skip)))))))))))) (.seq (.ops [⟨(some 67), (.loadN 10 (.tmp 5)), none⟩, ⟨none, (.store 10 (.tmp 4) (.tmp 67)), none⟩]) .ret)))), [(.loadN 10 (.tmp 4))]⟩
theorem k81 : cfun Try.prog 81 = some c81 := by kernel_rfl
def c126 : XFun := ⟨27, (.seq (.ops [⟨(some 4), (.assign (.const (.slice none 0 0))), none⟩]) (.seq (.ops [⟨(some 5), (.assign (.const (.slice none 0 0))), none⟩]) (.seq (.seq (.ops [⟨(some 7), (.move (.tmp 0)), none⟩, ⟨(some 8), (.call 48 [(.tmp 7), (.const (.int .i64 2))]), none⟩, ⟨(some 6), (.assign (.tmp 8)), none⟩]) (.block 0 (.loop (.seq (.seq (.ops [⟨(some 9), (.move (.tmp 6)), none⟩, ⟨(some 10), (.bin .gtr (.tmp 9) (.const (.int .i64 0))), none⟩, ⟨(some 11), (.move (.tmp 10)), none⟩, ⟨(some 12), (.move (.tmp 0)), (some (11, true))⟩, ⟨(some 13), (.nilCheck (.tmp 12)), (some (11, true))⟩, ⟨(some 14), (.faddr 1 (.tmp 13)), (some (11, true))⟩, ⟨(some 15), (.load1 (.tmp 14)), (some (11, true))⟩, ⟨(some 16), (.un .not (.tmp 15)), (some (11, true))⟩, ⟨(some 17), (.pick (.tmp 11) (.tmp 16) (.const (.bool false))), none⟩]) (.cond (.tmp 17) .skip (.exit 0))) (.seq (.block 1 (.ops [⟨(some 20), (.move (.tmp 5)), none⟩, ⟨(some 21), (.move (.tmp 0)), none⟩, ⟨(some 22), (.move (.tmp 1)), none⟩, ⟨(some 23), (.call 48 [(.tmp 21), (.tmp 22)]), none⟩, ⟨(some 24), (.buildSlice 1 1 [(.v (.int .i64 0))] [(0, (.tmp 23))]), none⟩, ⟨(some 25), (.append 1 8 (.tmp 20) (.tmp 24)), none⟩, ⟨(some 5), (.assign (.tmp 25)), none⟩])) (.ops [⟨(some 18), (.move (.tmp 6)), none⟩, ⟨(some 19), (.bin .sub (.tmp 18) (.const (.int .i64 1))), none⟩, ⟨(some 6), (.assign (.tmp 19)), none⟩])))))) (.seq (.ops [⟨(some 26), (.move (.tmp 5)), none⟩, ⟨(some 4), (.assign (.tmp 26)), none⟩]) .ret)))), [(.move (.tmp 4))]⟩
theorem k126 : cfun Try.prog 126 = some c126 := by kernel_rfl
def c127 : XFun := ⟨35, (.seq (.ops [⟨(some 2), (.assign (.const (.slice none 0 0))), none⟩]) (.seq (.ops [⟨(some 3), (.assign (.const (.slice none 0 0))), none⟩]) (.seq (.seq (.ops [⟨(some 6), (.move (.tmp 0)), none⟩, ⟨(some 7), (.call 48 [(.tmp 6), (.const (.int .i64 2))]), none⟩, ⟨(some 4), (.assign (.tmp 7)), none⟩]) (.block 0 (.loop (.seq (.seq (.ops [⟨(some 8), (.move (.tmp 4)), none⟩, ⟨(some 9), (.bin .gtr (.tmp 8) (.const (.int .i64 0))), none⟩, ⟨(some 10), (.move (.tmp 9)), none⟩, ⟨(some 11), (.move (.tmp 0)), (some (10, true))⟩, ⟨(some 12), (.nilCheck (.tmp 11)), (some (10, true))⟩, ⟨(some 13), (.faddr 1 (.tmp 12)), (some (10, true))⟩, ⟨(some 14), (.load1 (.tmp 13)), (some (10, true))⟩, ⟨(some 15), (.un .not (.tmp 14)), (some (10, true))⟩, ⟨(some 16), (.pick (.tmp 10) (.tmp 15) (.const (.bool false))), none⟩]) (.cond (.tmp 16) .skip (.exit 0))) (.seq (.block 1 (.seq (.ops [⟨(some 19), (.move (.tmp 0)), none⟩, ⟨(some 20), (.call 48 [(.tmp 19), (.const (.int .i64 4))]), none⟩, ⟨(some 5), (.assign (.tmp 20)), none⟩]) (.seq (.ops [⟨(some 21), (.move (.tmp 5)), none⟩, ⟨(some 22), (.bin .eql (.tmp 21) (.const (.int .i64 4294967295))), none⟩]) (.cond (.tmp 22) (.ops [⟨(some 23), (.move (.tmp 3)), none⟩, ⟨(some 24), (.build [(.v (.bool false)), (.sl 0 [] (some true) .exact)] [(0, (1, (.const (.bool true))))]), none⟩, ⟨(some 25), (.buildSlice 2 1 [(.v (.bool false)), (.sl 0 [] (some true) .exact)] [(0, (.tmp 24))]), none⟩, ⟨(some 26), (.append 2 32 (.tmp 23) (.tmp 25)), none⟩, ⟨(some 3), (.assign (.tmp 26)), none⟩]) (.ops [⟨(some 27), (.move (.tmp 3)), none⟩, ⟨(some 28), (.move (.tmp 0)), none⟩, ⟨(some 29), (.move (.tmp 5)), none⟩, ⟨(some 30), (.call 162 [(.tmp 28), (.tmp 29)]), none⟩, ⟨(some 31), (.build [(.v (.bool false)), (.sl 0 [] (some true) .exact)] [(1, (1, (.tmp 30)))]), none⟩, ⟨(some 32), (.buildSlice 2 1 [(.v (.bool false)), (.sl 0 [] (some true) .exact)] [(0, (.tmp 31))]), none⟩, ⟨(some 33), (.append 2 32 (.tmp 27) (.tmp 32)), none⟩, ⟨(some 3), (.assign (.tmp 33)), none⟩]))))) (.ops [⟨(some 17), (.move (.tmp 4)), none⟩, ⟨(some 18), (.bin .sub (.tmp 17) (.const (.int .i64 1))), none⟩, ⟨(some 4), (.assign (.tmp 18)), none⟩])))))) (.seq (.ops [⟨(some 34), (.move (.tmp 3)), none⟩, ⟨(some 2), (.assign (.tmp 34)), none⟩]) .ret)))), [(.move (.tmp 2))]⟩
theorem k127 : cfun Try.prog 127 = some c127 := by kernel_rfl
def c6 : XFun := ⟨73, (.seq (.ops [⟨(some 2), (.box (.tmp 0)), none⟩, ⟨(some 3), (.box (.tmp 1)), none⟩, ⟨(some 4), (.assign (.const (.bool false))), none⟩]) (.seq (.seq (.ops [⟨(some 9), (.loadN 10 (.tmp 2)), none⟩, ⟨(some 10), (.call 21 [(.tmp 9)]), none⟩, ⟨(some 11), (.un .not (.tmp 10)), none⟩, ⟨(some 12), (.move (.tmp 11)), none⟩, ⟨(some 13), (.loadN 10 (.tmp 3)), (some (12, false))⟩, ⟨(some 14), (.call 21 [(.tmp 13)]), (some (12, false))⟩, ⟨(some 15), (.un .not (.tmp 14)), (some (12, false))⟩, ⟨(some 16), (.pick (.tmp 12) (.const (.bool true)) (.tmp 15)), none⟩]) (.cond (.tmp 16) (.seq (.ops [⟨(some 17), (.call 22 []), none⟩, ⟨(some 4), (.assign (.tmp 17)), none⟩]) .ret) .skip)) (.seq (.ops [⟨(some 19), (.loadN 10 (.tmp 2)), none⟩, ⟨(some 20), (.call 23 [(.tmp 19)]), none⟩, ⟨(some 18), (.move (.tmp 20)), none⟩, ⟨(some 21), (.extract (.tmp 18) 0), none⟩, ⟨(some 22), (.extract (.tmp 18) 1), none⟩, ⟨(some 5), (.alloc [(.v (.int .u8 0)), (.sl 0 [] (some true) .exact)]), none⟩, ⟨none, (.store 2 (.tmp 5) (.tmp 21)), none⟩, ⟨(some 6), (.assign (.tmp 22)), none⟩]) (.seq (.ops [⟨(some 24), (.loadN 10 (.tmp 2)), none⟩, ⟨(some 25), (.call 24 [(.tmp 24)]), none⟩, ⟨(some 23), (.move (.tmp 25)), none⟩, ⟨(some 26), (.extract (.tmp 23) 0), none⟩, ⟨(some 27), (.extract (.tmp 23) 1), none⟩, ⟨(some 7), (.alloc [(.v (.int .u8 0)), (.sl 0 [] (some true) .exact)]), none⟩, ⟨none, (.store 2 (.tmp 7) (.tmp 26)), none⟩, ⟨(some 8), (.assign (.tmp 27)), none⟩]) (.seq (.draws (.take ⟨(some 28), (.move (.tmp 6)), none⟩ (.take ⟨(some 29), (.move (.tmp 8)), none⟩ (.take ⟨(some 30), (.bin .eql (.tmp 28) (.tmp 29)), none⟩ (.take ⟨(some 31), (.move (.tmp 30)), none⟩ (.take ⟨(some 32), (.faddr 0 (.tmp 5)), (some (31, true))⟩ (.take ⟨(some 33), (.load1 (.tmp 32)), (some (31, true))⟩ (.take ⟨(some 34), (.faddr 0 (.tmp 7)), (some (31, true))⟩ (.take ⟨(some 35), (.load1 (.tmp 34)), (some (31, true))⟩ (.take ⟨(some 36), (.bin .eql (.tmp 33) (.tmp 35)), (some (31, true))⟩ (.take ⟨(some 37), (.pick (.tmp 31) (.tmp 36) (.const (.bool false))), none⟩ (.take ⟨(some 38), (.move (.tmp 37)), none⟩ (.take ⟨(some 39), (.faddr 1 (.tmp 5)), (some (38, true))⟩ (.take ⟨(some 40), (.load1 (.tmp 39)), (some (38, true))⟩ (.take ⟨(some 41), (.faddr 1 (.tmp 7)), (some (38, true))⟩ (.take ⟨(some 42), (.load1 (.tmp 41)), (some (38, true))⟩ (.only ⟨(some 43), (.call 20 [(.tmp 40), (.tmp 42)]), (some (38, true))⟩ (.take ⟨(some 44), (.pick (.tmp 38) (.tmp 43) (.const (.bool false))), none⟩ (.take ⟨(some 45), (.move (.tmp 44)), none⟩ (.take ⟨(some 46), (.loadN 10 (.tmp 2)), (some (45, true))⟩ (.take ⟨(some 48), (.loadN 10 (.tmp 2)), (some (45, true))⟩ (.only ⟨(some 47), (.call 25 [(.tmp 46)]), (some (45, true))⟩ (.only ⟨(some 49), (.call 26 [(.tmp 48)]), (some (45, true))⟩ (.take ⟨(some 50), (.bin .eql (.tmp 47) (.tmp 49)), (some (45, true))⟩ (.take ⟨(some 51), (.pick (.tmp 45) (.tmp 50) (.const (.bool false))), none⟩ (.take ⟨(some 52), (.move (.tmp 51)), none⟩ (.take ⟨(some 53), (.loadN 10 (.tmp 2)), (some (52, true))⟩ (.take ⟨(some 54), (.loadN 10 (.tmp 3)), (some (52, true))⟩ (.take ⟨(some 56), (.loadN 10 (.tmp 2)), (some (52, true))⟩ (.take ⟨(some 57), (.loadN 10 (.tmp 3)), (some (52, true))⟩ (.only ⟨(some 55), (.call 27 [(.tmp 53), (.tmp 54)]), (some (52, true))⟩ (.only ⟨(some 58), (.call 28 [(.tmp 56), (.tmp 57)]), (some (52, true))⟩ (.take ⟨(some 59), (.beq false (.tmp 55) (.tmp 58)), (some (52, true))⟩ (.take ⟨(some 60), (.pick (.tmp 52) (.tmp 59) (.const (.bool false))), none⟩ (.take ⟨(some 61), (.move (.tmp 60)), none⟩ (.take ⟨(some 62), (.faddr 0 (.tmp 2)), (some (61, true))⟩ (.take ⟨(some 63), (.load1 (.tmp 62)), (some (61, true))⟩ (.take ⟨(some 65), (.faddr 0 (.tmp 2)), (some (61, true))⟩ (.take ⟨(some 66), (.load1 (.tmp 65)), (some (61, true))⟩ (.only ⟨(some 64), (.call 29 [(.tmp 63)]), (some (61, true))⟩ (.only ⟨(some 67), (.call 30 [(.tmp 66)]), (some (61, true))⟩ (.take ⟨(some 68), (.bin .eql (.tmp 64) (.tmp 67)), (some (61, true))⟩ (.take ⟨(some 69), (.pick (.tmp 61) (.tmp 68) (.const (.bool false))), none⟩ (.take ⟨(some 70), (.move (.tmp 69)), none⟩ (.only ⟨(some 71), (.call 22 []), (some (70, true))⟩ (.take ⟨(some 72), (.pick (.tmp 70) (.tmp 71) (.const (.bool false))), none⟩ (.take ⟨(some 4), (.assign (.tmp 72)), none⟩ .done))))))))))))))))))))))))))))))))))))))))))))))) .ret))))), [(.move (.tmp 4))]⟩
theorem k6 : cfun Try.prog 6 = some c6 := by kernel_rfl
def c7 : XFun := ⟨33, (.seq (.ops [⟨(some 1), (.box (.tmp 0)), none⟩, ⟨(some 2), (.assign (.const (.bool false))), none⟩]) (.seq (.seq (.ops [⟨(some 7), (.faddr 1 (.tmp 1)), none⟩, ⟨(some 8), (.load1 (.tmp 7)), none⟩, ⟨(some 9), (.lenL (.tmp 8)), none⟩, ⟨(some 10), (.bin .gtr (.tmp 9) (.const (.int .i64 2000))), none⟩]) (.cond (.tmp 10) (.seq (.ops [⟨(some 11), (.call 22 []), none⟩, ⟨(some 2), (.assign (.tmp 11)), none⟩]) .ret) .skip)) (.seq (.ops [⟨(some 13), (.loadN 2 (.tmp 1)), none⟩, ⟨(some 14), (.call 31 [(.tmp 13)]), none⟩, ⟨(some 12), (.move (.tmp 14)), none⟩, ⟨(some 15), (.extract (.tmp 12) 0), none⟩, ⟨(some 16), (.extract (.tmp 12) 1), none⟩, ⟨(some 3), (.alloc [(.v (.int .u8 0)), (.v (.int .u8 0)), (.v (.string (strB []))), (.v (.string (strB []))), (.v (.string (strB []))), (.sl 0 [] (some true) .exact), (.sl 0 [] (some true) .exact), (.sl 0 [] (some true) .exact), (.sl 0 [] (some true) .exact), (.v (.int .i64 0))]), none⟩, ⟨none, (.store 10 (.tmp 3) (.tmp 15)), none⟩, ⟨(some 4), (.assign (.tmp 16)), none⟩]) (.seq (.ops [⟨(some 18), (.loadN 2 (.tmp 1)), none⟩, ⟨(some 19), (.call 32 [(.tmp 18)]), none⟩, ⟨(some 17), (.move (.tmp 19)), none⟩, ⟨(some 20), (.extract (.tmp 17) 0), none⟩, ⟨(some 21), (.extract (.tmp 17) 1), none⟩, ⟨(some 5), (.alloc [(.v (.int .u8 0)), (.v (.int .u8 0)), (.v (.string (strB []))), (.v (.string (strB []))), (.v (.string (strB []))), (.sl 0 [] (some true) .exact), (.sl 0 [] (some true) .exact), (.sl 0 [] (some true) .exact), (.sl 0 [] (some true) .exact), (.v (.int .i64 0))]), none⟩, ⟨none, (.store 10 (.tmp 5) (.tmp 20)), none⟩, ⟨(some 6), (.assign (.tmp 21)), none⟩]) (.seq (.ops [⟨(some 22), (.move (.tmp 4)), none⟩, ⟨(some 23), (.move (.tmp 6)), none⟩, ⟨(some 24), (.bin .eql (.tmp 22) (.tmp 23)), none⟩, ⟨(some 25), (.move (.tmp 24)), none⟩, ⟨(some 26), (.loadN 10 (.tmp 3)), (some (25, true))⟩, ⟨(some 27), (.loadN 10 (.tmp 5)), (some (25, true))⟩, ⟨(some 28), (.call 28 [(.tmp 26), (.tmp 27)]), (some (25, true))⟩, ⟨(some 29), (.pick (.tmp 25) (.tmp 28) (.const (.bool false))), none⟩, ⟨(some 30), (.move (.tmp 29)), none⟩, ⟨(some 31), (.call 22 []), (some (30, true))⟩, ⟨(some 32), (.pick (.tmp 30) (.tmp 31) (.const (.bool false))), none⟩, ⟨(some 2), (.assign (.tmp 32)), none⟩]) .ret))))), [(.move (.tmp 2))]⟩
theorem k7 : cfun Try.prog 7 = some c7 := by kernel_rfl
def c8 : XFun := ⟨80, (.seq (.ops [⟨(some 2), (.box (.tmp 0)), none⟩, ⟨(some 3), (.box (.tmp 1)), none⟩, ⟨(some 4), (.assign (.const (.bool false))), none⟩]) (.seq (.seq (.ops [⟨(some 13), (.loadN 10 (.tmp 2)), none⟩, ⟨(some 14), (.call 21 [(.tmp 13)]), none⟩, ⟨(some 15), (.un .not (.tmp 14)), none⟩, ⟨(some 16), (.move (.tmp 15)), none⟩, ⟨(some 17), (.faddr 1 (.tmp 3)), (some (16, false))⟩, ⟨(some 18), (.load1 (.tmp 17)), (some (16, false))⟩, ⟨(some 19), (.lenL (.tmp 18)), (some (16, false))⟩, ⟨(some 20), (.bin .gtr (.tmp 19) (.const (.int .i64 2000))), (some (16, false))⟩, ⟨(some 21), (.pick (.tmp 16) (.const (.bool true)) (.tmp 20)), none⟩]) (.cond (.tmp 21) (.seq (.ops [⟨(some 22), (.call 22 []), none⟩, ⟨(some 4), (.assign (.tmp 22)), none⟩]) .ret) .skip)) (.seq (.seq (.ops [⟨(some 24), (.loadN 10 (.tmp 2)), none⟩, ⟨(some 25), (.call 23 [(.tmp 24)]), none⟩, ⟨(some 23), (.move (.tmp 25)), none⟩, ⟨(some 26), (.extract (.tmp 23) 0), none⟩, ⟨(some 27), (.extract (.tmp 23) 1), none⟩, ⟨(some 5), (.alloc [(.v (.int .u8 0)), (.sl 0 [] (some true) .exact)]), none⟩, ⟨none, (.store 2 (.tmp 5) (.tmp 26)), none⟩, ⟨(some 6), (.assign (.tmp 27)), none⟩]) (.seq (.ops [⟨(some 28), (.move (.tmp 6)), none⟩, ⟨(some 29), (.bin .eql (.tmp 28) (.const (.int .i64 0))), none⟩]) (.cond (.tmp 29) (.seq (.ops [⟨(some 31), (.loadN 2 (.tmp 5)), none⟩, ⟨(some 32), (.call 31 [(.tmp 31)]), none⟩, ⟨(some 30), (.move (.tmp 32)), none⟩, ⟨(some 33), (.extract (.tmp 30) 0), none⟩, ⟨(some 34), (.extract (.tmp 30) 1), none⟩, ⟨(some 7), (.alloc [(.v (.int .u8 0)), (.v (.int .u8 0)), (.v (.string (strB []))), (.v (.string (strB []))), (.v (.string (strB []))), (.sl 0 [] (some true) .exact), (.sl 0 [] (some true) .exact), (.sl 0 [] (some true) .exact), (.sl 0 [] (some true) .exact), (.v (.int .i64 0))]), none⟩, ⟨none, (.store 10 (.tmp 7) (.tmp 33)), none⟩, ⟨(some 8), (.assign (.tmp 34)), none⟩]) (.seq (.ops [⟨(some 35), (.move (.tmp 8)), none⟩, ⟨(some 36), (.bin .neq (.tmp 35) (.const (.int .i64 0))), none⟩, ⟨(some 37), (.move (.tmp 36)), none⟩, ⟨(some 38), (.loadN 10 (.tmp 2)), (some (37, false))⟩, ⟨(some 39), (.loadN 10 (.tmp 7)), (some (37, false))⟩, ⟨(some 40), (.call 27 [(.tmp 38), (.tmp 39)]), (some (37, false))⟩, ⟨(some 41), (.un .not (.tmp 40)), (some (37, false))⟩, ⟨(some 42), (.pick (.tmp 37) (.const (.bool true)) (.tmp 41)), none⟩]) (.cond (.tmp 42) (.seq (.ops [⟨(some 4), (.assign (.const (.bool false))), none⟩]) .ret) .skip))) .skip))) (.seq (.ops [⟨(some 44), (.loadN 2 (.tmp 3)), none⟩, ⟨(some 45), (.call 31 [(.tmp 44)]), none⟩, ⟨(some 43), (.move (.tmp 45)), none⟩, ⟨(some 46), (.extract (.tmp 43) 0), none⟩, ⟨(some 47), (.extract (.tmp 43) 1), none⟩, ⟨(some 9), (.alloc [(.v (.int .u8 0)), (.v (.int .u8 0)), (.v (.string (strB []))), (.v (.string (strB []))), (.v (.string (strB []))), (.sl 0 [] (some true) .exact), (.sl 0 [] (some true) .exact), (.sl 0 [] (some true) .exact), (.sl 0 [] (some true) .exact), (.v (.int .i64 0))]), none⟩, ⟨none, (.store 10 (.tmp 9) (.tmp 46)), none⟩, ⟨(some 10), (.assign (.tmp 47)), none⟩]) (.seq (.seq (.ops [⟨(some 48), (.move (.tmp 10)), none⟩, ⟨(some 49), (.bin .neq (.tmp 48) (.const (.int .i64 0))), none⟩]) (.cond (.tmp 49) (.seq (.ops [⟨(some 50), (.loadN 10 (.tmp 9)), none⟩, ⟨(some 51), (.build [(.v (.int .u8 0)), (.v (.int .u8 0)), (.v (.string (strB []))), (.v (.string (strB []))), (.v (.string (strB []))), (.sl 0 [] (some true) .exact), (.sl 0 [] (some true) .exact), (.sl 0 [] (some true) .exact), (.sl 0 [] (some true) .exact), (.v (.int .i64 0))] []), none⟩, ⟨(some 52), (.call 27 [(.tmp 50), (.tmp 51)]), none⟩, ⟨(some 53), (.move (.tmp 52)), none⟩, ⟨(some 54), (.call 22 []), (some (53, true))⟩, ⟨(some 55), (.pick (.tmp 53) (.tmp 54) (.const (.bool false))), none⟩, ⟨(some 4), (.assign (.tmp 55)), none⟩]) .ret) .skip)) (.seq (.ops [⟨(some 57), (.loadN 10 (.tmp 9)), none⟩, ⟨(some 58), (.call 23 [(.tmp 57)]), none⟩, ⟨(some 56), (.move (.tmp 58)), none⟩, ⟨(some 59), (.extract (.tmp 56) 0), none⟩, ⟨(some 60), (.extract (.tmp 56) 1), none⟩, ⟨(some 11), (.alloc [(.v (.int .u8 0)), (.sl 0 [] (some true) .exact)]), none⟩, ⟨none, (.store 2 (.tmp 11) (.tmp 59)), none⟩, ⟨(some 12), (.assign (.tmp 60)), none⟩]) (.seq (.ops [⟨(some 61), (.move (.tmp 12)), none⟩, ⟨(some 62), (.bin .eql (.tmp 61) (.const (.int .i64 0))), none⟩, ⟨(some 63), (.move (.tmp 62)), none⟩, ⟨(some 64), (.faddr 0 (.tmp 11)), (some (63, true))⟩, ⟨(some 65), (.load1 (.tmp 64)), (some (63, true))⟩, ⟨(some 66), (.faddr 0 (.tmp 3)), (some (63, true))⟩, ⟨(some 67), (.load1 (.tmp 66)), (some (63, true))⟩, ⟨(some 68), (.bin .eql (.tmp 65) (.tmp 67)), (some (63, true))⟩, ⟨(some 69), (.pick (.tmp 63) (.tmp 68) (.const (.bool false))), none⟩, ⟨(some 70), (.move (.tmp 69)), none⟩, ⟨(some 71), (.faddr 1 (.tmp 11)), (some (70, true))⟩, ⟨(some 72), (.load1 (.tmp 71)), (some (70, true))⟩, ⟨(some 73), (.faddr 1 (.tmp 3)), (some (70, true))⟩, ⟨(some 74), (.load1 (.tmp 73)), (some (70, true))⟩, ⟨(some 75), (.call 20 [(.tmp 72), (.tmp 74)]), (some (70, true))⟩, ⟨(some 76), (.pick (.tmp 70) (.tmp 75) (.const (.bool false))), none⟩, ⟨(some 77), (.move (.tmp 76)), none⟩, ⟨(some 78), (.call 22 []), (some (77, true))⟩, ⟨(some 79), (.pick (.tmp 77) (.tmp 78) (.const (.bool false))), none⟩, ⟨(some 4), (.assign (.tmp 79)), none⟩]) .ret))))))), [(.move (.tmp 4))]⟩
theorem k8 : cfun Try.prog 8 = some c8 := by kernel_rfl
def c22 : XFun := ⟨41, (.seq (.ops [⟨(some 0), (.assign (.const (.bool false))), none⟩]) (.seq (.ops [⟨(some 6), (.buildSlice 1 1 [(.v (.int .i64 0))] [(0, (.const (.int .i64 23)))]), none⟩, ⟨(some 7), (.build [(.v (.int .u8 0)), (.v (.int .u8 0)), (.v (.string (strB []))), (.v (.string (strB []))), (.v (.string (strB []))), (.sl 0 [] (some true) .exact), (.sl 0 [] (some true) .exact), (.sl 0 [] (some true) .exact), (.sl 0 [] (some true) .exact), (.v (.int .i64 0))] [(0, (1, (.const (.int .u8 80)))), (2, (1, (.const (.string (strB [97]))))), (4, (1, (.const (.string (strB [98, 101, 103, 105, 110]))))), (5, (1, (.tmp 6)))]), none⟩, ⟨(some 8), (.call 23 [(.tmp 7)]), none⟩, ⟨(some 5), (.move (.tmp 8)), none⟩, ⟨(some 9), (.extract (.tmp 5) 0), none⟩, ⟨(some 10), (.extract (.tmp 5) 1), none⟩, ⟨(some 1), (.alloc [(.v (.int .u8 0)), (.sl 0 [] (some true) .exact)]), none⟩, ⟨none, (.store 2 (.tmp 1) (.tmp 9)), none⟩, ⟨(some 2), (.assign (.tmp 10)), none⟩]) (.seq (.ops [⟨(some 12), (.loadN 2 (.tmp 1)), none⟩, ⟨(some 13), (.call 31 [(.tmp 12)]), none⟩, ⟨(some 11), (.move (.tmp 13)), none⟩, ⟨(some 14), (.extract (.tmp 11) 0), none⟩, ⟨(some 15), (.extract (.tmp 11) 1), none⟩, ⟨(some 3), (.alloc [(.v (.int .u8 0)), (.v (.int .u8 0)), (.v (.string (strB []))), (.v (.string (strB []))), (.v (.string (strB []))), (.sl 0 [] (some true) .exact), (.sl 0 [] (some true) .exact), (.sl 0 [] (some true) .exact), (.sl 0 [] (some true) .exact), (.v (.int .i64 0))]), none⟩, ⟨none, (.store 10 (.tmp 3) (.tmp 14)), none⟩, ⟨(some 4), (.assign (.tmp 15)), none⟩]) (.seq (.ops [⟨(some 16), (.move (.tmp 2)), none⟩, ⟨(some 17), (.bin .eql (.tmp 16) (.const (.int .i64 0))), none⟩, ⟨(some 18), (.move (.tmp 17)), none⟩, ⟨(some 19), (.move (.tmp 4)), (some (18, true))⟩, ⟨(some 20), (.bin .eql (.tmp 19) (.const (.int .i64 0))), (some (18, true))⟩, ⟨(some 21), (.pick (.tmp 18) (.tmp 20) (.const (.bool false))), none⟩, ⟨(some 22), (.move (.tmp 21)), none⟩, ⟨(some 23), (.faddr 2 (.tmp 3)), (some (22, true))⟩, ⟨(some 24), (.load1 (.tmp 23)), (some (22, true))⟩, ⟨(some 25), (.bin .eql (.tmp 24) (.const (.string (strB [97])))), (some (22, true))⟩, ⟨(some 26), (.pick (.tmp 22) (.tmp 25) (.const (.bool false))), none⟩, ⟨(some 27), (.move (.tmp 26)), none⟩, ⟨(some 28), (.faddr 5 (.tmp 3)), (some (27, true))⟩, ⟨(some 29), (.load1 (.tmp 28)), (some (27, true))⟩, ⟨(some 30), (.lenL (.tmp 29)), (some (27, true))⟩, ⟨(some 31), (.bin .eql (.tmp 30) (.const (.int .i64 1))), (some (27, true))⟩, ⟨(some 32), (.pick (.tmp 27) (.tmp 31) (.const (.bool false))), none⟩, ⟨(some 33), (.move (.tmp 32)), none⟩, ⟨(some 34), (.call 29 [(.const (.int .u8 83))]), (some (33, true))⟩, ⟨(some 35), (.bin .eql (.tmp 34) (.const (.int .i64 1))), (some (33, true))⟩, ⟨(some 36), (.pick (.tmp 33) (.tmp 35) (.const (.bool false))), none⟩, ⟨(some 37), (.move (.tmp 36)), none⟩, ⟨(some 38), (.call 29 [(.const (.int .u8 112))]), (some (37, true))⟩, ⟨(some 39), (.bin .eql (.tmp 38) (.const (.int .i64 2))), (some (37, true))⟩, ⟨(some 40), (.pick (.tmp 37) (.tmp 39) (.const (.bool false))), none⟩, ⟨(some 0), (.assign (.tmp 40)), none⟩]) .ret)))), [(.move (.tmp 0))]⟩
theorem k22 : cfun Try.prog 22 = some c22 := by kernel_rfl
def c21 : XFun := ⟨44, (.seq (.ops [⟨(some 1), (.box (.tmp 0)), none⟩, ⟨(some 2), (.assign (.const (.bool false))), none⟩]) (.seq (.seq (.ops [⟨(some 3), (.faddr 5 (.tmp 1)), none⟩, ⟨(some 4), (.load1 (.tmp 3)), none⟩, ⟨(some 5), (.lenL (.tmp 4)), none⟩, ⟨(some 6), (.bin .gtr (.tmp 5) (.const (.int .i64 50))), none⟩, ⟨(some 7), (.move (.tmp 6)), none⟩, ⟨(some 8), (.faddr 6 (.tmp 1)), (some (7, false))⟩, ⟨(some 9), (.load1 (.tmp 8)), (some (7, false))⟩, ⟨(some 10), (.lenL (.tmp 9)), (some (7, false))⟩, ⟨(some 11), (.bin .gtr (.tmp 10) (.const (.int .i64 50))), (some (7, false))⟩, ⟨(some 12), (.pick (.tmp 7) (.const (.bool true)) (.tmp 11)), none⟩, ⟨(some 13), (.move (.tmp 12)), none⟩, ⟨(some 14), (.faddr 7 (.tmp 1)), (some (13, false))⟩, ⟨(some 15), (.load1 (.tmp 14)), (some (13, false))⟩, ⟨(some 16), (.lenL (.tmp 15)), (some (13, false))⟩, ⟨(some 17), (.bin .gtr (.tmp 16) (.const (.int .i64 50))), (some (13, false))⟩, ⟨(some 18), (.pick (.tmp 13) (.const (.bool true)) (.tmp 17)), none⟩, ⟨(some 19), (.move (.tmp 18)), none⟩, ⟨(some 20), (.faddr 8 (.tmp 1)), (some (19, false))⟩, ⟨(some 21), (.load1 (.tmp 20)), (some (19, false))⟩, ⟨(some 22), (.lenL (.tmp 21)), (some (19, false))⟩, ⟨(some 23), (.bin .gtr (.tmp 22) (.const (.int .i64 50))), (some (19, false))⟩, ⟨(some 24), (.pick (.tmp 19) (.const (.bool true)) (.tmp 23)), none⟩]) (.cond (.tmp 24) (.seq (.ops [⟨(some 2), (.assign (.const (.bool false))), none⟩]) .ret) .skip)) (.seq (.seq (.ops [⟨(some 25), (.faddr 8 (.tmp 1)), none⟩, ⟨(some 26), (.load1 (.tmp 25)), none⟩, ⟨(some 27), (.call 58 [(.tmp 26), (.func 59)]), none⟩]) (.cond (.tmp 27) (.seq (.ops [⟨(some 2), (.assign (.const (.bool false))), none⟩]) .ret) .skip)) (.seq (.ops [⟨(some 28), (.faddr 2 (.tmp 1)), none⟩, ⟨(some 29), (.load1 (.tmp 28)), none⟩, ⟨(some 30), (.lenS (.tmp 29)), none⟩, ⟨(some 31), (.bin .leq (.tmp 30) (.const (.int .i64 300))), none⟩, ⟨(some 32), (.move (.tmp 31)), none⟩, ⟨(some 33), (.faddr 3 (.tmp 1)), (some (32, true))⟩, ⟨(some 34), (.load1 (.tmp 33)), (some (32, true))⟩, ⟨(some 35), (.lenS (.tmp 34)), (some (32, true))⟩, ⟨(some 36), (.bin .leq (.tmp 35) (.const (.int .i64 300))), (some (32, true))⟩, ⟨(some 37), (.pick (.tmp 32) (.tmp 36) (.const (.bool false))), none⟩, ⟨(some 38), (.move (.tmp 37)), none⟩, ⟨(some 39), (.faddr 4 (.tmp 1)), (some (38, true))⟩, ⟨(some 40), (.load1 (.tmp 39)), (some (38, true))⟩, ⟨(some 41), (.lenS (.tmp 40)), (some (38, true))⟩, ⟨(some 42), (.bin .leq (.tmp 41) (.const (.int .i64 1000))), (some (38, true))⟩, ⟨(some 43), (.pick (.tmp 38) (.tmp 42) (.const (.bool false))), none⟩, ⟨(some 2), (.assign (.tmp 43)), none⟩]) .ret)))), [(.move (.tmp 2))]⟩
theorem k21 : cfun Try.prog 21 = some c21 := by kernel_rfl
def c59 : XFun := ⟨7, (.seq (.ops [⟨(some 1), (.box (.tmp 0)), none⟩, ⟨(some 2), (.assign (.const (.bool false))), none⟩]) (.seq (.ops [⟨(some 3), (.faddr 1 (.tmp 1)), none⟩, ⟨(some 4), (.load1 (.tmp 3)), none⟩, ⟨(some 5), (.lenL (.tmp 4)), none⟩, ⟨(some 6), (.bin .gtr (.tmp 5) (.const (.int .i64 300))), none⟩, ⟨(some 2), (.assign (.tmp 6)), none⟩]) .ret)), [(.move (.tmp 2))]⟩
theorem k59 : cfun Try.prog 59 = some c59 := by kernel_rfl
end Go.Proofs.Ytcaimoidnppnbaa.Ax
/- The contracts of what package wire reads, and of what the document reads, over values without memory. -/
namespace Go.Proofs.Ytcaimoidnppnbaa.Ax
open Go.RowKit Go By Nm Sc Dg
set_option linter.unusedSimpArgs false
set_option linter.unusedVariables false
set_option maxRecDepth 10000

/-- What is read again and again: v is read where a scan stands, and leads to s. -/
def readR {α : Type} (v : Sta → α) (s : Sta → Sta) : Nat → Sta → List α × Sta
  | 0, st => ([], st)
  | k + 1, st => (v st :: (readR v s k (s st)).1, (readR v s k (s st)).2)
section
variable {α : Type} (v : Sta → α) (s : Sta → Sta)
theorem readR_next : ∀ (k : Nat) (st : Sta), readR v s (k + 1) st = ((readR v s k st).1 ++ [v (readR v s k st).2], s (readR v s k st).2)
  | 0, st => rfl
  | k + 1, st => by
    have ih := readR_next k (s st)
    rw [readR, ih]
    simp [readR]
@[simp] theorem readR_len : ∀ (k : Nat) (st : Sta), (readR v s k st).1.length = k
  | 0, _ => rfl
  | k + 1, st => by simp [readR, readR_len k]
theorem readR_none (hs : s none = none) : ∀ (k : Nat), (readR v s k none).2 = none
  | 0 => rfl
  | k + 1 => by simp [readR, hs, readR_none hs k]
theorem readR_bad (hs : s none = none) {k n : Nat} (hk : k ≤ n) {st : Sta} (h : (readR v s k st).2 = none) : (readR v s n st).2 = none := by
  induction n with
  | zero => have : k = 0 := by omega
            subst this; exact h
  | succ n ih =>
    by_cases e : k = n + 1
    · subst e; exact h
    · rw [readR_next, ih (by omega)]; exact hs
theorem readR_lenS (hs : ∀ st, He.lenS (s st) ≤ He.lenS st) : ∀ (k : Nat) (st : Sta), He.lenS (readR v s k st).2 ≤ He.lenS st
  | 0, st => Nat.le_refl _
  | k + 1, st => by
    have := readR_lenS hs k (s st)
    have := hs st
    simp only [readR]; omega
end
/-- A list that is read: how many, and each; none, if anything could not be had. -/
def listV {α : Type} (v : Sta → α) (s : Sta → Sta) (st : Sta) : List α :=
  if (readR v s (numV st 2).toNat (numS st 2)).2 = none then [] else (readR v s (numV st 2).toNat (numS st 2)).1
def listS {α : Type} (v : Sta → α) (s : Sta → Sta) (st : Sta) : Sta := (readR v s (numV st 2).toNat (numS st 2)).2
theorem num2_range (st : Sta) : 0 ≤ numV st 2 ∧ numV st 2 < 65536 := by
  unfold numV
  split
  · split
    · exact ⟨(getI_range _ 0 2 (by omega)).1, by have := (getI_range (by assumption) 0 2 (by omega)).2; simpa using this⟩
    · omega
  · omega

theorem wreadI_c (v : Sta → Int) (s : Sta → Sta) (hs : s none = none) (g : FuncId) (first cap : List AV) (i : Nat) (h : List (List AV)) (st : Sta) (hi : h[i]? = some (scC st)) (hf : ∀ c ∈ first, c.idOf = none) (hcap : ∀ c ∈ cap, c.idOf = none) (hlf : ltL h.length first) (hlc : ltL h.length cap)
    (hg : ∀ st' h', Contract Try.prog g (first ++ cap) (h.set i (scC st') ++ h') (.v (.int .i64 (v st'))) (h.set i (scC (s st')) ++ h') [i]) :
    Contract Try.prog 158 [.agg [.box i 0], .fn (.func g) first cap] h (.sl 1 (enc intC (listV v s st)) none .no) (h.set i (scC (listS v s st))) [i] := by
  refine contract_of k158 mixed (by simp [c158]) fun hh hargs => ?_
  simp at hargs
  have hil := heap_lt hi
  have hi1 : i < h.length + 1 := by omega
  obtain ⟨hn0, hn1⟩ := num2_range st
  obtain ⟨n, hn⟩ : ∃ n : Nat, numV st 2 = n := ⟨(numV st 2).toNat, by omega⟩
  have hle : leqH 0 (h.set i (scC (numS st 2))) (h.set i (scC (numS st 2))) := leqH_refl _ _
  simp [c158]
  refine xcall_self (by simp) (num_c i _ st (by simpa [List.getElem?_append_left hil] using hi) 2) ?_
  simp [app_set hil, hn]
  refine xloop_ok (D := Nat) (fun j => ⟨[(1, .fn (.func g) first cap), (2, .box h.length 0), (8, .v (.int .i64 n)), (9, .v (.int .i64 j))], [(5, .sl 1 (enc intC (readR v s j (numS st 2)).1) none (.own (.slot 5)))], h.set i (scC (readR v s j (numS st 2)).2) ++ [[.box i 0]], [i]⟩)
    (fun j => j ≤ n ∧ (j = 0 ∨ (readR v s j (numS st 2)).2 ≠ none)) (fun j => n - j) 0 (by simp) ?_ ?_
  · simp [Leq, hh, hil, hlf, hlc, readR, ltL_mono (Nat.le_add_right _ 1) hlf, ltL_mono (Nat.le_add_right _ 1) hlc, scC_lt, hi1]
  · rintro j ⟨hj, hj2⟩
    by_cases hlt : j < n
    · have hlt' : (j : Int) < n := by omega
      have hw : IntKind.i64.wrap ((j : Int) + 1) = (j : Int) + 1 := wrap64 (by omega) (by omega)
      have hx := readR_next v s j (numS st 2)
      have hq : ∀ y ∈ first ++ cap, y.idOf = none := fun y hy => (List.mem_append.1 hy).elim (hf y) (hcap y)
      have hb : (j + 1) * 8 ≤ 140737488355328 := by omega
      have hb2 : (j + 1) ≤ 140737488355328 := by omega
      have h5 : intC (v (readR v s j (numS st 2)).2) = [.v (.int .i64 (v (readR v s j (numS st 2)).2))] := rfl
      simp [hlt']
      refine ⟨by simpa [or_imp, forall_and] using ⟨hf, hcap⟩, xcall_self hq (hg _ _) ?_⟩
      simp [idsOf_none hq, hw, hb, hb2]
      refine xcall_self (by simp) (bad_c i _ (s (readR v s j (numS st 2)).2) (app_set_get hil _ _)) ?_
      have hx1 : (readR v s (j + 1) (numS st 2)).1 = (readR v s j (numS st 2)).1 ++ [v (readR v s j (numS st 2)).2] := by rw [hx]
      have hx2 : (readR v s (j + 1) (numS st 2)).2 = s (readR v s j (numS st 2)).2 := by rw [hx]
      cases he : s (readR v s j (numS st 2)).2 with
      | none =>
        have h6 := readR_bad v s hs (k := j + 1) (n := n) (by omega) (st := numS st 2) (by rw [hx2, he])
        simp [badB, hh, hil, listV, listS, hn, h6]
      | some xs =>
        simp [badB, hw]
        refine ⟨j + 1, ⟨by omega, by rw [hx2, he]; simp⟩, by omega, ?_⟩
        simp [Leq, hh, hil, hx1, hx2, he, h5, ltL_mono (Nat.le_add_right _ 1) hlf, ltL_mono (Nat.le_add_right _ 1) hlc, scC_lt, hi1]
    · have hlt' : ¬ (j : Int) < n := by omega
      have : j = n := by omega
      subst this
      have h6 : listV v s st = (readR v s j (numS st 2)).1 ∧ listS v s st = (readR v s j (numS st 2)).2 := by
        unfold listV listS
        rw [hn]
        simp only [Int.toNat_natCast]
        refine ⟨?_, trivial⟩
        rcases hj2 with rfl | h7
        · by_cases h8 : (readR v s 0 (numS st 2)).2 = none
          · rw [if_pos h8]; rfl
          · rw [if_neg h8]
        · rw [if_neg h7]
      simp [hh, hil, h6, scC]
theorem wreadC_c (v : Sta → Cl) (s : Sta → Sta) (hs : s none = none) (g : FuncId) (first cap : List AV) (i : Nat) (h : List (List AV)) (st : Sta) (hi : h[i]? = some (scC st)) (hf : ∀ c ∈ first, c.idOf = none) (hcap : ∀ c ∈ cap, c.idOf = none) (hlf : ltL h.length first) (hlc : ltL h.length cap)
    (hg : ∀ st' h', Contract Try.prog g (first ++ cap) (h.set i (scC st') ++ h') (.agg (cellC (v st'))) (h.set i (scC (s st')) ++ h') [i]) :
    Contract Try.prog 160 [.agg [.box i 0], .fn (.func g) first cap] h (.sl 2 (enc cellC (listV v s st)) none .no) (h.set i (scC (listS v s st))) [i] := by
  refine contract_of k160 mixed (by simp [c160]) fun hh hargs => ?_
  simp at hargs
  have hil := heap_lt hi
  have hi1 : i < h.length + 1 := by omega
  obtain ⟨hn0, hn1⟩ := num2_range st
  obtain ⟨n, hn⟩ : ∃ n : Nat, numV st 2 = n := ⟨(numV st 2).toNat, by omega⟩
  have hle : leqH 0 (h.set i (scC (numS st 2))) (h.set i (scC (numS st 2))) := leqH_refl _ _
  simp [c160]
  refine xcall_self (by simp) (num_c i _ st (by simpa [List.getElem?_append_left hil] using hi) 2) ?_
  simp [app_set hil, hn]
  refine xloop_ok (D := Nat) (fun j => ⟨[(1, .fn (.func g) first cap), (2, .box h.length 0), (8, .v (.int .i64 n)), (9, .v (.int .i64 j))], [(5, .sl 2 (enc cellC (readR v s j (numS st 2)).1) none (.own (.slot 5)))], h.set i (scC (readR v s j (numS st 2)).2) ++ [[.box i 0]], [i]⟩)
    (fun j => j ≤ n ∧ (j = 0 ∨ (readR v s j (numS st 2)).2 ≠ none)) (fun j => n - j) 0 (by simp) ?_ ?_
  · simp [Leq, hh, hil, hlf, hlc, readR, ltL_mono (Nat.le_add_right _ 1) hlf, ltL_mono (Nat.le_add_right _ 1) hlc, scC_lt, hi1]
  · rintro j ⟨hj, hj2⟩
    by_cases hlt : j < n
    · have hlt' : (j : Int) < n := by omega
      have hw : IntKind.i64.wrap ((j : Int) + 1) = (j : Int) + 1 := wrap64 (by omega) (by omega)
      have hx := readR_next v s j (numS st 2)
      have hq : ∀ y ∈ first ++ cap, y.idOf = none := fun y hy => (List.mem_append.1 hy).elim (hf y) (hcap y)
      have hb : (j + 1) * 32 ≤ 140737488355328 := by omega
      have hb2 : (j + 1) ≤ 140737488355328 := by omega
      simp [hlt']
      refine ⟨by simpa [or_imp, forall_and] using ⟨hf, hcap⟩, xcall_self hq (hg _ _) ?_⟩
      simp [idsOf_none hq, hw, hb, hb2]
      refine xcall_self (by simp) (bad_c i _ (s (readR v s j (numS st 2)).2) (app_set_get hil _ _)) ?_
      have hx1 : (readR v s (j + 1) (numS st 2)).1 = (readR v s j (numS st 2)).1 ++ [v (readR v s j (numS st 2)).2] := by rw [hx]
      have hx2 : (readR v s (j + 1) (numS st 2)).2 = s (readR v s j (numS st 2)).2 := by rw [hx]
      cases he : s (readR v s j (numS st 2)).2 with
      | none =>
        have h6 := readR_bad v s hs (k := j + 1) (n := n) (by omega) (st := numS st 2) (by rw [hx2, he])
        simp [badB, hh, hil, listV, listS, hn, h6]
      | some xs =>
        simp [badB, hw]
        refine ⟨j + 1, ⟨by omega, by rw [hx2, he]; simp⟩, by omega, ?_⟩
        simp [Leq, hh, hil, hx1, hx2, he, ltL_mono (Nat.le_add_right _ 1) hlf, ltL_mono (Nat.le_add_right _ 1) hlc, scC_lt, hi1]
    · have hlt' : ¬ (j : Int) < n := by omega
      have : j = n := by omega
      subst this
      have h6 : listV v s st = (readR v s j (numS st 2)).1 ∧ listS v s st = (readR v s j (numS st 2)).2 := by
        unfold listV listS
        rw [hn]
        simp only [Int.toNat_natCast]
        refine ⟨?_, trivial⟩
        rcases hj2 with rfl | h7
        · by_cases h8 : (readR v s 0 (numS st 2)).2 = none
          · rw [if_pos h8]; rfl
          · rw [if_neg h8]
        · rw [if_neg h7]
      simp [hh, hil, h6, scC]

theorem wnumr1_c (a b : Nat) (h : List (List AV)) (i : Nat) (size : Int) (st : Sta) (ha : h[a]? = some [.box i 0]) (hb : h[b]? = some [.v (.int .i64 size)]) (hi : h[i]? = some (scC st)) :
    Contract Try.prog 159 [.box a 0, .box b 0] h (.v (.int .i64 (numV st size))) (h.set i (scC (numS st size))) [i] := by
  refine contract_of k159 mixed (by simp [c159]) fun hh hargs => ?_
  simp [c159, ha, hb]
  refine xcall_self (by simp) (num_c i h st hi size) ?_
  simp [hh, scC_lt]
theorem wnumr_c (i : Nat) (h : List (List AV)) (st : Sta) (hi : h[i]? = some (scC st)) (size : Int) :
    Contract Try.prog 124 [.agg [.box i 0], .v (.int .i64 size)] h (.sl 1 (enc intC (listV (numV · size) (numS · size) st)) none .no) (h.set i (scC (listS (numV · size) (numS · size) st))) [i] := by
  have hil := heap_lt hi
  refine contract_of k124 mixed (by simp [c124]) fun hh hargs => ?_
  simp [c124]
  refine xcall_self (by simp) (wreadI_c (numV · size) (numS · size) rfl _ [] [.box h.length 0, .box (h.length + 1) 0] i _ st (app_get hi _) (by simp) (by simp) (by simp) (by simp) fun st' h' => ?_) ?_
  · have := wnumr1_c h.length (h.length + 1) (h.set i (scC st') ++ ([[.box i 0], [.v (.int .i64 size)]] ++ h')) i size st' (by simp) (by simp) (app_set_get hil _ _)
    rw [app_set_set hil, ← List.append_assoc, ← List.append_assoc] at this
    simpa [app_set hil] using this
  · simp [hh, app_set hil, scC_lt]
/-- A cell that is read. -/
def cellV (st : Sta) : Cl := if numV st 4 = 4294967295 then (true, []) else (false, takeL (numS st 4) (numV st 4))
def cellS (st : Sta) : Sta := if numV st 4 = 4294967295 then numS st 4 else takeS (numS st 4) (numV st 4)
theorem cellS_none : cellS none = none := by simp [cellS, numS, numV, takeS]
theorem wcellr_c (i : Nat) (h : List (List AV)) (st : Sta) (hi : h[i]? = some (scC st)) :
    Contract Try.prog 161 [.agg [.box i 0]] h (.agg (cellC (cellV st))) (h.set i (scC (cellS st))) [i] := by
  have hil := heap_lt hi
  refine contract_of k161 mixed (by simp [c161]) fun hh hargs => ?_
  simp [c161]
  refine xcall_self (by simp) (num_c i _ st (app_get hi _) 4) ?_
  by_cases hn : numV st 4 = 4294967295
  · have e1 : cellV st = (true, []) := if_pos hn
    have e2 : cellS st = numS st 4 := if_pos hn
    rw [e1, e2]
    simp [hn, hh, app_set hil, scC_lt, cellC]
  · have e1 : cellV st = (false, takeL (numS st 4) (numV st 4)) := if_neg hn
    have e2 : cellS st = takeS (numS st 4) (numV st 4) := if_neg hn
    rw [e1, e2]
    simp [hn, app_set hil]
    refine xcall_self (by simp) (take_c i _ (numS st 4) (app_set_get hil _ _) _) ?_
    simp [hh, app_set hil, app_set_set hil, scC_lt, cellC]
theorem wcellsr_c (i : Nat) (h : List (List AV)) (st : Sta) (hi : h[i]? = some (scC st)) :
    Contract Try.prog 125 [.agg [.box i 0]] h (.sl 2 (enc cellC (listV cellV cellS st)) none .no) (h.set i (scC (listS cellV cellS st))) [i] := by
  have hil := heap_lt hi
  refine contract_of k125 mixed (by simp [c125]) fun hh hargs => ?_
  simp [c125]
  refine xcall_self (by simp) (wreadC_c cellV cellS cellS_none _ [.agg [.box i 0]] [] i _ st (app_get hi _) (by simp) (by simp) (by simp; omega) (by simp) fun st' h' => ?_) ?_
  · have := wcellr_c i (h.set i (scC st') ++ ([[.box i 0]] ++ h')) st' (app_set_get hil _ _)
    rw [app_set_set hil, ← List.append_assoc, ← List.append_assoc] at this
    simpa [app_set hil] using this
  · simp [hh, app_set hil, scC_lt]

/-! ### The document's -/
/-- What is read as long as all could be had. -/
def readU {α : Type} (v : Sta → α) (s : Sta → Sta) : Nat → Sta → List α
  | 0, _ => []
  | k + 1, st => if st = none then [] else v st :: readU v s k (s st)
theorem readU_at {α : Type} (v : Sta → α) (s : Sta → Sta) : ∀ (n j : Nat) (st : Sta), j ≤ n → (∀ t, t < j → (readR v s t st).2 ≠ none) → (j = n ∨ (readR v s j st).2 = none) → readU v s n st = (readR v s j st).1
  | 0, j, st, h1, _, _ => by
    have : j = 0 := by omega
    subst this; rfl
  | n + 1, 0, st, _, _, h3 => by
    rcases h3 with h3 | h3
    · omega
    · have : st = none := h3
      rw [readU, if_pos this]; rfl
  | n + 1, j + 1, st, h1, h2, h3 => by
    have h4 : st ≠ none := h2 0 (by omega)
    have h5 : j = n ∨ (readR v s j (s st)).2 = none := h3.imp (by omega) id
    rw [readU, if_neg h4, readU_at v s n j (s st) (by omega) (fun t ht => h2 (t + 1) (by omega)) h5]
    rfl
theorem readU_len {α : Type} (v : Sta → α) (s : Sta → Sta) : ∀ (n : Nat) (st : Sta), (readU v s n st).length ≤ n
  | 0, _ => Nat.le_refl _
  | n + 1, st => by
    unfold readU; split
    · simp
    · have := readU_len v s n (s st); simp; omega
/-- A list that the document reads. -/
def listU {α : Type} (v : Sta → α) (s : Sta → Sta) (st : Sta) : List α := readU v s (numV st 2).toNat (numS st 2)
theorem listU_eq {α : Type} (v : Sta → α) (s : Sta → Sta) (hs : s none = none) (st : Sta) (h : listS v s st ≠ none) : listU v s st = listV v s st := by
  unfold listV listU
  unfold listS at h
  rw [if_neg h]
  exact readU_at v s _ _ _ (Nat.le_refl _) (fun t ht hh => h (readR_bad v s hs (by omega) hh)) (.inl rfl)
/-- The document's scan goes on so, again and again. -/
def rsN (q : Rs → Rs) : Nat → Rs → Rs
  | 0, r => r
  | k + 1, r => rsN q k (q r)
theorem rsN_next (q : Rs → Rs) : ∀ (k : Nat) (r : Rs), rsN q (k + 1) r = q (rsN q k r)
  | 0, _ => rfl
  | k + 1, r => by rw [rsN, rsN_next q k]; rfl
theorem rsN_abs {α : Type} (v : Sta → α) {s : Sta → Sta} {q : Rs → Rs} (hq : ∀ r, rabs (q r) = s (rabs r)) : ∀ (k : Nat) (r : Rs), rabs (rsN q k r) = (readR v s k (rabs r)).2
  | 0, _ => rfl
  | k + 1, r => by rw [rsN, rsN_abs v hq k, hq]; rfl
theorem rsN_bad {q : Rs → Rs} (hb : ∀ r, rabs r = none → q r = r) : ∀ (k : Nat) {r : Rs}, rabs r = none → rsN q k r = r
  | 0, _, _ => rfl
  | k + 1, r, h => by rw [rsN, hb r h, rsN_bad hb k h]
theorem rsN_add (q : Rs → Rs) : ∀ (k j : Nat) (r : Rs), rsN q (j + k) r = rsN q k (rsN q j r)
  | k, 0, r => by rw [Nat.zero_add]; rfl
  | k, j + 1, r => by rw [Nat.add_right_comm, rsN, rsN_add q k j]; rfl
def listRs (q : Rs → Rs) (r : Rs) : Rs := rsN q (numV (rabs r) 2).toNat (rstep (numS · 2) r)
theorem listRs_abs {α : Type} (v : Sta → α) {s : Sta → Sta} {q : Rs → Rs} (hq : ∀ r, rabs (q r) = s (rabs r)) (r : Rs) : rabs (listRs q r) = listS v s (rabs r) := by
  unfold listRs listS
  rw [rsN_abs v hq, rabs_step]
theorem listRs_bad {q : Rs → Rs} (hb : ∀ r, rabs r = none → q r = r) {r : Rs} (h : rabs r = none) : listRs q r = r := by
  unfold listRs
  rw [rstep_bad rfl h, rsN_bad hb _ h]

section
variable {α : Type} (v : Sta → α) (s : Sta → Sta) (q : Rs → Rs) (hq : ∀ r, rabs (q r) = s (rabs r)) (hb : ∀ r, rabs r = none → q r = r) (r : Rs) (n : Nat) (hn : numV (rabs r) 2 = n)
include hq hn
/-- Where the loop ends. -/
theorem list_end (hb : ∀ r, rabs r = none → q r = r) (j : Nat) (hj : j ≤ n) (h1 : ∀ t, t < j → rabs (rsN q t (rstep (numS · 2) r)) ≠ none) (h2 : j = n ∨ rabs (rsN q j (rstep (numS · 2) r)) = none) :
    listU v s (rabs r) = (readR v s j (numS (rabs r) 2)).1 ∧ listRs q r = rsN q j (rstep (numS · 2) r) := by
  constructor
  · unfold listU
    rw [hn, Int.toNat_natCast]
    refine readU_at v s n j _ hj (fun t ht => ?_) (h2.imp id fun h => ?_)
    · rw [← rabs_step (numS · 2), ← rsN_abs v hq]; exact h1 t ht
    · rw [← rabs_step (numS · 2), ← rsN_abs v hq]; exact h
  · unfold listRs
    rw [hn, Int.toNat_natCast]
    rcases h2 with rfl | h2
    · rfl
    · obtain ⟨k, rfl⟩ : ∃ k, n = j + k := ⟨n - j, by omega⟩
      rw [rsN_add, rsN_bad hb _ h2]
end
theorem rabs_none {r : Rs} (h : rabs r = none) : r.2 = true := by
  obtain ⟨b, no⟩ := r
  cases no with
  | true => rfl
  | false => cases h
theorem rabs_some {r : Rs} (h : rabs r ≠ none) : r.2 = false := by
  obtain ⟨b, no⟩ := r
  cases no with
  | true => exact absurd rfl h
  | false => rfl
theorem rsC_eq (r : Rs) : rsC r = [.sl 1 (bytesE r.1) none .no, .v (.bool r.2)] := rfl

theorem nums_c (i : Nat) (h : List (List AV)) (r : Rs) (hi : h[i]? = some (rsC r)) (size : Int) :
    Contract Try.prog 126 [.box i 0, .v (.int .i64 size)] h (.sl 1 (enc intC (listU (numV · size) (numS · size) (rabs r))) none .no) (h.set i (rsC (listRs (rstep (numS · size)) r))) [i] := by
  have hil := heap_lt hi
  obtain ⟨hn0, hn1⟩ := num2_range (rabs r)
  obtain ⟨n, hn⟩ : ∃ n : Nat, numV (rabs r) 2 = n := ⟨(numV (rabs r) 2).toNat, by omega⟩
  refine contract_of k126 mixed (by simp [c126]) fun hh hargs => ?_
  simp at hargs
  simp [c126]
  refine xcall_self (by simp) (rnum_c i _ r hi 2) ?_
  simp [hn]
  refine xloop_ok (D := Nat) (fun j => ⟨[(0, .box i 0), (1, .v (.int .i64 size)), (6, .v (.int .i64 ((n : Int) - j)))], [(5, .sl 1 (enc intC (readR (numV · size) (numS · size) j (numS (rabs r) 2)).1) none (.own (.slot 5)))], h.set i (rsC (rsN (rstep (numS · size)) j (rstep (numS · 2) r))), [i]⟩)
    (fun j => j ≤ n ∧ ∀ t, t < j → rabs (rsN (rstep (numS · size)) t (rstep (numS · 2) r)) ≠ none) (fun j => n - j) 0 (by simp) ?_ ?_
  · simp [Leq, hh, hil, readR, rsN, rsC_lt]
  · rintro j ⟨hj, hj2⟩
    have hg := set_get hi (rsC (rsN (rstep (numS · size)) j (rstep (numS · 2) r)))
    have hend := list_end (numV · size) (numS · size) (rstep (numS · size)) (fun r => rabs_step _ r) r n hn (fun r h => rstep_bad rfl h) j hj hj2
    by_cases hlt : j < n
    · have hlt' : (0 : Int) < n - j := by omega
      by_cases hbad : rabs (rsN (rstep (numS · size)) j (rstep (numS · 2) r)) = none
      · obtain ⟨e1, e2⟩ := hend (.inr hbad)
        have e3 := rabs_none hbad
        have hg' := hg
        conv at hg' => rhs; rw [rsC_eq]
        rw [e1, e2]
        simp [hlt', hlt, hg', e3, hh, hil, rsC_lt, rsC_eq]
      · have e3 := rabs_some hbad
        have hg' := hg
        conv at hg' => rhs; rw [rsC_eq]
        have hw : IntKind.i64.wrap ((n : Int) - j - 1) = (n : Int) - (j + 1 : Nat) := by rw [wrap64 (by omega) (by omega)]; omega
        have hx := readR_next (numV · size) (numS · size) j (numS (rabs r) 2)
        have hy := rsN_next (rstep (numS · size)) j (rstep (numS · 2) r)
        have hb1 : (j + 1) * 8 ≤ 140737488355328 := by omega
        have hb2 : (j + 1) ≤ 140737488355328 := by omega
        have habs : rabs (rsN (rstep (numS · size)) j (rstep (numS · 2) r)) = (readR (numV · size) (numS · size) j (numS (rabs r) 2)).2 := by
          rw [rsN_abs (numV · size) (fun r => rabs_step _ r), rabs_step]
        simp [hlt', hlt, hg', e3]
        refine xcall_self (by simp) (rnum_c i _ _ hg size) ?_
        simp [hw, hb1, hb2]
        refine ⟨j + 1, ⟨by omega, fun t ht => ?_⟩, by omega, ?_⟩
        · by_cases htj : t < j
          · exact hj2 t htj
          · have : t = j := by omega
            subst this; exact hbad
        · simp [Leq, hh, hil, hx, hy, habs, rsC_lt, intC]
    · have hlt' : ¬ (0 : Int) < n - j := by omega
      obtain ⟨e1, e2⟩ := hend (.inl (by omega))
      rw [e1, e2]
      simp [hlt', hlt, hh, hil, rsC_lt]
theorem numS_len (st : Sta) (n : Int) : He.lenS (numS st n) ≤ He.lenS st := by
  unfold numS; split
  · split
    · simp [He.lenS]
    · simp [He.lenS]
  · exact Nat.le_refl _
theorem takeS_len (st : Sta) (n : Int) : He.lenS (takeS st n) ≤ He.lenS st := by
  unfold takeS; split
  · split
    · simp [He.lenS]
    · simp [He.lenS]
  · exact Nat.le_refl _
theorem cellS_len (st : Sta) : He.lenS (cellS st) ≤ He.lenS st := by
  unfold cellS; split
  · exact numS_len _ _
  · exact Nat.le_trans (takeS_len _ _) (numS_len _ _)
/-- The document's scan behind a cell. -/
def rcellQ (r : Rs) : Rs := if numV (rabs r) 4 = 4294967295 then rstep (numS · 4) r else rstep (takeS · (numV (rabs r) 4)) (rstep (numS · 4) r)
theorem rcell_abs (r : Rs) : rabs (rcellQ r) = cellS (rabs r) := by
  unfold rcellQ cellS
  split
  · rw [rabs_step]
  · rw [rabs_step, rabs_step]
theorem rcell_bad {r : Rs} (h : rabs r = none) : rcellQ r = r := by
  unfold rcellQ
  split
  · exact rstep_bad rfl h
  · rw [rstep_bad (f := (numS · 4)) rfl h, rstep_bad rfl h]
theorem row_c (i : Nat) (h : List (List AV)) (r : Rs) (hi : h[i]? = some (rsC r)) (hl : He.lenS (rabs r) ≤ 140737488355328) :
    Contract Try.prog 127 [.box i 0] h (.sl 2 (enc cellC (listU cellV cellS (rabs r))) none .no) (h.set i (rsC (listRs rcellQ r))) [i] := by
  have hil := heap_lt hi
  obtain ⟨hn0, hn1⟩ := num2_range (rabs r)
  obtain ⟨n, hn⟩ : ∃ n : Nat, numV (rabs r) 2 = n := ⟨(numV (rabs r) 2).toNat, by omega⟩
  refine contract_of k127 mixed (by simp [c127]) fun hh hargs => ?_
  simp at hargs
  simp [c127]
  refine xcall_self (by simp) (rnum_c i _ r hi 2) ?_
  simp [hn]
  refine xloop_ok (D := Nat) (fun j => ⟨[(0, .box i 0), (4, .v (.int .i64 ((n : Int) - j)))], [(3, .sl 2 (enc cellC (readR cellV cellS j (numS (rabs r) 2)).1) none (.own (.slot 3)))], h.set i (rsC (rsN rcellQ j (rstep (numS · 2) r))), [i]⟩)
    (fun j => j ≤ n ∧ ∀ t, t < j → rabs (rsN rcellQ t (rstep (numS · 2) r)) ≠ none) (fun j => n - j) 0 (by simp) ?_ ?_
  · simp [Leq, hh, hil, readR, rsN, rsC_lt]
  · rintro j ⟨hj, hj2⟩
    have hg := set_get hi (rsC (rsN rcellQ j (rstep (numS · 2) r)))
    have hend := list_end cellV cellS rcellQ rcell_abs r n hn (fun r h => rcell_bad h) j hj hj2
    by_cases hlt : j < n
    · have hlt' : (0 : Int) < n - j := by omega
      by_cases hbad : rabs (rsN rcellQ j (rstep (numS · 2) r)) = none
      · obtain ⟨e1, e2⟩ := hend (.inr hbad)
        have e3 := rabs_none hbad
        have hg' := hg
        conv at hg' => rhs; rw [rsC_eq]
        rw [e1, e2]
        simp [hlt', hlt, hg', e3, hh, hil, rsC_lt, rsC_eq]
      · have e3 := rabs_some hbad
        have hg' := hg
        conv at hg' => rhs; rw [rsC_eq]
        have hw : IntKind.i64.wrap ((n : Int) - j - 1) = (n : Int) - (j + 1 : Nat) := by rw [wrap64 (by omega) (by omega)]; omega
        have hx := readR_next cellV cellS j (numS (rabs r) 2)
        have hy := rsN_next rcellQ j (rstep (numS · 2) r)
        have hb1 : (j + 1) * 32 ≤ 140737488355328 := by omega
        have hb2 : (j + 1) ≤ 140737488355328 := by omega
        have habs : rabs (rsN rcellQ j (rstep (numS · 2) r)) = (readR cellV cellS j (numS (rabs r) 2)).2 := by
          rw [rsN_abs cellV rcell_abs, rabs_step]
        simp [hlt', hlt, hg', e3]
        refine xcall_self (by simp) (rnum_c i _ _ hg 4) ?_
        have hlen : He.lenS (rabs (rsN rcellQ j (rstep (numS · 2) r))) ≤ 140737488355328 := by
          rw [habs]
          have := readR_lenS cellV cellS cellS_len j (numS (rabs r) 2)
          have := numS_len (rabs r) 2
          omega
        generalize hR : rsN rcellQ j (rstep (numS · 2) r) = R at *
        by_cases hnul : numV (rabs R) 4 = 4294967295
        · have q1 : rcellQ R = rstep (numS · 4) R := if_pos hnul
          have q2 : cellV (rabs R) = (true, []) := if_pos hnul
          simp [hnul, hw, hb1, hb2]
          refine ⟨j + 1, ⟨by omega, fun t ht => ?_⟩, by omega, ?_⟩
          · by_cases htj : t < j
            · exact hj2 t htj
            · have : t = j := by omega
              subst this; rw [hR]; exact hbad
          · simp [Leq, hh, hil, hx, hy, ← habs, q1, q2, rsC_lt, cellC]
        · have q1 : rcellQ R = rstep (takeS · (numV (rabs R) 4)) (rstep (numS · 4) R) := if_neg hnul
          have q2 : cellV (rabs R) = (false, takeL (numS (rabs R) 4) (numV (rabs R) 4)) := if_neg hnul
          simp [hnul]
          refine xcall_self (by simp) (rtake_c i _ (rstep (numS · 4) R) (set_get hi _) _ (by rw [rabs_step]; have := numS_len (rabs R) 4; omega)) ?_
          simp [hw, hb1, hb2, rabs_step]
          refine ⟨j + 1, ⟨by omega, fun t ht => ?_⟩, by omega, ?_⟩
          · by_cases htj : t < j
            · exact hj2 t htj
            · have : t = j := by omega
              subst this; rw [hR]; exact hbad
          · simp [Leq, hh, hil, hx, hy, ← habs, q1, q2, rsC_lt, cellC]
    · have hlt' : ¬ (0 : Int) < n - j := by omega
      obtain ⟨e1, e2⟩ := hend (.inl (by omega))
      rw [e1, e2]
      simp [hlt', hlt, hh, hil, rsC_lt]
end Go.Proofs.Ytcaimoidnppnbaa.Ax
namespace Go.Proofs.Ytcaimoidnppnbaa.Ax
open Go.RowKit Go By Nm Sc Dg
open He (textL)
set_option linter.unusedSimpArgs false
set_option linter.unusedVariables false

/-! ### Numbers -/
theorem getI_pre (xs ys : List UInt8) (i : Nat) : ∀ j, i + j ≤ xs.length → getI (xs ++ ys) i j = getI xs i j
  | 0, _ => rfl
  | j + 1, h => by rw [getI, getI, getI_pre xs ys i j (by omega), byteAt_append_left xs ys _ (by omega)]
def Sz (size : Nat) : Prop := size = 1 ∨ size = 2 ∨ size = 4
theorem Sz.szB {size : Nat} (h : Sz size) : szB (size : Int) = true := by rcases h with rfl | rfl | rfl <;> rfl
theorem Sz.pow {size : Nat} (h : Sz size) : powI (size : Int) = 256 ^ size := by rcases h with rfl | rfl | rfl <;> rfl
theorem right_iff {n : Int} {size : Nat} (h : Sz size) : rightB n size = true ↔ -(256 ^ size / 2) ≤ n ∧ n < 256 ^ size := by
  unfold rightB; rw [h.szB, h.pow]; simp
theorem right_of_range {n : Int} {size : Nat} (h : Sz size) (h0 : 0 ≤ n) (h1 : n < 256 ^ size) : rightB n size = true := (right_iff h).2 ⟨by rcases h with rfl | rfl | rfl <;> omega, h1⟩
theorem getI_putTo (n : Int) {size : Nat} (h : Sz size) : getI (putTo n size size) 0 size = n % 256 ^ size := by
  rcases h with rfl | rfl | rfl
  · simp [getI, putTo, byteAt, putByte_val]
  · simp [getI, putTo, byteAt, putByte_val]; omega
  · simp [getI, putTo, byteAt, putByte_val]; omega
theorem putL_right {n : Int} {size : Nat} (hr : rightB n size = true) : putL [] n size = putTo n size size := by
  unfold putL; rw [if_pos hr]; simp
theorem num_put {n : Int} {size : Nat} (h : Sz size) (r : List UInt8) (hr : rightB n size = true) : numV (some (putL [] n size ++ r)) size = n % 256 ^ size ∧ numS (some (putL [] n size ++ r)) size = some r := by
  rw [putL_right hr]
  have h4 : (putTo n size size).length = size := putTo_length _ _ _
  have he : getErr (putTo n size size ++ r).length 0 size = 0 := getErr_ok (size := size) (i := 0) h.szB (by rw [List.length_append, h4]; omega)
  simp only [numV, numS]
  rw [if_pos he, if_pos he]
  constructor
  · show getI (putTo n size size ++ r) 0 size = _
    rw [getI_pre _ _ _ _ (by rw [h4]; omega), getI_putTo n h]
  · show some ((putTo n size size ++ r).drop size) = some r
    rw [List.drop_append_of_le_length (by rw [h4]; omega), List.drop_of_length_le (by rw [h4]; omega)]; rfl
theorem putByte_of (x : UInt8) (n : Int) (k : Nat) (h : n / 256 ^ k % 256 = (x.toNat : Int)) : putByte n k = x := by
  unfold putByte
  rw [h, Int.toNat_natCast]
  simp
theorem putTo_getI {size : Nat} (h : Sz size) (xs : List UInt8) (hl : xs.length = size) : putTo (getI xs 0 size) size size = xs := by
  rcases h with rfl | rfl | rfl
  · match xs, hl with
    | [a], _ =>
      have ha := a.toNat_lt
      have h0 := putByte_of a (a.toNat : Int) 0 (by omega)
      have e : getI [a] 0 1 = (a.toNat : Int) := by simp [getI, byteAt]
      rw [e]; simp [putTo, h0]
  · match xs, hl with
    | [a, b], _ =>
      have ha := a.toNat_lt; have hb := b.toNat_lt
      have h1 := putByte_of a ((a.toNat : Int) * 256 + (b.toNat : Int)) 1 (by omega)
      have h0 := putByte_of b ((a.toNat : Int) * 256 + (b.toNat : Int)) 0 (by omega)
      have e : getI [a, b] 0 2 = (a.toNat : Int) * 256 + (b.toNat : Int) := by simp [getI, byteAt]
      rw [e]; simp [putTo, h0, h1]
  · match xs, hl with
    | [a, b, c, d], _ =>
      have ha := a.toNat_lt; have hb := b.toNat_lt; have hc := c.toNat_lt; have hd := d.toNat_lt
      have e : getI [a, b, c, d] 0 4 = ((a.toNat : Int) * 16777216 + (b.toNat : Int) * 65536 + (c.toNat : Int) * 256 + (d.toNat : Int)) := by
        simp [getI, byteAt]; omega
      rw [e]
      have h3 := putByte_of a ((a.toNat : Int) * 16777216 + (b.toNat : Int) * 65536 + (c.toNat : Int) * 256 + (d.toNat : Int)) 3 (by omega)
      have h2 := putByte_of b ((a.toNat : Int) * 16777216 + (b.toNat : Int) * 65536 + (c.toNat : Int) * 256 + (d.toNat : Int)) 2 (by omega)
      have h1 := putByte_of c ((a.toNat : Int) * 16777216 + (b.toNat : Int) * 65536 + (c.toNat : Int) * 256 + (d.toNat : Int)) 1 (by omega)
      have h0 := putByte_of d ((a.toNat : Int) * 16777216 + (b.toNat : Int) * 65536 + (c.toNat : Int) * 256 + (d.toNat : Int)) 0 (by omega)
      simp [putTo, h0, h1, h2, h3]
theorem num_back {size : Nat} (hs : Sz size) {xs r : List UInt8} (h : numS (some xs) size = some r) : xs = putL [] (numV (some xs) size) size ++ r ∧ 0 ≤ numV (some xs) size ∧ numV (some xs) size < 256 ^ size := by
  simp only [numS] at h
  split at h
  · rename_i he
    have hz := getErr_zero he
    injection h with h
    rw [Int.toNat_natCast] at h
    have hl : size ≤ xs.length := by omega
    have e0 : xs = xs.take size ++ r := by rw [← h, List.take_append_drop]
    have hlt : (xs.take size).length = size := by rw [List.length_take]; omega
    have e : numV (some xs) size = getI (xs.take size) 0 size := by
      simp only [numV]
      rw [if_pos he, Int.toNat_natCast]
      conv => lhs; rw [e0]
      exact getI_pre _ _ _ _ (by omega)
    have hr := getI_range (xs.take size) 0 size (by rcases hs with rfl | rfl | rfl <;> omega)
    rw [e, putL_right (right_of_range hs hr.1 hr.2), putTo_getI hs _ hlt]
    exact ⟨e0, hr⟩
  · cases h

theorem listS_eq {α : Type} (v : Sta → α) (s : Sta → Sta) (st : Sta) : listS v s st = (readR v s (numV st 2).toNat (numS st 2)).2 := rfl
theorem listV_eq {α : Type} (v : Sta → α) (s : Sta → Sta) (st : Sta) : listV v s st = if (readR v s (numV st 2).toNat (numS st 2)).2 = none then [] else (readR v s (numV st 2).toNat (numS st 2)).1 := rfl
theorem listL_eq {α : Type} (e : α → List UInt8) (l : List α) : listL e l = putL [] l.length 2 ++ l.flatMap e := rfl
theorem cellV_eq (st : Sta) : cellV st = if numV st 4 = 4294967295 then (true, []) else (false, takeL (numS st 4) (numV st 4)) := rfl
theorem cellS_eq (st : Sta) : cellS st = if numV st 4 = 4294967295 then numS st 4 else takeS (numS st 4) (numV st 4) := rfl
theorem two : ((2 : Nat) : Int) = 2 := rfl
theorem four : ((4 : Nat) : Int) = 4 := rfl

/-! ### Again and again -/
section
variable {α : Type} (e : α → List UInt8) (v : Sta → α) (s : Sta → Sta) (ok : α → Prop)
def There : Prop := ∀ x r, ok x → v (some (e x ++ r)) = x ∧ s (some (e x ++ r)) = some r
def Back : Prop := s none = none ∧ ∀ xs r, s (some xs) = some r → xs = e (v (some xs)) ++ r ∧ ok (v (some xs))
variable {e v s ok}
theorem readR_there (hT : There e v s ok) : ∀ (l : List α) (r : List UInt8), (∀ x ∈ l, ok x) → readR v s l.length (some (l.flatMap e ++ r)) = (l, some r)
  | [], r, _ => rfl
  | x :: l, r, h => by
    obtain ⟨h1, h2⟩ := hT x (l.flatMap e ++ r) (h x (List.mem_cons_self ..))
    have e1 : (x :: l).flatMap e ++ r = e x ++ (l.flatMap e ++ r) := by simp
    rw [e1, List.length_cons, readR, h1, h2, readR_there hT l r fun y hy => h y (List.mem_cons_of_mem _ hy)]
theorem readR_back (hB : Back e v s ok) : ∀ (k : Nat) (xs r : List UInt8), (readR v s k (some xs)).2 = some r → xs = (readR v s k (some xs)).1.flatMap e ++ r ∧ ∀ x ∈ (readR v s k (some xs)).1, ok x
  | 0, xs, r, h => by
    injection h with h; subst h
    exact ⟨rfl, fun x hx => by cases hx⟩
  | k + 1, xs, r, h => by
    simp only [readR] at h ⊢
    cases hs : s (some xs) with
    | none => rw [hs, readR_none v s hB.1 k] at h; cases h
    | some ys =>
      rw [hs] at h
      obtain ⟨h1, h2⟩ := hB.2 xs ys hs
      obtain ⟨h3, h4⟩ := readR_back hB k ys r h
      refine ⟨?_, fun x hx => ?_⟩
      · rw [List.flatMap_cons, List.append_assoc, ← h3, ← h1]
      · rcases List.mem_cons.1 hx with rfl | hx
        · exact h2
        · exact h4 x hx
theorem list_there (hT : There e v s ok) (l : List α) (r : List UInt8) (hl : l.length < 65536) (h : ∀ x ∈ l, ok x) : listV v s (some (listL e l ++ r)) = l ∧ listS v s (some (listL e l ++ r)) = some r := by
  have hr : rightB (l.length : Int) (2 : Nat) = true := right_of_range (.inr (.inl rfl)) (by omega) (by omega)
  obtain ⟨h1, h2⟩ := num_put (.inr (.inl rfl)) (l.flatMap e ++ r) hr
  rw [Int.emod_eq_of_lt (by omega) (by omega), two] at h1
  rw [two] at h2
  have h3 := readR_there hT l r h
  rw [listV_eq, listS_eq, listL_eq]
  rw [List.append_assoc, h1, h2, Int.toNat_natCast, h3]
  exact ⟨if_neg (by simp), rfl⟩
theorem list_back (hB : Back e v s ok) (xs r : List UInt8) (h : listS v s (some xs) = some r) : xs = listL e (listV v s (some xs)) ++ r ∧ (∀ x ∈ listV v s (some xs), ok x) ∧ (listV v s (some xs)).length < 65536 := by
  have hV : listV v s (some xs) = (readR v s (numV (some xs) 2).toNat (numS (some xs) 2)).1 := by
    rw [listV_eq, if_neg (by rw [listS_eq] at h; rw [h]; simp)]
  rw [listS_eq] at h
  cases hn : numS (some xs) 2 with
  | none => rw [hn, readR_none v s hB.1] at h; cases h
  | some ys =>
    rw [hn] at h hV
    obtain ⟨h1, h2, h3⟩ := num_back (.inr (.inl rfl)) (size := 2) hn
    obtain ⟨h4, h5⟩ := readR_back hB _ ys r h
    have hlen : (listV v s (some xs)).length = (numV (some xs) 2).toNat := by rw [hV, readR_len]
    have hlt : (listV v s (some xs)).length < 65536 := by
      rw [hlen]
      have h3' : numV (some xs) 2 < 65536 := h3
      omega
    refine ⟨?_, by rw [hV]; exact h5, hlt⟩
    have hc : ((listV v s (some xs)).length : Int) = numV (some xs) 2 := by
      have h2' : 0 ≤ numV (some xs) 2 := h2
      rw [hlen]; omega
    rw [listL_eq, hc, hV, List.append_assoc, ← h4]
    exact h1
end
theorem nums_there {size : Nat} (h : Sz size) : There (numE size) (numV · size) (numS · size) (fun n => 0 ≤ n ∧ n < 256 ^ size) := fun n r hn => by
  obtain ⟨h1, h2⟩ := num_put h r (right_of_range h hn.1 hn.2)
  rw [Int.emod_eq_of_lt hn.1 hn.2] at h1
  exact ⟨h1, h2⟩
theorem nums_back {size : Nat} (h : Sz size) : Back (numE size) (numV · size) (numS · size) (fun n => 0 ≤ n ∧ n < 256 ^ size) := ⟨rfl, fun xs r hr => num_back h hr⟩
/-- What a cell may be in bytes. -/
def CellOk (c : Cl) : Prop := (c.1 = true ∧ c.2 = []) ∨ (c.1 = false ∧ c.2.length < 4294967295)
theorem take_pre (b r : List UInt8) : takeL (some (b ++ r)) b.length = b ∧ takeS (some (b ++ r)) b.length = some r := by
  have h : takeB (b ++ r) b.length = true := by simp [takeB]; omega
  simp [takeL, takeS, h]
theorem cells_there : There cellE cellV cellS CellOk := fun c r hc => by
  obtain ⟨n, b⟩ := c
  rcases hc with ⟨h1, h2⟩ | ⟨h1, h2⟩
  · have h1' : n = true := h1
    have h2' : b = [] := h2
    subst h1' h2'
    have h4 : (256 : Int) ^ 4 = 4294967296 := by decide
    obtain ⟨h3, h5⟩ := num_put (n := 4294967295) (size := 4) (.inr (.inr rfl)) r (by rw [right_iff (.inr (.inr rfl)), h4]; omega)
    have h3' : numV (some (putL [] 4294967295 4 ++ r)) 4 = 4294967295 := by have := h3; rw [h4] at this; exact this
    have h5' : numS (some (putL [] 4294967295 4 ++ r)) 4 = some r := h5
    rw [cellE_null]
    rw [cellV_eq, cellS_eq, if_pos h3', if_pos h3', h5']
    exact ⟨rfl, rfl⟩
  · have h1' : n = false := h1
    subst h1'
    have h2' : b.length < 4294967295 := h2
    have h4 : (256 : Int) ^ 4 = 4294967296 := by decide
    obtain ⟨h3, h5⟩ := num_put (n := b.length) (size := 4) (.inr (.inr rfl)) (b ++ r) (by rw [right_iff (.inr (.inr rfl)), h4]; omega)
    have h3' : numV (some (putL [] b.length 4 ++ (b ++ r))) 4 = b.length := by have := h3; rw [h4, Int.emod_eq_of_lt (by omega) (by omega)] at this; exact this
    have h5' : numS (some (putL [] b.length 4 ++ (b ++ r))) 4 = some (b ++ r) := h5
    obtain ⟨h6, h7⟩ := take_pre b r
    rw [cellE_bytes, List.append_assoc]
    rw [cellV_eq, cellS_eq, if_neg (by rw [h3']; omega), if_neg (by rw [h3']; omega), h3', h5', h6, h7]
    exact ⟨rfl, rfl⟩
theorem take_back {xs r : List UInt8} {n : Int} (h : takeS (some xs) n = some r) : xs = takeL (some xs) n ++ r ∧ ((takeL (some xs) n).length : Int) = n := by
  simp only [takeS] at h
  split at h
  · rename_i hb
    obtain ⟨h1, h2⟩ := takeB_yes hb
    injection h with h
    simp only [takeL]
    rw [if_pos hb]
    refine ⟨by rw [← h, List.take_append_drop], ?_⟩
    rw [List.length_take]; omega
  · cases h
theorem cells_back : Back cellE cellV cellS CellOk := ⟨cellS_none, fun xs r h => by
  have h4 : (256 : Int) ^ 4 = 4294967296 := by decide
  rw [cellS_eq] at h
  split at h
  · rename_i hn
    obtain ⟨h1, _, _⟩ := num_back (size := 4) (.inr (.inr rfl)) h
    have hv : cellV (some xs) = (true, []) := if_pos hn
    have h1' : xs = putL [] (numV (some xs) 4) 4 ++ r := h1
    rw [hv, cellE_null]
    rw [hn] at h1'
    exact ⟨h1', .inl ⟨rfl, rfl⟩⟩
  · rename_i hn
    cases hs : numS (some xs) 4 with
    | none => rw [hs] at h; cases h
    | some ys =>
      rw [hs] at h
      obtain ⟨h1, h2, h3⟩ := num_back (size := 4) (.inr (.inr rfl)) hs
      have h1' : xs = putL [] (numV (some xs) 4) 4 ++ ys := h1
      have h2' : 0 ≤ numV (some xs) 4 := h2
      have h3' : numV (some xs) 4 < 4294967296 := by rw [← h4]; exact h3
      obtain ⟨h5, h6⟩ := take_back h
      have hv : cellV (some xs) = (false, takeL (some ys) (numV (some xs) 4)) := by rw [cellV_eq, if_neg hn, hs]
      rw [hv, cellE_bytes, h6, List.append_assoc, ← h5]
      exact ⟨h1', .inr ⟨rfl, by show (takeL (some ys) (numV (some xs) 4)).length < 4294967295; omega⟩⟩⟩
theorem done_nil {s : Sta} (h : doneB s = true) : s = some [] := by
  cases s with
  | none => cases h
  | some xs => cases xs with
    | nil => rfl
    | cons x xs => cases h
end Go.Proofs.Ytcaimoidnppnbaa.Ax
