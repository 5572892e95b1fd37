import Derived.Test.YtknohkmpficjgaaGreatDoorQAxXr
import Derived.Test.YtknohkmpficjgaaGreatDoorRows
import Derived.Test.YtknohkmpficjgaaGreatDoorQAxPf
import Derived.Test.YtknohkmpficjgaaGreatDoorQAxFq
import Derived.Test.YtknohkmpficjgaaGreatDoorQAxBk
import Derived.Test.YtknohkmpficjgaaGreatDoorQCodeR
import Derived.Test.YtknohkmpficjgaaGreatDoorQAxPk
import Derived.Test.YtknohkmpficjgaaGreatDoorQAxGc
set_option linter.unusedSimpArgs false
set_option linter.unusedVariables false
namespace Go.Proofs.YtknohkmpficjgaaGreatDoor.Ax
open Go.RowKit Go By
def c3 : XFun := ⟨115, (.seq (.ops [⟨(some 4), (.assign (.const (.bool false))), none⟩]) (.seq (.seq (.ops [⟨(some 13), (.move (.tmp 0)), none⟩, ⟨(some 14), (.call 6 [(.tmp 13), (.const (.int .i64 40))]), none⟩, ⟨(some 15), (.un .not (.tmp 14)), none⟩, ⟨(some 16), (.move (.tmp 15)), none⟩, ⟨(some 17), (.move (.tmp 1)), (some (16, false))⟩, ⟨(some 18), (.call 6 [(.tmp 17), (.const (.int .i64 40))]), (some (16, false))⟩, ⟨(some 19), (.un .not (.tmp 18)), (some (16, false))⟩, ⟨(some 20), (.pick (.tmp 16) (.const (.bool true)) (.tmp 19)), none⟩]) (.cond (.tmp 20) (.seq (.ops [⟨(some 21), (.call 7 []), none⟩, ⟨(some 4), (.assign (.tmp 21)), none⟩]) .ret) .skip)) (.seq (.ops [⟨(some 22), (.call 9 []), none⟩, ⟨(some 23), (.call 8 [(.tmp 22)]), none⟩, ⟨(some 5), (.assign (.tmp 23)), none⟩]) (.seq (.seq (.ops [⟨(some 24), (.move (.tmp 5)), none⟩, ⟨(some 25), (.pnileq false (.tmp 24)), none⟩]) (.cond (.tmp 25) (.seq (.ops [⟨(some 4), (.assign (.const (.bool false))), none⟩]) .ret) .skip)) (.seq (.seq (.ops [⟨(some 26), (.move (.tmp 0)), none⟩, ⟨(some 27), (.lenL (.tmp 26)), none⟩, ⟨(some 28), (.move (.const (.int .i64 0))), none⟩]) (.block 0 (.loop (.seq (.ops [⟨(some 29), (.bin .lss (.tmp 28) (.tmp 27)), none⟩]) (.seq (.cond (.tmp 29) .skip (.exit 0)) (.seq (.block 1 (.seq (.ops [⟨(some 30), (.iaddr 10 (.tmp 26) (.tmp 28)), none⟩, ⟨(some 31), (.loadN 10 (.tmp 30)), none⟩, ⟨(some 7), (.alloc [(.v (.int .u8 0)), (.v (.int .u8 0)), (.v (.string (strB []))), (.v (.string (strB []))), (.v (.string (strB []))), (.sl 0 [] (some true) .exact), (.sl 0 [] (some true) .exact), (.sl 0 [] (some true) .exact), (.sl 0 [] (some true) .exact), (.v (.int .i64 0))]), none⟩, ⟨none, (.store 10 (.tmp 7) (.tmp 31)), none⟩]) (.ops [⟨(some 32), (.move (.tmp 5)), none⟩, ⟨(some 33), (.loadN 10 (.tmp 7)), none⟩, ⟨(some 34), (.call 10 [(.tmp 32), (.tmp 33)]), none⟩]))) (.ops [⟨(some 35), (.bin .add (.tmp 28) (.const (.int .i64 1))), none⟩, ⟨(some 28), (.move (.tmp 35)), none⟩]))))))) (.seq (.seq (.ops [⟨(some 36), (.move (.tmp 5)), none⟩, ⟨(some 37), (.call 11 [(.tmp 36)]), none⟩, ⟨(some 38), (.un .not (.tmp 37)), none⟩, ⟨(some 39), (.move (.tmp 38)), none⟩, ⟨(some 40), (.move (.tmp 5)), (some (39, false))⟩, ⟨(some 41), (.call 12 [(.tmp 40)]), (some (39, false))⟩, ⟨(some 42), (.pick (.tmp 39) (.const (.bool true)) (.tmp 41)), none⟩]) (.cond (.tmp 42) (.seq (.ops [⟨(some 43), (.call 7 []), none⟩, ⟨(some 4), (.assign (.tmp 43)), none⟩]) .ret) .skip)) (.seq (.ops [⟨(some 44), (.move (.tmp 5)), none⟩, ⟨(some 45), (.call 13 [(.tmp 44)]), none⟩, ⟨(some 46), (.move (.tmp 5)), none⟩, ⟨(some 47), (.call 14 [(.tmp 46)]), none⟩, ⟨(some 8), (.assign (.tmp 45)), none⟩, ⟨(some 9), (.assign (.tmp 47)), none⟩]) (.seq (.seq (.ops [⟨(some 48), (.move (.tmp 1)), none⟩, ⟨(some 49), (.lenL (.tmp 48)), none⟩, ⟨(some 50), (.move (.const (.int .i64 0))), none⟩]) (.block 2 (.loop (.seq (.ops [⟨(some 51), (.bin .lss (.tmp 50) (.tmp 49)), none⟩]) (.seq (.cond (.tmp 51) .skip (.exit 2)) (.seq (.block 3 (.seq (.ops [⟨(some 52), (.iaddr 10 (.tmp 48) (.tmp 50)), none⟩, ⟨(some 53), (.loadN 10 (.tmp 52)), none⟩, ⟨(some 11), (.alloc [(.v (.int .u8 0)), (.v (.int .u8 0)), (.v (.string (strB []))), (.v (.string (strB []))), (.v (.string (strB []))), (.sl 0 [] (some true) .exact), (.sl 0 [] (some true) .exact), (.sl 0 [] (some true) .exact), (.sl 0 [] (some true) .exact), (.v (.int .i64 0))]), none⟩, ⟨none, (.store 10 (.tmp 11) (.tmp 53)), none⟩]) (.seq (.seq (.ops [⟨(some 54), (.faddr 0 (.tmp 11)), none⟩, ⟨(some 55), (.load1 (.tmp 54)), none⟩, ⟨(some 56), (.bin .eql (.tmp 55) (.const (.int .u8 83))), none⟩, ⟨(some 57), (.move (.tmp 56)), none⟩, ⟨(some 58), (.faddr 0 (.tmp 11)), (some (57, false))⟩, ⟨(some 59), (.load1 (.tmp 58)), (some (57, false))⟩, ⟨(some 60), (.bin .eql (.tmp 59) (.const (.int .u8 88))), (some (57, false))⟩, ⟨(some 61), (.pick (.tmp 57) (.const (.bool true)) (.tmp 60)), none⟩]) (.cond (.tmp 61) (.exit 2) .skip)) (.seq (.ops [⟨(some 62), (.move (.tmp 5)), none⟩, ⟨(some 63), (.loadN 10 (.tmp 11)), none⟩, ⟨(some 64), (.call 10 [(.tmp 62), (.tmp 63)]), none⟩, ⟨(some 65), (.lenL (.tmp 64)), none⟩, ⟨(some 66), (.bin .gtr (.tmp 65) (.const (.int .i64 0))), none⟩, ⟨(some 67), (.move (.tmp 66)), none⟩, ⟨(some 68), (.move (.tmp 5)), (some (67, false))⟩, ⟨(some 69), (.call 11 [(.tmp 68)]), (some (67, false))⟩, ⟨(some 70), (.un .not (.tmp 69)), (some (67, false))⟩, ⟨(some 71), (.pick (.tmp 67) (.const (.bool true)) (.tmp 70)), none⟩, ⟨(some 72), (.move (.tmp 71)), none⟩, ⟨(some 73), (.move (.tmp 5)), (some (72, false))⟩, ⟨(some 74), (.call 13 [(.tmp 73)]), (some (72, false))⟩, ⟨(some 75), (.move (.tmp 8)), (some (72, false))⟩, ⟨(some 76), (.call 15 [(.tmp 74), (.tmp 75)]), (some (72, false))⟩, ⟨(some 77), (.un .not (.tmp 76)), (some (72, false))⟩, ⟨(some 78), (.pick (.tmp 72) (.const (.bool true)) (.tmp 77)), none⟩, ⟨(some 79), (.move (.tmp 78)), none⟩, ⟨(some 80), (.move (.tmp 5)), (some (79, false))⟩, ⟨(some 81), (.call 14 [(.tmp 80)]), (some (79, false))⟩, ⟨(some 82), (.move (.tmp 9)), (some (79, false))⟩, ⟨(some 83), (.bin .neq (.tmp 81) (.tmp 82)), (some (79, false))⟩, ⟨(some 84), (.pick (.tmp 79) (.const (.bool true)) (.tmp 83)), none⟩]) (.cond (.tmp 84) (.seq (.ops [⟨(some 4), (.assign (.const (.bool false))), none⟩]) .ret) .skip))))) (.ops [⟨(some 85), (.bin .add (.tmp 50) (.const (.int .i64 1))), none⟩, ⟨(some 50), (.move (.tmp 85)), none⟩]))))))) (.seq (.ops [⟨(some 86), (.move (.tmp 5)), none⟩, ⟨(some 87), (.build [(.v (.int .u8 0)), (.v (.int .u8 0)), (.v (.string (strB []))), (.v (.string (strB []))), (.v (.string (strB []))), (.sl 0 [] (some true) .exact), (.sl 0 [] (some true) .exact), (.sl 0 [] (some true) .exact), (.sl 0 [] (some true) .exact), (.v (.int .i64 0))] [(0, (1, (.const (.int .u8 83))))]), none⟩, ⟨(some 88), (.call 10 [(.tmp 86), (.tmp 87)]), none⟩, ⟨(some 12), (.assign (.tmp 88)), none⟩]) (.seq (.ops [⟨(some 89), (.move (.tmp 12)), none⟩, ⟨(some 90), (.lenL (.tmp 89)), none⟩, ⟨(some 91), (.bin .eql (.tmp 90) (.const (.int .i64 1))), none⟩, ⟨(some 92), (.move (.tmp 91)), none⟩, ⟨(some 93), (.move (.tmp 12)), (some (92, true))⟩, ⟨(some 94), (.iaddr 11 (.tmp 93) (.const (.int .i64 0))), (some (92, true))⟩, ⟨(some 95), (.faddr 0 (.tmp 94)), (some (92, true))⟩, ⟨(some 96), (.load1 (.tmp 95)), (some (92, true))⟩, ⟨(some 97), (.bin .eql (.tmp 96) (.const (.int .u8 90))), (some (92, true))⟩, ⟨(some 98), (.pick (.tmp 92) (.tmp 97) (.const (.bool false))), none⟩, ⟨(some 99), (.move (.tmp 98)), none⟩, ⟨(some 100), (.move (.tmp 12)), (some (99, true))⟩, ⟨(some 101), (.iaddr 11 (.tmp 100) (.const (.int .i64 0))), (some (99, true))⟩, ⟨(some 102), (.faddr 1 (.tmp 101)), (some (99, true))⟩, ⟨(some 103), (.load1 (.tmp 102)), (some (99, true))⟩, ⟨(some 104), (.move (.tmp 9)), (some (99, true))⟩, ⟨(some 105), (.bin .eql (.tmp 103) (.tmp 104)), (some (99, true))⟩, ⟨(some 106), (.pick (.tmp 99) (.tmp 105) (.const (.bool false))), none⟩, ⟨(some 107), (.move (.tmp 106)), none⟩, ⟨(some 108), (.move (.tmp 5)), (some (107, true))⟩, ⟨(some 109), (.call 11 [(.tmp 108)]), (some (107, true))⟩, ⟨(some 110), (.un .not (.tmp 109)), (some (107, true))⟩, ⟨(some 111), (.pick (.tmp 107) (.tmp 110) (.const (.bool false))), none⟩, ⟨(some 112), (.move (.tmp 111)), none⟩, ⟨(some 113), (.call 7 []), (some (112, true))⟩, ⟨(some 114), (.pick (.tmp 112) (.tmp 113) (.const (.bool false))), none⟩, ⟨(some 4), (.assign (.tmp 114)), none⟩]) .ret)))))))))), [(.move (.tmp 4))]⟩
theorem k3 : cfun Tryz.prog 3 = some c3 := by kernel_rfl
def c4 : XFun := ⟨92, (.seq (.ops [⟨(some 2), (.assign (.const (.bool false))), none⟩]) (.seq (.seq (.ops [⟨(some 11), (.move (.tmp 0)), none⟩, ⟨(some 12), (.call 6 [(.tmp 11), (.const (.int .i64 60))]), none⟩, ⟨(some 13), (.un .not (.tmp 12)), none⟩]) (.cond (.tmp 13) (.seq (.ops [⟨(some 14), (.call 7 []), none⟩, ⟨(some 2), (.assign (.tmp 14)), none⟩]) .ret) .skip)) (.seq (.ops [⟨(some 15), (.call 9 []), none⟩, ⟨(some 16), (.call 8 [(.tmp 15)]), none⟩, ⟨(some 3), (.assign (.tmp 16)), none⟩]) (.seq (.seq (.ops [⟨(some 17), (.move (.tmp 3)), none⟩, ⟨(some 18), (.pnileq false (.tmp 17)), none⟩]) (.cond (.tmp 18) (.seq (.ops [⟨(some 2), (.assign (.const (.bool false))), none⟩]) .ret) .skip)) (.seq (.seq (.ops [⟨(some 19), (.move (.tmp 0)), none⟩, ⟨(some 20), (.lenL (.tmp 19)), none⟩, ⟨(some 21), (.move (.const (.int .i64 0))), none⟩]) (.block 0 (.loop (.seq (.ops [⟨(some 22), (.bin .lss (.tmp 21) (.tmp 20)), none⟩]) (.seq (.cond (.tmp 22) .skip (.exit 0)) (.seq (.block 1 (.seq (.ops [⟨(some 23), (.iaddr 10 (.tmp 19) (.tmp 21)), none⟩, ⟨(some 24), (.loadN 10 (.tmp 23)), none⟩, ⟨(some 5), (.alloc [(.v (.int .u8 0)), (.v (.int .u8 0)), (.v (.string (strB []))), (.v (.string (strB []))), (.v (.string (strB []))), (.sl 0 [] (some true) .exact), (.sl 0 [] (some true) .exact), (.sl 0 [] (some true) .exact), (.sl 0 [] (some true) .exact), (.v (.int .i64 0))]), none⟩, ⟨none, (.store 10 (.tmp 5) (.tmp 24)), none⟩]) (.seq (.ops [⟨(some 6), (.assign (.const (.int .i64 0))), none⟩]) (.seq (.seq (.ops [⟨(some 25), (.move (.tmp 3)), none⟩, ⟨(some 26), (.call 12 [(.tmp 25)]), none⟩, ⟨(some 27), (.un .not (.tmp 26)), none⟩, ⟨(some 28), (.move (.tmp 27)), none⟩, ⟨(some 29), (.faddr 0 (.tmp 5)), (some (28, true))⟩, ⟨(some 30), (.load1 (.tmp 29)), (some (28, true))⟩, ⟨(some 31), (.bin .eql (.tmp 30) (.const (.int .u8 83))), (some (28, true))⟩, ⟨(some 32), (.move (.tmp 31)), (some (28, true))⟩, ⟨(some 33), (.faddr 0 (.tmp 5)), (some (32, false))⟩, ⟨(some 34), (.load1 (.tmp 33)), (some (32, false))⟩, ⟨(some 35), (.bin .eql (.tmp 34) (.const (.int .u8 81))), (some (32, false))⟩, ⟨(some 36), (.move (.tmp 35)), (some (32, false))⟩, ⟨(some 37), (.move (.tmp 3)), (some (36, true))⟩, ⟨(some 38), (.call 11 [(.tmp 37)]), (some (36, true))⟩, ⟨(some 39), (.un .not (.tmp 38)), (some (36, true))⟩, ⟨(some 40), (.pick (.tmp 36) (.tmp 39) (.const (.bool false))), (some (32, false))⟩, ⟨(some 41), (.pick (.tmp 32) (.const (.bool true)) (.tmp 40)), (some (28, true))⟩, ⟨(some 42), (.pick (.tmp 28) (.tmp 41) (.const (.bool false))), none⟩]) (.cond (.tmp 42) (.ops [⟨(some 6), (.assign (.const (.int .i64 1))), none⟩]) .skip)) (.seq (.ops [⟨(some 43), (.move (.tmp 3)), none⟩, ⟨(some 44), (.loadN 10 (.tmp 5)), none⟩, ⟨(some 45), (.call 10 [(.tmp 43), (.tmp 44)]), none⟩, ⟨(some 7), (.assign (.tmp 45)), none⟩]) (.seq (.ops [⟨(some 8), (.assign (.const (.int .i64 0))), none⟩]) (.seq (.seq (.ops [⟨(some 46), (.move (.tmp 7)), none⟩, ⟨(some 47), (.lenL (.tmp 46)), none⟩, ⟨(some 48), (.move (.const (.int .i64 0))), none⟩]) (.block 2 (.loop (.seq (.ops [⟨(some 49), (.bin .lss (.tmp 48) (.tmp 47)), none⟩]) (.seq (.cond (.tmp 49) .skip (.exit 2)) (.seq (.block 3 (.seq (.ops [⟨(some 50), (.move (.tmp 48)), none⟩, ⟨(some 51), (.iaddr 11 (.tmp 46) (.tmp 48)), none⟩, ⟨(some 52), (.loadN 11 (.tmp 51)), none⟩, ⟨(some 10), (.alloc [(.v (.int .u8 0)), (.v (.int .u8 0)), (.v (.string (strB []))), (.v (.string (strB []))), (.v (.string (strB []))), (.v (.int .i64 0)), (.v (.int .i64 0)), (.sl 0 [] (some true) .exact), (.sl 0 [] (some true) .exact), (.sl 0 [] (some true) .exact), (.sl 0 [] (some true) .exact)]), none⟩, ⟨(some 9), (.assign (.tmp 50)), none⟩, ⟨none, (.store 11 (.tmp 10) (.tmp 52)), none⟩]) (.seq (.seq (.ops [⟨(some 53), (.faddr 0 (.tmp 10)), none⟩, ⟨(some 54), (.load1 (.tmp 53)), none⟩, ⟨(some 55), (.bin .eql (.tmp 54) (.const (.int .u8 90))), none⟩]) (.cond (.tmp 55) (.seq (.ops [⟨(some 56), (.move (.tmp 8)), none⟩, ⟨(some 57), (.bin .add (.tmp 56) (.const (.int .i64 1))), none⟩, ⟨(some 8), (.assign (.tmp 57)), none⟩]) (.seq (.draws (.take ⟨(some 58), (.move (.tmp 9)), none⟩ (.take ⟨(some 59), (.bin .add (.tmp 58) (.const (.int .i64 1))), none⟩ (.take ⟨(some 60), (.move (.tmp 7)), none⟩ (.take ⟨(some 61), (.lenL (.tmp 60)), none⟩ (.take ⟨(some 62), (.bin .neq (.tmp 59) (.tmp 61)), none⟩ (.take ⟨(some 63), (.move (.tmp 62)), none⟩ (.take ⟨(some 64), (.faddr 1 (.tmp 10)), (some (63, false))⟩ (.take ⟨(some 65), (.load1 (.tmp 64)), (some (63, false))⟩ (.take ⟨(some 66), (.move (.tmp 3)), (some (63, false))⟩ (.only ⟨(some 67), (.call 14 [(.tmp 66)]), (some (63, false))⟩ (.take ⟨(some 68), (.bin .neq (.tmp 65) (.tmp 67)), (some (63, false))⟩ (.take ⟨(some 69), (.pick (.tmp 63) (.const (.bool true)) (.tmp 68)), none⟩ .done))))))))))))) (.cond (.tmp 69) (.seq (.ops [⟨(some 2), (.assign (.const (.bool false))), none⟩]) .ret) .skip))) .skip)) (.seq (.ops [⟨(some 70), (.faddr 0 (.tmp 10)), none⟩, ⟨(some 71), (.load1 (.tmp 70)), none⟩, ⟨(some 72), (.bin .neq (.tmp 71) (.const (.int .u8 69))), none⟩, ⟨(some 73), (.move (.tmp 72)), none⟩, ⟨(some 74), (.loadN 11 (.tmp 10)), (some (73, true))⟩, ⟨(some 75), (.call 16 [(.tmp 74)]), (some (73, true))⟩, ⟨(some 76), (.bin .neq (.tmp 75) (.const (.int .i64 0))), (some (73, true))⟩, ⟨(some 77), (.pick (.tmp 73) (.tmp 76) (.const (.bool false))), none⟩, ⟨(some 78), (.move (.tmp 77)), none⟩, ⟨(some 79), (.loadN 10 (.tmp 5)), (some (78, true))⟩, ⟨(some 80), (.call 17 [(.tmp 79)]), (some (78, true))⟩, ⟨(some 81), (.pick (.tmp 78) (.tmp 80) (.const (.bool false))), none⟩, ⟨(some 82), (.move (.tmp 81)), none⟩, ⟨(some 83), (.move (.tmp 0)), (some (82, true))⟩, ⟨(some 84), (.call 18 [(.tmp 83)]), (some (82, true))⟩, ⟨(some 85), (.pick (.tmp 82) (.tmp 84) (.const (.bool false))), none⟩]) (.cond (.tmp 85) (.seq (.ops [⟨(some 2), (.assign (.const (.bool false))), none⟩]) .ret) .skip))))) (.ops [⟨(some 86), (.bin .add (.tmp 48) (.const (.int .i64 1))), none⟩, ⟨(some 48), (.move (.tmp 86)), none⟩]))))))) (.seq (.ops [⟨(some 87), (.move (.tmp 8)), none⟩, ⟨(some 88), (.move (.tmp 6)), none⟩, ⟨(some 89), (.bin .neq (.tmp 87) (.tmp 88)), none⟩]) (.cond (.tmp 89) (.seq (.ops [⟨(some 2), (.assign (.const (.bool false))), none⟩]) .ret) .skip))))))))) (.ops [⟨(some 90), (.bin .add (.tmp 21) (.const (.int .i64 1))), none⟩, ⟨(some 21), (.move (.tmp 90)), none⟩]))))))) (.seq (.ops [⟨(some 91), (.call 7 []), none⟩, ⟨(some 2), (.assign (.tmp 91)), none⟩]) .ret)))))), [(.move (.tmp 2))]⟩
theorem k4 : cfun Tryz.prog 4 = some c4 := by kernel_rfl
def c5 : XFun := ⟨54, (.seq (.ops [⟨(some 1), (.box (.tmp 0)), none⟩, ⟨(some 2), (.assign (.const (.bool false))), none⟩]) (.seq (.ops [⟨(some 3), (.assign (.const (.pointer none))), none⟩]) (.seq (.ops [⟨(some 4), (.alloc [(.v (.pointer none)), (.v (.map none)), (.v (.pointer none)), (.v (.int .u8 0)), (.v (.bool false)), (.v (.bool false))]), none⟩]) (.seq (.ops [⟨(some 6), (.call 8 [(.const (.pointer none))]), none⟩, ⟨(some 5), (.assign (.tmp 6)), none⟩]) (.seq (.ops [⟨(some 7), (.move (.tmp 3)), none⟩, ⟨(some 8), (.loadN 10 (.tmp 1)), none⟩, ⟨(some 9), (.call 10 [(.tmp 7), (.tmp 8)]), none⟩, ⟨(some 10), (.lenL (.tmp 9)), none⟩, ⟨(some 11), (.bin .eql (.tmp 10) (.const (.int .i64 0))), none⟩, ⟨(some 12), (.move (.tmp 11)), none⟩, ⟨(some 13), (.loadN 10 (.tmp 1)), (some (12, true))⟩, ⟨(some 14), (.call 10 [(.tmp 4), (.tmp 13)]), (some (12, true))⟩, ⟨(some 15), (.lenL (.tmp 14)), (some (12, true))⟩, ⟨(some 16), (.bin .eql (.tmp 15) (.const (.int .i64 0))), (some (12, true))⟩, ⟨(some 17), (.pick (.tmp 12) (.tmp 16) (.const (.bool false))), none⟩, ⟨(some 18), (.move (.tmp 17)), none⟩, ⟨(some 19), (.move (.tmp 5)), (some (18, true))⟩, ⟨(some 20), (.loadN 10 (.tmp 1)), (some (18, true))⟩, ⟨(some 21), (.call 10 [(.tmp 19), (.tmp 20)]), (some (18, true))⟩, ⟨(some 22), (.lenL (.tmp 21)), (some (18, true))⟩, ⟨(some 23), (.bin .eql (.tmp 22) (.const (.int .i64 0))), (some (18, true))⟩, ⟨(some 24), (.pick (.tmp 18) (.tmp 23) (.const (.bool false))), none⟩, ⟨(some 25), (.move (.tmp 24)), none⟩, ⟨(some 26), (.move (.tmp 3)), (some (25, true))⟩, ⟨(some 27), (.call 11 [(.tmp 26)]), (some (25, true))⟩, ⟨(some 28), (.un .not (.tmp 27)), (some (25, true))⟩, ⟨(some 29), (.pick (.tmp 25) (.tmp 28) (.const (.bool false))), none⟩, ⟨(some 30), (.move (.tmp 29)), none⟩, ⟨(some 31), (.move (.tmp 3)), (some (30, true))⟩, ⟨(some 32), (.call 12 [(.tmp 31)]), (some (30, true))⟩, ⟨(some 33), (.un .not (.tmp 32)), (some (30, true))⟩, ⟨(some 34), (.pick (.tmp 30) (.tmp 33) (.const (.bool false))), none⟩, ⟨(some 35), (.move (.tmp 34)), none⟩, ⟨(some 36), (.call 12 [(.tmp 4)]), (some (35, true))⟩, ⟨(some 37), (.un .not (.tmp 36)), (some (35, true))⟩, ⟨(some 38), (.pick (.tmp 35) (.tmp 37) (.const (.bool false))), none⟩, ⟨(some 39), (.move (.tmp 38)), none⟩, ⟨(some 40), (.move (.tmp 3)), (some (39, true))⟩, ⟨(some 41), (.call 13 [(.tmp 40)]), (some (39, true))⟩, ⟨(some 42), (.lenL (.tmp 41)), (some (39, true))⟩, ⟨(some 43), (.bin .eql (.tmp 42) (.const (.int .i64 0))), (some (39, true))⟩, ⟨(some 44), (.pick (.tmp 39) (.tmp 43) (.const (.bool false))), none⟩, ⟨(some 45), (.move (.tmp 44)), none⟩, ⟨(some 46), (.move (.tmp 5)), (some (45, true))⟩, ⟨(some 47), (.call 13 [(.tmp 46)]), (some (45, true))⟩, ⟨(some 48), (.lenL (.tmp 47)), (some (45, true))⟩, ⟨(some 49), (.bin .eql (.tmp 48) (.const (.int .i64 0))), (some (45, true))⟩, ⟨(some 50), (.pick (.tmp 45) (.tmp 49) (.const (.bool false))), none⟩, ⟨(some 51), (.move (.tmp 50)), none⟩, ⟨(some 52), (.call 7 []), (some (51, true))⟩, ⟨(some 53), (.pick (.tmp 51) (.tmp 52) (.const (.bool false))), none⟩, ⟨(some 2), (.assign (.tmp 53)), none⟩]) .ret))))), [(.move (.tmp 2))]⟩
theorem k5 : cfun Tryz.prog 5 = some c5 := by kernel_rfl
def c7 : XFun := ⟨53, (.seq (.ops [⟨(some 0), (.assign (.const (.bool false))), none⟩]) (.seq (.ops [⟨(some 4), (.call 9 []), none⟩, ⟨(some 5), (.call 8 [(.tmp 4)]), none⟩, ⟨(some 1), (.assign (.tmp 5)), none⟩]) (.seq (.seq (.ops [⟨(some 6), (.move (.tmp 1)), none⟩, ⟨(some 7), (.pnileq false (.tmp 6)), none⟩]) (.cond (.tmp 7) (.seq (.ops [⟨(some 0), (.assign (.const (.bool false))), none⟩]) .ret) .skip)) (.seq (.ops [⟨(some 8), (.move (.tmp 1)), none⟩, ⟨(some 9), (.build [(.v (.int .u8 0)), (.v (.int .u8 0)), (.v (.string (strB []))), (.v (.string (strB []))), (.v (.string (strB []))), (.sl 0 [] (some true) .exact), (.sl 0 [] (some true) .exact), (.sl 0 [] (some true) .exact), (.sl 0 [] (some true) .exact), (.v (.int .i64 0))] [(0, (1, (.const (.int .u8 80)))), (2, (1, (.const (.string (strB [97]))))), (4, (1, (.const (.string (strB [98, 101, 103, 105, 110])))))]), none⟩, ⟨(some 10), (.call 10 [(.tmp 8), (.tmp 9)]), none⟩]) (.seq (.ops [⟨(some 11), (.move (.tmp 1)), none⟩, ⟨(some 12), (.build [(.v (.int .u8 0)), (.v (.int .u8 0)), (.v (.string (strB []))), (.v (.string (strB []))), (.v (.string (strB []))), (.sl 0 [] (some true) .exact), (.sl 0 [] (some true) .exact), (.sl 0 [] (some true) .exact), (.sl 0 [] (some true) .exact), (.v (.int .i64 0))] [(0, (1, (.const (.int .u8 66)))), (2, (1, (.const (.string (strB [97])))))]), none⟩, ⟨(some 13), (.call 10 [(.tmp 11), (.tmp 12)]), none⟩]) (.seq (.ops [⟨(some 14), (.move (.tmp 1)), none⟩, ⟨(some 15), (.build [(.v (.int .u8 0)), (.v (.int .u8 0)), (.v (.string (strB []))), (.v (.string (strB []))), (.v (.string (strB []))), (.sl 0 [] (some true) .exact), (.sl 0 [] (some true) .exact), (.sl 0 [] (some true) .exact), (.sl 0 [] (some true) .exact), (.v (.int .i64 0))] [(0, (1, (.const (.int .u8 69))))]), none⟩, ⟨(some 16), (.call 10 [(.tmp 14), (.tmp 15)]), none⟩, ⟨(some 2), (.assign (.tmp 16)), none⟩]) (.seq (.ops [⟨(some 17), (.move (.tmp 1)), none⟩, ⟨(some 18), (.build [(.v (.int .u8 0)), (.v (.int .u8 0)), (.v (.string (strB []))), (.v (.string (strB []))), (.v (.string (strB []))), (.sl 0 [] (some true) .exact), (.sl 0 [] (some true) .exact), (.sl 0 [] (some true) .exact), (.sl 0 [] (some true) .exact), (.v (.int .i64 0))] [(0, (1, (.const (.int .u8 83))))]), none⟩, ⟨(some 19), (.call 10 [(.tmp 17), (.tmp 18)]), none⟩, ⟨(some 3), (.assign (.tmp 19)), none⟩]) (.seq (.ops [⟨(some 20), (.move (.tmp 2)), none⟩, ⟨(some 21), (.lenL (.tmp 20)), none⟩, ⟨(some 22), (.bin .eql (.tmp 21) (.const (.int .i64 1))), none⟩, ⟨(some 23), (.move (.tmp 22)), none⟩, ⟨(some 24), (.move (.tmp 2)), (some (23, true))⟩, ⟨(some 25), (.iaddr 11 (.tmp 24) (.const (.int .i64 0))), (some (23, true))⟩, ⟨(some 26), (.faddr 2 (.tmp 25)), (some (23, true))⟩, ⟨(some 27), (.load1 (.tmp 26)), (some (23, true))⟩, ⟨(some 28), (.bin .eql (.tmp 27) (.const (.string (strB [66, 69, 71, 73, 78])))), (some (23, true))⟩, ⟨(some 29), (.pick (.tmp 23) (.tmp 28) (.const (.bool false))), none⟩, ⟨(some 30), (.move (.tmp 29)), none⟩, ⟨(some 31), (.move (.tmp 3)), (some (30, true))⟩, ⟨(some 32), (.lenL (.tmp 31)), (some (30, true))⟩, ⟨(some 33), (.bin .eql (.tmp 32) (.const (.int .i64 1))), (some (30, true))⟩, ⟨(some 34), (.pick (.tmp 30) (.tmp 33) (.const (.bool false))), none⟩, ⟨(some 35), (.move (.tmp 34)), none⟩, ⟨(some 36), (.move (.tmp 3)), (some (35, true))⟩, ⟨(some 37), (.iaddr 11 (.tmp 36) (.const (.int .i64 0))), (some (35, true))⟩, ⟨(some 38), (.faddr 1 (.tmp 37)), (some (35, true))⟩, ⟨(some 39), (.load1 (.tmp 38)), (some (35, true))⟩, ⟨(some 40), (.bin .eql (.tmp 39) (.const (.int .u8 84))), (some (35, true))⟩, ⟨(some 41), (.pick (.tmp 35) (.tmp 40) (.const (.bool false))), none⟩, ⟨(some 42), (.move (.tmp 41)), none⟩, ⟨(some 43), (.move (.tmp 1)), (some (42, true))⟩, ⟨(some 44), (.call 14 [(.tmp 43)]), (some (42, true))⟩, ⟨(some 45), (.bin .eql (.tmp 44) (.const (.int .u8 84))), (some (42, true))⟩, ⟨(some 46), (.pick (.tmp 42) (.tmp 45) (.const (.bool false))), none⟩, ⟨(some 47), (.move (.tmp 46)), none⟩, ⟨(some 48), (.move (.tmp 1)), (some (47, true))⟩, ⟨(some 49), (.call 13 [(.tmp 48)]), (some (47, true))⟩, ⟨(some 50), (.buildSlice 1 1 [(.v (.string (strB [])))] [(0, (.const (.string (strB [97]))))]), (some (47, true))⟩, ⟨(some 51), (.call 15 [(.tmp 49), (.tmp 50)]), (some (47, true))⟩, ⟨(some 52), (.pick (.tmp 47) (.tmp 51) (.const (.bool false))), none⟩, ⟨(some 0), (.assign (.tmp 52)), none⟩]) .ret)))))))), [(.move (.tmp 0))]⟩
theorem k7 : cfun Tryz.prog 7 = some c7 := by kernel_rfl
def c15 : XFun := ⟨26, (.seq (.ops [⟨(some 4), (.assign (.const (.bool false))), none⟩]) (.seq (.seq (.ops [⟨(some 6), (.move (.tmp 0)), none⟩, ⟨(some 7), (.lenL (.tmp 6)), none⟩, ⟨(some 8), (.move (.tmp 1)), none⟩, ⟨(some 9), (.lenL (.tmp 8)), none⟩, ⟨(some 10), (.bin .neq (.tmp 7) (.tmp 9)), none⟩]) (.cond (.tmp 10) (.seq (.ops [⟨(some 4), (.assign (.const (.bool false))), none⟩]) .ret) .skip)) (.seq (.seq (.ops [⟨(some 11), (.move (.tmp 0)), none⟩, ⟨(some 12), (.lenL (.tmp 11)), none⟩, ⟨(some 13), (.move (.const (.int .i64 0))), none⟩]) (.block 0 (.loop (.seq (.ops [⟨(some 14), (.bin .lss (.tmp 13) (.tmp 12)), none⟩]) (.seq (.cond (.tmp 14) .skip (.exit 0)) (.seq (.block 1 (.seq (.ops [⟨(some 15), (.move (.tmp 13)), none⟩, ⟨(some 5), (.assign (.tmp 15)), none⟩]) (.seq (.draws (.take ⟨(some 16), (.move (.tmp 0)), none⟩ (.take ⟨(some 17), (.move (.tmp 5)), none⟩ (.take ⟨(some 18), (.iaddr 1 (.tmp 16) (.tmp 17)), none⟩ (.take ⟨(some 19), (.load1 (.tmp 18)), none⟩ (.take ⟨(some 20), (.move (.tmp 1)), none⟩ (.take ⟨(some 21), (.move (.tmp 5)), none⟩ (.take ⟨(some 22), (.iaddr 1 (.tmp 20) (.tmp 21)), none⟩ (.take ⟨(some 23), (.load1 (.tmp 22)), none⟩ (.take ⟨(some 24), (.bin .neq (.tmp 19) (.tmp 23)), none⟩ .done)))))))))) (.cond (.tmp 24) (.seq (.ops [⟨(some 4), (.assign (.const (.bool false))), none⟩]) .ret) .skip)))) (.ops [⟨(some 25), (.bin .add (.tmp 13) (.const (.int .i64 1))), none⟩, ⟨(some 13), (.move (.tmp 25)), none⟩]))))))) (.seq (.ops [⟨(some 4), (.assign (.const (.bool true))), none⟩]) .ret)))), [(.move (.tmp 4))]⟩
theorem k15 : cfun Tryz.prog 15 = some c15 := by kernel_rfl
def c6 : XFun := ⟨14, (.seq (.ops [⟨(some 4), (.assign (.const (.bool false))), none⟩]) (.seq (.ops [⟨(some 5), (.move (.tmp 0)), none⟩, ⟨(some 6), (.lenL (.tmp 5)), none⟩, ⟨(some 7), (.move (.tmp 1)), none⟩, ⟨(some 8), (.bin .leq (.tmp 6) (.tmp 7)), none⟩, ⟨(some 9), (.move (.tmp 8)), none⟩, ⟨(some 10), (.move (.tmp 0)), (some (9, true))⟩, ⟨(some 11), (.call 19 [(.tmp 10), (.func 20)]), (some (9, true))⟩, ⟨(some 12), (.un .not (.tmp 11)), (some (9, true))⟩, ⟨(some 13), (.pick (.tmp 9) (.tmp 12) (.const (.bool false))), none⟩, ⟨(some 4), (.assign (.tmp 13)), none⟩]) .ret)), [(.move (.tmp 4))]⟩
theorem k6 : cfun Tryz.prog 6 = some c6 := by kernel_rfl
def c20 : XFun := ⟨6, (.seq (.ops [⟨(some 1), (.box (.tmp 0)), none⟩, ⟨(some 2), (.assign (.const (.bool false))), none⟩]) (.seq (.ops [⟨(some 3), (.loadN 10 (.tmp 1)), none⟩, ⟨(some 4), (.call 17 [(.tmp 3)]), none⟩, ⟨(some 5), (.un .not (.tmp 4)), none⟩, ⟨(some 2), (.assign (.tmp 5)), none⟩]) .ret)), [(.move (.tmp 2))]⟩
theorem k20 : cfun Tryz.prog 20 = some c20 := by kernel_rfl
def c19 : XFun := ⟨9, (.seq (.ops [⟨(some 4), (.assign (.const (.bool false))), none⟩]) (.seq (.ops [⟨(some 5), (.move (.tmp 0)), none⟩, ⟨(some 6), (.move (.tmp 1)), none⟩, ⟨(some 7), (.call 39 [(.tmp 5), (.tmp 6)]), none⟩, ⟨(some 8), (.bin .geq (.tmp 7) (.const (.int .i64 0))), none⟩, ⟨(some 4), (.assign (.tmp 8)), none⟩]) .ret)), [(.move (.tmp 4))]⟩
theorem k19 : cfun Tryz.prog 19 = some c19 := by kernel_rfl
def c39 : XFun := ⟨19, (.seq (.ops [⟨(some 4), (.assign (.const (.int .i64 0))), none⟩]) (.seq (.seq (.ops [⟨(some 6), (.move (.tmp 0)), none⟩, ⟨(some 7), (.lenL (.tmp 6)), none⟩, ⟨(some 8), (.move (.const (.int .i64 0))), none⟩]) (.block 0 (.loop (.seq (.ops [⟨(some 9), (.bin .lss (.tmp 8) (.tmp 7)), none⟩]) (.seq (.cond (.tmp 9) .skip (.exit 0)) (.seq (.block 1 (.seq (.ops [⟨(some 10), (.move (.tmp 8)), none⟩, ⟨(some 5), (.assign (.tmp 10)), none⟩]) (.seq (.ops [⟨(some 11), (.move (.tmp 1)), none⟩, ⟨(some 12), (.move (.tmp 0)), none⟩, ⟨(some 13), (.move (.tmp 5)), none⟩, ⟨(some 14), (.iaddr 10 (.tmp 12) (.tmp 13)), none⟩, ⟨(some 15), (.loadN 10 (.tmp 14)), none⟩, ⟨(some 16), (.callv (.tmp 11) [(.tmp 15)]), none⟩]) (.cond (.tmp 16) (.seq (.ops [⟨(some 17), (.move (.tmp 5)), none⟩, ⟨(some 4), (.assign (.tmp 17)), none⟩]) .ret) .skip)))) (.ops [⟨(some 18), (.bin .add (.tmp 8) (.const (.int .i64 1))), none⟩, ⟨(some 8), (.move (.tmp 18)), none⟩]))))))) (.seq (.ops [⟨(some 4), (.assign (.const (.int .i64 (-1)))), none⟩]) .ret))), [(.move (.tmp 4))]⟩
theorem k39 : cfun Tryz.prog 39 = some c39 := by kernel_rfl
end Go.Proofs.YtknohkmpficjgaaGreatDoor.Ax
namespace Go.Proofs.YtknohkmpficjgaaGreatDoor.Ax
open Go.RowKit Go By YtknohkmpficjgaaGreatDoor.Nm Sc Dg
set_option maxRecDepth 10000
def erF (code text : List UInt8) : Bk := ⟨69, 0, [], [], [], 0, 0, [], [], [], [⟨83, [69, 82, 82, 79, 82]⟩, ⟨86, [69, 82, 82, 79, 82]⟩, ⟨67, code⟩, ⟨77, text⟩]⟩
theorem er_make (sev code text : List UInt8) (h : List (List AV)) : Contract Tryz.prog 158 [.v (.string (strB sev)), .v (.string (strB code)), .v (.string (strB text))] h (.sl 2 (enc fiC [⟨83, sev⟩, ⟨86, sev⟩, ⟨67, code⟩, ⟨77, text⟩]) none .no) h [] := by
 refine contract_of k158 mixed (by simp [c158]) fun hh hargs => ?_
 simp [c158, hh, fiC_mk]
theorem er_told (sev code text : List UInt8) (h : List (List AV)) : Contract Tryz.prog 97 [.v (.string (strB sev)), .v (.string (strB code)), .v (.string (strB text))] h (.agg (bkC ⟨69, 0, [], [], [], 0, 0, [], [], [], [⟨83, sev⟩, ⟨86, sev⟩, ⟨67, code⟩, ⟨77, text⟩]⟩)) h [] := by
 refine contract_of k97 mixed (by simp [c97]) fun hh hargs => ?_
 simp [c97]
 refine xcall_self (by simp) (er_make _ _ _ _) ?_
 simp [hh, bkC_mk]
theorem er_error (code text : List UInt8) (h : List (List AV)) : Contract Tryz.prog 50 [.v (.string (strB code)), .v (.string (strB text))] h (.agg (bkC (erF code text))) h [] := by
 refine contract_of k50 mixed (by simp [c50]) fun hh hargs => ?_
 simp [c50]
 refine xcall_self (by simp) (er_told [69, 82, 82, 79, 82] code text _) ?_
 simp [hh, erF]
theorem sqfronts1_c (m : Fm) (h : List (List AV)) : Contract Tryz.prog 20 [.agg (fmC m)] h (.v (.bool (!plainF m))) h [] := by
 refine contract_of k20 mixed (by simp [c20]) fun hh hargs => ?_
 simp [c20]
 refine xcall_self (by simp) (plain_c m _) ?_
 simp [hh]
def sqPlain (n : Nat) (l : List Fm) : Bool := decide ((l.length : Int) <= (n : Int)) && l.all plainF
theorem sqfronts_c (l : List Fm) (n : Nat) (hn : n <= 1000) (h : List (List AV)) : Contract Tryz.prog 6 [.sl 10 (enc fmC l) none .no, .v (.int .i64 (n : Int))] h (.v (.bool (sqPlain n l))) h [] := by
 refine contract_of k6 mixed (by simp [c6]) fun hh hargs => ?_
 by_cases hL : (n : Int) < l.length
 ·have e : sqPlain n l = false := by unfold sqPlain; simp; intro h1; omega
  rw [e]
  have hL3 : ¬ l.length <= n := by omega
  simp [c6, hL3, hh]
 ·have e : sqPlain n l = !(l.any fun e => !plainF e) := by unfold sqPlain; rw [<- List.not_all_eq_any_not]; simp; omega
  rw [e]
  have hL2 : l.length <= n := by omega
  simp [c6, hL2]
  refine xcall_self (by simp) (containsN_any mixed k19 k39 fmC (fun m => !plainF m) l [] _ (by simp) (by simp) (by simp) (fun m hm => sqfronts1_c m _) (by omega)) ?_
  simp [hh]
end Go.Proofs.YtknohkmpficjgaaGreatDoor.Ax
namespace Go.Proofs.YtknohkmpficjgaaGreatDoor.Ax
open Go.RowKit Go By
set_option maxRecDepth 10000
structure Sx where
 text : List UInt8
 oids : List Int
def sxC (s : Sx) : List AV := [.v (.string (strB s.text)), .sl 1 (enc intC s.oids) none .no]
theorem sxC_len (s : Sx) : (sxC s).length = 2 := rfl
theorem sxC_plain (s : Sx) : ∀ c ∈ sxC s, c.idOf = none := by simp [sxC]
theorem sxC_lt (n : Nat) (s : Sx) : ltL n (sxC s) := by simp [sxC]
structure Zs where
 e : Nat
 T : Eg
 a : Nat
 clock : Nat
 st : List (KE Sx)
 p : Nat
 S : Ps
 status : Int
 skips : Bool
 over : Bool
def Zs.cells (Z : Zs) : List AV := mapC Z.clock (Z.st.map (KE.ent sxC))
def Zs.top (Z : Zs) : List AV := [.box Z.e 0, .mp Z.a 2 false, .box Z.p 0, .v (.int .u8 Z.status), .v (.bool Z.skips), .v (.bool Z.over)]
theorem Zs.top_mk (Z : Zs) : Z.top = [.box Z.e 0, .mp Z.a 2 false, .box Z.p 0, .v (.int .u8 Z.status), .v (.bool Z.skips), .v (.bool Z.over)] := rfl
def Zs.get (Z : Zs) (k : List UInt8) : Option Sx := KE.get k Z.st
def Zs.del (Z : Zs) (k : List UInt8) : Zs := { Z with st := KE.del k Z.st }
def Zs.put (Z : Zs) (k : List UInt8) (s : Sx) : Zs := { Z with clock := KE.tick k Z.clock Z.st, st := KE.put k Z.clock s Z.st }
def Zs.own (Z : Zs) (i : Nat) : List Nat := [i, Z.e, Z.T.a, Z.a]
def Zs.vars (Z : Zs) (i : Nat) : List Nat := Z.p :: (Z.own i ++ Z.S.vars)
theorem Zs.of_cells (Z : Zs) : mapOf 2 Z.cells = some (Z.clock, Z.st.map (KE.ent sxC)) := KE.ents_of sxC_len _ _
theorem Zs.keys (Z : Zs) : keysOk none (Z.st.map (KE.ent sxC)) := KE.ents_keys sxC_plain _
theorem Zs.plain (Z : Zs) : ∀ c ∈ Z.cells, c.idOf = none := KE.ents_plain sxC_plain _ _
theorem Zs.lt (Z : Zs) (n : Nat) : ltL n Z.cells := mapC_ltE fun e he => by obtain ⟨s, _, rfl⟩ := List.mem_map.1 he; exact sxC_lt n _
theorem Zs.found (Z : Zs) (k : List UInt8) (z : List AV) : Ax.found false true z (AEnt.find (.string (strB k)) (Z.st.map (KE.ent sxC)) 0) = (match Z.get k with | some s => .tup [.agg (sxC s), .v (.bool true)] | none => .tup [elA false z, .v (.bool false)]) := by
 rw [KE.found_eq]
 unfold Zs.get
 cases KE.get k Z.st <;> rfl
structure SsG (L : List (Nat × List AV)) (h : List (List AV)) (i : Nat) (Z : Zs) : Prop where
 top : h[i]? = some Z.top
 eng : EgAt h Z.e Z.T
 ents : h[Z.a]? = some Z.cells
 por : PsAt h Z.p Z.S
 nd : (Z.own i).Nodup
 sep : ∀ q ∈ Z.own i, q ≠ Z.p /\ q ∉ Z.S.vars
 tmp : ∀ t ∈ L, h[t.1]? = some t.2 /\ t.1 ∉ Z.vars i
 pl : plainH h
section
variable {L : List (Nat × List AV)} {h : List (List AV)} {i : Nat} {Z : Zs}
theorem SsG.i_lt (g : SsG L h i Z) : i < h.length := (List.getElem?_eq_some_iff.1 g.top).1
theorem SsG.a_lt (g : SsG L h i Z) : Z.a < h.length := (List.getElem?_eq_some_iff.1 g.ents).1
theorem SsG.e_lt (g : SsG L h i Z) : Z.e < h.length := g.eng.i_lt
theorem SsG.ea_lt (g : SsG L h i Z) : Z.T.a < h.length := g.eng.a_lt
theorem SsG.p_lt (g : SsG L h i Z) : Z.p < h.length := g.por.i_lt
theorem SsG.hh (g : SsG L h i Z) : ltLL h.length h := g.por.lt
theorem SsG.tmp_lt (g : SsG L h i Z) {t : Nat × List AV} (ht : t ∈ L) : t.1 < h.length := (List.getElem?_eq_some_iff.1 (g.tmp t ht).1).1
theorem Zs.own_mem {q : Nat} : q ∈ Z.own i ↔ q = i \/ q = Z.e \/ q = Z.T.a \/ q = Z.a := by simp [Zs.own]
theorem SsG.own_lt (g : SsG L h i Z) {q : Nat} (hq : q ∈ Z.own i) : q < h.length := by
 rcases Zs.own_mem.1 hq with rfl | rfl | rfl | rfl
 ·exact g.i_lt
 ·exact g.e_lt
 ·exact g.ea_lt
 ·exact g.a_lt
theorem Zs.vars_mem {q : Nat} : q ∈ Z.vars i ↔ q = Z.p \/ q ∈ Z.own i \/ q ∈ Z.S.vars := by simp [Zs.vars]
theorem SsG.vars_lt (g : SsG L h i Z) {q : Nat} (hq : q ∈ Z.vars i) : q < h.length := by
 rcases Zs.vars_mem.1 hq with rfl | hq | hq
 ·exact g.p_lt
 ·exact g.own_lt hq
 ·exact g.por.var_lt hq
theorem SsG.ni (g : SsG L h i Z) (n : Nat) : ¬ i = h.length + n := by have := g.i_lt; omega
theorem SsG.oi (g : SsG L h i Z) : ¬ i = h.length := by have := g.i_lt; omega
theorem SsG.na (g : SsG L h i Z) (n : Nat) : ¬ Z.a = h.length + n := by have := g.a_lt; omega
theorem SsG.ne (g : SsG L h i Z) (n : Nat) : ¬ Z.e = h.length + n := by have := g.e_lt; omega
theorem SsG.oe (g : SsG L h i Z) : ¬ Z.e = h.length := by have := g.e_lt; omega
theorem SsG.none (g : SsG L h i Z) : SsG [] h i Z := ⟨g.top, g.eng, g.ents, g.por, g.nd, g.sep, (fun t ht => by cases ht), g.pl⟩
theorem SsG.app (g : SsG L h i Z) {c : List AV} (hc : ltL (h.length + 1) c) (hp : ∀ x ∈ c, x.idOf = .none) : SsG ((h.length, c) :: L) (h ++ [c]) i Z := by
 refine ⟨by rw [List.getElem?_append_left g.i_lt]; exact g.top, g.eng.app _, by rw [List.getElem?_append_left g.a_lt]; exact g.ents, g.por.app [c] ⟨hc, trivial⟩, g.nd, g.sep, fun t ht => ?_, plainH_append g.pl fun z hz => by rw [List.mem_singleton.1 hz]; exact hp⟩
 rcases List.mem_cons.1 ht with rfl | ht
 ·exact ⟨by simp, fun hq => by have := g.vars_lt hq; simp at this⟩
 ·obtain ⟨h1, h2⟩ := g.tmp t ht
  exact ⟨by rw [List.getElem?_append_left (g.tmp_lt ht)]; exact h1, h2⟩
theorem SsG.byP (g : SsG L h i Z) {f : FuncId} {args : List AV} {r : AV} {S' : Ps} (hd : DoesP f args h Z.p Z.S r S') :
  ∃ h' wr, Contract Tryz.prog f args h r h' wr /\ SsG L h' i { Z with S := S' } /\ (∀ t ∈ L, t.1 ∉ wr) /\ h.length <= h'.length /\ (∀ q ∈ wr, q < h.length -> q ∈ Z.S.vars) /\ (∀ q < h.length, q ∉ Z.S.vars -> h'[q]? = h[q]?) /\ (∀ q ∈ S'.vars, q ∈ Z.S.vars \/ h.length <= q) := by
 obtain ⟨h', wr, k, at_, hw, hl, hs, hv, hp⟩ := hd
 have own : ∀ q ∈ Z.own i, h'[q]? = h[q]? := fun q hq => hs q (g.own_lt hq) (g.sep q hq).2
 refine ⟨h', wr, k, ⟨(own i (by simp [Zs.own])).trans g.top, g.eng.move (own _ (by simp [Zs.own])) (own _ (by simp [Zs.own])), (own _ (by simp [Zs.own])).trans g.ents, at_, g.nd, fun q hq => ⟨(g.sep q hq).1, fun hh => ?_⟩, fun t ht => ?_, hp g.pl⟩, fun t ht hq => ?_, hl, hw, hs, hv⟩
 ·rcases hv q hh with h1 | h1
  ·exact (g.sep q hq).2 h1
  ·have := g.own_lt hq; omega
 ·obtain ⟨t1, t2⟩ := g.tmp t ht
  have hlt := g.tmp_lt ht
  rw [Zs.vars_mem, not_or, not_or] at t2
  refine ⟨(hs _ hlt t2.2.2).trans t1, fun hq => ?_⟩
  rcases Zs.vars_mem.1 hq with hq | hq | hq
  ·exact t2.1 hq
  ·exact t2.2.1 hq
  ·rcases hv _ hq with h1 | h1
   ·exact t2.2.2 h1
   ·omega
 ·obtain ⟨t1, t2⟩ := g.tmp t ht
  exact t2 (Zs.vars_mem.2 (.inr (.inr (hw _ hq (g.tmp_lt ht)))))
theorem SsG.off (g : SsG L h i Z) {wr : List Nat} (hw : ∀ q ∈ wr, q < h.length -> q ∈ Z.S.vars) : i ∉ wr /\ Z.e ∉ wr /\ Z.T.a ∉ wr /\ Z.a ∉ wr /\ Z.p ∉ wr := by
 have own : ∀ q ∈ Z.own i, q ∉ wr := fun q hq hh => (g.sep q hq).2 (hw q hh (g.own_lt hq))
 exact ⟨own _ (by simp [Zs.own]), own _ (by simp [Zs.own]), own _ (by simp [Zs.own]), own _ (by simp [Zs.own]), fun hh => g.por.i_not (hw _ hh g.p_lt)⟩
theorem SsG.set (g : SsG L h i Z) {Z' : Zs} {q : Nat} {cs : List AV} (hq : q ∈ Z.own i) (he : Z'.e = Z.e) (hT : Z'.T.a = Z.T.a) (ha : Z'.a = Z.a) (hp : Z'.p = Z.p) (hS : Z'.S = Z.S) (hlt : ltL h.length cs) (hid : ∀ x ∈ cs, x.idOf = .none)
  (htop : (h.set q cs)[i]? = some Z'.top) (heng : (h.set q cs)[Z.e]? = some (egC Z'.T.a Z'.T.n) /\ (h.set q cs)[Z.T.a]? = some Z'.T.cells) (hents : (h.set q cs)[Z.a]? = some Z'.cells) : SsG L (h.set q cs) i Z' := by
 have hown : Z'.own i = Z.own i := by unfold Zs.own; rw [he, hT, ha]
 have hvars : Z'.vars i = Z.vars i := by unfold Zs.vars; rw [hown, hp, hS]
 obtain ⟨s1, s2⟩ := g.sep q hq
 have hl := ltLL_set (i := q) g.hh hlt
 refine ⟨htop, ⟨by rw [he]; exact heng.1, by rw [hT]; exact heng.2, by rw [he, hT]; exact g.eng.apart⟩, by rw [ha]; exact hents, ?_, by rw [hown]; exact g.nd, by rw [hown, hp, hS]; exact g.sep, fun t ht => ?_, plainH_set g.pl hid _⟩
 ·rw [hp, hS]
  exact g.por.move (List.getElem?_set_ne s1) (fun p hp2 => List.getElem?_set_ne fun e => s2 (by rw [e]; exact hp2)) (by rw [List.length_set]; exact hl)
 ·obtain ⟨t1, t2⟩ := g.tmp t ht
  refine ⟨by rw [List.getElem?_set_ne fun e => t2 (by rw [<- e]; exact Zs.vars_mem.2 (.inr (.inl hq)))]; exact t1, by rw [hvars]; exact t2⟩
theorem SsG.nd4 (g : SsG L h i Z) : i ≠ Z.e /\ i ≠ Z.T.a /\ i ≠ Z.a /\ Z.e ≠ Z.T.a /\ Z.e ≠ Z.a /\ Z.T.a ≠ Z.a := by
 have := g.nd
 simp [Zs.own] at this
 omega
theorem Zs.top_lt (Z : Zs) {n : Nat} (h1 : Z.e < n) (h2 : Z.a < n) (h3 : Z.p < n) : ltL n Z.top := by simp [Zs.top, h1, h2, h3]
theorem Zs.top_id (Z : Zs) : ∀ x ∈ Z.top, x.idOf = .none := by simp [Zs.top]
theorem SsG.setTop (g : SsG L h i Z) (st : Int) (sk ov : Bool) : SsG L (h.set i { Z with status := st, skips := sk, over := ov }.top) i { Z with status := st, skips := sk, over := ov } := by
 obtain ⟨n1, n2, n3, _⟩ := g.nd4
 refine g.set (q := i) (by simp [Zs.own]) rfl rfl rfl rfl rfl (Zs.top_lt _ g.e_lt g.a_lt g.p_lt) (Zs.top_id _) (List.getElem?_set_self g.i_lt) ⟨?_, ?_⟩ ?_
 ·rw [List.getElem?_set_ne n1]; exact g.eng.top
 ·rw [List.getElem?_set_ne n2]; exact g.eng.ents
 ·rw [List.getElem?_set_ne n3]; exact g.ents
theorem SsG.setEnts (g : SsG L h i Z) (c : Nat) (l : List (KE Sx)) : SsG L (h.set Z.a { Z with clock := c, st := l }.cells) i { Z with clock := c, st := l } := by
 obtain ⟨n1, n2, n3, n4, n5, n6⟩ := g.nd4
 refine g.set (q := Z.a) (by simp [Zs.own]) rfl rfl rfl rfl rfl (Zs.lt _ _) (Zs.plain _) ?_ ⟨?_, ?_⟩ (List.getElem?_set_self g.a_lt)
 ·rw [List.getElem?_set_ne (Ne.symm n3)]; exact g.top
 ·rw [List.getElem?_set_ne (Ne.symm n5)]; exact g.eng.top
 ·rw [List.getElem?_set_ne (Ne.symm n6)]; exact g.eng.ents
theorem SsG.setEng (g : SsG L h i Z) (n : Nat) : SsG L (h.set Z.e (egC Z.T.a n)) i { Z with T := { Z.T with n := n } } := by
 obtain ⟨n1, n2, n3, n4, n5, n6⟩ := g.nd4
 have ha := g.ea_lt
 refine g.set (q := Z.e) (by simp [Zs.own]) rfl rfl rfl rfl rfl (by simp [egC, ha]) (by simp [egC]) ?_ ⟨List.getElem?_set_self g.e_lt, ?_⟩ ?_
 ·rw [List.getElem?_set_ne (Ne.symm n1)]; exact g.top
 ·rw [List.getElem?_set_ne n4]; exact g.eng.ents
 ·rw [List.getElem?_set_ne n5]; exact g.ents
end
def DoesS (f : FuncId) (args : List AV) (h : List (List AV)) (i : Nat) (Z : Zs) (r : List (List AV) -> AV -> Prop) (Z' : Zs) : Prop :=
 ∃ h' wr v, Contract Tryz.prog f args h v h' wr /\ r h' v /\ SsG [] h' i Z' /\ (∀ q ∈ wr, q < h.length -> q ∈ Z.vars i) /\ h.length <= h'.length /\ (∀ q < h.length, q ∉ Z.vars i -> h'[q]? = h[q]?) /\ (∀ q ∈ Z'.vars i, q ∈ Z.vars i \/ h.length <= q)
section
variable {L : List (Nat × List AV)} {h : List (List AV)} {i : Nat} {Z : Zs}
theorem SsG.byS (g : SsG L h i Z) {f : FuncId} {args : List AV} {r : List (List AV) -> AV -> Prop} {Z' : Zs} (hd : DoesS f args h i Z r Z') :
  ∃ h' wr v, Contract Tryz.prog f args h v h' wr /\ r h' v /\ SsG L h' i Z' /\ (∀ t ∈ L, t.1 ∉ wr) /\ h.length <= h'.length /\ (∀ q ∈ wr, q < h.length -> q ∈ Z.vars i) /\ (∀ q < h.length, q ∉ Z.vars i -> h'[q]? = h[q]?) /\ (∀ q ∈ Z'.vars i, q ∈ Z.vars i \/ h.length <= q) := by
 obtain ⟨h', wr, v, k, hr, g', hw, hl, hs, hv⟩ := hd
 refine ⟨h', wr, v, k, hr, ⟨g'.top, g'.eng, g'.ents, g'.por, g'.nd, g'.sep, fun t ht => ?_, g'.pl⟩, fun t ht hq => (g.tmp t ht).2 (hw _ hq (g.tmp_lt ht)), hl, hw, hs, hv⟩
 obtain ⟨t1, t2⟩ := g.tmp t ht
 refine ⟨(hs _ (g.tmp_lt ht) t2).trans t1, fun hq => ?_⟩
 rcases hv _ hq with h1 | h1
 ·exact t2 h1
 ·have := g.tmp_lt ht; omega
end
end Go.Proofs.YtknohkmpficjgaaGreatDoor.Ax
