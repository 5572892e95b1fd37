/- Layer 4 (frame) over values without memory: a framer is a variable of five cells; its rest is owned by its cell. -/
import Derived.Test.YtlbgjlmokpkkeaaGreatDoorQAxX
import Derived.Test.YtlbgjlmokpkkeaaGreatDoorRows
import Derived.Test.YtlbgjlmokpkkeaaGreatDoorQAxKc0
import Derived.Test.YtlbgjlmokpkkeaaGreatDoorQAxRo
/- The texts of functions over values without memory, as the kernel reckons them out of the program. -/
namespace Go.Proofs.YtlbgjlmokpkkeaaGreatDoor.Ax
open Go.RowKit Go By

def c33 : XFun := ⟨31, (.seq (.ops [⟨(some 6), (.assign (.const (.pointer none))), none⟩, ⟨(some 7), (.assign (.const (.int .i64 0))), none⟩]) (.seq (.seq (.ops [⟨(some 8), (.move (.tmp 0)), none⟩, ⟨(some 9), (.bin .lss (.tmp 8) (.const (.int .i64 4))), none⟩, ⟨(some 10), (.move (.tmp 9)), none⟩, ⟨(some 11), (.move (.tmp 0)), (some (10, false))⟩, ⟨(some 12), (.bin .gtr (.tmp 11) (.const (.int .i64 65536))), (some (10, false))⟩, ⟨(some 13), (.pick (.tmp 10) (.const (.bool true)) (.tmp 12)), none⟩, ⟨(some 14), (.move (.tmp 13)), none⟩, ⟨(some 15), (.move (.tmp 1)), (some (14, false))⟩, ⟨(some 16), (.move (.tmp 0)), (some (14, false))⟩, ⟨(some 17), (.bin .add (.tmp 16) (.const (.int .i64 1))), (some (14, false))⟩, ⟨(some 18), (.bin .lss (.tmp 15) (.tmp 17)), (some (14, false))⟩, ⟨(some 19), (.pick (.tmp 14) (.const (.bool true)) (.tmp 18)), none⟩, ⟨(some 20), (.move (.tmp 19)), none⟩, ⟨(some 21), (.move (.tmp 1)), (some (20, false))⟩, ⟨(some 22), (.bin .gtr (.tmp 21) (.const (.int .i64 262144))), (some (20, false))⟩, ⟨(some 23), (.pick (.tmp 20) (.const (.bool true)) (.tmp 22)), none⟩]) (.cond (.tmp 23) (.seq (.ops [⟨(some 6), (.assign (.const (.pointer none))), none⟩, ⟨(some 7), (.assign (.const (.int .i64 1))), none⟩]) .ret) .skip)) (.seq (.ops [⟨(some 24), (.move (.tmp 2)), none⟩, ⟨(some 25), (.un .not (.tmp 24)), none⟩, ⟨(some 26), (.move (.tmp 0)), none⟩, ⟨(some 27), (.build [(.v (.bool false)), (.v (.int .i64 0))] [(0, (1, (.tmp 25))), (1, (1, (.tmp 26)))]), none⟩, ⟨(some 28), (.move (.tmp 1)), none⟩, ⟨(some 29), (.build [(.v (.bool false)), (.v (.int .i64 0)), (.v (.int .i64 0)), (.sl 0 [] (some true) .exact), (.v (.int .i64 0))] [(0, (2, (.tmp 27))), (2, (1, (.tmp 28)))]), none⟩, ⟨(some 30), (.box (.tmp 29)), none⟩, ⟨(some 6), (.assign (.tmp 30)), none⟩, ⟨(some 7), (.assign (.const (.int .i64 0))), none⟩]) .ret))), [(.move (.tmp 6)), (.move (.tmp 7))]⟩
theorem k33 : cfun Tryz.prog 33 = some c33 := by kernel_rfl
def c29 : XFun := ⟨30, (.seq (.ops [⟨(some 4), (.assign (.const (.int .i64 0))), none⟩]) (.seq (.seq (.ops [⟨(some 5), (.move (.tmp 0)), none⟩, ⟨(some 6), (.call 50 [(.tmp 5)]), none⟩, ⟨(some 7), (.un .not (.tmp 6)), none⟩]) (.cond (.tmp 7) (.seq (.ops [⟨(some 4), (.assign (.const (.int .i64 2))), none⟩]) .ret) .skip)) (.seq (.seq (.draws (.take ⟨(some 8), (.move (.tmp 1)), none⟩ (.take ⟨(some 9), (.lenL (.tmp 8)), none⟩ (.take ⟨(some 10), (.move (.tmp 0)), none⟩ (.take ⟨(some 11), (.nilCheck (.tmp 10)), none⟩ (.take ⟨(some 12), (.faddr 2 (.tmp 11)), none⟩ (.take ⟨(some 13), (.load1 (.tmp 12)), none⟩ (.take ⟨(some 14), (.move (.tmp 0)), none⟩ (.take ⟨(some 15), (.nilCheck (.tmp 14)), none⟩ (.take ⟨(some 16), (.faddr 3 (.tmp 15)), none⟩ (.take ⟨(some 17), (.load1 (.tmp 16)), none⟩ (.take ⟨(some 18), (.lenL (.tmp 17)), none⟩ (.take ⟨(some 19), (.bin .sub (.tmp 13) (.tmp 18)), none⟩ (.take ⟨(some 20), (.bin .gtr (.tmp 9) (.tmp 19)), none⟩ .done)))))))))))))) (.cond (.tmp 20) (.seq (.ops [⟨(some 4), (.assign (.const (.int .i64 6))), none⟩]) .ret) .skip)) (.seq (.ops [⟨(some 21), (.move (.tmp 0)), none⟩, ⟨(some 22), (.move (.tmp 0)), none⟩, ⟨(some 23), (.nilCheck (.tmp 22)), none⟩, ⟨(some 24), (.faddr 3 (.tmp 23)), none⟩, ⟨(some 25), (.load1 (.tmp 24)), none⟩, ⟨(some 26), (.move (.tmp 1)), none⟩, ⟨(some 27), (.append 1 1 (.tmp 25) (.tmp 26)), none⟩, ⟨(some 28), (.nilCheck (.tmp 21)), none⟩, ⟨(some 29), (.faddr 3 (.tmp 28)), none⟩, ⟨none, (.store 1 (.tmp 29) (.tmp 27)), none⟩]) (.seq (.ops [⟨(some 4), (.assign (.const (.int .i64 0))), none⟩]) .ret))))), [(.move (.tmp 4))]⟩
theorem k29 : cfun Tryz.prog 29 = some c29 := by kernel_rfl
def c24 : XFun := ⟨28, (.seq (.ops [⟨(some 2), (.alloc [(.v (.int .u8 0)), (.sl 0 [] (some true) .exact)]), none⟩, ⟨(some 3), (.assign (.const (.bool false))), none⟩, ⟨(some 4), (.assign (.const (.int .i64 0))), none⟩]) (.seq (.ops [⟨(some 9), (.move (.tmp 0)), none⟩, ⟨(some 10), (.call 42 [(.tmp 9)]), none⟩, ⟨(some 8), (.move (.tmp 10)), none⟩, ⟨(some 11), (.extract (.tmp 8) 0), none⟩, ⟨(some 12), (.extract (.tmp 8) 1), none⟩, ⟨(some 13), (.extract (.tmp 8) 2), none⟩, ⟨(some 5), (.alloc [(.v (.int .u8 0)), (.sl 0 [] (some true) .exact)]), none⟩, ⟨none, (.store 2 (.tmp 5) (.tmp 11)), none⟩, ⟨(some 6), (.assign (.tmp 12)), none⟩, ⟨(some 7), (.assign (.tmp 13)), none⟩]) (.seq (.seq (.ops [⟨(some 14), (.move (.tmp 6)), none⟩, ⟨(some 15), (.bin .eql (.tmp 14) (.const (.int .i64 0))), none⟩]) (.cond (.tmp 15) (.seq (.ops [⟨(some 16), (.build [(.v (.int .u8 0)), (.sl 0 [] (some true) .exact)] []), none⟩, ⟨(some 17), (.move (.tmp 7)), none⟩, ⟨none, (.store 2 (.tmp 2) (.tmp 16)), none⟩, ⟨(some 3), (.assign (.const (.bool false))), none⟩, ⟨(some 4), (.assign (.tmp 17)), none⟩]) .ret) .skip)) (.seq (.ops [⟨(some 18), (.move (.tmp 0)), none⟩, ⟨(some 19), (.move (.tmp 0)), none⟩, ⟨(some 20), (.nilCheck (.tmp 19)), none⟩, ⟨(some 21), (.faddr 3 (.tmp 20)), none⟩, ⟨(some 22), (.load1 (.tmp 21)), none⟩, ⟨(some 23), (.move (.tmp 6)), none⟩, ⟨(some 24), (.slice 1 (.tmp 22) (some (.tmp 23)) none none), none⟩, ⟨(some 25), (.nilCheck (.tmp 18)), none⟩, ⟨(some 26), (.faddr 3 (.tmp 25)), none⟩, ⟨none, (.store 1 (.tmp 26) (.tmp 24)), none⟩]) (.seq (.ops [⟨(some 27), (.loadN 2 (.tmp 5)), none⟩, ⟨none, (.store 2 (.tmp 2) (.tmp 27)), none⟩, ⟨(some 3), (.assign (.const (.bool true))), none⟩, ⟨(some 4), (.assign (.const (.int .i64 0))), none⟩]) .ret))))), [(.loadN 2 (.tmp 2)), (.move (.tmp 3)), (.move (.tmp 4))]⟩
theorem k24 : cfun Tryz.prog 24 = some c24 := by kernel_rfl
def c49 : XFun := ⟨8, (.seq (.ops [⟨(some 2), (.move (.tmp 0)), none⟩, ⟨(some 3), (.call 50 [(.tmp 2)]), none⟩]) (.cond (.tmp 3) (.ops [⟨(some 4), (.move (.tmp 0)), none⟩, ⟨(some 5), (.nilCheck (.tmp 4)), none⟩, ⟨(some 6), (.faddr 0 (.tmp 5)), none⟩, ⟨(some 7), (.faddr 0 (.tmp 6)), none⟩, ⟨none, (.store 1 (.tmp 7) (.const (.bool true))), none⟩]) .skip)), []⟩
theorem k49 : cfun Tryz.prog 49 = some c49 := by kernel_rfl
def c50 : XFun := ⟨13, (.seq (.ops [⟨(some 2), (.assign (.const (.bool false))), none⟩]) (.seq (.ops [⟨(some 3), (.move (.tmp 0)), none⟩, ⟨(some 4), (.pnileq true (.tmp 3)), none⟩, ⟨(some 5), (.move (.tmp 4)), none⟩, ⟨(some 6), (.move (.tmp 0)), (some (5, true))⟩, ⟨(some 7), (.nilCheck (.tmp 6)), (some (5, true))⟩, ⟨(some 8), (.faddr 0 (.tmp 7)), (some (5, true))⟩, ⟨(some 9), (.faddr 1 (.tmp 8)), (some (5, true))⟩, ⟨(some 10), (.load1 (.tmp 9)), (some (5, true))⟩, ⟨(some 11), (.bin .gtr (.tmp 10) (.const (.int .i64 0))), (some (5, true))⟩, ⟨(some 12), (.pick (.tmp 5) (.tmp 11) (.const (.bool false))), none⟩, ⟨(some 2), (.assign (.tmp 12)), none⟩]) .ret)), [(.move (.tmp 2))]⟩
theorem k50 : cfun Tryz.prog 50 = some c50 := by kernel_rfl
def c42 : XFun := ⟨60, (.seq (.ops [⟨(some 2), (.alloc [(.v (.int .u8 0)), (.sl 0 [] (some true) .exact)]), none⟩, ⟨(some 3), (.assign (.const (.int .i64 0))), none⟩, ⟨(some 4), (.assign (.const (.int .i64 0))), none⟩]) (.seq (.seq (.ops [⟨(some 7), (.move (.tmp 0)), none⟩, ⟨(some 8), (.call 50 [(.tmp 7)]), none⟩, ⟨(some 9), (.un .not (.tmp 8)), none⟩]) (.cond (.tmp 9) (.seq (.ops [⟨(some 10), (.build [(.v (.int .u8 0)), (.sl 0 [] (some true) .exact)] []), none⟩, ⟨none, (.store 2 (.tmp 2) (.tmp 10)), none⟩, ⟨(some 3), (.assign (.const (.int .i64 0))), none⟩, ⟨(some 4), (.assign (.const (.int .i64 2))), none⟩]) .ret) .skip)) (.seq (.seq (.ops [⟨(some 11), (.move (.tmp 0)), none⟩, ⟨(some 12), (.nilCheck (.tmp 11)), none⟩, ⟨(some 13), (.faddr 4 (.tmp 12)), none⟩, ⟨(some 14), (.load1 (.tmp 13)), none⟩, ⟨(some 15), (.bin .neq (.tmp 14) (.const (.int .i64 0))), none⟩]) (.cond (.tmp 15) (.seq (.draws (.take ⟨(some 16), (.build [(.v (.int .u8 0)), (.sl 0 [] (some true) .exact)] []), none⟩ (.take ⟨(some 17), (.move (.tmp 0)), none⟩ (.take ⟨(some 18), (.nilCheck (.tmp 17)), none⟩ (.take ⟨(some 19), (.faddr 4 (.tmp 18)), none⟩ (.take ⟨(some 20), (.load1 (.tmp 19)), none⟩ (.only ⟨none, (.store 2 (.tmp 2) (.tmp 16)), none⟩ (.take ⟨(some 3), (.assign (.const (.int .i64 0))), none⟩ (.take ⟨(some 4), (.assign (.tmp 20)), none⟩ .done))))))))) .ret) .skip)) (.seq (.draws (.take ⟨(some 22), (.move (.tmp 0)), none⟩ (.take ⟨(some 23), (.nilCheck (.tmp 22)), none⟩ (.take ⟨(some 24), (.faddr 0 (.tmp 23)), none⟩ (.take ⟨(some 25), (.move (.tmp 0)), none⟩ (.take ⟨(some 26), (.nilCheck (.tmp 25)), none⟩ (.take ⟨(some 27), (.faddr 3 (.tmp 26)), none⟩ (.take ⟨(some 28), (.load1 (.tmp 27)), none⟩ (.only ⟨(some 29), (.call 62 [(.tmp 24), (.tmp 28)]), none⟩ (.take ⟨(some 21), (.move (.tmp 29)), none⟩ (.take ⟨(some 30), (.extract (.tmp 21) 0), none⟩ (.take ⟨(some 31), (.extract (.tmp 21) 1), none⟩ (.take ⟨(some 5), (.assign (.tmp 30)), none⟩ (.take ⟨(some 6), (.assign (.tmp 31)), none⟩ .done)))))))))))))) (.seq (.ops [⟨(some 32), (.move (.tmp 0)), none⟩, ⟨(some 33), (.move (.tmp 6)), none⟩, ⟨(some 34), (.nilCheck (.tmp 32)), none⟩, ⟨(some 35), (.faddr 4 (.tmp 34)), none⟩, ⟨none, (.store 1 (.tmp 35) (.tmp 33)), none⟩]) (.seq (.seq (.ops [⟨(some 36), (.move (.tmp 5)), none⟩, ⟨(some 37), (.bin .eql (.tmp 36) (.const (.int .i64 0))), none⟩, ⟨(some 38), (.move (.tmp 37)), none⟩, ⟨(some 39), (.move (.tmp 5)), (some (38, false))⟩, ⟨(some 40), (.move (.tmp 0)), (some (38, false))⟩, ⟨(some 41), (.nilCheck (.tmp 40)), (some (38, false))⟩, ⟨(some 42), (.faddr 3 (.tmp 41)), (some (38, false))⟩, ⟨(some 43), (.load1 (.tmp 42)), (some (38, false))⟩, ⟨(some 44), (.lenL (.tmp 43)), (some (38, false))⟩, ⟨(some 45), (.bin .gtr (.tmp 39) (.tmp 44)), (some (38, false))⟩, ⟨(some 46), (.pick (.tmp 38) (.const (.bool true)) (.tmp 45)), none⟩]) (.cond (.tmp 46) (.seq (.ops [⟨(some 47), (.build [(.v (.int .u8 0)), (.sl 0 [] (some true) .exact)] []), none⟩, ⟨(some 48), (.move (.tmp 6)), none⟩, ⟨none, (.store 2 (.tmp 2) (.tmp 47)), none⟩, ⟨(some 3), (.assign (.const (.int .i64 0))), none⟩, ⟨(some 4), (.assign (.tmp 48)), none⟩]) .ret) .skip)) (.seq (.draws (.take ⟨(some 49), (.move (.tmp 0)), none⟩ (.take ⟨(some 50), (.nilCheck (.tmp 49)), none⟩ (.take ⟨(some 51), (.faddr 0 (.tmp 50)), none⟩ (.take ⟨(some 52), (.move (.tmp 0)), none⟩ (.take ⟨(some 53), (.nilCheck (.tmp 52)), none⟩ (.take ⟨(some 54), (.faddr 3 (.tmp 53)), none⟩ (.take ⟨(some 55), (.load1 (.tmp 54)), none⟩ (.take ⟨(some 56), (.move (.tmp 5)), none⟩ (.take ⟨(some 57), (.slice 1 (.tmp 55) none (some (.tmp 56)) none), none⟩ (.take ⟨(some 59), (.move (.tmp 5)), none⟩ (.only ⟨(some 58), (.call 63 [(.tmp 51), (.tmp 57)]), none⟩ (.only ⟨none, (.store 2 (.tmp 2) (.tmp 58)), none⟩ (.take ⟨(some 3), (.assign (.tmp 59)), none⟩ (.take ⟨(some 4), (.assign (.const (.int .i64 0))), none⟩ .done))))))))))))))) .ret))))))), [(.loadN 2 (.tmp 2)), (.move (.tmp 3)), (.move (.tmp 4))]⟩
theorem k42 : cfun Tryz.prog 42 = some c42 := by kernel_rfl
def c85 : XFun := ⟨7, (.seq (.ops [⟨(some 2), (.assign (.const (.int .i64 0))), none⟩]) (.seq (.seq (.ops [⟨(some 3), (.move (.tmp 0)), none⟩, ⟨(some 4), (.nilCheck (.tmp 3)), none⟩, ⟨(some 5), (.faddr 0 (.tmp 4)), none⟩, ⟨(some 6), (.load1 (.tmp 5)), none⟩]) (.cond (.tmp 6) (.seq (.ops [⟨(some 2), (.assign (.const (.int .i64 1))), none⟩]) .ret) .skip)) (.seq (.ops [⟨(some 2), (.assign (.const (.int .i64 0))), none⟩]) .ret))), [(.move (.tmp 2))]⟩
theorem k85 : cfun Tryz.prog 85 = some c85 := by kernel_rfl
def c62 : XFun := ⟨32, (.seq (.ops [⟨(some 4), (.assign (.const (.int .i64 0))), none⟩, ⟨(some 5), (.assign (.const (.int .i64 0))), none⟩]) (.seq (.ops [⟨(some 9), (.move (.tmp 1)), none⟩, ⟨(some 10), (.move (.tmp 0)), none⟩, ⟨(some 11), (.call 85 [(.tmp 10)]), none⟩, ⟨(some 12), (.call 84 [(.tmp 9), (.tmp 11), (.const (.int .i64 4))]), none⟩, ⟨(some 8), (.move (.tmp 12)), none⟩, ⟨(some 13), (.extract (.tmp 8) 0), none⟩, ⟨(some 14), (.extract (.tmp 8) 1), none⟩, ⟨(some 6), (.assign (.tmp 13)), none⟩, ⟨(some 7), (.assign (.tmp 14)), none⟩]) (.seq (.block 0 (.seq (.ops [⟨(some 16), (.move (.tmp 7)), none⟩, ⟨(some 17), (.bin .neq (.tmp 16) (.const (.int .i64 0))), none⟩, ⟨(some 15), (.assign (.tmp 17)), none⟩]) (.cond (.tmp 15) (.seq (.ops [⟨(some 4), (.assign (.const (.int .i64 0))), none⟩, ⟨(some 5), (.assign (.const (.int .i64 0))), none⟩]) .ret) (.seq (.ops [⟨(some 19), (.move (.tmp 6)), none⟩, ⟨(some 20), (.bin .lss (.tmp 19) (.const (.int .i64 4))), none⟩, ⟨(some 18), (.assign (.tmp 20)), none⟩]) (.cond (.tmp 18) (.seq (.ops [⟨(some 4), (.assign (.const (.int .i64 0))), none⟩, ⟨(some 5), (.assign (.const (.int .i64 4))), none⟩]) .ret) (.seq (.ops [⟨(some 22), (.move (.tmp 6)), none⟩, ⟨(some 23), (.move (.tmp 0)), none⟩, ⟨(some 24), (.nilCheck (.tmp 23)), none⟩, ⟨(some 25), (.faddr 1 (.tmp 24)), none⟩, ⟨(some 26), (.load1 (.tmp 25)), none⟩, ⟨(some 27), (.bin .gtr (.tmp 22) (.tmp 26)), none⟩, ⟨(some 21), (.assign (.tmp 27)), none⟩]) (.cond (.tmp 21) (.seq (.ops [⟨(some 4), (.assign (.const (.int .i64 0))), none⟩, ⟨(some 5), (.assign (.const (.int .i64 5))), none⟩]) .ret) .skip))))))) (.seq (.ops [⟨(some 28), (.move (.tmp 0)), none⟩, ⟨(some 29), (.call 85 [(.tmp 28)]), none⟩, ⟨(some 30), (.move (.tmp 6)), none⟩, ⟨(some 31), (.bin .add (.tmp 29) (.tmp 30)), none⟩, ⟨(some 4), (.assign (.tmp 31)), none⟩, ⟨(some 5), (.assign (.const (.int .i64 0))), none⟩]) .ret)))), [(.move (.tmp 4)), (.move (.tmp 5))]⟩
theorem k62 : cfun Tryz.prog 62 = some c62 := by kernel_rfl
def c63 : XFun := ⟨26, (.seq (.ops [⟨(some 4), (.alloc [(.v (.int .u8 0)), (.sl 0 [] (some true) .exact)]), none⟩]) (.seq (.ops [⟨(some 6), (.build [(.v (.int .u8 0)), (.sl 0 [] (some true) .exact)] []), none⟩, ⟨(some 5), (.alloc [(.v (.int .u8 0)), (.sl 0 [] (some true) .exact)]), none⟩, ⟨none, (.store 2 (.tmp 5) (.tmp 6)), none⟩]) (.seq (.seq (.ops [⟨(some 7), (.move (.tmp 0)), none⟩, ⟨(some 8), (.nilCheck (.tmp 7)), none⟩, ⟨(some 9), (.faddr 0 (.tmp 8)), none⟩, ⟨(some 10), (.load1 (.tmp 9)), none⟩]) (.cond (.tmp 10) (.ops [⟨(some 11), (.move (.tmp 1)), none⟩, ⟨(some 12), (.iaddr 1 (.tmp 11) (.const (.int .i64 0))), none⟩, ⟨(some 13), (.load1 (.tmp 12)), none⟩, ⟨(some 14), (.faddr 0 (.tmp 5)), none⟩, ⟨none, (.store 1 (.tmp 14) (.tmp 13)), none⟩]) .skip)) (.seq (.ops [⟨(some 15), (.move (.tmp 1)), none⟩, ⟨(some 16), (.move (.tmp 0)), none⟩, ⟨(some 17), (.call 85 [(.tmp 16)]), none⟩, ⟨(some 18), (.bin .add (.tmp 17) (.const (.int .i64 4))), none⟩, ⟨(some 19), (.move (.tmp 1)), none⟩, ⟨(some 20), (.lenL (.tmp 19)), none⟩, ⟨(some 21), (.move (.tmp 1)), none⟩, ⟨(some 22), (.lenL (.tmp 21)), none⟩, ⟨(some 23), (.slice 1 (.tmp 15) (some (.tmp 18)) (some (.tmp 20)) (some (.tmp 22))), none⟩, ⟨(some 24), (.faddr 1 (.tmp 5)), none⟩, ⟨none, (.store 1 (.tmp 24) (.tmp 23)), none⟩]) (.seq (.ops [⟨(some 25), (.loadN 2 (.tmp 5)), none⟩, ⟨none, (.store 2 (.tmp 4) (.tmp 25)), none⟩]) .ret))))), [(.loadN 2 (.tmp 4))]⟩
theorem k63 : cfun Tryz.prog 63 = some c63 := by kernel_rfl
end Go.Proofs.YtlbgjlmokpkkeaaGreatDoor.Ax
namespace Go.Proofs.YtlbgjlmokpkkeaaGreatDoor.Ax
open Go.RowKit Go By YtlbgjlmokpkkeaaGreatDoor.Nm Dg
set_option linter.unusedSimpArgs false
set_option linter.unusedVariables false
set_option maxRecDepth 10000

/-- A framer. -/
structure Fw where
  typed : Bool
  most : Nat
  room : Nat
  rest : List UInt8
  wrong : Int
def Fw.cells (F : Fw) (i : Nat) : List AV := [.v (.bool F.typed), .v (.int .i64 (F.most : Int)), .v (.int .i64 (F.room : Int)), .sl 1 (bytesE F.rest) none (.own (.cell i 3)), .v (.int .i64 F.wrong)]
section
variable {h : List (List AV)} {i : Nat} {F : Fw}
def Fw.ts (F : Fw) : Nat := if F.typed = true then 1 else 0
theorem wtype_c (hF : h[i]? = some (F.cells i)) : Contract Tryz.prog 85 [.box i 0] h (.v (.int .i64 (F.ts : Int))) h [] := by
  refine contract_of k85 mixed (by simp [c85]) fun hh hargs => ?_
  unfold Fw.ts
  cases ht : F.typed <;> simp [c85, hF, Fw.cells, ht, hh]
theorem wmade_c (hF : h[i]? = some (F.cells i)) (hm : 0 < F.most) : Contract Tryz.prog 50 [.box i 0] h (.v (.bool true)) h [] := by
  refine contract_of k50 mixed (by simp [c50]) fun hh hargs => ?_
  simp [c50, hF, Fw.cells, hm, hh]
/-- Bytes go behind the rest. -/
theorem wfeed_c (hF : h[i]? = some (F.cells i)) (hm : 0 < F.most) (xs : List UInt8) (hx : xs.length ≤ 1000000) (hr : F.rest.length ≤ 1000000) (hrm : F.room ≤ 1000000) (hroom : xs.length + F.rest.length ≤ F.room) :
    Contract Tryz.prog 29 [.box i 0, .sl 1 (bytesE xs) none .no] h (.v (.int .i64 0)) (h.set i ({ F with rest := F.rest ++ xs }.cells i)) [i] := by
  refine contract_of k29 mixed (by simp [c29]) fun hh hargs => ?_
  have hw : IntKind.i64.wrap ((F.room : Int) - F.rest.length) = (F.room : Int) - F.rest.length := wrap64 (by omega) (by omega)
  have hle : ¬ (F.room : Int) - F.rest.length < xs.length := by omega
  simp [c29]
  refine xcall_self (by simp) (wmade_c hF hm) ?_
  have hil := (List.getElem?_eq_some_iff.1 hF).1
  have hu : unownAt h i 3 = h.set i [.v (.bool F.typed), .v (.int .i64 (F.most : Int)), .v (.int .i64 (F.room : Int)), .sl 1 (bytesE F.rest) none .no, .v (.int .i64 F.wrong)] := by unfold unownAt; rw [hF]; rfl
  have hlt := ltLL_set (i := i) hh (cs := [.v (.bool F.typed), .v (.int .i64 (F.most : Int)), .v (.int .i64 (F.room : Int)), .sl 1 (bytesE F.rest ++ bytesE xs) none (.own (.cell i 3)), .v (.int .i64 F.wrong)]) (by simp)
  have hset : ∀ X : List AV, (h.set i X)[i]? = some X := fun X => List.getElem?_set_self hil
  simp [hF, Fw.cells, hw, hle, hu, hset, List.set_set]
  exact ⟨by omega, hlt⟩
/-- How many bytes the first message has: none, as long as that isn't known. -/
def Fw.size (F : Fw) : Nat × Int :=
  if getErr F.rest.length (F.ts : Int) 4 ≠ 0 then (0, 0)
  else if getVal F.rest (F.ts : Int) 4 < 4 then (0, 4)
  else if (F.most : Int) < getVal F.rest (F.ts : Int) 4 then (0, 5)
  else (F.ts + (getVal F.rest (F.ts : Int) 4).toNat, 0)
theorem wsize_c (hF : h[i]? = some (F.cells i)) (hm : F.most ≤ 1000000) : Contract Tryz.prog 62 [.box i 0, .sl 1 (bytesE F.rest) none .no] h (.tup [.v (.int .i64 (F.size.1 : Int)), .v (.int .i64 F.size.2)]) h [] := by
  have ht : F.ts ≤ 1 := by unfold Fw.ts; split <;> omega
  refine contract_of k62 mixed (by simp [c62]) fun hh hargs => ?_
  simp [c62]
  refine xcall_self (by simp) (wtype_c hF) ?_
  simp
  refine xcall_self (by simp) (get_c F.rest (F.ts : Int) 4 _) ?_
  unfold Fw.size
  by_cases he : getErr F.rest.length (F.ts : Int) 4 = 0
  · by_cases h4 : getVal F.rest (F.ts : Int) 4 < 4
    · simp [he, h4, hh]
    · by_cases h5 : (F.most : Int) < getVal F.rest (F.ts : Int) 4
      · simp [he, h4, h5, hF, Fw.cells, hh]
      · have hv := Int.toNat_of_nonneg (show 0 ≤ getVal F.rest (F.ts : Int) 4 by omega)
        have hw : IntKind.i64.wrap ((F.ts : Int) + getVal F.rest (F.ts : Int) 4) = (F.ts : Int) + getVal F.rest (F.ts : Int) 4 := wrap64 (by omega) (by omega)
        simp [he, h4, h5, hF, Fw.cells]
        refine xcall_self (by simp) (wtype_c hF) ?_
        simp [hw, hh]
        omega
  · simp [he, hh]
/-- The first message's parts. -/
def Fw.head (F : Fw) (xs : List UInt8) : Ms := ⟨if F.typed = true then ((xs.getD 0 0).toNat : Int) else 0, xs.drop (F.ts + 4)⟩
theorem wmessage_c (hF : h[i]? = some (F.cells i)) (xs : List UInt8) (hl : F.ts + 4 ≤ xs.length) (hx : xs.length ≤ 1000000) : Contract Tryz.prog 63 [.box i 0, .sl 1 (bytesE xs) none .no] h (.agg (msC (F.head xs))) h [] := by
  have ht : F.ts ≤ 1 := by unfold Fw.ts; split <;> omega
  have hw : IntKind.i64.wrap ((F.ts : Int) + 4) = (F.ts : Int) + 4 := wrap64 (by omega) (by omega)
  have hFx : ∀ Y, (h ++ Y)[i]? = some (F.cells i) := fun Y => by rw [List.getElem?_append_left (List.getElem?_eq_some_iff.1 hF).1]; exact hF
  refine contract_of k63 mixed (by simp [c63]) fun hh hargs => ?_
  unfold Fw.head
  have e : ((F.ts : Int) + 4).toNat = F.ts + 4 := by omega
  cases htp : F.typed with
  | true =>
    obtain ⟨x, r, rfl⟩ : ∃ x r, xs = x :: r := by
      cases xs with
      | nil => simp at hl
      | cons x r => exact ⟨x, r, rfl⟩
    have hb : bytesE (x :: r) = [.v (.int .u8 (x.toNat : Int))] :: bytesE r := rfl
    simp [c63, hFx, Fw.cells, htp, hb]
    refine xcall_self (by simp) (wtype_c (hFx _)) ?_
    simp [hw, e, msC_mk, hh]
    simp at hl
    omega
  | false =>
    simp [c63, hFx, Fw.cells, htp]
    refine xcall_self (by simp) (wtype_c (hFx _)) ?_
    simp [hw, e, msC_mk, hh]
    omega
theorem Fw.size_ok {F : Fw} (h : ¬ F.size.1 = 0) : F.ts + 4 ≤ F.size.1 ∧ F.size.2 = 0 := by
  unfold Fw.size at h ⊢
  split at h
  · exact absurd rfl h
  · split at h
    · exact absurd rfl h
    · split at h
      · exact absurd rfl h
      · rename_i h1 h2 h3
        rw [if_neg h1, if_neg h2, if_neg h3]
        exact ⟨by show _ ≤ F.ts + _; omega, rfl⟩
/-- A whole message is there. -/
theorem wfirst_whole (hF : h[i]? = some (F.cells i)) (hm : 0 < F.most) (hm2 : F.most ≤ 1000000) (hw0 : F.wrong = 0) (hr : F.rest.length ≤ 1000000) (z : ¬ F.size.1 = 0) (hle : F.size.1 ≤ F.rest.length) :
    Contract Tryz.prog 42 [.box i 0] h (.tup [.agg (msC (F.head (F.rest.take F.size.1))), .v (.int .i64 (F.size.1 : Int)), .v (.int .i64 0)]) h [i] := by
  have hil := (List.getElem?_eq_some_iff.1 hF).1
  obtain ⟨z1, z2⟩ := Fw.size_ok z
  have hFx : ∀ Y, (h ++ Y)[i]? = some (F.cells i) := fun Y => by rw [List.getElem?_append_left hil]; exact hF
  have hself : h.set i (F.cells i) = h := by
    obtain ⟨_, h2⟩ := List.getElem?_eq_some_iff.1 hF
    rw [← h2, List.set_getElem_self]
  have hset : ∀ Y, (h ++ Y).set i [.v (.bool F.typed), .v (.int .i64 (F.most : Int)), .v (.int .i64 (F.room : Int)), .sl 1 (bytesE F.rest) none (.own (.cell i 3)), .v (.int .i64 0)] = h ++ Y := fun Y => by
    have : F.cells i = [.v (.bool F.typed), .v (.int .i64 (F.most : Int)), .v (.int .i64 (F.room : Int)), .sl 1 (bytesE F.rest) none (.own (.cell i 3)), .v (.int .i64 0)] := by unfold Fw.cells; rw [hw0]
    rw [← this, List.set_append_left _ _ hil, hself]
  have ht : F.ts ≤ 1 := by unfold Fw.ts; split <;> omega
  refine contract_of k42 mixed (by simp [c42]) fun hh hargs => ?_
  simp [c42]
  refine xcall_self (by simp) (wmade_c (hFx _) hm) ?_
  simp [hFx, Fw.cells, hw0]
  refine xcall_of (wsize_c (hFx _) hm2) (by simp) (by simp) ?_
  have hgt : ¬ F.rest.length < F.size.1 := by omega
  simp [hFx, Fw.cells, hset, z, z2, hgt, hw0, hle]
  refine xcall_self (by simp) (wmessage_c (hFx _) (F.rest.take F.size.1) (by simp; omega) (by simp; omega)) ?_
  simp [hh]
  omega
/-- The first message is taken. -/
theorem wnext_whole (hF : h[i]? = some (F.cells i)) (hm : 0 < F.most) (hm2 : F.most ≤ 1000000) (hw0 : F.wrong = 0) (hr : F.rest.length ≤ 1000000) (z : ¬ F.size.1 = 0) (hle : F.size.1 ≤ F.rest.length) :
    Contract Tryz.prog 24 [.box i 0] h (.tup [.agg (msC (F.head (F.rest.take F.size.1))), .v (.bool true), .v (.int .i64 0)]) (h.set i (({ F with rest := F.rest.drop F.size.1 } : Fw).cells i)) [i] := by
  have hil := (List.getElem?_eq_some_iff.1 hF).1
  have hFx : ∀ Y, (h ++ Y)[i]? = some (F.cells i) := fun Y => by rw [List.getElem?_append_left hil]; exact hF
  have hset : ∀ (X : List AV) Y, (h ++ Y).set i X = h.set i X ++ Y := fun X Y => List.set_append_left _ _ hil
  have hget : ∀ (X : List AV) Y, (h.set i X ++ Y)[i]? = some X := fun X Y => by rw [List.getElem?_append_left (by rw [List.length_set]; exact hil), List.getElem?_set_self hil]
  refine contract_of k24 mixed (by simp [c24]) fun hh hargs => ?_
  simp [c24]
  refine xcall_self (by simp) (wfirst_whole (hFx _) hm hm2 hw0 hr z hle) ?_
  have hu : ∀ Y, unownAt (h ++ Y) i 3 = h.set i [.v (.bool F.typed), .v (.int .i64 (F.most : Int)), .v (.int .i64 (F.room : Int)), .sl 1 (bytesE F.rest) none .no, .v (.int .i64 F.wrong)] ++ Y := fun Y => by
    unfold unownAt
    rw [hFx]
    show (h ++ Y).set i _ = _
    rw [List.set_append_left _ _ hil]; rfl
  have hset2 : ∀ (X Z : List AV) Y, (h.set i X ++ Y).set i Z = h.set i Z ++ Y := fun X Z Y => by rw [List.set_append_left _ _ (by rw [List.length_set]; exact hil), List.set_set]
  have hlt := ltLL_set (i := i) hh (cs := ({ F with rest := F.rest.drop F.size.1 } : Fw).cells i) (by simp [Fw.cells])
  simp only [Fw.cells] at hlt
  simp [hFx, Fw.cells, z, hset, hget, hle, hu, hset2]
  exact hlt
/-- Messages have types from now on. -/
theorem wbegin_c (hF : h[i]? = some (F.cells i)) (hm : 0 < F.most) : Contract Tryz.prog 49 [.box i 0] h (.tup []) (h.set i (({ F with typed := true } : Fw).cells i)) [i] := by
  have hset : ∀ X : List AV, (h.set i X)[i]? = some X := fun X => List.getElem?_set_self (List.getElem?_eq_some_iff.1 hF).1
  refine contract_of k49 mixed (by simp [c49]) fun hh hargs => ?_
  have hlt := ltLL_set (i := i) hh (cs := ({ F with typed := true } : Fw).cells i) (by simp [Fw.cells])
  simp [c49]
  refine xcall_self (by simp) (wmade_c hF hm) ?_
  simp [hF, Fw.cells]
  exact hlt
theorem wleqH_front {a b : List (List AV)} : ∀ (h : List (List AV)) (k : Nat), leqH (k + h.length) a b → leqH k (h ++ a) (h ++ b)
  | [], k, hh => by simpa using hh
  | c :: r, k, hh => ⟨.inl rfl, wleqH_front r (k + 1) (by simp only [List.length_cons] at hh; rw [show k + 1 + r.length = k + (r.length + 1) by omega]; exact hh)⟩
theorem wnew_c (most room : Nat) (hello : Bool) (h1 : 4 ≤ most) (h2 : most ≤ 65536) (h3 : most + 1 ≤ room) (h4 : room ≤ 262144) (h : List (List AV)) :
    Contract Tryz.prog 33 [.v (.int .i64 (most : Int)), .v (.int .i64 (room : Int)), .v (.bool hello)] h (.tup [.box h.length 0, .v (.int .i64 0)]) (h ++ [(⟨!hello, most, room, [], 0⟩ : Fw).cells h.length]) [] := by
  have hw : IntKind.i64.wrap ((most : Int) + 1) = (most : Int) + 1 := wrap64 (by omega) (by omega)
  have q1 : ¬ (most : Int) < 4 := by omega
  have q2 : ¬ (65536 : Int) < most := by omega
  have q3 : ¬ (room : Int) < (most : Int) + 1 := by omega
  have q4 : ¬ (262144 : Int) < room := by omega
  refine contract_of k33 mixed (by simp [c33]) fun hh hargs => ?_
  simp [c33, hw, q1, q2, q3, q4, Fw.cells]
  refine ⟨wleqH_front h 0 ⟨.inr ?_, trivial⟩, ltLL_mono (Nat.le_succ _) hh⟩
  rw [Nat.zero_add]
  simp [leqC, LeqV]
end
end Go.Proofs.YtlbgjlmokpkkeaaGreatDoor.Ax
