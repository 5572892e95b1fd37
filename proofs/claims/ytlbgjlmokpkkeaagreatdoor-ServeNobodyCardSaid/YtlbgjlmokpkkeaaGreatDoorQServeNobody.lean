/- Layer 31: ServeNobody. -/
import Derived.Test.YtlbgjlmokpkkeaaGreatDoorQAxX
import Derived.Test.YtlbgjlmokpkkeaaGreatDoorRows
import Derived.Test.YtlbgjlmokpkkeaaGreatDoorQAxWo
import Derived.Test.YtlbgjlmokpkkeaaGreatDoorQAxFq
import Derived.Test.YtlbgjlmokpkkeaaGreatDoorQAxSv
import Derived.Test.YtlbgjlmokpkkeaaGreatDoorQAxEv
import Derived.Test.YtlbgjlmokpkkeaaGreatDoorQAxSf
import Derived.Test.YtlbgjlmokpkkeaaGreatDoorQAxSw
import Derived.Test.YtlbgjlmokpkkeaaGreatDoorQAxPk
import Derived.Test.YtlbgjlmokpkkeaaGreatDoorCards
import Derived.Test.YtlbgjlmokpkkeaaGreatDoorTie
import Derived.Test.YtlbgjlmokpkkeaaGreatDoorQElems
import Derived.WalkKit
import Derived.ProofKit
import Derived.OpenShut
import Derived.ShutString
import Derived.ChangeOld
import Derived.Below
import Derived.LaidMore
import Derived.LaidHandle
import Derived.LaidSub
import Derived.LaidLaws
import Derived.Lay
import Derived.SevenTiedAt
import Derived.Stop.Joined
/- The texts of functions over values without memory, as the kernel reckons them out of the program. -/
namespace Go.Proofs.YtlbgjlmokpkkeaaGreatDoor.Ax
open Go.RowKit Go By

def c47 : XFun := ⟨43, (.seq (.ops [⟨(some 2), (.alloc [(.v (.int .i64 0)), (.v (.int .i64 0)), (.v (.int .i64 0)), (.sl 0 [] (some true) .exact)]), none⟩, ⟨(some 3), (.assign (.const (.int .i64 0))), none⟩]) (.seq (.ops [⟨(some 6), (.move (.tmp 0)), none⟩, ⟨(some 7), (.call 75 [(.tmp 6)]), none⟩, ⟨(some 8), (.build [(.v (.pointer none))] [(0, (1, (.tmp 7)))]), none⟩, ⟨(some 4), (.alloc [(.v (.pointer none))]), none⟩, ⟨none, (.store 1 (.tmp 4) (.tmp 8)), none⟩]) (.seq (.ops [⟨(some 9), (.faddr 0 (.tmp 4)), none⟩, ⟨(some 10), (.load1 (.tmp 9)), none⟩, ⟨(some 11), (.call 76 [(.tmp 10), (.const (.int .i64 4))]), none⟩, ⟨(some 12), (.build [(.v (.int .i64 0)), (.v (.int .i64 0)), (.v (.int .i64 0)), (.sl 0 [] (some true) .exact)] [(0, (1, (.tmp 11)))]), none⟩, ⟨(some 5), (.alloc [(.v (.int .i64 0)), (.v (.int .i64 0)), (.v (.int .i64 0)), (.sl 0 [] (some true) .exact)]), none⟩, ⟨none, (.store 4 (.tmp 5) (.tmp 12)), none⟩]) (.seq (.seq (.ops [⟨(some 13), (.faddr 0 (.tmp 4)), none⟩, ⟨(some 14), (.load1 (.tmp 13)), none⟩, ⟨(some 15), (.call 77 [(.tmp 14)]), none⟩]) (.cond (.tmp 15) (.seq (.ops [⟨(some 16), (.build [(.v (.int .i64 0)), (.v (.int .i64 0)), (.v (.int .i64 0)), (.sl 0 [] (some true) .exact)] []), none⟩, ⟨none, (.store 4 (.tmp 2) (.tmp 16)), none⟩, ⟨(some 3), (.assign (.const (.int .i64 4))), none⟩]) .ret) .skip)) (.seq (.seq (.ops [⟨(some 17), (.faddr 0 (.tmp 5)), none⟩, ⟨(some 18), (.load1 (.tmp 17)), none⟩]) (.block 0 (.seq (.ops [⟨(some 21), (.bin .eql (.tmp 18) (.const (.int .i64 196608))), none⟩, ⟨(some 20), (.assign (.tmp 21)), none⟩]) (.cond (.tmp 20) (.ops [⟨(some 22), (.loadN 1 (.tmp 4)), none⟩, ⟨(some 23), (.call 78 [(.tmp 22)]), none⟩, ⟨(some 24), (.faddr 3 (.tmp 5)), none⟩, ⟨none, (.store 1 (.tmp 24) (.tmp 23)), none⟩]) (.seq (.ops [⟨(some 26), (.bin .eql (.tmp 18) (.const (.int .i64 80877102))), none⟩, ⟨(some 25), (.assign (.tmp 26)), none⟩]) (.cond (.tmp 25) (.seq (.ops [⟨(some 27), (.faddr 0 (.tmp 4)), none⟩, ⟨(some 28), (.load1 (.tmp 27)), none⟩, ⟨(some 29), (.call 76 [(.tmp 28), (.const (.int .i64 4))]), none⟩, ⟨(some 30), (.faddr 1 (.tmp 5)), none⟩, ⟨none, (.store 1 (.tmp 30) (.tmp 29)), none⟩]) (.ops [⟨(some 31), (.faddr 0 (.tmp 4)), none⟩, ⟨(some 32), (.load1 (.tmp 31)), none⟩, ⟨(some 33), (.call 76 [(.tmp 32), (.const (.int .i64 4))]), none⟩, ⟨(some 34), (.faddr 2 (.tmp 5)), none⟩, ⟨none, (.store 1 (.tmp 34) (.tmp 33)), none⟩])) (.seq (.ops [⟨(some 36), (.bin .eql (.tmp 18) (.const (.int .i64 80877103))), none⟩, ⟨(some 35), (.assign (.tmp 36)), none⟩]) (.cond (.tmp 35) .skip (.seq (.ops [⟨(some 19), (.build [(.v (.int .i64 0)), (.v (.int .i64 0)), (.v (.int .i64 0)), (.sl 0 [] (some true) .exact)] []), none⟩, ⟨none, (.store 4 (.tmp 2) (.tmp 19)), none⟩, ⟨(some 3), (.assign (.const (.int .i64 9))), none⟩]) .ret))))))))) (.seq (.seq (.ops [⟨(some 37), (.faddr 0 (.tmp 4)), none⟩, ⟨(some 38), (.load1 (.tmp 37)), none⟩, ⟨(some 39), (.call 68 [(.tmp 38)]), none⟩, ⟨(some 40), (.un .not (.tmp 39)), none⟩]) (.cond (.tmp 40) (.seq (.ops [⟨(some 41), (.build [(.v (.int .i64 0)), (.v (.int .i64 0)), (.v (.int .i64 0)), (.sl 0 [] (some true) .exact)] []), none⟩, ⟨none, (.store 4 (.tmp 2) (.tmp 41)), none⟩, ⟨(some 3), (.assign (.const (.int .i64 4))), none⟩]) .ret) .skip)) (.seq (.ops [⟨(some 42), (.loadN 4 (.tmp 5)), none⟩, ⟨none, (.store 4 (.tmp 2) (.tmp 42)), none⟩, ⟨(some 3), (.assign (.const (.int .i64 0))), none⟩]) .ret))))))), [(.loadN 4 (.tmp 2)), (.move (.tmp 3))]⟩
theorem k47 : cfun Tryz.prog 47 = some c47 := by kernel_rfl
def c20 : XFun := ⟨56, (.seq (.ops [⟨(some 1), (.box (.tmp 0)), none⟩, ⟨(some 2), (.assign (.const (.slice none 0 0))), none⟩, ⟨(some 3), (.assign (.const (.int .i64 0))), none⟩]) (.seq (.seq (.ops [⟨(some 6), (.loadN 4 (.tmp 1)), none⟩, ⟨(some 7), (.call 36 [(.tmp 6)]), none⟩, ⟨(some 8), (.un .not (.tmp 7)), none⟩]) (.cond (.tmp 8) (.seq (.ops [⟨(some 2), (.assign (.const (.slice none 0 0))), none⟩, ⟨(some 3), (.assign (.const (.int .i64 1))), none⟩]) .ret) .skip)) (.seq (.ops [⟨(some 9), (.faddr 0 (.tmp 1)), none⟩, ⟨(some 10), (.load1 (.tmp 9)), none⟩, ⟨(some 11), (.call 37 [(.const (.slice none 0 0)), (.tmp 10), (.const (.int .i64 4))]), none⟩, ⟨(some 4), (.assign (.tmp 11)), none⟩]) (.seq (.seq (.ops [⟨(some 12), (.faddr 0 (.tmp 1)), none⟩, ⟨(some 13), (.load1 (.tmp 12)), none⟩]) (.block 0 (.seq (.ops [⟨(some 15), (.bin .eql (.tmp 13) (.const (.int .i64 196608))), none⟩, ⟨(some 14), (.assign (.tmp 15)), none⟩]) (.cond (.tmp 14) (.seq (.seq (.ops [⟨(some 5), (.assign (.const (.int .i64 0))), none⟩]) (.block 1 (.loop (.seq (.seq (.ops [⟨(some 16), (.move (.tmp 5)), none⟩, ⟨(some 17), (.faddr 3 (.tmp 1)), none⟩, ⟨(some 18), (.load1 (.tmp 17)), none⟩, ⟨(some 19), (.lenL (.tmp 18)), none⟩, ⟨(some 20), (.bin .lss (.tmp 16) (.tmp 19)), none⟩]) (.cond (.tmp 20) .skip (.exit 1))) (.seq (.block 2 (.seq (.ops [⟨(some 23), (.move (.tmp 4)), none⟩, ⟨(some 24), (.faddr 3 (.tmp 1)), none⟩, ⟨(some 25), (.load1 (.tmp 24)), none⟩, ⟨(some 26), (.move (.tmp 5)), none⟩, ⟨(some 27), (.iaddr 2 (.tmp 25) (.tmp 26)), none⟩, ⟨(some 28), (.faddr 0 (.tmp 27)), none⟩, ⟨(some 29), (.load1 (.tmp 28)), none⟩, ⟨(some 30), (.appendS (.tmp 23) (.tmp 29)), none⟩, ⟨(some 31), (.buildSlice 1 1 [(.v (.int .u8 0))] [(0, (.const (.int .u8 0)))]), none⟩, ⟨(some 32), (.append 1 1 (.tmp 30) (.tmp 31)), none⟩, ⟨(some 4), (.assign (.tmp 32)), none⟩]) (.ops [⟨(some 33), (.move (.tmp 4)), none⟩, ⟨(some 34), (.faddr 3 (.tmp 1)), none⟩, ⟨(some 35), (.load1 (.tmp 34)), none⟩, ⟨(some 36), (.move (.tmp 5)), none⟩, ⟨(some 37), (.iaddr 2 (.tmp 35) (.tmp 36)), none⟩, ⟨(some 38), (.faddr 1 (.tmp 37)), none⟩, ⟨(some 39), (.load1 (.tmp 38)), none⟩, ⟨(some 40), (.appendS (.tmp 33) (.tmp 39)), none⟩, ⟨(some 41), (.buildSlice 1 1 [(.v (.int .u8 0))] [(0, (.const (.int .u8 0)))]), none⟩, ⟨(some 42), (.append 1 1 (.tmp 40) (.tmp 41)), none⟩, ⟨(some 4), (.assign (.tmp 42)), none⟩]))) (.ops [⟨(some 21), (.move (.tmp 5)), none⟩, ⟨(some 22), (.bin .add (.tmp 21) (.const (.int .i64 1))), none⟩, ⟨(some 5), (.assign (.tmp 22)), none⟩])))))) (.ops [⟨(some 43), (.move (.tmp 4)), none⟩, ⟨(some 44), (.buildSlice 1 1 [(.v (.int .u8 0))] [(0, (.const (.int .u8 0)))]), none⟩, ⟨(some 45), (.append 1 1 (.tmp 43) (.tmp 44)), none⟩, ⟨(some 4), (.assign (.tmp 45)), none⟩])) (.seq (.ops [⟨(some 47), (.bin .eql (.tmp 13) (.const (.int .i64 80877102))), none⟩, ⟨(some 46), (.assign (.tmp 47)), none⟩]) (.cond (.tmp 46) (.draws (.take ⟨(some 48), (.move (.tmp 4)), none⟩ (.take ⟨(some 49), (.faddr 1 (.tmp 1)), none⟩ (.take ⟨(some 50), (.load1 (.tmp 49)), none⟩ (.take ⟨(some 52), (.faddr 2 (.tmp 1)), none⟩ (.take ⟨(some 53), (.load1 (.tmp 52)), none⟩ (.only ⟨(some 51), (.call 37 [(.tmp 48), (.tmp 50), (.const (.int .i64 4))]), none⟩ (.only ⟨(some 54), (.call 37 [(.tmp 51), (.tmp 53), (.const (.int .i64 4))]), none⟩ (.take ⟨(some 4), (.assign (.tmp 54)), none⟩ .done))))))))) .skip)))))) (.seq (.ops [⟨(some 55), (.move (.tmp 4)), none⟩, ⟨(some 2), (.assign (.tmp 55)), none⟩, ⟨(some 3), (.assign (.const (.int .i64 0))), none⟩]) .ret))))), [(.move (.tmp 2)), (.move (.tmp 3))]⟩
theorem k20 : cfun Tryz.prog 20 = some c20 := by kernel_rfl
def c78 : XFun := ⟨20, (.seq (.ops [⟨(some 1), (.box (.tmp 0)), none⟩, ⟨(some 2), (.assign (.const (.slice none 0 0))), none⟩]) (.seq (.ops [⟨(some 3), (.assign (.const (.slice none 0 0))), none⟩]) (.seq .skip (.seq (.block 0 (.loop (.block 1 (.seq (.ops [⟨(some 5), (.faddr 0 (.tmp 1)), none⟩, ⟨(some 6), (.load1 (.tmp 5)), none⟩, ⟨(some 7), (.call 88 [(.tmp 6)]), none⟩, ⟨(some 4), (.assign (.tmp 7)), none⟩]) (.seq (.ops [⟨(some 8), (.move (.tmp 4)), none⟩]) (.block 2 (.seq (.ops [⟨(some 18), (.bin .eql (.tmp 8) (.const (.string (strB [])))), none⟩, ⟨(some 17), (.assign (.tmp 18)), none⟩]) (.cond (.tmp 17) (.exit 0) (.ops [⟨(some 9), (.move (.tmp 3)), none⟩, ⟨(some 10), (.move (.tmp 4)), none⟩, ⟨(some 11), (.faddr 0 (.tmp 1)), none⟩, ⟨(some 12), (.load1 (.tmp 11)), none⟩, ⟨(some 13), (.call 88 [(.tmp 12)]), none⟩, ⟨(some 14), (.build [(.v (.string (strB []))), (.v (.string (strB [])))] [(0, (1, (.tmp 10))), (1, (1, (.tmp 13)))]), none⟩, ⟨(some 15), (.buildSlice 2 1 [(.v (.string (strB []))), (.v (.string (strB [])))] [(0, (.tmp 14))]), none⟩, ⟨(some 16), (.append 2 32 (.tmp 9) (.tmp 15)), none⟩, ⟨(some 3), (.assign (.tmp 16)), none⟩]))))))))) (.seq (.ops [⟨(some 19), (.move (.tmp 3)), none⟩, ⟨(some 2), (.assign (.tmp 19)), none⟩]) .ret))))), [(.move (.tmp 2))]⟩
theorem k78 : cfun Tryz.prog 78 = some c78 := by kernel_rfl
def c36 : XFun := ⟨87, (.seq (.ops [⟨(some 1), (.box (.tmp 0)), none⟩, ⟨(some 2), (.assign (.const (.bool false))), none⟩]) (.seq (.seq (.ops [⟨(some 3), (.assign (.const (.int .i64 0))), none⟩]) (.block 0 (.loop (.seq (.seq (.ops [⟨(some 5), (.move (.tmp 3)), none⟩, ⟨(some 6), (.faddr 3 (.tmp 1)), none⟩, ⟨(some 7), (.load1 (.tmp 6)), none⟩, ⟨(some 8), (.lenL (.tmp 7)), none⟩, ⟨(some 9), (.bin .lss (.tmp 5) (.tmp 8)), none⟩]) (.cond (.tmp 9) .skip (.exit 0))) (.seq (.block 1 (.seq (.ops [⟨(some 12), (.faddr 3 (.tmp 1)), none⟩, ⟨(some 13), (.load1 (.tmp 12)), none⟩, ⟨(some 14), (.move (.tmp 3)), none⟩, ⟨(some 15), (.iaddr 2 (.tmp 13) (.tmp 14)), none⟩, ⟨(some 16), (.faddr 0 (.tmp 15)), none⟩, ⟨(some 17), (.load1 (.tmp 16)), none⟩, ⟨(some 18), (.bin .eql (.tmp 17) (.const (.string (strB [])))), none⟩, ⟨(some 19), (.move (.tmp 18)), none⟩, ⟨(some 20), (.faddr 3 (.tmp 1)), (some (19, false))⟩, ⟨(some 21), (.load1 (.tmp 20)), (some (19, false))⟩, ⟨(some 22), (.move (.tmp 3)), (some (19, false))⟩, ⟨(some 23), (.iaddr 2 (.tmp 21) (.tmp 22)), (some (19, false))⟩, ⟨(some 24), (.faddr 0 (.tmp 23)), (some (19, false))⟩, ⟨(some 25), (.load1 (.tmp 24)), (some (19, false))⟩, ⟨(some 26), (.call 54 [(.tmp 25)]), (some (19, false))⟩, ⟨(some 27), (.un .not (.tmp 26)), (some (19, false))⟩, ⟨(some 28), (.pick (.tmp 19) (.const (.bool true)) (.tmp 27)), none⟩, ⟨(some 29), (.move (.tmp 28)), none⟩, ⟨(some 30), (.faddr 3 (.tmp 1)), (some (29, false))⟩, ⟨(some 31), (.load1 (.tmp 30)), (some (29, false))⟩, ⟨(some 32), (.move (.tmp 3)), (some (29, false))⟩, ⟨(some 33), (.iaddr 2 (.tmp 31) (.tmp 32)), (some (29, false))⟩, ⟨(some 34), (.faddr 1 (.tmp 33)), (some (29, false))⟩, ⟨(some 35), (.load1 (.tmp 34)), (some (29, false))⟩, ⟨(some 36), (.call 54 [(.tmp 35)]), (some (29, false))⟩, ⟨(some 37), (.un .not (.tmp 36)), (some (29, false))⟩, ⟨(some 38), (.pick (.tmp 29) (.const (.bool true)) (.tmp 37)), none⟩]) (.cond (.tmp 38) (.seq (.ops [⟨(some 2), (.assign (.const (.bool false))), none⟩]) .ret) .skip))) (.ops [⟨(some 10), (.move (.tmp 3)), none⟩, ⟨(some 11), (.bin .add (.tmp 10) (.const (.int .i64 1))), none⟩, ⟨(some 3), (.assign (.tmp 11)), none⟩])))))) (.seq (.ops [⟨(some 39), (.faddr 1 (.tmp 1)), none⟩, ⟨(some 40), (.load1 (.tmp 39)), none⟩, ⟨(some 41), (.bin .eql (.tmp 40) (.const (.int .i64 0))), none⟩, ⟨(some 42), (.move (.tmp 41)), none⟩, ⟨(some 43), (.faddr 2 (.tmp 1)), (some (42, true))⟩, ⟨(some 44), (.load1 (.tmp 43)), (some (42, true))⟩, ⟨(some 45), (.bin .eql (.tmp 44) (.const (.int .i64 0))), (some (42, true))⟩, ⟨(some 46), (.pick (.tmp 42) (.tmp 45) (.const (.bool false))), none⟩, ⟨(some 4), (.assign (.tmp 46)), none⟩]) (.seq (.seq (.ops [⟨(some 47), (.faddr 0 (.tmp 1)), none⟩, ⟨(some 48), (.load1 (.tmp 47)), none⟩]) (.block 2 (.seq (.ops [⟨(some 50), (.bin .eql (.tmp 48) (.const (.int .i64 196608))), none⟩, ⟨(some 49), (.assign (.tmp 50)), none⟩]) (.cond (.tmp 49) (.seq (.ops [⟨(some 51), (.move (.tmp 4)), none⟩, ⟨(some 2), (.assign (.tmp 51)), none⟩]) .ret) (.seq (.ops [⟨(some 53), (.bin .eql (.tmp 48) (.const (.int .i64 80877103))), none⟩, ⟨(some 52), (.assign (.tmp 53)), none⟩]) (.cond (.tmp 52) (.seq (.ops [⟨(some 54), (.move (.tmp 4)), none⟩, ⟨(some 55), (.move (.tmp 54)), none⟩, ⟨(some 56), (.faddr 3 (.tmp 1)), (some (55, true))⟩, ⟨(some 57), (.load1 (.tmp 56)), (some (55, true))⟩, ⟨(some 58), (.lenL (.tmp 57)), (some (55, true))⟩, ⟨(some 59), (.bin .eql (.tmp 58) (.const (.int .i64 0))), (some (55, true))⟩, ⟨(some 60), (.pick (.tmp 55) (.tmp 59) (.const (.bool false))), none⟩, ⟨(some 2), (.assign (.tmp 60)), none⟩]) .ret) (.seq (.ops [⟨(some 62), (.bin .eql (.tmp 48) (.const (.int .i64 80877102))), none⟩, ⟨(some 61), (.assign (.tmp 62)), none⟩]) (.cond (.tmp 61) (.seq (.ops [⟨(some 63), (.faddr 3 (.tmp 1)), none⟩, ⟨(some 64), (.load1 (.tmp 63)), none⟩, ⟨(some 65), (.lenL (.tmp 64)), none⟩, ⟨(some 66), (.bin .eql (.tmp 65) (.const (.int .i64 0))), none⟩, ⟨(some 67), (.move (.tmp 66)), none⟩, ⟨(some 68), (.faddr 1 (.tmp 1)), (some (67, true))⟩, ⟨(some 69), (.load1 (.tmp 68)), (some (67, true))⟩, ⟨(some 70), (.bin .geq (.tmp 69) (.const (.int .i64 0))), (some (67, true))⟩, ⟨(some 71), (.pick (.tmp 67) (.tmp 70) (.const (.bool false))), none⟩, ⟨(some 72), (.move (.tmp 71)), none⟩, ⟨(some 73), (.faddr 2 (.tmp 1)), (some (72, true))⟩, ⟨(some 74), (.load1 (.tmp 73)), (some (72, true))⟩, ⟨(some 75), (.bin .geq (.tmp 74) (.const (.int .i64 0))), (some (72, true))⟩, ⟨(some 76), (.pick (.tmp 72) (.tmp 75) (.const (.bool false))), none⟩, ⟨(some 77), (.move (.tmp 76)), none⟩, ⟨(some 78), (.faddr 1 (.tmp 1)), (some (77, true))⟩, ⟨(some 79), (.load1 (.tmp 78)), (some (77, true))⟩, ⟨(some 80), (.call 55 [(.tmp 79), (.const (.int .i64 4))]), (some (77, true))⟩, ⟨(some 81), (.pick (.tmp 77) (.tmp 80) (.const (.bool false))), none⟩, ⟨(some 82), (.move (.tmp 81)), none⟩, ⟨(some 83), (.faddr 2 (.tmp 1)), (some (82, true))⟩, ⟨(some 84), (.load1 (.tmp 83)), (some (82, true))⟩, ⟨(some 85), (.call 55 [(.tmp 84), (.const (.int .i64 4))]), (some (82, true))⟩, ⟨(some 86), (.pick (.tmp 82) (.tmp 85) (.const (.bool false))), none⟩, ⟨(some 2), (.assign (.tmp 86)), none⟩]) .ret) .skip)))))))) (.seq (.ops [⟨(some 2), (.assign (.const (.bool false))), none⟩]) .ret))))), [(.move (.tmp 2))]⟩
theorem k36 : cfun Tryz.prog 36 = some c36 := by kernel_rfl
end Go.Proofs.YtlbgjlmokpkkeaaGreatDoor.Ax
/- Hello over values without memory: Build on both sides. -/
namespace Go.Proofs.YtlbgjlmokpkkeaaGreatDoor.Ax
open Go.RowKit Go By YtlbgjlmokpkkeaaGreatDoor.Nm Sc Dg
set_option linter.unusedSimpArgs false
set_option linter.unusedVariables false
set_option maxRecDepth 10000

def badPa (p : Pa) : Bool := p.name == [] || !cleanB p.name || !cleanB p.value
def zeroH (m : Hm) : Bool := m.process == 0 && m.secret == 0
def mayH (m : Hm) : Bool :=
  if m.code = 196608 then zeroH m && !m.params.any badPa
  else if m.code = 80877102 then decide (m.params.length = 0) && (unsB 4 m.process && unsB 4 m.secret)
  else if m.code = 80877103 then decide (m.params.length = 0) && zeroH m
  else false
/-- A pair's bytes; a first message's bytes. -/
def pairE (p : Pa) : List UInt8 := textsL [p.name, p.value]
def pairsE (l : List Pa) : List UInt8 := l.flatMap pairE
def bytesH (m : Hm) : List UInt8 :=
  if m.code = 196608 then numE 4 m.code ++ (pairsE m.params ++ [0])
  else if m.code = 80877102 then numE 4 m.code ++ (numE 4 m.process ++ numE 4 m.secret)
  else numE 4 m.code
def buildH (m : Hm) : List UInt8 × Int := if mayH m = true then (bytesH m, 0) else ([], 1)
theorem numE4_len (n : Int) : (numE 4 n).length ≤ 4 := by
  have := put_len n 4 (by omega) []
  simpa [numE] using this
end Go.Proofs.YtlbgjlmokpkkeaaGreatDoor.Ax
/- Hello over values without memory: the document's Build. -/
namespace Go.Proofs.YtlbgjlmokpkkeaaGreatDoor.Ax
open Go.RowKit Go By YtlbgjlmokpkkeaaGreatDoor.Nm Sc Dg
set_option linter.unusedSimpArgs false
set_option linter.unusedVariables false
set_option maxRecDepth 10000

def rmayH (m : Hm) : Bool :=
  if m.params.any badPa = true then false
  else if m.code = 196608 then zeroH m
  else if m.code = 80877103 then zeroH m && decide (m.params.length = 0)
  else if m.code = 80877102 then decide (m.params.length = 0) && (decide (0 ≤ m.process) && (decide (0 ≤ m.secret) && (rightB m.process 4 && rightB m.secret 4)))
  else false
theorem may_eq (m : Hm) : mayH m = rmayH m := by
  unfold mayH rmayH
  have hu : ∀ n : Int, unsB 4 n = (decide (0 ≤ n) && rightB n 4) := fun n => by
    unfold unsB
    congr 1
    rw [Bool.eq_iff_iff]; simp
  cases ha : m.params.any badPa with
  | true =>
    have hne : ¬ m.params.length = 0 := fun h => by
      rw [List.length_eq_zero_iff.1 h] at ha; cases ha
    simp [hne]
  | false =>
    by_cases k1 : m.code = 196608
    · simp [k1]
    by_cases k2 : m.code = 80877102
    · simp [k1, k2, hu, Bool.and_assoc, Bool.and_left_comm]
    by_cases k3 : m.code = 80877103
    · simp [k1, k2, k3, Bool.and_comm]
    simp [k1, k2, k3]
theorem rmay_c (m : Hm) (hl : m.params.length ≤ 140737488355328) (ho : ∀ p ∈ m.params, OkPa p) (h : List (List AV)) : Contract Tryz.prog 36 [.agg (hmC m)] h (.v (.bool (rmayH m))) h [] := by
  refine contract_of k36 mixed (by simp [c36]) fun hh hargs => ?_
  simp [c36]
  refine xloop_ok (D := Nat) (fun j => ⟨[(1, .box h.length 0), (3, .v (.int .i64 j))], [], h ++ [hmC m], []⟩) (fun j => j ≤ m.params.length ∧ (m.params.take j).any badPa = false) (fun j => m.params.length - j) 0 (by simp) ?_ ?_
  · simp [Leq, hh]
  · rintro j ⟨hj, ha⟩
    by_cases hlt : j < m.params.length
    · have hw : IntKind.i64.wrap ((j : Int) + 1) = (j : Int) + 1 := wrap64 (by omega) (by omega)
      have hmem : m.params[j] ∈ m.params := List.getElem_mem _
      obtain ⟨o1, o2⟩ := ho _ hmem
      have hbad : badPa m.params[j] = true → rmayH m = false := fun hb => by
        have : m.params.any badPa = true := List.any_eq_true.2 ⟨_, hmem, hb⟩
        unfold rmayH; rw [if_pos this]
      have hgood : badPa m.params[j] = false → (m.params.take (j + 1)).any badPa = false := fun hb => by
        rw [List.take_succ_eq_append_getElem hlt, List.any_append, ha]; simp [hb]
      obtain ⟨p, hp⟩ : ∃ p, m.params[j] = p := ⟨_, rfl⟩
      rw [hp] at hmem o1 o2 hbad hgood
      simp [hlt, hp, paC_mk]
      cases h1 : p.name.isEmpty with
      | true =>
        have hb := hbad (by
          have : p.name = [] := by simpa using h1
          simp [badPa, this])
        simp [h1, hh, hb]
      | false =>
      have h1' : p.name ≠ [] := fun h => by rw [h] at h1; cases h1
      simp [hlt, hp, paC_mk, h1]
      refine xcall_self (by simp) (rclean_c p.name o1 _) ?_
      cases h2 : cleanB p.name with
      | false =>
        have hb := hbad (by simp [badPa, h2])
        simp [hh, hb, h1]
      | true =>
      simp [hlt, hp, paC_mk, h1]
      refine xcall_self (by simp) (rclean_c p.value o2 _) ?_
      cases h3 : cleanB p.value with
      | false =>
        have hb := hbad (by simp [badPa, h3])
        simp [hh, hb]
      | true =>
      have hg := hgood (by simp [badPa, h1', h2, h3])
      simp [hw]
      refine ⟨j + 1, ⟨by omega, fun x hx => by simpa using List.any_eq_false.1 hg x hx⟩, by omega, ?_⟩
      simp [Leq, hh]
    · have : j = m.params.length := by omega
      subst this
      rw [List.take_length] at ha
      have e : rmayH m = if m.code = 196608 then zeroH m else if m.code = 80877103 then zeroH m && decide (m.params.length = 0) else if m.code = 80877102 then decide (m.params.length = 0) && (decide (0 ≤ m.process) && (decide (0 ≤ m.secret) && (rightB m.process 4 && rightB m.secret 4))) else false := by
        unfold rmayH; rw [ha]; rfl
      rw [e]
      clear e
      have hne : m.params ≠ [] → (((m.params.length : Nat) : Int) == 0) = false := fun h3 => by
        have := List.length_pos_iff.2 h3
        rw [beq_eq_false_iff_ne]; omega
      have hzz : zeroH m = (m.process == 0 && m.secret == 0) := rfl
      rw [hzz]
      cases z1 : (m.process == 0) with
      | false =>
        simp [z1]
        by_cases k1 : m.code = 196608
        · simp [k1, hh, z1]
        by_cases k3 : m.code = 80877103
        · by_cases h3 : m.params = []
          · simp [k1, k3, h3, hh, z1]
          · simp [k1, k3, h3, hne h3, hh, z1]
        by_cases k2 : m.code = 80877102
        · by_cases h3 : m.params = []
          · by_cases p0 : 0 ≤ m.process
            · by_cases s0 : 0 ≤ m.secret
              · simp [k1, k2, k3, h3, p0, s0]
                refine xcall_self (by simp) (rright_c m.process 4 _) ?_
                cases r1 : rightB m.process 4 with
                | false => simp [hh]
                | true =>
                simp
                refine xcall_self (by simp) (rright_c m.secret 4 _) ?_
                simp [hh]
              · simp [k1, k2, k3, h3, p0, s0, hh]
            · simp [k1, k2, k3, h3, p0, hh]
          · simp [k1, k2, k3, h3, hne h3, hh]
        simp [k1, k2, k3, hh]
      | true =>
        cases z2 : (m.secret == 0) with
        | false =>
          simp [z1, z2]
          by_cases k1 : m.code = 196608
          · simp [k1, hh, z1, z2]
          by_cases k3 : m.code = 80877103
          · by_cases h3 : m.params = []
            · simp [k1, k3, h3, hh, z1, z2]
            · simp [k1, k3, h3, hne h3, hh, z1, z2]
          by_cases k2 : m.code = 80877102
          · by_cases h3 : m.params = []
            · by_cases p0 : 0 ≤ m.process
              · by_cases s0 : 0 ≤ m.secret
                · simp [k1, k2, k3, h3, p0, s0]
                  refine xcall_self (by simp) (rright_c m.process 4 _) ?_
                  cases r1 : rightB m.process 4 with
                  | false => simp [hh]
                  | true =>
                  simp
                  refine xcall_self (by simp) (rright_c m.secret 4 _) ?_
                  simp [hh]
                · simp [k1, k2, k3, h3, p0, s0, hh]
              · simp [k1, k2, k3, h3, p0, hh]
            · simp [k1, k2, k3, h3, hne h3, hh]
          simp [k1, k2, k3, hh]
        | true =>
          simp [z1, z2]
          by_cases k1 : m.code = 196608
          · simp [k1, hh, z1, z2]
          by_cases k3 : m.code = 80877103
          · by_cases h3 : m.params = []
            · simp [k1, k3, h3, hh, z1, z2]
            · simp [k1, k3, h3, hne h3, hh, z1, z2]
          by_cases k2 : m.code = 80877102
          · by_cases h3 : m.params = []
            · by_cases p0 : 0 ≤ m.process
              · by_cases s0 : 0 ≤ m.secret
                · simp [k1, k2, k3, h3, p0, s0]
                  refine xcall_self (by simp) (rright_c m.process 4 _) ?_
                  cases r1 : rightB m.process 4 with
                  | false => simp [hh]
                  | true =>
                  simp
                  refine xcall_self (by simp) (rright_c m.secret 4 _) ?_
                  simp [hh]
                · simp [k1, k2, k3, h3, p0, s0, hh]
              · simp [k1, k2, k3, h3, p0, hh]
            · simp [k1, k2, k3, h3, hne h3, hh]
          simp [k1, k2, k3, hh]
end Go.Proofs.YtlbgjlmokpkkeaaGreatDoor.Ax
/- Hello over values without memory: the document's Build, few, User. -/
namespace Go.Proofs.YtlbgjlmokpkkeaaGreatDoor.Ax
open Go.RowKit Go By YtlbgjlmokpkkeaaGreatDoor.Nm Sc Dg
set_option linter.unusedSimpArgs false
set_option linter.unusedVariables false
set_option maxRecDepth 10000

theorem hrput_c (n : Int) (h : List (List AV)) : Contract Tryz.prog 37 [.sl 1 (bytesE []) none .no, .v (.int .i64 n), .v (.int .i64 4)] h (.sl 1 (bytesE (numE 4 n)) none (.own .res)) h [] := rput_c [] n 4 (by simp) h
theorem hrput2_c (xs : List UInt8) (n : Int) (hl : xs.length ≤ 140737488351232) (h : List (List AV)) : Contract Tryz.prog 37 [.sl 1 (bytesE xs) none .no, .v (.int .i64 n), .v (.int .i64 4)] h (.sl 1 (bytesE (xs ++ numE 4 n)) none (.own .res)) h [] := by
  have e : putL xs n 4 = xs ++ numE 4 n := putL_eq xs n 4
  rw [← e]
  exact rput_c xs n 4 hl h
theorem pairE_eq (p : Pa) : pairE p = p.name ++ (0 :: (p.value ++ [0])) := by simp [pairE, textsL, He.encT]
theorem hrbuild_c (m : Hm) (hl : m.params.length ≤ 140737488351232) (ho : ∀ p ∈ m.params, OkPa p) (hb : (bytesH m).length ≤ 140737488351232) (h : List (List AV)) : Contract Tryz.prog 20 [.agg (hmC m)] h (.tup [.sl 1 (bytesE (buildH m).1) none .no, .v (.int .i64 (buildH m).2)]) h [] := by
  refine contract_of k20 mixed (by simp [c20]) fun hh hargs => ?_
  simp [c20]
  refine xcall_self (by simp) (rmay_c m (by omega) ho _) ?_
  unfold buildH
  rw [may_eq]
  cases hm : rmayH m with
  | false => simp [hh]
  | true =>
  have hC4 := numE4_len m.code
  simp
  refine xcall_of (hrput_c m.code _) (by simp) (by simp) ?_
  unfold bytesH at hb ⊢
  by_cases h1 : m.code = 196608
  · rw [if_pos h1] at hb ⊢
    generalize numE 4 m.code = C at *
    rw [List.length_append, List.length_append, List.length_singleton] at hb
    simp [h1]
    refine xloop_ok (D := Nat) (fun j => ⟨[(1, .box h.length 0), (5, .v (.int .i64 j))], [(4, .sl 1 (bytesE (C ++ pairsE (m.params.take j))) none (.own (.slot 4)))], h ++ [hmC m], []⟩) (fun j => j ≤ m.params.length) (fun j => m.params.length - j) 0 (by simp) ?_ ?_
    · simp [Leq, hh, pairsE]
    · intro j hj
      by_cases hlt : j < m.params.length
      · have hw : IntKind.i64.wrap ((j : Int) + 1) = (j : Int) + 1 := wrap64 (by omega) (by omega)
        obtain ⟨hx, hb2⟩ := flat_step pairE m.params C.length j hlt 140737488351232 (by unfold pairsE at hb; omega)
        have hx' : pairsE (m.params.take (j + 1)) = pairsE (m.params.take j) ++ pairE m.params[j] := hx
        have hb3 : C.length + ((pairsE (m.params.take j)).length + (pairE m.params[j]).length) ≤ 140737488351232 := hb2
        clear hx hb2
        obtain ⟨p, hp⟩ : ∃ p, m.params[j] = p := ⟨_, rfl⟩
        rw [hp, pairE_eq] at hb3 hx'
        simp only [List.length_append, List.length_cons, List.length_nil] at hb3
        simp [hlt, hp, paC_mk]
        refine ⟨by omega, by omega, ?_⟩
        simp [hlt, hp, paC_mk, hw]
        refine ⟨by omega, by omega, j + 1, by omega, by omega, ?_⟩
        simp [Leq, hh, hx']
      · have : j = m.params.length := by omega
        subst this
        simp
        refine ⟨by omega, ?_⟩
        simp [hh]
  · rw [if_neg h1] at hb ⊢
    by_cases h2 : m.code = 80877102
    · rw [if_pos h2] at hb ⊢
      have l1 := numE4_len m.process
      generalize numE 4 m.code = C at *
      simp [h1, h2]
      refine xcall_of (hrput2_c C m.process (by omega) _) (by simp) (by simp) ?_
      simp
      refine xcall_of (hrput2_c (C ++ numE 4 m.process) m.secret (by rw [List.length_append]; omega) _) (by simp) (by simp) ?_
      simp [hh]
    · rw [if_neg h2] at hb ⊢
      simp [h1, h2, hh]

/-! ### Short messages -/
end Go.Proofs.YtlbgjlmokpkkeaaGreatDoor.Ax
/- Hello over values without memory: User on both sides. -/
namespace Go.Proofs.YtlbgjlmokpkkeaaGreatDoor.Ax
open Go.RowKit Go By YtlbgjlmokpkkeaaGreatDoor.Nm Sc Dg
set_option linter.unusedSimpArgs false
set_option linter.unusedVariables false
set_option maxRecDepth 10000

end Go.Proofs.YtlbgjlmokpkkeaaGreatDoor.Ax
/- Hello over values without memory: pairs that are read. -/
namespace Go.Proofs.YtlbgjlmokpkkeaaGreatDoor.Ax
open Go.RowKit Go By YtlbgjlmokpkkeaaGreatDoor.Nm Sc Dg
set_option linter.unusedSimpArgs false
set_option linter.unusedVariables false
set_option maxRecDepth 10000

/-- Pairs that are read, up to an empty name: as many as there may be. -/
def pairR : Nat → Sta → List Pa × Sta
  | 0, st => ([], textS st)
  | k + 1, st => if He.textL st = [] then ([], textS st) else (⟨He.textL st, He.textL (textS st)⟩ :: (pairR k (textS (textS st))).1, (pairR k (textS (textS st))).2)
def pairsV (st : Sta) : List Pa := (pairR (He.lenS st + 1) st).1
def pairsS (st : Sta) : Sta := (pairR (He.lenS st + 1) st).2
theorem hpairs_c (i : Nat) (h : List (List AV)) (st : Sta) (hi : h[i]? = some (scC st)) (hl : He.lenS st ≤ 1000000000000) : Contract Tryz.prog 78 [.agg [.box i 0]] h (.sl 2 (enc paC (pairsV st)) none .no) (h.set i (scC (pairsS st))) [i] := by
  have hil := heap_lt hi
  refine contract_of k78 mixed (by simp [c78]) fun hh hargs => ?_
  simp [c78]
  refine xloop_ok (D := List Pa × Sta × Nat) (fun d => ⟨[(1, .box h.length 0)], [(3, .sl 2 (enc paC d.1) none (.own (.slot 3)))], h.set i (scC d.2.1) ++ [[.box i 0]], [i]⟩)
    (fun d => pairsV st = d.1 ++ (pairR d.2.2 d.2.1).1 ∧ pairsS st = (pairR d.2.2 d.2.1).2 ∧ He.lenS d.2.1 < d.2.2 ∧ d.1.length + He.lenS d.2.1 ≤ He.lenS st) (fun d => d.2.2) ([], st, He.lenS st + 1) ⟨rfl, rfl, by simp, by simp⟩ ?_ ?_
  · simp [Leq, hh, hil, scC_lt, set_same hi]
    omega
  · rintro ⟨acc, s, k⟩ ⟨e1, e2, e3, e4⟩
    dsimp only at e1 e2 e3 e4
    obtain ⟨k, rfl⟩ : ∃ n, k = n + 1 := ⟨k - 1, by omega⟩
    rw [pairR] at e1 e2
    simp
    refine xcall_self (by simp) (text_c i _ s (app_set_get hil _ _) (by omega)) ?_
    simp [app_set_set hil]
    by_cases hz : He.textL s = []
    · rw [if_pos hz] at e1 e2
      simp at e1
      simp [hz, hh, hil, e1, e2, scC_lt]
    · rw [if_neg hz] at e1 e2
      have hless := He.textS_lt hz
      have hlt := He.textS_len (textS s)
      have hb : (acc.length + 1) * 32 ≤ 140737488355328 := by omega
      have hb2 : acc.length + 1 ≤ 140737488355328 := by omega
      simp [hz]
      refine xcall_self (by simp) (text_c i _ (textS s) (app_set_get hil _ _) (by omega)) ?_
      simp [app_set_set hil, hb, hb2]
      refine ⟨acc ++ [⟨He.textL s, He.textL (textS s)⟩], textS (textS s), k, ⟨by rw [e1]; simp, e2, by omega, by simp; omega⟩, by omega, ?_⟩
      simp [Leq, hh, hil, scC_lt, paC_mk]
      omega
end Go.Proofs.YtlbgjlmokpkkeaaGreatDoor.Ax
/- Hello over values without memory: Parse. -/
namespace Go.Proofs.YtlbgjlmokpkkeaaGreatDoor.Ax
open Go.RowKit Go By YtlbgjlmokpkkeaaGreatDoor.Nm Sc Dg
set_option linter.unusedSimpArgs false
set_option linter.unusedVariables false
set_option maxRecDepth 10000

def noHm : Hm := ⟨0, 0, 0, []⟩
/-- What Parse answers, out of the code and the state behind it. -/
def parse2 (c : Int) (st : Sta) : Hm × Int :=
  if badB st = true then (noHm, 4)
  else if c = 196608 then (if doneB (pairsS st) = true then (⟨c, 0, 0, pairsV st⟩, 0) else (noHm, 4))
  else if c = 80877102 then (if doneB (numS (numS st 4) 4) = true then (⟨c, numV st 4, numV (numS st 4) 4, []⟩, 0) else (noHm, 4))
  else if c = 80877103 then (if doneB st = true then (⟨c, 0, 0, []⟩, 0) else (noHm, 4))
  else (noHm, 9)
def parseH (xs : List UInt8) : Hm × Int := parse2 (numV (some xs) 4) (numS (some xs) 4)
theorem hparse_c (xs : List UInt8) (hx : xs.length ≤ 1000000000000) (h : List (List AV)) : Contract Tryz.prog 47 [.sl 1 (bytesE xs) none .no] h (.tup [.agg (hmC (parseH xs).1), .v (.int .i64 (parseH xs).2)]) h [] := by
  refine contract_of k47 mixed (by simp [c47]) fun hh hargs => ?_
  simp [c47]
  refine xcall_self (by simp) (new_c xs (by omega) _) ?_
  simp
  refine xcall_self (by simp) (num_c (h.length + 1) _ (some xs) (by simp) 4) ?_
  simp
  unfold parseH
  have hl : He.lenS (numS (some xs) 4) ≤ 1000000000000 := Nat.le_trans (numS_len _ _) hx
  generalize numV (some xs) 4 = c at *
  generalize numS (some xs) 4 = st at *
  refine xcall_self (by simp) (bad_c (h.length + 1) _ st (by simp)) ?_
  unfold parse2
  cases hb : badB st with
  | true => simp [hh, noHm, hmC_mk]
  | false =>
  simp
  by_cases h1 : c = 196608
  · simp [h1]
    refine xcall_self (by simp) (hpairs_c (h.length + 1) _ st (by simp) hl) ?_
    simp
    refine xcall_self (by simp) (done_c (h.length + 1) _ (pairsS st) (by simp)) ?_
    cases hd : doneB (pairsS st) with
    | false => simp [hh, noHm, hmC_mk]
    | true => simp [hh, hmC_mk]
  by_cases h2 : c = 80877102
  · simp [h1, h2]
    refine xcall_self (by simp) (num_c (h.length + 1) _ st (by simp) 4) ?_
    simp
    refine xcall_self (by simp) (num_c (h.length + 1) _ (numS st 4) (by simp) 4) ?_
    simp
    refine xcall_self (by simp) (done_c (h.length + 1) _ (numS (numS st 4) 4) (by simp)) ?_
    cases hd : doneB (numS (numS st 4) 4) with
    | false => simp [hh, noHm, hmC_mk]
    | true => simp [hh, hmC_mk]
  by_cases h3 : c = 80877103
  · simp [h1, h2, h3]
    refine xcall_self (by simp) (done_c (h.length + 1) _ st (by simp)) ?_
    cases hd : doneB st with
    | false => simp [hh, noHm, hmC_mk]
    | true => simp [hh, hmC_mk]
  · simp [h1, h2, h3, hh, noHm, hmC_mk]
end Go.Proofs.YtlbgjlmokpkkeaaGreatDoor.Ax
/- A server over values without memory: a first message; a new one; awake; nobody's. -/
namespace Go.Proofs.YtlbgjlmokpkkeaaGreatDoor.Ax
open Go.RowKit Go By YtlbgjlmokpkkeaaGreatDoor.Nm Dg
set_option linter.unusedSimpArgs false
set_option linter.unusedVariables false
set_option maxRecDepth 10000

/-! ### A first message's bytes -/
def helM : Hm := ⟨196608, 0, 0, [⟨[117, 115, 101, 114], [117]⟩]⟩
def helX : List UInt8 := [0, 3, 0, 0, 117, 115, 101, 114, 0, 117, 0, 0]
def helB : List UInt8 := [0, 0, 0, 16] ++ helX
theorem hel_build : buildH helM = (helX, 0) := by decide +kernel
theorem hel_parse : parseH helX = (helM, 0) := by decide +kernel
theorem sqbytes0_c (b : List UInt8) (hl : b.length ≤ 10000000) (h : List (List AV)) : Contract Tryz.prog 21 [.agg (msC ⟨0, b⟩)] h (.sl 1 (bytesE (numE 4 ((b.length : Int) + 4) ++ b)) none (.own .res)) h [] := by
  have hw : IntKind.i64.wrap ((b.length : Int) + 4) = (b.length : Int) + 4 := wrap64 (by omega) (by omega)
  have hn := sq_numE 4 ((b.length : Int) + 4) (by omega)
  refine contract_of k21 mixed (by simp [c21]) fun hh hargs => ?_
  rw [bytesE_append]
  generalize hn' : (b.length : Int) + 4 = n at *
  simp [c21, hn', hw]
  refine xcall_of (rput_c [] n 4 (by simp) _) (by simp) (by simp) ?_
  rw [show putL [] n 4 = numE 4 n from rfl]
  generalize hE : bytesE (numE 4 n) = E at *
  have hEl : E.length = (numE 4 n).length := by rw [← hE, bytesE_length]
  simp [hh, -List.append_assoc]
  exact ⟨by omega, by rw [← hE]; exact ltLL_bytes _ _⟩
theorem phello_c (h : List (List AV)) : Contract Tryz.prog 7 [] h (.sl 1 (bytesE helB) none (.own .res)) h [] := by
  have kb := hrbuild_c helM (by decide) (by simp [helM, OkPa, maxLen]) (by decide)
  rw [hel_build] at kb
  have e0 : numE 4 ((helX.length : Int) + 4) ++ helX = helB := by decide +kernel
  have k2 := fun h => sqbytes0_c helX (by decide) h
  rw [e0] at k2
  have hB : ltLL h.length (bytesE helB) := ltLL_bytes _ _
  have e1 : [AV.agg [AV.v (.int .i64 196608), AV.v (.int .i64 0), AV.v (.int .i64 0), AV.sl 2 [[AV.v (.string (strB [117, 115, 101, 114])), AV.v (.string (strB [117]))]] none .no]] = [.agg (hmC helM)] := rfl
  have e2 : AV.agg (msC ⟨0, helX⟩) = AV.agg [AV.v (.int .u8 0), .sl 1 (bytesE helX) none .no] := rfl
  refine contract_of k7 mixed (by simp [c7]) fun hh hargs => ?_
  rw [e2] at k2
  generalize bytesE helB = E at *
  generalize bytesE helX = X at *
  simp [c7]
  refine xcall_of (kb _) (by rw [← e1]; simp) (by simp) ?_
  simp
  refine xcall_self (by simp [msC_mk]) (k2 _) ?_
  simp [hh]
  exact hB
/-! ### It begins -/
section
variable {h : List (List AV)} {S : Srv}
set_option maxHeartbeats 1000000 in
theorem vbegin_d (g : SvAt h S) (hm : 0 < S.F.most) (hg : S.greeted = false) (ho : S.over = false) (hq : S.Q.length ≤ 100000) (hs : ∀ m ∈ backsG [] S.id, BkSm m) :
    ∃ o, DoesV 27 [.box S.i 0, .agg (msC ⟨0, helX⟩)] h S (.tup []) { S with Q := S.Q ++ sayM (backsG [] S.id), o := o, F := { S.F with typed := true }, greeted := true } := by
  obtain ⟨i, f, s, o0, Q, F, Z, id, greeted, over⟩ := S
  dsimp only at hm hg ho hq hs ⊢
  subst hg ho
  obtain ⟨xs, hxs⟩ : ∃ xs : List (List AV), xs = [msC ⟨0, helX⟩, hmC helM] := ⟨_, rfl⟩
  have hxl : ltLL (h.length + xs.length) xs := by rw [hxs]; simp [msC_mk]
  have g2 := g.app xs hxl
  obtain ⟨o, H, W, kS, gS, vS⟩ := vsay_d g2 (SayX.sl rfl) hs (by simp [backsG]) hq
  have e1 := g2.top
  rw [Srv.top_mk] at e1
  have e2 := gS.top
  rw [Srv.top_mk] at e2
  have kF := wbegin_c gS.fr hm
  have g3 := gS.setF { F with typed := true }
  have e3 := g3.top
  rw [Srv.top_mk] at e3
  have g4 := g3.setTop true false
  dsimp only at kF g3 e1 e2 e3 g4 kS vS
  refine ⟨o, _, i :: f :: W, ?_, g4, ?_⟩
  · rw [hxs] at e1 kS
    refine contract_of k27 mixed (by simp [c27]) fun hh hargs => ?_
    generalize hbk : enc bkC (backsG [] id) = B at *
    simp [c27]
    refine xcall_self (by simp) (hparse_c helX (by decide) _) ?_
    rw [hel_parse]
    have hco : helM.code = 196608 := rfl
    simp [hco, e1]
    refine xcall_of (gbacks_c [] id (by decide) _) (by simp) (by simp) ?_
    rw [hbk]
    simp [e1]
    refine xcall_self (by simp) kS ?_
    rw [List.length_append] at e2
    have hil := (List.getElem?_eq_some_iff.1 e2).1
    have hset : H.set i [mqV o (Q.length + (sayM (backsG [] id)).length), .box f 0, .box s 0, .sl 0 [] (some true) .exact, .v (.int .i64 id), .v (.bool false), .v (.bool false)] = H := by
      rw [← (List.getElem?_eq_some_iff.1 e2).2]; exact List.set_getElem_self hil
    simp [e2, hset]
    refine xcall_self (by simp) kF ?_
    rw [List.length_append] at e3
    simp [e3]
    have hg4 := g4.hh
    rw [List.length_set, List.length_set] at hg4
    have hvl := vS.len
    rw [hxs, List.length_append] at hvl
    refine ⟨by omega, ?_, hg4, fun a ha hlt => ?_⟩
    · rw [List.take_of_length_le (by simp)]
      have ht : Srv.top { i := i, f := f, s := s, o := o, Q := Q ++ sayM (backsG [] id), F := { F with typed := true }, Z := Z, id := id, greeted := true, over := false } = [mqV o (Q.length + (sayM (backsG [] id)).length), .box f 0, .box s 0, .sl 0 [] (some true) .exact, .v (.int .i64 id), .v (.bool true), .v (.bool false)] := by simp [Srv.top]
      rw [← ht]
      exact leqH_refl _ _
    · rcases ha with ha | rfl
      · exact .inr (.inr ha)
      · omega
  · have v1 := (((ViaV.refl h _).app xs).step vS).step (ViaV.set (S' := { i := i, f := f, s := s, o := o, Q := Q ++ sayM (backsG [] id), F := { F with typed := true }, Z := Z, id := id, greeted := false, over := false }) (sv_f _) ({ F with typed := true }.cells f) rfl)
    have v2 := v1.step (ViaV.set (S' := { i := i, f := f, s := s, o := o, Q := Q ++ sayM (backsG [] id), F := { F with typed := true }, Z := Z, id := id, greeted := true, over := false }) (sv_i _) (Srv.top { i := i, f := f, s := s, o := o, Q := Q ++ sayM (backsG [] id), F := { F with typed := true }, Z := Z, id := id, greeted := true, over := false }) rfl)
    simpa using v2
end
/-! ### A new one -/
theorem vnew_c (e : AV) (he : e.idOf = none) (hu : e.cells = some [e]) (hun : e.unown = e) (h : List (List AV)) (hl : e.lt h.length) : Contract Tryz.prog 18 [e, .sl 0 [] (some true) .exact, .v (.int .i64 0)] h (.box (h.length + 5) 0) (h ++ [(⟨false, 65536, 262144, [], 0⟩ : Fw).cells h.length, mapC 0 [], mapC 0 [], [.mp (h.length + 2) 1 true], [e, .mp (h.length + 1) 2 false, .box (h.length + 3) 0, .v (.int .u8 73), .v (.bool false), .v (.bool false)], [.sl 0 [] (some true) .exact, .box h.length 0, .box (h.length + 4) 0, .sl 0 [] (some true) .exact, .v (.int .i64 0), .v (.bool false), .v (.bool false)]]) [] := by
  have kc : ∀ h, Contract Tryz.prog 35 [.sl 0 [] (some true) .exact] h (.sl 0 [] (some true) .exact) h [] := fun h => by
    refine contract_of k35 mixed (by simp [c35]) fun hh hargs => ?_
    simp [c35]
    refine xloop_ok (D := Unit) (fun _ => ⟨[(8, .v (.int .i64 0)), (7, .v (.int .i64 0)), (6, .sl 0 [] (some true) .exact), (3, .sl 0 [] (some true) .exact), (2, .sl 0 [] (some true) .exact), (0, .sl 0 [] (some true) .exact)], [], h, []⟩) (fun _ => True) (fun _ => 0) () trivial (by simp [Leq, hh]) (fun _ _ => by simp [hh])
  have hle := lt_mono (Nat.le_add_right h.length 1) hl
  have hle5 := lt_mono (Nat.le_add_right h.length 5) hl
  have hle6 := lt_mono (Nat.le_add_right h.length 6) hl
  refine contract_of k18 mixed (by simp [c18]) fun hh hargs => ?_
  have hl6 := ltLL_mono (Nat.le_add_right h.length 6) hh
  simp [c18, he]
  refine xcall_self (by simp) (wnew_c 65536 262144 true (by decide) (by decide) (by decide) (by decide) _) ?_
  simp
  refine xcall_self (by simp [he, hun]) (snew_c e he hu hun _ (by simp [hle])) ?_
  simp
  refine xcall_self (by simp) (kc _) ?_
  simp
  exact ⟨hl6, by simp [Fw.cells], by simp [mapC], hle6⟩
def z0s (b : Nat) : Zs := ⟨b + 1, newE b, b + 3, 0, [], b + 5, newS (b + 4), 73, false, false, false⟩
def v0 (b : Nat) : Srv := ⟨b + 7, b + 2, b + 6, none, [], ⟨false, 65536, 262144, [], 0⟩, z0s b, 0, false, false⟩
def heapV (h : List (List AV)) : List (List AV) := h ++ [mapC 0 [], egC h.length 0, (v0 h.length).F.cells (h.length + 2), mapC 0 [], mapC 0 [], [.mp (h.length + 4) 1 true], (z0s h.length).top, (v0 h.length).top]
theorem v0_at {h : List (List AV)} (hh : ltLL h.length h) : SvAt (heapV h) (v0 h.length) := by
  have at_ : ∀ (j : Nat) (l : List (List AV)), (h ++ l)[h.length + j]? = l[j]? := fun j l => by rw [List.getElem?_append_right (by omega)]; simp
  have hl := ltLL_mono (Nat.le_add_right h.length 8) hh
  have hs : SsG [] (heapV h) (h.length + 6) (z0s h.length) := by
    refine ⟨?_, ⟨?_, ?_, ?_⟩, ?_, ⟨?_, ?_, fun x hx => (by cases hx), fun x hx => (by cases hx), fun x hx => (by cases hx), fun x hx => (by cases hx), ?_, ?_⟩, ?_, ?_, fun t ht => (by cases ht), ?_⟩
    · unfold heapV; rw [at_]; rfl
    · unfold heapV; show (h ++ _)[h.length + 1]? = _; rw [at_]; rfl
    · unfold heapV; show (h ++ _)[h.length]? = _; rw [List.getElem?_append_right (Nat.le_refl _)]; simp [z0s, newE, Eg.cells]
    · show h.length + 1 ≠ h.length; omega
    · unfold heapV; show (h ++ _)[h.length + 3]? = _; rw [at_]; rfl
    · unfold heapV; show (h ++ _)[h.length + 5]? = _; rw [at_]; rfl
    · unfold heapV; show (h ++ _)[h.length + 4]? = _; rw [at_]; rfl
    · show h.length + 5 ≠ h.length + 4; omega
    · unfold heapV; simp [z0s, v0, Srv.top, mqV, Fw.cells, Zs.top, egC, mapC, hl]
    · simp [Zs.own, z0s, newE]
    · intro q hq
      simp [Zs.own, z0s, newE] at hq
      simp [z0s, newS, Ps.vars]
      omega
    · intro hq; cases hq
  refine ⟨?_, ?_, ⟨fun _ => rfl, fun p hp => (by cases hp)⟩, hs, ?_, fun q hq => (by cases hq), ?_, rfl⟩
  · unfold heapV; show (h ++ _)[h.length + 7]? = _; rw [at_]; rfl
  · unfold heapV; show (h ++ _)[h.length + 2]? = _; rw [at_]; rfl
  · show h.length + 7 ≠ h.length + 2; omega
  · simp [v0, Zs.vars, Zs.own, z0s, newE, newS, Ps.vars]
theorem v0_vars (b : Nat) : ∀ q ∈ (v0 b).vars, b ≤ q := fun q hq => by
  simp [Srv.vars, v0, oVar, Zs.vars, Zs.own, z0s, newE, newS, Ps.vars] at hq
  omega
theorem DoesV.low {f : FuncId} {args : List AV} {h : List (List AV)} {S : Srv} {r : AV} {S' : Srv} (d : DoesV f args h S r S') {lo : Nat} (hlo : ∀ q ∈ S.vars, lo ≤ q) (hl : lo ≤ h.length) :
    ∃ h' wr, Contract Tryz.prog f args h r h' wr ∧ SvAt h' S' ∧ (∀ q ∈ wr, lo ≤ q) ∧ h.length ≤ h'.length ∧ (∀ q < lo, h'[q]? = h[q]?) ∧ (∀ q ∈ S'.vars, lo ≤ q) ∧ (∀ q < h.length, q ∉ S.vars → h'[q]? = h[q]?) ∧ ∀ q ∈ S'.vars, q ∈ S.vars ∨ h.length ≤ q := by
  obtain ⟨h', wr, k, g', v⟩ := d
  refine ⟨h', wr, k, g', fun q hq => ?_, v.len, fun q hq => v.kept q (by omega) fun hh => by have := hlo q hh; omega, fun q hq => ?_, v.kept, v.vars⟩
  · rcases Nat.lt_or_ge q h.length with h1 | h1
    · exact hlo q (v.wr q hq h1)
    · omega
  · rcases v.vars q hq with h1 | h1
    · exact hlo q h1
    · omega
/-! ### The first message is done -/
def zF : List AV := [.v (.int .u8 0), .v (.int .u8 0), .v (.string (strB [])), .v (.string (strB [])), .v (.string (strB [])), .sl 0 [] (some true) .exact, .sl 0 [] (some true) .exact, .sl 0 [] (some true) .exact, .sl 0 [] (some true) .exact, .v (.int .i64 0)]
theorem helB_it : helB = itB false ⟨0, helX⟩ := by decide +kernel
section
variable {h : List (List AV)} {S : Srv}
set_option maxHeartbeats 1000000 in
theorem vstep_hello (g : SvAt h S) (hg : S.greeted = false) (ho : S.over = false) (r : List UInt8) (hF : S.F = ⟨false, 65536, 262144, helB ++ r, 0⟩) (hr : r.length ≤ 100000) (hq : S.Q.length ≤ 100000) (hs : ∀ m ∈ backsG [] S.id, BkSm m) :
    ∃ o, DoesV 10 [.box S.i 0] h S (.tup [.agg (fmC noFm), .v (.bool false)]) { S with Q := S.Q ++ sayM (backsG [] S.id), o := o, F := ⟨true, 65536, 262144, r, 0⟩, greeted := true } := by
  obtain ⟨i, f, s, o0, Q, F, Z, id, greeted, over⟩ := S
  dsimp only at hg ho hF hq hs ⊢
  subst hg ho hF
  have hsz := Fw.size_full (F := ⟨false, 65536, 262144, helB ++ r, 0⟩) (m := ⟨0, helX⟩) (y := r) (by rw [helB_it]) (by show helX.length + 4 ≤ 65536; decide) (by show 65536 ≤ 65536; decide) rfl
  obtain ⟨q1, q2, q3, q4, q5⟩ := hsz
  have hz1 : ltLL (h.length + 1) [zF] := by simp [zF]
  have ga := g.app [zF] hz1
  have kn := wnext_whole ga.fr (by show 0 < 65536; decide) (by show 65536 ≤ 1000000; decide) rfl (by show (helB ++ r).length ≤ _; rw [List.length_append, show helB.length = 16 from by decide]; omega) q2 q3
  rw [q4, q5] at kn
  have g1 := g.setF ⟨false, 65536, 262144, r, 0⟩
  dsimp only at g1 kn
  have hfl := g.f_lt
  dsimp only at hfl
  rw [List.set_append_left _ _ hfl] at kn
  obtain ⟨xs, hxs⟩ : ∃ xs : List (List AV), xs = [zF, msC ⟨0, helX⟩] := ⟨_, rfl⟩
  have hxl : ltLL ((h.set f (Fw.cells ⟨false, 65536, 262144, r, 0⟩ f)).length + xs.length) xs := by rw [hxs]; simp [zF, msC_mk]
  have g2 := g1.app xs hxl
  obtain ⟨o, H, W, kb, gb, vb⟩ := vbegin_d g2 (by show 0 < 65536; decide) rfl rfl hq hs
  dsimp only at gb vb kb
  have vz : H[h.length]? = some zF := by
    have hlen : (h.set f (Fw.cells ⟨false, 65536, 262144, r, 0⟩ f)).length = h.length := List.length_set
    refine (vb.kept h.length (by rw [hxs]; simp) fun hh => ?_).trans ?_
    · have := g1.vars_lt hh; omega
    · rw [hxs, List.getElem?_append_right (by omega), hlen, Nat.sub_self]; rfl
  have vs := ((ViaV.set (h := h) (S := { i := i, f := f, s := s, o := o0, Q := Q, F := ⟨false, 65536, 262144, helB ++ r, 0⟩, Z := Z, id := id, greeted := false, over := false }) (S' := { i := i, f := f, s := s, o := o0, Q := Q, F := ⟨false, 65536, 262144, r, 0⟩, Z := Z, id := id, greeted := false, over := false }) (sv_f _) (Fw.cells ⟨false, 65536, 262144, r, 0⟩ f) rfl).app xs).step vb
  refine ⟨o, H, W ++ [f], ?_, gb, vs⟩
  rw [hxs] at kb
  have e1 := g2.top
  rw [Srv.top_mk, hxs] at e1
  dsimp only at e1
  have km := vmade_c ga
  have e0 := ga.top
  rw [Srv.top_mk] at e0
  dsimp only at e0 km
  refine contract_of k10 mixed (by simp [c10]) fun hh hargs => ?_
  have ez : [AV.v (.int .u8 0), .v (.int .u8 0), .v (.string (strB [])), .v (.string (strB [])), .v (.string (strB [])), .sl 0 [] (some true) .exact, .sl 0 [] (some true) .exact, .sl 0 [] (some true) .exact, .sl 0 [] (some true) .exact, .v (.int .i64 0)] = zF := rfl
  simp [c10, ez]
  refine xcall_self (by simp) km ?_
  simp [e0]
  refine xcall_self (by simp) kn ?_
  simp [e1]
  refine xcall_self (by simp) kb ?_
  have hlz : zF.length = 10 := rfl
  have huz : zF.map AV.unown = zF := rfl
  have hsz : H.set h.length zF = H := by
    rw [← (List.getElem?_eq_some_iff.1 vz).2]; exact List.set_getElem_self (List.getElem?_eq_some_iff.1 vz).1
  have htz : zF.take 10 = zF := rfl
  simp [vz, hlz, huz, hsz, htz]
  have hvl := vs.len
  refine ⟨hvl, by simp [zF, noFm, fmC_mk], gb.hh, fun a ha hlt => ?_⟩
  rcases ha with ha | rfl | rfl
  · exact .inl ha
  · omega
  · exact .inr rfl
end
end Go.Proofs.YtlbgjlmokpkkeaaGreatDoor.Ax
/- A server over values without memory: awake; nobody's (ServeNobody). -/
namespace Go.Proofs.YtlbgjlmokpkkeaaGreatDoor.Ax
open Go.RowKit Go By YtlbgjlmokpkkeaaGreatDoor.Nm Dg
set_option linter.unusedSimpArgs false
set_option linter.unusedVariables false
set_option maxRecDepth 10000

theorem hel_says : ∃ B1 B2 B3 : List UInt8, sayM (backsG [] 0) = [⟨82, B1⟩, ⟨75, B2⟩, ⟨90, B3⟩] := ⟨(encB rG).1.body, (encB (kG 0)).1.body, (encB zG).1.body, by decide +kernel⟩
theorem hel_small : ∀ m ∈ backsG [] 0, BkSm m := fun m hm => by
  simp [backsG] at hm
  rcases hm with rfl | rfl | rfl <;> simp [BkSm, rG, kG, zG]
set_option maxHeartbeats 2000000 in
theorem vawake_c (h : List (List AV)) : Contract Tryz.prog 6 [] h (.v (.bool true)) h [] := by
  refine contract_of k6 mixed (by simp [c6]) fun hh hargs => ?_
  have g0 := v0_at hh
  have lo0 := v0_vars h.length
  have kn0 := vnew_c (.box (h.length + 1) 0) rfl rfl rfl (h ++ [mapC 0 [], egC h.length 0]) (by simp)
  have hheap : (h ++ [mapC 0 [], egC h.length 0]) ++ [(⟨false, 65536, 262144, [], 0⟩ : Fw).cells (h ++ [mapC 0 [], egC h.length 0]).length, mapC 0 [], mapC 0 [], [.mp ((h ++ [mapC 0 [], egC h.length 0]).length + 2) 1 true], [.box (h.length + 1) 0, .mp ((h ++ [mapC 0 [], egC h.length 0]).length + 1) 2 false, .box ((h ++ [mapC 0 [], egC h.length 0]).length + 3) 0, .v (.int .u8 73), .v (.bool false), .v (.bool false)], [.sl 0 [] (some true) .exact, .box (h ++ [mapC 0 [], egC h.length 0]).length 0, .box ((h ++ [mapC 0 [], egC h.length 0]).length + 4) 0, .sl 0 [] (some true) .exact, .v (.int .i64 0), .v (.bool false), .v (.bool false)]] = heapV h := by
    unfold heapV
    simp [z0s, v0, Srv.top, mqV, Zs.top]
  rw [hheap] at kn0
  have hlen2 : (h ++ [mapC 0 [], egC h.length 0]).length + 5 = h.length + 7 := by simp
  rw [hlen2] at kn0
  have ke := enew_c h
  have hlv : (heapV h).length = h.length + 8 := by simp [heapV]
  -- its bytes go in
  have D1 := vfeed_d g0 rfl helB (by show 0 < 65536; decide) (by decide) (by show ([] : List UInt8).length ≤ 1000000; decide) (by show 262144 ≤ 1000000; decide) (by show helB.length + ([] : List UInt8).length ≤ 262144; decide)
  obtain ⟨h1, w1, k1, g1, lw1, hl1, hs1, lo1, _⟩ := D1.low lo0 (by omega)
  obtain ⟨S1, hS1⟩ : ∃ S1, S1 = { v0 h.length with F := { (v0 h.length).F with rest := (v0 h.length).F.rest ++ helB } } := ⟨_, rfl⟩
  rw [← hS1] at g1 lo1
  have hi1 : S1.i = h.length + 7 := by rw [hS1]; rfl
  -- it is done
  obtain ⟨o2, D2⟩ := vstep_hello g1 (by rw [hS1]; rfl) (by rw [hS1]; rfl) [] (by rw [hS1]; rfl) (by decide) (by rw [hS1]; show ([] : List Ms).length ≤ 100000; decide) (by rw [hS1]; exact hel_small)
  obtain ⟨h2, w2, k2, g2, lw2, hl2, hs2, lo2, _⟩ := D2.low lo1 (by omega)
  obtain ⟨S2, hS2⟩ : ∃ S2, S2 = { S1 with Q := S1.Q ++ sayM (backsG [] S1.id), o := o2, F := ⟨true, 65536, 262144, [], 0⟩, greeted := true } := ⟨_, rfl⟩
  rw [← hS2] at g2 lo2
  obtain ⟨B1, B2, B3, hB⟩ := hel_says
  have hi2 : S2.i = h.length + 7 := by rw [hS2]; exact hi1
  have hQ2 : S2.Q = [⟨82, B1⟩, ⟨75, B2⟩, ⟨90, B3⟩] := by
    rw [← hB, hS2, hS1]; rfl
  have ho2 : S2.over = false := by rw [hS2, hS1]; rfl
  -- what was said is taken
  obtain ⟨o3, D3⟩ := vtake_some g2 hQ2
  obtain ⟨h3, w3, k3, g3, lw3, hl3, hs3, lo3, _⟩ := D3.low lo2 (by omega)
  obtain ⟨S3, hS3⟩ : ∃ S3, S3 = { S2 with Q := [⟨75, B2⟩, ⟨90, B3⟩], o := o3 } := ⟨_, rfl⟩
  rw [← hS3] at g3 lo3
  have hi3 : S3.i = h.length + 7 := by rw [hS3]; exact hi2
  have g3a := g3.app [msC ⟨82, B1⟩] (by simp [msC_mk])
  obtain ⟨o4, D4⟩ := vtake_some g3a (m := ⟨75, B2⟩) (r := [⟨90, B3⟩]) (by rw [hS3])
  obtain ⟨h4, w4, k4, g4, lw4, hl4, hs4, lo4, kp4, vv4⟩ := D4.low lo3 (by simp; omega)
  rw [List.length_append, List.length_singleton] at hl4
  obtain ⟨S4, hS4⟩ : ∃ S4, S4 = { S3 with Q := [⟨90, B3⟩], o := o4 } := ⟨_, rfl⟩
  rw [← hS4] at g4 lo4
  have hi4 : S4.i = h.length + 7 := by rw [hS4]; exact hi3
  have g4a := g4.app [msC ⟨75, B2⟩] (by simp [msC_mk])
  obtain ⟨o5, D5⟩ := vtake_some g4a (m := ⟨90, B3⟩) (r := []) (by rw [hS4])
  obtain ⟨h5, w5, k5, g5, lw5, hl5, hs5, lo5, kp5, _⟩ := D5.low lo4 (by simp; omega)
  obtain ⟨S5, hS5⟩ : ∃ S5, S5 = { S4 with Q := [], o := o5 } := ⟨_, rfl⟩
  rw [← hS5] at g5 lo5
  have hi5 : S5.i = h.length + 7 := by rw [hS5]; exact hi4
  have ho5 : S5.over = false := by rw [hS5, hS4, hS3]; exact ho2
  have g5a := g5.app [msC ⟨90, B3⟩] (by simp [msC_mk])
  have k6 := vtake_none g5a (by rw [hS5])
  have g6 := g5.app [msC ⟨90, B3⟩, msC ⟨0, []⟩] (by simp [msC_mk])
  have k7 := vover_c g6
  rw [ho5] at k7
  rw [List.length_append, List.length_singleton] at hl5
  have c1 : ∀ xs : List (List AV), (h5 ++ xs)[h3.length]? = some (msC ⟨82, B1⟩) := fun xs => by
    have a1 : h4[h3.length]? = some (msC ⟨82, B1⟩) := by
      rw [kp4 h3.length (by simp) (fun hq => by have := g3.vars_lt hq; omega), List.getElem?_append_right (Nat.le_refl _), Nat.sub_self]; rfl
    rw [List.getElem?_append_left (by omega), kp5 h3.length (by simp; omega) (fun hq => ?_), List.getElem?_append_left (by omega)]
    · exact a1
    · rw [hS4] at hq
      rcases vv4 _ hq with h6 | h6
      · have := g3.vars_lt h6; omega
      · rw [List.length_append, List.length_singleton] at h6; omega
  have c2 : ∀ xs : List (List AV), (h5 ++ xs)[h4.length]? = some (msC ⟨75, B2⟩) := fun xs => by
    rw [List.getElem?_append_left (by omega), kp5 h4.length (by simp) (fun hq => by have := g4.vars_lt hq; omega), List.getElem?_append_right (Nat.le_refl _), Nat.sub_self]; rfl
  have c3 : ∀ xs : List (List AV), (h5 ++ msC ⟨90, B3⟩ :: xs)[h5.length]? = some (msC ⟨90, B3⟩) := fun xs => by
    rw [List.getElem?_append_right (Nat.le_refl _), Nat.sub_self]; rfl
  rw [show (v0 h.length).i = h.length + 7 from rfl] at k1
  rw [hi1] at k2
  rw [hi2] at k3
  rw [hi3] at k4
  rw [hi4] at k5
  rw [hi5] at k6 k7
  simp [c6]
  refine xcall_self (by simp) ke ?_
  simp
  refine xcall_self (by simp) kn0 ?_
  simp
  refine xcall_self (by simp) (phello_c _) ?_
  simp
  refine xcall_of k1 (by simp) (by simp) ?_
  simp
  refine xcall_self (by simp) k2 ?_
  simp
  refine xcall_self (by simp) k3 ?_
  simp
  refine xcall_self (by simp) k4 ?_
  simp
  refine xcall_self (by simp) k5 ?_
  simp
  refine xcall_self (by simp) k6 ?_
  have t1 : msC ⟨82, B1⟩ = [.v (.int .u8 82), .sl 1 (bytesE B1) none .no] := rfl
  have t2 : msC ⟨75, B2⟩ = [.v (.int .u8 75), .sl 1 (bytesE B2) none .no] := rfl
  have t3 : msC ⟨90, B3⟩ = [.v (.int .u8 90), .sl 1 (bytesE B3) none .no] := rfl
  simp [c1, c2, c3, t1, t2, t3]
  rw [← t3]
  refine xcall_self (by simp) k7 ?_
  simp
  have hk : ∀ q < h.length, (h5 ++ [msC ⟨90, B3⟩, msC ⟨0, []⟩])[q]? = h[q]? := fun q hq => by
    rw [List.getElem?_append_left (by omega), hs5 q hq, List.getElem?_append_left (by omega), hs4 q hq, List.getElem?_append_left (by omega), hs3 q hq, hs2 q hq, hs1 q hq]
    unfold heapV
    rw [List.getElem?_append_left hq]
  refine ⟨by omega, leqH_kept (by rw [List.length_append]; omega) hk, hh, by omega, by omega, fun q hq => ?_⟩
  rcases hq with hq | rfl | hq | rfl | hq | hq | hq
  · exact lw5 q hq
  · omega
  · exact lw4 q hq
  · omega
  · exact lw3 q hq
  · exact lw2 q hq
  · exact lw1 q hq
/-! ### Nobody's -/
def zS : List AV := [.sl 0 [] (some true) .exact, .v (.pointer none), .v (.pointer none), .sl 0 [] (some true) .exact, .v (.int .i64 0), .v (.bool false), .v (.bool false)]
section
variable {h : List (List AV)} {z : Nat}
theorem vmade_nil (h : List (List AV)) : Contract Tryz.prog 23 [.v (.pointer none)] h (.v (.bool false)) h [] := by
  refine contract_of k23 mixed (by simp [c23]) fun hh hargs => ?_
  simp [c23, hh]
theorem vmade_zero (hz : h[z]? = some zS) : Contract Tryz.prog 23 [.box z 0] h (.v (.bool false)) h [] := by
  unfold zS at hz
  refine contract_of k23 mixed (by simp [c23]) fun hh hargs => ?_
  simp [c23, hh, hz]
theorem vfeed_no {p : AV} (hid : p.idOf = none) (hun : p.unown = p) (km : ∀ xs, Contract Tryz.prog 23 [p] (h ++ xs) (.v (.bool false)) (h ++ xs) []) (xs : List UInt8) : Contract Tryz.prog 12 [p, .sl 1 (bytesE xs) none .no] h (.v (.int .i64 2)) h [] := by
  have km0 := km []
  rw [List.append_nil] at km0
  refine contract_of k12 mixed (by simp [c12]) fun hh hargs => ?_
  simp [c12, hid, hun]
  refine xcall_self (by simp [hid, hun]) km0 ?_
  simp [hh]
theorem vtake_no {p : AV} (hid : p.idOf = none) (hun : p.unown = p) (km : ∀ xs, Contract Tryz.prog 23 [p] (h ++ xs) (.v (.bool false)) (h ++ xs) []) : Contract Tryz.prog 11 [p] h (.tup [.agg (msC ⟨0, []⟩), .v (.bool false)]) h [] := by
  refine contract_of k11 mixed (by simp [c11]) fun hh hargs => ?_
  simp [c11, hid, hun]
  refine xcall_self (by simp [hid, hun]) (km _) ?_
  simp [hh, leqH_take, msC_mk]
  done
theorem vstep_nil (h : List (List AV)) : Contract Tryz.prog 10 [.v (.pointer none)] h (.tup [.agg (fmC noFm), .v (.bool false)]) h [] := by
  refine contract_of k10 mixed (by simp [c10]) fun hh hargs => ?_
  simp [c10]
  refine xcall_self (by simp) (vmade_nil _) ?_
  simp [hh, leqH_take, noFm, fmC_mk]
  done
theorem vover_no {p : AV} (hid : p.idOf = none) (hun : p.unown = p) (km : Contract Tryz.prog 23 [p] h (.v (.bool false)) h []) : Contract Tryz.prog 13 [p] h (.v (.bool false)) h [] := by
  refine contract_of k13 mixed (by simp [c13]) fun hh hargs => ?_
  simp [c13, hid, hun]
  refine xcall_self (by simp [hid, hun]) km ?_
  simp [hh]
theorem vsess_nil (h : List (List AV)) : Contract Tryz.prog 14 [.v (.pointer none)] h (.v (.pointer none)) h [] := by
  refine contract_of k14 mixed (by simp [c14]) fun hh hargs => ?_
  simp [c14]
  refine xcall_self (by simp) (vmade_nil _) ?_
  simp [hh]
end
theorem vnobody_c (xs : List UInt8) (h : List (List AV)) : Contract Tryz.prog 4 [.sl 1 (bytesE xs) none .no] h (.v (.bool true)) h [] := by
  have hz : ∀ ys : List (List AV), (h ++ zS :: ys)[h.length]? = some zS := fun ys => by
    rw [List.getElem?_append_right (Nat.le_refl _), Nat.sub_self]; rfl
  have km : ∀ ys ws : List (List AV), Contract Tryz.prog 23 [.box h.length 0] ((h ++ zS :: ys) ++ ws) (.v (.bool false)) ((h ++ zS :: ys) ++ ws) [] := fun ys ws => vmade_zero (by rw [List.append_assoc, List.cons_append]; exact hz _)
  have ez : [AV.sl 0 [] (some true) .exact, .v (.pointer none), .v (.pointer none), .sl 0 [] (some true) .exact, .v (.int .i64 0), .v (.bool false), .v (.bool false)] = zS := rfl
  have r1 := fun ys => vfeed_no (h := h ++ zS :: ys) (p := .box h.length 0) rfl rfl (km ys) xs
  have r2 := fun ys => vtake_no (h := h ++ zS :: ys) (p := .box h.length 0) rfl rfl (km ys)
  have r3 := fun ys => vover_no (h := h ++ zS :: ys) (p := .box h.length 0) rfl rfl (by have := km ys []; rwa [List.append_nil] at this)
  have r4 := fun h2 => vfeed_no (h := h2) (p := .v (.pointer none)) rfl rfl (fun ys => vmade_nil _) xs
  have r5 := fun h2 => vtake_no (h := h2) (p := .v (.pointer none)) rfl rfl (fun ys => vmade_nil _)
  have r6 := fun h2 => vover_no (h := h2) (p := .v (.pointer none)) rfl rfl (vmade_nil _)
  refine contract_of k4 mixed (by simp [c4]) fun hh hargs => ?_
  simp [c4, ez]
  refine xcall_self (by simp) (vstep_nil _) ?_
  simp
  refine xcall_self (by simp) (r2 _) ?_
  simp
  refine xcall_self (by simp) (r5 _) ?_
  have hf : fmC noFm = .v (.int .u8 0) :: (fmC noFm).drop 1 := rfl
  simp
  refine xcall_self (by simp) (r4 _) ?_
  simp
  refine xcall_self (by simp) (r1 _) ?_
  rw [hf]
  simp
  refine xcall_self (by simp) (r6 _) ?_
  simp
  refine xcall_self (by simp) (r3 _) ?_
  simp
  refine xcall_self (by simp) (vsess_nil _) ?_
  simp
  refine xcall_self (by simp) (vawake_c _) ?_
  simp [hh]
theorem vnobody_l (xs : List UInt8) : Contract Tryz.prog 4 [.sl 1 (bytesE xs) none .no] [] (.v (.bool true)) [] [] := vnobody_c xs []
end Go.Proofs.YtlbgjlmokpkkeaaGreatDoor.Ax
namespace Go.Proofs.YtlbgjlmokpkkeaaGreatDoor.serveNobody
open Go.ChangeShapes Go.WideShapes Go.ChangeAt Go.RowKit
open Go.ChangeMaps (open_string shut_string)
set_option linter.unusedVariables false

theorem own : ownKnob Tryz.prog.godebug = none := by kernel_rfl
theorem laidOut : laidOutB Tryz.prog = true := by kernel_rfl

theorem et : Tryz.prog.globalNamed "errors.errorType" = some 0 := by kernel_rfl
theorem rt : (Tryz.prog.cutTypes.find? (·.1 == "internal/reflectlite.rtype")).map (·.2) = some 277 := by kernel_rfl
theorem oneRow : ((List.range 364).filter fun t => Tryz.prog.rowNamed t [101, 114, 114, 111, 114]) = [146] := by kernel_rfl
theorem size : Tryz.prog.types.size = 364 := by kernel_rfl
theorem dom (W : World) (h : laidMetH Tryz.prog Rows.serveNobodyRow.laid W) : Ax.Dom W := by
  obtain ⟨name, u, ty, e1, e2, e3, e4, e5⟩ := (laidMetH_iff.1 h).2 ("errors.errorType", Rows.laid_errors_errorType) (List.mem_filter.2 ⟨by simp [Rows.serveNobodyRow], by kernel_rfl⟩)
  have en : name = [101, 114, 114, 111, 114] := (Option.some.inj e1).symm
  subst en
  obtain rfl := Option.some.inj (rt.symm.trans e2)
  have hm : ty ∈ (List.range 364).filter fun t => Tryz.prog.rowNamed t [101, 114, 114, 111, 114] := List.mem_filter.2 ⟨List.mem_range.2 (by rw [← size]; exact e3), e4⟩
  rw [oneRow] at hm
  obtain rfl := List.mem_singleton.1 hm
  have := World.var?_cell et e5 0
  unfold Ax.Dom
  simpa using this
def data : List (String × DataW Unit) := Rows.serveNobodyRow.laid.filter fun x => x.2.handleName?.isNone
/-- A world that meets the condition: the listed tables are laid, and the handle. -/
noncomputable def laidWorld (os : Os) : World :=
  { World.laidAll Tryz.prog os data with heap := (World.laidAll Tryz.prog os data).heap.modify 0 fun
      | .cells _ t frozen => .cells #[.iface 277 (.agg #[.pointer (some ⟨4, 146, none⟩)])] t frozen
      | o => o }
set_option maxRecDepth 100000 in
theorem laidWorld_met (os : Os) (args : Array Value) : laidMetH Tryz.prog Rows.serveNobodyRow.laid ((laidWorld os).forCall (fun _ _ => 0) ⟨#[], args, []⟩).memory :=
  laidMetH_of_parts (laidMet_of_run' 300 (by kernel_rfl) (by kernel_rfl)) (by kernel_rfl)

set_option maxRecDepth 100000 in
theorem lifted (os : Os) (started : os.Started) (H : Type) (enc : TypeId × Value → H) :
    ReturnsInHanded {} Tryz.checked os 4 .any (fun w args => (Rows.serveNobodySpec.pre enc Tryz.prog Tryz.f4 Rows.serveNobodyRow.domain false w args ∧ laidMetH Tryz.prog Rows.serveNobodyRow.laid w) ∧ sizedMet enc Tryz.prog Tryz.f4 (OpenSpec.ofChange Rows.serveNobodySpec) false w args) (Rows.serveNobodySpec.post enc Tryz.prog Tryz.f4 false true false false) := by
  refine returnsInHanded_of_change_and (C := Tryz.checked) (X := fun w _ => laidMetH Tryz.prog Rows.serveNobodyRow.laid w) (fun _ _ _ hh h => h.of_heap hh) own started (by kernel_rfl) Tryz.func4
    (ChangeSpec.witness_shaped (enc := enc) (C := Tryz.checked) (os := os) (X := fun w _ => laidMetH Tryz.prog Rows.serveNobodyRow.laid w) false (laidWorld os) #[.slice none 0 0] 8 (World.laidAll_os _ _ _)
      (by first | exact World.shaped_of_ZipB (by kernel_rfl) (by kernel_rfl) | exact World.shaped_of_RefB (by kernel_rfl) (by kernel_rfl)) (by kernel_rfl) (by kernel_rfl) (by kernel_rfl) (laidWorld_met os _)) ?_
  intro W base args ds gs before hval0 hW hcnd hreach hL _
  have hval : ∀ (j : Nat) t v, Tryz.f4.params[j]? = some t → args[j]? = some v → Value.okWide Tryz.prog W .any base t v := hval0
  have hW' := hW
  obtain ⟨p, q, hA0, hV, rfl, hfz, hnd⟩ := hW
  have hA : DataW.TrodAll enc Tryz.prog W 0 (fun _ => true) true Tryz.f4.params.toList args.toList ds p := hA0
  rw [Tryz.params4] at hA hval
  obtain ⟨v0, vs0, d0, ds0, p0, q0, hargs, rfl, rfl, h0, r0⟩ := trodAll_cons hA
  obtain ⟨rfl, rfl, rfl⟩ := trodAll_nil r0
  obtain rfl : args = #[v0] := by cases args; simp_all
  obtain ⟨rfl, rfl⟩ := trodVars_none hV
  have k0 := h0
  have lt0 : ∀ x ∈ p0, x.block < W.heap.size := by obtain ⟨m, hm⟩ := k0; exact DataW.trod_lt m _ _ _ hm
  obtain ⟨a0, ok0, s0⟩ := Ax.arg_slice Tryz.underlying23 Ax.sh_bytes (hval 0 23 v0 rfl rfl) h0
  clear hA0 hval0 hreach
  refine (Ax.law_walk (w := W) (dom W hL) (Ax.vnobody_l a0) (by simp) (.cons s0 .nil)).mono fun e W' ⟨he, bel⟩ => ?_
  subst he
  exact ⟨_, rfl, _, _, _, [], _, [], hW', trodAll_mk1 (shut_bool Tryz.underlying4 _), (trodAll_cons_mk (Below.trod laidOut (by kernel_rfl) (of_decide_eq_true (by kernel_rfl)) k0 bel lt0) trodAll_mk0), rfl, bel.frame _, fun h => by cases h⟩

theorem over : Rows.serveNobodyRow.holds Tryz.pinned (OpenSpec.ofChange Rows.serveNobodySpec) :=
  OpenClaim.holds_of_wide 4 Tryz.f4 rfl rfl rfl rfl rfl rfl rfl ⟨rfl, rfl, rfl, rfl, rfl⟩ rfl rfl rfl rfl rfl (by kernel_rfl) Tryz.func4 (by kernel_rfl)
    (of_decide_eq_true (by kernel_rfl)) (by unfold Func.isWrapper; first | (rw [if_pos (by decide +kernel)]; kernel_rfl) | (rw [if_neg (by decide +kernel)]; exact ⟨rfl, rfl⟩))
    (fun os started H enc _ => lifted os started H enc)

theorem proved : Rows.ServeNobodyCardSaid :=
  Claim7.holds_tied_plain_at .later [] [.data, .handle, .pinned] true (true, "c9b2314fb9163c9be69c8403b613e7aa069144ca84db3d181c1d08fd86481334") true over (fun _ h => by cases h) (by kernel_rfl) (fun _ h => by cases h) serveNobody_row_tie rfl ⟨rfl, rfl⟩ (by kernel_rfl) rfl
    (fun f fn hf hfn => by
      obtain rfl : f = 4 := Option.some.inj ((show Tryz.prog.funcNamed "remuda/remudalaw31.ServeNobody" = some 4 by kernel_rfl).symm.trans hf) |>.symm
      obtain rfl : fn = Tryz.f4 := (Option.some.inj (Tryz.func4.symm.trans hfn)).symm
      exact ⟨by kernel_rfl, fun j t ht => by
        rw [Tryz.params4] at ht
        have hm : t ∈ [23] := by simpa using Array.mem_of_getElem? ht
        have hall : ([23].all fun u => !Tryz.prog.wantsStandIn u) = true := by kernel_rfl
        exact (show Tryz.prog.wantsStandIn t = false by simpa using List.all_eq_true.1 hall t hm)⟩)
    (by kernel_rfl)
#print axioms proved
end Go.Proofs.YtlbgjlmokpkkeaaGreatDoor.serveNobody
