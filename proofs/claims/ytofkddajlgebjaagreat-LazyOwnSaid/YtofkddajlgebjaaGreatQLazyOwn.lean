/- What is answered is new each time; what is done with it, or with the parameters, changes nothing. -/
import Derived.Test.YtofkddajlgebjaaGreatQAxXr
import Derived.Test.YtofkddajlgebjaaGreatRows
import Derived.Laws.LoneSync
import Derived.Laws.Pointers
import Derived.Laws.NewBlocks
import Derived.Defers
import Derived.RegionTactic
import Derived.RegionCalls
import Derived.Test.YtofkddajlgebjaaGreatQAxAt
import Derived.Test.YtofkddajlgebjaaGreatQAxGa
import Derived.Test.YtofkddajlgebjaaGreatQAxIb
import Derived.Test.YtofkddajlgebjaaGreatQAxIp
import Derived.Test.YtofkddajlgebjaaGreatQElems
import Derived.Test.YtofkddajlgebjaaGreatQAxTz
import Derived.WalkKit
import Derived.ProofKit
import Derived.OpenShut
import Derived.ShutString
import Derived.ChangeOld
import Derived.Below
/- The texts of functions over values without memory, as the kernel reckons them out of the program. -/
namespace Go.Proofs.YtofkddajlgebjaaGreat.Ax
open Go.RowKit Go By

def c8 : XFun := ⟨7, (.seq (.ops [⟨(some 2), (.assign (.const (.pointer none))), none⟩]) (.seq (.ops [⟨(some 3), (.move (.tmp 0)), none⟩, ⟨(some 4), (.call 14 [(.tmp 3)]), none⟩, ⟨(some 5), (.build [(.v (.bool false)), (.sl 0 [] (some true) .exact), (.v (.int .u32 0)), (.v (.int .i32 0)), (.v (.int .u32 0)), (.sl 0 [] (some true) .exact), (.v (.int .i64 0))] [(0, (1, (.const (.bool true)))), (1, (1, (.tmp 4)))]), none⟩, ⟨(some 6), (.box (.tmp 5)), none⟩, ⟨(some 2), (.assign (.tmp 6)), none⟩]) .ret)), [(.move (.tmp 2))]⟩
theorem k8 : cfun Tryz.prog 8 = some c8 := by kernel_rfl
def c11 : XFun := ⟨28, (.seq (.ops [⟨(some 4), (.assign (.const (.slice none 0 0))), none⟩]) (.seq (.seq (.ops [⟨(some 6), (.move (.tmp 0)), none⟩, ⟨(some 7), (.call 15 [(.tmp 6)]), none⟩, ⟨(some 8), (.un .not (.tmp 7)), none⟩]) (.cond (.tmp 8) (.seq (.ops [⟨(some 4), (.assign (.const (.slice none 0 0))), none⟩]) .ret) .skip)) (.seq (.ops [⟨(some 9), (.move (.tmp 0)), none⟩, ⟨(some 10), (.nilCheck (.tmp 9)), none⟩, ⟨(some 11), (.faddr 2 (.tmp 10)), none⟩, ⟨(some 12), (.move (.tmp 0)), none⟩, ⟨(some 13), (.mkfn (.func 18) [(.tmp 12)] []), none⟩, ⟨(some 14), (.call 17 [(.tmp 11), (.tmp 13)]), none⟩]) (.seq (.ops [⟨(some 15), (.move (.tmp 1)), none⟩, ⟨(some 16), (.call 13 [(.const (.slice none 0 0)), (.tmp 15)]), none⟩, ⟨(some 5), (.assign (.tmp 16)), none⟩]) (.seq (.draws (.take ⟨(some 17), (.move (.tmp 0)), none⟩ (.take ⟨(some 18), (.nilCheck (.tmp 17)), none⟩ (.take ⟨(some 19), (.faddr 5 (.tmp 18)), none⟩ (.take ⟨(some 20), (.load1 (.tmp 19)), none⟩ (.take ⟨(some 21), (.move (.tmp 5)), none⟩ (.take ⟨(some 22), (.move (.tmp 5)), none⟩ (.take ⟨(some 23), (.lenL (.tmp 22)), none⟩ (.take ⟨(some 24), (.bin .sub (.tmp 23) (.const (.int .i64 19))), none⟩ (.take ⟨(some 25), (.slice 1 (.tmp 21) (some (.tmp 24)) none none), none⟩ (.only ⟨(some 26), (.buildSlice 1 2 [(.sl 0 [] (some true) .exact)] [(0, (.tmp 20)), (1, (.tmp 25))]), none⟩ (.only ⟨(some 27), (.call 19 [(.tmp 26)]), none⟩ (.take ⟨(some 4), (.assign (.tmp 27)), none⟩ .done))))))))))))) .ret))))), [(.move (.tmp 4))]⟩
theorem k11 : cfun Tryz.prog 11 = some c11 := by kernel_rfl
def c9 : XFun := ⟨10, (.seq (.ops [⟨(some 2), (.assign (.const (.int .i64 0))), none⟩]) (.seq (.seq (.ops [⟨(some 3), (.move (.tmp 0)), none⟩, ⟨(some 4), (.call 15 [(.tmp 3)]), none⟩, ⟨(some 5), (.un .not (.tmp 4)), none⟩]) (.cond (.tmp 5) (.seq (.ops [⟨(some 2), (.assign (.const (.int .i64 0))), none⟩]) .ret) .skip)) (.seq (.ops [⟨(some 6), (.move (.tmp 0)), none⟩, ⟨(some 7), (.nilCheck (.tmp 6)), none⟩, ⟨(some 8), (.faddr 6 (.tmp 7)), none⟩, ⟨(some 9), (.call 16 [(.tmp 8)]), none⟩, ⟨(some 2), (.assign (.tmp 9)), none⟩]) .ret))), [(.move (.tmp 2))]⟩
theorem k9 : cfun Tryz.prog 9 = some c9 := by kernel_rfl
def c18 : XFun := ⟨23, (.seq (.ops [⟨(some 3), (.move (.tmp 0)), none⟩, ⟨(some 4), (.nilCheck (.tmp 3)), none⟩, ⟨(some 5), (.faddr 1 (.tmp 4)), none⟩, ⟨(some 6), (.load1 (.tmp 5)), none⟩, ⟨(some 7), (.call 13 [(.tmp 6), (.const (.int .i64 0))]), none⟩, ⟨(some 2), (.assign (.tmp 7)), none⟩]) (.seq (.ops [⟨(some 8), (.move (.tmp 0)), none⟩, ⟨(some 9), (.move (.tmp 2)), none⟩, ⟨(some 10), (.move (.tmp 2)), none⟩, ⟨(some 11), (.lenL (.tmp 10)), none⟩, ⟨(some 12), (.bin .sub (.tmp 11) (.const (.int .i64 19))), none⟩, ⟨(some 13), (.slice 1 (.tmp 9) none (some (.tmp 12)) none), none⟩, ⟨(some 14), (.nilCheck (.tmp 8)), none⟩, ⟨(some 15), (.faddr 5 (.tmp 14)), none⟩, ⟨none, (.store 1 (.tmp 15) (.tmp 13)), none⟩]) (.seq (.ops [⟨(some 16), (.move (.tmp 0)), none⟩, ⟨(some 17), (.nilCheck (.tmp 16)), none⟩, ⟨(some 18), (.faddr 1 (.tmp 17)), none⟩, ⟨none, (.store 1 (.tmp 18) (.const (.slice none 0 0))), none⟩]) (.ops [⟨(some 19), (.move (.tmp 0)), none⟩, ⟨(some 20), (.nilCheck (.tmp 19)), none⟩, ⟨(some 21), (.faddr 6 (.tmp 20)), none⟩, ⟨(some 22), (.call 27 [(.tmp 21), (.const (.int .i64 1))]), none⟩])))), []⟩
theorem k18 : cfun Tryz.prog 18 = some c18 := by kernel_rfl
def c15 : XFun := ⟨11, (.seq (.ops [⟨(some 2), (.assign (.const (.bool false))), none⟩]) (.seq (.ops [⟨(some 3), (.move (.tmp 0)), none⟩, ⟨(some 4), (.pnileq true (.tmp 3)), none⟩, ⟨(some 5), (.move (.tmp 4)), none⟩, ⟨(some 6), (.move (.tmp 0)), (some (5, true))⟩, ⟨(some 7), (.nilCheck (.tmp 6)), (some (5, true))⟩, ⟨(some 8), (.faddr 0 (.tmp 7)), (some (5, true))⟩, ⟨(some 9), (.load1 (.tmp 8)), (some (5, true))⟩, ⟨(some 10), (.pick (.tmp 5) (.tmp 9) (.const (.bool false))), none⟩, ⟨(some 2), (.assign (.tmp 10)), none⟩]) .ret)), [(.move (.tmp 2))]⟩
theorem k15 : cfun Tryz.prog 15 = some c15 := by kernel_rfl
def c14 : XFun := ⟨8, (.seq (.ops [⟨(some 2), (.assign (.const (.slice none 0 0))), none⟩]) (.seq (.seq (.ops [⟨(some 3), (.move (.tmp 0)), none⟩, ⟨(some 4), (.nileq false (.tmp 3)), none⟩]) (.cond (.tmp 4) (.seq (.ops [⟨(some 2), (.assign (.const (.slice none 0 0))), none⟩]) .ret) .skip)) (.seq (.ops [⟨(some 5), (.emptyS 2), none⟩, ⟨(some 6), (.move (.tmp 0)), none⟩, ⟨(some 7), (.append 2 32 (.tmp 5) (.tmp 6)), none⟩, ⟨(some 2), (.assign (.tmp 7)), none⟩]) .ret))), [(.move (.tmp 2))]⟩
theorem k14 : cfun Tryz.prog 14 = some c14 := by kernel_rfl
def c7 : XFun := ⟨27, (.seq (.ops [⟨(some 0), (.assign (.const (.bool false))), none⟩]) (.seq (.ops [⟨(some 2), (.call 8 [(.const (.slice none 0 0))]), none⟩, ⟨(some 1), (.assign (.tmp 2)), none⟩]) (.seq (.ops [⟨(some 3), (.move (.tmp 1)), none⟩, ⟨(some 4), (.pnileq true (.tmp 3)), none⟩, ⟨(some 5), (.move (.tmp 4)), none⟩, ⟨(some 6), (.move (.tmp 1)), (some (5, true))⟩, ⟨(some 7), (.call 9 [(.tmp 6)]), (some (5, true))⟩, ⟨(some 8), (.bin .eql (.tmp 7) (.const (.int .i64 0))), (some (5, true))⟩, ⟨(some 9), (.pick (.tmp 5) (.tmp 8) (.const (.bool false))), none⟩, ⟨(some 10), (.move (.tmp 9)), none⟩, ⟨(some 11), (.move (.tmp 1)), (some (10, true))⟩, ⟨(some 12), (.call 11 [(.tmp 11), (.const (.int .i64 0))]), (some (10, true))⟩, ⟨(some 13), (.lenL (.tmp 12)), (some (10, true))⟩, ⟨(some 14), (.bin .eql (.tmp 13) (.const (.int .i64 28))), (some (10, true))⟩, ⟨(some 15), (.pick (.tmp 10) (.tmp 14) (.const (.bool false))), none⟩, ⟨(some 16), (.move (.tmp 15)), none⟩, ⟨(some 17), (.move (.tmp 1)), (some (16, true))⟩, ⟨(some 18), (.call 11 [(.tmp 17), (.const (.int .i64 1))]), (some (16, true))⟩, ⟨(some 19), (.lenL (.tmp 18)), (some (16, true))⟩, ⟨(some 20), (.bin .eql (.tmp 19) (.const (.int .i64 28))), (some (16, true))⟩, ⟨(some 21), (.pick (.tmp 16) (.tmp 20) (.const (.bool false))), none⟩, ⟨(some 22), (.move (.tmp 21)), none⟩, ⟨(some 23), (.move (.tmp 1)), (some (22, true))⟩, ⟨(some 24), (.call 9 [(.tmp 23)]), (some (22, true))⟩, ⟨(some 25), (.bin .eql (.tmp 24) (.const (.int .i64 1))), (some (22, true))⟩, ⟨(some 26), (.pick (.tmp 22) (.tmp 25) (.const (.bool false))), none⟩, ⟨(some 0), (.assign (.tmp 26)), none⟩]) .ret))), [(.move (.tmp 0))]⟩
theorem k7 : cfun Tryz.prog 7 = some c7 := by kernel_rfl
def c6 : XFun := ⟨27, (.seq (.ops [⟨(some 2), (.assign (.const (.bool false))), none⟩]) (.seq (.seq (.ops [⟨(some 5), (.move (.tmp 0)), none⟩, ⟨(some 6), (.lenL (.tmp 5)), none⟩, ⟨(some 7), (.move (.const (.int .i64 0))), none⟩]) (.block 0 (.loop (.seq (.ops [⟨(some 8), (.bin .lss (.tmp 7) (.tmp 6)), none⟩]) (.seq (.cond (.tmp 8) .skip (.exit 0)) (.seq (.block 1 (.seq (.ops [⟨(some 9), (.move (.tmp 7)), none⟩, ⟨(some 10), (.iaddr 2 (.tmp 5) (.tmp 7)), none⟩, ⟨(some 11), (.loadN 2 (.tmp 10)), none⟩, ⟨(some 4), (.alloc [(.v (.string (strB []))), (.v (.string (strB [])))]), none⟩, ⟨(some 3), (.assign (.tmp 9)), none⟩, ⟨none, (.store 2 (.tmp 4) (.tmp 11)), none⟩]) (.seq (.ops [⟨(some 12), (.move (.tmp 3)), none⟩, ⟨(some 13), (.bin .geq (.tmp 12) (.const (.int .i64 40))), none⟩, ⟨(some 14), (.move (.tmp 13)), none⟩, ⟨(some 15), (.faddr 0 (.tmp 4)), (some (14, false))⟩, ⟨(some 16), (.load1 (.tmp 15)), (some (14, false))⟩, ⟨(some 17), (.lenS (.tmp 16)), (some (14, false))⟩, ⟨(some 18), (.bin .gtr (.tmp 17) (.const (.int .i64 200))), (some (14, false))⟩, ⟨(some 19), (.pick (.tmp 14) (.const (.bool true)) (.tmp 18)), none⟩, ⟨(some 20), (.move (.tmp 19)), none⟩, ⟨(some 21), (.faddr 1 (.tmp 4)), (some (20, false))⟩, ⟨(some 22), (.load1 (.tmp 21)), (some (20, false))⟩, ⟨(some 23), (.lenS (.tmp 22)), (some (20, false))⟩, ⟨(some 24), (.bin .gtr (.tmp 23) (.const (.int .i64 200))), (some (20, false))⟩, ⟨(some 25), (.pick (.tmp 20) (.const (.bool true)) (.tmp 24)), none⟩]) (.cond (.tmp 25) (.seq (.ops [⟨(some 2), (.assign (.const (.bool true))), none⟩]) .ret) .skip)))) (.ops [⟨(some 26), (.bin .add (.tmp 7) (.const (.int .i64 1))), none⟩, ⟨(some 7), (.move (.tmp 26)), none⟩]))))))) (.seq (.ops [⟨(some 2), (.assign (.const (.bool false))), none⟩]) .ret))), [(.move (.tmp 2))]⟩
theorem k6 : cfun Tryz.prog 6 = some c6 := by kernel_rfl
def c3 : XFun := ⟨56, (.seq (.ops [⟨(some 4), (.assign (.const (.bool false))), none⟩]) (.seq (.seq (.ops [⟨(some 8), (.move (.tmp 0)), none⟩, ⟨(some 9), (.call 6 [(.tmp 8)]), none⟩, ⟨(some 10), (.move (.tmp 9)), none⟩, ⟨(some 11), (.move (.tmp 1)), (some (10, false))⟩, ⟨(some 12), (.lenL (.tmp 11)), (some (10, false))⟩, ⟨(some 13), (.bin .gtr (.tmp 12) (.const (.int .i64 60))), (some (10, false))⟩, ⟨(some 14), (.pick (.tmp 10) (.const (.bool true)) (.tmp 13)), none⟩]) (.cond (.tmp 14) (.seq (.ops [⟨(some 15), (.call 7 []), none⟩, ⟨(some 4), (.assign (.tmp 15)), none⟩]) .ret) .skip)) (.seq (.ops [⟨(some 16), (.move (.tmp 0)), none⟩, ⟨(some 17), (.call 8 [(.tmp 16)]), none⟩, ⟨(some 5), (.assign (.tmp 17)), none⟩]) (.seq (.seq (.ops [⟨(some 18), (.move (.tmp 5)), none⟩, ⟨(some 19), (.pnileq false (.tmp 18)), none⟩, ⟨(some 20), (.move (.tmp 19)), none⟩, ⟨(some 21), (.move (.tmp 5)), (some (20, false))⟩, ⟨(some 22), (.call 9 [(.tmp 21)]), (some (20, false))⟩, ⟨(some 23), (.bin .neq (.tmp 22) (.const (.int .i64 0))), (some (20, false))⟩, ⟨(some 24), (.pick (.tmp 20) (.const (.bool true)) (.tmp 23)), none⟩]) (.cond (.tmp 24) (.seq (.ops [⟨(some 4), (.assign (.const (.bool false))), none⟩]) .ret) .skip)) (.seq (.seq (.ops [⟨(some 25), (.move (.tmp 1)), none⟩, ⟨(some 26), (.lenL (.tmp 25)), none⟩, ⟨(some 27), (.move (.const (.int .i64 0))), none⟩]) (.block 0 (.loop (.seq (.ops [⟨(some 28), (.bin .lss (.tmp 27) (.tmp 26)), none⟩]) (.seq (.cond (.tmp 28) .skip (.exit 0)) (.seq (.block 1 (.seq (.ops [⟨(some 29), (.iaddr 1 (.tmp 25) (.tmp 27)), none⟩, ⟨(some 30), (.load1 (.tmp 29)), none⟩, ⟨(some 7), (.assign (.tmp 30)), none⟩]) (.seq (.ops [⟨(some 31), (.move (.tmp 5)), none⟩, ⟨(some 32), (.move (.tmp 7)), none⟩, ⟨(some 33), (.call 11 [(.tmp 31), (.tmp 32)]), none⟩, ⟨(some 34), (.move (.tmp 0)), none⟩, ⟨(some 35), (.move (.tmp 7)), none⟩, ⟨(some 36), (.call 12 [(.tmp 34), (.tmp 35)]), none⟩, ⟨(some 37), (.call 10 [(.tmp 33), (.tmp 36)]), none⟩, ⟨(some 38), (.un .not (.tmp 37)), none⟩, ⟨(some 39), (.move (.tmp 38)), none⟩, ⟨(some 40), (.move (.tmp 5)), (some (39, false))⟩, ⟨(some 41), (.move (.tmp 7)), (some (39, false))⟩, ⟨(some 42), (.call 11 [(.tmp 40), (.tmp 41)]), (some (39, false))⟩, ⟨(some 43), (.move (.tmp 0)), (some (39, false))⟩, ⟨(some 44), (.move (.tmp 7)), (some (39, false))⟩, ⟨(some 45), (.call 13 [(.tmp 43), (.tmp 44)]), (some (39, false))⟩, ⟨(some 46), (.call 10 [(.tmp 42), (.tmp 45)]), (some (39, false))⟩, ⟨(some 47), (.un .not (.tmp 46)), (some (39, false))⟩, ⟨(some 48), (.pick (.tmp 39) (.const (.bool true)) (.tmp 47)), none⟩, ⟨(some 49), (.move (.tmp 48)), none⟩, ⟨(some 50), (.move (.tmp 5)), (some (49, false))⟩, ⟨(some 51), (.call 9 [(.tmp 50)]), (some (49, false))⟩, ⟨(some 52), (.bin .neq (.tmp 51) (.const (.int .i64 1))), (some (49, false))⟩, ⟨(some 53), (.pick (.tmp 49) (.const (.bool true)) (.tmp 52)), none⟩]) (.cond (.tmp 53) (.seq (.ops [⟨(some 4), (.assign (.const (.bool false))), none⟩]) .ret) .skip)))) (.ops [⟨(some 54), (.bin .add (.tmp 27) (.const (.int .i64 1))), none⟩, ⟨(some 27), (.move (.tmp 54)), none⟩]))))))) (.seq (.ops [⟨(some 55), (.call 7 []), none⟩, ⟨(some 4), (.assign (.tmp 55)), none⟩]) .ret)))))), [(.move (.tmp 4))]⟩
theorem k3 : cfun Tryz.prog 3 = some c3 := by kernel_rfl
def c4 : XFun := ⟨32, (.seq (.ops [⟨(some 4), (.assign (.const (.bool false))), none⟩]) (.seq (.seq (.ops [⟨(some 9), (.move (.tmp 0)), none⟩, ⟨(some 10), (.call 6 [(.tmp 9)]), none⟩]) (.cond (.tmp 10) (.seq (.ops [⟨(some 11), (.call 7 []), none⟩, ⟨(some 4), (.assign (.tmp 11)), none⟩]) .ret) .skip)) (.seq (.ops [⟨(some 12), (.move (.tmp 0)), none⟩, ⟨(some 13), (.move (.tmp 1)), none⟩, ⟨(some 14), (.call 12 [(.tmp 12), (.tmp 13)]), none⟩, ⟨(some 5), (.assign (.tmp 14)), none⟩]) (.seq (.ops [⟨(some 15), (.move (.tmp 0)), none⟩, ⟨(some 16), (.appendN 2 32 (.tmp 15)), none⟩, ⟨(some 6), (.assign (.tmp 16)), none⟩]) (.seq (.ops [⟨(some 17), (.move (.tmp 6)), none⟩, ⟨(some 18), (.call 8 [(.tmp 17)]), none⟩, ⟨(some 7), (.assign (.tmp 18)), none⟩]) (.seq (.ops [⟨(some 19), (.move (.tmp 6)), none⟩, ⟨none, (.clearS 2 (.string (strB [])) (.tmp 19)), none⟩]) (.seq (.ops [⟨(some 20), (.move (.tmp 7)), none⟩, ⟨(some 21), (.move (.tmp 1)), none⟩, ⟨(some 22), (.call 11 [(.tmp 20), (.tmp 21)]), none⟩, ⟨(some 8), (.assign (.tmp 22)), none⟩]) (.seq (.ops [⟨(some 23), (.move (.tmp 8)), none⟩, ⟨none, (.clearS 1 (.int .u8 0) (.tmp 23)), none⟩]) (.seq (.ops [⟨(some 24), (.move (.tmp 7)), none⟩, ⟨(some 25), (.move (.tmp 1)), none⟩, ⟨(some 26), (.call 11 [(.tmp 24), (.tmp 25)]), none⟩, ⟨(some 27), (.move (.tmp 5)), none⟩, ⟨(some 28), (.call 10 [(.tmp 26), (.tmp 27)]), none⟩, ⟨(some 29), (.move (.tmp 28)), none⟩, ⟨(some 30), (.call 7 []), (some (29, true))⟩, ⟨(some 31), (.pick (.tmp 29) (.tmp 30) (.const (.bool false))), none⟩, ⟨(some 4), (.assign (.tmp 31)), none⟩]) .ret))))))))), [(.move (.tmp 4))]⟩
theorem k4 : cfun Tryz.prog 4 = some c4 := by kernel_rfl
end Go.Proofs.YtofkddajlgebjaaGreat.Ax
/- sync.Once, one goroutine: what is done once, with whatever closure (its call is given). Type number #124: *internal/sync.Mutex in this seat. -/
namespace Go.Proofs.YtofkddajlgebjaaGreat.Ax
set_option maxRecDepth 100000
open Go.RowKit Go By
set_option linter.unusedSimpArgs false
set_option linter.unusedVariables false

theorem raceDisable (w : World) : (callFunc 81 #[]).run Tryz.prog w = .ok (.value (.tuple #[])) w := run_call_mark0 Tryz.func81 (by kernel_rfl) (by kernel_rfl) (by kernel_rfl) .disable (by kernel_rfl) w
theorem raceEnable (w : World) : (callFunc 83 #[]).run Tryz.prog w = .ok (.value (.tuple #[])) w := run_call_mark0 Tryz.func83 (by kernel_rfl) (by kernel_rfl) (by kernel_rfl) .enable (by kernel_rfl) w
theorem raceAcquire (a : Addr) (w : World) : (callFunc 84 #[.pointer (some a)]).run Tryz.prog w = .ok (.value (.tuple #[])) w := run_call_marked Tryz.func84 (by kernel_rfl) (by kernel_rfl) (by kernel_rfl) .acquire (by kernel_rfl) a w
theorem raceRelease (a : Addr) (w : World) : (callFunc 86 #[.pointer (some a)]).run Tryz.prog w = .ok (.value (.tuple #[])) w := run_call_marked Tryz.func86 (by kernel_rfl) (by kernel_rfl) (by kernel_rfl) .releaseMerge (by kernel_rfl) a w
theorem store_deferred (a : Addr) (x : Value) (u : FrameMode) (w : World) (hc : w.cell? a = some x) (hz : w.frozen? a = false) :
    CallsD Tryz.prog 38 #[.pointer (some a), .bool true] u w fun e u' w' => u' = u ∧ (e = .returned (.tuple #[]) ∧ w' = w.drew.setCell a (.int .u32 1)) := by
  have hc' : w.drew.cell? a = some x := by go_simp
  have hz' : w.drew.frozen? a = false := by go_simp
  have hst := run_call_store (P := Tryz.prog) Tryz.func52 (by kernel_rfl) (by kernel_rfl) (by kernel_rfl) (by kernel_rfl) (k := .u32) (y := 1) hc' hz'
  go_enter_d Tryz.func38, Tryz.ntmps38
  go_wp2
  go_region_calls
  all_goals (go_end0; exact ⟨rfl, rfl⟩)
theorem unlock_deferred (a : Addr) (u : FrameMode) (w : World) (hc : w.cell? a = some (.int .i32 1)) (hz : w.frozen? a = false) :
    CallsD Tryz.prog 37 #[.pointer (some a)] u w fun e u' w' => u' = u ∧ (e = .returned (.tuple #[]) ∧ w' = w.setCell a (.int .i32 0)) := by
  have hd := raceDisable
  have he := raceEnable
  have hr := raceRelease
  have hadd := run_call_add (P := Tryz.prog) Tryz.func87 (by kernel_rfl) (by kernel_rfl) (by kernel_rfl) .i32 (by kernel_rfl) (y := -1) (s := 0) hc hz (by simp [go_sem]; rfl)
  have hcv := run_convert_to_unsafe (P := Tryz.prog) (src := 124) (dst := 128) Tryz.underlying124 Tryz.underlying128 (by kernel_rfl) hc
  go_enter_d Tryz.func37, Tryz.ntmps37
  go_wp2
  go_end0
  go_wp2
  go_end0
  exact ⟨rfl, rfl⟩
theorem lock_free (a : Addr) (w : World) (hc : w.cell? a = some (.int .i32 0)) (hz : w.frozen? a = false) :
    Calls Tryz.prog 36 #[.pointer (some a)] w fun e w' => e = .returned (.tuple #[]) ∧ w' = w.setCell a (.int .i32 1) := by
  have hd := raceDisable
  have he := raceEnable
  have ha := raceAcquire
  have hcas := run_call_cas_hit (P := Tryz.prog) Tryz.func82 (by kernel_rfl) (by kernel_rfl) (by kernel_rfl) .i32 (by kernel_rfl) (y := 1) hc hz
  have hc' : (w.setCell a (.int .i32 1)).cell? a = some (.int .i32 1) := World.cell?_setCell_same w a _ hc
  have hcv := run_convert_to_unsafe (P := Tryz.prog) (src := 124) (dst := 128) Tryz.underlying124 Tryz.underlying128 (by kernel_rfl) hc'
  go_enter Tryz.func36, Tryz.ntmps36
  go_wp2
  first | go_end0 | (simp only [Exit.inBlock, Exit.then]; refine bodyPost_ret (results_none rfl _ _ _) rfl ?_) | refine bodyPost_ret (results_none rfl _ _ _) rfl ?_
  go_wp2
  go_end0
  exact ⟨rfl, rfl⟩

set_option maxRecDepth 100000 in
set_option maxHeartbeats 1600000 in
/-- Not yet done, the lock free: the lock is taken, the closure called, and then 'done' stored and the lock let go. -/
theorem slow_any (b off : Nat) (us : Array Value) (Q : World → Prop) (w : World)
    (h0 : w.cell? ⟨b, off, none⟩ = some (.int .u32 0)) (h1 : w.cell? ⟨b, off + 1, none⟩ = some (.int .i32 0))
    (f1 : w.frozen? ⟨b, off + 1, none⟩ = false)
    (hcl : Calls Tryz.prog 18 us (w.setCell ⟨b, off + 1, none⟩ (.int .i32 1)) fun e w' => e = .returned (.tuple #[]) ∧ Q w')
    (hQ : ∀ w', Q w' → w'.cell? ⟨b, off, none⟩ = some (.int .u32 0) ∧ w'.cell? ⟨b, off + 1, none⟩ = some (.int .i32 1) ∧ w'.frozen? ⟨b, off, none⟩ = false ∧ w'.frozen? ⟨b, off + 1, none⟩ = false) :
    Calls Tryz.prog 26 #[.pointer (some ⟨b, off, none⟩), .func (.func 18) us #[]] w fun e w' => e = .returned (.tuple #[]) ∧ ∃ w1, Q w1 ∧
      w' = (w1.drew.setCell ⟨b, off, none⟩ (.int .u32 1)).setCell ⟨b, off + 1, none⟩ (.int .i32 0) := by
  have hl := run_call_load (P := Tryz.prog) Tryz.func35 (by kernel_rfl) (by kernel_rfl) (by kernel_rfl) .u32 (by kernel_rfl) (w := w.setCell ⟨b, off + 1, none⟩ (.int .i32 1)) (a := ⟨b, off, none⟩) (x := 0) ((World.cell?_setCell_other _ ⟨b, off + 1, none⟩ ⟨b, off, none⟩ _ (by simp)).trans h0)
  have hnot : ∀ (x : Bool) (w : World), (Op.unary .not (.bool x)).run Tryz.prog w = .ok (.bool (!x)) w := fun _ _ => rfl
  go_enter_defers Tryz.func26, Tryz.ntmps26
  go_wp2_with (first | (go_at_call 36; refine (lock_free ⟨b, off + 1, none⟩ _ (by go_simp) (by go_simp)).mono ?_; rintro e w' ⟨rfl, rfl⟩) | (go_at_call 25; go_in) | (go_at_call 18; refine hcl.mono ?_; rintro e w1 ⟨rfl, hq⟩))
  obtain ⟨g0, g1, k0, k1⟩ := hQ w1 hq
  go_wp2
  refine leaves_cons (f := 38) (args := #[.pointer (some ⟨b, off, none⟩), .bool true]) (by simp) (by simp [go_sem]) ?_
  refine (store_deferred ⟨b, off, none⟩ (.int .u32 0) .returning _ g0 k0).mono ?_
  rintro e u' w'' ⟨rfl, rfl, rfl⟩
  refine leaves_cons (f := 37) (args := #[.pointer (some ⟨b, off + 1, none⟩)]) (by simp [settle]) (by simp [go_sem]) ?_
  refine (unlock_deferred ⟨b, off + 1, none⟩ _ _ ?_ (by simp [k1])).mono ?_
  · refine (World.cell?_setCell_other _ ⟨b, off, none⟩ ⟨b, off + 1, none⟩ _ (by simp)).trans ?_
    rw [World.cell?_drew]
    exact g1
  rintro e u' w'' ⟨rfl, rfl, rfl⟩
  simp [Leaves, settle, results, Tryz.results26]
  exact ⟨w1, hq, rfl⟩
set_option maxRecDepth 100000 in
set_option maxHeartbeats 1600000 in
theorem do_first (b off : Nat) (us : Array Value) (Q : World → Prop) (w : World)
    (h0 : w.cell? ⟨b, off, none⟩ = some (.int .u32 0)) (h1 : w.cell? ⟨b, off + 1, none⟩ = some (.int .i32 0))
    (f1 : w.frozen? ⟨b, off + 1, none⟩ = false)
    (hcl : Calls Tryz.prog 18 us (w.setCell ⟨b, off + 1, none⟩ (.int .i32 1)) fun e w' => e = .returned (.tuple #[]) ∧ Q w')
    (hQ : ∀ w', Q w' → w'.cell? ⟨b, off, none⟩ = some (.int .u32 0) ∧ w'.cell? ⟨b, off + 1, none⟩ = some (.int .i32 1) ∧ w'.frozen? ⟨b, off, none⟩ = false ∧ w'.frozen? ⟨b, off + 1, none⟩ = false) :
    Calls Tryz.prog 17 #[.pointer (some ⟨b, off, none⟩), .func (.func 18) us #[]] w fun e w' => e = .returned (.tuple #[]) ∧ ∃ w1, Q w1 ∧
      w' = (w1.drew.setCell ⟨b, off, none⟩ (.int .u32 1)).setCell ⟨b, off + 1, none⟩ (.int .i32 0) := by
  have hl := run_call_load (P := Tryz.prog) Tryz.func35 (by kernel_rfl) (by kernel_rfl) (by kernel_rfl) .u32 (by kernel_rfl) h0
  have hnot : ∀ (x : Bool) (w : World), (Op.unary .not (.bool x)).run Tryz.prog w = .ok (.bool (!x)) w := fun _ _ => rfl
  go_enter Tryz.func17, Tryz.ntmps17
  go_wp2_with (first | (go_at_call 26; refine (slow_any b off us Q _ h0 h1 f1 hcl hQ).mono ?_; rintro e w' ⟨rfl, w1, hq, rfl⟩) | (go_at_call 25; go_in))
  go_end0
  exact ⟨rfl, w1, hq, rfl⟩
/-- Done already: the function is not called. -/
theorem do_done (a : Addr) (d : Int) (hd : ¬ d = 0) (fv : Value) (w : World) (h0 : w.cell? a = some (.int .u32 d)) :
    Calls Tryz.prog 17 #[.pointer (some a), fv] w fun e w' => e = .returned (.tuple #[]) ∧ w' = w := by
  have hl := run_call_load (P := Tryz.prog) Tryz.func35 (by kernel_rfl) (by kernel_rfl) (by kernel_rfl) .u32 (by kernel_rfl) h0
  have hnot : ∀ (x : Bool) (w : World), (Op.unary .not (.bool x)).run Tryz.prog w = .ok (.bool (!x)) w := fun _ _ => rfl
  have hd' : (d != 0) = true := by simp [hd]
  go_enter Tryz.func17, Tryz.ntmps17
  go_wp2
  go_end0
  exact ⟨rfl, rfl⟩
/-! ### The same, over values without memory -/
theorem set_step {G : Ghost} {w : World} {h : List (List AV)} {R : Nat → Id → Prop} (hW : WorldOk G w) (hS : SeesH G h) (hoh : OwnH G R h) {i off b : Nat} {cs : List AV} {x : Value} (hcs : h[i]? = some cs) (ho : off < cs.length) (hx : x.oneCell' = true) (hb : G.boxes[i]? = some b) (hk : G.kinds b = none) :
    ∃ us, G.boxv[i]? = some us ∧ us.length = cs.length ∧ WorldOk (G.setBox i (us.set off x)) (w.setCell ⟨b, G.base i + off, none⟩ x) ∧ SeesH (G.setBox i (us.set off x)) (h.set i (cs.set off (.v x))) ∧ OwnH (G.setBox i (us.set off x)) R (h.set i (cs.set off (.v x))) := by
  have hlh : i < h.length := (List.getElem?_eq_some_iff.1 hcs).1
  have hbl : i < G.boxv.length := by rw [← hS.1]; exact hlh
  obtain ⟨us, hus⟩ : ∃ us, G.boxv[i]? = some us := ⟨_, List.getElem?_eq_getElem hbl⟩
  obtain ⟨q1, q2, q3⟩ := hS.2 i cs us hcs hus
  have hW' := hW.setBox hb hk hus off [x] (by rw [q1]; simp; omega)
  have hE' : Ext G (G.setBox i (Ax.lay us off [x])) := Ext.setBox i _
  have el : Ax.lay us off [x] = us.set off x := rfl
  rw [el] at hW' hE'
  have at_ : ∀ (j : Nat) (ds : List AV) (ws : List Value), (h.set i (cs.set off (.v x)))[j]? = some ds → (G.boxv.set i (us.set off x))[j]? = some ws → (j = i ∧ ds = cs.set off (.v x) ∧ ws = us.set off x) ∨ (j ≠ i ∧ h[j]? = some ds ∧ G.boxv[j]? = some ws) := fun j ds ws e1 e2 => by
    rw [List.getElem?_set] at e1 e2
    by_cases hi : i = j
    · rw [if_pos hi, if_pos hlh] at e1
      rw [if_pos hi, if_pos hbl] at e2
      injection e1 with e1; injection e2 with e2
      exact .inl ⟨hi.symm, e1.symm, e2.symm⟩
    · rw [if_neg hi] at e1 e2
      exact .inr ⟨fun hh => hi hh.symm, e1, e2⟩
  refine ⟨us, hus, q1, hW', ⟨by simp [Ghost.setBox, hS.1], fun j ds ws e1 e2 => ?_⟩, fun j ds ws e1 e2 p y hj => ?_⟩
  · rcases at_ j ds ws e1 e2 with ⟨_, rfl, rfl⟩ | ⟨_, h3, h4⟩
    · refine ⟨by simpa using q1, fun y hy => ?_, fun p c hp => ?_⟩
      · rcases List.mem_or_eq_of_mem_set hy with hy | rfl
        · exact q2 y hy
        · exact hx
      · rw [List.getElem?_set] at hp
        by_cases hpo : off = p
        · rw [if_pos hpo, if_pos ho] at hp
          injection hp with hp
          subst hp hpo
          rw [List.getD_eq_getElem?_getD, List.getElem?_set_self (by rw [q1]; exact ho)]
          exact .v _
        · rw [if_neg hpo] at hp
          rw [List.getD_eq_getElem?_getD, List.getElem?_set_ne hpo, ← List.getD_eq_getElem?_getD]
          exact (q3 p c hp).ext hE'
    · obtain ⟨h5, h6, h7⟩ := hS.2 j ds ws h3 h4
      exact ⟨h5, h6, fun p c hp => (h7 p c hp).ext hE'⟩
  · rcases at_ j ds ws e1 e2 with ⟨rfl, rfl, rfl⟩ | ⟨_, h3, h4⟩
    · rw [List.getElem?_set] at hj
      by_cases hpo : off = p
      · rw [if_pos hpo, if_pos ho] at hj
        injection hj with hj
        subst hj
        exact ⟨.none _ rfl, fun y hy => by cases hy⟩
      · rw [if_neg hpo] at hj
        obtain ⟨h5, h6⟩ := hoh j cs us hcs hus p y hj
        refine ⟨?_, h6⟩
        rw [List.getD_eq_getElem?_getD, List.getElem?_set_ne hpo, ← List.getD_eq_getElem?_getD]
        exact h5
    · exact hoh j ds ws h3 h4 p y hj
/-- Done for the first time: what the closure does to variables in which the lock is taken. -/
theorem once_c {h h2 : List (List AV)} {i o : Nat} {cs cs2 : List AV} (hcs : h[i]? = some cs) (c0 : cs[o]? = some (.v (.int .u32 0))) (c1 : cs[o + 1]? = some (.v (.int .i32 0)))
    (hK : Contract Tryz.prog 18 [.box i 0] (h.set i (cs.set (o + 1) (.v (.int .i32 1)))) (.tup []) h2 [i]) (hcs2 : h2[i]? = some cs2) (d0 : cs2[o]? = some (.v (.int .u32 0))) (d1 : cs2[o + 1]? = some (.v (.int .i32 1))) :
    Contract Tryz.prog 17 [.box i o, .fn (.func 18) [.box i 0] []] h (.tup []) (h2.set i ((cs2.set o (.v (.int .u32 1))).set (o + 1) (.v (.int .i32 0)))) [i] := by
  refine ⟨enters_ofB (by kernel_rfl), fun G w vs cls hW hS hvs hown hoh => ?_⟩
  obtain ⟨p, fv, rfl, hp, hf⟩ := seesL2 hvs
  obtain ⟨b, rfl, hb⟩ := hp.inv_box
  obtain ⟨us, rfl, hus⟩ : ∃ us : List Value, fv = .func (.func 18) us.toArray #[] ∧ SeesL G [.box i 0] us := by
    cases hf with
    | fn _ _ _ us vs h1 h2 hs1 hs2 =>
      have : vs = [] := List.eq_nil_of_length_eq_zero h2
      subst this
      exact ⟨us, rfl, h1, hs1⟩
  obtain ⟨g0, z0⟩ := box_cell hW hS hcs c0 hb
  obtain ⟨g1, z1⟩ := box_cell hW hS hcs c1 hb
  obtain ⟨ws, hws, hwl, hW1, hS1, hO1⟩ := set_step hW hS hoh hcs (List.getElem?_eq_some_iff.1 c1).1 (x := .int .i32 1) rfl hb.1 hb.2
  obtain ⟨G1, hG1⟩ : ∃ G1, G1 = G.setBox i (ws.set (o + 1) (.int .i32 1)) := ⟨_, rfl⟩
  rw [← hG1] at hW1 hS1 hO1
  have hE1 : Ext G G1 := by rw [hG1]; exact Ext.setBox i _
  have hb1 := hE1.box_at2 hb
  have hbase1 : G1.base i = G.base i := hE1.baseE hb.1
  have hbufs1 : G1.bufs = G.bufs := by rw [hG1]; rfl
  have hus1 : SeesL G1 [.box i 0] us := ⟨hus.1, fun j c hj => (hus.2 j c hj).ext hE1⟩
  have hcl := hK.2 G1 _ us cls hW1 hS1 hus1 (fun j x hj => by
    cases j with
    | zero => simp at hj; subst hj; exact ⟨.none _ rfl, fun c hc => by cases hc⟩
    | succ j => simp at hj) hO1
  have hT : ∀ x, Touched G1 [.box i 0] us (h.set i (cs.set (o + 1) (.v (.int .i32 1)))) x → Touched G [.box i o, .fn (.func 18) [.box i 0] []] [.pointer (some ⟨b, G.base i + o, none⟩), .func (.func 18) us.toArray #[]] h x := fun x hx => by
    rcases hx with ⟨j, y, hj, hy⟩ | ⟨j, ds, vs2, q, y, e1, e2, hj, hy⟩
    · cases j with
      | zero => simp at hj; subst hj; exact absurd rfl hy.1
      | succ j => simp at hj
    · by_cases hji : j = i
      · subst hji
        have hlh : j < h.length := (List.getElem?_eq_some_iff.1 hcs).1
        rw [List.getElem?_set_self hlh] at e1
        injection e1 with e1
        subst e1
        have e3 : (G.boxv.set j (ws.set (o + 1) (.int .i32 1)))[j]? = some vs2 := by rw [hG1] at e2; exact e2
        rw [List.getElem?_set_self (List.getElem?_eq_some_iff.1 hws).1] at e3
        injection e3 with e3
        subst e3
        by_cases hq : o + 1 = q
        · subst hq
          rw [List.getElem?_set_self (List.getElem?_eq_some_iff.1 c1).1] at hj
          injection hj with hj
          subst hj
          exact absurd rfl hy.1
        · rw [List.getElem?_set_ne hq] at hj
          rw [List.getD_eq_getElem?_getD, List.getElem?_set_ne hq, ← List.getD_eq_getElem?_getD] at hy
          exact .inr ⟨j, cs, ws, q, y, hcs, hws, hj, hy⟩
      · rw [List.getElem?_set_ne (Ne.symm hji)] at e1
        have e3 : (G.boxv.set i (ws.set (o + 1) (.int .i32 1)))[j]? = some vs2 := by rw [hG1] at e2; exact e2
        rw [List.getElem?_set_ne (Ne.symm hji)] at e3
        exact .inr ⟨j, ds, vs2, q, y, e1, e3, hj, hy⟩
  have hd1 := do_first b (G.base i + o) us.toArray (fun w' => ∃ G2 cls2, After G1 (Touched G1 [.box i 0] us (h.set i (cs.set (o + 1) (.v (.int .i32 1))))) (.tup []) h2 [i] (.tuple #[]) G2 cls2 w') w g0 (by rw [Nat.add_assoc]; exact g1) (by rw [Nat.add_assoc]; exact z1) (by
    rw [Nat.add_assoc]
    refine hcl.mono fun e w' he => ?_
    obtain ⟨v, G2, cls2, rfl, hA⟩ := he
    have hv : v = .tuple #[] := by
      cases hA.sees with
      | tup _ us2 hl _ =>
        have : us2 = [] := List.eq_nil_of_length_eq_zero hl
        subst this; rfl
    subst hv
    exact ⟨rfl, G2, cls2, hA⟩) (fun w' hq => by
    obtain ⟨G2, cls2, hA⟩ := hq
    have hb2 := hA.ext.box_at2 hb1
    have hbase2 : G2.base i = G.base i := (hA.ext.baseE hb1.1).trans hbase1
    obtain ⟨k0, k1⟩ := box_cell hA.ok hA.heap hcs2 d0 hb2
    obtain ⟨k2, k3⟩ := box_cell hA.ok hA.heap hcs2 d1 hb2
    rw [hbase2] at k0 k1 k2 k3
    rw [Nat.add_assoc]
    exact ⟨k0, k2, k1, k3⟩)
  refine hd1.mono fun e w' he => ?_
  obtain ⟨rfl, w1, ⟨G2, cls2, hA⟩, rfl⟩ := he
  have hb2 := hA.ext.box_at2 hb1
  have hbase2 : G2.base i = G.base i := (hA.ext.baseE hb1.1).trans hbase1
  have hlo : o < cs2.length := (List.getElem?_eq_some_iff.1 d0).1
  have hlo1 : o + 1 < cs2.length := (List.getElem?_eq_some_iff.1 d1).1
  have hi2 : i < h2.length := (List.getElem?_eq_some_iff.1 hcs2).1
  obtain ⟨us2, hus2, _, hW3, hS3, hO3⟩ := set_step hA.ok.drew hA.heap hA.ownh hcs2 hlo (x := .int .u32 1) rfl hb2.1 hb2.2
  obtain ⟨G3, hG3⟩ : ∃ G3, G3 = G2.setBox i (us2.set o (.int .u32 1)) := ⟨_, rfl⟩
  rw [← hG3] at hW3 hS3 hO3
  have hE3 : Ext G2 G3 := by rw [hG3]; exact Ext.setBox i _
  have hb3 := hE3.box_at2 hb2
  have hbase3 : G3.base i = G.base i := (hE3.baseE hb2.1).trans hbase2
  obtain ⟨us3, hus3, _, hW4, hS4, hO4⟩ := set_step hW3 hS3 hO3 (List.getElem?_set_self hi2) (off := o + 1) (by simpa using hlo1) (x := .int .i32 0) rfl hb3.1 hb3.2
  obtain ⟨G4, hG4⟩ : ∃ G4, G4 = G3.setBox i (us3.set (o + 1) (.int .i32 0)) := ⟨_, rfl⟩
  rw [← hG4] at hW4 hS4 hO4
  have hE4 : Ext G3 G4 := by rw [hG4]; exact Ext.setBox i _
  rw [List.set_set] at hS4 hO4
  rw [hbase2, hbase3] at hW4
  have hb34 : G4.bufs = G2.bufs := by rw [hG4, hG3]; rfl
  refine ⟨_, G4, cls2, rfl, hE1.trans (hA.ext.trans (hE3.trans hE4)), by rw [Nat.add_assoc]; exact hW4, hS4, fun j ds vs2 e1 e2 q y hj => ?_, .tup [] [] rfl (fun j c hj => by simp at hj), .none _ rfl, fun c hc => (by cases hc), fun j hj hn => ?_, fun x B hx hnt => ?_⟩
  · obtain ⟨m1, m2⟩ := hO4 j ds vs2 e1 e2 q y hj
    exact ⟨m1.imp fun x c _ hR => ⟨hR.1, hR.2.imp (fun e => by rw [← hbufs1]; exact e) (hT x)⟩, m2⟩
  · have hji : j ≠ i := fun e => hn (by rw [e]; exact List.mem_cons_self ..)
    have e1 : G4.boxv[j]? = G3.boxv[j]? := by rw [hG4]; exact List.getElem?_set_ne (Ne.symm hji)
    have e2 : G3.boxv[j]? = G2.boxv[j]? := by rw [hG3]; exact List.getElem?_set_ne (Ne.symm hji)
    have e3 : G1.boxv[j]? = G.boxv[j]? := by rw [hG1]; exact List.getElem?_set_ne (Ne.symm hji)
    have hl1 : G1.boxv.length = G.boxv.length := by rw [hG1]; simp [Ghost.setBox]
    rw [e1, e2, hA.boxes j (by rw [hl1]; exact hj) hn, e3]
  · rw [hb34]
    exact hA.bufs x B (by rw [hbufs1]; exact hx) fun ht => hnt (hT x ht)
/-- Done already. -/
theorem once_done {h : List (List AV)} {i o : Nat} {cs : List AV} (hcs : h[i]? = some cs) (c0 : cs[o]? = some (.v (.int .u32 1))) (fv : AV) :
    Contract Tryz.prog 17 [.box i o, fv] h (.tup []) h [] :=
  contract_quietH (by kernel_rfl) rfl fun G w vs hW hS hvs => by
    obtain ⟨a, c, rfl, ha, hc⟩ := seesL2 hvs
    obtain ⟨b, rfl, hb⟩ := ha.inv_box
    obtain ⟨h1, h2⟩ := box_cell hW hS hcs c0 hb
    exact ⟨_, .tup [] [] rfl (fun j c hj => by simp at hj), do_done _ 1 (by decide) c w h1⟩
end Go.Proofs.YtofkddajlgebjaaGreat.Ax
/- What servers say first, made once, over values without memory: lazy's calls. -/
namespace Go.Proofs.YtofkddajlgebjaaGreat.Ax
open Go.RowKit Go By YtofkddajlgebjaaGreat.Nm Sc Dg
set_option linter.unusedSimpArgs false
set_option linter.unusedVariables false
set_option maxRecDepth 10000

theorem lzfar_c (l : List Pa) (hl : l.length ≤ maxLen) (h : List (List AV)) : Contract Tryz.prog 6 [.sl 2 (enc paC l) none .no] h (.v (.bool (farG l))) h [] := by
  refine contract_of k6 mixed (by simp [c6]) fun hh hargs => ?_
  simp [c6]
  refine xloop_ok (D := Nat) (fun j => ⟨[(5, .sl 2 (enc paC l) none .no), (6, .v (.int .i64 l.length)), (7, .v (.int .i64 j))], [], h, []⟩) (fun j => j ≤ l.length ∧ j ≤ 40 ∧ ∀ x ∈ l.take j, longP x = false) (fun j => l.length - j) 0 (by simp) ?_ ?_
  · simp [Leq, hh]
  · rintro j ⟨hj, hj4, hp⟩
    by_cases hlt : j < l.length
    · have hw : IntKind.i64.wrap ((j : Int) + 1) = (j : Int) + 1 := wrap64 (by omega) (by omega)
      have yes : longP l[j] = true → farG l = true := fun e => by
        have : l.any longP = true := List.any_eq_true.2 ⟨_, List.getElem_mem hlt, e⟩
        unfold farG; rw [this]; simp
      have no : longP l[j] = false → ∀ x ∈ l.take (j + 1), longP x = false := fun e => take_none hlt hp e
      simp [hlt]
      generalize l[j] = p at *
      by_cases h40 : j = 40
      · subst h40
        have : farG l = true := by unfold farG; simp; omega
        simp [paC_mk, hh, this]
      · have h4 : ¬ (40 : Int) ≤ j := by omega
        by_cases hn : 200 < p.name.length
        · have hn2 : (200 : Int) < p.name.length := by omega
          simp [paC_mk, h4, hn2, hh, yes (by unfold longP; simp [hn])]
        · have hn2 : ¬ (200 : Int) < p.name.length := by omega
          by_cases hv : 200 < p.value.length
          · have hv2 : (200 : Int) < p.value.length := by omega
            simp [paC_mk, h4, hn2, hv2, hh, yes (by unfold longP; simp [hv])]
          · have hv2 : ¬ (200 : Int) < p.value.length := by omega
            have := no (by unfold longP; simp; omega)
            simp [paC_mk, h4, hn2, hv2, hw]
            refine ⟨j + 1, ⟨by omega, by omega, this⟩, by omega, ?_⟩
            simp [Leq, hh]
    · have : j = l.length := by omega
      subst this
      have hf : farG l = false := by
        have : l.any longP = false := by
          rw [List.any_eq_false]
          intro x hx
          have := hp x (by rw [List.take_length]; exact hx)
          rw [this]; simp
        unfold farG
        rw [this]
        simp; omega
      simp [hh, hf]
/-! ### What is said: what all are told, and the keys with the Z -/
def preB (l : List Pa) : List UInt8 := bytesB (rG :: l.map sG)
def ownB (id : Int) : List UInt8 := bytesB [kG id, zG]
theorem greet_split (l : List Pa) (id : Int) : bytesB (backsG l id) = preB l ++ ownB id := by unfold bytesB preB ownB backsG bytesB; simp [List.flatMap_append]
theorem uns_small {n : Int} (h0 : 0 ≤ n) (h1 : n < 2147483648) : unsB 4 n = true := by
  have e1 : powI 4 = 4294967296 := by decide
  have e2 : szB 4 = true := by decide
  unfold unsB rightB
  rw [e1, e2]
  simp
  omega
theorem kG_right (id : Int) : checkB (kG id) = 0 := by
  obtain ⟨a1, a2⟩ := kA_range id
  obtain ⟨b1, b2⟩ := kB_range id
  have h1 := uns_small a1 a2
  have h2 := uns_small b1 b2
  have e1 : kindB 75 = true := by decide
  have e2 : saidB (kG id) = kG id := rfl
  have e3 : bnumB (kG id) = true := by unfold bnumB kG; simp [h1, h2]
  have e4 : rstatB (kG id) = true := rfl
  have e5 : blistsB (kG id) = true := rfl
  have e6 : bcleanB (kG id) = true := rfl
  have e7 : sameB (kG id) (kG id) = true := by unfold sameB kG; simp
  have e8 : (kG id).kind = 75 := rfl
  unfold checkB
  rw [e8, e1, e4, e5, e6, e3, e2, e7]; rfl
theorem num4_len {n : Int} (h0 : 0 ≤ n) (h1 : n < 2147483648) : (numE 4 n).length = 4 := by
  have hr : rightB n 4 = true := by have := uns_small h0 h1; unfold unsB at this; simp at this; exact this.2
  have e : numE 4 n = putTo n 4 4 := putL_right (size := 4) hr
  rw [e, putTo_length]
theorem own_len (id : Int) : (ownB id).length = 19 := by
  unfold ownB bytesB
  rw [List.flatMap_cons, List.length_append]
  have e : bodyB (kG id) = numE 4 (kA id) ++ numE 4 (kB id) := rfl
  have l1 := num4_len (kA_range id).1 (kA_range id).2
  have l2 := num4_len (kB_range id).1 (kB_range id).2
  have h1 : (oneB (kG id)).length = 13 := by
    rw [oneB_ok (kG_right id), e, List.length_cons, List.length_append, List.length_append, l1, l2, num4_len (by omega) (by omega)]
  have h2 : ([zG].flatMap oneB).length = 6 := by decide +kernel
  rw [h1, h2]
theorem pre_le {l : List Pa} (hl : l.length ≤ 40) (hs : ∀ p ∈ l, shortP p) : (preB l).length ≤ 30000 := by
  have hall := backsG_all (id := 0) hs
  have hb := bytesB_le (l := backsG l 0) fun m hm => (hall m hm).2.2.2
  have hlen := backsG_len l 0
  rw [greet_split, List.length_append, own_len] at hb
  omega
/-- Greets: nothing is made, with the lock as told; all is made. -/
def lzN (lock : Int) (l : List Pa) : List AV := [.v (.bool true), .sl 2 (enc paC l) none .no, .v (.int .u32 0), .v (.int .i32 lock), .v (.int .u32 0), .sl 0 [] (some true) .exact, .v (.int .i64 0)]
def lzY (done lock : Int) (l : List Pa) : List AV := [.v (.bool true), .sl 0 [] (some true) .exact, .v (.int .u32 done), .v (.int .i32 lock), .v (.int .u32 0), .sl 1 (bytesE (preB l)) none .no, .v (.int .i64 1)]
def lzC (l : List Pa) (m : Bool) : List AV := if m then lzY 1 0 l else lzN 0 l
theorem lzY_lt (n : Nat) (d k : Int) (l : List Pa) : ltL n (lzY d k l) := by simp [lzY]
theorem lzC_top (l : List Pa) (m : Bool) : (lzC l m)[0]? = some (.v (.bool true)) := by cases m <;> rfl
section
variable {h : List (List AV)} {i : Nat} {l : List Pa}
/-- A copy of the params. -/
theorem lzclone_c (l : List Pa) (hl : l.length ≤ 1000000) (h : List (List AV)) : Contract Tryz.prog 14 [.sl 2 (enc paC l) none .no] h (.sl 2 (enc paC l) none .no) h [] := by
  refine contract_nul (pre := []) (post := []) (fun he => ?_) ?_
  · refine contract_of k14 mixed (by simp [c14]) fun hh hargs => ?_
    simp [c14, he, hh, LeqV]
    done
  · refine contract_of k14 mixed (by simp [c14]) fun hh hargs => ?_
    simp [c14]
    refine xappendA_own ?_
    simp [hh]
    omega
theorem lznew_c (l : List Pa) (hl : l.length ≤ 1000000) (h : List (List AV)) : Contract Tryz.prog 8 [.sl 2 (enc paC l) none .no] h (.box h.length 0) (h ++ [lzN 0 l]) [] := by
  have hl2 := fun hh => ltLL_mono (Nat.le_add_right h.length 1) (hh : ltLL h.length h)
  refine contract_of k8 mixed (by simp [c8]) fun hh hargs => ?_
  simp [c8]
  refine xcall_self (by simp) (lzclone_c l hl _) ?_
  simp [hl2 hh, lzN]
theorem lzfrom_c {m : Bool} (ht : h[i]? = some (lzC l m)) : Contract Tryz.prog 15 [.box i 0] h (.v (.bool true)) h [] := by
  refine contract_of k15 mixed (by simp [c15]) fun hh hargs => ?_
  simp [c15, ht, lzC_top, hh]
theorem lzmade_c {m : Bool} (ht : h[i]? = some (lzC l m)) : Contract Tryz.prog 9 [.box i 0] h (.v (.int .i64 (if m then 1 else 0))) h [] := by
  have hx : (lzC l m)[6]? = some (.v (.int .i64 (if m then 1 else 0))) := by cases m <;> rfl
  refine contract_of k9 mixed (by simp [c9]) fun hh hargs => ?_
  simp [c9]
  refine xcall_self (by simp) (lzfrom_c ht) ?_
  simp
  refine xcall_self (by simp) (atomLoad_c ht hx) ?_
  simp [hh]
section
variable {x : AV} (hx : Contract Tryz.prog 15 [x] h (.v (.bool false)) h [])
include hx
end
/-- What all are told is made. -/
theorem lzalike_c (hl : l.length ≤ 40) (hs : ∀ p ∈ l, shortP p) (ht : h[i]? = some (lzN 1 l)) : Contract Tryz.prog 18 [.box i 0] h (.tup []) (h.set i (lzY 0 1 l)) [i] := by
  have hi : i < h.length := (List.getElem?_eq_some_iff.1 ht).1
  have hp := pre_le hl hs
  have hg := gbytes_c l 0 hl hs h
  rw [greet_split] at hg
  obtain ⟨X, hX⟩ : ∃ X, X = preB l ++ ownB 0 := ⟨_, rfl⟩
  have hXl : X.length = (preB l).length + 19 := by rw [hX, List.length_append, own_len]
  have htk : X.take (preB l).length = preB l := by rw [hX]; simp
  rw [← hX] at hg
  have hw : IntKind.i64.wrap ((X.length : Int) - 19) = ((preB l).length : Int) := by rw [wrap64 (by omega) (by omega)]; omega
  refine contract_of k18 mixed (by simp [c18]) fun hh hargs => ?_
  simp [c18, ht, lzN]
  refine xcall_self (by simp) hg ?_
  have g2 : ∀ X : List AV, (h.set i X)[i]? = some X := fun X => List.getElem?_set_self hi
  simp [hw, htk, ht, lzN, g2]
  refine ⟨by omega, ?_⟩
  refine xcall_self (by simp) (atomAdd_c (g2 _) rfl) ?_
  have w1 : IntKind.i64.wrap 1 = 1 := by decide
  simp [hi, w1]
  exact ⟨.inl rfl, ltLL_set hh (lzY_lt _ _ _ _)⟩
theorem lzonce_c (hl : l.length ≤ 40) (hs : ∀ p ∈ l, shortP p) (ht : h[i]? = some (lzC l false)) : Contract Tryz.prog 17 [.box i 2, .fn (.func 18) [.box i 0] []] h (.tup []) (h.set i (lzC l true)) [i] := by
  have hi : i < h.length := (List.getElem?_eq_some_iff.1 ht).1
  have hk := lzalike_c (h := h.set i (lzN 1 l)) hl hs (List.getElem?_set_self hi)
  rw [List.set_set] at hk
  have := once_c (o := 2) ht (rfl : (lzN 0 l)[2]? = _) (rfl : (lzN 0 l)[3]? = _) (h2 := h.set i (lzY 0 1 l)) (cs2 := lzY 0 1 l) hk (List.getElem?_set_self hi) rfl rfl
  rw [List.set_set] at this
  exact this
theorem lzC_set (ht : h[i]? = some (lzC l true)) : h.set i (lzC l true) = h := set_same ht
/-- What is said first to the session with this id. -/
def sayB (l : List Pa) (id : Int) : List UInt8 := preB l ++ ownB id
theorem lzof_c (hl : l.length ≤ 40) (hs : ∀ p ∈ l, shortP p) {m : Bool} (ht : h[i]? = some (lzC l m)) (id : Int) : Contract Tryz.prog 11 [.box i 0, .v (.int .i64 id)] h (.sl 1 (bytesE (sayB l id)) none .no) (h.set i (lzC l true)) [i] := by
  have hi : i < h.length := (List.getElem?_eq_some_iff.1 ht).1
  have hp := pre_le hl hs
  have hol := own_len id
  obtain ⟨h2, hh2⟩ : ∃ h2, h2 = h.set i (lzC l true) := ⟨_, rfl⟩
  have ht2 : h2[i]? = some (lzY 1 0 l) := by rw [hh2]; exact List.getElem?_set_self hi
  have hl2 : h2.length = h.length := by rw [hh2]; simp
  have hlt : ltLL h.length h → ltLL h.length h2 := fun hh => by rw [hh2]; exact ltLL_set hh (by unfold lzC; exact lzY_lt _ _ _ _)
  have hg := gbytes_c [] id (by simp) (by simp) h2
  rw [greet_split] at hg
  obtain ⟨X, hX⟩ : ∃ X, X = preB [] ++ ownB id := ⟨_, rfl⟩
  have hp0 := pre_le (l := []) (by simp) (by simp)
  have hXl : X.length = (preB []).length + 19 := by rw [hX, List.length_append, hol]
  have hdr : X.drop (preB []).length = ownB id := by rw [hX]; simp
  rw [← hX] at hg
  obtain ⟨n, hn⟩ : ∃ n, n = (preB []).length := ⟨_, rfl⟩
  rw [← hn] at hXl hdr hp0
  have hw : IntKind.i64.wrap ((X.length : Int) - 19) = (n : Int) := by rw [wrap64 (by omega) (by omega)]; omega
  have hcc := concat_c [preB l, ownB id] h2 (by simp [hol]; omega) (by simp)
  have e1 : catL [preB l, ownB id] = sayB l id := by simp [catL, sayB]
  rw [e1] at hcc
  rw [← hh2]
  cases m with
  | false =>
    have ho := lzonce_c hl hs ht
    rw [← hh2] at ho
    refine contract_of k11 mixed (by simp [c11]) fun hh hargs => ?_
    simp [c11]
    refine xcall_self (by simp) (lzfrom_c ht) ?_
    simp
    refine xcall_self (by simp) ho ?_
    simp
    refine xcall_of hg (by simp) (by simp) ?_
    have hnX : n ≤ X.length := by omega
    have hnX2 : (n : Int) ≤ (X.length : Int) := by omega
    simp [ht2, lzY, hw, hnX, hnX2, hdr]
    refine xcall_of hcc (by simp [bytC]) (by simp) ?_
    simp
    exact ⟨by omega, by rw [hl2]; exact hlt hh⟩
  | true =>
    rw [lzC_set ht] at hh2
    subst hh2
    refine contract_of k11 mixed (by simp [c11]) fun hh hargs => ?_
    simp [c11]
    refine xcall_self (by simp) (lzfrom_c ht) ?_
    simp
    refine xcall_self (by simp) (once_done (o := 2) ht2 rfl _) ?_
    simp
    refine xcall_of hg (by simp) (by simp) ?_
    have hnX : n ≤ X.length := by omega
    have hnX2 : (n : Int) ≤ (X.length : Int) := by omega
    simp [ht2, lzY, hw, hnX, hnX2, hdr]
    refine xcall_of hcc (by simp [bytC]) (by simp) ?_
    simp [hh]
    done
end
end Go.Proofs.YtofkddajlgebjaaGreat.Ax
/- Layer 38 over values without memory: awake, what no call made, what is said first to any sessions. -/
namespace Go.Proofs.YtofkddajlgebjaaGreat.Ax
open Go.RowKit Go By YtofkddajlgebjaaGreat.Nm Sc Dg
set_option linter.unusedSimpArgs false
set_option linter.unusedVariables false
set_option maxRecDepth 10000

theorem pre_nil_len : (preB []).length = 9 := by decide +kernel
theorem say_nil_len (id : Int) : (sayB [] id).length = 28 := by unfold sayB; rw [List.length_append, own_len, pre_nil_len]
theorem lzawake_c (h : List (List AV)) : Contract Tryz.prog 7 [] h (.v (.bool true)) h [] := by
  have hl2 := fun hh => ltLL_mono (Nat.le_add_right h.length 1) (hh : ltLL h.length h)
  have kn := lznew_c [] (by simp) h
  obtain ⟨H0, hH0⟩ : ∃ H0, H0 = h ++ [lzN 0 []] := ⟨_, rfl⟩
  have t0 : H0[h.length]? = some (lzC [] false) := by rw [hH0]; simp [lzC]
  rw [← hH0] at kn
  obtain ⟨H1, hH1⟩ : ∃ H1, H1 = H0.set h.length (lzC [] true) := ⟨_, rfl⟩
  have t1 : H1[h.length]? = some (lzC [] true) := by rw [hH1, List.getElem?_set_self (by rw [hH0]; simp)]
  have k1 := lzof_c (by simp) (by simp) t0 0
  have k2 := lzof_c (by simp) (by simp) t1 1
  rw [← hH1] at k1
  rw [lzC_set t1] at k2
  have k0 := lzmade_c t0
  have k3 := lzmade_c t1
  have e0 := say_nil_len 0
  have e1 := say_nil_len 1
  have e9 : H1.take h.length = h := by rw [hH1, hH0, List.set_append_right _ _ (Nat.le_refl _)]; simp
  have l1 : H1.length = h.length + 1 := by rw [hH1, hH0]; simp
  generalize sayB [] 0 = X at *
  generalize sayB [] 1 = Y at *
  refine contract_of k7 mixed (by simp [c7]) fun hh hargs => ?_
  simp [c7]
  refine xcall_of kn (by simp) (by simp) ?_
  simp
  refine xcall_of k0 (by simp) (by simp) ?_
  simp
  refine xcall_of k1 (by simp) (by simp) ?_
  simp [e0]
  refine xcall_of k2 (by simp) (by simp) ?_
  simp [e1]
  refine xcall_of k3 (by simp) (by simp) ?_
  simp [e9, hh]
  omega
end Go.Proofs.YtofkddajlgebjaaGreat.Ax
/- Layer 38 over values without memory: what is answered is new each time. -/
namespace Go.Proofs.YtofkddajlgebjaaGreat.Ax
set_option maxRecDepth 100000
open Go.RowKit Go By YtofkddajlgebjaaGreat.Nm Sc Dg
set_option linter.unusedSimpArgs false
set_option linter.unusedVariables false
set_option maxRecDepth 10000

/-! ### Joined bytes, as a variable -/
theorem grow_new (n : Nat) (w : World) (hn : n ≤ 140737488355328) (h0 : 0 < n) :
    Calls Tryz.prog 28 #[.slice none 0 0, .int .i64 n] w fun e w' => ∃ cap cur, e = .returned (.slice (some ⟨w.heap.size, 0, none⟩) 0 cap) ∧ w'.heap[w.heap.size]? = some (.cells cur 5 (0, 0)) ∧ 0 < cap ∧ cap ≤ maxLen ∧ cur.size = cap ∧ cur[0]? = some (.int .u8 0) ∧ Below w.heap.size w w' := by
  obtain ⟨i, hi, hz, hs, hb⟩ := byte_at
  have h1 : ¬ ((n : Int) < 0) := by omega
  have h3 : RowKit.wrap64 (n : Int) = n := by unfold RowKit.wrap64; omega
  have h4 : (n : Int) > 0 := by omega
  have hr : ∀ ty, _ := fun ty => Lib.run_append_nil_zeros (P := Tryz.prog) w 30 3 ty 5 i (.int .u8 0) .i64 .i64 Tryz.underlying30 Tryz.underlying3 hi hz n h0 (by omega) (by omega) (by rw [hb]; omega)
  have hG := grownCap_ge w n 0 5
  have hG2 := grownCap_le_maxLen w n 0 5 (by unfold maxLen; omega)
  obtain ⟨g, hg⟩ : ∃ g, g = grownCap w n 0 5 := ⟨_, rfl⟩
  rw [← hg] at hr hG hG2
  have hG3 : g ≤ 9223372036854775807 := by unfold maxLen at hG2; omega
  go_enter Tryz.func28, Tryz.ntmps28
  go_wp2_with (at_builtin; refine Lib.wpList_append_run _ rfl _ _ _ _ rfl _ _ rfl rfl _ _ (hr _) ?_)
  rw [← hg]
  go_ret
  have hz1 : ∀ m, (Builtin.zeroCells #[Value.int IntKind.u8 0] m).size = m := fun m => by simp [Builtin.zeroCells]
  refine ⟨g, rfl, _, heap_alloc_new w _, by omega, hG2, ?_, ?_, ((Below.refl _ _).alloc (Nat.le_refl _) _).drew⟩
  · rw [Array.size_append]
    show (Builtin.zeroCells #[Value.int IntKind.u8 0] n).size + (Builtin.zeroCells #[Value.int IntKind.u8 0] _).size = _
    rw [hz1, hz1]; omega
  · rw [Array.getElem?_append_left (by show _ < (Builtin.zeroCells #[Value.int IntKind.u8 0] n).size; rw [hz1]; exact h0)]
    show (Builtin.zeroCells #[Value.int IntKind.u8 0] n)[0]? = _
    rw [Array.getElem?_eq_getElem (by rw [hz1]; exact h0)]
    simp [Builtin.zeroCells]
theorem growb_c (n : Nat) (hn : n ≤ 140737488355328) (h0 : 0 < n) (h : List (List AV)) : Contract Tryz.prog 28 [.sl 0 [] (some true) .exact, .v (.int .i64 n)] h (.bsl h.length 0 1 0) (h ++ [[.v (.int .u8 0)]]) [] := by
  refine contract_newbox (by kernel_rfl) (fun c hc => by rw [List.mem_singleton.1 hc]; rfl) fun G w vs hW hvs => ?_
  obtain ⟨x, y, rfl, hx, hy⟩ := seesL2 hvs
  have hx := nil_value hx
  have hy := hy.inv_v
  subst hx hy
  refine (grow_new n w hn h0).mono fun e w' he => ?_
  obtain ⟨cap, cur, rfl, hrow, hc0, hcm, hcs, hc, hb⟩ := he
  have cell : ∀ j, w'.cell? ⟨w.heap.size, j, none⟩ = cur[j]? := fun j => cell_of_row _ _ j cur _ (0, 0) hrow
  have frz : ∀ j, w'.frozen? ⟨w.heap.size, j, none⟩ = false := fun j => by simp [World.frozen?, hrow]
  refine ⟨w.heap.size, cap, [.int .u8 0], rfl, Nat.le_refl _, (Array.getElem?_eq_some_iff.1 hrow).1, Nat.zero_le _, ⟨hcm, fun j hj => ⟨by rw [cell, Array.getElem?_eq_getElem (by omega)]; rfl, frz j⟩⟩, rfl, fun x hx => by rw [List.mem_singleton.1 hx]; rfl, fun j c hj => ?_, fun j x hj => ?_, hb⟩
  · cases j with
    | zero => simp at hj; subst hj; exact .v _
    | succ j => simp at hj
  · cases j with
    | zero => simp at hj; subst hj; exact ⟨by rw [cell]; exact hc, frz 0⟩
    | succ j => simp at hj
/-- Bytes, as a variable's cells. -/
def byL (l : List UInt8) : List AV := l.map fun c => .v (.int .u8 (c.toNat : Int))
theorem byL_plain (l : List UInt8) : ∀ c ∈ byL l, c.idOf = none := fun c hc => by obtain ⟨x, _, rfl⟩ := List.mem_map.1 hc; rfl
@[simp] theorem byL_lt (n : Nat) (l : List UInt8) : ltL n (byL l) = True := eq_true (ltL_of fun j c hc => by obtain ⟨x, _, rfl⟩ := List.mem_map.1 (List.mem_of_getElem? hc); trivial)
@[simp] theorem flat_bytes : ∀ l : List UInt8, (bytesE l).flatten = byL l
  | [] => rfl
  | x :: r => by show [_] ++ (bytesE r).flatten = _; rw [flat_bytes r]; rfl
theorem byL_app (a b : List UInt8) : byL a ++ byL b = byL (a ++ b) := by simp [byL]
theorem xappend_var {e : List (Nat × AV)} {o : List (Nat × AV)} {h : List (List AV)} {wr : List Nat} {d : Option Nat} {K : St → List Nat → Prop} {b n : Nat} {cs : List AV} {Y : List UInt8} {nul2 : Option Bool} {room2 : Room} (hb : h[b]? = some cs) (hne : cs ≠ []) (hf : n ≤ cs.length) (i1 : ∀ c ∈ cs, c.idOf = none) (h2 : Y ≠ []) (s1 : n + Y.length ≤ 140737488355328)
    (hK : K (St.puts ⟨e, o, h.set b [] ++ [cs.take n ++ byL Y], b :: wr⟩ d (.bsl h.length 0 1 (n + Y.length)) false) []) : xappendA ⟨e, o, h, wr⟩ 1 1 d (.bsl b 0 1 n) (.sl 1 (bytesE Y) nul2 room2) K := by
  have hl : (bytesE Y).length = Y.length := by simp
  refine .inr (.inl ⟨bytesE Y, by simp [rowsOf], fun e => h2 (by rw [e] at hl; exact List.eq_nil_of_length_eq_zero hl.symm), by rw [flat_bytes]; exact byL_plain Y, rfl, cs, hb, hne, by omega, i1, by rw [hl]; omega, by rw [hl]; exact s1, ?_⟩)
  simp only [flat_bytes, hl, List.drop_zero, Nat.mul_one]
  exact hK
def ccH (h : List (List AV)) (X Y : List UInt8) : Nat → List (List AV)
  | 0 => h ++ [[.v (.int .u8 0)]]
  | 1 => h ++ [[], byL X]
  | _ => h ++ [[], [], byL (X ++ Y)]
def ccV (h : List (List AV)) (X Y : List UInt8) : Nat → AV
  | 0 => .bsl h.length 0 1 0
  | 1 => .bsl (h.length + 1) 0 1 X.length
  | _ => .bsl (h.length + 2) 0 1 (X.length + Y.length)
theorem concatb_c (X Y : List UInt8) (hX : X ≠ []) (hY : Y ≠ []) (hl : X.length + Y.length ≤ 140737488355328) (h : List (List AV)) : Contract Tryz.prog 19 [.sl 1 (enc bytC [X, Y]) none .no] h (.bsl (h.length + 2) 0 1 (X.length + Y.length)) (h ++ [[], [], byL (X ++ Y)]) [] := by
  have hXl : 0 < X.length := List.length_pos_iff.2 hX
  refine contract_of k19 mixed (by simp [c19]) fun hh hargs => ?_
  simp [c19]
  have hsum : ∀ j, j < 2 → catL ([X, Y].take (j + 1)) = catL ([X, Y].take j) ++ [X, Y].getD j [] := fun j hj => by
    match j, hj with
    | 0, _ => simp
    | 1, _ => simp
  refine xloop_ok (D := Nat) (fun j => ⟨[(0, .sl 1 (enc bytC [X, Y]) none .no), (3, .v (.int .i64 (catL ([X, Y].take j)).length)), (9, .sl 1 (enc bytC [X, Y]) none .no), (10, .v (.int .i64 2)), (11, .v (.int .i64 j))], [], h, []⟩) (fun j => j ≤ 2) (fun j => 2 - j) 0 (by simp) ?_ ?_
  · simp [Leq, hh, bytC]
  · intro j hj
    match j, hj with
    | 0, _ =>
      have hw2 : IntKind.i64.wrap (X.length : Int) = (X.length : Int) := wrap64 (by omega) (by omega)
      have h0 : ¬ (X.length : Int) < 0 := by omega
      have hw : IntKind.i64.wrap 1 = 1 := by decide
      simp [bytC, hw, hw2, h0]
      refine ⟨1, by omega, by omega, ?_⟩
      simp [Leq, hh]
      | 1, _ =>
      have hw2 : IntKind.i64.wrap ((X.length : Int) + (Y.length : Int)) = (X.length : Int) + (Y.length : Int) := wrap64 (by omega) (by omega)
      have h0 : ¬ (X.length : Int) + (Y.length : Int) < 0 := by omega
      have hw : IntKind.i64.wrap 2 = 2 := by decide
      simp [bytC, hw, hw2, h0]
      refine ⟨2, by omega, by omega, ?_⟩
      simp [Leq, hh]
      | 2, _ =>
      have kg := growb_c (X.length + Y.length) hl (by omega) h
      simp
      simp at kg
      refine xcall_self (by simp) kg ?_
      simp
      refine xloop_ok (D := Nat) (fun j => ⟨[(6, ccV h X Y j), (25, .sl 1 (enc bytC [X, Y]) none .no), (26, .v (.int .i64 2)), (27, .v (.int .i64 j))], [], ccH h X Y j, []⟩) (fun j => j ≤ 2) (fun j => 2 - j) 0 (by simp) ?_ ?_
      · have hl2 := ltLL_mono (Nat.le_add_right h.length 1) hh
        simp [Leq, ccV, ccH, hl2, bytC]
      · intro j hj
        match j, hj with
        | 0, _ =>
          have hl2 := ltLL_mono (Nat.le_add_right h.length 2) hh
          have hw : IntKind.i64.wrap 1 = 1 := by decide
          simp [bytC, ccV, ccH]
          refine xappend_var (cs := [.v (.int .u8 0)]) (by simp) (by simp) (by simp) (fun c hc => by rw [List.mem_singleton.1 hc]; rfl) hX (by omega) ?_
          simp [hw]
          refine ⟨1, by omega, by omega, ?_⟩
          simp [Leq, ccV, ccH, hl2]
              | 1, _ =>
          have hl2 := ltLL_mono (Nat.le_add_right h.length 3) hh
          have hw : IntKind.i64.wrap 2 = 2 := by decide
          have hby : byL X ≠ [] := by cases X with
            | nil => exact absurd rfl hX
            | cons x r => simp [byL]
          have htk : (byL X).take X.length = byL X := List.take_of_length_le (by simp [byL])
          simp [bytC, ccV, ccH]
          refine xappend_var (cs := byL X) (by simp) hby (by simp [byL]) (byL_plain X) hY hl ?_
          rw [htk, byL_app]
          simp [hw]
          refine ⟨2, by omega, by omega, ?_⟩
          simp [Leq, ccV, ccH, hl2]
              | 2, _ =>
          have hl2 := ltLL_mono (Nat.le_add_right h.length 3) hh
          simp [ccV, ccH, hl2]
      /-! ### Params in a variable -/
theorem flatP_len (l : List Pa) : (enc paC l).flatten.length = l.length * 2 := by
  induction l with
  | nil => rfl
  | cons p r ih =>
    show (paC p ++ (enc paC r).flatten).length = _
    rw [List.length_append, ih, List.length_cons]
    have : (paC p).length = 2 := by simp [paC_mk]
    omega
theorem chunkP : ∀ l : List Pa, chunk 2 l.length (enc paC l).flatten = enc paC l
  | [] => rfl
  | p :: r => by
    have h2 : (paC p).length = 2 := by simp [paC_mk]
    show ((paC p ++ (enc paC r).flatten).take 2) :: chunk 2 r.length ((paC p ++ (enc paC r).flatten).drop 2) = _
    rw [List.take_left' h2, List.drop_left' h2, chunkP r]; rfl
theorem flatP_plain (l : List Pa) : ∀ c ∈ (enc paC l).flatten, c.idOf = none := fun c hc => by
  obtain ⟨e, he, hce⟩ := List.mem_flatten.1 hc
  unfold enc at he
  obtain ⟨x, _, rfl⟩ := List.mem_map.1 he
  simp [paC_mk] at hce
  rcases hce with rfl | rfl <;> rfl
theorem frzP (i : Nat) {l : List Pa} : AV.frz i (enc paC l).flatten (.bsl i 0 2 l.length) = .sl 2 (enc paC l) (some false) .no := by
  show (if _ then _ else _) = _
  rw [if_pos ⟨rfl, by rw [flatP_len]; omega⟩, List.drop_zero, List.take_of_length_le (by rw [flatP_len]; omega), chunkP]
theorem frzP_ok {l : List Pa} (h : l ≠ []) : frzOk (enc paC l).flatten := by
  cases l with
  | nil => exact absurd rfl h
  | cons p r => show frzOk (paC p ++ _); simp [paC_mk]; exact trivial
section
variable {h : List (List AV)} {b : Nat} {l : List Pa}
theorem lzcloneb_c (hne : l ≠ []) (hl : l.length ≤ 1000000) (hb : h[b]? = some (enc paC l).flatten) : Contract Tryz.prog 14 [.bsl b 0 2 l.length] h (.sl 2 (enc paC l) none .no) h [] := by
  have hpos : 0 < l.length := List.length_pos_iff.2 hne
  have hfz := frzP (l := l) h.length
  have hlen := flatP_len l
  have hcp : chunk 2 l.length ((enc paC l).flatten.take (l.length * 2)) = enc paC l := by rw [List.take_of_length_le (by omega), chunkP]
  refine contract_cut (XCode.cuts [false, false, true] c14.code) k14 rfl mixed (by simp [c14]) fun hh hargs => ?_
  simp [c14, hpos]
  have hen : (enc paC l).length = l.length := by simp
  refine xseq_frz h.length (enc paC l).flatten ⟨[(2, .sl 2 (enc paC l) none .no)], [], h, []⟩ (Nat.le_refl _) (frzP_ok hne) ?_ ?_
  · simp
    refine .inr (.inl ⟨enc paC l, by simp [rowsOf, hb, hlen, hcp], fun e => by rw [e] at hen; simp at hen; omega, flatP_plain l, .inl ⟨.inr ⟨rfl, rfl⟩, by rw [hen]; omega, by rw [hen]; omega, ?_⟩⟩)
    rw [hen]
    simp [Leq, hfz, hh]
  · simp [hh]
theorem lznewb_c (hne : l ≠ []) (hl : l.length ≤ 1000000) (hb : h[b]? = some (enc paC l).flatten) : Contract Tryz.prog 8 [.bsl b 0 2 l.length] h (.box h.length 0) (h ++ [lzN 0 l]) [] := by
  have hl2 := fun hh => ltLL_mono (Nat.le_add_right h.length 1) (hh : ltLL h.length h)
  have hbl : b < h.length := (List.getElem?_eq_some_iff.1 hb).1
  refine contract_of k8 mixed (by simp [c8]) fun hh hargs => ?_
  simp [c8]
  refine xcall_self (by simp) (lzcloneb_c hne hl hb) ?_
  simp [hl2 hh, lzN]
end
section
variable {h : List (List AV)} {i : Nat} {l : List Pa}
/-- The answer, as a variable. -/
theorem lzofb_c (hl : l.length ≤ 40) (hs : ∀ p ∈ l, shortP p) (ht : h[i]? = some (lzC l false)) (id : Int) : Contract Tryz.prog 11 [.box i 0, .v (.int .i64 id)] h (.bsl (h.length + 2) 0 1 (sayB l id).length) (h.set i (lzC l true) ++ [[], [], byL (sayB l id)]) [i] := by
  have hi : i < h.length := (List.getElem?_eq_some_iff.1 ht).1
  have hp := pre_le hl hs
  have hol := own_len id
  have hpn : preB l ≠ [] := by
    have : (preB l).length = (oneB rG).length + ((l.map sG).flatMap oneB).length := by unfold preB bytesB; rw [List.flatMap_cons, List.length_append]
    have h5 : (oneB rG).length = 9 := by decide +kernel
    intro e; rw [e] at this; simp at this; omega
  have hon : ownB id ≠ [] := by intro e; rw [e] at hol; cases hol
  obtain ⟨h2, hh2⟩ : ∃ h2, h2 = h.set i (lzC l true) := ⟨_, rfl⟩
  have ht2 : h2[i]? = some (lzY 1 0 l) := by rw [hh2]; exact List.getElem?_set_self hi
  have hl2 : h2.length = h.length := by rw [hh2]; simp
  have hlt : ltLL h.length h → ltLL h.length h2 := fun hh => by rw [hh2]; exact ltLL_set hh (by unfold lzC; exact lzY_lt _ _ _ _)
  have hg := gbytes_c [] id (by simp) (by simp) h2
  rw [greet_split] at hg
  obtain ⟨X, hX⟩ : ∃ X, X = preB [] ++ ownB id := ⟨_, rfl⟩
  have hp0 := pre_le (l := []) (by simp) (by simp)
  have hXl : X.length = (preB []).length + 19 := by rw [hX, List.length_append, hol]
  have hdr : X.drop (preB []).length = ownB id := by rw [hX]; simp
  rw [← hX] at hg
  obtain ⟨n, hn⟩ : ∃ n, n = (preB []).length := ⟨_, rfl⟩
  rw [← hn] at hXl hdr hp0
  have hw : IntKind.i64.wrap ((X.length : Int) - 19) = (n : Int) := by rw [wrap64 (by omega) (by omega)]; omega
  have hcc := concatb_c (preB l) (ownB id) hpn hon (by omega) h2
  have e1 : (preB l).length + (ownB id).length = (sayB l id).length := by unfold sayB; rw [List.length_append]
  have e2 : preB l ++ ownB id = sayB l id := rfl
  rw [e1, e2, hl2] at hcc
  have hnX : n ≤ X.length := by omega
  have hnX2 : (n : Int) ≤ (X.length : Int) := by omega
  rw [← hh2]
  have ho := lzonce_c hl hs ht
  rw [← hh2] at ho
  refine contract_of k11 mixed (by simp [c11]) fun hh hargs => ?_
  have hl5 := ltLL_mono (Nat.le_add_right h.length 3) (hlt hh)
  simp [c11]
  refine xcall_self (by simp) (lzfrom_c ht) ?_
  simp
  refine xcall_self (by simp) ho ?_
  simp
  refine xcall_of hg (by simp) (by simp) ?_
  simp [ht2, lzY, hw, hnX, hnX2, hdr]
  refine xcall_of hcc (by simp [bytC]) (by simp) ?_
  simp [hl2, hl5]
  rw [List.take_of_length_le (by simp [hl2])]
  exact leqH_refl _ _
end
theorem lzown_c (l : List Pa) (id : Int) (hl : l.length ≤ maxLen ∧ ∀ x ∈ l, OkPa x) : Contract Tryz.prog 4 [.sl 2 (enc paC l) none .no, .v (.int .i64 id)] [] (.v (.bool true)) [] [] := by
  refine contract_of k4 mixed (by simp [c4]) fun hh hargs => ?_
  simp [c4]
  refine xcall_self (by simp) (lzfar_c l hl.1 _) ?_
  cases hf : farG l with
  | true =>
    simp
    refine xcall_self (by simp) (lzawake_c _) ?_
    simp
  | false =>
    obtain ⟨hl4, hs⟩ := far_no hf
    have k0 := rgbytes_c l id hl4 hs []
    rw [greet_split] at k0
    obtain ⟨N, hN⟩ : ∃ N, N = (sayB l id).length := ⟨_, rfl⟩
    have hbl : (byL (sayB l id)).length = N := by rw [hN]; simp [byL]
    have e0 : preB l ++ ownB id = sayB l id := rfl
    rw [e0] at k0
    have k6 := fun H => equal_c (sayB l id) (sayB l id) H
    simp only [beq_self_eq_true] at k6
    by_cases hne : l = []
    · have kn := lznew_c l (by omega) []
      have k1 := lzofb_c (h := [lzN 0 l]) (i := 0) hl4 hs rfl id
      have e1 : ([lzN 0 l] : List (List AV)).set 0 (lzC l true) ++ [[], [], byL (sayB l id)] = [lzC l true, [], [], byL (sayB l id)] := rfl
      rw [e1, ← hN] at k1
      have k2 := fun Z => lzof_c (h := [lzC l true, [], [], Z]) (i := 0) (m := true) hl4 hs rfl id
      have e2 : ∀ Z : List AV, ([lzC l true, [], [], Z] : List (List AV)).set 0 (lzC l true) = [lzC l true, [], [], Z] := fun Z => rfl
      simp only [e2] at k2
      simp only [List.length_nil, List.nil_append, List.length_singleton, Nat.reduceAdd] at kn k1
      generalize sayB l id = S at *
      have hen : enc paC l = [] := by rw [hne]; rfl
      simp
      refine xcall_self (by simp) k0 ?_
      simp
      refine .inl (.inr (.inr ⟨hen, .inl ⟨by omega, rfl, ?_⟩⟩))
      simp
      refine xcall_of kn (by simp [hen]) (by simp) ?_
      simp
      refine xcall_self (by simp) k1 ?_
      simp [hbl]
      refine xcall_self (by simp) (k2 _) ?_
      simp
      refine xcall_self (by simp) (k6 _) ?_
      simp
      refine xcall_self (by simp) (lzawake_c _) ?_
      simp
    · have hen : (enc paC l).length = l.length := by simp
      have hfl := flatP_len l
      have kn := lznewb_c (h := [(enc paC l).flatten]) (b := 0) hne (by omega) rfl
      have k1 := fun Z => lzofb_c (h := [Z, lzN 0 l]) (i := 1) hl4 hs rfl id
      have e1 : ∀ Z : List AV, ([Z, lzN 0 l] : List (List AV)).set 1 (lzC l true) ++ [[], [], byL (sayB l id)] = [Z, lzC l true, [], [], byL (sayB l id)] := fun Z => rfl
      simp only [e1, ← hN] at k1
      have k2 := fun Y Z => lzof_c (h := [Y, lzC l true, [], [], Z]) (i := 1) (m := true) hl4 hs rfl id
      have e2 : ∀ Y Z : List AV, ([Y, lzC l true, [], [], Z] : List (List AV)).set 1 (lzC l true) = [Y, lzC l true, [], [], Z] := fun Y Z => rfl
      simp only [e2] at k2
      simp only [List.length_nil, List.nil_append, List.length_cons, List.length_singleton, Nat.reduceAdd, List.cons_append] at kn k1
      generalize sayB l id = S at *
      simp
      refine xcall_self (by simp) k0 ?_
      simp
      refine .inr ⟨rfl, fun e => by rw [e] at hen; simp at hen; exact hne (List.eq_nil_of_length_eq_zero hen.symm), flatP_plain l, by rw [hen]; omega, by rw [hen]; omega, ?_⟩
      rw [hen]
      simp
      refine xcall_self (by simp) kn ?_
      simp [hfl]
      refine xcall_self (by simp) (k1 _) ?_
      simp [hbl]
      refine xcall_self (by simp) (k2 _ _) ?_
      simp
      refine xcall_self (by simp) (k6 _) ?_
      simp
      refine xcall_self (by simp) (lzawake_c _) ?_
      simp
end Go.Proofs.YtofkddajlgebjaaGreat.Ax
namespace Go.Proofs.YtofkddajlgebjaaGreat.lazyOwn
open Go.ChangeShapes Go.WideShapes Go.ChangeAt Go.RowKit
open Go.ChangeMaps (open_string shut_string)
set_option linter.unusedVariables false

theorem own : ownKnob Tryz.prog.godebug = none := by kernel_rfl
theorem laidOut : laidOutB Tryz.prog = true := by kernel_rfl

set_option maxRecDepth 100000 in
theorem lifted (os : Os) (started : os.Started) (H : Type) (enc : TypeId × Value → H) :
    ReturnsInHanded {} Tryz.checked os 4 .any (Rows.lazyOwnSpec.pre6 enc Tryz.prog Tryz.f4 Rows.lazyOwnRow.domain false) (Rows.lazyOwnSpec.post enc Tryz.prog Tryz.f4 false true false false) := by
  refine returnsInHanded_of_change (C := Tryz.checked) own started (by kernel_rfl) Tryz.func4
    (ChangeSpec.witness6 (enc := enc) (C := Tryz.checked) false ⟨#[], #[.slice none 0 0, .int .i64 0], []⟩ 8 (by kernel_rfl) (by kernel_rfl) (by kernel_rfl) (by kernel_rfl)) ?_
  intro W base args ds gs before hval0 hW hcnd _
  have hval : ∀ (j : Nat) t v, Tryz.f4.params[j]? = some t → args[j]? = some v → Value.okWide Tryz.prog W .any base t v := hval0
  have hW' := hW
  obtain ⟨p, q, hA0, hV, rfl, hfz, hnd⟩ := hW
  have hA : DataW.TrodAll enc Tryz.prog W 0 (fun _ => true) true Tryz.f4.params.toList args.toList ds p := hA0
  rw [Tryz.params4] at hA hval
  obtain ⟨v0, vs0, d0, ds0, p0, q0, hargs, rfl, rfl, h0, r0⟩ := trodAll_cons hA
  obtain ⟨v1, vs1, d1, ds1, p1, q1, rfl, rfl, rfl, h1, r1⟩ := trodAll_cons r0
  obtain ⟨rfl, rfl, rfl⟩ := trodAll_nil r1
  obtain rfl : args = #[v0, v1] := by cases args; simp_all
  obtain ⟨rfl, rfl⟩ := trodVars_none hV
  have k0 := h0
  have lt0 : ∀ x ∈ p0, x.block < W.heap.size := by obtain ⟨m, hm⟩ := k0; exact DataW.trod_lt m _ _ _ hm
  obtain ⟨a0, ok0, s0⟩ := Ax.arg_slice Tryz.underlying22 Ax.sh_paCL (hval 0 22 v0 rfl rfl) h0
  have k1 := h1
  have lt1 : ∀ x ∈ p1, x.block < W.heap.size := by obtain ⟨m, hm⟩ := k1; exact DataW.trod_lt m _ _ _ hm
  obtain ⟨a1, ok1, s1⟩ := Ax.arg_int Tryz.underlying3 (hval 1 3 v1 rfl rfl) h1
  clear hA0 hval0
  refine (Ax.law_walk (w := W) (Ax.dom_any W) (Ax.lzown_c a0 a1 ok0) (by simp) (.cons s0 (.cons s1 .nil))).mono fun e W' ⟨he, bel⟩ => ?_
  subst he
  exact ⟨_, rfl, _, _, _, [], _, [], hW', trodAll_mk1 (shut_bool Tryz.underlying4 _), (trodAll_cons_mk (Below.trod laidOut (by kernel_rfl) (of_decide_eq_true (by kernel_rfl)) k0 bel lt0) (trodAll_cons_mk (Below.trod laidOut (by kernel_rfl) (of_decide_eq_true (by kernel_rfl)) k1 bel lt1) trodAll_mk0)), rfl, bel.frame _, fun h => by cases h⟩

theorem over : Rows.lazyOwnRow.holds Tryz.pinned (OpenSpec.ofChange Rows.lazyOwnSpec) :=
  OpenClaim.holds_of_wide 4 Tryz.f4 rfl rfl rfl rfl rfl rfl rfl ⟨rfl, rfl, rfl, rfl, rfl⟩ rfl rfl rfl rfl rfl (by kernel_rfl) Tryz.func4 (by kernel_rfl)
    (of_decide_eq_true (by kernel_rfl)) (by unfold Func.isWrapper; first | (rw [if_pos (by decide +kernel)]; kernel_rfl) | (rw [if_neg (by decide +kernel)]; exact ⟨rfl, rfl⟩))
    (fun os started H enc _ => lifted os started H enc)

theorem proved : Rows.LazyOwnSaid := over
#print axioms proved
end Go.Proofs.YtofkddajlgebjaaGreat.lazyOwn
