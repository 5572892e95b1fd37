import Derived.Shelf.GgClosure.StringsIndexFunc
import Derived.Test.YtlbgjlmokpkkeaaGreatDoorQAxIp
import Derived.Test.YtlbgjlmokpkkeaaGreatDoorQAxTr
set_option linter.all false
namespace Go.Sort
end Go.Sort
namespace Go.Proofs
open Go.Shelf Go.RowKit Go.Lib Go.Sort
def Tryz.lays315_ren:Go.Shelf.Ren:=⟨fun |315=>259 |n=>n,fun |9=>9 |40=>308 |4=>4 |3=>3 |0=>0 |21=>21 |n=>n,fun |n=>n⟩
theorem Tryz.lays315:Go.Proofs.Lays.n315 Tryz.prog Tryz.lays315_ren:={
 mixed:=by kernel_rfl
 f315:=Tryz.func259.trans (congrArg some (by kernel_rfl))
 t0:=Tryz.underlying0
 a0:=Tryz.isAgg0
 z0:=Tryz.sizeOf0
 v0:=Tryz.zeroValue0
 t3:=Tryz.underlying3
 a3:=Tryz.isAgg3
 z3:=Tryz.sizeOf3
 v3:=Tryz.zeroValue3
 t4:=Tryz.underlying4
 a4:=Tryz.isAgg4
 z4:=Tryz.sizeOf4
 v4:=Tryz.zeroValue4
 t9:=Tryz.underlying9
 a9:=Tryz.isAgg9
 z9:=Tryz.sizeOf9
 v9:=Tryz.zeroValue9
 t21:=Tryz.underlying21
 a21:=Tryz.isAgg21
 z21:=Tryz.sizeOf21
 v21:=Tryz.zeroValue21
 t40:=Tryz.underlying308
 a40:=Tryz.isAgg308
 z40:=Tryz.sizeOf308
 v40:=Tryz.zeroValue308 }
theorem Tryz.strings_indexFunc(g:Nat)(lb:Array Value)(eg:∀ args w,(callFunc g args).run Tryz.prog w=.ok (.enter g args) w)(p:Nat -> Bool)(truth:Bool)(s:ByteArray)(w:World)(hp:PredAt Tryz.prog g lb encR p w):
  Calls Tryz.prog 259 #[.string s,.func (.func g) #[] lb,.bool truth] w fun e w'=>e=.returned (.int .i64 (Lib.idxFunc p truth s)) /\ Below w.heap.size w w':=Any.strings_indexFunc Tryz.lays315 g lb eg p truth s w hp
end Go.Proofs
namespace Go.Proofs.YtlbgjlmokpkkeaaGreatDoor.Ax
open Go.RowKit Go By Go.Sort
end Go.Proofs.YtlbgjlmokpkkeaaGreatDoor.Ax
