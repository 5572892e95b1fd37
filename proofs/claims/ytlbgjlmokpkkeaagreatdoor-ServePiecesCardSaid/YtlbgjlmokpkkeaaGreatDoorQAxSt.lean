import Derived.Test.YtlbgjlmokpkkeaaGreatDoorQAxKc0
import Derived.Test.YtlbgjlmokpkkeaaGreatDoorQAxMs
import Derived.Test.YtlbgjlmokpkkeaaGreatDoorQAxSo
import Derived.Shelf.Strconv.Clone
set_option linter.all false
namespace Go.Proofs.YtlbgjlmokpkkeaaGreatDoor
namespace Ax
open Go.RowKit Go By
def VW:XFun:=⟨5,.seq (.ops [oK 2 (.string (af []))]) (.seq (.ops [oM 3 0,oC 4 80 [3],oA 2 4]) .ret),[.move (.tmp 2)]⟩
theorem ZO:aj Tryz.prog 53=some VW:=by kernel_rfl
end Ax
namespace Ax
open Go.RowKit Go By Go.Sort Go.Shelf
def FZ:Go.Shelf.Ren:=⟨fun |316=>80 |n=>n,fun |0=>0 |3=>3 |4=>4 |5=>5 |9=>9 |37=>23 |127=>181 |n=>n,fun |n=>n⟩
theorem DB:LaysM.n316 Tryz.prog FZ:={
 mixed:=by kernel_rfl
 f316:=Tryz.func80.trans (congrArg some (by kernel_rfl))
 t0:=Tryz.underlying0
 a0:=Tryz.isAgg0
 z0:=Tryz.sizeOf0
 v0:=Tryz.zeroValue0
 t3:=Tryz.underlying3
 a3:=Tryz.isAgg3
 z3:=Tryz.sizeOf3
 v3:=Tryz.zeroValue3
 t4:=Tryz.underlying4
 a4:=Tryz.isAgg4
 z4:=Tryz.sizeOf4
 v4:=Tryz.zeroValue4
 t5:=Tryz.underlying5
 a5:=Tryz.isAgg5
 z5:=Tryz.sizeOf5
 v5:=Tryz.zeroValue5
 t9:=Tryz.underlying9
 a9:=Tryz.isAgg9
 z9:=Tryz.sizeOf9
 v9:=Tryz.zeroValue9
 t37:=Tryz.underlying23
 a37:=Tryz.isAgg23
 z37:=Tryz.sizeOf23
 v37:=Tryz.zeroValue23
 t127:=Tryz.underlying181
 a127:=Tryz.isAgg181
 z127:=Tryz.sizeOf181
 v127:=Tryz.zeroValue181
 i0:=by kernel_rfl
 i3:=by kernel_rfl
 i4:=by kernel_rfl
 i5:=by kernel_rfl
 i9:=by kernel_rfl
 i37:=by kernel_rfl
 i127:=by kernel_rfl }
theorem EO(s:d5)(hs:s.length <= 281474976710656)(h:d4):ae Tryz.prog 80 [.v (.string (af s))] h (.v (.string (af s))) h [] :=
 bW (by kernel_rfl) rfl fun G w vs _ hv=>by
  rw[dT (l:=[.string (af s)]) hv]
  refine(Any.stringslite_Clone DB (af s) w (by rw[ej];exact hs)).mono fun e w' he=>?_
  exact⟨_,he.1,.v _,he.2⟩
theorem dI(s:d5)(hs:s.length <= 281474976710656)(h:d4):ae Tryz.prog 53 [.v (.string (af s))] h (.v (.string (af s))) h []:=by
 refine ac ZO mixed (by simp[VW]) fun hh hargs=>?_
 simp[VW]
 refine aa (by simp) (EO s hs _) ?_
 simp[hh]
end Ax
end Go.Proofs.YtlbgjlmokpkkeaaGreatDoor
