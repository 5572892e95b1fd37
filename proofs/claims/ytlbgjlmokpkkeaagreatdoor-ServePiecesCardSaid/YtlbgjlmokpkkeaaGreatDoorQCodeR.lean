import Derived.Test.YtlbgjlmokpkkeaaGreatDoorQAxXr
import Derived.Test.YtlbgjlmokpkkeaaGreatDoorRows
set_option linter.all false
namespace Go.Proofs.YtlbgjlmokpkkeaaGreatDoor.Ax
open Go.RowKit Go By
def Sd:XFun:=⟨21,.seq (.ops [oJ 1 0,oN 2]) (.seq (.ops [oN 3]) (.seq (.seq (.ops [oF 4 0 1,oL 5 4,oI 6 .neq 5 (.int .u8 0)]) (.cond (.tmp 6) (.ops [oM 7 3,oF 8 0 1,oL 9 8,oR 10 1 1 9 ky,oX 11 (.append 1 1 (.tmp 7) (.tmp 10)),oA 3 11]) .skip)) (.seq (.draws (.take (oM 12 3) (.take (oF 13 1 1) (.take (oL 14 13) (.take (oH 15 14) (.take (oI 16 .add 15 (.int .i64 4)) (.take (oF 18 1 1) (.take (oL 19 18) (.only (oX 17 (.call 37 [.tmp 12,.tmp 16,.const (.int .i64 4)])) (.only (oX 20 (.append 1 1 (.tmp 17) (.tmp 19))) (.take (oA 2 20) .done))))))))))) .ret))),[.move (.tmp 2)]⟩
theorem Y1:aj Tryz.prog 21=some Sd:=by kernel_rfl
def MX:XFun:=⟨8,.seq (.ops [oZ 4 bZ]) (.seq (.ops [oM 5 0,oM 6 1,oX 7 (.call 149 [.const (.string (af [69,82,82,79,82])),.tmp 5,.tmp 6]),oS 11 4 7]) .ret),[.loadN 11 (.tmp 4)]⟩
theorem WM:aj Tryz.prog 102=some MX:=by kernel_rfl
end Go.Proofs.YtlbgjlmokpkkeaaGreatDoor.Ax
