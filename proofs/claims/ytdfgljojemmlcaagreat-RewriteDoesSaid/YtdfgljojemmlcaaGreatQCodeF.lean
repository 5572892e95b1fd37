import Derived.Test.YtdfgljojemmlcaaGreatQAxXr
import Derived.Test.YtdfgljojemmlcaaGreatRows
set_option linter.unusedSimpArgs false
set_option linter.unusedVariables false
namespace Go.Proofs.YtdfgljojemmlcaaGreat.Ax
open Go.RowKit Go By
def uR:XFun:=⟨20,.seq (.ops [oK 2 (.int .i64 0)]) (.seq (.seq (.ops [oM 3 0]) (.block 0 (.seq (.seq (.ops [oI 5 .eql 3 (.int .u8 66),oA 4 5]) (.cond (.tmp 4) .skip (.seq (.ops [oI 6 .eql 3 (.int .u8 67),oA 4 6]) (.cond (.tmp 4) .skip (.seq (.ops [oI 7 .eql 3 (.int .u8 68),oA 4 7]) (.cond (.tmp 4) .skip (.seq (.ops [oI 8 .eql 3 (.int .u8 69),oA 4 8]) (.cond (.tmp 4) .skip (.seq (.ops [oI 9 .eql 3 (.int .u8 72),oA 4 9]) (.cond (.tmp 4) .skip (.seq (.ops [oI 10 .eql 3 (.int .u8 80),oA 4 10]) (.cond (.tmp 4) .skip (.seq (.ops [oI 11 .eql 3 (.int .u8 81),oA 4 11]) (.cond (.tmp 4) .skip (.seq (.ops [oI 12 .eql 3 (.int .u8 83),oA 4 12]) (.cond (.tmp 4) .skip (.ops [oI 13 .eql 3 (.int .u8 88),oA 4 13]))))))))))))))))) (.cond (.tmp 4) (.seq (.ops [oK 2 (.int .i64 1)]) .ret) (.seq (.seq (.ops [oI 15 .eql 3 (.int .u8 70),oA 14 15]) (.cond (.tmp 14) .skip (.seq (.ops [oI 16 .eql 3 (.int .u8 99),oA 14 16]) (.cond (.tmp 14) .skip (.seq (.ops [oI 17 .eql 3 (.int .u8 100),oA 14 17]) (.cond (.tmp 14) .skip (.seq (.ops [oI 18 .eql 3 (.int .u8 102),oA 14 18]) (.cond (.tmp 14) .skip (.ops [oI 19 .eql 3 (.int .u8 112),oA 14 19]))))))))) (.cond (.tmp 14) (.seq (.ops [oK 2 (.int .i64 2)]) .ret) .skip)))))) (.seq (.ops [oK 2 (.int .i64 0)]) .ret)),[.move (.tmp 2)]⟩
theorem QV : ak Tryz.prog 40 = some uR := by kernel_rfl
end Go.Proofs.YtdfgljojemmlcaaGreat.Ax
