/- What a server is still to reply, over values without memory: copies of entries. -/
import Derived.Test.YtpogpofmakcodaaQAxX
import Derived.Test.YtpogpofmakcodaaRows
import Derived.Test.YtpogpofmakcodaaQAxTz
import Derived.Test.YtpogpofmakcodaaQAxBa
import Derived.Test.YtpogpofmakcodaaQAxJc
import Derived.Test.YtpogpofmakcodaaQAxIb
import Derived.Test.YtpogpofmakcodaaQAxCl
import Derived.Test.YtpogpofmakcodaaQCodeK
/- The texts of functions over values without memory, as the kernel reckons them out of the program. -/
namespace Go.Proofs.Ytpogpofmakcodaa.Ax
open Go.RowKit Go By

def c11 : XFun := ⟨13, (.seq (.ops [⟨(some 2), (.assign (.const (.pointer none))), none⟩, ⟨(some 3), (.assign (.const (.int .i64 0))), none⟩]) (.seq (.seq (.ops [⟨(some 4), (.move (.tmp 0)), none⟩, ⟨(some 5), (.bin .lss (.tmp 4) (.const (.int .i64 1))), none⟩, ⟨(some 6), (.move (.tmp 5)), none⟩, ⟨(some 7), (.move (.tmp 0)), (some (6, false))⟩, ⟨(some 8), (.bin .gtr (.tmp 7) (.const (.int .i64 4096))), (some (6, false))⟩, ⟨(some 9), (.pick (.tmp 6) (.const (.bool true)) (.tmp 8)), none⟩]) (.cond (.tmp 9) (.seq (.ops [⟨(some 2), (.assign (.const (.pointer none))), none⟩, ⟨(some 3), (.assign (.const (.int .i64 1))), none⟩]) .ret) .skip)) (.seq (.ops [⟨(some 10), (.move (.tmp 0)), none⟩, ⟨(some 11), (.build [(.sl 0 [] (some true) .exact), (.v (.int .i64 0))] [(1, (1, (.tmp 10)))]), none⟩, ⟨(some 12), (.box (.tmp 11)), none⟩, ⟨(some 2), (.assign (.tmp 12)), none⟩, ⟨(some 3), (.assign (.const (.int .i64 0))), none⟩]) .ret))), [(.move (.tmp 2)), (.move (.tmp 3))]⟩
theorem k11 : cfun Try.prog 11 = some c11 := by kernel_rfl
def c15 : XFun := ⟨39, (.seq (.ops [⟨(some 4), (.assign (.const (.int .i64 0))), none⟩]) (.seq (.block 0 (.seq (.ops [⟨(some 6), (.move (.tmp 0)), none⟩, ⟨(some 7), (.pnileq false (.tmp 6)), none⟩, ⟨(some 8), (.move (.tmp 7)), none⟩, ⟨(some 9), (.move (.tmp 0)), (some (8, false))⟩, ⟨(some 10), (.nilCheck (.tmp 9)), (some (8, false))⟩, ⟨(some 11), (.faddr 1 (.tmp 10)), (some (8, false))⟩, ⟨(some 12), (.load1 (.tmp 11)), (some (8, false))⟩, ⟨(some 13), (.bin .eql (.tmp 12) (.const (.int .i64 0))), (some (8, false))⟩, ⟨(some 14), (.pick (.tmp 8) (.const (.bool true)) (.tmp 13)), none⟩, ⟨(some 5), (.assign (.tmp 14)), none⟩]) (.cond (.tmp 5) (.seq (.ops [⟨(some 4), (.assign (.const (.int .i64 2))), none⟩]) .ret) (.seq (.draws (.take ⟨(some 16), (.move (.tmp 1)), none⟩ (.take ⟨(some 17), (.lenL (.tmp 16)), none⟩ (.take ⟨(some 18), (.move (.tmp 0)), none⟩ (.take ⟨(some 19), (.nilCheck (.tmp 18)), none⟩ (.take ⟨(some 20), (.faddr 1 (.tmp 19)), none⟩ (.take ⟨(some 21), (.load1 (.tmp 20)), none⟩ (.take ⟨(some 22), (.move (.tmp 0)), none⟩ (.take ⟨(some 23), (.nilCheck (.tmp 22)), none⟩ (.take ⟨(some 24), (.faddr 0 (.tmp 23)), none⟩ (.take ⟨(some 25), (.load1 (.tmp 24)), none⟩ (.take ⟨(some 26), (.lenL (.tmp 25)), none⟩ (.take ⟨(some 27), (.bin .sub (.tmp 21) (.tmp 26)), none⟩ (.take ⟨(some 28), (.bin .gtr (.tmp 17) (.tmp 27)), none⟩ (.take ⟨(some 15), (.assign (.tmp 28)), none⟩ .done))))))))))))))) (.cond (.tmp 15) (.seq (.ops [⟨(some 4), (.assign (.const (.int .i64 6))), none⟩]) .ret) .skip))))) (.seq (.draws (.take ⟨(some 29), (.move (.tmp 0)), none⟩ (.take ⟨(some 30), (.move (.tmp 0)), none⟩ (.take ⟨(some 31), (.nilCheck (.tmp 30)), none⟩ (.take ⟨(some 32), (.faddr 0 (.tmp 31)), none⟩ (.take ⟨(some 33), (.load1 (.tmp 32)), none⟩ (.take ⟨(some 34), (.move (.tmp 1)), none⟩ (.only ⟨(some 35), (.call 42 [(.tmp 34)]), none⟩ (.only ⟨(some 36), (.append 8 144 (.tmp 33) (.tmp 35)), none⟩ (.take ⟨(some 37), (.nilCheck (.tmp 29)), none⟩ (.take ⟨(some 38), (.faddr 0 (.tmp 37)), none⟩ (.last ⟨none, (.store 1 (.tmp 38) (.tmp 36)), none⟩)))))))))))) (.seq (.ops [⟨(some 4), (.assign (.const (.int .i64 0))), none⟩]) .ret)))), [(.move (.tmp 4))]⟩
theorem k15 : cfun Try.prog 15 = some c15 := by kernel_rfl
def c17 : XFun := ⟨12, (.seq (.ops [⟨(some 2), (.alloc [(.v (.int .i64 0)), (.v (.bool false)), (.v (.string (strB []))), (.v (.string (strB []))), (.sl 0 [] (some true) .exact), (.sl 0 [] (some true) .exact), (.sl 0 [] (some true) .exact), (.sl 0 [] (some true) .exact)]), none⟩, ⟨(some 3), (.assign (.const (.bool false))), none⟩]) (.seq (.seq (.ops [⟨(some 4), (.move (.tmp 0)), none⟩, ⟨(some 5), (.call 28 [(.tmp 4)]), none⟩, ⟨(some 6), (.bin .eql (.tmp 5) (.const (.int .i64 0))), none⟩]) (.cond (.tmp 6) (.seq (.ops [⟨(some 7), (.build [(.v (.int .i64 0)), (.v (.bool false)), (.v (.string (strB []))), (.v (.string (strB []))), (.sl 0 [] (some true) .exact), (.sl 0 [] (some true) .exact), (.sl 0 [] (some true) .exact), (.sl 0 [] (some true) .exact)] []), none⟩, ⟨none, (.store 8 (.tmp 2) (.tmp 7)), none⟩, ⟨(some 3), (.assign (.const (.bool false))), none⟩]) .ret) .skip)) (.seq (.ops [⟨(some 8), (.move (.tmp 0)), none⟩, ⟨(some 9), (.call 43 [(.tmp 8), (.const (.int .i64 1))]), none⟩, ⟨(some 10), (.iaddr 8 (.tmp 9) (.const (.int .i64 0))), none⟩, ⟨(some 11), (.loadN 8 (.tmp 10)), none⟩, ⟨none, (.store 8 (.tmp 2) (.tmp 11)), none⟩, ⟨(some 3), (.assign (.const (.bool true))), none⟩]) .ret))), [(.loadN 8 (.tmp 2)), (.move (.tmp 3))]⟩
theorem k17 : cfun Try.prog 17 = some c17 := by kernel_rfl
def c26 : XFun := ⟨15, (.seq (.ops [⟨(some 2), (.alloc [(.v (.int .i64 0)), (.v (.bool false)), (.v (.string (strB []))), (.v (.string (strB []))), (.sl 0 [] (some true) .exact), (.sl 0 [] (some true) .exact), (.sl 0 [] (some true) .exact), (.sl 0 [] (some true) .exact)]), none⟩, ⟨(some 3), (.assign (.const (.bool false))), none⟩]) (.seq (.seq (.ops [⟨(some 4), (.move (.tmp 0)), none⟩, ⟨(some 5), (.call 28 [(.tmp 4)]), none⟩, ⟨(some 6), (.bin .eql (.tmp 5) (.const (.int .i64 0))), none⟩]) (.cond (.tmp 6) (.seq (.ops [⟨(some 7), (.build [(.v (.int .i64 0)), (.v (.bool false)), (.v (.string (strB []))), (.v (.string (strB []))), (.sl 0 [] (some true) .exact), (.sl 0 [] (some true) .exact), (.sl 0 [] (some true) .exact), (.sl 0 [] (some true) .exact)] []), none⟩, ⟨none, (.store 8 (.tmp 2) (.tmp 7)), none⟩, ⟨(some 3), (.assign (.const (.bool false))), none⟩]) .ret) .skip)) (.seq (.ops [⟨(some 8), (.move (.tmp 0)), none⟩, ⟨(some 9), (.nilCheck (.tmp 8)), none⟩, ⟨(some 10), (.faddr 0 (.tmp 9)), none⟩, ⟨(some 11), (.load1 (.tmp 10)), none⟩, ⟨(some 12), (.iaddr 8 (.tmp 11) (.const (.int .i64 0))), none⟩, ⟨(some 13), (.loadN 8 (.tmp 12)), none⟩, ⟨(some 14), (.call 50 [(.tmp 13)]), none⟩, ⟨none, (.store 8 (.tmp 2) (.tmp 14)), none⟩, ⟨(some 3), (.assign (.const (.bool true))), none⟩]) .ret))), [(.loadN 8 (.tmp 2)), (.move (.tmp 3))]⟩
theorem k26 : cfun Try.prog 26 = some c26 := by kernel_rfl
def c21 : XFun := ⟨22, (.seq (.ops [⟨(some 2), (.assign (.const (.slice none 0 0))), none⟩]) (.seq (.seq (.ops [⟨(some 4), (.move (.tmp 0)), none⟩, ⟨(some 5), (.call 28 [(.tmp 4)]), none⟩, ⟨(some 6), (.bin .eql (.tmp 5) (.const (.int .i64 0))), none⟩]) (.cond (.tmp 6) (.seq (.ops [⟨(some 2), (.assign (.const (.slice none 0 0))), none⟩]) .ret) .skip)) (.seq (.ops [⟨(some 7), (.move (.tmp 0)), none⟩, ⟨(some 8), (.nilCheck (.tmp 7)), none⟩, ⟨(some 9), (.faddr 0 (.tmp 8)), none⟩, ⟨(some 10), (.load1 (.tmp 9)), none⟩, ⟨(some 11), (.call 47 [(.tmp 10), (.func 48)]), none⟩, ⟨(some 3), (.assign (.tmp 11)), none⟩]) (.seq (.seq (.ops [⟨(some 12), (.move (.tmp 3)), none⟩, ⟨(some 13), (.bin .lss (.tmp 12) (.const (.int .i64 0))), none⟩]) (.cond (.tmp 13) (.ops [⟨(some 14), (.move (.tmp 0)), none⟩, ⟨(some 15), (.nilCheck (.tmp 14)), none⟩, ⟨(some 16), (.faddr 0 (.tmp 15)), none⟩, ⟨(some 17), (.load1 (.tmp 16)), none⟩, ⟨(some 18), (.lenL (.tmp 17)), none⟩, ⟨(some 3), (.assign (.tmp 18)), none⟩]) .skip)) (.seq (.ops [⟨(some 19), (.move (.tmp 0)), none⟩, ⟨(some 20), (.move (.tmp 3)), none⟩, ⟨(some 21), (.call 43 [(.tmp 19), (.tmp 20)]), none⟩, ⟨(some 2), (.assign (.tmp 21)), none⟩]) .ret))))), [(.move (.tmp 2))]⟩
theorem k21 : cfun Try.prog 21 = some c21 := by kernel_rfl
def c48 : XFun := ⟨6, (.seq (.ops [⟨(some 1), (.box (.tmp 0)), none⟩, ⟨(some 2), (.assign (.const (.bool false))), none⟩]) (.seq (.ops [⟨(some 3), (.faddr 0 (.tmp 1)), none⟩, ⟨(some 4), (.load1 (.tmp 3)), none⟩, ⟨(some 5), (.bin .eql (.tmp 4) (.const (.int .i64 8))), none⟩, ⟨(some 2), (.assign (.tmp 5)), none⟩]) .ret)), [(.move (.tmp 2))]⟩
theorem k48 : cfun Try.prog 48 = some c48 := by kernel_rfl
def c24 : XFun := ⟨40, (.seq (.ops [⟨(some 2), (.assign (.const (.slice none 0 0))), none⟩]) (.seq (.seq (.ops [⟨(some 6), (.move (.tmp 0)), none⟩, ⟨(some 7), (.pnileq false (.tmp 6)), none⟩]) (.cond (.tmp 7) (.seq (.ops [⟨(some 2), (.assign (.const (.slice none 0 0))), none⟩]) .ret) .skip)) (.seq (.ops [⟨(some 3), (.assign (.const (.slice none 0 0))), none⟩]) (.seq (.seq (.ops [⟨(some 8), (.move (.tmp 0)), none⟩, ⟨(some 9), (.nilCheck (.tmp 8)), none⟩, ⟨(some 10), (.faddr 0 (.tmp 9)), none⟩, ⟨(some 11), (.load1 (.tmp 10)), none⟩, ⟨(some 12), (.lenL (.tmp 11)), none⟩, ⟨(some 13), (.move (.const (.int .i64 0))), none⟩]) (.block 0 (.loop (.seq (.ops [⟨(some 14), (.bin .lss (.tmp 13) (.tmp 12)), none⟩]) (.seq (.cond (.tmp 14) .skip (.exit 0)) (.seq (.block 1 (.seq (.ops [⟨(some 15), (.move (.tmp 13)), none⟩, ⟨(some 4), (.assign (.tmp 15)), none⟩]) (.seq (.ops [⟨(some 16), (.move (.tmp 0)), none⟩, ⟨(some 17), (.nilCheck (.tmp 16)), none⟩, ⟨(some 18), (.faddr 0 (.tmp 17)), none⟩, ⟨(some 19), (.load1 (.tmp 18)), none⟩, ⟨(some 20), (.move (.tmp 4)), none⟩, ⟨(some 21), (.iaddr 8 (.tmp 19) (.tmp 20)), none⟩, ⟨(some 5), (.assign (.tmp 21)), none⟩]) (.seq (.ops [⟨(some 22), (.move (.tmp 3)), none⟩, ⟨(some 23), (.move (.tmp 5)), none⟩, ⟨(some 24), (.nilCheck (.tmp 23)), none⟩, ⟨(some 25), (.faddr 4 (.tmp 24)), none⟩, ⟨(some 26), (.load1 (.tmp 25)), none⟩, ⟨(some 27), (.call 49 [(.tmp 26)]), none⟩, ⟨(some 28), (.append 1 8 (.tmp 22) (.tmp 27)), none⟩, ⟨(some 3), (.assign (.tmp 28)), none⟩]) (.ops [⟨(some 29), (.move (.tmp 5)), none⟩, ⟨(some 30), (.move (.tmp 5)), none⟩, ⟨(some 31), (.move (.tmp 5)), none⟩, ⟨(some 32), (.nilCheck (.tmp 29)), none⟩, ⟨(some 33), (.faddr 1 (.tmp 32)), none⟩, ⟨none, (.store 1 (.tmp 33) (.const (.bool true))), none⟩, ⟨(some 34), (.nilCheck (.tmp 30)), none⟩, ⟨(some 35), (.faddr 4 (.tmp 34)), none⟩, ⟨none, (.store 1 (.tmp 35) (.const (.slice none 0 0))), none⟩, ⟨(some 36), (.nilCheck (.tmp 31)), none⟩, ⟨(some 37), (.faddr 5 (.tmp 36)), none⟩, ⟨none, (.store 1 (.tmp 37) (.const (.slice none 0 0))), none⟩]))))) (.ops [⟨(some 38), (.bin .add (.tmp 13) (.const (.int .i64 1))), none⟩, ⟨(some 13), (.move (.tmp 38)), none⟩]))))))) (.seq (.ops [⟨(some 39), (.move (.tmp 3)), none⟩, ⟨(some 2), (.assign (.tmp 39)), none⟩]) .ret))))), [(.move (.tmp 2))]⟩
theorem k24 : cfun Try.prog 24 = some c24 := by kernel_rfl
def c28 : XFun := ⟨10, (.seq (.ops [⟨(some 2), (.assign (.const (.int .i64 0))), none⟩]) (.seq (.seq (.ops [⟨(some 3), (.move (.tmp 0)), none⟩, ⟨(some 4), (.pnileq false (.tmp 3)), none⟩]) (.cond (.tmp 4) (.seq (.ops [⟨(some 2), (.assign (.const (.int .i64 0))), none⟩]) .ret) .skip)) (.seq (.ops [⟨(some 5), (.move (.tmp 0)), none⟩, ⟨(some 6), (.nilCheck (.tmp 5)), none⟩, ⟨(some 7), (.faddr 0 (.tmp 6)), none⟩, ⟨(some 8), (.load1 (.tmp 7)), none⟩, ⟨(some 9), (.lenL (.tmp 8)), none⟩, ⟨(some 2), (.assign (.tmp 9)), none⟩]) .ret))), [(.move (.tmp 2))]⟩
theorem k28 : cfun Try.prog 28 = some c28 := by kernel_rfl
def c27 : XFun := ⟨10, (.seq (.ops [⟨(some 2), (.assign (.const (.slice none 0 0))), none⟩]) (.seq (.seq (.ops [⟨(some 3), (.move (.tmp 0)), none⟩, ⟨(some 4), (.pnileq false (.tmp 3)), none⟩]) (.cond (.tmp 4) (.seq (.ops [⟨(some 2), (.assign (.const (.slice none 0 0))), none⟩]) .ret) .skip)) (.seq (.ops [⟨(some 5), (.move (.tmp 0)), none⟩, ⟨(some 6), (.nilCheck (.tmp 5)), none⟩, ⟨(some 7), (.faddr 0 (.tmp 6)), none⟩, ⟨(some 8), (.load1 (.tmp 7)), none⟩, ⟨(some 9), (.call 42 [(.tmp 8)]), none⟩, ⟨(some 2), (.assign (.tmp 9)), none⟩]) .ret))), [(.move (.tmp 2))]⟩
theorem k27 : cfun Try.prog 27 = some c27 := by kernel_rfl
def c43 : XFun := ⟨23, (.seq (.ops [⟨(some 4), (.assign (.const (.slice none 0 0))), none⟩]) (.seq (.ops [⟨(some 6), (.move (.tmp 0)), none⟩, ⟨(some 7), (.nilCheck (.tmp 6)), none⟩, ⟨(some 8), (.faddr 0 (.tmp 7)), none⟩, ⟨(some 9), (.load1 (.tmp 8)), none⟩, ⟨(some 10), (.move (.tmp 1)), none⟩, ⟨(some 11), (.move (.tmp 1)), none⟩, ⟨(some 12), (.slice 8 (.tmp 9) none (some (.tmp 10)) (some (.tmp 11))), none⟩, ⟨(some 5), (.assign (.tmp 12)), none⟩]) (.seq (.ops [⟨(some 13), (.move (.tmp 0)), none⟩, ⟨(some 14), (.move (.tmp 0)), none⟩, ⟨(some 15), (.nilCheck (.tmp 14)), none⟩, ⟨(some 16), (.faddr 0 (.tmp 15)), none⟩, ⟨(some 17), (.load1 (.tmp 16)), none⟩, ⟨(some 18), (.move (.tmp 1)), none⟩, ⟨(some 19), (.slice 8 (.tmp 17) (some (.tmp 18)) none none), none⟩, ⟨(some 20), (.nilCheck (.tmp 13)), none⟩, ⟨(some 21), (.faddr 0 (.tmp 20)), none⟩, ⟨none, (.store 1 (.tmp 21) (.tmp 19)), none⟩]) (.seq (.ops [⟨(some 22), (.move (.tmp 5)), none⟩, ⟨(some 4), (.assign (.tmp 22)), none⟩]) .ret)))), [(.move (.tmp 4))]⟩
theorem k43 : cfun Try.prog 43 = some c43 := by kernel_rfl
def c42 : XFun := ⟨23, (.seq (.ops [⟨(some 2), (.assign (.const (.slice none 0 0))), none⟩]) (.seq (.ops [⟨(some 6), (.move (.tmp 0)), none⟩, ⟨(some 7), (.lenL (.tmp 6)), none⟩, ⟨(some 8), (.makeB 8 144 [(.v (.int .i64 0)), (.v (.bool false)), (.v (.string (strB []))), (.v (.string (strB []))), (.sl 0 [] (some true) .exact), (.sl 0 [] (some true) .exact), (.sl 0 [] (some true) .exact), (.sl 0 [] (some true) .exact)] (.tmp 7)), none⟩, ⟨(some 3), (.assign (.tmp 8)), none⟩]) (.seq (.seq (.ops [⟨(some 9), (.move (.tmp 0)), none⟩, ⟨(some 10), (.lenL (.tmp 9)), none⟩, ⟨(some 11), (.move (.const (.int .i64 0))), none⟩]) (.block 0 (.loop (.seq (.ops [⟨(some 12), (.bin .lss (.tmp 11) (.tmp 10)), none⟩]) (.seq (.cond (.tmp 12) .skip (.exit 0)) (.seq (.block 1 (.seq (.ops [⟨(some 13), (.move (.tmp 11)), none⟩, ⟨(some 14), (.iaddr 8 (.tmp 9) (.tmp 11)), none⟩, ⟨(some 15), (.loadN 8 (.tmp 14)), none⟩, ⟨(some 5), (.alloc [(.v (.int .i64 0)), (.v (.bool false)), (.v (.string (strB []))), (.v (.string (strB []))), (.sl 0 [] (some true) .exact), (.sl 0 [] (some true) .exact), (.sl 0 [] (some true) .exact), (.sl 0 [] (some true) .exact)]), none⟩, ⟨(some 4), (.assign (.tmp 13)), none⟩, ⟨none, (.store 8 (.tmp 5) (.tmp 15)), none⟩]) (.ops [⟨(some 16), (.move (.tmp 3)), none⟩, ⟨(some 17), (.move (.tmp 4)), none⟩, ⟨(some 18), (.loadN 8 (.tmp 5)), none⟩, ⟨(some 19), (.call 50 [(.tmp 18)]), none⟩, ⟨(some 20), (.iaddr 8 (.tmp 16) (.tmp 17)), none⟩, ⟨none, (.store 8 (.tmp 20) (.tmp 19)), none⟩]))) (.ops [⟨(some 21), (.bin .add (.tmp 11) (.const (.int .i64 1))), none⟩, ⟨(some 11), (.move (.tmp 21)), none⟩]))))))) (.seq (.ops [⟨(some 22), (.move (.tmp 3)), none⟩, ⟨(some 2), (.assign (.tmp 22)), none⟩]) .ret)))), [(.move (.tmp 2))]⟩
theorem k42 : cfun Try.prog 42 = some c42 := by kernel_rfl
def c50 : XFun := ⟨20, (.seq (.ops [⟨(some 1), (.box (.tmp 0)), none⟩, ⟨(some 2), (.alloc [(.v (.int .i64 0)), (.v (.bool false)), (.v (.string (strB []))), (.v (.string (strB []))), (.sl 0 [] (some true) .exact), (.sl 0 [] (some true) .exact), (.sl 0 [] (some true) .exact), (.sl 0 [] (some true) .exact)]), none⟩]) (.seq (.ops [⟨(some 3), (.faddr 4 (.tmp 1)), none⟩, ⟨(some 4), (.load1 (.tmp 3)), none⟩, ⟨(some 5), (.call 68 [(.tmp 4)]), none⟩, ⟨(some 6), (.faddr 4 (.tmp 1)), none⟩, ⟨none, (.store 1 (.tmp 6) (.tmp 5)), none⟩]) (.seq (.ops [⟨(some 7), (.faddr 5 (.tmp 1)), none⟩, ⟨(some 8), (.load1 (.tmp 7)), none⟩, ⟨(some 9), (.call 68 [(.tmp 8)]), none⟩, ⟨(some 10), (.faddr 5 (.tmp 1)), none⟩, ⟨none, (.store 1 (.tmp 10) (.tmp 9)), none⟩]) (.seq (.ops [⟨(some 11), (.faddr 6 (.tmp 1)), none⟩, ⟨(some 12), (.load1 (.tmp 11)), none⟩, ⟨(some 13), (.call 69 [(.tmp 12)]), none⟩, ⟨(some 14), (.faddr 6 (.tmp 1)), none⟩, ⟨none, (.store 1 (.tmp 14) (.tmp 13)), none⟩]) (.seq (.ops [⟨(some 15), (.faddr 7 (.tmp 1)), none⟩, ⟨(some 16), (.load1 (.tmp 15)), none⟩, ⟨(some 17), (.call 70 [(.tmp 16)]), none⟩, ⟨(some 18), (.faddr 7 (.tmp 1)), none⟩, ⟨none, (.store 1 (.tmp 18) (.tmp 17)), none⟩]) (.seq (.ops [⟨(some 19), (.loadN 8 (.tmp 1)), none⟩, ⟨none, (.store 8 (.tmp 2) (.tmp 19)), none⟩]) .ret)))))), [(.loadN 8 (.tmp 2))]⟩
theorem k50 : cfun Try.prog 50 = some c50 := by kernel_rfl
def c14 : XFun := ⟨54, (.seq (.ops [⟨(some 0), (.assign (.const (.bool false))), none⟩]) (.seq (.ops [⟨(some 7), (.call 11 [(.const (.int .i64 3))]), none⟩, ⟨(some 6), (.move (.tmp 7)), none⟩, ⟨(some 8), (.extract (.tmp 6) 0), none⟩, ⟨(some 9), (.extract (.tmp 6) 1), none⟩, ⟨(some 1), (.assign (.tmp 8)), none⟩, ⟨(some 2), (.assign (.tmp 9)), none⟩]) (.seq (.seq (.ops [⟨(some 10), (.move (.tmp 1)), none⟩, ⟨(some 11), (.pnileq false (.tmp 10)), none⟩, ⟨(some 12), (.move (.tmp 11)), none⟩, ⟨(some 13), (.move (.tmp 2)), (some (12, false))⟩, ⟨(some 14), (.bin .neq (.tmp 13) (.const (.int .i64 0))), (some (12, false))⟩, ⟨(some 15), (.pick (.tmp 12) (.const (.bool true)) (.tmp 14)), none⟩, ⟨(some 16), (.move (.tmp 15)), none⟩, ⟨(some 17), (.move (.tmp 1)), (some (16, false))⟩, ⟨(some 18), (.build [(.v (.int .i64 0)), (.v (.bool false)), (.v (.string (strB []))), (.v (.string (strB []))), (.sl 0 [] (some true) .exact), (.sl 0 [] (some true) .exact), (.sl 0 [] (some true) .exact), (.sl 0 [] (some true) .exact)] [(0, (1, (.const (.int .i64 2))))]), (some (16, false))⟩, ⟨(some 19), (.build [(.v (.int .i64 0)), (.v (.bool false)), (.v (.string (strB []))), (.v (.string (strB []))), (.sl 0 [] (some true) .exact), (.sl 0 [] (some true) .exact), (.sl 0 [] (some true) .exact), (.sl 0 [] (some true) .exact)] [(0, (1, (.const (.int .i64 8))))]), (some (16, false))⟩, ⟨(some 20), (.buildSlice 8 2 [(.v (.int .i64 0)), (.v (.bool false)), (.v (.string (strB []))), (.v (.string (strB []))), (.sl 0 [] (some true) .exact), (.sl 0 [] (some true) .exact), (.sl 0 [] (some true) .exact), (.sl 0 [] (some true) .exact)] [(0, (.tmp 18)), (1, (.tmp 19))]), (some (16, false))⟩, ⟨(some 21), (.call 15 [(.tmp 17), (.tmp 20)]), (some (16, false))⟩, ⟨(some 22), (.bin .neq (.tmp 21) (.const (.int .i64 0))), (some (16, false))⟩, ⟨(some 23), (.pick (.tmp 16) (.const (.bool true)) (.tmp 22)), none⟩]) (.cond (.tmp 23) (.seq (.ops [⟨(some 0), (.assign (.const (.bool false))), none⟩]) .ret) .skip)) (.seq (.ops [⟨(some 24), (.move (.tmp 1)), none⟩, ⟨(some 25), (.call 21 [(.tmp 24)]), none⟩, ⟨(some 3), (.assign (.tmp 25)), none⟩]) (.seq (.ops [⟨(some 27), (.move (.tmp 1)), none⟩, ⟨(some 28), (.call 26 [(.tmp 27)]), none⟩, ⟨(some 26), (.move (.tmp 28)), none⟩, ⟨(some 29), (.extract (.tmp 26) 0), none⟩, ⟨(some 30), (.extract (.tmp 26) 1), none⟩, ⟨(some 4), (.alloc [(.v (.int .i64 0)), (.v (.bool false)), (.v (.string (strB []))), (.v (.string (strB []))), (.sl 0 [] (some true) .exact), (.sl 0 [] (some true) .exact), (.sl 0 [] (some true) .exact), (.sl 0 [] (some true) .exact)]), none⟩, ⟨none, (.store 8 (.tmp 4) (.tmp 29)), none⟩, ⟨(some 5), (.assign (.tmp 30)), none⟩]) (.seq (.ops [⟨(some 31), (.move (.tmp 3)), none⟩, ⟨(some 32), (.lenL (.tmp 31)), none⟩, ⟨(some 33), (.bin .eql (.tmp 32) (.const (.int .i64 1))), none⟩, ⟨(some 34), (.move (.tmp 33)), none⟩, ⟨(some 35), (.move (.tmp 3)), (some (34, true))⟩, ⟨(some 36), (.iaddr 8 (.tmp 35) (.const (.int .i64 0))), (some (34, true))⟩, ⟨(some 37), (.faddr 0 (.tmp 36)), (some (34, true))⟩, ⟨(some 38), (.load1 (.tmp 37)), (some (34, true))⟩, ⟨(some 39), (.bin .eql (.tmp 38) (.const (.int .i64 2))), (some (34, true))⟩, ⟨(some 40), (.pick (.tmp 34) (.tmp 39) (.const (.bool false))), none⟩, ⟨(some 41), (.move (.tmp 40)), none⟩, ⟨(some 42), (.move (.tmp 5)), (some (41, true))⟩, ⟨(some 43), (.pick (.tmp 41) (.tmp 42) (.const (.bool false))), none⟩, ⟨(some 44), (.move (.tmp 43)), none⟩, ⟨(some 45), (.faddr 0 (.tmp 4)), (some (44, true))⟩, ⟨(some 46), (.load1 (.tmp 45)), (some (44, true))⟩, ⟨(some 47), (.bin .eql (.tmp 46) (.const (.int .i64 8))), (some (44, true))⟩, ⟨(some 48), (.pick (.tmp 44) (.tmp 47) (.const (.bool false))), none⟩, ⟨(some 49), (.move (.tmp 48)), none⟩, ⟨(some 50), (.move (.tmp 1)), (some (49, true))⟩, ⟨(some 51), (.call 28 [(.tmp 50)]), (some (49, true))⟩, ⟨(some 52), (.bin .eql (.tmp 51) (.const (.int .i64 1))), (some (49, true))⟩, ⟨(some 53), (.pick (.tmp 49) (.tmp 52) (.const (.bool false))), none⟩, ⟨(some 0), (.assign (.tmp 53)), none⟩]) .ret)))))), [(.move (.tmp 0))]⟩
theorem k14 : cfun Try.prog 14 = some c14 := by kernel_rfl
def c3 : XFun := ⟨152, (.seq (.ops [⟨(some 4), (.assign (.const (.bool false))), none⟩]) (.seq (.ops [⟨(some 19), (.move (.tmp 0)), none⟩, ⟨(some 20), (.call 11 [(.tmp 19)]), none⟩, ⟨(some 18), (.move (.tmp 20)), none⟩, ⟨(some 21), (.extract (.tmp 18) 0), none⟩, ⟨(some 22), (.extract (.tmp 18) 1), none⟩, ⟨(some 5), (.assign (.tmp 21)), none⟩, ⟨(some 6), (.assign (.tmp 22)), none⟩]) (.seq (.ops [⟨(some 24), (.move (.tmp 0)), none⟩, ⟨(some 25), (.call 12 [(.tmp 24)]), none⟩, ⟨(some 23), (.move (.tmp 25)), none⟩, ⟨(some 26), (.extract (.tmp 23) 0), none⟩, ⟨(some 27), (.extract (.tmp 23) 1), none⟩, ⟨(some 7), (.assign (.tmp 26)), none⟩, ⟨(some 8), (.assign (.tmp 27)), none⟩]) (.seq (.seq (.ops [⟨(some 28), (.move (.tmp 6)), none⟩, ⟨(some 29), (.move (.tmp 8)), none⟩, ⟨(some 30), (.bin .neq (.tmp 28) (.tmp 29)), none⟩, ⟨(some 31), (.move (.tmp 30)), none⟩, ⟨(some 32), (.move (.tmp 5)), (some (31, false))⟩, ⟨(some 33), (.pnileq false (.tmp 32)), (some (31, false))⟩, ⟨(some 34), (.move (.tmp 7)), (some (31, false))⟩, ⟨(some 35), (.pnileq false (.tmp 34)), (some (31, false))⟩, ⟨(some 36), (.beq true (.tmp 33) (.tmp 35)), (some (31, false))⟩, ⟨(some 37), (.pick (.tmp 31) (.const (.bool true)) (.tmp 36)), none⟩]) (.cond (.tmp 37) (.seq (.ops [⟨(some 4), (.assign (.const (.bool false))), none⟩]) .ret) .skip)) (.seq (.seq (.ops [⟨(some 38), (.move (.tmp 7)), none⟩, ⟨(some 39), (.pnileq false (.tmp 38)), none⟩, ⟨(some 40), (.move (.tmp 39)), none⟩, ⟨(some 41), (.move (.tmp 1)), (some (40, false))⟩, ⟨(some 42), (.call 13 [(.tmp 41)]), (some (40, false))⟩, ⟨(some 43), (.un .not (.tmp 42)), (some (40, false))⟩, ⟨(some 44), (.pick (.tmp 40) (.const (.bool true)) (.tmp 43)), none⟩]) (.cond (.tmp 44) (.seq (.ops [⟨(some 45), (.call 14 []), none⟩, ⟨(some 4), (.assign (.tmp 45)), none⟩]) .ret) .skip)) (.seq (.seq (.ops [⟨(some 46), (.move (.tmp 1)), none⟩, ⟨(some 47), (.lenL (.tmp 46)), none⟩, ⟨(some 48), (.move (.const (.int .i64 0))), none⟩]) (.block 0 (.loop (.seq (.ops [⟨(some 49), (.bin .lss (.tmp 48) (.tmp 47)), none⟩]) (.seq (.cond (.tmp 49) .skip (.exit 0)) (.seq (.block 1 (.seq (.ops [⟨(some 50), (.iaddr 2 (.tmp 46) (.tmp 48)), none⟩, ⟨(some 51), (.loadN 2 (.tmp 50)), none⟩, ⟨(some 10), (.alloc [(.v (.int .i64 0)), (.sl 0 [] (some true) .exact)]), none⟩, ⟨none, (.store 2 (.tmp 10) (.tmp 51)), none⟩]) (.seq (.ops [⟨(some 11), (.assign (.const (.bool true))), none⟩]) (.seq (.seq (.ops [⟨(some 52), (.faddr 0 (.tmp 10)), none⟩, ⟨(some 53), (.load1 (.tmp 52)), none⟩]) (.block 2 (.seq (.seq (.ops [⟨(some 60), (.bin .eql (.tmp 53) (.const (.int .i64 0))), none⟩, ⟨(some 59), (.assign (.tmp 60)), none⟩]) (.cond (.tmp 59) .skip (.seq (.ops [⟨(some 61), (.bin .eql (.tmp 53) (.const (.int .i64 1))), none⟩, ⟨(some 59), (.assign (.tmp 61)), none⟩]) (.cond (.tmp 59) .skip (.ops [⟨(some 62), (.bin .eql (.tmp 53) (.const (.int .i64 2))), none⟩, ⟨(some 59), (.assign (.tmp 62)), none⟩]))))) (.cond (.tmp 59) (.draws (.take ⟨(some 63), (.move (.tmp 5)), none⟩ (.take ⟨(some 64), (.faddr 1 (.tmp 10)), none⟩ (.take ⟨(some 65), (.load1 (.tmp 64)), none⟩ (.take ⟨(some 67), (.move (.tmp 7)), none⟩ (.take ⟨(some 68), (.faddr 1 (.tmp 10)), none⟩ (.take ⟨(some 69), (.load1 (.tmp 68)), none⟩ (.only ⟨(some 66), (.call 15 [(.tmp 63), (.tmp 65)]), none⟩ (.only ⟨(some 70), (.call 16 [(.tmp 67), (.tmp 69)]), none⟩ (.take ⟨(some 71), (.bin .eql (.tmp 66) (.tmp 70)), none⟩ (.take ⟨(some 11), (.assign (.tmp 71)), none⟩ .done))))))))))) (.seq (.ops [⟨(some 73), (.bin .eql (.tmp 53) (.const (.int .i64 3))), none⟩, ⟨(some 72), (.assign (.tmp 73)), none⟩]) (.cond (.tmp 72) (.seq (.ops [⟨(some 75), (.move (.tmp 5)), none⟩, ⟨(some 76), (.call 17 [(.tmp 75)]), none⟩, ⟨(some 74), (.move (.tmp 76)), none⟩, ⟨(some 77), (.extract (.tmp 74) 0), none⟩, ⟨(some 78), (.extract (.tmp 74) 1), none⟩, ⟨(some 12), (.alloc [(.v (.int .i64 0)), (.v (.bool false)), (.v (.string (strB []))), (.v (.string (strB []))), (.sl 0 [] (some true) .exact), (.sl 0 [] (some true) .exact), (.sl 0 [] (some true) .exact), (.sl 0 [] (some true) .exact)]), none⟩, ⟨none, (.store 8 (.tmp 12) (.tmp 77)), none⟩, ⟨(some 13), (.assign (.tmp 78)), none⟩]) (.seq (.ops [⟨(some 80), (.move (.tmp 7)), none⟩, ⟨(some 81), (.call 18 [(.tmp 80)]), none⟩, ⟨(some 79), (.move (.tmp 81)), none⟩, ⟨(some 82), (.extract (.tmp 79) 0), none⟩, ⟨(some 83), (.extract (.tmp 79) 1), none⟩, ⟨(some 14), (.alloc [(.v (.int .i64 0)), (.v (.bool false)), (.v (.string (strB []))), (.v (.string (strB []))), (.sl 0 [] (some true) .exact), (.sl 0 [] (some true) .exact), (.sl 0 [] (some true) .exact), (.sl 0 [] (some true) .exact)]), none⟩, ⟨none, (.store 8 (.tmp 14) (.tmp 82)), none⟩, ⟨(some 15), (.assign (.tmp 83)), none⟩]) (.ops [⟨(some 84), (.move (.tmp 13)), none⟩, ⟨(some 85), (.move (.tmp 15)), none⟩, ⟨(some 86), (.beq false (.tmp 84) (.tmp 85)), none⟩, ⟨(some 87), (.move (.tmp 86)), none⟩, ⟨(some 88), (.loadN 8 (.tmp 12)), (some (87, true))⟩, ⟨(some 89), (.loadN 8 (.tmp 14)), (some (87, true))⟩, ⟨(some 90), (.call 19 [(.tmp 88), (.tmp 89)]), (some (87, true))⟩, ⟨(some 91), (.pick (.tmp 87) (.tmp 90) (.const (.bool false))), none⟩, ⟨(some 11), (.assign (.tmp 91)), none⟩]))) (.seq (.ops [⟨(some 93), (.bin .eql (.tmp 53) (.const (.int .i64 4))), none⟩, ⟨(some 92), (.assign (.tmp 93)), none⟩]) (.cond (.tmp 92) (.ops [⟨(some 94), (.move (.tmp 5)), none⟩, ⟨(some 95), (.call 21 [(.tmp 94)]), none⟩, ⟨(some 96), (.move (.tmp 7)), none⟩, ⟨(some 97), (.call 22 [(.tmp 96)]), none⟩, ⟨(some 98), (.call 20 [(.tmp 95), (.tmp 97)]), none⟩, ⟨(some 11), (.assign (.tmp 98)), none⟩]) (.ops [⟨(some 54), (.move (.tmp 5)), none⟩, ⟨(some 55), (.call 24 [(.tmp 54)]), none⟩, ⟨(some 56), (.move (.tmp 7)), none⟩, ⟨(some 57), (.call 25 [(.tmp 56)]), none⟩, ⟨(some 58), (.call 23 [(.tmp 55), (.tmp 57)]), none⟩, ⟨(some 11), (.assign (.tmp 58)), none⟩]))))))))) (.seq (.ops [⟨(some 100), (.move (.tmp 5)), none⟩, ⟨(some 101), (.call 26 [(.tmp 100)]), none⟩, ⟨(some 99), (.move (.tmp 101)), none⟩, ⟨(some 102), (.extract (.tmp 99) 0), none⟩, ⟨(some 103), (.extract (.tmp 99) 1), none⟩, ⟨(some 16), (.alloc [(.v (.int .i64 0)), (.v (.bool false)), (.v (.string (strB []))), (.v (.string (strB []))), (.sl 0 [] (some true) .exact), (.sl 0 [] (some true) .exact), (.sl 0 [] (some true) .exact), (.sl 0 [] (some true) .exact)]), none⟩, ⟨none, (.store 8 (.tmp 16) (.tmp 102)), none⟩, ⟨(some 17), (.assign (.tmp 103)), none⟩]) (.seq (.draws (.take ⟨(some 104), (.move (.tmp 11)), none⟩ (.take ⟨(some 105), (.un .not (.tmp 104)), none⟩ (.take ⟨(some 106), (.move (.tmp 105)), none⟩ (.take ⟨(some 107), (.move (.tmp 5)), (some (106, false))⟩ (.take ⟨(some 109), (.move (.tmp 7)), (some (106, false))⟩ (.take ⟨(some 110), (.nilCheck (.tmp 109)), (some (106, false))⟩ (.take ⟨(some 111), (.faddr 0 (.tmp 110)), (some (106, false))⟩ (.take ⟨(some 112), (.load1 (.tmp 111)), (some (106, false))⟩ (.only ⟨(some 108), (.call 27 [(.tmp 107)]), (some (106, false))⟩ (.only ⟨(some 113), (.call 20 [(.tmp 108), (.tmp 112)]), (some (106, false))⟩ (.take ⟨(some 114), (.un .not (.tmp 113)), (some (106, false))⟩ (.take ⟨(some 115), (.pick (.tmp 106) (.const (.bool true)) (.tmp 114)), none⟩ (.take ⟨(some 116), (.move (.tmp 115)), none⟩ (.take ⟨(some 117), (.move (.tmp 5)), (some (116, false))⟩ (.take ⟨(some 119), (.move (.tmp 7)), (some (116, false))⟩ (.take ⟨(some 120), (.nilCheck (.tmp 119)), (some (116, false))⟩ (.take ⟨(some 121), (.faddr 0 (.tmp 120)), (some (116, false))⟩ (.take ⟨(some 122), (.load1 (.tmp 121)), (some (116, false))⟩ (.take ⟨(some 123), (.lenL (.tmp 122)), (some (116, false))⟩ (.only ⟨(some 118), (.call 28 [(.tmp 117)]), (some (116, false))⟩ (.take ⟨(some 124), (.bin .neq (.tmp 118) (.tmp 123)), (some (116, false))⟩ (.take ⟨(some 125), (.pick (.tmp 116) (.const (.bool true)) (.tmp 124)), none⟩ (.take ⟨(some 126), (.move (.tmp 125)), none⟩ (.take ⟨(some 127), (.move (.tmp 17)), (some (126, false))⟩ (.take ⟨(some 128), (.move (.tmp 7)), (some (126, false))⟩ (.take ⟨(some 129), (.nilCheck (.tmp 128)), (some (126, false))⟩ (.take ⟨(some 130), (.faddr 0 (.tmp 129)), (some (126, false))⟩ (.take ⟨(some 131), (.load1 (.tmp 130)), (some (126, false))⟩ (.take ⟨(some 132), (.lenL (.tmp 131)), (some (126, false))⟩ (.take ⟨(some 133), (.bin .gtr (.tmp 132) (.const (.int .i64 0))), (some (126, false))⟩ (.take ⟨(some 134), (.beq true (.tmp 127) (.tmp 133)), (some (126, false))⟩ (.take ⟨(some 135), (.pick (.tmp 126) (.const (.bool true)) (.tmp 134)), none⟩ (.take ⟨(some 136), (.move (.tmp 135)), none⟩ (.take ⟨(some 137), (.move (.tmp 17)), (some (136, false))⟩ (.take ⟨(some 138), (.move (.tmp 137)), (some (136, false))⟩ (.take ⟨(some 139), (.loadN 8 (.tmp 16)), (some (138, true))⟩ (.take ⟨(some 140), (.move (.tmp 7)), (some (138, true))⟩ (.take ⟨(some 141), (.nilCheck (.tmp 140)), (some (138, true))⟩ (.take ⟨(some 142), (.faddr 0 (.tmp 141)), (some (138, true))⟩ (.take ⟨(some 143), (.load1 (.tmp 142)), (some (138, true))⟩ (.take ⟨(some 144), (.iaddr 8 (.tmp 143) (.const (.int .i64 0))), (some (138, true))⟩ (.take ⟨(some 145), (.loadN 8 (.tmp 144)), (some (138, true))⟩ (.only ⟨(some 146), (.call 29 [(.tmp 139), (.tmp 145)]), (some (138, true))⟩ (.take ⟨(some 147), (.un .not (.tmp 146)), (some (138, true))⟩ (.take ⟨(some 148), (.pick (.tmp 138) (.tmp 147) (.const (.bool false))), (some (136, false))⟩ (.take ⟨(some 149), (.pick (.tmp 136) (.const (.bool true)) (.tmp 148)), none⟩ .done))))))))))))))))))))))))))))))))))))))))))))))) (.cond (.tmp 149) (.seq (.ops [⟨(some 4), (.assign (.const (.bool false))), none⟩]) .ret) .skip))))))) (.ops [⟨(some 150), (.bin .add (.tmp 48) (.const (.int .i64 1))), none⟩, ⟨(some 48), (.move (.tmp 150)), none⟩]))))))) (.seq (.ops [⟨(some 151), (.call 14 []), none⟩, ⟨(some 4), (.assign (.tmp 151)), none⟩]) .ret))))))), [(.move (.tmp 4))]⟩
theorem k3 : cfun Try.prog 3 = some c3 := by kernel_rfl
def c6 : XFun := ⟨61, (.seq (.ops [⟨(some 1), (.box (.tmp 0)), none⟩, ⟨(some 2), (.assign (.const (.bool false))), none⟩]) (.seq (.ops [⟨(some 3), (.assign (.const (.pointer none))), none⟩]) (.seq (.ops [⟨(some 4), (.alloc [(.sl 0 [] (some true) .exact), (.v (.int .i64 0))]), none⟩]) (.seq (.ops [⟨(some 10), (.move (.tmp 3)), none⟩, ⟨(some 11), (.call 26 [(.tmp 10)]), none⟩, ⟨(some 9), (.move (.tmp 11)), none⟩, ⟨(some 12), (.extract (.tmp 9) 0), none⟩, ⟨(some 13), (.extract (.tmp 9) 1), none⟩, ⟨(some 5), (.alloc [(.v (.int .i64 0)), (.v (.bool false)), (.v (.string (strB []))), (.v (.string (strB []))), (.sl 0 [] (some true) .exact), (.sl 0 [] (some true) .exact), (.sl 0 [] (some true) .exact), (.sl 0 [] (some true) .exact)]), none⟩, ⟨none, (.store 8 (.tmp 5) (.tmp 12)), none⟩, ⟨(some 6), (.assign (.tmp 13)), none⟩]) (.seq (.ops [⟨(some 15), (.call 17 [(.tmp 4)]), none⟩, ⟨(some 14), (.move (.tmp 15)), none⟩, ⟨(some 16), (.extract (.tmp 14) 0), none⟩, ⟨(some 17), (.extract (.tmp 14) 1), none⟩, ⟨(some 7), (.alloc [(.v (.int .i64 0)), (.v (.bool false)), (.v (.string (strB []))), (.v (.string (strB []))), (.sl 0 [] (some true) .exact), (.sl 0 [] (some true) .exact), (.sl 0 [] (some true) .exact), (.sl 0 [] (some true) .exact)]), none⟩, ⟨none, (.store 8 (.tmp 7) (.tmp 16)), none⟩, ⟨(some 8), (.assign (.tmp 17)), none⟩]) (.seq (.ops [⟨(some 18), (.move (.tmp 3)), none⟩, ⟨(some 19), (.loadN 8 (.tmp 1)), none⟩, ⟨(some 20), (.buildSlice 8 1 [(.v (.int .i64 0)), (.v (.bool false)), (.v (.string (strB []))), (.v (.string (strB []))), (.sl 0 [] (some true) .exact), (.sl 0 [] (some true) .exact), (.sl 0 [] (some true) .exact), (.sl 0 [] (some true) .exact)] [(0, (.tmp 19))]), none⟩, ⟨(some 21), (.call 15 [(.tmp 18), (.tmp 20)]), none⟩, ⟨(some 22), (.bin .eql (.tmp 21) (.const (.int .i64 2))), none⟩, ⟨(some 23), (.move (.tmp 22)), none⟩, ⟨(some 24), (.loadN 8 (.tmp 1)), (some (23, true))⟩, ⟨(some 25), (.buildSlice 8 1 [(.v (.int .i64 0)), (.v (.bool false)), (.v (.string (strB []))), (.v (.string (strB []))), (.sl 0 [] (some true) .exact), (.sl 0 [] (some true) .exact), (.sl 0 [] (some true) .exact), (.sl 0 [] (some true) .exact)] [(0, (.tmp 24))]), (some (23, true))⟩, ⟨(some 26), (.call 15 [(.tmp 4), (.tmp 25)]), (some (23, true))⟩, ⟨(some 27), (.bin .eql (.tmp 26) (.const (.int .i64 2))), (some (23, true))⟩, ⟨(some 28), (.pick (.tmp 23) (.tmp 27) (.const (.bool false))), none⟩, ⟨(some 29), (.move (.tmp 28)), none⟩, ⟨(some 30), (.move (.tmp 6)), (some (29, true))⟩, ⟨(some 31), (.un .not (.tmp 30)), (some (29, true))⟩, ⟨(some 32), (.pick (.tmp 29) (.tmp 31) (.const (.bool false))), none⟩, ⟨(some 33), (.move (.tmp 32)), none⟩, ⟨(some 34), (.move (.tmp 8)), (some (33, true))⟩, ⟨(some 35), (.un .not (.tmp 34)), (some (33, true))⟩, ⟨(some 36), (.pick (.tmp 33) (.tmp 35) (.const (.bool false))), none⟩, ⟨(some 37), (.move (.tmp 36)), none⟩, ⟨(some 38), (.move (.tmp 3)), (some (37, true))⟩, ⟨(some 39), (.call 21 [(.tmp 38)]), (some (37, true))⟩, ⟨(some 40), (.lenL (.tmp 39)), (some (37, true))⟩, ⟨(some 41), (.bin .eql (.tmp 40) (.const (.int .i64 0))), (some (37, true))⟩, ⟨(some 42), (.pick (.tmp 37) (.tmp 41) (.const (.bool false))), none⟩, ⟨(some 43), (.move (.tmp 42)), none⟩, ⟨(some 44), (.call 24 [(.tmp 4)]), (some (43, true))⟩, ⟨(some 45), (.lenL (.tmp 44)), (some (43, true))⟩, ⟨(some 46), (.bin .eql (.tmp 45) (.const (.int .i64 0))), (some (43, true))⟩, ⟨(some 47), (.pick (.tmp 43) (.tmp 46) (.const (.bool false))), none⟩, ⟨(some 48), (.move (.tmp 47)), none⟩, ⟨(some 49), (.move (.tmp 3)), (some (48, true))⟩, ⟨(some 50), (.call 28 [(.tmp 49)]), (some (48, true))⟩, ⟨(some 51), (.bin .eql (.tmp 50) (.const (.int .i64 0))), (some (48, true))⟩, ⟨(some 52), (.pick (.tmp 48) (.tmp 51) (.const (.bool false))), none⟩, ⟨(some 53), (.move (.tmp 52)), none⟩, ⟨(some 54), (.call 27 [(.tmp 4)]), (some (53, true))⟩, ⟨(some 55), (.lenL (.tmp 54)), (some (53, true))⟩, ⟨(some 56), (.bin .eql (.tmp 55) (.const (.int .i64 0))), (some (53, true))⟩, ⟨(some 57), (.pick (.tmp 53) (.tmp 56) (.const (.bool false))), none⟩, ⟨(some 58), (.move (.tmp 57)), none⟩, ⟨(some 59), (.call 14 []), (some (58, true))⟩, ⟨(some 60), (.pick (.tmp 58) (.tmp 59) (.const (.bool false))), none⟩, ⟨(some 2), (.assign (.tmp 60)), none⟩]) .ret)))))), [(.move (.tmp 2))]⟩
theorem k6 : cfun Try.prog 6 = some c6 := by kernel_rfl
def c68 : XFun := ⟨8, (.seq (.ops [⟨(some 2), (.assign (.const (.slice none 0 0))), none⟩]) (.seq (.seq (.ops [⟨(some 3), (.move (.tmp 0)), none⟩, ⟨(some 4), (.nileq false (.tmp 3)), none⟩]) (.cond (.tmp 4) (.seq (.ops [⟨(some 2), (.assign (.const (.slice none 0 0))), none⟩]) .ret) .skip)) (.seq (.ops [⟨(some 5), (.emptyS 3), none⟩, ⟨(some 6), (.move (.tmp 0)), none⟩, ⟨(some 7), (.append 3 32 (.tmp 5) (.tmp 6)), none⟩, ⟨(some 2), (.assign (.tmp 7)), none⟩]) .ret))), [(.move (.tmp 2))]⟩
theorem k68 : cfun Try.prog 68 = some c68 := by kernel_rfl
def c69 : XFun := ⟨8, (.seq (.ops [⟨(some 2), (.assign (.const (.slice none 0 0))), none⟩]) (.seq (.seq (.ops [⟨(some 3), (.move (.tmp 0)), none⟩, ⟨(some 4), (.nileq false (.tmp 3)), none⟩]) (.cond (.tmp 4) (.seq (.ops [⟨(some 2), (.assign (.const (.slice none 0 0))), none⟩]) .ret) .skip)) (.seq (.ops [⟨(some 5), (.emptyS 2), none⟩, ⟨(some 6), (.move (.tmp 0)), none⟩, ⟨(some 7), (.append 2 16 (.tmp 5) (.tmp 6)), none⟩, ⟨(some 2), (.assign (.tmp 7)), none⟩]) .ret))), [(.move (.tmp 2))]⟩
theorem k69 : cfun Try.prog 69 = some c69 := by kernel_rfl
end Go.Proofs.Ytpogpofmakcodaa.Ax
namespace Go.Proofs.Ytpogpofmakcodaa.Ax
open Go.RowKit Go By
set_option linter.unusedSimpArgs false
set_option linter.unusedVariables false
set_option maxRecDepth 10000

theorem qcloneTo_c (l : List To) (hl : l.length ≤ 1000000) (h : List (List AV)) : Contract Try.prog 68 [.sl 3 (enc toC l) none .no] h (.sl 3 (enc toC l) none .no) h [] := by
  refine contract_nul (pre := []) (post := []) (fun he => ?_) ?_
  · refine contract_of k68 mixed (by simp [c68]) fun hh hargs => ?_
    simp [c68, hh, he]
    done
  · refine contract_of k68 mixed (by simp [c68]) fun hh hargs => ?_
    simp [c68, hh]
    omega
theorem qcloneOc_c (l : List Oc) (hl : l.length ≤ 1000000) (h : List (List AV)) : Contract Try.prog 69 [.sl 2 (enc ocC l) none .no] h (.sl 2 (enc ocC l) none .no) h [] := by
  refine contract_nul (pre := []) (post := []) (fun he => ?_) ?_
  · refine contract_of k69 mixed (by simp [c69]) fun hh hargs => ?_
    simp [c69, hh, he]
    done
  · refine contract_of k69 mixed (by simp [c69]) fun hh hargs => ?_
    simp [c69, hh]
    omega
theorem qcloneBy_c (l : List UInt8) (hl : l.length ≤ 1000000) (h : List (List AV)) : Contract Try.prog 70 [.sl 1 (bytesE l) none .no] h (.sl 1 (bytesE l) none .no) h [] := by
  refine contract_nul (pre := []) (post := []) (fun he => ?_) ?_
  · refine contract_of k70 mixed (by simp [c70]) fun hh hargs => ?_
    simp [c70, hh, he]
    done
  · refine contract_of k70 mixed (by simp [c70]) fun hh hargs => ?_
    simp [c70, hh]
    refine .inl ?_
    simp [hh]
    omega
theorem qclone_c (e : En) (he : EnFit e) (h : List (List AV)) : Contract Try.prog 50 [.agg (enC e)] h (.agg (enC e)) h [] := by
  obtain ⟨q1, q2, q3, q4⟩ := he
  refine contract_of k50 mixed (by simp [c50]) fun hh hargs => ?_
  simp [c50, enC_mk]
  refine xcall_self (by simp) (qcloneTo_c _ q1 _) ?_
  simp
  refine xcall_self (by simp) (qcloneTo_c _ q2 _) ?_
  simp
  refine xcall_self (by simp) (qcloneOc_c _ q3 _) ?_
  simp
  refine xcall_self (by simp) (qcloneBy_c _ q4 _) ?_
  simp [hh, leqH_take]
  done
/-- Elements of 8 cells, laid one behind the other. -/
theorem lay_mid {α : Type} : ∀ (pre old post new : List α), old.length = new.length → lay (pre ++ old ++ post) pre.length new = pre ++ new ++ post
  | [], old, post, new, h => by
    have key : ∀ (new : List α) (k : Nat) (a b c : List α), a.length = k → b.length = new.length → lay (a ++ b ++ c) k new = a ++ new ++ c := by
      intro new
      induction new with
      | nil => intro k a b c ha hb; have : b = [] := List.eq_nil_of_length_eq_zero hb; subst this; rfl
      | cons x r ih =>
        intro k a b c ha hb
        cases b with
        | nil => cases hb
        | cons y b =>
          have e : (a ++ y :: b ++ c).set k x = (a ++ [x]) ++ b ++ c := by
            rw [List.append_assoc, List.set_append_right _ _ (by omega), ha, Nat.sub_self]; simp
          show lay ((a ++ y :: b ++ c).set k x) (k + 1) r = _
          rw [e, ih (k + 1) (a ++ [x]) b c (by simp [ha]) (by simpa using hb)]
          simp
    exact key new 0 [] old post rfl h
  | x :: pre, old, post, new, h => by
    have ih := lay_mid pre old post new h
    have key : ∀ (new : List α) (l : List α) (k : Nat) (x : α), lay (x :: l) (k + 1) new = x :: lay l k new := by
      intro new
      induction new with
      | nil => intro l k x; rfl
      | cons y r ih => intro l k x; show lay ((x :: l).set (k + 1) y) (k + 2) r = x :: lay (l.set k y) (k + 1) r; rw [← ih]; rfl
    show lay (x :: (pre ++ old ++ post)) (pre.length + 1) new = x :: (pre ++ new ++ post)
    rw [key, ih]
/-- An entry's cells when it is new. -/
def zEn : List AV := [.v (.int .i64 0), .v (.bool false), .v (.string (strB [])), .v (.string (strB [])), .sl 0 [] (some true) .exact, .sl 0 [] (some true) .exact, .sl 0 [] (some true) .exact, .sl 0 [] (some true) .exact]
/-- Entries that are copied: so many are there. -/
def cpE (l : List En) (j : Nat) : List AV := (enc enC (l.take j)).flatten ++ (List.replicate (l.length - j) zEn).flatten
theorem cpE_all (l : List En) : cpE l l.length = (enc enC l).flatten := by unfold cpE; simp
theorem cpE_len (l : List En) (j : Nat) (hj : j ≤ l.length) : (cpE l j).length = l.length * 8 := by
  unfold cpE
  rw [List.length_append, flat_len2 (c := enC) (k := 8) (fun _ => rfl)]
  have : (List.replicate (l.length - j) zEn).flatten.length = (l.length - j) * 8 := by simp [zEn]
  rw [this, List.length_take]; omega
theorem cpE_succ (l : List En) (j : Nat) (hj : j < l.length) : lay (cpE l j) (j * 8) (enC l[j]) = cpE l (j + 1) := by
  unfold cpE
  have e1 : l.length - j = (l.length - (j + 1)) + 1 := by omega
  have e2 : (enc enC (l.take j)).flatten.length = j * 8 := by rw [flat_len2 (c := enC) (k := 8) (fun _ => rfl), List.length_take]; congr 1; omega
  have e3 : enc enC (l.take (j + 1)) = enc enC (l.take j) ++ [enC l[j]] := by rw [List.take_succ_eq_append_getElem hj]; unfold enc; rw [List.map_append]; rfl
  rw [e1, List.replicate_succ, List.flatten_cons, ← List.append_assoc, ← e2, lay_mid _ zEn _ (enC l[j]) rfl, e3, List.flatten_append]
  simp
theorem flat_ltE (n : Nat) (l : List En) : ltL n (enc enC l).flatten := ltL_of fun j c hj => by
  obtain ⟨e, he, hc⟩ := List.mem_flatten.1 (List.mem_of_getElem? hj)
  obtain ⟨s, _, rfl⟩ := List.mem_map.1 he
  obtain ⟨q, hq⟩ := List.getElem?_of_mem hc
  exact ltL_get (enC_lt n s) q c hq
theorem cpE_lt (n : Nat) (l : List En) (j : Nat) : ltL n (cpE l j) := by
  unfold cpE
  refine ltL_append.2 ⟨flat_ltE n _, ltL_of fun p c hp => ?_⟩
  obtain ⟨e, he, hc⟩ := List.mem_flatten.1 (List.mem_of_getElem? hp)
  rw [(List.mem_replicate.1 he).2] at hc
  have : ∀ c ∈ zEn, c.lt n := by intro c hc; simp [zEn] at hc; rcases hc with rfl | rfl | rfl | rfl | rfl | rfl <;> trivial
  exact this c hc
theorem qclones_c (l : List En) (hl : l.length ≤ 1000000) (hf : ∀ e ∈ l, EnFit e) (h : List (List AV)) : Contract Try.prog 42 [.sl 8 (enc enC l) none .no] h (.sl 8 (enc enC l) none .no) h [] := by
  by_cases hne : l = []
  · subst hne
    refine contract_of k42 mixed (by simp [c42]) fun hh hargs => ?_
    simp [c42]
    refine xloop_ok (D := Nat) (fun j => ⟨[(3, .bsl h.length 0 8 0), (10, .v (.int .i64 0)), (11, .v (.int .i64 0))], [], h ++ [[]], []⟩) (fun j => True) (fun j => 0) 0 trivial ?_ ?_
    · simp [Leq, hh, leqH_take]
      done
    · intro j hj
      simp [hh]
      done
  refine contract_cut (XCode.cuts [false, false, true] c42.code) k42 rfl mixed (by simp [c42]) fun hh hargs => ?_
  have hfz : frzOk (enc enC l).flatten := by
    cases l with
    | nil => exact absurd rfl hne
    | cons x r => exact trivial
  have hz := frz_all (c := enC) (k := 8) (fun _ => rfl) l h.length l.length rfl
  have hw0 : (144 : Int) * l.length ≤ 140737488355328 := by omega
  have hw1 : (l.length : Int) ≤ 140737488355328 := by omega
  have hcl := cpE_lt
  have hc0 : (List.replicate l.length zEn).flatten = cpE l 0 := by unfold cpE; simp
  simp [c42, hw0, hw1]
  refine xseq_frz h.length (enc enC l).flatten ⟨[(3, .sl 8 (enc enC l) none .no)], [], h, []⟩ (by exact Nat.le_refl _) hfz ?_ ?_
  · simp
    refine xloop_ok (D := Nat) (fun j => ⟨[(3, .bsl h.length 0 8 l.length), (9, .sl 8 (enc enC l) none .no), (10, .v (.int .i64 l.length)), (11, .v (.int .i64 j))], [], h ++ [cpE l j], []⟩) (fun j => j ≤ l.length) (fun j => l.length - j) 0 (by simp) ?_ ?_
    · unfold zEn at hc0
      simp [Leq, hh, hc0, hcl, leqH_take]
      done
    · intro j hj
      by_cases hlt : j < l.length
      · have hw : IntKind.i64.wrap ((j : Int) + 1) = (j : Int) + 1 := wrap64 (by omega) (by omega)
        have hcpl := cpE_len l j hj
        have hst := cpE_succ l j hlt
        have hj8 : j * 8 + 8 ≤ l.length * 8 := by omega
        simp [hlt]
        refine xcall_self (by simp) (qclone_c _ (hf _ (List.getElem_mem hlt)) _) ?_
        simp [hlt, hcpl, hj8, hst, hw]
        refine ⟨j + 1, by omega, by omega, ?_⟩
        simp [Leq, hh, leqH_take, hcl]
        done
      · have : j = l.length := by omega
        subst this
        have hall := cpE_all l
        simp [Leq, hh, hz, hall, leqH_take]
        done
  · simp [hh]
    done
/-- Entries that lie in a variable, from a place on. -/
def RowsAt (h : List (List AV)) (b off : Nat) (l : List En) : Prop := ∃ pre post, pre.length = off ∧ h[b]? = some (pre ++ (enc enC l).flatten ++ post)
theorem rows_one {l : List En} {pre post : List AV} {j : Nat} (hj : j < l.length) : (List.drop (pre.length + j * 8) (pre ++ (enc enC l).flatten ++ post)).take 8 = enC l[j] := by
  have h1 := flat_one (c := enC) (k := 8) (fun _ => rfl) l j hj
  have h2 := flat_fit (c := enC) (k := 8) (fun _ => rfl) l hj
  rw [List.append_assoc, List.drop_append, List.drop_of_length_le (by omega), List.nil_append, show pre.length + j * 8 - pre.length = j * 8 by omega, List.drop_append_of_le_length (by omega), List.take_append_of_le_length (by rw [List.length_drop]; omega), h1]
theorem rows_fit {l : List En} {pre post : List AV} {j : Nat} (hj : j < l.length) : pre.length + j * 8 + 8 ≤ (pre ++ (enc enC l).flatten ++ post).length := by
  have h2 := flat_fit (c := enC) (k := 8) (fun _ => rfl) l hj
  simp only [List.length_append]; omega
/-- One of them, as it is read. -/
structure Reads8 (cs : List AV) (off : Nat) (l : List En) : Prop where
  one : ∀ (j : Nat) (hj : j < l.length), (cs.drop (off + j * 8)).take 8 = enC l[j]
  fit : ∀ (j : Nat), j < l.length → off + j * 8 + 8 ≤ cs.length
theorem Reads8.at_ {cs : List AV} {off : Nat} {l : List En} (hr : Reads8 cs off l) {j : Nat} (hj : j < l.length) (q : Nat) (hq : q < 8) : cs[off + j * 8 + q]? = (enC l[j])[q]? := by
  rw [← hr.one j hj, List.getElem?_take, if_pos hq, List.getElem?_drop]
theorem RowsAt.reads {h : List (List AV)} {b off : Nat} {l : List En} (hr : RowsAt h b off l) : ∃ cs, h[b]? = some cs ∧ Reads8 cs off l := by
  obtain ⟨pre, post, rfl, hb⟩ := hr
  exact ⟨_, hb, fun j hj => rows_one hj, fun j hj => rows_fit hj⟩
theorem qclonesB_c (l : List En) (hl : l.length ≤ 1000000) (hf : ∀ e ∈ l, EnFit e) {h : List (List AV)} {b off : Nat} (hr : RowsAt h b off l) : Contract Try.prog 42 [.bsl b off 8 l.length] h (.sl 8 (enc enC l) none .no) h [] := by
  obtain ⟨cs, hb, hrd⟩ := hr.reads
  have hbl := heap_lt hb
  have hbg : h[b] = cs := by rw [List.getElem?_eq_getElem hbl] at hb; injection hb
  have hbl2 : b < h.length + 1 := by omega
  by_cases hne : l = []
  · subst hne
    refine contract_of k42 mixed (by simp [c42]) fun hh hargs => ?_
    simp [c42]
    refine xloop_ok (D := Nat) (fun j => ⟨[(3, .bsl h.length 0 8 0), (10, .v (.int .i64 0)), (11, .v (.int .i64 0))], [], h ++ [[]], []⟩) (fun j => True) (fun j => 0) 0 trivial ?_ ?_
    · simp [Leq, hh, leqH_take]
      done
    · intro j hj
      simp [hh]
      done
  refine contract_cut (XCode.cuts [false, false, true] c42.code) k42 rfl mixed (by simp [c42]) fun hh hargs => ?_
  have hfz : frzOk (enc enC l).flatten := by
    cases l with
    | nil => exact absurd rfl hne
    | cons x r => exact trivial
  have hz := frz_all (c := enC) (k := 8) (fun _ => rfl) l h.length l.length rfl
  have hw0 : (144 : Int) * l.length ≤ 140737488355328 := by omega
  have hw1 : (l.length : Int) ≤ 140737488355328 := by omega
  have hcl := cpE_lt
  have hc0 : (List.replicate l.length zEn).flatten = cpE l 0 := by unfold cpE; simp
  simp [c42, hw0, hw1]
  refine xseq_frz h.length (enc enC l).flatten ⟨[(3, .sl 8 (enc enC l) none .no)], [], h, []⟩ (by exact Nat.le_refl _) hfz ?_ ?_
  · simp
    refine xloop_ok (D := Nat) (fun j => ⟨[(3, .bsl h.length 0 8 l.length), (9, .bsl b off 8 l.length), (10, .v (.int .i64 l.length)), (11, .v (.int .i64 j))], [], h ++ [cpE l j], []⟩) (fun j => j ≤ l.length) (fun j => l.length - j) 0 (by simp) ?_ ?_
    · unfold zEn at hc0
      simp [Leq, hh, hc0, hcl, leqH_take, hb, hbl, hbg, hbl2, List.getElem?_append_left hbl]
      done
    · intro j hj
      by_cases hlt : j < l.length
      · have hw : IntKind.i64.wrap ((j : Int) + 1) = (j : Int) + 1 := wrap64 (by omega) (by omega)
        have hcpl := cpE_len l j hj
        have hst := cpE_succ l j hlt
        have hj8 : j * 8 + 8 ≤ l.length * 8 := by omega
        have hone := hrd.one j hlt
        have hfit := hrd.fit j hlt
        simp [hlt, hb, hbl, hbg, hbl2, List.getElem?_append_left hbl, hone, hfit]
        refine xcall_self (by simp) (qclone_c _ (hf _ (List.getElem_mem hlt)) _) ?_
        simp [hlt, hcpl, hj8, hst, hw]
        refine ⟨j + 1, by omega, by omega, ?_⟩
        simp [Leq, hh, leqH_take, hcl, hb, hbl, hbg, hbl2, List.getElem?_append_left hbl]
        done
      · have : j = l.length := by omega
        subst this
        have hall := cpE_all l
        simp [Leq, hh, hz, hall, leqH_take]
        done
  · simp [hh]
    done
end Go.Proofs.Ytpogpofmakcodaa.Ax
