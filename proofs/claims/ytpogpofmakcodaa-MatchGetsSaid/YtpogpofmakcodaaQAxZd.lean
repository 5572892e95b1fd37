/- A server's replies, held against what was to come, over values without memory: the document's Got. -/
import Derived.Test.YtpogpofmakcodaaQAxX
import Derived.Test.YtpogpofmakcodaaRows
import Derived.Test.YtpogpofmakcodaaQAxTz
import Derived.Test.YtpogpofmakcodaaQAxBa
import Derived.Test.YtpogpofmakcodaaQAxZa
/- The texts of functions over values without memory, as the kernel reckons them out of the program. -/
namespace Go.Proofs.Ytpogpofmakcodaa.Ax
open Go.RowKit Go By

def c55 : XFun := ⟨16, (.seq (.ops [⟨(some 4), (.assign (.const (.bool false))), none⟩]) (.seq (.ops [⟨(some 8), (.move (.tmp 0)), none⟩, ⟨(some 9), (.call 71 [(.tmp 8)]), none⟩, ⟨(some 7), (.move (.tmp 9)), none⟩, ⟨(some 10), (.extract (.tmp 7) 0), none⟩, ⟨(some 11), (.extract (.tmp 7) 1), none⟩, ⟨(some 5), (.assign (.tmp 10)), none⟩, ⟨(some 6), (.assign (.tmp 11)), none⟩]) (.seq (.ops [⟨(some 12), (.move (.tmp 5)), none⟩, ⟨(some 13), (.move (.tmp 1)), none⟩, ⟨(some 14), (.call 72 [(.tmp 12), (.tmp 13)]), none⟩, ⟨(some 15), (.bin .geq (.tmp 14) (.const (.int .i64 0))), none⟩, ⟨(some 4), (.assign (.tmp 15)), none⟩]) .ret))), [(.move (.tmp 4))]⟩
theorem k55 : cfun Try.prog 55 = some c55 := by kernel_rfl
def c56 : XFun := ⟨16, (.seq (.ops [⟨(some 4), (.assign (.const (.bool false))), none⟩]) (.seq (.ops [⟨(some 8), (.move (.tmp 0)), none⟩, ⟨(some 9), (.call 71 [(.tmp 8)]), none⟩, ⟨(some 7), (.move (.tmp 9)), none⟩, ⟨(some 10), (.extract (.tmp 7) 0), none⟩, ⟨(some 11), (.extract (.tmp 7) 1), none⟩, ⟨(some 5), (.assign (.tmp 10)), none⟩, ⟨(some 6), (.assign (.tmp 11)), none⟩]) (.seq (.ops [⟨(some 12), (.move (.tmp 6)), none⟩, ⟨(some 13), (.move (.tmp 1)), none⟩, ⟨(some 14), (.call 72 [(.tmp 12), (.tmp 13)]), none⟩, ⟨(some 15), (.bin .geq (.tmp 14) (.const (.int .i64 0))), none⟩, ⟨(some 4), (.assign (.tmp 15)), none⟩]) .ret))), [(.move (.tmp 4))]⟩
theorem k56 : cfun Try.prog 56 = some c56 := by kernel_rfl
def c57 : XFun := ⟨16, (.seq (.ops [⟨(some 4), (.assign (.const (.bool false))), none⟩]) (.seq (.ops [⟨(some 5), (.move (.tmp 1)), none⟩, ⟨(some 6), (.bin .eql (.tmp 5) (.const (.int .u8 69))), none⟩, ⟨(some 7), (.move (.tmp 6)), none⟩, ⟨(some 8), (.move (.tmp 0)), (some (7, true))⟩, ⟨(some 9), (.bin .neq (.tmp 8) (.const (.int .i64 9))), (some (7, true))⟩, ⟨(some 10), (.pick (.tmp 7) (.tmp 9) (.const (.bool false))), none⟩, ⟨(some 11), (.move (.tmp 10)), none⟩, ⟨(some 12), (.move (.tmp 0)), (some (11, true))⟩, ⟨(some 13), (.move (.tmp 1)), (some (11, true))⟩, ⟨(some 14), (.call 55 [(.tmp 12), (.tmp 13)]), (some (11, true))⟩, ⟨(some 15), (.pick (.tmp 11) (.tmp 14) (.const (.bool false))), none⟩, ⟨(some 4), (.assign (.tmp 15)), none⟩]) .ret)), [(.move (.tmp 4))]⟩
theorem k57 : cfun Try.prog 57 = some c57 := by kernel_rfl
def c71 : XFun := ⟨23, (.seq (.ops [⟨(some 2), (.assign (.const (.string (strB [])))), none⟩, ⟨(some 3), (.assign (.const (.string (strB [])))), none⟩]) (.seq (.seq (.ops [⟨(some 4), (.move (.tmp 0)), none⟩]) (.block 0 (.seq (.ops [⟨(some 6), (.bin .eql (.tmp 4) (.const (.int .i64 1))), none⟩, ⟨(some 5), (.assign (.tmp 6)), none⟩]) (.cond (.tmp 5) (.seq (.ops [⟨(some 2), (.assign (.const (.string (strB [82, 75, 90, 69, 78, 83])))), none⟩, ⟨(some 3), (.assign (.const (.string (strB [90])))), none⟩]) .ret) (.seq (.ops [⟨(some 8), (.bin .eql (.tmp 4) (.const (.int .i64 2))), none⟩, ⟨(some 7), (.assign (.tmp 8)), none⟩]) (.cond (.tmp 7) (.seq (.ops [⟨(some 2), (.assign (.const (.string (strB [49, 69, 78, 83])))), none⟩, ⟨(some 3), (.assign (.const (.string (strB [49])))), none⟩]) .ret) (.seq (.ops [⟨(some 10), (.bin .eql (.tmp 4) (.const (.int .i64 3))), none⟩, ⟨(some 9), (.assign (.tmp 10)), none⟩]) (.cond (.tmp 9) (.seq (.ops [⟨(some 2), (.assign (.const (.string (strB [50, 69, 78, 83])))), none⟩, ⟨(some 3), (.assign (.const (.string (strB [50])))), none⟩]) .ret) (.seq (.ops [⟨(some 12), (.bin .eql (.tmp 4) (.const (.int .i64 4))), none⟩, ⟨(some 11), (.assign (.tmp 12)), none⟩]) (.cond (.tmp 11) (.seq (.ops [⟨(some 2), (.assign (.const (.string (strB [116, 84, 110, 69, 78, 83])))), none⟩, ⟨(some 3), (.assign (.const (.string (strB [84, 110])))), none⟩]) .ret) (.seq (.ops [⟨(some 14), (.bin .eql (.tmp 4) (.const (.int .i64 5))), none⟩, ⟨(some 13), (.assign (.tmp 14)), none⟩]) (.cond (.tmp 13) (.seq (.ops [⟨(some 2), (.assign (.const (.string (strB [84, 110, 69, 78, 83])))), none⟩, ⟨(some 3), (.assign (.const (.string (strB [84, 110])))), none⟩]) .ret) (.seq (.ops [⟨(some 16), (.bin .eql (.tmp 4) (.const (.int .i64 6))), none⟩, ⟨(some 15), (.assign (.tmp 16)), none⟩]) (.cond (.tmp 15) (.seq (.ops [⟨(some 2), (.assign (.const (.string (strB [68, 67, 115, 73, 69, 78, 83])))), none⟩, ⟨(some 3), (.assign (.const (.string (strB [67, 115, 73])))), none⟩]) .ret) (.seq (.ops [⟨(some 18), (.bin .eql (.tmp 4) (.const (.int .i64 7))), none⟩, ⟨(some 17), (.assign (.tmp 18)), none⟩]) (.cond (.tmp 17) (.seq (.ops [⟨(some 2), (.assign (.const (.string (strB [51, 69, 78, 83])))), none⟩, ⟨(some 3), (.assign (.const (.string (strB [51])))), none⟩]) .ret) (.seq (.ops [⟨(some 20), (.bin .eql (.tmp 4) (.const (.int .i64 8))), none⟩, ⟨(some 19), (.assign (.tmp 20)), none⟩]) (.cond (.tmp 19) (.seq (.ops [⟨(some 2), (.assign (.const (.string (strB [90, 78, 83])))), none⟩, ⟨(some 3), (.assign (.const (.string (strB [90])))), none⟩]) .ret) (.seq (.ops [⟨(some 22), (.bin .eql (.tmp 4) (.const (.int .i64 9))), none⟩, ⟨(some 21), (.assign (.tmp 22)), none⟩]) (.cond (.tmp 21) (.seq (.ops [⟨(some 2), (.assign (.const (.string (strB [84, 68, 67, 73, 90, 69, 78, 83])))), none⟩, ⟨(some 3), (.assign (.const (.string (strB [90])))), none⟩]) .ret) .skip)))))))))))))))))))) (.seq (.ops [⟨(some 2), (.assign (.const (.string (strB [])))), none⟩, ⟨(some 3), (.assign (.const (.string (strB [])))), none⟩]) .ret))), [(.move (.tmp 2)), (.move (.tmp 3))]⟩
theorem k71 : cfun Try.prog 71 = some c71 := by kernel_rfl
def c72 : XFun := ⟨8, (.seq (.ops [⟨(some 4), (.assign (.const (.int .i64 0))), none⟩]) (.seq (.ops [⟨(some 5), (.move (.tmp 0)), none⟩, ⟨(some 6), (.move (.tmp 1)), none⟩, ⟨(some 7), (.call 76 [(.tmp 5), (.tmp 6)]), none⟩, ⟨(some 4), (.assign (.tmp 7)), none⟩]) .ret)), [(.move (.tmp 4))]⟩
theorem k72 : cfun Try.prog 72 = some c72 := by kernel_rfl
def c67 : XFun := ⟨17, (.seq (.ops [⟨(some 4), (.assign (.const (.bool false))), none⟩]) (.seq (.seq (.ops [⟨(some 5), (.assign (.const (.int .i64 0))), none⟩]) (.block 0 (.loop (.seq (.seq (.ops [⟨(some 6), (.move (.tmp 5)), none⟩, ⟨(some 7), (.move (.tmp 0)), none⟩, ⟨(some 8), (.lenS (.tmp 7)), none⟩, ⟨(some 9), (.bin .lss (.tmp 6) (.tmp 8)), none⟩]) (.cond (.tmp 9) .skip (.exit 0))) (.seq (.block 1 (.seq (.ops [⟨(some 12), (.move (.tmp 0)), none⟩, ⟨(some 13), (.move (.tmp 5)), none⟩, ⟨(some 14), (.idxS (.tmp 12) (.tmp 13)), none⟩, ⟨(some 15), (.move (.tmp 1)), none⟩, ⟨(some 16), (.bin .eql (.tmp 14) (.tmp 15)), none⟩]) (.cond (.tmp 16) (.seq (.ops [⟨(some 4), (.assign (.const (.bool true))), none⟩]) .ret) .skip))) (.ops [⟨(some 10), (.move (.tmp 5)), none⟩, ⟨(some 11), (.bin .add (.tmp 10) (.const (.int .i64 1))), none⟩, ⟨(some 5), (.assign (.tmp 11)), none⟩])))))) (.seq (.ops [⟨(some 4), (.assign (.const (.bool false))), none⟩]) .ret))), [(.move (.tmp 4))]⟩
theorem k67 : cfun Try.prog 67 = some c67 := by kernel_rfl
def c66 : XFun := ⟨23, (.seq (.ops [⟨(some 2), (.assign (.const (.string (strB [])))), none⟩, ⟨(some 3), (.assign (.const (.string (strB [])))), none⟩]) (.seq (.seq (.ops [⟨(some 4), (.move (.tmp 0)), none⟩]) (.block 0 (.seq (.ops [⟨(some 6), (.bin .eql (.tmp 4) (.const (.int .i64 1))), none⟩, ⟨(some 5), (.assign (.tmp 6)), none⟩]) (.cond (.tmp 5) (.seq (.ops [⟨(some 2), (.assign (.const (.string (strB [82, 83, 75, 90])))), none⟩, ⟨(some 3), (.assign (.const (.string (strB [90])))), none⟩]) .ret) (.seq (.ops [⟨(some 8), (.bin .eql (.tmp 4) (.const (.int .i64 2))), none⟩, ⟨(some 7), (.assign (.tmp 8)), none⟩]) (.cond (.tmp 7) (.seq (.ops [⟨(some 2), (.assign (.const (.string (strB [49])))), none⟩, ⟨(some 3), (.assign (.const (.string (strB [49])))), none⟩]) .ret) (.seq (.ops [⟨(some 10), (.bin .eql (.tmp 4) (.const (.int .i64 3))), none⟩, ⟨(some 9), (.assign (.tmp 10)), none⟩]) (.cond (.tmp 9) (.seq (.ops [⟨(some 2), (.assign (.const (.string (strB [50])))), none⟩, ⟨(some 3), (.assign (.const (.string (strB [50])))), none⟩]) .ret) (.seq (.ops [⟨(some 12), (.bin .eql (.tmp 4) (.const (.int .i64 4))), none⟩, ⟨(some 11), (.assign (.tmp 12)), none⟩]) (.cond (.tmp 11) (.seq (.ops [⟨(some 2), (.assign (.const (.string (strB [116, 84, 110])))), none⟩, ⟨(some 3), (.assign (.const (.string (strB [84, 110])))), none⟩]) .ret) (.seq (.ops [⟨(some 14), (.bin .eql (.tmp 4) (.const (.int .i64 5))), none⟩, ⟨(some 13), (.assign (.tmp 14)), none⟩]) (.cond (.tmp 13) (.seq (.ops [⟨(some 2), (.assign (.const (.string (strB [84, 110])))), none⟩, ⟨(some 3), (.assign (.const (.string (strB [84, 110])))), none⟩]) .ret) (.seq (.ops [⟨(some 16), (.bin .eql (.tmp 4) (.const (.int .i64 6))), none⟩, ⟨(some 15), (.assign (.tmp 16)), none⟩]) (.cond (.tmp 15) (.seq (.ops [⟨(some 2), (.assign (.const (.string (strB [68, 67, 115, 73])))), none⟩, ⟨(some 3), (.assign (.const (.string (strB [67, 115, 73])))), none⟩]) .ret) (.seq (.ops [⟨(some 18), (.bin .eql (.tmp 4) (.const (.int .i64 7))), none⟩, ⟨(some 17), (.assign (.tmp 18)), none⟩]) (.cond (.tmp 17) (.seq (.ops [⟨(some 2), (.assign (.const (.string (strB [51])))), none⟩, ⟨(some 3), (.assign (.const (.string (strB [51])))), none⟩]) .ret) (.seq (.ops [⟨(some 20), (.bin .eql (.tmp 4) (.const (.int .i64 8))), none⟩, ⟨(some 19), (.assign (.tmp 20)), none⟩]) (.cond (.tmp 19) (.seq (.ops [⟨(some 2), (.assign (.const (.string (strB [90])))), none⟩, ⟨(some 3), (.assign (.const (.string (strB [90])))), none⟩]) .ret) (.seq (.ops [⟨(some 22), (.bin .eql (.tmp 4) (.const (.int .i64 9))), none⟩, ⟨(some 21), (.assign (.tmp 22)), none⟩]) (.cond (.tmp 21) (.seq (.ops [⟨(some 2), (.assign (.const (.string (strB [84, 68, 67, 73, 90])))), none⟩, ⟨(some 3), (.assign (.const (.string (strB [90])))), none⟩]) .ret) .skip)))))))))))))))))))) (.seq (.ops [⟨(some 2), (.assign (.const (.string (strB [])))), none⟩, ⟨(some 3), (.assign (.const (.string (strB [])))), none⟩]) .ret))), [(.move (.tmp 2)), (.move (.tmp 3))]⟩
theorem k66 : cfun Try.prog 66 = some c66 := by kernel_rfl
def c41 : XFun := ⟨33, (.seq (.ops [⟨(some 4), (.assign (.const (.bool false))), none⟩]) (.seq (.ops [⟨(some 8), (.move (.tmp 0)), none⟩, ⟨(some 9), (.call 66 [(.tmp 8)]), none⟩, ⟨(some 7), (.move (.tmp 9)), none⟩, ⟨(some 10), (.extract (.tmp 7) 0), none⟩, ⟨(some 11), (.extract (.tmp 7) 1), none⟩, ⟨(some 5), (.assign (.tmp 10)), none⟩, ⟨(some 6), (.assign (.tmp 11)), none⟩]) (.seq (.seq (.ops [⟨(some 12), (.move (.tmp 5)), none⟩, ⟨(some 13), (.bin .eql (.tmp 12) (.const (.string (strB [])))), none⟩]) (.cond (.tmp 13) (.seq (.ops [⟨(some 4), (.assign (.const (.bool false))), none⟩]) .ret) .skip)) (.seq (.ops [⟨(some 14), (.move (.tmp 5)), none⟩, ⟨(some 15), (.move (.tmp 1)), none⟩, ⟨(some 16), (.call 67 [(.tmp 14), (.tmp 15)]), none⟩, ⟨(some 17), (.move (.tmp 16)), none⟩, ⟨(some 18), (.move (.tmp 1)), (some (17, false))⟩, ⟨(some 19), (.bin .eql (.tmp 18) (.const (.int .u8 78))), (some (17, false))⟩, ⟨(some 20), (.pick (.tmp 17) (.const (.bool true)) (.tmp 19)), none⟩, ⟨(some 21), (.move (.tmp 20)), none⟩, ⟨(some 22), (.move (.tmp 1)), (some (21, false))⟩, ⟨(some 23), (.bin .eql (.tmp 22) (.const (.int .u8 83))), (some (21, false))⟩, ⟨(some 24), (.pick (.tmp 21) (.const (.bool true)) (.tmp 23)), none⟩, ⟨(some 25), (.move (.tmp 24)), none⟩, ⟨(some 26), (.move (.tmp 1)), (some (25, false))⟩, ⟨(some 27), (.bin .eql (.tmp 26) (.const (.int .u8 69))), (some (25, false))⟩, ⟨(some 28), (.move (.tmp 27)), (some (25, false))⟩, ⟨(some 29), (.move (.tmp 0)), (some (28, true))⟩, ⟨(some 30), (.bin .neq (.tmp 29) (.const (.int .i64 8))), (some (28, true))⟩, ⟨(some 31), (.pick (.tmp 28) (.tmp 30) (.const (.bool false))), (some (25, false))⟩, ⟨(some 32), (.pick (.tmp 25) (.const (.bool true)) (.tmp 31)), none⟩, ⟨(some 4), (.assign (.tmp 32)), none⟩]) .ret)))), [(.move (.tmp 4))]⟩
theorem k41 : cfun Try.prog 41 = some c41 := by kernel_rfl
def c59 : XFun := ⟨15, (.seq (.ops [⟨(some 4), (.assign (.const (.bool false))), none⟩]) (.seq (.ops [⟨(some 8), (.move (.tmp 0)), none⟩, ⟨(some 9), (.call 66 [(.tmp 8)]), none⟩, ⟨(some 7), (.move (.tmp 9)), none⟩, ⟨(some 10), (.extract (.tmp 7) 0), none⟩, ⟨(some 11), (.extract (.tmp 7) 1), none⟩, ⟨(some 5), (.assign (.tmp 10)), none⟩, ⟨(some 6), (.assign (.tmp 11)), none⟩]) (.seq (.ops [⟨(some 12), (.move (.tmp 6)), none⟩, ⟨(some 13), (.move (.tmp 1)), none⟩, ⟨(some 14), (.call 67 [(.tmp 12), (.tmp 13)]), none⟩, ⟨(some 4), (.assign (.tmp 14)), none⟩]) .ret))), [(.move (.tmp 4))]⟩
theorem k59 : cfun Try.prog 59 = some c59 := by kernel_rfl
def c39 : XFun := ⟨16, (.seq (.ops [⟨(some 4), (.assign (.const (.bool false))), none⟩]) (.seq (.ops [⟨(some 5), (.move (.tmp 1)), none⟩, ⟨(some 6), (.bin .eql (.tmp 5) (.const (.int .u8 69))), none⟩, ⟨(some 7), (.move (.tmp 6)), none⟩, ⟨(some 8), (.move (.tmp 0)), (some (7, true))⟩, ⟨(some 9), (.move (.tmp 1)), (some (7, true))⟩, ⟨(some 10), (.call 41 [(.tmp 8), (.tmp 9)]), (some (7, true))⟩, ⟨(some 11), (.pick (.tmp 7) (.tmp 10) (.const (.bool false))), none⟩, ⟨(some 12), (.move (.tmp 11)), none⟩, ⟨(some 13), (.move (.tmp 0)), (some (12, true))⟩, ⟨(some 14), (.bin .neq (.tmp 13) (.const (.int .i64 9))), (some (12, true))⟩, ⟨(some 15), (.pick (.tmp 12) (.tmp 14) (.const (.bool false))), none⟩, ⟨(some 4), (.assign (.tmp 15)), none⟩]) .ret)), [(.move (.tmp 4))]⟩
theorem k39 : cfun Try.prog 39 = some c39 := by kernel_rfl
end Go.Proofs.Ytpogpofmakcodaa.Ax
/- Which replies an entry takes, over values without memory: entry, the document's answer, and the statements of layer 20. -/
namespace Go.Proofs.Ytpogpofmakcodaa.Ax
set_option maxRecDepth 100000
open Go.RowKit Go By
set_option linter.unusedSimpArgs false
set_option linter.unusedVariables false
set_option maxRecDepth 10000

/-! ### A byte in a text -/
/-- Has the text the byte? -/
def inB (s : List UInt8) (b : Int) : Bool := decide (0 ≤ Lib.indexByte s b.toNat.toUInt8)
theorem indexByte_has (s : List UInt8) (c : UInt8) : decide (0 ≤ Lib.indexByte s c) = s.contains c := by
  induction s with
  | nil => rfl
  | cons x t ih =>
    have hge := Lib.indexByte_ge t c
    unfold Lib.indexByte
    rw [List.contains_cons, ← ih]
    by_cases hb : x = c
    · subst hb; simp
    · have h1 : (x == c) = false := by simpa using hb
      have h2 : (c == x) = false := by simpa using fun e : c = x => hb e.symm
      rw [h1, h2]
      by_cases h3 : Lib.indexByte t c = -1
      · simp [h3]
      · have h4 : (Lib.indexByte t c == -1) = false := by simpa using h3
        simp [h4]; omega
theorem inB_has (s : List UInt8) (b : Int) : inB s b = s.contains b.toNat.toUInt8 := indexByte_has s _
theorem sindexByte_any (s : ByteArray) (b : Int) (w : World) :
    Calls Try.prog 76 #[.string s, .int .u8 b] w fun e w' => e = .returned (.int .i64 (Lib.indexByte s.data.toList b.toNat.toUInt8)) ∧ w = w' := by
  go_enter Try.func76, Try.ntmps76
  go_wp2
  rw [run_callFunc_extern Try.func77 (by kernel_rfl) (by kernel_rfl) (by kernel_rfl) (e := Extern.BytealgIndexByte.indexByte) (by kernel_rfl), Lib.run_indexByteString]
  simp only [Result.andThen]
  rw [Oper.upon_value]
  go_wp2
  go_ret
  exact ⟨rfl, rfl⟩
theorem sindexByte_c (s : List UInt8) (b : Int) (h : List (List AV)) : Contract Try.prog 76 [.v (.string (strB s)), .v (.int .u8 b)] h (.v (.int .i64 (Lib.indexByte s b.toNat.toUInt8))) h [] :=
  plain_quiet (l := [.string (strB s), .int .u8 b]) (by kernel_rfl) h fun w => by have := sindexByte_any (strB s) b w; rwa [strB_data] at this
theorem indexByteS_c (s : List UInt8) (b : Int) (h : List (List AV)) : Contract Try.prog 72 [.v (.string (strB s)), .v (.int .u8 b)] h (.v (.int .i64 (Lib.indexByte s b.toNat.toUInt8))) h [] := by
  refine contract_of k72 mixed (by simp [c72]) fun hh hargs => ?_
  simp [c72]
  refine xcall_self (by simp) (sindexByte_c s b _) ?_
  simp [hh]
theorem byte_eq {x : UInt8} {b : Int} (h0 : 0 ≤ b) (h1 : b < 256) : ((x.toNat : Int) = b) ↔ x = b.toNat.toUInt8 := by
  constructor
  · intro e; subst e; simp
  · intro e; subst e
    have : b.toNat < 256 := by omega
    rw [show b.toNat.toUInt8.toNat = b.toNat from by simp [Nat.toUInt8]; omega]
    omega
theorem rin_c (s : List UInt8) (hs : s.length ≤ 1000) (b : Int) (h0 : 0 ≤ b) (h1 : b < 256) (h : List (List AV)) : Contract Try.prog 67 [.v (.string (strB s)), .v (.int .u8 b)] h (.v (.bool (inB s b))) h [] := by
  refine contract_of k67 mixed (by simp [c67]) fun hh hargs => ?_
  rw [inB_has]
  simp [c67]
  refine xloop_ok (D := Nat) (fun j => ⟨[(0, .v (.string (strB s))), (1, .v (.int .u8 b)), (5, .v (.int .i64 (j : Int)))], [], h, []⟩) (fun j => j ≤ s.length ∧ ∀ x ∈ s.take j, x ≠ b.toNat.toUInt8) (fun j => s.length - j) 0 (by simp) ?_ ?_
  · simp [Leq, hh, leqH_take]
    done
  · rintro j ⟨hj, hp⟩
    by_cases hlt : j < s.length
    · have hw : IntKind.i64.wrap ((j : Int) + 1) = (j : Int) + 1 := wrap64 (by omega) (by omega)
      have hb := byte_eq (x := s[j]) h0 h1
      by_cases hx : s[j] = b.toNat.toUInt8
      · have hx2 := hb.2 hx
        have hc : UInt8.ofNat b.toNat ∈ s := by show b.toNat.toUInt8 ∈ s; rw [← hx]; exact List.getElem_mem hlt
        simp [hlt, hx2, hh, hc]
        done
      · have hx2 : ¬ ((s[j].toNat : Int) = b) := fun e => hx (hb.1 e)
        simp [hlt, hx2, hh, hw]
        refine ⟨j + 1, ⟨by omega, fun x hx3 => ?_⟩, by omega, ?_⟩
        · rw [List.take_succ_eq_append_getElem hlt] at hx3
          rcases List.mem_append.1 hx3 with h3 | h3
          · exact hp x h3
          · rw [List.mem_singleton.1 h3]; exact hx
        · simp [Leq, hh, leqH_take]
          done
    · have : j = s.length := by omega
      subst this
      have hc : ¬ UInt8.ofNat b.toNat ∈ s := fun hm => hp _ (by rw [List.take_length]; exact hm) rfl
      simp [hh, hc]
      done

/-! ### Kinds and replies -/
/-- What a kind of entry takes. -/
def repT (k : Int) : List UInt8 :=
  if k = 1 then [82, 75, 90, 69, 78, 83] else if k = 2 then [49, 69, 78, 83] else if k = 3 then [50, 69, 78, 83] else if k = 4 then [116, 84, 110, 69, 78, 83] else if k = 5 then [84, 110, 69, 78, 83] else if k = 6 then [68, 67, 115, 73, 69, 78, 83] else if k = 7 then [51, 69, 78, 83] else if k = 8 then [90, 78, 83] else if k = 9 then [84, 68, 67, 73, 90, 69, 78, 83] else []
/-- What ends it. -/
def repE (k : Int) : List UInt8 :=
  if k = 1 then [90] else if k = 2 then [49] else if k = 3 then [50] else if k = 4 then [84, 110] else if k = 5 then [84, 110] else if k = 6 then [67, 115, 73] else if k = 7 then [51] else if k = 8 then [90] else if k = 9 then [90] else []
/-- What it takes of its own. -/
def repR (k : Int) : List UInt8 :=
  if k = 1 then [82, 83, 75, 90] else if k = 2 then [49] else if k = 3 then [50] else if k = 4 then [116, 84, 110] else if k = 5 then [84, 110] else if k = 6 then [68, 67, 115, 73] else if k = 7 then [51] else if k = 8 then [90] else if k = 9 then [84, 68, 67, 73, 90] else []
theorem replies_c (k : Int) (h : List (List AV)) : Contract Try.prog 71 [.v (.int .i64 k)] h (.tup [.v (.string (strB (repT k))), .v (.string (strB (repE k)))]) h [] := by
  refine contract_of k71 mixed (by simp [c71]) fun hh hargs => ?_
  by_cases q1 : k = 1
  · subst q1; simp [c71, repT, repE, hh]
  by_cases q2 : k = 2
  · subst q2; simp [c71, repT, repE, hh]
  by_cases q3 : k = 3
  · subst q3; simp [c71, repT, repE, hh]
  by_cases q4 : k = 4
  · subst q4; simp [c71, repT, repE, hh]
  by_cases q5 : k = 5
  · subst q5; simp [c71, repT, repE, hh]
  by_cases q6 : k = 6
  · subst q6; simp [c71, repT, repE, hh]
  by_cases q7 : k = 7
  · subst q7; simp [c71, repT, repE, hh]
  by_cases q8 : k = 8
  · subst q8; simp [c71, repT, repE, hh]
  by_cases q9 : k = 9
  · subst q9; simp [c71, repT, repE, hh]
  simp [c71, repT, repE, hh, q1, q2, q3, q4, q5, q6, q7, q8, q9]
theorem own_c (k : Int) (h : List (List AV)) : Contract Try.prog 66 [.v (.int .i64 k)] h (.tup [.v (.string (strB (repR k))), .v (.string (strB (repE k)))]) h [] := by
  refine contract_of k66 mixed (by simp [c66]) fun hh hargs => ?_
  by_cases q1 : k = 1
  · subst q1; simp [c66, repR, repE, hh]
  by_cases q2 : k = 2
  · subst q2; simp [c66, repR, repE, hh]
  by_cases q3 : k = 3
  · subst q3; simp [c66, repR, repE, hh]
  by_cases q4 : k = 4
  · subst q4; simp [c66, repR, repE, hh]
  by_cases q5 : k = 5
  · subst q5; simp [c66, repR, repE, hh]
  by_cases q6 : k = 6
  · subst q6; simp [c66, repR, repE, hh]
  by_cases q7 : k = 7
  · subst q7; simp [c66, repR, repE, hh]
  by_cases q8 : k = 8
  · subst q8; simp [c66, repR, repE, hh]
  by_cases q9 : k = 9
  · subst q9; simp [c66, repR, repE, hh]
  simp [c66, repR, repE, hh, q1, q2, q3, q4, q5, q6, q7, q8, q9]
theorem repE_len (k : Int) : (repE k).length ≤ 1000 := by
  by_cases q1 : k = 1
  · subst q1; simp [repE]
  by_cases q2 : k = 2
  · subst q2; simp [repE]
  by_cases q3 : k = 3
  · subst q3; simp [repE]
  by_cases q4 : k = 4
  · subst q4; simp [repE]
  by_cases q5 : k = 5
  · subst q5; simp [repE]
  by_cases q6 : k = 6
  · subst q6; simp [repE]
  by_cases q7 : k = 7
  · subst q7; simp [repE]
  by_cases q8 : k = 8
  · subst q8; simp [repE]
  by_cases q9 : k = 9
  · subst q9; simp [repE]
  simp [repE, q1, q2, q3, q4, q5, q6, q7, q8, q9]
theorem repR_len (k : Int) : (repR k).length ≤ 1000 := by
  by_cases q1 : k = 1
  · subst q1; simp [repR]
  by_cases q2 : k = 2
  · subst q2; simp [repR]
  by_cases q3 : k = 3
  · subst q3; simp [repR]
  by_cases q4 : k = 4
  · subst q4; simp [repR]
  by_cases q5 : k = 5
  · subst q5; simp [repR]
  by_cases q6 : k = 6
  · subst q6; simp [repR]
  by_cases q7 : k = 7
  · subst q7; simp [repR]
  by_cases q8 : k = 8
  · subst q8; simp [repR]
  by_cases q9 : k = 9
  · subst q9; simp [repR]
  simp [repR, q1, q2, q3, q4, q5, q6, q7, q8, q9]
def takesB (k b : Int) : Bool := inB (repT k) b
def endsB (k b : Int) : Bool := inB (repE k) b
def failsB (k b : Int) : Bool := decide (b = 69) && (decide (k ≠ 9) && takesB k b)
def rtakesB (k b : Int) : Bool := !(repR k == []) && (inB (repR k) b || (decide (b = 78) || (decide (b = 83) || (decide (b = 69) && decide (k ≠ 8)))))
theorem takes_fin (k : Int) : ∀ n : Fin 256, takesB k (n.val : Int) = rtakesB k (n.val : Int) := by
  by_cases q1 : k = 1
  · subst q1; unfold takesB rtakesB; simp only [inB_has]; decide +kernel
  by_cases q2 : k = 2
  · subst q2; unfold takesB rtakesB; simp only [inB_has]; decide +kernel
  by_cases q3 : k = 3
  · subst q3; unfold takesB rtakesB; simp only [inB_has]; decide +kernel
  by_cases q4 : k = 4
  · subst q4; unfold takesB rtakesB; simp only [inB_has]; decide +kernel
  by_cases q5 : k = 5
  · subst q5; unfold takesB rtakesB; simp only [inB_has]; decide +kernel
  by_cases q6 : k = 6
  · subst q6; unfold takesB rtakesB; simp only [inB_has]; decide +kernel
  by_cases q7 : k = 7
  · subst q7; unfold takesB rtakesB; simp only [inB_has]; decide +kernel
  by_cases q8 : k = 8
  · subst q8; unfold takesB rtakesB; simp only [inB_has]; decide +kernel
  by_cases q9 : k = 9
  · subst q9; unfold takesB rtakesB; simp only [inB_has]; decide +kernel
  intro n; simp [takesB, rtakesB, repT, repR, inB_has, q1, q2, q3, q4, q5, q6, q7, q8, q9]
theorem takes_eq {k b : Int} (h0 : 0 ≤ b) (h1 : b < 256) : rtakesB k b = takesB k b := by
  have := takes_fin k ⟨b.toNat, by omega⟩
  have e : ((b.toNat : Nat) : Int) = b := by omega
  simp only [e] at this
  exact this.symm
theorem takes_c (k b : Int) (h : List (List AV)) : Contract Try.prog 55 [.v (.int .i64 k), .v (.int .u8 b)] h (.v (.bool (takesB k b))) h [] := by
  refine contract_of k55 mixed (by simp [c55]) fun hh hargs => ?_
  simp [c55]
  refine xcall_self (by simp) (replies_c k _) ?_
  simp
  refine xcall_self (by simp) (indexByteS_c (repT k) b _) ?_
  simp [hh, takesB, inB]
theorem ends_c (k b : Int) (h : List (List AV)) : Contract Try.prog 56 [.v (.int .i64 k), .v (.int .u8 b)] h (.v (.bool (endsB k b))) h [] := by
  refine contract_of k56 mixed (by simp [c56]) fun hh hargs => ?_
  simp [c56]
  refine xcall_self (by simp) (replies_c k _) ?_
  simp
  refine xcall_self (by simp) (indexByteS_c (repE k) b _) ?_
  simp [hh, endsB, inB]
theorem fails_c (k b : Int) (h : List (List AV)) : Contract Try.prog 57 [.v (.int .i64 k), .v (.int .u8 b)] h (.v (.bool (failsB k b))) h [] := by
  refine contract_of k57 mixed (by simp [c57]) fun hh hargs => ?_
  by_cases h1 : b = 69
  · subst h1
    by_cases h2 : k = 9
    · subst h2
      simp [c57, failsB, hh]
    · simp [c57, failsB, h2]
      refine xcall_self (by simp) (takes_c k 69 _) ?_
      simp [hh, h2]
  · have e1 : (b == 69) = false := by simpa using h1
    simp [c57, failsB, h1, e1, hh]
theorem rtakes_c (k b : Int) (h0 : 0 ≤ b) (h1 : b < 256) (h : List (List AV)) : Contract Try.prog 41 [.v (.int .i64 k), .v (.int .u8 b)] h (.v (.bool (takesB k b))) h [] := by
  refine contract_of k41 mixed (by simp [c41]) fun hh hargs => ?_
  rw [← takes_eq h0 h1]
  simp [c41]
  refine xcall_self (by simp) (own_c k _) ?_
  by_cases hr : repR k = []
  · simp [hr, hh, rtakesB]
  · have hr1 : (repR k == []) = false := by simpa using hr
    simp [hr, hr1]
    refine xcall_self (by simp) (rin_c (repR k) (repR_len k) b h0 h1 _) ?_
    cases hi : inB (repR k) b with
    | true => simp [hh, rtakesB, hi, hr1]
    | false =>
      by_cases q1 : b = 78
      · subst q1; simp [hh, rtakesB, hi, hr1]
      by_cases q2 : b = 83
      · subst q2; simp [hh, rtakesB, hi, hr1]
      by_cases q3 : b = 69
      · subst q3
        by_cases q4 : k = 8
        · subst q4; simp [hh, rtakesB, hi, hr1]
        · have e4 : (k != 8) = true := by simpa using q4
          simp [hh, rtakesB, hi, hr1, q4, e4]
      · have e1 : (b == 78) = false := by simpa using q1
        have e2 : (b == 83) = false := by simpa using q2
        have e3 : (b == 69) = false := by simpa using q3
        simp [hh, rtakesB, hi, hr1, q1, q2, q3, e1, e2, e3]
theorem rends_c (k b : Int) (h0 : 0 ≤ b) (h1 : b < 256) (h : List (List AV)) : Contract Try.prog 59 [.v (.int .i64 k), .v (.int .u8 b)] h (.v (.bool (endsB k b))) h [] := by
  refine contract_of k59 mixed (by simp [c59]) fun hh hargs => ?_
  simp [c59]
  refine xcall_self (by simp) (own_c k _) ?_
  simp
  refine xcall_self (by simp) (rin_c (repE k) (repE_len k) b h0 h1 _) ?_
  simp [hh, endsB]
theorem rfails_c (k b : Int) (h0 : 0 ≤ b) (h1 : b < 256) (h : List (List AV)) : Contract Try.prog 39 [.v (.int .i64 k), .v (.int .u8 b)] h (.v (.bool (failsB k b))) h [] := by
  refine contract_of k39 mixed (by simp [c39]) fun hh hargs => ?_
  by_cases h2 : b = 69
  · subst h2
    simp [c39, failsB]
    refine xcall_self (by simp) (rtakes_c k 69 (by omega) (by omega) _) ?_
    by_cases h3 : k = 9
    · subst h3
      cases ht : takesB 9 69 <;> simp [hh]
    · have e3 : (k != 9) = true := by simpa using h3
      cases ht : takesB k 69 <;> simp [hh, h3, e3]
  · have e2 : (b == 69) = false := by simpa using h2
    simp [c39, failsB, h2, e2, hh]
/-! ### The statements -/
end Go.Proofs.Ytpogpofmakcodaa.Ax
/- A server's replies, held against what was to come, over values without memory: what becomes of a reply; the program. -/
namespace Go.Proofs.Ytpogpofmakcodaa.Ax
open Go.RowKit Go By
set_option linter.unusedSimpArgs false
set_option linter.unusedVariables false
set_option maxRecDepth 10000

/-- What becomes of a reply. -/
structure Rs where
  show_ : Bool
  name : En
  ended : List En
  failed : List En
  dropped : List En
  ready : Int
  deriving DecidableEq
def resC (s : Bool) (n : En) (v1 v2 v3 : AV) (r : Int) : List AV := [.v (.bool s), .v (.int .i64 n.kind), .v (.bool n.hide), .v (.string (strB n.from_)), .v (.string (strB n.to)), .sl 3 (enc toC n.good) none .no, .sl 3 (enc toC n.bad) none .no, .sl 2 (enc ocC n.cache) none .no, .sl 1 (bytesE n.reply) none .no, v1, v2, v3, .v (.int .u8 r)]
theorem lay_name (a b1 b2 b3 b4 b5 b6 b7 b8 c1 c2 c3 r : AV) (e : En) : lay [a, b1, b2, b3, b4, b5, b6, b7, b8, c1, c2, c3, r] 1 (enC e) = [a, .v (.int .i64 e.kind), .v (.bool e.hide), .v (.string (strB e.from_)), .v (.string (strB e.to)), .sl 3 (enc toC e.good) none .no, .sl 3 (enc toC e.bad) none .no, .sl 2 (enc ocC e.cache) none .no, .sl 1 (bytesE e.reply) none .no, c1, c2, c3, r] := rfl
def zRs : Rs := ⟨false, zE, [], [], [], 0⟩
def sw (l : List En) (e : En) (k : Int) : Bool := e.hide && (decide (0 < skN l) && (!(l.headD zE).hide && failsB (l.headD zE).kind k))
/-- A reply's kind and status, held against entries: the error, the result, what is left. -/
def gotR (L : List En) (k st : Int) : Int × Rs × List En :=
  match L with
  | [] => (10, zRs, [])
  | e :: l =>
    if takesB e.kind k = false then (10, zRs, e :: l) else
    if endsB e.kind k = true then (0, ⟨!e.hide, e, e :: l.take (flN l), [], [], if k = 90 then st else 0⟩, l.drop (flN l)) else
    if failsB e.kind k = true then
      (0, ⟨if sw l e k = true then true else !e.hide, if sw l e k = true then l.headD zE else e, (l.drop (skN l)).take (flN (l.drop (skN l))), [e], l.take (skN l), if k = 90 then st else 0⟩, (l.drop (skN l)).drop (flN (l.drop (skN l))))
    else (0, ⟨!e.hide, e, [], [], [], if k = 90 then st else 0⟩, e :: l)
section
variable {h : List (List AV)} {i most : Nat} {o : Option (Nat × Nat)} {L : List En}
/-- What a skip answers. -/
def skV (o : Option (Nat × Nat)) (L : List En) : AV :=
  match L, o with
  | [], _ => .sl 0 [] (some true) .exact
  | _ :: _, none => .sl 0 [] (some true) .exact
  | _ :: _, some p => .bsl p.1 p.2 8 (skN L)
def skW (i : Nat) : List En → List Nat
  | [] => []
  | _ :: _ => [i]
theorem qskip_u (ht : QAt h i o most L) (hl : L.length ≤ 1000000) : Contract Try.prog 21 [.box i 0] h (skV o L) (qH h i o (skN L) L.length most) (skW i L) := by
  cases L with
  | nil =>
    have hz : qH h i o (skN []) ([] : List En).length most = h := qH_zero ht
    rw [hz]
    cases o <;> exact qskip_no ht
  | cons x l =>
    obtain ⟨p, rfl⟩ := ht.some_of (by simp)
    exact qskip_c ht hl rfl (by simp)
theorem qskip_eat (ht : QAt h i o most L) : EAt (qH h i o (skN L) L.length most) (skV o L) (L.take (skN L)) := by
  cases L with
  | nil => cases o <;> exact .inr (.inl ⟨by simp, rfl⟩)
  | cons x l =>
    obtain ⟨p, rfl⟩ := ht.some_of (by simp)
    have hle := skN_le (x :: l)
    have hb := (ht.row p rfl).1
    have hg := qH_get (h := h) (i := i) (o := some p) (n := skN (x :: l)) (len := (x :: l).length) (most := most) hb
    have hrow := ((ht.rows rfl).take (skN (x :: l))).stay hg
    have htl : ((x :: l).take (skN (x :: l))).length = skN (x :: l) := by rw [List.length_take]; omega
    exact .inr (.inr ⟨p.1, p.2, by rw [htl]; rfl, hrow⟩)
theorem skV_blk {b off n : Nat} (h : skV o L = .bsl b off 8 n) : ∃ p, o = some p ∧ b = p.1 := by
  cases L with
  | nil => cases o <;> cases h
  | cons x l =>
    cases o with
    | none => cases h
    | some p => simp [skV] at h; exact ⟨p, rfl, h.1.symm⟩
/-- What failed. -/
theorem mfail_c {e : En} (ht : QAt h i o most (e :: L)) (hl : L.length ≤ 1000000) (hf : ∀ x ∈ L, EnFit x) {j : Nat} (hji : j ≠ i) (hjo : ∀ p, o = some p → j ≠ p.1) (rd : Int)
    (hr : h[j]? = some (resC (!e.hide) e (.sl 0 [] (some true) .exact) (.sl 0 [] (some true) .exact) (.sl 0 [] (some true) .exact) rd)) (k : Int) :
    ∃ h' v, Contract Try.prog 58 [.box j 0, .box i 0, .v (.int .u8 k)] h .any h' [i, j] ∧ QAt h' i (cutO o (1 + skN L)) most (L.drop (skN L)) ∧ EAt h' v (L.take (skN L)) ∧
      h'[j]? = some (resC (if sw L e k = true then true else !e.hide) (if sw L e k = true then L.headD zE else e) (.sl 0 [] (some true) .exact) (.sl 8 [enC e] (some false) .exact) v rd) ∧ h'.length = h.length ∧ (∀ q, q ≠ i → q ≠ j → h'[q]? = h[q]?) ∧ v = skV (cutO o 1) L := by
  have hil := ht.il
  have hjl := (List.getElem?_eq_some_iff.1 hr).1
  have hpop := mpop_c ht
  have q0 := qH_cut ht 1 (by simp)
  rw [List.drop_succ_cons, List.drop_zero] at q0
  have hl1 := qH_len h i o 1 (e :: L).length most
  have hg1 := fun q (hq : q ≠ i) => qH_get (h := h) (i := i) (o := o) (n := 1) (len := (e :: L).length) (most := most) hq
  generalize qH h i o 1 (e :: L).length most = H1 at *
  have hr1 : H1[j]? = some (resC (!e.hide) e (.sl 0 [] (some true) .exact) (.sl 0 [] (some true) .exact) (.sl 0 [] (some true) .exact) rd) := by rw [hg1 j hji]; exact hr
  obtain ⟨A1, hA1⟩ : ∃ A1, A1 = H1.set j (resC (!e.hide) e (.sl 0 [] (some true) .exact) (.sl 8 [enC e] (some false) .exact) (.sl 0 [] (some true) .exact) rd) := ⟨_, rfl⟩
  have hA1l : A1.length = h.length := by rw [hA1, List.length_set, hl1]
  have hlit : ltL h.length (resC (!e.hide) e (.sl 0 [] (some true) .exact) (.sl 8 [enC e] (some false) .exact) (.sl 0 [] (some true) .exact) rd) := by simp [resC]
  have q1 : QAt A1 i (cutO o 1) most L := q0.move (by rw [hA1, List.getElem?_set_ne hji]) (fun p hp => by
      obtain ⟨p0, h1, h2⟩ := cutO_fst hp
      have := hjo p0 h1
      rw [hA1, List.getElem?_set_ne (by omega)]) (by rw [hA1l, hA1]; have := q0.lt; rw [hl1] at this; exact ltLL_set this hlit)
  obtain ⟨e0, he0⟩ : ∃ e0, e0 = L.headD zE := ⟨_, rfl⟩
  have hhd := qhead_c q1 hf
  rw [← he0] at hhd
  have q2 := q1.app [enC e0] (by simp)
  have hsk := qskip_u q2 hl
  have hev := qskip_eat q1
  have q3 := qH_cut q1 (skN L) (skN_le L)
  have hA2e : qH (A1 ++ [enC e0]) i (cutO o 1) (skN L) L.length most = qH A1 i (cutO o 1) (skN L) L.length most ++ [enC e0] := by unfold qH; rw [List.set_append_left _ _ (by omega)]
  rw [hA2e] at hsk
  rw [cutO_cut] at q3
  have hblk := fun b off n (hv : skV (cutO o 1) L = .bsl b off 8 n) => skV_blk hv
  obtain ⟨v, hv⟩ : ∃ v, v = skV (cutO o 1) L := ⟨_, rfl⟩
  rw [← hv] at hsk hev
  have hA2l := qH_len A1 i (cutO o 1) (skN L) L.length most
  have hA2g := fun q (hq : q ≠ i) => qH_get (h := A1) (i := i) (o := cutO o 1) (n := skN L) (len := L.length) (most := most) hq
  have hrA2 : (qH A1 i (cutO o 1) (skN L) L.length most)[j]? = some (resC (!e.hide) e (.sl 0 [] (some true) .exact) (.sl 8 [enC e] (some false) .exact) (.sl 0 [] (some true) .exact) rd) := by rw [hA2g j hji, hA1, List.getElem?_set_self (by omega)]
  generalize qH A1 i (cutO o 1) (skN L) L.length most = A2 at *
  have i1 := hev.id
  have u1 := hev.unown
  have c1 := hev.cells
  have n1 := hev.len
  have hdl : (L.take (skN L)).length = skN L := by rw [List.length_take]; have := skN_le L; omega
  rw [hdl] at n1
  have hkeep : ∀ X : List AV, ∀ q, q ≠ i → q ≠ j → (A2.set j X)[q]? = h[q]? := fun X q h1 h2 => by rw [List.getElem?_set_ne (Ne.symm h2), hA2g q h1, hA1, List.getElem?_set_ne (Ne.symm h2), hg1 q h1]
  refine ⟨A2.set j (resC (if sw L e k = true then true else !e.hide) (if sw L e k = true then e0 else e) (.sl 0 [] (some true) .exact) (.sl 8 [enC e] (some false) .exact) v rd), v, ?_, ?_, ?_, by rw [← he0]; exact List.getElem?_set_self (by omega), by rw [List.length_set]; omega, hkeep _, hv⟩
  · have hfin : ltLL h.length (A2.set j (resC (if sw L e k = true then true else !e.hide) (if sw L e k = true then e0 else e) (.sl 0 [] (some true) .exact) (.sl 8 [enC e] (some false) .exact) v rd)) := by
      have h1 := q3.lt
      rw [hA2l, hA1l] at h1
      refine ltLL_set h1 ?_
      have := hev.lt (n := h.length) (by omega)
      simp [resC, this]
    have hjl2 : j < A2.length := by omega
    have hA2h : A2.length = h.length := by omega
    have hsw : sw L e k = (e.hide && (decide (0 < skN L) && (!e0.hide && failsB e0.kind k))) := by unfold sw; rw [he0]
    have hr1l := hr1
    have hA1l2 := hA1
    have hrm : ∀ more : List (List AV), (A2 ++ more)[j]? = some (resC (!e.hide) e (.sl 0 [] (some true) .exact) (.sl 8 [enC e] (some false) .exact) (.sl 0 [] (some true) .exact) rd) := fun more => by rw [List.getElem?_append_left hjl2]; exact hrA2
    simp only [resC] at hr1l hA1l2 hrm hfin ⊢
    refine contract_of k58 mixed (by simp [c58]) fun hh hargs => ?_
    simp [c58]
    refine xcall_self (by simp) hpop ?_
    simp [hr1l]
    rw [← hA1l2]
    refine xcall_self (by simp) hhd ?_
    simp
    refine xcall_self (by simp) hsk ?_
    have hset : ∀ (X : List AV) (more : List (List AV)), (A2.set j X ++ more)[j]? = some X := fun X more => by rw [List.getElem?_append_left (by rw [List.length_set]; exact hjl2), List.getElem?_set_self hjl2]
    have hbx : ∀ (X : List AV), (A2.set j X ++ [enC e0])[A1.length]? = some (enC e0) := fun X => by rw [List.getElem?_append_right (by rw [List.length_set]; omega), List.length_set, hA2l, Nat.sub_self]; rfl
    have hwq : ∀ a, a ∈ skW i L → a = i := fun a ha => by cases L with | nil => cases ha | cons x l => simpa [skW] using ha
    have hwf : ∀ (a : Nat), a ∈ skW i L ∨ a = A1.length ∨ a = j ∨ a = i → a < h.length → a = i ∨ a = j := fun a h1 h2 => by
      rcases h1 with h1 | h1 | h1 | h1
      · exact .inl (hwq a h1)
      · omega
      · exact .inr h1
      · exact .inl h1
    have hlast : ∀ (X : List AV), List.take h.length (A2.set j X ++ [enC e0]) = A2.set j X := fun X => List.take_left' (by rw [List.length_set]; exact hA2h)
    simp [-vLenL, hrm, i1, u1, c1, hjl2]
    cases s1 : e.hide with
    | false =>
      have hs : sw L e k = false := by rw [hsw, s1]; rfl
      simp only [hs, s1] at hfin ⊢
      simp at hfin
      simp [-vLenL, hset, hbx, hfin, hlast, leqH_take, hA2h]
      exact ⟨.inl s1, hwf⟩
    | true =>
      by_cases s2 : 0 < skN L
      · have s2i : (0 : Int) < ((skN L : Nat) : Int) := by omega
        cases s3 : e0.hide with
        | true =>
          have hs : sw L e k = false := by rw [hsw, s1, s3, decide_eq_true s2]; rfl
          simp only [hs, s1] at hfin ⊢
          simp at hfin
          simp [-vLenL, hset, hbx, hfin, hlast, leqH_take, hA2h, i1, u1, n1, s2, s3]
          exact ⟨.inl s1, hwf⟩
        | false =>
          simp [-vLenL, hset, hbx, i1, u1, n1, s2, s3]
          refine xcall_self (by simp) (fails_c e0.kind k _) ?_
          cases s4 : failsB e0.kind k with
          | false =>
            have hs : sw L e k = false := by rw [hsw, s1, s3, decide_eq_true s2, s4]; rfl
            simp only [hs, s1] at hfin ⊢
            simp at hfin
            simp [-vLenL, hset, hbx, hfin, hlast, leqH_take, hA2h]
            exact ⟨.inl s1, hwf⟩
          | true =>
            have hs : sw L e k = true := by rw [hsw, s1, s3, decide_eq_true s2, s4]; rfl
            simp only [hs, s1] at hfin ⊢
            simp at hfin
            have hss : ∀ (X Y : List AV) (more : List (List AV)), (A2.set j X ++ more).set j Y = A2.set j Y ++ more := fun X Y more => by rw [List.set_append_left _ _ (by rw [List.length_set]; exact hjl2), List.set_set]
            have hne : ¬ A1.length = j := by omega
            simp [-vLenL, hset, hss, hne, hbx, hfin, hlast, leqH_take, hA2h, hjl2, lay_name, i1, u1]
            exact hwf
      · have s2i : ¬ (0 : Int) < ((skN L : Nat) : Int) := by omega
        have hs : sw L e k = false := by rw [hsw, s1, decide_eq_false s2]; rfl
        simp only [hs, s1] at hfin ⊢
        simp at hfin
        simp [-vLenL, hset, hbx, hfin, hlast, leqH_take, hA2h, i1, u1, n1, s2]
        exact ⟨.inl s1, hwf⟩
  · refine q3.move (List.getElem?_set_ne hji) (fun p hp => ?_) ?_
    · obtain ⟨p0, h1, h2⟩ := cutO_fst hp
      have := hjo p0 h1
      exact List.getElem?_set_ne (by omega)
    · rw [List.length_set]
      refine ltLL_set q3.lt ?_
      have := hev.lt (Nat.le_refl A2.length)
      simp [resC, this]
  · refine hev.stay fun b off hb => ?_
    rw [hv] at hb
    obtain ⟨p, h1, h2⟩ := hblk _ _ _ hb
    obtain ⟨p0, h3, h4⟩ := cutO_fst h1
    have := hjo p0 h3
    exact List.getElem?_set_ne (by omega)
end
end Go.Proofs.Ytpogpofmakcodaa.Ax
/- A server's replies, held against what was to come, over values without memory: match's Got. -/
namespace Go.Proofs.Ytpogpofmakcodaa.Ax
open Go.RowKit Go By
set_option linter.unusedSimpArgs false
set_option linter.unusedVariables false
set_option maxRecDepth 10000

/-- It lies, if anywhere, where the queue's list lies. -/
def OfO (o : Option (Nat × Nat)) (v : AV) : Prop := ∀ b off k m, v = .bsl b off k m → ∃ p, o = some p ∧ b = p.1
theorem OfO.sl {o : Option (Nat × Nat)} {k : Nat} {es : List (List AV)} {nul : Option Bool} {room : Room} : OfO o (.sl k es nul room) := fun _ _ _ _ h => by cases h
/-- How many are gone behind a reply. -/
def gotK (L : List En) (k : Int) : Nat :=
  match L with
  | [] => 0
  | e :: l => if takesB e.kind k = false then 0 else if endsB e.kind k = true then 1 + flN l else if failsB e.kind k = true then 1 + (skN l + flN (l.drop (skN l))) else 0
theorem gotK_le (L : List En) (k : Int) : gotK L k ≤ L.length := by
  cases L with
  | nil => exact Nat.le_refl _
  | cons e l =>
    unfold gotK
    dsimp only
    have h1 := flN_le l
    have h2 := skN_le l
    have h3 := flN_le (l.drop (skN l))
    rw [List.length_drop] at h3
    rw [List.length_cons]
    split
    · omega
    · split
      · omega
      · split <;> omega
section
variable {h : List (List AV)} {i most : Nat} {o : Option (Nat × Nat)} {L : List En}
theorem take_qH (ht : QAt h i o most L) {H : List (List AV)} {K : Nat} (hl : h.length ≤ H.length) (hi : H[i]? = some (qC (cutO o K) (L.length - K) most)) (hq : ∀ q, q < h.length → q ≠ i → H[q]? = h[q]?) : List.take h.length H = qH h i o K L.length most := by
  have hil := ht.il
  refine List.ext_getElem? fun q => ?_
  rw [List.getElem?_take]
  unfold qH
  by_cases hlt : q < h.length
  · rw [if_pos hlt]
    by_cases e : q = i
    · subst e
      rw [hi, List.getElem?_set_self hil]
    · rw [hq q hlt e, List.getElem?_set_ne (fun h => e h.symm)]
  · rw [if_neg hlt, List.getElem?_eq_none (by rw [List.length_set]; omega)]
def zRc : List AV := [.v (.bool false), .v (.int .i64 0), .v (.bool false), .v (.string (strB [])), .v (.string (strB [])), .sl 0 [] (some true) .exact, .sl 0 [] (some true) .exact, .sl 0 [] (some true) .exact, .sl 0 [] (some true) .exact, .sl 0 [] (some true) .exact, .sl 0 [] (some true) .exact, .sl 0 [] (some true) .exact, .v (.int .u8 0)]
set_option maxHeartbeats 4000000 in
theorem mgot_c (ht : QAt h i o most L) (hl : L.length ≤ 1000) (hf : ∀ e ∈ L, EnFit e) (b : Bk) :
    ∃ v1 v2 v3 wr, Contract Try.prog 36 [.box i 0, .agg (bkC b)] h (.tup [.agg (resC (gotR L b.kind b.status).2.1.show_ (gotR L b.kind b.status).2.1.name v1 v2 v3 (gotR L b.kind b.status).2.1.ready), .v (.int .i64 (gotR L b.kind b.status).1)]) (qH h i o (gotK L b.kind) L.length most) wr ∧
      (∀ q ∈ wr, q = i) ∧ EAt (qH h i o (gotK L b.kind) L.length most) v1 (gotR L b.kind b.status).2.1.ended ∧ EAt (qH h i o (gotK L b.kind) L.length most) v2 (gotR L b.kind b.status).2.1.failed ∧ EAt (qH h i o (gotK L b.kind) L.length most) v3 (gotR L b.kind b.status).2.1.dropped ∧ OfO o v1 ∧ OfO o v2 ∧ OfO o v3 := by
  have hil := ht.il
  have hlt0 := ht.lt
  have hA2 := ht.app [bkC b, zRc] (by simp [zRc])
  have hhd := qhead_c hA2 hf
  have hnil : ∀ H, EAt H (.sl 0 [] (some true) .exact) ([] : List En) := fun H => .inr (.inl ⟨rfl, rfl⟩)
  cases L with
  | nil =>
    have hz : qH h i o 0 ([] : List En).length most = h := qH_zero ht
    refine ⟨.sl 0 [] (some true) .exact, .sl 0 [] (some true) .exact, .sl 0 [] (some true) .exact, [], ?_, fun q hq => (by cases hq), hnil _, hnil _, hnil _, OfO.sl, OfO.sl, OfO.sl⟩
    show Contract _ _ _ _ _ (qH h i o 0 ([] : List En).length most) _
    rw [hz]
    refine contract_of k36 mixed (by simp [c36]) fun hh hargs => ?_
    simp [c36]
    refine xcall_self (by simp) hhd ?_
    simp [hh, gotR, zRs, zE, resC, leqH_take, zRc, enC_mk]
    done
  | cons e l =>
    have hhd2 := hhd
    rw [show (e :: l).headD zE = e from rfl] at hhd2
    have hel : 0 < (e :: l).length := by simp
    rw [decide_eq_true hel] at hhd2
    by_cases t1 : takesB e.kind b.kind = false
    · have hR : gotR (e :: l) b.kind b.status = (10, zRs, e :: l) := if_pos t1
      have hK : gotK (e :: l) b.kind = 0 := if_pos t1
      rw [hR, hK, qH_zero ht]
      refine ⟨.sl 0 [] (some true) .exact, .sl 0 [] (some true) .exact, .sl 0 [] (some true) .exact, [], ?_, fun q hq => (by cases hq), hnil _, hnil _, hnil _, OfO.sl, OfO.sl, OfO.sl⟩
      refine contract_of k36 mixed (by simp [c36]) fun hh hargs => ?_
      simp [c36]
      refine xcall_self (by simp) hhd2 ?_
      simp
      refine xcall_self (by simp) (takes_c e.kind b.kind _) ?_
      simp [t1, hh, zRs, zE, resC, leqH_take, zRc, enC_mk]
      done
    have t1' : takesB e.kind b.kind = true := by simpa using t1
    by_cases h90 : b.kind = 90
    · have h90b : (b.kind == 90) = true := by simpa using h90
      obtain ⟨A, hA⟩ : ∃ A, A = h ++ [bkC b, zRc, enC e, (resC (!e.hide) e (.sl 0 [] (some true) .exact) (.sl 0 [] (some true) .exact) (.sl 0 [] (some true) .exact) b.status)] := ⟨_, rfl⟩
      have hAl : A.length = h.length + 4 := by rw [hA]; simp
      have hA4 : QAt A i o most (e :: l) := by rw [hA]; exact ht.app _ (by simp [zRc, resC])
      have hAq : ∀ q, q < h.length → A[q]? = h[q]? := fun q hq => by rw [hA, List.getElem?_append_left hq]
      have hA1 : A[h.length + 1]? = some zRc := by rw [hA]; simp
      have hA3 : A[h.length + 3]? = some (resC (!e.hide) e (.sl 0 [] (some true) .exact) (.sl 0 [] (some true) .exact) (.sl 0 [] (some true) .exact) b.status) := by rw [hA]; simp
      simp only [resC] at hA
      cases t2 : endsB e.kind b.kind with
      | true =>
        have hR : gotR (e :: l) b.kind b.status = (0, ⟨!e.hide, e, e :: l.take (flN l), [], [], b.status⟩, l.drop (flN l)) := by unfold gotR; dsimp only; rw [if_neg t1, if_pos t2]; simp [h90]
        have hK : gotK (e :: l) b.kind = 1 + flN l := by unfold gotK; dsimp only; rw [if_neg t1, if_pos t2]
        rw [hR, hK]
        have hpop := mpop_c hA4
        have q1 := qH_cut hA4 1 (by simp)
        rw [List.drop_succ_cons, List.drop_zero] at q1
        have hl1 := qH_len A i o 1 (e :: l).length most
        have hg1 := fun q (hq : q ≠ i) => qH_get (h := A) (i := i) (o := o) (n := 1) (len := (e :: l).length) (most := most) hq
        generalize qH A i o 1 (e :: l).length most = H1 at *
        have r1 : H1[h.length + 3]? = some (resC (!e.hide) e (.sl 0 [] (some true) .exact) (.sl 0 [] (some true) .exact) (.sl 0 [] (some true) .exact) b.status) := by rw [hg1 _ (by omega)]; exact hA3
        have z1 : H1[h.length + 1]? = some zRc := by rw [hg1 _ (by omega)]; exact hA1
        obtain ⟨A1, hA1e⟩ : ∃ A1, A1 = H1.set (h.length + 3) (resC (!e.hide) e (.sl 8 [enC e] (some false) .exact) (.sl 0 [] (some true) .exact) (.sl 0 [] (some true) .exact) b.status) := ⟨_, rfl⟩
        have hA1l : A1.length = h.length + 4 := by rw [hA1e, List.length_set]; omega
        have hA1g : ∀ q, q ≠ h.length + 3 → A1[q]? = H1[q]? := fun q hq => by rw [hA1e, List.getElem?_set_ne (Ne.symm hq)]
        have q2 : QAt A1 i (cutO o 1) most l := q1.move (hA1g i (by omega)) (fun p hp => by
          obtain ⟨p0, h1, h2⟩ := cutO_fst hp
          have := ht.bl h1
          exact hA1g p.1 (by omega)) (by rw [hA1l, hA1e]; have := q1.lt; rw [hl1, hAl] at this; exact ltLL_set this (by simp [resC]))
        have hfl := mflush_c q2 (by simp at hl; omega) (fun x hx => hf x (List.mem_cons_of_mem _ hx))
        have q3 := qH_cut q2 (flN l) (flN_le l)
        rw [cutO_cut] at q3
        have hl2 := qH_len A1 i (cutO o 1) (flN l) l.length most
        have hg2 := fun q (hq : q ≠ i) => qH_get (h := A1) (i := i) (o := cutO o 1) (n := flN l) (len := l.length) (most := most) hq
        generalize qH A1 i (cutO o 1) (flN l) l.length most = H2 at *
        have r2 : H2[h.length + 3]? = some (resC (!e.hide) e (.sl 8 [enC e] (some false) .exact) (.sl 0 [] (some true) .exact) (.sl 0 [] (some true) .exact) b.status) := by rw [hg2 _ (by omega), hA1e, List.getElem?_set_self (by omega)]
        have z2 : H2[h.length + 1]? = some zRc := by rw [hg2 _ (by omega), hA1g _ (by omega)]; exact z1
        have hlen3 : l.length - flN l = (e :: l).length - (1 + flN l) := by simp; omega
        have htop := q3.top
        rw [List.length_drop, hlen3] at htop
        have hfq : ∀ q, q < h.length → q ≠ i → H2[q]? = h[q]? := fun q h1 h2 => by rw [hg2 q h2, hA1g q (by omega), hg1 q h2, hAq q h1]
        have htk : ∀ X Y : List AV, List.take h.length ((H2.set (h.length + 3) X).set (h.length + 1) Y) = qH h i o (1 + flN l) (e :: l).length most := fun X Y => by
          refine take_qH ht (by rw [List.length_set, List.length_set]; omega) ?_ (fun q h1 h2 => ?_)
          · rw [List.getElem?_set_ne (by omega), List.getElem?_set_ne (by omega)]; exact htop
          · rw [List.getElem?_set_ne (by omega), List.getElem?_set_ne (by omega)]; exact hfq q h1 h2
        have hfin := (qH_cut ht (1 + flN l) (by have := flN_le l; simp; omega)).lt
        have hfl3 := qH_len h i o (1 + flN l) (e :: l).length most
        rw [hfl3] at hfin
        refine ⟨.sl 8 (enc enC (e :: l.take (flN l))) none .no, .sl 0 [] (some true) .exact, .sl 0 [] (some true) .exact, [i], ?_, fun q hq => by simpa using hq, .inl rfl, hnil _, hnil _, OfO.sl, OfO.sl, OfO.sl⟩
        simp only [resC] at r1 r2 hA1e ⊢
        unfold zRc at z1 z2 hA
        have hb1 : (min (flN l) l.length + 1) * 144 ≤ 140737488355328 := by simp at hl; omega
        have hec : enc enC (e :: l.take (flN l)) = enC e :: enc enC (l.take (flN l)) := rfl
        refine contract_of k36 mixed (by simp [c36]) fun hh hargs => ?_
        simp [c36]
        refine xcall_self (by simp) hhd2 ?_
        simp
        refine xcall_self (by simp) (takes_c e.kind b.kind _) ?_
        simp [t1', h90b, zRc, lay_name]
        refine xcall_self (by simp) (ends_c e.kind b.kind _) ?_
        simp [t2]
        rw [← hA]
        refine xcall_self (by simp) hpop ?_
        simp [r1]
        rw [← hA1e]
        have rA1 := List.getElem?_set_self (l := H1) (i := h.length + 3) (a := [.v (.bool (!e.hide)), .v (.int .i64 e.kind), .v (.bool e.hide), .v (.string (strB e.from_)), .v (.string (strB e.to)), .sl 3 (enc toC e.good) none .no, .sl 3 (enc toC e.bad) none .no, .sl 2 (enc ocC e.cache) none .no, .sl 1 (bytesE e.reply) none .no, .sl 8 [enC e] (some false) .exact, .sl 0 [] (some true) .exact, .sl 0 [] (some true) .exact, .v (.int .u8 (b.status))]) (by omega)
        rw [← hA1e] at rA1
        have hn3 : ¬ h.length + 3 = i := by omega
        have hj2 : h.length + 3 < H2.length := by omega
        have hj1 : h.length + 1 < H2.length := by omega
        have hH2l : H2.length = h.length + 4 := by omega
        have hs1 : ∀ X : List AV, (H2.set (h.length + 3) X)[h.length + 1]? = some [.v (.bool false), .v (.int .i64 0), .v (.bool false), .v (.string (strB [])), .v (.string (strB [])), .sl 0 [] (some true) .exact, .sl 0 [] (some true) .exact, .sl 0 [] (some true) .exact, .sl 0 [] (some true) .exact, .sl 0 [] (some true) .exact, .sl 0 [] (some true) .exact, .sl 0 [] (some true) .exact, .v (.int .u8 0)] := fun X => by rw [List.getElem?_set_ne (by omega)]; exact z2
        have hs3 : ∀ X : List AV, (H2.set (h.length + 3) X)[h.length + 3]? = some X := fun X => List.getElem?_set_self hj2
        have hs4 : ∀ X Y : List AV, ((H2.set (h.length + 3) X).set (h.length + 1) Y)[h.length + 1]? = some Y := fun X Y => List.getElem?_set_self (by rw [List.length_set]; exact hj1)
        simp [rA1]
        refine xcall_self (by simp) hfl ?_
        simp [r2, hn3]
        have hl1000 : l.length ≤ 1000 := by simp at hl; omega
        refine ⟨by omega, by omega, ?_⟩
        simp only [List.length_cons] at htk hfl3 hfin
        simp [hs1, hs3, hs4, htk, hfl3, hfin, leqH_take]
        try omega
      | false =>
        cases t3 : failsB e.kind b.kind with
        | false =>
          have hR : gotR (e :: l) b.kind b.status = (0, ⟨!e.hide, e, [], [], [], b.status⟩, e :: l) := by unfold gotR; dsimp only; rw [if_neg t1, if_neg (by rw [t2]; simp), if_neg (by rw [t3]; simp)]; simp [h90]
          have hK : gotK (e :: l) b.kind = 0 := by unfold gotK; dsimp only; rw [if_neg t1, if_neg (by rw [t2]; simp), if_neg (by rw [t3]; simp)]
          rw [hR, hK, qH_zero ht]
          refine ⟨.sl 0 [] (some true) .exact, .sl 0 [] (some true) .exact, .sl 0 [] (some true) .exact, [], ?_, fun q hq => (by cases hq), hnil _, hnil _, hnil _, OfO.sl, OfO.sl, OfO.sl⟩
          simp only [resC]
          refine contract_of k36 mixed (by simp [c36]) fun hh hargs => ?_
          simp [c36]
          refine xcall_self (by simp) hhd2 ?_
          simp
          refine xcall_self (by simp) (takes_c e.kind b.kind _) ?_
          simp [t1', h90b, zRc, lay_name]
          refine xcall_self (by simp) (ends_c e.kind b.kind _) ?_
          simp [t2]
          refine xcall_self (by simp) (fails_c e.kind b.kind _) ?_
          simp [t3, hh, leqH_take, lay_name]
          try omega
        | true =>
          have hR : gotR (e :: l) b.kind b.status = (0, ⟨if sw l e b.kind = true then true else !e.hide, if sw l e b.kind = true then l.headD zE else e, (l.drop (skN l)).take (flN (l.drop (skN l))), [e], l.take (skN l), b.status⟩, (l.drop (skN l)).drop (flN (l.drop (skN l)))) := by unfold gotR; dsimp only; rw [if_neg t1, if_neg (by rw [t2]; simp), if_pos t3]; simp [h90]
          have hK : gotK (e :: l) b.kind = 1 + (skN l + flN (l.drop (skN l))) := by unfold gotK; dsimp only; rw [if_neg t1, if_neg (by rw [t2]; simp), if_pos t3]
          rw [hR, hK]
          obtain ⟨s0, hs0⟩ : ∃ s0, s0 = (if sw l e b.kind = true then true else !e.hide) := ⟨_, rfl⟩
          obtain ⟨n0, hn0⟩ : ∃ n0, n0 = (if sw l e b.kind = true then l.headD zE else e) := ⟨_, rfl⟩
          have hl1000 : l.length ≤ 1000 := by simp at hl; omega
          obtain ⟨h', v, cf, q2, ev, r1, hl1, hg1, hv⟩ := mfail_c hA4 (by omega) (fun x hx => hf x (List.mem_cons_of_mem _ hx)) (j := h.length + 3) (by omega) (fun p hp => by have := ht.bl hp; omega) (b.status) hA3 b.kind
          rw [← hs0, ← hn0] at r1 ⊢
          have z1 : h'[h.length + 1]? = some zRc := by rw [hg1 _ (by omega) (by omega)]; exact hA1
          have hfl := mflush_c q2 (by rw [List.length_drop]; omega) (fun x hx => hf x (List.mem_cons_of_mem _ (List.mem_of_mem_drop hx)))
          have q3 := qH_cut q2 (flN (l.drop (skN l))) (flN_le _)
          rw [cutO_cut, Nat.add_assoc] at q3
          have hl2 := qH_len h' i (cutO o (1 + skN l)) (flN (l.drop (skN l))) (l.drop (skN l)).length most
          have hg2 := fun q (hq : q ≠ i) => qH_get (h := h') (i := i) (o := cutO o (1 + skN l)) (n := flN (l.drop (skN l))) (len := (l.drop (skN l)).length) (most := most) hq
          generalize qH h' i (cutO o (1 + skN l)) (flN (l.drop (skN l))) (l.drop (skN l)).length most = H2 at *
          have r2 : H2[h.length + 3]? = some (resC s0 n0 (.sl 0 [] (some true) .exact) (.sl 8 [enC e] (some false) .exact) v (b.status)) := by rw [hg2 _ (by omega)]; exact r1
          have z2 : H2[h.length + 1]? = some zRc := by rw [hg2 _ (by omega)]; exact z1
          have hfle := flN_le (l.drop (skN l))
          rw [List.length_drop] at hfle
          have hske := skN_le l
          have hKle : 1 + (skN l + flN (l.drop (skN l))) ≤ (e :: l).length := by simp; omega
          have hlen3 : l.length - skN l - flN (l.drop (skN l)) = (e :: l).length - (1 + (skN l + flN (l.drop (skN l)))) := by simp; omega
          have htop := q3.top
          rw [List.length_drop, List.length_drop, hlen3] at htop
          have hfq : ∀ q, q < h.length → q ≠ i → H2[q]? = h[q]? := fun q h1 h2 => by rw [hg2 q h2, hg1 q h2 (by omega), hAq q h1]
          have htk : ∀ X Y : List AV, List.take h.length ((H2.set (h.length + 3) X).set (h.length + 1) Y) = qH h i o (1 + (skN l + flN (l.drop (skN l)))) (e :: l).length most := fun X Y => by
            refine take_qH ht (by rw [List.length_set, List.length_set]; omega) ?_ (fun q h1 h2 => ?_)
            · rw [List.getElem?_set_ne (by omega), List.getElem?_set_ne (by omega)]; exact htop
            · rw [List.getElem?_set_ne (by omega), List.getElem?_set_ne (by omega)]; exact hfq q h1 h2
          have hfin := (qH_cut ht (1 + (skN l + flN (l.drop (skN l)))) hKle).lt
          have hfl3 := qH_len h i o (1 + (skN l + flN (l.drop (skN l)))) (e :: l).length most
          have hfg := fun q (hq : q ≠ i) => qH_get (h := h) (i := i) (o := o) (n := 1 + (skN l + flN (l.drop (skN l)))) (len := (e :: l).length) (most := most) hq
          rw [hfl3] at hfin
          have i1 := ev.id
          have u1 := ev.unown
          have c1 := ev.cells
          have hblk : ∀ bb off m, v = .bsl bb off 8 m → bb < h.length ∧ bb ≠ i := fun bb off m hb => by
            rw [hv] at hb
            obtain ⟨p, h1, h2⟩ := skV_blk hb
            obtain ⟨p0, h3, h4⟩ := cutO_fst h1
            have := ht.bl h3
            have := (ht.row p0 h3).1
            omega
          have hofo : OfO o v := fun bb off kk m hb => by
            rw [hv] at hb
            have hk8 : kk = 8 := by
              have := hb
              unfold skV at this
              split at this <;> cases this <;> rfl
            subst hk8
            obtain ⟨p, h1, h2⟩ := skV_blk hb
            obtain ⟨p0, h3, h4⟩ := cutO_fst h1
            exact ⟨p0, h3, by rw [h2, h4]⟩
          have ev3 : EAt (qH h i o (1 + (skN l + flN (l.drop (skN l)))) (e :: l).length most) v (l.take (skN l)) := ev.stay fun bb off hb => by
            obtain ⟨h1, h2⟩ := hblk _ _ _ hb
            rw [hfg bb h2, hg1 bb h2 (by omega), hAq bb h1]
          have hvlt : v.lt h.length := by
            have := ev3.lt (n := h.length) (by rw [hfl3]; exact Nat.le_refl _)
            exact this
          refine ⟨.sl 8 (enc enC ((l.drop (skN l)).take (flN (l.drop (skN l))))) none .no, .sl 8 (enc enC [e]) none .no, v, [i], ?_, fun q hq => by simpa using hq, .inl rfl, .inl rfl, ev3, OfO.sl, OfO.sl, hofo⟩
          simp only [resC] at r1 r2 ⊢
          unfold zRc at z1 z2 hA
          have hec : enc enC [e] = [enC e] := rfl
          have hn3 : ¬ h.length + 3 = i := by omega
          have hj2 : h.length + 3 < H2.length := by omega
          have hj1 : h.length + 1 < H2.length := by omega
          have hs1 : ∀ X : List AV, (H2.set (h.length + 3) X)[h.length + 1]? = some [.v (.bool false), .v (.int .i64 0), .v (.bool false), .v (.string (strB [])), .v (.string (strB [])), .sl 0 [] (some true) .exact, .sl 0 [] (some true) .exact, .sl 0 [] (some true) .exact, .sl 0 [] (some true) .exact, .sl 0 [] (some true) .exact, .sl 0 [] (some true) .exact, .sl 0 [] (some true) .exact, .v (.int .u8 0)] := fun X => by rw [List.getElem?_set_ne (by omega)]; exact z2
          have hs3 : ∀ X : List AV, (H2.set (h.length + 3) X)[h.length + 3]? = some X := fun X => List.getElem?_set_self hj2
          have hs4 : ∀ X Y : List AV, ((H2.set (h.length + 3) X).set (h.length + 1) Y)[h.length + 1]? = some Y := fun X Y => List.getElem?_set_self (by rw [List.length_set]; exact hj1)
          refine contract_of k36 mixed (by simp [c36]) fun hh hargs => ?_
          simp [c36]
          refine xcall_self (by simp) hhd2 ?_
          simp
          refine xcall_self (by simp) (takes_c e.kind b.kind _) ?_
          simp [t1', h90b, zRc, lay_name]
          refine xcall_self (by simp) (ends_c e.kind b.kind _) ?_
          simp [t2]
          refine xcall_self (by simp) (fails_c e.kind b.kind _) ?_
          simp [t3]
          rw [← hA]
          refine xcall_self (by simp) cf ?_
          simp [r1]
          refine xcall_self (by simp) hfl ?_
          simp [r2, hn3, i1, u1]
          refine xappendA_own ?_
          simp [r2, hn3, i1, u1]
          refine ⟨by omega, by omega, ?_⟩
          have hvw : weak v v := weak_refl v
          simp only [List.length_cons] at htk hfl3 hfin hvlt
          simp [hs1, hs3, hs4, htk, hfl3, hfin, leqH_take, i1, u1, c1, hvlt, hvw, hec]
          try omega
    · have h90b : (b.kind == 90) = false := by simpa using h90
      obtain ⟨A, hA⟩ : ∃ A, A = h ++ [bkC b, zRc, enC e, (resC (!e.hide) e (.sl 0 [] (some true) .exact) (.sl 0 [] (some true) .exact) (.sl 0 [] (some true) .exact) 0)] := ⟨_, rfl⟩
      have hAl : A.length = h.length + 4 := by rw [hA]; simp
      have hA4 : QAt A i o most (e :: l) := by rw [hA]; exact ht.app _ (by simp [zRc, resC])
      have hAq : ∀ q, q < h.length → A[q]? = h[q]? := fun q hq => by rw [hA, List.getElem?_append_left hq]
      have hA1 : A[h.length + 1]? = some zRc := by rw [hA]; simp
      have hA3 : A[h.length + 3]? = some (resC (!e.hide) e (.sl 0 [] (some true) .exact) (.sl 0 [] (some true) .exact) (.sl 0 [] (some true) .exact) 0) := by rw [hA]; simp
      simp only [resC] at hA
      cases t2 : endsB e.kind b.kind with
      | true =>
        have hR : gotR (e :: l) b.kind b.status = (0, ⟨!e.hide, e, e :: l.take (flN l), [], [], 0⟩, l.drop (flN l)) := by unfold gotR; dsimp only; rw [if_neg t1, if_pos t2]; simp [h90]
        have hK : gotK (e :: l) b.kind = 1 + flN l := by unfold gotK; dsimp only; rw [if_neg t1, if_pos t2]
        rw [hR, hK]
        have hpop := mpop_c hA4
        have q1 := qH_cut hA4 1 (by simp)
        rw [List.drop_succ_cons, List.drop_zero] at q1
        have hl1 := qH_len A i o 1 (e :: l).length most
        have hg1 := fun q (hq : q ≠ i) => qH_get (h := A) (i := i) (o := o) (n := 1) (len := (e :: l).length) (most := most) hq
        generalize qH A i o 1 (e :: l).length most = H1 at *
        have r1 : H1[h.length + 3]? = some (resC (!e.hide) e (.sl 0 [] (some true) .exact) (.sl 0 [] (some true) .exact) (.sl 0 [] (some true) .exact) 0) := by rw [hg1 _ (by omega)]; exact hA3
        have z1 : H1[h.length + 1]? = some zRc := by rw [hg1 _ (by omega)]; exact hA1
        obtain ⟨A1, hA1e⟩ : ∃ A1, A1 = H1.set (h.length + 3) (resC (!e.hide) e (.sl 8 [enC e] (some false) .exact) (.sl 0 [] (some true) .exact) (.sl 0 [] (some true) .exact) 0) := ⟨_, rfl⟩
        have hA1l : A1.length = h.length + 4 := by rw [hA1e, List.length_set]; omega
        have hA1g : ∀ q, q ≠ h.length + 3 → A1[q]? = H1[q]? := fun q hq => by rw [hA1e, List.getElem?_set_ne (Ne.symm hq)]
        have q2 : QAt A1 i (cutO o 1) most l := q1.move (hA1g i (by omega)) (fun p hp => by
          obtain ⟨p0, h1, h2⟩ := cutO_fst hp
          have := ht.bl h1
          exact hA1g p.1 (by omega)) (by rw [hA1l, hA1e]; have := q1.lt; rw [hl1, hAl] at this; exact ltLL_set this (by simp [resC]))
        have hfl := mflush_c q2 (by simp at hl; omega) (fun x hx => hf x (List.mem_cons_of_mem _ hx))
        have q3 := qH_cut q2 (flN l) (flN_le l)
        rw [cutO_cut] at q3
        have hl2 := qH_len A1 i (cutO o 1) (flN l) l.length most
        have hg2 := fun q (hq : q ≠ i) => qH_get (h := A1) (i := i) (o := cutO o 1) (n := flN l) (len := l.length) (most := most) hq
        generalize qH A1 i (cutO o 1) (flN l) l.length most = H2 at *
        have r2 : H2[h.length + 3]? = some (resC (!e.hide) e (.sl 8 [enC e] (some false) .exact) (.sl 0 [] (some true) .exact) (.sl 0 [] (some true) .exact) 0) := by rw [hg2 _ (by omega), hA1e, List.getElem?_set_self (by omega)]
        have z2 : H2[h.length + 1]? = some zRc := by rw [hg2 _ (by omega), hA1g _ (by omega)]; exact z1
        have hlen3 : l.length - flN l = (e :: l).length - (1 + flN l) := by simp; omega
        have htop := q3.top
        rw [List.length_drop, hlen3] at htop
        have hfq : ∀ q, q < h.length → q ≠ i → H2[q]? = h[q]? := fun q h1 h2 => by rw [hg2 q h2, hA1g q (by omega), hg1 q h2, hAq q h1]
        have htk : ∀ X Y : List AV, List.take h.length ((H2.set (h.length + 3) X).set (h.length + 1) Y) = qH h i o (1 + flN l) (e :: l).length most := fun X Y => by
          refine take_qH ht (by rw [List.length_set, List.length_set]; omega) ?_ (fun q h1 h2 => ?_)
          · rw [List.getElem?_set_ne (by omega), List.getElem?_set_ne (by omega)]; exact htop
          · rw [List.getElem?_set_ne (by omega), List.getElem?_set_ne (by omega)]; exact hfq q h1 h2
        have hfin := (qH_cut ht (1 + flN l) (by have := flN_le l; simp; omega)).lt
        have hfl3 := qH_len h i o (1 + flN l) (e :: l).length most
        rw [hfl3] at hfin
        refine ⟨.sl 8 (enc enC (e :: l.take (flN l))) none .no, .sl 0 [] (some true) .exact, .sl 0 [] (some true) .exact, [i], ?_, fun q hq => by simpa using hq, .inl rfl, hnil _, hnil _, OfO.sl, OfO.sl, OfO.sl⟩
        simp only [resC] at r1 r2 hA1e ⊢
        unfold zRc at z1 z2 hA
        have hb1 : (min (flN l) l.length + 1) * 144 ≤ 140737488355328 := by simp at hl; omega
        have hec : enc enC (e :: l.take (flN l)) = enC e :: enc enC (l.take (flN l)) := rfl
        refine contract_of k36 mixed (by simp [c36]) fun hh hargs => ?_
        simp [c36]
        refine xcall_self (by simp) hhd2 ?_
        simp
        refine xcall_self (by simp) (takes_c e.kind b.kind _) ?_
        simp [t1', h90b, zRc, lay_name]
        refine xcall_self (by simp) (ends_c e.kind b.kind _) ?_
        simp [t2]
        rw [← hA]
        refine xcall_self (by simp) hpop ?_
        simp [r1]
        rw [← hA1e]
        have rA1 := List.getElem?_set_self (l := H1) (i := h.length + 3) (a := [.v (.bool (!e.hide)), .v (.int .i64 e.kind), .v (.bool e.hide), .v (.string (strB e.from_)), .v (.string (strB e.to)), .sl 3 (enc toC e.good) none .no, .sl 3 (enc toC e.bad) none .no, .sl 2 (enc ocC e.cache) none .no, .sl 1 (bytesE e.reply) none .no, .sl 8 [enC e] (some false) .exact, .sl 0 [] (some true) .exact, .sl 0 [] (some true) .exact, .v (.int .u8 (0))]) (by omega)
        rw [← hA1e] at rA1
        have hn3 : ¬ h.length + 3 = i := by omega
        have hj2 : h.length + 3 < H2.length := by omega
        have hj1 : h.length + 1 < H2.length := by omega
        have hH2l : H2.length = h.length + 4 := by omega
        have hs1 : ∀ X : List AV, (H2.set (h.length + 3) X)[h.length + 1]? = some [.v (.bool false), .v (.int .i64 0), .v (.bool false), .v (.string (strB [])), .v (.string (strB [])), .sl 0 [] (some true) .exact, .sl 0 [] (some true) .exact, .sl 0 [] (some true) .exact, .sl 0 [] (some true) .exact, .sl 0 [] (some true) .exact, .sl 0 [] (some true) .exact, .sl 0 [] (some true) .exact, .v (.int .u8 0)] := fun X => by rw [List.getElem?_set_ne (by omega)]; exact z2
        have hs3 : ∀ X : List AV, (H2.set (h.length + 3) X)[h.length + 3]? = some X := fun X => List.getElem?_set_self hj2
        have hs4 : ∀ X Y : List AV, ((H2.set (h.length + 3) X).set (h.length + 1) Y)[h.length + 1]? = some Y := fun X Y => List.getElem?_set_self (by rw [List.length_set]; exact hj1)
        simp [rA1]
        refine xcall_self (by simp) hfl ?_
        simp [r2, hn3]
        have hl1000 : l.length ≤ 1000 := by simp at hl; omega
        refine ⟨by omega, by omega, ?_⟩
        simp only [List.length_cons] at htk hfl3 hfin
        simp [hs1, hs3, hs4, htk, hfl3, hfin, leqH_take]
        try omega
      | false =>
        cases t3 : failsB e.kind b.kind with
        | false =>
          have hR : gotR (e :: l) b.kind b.status = (0, ⟨!e.hide, e, [], [], [], 0⟩, e :: l) := by unfold gotR; dsimp only; rw [if_neg t1, if_neg (by rw [t2]; simp), if_neg (by rw [t3]; simp)]; simp [h90]
          have hK : gotK (e :: l) b.kind = 0 := by unfold gotK; dsimp only; rw [if_neg t1, if_neg (by rw [t2]; simp), if_neg (by rw [t3]; simp)]
          rw [hR, hK, qH_zero ht]
          refine ⟨.sl 0 [] (some true) .exact, .sl 0 [] (some true) .exact, .sl 0 [] (some true) .exact, [], ?_, fun q hq => (by cases hq), hnil _, hnil _, hnil _, OfO.sl, OfO.sl, OfO.sl⟩
          simp only [resC]
          refine contract_of k36 mixed (by simp [c36]) fun hh hargs => ?_
          simp [c36]
          refine xcall_self (by simp) hhd2 ?_
          simp
          refine xcall_self (by simp) (takes_c e.kind b.kind _) ?_
          simp [t1', h90b, zRc, lay_name]
          refine xcall_self (by simp) (ends_c e.kind b.kind _) ?_
          simp [t2]
          refine xcall_self (by simp) (fails_c e.kind b.kind _) ?_
          simp [t3, hh, leqH_take, lay_name]
          try omega
        | true =>
          have hR : gotR (e :: l) b.kind b.status = (0, ⟨if sw l e b.kind = true then true else !e.hide, if sw l e b.kind = true then l.headD zE else e, (l.drop (skN l)).take (flN (l.drop (skN l))), [e], l.take (skN l), 0⟩, (l.drop (skN l)).drop (flN (l.drop (skN l)))) := by unfold gotR; dsimp only; rw [if_neg t1, if_neg (by rw [t2]; simp), if_pos t3]; simp [h90]
          have hK : gotK (e :: l) b.kind = 1 + (skN l + flN (l.drop (skN l))) := by unfold gotK; dsimp only; rw [if_neg t1, if_neg (by rw [t2]; simp), if_pos t3]
          rw [hR, hK]
          obtain ⟨s0, hs0⟩ : ∃ s0, s0 = (if sw l e b.kind = true then true else !e.hide) := ⟨_, rfl⟩
          obtain ⟨n0, hn0⟩ : ∃ n0, n0 = (if sw l e b.kind = true then l.headD zE else e) := ⟨_, rfl⟩
          have hl1000 : l.length ≤ 1000 := by simp at hl; omega
          obtain ⟨h', v, cf, q2, ev, r1, hl1, hg1, hv⟩ := mfail_c hA4 (by omega) (fun x hx => hf x (List.mem_cons_of_mem _ hx)) (j := h.length + 3) (by omega) (fun p hp => by have := ht.bl hp; omega) (0) hA3 b.kind
          rw [← hs0, ← hn0] at r1 ⊢
          have z1 : h'[h.length + 1]? = some zRc := by rw [hg1 _ (by omega) (by omega)]; exact hA1
          have hfl := mflush_c q2 (by rw [List.length_drop]; omega) (fun x hx => hf x (List.mem_cons_of_mem _ (List.mem_of_mem_drop hx)))
          have q3 := qH_cut q2 (flN (l.drop (skN l))) (flN_le _)
          rw [cutO_cut, Nat.add_assoc] at q3
          have hl2 := qH_len h' i (cutO o (1 + skN l)) (flN (l.drop (skN l))) (l.drop (skN l)).length most
          have hg2 := fun q (hq : q ≠ i) => qH_get (h := h') (i := i) (o := cutO o (1 + skN l)) (n := flN (l.drop (skN l))) (len := (l.drop (skN l)).length) (most := most) hq
          generalize qH h' i (cutO o (1 + skN l)) (flN (l.drop (skN l))) (l.drop (skN l)).length most = H2 at *
          have r2 : H2[h.length + 3]? = some (resC s0 n0 (.sl 0 [] (some true) .exact) (.sl 8 [enC e] (some false) .exact) v (0)) := by rw [hg2 _ (by omega)]; exact r1
          have z2 : H2[h.length + 1]? = some zRc := by rw [hg2 _ (by omega)]; exact z1
          have hfle := flN_le (l.drop (skN l))
          rw [List.length_drop] at hfle
          have hske := skN_le l
          have hKle : 1 + (skN l + flN (l.drop (skN l))) ≤ (e :: l).length := by simp; omega
          have hlen3 : l.length - skN l - flN (l.drop (skN l)) = (e :: l).length - (1 + (skN l + flN (l.drop (skN l)))) := by simp; omega
          have htop := q3.top
          rw [List.length_drop, List.length_drop, hlen3] at htop
          have hfq : ∀ q, q < h.length → q ≠ i → H2[q]? = h[q]? := fun q h1 h2 => by rw [hg2 q h2, hg1 q h2 (by omega), hAq q h1]
          have htk : ∀ X Y : List AV, List.take h.length ((H2.set (h.length + 3) X).set (h.length + 1) Y) = qH h i o (1 + (skN l + flN (l.drop (skN l)))) (e :: l).length most := fun X Y => by
            refine take_qH ht (by rw [List.length_set, List.length_set]; omega) ?_ (fun q h1 h2 => ?_)
            · rw [List.getElem?_set_ne (by omega), List.getElem?_set_ne (by omega)]; exact htop
            · rw [List.getElem?_set_ne (by omega), List.getElem?_set_ne (by omega)]; exact hfq q h1 h2
          have hfin := (qH_cut ht (1 + (skN l + flN (l.drop (skN l)))) hKle).lt
          have hfl3 := qH_len h i o (1 + (skN l + flN (l.drop (skN l)))) (e :: l).length most
          have hfg := fun q (hq : q ≠ i) => qH_get (h := h) (i := i) (o := o) (n := 1 + (skN l + flN (l.drop (skN l)))) (len := (e :: l).length) (most := most) hq
          rw [hfl3] at hfin
          have i1 := ev.id
          have u1 := ev.unown
          have c1 := ev.cells
          have hblk : ∀ bb off m, v = .bsl bb off 8 m → bb < h.length ∧ bb ≠ i := fun bb off m hb => by
            rw [hv] at hb
            obtain ⟨p, h1, h2⟩ := skV_blk hb
            obtain ⟨p0, h3, h4⟩ := cutO_fst h1
            have := ht.bl h3
            have := (ht.row p0 h3).1
            omega
          have hofo : OfO o v := fun bb off kk m hb => by
            rw [hv] at hb
            have hk8 : kk = 8 := by
              have := hb
              unfold skV at this
              split at this <;> cases this <;> rfl
            subst hk8
            obtain ⟨p, h1, h2⟩ := skV_blk hb
            obtain ⟨p0, h3, h4⟩ := cutO_fst h1
            exact ⟨p0, h3, by rw [h2, h4]⟩
          have ev3 : EAt (qH h i o (1 + (skN l + flN (l.drop (skN l)))) (e :: l).length most) v (l.take (skN l)) := ev.stay fun bb off hb => by
            obtain ⟨h1, h2⟩ := hblk _ _ _ hb
            rw [hfg bb h2, hg1 bb h2 (by omega), hAq bb h1]
          have hvlt : v.lt h.length := by
            have := ev3.lt (n := h.length) (by rw [hfl3]; exact Nat.le_refl _)
            exact this
          refine ⟨.sl 8 (enc enC ((l.drop (skN l)).take (flN (l.drop (skN l))))) none .no, .sl 8 (enc enC [e]) none .no, v, [i], ?_, fun q hq => by simpa using hq, .inl rfl, .inl rfl, ev3, OfO.sl, OfO.sl, hofo⟩
          simp only [resC] at r1 r2 ⊢
          unfold zRc at z1 z2 hA
          have hec : enc enC [e] = [enC e] := rfl
          have hn3 : ¬ h.length + 3 = i := by omega
          have hj2 : h.length + 3 < H2.length := by omega
          have hj1 : h.length + 1 < H2.length := by omega
          have hs1 : ∀ X : List AV, (H2.set (h.length + 3) X)[h.length + 1]? = some [.v (.bool false), .v (.int .i64 0), .v (.bool false), .v (.string (strB [])), .v (.string (strB [])), .sl 0 [] (some true) .exact, .sl 0 [] (some true) .exact, .sl 0 [] (some true) .exact, .sl 0 [] (some true) .exact, .sl 0 [] (some true) .exact, .sl 0 [] (some true) .exact, .sl 0 [] (some true) .exact, .v (.int .u8 0)] := fun X => by rw [List.getElem?_set_ne (by omega)]; exact z2
          have hs3 : ∀ X : List AV, (H2.set (h.length + 3) X)[h.length + 3]? = some X := fun X => List.getElem?_set_self hj2
          have hs4 : ∀ X Y : List AV, ((H2.set (h.length + 3) X).set (h.length + 1) Y)[h.length + 1]? = some Y := fun X Y => List.getElem?_set_self (by rw [List.length_set]; exact hj1)
          refine contract_of k36 mixed (by simp [c36]) fun hh hargs => ?_
          simp [c36]
          refine xcall_self (by simp) hhd2 ?_
          simp
          refine xcall_self (by simp) (takes_c e.kind b.kind _) ?_
          simp [t1', h90b, zRc, lay_name]
          refine xcall_self (by simp) (ends_c e.kind b.kind _) ?_
          simp [t2]
          refine xcall_self (by simp) (fails_c e.kind b.kind _) ?_
          simp [t3]
          rw [← hA]
          refine xcall_self (by simp) cf ?_
          simp [r1]
          refine xcall_self (by simp) hfl ?_
          simp [r2, hn3, i1, u1]
          refine xappendA_own ?_
          simp [r2, hn3, i1, u1]
          refine ⟨by omega, by omega, ?_⟩
          have hvw : weak v v := weak_refl v
          simp only [List.length_cons] at htk hfl3 hfin hvlt
          simp [hs1, hs3, hs4, htk, hfl3, hfin, leqH_take, i1, u1, c1, hvlt, hvw, hec]
          try omega
end
end Go.Proofs.Ytpogpofmakcodaa.Ax
namespace Go.Proofs.Ytpogpofmakcodaa.Ax
open Go.RowKit Go By
set_option linter.unusedSimpArgs false
set_option linter.unusedVariables false
set_option maxRecDepth 10000

section
variable {h : List (List AV)} {i most : Nat} {o : Option (Nat × Nat)} {L : List En}
/-- The document's skip, in one form. -/
theorem rskip_e (ht : QAt h i o most L) (hl : L.length ≤ 1000000) : ∃ h' o' v, Contract Try.prog 22 [.box i 0] h v h' [i] ∧ QAt h' i o' most (L.drop (skN L)) ∧ EAt h' v (L.take (skN L)) ∧ h.length ≤ h'.length ∧
    (∀ q, q < h.length → q ≠ i → h'[q]? = h[q]?) ∧ (∀ p, o' = some p → h.length ≤ p.1) ∧ (∀ b off k m, v = .bsl b off k m → h.length ≤ b) ∧ (0 < skN L → ∃ b, v = .bsl b 0 8 (skN L)) := by
  have c1 := rskip_c ht hl
  have q1 := rskip_at ht
  have e1 := rskip_out ht
  have hl1 := apQ_len h none [] (L.take (skN L))
  have htl : (L.take (skN L)).length = skN L := by rw [List.length_take]; have := skN_le L; omega
  refine ⟨_, _, _, c1, q1, e1, ?_, fun q h1 h2 => ?_, fun p hp => ?_, fun b off k m hb => ?_, fun hs => ?_⟩
  · unfold rskipH putH
    rw [List.length_set]
    have := apQ_len (apQ h none [] (L.take (skN L))) none [] (L.drop (skN L))
    omega
  · unfold rskipH
    rw [putH_get (by omega) h2, apQ_none_get h1]
  · have := apO_none hp
    omega
  · cases ho : apO h none (L.take (skN L)) with
    | none => rw [ho] at hb; cases hb
    | some p =>
      have := apO_none ho
      rw [ho] at hb
      injection hb with h1 _ _ _
      omega
  · have hne : L.take (skN L) ≠ [] := fun e => by rw [e] at htl; simp at htl; omega
    refine ⟨h.length, ?_⟩
    unfold apO
    rw [if_neg hne, htl]
    rfl
theorem EAt.rowsAt {b off n : Nat} {l : List En} (hv : EAt h (.bsl b off 8 n) l) : RowsAt h b off l := by
  rcases hv with e | ⟨_, e⟩ | ⟨b2, off2, e, hr⟩
  · cases e
  · cases e
  · injection e with h1 h2
    subst h1
    subst h2
    exact hr
set_option maxHeartbeats 8000000 in
theorem rgot_c (ht : QAt h i o most L) (hl : L.length ≤ 1000) (b : Bk) (hb0 : 0 ≤ b.kind) (hb1 : b.kind < 256) :
    ∃ h' o' v1 v2 v3 wr, Contract Try.prog 37 [.box i 0, .agg (bkC b)] h (.tup [.agg (resC (gotR L b.kind b.status).2.1.show_ (gotR L b.kind b.status).2.1.name v1 v2 v3 (gotR L b.kind b.status).2.1.ready), .v (.int .i64 (gotR L b.kind b.status).1)]) h' wr ∧
      (∀ q ∈ wr, q = i) ∧ EAt h' v1 (gotR L b.kind b.status).2.1.ended ∧ EAt h' v2 (gotR L b.kind b.status).2.1.failed ∧ EAt h' v3 (gotR L b.kind b.status).2.1.dropped ∧
      QAt h' i o' most (L.drop (gotK L b.kind)) ∧ h.length ≤ h'.length ∧ (∀ q, q < h.length → q ≠ i → h'[q]? = h[q]?) ∧ ∀ p, o' = some p → o = some p ∨ h.length ≤ p.1 := by
  have hil := ht.il
  have hig := ht.ig
  have hlt0 := ht.lt
  have hnil : ∀ H, EAt H (.sl 0 [] (some true) .exact) ([] : List En) := fun H => .inr (.inl ⟨rfl, rfl⟩)
  cases L with
  | nil =>
    have e2 := qV_len o 0 (fun _ => rfl)
    refine ⟨h, o, .sl 0 [] (some true) .exact, .sl 0 [] (some true) .exact, .sl 0 [] (some true) .exact, [], ?_, fun q hq => (by cases hq), hnil _, hnil _, hnil _, ht, Nat.le_refl _, fun _ _ _ => rfl, fun p hp => .inl hp⟩
    refine contract_of k37 mixed (by simp [c37]) fun hh hargs => ?_
    simp [-vLenL, c37, List.getElem?_append_left hil, hil, hig, qC, e2, qV_id]
    simp [hh, gotR, zRs, zE, resC, leqH_take]
    trace_state
    done
  | cons e l =>
    obtain ⟨p, rfl⟩ := ht.some_of (by simp)
    have hig0 : h[i] = [.bsl p.1 p.2 8 (e :: l).length, .v (.int .i64 (most : Int))] := hig
    obtain ⟨cs, hb, hrd⟩ := (ht.rows rfl).reads
    have hbl := ht.bl rfl
    have hbg : h[p.1] = cs := by rw [List.getElem?_eq_getElem hbl] at hb; injection hb
    have hone := hrd.one 0 (by simp)
    have hfit := hrd.fit 0 (by simp)
    have hat0 := hrd.at_ (j := 0) (by simp) 0 (by omega)
    have hat1 := hrd.at_ (j := 0) (by simp) 1 (by omega)
    have hfit0 : p.2 < cs.length := by omega
    have hfit1 : p.2 + 1 < cs.length := by omega
    simp only [Nat.zero_mul, Nat.add_zero] at hone hfit hat0 hat1
    rw [show (e :: l)[0] = e from rfl] at hone hat0 hat1
    rw [enC_0] at hat0
    rw [enC_1] at hat1
    have hg0 : cs[p.2] = .v (.int .i64 e.kind) := by rw [List.getElem?_eq_getElem hfit0] at hat0; injection hat0
    have hg1c : cs[p.2 + 1] = .v (.bool e.hide) := by rw [List.getElem?_eq_getElem hfit1] at hat1; injection hat1
    have hlen0 : ((l.length : Int) + 1 == 0) = false := by simp; omega
    have hl1000 : l.length ≤ 1000 := by simp at hl; omega
    by_cases t1 : takesB e.kind b.kind = false
    · have hR : gotR (e :: l) b.kind b.status = (10, zRs, e :: l) := if_pos t1
      have hK : gotK (e :: l) b.kind = 0 := if_pos t1
      rw [hR, hK]
      refine ⟨h, some p, .sl 0 [] (some true) .exact, .sl 0 [] (some true) .exact, .sl 0 [] (some true) .exact, [], ?_, fun q hq => (by cases hq), hnil _, hnil _, hnil _, ht, Nat.le_refl _, fun _ _ _ => rfl, fun p hp => .inl hp⟩
      refine contract_of k37 mixed (by simp [c37]) fun hh hargs => ?_
      simp [c37, List.getElem?_append_left hil, List.getElem?_append_left hbl, hil, hig0, hbl, hbg, hlen0, hat0, hfit0, hg0]
      refine xcall_self (by simp) (rtakes_c e.kind b.kind hb0 hb1 _) ?_
      simp [t1, hh, zRs, zE, resC, leqH_take]
      trace_state
      done
    have t1' : takesB e.kind b.kind = true := by simpa using t1
    by_cases h90 : b.kind = 90
    · have h90b : (b.kind == 90) = true := by simpa using h90
      obtain ⟨A, hA⟩ : ∃ A, A = h ++ [bkC b, zRc, (resC (!e.hide) e (.sl 0 [] (some true) .exact) (.sl 0 [] (some true) .exact) (.sl 0 [] (some true) .exact) b.status)] := ⟨_, rfl⟩
      have hAl : A.length = h.length + 3 := by rw [hA]; simp
      have hA4 : QAt A i (some p) most (e :: l) := by rw [hA]; exact ht.app _ (by simp [zRc, resC])
      have hAq : ∀ q, q < h.length → A[q]? = h[q]? := fun q hq => by rw [hA, List.getElem?_append_left hq]
      have hA1 : A[h.length + 1]? = some zRc := by rw [hA]; simp
      have hA2 : A[h.length + 2]? = some (resC (!e.hide) e (.sl 0 [] (some true) .exact) (.sl 0 [] (some true) .exact) (.sl 0 [] (some true) .exact) b.status) := by rw [hA]; simp
      simp only [resC] at hA
      cases t2 : endsB e.kind b.kind with
      | true =>
        have hR : gotR (e :: l) b.kind b.status = (0, ⟨!e.hide, e, e :: l.take (flN l), [], [], b.status⟩, l.drop (flN l)) := by unfold gotR; dsimp only; rw [if_neg t1, if_pos t2]; simp [h90]
        have hK : gotK (e :: l) b.kind = 1 + flN l := by unfold gotK; dsimp only; rw [if_neg t1, if_pos t2]
        rw [hR, hK, Nat.add_comm, List.drop_succ_cons]
        obtain ⟨H1, o1, cp, q1, l1, g1, b1⟩ := rpop_e hA4 (by omega)
        have r1 : H1[h.length + 2]? = some (resC (!e.hide) e (.sl 0 [] (some true) .exact) (.sl 0 [] (some true) .exact) (.sl 0 [] (some true) .exact) b.status) := by rw [g1 _ (by omega) (by omega)]; exact hA2
        have z1 : H1[h.length + 1]? = some zRc := by rw [g1 _ (by omega) (by omega)]; exact hA1
        have q2 := q1.app [enC e] (by simp)
        obtain ⟨H2, o2, cf, q3, l2, g2, b2⟩ := rflush_c q2 (by omega)
        have hn1 : (H1 ++ [enC e]).length = H1.length + 1 := by simp
        rw [hn1] at l2 g2 b2
        have hap : ∀ q, q < H1.length → (H1 ++ [enC e])[q]? = H1[q]? := fun q hq => List.getElem?_append_left hq
        have r2 : H2[h.length + 2]? = some (resC (!e.hide) e (.sl 0 [] (some true) .exact) (.sl 0 [] (some true) .exact) (.sl 0 [] (some true) .exact) b.status) := by rw [g2 _ (by omega) (by omega), hap _ (by omega)]; exact r1
        have z2 : H2[h.length + 1]? = some zRc := by rw [g2 _ (by omega) (by omega), hap _ (by omega)]; exact z1
        have hfq : ∀ q, q < h.length → q ≠ i → H2[q]? = h[q]? := fun q h1 h2 => by rw [g2 q (by omega) h2, hap q (by omega), g1 q (by omega) h2, hAq q h1]
        obtain ⟨RX, hRX⟩ : ∃ RX, RX = (resC (!e.hide) e (.sl 8 (enc enC (e :: l.take (flN l))) none .no) (.sl 0 [] (some true) .exact) (.sl 0 [] (some true) .exact) b.status) := ⟨_, rfl⟩
        have hRXl : ltL H2.length RX := by rw [hRX]; simp [resC]
        have q4 : QAt ((H2.set (h.length + 2) RX).set (h.length + 1) RX) i o2 most (l.drop (flN l)) := q3.move (by rw [List.getElem?_set_ne (by omega), List.getElem?_set_ne (by omega)]) (fun p2 hp2 => by
            have h1 : p2.1 ≠ h.length + 1 ∧ p2.1 ≠ h.length + 2 := by
              rcases b2 p2 hp2 with h1 | h1
              · have := b1 p2 h1; omega
              · omega
            rw [List.getElem?_set_ne (Ne.symm h1.1), List.getElem?_set_ne (Ne.symm h1.2)]) (by rw [List.length_set, List.length_set]; exact ltLL_set (ltLL_set q3.lt hRXl) hRXl)
        have hfin := q4.lt
        rw [List.length_set, List.length_set] at hfin
        refine ⟨(H2.set (h.length + 2) RX).set (h.length + 1) RX, o2, .sl 8 (enc enC (e :: l.take (flN l))) none .no, .sl 0 [] (some true) .exact, .sl 0 [] (some true) .exact, [i], ?_, fun q hq => by simpa using hq, .inl rfl, hnil _, hnil _, q4, by rw [List.length_set, List.length_set]; omega, fun q h1 h2 => by rw [List.getElem?_set_ne (by omega), List.getElem?_set_ne (by omega)]; exact hfq q h1 h2, fun p2 hp2 => ?_⟩
        rotate_left
        · rcases b2 p2 hp2 with h1 | h1
          · have := b1 p2 h1; exact .inr (by omega)
          · exact .inr (by omega)
        simp only [resC] at r1 r2 hRX ⊢
        unfold zRc at z1 z2 hA
        have hec : enc enC (e :: l.take (flN l)) = enC e :: enc enC (l.take (flN l)) := rfl
        rw [hec] at hRX
        have hn3 : ¬ h.length + 2 = i := by omega
        have hj2 : h.length + 2 < H2.length := by omega
        have hj1 : h.length + 1 < H2.length := by omega
        have hs1 : ∀ X : List AV, (H2.set (h.length + 2) X)[h.length + 1]? = some [.v (.bool false), .v (.int .i64 0), .v (.bool false), .v (.string (strB [])), .v (.string (strB [])), .sl 0 [] (some true) .exact, .sl 0 [] (some true) .exact, .sl 0 [] (some true) .exact, .sl 0 [] (some true) .exact, .sl 0 [] (some true) .exact, .sl 0 [] (some true) .exact, .sl 0 [] (some true) .exact, .v (.int .u8 0)] := fun X => by rw [List.getElem?_set_ne (by omega)]; exact z2
        have hs3 : ∀ X : List AV, (H2.set (h.length + 2) X)[h.length + 2]? = some X := fun X => List.getElem?_set_self hj2
        have hs4 : ∀ X Y : List AV, ((H2.set (h.length + 2) X).set (h.length + 1) Y)[h.length + 1]? = some Y := fun X Y => List.getElem?_set_self (by rw [List.length_set]; exact hj1)
        have hlq : ∀ A B C : List AV, leqC (h.length + 2) 0 A B → leqH 0 (List.take H2.length ((H2.set (h.length + 2) A).set (h.length + 1) C)) ((H2.set (h.length + 2) B).set (h.length + 1) C) := fun A B C hab => by
          rw [List.take_of_length_le (by rw [List.length_set, List.length_set]; exact Nat.le_refl _), List.set_comm A C (by omega), List.set_comm B C (by omega)]
          exact leqH_set hab
        have hbx : (H1 ++ [enC e])[H1.length]? = some (enC e) := by simp
        refine contract_of k37 mixed (by simp [c37]) fun hh hargs => ?_
        simp [c37, List.getElem?_append_left hil, List.getElem?_append_left hbl, hil, hig0, hbl, hbg, hlen0, hat0, hfit0, hg0]
        refine xcall_self (by simp) (rtakes_c e.kind b.kind hb0 hb1 _) ?_
        simp [t1', h90b, List.getElem?_append_left hil, List.getElem?_append_left hbl, hil, hig0, hbl, hbg, hone, hfit, hat1, hfit1, hg1c, lay_name]
        refine xcall_self (by simp) (rends_c e.kind b.kind hb0 hb1 _) ?_
        simp [t2]
        rw [← hA]
        refine xcall_self (by simp) cp ?_
        simp [hbx]
        have hb144 : (min (flN l) l.length + 1) * 144 ≤ 140737488355328 := by omega
        refine ⟨?_, ?_⟩
        · refine xcall_self (by simp) cf ?_
          simp [r2, hn3]
          refine ⟨by omega, by omega, by omega, ?_⟩
          simp [hs1, hs3, hs4, leqH_take]
          subst hRX
          exact ⟨by omega, hlq _ _ _ (by simp), hfin, fun h => by omega⟩
        · refine xcall_self (by simp) cf ?_
          simp [r2, hn3]
          refine ⟨by omega, by omega, by omega, ?_⟩
          simp [hs1, hs3, hs4, leqH_take]
          subst hRX
          exact ⟨by omega, hlq _ _ _ (by simp), hfin, fun h => by omega⟩
      | false =>
        cases t3 : failsB e.kind b.kind with
        | false =>
          have hR : gotR (e :: l) b.kind b.status = (0, ⟨!e.hide, e, [], [], [], b.status⟩, e :: l) := by unfold gotR; dsimp only; rw [if_neg t1, if_neg (by rw [t2]; simp), if_neg (by rw [t3]; simp)]; simp [h90]
          have hK : gotK (e :: l) b.kind = 0 := by unfold gotK; dsimp only; rw [if_neg t1, if_neg (by rw [t2]; simp), if_neg (by rw [t3]; simp)]
          rw [hR, hK]
          refine ⟨h, some p, .sl 0 [] (some true) .exact, .sl 0 [] (some true) .exact, .sl 0 [] (some true) .exact, [], ?_, fun q hq => (by cases hq), hnil _, hnil _, hnil _, ht, Nat.le_refl _, fun _ _ _ => rfl, fun p hp => .inl hp⟩
          simp only [resC]
          refine contract_of k37 mixed (by simp [c37]) fun hh hargs => ?_
          simp [c37, List.getElem?_append_left hil, List.getElem?_append_left hbl, hil, hig0, hbl, hbg, hlen0, hat0, hfit0, hg0]
          refine xcall_self (by simp) (rtakes_c e.kind b.kind hb0 hb1 _) ?_
          simp [t1', h90b, List.getElem?_append_left hil, List.getElem?_append_left hbl, hil, hig0, hbl, hbg, hone, hfit, hat1, hfit1, hg1c, lay_name]
          refine xcall_self (by simp) (rends_c e.kind b.kind hb0 hb1 _) ?_
          simp [t2]
          refine xcall_self (by simp) (rfails_c e.kind b.kind hb0 hb1 _) ?_
          simp [t3, hh, leqH_take, lay_name]
          trace_state
          try omega
        | true =>
          have hR : gotR (e :: l) b.kind b.status = (0, ⟨if sw l e b.kind = true then true else !e.hide, if sw l e b.kind = true then l.headD zE else e, (l.drop (skN l)).take (flN (l.drop (skN l))), [e], l.take (skN l), b.status⟩, (l.drop (skN l)).drop (flN (l.drop (skN l)))) := by unfold gotR; dsimp only; rw [if_neg t1, if_neg (by rw [t2]; simp), if_pos t3]; simp [h90]
          have hK : gotK (e :: l) b.kind = 1 + (skN l + flN (l.drop (skN l))) := by unfold gotK; dsimp only; rw [if_neg t1, if_neg (by rw [t2]; simp), if_pos t3]
          rw [hR, hK]
          have hdk : List.drop (1 + (skN l + flN (l.drop (skN l)))) (e :: l) = (l.drop (skN l)).drop (flN (l.drop (skN l))) := by rw [Nat.add_comm, List.drop_succ_cons, List.drop_drop]
          rw [hdk]
          obtain ⟨D, hD⟩ : ∃ D, D = (l.drop (skN l)).take (flN (l.drop (skN l))) := ⟨_, rfl⟩
          rw [← hD]
          obtain ⟨H1, o1, cp, q1, l1, g1, b1⟩ := rpop_e hA4 (by omega)
          have r1 : H1[h.length + 2]? = some (resC (!e.hide) e (.sl 0 [] (some true) .exact) (.sl 0 [] (some true) .exact) (.sl 0 [] (some true) .exact) b.status) := by rw [g1 _ (by omega) (by omega)]; exact hA2
          have z1 : H1[h.length + 1]? = some zRc := by rw [g1 _ (by omega) (by omega)]; exact hA1
          have k1 : H1[h.length]? = some (bkC b) := by rw [g1 _ (by omega) (by omega), hA]; simp
          have hbx : (H1 ++ [enC e])[H1.length]? = some (enC e) := by simp
          have hbr : (H1 ++ [enC e])[h.length + 2]? = some (resC (!e.hide) e (.sl 0 [] (some true) .exact) (.sl 0 [] (some true) .exact) (.sl 0 [] (some true) .exact) b.status) := by rw [List.getElem?_append_left (by omega)]; exact r1
          obtain ⟨A1, hA1e⟩ : ∃ A1, A1 = (H1 ++ [enC e]).set (h.length + 2) (resC (!e.hide) e (.sl 0 [] (some true) .exact) (.sl 8 [enC e] (some false) .exact) (.sl 0 [] (some true) .exact) (b.status)) := ⟨_, rfl⟩
          have hA1l : A1.length = H1.length + 1 := by rw [hA1e, List.length_set]; simp
          have hA1g : ∀ q, q < H1.length → q ≠ h.length + 2 → A1[q]? = H1[q]? := fun q h1 h2 => by rw [hA1e, List.getElem?_set_ne (Ne.symm h2), List.getElem?_append_left h1]
          have q2 : QAt A1 i o1 most l := q1.move (hA1g i (by omega) (by omega)) (fun p2 hp2 => by
            have h1 := q1.bl hp2
            have h2 := b1 p2 hp2
            exact hA1g p2.1 h1 (by omega)) (by rw [hA1l, hA1e]; exact ltLL_set (ltLL_append.2 ⟨ltLL_mono (Nat.le_succ _) q1.lt, by simp⟩) (by simp [resC]))
          have rA1 : A1[h.length + 2]? = some (resC (!e.hide) e (.sl 0 [] (some true) .exact) (.sl 8 [enC e] (some false) .exact) (.sl 0 [] (some true) .exact) (b.status)) := by rw [hA1e]; exact List.getElem?_set_self (by simp; omega)
          have eA1 : A1[H1.length]? = some (enC e) := by rw [hA1e, List.getElem?_set_ne (by omega)]; exact hbx
          obtain ⟨H3, o3, v, cs2, q3, ev, l3, g3, b3, bv, sv⟩ := rskip_e q2 (by omega)
          have r3 : H3[h.length + 2]? = some (resC (!e.hide) e (.sl 0 [] (some true) .exact) (.sl 8 [enC e] (some false) .exact) (.sl 0 [] (some true) .exact) (b.status)) := by rw [g3 _ (by omega) (by omega)]; exact rA1
          have z3 : H3[h.length + 1]? = some zRc := by rw [g3 _ (by omega) (by omega), hA1g _ (by omega) (by omega)]; exact z1
          have k3 : H3[h.length]? = some (bkC b) := by rw [g3 _ (by omega) (by omega), hA1g _ (by omega) (by omega)]; exact k1
          have e3 : H3[H1.length]? = some (enC e) := by rw [g3 _ (by omega) (by omega)]; exact eA1
          have q3g : ∀ q, q < h.length → q ≠ i → H3[q]? = h[q]? := fun q h1 h2 => by rw [g3 q (by omega) h2, hA1g q (by omega) (by omega), g1 q (by omega) h2, hAq q h1]
          have hvl : ∀ n, H3.length ≤ n → v.lt n := fun n hn => ev.lt hn
          have i1 := ev.id
          have u1 := ev.unown
          have c1 := ev.cells
          have n1 := ev.len
          have hske := skN_le l
          have hdl : (l.take (skN l)).length = skN l := by rw [List.length_take]; omega
          rw [hdl] at n1
          have hDl : D.length ≤ 1000 := by rw [hD, List.length_take, List.length_drop]; omega
          obtain ⟨RX, hRX⟩ : ∃ RX : Bool → En → List AV, ∀ s n, RX s n = resC s n (.sl 8 (enc enC D) none .no) (.sl 8 [enC e] (some false) .exact) v (b.status) := ⟨_, fun _ _ => rfl⟩
          have hRXl : ∀ s n m, H3.length ≤ m → ltL m (RX s n) := fun s n m hm => by rw [hRX]; simp [resC]; exact hvl m hm
          have tl : ∀ (s : Bool) (n : En), ∃ H4 o4, Contract Try.prog 35 [.box i 0] (H3.set (h.length + 2) (resC s n (.sl 0 [] (some true) .exact) (.sl 8 [enC e] (some false) .exact) (v) (b.status))) (.sl 8 (enc enC D) none .no) H4 [i] ∧
              QAt ((H4.set (h.length + 2) (RX s n)).set (h.length + 1) (RX s n)) i o4 most ((l.drop (skN l)).drop (flN (l.drop (skN l)))) ∧ H4[h.length + 2]? = some (resC s n (.sl 0 [] (some true) .exact) (.sl 8 [enC e] (some false) .exact) (v) (b.status)) ∧ H4[h.length + 1]? = some zRc ∧
              EAt ((H4.set (h.length + 2) (RX s n)).set (h.length + 1) (RX s n)) v (l.take (skN l)) ∧ H3.length ≤ H4.length ∧ (∀ q, q < h.length → q ≠ i → H4[q]? = h[q]?) ∧ (∀ p2, o4 = some p2 → h.length ≤ p2.1) := fun s n => by
            have q4 : QAt (H3.set (h.length + 2) (resC s n (.sl 0 [] (some true) .exact) (.sl 8 [enC e] (some false) .exact) (v) (b.status))) i o3 most (l.drop (skN l)) := q3.move (List.getElem?_set_ne (by omega)) (fun p2 hp2 => by
              have h2 := b3 p2 hp2
              exact List.getElem?_set_ne (by omega)) (by rw [List.length_set]; exact ltLL_set q3.lt (by simp [resC]; exact hvl _ (Nat.le_refl _)))
            obtain ⟨H4, o4, cf, q5, l5, g5, b5⟩ := rflush_c q4 (by rw [List.length_drop]; omega)
            rw [List.length_set] at l5 g5 b5
            rw [← hD] at cf
            have ho4 : ∀ p2, o4 = some p2 → A1.length ≤ p2.1 := fun p2 hp2 => by
              rcases b5 p2 hp2 with h1 | h1
              · exact b3 p2 h1
              · omega
            refine ⟨H4, o4, cf, ?_, ?_, ?_, ?_, l5, fun q h1 h2 => ?_, fun p2 hp2 => by have := ho4 p2 hp2; omega⟩
            · refine q5.move (by rw [List.getElem?_set_ne (by omega), List.getElem?_set_ne (by omega)]) (fun p2 hp2 => ?_) (by rw [List.length_set, List.length_set]; exact ltLL_set (ltLL_set q5.lt (hRXl _ _ _ l5)) (hRXl _ _ _ l5))
              have h2 := ho4 p2 hp2
              rw [List.getElem?_set_ne (by omega), List.getElem?_set_ne (by omega)]
            · rw [g5 _ (by omega) (by omega)]; exact List.getElem?_set_self (by omega)
            · rw [g5 _ (by omega) (by omega), List.getElem?_set_ne (by omega)]; exact z3
            · refine ev.stay fun bb off hb => ?_
              have h2 := bv _ _ _ _ hb
              have h3 : bb < H3.length := by
                have := hvl H3.length (Nat.le_refl _)
                rw [hb] at this
                simpa using this
              rw [List.getElem?_set_ne (by omega), List.getElem?_set_ne (by omega), g5 bb h3 (by omega), List.getElem?_set_ne (by omega)]
            · rw [g5 q (by omega) h2, List.getElem?_set_ne (by omega)]; exact q3g q h1 h2
          have hlq : ∀ (H4 : List (List AV)) (A B C : List AV), h.length + 2 < H4.length → leqC (h.length + 2) 0 A B → leqH 0 (List.take H4.length ((H4.set (h.length + 2) A).set (h.length + 1) C)) ((H4.set (h.length + 2) B).set (h.length + 1) C) := fun H4 A B C _ hab => by
            rw [List.take_of_length_le (by rw [List.length_set, List.length_set]; exact Nat.le_refl _), List.set_comm A C (by omega), List.set_comm B C (by omega)]
            exact leqH_set hab
          have hn3 : ¬ h.length + 2 = i := by omega
          have hn4 : ¬ H1.length = i := by omega
          cases hsw : sw l e b.kind with
          | false =>
            obtain ⟨H4, o4, cf, q4, r4, z4, ev4, l4, g4, b4⟩ := tl (!e.hide) e
            have hfin := q4.lt
            rw [List.length_set, List.length_set] at hfin
            refine ⟨(H4.set (h.length + 2) (RX (!e.hide) e)).set (h.length + 1) (RX (!e.hide) e), o4, .sl 8 (enc enC D) none .no, .sl 8 (enc enC [e]) none .no, v, [i], ?_, fun q hq => by simpa using hq, .inl rfl, .inl rfl, ev4, q4, by rw [List.length_set, List.length_set]; omega, fun q h1 h2 => by rw [List.getElem?_set_ne (by omega), List.getElem?_set_ne (by omega)]; exact g4 q h1 h2, fun p2 hp2 => .inr (b4 p2 hp2)⟩
            simp only [resC] at *
            unfold zRc at z4 hA
            refine contract_of k37 mixed (by simp [c37]) fun hh hargs => ?_
            simp [c37, List.getElem?_append_left hil, List.getElem?_append_left hbl, hil, hig0, hbl, hbg, hlen0, hat0, hfit0, hg0]
            refine xcall_self (by simp) (rtakes_c e.kind b.kind hb0 hb1 _) ?_
            simp [t1', h90b, List.getElem?_append_left hil, List.getElem?_append_left hbl, hil, hig0, hbl, hbg, hone, hfit, hat1, hfit1, hg1c, lay_name]
            refine xcall_self (by simp) (rends_c e.kind b.kind hb0 hb1 _) ?_
            simp [t2]
            refine xcall_self (by simp) (rfails_c e.kind b.kind hb0 hb1 _) ?_
            simp [t3]
            rw [← hA]
            refine xcall_self (by simp) cp ?_
            simp [hbx, hbr]
            rw [← hA1e]
            refine xcall_self (by simp) cs2 ?_
            have hsr : ∀ X : List AV, (H3.set (h.length + 2) X)[h.length + 2]? = some X := fun X => List.getElem?_set_self (by omega)
            have hse : ∀ X : List AV, (H3.set (h.length + 2) X)[H1.length]? = some (enC e) := fun X => by rw [List.getElem?_set_ne (by omega)]; exact e3
            have hsk : ∀ X : List AV, (H3.set (h.length + 2) X)[h.length]? = some (bkC b) := fun X => by rw [List.getElem?_set_ne (by omega)]; exact k3
            simp [-vLenL, r3, i1, u1, c1, hsr, hse, hsk]
            cases s1 : e.hide with
            | false =>
              simp [-vLenL, i1, u1, c1]
              try simp only [s1, Bool.not_false, Bool.not_true] at cf r4 hfin
              refine xcall_self (by simp) cf ?_
              simp [-vLenL, r4, hn3, hn4, i1, u1, c1]
              have hs1 : ∀ X : List AV, (H4.set (h.length + 2) X)[h.length + 1]? = some [.v (.bool false), .v (.int .i64 0), .v (.bool false), .v (.string (strB [])), .v (.string (strB [])), .sl 0 [] (some true) .exact, .sl 0 [] (some true) .exact, .sl 0 [] (some true) .exact, .sl 0 [] (some true) .exact, .sl 0 [] (some true) .exact, .sl 0 [] (some true) .exact, .sl 0 [] (some true) .exact, .v (.int .u8 0)] := fun X => by rw [List.getElem?_set_ne (by omega)]; exact z4
              have hs3 : ∀ X : List AV, (H4.set (h.length + 2) X)[h.length + 2]? = some X := fun X => List.getElem?_set_self (by omega)
              have hs4 : ∀ X Y : List AV, ((H4.set (h.length + 2) X).set (h.length + 1) Y)[h.length + 1]? = some Y := fun X Y => List.getElem?_set_self (by rw [List.length_set]; omega)
              simp [-vLenL, hs1, hs3, hs4, i1, u1, c1, leqH_take]
              simp only [hRX, s1] at hfin ⊢
              refine ⟨by omega, by have := hvl H4.length l4; simpa using this, leqH_take (by rw [List.length_set, List.length_set]), hfin, fun h => absurd h (by omega)⟩
            | true =>
              by_cases s2 : 0 < skN l
              · have s2i : (0 : Int) < ((skN l : Nat) : Int) := by omega
                obtain ⟨vb, hv⟩ := sv s2
                subst hv
                have hvbl := bv _ _ _ _ rfl
                have hrv := ev.rowsAt
                obtain ⟨cs3, hb3, hrd3⟩ := hrv.reads
                have hp3 : 0 < (l.take (skN l)).length := by omega
                have x0 : (l.take (skN l))[0] = l.headD zE := by cases l with | nil => simp [skN] at s2 | cons x l => simp
                have hone3 := hrd3.one 0 hp3
                have hfit3 := hrd3.fit 0 hp3
                have hat30 := hrd3.at_ hp3 0 (by omega)
                have hat31 := hrd3.at_ hp3 1 (by omega)
                simp only [Nat.zero_mul, Nat.add_zero, Nat.zero_add, List.drop_zero] at hone3 hfit3 hat30 hat31
                rw [x0] at hone3 hat30 hat31
                rw [enC_0] at hat30
                rw [enC_1] at hat31
                have hf30 : 0 < cs3.length := by omega
                have hf31 : 1 < cs3.length := by omega
                have hg30 : cs3[0] = .v (.int .i64 (l.headD zE).kind) := by rw [List.getElem?_eq_getElem hf30] at hat30; injection hat30
                have hg31 : cs3[1] = .v (.bool (l.headD zE).hide) := by rw [List.getElem?_eq_getElem hf31] at hat31; injection hat31
                have hsv : ∀ X : List AV, (H3.set (h.length + 2) X)[vb]? = some cs3 := fun X => by rw [List.getElem?_set_ne (by omega)]; exact hb3
                have hswe : sw l e b.kind = (e.hide && (decide (0 < skN l) && (!(l.headD zE).hide && failsB (l.headD zE).kind b.kind))) := rfl
                generalize l.headD zE = x at *
                cases s3 : x.hide with
                | true =>
                  simp [-vLenL, vLenL_bsl, s1, s2, s2i, s3, hsr, hsv, hf30, hf31, hg30, hg31]
                  try simp only [s1, Bool.not_false, Bool.not_true] at cf r4 hfin
                  refine xcall_self (by simp) cf ?_
                  simp [-vLenL, r4, hn3, hn4, i1, u1, c1]
                  have hs1 : ∀ X : List AV, (H4.set (h.length + 2) X)[h.length + 1]? = some [.v (.bool false), .v (.int .i64 0), .v (.bool false), .v (.string (strB [])), .v (.string (strB [])), .sl 0 [] (some true) .exact, .sl 0 [] (some true) .exact, .sl 0 [] (some true) .exact, .sl 0 [] (some true) .exact, .sl 0 [] (some true) .exact, .sl 0 [] (some true) .exact, .sl 0 [] (some true) .exact, .v (.int .u8 0)] := fun X => by rw [List.getElem?_set_ne (by omega)]; exact z4
                  have hs3 : ∀ X : List AV, (H4.set (h.length + 2) X)[h.length + 2]? = some X := fun X => List.getElem?_set_self (by omega)
                  have hs4 : ∀ X Y : List AV, ((H4.set (h.length + 2) X).set (h.length + 1) Y)[h.length + 1]? = some Y := fun X Y => List.getElem?_set_self (by rw [List.length_set]; omega)
                  simp [-vLenL, hs1, hs3, hs4, i1, u1, c1, leqH_take]
                  simp only [hRX, s1] at hfin ⊢
                  refine ⟨by omega, by have := hvl H4.length l4; simpa using this, leqH_take (by rw [List.length_set, List.length_set]), hfin, fun h => absurd h (by omega)⟩
                | false =>
                  simp [-vLenL, vLenL_bsl, s1, s2, s2i, s3, hsr, hsv, hf30, hf31, hg30, hg31, hsk]
                  refine xcall_self (by simp) (rfails_c x.kind b.kind hb0 hb1 _) ?_
                  have s4 : failsB x.kind b.kind = false := by
                    rw [hsw, s1, s3, decide_eq_true s2] at hswe
                    simpa using hswe.symm
                  simp [s4]
                  try simp only [s1, Bool.not_false, Bool.not_true] at cf r4 hfin
                  refine xcall_self (by simp) cf ?_
                  simp [-vLenL, r4, hn3, hn4, i1, u1, c1]
                  have hs1 : ∀ X : List AV, (H4.set (h.length + 2) X)[h.length + 1]? = some [.v (.bool false), .v (.int .i64 0), .v (.bool false), .v (.string (strB [])), .v (.string (strB [])), .sl 0 [] (some true) .exact, .sl 0 [] (some true) .exact, .sl 0 [] (some true) .exact, .sl 0 [] (some true) .exact, .sl 0 [] (some true) .exact, .sl 0 [] (some true) .exact, .sl 0 [] (some true) .exact, .v (.int .u8 0)] := fun X => by rw [List.getElem?_set_ne (by omega)]; exact z4
                  have hs3 : ∀ X : List AV, (H4.set (h.length + 2) X)[h.length + 2]? = some X := fun X => List.getElem?_set_self (by omega)
                  have hs4 : ∀ X Y : List AV, ((H4.set (h.length + 2) X).set (h.length + 1) Y)[h.length + 1]? = some Y := fun X Y => List.getElem?_set_self (by rw [List.length_set]; omega)
                  simp [-vLenL, hs1, hs3, hs4, i1, u1, c1, leqH_take]
                  simp only [hRX, s1] at hfin ⊢
                  refine ⟨by omega, by have := hvl H4.length l4; simpa using this, leqH_take (by rw [List.length_set, List.length_set]), hfin, fun h => absurd h (by omega)⟩
              · have s2i : ¬ (0 : Int) < ((skN l : Nat) : Int) := by omega
                simp [-vLenL, n1, s1, s2, s2i, i1, u1, c1, hsr]
                try simp only [s1, Bool.not_false, Bool.not_true] at cf r4 hfin
                refine xcall_self (by simp) cf ?_
                simp [-vLenL, r4, hn3, hn4, i1, u1, c1]
                have hs1 : ∀ X : List AV, (H4.set (h.length + 2) X)[h.length + 1]? = some [.v (.bool false), .v (.int .i64 0), .v (.bool false), .v (.string (strB [])), .v (.string (strB [])), .sl 0 [] (some true) .exact, .sl 0 [] (some true) .exact, .sl 0 [] (some true) .exact, .sl 0 [] (some true) .exact, .sl 0 [] (some true) .exact, .sl 0 [] (some true) .exact, .sl 0 [] (some true) .exact, .v (.int .u8 0)] := fun X => by rw [List.getElem?_set_ne (by omega)]; exact z4
                have hs3 : ∀ X : List AV, (H4.set (h.length + 2) X)[h.length + 2]? = some X := fun X => List.getElem?_set_self (by omega)
                have hs4 : ∀ X Y : List AV, ((H4.set (h.length + 2) X).set (h.length + 1) Y)[h.length + 1]? = some Y := fun X Y => List.getElem?_set_self (by rw [List.length_set]; omega)
                simp [-vLenL, hs1, hs3, hs4, i1, u1, c1, leqH_take]
                simp only [hRX, s1] at hfin ⊢
                refine ⟨by omega, by have := hvl H4.length l4; simpa using this, leqH_take (by rw [List.length_set, List.length_set]), hfin, fun h => absurd h (by omega)⟩
          | true =>
            have hsw2 := hsw
            unfold sw at hsw2
            simp only [Bool.and_eq_true, decide_eq_true_eq, Bool.not_eq_true'] at hsw2
            obtain ⟨s1, s2, s3, s4⟩ := hsw2
            obtain ⟨x, hx⟩ : ∃ x, x = l.headD zE := ⟨_, rfl⟩
            rw [← hx] at s3 s4 ⊢
            obtain ⟨H4, o4, cf, q4, r4, z4, ev4, l4, g4, b4⟩ := tl true x
            have hfin := q4.lt
            rw [List.length_set, List.length_set] at hfin
            refine ⟨(H4.set (h.length + 2) (RX true x)).set (h.length + 1) (RX true x), o4, .sl 8 (enc enC D) none .no, .sl 8 (enc enC [e]) none .no, v, [i], ?_, fun q hq => by simpa using hq, .inl rfl, .inl rfl, ev4, q4, by rw [List.length_set, List.length_set]; omega, fun q h1 h2 => by rw [List.getElem?_set_ne (by omega), List.getElem?_set_ne (by omega)]; exact g4 q h1 h2, fun p2 hp2 => .inr (b4 p2 hp2)⟩
            simp only [resC] at *
            unfold zRc at z4 hA
            refine contract_of k37 mixed (by simp [c37]) fun hh hargs => ?_
            simp [c37, List.getElem?_append_left hil, List.getElem?_append_left hbl, hil, hig0, hbl, hbg, hlen0, hat0, hfit0, hg0]
            refine xcall_self (by simp) (rtakes_c e.kind b.kind hb0 hb1 _) ?_
            simp [t1', h90b, List.getElem?_append_left hil, List.getElem?_append_left hbl, hil, hig0, hbl, hbg, hone, hfit, hat1, hfit1, hg1c, lay_name]
            refine xcall_self (by simp) (rends_c e.kind b.kind hb0 hb1 _) ?_
            simp [t2]
            refine xcall_self (by simp) (rfails_c e.kind b.kind hb0 hb1 _) ?_
            simp [t3]
            rw [← hA]
            refine xcall_self (by simp) cp ?_
            simp [hbx, hbr]
            rw [← hA1e]
            refine xcall_self (by simp) cs2 ?_
            have hsr : ∀ X : List AV, (H3.set (h.length + 2) X)[h.length + 2]? = some X := fun X => List.getElem?_set_self (by omega)
            have hse : ∀ X : List AV, (H3.set (h.length + 2) X)[H1.length]? = some (enC e) := fun X => by rw [List.getElem?_set_ne (by omega)]; exact e3
            have hsk : ∀ X : List AV, (H3.set (h.length + 2) X)[h.length]? = some (bkC b) := fun X => by rw [List.getElem?_set_ne (by omega)]; exact k3
            simp [-vLenL, r3, i1, u1, c1, hsr, hse, hsk]
            have s2i : (0 : Int) < ((skN l : Nat) : Int) := by omega
            obtain ⟨vb, hv⟩ := sv s2
            subst hv
            have hvbl := bv _ _ _ _ rfl
            have hrv := ev.rowsAt
            obtain ⟨cs3, hb3, hrd3⟩ := hrv.reads
            have hp3 : 0 < (l.take (skN l)).length := by omega
            have x0 : (l.take (skN l))[0] = x := by rw [hx]; cases l with | nil => simp [skN] at s2 | cons x l => simp
            have hone3 := hrd3.one 0 hp3
            have hfit3 := hrd3.fit 0 hp3
            have hat30 := hrd3.at_ hp3 0 (by omega)
            have hat31 := hrd3.at_ hp3 1 (by omega)
            simp only [Nat.zero_mul, Nat.add_zero, Nat.zero_add, List.drop_zero] at hone3 hfit3 hat30 hat31
            rw [x0] at hone3 hat30 hat31
            rw [enC_0] at hat30
            rw [enC_1] at hat31
            have hf30 : 0 < cs3.length := by omega
            have hf31 : 1 < cs3.length := by omega
            have hg30 : cs3[0] = .v (.int .i64 x.kind) := by rw [List.getElem?_eq_getElem hf30] at hat30; injection hat30
            have hg31 : cs3[1] = .v (.bool x.hide) := by rw [List.getElem?_eq_getElem hf31] at hat31; injection hat31
            have hsv : ∀ X : List AV, (H3.set (h.length + 2) X)[vb]? = some cs3 := fun X => by rw [List.getElem?_set_ne (by omega)]; exact hb3
            have hlay := fun (a b1 b2 b3 b4 b5 b6 b7 b8 c1 c2 c3 r : AV) => lay_name a b1 b2 b3 b4 b5 b6 b7 b8 c1 c2 c3 r x
            simp [-vLenL, vLenL_bsl, s1, s2, s2i, s3, hsr, hse, hsv, hf30, hf31, hg30, hg31, hsk]
            refine xcall_self (by simp) (rfails_c x.kind b.kind hb0 hb1 _) ?_
            simp [s4, hone3, hfit3, hsv, hsr, hlay]
            refine ⟨s2, ?_⟩
            try simp only [s1, Bool.not_false, Bool.not_true] at cf r4 hfin
            refine xcall_self (by simp) cf ?_
            simp [-vLenL, r4, hn3, hn4, i1, u1, c1]
            have hs1 : ∀ X : List AV, (H4.set (h.length + 2) X)[h.length + 1]? = some [.v (.bool false), .v (.int .i64 0), .v (.bool false), .v (.string (strB [])), .v (.string (strB [])), .sl 0 [] (some true) .exact, .sl 0 [] (some true) .exact, .sl 0 [] (some true) .exact, .sl 0 [] (some true) .exact, .sl 0 [] (some true) .exact, .sl 0 [] (some true) .exact, .sl 0 [] (some true) .exact, .v (.int .u8 0)] := fun X => by rw [List.getElem?_set_ne (by omega)]; exact z4
            have hs3 : ∀ X : List AV, (H4.set (h.length + 2) X)[h.length + 2]? = some X := fun X => List.getElem?_set_self (by omega)
            have hs4 : ∀ X Y : List AV, ((H4.set (h.length + 2) X).set (h.length + 1) Y)[h.length + 1]? = some Y := fun X Y => List.getElem?_set_self (by rw [List.length_set]; omega)
            simp [-vLenL, hs1, hs3, hs4, i1, u1, c1, leqH_take]
            simp only [hRX, s1] at hfin ⊢
            refine ⟨by omega, s3, by have := hvl H4.length l4; simpa using this, leqH_take (by rw [List.length_set, List.length_set]), hfin, fun h => absurd h (by omega)⟩
    · have h90b : (b.kind == 90) = false := by simpa using h90
      obtain ⟨A, hA⟩ : ∃ A, A = h ++ [bkC b, zRc, (resC (!e.hide) e (.sl 0 [] (some true) .exact) (.sl 0 [] (some true) .exact) (.sl 0 [] (some true) .exact) 0)] := ⟨_, rfl⟩
      have hAl : A.length = h.length + 3 := by rw [hA]; simp
      have hA4 : QAt A i (some p) most (e :: l) := by rw [hA]; exact ht.app _ (by simp [zRc, resC])
      have hAq : ∀ q, q < h.length → A[q]? = h[q]? := fun q hq => by rw [hA, List.getElem?_append_left hq]
      have hA1 : A[h.length + 1]? = some zRc := by rw [hA]; simp
      have hA2 : A[h.length + 2]? = some (resC (!e.hide) e (.sl 0 [] (some true) .exact) (.sl 0 [] (some true) .exact) (.sl 0 [] (some true) .exact) 0) := by rw [hA]; simp
      simp only [resC] at hA
      cases t2 : endsB e.kind b.kind with
      | true =>
        have hR : gotR (e :: l) b.kind b.status = (0, ⟨!e.hide, e, e :: l.take (flN l), [], [], 0⟩, l.drop (flN l)) := by unfold gotR; dsimp only; rw [if_neg t1, if_pos t2]; simp [h90]
        have hK : gotK (e :: l) b.kind = 1 + flN l := by unfold gotK; dsimp only; rw [if_neg t1, if_pos t2]
        rw [hR, hK, Nat.add_comm, List.drop_succ_cons]
        obtain ⟨H1, o1, cp, q1, l1, g1, b1⟩ := rpop_e hA4 (by omega)
        have r1 : H1[h.length + 2]? = some (resC (!e.hide) e (.sl 0 [] (some true) .exact) (.sl 0 [] (some true) .exact) (.sl 0 [] (some true) .exact) 0) := by rw [g1 _ (by omega) (by omega)]; exact hA2
        have z1 : H1[h.length + 1]? = some zRc := by rw [g1 _ (by omega) (by omega)]; exact hA1
        have q2 := q1.app [enC e] (by simp)
        obtain ⟨H2, o2, cf, q3, l2, g2, b2⟩ := rflush_c q2 (by omega)
        have hn1 : (H1 ++ [enC e]).length = H1.length + 1 := by simp
        rw [hn1] at l2 g2 b2
        have hap : ∀ q, q < H1.length → (H1 ++ [enC e])[q]? = H1[q]? := fun q hq => List.getElem?_append_left hq
        have r2 : H2[h.length + 2]? = some (resC (!e.hide) e (.sl 0 [] (some true) .exact) (.sl 0 [] (some true) .exact) (.sl 0 [] (some true) .exact) 0) := by rw [g2 _ (by omega) (by omega), hap _ (by omega)]; exact r1
        have z2 : H2[h.length + 1]? = some zRc := by rw [g2 _ (by omega) (by omega), hap _ (by omega)]; exact z1
        have hfq : ∀ q, q < h.length → q ≠ i → H2[q]? = h[q]? := fun q h1 h2 => by rw [g2 q (by omega) h2, hap q (by omega), g1 q (by omega) h2, hAq q h1]
        obtain ⟨RX, hRX⟩ : ∃ RX, RX = (resC (!e.hide) e (.sl 8 (enc enC (e :: l.take (flN l))) none .no) (.sl 0 [] (some true) .exact) (.sl 0 [] (some true) .exact) 0) := ⟨_, rfl⟩
        have hRXl : ltL H2.length RX := by rw [hRX]; simp [resC]
        have q4 : QAt ((H2.set (h.length + 2) RX).set (h.length + 1) RX) i o2 most (l.drop (flN l)) := q3.move (by rw [List.getElem?_set_ne (by omega), List.getElem?_set_ne (by omega)]) (fun p2 hp2 => by
            have h1 : p2.1 ≠ h.length + 1 ∧ p2.1 ≠ h.length + 2 := by
              rcases b2 p2 hp2 with h1 | h1
              · have := b1 p2 h1; omega
              · omega
            rw [List.getElem?_set_ne (Ne.symm h1.1), List.getElem?_set_ne (Ne.symm h1.2)]) (by rw [List.length_set, List.length_set]; exact ltLL_set (ltLL_set q3.lt hRXl) hRXl)
        have hfin := q4.lt
        rw [List.length_set, List.length_set] at hfin
        refine ⟨(H2.set (h.length + 2) RX).set (h.length + 1) RX, o2, .sl 8 (enc enC (e :: l.take (flN l))) none .no, .sl 0 [] (some true) .exact, .sl 0 [] (some true) .exact, [i], ?_, fun q hq => by simpa using hq, .inl rfl, hnil _, hnil _, q4, by rw [List.length_set, List.length_set]; omega, fun q h1 h2 => by rw [List.getElem?_set_ne (by omega), List.getElem?_set_ne (by omega)]; exact hfq q h1 h2, fun p2 hp2 => ?_⟩
        rotate_left
        · rcases b2 p2 hp2 with h1 | h1
          · have := b1 p2 h1; exact .inr (by omega)
          · exact .inr (by omega)
        simp only [resC] at r1 r2 hRX ⊢
        unfold zRc at z1 z2 hA
        have hec : enc enC (e :: l.take (flN l)) = enC e :: enc enC (l.take (flN l)) := rfl
        rw [hec] at hRX
        have hn3 : ¬ h.length + 2 = i := by omega
        have hj2 : h.length + 2 < H2.length := by omega
        have hj1 : h.length + 1 < H2.length := by omega
        have hs1 : ∀ X : List AV, (H2.set (h.length + 2) X)[h.length + 1]? = some [.v (.bool false), .v (.int .i64 0), .v (.bool false), .v (.string (strB [])), .v (.string (strB [])), .sl 0 [] (some true) .exact, .sl 0 [] (some true) .exact, .sl 0 [] (some true) .exact, .sl 0 [] (some true) .exact, .sl 0 [] (some true) .exact, .sl 0 [] (some true) .exact, .sl 0 [] (some true) .exact, .v (.int .u8 0)] := fun X => by rw [List.getElem?_set_ne (by omega)]; exact z2
        have hs3 : ∀ X : List AV, (H2.set (h.length + 2) X)[h.length + 2]? = some X := fun X => List.getElem?_set_self hj2
        have hs4 : ∀ X Y : List AV, ((H2.set (h.length + 2) X).set (h.length + 1) Y)[h.length + 1]? = some Y := fun X Y => List.getElem?_set_self (by rw [List.length_set]; exact hj1)
        have hlq : ∀ A B C : List AV, leqC (h.length + 2) 0 A B → leqH 0 (List.take H2.length ((H2.set (h.length + 2) A).set (h.length + 1) C)) ((H2.set (h.length + 2) B).set (h.length + 1) C) := fun A B C hab => by
          rw [List.take_of_length_le (by rw [List.length_set, List.length_set]; exact Nat.le_refl _), List.set_comm A C (by omega), List.set_comm B C (by omega)]
          exact leqH_set hab
        have hbx : (H1 ++ [enC e])[H1.length]? = some (enC e) := by simp
        refine contract_of k37 mixed (by simp [c37]) fun hh hargs => ?_
        simp [c37, List.getElem?_append_left hil, List.getElem?_append_left hbl, hil, hig0, hbl, hbg, hlen0, hat0, hfit0, hg0]
        refine xcall_self (by simp) (rtakes_c e.kind b.kind hb0 hb1 _) ?_
        simp [t1', h90b, List.getElem?_append_left hil, List.getElem?_append_left hbl, hil, hig0, hbl, hbg, hone, hfit, hat1, hfit1, hg1c, lay_name]
        refine xcall_self (by simp) (rends_c e.kind b.kind hb0 hb1 _) ?_
        simp [t2]
        rw [← hA]
        refine xcall_self (by simp) cp ?_
        simp [hbx]
        have hb144 : (min (flN l) l.length + 1) * 144 ≤ 140737488355328 := by omega
        refine ⟨?_, ?_⟩
        · refine xcall_self (by simp) cf ?_
          simp [r2, hn3]
          refine ⟨by omega, by omega, by omega, ?_⟩
          simp [hs1, hs3, hs4, leqH_take]
          subst hRX
          exact ⟨by omega, hlq _ _ _ (by simp), hfin, fun h => by omega⟩
        · refine xcall_self (by simp) cf ?_
          simp [r2, hn3]
          refine ⟨by omega, by omega, by omega, ?_⟩
          simp [hs1, hs3, hs4, leqH_take]
          subst hRX
          exact ⟨by omega, hlq _ _ _ (by simp), hfin, fun h => by omega⟩
      | false =>
        cases t3 : failsB e.kind b.kind with
        | false =>
          have hR : gotR (e :: l) b.kind b.status = (0, ⟨!e.hide, e, [], [], [], 0⟩, e :: l) := by unfold gotR; dsimp only; rw [if_neg t1, if_neg (by rw [t2]; simp), if_neg (by rw [t3]; simp)]; simp [h90]
          have hK : gotK (e :: l) b.kind = 0 := by unfold gotK; dsimp only; rw [if_neg t1, if_neg (by rw [t2]; simp), if_neg (by rw [t3]; simp)]
          rw [hR, hK]
          refine ⟨h, some p, .sl 0 [] (some true) .exact, .sl 0 [] (some true) .exact, .sl 0 [] (some true) .exact, [], ?_, fun q hq => (by cases hq), hnil _, hnil _, hnil _, ht, Nat.le_refl _, fun _ _ _ => rfl, fun p hp => .inl hp⟩
          simp only [resC]
          refine contract_of k37 mixed (by simp [c37]) fun hh hargs => ?_
          simp [c37, List.getElem?_append_left hil, List.getElem?_append_left hbl, hil, hig0, hbl, hbg, hlen0, hat0, hfit0, hg0]
          refine xcall_self (by simp) (rtakes_c e.kind b.kind hb0 hb1 _) ?_
          simp [t1', h90b, List.getElem?_append_left hil, List.getElem?_append_left hbl, hil, hig0, hbl, hbg, hone, hfit, hat1, hfit1, hg1c, lay_name]
          refine xcall_self (by simp) (rends_c e.kind b.kind hb0 hb1 _) ?_
          simp [t2]
          refine xcall_self (by simp) (rfails_c e.kind b.kind hb0 hb1 _) ?_
          simp [t3, hh, leqH_take, lay_name]
          trace_state
          try omega
        | true =>
          have hR : gotR (e :: l) b.kind b.status = (0, ⟨if sw l e b.kind = true then true else !e.hide, if sw l e b.kind = true then l.headD zE else e, (l.drop (skN l)).take (flN (l.drop (skN l))), [e], l.take (skN l), 0⟩, (l.drop (skN l)).drop (flN (l.drop (skN l)))) := by unfold gotR; dsimp only; rw [if_neg t1, if_neg (by rw [t2]; simp), if_pos t3]; simp [h90]
          have hK : gotK (e :: l) b.kind = 1 + (skN l + flN (l.drop (skN l))) := by unfold gotK; dsimp only; rw [if_neg t1, if_neg (by rw [t2]; simp), if_pos t3]
          rw [hR, hK]
          have hdk : List.drop (1 + (skN l + flN (l.drop (skN l)))) (e :: l) = (l.drop (skN l)).drop (flN (l.drop (skN l))) := by rw [Nat.add_comm, List.drop_succ_cons, List.drop_drop]
          rw [hdk]
          obtain ⟨D, hD⟩ : ∃ D, D = (l.drop (skN l)).take (flN (l.drop (skN l))) := ⟨_, rfl⟩
          rw [← hD]
          obtain ⟨H1, o1, cp, q1, l1, g1, b1⟩ := rpop_e hA4 (by omega)
          have r1 : H1[h.length + 2]? = some (resC (!e.hide) e (.sl 0 [] (some true) .exact) (.sl 0 [] (some true) .exact) (.sl 0 [] (some true) .exact) 0) := by rw [g1 _ (by omega) (by omega)]; exact hA2
          have z1 : H1[h.length + 1]? = some zRc := by rw [g1 _ (by omega) (by omega)]; exact hA1
          have k1 : H1[h.length]? = some (bkC b) := by rw [g1 _ (by omega) (by omega), hA]; simp
          have hbx : (H1 ++ [enC e])[H1.length]? = some (enC e) := by simp
          have hbr : (H1 ++ [enC e])[h.length + 2]? = some (resC (!e.hide) e (.sl 0 [] (some true) .exact) (.sl 0 [] (some true) .exact) (.sl 0 [] (some true) .exact) 0) := by rw [List.getElem?_append_left (by omega)]; exact r1
          obtain ⟨A1, hA1e⟩ : ∃ A1, A1 = (H1 ++ [enC e]).set (h.length + 2) (resC (!e.hide) e (.sl 0 [] (some true) .exact) (.sl 8 [enC e] (some false) .exact) (.sl 0 [] (some true) .exact) (0)) := ⟨_, rfl⟩
          have hA1l : A1.length = H1.length + 1 := by rw [hA1e, List.length_set]; simp
          have hA1g : ∀ q, q < H1.length → q ≠ h.length + 2 → A1[q]? = H1[q]? := fun q h1 h2 => by rw [hA1e, List.getElem?_set_ne (Ne.symm h2), List.getElem?_append_left h1]
          have q2 : QAt A1 i o1 most l := q1.move (hA1g i (by omega) (by omega)) (fun p2 hp2 => by
            have h1 := q1.bl hp2
            have h2 := b1 p2 hp2
            exact hA1g p2.1 h1 (by omega)) (by rw [hA1l, hA1e]; exact ltLL_set (ltLL_append.2 ⟨ltLL_mono (Nat.le_succ _) q1.lt, by simp⟩) (by simp [resC]))
          have rA1 : A1[h.length + 2]? = some (resC (!e.hide) e (.sl 0 [] (some true) .exact) (.sl 8 [enC e] (some false) .exact) (.sl 0 [] (some true) .exact) (0)) := by rw [hA1e]; exact List.getElem?_set_self (by simp; omega)
          have eA1 : A1[H1.length]? = some (enC e) := by rw [hA1e, List.getElem?_set_ne (by omega)]; exact hbx
          obtain ⟨H3, o3, v, cs2, q3, ev, l3, g3, b3, bv, sv⟩ := rskip_e q2 (by omega)
          have r3 : H3[h.length + 2]? = some (resC (!e.hide) e (.sl 0 [] (some true) .exact) (.sl 8 [enC e] (some false) .exact) (.sl 0 [] (some true) .exact) (0)) := by rw [g3 _ (by omega) (by omega)]; exact rA1
          have z3 : H3[h.length + 1]? = some zRc := by rw [g3 _ (by omega) (by omega), hA1g _ (by omega) (by omega)]; exact z1
          have k3 : H3[h.length]? = some (bkC b) := by rw [g3 _ (by omega) (by omega), hA1g _ (by omega) (by omega)]; exact k1
          have e3 : H3[H1.length]? = some (enC e) := by rw [g3 _ (by omega) (by omega)]; exact eA1
          have q3g : ∀ q, q < h.length → q ≠ i → H3[q]? = h[q]? := fun q h1 h2 => by rw [g3 q (by omega) h2, hA1g q (by omega) (by omega), g1 q (by omega) h2, hAq q h1]
          have hvl : ∀ n, H3.length ≤ n → v.lt n := fun n hn => ev.lt hn
          have i1 := ev.id
          have u1 := ev.unown
          have c1 := ev.cells
          have n1 := ev.len
          have hske := skN_le l
          have hdl : (l.take (skN l)).length = skN l := by rw [List.length_take]; omega
          rw [hdl] at n1
          have hDl : D.length ≤ 1000 := by rw [hD, List.length_take, List.length_drop]; omega
          obtain ⟨RX, hRX⟩ : ∃ RX : Bool → En → List AV, ∀ s n, RX s n = resC s n (.sl 8 (enc enC D) none .no) (.sl 8 [enC e] (some false) .exact) v (0) := ⟨_, fun _ _ => rfl⟩
          have hRXl : ∀ s n m, H3.length ≤ m → ltL m (RX s n) := fun s n m hm => by rw [hRX]; simp [resC]; exact hvl m hm
          have tl : ∀ (s : Bool) (n : En), ∃ H4 o4, Contract Try.prog 35 [.box i 0] (H3.set (h.length + 2) (resC s n (.sl 0 [] (some true) .exact) (.sl 8 [enC e] (some false) .exact) (v) (0))) (.sl 8 (enc enC D) none .no) H4 [i] ∧
              QAt ((H4.set (h.length + 2) (RX s n)).set (h.length + 1) (RX s n)) i o4 most ((l.drop (skN l)).drop (flN (l.drop (skN l)))) ∧ H4[h.length + 2]? = some (resC s n (.sl 0 [] (some true) .exact) (.sl 8 [enC e] (some false) .exact) (v) (0)) ∧ H4[h.length + 1]? = some zRc ∧
              EAt ((H4.set (h.length + 2) (RX s n)).set (h.length + 1) (RX s n)) v (l.take (skN l)) ∧ H3.length ≤ H4.length ∧ (∀ q, q < h.length → q ≠ i → H4[q]? = h[q]?) ∧ (∀ p2, o4 = some p2 → h.length ≤ p2.1) := fun s n => by
            have q4 : QAt (H3.set (h.length + 2) (resC s n (.sl 0 [] (some true) .exact) (.sl 8 [enC e] (some false) .exact) (v) (0))) i o3 most (l.drop (skN l)) := q3.move (List.getElem?_set_ne (by omega)) (fun p2 hp2 => by
              have h2 := b3 p2 hp2
              exact List.getElem?_set_ne (by omega)) (by rw [List.length_set]; exact ltLL_set q3.lt (by simp [resC]; exact hvl _ (Nat.le_refl _)))
            obtain ⟨H4, o4, cf, q5, l5, g5, b5⟩ := rflush_c q4 (by rw [List.length_drop]; omega)
            rw [List.length_set] at l5 g5 b5
            rw [← hD] at cf
            have ho4 : ∀ p2, o4 = some p2 → A1.length ≤ p2.1 := fun p2 hp2 => by
              rcases b5 p2 hp2 with h1 | h1
              · exact b3 p2 h1
              · omega
            refine ⟨H4, o4, cf, ?_, ?_, ?_, ?_, l5, fun q h1 h2 => ?_, fun p2 hp2 => by have := ho4 p2 hp2; omega⟩
            · refine q5.move (by rw [List.getElem?_set_ne (by omega), List.getElem?_set_ne (by omega)]) (fun p2 hp2 => ?_) (by rw [List.length_set, List.length_set]; exact ltLL_set (ltLL_set q5.lt (hRXl _ _ _ l5)) (hRXl _ _ _ l5))
              have h2 := ho4 p2 hp2
              rw [List.getElem?_set_ne (by omega), List.getElem?_set_ne (by omega)]
            · rw [g5 _ (by omega) (by omega)]; exact List.getElem?_set_self (by omega)
            · rw [g5 _ (by omega) (by omega), List.getElem?_set_ne (by omega)]; exact z3
            · refine ev.stay fun bb off hb => ?_
              have h2 := bv _ _ _ _ hb
              have h3 : bb < H3.length := by
                have := hvl H3.length (Nat.le_refl _)
                rw [hb] at this
                simpa using this
              rw [List.getElem?_set_ne (by omega), List.getElem?_set_ne (by omega), g5 bb h3 (by omega), List.getElem?_set_ne (by omega)]
            · rw [g5 q (by omega) h2, List.getElem?_set_ne (by omega)]; exact q3g q h1 h2
          have hlq : ∀ (H4 : List (List AV)) (A B C : List AV), h.length + 2 < H4.length → leqC (h.length + 2) 0 A B → leqH 0 (List.take H4.length ((H4.set (h.length + 2) A).set (h.length + 1) C)) ((H4.set (h.length + 2) B).set (h.length + 1) C) := fun H4 A B C _ hab => by
            rw [List.take_of_length_le (by rw [List.length_set, List.length_set]; exact Nat.le_refl _), List.set_comm A C (by omega), List.set_comm B C (by omega)]
            exact leqH_set hab
          have hn3 : ¬ h.length + 2 = i := by omega
          have hn4 : ¬ H1.length = i := by omega
          cases hsw : sw l e b.kind with
          | false =>
            obtain ⟨H4, o4, cf, q4, r4, z4, ev4, l4, g4, b4⟩ := tl (!e.hide) e
            have hfin := q4.lt
            rw [List.length_set, List.length_set] at hfin
            refine ⟨(H4.set (h.length + 2) (RX (!e.hide) e)).set (h.length + 1) (RX (!e.hide) e), o4, .sl 8 (enc enC D) none .no, .sl 8 (enc enC [e]) none .no, v, [i], ?_, fun q hq => by simpa using hq, .inl rfl, .inl rfl, ev4, q4, by rw [List.length_set, List.length_set]; omega, fun q h1 h2 => by rw [List.getElem?_set_ne (by omega), List.getElem?_set_ne (by omega)]; exact g4 q h1 h2, fun p2 hp2 => .inr (b4 p2 hp2)⟩
            simp only [resC] at *
            unfold zRc at z4 hA
            refine contract_of k37 mixed (by simp [c37]) fun hh hargs => ?_
            simp [c37, List.getElem?_append_left hil, List.getElem?_append_left hbl, hil, hig0, hbl, hbg, hlen0, hat0, hfit0, hg0]
            refine xcall_self (by simp) (rtakes_c e.kind b.kind hb0 hb1 _) ?_
            simp [t1', h90b, List.getElem?_append_left hil, List.getElem?_append_left hbl, hil, hig0, hbl, hbg, hone, hfit, hat1, hfit1, hg1c, lay_name]
            refine xcall_self (by simp) (rends_c e.kind b.kind hb0 hb1 _) ?_
            simp [t2]
            refine xcall_self (by simp) (rfails_c e.kind b.kind hb0 hb1 _) ?_
            simp [t3]
            rw [← hA]
            refine xcall_self (by simp) cp ?_
            simp [hbx, hbr]
            rw [← hA1e]
            refine xcall_self (by simp) cs2 ?_
            have hsr : ∀ X : List AV, (H3.set (h.length + 2) X)[h.length + 2]? = some X := fun X => List.getElem?_set_self (by omega)
            have hse : ∀ X : List AV, (H3.set (h.length + 2) X)[H1.length]? = some (enC e) := fun X => by rw [List.getElem?_set_ne (by omega)]; exact e3
            have hsk : ∀ X : List AV, (H3.set (h.length + 2) X)[h.length]? = some (bkC b) := fun X => by rw [List.getElem?_set_ne (by omega)]; exact k3
            simp [-vLenL, r3, i1, u1, c1, hsr, hse, hsk]
            cases s1 : e.hide with
            | false =>
              simp [-vLenL, i1, u1, c1]
              try simp only [s1, Bool.not_false, Bool.not_true] at cf r4 hfin
              refine xcall_self (by simp) cf ?_
              simp [-vLenL, r4, hn3, hn4, i1, u1, c1]
              have hs1 : ∀ X : List AV, (H4.set (h.length + 2) X)[h.length + 1]? = some [.v (.bool false), .v (.int .i64 0), .v (.bool false), .v (.string (strB [])), .v (.string (strB [])), .sl 0 [] (some true) .exact, .sl 0 [] (some true) .exact, .sl 0 [] (some true) .exact, .sl 0 [] (some true) .exact, .sl 0 [] (some true) .exact, .sl 0 [] (some true) .exact, .sl 0 [] (some true) .exact, .v (.int .u8 0)] := fun X => by rw [List.getElem?_set_ne (by omega)]; exact z4
              have hs3 : ∀ X : List AV, (H4.set (h.length + 2) X)[h.length + 2]? = some X := fun X => List.getElem?_set_self (by omega)
              have hs4 : ∀ X Y : List AV, ((H4.set (h.length + 2) X).set (h.length + 1) Y)[h.length + 1]? = some Y := fun X Y => List.getElem?_set_self (by rw [List.length_set]; omega)
              simp [-vLenL, hs1, hs3, hs4, i1, u1, c1, leqH_take]
              simp only [hRX, s1] at hfin ⊢
              refine ⟨by omega, by have := hvl H4.length l4; simpa using this, leqH_take (by rw [List.length_set, List.length_set]), hfin, fun h => absurd h (by omega)⟩
            | true =>
              by_cases s2 : 0 < skN l
              · have s2i : (0 : Int) < ((skN l : Nat) : Int) := by omega
                obtain ⟨vb, hv⟩ := sv s2
                subst hv
                have hvbl := bv _ _ _ _ rfl
                have hrv := ev.rowsAt
                obtain ⟨cs3, hb3, hrd3⟩ := hrv.reads
                have hp3 : 0 < (l.take (skN l)).length := by omega
                have x0 : (l.take (skN l))[0] = l.headD zE := by cases l with | nil => simp [skN] at s2 | cons x l => simp
                have hone3 := hrd3.one 0 hp3
                have hfit3 := hrd3.fit 0 hp3
                have hat30 := hrd3.at_ hp3 0 (by omega)
                have hat31 := hrd3.at_ hp3 1 (by omega)
                simp only [Nat.zero_mul, Nat.add_zero, Nat.zero_add, List.drop_zero] at hone3 hfit3 hat30 hat31
                rw [x0] at hone3 hat30 hat31
                rw [enC_0] at hat30
                rw [enC_1] at hat31
                have hf30 : 0 < cs3.length := by omega
                have hf31 : 1 < cs3.length := by omega
                have hg30 : cs3[0] = .v (.int .i64 (l.headD zE).kind) := by rw [List.getElem?_eq_getElem hf30] at hat30; injection hat30
                have hg31 : cs3[1] = .v (.bool (l.headD zE).hide) := by rw [List.getElem?_eq_getElem hf31] at hat31; injection hat31
                have hsv : ∀ X : List AV, (H3.set (h.length + 2) X)[vb]? = some cs3 := fun X => by rw [List.getElem?_set_ne (by omega)]; exact hb3
                have hswe : sw l e b.kind = (e.hide && (decide (0 < skN l) && (!(l.headD zE).hide && failsB (l.headD zE).kind b.kind))) := rfl
                generalize l.headD zE = x at *
                cases s3 : x.hide with
                | true =>
                  simp [-vLenL, vLenL_bsl, s1, s2, s2i, s3, hsr, hsv, hf30, hf31, hg30, hg31]
                  try simp only [s1, Bool.not_false, Bool.not_true] at cf r4 hfin
                  refine xcall_self (by simp) cf ?_
                  simp [-vLenL, r4, hn3, hn4, i1, u1, c1]
                  have hs1 : ∀ X : List AV, (H4.set (h.length + 2) X)[h.length + 1]? = some [.v (.bool false), .v (.int .i64 0), .v (.bool false), .v (.string (strB [])), .v (.string (strB [])), .sl 0 [] (some true) .exact, .sl 0 [] (some true) .exact, .sl 0 [] (some true) .exact, .sl 0 [] (some true) .exact, .sl 0 [] (some true) .exact, .sl 0 [] (some true) .exact, .sl 0 [] (some true) .exact, .v (.int .u8 0)] := fun X => by rw [List.getElem?_set_ne (by omega)]; exact z4
                  have hs3 : ∀ X : List AV, (H4.set (h.length + 2) X)[h.length + 2]? = some X := fun X => List.getElem?_set_self (by omega)
                  have hs4 : ∀ X Y : List AV, ((H4.set (h.length + 2) X).set (h.length + 1) Y)[h.length + 1]? = some Y := fun X Y => List.getElem?_set_self (by rw [List.length_set]; omega)
                  simp [-vLenL, hs1, hs3, hs4, i1, u1, c1, leqH_take]
                  simp only [hRX, s1] at hfin ⊢
                  refine ⟨by omega, by have := hvl H4.length l4; simpa using this, leqH_take (by rw [List.length_set, List.length_set]), hfin, fun h => absurd h (by omega)⟩
                | false =>
                  simp [-vLenL, vLenL_bsl, s1, s2, s2i, s3, hsr, hsv, hf30, hf31, hg30, hg31, hsk]
                  refine xcall_self (by simp) (rfails_c x.kind b.kind hb0 hb1 _) ?_
                  have s4 : failsB x.kind b.kind = false := by
                    rw [hsw, s1, s3, decide_eq_true s2] at hswe
                    simpa using hswe.symm
                  simp [s4]
                  try simp only [s1, Bool.not_false, Bool.not_true] at cf r4 hfin
                  refine xcall_self (by simp) cf ?_
                  simp [-vLenL, r4, hn3, hn4, i1, u1, c1]
                  have hs1 : ∀ X : List AV, (H4.set (h.length + 2) X)[h.length + 1]? = some [.v (.bool false), .v (.int .i64 0), .v (.bool false), .v (.string (strB [])), .v (.string (strB [])), .sl 0 [] (some true) .exact, .sl 0 [] (some true) .exact, .sl 0 [] (some true) .exact, .sl 0 [] (some true) .exact, .sl 0 [] (some true) .exact, .sl 0 [] (some true) .exact, .sl 0 [] (some true) .exact, .v (.int .u8 0)] := fun X => by rw [List.getElem?_set_ne (by omega)]; exact z4
                  have hs3 : ∀ X : List AV, (H4.set (h.length + 2) X)[h.length + 2]? = some X := fun X => List.getElem?_set_self (by omega)
                  have hs4 : ∀ X Y : List AV, ((H4.set (h.length + 2) X).set (h.length + 1) Y)[h.length + 1]? = some Y := fun X Y => List.getElem?_set_self (by rw [List.length_set]; omega)
                  simp [-vLenL, hs1, hs3, hs4, i1, u1, c1, leqH_take]
                  simp only [hRX, s1] at hfin ⊢
                  refine ⟨by omega, by have := hvl H4.length l4; simpa using this, leqH_take (by rw [List.length_set, List.length_set]), hfin, fun h => absurd h (by omega)⟩
              · have s2i : ¬ (0 : Int) < ((skN l : Nat) : Int) := by omega
                simp [-vLenL, n1, s1, s2, s2i, i1, u1, c1, hsr]
                try simp only [s1, Bool.not_false, Bool.not_true] at cf r4 hfin
                refine xcall_self (by simp) cf ?_
                simp [-vLenL, r4, hn3, hn4, i1, u1, c1]
                have hs1 : ∀ X : List AV, (H4.set (h.length + 2) X)[h.length + 1]? = some [.v (.bool false), .v (.int .i64 0), .v (.bool false), .v (.string (strB [])), .v (.string (strB [])), .sl 0 [] (some true) .exact, .sl 0 [] (some true) .exact, .sl 0 [] (some true) .exact, .sl 0 [] (some true) .exact, .sl 0 [] (some true) .exact, .sl 0 [] (some true) .exact, .sl 0 [] (some true) .exact, .v (.int .u8 0)] := fun X => by rw [List.getElem?_set_ne (by omega)]; exact z4
                have hs3 : ∀ X : List AV, (H4.set (h.length + 2) X)[h.length + 2]? = some X := fun X => List.getElem?_set_self (by omega)
                have hs4 : ∀ X Y : List AV, ((H4.set (h.length + 2) X).set (h.length + 1) Y)[h.length + 1]? = some Y := fun X Y => List.getElem?_set_self (by rw [List.length_set]; omega)
                simp [-vLenL, hs1, hs3, hs4, i1, u1, c1, leqH_take]
                simp only [hRX, s1] at hfin ⊢
                refine ⟨by omega, by have := hvl H4.length l4; simpa using this, leqH_take (by rw [List.length_set, List.length_set]), hfin, fun h => absurd h (by omega)⟩
          | true =>
            have hsw2 := hsw
            unfold sw at hsw2
            simp only [Bool.and_eq_true, decide_eq_true_eq, Bool.not_eq_true'] at hsw2
            obtain ⟨s1, s2, s3, s4⟩ := hsw2
            obtain ⟨x, hx⟩ : ∃ x, x = l.headD zE := ⟨_, rfl⟩
            rw [← hx] at s3 s4 ⊢
            obtain ⟨H4, o4, cf, q4, r4, z4, ev4, l4, g4, b4⟩ := tl true x
            have hfin := q4.lt
            rw [List.length_set, List.length_set] at hfin
            refine ⟨(H4.set (h.length + 2) (RX true x)).set (h.length + 1) (RX true x), o4, .sl 8 (enc enC D) none .no, .sl 8 (enc enC [e]) none .no, v, [i], ?_, fun q hq => by simpa using hq, .inl rfl, .inl rfl, ev4, q4, by rw [List.length_set, List.length_set]; omega, fun q h1 h2 => by rw [List.getElem?_set_ne (by omega), List.getElem?_set_ne (by omega)]; exact g4 q h1 h2, fun p2 hp2 => .inr (b4 p2 hp2)⟩
            simp only [resC] at *
            unfold zRc at z4 hA
            refine contract_of k37 mixed (by simp [c37]) fun hh hargs => ?_
            simp [c37, List.getElem?_append_left hil, List.getElem?_append_left hbl, hil, hig0, hbl, hbg, hlen0, hat0, hfit0, hg0]
            refine xcall_self (by simp) (rtakes_c e.kind b.kind hb0 hb1 _) ?_
            simp [t1', h90b, List.getElem?_append_left hil, List.getElem?_append_left hbl, hil, hig0, hbl, hbg, hone, hfit, hat1, hfit1, hg1c, lay_name]
            refine xcall_self (by simp) (rends_c e.kind b.kind hb0 hb1 _) ?_
            simp [t2]
            refine xcall_self (by simp) (rfails_c e.kind b.kind hb0 hb1 _) ?_
            simp [t3]
            rw [← hA]
            refine xcall_self (by simp) cp ?_
            simp [hbx, hbr]
            rw [← hA1e]
            refine xcall_self (by simp) cs2 ?_
            have hsr : ∀ X : List AV, (H3.set (h.length + 2) X)[h.length + 2]? = some X := fun X => List.getElem?_set_self (by omega)
            have hse : ∀ X : List AV, (H3.set (h.length + 2) X)[H1.length]? = some (enC e) := fun X => by rw [List.getElem?_set_ne (by omega)]; exact e3
            have hsk : ∀ X : List AV, (H3.set (h.length + 2) X)[h.length]? = some (bkC b) := fun X => by rw [List.getElem?_set_ne (by omega)]; exact k3
            simp [-vLenL, r3, i1, u1, c1, hsr, hse, hsk]
            have s2i : (0 : Int) < ((skN l : Nat) : Int) := by omega
            obtain ⟨vb, hv⟩ := sv s2
            subst hv
            have hvbl := bv _ _ _ _ rfl
            have hrv := ev.rowsAt
            obtain ⟨cs3, hb3, hrd3⟩ := hrv.reads
            have hp3 : 0 < (l.take (skN l)).length := by omega
            have x0 : (l.take (skN l))[0] = x := by rw [hx]; cases l with | nil => simp [skN] at s2 | cons x l => simp
            have hone3 := hrd3.one 0 hp3
            have hfit3 := hrd3.fit 0 hp3
            have hat30 := hrd3.at_ hp3 0 (by omega)
            have hat31 := hrd3.at_ hp3 1 (by omega)
            simp only [Nat.zero_mul, Nat.add_zero, Nat.zero_add, List.drop_zero] at hone3 hfit3 hat30 hat31
            rw [x0] at hone3 hat30 hat31
            rw [enC_0] at hat30
            rw [enC_1] at hat31
            have hf30 : 0 < cs3.length := by omega
            have hf31 : 1 < cs3.length := by omega
            have hg30 : cs3[0] = .v (.int .i64 x.kind) := by rw [List.getElem?_eq_getElem hf30] at hat30; injection hat30
            have hg31 : cs3[1] = .v (.bool x.hide) := by rw [List.getElem?_eq_getElem hf31] at hat31; injection hat31
            have hsv : ∀ X : List AV, (H3.set (h.length + 2) X)[vb]? = some cs3 := fun X => by rw [List.getElem?_set_ne (by omega)]; exact hb3
            have hlay := fun (a b1 b2 b3 b4 b5 b6 b7 b8 c1 c2 c3 r : AV) => lay_name a b1 b2 b3 b4 b5 b6 b7 b8 c1 c2 c3 r x
            simp [-vLenL, vLenL_bsl, s1, s2, s2i, s3, hsr, hse, hsv, hf30, hf31, hg30, hg31, hsk]
            refine xcall_self (by simp) (rfails_c x.kind b.kind hb0 hb1 _) ?_
            simp [s4, hone3, hfit3, hsv, hsr, hlay]
            refine ⟨s2, ?_⟩
            try simp only [s1, Bool.not_false, Bool.not_true] at cf r4 hfin
            refine xcall_self (by simp) cf ?_
            simp [-vLenL, r4, hn3, hn4, i1, u1, c1]
            have hs1 : ∀ X : List AV, (H4.set (h.length + 2) X)[h.length + 1]? = some [.v (.bool false), .v (.int .i64 0), .v (.bool false), .v (.string (strB [])), .v (.string (strB [])), .sl 0 [] (some true) .exact, .sl 0 [] (some true) .exact, .sl 0 [] (some true) .exact, .sl 0 [] (some true) .exact, .sl 0 [] (some true) .exact, .sl 0 [] (some true) .exact, .sl 0 [] (some true) .exact, .v (.int .u8 0)] := fun X => by rw [List.getElem?_set_ne (by omega)]; exact z4
            have hs3 : ∀ X : List AV, (H4.set (h.length + 2) X)[h.length + 2]? = some X := fun X => List.getElem?_set_self (by omega)
            have hs4 : ∀ X Y : List AV, ((H4.set (h.length + 2) X).set (h.length + 1) Y)[h.length + 1]? = some Y := fun X Y => List.getElem?_set_self (by rw [List.length_set]; omega)
            simp [-vLenL, hs1, hs3, hs4, i1, u1, c1, leqH_take]
            simp only [hRX, s1] at hfin ⊢
            refine ⟨by omega, s3, by have := hvl H4.length l4; simpa using this, leqH_take (by rw [List.length_set, List.length_set]), hfin, fun h => absurd h (by omega)⟩
end
end Go.Proofs.Ytpogpofmakcodaa.Ax
