/- Names that servers know, over values without memory: names, the document's answer, and the statements of layer 13. -/
import Derived.Test.YtmdapcmdlblnnaaDoorQAxXr
import Derived.Test.YtmdapcmdlblnnaaDoorRows
import Derived.Test.YtmdapcmdlblnnaaDoorQAxDg
import Derived.Test.YtmdapcmdlblnnaaDoorQDigC
/- The texts of functions over values without memory, as the kernel reckons them out of the program. -/
namespace Go.Proofs.YtmdapcmdlblnnaaDoor.Ax
open Go.RowKit Go By

def c47 : XFun := ⟨11, (.seq (.ops [⟨(some 4), (.assign (.const (.string (strB [])))), none⟩, ⟨(some 5), (.assign (.const (.bool false))), none⟩]) (.seq (.ops [⟨(some 6), (.move (.tmp 0)), none⟩, ⟨(some 7), (.move (.tmp 1)), none⟩, ⟨(some 8), (.call 63 [(.tmp 6), (.tmp 7)]), none⟩, ⟨(some 9), (.extract (.tmp 8) 0), none⟩, ⟨(some 10), (.extract (.tmp 8) 1), none⟩, ⟨(some 4), (.assign (.tmp 9)), none⟩, ⟨(some 5), (.assign (.tmp 10)), none⟩]) .ret)), [(.move (.tmp 4)), (.move (.tmp 5))]⟩
theorem k47 : cfun Tryd.prog 47 = some c47 := by kernel_rfl
def c63 : XFun := ⟨15, (.seq (.ops [⟨(some 4), (.assign (.const (.string (strB [])))), none⟩, ⟨(some 5), (.assign (.const (.bool false))), none⟩]) (.seq (.seq (.ops [⟨(some 6), (.move (.tmp 0)), none⟩, ⟨(some 7), (.move (.tmp 1)), none⟩, ⟨(some 8), (.call 73 [(.tmp 6), (.tmp 7)]), none⟩, ⟨(some 9), (.un .not (.tmp 8)), none⟩]) (.cond (.tmp 9) (.seq (.ops [⟨(some 10), (.move (.tmp 0)), none⟩, ⟨(some 4), (.assign (.tmp 10)), none⟩, ⟨(some 5), (.assign (.const (.bool false))), none⟩]) .ret) .skip)) (.seq (.ops [⟨(some 11), (.move (.tmp 0)), none⟩, ⟨(some 12), (.move (.tmp 1)), none⟩, ⟨(some 13), (.lenS (.tmp 12)), none⟩, ⟨(some 14), (.sliceS (.tmp 11) (some (.tmp 13)) none), none⟩, ⟨(some 4), (.assign (.tmp 14)), none⟩, ⟨(some 5), (.assign (.const (.bool true))), none⟩]) .ret))), [(.move (.tmp 4)), (.move (.tmp 5))]⟩
theorem k63 : cfun Tryd.prog 63 = some c63 := by kernel_rfl
def c73 : XFun := ⟨18, (.seq (.ops [⟨(some 4), (.assign (.const (.bool false))), none⟩]) (.seq (.ops [⟨(some 5), (.move (.tmp 0)), none⟩, ⟨(some 6), (.lenS (.tmp 5)), none⟩, ⟨(some 7), (.move (.tmp 1)), none⟩, ⟨(some 8), (.lenS (.tmp 7)), none⟩, ⟨(some 9), (.bin .geq (.tmp 6) (.tmp 8)), none⟩, ⟨(some 10), (.move (.tmp 9)), none⟩, ⟨(some 11), (.move (.tmp 0)), (some (10, true))⟩, ⟨(some 12), (.move (.tmp 1)), (some (10, true))⟩, ⟨(some 13), (.lenS (.tmp 12)), (some (10, true))⟩, ⟨(some 14), (.sliceS (.tmp 11) none (some (.tmp 13))), (some (10, true))⟩, ⟨(some 15), (.move (.tmp 1)), (some (10, true))⟩, ⟨(some 16), (.bin .eql (.tmp 14) (.tmp 15)), (some (10, true))⟩, ⟨(some 17), (.pick (.tmp 10) (.tmp 16) (.const (.bool false))), none⟩, ⟨(some 4), (.assign (.tmp 17)), none⟩]) .ret)), [(.move (.tmp 4))]⟩
theorem k73 : cfun Tryd.prog 73 = some c73 := by kernel_rfl
end Go.Proofs.YtmdapcmdlblnnaaDoor.Ax
namespace Go.Proofs.YtmdapcmdlblnnaaDoor.Ax
open Go.RowKit Go By YtmdapcmdlblnnaaDoor.Nm Sc Dg
set_option linter.unusedSimpArgs false
set_option linter.unusedVariables false
set_option maxRecDepth 10000

/-! ### Parsing, prefixes -/
theorem dparse_c (s : List UInt8) (most : Int) (hs : s.length ≤ 9223372036854775807) (h : List (List AV)) : Contract Tryd.prog 64 [.v (.string (strB s)), .v (.int .i64 most)] h (.tup [.v (.int .i64 (parseV s most)), .v (.bool (parseB s most))]) h [] :=
  plain_quiet_t (l := [.string (strB s), .int .i64 most]) (r := [.int .i64 (parseV s most), .bool (parseB s most)]) (by kernel_rfl) h fun w => by
    have := parse_any (strB s) most w (by rw [strB_size]; unfold maxLen; omega)
    rwa [strB_data] at this
theorem strB_cut (xs : List UInt8) (i j : Nat) : (strB xs).extract i j = strB ((xs.drop i).take (j - i)) := by
  apply ByteArray.ext
  simp [strB, ByteArray.data_extract]
def hasP (s p : List UInt8) : Bool := decide (p.length ≤ s.length) && (s.take p.length == p)
theorem hasPrefix_c (s p : List UInt8) (h : List (List AV)) : Contract Tryd.prog 73 [.v (.string (strB s)), .v (.string (strB p))] h (.v (.bool (hasP s p))) h [] := by
  refine contract_of k73 mixed (by simp [c73]) fun hh hargs => ?_
  by_cases hl : p.length ≤ s.length
  · have e : decide ((p.length : Int) ≤ (s.length : Int)) = true := by simpa using hl
    simp [c73, hasP, hl, hh, e, strB_cut]
  · have e : decide ((p.length : Int) ≤ (s.length : Int)) = false := by simpa using hl
    simp [c73, hasP, hl, hh, e]
def cutP (s p : List UInt8) : List UInt8 := if hasP s p = true then s.drop p.length else s
theorem scutPrefix_c (s p : List UInt8) (h : List (List AV)) : Contract Tryd.prog 63 [.v (.string (strB s)), .v (.string (strB p))] h (.tup [.v (.string (strB (cutP s p))), .v (.bool (hasP s p))]) h [] := by
  refine contract_of k63 mixed (by simp [c63]) fun hh hargs => ?_
  simp [c63]
  refine xcall_self (by simp) (hasPrefix_c s p _) ?_
  cases hp : hasP s p with
  | false => simp [hh, cutP, hp]
  | true =>
    have hl : p.length ≤ s.length := by
      unfold hasP at hp
      simp at hp
      exact hp.1
    have ht : List.take (s.length - p.length) (s.drop p.length) = s.drop p.length := List.take_of_length_le (by simp)
    simp [hh, cutP, hp, strB_cut, ht, hl]
theorem cutPrefix_c (s p : List UInt8) (h : List (List AV)) : Contract Tryd.prog 47 [.v (.string (strB s)), .v (.string (strB p))] h (.tup [.v (.string (strB (cutP s p))), .v (.bool (hasP s p))]) h [] := by
  refine contract_of k47 mixed (by simp [c47]) fun hh hargs => ?_
  simp [c47]
  refine xcall_self (by simp) (scutPrefix_c s p _) ?_
  simp [hh]

/-! ### Names -/
/-! ### Names there and back -/
end Go.Proofs.YtmdapcmdlblnnaaDoor.Ax
