/- The contracts of the functions that tell a number in decimal digits (digits.Text and the document's answer): at any number they give the same text. -/
import Derived.Test.YtofkddajlgebjaaGreatQElems
import Derived.Test.YtofkddajlgebjaaGreatRows
import Derived.Test.YtofkddajlgebjaaGreatQNumD
import Derived.Lib.Bytealg
/- Plain words on decimal digits: the digits of a number, the number of digits, and that the two belong together. No program is named here. -/
namespace Go.Proofs.YtofkddajlgebjaaGreat.Dg
open Go.RowKit Go By

/-- The digits of a number. -/
def digsN (m : Nat) : List UInt8 := if m < 10 then [UInt8.ofNat (48 + m)] else digsN (m / 10) ++ [UInt8.ofNat (48 + m % 10)]
termination_by m
decreasing_by omega
/-- A number in digits, with its sign. -/
def textL (n : Int) : List UInt8 := if n < 0 then 45 :: digsN n.natAbs else digsN n.toNat

end Go.Proofs.YtofkddajlgebjaaGreat.Dg
/- The contracts of the two functions that read a number from decimal digits (digits.Parse and the document's answer): at any text and any bound they give the same. -/
namespace Go.Proofs.YtofkddajlgebjaaGreat.Dg
open Go.RowKit Go By

theorem take_next (s : ByteArray) (k : Nat) (h : k < s.size) : s.data.toList.take (k + 1) = s.data.toList.take k ++ [s[k]] := by
  rw [List.take_succ_eq_append_getElem (by simpa using h)]; rfl
end Go.Proofs.YtofkddajlgebjaaGreat.Dg
namespace Go.Proofs.YtofkddajlgebjaaGreat.Dg
set_option maxRecDepth 100000
open Go.RowKit Go By

/-- Has the text no byte 0? -/
def cleanB (xs : List UInt8) : Bool := !xs.contains 0
theorem indexByte_neg (xs : List UInt8) : decide (Lib.indexByte xs 0 < 0) = cleanB xs := by
  induction xs with
  | nil => rfl
  | cons b t ih =>
    have hge := Lib.indexByte_ge t 0
    unfold Lib.indexByte cleanB
    by_cases hb : b = 0
    · subst hb; simp
    · have h1 : (b == 0) = false := by simpa using hb
      have h2 : (0 == b) = false := by simpa using fun e : 0 = b => hb e.symm
      rw [List.contains_cons, h1, h2, Bool.false_or]
      unfold cleanB at ih
      rw [← ih]
      by_cases h3 : Lib.indexByte t 0 = -1
      · simp [h3]
      · have h4 : (Lib.indexByte t 0 == -1) = false := by simpa using h3
        simp [h4]; omega
theorem clean_any (s : ByteArray) (w : World) :
    Calls Tryz.prog 102 #[.string s] w fun e w' => e = .returned (.bool (cleanB s.data.toList)) ∧ w = w' := by
  go_enter Tryz.func102, Tryz.ntmps102
  go_wp2
  rw [run_callFunc_extern Tryz.func135 (by kernel_rfl) (by kernel_rfl) (by kernel_rfl) (e := Extern.BytealgIndexByte.indexByte) (by kernel_rfl), Lib.run_indexByteString]
  simp only [Result.andThen]
  rw [Oper.upon_value]
  go_wp2
  go_ret
  exact ⟨by rw [← indexByte_neg]; rfl, rfl⟩
end Go.Proofs.YtofkddajlgebjaaGreat.Dg
