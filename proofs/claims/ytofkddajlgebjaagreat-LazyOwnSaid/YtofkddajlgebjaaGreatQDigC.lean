/- The contracts of the functions that tell a number in decimal digits (digits.Text and the document's answer): at any number they give the same text. -/
import Derived.Test.YtofkddajlgebjaaGreatQElems
import Derived.Test.YtofkddajlgebjaaGreatRows
import Derived.Test.YtofkddajlgebjaaGreatQNumD
import Derived.Lib.Bytealg
/- Plain words on decimal digits: the digits of a number, the number of digits, and that the two belong together. No program is named here. -/
namespace Go.Proofs.YtofkddajlgebjaaGreat.Dg
open Go.RowKit Go By

/-- The digits of a number. -/
def digsN (m : Nat) : List UInt8 := if m < 10 then [UInt8.ofNat (48 + m)] else digsN (m / 10) ++ [UInt8.ofNat (48 + m % 10)]
termination_by m
decreasing_by omega
/-- A number in digits, with its sign. -/
def textL (n : Int) : List UInt8 := if n < 0 then 45 :: digsN n.natAbs else digsN n.toNat

end Go.Proofs.YtofkddajlgebjaaGreat.Dg
/- The contracts of the two functions that read a number from decimal digits (digits.Parse and the document's answer): at any text and any bound they give the same. -/
namespace Go.Proofs.YtofkddajlgebjaaGreat.Dg
open Go.RowKit Go By

theorem byte_of (s : ByteArray) (k : Nat) (h : k < s.size) : s.data.toList.getD k 0 = s[k] := by
  rw [List.getD_eq_getElem?_getD, List.getElem?_eq_getElem (by simpa using h)]; rfl
theorem len_of (s : ByteArray) : s.data.toList.length = s.size := by simp
theorem take_next (s : ByteArray) (k : Nat) (h : k < s.size) : s.data.toList.take (k + 1) = s.data.toList.take k ++ [s[k]] := by
  rw [List.take_succ_eq_append_getElem (by simpa using h)]; rfl
theorem take_all (s : ByteArray) : s.data.toList.take s.size = s.data.toList := List.take_of_length_le (by simp)
end Go.Proofs.YtofkddajlgebjaaGreat.Dg
namespace Go.Proofs.YtofkddajlgebjaaGreat.Dg
set_option maxRecDepth 100000
open Go.RowKit Go By

/-- Has the text no byte 0? -/
def cleanB (xs : List UInt8) : Bool := !xs.contains 0
theorem indexByte_neg (xs : List UInt8) : decide (Lib.indexByte xs 0 < 0) = cleanB xs := by
  induction xs with
  | nil => rfl
  | cons b t ih =>
    have hge := Lib.indexByte_ge t 0
    unfold Lib.indexByte cleanB
    by_cases hb : b = 0
    · subst hb; simp
    · have h1 : (b == 0) = false := by simpa using hb
      have h2 : (0 == b) = false := by simpa using fun e : 0 = b => hb e.symm
      rw [List.contains_cons, h1, h2, Bool.false_or]
      unfold cleanB at ih
      rw [← ih]
      by_cases h3 : Lib.indexByte t 0 = -1
      · simp [h3]
      · have h4 : (Lib.indexByte t 0 == -1) = false := by simpa using h3
        simp [h4]; omega
theorem clean_any (s : ByteArray) (w : World) :
    Calls Tryz.prog 102 #[.string s] w fun e w' => e = .returned (.bool (cleanB s.data.toList)) ∧ w = w' := by
  go_enter Tryz.func102, Tryz.ntmps102
  go_wp2
  rw [run_callFunc_extern Tryz.func135 (by kernel_rfl) (by kernel_rfl) (by kernel_rfl) (e := Extern.BytealgIndexByte.indexByte) (by kernel_rfl), Lib.run_indexByteString]
  simp only [Result.andThen]
  rw [Oper.upon_value]
  go_wp2
  go_ret
  exact ⟨by rw [← indexByte_neg]; rfl, rfl⟩
theorem clean_no {xs : List UInt8} {k : Nat} (hk : k < xs.length) (h : xs.getD k 0 = 0) : cleanB xs = false := by
  have : xs.contains 0 = true := by
    rw [List.contains_iff_mem, ← h, List.getD_eq_getElem?_getD, List.getElem?_eq_getElem hk]
    exact List.getElem_mem hk
  simp [cleanB] at this ⊢
  exact this
theorem clean_yes {xs : List UInt8} (h : ∀ k, k < xs.length → xs.getD k 0 ≠ 0) : cleanB xs = true := by
  simp only [cleanB, Bool.not_eq_true', ← Bool.not_eq_true, List.contains_iff_mem]
  intro hm
  obtain ⟨k, hk, he⟩ := List.mem_iff_getElem.1 hm
  exact h k hk (by rw [List.getD_eq_getElem?_getD, List.getElem?_eq_getElem hk, he]; rfl)

set_option maxHeartbeats 400000 in
theorem rclean_any (s : ByteArray) (w : World) (hs : s.size ≤ maxLen) :
    Calls Tryz.prog 55 #[.string s] w fun e w' => e = .returned (.bool (cleanB s.data.toList)) ∧ w = w' := by
  unfold maxLen at hs
  go_enter Tryz.func55, Tryz.ntmps55
  go_wp2
  go_loop [3] (fun i => ∃ k : Nat, k ≤ s.size ∧ i = .int .i64 k ∧ ∀ j, j < k → s.data.toList.getD j 0 ≠ 0) (fun i => s.size - (intOf i).toNat)
  case atStart => exact ⟨0, Nat.zero_le _, rfl, fun j hj => by omega⟩
  case round =>
    obtain ⟨k, hk, rfl, hall⟩ := hrel
    have HA := Lib.hid hall
    clear hall
    by_cases hlt : k < s.size
    · by_cases h0 : s[k].toNat = 0
      · have hb : ((s[k].toNat : Int) == 0) = true := by simp [h0]
        have HE := Lib.hid (clean_no (xs := s.data.toList) (k := k) (by rw [len_of]; exact hlt) (by rw [byte_of s k hlt]; apply UInt8.toNat_inj.1; simpa using h0))
        clear h0
        go_wp2
        go_ret
        exact ⟨by rw [HE.out]; rfl, rfl⟩
      · have hb : ((s[k].toNat : Int) == 0) = false := by simp; omega
        have HN : Hid (s.data.toList.getD k 0 ≠ 0) := Lib.hid (by rw [byte_of s k hlt]; intro e; exact h0 (by rw [e]; rfl))
        clear h0
        go_wp2
        go_round
        case rel =>
          refine ⟨k + 1, by omega, by go_num, fun j hj => ?_⟩
          rcases Nat.lt_or_ge j k with h | h
          · exact HA.out j h
          · obtain rfl : j = k := by omega
            exact HN.out
        case measure => simp [intOf]; omega
    · obtain rfl : k = s.size := by omega
      have HE := Lib.hid (clean_yes (xs := s.data.toList) (by rw [len_of]; exact HA.out))
      go_wp2
      go_ret
      exact ⟨by rw [HE.out]; rfl, rfl⟩

end Go.Proofs.YtofkddajlgebjaaGreat.Dg
