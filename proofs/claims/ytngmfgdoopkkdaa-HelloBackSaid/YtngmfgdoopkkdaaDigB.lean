/- The contracts of the two functions that read a number from decimal digits (digits.Parse and the document's answer): at any text and any bound they give the same. -/
import Derived.Test.YtngmfgdoopkkdaaRows
import Derived.Test.YtngmfgdoopkkdaaDigA
namespace Go.Proofs.Ytngmfgdoopkkdaa.Dg
open Go.RowKit Go By

theorem byte_of (s : ByteArray) (k : Nat) (h : k < s.size) : s.data.toList.getD k 0 = s[k] := by
  rw [List.getD_eq_getElem?_getD, List.getElem?_eq_getElem (by simpa using h)]; rfl
theorem len_of (s : ByteArray) : s.data.toList.length = s.size := by simp
theorem take_next (s : ByteArray) (k : Nat) (h : k < s.size) : s.data.toList.take (k + 1) = s.data.toList.take k ++ [s[k]] := by
  rw [List.take_succ_eq_append_getElem (by simpa using h)]; rfl
theorem take_all (s : ByteArray) : s.data.toList.take s.size = s.data.toList := List.take_of_length_le (by simp)
def parsed (xs : List UInt8) (most : Int) : Value := .tuple #[.int .i64 (parseV xs most), .bool (parseB xs most)]
theorem parsed_not {xs : List UInt8} (most : Int) (h : formB xs = false) : parsed xs most = .tuple #[.int .i64 0, .bool false] := by
  unfold parsed; rw [(form_not h).1, (form_not h).2]
theorem parsed_strange {s : ByteArray} (most : Int) {k : Nat} (hk : k < s.size) (h : ¬ (48 ≤ s[k].toNat ∧ s[k].toNat ≤ 57)) : parsed s.data.toList most = .tuple #[.int .i64 0, .bool false] := by
  refine parsed_not most (form_strange (k := k) (by rw [len_of]; exact hk) ?_)
  rw [byte_of s k hk]
  cases hd : digB s[k] with
  | false => rfl
  | true => exact absurd ((digB_iff _).1 hd) h
/-- What the loop holds behind k rounds. -/
theorem parsed_end {s : ByteArray} {most : Int} (h1 : 1 ≤ s.size) (h2 : s.size ≤ 10) (h3 : ¬ (s.data.toList.getD 0 0 = 48 ∧ 1 < s.size)) (h4 : (s.data.toList.take s.size).all digB = true) :
    parsed s.data.toList most = if most < (numL (s.data.toList.take s.size) : Int) then .tuple #[.int .i64 0, .bool false] else .tuple #[.int .i64 (numL (s.data.toList.take s.size)), .bool true] := by
  rw [take_all] at h4 ⊢
  have hf : formB s.data.toList = true := form_yes (by rw [len_of]; exact h1) (by rw [len_of]; exact h2) (by rw [len_of]; exact h3) h4
  unfold parsed
  by_cases hm : most < (numL s.data.toList : Int)
  · rw [if_pos hm, (parse_most hm).1, (parse_most hm).2]
  · rw [if_neg hm, (parse_yes hf (by omega)).1, (parse_yes hf (by omega)).2]
theorem all_next {s : ByteArray} {k : Nat} (hk : k < s.size) (h : (s.data.toList.take k).all digB = true) (h1 : 48 ≤ s[k].toNat) (h2 : s[k].toNat ≤ 57) : (s.data.toList.take (k + 1)).all digB = true := by
  rw [take_next s k hk, List.all_append, h]
  simp [digB, h1, h2]
theorem num_next {s : ByteArray} {k : Nat} (hk : k < s.size) (h1 : 48 ≤ s[k].toNat) : (numL (s.data.toList.take (k + 1)) : Int) = (numL (s.data.toList.take k) : Int) * 10 + ((s[k].toNat : Int) - 48) := by
  rw [take_next s k hk, numL_snoc]; omega
theorem num_bound {s : ByteArray} {k : Nat} (h : (s.data.toList.take k).all digB = true) (hk : k ≤ 10) : numL (s.data.toList.take k) ≤ 10000000000 := by
  have h1 := numL_lt _ h
  have h2 : (s.data.toList.take k).length ≤ 10 := Nat.le_trans (List.length_take_le _ _) hk
  have h3 : 10 ^ (s.data.toList.take k).length ≤ 10 ^ 10 := Nat.pow_le_pow_right (by omega) h2
  omega

end Go.Proofs.Ytngmfgdoopkkdaa.Dg
