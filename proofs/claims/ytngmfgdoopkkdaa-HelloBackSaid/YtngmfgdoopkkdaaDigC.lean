/- The contracts of the functions that tell a number in decimal digits (digits.Text and the document's answer): at any number they give the same text. -/
import Derived.Test.YtngmfgdoopkkdaaDigB
import Derived.Test.YtngmfgdoopkkdaaNumC
import Derived.Lib.Bytealg
namespace Go.Proofs.Ytngmfgdoopkkdaa.Dg
set_option maxRecDepth 100000
open Go.RowKit Go By

theorem wrap_u64_small (x : Int) (h0 : 0 ≤ x) (h1 : x ≤ 9223372036854775808) : IntKind.u64.wrap x = x := by
  rw [IntKind.wrap_u64]; omega
theorem u64_eq {a b : Int} (h : a = b) : Value.int .u64 a = Value.int .u64 b := by rw [h]
theorem digsN_le20 (m : Nat) (hm : m ≤ 9223372036854775808) : (digsN m).length ≤ 20 := digsN_len 19 m (by omega)

/-- The digits of m, put into a slice from its end: what the slice holds behind i rounds. -/
def fill (m i : Nat) : List UInt8 := List.replicate ((digsN m).length - i) 0 ++ (digsN m).drop ((digsN m).length - i)
theorem fill_length (m i : Nat) : (fill m i).length = (digsN m).length := by simp [fill]
theorem fill_all (m : Nat) : fill m (digsN m).length = digsN m := by simp [fill]
theorem digsN_last (k : Nat) : ∃ init, digsN k = init ++ [UInt8.ofNat (48 + k % 10)] := by
  by_cases h : k < 10
  · exact ⟨[], by rw [digsN_small h, Nat.mod_eq_of_lt h]; rfl⟩
  · exact ⟨_, digsN_big h⟩
theorem fill_next (m i k : Nat) (hi : i < (digsN m).length) (ht : (digsN m).take ((digsN m).length - i) = digsN k) :
    (fill m i).set ((digsN m).length - 1 - i) (UInt8.ofNat (48 + k % 10)) = fill m (i + 1) ∧ (i + 1 < (digsN m).length → (digsN m).take ((digsN m).length - (i + 1)) = digsN (k / 10)) := by
  generalize hL : digsN m = L at *
  obtain ⟨d, hd⟩ : ∃ d, L.length - i = d + 1 := ⟨L.length - i - 1, by omega⟩
  have hd1 : L.length - 1 - i = d := by omega
  have hd2 : L.length - (i + 1) = d := by omega
  have hdl : d < L.length := by omega
  rw [hd] at ht
  have htk : L.take (d + 1) = L.take d ++ [L[d]] := List.take_succ_eq_append_getElem hdl
  constructor
  · obtain ⟨init, hi2⟩ := digsN_last k
    have h1 : L.take d ++ [L[d]] = init ++ [UInt8.ofNat (48 + k % 10)] := by rw [← htk, ht, hi2]
    have h2 : L[d] = UInt8.ofNat (48 + k % 10) := by
      have := List.append_inj_right' h1 rfl
      injection this
    unfold fill
    rw [hL, hd, hd1, hd2, List.replicate_succ', List.append_assoc, List.set_append_right _ _ (by simp)]
    simp only [List.length_replicate, Nat.sub_self]
    rw [List.drop_eq_getElem_cons hdl, h2]
    rfl
  · intro h
    rw [hd2]
    rcases Nat.lt_or_ge k 10 with hk | hk
    · exfalso
      rw [digsN_small hk] at ht
      have := congrArg List.length ht
      simp at this
      omega
    · rw [digsN_big (by omega), htk] at ht
      have := List.append_inj_left' ht rfl
      exact this
theorem vals_set (xs : List UInt8) (i : Nat) (c : UInt8) : (vals xs).set i (.int .u8 (c.toNat : Int)) = vals (xs.set i c) := by simp [vals, List.map_set]
theorem minus_str (xs : List UInt8) : (⟨#[45]⟩ : ByteArray) ++ strB xs = strB (45 :: xs) := by
  apply ByteArray.ext
  apply Array.toList_inj.1
  simp [strB]

theorem u8_digit (k : Nat) : ((UInt8.ofNat (48 + k % 10)).toNat : Int) = 48 + (k : Int) % 10 := by
  rw [UInt8.toNat_ofNat']; omega

/-- The ten digits, cut out. -/
theorem ten_cut (r : Nat) (h : r < 10) : (⟨#[48, 49, 50, 51, 52, 53, 54, 55, 56, 57]⟩ : ByteArray).extract r (r + 1) = strB [UInt8.ofNat (48 + r)] := by
  apply ByteArray.ext
  apply Array.toList_inj.1
  rcases r with _ | _ | _ | _ | _ | _ | _ | _ | _ | _ | r
  all_goals first | rfl | omega
theorem str_append (xs ys : List UInt8) : strB xs ++ strB ys = strB (xs ++ ys) := by
  apply ByteArray.ext
  apply Array.toList_inj.1
  simp [strB]
theorem ret_str {a b : ByteArray} (h : a = b) : Ending.returned (.string a) = .returned (.string b) := by rw [h]
/-- Has the text no byte 0? -/
def cleanB (xs : List UInt8) : Bool := !xs.contains 0
theorem indexByte_neg (xs : List UInt8) : decide (Lib.indexByte xs 0 < 0) = cleanB xs := by
  induction xs with
  | nil => rfl
  | cons b t ih =>
    have hge := Lib.indexByte_ge t 0
    unfold Lib.indexByte cleanB
    by_cases hb : b = 0
    · subst hb; simp
    · have h1 : (b == 0) = false := by simpa using hb
      have h2 : (0 == b) = false := by simpa using fun e : 0 = b => hb e.symm
      rw [List.contains_cons, h1, h2, Bool.false_or]
      unfold cleanB at ih
      rw [← ih]
      by_cases h3 : Lib.indexByte t 0 = -1
      · simp [h3]
      · have h4 : (Lib.indexByte t 0 == -1) = false := by simpa using h3
        simp [h4]; omega
theorem clean_any (s : ByteArray) (w : World) :
    Calls Try.prog 93 #[.string s] w fun e w' => e = .returned (.bool (cleanB s.data.toList)) ∧ w = w' := by
  go_enter Try.func93, Try.ntmps93
  go_wp2
  rw [run_callFunc_extern Try.func115 (by kernel_rfl) (by kernel_rfl) (by kernel_rfl) (e := Extern.BytealgIndexByte.indexByte) (by kernel_rfl), Lib.run_indexByteString]
  simp only [Result.andThen]
  rw [Oper.upon_value]
  go_wp2
  go_ret
  exact ⟨by rw [← indexByte_neg]; rfl, rfl⟩
theorem clean_no {xs : List UInt8} {k : Nat} (hk : k < xs.length) (h : xs.getD k 0 = 0) : cleanB xs = false := by
  have : xs.contains 0 = true := by
    rw [List.contains_iff_mem, ← h, List.getD_eq_getElem?_getD, List.getElem?_eq_getElem hk]
    exact List.getElem_mem hk
  simp [cleanB] at this ⊢
  exact this
theorem clean_yes {xs : List UInt8} (h : ∀ k, k < xs.length → xs.getD k 0 ≠ 0) : cleanB xs = true := by
  simp only [cleanB, Bool.not_eq_true', ← Bool.not_eq_true, List.contains_iff_mem]
  intro hm
  obtain ⟨k, hk, he⟩ := List.mem_iff_getElem.1 hm
  exact h k hk (by rw [List.getD_eq_getElem?_getD, List.getElem?_eq_getElem hk, he]; rfl)

set_option maxHeartbeats 400000 in
theorem rclean_any (s : ByteArray) (w : World) (hs : s.size ≤ maxLen) :
    Calls Try.prog 58 #[.string s] w fun e w' => e = .returned (.bool (cleanB s.data.toList)) ∧ w = w' := by
  unfold maxLen at hs
  go_enter Try.func58, Try.ntmps58
  go_wp2
  go_loop [3] (fun i => ∃ k : Nat, k ≤ s.size ∧ i = .int .i64 k ∧ ∀ j, j < k → s.data.toList.getD j 0 ≠ 0) (fun i => s.size - (intOf i).toNat)
  case atStart => exact ⟨0, Nat.zero_le _, rfl, fun j hj => by omega⟩
  case round =>
    obtain ⟨k, hk, rfl, hall⟩ := hrel
    have HA := Lib.hid hall
    clear hall
    by_cases hlt : k < s.size
    · by_cases h0 : s[k].toNat = 0
      · have hb : ((s[k].toNat : Int) == 0) = true := by simp [h0]
        have HE := Lib.hid (clean_no (xs := s.data.toList) (k := k) (by rw [len_of]; exact hlt) (by rw [byte_of s k hlt]; apply UInt8.toNat_inj.1; simpa using h0))
        clear h0
        go_wp2
        go_ret
        exact ⟨by rw [HE.out]; rfl, rfl⟩
      · have hb : ((s[k].toNat : Int) == 0) = false := by simp; omega
        have HN : Hid (s.data.toList.getD k 0 ≠ 0) := Lib.hid (by rw [byte_of s k hlt]; intro e; exact h0 (by rw [e]; rfl))
        clear h0
        go_wp2
        go_round
        case rel =>
          refine ⟨k + 1, by omega, by go_num, fun j hj => ?_⟩
          rcases Nat.lt_or_ge j k with h | h
          · exact HA.out j h
          · obtain rfl : j = k := by omega
            exact HN.out
        case measure => simp [intOf]; omega
    · obtain rfl : k = s.size := by omega
      have HE := Lib.hid (clean_yes (xs := s.data.toList) (by rw [len_of]; exact HA.out))
      go_wp2
      go_ret
      exact ⟨by rw [HE.out]; rfl, rfl⟩

end Go.Proofs.Ytngmfgdoopkkdaa.Dg
