/- The walks of the statements of layer 2: each returns true at every input, and writes nothing that was there. -/
import Derived.Test.YtfoofjhoajbbbaaDigC
namespace Go.Proofs.Ytfoofjhoajbbbaa.Dg
open Go.RowKit Go By

theorem parse_120 (w : World) : Calls Try.prog 20 #[.string ⟨#[49, 50, 48]⟩, .int .i64 200] w fun e w' => e = .returned (.tuple #[.int .i64 120, .bool true]) ∧ w = w' := by
  have := parse_any ⟨#[49, 50, 48]⟩ 200 w (by simp [ByteArray.size, maxLen])
  exact this
theorem text_m12 (w : World) : Calls Try.prog 22 #[.int .i64 (-12)] w fun e w' => e = .returned (.string ⟨#[45, 49, 50]⟩) ∧ Below w.heap.size w w' := by
  have h : textL (-12) = [45, 49, 50] := by
    unfold textL; rw [if_pos (by omega)]
    rw [show (-12 : Int).natAbs = 12 from rfl, digsN_big (by omega), digsN_small (by omega)]; rfl
  have := text_any (-12) w (by omega) (by omega)
  rw [h] at this
  exact this
theorem clean_a (w : World) : Calls Try.prog 24 #[.string ⟨#[97]⟩] w fun e w' => e = .returned (.bool true) ∧ w = w' := clean_any ⟨#[97]⟩ w
theorem quote_a (w : World) : Calls Try.prog 26 #[.string ⟨#[97]⟩] w fun e w' => e = .returned (.string ⟨#[34, 97, 34]⟩) ∧ w = w' := by
  have := quote_any ⟨#[97]⟩ w (by simp [ByteArray.size])
  exact this

set_option maxHeartbeats 400000 in
theorem awake2_any (w : World) : Calls Try.prog 19 #[] w fun e w' => e = .returned (.bool true) ∧ Below w.heap.size w w' := by
  go_enter Try.func19, Try.ntmps19
  go_wp2_with (first
    | (go_at_call 20; refine (parse_120 _).mono ?_; rintro e w' ⟨rfl, rfl⟩)
    | (go_at_call 22; refine (text_m12 _).mono ?_; rintro e w2 ⟨rfl, hb2⟩; have HB := Lib.hid hb2; clear hb2)
    | (go_at_call 24; refine (clean_a _).mono ?_; rintro e w' ⟨rfl, rfl⟩)
    | (go_at_call 26; refine (quote_a _).mono ?_; rintro e w' ⟨rfl, rfl⟩))
  go_ret
  exact ⟨rfl, HB.out⟩

theorem i64_of_wf {x : Int} (h : (Lit.int .i64 x).wf = true) : -9223372036854775808 ≤ x ∧ x ≤ 9223372036854775807 := by
  have lo : IntKind.i64.min = -9223372036854775808 := rfl
  have hi : IntKind.i64.max = 9223372036854775807 := rfl
  simp [Lit.wf] at h
  omega

set_option maxHeartbeats 400000 in
theorem digitsTell_walk (n most : Int) (s : ByteArray) (h0 : (Lit.int .i64 n).wf = true) (_ : (Lit.int .i64 most).wf = true) (hs : s.size ≤ maxLen) (w : World) :
    Calls Try.prog 6 #[.int .i64 n, .int .i64 most, .string s] w fun e w' => e = .returned (.bool true) ∧ Below w.heap.size w w' := by
  have hn := i64_of_wf h0
  have HN := Lib.hid hn
  have HS := Lib.hid hs
  clear hn h0 hs
  by_cases h : (2000 : Int) < s.size
  · go_enter Try.func6, Try.ntmps6
    go_wp2_with (go_at_call 19; refine (awake2_any _).mono ?_; rintro e w' ⟨rfl, hb⟩)
    go_ret
    exact ⟨rfl, hb⟩
  · have hl : s.size ≤ 9223372036854775805 := by omega
    have HL := Lib.hid hl
    clear hl
    go_enter Try.func6, Try.ntmps6
    go_wp2_with (first
      | (go_at_call 20; refine (parse_any s most _ HS.out).mono ?_; rintro e w' ⟨rfl, rfl⟩; unfold parsed)
      | (go_at_call 21; refine (rparse_any s most _ HS.out).mono ?_; rintro e w' ⟨rfl, rfl⟩; unfold parsed)
      | (go_at_call 22; refine (text_any n _ HN.out.1 HN.out.2).mono ?_; rintro e w1 ⟨rfl, hb1⟩; have HB1 := Lib.hid hb1; clear hb1)
      | (go_at_call 23; refine (rtext_any n _ HN.out.1 HN.out.2).mono ?_; rintro e w' ⟨rfl, rfl⟩)
      | (go_at_call 24; refine (clean_any s _).mono ?_; rintro e w' ⟨rfl, rfl⟩)
      | (go_at_call 25; refine (rclean_any s _ HS.out).mono ?_; rintro e w' ⟨rfl, rfl⟩)
      | (go_at_call 26; refine (quote_any s _ HL.out).mono ?_; rintro e w' ⟨rfl, rfl⟩)
      | (go_at_call 27; refine (rquote_any s _ HL.out).mono ?_; rintro e w2 ⟨rfl, hb2⟩; have HB2 := Lib.hid hb2; clear hb2)
      | (go_at_call 19; refine (awake2_any _).mono ?_; rintro e w3 ⟨rfl, hb⟩))
    go_ret
    exact ⟨rfl, (HB1.out.trans (HB2.out.mono HB1.out.size)).trans (hb.mono (Nat.le_trans HB1.out.size HB2.out.size))⟩

theorem parse_back (n : Int) (w : World) (h0 : 0 ≤ n) (h1 : n ≤ 9999999999) :
    Calls Try.prog 20 #[.string (strB (textL n)), .int .i64 n] w fun e w' => e = .returned (.tuple #[.int .i64 n, .bool true]) ∧ w = w' := by
  have hm : (strB (textL n)).size ≤ maxLen := by
    rw [strB_size, textL, if_neg (by omega)]
    have := digsN_le20 n.toNat (by omega)
    unfold maxLen; omega
  have h := parse_any (strB (textL n)) n w hm
  have e : parsed (strB (textL n)).data.toList n = .tuple #[.int .i64 n, .bool true] := by
    have e1 : (strB (textL n)).data.toList = digsN n.toNat := by rw [textL, if_neg (by omega)]; rfl
    have hp := parse_digs n.toNat (by omega)
    rw [show ((n.toNat : Nat) : Int) = n from by omega] at hp
    rw [e1, parsed, hp.1, hp.2]
  rw [e] at h
  exact h
theorem parsed_most (xs : List UInt8) : (parseB xs 1099511627776 = true ∧ textL (parseV xs 1099511627776) = xs ∧ 0 ≤ parseV xs 1099511627776 ∧ parseV xs 1099511627776 ≤ 9223372036854775807) ∨ (parseB xs 1099511627776 = false ∧ parseV xs 1099511627776 = 0) := by
  cases h : parseB xs 1099511627776 with
  | false => exact .inr ⟨rfl, parse_no xs _ h⟩
  | true =>
    have hv : parseV xs 1099511627776 = numL xs := by simp [parseV, h]
    have hm : (numL xs : Int) ≤ 1099511627776 := by simp [parseB] at h; omega
    exact .inl ⟨rfl, digs_parse xs _ h, by omega, by omega⟩

theorem str_same (s : ByteArray) : ((strB s.data.toList).toList == s.toList) = true := by
  rw [strB_toList, ByteArray.toList_eq]; simp
theorem parse_case (s : ByteArray) (hs : s.size ≤ maxLen) :
    (∃ v : Int, 0 ≤ v ∧ v ≤ 9223372036854775807 ∧ ((strB (textL v)).toList == s.toList) = true ∧
      ∀ W : World, Calls Try.prog 20 #[.string s, .int .i64 1099511627776] W fun e w' => e = .returned (.tuple #[.int .i64 v, .bool true]) ∧ W = w') ∨
    ∀ W : World, Calls Try.prog 20 #[.string s, .int .i64 1099511627776] W fun e w' => e = .returned (.tuple #[.int .i64 0, .bool false]) ∧ W = w' := by
  rcases parsed_most s.data.toList with ⟨h1, h2, h3, h4⟩ | ⟨h1, h2⟩
  · left
    refine ⟨_, h3, h4, by rw [h2]; exact str_same s, fun W => ?_⟩
    have := parse_any s 1099511627776 W hs
    unfold parsed at this
    rw [h1] at this
    exact this
  · right
    intro W
    have := parse_any s 1099511627776 W hs
    unfold parsed at this
    rw [h1, h2] at this
    exact this

set_option maxHeartbeats 1000000 in
theorem digitsBack_in (n : Int) (s : ByteArray) (h0 : 0 ≤ n ∧ n ≤ 9999999999) (hs : s.size ≤ maxLen) (w : World) :
    Calls Try.prog 7 #[.int .i64 n, .string s] w fun e w' => e = .returned (.bool true) ∧ Below w.heap.size w w' := by
  have HS := Lib.hid hs
  clear hs
  obtain ⟨h1, h2⟩ := h0
  by_cases h : (2000 : Int) < s.size
  · go_enter Try.func7, Try.ntmps7
    go_wp2_with (first
      | (go_at_call 22; refine (text_any n _ (by omega) (by omega)).mono ?_; rintro e w1 ⟨rfl, hb1⟩; have HB1 := Lib.hid hb1; clear hb1)
      | (go_at_call 20; refine (parse_back n _ h1 h2).mono ?_; rintro e w' ⟨rfl, rfl⟩)
      | (go_at_call 19; refine (awake2_any _).mono ?_; rintro e w3 ⟨rfl, hb⟩))
    go_ret
    exact ⟨rfl, HB1.out.trans (hb.mono HB1.out.size)⟩
  · rcases parse_case s HS.out with ⟨v, hv0, hv1, hq, hp⟩ | hp
    · have HP := Lib.hid hp
      clear hp
      go_enter Try.func7, Try.ntmps7
      go_wp2_with fail
      refine (text_any n _ (by omega) (by omega)).mono ?_
      rintro e w1 ⟨rfl, hb1⟩
      have HB1 := Lib.hid hb1
      clear hb1
      go_wp2_with fail
      refine (parse_back n _ h1 h2).mono ?_
      rintro e w' ⟨rfl, rfl⟩
      go_wp2_with fail
      refine (HP.out _).mono ?_
      rintro e w' ⟨rfl, rfl⟩
      go_wp2_with fail
      refine (text_any v _ (by omega) hv1).mono ?_
      rintro e w2 ⟨rfl, hb2⟩
      have HB2 := Lib.hid hb2
      clear hb2
      go_wp2_with (go_at_call 19; refine (awake2_any _).mono ?_; rintro e w3 ⟨rfl, hb⟩)
      go_ret
      exact ⟨rfl, (HB1.out.trans (HB2.out.mono HB1.out.size)).trans (hb.mono (Nat.le_trans HB1.out.size HB2.out.size))⟩
    · have HP := Lib.hid hp
      clear hp
      go_enter Try.func7, Try.ntmps7
      go_wp2_with fail
      refine (text_any n _ (by omega) (by omega)).mono ?_
      rintro e w1 ⟨rfl, hb1⟩
      have HB1 := Lib.hid hb1
      clear hb1
      go_wp2_with fail
      refine (parse_back n _ h1 h2).mono ?_
      rintro e w' ⟨rfl, rfl⟩
      go_wp2_with fail
      refine (HP.out _).mono ?_
      rintro e w' ⟨rfl, rfl⟩
      go_wp2_with (go_at_call 19; refine (awake2_any _).mono ?_; rintro e w3 ⟨rfl, hb⟩)
      go_ret
      exact ⟨rfl, HB1.out.trans (hb.mono HB1.out.size)⟩

set_option maxHeartbeats 1000000 in
theorem digitsBack_low (n : Int) (s : ByteArray) (h0 : n < 0) (hs : s.size ≤ maxLen) (w : World) :
    Calls Try.prog 7 #[.int .i64 n, .string s] w fun e w' => e = .returned (.bool true) ∧ Below w.heap.size w w' := by
  have HS := Lib.hid hs
  clear hs
  by_cases h : (2000 : Int) < s.size
  · go_enter Try.func7, Try.ntmps7
    go_wp2_with (go_at_call 19; refine (awake2_any _).mono ?_; rintro e w3 ⟨rfl, hb⟩)
    go_ret
    exact ⟨rfl, hb⟩
  · rcases parse_case s HS.out with ⟨v, hv0, hv1, hq, hp⟩ | hp
    · have HP := Lib.hid hp
      clear hp
      go_enter Try.func7, Try.ntmps7
      go_wp2_with fail
      refine (HP.out _).mono ?_
      rintro e w' ⟨rfl, rfl⟩
      go_wp2_with fail
      refine (text_any v _ (by omega) hv1).mono ?_
      rintro e w2 ⟨rfl, hb2⟩
      have HB2 := Lib.hid hb2
      clear hb2
      go_wp2_with (go_at_call 19; refine (awake2_any _).mono ?_; rintro e w3 ⟨rfl, hb⟩)
      go_ret
      exact ⟨rfl, HB2.out.trans (hb.mono HB2.out.size)⟩
    · have HP := Lib.hid hp
      clear hp
      go_enter Try.func7, Try.ntmps7
      go_wp2_with fail
      refine (HP.out _).mono ?_
      rintro e w' ⟨rfl, rfl⟩
      go_wp2_with (go_at_call 19; refine (awake2_any _).mono ?_; rintro e w3 ⟨rfl, hb⟩)
      go_ret
      exact ⟨rfl, hb⟩

set_option maxHeartbeats 1000000 in
theorem digitsBack_high (n : Int) (s : ByteArray) (h0 : 9999999999 < n) (hs : s.size ≤ maxLen) (w : World) :
    Calls Try.prog 7 #[.int .i64 n, .string s] w fun e w' => e = .returned (.bool true) ∧ Below w.heap.size w w' := by
  have HS := Lib.hid hs
  clear hs
  by_cases h : (2000 : Int) < s.size
  · go_enter Try.func7, Try.ntmps7
    go_wp2_with (go_at_call 19; refine (awake2_any _).mono ?_; rintro e w3 ⟨rfl, hb⟩)
    go_ret
    exact ⟨rfl, hb⟩
  · rcases parse_case s HS.out with ⟨v, hv0, hv1, hq, hp⟩ | hp
    · have HP := Lib.hid hp
      clear hp
      go_enter Try.func7, Try.ntmps7
      go_wp2_with fail
      refine (HP.out _).mono ?_
      rintro e w' ⟨rfl, rfl⟩
      go_wp2_with fail
      refine (text_any v _ (by omega) hv1).mono ?_
      rintro e w2 ⟨rfl, hb2⟩
      have HB2 := Lib.hid hb2
      clear hb2
      go_wp2_with (go_at_call 19; refine (awake2_any _).mono ?_; rintro e w3 ⟨rfl, hb⟩)
      go_ret
      exact ⟨rfl, HB2.out.trans (hb.mono HB2.out.size)⟩
    · have HP := Lib.hid hp
      clear hp
      go_enter Try.func7, Try.ntmps7
      go_wp2_with fail
      refine (HP.out _).mono ?_
      rintro e w' ⟨rfl, rfl⟩
      go_wp2_with (go_at_call 19; refine (awake2_any _).mono ?_; rintro e w3 ⟨rfl, hb⟩)
      go_ret
      exact ⟨rfl, hb⟩

theorem digitsBack_walk (n : Int) (s : ByteArray) (hs : s.size ≤ maxLen) (w : World) :
    Calls Try.prog 7 #[.int .i64 n, .string s] w fun e w' => e = .returned (.bool true) ∧ Below w.heap.size w w' := by
  by_cases h1 : n < 0
  · exact digitsBack_low n s h1 hs w
  · by_cases h2 : 9999999999 < n
    · exact digitsBack_high n s h2 hs w
    · exact digitsBack_in n s ⟨by omega, by omega⟩ hs w
end Go.Proofs.Ytfoofjhoajbbbaa.Dg
