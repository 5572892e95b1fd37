/- The walks of the statements of layer 1: each returns true at every input, and writes nothing that was there. -/
import Derived.Test.YtfoofjhoajbbbaaNumE
namespace Go.Proofs.Ytfoofjhoajbbbaa.Nm
open Go.RowKit Go By

set_option maxHeartbeats 400000 in
theorem numGets_walk (a0 : Option Addr) (len0 cap0 : Nat) (z0 : List Int) (a1 a2 a3 : Int) (w : World) (w0 : Row w a0 len0 cap0 z0) :
    Calls Try.prog 3 #[.slice a0 len0 cap0, .int .i64 a1, .int .i64 a2, .int .i64 a3] w fun e w' => e = .returned (.bool true) ∧ Below w.heap.size w w' := by
  obtain ⟨xs, rfl, hx, _, hlc, hm⟩ := w0.bytes
  have hl : xs.length ≤ 9223372036854775807 := by unfold maxLen at hm; omega
  have HX := Lib.hid hx
  have HL := Lib.hid hl
  clear hx hlc hm w0
  by_cases h : (2000 : Int) < xs.length
  · go_enter Try.func3, Try.ntmps3
    go_wp2_with (go_at_call 8; refine (awake_any _).mono ?_; rintro e w' ⟨rfl, hb⟩)
    go_ret
    exact ⟨rfl, hb⟩
  · go_enter Try.func3, Try.ntmps3
    go_wp2_with (first
      | (go_at_call 9; refine (get_any w.heap.size a0 cap0 xs a1 a2 w HL.out HX.out).mono ?_; rintro e w' ⟨rfl, rfl⟩; unfold gotten)
      | (go_at_call 10; refine (rget_any w.heap.size a0 cap0 xs a1 a2 w HL.out HX.out).mono ?_; rintro e w' ⟨rfl, rfl⟩; unfold gotten)
      | (go_at_call 11; refine (signed_any _ _ _).mono ?_; rintro e w' ⟨rfl, rfl⟩)
      | (go_at_call 12; refine (rsigned_any _ _ _).mono ?_; rintro e w' ⟨rfl, rfl⟩)
      | (go_at_call 13; refine (right_any _ _ _).mono ?_; rintro e w' ⟨rfl, rfl⟩)
      | (go_at_call 14; refine (rright_any _ _ _).mono ?_; rintro e w' ⟨rfl, rfl⟩)
      | (go_at_call 8; refine (awake_any _).mono ?_; rintro e w' ⟨rfl, hb⟩))
    go_ret
    exact ⟨rfl, hb⟩

theorem equal_same (B1 B2 : Nat) (a1 a2 : Option Addr) (c1 c2 : Nat) (xs : List UInt8) (w : World) (h1 : BytesAt w B1 a1 xs) (h2 : BytesAt w B2 a2 xs) :
    Calls Try.prog 16 #[.slice a1 xs.length c1, .slice a2 xs.length c2] w fun e w' => e = .returned (.bool true) ∧ w = w' :=
  (equal_any B1 B2 a1 a2 c1 c2 xs xs w h1 h2).mono fun _ _ ⟨he, hw⟩ => ⟨by rw [he]; simp, hw⟩

set_option maxHeartbeats 400000 in
theorem numPuts_walk (a0 : Option Addr) (len0 cap0 : Nat) (z0 : List Int) (a1 a2 : Int) (w : World) (w0 : Row w a0 len0 cap0 z0) :
    Calls Try.prog 4 #[.slice a0 len0 cap0, .int .i64 a1, .int .i64 a2] w fun e w' => e = .returned (.bool true) ∧ Below w.heap.size w w' := by
  obtain ⟨xs, rfl, hx, hcp, hlc, hm⟩ := w0.bytes
  have HX := Lib.hid hx
  have HC := Lib.hid hcp
  clear hx hlc hm w0 hcp
  by_cases h : (2000 : Int) < xs.length
  · go_enter Try.func4, Try.ntmps4
    go_wp2_with (go_at_call 8; refine (awake_any _).mono ?_; rintro e w' ⟨rfl, hb⟩)
    go_ret
    exact ⟨rfl, hb⟩
  · have hl : xs.length ≤ 2000 := by omega
    have HL := Lib.hid hl
    clear hl
    go_enter Try.func4, Try.ntmps4
    go_wp2_with (first
      | (go_at_call 15; refine (clone_any w.heap.size a0 cap0 xs w HX.out (Nat.le_refl _) HC.out (by have := HL.out; omega)).mono ?_; rintro e w1 ⟨ao, co, rfl, _, _, hyo, hbo⟩; have HYo := Lib.hid hyo; have HBo := Lib.hid hbo; clear hyo hbo)
      | (go_at_call 17; refine (put_any w.heap.size a0 cap0 xs a1 a2 w1 (HX.out.below HBo.out) HBo.out.size HC.out (by have := HL.out; omega)).mono ?_; rintro e w2 ⟨ap, cp, rfl, _, _, hyp, hbp⟩; have HYp := Lib.hid hyp; have HBp := Lib.hid hbp; clear hyp hbp)
      | (go_at_call 18; refine (rput_any w.heap.size a0 cap0 xs a1 a2 w2 ((HX.out.below HBo.out).below (HBp.out.mono HBo.out.size)) HC.out (by have := HL.out; omega)).mono ?_; rintro e w3 ⟨ar, cr, rfl, _, _, hyr, hbr⟩; have HYr := Lib.hid hyr; have HBr := Lib.hid hbr; clear hyr hbr)
      | (go_at_call 16; with_reducible refine Calls.mono (equal_same w2.heap.size w3.heap.size ap ar cp cr (putL xs a1 a2) w3 (HYp.out.below HBr.out) HYr.out) ?_; rintro e w' ⟨rfl, rfl⟩)
      | (go_at_call 16; with_reducible refine Calls.mono (equal_same w.heap.size w1.heap.size a0 ao cap0 co xs w3 (((HX.out.below HBo.out).below (HBp.out.mono HBo.out.size)).below (HBr.out.mono (Nat.le_trans HBo.out.size HBp.out.size))) ((HYo.out.below HBp.out).below (HBr.out.mono HBp.out.size))) ?_; rintro e w' ⟨rfl, rfl⟩)
      | (go_at_call 8; refine (awake_any _).mono ?_; rintro e w' ⟨rfl, hb⟩))
    go_ret
    exact ⟨rfl, ((HBo.out.trans (HBp.out.mono HBo.out.size)).trans (HBr.out.mono (Nat.le_trans HBo.out.size HBp.out.size))).trans (hb.mono (Nat.le_trans HBo.out.size (Nat.le_trans HBp.out.size HBr.out.size)))⟩

theorem getI_behind (xs ys : List UInt8) : ∀ j, getI (xs ++ ys) xs.length j = getI ys 0 j
  | 0 => rfl
  | j + 1 => by rw [getI, getI, getI_behind xs ys j, byteAt_append_right, Nat.zero_add]
theorem getI_put1 (n : Int) : getI (putTo n 1 1) 0 1 = n % 256 := by
  simp [getI, putTo, byteAt, putByte_val]
theorem getI_put2 (n : Int) : getI (putTo n 2 2) 0 2 = n % 65536 := by
  simp [getI, putTo, byteAt, putByte_val]; omega
theorem getI_put4 (n : Int) : getI (putTo n 4 4) 0 4 = n % 4294967296 := by
  simp [getI, putTo, byteAt, putByte_val]; omega
/-- What is got from what was put. -/
theorem got_put (xs : List UInt8) (n size : Int) (hr : rightB n size = true) : gotten (putL xs n size) xs.length size = .tuple #[.int .i64 (n % powI size), .int .i64 0] := by
  have hs : szB size = true := by
    cases hs : szB size with
    | true => rfl
    | false => simp [rightB, hs] at hr
  rw [putL, if_pos hr]
  rcases szB_cases hs with rfl | rfl | rfl
  · have := gotten_ok (xs := xs ++ putTo n 1 1) (i := xs.length) (size := 1) rfl (by simp [putTo_length])
    rw [getI_behind, getI_put1] at this
    exact this
  · have := gotten_ok (xs := xs ++ putTo n 2 2) (i := xs.length) (size := 2) rfl (by simp [putTo_length])
    rw [getI_behind, getI_put2] at this
    exact this
  · have := gotten_ok (xs := xs ++ putTo n 4 4) (i := xs.length) (size := 4) rfl (by simp [putTo_length])
    rw [getI_behind, getI_put4] at this
    exact this
theorem signed_back (n size : Int) (hr : rightB n size = true) (hn : n < 0) : signedI (n % powI size) size = n := by
  have hs : szB size = true := by
    cases hs : szB size with
    | true => rfl
    | false => simp [rightB, hs] at hr
  have hb := right_bounds hr
  rcases szB_cases hs with rfl | rfl | rfl
  all_goals
    simp only [powI] at hb ⊢
    simp at hb ⊢
    unfold signedI
    rw [if_pos ⟨rfl, by simp [powI]; omega, by simp [powI]; omega⟩]
    simp [powI]
    omega
theorem unsigned_back (n size : Int) (hr : rightB n size = true) (hn : 0 ≤ n) : n % powI size = n := by
  have hs : szB size = true := by
    cases hs : szB size with
    | true => rfl
    | false => simp [rightB, hs] at hr
  have hb := right_bounds hr
  exact Int.emod_eq_of_lt hn hb.2

theorem get_of_put (B : Nat) (a : Option Addr) (cap : Nat) (xs : List UInt8) (n size : Int) (w : World) (hl : xs.length ≤ 2000) (hr : rightB n size = true) (hb : BytesAt w B a (putL xs n size)) :
    Calls Try.prog 9 #[.slice a (putL xs n size).length cap, .int .i64 xs.length, .int .i64 size] w fun e w' => e = .returned (.tuple #[.int .i64 (n % powI size), .int .i64 0]) ∧ w = w' := by
  rw [← got_put xs n size hr]
  refine get_any B a cap (putL xs n size) xs.length size w ?_ hb
  have hs : szB size = true := by
    cases hs : szB size with
    | true => rfl
    | false => simp [rightB, hs] at hr
  rw [putL, if_pos hr, List.length_append, putTo_length]
  have := szB_four hs
  omega

set_option maxHeartbeats 400000 in
theorem numBack_walk (a0 : Option Addr) (len0 cap0 : Nat) (z0 : List Int) (a1 a2 : Int) (w : World) (w0 : Row w a0 len0 cap0 z0) :
    Calls Try.prog 5 #[.slice a0 len0 cap0, .int .i64 a1, .int .i64 a2] w fun e w' => e = .returned (.bool true) ∧ Below w.heap.size w w' := by
  obtain ⟨xs, rfl, hx, hcp, hlc, hm⟩ := w0.bytes
  have HX := Lib.hid hx
  have HC := Lib.hid hcp
  clear hx hlc hm w0 hcp
  by_cases h : (2000 : Int) < xs.length
  · go_enter Try.func5, Try.ntmps5
    go_wp2_with (first
      | (go_at_call 13; refine (right_any _ _ _).mono ?_; rintro e w' ⟨rfl, rfl⟩)
      | (go_at_call 14; refine (rright_any _ _ _).mono ?_; rintro e w' ⟨rfl, rfl⟩)
      | (go_at_call 8; refine (awake_any _).mono ?_; rintro e w' ⟨rfl, hb⟩))
    go_ret
    exact ⟨rfl, hb⟩
  · have hl : xs.length ≤ 2000 := by omega
    have HL := Lib.hid hl
    clear hl
    cases hr : rightB a1 a2 with
    | false =>
      have HR := Lib.hid hr
      clear hr
      go_enter Try.func5, Try.ntmps5
      go_wp2_with (first
        | (go_at_call 13; refine (right_any _ _ _).mono ?_; rintro e w' ⟨rfl, rfl⟩; rw [HR.out])
        | (go_at_call 14; refine (rright_any _ _ _).mono ?_; rintro e w' ⟨rfl, rfl⟩; rw [HR.out])
        | (go_at_call 8; refine (awake_any _).mono ?_; rintro e w' ⟨rfl, hb⟩))
      go_ret
      exact ⟨rfl, hb⟩
    | true =>
      have HR := Lib.hid hr
      clear hr
      by_cases hn : a1 < 0
      · have HS := Lib.hid (signed_back a1 a2 HR.out hn)
        go_enter Try.func5, Try.ntmps5
        go_wp2_with (first
          | (go_at_call 13; refine (right_any _ _ _).mono ?_; rintro e w' ⟨rfl, rfl⟩; rw [HR.out])
          | (go_at_call 17; refine (put_any w.heap.size a0 cap0 xs a1 a2 w HX.out (Nat.le_refl _) HC.out (by have := HL.out; omega)).mono ?_; rintro e w2 ⟨ap, cp, rfl, _, _, hyp, hbp⟩; have HYp := Lib.hid hyp; have HBp := Lib.hid hbp; clear hyp hbp)
          | (go_at_call 9; refine (get_of_put w2.heap.size ap cp xs a1 a2 w2 HL.out HR.out HYp.out).mono ?_; rintro e w' ⟨rfl, rfl⟩)
          | (go_at_call 11; refine (signed_any _ _ _).mono ?_; rintro e w' ⟨rfl, rfl⟩; rw [HS.out])
          | (go_at_call 8; refine (awake_any _).mono ?_; rintro e w' ⟨rfl, hb⟩))
        go_ret
        exact ⟨rfl, HBp.out.trans (hb.mono HBp.out.size)⟩
      · have HS := Lib.hid (unsigned_back a1 a2 HR.out (by omega))
        go_enter Try.func5, Try.ntmps5
        go_wp2_with (first
          | (go_at_call 13; refine (right_any _ _ _).mono ?_; rintro e w' ⟨rfl, rfl⟩; rw [HR.out])
          | (go_at_call 17; refine (put_any w.heap.size a0 cap0 xs a1 a2 w HX.out (Nat.le_refl _) HC.out (by have := HL.out; omega)).mono ?_; rintro e w2 ⟨ap, cp, rfl, _, _, hyp, hbp⟩; have HYp := Lib.hid hyp; have HBp := Lib.hid hbp; clear hyp hbp)
          | (go_at_call 9; refine (get_of_put w2.heap.size ap cp xs a1 a2 w2 HL.out HR.out HYp.out).mono ?_; rintro e w' ⟨rfl, rfl⟩; rw [HS.out])
          | (go_at_call 8; refine (awake_any _).mono ?_; rintro e w' ⟨rfl, hb⟩))
        go_ret
        exact ⟨rfl, HBp.out.trans (hb.mono HBp.out.size)⟩
end Go.Proofs.Ytfoofjhoajbbbaa.Nm
