/- The contracts of the two functions that read a number from bytes (num.Get and the document's answer): at any bytes, any place, any size they give the same number and the same error. -/
import Derived.Test.YtlbgjlmokpkkeaaGreatDoorRows
import Derived.WalkKit
import Derived.WalkSpells
import Derived.WalkLawsBesides
import Derived.Lib.Hide
import Derived.Test.YtlbgjlmokpkkeaaGreatDoorQElems
/- The contracts of the functions that only compute: sizes, powers, which numbers are right, signs (package num and the document's answers). Conditions: none beyond each contract's own premises. -/
namespace Go.Proofs.YtlbgjlmokpkkeaaGreatDoor.Nm
set_option maxRecDepth 100000
open Go.RowKit Go

/-- Is it a size? -/
def szB (n : Int) : Bool := n == 1 || n == 2 || n == 4
/-- 256 to the power of a size. -/
def powI (n : Int) : Int := if n = 1 then 256 else if n = 2 then 65536 else 4294967296
def rightB (n size : Int) : Bool := szB size && (decide (-(powI size / 2) ≤ n) && decide (n < powI size))
def signedI (n size : Int) : Int := if szB size = true ∧ powI size / 2 ≤ n ∧ n < powI size then n - powI size else n

theorem szB_cases {n : Int} (h : szB n = true) : n = 1 ∨ n = 2 ∨ n = 4 := by
  simp [szB] at h; omega
theorem isSize_any (n : Int) (w : World) :
    Calls Tryz.prog 105 #[.int .i64 n] w fun e w' => e = .returned (.bool (szB n)) ∧ w = w' := by
  by_cases h1 : n = 1
  · subst h1
    go_enter Tryz.func105, Tryz.ntmps105
    go_wp2
    go_ret
    exact ⟨rfl, rfl⟩
  · have h1' : (n == 1) = false := by simpa using h1
    by_cases h2 : n = 2
    · subst h2
      go_enter Tryz.func105, Tryz.ntmps105
      go_wp2
      go_ret
      exact ⟨rfl, rfl⟩
    · have h2' : (n == 2) = false := by simpa using h2
      have hs : szB n = (n == 4) := by simp [szB, h1', h2']
      rw [hs]; clear hs
      go_enter Tryz.func105, Tryz.ntmps105
      go_wp2
      go_ret
      exact ⟨rfl, rfl⟩

theorem sized_any (n : Int) (w : World) :
    Calls Tryz.prog 81 #[.int .i64 n] w fun e w' => e = .returned (.bool (szB n)) ∧ w = w' := by
  by_cases h1 : n = 1
  · subst h1
    go_enter Tryz.func81, Tryz.ntmps81
    go_wp2
    go_ret
    exact ⟨rfl, rfl⟩
  · have h1' : (n == 1) = false := by simpa using h1
    by_cases h2 : n = 2
    · subst h2
      go_enter Tryz.func81, Tryz.ntmps81
      go_wp2
      go_ret
      exact ⟨rfl, rfl⟩
    · have h2' : (n == 2) = false := by simpa using h2
      have hs : szB n = (n == 4) := by simp [szB, h1', h2']
      rw [hs]; clear hs
      go_enter Tryz.func81, Tryz.ntmps81
      go_wp2
      go_ret
      exact ⟨rfl, rfl⟩

theorem span_any (n : Int) (w : World) (h : szB n = true) :
    Calls Tryz.prog 126 #[.int .i64 n] w fun e w' => e = .returned (.int .i64 (powI n)) ∧ w = w' := by
  rcases szB_cases h with h | h | h
  all_goals
    subst h
    go_enter Tryz.func126, Tryz.ntmps126
    go_wp2
    go_ret
    exact ⟨rfl, rfl⟩

/-- 256 to the power of k, by rounds. -/
def p256 : Nat → Int
  | 0 => 1
  | k + 1 => p256 k * 256
theorem p256_le : ∀ k, k ≤ 4 → 1 ≤ p256 k ∧ p256 k ≤ 4294967296
  | 0, _ => by decide
  | 1, _ => by decide
  | 2, _ => by decide
  | 3, _ => by decide
  | 4, _ => by decide
  | k + 5, h => by omega

set_option maxHeartbeats 400000 in
theorem pow_any (k : Nat) (w : World) (hk : k ≤ 4) :
    Calls Tryz.prog 56 #[.int .i64 k] w fun e w' => e = .returned (.int .i64 (p256 k)) ∧ w = w' := by
  go_enter Tryz.func56, Tryz.ntmps56
  go_wp2
  go_loop [3, 4] (fun n i => ∃ j : Nat, j ≤ k ∧ i = .int .i64 j ∧ n = .int .i64 (p256 j)) (fun _ i => k - (intOf i).toNat)
  case atStart => exact ⟨0, Nat.zero_le _, rfl, rfl⟩
  case round =>
    obtain ⟨j, hj, rfl, rfl⟩ := hrel
    have hb := p256_le j (by omega)
    by_cases hlt : j < k
    · have hb1 := (p256_le (j + 1) (by omega)).2
      have hx : p256 (j + 1) = p256 j * 256 := rfl
      rw [hx] at hb1
      clear hx
      go_wp2
      go_round
      case rel => exact ⟨j + 1, by omega, by go_num, rfl⟩
      case measure => simp [intOf]; omega
    · obtain rfl : j = k := by omega
      go_wp2
      go_ret
      exact ⟨rfl, rfl⟩

theorem right_lo {n size : Int} (h : ¬ -(powI size / 2) ≤ n) : rightB n size = false := by
  unfold rightB; rw [decide_eq_false h]; simp
theorem right_of {n size : Int} (hs : szB size = true) (h : -(powI size / 2) ≤ n) : rightB n size = decide (n < powI size) := by
  unfold rightB; rw [decide_eq_true h, hs]; simp

theorem right_any (n size : Int) (w : World) :
    Calls Tryz.prog 163 #[.int .i64 n, .int .i64 size] w fun e w' => e = .returned (.bool (rightB n size)) ∧ w = w' := by
  cases h : szB size with
  | false =>
    have hf : rightB n size = false := by simp [rightB, h]
    rw [hf]; clear hf
    have H := Lib.hid h; clear h
    go_enter Tryz.func163, Tryz.ntmps163
    go_wp2_with (go_at_call 105; refine (isSize_any _ _).mono ?_; rintro e w' ⟨rfl, rfl⟩; rw [H.out])
    go_ret
    exact ⟨rfl, rfl⟩
  | true =>
    have hs := szB_cases h
    rcases hs with rfl | rfl | rfl
    · by_cases hl : (-128 : Int) ≤ n
      · rw [right_of (by rfl) hl]
        clear h
        go_enter Tryz.func163, Tryz.ntmps163
        go_wp2
        go_ret
        exact ⟨rfl, rfl⟩
      · rw [right_lo hl]
        clear h
        go_enter Tryz.func163, Tryz.ntmps163
        go_wp2
        go_ret
        exact ⟨rfl, rfl⟩
    · by_cases hl : (-32768 : Int) ≤ n
      · rw [right_of (by rfl) hl]
        clear h
        go_enter Tryz.func163, Tryz.ntmps163
        go_wp2
        go_ret
        exact ⟨rfl, rfl⟩
      · rw [right_lo hl]
        clear h
        go_enter Tryz.func163, Tryz.ntmps163
        go_wp2
        go_ret
        exact ⟨rfl, rfl⟩
    · by_cases hl : (-2147483648 : Int) ≤ n
      · rw [right_of (by rfl) hl]
        clear h
        go_enter Tryz.func163, Tryz.ntmps163
        go_wp2
        go_ret
        exact ⟨rfl, rfl⟩
      · rw [right_lo hl]
        clear h
        go_enter Tryz.func163, Tryz.ntmps163
        go_wp2
        go_ret
        exact ⟨rfl, rfl⟩

theorem pow_sz (size : Int) (w : World) (h : szB size = true) :
    Calls Tryz.prog 56 #[.int .i64 size] w fun e w' => e = .returned (.int .i64 (powI size)) ∧ w = w' := by
  rcases szB_cases h with rfl | rfl | rfl
  · exact pow_any 1 w (by omega)
  · exact pow_any 2 w (by omega)
  · exact pow_any 4 w (by omega)

theorem pow_1 (w : World) : Calls Tryz.prog 56 #[.int .i64 1] w fun e w' => e = .returned (.int .i64 256) ∧ w = w' := pow_sz 1 w rfl
theorem sized_1 (w : World) : Calls Tryz.prog 81 #[.int .i64 1] w fun e w' => e = .returned (.bool true) ∧ w = w' := sized_any 1 w
theorem isSize_1 (w : World) : Calls Tryz.prog 105 #[.int .i64 1] w fun e w' => e = .returned (.bool true) ∧ w = w' := isSize_any 1 w
theorem span_1 (w : World) : Calls Tryz.prog 126 #[.int .i64 1] w fun e w' => e = .returned (.int .i64 256) ∧ w = w' := span_any 1 w rfl
theorem pow_2 (w : World) : Calls Tryz.prog 56 #[.int .i64 2] w fun e w' => e = .returned (.int .i64 65536) ∧ w = w' := pow_sz 2 w rfl
theorem sized_2 (w : World) : Calls Tryz.prog 81 #[.int .i64 2] w fun e w' => e = .returned (.bool true) ∧ w = w' := sized_any 2 w
theorem isSize_2 (w : World) : Calls Tryz.prog 105 #[.int .i64 2] w fun e w' => e = .returned (.bool true) ∧ w = w' := isSize_any 2 w
theorem span_2 (w : World) : Calls Tryz.prog 126 #[.int .i64 2] w fun e w' => e = .returned (.int .i64 65536) ∧ w = w' := span_any 2 w rfl
theorem pow_4 (w : World) : Calls Tryz.prog 56 #[.int .i64 4] w fun e w' => e = .returned (.int .i64 4294967296) ∧ w = w' := pow_sz 4 w rfl
theorem sized_4 (w : World) : Calls Tryz.prog 81 #[.int .i64 4] w fun e w' => e = .returned (.bool true) ∧ w = w' := sized_any 4 w
theorem isSize_4 (w : World) : Calls Tryz.prog 105 #[.int .i64 4] w fun e w' => e = .returned (.bool true) ∧ w = w' := isSize_any 4 w
theorem span_4 (w : World) : Calls Tryz.prog 126 #[.int .i64 4] w fun e w' => e = .returned (.int .i64 4294967296) ∧ w = w' := span_any 4 w rfl

theorem rright_any (n size : Int) (w : World) :
    Calls Tryz.prog 55 #[.int .i64 n, .int .i64 size] w fun e w' => e = .returned (.bool (rightB n size)) ∧ w = w' := by
  cases h : szB size with
  | false =>
    have hf : rightB n size = false := by simp [rightB, h]
    rw [hf]; clear hf
    have H := Lib.hid h; clear h
    go_enter Tryz.func55, Tryz.ntmps55
    go_wp2_with (go_at_call 81; refine (sized_any _ _).mono ?_; rintro e w' ⟨rfl, rfl⟩; rw [H.out])
    go_ret
    exact ⟨rfl, rfl⟩
  | true =>
    have hs := szB_cases h
    rcases hs with rfl | rfl | rfl
    · by_cases hl : (-128 : Int) ≤ n
      · rw [right_of (by rfl) hl]
        clear h
        go_enter Tryz.func55, Tryz.ntmps55
        go_wp2_with (first | (go_at_call 56; refine (pow_1 _).mono ?_; rintro e w' ⟨rfl, rfl⟩) | (go_at_call 81; refine (sized_1 _).mono ?_; rintro e w' ⟨rfl, rfl⟩))
        go_ret
        exact ⟨rfl, rfl⟩
      · rw [right_lo hl]
        clear h
        go_enter Tryz.func55, Tryz.ntmps55
        go_wp2_with (first | (go_at_call 56; refine (pow_1 _).mono ?_; rintro e w' ⟨rfl, rfl⟩) | (go_at_call 81; refine (sized_1 _).mono ?_; rintro e w' ⟨rfl, rfl⟩))
        go_ret
        exact ⟨rfl, rfl⟩
    · by_cases hl : (-32768 : Int) ≤ n
      · rw [right_of (by rfl) hl]
        clear h
        go_enter Tryz.func55, Tryz.ntmps55
        go_wp2_with (first | (go_at_call 56; refine (pow_2 _).mono ?_; rintro e w' ⟨rfl, rfl⟩) | (go_at_call 81; refine (sized_2 _).mono ?_; rintro e w' ⟨rfl, rfl⟩))
        go_ret
        exact ⟨rfl, rfl⟩
      · rw [right_lo hl]
        clear h
        go_enter Tryz.func55, Tryz.ntmps55
        go_wp2_with (first | (go_at_call 56; refine (pow_2 _).mono ?_; rintro e w' ⟨rfl, rfl⟩) | (go_at_call 81; refine (sized_2 _).mono ?_; rintro e w' ⟨rfl, rfl⟩))
        go_ret
        exact ⟨rfl, rfl⟩
    · by_cases hl : (-2147483648 : Int) ≤ n
      · rw [right_of (by rfl) hl]
        clear h
        go_enter Tryz.func55, Tryz.ntmps55
        go_wp2_with (first | (go_at_call 56; refine (pow_4 _).mono ?_; rintro e w' ⟨rfl, rfl⟩) | (go_at_call 81; refine (sized_4 _).mono ?_; rintro e w' ⟨rfl, rfl⟩))
        go_ret
        exact ⟨rfl, rfl⟩
      · rw [right_lo hl]
        clear h
        go_enter Tryz.func55, Tryz.ntmps55
        go_wp2_with (first | (go_at_call 56; refine (pow_4 _).mono ?_; rintro e w' ⟨rfl, rfl⟩) | (go_at_call 81; refine (sized_4 _).mono ?_; rintro e w' ⟨rfl, rfl⟩))
        go_ret
        exact ⟨rfl, rfl⟩

theorem signed_yes {n size : Int} (hs : szB size = true) (h1 : powI size / 2 ≤ n) (h2 : n < powI size) : signedI n size = n - powI size := by
  unfold signedI; rw [if_pos ⟨hs, h1, h2⟩]
theorem signed_lo {n size : Int} (h1 : ¬ powI size / 2 ≤ n) : signedI n size = n := by
  unfold signedI; rw [if_neg (fun h => h1 h.2.1)]
theorem signed_hi {n size : Int} (h1 : ¬ n < powI size) : signedI n size = n := by
  unfold signedI; rw [if_neg (fun h => h1 h.2.2)]
theorem signed_not {n size : Int} (h1 : szB size = false) : signedI n size = n := by
  unfold signedI; rw [if_neg (fun h => by rw [h1] at h; cases h.1)]

theorem signed_any (n size : Int) (w : World) :
    Calls Tryz.prog 91 #[.int .i64 n, .int .i64 size] w fun e w' => e = .returned (.int .i64 (signedI n size)) ∧ w = w' := by
  cases h : szB size with
  | false =>
    rw [signed_not h]
    have H := Lib.hid h; clear h
    go_enter Tryz.func91, Tryz.ntmps91
    go_wp2_with (go_at_call 105; refine (isSize_any _ _).mono ?_; rintro e w' ⟨rfl, rfl⟩; rw [H.out])
    go_ret
    exact ⟨rfl, rfl⟩
  | true =>
    have hs := szB_cases h
    rcases hs with rfl | rfl | rfl
    · by_cases hl : (128 : Int) ≤ n
      · by_cases hr : n < (256 : Int)
        · rw [signed_yes (by rfl) hl hr]
          clear h
          go_enter Tryz.func91, Tryz.ntmps91
          go_wp2_with (first | (go_at_call 126; refine (span_1 _).mono ?_; rintro e w' ⟨rfl, rfl⟩) | (go_at_call 105; refine (isSize_1 _).mono ?_; rintro e w' ⟨rfl, rfl⟩))
          go_ret
          exact ⟨rfl, rfl⟩
        · rw [signed_hi hr]
          clear h
          go_enter Tryz.func91, Tryz.ntmps91
          go_wp2_with (first | (go_at_call 126; refine (span_1 _).mono ?_; rintro e w' ⟨rfl, rfl⟩) | (go_at_call 105; refine (isSize_1 _).mono ?_; rintro e w' ⟨rfl, rfl⟩))
          go_ret
          exact ⟨rfl, rfl⟩
      · rw [signed_lo hl]
        clear h
        go_enter Tryz.func91, Tryz.ntmps91
        go_wp2_with (first | (go_at_call 126; refine (span_1 _).mono ?_; rintro e w' ⟨rfl, rfl⟩) | (go_at_call 105; refine (isSize_1 _).mono ?_; rintro e w' ⟨rfl, rfl⟩))
        go_ret
        exact ⟨rfl, rfl⟩
    · by_cases hl : (32768 : Int) ≤ n
      · by_cases hr : n < (65536 : Int)
        · rw [signed_yes (by rfl) hl hr]
          clear h
          go_enter Tryz.func91, Tryz.ntmps91
          go_wp2_with (first | (go_at_call 126; refine (span_2 _).mono ?_; rintro e w' ⟨rfl, rfl⟩) | (go_at_call 105; refine (isSize_2 _).mono ?_; rintro e w' ⟨rfl, rfl⟩))
          go_ret
          exact ⟨rfl, rfl⟩
        · rw [signed_hi hr]
          clear h
          go_enter Tryz.func91, Tryz.ntmps91
          go_wp2_with (first | (go_at_call 126; refine (span_2 _).mono ?_; rintro e w' ⟨rfl, rfl⟩) | (go_at_call 105; refine (isSize_2 _).mono ?_; rintro e w' ⟨rfl, rfl⟩))
          go_ret
          exact ⟨rfl, rfl⟩
      · rw [signed_lo hl]
        clear h
        go_enter Tryz.func91, Tryz.ntmps91
        go_wp2_with (first | (go_at_call 126; refine (span_2 _).mono ?_; rintro e w' ⟨rfl, rfl⟩) | (go_at_call 105; refine (isSize_2 _).mono ?_; rintro e w' ⟨rfl, rfl⟩))
        go_ret
        exact ⟨rfl, rfl⟩
    · by_cases hl : (2147483648 : Int) ≤ n
      · by_cases hr : n < (4294967296 : Int)
        · rw [signed_yes (by rfl) hl hr]
          clear h
          go_enter Tryz.func91, Tryz.ntmps91
          go_wp2_with (first | (go_at_call 126; refine (span_4 _).mono ?_; rintro e w' ⟨rfl, rfl⟩) | (go_at_call 105; refine (isSize_4 _).mono ?_; rintro e w' ⟨rfl, rfl⟩))
          go_ret
          exact ⟨rfl, rfl⟩
        · rw [signed_hi hr]
          clear h
          go_enter Tryz.func91, Tryz.ntmps91
          go_wp2_with (first | (go_at_call 126; refine (span_4 _).mono ?_; rintro e w' ⟨rfl, rfl⟩) | (go_at_call 105; refine (isSize_4 _).mono ?_; rintro e w' ⟨rfl, rfl⟩))
          go_ret
          exact ⟨rfl, rfl⟩
      · rw [signed_lo hl]
        clear h
        go_enter Tryz.func91, Tryz.ntmps91
        go_wp2_with (first | (go_at_call 126; refine (span_4 _).mono ?_; rintro e w' ⟨rfl, rfl⟩) | (go_at_call 105; refine (isSize_4 _).mono ?_; rintro e w' ⟨rfl, rfl⟩))
        go_ret
        exact ⟨rfl, rfl⟩

end Go.Proofs.YtlbgjlmokpkkeaaGreatDoor.Nm
namespace Go.Proofs.YtlbgjlmokpkkeaaGreatDoor.Nm
set_option maxRecDepth 100000
open Go.RowKit Go By

/-- The error of a read: 1 (no size, or a place below 0), 3 (the bytes end too early), 0. -/
def getErr (len : Nat) (i size : Int) : Int := if szB size = false ∨ i < 0 then 1 else if i > len - size then 3 else 0
def getVal (xs : List UInt8) (i size : Int) : Int := if getErr xs.length i size = 0 then getI xs i.toNat size.toNat else 0
theorem getErr_arg {len : Nat} {i size : Int} (h : szB size = false ∨ i < 0) : getErr len i size = 1 := by
  unfold getErr; rw [if_pos h]
theorem getErr_short {len : Nat} {i size : Int} (hs : szB size = true) (h0 : 0 ≤ i) (h : (len : Int) - size < i) : getErr len i size = 3 := by
  have h1 : ¬ (szB size = false ∨ i < 0) := by simp [hs]; omega
  unfold getErr; rw [if_neg h1, if_pos h]
theorem getErr_ok {len i : Nat} {size : Nat} (hs : szB (size : Int) = true) (h : i + size ≤ len) : getErr len i size = 0 := by
  have h1 : ¬ (szB (size : Int) = false ∨ (i : Int) < 0) := by simp [hs]
  unfold getErr; rw [if_neg h1, if_neg (by omega)]
def gotten (xs : List UInt8) (i size : Int) : Value := .tuple #[.int .i64 (getVal xs i size), .int .i64 (getErr xs.length i size)]
theorem gotten_arg {xs : List UInt8} {i size : Int} (h : szB size = false ∨ i < 0) : gotten xs i size = .tuple #[.int .i64 0, .int .i64 1] := by
  unfold gotten getVal; rw [getErr_arg h]; rfl
theorem gotten_short {xs : List UInt8} {i size : Int} (hs : szB size = true) (h0 : 0 ≤ i) (h : (xs.length : Int) - size < i) : gotten xs i size = .tuple #[.int .i64 0, .int .i64 3] := by
  unfold gotten getVal; rw [getErr_short hs h0 h]; rfl
theorem gotten_ok {xs : List UInt8} {i size : Nat} (hs : szB (size : Int) = true) (h : i + size ≤ xs.length) : gotten xs i size = .tuple #[.int .i64 (getI xs i size), .int .i64 0] := by
  unfold gotten getVal; rw [getErr_ok hs h]; rfl
theorem szB_four {n : Int} (h : szB n = true) : 1 ≤ n ∧ n ≤ 4 := by have := szB_cases h; omega

set_option maxHeartbeats 400000 in
theorem get_ok (b off cap : Nat) (xs : List UInt8) (i size : Nat) (w : World) (hm : xs.length ≤ 9223372036854775807)
    (hc : ∀ j, j < xs.length → w.cell? ⟨b, off + j, none⟩ = some (.int .u8 (byteAt xs j))) (hs : szB (size : Int) = true) (h : i + size ≤ xs.length) :
    Calls Tryz.prog 84 #[.slice (some ⟨b, off, none⟩) xs.length cap, .int .i64 i, .int .i64 size] w fun e w' => e = .returned (.tuple #[.int .i64 (getI xs i size), .int .i64 0]) ∧ w = w' := by
  have h4 := szB_four hs
  obtain ⟨len, HL⟩ : ∃ len, Hid (xs.length = len) := ⟨_, rfl⟩
  rw [HL.out] at h hm ⊢
  have HS := Lib.hid hs; have HC := Lib.hid hc
  clear hs hc
  go_enter Tryz.func84, Tryz.ntmps84
  go_wp2_with (go_at_call 105; refine (isSize_any _ _).mono ?_; rintro e w' ⟨rfl, rfl⟩; rw [HS.out])
  go_loop [8, 24] (fun n k => ∃ j : Nat, j ≤ size ∧ k = .int .i64 j ∧ n = .int .i64 (getI xs i j)) (fun _ k => size - (intOf k).toNat)
  case atStart => exact ⟨0, Nat.zero_le _, rfl, rfl⟩
  case round =>
    obtain ⟨j, hj, rfl, rfl⟩ := hrel
    by_cases hlt : j < size
    · have hcell := HC.out (i + j) (by have := HL.out; omega)
      have hr := getI_lt3 xs i j (by omega)
      have hb := byteAt_range xs (i + j)
      have hor := or_byte (getI xs i j) (byteAt xs (i + j)) hr.1 hr.2 hb.1 hb.2
      have HO : Hid (getI xs i (j + 1) = getI xs i j * 256 + byteAt xs (i + j)) := rfl
      go_wp2
      go_round
      case rel => exact ⟨j + 1, by omega, by go_num, by rw [HO.out]⟩
      case measure => simp [intOf]; omega
    · obtain rfl : j = size := by omega
      go_wp2
      go_ret2
      exact ⟨rfl, rfl⟩

theorem get_arg (a : Option Addr) (len cap : Nat) (i size : Int) (w : World) (h : szB size = false ∨ i < 0) :
    Calls Tryz.prog 84 #[.slice a len cap, .int .i64 i, .int .i64 size] w fun e w' => e = .returned (.tuple #[.int .i64 0, .int .i64 1]) ∧ w = w' := by
  cases hs : szB size with
  | false =>
    have HS := Lib.hid hs
    clear hs h
    go_enter Tryz.func84, Tryz.ntmps84
    go_wp2_with (go_at_call 105; refine (isSize_any _ _).mono ?_; rintro e w' ⟨rfl, rfl⟩; rw [HS.out])
    go_ret2
    exact ⟨rfl, rfl⟩
  | true =>
    have hi : i < 0 := by simpa [hs] using h
    have HS := Lib.hid hs
    clear hs h
    go_enter Tryz.func84, Tryz.ntmps84
    go_wp2_with (go_at_call 105; refine (isSize_any _ _).mono ?_; rintro e w' ⟨rfl, rfl⟩; rw [HS.out])
    go_ret2
    exact ⟨rfl, rfl⟩

theorem get_short (a : Option Addr) (len cap : Nat) (i size : Int) (w : World) (hm : len ≤ 9223372036854775807) (hs : szB size = true) (h0 : 0 ≤ i) (h : (len : Int) - size < i) :
    Calls Tryz.prog 84 #[.slice a len cap, .int .i64 i, .int .i64 size] w fun e w' => e = .returned (.tuple #[.int .i64 0, .int .i64 3]) ∧ w = w' := by
  have h4 := szB_four hs
  have HS := Lib.hid hs
  clear hs
  go_enter Tryz.func84, Tryz.ntmps84
  go_wp2_with (go_at_call 105; refine (isSize_any _ _).mono ?_; rintro e w' ⟨rfl, rfl⟩; rw [HS.out])
  go_ret2
  exact ⟨rfl, rfl⟩

theorem get_any (B : Nat) (a : Option Addr) (cap : Nat) (xs : List UInt8) (i size : Int) (w : World) (hm : xs.length ≤ 9223372036854775807) (hb : BytesAt w B a xs) :
    Calls Tryz.prog 84 #[.slice a xs.length cap, .int .i64 i, .int .i64 size] w fun e w' => e = .returned (gotten xs i size) ∧ w = w' := by
  by_cases h1 : szB size = false ∨ i < 0
  · rw [gotten_arg h1]; exact get_arg a _ cap i size w h1
  · have hs : szB size = true := by cases h : szB size <;> simp_all
    have h0 : 0 ≤ i := by omega
    have h4 := szB_four hs
    by_cases h2 : (xs.length : Int) - size < i
    · rw [gotten_short hs h0 h2]; exact get_short a _ cap i size w hm hs h0 h2
    · obtain ⟨k, rfl⟩ := Int.eq_ofNat_of_zero_le h0
      obtain ⟨m, rfl⟩ := Int.eq_ofNat_of_zero_le (by omega : 0 ≤ size)
      obtain ⟨b, off, rfl, _, hc⟩ := hb (by omega)
      rw [gotten_ok hs (by omega)]
      exact get_ok b off cap xs k m w hm hc hs (by omega)

end Go.Proofs.YtlbgjlmokpkkeaaGreatDoor.Nm
