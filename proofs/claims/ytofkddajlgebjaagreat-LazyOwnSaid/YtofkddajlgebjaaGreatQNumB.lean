/- The contracts of the two functions that read a number from bytes (num.Get and the document's answer): at any bytes, any place, any size they give the same number and the same error. -/
import Derived.Test.YtofkddajlgebjaaGreatRows
import Derived.WalkKit
import Derived.WalkSpells
import Derived.WalkLawsBesides
import Derived.Lib.Hide
import Derived.Test.YtofkddajlgebjaaGreatQElems
/- The contracts of the functions that only compute: sizes, powers, which numbers are right, signs (package num and the document's answers). Conditions: none beyond each contract's own premises. -/
namespace Go.Proofs.YtofkddajlgebjaaGreat.Nm
set_option maxRecDepth 100000
open Go.RowKit Go

/-- Is it a size? -/
def szB (n : Int) : Bool := n == 1 || n == 2 || n == 4
/-- 256 to the power of a size. -/
def powI (n : Int) : Int := if n = 1 then 256 else if n = 2 then 65536 else 4294967296
def rightB (n size : Int) : Bool := szB size && (decide (-(powI size / 2) ≤ n) && decide (n < powI size))
def signedI (n size : Int) : Int := if szB size = true ∧ powI size / 2 ≤ n ∧ n < powI size then n - powI size else n

theorem szB_cases {n : Int} (h : szB n = true) : n = 1 ∨ n = 2 ∨ n = 4 := by
  simp [szB] at h; omega
theorem isSize_any (n : Int) (w : World) :
    Calls Tryz.prog 79 #[.int .i64 n] w fun e w' => e = .returned (.bool (szB n)) ∧ w = w' := by
  by_cases h1 : n = 1
  · subst h1
    go_enter Tryz.func79, Tryz.ntmps79
    go_wp2
    go_ret
    exact ⟨rfl, rfl⟩
  · have h1' : (n == 1) = false := by simpa using h1
    by_cases h2 : n = 2
    · subst h2
      go_enter Tryz.func79, Tryz.ntmps79
      go_wp2
      go_ret
      exact ⟨rfl, rfl⟩
    · have h2' : (n == 2) = false := by simpa using h2
      have hs : szB n = (n == 4) := by simp [szB, h1', h2']
      rw [hs]; clear hs
      go_enter Tryz.func79, Tryz.ntmps79
      go_wp2
      go_ret
      exact ⟨rfl, rfl⟩

theorem sized_any (n : Int) (w : World) :
    Calls Tryz.prog 91 #[.int .i64 n] w fun e w' => e = .returned (.bool (szB n)) ∧ w = w' := by
  by_cases h1 : n = 1
  · subst h1
    go_enter Tryz.func91, Tryz.ntmps91
    go_wp2
    go_ret
    exact ⟨rfl, rfl⟩
  · have h1' : (n == 1) = false := by simpa using h1
    by_cases h2 : n = 2
    · subst h2
      go_enter Tryz.func91, Tryz.ntmps91
      go_wp2
      go_ret
      exact ⟨rfl, rfl⟩
    · have h2' : (n == 2) = false := by simpa using h2
      have hs : szB n = (n == 4) := by simp [szB, h1', h2']
      rw [hs]; clear hs
      go_enter Tryz.func91, Tryz.ntmps91
      go_wp2
      go_ret
      exact ⟨rfl, rfl⟩

theorem span_any (n : Int) (w : World) (h : szB n = true) :
    Calls Tryz.prog 80 #[.int .i64 n] w fun e w' => e = .returned (.int .i64 (powI n)) ∧ w = w' := by
  rcases szB_cases h with h | h | h
  all_goals
    subst h
    go_enter Tryz.func80, Tryz.ntmps80
    go_wp2
    go_ret
    exact ⟨rfl, rfl⟩

/-- 256 to the power of k, by rounds. -/
def p256 : Nat → Int
  | 0 => 1
  | k + 1 => p256 k * 256
theorem p256_le : ∀ k, k ≤ 4 → 1 ≤ p256 k ∧ p256 k ≤ 4294967296
  | 0, _ => by decide
  | 1, _ => by decide
  | 2, _ => by decide
  | 3, _ => by decide
  | 4, _ => by decide
  | k + 5, h => by omega

set_option maxHeartbeats 400000 in
theorem pow_any (k : Nat) (w : World) (hk : k ≤ 4) :
    Calls Tryz.prog 64 #[.int .i64 k] w fun e w' => e = .returned (.int .i64 (p256 k)) ∧ w = w' := by
  go_enter Tryz.func64, Tryz.ntmps64
  go_wp2
  go_loop [3, 4] (fun n i => ∃ j : Nat, j ≤ k ∧ i = .int .i64 j ∧ n = .int .i64 (p256 j)) (fun _ i => k - (intOf i).toNat)
  case atStart => exact ⟨0, Nat.zero_le _, rfl, rfl⟩
  case round =>
    obtain ⟨j, hj, rfl, rfl⟩ := hrel
    have hb := p256_le j (by omega)
    by_cases hlt : j < k
    · have hb1 := (p256_le (j + 1) (by omega)).2
      have hx : p256 (j + 1) = p256 j * 256 := rfl
      rw [hx] at hb1
      clear hx
      go_wp2
      go_round
      case rel => exact ⟨j + 1, by omega, by go_num, rfl⟩
      case measure => simp [intOf]; omega
    · obtain rfl : j = k := by omega
      go_wp2
      go_ret
      exact ⟨rfl, rfl⟩

theorem right_lo {n size : Int} (h : ¬ -(powI size / 2) ≤ n) : rightB n size = false := by
  unfold rightB; rw [decide_eq_false h]; simp
theorem right_of {n size : Int} (hs : szB size = true) (h : -(powI size / 2) ≤ n) : rightB n size = decide (n < powI size) := by
  unfold rightB; rw [decide_eq_true h, hs]; simp

theorem right_any (n size : Int) (w : World) :
    Calls Tryz.prog 49 #[.int .i64 n, .int .i64 size] w fun e w' => e = .returned (.bool (rightB n size)) ∧ w = w' := by
  cases h : szB size with
  | false =>
    have hf : rightB n size = false := by simp [rightB, h]
    rw [hf]; clear hf
    have H := Lib.hid h; clear h
    go_enter Tryz.func49, Tryz.ntmps49
    go_wp2_with (go_at_call 79; refine (isSize_any _ _).mono ?_; rintro e w' ⟨rfl, rfl⟩; rw [H.out])
    go_ret
    exact ⟨rfl, rfl⟩
  | true =>
    have hs := szB_cases h
    rcases hs with rfl | rfl | rfl
    · by_cases hl : (-128 : Int) ≤ n
      · rw [right_of (by rfl) hl]
        clear h
        go_enter Tryz.func49, Tryz.ntmps49
        go_wp2
        go_ret
        exact ⟨rfl, rfl⟩
      · rw [right_lo hl]
        clear h
        go_enter Tryz.func49, Tryz.ntmps49
        go_wp2
        go_ret
        exact ⟨rfl, rfl⟩
    · by_cases hl : (-32768 : Int) ≤ n
      · rw [right_of (by rfl) hl]
        clear h
        go_enter Tryz.func49, Tryz.ntmps49
        go_wp2
        go_ret
        exact ⟨rfl, rfl⟩
      · rw [right_lo hl]
        clear h
        go_enter Tryz.func49, Tryz.ntmps49
        go_wp2
        go_ret
        exact ⟨rfl, rfl⟩
    · by_cases hl : (-2147483648 : Int) ≤ n
      · rw [right_of (by rfl) hl]
        clear h
        go_enter Tryz.func49, Tryz.ntmps49
        go_wp2
        go_ret
        exact ⟨rfl, rfl⟩
      · rw [right_lo hl]
        clear h
        go_enter Tryz.func49, Tryz.ntmps49
        go_wp2
        go_ret
        exact ⟨rfl, rfl⟩

theorem pow_sz (size : Int) (w : World) (h : szB size = true) :
    Calls Tryz.prog 64 #[.int .i64 size] w fun e w' => e = .returned (.int .i64 (powI size)) ∧ w = w' := by
  rcases szB_cases h with rfl | rfl | rfl
  · exact pow_any 1 w (by omega)
  · exact pow_any 2 w (by omega)
  · exact pow_any 4 w (by omega)

theorem pow_1 (w : World) : Calls Tryz.prog 64 #[.int .i64 1] w fun e w' => e = .returned (.int .i64 256) ∧ w = w' := pow_sz 1 w rfl
theorem sized_1 (w : World) : Calls Tryz.prog 91 #[.int .i64 1] w fun e w' => e = .returned (.bool true) ∧ w = w' := sized_any 1 w
theorem isSize_1 (w : World) : Calls Tryz.prog 79 #[.int .i64 1] w fun e w' => e = .returned (.bool true) ∧ w = w' := isSize_any 1 w
theorem span_1 (w : World) : Calls Tryz.prog 80 #[.int .i64 1] w fun e w' => e = .returned (.int .i64 256) ∧ w = w' := span_any 1 w rfl
theorem pow_2 (w : World) : Calls Tryz.prog 64 #[.int .i64 2] w fun e w' => e = .returned (.int .i64 65536) ∧ w = w' := pow_sz 2 w rfl
theorem sized_2 (w : World) : Calls Tryz.prog 91 #[.int .i64 2] w fun e w' => e = .returned (.bool true) ∧ w = w' := sized_any 2 w
theorem isSize_2 (w : World) : Calls Tryz.prog 79 #[.int .i64 2] w fun e w' => e = .returned (.bool true) ∧ w = w' := isSize_any 2 w
theorem span_2 (w : World) : Calls Tryz.prog 80 #[.int .i64 2] w fun e w' => e = .returned (.int .i64 65536) ∧ w = w' := span_any 2 w rfl
theorem pow_4 (w : World) : Calls Tryz.prog 64 #[.int .i64 4] w fun e w' => e = .returned (.int .i64 4294967296) ∧ w = w' := pow_sz 4 w rfl
theorem sized_4 (w : World) : Calls Tryz.prog 91 #[.int .i64 4] w fun e w' => e = .returned (.bool true) ∧ w = w' := sized_any 4 w
theorem isSize_4 (w : World) : Calls Tryz.prog 79 #[.int .i64 4] w fun e w' => e = .returned (.bool true) ∧ w = w' := isSize_any 4 w
theorem span_4 (w : World) : Calls Tryz.prog 80 #[.int .i64 4] w fun e w' => e = .returned (.int .i64 4294967296) ∧ w = w' := span_any 4 w rfl

theorem rright_any (n size : Int) (w : World) :
    Calls Tryz.prog 63 #[.int .i64 n, .int .i64 size] w fun e w' => e = .returned (.bool (rightB n size)) ∧ w = w' := by
  cases h : szB size with
  | false =>
    have hf : rightB n size = false := by simp [rightB, h]
    rw [hf]; clear hf
    have H := Lib.hid h; clear h
    go_enter Tryz.func63, Tryz.ntmps63
    go_wp2_with (go_at_call 91; refine (sized_any _ _).mono ?_; rintro e w' ⟨rfl, rfl⟩; rw [H.out])
    go_ret
    exact ⟨rfl, rfl⟩
  | true =>
    have hs := szB_cases h
    rcases hs with rfl | rfl | rfl
    · by_cases hl : (-128 : Int) ≤ n
      · rw [right_of (by rfl) hl]
        clear h
        go_enter Tryz.func63, Tryz.ntmps63
        go_wp2_with (first | (go_at_call 64; refine (pow_1 _).mono ?_; rintro e w' ⟨rfl, rfl⟩) | (go_at_call 91; refine (sized_1 _).mono ?_; rintro e w' ⟨rfl, rfl⟩))
        go_ret
        exact ⟨rfl, rfl⟩
      · rw [right_lo hl]
        clear h
        go_enter Tryz.func63, Tryz.ntmps63
        go_wp2_with (first | (go_at_call 64; refine (pow_1 _).mono ?_; rintro e w' ⟨rfl, rfl⟩) | (go_at_call 91; refine (sized_1 _).mono ?_; rintro e w' ⟨rfl, rfl⟩))
        go_ret
        exact ⟨rfl, rfl⟩
    · by_cases hl : (-32768 : Int) ≤ n
      · rw [right_of (by rfl) hl]
        clear h
        go_enter Tryz.func63, Tryz.ntmps63
        go_wp2_with (first | (go_at_call 64; refine (pow_2 _).mono ?_; rintro e w' ⟨rfl, rfl⟩) | (go_at_call 91; refine (sized_2 _).mono ?_; rintro e w' ⟨rfl, rfl⟩))
        go_ret
        exact ⟨rfl, rfl⟩
      · rw [right_lo hl]
        clear h
        go_enter Tryz.func63, Tryz.ntmps63
        go_wp2_with (first | (go_at_call 64; refine (pow_2 _).mono ?_; rintro e w' ⟨rfl, rfl⟩) | (go_at_call 91; refine (sized_2 _).mono ?_; rintro e w' ⟨rfl, rfl⟩))
        go_ret
        exact ⟨rfl, rfl⟩
    · by_cases hl : (-2147483648 : Int) ≤ n
      · rw [right_of (by rfl) hl]
        clear h
        go_enter Tryz.func63, Tryz.ntmps63
        go_wp2_with (first | (go_at_call 64; refine (pow_4 _).mono ?_; rintro e w' ⟨rfl, rfl⟩) | (go_at_call 91; refine (sized_4 _).mono ?_; rintro e w' ⟨rfl, rfl⟩))
        go_ret
        exact ⟨rfl, rfl⟩
      · rw [right_lo hl]
        clear h
        go_enter Tryz.func63, Tryz.ntmps63
        go_wp2_with (first | (go_at_call 64; refine (pow_4 _).mono ?_; rintro e w' ⟨rfl, rfl⟩) | (go_at_call 91; refine (sized_4 _).mono ?_; rintro e w' ⟨rfl, rfl⟩))
        go_ret
        exact ⟨rfl, rfl⟩

theorem signed_yes {n size : Int} (hs : szB size = true) (h1 : powI size / 2 ≤ n) (h2 : n < powI size) : signedI n size = n - powI size := by
  unfold signedI; rw [if_pos ⟨hs, h1, h2⟩]
theorem signed_lo {n size : Int} (h1 : ¬ powI size / 2 ≤ n) : signedI n size = n := by
  unfold signedI; rw [if_neg (fun h => h1 h.2.1)]
theorem signed_hi {n size : Int} (h1 : ¬ n < powI size) : signedI n size = n := by
  unfold signedI; rw [if_neg (fun h => h1 h.2.2)]
theorem signed_not {n size : Int} (h1 : szB size = false) : signedI n size = n := by
  unfold signedI; rw [if_neg (fun h => by rw [h1] at h; cases h.1)]

theorem signed_any (n size : Int) (w : World) :
    Calls Tryz.prog 133 #[.int .i64 n, .int .i64 size] w fun e w' => e = .returned (.int .i64 (signedI n size)) ∧ w = w' := by
  cases h : szB size with
  | false =>
    rw [signed_not h]
    have H := Lib.hid h; clear h
    go_enter Tryz.func133, Tryz.ntmps133
    go_wp2_with (go_at_call 79; refine (isSize_any _ _).mono ?_; rintro e w' ⟨rfl, rfl⟩; rw [H.out])
    go_ret
    exact ⟨rfl, rfl⟩
  | true =>
    have hs := szB_cases h
    rcases hs with rfl | rfl | rfl
    · by_cases hl : (128 : Int) ≤ n
      · by_cases hr : n < (256 : Int)
        · rw [signed_yes (by rfl) hl hr]
          clear h
          go_enter Tryz.func133, Tryz.ntmps133
          go_wp2_with (first | (go_at_call 80; refine (span_1 _).mono ?_; rintro e w' ⟨rfl, rfl⟩) | (go_at_call 79; refine (isSize_1 _).mono ?_; rintro e w' ⟨rfl, rfl⟩))
          go_ret
          exact ⟨rfl, rfl⟩
        · rw [signed_hi hr]
          clear h
          go_enter Tryz.func133, Tryz.ntmps133
          go_wp2_with (first | (go_at_call 80; refine (span_1 _).mono ?_; rintro e w' ⟨rfl, rfl⟩) | (go_at_call 79; refine (isSize_1 _).mono ?_; rintro e w' ⟨rfl, rfl⟩))
          go_ret
          exact ⟨rfl, rfl⟩
      · rw [signed_lo hl]
        clear h
        go_enter Tryz.func133, Tryz.ntmps133
        go_wp2_with (first | (go_at_call 80; refine (span_1 _).mono ?_; rintro e w' ⟨rfl, rfl⟩) | (go_at_call 79; refine (isSize_1 _).mono ?_; rintro e w' ⟨rfl, rfl⟩))
        go_ret
        exact ⟨rfl, rfl⟩
    · by_cases hl : (32768 : Int) ≤ n
      · by_cases hr : n < (65536 : Int)
        · rw [signed_yes (by rfl) hl hr]
          clear h
          go_enter Tryz.func133, Tryz.ntmps133
          go_wp2_with (first | (go_at_call 80; refine (span_2 _).mono ?_; rintro e w' ⟨rfl, rfl⟩) | (go_at_call 79; refine (isSize_2 _).mono ?_; rintro e w' ⟨rfl, rfl⟩))
          go_ret
          exact ⟨rfl, rfl⟩
        · rw [signed_hi hr]
          clear h
          go_enter Tryz.func133, Tryz.ntmps133
          go_wp2_with (first | (go_at_call 80; refine (span_2 _).mono ?_; rintro e w' ⟨rfl, rfl⟩) | (go_at_call 79; refine (isSize_2 _).mono ?_; rintro e w' ⟨rfl, rfl⟩))
          go_ret
          exact ⟨rfl, rfl⟩
      · rw [signed_lo hl]
        clear h
        go_enter Tryz.func133, Tryz.ntmps133
        go_wp2_with (first | (go_at_call 80; refine (span_2 _).mono ?_; rintro e w' ⟨rfl, rfl⟩) | (go_at_call 79; refine (isSize_2 _).mono ?_; rintro e w' ⟨rfl, rfl⟩))
        go_ret
        exact ⟨rfl, rfl⟩
    · by_cases hl : (2147483648 : Int) ≤ n
      · by_cases hr : n < (4294967296 : Int)
        · rw [signed_yes (by rfl) hl hr]
          clear h
          go_enter Tryz.func133, Tryz.ntmps133
          go_wp2_with (first | (go_at_call 80; refine (span_4 _).mono ?_; rintro e w' ⟨rfl, rfl⟩) | (go_at_call 79; refine (isSize_4 _).mono ?_; rintro e w' ⟨rfl, rfl⟩))
          go_ret
          exact ⟨rfl, rfl⟩
        · rw [signed_hi hr]
          clear h
          go_enter Tryz.func133, Tryz.ntmps133
          go_wp2_with (first | (go_at_call 80; refine (span_4 _).mono ?_; rintro e w' ⟨rfl, rfl⟩) | (go_at_call 79; refine (isSize_4 _).mono ?_; rintro e w' ⟨rfl, rfl⟩))
          go_ret
          exact ⟨rfl, rfl⟩
      · rw [signed_lo hl]
        clear h
        go_enter Tryz.func133, Tryz.ntmps133
        go_wp2_with (first | (go_at_call 80; refine (span_4 _).mono ?_; rintro e w' ⟨rfl, rfl⟩) | (go_at_call 79; refine (isSize_4 _).mono ?_; rintro e w' ⟨rfl, rfl⟩))
        go_ret
        exact ⟨rfl, rfl⟩

end Go.Proofs.YtofkddajlgebjaaGreat.Nm
namespace Go.Proofs.YtofkddajlgebjaaGreat.Nm
open Go.RowKit Go By

/-- The error of a read: 1 (no size, or a place below 0), 3 (the bytes end too early), 0. -/
def getErr (len : Nat) (i size : Int) : Int := if szB size = false ∨ i < 0 then 1 else if i > len - size then 3 else 0
end Go.Proofs.YtofkddajlgebjaaGreat.Nm
