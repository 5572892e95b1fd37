import Derived.Test.YtknohkmpficjgaaGreatDoorRows
import Derived.Test.YtknohkmpficjgaaGreatDoorQElems
set_option linter.unusedSimpArgs false
set_option linter.unusedVariables false
namespace Go.Proofs.YtknohkmpficjgaaGreatDoor.Nm
set_option maxRecDepth 100000
open Go.RowKit Go
def pM (n : Int) : Bool := n == 1 || n == 2 || n == 4
def iv (n : Int) : Int := if n = 1 then 256 else if n = 2 then 65536 else 4294967296
def bp (n size : Int) : Bool := pM size && (decide (-(iv size / 2) <= n) && decide (n < iv size))
def dj (n size : Int) : Int := if pM size = true /\ iv size / 2 <= n /\ n < iv size then n - iv size else n
theorem eL {n : Int} (h : pM n = true) : n = 1 \/ n = 2 \/ n = 4 := by
 simp [pM] at h; omega
theorem eZ (n : Int) (w : World) :
  Calls Tryz.prog 116 #[.int .i64 n] w fun e w' => e = .returned (.bool (pM n)) /\ w = w' := by
 by_cases h1 : n = 1
 ·subst h1
  go_enter Tryz.func116, Tryz.ntmps116
  go_wp2
  go_ret
  exact ⟨rfl, rfl⟩
 ·have h1' : (n == 1) = false := by simpa using h1
  by_cases h2 : n = 2
  ·subst h2
   go_enter Tryz.func116, Tryz.ntmps116
   go_wp2
   go_ret
   exact ⟨rfl, rfl⟩
  ·have h2' : (n == 2) = false := by simpa using h2
   have hs : pM n = (n == 4) := by simp [pM, h1', h2']
   rw [hs]; clear hs
   go_enter Tryz.func116, Tryz.ntmps116
   go_wp2
   go_ret
   exact ⟨rfl, rfl⟩
theorem jk (n : Int) (w : World) :
  Calls Tryz.prog 206 #[.int .i64 n] w fun e w' => e = .returned (.bool (pM n)) /\ w = w' := by
 by_cases h1 : n = 1
 ·subst h1
  go_enter Tryz.func206, Tryz.ntmps206
  go_wp2
  go_ret
  exact ⟨rfl, rfl⟩
 ·have h1' : (n == 1) = false := by simpa using h1
  by_cases h2 : n = 2
  ·subst h2
   go_enter Tryz.func206, Tryz.ntmps206
   go_wp2
   go_ret
   exact ⟨rfl, rfl⟩
  ·have h2' : (n == 2) = false := by simpa using h2
   have hs : pM n = (n == 4) := by simp [pM, h1', h2']
   rw [hs]; clear hs
   go_enter Tryz.func206, Tryz.ntmps206
   go_wp2
   go_ret
   exact ⟨rfl, rfl⟩
theorem ph (n : Int) (w : World) (h : pM n = true) :
  Calls Tryz.prog 117 #[.int .i64 n] w fun e w' => e = .returned (.int .i64 (iv n)) /\ w = w' := by
 rcases eL h with h | h | h
 all_goals
  subst h
  go_enter Tryz.func117, Tryz.ntmps117
  go_wp2
  go_ret
  exact ⟨rfl, rfl⟩
def vV : Nat -> Int
 | 0 => 1
 | k + 1 => vV k * 256
theorem xx : ∀ k, k <= 4 -> 1 <= vV k /\ vV k <= 4294967296
 | 0, _ => by decide
 | 1, _ => by decide
 | 2, _ => by decide
 | 3, _ => by decide
 | 4, _ => by decide
 | k + 5, h => by omega
set_option maxHeartbeats 400000 in
theorem lh (k : Nat) (w : World) (hk : k <= 4) :
  Calls Tryz.prog 175 #[.int .i64 k] w fun e w' => e = .returned (.int .i64 (vV k)) /\ w = w' := by
 go_enter Tryz.func175, Tryz.ntmps175
 go_wp2
 go_loop [3, 4] (fun n i => ∃ j : Nat, j <= k /\ i = .int .i64 j /\ n = .int .i64 (vV j)) (fun _ i => k - (intOf i).toNat)
 case atStart => exact ⟨0, Nat.zero_le _, rfl, rfl⟩
 case round =>
  obtain ⟨j, hj, rfl, rfl⟩ := hrel
  have hb := xx j (by omega)
  by_cases hlt : j < k
  ·have hb1 := (xx (j + 1) (by omega)).2
   have hx : vV (j + 1) = vV j * 256 := rfl
   rw [hx] at hb1
   clear hx
   go_wp2
   go_round
   case rel => exact ⟨j + 1, by omega, by go_num, rfl⟩
   case measure => simp [intOf]; omega
  ·obtain rfl : j = k := by omega
   go_wp2
   go_ret
   exact ⟨rfl, rfl⟩
theorem gD {n size : Int} (h : ¬ -(iv size / 2) <= n) : bp n size = false := by
 unfold bp; rw [decide_eq_false h]; simp
theorem gE {n size : Int} (hs : pM size = true) (h : -(iv size / 2) <= n) : bp n size = decide (n < iv size) := by
 unfold bp; rw [decide_eq_true h, hs]; simp
theorem zp (n size : Int) (w : World) :
  Calls Tryz.prog 66 #[.int .i64 n, .int .i64 size] w fun e w' => e = .returned (.bool (bp n size)) /\ w = w' := by
 cases h : pM size with
 | false =>
  have hf : bp n size = false := by simp [bp, h]
  rw [hf]; clear hf
  have H := Lib.hid h; clear h
  go_enter Tryz.func66, Tryz.ntmps66
  go_wp2_with (go_at_call 116; refine (eZ _ _).mono ?_; rintro e w' ⟨rfl, rfl⟩; rw [H.out])
  go_ret
  exact ⟨rfl, rfl⟩
 | true =>
  have hs := eL h
  rcases hs with rfl | rfl | rfl
  ·by_cases hl : (-128 : Int) <= n
   ·rw [gE (by rfl) hl]
    clear h
    go_enter Tryz.func66, Tryz.ntmps66
    go_wp2
    go_ret
    exact ⟨rfl, rfl⟩
   ·rw [gD hl]
    clear h
    go_enter Tryz.func66, Tryz.ntmps66
    go_wp2
    go_ret
    exact ⟨rfl, rfl⟩
  ·by_cases hl : (-32768 : Int) <= n
   ·rw [gE (by rfl) hl]
    clear h
    go_enter Tryz.func66, Tryz.ntmps66
    go_wp2
    go_ret
    exact ⟨rfl, rfl⟩
   ·rw [gD hl]
    clear h
    go_enter Tryz.func66, Tryz.ntmps66
    go_wp2
    go_ret
    exact ⟨rfl, rfl⟩
  ·by_cases hl : (-2147483648 : Int) <= n
   ·rw [gE (by rfl) hl]
    clear h
    go_enter Tryz.func66, Tryz.ntmps66
    go_wp2
    go_ret
    exact ⟨rfl, rfl⟩
   ·rw [gD hl]
    clear h
    go_enter Tryz.func66, Tryz.ntmps66
    go_wp2
    go_ret
    exact ⟨rfl, rfl⟩
theorem wa (size : Int) (w : World) (h : pM size = true) :
  Calls Tryz.prog 175 #[.int .i64 size] w fun e w' => e = .returned (.int .i64 (iv size)) /\ w = w' := by
 rcases eL h with rfl | rfl | rfl
 ·exact lh 1 w (by omega)
 ·exact lh 2 w (by omega)
 ·exact lh 4 w (by omega)
theorem uc (w : World) : Calls Tryz.prog 175 #[.int .i64 1] w fun e w' => e = .returned (.int .i64 256) /\ w = w' := wa 1 w rfl
theorem xN (w : World) : Calls Tryz.prog 206 #[.int .i64 1] w fun e w' => e = .returned (.bool true) /\ w = w' := jk 1 w
theorem nP (w : World) : Calls Tryz.prog 116 #[.int .i64 1] w fun e w' => e = .returned (.bool true) /\ w = w' := eZ 1 w
theorem wB (w : World) : Calls Tryz.prog 117 #[.int .i64 1] w fun e w' => e = .returned (.int .i64 256) /\ w = w' := ph 1 w rfl
theorem xB (w : World) : Calls Tryz.prog 175 #[.int .i64 2] w fun e w' => e = .returned (.int .i64 65536) /\ w = w' := wa 2 w rfl
theorem xO (w : World) : Calls Tryz.prog 206 #[.int .i64 2] w fun e w' => e = .returned (.bool true) /\ w = w' := jk 2 w
theorem nQ (w : World) : Calls Tryz.prog 116 #[.int .i64 2] w fun e w' => e = .returned (.bool true) /\ w = w' := eZ 2 w
theorem wC (w : World) : Calls Tryz.prog 117 #[.int .i64 2] w fun e w' => e = .returned (.int .i64 65536) /\ w = w' := ph 2 w rfl
theorem Bu (w : World) : Calls Tryz.prog 175 #[.int .i64 4] w fun e w' => e = .returned (.int .i64 4294967296) /\ w = w' := wa 4 w rfl
theorem xP (w : World) : Calls Tryz.prog 206 #[.int .i64 4] w fun e w' => e = .returned (.bool true) /\ w = w' := jk 4 w
theorem nR (w : World) : Calls Tryz.prog 116 #[.int .i64 4] w fun e w' => e = .returned (.bool true) /\ w = w' := eZ 4 w
theorem wD (w : World) : Calls Tryz.prog 117 #[.int .i64 4] w fun e w' => e = .returned (.int .i64 4294967296) /\ w = w' := ph 4 w rfl
theorem hZ (n size : Int) (w : World) :
  Calls Tryz.prog 174 #[.int .i64 n, .int .i64 size] w fun e w' => e = .returned (.bool (bp n size)) /\ w = w' := by
 cases h : pM size with
 | false =>
  have hf : bp n size = false := by simp [bp, h]
  rw [hf]; clear hf
  have H := Lib.hid h; clear h
  go_enter Tryz.func174, Tryz.ntmps174
  go_wp2_with (go_at_call 206; refine (jk _ _).mono ?_; rintro e w' ⟨rfl, rfl⟩; rw [H.out])
  go_ret
  exact ⟨rfl, rfl⟩
 | true =>
  have hs := eL h
  rcases hs with rfl | rfl | rfl
  ·by_cases hl : (-128 : Int) <= n
   ·rw [gE (by rfl) hl]
    clear h
    go_enter Tryz.func174, Tryz.ntmps174
    go_wp2_with (first | (go_at_call 175; refine (uc _).mono ?_; rintro e w' ⟨rfl, rfl⟩) | (go_at_call 206; refine (xN _).mono ?_; rintro e w' ⟨rfl, rfl⟩))
    go_ret
    exact ⟨rfl, rfl⟩
   ·rw [gD hl]
    clear h
    go_enter Tryz.func174, Tryz.ntmps174
    go_wp2_with (first | (go_at_call 175; refine (uc _).mono ?_; rintro e w' ⟨rfl, rfl⟩) | (go_at_call 206; refine (xN _).mono ?_; rintro e w' ⟨rfl, rfl⟩))
    go_ret
    exact ⟨rfl, rfl⟩
  ·by_cases hl : (-32768 : Int) <= n
   ·rw [gE (by rfl) hl]
    clear h
    go_enter Tryz.func174, Tryz.ntmps174
    go_wp2_with (first | (go_at_call 175; refine (xB _).mono ?_; rintro e w' ⟨rfl, rfl⟩) | (go_at_call 206; refine (xO _).mono ?_; rintro e w' ⟨rfl, rfl⟩))
    go_ret
    exact ⟨rfl, rfl⟩
   ·rw [gD hl]
    clear h
    go_enter Tryz.func174, Tryz.ntmps174
    go_wp2_with (first | (go_at_call 175; refine (xB _).mono ?_; rintro e w' ⟨rfl, rfl⟩) | (go_at_call 206; refine (xO _).mono ?_; rintro e w' ⟨rfl, rfl⟩))
    go_ret
    exact ⟨rfl, rfl⟩
  ·by_cases hl : (-2147483648 : Int) <= n
   ·rw [gE (by rfl) hl]
    clear h
    go_enter Tryz.func174, Tryz.ntmps174
    go_wp2_with (first | (go_at_call 175; refine (Bu _).mono ?_; rintro e w' ⟨rfl, rfl⟩) | (go_at_call 206; refine (xP _).mono ?_; rintro e w' ⟨rfl, rfl⟩))
    go_ret
    exact ⟨rfl, rfl⟩
   ·rw [gD hl]
    clear h
    go_enter Tryz.func174, Tryz.ntmps174
    go_wp2_with (first | (go_at_call 175; refine (Bu _).mono ?_; rintro e w' ⟨rfl, rfl⟩) | (go_at_call 206; refine (xP _).mono ?_; rintro e w' ⟨rfl, rfl⟩))
    go_ret
    exact ⟨rfl, rfl⟩
theorem kC {n size : Int} (hs : pM size = true) (h1 : iv size / 2 <= n) (h2 : n < iv size) : dj n size = n - iv size := by
 unfold dj; rw [if_pos ⟨hs, h1, h2⟩]
theorem lW {n size : Int} (h1 : ¬ iv size / 2 <= n) : dj n size = n := by
 unfold dj; rw [if_neg (fun h => h1 h.2.1)]
theorem lV {n size : Int} (h1 : ¬ n < iv size) : dj n size = n := by
 unfold dj; rw [if_neg (fun h => h1 h.2.2)]
theorem wx {n size : Int} (h1 : pM size = false) : dj n size = n := by
 unfold dj; rw [if_neg (fun h => by rw [h1] at h; cases h.1)]
theorem ww (n size : Int) (w : World) :
  Calls Tryz.prog 166 #[.int .i64 n, .int .i64 size] w fun e w' => e = .returned (.int .i64 (dj n size)) /\ w = w' := by
 cases h : pM size with
 | false =>
  rw [wx h]
  have H := Lib.hid h; clear h
  go_enter Tryz.func166, Tryz.ntmps166
  go_wp2_with (go_at_call 116; refine (eZ _ _).mono ?_; rintro e w' ⟨rfl, rfl⟩; rw [H.out])
  go_ret
  exact ⟨rfl, rfl⟩
 | true =>
  have hs := eL h
  rcases hs with rfl | rfl | rfl
  ·by_cases hl : (128 : Int) <= n
   ·by_cases hr : n < (256 : Int)
    ·rw [kC (by rfl) hl hr]
     clear h
     go_enter Tryz.func166, Tryz.ntmps166
     go_wp2_with (first | (go_at_call 117; refine (wB _).mono ?_; rintro e w' ⟨rfl, rfl⟩) | (go_at_call 116; refine (nP _).mono ?_; rintro e w' ⟨rfl, rfl⟩))
     go_ret
     exact ⟨rfl, rfl⟩
    ·rw [lV hr]
     clear h
     go_enter Tryz.func166, Tryz.ntmps166
     go_wp2_with (first | (go_at_call 117; refine (wB _).mono ?_; rintro e w' ⟨rfl, rfl⟩) | (go_at_call 116; refine (nP _).mono ?_; rintro e w' ⟨rfl, rfl⟩))
     go_ret
     exact ⟨rfl, rfl⟩
   ·rw [lW hl]
    clear h
    go_enter Tryz.func166, Tryz.ntmps166
    go_wp2_with (first | (go_at_call 117; refine (wB _).mono ?_; rintro e w' ⟨rfl, rfl⟩) | (go_at_call 116; refine (nP _).mono ?_; rintro e w' ⟨rfl, rfl⟩))
    go_ret
    exact ⟨rfl, rfl⟩
  ·by_cases hl : (32768 : Int) <= n
   ·by_cases hr : n < (65536 : Int)
    ·rw [kC (by rfl) hl hr]
     clear h
     go_enter Tryz.func166, Tryz.ntmps166
     go_wp2_with (first | (go_at_call 117; refine (wC _).mono ?_; rintro e w' ⟨rfl, rfl⟩) | (go_at_call 116; refine (nQ _).mono ?_; rintro e w' ⟨rfl, rfl⟩))
     go_ret
     exact ⟨rfl, rfl⟩
    ·rw [lV hr]
     clear h
     go_enter Tryz.func166, Tryz.ntmps166
     go_wp2_with (first | (go_at_call 117; refine (wC _).mono ?_; rintro e w' ⟨rfl, rfl⟩) | (go_at_call 116; refine (nQ _).mono ?_; rintro e w' ⟨rfl, rfl⟩))
     go_ret
     exact ⟨rfl, rfl⟩
   ·rw [lW hl]
    clear h
    go_enter Tryz.func166, Tryz.ntmps166
    go_wp2_with (first | (go_at_call 117; refine (wC _).mono ?_; rintro e w' ⟨rfl, rfl⟩) | (go_at_call 116; refine (nQ _).mono ?_; rintro e w' ⟨rfl, rfl⟩))
    go_ret
    exact ⟨rfl, rfl⟩
  ·by_cases hl : (2147483648 : Int) <= n
   ·by_cases hr : n < (4294967296 : Int)
    ·rw [kC (by rfl) hl hr]
     clear h
     go_enter Tryz.func166, Tryz.ntmps166
     go_wp2_with (first | (go_at_call 117; refine (wD _).mono ?_; rintro e w' ⟨rfl, rfl⟩) | (go_at_call 116; refine (nR _).mono ?_; rintro e w' ⟨rfl, rfl⟩))
     go_ret
     exact ⟨rfl, rfl⟩
    ·rw [lV hr]
     clear h
     go_enter Tryz.func166, Tryz.ntmps166
     go_wp2_with (first | (go_at_call 117; refine (wD _).mono ?_; rintro e w' ⟨rfl, rfl⟩) | (go_at_call 116; refine (nR _).mono ?_; rintro e w' ⟨rfl, rfl⟩))
     go_ret
     exact ⟨rfl, rfl⟩
   ·rw [lW hl]
    clear h
    go_enter Tryz.func166, Tryz.ntmps166
    go_wp2_with (first | (go_at_call 117; refine (wD _).mono ?_; rintro e w' ⟨rfl, rfl⟩) | (go_at_call 116; refine (nR _).mono ?_; rintro e w' ⟨rfl, rfl⟩))
    go_ret
    exact ⟨rfl, rfl⟩
end Go.Proofs.YtknohkmpficjgaaGreatDoor.Nm
namespace Go.Proofs.YtknohkmpficjgaaGreatDoor.Nm
open Go.RowKit Go By
def A0 (len : Nat) (i size : Int) : Int := if pM size = false \/ i < 0 then 1 else if i > len - size then 3 else 0
end Go.Proofs.YtknohkmpficjgaaGreatDoor.Nm
