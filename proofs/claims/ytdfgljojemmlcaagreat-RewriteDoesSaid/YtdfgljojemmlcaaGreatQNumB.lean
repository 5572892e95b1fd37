import Derived.Test.YtdfgljojemmlcaaGreatRows
import Derived.Test.YtdfgljojemmlcaaGreatQElems
set_option linter.unusedSimpArgs false
set_option linter.unusedVariables false
open Int renaming eq_ofNat_of_zero_le -> Q0
open Nat renaming zero_le -> Q1
namespace Go.Proofs.YtdfgljojemmlcaaGreat.Nm
set_option maxRecDepth 100000
open Go.RowKit Go
def szB (n : Int) : Bool := n == 1 || n == 2 || n == 4
def iv (n : Int) : Int := if n = 1 then 256 else if n = 2 then 65536 else 4294967296
def aV (n size : Int) : Bool := szB size && (decide (-(iv size / 2) <= n) && decide (n < iv size))
def cn (n size : Int) : Int := if szB size = true /\ iv size / 2 <= n /\ n < iv size then n - iv size else n
theorem dM {n : Int} (h : szB n = true) : n = 1 \/ n = 2 \/ n = 4 := by
 simp [szB] at h; omega
theorem cQ (n : Int) (w : World) :
  Calls Tryz.prog 135 #[.int .i64 n] w fun e w' => e = .returned (.bool (szB n)) /\ w = w' := by
 by_cases h1 : n = 1
 ·subst h1
  go_enter Tryz.func135, Tryz.ntmps135
  go_wp2
  go_ret
  exact ⟨rfl, rfl⟩
 ·have h1' : (n == 1) = false := by simpa using h1
  by_cases h2 : n = 2
  ·subst h2
   go_enter Tryz.func135, Tryz.ntmps135
   go_wp2
   go_ret
   exact ⟨rfl, rfl⟩
  ·have h2' : (n == 2) = false := by simpa using h2
   have hs : szB n = (n == 4) := by simp [szB, h1', h2']
   rw [hs]; clear hs
   go_enter Tryz.func135, Tryz.ntmps135
   go_wp2
   go_ret
   exact ⟨rfl, rfl⟩
theorem jR (n : Int) (w : World) :
  Calls Tryz.prog 138 #[.int .i64 n] w fun e w' => e = .returned (.bool (szB n)) /\ w = w' := by
 by_cases h1 : n = 1
 ·subst h1
  go_enter Tryz.func138, Tryz.ntmps138
  go_wp2
  go_ret
  exact ⟨rfl, rfl⟩
 ·have h1' : (n == 1) = false := by simpa using h1
  by_cases h2 : n = 2
  ·subst h2
   go_enter Tryz.func138, Tryz.ntmps138
   go_wp2
   go_ret
   exact ⟨rfl, rfl⟩
  ·have h2' : (n == 2) = false := by simpa using h2
   have hs : szB n = (n == 4) := by simp [szB, h1', h2']
   rw [hs]; clear hs
   go_enter Tryz.func138, Tryz.ntmps138
   go_wp2
   go_ret
   exact ⟨rfl, rfl⟩
theorem pE (n : Int) (w : World) (h : szB n = true) :
  Calls Tryz.prog 136 #[.int .i64 n] w fun e w' => e = .returned (.int .i64 (iv n)) /\ w = w' := by
 rcases dM h with h | h | h
 all_goals
  subst h
  go_enter Tryz.func136, Tryz.ntmps136
  go_wp2
  go_ret
  exact ⟨rfl, rfl⟩
def vR : Nat -> Int
 | 0 => 1
 | k + 1 => vR k * 256
theorem wM : ∀ k, k <= 4 -> 1 <= vR k /\ vR k <= 4294967296
 | 0, _ => by decide
 | 1, _ => by decide
 | 2, _ => by decide
 | 3, _ => by decide
 | 4, _ => by decide
 | k + 5, h => by omega
set_option maxHeartbeats 400000 in
theorem ml (k : Nat) (w : World) (hk : k <= 4) :
  Calls Tryz.prog 118 #[.int .i64 k] w fun e w' => e = .returned (.int .i64 (vR k)) /\ w = w' := by
 go_enter Tryz.func118, Tryz.ntmps118
 go_wp2
 go_loop [3, 4] (fun n i => ∃ j : Nat, j <= k /\ i = .int .i64 j /\ n = .int .i64 (vR j)) (fun _ i => k - (intOf i).toNat)
 case atStart => exact ⟨0, Q1 _, rfl, rfl⟩
 case round =>
  obtain ⟨j, hj, rfl, rfl⟩ := hrel
  have hb := wM j (by omega)
  by_cases hlt : j < k
  ·have hb1 := (wM (j + 1) (by omega)).2
   have hx : vR (j + 1) = vR j * 256 := rfl
   rw [hx] at hb1
   clear hx
   go_wp2
   go_round
   case rel => exact ⟨j + 1, by omega, by go_num, rfl⟩
   case measure => simp [intOf]; omega
  ·obtain rfl : j = k := by omega
   go_wp2
   go_ret
   exact ⟨rfl, rfl⟩
theorem iq {n size : Int} (h : ¬ -(iv size / 2) <= n) : aV n size = false := by
 unfold aV; rw [decide_eq_false h]; simp
theorem gY {n size : Int} (hs : szB size = true) (h : -(iv size / 2) <= n) : aV n size = decide (n < iv size) := by
 unfold aV; rw [decide_eq_true h, hs]; simp
theorem hZ (n size : Int) (w : World) :
  Calls Tryz.prog 114 #[.int .i64 n, .int .i64 size] w fun e w' => e = .returned (.bool (aV n size)) /\ w = w' := by
 cases h : szB size with
 | false =>
  have hf : aV n size = false := by simp [aV, h]
  rw [hf]; clear hf
  have H := Lib.hid h; clear h
  go_enter Tryz.func114, Tryz.ntmps114
  go_wp2_with (go_at_call 135; refine (cQ _ _).mono ?_; rintro e w' ⟨rfl, rfl⟩; rw [H.out])
  go_ret
  exact ⟨rfl, rfl⟩
 | true =>
  have hs := dM h
  rcases hs with rfl | rfl | rfl
  ·by_cases hl : (-128 : Int) <= n
   ·rw [gY (by rfl) hl]
    clear h
    go_enter Tryz.func114, Tryz.ntmps114
    go_wp2
    go_ret
    exact ⟨rfl, rfl⟩
   ·rw [iq hl]
    clear h
    go_enter Tryz.func114, Tryz.ntmps114
    go_wp2
    go_ret
    exact ⟨rfl, rfl⟩
  ·by_cases hl : (-32768 : Int) <= n
   ·rw [gY (by rfl) hl]
    clear h
    go_enter Tryz.func114, Tryz.ntmps114
    go_wp2
    go_ret
    exact ⟨rfl, rfl⟩
   ·rw [iq hl]
    clear h
    go_enter Tryz.func114, Tryz.ntmps114
    go_wp2
    go_ret
    exact ⟨rfl, rfl⟩
  ·by_cases hl : (-2147483648 : Int) <= n
   ·rw [gY (by rfl) hl]
    clear h
    go_enter Tryz.func114, Tryz.ntmps114
    go_wp2
    go_ret
    exact ⟨rfl, rfl⟩
   ·rw [iq hl]
    clear h
    go_enter Tryz.func114, Tryz.ntmps114
    go_wp2
    go_ret
    exact ⟨rfl, rfl⟩
theorem vO (size : Int) (w : World) (h : szB size = true) :
  Calls Tryz.prog 118 #[.int .i64 size] w fun e w' => e = .returned (.int .i64 (iv size)) /\ w = w' := by
 rcases dM h with rfl | rfl | rfl
 ·exact ml 1 w (by omega)
 ·exact ml 2 w (by omega)
 ·exact ml 4 w (by omega)
theorem uh (w : World) : Calls Tryz.prog 118 #[.int .i64 1] w fun e w' => e = .returned (.int .i64 256) /\ w = w' := vO 1 w rfl
theorem w9 (w : World) : Calls Tryz.prog 138 #[.int .i64 1] w fun e w' => e = .returned (.bool true) /\ w = w' := jR 1 w
theorem ow (w : World) : Calls Tryz.prog 135 #[.int .i64 1] w fun e w' => e = .returned (.bool true) /\ w = w' := cQ 1 w
theorem vj (w : World) : Calls Tryz.prog 136 #[.int .i64 1] w fun e w' => e = .returned (.int .i64 256) /\ w = w' := pE 1 w rfl
theorem xe (w : World) : Calls Tryz.prog 118 #[.int .i64 2] w fun e w' => e = .returned (.int .i64 65536) /\ w = w' := vO 2 w rfl
theorem xf (w : World) : Calls Tryz.prog 138 #[.int .i64 2] w fun e w' => e = .returned (.bool true) /\ w = w' := jR 2 w
theorem ot (w : World) : Calls Tryz.prog 135 #[.int .i64 2] w fun e w' => e = .returned (.bool true) /\ w = w' := cQ 2 w
theorem wq (w : World) : Calls Tryz.prog 136 #[.int .i64 2] w fun e w' => e = .returned (.int .i64 65536) /\ w = w' := pE 2 w rfl
theorem Bh (w : World) : Calls Tryz.prog 118 #[.int .i64 4] w fun e w' => e = .returned (.int .i64 4294967296) /\ w = w' := vO 4 w rfl
theorem wS (w : World) : Calls Tryz.prog 138 #[.int .i64 4] w fun e w' => e = .returned (.bool true) /\ w = w' := jR 4 w
theorem oe (w : World) : Calls Tryz.prog 135 #[.int .i64 4] w fun e w' => e = .returned (.bool true) /\ w = w' := cQ 4 w
theorem vi (w : World) : Calls Tryz.prog 136 #[.int .i64 4] w fun e w' => e = .returned (.int .i64 4294967296) /\ w = w' := pE 4 w rfl
theorem ja (n size : Int) (w : World) :
  Calls Tryz.prog 117 #[.int .i64 n, .int .i64 size] w fun e w' => e = .returned (.bool (aV n size)) /\ w = w' := by
 cases h : szB size with
 | false =>
  have hf : aV n size = false := by simp [aV, h]
  rw [hf]; clear hf
  have H := Lib.hid h; clear h
  go_enter Tryz.func117, Tryz.ntmps117
  go_wp2_with (go_at_call 138; refine (jR _ _).mono ?_; rintro e w' ⟨rfl, rfl⟩; rw [H.out])
  go_ret
  exact ⟨rfl, rfl⟩
 | true =>
  have hs := dM h
  rcases hs with rfl | rfl | rfl
  ·by_cases hl : (-128 : Int) <= n
   ·rw [gY (by rfl) hl]
    clear h
    go_enter Tryz.func117, Tryz.ntmps117
    go_wp2_with (first | (go_at_call 118; refine (uh _).mono ?_; rintro e w' ⟨rfl, rfl⟩) | (go_at_call 138; refine (w9 _).mono ?_; rintro e w' ⟨rfl, rfl⟩))
    go_ret
    exact ⟨rfl, rfl⟩
   ·rw [iq hl]
    clear h
    go_enter Tryz.func117, Tryz.ntmps117
    go_wp2_with (first | (go_at_call 118; refine (uh _).mono ?_; rintro e w' ⟨rfl, rfl⟩) | (go_at_call 138; refine (w9 _).mono ?_; rintro e w' ⟨rfl, rfl⟩))
    go_ret
    exact ⟨rfl, rfl⟩
  ·by_cases hl : (-32768 : Int) <= n
   ·rw [gY (by rfl) hl]
    clear h
    go_enter Tryz.func117, Tryz.ntmps117
    go_wp2_with (first | (go_at_call 118; refine (xe _).mono ?_; rintro e w' ⟨rfl, rfl⟩) | (go_at_call 138; refine (xf _).mono ?_; rintro e w' ⟨rfl, rfl⟩))
    go_ret
    exact ⟨rfl, rfl⟩
   ·rw [iq hl]
    clear h
    go_enter Tryz.func117, Tryz.ntmps117
    go_wp2_with (first | (go_at_call 118; refine (xe _).mono ?_; rintro e w' ⟨rfl, rfl⟩) | (go_at_call 138; refine (xf _).mono ?_; rintro e w' ⟨rfl, rfl⟩))
    go_ret
    exact ⟨rfl, rfl⟩
  ·by_cases hl : (-2147483648 : Int) <= n
   ·rw [gY (by rfl) hl]
    clear h
    go_enter Tryz.func117, Tryz.ntmps117
    go_wp2_with (first | (go_at_call 118; refine (Bh _).mono ?_; rintro e w' ⟨rfl, rfl⟩) | (go_at_call 138; refine (wS _).mono ?_; rintro e w' ⟨rfl, rfl⟩))
    go_ret
    exact ⟨rfl, rfl⟩
   ·rw [iq hl]
    clear h
    go_enter Tryz.func117, Tryz.ntmps117
    go_wp2_with (first | (go_at_call 118; refine (Bh _).mono ?_; rintro e w' ⟨rfl, rfl⟩) | (go_at_call 138; refine (wS _).mono ?_; rintro e w' ⟨rfl, rfl⟩))
    go_ret
    exact ⟨rfl, rfl⟩
theorem kZ {n size : Int} (hs : szB size = true) (h1 : iv size / 2 <= n) (h2 : n < iv size) : cn n size = n - iv size := by
 unfold cn; rw [if_pos ⟨hs, h1, h2⟩]
theorem my {n size : Int} (h1 : ¬ iv size / 2 <= n) : cn n size = n := by
 unfold cn; rw [if_neg (fun h => h1 h.2.1)]
theorem nq {n size : Int} (h1 : ¬ n < iv size) : cn n size = n := by
 unfold cn; rw [if_neg (fun h => h1 h.2.2)]
theorem uX {n size : Int} (h1 : szB size = false) : cn n size = n := by
 unfold cn; rw [if_neg (fun h => by rw [h1] at h; cases h.1)]
theorem wh (n size : Int) (w : World) :
  Calls Tryz.prog 187 #[.int .i64 n, .int .i64 size] w fun e w' => e = .returned (.int .i64 (cn n size)) /\ w = w' := by
 cases h : szB size with
 | false =>
  rw [uX h]
  have H := Lib.hid h; clear h
  go_enter Tryz.func187, Tryz.ntmps187
  go_wp2_with (go_at_call 135; refine (cQ _ _).mono ?_; rintro e w' ⟨rfl, rfl⟩; rw [H.out])
  go_ret
  exact ⟨rfl, rfl⟩
 | true =>
  have hs := dM h
  rcases hs with rfl | rfl | rfl
  ·by_cases hl : (128 : Int) <= n
   ·by_cases hr : n < (256 : Int)
    ·rw [kZ (by rfl) hl hr]
     clear h
     go_enter Tryz.func187, Tryz.ntmps187
     go_wp2_with (first | (go_at_call 136; refine (vj _).mono ?_; rintro e w' ⟨rfl, rfl⟩) | (go_at_call 135; refine (ow _).mono ?_; rintro e w' ⟨rfl, rfl⟩))
     go_ret
     exact ⟨rfl, rfl⟩
    ·rw [nq hr]
     clear h
     go_enter Tryz.func187, Tryz.ntmps187
     go_wp2_with (first | (go_at_call 136; refine (vj _).mono ?_; rintro e w' ⟨rfl, rfl⟩) | (go_at_call 135; refine (ow _).mono ?_; rintro e w' ⟨rfl, rfl⟩))
     go_ret
     exact ⟨rfl, rfl⟩
   ·rw [my hl]
    clear h
    go_enter Tryz.func187, Tryz.ntmps187
    go_wp2_with (first | (go_at_call 136; refine (vj _).mono ?_; rintro e w' ⟨rfl, rfl⟩) | (go_at_call 135; refine (ow _).mono ?_; rintro e w' ⟨rfl, rfl⟩))
    go_ret
    exact ⟨rfl, rfl⟩
  ·by_cases hl : (32768 : Int) <= n
   ·by_cases hr : n < (65536 : Int)
    ·rw [kZ (by rfl) hl hr]
     clear h
     go_enter Tryz.func187, Tryz.ntmps187
     go_wp2_with (first | (go_at_call 136; refine (wq _).mono ?_; rintro e w' ⟨rfl, rfl⟩) | (go_at_call 135; refine (ot _).mono ?_; rintro e w' ⟨rfl, rfl⟩))
     go_ret
     exact ⟨rfl, rfl⟩
    ·rw [nq hr]
     clear h
     go_enter Tryz.func187, Tryz.ntmps187
     go_wp2_with (first | (go_at_call 136; refine (wq _).mono ?_; rintro e w' ⟨rfl, rfl⟩) | (go_at_call 135; refine (ot _).mono ?_; rintro e w' ⟨rfl, rfl⟩))
     go_ret
     exact ⟨rfl, rfl⟩
   ·rw [my hl]
    clear h
    go_enter Tryz.func187, Tryz.ntmps187
    go_wp2_with (first | (go_at_call 136; refine (wq _).mono ?_; rintro e w' ⟨rfl, rfl⟩) | (go_at_call 135; refine (ot _).mono ?_; rintro e w' ⟨rfl, rfl⟩))
    go_ret
    exact ⟨rfl, rfl⟩
  ·by_cases hl : (2147483648 : Int) <= n
   ·by_cases hr : n < (4294967296 : Int)
    ·rw [kZ (by rfl) hl hr]
     clear h
     go_enter Tryz.func187, Tryz.ntmps187
     go_wp2_with (first | (go_at_call 136; refine (vi _).mono ?_; rintro e w' ⟨rfl, rfl⟩) | (go_at_call 135; refine (oe _).mono ?_; rintro e w' ⟨rfl, rfl⟩))
     go_ret
     exact ⟨rfl, rfl⟩
    ·rw [nq hr]
     clear h
     go_enter Tryz.func187, Tryz.ntmps187
     go_wp2_with (first | (go_at_call 136; refine (vi _).mono ?_; rintro e w' ⟨rfl, rfl⟩) | (go_at_call 135; refine (oe _).mono ?_; rintro e w' ⟨rfl, rfl⟩))
     go_ret
     exact ⟨rfl, rfl⟩
   ·rw [my hl]
    clear h
    go_enter Tryz.func187, Tryz.ntmps187
    go_wp2_with (first | (go_at_call 136; refine (vi _).mono ?_; rintro e w' ⟨rfl, rfl⟩) | (go_at_call 135; refine (oe _).mono ?_; rintro e w' ⟨rfl, rfl⟩))
    go_ret
    exact ⟨rfl, rfl⟩
end Go.Proofs.YtdfgljojemmlcaaGreat.Nm
namespace Go.Proofs.YtdfgljojemmlcaaGreat.Nm
set_option maxRecDepth 100000
open Go.RowKit Go By
def dJ (len : Nat) (i size : Int) : Int := if szB size = false \/ i < 0 then 1 else if i > len - size then 3 else 0
def iY (xs : List UInt8) (i size : Int) : Int := if dJ xs.length i size = 0 then cJ xs i.toNat size.toNat else 0
theorem vX {len : Nat} {i size : Int} (h : szB size = false \/ i < 0) : dJ len i size = 1 := by
 unfold dJ; rw [if_pos h]
theorem jd {len : Nat} {i size : Int} (hs : szB size = true) (h0 : 0 <= i) (h : (len : Int) - size < i) : dJ len i size = 3 := by
 have h1 : ¬ (szB size = false \/ i < 0) := by simp [hs]; omega
 unfold dJ; rw [if_neg h1, if_pos h]
theorem mZ {len i : Nat} {size : Nat} (hs : szB (size : Int) = true) (h : i + size <= len) : dJ len i size = 0 := by
 have h1 : ¬ (szB (size : Int) = false \/ (i : Int) < 0) := by simp [hs]
 unfold dJ; rw [if_neg h1, if_neg (by omega)]
def jO (xs : List UInt8) (i size : Int) : Value := .tuple #[.int .i64 (iY xs i size), .int .i64 (dJ xs.length i size)]
theorem vZ {xs : List UInt8} {i size : Int} (h : szB size = false \/ i < 0) : jO xs i size = .tuple #[.int .i64 0, .int .i64 1] := by
 unfold jO iY; rw [vX h]; rfl
theorem si {xs : List UInt8} {i size : Int} (hs : szB size = true) (h0 : 0 <= i) (h : (xs.length : Int) - size < i) : jO xs i size = .tuple #[.int .i64 0, .int .i64 3] := by
 unfold jO iY; rw [jd hs h0 h]; rfl
theorem yA {xs : List UInt8} {i size : Nat} (hs : szB (size : Int) = true) (h : i + size <= xs.length) : jO xs i size = .tuple #[.int .i64 (cJ xs i size), .int .i64 0] := by
 unfold jO iY; rw [mZ hs h]; rfl
theorem oo {n : Int} (h : szB n = true) : 1 <= n /\ n <= 4 := by have := dM h; omega
set_option maxHeartbeats 400000 in
theorem GN (b off cap : Nat) (xs : List UInt8) (i size : Nat) (w : World) (hm : xs.length <= 9223372036854775807)
  (hc : ∀ j, j < xs.length -> w.cell? ⟨b, off + j, none⟩ = some (.int .u8 (bB xs j))) (hs : szB (size : Int) = true) (h : i + size <= xs.length) :
  Calls Tryz.prog 115 #[.slice (some ⟨b, off, none⟩) xs.length cap, .int .i64 i, .int .i64 size] w fun e w' => e = .returned (.tuple #[.int .i64 (cJ xs i size), .int .i64 0]) /\ w = w' := by
 have h4 := oo hs
 obtain ⟨len, HL⟩ : ∃ len, Hid (xs.length = len) := ⟨_, rfl⟩
 rw [HL.out] at h hm ⊢
 have HS := Lib.hid hs; have HC := Lib.hid hc
 clear hs hc
 go_enter Tryz.func115, Tryz.ntmps115
 go_wp2_with (go_at_call 135; refine (cQ _ _).mono ?_; rintro e w' ⟨rfl, rfl⟩; rw [HS.out])
 go_loop [8, 24] (fun n k => ∃ j : Nat, j <= size /\ k = .int .i64 j /\ n = .int .i64 (cJ xs i j)) (fun _ k => size - (intOf k).toNat)
 case atStart => exact ⟨0, Q1 _, rfl, rfl⟩
 case round =>
  obtain ⟨j, hj, rfl, rfl⟩ := hrel
  by_cases hlt : j < size
  ·have hcell := HC.out (i + j) (by have := HL.out; omega)
   have hr := Bu xs i j (by omega)
   have hb := mq xs (i + j)
   have hor := Cv (cJ xs i j) (bB xs (i + j)) hr.1 hr.2 hb.1 hb.2
   have HO : Hid (cJ xs i (j + 1) = cJ xs i j * 256 + bB xs (i + j)) := rfl
   go_wp2
   go_round
   case rel => exact ⟨j + 1, by omega, by go_num, by rw [HO.out]⟩
   case measure => simp [intOf]; omega
  ·obtain rfl : j = size := by omega
   go_wp2
   go_ret2
   exact ⟨rfl, rfl⟩
theorem BW (a : Option Addr) (len cap : Nat) (i size : Int) (w : World) (h : szB size = false \/ i < 0) :
  Calls Tryz.prog 115 #[.slice a len cap, .int .i64 i, .int .i64 size] w fun e w' => e = .returned (.tuple #[.int .i64 0, .int .i64 1]) /\ w = w' := by
 cases hs : szB size with
 | false =>
  have HS := Lib.hid hs
  clear hs h
  go_enter Tryz.func115, Tryz.ntmps115
  go_wp2_with (go_at_call 135; refine (cQ _ _).mono ?_; rintro e w' ⟨rfl, rfl⟩; rw [HS.out])
  go_ret2
  exact ⟨rfl, rfl⟩
 | true =>
  have hi : i < 0 := by simpa [hs] using h
  have HS := Lib.hid hs
  clear hs h
  go_enter Tryz.func115, Tryz.ntmps115
  go_wp2_with (go_at_call 135; refine (cQ _ _).mono ?_; rintro e w' ⟨rfl, rfl⟩; rw [HS.out])
  go_ret2
  exact ⟨rfl, rfl⟩
theorem yJ (a : Option Addr) (len cap : Nat) (i size : Int) (w : World) (hm : len <= 9223372036854775807) (hs : szB size = true) (h0 : 0 <= i) (h : (len : Int) - size < i) :
  Calls Tryz.prog 115 #[.slice a len cap, .int .i64 i, .int .i64 size] w fun e w' => e = .returned (.tuple #[.int .i64 0, .int .i64 3]) /\ w = w' := by
 have h4 := oo hs
 have HS := Lib.hid hs
 clear hs
 go_enter Tryz.func115, Tryz.ntmps115
 go_wp2_with (go_at_call 135; refine (cQ _ _).mono ?_; rintro e w' ⟨rfl, rfl⟩; rw [HS.out])
 go_ret2
 exact ⟨rfl, rfl⟩
theorem C2 (B : Nat) (a : Option Addr) (cap : Nat) (xs : List UInt8) (i size : Int) (w : World) (hm : xs.length <= 9223372036854775807) (hb : BytesAt w B a xs) :
  Calls Tryz.prog 115 #[.slice a xs.length cap, .int .i64 i, .int .i64 size] w fun e w' => e = .returned (jO xs i size) /\ w = w' := by
 by_cases h1 : szB size = false \/ i < 0
 ·rw [vZ h1]; exact BW a _ cap i size w h1
 ·have hs : szB size = true := by cases h : szB size <;> simp_all
  have h0 : 0 <= i := by omega
  have h4 := oo hs
  by_cases h2 : (xs.length : Int) - size < i
  ·rw [si hs h0 h2]; exact yJ a _ cap i size w hm hs h0 h2
  ·obtain ⟨k, rfl⟩ := Q0 h0
   obtain ⟨m, rfl⟩ := Q0 (by omega : 0 <= size)
   obtain ⟨b, off, rfl, _, hc⟩ := hb (by omega)
   rw [yA hs (by omega)]
   exact GN b off cap xs k m w hm hc hs (by omega)
end Go.Proofs.YtdfgljojemmlcaaGreat.Nm
