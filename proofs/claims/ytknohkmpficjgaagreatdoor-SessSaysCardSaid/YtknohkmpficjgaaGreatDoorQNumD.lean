import Derived.Test.YtknohkmpficjgaaGreatDoorQNumB
set_option linter.unusedSimpArgs false
set_option linter.unusedVariables false
open Nat renaming le_refl -> Q7
namespace Go.Proofs.YtknohkmpficjgaaGreatDoor.Nm
set_option maxRecDepth 100000
open Go.RowKit Go By
theorem byte_info : (Tryz.prog.info? 5).map (fun i => (i.zero, i.size, i.bytes)) = some (some (.int .u8 0), 1, 1) := by kernel_rfl
def Made (xs : List UInt8) (w : World) (e : Ending) (w' : World) : Prop :=
 ∃ a cap, e = .returned (.slice a xs.length cap) /\ (a = none -> cap = 0) /\ OwnB 5 w' w.heap.size (.slice a xs.length cap) xs /\ BytesAt w' w'.heap.size a xs /\ Below w.heap.size w w'
theorem Made.of {xs : List UInt8} {w w' : World} {e : Ending} (h : ∃ v, e = .returned v /\ OwnB 5 w' w.heap.size v xs /\ Below w.heap.size w w') : Made xs w e w' := by
 obtain ⟨v, he, ho, hb⟩ := h
 obtain ⟨a, cap, rfl, _, _, hc⟩ := ho.at_
 refine ⟨a, cap, he, fun hn => ?_, ho, hc, hb⟩
 subst hn
 rcases ho.2 with ⟨h1, _⟩ | ⟨g, _, _, h1, _⟩
 ·injection h1
 ·injection h1 with h1; cases h1
def dI (n : Int) (k : Nat) : UInt8 := UInt8.ofNat (n / 256 ^ k % 256).toNat
theorem cr (n : Int) (k : Nat) : ((dI n k).toNat : Int) = n / 256 ^ k % 256 := by
 unfold dI
 have h : 0 <= n / 256 ^ k % 256 /\ n / 256 ^ k % 256 < 256 := by omega
 rw [UInt8.toNat_ofNat']
 omega
def bJ (n : Int) (size : Nat) : Nat -> List UInt8
 | 0 => []
 | j + 1 => bJ n size j ++ [dI n (size - 1 - j)]
theorem bo (n : Int) (size : Nat) : ∀ j, (bJ n size j).length = j
 | 0 => rfl
 | j + 1 => by rw [bJ, List.length_append, bo n size j]; rfl
def bG (xs : List UInt8) (n size : Int) : List UInt8 := if bp n size = true then xs ++ bJ n size.toNat size.toNat else xs
theorem Bt (w : World) : Calls Tryz.prog 175 #[.int .i64 0] w fun e w' => e = .returned (.int .i64 1) /\ w = w' := lh 0 w (by omega)
theorem Ld (w : World) : Calls Tryz.prog 175 #[.int .i64 3] w fun e w' => e = .returned (.int .i64 16777216) /\ w = w' := lh 3 w (by omega)
theorem hU {n size : Int} (h : bp n size = true) : -(iv size / 2) <= n /\ n < iv size := by
 simp [bp] at h; exact h.2
set_option maxHeartbeats 400000 in
theorem HV (B : Nat) (a : Option Addr) (cap : Nat) (xs : List UInt8) (n : Int) (w : World) (h : BytesAt w B a xs) (hc : a = none -> cap = 0) (hl : xs.length <= 140737488351232) (hr : bp n 1 = true) :
  Calls Tryz.prog 125 #[.slice a xs.length cap, .int .i64 n, .int .i64 1] w (Made (xs ++ bJ n 1 1) w) := by
 obtain ⟨i0, hi, hz0, hz1, hz2⟩ := info_parts byte_info
 have hbd : -128 <= n /\ n < 256 := hU hr
 have HR := Lib.hid hr; have HX := Lib.hid h; have HC := Lib.hid hc
 obtain ⟨h1, h2⟩ := hbd
 clear hr h hc
 obtain ⟨len, HL⟩ : ∃ len, Hid (xs.length = len) := ⟨_, rfl⟩
 have HM : Hid (xs.length <= 140737488351232) := Lib.hid hl
 rw [HL.out] at hl
 by_cases hn : n < 0
 all_goals
  go_enter Tryz.func125, Tryz.ntmps125
  go_wp2_with (first
   | (go_at_call 174; refine (hZ _ _ _).mono ?_; rintro e w' ⟨rfl, rfl⟩; rw [HR.out])
   | (go_at_call 175; refine (uc _).mono ?_; rintro e w' ⟨rfl, rfl⟩)
   | (at_builtin; refine bn rfl _ _ 77 rfl w.heap.size 5 i0 Tryz.underlying77 hi hz0 hz1 hz2 (.slice none 0 0) [] rfl (World.ownsRow_nil _ _ _ _) B _ cap xs rfl HX.out HC.out (by have := HM.out; simp; omega) (Q7 _) ?_; intro v1 w1 ho1 hg1 _; have HO := Lib.hid ho1; clear ho1))
  have HB1 := Lib.hid ((Below.refl w.heap.size w).grown hg1 (Q7 _) (by simp [Value.ownBlock]))
  clear hg1
  go_loopw [7, 8] (fun v i wr => ∃ j : Int, 0 <= j /\ j <= 1 /\ i = .int .i64 (0 - j) /\ OwnB 5 wr w.heap.size v (xs ++ bJ n 1 j.toNat) /\ Below w.heap.size w wr) (fun _ i _ => (intOf i + 1).toNat)
  case atStart => exact ⟨0, by omega, by omega, rfl, by simpa [bJ] using HO.out, HB1.out⟩
  case round =>
   obtain ⟨j, hj0, hj4, rfl, hown, hbw⟩ := hrel
   have HW := Lib.hid hown
   have HB := Lib.hid hbw
   clear hown hbw HB1 HO
   have hj : j = 0 \/ j = 1 := by omega
   rcases hj with rfl | rfl
   ·go_wp2_with (first
     | (go_at_call 175; refine (Bt _).mono ?_; rintro e w' ⟨rfl, rfl⟩)
     | (at_builtin; refine aK rfl (.tmp 28) (.tmp 35) 77 rfl w.heap.size 5 i0 Tryz.underlying77 hi hz0 hz1 hz2 _ (xs ++ bJ n 1 0) (dI n 0) _ (by rw [cr]; simp <;> omega) rfl HW.out rfl (by simp [bo, HL.out]; omega) HB.out.size w HB.out ?_; intro v3 w3 ho3 hb3))
    go_roundw
    case rel => exact ⟨1, by omega, by omega, rfl, by simpa [bJ] using ho3, hb3⟩
    case measure => simp [intOf]
   ·go_wp2
    go_ret
    exact Made.of ⟨_, rfl, HW.out, HB.out⟩
set_option maxHeartbeats 400000 in
theorem HY (B : Nat) (a : Option Addr) (cap : Nat) (xs : List UInt8) (n : Int) (w : World) (h : BytesAt w B a xs) (hc : a = none -> cap = 0) (hl : xs.length <= 140737488351232) (hr : bp n 2 = true) :
  Calls Tryz.prog 125 #[.slice a xs.length cap, .int .i64 n, .int .i64 2] w (Made (xs ++ bJ n 2 2) w) := by
 obtain ⟨i0, hi, hz0, hz1, hz2⟩ := info_parts byte_info
 have hbd : -32768 <= n /\ n < 65536 := hU hr
 have HR := Lib.hid hr; have HX := Lib.hid h; have HC := Lib.hid hc
 obtain ⟨h1, h2⟩ := hbd
 clear hr h hc
 obtain ⟨len, HL⟩ : ∃ len, Hid (xs.length = len) := ⟨_, rfl⟩
 have HM : Hid (xs.length <= 140737488351232) := Lib.hid hl
 rw [HL.out] at hl
 by_cases hn : n < 0
 all_goals
  go_enter Tryz.func125, Tryz.ntmps125
  go_wp2_with (first
   | (go_at_call 174; refine (hZ _ _ _).mono ?_; rintro e w' ⟨rfl, rfl⟩; rw [HR.out])
   | (go_at_call 175; refine (xB _).mono ?_; rintro e w' ⟨rfl, rfl⟩)
   | (at_builtin; refine bn rfl _ _ 77 rfl w.heap.size 5 i0 Tryz.underlying77 hi hz0 hz1 hz2 (.slice none 0 0) [] rfl (World.ownsRow_nil _ _ _ _) B _ cap xs rfl HX.out HC.out (by have := HM.out; simp; omega) (Q7 _) ?_; intro v1 w1 ho1 hg1 _; have HO := Lib.hid ho1; clear ho1))
  have HB1 := Lib.hid ((Below.refl w.heap.size w).grown hg1 (Q7 _) (by simp [Value.ownBlock]))
  clear hg1
  go_loopw [7, 8] (fun v i wr => ∃ j : Int, 0 <= j /\ j <= 2 /\ i = .int .i64 (1 - j) /\ OwnB 5 wr w.heap.size v (xs ++ bJ n 2 j.toNat) /\ Below w.heap.size w wr) (fun _ i _ => (intOf i + 1).toNat)
  case atStart => exact ⟨0, by omega, by omega, rfl, by simpa [bJ] using HO.out, HB1.out⟩
  case round =>
   obtain ⟨j, hj0, hj4, rfl, hown, hbw⟩ := hrel
   have HW := Lib.hid hown
   have HB := Lib.hid hbw
   clear hown hbw HB1 HO
   have hj : j = 0 \/ j = 1 \/ j = 2 := by omega
   rcases hj with rfl | rfl | rfl
   ·go_wp2_with (first
     | (go_at_call 175; refine (uc _).mono ?_; rintro e w' ⟨rfl, rfl⟩)
     | (at_builtin; refine aK rfl (.tmp 28) (.tmp 35) 77 rfl w.heap.size 5 i0 Tryz.underlying77 hi hz0 hz1 hz2 _ (xs ++ bJ n 2 0) (dI n 1) _ (by rw [cr]; simp <;> omega) rfl HW.out rfl (by simp [bo, HL.out]; omega) HB.out.size w HB.out ?_; intro v3 w3 ho3 hb3))
    go_roundw
    case rel => exact ⟨1, by omega, by omega, rfl, by simpa [bJ] using ho3, hb3⟩
    case measure => simp [intOf]
   ·go_wp2_with (first
     | (go_at_call 175; refine (Bt _).mono ?_; rintro e w' ⟨rfl, rfl⟩)
     | (at_builtin; refine aK rfl (.tmp 28) (.tmp 35) 77 rfl w.heap.size 5 i0 Tryz.underlying77 hi hz0 hz1 hz2 _ (xs ++ bJ n 2 1) (dI n 0) _ (by rw [cr]; simp <;> omega) rfl HW.out rfl (by simp [bo, HL.out]; omega) HB.out.size w HB.out ?_; intro v3 w3 ho3 hb3))
    go_roundw
    case rel => exact ⟨2, by omega, by omega, rfl, by simpa [bJ] using ho3, hb3⟩
    case measure => simp [intOf]
   ·go_wp2
    go_ret
    exact Made.of ⟨_, rfl, HW.out, HB.out⟩
set_option maxHeartbeats 400000 in
theorem HZ (B : Nat) (a : Option Addr) (cap : Nat) (xs : List UInt8) (n : Int) (w : World) (h : BytesAt w B a xs) (hc : a = none -> cap = 0) (hl : xs.length <= 140737488351232) (hr : bp n 4 = true) :
  Calls Tryz.prog 125 #[.slice a xs.length cap, .int .i64 n, .int .i64 4] w (Made (xs ++ bJ n 4 4) w) := by
 obtain ⟨i0, hi, hz0, hz1, hz2⟩ := info_parts byte_info
 have hbd : -2147483648 <= n /\ n < 4294967296 := hU hr
 have HR := Lib.hid hr; have HX := Lib.hid h; have HC := Lib.hid hc
 obtain ⟨h1, h2⟩ := hbd
 clear hr h hc
 obtain ⟨len, HL⟩ : ∃ len, Hid (xs.length = len) := ⟨_, rfl⟩
 have HM : Hid (xs.length <= 140737488351232) := Lib.hid hl
 rw [HL.out] at hl
 by_cases hn : n < 0
 all_goals
  go_enter Tryz.func125, Tryz.ntmps125
  go_wp2_with (first
   | (go_at_call 174; refine (hZ _ _ _).mono ?_; rintro e w' ⟨rfl, rfl⟩; rw [HR.out])
   | (go_at_call 175; refine (Bu _).mono ?_; rintro e w' ⟨rfl, rfl⟩)
   | (at_builtin; refine bn rfl _ _ 77 rfl w.heap.size 5 i0 Tryz.underlying77 hi hz0 hz1 hz2 (.slice none 0 0) [] rfl (World.ownsRow_nil _ _ _ _) B _ cap xs rfl HX.out HC.out (by have := HM.out; simp; omega) (Q7 _) ?_; intro v1 w1 ho1 hg1 _; have HO := Lib.hid ho1; clear ho1))
  have HB1 := Lib.hid ((Below.refl w.heap.size w).grown hg1 (Q7 _) (by simp [Value.ownBlock]))
  clear hg1
  go_loopw [7, 8] (fun v i wr => ∃ j : Int, 0 <= j /\ j <= 4 /\ i = .int .i64 (3 - j) /\ OwnB 5 wr w.heap.size v (xs ++ bJ n 4 j.toNat) /\ Below w.heap.size w wr) (fun _ i _ => (intOf i + 1).toNat)
  case atStart => exact ⟨0, by omega, by omega, rfl, by simpa [bJ] using HO.out, HB1.out⟩
  case round =>
   obtain ⟨j, hj0, hj4, rfl, hown, hbw⟩ := hrel
   have HW := Lib.hid hown
   have HB := Lib.hid hbw
   clear hown hbw HB1 HO
   have hj : j = 0 \/ j = 1 \/ j = 2 \/ j = 3 \/ j = 4 := by omega
   rcases hj with rfl | rfl | rfl | rfl | rfl
   ·go_wp2_with (first
     | (go_at_call 175; refine (Ld _).mono ?_; rintro e w' ⟨rfl, rfl⟩)
     | (at_builtin; refine aK rfl (.tmp 28) (.tmp 35) 77 rfl w.heap.size 5 i0 Tryz.underlying77 hi hz0 hz1 hz2 _ (xs ++ bJ n 4 0) (dI n 3) _ (by rw [cr]; simp <;> omega) rfl HW.out rfl (by simp [bo, HL.out]; omega) HB.out.size w HB.out ?_; intro v3 w3 ho3 hb3))
    go_roundw
    case rel => exact ⟨1, by omega, by omega, rfl, by simpa [bJ] using ho3, hb3⟩
    case measure => simp [intOf]
   ·go_wp2_with (first
     | (go_at_call 175; refine (xB _).mono ?_; rintro e w' ⟨rfl, rfl⟩)
     | (at_builtin; refine aK rfl (.tmp 28) (.tmp 35) 77 rfl w.heap.size 5 i0 Tryz.underlying77 hi hz0 hz1 hz2 _ (xs ++ bJ n 4 1) (dI n 2) _ (by rw [cr]; simp <;> omega) rfl HW.out rfl (by simp [bo, HL.out]; omega) HB.out.size w HB.out ?_; intro v3 w3 ho3 hb3))
    go_roundw
    case rel => exact ⟨2, by omega, by omega, rfl, by simpa [bJ] using ho3, hb3⟩
    case measure => simp [intOf]
   ·go_wp2_with (first
     | (go_at_call 175; refine (uc _).mono ?_; rintro e w' ⟨rfl, rfl⟩)
     | (at_builtin; refine aK rfl (.tmp 28) (.tmp 35) 77 rfl w.heap.size 5 i0 Tryz.underlying77 hi hz0 hz1 hz2 _ (xs ++ bJ n 4 2) (dI n 1) _ (by rw [cr]; simp <;> omega) rfl HW.out rfl (by simp [bo, HL.out]; omega) HB.out.size w HB.out ?_; intro v3 w3 ho3 hb3))
    go_roundw
    case rel => exact ⟨3, by omega, by omega, rfl, by simpa [bJ] using ho3, hb3⟩
    case measure => simp [intOf]
   ·go_wp2_with (first
     | (go_at_call 175; refine (Bt _).mono ?_; rintro e w' ⟨rfl, rfl⟩)
     | (at_builtin; refine aK rfl (.tmp 28) (.tmp 35) 77 rfl w.heap.size 5 i0 Tryz.underlying77 hi hz0 hz1 hz2 _ (xs ++ bJ n 4 3) (dI n 0) _ (by rw [cr]; simp <;> omega) rfl HW.out rfl (by simp [bo, HL.out]; omega) HB.out.size w HB.out ?_; intro v3 w3 ho3 hb3))
    go_roundw
    case rel => exact ⟨4, by omega, by omega, rfl, by simpa [bJ] using ho3, hb3⟩
    case measure => simp [intOf]
   ·go_wp2
    go_ret
    exact Made.of ⟨_, rfl, HW.out, HB.out⟩
theorem BJ (B : Nat) (a : Option Addr) (cap : Nat) (xs : List UInt8) (n size : Int) (w : World) (h : BytesAt w B a xs) (hc : a = none -> cap = 0) (hl : xs.length <= 140737488351232) (hr : bp n size = false) :
  Calls Tryz.prog 125 #[.slice a xs.length cap, .int .i64 n, .int .i64 size] w (Made xs w) := by
 obtain ⟨i0, hi, hz0, hz1, hz2⟩ := info_parts byte_info
 have HR := Lib.hid hr; have HX := Lib.hid h; have HC := Lib.hid hc; have HM := Lib.hid hl
 clear hr h hc hl
 go_enter Tryz.func125, Tryz.ntmps125
 go_wp2_with (first
  | (go_at_call 174; refine (hZ _ _ _).mono ?_; rintro e w' ⟨rfl, rfl⟩; rw [HR.out])
  | (at_builtin; refine bn rfl _ _ 77 rfl w.heap.size 5 i0 Tryz.underlying77 hi hz0 hz1 hz2 (.slice none 0 0) [] rfl (World.ownsRow_nil _ _ _ _) B _ cap xs rfl HX.out HC.out (by have := HM.out; simp; omega) (Q7 _) ?_; intro v3 w3 ho3 hg3 _; have HO := Lib.hid ho3; clear ho3))
 go_ret
 exact Made.of ⟨_, rfl, HO.out, (Below.refl _ _).grown hg3 (Q7 _) (by simp [Value.ownBlock])⟩
theorem BI (B : Nat) (a : Option Addr) (cap : Nat) (xs : List UInt8) (n size : Int) (w : World) (h : BytesAt w B a xs) (hc : a = none -> cap = 0) (hl : xs.length <= 140737488351232) :
  Calls Tryz.prog 125 #[.slice a xs.length cap, .int .i64 n, .int .i64 size] w (Made (bG xs n size) w) := by
 cases hr : bp n size with
 | false => rw [bG, if_neg (by simp [hr])]; exact BJ B a cap xs n size w h hc hl hr
 | true =>
  rw [bG, if_pos hr]
  have hs : pM size = true := by
   cases hs : pM size with
   | true => rfl
   | false => simp [bp, hs] at hr
  rcases eL hs with rfl | rfl | rfl
  ·exact HV B a cap xs n w h hc hl hr
  ·exact HY B a cap xs n w h hc hl hr
  ·exact HZ B a cap xs n w h hc hl hr
end Go.Proofs.YtknohkmpficjgaaGreatDoor.Nm
