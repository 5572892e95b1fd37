import Derived.Test.YtdfgljojemmlcaaGreatQNumB
set_option linter.unusedSimpArgs false
set_option linter.unusedVariables false
open Nat renaming le_refl -> Q0, min_self -> Q3, lt_or_ge -> Q4
open List renaming getElem?_eq_none -> Q1, replicate -> Q2
namespace Go.Proofs.YtdfgljojemmlcaaGreat.Nm
set_option maxRecDepth 100000
open Go.RowKit Go By
theorem byte_info : (Tryz.prog.info? 5).map (fun i => (i.zero, i.size, i.bytes)) = some (some (.int .u8 0), 1, 1) := by kernel_rfl
def Made (xs : List UInt8) (w : World) (e : Ending) (w' : World) : Prop :=
 ∃ a cap, e = .returned (.slice a xs.length cap) /\ (a = none -> cap = 0) /\ OwnB 5 w' w.heap.size (.slice a xs.length cap) xs /\ BytesAt w' w'.heap.size a xs /\ Below w.heap.size w w'
theorem Made.of {xs : List UInt8} {w w' : World} {e : Ending} (h : ∃ v, e = .returned v /\ OwnB 5 w' w.heap.size v xs /\ Below w.heap.size w w') : Made xs w e w' := by
 obtain ⟨v, he, ho, hb⟩ := h
 obtain ⟨a, cap, rfl, _, _, hc⟩ := ho.at_
 refine ⟨a, cap, he, fun hn => ?_, ho, hc, hb⟩
 subst hn
 rcases ho.2 with ⟨h1, _⟩ | ⟨g, _, _, h1, _⟩
 ·injection h1
 ·injection h1 with h1; cases h1
def cj (n : Int) (k : Nat) : UInt8 := UInt8.ofNat (n / 256 ^ k % 256).toNat
theorem aO (n : Int) (k : Nat) : ((cj n k).toNat : Int) = n / 256 ^ k % 256 := by
 unfold cj
 have h : 0 <= n / 256 ^ k % 256 /\ n / 256 ^ k % 256 < 256 := by omega
 rw [UInt8.toNat_ofNat']
 omega
def aL (n : Int) (size : Nat) : Nat -> List UInt8
 | 0 => []
 | j + 1 => aL n size j ++ [cj n (size - 1 - j)]
theorem aH (n : Int) (size : Nat) : ∀ j, (aL n size j).length = j
 | 0 => rfl
 | j + 1 => by rw [aL, List.length_append, aH n size j]; rfl
def bo (xs : List UInt8) (n size : Int) : List UInt8 := if aV n size = true then xs ++ aL n size.toNat size.toNat else xs
set_option maxHeartbeats 400000 in
theorem KG (B : Nat) (a : Option Addr) (cap : Nat) (xs : List UInt8) (n : Int) (w : World) (h : BytesAt w B a xs) (hB : B <= w.heap.size) (hl : xs.length <= 140737488351232) (hr : aV n 1 = true) :
  Calls Tryz.prog 85 #[.slice a xs.length cap, .int .i64 n, .int .i64 1] w (Made (xs ++ aL n 1 1) w) := by
 obtain ⟨i0, hi, hz0, hz1, hz2⟩ := info_parts byte_info
 have HR := Lib.hid hr; have HX := Lib.hid h
 clear hr h
 obtain ⟨len, HL⟩ : ∃ len, Hid (xs.length = len) := ⟨_, rfl⟩
 rw [HL.out] at hl ⊢
 go_enter Tryz.func85, Tryz.ntmps85
 go_wp2_with (first
  | (go_at_call 114; refine (hZ _ _ _).mono ?_; rintro e w' ⟨rfl, rfl⟩; rw [HR.out])
  | (at_make; refine ck rfl _ _ 52 rfl 5 i0 Tryz.underlying52 hi hz0 hz1 hz2 .i64 .i64 len (len + 1) _ _ rfl rfl rfl (by omega) (by omega) (by omega) ?_; intro w1 hg1 hb1 hs1)
  | (with_reducible refine wpList_copy_splice (o := ⟨some 24, _, _, _, _, _⟩) rfl (.tmp 22) (.tmp 23) 52 52 rfl 5 Tryz.underlying52 (by kernel_rfl) _ _ len (len + 1) len cap rfl rfl w.heap.size 0 (Q2 (len + 1) (.int .u8 0)) 5 hg1.out (vals xs) (by rw [co, HL.out]; exact (Q3 len).symm) ?c1 ?c2 (jK xs) w.heap.size w hb1 (Q0 _) ?c3))
 case c1 =>
  intro hp
  obtain ⟨b, off, e, _, hc⟩ := (HX.out.below (hb1.mono hB)) (by simpa [vals] using hp)
  refine ⟨_, e, fun j u hu => ?_⟩
  have hj : j < xs.length := by
   rcases Q4 j xs.length with h1 | h1
   ·exact h1
   ·rw [Q1 (by simpa [vals] using h1)] at hu; cases hu
  rw [ez xs j hj] at hu
  injection hu with hu
  subst hu
  rw [add_plain]
  exact hc j hj
 case c2 => simp [vals, HL.out]
 case c3 =>
  intro w2 hg2 hb2
  have HO : Hid (OwnB 5 w2 w.heap.size (.slice (some ⟨w.heap.size, 0, none⟩) xs.length (len + 1)) xs) :=
   Lib.hid (OwnB.of_block hg2.out (Q0 _) (by rw [length_splice _ _ _ (by simp [vals, HL.out])]; simp) (by unfold maxLen; omega) (by rw [HL.out]; omega)
    (by unfold splice; rw [<- co xs]; simp))
  rw [HL.out] at HO
  clear hg2 hg1 hb1 hs1 HR
  go_wp2
  go_loopw [7, 26] (fun v i wr => ∃ j : Int, 0 <= j /\ j <= 1 /\ i = .int .i64 j /\ OwnB 5 wr w.heap.size v (xs ++ aL n 1 j.toNat) /\ Below w.heap.size w wr) (fun _ i _ => 1 - (intOf i).toNat)
  case atStart => exact ⟨0, by omega, by omega, rfl, by simpa [aL] using HO.out, hb2⟩
  case round =>
   obtain ⟨j, hj0, hj4, rfl, hown, hbw⟩ := hrel
   have HW := Lib.hid hown
   have HB := Lib.hid hbw
   clear hown hbw hb2 HO
   have hj : j = 0 \/ j = 1 := by omega
   rcases hj with rfl | rfl
   ·go_wp2_with (at_builtin; refine ar rfl (.tmp 29) (.tmp 38) 52 rfl w.heap.size 5 i0 Tryz.underlying52 hi hz0 hz1 hz2 _ (xs ++ aL n 1 0) (cj n 0) _ (by rw [aO]; simp) rfl HW.out rfl (by simp [aH, HL.out]; omega) HB.out.size w HB.out ?_; intro v3 w3 ho3 hb3)
    go_roundw
    case rel => exact ⟨1, by omega, by omega, rfl, by simpa [aL] using ho3, hb3⟩
    case measure => simp [intOf]
   ·go_wp2
    go_ret
    exact Made.of ⟨_, rfl, HW.out, HB.out⟩
set_option maxHeartbeats 400000 in
theorem Jw (B : Nat) (a : Option Addr) (cap : Nat) (xs : List UInt8) (n : Int) (w : World) (h : BytesAt w B a xs) (hB : B <= w.heap.size) (hl : xs.length <= 140737488351232) (hr : aV n 2 = true) :
  Calls Tryz.prog 85 #[.slice a xs.length cap, .int .i64 n, .int .i64 2] w (Made (xs ++ aL n 2 2) w) := by
 obtain ⟨i0, hi, hz0, hz1, hz2⟩ := info_parts byte_info
 have HR := Lib.hid hr; have HX := Lib.hid h
 clear hr h
 obtain ⟨len, HL⟩ : ∃ len, Hid (xs.length = len) := ⟨_, rfl⟩
 rw [HL.out] at hl ⊢
 go_enter Tryz.func85, Tryz.ntmps85
 go_wp2_with (first
  | (go_at_call 114; refine (hZ _ _ _).mono ?_; rintro e w' ⟨rfl, rfl⟩; rw [HR.out])
  | (at_make; refine ck rfl _ _ 52 rfl 5 i0 Tryz.underlying52 hi hz0 hz1 hz2 .i64 .i64 len (len + 2) _ _ rfl rfl rfl (by omega) (by omega) (by omega) ?_; intro w1 hg1 hb1 hs1)
  | (with_reducible refine wpList_copy_splice (o := ⟨some 24, _, _, _, _, _⟩) rfl (.tmp 22) (.tmp 23) 52 52 rfl 5 Tryz.underlying52 (by kernel_rfl) _ _ len (len + 2) len cap rfl rfl w.heap.size 0 (Q2 (len + 2) (.int .u8 0)) 5 hg1.out (vals xs) (by rw [co, HL.out]; exact (Q3 len).symm) ?c1 ?c2 (jK xs) w.heap.size w hb1 (Q0 _) ?c3))
 case c1 =>
  intro hp
  obtain ⟨b, off, e, _, hc⟩ := (HX.out.below (hb1.mono hB)) (by simpa [vals] using hp)
  refine ⟨_, e, fun j u hu => ?_⟩
  have hj : j < xs.length := by
   rcases Q4 j xs.length with h1 | h1
   ·exact h1
   ·rw [Q1 (by simpa [vals] using h1)] at hu; cases hu
  rw [ez xs j hj] at hu
  injection hu with hu
  subst hu
  rw [add_plain]
  exact hc j hj
 case c2 => simp [vals, HL.out]
 case c3 =>
  intro w2 hg2 hb2
  have HO : Hid (OwnB 5 w2 w.heap.size (.slice (some ⟨w.heap.size, 0, none⟩) xs.length (len + 2)) xs) :=
   Lib.hid (OwnB.of_block hg2.out (Q0 _) (by rw [length_splice _ _ _ (by simp [vals, HL.out])]; simp) (by unfold maxLen; omega) (by rw [HL.out]; omega)
    (by unfold splice; rw [<- co xs]; simp))
  rw [HL.out] at HO
  clear hg2 hg1 hb1 hs1 HR
  go_wp2
  go_loopw [7, 26] (fun v i wr => ∃ j : Int, 0 <= j /\ j <= 2 /\ i = .int .i64 j /\ OwnB 5 wr w.heap.size v (xs ++ aL n 2 j.toNat) /\ Below w.heap.size w wr) (fun _ i _ => 2 - (intOf i).toNat)
  case atStart => exact ⟨0, by omega, by omega, rfl, by simpa [aL] using HO.out, hb2⟩
  case round =>
   obtain ⟨j, hj0, hj4, rfl, hown, hbw⟩ := hrel
   have HW := Lib.hid hown
   have HB := Lib.hid hbw
   clear hown hbw hb2 HO
   have hj : j = 0 \/ j = 1 \/ j = 2 := by omega
   rcases hj with rfl | rfl | rfl
   ·go_wp2_with (at_builtin; refine ar rfl (.tmp 29) (.tmp 38) 52 rfl w.heap.size 5 i0 Tryz.underlying52 hi hz0 hz1 hz2 _ (xs ++ aL n 2 0) (cj n 1) _ (by rw [aO]; simp) rfl HW.out rfl (by simp [aH, HL.out]; omega) HB.out.size w HB.out ?_; intro v3 w3 ho3 hb3)
    go_roundw
    case rel => exact ⟨1, by omega, by omega, rfl, by simpa [aL] using ho3, hb3⟩
    case measure => simp [intOf]
   ·go_wp2_with (at_builtin; refine ar rfl (.tmp 29) (.tmp 38) 52 rfl w.heap.size 5 i0 Tryz.underlying52 hi hz0 hz1 hz2 _ (xs ++ aL n 2 1) (cj n 0) _ (by rw [aO]; simp) rfl HW.out rfl (by simp [aH, HL.out]; omega) HB.out.size w HB.out ?_; intro v3 w3 ho3 hb3)
    go_roundw
    case rel => exact ⟨2, by omega, by omega, rfl, by simpa [aL] using ho3, hb3⟩
    case measure => simp [intOf]
   ·go_wp2
    go_ret
    exact Made.of ⟨_, rfl, HW.out, HB.out⟩
set_option maxHeartbeats 400000 in
theorem Ko (B : Nat) (a : Option Addr) (cap : Nat) (xs : List UInt8) (n : Int) (w : World) (h : BytesAt w B a xs) (hB : B <= w.heap.size) (hl : xs.length <= 140737488351232) (hr : aV n 4 = true) :
  Calls Tryz.prog 85 #[.slice a xs.length cap, .int .i64 n, .int .i64 4] w (Made (xs ++ aL n 4 4) w) := by
 obtain ⟨i0, hi, hz0, hz1, hz2⟩ := info_parts byte_info
 have HR := Lib.hid hr; have HX := Lib.hid h
 clear hr h
 obtain ⟨len, HL⟩ : ∃ len, Hid (xs.length = len) := ⟨_, rfl⟩
 rw [HL.out] at hl ⊢
 go_enter Tryz.func85, Tryz.ntmps85
 go_wp2_with (first
  | (go_at_call 114; refine (hZ _ _ _).mono ?_; rintro e w' ⟨rfl, rfl⟩; rw [HR.out])
  | (at_make; refine ck rfl _ _ 52 rfl 5 i0 Tryz.underlying52 hi hz0 hz1 hz2 .i64 .i64 len (len + 4) _ _ rfl rfl rfl (by omega) (by omega) (by omega) ?_; intro w1 hg1 hb1 hs1)
  | (with_reducible refine wpList_copy_splice (o := ⟨some 24, _, _, _, _, _⟩) rfl (.tmp 22) (.tmp 23) 52 52 rfl 5 Tryz.underlying52 (by kernel_rfl) _ _ len (len + 4) len cap rfl rfl w.heap.size 0 (Q2 (len + 4) (.int .u8 0)) 5 hg1.out (vals xs) (by rw [co, HL.out]; exact (Q3 len).symm) ?c1 ?c2 (jK xs) w.heap.size w hb1 (Q0 _) ?c3))
 case c1 =>
  intro hp
  obtain ⟨b, off, e, _, hc⟩ := (HX.out.below (hb1.mono hB)) (by simpa [vals] using hp)
  refine ⟨_, e, fun j u hu => ?_⟩
  have hj : j < xs.length := by
   rcases Q4 j xs.length with h1 | h1
   ·exact h1
   ·rw [Q1 (by simpa [vals] using h1)] at hu; cases hu
  rw [ez xs j hj] at hu
  injection hu with hu
  subst hu
  rw [add_plain]
  exact hc j hj
 case c2 => simp [vals, HL.out]
 case c3 =>
  intro w2 hg2 hb2
  have HO : Hid (OwnB 5 w2 w.heap.size (.slice (some ⟨w.heap.size, 0, none⟩) xs.length (len + 4)) xs) :=
   Lib.hid (OwnB.of_block hg2.out (Q0 _) (by rw [length_splice _ _ _ (by simp [vals, HL.out])]; simp) (by unfold maxLen; omega) (by rw [HL.out]; omega)
    (by unfold splice; rw [<- co xs]; simp))
  rw [HL.out] at HO
  clear hg2 hg1 hb1 hs1 HR
  go_wp2
  go_loopw [7, 26] (fun v i wr => ∃ j : Int, 0 <= j /\ j <= 4 /\ i = .int .i64 j /\ OwnB 5 wr w.heap.size v (xs ++ aL n 4 j.toNat) /\ Below w.heap.size w wr) (fun _ i _ => 4 - (intOf i).toNat)
  case atStart => exact ⟨0, by omega, by omega, rfl, by simpa [aL] using HO.out, hb2⟩
  case round =>
   obtain ⟨j, hj0, hj4, rfl, hown, hbw⟩ := hrel
   have HW := Lib.hid hown
   have HB := Lib.hid hbw
   clear hown hbw hb2 HO
   have hj : j = 0 \/ j = 1 \/ j = 2 \/ j = 3 \/ j = 4 := by omega
   rcases hj with rfl | rfl | rfl | rfl | rfl
   ·go_wp2_with (at_builtin; refine ar rfl (.tmp 29) (.tmp 38) 52 rfl w.heap.size 5 i0 Tryz.underlying52 hi hz0 hz1 hz2 _ (xs ++ aL n 4 0) (cj n 3) _ (by rw [aO]; simp) rfl HW.out rfl (by simp [aH, HL.out]; omega) HB.out.size w HB.out ?_; intro v3 w3 ho3 hb3)
    go_roundw
    case rel => exact ⟨1, by omega, by omega, rfl, by simpa [aL] using ho3, hb3⟩
    case measure => simp [intOf]
   ·go_wp2_with (at_builtin; refine ar rfl (.tmp 29) (.tmp 38) 52 rfl w.heap.size 5 i0 Tryz.underlying52 hi hz0 hz1 hz2 _ (xs ++ aL n 4 1) (cj n 2) _ (by rw [aO]; simp) rfl HW.out rfl (by simp [aH, HL.out]; omega) HB.out.size w HB.out ?_; intro v3 w3 ho3 hb3)
    go_roundw
    case rel => exact ⟨2, by omega, by omega, rfl, by simpa [aL] using ho3, hb3⟩
    case measure => simp [intOf]
   ·go_wp2_with (at_builtin; refine ar rfl (.tmp 29) (.tmp 38) 52 rfl w.heap.size 5 i0 Tryz.underlying52 hi hz0 hz1 hz2 _ (xs ++ aL n 4 2) (cj n 1) _ (by rw [aO]; simp) rfl HW.out rfl (by simp [aH, HL.out]; omega) HB.out.size w HB.out ?_; intro v3 w3 ho3 hb3)
    go_roundw
    case rel => exact ⟨3, by omega, by omega, rfl, by simpa [aL] using ho3, hb3⟩
    case measure => simp [intOf]
   ·go_wp2_with (at_builtin; refine ar rfl (.tmp 29) (.tmp 38) 52 rfl w.heap.size 5 i0 Tryz.underlying52 hi hz0 hz1 hz2 _ (xs ++ aL n 4 3) (cj n 0) _ (by rw [aO]; simp) rfl HW.out rfl (by simp [aH, HL.out]; omega) HB.out.size w HB.out ?_; intro v3 w3 ho3 hb3)
    go_roundw
    case rel => exact ⟨4, by omega, by omega, rfl, by simpa [aL] using ho3, hb3⟩
    case measure => simp [intOf]
   ·go_wp2
    go_ret
    exact Made.of ⟨_, rfl, HW.out, HB.out⟩
theorem CD (B : Nat) (a : Option Addr) (cap : Nat) (xs : List UInt8) (n size : Int) (w : World) (h : BytesAt w B a xs) (hc : a = none -> cap = 0) (hl : xs.length <= 140737488351232) (hr : aV n size = false) :
  Calls Tryz.prog 85 #[.slice a xs.length cap, .int .i64 n, .int .i64 size] w (Made xs w) := by
 obtain ⟨i0, hi, hz0, hz1, hz2⟩ := info_parts byte_info
 have HR := Lib.hid hr; have HX := Lib.hid h; have HC := Lib.hid hc; have HM := Lib.hid hl
 clear hr h hc hl
 go_enter Tryz.func85, Tryz.ntmps85
 go_wp2_with (first
  | (go_at_call 114; refine (hZ _ _ _).mono ?_; rintro e w' ⟨rfl, rfl⟩; rw [HR.out])
  | (at_builtin; refine bu rfl _ _ 52 rfl w.heap.size 5 i0 Tryz.underlying52 hi hz0 hz1 hz2 (.slice none 0 0) [] rfl (World.ownsRow_nil _ _ _ _) B _ cap xs rfl HX.out HC.out (by have := HM.out; simp; omega) (Q0 _) ?_; intro v3 w3 ho3 hg3 _))
 have HO := Lib.hid ho3
 clear ho3
 go_ret
 exact Made.of ⟨_, rfl, HO.out, (Below.refl _ _).grown hg3 (Q0 _) (by simp [Value.ownBlock])⟩
theorem Cp (B : Nat) (a : Option Addr) (cap : Nat) (xs : List UInt8) (n size : Int) (w : World) (h : BytesAt w B a xs) (hB : B <= w.heap.size) (hc : a = none -> cap = 0) (hl : xs.length <= 140737488351232) :
  Calls Tryz.prog 85 #[.slice a xs.length cap, .int .i64 n, .int .i64 size] w (Made (bo xs n size) w) := by
 cases hr : aV n size with
 | false => rw [bo, if_neg (by simp [hr])]; exact CD B a cap xs n size w h hc hl hr
 | true =>
  rw [bo, if_pos hr]
  have hs : szB size = true := by
   cases hs : szB size with
   | true => rfl
   | false => simp [aV, hs] at hr
  rcases dM hs with rfl | rfl | rfl
  ·exact KG B a cap xs n w h hB hl hr
  ·exact Jw B a cap xs n w h hB hl hr
  ·exact Ko B a cap xs n w h hB hl hr
theorem AH (w : World) : Calls Tryz.prog 118 #[.int .i64 0] w fun e w' => e = .returned (.int .i64 1) /\ w = w' := ml 0 w (by omega)
theorem JZ (w : World) : Calls Tryz.prog 118 #[.int .i64 3] w fun e w' => e = .returned (.int .i64 16777216) /\ w = w' := ml 3 w (by omega)
theorem iE {n size : Int} (h : aV n size = true) : -(iv size / 2) <= n /\ n < iv size := by
 simp [aV] at h; exact h.2
set_option maxHeartbeats 400000 in
theorem F6 (B : Nat) (a : Option Addr) (cap : Nat) (xs : List UInt8) (n : Int) (w : World) (h : BytesAt w B a xs) (hc : a = none -> cap = 0) (hl : xs.length <= 140737488351232) (hr : aV n 1 = true) :
  Calls Tryz.prog 88 #[.slice a xs.length cap, .int .i64 n, .int .i64 1] w (Made (xs ++ aL n 1 1) w) := by
 obtain ⟨i0, hi, hz0, hz1, hz2⟩ := info_parts byte_info
 have hbd : -128 <= n /\ n < 256 := iE hr
 have HR := Lib.hid hr; have HX := Lib.hid h; have HC := Lib.hid hc
 obtain ⟨h1, h2⟩ := hbd
 clear hr h hc
 obtain ⟨len, HL⟩ : ∃ len, Hid (xs.length = len) := ⟨_, rfl⟩
 have HM : Hid (xs.length <= 140737488351232) := Lib.hid hl
 rw [HL.out] at hl
 by_cases hn : n < 0
 all_goals
  go_enter Tryz.func88, Tryz.ntmps88
  go_wp2_with (first
   | (go_at_call 117; refine (ja _ _ _).mono ?_; rintro e w' ⟨rfl, rfl⟩; rw [HR.out])
   | (go_at_call 118; refine (uh _).mono ?_; rintro e w' ⟨rfl, rfl⟩)
   | (at_builtin; refine bu rfl _ _ 52 rfl w.heap.size 5 i0 Tryz.underlying52 hi hz0 hz1 hz2 (.slice none 0 0) [] rfl (World.ownsRow_nil _ _ _ _) B _ cap xs rfl HX.out HC.out (by have := HM.out; simp; omega) (Q0 _) ?_; intro v1 w1 ho1 hg1 _; have HO := Lib.hid ho1; clear ho1))
  have HB1 := Lib.hid ((Below.refl w.heap.size w).grown hg1 (Q0 _) (by simp [Value.ownBlock]))
  clear hg1
  go_loopw [7, 8] (fun v i wr => ∃ j : Int, 0 <= j /\ j <= 1 /\ i = .int .i64 (0 - j) /\ OwnB 5 wr w.heap.size v (xs ++ aL n 1 j.toNat) /\ Below w.heap.size w wr) (fun _ i _ => (intOf i + 1).toNat)
  case atStart => exact ⟨0, by omega, by omega, rfl, by simpa [aL] using HO.out, HB1.out⟩
  case round =>
   obtain ⟨j, hj0, hj4, rfl, hown, hbw⟩ := hrel
   have HW := Lib.hid hown
   have HB := Lib.hid hbw
   clear hown hbw HB1 HO
   have hj : j = 0 \/ j = 1 := by omega
   rcases hj with rfl | rfl
   ·go_wp2_with (first
     | (go_at_call 118; refine (AH _).mono ?_; rintro e w' ⟨rfl, rfl⟩)
     | (at_builtin; refine ar rfl (.tmp 28) (.tmp 35) 52 rfl w.heap.size 5 i0 Tryz.underlying52 hi hz0 hz1 hz2 _ (xs ++ aL n 1 0) (cj n 0) _ (by rw [aO]; simp <;> omega) rfl HW.out rfl (by simp [aH, HL.out]; omega) HB.out.size w HB.out ?_; intro v3 w3 ho3 hb3))
    go_roundw
    case rel => exact ⟨1, by omega, by omega, rfl, by simpa [aL] using ho3, hb3⟩
    case measure => simp [intOf]
   ·go_wp2
    go_ret
    exact Made.of ⟨_, rfl, HW.out, HB.out⟩
set_option maxHeartbeats 400000 in
theorem Gc (B : Nat) (a : Option Addr) (cap : Nat) (xs : List UInt8) (n : Int) (w : World) (h : BytesAt w B a xs) (hc : a = none -> cap = 0) (hl : xs.length <= 140737488351232) (hr : aV n 2 = true) :
  Calls Tryz.prog 88 #[.slice a xs.length cap, .int .i64 n, .int .i64 2] w (Made (xs ++ aL n 2 2) w) := by
 obtain ⟨i0, hi, hz0, hz1, hz2⟩ := info_parts byte_info
 have hbd : -32768 <= n /\ n < 65536 := iE hr
 have HR := Lib.hid hr; have HX := Lib.hid h; have HC := Lib.hid hc
 obtain ⟨h1, h2⟩ := hbd
 clear hr h hc
 obtain ⟨len, HL⟩ : ∃ len, Hid (xs.length = len) := ⟨_, rfl⟩
 have HM : Hid (xs.length <= 140737488351232) := Lib.hid hl
 rw [HL.out] at hl
 by_cases hn : n < 0
 all_goals
  go_enter Tryz.func88, Tryz.ntmps88
  go_wp2_with (first
   | (go_at_call 117; refine (ja _ _ _).mono ?_; rintro e w' ⟨rfl, rfl⟩; rw [HR.out])
   | (go_at_call 118; refine (xe _).mono ?_; rintro e w' ⟨rfl, rfl⟩)
   | (at_builtin; refine bu rfl _ _ 52 rfl w.heap.size 5 i0 Tryz.underlying52 hi hz0 hz1 hz2 (.slice none 0 0) [] rfl (World.ownsRow_nil _ _ _ _) B _ cap xs rfl HX.out HC.out (by have := HM.out; simp; omega) (Q0 _) ?_; intro v1 w1 ho1 hg1 _; have HO := Lib.hid ho1; clear ho1))
  have HB1 := Lib.hid ((Below.refl w.heap.size w).grown hg1 (Q0 _) (by simp [Value.ownBlock]))
  clear hg1
  go_loopw [7, 8] (fun v i wr => ∃ j : Int, 0 <= j /\ j <= 2 /\ i = .int .i64 (1 - j) /\ OwnB 5 wr w.heap.size v (xs ++ aL n 2 j.toNat) /\ Below w.heap.size w wr) (fun _ i _ => (intOf i + 1).toNat)
  case atStart => exact ⟨0, by omega, by omega, rfl, by simpa [aL] using HO.out, HB1.out⟩
  case round =>
   obtain ⟨j, hj0, hj4, rfl, hown, hbw⟩ := hrel
   have HW := Lib.hid hown
   have HB := Lib.hid hbw
   clear hown hbw HB1 HO
   have hj : j = 0 \/ j = 1 \/ j = 2 := by omega
   rcases hj with rfl | rfl | rfl
   ·go_wp2_with (first
     | (go_at_call 118; refine (uh _).mono ?_; rintro e w' ⟨rfl, rfl⟩)
     | (at_builtin; refine ar rfl (.tmp 28) (.tmp 35) 52 rfl w.heap.size 5 i0 Tryz.underlying52 hi hz0 hz1 hz2 _ (xs ++ aL n 2 0) (cj n 1) _ (by rw [aO]; simp <;> omega) rfl HW.out rfl (by simp [aH, HL.out]; omega) HB.out.size w HB.out ?_; intro v3 w3 ho3 hb3))
    go_roundw
    case rel => exact ⟨1, by omega, by omega, rfl, by simpa [aL] using ho3, hb3⟩
    case measure => simp [intOf]
   ·go_wp2_with (first
     | (go_at_call 118; refine (AH _).mono ?_; rintro e w' ⟨rfl, rfl⟩)
     | (at_builtin; refine ar rfl (.tmp 28) (.tmp 35) 52 rfl w.heap.size 5 i0 Tryz.underlying52 hi hz0 hz1 hz2 _ (xs ++ aL n 2 1) (cj n 0) _ (by rw [aO]; simp <;> omega) rfl HW.out rfl (by simp [aH, HL.out]; omega) HB.out.size w HB.out ?_; intro v3 w3 ho3 hb3))
    go_roundw
    case rel => exact ⟨2, by omega, by omega, rfl, by simpa [aL] using ho3, hb3⟩
    case measure => simp [intOf]
   ·go_wp2
    go_ret
    exact Made.of ⟨_, rfl, HW.out, HB.out⟩
set_option maxHeartbeats 400000 in
theorem EE (B : Nat) (a : Option Addr) (cap : Nat) (xs : List UInt8) (n : Int) (w : World) (h : BytesAt w B a xs) (hc : a = none -> cap = 0) (hl : xs.length <= 140737488351232) (hr : aV n 4 = true) :
  Calls Tryz.prog 88 #[.slice a xs.length cap, .int .i64 n, .int .i64 4] w (Made (xs ++ aL n 4 4) w) := by
 obtain ⟨i0, hi, hz0, hz1, hz2⟩ := info_parts byte_info
 have hbd : -2147483648 <= n /\ n < 4294967296 := iE hr
 have HR := Lib.hid hr; have HX := Lib.hid h; have HC := Lib.hid hc
 obtain ⟨h1, h2⟩ := hbd
 clear hr h hc
 obtain ⟨len, HL⟩ : ∃ len, Hid (xs.length = len) := ⟨_, rfl⟩
 have HM : Hid (xs.length <= 140737488351232) := Lib.hid hl
 rw [HL.out] at hl
 by_cases hn : n < 0
 all_goals
  go_enter Tryz.func88, Tryz.ntmps88
  go_wp2_with (first
   | (go_at_call 117; refine (ja _ _ _).mono ?_; rintro e w' ⟨rfl, rfl⟩; rw [HR.out])
   | (go_at_call 118; refine (Bh _).mono ?_; rintro e w' ⟨rfl, rfl⟩)
   | (at_builtin; refine bu rfl _ _ 52 rfl w.heap.size 5 i0 Tryz.underlying52 hi hz0 hz1 hz2 (.slice none 0 0) [] rfl (World.ownsRow_nil _ _ _ _) B _ cap xs rfl HX.out HC.out (by have := HM.out; simp; omega) (Q0 _) ?_; intro v1 w1 ho1 hg1 _; have HO := Lib.hid ho1; clear ho1))
  have HB1 := Lib.hid ((Below.refl w.heap.size w).grown hg1 (Q0 _) (by simp [Value.ownBlock]))
  clear hg1
  go_loopw [7, 8] (fun v i wr => ∃ j : Int, 0 <= j /\ j <= 4 /\ i = .int .i64 (3 - j) /\ OwnB 5 wr w.heap.size v (xs ++ aL n 4 j.toNat) /\ Below w.heap.size w wr) (fun _ i _ => (intOf i + 1).toNat)
  case atStart => exact ⟨0, by omega, by omega, rfl, by simpa [aL] using HO.out, HB1.out⟩
  case round =>
   obtain ⟨j, hj0, hj4, rfl, hown, hbw⟩ := hrel
   have HW := Lib.hid hown
   have HB := Lib.hid hbw
   clear hown hbw HB1 HO
   have hj : j = 0 \/ j = 1 \/ j = 2 \/ j = 3 \/ j = 4 := by omega
   rcases hj with rfl | rfl | rfl | rfl | rfl
   ·go_wp2_with (first
     | (go_at_call 118; refine (JZ _).mono ?_; rintro e w' ⟨rfl, rfl⟩)
     | (at_builtin; refine ar rfl (.tmp 28) (.tmp 35) 52 rfl w.heap.size 5 i0 Tryz.underlying52 hi hz0 hz1 hz2 _ (xs ++ aL n 4 0) (cj n 3) _ (by rw [aO]; simp <;> omega) rfl HW.out rfl (by simp [aH, HL.out]; omega) HB.out.size w HB.out ?_; intro v3 w3 ho3 hb3))
    go_roundw
    case rel => exact ⟨1, by omega, by omega, rfl, by simpa [aL] using ho3, hb3⟩
    case measure => simp [intOf]
   ·go_wp2_with (first
     | (go_at_call 118; refine (xe _).mono ?_; rintro e w' ⟨rfl, rfl⟩)
     | (at_builtin; refine ar rfl (.tmp 28) (.tmp 35) 52 rfl w.heap.size 5 i0 Tryz.underlying52 hi hz0 hz1 hz2 _ (xs ++ aL n 4 1) (cj n 2) _ (by rw [aO]; simp <;> omega) rfl HW.out rfl (by simp [aH, HL.out]; omega) HB.out.size w HB.out ?_; intro v3 w3 ho3 hb3))
    go_roundw
    case rel => exact ⟨2, by omega, by omega, rfl, by simpa [aL] using ho3, hb3⟩
    case measure => simp [intOf]
   ·go_wp2_with (first
     | (go_at_call 118; refine (uh _).mono ?_; rintro e w' ⟨rfl, rfl⟩)
     | (at_builtin; refine ar rfl (.tmp 28) (.tmp 35) 52 rfl w.heap.size 5 i0 Tryz.underlying52 hi hz0 hz1 hz2 _ (xs ++ aL n 4 2) (cj n 1) _ (by rw [aO]; simp <;> omega) rfl HW.out rfl (by simp [aH, HL.out]; omega) HB.out.size w HB.out ?_; intro v3 w3 ho3 hb3))
    go_roundw
    case rel => exact ⟨3, by omega, by omega, rfl, by simpa [aL] using ho3, hb3⟩
    case measure => simp [intOf]
   ·go_wp2_with (first
     | (go_at_call 118; refine (AH _).mono ?_; rintro e w' ⟨rfl, rfl⟩)
     | (at_builtin; refine ar rfl (.tmp 28) (.tmp 35) 52 rfl w.heap.size 5 i0 Tryz.underlying52 hi hz0 hz1 hz2 _ (xs ++ aL n 4 3) (cj n 0) _ (by rw [aO]; simp <;> omega) rfl HW.out rfl (by simp [aH, HL.out]; omega) HB.out.size w HB.out ?_; intro v3 w3 ho3 hb3))
    go_roundw
    case rel => exact ⟨4, by omega, by omega, rfl, by simpa [aL] using ho3, hb3⟩
    case measure => simp [intOf]
   ·go_wp2
    go_ret
    exact Made.of ⟨_, rfl, HW.out, HB.out⟩
theorem Ak (B : Nat) (a : Option Addr) (cap : Nat) (xs : List UInt8) (n size : Int) (w : World) (h : BytesAt w B a xs) (hc : a = none -> cap = 0) (hl : xs.length <= 140737488351232) (hr : aV n size = false) :
  Calls Tryz.prog 88 #[.slice a xs.length cap, .int .i64 n, .int .i64 size] w (Made xs w) := by
 obtain ⟨i0, hi, hz0, hz1, hz2⟩ := info_parts byte_info
 have HR := Lib.hid hr; have HX := Lib.hid h; have HC := Lib.hid hc; have HM := Lib.hid hl
 clear hr h hc hl
 go_enter Tryz.func88, Tryz.ntmps88
 go_wp2_with (first
  | (go_at_call 117; refine (ja _ _ _).mono ?_; rintro e w' ⟨rfl, rfl⟩; rw [HR.out])
  | (at_builtin; refine bu rfl _ _ 52 rfl w.heap.size 5 i0 Tryz.underlying52 hi hz0 hz1 hz2 (.slice none 0 0) [] rfl (World.ownsRow_nil _ _ _ _) B _ cap xs rfl HX.out HC.out (by have := HM.out; simp; omega) (Q0 _) ?_; intro v3 w3 ho3 hg3 _; have HO := Lib.hid ho3; clear ho3))
 go_ret
 exact Made.of ⟨_, rfl, HO.out, (Below.refl _ _).grown hg3 (Q0 _) (by simp [Value.ownBlock])⟩
theorem BA (B : Nat) (a : Option Addr) (cap : Nat) (xs : List UInt8) (n size : Int) (w : World) (h : BytesAt w B a xs) (hc : a = none -> cap = 0) (hl : xs.length <= 140737488351232) :
  Calls Tryz.prog 88 #[.slice a xs.length cap, .int .i64 n, .int .i64 size] w (Made (bo xs n size) w) := by
 cases hr : aV n size with
 | false => rw [bo, if_neg (by simp [hr])]; exact Ak B a cap xs n size w h hc hl hr
 | true =>
  rw [bo, if_pos hr]
  have hs : szB size = true := by
   cases hs : szB size with
   | true => rfl
   | false => simp [aV, hs] at hr
  rcases dM hs with rfl | rfl | rfl
  ·exact F6 B a cap xs n w h hc hl hr
  ·exact Gc B a cap xs n w h hc hl hr
  ·exact EE B a cap xs n w h hc hl hr
end Go.Proofs.YtdfgljojemmlcaaGreat.Nm
