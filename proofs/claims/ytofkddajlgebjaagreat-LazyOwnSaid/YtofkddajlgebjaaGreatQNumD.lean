/- The contracts of the two functions that put a number behind bytes (num.Put and the document's answer). -/
import Derived.Test.YtofkddajlgebjaaGreatRows
import Derived.Test.YtofkddajlgebjaaGreatQElems
import Derived.Test.YtofkddajlgebjaaGreatQNumB
/- The contract of bytes.Equal at slices that hold bytes, and what it means that a call made new bytes. -/
namespace Go.Proofs.YtofkddajlgebjaaGreat.Nm
set_option maxRecDepth 100000
open Go.RowKit Go By

theorem byte_info : (Tryz.prog.info? 5).map (fun i => (i.zero, i.size, i.bytes)) = some (some (.int .u8 0), 1, 1) := by kernel_rfl

/-- A call made this: the value holds the bytes, in memory of the call's own; what was there is as it was. -/
def Made (xs : List UInt8) (w : World) (e : Ending) (w' : World) : Prop :=
  ∃ a cap, e = .returned (.slice a xs.length cap) ∧ (a = none → cap = 0) ∧ OwnB 5 w' w.heap.size (.slice a xs.length cap) xs ∧ BytesAt w' w'.heap.size a xs ∧ Below w.heap.size w w'
theorem Made.of {xs : List UInt8} {w w' : World} {e : Ending} (h : ∃ v, e = .returned v ∧ OwnB 5 w' w.heap.size v xs ∧ Below w.heap.size w w') : Made xs w e w' := by
  obtain ⟨v, he, ho, hb⟩ := h
  obtain ⟨a, cap, rfl, _, _, hc⟩ := ho.at_
  refine ⟨a, cap, he, fun hn => ?_, ho, hc, hb⟩
  subst hn
  rcases ho.2 with ⟨h1, _⟩ | ⟨g, _, _, h1, _⟩
  · injection h1
  · injection h1 with h1; cases h1

end Go.Proofs.YtofkddajlgebjaaGreat.Nm
namespace Go.Proofs.YtofkddajlgebjaaGreat.Nm
set_option maxRecDepth 100000
open Go.RowKit Go By

/-- Byte number k of n, the lowest is number 0. -/
def putByte (n : Int) (k : Nat) : UInt8 := UInt8.ofNat (n / 256 ^ k % 256).toNat
theorem putByte_val (n : Int) (k : Nat) : ((putByte n k).toNat : Int) = n / 256 ^ k % 256 := by
  unfold putByte
  have h : 0 ≤ n / 256 ^ k % 256 ∧ n / 256 ^ k % 256 < 256 := by omega
  rw [UInt8.toNat_ofNat']
  omega
/-- The first j of the size bytes of n. -/
def putTo (n : Int) (size : Nat) : Nat → List UInt8
  | 0 => []
  | j + 1 => putTo n size j ++ [putByte n (size - 1 - j)]
theorem putTo_length (n : Int) (size : Nat) : ∀ j, (putTo n size j).length = j
  | 0 => rfl
  | j + 1 => by rw [putTo, List.length_append, putTo_length n size j]; rfl
/-- What Put answers. -/
def putL (xs : List UInt8) (n size : Int) : List UInt8 := if rightB n size = true then xs ++ putTo n size.toNat size.toNat else xs

set_option maxHeartbeats 400000 in
theorem put_1 (B : Nat) (a : Option Addr) (cap : Nat) (xs : List UInt8) (n : Int) (w : World) (h : BytesAt w B a xs) (hB : B ≤ w.heap.size) (hl : xs.length ≤ 140737488351232) (hr : rightB n 1 = true) :
    Calls Tryz.prog 33 #[.slice a xs.length cap, .int .i64 n, .int .i64 1] w (Made (xs ++ putTo n 1 1) w) := by
  obtain ⟨i0, hi, hz0, hz1, hz2⟩ := info_parts byte_info
  have HR := Lib.hid hr; have HX := Lib.hid h
  clear hr h
  obtain ⟨len, HL⟩ : ∃ len, Hid (xs.length = len) := ⟨_, rfl⟩
  rw [HL.out] at hl ⊢
  go_enter Tryz.func33, Tryz.ntmps33
  go_wp2_with (first
    | (go_at_call 49; refine (right_any _ _ _).mono ?_; rintro e w' ⟨rfl, rfl⟩; rw [HR.out])
    | (at_make; refine wpList_make_bytes rfl _ _ 30 rfl 5 i0 Tryz.underlying30 hi hz0 hz1 hz2 .i64 .i64 len (len + 1) _ _ rfl rfl rfl (by omega) (by omega) (by omega) ?_; intro w1 hg1 hb1 hs1)
    | (with_reducible refine wpList_copy_splice (o := ⟨some 24, _, _, _, _, _⟩) rfl (.tmp 22) (.tmp 23) 30 30 rfl 5 Tryz.underlying30 (by kernel_rfl) _ _ len (len + 1) len cap rfl rfl w.heap.size 0 (List.replicate (len + 1) (.int .u8 0)) 5 hg1.out (vals xs) (by rw [vals_length, HL.out]; exact (Nat.min_self len).symm) ?c1 ?c2 (vals_one xs) w.heap.size w hb1 (Nat.le_refl _) ?c3))
  case c1 =>
    intro hp
    obtain ⟨b, off, e, _, hc⟩ := (HX.out.below (hb1.mono hB)) (by simpa [vals] using hp)
    refine ⟨_, e, fun j u hu => ?_⟩
    have hj : j < xs.length := by
      rcases Nat.lt_or_ge j xs.length with h1 | h1
      · exact h1
      · rw [List.getElem?_eq_none (by simpa [vals] using h1)] at hu; cases hu
    rw [vals_at xs j hj] at hu
    injection hu with hu
    subst hu
    rw [add_plain]
    exact hc j hj
  case c2 => simp [vals, HL.out]
  case c3 =>
    intro w2 hg2 hb2
    have HO : Hid (OwnB 5 w2 w.heap.size (.slice (some ⟨w.heap.size, 0, none⟩) xs.length (len + 1)) xs) :=
      Lib.hid (OwnB.of_block hg2.out (Nat.le_refl _) (by rw [length_splice _ _ _ (by simp [vals, HL.out])]; simp) (by unfold maxLen; omega) (by rw [HL.out]; omega)
        (by unfold splice; rw [← vals_length xs]; simp))
    rw [HL.out] at HO
    clear hg2 hg1 hb1 hs1 HR
    go_wp2
    go_loopw [7, 26] (fun v i wr => ∃ j : Int, 0 ≤ j ∧ j ≤ 1 ∧ i = .int .i64 j ∧ OwnB 5 wr w.heap.size v (xs ++ putTo n 1 j.toNat) ∧ Below w.heap.size w wr) (fun _ i _ => 1 - (intOf i).toNat)
    case atStart => exact ⟨0, by omega, by omega, rfl, by simpa [putTo] using HO.out, hb2⟩
    case round =>
      obtain ⟨j, hj0, hj4, rfl, hown, hbw⟩ := hrel
      have HW := Lib.hid hown
      have HB := Lib.hid hbw
      clear hown hbw hb2 HO
      have hj : j = 0 ∨ j = 1 := by omega
      rcases hj with rfl | rfl
      · go_wp2_with (at_builtin; refine wpList_append_byte rfl (.tmp 29) (.tmp 38) 30 rfl w.heap.size 5 i0 Tryz.underlying30 hi hz0 hz1 hz2 _ (xs ++ putTo n 1 0) (putByte n 0) _ (by rw [putByte_val]; simp) rfl HW.out rfl (by simp [putTo_length, HL.out]; omega) HB.out.size w HB.out ?_; intro v3 w3 ho3 hb3)
        go_roundw
        case rel => exact ⟨1, by omega, by omega, rfl, by simpa [putTo] using ho3, hb3⟩
        case measure => simp [intOf]
      · go_wp2
        go_ret
        exact Made.of ⟨_, rfl, HW.out, HB.out⟩

set_option maxHeartbeats 400000 in
theorem put_2 (B : Nat) (a : Option Addr) (cap : Nat) (xs : List UInt8) (n : Int) (w : World) (h : BytesAt w B a xs) (hB : B ≤ w.heap.size) (hl : xs.length ≤ 140737488351232) (hr : rightB n 2 = true) :
    Calls Tryz.prog 33 #[.slice a xs.length cap, .int .i64 n, .int .i64 2] w (Made (xs ++ putTo n 2 2) w) := by
  obtain ⟨i0, hi, hz0, hz1, hz2⟩ := info_parts byte_info
  have HR := Lib.hid hr; have HX := Lib.hid h
  clear hr h
  obtain ⟨len, HL⟩ : ∃ len, Hid (xs.length = len) := ⟨_, rfl⟩
  rw [HL.out] at hl ⊢
  go_enter Tryz.func33, Tryz.ntmps33
  go_wp2_with (first
    | (go_at_call 49; refine (right_any _ _ _).mono ?_; rintro e w' ⟨rfl, rfl⟩; rw [HR.out])
    | (at_make; refine wpList_make_bytes rfl _ _ 30 rfl 5 i0 Tryz.underlying30 hi hz0 hz1 hz2 .i64 .i64 len (len + 2) _ _ rfl rfl rfl (by omega) (by omega) (by omega) ?_; intro w1 hg1 hb1 hs1)
    | (with_reducible refine wpList_copy_splice (o := ⟨some 24, _, _, _, _, _⟩) rfl (.tmp 22) (.tmp 23) 30 30 rfl 5 Tryz.underlying30 (by kernel_rfl) _ _ len (len + 2) len cap rfl rfl w.heap.size 0 (List.replicate (len + 2) (.int .u8 0)) 5 hg1.out (vals xs) (by rw [vals_length, HL.out]; exact (Nat.min_self len).symm) ?c1 ?c2 (vals_one xs) w.heap.size w hb1 (Nat.le_refl _) ?c3))
  case c1 =>
    intro hp
    obtain ⟨b, off, e, _, hc⟩ := (HX.out.below (hb1.mono hB)) (by simpa [vals] using hp)
    refine ⟨_, e, fun j u hu => ?_⟩
    have hj : j < xs.length := by
      rcases Nat.lt_or_ge j xs.length with h1 | h1
      · exact h1
      · rw [List.getElem?_eq_none (by simpa [vals] using h1)] at hu; cases hu
    rw [vals_at xs j hj] at hu
    injection hu with hu
    subst hu
    rw [add_plain]
    exact hc j hj
  case c2 => simp [vals, HL.out]
  case c3 =>
    intro w2 hg2 hb2
    have HO : Hid (OwnB 5 w2 w.heap.size (.slice (some ⟨w.heap.size, 0, none⟩) xs.length (len + 2)) xs) :=
      Lib.hid (OwnB.of_block hg2.out (Nat.le_refl _) (by rw [length_splice _ _ _ (by simp [vals, HL.out])]; simp) (by unfold maxLen; omega) (by rw [HL.out]; omega)
        (by unfold splice; rw [← vals_length xs]; simp))
    rw [HL.out] at HO
    clear hg2 hg1 hb1 hs1 HR
    go_wp2
    go_loopw [7, 26] (fun v i wr => ∃ j : Int, 0 ≤ j ∧ j ≤ 2 ∧ i = .int .i64 j ∧ OwnB 5 wr w.heap.size v (xs ++ putTo n 2 j.toNat) ∧ Below w.heap.size w wr) (fun _ i _ => 2 - (intOf i).toNat)
    case atStart => exact ⟨0, by omega, by omega, rfl, by simpa [putTo] using HO.out, hb2⟩
    case round =>
      obtain ⟨j, hj0, hj4, rfl, hown, hbw⟩ := hrel
      have HW := Lib.hid hown
      have HB := Lib.hid hbw
      clear hown hbw hb2 HO
      have hj : j = 0 ∨ j = 1 ∨ j = 2 := by omega
      rcases hj with rfl | rfl | rfl
      · go_wp2_with (at_builtin; refine wpList_append_byte rfl (.tmp 29) (.tmp 38) 30 rfl w.heap.size 5 i0 Tryz.underlying30 hi hz0 hz1 hz2 _ (xs ++ putTo n 2 0) (putByte n 1) _ (by rw [putByte_val]; simp) rfl HW.out rfl (by simp [putTo_length, HL.out]; omega) HB.out.size w HB.out ?_; intro v3 w3 ho3 hb3)
        go_roundw
        case rel => exact ⟨1, by omega, by omega, rfl, by simpa [putTo] using ho3, hb3⟩
        case measure => simp [intOf]
      · go_wp2_with (at_builtin; refine wpList_append_byte rfl (.tmp 29) (.tmp 38) 30 rfl w.heap.size 5 i0 Tryz.underlying30 hi hz0 hz1 hz2 _ (xs ++ putTo n 2 1) (putByte n 0) _ (by rw [putByte_val]; simp) rfl HW.out rfl (by simp [putTo_length, HL.out]; omega) HB.out.size w HB.out ?_; intro v3 w3 ho3 hb3)
        go_roundw
        case rel => exact ⟨2, by omega, by omega, rfl, by simpa [putTo] using ho3, hb3⟩
        case measure => simp [intOf]
      · go_wp2
        go_ret
        exact Made.of ⟨_, rfl, HW.out, HB.out⟩

set_option maxHeartbeats 400000 in
theorem put_4 (B : Nat) (a : Option Addr) (cap : Nat) (xs : List UInt8) (n : Int) (w : World) (h : BytesAt w B a xs) (hB : B ≤ w.heap.size) (hl : xs.length ≤ 140737488351232) (hr : rightB n 4 = true) :
    Calls Tryz.prog 33 #[.slice a xs.length cap, .int .i64 n, .int .i64 4] w (Made (xs ++ putTo n 4 4) w) := by
  obtain ⟨i0, hi, hz0, hz1, hz2⟩ := info_parts byte_info
  have HR := Lib.hid hr; have HX := Lib.hid h
  clear hr h
  obtain ⟨len, HL⟩ : ∃ len, Hid (xs.length = len) := ⟨_, rfl⟩
  rw [HL.out] at hl ⊢
  go_enter Tryz.func33, Tryz.ntmps33
  go_wp2_with (first
    | (go_at_call 49; refine (right_any _ _ _).mono ?_; rintro e w' ⟨rfl, rfl⟩; rw [HR.out])
    | (at_make; refine wpList_make_bytes rfl _ _ 30 rfl 5 i0 Tryz.underlying30 hi hz0 hz1 hz2 .i64 .i64 len (len + 4) _ _ rfl rfl rfl (by omega) (by omega) (by omega) ?_; intro w1 hg1 hb1 hs1)
    | (with_reducible refine wpList_copy_splice (o := ⟨some 24, _, _, _, _, _⟩) rfl (.tmp 22) (.tmp 23) 30 30 rfl 5 Tryz.underlying30 (by kernel_rfl) _ _ len (len + 4) len cap rfl rfl w.heap.size 0 (List.replicate (len + 4) (.int .u8 0)) 5 hg1.out (vals xs) (by rw [vals_length, HL.out]; exact (Nat.min_self len).symm) ?c1 ?c2 (vals_one xs) w.heap.size w hb1 (Nat.le_refl _) ?c3))
  case c1 =>
    intro hp
    obtain ⟨b, off, e, _, hc⟩ := (HX.out.below (hb1.mono hB)) (by simpa [vals] using hp)
    refine ⟨_, e, fun j u hu => ?_⟩
    have hj : j < xs.length := by
      rcases Nat.lt_or_ge j xs.length with h1 | h1
      · exact h1
      · rw [List.getElem?_eq_none (by simpa [vals] using h1)] at hu; cases hu
    rw [vals_at xs j hj] at hu
    injection hu with hu
    subst hu
    rw [add_plain]
    exact hc j hj
  case c2 => simp [vals, HL.out]
  case c3 =>
    intro w2 hg2 hb2
    have HO : Hid (OwnB 5 w2 w.heap.size (.slice (some ⟨w.heap.size, 0, none⟩) xs.length (len + 4)) xs) :=
      Lib.hid (OwnB.of_block hg2.out (Nat.le_refl _) (by rw [length_splice _ _ _ (by simp [vals, HL.out])]; simp) (by unfold maxLen; omega) (by rw [HL.out]; omega)
        (by unfold splice; rw [← vals_length xs]; simp))
    rw [HL.out] at HO
    clear hg2 hg1 hb1 hs1 HR
    go_wp2
    go_loopw [7, 26] (fun v i wr => ∃ j : Int, 0 ≤ j ∧ j ≤ 4 ∧ i = .int .i64 j ∧ OwnB 5 wr w.heap.size v (xs ++ putTo n 4 j.toNat) ∧ Below w.heap.size w wr) (fun _ i _ => 4 - (intOf i).toNat)
    case atStart => exact ⟨0, by omega, by omega, rfl, by simpa [putTo] using HO.out, hb2⟩
    case round =>
      obtain ⟨j, hj0, hj4, rfl, hown, hbw⟩ := hrel
      have HW := Lib.hid hown
      have HB := Lib.hid hbw
      clear hown hbw hb2 HO
      have hj : j = 0 ∨ j = 1 ∨ j = 2 ∨ j = 3 ∨ j = 4 := by omega
      rcases hj with rfl | rfl | rfl | rfl | rfl
      · go_wp2_with (at_builtin; refine wpList_append_byte rfl (.tmp 29) (.tmp 38) 30 rfl w.heap.size 5 i0 Tryz.underlying30 hi hz0 hz1 hz2 _ (xs ++ putTo n 4 0) (putByte n 3) _ (by rw [putByte_val]; simp) rfl HW.out rfl (by simp [putTo_length, HL.out]; omega) HB.out.size w HB.out ?_; intro v3 w3 ho3 hb3)
        go_roundw
        case rel => exact ⟨1, by omega, by omega, rfl, by simpa [putTo] using ho3, hb3⟩
        case measure => simp [intOf]
      · go_wp2_with (at_builtin; refine wpList_append_byte rfl (.tmp 29) (.tmp 38) 30 rfl w.heap.size 5 i0 Tryz.underlying30 hi hz0 hz1 hz2 _ (xs ++ putTo n 4 1) (putByte n 2) _ (by rw [putByte_val]; simp) rfl HW.out rfl (by simp [putTo_length, HL.out]; omega) HB.out.size w HB.out ?_; intro v3 w3 ho3 hb3)
        go_roundw
        case rel => exact ⟨2, by omega, by omega, rfl, by simpa [putTo] using ho3, hb3⟩
        case measure => simp [intOf]
      · go_wp2_with (at_builtin; refine wpList_append_byte rfl (.tmp 29) (.tmp 38) 30 rfl w.heap.size 5 i0 Tryz.underlying30 hi hz0 hz1 hz2 _ (xs ++ putTo n 4 2) (putByte n 1) _ (by rw [putByte_val]; simp) rfl HW.out rfl (by simp [putTo_length, HL.out]; omega) HB.out.size w HB.out ?_; intro v3 w3 ho3 hb3)
        go_roundw
        case rel => exact ⟨3, by omega, by omega, rfl, by simpa [putTo] using ho3, hb3⟩
        case measure => simp [intOf]
      · go_wp2_with (at_builtin; refine wpList_append_byte rfl (.tmp 29) (.tmp 38) 30 rfl w.heap.size 5 i0 Tryz.underlying30 hi hz0 hz1 hz2 _ (xs ++ putTo n 4 3) (putByte n 0) _ (by rw [putByte_val]; simp) rfl HW.out rfl (by simp [putTo_length, HL.out]; omega) HB.out.size w HB.out ?_; intro v3 w3 ho3 hb3)
        go_roundw
        case rel => exact ⟨4, by omega, by omega, rfl, by simpa [putTo] using ho3, hb3⟩
        case measure => simp [intOf]
      · go_wp2
        go_ret
        exact Made.of ⟨_, rfl, HW.out, HB.out⟩

theorem put_not (B : Nat) (a : Option Addr) (cap : Nat) (xs : List UInt8) (n size : Int) (w : World) (h : BytesAt w B a xs) (hc : a = none → cap = 0) (hl : xs.length ≤ 140737488351232) (hr : rightB n size = false) :
    Calls Tryz.prog 33 #[.slice a xs.length cap, .int .i64 n, .int .i64 size] w (Made xs w) := by
  obtain ⟨i0, hi, hz0, hz1, hz2⟩ := info_parts byte_info
  have HR := Lib.hid hr; have HX := Lib.hid h; have HC := Lib.hid hc; have HM := Lib.hid hl
  clear hr h hc hl
  go_enter Tryz.func33, Tryz.ntmps33
  go_wp2_with (first
    | (go_at_call 49; refine (right_any _ _ _).mono ?_; rintro e w' ⟨rfl, rfl⟩; rw [HR.out])
    | (at_builtin; refine wpList_append_bytes rfl _ _ 30 rfl w.heap.size 5 i0 Tryz.underlying30 hi hz0 hz1 hz2 (.slice none 0 0) [] rfl (World.ownsRow_nil _ _ _ _) B _ cap xs rfl HX.out HC.out (by have := HM.out; simp; omega) (Nat.le_refl _) ?_; intro v3 w3 ho3 hg3 _))
  have HO := Lib.hid ho3
  clear ho3
  go_ret
  exact Made.of ⟨_, rfl, HO.out, (Below.refl _ _).grown hg3 (Nat.le_refl _) (by simp [Value.ownBlock])⟩

theorem put_any (B : Nat) (a : Option Addr) (cap : Nat) (xs : List UInt8) (n size : Int) (w : World) (h : BytesAt w B a xs) (hB : B ≤ w.heap.size) (hc : a = none → cap = 0) (hl : xs.length ≤ 140737488351232) :
    Calls Tryz.prog 33 #[.slice a xs.length cap, .int .i64 n, .int .i64 size] w (Made (putL xs n size) w) := by
  cases hr : rightB n size with
  | false => rw [putL, if_neg (by simp [hr])]; exact put_not B a cap xs n size w h hc hl hr
  | true =>
    rw [putL, if_pos hr]
    have hs : szB size = true := by
      cases hs : szB size with
      | true => rfl
      | false => simp [rightB, hs] at hr
    rcases szB_cases hs with rfl | rfl | rfl
    · exact put_1 B a cap xs n w h hB hl hr
    · exact put_2 B a cap xs n w h hB hl hr
    · exact put_4 B a cap xs n w h hB hl hr

theorem pow_0 (w : World) : Calls Tryz.prog 64 #[.int .i64 0] w fun e w' => e = .returned (.int .i64 1) ∧ w = w' := pow_any 0 w (by omega)
theorem pow_3 (w : World) : Calls Tryz.prog 64 #[.int .i64 3] w fun e w' => e = .returned (.int .i64 16777216) ∧ w = w' := pow_any 3 w (by omega)
theorem right_bounds {n size : Int} (h : rightB n size = true) : -(powI size / 2) ≤ n ∧ n < powI size := by
  simp [rightB] at h; exact h.2

set_option maxHeartbeats 400000 in
theorem rput_1 (B : Nat) (a : Option Addr) (cap : Nat) (xs : List UInt8) (n : Int) (w : World) (h : BytesAt w B a xs) (hc : a = none → cap = 0) (hl : xs.length ≤ 140737488351232) (hr : rightB n 1 = true) :
    Calls Tryz.prog 41 #[.slice a xs.length cap, .int .i64 n, .int .i64 1] w (Made (xs ++ putTo n 1 1) w) := by
  obtain ⟨i0, hi, hz0, hz1, hz2⟩ := info_parts byte_info
  have hbd : -128 ≤ n ∧ n < 256 := right_bounds hr
  have HR := Lib.hid hr; have HX := Lib.hid h; have HC := Lib.hid hc
  obtain ⟨h1, h2⟩ := hbd
  clear hr h hc
  obtain ⟨len, HL⟩ : ∃ len, Hid (xs.length = len) := ⟨_, rfl⟩
  have HM : Hid (xs.length ≤ 140737488351232) := Lib.hid hl
  rw [HL.out] at hl
  by_cases hn : n < 0
  all_goals
    go_enter Tryz.func41, Tryz.ntmps41
    go_wp2_with (first
      | (go_at_call 63; refine (rright_any _ _ _).mono ?_; rintro e w' ⟨rfl, rfl⟩; rw [HR.out])
      | (go_at_call 64; refine (pow_1 _).mono ?_; rintro e w' ⟨rfl, rfl⟩)
      | (at_builtin; refine wpList_append_bytes rfl _ _ 30 rfl w.heap.size 5 i0 Tryz.underlying30 hi hz0 hz1 hz2 (.slice none 0 0) [] rfl (World.ownsRow_nil _ _ _ _) B _ cap xs rfl HX.out HC.out (by have := HM.out; simp; omega) (Nat.le_refl _) ?_; intro v1 w1 ho1 hg1 _; have HO := Lib.hid ho1; clear ho1))
    have HB1 := Lib.hid ((Below.refl w.heap.size w).grown hg1 (Nat.le_refl _) (by simp [Value.ownBlock]))
    clear hg1
    go_loopw [7, 8] (fun v i wr => ∃ j : Int, 0 ≤ j ∧ j ≤ 1 ∧ i = .int .i64 (0 - j) ∧ OwnB 5 wr w.heap.size v (xs ++ putTo n 1 j.toNat) ∧ Below w.heap.size w wr) (fun _ i _ => (intOf i + 1).toNat)
    case atStart => exact ⟨0, by omega, by omega, rfl, by simpa [putTo] using HO.out, HB1.out⟩
    case round =>
      obtain ⟨j, hj0, hj4, rfl, hown, hbw⟩ := hrel
      have HW := Lib.hid hown
      have HB := Lib.hid hbw
      clear hown hbw HB1 HO
      have hj : j = 0 ∨ j = 1 := by omega
      rcases hj with rfl | rfl
      · go_wp2_with (first
          | (go_at_call 64; refine (pow_0 _).mono ?_; rintro e w' ⟨rfl, rfl⟩)
          | (at_builtin; refine wpList_append_byte rfl (.tmp 28) (.tmp 35) 30 rfl w.heap.size 5 i0 Tryz.underlying30 hi hz0 hz1 hz2 _ (xs ++ putTo n 1 0) (putByte n 0) _ (by rw [putByte_val]; simp <;> omega) rfl HW.out rfl (by simp [putTo_length, HL.out]; omega) HB.out.size w HB.out ?_; intro v3 w3 ho3 hb3))
        go_roundw
        case rel => exact ⟨1, by omega, by omega, rfl, by simpa [putTo] using ho3, hb3⟩
        case measure => simp [intOf]
      · go_wp2
        go_ret
        exact Made.of ⟨_, rfl, HW.out, HB.out⟩

set_option maxHeartbeats 400000 in
theorem rput_2 (B : Nat) (a : Option Addr) (cap : Nat) (xs : List UInt8) (n : Int) (w : World) (h : BytesAt w B a xs) (hc : a = none → cap = 0) (hl : xs.length ≤ 140737488351232) (hr : rightB n 2 = true) :
    Calls Tryz.prog 41 #[.slice a xs.length cap, .int .i64 n, .int .i64 2] w (Made (xs ++ putTo n 2 2) w) := by
  obtain ⟨i0, hi, hz0, hz1, hz2⟩ := info_parts byte_info
  have hbd : -32768 ≤ n ∧ n < 65536 := right_bounds hr
  have HR := Lib.hid hr; have HX := Lib.hid h; have HC := Lib.hid hc
  obtain ⟨h1, h2⟩ := hbd
  clear hr h hc
  obtain ⟨len, HL⟩ : ∃ len, Hid (xs.length = len) := ⟨_, rfl⟩
  have HM : Hid (xs.length ≤ 140737488351232) := Lib.hid hl
  rw [HL.out] at hl
  by_cases hn : n < 0
  all_goals
    go_enter Tryz.func41, Tryz.ntmps41
    go_wp2_with (first
      | (go_at_call 63; refine (rright_any _ _ _).mono ?_; rintro e w' ⟨rfl, rfl⟩; rw [HR.out])
      | (go_at_call 64; refine (pow_2 _).mono ?_; rintro e w' ⟨rfl, rfl⟩)
      | (at_builtin; refine wpList_append_bytes rfl _ _ 30 rfl w.heap.size 5 i0 Tryz.underlying30 hi hz0 hz1 hz2 (.slice none 0 0) [] rfl (World.ownsRow_nil _ _ _ _) B _ cap xs rfl HX.out HC.out (by have := HM.out; simp; omega) (Nat.le_refl _) ?_; intro v1 w1 ho1 hg1 _; have HO := Lib.hid ho1; clear ho1))
    have HB1 := Lib.hid ((Below.refl w.heap.size w).grown hg1 (Nat.le_refl _) (by simp [Value.ownBlock]))
    clear hg1
    go_loopw [7, 8] (fun v i wr => ∃ j : Int, 0 ≤ j ∧ j ≤ 2 ∧ i = .int .i64 (1 - j) ∧ OwnB 5 wr w.heap.size v (xs ++ putTo n 2 j.toNat) ∧ Below w.heap.size w wr) (fun _ i _ => (intOf i + 1).toNat)
    case atStart => exact ⟨0, by omega, by omega, rfl, by simpa [putTo] using HO.out, HB1.out⟩
    case round =>
      obtain ⟨j, hj0, hj4, rfl, hown, hbw⟩ := hrel
      have HW := Lib.hid hown
      have HB := Lib.hid hbw
      clear hown hbw HB1 HO
      have hj : j = 0 ∨ j = 1 ∨ j = 2 := by omega
      rcases hj with rfl | rfl | rfl
      · go_wp2_with (first
          | (go_at_call 64; refine (pow_1 _).mono ?_; rintro e w' ⟨rfl, rfl⟩)
          | (at_builtin; refine wpList_append_byte rfl (.tmp 28) (.tmp 35) 30 rfl w.heap.size 5 i0 Tryz.underlying30 hi hz0 hz1 hz2 _ (xs ++ putTo n 2 0) (putByte n 1) _ (by rw [putByte_val]; simp <;> omega) rfl HW.out rfl (by simp [putTo_length, HL.out]; omega) HB.out.size w HB.out ?_; intro v3 w3 ho3 hb3))
        go_roundw
        case rel => exact ⟨1, by omega, by omega, rfl, by simpa [putTo] using ho3, hb3⟩
        case measure => simp [intOf]
      · go_wp2_with (first
          | (go_at_call 64; refine (pow_0 _).mono ?_; rintro e w' ⟨rfl, rfl⟩)
          | (at_builtin; refine wpList_append_byte rfl (.tmp 28) (.tmp 35) 30 rfl w.heap.size 5 i0 Tryz.underlying30 hi hz0 hz1 hz2 _ (xs ++ putTo n 2 1) (putByte n 0) _ (by rw [putByte_val]; simp <;> omega) rfl HW.out rfl (by simp [putTo_length, HL.out]; omega) HB.out.size w HB.out ?_; intro v3 w3 ho3 hb3))
        go_roundw
        case rel => exact ⟨2, by omega, by omega, rfl, by simpa [putTo] using ho3, hb3⟩
        case measure => simp [intOf]
      · go_wp2
        go_ret
        exact Made.of ⟨_, rfl, HW.out, HB.out⟩

set_option maxHeartbeats 400000 in
theorem rput_4 (B : Nat) (a : Option Addr) (cap : Nat) (xs : List UInt8) (n : Int) (w : World) (h : BytesAt w B a xs) (hc : a = none → cap = 0) (hl : xs.length ≤ 140737488351232) (hr : rightB n 4 = true) :
    Calls Tryz.prog 41 #[.slice a xs.length cap, .int .i64 n, .int .i64 4] w (Made (xs ++ putTo n 4 4) w) := by
  obtain ⟨i0, hi, hz0, hz1, hz2⟩ := info_parts byte_info
  have hbd : -2147483648 ≤ n ∧ n < 4294967296 := right_bounds hr
  have HR := Lib.hid hr; have HX := Lib.hid h; have HC := Lib.hid hc
  obtain ⟨h1, h2⟩ := hbd
  clear hr h hc
  obtain ⟨len, HL⟩ : ∃ len, Hid (xs.length = len) := ⟨_, rfl⟩
  have HM : Hid (xs.length ≤ 140737488351232) := Lib.hid hl
  rw [HL.out] at hl
  by_cases hn : n < 0
  all_goals
    go_enter Tryz.func41, Tryz.ntmps41
    go_wp2_with (first
      | (go_at_call 63; refine (rright_any _ _ _).mono ?_; rintro e w' ⟨rfl, rfl⟩; rw [HR.out])
      | (go_at_call 64; refine (pow_4 _).mono ?_; rintro e w' ⟨rfl, rfl⟩)
      | (at_builtin; refine wpList_append_bytes rfl _ _ 30 rfl w.heap.size 5 i0 Tryz.underlying30 hi hz0 hz1 hz2 (.slice none 0 0) [] rfl (World.ownsRow_nil _ _ _ _) B _ cap xs rfl HX.out HC.out (by have := HM.out; simp; omega) (Nat.le_refl _) ?_; intro v1 w1 ho1 hg1 _; have HO := Lib.hid ho1; clear ho1))
    have HB1 := Lib.hid ((Below.refl w.heap.size w).grown hg1 (Nat.le_refl _) (by simp [Value.ownBlock]))
    clear hg1
    go_loopw [7, 8] (fun v i wr => ∃ j : Int, 0 ≤ j ∧ j ≤ 4 ∧ i = .int .i64 (3 - j) ∧ OwnB 5 wr w.heap.size v (xs ++ putTo n 4 j.toNat) ∧ Below w.heap.size w wr) (fun _ i _ => (intOf i + 1).toNat)
    case atStart => exact ⟨0, by omega, by omega, rfl, by simpa [putTo] using HO.out, HB1.out⟩
    case round =>
      obtain ⟨j, hj0, hj4, rfl, hown, hbw⟩ := hrel
      have HW := Lib.hid hown
      have HB := Lib.hid hbw
      clear hown hbw HB1 HO
      have hj : j = 0 ∨ j = 1 ∨ j = 2 ∨ j = 3 ∨ j = 4 := by omega
      rcases hj with rfl | rfl | rfl | rfl | rfl
      · go_wp2_with (first
          | (go_at_call 64; refine (pow_3 _).mono ?_; rintro e w' ⟨rfl, rfl⟩)
          | (at_builtin; refine wpList_append_byte rfl (.tmp 28) (.tmp 35) 30 rfl w.heap.size 5 i0 Tryz.underlying30 hi hz0 hz1 hz2 _ (xs ++ putTo n 4 0) (putByte n 3) _ (by rw [putByte_val]; simp <;> omega) rfl HW.out rfl (by simp [putTo_length, HL.out]; omega) HB.out.size w HB.out ?_; intro v3 w3 ho3 hb3))
        go_roundw
        case rel => exact ⟨1, by omega, by omega, rfl, by simpa [putTo] using ho3, hb3⟩
        case measure => simp [intOf]
      · go_wp2_with (first
          | (go_at_call 64; refine (pow_2 _).mono ?_; rintro e w' ⟨rfl, rfl⟩)
          | (at_builtin; refine wpList_append_byte rfl (.tmp 28) (.tmp 35) 30 rfl w.heap.size 5 i0 Tryz.underlying30 hi hz0 hz1 hz2 _ (xs ++ putTo n 4 1) (putByte n 2) _ (by rw [putByte_val]; simp <;> omega) rfl HW.out rfl (by simp [putTo_length, HL.out]; omega) HB.out.size w HB.out ?_; intro v3 w3 ho3 hb3))
        go_roundw
        case rel => exact ⟨2, by omega, by omega, rfl, by simpa [putTo] using ho3, hb3⟩
        case measure => simp [intOf]
      · go_wp2_with (first
          | (go_at_call 64; refine (pow_1 _).mono ?_; rintro e w' ⟨rfl, rfl⟩)
          | (at_builtin; refine wpList_append_byte rfl (.tmp 28) (.tmp 35) 30 rfl w.heap.size 5 i0 Tryz.underlying30 hi hz0 hz1 hz2 _ (xs ++ putTo n 4 2) (putByte n 1) _ (by rw [putByte_val]; simp <;> omega) rfl HW.out rfl (by simp [putTo_length, HL.out]; omega) HB.out.size w HB.out ?_; intro v3 w3 ho3 hb3))
        go_roundw
        case rel => exact ⟨3, by omega, by omega, rfl, by simpa [putTo] using ho3, hb3⟩
        case measure => simp [intOf]
      · go_wp2_with (first
          | (go_at_call 64; refine (pow_0 _).mono ?_; rintro e w' ⟨rfl, rfl⟩)
          | (at_builtin; refine wpList_append_byte rfl (.tmp 28) (.tmp 35) 30 rfl w.heap.size 5 i0 Tryz.underlying30 hi hz0 hz1 hz2 _ (xs ++ putTo n 4 3) (putByte n 0) _ (by rw [putByte_val]; simp <;> omega) rfl HW.out rfl (by simp [putTo_length, HL.out]; omega) HB.out.size w HB.out ?_; intro v3 w3 ho3 hb3))
        go_roundw
        case rel => exact ⟨4, by omega, by omega, rfl, by simpa [putTo] using ho3, hb3⟩
        case measure => simp [intOf]
      · go_wp2
        go_ret
        exact Made.of ⟨_, rfl, HW.out, HB.out⟩

theorem rput_not (B : Nat) (a : Option Addr) (cap : Nat) (xs : List UInt8) (n size : Int) (w : World) (h : BytesAt w B a xs) (hc : a = none → cap = 0) (hl : xs.length ≤ 140737488351232) (hr : rightB n size = false) :
    Calls Tryz.prog 41 #[.slice a xs.length cap, .int .i64 n, .int .i64 size] w (Made xs w) := by
  obtain ⟨i0, hi, hz0, hz1, hz2⟩ := info_parts byte_info
  have HR := Lib.hid hr; have HX := Lib.hid h; have HC := Lib.hid hc; have HM := Lib.hid hl
  clear hr h hc hl
  go_enter Tryz.func41, Tryz.ntmps41
  go_wp2_with (first
    | (go_at_call 63; refine (rright_any _ _ _).mono ?_; rintro e w' ⟨rfl, rfl⟩; rw [HR.out])
    | (at_builtin; refine wpList_append_bytes rfl _ _ 30 rfl w.heap.size 5 i0 Tryz.underlying30 hi hz0 hz1 hz2 (.slice none 0 0) [] rfl (World.ownsRow_nil _ _ _ _) B _ cap xs rfl HX.out HC.out (by have := HM.out; simp; omega) (Nat.le_refl _) ?_; intro v3 w3 ho3 hg3 _; have HO := Lib.hid ho3; clear ho3))
  go_ret
  exact Made.of ⟨_, rfl, HO.out, (Below.refl _ _).grown hg3 (Nat.le_refl _) (by simp [Value.ownBlock])⟩

theorem rput_any (B : Nat) (a : Option Addr) (cap : Nat) (xs : List UInt8) (n size : Int) (w : World) (h : BytesAt w B a xs) (hc : a = none → cap = 0) (hl : xs.length ≤ 140737488351232) :
    Calls Tryz.prog 41 #[.slice a xs.length cap, .int .i64 n, .int .i64 size] w (Made (putL xs n size) w) := by
  cases hr : rightB n size with
  | false => rw [putL, if_neg (by simp [hr])]; exact rput_not B a cap xs n size w h hc hl hr
  | true =>
    rw [putL, if_pos hr]
    have hs : szB size = true := by
      cases hs : szB size with
      | true => rfl
      | false => simp [rightB, hs] at hr
    rcases szB_cases hs with rfl | rfl | rfl
    · exact rput_1 B a cap xs n w h hc hl hr
    · exact rput_2 B a cap xs n w h hc hl hr
    · exact rput_4 B a cap xs n w h hc hl hr
end Go.Proofs.YtofkddajlgebjaaGreat.Nm
