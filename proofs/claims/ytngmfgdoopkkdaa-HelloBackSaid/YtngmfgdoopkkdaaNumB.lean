/- The contracts of the two functions that read a number from bytes (num.Get and the document's answer): at any bytes, any place, any size they give the same number and the same error. -/
import Derived.Test.YtngmfgdoopkkdaaNumA
import Derived.Test.YtngmfgdoopkkdaaBytes
namespace Go.Proofs.Ytngmfgdoopkkdaa.Nm
set_option maxRecDepth 100000
open Go.RowKit Go By

/-- The error of a read: 1 (no size, or a place below 0), 3 (the bytes end too early), 0. -/
def getErr (len : Nat) (i size : Int) : Int := if szB size = false ∨ i < 0 then 1 else if i > len - size then 3 else 0
def getVal (xs : List UInt8) (i size : Int) : Int := if getErr xs.length i size = 0 then getI xs i.toNat size.toNat else 0
theorem getErr_arg {len : Nat} {i size : Int} (h : szB size = false ∨ i < 0) : getErr len i size = 1 := by
  unfold getErr; rw [if_pos h]
theorem getErr_short {len : Nat} {i size : Int} (hs : szB size = true) (h0 : 0 ≤ i) (h : (len : Int) - size < i) : getErr len i size = 3 := by
  have h1 : ¬ (szB size = false ∨ i < 0) := by simp [hs]; omega
  unfold getErr; rw [if_neg h1, if_pos h]
theorem getErr_ok {len i : Nat} {size : Nat} (hs : szB (size : Int) = true) (h : i + size ≤ len) : getErr len i size = 0 := by
  have h1 : ¬ (szB (size : Int) = false ∨ (i : Int) < 0) := by simp [hs]
  unfold getErr; rw [if_neg h1, if_neg (by omega)]
def gotten (xs : List UInt8) (i size : Int) : Value := .tuple #[.int .i64 (getVal xs i size), .int .i64 (getErr xs.length i size)]
theorem gotten_arg {xs : List UInt8} {i size : Int} (h : szB size = false ∨ i < 0) : gotten xs i size = .tuple #[.int .i64 0, .int .i64 1] := by
  unfold gotten getVal; rw [getErr_arg h]; rfl
theorem gotten_short {xs : List UInt8} {i size : Int} (hs : szB size = true) (h0 : 0 ≤ i) (h : (xs.length : Int) - size < i) : gotten xs i size = .tuple #[.int .i64 0, .int .i64 3] := by
  unfold gotten getVal; rw [getErr_short hs h0 h]; rfl
theorem gotten_ok {xs : List UInt8} {i size : Nat} (hs : szB (size : Int) = true) (h : i + size ≤ xs.length) : gotten xs i size = .tuple #[.int .i64 (getI xs i size), .int .i64 0] := by
  unfold gotten getVal; rw [getErr_ok hs h]; rfl
theorem szB_four {n : Int} (h : szB n = true) : 1 ≤ n ∧ n ≤ 4 := by have := szB_cases h; omega

set_option maxHeartbeats 400000 in
theorem get_ok (b off cap : Nat) (xs : List UInt8) (i size : Nat) (w : World) (hm : xs.length ≤ 9223372036854775807)
    (hc : ∀ j, j < xs.length → w.cell? ⟨b, off + j, none⟩ = some (.int .u8 (byteAt xs j))) (hs : szB (size : Int) = true) (h : i + size ≤ xs.length) :
    Calls Try.prog 71 #[.slice (some ⟨b, off, none⟩) xs.length cap, .int .i64 i, .int .i64 size] w fun e w' => e = .returned (.tuple #[.int .i64 (getI xs i size), .int .i64 0]) ∧ w = w' := by
  have h4 := szB_four hs
  obtain ⟨len, HL⟩ : ∃ len, Hid (xs.length = len) := ⟨_, rfl⟩
  rw [HL.out] at h hm ⊢
  have HS := Lib.hid hs; have HC := Lib.hid hc
  clear hs hc
  go_enter Try.func71, Try.ntmps71
  go_wp2_with (go_at_call 100; refine (isSize_any _ _).mono ?_; rintro e w' ⟨rfl, rfl⟩; rw [HS.out])
  go_loop [8, 24] (fun n k => ∃ j : Nat, j ≤ size ∧ k = .int .i64 j ∧ n = .int .i64 (getI xs i j)) (fun _ k => size - (intOf k).toNat)
  case atStart => exact ⟨0, Nat.zero_le _, rfl, rfl⟩
  case round =>
    obtain ⟨j, hj, rfl, rfl⟩ := hrel
    by_cases hlt : j < size
    · have hcell := HC.out (i + j) (by have := HL.out; omega)
      have hr := getI_lt3 xs i j (by omega)
      have hb := byteAt_range xs (i + j)
      have hor := or_byte (getI xs i j) (byteAt xs (i + j)) hr.1 hr.2 hb.1 hb.2
      have HO : Hid (getI xs i (j + 1) = getI xs i j * 256 + byteAt xs (i + j)) := rfl
      go_wp2
      go_round
      case rel => exact ⟨j + 1, by omega, by go_num, by rw [HO.out]⟩
      case measure => simp [intOf]; omega
    · obtain rfl : j = size := by omega
      go_wp2
      go_ret2
      exact ⟨rfl, rfl⟩

theorem get_arg (a : Option Addr) (len cap : Nat) (i size : Int) (w : World) (h : szB size = false ∨ i < 0) :
    Calls Try.prog 71 #[.slice a len cap, .int .i64 i, .int .i64 size] w fun e w' => e = .returned (.tuple #[.int .i64 0, .int .i64 1]) ∧ w = w' := by
  cases hs : szB size with
  | false =>
    have HS := Lib.hid hs
    clear hs h
    go_enter Try.func71, Try.ntmps71
    go_wp2_with (go_at_call 100; refine (isSize_any _ _).mono ?_; rintro e w' ⟨rfl, rfl⟩; rw [HS.out])
    go_ret2
    exact ⟨rfl, rfl⟩
  | true =>
    have hi : i < 0 := by simpa [hs] using h
    have HS := Lib.hid hs
    clear hs h
    go_enter Try.func71, Try.ntmps71
    go_wp2_with (go_at_call 100; refine (isSize_any _ _).mono ?_; rintro e w' ⟨rfl, rfl⟩; rw [HS.out])
    go_ret2
    exact ⟨rfl, rfl⟩

theorem get_short (a : Option Addr) (len cap : Nat) (i size : Int) (w : World) (hm : len ≤ 9223372036854775807) (hs : szB size = true) (h0 : 0 ≤ i) (h : (len : Int) - size < i) :
    Calls Try.prog 71 #[.slice a len cap, .int .i64 i, .int .i64 size] w fun e w' => e = .returned (.tuple #[.int .i64 0, .int .i64 3]) ∧ w = w' := by
  have h4 := szB_four hs
  have HS := Lib.hid hs
  clear hs
  go_enter Try.func71, Try.ntmps71
  go_wp2_with (go_at_call 100; refine (isSize_any _ _).mono ?_; rintro e w' ⟨rfl, rfl⟩; rw [HS.out])
  go_ret2
  exact ⟨rfl, rfl⟩

theorem get_any (B : Nat) (a : Option Addr) (cap : Nat) (xs : List UInt8) (i size : Int) (w : World) (hm : xs.length ≤ 9223372036854775807) (hb : BytesAt w B a xs) :
    Calls Try.prog 71 #[.slice a xs.length cap, .int .i64 i, .int .i64 size] w fun e w' => e = .returned (gotten xs i size) ∧ w = w' := by
  by_cases h1 : szB size = false ∨ i < 0
  · rw [gotten_arg h1]; exact get_arg a _ cap i size w h1
  · have hs : szB size = true := by cases h : szB size <;> simp_all
    have h0 : 0 ≤ i := by omega
    have h4 := szB_four hs
    by_cases h2 : (xs.length : Int) - size < i
    · rw [gotten_short hs h0 h2]; exact get_short a _ cap i size w hm hs h0 h2
    · obtain ⟨k, rfl⟩ := Int.eq_ofNat_of_zero_le h0
      obtain ⟨m, rfl⟩ := Int.eq_ofNat_of_zero_le (by omega : 0 ≤ size)
      obtain ⟨b, off, rfl, _, hc⟩ := hb (by omega)
      rw [gotten_ok hs (by omega)]
      exact get_ok b off cap xs k m w hm hc hs (by omega)

set_option maxHeartbeats 400000 in
theorem rget_ok (b off cap : Nat) (xs : List UInt8) (i size : Nat) (w : World) (hm : xs.length ≤ 9223372036854775807)
    (hc : ∀ j, j < xs.length → w.cell? ⟨b, off + j, none⟩ = some (.int .u8 (byteAt xs j))) (hs : szB (size : Int) = true) (h : i + size ≤ xs.length) :
    Calls Try.prog 75 #[.slice (some ⟨b, off, none⟩) xs.length cap, .int .i64 i, .int .i64 size] w fun e w' => e = .returned (.tuple #[.int .i64 (getI xs i size), .int .i64 0]) ∧ w = w' := by
  have h4 := szB_four hs
  obtain ⟨len, HL⟩ : ∃ len, Hid (xs.length = len) := ⟨_, rfl⟩
  rw [HL.out] at h hm ⊢
  have HS := Lib.hid hs; have HC := Lib.hid hc
  clear hs hc
  go_enter Try.func75, Try.ntmps75
  go_wp2_with (go_at_call 102; refine (sized_any _ _).mono ?_; rintro e w' ⟨rfl, rfl⟩; rw [HS.out])
  go_loop [8, 9] (fun n k => ∃ j : Nat, j ≤ size ∧ k = .int .i64 j ∧ n = .int .i64 (getI xs i j)) (fun _ k => size - (intOf k).toNat)
  case atStart => exact ⟨0, Nat.zero_le _, rfl, rfl⟩
  case round =>
    obtain ⟨j, hj, rfl, rfl⟩ := hrel
    by_cases hlt : j < size
    · have hcell := HC.out (i + j) (by have := HL.out; omega)
      have hr := getI_lt3 xs i j (by omega)
      have hb := byteAt_range xs (i + j)
      have hor := or_byte (getI xs i j) (byteAt xs (i + j)) hr.1 hr.2 hb.1 hb.2
      have HO : Hid (getI xs i (j + 1) = getI xs i j * 256 + byteAt xs (i + j)) := rfl
      go_wp2
      go_round
      case rel => exact ⟨j + 1, by omega, by go_num, by rw [HO.out]⟩
      case measure => simp [intOf]; omega
    · obtain rfl : j = size := by omega
      go_wp2
      go_ret2
      exact ⟨rfl, rfl⟩

theorem rget_arg (a : Option Addr) (len cap : Nat) (i size : Int) (w : World) (h : szB size = false ∨ i < 0) :
    Calls Try.prog 75 #[.slice a len cap, .int .i64 i, .int .i64 size] w fun e w' => e = .returned (.tuple #[.int .i64 0, .int .i64 1]) ∧ w = w' := by
  cases hs : szB size with
  | false =>
    have HS := Lib.hid hs
    clear hs h
    go_enter Try.func75, Try.ntmps75
    go_wp2_with (go_at_call 102; refine (sized_any _ _).mono ?_; rintro e w' ⟨rfl, rfl⟩; rw [HS.out])
    go_ret2
    exact ⟨rfl, rfl⟩
  | true =>
    have hi : i < 0 := by simpa [hs] using h
    have HS := Lib.hid hs
    clear hs h
    go_enter Try.func75, Try.ntmps75
    go_wp2_with (go_at_call 102; refine (sized_any _ _).mono ?_; rintro e w' ⟨rfl, rfl⟩; rw [HS.out])
    go_ret2
    exact ⟨rfl, rfl⟩

theorem rget_short (a : Option Addr) (len cap : Nat) (i size : Int) (w : World) (hm : len ≤ 9223372036854775807) (hs : szB size = true) (h0 : 0 ≤ i) (h : (len : Int) - size < i) :
    Calls Try.prog 75 #[.slice a len cap, .int .i64 i, .int .i64 size] w fun e w' => e = .returned (.tuple #[.int .i64 0, .int .i64 3]) ∧ w = w' := by
  have h4 := szB_four hs
  have HS := Lib.hid hs
  clear hs
  go_enter Try.func75, Try.ntmps75
  go_wp2_with (go_at_call 102; refine (sized_any _ _).mono ?_; rintro e w' ⟨rfl, rfl⟩; rw [HS.out])
  go_ret2
  exact ⟨rfl, rfl⟩

theorem rget_any (B : Nat) (a : Option Addr) (cap : Nat) (xs : List UInt8) (i size : Int) (w : World) (hm : xs.length ≤ 9223372036854775807) (hb : BytesAt w B a xs) :
    Calls Try.prog 75 #[.slice a xs.length cap, .int .i64 i, .int .i64 size] w fun e w' => e = .returned (gotten xs i size) ∧ w = w' := by
  by_cases h1 : szB size = false ∨ i < 0
  · rw [gotten_arg h1]; exact rget_arg a _ cap i size w h1
  · have hs : szB size = true := by cases h : szB size <;> simp_all
    have h0 : 0 ≤ i := by omega
    have h4 := szB_four hs
    by_cases h2 : (xs.length : Int) - size < i
    · rw [gotten_short hs h0 h2]; exact rget_short a _ cap i size w hm hs h0 h2
    · obtain ⟨k, rfl⟩ := Int.eq_ofNat_of_zero_le h0
      obtain ⟨m, rfl⟩ := Int.eq_ofNat_of_zero_le (by omega : 0 ≤ size)
      obtain ⟨b, off, rfl, _, hc⟩ := hb (by omega)
      rw [gotten_ok hs (by omega)]
      exact rget_ok b off cap xs k m w hm hc hs (by omega)
end Go.Proofs.Ytngmfgdoopkkdaa.Nm
