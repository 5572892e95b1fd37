/- What a message's bytes are as a framer reads them; the contract of the statements' 'same'. -/
import Derived.Test.YtlffnhfnbdpghaaFrameE
namespace Go.Proofs.Ytlffnhfnbdpghaa.Fr
open Go.RowKit Go By Nm

theorem getI_behind (xs ys : List UInt8) : ∀ j, getI (xs ++ ys) xs.length j = getI ys 0 j
  | 0 => rfl
  | j + 1 => by rw [getI, getI, getI_behind xs ys j, byteAt_append_right, Nat.zero_add]
theorem getI_front (xs ys : List UInt8) (i : Nat) : ∀ j, i + j ≤ xs.length → getI (xs ++ ys) i j = getI xs i j
  | 0, _ => rfl
  | j + 1, h => by rw [getI, getI, getI_front xs ys i j (by omega), byteAt_append_left xs ys _ (by omega)]
theorem getI_put4 (n : Int) : getI (putTo n 4 4) 0 4 = n % 4294967296 := by
  simp [getI, putTo, byteAt, putByte_val]; omega

/-- Has a message of this type one? -/
def typedB (k : Int) : Bool := !(k == 0)
theorem pre_len (k : Int) : (pre k).length = tsz (typedB k) := by
  unfold pre typedB tsz
  by_cases h : k = 0
  · subst h; rfl
  · have e : (k == 0) = false := by simpa using h
    rw [if_neg h, e]; rfl
theorem msgB_eq (k : Int) (ys : List UInt8) (hl : ys.length ≤ 1000000) : msgB k ys = pre k ++ (putTo ((ys.length : Int) + 4) 4 4 ++ ys) := by
  have hr : rightB ((ys.length : Int) + 4) 4 = true := by
    unfold rightB szB powI
    simp
    omega
  unfold msgB putL
  rw [if_pos hr, List.append_assoc]
  rfl
theorem msgB_len (k : Int) (ys : List UInt8) (hl : ys.length ≤ 1000000) : (msgB k ys).length = tsz (typedB k) + 4 + ys.length := by
  rw [msgB_eq k ys hl, List.length_append, List.length_append, putTo_length, pre_len]; omega
theorem len4_msg (k : Int) (ys : List UInt8) (hl : ys.length ≤ 1000000) : len4 (typedB k) (msgB k ys) = (ys.length : Int) + 4 := by
  unfold len4
  rw [msgB_eq k ys hl, ← pre_len, getI_behind, getI_front _ _ _ _ (by rw [putTo_length]; omega), getI_put4]
  omega
theorem hSize_msg (k most : Int) (ys : List UInt8) (hl : ys.length ≤ 1000000) (hm : (ys.length : Int) + 4 ≤ most) : hSize (typedB k) most (msgB k ys) = (msgB k ys).length := by
  have h1 := msgB_len k ys hl
  have h2 := len4_msg k ys hl
  rcases head_ways (typedB k) most (msgB k ys) with h | h | h | h <;> omega
theorem ty_msg (k : Int) (ys : List UInt8) (h0 : 0 ≤ k) (h1 : k < 256) : ty (typedB k) (msgB k ys) = k := by
  unfold ty typedB
  by_cases h : k = 0
  · subst h; rfl
  · have e : (k == 0) = false := by simpa using h
    rw [e]
    show byteAt (msgB k ys) 0 = k
    have e2 : ∃ r, msgB k ys = UInt8.ofNat k.toNat :: r := by
      unfold msgB putL pre
      rw [if_neg h]
      split <;> exact ⟨_, rfl⟩
    obtain ⟨r, e2⟩ := e2
    rw [e2]
    exact u8_back h0 h1
theorem drop_msg (k : Int) (ys : List UInt8) (hl : ys.length ≤ 1000000) : (msgB k ys).drop (tsz (typedB k) + 4) = ys := by
  rw [msgB_eq k ys hl, ← pre_len, ← List.drop_drop, List.drop_left]
  have := putTo_length ((ys.length : Int) + 4) 4 4
  rw [show (4 : Nat) = (putTo ((ys.length : Int) + 4) 4 4).length from this.symm]
  exact List.drop_left

theorem equal_n (B1 B2 : Nat) (a1 a2 : Option Addr) (n c1 c2 : Nat) (xs : List UInt8) (w : World) (h1 : BytesAt w B1 a1 xs) (h2 : BytesAt w B2 a2 xs) (hn : xs.length = n) :
    Calls Try.prog 16 #[.slice a1 n c1, .slice a2 n c2] w fun e w' => e = .returned (.bool true) ∧ w = w' := by
  subst hn
  exact (equal_any B1 B2 a1 a2 c1 c2 xs xs w h1 h2).mono fun _ _ ⟨he, hw⟩ => ⟨by rw [he]; simp, hw⟩
set_option maxHeartbeats 400000 in
theorem same_yes (k : Int) (B1 B2 : Nat) (a1 a2 : Option Addr) (n c1 c2 : Nat) (xs : List UInt8) (w : World) (h1 : BytesAt w B1 a1 xs) (hB1 : B1 ≤ w.heap.size) (h2 : BytesAt w B2 a2 xs) (hB2 : B2 ≤ w.heap.size) (hn : xs.length = n) :
    Calls Try.prog 33 #[.agg #[.int .u8 k, .slice a1 n c1], .agg #[.int .u8 k, .slice a2 n c2]] w fun e w' => e = .returned (.bool true) ∧ Below w.heap.size w w' := by
  have H1 := Lib.hid ((h1.alloc hB1 (.cells #[.int .u8 k, .slice a1 n c1] 49)).alloc (by simp; omega) (.cells #[.int .u8 k, .slice a2 n c2] 49))
  have H2 := Lib.hid ((h2.alloc hB2 (.cells #[.int .u8 k, .slice a1 n c1] 49)).alloc (by simp; omega) (.cells #[.int .u8 k, .slice a2 n c2] 49))
  have HN := Lib.hid hn
  clear h1 hB1 h2 hB2 hn
  go_enter Try.func33, Try.ntmps33
  go_wp2_with (go_at_call 16; refine (equal_n B1 B2 a1 a2 n c1 c2 xs _ H1.out H2.out HN.out).mono ?_; rintro e w' ⟨rfl, rfl⟩)
  go_ret
  exact ⟨rfl, ((Below.refl _ w).alloc (Nat.le_refl _) _).alloc (by simp) _⟩

/-- Two messages that lie in blocks of their own. -/
def Two (mb xb : Nat) (k : Int) (a a1 : Option Addr) (n c c1 : Nat) (W : World) : Prop :=
  W.cell? ⟨mb, 0, none⟩ = some (.int .u8 k) ∧ W.cell? ⟨mb, 1, none⟩ = some (.slice a n c) ∧ W.cell? ⟨xb, 0, none⟩ = some (.int .u8 k) ∧ W.cell? ⟨xb, 1, none⟩ = some (.slice a1 n c1)
theorem Two.below {mb xb : Nat} {k : Int} {a a1 : Option Addr} {n c c1 : Nat} {W w' : World} (h : Two mb xb k a a1 n c c1 W) (hb : Below W.heap.size W w') : Two mb xb k a a1 n c c1 w' :=
  ⟨(hb.cell (lt_of_cell h.1)).trans h.1, (hb.cell (lt_of_cell h.2.1)).trans h.2.1, (hb.cell (lt_of_cell h.2.2.1)).trans h.2.2.1, (hb.cell (lt_of_cell h.2.2.2)).trans h.2.2.2⟩
end Go.Proofs.Ytlffnhfnbdpghaa.Fr
