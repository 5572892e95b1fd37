/- The contracts of package frame's calls that ask (made, Size, typeSize, size of a head), and of New. -/
import Derived.Test.YtlffnhfnbdpghaaNumD
import Derived.Test.YtlffnhfnbdpghaaHold
namespace Go.Proofs.Ytlffnhfnbdpghaa.Fr
open Go.RowKit Go By Nm

/-- A framer at block g, whose bytes are of the call's own from block lo on. -/
def Framer (w : World) (g lo : Nat) (typed : Bool) (most room : Int) (xs : List UInt8) (wrong : Int) : Prop :=
  ∃ v, Blk w g 58 [.bool typed, .int .i64 most, .int .i64 room, v, .int .i64 wrong] ∧ Held w lo v xs ∧ g < lo
/-- A framer that no call made. -/
def Zero (w : World) (g : Nat) : Prop := Blk w g 58 [.bool false, .int .i64 0, .int .i64 0, .slice none 0 0, .int .i64 0]

theorem made_nil (w : World) : Calls Try.prog 40 #[.pointer none] w fun e w' => e = .returned (.bool false) ∧ w = w' := by
  go_enter Try.func40, Try.ntmps40
  go_wp2
  go_ret
  exact ⟨rfl, rfl⟩
theorem made_at (g : Nat) (w : World) (most : Int) (h : w.cell? ⟨g, 1, none⟩ = some (.int .i64 most)) :
    Calls Try.prog 40 #[.pointer (some ⟨g, 0, none⟩)] w fun e w' => e = .returned (.bool (decide (0 < most))) ∧ w = w' := by
  go_enter Try.func40, Try.ntmps40
  go_wp2
  go_ret
  exact ⟨rfl, rfl⟩
theorem made_zero (g : Nat) (w : World) (h : Zero w g) :
    Calls Try.prog 40 #[.pointer (some ⟨g, 0, none⟩)] w fun e w' => e = .returned (.bool false) ∧ w = w' := made_at g w 0 (Blk.cell h 1 _ rfl)
theorem made_yes (g lo : Nat) (typed : Bool) (most room : Int) (xs : List UInt8) (wrong : Int) (w : World) (h : Framer w g lo typed most room xs wrong) (hm : 0 < most) :
    Calls Try.prog 40 #[.pointer (some ⟨g, 0, none⟩)] w fun e w' => e = .returned (.bool true) ∧ w = w' := by
  obtain ⟨v, hb, _, _⟩ := h
  have := made_at g w most (hb.cell 1 _ rfl)
  rw [decide_eq_true hm] at this
  exact this

theorem size_nil (w : World) : Calls Try.prog 29 #[.pointer none] w fun e w' => e = .returned (.int .i64 0) ∧ w = w' := by
  go_enter Try.func29, Try.ntmps29
  go_wp2_with (go_at_call 40; refine (made_nil _).mono ?_; rintro e w' ⟨rfl, rfl⟩)
  go_ret
  exact ⟨rfl, rfl⟩
theorem size_zero (g : Nat) (w : World) (h : Zero w g) : Calls Try.prog 29 #[.pointer (some ⟨g, 0, none⟩)] w fun e w' => e = .returned (.int .i64 0) ∧ w = w' := by
  have H := Lib.hid h
  clear h
  go_enter Try.func29, Try.ntmps29
  go_wp2_with (go_at_call 40; refine (made_zero _ _ H.out).mono ?_; rintro e w' ⟨rfl, rfl⟩)
  go_ret
  exact ⟨rfl, rfl⟩
theorem size_yes (g lo : Nat) (typed : Bool) (most room : Int) (xs : List UInt8) (wrong : Int) (w : World) (h : Framer w g lo typed most room xs wrong) (hm : 0 < most) (n : Nat) (hn : xs.length = n) :
    Calls Try.prog 29 #[.pointer (some ⟨g, 0, none⟩)] w fun e w' => e = .returned (.int .i64 n) ∧ w = w' := by
  subst hn
  have H := Lib.hid h
  obtain ⟨v, hb, hv, _⟩ := h
  obtain ⟨a, c, rfl, _, _, _, _⟩ := hv.form
  have c3 := hb.cell 3 _ rfl
  clear hb hv
  go_enter Try.func29, Try.ntmps29
  go_wp2_with (go_at_call 40; refine (made_yes _ _ _ _ _ _ _ _ H.out hm).mono ?_; rintro e w' ⟨rfl, rfl⟩)
  go_ret
  exact ⟨rfl, rfl⟩

/-- How many bytes stand ahead of the length. -/
def tsz (typed : Bool) : Nat := if typed then 1 else 0
theorem typeSize_any (g : Nat) (typed : Bool) (w : World) (h : w.cell? ⟨g, 0, none⟩ = some (.bool typed)) :
    Calls Try.prog 53 #[.pointer (some ⟨g, 0, none⟩)] w fun e w' => e = .returned (.int .i64 (tsz typed)) ∧ w = w' := by
  cases typed with
  | false =>
    go_enter Try.func53, Try.ntmps53
    go_wp2
    go_ret
    exact ⟨rfl, rfl⟩
  | true =>
    go_enter Try.func53, Try.ntmps53
    go_wp2
    go_ret
    exact ⟨rfl, rfl⟩

/-- The length that bytes tell, their first message's error and its size (0: not there yet, or wrong). -/
def len4 (typed : Bool) (xs : List UInt8) : Int := getI xs (tsz typed) 4
def hErr (typed : Bool) (most : Int) (xs : List UInt8) : Int := if xs.length < tsz typed + 4 then 0 else if len4 typed xs < 4 then 4 else if most < len4 typed xs then 5 else 0
def hSize (typed : Bool) (most : Int) (xs : List UInt8) : Nat := if xs.length < tsz typed + 4 then 0 else if len4 typed xs < 4 then 0 else if most < len4 typed xs then 0 else tsz typed + (len4 typed xs).toNat
theorem tsz_le (typed : Bool) : tsz typed ≤ 1 := by cases typed <;> decide
theorem len4_range (typed : Bool) (xs : List UInt8) : 0 ≤ len4 typed xs ∧ len4 typed xs < 4294967296 := getI_lt xs _ 4 (Nat.le_refl _)
/-- The four ways of a head. -/
theorem head_ways (typed : Bool) (most : Int) (xs : List UInt8) :
    (xs.length < tsz typed + 4 ∧ hErr typed most xs = 0 ∧ hSize typed most xs = 0) ∨
    (tsz typed + 4 ≤ xs.length ∧ len4 typed xs < 4 ∧ hErr typed most xs = 4 ∧ hSize typed most xs = 0) ∨
    (tsz typed + 4 ≤ xs.length ∧ 4 ≤ len4 typed xs ∧ most < len4 typed xs ∧ hErr typed most xs = 5 ∧ hSize typed most xs = 0) ∨
    (tsz typed + 4 ≤ xs.length ∧ 4 ≤ len4 typed xs ∧ len4 typed xs ≤ most ∧ hErr typed most xs = 0 ∧ hSize typed most xs = tsz typed + (len4 typed xs).toNat) := by
  unfold hErr hSize
  by_cases h1 : xs.length < tsz typed + 4
  · left; simp [h1]
  · by_cases h2 : len4 typed xs < 4
    · right; left; simp [h1, h2]; omega
    · by_cases h3 : most < len4 typed xs
      · right; right; left; simp [h1, h2, h3]; omega
      · right; right; right; simp [h1, h2, h3]; omega

set_option maxHeartbeats 400000 in
theorem hsize_any (g : Nat) (typed : Bool) (most : Int) (B : Nat) (a : Option Addr) (c : Nat) (xs : List UInt8) (w : World) (h0 : w.cell? ⟨g, 0, none⟩ = some (.bool typed)) (h1 : w.cell? ⟨g, 1, none⟩ = some (.int .i64 most))
    (hx : BytesAt w B a xs) (hl : xs.length ≤ 140737488355328) :
    Calls Try.prog 48 #[.pointer (some ⟨g, 0, none⟩), .slice a xs.length c] w fun e w' => e = .returned (.tuple #[.int .i64 (hSize typed most xs), .int .i64 (hErr typed most xs)]) ∧ w = w' := by
  have hg := get_any B a c xs (tsz typed) 4 w (by omega) hx
  have ht := tsz_le typed
  have hr := len4_range typed xs
  obtain ⟨ts, HT⟩ : ∃ ts, Hid (tsz typed = ts) := ⟨_, rfl⟩
  have H0 := Lib.hid (typeSize_any g typed w h0)
  rw [HT.out] at ht H0
  clear h0
  rcases head_ways typed most xs with ⟨a1, e1, e2⟩ | ⟨a1, a2, e1, e2⟩ | ⟨a1, a2, a3, e1, e2⟩ | ⟨a1, a2, a3, e1, e2⟩
  · rw [e1, e2]
    have e3 : gotten xs (tsz typed) 4 = .tuple #[.int .i64 0, .int .i64 3] := gotten_short rfl (by omega) (by omega)
    rw [e3, HT.out] at hg
    have HG := Lib.hid hg
    clear hg e1 e2 e3 a1
    go_enter Try.func48, Try.ntmps48
    go_wp2_with (first
      | (go_at_call 53; refine H0.out.mono ?_; rintro e w' ⟨rfl, rfl⟩)
      | (go_at_call 36; refine HG.out.mono ?_; rintro e w' ⟨rfl, rfl⟩))
    go_ret2
    exact ⟨rfl, rfl⟩
  all_goals
    have e3 : gotten xs (tsz typed) 4 = .tuple #[.int .i64 (len4 typed xs), .int .i64 0] := gotten_ok (size := 4) rfl a1
    rw [e3, HT.out] at hg
    have HG := Lib.hid hg
    rw [e1, e2]
    try rw [HT.out]
    clear hg e1 e2 e3 a1
    generalize len4 typed xs = n at *
    go_enter Try.func48, Try.ntmps48
    go_wp2_with (first
      | (go_at_call 53; refine H0.out.mono ?_; rintro e w' ⟨rfl, rfl⟩)
      | (go_at_call 36; refine HG.out.mono ?_; rintro e w' ⟨rfl, rfl⟩))
    go_ret2
    first | exact ⟨rfl, rfl⟩ | exact ⟨by rw [show ((ts + n.toNat : Nat) : Int) = (ts : Int) + n from by omega]; rfl, rfl⟩

/-- A new framer. -/
def NewFramer (typed : Bool) (most room : Int) (w : World) (e : Ending) (w' : World) : Prop :=
  ∃ g, e = .returned (.tuple #[.pointer (some ⟨g, 0, none⟩), .int .i64 0]) ∧ w.heap.size ≤ g ∧ Framer w' g w'.heap.size typed most room [] 0 ∧ Still w w'
set_option maxHeartbeats 400000 in
theorem new_any (most room : Int) (hello : Bool) (w : World) (h1 : 4 ≤ most) (h2 : most ≤ 65536) (h3 : most + 1 ≤ room) (h4 : room ≤ 262144) :
    Calls Try.prog 25 #[.int .i64 most, .int .i64 room, .bool hello] w (NewFramer (!hello) most room w) := by
  have HK : Hid (NewFramer (!hello) most room w (.returned (.tuple #[.pointer (some ⟨w.heap.size, 0, none⟩), .int .i64 0])) (w.alloc (.cells #[.bool (!hello), .int .i64 most, .int .i64 room, .slice none 0 0, .int .i64 0] 58))) :=
    ⟨_, rfl, Nat.le_refl _, ⟨_, Blk.new w _ [.bool (!hello), .int .i64 most, .int .i64 room, .slice none 0 0, .int .i64 0], Held.nil _ _, by simp⟩, (Still.refl w).alloc _⟩
  go_enter Try.func25, Try.ntmps25
  go_wp2
  go_ret2
  exact HK.out
end Go.Proofs.Ytlffnhfnbdpghaa.Fr
