/- Plain words on first messages: what pairs of texts stand in bytes, what a first message's body says, and the bytes of one. No program is named here. -/
import Derived.Test.YtdijlfgmpinidaaQNumB
import Derived.Test.YtdijlfgmpinidaaQNumD
import Derived.Test.YtdijlfgmpinidaaQAxSb
import Derived.Lib.BytesEntry
import Derived.Test.YtdijlfgmpinidaaQDigC
import Derived.Test.YtdijlfgmpinidaaQElems
/- The contracts of package scan's calls that ask (Bad, Left, Done) and of its fail, at a scan that a call made. -/
namespace Go.Proofs.Ytdijlfgmpinidaa.Sc
set_option maxRecDepth 100000
open Go.RowKit Go By Nm

/-- A scan at block g that has these bytes left. -/
def Good (w : World) (g : Nat) (xs : List UInt8) : Prop :=
  ∃ a c, Blk w g 53 [.bool true, .slice a xs.length c] ∧ BytesAt w g a xs ∧ (a = none → c = 0) ∧ xs.length ≤ c ∧ c ≤ maxLen
/-- A scan at block g that is bad. -/
def Dead (w : World) (g : Nat) : Prop := Blk w g 53 [.bool false, .slice none 0 0]

theorem bad_good (g : Nat) (xs : List UInt8) (w : World) (h : Good w g xs) :
    Calls Try.prog 13 #[.pointer (some ⟨g, 0, none⟩)] w fun e w' => e = .returned (.bool false) ∧ w = w' := by
  obtain ⟨a, c, hb, _, _, _, _⟩ := h
  have c0 := hb.cell 0 _ rfl
  clear hb
  go_enter Try.func13, Try.ntmps13
  go_wp2
  go_ret
  exact ⟨rfl, rfl⟩
theorem bad_dead (g : Nat) (w : World) (h : Dead w g) :
    Calls Try.prog 13 #[.pointer (some ⟨g, 0, none⟩)] w fun e w' => e = .returned (.bool true) ∧ w = w' := by
  have c0 := h.cell 0 _ rfl
  clear h
  go_enter Try.func13, Try.ntmps13
  go_wp2
  go_ret
  exact ⟨rfl, rfl⟩
theorem bad_nil (w : World) :
    Calls Try.prog 13 #[.pointer none] w fun e w' => e = .returned (.bool true) ∧ w = w' := by
  go_enter Try.func13, Try.ntmps13
  go_wp2
  go_ret
  exact ⟨rfl, rfl⟩

theorem done_good (g : Nat) (xs : List UInt8) (w : World) (h : Good w g xs) :
    Calls Try.prog 15 #[.pointer (some ⟨g, 0, none⟩)] w fun e w' => e = .returned (.bool xs.isEmpty) ∧ w = w' := by
  have H := Lib.hid h
  obtain ⟨a, c, hb, _, _, _, _⟩ := h
  have c1 := hb.cell 1 _ rfl
  clear hb
  cases xs with
  | nil =>
    go_enter Try.func15, Try.ntmps15
    go_wp2_with (go_at_call 13; refine (bad_good _ _ _ H.out).mono ?_; rintro e w' ⟨rfl, rfl⟩)
    go_ret
    exact ⟨rfl, rfl⟩
  | cons x xs =>
    obtain ⟨n, hn⟩ : ∃ n, Hid ((x :: xs).length = n) := ⟨_, rfl⟩
    have h0 : (((n : Nat) : Int) == 0) = false := by have := hn.out; simp at this; simp; omega
    rw [hn.out] at c1
    go_enter Try.func15, Try.ntmps15
    go_wp2_with (go_at_call 13; refine (bad_good _ _ _ H.out).mono ?_; rintro e w' ⟨rfl, rfl⟩)
    go_ret
    exact ⟨rfl, rfl⟩
theorem done_dead (g : Nat) (w : World) (h : Dead w g) :
    Calls Try.prog 15 #[.pointer (some ⟨g, 0, none⟩)] w fun e w' => e = .returned (.bool false) ∧ w = w' := by
  have H := Lib.hid h
  clear h
  go_enter Try.func15, Try.ntmps15
  go_wp2_with (go_at_call 13; refine (bad_dead _ _ H.out).mono ?_; rintro e w' ⟨rfl, rfl⟩)
  go_ret
  exact ⟨rfl, rfl⟩
theorem done_nil (w : World) :
    Calls Try.prog 15 #[.pointer none] w fun e w' => e = .returned (.bool false) ∧ w = w' := by
  go_enter Try.func15, Try.ntmps15
  go_wp2_with (go_at_call 13; refine (bad_nil _).mono ?_; rintro e w' ⟨rfl, rfl⟩)
  go_ret
  exact ⟨rfl, rfl⟩

theorem fail_any (g : Nat) (v0 v1 : Value) (w : World) (h : Blk w g 53 [v0, v1]) :
    Calls Try.prog 26 #[.pointer (some ⟨g, 0, none⟩)] w fun e w' => e = .returned (.tuple #[]) ∧ Dead w' g ∧ Only g w w' := by
  have c0 := h.cell 0 _ rfl
  have c1 := h.cell 1 _ rfl
  have f0 := h.frozen 0
  have f1 := h.frozen 1
  have H := Lib.hid h
  clear h
  go_enter Try.func26, Try.ntmps26
  go_wp2
  go_end0
  exact ⟨rfl, (H.out.set 0 _).set 1 _, ((Only.refl g w).set 0 _).set 1 _⟩
end Go.Proofs.Ytdijlfgmpinidaa.Sc
/- The contracts of package scan's Take, Num and Text, at a scan that a call made. -/
namespace Go.Proofs.Ytdijlfgmpinidaa.Sc
set_option maxRecDepth 100000
open Go.RowKit Go By Nm

theorem elem_bytes : Try.prog.elem 22 = 5 := by kernel_rfl
theorem size_byte (w : World) : (sizeOf 5).run Try.prog w = .ok 1 w := by
  simp [sizeOf, go_sem]
  rfl

/-- A cut from the beginning, without room behind it. -/
theorem cut_to (w : World) (B : Nat) (a : Option Addr) (c : Nat) (xs : List UInt8) (n : Nat) (h : BytesAt w B a xs) (hc0 : a = none → c = 0) (hl : xs.length ≤ c) (hm : c ≤ maxLen) (hn : n ≤ xs.length) :
    ∃ A C, (Instr.slice 22 (.slice a xs.length c) none (some (.int .i64 n)) (some (.int .i64 n))).run Try.prog w = .ok (.slice A n C) w ∧ BytesAt w B A (xs.take n) ∧ (A = none → C = 0) ∧ n ≤ C ∧ C ≤ maxLen := by
  obtain ⟨A, C, e, hb, hA, hC, hM⟩ := sliced_bytes (l := 0) (h := n) (m := n) h (Nat.zero_le _) hn (Nat.le_refl _) (fun hh => by have := hc0 hh; omega) (by omega)
  refine ⟨A, C, ?_, by simpa using hb, hA, by omega, hM⟩
  rw [run_slice_hm w 22 a xs.length c (by kernel_rfl) .i64 .i64 n n (by omega) (by omega) (by omega), elem_bytes, size_byte]
  simp only [Result.andThen, Int.toNat_natCast]
  rw [e]; rfl
/-- A cut up to the end. -/
theorem cut_from (w : World) (B : Nat) (a : Option Addr) (c : Nat) (xs : List UInt8) (n : Nat) (h : BytesAt w B a xs) (hc0 : a = none → c = 0) (hl : xs.length ≤ c) (hm : c ≤ maxLen) (hn : n ≤ xs.length) :
    ∃ A C, (Instr.slice 22 (.slice a xs.length c) (some (.int .i64 n)) none none).run Try.prog w = .ok (.slice A (xs.length - n) C) w ∧ BytesAt w B A (xs.drop n) ∧ (A = none → C = 0) ∧ xs.length - n ≤ C ∧ C ≤ maxLen := by
  obtain ⟨A, C, e, hb, hA, hC, hM⟩ := sliced_bytes (l := n) (h := xs.length) (m := c) h hn (Nat.le_refl _) hl hc0 hm
  refine ⟨A, C, ?_, by simpa using hb, hA, by omega, hM⟩
  rw [run_slice_l w 22 a xs.length c (by kernel_rfl) .i64 n (by omega) (by omega), elem_bytes, size_byte]
  simp only [Result.andThen, Int.toNat_natCast]
  rw [e]
/-- A cut from the beginning, with the room behind it. -/
theorem cut_head (w : World) (B : Nat) (a : Option Addr) (c : Nat) (xs : List UInt8) (n : Nat) (h : BytesAt w B a xs) (hc0 : a = none → c = 0) (hl : xs.length ≤ c) (hm : c ≤ maxLen) (hn : n ≤ xs.length) :
    ∃ A C, (Instr.slice 22 (.slice a xs.length c) none (some (.int .i64 n)) none).run Try.prog w = .ok (.slice A n C) w ∧ BytesAt w B A (xs.take n) ∧ (A = none → C = 0) ∧ n ≤ C ∧ C ≤ maxLen := by
  obtain ⟨A, C, e, hb, hA, hC, hM⟩ := sliced_bytes (l := 0) (h := n) (m := c) h (Nat.zero_le _) hn (by omega) hc0 hm
  refine ⟨A, C, ?_, by simpa using hb, hA, by omega, hM⟩
  rw [run_slice_h w 22 a xs.length c (by kernel_rfl) .i64 n (by omega) (by omega), elem_bytes, size_byte]
  simp only [Result.andThen, Int.toNat_natCast]
  rw [e]; rfl

/-- The next n bytes were taken. -/
def Took (g : Nat) (xs : List UInt8) (n : Nat) (w : World) (e : Ending) (w' : World) : Prop :=
  ∃ a c, e = .returned (.slice a n c) ∧ BytesAt w' g a (xs.take n) ∧ (a = none → c = 0) ∧ n ≤ c ∧ c ≤ maxLen ∧ Good w' g (xs.drop n) ∧ Only g w w'

set_option maxHeartbeats 400000 in
theorem take_yes (g : Nat) (xs : List UInt8) (n : Nat) (w : World) (h : Good w g xs) (hn : n ≤ xs.length) :
    Calls Try.prog 27 #[.pointer (some ⟨g, 0, none⟩), .int .i64 n] w (Took g xs n w) := by
  have H := Lib.hid h
  obtain ⟨a, c, hb, hx, hc0, hl, hm⟩ := h
  obtain ⟨A1, C1, s1, b1, n1, l1, m1⟩ := cut_to w g a c xs n hx hc0 hl hm hn
  obtain ⟨A2, C2, s2, b2, n2, l2, m2⟩ := cut_from w g a c xs n hx hc0 hl hm hn
  have c1 := hb.cell 1 _ rfl
  have f1 := hb.frozen 1
  have HB := Lib.hid hb
  have HK : Hid (BytesAt (w.setCell ⟨g, 1, none⟩ (.slice A2 (xs.length - n) C2)) g A1 (xs.take n) ∧ (A1 = none → C1 = 0) ∧ n ≤ C1 ∧ C1 ≤ maxLen ∧ Good (w.setCell ⟨g, 1, none⟩ (.slice A2 (xs.length - n) C2)) g (xs.drop n) ∧ Only g w (w.setCell ⟨g, 1, none⟩ (.slice A2 (xs.length - n) C2))) := by
    have ho := (Only.refl g w).set 1 (.slice A2 (xs.length - n) C2)
    have hg : g ≤ w.heap.size := Nat.le_of_lt hb.lt
    refine ⟨b1.only ho hg, n1, l1, m1, ⟨A2, C2, ?_, b2.only ho hg, n2, by rw [List.length_drop]; exact l2, m2⟩, ho⟩
    have := hb.set 1 (.slice A2 (xs.length - n) C2)
    rw [List.length_drop]
    exact this
  obtain ⟨len, HL⟩ : ∃ len, Hid (xs.length = len) := ⟨_, rfl⟩
  unfold maxLen at hm
  rw [HL.out] at s1 s2 c1 hn HK hl
  clear hb hx hc0 b1 n1 l1 m1 b2 n2 l2 m2
  go_enter Try.func27, Try.ntmps27
  go_wp2_with (go_at_call 13; refine (bad_good _ _ _ H.out).mono ?_; rintro e w' ⟨rfl, rfl⟩)
  go_ret
  exact ⟨A1, C1, rfl, HK.out⟩

/-- It is bad now, and nothing was answered. -/
def Fails (g : Nat) (v : Value) (w : World) (e : Ending) (w' : World) : Prop := e = .returned v ∧ Dead w' g ∧ Only g w w'

set_option maxHeartbeats 400000 in
theorem take_no (g : Nat) (xs : List UInt8) (n : Int) (w : World) (h : Good w g xs) (hn : n < 0 ∨ (xs.length : Int) < n) :
    Calls Try.prog 27 #[.pointer (some ⟨g, 0, none⟩), .int .i64 n] w (Fails g (.slice none 0 0) w) := by
  have H := Lib.hid h
  obtain ⟨a, c, hb, hx, hc0, hl, hm⟩ := h
  have c1 := hb.cell 1 _ rfl
  have HB := Lib.hid hb
  obtain ⟨len, HL⟩ : ∃ len, Hid (xs.length = len) := ⟨_, rfl⟩
  rw [HL.out] at c1 hn
  clear hb hx hc0 hl hm
  by_cases h0 : n < 0
  · clear hn
    go_enter Try.func27, Try.ntmps27
    go_wp2_with (first | (go_at_call 13; refine (bad_good _ _ _ H.out).mono ?_; rintro e w' ⟨rfl, rfl⟩) | (go_at_call 26; refine (fail_any _ _ _ _ HB.out).mono ?_; rintro e w1 ⟨rfl, hd, ho⟩; have HD := Lib.hid hd; have HO := Lib.hid ho; clear hd ho))
    go_ret
    exact ⟨rfl, HD.out, HO.out⟩
  · have h1 : (len : Int) < n := by omega
    clear hn
    go_enter Try.func27, Try.ntmps27
    go_wp2_with (first | (go_at_call 13; refine (bad_good _ _ _ H.out).mono ?_; rintro e w' ⟨rfl, rfl⟩) | (go_at_call 26; refine (fail_any _ _ _ _ HB.out).mono ?_; rintro e w1 ⟨rfl, hd, ho⟩; have HD := Lib.hid hd; have HO := Lib.hid ho; clear hd ho))
    go_ret
    exact ⟨rfl, HD.out, HO.out⟩
theorem take_dead (g : Nat) (n : Int) (w : World) (h : Dead w g) :
    Calls Try.prog 27 #[.pointer (some ⟨g, 0, none⟩), .int .i64 n] w fun e w' => e = .returned (.slice none 0 0) ∧ w = w' := by
  have H := Lib.hid h
  clear h
  go_enter Try.func27, Try.ntmps27
  go_wp2_with (go_at_call 13; refine (bad_dead _ _ H.out).mono ?_; rintro e w' ⟨rfl, rfl⟩)
  go_ret
  exact ⟨rfl, rfl⟩

theorem num_dead (g : Nat) (n : Int) (w : World) (h : Dead w g) :
    Calls Try.prog 12 #[.pointer (some ⟨g, 0, none⟩), .int .i64 n] w fun e w' => e = .returned (.int .i64 0) ∧ w = w' := by
  have H := Lib.hid h
  clear h
  go_enter Try.func12, Try.ntmps12
  go_wp2_with (go_at_call 13; refine (bad_dead _ _ H.out).mono ?_; rintro e w' ⟨rfl, rfl⟩)
  go_ret
  exact ⟨rfl, rfl⟩
theorem num_nil (n : Int) (w : World) :
    Calls Try.prog 12 #[.pointer none, .int .i64 n] w fun e w' => e = .returned (.int .i64 0) ∧ w = w' := by
  go_enter Try.func12, Try.ntmps12
  go_wp2_with (go_at_call 13; refine (bad_nil _).mono ?_; rintro e w' ⟨rfl, rfl⟩)
  go_ret
  exact ⟨rfl, rfl⟩
theorem text_dead (g : Nat) (w : World) (h : Dead w g) :
    Calls Try.prog 28 #[.pointer (some ⟨g, 0, none⟩)] w fun e w' => e = .returned (.string ⟨#[]⟩) ∧ w = w' := by
  have H := Lib.hid h
  clear h
  go_enter Try.func28, Try.ntmps28
  go_wp2_with (go_at_call 13; refine (bad_dead _ _ H.out).mono ?_; rintro e w' ⟨rfl, rfl⟩)
  go_ret
  exact ⟨rfl, rfl⟩
theorem text_nil (w : World) :
    Calls Try.prog 28 #[.pointer none] w fun e w' => e = .returned (.string ⟨#[]⟩) ∧ w = w' := by
  go_enter Try.func28, Try.ntmps28
  go_wp2_with (go_at_call 13; refine (bad_nil _).mono ?_; rintro e w' ⟨rfl, rfl⟩)
  go_ret
  exact ⟨rfl, rfl⟩

theorem getErr_two {len : Nat} {i size : Int} : getErr len i size = 0 ∨ getErr len i size = 1 ∨ getErr len i size = 3 := by
  unfold getErr; split
  · exact .inr (.inl rfl)
  · split
    · exact .inr (.inr rfl)
    · exact .inl rfl
theorem getErr_zero {len : Nat} {size : Int} (h : getErr len 0 size = 0) : 1 ≤ size ∧ size ≤ 4 ∧ size ≤ len := by
  unfold getErr at h
  split at h
  · omega
  · rename_i h1
    have hs : szB size = true := by cases hh : szB size <;> simp_all
    have := szB_four hs
    split at h
    · omega
    · omega

/-- The next number was read. -/
def Read (g : Nat) (xs : List UInt8) (n : Nat) (v : Value) (w : World) (e : Ending) (w' : World) : Prop := e = .returned v ∧ Good w' g (xs.drop n) ∧ Only g w w'

set_option maxHeartbeats 400000 in
theorem num_yes (g : Nat) (xs : List UInt8) (size : Nat) (w : World) (h : Good w g xs) (he : getErr xs.length 0 size = 0) :
    Calls Try.prog 12 #[.pointer (some ⟨g, 0, none⟩), .int .i64 size] w (Read g xs size (.int .i64 (getI xs 0 size)) w) := by
  have H := Lib.hid h
  have hz := getErr_zero he
  obtain ⟨a, c, hb, hx, hc0, hl, hm⟩ := h
  have c1 := hb.cell 1 _ rfl
  unfold maxLen at hm
  have hg := get_any g a c xs 0 size w (by omega) hx
  have e1 : gotten xs 0 size = .tuple #[.int .i64 (getI xs 0 size), .int .i64 0] := by
    unfold gotten getVal; rw [he]; simp
  rw [e1] at hg
  have HG := Lib.hid hg
  have HZ : Hid (size ≤ xs.length) := by have := hz.2.2; exact Lib.hid (by omega)
  obtain ⟨len, HL⟩ : ∃ len, Hid (xs.length = len) := ⟨_, rfl⟩
  rw [HL.out] at c1 HG
  clear hb hx hc0 hl hm hg e1 hz he
  go_enter Try.func12, Try.ntmps12
  go_wp2_with (first
    | (go_at_call 13; refine (bad_good _ _ _ H.out).mono ?_; rintro e w' ⟨rfl, rfl⟩)
    | (go_at_call 25; refine HG.out.mono ?_; rintro e w' ⟨rfl, rfl⟩)
    | (go_at_call 27; refine (take_yes _ _ _ _ H.out HZ.out).mono ?_; rintro e w1 ⟨a1, c1, rfl, hq⟩; have HQ := Lib.hid hq; clear hq))
  go_ret
  exact ⟨rfl, HQ.out.2.2.2.2⟩

set_option maxHeartbeats 400000 in
theorem num_no (g : Nat) (xs : List UInt8) (size : Int) (w : World) (h : Good w g xs) (he : getErr xs.length 0 size ≠ 0) :
    Calls Try.prog 12 #[.pointer (some ⟨g, 0, none⟩), .int .i64 size] w (Fails g (.int .i64 0) w) := by
  have H := Lib.hid h
  obtain ⟨a, c, hb, hx, hc0, hl, hm⟩ := h
  have c1 := hb.cell 1 _ rfl
  have HB := Lib.hid hb
  unfold maxLen at hm
  have hg := get_any g a c xs 0 size w (by omega) hx
  rcases (getErr_two : getErr xs.length 0 size = 0 ∨ _) with h0 | h1 | h1
  · exact absurd h0 he
  all_goals
    have e1 : ∃ k : Int, gotten xs 0 size = .tuple #[.int .i64 0, .int .i64 k] ∧ (k == 0) = false := by
      unfold gotten getVal; rw [h1]; exact ⟨_, rfl, rfl⟩
    obtain ⟨k, e1, hk⟩ := e1
    rw [e1] at hg
    have HG := Lib.hid hg
    have hk2 : (k != 0) = true := by simp [bne, hk]
    obtain ⟨len, HL⟩ : ∃ len, Hid (xs.length = len) := ⟨_, rfl⟩
    rw [HL.out] at c1 HG
    clear hb hx hc0 hl hm hg e1 he h1
    go_enter Try.func12, Try.ntmps12
    go_wp2_with (first
      | (go_at_call 13; refine (bad_good _ _ _ H.out).mono ?_; rintro e w' ⟨rfl, rfl⟩)
      | (go_at_call 25; refine HG.out.mono ?_; rintro e w' ⟨rfl, rfl⟩)
      | (go_at_call 26; refine (fail_any _ _ _ _ HB.out).mono ?_; rintro e w1 ⟨rfl, hd, ho⟩; have HD := Lib.hid hd; have HO := Lib.hid ho; clear hd ho))
    go_ret
    exact ⟨rfl, HD.out, HO.out⟩

/-- Where the first byte 0 stands. -/
def zeroAt : List UInt8 → Option Nat
  | [] => none
  | b :: l => if b == 0 then some 0 else (zeroAt l).map (· + 1)
theorem zeroAt_some : ∀ {xs : List UInt8} {k : Nat}, zeroAt xs = some k → k < xs.length ∧ xs.getD k 0 = 0 ∧ ∀ j, j < k → xs.getD j 0 ≠ 0
  | [], k, h => by simp [zeroAt] at h
  | b :: l, k, h => by
    unfold zeroAt at h
    by_cases hb : b = 0
    · subst hb
      simp at h
      subst h
      exact ⟨by simp, rfl, fun j hj => by omega⟩
    · have hb1 : (b == 0) = false := by simpa using hb
      rw [hb1] at h
      simp at h
      obtain ⟨m, hm, rfl⟩ := h
      obtain ⟨h1, h2, h3⟩ := zeroAt_some hm
      refine ⟨by simp; omega, by simpa using h2, fun j hj => ?_⟩
      cases j with
      | zero => simpa using hb
      | succ j => simpa using h3 j (by omega)
theorem zeroAt_none : ∀ {xs : List UInt8}, zeroAt xs = none → ∀ j, j < xs.length → xs.getD j 0 ≠ 0
  | [], _, j, hj => by simp at hj
  | b :: l, h, j, hj => by
    unfold zeroAt at h
    by_cases hb : b = 0
    · subst hb; simp at h
    · have hb1 : (b == 0) = false := by simpa using hb
      rw [hb1] at h
      simp at h
      cases j with
      | zero => simpa using hb
      | succ j => simpa using zeroAt_none h j (by simpa using hj)
theorem zeroAt_of {xs : List UInt8} {k : Nat} (h1 : k < xs.length) (h2 : xs.getD k 0 = 0) (h3 : ∀ j, j < k → xs.getD j 0 ≠ 0) : zeroAt xs = some k := by
  cases h : zeroAt xs with
  | none => exact absurd h2 (zeroAt_none h k h1)
  | some m =>
    obtain ⟨a1, a2, a3⟩ := zeroAt_some h
    rcases Nat.lt_trichotomy m k with hk | hk | hk
    · exact absurd a2 (h3 m hk)
    · rw [hk]
    · exact absurd h2 (a3 k hk)
theorem zeroAt_of_none {xs : List UInt8} (h3 : ∀ j, j < xs.length → xs.getD j 0 ≠ 0) : zeroAt xs = none := by
  cases h : zeroAt xs with
  | none => rfl
  | some m => obtain ⟨a1, a2, _⟩ := zeroAt_some h; exact absurd a2 (h3 m a1)
theorem indexByte_zero : ∀ xs : List UInt8, Lib.indexByte xs 0 = match zeroAt xs with | none => -1 | some k => (k : Int)
  | [] => rfl
  | b :: l => by
    have ih := indexByte_zero l
    unfold Lib.indexByte zeroAt
    by_cases hb : (b == 0) = true
    · rw [if_pos hb, if_pos hb]; rfl
    · rw [if_neg hb, if_neg hb, ih]
      cases zeroAt l with
      | none => rfl
      | some k => simp

theorem indexByte_any (B : Nat) (a : Option Addr) (cap : Nat) (xs : List UInt8) (w : World) (hb : BytesAt w B a xs) :
    Calls Try.prog 37 #[.slice a xs.length cap, .int .u8 0] w fun e w' => e = .returned (.int .i64 (Lib.indexByte xs 0)) ∧ w = w' := by
  have hr : (Extern.BytealgIndexByte.indexByte #[.slice a xs.length cap, .int .u8 0]).run Try.prog w = .ok (.int .i64 (Lib.indexByte xs 0)) w := by
    cases xs with
    | nil =>
      cases a with
      | none => exact Lib.run_indexByteNil w _ _ _
      | some ad =>
        obtain ⟨b, off, spot⟩ := ad
        cases spot with
        | none => exact Lib.run_indexByteSlice w b off 0 cap [] rfl (fun i hi => by omega) 0
        | some s => kernel_rfl
    | cons x l =>
      obtain ⟨b, off, rfl, _, hc⟩ := hb (by simp)
      have := Lib.run_indexByteSlice (P := Try.prog) w b off (x :: l).length cap ((x :: l).map fun c => (c.toNat : Int)) (by simp) (fun i hi => by
        rw [hc i hi]
        unfold byteAt
        simp only [List.getD_eq_getElem?_getD, List.getElem?_map, List.getElem?_eq_getElem hi, Option.map_some, Option.getD_some]) 0
      rw [this]
      have e : Lib.bytesOf ((x :: l).map fun c => (c.toNat : Int)) = x :: l := by
        unfold Lib.bytesOf
        rw [List.map_map]
        have e2 : ((fun n : Int => n.toNat.toUInt8) ∘ fun c : UInt8 => (c.toNat : Int)) = id := by
          funext c; simp
        first | rw [e2, List.map_id] | skip
      rw [e]; rfl
  go_enter Try.func37, Try.ntmps37
  go_wp2
  rw [run_callFunc_extern Try.func45 (by kernel_rfl) (by kernel_rfl) (by kernel_rfl) (e := Extern.BytealgIndexByte.indexByte) (by kernel_rfl), hr]
  simp only [Result.andThen]
  rw [Oper.upon_value]
  go_wp2
  go_ret
  exact ⟨rfl, rfl⟩

theorem take_at (g : Nat) (xs : List UInt8) (n : Int) (m : Nat) (w : World) (hn : n = (m : Int)) (h : Good w g xs) (hm : m ≤ xs.length) :
    Calls Try.prog 27 #[.pointer (some ⟨g, 0, none⟩), .int .i64 n] w (Took g xs m w) := by
  subst hn; exact take_yes g xs m w h hm

set_option maxHeartbeats 400000 in
theorem text_yes (g : Nat) (xs : List UInt8) (k : Nat) (w : World) (h : Good w g xs) (hk : zeroAt xs = some k) :
    Calls Try.prog 28 #[.pointer (some ⟨g, 0, none⟩)] w (Read g xs (k + 1) (.string (strB (xs.take k))) w) := by
  have H := Lib.hid h
  have hz := zeroAt_some hk
  obtain ⟨a, c, hb, hx, hc0, hl, hm⟩ := h
  have c1 := hb.cell 1 _ rfl
  unfold maxLen at hm
  have hg := indexByte_any g a c xs w hx
  rw [indexByte_zero, hk] at hg
  have HG := Lib.hid hg
  have HZ := Lib.hid hz.1
  have hk2 : k ≤ 9223372036854775806 := by omega
  obtain ⟨len, HL⟩ : ∃ len, Hid (xs.length = len) := ⟨_, rfl⟩
  rw [HL.out] at c1 HG
  clear hb hx hc0 hl hm hg hz hk
  go_enter Try.func28, Try.ntmps28
  go_wp2_with fail
  refine (bad_good _ _ _ H.out).mono ?_
  rintro e w' ⟨rfl, rfl⟩
  go_wp2_with fail
  refine HG.out.mono ?_
  rintro e w' ⟨rfl, rfl⟩
  go_wp2_with fail
  refine (take_at g xs _ (k + 1) _ (by omega) H.out HZ.out).mono ?_
  rintro e w1 ⟨a1, c1, rfl, b1, n1, l1, m1, hg1, ho1⟩
  have HQ := Lib.hid (And.intro hg1 ho1)
  have hl1 : (xs.take (k + 1)).length = k + 1 := by have := HZ.out; simp; omega
  obtain ⟨A, C, s, bA, _, _, _⟩ := cut_head w1 g a1 c1 (xs.take (k + 1)) k b1 n1 (by omega) m1 (by omega)
  have e2 : (xs.take (k + 1)).take k = xs.take k := by rw [List.take_take]; congr 1; omega
  rw [e2] at bA
  rw [hl1] at s
  have r := run_convert_bytesAt (P := Try.prog) 22 5 9 Try.underlying22 Try.underlying5 Try.underlying9 w1 g A C (xs.take k) bA
  have hl2 : (xs.take k).length = k := by have := HZ.out; simp; omega
  rw [hl2] at r
  clear hg1 ho1 b1 n1 l1 m1 hl1 e2 hl2 bA
  go_wp2
  go_ret
  exact ⟨rfl, HQ.out⟩

set_option maxHeartbeats 400000 in
theorem text_no (g : Nat) (xs : List UInt8) (w : World) (h : Good w g xs) (hk : zeroAt xs = none) :
    Calls Try.prog 28 #[.pointer (some ⟨g, 0, none⟩)] w (Fails g (.string ⟨#[]⟩) w) := by
  have H := Lib.hid h
  obtain ⟨a, c, hb, hx, hc0, hl, hm⟩ := h
  have c1 := hb.cell 1 _ rfl
  have HB := Lib.hid hb
  have hg := indexByte_any g a c xs w hx
  rw [indexByte_zero, hk] at hg
  have HG := Lib.hid hg
  obtain ⟨len, HL⟩ : ∃ len, Hid (xs.length = len) := ⟨_, rfl⟩
  rw [HL.out] at c1 HG
  clear hb hx hc0 hl hm hg hk
  go_enter Try.func28, Try.ntmps28
  go_wp2_with (first
    | (go_at_call 13; refine (bad_good _ _ _ H.out).mono ?_; rintro e w' ⟨rfl, rfl⟩)
    | (go_at_call 37; refine HG.out.mono ?_; rintro e w' ⟨rfl, rfl⟩)
    | (go_at_call 26; refine (fail_any _ _ _ _ HB.out).mono ?_; rintro e w1 ⟨rfl, hd, ho⟩; have HD := Lib.hid hd; have HO := Lib.hid ho; clear hd ho))
  go_ret
  exact ⟨rfl, HD.out, HO.out⟩
end Go.Proofs.Ytdijlfgmpinidaa.Sc
/- The contracts of scan.New and of the document's answer for layer 3 (New, Num, Text, Take, Left, Done), at a scan that a call made. -/
namespace Go.Proofs.Ytdijlfgmpinidaa.Sc
set_option maxRecDepth 100000
open Go.RowKit Go By Nm

/-- A new scan that has these bytes left. -/
def NewScan (P : World → Nat → List UInt8 → Prop) (xs : List UInt8) (w : World) (e : Ending) (w' : World) : Prop :=
  ∃ g, e = .returned (.pointer (some ⟨g, 0, none⟩)) ∧ w.heap.size ≤ g ∧ P w' g xs ∧ Still w w'

/-- The document's scan at block g that has these bytes left. -/
def RGood (w : World) (g : Nat) (xs : List UInt8) : Prop :=
  ∃ a c, Blk w g 59 [.slice a xs.length c, .bool false] ∧ BytesAt w g a xs ∧ (a = none → c = 0) ∧ xs.length ≤ c ∧ c ≤ maxLen
/-- The document's scan at block g that is bad. -/
def RDead (w : World) (g : Nat) : Prop :=
  ∃ xs a c, Blk w g 59 [.slice a (List.length (α := UInt8) xs) c, .bool true] ∧ BytesAt w g a xs ∧ (a = none → c = 0) ∧ xs.length ≤ c ∧ c ≤ maxLen

set_option maxHeartbeats 400000 in
theorem new_any (B : Nat) (a : Option Addr) (c : Nat) (xs : List UInt8) (w : World) (h : BytesAt w B a xs) (hc : a = none → c = 0) (hl : xs.length ≤ 140737488355328) :
    Calls Try.prog 11 #[.slice a xs.length c] w (NewScan Good xs w) := by
  obtain ⟨i0, hi, hz0, hz1, hz2⟩ := info_parts byte_info
  have HX := Lib.hid h
  have HC := Lib.hid hc
  have HL := Lib.hid hl
  clear h hc hl
  go_enter Try.func11, Try.ntmps11
  go_wp2_with (at_builtin; refine wpList_append_bytes rfl _ _ 22 rfl w.heap.size 5 i0 Try.underlying22 hi hz0 hz1 hz2 _ [] rfl ?c1 B _ c xs rfl HX.out ?c2 ?c3 ?c4 ?c5)
  case c1 => exact World.ownsRow_nil _ _ _ _
  case c2 => exact HC.out
  case c3 => simpa using HL.out
  case c4 => exact Nat.le_refl _
  case c5 =>
    intro v' w1 hown hg _
    obtain ⟨a1, c1, rfl, hl1, hm1, hb1⟩ := hown.at_
    have HK : Hid (NewScan Good xs w (.returned (.pointer (some ⟨w1.heap.size, 0, none⟩))) (w1.alloc (.cells #[.bool true, .slice a1 xs.length c1] 53))) := by
      have hs : Still w w1 := hg
      refine ⟨_, rfl, hs.size, ⟨a1, c1, Blk.new w1 _ [.bool true, .slice a1 xs.length c1], hb1.alloc (Nat.le_refl _) _, fun hn => ?_, by simpa using hl1, hm1⟩, hs.alloc _⟩
      subst hn
      rcases hown.2 with ⟨h1, _⟩ | ⟨g, _, _, h1, _⟩
      · injection h1
      · injection h1 with h1; cases h1
    clear hown hg hl1 hm1 hb1
    go_wp2
    go_ret
    exact HK.out

set_option maxHeartbeats 400000 in
theorem rnew_any (B : Nat) (a : Option Addr) (c : Nat) (xs : List UInt8) (w : World) (h : BytesAt w B a xs) (hc : a = none → c = 0) (hl : xs.length ≤ 140737488355328) :
    Calls Try.prog 16 #[.slice a xs.length c] w (NewScan RGood xs w) := by
  obtain ⟨i0, hi, hz0, hz1, hz2⟩ := info_parts byte_info
  have HX := Lib.hid h
  have HC := Lib.hid hc
  have HL := Lib.hid hl
  clear h hc hl
  go_enter Try.func16, Try.ntmps16
  go_wp2_with (at_builtin; refine wpList_append_bytes rfl _ _ 22 rfl w.heap.size 5 i0 Try.underlying22 hi hz0 hz1 hz2 _ [] rfl ?c1 B _ c xs rfl HX.out ?c2 ?c3 ?c4 ?c5)
  case c1 => exact World.ownsRow_nil _ _ _ _
  case c2 => exact HC.out
  case c3 => simpa using HL.out
  case c4 => exact Nat.le_refl _
  case c5 =>
    intro v' w1 hown hg _
    obtain ⟨a1, c1, rfl, hl1, hm1, hb1⟩ := hown.at_
    have HK : Hid (NewScan RGood xs w (.returned (.pointer (some ⟨w1.heap.size, 0, none⟩))) (w1.alloc (.cells #[.slice a1 xs.length c1, .bool false] 59))) := by
      have hs : Still w w1 := hg
      refine ⟨_, rfl, hs.size, ⟨a1, c1, Blk.new w1 _ [.slice a1 xs.length c1, .bool false], hb1.alloc (Nat.le_refl _) _, fun hn => ?_, by simpa using hl1, hm1⟩, hs.alloc _⟩
      subst hn
      rcases hown.2 with ⟨h1, _⟩ | ⟨g, _, _, h1, _⟩
      · injection h1
      · injection h1 with h1; cases h1
    clear hown hg hl1 hm1 hb1
    go_wp2
    go_ret
    exact HK.out

theorem rdone_good (g : Nat) (xs : List UInt8) (w : World) (h : RGood w g xs) :
    Calls Try.prog 19 #[.pointer (some ⟨g, 0, none⟩)] w fun e w' => e = .returned (.bool xs.isEmpty) ∧ w = w' := by
  obtain ⟨a, c, hb, _, _, _, _⟩ := h
  have c0 := hb.cell 0 _ rfl
  have c1 := hb.cell 1 _ rfl
  clear hb
  cases xs with
  | nil =>
    go_enter Try.func19, Try.ntmps19
    go_wp2
    go_ret
    exact ⟨rfl, rfl⟩
  | cons x xs =>
    obtain ⟨n, hn⟩ : ∃ n, Hid ((x :: xs).length = n) := ⟨_, rfl⟩
    have h0 : (((n : Nat) : Int) == 0) = false := by have := hn.out; simp at this; simp; omega
    rw [hn.out] at c0
    go_enter Try.func19, Try.ntmps19
    go_wp2
    go_ret
    exact ⟨rfl, rfl⟩
theorem rdone_dead (g : Nat) (w : World) (h : RDead w g) :
    Calls Try.prog 19 #[.pointer (some ⟨g, 0, none⟩)] w fun e w' => e = .returned (.bool false) ∧ w = w' := by
  obtain ⟨xs, a, c, hb, _, _, _, _⟩ := h
  have c1 := hb.cell 1 _ rfl
  clear hb
  go_enter Try.func19, Try.ntmps19
  go_wp2
  go_ret
  exact ⟨rfl, rfl⟩

/-- The document's scan is bad now, and this was answered. -/
def RFails (g : Nat) (v : Value) (w : World) (e : Ending) (w' : World) : Prop := e = .returned v ∧ RDead w' g ∧ Only g w w'
/-- So many bytes were read off the document's scan. -/
def RRead (g : Nat) (xs : List UInt8) (n : Nat) (v : Value) (w : World) (e : Ending) (w' : World) : Prop := e = .returned v ∧ RGood w' g (xs.drop n) ∧ Only g w w'
/-- The next n bytes were taken off the document's scan, as new ones. -/
def RTook (g : Nat) (xs : List UInt8) (n : Nat) (w : World) (e : Ending) (w' : World) : Prop :=
  ∃ a c, e = .returned (.slice a n c) ∧ BytesAt w' w'.heap.size a (xs.take n) ∧ (a = none → c = 0) ∧ RGood w' g (xs.drop n) ∧ Only g w w'

/-- A store of 'bad' into the document's scan. -/
theorem set_dead {w : World} {g : Nat} {xs : List UInt8} {a : Option Addr} {c : Nat} {v : Value} (hb : Blk w g 59 [.slice a xs.length c, v]) (hx : BytesAt w g a xs) (hc0 : a = none → c = 0) (hl : xs.length ≤ c) (hm : c ≤ maxLen) :
    RDead (w.setCell ⟨g, 1, none⟩ (.bool true)) g ∧ Only g w (w.setCell ⟨g, 1, none⟩ (.bool true)) := by
  have ho := (Only.refl g w).set 1 (.bool true)
  exact ⟨⟨xs, a, c, hb.set 1 _, hx.only ho (Nat.le_of_lt hb.lt), hc0, hl, hm⟩, ho⟩
/-- A store of a cut into the document's scan. -/
theorem set_rest {w : World} {g : Nat} {xs : List UInt8} {a : Option Addr} {c n : Nat} {A : Option Addr} {C : Nat} (hb : Blk w g 59 [.slice a xs.length c, .bool false]) (hx : BytesAt w g A (xs.drop n)) (hc0 : A = none → C = 0) (hl : xs.length - n ≤ C) (hm : C ≤ maxLen) :
    RGood (w.setCell ⟨g, 0, none⟩ (.slice A (xs.length - n) C)) g (xs.drop n) ∧ Only g w (w.setCell ⟨g, 0, none⟩ (.slice A (xs.length - n) C)) := by
  have ho := (Only.refl g w).set 0 (.slice A (xs.length - n) C)
  refine ⟨⟨A, C, ?_, hx.only ho (Nat.le_of_lt hb.lt), hc0, by rw [List.length_drop]; exact hl, hm⟩, ho⟩
  rw [List.length_drop]
  exact hb.set 0 _

set_option maxHeartbeats 400000 in
theorem rnum_dead (g : Nat) (size : Int) (w : World) (h : RDead w g) :
    Calls Try.prog 17 #[.pointer (some ⟨g, 0, none⟩), .int .i64 size] w (RFails g (.int .i64 0) w) := by
  obtain ⟨xs, a, c, hb, hx, hc0, hl, hm⟩ := h
  have c0 := hb.cell 0 _ rfl
  have c1 := hb.cell 1 _ rfl
  have f1 := hb.frozen 1
  have HS := Lib.hid (set_dead hb hx hc0 hl hm)
  unfold maxLen at hm
  have HG := Lib.hid (rget_any g a c xs 0 size w (by omega) hx)
  obtain ⟨len, HL⟩ : ∃ len, Hid (xs.length = len) := ⟨_, rfl⟩
  rw [HL.out] at c0 HG
  clear hb hx hc0 hl hm
  go_enter Try.func17, Try.ntmps17
  go_wp2_with (go_at_call 29; refine HG.out.mono ?_; rintro e w' ⟨rfl, rfl⟩; unfold gotten)
  go_ret
  exact ⟨rfl, HS.out⟩

set_option maxHeartbeats 400000 in
theorem rnum_no (g : Nat) (xs : List UInt8) (size : Int) (w : World) (h : RGood w g xs) (he : getErr xs.length 0 size ≠ 0) :
    Calls Try.prog 17 #[.pointer (some ⟨g, 0, none⟩), .int .i64 size] w (RFails g (.int .i64 0) w) := by
  obtain ⟨a, c, hb, hx, hc0, hl, hm⟩ := h
  have c0 := hb.cell 0 _ rfl
  have c1 := hb.cell 1 _ rfl
  have f1 := hb.frozen 1
  have HS := Lib.hid (set_dead hb hx hc0 hl hm)
  unfold maxLen at hm
  have hg := rget_any g a c xs 0 size w (by omega) hx
  have e1 : ∃ k : Int, gotten xs 0 size = .tuple #[.int .i64 0, .int .i64 k] ∧ (k == 0) = false := by
    rcases (getErr_two : getErr xs.length 0 size = 0 ∨ _) with h0 | h1 | h1
    · exact absurd h0 he
    all_goals unfold gotten getVal; rw [h1]; exact ⟨_, rfl, rfl⟩
  obtain ⟨k, e1, hk⟩ := e1
  rw [e1] at hg
  have HG := Lib.hid hg
  have hk2 : (k != 0) = true := by simp [bne, hk]
  obtain ⟨len, HL⟩ : ∃ len, Hid (xs.length = len) := ⟨_, rfl⟩
  rw [HL.out] at c0 HG
  clear hb hx hc0 hl hm hg e1 he
  go_enter Try.func17, Try.ntmps17
  go_wp2_with (go_at_call 29; refine HG.out.mono ?_; rintro e w' ⟨rfl, rfl⟩)
  go_ret
  exact ⟨rfl, HS.out⟩

set_option maxHeartbeats 400000 in
theorem rnum_yes (g : Nat) (xs : List UInt8) (size : Nat) (w : World) (h : RGood w g xs) (he : getErr xs.length 0 size = 0) :
    Calls Try.prog 17 #[.pointer (some ⟨g, 0, none⟩), .int .i64 size] w (RRead g xs size (.int .i64 (getI xs 0 size)) w) := by
  obtain ⟨a, c, hb, hx, hc0, hl, hm⟩ := h
  have hz := getErr_zero he
  have hz2 : size ≤ xs.length := by have := hz.2.2; omega
  have c0 := hb.cell 0 _ rfl
  have c1 := hb.cell 1 _ rfl
  have f0 := hb.frozen 0
  obtain ⟨A2, C2, s2, b2, n2, l2, m2⟩ := cut_from w g a c xs size hx hc0 hl hm hz2
  have HS := Lib.hid (set_rest (n := size) hb b2 n2 l2 m2)
  unfold maxLen at hm
  have hg := rget_any g a c xs 0 size w (by omega) hx
  have e1 : gotten xs 0 size = .tuple #[.int .i64 (getI xs 0 size), .int .i64 0] := by
    unfold gotten getVal; rw [he]; simp
  rw [e1] at hg
  have HG := Lib.hid hg
  obtain ⟨len, HL⟩ : ∃ len, Hid (xs.length = len) := ⟨_, rfl⟩
  rw [HL.out] at c0 HG HS s2 hz2
  clear hb hx hc0 hl hm hg e1 he hz b2 n2 l2 m2
  go_enter Try.func17, Try.ntmps17
  go_wp2_with (go_at_call 29; refine HG.out.mono ?_; rintro e w' ⟨rfl, rfl⟩)
  go_ret
  exact ⟨rfl, HS.out⟩

theorem byte_zero {xs : List UInt8} {j : Nat} (h : xs.getD j 0 = 0) : (byteAt xs j == 0) = true := by
  unfold byteAt; rw [h]; rfl
theorem byte_not {xs : List UInt8} {j : Nat} (h : xs.getD j 0 ≠ 0) : (byteAt xs j == 0) = false := by
  unfold byteAt
  have : (xs.getD j 0).toNat ≠ 0 := fun e => h (UInt8.toNat_inj.1 (by simpa using e))
  simpa using this

set_option maxHeartbeats 400000 in
theorem rtext_dead (g : Nat) (w : World) (h : RDead w g) :
    Calls Try.prog 30 #[.pointer (some ⟨g, 0, none⟩)] w (RFails g (.string ⟨#[]⟩) w) := by
  obtain ⟨xs, a, c, hb, hx, hc0, hl, hm⟩ := h
  have c0 := hb.cell 0 _ rfl
  have c1 := hb.cell 1 _ rfl
  have f1 := hb.frozen 1
  have HS := Lib.hid (set_dead hb hx hc0 hl hm)
  obtain ⟨len, HL⟩ : ∃ len, Hid (xs.length = len) := ⟨_, rfl⟩
  rw [HL.out] at c0
  clear hb hx hc0 hl hm
  by_cases h0 : 0 < len
  · go_enter Try.func30, Try.ntmps30
    go_wp2
    refine wp_loop_rounds 1 ?_
    rw [rounds_succ]
    go_wp2
    go_ret
    exact ⟨rfl, HS.out⟩
  · go_enter Try.func30, Try.ntmps30
    go_wp2
    refine wp_loop_rounds 1 ?_
    rw [rounds_succ]
    go_wp2
    go_ret
    exact ⟨rfl, HS.out⟩

set_option maxHeartbeats 400000 in
theorem rtext_no (g : Nat) (xs : List UInt8) (w : World) (h : RGood w g xs) (hk : zeroAt xs = none) :
    Calls Try.prog 30 #[.pointer (some ⟨g, 0, none⟩)] w (RFails g (.string ⟨#[]⟩) w) := by
  obtain ⟨a, c, hb, hx, hc0, hl, hm⟩ := h
  have c0 := hb.cell 0 _ rfl
  have c1 := hb.cell 1 _ rfl
  have f1 := hb.frozen 1
  have HS := Lib.hid (set_dead hb hx hc0 hl hm)
  have HX := Lib.hid hx
  have HZ := Lib.hid (zeroAt_none hk)
  have hlen : xs.length ≤ 9223372036854775806 ∨ xs.length = 9223372036854775807 := by unfold maxLen at hm; omega
  unfold maxLen at hm
  obtain ⟨len, HL⟩ : ∃ len, Hid (xs.length = len) := ⟨_, rfl⟩
  rw [HL.out] at c0
  have hlm : len ≤ 9223372036854775807 := by rw [← HL.out]; omega
  clear hb hx hc0 hl hm hk hlen
  go_enter Try.func30, Try.ntmps30
  go_wp2
  go_loop [3] (fun i => ∃ j : Nat, j ≤ len ∧ i = .int .i64 j) (fun i => len - (intOf i).toNat)
  case atStart => exact ⟨0, Nat.zero_le _, rfl⟩
  case round =>
    obtain ⟨j, hj, rfl⟩ := hrel
    by_cases hlt : j < len
    · have hz := byte_not (HZ.out j (by rw [HL.out]; exact hlt))
      obtain ⟨b, off, ha, _, hcell⟩ := HX.out (by rw [HL.out]; omega)
      have hcj := hcell j (by rw [HL.out]; exact hlt)
      rw [ha] at c0
      clear hcell ha
      go_wp2
      go_round
      case rel => exact ⟨j + 1, by omega, by go_num⟩
      case measure => simp [intOf]; omega
    · obtain rfl : j = len := by omega
      go_wp2
      go_ret
      exact ⟨rfl, HS.out⟩

set_option maxHeartbeats 400000 in
theorem rtext_yes (g : Nat) (xs : List UInt8) (k : Nat) (w : World) (h : RGood w g xs) (hk : zeroAt xs = some k) :
    Calls Try.prog 30 #[.pointer (some ⟨g, 0, none⟩)] w (RRead g xs (k + 1) (.string (strB (xs.take k))) w) := by
  obtain ⟨a, c, hb, hx, hc0, hl, hm⟩ := h
  have hz := zeroAt_some hk
  have c0 := hb.cell 0 _ rfl
  have c1 := hb.cell 1 _ rfl
  have f0 := hb.frozen 0
  obtain ⟨A1, C1, s1, b1, n1, l1, m1⟩ := cut_head w g a c xs k hx hc0 hl hm (Nat.le_of_lt hz.1)
  obtain ⟨A2, C2, s2, b2, n2, l2, m2⟩ := cut_from w g a c xs (k + 1) hx hc0 hl hm hz.1
  have HS := Lib.hid (set_rest (n := k + 1) hb b2 n2 l2 m2)
  have hr := run_convert_bytesAt (P := Try.prog) 22 5 9 Try.underlying22 Try.underlying5 Try.underlying9 w g A1 C1 (xs.take k) b1
  rw [show (xs.take k).length = k from by simp; omega] at hr
  have HX := Lib.hid hx
  have HZ := Lib.hid hz
  obtain ⟨len, HL⟩ : ∃ len, Hid (xs.length = len) := ⟨_, rfl⟩
  have hkl : k < len := by rw [← HL.out]; exact hz.1
  have hlm : len ≤ 9223372036854775807 := by rw [← HL.out]; unfold maxLen at hm; omega
  rw [HL.out] at c0 s1 s2 HS
  rw [show ((k + 1 : Nat) : Int) = (k : Int) + 1 from rfl] at s2
  have HQ := Lib.hid (And.intro s1 (And.intro s2 hr))
  clear hb hx hc0 hl hm hk hz b1 n1 l1 m1 b2 n2 l2 m2 s1 s2 hr
  go_enter Try.func30, Try.ntmps30
  go_wp2
  go_loop [3] (fun i => ∃ j : Nat, j ≤ k ∧ i = .int .i64 j) (fun i => k - (intOf i).toNat)
  case atStart => exact ⟨0, Nat.zero_le _, rfl⟩
  case round =>
    obtain ⟨j, hj, rfl⟩ := hrel
    obtain ⟨b, off, ha, _, hcell⟩ := HX.out (by rw [HL.out]; omega)
    have hcj := hcell j (by rw [HL.out]; omega)
    by_cases hlt : j < k
    · have hz := byte_not (HZ.out.2.2 j hlt)
      rw [ha] at c0
      clear hcell ha
      go_wp2
      go_round
      case rel => exact ⟨j + 1, by omega, by go_num⟩
      case measure => simp [intOf]; omega
    · obtain rfl : j = k := by omega
      have hz := byte_zero HZ.out.2.1
      obtain ⟨s1, s2, hr⟩ := HQ.out
      rw [ha] at c0 s1 s2
      clear hcell ha
      go_wp2
      go_ret
      exact ⟨rfl, HS.out⟩
end Go.Proofs.Ytdijlfgmpinidaa.Sc
/- The walks of ScanNobody and ScanAll: each returns true at every input, and writes nothing that was there. -/
namespace Go.Proofs.Ytdijlfgmpinidaa.Sc
open Go.RowKit Go By Nm

theorem new_4 (w : World) : Calls Try.prog 11 #[.slice (some ⟨w.heap.size, 0, none⟩) 4 4] (w.alloc (.cells #[.int .u8 97, .int .u8 0, .int .u8 1, .int .u8 2] 5))
    (NewScan Good [97, 0, 1, 2] (w.alloc (.cells #[.int .u8 97, .int .u8 0, .int .u8 1, .int .u8 2] 5))) :=
  new_any (w.heap.size + 1) (some ⟨w.heap.size, 0, none⟩) 4 [97, 0, 1, 2] _ (BytesAt.lit (E := 5) w [97, 0, 1, 2] (Nat.lt_succ_self _)) (fun h => by cases h) (by simp)
theorem text_a (g : Nat) (w : World) (h : Good w g [97, 0, 1, 2]) :
    Calls Try.prog 28 #[.pointer (some ⟨g, 0, none⟩)] w (Read g [97, 0, 1, 2] 2 (.string ⟨#[97]⟩) w) := text_yes g [97, 0, 1, 2] 1 w h rfl
theorem num_12 (g : Nat) (w : World) (h : Good w g [1, 2]) :
    Calls Try.prog 12 #[.pointer (some ⟨g, 0, none⟩), .int .i64 2] w (Read g [1, 2] 2 (.int .i64 258) w) := num_yes g [1, 2] 2 w h rfl
theorem done_none (g : Nat) (w : World) (h : Good w g []) :
    Calls Try.prog 15 #[.pointer (some ⟨g, 0, none⟩)] w fun e w' => e = .returned (.bool true) ∧ w = w' := done_good g [] w h

theorem Good.below {w w' : World} {g B : Nat} {xs : List UInt8} (h : Good w g xs) (hb : Below B w w') (hB : g < B) : Good w' g xs := by
  obtain ⟨a, c, hk, hx, r⟩ := h
  exact ⟨a, c, hk.keep (hb.block g hB), hx.below (hb.mono (Nat.le_of_lt hB)), r⟩
theorem Good.lt {w : World} {g : Nat} {xs : List UInt8} (h : Good w g xs) : g < w.heap.size := by
  obtain ⟨a, c, hk, _⟩ := h
  exact hk.lt
theorem OwnB.only {E : TypeId} {w w' : World} {base g : Nat} {v : Value} {xs : List UInt8} (h : OwnB E w base v xs) (ho : Only g w w') (hg : g < base) : OwnB E w' base v xs := by
  refine World.ownsRow.kept h (row := some g) ho ?_
  rcases h.2 with ⟨rfl, _⟩ | ⟨k, cap, cur, rfl, hk, _⟩
  · left; rfl
  · right; simp [Value.ownBlock]; omega

theorem done_at (g : Nat) (xs : List UInt8) (w : World) (h : Good w g xs) (hn : xs = []) :
    Calls Try.prog 15 #[.pointer (some ⟨g, 0, none⟩)] w fun e w' => e = .returned (.bool true) ∧ w = w' := by
  subst hn; exact done_good g [] w h
/-- What stands behind a piece that was taken and put to the others. -/
theorem piece_on {w w1 w2 w3 : World} {g k mm : Nat} {xs : List UInt8} {v v' : Value} (hg : w.heap.size ≤ g) (hB : Below w.heap.size w w1) (ho : Only g w1 w2) (hG : Good w2 g ((xs.drop k).drop mm))
    (hown : OwnB 5 w2 (g + 1) v (xs.take k)) (hown3 : OwnB 5 w3 (g + 1) v' (xs.take k ++ (xs.drop k).take mm)) (hgr : w2.grownBy w3 v.ownBlock) :
    OwnB 5 w3 (g + 1) v' (xs.take (k + mm)) ∧ Good w3 g (xs.drop (k + mm)) ∧ Below w.heap.size w w3 := by
  have hb3 : Below (g + 1) w2 w3 := hown.below_grown (Below.refl _ _) (by have := hG.lt; omega) hgr
  refine ⟨?_, ?_, ?_⟩
  · rw [List.take_add]; exact hown3
  · rw [List.drop_drop] at hG; exact hG.below hb3 (Nat.lt_succ_self _)
  · exact (ho.below hB hB.size hg).trans (hb3.mono (by omega))

end Go.Proofs.Ytdijlfgmpinidaa.Sc
/- Package scan's calls and the document's answers for layer 3, in one form for a scan that is good and one that is bad: what is answered, and what is left. -/
namespace Go.Proofs.Ytdijlfgmpinidaa.Sc
open Go.RowKit Go By Nm

/-- A scan's state: the bytes that are left, or bad. -/
abbrev Sta := Option (List UInt8)
def St (w : World) (g : Nat) : Sta → Prop
  | some xs => Good w g xs
  | none => Dead w g
def RSt (w : World) (g : Nat) : Sta → Prop
  | some xs => RGood w g xs
  | none => RDead w g
def Small : Sta → Prop
  | some xs => xs.length ≤ 2000
  | none => True

theorem St.lt {w : World} {g : Nat} : ∀ {st : Sta}, St w g st → g < w.heap.size
  | some _, h => by obtain ⟨a, c, hk, _⟩ := h; exact hk.lt
  | none, h => Blk.lt h
theorem RSt.lt {w : World} {g : Nat} : ∀ {st : Sta}, RSt w g st → g < w.heap.size
  | some _, h => by obtain ⟨a, c, hk, _⟩ := h; exact hk.lt
  | none, h => by obtain ⟨_, a, c, hk, _⟩ := h; exact hk.lt
theorem St.blk {w : World} {g : Nat} : ∀ {st : Sta}, St w g st → ∃ x a l c, Blk w g 53 [.bool x, .slice a l c]
  | some _, h => by obtain ⟨a, c, hk, _⟩ := h; exact ⟨_, _, _, _, hk⟩
  | none, h => ⟨_, _, _, _, h⟩
theorem St.only {w w' : World} {g gx : Nat} (ho : Only gx w w') (hn : g < gx) : ∀ {st : Sta}, St w g st → St w' g st
  | some xs, h => by
    obtain ⟨a, c, hk, hx, r⟩ := h
    exact ⟨a, c, hk.only ho (by omega), hx.keep fun p hp => World.cell?_of_block (w := w) (ho.at_ (by have := hk.lt; omega) (by omega)), r⟩
  | none, h => Blk.only h ho (by omega)
theorem St.still {w w' : World} {g : Nat} (ho : Still w w') : ∀ {st : Sta}, St w g st → St w' g st
  | some xs, h => by
    obtain ⟨a, c, hk, hx, r⟩ := h
    exact ⟨a, c, hk.still ho, hx.still ho (Nat.le_of_lt hk.lt), r⟩
  | none, h => Blk.still h ho
/-- Bytes lie in no block that holds a scan. -/
theorem ne_blk {w : World} {B g l c : Nat} {a a' : Option Addr} {xs : List UInt8} {x : Bool} {T : TypeId} (h : BytesAt w B a xs) (hp : 0 < xs.length) (hk : Blk w g T [.bool x, .slice a' l c]) : ∀ p, a = some p → p.block ≠ g := by
  intro p hpe hb
  obtain ⟨b, off, e, _, hc⟩ := h hp
  rw [hpe] at e
  injection e with e
  subst e
  have hb' : b = g := hb
  subst hb'
  have h0 := hc 0 hp
  rw [cell_of_row w b _ _ T (0, 0) hk] at h0
  rcases off with _ | _ | off
  · simp at h0
  · simp at h0
  · simp at h0
theorem RSt.only {w w' : World} {g gx : Nat} {st0 : Sta} (hs : St w g st0) (ho : Only g w w') (hn : gx ≠ g) : ∀ {st : Sta}, RSt w gx st → RSt w' gx st
  | some xs, h => by
    obtain ⟨_, _, _, _, hk0⟩ := hs.blk
    obtain ⟨a, c, hk, hx, r⟩ := h
    refine ⟨a, c, hk.only ho hn, fun hp => ?_, r⟩
    exact (hx.only_other ho (Nat.le_of_lt hk.lt) (ne_blk hx hp hk0)) hp
  | none, h => by
    obtain ⟨_, _, _, _, hk0⟩ := hs.blk
    obtain ⟨xs, a, c, hk, hx, r⟩ := h
    refine ⟨xs, a, c, hk.only ho hn, fun hp => ?_, r⟩
    exact (hx.only_other ho (Nat.le_of_lt hk.lt) (ne_blk hx hp hk0)) hp
theorem RSt.still {w w' : World} {g : Nat} (ho : Still w w') : ∀ {st : Sta}, RSt w g st → RSt w' g st
  | some xs, h => by
    obtain ⟨a, c, hk, hx, r⟩ := h
    exact ⟨a, c, hk.still ho, hx.still ho (Nat.le_of_lt hk.lt), r⟩
  | none, h => by
    obtain ⟨xs, a, c, hk, hx, r⟩ := h
    exact ⟨xs, a, c, hk.still ho, hx.still ho (Nat.le_of_lt hk.lt), r⟩

/-- A call answered v, and left the scan at g in this state. -/
def Went (T : World → Nat → Sta → Prop) (g : Nat) (st : Sta) (v : Value) (w : World) (e : Ending) (w' : World) : Prop := e = .returned v ∧ T w' g st ∧ Only g w w'

def numV : Sta → Int → Int
  | some xs, n => if getErr xs.length 0 n = 0 then getI xs 0 n.toNat else 0
  | none, _ => 0
def numS : Sta → Int → Sta
  | some xs, n => if getErr xs.length 0 n = 0 then some (xs.drop n.toNat) else none
  | none, _ => none
theorem num_st (g : Nat) (st : Sta) (n : Int) (w : World) (h : St w g st) :
    Calls Try.prog 12 #[.pointer (some ⟨g, 0, none⟩), .int .i64 n] w (Went St g (numS st n) (.int .i64 (numV st n)) w) := by
  cases st with
  | none => exact (num_dead g n w h).mono fun e w' ⟨he, hw⟩ => by subst hw; exact ⟨he, h, Only.refl _ _⟩
  | some xs =>
    simp only [numS, numV]
    by_cases he : getErr xs.length 0 n = 0
    · have hz := getErr_zero he
      obtain ⟨k, rfl⟩ := Int.eq_ofNat_of_zero_le (by omega : 0 ≤ n)
      rw [if_pos he, if_pos he]
      exact num_yes g xs k w h he
    · rw [if_neg he, if_neg he]
      exact num_no g xs n w h he
theorem rnum_st (g : Nat) (st : Sta) (n : Int) (w : World) (h : RSt w g st) :
    Calls Try.prog 17 #[.pointer (some ⟨g, 0, none⟩), .int .i64 n] w (Went RSt g (numS st n) (.int .i64 (numV st n)) w) := by
  cases st with
  | none => exact rnum_dead g n w h
  | some xs =>
    simp only [numS, numV]
    by_cases he : getErr xs.length 0 n = 0
    · have hz := getErr_zero he
      obtain ⟨k, rfl⟩ := Int.eq_ofNat_of_zero_le (by omega : 0 ≤ n)
      rw [if_pos he, if_pos he]
      exact rnum_yes g xs k w h he
    · rw [if_neg he, if_neg he]
      exact rnum_no g xs n w h he
theorem Small.num {st : Sta} (n : Int) (h : Small st) : Small (numS st n) := by
  cases st with
  | none => trivial
  | some xs =>
    simp only [numS]
    split
    · show (xs.drop _).length ≤ 2000
      have : xs.length ≤ 2000 := h
      rw [List.length_drop]; omega
    · trivial

def textV : Sta → ByteArray
  | some xs => match zeroAt xs with
    | some k => strB (xs.take k)
    | none => ⟨#[]⟩
  | none => ⟨#[]⟩
def textS : Sta → Sta
  | some xs => match zeroAt xs with
    | some k => some (xs.drop (k + 1))
    | none => none
  | none => none
theorem text_st (g : Nat) (st : Sta) (w : World) (h : St w g st) :
    Calls Try.prog 28 #[.pointer (some ⟨g, 0, none⟩)] w (Went St g (textS st) (.string (textV st)) w) := by
  cases st with
  | none => exact (text_dead g w h).mono fun e w' ⟨he, hw⟩ => by subst hw; exact ⟨he, h, Only.refl _ _⟩
  | some xs =>
    simp only [textS, textV]
    cases hz : zeroAt xs with
    | some k => exact text_yes g xs k w h hz
    | none => exact text_no g xs w h hz
theorem rtext_st (g : Nat) (st : Sta) (w : World) (h : RSt w g st) :
    Calls Try.prog 30 #[.pointer (some ⟨g, 0, none⟩)] w (Went RSt g (textS st) (.string (textV st)) w) := by
  cases st with
  | none => exact rtext_dead g w h
  | some xs =>
    simp only [textS, textV]
    cases hz : zeroAt xs with
    | some k => exact rtext_yes g xs k w h hz
    | none => exact rtext_no g xs w h hz
theorem Small.text {st : Sta} (h : Small st) : Small (textS st) := by
  cases st with
  | none => trivial
  | some xs =>
    simp only [textS]
    split
    · show (xs.drop _).length ≤ 2000
      have : xs.length ≤ 2000 := h
      rw [List.length_drop]; omega
    · trivial

def takeB (xs : List UInt8) (n : Int) : Bool := decide (0 ≤ n) && decide (n ≤ xs.length)
def takeL : Sta → Int → List UInt8
  | some xs, n => if takeB xs n = true then xs.take n.toNat else []
  | none, _ => []
def takeS : Sta → Int → Sta
  | some xs, n => if takeB xs n = true then some (xs.drop n.toNat) else none
  | none, _ => none
/-- A call answered these bytes, and left the scan at g in this state. -/
def Gave (T : World → Nat → Sta → Prop) (B : World → Nat) (g : Nat) (st : Sta) (l : List UInt8) (w : World) (e : Ending) (w' : World) : Prop :=
  ∃ a c, e = .returned (.slice a l.length c) ∧ BytesAt w' (B w') a l ∧ T w' g st ∧ Only g w w'
theorem takeB_yes {xs : List UInt8} {n : Int} (h : takeB xs n = true) : 0 ≤ n ∧ n ≤ xs.length := by simpa [takeB] using h
theorem takeB_no {xs : List UInt8} {n : Int} (h : ¬ takeB xs n = true) : n < 0 ∨ (xs.length : Int) < n := by
  simp [takeB] at h; omega
theorem take_st (g : Nat) (st : Sta) (n : Int) (w : World) (h : St w g st) :
    Calls Try.prog 27 #[.pointer (some ⟨g, 0, none⟩), .int .i64 n] w (Gave St (fun _ => g) g (takeS st n) (takeL st n) w) := by
  cases st with
  | none => exact (take_dead g n w h).mono fun e w' ⟨he, hw⟩ => by subst hw; exact ⟨none, 0, he, BytesAt.nil, h, Only.refl _ _⟩
  | some xs =>
    simp only [takeS, takeL]
    by_cases hb : takeB xs n = true
    · have hn := takeB_yes hb
      obtain ⟨k, rfl⟩ := Int.eq_ofNat_of_zero_le hn.1
      rw [if_pos hb, if_pos hb]
      refine (take_yes g xs k w h (by omega)).mono fun e w' hh => ?_
      obtain ⟨a, c, he, h1, _, _, _, h2, h3⟩ := hh
      exact ⟨a, c, by rw [he, Int.toNat_natCast, List.length_take, Nat.min_eq_left (by omega)], h1, h2, h3⟩
    · rw [if_neg hb, if_neg hb]
      exact (take_no g xs n w h (takeB_no hb)).mono fun e w' ⟨he, h1, h2⟩ => ⟨none, 0, he, BytesAt.nil, h1, h2⟩
theorem Small.take {st : Sta} (n : Int) (h : Small st) : Small (takeS st n) := by
  cases st with
  | none => trivial
  | some xs =>
    simp only [takeS]
    split
    · show (xs.drop _).length ≤ 2000
      have : xs.length ≤ 2000 := h
      rw [List.length_drop]; omega
    · trivial

def leftI : Sta → Int
  | some xs => xs.length
  | none => 0
def badB : Sta → Bool
  | some _ => false
  | none => true
def doneB : Sta → Bool
  | some xs => xs.isEmpty
  | none => false
theorem bad_st (g : Nat) (st : Sta) (w : World) (h : St w g st) :
    Calls Try.prog 13 #[.pointer (some ⟨g, 0, none⟩)] w fun e w' => e = .returned (.bool (badB st)) ∧ w = w' := by
  cases st with
  | none => exact bad_dead g w h
  | some xs => exact bad_good g xs w h
theorem done_st (g : Nat) (st : Sta) (w : World) (h : St w g st) :
    Calls Try.prog 15 #[.pointer (some ⟨g, 0, none⟩)] w fun e w' => e = .returned (.bool (doneB st)) ∧ w = w' := by
  cases st with
  | none => exact done_dead g w h
  | some xs => exact done_good g xs w h
theorem rdone_st (g : Nat) (st : Sta) (w : World) (h : RSt w g st) :
    Calls Try.prog 19 #[.pointer (some ⟨g, 0, none⟩)] w fun e w' => e = .returned (.bool (doneB st)) ∧ w = w' := by
  cases st with
  | none => exact rdone_dead g w h
  | some xs => exact rdone_good g xs w h
theorem RSt.no {w : World} {g : Nat} {st : Sta} (h : RSt w g st) : w.cell? ⟨g, 1, none⟩ = some (.bool (badB st)) := by
  cases st with
  | none => obtain ⟨_, a, c, hk, _⟩ := h; exact hk.cell 1 _ rfl
  | some xs => obtain ⟨a, c, hk, _⟩ := h; exact hk.cell 1 _ rfl
end Go.Proofs.Ytdijlfgmpinidaa.Sc
namespace Go.Proofs.Ytdijlfgmpinidaa.He
open Go.RowKit Go By Nm Sc

theorem strB_inj {xs ys : List UInt8} (h : strB xs = strB ys) : xs = ys := by
  have := congrArg (fun b : ByteArray => b.data.toList) h
  simpa [strB] using this
theorem strB_of (s : ByteArray) : strB s.data.toList = s := by
  apply ByteArray.ext
  simp [strB]

/-- The text that is read in a state. -/
def textL : Sta → List UInt8
  | some xs => match zeroAt xs with
    | some k => xs.take k
    | none => []
  | none => []
theorem textV_eq (st : Sta) : textV st = strB (textL st) := by
  cases st with
  | none => rfl
  | some xs =>
    simp only [textV, textL]
    cases zeroAt xs <;> rfl
def lenS : Sta → Nat
  | some xs => xs.length
  | none => 0
theorem textS_len (st : Sta) : lenS (textS st) ≤ lenS st := by
  cases st with
  | none => exact Nat.le_refl _
  | some xs =>
    simp only [textS]
    cases zeroAt xs with
    | none => exact Nat.zero_le _
    | some k => simp [lenS]
theorem textS_lt {st : Sta} (h : textL st ≠ []) : lenS (textS st) < lenS st := by
  cases st with
  | none => exact absurd rfl h
  | some xs =>
    simp only [textS, textL] at *
    cases hz : zeroAt xs with
    | none => rw [hz] at h; exact absurd rfl h
    | some k => have := (zeroAt_some hz).1; simp [lenS]; omega

/-- A pair: its name and its value. -/
abbrev Pr := List UInt8 × List UInt8
/-- The pairs that are read from a state on, up to an empty name, and the state behind it. -/
inductive Prs : Sta → List Pr → Sta → Prop
  | stop (st : Sta) : textL st = [] → Prs st [] (textS st)
  | step (st : Sta) (l : List Pr) (s : Sta) : textL st ≠ [] → Prs (textS (textS st)) l s → Prs st ((textL st, textL (textS st)) :: l) s
theorem Prs.total (st : Sta) : ∃ l s, Prs st l s := by
  suffices h : ∀ n st, lenS st ≤ n → ∃ l s, Prs st l s from h _ st (Nat.le_refl _)
  intro n
  induction n with
  | zero => exact fun st h => ⟨_, _, .stop st (Classical.byContradiction fun hn => by have := textS_lt hn; omega)⟩
  | succ n ih =>
    intro st h
    by_cases he : textL st = []
    · exact ⟨_, _, .stop st he⟩
    · have h1 := textS_lt he
      have h2 := textS_len (textS st)
      obtain ⟨l, s, hp⟩ := ih (textS (textS st)) (by omega)
      exact ⟨_, _, .step st l s he hp⟩
theorem Prs.unique {st s s' : Sta} {l l' : List Pr} (h : Prs st l s) (k : Prs st l' s') : l = l' ∧ s = s' := by
  induction h generalizing l' s' with
  | stop st he => cases k with
    | stop _ _ => exact ⟨rfl, rfl⟩
    | step _ _ _ hn _ => exact absurd he hn
  | step st l s hn _ ih => cases k with
    | stop _ he => exact absurd he hn
    | step _ l2 _ _ hk => obtain ⟨e1, e2⟩ := ih hk; rw [e1, e2]; exact ⟨rfl, rfl⟩
theorem Prs.len {st s : Sta} {l : List Pr} (h : Prs st l s) : l.length ≤ lenS st := by
  induction h with
  | stop st _ => exact Nat.zero_le _
  | step st l s hn _ ih => have h1 := textS_lt hn; have h2 := textS_len (textS st); simp only [List.length_cons]; omega

/-- A text with its byte 0, pairs with the empty name behind them. -/
def encT (t : List UInt8) : List UInt8 := t ++ [0]
def encP (ps : List Pr) : List UInt8 := ps.flatMap fun p => encT p.1 ++ encT p.2
def okP (p : Pr) : Bool := !p.1.isEmpty && Dg.cleanB p.1 && Dg.cleanB p.2
theorem clean_at {t : List UInt8} (h : Dg.cleanB t = true) (j : Nat) (hj : j < t.length) : t.getD j 0 ≠ 0 := fun h0 => by
  rw [Dg.clean_no hj h0] at h; cases h
theorem zeroAt_enc {t : List UInt8} (r : List UInt8) (h : Dg.cleanB t = true) : zeroAt (encT t ++ r) = some t.length := by
  refine zeroAt_of (by simp [encT]) ?_ fun j hj => ?_
  · simp [encT, List.getD_eq_getElem?_getD]
  · rw [encT, List.append_assoc, List.getD_eq_getElem?_getD, List.getElem?_append_left hj, ← List.getD_eq_getElem?_getD]
    exact clean_at h j hj
theorem text_enc {t : List UInt8} (r : List UInt8) (h : Dg.cleanB t = true) : textL (some (encT t ++ r)) = t ∧ textS (some (encT t ++ r)) = some r := by
  simp only [textL, textS, zeroAt_enc r h]
  constructor
  · simp [encT]
  · rw [List.drop_append_of_le_length (by simp [encT])]
    simp [encT]
/-- What is read of a text is its bytes. -/
theorem text_back {xs r : List UInt8} (h : textS (some xs) = some r) : xs = encT (textL (some xs)) ++ r ∧ Dg.cleanB (textL (some xs)) = true := by
  simp only [textS, textL] at *
  cases hz : zeroAt xs with
  | none => rw [hz] at h; cases h
  | some k =>
    rw [hz] at h
    injection h with h
    obtain ⟨h1, h2, h3⟩ := zeroAt_some hz
    subst h
    refine ⟨?_, Dg.clean_yes fun j hj => ?_⟩
    · have e : xs = xs.take k ++ xs.drop k := (List.take_append_drop k xs).symm
      rw [List.drop_eq_getElem_cons h1] at e
      have e0 : xs[k] = 0 := by rw [List.getD_eq_getElem?_getD, List.getElem?_eq_getElem h1] at h2; exact h2
      rw [e0] at e
      simpa [encT] using e
    · have hj' : j < k := by simp at hj; omega
      rw [List.getD_eq_getElem?_getD, List.getElem?_take, if_pos hj', ← List.getD_eq_getElem?_getD]
      exact h3 j hj'
theorem textS_none {st : Sta} (h : textS st = none) : textL st = [] := by
  cases st with
  | none => rfl
  | some xs =>
    simp only [textS, textL] at *
    cases hz : zeroAt xs with
    | none => rfl
    | some k => rw [hz] at h; cases h
theorem Prs.none_ {l : List Pr} {s : Sta} (h : Prs none l s) : l = [] ∧ s = none := by
  cases h with
  | stop _ _ => exact ⟨rfl, rfl⟩
  | step _ _ _ hn _ => exact absurd rfl hn
theorem Prs.of_enc : ∀ (ps : List Pr) (r : List UInt8), (∀ p ∈ ps, okP p = true) → Prs (some (encP ps ++ (0 :: r))) ps (some r)
  | [], r, _ => by
    have h := text_enc (t := []) r rfl
    have := Prs.stop (some (encT [] ++ r)) h.1
    rw [h.2] at this
    exact this
  | p :: ps, r, hp => by
    have h0 := hp p (List.mem_cons_self ..)
    simp only [okP, Bool.and_eq_true, Bool.not_eq_true'] at h0
    have e : encP (p :: ps) ++ (0 :: r) = encT p.1 ++ (encT p.2 ++ (encP ps ++ (0 :: r))) := by simp [encP]
    have h1 := text_enc (encT p.2 ++ (encP ps ++ (0 :: r))) h0.1.2
    have h2 := text_enc (encP ps ++ (0 :: r)) h0.2
    have ih := Prs.of_enc ps r fun q hq => hp q (List.mem_cons_of_mem _ hq)
    rw [e]
    have := Prs.step (some (encT p.1 ++ (encT p.2 ++ (encP ps ++ (0 :: r))))) ps (some r) (by rw [h1.1]; intro hh; rw [hh] at h0; simp at h0) (by rw [h1.2, h2.2]; exact ih)
    rw [h1.1, h1.2, h2.1] at this
    exact this
theorem Prs.back {st s : Sta} {l : List Pr} (h : Prs st l s) : ∀ xs r, st = some xs → s = some r → xs = encP l ++ (0 :: r) ∧ ∀ p ∈ l, okP p = true := by
  induction h with
  | stop st he =>
    intro xs r hx hs
    subst hx
    obtain ⟨e, _⟩ := text_back hs
    rw [he] at e
    exact ⟨by simpa [encP, encT] using e, fun p hp => by cases hp⟩
  | step st l s hn hk ih =>
    intro xs r hx hs
    subst hx
    cases h1 : textS (some xs) with
    | none => exact absurd (textS_none h1) hn
    | some y =>
      rw [h1] at hk ih
      cases h2 : textS (some y) with
      | none =>
        rw [h2] at hk
        have := hk.none_.2
        rw [hs] at this
        cases this
      | some z =>
        obtain ⟨e1, c1⟩ := text_back h1
        obtain ⟨e2, c2⟩ := text_back h2
        obtain ⟨e3, c3⟩ := ih z r h2 hs
        refine ⟨?_, fun p hp => ?_⟩
        · generalize textL (some xs) = t1 at *
          generalize textL (some y) = t2 at *
          rw [e1, e2, e3]
          simp [encP]
        · rcases List.mem_cons.1 hp with rfl | hp
          · simp only [okP, Bool.and_eq_true, Bool.not_eq_true']
            exact ⟨⟨by simpa using hn, c1⟩, c2⟩
          · exact c3 p hp
end Go.Proofs.Ytdijlfgmpinidaa.He
