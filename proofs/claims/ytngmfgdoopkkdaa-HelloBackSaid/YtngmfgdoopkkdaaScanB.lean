/- The contracts of package scan's Take, Num and Text, at a scan that a call made. -/
import Derived.Test.YtngmfgdoopkkdaaScanA
import Derived.Lib.BytesEntry
namespace Go.Proofs.Ytngmfgdoopkkdaa.Sc
set_option maxRecDepth 100000
open Go.RowKit Go By Nm

theorem elem_bytes : Try.prog.elem 22 = 5 := by kernel_rfl
theorem size_byte (w : World) : (sizeOf 5).run Try.prog w = .ok 1 w := by
  simp [sizeOf, go_sem]
  rfl

/-- A cut from the beginning, without room behind it. -/
theorem cut_to (w : World) (B : Nat) (a : Option Addr) (c : Nat) (xs : List UInt8) (n : Nat) (h : BytesAt w B a xs) (hc0 : a = none → c = 0) (hl : xs.length ≤ c) (hm : c ≤ maxLen) (hn : n ≤ xs.length) :
    ∃ A C, (Instr.slice 22 (.slice a xs.length c) none (some (.int .i64 n)) (some (.int .i64 n))).run Try.prog w = .ok (.slice A n C) w ∧ BytesAt w B A (xs.take n) ∧ (A = none → C = 0) ∧ n ≤ C ∧ C ≤ maxLen := by
  obtain ⟨A, C, e, hb, hA, hC, hM⟩ := sliced_bytes (l := 0) (h := n) (m := n) h (Nat.zero_le _) hn (Nat.le_refl _) (fun hh => by have := hc0 hh; omega) (by omega)
  refine ⟨A, C, ?_, by simpa using hb, hA, by omega, hM⟩
  rw [run_slice_hm w 22 a xs.length c (by kernel_rfl) .i64 .i64 n n (by omega) (by omega) (by omega), elem_bytes, size_byte]
  simp only [Result.andThen, Int.toNat_natCast]
  rw [e]; rfl
/-- A cut up to the end. -/
theorem cut_from (w : World) (B : Nat) (a : Option Addr) (c : Nat) (xs : List UInt8) (n : Nat) (h : BytesAt w B a xs) (hc0 : a = none → c = 0) (hl : xs.length ≤ c) (hm : c ≤ maxLen) (hn : n ≤ xs.length) :
    ∃ A C, (Instr.slice 22 (.slice a xs.length c) (some (.int .i64 n)) none none).run Try.prog w = .ok (.slice A (xs.length - n) C) w ∧ BytesAt w B A (xs.drop n) ∧ (A = none → C = 0) ∧ xs.length - n ≤ C ∧ C ≤ maxLen := by
  obtain ⟨A, C, e, hb, hA, hC, hM⟩ := sliced_bytes (l := n) (h := xs.length) (m := c) h hn (Nat.le_refl _) hl hc0 hm
  refine ⟨A, C, ?_, by simpa using hb, hA, by omega, hM⟩
  rw [run_slice_l w 22 a xs.length c (by kernel_rfl) .i64 n (by omega) (by omega), elem_bytes, size_byte]
  simp only [Result.andThen, Int.toNat_natCast]
  rw [e]
/-- A cut from the beginning, with the room behind it. -/
theorem cut_head (w : World) (B : Nat) (a : Option Addr) (c : Nat) (xs : List UInt8) (n : Nat) (h : BytesAt w B a xs) (hc0 : a = none → c = 0) (hl : xs.length ≤ c) (hm : c ≤ maxLen) (hn : n ≤ xs.length) :
    ∃ A C, (Instr.slice 22 (.slice a xs.length c) none (some (.int .i64 n)) none).run Try.prog w = .ok (.slice A n C) w ∧ BytesAt w B A (xs.take n) ∧ (A = none → C = 0) ∧ n ≤ C ∧ C ≤ maxLen := by
  obtain ⟨A, C, e, hb, hA, hC, hM⟩ := sliced_bytes (l := 0) (h := n) (m := c) h (Nat.zero_le _) hn (by omega) hc0 hm
  refine ⟨A, C, ?_, by simpa using hb, hA, by omega, hM⟩
  rw [run_slice_h w 22 a xs.length c (by kernel_rfl) .i64 n (by omega) (by omega), elem_bytes, size_byte]
  simp only [Result.andThen, Int.toNat_natCast]
  rw [e]; rfl

/-- The next n bytes were taken. -/
def Took (g : Nat) (xs : List UInt8) (n : Nat) (w : World) (e : Ending) (w' : World) : Prop :=
  ∃ a c, e = .returned (.slice a n c) ∧ BytesAt w' g a (xs.take n) ∧ (a = none → c = 0) ∧ n ≤ c ∧ c ≤ maxLen ∧ Good w' g (xs.drop n) ∧ Only g w w'

set_option maxHeartbeats 400000 in
theorem take_yes (g : Nat) (xs : List UInt8) (n : Nat) (w : World) (h : Good w g xs) (hn : n ≤ xs.length) :
    Calls Try.prog 73 #[.pointer (some ⟨g, 0, none⟩), .int .i64 n] w (Took g xs n w) := by
  have H := Lib.hid h
  obtain ⟨a, c, hb, hx, hc0, hl, hm⟩ := h
  obtain ⟨A1, C1, s1, b1, n1, l1, m1⟩ := cut_to w g a c xs n hx hc0 hl hm hn
  obtain ⟨A2, C2, s2, b2, n2, l2, m2⟩ := cut_from w g a c xs n hx hc0 hl hm hn
  have c1 := hb.cell 1 _ rfl
  have f1 := hb.frozen 1
  have HB := Lib.hid hb
  have HK : Hid (BytesAt (w.setCell ⟨g, 1, none⟩ (.slice A2 (xs.length - n) C2)) g A1 (xs.take n) ∧ (A1 = none → C1 = 0) ∧ n ≤ C1 ∧ C1 ≤ maxLen ∧ Good (w.setCell ⟨g, 1, none⟩ (.slice A2 (xs.length - n) C2)) g (xs.drop n) ∧ Only g w (w.setCell ⟨g, 1, none⟩ (.slice A2 (xs.length - n) C2))) := by
    have ho := (Only.refl g w).set 1 (.slice A2 (xs.length - n) C2)
    have hg : g ≤ w.heap.size := Nat.le_of_lt hb.lt
    refine ⟨b1.only ho hg, n1, l1, m1, ⟨A2, C2, ?_, b2.only ho hg, n2, by rw [List.length_drop]; exact l2, m2⟩, ho⟩
    have := hb.set 1 (.slice A2 (xs.length - n) C2)
    rw [List.length_drop]
    exact this
  obtain ⟨len, HL⟩ : ∃ len, Hid (xs.length = len) := ⟨_, rfl⟩
  unfold maxLen at hm
  rw [HL.out] at s1 s2 c1 hn HK hl
  clear hb hx hc0 b1 n1 l1 m1 b2 n2 l2 m2
  go_enter Try.func73, Try.ntmps73
  go_wp2_with (go_at_call 33; refine (bad_good _ _ _ H.out).mono ?_; rintro e w' ⟨rfl, rfl⟩)
  go_ret
  exact ⟨A1, C1, rfl, HK.out⟩

/-- It is bad now, and nothing was answered. -/
def Fails (g : Nat) (v : Value) (w : World) (e : Ending) (w' : World) : Prop := e = .returned v ∧ Dead w' g ∧ Only g w w'

set_option maxHeartbeats 400000 in
theorem take_no (g : Nat) (xs : List UInt8) (n : Int) (w : World) (h : Good w g xs) (hn : n < 0 ∨ (xs.length : Int) < n) :
    Calls Try.prog 73 #[.pointer (some ⟨g, 0, none⟩), .int .i64 n] w (Fails g (.slice none 0 0) w) := by
  have H := Lib.hid h
  obtain ⟨a, c, hb, hx, hc0, hl, hm⟩ := h
  have c1 := hb.cell 1 _ rfl
  have HB := Lib.hid hb
  obtain ⟨len, HL⟩ : ∃ len, Hid (xs.length = len) := ⟨_, rfl⟩
  rw [HL.out] at c1 hn
  clear hb hx hc0 hl hm
  by_cases h0 : n < 0
  · clear hn
    go_enter Try.func73, Try.ntmps73
    go_wp2_with (first | (go_at_call 33; refine (bad_good _ _ _ H.out).mono ?_; rintro e w' ⟨rfl, rfl⟩) | (go_at_call 72; refine (fail_any _ _ _ _ HB.out).mono ?_; rintro e w1 ⟨rfl, hd, ho⟩; have HD := Lib.hid hd; have HO := Lib.hid ho; clear hd ho))
    go_ret
    exact ⟨rfl, HD.out, HO.out⟩
  · have h1 : (len : Int) < n := by omega
    clear hn
    go_enter Try.func73, Try.ntmps73
    go_wp2_with (first | (go_at_call 33; refine (bad_good _ _ _ H.out).mono ?_; rintro e w' ⟨rfl, rfl⟩) | (go_at_call 72; refine (fail_any _ _ _ _ HB.out).mono ?_; rintro e w1 ⟨rfl, hd, ho⟩; have HD := Lib.hid hd; have HO := Lib.hid ho; clear hd ho))
    go_ret
    exact ⟨rfl, HD.out, HO.out⟩
theorem take_dead (g : Nat) (n : Int) (w : World) (h : Dead w g) :
    Calls Try.prog 73 #[.pointer (some ⟨g, 0, none⟩), .int .i64 n] w fun e w' => e = .returned (.slice none 0 0) ∧ w = w' := by
  have H := Lib.hid h
  clear h
  go_enter Try.func73, Try.ntmps73
  go_wp2_with (go_at_call 33; refine (bad_dead _ _ H.out).mono ?_; rintro e w' ⟨rfl, rfl⟩)
  go_ret
  exact ⟨rfl, rfl⟩

theorem num_dead (g : Nat) (n : Int) (w : World) (h : Dead w g) :
    Calls Try.prog 32 #[.pointer (some ⟨g, 0, none⟩), .int .i64 n] w fun e w' => e = .returned (.int .i64 0) ∧ w = w' := by
  have H := Lib.hid h
  clear h
  go_enter Try.func32, Try.ntmps32
  go_wp2_with (go_at_call 33; refine (bad_dead _ _ H.out).mono ?_; rintro e w' ⟨rfl, rfl⟩)
  go_ret
  exact ⟨rfl, rfl⟩
theorem num_nil (n : Int) (w : World) :
    Calls Try.prog 32 #[.pointer none, .int .i64 n] w fun e w' => e = .returned (.int .i64 0) ∧ w = w' := by
  go_enter Try.func32, Try.ntmps32
  go_wp2_with (go_at_call 33; refine (bad_nil _).mono ?_; rintro e w' ⟨rfl, rfl⟩)
  go_ret
  exact ⟨rfl, rfl⟩
theorem text_dead (g : Nat) (w : World) (h : Dead w g) :
    Calls Try.prog 74 #[.pointer (some ⟨g, 0, none⟩)] w fun e w' => e = .returned (.string ⟨#[]⟩) ∧ w = w' := by
  have H := Lib.hid h
  clear h
  go_enter Try.func74, Try.ntmps74
  go_wp2_with (go_at_call 33; refine (bad_dead _ _ H.out).mono ?_; rintro e w' ⟨rfl, rfl⟩)
  go_ret
  exact ⟨rfl, rfl⟩
theorem text_nil (w : World) :
    Calls Try.prog 74 #[.pointer none] w fun e w' => e = .returned (.string ⟨#[]⟩) ∧ w = w' := by
  go_enter Try.func74, Try.ntmps74
  go_wp2_with (go_at_call 33; refine (bad_nil _).mono ?_; rintro e w' ⟨rfl, rfl⟩)
  go_ret
  exact ⟨rfl, rfl⟩

theorem getErr_two {len : Nat} {i size : Int} : getErr len i size = 0 ∨ getErr len i size = 1 ∨ getErr len i size = 3 := by
  unfold getErr; split
  · exact .inr (.inl rfl)
  · split
    · exact .inr (.inr rfl)
    · exact .inl rfl
theorem getErr_zero {len : Nat} {size : Int} (h : getErr len 0 size = 0) : 1 ≤ size ∧ size ≤ 4 ∧ size ≤ len := by
  unfold getErr at h
  split at h
  · omega
  · rename_i h1
    have hs : szB size = true := by cases hh : szB size <;> simp_all
    have := szB_four hs
    split at h
    · omega
    · omega

/-- The next number was read. -/
def Read (g : Nat) (xs : List UInt8) (n : Nat) (v : Value) (w : World) (e : Ending) (w' : World) : Prop := e = .returned v ∧ Good w' g (xs.drop n) ∧ Only g w w'

set_option maxHeartbeats 400000 in
theorem num_yes (g : Nat) (xs : List UInt8) (size : Nat) (w : World) (h : Good w g xs) (he : getErr xs.length 0 size = 0) :
    Calls Try.prog 32 #[.pointer (some ⟨g, 0, none⟩), .int .i64 size] w (Read g xs size (.int .i64 (getI xs 0 size)) w) := by
  have H := Lib.hid h
  have hz := getErr_zero he
  obtain ⟨a, c, hb, hx, hc0, hl, hm⟩ := h
  have c1 := hb.cell 1 _ rfl
  unfold maxLen at hm
  have hg := get_any g a c xs 0 size w (by omega) hx
  have e1 : gotten xs 0 size = .tuple #[.int .i64 (getI xs 0 size), .int .i64 0] := by
    unfold gotten getVal; rw [he]; simp
  rw [e1] at hg
  have HG := Lib.hid hg
  have HZ : Hid (size ≤ xs.length) := by have := hz.2.2; exact Lib.hid (by omega)
  obtain ⟨len, HL⟩ : ∃ len, Hid (xs.length = len) := ⟨_, rfl⟩
  rw [HL.out] at c1 HG
  clear hb hx hc0 hl hm hg e1 hz he
  go_enter Try.func32, Try.ntmps32
  go_wp2_with (first
    | (go_at_call 33; refine (bad_good _ _ _ H.out).mono ?_; rintro e w' ⟨rfl, rfl⟩)
    | (go_at_call 71; refine HG.out.mono ?_; rintro e w' ⟨rfl, rfl⟩)
    | (go_at_call 73; refine (take_yes _ _ _ _ H.out HZ.out).mono ?_; rintro e w1 ⟨a1, c1, rfl, hq⟩; have HQ := Lib.hid hq; clear hq))
  go_ret
  exact ⟨rfl, HQ.out.2.2.2.2⟩

set_option maxHeartbeats 400000 in
theorem num_no (g : Nat) (xs : List UInt8) (size : Int) (w : World) (h : Good w g xs) (he : getErr xs.length 0 size ≠ 0) :
    Calls Try.prog 32 #[.pointer (some ⟨g, 0, none⟩), .int .i64 size] w (Fails g (.int .i64 0) w) := by
  have H := Lib.hid h
  obtain ⟨a, c, hb, hx, hc0, hl, hm⟩ := h
  have c1 := hb.cell 1 _ rfl
  have HB := Lib.hid hb
  unfold maxLen at hm
  have hg := get_any g a c xs 0 size w (by omega) hx
  rcases (getErr_two : getErr xs.length 0 size = 0 ∨ _) with h0 | h1 | h1
  · exact absurd h0 he
  all_goals
    have e1 : ∃ k : Int, gotten xs 0 size = .tuple #[.int .i64 0, .int .i64 k] ∧ (k == 0) = false := by
      unfold gotten getVal; rw [h1]; exact ⟨_, rfl, rfl⟩
    obtain ⟨k, e1, hk⟩ := e1
    rw [e1] at hg
    have HG := Lib.hid hg
    have hk2 : (k != 0) = true := by simp [bne, hk]
    obtain ⟨len, HL⟩ : ∃ len, Hid (xs.length = len) := ⟨_, rfl⟩
    rw [HL.out] at c1 HG
    clear hb hx hc0 hl hm hg e1 he h1
    go_enter Try.func32, Try.ntmps32
    go_wp2_with (first
      | (go_at_call 33; refine (bad_good _ _ _ H.out).mono ?_; rintro e w' ⟨rfl, rfl⟩)
      | (go_at_call 71; refine HG.out.mono ?_; rintro e w' ⟨rfl, rfl⟩)
      | (go_at_call 72; refine (fail_any _ _ _ _ HB.out).mono ?_; rintro e w1 ⟨rfl, hd, ho⟩; have HD := Lib.hid hd; have HO := Lib.hid ho; clear hd ho))
    go_ret
    exact ⟨rfl, HD.out, HO.out⟩

/-- Where the first byte 0 stands. -/
def zeroAt : List UInt8 → Option Nat
  | [] => none
  | b :: l => if b == 0 then some 0 else (zeroAt l).map (· + 1)
theorem zeroAt_some : ∀ {xs : List UInt8} {k : Nat}, zeroAt xs = some k → k < xs.length ∧ xs.getD k 0 = 0 ∧ ∀ j, j < k → xs.getD j 0 ≠ 0
  | [], k, h => by simp [zeroAt] at h
  | b :: l, k, h => by
    unfold zeroAt at h
    by_cases hb : b = 0
    · subst hb
      simp at h
      subst h
      exact ⟨by simp, rfl, fun j hj => by omega⟩
    · have hb1 : (b == 0) = false := by simpa using hb
      rw [hb1] at h
      simp at h
      obtain ⟨m, hm, rfl⟩ := h
      obtain ⟨h1, h2, h3⟩ := zeroAt_some hm
      refine ⟨by simp; omega, by simpa using h2, fun j hj => ?_⟩
      cases j with
      | zero => simpa using hb
      | succ j => simpa using h3 j (by omega)
theorem zeroAt_none : ∀ {xs : List UInt8}, zeroAt xs = none → ∀ j, j < xs.length → xs.getD j 0 ≠ 0
  | [], _, j, hj => by simp at hj
  | b :: l, h, j, hj => by
    unfold zeroAt at h
    by_cases hb : b = 0
    · subst hb; simp at h
    · have hb1 : (b == 0) = false := by simpa using hb
      rw [hb1] at h
      simp at h
      cases j with
      | zero => simpa using hb
      | succ j => simpa using zeroAt_none h j (by simpa using hj)
theorem zeroAt_of {xs : List UInt8} {k : Nat} (h1 : k < xs.length) (h2 : xs.getD k 0 = 0) (h3 : ∀ j, j < k → xs.getD j 0 ≠ 0) : zeroAt xs = some k := by
  cases h : zeroAt xs with
  | none => exact absurd h2 (zeroAt_none h k h1)
  | some m =>
    obtain ⟨a1, a2, a3⟩ := zeroAt_some h
    rcases Nat.lt_trichotomy m k with hk | hk | hk
    · exact absurd a2 (h3 m hk)
    · rw [hk]
    · exact absurd h2 (a3 k hk)
theorem zeroAt_of_none {xs : List UInt8} (h3 : ∀ j, j < xs.length → xs.getD j 0 ≠ 0) : zeroAt xs = none := by
  cases h : zeroAt xs with
  | none => rfl
  | some m => obtain ⟨a1, a2, _⟩ := zeroAt_some h; exact absurd a2 (h3 m a1)
theorem indexByte_zero : ∀ xs : List UInt8, Lib.indexByte xs 0 = match zeroAt xs with | none => -1 | some k => (k : Int)
  | [] => rfl
  | b :: l => by
    have ih := indexByte_zero l
    unfold Lib.indexByte zeroAt
    by_cases hb : (b == 0) = true
    · rw [if_pos hb, if_pos hb]; rfl
    · rw [if_neg hb, if_neg hb, ih]
      cases zeroAt l with
      | none => rfl
      | some k => simp

theorem indexByte_any (B : Nat) (a : Option Addr) (cap : Nat) (xs : List UInt8) (w : World) (hb : BytesAt w B a xs) :
    Calls Try.prog 101 #[.slice a xs.length cap, .int .u8 0] w fun e w' => e = .returned (.int .i64 (Lib.indexByte xs 0)) ∧ w = w' := by
  have hr : (Extern.BytealgIndexByte.indexByte #[.slice a xs.length cap, .int .u8 0]).run Try.prog w = .ok (.int .i64 (Lib.indexByte xs 0)) w := by
    cases xs with
    | nil =>
      cases a with
      | none => exact Lib.run_indexByteNil w _ _ _
      | some ad =>
        obtain ⟨b, off, spot⟩ := ad
        cases spot with
        | none => exact Lib.run_indexByteSlice w b off 0 cap [] rfl (fun i hi => by omega) 0
        | some s => kernel_rfl
    | cons x l =>
      obtain ⟨b, off, rfl, _, hc⟩ := hb (by simp)
      have := Lib.run_indexByteSlice (P := Try.prog) w b off (x :: l).length cap ((x :: l).map fun c => (c.toNat : Int)) (by simp) (fun i hi => by
        rw [hc i hi]
        unfold byteAt
        simp only [List.getD_eq_getElem?_getD, List.getElem?_map, List.getElem?_eq_getElem hi, Option.map_some, Option.getD_some]) 0
      rw [this]
      have e : Lib.bytesOf ((x :: l).map fun c => (c.toNat : Int)) = x :: l := by
        unfold Lib.bytesOf
        rw [List.map_map]
        have e2 : ((fun n : Int => n.toNat.toUInt8) ∘ fun c : UInt8 => (c.toNat : Int)) = id := by
          funext c; simp
        first | rw [e2, List.map_id] | skip
      rw [e]; rfl
  go_enter Try.func101, Try.ntmps101
  go_wp2
  rw [run_callFunc_extern Try.func112 (by kernel_rfl) (by kernel_rfl) (by kernel_rfl) (e := Extern.BytealgIndexByte.indexByte) (by kernel_rfl), hr]
  simp only [Result.andThen]
  rw [Oper.upon_value]
  go_wp2
  go_ret
  exact ⟨rfl, rfl⟩

theorem take_at (g : Nat) (xs : List UInt8) (n : Int) (m : Nat) (w : World) (hn : n = (m : Int)) (h : Good w g xs) (hm : m ≤ xs.length) :
    Calls Try.prog 73 #[.pointer (some ⟨g, 0, none⟩), .int .i64 n] w (Took g xs m w) := by
  subst hn; exact take_yes g xs m w h hm

set_option maxHeartbeats 400000 in
theorem text_yes (g : Nat) (xs : List UInt8) (k : Nat) (w : World) (h : Good w g xs) (hk : zeroAt xs = some k) :
    Calls Try.prog 74 #[.pointer (some ⟨g, 0, none⟩)] w (Read g xs (k + 1) (.string (strB (xs.take k))) w) := by
  have H := Lib.hid h
  have hz := zeroAt_some hk
  obtain ⟨a, c, hb, hx, hc0, hl, hm⟩ := h
  have c1 := hb.cell 1 _ rfl
  unfold maxLen at hm
  have hg := indexByte_any g a c xs w hx
  rw [indexByte_zero, hk] at hg
  have HG := Lib.hid hg
  have HZ := Lib.hid hz.1
  have hk2 : k ≤ 9223372036854775806 := by omega
  obtain ⟨len, HL⟩ : ∃ len, Hid (xs.length = len) := ⟨_, rfl⟩
  rw [HL.out] at c1 HG
  clear hb hx hc0 hl hm hg hz hk
  go_enter Try.func74, Try.ntmps74
  go_wp2_with fail
  refine (bad_good _ _ _ H.out).mono ?_
  rintro e w' ⟨rfl, rfl⟩
  go_wp2_with fail
  refine HG.out.mono ?_
  rintro e w' ⟨rfl, rfl⟩
  go_wp2_with fail
  refine (take_at g xs _ (k + 1) _ (by omega) H.out HZ.out).mono ?_
  rintro e w1 ⟨a1, c1, rfl, b1, n1, l1, m1, hg1, ho1⟩
  have HQ := Lib.hid (And.intro hg1 ho1)
  have hl1 : (xs.take (k + 1)).length = k + 1 := by have := HZ.out; simp; omega
  obtain ⟨A, C, s, bA, _, _, _⟩ := cut_head w1 g a1 c1 (xs.take (k + 1)) k b1 n1 (by omega) m1 (by omega)
  have e2 : (xs.take (k + 1)).take k = xs.take k := by rw [List.take_take]; congr 1; omega
  rw [e2] at bA
  rw [hl1] at s
  have r := run_convert_bytesAt (P := Try.prog) 22 5 9 Try.underlying22 Try.underlying5 Try.underlying9 w1 g A C (xs.take k) bA
  have hl2 : (xs.take k).length = k := by have := HZ.out; simp; omega
  rw [hl2] at r
  clear hg1 ho1 b1 n1 l1 m1 hl1 e2 hl2 bA
  go_wp2
  go_ret
  exact ⟨rfl, HQ.out⟩

set_option maxHeartbeats 400000 in
theorem text_no (g : Nat) (xs : List UInt8) (w : World) (h : Good w g xs) (hk : zeroAt xs = none) :
    Calls Try.prog 74 #[.pointer (some ⟨g, 0, none⟩)] w (Fails g (.string ⟨#[]⟩) w) := by
  have H := Lib.hid h
  obtain ⟨a, c, hb, hx, hc0, hl, hm⟩ := h
  have c1 := hb.cell 1 _ rfl
  have HB := Lib.hid hb
  have hg := indexByte_any g a c xs w hx
  rw [indexByte_zero, hk] at hg
  have HG := Lib.hid hg
  obtain ⟨len, HL⟩ : ∃ len, Hid (xs.length = len) := ⟨_, rfl⟩
  rw [HL.out] at c1 HG
  clear hb hx hc0 hl hm hg hk
  go_enter Try.func74, Try.ntmps74
  go_wp2_with (first
    | (go_at_call 33; refine (bad_good _ _ _ H.out).mono ?_; rintro e w' ⟨rfl, rfl⟩)
    | (go_at_call 101; refine HG.out.mono ?_; rintro e w' ⟨rfl, rfl⟩)
    | (go_at_call 72; refine (fail_any _ _ _ _ HB.out).mono ?_; rintro e w1 ⟨rfl, hd, ho⟩; have HD := Lib.hid hd; have HO := Lib.hid ho; clear hd ho))
  go_ret
  exact ⟨rfl, HD.out, HO.out⟩
end Go.Proofs.Ytngmfgdoopkkdaa.Sc
