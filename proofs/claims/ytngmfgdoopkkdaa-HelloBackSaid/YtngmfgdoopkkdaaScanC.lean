/- The contracts of scan.New and of the document's answer for layer 3 (New, Num, Text, Take, Left, Done), at a scan that a call made. -/
import Derived.Test.YtngmfgdoopkkdaaScanB
namespace Go.Proofs.Ytngmfgdoopkkdaa.Sc
set_option maxRecDepth 100000
open Go.RowKit Go By Nm

/-- A new scan that has these bytes left. -/
def NewScan (P : World → Nat → List UInt8 → Prop) (xs : List UInt8) (w : World) (e : Ending) (w' : World) : Prop :=
  ∃ g, e = .returned (.pointer (some ⟨g, 0, none⟩)) ∧ w.heap.size ≤ g ∧ P w' g xs ∧ Still w w'

/-- The document's scan at block g that has these bytes left. -/
def RGood (w : World) (g : Nat) (xs : List UInt8) : Prop :=
  ∃ a c, Blk w g 102 [.slice a xs.length c, .bool false] ∧ BytesAt w g a xs ∧ (a = none → c = 0) ∧ xs.length ≤ c ∧ c ≤ maxLen
/-- The document's scan at block g that is bad. -/
def RDead (w : World) (g : Nat) : Prop :=
  ∃ xs a c, Blk w g 102 [.slice a (List.length (α := UInt8) xs) c, .bool true] ∧ BytesAt w g a xs ∧ (a = none → c = 0) ∧ xs.length ≤ c ∧ c ≤ maxLen

set_option maxHeartbeats 400000 in
theorem new_any (B : Nat) (a : Option Addr) (c : Nat) (xs : List UInt8) (w : World) (h : BytesAt w B a xs) (hc : a = none → c = 0) (hl : xs.length ≤ 140737488355328) :
    Calls Try.prog 31 #[.slice a xs.length c] w (NewScan Good xs w) := by
  obtain ⟨i0, hi, hz0, hz1, hz2⟩ := info_parts byte_info
  have HX := Lib.hid h
  have HC := Lib.hid hc
  have HL := Lib.hid hl
  clear h hc hl
  go_enter Try.func31, Try.ntmps31
  go_wp2_with (at_builtin; refine wpList_append_bytes rfl _ _ 22 rfl w.heap.size 5 i0 Try.underlying22 hi hz0 hz1 hz2 _ [] rfl ?c1 B _ c xs rfl HX.out ?c2 ?c3 ?c4 ?c5)
  case c1 => exact World.ownsRow_nil _ _ _ _
  case c2 => exact HC.out
  case c3 => simpa using HL.out
  case c4 => exact Nat.le_refl _
  case c5 =>
    intro v' w1 hown hg _
    obtain ⟨a1, c1, rfl, hl1, hm1, hb1⟩ := hown.at_
    have HK : Hid (NewScan Good xs w (.returned (.pointer (some ⟨w1.heap.size, 0, none⟩))) (w1.alloc (.cells #[.bool true, .slice a1 xs.length c1] 96))) := by
      have hs : Still w w1 := hg
      refine ⟨_, rfl, hs.size, ⟨a1, c1, Blk.new w1 _ [.bool true, .slice a1 xs.length c1], hb1.alloc (Nat.le_refl _) _, fun hn => ?_, by simpa using hl1, hm1⟩, hs.alloc _⟩
      subst hn
      rcases hown.2 with ⟨h1, _⟩ | ⟨g, _, _, h1, _⟩
      · injection h1
      · injection h1 with h1; cases h1
    clear hown hg hl1 hm1 hb1
    go_wp2
    go_ret
    exact HK.out

set_option maxHeartbeats 400000 in
theorem rnew_any (B : Nat) (a : Option Addr) (c : Nat) (xs : List UInt8) (w : World) (h : BytesAt w B a xs) (hc : a = none → c = 0) (hl : xs.length ≤ 140737488355328) :
    Calls Try.prog 36 #[.slice a xs.length c] w (NewScan RGood xs w) := by
  obtain ⟨i0, hi, hz0, hz1, hz2⟩ := info_parts byte_info
  have HX := Lib.hid h
  have HC := Lib.hid hc
  have HL := Lib.hid hl
  clear h hc hl
  go_enter Try.func36, Try.ntmps36
  go_wp2_with (at_builtin; refine wpList_append_bytes rfl _ _ 22 rfl w.heap.size 5 i0 Try.underlying22 hi hz0 hz1 hz2 _ [] rfl ?c1 B _ c xs rfl HX.out ?c2 ?c3 ?c4 ?c5)
  case c1 => exact World.ownsRow_nil _ _ _ _
  case c2 => exact HC.out
  case c3 => simpa using HL.out
  case c4 => exact Nat.le_refl _
  case c5 =>
    intro v' w1 hown hg _
    obtain ⟨a1, c1, rfl, hl1, hm1, hb1⟩ := hown.at_
    have HK : Hid (NewScan RGood xs w (.returned (.pointer (some ⟨w1.heap.size, 0, none⟩))) (w1.alloc (.cells #[.slice a1 xs.length c1, .bool false] 102))) := by
      have hs : Still w w1 := hg
      refine ⟨_, rfl, hs.size, ⟨a1, c1, Blk.new w1 _ [.slice a1 xs.length c1, .bool false], hb1.alloc (Nat.le_refl _) _, fun hn => ?_, by simpa using hl1, hm1⟩, hs.alloc _⟩
      subst hn
      rcases hown.2 with ⟨h1, _⟩ | ⟨g, _, _, h1, _⟩
      · injection h1
      · injection h1 with h1; cases h1
    clear hown hg hl1 hm1 hb1
    go_wp2
    go_ret
    exact HK.out

theorem rdone_good (g : Nat) (xs : List UInt8) (w : World) (h : RGood w g xs) :
    Calls Try.prog 39 #[.pointer (some ⟨g, 0, none⟩)] w fun e w' => e = .returned (.bool xs.isEmpty) ∧ w = w' := by
  obtain ⟨a, c, hb, _, _, _, _⟩ := h
  have c0 := hb.cell 0 _ rfl
  have c1 := hb.cell 1 _ rfl
  clear hb
  cases xs with
  | nil =>
    go_enter Try.func39, Try.ntmps39
    go_wp2
    go_ret
    exact ⟨rfl, rfl⟩
  | cons x xs =>
    obtain ⟨n, hn⟩ : ∃ n, Hid ((x :: xs).length = n) := ⟨_, rfl⟩
    have h0 : (((n : Nat) : Int) == 0) = false := by have := hn.out; simp at this; simp; omega
    rw [hn.out] at c0
    go_enter Try.func39, Try.ntmps39
    go_wp2
    go_ret
    exact ⟨rfl, rfl⟩
theorem rdone_dead (g : Nat) (w : World) (h : RDead w g) :
    Calls Try.prog 39 #[.pointer (some ⟨g, 0, none⟩)] w fun e w' => e = .returned (.bool false) ∧ w = w' := by
  obtain ⟨xs, a, c, hb, _, _, _, _⟩ := h
  have c1 := hb.cell 1 _ rfl
  clear hb
  go_enter Try.func39, Try.ntmps39
  go_wp2
  go_ret
  exact ⟨rfl, rfl⟩

/-- The document's scan is bad now, and this was answered. -/
def RFails (g : Nat) (v : Value) (w : World) (e : Ending) (w' : World) : Prop := e = .returned v ∧ RDead w' g ∧ Only g w w'
/-- So many bytes were read off the document's scan. -/
def RRead (g : Nat) (xs : List UInt8) (n : Nat) (v : Value) (w : World) (e : Ending) (w' : World) : Prop := e = .returned v ∧ RGood w' g (xs.drop n) ∧ Only g w w'
/-- The next n bytes were taken off the document's scan, as new ones. -/
def RTook (g : Nat) (xs : List UInt8) (n : Nat) (w : World) (e : Ending) (w' : World) : Prop :=
  ∃ a c, e = .returned (.slice a n c) ∧ BytesAt w' w'.heap.size a (xs.take n) ∧ (a = none → c = 0) ∧ RGood w' g (xs.drop n) ∧ Only g w w'

/-- A store of 'bad' into the document's scan. -/
theorem set_dead {w : World} {g : Nat} {xs : List UInt8} {a : Option Addr} {c : Nat} {v : Value} (hb : Blk w g 102 [.slice a xs.length c, v]) (hx : BytesAt w g a xs) (hc0 : a = none → c = 0) (hl : xs.length ≤ c) (hm : c ≤ maxLen) :
    RDead (w.setCell ⟨g, 1, none⟩ (.bool true)) g ∧ Only g w (w.setCell ⟨g, 1, none⟩ (.bool true)) := by
  have ho := (Only.refl g w).set 1 (.bool true)
  exact ⟨⟨xs, a, c, hb.set 1 _, hx.only ho (Nat.le_of_lt hb.lt), hc0, hl, hm⟩, ho⟩
/-- A store of a cut into the document's scan. -/
theorem set_rest {w : World} {g : Nat} {xs : List UInt8} {a : Option Addr} {c n : Nat} {A : Option Addr} {C : Nat} (hb : Blk w g 102 [.slice a xs.length c, .bool false]) (hx : BytesAt w g A (xs.drop n)) (hc0 : A = none → C = 0) (hl : xs.length - n ≤ C) (hm : C ≤ maxLen) :
    RGood (w.setCell ⟨g, 0, none⟩ (.slice A (xs.length - n) C)) g (xs.drop n) ∧ Only g w (w.setCell ⟨g, 0, none⟩ (.slice A (xs.length - n) C)) := by
  have ho := (Only.refl g w).set 0 (.slice A (xs.length - n) C)
  refine ⟨⟨A, C, ?_, hx.only ho (Nat.le_of_lt hb.lt), hc0, by rw [List.length_drop]; exact hl, hm⟩, ho⟩
  rw [List.length_drop]
  exact hb.set 0 _

set_option maxHeartbeats 400000 in
theorem rnum_dead (g : Nat) (size : Int) (w : World) (h : RDead w g) :
    Calls Try.prog 37 #[.pointer (some ⟨g, 0, none⟩), .int .i64 size] w (RFails g (.int .i64 0) w) := by
  obtain ⟨xs, a, c, hb, hx, hc0, hl, hm⟩ := h
  have c0 := hb.cell 0 _ rfl
  have c1 := hb.cell 1 _ rfl
  have f1 := hb.frozen 1
  have HS := Lib.hid (set_dead hb hx hc0 hl hm)
  unfold maxLen at hm
  have HG := Lib.hid (rget_any g a c xs 0 size w (by omega) hx)
  obtain ⟨len, HL⟩ : ∃ len, Hid (xs.length = len) := ⟨_, rfl⟩
  rw [HL.out] at c0 HG
  clear hb hx hc0 hl hm
  go_enter Try.func37, Try.ntmps37
  go_wp2_with (go_at_call 75; refine HG.out.mono ?_; rintro e w' ⟨rfl, rfl⟩; unfold gotten)
  go_ret
  exact ⟨rfl, HS.out⟩

set_option maxHeartbeats 400000 in
theorem rnum_no (g : Nat) (xs : List UInt8) (size : Int) (w : World) (h : RGood w g xs) (he : getErr xs.length 0 size ≠ 0) :
    Calls Try.prog 37 #[.pointer (some ⟨g, 0, none⟩), .int .i64 size] w (RFails g (.int .i64 0) w) := by
  obtain ⟨a, c, hb, hx, hc0, hl, hm⟩ := h
  have c0 := hb.cell 0 _ rfl
  have c1 := hb.cell 1 _ rfl
  have f1 := hb.frozen 1
  have HS := Lib.hid (set_dead hb hx hc0 hl hm)
  unfold maxLen at hm
  have hg := rget_any g a c xs 0 size w (by omega) hx
  have e1 : ∃ k : Int, gotten xs 0 size = .tuple #[.int .i64 0, .int .i64 k] ∧ (k == 0) = false := by
    rcases (getErr_two : getErr xs.length 0 size = 0 ∨ _) with h0 | h1 | h1
    · exact absurd h0 he
    all_goals unfold gotten getVal; rw [h1]; exact ⟨_, rfl, rfl⟩
  obtain ⟨k, e1, hk⟩ := e1
  rw [e1] at hg
  have HG := Lib.hid hg
  have hk2 : (k != 0) = true := by simp [bne, hk]
  obtain ⟨len, HL⟩ : ∃ len, Hid (xs.length = len) := ⟨_, rfl⟩
  rw [HL.out] at c0 HG
  clear hb hx hc0 hl hm hg e1 he
  go_enter Try.func37, Try.ntmps37
  go_wp2_with (go_at_call 75; refine HG.out.mono ?_; rintro e w' ⟨rfl, rfl⟩)
  go_ret
  exact ⟨rfl, HS.out⟩

set_option maxHeartbeats 400000 in
theorem rnum_yes (g : Nat) (xs : List UInt8) (size : Nat) (w : World) (h : RGood w g xs) (he : getErr xs.length 0 size = 0) :
    Calls Try.prog 37 #[.pointer (some ⟨g, 0, none⟩), .int .i64 size] w (RRead g xs size (.int .i64 (getI xs 0 size)) w) := by
  obtain ⟨a, c, hb, hx, hc0, hl, hm⟩ := h
  have hz := getErr_zero he
  have hz2 : size ≤ xs.length := by have := hz.2.2; omega
  have c0 := hb.cell 0 _ rfl
  have c1 := hb.cell 1 _ rfl
  have f0 := hb.frozen 0
  obtain ⟨A2, C2, s2, b2, n2, l2, m2⟩ := cut_from w g a c xs size hx hc0 hl hm hz2
  have HS := Lib.hid (set_rest (n := size) hb b2 n2 l2 m2)
  unfold maxLen at hm
  have hg := rget_any g a c xs 0 size w (by omega) hx
  have e1 : gotten xs 0 size = .tuple #[.int .i64 (getI xs 0 size), .int .i64 0] := by
    unfold gotten getVal; rw [he]; simp
  rw [e1] at hg
  have HG := Lib.hid hg
  obtain ⟨len, HL⟩ : ∃ len, Hid (xs.length = len) := ⟨_, rfl⟩
  rw [HL.out] at c0 HG HS s2 hz2
  clear hb hx hc0 hl hm hg e1 he hz b2 n2 l2 m2
  go_enter Try.func37, Try.ntmps37
  go_wp2_with (go_at_call 75; refine HG.out.mono ?_; rintro e w' ⟨rfl, rfl⟩)
  go_ret
  exact ⟨rfl, HS.out⟩

set_option maxHeartbeats 400000 in
theorem rtake_dead (g : Nat) (n : Int) (w : World) (h : RDead w g) :
    Calls Try.prog 111 #[.pointer (some ⟨g, 0, none⟩), .int .i64 n] w (RFails g (.slice none 0 0) w) := by
  obtain ⟨xs, a, c, hb, hx, hc0, hl, hm⟩ := h
  have c1 := hb.cell 1 _ rfl
  have f1 := hb.frozen 1
  have HS := Lib.hid (set_dead hb hx hc0 hl hm)
  clear hb hx hc0 hl hm
  go_enter Try.func111, Try.ntmps111
  go_wp2
  go_ret
  exact ⟨rfl, HS.out⟩

set_option maxHeartbeats 400000 in
theorem rtake_no (g : Nat) (xs : List UInt8) (n : Int) (w : World) (h : RGood w g xs) (hn : n < 0 ∨ (xs.length : Int) < n) :
    Calls Try.prog 111 #[.pointer (some ⟨g, 0, none⟩), .int .i64 n] w (RFails g (.slice none 0 0) w) := by
  obtain ⟨a, c, hb, hx, hc0, hl, hm⟩ := h
  have c0 := hb.cell 0 _ rfl
  have c1 := hb.cell 1 _ rfl
  have f1 := hb.frozen 1
  have HS := Lib.hid (set_dead hb hx hc0 hl hm)
  obtain ⟨len, HL⟩ : ∃ len, Hid (xs.length = len) := ⟨_, rfl⟩
  rw [HL.out] at c0 hn
  clear hb hx hc0 hl hm
  by_cases h0 : n < 0
  · clear hn
    go_enter Try.func111, Try.ntmps111
    go_wp2
    go_ret
    exact ⟨rfl, HS.out⟩
  · have h1 : (len : Int) < n := by omega
    clear hn
    go_enter Try.func111, Try.ntmps111
    go_wp2
    go_ret
    exact ⟨rfl, HS.out⟩

set_option maxHeartbeats 400000 in
theorem rtake_yes (g : Nat) (xs : List UInt8) (n : Nat) (w : World) (h : RGood w g xs) (hn : n ≤ xs.length) (hl0 : xs.length ≤ 140737488355328) :
    Calls Try.prog 111 #[.pointer (some ⟨g, 0, none⟩), .int .i64 n] w (RTook g xs n w) := by
  obtain ⟨i0, hi, hz0, hz1, hz2⟩ := info_parts byte_info
  obtain ⟨a, c, hb, hx, hc0, hl, hm⟩ := h
  have c0 := hb.cell 0 _ rfl
  have c1 := hb.cell 1 _ rfl
  have f0 := hb.frozen 0
  obtain ⟨A1, C1, s1, b1, n1, l1, m1⟩ := cut_head w g a c xs n hx hc0 hl hm hn
  have HB := Lib.hid hb
  have HX := Lib.hid hx
  have HC := Lib.hid hc0
  have HL0 := Lib.hid hl
  have HM := Lib.hid hm
  have H1 := Lib.hid (And.intro b1 (And.intro n1 (And.intro l1 m1)))
  have ht : (xs.take n).length = n := by simp; omega
  have HT := Lib.hid ht
  obtain ⟨len, HL⟩ : ∃ len, Hid (xs.length = len) := ⟨_, rfl⟩
  have hn' : n ≤ len := by rw [← HL.out]; exact hn
  have hl0' : len ≤ 140737488355328 := by rw [← HL.out]; exact hl0
  have hlc : len ≤ c := by rw [← HL.out]; exact hl
  rw [HL.out] at c0 s1
  unfold maxLen at hm
  clear hb hx hc0 hl b1 n1 l1 m1 ht hn hl0
  go_enter Try.func111, Try.ntmps111
  go_wp2_with (at_builtin; refine wpList_append_bytes rfl _ _ 22 rfl w.heap.size 5 i0 Try.underlying22 hi hz0 hz1 hz2 _ [] rfl ?c1 g A1 C1 (xs.take n) (by rw [HT.out]; rfl) H1.out.1 ?c2 ?c3 ?c4 ?c5)
  case c1 => exact World.ownsRow_nil _ _ _ _
  case c2 => exact H1.out.2.1
  case c3 => rw [HT.out]; simp; omega
  case c4 => exact Nat.le_refl _
  case c5 =>
    intro v' w1 hown hg _
    have hs : Still w w1 := hg
    obtain ⟨a2, c2, hv, hl2, hm2, hb2⟩ := hown.at_
    rw [HT.out] at hv hl2
    have hn2 : a2 = none → c2 = 0 := fun hh => by
      subst hh hv
      rcases hown.2 with ⟨h1, _⟩ | ⟨g, _, _, h1, _⟩
      · injection h1
      · injection h1 with h1; cases h1
    subst hv
    have hbk := HB.out.still hs
    have d0 := hbk.cell 0 _ rfl
    have e0 := hbk.frozen 0
    obtain ⟨A2, C2, s2, b3, n2, l2, m2⟩ := cut_from w1 g a c xs n (HX.out.still hs (Nat.le_of_lt HB.out.lt)) HC.out HL0.out HM.out (by rw [HL.out]; exact hn')
    have hset := set_rest (n := n) hbk b3 n2 l2 m2
    have HK : Hid (RTook g xs n w (.returned (.slice a2 n c2)) (w1.setCell ⟨g, 0, none⟩ (.slice A2 (xs.length - n) C2))) := by
      refine ⟨a2, c2, rfl, ?_, hn2, hset.1, (hs.only g).trans hset.2⟩
      have hb4 : BytesAt w1 w1.heap.size a2 (xs.take n) := by simpa using hb2
      rw [World.size_setCell]
      refine hb4.only_other hset.2 (Nat.le_refl _) (fun p hp => ?_)
      subst hp
      rcases hown.2 with ⟨h1, _⟩ | ⟨g3, _, _, h1, hge, _⟩
      · cases h1
      · injection h1 with h1
        injection h1 with h1
        subst h1
        have := HB.out.lt
        show g3 ≠ g
        omega
    rw [HL.out] at d0 s2 HK
    clear hown hg hs hl2 hm2 hb2 hn2 hbk b3 n2 l2 m2 hset
    go_wp2
    go_ret
    exact HK.out

theorem byte_zero {xs : List UInt8} {j : Nat} (h : xs.getD j 0 = 0) : (byteAt xs j == 0) = true := by
  unfold byteAt; rw [h]; rfl
theorem byte_not {xs : List UInt8} {j : Nat} (h : xs.getD j 0 ≠ 0) : (byteAt xs j == 0) = false := by
  unfold byteAt
  have : (xs.getD j 0).toNat ≠ 0 := fun e => h (UInt8.toNat_inj.1 (by simpa using e))
  simpa using this

set_option maxHeartbeats 400000 in
theorem rtext_dead (g : Nat) (w : World) (h : RDead w g) :
    Calls Try.prog 76 #[.pointer (some ⟨g, 0, none⟩)] w (RFails g (.string ⟨#[]⟩) w) := by
  obtain ⟨xs, a, c, hb, hx, hc0, hl, hm⟩ := h
  have c0 := hb.cell 0 _ rfl
  have c1 := hb.cell 1 _ rfl
  have f1 := hb.frozen 1
  have HS := Lib.hid (set_dead hb hx hc0 hl hm)
  obtain ⟨len, HL⟩ : ∃ len, Hid (xs.length = len) := ⟨_, rfl⟩
  rw [HL.out] at c0
  clear hb hx hc0 hl hm
  by_cases h0 : 0 < len
  · go_enter Try.func76, Try.ntmps76
    go_wp2
    refine wp_loop_rounds 1 ?_
    rw [rounds_succ]
    go_wp2
    go_ret
    exact ⟨rfl, HS.out⟩
  · go_enter Try.func76, Try.ntmps76
    go_wp2
    refine wp_loop_rounds 1 ?_
    rw [rounds_succ]
    go_wp2
    go_ret
    exact ⟨rfl, HS.out⟩

set_option maxHeartbeats 400000 in
theorem rtext_no (g : Nat) (xs : List UInt8) (w : World) (h : RGood w g xs) (hk : zeroAt xs = none) :
    Calls Try.prog 76 #[.pointer (some ⟨g, 0, none⟩)] w (RFails g (.string ⟨#[]⟩) w) := by
  obtain ⟨a, c, hb, hx, hc0, hl, hm⟩ := h
  have c0 := hb.cell 0 _ rfl
  have c1 := hb.cell 1 _ rfl
  have f1 := hb.frozen 1
  have HS := Lib.hid (set_dead hb hx hc0 hl hm)
  have HX := Lib.hid hx
  have HZ := Lib.hid (zeroAt_none hk)
  have hlen : xs.length ≤ 9223372036854775806 ∨ xs.length = 9223372036854775807 := by unfold maxLen at hm; omega
  unfold maxLen at hm
  obtain ⟨len, HL⟩ : ∃ len, Hid (xs.length = len) := ⟨_, rfl⟩
  rw [HL.out] at c0
  have hlm : len ≤ 9223372036854775807 := by rw [← HL.out]; omega
  clear hb hx hc0 hl hm hk hlen
  go_enter Try.func76, Try.ntmps76
  go_wp2
  go_loop [3] (fun i => ∃ j : Nat, j ≤ len ∧ i = .int .i64 j) (fun i => len - (intOf i).toNat)
  case atStart => exact ⟨0, Nat.zero_le _, rfl⟩
  case round =>
    obtain ⟨j, hj, rfl⟩ := hrel
    by_cases hlt : j < len
    · have hz := byte_not (HZ.out j (by rw [HL.out]; exact hlt))
      obtain ⟨b, off, ha, _, hcell⟩ := HX.out (by rw [HL.out]; omega)
      have hcj := hcell j (by rw [HL.out]; exact hlt)
      rw [ha] at c0
      clear hcell ha
      go_wp2
      go_round
      case rel => exact ⟨j + 1, by omega, by go_num⟩
      case measure => simp [intOf]; omega
    · obtain rfl : j = len := by omega
      go_wp2
      go_ret
      exact ⟨rfl, HS.out⟩

set_option maxHeartbeats 400000 in
theorem rtext_yes (g : Nat) (xs : List UInt8) (k : Nat) (w : World) (h : RGood w g xs) (hk : zeroAt xs = some k) :
    Calls Try.prog 76 #[.pointer (some ⟨g, 0, none⟩)] w (RRead g xs (k + 1) (.string (strB (xs.take k))) w) := by
  obtain ⟨a, c, hb, hx, hc0, hl, hm⟩ := h
  have hz := zeroAt_some hk
  have c0 := hb.cell 0 _ rfl
  have c1 := hb.cell 1 _ rfl
  have f0 := hb.frozen 0
  obtain ⟨A1, C1, s1, b1, n1, l1, m1⟩ := cut_head w g a c xs k hx hc0 hl hm (Nat.le_of_lt hz.1)
  obtain ⟨A2, C2, s2, b2, n2, l2, m2⟩ := cut_from w g a c xs (k + 1) hx hc0 hl hm hz.1
  have HS := Lib.hid (set_rest (n := k + 1) hb b2 n2 l2 m2)
  have hr := run_convert_bytesAt (P := Try.prog) 22 5 9 Try.underlying22 Try.underlying5 Try.underlying9 w g A1 C1 (xs.take k) b1
  rw [show (xs.take k).length = k from by simp; omega] at hr
  have HX := Lib.hid hx
  have HZ := Lib.hid hz
  obtain ⟨len, HL⟩ : ∃ len, Hid (xs.length = len) := ⟨_, rfl⟩
  have hkl : k < len := by rw [← HL.out]; exact hz.1
  have hlm : len ≤ 9223372036854775807 := by rw [← HL.out]; unfold maxLen at hm; omega
  rw [HL.out] at c0 s1 s2 HS
  rw [show ((k + 1 : Nat) : Int) = (k : Int) + 1 from rfl] at s2
  have HQ := Lib.hid (And.intro s1 (And.intro s2 hr))
  clear hb hx hc0 hl hm hk hz b1 n1 l1 m1 b2 n2 l2 m2 s1 s2 hr
  go_enter Try.func76, Try.ntmps76
  go_wp2
  go_loop [3] (fun i => ∃ j : Nat, j ≤ k ∧ i = .int .i64 j) (fun i => k - (intOf i).toNat)
  case atStart => exact ⟨0, Nat.zero_le _, rfl⟩
  case round =>
    obtain ⟨j, hj, rfl⟩ := hrel
    obtain ⟨b, off, ha, _, hcell⟩ := HX.out (by rw [HL.out]; omega)
    have hcj := hcell j (by rw [HL.out]; omega)
    by_cases hlt : j < k
    · have hz := byte_not (HZ.out.2.2 j hlt)
      rw [ha] at c0
      clear hcell ha
      go_wp2
      go_round
      case rel => exact ⟨j + 1, by omega, by go_num⟩
      case measure => simp [intOf]; omega
    · obtain rfl : j = k := by omega
      have hz := byte_zero HZ.out.2.1
      obtain ⟨s1, s2, hr⟩ := HQ.out
      rw [ha] at c0 s1 s2
      clear hcell ha
      go_wp2
      go_ret
      exact ⟨rfl, HS.out⟩
end Go.Proofs.Ytngmfgdoopkkdaa.Sc
