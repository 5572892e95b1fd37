/- The contracts of package frame's calls that take: message, first, Next, Feed, Bytes. -/
import Derived.Test.YtlffnhfnbdpghaaFrameA
import Derived.Test.YtlffnhfnbdpghaaScanB
import Derived.Deep.RegionHeld3
import Derived.Deep.QuietTactic
import Derived.BigQuiet
namespace Go.Proofs.Ytlffnhfnbdpghaa.Fr
open Go.RowKit Go By Nm

/-- A cut in the middle, without room behind it. -/
theorem cut_mid (w : World) (B : Nat) (a : Option Addr) (c : Nat) (xs : List UInt8) (l : Nat) (h : BytesAt w B a xs) (hc0 : a = none → c = 0) (hl : xs.length ≤ c) (hm : c ≤ maxLen) (hn : l ≤ xs.length) :
    ∃ A C, (∀ W : World, (Instr.slice 22 (.slice a xs.length c) (some (.int .i64 l)) (some (.int .i64 xs.length)) (some (.int .i64 xs.length))).run Try.prog W = .ok (.slice A (xs.length - l) C) W) ∧ BytesAt w B A (xs.drop l) ∧ (A = none → C = 0) ∧ xs.length - l ≤ C ∧ C ≤ maxLen := by
  obtain ⟨A, C, e, hb, hA, hC, hM⟩ := sliced_bytes (l := l) (h := xs.length) (m := xs.length) h hn (Nat.le_refl _) (Nat.le_refl _) (fun hh => by have := hc0 hh; omega) (by omega)
  refine ⟨A, C, fun W => ?_, by simpa using hb, hA, by omega, hM⟩
  rw [run_slice_lhm W 22 a xs.length c (by kernel_rfl) .i64 .i64 .i64 l xs.length xs.length (by omega) (by omega) (by omega) (by omega), Sc.elem_bytes, Sc.size_byte]
  simp only [Result.andThen, Int.toNat_natCast]
  rw [e]

/-- A message's type. -/
def ty (typed : Bool) (xs : List UInt8) : Int := if typed then byteAt xs 0 else 0
/-- A message was made of all these bytes. -/
def Message (typed : Bool) (xs : List UInt8) (B : Nat) (w : World) (e : Ending) (w' : World) : Prop :=
  ∃ a c, e = .returned (.agg #[.int .u8 (ty typed xs), .slice a (xs.length - (tsz typed + 4)) c]) ∧ BytesAt w' B a (xs.drop (tsz typed + 4)) ∧ (a = none → c = 0) ∧ xs.length - (tsz typed + 4) ≤ c ∧ c ≤ maxLen ∧ Below w.heap.size w w'

set_option maxHeartbeats 400000 in
theorem message_any (g : Nat) (typed : Bool) (B : Nat) (a : Option Addr) (c : Nat) (xs : List UInt8) (w : World) (h0 : w.cell? ⟨g, 0, none⟩ = some (.bool typed)) (hx : BytesAt w B a xs) (hB : B ≤ w.heap.size)
    (hc0 : a = none → c = 0) (hl : xs.length ≤ c) (hm : c ≤ maxLen) (hn : tsz typed + 4 ≤ xs.length) (hg : g < w.heap.size) :
    Calls Try.prog 49 #[.pointer (some ⟨g, 0, none⟩), .slice a xs.length c] w (Message typed xs B w) := by
  obtain ⟨A, C, hs, hb, hA, hC, hM⟩ := cut_mid w B a c xs (tsz typed + 4) hx hc0 hl hm hn
  have hp : 0 < xs.length := by omega
  obtain ⟨b, off, rfl, hbB, hcell⟩ := hx hp
  have hb0 := hcell 0 hp
  rw [Nat.add_zero] at hb0
  have hbw : b < w.heap.size := by omega
  have HQ := Lib.hid (And.intro hb (And.intro hA (And.intro hC hM)))
  have HT := Lib.hid (typeSize_any g typed)
  have HB := Lib.hid hB
  obtain ⟨len, HL⟩ : ∃ len, Hid (xs.length = len) := ⟨_, rfl⟩
  have hlc : len ≤ c := by rw [← HL.out]; exact hl
  have hn' : tsz typed + 4 ≤ len := by rw [← HL.out]; exact hn
  unfold maxLen at hm
  rw [HL.out] at hs
  rw [HL.out]
  obtain ⟨y, HY⟩ : ∃ y, Hid (byteAt xs 0 = y) := ⟨_, rfl⟩
  rw [HY.out] at hb0
  clear hb hA hC hM hcell hc0 hB hl hp hn hbB
  cases typed with
  | false =>
    have hs' : ∀ W : World, (Instr.slice 22 (.slice (some ⟨b, off, none⟩) len c) (some (.int .i64 4)) (some (.int .i64 len)) (some (.int .i64 len))).run Try.prog W = .ok (.slice A (len - 4) C) W := hs
    have hn4 : (4 : Int) ≤ len := by simp [tsz] at hn'; omega
    clear hs hn'
    go_enter Try.func49, Try.ntmps49
    go_wp2_with (go_at_call 53; refine (HT.out _ ?_).mono ?_; (rw [World.cell?_alloc_lt _ _ _ (by simp; omega), World.cell?_alloc_lt _ _ _ hg]; exact h0); rintro e w' ⟨rfl, rfl⟩; unfold tsz)
    refine bodyPost_ret (v := .agg #[.int .u8 0, .slice A (len - 4) C]) (by simp [results, Try.results49, go_sem]) rfl ?_
    rw [← HL.out]
    exact ⟨A, C, rfl, (HQ.out.1.alloc HB.out _).alloc (by have := HB.out; simp; omega) _, HQ.out.2.1, HQ.out.2.2.1, HQ.out.2.2.2, ((Below.refl _ w).alloc (Nat.le_refl _) _).alloc (by simp) _⟩
  | true =>
    have hs' : ∀ W : World, (Instr.slice 22 (.slice (some ⟨b, off, none⟩) len c) (some (.int .i64 5)) (some (.int .i64 len)) (some (.int .i64 len))).run Try.prog W = .ok (.slice A (len - 5) C) W := hs
    have hn4 : (5 : Int) ≤ len := by simp [tsz] at hn'; omega
    clear hs hn'
    go_enter Try.func49, Try.ntmps49
    go_wp2_with (go_at_call 53; refine (HT.out _ ?_).mono ?_; (rw [World.cell?_alloc_lt _ _ _ (by simp; omega), World.cell?_alloc_lt _ _ _ hg]; exact h0); rintro e w' ⟨rfl, rfl⟩; unfold tsz)
    refine bodyPost_ret (v := .agg #[.int .u8 y, .slice A (len - 5) C]) (by simp [results, Try.results49, go_sem]) rfl ?_
    rw [← HL.out, ← HY.out]
    exact ⟨A, C, rfl, (HQ.out.1.alloc HB.out _).alloc (by have := HB.out; simp; omega) _, HQ.out.2.1, HQ.out.2.2.1, HQ.out.2.2.2, ((Below.refl _ w).alloc (Nat.le_refl _) _).alloc (by simp) _⟩

/-- A call that answers v and leaves the world as it is, in a region whose draws are counted. -/
theorem quiet_call {P : Program} {f : FuncId} {args : Array Value} {w : World} {k : Nat} {v : Value} (h : Calls P f args (w.drewN k) fun e w' => e = .returned v ∧ w.drewN k = w') :
    Calls P f args (w.drewN k) fun e w' => e = .returned v ∧ ∃ m, w' = w.drewN m := h.mono fun _ _ hh => ⟨hh.1, k, hh.2.symm⟩

/-- A framer's cells, of whatever bytes, stay, but for its error. -/
def Turns (w w' : World) (g : Nat) (typed : Bool) (most room wrong wrong' : Int) : Prop :=
  ∀ v, Blk w g 58 [.bool typed, .int .i64 most, .int .i64 room, v, .int .i64 wrong] → Blk w' g 58 [.bool typed, .int .i64 most, .int .i64 room, v, .int .i64 wrong']
/-- There is no whole message. -/
def No (g : Nat) (typed : Bool) (most room wrong wrong' : Int) (v : Value) (w : World) (e : Ending) (w' : World) : Prop :=
  e = .returned v ∧ Turns w w' g typed most room wrong wrong' ∧ Only g w w'

theorem Framer.still {w w' : World} {g lo : Nat} {typed : Bool} {most room : Int} {xs : List UInt8} {wrong : Int} (h : Framer w g lo typed most room xs wrong) (hs : Still w w') : Framer w' g lo typed most room xs wrong := by
  obtain ⟨v, hb, hv, hl⟩ := h
  exact ⟨v, hb.still hs, hv.still hs, hl⟩
theorem blk_far {w : World} {g : Nat} {T : TypeId} {vs : List Value} (h : Blk w g T vs) {k : Nat} (hk : g ≠ k) (i : Nat) (u : Value) : Blk (w.setCell ⟨k, i, none⟩ u) g T vs := h.keep (Below.heap_setCell _ _ _ _ hk)
theorem only_new {w w' : World} {g : Nat} (h : Only g w w') {k : Nat} (hk : w.heap.size ≤ k) (i : Nat) (u : Value) : Only g w (w'.setCell ⟨k, i, none⟩ u) :=
  ⟨h.os, h.tape, h.output, by simpa using h.size, fun j hj hn => (Below.heap_setCell _ _ _ _ (by show j ≠ k; omega)).trans (h.block j hj hn)⟩
theorem only_drewN {w w' : World} {g : Nat} (h : Only g w w') (n : Nat) : Only g w (w'.drewN n) := ⟨h.os, h.tape, h.output, h.size, h.block⟩
theorem blk_drewN {w : World} {g : Nat} {T : TypeId} {vs : List Value} (h : Blk w g T vs) (n : Nat) : Blk (w.drewN n) g T vs := h
/-- A framer behind a step that wrote its own cells alone. -/
theorem Framer.later {w W : World} {g lo : Nat} {typed : Bool} {most room : Int} {xs : List UInt8} {wrong wrong' : Int} (h : Framer w g lo typed most room xs wrong) (ho : Only g w W)
    (f : ∀ v, Blk w g 58 [.bool typed, .int .i64 most, .int .i64 room, v, .int .i64 wrong] → Blk W g 58 [.bool typed, .int .i64 most, .int .i64 room, v, .int .i64 wrong']) : Framer W g lo typed most room xs wrong' := by
  obtain ⟨v, hb, hv, hl⟩ := h
  exact ⟨v, f v hb, hv.only ho hl, hl⟩

set_option maxHeartbeats 1000000 in
theorem first_wrong (g lo : Nat) (typed : Bool) (most room : Int) (xs : List UInt8) (w : World) (h : Framer w g lo typed most room xs (hErr typed most xs)) (hm : 0 < most) (he : hErr typed most xs ≠ 0) :
    Calls Try.prog 42 #[.pointer (some ⟨g, 0, none⟩)] w (No g typed most room (hErr typed most xs) (hErr typed most xs) (.tuple #[.agg #[.int .u8 0, .slice none 0 0], .int .i64 0, .int .i64 (hErr typed most xs)]) w) := by
  have H := Lib.hid h
  obtain ⟨v, hb, hv, hlo⟩ := h
  have c4 := hb.cell 4 _ rfl
  have hg := hb.lt
  clear hb hv
  obtain ⟨er, HE⟩ : ∃ er, Hid (hErr typed most xs = er) := ⟨_, rfl⟩
  rw [HE.out] at c4 he ⊢
  have e1 : (er == 0) = false := by simpa using he
  have e2 : (er != 0) = true := by simp [bne, e1]
  clear he
  go_enter Try.func42, Try.ntmps42
  go_wp2_with (go_at_call 40; refine (made_at g _ most ?_).mono ?_; (rw [World.cell?_alloc_lt _ _ _ hg]; obtain ⟨v, hb, _, _⟩ := H.out; exact hb.cell 1 _ rfl); rintro e w' ⟨rfl, rfl⟩)
  have d4 := (World.cell?_alloc_lt w (.cells #[.int .u8 0, .slice none 0 0] 49) ⟨g, 4, none⟩ hg).trans c4
  go_region_held3 (fun w' => w'.cell? ⟨g, 4, none⟩ = some (.int .i64 er)) (first | go_keep | (rw [World.cell?_setCell_other _ _ _ _ (by simp; omega)]; go_keep)) (first | fail)
  go_wp2
  refine bodyPost_ret (v := .tuple #[.agg #[.int .u8 0, .slice none 0 0], .int .i64 0, .int .i64 er]) (by simp [results, Try.results42, go_sem]) rfl ⟨rfl, ?_, ?_⟩
  · exact fun v hb => hb.still ((Still.refl w).alloc _).drew
  · exact (((Still.refl w).alloc _).only g).drew

set_option maxHeartbeats 1000000 in
theorem first_no (g lo : Nat) (typed : Bool) (most room : Int) (xs : List UInt8) (w : World) (h : Framer w g lo typed most room xs 0) (hm : 0 < most) (hl : xs.length ≤ 1000000) (hno : hSize typed most xs = 0 ∨ xs.length < hSize typed most xs) :
    Calls Try.prog 42 #[.pointer (some ⟨g, 0, none⟩)] w (No g typed most room 0 (hErr typed most xs) (.tuple #[.agg #[.int .u8 0, .slice none 0 0], .int .i64 0, .int .i64 (hErr typed most xs)]) w) := by
  have H := Lib.hid h
  obtain ⟨v, hb, hv, hlo⟩ := h
  have hg := hb.lt
  obtain ⟨a, c, rfl, hx, hc0, hlc, hcm⟩ := hv.form
  have hbk := hb.alloc (.cells #[.int .u8 0, .slice none 0 0] 49)
  have d0 := hbk.cell 0 _ rfl
  have d1 := hbk.cell 1 _ rfl
  have d3 := hbk.cell 3 _ rfl
  have d4 := hbk.cell 4 _ rfl
  have f4 := hbk.frozen 4
  have HS := Lib.hid fun n => hsize_any g typed most w.heap.size a c xs ((w.alloc (.cells #[.int .u8 0, .slice none 0 0] 49)).drewN n) d0 d1 (hx.alloc (Nat.le_refl _) _) (by omega)
  have HM := Lib.hid (made_at g (w.alloc (.cells #[.int .u8 0, .slice none 0 0] 49)) most d1)
  have hsz := head_ways typed most xs
  have hr := len4_range typed xs
  have ht := tsz_le typed
  have hsz2 : hSize typed most xs ≤ 4294967300 := by omega
  clear hb hv hx hc0 hcm hbk hsz hr ht
  obtain ⟨er, HE⟩ : ∃ er, Hid (hErr typed most xs = er) := ⟨_, rfl⟩
  obtain ⟨sz, HZ⟩ : ∃ sz, Hid (hSize typed most xs = sz) := ⟨_, rfl⟩
  obtain ⟨len, HL⟩ : ∃ len, Hid (xs.length = len) := ⟨_, rfl⟩
  rw [HE.out] at HS ⊢
  rw [HZ.out] at HS hno hsz2
  rw [HL.out] at d3 hno HS hl hlc
  by_cases hz : sz = 0
  · subst hz
    clear hno
    go_enter Try.func42, Try.ntmps42
    go_wp2_with (go_at_call 40; refine HM.out.mono ?_; rintro e w' ⟨rfl, rfl⟩)
    go_quiet ((go_at_call 48; exact quiet_call (HS.out _)))
    go_wp2_with fail
    have ho : Only g w (((((w.alloc (.cells #[.int .u8 0, .slice none 0 0] 49)).drewN nq).setCell ⟨g, 4, none⟩ (.int .i64 er)).setCell ⟨w.heap.size, 0, none⟩ (.int .u8 0)).setCell ⟨w.heap.size, 1, none⟩ (.slice none 0 0)) :=
      only_new (only_new ((only_drewN ((Only.refl g w).alloc _) nq).set 4 _) (Nat.le_refl _) _ _) (Nat.le_refl _) _ _
    refine bodyPost_ret (v := .tuple #[.agg #[.int .u8 0, .slice none 0 0], .int .i64 0, .int .i64 er]) (by simp [results, Try.results42, go_sem]) rfl ⟨rfl, ?_, ho⟩
    exact fun v hb => blk_far (blk_far ((blk_drewN (hb.alloc _) nq).set 4 _) (by omega) _ _) (by omega) _ _
  · have hs : len < sz := by omega
    have e1 : ((sz : Int) == 0) = false := by simpa using hz
    clear hno hz
    go_enter Try.func42, Try.ntmps42
    go_wp2_with (go_at_call 40; refine HM.out.mono ?_; rintro e w' ⟨rfl, rfl⟩)
    go_quiet ((go_at_call 48; exact quiet_call (HS.out _)))
    go_wp2_with fail
    have ho : Only g w (((((w.alloc (.cells #[.int .u8 0, .slice none 0 0] 49)).drewN nq).setCell ⟨g, 4, none⟩ (.int .i64 er)).setCell ⟨w.heap.size, 0, none⟩ (.int .u8 0)).setCell ⟨w.heap.size, 1, none⟩ (.slice none 0 0)) :=
      only_new (only_new ((only_drewN ((Only.refl g w).alloc _) nq).set 4 _) (Nat.le_refl _) _ _) (Nat.le_refl _) _ _
    refine bodyPost_ret (v := .tuple #[.agg #[.int .u8 0, .slice none 0 0], .int .i64 0, .int .i64 er]) (by simp [results, Try.results42, go_sem]) rfl ⟨rfl, ?_, ho⟩
    exact fun v hb => blk_far (blk_far ((blk_drewN (hb.alloc _) nq).set 4 _) (by omega) _ _) (by omega) _ _
/-- A cut from the beginning, in whatever world. -/
theorem cut_heads (a : Option Addr) (c : Nat) (xs : List UInt8) (n : Nat) (hc0 : a = none → c = 0) (hl : xs.length ≤ c) (hm : c ≤ maxLen) (hn : n ≤ xs.length) :
    ∃ A, (∀ W : World, (Instr.slice 22 (.slice a xs.length c) none (some (.int .i64 n)) none).run Try.prog W = .ok (.slice A n c) W) ∧ (∀ (W : World) (B : Nat), BytesAt W B a xs → BytesAt W B A (xs.take n)) ∧ (A = none → c = 0) := by
  refine ⟨if c = 0 then a else a.map (·.add (0 * 1)), fun W => ?_, fun W B h => ?_, fun hh => ?_⟩
  · rw [run_slice_h W 22 a xs.length c (by kernel_rfl) .i64 n (by omega) (by omega), Sc.elem_bytes, Sc.size_byte]
    simp only [Result.andThen, Int.toNat_natCast]
    rfl
  · obtain ⟨A, C, e, hb, _⟩ := sliced_bytes (l := 0) (h := n) (m := c) h (Nat.zero_le _) hn (by omega) hc0 hm
    injection e with e1 e2 e3
    rw [← e1] at hb
    simpa using hb
  · cases a with
    | none => exact hc0 rfl
    | some ad => split at hh <;> cases hh

theorem message_at (g : Nat) (typed : Bool) (B : Nat) (a : Option Addr) (c : Nat) (xs : List UInt8) (n : Nat) (w : World) (h0 : w.cell? ⟨g, 0, none⟩ = some (.bool typed)) (hx : BytesAt w B a xs) (hB : B ≤ w.heap.size)
    (hc0 : a = none → c = 0) (hl : xs.length ≤ c) (hm : c ≤ maxLen) (hn : tsz typed + 4 ≤ xs.length) (hg : g < w.heap.size) (hle : xs.length = n) :
    Calls Try.prog 49 #[.pointer (some ⟨g, 0, none⟩), .slice a n c] w (Message typed xs B w) := by
  subst hle; exact message_any g typed B a c xs w h0 hx hB hc0 hl hm hn hg

/-- The first message, and how many bytes it has. -/
def Yes (g B : Nat) (typed : Bool) (most room : Int) (xs : List UInt8) (n : Nat) (w : World) (e : Ending) (w' : World) : Prop :=
  ∃ a c, e = .returned (.tuple #[.agg #[.int .u8 (ty typed (xs.take n)), .slice a (n - (tsz typed + 4)) c], .int .i64 n, .int .i64 0]) ∧ BytesAt w' B a ((xs.take n).drop (tsz typed + 4)) ∧
    (a = none → c = 0) ∧ n - (tsz typed + 4) ≤ c ∧ c ≤ maxLen ∧ Turns w w' g typed most room 0 0 ∧ Only g w w'

set_option maxHeartbeats 1000000 in
theorem first_yes (g lo : Nat) (typed : Bool) (most room : Int) (xs : List UInt8) (n : Nat) (w : World) (h : Framer w g lo typed most room xs 0) (hm : 0 < most) (hl : xs.length ≤ 1000000) (hn : hSize typed most xs = n) (h0 : 0 < n) (hle : n ≤ xs.length) (B : Nat) (hB : B ≤ w.heap.size)
    (hBv : ∀ v, Blk w g 58 [.bool typed, .int .i64 most, .int .i64 room, v, .int .i64 0] → ∀ k, v.ownBlock = some k → k < B) :
    Calls Try.prog 42 #[.pointer (some ⟨g, 0, none⟩)] w (Yes g B typed most room xs n w) := by
  have H := Lib.hid h
  obtain ⟨v, hb, hv, hlo⟩ := h
  have hg := hb.lt
  have hv2 := hv
  obtain ⟨a, c, rfl, hx, hc0, hlc, hcm⟩ := hv.form
  have hbk := hb.alloc (.cells #[.int .u8 0, .slice none 0 0] 49)
  have d0 := hbk.cell 0 _ rfl
  have d1 := hbk.cell 1 _ rfl
  have d3 := hbk.cell 3 _ rfl
  have d4 := hbk.cell 4 _ rfl
  have f4 := hbk.frozen 4
  have HS := Lib.hid fun n => hsize_any g typed most w.heap.size a c xs ((w.alloc (.cells #[.int .u8 0, .slice none 0 0] 49)).drewN n) d0 d1 (hx.alloc (Nat.le_refl _) _) (by omega)
  have HM := Lib.hid (made_at g (w.alloc (.cells #[.int .u8 0, .slice none 0 0] 49)) most d1)
  obtain ⟨A, hsl, hA, hA0⟩ := cut_heads a c xs n hc0 hlc hcm hle
  have hxB : BytesAt w B a xs := fun hp => by
    obtain ⟨b, off, e, _, hc⟩ := hx hp
    exact ⟨b, off, e, hBv _ hb b (by rw [e]; rfl), hc⟩
  have hne : ∀ p, a = some p → p.block ≠ g := fun p hp => by
    have := (hv2.block p.block (by rw [hp]; rfl)).1
    omega
  have hways : tsz typed + 4 ≤ n ∧ hErr typed most xs = 0 := by
    rcases head_ways typed most xs with h1 | h1 | h1 | h1 <;> omega
  have htk : (xs.take n).length = n := by rw [List.length_take]; omega
  have HMsg : Hid (∀ W : World, Only g w W → W.cell? ⟨g, 0, none⟩ = some (.bool typed) → Calls Try.prog 49 #[.pointer (some ⟨g, 0, none⟩), .slice A n c] W (Message typed (xs.take n) B W)) :=
    Lib.hid fun W ho hc => message_at g typed B A c (xs.take n) n W hc (hA W _ (hxB.only_other ho hB hne)) (Nat.le_trans hB ho.size) hA0 (by omega) hcm (by rw [htk]; exact hways.1) (by have := ho.size; omega) htk
  have HT := Lib.hid htk
  rw [hways.2, hn] at HS
  have hn2 : n ≤ 1000000 := by omega
  obtain ⟨len, HL⟩ : ∃ len, Hid (xs.length = len) := ⟨_, rfl⟩
  rw [HL.out] at d3 HS hl hlc hsl hle
  have e1 : ((n : Int) == 0) = false := by simp; omega
  have HBB := Lib.hid hB
  clear hb hv hv2 hx hc0 hcm hbk hA hA0 hne hways htk hn hxB hBv hB
  go_enter Try.func42, Try.ntmps42
  go_wp2_with (go_at_call 40; refine HM.out.mono ?_; rintro e w' ⟨rfl, rfl⟩)
  go_quiet ((go_at_call 48; exact quiet_call (HS.out _)))
  go_wp2_with fail
  have k0 := (World.cell?_setCell_other ((w.alloc (.cells #[.int .u8 0, .slice none 0 0] 49)).drewN nq) ⟨g, 4, none⟩ ⟨g, 0, none⟩ (.int .i64 0) (by simp)).trans d0
  have k3 := (World.cell?_setCell_other ((w.alloc (.cells #[.int .u8 0, .slice none 0 0] 49)).drewN nq) ⟨g, 4, none⟩ ⟨g, 3, none⟩ (.int .i64 0) (by simp)).trans d3
  have O1 := Lib.hid ((only_drewN ((Only.refl g w).alloc (.cells #[.int .u8 0, .slice none 0 0] 49)) nq).set 4 (.int .i64 0))
  have KB := Lib.hid (blk_far (blk_drewN (Blk.new w 49 [.int .u8 0, .slice none 0 0]) nq) (k := g) (by omega) 4 (.int .i64 0))
  have K0 := Lib.hid k0
  clear k0 d0 d1 d3 d4
  go_region_held3 (fun w' => w'.cell? ⟨g, 3, none⟩ = some (.slice a len c))
    (first
      | go_keep
      | (exact (HBm.out.cell (by first | (simp; done) | (simp; omega))).trans k3)
      | (rw [World.cell?_setCell_other _ _ _ _ (by first | (simp; done) | (simp; omega))]; exact (HBm.out.cell (by first | (simp; done) | (simp; omega))).trans k3)
      | (rw [World.cell?_setCell_other _ _ _ _ (by first | (simp; done) | (simp; omega)), World.cell?_setCell_other _ _ _ _ (by first | (simp; done) | (simp; omega))]; exact (HBm.out.cell (by first | (simp; done) | (simp; omega))).trans k3))
    (first
      | (go_at_call 49; refine (HMsg.out _ ?_ ?_).mono ?_; (exact O1.out.drew); (exact K0.out); rintro e w3 ⟨am, cm, rfl, hbm, hr1, hr2, hr3, hr4⟩; rw [HT.out]; have HBy := Lib.hid hbm; have HR := Lib.hid (And.intro hr1 (And.intro hr2 hr3)); have HBm := Lib.hid hr4; have kb3 := Blk.keep KB.out (hr4.block w.heap.size (by simp)); have t0 := kb3.cell 0 _ rfl; have t1 := kb3.cell 1 _ rfl; have t2 := kb3.frozen 0; have t3 := kb3.frozen 1; clear hbm hr1 hr2 hr3 hr4 kb3))
  go_wp2_with fail
  have r0 : ((w3.setCell ⟨w.heap.size, 0, none⟩ (.int .u8 (ty typed (xs.take n)))).setCell ⟨w.heap.size, 1, none⟩ (.slice am (n - (tsz typed + 4)) cm)).cell? ⟨w.heap.size, 0, none⟩ = some (.int .u8 (ty typed (xs.take n))) :=
    (World.cell?_setCell_other _ _ _ _ (by simp)).trans (World.cell?_setCell_same _ _ _ t0)
  have r1 : ((w3.setCell ⟨w.heap.size, 0, none⟩ (.int .u8 (ty typed (xs.take n)))).setCell ⟨w.heap.size, 1, none⟩ (.slice am (n - (tsz typed + 4)) cm)).cell? ⟨w.heap.size, 1, none⟩ = some (.slice am (n - (tsz typed + 4)) cm) :=
    World.cell?_setCell_same _ _ _ ((World.cell?_setCell_other _ _ _ _ (by simp)).trans t1)
  have ho : Only g w ((w3.setCell ⟨w.heap.size, 0, none⟩ (.int .u8 (ty typed (xs.take n)))).setCell ⟨w.heap.size, 1, none⟩ (.slice am (n - (tsz typed + 4)) cm)) :=
    only_new (only_new (O1.out.drew.trans ((Still.of_below HBm.out).only g)) (Nat.le_refl _) _ _) (Nat.le_refl _) _ _
  refine bodyPost_ret (v := .tuple #[.agg #[.int .u8 (ty typed (xs.take n)), .slice am (n - (tsz typed + 4)) cm], .int .i64 n, .int .i64 0]) (by simp [results, Try.results42, go_sem, r0, r1]) rfl ?_
  have hR := HR.out
  rw [HT.out] at hR
  refine ⟨am, cm, rfl, HBy.out.keep fun p hp => ?_, hR.1, hR.2.1, hR.2.2, fun v hb => ?_, ho⟩
  · rw [World.cell?_setCell_other _ _ _ _ (by intro e; rw [← e] at hp; have := HBB.out; simp at hp; omega), World.cell?_setCell_other _ _ _ _ (by intro e; rw [← e] at hp; have := HBB.out; simp at hp; omega)]
  · exact blk_far (blk_far (((blk_drewN (hb.alloc _) nq).set 4 (.int .i64 0)).keep (HBm.out.block g (by simp; omega))) (by omega) _ _) (by omega) _ _
end Go.Proofs.Ytlffnhfnbdpghaa.Fr
