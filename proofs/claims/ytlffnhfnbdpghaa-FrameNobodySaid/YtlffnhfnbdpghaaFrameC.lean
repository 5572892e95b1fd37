/- The contracts of package frame's Next, Peek, Begin and Feed: of a framer that no call made, and of one that New made. -/
import Derived.Test.YtlffnhfnbdpghaaFrameB
namespace Go.Proofs.Ytlffnhfnbdpghaa.Fr
open Go.RowKit Go By Nm

/-- Nothing is there, and nothing that was has turned. -/
def Quiet (v : Value) (w : World) (e : Ending) (w' : World) : Prop := e = .returned v ∧ Still w w'
theorem still_new {w w' : World} (h : Still w w') {k : Nat} (hk : w.heap.size ≤ k) (i : Nat) (u : Value) : Still w (w'.setCell ⟨k, i, none⟩ u) :=
  ⟨h.os, h.tape, h.output, by simpa using h.size, fun j hj hn => (Below.heap_setCell _ _ _ _ (by show j ≠ k; omega)).trans (h.block j hj hn)⟩
theorem Zero.still {w w' : World} {g : Nat} (h : Zero w g) (hs : Still w w') : Zero w' g := Blk.still h hs

set_option maxHeartbeats 400000 in
theorem first_nil (w : World) : Calls Try.prog 42 #[.pointer none] w (Quiet (.tuple #[.agg #[.int .u8 0, .slice none 0 0], .int .i64 0, .int .i64 2]) w) := by
  go_enter Try.func42, Try.ntmps42
  go_wp2_with (go_at_call 40; refine (made_nil _).mono ?_; rintro e w' ⟨rfl, rfl⟩)
  exact bodyPost_ret (v := .tuple #[.agg #[.int .u8 0, .slice none 0 0], .int .i64 0, .int .i64 2]) (by simp [results, Try.results42, go_sem]) rfl ⟨rfl, (Still.refl w).alloc _⟩
set_option maxHeartbeats 400000 in
theorem first_zero (g : Nat) (w : World) (h : Zero w g) : Calls Try.prog 42 #[.pointer (some ⟨g, 0, none⟩)] w (Quiet (.tuple #[.agg #[.int .u8 0, .slice none 0 0], .int .i64 0, .int .i64 2]) w) := by
  have HZ := Lib.hid h
  clear h
  go_enter Try.func42, Try.ntmps42
  go_wp2_with (go_at_call 40; refine (made_zero _ _ (HZ.out.still ((Still.refl w).alloc _))).mono ?_; rintro e w' ⟨rfl, rfl⟩)
  exact bodyPost_ret (v := .tuple #[.agg #[.int .u8 0, .slice none 0 0], .int .i64 0, .int .i64 2]) (by simp [results, Try.results42, go_sem]) rfl ⟨rfl, (Still.refl w).alloc _⟩

set_option maxHeartbeats 400000 in
theorem next_nil (w : World) : Calls Try.prog 31 #[.pointer none] w (Quiet (.tuple #[.agg #[.int .u8 0, .slice none 0 0], .bool false, .int .i64 2]) w) := by
  have HB := Lib.hid (Blk.new w 49 [.int .u8 0, .slice none 0 0])
  go_enter Try.func31, Try.ntmps31
  go_wp2_with fail
  refine (first_nil _).mono ?_
  rintro e w1 ⟨rfl, hs⟩
  have kb := HB.out.still hs
  have t0 := kb.cell 0 _ rfl
  have t1 := kb.cell 1 _ rfl
  have f0 := kb.frozen 0
  have f1 := kb.frozen 1
  have hlt := kb.lt
  have HS := Lib.hid hs
  clear hs kb
  go_wp2_with fail
  refine bodyPost_ret (v := .tuple #[.agg #[.int .u8 0, .slice none 0 0], .bool false, .int .i64 2]) (by simp [results, Try.results31, go_sem, World.cell?_setCell_other, World.cell?_alloc_lt, hlt, t0, t1]) rfl ⟨rfl, ?_⟩
  exact (still_new (still_new (((Still.refl w).alloc _).trans HS.out) (Nat.le_refl _) _ _) (Nat.le_refl _) _ _).alloc _
set_option maxHeartbeats 400000 in
theorem next_zero (g : Nat) (w : World) (h : Zero w g) : Calls Try.prog 31 #[.pointer (some ⟨g, 0, none⟩)] w (Quiet (.tuple #[.agg #[.int .u8 0, .slice none 0 0], .bool false, .int .i64 2]) w) := by
  have HB := Lib.hid (Blk.new w 49 [.int .u8 0, .slice none 0 0])
  have HZ := Lib.hid h
  clear h
  go_enter Try.func31, Try.ntmps31
  go_wp2_with fail
  refine (first_zero _ _ (HZ.out.still ((Still.refl w).alloc _))).mono ?_
  rintro e w1 ⟨rfl, hs⟩
  have kb := HB.out.still hs
  have t0 := kb.cell 0 _ rfl
  have t1 := kb.cell 1 _ rfl
  have f0 := kb.frozen 0
  have f1 := kb.frozen 1
  have hlt := kb.lt
  have HS := Lib.hid hs
  clear hs kb
  go_wp2_with fail
  refine bodyPost_ret (v := .tuple #[.agg #[.int .u8 0, .slice none 0 0], .bool false, .int .i64 2]) (by simp [results, Try.results31, go_sem, World.cell?_setCell_other, World.cell?_alloc_lt, hlt, t0, t1]) rfl ⟨rfl, ?_⟩
  exact (still_new (still_new (((Still.refl w).alloc _).trans HS.out) (Nat.le_refl _) _ _) (Nat.le_refl _) _ _).alloc _
set_option maxHeartbeats 400000 in
theorem peek_nil (w : World) : Calls Try.prog 35 #[.pointer none] w (Quiet (.tuple #[.agg #[.int .u8 0, .slice none 0 0], .bool false, .int .i64 2]) w) := by
  have HB := Lib.hid (Blk.new w 49 [.int .u8 0, .slice none 0 0])
  go_enter Try.func35, Try.ntmps35
  go_wp2_with fail
  refine (first_nil _).mono ?_
  rintro e w1 ⟨rfl, hs⟩
  have kb := HB.out.still hs
  have t0 := kb.cell 0 _ rfl
  have t1 := kb.cell 1 _ rfl
  have f0 := kb.frozen 0
  have f1 := kb.frozen 1
  have hlt := kb.lt
  have HS := Lib.hid hs
  clear hs kb
  go_wp2_with fail
  refine bodyPost_ret (v := .tuple #[.agg #[.int .u8 0, .slice none 0 0], .bool false, .int .i64 2]) (by simp [results, Try.results35, go_sem, World.cell?_setCell_other, World.cell?_alloc_lt, hlt, t0, t1]) rfl ⟨rfl, ?_⟩
  exact (still_new (still_new (((Still.refl w).alloc _).trans HS.out) (Nat.le_refl _) _ _) (Nat.le_refl _) _ _).alloc _
set_option maxHeartbeats 400000 in
theorem peek_zero (g : Nat) (w : World) (h : Zero w g) : Calls Try.prog 35 #[.pointer (some ⟨g, 0, none⟩)] w (Quiet (.tuple #[.agg #[.int .u8 0, .slice none 0 0], .bool false, .int .i64 2]) w) := by
  have HB := Lib.hid (Blk.new w 49 [.int .u8 0, .slice none 0 0])
  have HZ := Lib.hid h
  clear h
  go_enter Try.func35, Try.ntmps35
  go_wp2_with fail
  refine (first_zero _ _ (HZ.out.still ((Still.refl w).alloc _))).mono ?_
  rintro e w1 ⟨rfl, hs⟩
  have kb := HB.out.still hs
  have t0 := kb.cell 0 _ rfl
  have t1 := kb.cell 1 _ rfl
  have f0 := kb.frozen 0
  have f1 := kb.frozen 1
  have hlt := kb.lt
  have HS := Lib.hid hs
  clear hs kb
  go_wp2_with fail
  refine bodyPost_ret (v := .tuple #[.agg #[.int .u8 0, .slice none 0 0], .bool false, .int .i64 2]) (by simp [results, Try.results35, go_sem, World.cell?_setCell_other, World.cell?_alloc_lt, hlt, t0, t1]) rfl ⟨rfl, ?_⟩
  exact (still_new (still_new (((Still.refl w).alloc _).trans HS.out) (Nat.le_refl _) _ _) (Nat.le_refl _) _ _).alloc _

theorem begin_nil (w : World) : Calls Try.prog 34 #[.pointer none] w fun e w' => e = .returned (.tuple #[]) ∧ w = w' := by
  go_enter Try.func34, Try.ntmps34
  go_wp2_with (go_at_call 40; refine (made_nil _).mono ?_; rintro e w' ⟨rfl, rfl⟩)
  go_end0
  exact ⟨rfl, rfl⟩
theorem begin_zero (g : Nat) (w : World) (h : Zero w g) : Calls Try.prog 34 #[.pointer (some ⟨g, 0, none⟩)] w fun e w' => e = .returned (.tuple #[]) ∧ w = w' := by
  have HZ := Lib.hid h
  clear h
  go_enter Try.func34, Try.ntmps34
  go_wp2_with (go_at_call 40; refine (made_zero _ _ HZ.out).mono ?_; rintro e w' ⟨rfl, rfl⟩)
  go_end0
  exact ⟨rfl, rfl⟩
theorem feed_nil (a : Option Addr) (n c : Nat) (w : World) : Calls Try.prog 26 #[.pointer none, .slice a n c] w fun e w' => e = .returned (.int .i64 2) ∧ w = w' := by
  go_enter Try.func26, Try.ntmps26
  go_wp2_with (go_at_call 40; refine (made_nil _).mono ?_; rintro e w' ⟨rfl, rfl⟩)
  go_ret
  exact ⟨rfl, rfl⟩
theorem feed_zero (g : Nat) (a : Option Addr) (n c : Nat) (w : World) (h : Zero w g) : Calls Try.prog 26 #[.pointer (some ⟨g, 0, none⟩), .slice a n c] w fun e w' => e = .returned (.int .i64 2) ∧ w = w' := by
  have HZ := Lib.hid h
  clear h
  go_enter Try.func26, Try.ntmps26
  go_wp2_with (go_at_call 40; refine (made_zero _ _ HZ.out).mono ?_; rintro e w' ⟨rfl, rfl⟩)
  go_ret
  exact ⟨rfl, rfl⟩

/-- Of what lay below lo nothing but block g has turned. -/
structure Mine (g lo : Nat) (w w' : World) : Prop where
  os : w'.os = w.os
  tape : w'.tape = w.tape
  output : w'.output = w.output
  size : w.heap.size ≤ w'.heap.size
  block : ∀ k, k < lo → k ≠ g → w'.heap[k]? = w.heap[k]?
theorem Mine.refl (g lo : Nat) (w : World) : Mine g lo w w := ⟨rfl, rfl, rfl, Nat.le_refl _, fun _ _ _ => rfl⟩
theorem Mine.trans {g lo : Nat} {a b c : World} (h : Mine g lo a b) (k : Mine g lo b c) : Mine g lo a c :=
  ⟨k.os.trans h.os, k.tape.trans h.tape, k.output.trans h.output, Nat.le_trans h.size k.size, fun i hi hn => (k.block i hi hn).trans (h.block i hi hn)⟩
theorem Mine.of_only {g lo : Nat} {w w' : World} (h : Only g w w') (hl : lo ≤ w.heap.size) : Mine g lo w w' := ⟨h.os, h.tape, h.output, h.size, fun k hk hn => h.at_ (by omega) hn⟩
theorem Mine.of_still {g lo : Nat} {w w' : World} (h : Still w w') (hl : lo ≤ w.heap.size) : Mine g lo w w' := ⟨h.os, h.tape, h.output, h.size, fun k hk _ => h.at_ (by omega)⟩
theorem Mine.below {g lo B : Nat} {w w' : World} (h : Mine g lo w w') (hB : B ≤ lo) (hg : B ≤ g) : Below B w w' := ⟨h.os, h.tape, h.output, h.size, fun k hk => h.block k (by omega) (by omega)⟩
theorem Mine.blk {g lo k : Nat} {w w' : World} {T : TypeId} {vs : List Value} (h : Mine g lo w w') (hb : Blk w k T vs) (hk : k < lo) (hn : k ≠ g) : Blk w' k T vs := hb.keep (h.block k hk hn)

/-- In which block a framer's bytes lie. -/
def Rest (w : World) (g : Nat) (r : Option Nat) : Prop := ∃ v, w.cell? ⟨g, 3, none⟩ = some v ∧ v.ownBlock = r
theorem rest_of {w W : World} {g lo : Nat} {typed : Bool} {most room : Int} {xs : List UInt8} {wrong wrong' : Int} (h : Framer w g lo typed most room xs wrong)
    (f : ∀ v, Blk w g 58 [.bool typed, .int .i64 most, .int .i64 room, v, .int .i64 wrong] → Blk W g 58 [.bool typed, .int .i64 most, .int .i64 room, v, .int .i64 wrong']) : ∀ r, Rest w g r → Rest W g r := by
  obtain ⟨v, hb, _, _⟩ := h
  rintro r ⟨v', hv', hr⟩
  have e := hb.cell 3 _ rfl
  rw [hv'] at e
  injection e with e
  subst e
  exact ⟨_, (f _ hb).cell 3 _ rfl, hr⟩
/-- These bytes stand behind what there was. -/
def Fed (g lo : Nat) (typed : Bool) (most room : Int) (xs : List UInt8) (wrong : Int) (w : World) (e : Ending) (w' : World) : Prop :=
  e = .returned (.int .i64 0) ∧ Framer w' g lo typed most room xs wrong ∧ Mine g lo w w' ∧ (∀ k, k < w.heap.size → k ≠ g → ¬ Rest w g (some k) → w'.heap[k]? = w.heap[k]?) ∧ ((∀ r, Rest w g r → Rest w' g r) ∨ ∃ k, w.heap.size ≤ k ∧ Rest w' g (some k))

set_option maxHeartbeats 1000000 in
theorem feed_yes (g lo : Nat) (typed : Bool) (most room : Int) (xs : List UInt8) (wrong : Int) (B : Nat) (a : Option Addr) (c n : Nat) (ys : List UInt8) (w : World) (h : Framer w g lo typed most room xs wrong) (hm : 0 < most)
    (hy : BytesAt w B a ys) (hc : a = none → c = 0) (hfit : (ys.length : Int) + xs.length ≤ room) (hroom : room ≤ 262144) (hlo : lo ≤ w.heap.size) (hn : ys.length = n) :
    Calls Try.prog 26 #[.pointer (some ⟨g, 0, none⟩), .slice a n c] w (Fed g lo typed most room (xs ++ ys) wrong w) := by
  obtain ⟨i0, hi, hz0, hz1, hz2⟩ := info_parts byte_info
  have H := Lib.hid h
  obtain ⟨v, hb, hv, hgl⟩ := h
  obtain ⟨av, cv, rfl, _, _, _, _⟩ := hv.form
  have d2 := hb.cell 2 _ rfl
  have d3 := hb.cell 3 _ rfl
  have HB := Lib.hid hb
  have HV := Lib.hid hv
  have HY := Lib.hid (And.intro hy hc)
  have HN := Lib.hid hn
  have HF : Hid (xs.length + ys.length ≤ 140737488355328) := Lib.hid (by omega)
  have HLO := Lib.hid hlo
  obtain ⟨len, HL⟩ : ∃ len, Hid (xs.length = len) := ⟨_, rfl⟩
  have hfit' : (n : Int) + len ≤ room := by rw [← HL.out, ← hn]; exact hfit
  have hroom' : (n : Int) ≤ room - len := by omega
  rw [HL.out] at d3
  clear hb hv hy hc hfit hn hlo
  go_enter Try.func26, Try.ntmps26
  go_wp2_with (go_at_call 40; refine (made_yes _ _ _ _ _ _ _ _ H.out hm).mono ?_; rintro e w' ⟨rfl, rfl⟩)
  go_quiet (fail)
  go_wp2_with (at_builtin; refine wpList_append_held rfl (.tmp 25) (.tmp 26) 22 rfl 5 i0 Try.underlying22 hi hz0 hz1 hz2 lo _ xs ?q1 (HV.out.still ?q2) B a c ys ?q3 ?q4 HY.out.2 HF.out ?q5 ?q6)
  case q1 => rw [HL.out]; rfl
  case q2 => exact ⟨rfl, rfl, rfl, Nat.le_refl _, fun _ _ _ => rfl⟩
  case q3 => rw [HN.out]; rfl
  case q4 => exact HY.out.1
  case q5 => exact HLO.out
  case q6 =>
    intro v' w1 hv' hgr hat
    have hrow : ∀ k, (Value.slice av xs.length cv).ownBlock = some k → lo ≤ k := fun k hk => (HV.out.block k hk).1
    have hb1 : Blk w1 g 58 [.bool typed, .int .i64 most, .int .i64 room, .slice av xs.length cv, .int .i64 wrong] :=
      HB.out.keep (hgr.block g HB.out.lt (fun e => by have := hrow g e.symm; omega))
    have c3 := hb1.cell 3 _ rfl
    have f3 := hb1.frozen 3
    obtain ⟨a', c', rfl, _, _, _, _⟩ := hv'.form
    obtain ⟨len', HL'⟩ : ∃ len', Hid ((xs ++ ys).length = len') := ⟨_, rfl⟩
    rw [HL'.out] at hv' hat ⊢
    have hm1 : Mine g lo w w1 := ⟨hgr.os, hgr.tape, hgr.output, hgr.size, fun k hk _ => hgr.block k (by have := HLO.out; show k < w.heap.size; omega) (fun e => by have := hrow k e.symm; omega)⟩
    have HK : Hid (Fed g lo typed most room (xs ++ ys) wrong w (.returned (.int .i64 0)) (w1.setCell ⟨g, 3, none⟩ (.slice a' len' c'))) := by
      have ho := (Only.refl g w1).set 3 (.slice a' len' c')
      refine ⟨rfl, ⟨_, hb1.set 3 _, hv'.only ho hgl, hgl⟩, hm1.trans (Mine.of_only ho (by have := HLO.out; have := hm1.size; omega)), fun k hk hn hr => ?_, ?_⟩
      · rw [Below.heap_setCell _ _ _ _ (by exact hn)]
        exact hgr.block k hk (fun e => hr ⟨_, HB.out.cell 3 _ rfl, e.symm⟩)
      · rcases hat with hat | hat
        · left
          rintro r ⟨u, hu, hr⟩
          rw [HB.out.cell 3 _ rfl] at hu
          injection hu with hu
          subst hu
          exact ⟨_, (hb1.set 3 (.slice a' len' c')).cell 3 _ rfl, hat.trans hr⟩
        · right
          exact ⟨w.heap.size, Nat.le_refl _, _, (hb1.set 3 (.slice a' len' c')).cell 3 _ rfl, hat⟩
    rw [HL.out] at c3
    clear hv' hgr hrow hb1 hm1 hat
    go_wp2
    go_ret
    exact HK.out

theorem first_none (g lo : Nat) (typed : Bool) (most room : Int) (xs : List UInt8) (wrong : Int) (w : World) (h : Framer w g lo typed most room xs wrong) (hm : 0 < most) (hl : xs.length ≤ 1000000) (hw : wrong = 0 ∨ wrong = hErr typed most xs)
    (hno : hSize typed most xs = 0 ∨ xs.length < hSize typed most xs) :
    Calls Try.prog 42 #[.pointer (some ⟨g, 0, none⟩)] w (No g typed most room wrong (hErr typed most xs) (.tuple #[.agg #[.int .u8 0, .slice none 0 0], .int .i64 0, .int .i64 (hErr typed most xs)]) w) := by
  by_cases h0 : wrong = 0
  · subst h0; exact first_no g lo typed most room xs w h hm hl hno
  · rcases hw with hw | hw
    · exact absurd hw h0
    · subst hw; exact first_wrong g lo typed most room xs w h hm h0

/-- There is no whole message; the framer is as it was. -/
def NextNo (g lo : Nat) (typed : Bool) (most room : Int) (xs : List UInt8) (w : World) (e : Ending) (w' : World) : Prop :=
  e = .returned (.tuple #[.agg #[.int .u8 0, .slice none 0 0], .bool false, .int .i64 (hErr typed most xs)]) ∧ Framer w' g lo typed most room xs (hErr typed most xs) ∧ Only g w w' ∧ ∀ r, Rest w g r → Rest w' g r

set_option maxHeartbeats 1000000 in
theorem next_no (g lo : Nat) (typed : Bool) (most room : Int) (xs : List UInt8) (wrong : Int) (w : World) (h : Framer w g lo typed most room xs wrong) (hm : 0 < most) (hl : xs.length ≤ 1000000) (hw : wrong = 0 ∨ wrong = hErr typed most xs)
    (hno : hSize typed most xs = 0 ∨ xs.length < hSize typed most xs) :
    Calls Try.prog 31 #[.pointer (some ⟨g, 0, none⟩)] w (NextNo g lo typed most room xs w) := by
  have HB := Lib.hid (Blk.new w 49 [.int .u8 0, .slice none 0 0])
  have H := Lib.hid h
  have HF := Lib.hid (first_none g lo typed most room xs wrong _ (h.still ((Still.refl w).alloc (.cells #[.int .u8 0, .slice none 0 0] 49))) hm hl hw hno)
  have hg : g < w.heap.size := by obtain ⟨v, hb, _⟩ := h; exact hb.lt
  have HK : Hid (∀ (e : Ending) (W : World), e = .returned (.tuple #[.agg #[.int .u8 0, .slice none 0 0], .bool false, .int .i64 (hErr typed most xs)]) → Only g w W → (∀ v, Blk w g 58 [.bool typed, .int .i64 most, .int .i64 room, v, .int .i64 wrong] → Blk W g 58 [.bool typed, .int .i64 most, .int .i64 room, v, .int .i64 (hErr typed most xs)]) → NextNo g lo typed most room xs w e W) :=
    Lib.hid fun e W he ho hf => ⟨he, h.later ho hf, ho, rest_of h hf⟩
  clear h hw hno hl
  obtain ⟨er, HE⟩ : ∃ er, Hid (hErr typed most xs = er) := ⟨_, rfl⟩
  rw [HE.out] at HF HK
  go_enter Try.func31, Try.ntmps31
  go_wp2_with fail
  refine HF.out.mono ?_
  rintro e w1 ⟨rfl, ht, ho⟩
  have kb := HB.out.only ho (by omega)
  have t0 := kb.cell 0 _ rfl
  have t1 := kb.cell 1 _ rfl
  have f0 := kb.frozen 0
  have f1 := kb.frozen 1
  have hlt := kb.lt
  have HT := Lib.hid ht
  have HO := Lib.hid ho
  clear ht ho kb
  go_wp2_with fail
  refine bodyPost_ret (v := .tuple #[.agg #[.int .u8 0, .slice none 0 0], .bool false, .int .i64 er]) (by simp [results, Try.results31, go_sem, World.cell?_setCell_other, World.cell?_alloc_lt, hlt, t0, t1]) rfl (HK.out _ _ rfl ?_ fun v hb => ?_)
  · exact (only_new (only_new ((((Still.refl w).alloc _).only g).trans HO.out) (Nat.le_refl _) _ _) (Nat.le_refl _) _ _).alloc _
  · exact (blk_far (blk_far (HT.out v (hb.alloc _)) (by omega) _ _) (by omega) _ _).alloc _

/-- What is left behind a cut, in whatever world. -/
theorem cut_rest {w : World} {lo : Nat} {v : Value} {xs : List UInt8} (h : Held w lo v xs) (n : Nat) (hn : n ≤ xs.length) : ∃ a c A C, v = .slice a xs.length c ∧
    (∀ W : World, (Instr.slice 22 (.slice a xs.length c) (some (.int .i64 n)) none none).run Try.prog W = .ok (.slice A (xs.length - n) C) W) ∧ Held w lo (.slice A (xs.length - n) C) (xs.drop n) ∧ (Value.slice A (xs.length - n) C).ownBlock = v.ownBlock := by
  obtain ⟨a, c, A, C, hv, hs, hh⟩ := h.drop n hn
  refine ⟨a, c, A, C, hv, fun W => ?_, hh⟩
  rw [run_slice_l W 22 a xs.length c (by kernel_rfl) .i64 n (by omega) (by omega), Sc.elem_bytes, Sc.size_byte]
  simp only [Result.andThen, Int.toNat_natCast]
  rw [hs]

/-- Bytes lie in no block that holds a framer. -/
theorem ne_framer {w : World} {B g l c : Nat} {a a' : Option Addr} {xs : List UInt8} {x : Bool} {i1 i2 i4 : Int} {T : TypeId} (h : BytesAt w B a xs) (hk : Blk w g T [.bool x, .int .i64 i1, .int .i64 i2, .slice a' l c, .int .i64 i4]) (hp : 0 < xs.length) : ∀ p, a = some p → p.block ≠ g := by
  intro p hpe hb
  obtain ⟨b, off, e, _, hc⟩ := h hp
  rw [hpe] at e
  injection e with e
  subst e
  have hb' : b = g := hb
  subst hb'
  have h0 := hc 0 hp
  rw [cell_of_row w b _ _ T (0, 0) hk] at h0
  rcases off with _ | _ | _ | _ | _ | off
  all_goals simp at h0
/-- The first message was taken. -/
def NextYes (g lo B : Nat) (typed : Bool) (most room : Int) (xs : List UInt8) (n : Nat) (w : World) (e : Ending) (w' : World) : Prop :=
  ∃ a c, e = .returned (.tuple #[.agg #[.int .u8 (ty typed (xs.take n)), .slice a (n - (tsz typed + 4)) c], .bool true, .int .i64 0]) ∧ BytesAt w' B a ((xs.take n).drop (tsz typed + 4)) ∧
    (a = none → c = 0) ∧ n - (tsz typed + 4) ≤ c ∧ c ≤ maxLen ∧ Framer w' g lo typed most room (xs.drop n) 0 ∧ Only g w w' ∧ ∀ r, Rest w g r → Rest w' g r

set_option maxHeartbeats 1000000 in
theorem next_yes (g lo : Nat) (typed : Bool) (most room : Int) (xs : List UInt8) (n : Nat) (w : World) (h : Framer w g lo typed most room xs 0) (hm : 0 < most) (hl : xs.length ≤ 1000000) (hn : hSize typed most xs = n) (h0 : 0 < n) (hle : n ≤ xs.length) (B : Nat) (hB : B ≤ w.heap.size) (hBv : ∀ r, Rest w g r → ∀ k, r = some k → k < B) :
    Calls Try.prog 31 #[.pointer (some ⟨g, 0, none⟩)] w (NextYes g lo B typed most room xs n w) := by
  have HB := Lib.hid (Blk.new w 49 [.int .u8 0, .slice none 0 0])
  have h' := h
  obtain ⟨v, hb, hv, hgl⟩ := h
  have HF := Lib.hid (first_yes g lo typed most room xs n _ (h'.still ((Still.refl w).alloc (.cells #[.int .u8 0, .slice none 0 0] 49))) hm hl hn h0 hle B (by simp; omega) fun u hu k hk => by
    have e1 := (hb.alloc (.cells #[.int .u8 0, .slice none 0 0] 49)).cell 3 _ rfl
    rw [hu.cell 3 _ rfl] at e1
    injection e1 with e1
    subst e1
    exact hBv _ ⟨_, hb.cell 3 _ rfl, rfl⟩ k hk)
  have HBB := Lib.hid hB
  clear h' hBv hB
  obtain ⟨a, c, A, C, rfl, hsl, hh, hAb⟩ := cut_rest hv n hle
  have HAb := Lib.hid hAb
  clear hAb
  have hg := hb.lt
  have HBk := Lib.hid hb
  have HH := Lib.hid hh
  have e1 : ((n : Int) == 0) = false := by simp; omega
  clear hb hv hh hn
  obtain ⟨len, HL⟩ : ∃ len, Hid (xs.length = len) := ⟨_, rfl⟩
  rw [HL.out] at hsl hle
  go_enter Try.func31, Try.ntmps31
  go_wp2_with fail
  refine HF.out.mono ?_
  rintro e w1 ⟨am, cm, rfl, hby, hr1, hr2, hr3, ht, ho⟩
  have kb := HB.out.only ho (by omega)
  have t0 := kb.cell 0 _ rfl
  have t1 := kb.cell 1 _ rfl
  have f0 := kb.frozen 0
  have f1 := kb.frozen 1
  have hlt := kb.lt
  have hbk := ht _ (HBk.out.alloc _)
  have d3 := hbk.cell 3 _ rfl
  have u3 := hbk.frozen 3
  have hg1 := hbk.lt
  rw [HL.out] at d3
  have HBK := Lib.hid hbk
  have HR := Lib.hid (And.intro hr1 (And.intro hr2 hr3))
  have HY := Lib.hid hby
  have HO := Lib.hid ho
  clear ht ho kb hbk hr1 hr2 hr3 hby
  go_wp2_with fail
  have ho : Only g w ((((w1.setCell ⟨g, 3, none⟩ (.slice A (len - n) C)).setCell ⟨w.heap.size, 0, none⟩ (.int .u8 (ty typed (xs.take n)))).setCell ⟨w.heap.size, 1, none⟩ (.slice am (n - (tsz typed + 4)) cm)).alloc (.cells #[.int .u8 (ty typed (xs.take n)), .slice am (n - (tsz typed + 4)) cm] 49)) :=
    (only_new (only_new (((((Still.refl w).alloc _).only g).trans HO.out).set 3 _) (Nat.le_refl _) _ _) (Nat.le_refl _) _ _).alloc _
  refine bodyPost_ret (v := .tuple #[.agg #[.int .u8 (ty typed (xs.take n)), .slice am (n - (tsz typed + 4)) cm], .bool true, .int .i64 0]) (by simp [results, Try.results31, go_sem, World.cell?_setCell_other, World.cell?_alloc_lt, hlt, t0, t1]) rfl ?_
  have hH := HH.out
  rw [HL.out] at hH
  refine ⟨am, cm, rfl, ?_, HR.out.1, HR.out.2.1, HR.out.2.2, ⟨_, (blk_far (blk_far (HBK.out.set 3 (.slice A (len - n) C)) (by omega) _ _) (by omega) _ _).alloc _, hH.only ho hgl, hgl⟩, ho, ?_⟩
  rotate_left
  · rintro r ⟨u, hu, hr⟩
    rw [HBk.out.cell 3 _ rfl] at hu
    injection hu with hu
    subst hu
    have hab := HAb.out
    rw [HL.out] at hab hr
    exact ⟨_, ((blk_far (blk_far (HBK.out.set 3 (.slice A (len - n) C)) (by omega) _ _) (by omega) _ _).alloc _).cell 3 _ rfl, hab.trans hr⟩
  have hne := ne_framer HY.out HBK.out
  refine BytesAt.alloc ?_ (by have h1 := HO.out.size; have h2 := HBB.out; simp at h1 ⊢; omega) _
  intro hp
  obtain ⟨b, off, e, hb, hc⟩ := HY.out hp
  refine ⟨b, off, e, hb, fun i hi => ?_⟩
  have hbg : b ≠ g := hne hp _ e
  have hbw : b < w.heap.size := by have := HBB.out; omega
  rw [World.cell?_setCell_other _ _ _ _ (by intro e; injection e with e _; omega), World.cell?_setCell_other _ _ _ _ (by intro e; injection e with e _; omega), World.cell?_setCell_other _ _ _ _ (by intro e; injection e with e _; omega)]
  exact hc i hi
end Go.Proofs.Ytlffnhfnbdpghaa.Fr
