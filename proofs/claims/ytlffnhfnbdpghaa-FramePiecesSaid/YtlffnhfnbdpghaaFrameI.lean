/- The contract of the statements' 'take': all whole messages are taken, and their bytes answered. -/
import Derived.Test.YtlffnhfnbdpghaaFrameH
namespace Go.Proofs.Ytlffnhfnbdpghaa.Fr
open Go.RowKit Go By Nm

theorem Framer.rest {w : World} {g lo : Nat} {typed : Bool} {most room : Int} {xs : List UInt8} {wrong : Int} (h : Framer w g lo typed most room xs wrong) : ∃ r, Rest w g r ∧ ∀ k, r = some k → lo ≤ k ∧ k < w.heap.size := by
  obtain ⟨v, hb, hv, _⟩ := h
  exact ⟨_, ⟨v, hb.cell 3 _ rfl, rfl⟩, fun k hk => hv.block k hk⟩
theorem Rest.unique {w : World} {g : Nat} {r r' : Option Nat} (h : Rest w g r) (h' : Rest w g r') : r = r' := by
  obtain ⟨v, hv, e⟩ := h
  obtain ⟨v', hv', e'⟩ := h'
  rw [hv] at hv'
  injection hv' with hv'
  rw [← e, ← e', hv']
theorem Rest.below {w w' : World} {g H : Nat} {r : Option Nat} (h : Rest w g r) (hb : Below H w w') (hg : g < H) : Rest w' g r := by
  obtain ⟨v, hv, e⟩ := h
  exact ⟨v, (hb.cell (p := ⟨g, 3, none⟩) hg).trans hv, e⟩
/-- A framer whose bytes lie below H is not touched by what is done from H on. -/
theorem Framer.below {w w' : World} {g lo H : Nat} {typed : Bool} {most room : Int} {xs : List UInt8} {wrong : Int} (h : Framer w g lo typed most room xs wrong) {r : Option Nat} (hr : Rest w g r) (hrH : ∀ k, r = some k → k < H) (hg : g < H) (hb : Below H w w') : Framer w' g lo typed most room xs wrong := by
  obtain ⟨v, hk, hv, hl⟩ := h
  refine ⟨v, hk.keep (hb.block g hg), hv.keep hb.size fun k hk' => hb.block k (hrH k ?_), hl⟩
  rw [← hk', ← hr.unique ⟨v, hk.cell 3 _ rfl, rfl⟩]

/-- The first message was taken off a framer of messages with types. -/
def NextT (g lo B : Nat) (X body : List UInt8) (y : Int) (n l : Nat) (r : Option Nat) (w : World) (e : Ending) (w' : World) : Prop :=
  ∃ a c, e = .returned (.tuple #[.agg #[.int .u8 y, .slice a l c], .bool true, .int .i64 0]) ∧ BytesAt w' B a body ∧ (a = none → c = 0) ∧ Framer w' g lo true 2000 4000 (X.drop n) 0 ∧ Only g w w' ∧ Rest w' g r
theorem next_t (g lo : Nat) (X body : List UInt8) (y : Int) (n l : Nat) (r : Option Nat) (wr : Int) (w : World) (h : Framer w g lo true 2000 4000 X wr) (hw : wr = 0 ∨ wr = hErr true 2000 X) (hX : Whole X) (hl : X.length ≤ 3000) (hr : Rest w g r)
    (hn : mlen X = n) (hb : (X.take n).drop 5 = body) (hy : ty true (X.take n) = y) (hll : n - 5 = l) (B : Nat) (hB : B ≤ w.heap.size) (hrB : ∀ k, r = some k → k < B) :
    Calls Try.prog 31 #[.pointer (some ⟨g, 0, none⟩)] w (NextT g lo B X body y n l r w) := by
  have h5 := whole_5 hX
  have h0 : wr = 0 := by omega
  subst h0
  refine (next_yes g lo true 2000 4000 X n w h (by omega) (by omega) hn (by omega) (by have := hX.2; omega) B hB (fun r' hr' k hk => hrB k ((hr.unique hr').trans hk))).mono ?_
  rintro e w' ⟨a, c, he, h1, h2, _, _, h3, h4, h6⟩
  exact ⟨a, c, by rw [he, ← hy, ← hll]; rfl, by rw [← hb]; exact h1, h2, h3, h4, h6 r hr⟩
def NextF (g lo : Nat) (X : List UInt8) (er : Int) (r : Option Nat) (w : World) (e : Ending) (w' : World) : Prop :=
  e = .returned (.tuple #[.agg #[.int .u8 0, .slice none 0 0], .bool false, .int .i64 er]) ∧ Framer w' g lo true 2000 4000 X er ∧ Only g w w' ∧ Rest w' g r
theorem next_f (g lo : Nat) (X : List UInt8) (er : Int) (r : Option Nat) (wr : Int) (w : World) (h : Framer w g lo true 2000 4000 X wr) (hw : wr = 0 ∨ wr = hErr true 2000 X) (hX : ¬ Whole X) (hl : X.length ≤ 3000) (hr : Rest w g r) (he : hErr true 2000 X = er) :
    Calls Try.prog 31 #[.pointer (some ⟨g, 0, none⟩)] w (NextF g lo X er r w) := by
  subst he
  refine (next_no g lo true 2000 4000 X wr w h (by omega) (by omega) hw ?_).mono ?_
  · unfold Whole mlen at hX
    omega
  · rintro e w' ⟨he, h3, h4, h6⟩
    exact ⟨he, h3, h4, h6 r hr⟩

theorem only_below {g : Nat} {w w1 w2 : World} (h : Only g w w1) (hb : Below w.heap.size w1 w2) : Only g w w2 :=
  ⟨hb.os.trans h.os, hb.tape.trans h.tape, hb.output.trans h.output, Nat.le_trans h.size hb.size, fun k hk hn => (hb.block k hk).trans (h.block k hk hn)⟩

/-- All whole messages were taken. -/
def Taken (g lo : Nat) (xs : List UInt8) (r : Option Nat) (w : World) (e : Ending) (w' : World) : Prop :=
  ∃ n v wr, Run xs n ∧ e = .returned v ∧ Held w' w.heap.size v (xs.take n) ∧ Framer w' g lo true 2000 4000 (xs.drop n) wr ∧ (wr = 0 ∨ wr = hErr true 2000 (xs.drop n)) ∧ Only g w w' ∧ Rest w' g r

set_option maxRecDepth 100000 in
set_option maxHeartbeats 2000000 in
theorem take_any (g lo : Nat) (xs : List UInt8) (wr : Int) (r : Option Nat) (w : World) (h : Framer w g lo true 2000 4000 xs wr) (hw : wr = 0 ∨ wr = hErr true 2000 xs) (hl : xs.length ≤ 3000) (hr : Rest w g r) (hrH : ∀ k, r = some k → k < w.heap.size) :
    Calls Try.prog 27 #[.pointer (some ⟨g, 0, none⟩)] w (Taken g lo xs r w) := by
  obtain ⟨i0, hi, hz0, hz1, hz2⟩ := info_parts byte_info
  have hg : g < w.heap.size := by obtain ⟨v, hb, _⟩ := h; exact hb.lt
  have HF := Lib.hid h
  have HW := Lib.hid hw
  have HL := Lib.hid hl
  have HR := Lib.hid hr
  have HRH := Lib.hid hrH
  clear h hw hl hr hrH
  go_enter Try.func27, Try.ntmps27
  go_wp2
  go_loopw [3, 7] (fun v i W => ∃ (j c : Nat) (wr : Int), j ≤ 600 ∧ i = .int .i64 j ∧ c ≤ xs.length ∧ 5 * j ≤ c ∧ (∀ n, Run (xs.drop c) n → Run xs (c + n)) ∧ Held W w.heap.size v (xs.take c) ∧ Framer W g lo true 2000 4000 (xs.drop c) wr ∧ (wr = 0 ∨ wr = hErr true 2000 (xs.drop c)) ∧ Only g w W ∧ Rest W g r) (fun _ i _ => 600 - (intOf i).toNat)
  case atStart => exact ⟨0, 0, wr, Nat.zero_le _, rfl, Nat.zero_le _, Nat.zero_le _, fun n hn => by rw [Nat.zero_add]; exact hn, Held.nil _ _, HF.out, HW.out, Only.refl _ _, HR.out⟩
  case round =>
    obtain ⟨j, c, q, hj, rfl, hc, h5, hpend, hout, hfr, hwr, ho, hrest⟩ := hrel
    have HC := Lib.hid hc
    have H5 := Lib.hid h5
    have HP := Lib.hid hpend
    have HO := Lib.hid hout
    have HFr := Lib.hid hfr
    have HWr := Lib.hid hwr
    have HOn := Lib.hid ho
    have HRe := Lib.hid hrest
    clear hc h5 hpend hout hfr hwr ho hrest
    have HX : Hid ((xs.drop c).length ≤ 3000) := Lib.hid (by have := HL.out; rw [List.length_drop]; omega)
    by_cases hlt : j < 600
    · by_cases hwh : Whole (xs.drop c)
      · have HWh := Lib.hid hwh
        clear hwh
        obtain ⟨n, HN⟩ : ∃ n, Hid (mlen (xs.drop c) = n) := ⟨_, rfl⟩
        obtain ⟨body, HBd⟩ : ∃ b, Hid (((xs.drop c).take n).drop 5 = b) := ⟨_, rfl⟩
        obtain ⟨y, HYy⟩ : ∃ y, Hid (ty true ((xs.drop c).take n) = y) := ⟨_, rfl⟩
        obtain ⟨l, HLl⟩ : ∃ l, Hid (n - 5 = l) := ⟨_, rfl⟩
        have hy : 0 ≤ y ∧ y < 256 := by rw [← HYy.out]; exact byteAt_range _ 0
        have h5n := whole_5 HWh.out
        have hwn := HWh.out.2
        rw [HN.out] at h5n hwn
        have hxc : (xs.drop c).length = xs.length - c := List.length_drop
        have hbl : body.length = l := by rw [← HBd.out, ← HLl.out, List.length_drop, List.length_take]; omega
        have hpc : [UInt8.ofNat y.toNat] ++ msgB 0 body = (xs.drop c).take n := by
          have := whole_bytes HWh.out
          rw [HN.out, HYy.out, HBd.out] at this
          exact this
        have hll : l ≤ 3000 := by have := HLl.out; have := HX.out; omega
        have hcn : c + n ≤ xs.length ∧ 5 ≤ n := by have := HC.out; omega
        have HBL := Lib.hid hbl
        have HPc := Lib.hid hpc
        have HCN := Lib.hid hcn
        have HY := Lib.hid (u8_back hy.1 hy.2)
        have hlx : (xs.take c).length ≤ 3000 ∧ (msgB 0 body).length ≤ 3005 := by
          have h1 := msgB_len 0 body (by omega)
          have ht : tsz (typedB 0) = 0 := rfl
          have := HL.out
          rw [List.length_take]
          omega
        have HLX := Lib.hid hlx
        clear h5n hwn hxc hbl hpc hcn hlx
        go_wp2_with fail
        refine (next_t g lo (xs.drop c) body y n l r q _ HFr.out HWr.out HWh.out HX.out HRe.out HN.out HBd.out HYy.out HLl.out w.heap.size HOn.out.size HRH.out).mono ?_
        rintro e w1 ⟨a1, c1, rfl, hb1, hn1, hf1, ho1, hr1⟩
        have F1 := Lib.hid hf1
        have Y1 := Lib.hid (And.intro hb1 hn1)
        have R1 := Lib.hid hr1
        have O1 := Lib.hid (HO.out.only ho1 hg)
        have On1 := Lib.hid (HOn.out.trans ho1)
        have ZW : Hid (wr.heap.size ≤ w1.heap.size) := Lib.hid ho1.size
        have Z1 : Hid (w.heap.size ≤ w1.heap.size) := Lib.hid On1.out.size
        clear hb1 hn1 hf1 ho1 hr1
        go_wp2_with fail
        have hk := Blk.new w1 49 [.int .u8 y, .slice a1 l c1]
        have k0 := hk.cell 0 _ rfl
        have k1 := hk.cell 1 _ rfl
        have HK := Lib.hid hk
        clear hk
        have hS2 : Still w1 (((w1.alloc (.cells #[.int .u8 y, .slice a1 l c1] 49)).alloc (.cells #[.int .u8 y] 5)).drew) := (((Still.refl w1).alloc _).alloc _).drew
        have hlit : BytesAt (((w1.alloc (.cells #[.int .u8 y, .slice a1 l c1] 49)).alloc (.cells #[.int .u8 y] 5)).drew) (w1.heap.size + 2) (some ⟨w1.heap.size + 1, 0, none⟩) [UInt8.ofNat y.toNat] := by
          have h := BytesAt.lit (E := 5) (w1.alloc (.cells #[.int .u8 y, .slice a1 l c1] 49)) [UInt8.ofNat y.toNat] (B := w1.heap.size + 2) (by simp)
          have e : vals [UInt8.ofNat y.toNat] = [.int .u8 y] := by simp only [vals, List.map_cons, List.map_nil, HY.out]
          rw [e, World.size_alloc] at h
          exact h
        have kb2 := (HK.out.alloc (.cells #[.int .u8 y] 5))
        have m0 := kb2.cell 0 _ rfl
        have m1 := kb2.cell 1 _ rfl
        have HLit := Lib.hid hlit
        have HS2 := Lib.hid hS2
        have HK2 := Lib.hid kb2
        clear hS2 hlit kb2
        go_region_held3 (fun W => W.cell? ⟨w1.heap.size, 0, none⟩ = some (.int .u8 y) ∧ W.cell? ⟨w1.heap.size, 1, none⟩ = some (.slice a1 l c1))
          (first
            | go_keep
            | exact ⟨m0, m1⟩
            | exact ⟨HK3.out.cell 0 _ rfl, HK3.out.cell 1 _ rfl⟩
            | exact ⟨HK4.out.cell 0 _ rfl, HK4.out.cell 1 _ rfl⟩
            | exact ⟨HK5.out.cell 0 _ rfl, HK5.out.cell 1 _ rfl⟩)
          (first
            | (refine step_append_held rfl (.tmp 17) (.tmp 20) 22 rfl 5 i0 Try.underlying22 hi hz0 hz1 hz2 w.heap.size u3 (xs.take c) (by simp [Act.eval]) (O1.out.still HS2.out) (w1.heap.size + 2) (some ⟨w1.heap.size + 1, 0, none⟩) 1 [UInt8.ofNat y.toNat] (by simp [Act.eval]) HLit.out (fun h => by cases h) ?pa ?pb ?pc
               case pa => have := HLX.out; simp only [List.length_singleton]; omega
               case pb => exact Nat.le_trans Z1.out HS2.out.size
               intro v3 w3 hv3 hg3 hat3
               have hk3 : Blk w3 w1.heap.size 49 [.int .u8 y, .slice a1 l c1] := Blk.keep HK2.out (hg3.block w1.heap.size HK2.out.lt (fun e => by have := (O1.out.block _ e.symm).2; omega))
               have HK3 := Lib.hid hk3
               have V3 := Lib.hid hv3
               have G3 := Lib.hid hg3
               have A3 := Lib.hid hat3
               have B3 := Lib.hid (((((Below.refl w.heap.size w1).alloc Z1.out (.cells #[.int .u8 y, .slice a1 l c1] 49)).alloc (by have := Z1.out; simp; omega) (.cells #[.int .u8 y] 5)).drew).grown hg3 (Nat.le_trans Z1.out HS2.out.size) (fun k hk => (O1.out.block k hk).1))
               have Y3 := Lib.hid (Y1.out.1.below B3.out)
               clear hv3 hg3 hat3 hk3)
            | (go_at_call 30; refine (bytes_0 w.heap.size a1 c1 l body _ ?_ ?_ Y1.out.2 ?_ HBL.out).mono ?_; (exact Y3.out); (exact Nat.le_trans Z1.out B3.out.size); (have := HBL.out; omega); rintro e w4 ⟨a4, c4, rfl, hy4, hn4, _, _, hb4⟩; have Y4 := Lib.hid (And.intro hy4 hn4); have B4 := Lib.hid hb4; have HK4 := Lib.hid (HK3.out.keep (hb4.block w1.heap.size HK3.out.lt)); have V4 := Lib.hid (V3.out.still (Still.of_below hb4)); clear hy4 hn4 hb4)
            | (refine step_append_held rfl (.tmp 21) (.tmp 25) 22 rfl 5 i0 Try.underlying22 hi hz0 hz1 hz2 w.heap.size v3 (xs.take c ++ [UInt8.ofNat y.toNat]) (by simp [Act.eval]) V4.out w4.heap.size a4 c4 (msgB 0 body) (by simp [Act.eval]) Y4.out.1 Y4.out.2 ?ra ?rb ?rc
               case ra => have := HLX.out; rw [List.length_append]; simp only [List.length_singleton]; omega
               case rb => exact Nat.le_trans (Nat.le_trans Z1.out B3.out.size) B4.out.size
               intro v5 w5 hv5 hg5 _
               have hne5 : some w1.heap.size ≠ v3.ownBlock := by
                 intro e
                 rcases A3.out with h | h
                 · rw [h] at e
                   have := (O1.out.block _ e.symm).2
                   omega
                 · rw [h] at e
                   injection e with e
                   exact absurd e (Nat.ne_of_lt HK2.out.lt)
               have HK5 := Lib.hid (HK4.out.keep (hg5.block w1.heap.size HK4.out.lt hne5))
               have V5 := Lib.hid hv5
               have B5 := Lib.hid ((B3.out.trans (B4.out.mono (Nat.le_trans Z1.out B3.out.size))).grown hg5 (Nat.le_trans (Nat.le_trans Z1.out B3.out.size) B4.out.size) (fun k hk => (V4.out.block k hk).1))
               clear hv5 hg5 hne5))
        go_wp2_with fail
        go_roundw
        case rel =>
          have hd : (xs.drop c).drop n = xs.drop (c + n) := List.drop_drop
          have hcn := HCN.out
          have h5j := H5.out
          refine ⟨j + 1, c + n, 0, by omega, by go_num, hcn.1, by omega, fun m hm => ?_, ?_, ?_, .inl rfl, only_below On1.out B5.out, R1.out.below B5.out hg⟩
          · rw [Nat.add_assoc]
            refine HP.out _ ?_
            rw [← hd] at hm
            have := Run.step (xs.drop c) m HWh.out (by rw [HN.out]; exact hm)
            rw [HN.out] at this
            exact this
          · have := V5.out
            rw [List.append_assoc, HPc.out] at this
            rw [List.take_add]
            exact this
          · rw [← hd]
            exact F1.out.below R1.out HRH.out hg B5.out
        case measure => simp [intOf]; omega
      · have HWh := Lib.hid hwh
        clear hwh
        obtain ⟨er, HE⟩ : ∃ er, Hid (hErr true 2000 (xs.drop c) = er) := ⟨_, rfl⟩
        go_wp2_with (go_at_call 31; refine (next_f g lo (xs.drop c) er r q _ HFr.out HWr.out HWh.out HX.out HRe.out HE.out).mono ?_; rintro e w1 ⟨rfl, hf1, ho1, hr1⟩; have F1 := Lib.hid hf1; have O1 := Lib.hid ho1; have R1 := Lib.hid hr1; clear hf1 ho1 hr1)
        go_ret
        have hS := (Still.refl w1).alloc (.cells #[.int .u8 0, .slice none 0 0] 49)
        refine ⟨c + 0, _, er, HP.out 0 (.stop _ HWh.out), rfl, (HO.out.only O1.out hg).still hS, F1.out.still hS, .inr HE.out.symm, (HOn.out.trans O1.out).trans (hS.only g), ?_⟩
        exact R1.out.below hS.below (by obtain ⟨v, hb, _⟩ := F1.out; exact hb.lt)
    · obtain rfl : j = 600 := by omega
      have hnil : xs.drop c = [] := List.eq_nil_of_length_eq_zero (by have := HL.out; have := H5.out; rw [List.length_drop]; omega)
      have HN := Lib.hid hnil
      clear hnil
      go_wp2
      go_ret
      exact ⟨c + 0, _, q, HP.out 0 (by rw [HN.out]; exact Run.nil), rfl, HO.out, HFr.out, HWr.out, HOn.out, HRe.out⟩
end Go.Proofs.Ytlffnhfnbdpghaa.Fr
