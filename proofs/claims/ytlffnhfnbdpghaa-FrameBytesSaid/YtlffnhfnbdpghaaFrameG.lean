/- The walk of FrameBytes: it returns true at every input, and writes nothing that was there. -/
import Derived.Test.YtlffnhfnbdpghaaFrameF
namespace Go.Proofs.Ytlffnhfnbdpghaa.Fr
open Go.RowKit Go By Nm

/-- The one message was taken. -/
def NextM (g lo : Nat) (k : Int) (ys : List UInt8) (w : World) (e : Ending) (w' : World) : Prop :=
  ∃ a c, e = .returned (.tuple #[.agg #[.int .u8 k, .slice a ys.length c], .bool true, .int .i64 0]) ∧ BytesAt w' w.heap.size a ys ∧ Framer w' g lo (typedB k) 2000 4000 [] 0 ∧ Only g w w'
theorem next_msg (g lo : Nat) (k : Int) (ys : List UInt8) (w : World) (h : Framer w g lo (typedB k) 2000 4000 ([] ++ msgB k ys) 0) (hl : ys.length ≤ 1000) (hk0 : 0 ≤ k) (hk1 : k < 256) :
    Calls Try.prog 31 #[.pointer (some ⟨g, 0, none⟩)] w (NextM g lo k ys w) := by
  rw [List.nil_append] at h
  have hL := msgB_len k ys (by omega)
  refine (next_yes g lo (typedB k) 2000 4000 (msgB k ys) (msgB k ys).length w h (by omega) (by have := tsz_le (typedB k); omega) (hSize_msg k 2000 ys (by omega) (by omega)) (by omega) (Nat.le_refl _) w.heap.size (Nat.le_refl _) (rest_lt h)).mono ?_
  rintro e w' ⟨a, c, he, hb, _, _, _, hf, ho, _⟩
  rw [List.take_length, ty_msg k ys hk0 hk1, show (msgB k ys).length - (tsz (typedB k) + 4) = ys.length from by omega] at he
  rw [List.take_length, drop_msg k ys (by omega)] at hb
  rw [List.drop_length] at hf
  exact ⟨a, c, he, hb, hf, ho⟩

theorem new_k (k : Int) (w : World) : Calls Try.prog 25 #[.int .i64 2000, .int .i64 4000, .bool (k == 0)] w (NewFramer (typedB k) 2000 4000 w) :=
  new_any 2000 4000 (k == 0) w (by omega) (by omega) (by omega) (by omega)

set_option maxHeartbeats 2000000 in
theorem frameBytes_walk (k : Int) (a0 : Option Addr) (len0 cap0 : Nat) (z0 : List Int) (w : World) (hk : 0 ≤ k ∧ k < 256) (w0 : Row w a0 len0 cap0 z0) :
    Calls Try.prog 7 #[.agg #[.int .u8 k, .slice a0 len0 cap0]] w fun e w' => e = .returned (.bool true) ∧ Below w.heap.size w w' := by
  obtain ⟨ys, hn, hy, hyn, hlc, hm⟩ := w0.bytes
  obtain ⟨hk0, hk1⟩ := hk
  have HY := Lib.hid hy
  have HYN := Lib.hid hyn
  have HN := Lib.hid hn
  have hm2 : len0 ≤ 9223372036854775807 := by unfold maxLen at hm; omega
  clear hy hyn hn w0 hlc hm
  by_cases h : (1000 : Int) < len0
  · go_enter Try.func7, Try.ntmps7
    go_wp2_with (go_at_call 24; refine (awake_any _).mono ?_; rintro e w' ⟨rfl, hb⟩)
    go_ret
    exact ⟨rfl, ((Below.refl _ w).alloc (Nat.le_refl _) _).trans (hb.mono (by simp))⟩
  · have HL : Hid (ys.length ≤ 1000) := Lib.hid (by have := HN.out; omega)
    have HM : Hid ((msgB k ys).length ≤ 1005) := Lib.hid (by have := msgB_len k ys (by have := HL.out; omega); have := tsz_le (typedB k); have := HL.out; omega)
    have HBox := Lib.hid (Blk.new w 49 [.int .u8 k, .slice a0 len0 cap0])
    go_enter Try.func7, Try.ntmps7
    go_wp2_with fail
    refine (new_k k _).mono ?_
    rintro e w1 ⟨g, rfl, hg, hf, hs⟩
    have hg' : w.heap.size < g := by simp at hg; omega
    have F1 := Lib.hid hf
    have hbox1 := HBox.out.still hs
    have k10 := hbox1.cell 0 _ rfl
    have k11 := hbox1.cell 1 _ rfl
    have HB1 := Lib.hid hbox1
    have B1 := Lib.hid (((Below.refl _ w).alloc (Nat.le_refl _) _).trans (hs.below.mono (by simp)))
    clear hg hf hs hbox1
    go_wp2_with fail
    refine (bytes_any k w.heap.size a0 cap0 len0 ys _ (HY.out.below B1.out) B1.out.size HYN.out (by have := HL.out; omega) HN.out hk0 hk1).mono ?_
    rintro e w2 ⟨a2, c2, rfl, hy2, hn2, _, _, hb2⟩
    have Y2 := Lib.hid (And.intro hy2 hn2)
    have S2 := Lib.hid hb2
    clear hy2 hn2 hb2
    go_wp2_with fail
    refine (feed_yes g w1.heap.size (typedB k) 2000 4000 [] 0 w2.heap.size a2 c2 (msgB k ys).length (msgB k ys) _ (F1.out.still (Still.of_below S2.out)) (by omega) Y2.out.1 Y2.out.2 (by have := HM.out; simp; omega) (by omega) S2.out.size rfl).mono ?_
    rintro e w3 ⟨rfl, hf3, hm3, _⟩
    have F3 := Lib.hid hf3
    have hlt1 := HB1.out.lt
    have hbox3 := hm3.blk (HB1.out.still (Still.of_below S2.out)) hlt1 (by omega)
    have B3 := Lib.hid ((B1.out.trans (S2.out.mono B1.out.size)).trans (hm3.below B1.out.size (by omega)))
    clear hf3 hm3
    go_wp2_with fail
    refine (next_msg g _ k ys _ F3.out HL.out hk0 hk1).mono ?_
    rintro e w4 ⟨a4, c4, rfl, hy4, hf4, ho4⟩
    rw [HN.out]
    have Y4 := Lib.hid hy4
    have F4 := Lib.hid hf4
    have Z4 : Hid (w3.heap.size ≤ w4.heap.size) := Lib.hid ho4.size
    have hbox4 := hbox3.only ho4 (by omega)
    have B4 := Lib.hid (ho4.below B3.out B3.out.size (by omega))
    have hT : Two w.heap.size w4.heap.size k a0 a4 len0 cap0 c4 (w4.alloc (.cells #[.int .u8 k, .slice a4 len0 c4] 49)) := by
      have h1 := hbox4.alloc (.cells #[.int .u8 k, .slice a4 len0 c4] 49)
      have h2 := Blk.new w4 49 [.int .u8 k, .slice a4 len0 c4]
      exact ⟨h1.cell 0 _ rfl, h1.cell 1 _ rfl, h2.cell 0 _ rfl, h2.cell 1 _ rfl⟩
    have T4 := Lib.hid hT
    clear hy4 hf4 ho4 hbox3 hbox4 hT
    go_wp2_with fail
    obtain ⟨q0, q1, q2, q3⟩ := T4.out
    have S5 : Hid (Still w4 (w4.alloc (.cells #[.int .u8 k, .slice a4 len0 c4] 49)).drew) := Lib.hid ((Still.refl w4).alloc _).drew
    have Z2 : Hid (w3.heap.size ≤ w4.heap.size) := Z4
    have B5 := Lib.hid (B4.out.alloc B4.out.size (.cells #[.int .u8 k, .slice a4 len0 c4] 49)).drew
    go_region_held3 (fun W => W.cell? ⟨w.heap.size, 0, none⟩ = some (.int .u8 k) ∧ W.cell? ⟨w.heap.size, 1, none⟩ = some (.slice a0 len0 cap0) ∧ W.cell? ⟨w4.heap.size, 0, none⟩ = some (.int .u8 k) ∧ W.cell? ⟨w4.heap.size, 1, none⟩ = some (.slice a4 len0 c4))
      (first
        | go_keep
        | exact T4.out
        | exact T6.out
        | exact T7.out
        | exact T8.out
        | exact T9.out)
      (first
        | (go_at_call 30; refine (bytes_any k w.heap.size a0 cap0 len0 ys _ ?_ ?_ HYN.out ?_ HN.out hk0 hk1).mono ?_; (exact HY.out.below B5.out); (exact B5.out.size); (have := HL.out; omega); rintro e w6 ⟨a6, c6, rfl, hy6, _, _, _, hb6⟩; have Y6 := Lib.hid hy6; have S6 := Lib.hid (S5.out.trans (Still.of_below hb6)); have T6 : Hid (Two w.heap.size w4.heap.size k a0 a4 len0 cap0 c4 w6) := Lib.hid (Two.below T4.out ⟨hb6.os, hb6.tape, hb6.output, hb6.size, hb6.block⟩); have B6 := Lib.hid (B5.out.trans (hb6.mono B5.out.size)); clear hy6 hb6)
        | (go_at_call 32; refine (rbytes_any k w.heap.size a0 cap0 len0 ys _ ?_ ?_ HYN.out ?_ HN.out hk0 hk1).mono ?_; (exact HY.out.below B6.out); (exact B6.out.size); (have := HL.out; omega); rintro e w7 ⟨a7, c7, rfl, hy7, _, _, _, hb7⟩; have Y7 := Lib.hid hy7; have Y67 := Lib.hid (Y6.out.below hb7); have S7 := Lib.hid (S6.out.trans (Still.of_below hb7)); have T7 := Lib.hid (Two.below T6.out hb7); have B7 := Lib.hid (B6.out.trans (hb7.mono B6.out.size)); clear hy7 hb7)
        | (go_at_call 16; refine (equal_n w6.heap.size w7.heap.size a6 a7 (msgB k ys).length c6 c7 (msgB k ys) _ Y67.out Y7.out rfl).mono ?_; rintro e w' ⟨rfl, rfl⟩)
        | (go_at_call 33; refine (same_yes k w3.heap.size w.heap.size a4 a0 len0 c4 cap0 ys _ ?_ ?_ ?_ ?_ HN.out).mono ?_; (exact Y4.out.still S7.out Z2.out); (exact Nat.le_trans Z2.out S7.out.size); (exact HY.out.below B7.out); (exact B7.out.size); rintro e w8 ⟨rfl, hb8⟩; have S8 := Lib.hid (S7.out.trans (Still.of_below hb8)); have T8 := Lib.hid (Two.below T7.out hb8); have B8 := Lib.hid (B7.out.trans (hb8.mono B7.out.size)); clear hb8)
        | (go_at_call 29; refine (size_yes g _ (typedB k) 2000 4000 [] 0 _ (F4.out.still S8.out) (by omega) 0 rfl).mono ?_; rintro e w' ⟨rfl, rfl⟩)
        | (go_at_call 24; refine (awake_any _).mono ?_; rintro e w9 ⟨rfl, hb9⟩; have T9 := Lib.hid (Two.below T8.out hb9); have B9 := Lib.hid (B8.out.trans (hb9.mono B8.out.size)); clear hb9))
    go_wp2_with fail
    go_ret
    exact ⟨rfl, B9.out⟩
end Go.Proofs.Ytlffnhfnbdpghaa.Fr
