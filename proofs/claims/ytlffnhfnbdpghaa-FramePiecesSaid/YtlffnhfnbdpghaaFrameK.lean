/- The walk of FramePieces: it returns true at every input, and writes nothing that was there. -/
import Derived.Test.YtlffnhfnbdpghaaFrameJ
namespace Go.Proofs.Ytlffnhfnbdpghaa.Fr
open Go.RowKit Go By Nm

/-- What stands between two pieces: so much of xs came (t), so much of it was taken (c). -/
def At (xs : List UInt8) (g L : Nat) (w : World) (v p : Value) (W : World) : Prop :=
  ∃ (t c : Nat) (q : Int) (r : Option Nat), p = .int .i64 t ∧ t ≤ xs.length ∧ c ≤ t ∧ Run (xs.take t) c ∧ Held W L v (xs.take c) ∧ Framer W g L true 2000 4000 ((xs.take t).drop c) q ∧ (q = 0 ∨ q = hErr true 2000 ((xs.take t).drop c)) ∧
    Rest W g r ∧ (∀ k, r = some k → v.ownBlock ≠ some k) ∧ Mine g L w W

/-- A piece was fed, and its messages were taken. -/
theorem fed_on {xs ys : List UInt8} {g L : Nat} {w W W1 : World} {v : Value} {t c : Nat} {q : Int} {r : Option Nat} (hgL : g < L) (hLW : L ≤ W.heap.size) (hv : Held W L v (xs.take c)) (hr : Rest W g r) (hrv : ∀ k, r = some k → v.ownBlock ≠ some k) (hm : Mine g L w W)
    (hf : Framer W1 g L true 2000 4000 ((xs.take t).drop c ++ ys) q) (hm1 : Mine g L W W1) (hb : ∀ k, k < W.heap.size → k ≠ g → ¬ Rest W g (some k) → W1.heap[k]? = W.heap[k]?) (hr1 : (∀ r, Rest W g r → Rest W1 g r) ∨ ∃ k, W.heap.size ≤ k ∧ Rest W1 g (some k))
    (hq : q = 0 ∨ q = hErr true 2000 ((xs.take t).drop c)) :
    Held W1 L v (xs.take c) ∧ (q = 0 ∨ q = hErr true 2000 ((xs.take t).drop c ++ ys)) ∧ Mine g L w W1 ∧ L ≤ W1.heap.size ∧ ∃ r1, Rest W1 g r1 ∧ (∀ k, r1 = some k → v.ownBlock ≠ some k) ∧ (∀ k, r1 = some k → k < W1.heap.size) := by
  have hvb := hv.block
  refine ⟨hv.keep hm1.size fun k hk => hb k (hvb k hk).2 (by have := (hvb k hk).1; omega) (fun hR => ?_), ?_, hm.trans hm1, Nat.le_trans hLW hm1.size, ?_⟩
  · exact hrv k (hr.unique hR) hk
  · rcases hq with hq | hq
    · exact .inl hq
    · by_cases h0 : q = 0
      · exact .inl h0
      · right; rw [hErr_append ys (by rw [← hq]; exact h0)]; exact hq
  · obtain ⟨r1, hR1, hlt⟩ := hf.rest
    refine ⟨r1, hR1, fun k hk e => ?_, fun k hk => (hlt k hk).2⟩
    rcases hr1 with h | ⟨k', hk', h⟩
    · exact hrv k ((hR1.unique (h r hr)).symm.trans hk) e
    · have e1 := hR1.unique h
      rw [hk] at e1
      injection e1 with e1
      have := (hvb k e).2
      omega

/-- .. and what was taken was put behind the others. -/
theorem put_on {xs ys : List UInt8} {g L n t c k : Nat} {w W1 W2 W3 : World} {v v3 : Value} {q2 : Int} {r1 : Option Nat} (hgL : g < L) (hL : L ≤ W1.heap.size) (hys : ys = (xs.drop t).take k) (hct : c ≤ t) (ht : t + k ≤ xs.length) (hrun : Run (xs.take t) c)
    (hv : Held W2 L v (xs.take c)) (hrv : ∀ k, r1 = some k → v.ownBlock ≠ some k) (hrlt : ∀ k, r1 = some k → k < W1.heap.size) (hm1 : Mine g L w W1)
    (hn : Run ((xs.take t).drop c ++ ys) n) (hf : Framer W2 g L true 2000 4000 (((xs.take t).drop c ++ ys).drop n) q2) (hq : q2 = 0 ∨ q2 = hErr true 2000 (((xs.take t).drop c ++ ys).drop n)) (ho : Only g W1 W2) (hr : Rest W2 g r1)
    (hv3 : Held W3 L v3 (xs.take c ++ ((xs.take t).drop c ++ ys).take n)) (hg3 : W2.grownBy W3 v.ownBlock) (hat : v3.ownBlock = v.ownBlock ∨ v3.ownBlock = some W2.heap.size) :
    At xs g L w v3 (.int .i64 ((t + k : Nat) : Int)) W3 := by
  subst hys
  obtain ⟨p1, p2, p3, p4⟩ := piece_more hct ht hrun hn
  rw [p3] at hv3
  rw [p4] at hf hq
  have hvb := hv.block
  obtain ⟨f3, r3⟩ := hf.grown hr hg3 (fun e => by have := (hvb g e).1; omega) hrv
  refine ⟨t + k, c + n, q2, r1, rfl, ht, p2, p1, hv3, f3, hq, r3, fun k hk e => ?_, ?_⟩
  · rcases hat with h | h
    · rw [h] at e; exact hrv k hk e
    · rw [h] at e
      injection e with e
      have := hrlt k hk
      have := ho.size
      omega
  · exact (hm1.trans (Mine.of_only ho hL)).trans (Mine.of_grown hg3 (Nat.le_trans hL ho.size) fun k hk => (hvb k hk).1)

/-- All came: what was taken is what is taken of all at once. -/
theorem at_end {xs : List UInt8} {g L n0 : Nat} {w W : World} {v : Value} (h : At xs g L w v (.int .i64 ((xs.length : Nat) : Int)) W) (h0 : Run xs n0) :
    Held W L v (xs.take n0) ∧ (∃ q, Framer W g L true 2000 4000 (xs.drop n0) q) ∧ Mine g L w W := by
  obtain ⟨t, c, q, r, e, ht, hct, hrun, hv, hf, hq, hr, hrv, hm⟩ := h
  injection e with _ e
  have ht' : t = xs.length := by omega
  subst ht'
  rw [List.take_length] at hrun hf
  have hc := hrun.unique h0
  subst hc
  exact ⟨hv, ⟨q, hf⟩, hm⟩

set_option maxRecDepth 100000 in
set_option maxHeartbeats 4000000 in
theorem framePieces_walk (a0 : Option Addr) (len0 cap0 : Nat) (z0 : List Int) (a1 : Option Addr) (len1 cap1 : Nat) (z1 : List Int) (w : World) (w0 : Row w a0 len0 cap0 z0) (w1 : Row w a1 len1 cap1 z1) :
    Calls Try.prog 6 #[.slice a0 len0 cap0, .slice a1 len1 cap1] w fun e w' => e = .returned (.bool true) ∧ Below w.heap.size w w' := by
  obtain ⟨i0, hi, hz0, hz1, hz2⟩ := info_parts byte_info
  obtain ⟨xs, hxl, hx, hxn, hxc, hxm⟩ := w0.bytes
  obtain ⟨ys, hyl, hy, _, _, _⟩ := w1.bytes
  have HX := Lib.hid hx
  have HXN := Lib.hid hxn
  have HXC : Hid (xs.length ≤ cap0) := Lib.hid (by omega)
  have HXM := Lib.hid hxm
  have HXL := Lib.hid hxl
  have HY := Lib.hid hy
  have HYL := Lib.hid hyl
  clear hx hxn hxc hxm hxl hy hyl w0 w1
  by_cases h : (3000 : Int) < len0
  · go_enter Try.func6, Try.ntmps6
    go_wp2_with (go_at_call 24; refine (awake_any _).mono ?_; rintro e w' ⟨rfl, hb⟩)
    go_ret
    exact ⟨rfl, hb⟩
  · by_cases h2 : (300 : Int) < len1
    · go_enter Try.func6, Try.ntmps6
      go_wp2_with (go_at_call 24; refine (awake_any _).mono ?_; rintro e w' ⟨rfl, hb⟩)
      go_ret
      exact ⟨rfl, hb⟩
    · have HL : Hid (xs.length ≤ 3000) := Lib.hid (by have := HXL.out; omega)
      go_enter Try.func6, Try.ntmps6
      go_wp2_with fail
      refine (new_blk _).mono ?_
      rintro e w1 ⟨g1, rfl, hg1, hb1, hs1⟩
      have K1 := Lib.hid hb1
      have S1 := Lib.hid hs1
      clear hb1 hs1
      go_wp2_with fail
      refine (new_blk _).mono ?_
      rintro e w2 ⟨g2, rfl, hg2, hb2, hs2⟩
      have K2 := Lib.hid hb2
      have k1lt := K1.out.lt
      have k2lt := hb2.lt
      have F1 : Hid (Framer w2 g1 w2.heap.size true 2000 4000 [] 0) := Lib.hid ⟨_, K1.out.still hs2, Held.nil _ _, by have := hs2.size; omega⟩
      have S2 := Lib.hid (S1.out.trans hs2)
      clear hb2 hs2
      go_wp2_with fail
      refine (feed_yes g1 w2.heap.size true 2000 4000 [] 0 w.heap.size a0 cap0 len0 xs _ F1.out (by omega) (HX.out.still S2.out (Nat.le_refl _)) HXN.out (by have := HL.out; simp; omega) (by omega) (Nat.le_refl _) HXL.out).mono ?_
      rintro e w3 ⟨rfl, hf3, hm3, _, _⟩
      have F3 := Lib.hid hf3
      have M3 := Lib.hid hm3
      have K23 := Lib.hid (hm3.blk K2.out k2lt (by omega))
      have k3 : Hid (w2.heap.size ≤ w3.heap.size) := Lib.hid hm3.size
      clear hf3 hm3
      obtain ⟨r0, hr0, hr0l⟩ := F3.out.rest
      go_wp2_with fail
      refine (take_any g1 w2.heap.size ([] ++ xs) 0 r0 _ F3.out (.inl rfl) (by simpa using HL.out) hr0 (fun k hk => (hr0l k hk).2)).mono ?_
      rintro e w4 ⟨n0, vw, q0, hrun0, rfl, hvw, hf4, _, ho4, _⟩
      rw [List.nil_append] at hrun0 hvw hf4
      obtain ⟨aw, cw, rfl, _, _, _, _⟩ := hvw.form
      have hn0 : (xs.take n0).length = n0 := by have := hrun0.le; rw [List.length_take]; omega
      rw [hn0] at hvw ⊢
      have R0 := Lib.hid hrun0
      have VW := Lib.hid hvw
      have F4 := Lib.hid hf4
      have K24 := Lib.hid (K23.out.only ho4 (by omega))
      have k4 : Hid (w3.heap.size ≤ w4.heap.size) := Lib.hid ho4.size
      have B4 : Hid (Below w.heap.size w w4) := Lib.hid (((S2.out.below).trans (M3.out.below S2.out.size hg1)).trans (Below.mono (B := w.heap.size) (ho4.below ((Below.refl w.heap.size w3)) (Nat.le_trans S2.out.size k3.out) hg1) (Nat.le_refl _)))
      have hg2L : g2 < w4.heap.size := K24.out.lt
      have hg2w : w.heap.size ≤ g2 := by have := S1.out.size; omega
      have hA0 : At xs g2 w4.heap.size w4 (.slice none 0 0) (.int .i64 0) w4 := by
        refine ⟨0, 0, 0, none, rfl, Nat.zero_le _, Nat.le_refl _, ?_, Held.nil _ _, ⟨_, K24.out, Held.nil _ _, hg2L⟩, .inl rfl, ⟨_, K24.out.cell 3 _ rfl, rfl⟩, fun k hk => (by cases hk), Mine.refl _ _ _⟩
        exact Run.nil
      have HA0 := Lib.hid hA0
      clear hr0 hr0l hrun0 hvw hf4 ho4 hA0 hn0
      go_wp2_with fail
      go_loopw [10, 11, 56] (fun v p i W => ∃ j : Nat, j ≤ len1 ∧ i = .int .i64 j ∧ At xs g2 w4.heap.size w4 v p W) (fun _ _ i _ => len1 - (intOf i).toNat)
      case atStart => exact ⟨0, Nat.zero_le _, rfl, HA0.out⟩
      case round =>
        obtain ⟨j, hj, rfl, t, c, q, r, rfl, ht, hct, hrun, hv, hf, hq, hr, hrv, hm⟩ := hrel
        have HT := Lib.hid ht
        have HCT := Lib.hid hct
        have HRun := Lib.hid hrun
        have HV := Lib.hid hv
        have HF := Lib.hid hf
        have HQ := Lib.hid hq
        have HR := Lib.hid hr
        have HRV := Lib.hid hrv
        have HM := Lib.hid hm
        have BW : Hid (Below w.heap.size w wr) := Lib.hid (B4.out.trans (hm.below B4.out.size hg2w))
        have LW : Hid (w4.heap.size ≤ wr.heap.size) := Lib.hid hm.size
        have htl : (t : Int) ≤ len0 := by have := HXL.out; omega
        clear ht hct hrun hv hf hq hr hrv hm
        by_cases hlt : j < len1
        · obtain ⟨b, off, ha, hbl, hcell⟩ := HY.out (by have := HYL.out; omega)
          have hcj := (BW.out.cell (p := ⟨b, off + j, none⟩) hbl).trans (hcell j (by have := HYL.out; omega))
          obtain ⟨K, hK⟩ := Int.eq_ofNat_of_zero_le (byteAt_range ys j).1
          have hK2 : K < 256 := by have := (byteAt_range ys j).2; omega
          rw [hK] at hcj
          rw [ha]
          clear hcell hbl hK
          by_cases hmin : (K : Int) ≤ (len0 : Int) - t
          · have hkt : t + K ≤ len0 := by omega
            obtain ⟨A, C, hsl, hA, hAC⟩ := cut_part a0 cap0 xs t K ((t : Int) + K) HXN.out HXC.out HXM.out (by have := HXL.out; omega) (by omega)
            rw [HXL.out] at hsl
            have hkl : ((xs.drop t).take K).length = K := by have := HXL.out; rw [List.length_take, List.length_drop]; omega
            have hxl : ((xs.take t).drop c).length + ((xs.drop t).take K).length ≤ 3000 := by have := HL.out; have := HT.out; have := HXL.out; rw [hkl, List.length_drop, List.length_take]; omega
            have HKL := Lib.hid hkl
            have HXX := Lib.hid hxl
            have HAX := Lib.hid (And.intro (hA wr w.heap.size (HX.out.below BW.out)) hAC)
            clear hA hAC hkl hxl
            go_wp2_with fail
            refine (feed_yes g2 w4.heap.size true 2000 4000 ((xs.take t).drop c) q w.heap.size A C K ((xs.drop t).take K) _ HF.out (by omega) HAX.out.1 HAX.out.2 (by have := HXX.out; omega) (by omega) LW.out HKL.out).mono ?_
            rintro e W1 ⟨rfl, hf1, hm1, hbk1, hr1⟩
            have hfo := fed_on hg2L LW.out HV.out HR.out HRV.out HM.out hf1 hm1 hbk1 hr1 HQ.out
            have FO := Lib.hid hfo
            have HF1 := Lib.hid hf1
            clear hfo hf1 hm1 hbk1 hr1
            obtain ⟨r1, hR1⟩ : ∃ r1, Hid (Rest W1 g2 r1 ∧ (∀ k, r1 = some k → u10.ownBlock ≠ some k) ∧ (∀ k, r1 = some k → k < W1.heap.size)) := FO.out.2.2.2.2
            go_wp2_with fail
            refine (take_any g2 w4.heap.size ((xs.take t).drop c ++ (xs.drop t).take K) q r1 _ HF1.out FO.out.2.1 (by have := HXX.out; rw [List.length_append]; exact this) hR1.out.1 hR1.out.2.2).mono ?_
            rintro e W2 ⟨n, v2, q2, hrn, rfl, hv2, hf2, hq2, ho2, hr2⟩
            have TK := Lib.hid (And.intro hrn (And.intro hf2 (And.intro hq2 (And.intro ho2 hr2))))
            obtain ⟨a2, c2, rfl, hy2, hn2, _, _⟩ := hv2.form
            have Y2 := Lib.hid (And.intro hy2 hn2)
            obtain ⟨n2, HN2⟩ : ∃ n2, Hid ((((xs.take t).drop c ++ (xs.drop t).take K).take n).length = n2) := ⟨_, rfl⟩
            rw [HN2.out]
            have LX2 : Hid ((xs.take c).length + (((xs.take t).drop c ++ (xs.drop t).take K).take n).length ≤ 140737488355328) := Lib.hid (by have := HXX.out; have := HL.out; rw [List.length_take, List.length_take, List.length_append]; omega)
            have VV := Lib.hid (FO.out.1.only ho2 hg2L)
            have LL2 := Lib.hid (Nat.le_trans FO.out.2.2.2.1 ho2.size)
            clear hrn hv2 hf2 hq2 ho2 hr2 hy2 hn2 hsl
            go_wp2_with (at_builtin; refine wpList_append_held rfl (.tmp 79) (.tmp 81) 22 rfl 5 i0 Try.underlying22 hi hz0 hz1 hz2 w4.heap.size u10 (xs.take c) rfl VV.out W2.heap.size a2 c2 (((xs.take t).drop c ++ (xs.drop t).take K).take n) ?_ Y2.out.1 Y2.out.2 LX2.out LL2.out ?_; (rw [HN2.out]; rfl); intro v3 W3 hv3 hg3 hat3; have HN3 := Lib.hid (put_on (k := K) hg2L FO.out.2.2.2.1 rfl HCT.out (by have := HXL.out; have := HT.out; omega) HRun.out VV.out hR1.out.2.1 hR1.out.2.2 FO.out.2.2.1 TK.out.1 TK.out.2.1 TK.out.2.2.1 TK.out.2.2.2.1 TK.out.2.2.2.2 hv3 hg3 hat3); clear hv3 hg3 hat3)
            go_roundw
            case rel => exact ⟨j + 1, by omega, by go_num, HN3.out⟩
            case measure => simp [intOf]; omega
          · obtain ⟨M, HMt⟩ : ∃ M : Nat, Hid (t + M = len0) := ⟨len0 - t, Lib.hid (by omega)⟩
            have hkt : t + M ≤ len0 := by have := HMt.out; omega
            obtain ⟨A, C, hsl, hA, hAC⟩ := cut_part a0 cap0 xs t M ((t : Int) + ((len0 : Int) - t)) HXN.out HXC.out HXM.out (by have := HXL.out; omega) (by have := HMt.out; omega)
            rw [HXL.out] at hsl
            have hkl : ((xs.drop t).take M).length = M := by have := HXL.out; rw [List.length_take, List.length_drop]; omega
            have hxl : ((xs.take t).drop c).length + ((xs.drop t).take M).length ≤ 3000 := by have := HL.out; have := HT.out; have := HXL.out; rw [hkl, List.length_drop, List.length_take]; omega
            have HKL := Lib.hid hkl
            have HXX := Lib.hid hxl
            have HAX := Lib.hid (And.intro (hA wr w.heap.size (HX.out.below BW.out)) hAC)
            clear hA hAC hkl hxl
            go_wp2_with fail
            refine (feed_yes g2 w4.heap.size true 2000 4000 ((xs.take t).drop c) q w.heap.size A C M ((xs.drop t).take M) _ HF.out (by omega) HAX.out.1 HAX.out.2 (by have := HXX.out; omega) (by omega) LW.out HKL.out).mono ?_
            rintro e W1 ⟨rfl, hf1, hm1, hbk1, hr1⟩
            have hfo := fed_on hg2L LW.out HV.out HR.out HRV.out HM.out hf1 hm1 hbk1 hr1 HQ.out
            have FO := Lib.hid hfo
            have HF1 := Lib.hid hf1
            clear hfo hf1 hm1 hbk1 hr1
            obtain ⟨r1, hR1⟩ : ∃ r1, Hid (Rest W1 g2 r1 ∧ (∀ k, r1 = some k → u10.ownBlock ≠ some k) ∧ (∀ k, r1 = some k → k < W1.heap.size)) := FO.out.2.2.2.2
            go_wp2_with fail
            refine (take_any g2 w4.heap.size ((xs.take t).drop c ++ (xs.drop t).take M) q r1 _ HF1.out FO.out.2.1 (by have := HXX.out; rw [List.length_append]; exact this) hR1.out.1 hR1.out.2.2).mono ?_
            rintro e W2 ⟨n, v2, q2, hrn, rfl, hv2, hf2, hq2, ho2, hr2⟩
            have TK := Lib.hid (And.intro hrn (And.intro hf2 (And.intro hq2 (And.intro ho2 hr2))))
            obtain ⟨a2, c2, rfl, hy2, hn2, _, _⟩ := hv2.form
            have Y2 := Lib.hid (And.intro hy2 hn2)
            obtain ⟨n2, HN2⟩ : ∃ n2, Hid ((((xs.take t).drop c ++ (xs.drop t).take M).take n).length = n2) := ⟨_, rfl⟩
            rw [HN2.out]
            have LX2 : Hid ((xs.take c).length + (((xs.take t).drop c ++ (xs.drop t).take M).take n).length ≤ 140737488355328) := Lib.hid (by have := HXX.out; have := HL.out; rw [List.length_take, List.length_take, List.length_append]; omega)
            have VV := Lib.hid (FO.out.1.only ho2 hg2L)
            have LL2 := Lib.hid (Nat.le_trans FO.out.2.2.2.1 ho2.size)
            clear hrn hv2 hf2 hq2 ho2 hr2 hy2 hn2 hsl
            go_wp2_with (at_builtin; refine wpList_append_held rfl (.tmp 79) (.tmp 81) 22 rfl 5 i0 Try.underlying22 hi hz0 hz1 hz2 w4.heap.size u10 (xs.take c) rfl VV.out W2.heap.size a2 c2 (((xs.take t).drop c ++ (xs.drop t).take M).take n) ?_ Y2.out.1 Y2.out.2 LX2.out LL2.out ?_; (rw [HN2.out]; rfl); intro v3 W3 hv3 hg3 hat3; have HN3 := Lib.hid (put_on (k := M) hg2L FO.out.2.2.2.1 rfl HCT.out (by have := HXL.out; have := HT.out; omega) HRun.out VV.out hR1.out.2.1 hR1.out.2.2 FO.out.2.2.1 TK.out.1 TK.out.2.1 TK.out.2.2.1 TK.out.2.2.2.1 TK.out.2.2.2.2 hv3 hg3 hat3); clear hv3 hg3 hat3)
            go_roundw
            case rel => exact ⟨j + 1, by omega, by go_num, by have := HN3.out; rwa [show ((t + M : Nat) : Int) = (t : Int) + ((len0 : Int) - t) from by have := HMt.out; omega] at this⟩
            case measure => simp [intOf]; omega
        · obtain rfl : j = len1 := by omega
          obtain ⟨A, C, hsl, hA, hAC⟩ := cut_tail a0 cap0 xs t HXN.out HXC.out HXM.out HT.out
          rw [HXL.out] at hsl
          have hkl : (xs.drop t).length = len0 - t := by have := HXL.out; rw [List.length_drop]; omega
          have hxl : ((xs.take t).drop c).length + (xs.drop t).length ≤ 3000 := by have := HL.out; have := HT.out; have := HXL.out; rw [hkl, List.length_drop, List.length_take]; omega
          have HKL := Lib.hid hkl
          have HXX := Lib.hid hxl
          have HAX := Lib.hid (And.intro (hA wr w.heap.size (HX.out.below BW.out)) hAC)
          clear hA hAC hkl hxl
          go_wp2_with fail
          refine (feed_yes g2 w4.heap.size true 2000 4000 ((xs.take t).drop c) q w.heap.size A C (len0 - t) (xs.drop t) _ HF.out (by omega) HAX.out.1 HAX.out.2 (by have := HXX.out; omega) (by omega) LW.out HKL.out).mono ?_
          rintro e W1 ⟨rfl, hf1, hm1, hbk1, hr1⟩
          have hfo := fed_on hg2L LW.out HV.out HR.out HRV.out HM.out hf1 hm1 hbk1 hr1 HQ.out
          have FO := Lib.hid hfo
          have HF1 := Lib.hid hf1
          clear hfo hf1 hm1 hbk1 hr1
          obtain ⟨r1, hR1⟩ : ∃ r1, Hid (Rest W1 g2 r1 ∧ (∀ k, r1 = some k → u10.ownBlock ≠ some k) ∧ (∀ k, r1 = some k → k < W1.heap.size)) := FO.out.2.2.2.2
          go_wp2_with fail
          refine (take_any g2 w4.heap.size ((xs.take t).drop c ++ xs.drop t) q r1 _ HF1.out FO.out.2.1 (by have := HXX.out; rw [List.length_append]; exact this) hR1.out.1 hR1.out.2.2).mono ?_
          rintro e W2 ⟨n, v2, q2, hrn, rfl, hv2, hf2, hq2, ho2, hr2⟩
          have TK := Lib.hid (And.intro hrn (And.intro hf2 (And.intro hq2 (And.intro ho2 hr2))))
          obtain ⟨a2, c2, rfl, hy2, hn2, _, _⟩ := hv2.form
          have Y2 := Lib.hid (And.intro hy2 hn2)
          obtain ⟨n2, HN2⟩ : ∃ n2, Hid ((((xs.take t).drop c ++ xs.drop t).take n).length = n2) := ⟨_, rfl⟩
          rw [HN2.out]
          have LX2 : Hid ((xs.take c).length + (((xs.take t).drop c ++ xs.drop t).take n).length ≤ 140737488355328) := Lib.hid (by have := HXX.out; have := HL.out; rw [List.length_take, List.length_take, List.length_append]; omega)
          have VV := Lib.hid (FO.out.1.only ho2 hg2L)
          have LL2 := Lib.hid (Nat.le_trans FO.out.2.2.2.1 ho2.size)
          clear hrn hv2 hf2 hq2 ho2 hr2 hy2 hn2 hsl
          go_wp2_with (first
            | (at_builtin; refine wpList_append_held rfl (.tmp 89) (.tmp 91) 22 rfl 5 i0 Try.underlying22 hi hz0 hz1 hz2 w4.heap.size u10 (xs.take c) rfl VV.out W2.heap.size a2 c2 (((xs.take t).drop c ++ xs.drop t).take n) ?_ Y2.out.1 Y2.out.2 LX2.out LL2.out ?_; (rw [HN2.out]; rfl); intro v3 W3 hv3 hg3 hat3; have HN3 := Lib.hid (put_on (k := (len0 - t)) hg2L FO.out.2.2.2.1 (by rw [List.take_of_length_le (by rw [List.length_drop]; have := HXL.out; omega)]) HCT.out (by have := HXL.out; have := HT.out; omega) HRun.out VV.out hR1.out.2.1 hR1.out.2.2 FO.out.2.2.1 TK.out.1 TK.out.2.1 TK.out.2.2.1 TK.out.2.2.2.1 TK.out.2.2.2.2 hv3 hg3 hat3); clear hv3 hg3 hat3; have hend := at_end (n0 := n0) (by have := HN3.out; rwa [show t + (len0 - t) = xs.length from by have := HXL.out; omega] at this) R0.out; obtain ⟨he1, ⟨q5, he2⟩, he3⟩ := hend; obtain ⟨a3, c3, rfl, he4, _, _, _⟩ := he1.form; rw [show (xs.take n0).length = n0 from by have := R0.out.le; rw [List.length_take]; omega]; have M5 := Lib.hid he3; have F5 := Lib.hid he2; have Y3 := Lib.hid he4; have B5 := Lib.hid (B4.out.trans (he3.below B4.out.size hg2w)); have YW := Lib.hid (held_bytes (VW.out.keep he3.size fun k hk => he3.block k (VW.out.block k hk).2 (by have := (VW.out.block k hk).1; have := k3.out; omega))); have F1E := Lib.hid (F4.out.beside he3 (Nat.le_refl _) (by omega) k2lt); have HLT : Hid ((xs.take n0).length = n0) := Lib.hid (by have := R0.out.le; rw [List.length_take]; omega); have HLD : Hid ((xs.drop n0).length = len0 - n0) := Lib.hid (by have := HXL.out; rw [List.length_drop]; omega); clear he1 he2 he3 he4)
            | (go_at_call 16; refine (equal_n W3.heap.size W3.heap.size a3 aw n0 c3 cw (xs.take n0) _ Y3.out YW.out HLT.out).mono ?_; rintro e w' ⟨rfl, rfl⟩)
            | (go_at_call 28; refine (prefix_yes w.heap.size W3.heap.size a0 a3 cap0 c3 n0 len0 xs _ (HX.out.below B5.out) HXN.out HXC.out HXM.out Y3.out R0.out.le HXL.out).mono ?_; rintro e w' ⟨rfl, rfl⟩)
            | (go_at_call_of 29 (Value.pointer (some ⟨g1, 0, none⟩)); refine (size_yes g1 _ true 2000 4000 (xs.drop n0) q0 _ F1E.out (by omega) (len0 - n0) HLD.out).mono ?_; rintro e w' ⟨rfl, rfl⟩)
            | (go_at_call_of 29 (Value.pointer (some ⟨g2, 0, none⟩)); refine (size_yes g2 _ true 2000 4000 (xs.drop n0) q5 _ F5.out (by omega) (len0 - n0) HLD.out).mono ?_; rintro e w' ⟨rfl, rfl⟩)
            | (go_at_call 24; refine (awake_any _).mono ?_; rintro e w9 ⟨rfl, hb9⟩))
          go_ret
          exact ⟨rfl, B5.out.trans (hb9.mono B5.out.size)⟩
end Go.Proofs.Ytlffnhfnbdpghaa.Fr
