/- The walks of ScanNobody and ScanAll: each returns true at every input, and writes nothing that was there. -/
import Derived.Test.YtlffnhfnbdpghaaScanC
namespace Go.Proofs.Ytlffnhfnbdpghaa.Sc
open Go.RowKit Go By Nm

theorem new_4 (w : World) : Calls Try.prog 10 #[.slice (some ⟨w.heap.size, 0, none⟩) 4 4] (w.alloc (.cells #[.int .u8 97, .int .u8 0, .int .u8 1, .int .u8 2] 5))
    (NewScan Good [97, 0, 1, 2] (w.alloc (.cells #[.int .u8 97, .int .u8 0, .int .u8 1, .int .u8 2] 5))) :=
  new_any (w.heap.size + 1) (some ⟨w.heap.size, 0, none⟩) 4 [97, 0, 1, 2] _ (BytesAt.lit (E := 5) w [97, 0, 1, 2] (Nat.lt_succ_self _)) (fun h => by cases h) (by simp)
theorem text_a (g : Nat) (w : World) (h : Good w g [97, 0, 1, 2]) :
    Calls Try.prog 14 #[.pointer (some ⟨g, 0, none⟩)] w (Read g [97, 0, 1, 2] 2 (.string ⟨#[97]⟩) w) := text_yes g [97, 0, 1, 2] 1 w h rfl
theorem num_12 (g : Nat) (w : World) (h : Good w g [1, 2]) :
    Calls Try.prog 12 #[.pointer (some ⟨g, 0, none⟩), .int .i64 2] w (Read g [1, 2] 2 (.int .i64 258) w) := num_yes g [1, 2] 2 w h rfl
theorem done_none (g : Nat) (w : World) (h : Good w g []) :
    Calls Try.prog 22 #[.pointer (some ⟨g, 0, none⟩)] w fun e w' => e = .returned (.bool true) ∧ w = w' := done_good g [] w h

set_option maxHeartbeats 400000 in
theorem awake_any (w : World) : Calls Try.prog 9 #[] w fun e w' => e = .returned (.bool true) ∧ Below w.heap.size w w' := by
  go_enter Try.func9, Try.ntmps9
  go_wp2_with (first
    | (go_at_call 10; refine (new_4 _).mono ?_; rintro e w1 ⟨g, rfl, hg, hgood, hs⟩; have HG := Lib.hid hg; have H1 := Lib.hid hgood; have HS := Lib.hid hs; clear hg hgood hs)
    | (go_at_call 14; refine (text_a _ _ H1.out).mono ?_; rintro e w2 ⟨rfl, hgood, ho⟩; have H2 := Lib.hid hgood; have HO2 := Lib.hid ho; clear hgood ho)
    | (go_at_call 12; refine (num_12 _ _ H2.out).mono ?_; rintro e w3 ⟨rfl, hgood, ho⟩; have H3 := Lib.hid hgood; have HO3 := Lib.hid ho; clear hgood ho)
    | (go_at_call 22; refine (done_none _ _ H3.out).mono ?_; rintro e w4 ⟨rfl, rfl⟩))
  go_ret
  refine ⟨rfl, ?_⟩
  have hB := HS.out.below_of ((Below.refl w.heap.size w).alloc (Nat.le_refl _) _) (by simp)
  have hz := hB.size
  have hg : w.heap.size ≤ g := by have := HG.out; simp at this; omega
  exact (HO2.out.trans HO3.out).below hB hz hg

set_option maxHeartbeats 400000 in
theorem scanNobody_walk (n : Int) (w : World) :
    Calls Try.prog 5 #[.int .i64 n] w fun e w' => e = .returned (.bool true) ∧ Below w.heap.size w w' := by
  have HD : Hid (Dead (w.alloc (.cells #[.bool false, .slice none 0 0] 40)) w.heap.size) := Blk.new w _ [.bool false, .slice none 0 0]
  go_enter Try.func5, Try.ntmps5
  go_wp2_with fail
  refine (num_nil _ _).mono ?_
  rintro e w' ⟨rfl, rfl⟩
  go_wp2_with fail
  refine (num_dead _ _ _ HD.out).mono ?_
  rintro e w' ⟨rfl, rfl⟩
  go_wp2_with fail
  refine (text_nil _).mono ?_
  rintro e w' ⟨rfl, rfl⟩
  go_wp2_with fail
  refine (take_dead _ _ _ HD.out).mono ?_
  rintro e w' ⟨rfl, rfl⟩
  go_wp2_with fail
  refine (left_nil _).mono ?_
  rintro e w' ⟨rfl, rfl⟩
  go_wp2_with fail
  refine (bad_nil _).mono ?_
  rintro e w' ⟨rfl, rfl⟩
  go_wp2_with fail
  refine (bad_dead _ _ HD.out).mono ?_
  rintro e w' ⟨rfl, rfl⟩
  go_wp2_with fail
  refine (done_nil _).mono ?_
  rintro e w' ⟨rfl, rfl⟩
  go_wp2_with fail
  refine (done_dead _ _ HD.out).mono ?_
  rintro e w' ⟨rfl, rfl⟩
  go_wp2_with (go_at_call 9; refine (awake_any _).mono ?_; rintro e w1 ⟨rfl, hb⟩)
  go_ret
  exact ⟨rfl, ((Below.refl _ _).alloc (Nat.le_refl _) _).trans (hb.mono (by simp))⟩

theorem Good.below {w w' : World} {g B : Nat} {xs : List UInt8} (h : Good w g xs) (hb : Below B w w') (hB : g < B) : Good w' g xs := by
  obtain ⟨a, c, hk, hx, r⟩ := h
  exact ⟨a, c, hk.keep (hb.block g hB), hx.below (hb.mono (Nat.le_of_lt hB)), r⟩
theorem Good.lt {w : World} {g : Nat} {xs : List UInt8} (h : Good w g xs) : g < w.heap.size := by
  obtain ⟨a, c, hk, _⟩ := h
  exact hk.lt
theorem OwnB.only {E : TypeId} {w w' : World} {base g : Nat} {v : Value} {xs : List UInt8} (h : OwnB E w base v xs) (ho : Only g w w') (hg : g < base) : OwnB E w' base v xs := by
  refine World.ownsRow.kept h (row := some g) ho ?_
  rcases h.2 with ⟨rfl, _⟩ | ⟨k, cap, cur, rfl, hk, _⟩
  · left; rfl
  · right; simp [Value.ownBlock]; omega

theorem left_at (g : Nat) (xs : List UInt8) (n : Nat) (w : World) (h : Good w g xs) (hn : xs.length = n) :
    Calls Try.prog 19 #[.pointer (some ⟨g, 0, none⟩)] w fun e w' => e = .returned (.int .i64 n) ∧ w = w' := by
  subst hn; exact left_good g xs w h
theorem done_at (g : Nat) (xs : List UInt8) (w : World) (h : Good w g xs) (hn : xs = []) :
    Calls Try.prog 22 #[.pointer (some ⟨g, 0, none⟩)] w fun e w' => e = .returned (.bool true) ∧ w = w' := by
  subst hn; exact done_good g [] w h
theorem equal_yes (B1 B2 : Nat) (a1 a2 : Option Addr) (n c1 c2 : Nat) (xs : List UInt8) (w : World) (h1 : BytesAt w B1 a1 xs) (h2 : BytesAt w B2 a2 xs) (hn : xs.length = n) :
    Calls Try.prog 16 #[.slice a1 n c1, .slice a2 n c2] w fun e w' => e = .returned (.bool true) ∧ w = w' := by
  subst hn
  exact (equal_any B1 B2 a1 a2 c1 c2 xs xs w h1 h2).mono fun _ _ ⟨he, hw⟩ => ⟨by rw [he]; simp, hw⟩
/-- What stands behind a piece that was taken and put to the others. -/
theorem piece_on {w w1 w2 w3 : World} {g k mm : Nat} {xs : List UInt8} {v v' : Value} (hg : w.heap.size ≤ g) (hB : Below w.heap.size w w1) (ho : Only g w1 w2) (hG : Good w2 g ((xs.drop k).drop mm))
    (hown : OwnB 5 w2 (g + 1) v (xs.take k)) (hown3 : OwnB 5 w3 (g + 1) v' (xs.take k ++ (xs.drop k).take mm)) (hgr : w2.grownBy w3 v.ownBlock) :
    OwnB 5 w3 (g + 1) v' (xs.take (k + mm)) ∧ Good w3 g (xs.drop (k + mm)) ∧ Below w.heap.size w w3 := by
  have hb3 : Below (g + 1) w2 w3 := hown.below_grown (Below.refl _ _) (by have := hG.lt; omega) hgr
  refine ⟨?_, ?_, ?_⟩
  · rw [List.take_add]; exact hown3
  · rw [List.drop_drop] at hG; exact hG.below hb3 (Nat.lt_succ_self _)
  · exact (ho.below hB hB.size hg).trans (hb3.mono (by omega))

set_option maxHeartbeats 1000000 in
theorem scanAll_walk (a0 : Option Addr) (len0 cap0 : Nat) (z0 : List Int) (a1 : Option Addr) (len1 cap1 : Nat) (z1 : List Int) (w : World) (w0 : Row w a0 len0 cap0 z0) (w1 : Row w a1 len1 cap1 z1) :
    Calls Try.prog 4 #[.slice a0 len0 cap0, .slice a1 len1 cap1] w fun e w' => e = .returned (.bool true) ∧ Below w.heap.size w w' := by
  obtain ⟨i0, hi, hz0, hz1, hz2⟩ := info_parts byte_info
  obtain ⟨xs, rfl, hx, hxn, _, _⟩ := w0.bytes
  obtain ⟨ys, rfl, hy, _, hyc, hym⟩ := w1.bytes
  have HX := Lib.hid hx
  have HXN := Lib.hid hxn
  have HY := Lib.hid hy
  clear hx hy hxn w0 w1
  by_cases h : (2000 : Int) < xs.length
  · clear hyc hym
    go_enter Try.func4, Try.ntmps4
    go_wp2_with (go_at_call 9; refine (awake_any _).mono ?_; rintro e w' ⟨rfl, hb⟩)
    go_ret
    exact ⟨rfl, hb⟩
  · by_cases h2 : (200 : Int) < ys.length
    · clear hyc hym
      go_enter Try.func4, Try.ntmps4
      go_wp2_with (go_at_call 9; refine (awake_any _).mono ?_; rintro e w' ⟨rfl, hb⟩)
      go_ret
      exact ⟨rfl, hb⟩
    · clear hyc hym
      have HL : Hid (xs.length ≤ 2000) := Lib.hid (by omega)
      obtain ⟨m, HM⟩ : ∃ m, Hid (ys.length = m) := ⟨_, rfl⟩
      rw [HM.out] at h2 ⊢
      go_enter Try.func4, Try.ntmps4
      go_wp2_with (go_at_call 10; refine (new_any w.heap.size a0 cap0 xs w HX.out HXN.out (by have := HL.out; omega)).mono ?_; rintro e w1 ⟨g, rfl, hg, hgood, hs⟩; have HG := Lib.hid hg; have H1 := Lib.hid hgood; have HS := Lib.hid hs; clear hg hgood hs)
      go_loopw [6, 22] (fun v i wr => ∃ k j : Nat, j ≤ m ∧ i = .int .i64 j ∧ k ≤ xs.length ∧ OwnB 5 wr (g + 1) v (xs.take k) ∧ Good wr g (xs.drop k) ∧ Below w.heap.size w wr) (fun _ i _ => m - (intOf i).toNat)
      case atStart => exact ⟨0, 0, Nat.zero_le _, rfl, Nat.zero_le _, World.ownsRow_nil _ _ _ _, H1.out, HS.out.below⟩
      case round =>
        obtain ⟨k, j, hj, rfl, hk, hown, hgood, hbw⟩ := hrel
        have HO := Lib.hid hown
        have HGd := Lib.hid hgood
        have HB := Lib.hid hbw
        have HK := Lib.hid hk
        clear hown hgood hbw hk
        have hkl : (xs.drop k).length = xs.length - k := List.length_drop
        obtain ⟨lf, HF⟩ : ∃ lf, Hid (xs.length - k = lf) := ⟨_, rfl⟩
        have HF2 : Hid ((xs.drop k).length = lf) := Lib.hid (hkl.trans HF.out)
        have hlf : lf ≤ 2000 := by have := HF.out; have := HL.out; omega
        clear hkl
        by_cases hlt : j < m
        · obtain ⟨b, off, ha, hbl, hcell⟩ := HY.out (by rw [HM.out]; omega)
          have hcj := (HB.out.cell (p := ⟨b, off + j, none⟩) hbl).trans (hcell j (by rw [HM.out]; exact hlt))
          have hbr := byteAt_range ys j
          rw [ha]
          clear hcell hbl
          by_cases hmin : byteAt ys j ≤ (lf : Int)
          · have HMM : Hid (((xs.drop k).take (byteAt ys j).toNat).length = (byteAt ys j).toNat) := Lib.hid (by rw [List.length_take, HF2.out]; omega)
            go_wp2_with (first
              | (go_at_call 19; refine (left_at _ _ _ _ HGd.out HF2.out).mono ?_; rintro e w' ⟨rfl, rfl⟩)
              | (go_at_call 17; refine (take_at g (xs.drop k) _ (byteAt ys j).toNat _ (by omega) HGd.out (by rw [HF2.out]; omega)).mono ?_; rintro e w2 ⟨a2, c2, rfl, b2, n2, l2, m2, hg2, ho2⟩; have HQ := Lib.hid (And.intro b2 (And.intro n2 (And.intro hg2 ho2))); clear b2 n2 l2 m2 hg2 ho2)
              | (at_builtin; refine wpList_append_bytes rfl (.tmp 26) (.tmp 33) 22 rfl (g + 1) 5 i0 Try.underlying22 hi hz0 hz1 hz2 _ (xs.take k) rfl (OwnB.only HO.out HQ.out.2.2.2 (Nat.lt_succ_self g)) g a2 c2 ((xs.drop k).take (byteAt ys j).toNat) ?d1 HQ.out.1 HQ.out.2.1 ?d2 ?d3 ?d4))
            case d1 => rw [HMM.out]; rfl
            case d2 => rw [HMM.out, List.length_take]; omega
            case d3 => have := HQ.out.2.2.1.lt; omega
            case d4 =>
              intro v3 w3 hown3 hgr3 _
              have HP := Lib.hid (piece_on HG.out HB.out HQ.out.2.2.2 HQ.out.2.2.1 (OwnB.only HO.out HQ.out.2.2.2 (Nat.lt_succ_self g)) hown3 hgr3)
              clear hown3 hgr3
              go_wp2
              go_roundw
              case rel => exact ⟨k + (byteAt ys j).toNat, j + 1, by omega, by go_num, by have := HF.out; have := HK.out; omega, HP.out⟩
              case measure => simp [intOf]; omega
          · have HMM : Hid (((xs.drop k).take lf).length = lf) := Lib.hid (by rw [List.length_take, HF2.out]; omega)
            go_wp2_with (first
              | (go_at_call 19; refine (left_at _ _ _ _ HGd.out HF2.out).mono ?_; rintro e w' ⟨rfl, rfl⟩)
              | (go_at_call 17; refine (take_at g (xs.drop k) _ lf _ (by omega) HGd.out (by rw [HF2.out]; omega)).mono ?_; rintro e w2 ⟨a2, c2, rfl, b2, n2, l2, m2, hg2, ho2⟩; have HQ := Lib.hid (And.intro b2 (And.intro n2 (And.intro hg2 ho2))); clear b2 n2 l2 m2 hg2 ho2)
              | (at_builtin; refine wpList_append_bytes rfl (.tmp 26) (.tmp 33) 22 rfl (g + 1) 5 i0 Try.underlying22 hi hz0 hz1 hz2 _ (xs.take k) rfl (OwnB.only HO.out HQ.out.2.2.2 (Nat.lt_succ_self g)) g a2 c2 ((xs.drop k).take lf) ?g1 HQ.out.1 HQ.out.2.1 ?g2 ?g3 ?g4))
            case g1 => rw [HMM.out]; rfl
            case g2 => rw [HMM.out, List.length_take]; omega
            case g3 => have := HQ.out.2.2.1.lt; omega
            case g4 =>
              intro v3 w3 hown3 hgr3 _
              have HP := Lib.hid (piece_on HG.out HB.out HQ.out.2.2.2 HQ.out.2.2.1 (OwnB.only HO.out HQ.out.2.2.2 (Nat.lt_succ_self g)) hown3 hgr3)
              clear hown3 hgr3
              go_wp2
              go_roundw
              case rel => exact ⟨k + lf, j + 1, by omega, by go_num, by have := HF.out; have := HK.out; omega, HP.out⟩
              case measure => simp [intOf]; omega
        · obtain rfl : j = m := by omega
          have HMM : Hid (((xs.drop k).take lf).length = lf) := Lib.hid (by rw [List.length_take, HF2.out]; omega)
          go_wp2_with (first
            | (go_at_call 19; refine (left_at _ _ _ _ HGd.out HF2.out).mono ?_; rintro e w' ⟨rfl, rfl⟩)
            | (go_at_call 17; refine (take_at g (xs.drop k) _ lf _ (by omega) HGd.out (by rw [HF2.out]; omega)).mono ?_; rintro e w2 ⟨a2, c2, rfl, b2, n2, l2, m2, hg2, ho2⟩; have HQ := Lib.hid (And.intro b2 (And.intro n2 (And.intro hg2 ho2))); clear b2 n2 l2 m2 hg2 ho2)
            | (at_builtin; refine wpList_append_bytes rfl (.tmp 36) (.tmp 40) 22 rfl (g + 1) 5 i0 Try.underlying22 hi hz0 hz1 hz2 _ (xs.take k) rfl (OwnB.only HO.out HQ.out.2.2.2 (Nat.lt_succ_self g)) g a2 c2 ((xs.drop k).take lf) ?k1 HQ.out.1 HQ.out.2.1 ?k2 ?k3 ?k4))
          case k1 => rw [HMM.out]; rfl
          case k2 => rw [HMM.out, List.length_take]; omega
          case k3 => have := HQ.out.2.2.1.lt; omega
          case k4 =>
            intro v3 w3 hown3 hgr3 _
            have HP := Lib.hid (piece_on HG.out HB.out HQ.out.2.2.2 HQ.out.2.2.1 (OwnB.only HO.out HQ.out.2.2.2 (Nat.lt_succ_self g)) hown3 hgr3)
            obtain ⟨p1, p2, p3⟩ := HP.out
            have e1 : k + lf = xs.length := by have := HF.out; have := HK.out; omega
            rw [e1, List.take_length] at p1
            rw [e1, List.drop_length] at p2
            obtain ⟨a4, c4, rfl, _, _, hx4⟩ := p1.at_
            have H4 := Lib.hid hx4
            have HX3 := Lib.hid (HX.out.below p3)
            have HP3 := Lib.hid p3
            have HG3 := Lib.hid p2
            obtain ⟨n, HN⟩ : ∃ n, Hid (xs.length = n) := ⟨_, rfl⟩
            rw [HN.out]
            clear hown3 hgr3 HP p1 p2 p3 e1 hx4
            go_wp2_with (first
              | (go_at_call 16; refine (equal_yes w3.heap.size w.heap.size a4 a0 n c4 cap0 xs _ H4.out HX3.out HN.out).mono ?_; rintro e w' ⟨rfl, rfl⟩)
              | (go_at_call 22; refine (done_at _ _ _ HG3.out rfl).mono ?_; rintro e w' ⟨rfl, rfl⟩)
              | (go_at_call 9; refine (awake_any _).mono ?_; rintro e w5 ⟨rfl, hb⟩))
            go_ret
            exact ⟨rfl, HP3.out.trans (hb.mono HP3.out.size)⟩
end Go.Proofs.Ytlffnhfnbdpghaa.Sc
