/- The document's answer for Build: the same bytes. -/
import Derived.Test.YtngmfgdoopkkdaaHelK
import Derived.Test.YtngmfgdoopkkdaaHelI
import Derived.Deep.RegionHeld3
namespace Go.Proofs.Ytngmfgdoopkkdaa.He
set_option maxRecDepth 100000
open Go.RowKit Go By Nm Sc

set_option maxHeartbeats 8000000 in
theorem rhbuild_any (c p q : Int) (B : Nat) (a : Option Addr) (n k : Nat) (ps : List Pr) (w : World) (hE : Elems w B a 2 (prE ps)) (hB : B ≤ w.heap.size) (hn : ps.length = n) (hm : n ≤ 100000) (hl : (encP ps).length ≤ 10000000)
    (hz : ∀ t, t < n → (ps.getD t ([], [])).1.length ≤ 4294967296 ∧ (ps.getD t ([], [])).2.length ≤ 4294967296) :
    Calls Try.prog 17 #[.agg #[.int .i64 c, .int .i64 p, .int .i64 q, .slice a n k]] w (Built (c, p, q, ps) w) := by
  obtain ⟨i0, hi, hz0, hz1, hz2⟩ := info_parts byte_info
  have HN := Lib.hid hn
  have HL := Lib.hid hl
  have hbl : Below w.heap.size w (w.alloc (.cells #[.int .i64 c, .int .i64 p, .int .i64 q, .slice a n k] 26)) := (Below.refl _ _).alloc (Nat.le_refl _) _
  have HS := Lib.hid hbl
  have HK := Lib.hid (Blk.new w 26 [.int .i64 c, .int .i64 p, .int .i64 q, .slice a n k])
  have HE := Lib.hid (elems_more hE hB)
  have HMay := Lib.hid (may_any c p q B a n k ps (w.alloc (.cells #[.int .i64 c, .int .i64 p, .int .i64 q, .slice a n k] 26)) (hE.below (hbl.mono hB)) (by simp; omega) hn (by omega) hz)
  clear hE hB hn hl hbl hz
  cases hmb : mayB (c, p, q, ps) with
  | false =>
    rw [hmb] at HMay
    have HMb := Lib.hid hmb
    clear hmb
    go_enter Try.func17, Try.ntmps17
    go_wp2_with fail
    refine HMay.out.mono ?_
    rintro e w2 ⟨rfl, hb2⟩
    have HB2 := Lib.hid (HS.out.trans (hb2.mono (by simp)))
    clear hb2
    go_wp2
    go_ret2
    exact ⟨none, 0, 1, [], rfl, fun h => by (rw [HMb.out] at h; cases h), fun _ => ⟨rfl, rfl⟩, BytesAt.nil, fun _ => rfl, Nat.le_refl _, by simp [maxLen], HB2.out⟩
  | true =>
    rw [hmb] at HMay
    have hc : c = 196608 ∨ c = 80877102 ∨ c = 80877103 := by
      by_cases h1 : c = 196608
      · exact .inl h1
      · by_cases h2 : c = 80877102
        · exact .inr (.inl h2)
        · by_cases h3 : c = 80877103
          · exact .inr (.inr h3)
          · simp [mayB, h1, h2, h3] at hmb
    have HMb := Lib.hid hmb
    clear hmb
    have hput : Hid (∀ W : World, Calls Try.prog 46 #[.slice none 0 0, .int .i64 c, .int .i64 4] W (Made (putTo c 4 4) W)) := Lib.hid fun W => by
      have := rput_any 0 none 0 [] c 4 W BytesAt.nil (fun _ => rfl) (by simp)
      have hr : rightB c 4 = true := by rcases hc with h | h | h <;> (subst h; decide)
      rw [putL, if_pos hr] at this
      exact this
    rcases hc with h | h | h
    · subst h
      go_enter Try.func17, Try.ntmps17
      go_wp2_with fail
      refine HMay.out.mono ?_
      rintro e w2 ⟨rfl, hb2⟩
      have HK2 := Lib.hid (HK.out.keep (hb2.block _ (by simp)))
      have k0 := HK2.out.cell 0 _ rfl
      have HB2 := Lib.hid (HS.out.trans (hb2.mono (by simp)))
      have hz2' : w.heap.size + 1 ≤ w2.heap.size := by have := hb2.size; simpa using this
      clear hb2
      go_wp2_with fail
      refine (hput.out w2).mono ?_
      rintro e w3 ⟨a3, c3, rfl, _, ho3, _, hb3⟩
      have HH3 : Hid (Held w3 (w.heap.size + 1) (.slice a3 (putTo 196608 4 4).length c3) (putTo 196608 4 4)) := Lib.hid (held_rebase (Held.of_own ho3) (by omega))
      have HK3 := Lib.hid (HK2.out.keep (hb3.block _ (by omega)))
      have m0 := HK3.out.cell 0 _ rfl
      have HB3 := Lib.hid (HB2.out.trans (hb3.mono (by omega)))
      have hz3 : w.heap.size + 1 ≤ w3.heap.size := Nat.le_trans hz2' hb3.size
      clear ho3 hb3 k0
      go_wp2
      go_loopw [4, 5] (fun v i wr => ∃ j : Nat, i = .int .i64 j ∧ j ≤ n ∧ Held wr (w.heap.size + 1) v (putTo 196608 4 4 ++ encP (ps.take j)) ∧ Below (w.heap.size + 1) w3 wr ∧ w.heap.size + 1 ≤ wr.heap.size) (fun _ i _ => n - (intOf i).toNat)
      case atStart => exact ⟨0, rfl, Nat.zero_le _, by simpa [encP] using HH3.out, Below.refl _ _, hz3⟩
      case round =>
        obtain ⟨j, rfl, hj, hheld, hbel, hzr⟩ := hrel
        have HH := Lib.hid hheld
        have HBl := Lib.hid hbel
        have HKr := Lib.hid (HK3.out.keep (hbel.block _ (Nat.lt_succ_self _)))
        have HBw : Hid (Below w.heap.size w wr) := Lib.hid (HB3.out.trans (hbel.mono (Nat.le_succ _)))
        have m3 := HKr.out.cell 3 _ rfl
        clear hbel
        have h4 : (putTo 196608 4 4).length = 4 := putTo_length _ _ _
        have HBnd : Hid (∀ t, (putTo 196608 4 4 ++ encP (ps.take t)).length ≤ 10000004) := Lib.hid fun t => by rw [List.length_append, h4]; have := encP_take_len ps t; have := HL.out; omega
        by_cases hlt : j < n
        · obtain ⟨b, off, ha, hb, hc0, hc1⟩ := pair_cells (HE.out.below HBw.out) j (by rw [HN.out]; exact hlt)
          subst ha
          obtain ⟨pr, HPr⟩ : ∃ p, Hid (ps.getD j ([], []) = p) := ⟨_, rfl⟩
          rw [HPr.out] at hc0 hc1
          have hnx := encP_next ps j (by rw [HN.out]; exact hlt)
          rw [HPr.out] at hnx
          have HX := Lib.hid hnx
          have hbd := HBnd.out (j + 1)
          rw [hnx, ← List.append_assoc] at hbd
          have HBd := Lib.hid hbd
          have HC1 := Lib.hid hc1
          obtain ⟨x1, HX1⟩ : ∃ x, Hid (putTo 196608 4 4 ++ encP (ps.take j) = x) := ⟨_, rfl⟩
          rw [HX1.out] at HH HBd
          rw [HX1.out] at hheld
          obtain ⟨a1, c1, rfl, _⟩ := hheld.form
          obtain ⟨n1, HN1⟩ : ∃ x, Hid (x1.length = x) := ⟨_, rfl⟩
          rw [HN1.out] at HH ⊢
          have HH1 := HH
          have HB1 : Hid (Below (w.heap.size + 1) wr wr) := Lib.hid (Below.refl _ _)
          have HLo1 : Hid (w.heap.size + 1 ≤ wr.heap.size) := Lib.hid hzr
          have HF1 : Hid (x1.length + pr.1.length ≤ 140737488355320) := Lib.hid (by have := HBd.out; simp [encT] at this; omega)
          clear hheld hnx hbd h4 hc1
          go_wp2_with (at_builtin; refine wpList_append_text rfl (.tmp 23) (.tmp 29) 22 9 rfl 5 i0 Try.underlying22 hi hz0 hz1 hz2 Try.underlying9 (w.heap.size + 1) _ x1 rfl HH1.out pr.1 rfl ?g11 HLo1.out ?g21)
          case g11 => have := HF1.out; omega
          case g21 =>
            intro v2 w2 hh hg _
            have HB2 := Lib.hid (held_below HH1.out HB1.out HLo1.out hg)
            have HLo2 : Hid (w.heap.size + 1 ≤ w2.heap.size) := Lib.hid (Nat.le_trans HLo1.out hg.size)
            have HH2 := Lib.hid hh
            obtain ⟨a2, c2, rfl, _⟩ := hh.form
            obtain ⟨x2, HX2⟩ : ∃ x, Hid (x1 ++ pr.1 = x) := ⟨_, rfl⟩
            rw [HX2.out] at HH2 ⊢
            obtain ⟨n2, HN2⟩ : ∃ x, Hid (x2.length = x) := ⟨_, rfl⟩
            rw [HN2.out] at HH2 ⊢
            have hn2 : x2.length = x1.length + pr.1.length := by rw [← HX2.out, List.length_append]
            have HF2 : Hid (x2.length + 1 ≤ 140737488355328) := Lib.hid (by rw [hn2]; have := HF1.out; omega)
            have HH2' : Hid (Held (w2.alloc (.cells #[.int .u8 0] 5)) (w.heap.size + 1) (.slice a2 n2 c2) x2) := Lib.hid (HH2.out.still ((Still.refl w2).alloc _))
            clear hh hg hn2
            go_wp2_with (at_builtin; refine wpList_append_held rfl (.tmp 30) (.tmp 31) 22 rfl 5 i0 Try.underlying22 hi hz0 hz1 hz2 (w.heap.size + 1) _ x2 rfl HH2'.out (w2.heap.size + 1) (some ⟨w2.heap.size, 0, none⟩) 1 [0] rfl (BytesAt.lit (E := 5) w2 [0] (Nat.lt_succ_self _)) (fun hh => by cases hh) ?k11 ?k21 ?k31)
            case k11 => have := HF2.out; simp; omega
            case k21 => have := HLo2.out; simp; omega
            case k31 =>
              intro v3 w3 hh hg _
              have HB3 := Lib.hid (held_below HH2'.out (HB2.out.alloc HLo2.out _) (by have := HLo2.out; simp; omega) hg)
              have HLo3 : Hid (w.heap.size + 1 ≤ w3.heap.size) := Lib.hid (by have := HLo2.out; have := hg.size; simp at this; omega)
              have HH3 := Lib.hid hh
              obtain ⟨a3, c3, rfl, _⟩ := hh.form
              obtain ⟨x3, HX3⟩ : ∃ x, Hid (x2 ++ [0] = x) := ⟨x2 ++ [0], Lib.hid rfl⟩
              rw [HX3.out] at HH3 ⊢
              obtain ⟨n3, HN3⟩ : ∃ x, Hid (x3.length = x) := ⟨_, rfl⟩
              rw [HN3.out] at HH3 ⊢
              clear hh hg
              have hp3b := (HB3.out.cell (p := ⟨b, off + j * 2 + 1, none⟩) (by show b < _; omega)).trans HC1.out
              have q3 := (HKr.out.keep (HB3.out.block _ (Nat.lt_succ_self _))).cell 3 _ rfl
              have HF3 : Hid (x3.length + pr.2.length ≤ 140737488355320) := Lib.hid (by
                have e : x3.length = x1.length + pr.1.length + 1 := by rw [← HX3.out, ← HX2.out]; simp; omega
                have := HBd.out
                simp [encT] at this
                omega)
              go_wp2_with (at_builtin; refine wpList_append_text rfl (.tmp 33) (.tmp 39) 22 9 rfl 5 i0 Try.underlying22 hi hz0 hz1 hz2 Try.underlying9 (w.heap.size + 1) _ x3 rfl HH3.out pr.2 rfl ?g13 HLo3.out ?g23)
              case g13 => have := HF3.out; omega
              case g23 =>
                intro v4 w4 hh hg _
                have HB4 := Lib.hid (held_below HH3.out HB3.out HLo3.out hg)
                have HLo4 : Hid (w.heap.size + 1 ≤ w4.heap.size) := Lib.hid (Nat.le_trans HLo3.out hg.size)
                have HH4 := Lib.hid hh
                obtain ⟨a4, c4, rfl, _⟩ := hh.form
                obtain ⟨x4, HX4⟩ : ∃ x, Hid (x3 ++ pr.2 = x) := ⟨_, rfl⟩
                rw [HX4.out] at HH4 ⊢
                obtain ⟨n4, HN4⟩ : ∃ x, Hid (x4.length = x) := ⟨_, rfl⟩
                rw [HN4.out] at HH4 ⊢
                have hn4 : x4.length = x3.length + pr.2.length := by rw [← HX4.out, List.length_append]
                have HF4 : Hid (x4.length + 1 ≤ 140737488355328) := Lib.hid (by rw [hn4]; have := HF3.out; omega)
                have HH4' : Hid (Held (w4.alloc (.cells #[.int .u8 0] 5)) (w.heap.size + 1) (.slice a4 n4 c4) x4) := Lib.hid (HH4.out.still ((Still.refl w4).alloc _))
                clear hh hg hn4
                go_wp2_with (at_builtin; refine wpList_append_held rfl (.tmp 40) (.tmp 41) 22 rfl 5 i0 Try.underlying22 hi hz0 hz1 hz2 (w.heap.size + 1) _ x4 rfl HH4'.out (w4.heap.size + 1) (some ⟨w4.heap.size, 0, none⟩) 1 [0] rfl (BytesAt.lit (E := 5) w4 [0] (Nat.lt_succ_self _)) (fun hh => by cases hh) ?k13 ?k23 ?k33)
                case k13 => have := HF4.out; simp; omega
                case k23 => have := HLo4.out; simp; omega
                case k33 =>
                  intro v5 w5 hh hg _
                  have HB5 := Lib.hid (held_below HH4'.out (HB4.out.alloc HLo4.out _) (by have := HLo4.out; simp; omega) hg)
                  have HLo5 : Hid (w.heap.size + 1 ≤ w5.heap.size) := Lib.hid (by have := HLo4.out; have := hg.size; simp at this; omega)
                  have HH5 := Lib.hid hh
                  obtain ⟨a5, c5, rfl, _⟩ := hh.form
                  obtain ⟨x5, HX5⟩ : ∃ x, Hid (x4 ++ [0] = x) := ⟨x4 ++ [0], Lib.hid rfl⟩
                  rw [HX5.out] at HH5 ⊢
                  obtain ⟨n5, HN5⟩ : ∃ x, Hid (x5.length = x) := ⟨_, rfl⟩
                  rw [HN5.out] at HH5 ⊢
                  clear hh hg
                  go_wp2
                  go_roundw
                  case rel =>
                    refine ⟨j + 1, by go_num, by omega, ?_, HBl.out.trans HB5.out, HLo5.out⟩
                    have e : putTo 196608 4 4 ++ encP (ps.take (j + 1)) = x5 := by
                      rw [HX.out, ← HX5.out, ← HX4.out, ← HX3.out, ← HX2.out, ← HX1.out]; simp [encT]
                    show Held w5 _ (Value.slice a5 n5 c5) _
                    rw [e]
                    exact HH5.out
                  case measure => simp [intOf]; omega
        · obtain rfl : j = n := by omega
          rw [List.take_of_length_le (by rw [HN.out]; exact Nat.le_refl _)] at hheld HH
          obtain ⟨x1, HX1⟩ : ∃ x, Hid (putTo 196608 4 4 ++ encP ps = x) := ⟨_, rfl⟩
          have hbd := HBnd.out ps.length
          rw [List.take_length] at hbd
          rw [HX1.out] at HH hheld hbd
          obtain ⟨a1, c1, rfl, _⟩ := hheld.form
          obtain ⟨n1, HN1⟩ : ∃ x, Hid (x1.length = x) := ⟨_, rfl⟩
          have HBd := Lib.hid hbd
          rw [HN1.out] at HH ⊢
          have HH2 : Hid (Held (wr.alloc (.cells #[.int .u8 0] 5)) (w.heap.size + 1) (.slice a1 n1 c1) x1) := Lib.hid (HH.out.still ((Still.refl wr).alloc _))
          clear hheld hbd h4
          go_wp2_with (at_builtin; refine wpList_append_held rfl (.tmp 43) (.tmp 44) 22 rfl 5 i0 Try.underlying22 hi hz0 hz1 hz2 (w.heap.size + 1) _ x1 rfl HH2.out (wr.heap.size + 1) (some ⟨wr.heap.size, 0, none⟩) 1 [0] rfl (BytesAt.lit (E := 5) wr [0] (Nat.lt_succ_self _)) (fun hh => by cases hh) ?k1 ?k2 ?k3)
          case k1 => have := HBd.out; simp; omega
          case k2 => simp; omega
          case k3 =>
            intro v4 w4 hh4 hg4 _
            have hb4 := held_below HH2.out ((Below.refl _ wr).alloc hzr _) (by simp; omega) hg4
            have hfin : x1 ++ [0] = buildB (196608, p, q, ps) := by rw [← HX1.out]; simp [buildB]
            rw [hfin] at hh4
            have HFin := Lib.hid (built_of HMb.out hh4 (HBw.out.trans (hb4.mono (Nat.le_succ _))))
            obtain ⟨a4, c4, rfl, _⟩ := hh4.form
            clear hh4 hb4 hfin hg4
            go_wp2
            go_ret2
            exact HFin.out
    · subst h
      have hpq : ps = [] ∧ rightB p 4 = true ∧ rightB q 4 = true := by
        have := HMb.out
        simp only [mayB, keyB] at this
        rw [if_neg (by decide), if_pos trivial] at this
        simp only [Bool.and_eq_true] at this
        exact ⟨by simpa using this.1.1, this.1.2.2, this.2.2⟩
      obtain ⟨x1, HX1⟩ : ∃ x, Hid (putTo 80877102 4 4 = x) := ⟨_, rfl⟩
      obtain ⟨x2, HX2⟩ : ∃ x, Hid (x1 ++ putTo p 4 4 = x) := ⟨x1 ++ putTo p 4 4, Lib.hid rfl⟩
      have h1l : x1.length = 4 := by rw [← HX1.out, putTo_length]
      have h2l : x2.length = 8 := by rw [← HX2.out, List.length_append, putTo_length, h1l]
      have hx5 : x2 ++ putTo q 4 4 = buildB (80877102, p, q, ps) := by
        rw [← HX2.out, ← HX1.out]; simp only [buildB]; rw [if_neg (by decide), if_pos trivial, List.append_assoc]
      have HP1 : Hid (∀ (W : World) (B : Nat) (a : Option Addr) (cap : Nat), BytesAt W B a x1 → (a = none → cap = 0) → Calls Try.prog 46 #[.slice a x1.length cap, .int .i64 p, .int .i64 4] W (Made x2 W)) := Lib.hid fun W B a cap hx hn => by
        have := rput_any B a cap x1 p 4 W hx hn (by omega)
        rw [putL, if_pos hpq.2.1, show x1 ++ putTo p (4 : Int).toNat (4 : Int).toNat = x2 from HX2.out] at this
        exact this
      have HP2 : Hid (∀ (W : World) (B : Nat) (a : Option Addr) (cap : Nat), BytesAt W B a x2 → (a = none → cap = 0) → Calls Try.prog 46 #[.slice a x2.length cap, .int .i64 q, .int .i64 4] W (Made (buildB (80877102, p, q, ps)) W)) := Lib.hid fun W B a cap hx hn => by
        have := rput_any B a cap x2 q 4 W hx hn (by omega)
        rw [putL, if_pos hpq.2.2, show x2 ++ putTo q (4 : Int).toNat (4 : Int).toNat = buildB (80877102, p, q, ps) from hx5] at this
        exact this
      rw [HX1.out] at hput
      obtain ⟨l1, HL1⟩ : ∃ x, Hid (x1.length = x) := ⟨_, rfl⟩
      obtain ⟨l2, HL2⟩ : ∃ x, Hid (x2.length = x) := ⟨_, rfl⟩
      rw [HL1.out] at HP1
      rw [HL2.out] at HP2
      clear hpq h1l h2l hx5
      go_enter Try.func17, Try.ntmps17
      go_wp2_with fail
      refine HMay.out.mono ?_
      rintro e w2 ⟨rfl, hb2⟩
      have HK2 := Lib.hid (HK.out.keep (hb2.block _ (by simp)))
      have k0 := HK2.out.cell 0 _ rfl
      have HB2 := Lib.hid (HS.out.trans (hb2.mono (by simp)))
      have hz2' : w.heap.size + 1 ≤ w2.heap.size := by have := hb2.size; simpa using this
      clear hb2
      go_wp2_with fail
      refine (hput.out w2).mono ?_
      rintro e w3 ⟨a3, c3, rfl, hn3, ho3, hx3, hb3⟩
      rw [HL1.out]
      have HK3 := Lib.hid (HK2.out.keep (hb3.block _ (by omega)))
      have m0 := HK3.out.cell 0 _ rfl
      have m1 := HK3.out.cell 1 _ rfl
      have m2 := HK3.out.cell 2 _ rfl
      have HB3 := Lib.hid (HB2.out.trans (hb3.mono (by omega)))
      have hz3 : w.heap.size + 1 ≤ w3.heap.size := Nat.le_trans hz2' hb3.size
      have HY3 := Lib.hid hx3
      have HN3 := Lib.hid hn3
      clear ho3 hb3 k0 hx3 hn3
      go_wp2_with fail
      go_region_held3 (fun W => W.cell? ⟨w.heap.size, 1, none⟩ = some (.int .i64 p) ∧ W.cell? ⟨w.heap.size, 2, none⟩ = some (.int .i64 q))
        (first
          | go_keep
          | exact T4.out
          | exact T5.out)
        (first
          | (go_at_call 46; refine (HP2.out w4 w4.heap.size a4 c4 HY4.out HN4.out).mono ?_; rintro e w5 ⟨a5, c5, rfl, hn5, ho5, hx5, hb5⟩; have HK5 := Lib.hid (HK4.out.keep (hb5.block w.heap.size (by have := HZ4.out; omega))); have T5 := Lib.hid (And.intro (HK5.out.cell 1 _ rfl) (HK5.out.cell 2 _ rfl)); have HFin := Lib.hid (built_of HMb.out (held_rebase (lo' := 0) (Held.of_own ho5) (Nat.zero_le _)) (HB4.out.trans (hb5.mono (by have := HZ4.out; omega)))); clear ho5 hx5 hb5 hn5)
          | (go_at_call 46; refine (HP1.out w3.drew w3.heap.size a3 c3 HY3.out.drew HN3.out).mono ?_; rintro e w4 ⟨a4, c4, rfl, hn4, ho4, hx4, hb4⟩; rw [HL2.out]; have HK4 := Lib.hid (HK3.out.keep (hb4.block w.heap.size (by simp; omega))); have T4 := Lib.hid (And.intro (HK4.out.cell 1 _ rfl) (HK4.out.cell 2 _ rfl)); have HB4 := Lib.hid (HB3.out.drew.trans (hb4.mono (by simp; omega))); have HZ4 : Hid (w.heap.size + 1 ≤ w4.heap.size) := Lib.hid (Nat.le_trans hz3 hb4.size); have HY4 := Lib.hid hx4; have HN4 := Lib.hid hn4; clear ho4 hx4 hb4 hn4))
      go_wp2
      go_ret2
      exact HFin.out
    · subst h
      go_enter Try.func17, Try.ntmps17
      go_wp2_with fail
      refine HMay.out.mono ?_
      rintro e w2 ⟨rfl, hb2⟩
      have HK2 := Lib.hid (HK.out.keep (hb2.block _ (by simp)))
      have k0 := HK2.out.cell 0 _ rfl
      have HB2 := Lib.hid (HS.out.trans (hb2.mono (by simp)))
      have hz2 : w.heap.size + 1 ≤ w2.heap.size := by have := hb2.size; simpa using this
      clear hb2
      go_wp2_with fail
      refine (hput.out w2).mono ?_
      rintro e w3 ⟨a3, c3, rfl, hn3, ho3, hx3, hb3⟩
      have HK3 := Lib.hid (HK2.out.keep (hb3.block _ (by omega)))
      have m0 := HK3.out.cell 0 _ rfl
      have hx5 : putTo 80877103 4 4 = buildB (80877103, p, q, ps) := by
        simp only [buildB]; rw [if_neg (by decide), if_neg (by decide), List.append_nil]
      rw [hx5] at ho3 ⊢
      have HFin := Lib.hid (built_of HMb.out (held_rebase (lo' := 0) (Held.of_own ho3) (Nat.zero_le _)) (HB2.out.trans (hb3.mono (by omega))))
      clear ho3 hb3 k0 hx3 hn3 hx5
      go_wp2
      go_ret2
      exact HFin.out
end Go.Proofs.Ytngmfgdoopkkdaa.He
