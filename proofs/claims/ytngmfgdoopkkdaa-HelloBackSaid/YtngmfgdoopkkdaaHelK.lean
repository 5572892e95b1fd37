/- Package hello's Build: the bytes of a first message that may be told. -/
import Derived.Test.YtngmfgdoopkkdaaHelJ
namespace Go.Proofs.Ytngmfgdoopkkdaa.He
set_option maxRecDepth 100000
open Go.RowKit Go By Nm Sc

theorem elems_more {w : World} {B B' k : Nat} {a : Option Addr} {es : List (List Value)} (h : Elems w B a k es) (hB : B ≤ B') : Elems w B' a k es := fun hp => by
  obtain ⟨b, off, e, hb, hc⟩ := h hp
  exact ⟨b, off, e, Nat.lt_of_lt_of_le hb hB, hc⟩
theorem texts_lit (W : World) (ts : List (List UInt8)) : Elems (W.alloc (.cells (ts.map fun t => Value.string (strB t)).toArray 9)) (W.heap.size + 1) (some ⟨W.heap.size, 0, none⟩) 1 (txE ts) := fun _ =>
  ⟨W.heap.size, 0, rfl, Nat.lt_succ_self _, fun i hi j u hu => by
    rw [cell_of_row _ _ _ _ 9 (0, 0) (heap_alloc_new W _)]
    have hi2 : i < ts.length := by simpa [txE] using hi
    have hat : (txE ts).getD i [] = [.string (strB (ts.getD i []))] := by simp [txE, List.getD_eq_getElem?_getD, List.getElem?_eq_getElem hi2]
    rw [hat] at hu
    rcases j with _ | j
    · simp at hu
      rw [← hu]
      simp [List.getElem?_eq_getElem hi2]
    · simp at hu⟩
theorem texts_lit2 (W : World) (t1 t2 : List UInt8) : Elems (W.alloc (.cells #[.string (strB t1), .string (strB t2)] 9)) (W.heap.size + 1) (some ⟨W.heap.size, 0, none⟩) 1 (txE [t1, t2]) := texts_lit W [t1, t2]
theorem texts_lit1 (W : World) (t : List UInt8) : Elems (W.alloc (.cells #[.string (strB t)] 9)) (W.heap.size + 1) (some ⟨W.heap.size, 0, none⟩) 1 (txE [t]) := texts_lit W [t]

/-- The bytes of a first message. -/
def buildB (m : Hm) : List UInt8 :=
  putTo m.1 4 4 ++ (if m.1 = 196608 then encP m.2.2.2 ++ [0] else if m.1 = 80877102 then putTo m.2.1 4 4 ++ putTo m.2.2.1 4 4 else [])
theorem encP_next (ps : List Pr) (j : Nat) (hj : j < ps.length) : encP (ps.take (j + 1)) = encP (ps.take j) ++ (encT (ps.getD j ([], [])).1 ++ encT (ps.getD j ([], [])).2) := by
  rw [List.take_succ_eq_append_getElem hj, List.getD_eq_getElem?_getD, List.getElem?_eq_getElem hj]
  unfold encP
  rw [List.flatMap_append]
  simp
theorem encP_take_len (ps : List Pr) (j : Nat) : (encP (ps.take j)).length ≤ (encP ps).length := by
  have : encP ps = encP (ps.take j) ++ encP (ps.drop j) := by
    rw [encP, encP, encP, ← List.flatMap_append, List.take_append_drop]
  rw [this, List.length_append]; omega
theorem encTs_two (a b : List UInt8) : encTs [a, b] = encT a ++ encT b := by simp [encTs]
theorem encTs_one (a : List UInt8) : encTs [a] = encT a := by simp [encTs]
/-- What Build answers. -/
def Built (m : Hm) (w : World) (e : Ending) (w' : World) : Prop :=
  ∃ a k er l, e = .returned (.tuple #[.slice a (List.length (α := UInt8) l) k, .int .i64 er]) ∧ (mayB m = true → er = 0 ∧ l = buildB m) ∧ (mayB m = false → er = 1 ∧ l = []) ∧ BytesAt w' w'.heap.size a l ∧ (a = none → k = 0) ∧ l.length ≤ k ∧ k ≤ maxLen ∧ Below w.heap.size w w'
theorem built_of {m : Hm} {w w' : World} {v : Value} {lo : Nat} (hm : mayB m = true) (hh : Held w' lo v (buildB m)) (hb : Below w.heap.size w w') : Built m w (.returned (.tuple #[v, .int .i64 0])) w' := by
  obtain ⟨a, k, rfl, hx, hn, hl, hk⟩ := hh.form
  exact ⟨a, k, 0, buildB m, rfl, fun _ => ⟨rfl, rfl⟩, fun h => by (rw [hm] at h; cases h), hx, hn, hl, hk, hb⟩

set_option maxHeartbeats 4000000 in
theorem hbuild_any (c p q : Int) (B : Nat) (a : Option Addr) (n k : Nat) (ps : List Pr) (w : World) (hE : Elems w B a 2 (prE ps)) (hB : B ≤ w.heap.size) (hn : ps.length = n) (hm : n ≤ 100000) (hl : (encP ps).length ≤ 10000000) :
    Calls Try.prog 16 #[.agg #[.int .i64 c, .int .i64 p, .int .i64 q, .slice a n k]] w (Built (c, p, q, ps) w) := by
  have HN := Lib.hid hn
  have HL := Lib.hid hl
  have hbl : Below w.heap.size w (w.alloc (.cells #[.int .i64 c, .int .i64 p, .int .i64 q, .slice a n k] 26)) := (Below.refl _ _).alloc (Nat.le_refl _) _
  have HS := Lib.hid hbl
  have HK := Lib.hid (Blk.new w 26 [.int .i64 c, .int .i64 p, .int .i64 q, .slice a n k])
  have HE := Lib.hid (elems_more hE hB)
  have HMay := Lib.hid (mayBeTold_any c p q B a n k ps (w.alloc (.cells #[.int .i64 c, .int .i64 p, .int .i64 q, .slice a n k] 26)) (hE.below (hbl.mono hB)) (by simp; omega) hn (by omega))
  clear hE hB hn hl hbl
  cases hmb : mayB (c, p, q, ps) with
  | false =>
    rw [hmb] at HMay
    have HMb := Lib.hid hmb
    clear hmb
    go_enter Try.func16, Try.ntmps16
    go_wp2_with fail
    refine HMay.out.mono ?_
    rintro e w2 ⟨rfl, hb2⟩
    have HB2 := Lib.hid (HS.out.trans (hb2.mono (by simp)))
    clear hb2
    go_wp2
    go_ret2
    exact ⟨none, 0, 1, [], rfl, fun h => by (rw [HMb.out] at h; cases h), fun _ => ⟨rfl, rfl⟩, BytesAt.nil, fun _ => rfl, Nat.le_refl _, by simp [maxLen], HB2.out⟩
  | true =>
    rw [hmb] at HMay
    have hc : c = 196608 ∨ c = 80877102 ∨ c = 80877103 := by
      by_cases h1 : c = 196608
      · exact .inl h1
      · by_cases h2 : c = 80877102
        · exact .inr (.inl h2)
        · by_cases h3 : c = 80877103
          · exact .inr (.inr h3)
          · simp [mayB, h1, h2, h3] at hmb
    have HMb := Lib.hid hmb
    clear hmb
    have hput : Hid (∀ W : World, Calls Try.prog 43 #[.slice none 0 0, .int .i64 c, .int .i64 4] W (Made (putTo c 4 4) W)) := Lib.hid fun W => by
      have := put_any 0 none 0 [] c 4 W BytesAt.nil (Nat.zero_le _) (fun _ => rfl) (by simp)
      have hr : rightB c 4 = true := by rcases hc with h | h | h <;> (subst h; decide)
      rw [putL, if_pos hr] at this
      exact this
    rcases hc with h | h | h
    · subst h
      go_enter Try.func16, Try.ntmps16
      go_wp2_with fail
      refine HMay.out.mono ?_
      rintro e w2 ⟨rfl, hb2⟩
      have HK2 := Lib.hid (HK.out.keep (hb2.block _ (by simp)))
      have k0 := HK2.out.cell 0 _ rfl
      have HB2 := Lib.hid (HS.out.trans (hb2.mono (by simp)))
      have hz2 : w.heap.size + 1 ≤ w2.heap.size := by have := hb2.size; simpa using this
      clear hb2
      go_wp2_with fail
      refine (hput.out w2).mono ?_
      rintro e w3 ⟨a3, c3, rfl, _, ho3, _, hb3⟩
      have HH3 : Hid (Held w3 (w.heap.size + 1) (.slice a3 (putTo 196608 4 4).length c3) (putTo 196608 4 4)) := Lib.hid (held_rebase (Held.of_own ho3) (by omega))
      have HK3 := Lib.hid (HK2.out.keep (hb3.block _ (by omega)))
      have m0 := HK3.out.cell 0 _ rfl
      have m3 := HK3.out.cell 3 _ rfl
      have HB3 := Lib.hid (HB2.out.trans (hb3.mono (by omega)))
      have hz3 : w.heap.size + 1 ≤ w3.heap.size := Nat.le_trans hz2 hb3.size
      clear ho3 hb3 k0
      go_wp2
      go_loopw [4, 20] (fun v i wr => ∃ j : Nat, i = .int .i64 j ∧ j ≤ n ∧ Held wr (w.heap.size + 1) v (putTo 196608 4 4 ++ encP (ps.take j)) ∧ Below w.heap.size w wr ∧ w.heap.size + 1 ≤ wr.heap.size) (fun _ i _ => n - (intOf i).toNat)
      case atStart => exact ⟨0, rfl, Nat.zero_le _, by simpa [encP] using HH3.out, HB3.out, hz3⟩
      case round =>
        obtain ⟨j, rfl, hj, hheld, hbel, hzr⟩ := hrel
        have HH := Lib.hid hheld
        have HBl := Lib.hid hbel
        clear hbel
        have h4 : (putTo 196608 4 4).length = 4 := putTo_length _ _ _
        have HBnd : Hid (∀ t, (putTo 196608 4 4 ++ encP (ps.take t)).length ≤ 10000004) := Lib.hid fun t => by rw [List.length_append, h4]; have := encP_take_len ps t; have := HL.out; omega
        by_cases hlt : j < n
        · obtain ⟨b, off, ha, hb, hc0, hc1⟩ := pair_cells (HE.out.below HBl.out) j (by rw [HN.out]; exact hlt)
          subst ha
          obtain ⟨pr, HPr⟩ : ∃ p, Hid (ps.getD j ([], []) = p) := ⟨_, rfl⟩
          rw [HPr.out] at hc0 hc1
          have hnx := encP_next ps j (by rw [HN.out]; exact hlt)
          rw [HPr.out, ← encTs_two] at hnx
          have HX := Lib.hid hnx
          have hbd := HBnd.out (j + 1)
          rw [hnx, ← List.append_assoc] at hbd
          have HBd := Lib.hid hbd
          obtain ⟨x1, HX1⟩ : ∃ x, Hid (putTo 196608 4 4 ++ encP (ps.take j) = x) := ⟨_, rfl⟩
          rw [HX1.out] at HH HBd
          rw [HX1.out] at hheld
          obtain ⟨a1, c1, rfl, _⟩ := hheld.form
          obtain ⟨n1, HN1⟩ : ∃ x, Hid (x1.length = x) := ⟨_, rfl⟩
          rw [HN1.out] at HH ⊢
          have hne : (Value.slice a1 n1 c1).ownBlock ≠ some (wr.heap.size + 1) := fun he => by have := (HH.out.block _ he).2; omega
          have HNe := Lib.hid hne
          have HH2 : Hid (Held ((wr.alloc (.cells #[.string (strB pr.1), .string (strB pr.2)] 55)).alloc (.cells #[.string (strB pr.1), .string (strB pr.2)] 9)) (w.heap.size + 1) (.slice a1 n1 c1) x1) := Lib.hid (HH.out.still (((Still.refl wr).alloc _).alloc _))
          have HLt : Hid (Elems ((wr.alloc (.cells #[.string (strB pr.1), .string (strB pr.2)] 55)).alloc (.cells #[.string (strB pr.1), .string (strB pr.2)] 9)) (wr.heap.size + 2) (some ⟨wr.heap.size + 1, 0, none⟩) 1 (txE [pr.1, pr.2])) := Lib.hid (by
            have := texts_lit2 (wr.alloc (.cells #[.string (strB pr.1), .string (strB pr.2)] 55)) pr.1 pr.2
            rw [World.size_alloc] at this
            exact this)
          clear hheld hnx hbd hne h4
          go_wp2_with fail
          refine (hputTexts_any (w.heap.size + 1) _ x1 (wr.heap.size + 1) 2 2 [pr.1, pr.2] _ HH2.out (by simp; omega) (elems_more HLt.out (by simp)) (by simp) HNe.out rfl (by omega) (by have := HBd.out; rw [List.length_append] at this; omega)).mono ?_
          rintro e w4 ⟨v4, rfl, hh4, _, _, hb4⟩
          have HH4 := Lib.hid hh4
          have HB4 : Hid (Below w.heap.size w w4) := Lib.hid (((HBl.out.alloc HBl.out.size _).alloc (by have := HBl.out.size; simp; omega) _).trans (hb4.mono (by omega)))
          have hz4 : w.heap.size + 1 ≤ w4.heap.size := by have := hb4.size; simp at this; omega
          obtain ⟨a4, c4, rfl, _⟩ := hh4.form
          clear hh4 hb4
          go_wp2
          go_roundw
          case rel => exact ⟨j + 1, by go_num, by omega, by rw [HX.out, ← List.append_assoc, HX1.out]; have h := HH4.out; rw [List.length_append] at h; exact h, HB4.out, hz4⟩
          case measure => simp [intOf]; omega
        · obtain rfl : j = n := by omega
          rw [List.take_of_length_le (by rw [HN.out]; exact Nat.le_refl _)] at hheld HH
          obtain ⟨x1, HX1⟩ : ∃ x, Hid (putTo 196608 4 4 ++ encP ps = x) := ⟨_, rfl⟩
          have hbd := HBnd.out ps.length
          rw [List.take_length] at hbd
          rw [HX1.out] at HH hheld hbd
          obtain ⟨a1, c1, rfl, _⟩ := hheld.form
          obtain ⟨n1, HN1⟩ : ∃ x, Hid (x1.length = x) := ⟨_, rfl⟩
          have HBd := Lib.hid hbd
          rw [HN1.out] at HH ⊢
          have hne : (Value.slice a1 n1 c1).ownBlock ≠ some wr.heap.size := fun he => by have := (HH.out.block _ he).2; omega
          have HNe := Lib.hid hne
          have HH2 : Hid (Held (wr.alloc (.cells #[.string (strB [])] 9)) (w.heap.size + 1) (.slice a1 n1 c1) x1) := Lib.hid (HH.out.still ((Still.refl wr).alloc _))
          have HLt := Lib.hid (texts_lit1 wr [])
          clear hheld hbd hne h4
          go_wp2_with fail
          refine (hputTexts_any (w.heap.size + 1) _ x1 wr.heap.size 1 1 [[]] _ HH2.out (by simp; omega) (elems_more HLt.out (by simp)) (by simp) HNe.out rfl (by omega) (by have := HBd.out; simp [encTs, encT]; omega)).mono ?_
          rintro e w4 ⟨v4, rfl, hh4, _, _, hb4⟩
          have hfin : x1 ++ encTs [[]] = buildB (196608, p, q, ps) := by rw [← HX1.out, encTs_one]; simp [buildB, encT]
          rw [hfin] at hh4
          have HB4 : Hid (Below w.heap.size w w4) := Lib.hid ((HBl.out.alloc HBl.out.size _).trans (hb4.mono (by omega)))
          have HFin := Lib.hid (built_of HMb.out hh4 HB4.out)
          obtain ⟨a4, c4, rfl, _⟩ := hh4.form
          clear hh4 hb4 hfin
          go_wp2
          go_ret2
          exact HFin.out
    · subst h
      have hpq : ps = [] ∧ rightB p 4 = true ∧ rightB q 4 = true := by
        have := HMb.out
        simp only [mayB, keyB] at this
        rw [if_neg (by decide), if_pos trivial] at this
        simp only [Bool.and_eq_true] at this
        exact ⟨by simpa using this.1.1, this.1.2.2, this.2.2⟩
      have HR := Lib.hid hpq
      clear hpq
      go_enter Try.func16, Try.ntmps16
      go_wp2_with fail
      refine HMay.out.mono ?_
      rintro e w2 ⟨rfl, hb2⟩
      have HK2 := Lib.hid (HK.out.keep (hb2.block _ (by simp)))
      have k0 := HK2.out.cell 0 _ rfl
      have HB2 := Lib.hid (HS.out.trans (hb2.mono (by simp)))
      have hz2 : w.heap.size + 1 ≤ w2.heap.size := by have := hb2.size; simpa using this
      clear hb2
      go_wp2_with fail
      refine (hput.out w2).mono ?_
      rintro e w3 ⟨a3, c3, rfl, hn3, ho3, hx3, hb3⟩
      have HK3 := Lib.hid (HK2.out.keep (hb3.block _ (by omega)))
      have m0 := HK3.out.cell 0 _ rfl
      have m1 := HK3.out.cell 1 _ rfl
      have HB3 := Lib.hid (HB2.out.trans (hb3.mono (by omega)))
      have hz3 : w.heap.size + 1 ≤ w3.heap.size := Nat.le_trans hz2 hb3.size
      have HP3 := Lib.hid (put_any w3.heap.size a3 c3 (putTo 80877102 4 4) p 4 w3 hx3 (Nat.le_refl _) hn3 (by rw [putTo_length]; omega))
      obtain ⟨x2, HX2⟩ : ∃ x, Hid (putTo 80877102 4 4 ++ putTo p 4 4 = x) := ⟨_, rfl⟩
      rw [putL, if_pos HR.out.2.1, show putTo 80877102 4 4 ++ putTo p (4 : Int).toNat (4 : Int).toNat = x2 from HX2.out] at HP3
      have h2l : x2.length = 8 := by rw [← HX2.out, List.length_append, putTo_length, putTo_length]
      have H2L := Lib.hid h2l
      clear ho3 hb3 k0 hx3 hn3 h2l
      go_wp2_with fail
      refine HP3.out.mono ?_
      rintro e w4 ⟨a4, c4, rfl, hn4, ho4, hx4, hb4⟩
      have HK4 := Lib.hid (HK3.out.keep (hb4.block _ (by omega)))
      have m2 := HK4.out.cell 2 _ rfl
      have HB4 := Lib.hid (HB3.out.trans (hb4.mono (by omega)))
      have hz4 : w.heap.size + 1 ≤ w4.heap.size := Nat.le_trans hz3 hb4.size
      have HP4 := Lib.hid (put_any w4.heap.size a4 c4 x2 q 4 w4 hx4 (Nat.le_refl _) hn4 (by rw [H2L.out]; omega))
      have hx5 : x2 ++ putTo q 4 4 = buildB (80877102, p, q, ps) := by
        rw [← HX2.out]; simp only [buildB]; rw [if_neg (by decide), if_pos trivial, List.append_assoc]
      rw [putL, if_pos HR.out.2.2, show x2 ++ putTo q (4 : Int).toNat (4 : Int).toNat = buildB (80877102, p, q, ps) from hx5] at HP4
      clear ho4 hb4 hx4 hn4 hx5
      go_wp2_with fail
      refine HP4.out.mono ?_
      rintro e w5 ⟨a5, c5, rfl, hn5, ho5, hx5, hb5⟩
      have HFin := Lib.hid (built_of HMb.out (held_rebase (lo' := 0) (Held.of_own ho5) (Nat.zero_le _)) (HB4.out.trans (hb5.mono (by omega))))
      clear ho5 hb5 hx5 hn5
      go_wp2
      go_ret2
      exact HFin.out
    · subst h
      go_enter Try.func16, Try.ntmps16
      go_wp2_with fail
      refine HMay.out.mono ?_
      rintro e w2 ⟨rfl, hb2⟩
      have HK2 := Lib.hid (HK.out.keep (hb2.block _ (by simp)))
      have k0 := HK2.out.cell 0 _ rfl
      have HB2 := Lib.hid (HS.out.trans (hb2.mono (by simp)))
      have hz2 : w.heap.size + 1 ≤ w2.heap.size := by have := hb2.size; simpa using this
      clear hb2
      go_wp2_with fail
      refine (hput.out w2).mono ?_
      rintro e w3 ⟨a3, c3, rfl, hn3, ho3, hx3, hb3⟩
      have HK3 := Lib.hid (HK2.out.keep (hb3.block _ (by omega)))
      have m0 := HK3.out.cell 0 _ rfl
      have hx5 : putTo 80877103 4 4 = buildB (80877103, p, q, ps) := by
        simp only [buildB]; rw [if_neg (by decide), if_neg (by decide), List.append_nil]
      rw [hx5] at ho3 ⊢
      have HFin := Lib.hid (built_of HMb.out (held_rebase (lo' := 0) (Held.of_own ho3) (Nat.zero_le _)) (HB2.out.trans (hb3.mono (by omega))))
      clear ho3 hb3 k0 hx3 hn3 hx5
      go_wp2
      go_ret2
      exact HFin.out
end Go.Proofs.Ytngmfgdoopkkdaa.He
