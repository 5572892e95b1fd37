/- The pairs of a first message: what the program's reader and the document's answer read from a scan: the same list. -/
import Derived.Test.YtngmfgdoopkkdaaHelA
import Derived.Test.YtngmfgdoopkkdaaLists
import Derived.WalkMore
namespace Go.Proofs.Ytngmfgdoopkkdaa.He
set_option maxRecDepth 100000
open Go.RowKit Go By Nm Sc

theorem pair_info : (Try.prog.info? 55).map (fun i => (i.zero, i.size, i.bytes)) = some (some (.agg #[.string ByteArray.empty, .string ByteArray.empty]), 2, 32) := by kernel_rfl
theorem info_of {t : TypeId} {z : Value} {k b : Nat} (h : (Try.prog.info? t).map (fun i => (i.zero, i.size, i.bytes)) = some (some z, k, b)) : ∃ i, Try.prog.info? t = some i ∧ i.zero = some z ∧ i.size = k ∧ i.bytes = b := by
  cases hi : Try.prog.info? t with
  | none => rw [hi] at h; cases h
  | some i =>
    rw [hi] at h
    simp at h
    exact ⟨i, rfl, h.1, h.2.1, h.2.2⟩

theorem text_l (g : Nat) (st : Sta) (w : World) (h : St w g st) :
    Calls Try.prog 74 #[.pointer (some ⟨g, 0, none⟩)] w (Went St g (textS st) (.string (strB (textL st))) w) := by
  rw [← textV_eq]; exact text_st g st w h
theorem rtext_l (g : Nat) (st : Sta) (w : World) (h : RSt w g st) :
    Calls Try.prog 76 #[.pointer (some ⟨g, 0, none⟩)] w (Went RSt g (textS st) (.string (strB (textL st))) w) := by
  rw [← textV_eq]; exact rtext_st g st w h
theorem St.below {w w' : World} {g B : Nat} (hb : Below B w w') (hg : g < B) : ∀ {st : Sta}, St w g st → St w' g st
  | some _, h => Good.below h hb hg
  | none, h => Blk.keep h (hb.block g hg)
theorem RSt.below {w w' : World} {g B : Nat} (hb : Below B w w') (hg : g < B) : ∀ {st : Sta}, RSt w g st → RSt w' g st
  | some xs, h => by
    obtain ⟨a, c, hk, hx, r⟩ := h
    exact ⟨a, c, hk.keep (hb.block g hg), hx.below (hb.mono (Nat.le_of_lt hg)), r⟩
  | none, h => by
    obtain ⟨xs, a, c, hk, hx, r⟩ := h
    exact ⟨xs, a, c, hk.keep (hb.block g hg), hx.below (hb.mono (Nat.le_of_lt hg)), r⟩

/-- The cells of pairs. -/
def prE (ps : List Pr) : List (List Value) := ps.map fun p => [.string (strB p.1), .string (strB p.2)]
theorem prE_length (ps : List Pr) : (prE ps).length = ps.length := by simp [prE]
theorem prE_snoc (ps : List Pr) (p : Pr) : prE (ps ++ [p]) = prE ps ++ [[.string (strB p.1), .string (strB p.2)]] := by simp [prE]
/-- A list of pairs that a call made of a scan, and the scan's state behind it. -/
def Listed (T : World → Nat → Sta → Prop) (g : Nat) (s : Sta) (l : List Pr) (w : World) (e : Ending) (w' : World) : Prop :=
  ∃ v, e = .returned v ∧ OwnE 55 2 w' w.heap.size v (prE l) ∧ T w' g s ∧ Only g w w'
def lenV : Value → Nat
  | .slice _ n _ => n
  | _ => 0
/-- What the loops keep: the pairs that were read so far. -/
def Mid (T : World → Nat → Sta → Prop) (g base : Nat) (st : Sta) (v : Value) (w W : World) : Prop :=
  ∃ l0 st1, OwnE 55 2 W base v (prE l0) ∧ T W g st1 ∧ Only g w W ∧ lenS st1 + l0.length ≤ lenS st ∧ ∀ l1 s1, Prs st1 l1 s1 → Prs st (l0 ++ l1) s1

set_option maxHeartbeats 1000000 in
theorem pairs_any (g : Nat) (st s : Sta) (l : List Pr) (w : World) (h : St w g st) (hP : Prs st l s) (hl : lenS st ≤ 100000) :
    Calls Try.prog 34 #[.agg #[.pointer (some ⟨g, 0, none⟩)]] w (Listed St g s l w) := by
  obtain ⟨i0, hi, hz0, hz1, hz2⟩ := info_of pair_info
  have hg := h.lt
  have HS := Lib.hid h
  have HP := Lib.hid hP
  have HL := Lib.hid hl
  have HBox : Hid (Blk (w.alloc (.cells #[.pointer (some ⟨g, 0, none⟩)] 59)) w.heap.size 59 [.pointer (some ⟨g, 0, none⟩)]) := Lib.hid (Blk.new w _ [.pointer (some ⟨g, 0, none⟩)])
  have HS1 : Hid (St (w.alloc (.cells #[.pointer (some ⟨g, 0, none⟩)] 59)) g st) := Lib.hid (h.still ((Still.refl w).alloc _))
  have HO1 : Hid (Only g w (w.alloc (.cells #[.pointer (some ⟨g, 0, none⟩)] 59))) := Lib.hid ((Only.refl g w).alloc _)
  clear h hP hl
  go_enter Try.func34, Try.ntmps34
  go_wp2
  go_step3
  go_wp2
  go_step3
  go_wp2
  go_loopw [3] (fun v wr => Mid St g (w.heap.size + 1) st v w wr ∧ Blk wr w.heap.size 59 [.pointer (some ⟨g, 0, none⟩)]) (fun v _ => 100000 - lenV v)
  case atStart => exact ⟨⟨[], st, OwnE.nil _ _ _ _, HS1.out, HO1.out, by simp, fun l1 s1 h1 => h1⟩, HBox.out⟩
  case round =>
    obtain ⟨⟨l0, st1, hown, hst, ho, hlen, hpend⟩, hbox⟩ := hrel
    have k0 := hbox.cell 0 _ rfl
    have HBx := Lib.hid hbox
    have HOw := Lib.hid hown
    have HSt := Lib.hid hst
    have HOn := Lib.hid ho
    have HLe := Lib.hid hlen
    have HPe := Lib.hid hpend
    clear hbox hown hst ho hlen hpend
    obtain ⟨t1, HT1⟩ : ∃ t, Hid (textL st1 = t) := ⟨_, rfl⟩
    obtain ⟨st2, HT2⟩ : ∃ t, Hid (textS st1 = t) := ⟨_, rfl⟩
    have hc1 := text_l g st1 wr HSt.out
    rw [HT1.out, HT2.out] at hc1
    have HC1 := Lib.hid hc1
    clear hc1
    by_cases he : t1 = []
    · subst he
      have hs0 : (strB []).toList.isEmpty = true := by rw [strB_toList]; rfl
      have hu := Prs.unique HP.out (HPe.out [] (textS st1) (.stop st1 HT1.out))
      obtain ⟨rfl, rfl⟩ := hu
      go_wp2_with fail
      refine HC1.out.mono ?_
      rintro e w2 ⟨rfl, hs2, ho2⟩
      have HS2 := Lib.hid hs2
      have HO2 := Lib.hid ho2
      clear hs2 ho2
      go_wp2
      go_ret
      exact ⟨_, rfl, by have := (HOw.out.only HO2.out (by omega)).rebase (Nat.le_succ _); simpa using this, HT2.out ▸ HS2.out, HOn.out.trans HO2.out⟩
    · have hs0 : (strB t1).toList.isEmpty = false := by rw [strB_toList]; simpa using he
      have hlt := textS_lt (st := st1) (by rw [HT1.out]; exact he)
      have hle := textS_len (textS st1)
      obtain ⟨t2, HT3⟩ : ∃ t, Hid (textL st2 = t) := ⟨_, rfl⟩
      obtain ⟨st3, HT4⟩ : ∃ t, Hid (textS st2 = t) := ⟨_, rfl⟩
      rw [HT2.out] at hlt hle
      rw [HT4.out] at hle
      obtain ⟨n0, HN⟩ : ∃ n, Hid (l0.length = n) := ⟨_, rfl⟩
      have hLe := HLe.out
      have hL := HL.out
      rw [HN.out] at hLe
      obtain ⟨L, HLL⟩ : ∃ L, Hid (lenS st = L) := ⟨_, rfl⟩
      obtain ⟨L1, HL1⟩ : ∃ L, Hid (lenS st1 = L) := ⟨_, rfl⟩
      obtain ⟨L2, HL2⟩ : ∃ L, Hid (lenS st2 = L) := ⟨_, rfl⟩
      obtain ⟨L3, HL3⟩ : ∃ L, Hid (lenS st3 = L) := ⟨_, rfl⟩
      rw [HLL.out] at hLe hL
      rw [HL1.out] at hLe hlt
      rw [HL2.out] at hlt hle
      rw [HL3.out] at hle
      obtain ⟨a0, c0, rfl, _⟩ := HOw.out.form
      rw [prE_length] at HOw ⊢
      rw [HN.out] at HOw ⊢
      go_wp2_with fail
      refine HC1.out.mono ?_
      rintro e w2 ⟨rfl, hs2, ho2⟩
      have HS2 := Lib.hid hs2
      have HO2 := Lib.hid ho2
      have HB2 := Lib.hid (HBx.out.only ho2 (by omega))
      have k2 := HB2.out.cell 0 _ rfl
      clear hs2 ho2
      go_wp2_with fail
      refine (HT3.out ▸ HT4.out ▸ text_l g st2 w2 HS2.out).mono ?_
      rintro e w3 ⟨rfl, hs3, ho3⟩
      have HS3 := Lib.hid hs3
      have HO3 := Lib.hid (HO2.out.trans ho3)
      have HB3 := Lib.hid (HB2.out.only ho3 (by omega))
      have HW3 := Lib.hid (HOw.out.only HO3.out (by omega))
      have hz3 := HB3.out.lt
      clear hs3 ho3
      go_wp2_with (at_builtin; refine wpList_append_elem rfl (.tmp 9) (.tmp 15) 24 rfl 55 i0 _ 2 32 Try.underlying24 hi hz0 hz1 hz2 rfl (by omega) (w.heap.size + 1) _ (prE l0) [.string (strB t1), .string (strB t2)] rfl HW3.out rfl rfl (by simp [Value.oneCell']) (by rw [prE_length, HN.out]; omega) (by omega) (by omega) ?_)
      intro v4 w4 hown4 hgr4
      have hb4 : Below (w.heap.size + 1) w3 w4 := HW3.out.below_grown (Below.refl _ _) (by omega) hgr4
      have HS4 := Lib.hid (St.below hb4 (by omega) HS3.out)
      have HB4 := Lib.hid (HB3.out.keep (hb4.block _ (Nat.lt_succ_self _)))
      have HO4 : Hid (Only g w w4) := Lib.hid ((HOn.out.trans HO3.out).on (hb4.mono (Nat.le_succ _)))
      have HW4 := Lib.hid hown4
      clear hown4 hgr4 hb4
      go_wp2
      go_roundw
      case rel =>
        refine ⟨⟨l0 ++ [(t1, t2)], st3, by rw [prE_snoc]; exact HW4.out, HS4.out, HO4.out, ?_, fun l1 s1 h1 => ?_⟩, HB4.out⟩
        · rw [List.length_append, HN.out, HL3.out, HLL.out]; simp; omega
        · have := HPe.out _ _ (.step st1 l1 s1 (by rw [HT1.out]; exact he) (by rw [HT2.out, HT4.out]; exact h1))
          rw [HT1.out, HT2.out, HT3.out] at this
          simpa using this
      case measure =>
        obtain ⟨a5, c5, rfl, _⟩ := HW4.out.form
        simp [lenV, prE_length, HN.out]
        omega
end Go.Proofs.Ytngmfgdoopkkdaa.He
