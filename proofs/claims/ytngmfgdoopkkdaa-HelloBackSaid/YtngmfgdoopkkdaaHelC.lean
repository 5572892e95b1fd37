/- The pairs of a first message, as the document's answer reads them. -/
import Derived.Test.YtngmfgdoopkkdaaHelB
namespace Go.Proofs.Ytngmfgdoopkkdaa.He
set_option maxRecDepth 100000
open Go.RowKit Go By Nm Sc

/-- What the document's answer lists: nothing, where the scan is bad behind. -/
def listR (l : List Pr) (s : Sta) : List Pr := if badB s = true then [] else l
def RListed (s : Sta) (l : List Pr) (w : World) (g : Nat) (e : Ending) (w' : World) : Prop :=
  ∃ v, e = .returned (.tuple #[v, .bool (doneB s)]) ∧ OwnE 55 2 w' w.heap.size v (prE (listR l s)) ∧ Only g w w'

set_option maxHeartbeats 1000000 in
theorem params_any (g : Nat) (st s : Sta) (l : List Pr) (w : World) (h : RSt w g st) (hP : Prs st l s) (hl : lenS st ≤ 100000) :
    Calls Try.prog 38 #[.pointer (some ⟨g, 0, none⟩)] w (RListed s l w g) := by
  obtain ⟨i0, hi, hz0, hz1, hz2⟩ := info_of pair_info
  have hg := h.lt
  have HS := Lib.hid h
  have HP := Lib.hid hP
  have HL := Lib.hid hl
  clear h hP hl
  go_enter Try.func38, Try.ntmps38
  go_wp2
  go_loopw [4] (fun v wr => Mid RSt g w.heap.size st v w wr) (fun v _ => 100000 - lenV v)
  case atStart => exact ⟨[], st, OwnE.nil _ _ _ _, HS.out, Only.refl _ _, by simp, fun l1 s1 h1 => h1⟩
  case round =>
    obtain ⟨l0, st1, hown, hst, ho, hlen, hpend⟩ := hrel
    have k0 := hst.no
    have HOw := Lib.hid hown
    have HSt := Lib.hid hst
    have HOn := Lib.hid ho
    have HLe := Lib.hid hlen
    have HPe := Lib.hid hpend
    clear hown hst ho hlen hpend
    cases st1 with
    | none =>
      have hu := Prs.unique HP.out (HPe.out [] none (.stop none rfl))
      have hb : badB none = true := rfl
      rw [hb] at k0
      go_wp2
      refine bodyPost_ret (v := .tuple #[.slice none 0 0, .bool false]) (by simp [results, Try.results38, go_sem]) rfl ?_
      refine ⟨_, by rw [hu.2]; rfl, ?_, HOn.out⟩
      rw [hu.2]
      exact OwnE.nil _ _ _ _
    | some xs1 =>
      have hb : badB (some xs1) = false := rfl
      rw [hb] at k0
      clear hb
      generalize hst1 : (some xs1 : Sta) = st1 at *
      obtain ⟨t1, HT1⟩ : ∃ t, Hid (textL st1 = t) := ⟨_, rfl⟩
      obtain ⟨st2, HT2⟩ : ∃ t, Hid (textS st1 = t) := ⟨_, rfl⟩
      have hc1 := rtext_l g st1 wr HSt.out
      rw [HT1.out, HT2.out] at hc1
      have HC1 := Lib.hid hc1
      clear hc1
      cases st2 with
      | none =>
        have ht : t1 = [] := by rw [← HT1.out]; exact textS_none HT2.out
        subst ht
        have hu := Prs.unique HP.out (HPe.out [] (textS st1) (.stop st1 HT1.out))
        rw [HT2.out] at hu
        go_wp2_with fail
        refine HC1.out.mono ?_
        rintro e w2 ⟨rfl, hs2, ho2⟩
        have HS2 := Lib.hid hs2
        have k2 := hs2.no
        have hb : badB none = true := rfl
        rw [hb] at k2
        have HO2 := Lib.hid ho2
        clear hs2 ho2
        go_wp2
        refine bodyPost_ret (v := .tuple #[.slice none 0 0, .bool false]) (by simp [results, Try.results38, go_sem]) rfl ?_
        refine ⟨_, by rw [hu.2]; rfl, ?_, HOn.out.trans HO2.out⟩
        rw [hu.2]
        exact OwnE.nil _ _ _ _
      | some xs2 =>
        by_cases he : t1 = []
        · subst he
          have hs0 : (strB []).toList.isEmpty = true := by rw [strB_toList]; rfl
          have hu := Prs.unique HP.out (HPe.out [] (textS st1) (.stop st1 HT1.out))
          rw [HT2.out] at hu
          obtain ⟨rfl, rfl⟩ := hu
          go_wp2_with fail
          refine HC1.out.mono ?_
          rintro e w2 ⟨rfl, hs2, ho2⟩
          have HS2 := Lib.hid hs2
          have k2 := hs2.no
          have hb : badB (some xs2) = false := rfl
          rw [hb] at k2
          have HO2 := Lib.hid ho2
          clear hs2 ho2 hb
          go_wp2_with fail
          refine (rdone_st g _ w2 HS2.out).mono ?_
          rintro e w3 ⟨rfl, rfl⟩
          go_wp2
          refine bodyPost_ret (v := .tuple #[u4, .bool (doneB (some xs2))]) (by simp [results, Try.results38, go_sem]) rfl ?_
          exact ⟨_, rfl, by have := HOw.out.only HO2.out hg; simpa [listR, badB] using this, HOn.out.trans HO2.out⟩
        · have hs0 : (strB t1).toList.isEmpty = false := by rw [strB_toList]; simpa using he
          have hlt := textS_lt (st := st1) (by rw [HT1.out]; exact he)
          have hle := textS_len (textS st1)
          rw [HT2.out] at hlt hle
          generalize hst2 : (some xs2 : Sta) = st2 at *
          obtain ⟨t2, HT3⟩ : ∃ t, Hid (textL st2 = t) := ⟨_, rfl⟩
          obtain ⟨st3, HT4⟩ : ∃ t, Hid (textS st2 = t) := ⟨_, rfl⟩
          rw [HT4.out] at hle
          obtain ⟨n0, HN⟩ : ∃ n, Hid (l0.length = n) := ⟨_, rfl⟩
          have hLe := HLe.out
          have hL := HL.out
          rw [HN.out] at hLe
          obtain ⟨L, HLL⟩ : ∃ L, Hid (lenS st = L) := ⟨_, rfl⟩
          obtain ⟨L1, HL1⟩ : ∃ L, Hid (lenS st1 = L) := ⟨_, rfl⟩
          obtain ⟨L2, HL2⟩ : ∃ L, Hid (lenS st2 = L) := ⟨_, rfl⟩
          obtain ⟨L3, HL3⟩ : ∃ L, Hid (lenS st3 = L) := ⟨_, rfl⟩
          rw [HLL.out] at hLe hL
          rw [HL1.out] at hLe hlt
          rw [HL2.out] at hlt hle
          rw [HL3.out] at hle
          obtain ⟨a0, c0, rfl, _⟩ := HOw.out.form
          rw [prE_length] at HOw ⊢
          rw [HN.out] at HOw ⊢
          have HBd : Hid (badB st2 = false) := Lib.hid (by rw [← hst2]; rfl)
          clear hst1 hst2
          go_wp2_with fail
          refine HC1.out.mono ?_
          rintro e w2 ⟨rfl, hs2, ho2⟩
          have HS2 := Lib.hid hs2
          have HO2 := Lib.hid ho2
          have k2 := hs2.no
          rw [HBd.out] at k2
          clear hs2 ho2
          go_wp2_with fail
          refine (HT3.out ▸ HT4.out ▸ rtext_l g st2 w2 HS2.out).mono ?_
          rintro e w3 ⟨rfl, hs3, ho3⟩
          have HS3 := Lib.hid hs3
          have HO3 := Lib.hid (HO2.out.trans ho3)
          have HW3 := Lib.hid (HOw.out.only HO3.out hg)
          have hz3 : w.heap.size ≤ w3.heap.size := Nat.le_trans HOn.out.size HO3.out.size
          clear hs3 ho3
          go_wp2_with (at_builtin; refine wpList_append_elem rfl (.tmp 22) (.tmp 27) 24 rfl 55 i0 _ 2 32 Try.underlying24 hi hz0 hz1 hz2 rfl (by omega) w.heap.size _ (prE l0) [.string (strB t1), .string (strB t2)] rfl HW3.out rfl rfl (by simp [Value.oneCell']) (by rw [prE_length, HN.out]; omega) (by omega) (by omega) ?_)
          intro v4 w4 hown4 hgr4
          have hb4 : Below w.heap.size w3 w4 := HW3.out.below_grown (Below.refl _ _) (by omega) hgr4
          have HS4 := Lib.hid (RSt.below hb4 hg HS3.out)
          have HO4 : Hid (Only g w w4) := Lib.hid ((HOn.out.trans HO3.out).on hb4)
          have HW4 := Lib.hid hown4
          clear hown4 hgr4 hb4
          go_wp2
          go_roundw
          case rel =>
            refine ⟨l0 ++ [(t1, t2)], st3, by rw [prE_snoc]; exact HW4.out, HS4.out, HO4.out, ?_, fun l1 s1 h1 => ?_⟩
            · rw [List.length_append, HN.out, HL3.out, HLL.out]; simp; omega
            · have := HPe.out _ _ (.step st1 l1 s1 (by rw [HT1.out]; exact he) (by rw [HT2.out, HT4.out]; exact h1))
              rw [HT1.out, HT2.out, HT3.out] at this
              simpa using this
          case measure =>
            obtain ⟨a5, c5, rfl, _⟩ := HW4.out.form
            simp [lenV, prE_length, HN.out]
            omega
end Go.Proofs.Ytngmfgdoopkkdaa.He
