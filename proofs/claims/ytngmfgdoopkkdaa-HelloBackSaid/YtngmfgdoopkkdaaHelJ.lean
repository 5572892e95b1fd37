/- Texts put behind bytes, each with its byte 0: the program's function. -/
import Derived.Test.YtngmfgdoopkkdaaHelH
namespace Go.Proofs.Ytngmfgdoopkkdaa.He
set_option maxRecDepth 100000
open Go.RowKit Go By Nm Sc

theorem held_rebase {w : World} {lo lo' : Nat} {v : Value} {xs : List UInt8} (h : Held w lo v xs) (hl : lo' ≤ lo) : Held w lo' v xs := by
  rcases h with h | ⟨b, off, c, rfl, h1, r⟩
  · exact .inl h
  · exact .inr ⟨b, off, c, rfl, by omega, r⟩
theorem grown_keep {w w' : World} {row : Option Nat} (hg : w.grownBy w' row) {t : Nat} (ht : t < w.heap.size) (hn : row ≠ some t) : w'.heap[t]? = w.heap[t]? := hg.block t ht (fun e => hn e.symm)
theorem held_below {w w' : World} {lo : Nat} {v : Value} {xs : List UInt8} (h : Held w lo v xs) {W : World} (hb : Below lo W w) (hbase : lo ≤ w.heap.size) (hg : w.grownBy w' v.ownBlock) : Below lo W w' :=
  hb.grown hg hbase fun k hk => (h.block k hk).1
/-- Texts behind bytes, each with its byte 0. -/
def encTs (ts : List (List UInt8)) : List UInt8 := ts.flatMap encT
theorem encTs_snoc (ts : List (List UInt8)) (t : List UInt8) : encTs (ts ++ [t]) = encTs ts ++ encT t := by simp [encTs]
theorem encTs_take_len (ts : List (List UInt8)) (j : Nat) : (encTs (ts.take j)).length ≤ (encTs ts).length := by
  have : encTs ts = encTs (ts.take j) ++ encTs (ts.drop j) := by
    rw [encTs, encTs, encTs, ← List.flatMap_append, List.take_append_drop]
  rw [this, List.length_append]; omega
theorem encTs_next (ts : List (List UInt8)) (j : Nat) (hj : j < ts.length) : encTs (ts.take (j + 1)) = encTs (ts.take j) ++ encT (ts.getD j []) := by
  rw [List.take_succ_eq_append_getElem hj, encTs_snoc, List.getD_eq_getElem?_getD, List.getElem?_eq_getElem hj]; rfl

/-- A slice of the call's own, longer by these bytes: what was there is as it was. -/
def Put1 (lo : Nat) (v : Value) (xs : List UInt8) (w : World) (e : Ending) (w' : World) : Prop :=
  ∃ v', e = .returned v' ∧ Held w' lo v' xs ∧ (∀ t, t < w.heap.size → v.ownBlock ≠ some t → w'.heap[t]? = w.heap[t]?) ∧ (v'.ownBlock = v.ownBlock ∨ ∀ k, v'.ownBlock = some k → w.heap.size ≤ k) ∧ Below lo w w'

set_option maxHeartbeats 2000000 in
theorem hputTexts_any (lo : Nat) (v : Value) (xs : List UInt8) (tb : Nat) (n k : Nat) (ts : List (List UInt8)) (w : World) (hv : Held w lo v xs) (hlo : lo ≤ w.heap.size) (hE : Elems w w.heap.size (some ⟨tb, 0, none⟩) 1 (txE ts)) (hb : tb < w.heap.size) (hne : v.ownBlock ≠ some tb)
    (hn : ts.length = n) (hm : n ≤ 1000) (hl : xs.length + (encTs ts).length ≤ 100000000) :
    Calls Try.prog 44 #[v, .slice (some ⟨tb, 0, none⟩) n k] w (Put1 lo v (xs ++ encTs ts) w) := by
  obtain ⟨i0, hi, hz0, hz1, hz2⟩ := info_parts byte_info
  have HE := Lib.hid hE
  have HN := Lib.hid hn
  have HV := Lib.hid hv
  have HL := Lib.hid hl
  have HLo := Lib.hid hlo
  have HNe := Lib.hid hne
  have HTb := Lib.hid hb
  obtain ⟨av, cv, rfl, _⟩ := hv.form
  clear hE hn hv hl hne hb hlo
  go_enter Try.func44, Try.ntmps44
  go_wp2
  go_loopw [0, 9] (fun v1 i wr => ∃ j : Nat, i = .int .i64 j ∧ j ≤ n ∧ Put1 lo (.slice av xs.length cv) (xs ++ encTs (ts.take j)) w (.returned v1) wr ∧ v1.ownBlock ≠ some tb) (fun _ i _ => n - (intOf i).toNat)
  case atStart => exact ⟨0, rfl, Nat.zero_le _, ⟨_, rfl, by simpa [encTs] using HV.out, fun _ _ _ => rfl, .inl rfl, Below.refl _ _⟩, HNe.out⟩
  case round =>
    obtain ⟨j, rfl, hj, ⟨v1, hv1, hheld, hkeep, hown, hbel⟩, hne1⟩ := hrel
    injection hv1 with hv1
    subst hv1
    have HH := Lib.hid hheld
    have HKp := Lib.hid hkeep
    have HOn := Lib.hid hown
    have HBl := Lib.hid hbel
    have HN1 := Lib.hid hne1
    clear hkeep hown hbel hne1
    by_cases hlt : j < n
    · obtain ⟨b, off, ha, _, hc0⟩ := text_cell HE.out j (by rw [HN.out]; exact hlt)
      injection ha with ha
      injection ha with ha1 ha2
      subst ha1 ha2
      obtain ⟨t1, HT1⟩ : ∃ t, Hid (ts.getD j [] = t) := ⟨_, rfl⟩
      rw [HT1.out] at hc0
      have hnx := encTs_next ts j (by rw [HN.out]; exact hlt)
      have hlen := encTs_take_len ts (j + 1)
      have hl1 := HL.out
      rw [hnx, List.length_append, HT1.out] at hlen
      have hle : (encT t1).length = t1.length + 1 := by simp [encT]
      have HX := Lib.hid hnx
      have hfit : (xs ++ encTs (ts.take j)).length + t1.length + 1 ≤ 100000001 := by rw [List.length_append]; omega
      have HF := Lib.hid hfit
      have hcw : wr.cell? ⟨tb, 0 + j, none⟩ = some (.string (strB t1)) := (World.cell?_of_block (w := w) (a := ⟨tb, 0 + j, none⟩) (HKp.out tb HTb.out HNe.out)).trans hc0
      obtain ⟨a1, c1, rfl, _⟩ := hheld.form
      obtain ⟨x1, HX1⟩ : ∃ x, Hid (xs ++ encTs (ts.take j) = x) := ⟨_, rfl⟩
      obtain ⟨n1, HN2⟩ : ∃ x, Hid (x1.length = x) := ⟨_, rfl⟩
      rw [HX1.out] at HH HF HN1 HOn ⊢
      rw [HN2.out] at HH HF HN1 HOn ⊢
      have HLo1 : Hid (lo ≤ wr.heap.size) := Lib.hid (Nat.le_trans HLo.out HBl.out.size)
      have HTw : Hid (tb < wr.heap.size) := Lib.hid (Nat.lt_of_lt_of_le HTb.out HBl.out.size)
      rw [Nat.zero_add] at hcw
      clear hc0 hnx hlen hl1 hle hfit hheld
      go_wp2_with (at_builtin; refine wpList_append_text rfl (.tmp 13) (.tmp 14) 22 9 rfl 5 i0 Try.underlying22 hi hz0 hz1 hz2 Try.underlying9 lo _ x1 rfl HH.out t1 rfl ?g1 HLo1.out ?g2)
      case g1 => have := HF.out; rw [HN2.out]; omega
      case g2 =>
        intro v2 w2 hh2 hg2 ho2
        have H2 := Lib.hid hh2
        have hz2' : wr.heap.size ≤ w2.heap.size := hg2.size
        have HG2 : Hid ((∀ t, t < wr.heap.size → (Value.slice a1 n1 c1).ownBlock ≠ some t → w2.heap[t]? = wr.heap[t]?) ∧ (v2.ownBlock = (Value.slice a1 n1 c1).ownBlock ∨ v2.ownBlock = some wr.heap.size) ∧ Below lo wr w2) :=
          Lib.hid ⟨fun t ht hn => grown_keep hg2 ht hn, ho2, held_below HH.out (Below.refl _ _) HLo1.out hg2⟩
        obtain ⟨a2, c2, rfl, _⟩ := hh2.form
        have hx2 : (x1 ++ t1).length = n1 + t1.length := by rw [List.length_append, HN2.out]
        rw [hx2] at H2 HG2 ⊢
        have HX2 := Lib.hid hx2
        obtain ⟨n2, HN3⟩ : ∃ x, Hid (n1 + t1.length = x) := ⟨_, rfl⟩
        rw [HN3.out] at H2 HG2 HX2 ⊢
        have HLo2 : Hid (lo ≤ w2.heap.size) := Lib.hid (Nat.le_trans HLo1.out hz2')
        have H2' : Hid (Held (w2.alloc (.cells #[.int .u8 0] 5)) lo (.slice a2 n2 c2) (x1 ++ t1)) := Lib.hid (H2.out.still ((Still.refl w2).alloc _))
        clear hh2 hg2 ho2 hx2
        go_wp2_with (at_builtin; refine wpList_append_held rfl (.tmp 15) (.tmp 16) 22 rfl 5 i0 Try.underlying22 hi hz0 hz1 hz2 lo _ (x1 ++ t1) rfl H2'.out (w2.heap.size + 1) (some ⟨w2.heap.size, 0, none⟩) 1 [0] rfl (BytesAt.lit (E := 5) w2 [0] (Nat.lt_succ_self _)) (fun hh => by cases hh) ?k1 ?k2 ?k3)
        case k1 => have := HF.out; have := HN3.out; rw [HX2.out]; show n2 + 1 ≤ _; omega
        case k2 => have := HLo2.out; simp; omega
        case k3 =>
          intro v3 w3 hh3 hg3 ho3
          have hz3 : w2.heap.size ≤ w3.heap.size := by have := hg3.size; simp at this; omega
          have hk3 : ∀ t, t < wr.heap.size → (Value.slice a1 n1 c1).ownBlock ≠ some t → w3.heap[t]? = wr.heap[t]? := fun t ht hn => by
            have h2 := HG2.out.1 t ht hn
            have h3 : (Value.slice a2 n2 c2).ownBlock ≠ some t := by
              rcases HG2.out.2.1 with h | h
              · rw [h]; exact hn
              · rw [h]; intro he; injection he with he; omega
            rw [grown_keep hg3 (by simp; omega) h3]
            exact (heap_alloc_old w2 _ (by omega)).trans h2
          have hb3 : Below lo wr w3 := HG2.out.2.2.trans (held_below H2'.out ((Below.refl lo w2).alloc HLo2.out _) (by have := HLo2.out; simp; omega) hg3)
          have ho : v3.ownBlock = (Value.slice a1 n1 c1).ownBlock ∨ ∀ k, v3.ownBlock = some k → wr.heap.size ≤ k := by
            rcases ho3 with h | h
            · rcases HG2.out.2.1 with h2 | h2
              · left; rw [h, h2]
              · right; intro k hk; rw [h, h2] at hk; injection hk with hk; omega
            · right; intro k hk; rw [h] at hk; injection hk with hk; omega
          have H3 := Lib.hid hh3
          have HG3 := Lib.hid (And.intro hk3 (And.intro hb3 ho))
          obtain ⟨a3, c3, rfl, _⟩ := hh3.form
          clear hh3 hg3 ho3 hk3 hb3 ho
          go_wp2
          go_roundw
          case rel =>
            have hnx := HX.out
            rw [HT1.out] at hnx
            have e : xs ++ encTs (ts.take (j + 1)) = x1 ++ t1 ++ [0] := by rw [hnx, ← HX1.out]; simp [encT]
            refine ⟨j + 1, by go_num, by omega, ⟨_, rfl, by rw [e, List.append_assoc]; exact H3.out, fun t ht hn => ?_, ?_, HBl.out.trans HG3.out.2.1⟩, ?_⟩
            · have h1 := HKp.out t ht hn
              refine (HG3.out.1 t (Nat.lt_of_lt_of_le ht HBl.out.size) ?_).trans h1
              rcases HOn.out with h | h
              · rw [h]; exact hn
              · intro he; have := h t he; omega
            · rcases HG3.out.2.2 with h | h
              · rcases HOn.out with h2 | h2
                · left; rw [h]; exact h2
                · right; intro k hk; rw [h] at hk; exact h2 k hk
              · right; intro k hk; exact Nat.le_trans HBl.out.size (h k hk)
            · rcases HG3.out.2.2 with h | h
              · rw [h]; exact HN1.out
              · intro he; have := h tb he; have := HTw.out; omega
          case measure => simp [intOf]; omega
    · obtain rfl : j = n := by omega
      obtain ⟨a1, c1, rfl, _⟩ := hheld.form
      clear hheld
      go_wp2
      go_ret
      refine ⟨_, rfl, ?_, HKp.out, HOn.out, HBl.out⟩
      have e : xs ++ encTs (ts.take j) = xs ++ encTs ts := by rw [List.take_of_length_le (by rw [HN.out]; exact Nat.le_refl _)]
      show Held wr lo _ (xs ++ encTs ts)
      rw [← e]
      exact HH.out
end Go.Proofs.Ytngmfgdoopkkdaa.He
