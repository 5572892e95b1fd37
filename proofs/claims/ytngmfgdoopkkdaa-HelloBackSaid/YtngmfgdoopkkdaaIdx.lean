/- slices.IndexFunc and slices.ContainsFunc at lists of texts, of numbers and of pairs: any predicate that a contract tells. -/
import Derived.Test.YtngmfgdoopkkdaaHelF
namespace Go.Proofs.Ytngmfgdoopkkdaa.He
set_option maxRecDepth 100000
open Go.RowKit Go By Nm Sc

/-- The cells of texts; of numbers. -/
def txE (ts : List (List UInt8)) : List (List Value) := ts.map fun t => [.string (strB t)]
def inE (zs : List Int) : List (List Value) := zs.map fun z => [.int .i64 z]
theorem txE_length (ts : List (List UInt8)) : (txE ts).length = ts.length := by simp [txE]
theorem inE_length (zs : List Int) : (inE zs).length = zs.length := by simp [inE]
theorem text_cell {w : World} {B : Nat} {a : Option Addr} {ts : List (List UInt8)} (h : Elems w B a 1 (txE ts)) (j : Nat) (hj : j < ts.length) :
    ∃ b off, a = some ⟨b, off, none⟩ ∧ b < B ∧ w.cell? ⟨b, off + j, none⟩ = some (.string (strB (ts.getD j []))) := by
  obtain ⟨b, off, e, hb, hc⟩ := h (by rw [txE_length]; omega)
  have hat : (txE ts).getD j [] = [.string (strB (ts.getD j []))] := by simp [txE, List.getD_eq_getElem?_getD, List.getElem?_eq_getElem hj]
  have h0 := hc j (by rw [txE_length]; exact hj) 0 _ (by rw [hat]; rfl)
  rw [Nat.mul_one] at h0
  exact ⟨b, off, e, hb, h0⟩
theorem int_cell {w : World} {B : Nat} {a : Option Addr} {zs : List Int} (h : Elems w B a 1 (inE zs)) (j : Nat) (hj : j < zs.length) :
    ∃ b off, a = some ⟨b, off, none⟩ ∧ b < B ∧ w.cell? ⟨b, off + j, none⟩ = some (.int .i64 (zs.getD j 0)) := by
  obtain ⟨b, off, e, hb, hc⟩ := h (by rw [inE_length]; omega)
  have hat : (inE zs).getD j [] = [.int .i64 (zs.getD j 0)] := by simp [inE, List.getD_eq_getElem?_getD, List.getElem?_eq_getElem hj]
  have h0 := hc j (by rw [inE_length]; exact hj) 0 _ (by rw [hat]; rfl)
  rw [Nat.mul_one] at h0
  exact ⟨b, off, e, hb, h0⟩
theorem idxI_any {α : Type} (f : α → Bool) (l : List α) : decide (0 ≤ idxI f l) = l.any f := by
  unfold idxI
  by_cases h : l.findIdx f < l.length
  · rw [if_pos h]
    have : l.any f = true := List.any_eq_true.2 (List.findIdx_lt_length.1 h)
    rw [this]
    simp
  · rw [if_neg h]
    have : l.any f = false := by
      rw [Bool.eq_false_iff]
      intro hh
      exact h (List.findIdx_lt_length.2 (List.any_eq_true.1 hh))
    rw [this]
    rfl

set_option maxHeartbeats 1000000 in
theorem text_index (F : FuncId) (f : List UInt8 → Bool) (B : Nat) (a : Option Addr) (n k : Nat) (ps : List (List UInt8)) (w : World) (hE : Elems w B a 1 (txE ps)) (hB : B ≤ w.heap.size) (hn : ps.length = n) (hm : n ≤ 4294967296) (hen : Enters F)
    (HF : ∀ j, j < n → ∀ W : World, Calls Try.prog F #[.string (strB (ps.getD j []))] W fun e w' => e = .returned (.bool (f (ps.getD j []))) ∧ Below W.heap.size W w') :
    Calls Try.prog 108 #[.slice a n k, .func (.func F) #[] #[]] w fun e w' => e = .returned (.int .i64 (idxI f ps)) ∧ Below w.heap.size w w' := by
  have HE := Lib.hid hE
  have HBb := Lib.hid hB
  have HN := Lib.hid hn
  have HFF := Lib.hid HF
  clear hE hB hn HF
  go_enter Try.func108, Try.ntmps108
  go_wp2
  go_loopw [8] (fun i wr => ∃ j : Nat, i = .int .i64 j ∧ j ≤ n ∧ (∀ t, t < j → f (ps.getD t []) = false) ∧ Below w.heap.size w wr) (fun i _ => n - (intOf i).toNat)
  case atStart => exact ⟨0, rfl, Nat.zero_le _, fun t ht => by omega, Below.refl _ _⟩
  case round =>
    obtain ⟨j, rfl, hj, hno, hbw⟩ := hrel
    have HNo := Lib.hid hno
    have HBw := Lib.hid hbw
    clear hno hbw
    by_cases hlt : j < n
    · obtain ⟨b, off, ha, hb, hc0⟩ := text_cell (HE.out.keep fun p hp => HBw.out.cell (p := p) (Nat.lt_of_lt_of_le hp HBb.out)) j (by rw [HN.out]; exact hlt)
      subst ha
      obtain ⟨pr, HPr⟩ : ∃ p, Hid (ps.getD j [] = p) := ⟨_, rfl⟩
      obtain ⟨r, HR⟩ : ∃ r, Hid (f pr = r) := ⟨_, rfl⟩
      have hc := HFF.out j hlt
      rw [HPr.out, HR.out] at hc
      rw [HPr.out] at hc0
      have HC := Lib.hid hc
      have hen' := fun args (W : World) => hen args W
      clear hc
      cases r with
      | true =>
        go_wp2_with fail
        refine (HC.out _).mono ?_
        rintro e w2 ⟨rfl, hb2⟩
        have HB2 := Lib.hid hb2
        clear hb2
        go_wp2
        go_ret
        refine ⟨?_, HBw.out.trans (HB2.out.mono HBw.out.size)⟩
        have hf : ps.findIdx f = j := by
          rw [List.findIdx_eq (by rw [HN.out]; exact hlt)]
          refine ⟨?_, fun t ht => ?_⟩
          · have := HR.out; rw [← HPr.out] at this; rw [List.getD_eq_getElem?_getD, List.getElem?_eq_getElem (by rw [HN.out]; exact hlt)] at this; exact this
          · have := HNo.out t ht; rw [List.getD_eq_getElem?_getD, List.getElem?_eq_getElem (by rw [HN.out]; omega)] at this; exact this
        rw [idxI, hf, if_pos (by rw [HN.out]; exact hlt)]
        rfl
      | false =>
        go_wp2_with fail
        refine (HC.out _).mono ?_
        rintro e w2 ⟨rfl, hb2⟩
        have HB2 := Lib.hid (HBw.out.trans (hb2.mono HBw.out.size))
        clear hb2
        go_wp2
        go_roundw
        case rel =>
          refine ⟨j + 1, by go_num, by omega, fun t ht => ?_, HB2.out⟩
          by_cases htj : t < j
          · exact HNo.out t htj
          · obtain rfl : t = j := by omega
            rw [HPr.out]; exact HR.out
        case measure => simp [intOf]; omega
    · obtain rfl : j = n := by omega
      go_wp2
      go_ret
      refine ⟨?_, HBw.out⟩
      have hf : ¬ ps.findIdx f < ps.length := fun hh => by
        have h1 := List.findIdx_getElem (w := hh)
        have h2 := HNo.out _ (by rw [← HN.out]; exact hh)
        rw [List.getD_eq_getElem?_getD, List.getElem?_eq_getElem hh] at h2
        rw [Option.getD_some] at h2
        rw [h1] at h2; cases h2
      rw [idxI, if_neg hf]
      rfl

theorem text_contains (F : FuncId) (f : List UInt8 → Bool) (B : Nat) (a : Option Addr) (n k : Nat) (ps : List (List UInt8)) (w : World) (hE : Elems w B a 1 (txE ps)) (hB : B ≤ w.heap.size) (hn : ps.length = n) (hm : n ≤ 4294967296) (hen : Enters F)
    (HF : ∀ j, j < n → ∀ W : World, Calls Try.prog F #[.string (strB (ps.getD j []))] W fun e w' => e = .returned (.bool (f (ps.getD j []))) ∧ Below W.heap.size W w') :
    Calls Try.prog 91 #[.slice a n k, .func (.func F) #[] #[]] w fun e w' => e = .returned (.bool (ps.any f)) ∧ Below w.heap.size w w' := by
  have HI := Lib.hid (text_index F f B a n k ps w hE hB hn hm hen HF)
  have HA := Lib.hid (idxI_any f ps)
  clear hE hB hn HF
  go_enter Try.func91, Try.ntmps91
  go_wp2_with fail
  refine HI.out.mono ?_
  rintro e w2 ⟨rfl, hb2⟩
  have HB2 := Lib.hid hb2
  clear hb2
  go_wp2
  go_ret
  exact ⟨by rw [← HA.out]; rfl, HB2.out⟩

set_option maxHeartbeats 1000000 in
theorem num_index (F : FuncId) (f : Int → Bool) (B : Nat) (a : Option Addr) (n k : Nat) (ps : List (Int)) (w : World) (hE : Elems w B a 1 (inE ps)) (hB : B ≤ w.heap.size) (hn : ps.length = n) (hm : n ≤ 4294967296) (hen : Enters F)
    (HF : ∀ j, j < n → ∀ W : World, Calls Try.prog F #[.int .i64 (ps.getD j 0)] W fun e w' => e = .returned (.bool (f (ps.getD j 0))) ∧ Below W.heap.size W w') :
    Calls Try.prog 113 #[.slice a n k, .func (.func F) #[] #[]] w fun e w' => e = .returned (.int .i64 (idxI f ps)) ∧ Below w.heap.size w w' := by
  have HE := Lib.hid hE
  have HBb := Lib.hid hB
  have HN := Lib.hid hn
  have HFF := Lib.hid HF
  clear hE hB hn HF
  go_enter Try.func113, Try.ntmps113
  go_wp2
  go_loopw [8] (fun i wr => ∃ j : Nat, i = .int .i64 j ∧ j ≤ n ∧ (∀ t, t < j → f (ps.getD t 0) = false) ∧ Below w.heap.size w wr) (fun i _ => n - (intOf i).toNat)
  case atStart => exact ⟨0, rfl, Nat.zero_le _, fun t ht => by omega, Below.refl _ _⟩
  case round =>
    obtain ⟨j, rfl, hj, hno, hbw⟩ := hrel
    have HNo := Lib.hid hno
    have HBw := Lib.hid hbw
    clear hno hbw
    by_cases hlt : j < n
    · obtain ⟨b, off, ha, hb, hc0⟩ := int_cell (HE.out.keep fun p hp => HBw.out.cell (p := p) (Nat.lt_of_lt_of_le hp HBb.out)) j (by rw [HN.out]; exact hlt)
      subst ha
      obtain ⟨pr, HPr⟩ : ∃ p, Hid (ps.getD j 0 = p) := ⟨_, rfl⟩
      obtain ⟨r, HR⟩ : ∃ r, Hid (f pr = r) := ⟨_, rfl⟩
      have hc := HFF.out j hlt
      rw [HPr.out, HR.out] at hc
      rw [HPr.out] at hc0
      have HC := Lib.hid hc
      have hen' := fun args (W : World) => hen args W
      clear hc
      cases r with
      | true =>
        go_wp2_with fail
        refine (HC.out _).mono ?_
        rintro e w2 ⟨rfl, hb2⟩
        have HB2 := Lib.hid hb2
        clear hb2
        go_wp2
        go_ret
        refine ⟨?_, HBw.out.trans (HB2.out.mono HBw.out.size)⟩
        have hf : ps.findIdx f = j := by
          rw [List.findIdx_eq (by rw [HN.out]; exact hlt)]
          refine ⟨?_, fun t ht => ?_⟩
          · have := HR.out; rw [← HPr.out] at this; rw [List.getD_eq_getElem?_getD, List.getElem?_eq_getElem (by rw [HN.out]; exact hlt)] at this; exact this
          · have := HNo.out t ht; rw [List.getD_eq_getElem?_getD, List.getElem?_eq_getElem (by rw [HN.out]; omega)] at this; exact this
        rw [idxI, hf, if_pos (by rw [HN.out]; exact hlt)]
        rfl
      | false =>
        go_wp2_with fail
        refine (HC.out _).mono ?_
        rintro e w2 ⟨rfl, hb2⟩
        have HB2 := Lib.hid (HBw.out.trans (hb2.mono HBw.out.size))
        clear hb2
        go_wp2
        go_roundw
        case rel =>
          refine ⟨j + 1, by go_num, by omega, fun t ht => ?_, HB2.out⟩
          by_cases htj : t < j
          · exact HNo.out t htj
          · obtain rfl : t = j := by omega
            rw [HPr.out]; exact HR.out
        case measure => simp [intOf]; omega
    · obtain rfl : j = n := by omega
      go_wp2
      go_ret
      refine ⟨?_, HBw.out⟩
      have hf : ¬ ps.findIdx f < ps.length := fun hh => by
        have h1 := List.findIdx_getElem (w := hh)
        have h2 := HNo.out _ (by rw [← HN.out]; exact hh)
        rw [List.getD_eq_getElem?_getD, List.getElem?_eq_getElem hh] at h2
        rw [Option.getD_some] at h2
        rw [h1] at h2; cases h2
      rw [idxI, if_neg hf]
      rfl

theorem num_contains (F : FuncId) (f : Int → Bool) (B : Nat) (a : Option Addr) (n k : Nat) (ps : List (Int)) (w : World) (hE : Elems w B a 1 (inE ps)) (hB : B ≤ w.heap.size) (hn : ps.length = n) (hm : n ≤ 4294967296) (hen : Enters F)
    (HF : ∀ j, j < n → ∀ W : World, Calls Try.prog F #[.int .i64 (ps.getD j 0)] W fun e w' => e = .returned (.bool (f (ps.getD j 0))) ∧ Below W.heap.size W w') :
    Calls Try.prog 105 #[.slice a n k, .func (.func F) #[] #[]] w fun e w' => e = .returned (.bool (ps.any f)) ∧ Below w.heap.size w w' := by
  have HI := Lib.hid (num_index F f B a n k ps w hE hB hn hm hen HF)
  have HA := Lib.hid (idxI_any f ps)
  clear hE hB hn HF
  go_enter Try.func105, Try.ntmps105
  go_wp2_with fail
  refine HI.out.mono ?_
  rintro e w2 ⟨rfl, hb2⟩
  have HB2 := Lib.hid hb2
  clear hb2
  go_wp2
  go_ret
  exact ⟨by rw [← HA.out]; rfl, HB2.out⟩

theorem pair_contains (F : FuncId) (f : Pr → Bool) (B : Nat) (a : Option Addr) (n k : Nat) (ps : List (Pr)) (w : World) (hE : Elems w B a 2 (prE ps)) (hB : B ≤ w.heap.size) (hn : ps.length = n) (hm : n ≤ 4294967296) (hen : Enters F)
    (HF : ∀ j, j < n → ∀ W : World, Calls Try.prog F #[.agg #[.string (strB (ps.getD j ([], [])).1), .string (strB (ps.getD j ([], [])).2)]] W fun e w' => e = .returned (.bool (f (ps.getD j ([], [])))) ∧ Below W.heap.size W w') :
    Calls Try.prog 77 #[.slice a n k, .func (.func F) #[] #[]] w fun e w' => e = .returned (.bool (ps.any f)) ∧ Below w.heap.size w w' := by
  have HI := Lib.hid (hindex_any F f B a n k ps w hE hB hn hm hen HF)
  have HA := Lib.hid (idxI_any f ps)
  clear hE hB hn HF
  go_enter Try.func77, Try.ntmps77
  go_wp2_with fail
  refine HI.out.mono ?_
  rintro e w2 ⟨rfl, hb2⟩
  have HB2 := Lib.hid hb2
  clear hb2
  go_wp2
  go_ret
  exact ⟨by rw [← HA.out]; rfl, HB2.out⟩
end Go.Proofs.Ytngmfgdoopkkdaa.He
