/- The contracts of frame.Bytes and of the document's answer for a message's bytes. -/
import Derived.Test.YtlffnhfnbdpghaaFrameD
namespace Go.Proofs.Ytlffnhfnbdpghaa.Fr
open Go.RowKit Go By Nm

/-- A message's bytes: its type (0: none), its length, its body. -/
def pre (k : Int) : List UInt8 := if k = 0 then [] else [UInt8.ofNat k.toNat]
def msgB (k : Int) (ys : List UInt8) : List UInt8 := putL (pre k) ((ys.length : Int) + 4) 4 ++ ys
/-- New bytes were answered. -/
def NewB (xs : List UInt8) (w : World) (e : Ending) (w' : World) : Prop :=
  ∃ a c, e = .returned (.slice a xs.length c) ∧ BytesAt w' w'.heap.size a xs ∧ (a = none → c = 0) ∧ xs.length ≤ c ∧ c ≤ maxLen ∧ Below w.heap.size w w'
theorem NewB.of_held {w w' : World} {v : Value} {lo : Nat} {xs : List UInt8} (h : Held w' lo v xs) (hb : Below w.heap.size w w') : NewB xs w (.returned v) w' := by
  obtain ⟨a, c, rfl, h1, h2, h3, h4⟩ := h.form
  exact ⟨a, c, rfl, h1, h2, h3, h4, hb⟩
theorem putL_len (xs : List UInt8) (n size : Int) : (putL xs n size).length ≤ xs.length + size.toNat := by
  unfold putL
  split
  · rw [List.length_append, putTo_length]
    exact Nat.le_refl _
  · omega
theorem u8_back {k : Int} (h0 : 0 ≤ k) (h1 : k < 256) : ((UInt8.ofNat k.toNat).toNat : Int) = k := by
  rw [UInt8.toNat_ofNat']
  omega

set_option maxHeartbeats 1000000 in
theorem bytes_0 (B : Nat) (a : Option Addr) (c n : Nat) (ys : List UInt8) (w : World) (hy : BytesAt w B a ys) (hB : B ≤ w.heap.size) (hc : a = none → c = 0) (hl : ys.length ≤ 1000000) (hn : ys.length = n) :
    Calls Try.prog 30 #[.agg #[.int .u8 0, .slice a n c]] w (NewB (msgB 0 ys) w) := by
  obtain ⟨i0, hi, hz0, hz1, hz2⟩ := info_parts byte_info
  have e0 : msgB 0 ys = putL [] ((n : Int) + 4) 4 ++ ys := by unfold msgB pre; rw [if_pos rfl, hn]
  rw [e0]
  have hpl := putL_len [] ((n : Int) + 4) 4
  have HY := Lib.hid (And.intro hy hc)
  have HN := Lib.hid hn
  have HBB := Lib.hid hB
  have hn2 : n ≤ 1000000 := by omega
  have HPut := Lib.hid fun W : World => put_any W.heap.size none 0 [] ((n : Int) + 4) 4 W BytesAt.nil (Nat.le_refl _) (fun _ => rfl) (by simp)
  obtain ⟨P, HP⟩ : ∃ P, Hid (putL [] ((n : Int) + 4) 4 = P) := ⟨_, rfl⟩
  rw [HP.out] at hpl ⊢
  simp only [HP.out] at HPut
  have hpl' : P.length ≤ 5 := by simp at hpl; omega
  have HPL := Lib.hid hpl'
  have HK : Hid (∀ (v : Value) (w' : World), Held w' w.heap.size v (P ++ ys) → Below w.heap.size w w' → NewB (P ++ ys) w (.returned v) w') := Lib.hid fun v w' h1 h2 => NewB.of_held h1 h2
  have hwr : IntKind.i64.wrap ((n : Int) + 4) = (n : Int) + 4 := IntWalk.i64_in _ (by omega)
  clear hy hc hB hl hn e0 hpl hpl'
  go_enter Try.func30, Try.ntmps30
  go_wp2_with fail
  have k1 : (w.alloc (.cells #[.int .u8 0, .slice a n c] 49)).cell? ⟨w.heap.size, 1, none⟩ = some (.slice a n c) := by
    have hb : Blk (w.alloc (.cells #[.int .u8 0, .slice a n c] 49)) w.heap.size 49 [.int .u8 0, .slice a n c] := Blk.new w _ [.int .u8 0, .slice a n c]
    exact hb.cell 1 _ rfl
  have HSZ : Hid (w.heap.size < (w.alloc (.cells #[.int .u8 0, .slice a n c] 49)).heap.size) := Lib.hid (by simp only [World.size_alloc]; omega)
  have HYB : Hid (BytesAt (w.alloc (.cells #[.int .u8 0, .slice a n c] 49)) B a ys) := Lib.hid (HY.out.1.alloc HBB.out _)
  have HBT : Hid (Below w.heap.size w (w.alloc (.cells #[.int .u8 0, .slice a n c] 49))) := Lib.hid ((Below.refl _ w).alloc (Nat.le_refl _) _)
  go_region_held3 (fun w' => w'.cell? ⟨w.heap.size, 1, none⟩ = some (.slice a n c))
    (first
      | go_keep
      | (exact (HB1.out.cell (p := ⟨w.heap.size, 1, none⟩) HSZ.out).trans k1)
      | (exact World.grownBy.cell HG2.out ((HB1.out.cell (p := ⟨w.heap.size, 1, none⟩) HSZ.out).trans k1) HNE.out))
    (first
      | (go_at_call 41; refine (HPut.out _).mono ?_; rintro e w1 ⟨a1, c1, rfl, _, ho1, _, hb1⟩; have HO1 := Lib.hid ho1; have HB1 := Lib.hid hb1; have HNE : Hid (some w.heap.size ≠ (Value.slice a1 P.length c1).ownBlock) := Lib.hid (fun e => absurd (World.ownsRow.lt ho1 _ e.symm).1 (Nat.not_le.2 HSZ.out)); clear ho1 hb1)
      | (refine step_append_held rfl (.tmp 15) (.tmp 17) 22 rfl 5 i0 Try.underlying22 hi hz0 hz1 hz2 w.heap.size (.slice a1 P.length c1) P (by simp [Act.eval]) ?qa B a c ys ?qb ?qc HY.out.2 ?qd ?qe ?qf
         case qa => exact Held.of_own (HO1.out.base (Nat.le_of_lt HSZ.out))
         case qb => rw [HN.out]; simp [Act.eval]
         case qc => exact BytesAt.below (w := (w.alloc (.cells #[.int .u8 0, .slice a n c] 49)).drew) HYB.out (HB1.out.mono (B' := B) (Nat.le_trans HBB.out (Nat.le_of_lt HSZ.out)))
         case qd => rw [HN.out]; have := HPL.out; omega
         case qe => exact Nat.le_trans (Nat.le_of_lt HSZ.out) HB1.out.size
         intro v2 w2 hv2 hg2 _
         have HV2 := Lib.hid hv2
         have HG2 := Lib.hid hg2
         clear hv2 hg2))
  go_wp2_with fail
  go_ret
  refine HK.out _ _ HV2.out ?_
  have hb2 : Below w.heap.size w w1 := HBT.out.trans (Below.mono (w := (w.alloc (.cells #[.int .u8 0, .slice a n c] 49))) (B := (w.alloc (.cells #[.int .u8 0, .slice a n c] 49)).heap.size) ⟨HB1.out.os, HB1.out.tape, HB1.out.output, HB1.out.size, HB1.out.block⟩ (Nat.le_of_lt HSZ.out))
  exact hb2.grown HG2.out hb2.size (fun k hk => Nat.le_trans (Nat.le_of_lt HSZ.out) (World.ownsRow.lt HO1.out k hk).1)

set_option maxHeartbeats 1000000 in
theorem bytes_k (k : Int) (B : Nat) (a : Option Addr) (c n : Nat) (ys : List UInt8) (w : World) (hy : BytesAt w B a ys) (hB : B ≤ w.heap.size) (hc : a = none → c = 0) (hl : ys.length ≤ 1000000) (hn : ys.length = n) (hk0 : 0 ≤ k) (hk1 : k < 256) (hk : k ≠ 0) :
    Calls Try.prog 30 #[.agg #[.int .u8 k, .slice a n c]] w (NewB (msgB k ys) w) := by
  obtain ⟨i0, hi, hz0, hz1, hz2⟩ := info_parts byte_info
  have e0 : msgB k ys = putL [UInt8.ofNat k.toNat] ((n : Int) + 4) 4 ++ ys := by unfold msgB pre; rw [if_neg hk, hn]
  rw [e0]
  have hpl := putL_len [UInt8.ofNat k.toNat] ((n : Int) + 4) 4
  have HY := Lib.hid (And.intro hy hc)
  have HN := Lib.hid hn
  have HBB := Lib.hid hB
  have hn2 : n ≤ 1000000 := by omega
  have hlit : BytesAt ((w.alloc (.cells #[.int .u8 k, .slice a n c] 49)).alloc (.cells #[.int .u8 k] 5)) (w.heap.size + 2) (some ⟨w.heap.size + 1, 0, none⟩) [UInt8.ofNat k.toNat] := by
    have h := BytesAt.lit (E := 5) (w.alloc (.cells #[.int .u8 k, .slice a n c] 49)) [UInt8.ofNat k.toNat] (B := w.heap.size + 2) (by simp)
    rw [World.size_alloc] at h
    have e : vals [UInt8.ofNat k.toNat] = [.int .u8 k] := by simp only [vals, List.map_cons, List.map_nil, u8_back hk0 hk1]
    rw [e] at h
    exact h
  have HPut := Lib.hid (put_any (w.heap.size + 2) (some ⟨w.heap.size + 1, 0, none⟩) 1 [UInt8.ofNat k.toNat] ((n : Int) + 4) 4 ((w.alloc (.cells #[.int .u8 k, .slice a n c] 49)).alloc (.cells #[.int .u8 k] 5)).drew hlit (by simp) (fun h => by cases h) (by simp))
  have ek : (k == 0) = false := by simpa using hk
  have ek2 : (k != 0) = true := by simp [bne, ek]
  obtain ⟨P, HP⟩ : ∃ P, Hid (putL [UInt8.ofNat k.toNat] ((n : Int) + 4) 4 = P) := ⟨_, rfl⟩
  rw [HP.out] at hpl ⊢
  rw [HP.out] at HPut
  have hpl' : P.length ≤ 5 := by simp at hpl; omega
  have HPL := Lib.hid hpl'
  have HK : Hid (∀ (v : Value) (w' : World), Held w' w.heap.size v (P ++ ys) → Below w.heap.size w w' → NewB (P ++ ys) w (.returned v) w') := Lib.hid fun v w' h1 h2 => NewB.of_held h1 h2
  have hwr : IntKind.i64.wrap ((n : Int) + 4) = (n : Int) + 4 := IntWalk.i64_in _ (by omega)
  clear hy hc hB hl hn e0 hpl hpl' hlit hk
  go_enter Try.func30, Try.ntmps30
  go_wp2_with fail
  have k1 : ((w.alloc (.cells #[.int .u8 k, .slice a n c] 49)).alloc (.cells #[.int .u8 k] 5)).cell? ⟨w.heap.size, 1, none⟩ = some (.slice a n c) := by
    have hb : Blk (w.alloc (.cells #[.int .u8 k, .slice a n c] 49)) w.heap.size 49 [.int .u8 k, .slice a n c] := Blk.new w _ [.int .u8 k, .slice a n c]
    exact (hb.alloc (.cells #[.int .u8 k] 5)).cell 1 _ rfl
  have HSZ : Hid (w.heap.size < ((w.alloc (.cells #[.int .u8 k, .slice a n c] 49)).alloc (.cells #[.int .u8 k] 5)).heap.size) := Lib.hid (by simp only [World.size_alloc]; omega)
  have HYB : Hid (BytesAt ((w.alloc (.cells #[.int .u8 k, .slice a n c] 49)).alloc (.cells #[.int .u8 k] 5)) B a ys) := Lib.hid ((HY.out.1.alloc HBB.out _).alloc (by have := HBB.out; simp; omega) _)
  have HBT : Hid (Below w.heap.size w ((w.alloc (.cells #[.int .u8 k, .slice a n c] 49)).alloc (.cells #[.int .u8 k] 5))) := Lib.hid (((Below.refl _ w).alloc (Nat.le_refl _) _).alloc (by simp) _)
  go_region_held3 (fun w' => w'.cell? ⟨w.heap.size, 1, none⟩ = some (.slice a n c))
    (first
      | go_keep
      | (exact (HB1.out.cell (p := ⟨w.heap.size, 1, none⟩) HSZ.out).trans k1)
      | (exact World.grownBy.cell HG2.out ((HB1.out.cell (p := ⟨w.heap.size, 1, none⟩) HSZ.out).trans k1) HNE.out))
    (first
      | (go_at_call 41; refine HPut.out.mono ?_; rintro e w1 ⟨a1, c1, rfl, _, ho1, _, hb1⟩; have HO1 := Lib.hid ho1; have HB1 := Lib.hid hb1; have HNE : Hid (some w.heap.size ≠ (Value.slice a1 P.length c1).ownBlock) := Lib.hid (fun e => absurd (World.ownsRow.lt ho1 _ e.symm).1 (Nat.not_le.2 HSZ.out)); clear ho1 hb1)
      | (refine step_append_held rfl (.tmp 15) (.tmp 17) 22 rfl 5 i0 Try.underlying22 hi hz0 hz1 hz2 w.heap.size (.slice a1 P.length c1) P (by simp [Act.eval]) ?qa B a c ys ?qb ?qc HY.out.2 ?qd ?qe ?qf
         case qa => exact Held.of_own (HO1.out.base (Nat.le_of_lt HSZ.out))
         case qb => rw [HN.out]; simp [Act.eval]
         case qc => exact BytesAt.below (w := ((w.alloc (.cells #[.int .u8 k, .slice a n c] 49)).alloc (.cells #[.int .u8 k] 5)).drew) HYB.out (HB1.out.mono (B' := B) (Nat.le_trans HBB.out (Nat.le_of_lt HSZ.out)))
         case qd => rw [HN.out]; have := HPL.out; omega
         case qe => exact Nat.le_trans (Nat.le_of_lt HSZ.out) HB1.out.size
         intro v2 w2 hv2 hg2 _
         have HV2 := Lib.hid hv2
         have HG2 := Lib.hid hg2
         clear hv2 hg2))
  go_wp2_with fail
  go_ret
  refine HK.out _ _ HV2.out ?_
  have hb2 : Below w.heap.size w w1 := HBT.out.trans (Below.mono (w := ((w.alloc (.cells #[.int .u8 k, .slice a n c] 49)).alloc (.cells #[.int .u8 k] 5))) (B := ((w.alloc (.cells #[.int .u8 k, .slice a n c] 49)).alloc (.cells #[.int .u8 k] 5)).heap.size) ⟨HB1.out.os, HB1.out.tape, HB1.out.output, HB1.out.size, HB1.out.block⟩ (Nat.le_of_lt HSZ.out))
  exact hb2.grown HG2.out hb2.size (fun k hk => Nat.le_trans (Nat.le_of_lt HSZ.out) (World.ownsRow.lt HO1.out k hk).1)

set_option maxHeartbeats 1000000 in
theorem rbytes_0 (B : Nat) (a : Option Addr) (c n : Nat) (ys : List UInt8) (w : World) (hy : BytesAt w B a ys) (hB : B ≤ w.heap.size) (hc : a = none → c = 0) (hl : ys.length ≤ 1000000) (hn : ys.length = n) :
    Calls Try.prog 32 #[.agg #[.int .u8 0, .slice a n c]] w (NewB (msgB 0 ys) w) := by
  obtain ⟨i0, hi, hz0, hz1, hz2⟩ := info_parts byte_info
  have e0 : msgB 0 ys = putL [] ((n : Int) + 4) 4 ++ ys := by unfold msgB pre; rw [if_pos rfl, hn]
  rw [e0]
  have hpl := putL_len [] ((n : Int) + 4) 4
  have HY := Lib.hid (And.intro hy hc)
  have HN := Lib.hid hn
  have HBB := Lib.hid hB
  have hn2 : n ≤ 1000000 := by omega
  have HPut := Lib.hid fun W : World => rput_any W.heap.size none 0 [] ((n : Int) + 4) 4 W BytesAt.nil (fun _ => rfl) (by simp)
  obtain ⟨P, HP⟩ : ∃ P, Hid (putL [] ((n : Int) + 4) 4 = P) := ⟨_, rfl⟩
  rw [HP.out] at hpl ⊢
  simp only [HP.out] at HPut
  have hpl' : P.length ≤ 5 := by simp at hpl; omega
  have HPL := Lib.hid hpl'
  have HK : Hid (∀ (v : Value) (w' : World), Held w' w.heap.size v (P ++ ys) → Below w.heap.size w w' → NewB (P ++ ys) w (.returned v) w') := Lib.hid fun v w' h1 h2 => NewB.of_held h1 h2
  have hwr : IntKind.i64.wrap ((n : Int) + 4) = (n : Int) + 4 := IntWalk.i64_in _ (by omega)
  clear hy hc hB hl hn e0 hpl hpl'
  go_enter Try.func32, Try.ntmps32
  go_wp2_with fail
  have k1 : (w.alloc (.cells #[.int .u8 0, .slice a n c] 49)).cell? ⟨w.heap.size, 1, none⟩ = some (.slice a n c) := by
    have hb : Blk (w.alloc (.cells #[.int .u8 0, .slice a n c] 49)) w.heap.size 49 [.int .u8 0, .slice a n c] := Blk.new w _ [.int .u8 0, .slice a n c]
    exact hb.cell 1 _ rfl
  have HSZ : Hid (w.heap.size < (w.alloc (.cells #[.int .u8 0, .slice a n c] 49)).heap.size) := Lib.hid (by simp only [World.size_alloc]; omega)
  have HYB : Hid (BytesAt (w.alloc (.cells #[.int .u8 0, .slice a n c] 49)) B a ys) := Lib.hid (HY.out.1.alloc HBB.out _)
  have HBT : Hid (Below w.heap.size w (w.alloc (.cells #[.int .u8 0, .slice a n c] 49))) := Lib.hid ((Below.refl _ w).alloc (Nat.le_refl _) _)
  go_region_held3 (fun w' => w'.cell? ⟨w.heap.size, 1, none⟩ = some (.slice a n c))
    (first
      | go_keep
      | (exact (HB1.out.cell (p := ⟨w.heap.size, 1, none⟩) HSZ.out).trans k1)
      | (exact World.grownBy.cell HG2.out ((HB1.out.cell (p := ⟨w.heap.size, 1, none⟩) HSZ.out).trans k1) HNE.out))
    (first
      | (go_at_call 43; refine (HPut.out _).mono ?_; rintro e w1 ⟨a1, c1, rfl, _, ho1, _, hb1⟩; have HO1 := Lib.hid ho1; have HB1 := Lib.hid hb1; have HNE : Hid (some w.heap.size ≠ (Value.slice a1 P.length c1).ownBlock) := Lib.hid (fun e => absurd (World.ownsRow.lt ho1 _ e.symm).1 (Nat.not_le.2 HSZ.out)); clear ho1 hb1)
      | (refine step_append_held rfl (.tmp 17) (.tmp 19) 22 rfl 5 i0 Try.underlying22 hi hz0 hz1 hz2 w.heap.size (.slice a1 P.length c1) P (by simp [Act.eval]) ?qa B a c ys ?qb ?qc HY.out.2 ?qd ?qe ?qf
         case qa => exact Held.of_own (HO1.out.base (Nat.le_of_lt HSZ.out))
         case qb => rw [HN.out]; simp [Act.eval]
         case qc => exact BytesAt.below (w := (w.alloc (.cells #[.int .u8 0, .slice a n c] 49)).drew) HYB.out (HB1.out.mono (B' := B) (Nat.le_trans HBB.out (Nat.le_of_lt HSZ.out)))
         case qd => rw [HN.out]; have := HPL.out; omega
         case qe => exact Nat.le_trans (Nat.le_of_lt HSZ.out) HB1.out.size
         intro v2 w2 hv2 hg2 _
         have HV2 := Lib.hid hv2
         have HG2 := Lib.hid hg2
         clear hv2 hg2))
  go_wp2_with fail
  go_ret
  refine HK.out _ _ HV2.out ?_
  have hb2 : Below w.heap.size w w1 := HBT.out.trans (Below.mono (w := (w.alloc (.cells #[.int .u8 0, .slice a n c] 49))) (B := (w.alloc (.cells #[.int .u8 0, .slice a n c] 49)).heap.size) ⟨HB1.out.os, HB1.out.tape, HB1.out.output, HB1.out.size, HB1.out.block⟩ (Nat.le_of_lt HSZ.out))
  exact hb2.grown HG2.out hb2.size (fun k hk => Nat.le_trans (Nat.le_of_lt HSZ.out) (World.ownsRow.lt HO1.out k hk).1)

set_option maxHeartbeats 1000000 in
theorem rbytes_k (k : Int) (B : Nat) (a : Option Addr) (c n : Nat) (ys : List UInt8) (w : World) (hy : BytesAt w B a ys) (hB : B ≤ w.heap.size) (hc : a = none → c = 0) (hl : ys.length ≤ 1000000) (hn : ys.length = n) (hk0 : 0 ≤ k) (hk1 : k < 256) (hk : k ≠ 0) :
    Calls Try.prog 32 #[.agg #[.int .u8 k, .slice a n c]] w (NewB (msgB k ys) w) := by
  obtain ⟨i0, hi, hz0, hz1, hz2⟩ := info_parts byte_info
  have e0 : msgB k ys = putL [UInt8.ofNat k.toNat] ((n : Int) + 4) 4 ++ ys := by unfold msgB pre; rw [if_neg hk, hn]
  rw [e0]
  have hpl := putL_len [UInt8.ofNat k.toNat] ((n : Int) + 4) 4
  have HY := Lib.hid (And.intro hy hc)
  have HN := Lib.hid hn
  have HBB := Lib.hid hB
  have hn2 : n ≤ 1000000 := by omega
  have hlit : BytesAt ((w.alloc (.cells #[.int .u8 k, .slice a n c] 49)).alloc (.cells #[.int .u8 k] 5)) (w.heap.size + 2) (some ⟨w.heap.size + 1, 0, none⟩) [UInt8.ofNat k.toNat] := by
    have h := BytesAt.lit (E := 5) (w.alloc (.cells #[.int .u8 k, .slice a n c] 49)) [UInt8.ofNat k.toNat] (B := w.heap.size + 2) (by simp)
    rw [World.size_alloc] at h
    have e : vals [UInt8.ofNat k.toNat] = [.int .u8 k] := by simp only [vals, List.map_cons, List.map_nil, u8_back hk0 hk1]
    rw [e] at h
    exact h
  have HLit := Lib.hid hlit
  have HPut := Lib.hid fun (W : World) (a1 : Option Addr) (c1 : Nat) (h1 : BytesAt W W.heap.size a1 [UInt8.ofNat k.toNat]) (h2 : a1 = none → c1 = 0) => rput_any W.heap.size a1 c1 [UInt8.ofNat k.toNat] ((n : Int) + 4) 4 W h1 h2 (by simp)
  have ek : (k == 0) = false := by simpa using hk
  have ek2 : (k != 0) = true := by simp [bne, ek]
  obtain ⟨P, HP⟩ : ∃ P, Hid (putL [UInt8.ofNat k.toNat] ((n : Int) + 4) 4 = P) := ⟨_, rfl⟩
  rw [HP.out] at hpl ⊢
  simp only [HP.out] at HPut
  have hpl' : P.length ≤ 5 := by simp at hpl; omega
  have HPL := Lib.hid hpl'
  have HK : Hid (∀ (v : Value) (w' : World), Held w' w.heap.size v (P ++ ys) → Below w.heap.size w w' → NewB (P ++ ys) w (.returned v) w') := Lib.hid fun v w' h1 h2 => NewB.of_held h1 h2
  have hwr : IntKind.i64.wrap ((n : Int) + 4) = (n : Int) + 4 := IntWalk.i64_in _ (by omega)
  clear hy hc hB hl hn e0 hpl hpl' hlit hk
  go_enter Try.func32, Try.ntmps32
  go_wp2_with (at_builtin; refine wpList_append_held rfl (.tmp 7) (.tmp 10) 22 rfl 5 i0 Try.underlying22 hi hz0 hz1 hz2 w.heap.size (.slice none 0 0) [] rfl (Held.nil _ _) (w.heap.size + 2) (some ⟨w.heap.size + 1, 0, none⟩) 1 [UInt8.ofNat k.toNat] rfl HLit.out (fun h => by cases h) (by simp) (by simp; omega) ?_; intro v0 w0 hv0 hg0 _; obtain ⟨a0, c0, rfl, hx0, hn0, hl0, hm0⟩ := hv0.form; have HX0 := Lib.hid (And.intro hx0 hn0); have HG0 := Lib.hid hg0; clear hx0 hn0 hl0 hm0 hv0 hg0)
  have hS0 : Still w w0 := (((Still.refl w).alloc (.cells #[.int .u8 k, .slice a n c] 49)).alloc (.cells #[.int .u8 k] 5)).trans HG0.out
  have k1 : w0.cell? ⟨w.heap.size, 1, none⟩ = some (.slice a n c) := by
    have hb : Blk (w.alloc (.cells #[.int .u8 k, .slice a n c] 49)) w.heap.size 49 [.int .u8 k, .slice a n c] := Blk.new w _ [.int .u8 k, .slice a n c]
    exact ((hb.alloc (.cells #[.int .u8 k] 5)).still HG0.out).cell 1 _ rfl
  have HSZ : Hid (w.heap.size < w0.heap.size) := Lib.hid (by have := HG0.out.size; simp at this; omega)
  have HYB := Lib.hid (HY.out.1.still hS0 HBB.out)
  have HBT := Lib.hid hS0.below
  clear hS0
  go_wp2_with fail
  go_region_held3 (fun w' => w'.cell? ⟨w.heap.size, 1, none⟩ = some (.slice a n c))
    (first
      | go_keep
      | (exact (HB1.out.cell (p := ⟨w.heap.size, 1, none⟩) HSZ.out).trans k1)
      | (exact World.grownBy.cell HG2.out ((HB1.out.cell (p := ⟨w.heap.size, 1, none⟩) HSZ.out).trans k1) HNE.out))
    (first
      | (go_at_call 43; refine (HPut.out w0.drew a0 c0 HX0.out.1 HX0.out.2).mono ?_; rintro e w1 ⟨a1, c1, rfl, _, ho1, _, hb1⟩; have HO1 := Lib.hid ho1; have HB1 := Lib.hid hb1; have HNE : Hid (some w.heap.size ≠ (Value.slice a1 P.length c1).ownBlock) := Lib.hid (fun e => absurd (World.ownsRow.lt ho1 _ e.symm).1 (Nat.not_le.2 HSZ.out)); clear ho1 hb1)
      | (refine step_append_held rfl (.tmp 17) (.tmp 19) 22 rfl 5 i0 Try.underlying22 hi hz0 hz1 hz2 w.heap.size (.slice a1 P.length c1) P (by simp [Act.eval]) ?qa B a c ys ?qb ?qc HY.out.2 ?qd ?qe ?qf
         case qa => exact Held.of_own (HO1.out.base (Nat.le_of_lt HSZ.out))
         case qb => rw [HN.out]; simp [Act.eval]
         case qc => exact BytesAt.below (w := w0.drew) HYB.out (HB1.out.mono (B' := B) (Nat.le_trans HBB.out (Nat.le_of_lt HSZ.out)))
         case qd => rw [HN.out]; have := HPL.out; omega
         case qe => exact Nat.le_trans (Nat.le_of_lt HSZ.out) HB1.out.size
         intro v2 w2 hv2 hg2 _
         have HV2 := Lib.hid hv2
         have HG2 := Lib.hid hg2
         clear hv2 hg2))
  go_wp2_with fail
  go_ret
  refine HK.out _ _ HV2.out ?_
  have hb2 : Below w.heap.size w w1 := HBT.out.trans (Below.mono (w := w0) (B := w0.heap.size) ⟨HB1.out.os, HB1.out.tape, HB1.out.output, HB1.out.size, HB1.out.block⟩ (Nat.le_of_lt HSZ.out))
  exact hb2.grown HG2.out hb2.size (fun k hk => Nat.le_trans (Nat.le_of_lt HSZ.out) (World.ownsRow.lt HO1.out k hk).1)

theorem bytes_any (k : Int) (B : Nat) (a : Option Addr) (c n : Nat) (ys : List UInt8) (w : World) (hy : BytesAt w B a ys) (hB : B ≤ w.heap.size) (hc : a = none → c = 0) (hl : ys.length ≤ 1000000) (hn : ys.length = n) (hk0 : 0 ≤ k) (hk1 : k < 256) :
    Calls Try.prog 30 #[.agg #[.int .u8 k, .slice a n c]] w (NewB (msgB k ys) w) := by
  by_cases h : k = 0
  · subst h; exact bytes_0 B a c n ys w hy hB hc hl hn
  · exact bytes_k k B a c n ys w hy hB hc hl hn hk0 hk1 h
theorem rbytes_any (k : Int) (B : Nat) (a : Option Addr) (c n : Nat) (ys : List UInt8) (w : World) (hy : BytesAt w B a ys) (hB : B ≤ w.heap.size) (hc : a = none → c = 0) (hl : ys.length ≤ 1000000) (hn : ys.length = n) (hk0 : 0 ≤ k) (hk1 : k < 256) :
    Calls Try.prog 32 #[.agg #[.int .u8 k, .slice a n c]] w (NewB (msgB k ys) w) := by
  by_cases h : k = 0
  · subst h; exact rbytes_0 B a c n ys w hy hB hc hl hn
  · exact rbytes_k k B a c n ys w hy hB hc hl hn hk0 hk1 h
end Go.Proofs.Ytlffnhfnbdpghaa.Fr
