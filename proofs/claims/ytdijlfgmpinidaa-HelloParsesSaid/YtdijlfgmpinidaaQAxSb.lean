/- Which calls turn the elements of what they are handed, where it lies in what is new. No program is named here. -/
import Derived.Test.YtdijlfgmpinidaaQElems
import Derived.Deep.AppendSrc
import Derived.Deep.Upon
/- Plain words on the blocks that a call makes: what a block holds, what a step leaves alone, and what a cut of a slice of bytes is. No program is named here. -/
namespace Go.Proofs.Ytdijlfgmpinidaa.By
open Go.RowKit Go

/-- Block g holds just these cells. -/
def Blk (w : World) (g : Nat) (T : TypeId) (vs : List Value) : Prop := w.heap[g]? = some (.cells vs.toArray T (0, 0))
section
variable {w w' : World} {g : Nat} {T : TypeId} {vs : List Value}
theorem Blk.cell (h : Blk w g T vs) (i : Nat) (v : Value) (hv : vs[i]? = some v) : w.cell? ⟨g, i, none⟩ = some v := by
  rw [cell_of_row w g i vs.toArray T (0, 0) h]; simpa using hv
theorem Blk.frozen (h : Blk w g T vs) (i : Nat) : w.frozen? ⟨g, i, none⟩ = false := by
  unfold Blk at h
  simp [World.frozen?, h]
theorem Blk.lt (h : Blk w g T vs) : g < w.heap.size := (Array.getElem?_eq_some_iff.1 h).1
theorem Blk.keep (h : Blk w g T vs) (hk : w'.heap[g]? = w.heap[g]?) : Blk w' g T vs := by unfold Blk; rw [hk]; exact h
theorem Blk.set (h : Blk w g T vs) (i : Nat) (v : Value) : Blk (w.setCell ⟨g, i, none⟩ v) g T (vs.set i v) := by
  unfold Blk
  rw [heap_setCell_same w g i vs.toArray T v h]
  simp
theorem Blk.new (w : World) (T : TypeId) (vs : List Value) : Blk (w.alloc (.cells vs.toArray T)) w.heap.size T vs := heap_alloc_new w _
theorem Blk.alloc (h : Blk w g T vs) (o : Obj) : Blk (w.alloc o) g T vs := h.keep (heap_alloc_old w o h.lt)
end

/-- Nothing but block g is as it was not; memory has only grown. -/
def Only (g : Nat) (w w' : World) : Prop := w.grownBy w' (some g)
/-- All is as it was; memory may have grown. -/
def Still (w w' : World) : Prop := w.grownBy w' none
section
variable {w w' w2 : World} {g : Nat}
theorem Only.refl (g : Nat) (w : World) : Only g w w := World.grownBy.refl w _
theorem Still.refl (w : World) : Still w w := World.grownBy.refl w _
theorem Only.trans (h : Only g w w') (k : Only g w' w2) : Only g w w2 :=
  ⟨k.os.trans h.os, k.tape.trans h.tape, k.output.trans h.output, Nat.le_trans h.size k.size, fun i hi hn => (k.block i (Nat.lt_of_lt_of_le hi h.size) hn).trans (h.block i hi hn)⟩
theorem Still.trans (h : Still w w') (k : Still w' w2) : Still w w2 :=
  ⟨k.os.trans h.os, k.tape.trans h.tape, k.output.trans h.output, Nat.le_trans h.size k.size, fun i hi hn => (k.block i (Nat.lt_of_lt_of_le hi h.size) hn).trans (h.block i hi hn)⟩
theorem Still.only (h : Still w w') (g : Nat) : Only g w w' := ⟨h.os, h.tape, h.output, h.size, fun i hi _ => h.block i hi (by simp)⟩
theorem Still.of_below (h : Below w.heap.size w w') : Still w w' := ⟨h.os, h.tape, h.output, h.size, fun i hi _ => h.block i hi⟩
theorem Still.below (h : Still w w') : Below w.heap.size w w' := ⟨h.os, h.tape, h.output, h.size, fun i hi => h.block i hi (by simp)⟩
theorem Only.set (h : Only g w w') (i : Nat) (v : Value) : Only g w (w'.setCell ⟨g, i, none⟩ v) :=
  h.trans ⟨rfl, rfl, rfl, by simp, fun k _ hn => Below.heap_setCell _ _ _ _ (fun e => hn (by rw [e]))⟩
theorem Only.alloc (h : Only g w w') (o : Obj) : Only g w (w'.alloc o) := h.trans ⟨rfl, rfl, rfl, by simp, fun k hk _ => heap_alloc_old _ _ hk⟩
theorem Only.drew (h : Only g w w') : Only g w w'.drew := ⟨h.os, h.tape, h.output, h.size, h.block⟩
theorem Still.drew (h : Still w w') : Still w w'.drew := ⟨h.os, h.tape, h.output, h.size, h.block⟩
theorem Still.alloc (h : Still w w') (o : Obj) : Still w (w'.alloc o) := h.trans ⟨rfl, rfl, rfl, by simp, fun k hk _ => heap_alloc_old _ _ hk⟩
theorem Only.at_ (h : Only g w w') {k : Nat} (hk : k < w.heap.size) (hn : k ≠ g) : w'.heap[k]? = w.heap[k]? := h.block k hk (by simpa using hn)
theorem Still.at_ (h : Still w w') {k : Nat} (hk : k < w.heap.size) : w'.heap[k]? = w.heap[k]? := h.block k hk (by simp)
theorem Only.below {B : Nat} {w0 : World} (h : Only g w w') (hb : Below B w0 w) (hB : B ≤ w.heap.size) (hg : B ≤ g) : Below B w0 w' :=
  hb.grown h hB (fun k hk => by injection hk with hk; omega)
theorem Still.below_of {B : Nat} {w0 : World} (h : Still w w') (hb : Below B w0 w) (hB : B ≤ w.heap.size) : Below B w0 w' :=
  hb.grown h hB (fun k hk => by cases hk)
theorem Blk.only {k : Nat} {T : TypeId} {vs : List Value} (h : Blk w k T vs) (ho : Only g w w') (hn : k ≠ g) : Blk w' k T vs := h.keep (ho.at_ h.lt hn)
theorem Blk.still {k : Nat} {T : TypeId} {vs : List Value} (h : Blk w k T vs) (ho : Still w w') : Blk w' k T vs := h.keep (ho.at_ h.lt)
/-- Bytes that lie below g stay, whatever becomes of g. -/
theorem BytesAt.only {a : Option Addr} {xs : List UInt8} (h : BytesAt w g a xs) (ho : Only g w w') (hg : g ≤ w.heap.size) : BytesAt w' g a xs :=
  h.keep fun p hp => World.cell?_of_block (w := w) (ho.at_ (by omega) (by omega))
/-- Bytes in a block other than g stay. -/
theorem BytesAt.only_other {B : Nat} {a : Option Addr} {xs : List UInt8} (h : BytesAt w B a xs) (ho : Only g w w') (hB : B ≤ w.heap.size) (hn : ∀ p, a = some p → p.block ≠ g) : BytesAt w' B a xs := fun hp => by
  obtain ⟨b, off, e, hb, hc⟩ := h hp
  exact ⟨b, off, e, hb, fun i hi => (World.cell?_of_block (w := w) (a := ⟨b, off + i, none⟩) (ho.at_ (by show b < _; omega) (hn ⟨b, off, none⟩ e))).trans (hc i hi)⟩
theorem BytesAt.still {B : Nat} {a : Option Addr} {xs : List UInt8} (h : BytesAt w B a xs) (ho : Still w w') (hB : B ≤ w.heap.size) : BytesAt w' B a xs :=
  h.keep fun p hp => World.cell?_of_block (w := w) (ho.at_ (by omega))
end

theorem byteAt_sub (xs : List UInt8) (l h i : Nat) (hi : i < h - l) : byteAt ((xs.take h).drop l) i = byteAt xs (l + i) := by
  unfold byteAt
  rw [List.getD_eq_getElem?_getD, List.getElem?_drop, List.getElem?_take, if_pos (by omega), ← List.getD_eq_getElem?_getD]
/-- A cut of a slice that holds bytes holds the cut's bytes. -/
theorem sliced_bytes {w : World} {B : Nat} {a : Option Addr} {xs : List UInt8} {l h m : Nat} (hb : BytesAt w B a xs) (hl : l ≤ h) (hh : h ≤ xs.length) (hm : h ≤ m) (hn : a = none → m = 0) (hx : m ≤ maxLen) :
    ∃ A C, sliced a l h m 1 = .slice A (h - l) C ∧ BytesAt w B A ((xs.take h).drop l) ∧ (A = none → C = 0) ∧ h - l ≤ C ∧ C ≤ maxLen := by
  cases a with
  | none =>
    have hm0 := hn rfl
    subst hm0
    have h0 : h = 0 := by omega
    subst h0
    have hl0 : l = 0 := by omega
    subst hl0
    exact ⟨none, 0, rfl, fun hp => by simp at hp, fun _ => rfl, Nat.le_refl _, by omega⟩
  | some ad =>
    refine ⟨_, m - l, rfl, fun hp => ?_, fun hh => ?_, by omega, by omega⟩
    have hp' : l < h := by simp at hp; omega
    obtain ⟨b, off, e, hb1, hc⟩ := hb (by omega)
    injection e with e
    subst e
    refine ⟨b, off + l, ?_, hb1, fun i hi => ?_⟩
    · rw [if_neg (by omega), Option.map_some, add_plain, Nat.mul_one]
    · have hi' : i < h - l := by simp at hi; omega
      rw [byteAt_sub _ _ _ _ hi', ← hc (l + i) (by omega), Nat.add_assoc]
    · exfalso
      split at hh
      · cases hh
      · cases hh
end Go.Proofs.Ytdijlfgmpinidaa.By
/- A slice of bytes of the call's own, at whatever place of its block (what is left of one behind a cut): what it holds, its cuts, and appends onto it. No program is named here. -/
namespace Go.Proofs.Ytdijlfgmpinidaa.By
open Go.RowKit Go

/-- A slice of the call's own that holds these bytes; its block lies from lo on, and all of its room may be written. -/
def Held (w : World) (lo : Nat) (v : Value) (xs : List UInt8) : Prop :=
  (v = .slice none 0 0 ∧ xs = []) ∨
  ∃ b off c, v = .slice (some ⟨b, off, none⟩) xs.length c ∧ lo ≤ b ∧ b < w.heap.size ∧ xs.length ≤ c ∧ c ≤ maxLen ∧
    (∀ j, j < c → (w.cell? ⟨b, off + j, none⟩).isSome = true ∧ w.frozen? ⟨b, off + j, none⟩ = false) ∧ ∀ i, i < xs.length → w.cell? ⟨b, off + i, none⟩ = some (.int .u8 (byteAt xs i))

section
variable {w w' : World} {lo : Nat} {v : Value} {xs : List UInt8}
theorem Held.nil (w : World) (lo : Nat) : Held w lo (.slice none 0 0) [] := .inl ⟨rfl, rfl⟩
/-- What its block holds stays: so does it. -/
theorem Held.keep (h : Held w lo v xs) (hs : w.heap.size ≤ w'.heap.size) (hk : ∀ k, v.ownBlock = some k → w'.heap[k]? = w.heap[k]?) : Held w' lo v xs := by
  rcases h with h | ⟨b, off, c, rfl, h1, h2, h3, h4, h5, h6⟩
  · exact .inl h
  · have e := hk b rfl
    exact .inr ⟨b, off, c, rfl, h1, by omega, h3, h4, fun j hj => ⟨by rw [World.cell?_of_block (w := w) (a := ⟨b, off + j, none⟩) e]; exact (h5 j hj).1, by rw [World.frozen?_of_block (w := w) (a := ⟨b, off + j, none⟩) e]; exact (h5 j hj).2⟩,
      fun i hi => by rw [World.cell?_of_block (w := w) (a := ⟨b, off + i, none⟩) e]; exact h6 i hi⟩
theorem Held.block (h : Held w lo v xs) : ∀ k, v.ownBlock = some k → lo ≤ k ∧ k < w.heap.size := by
  intro k hk
  rcases h with ⟨rfl, _⟩ | ⟨b, off, c, rfl, h1, h2, _⟩
  · cases hk
  · have : b = k := by simpa [Value.ownBlock] using hk
    omega
theorem Held.still (h : Held w lo v xs) (hs : Still w w') : Held w' lo v xs := h.keep hs.size fun k hk => hs.at_ (h.block k hk).2
theorem Held.only {g : Nat} (h : Held w lo v xs) (hs : Only g w w') (hg : g < lo) : Held w' lo v xs := h.keep hs.size fun k hk => hs.at_ (h.block k hk).2 (by have := (h.block k hk).1; omega)
/-- The slice, as its bytes are read. -/
theorem Held.form (h : Held w lo v xs) : ∃ a c, v = .slice a xs.length c ∧ BytesAt w w.heap.size a xs ∧ (a = none → c = 0) ∧ xs.length ≤ c ∧ c ≤ maxLen := by
  rcases h with ⟨rfl, rfl⟩ | ⟨b, off, c, rfl, h1, h2, h3, h4, h5, h6⟩
  · exact ⟨none, 0, rfl, BytesAt.nil, fun _ => rfl, Nat.le_refl _, by simp [maxLen]⟩
  · exact ⟨_, c, rfl, fun _ => ⟨b, off, rfl, h2, h6⟩, fun hh => (by cases hh), h3, h4⟩
theorem Held.of_own {E : TypeId} (h : OwnB E w lo v xs) : Held w lo v xs := by
  rcases h.2 with ⟨rfl, hn⟩ | ⟨g, cap, cur, rfl, hg, hh, hnc, hcm, hcs, ht⟩
  · exact .inl ⟨rfl, List.eq_nil_of_length_eq_zero hn⟩
  · have hlt : g < w.heap.size := (Array.getElem?_eq_some_iff.1 hh).1
    refine .inr ⟨g, 0, cap, rfl, hg, hlt, hnc, hcm, fun j hj => ⟨?_, ?_⟩, fun i hi => ?_⟩
    · rw [cell_of_row w g _ cur E (0, 0) hh, Nat.zero_add, Array.getElem?_eq_getElem (by omega)]; rfl
    · simp [World.frozen?, hh]
    · have := World.ownsRow.cells h (g := g) rfl i _ (vals_at xs i hi)
      rw [add_plain] at this
      exact this
/-- What is left behind a cut. -/
theorem Held.drop (h : Held w lo v xs) (n : Nat) (hn : n ≤ xs.length) : ∃ a c A C, v = .slice a xs.length c ∧ sliced a n xs.length c 1 = .slice A (xs.length - n) C ∧ Held w lo (.slice A (xs.length - n) C) (xs.drop n) ∧ (Value.slice A (xs.length - n) C).ownBlock = v.ownBlock := by
  rcases h with ⟨rfl, rfl⟩ | ⟨b, off, c, rfl, h1, h2, h3, h4, h5, h6⟩
  · have h0 : n = 0 := by simpa using hn
    subst h0
    exact ⟨none, 0, none, 0, rfl, rfl, .inl ⟨rfl, rfl⟩, rfl⟩
  · have hblk : (Value.slice (if c = n then some (⟨b, off, none⟩ : Addr) else (some (⟨b, off, none⟩ : Addr)).map (·.add (n * 1))) (xs.length - n) (c - n)).ownBlock = (Value.slice (some ⟨b, off, none⟩) xs.length c).ownBlock := by
      split
      · rfl
      · rw [Option.map_some, add_plain]; rfl
    refine ⟨_, c, _, c - n, rfl, rfl, .inr ?_, hblk⟩
    rw [List.length_drop]
    by_cases hc : c = n
    · subst hc
      rw [if_pos rfl]
      have : xs.length = c := by omega
      exact ⟨b, off, 0, by simp, h1, h2, by omega, by omega, fun j hj => by omega, fun i hi => by omega⟩
    · rw [if_neg hc, Option.map_some, add_plain, Nat.mul_one]
      refine ⟨b, off + n, c - n, rfl, h1, h2, by omega, by omega, fun j hj => ?_, fun i hi => ?_⟩
      · rw [Nat.add_assoc]; exact h5 (n + j) (by omega)
      · rw [Nat.add_assoc, h6 (n + i) (by omega)]
        unfold byteAt
        rw [List.getD_eq_getElem?_getD, List.getD_eq_getElem?_getD, List.getElem?_drop]

/-- append onto it, of whatever yields these bytes. -/
theorem run_append_src {P : Program} {w : World} (t tx ty e : TypeId) (i : TypeInfo) (ht : P.underlying t = some (.slice e)) (hi : P.info? e = some i) (hz : i.zero = some (.int .u8 0)) (hsize : i.size = 1) (hby : i.bytes = 1)
    {lo : Nat} {v : Value} {xs : List UInt8} (hv : Held w lo v xs) {x : Value} {ys : List UInt8} (hsrc : Src P i.size tx x ys.length (vals ys) w) (hfit : xs.length + ys.length ≤ 140737488355328) (hlo : lo ≤ w.heap.size) :
    ∃ v' w', (Builtin.append_ #[t, tx] ty #[v, x]).run P w = .ok v' w' ∧ Held w' lo v' (xs ++ ys) ∧ w.grownBy w' v.ownBlock ∧ (v'.ownBlock = v.ownBlock ∨ v'.ownBlock = some w.heap.size) := by
  have happ : (vals xs ++ vals ys) = vals (xs ++ ys) := (vals_append xs ys).symm
  -- the arm that grows, whatever was there before
  have grows : ∀ (base : Option Addr) (sCap : Nat), v = .slice base xs.length sCap → sCap < xs.length + ys.length → (Builtin.firstCells i.size xs.length (.slice base xs.length sCap)).run P w.drew = .ok (vals xs).toArray w.drew →
      ∃ v' w', (Builtin.append_ #[t, tx] ty #[v, x]).run P w = .ok v' w' ∧ Held w' lo v' (xs ++ ys) ∧ w.grownBy w' v.ownBlock ∧ (v'.ownBlock = v.ownBlock ∨ v'.ownBlock = some w.heap.size) := by
    intro base sCap hve hlt hold
    have hr := run_append_grow_src (P := P) w t tx ty e i _ ht hi hz base xs.length sCap (vals xs) hold x ys.length (vals ys) hsrc hlt (by omega) (growslice_fits (by omega) (by rw [hby]; omega))
    have hge := grownCap_ge w (xs.length + ys.length) sCap e
    have hcm : grownCap w (xs.length + ys.length) sCap e ≤ maxLen := grownCap_le_maxLen w _ _ e (by unfold maxLen; omega)
    subst hve
    refine ⟨_, _, hr, .inr ⟨w.heap.size, 0, _, by rw [List.length_append], hlo, by simp, by rw [List.length_append]; exact hge, hcm, fun j hj => ?_, fun k hk => ?_⟩, ⟨rfl, rfl, rfl, by simp, fun k hk _ => heap_alloc_old w.drew _ hk⟩, .inr rfl⟩
    · refine ⟨?_, World.frozen?_alloc_new w.drew _ _ _⟩
      rw [Nat.zero_add, cell_of_row _ w.heap.size _ _ e (0, 0) (heap_alloc_new w.drew _), Array.getElem?_eq_getElem]
      · rfl
      · simp only [Array.size_append, List.size_toArray, size_zeroCells, happ, vals_length, List.length_append, Value.cells]
        simp
        omega
    · rw [Nat.zero_add, cell_of_row _ w.heap.size _ _ e (0, 0) (heap_alloc_new w.drew _), happ, Array.getElem?_append_left (by simpa [vals_length] using hk)]
      simpa using vals_at (xs ++ ys) k hk
  rcases hv with ⟨rfl, rfl⟩ | ⟨b, off, cap, rfl, h1, h2, h3, h4, h5, h6⟩
  · by_cases hn : ys.length = 0
    · have hy : ys = [] := List.eq_nil_of_length_eq_zero hn
      subst hy
      exact ⟨_, _, run_append_nothing (P := P) w t tx ty e i ht hi none 0 0 (Nat.le_refl _) _ hsrc, .inl ⟨rfl, rfl⟩, World.grownBy.refl _ _, .inl rfl⟩
    · exact grows none 0 rfl (by simp; omega) (run_firstCells_none w.drew _ _ _ _)
  · by_cases hroom : xs.length + ys.length ≤ cap
    · have hr := run_append_room_src (P := P) w t tx ty e i ht hi b off xs.length cap x ys.length (vals ys) hsrc hroom
        (fun j hj => by rw [hsize, Nat.mul_one, Nat.add_assoc]; exact (h5 _ (by rw [vals_length] at hj; omega)).1) (fun j hj => by rw [hsize, Nat.mul_one, Nat.add_assoc]; exact (h5 _ (by rw [vals_length] at hj; omega)).2)
      rw [hsize, Nat.mul_one] at hr
      have hz : ∀ (vs : List Value) (o : Nat) (W : World), (W.setCells b o vs).heap.size = W.heap.size ∧ (W.setCells b o vs).os = W.os ∧ (W.setCells b o vs).output = W.output ∧ (W.setCells b o vs).tape = W.tape := by
        intro vs
        induction vs with
        | nil => exact fun _ _ => ⟨rfl, rfl, rfl, rfl⟩
        | cons u r ih => intro o W; have := ih (o + 1) (W.setCell ⟨b, o, none⟩ u); exact ⟨this.1.trans (by simp), this.2.1, this.2.2.1, this.2.2.2⟩
      have hzz := hz (vals ys) (off + xs.length) w
      refine ⟨_, _, hr, .inr ⟨b, off, cap, by rw [List.length_append], h1, by rw [hzz.1]; exact h2, by rw [List.length_append]; exact hroom, h4, fun j hj => ⟨?_, ?_⟩, fun k hk => ?_⟩, ⟨hzz.2.1, hzz.2.2.2, hzz.2.2.1, by rw [hzz.1]; exact Nat.le_refl _, fun k hk hne => World.heap_setCells_other w b _ _ hk (fun e => hne (by rw [e]; rfl))⟩, .inl rfl⟩
      · by_cases hin : xs.length ≤ j ∧ j < xs.length + ys.length
        · obtain ⟨q, rfl⟩ : ∃ q, j = xs.length + q := ⟨j - xs.length, by omega⟩
          rw [← Nat.add_assoc, World.cell?_setCells_in b (vals ys) (off + xs.length) w (fun p hp => by rw [Nat.add_assoc]; exact (h5 _ (by rw [vals_length] at hp; omega)).1) q (by rw [vals_length]; omega)]
          rfl
        · rw [World.cell?_setCells_out b _ _ _ _ (fun _ _ => by simp only [vals_length]; omega)]
          exact (h5 j hj).1
      · rw [World.frozen?_setCells]; exact (h5 j hj).2
      · rw [List.length_append] at hk
        by_cases hkx : k < xs.length
        · rw [World.cell?_setCells_out b _ _ _ _ (fun _ _ => by simp only [vals_length]; omega), h6 k hkx, byteAt_append_left xs ys k hkx]
        · obtain ⟨q, rfl⟩ : ∃ q, k = xs.length + q := ⟨k - xs.length, by omega⟩
          have hq : q < ys.length := by omega
          rw [← Nat.add_assoc, World.cell?_setCells_in b (vals ys) (off + xs.length) w (fun p hp => by rw [Nat.add_assoc]; exact (h5 _ (by rw [vals_length] at hp; omega)).1) q (by rw [vals_length]; exact hq), byteAt_append_right]
          have hv := vals_at ys q hq
          rw [List.getElem?_eq_getElem (by rw [vals_length]; exact hq)] at hv
          exact hv
    · refine grows _ cap rfl (by omega) (run_firstCells_some w.drew i.size xs.length ⟨b, off, none⟩ xs.length cap (vals xs) (by rw [vals_length, hsize, Nat.mul_one]) (fun j u hu => ?_))
      have hj : j < xs.length := by
        rcases Nat.lt_or_ge j xs.length with h1 | h1
        · exact h1
        · rw [List.getElem?_eq_none (by simpa [vals] using h1)] at hu; cases hu
      rw [vals_at xs j hj] at hu
      injection hu with hu
      subst hu
      rw [add_plain, World.cell?_drew]
      exact h6 j hj
/-- append onto it, of a slice that holds bytes (nil, empty or not). -/
theorem src_bytes {P : Program} {w : World} {t e : TypeId} (ht : P.underlying t = some (.slice e)) {B : Nat} {A : Option Addr} {c : Nat} {ys : List UInt8} (hys : BytesAt w B A ys) : Src P 1 t (.slice A ys.length c) ys.length (vals ys) w := by
  cases A with
  | none =>
    have hn : ys = [] := hys.none_cap rfl
    subst hn
    exact Src.ofNil w ht c
  | some ad =>
    refine Src.ofSlice w ht ad ys.length c (vals ys) (by rw [vals_length, Nat.mul_one]) ?_ (vals_one ys)
    intro j u hu
    have hj : j < ys.length := by
      rcases Nat.lt_or_ge j ys.length with h1 | h1
      · exact h1
      · rw [List.getElem?_eq_none (by simpa [vals] using h1)] at hu; cases hu
    obtain ⟨b, off, he, _, hc⟩ := hys (by omega)
    injection he with he
    subst he
    rw [vals_at ys j hj] at hu
    injection hu with hu
    subst hu
    rw [add_plain]
    exact hc j hj
/-- A text yields its bytes. -/
theorem src_text {P : Program} {w : World} {tx : TypeId} (hk : P.underlying tx = some .string) (ys : List UInt8) : Src P 1 tx (.string (strB ys)) ys.length (vals ys) w := by
  have := Src.ofString (P := P) w hk (strB ys)
  rw [strB_size] at this
  exact this
theorem run_append_held {P : Program} {w : World} (t ty e : TypeId) (i : TypeInfo) (ht : P.underlying t = some (.slice e)) (hi : P.info? e = some i) (hz : i.zero = some (.int .u8 0)) (hsize : i.size = 1) (hby : i.bytes = 1)
    {lo : Nat} {v : Value} {xs : List UInt8} (hv : Held w lo v xs) {B : Nat} {A : Option Addr} {c : Nat} {ys : List UInt8} (hys : BytesAt w B A ys) (_hc0 : A = none → c = 0) (hfit : xs.length + ys.length ≤ 140737488355328) (hlo : lo ≤ w.heap.size) :
    ∃ v' w', (Builtin.append_ #[t, t] ty #[v, .slice A ys.length c]).run P w = .ok v' w' ∧ Held w' lo v' (xs ++ ys) ∧ w.grownBy w' v.ownBlock ∧ (v'.ownBlock = v.ownBlock ∨ v'.ownBlock = some w.heap.size) :=
  run_append_src t t ty e i ht hi hz hsize hby hv (by rw [hsize]; exact src_bytes ht hys) hfit hlo
end

/-- At the operation. -/
theorem wp_append_held {P : Program} {w : World} {o : Oper} {a : Act} {K : Act → World → Prop} {Q : Exit → Act → World → Prop} (s x : Operand) (t : TypeId)
    (ho : o.op = .call { callee := .builtin .append, args := #[s, x], argTypes := #[t, t] })
    (e : TypeId) (i : TypeInfo) (ht : P.underlying t = some (.slice e)) (hi : P.info? e = some i) (hz : i.zero = some (.int .u8 0)) (hsize : i.size = 1) (hby : i.bytes = 1)
    (lo : Nat) (v : Value) (xs : List UInt8) (hs : a.eval s = v) (hv : Held w lo v xs) (B : Nat) (A : Option Addr) (c : Nat) (ys : List UInt8) (hx : a.eval x = .slice A ys.length c) (hys : BytesAt w B A ys) (hc0 : A = none → c = 0)
    (hfit : xs.length + ys.length ≤ 140737488355328) (hlo : lo ≤ w.heap.size)
    (h : ∀ v' w', Held w' lo v' (xs ++ ys) → w.grownBy w' v.ownBlock → (v'.ownBlock = v.ownBlock ∨ v'.ownBlock = some w.heap.size) → K (a.put o.dst v') w') : o.wp P a w K Q := by
  obtain ⟨v', w', hr, h2, h3, h4⟩ := run_append_held (P := P) t o.type e i ht hi hz hsize hby hv hys hc0 hfit hlo
  unfold Oper.wp execOp
  simp only [ho, resolve, invoke, builtin, Sem.run_bind, Sem.run_pure, Result.andThen_ok, List.map_toArray, List.map_cons, List.map_nil, hs, hx, hr]
  exact h v' w' h2 h3 h4
/-- At the list of a plain region's operations. -/
theorem wpList_append_held {P : Program} {w : World} {ops : Array Oper} {rest : List Oper} {o : Oper} {a : Act} {Q : Exit → Act → World → Prop} (hgd : o.guard = none) (s x : Operand) (t : TypeId)
    (ho : o.op = .call { callee := .builtin .append, args := #[s, x], argTypes := #[t, t] })
    (e : TypeId) (i : TypeInfo) (ht : P.underlying t = some (.slice e)) (hi : P.info? e = some i) (hz : i.zero = some (.int .u8 0)) (hsize : i.size = 1) (hby : i.bytes = 1)
    (lo : Nat) (v : Value) (xs : List UInt8) (hs : a.eval s = v) (hv : Held w lo v xs) (B : Nat) (A : Option Addr) (c : Nat) (ys : List UInt8) (hx : a.eval x = .slice A ys.length c) (hys : BytesAt w B A ys) (hc0 : A = none → c = 0)
    (hfit : xs.length + ys.length ≤ 140737488355328) (hlo : lo ≤ w.heap.size)
    (h : ∀ v' w', Held w' lo v' (xs ++ ys) → w.grownBy w' v.ownBlock → (v'.ownBlock = v.ownBlock ∨ v'.ownBlock = some w.heap.size) → wpList P ops Q rest (a.put o.dst v') w') : wpList P ops Q (o :: rest) a w :=
  wpList_plain hgd fun _ hK => wp_append_held s x t ho e i ht hi hz hsize hby lo v xs hs hv B A c ys hx hys hc0 hfit hlo fun v' w' h2 h3 h4 => hK _ _ (h v' w' h2 h3 h4)
/-- At a step of a region that draws its order. -/
theorem step_append_held {P : Program} {w : World} {ops : Array Oper} {o : Oper} {a : Act} {K : Act → World → Prop} {Q : Exit → Act → World → Prop} {E : Prop} (hgd : o.guard = none) (s x : Operand) (t : TypeId)
    (ho : o.op = .call { callee := .builtin .append, args := #[s, x], argTypes := #[t, t] })
    (e : TypeId) (i : TypeInfo) (ht : P.underlying t = some (.slice e)) (hi : P.info? e = some i) (hz : i.zero = some (.int .u8 0)) (hsize : i.size = 1) (hby : i.bytes = 1)
    (lo : Nat) (v : Value) (xs : List UInt8) (hs : a.eval s = v) (hv : Held w lo v xs) (B : Nat) (A : Option Addr) (c : Nat) (ys : List UInt8) (hx : a.eval x = .slice A ys.length c) (hys : BytesAt w B A ys) (hc0 : A = none → c = 0)
    (hfit : xs.length + ys.length ≤ 140737488355328) (hlo : lo ≤ w.heap.size)
    (h : ∀ v' w', Held w' lo v' (xs ++ ys) → w.grownBy w' v.ownBlock → (v'.ownBlock = v.ownBlock ∨ v'.ownBlock = some w.heap.size) → K (a.put o.dst v') w') : if Region.wanted o (yielded ops a.tmps) = true then Oper.wp P o a w K Q else E := by
  have hw : Region.wanted o (yielded ops a.tmps) = true := by simp [Region.wanted, hgd]
  rw [if_pos hw]
  exact wp_append_held s x t ho e i ht hi hz hsize hby lo v xs hs hv B A c ys hx hys hc0 hfit hlo h
/-- The same of a text's bytes. -/
theorem wp_append_text {P : Program} {w : World} {o : Oper} {a : Act} {K : Act → World → Prop} {Q : Exit → Act → World → Prop} (s x : Operand) (t tx : TypeId)
    (ho : o.op = .call { callee := .builtin .append, args := #[s, x], argTypes := #[t, tx] })
    (e : TypeId) (i : TypeInfo) (ht : P.underlying t = some (.slice e)) (hi : P.info? e = some i) (hz : i.zero = some (.int .u8 0)) (hsize : i.size = 1) (hby : i.bytes = 1) (hk : P.underlying tx = some .string)
    (lo : Nat) (v : Value) (xs : List UInt8) (hs : a.eval s = v) (hv : Held w lo v xs) (ys : List UInt8) (hx : a.eval x = .string (strB ys))
    (hfit : xs.length + ys.length ≤ 140737488355328) (hlo : lo ≤ w.heap.size)
    (h : ∀ v' w', Held w' lo v' (xs ++ ys) → w.grownBy w' v.ownBlock → (v'.ownBlock = v.ownBlock ∨ v'.ownBlock = some w.heap.size) → K (a.put o.dst v') w') : o.wp P a w K Q := by
  obtain ⟨v', w', hr, h2, h3, h4⟩ := run_append_src (P := P) t tx o.type e i ht hi hz hsize hby hv (by rw [hsize]; exact src_text hk ys) hfit hlo
  unfold Oper.wp execOp
  simp only [ho, resolve, invoke, builtin, Sem.run_bind, Sem.run_pure, Result.andThen_ok, List.map_toArray, List.map_cons, List.map_nil, hs, hx, hr]
  exact h v' w' h2 h3 h4
theorem wpList_append_text {P : Program} {w : World} {ops : Array Oper} {rest : List Oper} {o : Oper} {a : Act} {Q : Exit → Act → World → Prop} (hgd : o.guard = none) (s x : Operand) (t tx : TypeId)
    (ho : o.op = .call { callee := .builtin .append, args := #[s, x], argTypes := #[t, tx] })
    (e : TypeId) (i : TypeInfo) (ht : P.underlying t = some (.slice e)) (hi : P.info? e = some i) (hz : i.zero = some (.int .u8 0)) (hsize : i.size = 1) (hby : i.bytes = 1) (hk : P.underlying tx = some .string)
    (lo : Nat) (v : Value) (xs : List UInt8) (hs : a.eval s = v) (hv : Held w lo v xs) (ys : List UInt8) (hx : a.eval x = .string (strB ys))
    (hfit : xs.length + ys.length ≤ 140737488355328) (hlo : lo ≤ w.heap.size)
    (h : ∀ v' w', Held w' lo v' (xs ++ ys) → w.grownBy w' v.ownBlock → (v'.ownBlock = v.ownBlock ∨ v'.ownBlock = some w.heap.size) → wpList P ops Q rest (a.put o.dst v') w') : wpList P ops Q (o :: rest) a w :=
  wpList_plain hgd fun _ hK => wp_append_text s x t tx ho e i ht hi hz hsize hby hk lo v xs hs hv ys hx hfit hlo fun v' w' h2 h3 h4 => hK _ _ (h v' w' h2 h3 h4)
end Go.Proofs.Ytdijlfgmpinidaa.By
/- What is known of the world in which a law is called, besides its arguments: nothing. -/
namespace Go.Proofs.Ytdijlfgmpinidaa.Ax
def Dom (_ : World) : Prop := True
theorem dom_any (w : World) : Dom w := trivial
end Go.Proofs.Ytdijlfgmpinidaa.Ax
namespace Go.Proofs.Ytdijlfgmpinidaa.Ax
open Go.RowKit Go By

/-- Functions that turn the elements of the one slice that they are handed. -/
def sortsB (P : Program) (g : FuncId) : Bool :=
  match P.funcs[g]? with
  | some fn => fn.name == "slices.Sort[[]int,int]" || fn.name == "slices.Sort[[]string,string]"
  | none => false
end Go.Proofs.Ytdijlfgmpinidaa.Ax
