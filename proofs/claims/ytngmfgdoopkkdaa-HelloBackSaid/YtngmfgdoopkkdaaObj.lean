/- Plain words on the blocks that a call makes: what a block holds, what a step leaves alone, and what a cut of a slice of bytes is. No program is named here. -/
import Derived.Test.YtngmfgdoopkkdaaBytes
namespace Go.Proofs.Ytngmfgdoopkkdaa.By
open Go.RowKit Go

/-- Block g holds just these cells. -/
def Blk (w : World) (g : Nat) (T : TypeId) (vs : List Value) : Prop := w.heap[g]? = some (.cells vs.toArray T (0, 0))
section
variable {w w' : World} {g : Nat} {T : TypeId} {vs : List Value}
theorem Blk.cell (h : Blk w g T vs) (i : Nat) (v : Value) (hv : vs[i]? = some v) : w.cell? ⟨g, i, none⟩ = some v := by
  rw [cell_of_row w g i vs.toArray T (0, 0) h]; simpa using hv
theorem Blk.frozen (h : Blk w g T vs) (i : Nat) : w.frozen? ⟨g, i, none⟩ = false := by
  unfold Blk at h
  simp [World.frozen?, h]
theorem Blk.lt (h : Blk w g T vs) : g < w.heap.size := (Array.getElem?_eq_some_iff.1 h).1
theorem Blk.keep (h : Blk w g T vs) (hk : w'.heap[g]? = w.heap[g]?) : Blk w' g T vs := by unfold Blk; rw [hk]; exact h
theorem Blk.set (h : Blk w g T vs) (i : Nat) (v : Value) : Blk (w.setCell ⟨g, i, none⟩ v) g T (vs.set i v) := by
  unfold Blk
  rw [heap_setCell_same w g i vs.toArray T v h]
  simp
theorem Blk.new (w : World) (T : TypeId) (vs : List Value) : Blk (w.alloc (.cells vs.toArray T)) w.heap.size T vs := heap_alloc_new w _
theorem Blk.alloc (h : Blk w g T vs) (o : Obj) : Blk (w.alloc o) g T vs := h.keep (heap_alloc_old w o h.lt)
end

/-- Nothing but block g is as it was not; memory has only grown. -/
def Only (g : Nat) (w w' : World) : Prop := w.grownBy w' (some g)
/-- All is as it was; memory may have grown. -/
def Still (w w' : World) : Prop := w.grownBy w' none
section
variable {w w' w2 : World} {g : Nat}
theorem Only.refl (g : Nat) (w : World) : Only g w w := World.grownBy.refl w _
theorem Still.refl (w : World) : Still w w := World.grownBy.refl w _
theorem Only.trans (h : Only g w w') (k : Only g w' w2) : Only g w w2 :=
  ⟨k.os.trans h.os, k.tape.trans h.tape, k.output.trans h.output, Nat.le_trans h.size k.size, fun i hi hn => (k.block i (Nat.lt_of_lt_of_le hi h.size) hn).trans (h.block i hi hn)⟩
theorem Still.trans (h : Still w w') (k : Still w' w2) : Still w w2 :=
  ⟨k.os.trans h.os, k.tape.trans h.tape, k.output.trans h.output, Nat.le_trans h.size k.size, fun i hi hn => (k.block i (Nat.lt_of_lt_of_le hi h.size) hn).trans (h.block i hi hn)⟩
theorem Still.only (h : Still w w') (g : Nat) : Only g w w' := ⟨h.os, h.tape, h.output, h.size, fun i hi _ => h.block i hi (by simp)⟩
theorem Still.of_below (h : Below w.heap.size w w') : Still w w' := ⟨h.os, h.tape, h.output, h.size, fun i hi _ => h.block i hi⟩
theorem Still.below (h : Still w w') : Below w.heap.size w w' := ⟨h.os, h.tape, h.output, h.size, fun i hi => h.block i hi (by simp)⟩
theorem Only.set (h : Only g w w') (i : Nat) (v : Value) : Only g w (w'.setCell ⟨g, i, none⟩ v) :=
  h.trans ⟨rfl, rfl, rfl, by simp, fun k _ hn => Below.heap_setCell _ _ _ _ (fun e => hn (by rw [e]))⟩
theorem Only.alloc (h : Only g w w') (o : Obj) : Only g w (w'.alloc o) := h.trans ⟨rfl, rfl, rfl, by simp, fun k hk _ => heap_alloc_old _ _ hk⟩
theorem Only.drew (h : Only g w w') : Only g w w'.drew := ⟨h.os, h.tape, h.output, h.size, h.block⟩
theorem Still.drew (h : Still w w') : Still w w'.drew := ⟨h.os, h.tape, h.output, h.size, h.block⟩
theorem Still.alloc (h : Still w w') (o : Obj) : Still w (w'.alloc o) := h.trans ⟨rfl, rfl, rfl, by simp, fun k hk _ => heap_alloc_old _ _ hk⟩
theorem Only.at_ (h : Only g w w') {k : Nat} (hk : k < w.heap.size) (hn : k ≠ g) : w'.heap[k]? = w.heap[k]? := h.block k hk (by simpa using hn)
theorem Still.at_ (h : Still w w') {k : Nat} (hk : k < w.heap.size) : w'.heap[k]? = w.heap[k]? := h.block k hk (by simp)
theorem Only.below {B : Nat} {w0 : World} (h : Only g w w') (hb : Below B w0 w) (hB : B ≤ w.heap.size) (hg : B ≤ g) : Below B w0 w' :=
  hb.grown h hB (fun k hk => by injection hk with hk; omega)
theorem Still.below_of {B : Nat} {w0 : World} (h : Still w w') (hb : Below B w0 w) (hB : B ≤ w.heap.size) : Below B w0 w' :=
  hb.grown h hB (fun k hk => by cases hk)
theorem Blk.only {k : Nat} {T : TypeId} {vs : List Value} (h : Blk w k T vs) (ho : Only g w w') (hn : k ≠ g) : Blk w' k T vs := h.keep (ho.at_ h.lt hn)
theorem Blk.still {k : Nat} {T : TypeId} {vs : List Value} (h : Blk w k T vs) (ho : Still w w') : Blk w' k T vs := h.keep (ho.at_ h.lt)
/-- Bytes that lie below g stay, whatever becomes of g. -/
theorem BytesAt.only {a : Option Addr} {xs : List UInt8} (h : BytesAt w g a xs) (ho : Only g w w') (hg : g ≤ w.heap.size) : BytesAt w' g a xs :=
  h.keep fun p hp => World.cell?_of_block (w := w) (ho.at_ (by omega) (by omega))
/-- Bytes in a block other than g stay. -/
theorem BytesAt.only_other {B : Nat} {a : Option Addr} {xs : List UInt8} (h : BytesAt w B a xs) (ho : Only g w w') (hB : B ≤ w.heap.size) (hn : ∀ p, a = some p → p.block ≠ g) : BytesAt w' B a xs := fun hp => by
  obtain ⟨b, off, e, hb, hc⟩ := h hp
  exact ⟨b, off, e, hb, fun i hi => (World.cell?_of_block (w := w) (a := ⟨b, off + i, none⟩) (ho.at_ (by show b < _; omega) (hn ⟨b, off, none⟩ e))).trans (hc i hi)⟩
theorem BytesAt.still {B : Nat} {a : Option Addr} {xs : List UInt8} (h : BytesAt w B a xs) (ho : Still w w') (hB : B ≤ w.heap.size) : BytesAt w' B a xs :=
  h.keep fun p hp => World.cell?_of_block (w := w) (ho.at_ (by omega))
end

theorem byteAt_sub (xs : List UInt8) (l h i : Nat) (hi : i < h - l) : byteAt ((xs.take h).drop l) i = byteAt xs (l + i) := by
  unfold byteAt
  rw [List.getD_eq_getElem?_getD, List.getElem?_drop, List.getElem?_take, if_pos (by omega), ← List.getD_eq_getElem?_getD]
/-- A cut of a slice that holds bytes holds the cut's bytes. -/
theorem sliced_bytes {w : World} {B : Nat} {a : Option Addr} {xs : List UInt8} {l h m : Nat} (hb : BytesAt w B a xs) (hl : l ≤ h) (hh : h ≤ xs.length) (hm : h ≤ m) (hn : a = none → m = 0) (hx : m ≤ maxLen) :
    ∃ A C, sliced a l h m 1 = .slice A (h - l) C ∧ BytesAt w B A ((xs.take h).drop l) ∧ (A = none → C = 0) ∧ h - l ≤ C ∧ C ≤ maxLen := by
  cases a with
  | none =>
    have hm0 := hn rfl
    subst hm0
    have h0 : h = 0 := by omega
    subst h0
    have hl0 : l = 0 := by omega
    subst hl0
    exact ⟨none, 0, rfl, fun hp => by simp at hp, fun _ => rfl, Nat.le_refl _, by omega⟩
  | some ad =>
    refine ⟨_, m - l, rfl, fun hp => ?_, fun hh => ?_, by omega, by omega⟩
    have hp' : l < h := by simp at hp; omega
    obtain ⟨b, off, e, hb1, hc⟩ := hb (by omega)
    injection e with e
    subst e
    refine ⟨b, off + l, ?_, hb1, fun i hi => ?_⟩
    · rw [if_neg (by omega), Option.map_some, add_plain, Nat.mul_one]
    · have hi' : i < h - l := by simp at hi; omega
      rw [byteAt_sub _ _ _ _ hi', ← hc (l + i) (by omega), Nat.add_assoc]
    · exfalso
      split at hh
      · cases hh
      · cases hh
end Go.Proofs.Ytngmfgdoopkkdaa.By
