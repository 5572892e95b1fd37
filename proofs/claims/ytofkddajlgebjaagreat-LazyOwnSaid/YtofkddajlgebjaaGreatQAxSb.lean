/- Which calls turn the elements of what they are handed, where it lies in what is new. No program is named here. -/
import Derived.Test.YtofkddajlgebjaaGreatQElems
import Derived.Deep.AppendSrc
import Derived.Deep.Upon
/- Plain words on the blocks that a call makes: what a block holds, what a step leaves alone, and what a cut of a slice of bytes is. No program is named here. -/
namespace Go.Proofs.YtofkddajlgebjaaGreat.By
open Go.RowKit Go

/-- Block g holds just these cells. -/
def Blk (w : World) (g : Nat) (T : TypeId) (vs : List Value) : Prop := w.heap[g]? = some (.cells vs.toArray T (0, 0))
section
variable {w w' : World} {g : Nat} {T : TypeId} {vs : List Value}
theorem Blk.cell (h : Blk w g T vs) (i : Nat) (v : Value) (hv : vs[i]? = some v) : w.cell? ⟨g, i, none⟩ = some v := by
  rw [cell_of_row w g i vs.toArray T (0, 0) h]; simpa using hv
theorem Blk.frozen (h : Blk w g T vs) (i : Nat) : w.frozen? ⟨g, i, none⟩ = false := by
  unfold Blk at h
  simp [World.frozen?, h]
theorem Blk.set (h : Blk w g T vs) (i : Nat) (v : Value) : Blk (w.setCell ⟨g, i, none⟩ v) g T (vs.set i v) := by
  unfold Blk
  rw [heap_setCell_same w g i vs.toArray T v h]
  simp
end

/-- Nothing but block g is as it was not; memory has only grown. -/
def Only (g : Nat) (w w' : World) : Prop := w.grownBy w' (some g)
/-- All is as it was; memory may have grown. -/
def Still (w w' : World) : Prop := w.grownBy w' none
section
variable {w w' w2 : World} {g : Nat}
theorem Only.trans (h : Only g w w') (k : Only g w' w2) : Only g w w2 :=
  ⟨k.os.trans h.os, k.tape.trans h.tape, k.output.trans h.output, Nat.le_trans h.size k.size, fun i hi hn => (k.block i (Nat.lt_of_lt_of_le hi h.size) hn).trans (h.block i hi hn)⟩
theorem Still.trans (h : Still w w') (k : Still w' w2) : Still w w2 :=
  ⟨k.os.trans h.os, k.tape.trans h.tape, k.output.trans h.output, Nat.le_trans h.size k.size, fun i hi hn => (k.block i (Nat.lt_of_lt_of_le hi h.size) hn).trans (h.block i hi hn)⟩
theorem Only.set (h : Only g w w') (i : Nat) (v : Value) : Only g w (w'.setCell ⟨g, i, none⟩ v) :=
  h.trans ⟨rfl, rfl, rfl, by simp, fun k _ hn => Below.heap_setCell _ _ _ _ (fun e => hn (by rw [e]))⟩
theorem Only.at_ (h : Only g w w') {k : Nat} (hk : k < w.heap.size) (hn : k ≠ g) : w'.heap[k]? = w.heap[k]? := h.block k hk (by simpa using hn)
theorem Still.at_ (h : Still w w') {k : Nat} (hk : k < w.heap.size) : w'.heap[k]? = w.heap[k]? := h.block k hk (by simp)
end

end Go.Proofs.YtofkddajlgebjaaGreat.By
/- A slice of bytes of the call's own, at whatever place of its block (what is left of one behind a cut): what it holds, its cuts, and appends onto it. No program is named here. -/
namespace Go.Proofs.YtofkddajlgebjaaGreat.By
open Go.RowKit Go

/-- A slice of the call's own that holds these bytes; its block lies from lo on, and all of its room may be written. -/
def Held (w : World) (lo : Nat) (v : Value) (xs : List UInt8) : Prop :=
  (v = .slice none 0 0 ∧ xs = []) ∨
  ∃ b off c, v = .slice (some ⟨b, off, none⟩) xs.length c ∧ lo ≤ b ∧ b < w.heap.size ∧ xs.length ≤ c ∧ c ≤ maxLen ∧
    (∀ j, j < c → (w.cell? ⟨b, off + j, none⟩).isSome = true ∧ w.frozen? ⟨b, off + j, none⟩ = false) ∧ ∀ i, i < xs.length → w.cell? ⟨b, off + i, none⟩ = some (.int .u8 (byteAt xs i))

section
variable {w w' : World} {lo : Nat} {v : Value} {xs : List UInt8}
theorem Held.nil (w : World) (lo : Nat) : Held w lo (.slice none 0 0) [] := .inl ⟨rfl, rfl⟩
theorem Held.block (h : Held w lo v xs) : ∀ k, v.ownBlock = some k → lo ≤ k ∧ k < w.heap.size := by
  intro k hk
  rcases h with ⟨rfl, _⟩ | ⟨b, off, c, rfl, h1, h2, _⟩
  · cases hk
  · have : b = k := by simpa [Value.ownBlock] using hk
    omega
/-- What is left behind a cut. -/
theorem Held.drop (h : Held w lo v xs) (n : Nat) (hn : n ≤ xs.length) : ∃ a c A C, v = .slice a xs.length c ∧ sliced a n xs.length c 1 = .slice A (xs.length - n) C ∧ Held w lo (.slice A (xs.length - n) C) (xs.drop n) ∧ (Value.slice A (xs.length - n) C).ownBlock = v.ownBlock := by
  rcases h with ⟨rfl, rfl⟩ | ⟨b, off, c, rfl, h1, h2, h3, h4, h5, h6⟩
  · have h0 : n = 0 := by simpa using hn
    subst h0
    exact ⟨none, 0, none, 0, rfl, rfl, .inl ⟨rfl, rfl⟩, rfl⟩
  · have hblk : (Value.slice (if c = n then some (⟨b, off, none⟩ : Addr) else (some (⟨b, off, none⟩ : Addr)).map (·.add (n * 1))) (xs.length - n) (c - n)).ownBlock = (Value.slice (some ⟨b, off, none⟩) xs.length c).ownBlock := by
      split
      · rfl
      · rw [Option.map_some, add_plain]; rfl
    refine ⟨_, c, _, c - n, rfl, rfl, .inr ?_, hblk⟩
    rw [List.length_drop]
    by_cases hc : c = n
    · subst hc
      rw [if_pos rfl]
      have : xs.length = c := by omega
      exact ⟨b, off, 0, by simp, h1, h2, by omega, by omega, fun j hj => by omega, fun i hi => by omega⟩
    · rw [if_neg hc, Option.map_some, add_plain, Nat.mul_one]
      refine ⟨b, off + n, c - n, rfl, h1, h2, by omega, by omega, fun j hj => ?_, fun i hi => ?_⟩
      · rw [Nat.add_assoc]; exact h5 (n + j) (by omega)
      · rw [Nat.add_assoc, h6 (n + i) (by omega)]
        unfold byteAt
        rw [List.getD_eq_getElem?_getD, List.getD_eq_getElem?_getD, List.getElem?_drop]

end

end Go.Proofs.YtofkddajlgebjaaGreat.By
/- What is known of the world in which a law is called, besides its arguments: nothing. -/
namespace Go.Proofs.YtofkddajlgebjaaGreat.Ax
def Dom (_ : World) : Prop := True
theorem dom_any (w : World) : Dom w := trivial
end Go.Proofs.YtofkddajlgebjaaGreat.Ax
namespace Go.Proofs.YtofkddajlgebjaaGreat.Ax
open Go.RowKit Go By

/-- Functions that turn the elements of the one slice that they are handed. -/
def sortsB (P : Program) (g : FuncId) : Bool :=
  match P.funcs[g]? with
  | some fn => fn.name == "slices.Sort[[]int,int]" || fn.name == "slices.Sort[[]string,string]"
  | none => false
/-- .. in the order that a function tells that is handed beside it. -/
def sortsC (P : Program) (g : FuncId) : Bool :=
  match P.funcs[g]? with
  | some fn => fn.name == "slices.SortFunc[[]int,int]"
  | none => false
end Go.Proofs.YtofkddajlgebjaaGreat.Ax
