/- slices.Sort of numbers, in place, by the kit's contract. -/
import Derived.Shelf.Sort.Plain
import Derived.Shelf.Slices.In.SortNone
import Derived.Shelf.Strconv.Clone
import Derived.Test.YtphgbfemigcalaaProg
import Derived.Test.YtphgbfemigcalaaQAxMs
/- Contracts of Go's library, laid at this program by the kit's shelf (plain words): slices_Sort_string, slices_Sort_string_none, stringslite_Clone. -/
namespace Go.Proofs
open Go.Shelf Go.RowKit Go.Lib Go.Sort
def Try.lays190_ren : Go.Shelf.Ren := ⟨fun | 190 => 43 | 125 => 47 | 258 => 46 | 128 => 57 | 129 => 58 | 302 => 48 | 303 => 49 | 304 => 50 | 305 => 51 | 306 => 52 | 307 => 53 | 308 => 54 | 309 => 55 | 310 => 56 | 333 => 59 | 329 => 60 | 330 => 61 | 334 => 62 | 335 => 63 | 336 => 64 | 344 => 65 | n => n, fun | 31 => 79 | 9 => 9 | 3 => 3 | 46 => 95 | 0 => 0 | 51 => 105 | 53 => 107 | 4 => 4 | 183 => 98 | 182 => 97 | 131 => 35 | 5 => 5 | 218 => 108 | 222 => 112 | 228 => 115 | 229 => 116 | n => n, fun | n => n⟩
theorem Try.lays190 : Go.Proofs.Lays.n190 Try.prog Try.lays190_ren := {
  mixed := by kernel_rfl
  f125 := Try.func47.trans (congrArg some (by kernel_rfl))
  f128 := Try.func57.trans (congrArg some (by kernel_rfl))
  f129 := Try.func58.trans (congrArg some (by kernel_rfl))
  f190 := Try.func43.trans (congrArg some (by kernel_rfl))
  f258 := Try.func46.trans (congrArg some (by kernel_rfl))
  f302 := Try.func48.trans (congrArg some (by kernel_rfl))
  f303 := Try.func49.trans (congrArg some (by kernel_rfl))
  f304 := Try.func50.trans (congrArg some (by kernel_rfl))
  f305 := Try.func51.trans (congrArg some (by kernel_rfl))
  f306 := Try.func52.trans (congrArg some (by kernel_rfl))
  f307 := Try.func53.trans (congrArg some (by kernel_rfl))
  f308 := Try.func54.trans (congrArg some (by kernel_rfl))
  f309 := Try.func55.trans (congrArg some (by kernel_rfl))
  f310 := Try.func56.trans (congrArg some (by kernel_rfl))
  f329 := Try.func60.trans (congrArg some (by kernel_rfl))
  f330 := Try.func61.trans (congrArg some (by kernel_rfl))
  f333 := Try.func59.trans (congrArg some (by kernel_rfl))
  f334 := Try.func62.trans (congrArg some (by kernel_rfl))
  f335 := Try.func63.trans (congrArg some (by kernel_rfl))
  f336 := Try.func64.trans (congrArg some (by kernel_rfl))
  f344 := Try.func65.trans (congrArg some (by kernel_rfl))
  t0 := Try.underlying0
  a0 := Try.isAgg0
  z0 := Try.sizeOf0
  v0 := Try.zeroValue0
  t3 := Try.underlying3
  a3 := Try.isAgg3
  z3 := Try.sizeOf3
  v3 := Try.zeroValue3
  t4 := Try.underlying4
  a4 := Try.isAgg4
  z4 := Try.sizeOf4
  v4 := Try.zeroValue4
  t5 := Try.underlying5
  a5 := Try.isAgg5
  z5 := Try.sizeOf5
  v5 := Try.zeroValue5
  t9 := Try.underlying9
  a9 := Try.isAgg9
  z9 := Try.sizeOf9
  v9 := Try.zeroValue9
  t31 := Try.underlying79
  a31 := Try.isAgg79
  z31 := Try.sizeOf79
  v31 := Try.zeroValue79
  t46 := Try.underlying95
  a46 := Try.isAgg95
  z46 := Try.sizeOf95
  v46 := Try.zeroValue95
  t51 := Try.underlying105
  a51 := Try.isAgg105
  z51 := Try.sizeOf105
  v51 := Try.zeroValue105
  t53 := Try.underlying107
  a53 := Try.isAgg107
  z53 := Try.sizeOf107
  v53 := Try.zeroValue107
  t131 := Try.underlying35
  a131 := Try.isAgg35
  z131 := Try.sizeOf35
  v131 := Try.zeroValue35
  t182 := Try.underlying97
  a182 := Try.isAgg97
  z182 := Try.sizeOf97
  v182 := Try.zeroValue97
  t183 := Try.underlying98
  a183 := Try.isAgg98
  z183 := Try.sizeOf98
  v183 := Try.zeroValue98
  t218 := Try.underlying108
  a218 := Try.isAgg108
  z218 := Try.sizeOf108
  v218 := Try.zeroValue108
  t222 := Try.underlying112
  a222 := Try.isAgg112
  z222 := Try.sizeOf112
  v222 := Try.zeroValue112
  t228 := Try.underlying115
  a228 := Try.isAgg115
  z228 := Try.sizeOf115
  v228 := Try.zeroValue115
  t229 := Try.underlying116
  a229 := Try.isAgg116
  z229 := Try.sizeOf116
  v229 := Try.zeroValue116 }
theorem Try.slices_Sort_string (blk off cap : Nat) (ss : List (List UInt8)) (w : World) (hH : Holds encStr w blk off ss.toArray) (hblk : blk < w.heap.size) (hsz : ss.length < 4611686018427387904) :
    Calls Try.prog 43 #[.slice (some ⟨blk, off, none⟩) ss.length cap] w fun e w' =>
      e = .returned (.tuple #[]) ∧ ∃ n os, w' = grow (putRow encStr (Sort.ahead w n) blk off (ss.mergeSort fun x y => decide (x ≤ y)).toArray) os := Any.slices_Sort_string Try.lays190 blk off cap ss w hH hblk hsz
theorem Try.slices_Sort_string_none (p : Option Addr) (cap : Nat) (w : World) :
    Calls Try.prog 43 #[.slice p 0 cap] w fun e w' => e = .returned (.tuple #[]) ∧ w' = w := Any.slices_Sort_string_none Try.lays190 p cap w
end Go.Proofs
namespace Go.Proofs.Ytphgbfemigcalaa.Ax
open Go.RowKit Go By Go.Sort
set_option linter.unusedSimpArgs false
set_option linter.unusedVariables false

/-- A row is put, blocks are made: nothing else turns. -/
theorem turned_row {α : Type} [Inhabited α] (enc : α → Value) (w : World) (b o n : Nat) (d0 d : Array α) (os : Array Obj) (hb : b < w.heap.size) (h0 : Holds enc w b o d0) (hs : d.size = d0.size) (hpos : 0 < d.size) :
    Turned w (grow (putRow enc (Sort.ahead w n) b o d) os) (some ⟨b, o, none⟩) (d.toList.map enc) := by
  obtain ⟨c, e, fr, hc, _⟩ := cells_of_cell? (h0 0 (by omega)).1
  have hsz : (putRow enc (Sort.ahead w n) b o d).heap.size = w.heap.size := by rw [size_putRow]; rfl
  have hother : ∀ k, k < w.heap.size → k ≠ b → (grow (putRow enc (Sort.ahead w n) b o d) os).heap[k]? = w.heap[k]? := fun k hk hne => by
    rw [heap_grow_old _ _ (by rw [hsz]; exact hk)]
    show (w.heap.modify b _)[k]? = _
    rw [Array.getElem?_modify, if_neg (fun e => hne e.symm)]
  have hcell : ∀ j, (grow (putRow enc (Sort.ahead w n) b o d) os).cell? ⟨b, j, none⟩ = (putCells enc o d c)[j]? := fun j => by
    rw [cell?_grow _ _ _ (by rw [hsz]; exact hb)]
    exact cell?_mapBlock (Sort.ahead w n) b j (putCells enc o d) hc
  have hwc : ∀ j, w.cell? ⟨b, j, none⟩ = c[j]? := fun j => cell_of_row w b j c e fr hc
  refine ⟨⟨by rw [size_grow, hsz]; omega, fun k o' hk ho => ?_⟩, rfl, rfl, rfl, fun k hk hne => hother k hk (hne b o rfl), fun b' o' e j => ?_⟩
  · have hkb : k ≠ b := fun e => by subst e; rw [hc] at hk; injection hk with hk; subst hk; cases ho
    rw [hother k (Array.getElem?_eq_some_iff.1 hk).1 hkb]; exact hk
  · injection e with e
    injection e with e1 e2
    subst e1 e2
    refine ⟨?_, ?_⟩
    · rw [frozen?_grow _ _ _ (by rw [hsz]; exact hb), frozen?_putRow]; rfl
    · rw [hcell j, hwc j, List.length_map, Array.length_toList]
      unfold putCells
      rw [Array.getElem?_mapIdx]
      split
      · rename_i hin
        have hj := (h0 (j - o) (by omega)).1
        rw [show o + (j - o) = j by omega, hwc j] at hj
        rw [hj]
        have hlt : j - o < d.size := by omega
        simp [hin, hlt]
      · rename_i hin
        cases hx : c[j]? with
        | none => rfl
        | some x =>
          simp only [Option.map_some, if_neg hin]
theorem turned_none (w : World) (a : Option Addr) : Turned w w a [] := ⟨KeepsOthers.refl w, rfl, rfl, rfl, fun _ _ _ => rfl, fun b o _ j => ⟨rfl, by rw [if_neg (by simp)]⟩⟩
def ints64 (l : List Int) : List Value := l.map (Value.int .i64)
def sortI (l : List Int) : List Int := l.mergeSort fun x y => decide (x ≤ y)
end Go.Proofs.Ytphgbfemigcalaa.Ax
