/- slices.Sort of numbers, in place, by the kit's contract. -/
import Derived.Shelf.Sort.Plain
import Derived.Shelf.Slices.In.SortNone
import Derived.Shelf.Strconv.Clone
import Derived.Test.YtmdapcmdlblnnaaProg
import Derived.Test.YtmdapcmdlblnnaaQAxIp
/- Contracts of Go's library, laid at this program by the kit's shelf (plain words): slices_Sort_string, slices_Sort_string_none. -/
namespace Go.Sort
end Go.Sort
namespace Go.Proofs
open Go.Shelf Go.RowKit Go.Lib Go.Sort
def Try.lays190_ren : Go.Shelf.Ren := ⟨fun | 190 => 32 | 125 => 39 | 258 => 38 | 128 => 51 | 129 => 52 | 302 => 42 | 303 => 43 | 304 => 44 | 305 => 45 | 306 => 46 | 307 => 47 | 308 => 48 | 309 => 49 | 310 => 50 | 333 => 53 | 329 => 54 | 330 => 55 | 334 => 56 | 335 => 57 | 336 => 58 | 344 => 59 | n => n, fun | 31 => 54 | 9 => 9 | 3 => 3 | 46 => 83 | 0 => 0 | 51 => 96 | 53 => 98 | 4 => 4 | 183 => 88 | 182 => 87 | 131 => 93 | 5 => 5 | 218 => 99 | 222 => 103 | 228 => 105 | 229 => 106 | n => n, fun | n => n⟩
theorem Try.lays190 : Go.Proofs.Lays.n190 Try.prog Try.lays190_ren := {
  mixed := by kernel_rfl
  f125 := Try.func39.trans (congrArg some (by kernel_rfl))
  f128 := Try.func51.trans (congrArg some (by kernel_rfl))
  f129 := Try.func52.trans (congrArg some (by kernel_rfl))
  f190 := Try.func32.trans (congrArg some (by kernel_rfl))
  f258 := Try.func38.trans (congrArg some (by kernel_rfl))
  f302 := Try.func42.trans (congrArg some (by kernel_rfl))
  f303 := Try.func43.trans (congrArg some (by kernel_rfl))
  f304 := Try.func44.trans (congrArg some (by kernel_rfl))
  f305 := Try.func45.trans (congrArg some (by kernel_rfl))
  f306 := Try.func46.trans (congrArg some (by kernel_rfl))
  f307 := Try.func47.trans (congrArg some (by kernel_rfl))
  f308 := Try.func48.trans (congrArg some (by kernel_rfl))
  f309 := Try.func49.trans (congrArg some (by kernel_rfl))
  f310 := Try.func50.trans (congrArg some (by kernel_rfl))
  f329 := Try.func54.trans (congrArg some (by kernel_rfl))
  f330 := Try.func55.trans (congrArg some (by kernel_rfl))
  f333 := Try.func53.trans (congrArg some (by kernel_rfl))
  f334 := Try.func56.trans (congrArg some (by kernel_rfl))
  f335 := Try.func57.trans (congrArg some (by kernel_rfl))
  f336 := Try.func58.trans (congrArg some (by kernel_rfl))
  f344 := Try.func59.trans (congrArg some (by kernel_rfl))
  t0 := Try.underlying0
  a0 := Try.isAgg0
  z0 := Try.sizeOf0
  v0 := Try.zeroValue0
  t3 := Try.underlying3
  a3 := Try.isAgg3
  z3 := Try.sizeOf3
  v3 := Try.zeroValue3
  t4 := Try.underlying4
  a4 := Try.isAgg4
  z4 := Try.sizeOf4
  v4 := Try.zeroValue4
  t5 := Try.underlying5
  a5 := Try.isAgg5
  z5 := Try.sizeOf5
  v5 := Try.zeroValue5
  t9 := Try.underlying9
  a9 := Try.isAgg9
  z9 := Try.sizeOf9
  v9 := Try.zeroValue9
  t31 := Try.underlying54
  a31 := Try.isAgg54
  z31 := Try.sizeOf54
  v31 := Try.zeroValue54
  t46 := Try.underlying83
  a46 := Try.isAgg83
  z46 := Try.sizeOf83
  v46 := Try.zeroValue83
  t51 := Try.underlying96
  a51 := Try.isAgg96
  z51 := Try.sizeOf96
  v51 := Try.zeroValue96
  t53 := Try.underlying98
  a53 := Try.isAgg98
  z53 := Try.sizeOf98
  v53 := Try.zeroValue98
  t131 := Try.underlying93
  a131 := Try.isAgg93
  z131 := Try.sizeOf93
  v131 := Try.zeroValue93
  t182 := Try.underlying87
  a182 := Try.isAgg87
  z182 := Try.sizeOf87
  v182 := Try.zeroValue87
  t183 := Try.underlying88
  a183 := Try.isAgg88
  z183 := Try.sizeOf88
  v183 := Try.zeroValue88
  t218 := Try.underlying99
  a218 := Try.isAgg99
  z218 := Try.sizeOf99
  v218 := Try.zeroValue99
  t222 := Try.underlying103
  a222 := Try.isAgg103
  z222 := Try.sizeOf103
  v222 := Try.zeroValue103
  t228 := Try.underlying105
  a228 := Try.isAgg105
  z228 := Try.sizeOf105
  v228 := Try.zeroValue105
  t229 := Try.underlying106
  a229 := Try.isAgg106
  z229 := Try.sizeOf106
  v229 := Try.zeroValue106 }
theorem Try.slices_Sort_string (blk off cap : Nat) (ss : List (List UInt8)) (w : World) (hH : Holds encStr w blk off ss.toArray) (hblk : blk < w.heap.size) (hsz : ss.length < 4611686018427387904) :
    Calls Try.prog 32 #[.slice (some ⟨blk, off, none⟩) ss.length cap] w fun e w' =>
      e = .returned (.tuple #[]) ∧ ∃ n os, w' = grow (putRow encStr (Sort.ahead w n) blk off (ss.mergeSort fun x y => decide (x ≤ y)).toArray) os := Any.slices_Sort_string Try.lays190 blk off cap ss w hH hblk hsz
theorem Try.slices_Sort_string_none (p : Option Addr) (cap : Nat) (w : World) :
    Calls Try.prog 32 #[.slice p 0 cap] w fun e w' => e = .returned (.tuple #[]) ∧ w' = w := Any.slices_Sort_string_none Try.lays190 p cap w
end Go.Proofs
namespace Go.Proofs.Ytmdapcmdlblnnaa.Ax
open Go.RowKit Go By Go.Sort
set_option linter.unusedSimpArgs false
set_option linter.unusedVariables false

/-- A row is put, blocks are made: nothing else turns. -/
theorem turned_row {α : Type} [Inhabited α] (enc : α → Value) (w : World) (b o n : Nat) (d0 d : Array α) (os : Array Obj) (hb : b < w.heap.size) (h0 : Holds enc w b o d0) (hs : d.size = d0.size) (hpos : 0 < d.size) :
    Turned w (grow (putRow enc (Sort.ahead w n) b o d) os) (some ⟨b, o, none⟩) (d.toList.map enc) := by
  obtain ⟨c, e, fr, hc, _⟩ := cells_of_cell? (h0 0 (by omega)).1
  have hsz : (putRow enc (Sort.ahead w n) b o d).heap.size = w.heap.size := by rw [size_putRow]; rfl
  have hother : ∀ k, k < w.heap.size → k ≠ b → (grow (putRow enc (Sort.ahead w n) b o d) os).heap[k]? = w.heap[k]? := fun k hk hne => by
    rw [heap_grow_old _ _ (by rw [hsz]; exact hk)]
    show (w.heap.modify b _)[k]? = _
    rw [Array.getElem?_modify, if_neg (fun e => hne e.symm)]
  have hcell : ∀ j, (grow (putRow enc (Sort.ahead w n) b o d) os).cell? ⟨b, j, none⟩ = (putCells enc o d c)[j]? := fun j => by
    rw [cell?_grow _ _ _ (by rw [hsz]; exact hb)]
    exact cell?_mapBlock (Sort.ahead w n) b j (putCells enc o d) hc
  have hwc : ∀ j, w.cell? ⟨b, j, none⟩ = c[j]? := fun j => cell_of_row w b j c e fr hc
  refine ⟨⟨by rw [size_grow, hsz]; omega, fun k o' hk ho => ?_⟩, rfl, rfl, rfl, fun k hk hne => hother k hk (hne b o rfl), fun b' o' e j => ?_⟩
  · have hkb : k ≠ b := fun e => by subst e; rw [hc] at hk; injection hk with hk; subst hk; cases ho
    rw [hother k (Array.getElem?_eq_some_iff.1 hk).1 hkb]; exact hk
  · injection e with e
    injection e with e1 e2
    subst e1 e2
    refine ⟨?_, ?_⟩
    · rw [frozen?_grow _ _ _ (by rw [hsz]; exact hb), frozen?_putRow]; rfl
    · rw [hcell j, hwc j, List.length_map, Array.length_toList]
      unfold putCells
      rw [Array.getElem?_mapIdx]
      split
      · rename_i hin
        have hj := (h0 (j - o) (by omega)).1
        rw [show o + (j - o) = j by omega, hwc j] at hj
        rw [hj]
        have hlt : j - o < d.size := by omega
        simp [hin, hlt]
      · rename_i hin
        cases hx : c[j]? with
        | none => rfl
        | some x =>
          simp only [Option.map_some, if_neg hin]
theorem turned_none (w : World) (a : Option Addr) : Turned w w a [] := ⟨KeepsOthers.refl w, rfl, rfl, rfl, fun _ _ _ => rfl, fun b o _ j => ⟨rfl, by rw [if_neg (by simp)]⟩⟩
end Go.Proofs.Ytmdapcmdlblnnaa.Ax
