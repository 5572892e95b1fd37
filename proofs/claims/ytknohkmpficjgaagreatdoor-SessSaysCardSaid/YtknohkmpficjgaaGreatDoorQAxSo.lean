import Derived.Shelf.GgClosure.StringsIndexFunc
import Derived.Shelf.Sort.Plain
import Derived.Shelf.Slices.In.SortNone
import Derived.Shelf.Strconv.Clone
import Derived.Test.YtknohkmpficjgaaGreatDoorQAxIp
set_option linter.unusedSimpArgs false
set_option linter.unusedVariables false
namespace Go.Sort
end Go.Sort
namespace Go.Proofs
open Go.Shelf Go.RowKit Go.Lib Go.Sort
def Tryz.lays190_ren : Go.Shelf.Ren := ⟨fun | 190 => 27 | 125 => 52 | 258 => 51 | 128 => 107 | 129 => 108 | 302 => 98 | 303 => 99 | 304 => 100 | 305 => 101 | 306 => 102 | 307 => 103 | 308 => 104 | 309 => 105 | 310 => 106 | 333 => 159 | 329 => 160 | 330 => 161 | 334 => 162 | 335 => 163 | 336 => 164 | 344 => 202 | n => n, fun | 31 => 35 | 9 => 9 | 3 => 3 | 46 => 97 | 0 => 0 | 51 => 172 | 53 => 174 | 4 => 4 | 183 => 164 | 182 => 163 | 131 => 169 | 5 => 5 | 218 => 225 | 222 => 229 | 228 => 256 | 229 => 257 | n => n, fun | n => n⟩
theorem Tryz.lays190 : Go.Proofs.Lays.n190 Tryz.prog Tryz.lays190_ren := {
 mixed := by kernel_rfl
 f125 := Tryz.func52.trans (congrArg some (by kernel_rfl))
 f128 := Tryz.func107.trans (congrArg some (by kernel_rfl))
 f129 := Tryz.func108.trans (congrArg some (by kernel_rfl))
 f190 := Tryz.func27.trans (congrArg some (by kernel_rfl))
 f258 := Tryz.func51.trans (congrArg some (by kernel_rfl))
 f302 := Tryz.func98.trans (congrArg some (by kernel_rfl))
 f303 := Tryz.func99.trans (congrArg some (by kernel_rfl))
 f304 := Tryz.func100.trans (congrArg some (by kernel_rfl))
 f305 := Tryz.func101.trans (congrArg some (by kernel_rfl))
 f306 := Tryz.func102.trans (congrArg some (by kernel_rfl))
 f307 := Tryz.func103.trans (congrArg some (by kernel_rfl))
 f308 := Tryz.func104.trans (congrArg some (by kernel_rfl))
 f309 := Tryz.func105.trans (congrArg some (by kernel_rfl))
 f310 := Tryz.func106.trans (congrArg some (by kernel_rfl))
 f329 := Tryz.func160.trans (congrArg some (by kernel_rfl))
 f330 := Tryz.func161.trans (congrArg some (by kernel_rfl))
 f333 := Tryz.func159.trans (congrArg some (by kernel_rfl))
 f334 := Tryz.func162.trans (congrArg some (by kernel_rfl))
 f335 := Tryz.func163.trans (congrArg some (by kernel_rfl))
 f336 := Tryz.func164.trans (congrArg some (by kernel_rfl))
 f344 := Tryz.func202.trans (congrArg some (by kernel_rfl))
 t0 := Tryz.underlying0
 a0 := Tryz.isAgg0
 z0 := Tryz.sizeOf0
 v0 := Tryz.zeroValue0
 t3 := Tryz.underlying3
 a3 := Tryz.isAgg3
 z3 := Tryz.sizeOf3
 v3 := Tryz.zeroValue3
 t4 := Tryz.underlying4
 a4 := Tryz.isAgg4
 z4 := Tryz.sizeOf4
 v4 := Tryz.zeroValue4
 t5 := Tryz.underlying5
 a5 := Tryz.isAgg5
 z5 := Tryz.sizeOf5
 v5 := Tryz.zeroValue5
 t9 := Tryz.underlying9
 a9 := Tryz.isAgg9
 z9 := Tryz.sizeOf9
 v9 := Tryz.zeroValue9
 t31 := Tryz.underlying35
 a31 := Tryz.isAgg35
 z31 := Tryz.sizeOf35
 v31 := Tryz.zeroValue35
 t46 := Tryz.underlying97
 a46 := Tryz.isAgg97
 z46 := Tryz.sizeOf97
 v46 := Tryz.zeroValue97
 t51 := Tryz.underlying172
 a51 := Tryz.isAgg172
 z51 := Tryz.sizeOf172
 v51 := Tryz.zeroValue172
 t53 := Tryz.underlying174
 a53 := Tryz.isAgg174
 z53 := Tryz.sizeOf174
 v53 := Tryz.zeroValue174
 t131 := Tryz.underlying169
 a131 := Tryz.isAgg169
 z131 := Tryz.sizeOf169
 v131 := Tryz.zeroValue169
 t182 := Tryz.underlying163
 a182 := Tryz.isAgg163
 z182 := Tryz.sizeOf163
 v182 := Tryz.zeroValue163
 t183 := Tryz.underlying164
 a183 := Tryz.isAgg164
 z183 := Tryz.sizeOf164
 v183 := Tryz.zeroValue164
 t218 := Tryz.underlying225
 a218 := Tryz.isAgg225
 z218 := Tryz.sizeOf225
 v218 := Tryz.zeroValue225
 t222 := Tryz.underlying229
 a222 := Tryz.isAgg229
 z222 := Tryz.sizeOf229
 v222 := Tryz.zeroValue229
 t228 := Tryz.underlying256
 a228 := Tryz.isAgg256
 z228 := Tryz.sizeOf256
 v228 := Tryz.zeroValue256
 t229 := Tryz.underlying257
 a229 := Tryz.isAgg257
 z229 := Tryz.sizeOf257
 v229 := Tryz.zeroValue257 }
theorem Tryz.slices_Sort_string (blk off cap : Nat) (ss : List (List UInt8)) (w : World) (hH : Holds encStr w blk off ss.toArray) (hblk : blk < w.heap.size) (hsz : ss.length < 4611686018427387904) :
  Calls Tryz.prog 27 #[.slice (some ⟨blk, off, none⟩) ss.length cap] w fun e w' =>
   e = .returned (.tuple #[]) /\ ∃ n os, w' = grow (putRow encStr (Sort.ahead w n) blk off (ss.mergeSort fun x y => decide (x <= y)).toArray) os := Any.slices_Sort_string Tryz.lays190 blk off cap ss w hH hblk hsz
def Tryz.lays315_ren : Go.Shelf.Ren := ⟨fun | 315 => 220 | n => n, fun | 9 => 9 | 40 => 247 | 4 => 4 | 3 => 3 | 0 => 0 | 21 => 21 | n => n, fun | n => n⟩
theorem Tryz.lays315 : Go.Proofs.Lays.n315 Tryz.prog Tryz.lays315_ren := {
 mixed := by kernel_rfl
 f315 := Tryz.func220.trans (congrArg some (by kernel_rfl))
 t0 := Tryz.underlying0
 a0 := Tryz.isAgg0
 z0 := Tryz.sizeOf0
 v0 := Tryz.zeroValue0
 t3 := Tryz.underlying3
 a3 := Tryz.isAgg3
 z3 := Tryz.sizeOf3
 v3 := Tryz.zeroValue3
 t4 := Tryz.underlying4
 a4 := Tryz.isAgg4
 z4 := Tryz.sizeOf4
 v4 := Tryz.zeroValue4
 t9 := Tryz.underlying9
 a9 := Tryz.isAgg9
 z9 := Tryz.sizeOf9
 v9 := Tryz.zeroValue9
 t21 := Tryz.underlying21
 a21 := Tryz.isAgg21
 z21 := Tryz.sizeOf21
 v21 := Tryz.zeroValue21
 t40 := Tryz.underlying247
 a40 := Tryz.isAgg247
 z40 := Tryz.sizeOf247
 v40 := Tryz.zeroValue247 }
theorem Tryz.strings_indexFunc (g : Nat) (lb : Array Value) (eg : ∀ args w, (callFunc g args).run Tryz.prog w = .ok (.enter g args) w) (p : Nat -> Bool) (truth : Bool) (s : ByteArray) (w : World) (hp : PredAt Tryz.prog g lb encR p w) :
  Calls Tryz.prog 220 #[.string s, .func (.func g) #[] lb, .bool truth] w fun e w' => e = .returned (.int .i64 (Lib.idxFunc p truth s)) /\ Below w.heap.size w w' := Any.strings_indexFunc Tryz.lays315 g lb eg p truth s w hp
theorem Tryz.slices_Sort_string_none (p : Option Addr) (cap : Nat) (w : World) :
  Calls Tryz.prog 27 #[.slice p 0 cap] w fun e w' => e = .returned (.tuple #[]) /\ w' = w := Any.slices_Sort_string_none Tryz.lays190 p cap w
end Go.Proofs
namespace Go.Proofs.YtknohkmpficjgaaGreatDoor.Ax
open Go.RowKit Go By Go.Sort
theorem wL {α : Type} [Inhabited α] (al : α -> Value) (w : World) (b o n : Nat) (d0 d : Array α) (os : Array Obj) (hb : b < w.heap.size) (h0 : Holds al w b o d0) (hs : d.size = d0.size) (hpos : 0 < d.size) :
  Turned w (grow (putRow al (Sort.ahead w n) b o d) os) (some ⟨b, o, none⟩) (d.toList.map al) := by
 obtain ⟨c, e, fr, hc, _⟩ := cells_of_cell? (h0 0 (by omega)).1
 have hsz : (putRow al (Sort.ahead w n) b o d).heap.size = w.heap.size := by rw [size_putRow]; rfl
 have hother : ∀ k, k < w.heap.size -> k ≠ b -> (grow (putRow al (Sort.ahead w n) b o d) os).heap[k]? = w.heap[k]? := fun k hk hne => by
  rw [heap_grow_old _ _ (by rw [hsz]; exact hk)]
  show (w.heap.modify b _)[k]? = _
  rw [Array.getElem?_modify, if_neg (fun e => hne e.symm)]
 have hcell : ∀ j, (grow (putRow al (Sort.ahead w n) b o d) os).cell? ⟨b, j, none⟩ = (putCells al o d c)[j]? := fun j => by
  rw [cell?_grow _ _ _ (by rw [hsz]; exact hb)]
  exact cell?_mapBlock (Sort.ahead w n) b j (putCells al o d) hc
 have hwc : ∀ j, w.cell? ⟨b, j, none⟩ = c[j]? := fun j => cell_of_row w b j c e fr hc
 refine ⟨⟨by rw [size_grow, hsz]; omega, fun k o' hk ho => ?_⟩, rfl, rfl, rfl, fun k hk hne => hother k hk (hne b o rfl), fun b' o' e j => ?_⟩
 ·have hkb : k ≠ b := fun e => by subst e; rw [hc] at hk; injection hk with hk; subst hk; cases ho
  rw [hother k (Array.getElem?_eq_some_iff.1 hk).1 hkb]; exact hk
 ·injection e with e
  injection e with e1 e2
  subst e1 e2
  refine ⟨?_, ?_⟩
  ·rw [frozen?_grow _ _ _ (by rw [hsz]; exact hb), frozen?_putRow]; rfl
  ·rw [hcell j, hwc j, List.length_map, Array.length_toList]
   unfold putCells
   rw [Array.getElem?_mapIdx]
   split
   ·rename_i hin
    have hj := (h0 (j - o) (by omega)).1
    rw [show o + (j - o) = j by omega, hwc j] at hj
    rw [hj]
    have hlt : j - o < d.size := by omega
    simp [hin, hlt]
   ·rename_i hin
    cases hx : c[j]? with
    | none => rfl
    | some x =>
     simp only [Option.map_some, if_neg hin]
theorem uG (w : World) (a : Option Addr) : Turned w w a [] := ⟨KeepsOthers.refl w, rfl, rfl, rfl, fun _ _ _ => rfl, fun b o _ j => ⟨rfl, by rw [if_neg (by simp)]⟩⟩
end Go.Proofs.YtknohkmpficjgaaGreatDoor.Ax
