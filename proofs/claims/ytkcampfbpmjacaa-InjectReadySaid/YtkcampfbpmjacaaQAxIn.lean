/- Lists of numbers in variables, over values without memory: what Go's library makes of them, by the kit's contracts. -/
import Derived.Shelf.Sort.Plain
import Derived.Shelf.Slices.In.SortNone
import Derived.Shelf.Slices.Turned
import Derived.Shelf.Slices.Clone
import Derived.Shelf.Slices.CompactI
import Derived.Test.YtkcampfbpmjacaaProg
import Derived.Test.YtkcampfbpmjacaaQAxIp
/- Contracts of Go's library, laid at this program by the kit's shelf (plain words): slices_Index_int, slices_Index_int_empty, slices_Contains_int, slices_Contains_int_empty, slices_Clone_int, slices_Clone_int_nil, slices_Clone_int_zero. -/
namespace Go.Proofs
open Go.Shelf Go.RowKit Go.Lib Go.Sort
def Try.lays108_ren : Go.Shelf.Ren := ⟨fun | 108 => 43 | n => n, fun | 28 => 22 | 3 => 3 | 0 => 0 | 4 => 4 | n => n, fun | n => n⟩
theorem Try.lays108 : Go.Proofs.Lays.n108 Try.prog Try.lays108_ren := {
  mixed := by kernel_rfl
  f108 := Try.func43.trans (congrArg some (by kernel_rfl))
  t0 := Try.underlying0
  a0 := Try.isAgg0
  z0 := Try.sizeOf0
  v0 := Try.zeroValue0
  t3 := Try.underlying3
  a3 := Try.isAgg3
  z3 := Try.sizeOf3
  v3 := Try.zeroValue3
  t4 := Try.underlying4
  a4 := Try.isAgg4
  z4 := Try.sizeOf4
  v4 := Try.zeroValue4
  t28 := Try.underlying22
  a28 := Try.isAgg22
  z28 := Try.sizeOf22
  v28 := Try.zeroValue22 }
theorem Try.slices_Index_int (b off n c : Nat) (zs : List Int) (x : Int) (w : World) (hz : n ≤ zs.length) (hbig : n ≤ 9223372036854775807) (hc : ∀ j, j < zs.length → w.cell? ⟨b, off + j, none⟩ = some (.int .i64 (zs.getD j 0))) :
    Calls Try.prog 43 #[.slice (some ⟨b, off, none⟩) n c, .int .i64 x] w fun e w' => e = .returned (.int .i64 (Lib.idxOf (zs.take n) x)) ∧ w' = w := Any.slices_Index_int Try.lays108 b off n c zs x w hz hbig hc
theorem Try.slices_Index_int_empty (a : Option Addr) (c : Nat) (x : Int) (w : World) :
    Calls Try.prog 43 #[.slice a 0 c, .int .i64 x] w fun e w' => e = .returned (.int .i64 (Lib.idxOf [] x)) ∧ w' = w := Any.slices_Index_int_empty Try.lays108 a c x w
def Try.lays107_ren : Go.Shelf.Ren := ⟨fun | 107 => 19 | 108 => 43 | n => n, fun | 28 => 22 | 3 => 3 | 4 => 4 | 0 => 0 | n => n, fun | n => n⟩
theorem Try.lays107 : Go.Proofs.Lays.n107 Try.prog Try.lays107_ren := {
  mixed := by kernel_rfl
  f107 := Try.func19.trans (congrArg some (by kernel_rfl))
  f108 := Try.func43.trans (congrArg some (by kernel_rfl))
  t0 := Try.underlying0
  a0 := Try.isAgg0
  z0 := Try.sizeOf0
  v0 := Try.zeroValue0
  t3 := Try.underlying3
  a3 := Try.isAgg3
  z3 := Try.sizeOf3
  v3 := Try.zeroValue3
  t4 := Try.underlying4
  a4 := Try.isAgg4
  z4 := Try.sizeOf4
  v4 := Try.zeroValue4
  t28 := Try.underlying22
  a28 := Try.isAgg22
  z28 := Try.sizeOf22
  v28 := Try.zeroValue22 }
theorem Try.slices_Contains_int (b off n c : Nat) (zs : List Int) (x : Int) (w : World) (hz : n ≤ zs.length) (hbig : n ≤ 9223372036854775807) (hc : ∀ j, j < zs.length → w.cell? ⟨b, off + j, none⟩ = some (.int .i64 (zs.getD j 0))) :
    Calls Try.prog 19 #[.slice (some ⟨b, off, none⟩) n c, .int .i64 x] w fun e w' => e = .returned (.bool ((zs.take n).contains x)) ∧ w' = w := Any.slices_Contains_int Try.lays107 b off n c zs x w hz hbig hc
theorem Try.slices_Contains_int_empty (a : Option Addr) (c : Nat) (x : Int) (w : World) :
    Calls Try.prog 19 #[.slice a 0 c, .int .i64 x] w fun e w' => e = .returned (.bool false) ∧ w' = w := Any.slices_Contains_int_empty Try.lays107 a c x w
def Try.laysNm215_ren : Go.Shelf.Ren := ⟨fun | 15 => 40 | n => n, fun | 22 => 22 | 3 => 3 | 4 => 4 | n => n, fun | n => n⟩
theorem Try.laysNm215 : Go.Proofs.Lays2.n15 Try.prog Try.laysNm215_ren := {
  mixed := by kernel_rfl
  f15 := Try.func40.trans (congrArg some (by kernel_rfl))
  t3 := Try.underlying3
  a3 := Try.isAgg3
  z3 := Try.sizeOf3
  v3 := Try.zeroValue3
  t4 := Try.underlying4
  a4 := Try.isAgg4
  z4 := Try.sizeOf4
  v4 := Try.zeroValue4
  t22 := Try.underlying22
  a22 := Try.isAgg22
  z22 := Try.sizeOf22
  v22 := Try.zeroValue22
  i3 := by kernel_rfl }
theorem Try.slices_Clone_int (b off n c : Nat) (zs : List Int) (w : World) (hz : n ≤ zs.length) (hbig : n * 8 ≤ 140737488355328) (hc : ∀ j, j < zs.length → w.cell? ⟨b, off + j, none⟩ = some (.int .i64 (zs.getD j 0))) :
    Calls Try.prog 40 #[.slice (some ⟨b, off, none⟩) n c] w fun e w' => ∃ v', e = .returned v' ∧ w'.ownsRow w.heap.size 3 1 v' n ((zs.take n).map (Value.int .i64)) ∧ v' ≠ .slice none 0 0 ∧ Below w.heap.size w w' := Any.slices_Clone_int Try.laysNm215 b off n c zs w hz hbig hc
theorem Try.slices_Clone_int_nil (n c : Nat) (w : World) :
    Calls Try.prog 40 #[.slice none n c] w fun e w' => e = .returned (.slice none 0 0) ∧ w' = w := Any.slices_Clone_int_nil Try.laysNm215 n c w
theorem Try.slices_Clone_int_zero (a : Addr) (c : Nat) (w : World) :
    Calls Try.prog 40 #[.slice (some a) 0 c] w fun e w' => ∃ v', e = .returned v' ∧ w'.ownsRow w.heap.size 3 1 v' 0 [] ∧ v' ≠ .slice none 0 0 ∧ Below w.heap.size w w' := Any.slices_Clone_int_zero Try.laysNm215 a c w
end Go.Proofs
/- slices.Sort of numbers, in place, by the kit's contract. -/
namespace Go.Proofs.Ytkcampfbpmjacaa.Ax
open Go.RowKit Go By Go.Sort
set_option linter.unusedSimpArgs false
set_option linter.unusedVariables false

/-- A row is put, blocks are made: nothing else turns. -/
theorem turned_row {α : Type} [Inhabited α] (enc : α → Value) (w : World) (b o n : Nat) (d0 d : Array α) (os : Array Obj) (hb : b < w.heap.size) (h0 : Holds enc w b o d0) (hs : d.size = d0.size) (hpos : 0 < d.size) :
    Turned w (grow (putRow enc (Sort.ahead w n) b o d) os) (some ⟨b, o, none⟩) (d.toList.map enc) := by
  obtain ⟨c, e, fr, hc, _⟩ := cells_of_cell? (h0 0 (by omega)).1
  have hsz : (putRow enc (Sort.ahead w n) b o d).heap.size = w.heap.size := by rw [size_putRow]; rfl
  have hother : ∀ k, k < w.heap.size → k ≠ b → (grow (putRow enc (Sort.ahead w n) b o d) os).heap[k]? = w.heap[k]? := fun k hk hne => by
    rw [heap_grow_old _ _ (by rw [hsz]; exact hk)]
    show (w.heap.modify b _)[k]? = _
    rw [Array.getElem?_modify, if_neg (fun e => hne e.symm)]
  have hcell : ∀ j, (grow (putRow enc (Sort.ahead w n) b o d) os).cell? ⟨b, j, none⟩ = (putCells enc o d c)[j]? := fun j => by
    rw [cell?_grow _ _ _ (by rw [hsz]; exact hb)]
    exact cell?_mapBlock (Sort.ahead w n) b j (putCells enc o d) hc
  have hwc : ∀ j, w.cell? ⟨b, j, none⟩ = c[j]? := fun j => cell_of_row w b j c e fr hc
  refine ⟨⟨by rw [size_grow, hsz]; omega, fun k o' hk ho => ?_⟩, rfl, rfl, rfl, fun k hk hne => hother k hk (hne b o rfl), fun b' o' e j => ?_⟩
  · have hkb : k ≠ b := fun e => by subst e; rw [hc] at hk; injection hk with hk; subst hk; cases ho
    rw [hother k (Array.getElem?_eq_some_iff.1 hk).1 hkb]; exact hk
  · injection e with e
    injection e with e1 e2
    subst e1 e2
    refine ⟨?_, ?_⟩
    · rw [frozen?_grow _ _ _ (by rw [hsz]; exact hb), frozen?_putRow]; rfl
    · rw [hcell j, hwc j, List.length_map, Array.length_toList]
      unfold putCells
      rw [Array.getElem?_mapIdx]
      split
      · rename_i hin
        have hj := (h0 (j - o) (by omega)).1
        rw [show o + (j - o) = j by omega, hwc j] at hj
        rw [hj]
        have hlt : j - o < d.size := by omega
        simp [hin, hlt]
      · rename_i hin
        cases hx : c[j]? with
        | none => rfl
        | some x =>
          simp only [Option.map_some, if_neg hin]
theorem turned_none (w : World) (a : Option Addr) : Turned w w a [] := ⟨KeepsOthers.refl w, rfl, rfl, rfl, fun _ _ _ => rfl, fun b o _ j => ⟨rfl, by rw [if_neg (by simp)]⟩⟩
def sortI (l : List Int) : List Int := l.mergeSort fun x y => decide (x ≤ y)
end Go.Proofs.Ytkcampfbpmjacaa.Ax
namespace Go.Proofs.Ytkcampfbpmjacaa.Ax
open Go.RowKit Go By Go.Sort
set_option linter.unusedSimpArgs false
set_option linter.unusedVariables false
set_option maxRecDepth 10000

theorem grow_nil (w : World) : grow w #[] = w := by cases w; simp [grow]
theorem ints_holds {G : Ghost} {w : World} {b : Nat} {c : List Int} {blk : Nat} (hB : BAt G w b c blk) (n : Nat) : Holds (Value.int .i64) w blk 0 (c.take n).toArray := fun j hj => by
  have hj' : j < (c.take n).length := by simpa using hj
  have hjc : j < c.length := by rw [List.length_take] at hj'; omega
  have e : (c.take n).toArray[j]! = c[j] := by
    rw [getElem!_pos (c.take n).toArray j hj]; simp [List.getElem_take]
  rw [e, Nat.zero_add]
  exact hB.cell j hjc
theorem getD_at {l : List Int} {j : Nat} (h : j < l.length) : l.getD j 0 = l[j] := by rw [List.getD_eq_getElem?_getD, List.getElem?_eq_getElem h]; rfl
section
variable {h : List (List AV)} {b : Nat} {c : List Int} {n : Nat}
theorem index_b (hb : h[b]? = some (intsA c)) (hn : n ≤ c.length) (x : Int) : Contract Try.prog 43 [.bsl b 0 1 n, .v (.int .i64 x)] h (.v (.int .i64 (Lib.idxOf (c.take n) x))) h [] := by
  refine contract_quietH (by kernel_rfl) rfl fun G w vs hW hS hvs => ?_
  obtain ⟨v0, v1, rfl, h0, h1⟩ := seesL2 hvs
  obtain ⟨blk, cap, rfl, hcap, hmax, hroom, hB⟩ := bAt hW hS hb h0
  have := h1.inv_v; subst this
  exact ⟨_, .v _, Try.slices_Index_int blk 0 n cap c x w hn (by unfold maxLen at hmax; omega) fun j hj => by rw [Nat.zero_add, (hB.cell j hj).1, getD_at hj]⟩
theorem index_e (k : Nat) (nul : Option Bool) (room : Room) (x : Int) : Contract Try.prog 43 [.sl k [] nul room, .v (.int .i64 x)] h (.v (.int .i64 (-1))) h [] := by
  refine contract_quietH (by kernel_rfl) rfl fun G w vs hW hS hvs => ?_
  obtain ⟨v0, v1, rfl, h0, h1⟩ := seesL2 hvs
  obtain ⟨a, cap, rfl, _⟩ := sl_empty h0
  have := h1.inv_v; subst this
  exact ⟨_, .v _, Try.slices_Index_int_empty a cap x w⟩
theorem has_b (hb : h[b]? = some (intsA c)) (hn : n ≤ c.length) (x : Int) : Contract Try.prog 19 [.bsl b 0 1 n, .v (.int .i64 x)] h (.v (.bool ((c.take n).contains x))) h [] := by
  refine contract_quietH (by kernel_rfl) rfl fun G w vs hW hS hvs => ?_
  obtain ⟨v0, v1, rfl, h0, h1⟩ := seesL2 hvs
  obtain ⟨blk, cap, rfl, hcap, hmax, hroom, hB⟩ := bAt hW hS hb h0
  have := h1.inv_v; subst this
  exact ⟨_, .v _, Try.slices_Contains_int blk 0 n cap c x w hn (by unfold maxLen at hmax; omega) fun j hj => by rw [Nat.zero_add, (hB.cell j hj).1, getD_at hj]⟩
theorem has_e (k : Nat) (nul : Option Bool) (room : Room) (x : Int) : Contract Try.prog 19 [.sl k [] nul room, .v (.int .i64 x)] h (.v (.bool false)) h [] := by
  refine contract_quietH (by kernel_rfl) rfl fun G w vs hW hS hvs => ?_
  obtain ⟨v0, v1, rfl, h0, h1⟩ := seesL2 hvs
  obtain ⟨a, cap, rfl, _⟩ := sl_empty h0
  have := h1.inv_v; subst this
  exact ⟨_, .v _, Try.slices_Contains_int_empty a cap x w⟩
/-- A copy, as a row of its own. -/
theorem clone_b (hb : h[b]? = some (intsA c)) (hn : n ≤ c.length) (hbig : n ≤ 1000000) : Contract Try.prog 40 [.bsl b 0 1 n] h (.sl 1 (enc intC (c.take n)) none (.own .res)) h [] := by
  have e : enc intC (c.take n) = (ints64 (c.take n)).map fun u => [.v u] := by unfold enc ints64; rw [List.map_map]; rfl
  rw [e]
  refine contract_madeV (by kernel_rfl) (ints64_one _) fun G w vs hW hS hvs => ?_
  obtain ⟨v0, rfl, h0⟩ := seesL1 hvs
  obtain ⟨blk, cap, rfl, hcap, hmax, hroom, hB⟩ := bAt hW hS hb h0
  refine (Try.slices_Clone_int blk 0 n cap c w hn (by omega) fun j hj => by rw [Nat.zero_add, (hB.cell j hj).1, getD_at hj]).mono fun e w' he => ?_
  obtain ⟨v', rfl, h1, _, h3⟩ := he
  have hl : (ints64 (c.take n)).length = n := by simp; omega
  exact ⟨v', _, rfl, by rw [hl]; exact h1, h3⟩
theorem clone_e (k : Nat) (room : Room) : Contract Try.prog 40 [.sl k [] (some true) room] h (.sl 1 [] (some true) .exact) h [] := by
  refine contract_quietH (by kernel_rfl) rfl fun G w vs hW hS hvs => ?_
  obtain ⟨v0, rfl, h0⟩ := seesL1 hvs
  obtain ⟨a, cap, rfl, h2⟩ := sl_empty h0
  obtain ⟨rfl, rfl⟩ := h2 rfl
  exact ⟨_, .sl 1 [] (some true) .exact none 0 0 (fun _ _ => undef) rfl ⟨fun _ => ⟨rfl, rfl⟩, fun _ => rfl, fun h => (by cases h)⟩ (fun e h => by cases h) (Nat.le_refl _) (by simp [maxLen]) (fun _ => rfl) (fun h => by simp at h) (fun i e h => by simp at h) (fun i j h => by simp at h), Try.slices_Clone_int_nil 0 0 w⟩
/-- A copy, as a variable of its own. -/
theorem clone_v (hb : h[b]? = some (intsA c)) (hn : n ≤ c.length) (h0n : 0 < n) (hbig : n ≤ 1000000) : Contract Try.prog 40 [.bsl b 0 1 n] h (.bsl h.length 0 1 n) (h ++ [intsA (c.take n)]) [] := by
  refine contract_newboxH (by kernel_rfl) (intsA_plain _) fun G w vs hW hS hvs => ?_
  obtain ⟨v0, rfl, h0⟩ := seesL1 hvs
  obtain ⟨blk, cap, rfl, hcap, hmax, hroom, hB⟩ := bAt hW hS hb h0
  refine (Try.slices_Clone_int blk 0 n cap c w hn (by omega) fun j hj => by rw [Nat.zero_add, (hB.cell j hj).1, getD_at hj]).mono fun e w' he => ?_
  obtain ⟨v', rfl, ⟨_, h1⟩, _, h3⟩ := he
  rcases h1 with ⟨_, h1⟩ | ⟨g, cap', cur, rfl, hg, hrow, hcap', hmax', hcs, htake⟩
  · omega
  have hgw : g < w'.heap.size := by
    rcases Nat.lt_or_ge g w'.heap.size with h1 | h1
    · exact h1
    · rw [Array.getElem?_eq_none h1] at hrow; cases hrow
  have hcell : ∀ j, w'.cell? ⟨g, j, none⟩ = cur[j]? := fun j => cell_of_row _ _ j cur _ (0, 0) hrow
  have hfz : ∀ j, w'.frozen? ⟨g, j, none⟩ = false := fun j => by simp [World.frozen?, hrow]
  have htake' : cur.toList.take n = ints64 (c.take n) := by rw [Nat.mul_one] at htake; exact htake
  refine ⟨g, cap', ints64 (c.take n), rfl, hg, hgw, hcap', ⟨hmax', fun j hj => ⟨?_, hfz j⟩⟩, by simp, ints64_one _, (ints64_sees _ _).2, fun j x hj => ⟨?_, hfz j⟩, h3⟩
  · rw [hcell, Array.getElem?_eq_getElem (by omega)]; rfl
  · rw [hcell]
    rw [← htake', List.getElem?_take] at hj
    split at hj
    · rw [← Array.getElem?_toList]; exact hj
    · cases hj
def delL (c : List Int) (n i : Nat) : List Int := (c.take n).take i ++ (c.take n).drop (i + 1) ++ List.replicate (i + 1 - i) 0
theorem delL_len {i : Nat} (hn : n ≤ c.length) (hi : i < n) : (delL c n i).length = n := by unfold delL; simp; omega
def compL (c : List Int) (n : Nat) : List Int := Lib.compact (c.take n) ++ List.replicate ((c.take n).length - (Lib.compact (c.take n)).length) 0
theorem compact_le (zs : List Int) : (Lib.compact zs).length ≤ zs.length := by
  unfold Lib.compact Lib.compactUpTo
  rw [List.length_map]
  exact Nat.le_trans (List.length_filter_le _ _) (by simp)
end
end Go.Proofs.Ytkcampfbpmjacaa.Ax
