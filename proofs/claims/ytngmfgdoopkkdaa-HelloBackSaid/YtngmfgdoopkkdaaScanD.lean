/- The walks of ScanNobody and ScanAll: each returns true at every input, and writes nothing that was there. -/
import Derived.Test.YtngmfgdoopkkdaaScanC
namespace Go.Proofs.Ytngmfgdoopkkdaa.Sc
open Go.RowKit Go By Nm

theorem new_4 (w : World) : Calls Try.prog 31 #[.slice (some ⟨w.heap.size, 0, none⟩) 4 4] (w.alloc (.cells #[.int .u8 97, .int .u8 0, .int .u8 1, .int .u8 2] 5))
    (NewScan Good [97, 0, 1, 2] (w.alloc (.cells #[.int .u8 97, .int .u8 0, .int .u8 1, .int .u8 2] 5))) :=
  new_any (w.heap.size + 1) (some ⟨w.heap.size, 0, none⟩) 4 [97, 0, 1, 2] _ (BytesAt.lit (E := 5) w [97, 0, 1, 2] (Nat.lt_succ_self _)) (fun h => by cases h) (by simp)
theorem text_a (g : Nat) (w : World) (h : Good w g [97, 0, 1, 2]) :
    Calls Try.prog 74 #[.pointer (some ⟨g, 0, none⟩)] w (Read g [97, 0, 1, 2] 2 (.string ⟨#[97]⟩) w) := text_yes g [97, 0, 1, 2] 1 w h rfl
theorem num_12 (g : Nat) (w : World) (h : Good w g [1, 2]) :
    Calls Try.prog 32 #[.pointer (some ⟨g, 0, none⟩), .int .i64 2] w (Read g [1, 2] 2 (.int .i64 258) w) := num_yes g [1, 2] 2 w h rfl
theorem done_none (g : Nat) (w : World) (h : Good w g []) :
    Calls Try.prog 35 #[.pointer (some ⟨g, 0, none⟩)] w fun e w' => e = .returned (.bool true) ∧ w = w' := done_good g [] w h

theorem Good.below {w w' : World} {g B : Nat} {xs : List UInt8} (h : Good w g xs) (hb : Below B w w') (hB : g < B) : Good w' g xs := by
  obtain ⟨a, c, hk, hx, r⟩ := h
  exact ⟨a, c, hk.keep (hb.block g hB), hx.below (hb.mono (Nat.le_of_lt hB)), r⟩
theorem Good.lt {w : World} {g : Nat} {xs : List UInt8} (h : Good w g xs) : g < w.heap.size := by
  obtain ⟨a, c, hk, _⟩ := h
  exact hk.lt
theorem OwnB.only {E : TypeId} {w w' : World} {base g : Nat} {v : Value} {xs : List UInt8} (h : OwnB E w base v xs) (ho : Only g w w') (hg : g < base) : OwnB E w' base v xs := by
  refine World.ownsRow.kept h (row := some g) ho ?_
  rcases h.2 with ⟨rfl, _⟩ | ⟨k, cap, cur, rfl, hk, _⟩
  · left; rfl
  · right; simp [Value.ownBlock]; omega

theorem done_at (g : Nat) (xs : List UInt8) (w : World) (h : Good w g xs) (hn : xs = []) :
    Calls Try.prog 35 #[.pointer (some ⟨g, 0, none⟩)] w fun e w' => e = .returned (.bool true) ∧ w = w' := by
  subst hn; exact done_good g [] w h
theorem equal_yes (B1 B2 : Nat) (a1 a2 : Option Addr) (n c1 c2 : Nat) (xs : List UInt8) (w : World) (h1 : BytesAt w B1 a1 xs) (h2 : BytesAt w B2 a2 xs) (hn : xs.length = n) :
    Calls Try.prog 18 #[.slice a1 n c1, .slice a2 n c2] w fun e w' => e = .returned (.bool true) ∧ w = w' := by
  subst hn
  exact (equal_any B1 B2 a1 a2 c1 c2 xs xs w h1 h2).mono fun _ _ ⟨he, hw⟩ => ⟨by rw [he]; simp, hw⟩
/-- What stands behind a piece that was taken and put to the others. -/
theorem piece_on {w w1 w2 w3 : World} {g k mm : Nat} {xs : List UInt8} {v v' : Value} (hg : w.heap.size ≤ g) (hB : Below w.heap.size w w1) (ho : Only g w1 w2) (hG : Good w2 g ((xs.drop k).drop mm))
    (hown : OwnB 5 w2 (g + 1) v (xs.take k)) (hown3 : OwnB 5 w3 (g + 1) v' (xs.take k ++ (xs.drop k).take mm)) (hgr : w2.grownBy w3 v.ownBlock) :
    OwnB 5 w3 (g + 1) v' (xs.take (k + mm)) ∧ Good w3 g (xs.drop (k + mm)) ∧ Below w.heap.size w w3 := by
  have hb3 : Below (g + 1) w2 w3 := hown.below_grown (Below.refl _ _) (by have := hG.lt; omega) hgr
  refine ⟨?_, ?_, ?_⟩
  · rw [List.take_add]; exact hown3
  · rw [List.drop_drop] at hG; exact hG.below hb3 (Nat.lt_succ_self _)
  · exact (ho.below hB hB.size hg).trans (hb3.mono (by omega))

end Go.Proofs.Ytngmfgdoopkkdaa.Sc
