/- Two first messages that are the same are told to be; whether one is short. -/
import Derived.Test.YtngmfgdoopkkdaaHelF
import Derived.Deep.QuietTactic
import Derived.BigQuiet
namespace Go.Proofs.Ytngmfgdoopkkdaa.He
set_option maxRecDepth 100000
open Go.RowKit Go By Nm Sc

set_option maxHeartbeats 1000000 in
theorem rsame_yes (c p q : Int) (B : Nat) (a a' : Option Addr) (n k k' : Nat) (ps : List Pr) (w : World) (hE : Elems w B a 2 (prE ps)) (hE' : Elems w B a' 2 (prE ps)) (hB : B ≤ w.heap.size) (hn : ps.length = n) (hm : n ≤ 4294967296) :
    Calls Try.prog 12 #[.agg #[.int .i64 c, .int .i64 p, .int .i64 q, .slice a n k], .agg #[.int .i64 c, .int .i64 p, .int .i64 q, .slice a' n k']] w fun e w' => e = .returned (.bool true) ∧ Below w.heap.size w w' := by
  have HN := Lib.hid hn
  have HK := Lib.hid ((Blk.new w 26 [.int .i64 c, .int .i64 p, .int .i64 q, .slice a n k]).alloc (.cells #[.int .i64 c, .int .i64 p, .int .i64 q, .slice a' n k'] 26))
  have HK' := Lib.hid (Blk.new (w.alloc (.cells #[.int .i64 c, .int .i64 p, .int .i64 q, .slice a n k] 26)) 26 [.int .i64 c, .int .i64 p, .int .i64 q, .slice a' n k'])
  have HS : Hid (Below w.heap.size w ((w.alloc (.cells #[.int .i64 c, .int .i64 p, .int .i64 q, .slice a n k] 26)).alloc (.cells #[.int .i64 c, .int .i64 p, .int .i64 q, .slice a' n k'] 26))) := Lib.hid (((Below.refl _ _).alloc (Nat.le_refl _) _).alloc (by simp) _)
  have HE := Lib.hid (hE.below (HS.out.mono hB))
  have HE' := Lib.hid (hE'.below (HS.out.mono hB))
  clear hE hE' hB hn
  go_enter Try.func12, Try.ntmps12
  go_wp2
  generalize hW : (w.alloc _).alloc _ = W at *
  rw [World.size_alloc] at *
  generalize hbx : w.heap.size = bx at *
  have HX := Lib.hid hbx
  clear hW hbx
  have k3 := HK.out.cell 3 _ rfl
  have k3' := HK'.out.cell 3 _ rfl
  go_loopw [5] (fun i wr => ∃ j : Nat, i = .int .i64 j ∧ j ≤ n ∧ (∀ p, wr.cell? p = W.cell? p) ∧ Below bx w wr) (fun i _ => n - (intOf i).toNat)
  case atStart => exact ⟨0, rfl, Nat.zero_le _, fun p => rfl, HS.out⟩
  case round =>
    obtain ⟨j, rfl, hj, hcell, hbel⟩ := hrel
    have HCl := Lib.hid hcell
    have HBl := Lib.hid hbel
    have m3 := (hcell _).trans k3
    have m3' := (hcell _).trans k3'
    clear hcell hbel
    by_cases hlt : j < n
    · obtain ⟨b, off, ha, hb, hc0, hc1⟩ := pair_cells HE.out j (by rw [HN.out]; exact hlt)
      obtain ⟨b', off', ha', hb', hc0', hc1'⟩ := pair_cells HE'.out j (by rw [HN.out]; exact hlt)
      subst ha ha'
      obtain ⟨pr, HPr⟩ : ∃ p, Hid (ps.getD j ([], []) = p) := ⟨_, rfl⟩
      rw [HPr.out] at hc0 hc1 hc0' hc1'
      replace hc0 := (HCl.out _).trans hc0
      replace hc1 := (HCl.out _).trans hc1
      replace hc0' := (HCl.out _).trans hc0'
      replace hc1' := (HCl.out _).trans hc1'
      go_wp2_with fail
      go_quiet (fail)
      go_wp2
      go_roundw
      case rel => exact ⟨j + 1, by go_num, by omega, fun p => by rw [← HCl.out p]; simp, Below.drawn HBl.out nq⟩
      case measure => simp [intOf]; omega
    · obtain rfl : j = n := by omega
      go_wp2
      go_ret
      exact ⟨rfl, by rw [HX.out]; exact HBl.out⟩

/-- Few pairs, and short ones. -/
def Few (ps : List Pr) : Prop := ps.length ≤ 40 ∧ ∀ t, t < ps.length → (ps.getD t ([], [])).1.length ≤ 200 ∧ (ps.getD t ([], [])).2.length ≤ 200
def Tells (w : World) (ps : List Pr) (e : Ending) (w' : World) : Prop := ∃ r, e = .returned (.bool r) ∧ (r = true → Few ps) ∧ Below w.heap.size w w'

set_option maxHeartbeats 1000000 in
theorem few_any (c p q : Int) (B : Nat) (a : Option Addr) (n k : Nat) (ps : List Pr) (w : World) (hE : Elems w B a 2 (prE ps)) (hB : B ≤ w.heap.size) (hn : ps.length = n) :
    Calls Try.prog 15 #[.agg #[.int .i64 c, .int .i64 p, .int .i64 q, .slice a n k]] w (Tells w ps) := by
  have HN := Lib.hid hn
  have HE := Lib.hid hE
  have HB := Lib.hid hB
  have HS : Hid (Below w.heap.size w (w.alloc (.cells #[.int .i64 c, .int .i64 p, .int .i64 q, .slice a n k] 26))) := Lib.hid ((Below.refl _ _).alloc (Nat.le_refl _) _)
  clear hE hB hn
  go_enter Try.func15, Try.ntmps15
  go_wp2
  go_loopw [8] (fun i wr => ∃ j : Nat, i = .int .i64 j ∧ j ≤ n ∧ j ≤ 40 ∧ (∀ t, t < j → (ps.getD t ([], [])).1.length ≤ 200 ∧ (ps.getD t ([], [])).2.length ≤ 200) ∧ Below w.heap.size w wr) (fun i _ => 40 - (intOf i).toNat)
  case atStart => exact ⟨0, rfl, Nat.zero_le _, Nat.zero_le _, fun t ht => by omega, HS.out⟩
  case round =>
    obtain ⟨j, rfl, hj, h40, hno, hbel⟩ := hrel
    have HNo := Lib.hid hno
    have HBl := Lib.hid hbel
    clear hno hbel
    by_cases hlt : j < n
    · obtain ⟨b, off, ha, hb, hc0, hc1⟩ := pair_cells (HE.out.below (HBl.out.mono HB.out)) j (by rw [HN.out]; exact hlt)
      subst ha
      obtain ⟨pr, HPr⟩ : ∃ p, Hid (ps.getD j ([], []) = p) := ⟨_, rfl⟩
      rw [HPr.out] at hc0 hc1
      obtain ⟨l1, HL1⟩ : ∃ l, Hid (pr.1.length = l) := ⟨_, rfl⟩
      obtain ⟨l2, HL2⟩ : ∃ l, Hid (pr.2.length = l) := ⟨_, rfl⟩
      have z1 : (strB pr.1).size = l1 := (strB_size _).trans HL1.out
      have z2 : (strB pr.2).size = l2 := (strB_size _).trans HL2.out
      have hbx : Below w.heap.size w (wr.alloc (.cells #[.string (strB pr.1), .string (strB pr.2)] 55)) := HBl.out.alloc HBl.out.size _
      have HBx := Lib.hid hbx
      clear hbx
      by_cases hall : j < 40 ∧ l1 ≤ 200 ∧ l2 ≤ 200
      · obtain ⟨g1, g2, g3⟩ := hall
        go_wp2
        go_roundw
        case rel =>
          refine ⟨j + 1, by go_num, by omega, by omega, fun t ht => ?_, HBx.out⟩
          by_cases htj : t < j
          · exact HNo.out t htj
          · obtain rfl : t = j := by omega
            rw [HPr.out, HL1.out, HL2.out]; exact ⟨g2, g3⟩
        case measure => simp [intOf]; omega
      · by_cases g1 : j < 40
        · by_cases g2 : l1 ≤ 200
          · have g3 : ¬ l2 ≤ 200 := fun h => hall ⟨g1, g2, h⟩
            clear hall
            go_wp2
            go_ret
            exact ⟨false, rfl, fun h => (by cases h), HBx.out⟩
          · clear hall
            go_wp2
            go_ret
            exact ⟨false, rfl, fun h => (by cases h), HBx.out⟩
        · clear hall
          go_wp2
          go_ret
          exact ⟨false, rfl, fun h => (by cases h), HBx.out⟩
    · obtain rfl : j = n := by omega
      go_wp2
      go_ret
      exact ⟨true, rfl, fun _ => ⟨by rw [HN.out]; exact h40, by rw [HN.out]; exact HNo.out⟩, HBl.out⟩
end Go.Proofs.Ytngmfgdoopkkdaa.He
