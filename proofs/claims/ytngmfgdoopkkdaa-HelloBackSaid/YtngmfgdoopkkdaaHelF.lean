/- Who a first message is of, whether two are the same, and whether one is short. -/
import Derived.Test.YtngmfgdoopkkdaaHelE
namespace Go.Proofs.Ytngmfgdoopkkdaa.He
set_option maxRecDepth 100000
open Go.RowKit Go By Nm Sc

/-- A pair in memory. -/
theorem pair_cells {w : World} {B : Nat} {a : Option Addr} {ps : List Pr} (h : Elems w B a 2 (prE ps)) (j : Nat) (hj : j < ps.length) :
    ∃ b off, a = some ⟨b, off, none⟩ ∧ b < B ∧ w.cell? ⟨b, off + j * 2, none⟩ = some (.string (strB (ps.getD j ([], [])).1)) ∧ w.cell? ⟨b, off + j * 2 + 1, none⟩ = some (.string (strB (ps.getD j ([], [])).2)) := by
  obtain ⟨b, off, e, hb, hc⟩ := h (by rw [prE_length]; omega)
  have hat : (prE ps).getD j [] = [.string (strB (ps.getD j ([], [])).1), .string (strB (ps.getD j ([], [])).2)] := by
    simp [prE, List.getD_eq_getElem?_getD, List.getElem?_eq_getElem hj]
  have h0 := hc j (by rw [prE_length]; exact hj) 0 _ (by rw [hat]; rfl)
  have h1 := hc j (by rw [prE_length]; exact hj) 1 _ (by rw [hat]; rfl)
  exact ⟨b, off, e, hb, h0, h1⟩
/-- Where the first is of which f is true; -1. -/
def idxI {α : Type} (f : α → Bool) (l : List α) : Int := if l.findIdx f < l.length then (l.findIdx f : Nat) else -1

/-- A function with a body: a call through a value of it enters it. -/
def Enters (F : FuncId) : Prop := ∀ (args : Array Value) (W : World), (callFunc F args).run Try.prog W = .ok (.enter F args) W
theorem enters_of {F : FuncId} {fn : Func} (hf : Try.prog.funcs[F]? = some fn) (hn : (fn.name == "runtime.NumGoroutine") = false) (hb : fn.body.isSome = true) : Enters F := fun args W => by
  have h1 : fn.name ≠ "runtime.NumGoroutine" := by simpa using hn
  obtain ⟨c, hc⟩ := Option.isSome_iff_exists.1 hb
  simp [callFunc, hf, h1, hc]

set_option maxHeartbeats 1000000 in
theorem hindex_any (F : FuncId) (f : Pr → Bool) (B : Nat) (a : Option Addr) (n k : Nat) (ps : List Pr) (w : World) (hE : Elems w B a 2 (prE ps)) (hB : B ≤ w.heap.size) (hn : ps.length = n) (hm : n ≤ 4294967296) (hen : Enters F)
    (HF : ∀ j, j < n → ∀ W : World, Calls Try.prog F #[.agg #[.string (strB (ps.getD j ([], [])).1), .string (strB (ps.getD j ([], [])).2)]] W fun e w' => e = .returned (.bool (f (ps.getD j ([], [])))) ∧ Below W.heap.size W w') :
    Calls Try.prog 40 #[.slice a n k, .func (.func F) #[] #[]] w fun e w' => e = .returned (.int .i64 (idxI f ps)) ∧ Below w.heap.size w w' := by
  have HE := Lib.hid hE
  have HBb := Lib.hid hB
  have HN := Lib.hid hn
  have HFF := Lib.hid HF
  clear hE hB hn HF
  go_enter Try.func40, Try.ntmps40
  go_wp2
  go_loopw [8] (fun i wr => ∃ j : Nat, i = .int .i64 j ∧ j ≤ n ∧ (∀ t, t < j → f (ps.getD t ([], [])) = false) ∧ Below w.heap.size w wr) (fun i _ => n - (intOf i).toNat)
  case atStart => exact ⟨0, rfl, Nat.zero_le _, fun t ht => by omega, Below.refl _ _⟩
  case round =>
    obtain ⟨j, rfl, hj, hno, hbw⟩ := hrel
    have HNo := Lib.hid hno
    have HBw := Lib.hid hbw
    clear hno hbw
    by_cases hlt : j < n
    · obtain ⟨b, off, ha, hb, hc0, hc1⟩ := pair_cells (HE.out.keep fun p hp => HBw.out.cell (p := p) (Nat.lt_of_lt_of_le hp HBb.out)) j (by rw [HN.out]; exact hlt)
      subst ha
      obtain ⟨pr, HPr⟩ : ∃ p, Hid (ps.getD j ([], []) = p) := ⟨_, rfl⟩
      obtain ⟨r, HR⟩ : ∃ r, Hid (f pr = r) := ⟨_, rfl⟩
      have hc := HFF.out j hlt
      rw [HPr.out, HR.out] at hc
      rw [HPr.out] at hc0 hc1
      have HC := Lib.hid hc
      have hen' := fun args (W : World) => hen args W
      clear hc
      cases r with
      | true =>
        go_wp2_with fail
        refine (HC.out _).mono ?_
        rintro e w2 ⟨rfl, hb2⟩
        have HB2 := Lib.hid hb2
        clear hb2
        go_wp2
        go_ret
        refine ⟨?_, HBw.out.trans (HB2.out.mono HBw.out.size)⟩
        have hf : ps.findIdx f = j := by
          rw [List.findIdx_eq (by rw [HN.out]; exact hlt)]
          refine ⟨?_, fun t ht => ?_⟩
          · have := HR.out; rw [← HPr.out] at this; rw [List.getD_eq_getElem?_getD, List.getElem?_eq_getElem (by rw [HN.out]; exact hlt)] at this; exact this
          · have := HNo.out t ht; rw [List.getD_eq_getElem?_getD, List.getElem?_eq_getElem (by rw [HN.out]; omega)] at this; exact this
        rw [idxI, hf, if_pos (by rw [HN.out]; exact hlt)]
        rfl
      | false =>
        go_wp2_with fail
        refine (HC.out _).mono ?_
        rintro e w2 ⟨rfl, hb2⟩
        have HB2 := Lib.hid (HBw.out.trans (hb2.mono HBw.out.size))
        clear hb2
        go_wp2
        go_roundw
        case rel =>
          refine ⟨j + 1, by go_num, by omega, fun t ht => ?_, HB2.out⟩
          by_cases htj : t < j
          · exact HNo.out t htj
          · obtain rfl : t = j := by omega
            rw [HPr.out]; exact HR.out
        case measure => simp [intOf]; omega
    · obtain rfl : j = n := by omega
      go_wp2
      go_ret
      refine ⟨?_, HBw.out⟩
      have hf : ¬ ps.findIdx f < ps.length := fun hh => by
        have h1 := List.findIdx_getElem (w := hh)
        have h2 := HNo.out _ (by rw [← HN.out]; exact hh)
        rw [List.getD_eq_getElem?_getD, List.getElem?_eq_getElem hh] at h2
        rw [Option.getD_some] at h2
        rw [h1] at h2; cases h2
      rw [idxI, if_neg hf]
      rfl

def userText : List UInt8 := [117, 115, 101, 114]
def userB (p : Pr) : Bool := p.1 == userText
theorem huser1_any (p : Pr) (w : World) : Calls Try.prog 41 #[.agg #[.string (strB p.1), .string (strB p.2)]] w fun e w' => e = .returned (.bool (userB p)) ∧ Below w.heap.size w w' := by
  go_enter Try.func41, Try.ntmps41
  go_wp2
  go_ret
  refine ⟨?_, (Below.refl _ _).alloc (Nat.le_refl _) _⟩
  show Ending.returned (.bool ((strB p.1).toList == [117, 115, 101, 114])) = _
  rw [strB_toList]
  rfl
/-- Who a first message is of. -/
def userL (ps : List Pr) : List UInt8 := (ps.getD (ps.findIdx userB) ([], [])).2

set_option maxHeartbeats 1000000 in
theorem huser_any (c p q : Int) (B : Nat) (a : Option Addr) (n k : Nat) (ps : List Pr) (w : World) (hE : Elems w B a 2 (prE ps)) (hB : B ≤ w.heap.size) (hn : ps.length = n) (hm : n ≤ 4294967296) :
    Calls Try.prog 13 #[.agg #[.int .i64 c, .int .i64 p, .int .i64 q, .slice a n k]] w fun e w' => e = .returned (.string (strB (userL ps))) ∧ Below w.heap.size w w' := by
  have HE := Lib.hid hE
  have HBb := Lib.hid hB
  have HN := Lib.hid hn
  have hk := Blk.new w 26 [.int .i64 c, .int .i64 p, .int .i64 q, .slice a n k]
  have HK := Lib.hid hk
  have HS : Hid (Below w.heap.size w (w.alloc (.cells #[.int .i64 c, .int .i64 p, .int .i64 q, .slice a n k] 26))) := Lib.hid ((Below.refl _ _).alloc (Nat.le_refl _) _)
  clear hE hB hn hk
  by_cases hi : ps.findIdx userB < ps.length
  · have hx : idxI userB ps = (ps.findIdx userB : Nat) := by rw [idxI, if_pos hi]
    obtain ⟨j, HJ⟩ : ∃ j, Hid (ps.findIdx userB = j) := ⟨_, rfl⟩
    have HU : Hid (userL ps = (ps.getD j ([], [])).2) := Lib.hid (by rw [userL, HJ.out])
    rw [HJ.out] at hx hi
    rw [HN.out] at hi
    have HX := Lib.hid hx
    obtain ⟨b, off, ha, hb, hc0, hc1⟩ := pair_cells HE.out j (by rw [HN.out]; exact hi)
    subst ha
    obtain ⟨pr, HPr⟩ : ∃ p, Hid (ps.getD j ([], []) = p) := ⟨_, rfl⟩
    rw [HPr.out] at HU hc0 hc1
    have HC1 := Lib.hid hc1
    clear hc0 hc1 hx
    go_enter Try.func13, Try.ntmps13
    go_wp2_with fail
    refine (hindex_any 41 userB B (some ⟨b, off, none⟩) n k ps _ (HE.out.below (HS.out.mono HBb.out)) (by have := HBb.out; simp; omega) HN.out hm (enters_of Try.func41 (by kernel_rfl) (by kernel_rfl)) (fun t _ W => huser1_any _ W)).mono ?_
    rintro e w2 ⟨rfl, hb2⟩
    rw [HX.out]
    have k3 := (HK.out.keep (hb2.block _ (by simp))).cell 3 _ rfl
    have k1 := (hb2.cell (p := ⟨b, off + j * 2 + 1, none⟩) (by have := HBb.out; simp; omega)).trans ((HS.out.cell (p := ⟨b, off + j * 2 + 1, none⟩) (by have := HBb.out; show b < _; omega)).trans HC1.out)
    have HB2 := Lib.hid (HS.out.trans (hb2.mono (by simp)))
    clear hb2
    go_wp2
    go_ret
    exact ⟨by rw [HU.out]; rfl, HB2.out⟩
  · have hx : idxI userB ps = -1 := by rw [idxI, if_neg hi]
    have HU : Hid (userL ps = []) := Lib.hid (by rw [userL, List.getD_eq_getElem?_getD, List.getElem?_eq_none (by omega)]; rfl)
    have HX := Lib.hid hx
    clear hx hi
    go_enter Try.func13, Try.ntmps13
    go_wp2_with fail
    refine (hindex_any 41 userB B a n k ps _ (HE.out.below (HS.out.mono HBb.out)) (by have := HBb.out; simp; omega) HN.out hm (enters_of Try.func41 (by kernel_rfl) (by kernel_rfl)) (fun t _ W => huser1_any _ W)).mono ?_
    rintro e w2 ⟨rfl, hb2⟩
    rw [HX.out]
    have HB2 := Lib.hid (HS.out.trans (hb2.mono (by simp)))
    clear hb2
    go_wp2
    go_ret
    exact ⟨by rw [HU.out]; rfl, HB2.out⟩

theorem userL_at {ps : List Pr} {j : Nat} (hj : j < ps.length) (hb : userB (ps.getD j ([], [])) = true) (hno : ∀ t, t < j → userB (ps.getD t ([], [])) = false) : userL ps = (ps.getD j ([], [])).2 := by
  have hf : ps.findIdx userB = j := by
    rw [List.findIdx_eq hj]
    refine ⟨?_, fun t ht => ?_⟩
    · rw [List.getD_eq_getElem?_getD, List.getElem?_eq_getElem hj] at hb; exact hb
    · have := hno t ht; rw [List.getD_eq_getElem?_getD, List.getElem?_eq_getElem (by omega)] at this; exact this
  rw [userL, hf]
theorem userL_no {ps : List Pr} (hno : ∀ t, t < ps.length → userB (ps.getD t ([], [])) = false) : userL ps = [] := by
  have hf : ¬ ps.findIdx userB < ps.length := fun hh => by
    have h1 := List.findIdx_getElem (w := hh)
    have h2 := hno _ hh
    rw [List.getD_eq_getElem?_getD, List.getElem?_eq_getElem hh, Option.getD_some, h1] at h2
    cases h2
  rw [userL, List.getD_eq_getElem?_getD, List.getElem?_eq_none (by omega)]
  rfl

set_option maxHeartbeats 1000000 in
theorem ruser_any (c p q : Int) (B : Nat) (a : Option Addr) (n k : Nat) (ps : List Pr) (w : World) (hE : Elems w B a 2 (prE ps)) (hB : B ≤ w.heap.size) (hn : ps.length = n) (hm : n ≤ 4294967296) :
    Calls Try.prog 14 #[.agg #[.int .i64 c, .int .i64 p, .int .i64 q, .slice a n k]] w fun e w' => e = .returned (.string (strB (userL ps))) ∧ Below w.heap.size w w' := by
  have HN := Lib.hid hn
  have HK := Lib.hid (Blk.new w 26 [.int .i64 c, .int .i64 p, .int .i64 q, .slice a n k])
  have HS : Hid (Below w.heap.size w (w.alloc (.cells #[.int .i64 c, .int .i64 p, .int .i64 q, .slice a n k] 26))) := Lib.hid ((Below.refl _ _).alloc (Nat.le_refl _) _)
  have HE := Lib.hid (hE.below (HS.out.mono hB))
  clear hE hB hn
  go_enter Try.func14, Try.ntmps14
  go_wp2
  generalize hW : w.alloc _ = W at *
  generalize hbx : w.heap.size = bx at *
  have HX := Lib.hid hbx
  clear hW hbx
  have k3 := HK.out.cell 3 _ rfl
  go_loop [3] (fun i => ∃ j : Nat, i = .int .i64 j ∧ j ≤ n ∧ ∀ t, t < j → userB (ps.getD t ([], [])) = false) (fun i => n - (intOf i).toNat)
  case atStart => exact ⟨0, rfl, Nat.zero_le _, fun t ht => by omega⟩
  case round =>
    obtain ⟨j, rfl, hj, hno⟩ := hrel
    have HNo := Lib.hid hno
    clear hno
    by_cases hlt : j < n
    · obtain ⟨b, off, ha, hb, hc0, hc1⟩ := pair_cells HE.out j (by rw [HN.out]; exact hlt)
      subst ha
      obtain ⟨pr, HPr⟩ : ∃ p, Hid (ps.getD j ([], []) = p) := ⟨_, rfl⟩
      rw [HPr.out] at hc0 hc1
      cases hu : userB pr with
      | true =>
        have hs : ((strB pr.1).toList == [117, 115, 101, 114]) = true := by rw [strB_toList]; exact hu
        have HU := Lib.hid (userL_at (by rw [HN.out]; exact hlt) (by rw [HPr.out]; exact hu) HNo.out)
        rw [HPr.out] at HU
        go_wp2
        go_ret
        exact ⟨by rw [HU.out]; rfl, by rw [HX.out]; exact HS.out⟩
      | false =>
        have hs : ((strB pr.1).toList == [117, 115, 101, 114]) = false := by rw [strB_toList]; exact hu
        have HU := Lib.hid hu
        clear hu
        go_wp2
        go_round
        case rel =>
          refine ⟨j + 1, by go_num, by omega, fun t ht => ?_⟩
          by_cases htj : t < j
          · exact HNo.out t htj
          · obtain rfl : t = j := by omega
            rw [HPr.out]; exact HU.out
        case measure => simp [intOf]; omega
    · obtain rfl : j = n := by omega
      have HU := Lib.hid (userL_no (ps := ps) (by rw [HN.out]; exact HNo.out))
      go_wp2
      go_ret
      exact ⟨by rw [HU.out]; rfl, by rw [HX.out]; exact HS.out⟩
end Go.Proofs.Ytngmfgdoopkkdaa.He
