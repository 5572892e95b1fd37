/- Plain words on first messages: what pairs of texts stand in bytes, what a first message's body says, and the bytes of one. No program is named here. -/
import Derived.Test.YtlbgjlmokpkkeaaGreatDoorQNumB
import Derived.Test.YtlbgjlmokpkkeaaGreatDoorQNumD
import Derived.Test.YtlbgjlmokpkkeaaGreatDoorQAxSb
import Derived.Lib.BytesEntry
import Derived.Test.YtlbgjlmokpkkeaaGreatDoorQDigC
import Derived.Test.YtlbgjlmokpkkeaaGreatDoorQElems
/- The contracts of package scan's calls that ask (Bad, Left, Done) and of its fail, at a scan that a call made. -/
namespace Go.Proofs.YtlbgjlmokpkkeaaGreatDoor.Sc
set_option maxRecDepth 100000
open Go.RowKit Go By Nm

/-- A scan at block g that has these bytes left. -/
def Good (w : World) (g : Nat) (xs : List UInt8) : Prop :=
  ∃ a c, Blk w g 171 [.bool true, .slice a xs.length c] ∧ BytesAt w g a xs ∧ (a = none → c = 0) ∧ xs.length ≤ c ∧ c ≤ maxLen
/-- A scan at block g that is bad. -/
def Dead (w : World) (g : Nat) : Prop := Blk w g 171 [.bool false, .slice none 0 0]

end Go.Proofs.YtlbgjlmokpkkeaaGreatDoor.Sc
/- The contracts of package scan's Take, Num and Text, at a scan that a call made. -/
namespace Go.Proofs.YtlbgjlmokpkkeaaGreatDoor.Sc
set_option maxRecDepth 100000
open Go.RowKit Go By Nm

theorem getErr_zero {len : Nat} {size : Int} (h : getErr len 0 size = 0) : 1 ≤ size ∧ size ≤ 4 ∧ size ≤ len := by
  unfold getErr at h
  split at h
  · omega
  · rename_i h1
    have hs : szB size = true := by cases hh : szB size <;> simp_all
    have := szB_four hs
    split at h
    · omega
    · omega

/-- Where the first byte 0 stands. -/
def zeroAt : List UInt8 → Option Nat
  | [] => none
  | b :: l => if b == 0 then some 0 else (zeroAt l).map (· + 1)
theorem zeroAt_some : ∀ {xs : List UInt8} {k : Nat}, zeroAt xs = some k → k < xs.length ∧ xs.getD k 0 = 0 ∧ ∀ j, j < k → xs.getD j 0 ≠ 0
  | [], k, h => by simp [zeroAt] at h
  | b :: l, k, h => by
    unfold zeroAt at h
    by_cases hb : b = 0
    · subst hb
      simp at h
      subst h
      exact ⟨by simp, rfl, fun j hj => by omega⟩
    · have hb1 : (b == 0) = false := by simpa using hb
      rw [hb1] at h
      simp at h
      obtain ⟨m, hm, rfl⟩ := h
      obtain ⟨h1, h2, h3⟩ := zeroAt_some hm
      refine ⟨by simp; omega, by simpa using h2, fun j hj => ?_⟩
      cases j with
      | zero => simpa using hb
      | succ j => simpa using h3 j (by omega)
theorem indexByte_zero : ∀ xs : List UInt8, Lib.indexByte xs 0 = match zeroAt xs with | none => -1 | some k => (k : Int)
  | [] => rfl
  | b :: l => by
    have ih := indexByte_zero l
    unfold Lib.indexByte zeroAt
    by_cases hb : (b == 0) = true
    · rw [if_pos hb, if_pos hb]; rfl
    · rw [if_neg hb, if_neg hb, ih]
      cases zeroAt l with
      | none => rfl
      | some k => simp

theorem indexByte_any (B : Nat) (a : Option Addr) (cap : Nat) (xs : List UInt8) (w : World) (hb : BytesAt w B a xs) :
    Calls Tryz.prog 121 #[.slice a xs.length cap, .int .u8 0] w fun e w' => e = .returned (.int .i64 (Lib.indexByte xs 0)) ∧ w = w' := by
  have hr : (Extern.BytealgIndexByte.indexByte #[.slice a xs.length cap, .int .u8 0]).run Tryz.prog w = .ok (.int .i64 (Lib.indexByte xs 0)) w := by
    cases xs with
    | nil =>
      cases a with
      | none => exact Lib.run_indexByteNil w _ _ _
      | some ad =>
        obtain ⟨b, off, spot⟩ := ad
        cases spot with
        | none => exact Lib.run_indexByteSlice w b off 0 cap [] rfl (fun i hi => by omega) 0
        | some s => kernel_rfl
    | cons x l =>
      obtain ⟨b, off, rfl, _, hc⟩ := hb (by simp)
      have := Lib.run_indexByteSlice (P := Tryz.prog) w b off (x :: l).length cap ((x :: l).map fun c => (c.toNat : Int)) (by simp) (fun i hi => by
        rw [hc i hi]
        unfold byteAt
        simp only [List.getD_eq_getElem?_getD, List.getElem?_map, List.getElem?_eq_getElem hi, Option.map_some, Option.getD_some]) 0
      rw [this]
      have e : Lib.bytesOf ((x :: l).map fun c => (c.toNat : Int)) = x :: l := by
        unfold Lib.bytesOf
        rw [List.map_map]
        have e2 : ((fun n : Int => n.toNat.toUInt8) ∘ fun c : UInt8 => (c.toNat : Int)) = id := by
          funext c; simp
        first | rw [e2, List.map_id] | skip
      rw [e]; rfl
  go_enter Tryz.func121, Tryz.ntmps121
  go_wp2
  rw [run_callFunc_extern Tryz.func175 (by kernel_rfl) (by kernel_rfl) (by kernel_rfl) (e := Extern.BytealgIndexByte.indexByte) (by kernel_rfl), hr]
  simp only [Result.andThen]
  rw [Oper.upon_value]
  go_wp2
  go_ret
  exact ⟨rfl, rfl⟩

end Go.Proofs.YtlbgjlmokpkkeaaGreatDoor.Sc
/- The contracts of scan.New and of the document's answer for layer 3 (New, Num, Text, Take, Left, Done), at a scan that a call made. -/
namespace Go.Proofs.YtlbgjlmokpkkeaaGreatDoor.Sc
set_option maxRecDepth 100000
open Go.RowKit Go By Nm

end Go.Proofs.YtlbgjlmokpkkeaaGreatDoor.Sc
/- The walks of ScanNobody and ScanAll: each returns true at every input, and writes nothing that was there. -/
namespace Go.Proofs.YtlbgjlmokpkkeaaGreatDoor.Sc
open Go.RowKit Go By Nm

end Go.Proofs.YtlbgjlmokpkkeaaGreatDoor.Sc
/- Package scan's calls and the document's answers for layer 3, in one form for a scan that is good and one that is bad: what is answered, and what is left. -/
namespace Go.Proofs.YtlbgjlmokpkkeaaGreatDoor.Sc
open Go.RowKit Go By Nm

/-- A scan's state: the bytes that are left, or bad. -/
abbrev Sta := Option (List UInt8)
def St (w : World) (g : Nat) : Sta → Prop
  | some xs => Good w g xs
  | none => Dead w g
def Small : Sta → Prop
  | some xs => xs.length ≤ 2000
  | none => True

def numV : Sta → Int → Int
  | some xs, n => if getErr xs.length 0 n = 0 then getI xs 0 n.toNat else 0
  | none, _ => 0
def numS : Sta → Int → Sta
  | some xs, n => if getErr xs.length 0 n = 0 then some (xs.drop n.toNat) else none
  | none, _ => none
def textV : Sta → ByteArray
  | some xs => match zeroAt xs with
    | some k => strB (xs.take k)
    | none => ⟨#[]⟩
  | none => ⟨#[]⟩
def textS : Sta → Sta
  | some xs => match zeroAt xs with
    | some k => some (xs.drop (k + 1))
    | none => none
  | none => none
theorem Small.text {st : Sta} (h : Small st) : Small (textS st) := by
  cases st with
  | none => trivial
  | some xs =>
    simp only [textS]
    split
    · show (xs.drop _).length ≤ 2000
      have : xs.length ≤ 2000 := h
      rw [List.length_drop]; omega
    · trivial

def takeB (xs : List UInt8) (n : Int) : Bool := decide (0 ≤ n) && decide (n ≤ xs.length)
def takeL : Sta → Int → List UInt8
  | some xs, n => if takeB xs n = true then xs.take n.toNat else []
  | none, _ => []
def takeS : Sta → Int → Sta
  | some xs, n => if takeB xs n = true then some (xs.drop n.toNat) else none
  | none, _ => none
theorem takeB_yes {xs : List UInt8} {n : Int} (h : takeB xs n = true) : 0 ≤ n ∧ n ≤ xs.length := by simpa [takeB] using h
theorem takeB_no {xs : List UInt8} {n : Int} (h : ¬ takeB xs n = true) : n < 0 ∨ (xs.length : Int) < n := by
  simp [takeB] at h; omega
theorem Small.take {st : Sta} (n : Int) (h : Small st) : Small (takeS st n) := by
  cases st with
  | none => trivial
  | some xs =>
    simp only [takeS]
    split
    · show (xs.drop _).length ≤ 2000
      have : xs.length ≤ 2000 := h
      rw [List.length_drop]; omega
    · trivial

def badB : Sta → Bool
  | some _ => false
  | none => true
def doneB : Sta → Bool
  | some xs => xs.isEmpty
  | none => false
end Go.Proofs.YtlbgjlmokpkkeaaGreatDoor.Sc
namespace Go.Proofs.YtlbgjlmokpkkeaaGreatDoor.He
open Go.RowKit Go By Nm Sc

/-- The text that is read in a state. -/
def textL : Sta → List UInt8
  | some xs => match zeroAt xs with
    | some k => xs.take k
    | none => []
  | none => []
def lenS : Sta → Nat
  | some xs => xs.length
  | none => 0
theorem textS_len (st : Sta) : lenS (textS st) ≤ lenS st := by
  cases st with
  | none => exact Nat.le_refl _
  | some xs =>
    simp only [textS]
    cases zeroAt xs with
    | none => exact Nat.zero_le _
    | some k => simp [lenS]
theorem textS_lt {st : Sta} (h : textL st ≠ []) : lenS (textS st) < lenS st := by
  cases st with
  | none => exact absurd rfl h
  | some xs =>
    simp only [textS, textL] at *
    cases hz : zeroAt xs with
    | none => rw [hz] at h; exact absurd rfl h
    | some k => have := (zeroAt_some hz).1; simp [lenS]; omega

/-- A pair: its name and its value. -/
abbrev Pr := List UInt8 × List UInt8
/-- The pairs that are read from a state on, up to an empty name, and the state behind it. -/
inductive Prs : Sta → List Pr → Sta → Prop
  | stop (st : Sta) : textL st = [] → Prs st [] (textS st)
  | step (st : Sta) (l : List Pr) (s : Sta) : textL st ≠ [] → Prs (textS (textS st)) l s → Prs st ((textL st, textL (textS st)) :: l) s
theorem Prs.len {st s : Sta} {l : List Pr} (h : Prs st l s) : l.length ≤ lenS st := by
  induction h with
  | stop st _ => exact Nat.zero_le _
  | step st l s hn _ ih => have h1 := textS_lt hn; have h2 := textS_len (textS st); simp only [List.length_cons]; omega

/-- A text with its byte 0, pairs with the empty name behind them. -/
def encT (t : List UInt8) : List UInt8 := t ++ [0]
end Go.Proofs.YtlbgjlmokpkkeaaGreatDoor.He
