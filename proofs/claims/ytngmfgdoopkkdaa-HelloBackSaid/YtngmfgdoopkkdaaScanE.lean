/- Package scan's calls and the document's answers for layer 3, in one form for a scan that is good and one that is bad: what is answered, and what is left. -/
import Derived.Test.YtngmfgdoopkkdaaScanD
namespace Go.Proofs.Ytngmfgdoopkkdaa.Sc
open Go.RowKit Go By Nm

/-- A scan's state: the bytes that are left, or bad. -/
abbrev Sta := Option (List UInt8)
def St (w : World) (g : Nat) : Sta → Prop
  | some xs => Good w g xs
  | none => Dead w g
def RSt (w : World) (g : Nat) : Sta → Prop
  | some xs => RGood w g xs
  | none => RDead w g
def Small : Sta → Prop
  | some xs => xs.length ≤ 2000
  | none => True

theorem St.lt {w : World} {g : Nat} : ∀ {st : Sta}, St w g st → g < w.heap.size
  | some _, h => by obtain ⟨a, c, hk, _⟩ := h; exact hk.lt
  | none, h => Blk.lt h
theorem RSt.lt {w : World} {g : Nat} : ∀ {st : Sta}, RSt w g st → g < w.heap.size
  | some _, h => by obtain ⟨a, c, hk, _⟩ := h; exact hk.lt
  | none, h => by obtain ⟨_, a, c, hk, _⟩ := h; exact hk.lt
theorem St.blk {w : World} {g : Nat} : ∀ {st : Sta}, St w g st → ∃ x a l c, Blk w g 96 [.bool x, .slice a l c]
  | some _, h => by obtain ⟨a, c, hk, _⟩ := h; exact ⟨_, _, _, _, hk⟩
  | none, h => ⟨_, _, _, _, h⟩
theorem St.only {w w' : World} {g gx : Nat} (ho : Only gx w w') (hn : g < gx) : ∀ {st : Sta}, St w g st → St w' g st
  | some xs, h => by
    obtain ⟨a, c, hk, hx, r⟩ := h
    exact ⟨a, c, hk.only ho (by omega), hx.keep fun p hp => World.cell?_of_block (w := w) (ho.at_ (by have := hk.lt; omega) (by omega)), r⟩
  | none, h => Blk.only h ho (by omega)
theorem St.still {w w' : World} {g : Nat} (ho : Still w w') : ∀ {st : Sta}, St w g st → St w' g st
  | some xs, h => by
    obtain ⟨a, c, hk, hx, r⟩ := h
    exact ⟨a, c, hk.still ho, hx.still ho (Nat.le_of_lt hk.lt), r⟩
  | none, h => Blk.still h ho
/-- Bytes lie in no block that holds a scan. -/
theorem ne_blk {w : World} {B g l c : Nat} {a a' : Option Addr} {xs : List UInt8} {x : Bool} {T : TypeId} (h : BytesAt w B a xs) (hp : 0 < xs.length) (hk : Blk w g T [.bool x, .slice a' l c]) : ∀ p, a = some p → p.block ≠ g := by
  intro p hpe hb
  obtain ⟨b, off, e, _, hc⟩ := h hp
  rw [hpe] at e
  injection e with e
  subst e
  have hb' : b = g := hb
  subst hb'
  have h0 := hc 0 hp
  rw [cell_of_row w b _ _ T (0, 0) hk] at h0
  rcases off with _ | _ | off
  · simp at h0
  · simp at h0
  · simp at h0
theorem RSt.only {w w' : World} {g gx : Nat} {st0 : Sta} (hs : St w g st0) (ho : Only g w w') (hn : gx ≠ g) : ∀ {st : Sta}, RSt w gx st → RSt w' gx st
  | some xs, h => by
    obtain ⟨_, _, _, _, hk0⟩ := hs.blk
    obtain ⟨a, c, hk, hx, r⟩ := h
    refine ⟨a, c, hk.only ho hn, fun hp => ?_, r⟩
    exact (hx.only_other ho (Nat.le_of_lt hk.lt) (ne_blk hx hp hk0)) hp
  | none, h => by
    obtain ⟨_, _, _, _, hk0⟩ := hs.blk
    obtain ⟨xs, a, c, hk, hx, r⟩ := h
    refine ⟨xs, a, c, hk.only ho hn, fun hp => ?_, r⟩
    exact (hx.only_other ho (Nat.le_of_lt hk.lt) (ne_blk hx hp hk0)) hp
theorem RSt.still {w w' : World} {g : Nat} (ho : Still w w') : ∀ {st : Sta}, RSt w g st → RSt w' g st
  | some xs, h => by
    obtain ⟨a, c, hk, hx, r⟩ := h
    exact ⟨a, c, hk.still ho, hx.still ho (Nat.le_of_lt hk.lt), r⟩
  | none, h => by
    obtain ⟨xs, a, c, hk, hx, r⟩ := h
    exact ⟨xs, a, c, hk.still ho, hx.still ho (Nat.le_of_lt hk.lt), r⟩

/-- A call answered v, and left the scan at g in this state. -/
def Went (T : World → Nat → Sta → Prop) (g : Nat) (st : Sta) (v : Value) (w : World) (e : Ending) (w' : World) : Prop := e = .returned v ∧ T w' g st ∧ Only g w w'

def numV : Sta → Int → Int
  | some xs, n => if getErr xs.length 0 n = 0 then getI xs 0 n.toNat else 0
  | none, _ => 0
def numS : Sta → Int → Sta
  | some xs, n => if getErr xs.length 0 n = 0 then some (xs.drop n.toNat) else none
  | none, _ => none
theorem num_st (g : Nat) (st : Sta) (n : Int) (w : World) (h : St w g st) :
    Calls Try.prog 32 #[.pointer (some ⟨g, 0, none⟩), .int .i64 n] w (Went St g (numS st n) (.int .i64 (numV st n)) w) := by
  cases st with
  | none => exact (num_dead g n w h).mono fun e w' ⟨he, hw⟩ => by subst hw; exact ⟨he, h, Only.refl _ _⟩
  | some xs =>
    simp only [numS, numV]
    by_cases he : getErr xs.length 0 n = 0
    · have hz := getErr_zero he
      obtain ⟨k, rfl⟩ := Int.eq_ofNat_of_zero_le (by omega : 0 ≤ n)
      rw [if_pos he, if_pos he]
      exact num_yes g xs k w h he
    · rw [if_neg he, if_neg he]
      exact num_no g xs n w h he
theorem rnum_st (g : Nat) (st : Sta) (n : Int) (w : World) (h : RSt w g st) :
    Calls Try.prog 37 #[.pointer (some ⟨g, 0, none⟩), .int .i64 n] w (Went RSt g (numS st n) (.int .i64 (numV st n)) w) := by
  cases st with
  | none => exact rnum_dead g n w h
  | some xs =>
    simp only [numS, numV]
    by_cases he : getErr xs.length 0 n = 0
    · have hz := getErr_zero he
      obtain ⟨k, rfl⟩ := Int.eq_ofNat_of_zero_le (by omega : 0 ≤ n)
      rw [if_pos he, if_pos he]
      exact rnum_yes g xs k w h he
    · rw [if_neg he, if_neg he]
      exact rnum_no g xs n w h he
theorem Small.num {st : Sta} (n : Int) (h : Small st) : Small (numS st n) := by
  cases st with
  | none => trivial
  | some xs =>
    simp only [numS]
    split
    · show (xs.drop _).length ≤ 2000
      have : xs.length ≤ 2000 := h
      rw [List.length_drop]; omega
    · trivial

def textV : Sta → ByteArray
  | some xs => match zeroAt xs with
    | some k => strB (xs.take k)
    | none => ⟨#[]⟩
  | none => ⟨#[]⟩
def textS : Sta → Sta
  | some xs => match zeroAt xs with
    | some k => some (xs.drop (k + 1))
    | none => none
  | none => none
theorem text_st (g : Nat) (st : Sta) (w : World) (h : St w g st) :
    Calls Try.prog 74 #[.pointer (some ⟨g, 0, none⟩)] w (Went St g (textS st) (.string (textV st)) w) := by
  cases st with
  | none => exact (text_dead g w h).mono fun e w' ⟨he, hw⟩ => by subst hw; exact ⟨he, h, Only.refl _ _⟩
  | some xs =>
    simp only [textS, textV]
    cases hz : zeroAt xs with
    | some k => exact text_yes g xs k w h hz
    | none => exact text_no g xs w h hz
theorem rtext_st (g : Nat) (st : Sta) (w : World) (h : RSt w g st) :
    Calls Try.prog 76 #[.pointer (some ⟨g, 0, none⟩)] w (Went RSt g (textS st) (.string (textV st)) w) := by
  cases st with
  | none => exact rtext_dead g w h
  | some xs =>
    simp only [textS, textV]
    cases hz : zeroAt xs with
    | some k => exact rtext_yes g xs k w h hz
    | none => exact rtext_no g xs w h hz
theorem Small.text {st : Sta} (h : Small st) : Small (textS st) := by
  cases st with
  | none => trivial
  | some xs =>
    simp only [textS]
    split
    · show (xs.drop _).length ≤ 2000
      have : xs.length ≤ 2000 := h
      rw [List.length_drop]; omega
    · trivial

def takeB (xs : List UInt8) (n : Int) : Bool := decide (0 ≤ n) && decide (n ≤ xs.length)
def takeL : Sta → Int → List UInt8
  | some xs, n => if takeB xs n = true then xs.take n.toNat else []
  | none, _ => []
def takeS : Sta → Int → Sta
  | some xs, n => if takeB xs n = true then some (xs.drop n.toNat) else none
  | none, _ => none
/-- A call answered these bytes, and left the scan at g in this state. -/
def Gave (T : World → Nat → Sta → Prop) (B : World → Nat) (g : Nat) (st : Sta) (l : List UInt8) (w : World) (e : Ending) (w' : World) : Prop :=
  ∃ a c, e = .returned (.slice a l.length c) ∧ BytesAt w' (B w') a l ∧ T w' g st ∧ Only g w w'
theorem takeB_yes {xs : List UInt8} {n : Int} (h : takeB xs n = true) : 0 ≤ n ∧ n ≤ xs.length := by simpa [takeB] using h
theorem takeB_no {xs : List UInt8} {n : Int} (h : ¬ takeB xs n = true) : n < 0 ∨ (xs.length : Int) < n := by
  simp [takeB] at h; omega
theorem take_st (g : Nat) (st : Sta) (n : Int) (w : World) (h : St w g st) :
    Calls Try.prog 73 #[.pointer (some ⟨g, 0, none⟩), .int .i64 n] w (Gave St (fun _ => g) g (takeS st n) (takeL st n) w) := by
  cases st with
  | none => exact (take_dead g n w h).mono fun e w' ⟨he, hw⟩ => by subst hw; exact ⟨none, 0, he, BytesAt.nil, h, Only.refl _ _⟩
  | some xs =>
    simp only [takeS, takeL]
    by_cases hb : takeB xs n = true
    · have hn := takeB_yes hb
      obtain ⟨k, rfl⟩ := Int.eq_ofNat_of_zero_le hn.1
      rw [if_pos hb, if_pos hb]
      refine (take_yes g xs k w h (by omega)).mono fun e w' hh => ?_
      obtain ⟨a, c, he, h1, _, _, _, h2, h3⟩ := hh
      exact ⟨a, c, by rw [he, Int.toNat_natCast, List.length_take, Nat.min_eq_left (by omega)], h1, h2, h3⟩
    · rw [if_neg hb, if_neg hb]
      exact (take_no g xs n w h (takeB_no hb)).mono fun e w' ⟨he, h1, h2⟩ => ⟨none, 0, he, BytesAt.nil, h1, h2⟩
theorem rtake_st (g : Nat) (st : Sta) (n : Int) (w : World) (h : RSt w g st) (hs : Small st) :
    Calls Try.prog 111 #[.pointer (some ⟨g, 0, none⟩), .int .i64 n] w (Gave RSt (fun w' => w'.heap.size) g (takeS st n) (takeL st n) w) := by
  cases st with
  | none => exact (rtake_dead g n w h).mono fun e w' ⟨he, h1, h2⟩ => ⟨none, 0, he, BytesAt.nil, h1, h2⟩
  | some xs =>
    simp only [takeS, takeL]
    have hs' : xs.length ≤ 2000 := hs
    by_cases hb : takeB xs n = true
    · have hn := takeB_yes hb
      obtain ⟨k, rfl⟩ := Int.eq_ofNat_of_zero_le hn.1
      rw [if_pos hb, if_pos hb]
      refine (rtake_yes g xs k w h (by omega) (by omega)).mono fun e w' hh => ?_
      obtain ⟨a, c, he, h1, _, h2, h3⟩ := hh
      exact ⟨a, c, by rw [he, Int.toNat_natCast, List.length_take, Nat.min_eq_left (by omega)], h1, h2, h3⟩
    · rw [if_neg hb, if_neg hb]
      exact (rtake_no g xs n w h (takeB_no hb)).mono fun e w' ⟨he, h1, h2⟩ => ⟨none, 0, he, BytesAt.nil, h1, h2⟩
theorem Small.take {st : Sta} (n : Int) (h : Small st) : Small (takeS st n) := by
  cases st with
  | none => trivial
  | some xs =>
    simp only [takeS]
    split
    · show (xs.drop _).length ≤ 2000
      have : xs.length ≤ 2000 := h
      rw [List.length_drop]; omega
    · trivial

def leftI : Sta → Int
  | some xs => xs.length
  | none => 0
def badB : Sta → Bool
  | some _ => false
  | none => true
def doneB : Sta → Bool
  | some xs => xs.isEmpty
  | none => false
theorem bad_st (g : Nat) (st : Sta) (w : World) (h : St w g st) :
    Calls Try.prog 33 #[.pointer (some ⟨g, 0, none⟩)] w fun e w' => e = .returned (.bool (badB st)) ∧ w = w' := by
  cases st with
  | none => exact bad_dead g w h
  | some xs => exact bad_good g xs w h
theorem done_st (g : Nat) (st : Sta) (w : World) (h : St w g st) :
    Calls Try.prog 35 #[.pointer (some ⟨g, 0, none⟩)] w fun e w' => e = .returned (.bool (doneB st)) ∧ w = w' := by
  cases st with
  | none => exact done_dead g w h
  | some xs => exact done_good g xs w h
theorem rdone_st (g : Nat) (st : Sta) (w : World) (h : RSt w g st) :
    Calls Try.prog 39 #[.pointer (some ⟨g, 0, none⟩)] w fun e w' => e = .returned (.bool (doneB st)) ∧ w = w' := by
  cases st with
  | none => exact rdone_dead g w h
  | some xs => exact rdone_good g xs w h
theorem RSt.no {w : World} {g : Nat} {st : Sta} (h : RSt w g st) : w.cell? ⟨g, 1, none⟩ = some (.bool (badB st)) := by
  cases st with
  | none => obtain ⟨_, a, c, hk, _⟩ := h; exact hk.cell 1 _ rfl
  | some xs => obtain ⟨a, c, hk, _⟩ := h; exact hk.cell 1 _ rfl
end Go.Proofs.Ytngmfgdoopkkdaa.Sc
