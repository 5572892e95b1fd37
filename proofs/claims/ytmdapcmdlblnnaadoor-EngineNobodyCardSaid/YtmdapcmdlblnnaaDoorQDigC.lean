/- The contracts of the functions that tell a number in decimal digits (digits.Text and the document's answer): at any number they give the same text. -/
import Derived.Test.YtmdapcmdlblnnaaDoorQElems
import Derived.Test.YtmdapcmdlblnnaaDoorRows
import Derived.Test.YtmdapcmdlblnnaaDoorQNumD
import Derived.Lib.Bytealg
/- Plain words on decimal digits: the digits of a number, the number of digits, and that the two belong together. No program is named here. -/
namespace Go.Proofs.YtmdapcmdlblnnaaDoor.Dg
open Go.RowKit Go By

theorem snoc_rec {α : Type} {P : List α → Prop} (nil : P []) (snoc : ∀ xs c, P xs → P (xs ++ [c])) (xs : List α) : P xs := by
  have h : ∀ ys : List α, P ys.reverse := by
    intro ys
    induction ys with
    | nil => exact nil
    | cons c t ih => rw [List.reverse_cons]; exact snoc _ _ ih
  have := h xs.reverse
  rwa [List.reverse_reverse] at this

/-- The number that digits are. -/
def numL (xs : List UInt8) : Nat := xs.foldl (fun n c => n * 10 + (c.toNat - 48)) 0
theorem numL_snoc (xs : List UInt8) (c : UInt8) : numL (xs ++ [c]) = numL xs * 10 + (c.toNat - 48) := by simp [numL]
def digB (c : UInt8) : Bool := decide (48 ≤ c.toNat) && decide (c.toNat ≤ 57)
theorem digB_iff (c : UInt8) : digB c = true ↔ 48 ≤ c.toNat ∧ c.toNat ≤ 57 := by simp [digB]
theorem numL_lt (xs : List UInt8) : xs.all digB = true → numL xs < 10 ^ xs.length := by
  refine snoc_rec (P := fun xs => xs.all digB = true → numL xs < 10 ^ xs.length) ?_ ?_ xs
  · intro _; simp [numL]
  · intro xs c ih h
    rw [List.all_append, Bool.and_eq_true] at h
    have h1 := ih h.1
    have h2 : digB c = true := by simpa using h.2
    rw [digB_iff] at h2
    rw [numL_snoc, List.length_append, List.length_singleton, Nat.pow_succ]
    omega
/-- Are these the digits of a number: one to ten, no nought ahead? -/
def formB (xs : List UInt8) : Bool := decide (1 ≤ xs.length) && (decide (xs.length ≤ 10) && (!(xs.getD 0 0 == 48 && decide (1 < xs.length)) && xs.all digB))
def parseB (xs : List UInt8) (most : Int) : Bool := formB xs && decide ((numL xs : Int) ≤ most)
def parseV (xs : List UInt8) (most : Int) : Int := if parseB xs most = true then (numL xs : Int) else 0

theorem form_not {xs : List UInt8} {most : Int} (h : formB xs = false) : parseB xs most = false ∧ parseV xs most = 0 := by
  have h1 : parseB xs most = false := by simp [parseB, h]
  exact ⟨h1, by simp [parseV, h1]⟩
theorem form_short {xs : List UInt8} (h : xs.length < 1) : formB xs = false := by
  unfold formB; rw [decide_eq_false (by omega)]; rfl
theorem form_long {xs : List UInt8} (h : 10 < xs.length) : formB xs = false := by
  unfold formB; rw [decide_eq_false (p := xs.length ≤ 10) (by omega)]; simp
theorem form_nought {xs : List UInt8} (h : xs.getD 0 0 = 48) (h1 : 1 < xs.length) : formB xs = false := by
  unfold formB; rw [h, decide_eq_true h1]; simp
theorem form_strange {xs : List UInt8} {k : Nat} (hk : k < xs.length) (h : digB (xs.getD k 0) = false) : formB xs = false := by
  have h1 : xs.all digB = false := by
    rw [List.all_eq_false]
    refine ⟨xs[k], List.getElem_mem hk, ?_⟩
    rw [List.getD_eq_getElem?_getD, List.getElem?_eq_getElem hk] at h
    simpa using h
  unfold formB; rw [h1]; simp
theorem form_yes {xs : List UInt8} (h1 : 1 ≤ xs.length) (h2 : xs.length ≤ 10) (h3 : ¬ (xs.getD 0 0 = 48 ∧ 1 < xs.length)) (h4 : xs.all digB = true) : formB xs = true := by
  unfold formB
  rw [decide_eq_true h1, decide_eq_true h2, h4]
  have h5 : (xs.getD 0 0 == 48 && decide (1 < xs.length)) = false := by
    rw [Bool.and_eq_false_iff]
    by_cases e : xs.getD 0 0 = 48
    · right; exact decide_eq_false (fun e1 => h3 ⟨e, e1⟩)
    · left; exact beq_eq_false_iff_ne.2 e
  rw [h5]; rfl
theorem parse_yes {xs : List UInt8} {most : Int} (h : formB xs = true) (hm : (numL xs : Int) ≤ most) : parseB xs most = true ∧ parseV xs most = numL xs := by
  have h1 : parseB xs most = true := by simp [parseB, h, hm]
  exact ⟨h1, by simp [parseV, h1]⟩
theorem parse_most {xs : List UInt8} {most : Int} (hm : most < (numL xs : Int)) : parseB xs most = false ∧ parseV xs most = 0 := by
  have h1 : parseB xs most = false := by simp [parseB]; omega
  exact ⟨h1, by simp [parseV, h1]⟩

end Go.Proofs.YtmdapcmdlblnnaaDoor.Dg
/- The contracts of the two functions that read a number from decimal digits (digits.Parse and the document's answer): at any text and any bound they give the same. -/
namespace Go.Proofs.YtmdapcmdlblnnaaDoor.Dg
set_option maxRecDepth 100000
open Go.RowKit Go By

theorem byte_of (s : ByteArray) (k : Nat) (h : k < s.size) : s.data.toList.getD k 0 = s[k] := by
  rw [List.getD_eq_getElem?_getD, List.getElem?_eq_getElem (by simpa using h)]; rfl
theorem len_of (s : ByteArray) : s.data.toList.length = s.size := by simp
theorem take_next (s : ByteArray) (k : Nat) (h : k < s.size) : s.data.toList.take (k + 1) = s.data.toList.take k ++ [s[k]] := by
  rw [List.take_succ_eq_append_getElem (by simpa using h)]; rfl
theorem take_all (s : ByteArray) : s.data.toList.take s.size = s.data.toList := List.take_of_length_le (by simp)
def parsed (xs : List UInt8) (most : Int) : Value := .tuple #[.int .i64 (parseV xs most), .bool (parseB xs most)]
theorem parsed_not {xs : List UInt8} (most : Int) (h : formB xs = false) : parsed xs most = .tuple #[.int .i64 0, .bool false] := by
  unfold parsed; rw [(form_not h).1, (form_not h).2]
theorem parsed_strange {s : ByteArray} (most : Int) {k : Nat} (hk : k < s.size) (h : ¬ (48 ≤ s[k].toNat ∧ s[k].toNat ≤ 57)) : parsed s.data.toList most = .tuple #[.int .i64 0, .bool false] := by
  refine parsed_not most (form_strange (k := k) (by rw [len_of]; exact hk) ?_)
  rw [byte_of s k hk]
  cases hd : digB s[k] with
  | false => rfl
  | true => exact absurd ((digB_iff _).1 hd) h
/-- What the loop holds behind k rounds. -/
theorem parsed_end {s : ByteArray} {most : Int} (h1 : 1 ≤ s.size) (h2 : s.size ≤ 10) (h3 : ¬ (s.data.toList.getD 0 0 = 48 ∧ 1 < s.size)) (h4 : (s.data.toList.take s.size).all digB = true) :
    parsed s.data.toList most = if most < (numL (s.data.toList.take s.size) : Int) then .tuple #[.int .i64 0, .bool false] else .tuple #[.int .i64 (numL (s.data.toList.take s.size)), .bool true] := by
  rw [take_all] at h4 ⊢
  have hf : formB s.data.toList = true := form_yes (by rw [len_of]; exact h1) (by rw [len_of]; exact h2) (by rw [len_of]; exact h3) h4
  unfold parsed
  by_cases hm : most < (numL s.data.toList : Int)
  · rw [if_pos hm, (parse_most hm).1, (parse_most hm).2]
  · rw [if_neg hm, (parse_yes hf (by omega)).1, (parse_yes hf (by omega)).2]
theorem all_next {s : ByteArray} {k : Nat} (hk : k < s.size) (h : (s.data.toList.take k).all digB = true) (h1 : 48 ≤ s[k].toNat) (h2 : s[k].toNat ≤ 57) : (s.data.toList.take (k + 1)).all digB = true := by
  rw [take_next s k hk, List.all_append, h]
  simp [digB, h1, h2]
theorem num_next {s : ByteArray} {k : Nat} (hk : k < s.size) (h1 : 48 ≤ s[k].toNat) : (numL (s.data.toList.take (k + 1)) : Int) = (numL (s.data.toList.take k) : Int) * 10 + ((s[k].toNat : Int) - 48) := by
  rw [take_next s k hk, numL_snoc]; omega
theorem num_bound {s : ByteArray} {k : Nat} (h : (s.data.toList.take k).all digB = true) (hk : k ≤ 10) : numL (s.data.toList.take k) ≤ 10000000000 := by
  have h1 := numL_lt _ h
  have h2 : (s.data.toList.take k).length ≤ 10 := Nat.le_trans (List.length_take_le _ _) hk
  have h3 : 10 ^ (s.data.toList.take k).length ≤ 10 ^ 10 := Nat.pow_le_pow_right (by omega) h2
  omega

set_option maxHeartbeats 400000 in
theorem parse_loop (s : ByteArray) (most : Int) (w : World) (h1 : 1 ≤ s.size) (h2 : s.size ≤ 10) (h3 : ¬ (s.data.toList.getD 0 0 = 48 ∧ 1 < s.size)) :
    Calls Tryd.prog 64 #[.string s, .int .i64 most] w fun e w' => e = .returned (parsed s.data.toList most) ∧ w = w' := by
  have H3 := Lib.hid h3
  have h0 : 0 < s.size := h1
  have hc : ((s[0].toNat : Int) == 48) = false ∨ (((s[0].toNat : Int) == 48) = true ∧ s.size ≤ 1) := by
    rw [byte_of s 0 h0] at h3
    by_cases e : s[0].toNat = 48
    · right
      refine ⟨by simp [e], ?_⟩
      rcases Nat.lt_or_ge 1 s.size with h | h
      · exact absurd ⟨by apply UInt8.toNat_inj.1; simpa using e, h⟩ h3
      · exact h
    · left; simp; omega
  clear h3
  rcases hc with hc | ⟨hc, hs1⟩
  all_goals
    go_enter Tryd.func64, Tryd.ntmps64
    go_wp2
    clear hc
    go_loop [6, 28] (fun n i => ∃ k : Nat, k ≤ s.size ∧ i = .int .i64 k ∧ n = .int .i64 (numL (s.data.toList.take k)) ∧ (s.data.toList.take k).all digB = true) (fun _ i => s.size - (intOf i).toNat)
    case atStart => exact ⟨0, Nat.zero_le _, rfl, rfl, rfl⟩
    case round =>
      obtain ⟨k, hk, rfl, rfl, hall⟩ := hrel
      have HA := Lib.hid hall
      have hb := num_bound hall (by omega)
      clear hall
      by_cases hlt : k < s.size
      · by_cases hlo : s[k].toNat < 48
        · have HE := Lib.hid (parsed_strange most hlt (by omega))
          go_wp2
          go_ret2
          exact ⟨by rw [HE.out]; rfl, rfl⟩
        · by_cases hhi : 57 < s[k].toNat
          · have HE := Lib.hid (parsed_strange most hlt (by omega))
            go_wp2
            go_ret2
            exact ⟨by rw [HE.out]; rfl, rfl⟩
          · have HN := Lib.hid (num_next hlt (by omega))
            go_wp2
            go_round
            case rel => exact ⟨k + 1, by omega, by go_num, by rw [HN.out], all_next hlt HA.out (by omega) (by omega)⟩
            case measure => simp [intOf]; omega
      · obtain rfl : k = s.size := by omega
        have HE := Lib.hid (parsed_end (most := most) h1 h2 H3.out HA.out)
        by_cases hm : most < (numL (s.data.toList.take s.size) : Int)
        · go_wp2
          go_ret2
          exact ⟨by rw [HE.out, if_pos hm]; rfl, rfl⟩
        · go_wp2
          go_ret2
          exact ⟨by rw [HE.out, if_neg (by omega)]; rfl, rfl⟩

theorem parse_any (s : ByteArray) (most : Int) (w : World) (hm : s.size ≤ maxLen) :
    Calls Tryd.prog 64 #[.string s, .int .i64 most] w fun e w' => e = .returned (parsed s.data.toList most) ∧ w = w' := by
  unfold maxLen at hm
  by_cases h1 : s.size < 1
  · have hn : s.size = 0 := by omega
    rw [parsed_not most (form_short (by rw [len_of]; exact h1))]
    clear hn
    go_enter Tryd.func64, Tryd.ntmps64
    go_wp2
    go_ret2
    exact ⟨rfl, rfl⟩
  · by_cases h2 : 10 < s.size
    · rw [parsed_not most (form_long (by rw [len_of]; exact h2))]
      go_enter Tryd.func64, Tryd.ntmps64
      go_wp2
      go_ret2
      exact ⟨rfl, rfl⟩
    · by_cases h3 : s.data.toList.getD 0 0 = 48 ∧ 1 < s.size
      · rw [parsed_not most (form_nought h3.1 (by rw [len_of]; exact h3.2))]
        have h0 : 0 < s.size := by omega
        have h4 := h3.2
        have hc : ((s[0].toNat : Int) == 48) = true := by
          have := h3.1
          rw [byte_of s 0 h0] at this
          rw [this]; rfl
        clear h3
        go_enter Tryd.func64, Tryd.ntmps64
        go_wp2
        go_ret2
        exact ⟨rfl, rfl⟩
      · exact parse_loop s most w (by omega) (by omega) h3

end Go.Proofs.YtmdapcmdlblnnaaDoor.Dg
namespace Go.Proofs.YtmdapcmdlblnnaaDoor.Dg
set_option maxRecDepth 100000
open Go.RowKit Go By

end Go.Proofs.YtmdapcmdlblnnaaDoor.Dg
