/- The contracts of the functions that tell a number in decimal digits (digits.Text and the document's answer): at any number they give the same text. -/
import Derived.Test.YtdijlfgmpinidaaQElems
import Derived.Test.YtdijlfgmpinidaaRows
import Derived.Test.YtdijlfgmpinidaaQNumD
import Derived.Lib.Bytealg
/- Plain words on decimal digits: the digits of a number, the number of digits, and that the two belong together. No program is named here. -/
namespace Go.Proofs.Ytdijlfgmpinidaa.Dg
open Go.RowKit Go By

theorem snoc_rec {α : Type} {P : List α → Prop} (nil : P []) (snoc : ∀ xs c, P xs → P (xs ++ [c])) (xs : List α) : P xs := by
  have h : ∀ ys : List α, P ys.reverse := by
    intro ys
    induction ys with
    | nil => exact nil
    | cons c t ih => rw [List.reverse_cons]; exact snoc _ _ ih
  have := h xs.reverse
  rwa [List.reverse_reverse] at this

/-- The digits of a number. -/
def digsN (m : Nat) : List UInt8 := if m < 10 then [UInt8.ofNat (48 + m)] else digsN (m / 10) ++ [UInt8.ofNat (48 + m % 10)]
termination_by m
decreasing_by omega
theorem digsN_small {m : Nat} (h : m < 10) : digsN m = [UInt8.ofNat (48 + m)] := by rw [digsN, if_pos h]
theorem digsN_big {m : Nat} (h : ¬ m < 10) : digsN m = digsN (m / 10) ++ [UInt8.ofNat (48 + m % 10)] := by rw [digsN, if_neg h]
theorem digsN_pos (m : Nat) : 1 ≤ (digsN m).length := by
  by_cases h : m < 10
  · rw [digsN_small h]; simp
  · rw [digsN_big h]; simp
theorem digsN_len : ∀ (k m : Nat), m < 10 ^ (k + 1) → (digsN m).length ≤ k + 1
  | 0, m, h => by rw [digsN_small (by omega)]; simp
  | k + 1, m, h => by
    by_cases h1 : m < 10
    · rw [digsN_small h1]; simp
    · rw [digsN_big h1, List.length_append]
      have := digsN_len k (m / 10) (by rw [Nat.pow_succ] at h; omega)
      simp; omega
/-- A number in digits, with its sign. -/
def textL (n : Int) : List UInt8 := if n < 0 then 45 :: digsN n.natAbs else digsN n.toNat

/-- The number that digits are. -/
def numL (xs : List UInt8) : Nat := xs.foldl (fun n c => n * 10 + (c.toNat - 48)) 0
theorem numL_nil : numL [] = 0 := rfl
theorem numL_snoc (xs : List UInt8) (c : UInt8) : numL (xs ++ [c]) = numL xs * 10 + (c.toNat - 48) := by simp [numL]
def digB (c : UInt8) : Bool := decide (48 ≤ c.toNat) && decide (c.toNat ≤ 57)
theorem digB_iff (c : UInt8) : digB c = true ↔ 48 ≤ c.toNat ∧ c.toNat ≤ 57 := by simp [digB]
theorem numL_lt (xs : List UInt8) : xs.all digB = true → numL xs < 10 ^ xs.length := by
  refine snoc_rec (P := fun xs => xs.all digB = true → numL xs < 10 ^ xs.length) ?_ ?_ xs
  · intro _; simp [numL]
  · intro xs c ih h
    rw [List.all_append, Bool.and_eq_true] at h
    have h1 := ih h.1
    have h2 : digB c = true := by simpa using h.2
    rw [digB_iff] at h2
    rw [numL_snoc, List.length_append, List.length_singleton, Nat.pow_succ]
    omega
/-- Are these the digits of a number: one to ten, no nought ahead? -/
def formB (xs : List UInt8) : Bool := decide (1 ≤ xs.length) && (decide (xs.length ≤ 10) && (!(xs.getD 0 0 == 48 && decide (1 < xs.length)) && xs.all digB))
def parseB (xs : List UInt8) (most : Int) : Bool := formB xs && decide ((numL xs : Int) ≤ most)
def parseV (xs : List UInt8) (most : Int) : Int := if parseB xs most = true then (numL xs : Int) else 0

theorem form_not {xs : List UInt8} {most : Int} (h : formB xs = false) : parseB xs most = false ∧ parseV xs most = 0 := by
  have h1 : parseB xs most = false := by simp [parseB, h]
  exact ⟨h1, by simp [parseV, h1]⟩
theorem form_short {xs : List UInt8} (h : xs.length < 1) : formB xs = false := by
  unfold formB; rw [decide_eq_false (by omega)]; rfl
theorem form_long {xs : List UInt8} (h : 10 < xs.length) : formB xs = false := by
  unfold formB; rw [decide_eq_false (p := xs.length ≤ 10) (by omega)]; simp
theorem form_nought {xs : List UInt8} (h : xs.getD 0 0 = 48) (h1 : 1 < xs.length) : formB xs = false := by
  unfold formB; rw [h, decide_eq_true h1]; simp
theorem form_strange {xs : List UInt8} {k : Nat} (hk : k < xs.length) (h : digB (xs.getD k 0) = false) : formB xs = false := by
  have h1 : xs.all digB = false := by
    rw [List.all_eq_false]
    refine ⟨xs[k], List.getElem_mem hk, ?_⟩
    rw [List.getD_eq_getElem?_getD, List.getElem?_eq_getElem hk] at h
    simpa using h
  unfold formB; rw [h1]; simp
theorem form_yes {xs : List UInt8} (h1 : 1 ≤ xs.length) (h2 : xs.length ≤ 10) (h3 : ¬ (xs.getD 0 0 = 48 ∧ 1 < xs.length)) (h4 : xs.all digB = true) : formB xs = true := by
  unfold formB
  rw [decide_eq_true h1, decide_eq_true h2, h4]
  have h5 : (xs.getD 0 0 == 48 && decide (1 < xs.length)) = false := by
    rw [Bool.and_eq_false_iff]
    by_cases e : xs.getD 0 0 = 48
    · right; exact decide_eq_false (fun e1 => h3 ⟨e, e1⟩)
    · left; exact beq_eq_false_iff_ne.2 e
  rw [h5]; rfl
theorem parse_yes {xs : List UInt8} {most : Int} (h : formB xs = true) (hm : (numL xs : Int) ≤ most) : parseB xs most = true ∧ parseV xs most = numL xs := by
  have h1 : parseB xs most = true := by simp [parseB, h, hm]
  exact ⟨h1, by simp [parseV, h1]⟩
theorem parse_most {xs : List UInt8} {most : Int} (hm : most < (numL xs : Int)) : parseB xs most = false ∧ parseV xs most = 0 := by
  have h1 : parseB xs most = false := by simp [parseB]; omega
  exact ⟨h1, by simp [parseV, h1]⟩

/-- A list of digits without a nought ahead is the digits of its number. -/
theorem num_pos (xs : List UInt8) : xs.all digB = true → xs ≠ [] → xs.getD 0 0 ≠ 48 → 1 ≤ numL xs := by
  refine snoc_rec (P := fun xs => xs.all digB = true → xs ≠ [] → xs.getD 0 0 ≠ 48 → 1 ≤ numL xs) ?_ ?_ xs
  · intro _ h; exact absurd rfl h
  · intro xs c ih h _ h0
    rw [List.all_append, Bool.and_eq_true] at h
    have h2 : digB c = true := by simpa using h.2
    rw [digB_iff] at h2
    rw [numL_snoc]
    cases xs with
    | nil =>
      have : c.toNat ≠ 48 := fun e => h0 (by simpa using UInt8.toNat_inj.1 e)
      omega
    | cons x t =>
      have := ih h.1 (by simp) (by simpa using h0)
      omega
theorem digs_num (xs : List UInt8) : xs.all digB = true → xs ≠ [] → ¬ (xs.getD 0 0 = 48 ∧ 1 < xs.length) → digsN (numL xs) = xs := by
  refine snoc_rec (P := fun xs => xs.all digB = true → xs ≠ [] → ¬ (xs.getD 0 0 = 48 ∧ 1 < xs.length) → digsN (numL xs) = xs) ?_ ?_ xs
  · intro _ h; exact absurd rfl h
  · intro xs c ih h _ h0
    rw [List.all_append, Bool.and_eq_true] at h
    have h2 : digB c = true := by simpa using h.2
    rw [digB_iff] at h2
    rw [numL_snoc]
    have hc : UInt8.ofNat (48 + (c.toNat - 48)) = c := by
      rw [show 48 + (c.toNat - 48) = c.toNat from by omega]; simp
    cases xs with
    | nil =>
      rw [numL_nil, Nat.zero_mul, Nat.zero_add, digsN_small (by omega), hc]; rfl
    | cons x t =>
      have h48 : (x :: t).getD 0 0 ≠ 48 := fun e => h0 ⟨by simpa using e, by simp⟩
      have h1 := num_pos (x :: t) h.1 (by simp) h48
      have h3 := ih h.1 (by simp) (fun e => h48 e.1)
      rw [digsN_big (by omega), show (numL (x :: t) * 10 + (c.toNat - 48)) / 10 = numL (x :: t) from by omega, h3, show (numL (x :: t) * 10 + (c.toNat - 48)) % 10 = c.toNat - 48 from by omega, hc]
theorem digsN_all (m : Nat) : (digsN m).all digB = true := by
  induction m using digsN.induct with
  | case1 m h =>
    rw [digsN_small h]
    simp [digB, UInt8.toNat_ofNat']
    omega
  | case2 m h ih =>
    rw [digsN_big h, List.all_append, ih]
    simp [digB, UInt8.toNat_ofNat']
    omega
theorem num_digs (m : Nat) : numL (digsN m) = m := by
  induction m using digsN.induct with
  | case1 m h =>
    rw [digsN_small h]
    simp [numL, UInt8.toNat_ofNat']
    omega
  | case2 m h ih =>
    rw [digsN_big h, numL_snoc, ih, UInt8.toNat_ofNat']
    omega
theorem digsN_head (m : Nat) (h : 10 ≤ m) : (digsN m).getD 0 0 ≠ 48 := by
  induction m using digsN.induct with
  | case1 m h1 => omega
  | case2 m h1 ih =>
    rw [digsN_big h1]
    have hp := digsN_pos (m / 10)
    rw [List.getD_eq_getElem?_getD, List.getElem?_append_left (by omega), ← List.getD_eq_getElem?_getD]
    by_cases h2 : m / 10 < 10
    · rw [digsN_small h2]
      intro e
      have e1 := congrArg UInt8.toNat e
      simp [UInt8.toNat_ofNat'] at e1
      omega
    · exact ih (by omega)
/-- What is parsed of a number's digits. -/
theorem parse_digs (m : Nat) (h : m < 10000000000) : parseB (digsN m) m = true ∧ parseV (digsN m) m = m := by
  have h1 : formB (digsN m) = true := by
    refine form_yes (digsN_pos m) (digsN_len 9 m (by omega)) (fun e => ?_) (digsN_all m)
    rcases Nat.lt_or_ge m 10 with h2 | h2
    · rw [digsN_small h2] at e; simp at e
    · exact digsN_head m h2 e.1
  have := parse_yes (most := m) h1 (by rw [num_digs]; omega)
  rw [num_digs] at this
  exact this
/-- The digits of what was parsed. -/
theorem digs_parse (xs : List UInt8) (most : Int) (h : parseB xs most = true) : textL (parseV xs most) = xs := by
  have hf : formB xs = true := by simp [parseB] at h; exact h.1
  have hv : parseV xs most = numL xs := by simp [parseV, h]
  simp only [formB, Bool.and_eq_true, decide_eq_true_eq] at hf
  have h3 : ¬ (xs.getD 0 0 = 48 ∧ 1 < xs.length) := by
    intro e
    have := hf.2.2.1
    rw [e.1, decide_eq_true e.2] at this
    simp at this
  rw [hv, textL, if_neg (by omega), Int.toNat_natCast]
  refine digs_num xs hf.2.2.2 (fun e => ?_) h3
  rw [e] at hf
  simp at hf
theorem parse_no (xs : List UInt8) (most : Int) (h : parseB xs most = false) : parseV xs most = 0 := by simp [parseV, h]
end Go.Proofs.Ytdijlfgmpinidaa.Dg
/- The contracts of the two functions that read a number from decimal digits (digits.Parse and the document's answer): at any text and any bound they give the same. -/
namespace Go.Proofs.Ytdijlfgmpinidaa.Dg
open Go.RowKit Go By

theorem byte_of (s : ByteArray) (k : Nat) (h : k < s.size) : s.data.toList.getD k 0 = s[k] := by
  rw [List.getD_eq_getElem?_getD, List.getElem?_eq_getElem (by simpa using h)]; rfl
theorem len_of (s : ByteArray) : s.data.toList.length = s.size := by simp
theorem take_next (s : ByteArray) (k : Nat) (h : k < s.size) : s.data.toList.take (k + 1) = s.data.toList.take k ++ [s[k]] := by
  rw [List.take_succ_eq_append_getElem (by simpa using h)]; rfl
theorem take_all (s : ByteArray) : s.data.toList.take s.size = s.data.toList := List.take_of_length_le (by simp)
def parsed (xs : List UInt8) (most : Int) : Value := .tuple #[.int .i64 (parseV xs most), .bool (parseB xs most)]
theorem parsed_not {xs : List UInt8} (most : Int) (h : formB xs = false) : parsed xs most = .tuple #[.int .i64 0, .bool false] := by
  unfold parsed; rw [(form_not h).1, (form_not h).2]
theorem parsed_strange {s : ByteArray} (most : Int) {k : Nat} (hk : k < s.size) (h : ¬ (48 ≤ s[k].toNat ∧ s[k].toNat ≤ 57)) : parsed s.data.toList most = .tuple #[.int .i64 0, .bool false] := by
  refine parsed_not most (form_strange (k := k) (by rw [len_of]; exact hk) ?_)
  rw [byte_of s k hk]
  cases hd : digB s[k] with
  | false => rfl
  | true => exact absurd ((digB_iff _).1 hd) h
/-- What the loop holds behind k rounds. -/
theorem parsed_end {s : ByteArray} {most : Int} (h1 : 1 ≤ s.size) (h2 : s.size ≤ 10) (h3 : ¬ (s.data.toList.getD 0 0 = 48 ∧ 1 < s.size)) (h4 : (s.data.toList.take s.size).all digB = true) :
    parsed s.data.toList most = if most < (numL (s.data.toList.take s.size) : Int) then .tuple #[.int .i64 0, .bool false] else .tuple #[.int .i64 (numL (s.data.toList.take s.size)), .bool true] := by
  rw [take_all] at h4 ⊢
  have hf : formB s.data.toList = true := form_yes (by rw [len_of]; exact h1) (by rw [len_of]; exact h2) (by rw [len_of]; exact h3) h4
  unfold parsed
  by_cases hm : most < (numL s.data.toList : Int)
  · rw [if_pos hm, (parse_most hm).1, (parse_most hm).2]
  · rw [if_neg hm, (parse_yes hf (by omega)).1, (parse_yes hf (by omega)).2]
theorem all_next {s : ByteArray} {k : Nat} (hk : k < s.size) (h : (s.data.toList.take k).all digB = true) (h1 : 48 ≤ s[k].toNat) (h2 : s[k].toNat ≤ 57) : (s.data.toList.take (k + 1)).all digB = true := by
  rw [take_next s k hk, List.all_append, h]
  simp [digB, h1, h2]
theorem num_next {s : ByteArray} {k : Nat} (hk : k < s.size) (h1 : 48 ≤ s[k].toNat) : (numL (s.data.toList.take (k + 1)) : Int) = (numL (s.data.toList.take k) : Int) * 10 + ((s[k].toNat : Int) - 48) := by
  rw [take_next s k hk, numL_snoc]; omega
theorem num_bound {s : ByteArray} {k : Nat} (h : (s.data.toList.take k).all digB = true) (hk : k ≤ 10) : numL (s.data.toList.take k) ≤ 10000000000 := by
  have h1 := numL_lt _ h
  have h2 : (s.data.toList.take k).length ≤ 10 := Nat.le_trans (List.length_take_le _ _) hk
  have h3 : 10 ^ (s.data.toList.take k).length ≤ 10 ^ 10 := Nat.pow_le_pow_right (by omega) h2
  omega

end Go.Proofs.Ytdijlfgmpinidaa.Dg
namespace Go.Proofs.Ytdijlfgmpinidaa.Dg
set_option maxRecDepth 100000
open Go.RowKit Go By

theorem wrap_u64_small (x : Int) (h0 : 0 ≤ x) (h1 : x ≤ 9223372036854775808) : IntKind.u64.wrap x = x := by
  rw [IntKind.wrap_u64]; omega
theorem u64_eq {a b : Int} (h : a = b) : Value.int .u64 a = Value.int .u64 b := by rw [h]
theorem digsN_le20 (m : Nat) (hm : m ≤ 9223372036854775808) : (digsN m).length ≤ 20 := digsN_len 19 m (by omega)

/-- The digits of m, put into a slice from its end: what the slice holds behind i rounds. -/
def fill (m i : Nat) : List UInt8 := List.replicate ((digsN m).length - i) 0 ++ (digsN m).drop ((digsN m).length - i)
theorem fill_length (m i : Nat) : (fill m i).length = (digsN m).length := by simp [fill]
theorem fill_all (m : Nat) : fill m (digsN m).length = digsN m := by simp [fill]
theorem digsN_last (k : Nat) : ∃ init, digsN k = init ++ [UInt8.ofNat (48 + k % 10)] := by
  by_cases h : k < 10
  · exact ⟨[], by rw [digsN_small h, Nat.mod_eq_of_lt h]; rfl⟩
  · exact ⟨_, digsN_big h⟩
theorem fill_next (m i k : Nat) (hi : i < (digsN m).length) (ht : (digsN m).take ((digsN m).length - i) = digsN k) :
    (fill m i).set ((digsN m).length - 1 - i) (UInt8.ofNat (48 + k % 10)) = fill m (i + 1) ∧ (i + 1 < (digsN m).length → (digsN m).take ((digsN m).length - (i + 1)) = digsN (k / 10)) := by
  generalize hL : digsN m = L at *
  obtain ⟨d, hd⟩ : ∃ d, L.length - i = d + 1 := ⟨L.length - i - 1, by omega⟩
  have hd1 : L.length - 1 - i = d := by omega
  have hd2 : L.length - (i + 1) = d := by omega
  have hdl : d < L.length := by omega
  rw [hd] at ht
  have htk : L.take (d + 1) = L.take d ++ [L[d]] := List.take_succ_eq_append_getElem hdl
  constructor
  · obtain ⟨init, hi2⟩ := digsN_last k
    have h1 : L.take d ++ [L[d]] = init ++ [UInt8.ofNat (48 + k % 10)] := by rw [← htk, ht, hi2]
    have h2 : L[d] = UInt8.ofNat (48 + k % 10) := by
      have := List.append_inj_right' h1 rfl
      injection this
    unfold fill
    rw [hL, hd, hd1, hd2, List.replicate_succ', List.append_assoc, List.set_append_right _ _ (by simp)]
    simp only [List.length_replicate, Nat.sub_self]
    rw [List.drop_eq_getElem_cons hdl, h2]
    rfl
  · intro h
    rw [hd2]
    rcases Nat.lt_or_ge k 10 with hk | hk
    · exfalso
      rw [digsN_small hk] at ht
      have := congrArg List.length ht
      simp at this
      omega
    · rw [digsN_big (by omega), htk] at ht
      have := List.append_inj_left' ht rfl
      exact this
theorem vals_set (xs : List UInt8) (i : Nat) (c : UInt8) : (vals xs).set i (.int .u8 (c.toNat : Int)) = vals (xs.set i c) := by simp [vals, List.map_set]
theorem minus_str (xs : List UInt8) : (⟨#[45]⟩ : ByteArray) ++ strB xs = strB (45 :: xs) := by
  apply ByteArray.ext
  apply Array.toList_inj.1
  simp [strB]

theorem u8_digit (k : Nat) : ((UInt8.ofNat (48 + k % 10)).toNat : Int) = 48 + (k : Int) % 10 := by
  rw [UInt8.toNat_ofNat']; omega

/-- The ten digits, cut out. -/
theorem ten_cut (r : Nat) (h : r < 10) : (⟨#[48, 49, 50, 51, 52, 53, 54, 55, 56, 57]⟩ : ByteArray).extract r (r + 1) = strB [UInt8.ofNat (48 + r)] := by
  apply ByteArray.ext
  apply Array.toList_inj.1
  rcases r with _ | _ | _ | _ | _ | _ | _ | _ | _ | _ | r
  all_goals first | rfl | omega
theorem str_append (xs ys : List UInt8) : strB xs ++ strB ys = strB (xs ++ ys) := by
  apply ByteArray.ext
  apply Array.toList_inj.1
  simp [strB]
theorem ret_str {a b : ByteArray} (h : a = b) : Ending.returned (.string a) = .returned (.string b) := by rw [h]
/-- Has the text no byte 0? -/
def cleanB (xs : List UInt8) : Bool := !xs.contains 0
theorem indexByte_neg (xs : List UInt8) : decide (Lib.indexByte xs 0 < 0) = cleanB xs := by
  induction xs with
  | nil => rfl
  | cons b t ih =>
    have hge := Lib.indexByte_ge t 0
    unfold Lib.indexByte cleanB
    by_cases hb : b = 0
    · subst hb; simp
    · have h1 : (b == 0) = false := by simpa using hb
      have h2 : (0 == b) = false := by simpa using fun e : 0 = b => hb e.symm
      rw [List.contains_cons, h1, h2, Bool.false_or]
      unfold cleanB at ih
      rw [← ih]
      by_cases h3 : Lib.indexByte t 0 = -1
      · simp [h3]
      · have h4 : (Lib.indexByte t 0 == -1) = false := by simpa using h3
        simp [h4]; omega
theorem clean_any (s : ByteArray) (w : World) :
    Calls Try.prog 41 #[.string s] w fun e w' => e = .returned (.bool (cleanB s.data.toList)) ∧ w = w' := by
  go_enter Try.func41, Try.ntmps41
  go_wp2
  rw [run_callFunc_extern Try.func50 (by kernel_rfl) (by kernel_rfl) (by kernel_rfl) (e := Extern.BytealgIndexByte.indexByte) (by kernel_rfl), Lib.run_indexByteString]
  simp only [Result.andThen]
  rw [Oper.upon_value]
  go_wp2
  go_ret
  exact ⟨by rw [← indexByte_neg]; rfl, rfl⟩
theorem clean_no {xs : List UInt8} {k : Nat} (hk : k < xs.length) (h : xs.getD k 0 = 0) : cleanB xs = false := by
  have : xs.contains 0 = true := by
    rw [List.contains_iff_mem, ← h, List.getD_eq_getElem?_getD, List.getElem?_eq_getElem hk]
    exact List.getElem_mem hk
  simp [cleanB] at this ⊢
  exact this
theorem clean_yes {xs : List UInt8} (h : ∀ k, k < xs.length → xs.getD k 0 ≠ 0) : cleanB xs = true := by
  simp only [cleanB, Bool.not_eq_true', ← Bool.not_eq_true, List.contains_iff_mem]
  intro hm
  obtain ⟨k, hk, he⟩ := List.mem_iff_getElem.1 hm
  exact h k hk (by rw [List.getD_eq_getElem?_getD, List.getElem?_eq_getElem hk, he]; rfl)

end Go.Proofs.Ytdijlfgmpinidaa.Dg
