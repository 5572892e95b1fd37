import Derived.Test.YtknohkmpficjgaaGreatDoorQElems
import Derived.Test.YtknohkmpficjgaaGreatDoorRows
import Derived.Test.YtknohkmpficjgaaGreatDoorQNumD
import Derived.Lib.Bytealg
set_option linter.unusedSimpArgs false
set_option linter.unusedVariables false
namespace Go.Proofs.YtknohkmpficjgaaGreatDoor.Dg
open Go.RowKit Go By
theorem snoc_rec {α : Type} {P : List α -> Prop} (nil : P []) (snoc : ∀ xs c, P xs -> P (xs ++ [c])) (xs : List α) : P xs := by
 have h : ∀ ys : List α, P ys.reverse := by
  intro ys
  induction ys with
  | nil => exact nil
  | cons c t ih => rw [List.reverse_cons]; exact snoc _ _ ih
 have := h xs.reverse
 rwa [List.reverse_reverse] at this
def digsN (m : Nat) : List UInt8 := if m < 10 then [UInt8.ofNat (48 + m)] else digsN (m / 10) ++ [UInt8.ofNat (48 + m % 10)]
termination_by m
decreasing_by omega
theorem digsN_small {m : Nat} (h : m < 10) : digsN m = [UInt8.ofNat (48 + m)] := by rw [digsN, if_pos h]
theorem digsN_big {m : Nat} (h : ¬ m < 10) : digsN m = digsN (m / 10) ++ [UInt8.ofNat (48 + m % 10)] := by rw [digsN, if_neg h]
theorem digsN_pos (m : Nat) : 1 <= (digsN m).length := by
 by_cases h : m < 10
 ·rw [digsN_small h]; simp
 ·rw [digsN_big h]; simp
theorem digsN_len : ∀ (k m : Nat), m < 10 ^ (k + 1) -> (digsN m).length <= k + 1
 | 0, m, h => by rw [digsN_small (by omega)]; simp
 | k + 1, m, h => by
  by_cases h1 : m < 10
  ·rw [digsN_small h1]; simp
  ·rw [digsN_big h1, List.length_append]
   have := digsN_len k (m / 10) (by rw [Nat.pow_succ] at h; omega)
   simp; omega
def textL (n : Int) : List UInt8 := if n < 0 then 45 :: digsN n.natAbs else digsN n.toNat
def numL (xs : List UInt8) : Nat := xs.foldl (fun n c => n * 10 + (c.toNat - 48)) 0
theorem numL_snoc (xs : List UInt8) (c : UInt8) : numL (xs ++ [c]) = numL xs * 10 + (c.toNat - 48) := by simp [numL]
def digB (c : UInt8) : Bool := decide (48 <= c.toNat) && decide (c.toNat <= 57)
theorem digB_iff (c : UInt8) : digB c = true ↔ 48 <= c.toNat /\ c.toNat <= 57 := by simp [digB]
theorem numL_lt (xs : List UInt8) : xs.all digB = true -> numL xs < 10 ^ xs.length := by
 refine snoc_rec (P := fun xs => xs.all digB = true -> numL xs < 10 ^ xs.length) ?_ ?_ xs
 ·intro _; simp [numL]
 ·intro xs c ih h
  rw [List.all_append, Bool.and_eq_true] at h
  have h1 := ih h.1
  have h2 : digB c = true := by simpa using h.2
  rw [digB_iff] at h2
  rw [numL_snoc, List.length_append, List.length_singleton, Nat.pow_succ]
  omega
def formB (xs : List UInt8) : Bool := decide (1 <= xs.length) && (decide (xs.length <= 10) && (!(xs.getD 0 0 == 48 && decide (1 < xs.length)) && xs.all digB))
def parseB (xs : List UInt8) (most : Int) : Bool := formB xs && decide ((numL xs : Int) <= most)
def parseV (xs : List UInt8) (most : Int) : Int := if parseB xs most = true then (numL xs : Int) else 0
theorem form_not {xs : List UInt8} {most : Int} (h : formB xs = false) : parseB xs most = false /\ parseV xs most = 0 := by
 have h1 : parseB xs most = false := by simp [parseB, h]
 exact ⟨h1, by simp [parseV, h1]⟩
theorem form_short {xs : List UInt8} (h : xs.length < 1) : formB xs = false := by
 unfold formB; rw [decide_eq_false (by omega)]; rfl
theorem form_long {xs : List UInt8} (h : 10 < xs.length) : formB xs = false := by
 unfold formB; rw [decide_eq_false (p := xs.length <= 10) (by omega)]; simp
theorem form_nought {xs : List UInt8} (h : xs.getD 0 0 = 48) (h1 : 1 < xs.length) : formB xs = false := by
 unfold formB; rw [h, decide_eq_true h1]; simp
theorem form_strange {xs : List UInt8} {k : Nat} (hk : k < xs.length) (h : digB (xs.getD k 0) = false) : formB xs = false := by
 have h1 : xs.all digB = false := by
  rw [List.all_eq_false]
  refine ⟨xs[k], List.getElem_mem hk, ?_⟩
  rw [List.getD_eq_getElem?_getD, List.getElem?_eq_getElem hk] at h
  simpa using h
 unfold formB; rw [h1]; simp
theorem form_yes {xs : List UInt8} (h1 : 1 <= xs.length) (h2 : xs.length <= 10) (h3 : ¬ (xs.getD 0 0 = 48 /\ 1 < xs.length)) (h4 : xs.all digB = true) : formB xs = true := by
 unfold formB
 rw [decide_eq_true h1, decide_eq_true h2, h4]
 have h5 : (xs.getD 0 0 == 48 && decide (1 < xs.length)) = false := by
  rw [Bool.and_eq_false_iff]
  by_cases e : xs.getD 0 0 = 48
  ·right; exact decide_eq_false (fun e1 => h3 ⟨e, e1⟩)
  ·left; exact beq_eq_false_iff_ne.2 e
 rw [h5]; rfl
theorem parse_yes {xs : List UInt8} {most : Int} (h : formB xs = true) (hm : (numL xs : Int) <= most) : parseB xs most = true /\ parseV xs most = numL xs := by
 have h1 : parseB xs most = true := by simp [parseB, h, hm]
 exact ⟨h1, by simp [parseV, h1]⟩
theorem parse_most {xs : List UInt8} {most : Int} (hm : most < (numL xs : Int)) : parseB xs most = false /\ parseV xs most = 0 := by
 have h1 : parseB xs most = false := by simp [parseB]; omega
 exact ⟨h1, by simp [parseV, h1]⟩
theorem digsN_all (m : Nat) : (digsN m).all digB = true := by
 induction m using digsN.induct with
 | case1 m h =>
  rw [digsN_small h]
  simp [digB, UInt8.toNat_ofNat']
  omega
 | case2 m h ih =>
  rw [digsN_big h, List.all_append, ih]
  simp [digB, UInt8.toNat_ofNat']
  omega
end Go.Proofs.YtknohkmpficjgaaGreatDoor.Dg
namespace Go.Proofs.YtknohkmpficjgaaGreatDoor.Dg
set_option maxRecDepth 100000
open Go.RowKit Go By
theorem byte_of (s : ByteArray) (k : Nat) (h : k < s.size) : s.data.toList.getD k 0 = s[k] := by
 rw [List.getD_eq_getElem?_getD, List.getElem?_eq_getElem (by simpa using h)]; rfl
theorem len_of (s : ByteArray) : s.data.toList.length = s.size := by simp
theorem take_next (s : ByteArray) (k : Nat) (h : k < s.size) : s.data.toList.take (k + 1) = s.data.toList.take k ++ [s[k]] := by
 rw [List.take_succ_eq_append_getElem (by simpa using h)]; rfl
theorem take_all (s : ByteArray) : s.data.toList.take s.size = s.data.toList := List.take_of_length_le (by simp)
def parsed (xs : List UInt8) (most : Int) : Value := .tuple #[.int .i64 (parseV xs most), .bool (parseB xs most)]
theorem parsed_not {xs : List UInt8} (most : Int) (h : formB xs = false) : parsed xs most = .tuple #[.int .i64 0, .bool false] := by
 unfold parsed; rw [(form_not h).1, (form_not h).2]
theorem parsed_strange {s : ByteArray} (most : Int) {k : Nat} (hk : k < s.size) (h : ¬ (48 <= s[k].toNat /\ s[k].toNat <= 57)) : parsed s.data.toList most = .tuple #[.int .i64 0, .bool false] := by
 refine parsed_not most (form_strange (k := k) (by rw [len_of]; exact hk) ?_)
 rw [byte_of s k hk]
 cases hd : digB s[k] with
 | false => rfl
 | true => exact absurd ((digB_iff _).1 hd) h
theorem parsed_end {s : ByteArray} {most : Int} (h1 : 1 <= s.size) (h2 : s.size <= 10) (h3 : ¬ (s.data.toList.getD 0 0 = 48 /\ 1 < s.size)) (h4 : (s.data.toList.take s.size).all digB = true) :
  parsed s.data.toList most = if most < (numL (s.data.toList.take s.size) : Int) then .tuple #[.int .i64 0, .bool false] else .tuple #[.int .i64 (numL (s.data.toList.take s.size)), .bool true] := by
 rw [take_all] at h4 ⊢
 have hf : formB s.data.toList = true := form_yes (by rw [len_of]; exact h1) (by rw [len_of]; exact h2) (by rw [len_of]; exact h3) h4
 unfold parsed
 by_cases hm : most < (numL s.data.toList : Int)
 ·rw [if_pos hm, (parse_most hm).1, (parse_most hm).2]
 ·rw [if_neg hm, (parse_yes hf (by omega)).1, (parse_yes hf (by omega)).2]
theorem all_next {s : ByteArray} {k : Nat} (hk : k < s.size) (h : (s.data.toList.take k).all digB = true) (h1 : 48 <= s[k].toNat) (h2 : s[k].toNat <= 57) : (s.data.toList.take (k + 1)).all digB = true := by
 rw [take_next s k hk, List.all_append, h]
 simp [digB, h1, h2]
theorem num_next {s : ByteArray} {k : Nat} (hk : k < s.size) (h1 : 48 <= s[k].toNat) : (numL (s.data.toList.take (k + 1)) : Int) = (numL (s.data.toList.take k) : Int) * 10 + ((s[k].toNat : Int) - 48) := by
 rw [take_next s k hk, numL_snoc]; omega
theorem num_bound {s : ByteArray} {k : Nat} (h : (s.data.toList.take k).all digB = true) (hk : k <= 10) : numL (s.data.toList.take k) <= 10000000000 := by
 have h1 := numL_lt _ h
 have h2 : (s.data.toList.take k).length <= 10 := Nat.le_trans (List.length_take_le _ _) hk
 have h3 : 10 ^ (s.data.toList.take k).length <= 10 ^ 10 := Nat.pow_le_pow_right (by omega) h2
 omega
set_option maxHeartbeats 400000 in
theorem parse_loop (s : ByteArray) (most : Int) (w : World) (h1 : 1 <= s.size) (h2 : s.size <= 10) (h3 : ¬ (s.data.toList.getD 0 0 = 48 /\ 1 < s.size)) :
  Calls Tryz.prog 186 #[.string s, .int .i64 most] w fun e w' => e = .returned (parsed s.data.toList most) /\ w = w' := by
 have H3 := Lib.hid h3
 have h0 : 0 < s.size := h1
 have hc : ((s[0].toNat : Int) == 48) = false \/ (((s[0].toNat : Int) == 48) = true /\ s.size <= 1) := by
  rw [byte_of s 0 h0] at h3
  by_cases e : s[0].toNat = 48
  ·right
   refine ⟨by simp [e], ?_⟩
   rcases Nat.lt_or_ge 1 s.size with h | h
   ·exact absurd ⟨by apply UInt8.toNat_inj.1; simpa using e, h⟩ h3
   ·exact h
  ·left; simp; omega
 clear h3
 rcases hc with hc | ⟨hc, hs1⟩
 all_goals
  go_enter Tryz.func186, Tryz.ntmps186
  go_wp2
  clear hc
  go_loop [6, 28] (fun n i => ∃ k : Nat, k <= s.size /\ i = .int .i64 k /\ n = .int .i64 (numL (s.data.toList.take k)) /\ (s.data.toList.take k).all digB = true) (fun _ i => s.size - (intOf i).toNat)
  case atStart => exact ⟨0, Nat.zero_le _, rfl, rfl, rfl⟩
  case round =>
   obtain ⟨k, hk, rfl, rfl, hall⟩ := hrel
   have HA := Lib.hid hall
   have hb := num_bound hall (by omega)
   clear hall
   by_cases hlt : k < s.size
   ·by_cases hlo : s[k].toNat < 48
    ·have HE := Lib.hid (parsed_strange most hlt (by omega))
     go_wp2
     go_ret2
     exact ⟨by rw [HE.out]; rfl, rfl⟩
    ·by_cases hhi : 57 < s[k].toNat
     ·have HE := Lib.hid (parsed_strange most hlt (by omega))
      go_wp2
      go_ret2
      exact ⟨by rw [HE.out]; rfl, rfl⟩
     ·have HN := Lib.hid (num_next hlt (by omega))
      go_wp2
      go_round
      case rel => exact ⟨k + 1, by omega, by go_num, by rw [HN.out], all_next hlt HA.out (by omega) (by omega)⟩
      case measure => simp [intOf]; omega
   ·obtain rfl : k = s.size := by omega
    have HE := Lib.hid (parsed_end (most := most) h1 h2 H3.out HA.out)
    by_cases hm : most < (numL (s.data.toList.take s.size) : Int)
    ·go_wp2
     go_ret2
     exact ⟨by rw [HE.out, if_pos hm]; rfl, rfl⟩
    ·go_wp2
     go_ret2
     exact ⟨by rw [HE.out, if_neg (by omega)]; rfl, rfl⟩
theorem parse_any (s : ByteArray) (most : Int) (w : World) (hm : s.size <= maxLen) :
  Calls Tryz.prog 186 #[.string s, .int .i64 most] w fun e w' => e = .returned (parsed s.data.toList most) /\ w = w' := by
 unfold maxLen at hm
 by_cases h1 : s.size < 1
 ·have hn : s.size = 0 := by omega
  rw [parsed_not most (form_short (by rw [len_of]; exact h1))]
  clear hn
  go_enter Tryz.func186, Tryz.ntmps186
  go_wp2
  go_ret2
  exact ⟨rfl, rfl⟩
 ·by_cases h2 : 10 < s.size
  ·rw [parsed_not most (form_long (by rw [len_of]; exact h2))]
   go_enter Tryz.func186, Tryz.ntmps186
   go_wp2
   go_ret2
   exact ⟨rfl, rfl⟩
  ·by_cases h3 : s.data.toList.getD 0 0 = 48 /\ 1 < s.size
   ·rw [parsed_not most (form_nought h3.1 (by rw [len_of]; exact h3.2))]
    have h0 : 0 < s.size := by omega
    have h4 := h3.2
    have hc : ((s[0].toNat : Int) == 48) = true := by
     have := h3.1
     rw [byte_of s 0 h0] at this
     rw [this]; rfl
    clear h3
    go_enter Tryz.func186, Tryz.ntmps186
    go_wp2
    go_ret2
    exact ⟨rfl, rfl⟩
   ·exact parse_loop s most w (by omega) (by omega) h3
theorem wrap_u64_small (x : Int) (h0 : 0 <= x) (h1 : x <= 9223372036854775808) : IntKind.u64.wrap x = x := by
 rw [IntKind.wrap_u64]; omega
theorem u64_eq {a b : Int} (h : a = b) : Value.int .u64 a = Value.int .u64 b := by rw [h]
theorem digsN_le20 (m : Nat) (hm : m <= 9223372036854775808) : (digsN m).length <= 20 := digsN_len 19 m (by omega)
set_option maxHeartbeats 400000 in
theorem places_any (m : Nat) (w : World) (hm : m <= 9223372036854775808) :
  Calls Tryz.prog 199 #[.int .u64 m] w fun e w' => e = .returned (.int .i64 (digsN m).length) /\ w = w' := by
 have HM := Lib.hid hm
 have HL := Lib.hid (digsN_le20 m hm)
 clear hm
 go_enter Tryz.func199, Tryz.ntmps199
 go_wp2
 go_loop [0, 3] (fun n c => ∃ k j : Nat, k <= m /\ n = .int .u64 k /\ c = .int .i64 j /\ j + (digsN k).length = (digsN m).length + 1 /\ j <= 100) (fun n _ => (intOf n).toNat)
 case atStart => exact ⟨m, 1, Nat.le_refl _, rfl, rfl, by omega, by omega⟩
 case round =>
  obtain ⟨k, j, hk, rfl, rfl, hj, hj2⟩ := hrel
  have HJ := Lib.hid hj
  clear hj
  by_cases hlt : k < 10
  ·go_wp2
   go_ret
   refine ⟨?_, rfl⟩
   have := HJ.out
   rw [digsN_small hlt, List.length_singleton] at this
   obtain rfl : j = (digsN m).length := by omega
   rfl
  ·go_wp2
   have hw : IntKind.u64.wrap ((k : Int) / 10) = ((k / 10 : Nat) : Int) := by rw [wrap_u64_small _ (by omega) (by have := HM.out; omega)]; omega
   go_round
   case rel =>
    refine ⟨k / 10, j + 1, by omega, u64_eq hw, by go_num, ?_, ?_⟩
    ·have := HJ.out
     rw [digsN_big hlt, List.length_append, List.length_singleton] at this
     omega
    ·have := HJ.out
     have := HL.out
     rw [digsN_big hlt, List.length_append, List.length_singleton] at *
     omega
   case measure =>
    simp only [intOf]
    show (IntKind.u64.wrap ((k : Int) / 10)).toNat < ((k : Int)).toNat
    rw [hw]; omega
def fill (m i : Nat) : List UInt8 := List.replicate ((digsN m).length - i) 0 ++ (digsN m).drop ((digsN m).length - i)
theorem fill_length (m i : Nat) : (fill m i).length = (digsN m).length := by simp [fill]
theorem fill_all (m : Nat) : fill m (digsN m).length = digsN m := by simp [fill]
theorem digsN_last (k : Nat) : ∃ init, digsN k = init ++ [UInt8.ofNat (48 + k % 10)] := by
 by_cases h : k < 10
 ·exact ⟨[], by rw [digsN_small h, Nat.mod_eq_of_lt h]; rfl⟩
 ·exact ⟨_, digsN_big h⟩
theorem fill_next (m i k : Nat) (hi : i < (digsN m).length) (ht : (digsN m).take ((digsN m).length - i) = digsN k) :
  (fill m i).set ((digsN m).length - 1 - i) (UInt8.ofNat (48 + k % 10)) = fill m (i + 1) /\ (i + 1 < (digsN m).length -> (digsN m).take ((digsN m).length - (i + 1)) = digsN (k / 10)) := by
 generalize hL : digsN m = L at *
 obtain ⟨d, hd⟩ : ∃ d, L.length - i = d + 1 := ⟨L.length - i - 1, by omega⟩
 have hd1 : L.length - 1 - i = d := by omega
 have hd2 : L.length - (i + 1) = d := by omega
 have hdl : d < L.length := by omega
 rw [hd] at ht
 have htk : L.take (d + 1) = L.take d ++ [L[d]] := List.take_succ_eq_append_getElem hdl
 constructor
 ·obtain ⟨init, hi2⟩ := digsN_last k
  have h1 : L.take d ++ [L[d]] = init ++ [UInt8.ofNat (48 + k % 10)] := by rw [<- htk, ht, hi2]
  have h2 : L[d] = UInt8.ofNat (48 + k % 10) := by
   have := List.append_inj_right' h1 rfl
   injection this
  unfold fill
  rw [hL, hd, hd1, hd2, List.replicate_succ', List.append_assoc, List.set_append_right _ _ (by simp)]
  simp only [List.length_replicate, Nat.sub_self]
  rw [List.drop_eq_getElem_cons hdl, h2]
  rfl
 ·intro h
  rw [hd2]
  rcases Nat.lt_or_ge k 10 with hk | hk
  ·exfalso
   rw [digsN_small hk] at ht
   have := congrArg List.length ht
   simp at this
   omega
  ·rw [digsN_big (by omega), htk] at ht
   have := List.append_inj_left' ht rfl
   exact this
theorem vals_set (xs : List UInt8) (i : Nat) (c : UInt8) : (vals xs).set i (.int .u8 (c.toNat : Int)) = vals (xs.set i c) := by simp [vals, List.map_set]
theorem minus_str (xs : List UInt8) : (⟨#[45]⟩ : ByteArray) ++ strB xs = strB (45 :: xs) := by
 apply ByteArray.ext
 apply Array.toList_inj.1
 simp [strB]
theorem u8_digit (k : Nat) : ((UInt8.ofNat (48 + k % 10)).toNat : Int) = 48 + (k : Int) % 10 := by
 rw [UInt8.toNat_ofNat']; omega
set_option maxHeartbeats 1000000 in
theorem text_pos (n : Int) (m : Nat) (w : World) (h : n = (m : Int)) (hm : m <= 9223372036854775807) :
  Calls Tryz.prog 142 #[.int .i64 n] w fun e w' => e = .returned (.string (strB (digsN m))) /\ Below w.heap.size w w' := by
 subst h
 obtain ⟨i0, hi, hz0, hz1, hz2⟩ := info_parts Nm.byte_info
 have HM := Lib.hid hm
 have HU : Hid (IntKind.u64.wrap (m : Int) = (m : Int)) := Lib.hid (by simp only [IntKind.wrap_u64]; omega)
 obtain ⟨c, HC⟩ : ∃ c, Hid ((digsN m).length = c) := ⟨_, rfl⟩
 have hc1 : 1 <= c := by have := digsN_pos m; have := HC.out; omega
 have hc20 : c <= 20 := by have := digsN_le20 m (by omega); have := HC.out; omega
 have HP : Hid (∀ W : World, Calls Tryz.prog 199 #[.int .u64 m] W fun e w' => e = .returned (.int .i64 c) /\ W = w') := Lib.hid fun W => by
  have := places_any m W (by omega)
  rw [HC.out] at this
  exact this
 clear hm
 go_enter Tryz.func142, Tryz.ntmps142
 go_wp2_with (first
  | (go_at_call 199; rw [HU.out]; refine (HP.out _).mono ?_; rintro e w' ⟨rfl, rfl⟩)
  | (at_make; refine wpList_make_bytes rfl _ _ 77 rfl 5 i0 Tryz.underlying77 hi hz0 hz1 hz2 .i64 .i64 c c _ _ rfl rfl rfl rfl (Nat.le_refl _) (by omega) ?_; intro w1 hg1 hb1 hs1))
 have HO : Hid (w1.ownsRow w.heap.size 5 1 (.slice (some ⟨w.heap.size, 0, none⟩) c c) c (vals (fill m 0))) := by
  have e0 : fill m 0 = List.replicate c 0 := by unfold fill; rw [HC.out]; simp [<- HC.out]
  have := OwnB.of_block (E := 5) (w := w1) (base := w.heap.size) (xs := fill m 0) (cap := c) hg1.out (Nat.le_refl _) (by simp) (by unfold maxLen; omega) (by rw [fill_length, HC.out]; exact Nat.le_refl _)
   (by rw [e0]; simp [vals])
  unfold OwnB at this
  rw [fill_length, HC.out] at this
  exact this
 have HB1 := Lib.hid hb1
 clear hg1 hb1 hs1
 go_loopw [3, 18] (fun r i wr => ∃ k j : Nat, k <= m /\ j <= c /\ r = .int .u64 k /\ i = .int .i64 j /\ wr.ownsRow w.heap.size 5 1 (.slice (some ⟨w.heap.size, 0, none⟩) c c) c (vals (fill m j)) /\ (j < c -> (digsN m).take (c - j) = digsN k) /\ Below w.heap.size w wr) (fun _ i _ => c - (intOf i).toNat)
 case atStart => exact ⟨m, 0, Nat.le_refl _, Nat.zero_le _, rfl, rfl, HO.out, fun _ => by rw [<- HC.out]; simp, HB1.out⟩
 case round =>
  obtain ⟨k, j, hk, hj, rfl, rfl, hown, hdig, hbw⟩ := hrel
  have HW := Lib.hid hown
  have HB := Lib.hid hbw
  have HD := Lib.hid hdig
  have HK : Hid (k <= 9223372036854775808) := Lib.hid (by have := HM.out; omega)
  clear hown hbw HB1 HO hdig
  by_cases hlt : j < c
  ·have hcell : wr.cell? ⟨w.heap.size, c - 1 - j, none⟩ = some (.int .u8 (byteAt (fill m j) (c - 1 - j))) := by
    rw [World.ownsRow.cellAt HW.out (c - 1 - j) (by omega)]
    exact vals_at _ _ (by rw [fill_length, HC.out]; omega)
   have hfroz := World.ownsRow.frozenAt HW.out (c - 1 - j)
   have HS := Lib.hid (World.ownsRow.stored HW.out (c - 1 - j) (.int .u8 (48 + (k : Int) % 10))).1
   have HF := Lib.hid (fill_next m j k (by rw [HC.out]; exact hlt) (by rw [HC.out]; exact HD.out hlt))
   go_wp2
   have hw : IntKind.u64.wrap ((k : Int) / 10) = ((k / 10 : Nat) : Int) := by rw [wrap_u64_small _ (by omega) (by have := HK.out; omega)]; omega
   go_roundw
   case rel =>
    refine ⟨k / 10, j + 1, by omega, by omega, u64_eq hw, by go_num, ?_, ?_, HB.out.setCell (Nat.le_refl _) _⟩
    ·have e := HF.out.1
     rw [HC.out] at e
     rw [<- e, <- vals_set, u8_digit]
     exact HS.out
    ·have e := HF.out.2
     rw [HC.out] at e
     exact e
   case measure => simp [intOf]; omega
  ·obtain rfl : j = c := by omega
   have hr : (convert 77 9 (.slice (some ⟨w.heap.size, 0, none⟩) j j)).run Tryz.prog wr = .ok (.string (strB (digsN m))) wr := by
    have hx : OwnB 5 wr w.heap.size (.slice (some ⟨w.heap.size, 0, none⟩) j j) (digsN m) := by
     have := HW.out
     unfold OwnB
     rw [HC.out]
     rw [<- HC.out, fill_all, HC.out] at this
     exact this
    obtain ⟨a, cap, e, _, _, hy⟩ := hx.at_
    injection e with e1 e2 e3
    subst e1
    have := run_convert_bytesAt (P := Tryz.prog) 77 5 9 Tryz.underlying77 Tryz.underlying5 Tryz.underlying9 wr _ _ j (digsN m) hy
    rw [HC.out] at this
    exact this
   have hsz : (strB (digsN m)).size <= 20 := by rw [strB_size, HC.out]; exact hc20
   go_wp2
   go_ret
   exact ⟨rfl, HB.out⟩
set_option maxHeartbeats 1000000 in
theorem text_neg (n : Int) (m : Nat) (w : World) (h : n = -(m : Int)) (h0 : 0 < m) (hm : m <= 9223372036854775808) :
  Calls Tryz.prog 142 #[.int .i64 n] w fun e w' => e = .returned (.string (strB (45 :: digsN m))) /\ Below w.heap.size w w' := by
 subst h
 obtain ⟨i0, hi, hz0, hz1, hz2⟩ := info_parts Nm.byte_info
 have HM := Lib.hid hm
 have HU : Hid (IntKind.u64.wrap (-IntKind.u64.wrap (-(m : Int))) = (m : Int)) := Lib.hid (by simp only [IntKind.wrap_u64]; omega)
 obtain ⟨c, HC⟩ : ∃ c, Hid ((digsN m).length = c) := ⟨_, rfl⟩
 have hc1 : 1 <= c := by have := digsN_pos m; have := HC.out; omega
 have hc20 : c <= 20 := by have := digsN_le20 m (by omega); have := HC.out; omega
 have HP : Hid (∀ W : World, Calls Tryz.prog 199 #[.int .u64 m] W fun e w' => e = .returned (.int .i64 c) /\ W = w') := Lib.hid fun W => by
  have := places_any m W (by omega)
  rw [HC.out] at this
  exact this
 clear hm
 go_enter Tryz.func142, Tryz.ntmps142
 go_wp2_with (first
  | (go_at_call 199; rw [HU.out]; refine (HP.out _).mono ?_; rintro e w' ⟨rfl, rfl⟩)
  | (at_make; refine wpList_make_bytes rfl _ _ 77 rfl 5 i0 Tryz.underlying77 hi hz0 hz1 hz2 .i64 .i64 c c _ _ rfl rfl rfl rfl (Nat.le_refl _) (by omega) ?_; intro w1 hg1 hb1 hs1))
 have HO : Hid (w1.ownsRow w.heap.size 5 1 (.slice (some ⟨w.heap.size, 0, none⟩) c c) c (vals (fill m 0))) := by
  have e0 : fill m 0 = List.replicate c 0 := by unfold fill; rw [HC.out]; simp [<- HC.out]
  have := OwnB.of_block (E := 5) (w := w1) (base := w.heap.size) (xs := fill m 0) (cap := c) hg1.out (Nat.le_refl _) (by simp) (by unfold maxLen; omega) (by rw [fill_length, HC.out]; exact Nat.le_refl _)
   (by rw [e0]; simp [vals])
  unfold OwnB at this
  rw [fill_length, HC.out] at this
  exact this
 have HB1 := Lib.hid hb1
 clear hg1 hb1 hs1
 go_loopw [3, 18] (fun r i wr => ∃ k j : Nat, k <= m /\ j <= c /\ r = .int .u64 k /\ i = .int .i64 j /\ wr.ownsRow w.heap.size 5 1 (.slice (some ⟨w.heap.size, 0, none⟩) c c) c (vals (fill m j)) /\ (j < c -> (digsN m).take (c - j) = digsN k) /\ Below w.heap.size w wr) (fun _ i _ => c - (intOf i).toNat)
 case atStart => exact ⟨m, 0, Nat.le_refl _, Nat.zero_le _, rfl, rfl, HO.out, fun _ => by rw [<- HC.out]; simp, HB1.out⟩
 case round =>
  obtain ⟨k, j, hk, hj, rfl, rfl, hown, hdig, hbw⟩ := hrel
  have HW := Lib.hid hown
  have HB := Lib.hid hbw
  have HD := Lib.hid hdig
  have HK : Hid (k <= 9223372036854775808) := Lib.hid (by have := HM.out; omega)
  clear hown hbw HB1 HO hdig
  by_cases hlt : j < c
  ·have hcell : wr.cell? ⟨w.heap.size, c - 1 - j, none⟩ = some (.int .u8 (byteAt (fill m j) (c - 1 - j))) := by
    rw [World.ownsRow.cellAt HW.out (c - 1 - j) (by omega)]
    exact vals_at _ _ (by rw [fill_length, HC.out]; omega)
   have hfroz := World.ownsRow.frozenAt HW.out (c - 1 - j)
   have HS := Lib.hid (World.ownsRow.stored HW.out (c - 1 - j) (.int .u8 (48 + (k : Int) % 10))).1
   have HF := Lib.hid (fill_next m j k (by rw [HC.out]; exact hlt) (by rw [HC.out]; exact HD.out hlt))
   go_wp2
   have hw : IntKind.u64.wrap ((k : Int) / 10) = ((k / 10 : Nat) : Int) := by rw [wrap_u64_small _ (by omega) (by have := HK.out; omega)]; omega
   go_roundw
   case rel =>
    refine ⟨k / 10, j + 1, by omega, by omega, u64_eq hw, by go_num, ?_, ?_, HB.out.setCell (Nat.le_refl _) _⟩
    ·have e := HF.out.1
     rw [HC.out] at e
     rw [<- e, <- vals_set, u8_digit]
     exact HS.out
    ·have e := HF.out.2
     rw [HC.out] at e
     exact e
   case measure => simp [intOf]; omega
  ·obtain rfl : j = c := by omega
   have hr : (convert 77 9 (.slice (some ⟨w.heap.size, 0, none⟩) j j)).run Tryz.prog wr = .ok (.string (strB (digsN m))) wr := by
    have hx : OwnB 5 wr w.heap.size (.slice (some ⟨w.heap.size, 0, none⟩) j j) (digsN m) := by
     have := HW.out
     unfold OwnB
     rw [HC.out]
     rw [<- HC.out, fill_all, HC.out] at this
     exact this
    obtain ⟨a, cap, e, _, _, hy⟩ := hx.at_
    injection e with e1 e2 e3
    subst e1
    have := run_convert_bytesAt (P := Tryz.prog) 77 5 9 Tryz.underlying77 Tryz.underlying5 Tryz.underlying9 wr _ _ j (digsN m) hy
    rw [HC.out] at this
    exact this
   have hsz : (strB (digsN m)).size <= 20 := by rw [strB_size, HC.out]; exact hc20
   go_wp2
   go_ret
   exact ⟨by rw [<- minus_str]; rfl, HB.out⟩
theorem text_any (n : Int) (w : World) (h1 : -9223372036854775808 <= n) (h2 : n <= 9223372036854775807) :
  Calls Tryz.prog 142 #[.int .i64 n] w fun e w' => e = .returned (.string (strB (textL n))) /\ Below w.heap.size w w' := by
 by_cases h : n < 0
 ·rw [textL, if_pos h]; exact text_neg n n.natAbs w (by omega) (by omega) (by omega)
 ·rw [textL, if_neg h]; exact text_pos n n.toNat w (by omega) (by omega)
def cleanB (xs : List UInt8) : Bool := !xs.contains 0
theorem quote_any (s : ByteArray) (w : World) (hs : s.size <= 9223372036854775805) :
  Calls Tryz.prog 150 #[.string s] w fun e w' => e = .returned (.string ((⟨#[34]⟩ ++ s) ++ ⟨#[34]⟩)) /\ w = w' := by
 go_enter Tryz.func150, Tryz.ntmps150
 go_wp2
 go_ret
 exact ⟨rfl, rfl⟩
end Go.Proofs.YtknohkmpficjgaaGreatDoor.Dg
