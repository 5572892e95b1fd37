import Derived.Test.YtdfgljojemmlcaaGreatQNumD
import Derived.Lib.Bytealg
set_option linter.unusedSimpArgs false
set_option linter.unusedVariables false
open UInt8 renaming ofNat -> Q0
open Nat renaming le_refl -> Q1, mod_eq_of_lt -> Q7, zero_le -> Rb, pow_succ -> Rc, lt_or_ge -> Rd
open List renaming getD_eq_getElem?_getD -> Q2, getElem?_eq_getElem -> Q3, take_succ_eq_append_getElem -> Q4, length_singleton -> Q5, length_append -> Q6, replicate -> Q9, contains_iff_mem -> Ra
open Array renaming toList_inj -> Q8
namespace Go.Proofs.YtdfgljojemmlcaaGreat.Dg
open Go.RowKit Go By
def aM (m : Nat) : List UInt8 := if m < 10 then [Q0 (48 + m)] else aM (m / 10) ++ [Q0 (48 + m % 10)]
termination_by m
decreasing_by omega
theorem cm {m : Nat} (h : m < 10) : aM m = [Q0 (48 + m)] := by rw [aM, if_pos h]
theorem dQ {m : Nat} (h : ¬ m < 10) : aM m = aM (m / 10) ++ [Q0 (48 + m % 10)] := by rw [aM, if_neg h]
theorem ri (m : Nat) : 1 <= (aM m).length := by
 by_cases h : m < 10
 ·rw [cm h]; simp
 ·rw [dQ h]; simp
theorem rm : ∀ (k m : Nat), m < 10 ^ (k + 1) -> (aM m).length <= k + 1
 | 0, m, h => by rw [cm (by omega)]; simp
 | k + 1, m, h => by
  by_cases h1 : m < 10
  ·rw [cm h1]; simp
  ·rw [dQ h1, Q6]
   have := rm k (m / 10) (by rw [Rc] at h; omega)
   simp; omega
def textL (n : Int) : List UInt8 := if n < 0 then 45 :: aM n.natAbs else aM n.toNat
theorem xi (s : ByteArray) (k : Nat) (h : k < s.size) : s.data.toList.getD k 0 = s[k] := by
 rw [Q2, Q3 (by simpa using h)]; rfl
theorem AK (s : ByteArray) : s.data.toList.length = s.size := by simp
theorem jZ (s : ByteArray) (k : Nat) (h : k < s.size) : s.data.toList.take (k + 1) = s.data.toList.take k ++ [s[k]] := by
 rw [Q4 (by simpa using h)]; rfl
theorem fb (s : ByteArray) : s.data.toList.take s.size = s.data.toList := List.take_of_length_le (by simp)
end Go.Proofs.YtdfgljojemmlcaaGreat.Dg
namespace Go.Proofs.YtdfgljojemmlcaaGreat.Dg
set_option maxRecDepth 100000
open Go.RowKit Go By
theorem gp (x : Int) (h0 : 0 <= x) (h1 : x <= 9223372036854775808) : IntKind.u64.wrap x = x := by
 rw [IntKind.wrap_u64]; omega
theorem vK {a b : Int} (h : a = b) : Value.int .u64 a = Value.int .u64 b := by rw [h]
theorem cU (m : Nat) (hm : m <= 9223372036854775808) : (aM m).length <= 20 := rm 19 m (by omega)
set_option maxHeartbeats 400000 in
theorem pM (m : Nat) (w : World) (hm : m <= 9223372036854775808) :
  Calls Tryz.prog 122 #[.int .u64 m] w fun e w' => e = .returned (.int .i64 (aM m).length) /\ w = w' := by
 have HM := Lib.hid hm
 have HL := Lib.hid (cU m hm)
 clear hm
 go_enter Tryz.func122, Tryz.ntmps122
 go_wp2
 go_loop [0, 3] (fun n c => ∃ k j : Nat, k <= m /\ n = .int .u64 k /\ c = .int .i64 j /\ j + (aM k).length = (aM m).length + 1 /\ j <= 100) (fun n _ => (intOf n).toNat)
 case atStart => exact ⟨m, 1, Q1 _, rfl, rfl, by omega, by omega⟩
 case round =>
  obtain ⟨k, j, hk, rfl, rfl, hj, hj2⟩ := hrel
  have HJ := Lib.hid hj
  clear hj
  by_cases hlt : k < 10
  ·go_wp2
   go_ret
   refine ⟨?_, rfl⟩
   have := HJ.out
   rw [cm hlt, Q5] at this
   obtain rfl : j = (aM m).length := by omega
   rfl
  ·go_wp2
   have hw : IntKind.u64.wrap ((k : Int) / 10) = ((k / 10 : Nat) : Int) := by rw [gp _ (by omega) (by have := HM.out; omega)]; omega
   go_round
   case rel =>
    refine ⟨k / 10, j + 1, by omega, vK hw, by go_num, ?_, ?_⟩
    ·have := HJ.out
     rw [dQ hlt, Q6, Q5] at this
     omega
    ·have := HJ.out
     have := HL.out
     rw [dQ hlt, Q6, Q5] at *
     omega
   case measure =>
    simp only [intOf]
    show (IntKind.u64.wrap ((k : Int) / 10)).toNat < ((k : Int)).toNat
    rw [hw]; omega
def fill (m i : Nat) : List UInt8 := Q9 ((aM m).length - i) 0 ++ (aM m).drop ((aM m).length - i)
theorem dW (m i : Nat) : (fill m i).length = (aM m).length := by simp [fill]
theorem ug (m : Nat) : fill m (aM m).length = aM m := by simp [fill]
theorem vn (k : Nat) : ∃ init, aM k = init ++ [Q0 (48 + k % 10)] := by
 by_cases h : k < 10
 ·exact ⟨[], by rw [cm h, Q7 h]; rfl⟩
 ·exact ⟨_, dQ h⟩
theorem rK (m i k : Nat) (hi : i < (aM m).length) (ht : (aM m).take ((aM m).length - i) = aM k) :
  (fill m i).set ((aM m).length - 1 - i) (Q0 (48 + k % 10)) = fill m (i + 1) /\ (i + 1 < (aM m).length -> (aM m).take ((aM m).length - (i + 1)) = aM (k / 10)) := by
 generalize hL : aM m = L at *
 obtain ⟨d, hd⟩ : ∃ d, L.length - i = d + 1 := ⟨L.length - i - 1, by omega⟩
 have hd1 : L.length - 1 - i = d := by omega
 have hd2 : L.length - (i + 1) = d := by omega
 have hdl : d < L.length := by omega
 rw [hd] at ht
 have htk : L.take (d + 1) = L.take d ++ [L[d]] := Q4 hdl
 constructor
 ·obtain ⟨init, hi2⟩ := vn k
  have h1 : L.take d ++ [L[d]] = init ++ [Q0 (48 + k % 10)] := by rw [<- htk, ht, hi2]
  have h2 : L[d] = Q0 (48 + k % 10) := by
   have := List.append_inj_right' h1 rfl
   injection this
  unfold fill
  rw [hL, hd, hd1, hd2, List.replicate_succ', List.append_assoc, List.set_append_right _ _ (by simp)]
  simp only [List.length_replicate, Nat.sub_self]
  rw [List.drop_eq_getElem_cons hdl, h2]
  rfl
 ·intro h
  rw [hd2]
  rcases Rd k 10 with hk | hk
  ·exfalso
   rw [cm hk] at ht
   have := congrArg List.length ht
   simp at this
   omega
  ·rw [dQ (by omega), htk] at ht
   have := List.append_inj_left' ht rfl
   exact this
theorem tI (xs : List UInt8) (i : Nat) (c : UInt8) : (vals xs).set i (.int .u8 (c.toNat : Int)) = vals (xs.set i c) := by simp [vals, List.map_set]
theorem mX (xs : List UInt8) : (⟨#[45]⟩ : ByteArray) ++ ah xs = ah (45 :: xs) := by
 apply ByteArray.ext
 apply Q8.1
 simp [ah]
theorem uK (k : Nat) : ((Q0 (48 + k % 10)).toNat : Int) = 48 + (k : Int) % 10 := by
 rw [UInt8.toNat_ofNat']; omega
set_option maxHeartbeats 1000000 in
theorem Az (n : Int) (m : Nat) (w : World) (h : n = (m : Int)) (hm : m <= 9223372036854775807) :
  Calls Tryz.prog 98 #[.int .i64 n] w fun e w' => e = .returned (.string (ah (aM m))) /\ Below w.heap.size w w' := by
 subst h
 obtain ⟨i0, hi, hz0, hz1, hz2⟩ := info_parts Nm.byte_info
 have HM := Lib.hid hm
 have HU : Hid (IntKind.u64.wrap (m : Int) = (m : Int)) := Lib.hid (by simp only [IntKind.wrap_u64]; omega)
 obtain ⟨c, HC⟩ : ∃ c, Hid ((aM m).length = c) := ⟨_, rfl⟩
 have hc1 : 1 <= c := by have := ri m; have := HC.out; omega
 have hc20 : c <= 20 := by have := cU m (by omega); have := HC.out; omega
 have HP : Hid (∀ W : World, Calls Tryz.prog 122 #[.int .u64 m] W fun e w' => e = .returned (.int .i64 c) /\ W = w') := Lib.hid fun W => by
  have := pM m W (by omega)
  rw [HC.out] at this
  exact this
 clear hm
 go_enter Tryz.func98, Tryz.ntmps98
 go_wp2_with (first
  | (go_at_call 122; rw [HU.out]; refine (HP.out _).mono ?_; rintro e w' ⟨rfl, rfl⟩)
  | (at_make; refine ck rfl _ _ 52 rfl 5 i0 Tryz.underlying52 hi hz0 hz1 hz2 .i64 .i64 c c _ _ rfl rfl rfl rfl (Q1 _) (by omega) ?_; intro w1 hg1 hb1 hs1))
 have HO : Hid (w1.ownsRow w.heap.size 5 1 (.slice (some ⟨w.heap.size, 0, none⟩) c c) c (vals (fill m 0))) := by
  have e0 : fill m 0 = Q9 c 0 := by unfold fill; rw [HC.out]; simp [<- HC.out]
  have := OwnB.of_block (E := 5) (w := w1) (base := w.heap.size) (xs := fill m 0) (cap := c) hg1.out (Q1 _) (by simp) (by unfold maxLen; omega) (by rw [dW, HC.out]; exact Q1 _)
   (by rw [e0]; simp [vals])
  unfold OwnB at this
  rw [dW, HC.out] at this
  exact this
 have HB1 := Lib.hid hb1
 clear hg1 hb1 hs1
 go_loopw [3, 18] (fun r i wr => ∃ k j : Nat, k <= m /\ j <= c /\ r = .int .u64 k /\ i = .int .i64 j /\ wr.ownsRow w.heap.size 5 1 (.slice (some ⟨w.heap.size, 0, none⟩) c c) c (vals (fill m j)) /\ (j < c -> (aM m).take (c - j) = aM k) /\ Below w.heap.size w wr) (fun _ i _ => c - (intOf i).toNat)
 case atStart => exact ⟨m, 0, Q1 _, Rb _, rfl, rfl, HO.out, fun _ => by rw [<- HC.out]; simp, HB1.out⟩
 case round =>
  obtain ⟨k, j, hk, hj, rfl, rfl, hown, hdig, hbw⟩ := hrel
  have HW := Lib.hid hown
  have HB := Lib.hid hbw
  have HD := Lib.hid hdig
  have HK : Hid (k <= 9223372036854775808) := Lib.hid (by have := HM.out; omega)
  clear hown hbw HB1 HO hdig
  by_cases hlt : j < c
  ·have hcell : wr.cell? ⟨w.heap.size, c - 1 - j, none⟩ = some (.int .u8 (bB (fill m j) (c - 1 - j))) := by
    rw [World.ownsRow.cellAt HW.out (c - 1 - j) (by omega)]
    exact ez _ _ (by rw [dW, HC.out]; omega)
   have hfroz := World.ownsRow.frozenAt HW.out (c - 1 - j)
   have HS := Lib.hid (World.ownsRow.stored HW.out (c - 1 - j) (.int .u8 (48 + (k : Int) % 10))).1
   have HF := Lib.hid (rK m j k (by rw [HC.out]; exact hlt) (by rw [HC.out]; exact HD.out hlt))
   go_wp2
   have hw : IntKind.u64.wrap ((k : Int) / 10) = ((k / 10 : Nat) : Int) := by rw [gp _ (by omega) (by have := HK.out; omega)]; omega
   go_roundw
   case rel =>
    refine ⟨k / 10, j + 1, by omega, by omega, vK hw, by go_num, ?_, ?_, HB.out.setCell (Q1 _) _⟩
    ·have e := HF.out.1
     rw [HC.out] at e
     rw [<- e, <- tI, uK]
     exact HS.out
    ·have e := HF.out.2
     rw [HC.out] at e
     exact e
   case measure => simp [intOf]; omega
  ·obtain rfl : j = c := by omega
   have hr : (convert 52 9 (.slice (some ⟨w.heap.size, 0, none⟩) j j)).run Tryz.prog wr = .ok (.string (ah (aM m))) wr := by
    have hx : OwnB 5 wr w.heap.size (.slice (some ⟨w.heap.size, 0, none⟩) j j) (aM m) := by
     have := HW.out
     unfold OwnB
     rw [HC.out]
     rw [<- HC.out, ug, HC.out] at this
     exact this
    obtain ⟨a, cap, e, _, _, hy⟩ := hx.at_
    injection e with e1 e2 e3
    subst e1
    have := dz (P := Tryz.prog) 52 5 9 Tryz.underlying52 Tryz.underlying5 Tryz.underlying9 wr _ _ j (aM m) hy
    rw [HC.out] at this
    exact this
   have hsz : (ah (aM m)).size <= 20 := by rw [dr, HC.out]; exact hc20
   go_wp2
   go_ret
   exact ⟨rfl, HB.out⟩
set_option maxHeartbeats 1000000 in
theorem Ay (n : Int) (m : Nat) (w : World) (h : n = -(m : Int)) (h0 : 0 < m) (hm : m <= 9223372036854775808) :
  Calls Tryz.prog 98 #[.int .i64 n] w fun e w' => e = .returned (.string (ah (45 :: aM m))) /\ Below w.heap.size w w' := by
 subst h
 obtain ⟨i0, hi, hz0, hz1, hz2⟩ := info_parts Nm.byte_info
 have HM := Lib.hid hm
 have HU : Hid (IntKind.u64.wrap (-IntKind.u64.wrap (-(m : Int))) = (m : Int)) := Lib.hid (by simp only [IntKind.wrap_u64]; omega)
 obtain ⟨c, HC⟩ : ∃ c, Hid ((aM m).length = c) := ⟨_, rfl⟩
 have hc1 : 1 <= c := by have := ri m; have := HC.out; omega
 have hc20 : c <= 20 := by have := cU m (by omega); have := HC.out; omega
 have HP : Hid (∀ W : World, Calls Tryz.prog 122 #[.int .u64 m] W fun e w' => e = .returned (.int .i64 c) /\ W = w') := Lib.hid fun W => by
  have := pM m W (by omega)
  rw [HC.out] at this
  exact this
 clear hm
 go_enter Tryz.func98, Tryz.ntmps98
 go_wp2_with (first
  | (go_at_call 122; rw [HU.out]; refine (HP.out _).mono ?_; rintro e w' ⟨rfl, rfl⟩)
  | (at_make; refine ck rfl _ _ 52 rfl 5 i0 Tryz.underlying52 hi hz0 hz1 hz2 .i64 .i64 c c _ _ rfl rfl rfl rfl (Q1 _) (by omega) ?_; intro w1 hg1 hb1 hs1))
 have HO : Hid (w1.ownsRow w.heap.size 5 1 (.slice (some ⟨w.heap.size, 0, none⟩) c c) c (vals (fill m 0))) := by
  have e0 : fill m 0 = Q9 c 0 := by unfold fill; rw [HC.out]; simp [<- HC.out]
  have := OwnB.of_block (E := 5) (w := w1) (base := w.heap.size) (xs := fill m 0) (cap := c) hg1.out (Q1 _) (by simp) (by unfold maxLen; omega) (by rw [dW, HC.out]; exact Q1 _)
   (by rw [e0]; simp [vals])
  unfold OwnB at this
  rw [dW, HC.out] at this
  exact this
 have HB1 := Lib.hid hb1
 clear hg1 hb1 hs1
 go_loopw [3, 18] (fun r i wr => ∃ k j : Nat, k <= m /\ j <= c /\ r = .int .u64 k /\ i = .int .i64 j /\ wr.ownsRow w.heap.size 5 1 (.slice (some ⟨w.heap.size, 0, none⟩) c c) c (vals (fill m j)) /\ (j < c -> (aM m).take (c - j) = aM k) /\ Below w.heap.size w wr) (fun _ i _ => c - (intOf i).toNat)
 case atStart => exact ⟨m, 0, Q1 _, Rb _, rfl, rfl, HO.out, fun _ => by rw [<- HC.out]; simp, HB1.out⟩
 case round =>
  obtain ⟨k, j, hk, hj, rfl, rfl, hown, hdig, hbw⟩ := hrel
  have HW := Lib.hid hown
  have HB := Lib.hid hbw
  have HD := Lib.hid hdig
  have HK : Hid (k <= 9223372036854775808) := Lib.hid (by have := HM.out; omega)
  clear hown hbw HB1 HO hdig
  by_cases hlt : j < c
  ·have hcell : wr.cell? ⟨w.heap.size, c - 1 - j, none⟩ = some (.int .u8 (bB (fill m j) (c - 1 - j))) := by
    rw [World.ownsRow.cellAt HW.out (c - 1 - j) (by omega)]
    exact ez _ _ (by rw [dW, HC.out]; omega)
   have hfroz := World.ownsRow.frozenAt HW.out (c - 1 - j)
   have HS := Lib.hid (World.ownsRow.stored HW.out (c - 1 - j) (.int .u8 (48 + (k : Int) % 10))).1
   have HF := Lib.hid (rK m j k (by rw [HC.out]; exact hlt) (by rw [HC.out]; exact HD.out hlt))
   go_wp2
   have hw : IntKind.u64.wrap ((k : Int) / 10) = ((k / 10 : Nat) : Int) := by rw [gp _ (by omega) (by have := HK.out; omega)]; omega
   go_roundw
   case rel =>
    refine ⟨k / 10, j + 1, by omega, by omega, vK hw, by go_num, ?_, ?_, HB.out.setCell (Q1 _) _⟩
    ·have e := HF.out.1
     rw [HC.out] at e
     rw [<- e, <- tI, uK]
     exact HS.out
    ·have e := HF.out.2
     rw [HC.out] at e
     exact e
   case measure => simp [intOf]; omega
  ·obtain rfl : j = c := by omega
   have hr : (convert 52 9 (.slice (some ⟨w.heap.size, 0, none⟩) j j)).run Tryz.prog wr = .ok (.string (ah (aM m))) wr := by
    have hx : OwnB 5 wr w.heap.size (.slice (some ⟨w.heap.size, 0, none⟩) j j) (aM m) := by
     have := HW.out
     unfold OwnB
     rw [HC.out]
     rw [<- HC.out, ug, HC.out] at this
     exact this
    obtain ⟨a, cap, e, _, _, hy⟩ := hx.at_
    injection e with e1 e2 e3
    subst e1
    have := dz (P := Tryz.prog) 52 5 9 Tryz.underlying52 Tryz.underlying5 Tryz.underlying9 wr _ _ j (aM m) hy
    rw [HC.out] at this
    exact this
   have hsz : (ah (aM m)).size <= 20 := by rw [dr, HC.out]; exact hc20
   go_wp2
   go_ret
   exact ⟨by rw [<- mX]; rfl, HB.out⟩
theorem zP (n : Int) (w : World) (h1 : -9223372036854775808 <= n) (h2 : n <= 9223372036854775807) :
  Calls Tryz.prog 98 #[.int .i64 n] w fun e w' => e = .returned (.string (ah (textL n))) /\ Below w.heap.size w w' := by
 by_cases h : n < 0
 ·rw [textL, if_pos h]; exact Ay n n.natAbs w (by omega) (by omega) (by omega)
 ·rw [textL, if_neg h]; exact Az n n.toNat w (by omega) (by omega)
theorem sr (r : Nat) (h : r < 10) : (⟨#[48, 49, 50, 51, 52, 53, 54, 55, 56, 57]⟩ : ByteArray).extract r (r + 1) = ah [Q0 (48 + r)] := by
 apply ByteArray.ext
 apply Q8.1
 rcases r with _ | _ | _ | _ | _ | _ | _ | _ | _ | _ | r
 all_goals first | rfl | omega
theorem je (xs ys : List UInt8) : ah xs ++ ah ys = ah (xs ++ ys) := by
 apply ByteArray.ext
 apply Q8.1
 simp [ah]
theorem nW {a b : ByteArray} (h : a = b) : Ending.returned (.string a) = .returned (.string b) := by rw [h]
theorem uQ (d : Nat) : ∀ (m : Nat) (w : World), m < 10 ^ (d + 1) -> m <= 9223372036854775807 ->
  Calls Tryz.prog 125 #[.int .i64 m] w fun e w' => e = .returned (.string (ah (aM m))) /\ w = w' := by
 induction d with
 | zero =>
  intro m w hd hm
  have h10 : m < 10 := by omega
  rw [cm h10]
  go_enter Tryz.func125, Tryz.ntmps125
  go_wp2_with fail
  go_ret
  exact ⟨nW (by rw [sr _ (by omega), Q7 h10]), rfl⟩
 | succ d ih =>
  intro m w hd hm
  by_cases h10 : m < 10
  ·rw [cm h10]
   go_enter Tryz.func125, Tryz.ntmps125
   go_wp2_with fail
   go_ret
   exact ⟨nW (by rw [sr _ (by omega), Q7 h10]), rfl⟩
  ·have IH := Lib.hid ih
   have hs1 : (ah (aM (m / 10))).size <= 20 := by rw [dr]; exact cU _ (by omega)
   have hs2 : (ah [Q0 (48 + m % 10)]).size <= 1 := by rw [dr]; simp
   have HP : Hid (m / 10 < 10 ^ (d + 1)) := Lib.hid (by rw [Rc] at hd; omega)
   rw [dQ h10]
   clear ih hd
   go_enter Tryz.func125, Tryz.ntmps125
   go_wp2_with (go_at_call 125; rw [show ((m : Int) / 10) = ((m / 10 : Nat) : Int) from by omega]; refine (IH.out (m / 10) _ HP.out (by omega)).mono ?_; rintro e w' ⟨rfl, rfl⟩)
   go_ret
   exact ⟨nW (by rw [sr _ (by omega), je]), rfl⟩
theorem lT (n : Int) (m : Nat) (w : World) (h : n = (m : Int)) (hm : m <= 9223372036854775807) :
  Calls Tryz.prog 125 #[.int .i64 n] w fun e w' => e = .returned (.string (ah (aM m))) /\ w = w' := by
 subst h; exact uQ 19 m w (by omega) hm
theorem yN (n : Int) (w : World) (h1 : -9223372036854775808 <= n) (h2 : n <= 9223372036854775807) :
  Calls Tryz.prog 104 #[.int .i64 n] w fun e w' => e = .returned (.string (ah (textL n))) /\ w = w' := by
 by_cases h : 0 <= n
 ·rw [textL, if_neg (by omega)]
  go_enter Tryz.func104, Tryz.ntmps104
  go_wp2_with (go_at_call 125; refine (lT _ n.toNat _ (by omega) (by omega)).mono ?_; rintro e w' ⟨rfl, rfl⟩)
  go_ret
  exact ⟨rfl, rfl⟩
 ·rw [textL, if_pos (by omega)]
  by_cases h10 : -10 < n
  ·have hs1 : (ah (aM n.natAbs)).size <= 20 := by rw [dr]; exact cU _ (by omega)
   go_enter Tryz.func104, Tryz.ntmps104
   go_wp2_with (go_at_call 125; refine (lT _ n.natAbs _ (by omega) (by omega)).mono ?_; rintro e w' ⟨rfl, rfl⟩)
   go_ret
   exact ⟨by rw [<- mX]; rfl, rfl⟩
  ·obtain ⟨m, rfl⟩ : ∃ m : Nat, n = -(m : Int) := ⟨n.natAbs, by omega⟩
   have hs1 : (ah (aM (m / 10))).size <= 20 := by rw [dr]; exact cU _ (by omega)
   have hs2 : (ah (aM (m % 10))).size <= 20 := by rw [dr]; exact cU _ (by omega)
   go_enter Tryz.func104, Tryz.ntmps104
   go_wp2_with fail
   refine (lT _ (m / 10) _ (by omega) (by omega)).mono ?_
   rintro e w' ⟨rfl, rfl⟩
   go_wp2_with fail
   refine (lT _ (m % 10) _ (by omega) (by omega)).mono ?_
   rintro e w' ⟨rfl, rfl⟩
   go_wp2_with fail
   go_ret
   refine ⟨nW ?_, rfl⟩
   rw [show (-(m : Int)).natAbs = m from by omega, dQ (m := m) (by omega), cm (m := m % 10) (by omega), mX, je]
   rfl
def bv (xs : List UInt8) : Bool := !xs.contains 0
theorem qH (xs : List UInt8) : decide (Lib.indexByte xs 0 < 0) = bv xs := by
 induction xs with
 | nil => rfl
 | cons b t ih =>
  have hge := Lib.indexByte_ge t 0
  unfold Lib.indexByte bv
  by_cases hb : b = 0
  ·subst hb; simp
  ·have h1 : (b == 0) = false := by simpa using hb
   have h2 : (0 == b) = false := by simpa using fun e : 0 = b => hb e.symm
   rw [List.contains_cons, h1, h2, Bool.false_or]
   unfold bv at ih
   rw [<- ih]
   by_cases h3 : Lib.indexByte t 0 = -1
   ·simp [h3]
   ·have h4 : (Lib.indexByte t 0 == -1) = false := by simpa using h3
    simp [h4]; omega
theorem yx (s : ByteArray) (w : World) :
  Calls Tryz.prog 165 #[.string s] w fun e w' => e = .returned (.bool (bv s.data.toList)) /\ w = w' := by
 go_enter Tryz.func165, Tryz.ntmps165
 go_wp2
 rw [run_callFunc_extern Tryz.func189 (by kernel_rfl) (by kernel_rfl) (by kernel_rfl) (e := Extern.BytealgIndexByte.indexByte) (by kernel_rfl), Lib.run_indexByteString]
 simp only [Result.andThen]
 rw [Oper.upon_value]
 go_wp2
 go_ret
 exact ⟨by rw [<- qH]; rfl, rfl⟩
theorem Be {xs : List UInt8} {k : Nat} (hk : k < xs.length) (h : xs.getD k 0 = 0) : bv xs = false := by
 have : xs.contains 0 = true := by
  rw [Ra, <- h, Q2, Q3 hk]
  exact List.getElem_mem hk
 simp [bv] at this ⊢
 exact this
theorem yw {xs : List UInt8} (h : ∀ k, k < xs.length -> xs.getD k 0 ≠ 0) : bv xs = true := by
 simp only [bv, Bool.not_eq_true', <- Bool.not_eq_true, Ra]
 intro hm
 obtain ⟨k, hk, he⟩ := List.mem_iff_getElem.1 hm
 exact h k hk (by rw [Q2, Q3 hk, he]; rfl)
set_option maxHeartbeats 400000 in
theorem u9 (s : ByteArray) (w : World) (hs : s.size <= maxLen) :
  Calls Tryz.prog 127 #[.string s] w fun e w' => e = .returned (.bool (bv s.data.toList)) /\ w = w' := by
 unfold maxLen at hs
 go_enter Tryz.func127, Tryz.ntmps127
 go_wp2
 go_loop [3] (fun i => ∃ k : Nat, k <= s.size /\ i = .int .i64 k /\ ∀ j, j < k -> s.data.toList.getD j 0 ≠ 0) (fun i => s.size - (intOf i).toNat)
 case atStart => exact ⟨0, Rb _, rfl, fun j hj => by omega⟩
 case round =>
  obtain ⟨k, hk, rfl, hall⟩ := hrel
  have HA := Lib.hid hall
  clear hall
  by_cases hlt : k < s.size
  ·by_cases h0 : s[k].toNat = 0
   ·have hb : ((s[k].toNat : Int) == 0) = true := by simp [h0]
    have HE := Lib.hid (Be (xs := s.data.toList) (k := k) (by rw [AK]; exact hlt) (by rw [xi s k hlt]; apply UInt8.toNat_inj.1; simpa using h0))
    clear h0
    go_wp2
    go_ret
    exact ⟨by rw [HE.out]; rfl, rfl⟩
   ·have hb : ((s[k].toNat : Int) == 0) = false := by simp; omega
    have HN : Hid (s.data.toList.getD k 0 ≠ 0) := Lib.hid (by rw [xi s k hlt]; intro e; exact h0 (by rw [e]; rfl))
    clear h0
    go_wp2
    go_round
    case rel =>
     refine ⟨k + 1, by omega, by go_num, fun j hj => ?_⟩
     rcases Rd j k with h | h
     ·exact HA.out j h
     ·obtain rfl : j = k := by omega
      exact HN.out
    case measure => simp [intOf]; omega
  ·obtain rfl : k = s.size := by omega
   have HE := Lib.hid (yw (xs := s.data.toList) (by rw [AK]; exact HA.out))
   go_wp2
   go_ret
   exact ⟨by rw [HE.out]; rfl, rfl⟩
end Go.Proofs.YtdfgljojemmlcaaGreat.Dg
