import Derived.Test.YtknohkmpficjgaaGreatDoorQNumD
import Derived.Lib.Bytealg
set_option linter.unusedSimpArgs false
set_option linter.unusedVariables false
open Nat renaming le_refl -> Q7, zero_le -> Rh, lt_or_ge -> Rk, pow_succ -> Rn
open List renaming getD_eq_getElem?_getD -> Q8, getElem?_eq_getElem -> Ra, length_singleton -> Rb, length_append -> Rc, take_succ_eq_append_getElem -> Re, all_append -> Rg, replicate -> Ri, contains_iff_mem -> Rj, getElem_mem -> Rl
open UInt8 renaming ofNat -> Q9, toNat_ofNat' -> Rf, toNat_inj -> Rm
namespace Go.Proofs.YtknohkmpficjgaaGreatDoor.Dg
open Go.RowKit Go By
theorem B1 {α : Type} {P : List α -> Prop} (nil : P []) (snoc : ∀ xs c, P xs -> P (xs ++ [c])) (xs : List α) : P xs := by
 have h : ∀ ys : List α, P ys.reverse := by
  intro ys
  induction ys with
  | nil => exact nil
  | cons c t ih => rw [List.reverse_cons]; exact snoc _ _ ih
 have := h xs.reverse
 rwa [List.reverse_reverse] at this
def digsN (m : Nat) : List UInt8 := if m < 10 then [Q9 (48 + m)] else digsN (m / 10) ++ [Q9 (48 + m % 10)]
termination_by m
decreasing_by omega
theorem cj {m : Nat} (h : m < 10) : digsN m = [Q9 (48 + m)] := by rw [digsN, if_pos h]
theorem dx {m : Nat} (h : ¬ m < 10) : digsN m = digsN (m / 10) ++ [Q9 (48 + m % 10)] := by rw [digsN, if_neg h]
theorem qn (m : Nat) : 1 <= (digsN m).length := by
 by_cases h : m < 10
 ·rw [cj h]; simp
 ·rw [dx h]; simp
theorem qm : ∀ (k m : Nat), m < 10 ^ (k + 1) -> (digsN m).length <= k + 1
 | 0, m, h => by rw [cj (by omega)]; simp
 | k + 1, m, h => by
  by_cases h1 : m < 10
  ·rw [cj h1]; simp
  ·rw [dx h1, Rc]
   have := qm k (m / 10) (by rw [Rn] at h; omega)
   simp; omega
def textL (n : Int) : List UInt8 := if n < 0 then 45 :: digsN n.natAbs else digsN n.toNat
def hJ (xs : List UInt8) : Nat := xs.foldl (fun n c => n * 10 + (c.toNat - 48)) 0
theorem qP (xs : List UInt8) (c : UInt8) : hJ (xs ++ [c]) = hJ xs * 10 + (c.toNat - 48) := by simp [hJ]
def gQ (c : UInt8) : Bool := decide (48 <= c.toNat) && decide (c.toNat <= 57)
theorem tm (c : UInt8) : gQ c = true ↔ 48 <= c.toNat /\ c.toNat <= 57 := by simp [gQ]
theorem DF (xs : List UInt8) : xs.all gQ = true -> hJ xs < 10 ^ xs.length := by
 refine B1 (P := fun xs => xs.all gQ = true -> hJ xs < 10 ^ xs.length) ?_ ?_ xs
 ·intro _; simp [hJ]
 ·intro xs c ih h
  rw [Rg, Bool.and_eq_true] at h
  have h1 := ih h.1
  have h2 : gQ c = true := by simpa using h.2
  rw [tm] at h2
  rw [qP, Rc, Rb, Rn]
  omega
def eW (xs : List UInt8) : Bool := decide (1 <= xs.length) && (decide (xs.length <= 10) && (!(xs.getD 0 0 == 48 && decide (1 < xs.length)) && xs.all gQ))
def bX (xs : List UInt8) (most : Int) : Bool := eW xs && decide ((hJ xs : Int) <= most)
def dB (xs : List UInt8) (most : Int) : Int := if bX xs most = true then (hJ xs : Int) else 0
theorem tE {xs : List UInt8} {most : Int} (h : eW xs = false) : bX xs most = false /\ dB xs most = 0 := by
 have h1 : bX xs most = false := by simp [bX, h]
 exact ⟨h1, by simp [dB, h1]⟩
theorem vC {xs : List UInt8} (h : xs.length < 1) : eW xs = false := by
 unfold eW; rw [decide_eq_false (by omega)]; rfl
theorem yU {xs : List UInt8} (h : 10 < xs.length) : eW xs = false := by
 unfold eW; rw [decide_eq_false (p := xs.length <= 10) (by omega)]; simp
theorem tF {xs : List UInt8} (h : xs.getD 0 0 = 48) (h1 : 1 < xs.length) : eW xs = false := by
 unfold eW; rw [h, decide_eq_true h1]; simp
theorem rZ {xs : List UInt8} {k : Nat} (hk : k < xs.length) (h : gQ (xs.getD k 0) = false) : eW xs = false := by
 have h1 : xs.all gQ = false := by
  rw [List.all_eq_false]
  refine ⟨xs[k], Rl hk, ?_⟩
  rw [Q8, Ra hk] at h
  simpa using h
 unfold eW; rw [h1]; simp
theorem AY {xs : List UInt8} (h1 : 1 <= xs.length) (h2 : xs.length <= 10) (h3 : ¬ (xs.getD 0 0 = 48 /\ 1 < xs.length)) (h4 : xs.all gQ = true) : eW xs = true := by
 unfold eW
 rw [decide_eq_true h1, decide_eq_true h2, h4]
 have h5 : (xs.getD 0 0 == 48 && decide (1 < xs.length)) = false := by
  rw [Bool.and_eq_false_iff]
  by_cases e : xs.getD 0 0 = 48
  ·right; exact decide_eq_false (fun e1 => h3 ⟨e, e1⟩)
  ·left; exact beq_eq_false_iff_ne.2 e
 rw [h5]; rfl
theorem qR {xs : List UInt8} {most : Int} (h : eW xs = true) (hm : (hJ xs : Int) <= most) : bX xs most = true /\ dB xs most = hJ xs := by
 have h1 : bX xs most = true := by simp [bX, h, hm]
 exact ⟨h1, by simp [dB, h1]⟩
theorem od {xs : List UInt8} {most : Int} (hm : most < (hJ xs : Int)) : bX xs most = false /\ dB xs most = 0 := by
 have h1 : bX xs most = false := by simp [bX]; omega
 exact ⟨h1, by simp [dB, h1]⟩
theorem digsN_all (m : Nat) : (digsN m).all gQ = true := by
 induction m using digsN.induct with
 | case1 m h =>
  rw [cj h]
  simp [gQ, Rf]
  omega
 | case2 m h ih =>
  rw [dx h, Rg, ih]
  simp [gQ, Rf]
  omega
end Go.Proofs.YtknohkmpficjgaaGreatDoor.Dg
namespace Go.Proofs.YtknohkmpficjgaaGreatDoor.Dg
set_option maxRecDepth 100000
open Go.RowKit Go By
theorem kN (s : ByteArray) (k : Nat) (h : k < s.size) : s.data.toList.getD k 0 = s[k] := by
 rw [Q8, Ra (by simpa using h)]; rfl
theorem gW (s : ByteArray) : s.data.toList.length = s.size := by simp
theorem eN (s : ByteArray) (k : Nat) (h : k < s.size) : s.data.toList.take (k + 1) = s.data.toList.take k ++ [s[k]] := by
 rw [Re (by simpa using h)]; rfl
theorem fl (s : ByteArray) : s.data.toList.take s.size = s.data.toList := List.take_of_length_le (by simp)
def kj (xs : List UInt8) (most : Int) : Value := .tuple #[.int .i64 (dB xs most), .bool (bX xs most)]
theorem hP {xs : List UInt8} (most : Int) (h : eW xs = false) : kj xs most = .tuple #[.int .i64 0, .bool false] := by
 unfold kj; rw [(tE h).1, (tE h).2]
theorem iU {s : ByteArray} (most : Int) {k : Nat} (hk : k < s.size) (h : ¬ (48 <= s[k].toNat /\ s[k].toNat <= 57)) : kj s.data.toList most = .tuple #[.int .i64 0, .bool false] := by
 refine hP most (rZ (k := k) (by rw [gW]; exact hk) ?_)
 rw [kN s k hk]
 cases hd : gQ s[k] with
 | false => rfl
 | true => exact absurd ((tm _).1 hd) h
theorem vX {s : ByteArray} {most : Int} (h1 : 1 <= s.size) (h2 : s.size <= 10) (h3 : ¬ (s.data.toList.getD 0 0 = 48 /\ 1 < s.size)) (h4 : (s.data.toList.take s.size).all gQ = true) :
  kj s.data.toList most = if most < (hJ (s.data.toList.take s.size) : Int) then .tuple #[.int .i64 0, .bool false] else .tuple #[.int .i64 (hJ (s.data.toList.take s.size)), .bool true] := by
 rw [fl] at h4 ⊢
 have hf : eW s.data.toList = true := AY (by rw [gW]; exact h1) (by rw [gW]; exact h2) (by rw [gW]; exact h3) h4
 unfold kj
 by_cases hm : most < (hJ s.data.toList : Int)
 ·rw [if_pos hm, (od hm).1, (od hm).2]
 ·rw [if_neg hm, (qR hf (by omega)).1, (qR hf (by omega)).2]
theorem sZ {s : ByteArray} {k : Nat} (hk : k < s.size) (h : (s.data.toList.take k).all gQ = true) (h1 : 48 <= s[k].toNat) (h2 : s[k].toNat <= 57) : (s.data.toList.take (k + 1)).all gQ = true := by
 rw [eN s k hk, Rg, h]
 simp [gQ, h1, h2]
theorem Bg {s : ByteArray} {k : Nat} (hk : k < s.size) (h1 : 48 <= s[k].toNat) : (hJ (s.data.toList.take (k + 1)) : Int) = (hJ (s.data.toList.take k) : Int) * 10 + ((s[k].toNat : Int) - 48) := by
 rw [eN s k hk, qP]; omega
theorem zg {s : ByteArray} {k : Nat} (h : (s.data.toList.take k).all gQ = true) (hk : k <= 10) : hJ (s.data.toList.take k) <= 10000000000 := by
 have h1 := DF _ h
 have h2 : (s.data.toList.take k).length <= 10 := Nat.le_trans (List.length_take_le _ _) hk
 have h3 : 10 ^ (s.data.toList.take k).length <= 10 ^ 10 := Nat.pow_le_pow_right (by omega) h2
 omega
set_option maxHeartbeats 400000 in
theorem vW (s : ByteArray) (most : Int) (w : World) (h1 : 1 <= s.size) (h2 : s.size <= 10) (h3 : ¬ (s.data.toList.getD 0 0 = 48 /\ 1 < s.size)) :
  Calls Tryz.prog 186 #[.string s, .int .i64 most] w fun e w' => e = .returned (kj s.data.toList most) /\ w = w' := by
 have H3 := Lib.hid h3
 have h0 : 0 < s.size := h1
 have hc : ((s[0].toNat : Int) == 48) = false \/ (((s[0].toNat : Int) == 48) = true /\ s.size <= 1) := by
  rw [kN s 0 h0] at h3
  by_cases e : s[0].toNat = 48
  ·right
   refine ⟨by simp [e], ?_⟩
   rcases Rk 1 s.size with h | h
   ·exact absurd ⟨by apply Rm.1; simpa using e, h⟩ h3
   ·exact h
  ·left; simp; omega
 clear h3
 rcases hc with hc | ⟨hc, hs1⟩
 all_goals
  go_enter Tryz.func186, Tryz.ntmps186
  go_wp2
  clear hc
  go_loop [6, 28] (fun n i => ∃ k : Nat, k <= s.size /\ i = .int .i64 k /\ n = .int .i64 (hJ (s.data.toList.take k)) /\ (s.data.toList.take k).all gQ = true) (fun _ i => s.size - (intOf i).toNat)
  case atStart => exact ⟨0, Rh _, rfl, rfl, rfl⟩
  case round =>
   obtain ⟨k, hk, rfl, rfl, hall⟩ := hrel
   have HA := Lib.hid hall
   have hb := zg hall (by omega)
   clear hall
   by_cases hlt : k < s.size
   ·by_cases hlo : s[k].toNat < 48
    ·have HE := Lib.hid (iU most hlt (by omega))
     go_wp2
     go_ret2
     exact ⟨by rw [HE.out]; rfl, rfl⟩
    ·by_cases hhi : 57 < s[k].toNat
     ·have HE := Lib.hid (iU most hlt (by omega))
      go_wp2
      go_ret2
      exact ⟨by rw [HE.out]; rfl, rfl⟩
     ·have HN := Lib.hid (Bg hlt (by omega))
      go_wp2
      go_round
      case rel => exact ⟨k + 1, by omega, by go_num, by rw [HN.out], sZ hlt HA.out (by omega) (by omega)⟩
      case measure => simp [intOf]; omega
   ·obtain rfl : k = s.size := by omega
    have HE := Lib.hid (vX (most := most) h1 h2 H3.out HA.out)
    by_cases hm : most < (hJ (s.data.toList.take s.size) : Int)
    ·go_wp2
     go_ret2
     exact ⟨by rw [HE.out, if_pos hm]; rfl, rfl⟩
    ·go_wp2
     go_ret2
     exact ⟨by rw [HE.out, if_neg (by omega)]; rfl, rfl⟩
theorem zi (s : ByteArray) (most : Int) (w : World) (hm : s.size <= maxLen) :
  Calls Tryz.prog 186 #[.string s, .int .i64 most] w fun e w' => e = .returned (kj s.data.toList most) /\ w = w' := by
 unfold maxLen at hm
 by_cases h1 : s.size < 1
 ·have hn : s.size = 0 := by omega
  rw [hP most (vC (by rw [gW]; exact h1))]
  clear hn
  go_enter Tryz.func186, Tryz.ntmps186
  go_wp2
  go_ret2
  exact ⟨rfl, rfl⟩
 ·by_cases h2 : 10 < s.size
  ·rw [hP most (yU (by rw [gW]; exact h2))]
   go_enter Tryz.func186, Tryz.ntmps186
   go_wp2
   go_ret2
   exact ⟨rfl, rfl⟩
  ·by_cases h3 : s.data.toList.getD 0 0 = 48 /\ 1 < s.size
   ·rw [hP most (tF h3.1 (by rw [gW]; exact h3.2))]
    have h0 : 0 < s.size := by omega
    have h4 := h3.2
    have hc : ((s[0].toNat : Int) == 48) = true := by
     have := h3.1
     rw [kN s 0 h0] at this
     rw [this]; rfl
    clear h3
    go_enter Tryz.func186, Tryz.ntmps186
    go_wp2
    go_ret2
    exact ⟨rfl, rfl⟩
   ·exact vW s most w (by omega) (by omega) h3
theorem fu (x : Int) (h0 : 0 <= x) (h1 : x <= 9223372036854775808) : IntKind.u64.wrap x = x := by
 rw [IntKind.wrap_u64]; omega
theorem wO {a b : Int} (h : a = b) : Value.int .u64 a = Value.int .u64 b := by rw [h]
theorem eT (m : Nat) (hm : m <= 9223372036854775808) : (digsN m).length <= 20 := qm 19 m (by omega)
set_option maxHeartbeats 400000 in
theorem oh (m : Nat) (w : World) (hm : m <= 9223372036854775808) :
  Calls Tryz.prog 199 #[.int .u64 m] w fun e w' => e = .returned (.int .i64 (digsN m).length) /\ w = w' := by
 have HM := Lib.hid hm
 have HL := Lib.hid (eT m hm)
 clear hm
 go_enter Tryz.func199, Tryz.ntmps199
 go_wp2
 go_loop [0, 3] (fun n c => ∃ k j : Nat, k <= m /\ n = .int .u64 k /\ c = .int .i64 j /\ j + (digsN k).length = (digsN m).length + 1 /\ j <= 100) (fun n _ => (intOf n).toNat)
 case atStart => exact ⟨m, 1, Q7 _, rfl, rfl, by omega, by omega⟩
 case round =>
  obtain ⟨k, j, hk, rfl, rfl, hj, hj2⟩ := hrel
  have HJ := Lib.hid hj
  clear hj
  by_cases hlt : k < 10
  ·go_wp2
   go_ret
   refine ⟨?_, rfl⟩
   have := HJ.out
   rw [cj hlt, Rb] at this
   obtain rfl : j = (digsN m).length := by omega
   rfl
  ·go_wp2
   have hw : IntKind.u64.wrap ((k : Int) / 10) = ((k / 10 : Nat) : Int) := by rw [fu _ (by omega) (by have := HM.out; omega)]; omega
   go_round
   case rel =>
    refine ⟨k / 10, j + 1, by omega, wO hw, by go_num, ?_, ?_⟩
    ·have := HJ.out
     rw [dx hlt, Rc, Rb] at this
     omega
    ·have := HJ.out
     have := HL.out
     rw [dx hlt, Rc, Rb] at *
     omega
   case measure =>
    simp only [intOf]
    show (IntKind.u64.wrap ((k : Int) / 10)).toNat < ((k : Int)).toNat
    rw [hw]; omega
def fill (m i : Nat) : List UInt8 := Ri ((digsN m).length - i) 0 ++ (digsN m).drop ((digsN m).length - i)
theorem cT (m i : Nat) : (fill m i).length = (digsN m).length := by simp [fill]
theorem tA (m : Nat) : fill m (digsN m).length = digsN m := by simp [fill]
theorem vi (k : Nat) : ∃ init, digsN k = init ++ [Q9 (48 + k % 10)] := by
 by_cases h : k < 10
 ·exact ⟨[], by rw [cj h, Nat.mod_eq_of_lt h]; rfl⟩
 ·exact ⟨_, dx h⟩
theorem qw (m i k : Nat) (hi : i < (digsN m).length) (ht : (digsN m).take ((digsN m).length - i) = digsN k) :
  (fill m i).set ((digsN m).length - 1 - i) (Q9 (48 + k % 10)) = fill m (i + 1) /\ (i + 1 < (digsN m).length -> (digsN m).take ((digsN m).length - (i + 1)) = digsN (k / 10)) := by
 generalize hL : digsN m = L at *
 obtain ⟨d, hd⟩ : ∃ d, L.length - i = d + 1 := ⟨L.length - i - 1, by omega⟩
 have hd1 : L.length - 1 - i = d := by omega
 have hd2 : L.length - (i + 1) = d := by omega
 have hdl : d < L.length := by omega
 rw [hd] at ht
 have htk : L.take (d + 1) = L.take d ++ [L[d]] := Re hdl
 constructor
 ·obtain ⟨init, hi2⟩ := vi k
  have h1 : L.take d ++ [L[d]] = init ++ [Q9 (48 + k % 10)] := by rw [<- htk, ht, hi2]
  have h2 : L[d] = Q9 (48 + k % 10) := by
   have := List.append_inj_right' h1 rfl
   injection this
  unfold fill
  rw [hL, hd, hd1, hd2, List.replicate_succ', List.append_assoc, List.set_append_right _ _ (by simp)]
  simp only [List.length_replicate, Nat.sub_self]
  rw [List.drop_eq_getElem_cons hdl, h2]
  rfl
 ·intro h
  rw [hd2]
  rcases Rk k 10 with hk | hk
  ·exfalso
   rw [cj hk] at ht
   have := congrArg List.length ht
   simp at this
   omega
  ·rw [dx (by omega), htk] at ht
   have := List.append_inj_left' ht rfl
   exact this
theorem uV (xs : List UInt8) (i : Nat) (c : UInt8) : (vals xs).set i (.int .u8 (c.toNat : Int)) = vals (xs.set i c) := by simp [vals, List.map_set]
theorem zd (xs : List UInt8) : (⟨#[45]⟩ : ByteArray) ++ ah xs = ah (45 :: xs) := by
 apply ByteArray.ext
 apply Array.toList_inj.1
 simp [ah]
theorem uK (k : Nat) : ((Q9 (48 + k % 10)).toNat : Int) = 48 + (k : Int) % 10 := by
 rw [Rf]; omega
set_option maxHeartbeats 1000000 in
theorem B9 (n : Int) (m : Nat) (w : World) (h : n = (m : Int)) (hm : m <= 9223372036854775807) :
  Calls Tryz.prog 142 #[.int .i64 n] w fun e w' => e = .returned (.string (ah (digsN m))) /\ Below w.heap.size w w' := by
 subst h
 obtain ⟨i0, hi, hz0, hz1, hz2⟩ := info_parts Nm.byte_info
 have HM := Lib.hid hm
 have HU : Hid (IntKind.u64.wrap (m : Int) = (m : Int)) := Lib.hid (by simp only [IntKind.wrap_u64]; omega)
 obtain ⟨c, HC⟩ : ∃ c, Hid ((digsN m).length = c) := ⟨_, rfl⟩
 have hc1 : 1 <= c := by have := qn m; have := HC.out; omega
 have hc20 : c <= 20 := by have := eT m (by omega); have := HC.out; omega
 have HP : Hid (∀ W : World, Calls Tryz.prog 199 #[.int .u64 m] W fun e w' => e = .returned (.int .i64 c) /\ W = w') := Lib.hid fun W => by
  have := oh m W (by omega)
  rw [HC.out] at this
  exact this
 clear hm
 go_enter Tryz.func142, Tryz.ntmps142
 go_wp2_with (first
  | (go_at_call 199; rw [HU.out]; refine (HP.out _).mono ?_; rintro e w' ⟨rfl, rfl⟩)
  | (at_make; refine fW rfl _ _ 77 rfl 5 i0 Tryz.underlying77 hi hz0 hz1 hz2 .i64 .i64 c c _ _ rfl rfl rfl rfl (Q7 _) (by omega) ?_; intro w1 hg1 hb1 hs1))
 have HO : Hid (w1.ownsRow w.heap.size 5 1 (.slice (some ⟨w.heap.size, 0, none⟩) c c) c (vals (fill m 0))) := by
  have e0 : fill m 0 = Ri c 0 := by unfold fill; rw [HC.out]; simp [<- HC.out]
  have := OwnB.of_block (E := 5) (w := w1) (base := w.heap.size) (xs := fill m 0) (cap := c) hg1.out (Q7 _) (by simp) (by unfold maxLen; omega) (by rw [cT, HC.out]; exact Q7 _)
   (by rw [e0]; simp [vals])
  unfold OwnB at this
  rw [cT, HC.out] at this
  exact this
 have HB1 := Lib.hid hb1
 clear hg1 hb1 hs1
 go_loopw [3, 18] (fun r i wr => ∃ k j : Nat, k <= m /\ j <= c /\ r = .int .u64 k /\ i = .int .i64 j /\ wr.ownsRow w.heap.size 5 1 (.slice (some ⟨w.heap.size, 0, none⟩) c c) c (vals (fill m j)) /\ (j < c -> (digsN m).take (c - j) = digsN k) /\ Below w.heap.size w wr) (fun _ i _ => c - (intOf i).toNat)
 case atStart => exact ⟨m, 0, Q7 _, Rh _, rfl, rfl, HO.out, fun _ => by rw [<- HC.out]; simp, HB1.out⟩
 case round =>
  obtain ⟨k, j, hk, hj, rfl, rfl, hown, hdig, hbw⟩ := hrel
  have HW := Lib.hid hown
  have HB := Lib.hid hbw
  have HD := Lib.hid hdig
  have HK : Hid (k <= 9223372036854775808) := Lib.hid (by have := HM.out; omega)
  clear hown hbw HB1 HO hdig
  by_cases hlt : j < c
  ·have hcell : wr.cell? ⟨w.heap.size, c - 1 - j, none⟩ = some (.int .u8 (dc (fill m j) (c - 1 - j))) := by
    rw [World.ownsRow.cellAt HW.out (c - 1 - j) (by omega)]
    exact fU _ _ (by rw [cT, HC.out]; omega)
   have hfroz := World.ownsRow.frozenAt HW.out (c - 1 - j)
   have HS := Lib.hid (World.ownsRow.stored HW.out (c - 1 - j) (.int .u8 (48 + (k : Int) % 10))).1
   have HF := Lib.hid (qw m j k (by rw [HC.out]; exact hlt) (by rw [HC.out]; exact HD.out hlt))
   go_wp2
   have hw : IntKind.u64.wrap ((k : Int) / 10) = ((k / 10 : Nat) : Int) := by rw [fu _ (by omega) (by have := HK.out; omega)]; omega
   go_roundw
   case rel =>
    refine ⟨k / 10, j + 1, by omega, by omega, wO hw, by go_num, ?_, ?_, HB.out.setCell (Q7 _) _⟩
    ·have e := HF.out.1
     rw [HC.out] at e
     rw [<- e, <- uV, uK]
     exact HS.out
    ·have e := HF.out.2
     rw [HC.out] at e
     exact e
   case measure => simp [intOf]; omega
  ·obtain rfl : j = c := by omega
   have hr : (convert 77 9 (.slice (some ⟨w.heap.size, 0, none⟩) j j)).run Tryz.prog wr = .ok (.string (ah (digsN m))) wr := by
    have hx : OwnB 5 wr w.heap.size (.slice (some ⟨w.heap.size, 0, none⟩) j j) (digsN m) := by
     have := HW.out
     unfold OwnB
     rw [HC.out]
     rw [<- HC.out, tA, HC.out] at this
     exact this
    obtain ⟨a, cap, e, _, _, hy⟩ := hx.at_
    injection e with e1 e2 e3
    subst e1
    have := cF (P := Tryz.prog) 77 5 9 Tryz.underlying77 Tryz.underlying5 Tryz.underlying9 wr _ _ j (digsN m) hy
    rw [HC.out] at this
    exact this
   have hsz : (ah (digsN m)).size <= 20 := by rw [cY, HC.out]; exact hc20
   go_wp2
   go_ret
   exact ⟨rfl, HB.out⟩
set_option maxHeartbeats 1000000 in
theorem B8 (n : Int) (m : Nat) (w : World) (h : n = -(m : Int)) (h0 : 0 < m) (hm : m <= 9223372036854775808) :
  Calls Tryz.prog 142 #[.int .i64 n] w fun e w' => e = .returned (.string (ah (45 :: digsN m))) /\ Below w.heap.size w w' := by
 subst h
 obtain ⟨i0, hi, hz0, hz1, hz2⟩ := info_parts Nm.byte_info
 have HM := Lib.hid hm
 have HU : Hid (IntKind.u64.wrap (-IntKind.u64.wrap (-(m : Int))) = (m : Int)) := Lib.hid (by simp only [IntKind.wrap_u64]; omega)
 obtain ⟨c, HC⟩ : ∃ c, Hid ((digsN m).length = c) := ⟨_, rfl⟩
 have hc1 : 1 <= c := by have := qn m; have := HC.out; omega
 have hc20 : c <= 20 := by have := eT m (by omega); have := HC.out; omega
 have HP : Hid (∀ W : World, Calls Tryz.prog 199 #[.int .u64 m] W fun e w' => e = .returned (.int .i64 c) /\ W = w') := Lib.hid fun W => by
  have := oh m W (by omega)
  rw [HC.out] at this
  exact this
 clear hm
 go_enter Tryz.func142, Tryz.ntmps142
 go_wp2_with (first
  | (go_at_call 199; rw [HU.out]; refine (HP.out _).mono ?_; rintro e w' ⟨rfl, rfl⟩)
  | (at_make; refine fW rfl _ _ 77 rfl 5 i0 Tryz.underlying77 hi hz0 hz1 hz2 .i64 .i64 c c _ _ rfl rfl rfl rfl (Q7 _) (by omega) ?_; intro w1 hg1 hb1 hs1))
 have HO : Hid (w1.ownsRow w.heap.size 5 1 (.slice (some ⟨w.heap.size, 0, none⟩) c c) c (vals (fill m 0))) := by
  have e0 : fill m 0 = Ri c 0 := by unfold fill; rw [HC.out]; simp [<- HC.out]
  have := OwnB.of_block (E := 5) (w := w1) (base := w.heap.size) (xs := fill m 0) (cap := c) hg1.out (Q7 _) (by simp) (by unfold maxLen; omega) (by rw [cT, HC.out]; exact Q7 _)
   (by rw [e0]; simp [vals])
  unfold OwnB at this
  rw [cT, HC.out] at this
  exact this
 have HB1 := Lib.hid hb1
 clear hg1 hb1 hs1
 go_loopw [3, 18] (fun r i wr => ∃ k j : Nat, k <= m /\ j <= c /\ r = .int .u64 k /\ i = .int .i64 j /\ wr.ownsRow w.heap.size 5 1 (.slice (some ⟨w.heap.size, 0, none⟩) c c) c (vals (fill m j)) /\ (j < c -> (digsN m).take (c - j) = digsN k) /\ Below w.heap.size w wr) (fun _ i _ => c - (intOf i).toNat)
 case atStart => exact ⟨m, 0, Q7 _, Rh _, rfl, rfl, HO.out, fun _ => by rw [<- HC.out]; simp, HB1.out⟩
 case round =>
  obtain ⟨k, j, hk, hj, rfl, rfl, hown, hdig, hbw⟩ := hrel
  have HW := Lib.hid hown
  have HB := Lib.hid hbw
  have HD := Lib.hid hdig
  have HK : Hid (k <= 9223372036854775808) := Lib.hid (by have := HM.out; omega)
  clear hown hbw HB1 HO hdig
  by_cases hlt : j < c
  ·have hcell : wr.cell? ⟨w.heap.size, c - 1 - j, none⟩ = some (.int .u8 (dc (fill m j) (c - 1 - j))) := by
    rw [World.ownsRow.cellAt HW.out (c - 1 - j) (by omega)]
    exact fU _ _ (by rw [cT, HC.out]; omega)
   have hfroz := World.ownsRow.frozenAt HW.out (c - 1 - j)
   have HS := Lib.hid (World.ownsRow.stored HW.out (c - 1 - j) (.int .u8 (48 + (k : Int) % 10))).1
   have HF := Lib.hid (qw m j k (by rw [HC.out]; exact hlt) (by rw [HC.out]; exact HD.out hlt))
   go_wp2
   have hw : IntKind.u64.wrap ((k : Int) / 10) = ((k / 10 : Nat) : Int) := by rw [fu _ (by omega) (by have := HK.out; omega)]; omega
   go_roundw
   case rel =>
    refine ⟨k / 10, j + 1, by omega, by omega, wO hw, by go_num, ?_, ?_, HB.out.setCell (Q7 _) _⟩
    ·have e := HF.out.1
     rw [HC.out] at e
     rw [<- e, <- uV, uK]
     exact HS.out
    ·have e := HF.out.2
     rw [HC.out] at e
     exact e
   case measure => simp [intOf]; omega
  ·obtain rfl : j = c := by omega
   have hr : (convert 77 9 (.slice (some ⟨w.heap.size, 0, none⟩) j j)).run Tryz.prog wr = .ok (.string (ah (digsN m))) wr := by
    have hx : OwnB 5 wr w.heap.size (.slice (some ⟨w.heap.size, 0, none⟩) j j) (digsN m) := by
     have := HW.out
     unfold OwnB
     rw [HC.out]
     rw [<- HC.out, tA, HC.out] at this
     exact this
    obtain ⟨a, cap, e, _, _, hy⟩ := hx.at_
    injection e with e1 e2 e3
    subst e1
    have := cF (P := Tryz.prog) 77 5 9 Tryz.underlying77 Tryz.underlying5 Tryz.underlying9 wr _ _ j (digsN m) hy
    rw [HC.out] at this
    exact this
   have hsz : (ah (digsN m)).size <= 20 := by rw [cY, HC.out]; exact hc20
   go_wp2
   go_ret
   exact ⟨by rw [<- zd]; rfl, HB.out⟩
theorem B7 (n : Int) (w : World) (h1 : -9223372036854775808 <= n) (h2 : n <= 9223372036854775807) :
  Calls Tryz.prog 142 #[.int .i64 n] w fun e w' => e = .returned (.string (ah (textL n))) /\ Below w.heap.size w w' := by
 by_cases h : n < 0
 ·rw [textL, if_pos h]; exact B8 n n.natAbs w (by omega) (by omega) (by omega)
 ·rw [textL, if_neg h]; exact B9 n n.toNat w (by omega) (by omega)
def aA (xs : List UInt8) : Bool := !xs.contains 0
theorem pX (xs : List UInt8) : decide (Lib.indexByte xs 0 < 0) = aA xs := by
 induction xs with
 | nil => rfl
 | cons b t ih =>
  have hge := Lib.indexByte_ge t 0
  unfold Lib.indexByte aA
  by_cases hb : b = 0
  ·subst hb; simp
  ·have h1 : (b == 0) = false := by simpa using hb
   have h2 : (0 == b) = false := by simpa using fun e : 0 = b => hb e.symm
   rw [List.contains_cons, h1, h2, Bool.false_or]
   unfold aA at ih
   rw [<- ih]
   by_cases h3 : Lib.indexByte t 0 = -1
   ·simp [h3]
   ·have h4 : (Lib.indexByte t 0 == -1) = false := by simpa using h3
    simp [h4]; omega
theorem yx (s : ByteArray) (w : World) :
  Calls Tryz.prog 63 #[.string s] w fun e w' => e = .returned (.bool (aA s.data.toList)) /\ w = w' := by
 go_enter Tryz.func63, Tryz.ntmps63
 go_wp2
 rw [run_callFunc_extern Tryz.func203 (by kernel_rfl) (by kernel_rfl) (by kernel_rfl) (e := Extern.BytealgIndexByte.indexByte) (by kernel_rfl), Lib.run_indexByteString]
 simp only [Result.andThen]
 rw [Oper.upon_value]
 go_wp2
 go_ret
 exact ⟨by rw [<- pX]; rfl, rfl⟩
theorem Av {xs : List UInt8} {k : Nat} (hk : k < xs.length) (h : xs.getD k 0 = 0) : aA xs = false := by
 have : xs.contains 0 = true := by
  rw [Rj, <- h, Q8, Ra hk]
  exact Rl hk
 simp [aA] at this ⊢
 exact this
theorem yy {xs : List UInt8} (h : ∀ k, k < xs.length -> xs.getD k 0 ≠ 0) : aA xs = true := by
 simp only [aA, Bool.not_eq_true', <- Bool.not_eq_true, Rj]
 intro hm
 obtain ⟨k, hk, he⟩ := List.mem_iff_getElem.1 hm
 exact h k hk (by rw [Q8, Ra hk, he]; rfl)
set_option maxHeartbeats 400000 in
theorem we (s : ByteArray) (w : World) (hs : s.size <= maxLen) :
  Calls Tryz.prog 169 #[.string s] w fun e w' => e = .returned (.bool (aA s.data.toList)) /\ w = w' := by
 unfold maxLen at hs
 go_enter Tryz.func169, Tryz.ntmps169
 go_wp2
 go_loop [3] (fun i => ∃ k : Nat, k <= s.size /\ i = .int .i64 k /\ ∀ j, j < k -> s.data.toList.getD j 0 ≠ 0) (fun i => s.size - (intOf i).toNat)
 case atStart => exact ⟨0, Rh _, rfl, fun j hj => by omega⟩
 case round =>
  obtain ⟨k, hk, rfl, hall⟩ := hrel
  have HA := Lib.hid hall
  clear hall
  by_cases hlt : k < s.size
  ·by_cases h0 : s[k].toNat = 0
   ·have hb : ((s[k].toNat : Int) == 0) = true := by simp [h0]
    have HE := Lib.hid (Av (xs := s.data.toList) (k := k) (by rw [gW]; exact hlt) (by rw [kN s k hlt]; apply Rm.1; simpa using h0))
    clear h0
    go_wp2
    go_ret
    exact ⟨by rw [HE.out]; rfl, rfl⟩
   ·have hb : ((s[k].toNat : Int) == 0) = false := by simp; omega
    have HN : Hid (s.data.toList.getD k 0 ≠ 0) := Lib.hid (by rw [kN s k hlt]; intro e; exact h0 (by rw [e]; rfl))
    clear h0
    go_wp2
    go_round
    case rel =>
     refine ⟨k + 1, by omega, by go_num, fun j hj => ?_⟩
     rcases Rk j k with h | h
     ·exact HA.out j h
     ·obtain rfl : j = k := by omega
      exact HN.out
    case measure => simp [intOf]; omega
  ·obtain rfl : k = s.size := by omega
   have HE := Lib.hid (yy (xs := s.data.toList) (by rw [gW]; exact HA.out))
   go_wp2
   go_ret
   exact ⟨by rw [HE.out]; rfl, rfl⟩
theorem zl (s : ByteArray) (w : World) (hs : s.size <= 9223372036854775805) :
  Calls Tryz.prog 150 #[.string s] w fun e w' => e = .returned (.string ((⟨#[34]⟩ ++ s) ++ ⟨#[34]⟩)) /\ w = w' := by
 go_enter Tryz.func150, Tryz.ntmps150
 go_wp2
 go_ret
 exact ⟨rfl, rfl⟩
end Go.Proofs.YtknohkmpficjgaaGreatDoor.Dg
