/- Whether a first message may be told: the program's answer and the document's. -/
import Derived.Test.YtngmfgdoopkkdaaIdx
import Derived.Test.YtngmfgdoopkkdaaHelG
import Derived.Test.YtngmfgdoopkkdaaArr
namespace Go.Proofs.Ytngmfgdoopkkdaa.He
set_option maxRecDepth 100000
open Go.RowKit Go By Nm Sc

def keyB (n : Int) : Bool := decide (0 ≤ n) && rightB n 4
theorem isKey_any (n : Int) (w : World) : Calls Try.prog 80 #[.int .i64 n] w fun e w' => e = .returned (.bool (keyB n)) ∧ w = w' := by
  obtain ⟨r, HR⟩ : ∃ r, Hid (rightB n 4 = r) := ⟨_, rfl⟩
  by_cases h : (0 : Int) ≤ n
  · have hk : keyB n = r := by rw [keyB, HR.out]; simp [h]
    rw [hk]
    go_enter Try.func80, Try.ntmps80
    go_wp2_with fail
    refine (right_any n 4 _).mono ?_
    rintro e w' ⟨rfl, rfl⟩
    rw [HR.out]
    go_wp2
    go_ret
    exact ⟨rfl, rfl⟩
  · have hk : keyB n = false := by rw [keyB]; simp [h]
    rw [hk]
    go_enter Try.func80, Try.ntmps80
    go_wp2
    go_ret
    exact ⟨rfl, rfl⟩
theorem hclean1_any (t : List UInt8) (w : World) : Calls Try.prog 103 #[.string (strB t)] w fun e w' => e = .returned (.bool (!Dg.cleanB t)) ∧ Below w.heap.size w w' := by
  have hc := Dg.clean_any (strB t) w
  rw [show (strB t).data.toList = t from rfl] at hc
  obtain ⟨r, HR⟩ : ∃ r, Hid (Dg.cleanB t = r) := ⟨_, rfl⟩
  rw [HR.out] at hc ⊢
  have HC := Lib.hid hc
  clear hc
  go_enter Try.func103, Try.ntmps103
  go_wp2_with fail
  refine HC.out.mono ?_
  rintro e w' ⟨rfl, rfl⟩
  go_wp2
  go_ret
  exact ⟨rfl, Below.refl _ _⟩
theorem hclean_any (B : Nat) (a : Option Addr) (n k : Nat) (ts : List (List UInt8)) (w : World) (hE : Elems w B a 1 (txE ts)) (hB : B ≤ w.heap.size) (hn : ts.length = n) (hm : n ≤ 4294967296) :
    Calls Try.prog 79 #[.slice a n k] w fun e w' => e = .returned (.bool (ts.all Dg.cleanB)) ∧ Below w.heap.size w w' := by
  have hall : ts.all Dg.cleanB = !(ts.any fun t => !Dg.cleanB t) := by simp [List.all_eq_not_any_not]
  rw [hall]
  have HC := Lib.hid (text_contains 103 (fun t => !Dg.cleanB t) B a n k ts w hE hB hn hm (enters_of Try.func103 (by kernel_rfl) (by kernel_rfl)) fun j _ W => hclean1_any _ W)
  clear hE hB hn
  generalize (ts.any fun t => !Dg.cleanB t) = r at *
  go_enter Try.func79, Try.ntmps79
  go_wp2_with fail
  refine HC.out.mono ?_
  rintro e w2 ⟨rfl, hb2⟩
  have HB2 := Lib.hid hb2
  clear hb2
  go_wp2
  go_ret
  exact ⟨rfl, HB2.out⟩
theorem told1_any (p : Pr) (w : World) : Calls Try.prog 78 #[.agg #[.string (strB p.1), .string (strB p.2)]] w fun e w' => e = .returned (.bool (!okP p)) ∧ Below w.heap.size w w' := by
  obtain ⟨t1, t2⟩ := p
  by_cases he : t1 = []
  · have hk : okP (t1, t2) = false := by simp [okP, he]
    have hs0 : (strB t1).toList.isEmpty = true := by rw [strB_toList, he]; rfl
    rw [hk]
    clear he hk
    go_enter Try.func78, Try.ntmps78
    go_wp2
    go_ret
    exact ⟨rfl, (Below.refl _ _).alloc (Nat.le_refl _) _⟩
  · have hs0 : (strB t1).toList.isEmpty = false := by rw [strB_toList]; simpa using he
    obtain ⟨r, HR⟩ : ∃ r, Hid (([t1, t2] : List (List UInt8)).all Dg.cleanB = r) := ⟨_, rfl⟩
    have hk : okP (t1, t2) = r := by
      have h1 : t1.isEmpty = false := by simpa using he
      rw [← HR.out]; simp [okP, h1]
    rw [hk]
    clear he hk
    have HS : Hid (Below w.heap.size w (w.alloc (.cells #[.string (strB t1), .string (strB t2)] 55))) := Lib.hid ((Below.refl _ _).alloc (Nat.le_refl _) _)
    have HE : Hid (Elems ((w.alloc (.cells #[.string (strB t1), .string (strB t2)] 55)).alloc (.cells #[.string (strB t1), .string (strB t2)] 9)) (w.heap.size + 2) (some ⟨w.heap.size + 1, 0, none⟩) 1 (txE [t1, t2])) := Lib.hid fun _ => ⟨w.heap.size + 1, 0, rfl, by omega, fun i hi j u hu => by
      have hl := heap_alloc_new (w.alloc (.cells #[.string (strB t1), .string (strB t2)] 55)) (.cells #[.string (strB t1), .string (strB t2)] 9)
      rw [World.size_alloc] at hl
      rw [cell_of_row _ _ _ _ 9 (0, 0) hl]
      have hi2 : i = 0 ∨ i = 1 := by simp [txE] at hi; omega
      rcases hi2 with rfl | rfl <;> (rcases j with _ | j <;> simp [txE] at hu ⊢ <;> exact hu)⟩
    go_enter Try.func78, Try.ntmps78
    go_wp2_with fail
    refine (hclean_any (w.heap.size + 2) (some ⟨w.heap.size + 1, 0, none⟩) 2 2 [t1, t2] _ HE.out (by simp) rfl (by omega)).mono ?_
    rintro e w2 ⟨rfl, hb2⟩
    rw [HR.out]
    have HB2 := Lib.hid ((HS.out.alloc HS.out.size _).trans (hb2.mono (by simp; omega)))
    clear hb2
    go_wp2
    go_ret
    exact ⟨rfl, HB2.out⟩

/-- May a first message be told? -/
def mayB (m : Hm) : Bool :=
  if m.1 = 196608 then decide (m.2.1 = 0) && decide (m.2.2.1 = 0) && m.2.2.2.all okP
  else if m.1 = 80877102 then m.2.2.2.isEmpty && keyB m.2.1 && keyB m.2.2.1
  else if m.1 = 80877103 then m.2.2.2.isEmpty && (decide (m.2.1 = 0) && decide (m.2.2.1 = 0))
  else false

set_option maxHeartbeats 2000000 in
theorem mayBeTold_any (c p q : Int) (B : Nat) (a : Option Addr) (n k : Nat) (ps : List Pr) (w : World) (hE : Elems w B a 2 (prE ps)) (hB : B ≤ w.heap.size) (hn : ps.length = n) (hm : n ≤ 4294967296) :
    Calls Try.prog 42 #[.agg #[.int .i64 c, .int .i64 p, .int .i64 q, .slice a n k]] w fun e w' => e = .returned (.bool (mayB (c, p, q, ps))) ∧ Below w.heap.size w w' := by
  have HN := Lib.hid hn
  have HM := Lib.hid hm
  have HK := Lib.hid (Blk.new w 26 [.int .i64 c, .int .i64 p, .int .i64 q, .slice a n k])
  have HS : Hid (Below w.heap.size w (w.alloc (.cells #[.int .i64 c, .int .i64 p, .int .i64 q, .slice a n k] 26))) := Lib.hid ((Below.refl _ _).alloc (Nat.le_refl _) _)
  have HE := Lib.hid (hE.below (HS.out.mono hB))
  have HBb := Lib.hid hB
  have hallp : ps.all okP = !(ps.any fun t => !okP t) := by simp [List.all_eq_not_any_not]
  obtain ⟨r, HR⟩ : ∃ r, Hid ((ps.any fun t => !okP t) = r) := ⟨_, rfl⟩
  have hemp : ps.isEmpty = decide (n = 0) := by rw [← hn]; cases ps <;> simp
  obtain ⟨kp, HKp⟩ : ∃ r, Hid (keyB p = r) := ⟨_, rfl⟩
  obtain ⟨kq, HKq⟩ : ∃ r, Hid (keyB q = r) := ⟨_, rfl⟩
  have HMay : Hid (mayB (c, p, q, ps) = (if c = 196608 then decide (p = 0) && decide (q = 0) && !r else if c = 80877102 then decide (n = 0) && kp && kq else if c = 80877103 then decide (n = 0) && (decide (p = 0) && decide (q = 0)) else false)) := Lib.hid (by
    simp only [mayB]; rw [hallp, hemp, HR.out, HKp.out, HKq.out])
  rw [HMay.out]
  have HP : Hid (∀ W : World, Calls Try.prog 80 #[.int .i64 p] W fun e w' => e = .returned (.bool kp) ∧ W = w') := Lib.hid fun W => by rw [← HKp.out]; exact isKey_any p W
  have HQ : Hid (∀ W : World, Calls Try.prog 80 #[.int .i64 q] W fun e w' => e = .returned (.bool kq) ∧ W = w') := Lib.hid fun W => by rw [← HKq.out]; exact isKey_any q W
  obtain ⟨kl, HKl⟩ : ∃ r, Hid ((p == 0 && q == 0) = r) := ⟨_, rfl⟩
  have hz : (decide (p = 0) && decide (q = 0)) = kl := by
    rw [← HKl.out]
    by_cases h1 : p = 0 <;> by_cases h2 : q = 0 <;> simp [h1, h2]
  have hEq := eq_two p q 0 0
  rw [HKl.out] at hEq
  rw [hz]
  have hdn : decide (n = 0) = ((n : Int) == 0) := by by_cases h : n = 0 <;> simp [h]
  rw [hdn]
  obtain ⟨n0, HN0⟩ : ∃ r, Hid (((n : Int) == 0) = r) := ⟨_, rfl⟩
  have hn0 := HN0.out
  rw [hn0]
  clear hE hB hn hallp hemp HMay hm hz hdn
  by_cases hv : c = 196608
  · rw [if_pos hv]
    subst hv
    cases kl with
    | false =>
      go_enter Try.func42, Try.ntmps42
      go_wp2
      go_ret
      exact ⟨rfl, HS.out⟩
    | true =>
      go_enter Try.func42, Try.ntmps42
      go_wp2_with fail
      refine (pair_contains 78 (fun t => !okP t) B a n k ps _ HE.out (by have := HBb.out; simp; omega) HN.out HM.out (enters_of Try.func78 (by kernel_rfl) (by kernel_rfl)) fun j _ W => told1_any _ W).mono ?_
      rintro e w2 ⟨rfl, hb2⟩
      rw [HR.out]
      have HB2 := Lib.hid (HS.out.trans (hb2.mono (by simp)))
      clear hb2
      go_wp2
      go_ret
      exact ⟨rfl, HB2.out⟩
  · rw [if_neg hv]
    have e1 : (c == 196608) = false := by simpa using hv
    by_cases hv2 : c = 80877102
    · rw [if_pos hv2]
      subst hv2
      cases n0 with
      | false =>
        go_enter Try.func42, Try.ntmps42
        go_wp2
        go_ret
        exact ⟨rfl, HS.out⟩
      | true =>
        cases kp with
        | false =>
          go_enter Try.func42, Try.ntmps42
          go_wp2_with fail
          refine (HP.out _).mono ?_
          rintro e w2 ⟨rfl, rfl⟩
          go_wp2
          go_ret
          exact ⟨rfl, HS.out⟩
        | true =>
          go_enter Try.func42, Try.ntmps42
          go_wp2_with fail
          refine (HP.out _).mono ?_
          rintro e w2 ⟨rfl, rfl⟩
          go_wp2_with fail
          refine (HQ.out _).mono ?_
          rintro e w2 ⟨rfl, rfl⟩
          go_wp2
          go_ret
          exact ⟨rfl, HS.out⟩
    · rw [if_neg hv2]
      have e2 : (c == 80877102) = false := by simpa using hv2
      by_cases hv3 : c = 80877103
      · rw [if_pos hv3]
        subst hv3
        cases n0 with
        | false =>
          go_enter Try.func42, Try.ntmps42
          go_wp2
          go_ret
          exact ⟨rfl, HS.out⟩
        | true =>
          go_enter Try.func42, Try.ntmps42
          go_wp2
          go_ret
          exact ⟨rfl, HS.out⟩
      · rw [if_neg hv3]
        have e3 : (c == 80877103) = false := by simpa using hv3
        go_enter Try.func42, Try.ntmps42
        go_wp2
        go_ret
        exact ⟨rfl, HS.out⟩
end Go.Proofs.Ytngmfgdoopkkdaa.He
