/- Whether a first message may be told, as the document's answer says it: the same. -/
import Derived.Test.YtngmfgdoopkkdaaHelH
namespace Go.Proofs.Ytngmfgdoopkkdaa.He
set_option maxRecDepth 100000
open Go.RowKit Go By Nm Sc

theorem rclean_l (t : List UInt8) (w : World) (h : t.length ≤ 4294967296) :
    Calls Try.prog 58 #[.string (strB t)] w fun e w' => e = .returned (.bool (Dg.cleanB t)) ∧ w = w' :=
  Dg.rclean_any (strB t) w (by rw [strB_size]; unfold maxLen; omega)
theorem mayB_no {c p q : Int} {ps : List Pr} (h : ps.all okP = false) : mayB (c, p, q, ps) = false := by
  have he : ps.isEmpty = false := by
    cases ps with
    | nil => simp at h
    | cons x xs => rfl
  simp only [mayB, h, he]
  split
  · simp
  · split
    · rfl
    · split <;> rfl

set_option maxHeartbeats 8000000 in
theorem may_any (c p q : Int) (B : Nat) (a : Option Addr) (n k : Nat) (ps : List Pr) (w : World) (hE : Elems w B a 2 (prE ps)) (hB : B ≤ w.heap.size) (hn : ps.length = n) (hm : n ≤ 4294967296)
    (hz : ∀ t, t < n → (ps.getD t ([], [])).1.length ≤ 4294967296 ∧ (ps.getD t ([], [])).2.length ≤ 4294967296) :
    Calls Try.prog 45 #[.agg #[.int .i64 c, .int .i64 p, .int .i64 q, .slice a n k]] w fun e w' => e = .returned (.bool (mayB (c, p, q, ps))) ∧ Below w.heap.size w w' := by
  have HN := Lib.hid hn
  have HM := Lib.hid hm
  have HZ := Lib.hid hz
  have HK := Lib.hid (Blk.new w 26 [.int .i64 c, .int .i64 p, .int .i64 q, .slice a n k])
  have HS : Hid (Below w.heap.size w (w.alloc (.cells #[.int .i64 c, .int .i64 p, .int .i64 q, .slice a n k] 26))) := Lib.hid ((Below.refl _ _).alloc (Nat.le_refl _) _)
  have HE := Lib.hid (hE.below (HS.out.mono hB))
  have HBb := Lib.hid hB
  have hemp : ps.isEmpty = decide (n = 0) := by rw [← hn]; cases ps <;> simp
  have HEm := Lib.hid hemp
  obtain ⟨m, HMay⟩ : ∃ m, Hid (mayB (c, p, q, ps) = m) := ⟨_, rfl⟩
  rw [HMay.out]
  clear hE hB hn hz hemp
  go_enter Try.func45, Try.ntmps45
  go_wp2
  generalize hW : w.alloc _ = W at *
  generalize hbx : w.heap.size = bx at *
  have HX := Lib.hid hbx
  clear hW hbx
  have k0 := HK.out.cell 0 _ rfl
  have k1 := HK.out.cell 1 _ rfl
  have k2 := HK.out.cell 2 _ rfl
  have k3 := HK.out.cell 3 _ rfl
  go_loop [3] (fun i => ∃ j : Nat, i = .int .i64 j ∧ j ≤ n ∧ ∀ t, t < j → okP (ps.getD t ([], [])) = true) (fun i => n - (intOf i).toNat)
  case atStart => exact ⟨0, rfl, Nat.zero_le _, fun t ht => by omega⟩
  case round =>
    obtain ⟨j, rfl, hj, hno⟩ := hrel
    have HNo := Lib.hid hno
    clear hno
    by_cases hlt : j < n
    · obtain ⟨b, off, ha, hb, hc0, hc1⟩ := pair_cells HE.out j (by rw [HN.out]; exact hlt)
      subst ha
      obtain ⟨pr, HPr⟩ : ∃ p, Hid (ps.getD j ([], []) = p) := ⟨_, rfl⟩
      rw [HPr.out] at hc0 hc1
      obtain ⟨t1, t2⟩ := pr
      have hz := HZ.out j hlt
      rw [HPr.out] at hz
      have HC1 := Lib.hid fun W => rclean_l t1 W hz.1
      have HC2 := Lib.hid fun W => rclean_l t2 W hz.2
      have hbad : okP (t1, t2) = false → m = false := fun h => by
        rw [← HMay.out]
        refine mayB_no (Bool.eq_false_iff.2 fun hall => ?_)
        have := List.all_eq_true.1 hall (ps[j]'(by rw [HN.out]; exact hlt)) (List.getElem_mem _)
        have h2 := HPr.out
        rw [List.getD_eq_getElem?_getD, List.getElem?_eq_getElem (by rw [HN.out]; exact hlt), Option.getD_some] at h2
        rw [h2, h] at this
        cases this
      have HBad := Lib.hid hbad
      clear hz hbad
      by_cases he : t1 = []
      · have hs0 : (strB t1).toList.isEmpty = true := by rw [strB_toList, he]; rfl
        obtain rfl := HBad.out (by simp [okP, he])
        clear he
        go_wp2
        go_ret
        exact ⟨rfl, by rw [HX.out]; exact HS.out⟩
      · have hs0 : (strB t1).toList.isEmpty = false := by rw [strB_toList]; simpa using he
        have HEe := Lib.hid he
        clear he
        cases h1 : Dg.cleanB t1 with
        | false =>
          obtain rfl := HBad.out (by simp [okP, h1])
          rw [h1] at HC1
          clear h1
          go_wp2_with fail
          refine (HC1.out _).mono ?_
          rintro e w2 ⟨rfl, rfl⟩
          go_wp2
          go_ret
          exact ⟨rfl, by rw [HX.out]; exact HS.out⟩
        | true =>
          rw [h1] at HC1
          cases h2 : Dg.cleanB t2 with
          | false =>
            obtain rfl := HBad.out (by simp [okP, h2])
            rw [h2] at HC2
            clear h1 h2
            go_wp2_with fail
            refine (HC1.out _).mono ?_
            rintro e w2 ⟨rfl, rfl⟩
            go_wp2_with fail
            refine (HC2.out _).mono ?_
            rintro e w2 ⟨rfl, rfl⟩
            go_wp2
            go_ret
            exact ⟨rfl, by rw [HX.out]; exact HS.out⟩
          | true =>
            rw [h2] at HC2
            have HOk : Hid (okP (t1, t2) = true) := Lib.hid (by
              have h3 : t1.isEmpty = false := by have := HEe.out; simpa using this
              simp [okP, h1, h2, h3])
            clear h1 h2
            go_wp2_with fail
            refine (HC1.out _).mono ?_
            rintro e w2 ⟨rfl, rfl⟩
            go_wp2_with fail
            refine (HC2.out _).mono ?_
            rintro e w2 ⟨rfl, rfl⟩
            go_wp2
            go_round
            case rel =>
              refine ⟨j + 1, by go_num, by omega, fun t ht => ?_⟩
              by_cases htj : t < j
              · exact HNo.out t htj
              · obtain rfl : t = j := by omega
                rw [HPr.out]; exact HOk.out
            case measure => simp [intOf]; omega
    · obtain rfl : j = n := by omega
      have hall : ps.all okP = true := List.all_eq_true.2 fun x hx => by
        obtain ⟨t, ht, rfl⟩ := List.mem_iff_getElem.1 hx
        have := HNo.out t (by rw [HN.out] at ht; exact ht)
        rw [List.getD_eq_getElem?_getD, List.getElem?_eq_getElem ht, Option.getD_some] at this
        exact this
      obtain ⟨b1, hb1⟩ : ∃ r, (p == 0) = r := ⟨_, rfl⟩
      obtain ⟨b2, hb2⟩ : ∃ r, (q == 0) = r := ⟨_, rfl⟩
      have hkl : (decide (p = 0) && decide (q = 0)) = (b1 && b2) := by rw [← hb1, ← hb2]; by_cases h1 : p = 0 <;> by_cases h2 : q = 0 <;> simp [h1, h2]
      obtain ⟨n0, HN0⟩ : ∃ r, Hid (((j : Int) == 0) = r) := ⟨_, rfl⟩
      have hdn : decide (j = 0) = n0 := by rw [← HN0.out]; by_cases h : j = 0 <;> simp [h]
      obtain ⟨rp, HRp⟩ : ∃ r, Hid (rightB p 4 = r) := ⟨_, rfl⟩
      obtain ⟨rq, HRq⟩ : ∃ r, Hid (rightB q 4 = r) := ⟨_, rfl⟩
      have hmay : m = (if c = 196608 then b1 && b2 else if c = 80877102 then n0 && (decide (0 ≤ p) && rp) && (decide (0 ≤ q) && rq) else if c = 80877103 then n0 && (b1 && b2) else false) := by
        rw [← HMay.out]
        simp only [mayB, keyB]
        rw [hall, HEm.out, hdn, hkl, HRp.out, HRq.out]
        simp
      have HP : Hid (∀ W : World, Calls Try.prog 82 #[.int .i64 p, .int .i64 4] W fun e w' => e = .returned (.bool rp) ∧ W = w') := Lib.hid fun W => by rw [← HRp.out]; exact rright_any p 4 W
      have HQ : Hid (∀ W : World, Calls Try.prog 82 #[.int .i64 q, .int .i64 4] W fun e w' => e = .returned (.bool rq) ∧ W = w') := Lib.hid fun W => by rw [← HRq.out]; exact rright_any q 4 W
      have hn0 := HN0.out
      clear hall hdn hkl
      cases b1
      all_goals
        by_cases hv : c = 196608
        · subst hv
          rw [if_pos rfl] at hmay
          simp only [Bool.true_and, Bool.false_and] at hmay
          subst hmay
          go_wp2
          go_ret
          exact ⟨rfl, by rw [HX.out]; exact HS.out⟩
        · have e1 : (c == 196608) = false := by simpa using hv
          rw [if_neg hv] at hmay
          by_cases hv2 : c = 80877102
          · subst hv2
            rw [if_pos rfl] at hmay
            cases n0 with
            | false =>
              obtain rfl : m = false := by rw [hmay]; rfl
              clear hmay
              go_wp2
              go_ret
              exact ⟨rfl, by rw [HX.out]; exact HS.out⟩
            | true =>
              by_cases hp0 : (0 : Int) ≤ p
              · by_cases hq0 : (0 : Int) ≤ q
                · cases rp with
                  | false =>
                    obtain rfl : m = false := by rw [hmay]; simp
                    clear hmay
                    go_wp2_with fail
                    refine (HP.out _).mono ?_
                    rintro e w2 ⟨rfl, rfl⟩
                    go_wp2
                    go_ret
                    exact ⟨rfl, by rw [HX.out]; exact HS.out⟩
                  | true =>
                    obtain rfl : m = rq := by rw [hmay]; simp [hp0, hq0]
                    clear hmay
                    go_wp2_with fail
                    refine (HP.out _).mono ?_
                    rintro e w2 ⟨rfl, rfl⟩
                    go_wp2_with fail
                    refine (HQ.out _).mono ?_
                    rintro e w2 ⟨rfl, rfl⟩
                    go_wp2
                    go_ret
                    exact ⟨rfl, by rw [HX.out]; exact HS.out⟩
                · obtain rfl : m = false := by rw [hmay]; simp [hq0]
                  clear hmay
                  go_wp2
                  go_ret
                  exact ⟨rfl, by rw [HX.out]; exact HS.out⟩
              · obtain rfl : m = false := by rw [hmay]; simp [hp0]
                clear hmay
                go_wp2
                go_ret
                exact ⟨rfl, by rw [HX.out]; exact HS.out⟩
          · have e2 : (c == 80877102) = false := by simpa using hv2
            rw [if_neg hv2] at hmay
            by_cases hv3 : c = 80877103
            · subst hv3
              rw [if_pos rfl] at hmay
              cases n0
              all_goals cases b2
              all_goals (simp at hmay; subst hmay; go_wp2; go_ret; exact ⟨rfl, by rw [HX.out]; exact HS.out⟩)
            · have e3 : (c == 80877103) = false := by simpa using hv3
              rw [if_neg hv3] at hmay
              obtain rfl := hmay
              go_wp2
              go_ret
              exact ⟨rfl, by rw [HX.out]; exact HS.out⟩
end Go.Proofs.Ytngmfgdoopkkdaa.He
