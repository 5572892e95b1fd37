/- The document's answer for Parse: what it answers of any bytes, the same. -/
import Derived.Test.YtngmfgdoopkkdaaHelD
namespace Go.Proofs.Ytngmfgdoopkkdaa.He
set_option maxRecDepth 100000
open Go.RowKit Go By Nm Sc

/-- Where the document's Parse stands: its result's block, the scan's. -/
def RStage (w W : World) (g : Nat) (st : Sta) : Prop :=
  Blk W w.heap.size 26 [.int .i64 0, .int .i64 0, .int .i64 0, .slice none 0 0] ∧ RSt W g st ∧ Below w.heap.size w W ∧ w.heap.size < g
section
variable {w W W' : World} {g : Nat} {st st' : Sta}
theorem RStage.only (h : RStage w W g st) (ho : Only g W W') (hs : RSt W' g st') : RStage w W' g st' := by
  obtain ⟨h1, _, h4, h5⟩ := h
  exact ⟨h1.only ho (by omega), hs, ho.below h4 h4.size (by omega), h5⟩
theorem RStage.alloc (h : RStage w W g st) (o : Obj) : RStage w (W.alloc o) g st := by
  obtain ⟨h1, h3, h4, h5⟩ := h
  exact ⟨h1.alloc o, h3.still ((Still.refl W).alloc o), h4.alloc h4.size o, h5⟩
theorem rst_above {k : Nat} (ho : Only k W W') (hn : g < k) : ∀ {st : Sta}, RSt W g st → RSt W' g st
  | some xs, h => by
    obtain ⟨a, c, hk, hx, r⟩ := h
    exact ⟨a, c, hk.only ho (by omega), hx.keep fun p hp => World.cell?_of_block (w := W) (ho.at_ (by have := hk.lt; omega) (by omega)), r⟩
  | none, h => by
    obtain ⟨xs, a, c, hk, hx, r⟩ := h
    exact ⟨xs, a, c, hk.only ho (by omega), hx.keep fun p hp => World.cell?_of_block (w := W) (ho.at_ (by have := hk.lt; omega) (by omega)), r⟩
theorem RStage.set (h : RStage w W g st) (b : Nat) (hb : g < b) (i : Nat) (v : Value) : RStage w (W.setCell ⟨b, i, none⟩ v) g st := by
  obtain ⟨h1, h3, h4, h5⟩ := h
  have ho : Only b W (W.setCell ⟨b, i, none⟩ v) := (Only.refl b W).set i v
  exact ⟨h1.only ho (by omega), rst_above ho hb h3, ho.below h4 h4.size (by omega), h5⟩
theorem RStage.result (h : RStage w W g st) : Blk W w.heap.size 26 [.int .i64 0, .int .i64 0, .int .i64 0, .slice none 0 0] := h.1
theorem RStage.scan (h : RStage w W g st) : RSt W g st := h.2.1
theorem RStage.below (h : RStage w W g st) : Below w.heap.size w W := h.2.2.1
theorem RStage.lt (h : RStage w W g st) : w.heap.size < g := h.2.2.2
end
theorem rnum_hid (g : Nat) (st st' : Sta) (n v : Int) (w : World) (h : RSt w g st) (hs : numS st n = st') (hv : numV st n = v) :
    Calls Try.prog 37 #[.pointer (some ⟨g, 0, none⟩), .int .i64 n] w (Went RSt g st' (.int .i64 v) w) := by
  subst hs hv; exact rnum_st g st n w h
theorem num4_none {xs : List UInt8} (h : xs.length < 4) : numS (some xs) 4 = none := by
  simp only [numS]
  rw [if_neg]
  intro he
  have := getErr_zero he
  omega
theorem num4_some {xs : List UInt8} (h : 4 ≤ xs.length) : numS (some xs) 4 = some (xs.drop 4) := by
  simp only [numS]
  have h0 : getErr xs.length 0 4 = 0 := getErr_ok (len := xs.length) (i := 0) (size := 4) rfl (by omega)
  rw [if_pos h0]
  rfl
theorem done_some {s : Sta} (h : doneB s = true) : badB s = false := by cases s <;> first | rfl | cases h

set_option maxHeartbeats 2000000 in
theorem rhparse_any (B : Nat) (a : Option Addr) (cap : Nat) (xs : List UInt8) (l : List Pr) (s : Sta) (w : World) (h : BytesAt w B a xs) (hB : B ≤ w.heap.size) (hc : a = none → cap = 0) (hl : xs.length ≤ 100000) (hP : Prs (numS (some xs) 4) l s) :
    Calls Try.prog 11 #[.slice a xs.length cap] w (Answered (helloR (numV (some xs) 4) (numS (some xs) 4) l s) w) := by
  obtain ⟨c, HC⟩ : ∃ c, Hid (numV (some xs) 4 = c) := ⟨_, rfl⟩
  have hr := Blk.new w 26 [.int .i64 0, .int .i64 0, .int .i64 0, .slice none 0 0]
  by_cases hlen : xs.length < 4
  · obtain ⟨n, HN⟩ : ∃ n, Hid (xs.length = n) := ⟨_, rfl⟩
    rw [num4_none hlen, HC.out]
    rw [HN.out] at hlen ⊢
    have HA : Hid (Answered (noHm, 4) w (.returned (.tuple #[.agg #[.int .i64 0, .int .i64 0, .int .i64 0, .slice none 0 0], .int .i64 4])) (w.alloc (.cells #[.int .i64 0, .int .i64 0, .int .i64 0, .slice none 0 0] 26))) :=
      Lib.hid ⟨none, 0, rfl, fun hp => by simp [prE, noHm] at hp, (Below.refl w.heap.size w).alloc (Nat.le_refl _) _⟩
    clear hr h hc hl hB hP
    go_enter Try.func11, Try.ntmps11
    go_wp2
    exact bodyPost_ret (v := .tuple #[.agg #[.int .i64 0, .int .i64 0, .int .i64 0, .slice none 0 0], .int .i64 4]) (by simp [results, Try.results11, go_sem]) rfl HA.out
  · obtain ⟨r, HT⟩ : ∃ t, Hid (numS (some xs) 4 = some t) := ⟨xs.drop 4, num4_some (by omega)⟩
    have hls : lenS (some r) ≤ 100000 := by rw [← HT.out]; exact Nat.le_trans (lenS_num xs 4) hl
    rw [HC.out, HT.out]
    rw [HT.out] at hP
    have HP := Lib.hid hP
    have HLs := Lib.hid hls
    obtain ⟨n, HN⟩ : ∃ n, Hid (xs.length = n) := ⟨_, rfl⟩
    have hnew := rnew_any B a cap xs (w.alloc (.cells #[.int .i64 0, .int .i64 0, .int .i64 0, .slice none 0 0] 26)) (h.alloc hB _) hc (by omega)
    rw [HN.out] at hlen hnew ⊢
    have HNew := Lib.hid hnew
    clear hP hls h hc hl hB hr hnew
    go_enter Try.func11, Try.ntmps11
    go_wp2_with fail
    refine HNew.out.mono ?_
    rintro e w2 ⟨g, rfl, hg, hs2, ho2⟩
    have HS2 : Hid (RStage w w2 g (some xs)) := Lib.hid (by
      have hr := Blk.new w 26 [.int .i64 0, .int .i64 0, .int .i64 0, .slice none 0 0]
      have hs3 : RSt w2 g (some xs) := hs2
      have hgz : w.heap.size < g := by simp at hg; omega
      exact ⟨hr.still ho2, hs3, ho2.below_of ((Below.refl w.heap.size w).alloc (Nat.le_refl _) _) (by simp), hgz⟩)
    clear hg hs2 ho2
    go_wp2_with fail
    refine (rnum_hid g (some xs) (some r) 4 c _ HS2.out.scan HT.out HC.out).mono ?_
    rintro e w3 ⟨rfl, hs3, ho3⟩
    have HS3 : Hid (RStage w (w3.alloc (.cells #[.int .i64 c, .int .i64 0, .int .i64 0, .slice none 0 0] 26)) g (some r)) := Lib.hid ((HS2.out.only ho3 hs3).alloc _)
    have HH3 := Lib.hid (Blk.new w3 26 [.int .i64 c, .int .i64 0, .int .i64 0, .slice none 0 0])
    have hd3 : g < w3.heap.size := RSt.lt hs3
    clear hs3 ho3
    by_cases hv : c = 196608
    · subst hv
      go_wp2_with fail
      refine (params_any g (some r) s l _ HS3.out.scan HP.out HLs.out).mono ?_
      rintro e w5 ⟨v, rfl, hown, ho5⟩
      obtain ⟨n5, HN5⟩ : ∃ n, Hid ((listR l s).length = n) := ⟨_, rfl⟩
      have HO5 := Lib.hid hown
      obtain ⟨a5, c5, rfl, _⟩ := hown.form
      rw [prE_length, HN5.out] at HO5 ⊢
      have HB5 : Hid (Below w.heap.size w w5 ∧ Blk w5 w.heap.size 26 [.int .i64 0, .int .i64 0, .int .i64 0, .slice none 0 0]) := Lib.hid ⟨ho5.below HS3.out.below HS3.out.below.size (by have := HS3.out.lt; omega), HS3.out.result.only ho5 (by have := HS3.out.lt; omega)⟩
      have HH5 := Lib.hid (HH3.out.only ho5 (by omega))
      have s3 := HH5.out.cell 3 _ rfl
      have sf3 := HH5.out.frozen 3
      have hwr := HS3.out.lt
      have HB6 : Hid (Below w.heap.size w (w5.setCell ⟨w3.heap.size, 3, none⟩ (.slice a5 n5 c5)) ∧ Blk (w5.setCell ⟨w3.heap.size, 3, none⟩ (.slice a5 n5 c5)) w.heap.size 26 [.int .i64 0, .int .i64 0, .int .i64 0, .slice none 0 0]) :=
        Lib.hid ⟨HB5.out.1.setCell (by show w.heap.size ≤ w3.heap.size; omega) _, HB5.out.2.only ((Only.refl w3.heap.size w5).set 3 _) (by omega)⟩
      have HH6 := Lib.hid (HH5.out.set 3 (.slice a5 n5 c5))
      have HO6 : Hid (OwnE 55 2 (w5.setCell ⟨w3.heap.size, 3, none⟩ (.slice a5 n5 c5)) (w3.heap.size + 1) (.slice a5 n5 c5) (prE (listR l s))) := Lib.hid ((HO5.out.rebase (by simp)).only ((Only.refl w3.heap.size w5).set 3 _) (Nat.lt_succ_self _))
      have r0 := HB6.out.2.cell 0 _ rfl
      have r1 := HB6.out.2.cell 1 _ rfl
      have r2 := HB6.out.2.cell 2 _ rfl
      have r3 := HB6.out.2.cell 3 _ rfl
      have fr0 := HB6.out.2.frozen 0
      have fr1 := HB6.out.2.frozen 1
      have fr2 := HB6.out.2.frozen 2
      have fr3 := HB6.out.2.frozen 3
      have h0 := HH6.out.cell 0 _ rfl
      have h1 := HH6.out.cell 1 _ rfl
      have h2 := HH6.out.cell 2 _ rfl
      have h3 := HH6.out.cell 3 _ rfl
      clear hown ho5
      cases hd : doneB s with
      | false =>
        obtain ⟨hk, ha⟩ := done_hello 0 0 0 4 [] none 0 0 rfl HB6.out.1 HB6.out.2 (fun _ _ hp => by simp [prE] at hp)
        have q0 := hk.cell 0 _ rfl
        have q1 := hk.cell 1 _ rfl
        have q2 := hk.cell 2 _ rfl
        have q3 := hk.cell 3 _ rfl
        have HA := Lib.hid ha
        have HQ := Lib.hid (And.intro q0 (And.intro q1 (And.intro q2 q3)))
        clear hk ha q0 q1 q2 q3
        go_wp2
        obtain ⟨q0, q1, q2, q3⟩ := HQ.out
        refine bodyPost_ret (v := .tuple #[.agg #[.int .i64 0, .int .i64 0, .int .i64 0, .slice none 0 0], .int .i64 4]) (by simp [results, Try.results11, go_sem, q0, q1, q2, q3]) rfl ?_
        rw [helloR, if_pos rfl, hd, if_neg (by simp)]
        exact HA.out
      | true =>
        have hE : ∀ W', Only w.heap.size (w5.setCell ⟨w3.heap.size, 3, none⟩ (.slice a5 n5 c5)) W' → Elems W' W'.heap.size a5 2 (prE (listR l s)) := fun W' ho => by
          obtain ⟨a6, c6, e6, hE6, _⟩ := (HO6.out.only ho (by omega)).form
          injection e6 with e6
          subst e6
          exact hE6
        have HLl : Hid (listR l s = l) := Lib.hid (by simp [listR, done_some hd])
        obtain ⟨hk, ha⟩ := done_hello 196608 0 0 0 (listR l s) a5 n5 c5 HN5.out HB6.out.1 HB6.out.2 hE
        have q0 := hk.cell 0 _ rfl
        have q1 := hk.cell 1 _ rfl
        have q2 := hk.cell 2 _ rfl
        have q3 := hk.cell 3 _ rfl
        have HA := Lib.hid ha
        have HQ := Lib.hid (And.intro q0 (And.intro q1 (And.intro q2 q3)))
        clear hk ha q0 q1 q2 q3
        go_wp2
        obtain ⟨q0, q1, q2, q3⟩ := HQ.out
        refine bodyPost_ret (v := .tuple #[.agg #[.int .i64 196608, .int .i64 0, .int .i64 0, .slice a5 n5 c5], .int .i64 0]) (by simp [results, Try.results11, go_sem, q0, q1, q2, q3]) rfl ?_
        rw [helloR, if_pos rfl, hd, if_pos rfl]
        rw [HLl.out] at HA; exact HA.out
    · have e1 : (c == 196608) = false := by simpa using hv
      by_cases hv2 : c = 80877102
      · subst hv2
        obtain ⟨p, HPv⟩ : ∃ p, Hid (numV (some r) 4 = p) := ⟨_, rfl⟩
        obtain ⟨st1, HT1⟩ : ∃ p, Hid (numS (some r) 4 = p) := ⟨_, rfl⟩
        obtain ⟨q, HQv⟩ : ∃ p, Hid (numV st1 4 = p) := ⟨_, rfl⟩
        obtain ⟨st2, HT2⟩ : ∃ p, Hid (numS st1 4 = p) := ⟨_, rfl⟩
        have hwr := HS3.out.lt
        go_wp2_with fail
        refine (rnum_hid g (some r) st1 4 p _ HS3.out.scan HT1.out HPv.out).mono ?_
        rintro e w5 ⟨rfl, hs5, ho5⟩
        have HS5 := Lib.hid (HS3.out.only ho5 hs5)
        have HH5 := Lib.hid (HH3.out.only ho5 (by omega))
        clear hs5 ho5
        go_wp2_with fail
        refine (rnum_hid g st1 st2 4 q _ HS5.out.scan HT2.out HQv.out).mono ?_
        rintro e w7 ⟨rfl, hs7, ho7⟩
        have HS7 := Lib.hid (HS5.out.only ho7 hs7)
        have HH7 := Lib.hid (HH5.out.only ho7 (by omega))
        have s1 := HH7.out.cell 1 _ rfl
        have sf1 := HH7.out.frozen 1
        have HH7b := Lib.hid (HH7.out.set 1 (.int .i64 p))
        have s2 := HH7b.out.cell 2 _ rfl
        have sf2 := HH7b.out.frozen 2
        have HS8 := Lib.hid ((HS7.out.set w3.heap.size hd3 1 (.int .i64 p)).set w3.heap.size hd3 2 (.int .i64 q))
        have HH8 := Lib.hid (HH7b.out.set 2 (.int .i64 q))
        clear hs7 ho7
        go_wp2_with fail
        refine (rdone_st g st2 _ HS8.out.scan).mono ?_
        rintro e w9 ⟨rfl, rfl⟩
        have r0 := HS8.out.result.cell 0 _ rfl
        have fr0 := HS8.out.result.frozen 0
        have h0 := HH8.out.cell 0 _ rfl
        have r1 := HS8.out.result.cell 1 _ rfl
        have fr1 := HS8.out.result.frozen 1
        have h1 := HH8.out.cell 1 _ rfl
        have r2 := HS8.out.result.cell 2 _ rfl
        have fr2 := HS8.out.result.frozen 2
        have h2 := HH8.out.cell 2 _ rfl
        have r3 := HS8.out.result.cell 3 _ rfl
        have fr3 := HS8.out.result.frozen 3
        have h3 := HH8.out.cell 3 _ rfl
        cases hd : doneB st2 with
        | false =>
          obtain ⟨hk, ha⟩ := done_hello 0 0 0 4 [] none 0 0 rfl HS8.out.below HS8.out.result (fun _ _ hp => by simp [prE] at hp)
          have q0 := hk.cell 0 _ rfl
          have q1 := hk.cell 1 _ rfl
          have q2 := hk.cell 2 _ rfl
          have q3 := hk.cell 3 _ rfl
          have HA := Lib.hid ha
          have HQ := Lib.hid (And.intro q0 (And.intro q1 (And.intro q2 q3)))
          clear hk ha q0 q1 q2 q3
          go_wp2
          obtain ⟨q0, q1, q2, q3⟩ := HQ.out
          refine bodyPost_ret (v := .tuple #[.agg #[.int .i64 0, .int .i64 0, .int .i64 0, .slice none 0 0], .int .i64 4]) (by simp [results, Try.results11, go_sem, q0, q1, q2, q3]) rfl ?_
          rw [helloR, if_neg hv, if_pos rfl, HT1.out, HT2.out, hd, if_neg (by simp)]
          exact HA.out
        | true =>
          obtain ⟨hk, ha⟩ := done_hello 80877102 p q 0 [] none 0 0 rfl HS8.out.below HS8.out.result (fun _ _ hp => by simp [prE] at hp)
          have q0 := hk.cell 0 _ rfl
          have q1 := hk.cell 1 _ rfl
          have q2 := hk.cell 2 _ rfl
          have q3 := hk.cell 3 _ rfl
          have HA := Lib.hid ha
          have HQ := Lib.hid (And.intro q0 (And.intro q1 (And.intro q2 q3)))
          clear hk ha q0 q1 q2 q3
          go_wp2
          obtain ⟨q0, q1, q2, q3⟩ := HQ.out
          refine bodyPost_ret (v := .tuple #[.agg #[.int .i64 80877102, .int .i64 p, .int .i64 q, .slice none 0 0], .int .i64 0]) (by simp [results, Try.results11, go_sem, q0, q1, q2, q3]) rfl ?_
          rw [helloR, if_neg hv, if_pos rfl, HT1.out, HT2.out, HPv.out, HQv.out, hd, if_pos rfl]
          exact HA.out
      · have e2 : (c == 80877102) = false := by simpa using hv2
        by_cases hv3 : c = 80877103
        · subst hv3
          go_wp2_with fail
          refine (rdone_st g (some r) _ HS3.out.scan).mono ?_
          rintro e w9 ⟨rfl, rfl⟩
          have r0 := HS3.out.result.cell 0 _ rfl
          have fr0 := HS3.out.result.frozen 0
          have h0 := HH3.out.cell 0 _ rfl
          have r1 := HS3.out.result.cell 1 _ rfl
          have fr1 := HS3.out.result.frozen 1
          have h1 := HH3.out.cell 1 _ rfl
          have r2 := HS3.out.result.cell 2 _ rfl
          have fr2 := HS3.out.result.frozen 2
          have h2 := HH3.out.cell 2 _ rfl
          have r3 := HS3.out.result.cell 3 _ rfl
          have fr3 := HS3.out.result.frozen 3
          have h3 := HH3.out.cell 3 _ rfl
          cases hd : doneB (some r) with
          | false =>
            obtain ⟨hk, ha⟩ := done_hello 0 0 0 4 [] none 0 0 rfl HS3.out.below HS3.out.result (fun _ _ hp => by simp [prE] at hp)
            have q0 := hk.cell 0 _ rfl
            have q1 := hk.cell 1 _ rfl
            have q2 := hk.cell 2 _ rfl
            have q3 := hk.cell 3 _ rfl
            have HA := Lib.hid ha
            have HQ := Lib.hid (And.intro q0 (And.intro q1 (And.intro q2 q3)))
            clear hk ha q0 q1 q2 q3
            go_wp2
            obtain ⟨q0, q1, q2, q3⟩ := HQ.out
            refine bodyPost_ret (v := .tuple #[.agg #[.int .i64 0, .int .i64 0, .int .i64 0, .slice none 0 0], .int .i64 4]) (by simp [results, Try.results11, go_sem, q0, q1, q2, q3]) rfl ?_
            rw [helloR, if_neg hv, if_neg hv2, if_pos rfl, hd, if_neg (by simp)]
            exact HA.out
          | true =>
            obtain ⟨hk, ha⟩ := done_hello 80877103 0 0 0 [] none 0 0 rfl HS3.out.below HS3.out.result (fun _ _ hp => by simp [prE] at hp)
            have q0 := hk.cell 0 _ rfl
            have q1 := hk.cell 1 _ rfl
            have q2 := hk.cell 2 _ rfl
            have q3 := hk.cell 3 _ rfl
            have HA := Lib.hid ha
            have HQ := Lib.hid (And.intro q0 (And.intro q1 (And.intro q2 q3)))
            clear hk ha q0 q1 q2 q3
            go_wp2
            obtain ⟨q0, q1, q2, q3⟩ := HQ.out
            refine bodyPost_ret (v := .tuple #[.agg #[.int .i64 80877103, .int .i64 0, .int .i64 0, .slice none 0 0], .int .i64 0]) (by simp [results, Try.results11, go_sem, q0, q1, q2, q3]) rfl ?_
            rw [helloR, if_neg hv, if_neg hv2, if_pos rfl, hd, if_pos rfl]
            exact HA.out
        · have e3 : (c == 80877103) = false := by simpa using hv3
          have r0 := HS3.out.result.cell 0 _ rfl
          have fr0 := HS3.out.result.frozen 0
          have r1 := HS3.out.result.cell 1 _ rfl
          have fr1 := HS3.out.result.frozen 1
          have r2 := HS3.out.result.cell 2 _ rfl
          have fr2 := HS3.out.result.frozen 2
          have r3 := HS3.out.result.cell 3 _ rfl
          have fr3 := HS3.out.result.frozen 3
          obtain ⟨hk, ha⟩ := done_hello 0 0 0 9 [] none 0 0 rfl HS3.out.below HS3.out.result (fun _ _ hp => by simp [prE] at hp)
          have q0 := hk.cell 0 _ rfl
          have q1 := hk.cell 1 _ rfl
          have q2 := hk.cell 2 _ rfl
          have q3 := hk.cell 3 _ rfl
          have HA := Lib.hid ha
          have HQ := Lib.hid (And.intro q0 (And.intro q1 (And.intro q2 q3)))
          clear hk ha q0 q1 q2 q3
          go_wp2
          obtain ⟨q0, q1, q2, q3⟩ := HQ.out
          refine bodyPost_ret (v := .tuple #[.agg #[.int .i64 0, .int .i64 0, .int .i64 0, .slice none 0 0], .int .i64 9]) (by simp [results, Try.results11, go_sem, q0, q1, q2, q3]) rfl ?_
          rw [helloR, if_neg hv, if_neg hv2, if_neg hv3]
          exact HA.out
end Go.Proofs.Ytngmfgdoopkkdaa.He
