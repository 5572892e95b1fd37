/- Package hello's Parse: what it answers of any bytes. -/
import Derived.Test.YtngmfgdoopkkdaaHelC
namespace Go.Proofs.Ytngmfgdoopkkdaa.He
set_option maxRecDepth 100000
open Go.RowKit Go By Nm Sc

/-- A first message: its code, process, secret and pairs. -/
abbrev Hm := Int × Int × Int × List Pr
def noHm : Hm := (0, 0, 0, [])
/-- What Parse answers, out of the state behind the code (the pairs l and the state s behind them are what stands there). -/
def helloR (c : Int) (st : Sta) (l : List Pr) (s : Sta) : Hm × Int :=
  match st with
  | none => (noHm, 4)
  | some r =>
    if c = 196608 then (if doneB s = true then ((c, 0, 0, l), 0) else (noHm, 4))
    else if c = 80877102 then (if doneB (numS (numS (some r) 4) 4) = true then ((c, numV (some r) 4, numV (numS (some r) 4) 4, []), 0) else (noHm, 4))
    else if c = 80877103 then (if doneB (some r) = true then ((c, 0, 0, []), 0) else (noHm, 4))
    else (noHm, 9)
def hmCells (m : Hm) (a : Option Addr) (k : Nat) : List Value := [.int .i64 m.1, .int .i64 m.2.1, .int .i64 m.2.2.1, .slice a m.2.2.2.length k]
/-- A first message was answered, with an error's number, in memory of the call's own. -/
def Answered (m : Hm × Int) (w : World) (e : Ending) (w' : World) : Prop :=
  ∃ a k, e = .returned (.tuple #[.agg #[.int .i64 m.1.1, .int .i64 m.1.2.1, .int .i64 m.1.2.2.1, .slice a m.1.2.2.2.length k], .int .i64 m.2]) ∧ Elems w' w'.heap.size a 2 (prE m.1.2.2.2) ∧ Below w.heap.size w w'

/-- Where Parse stands: its result's block r, the scan's g, the reader's d. -/
def Stage (w W : World) (g d : Nat) (st : Sta) : Prop :=
  Blk W w.heap.size 26 [.int .i64 0, .int .i64 0, .int .i64 0, .slice none 0 0] ∧ Blk W d 59 [.pointer (some ⟨g, 0, none⟩)] ∧ St W g st ∧ Below w.heap.size w W ∧ w.heap.size < g ∧ g < d
section
variable {w W W' : World} {g d : Nat} {st st' : Sta}
theorem Stage.only (h : Stage w W g d st) (ho : Only g W W') (hs : St W' g st') : Stage w W' g d st' := by
  obtain ⟨h1, h2, _, h4, h5, h6⟩ := h
  exact ⟨h1.only ho (by omega), h2.only ho (by omega), hs, ho.below h4 h4.size (by omega), h5, h6⟩
theorem Stage.alloc (h : Stage w W g d st) (o : Obj) : Stage w (W.alloc o) g d st := by
  obtain ⟨h1, h2, h3, h4, h5, h6⟩ := h
  exact ⟨h1.alloc o, h2.alloc o, h3.still ((Still.refl W).alloc o), h4.alloc h4.size o, h5, h6⟩
theorem Stage.set (h : Stage w W g d st) (b : Nat) (hb : d < b) (i : Nat) (v : Value) : Stage w (W.setCell ⟨b, i, none⟩ v) g d st := by
  obtain ⟨h1, h2, h3, h4, h5, h6⟩ := h
  have ho : Only b W (W.setCell ⟨b, i, none⟩ v) := (Only.refl b W).set i v
  exact ⟨h1.only ho (by omega), h2.only ho (by omega), h3.only ho (by omega), ho.below h4 h4.size (by omega), h5, h6⟩
theorem Stage.result (h : Stage w W g d st) : Blk W w.heap.size 26 [.int .i64 0, .int .i64 0, .int .i64 0, .slice none 0 0] := h.1
theorem Stage.reader (h : Stage w W g d st) : Blk W d 59 [.pointer (some ⟨g, 0, none⟩)] := h.2.1
theorem Stage.scan (h : Stage w W g d st) : St W g st := h.2.2.1
theorem Stage.below (h : Stage w W g d st) : Below w.heap.size w W := h.2.2.2.1
end

theorem num_hid (g : Nat) (st st' : Sta) (n v : Int) (w : World) (h : St w g st) (hs : numS st n = st') (hv : numV st n = v) :
    Calls Try.prog 32 #[.pointer (some ⟨g, 0, none⟩), .int .i64 n] w (Went St g st' (.int .i64 v) w) := by
  subst hs hv; exact num_st g st n w h
/-- The result's four cells, written. -/
abbrev putHm (W : World) (r : Nat) (c p q : Int) (a : Option Addr) (n k : Nat) : World :=
  (((W.setCell ⟨r, 0, none⟩ (.int .i64 c)).setCell ⟨r, 1, none⟩ (.int .i64 p)).setCell ⟨r, 2, none⟩ (.int .i64 q)).setCell ⟨r, 3, none⟩ (.slice a n k)
theorem done_hello {w W : World} (c p q er : Int) (l : List Pr) (a : Option Addr) (n k : Nat) (hn : l.length = n) (hB : Below w.heap.size w W) (hk : Blk W w.heap.size 26 [.int .i64 0, .int .i64 0, .int .i64 0, .slice none 0 0])
    (hE : ∀ W', Only w.heap.size W W' → Elems W' W'.heap.size a 2 (prE l)) :
    Blk (putHm W w.heap.size c p q a n k) w.heap.size 26 [.int .i64 c, .int .i64 p, .int .i64 q, .slice a n k] ∧
      Answered ((c, p, q, l), er) w (.returned (.tuple #[.agg #[.int .i64 c, .int .i64 p, .int .i64 q, .slice a n k], .int .i64 er])) (putHm W w.heap.size c p q a n k) := by
  subst hn
  refine ⟨?_, a, k, rfl, ?_, ?_⟩
  · simpa using (((hk.set 0 _).set 1 _).set 2 _).set 3 _
  · exact hE _ (((((Only.refl _ W).set 0 _).set 1 _).set 2 _).set 3 _)
  · exact (((hB.setCell (Nat.le_refl _) _).setCell (Nat.le_refl _) _).setCell (Nat.le_refl _) _).setCell (Nat.le_refl _) _

theorem lenS_num (xs : List UInt8) (n : Int) : lenS (numS (some xs) n) ≤ xs.length := by
  simp only [numS]
  split
  · simp [lenS]
  · simp [lenS]

set_option maxHeartbeats 2000000 in
theorem hparse_any (B : Nat) (a : Option Addr) (cap : Nat) (xs : List UInt8) (l : List Pr) (s : Sta) (w : World) (h : BytesAt w B a xs) (hB : B ≤ w.heap.size) (hc : a = none → cap = 0) (hl : xs.length ≤ 100000) (hP : Prs (numS (some xs) 4) l s) :
    Calls Try.prog 10 #[.slice a xs.length cap] w (Answered (helloR (numV (some xs) 4) (numS (some xs) 4) l s) w) := by
  obtain ⟨c, HC⟩ : ∃ c, Hid (numV (some xs) 4 = c) := ⟨_, rfl⟩
  obtain ⟨st, HT⟩ : ∃ t, Hid (numS (some xs) 4 = t) := ⟨_, rfl⟩
  have hls : lenS st ≤ 100000 := by rw [← HT.out]; exact Nat.le_trans (lenS_num xs 4) hl
  rw [HC.out, HT.out]
  rw [HT.out] at hP
  have HP := Lib.hid hP
  have HLs := Lib.hid hls
  have HNew := Lib.hid (new_any B a cap xs (w.alloc (.cells #[.int .i64 0, .int .i64 0, .int .i64 0, .slice none 0 0] 26)) (h.alloc hB _) hc (by omega))
  clear hP hls h hc hl hB
  go_enter Try.func10, Try.ntmps10
  go_wp2_with fail
  refine HNew.out.mono ?_
  rintro e w2 ⟨g, rfl, hg, hs2, ho2⟩
  have HS2 : Hid (Stage w (w2.alloc (.cells #[.pointer (some ⟨g, 0, none⟩)] 59)) g w2.heap.size (some xs)) := Lib.hid (by
    have hr := Blk.new w 26 [.int .i64 0, .int .i64 0, .int .i64 0, .slice none 0 0]
    have hs3 : St w2 g (some xs) := hs2
    have hz := hs3.lt
    have hgz : w.heap.size < g := by simp at hg; omega
    exact ⟨(hr.still ho2).alloc _, Blk.new w2 _ [.pointer (some ⟨g, 0, none⟩)], hs3.still ((Still.refl w2).alloc _), (ho2.below_of ((Below.refl w.heap.size w).alloc (Nat.le_refl _) _) (by simp)).alloc (by have := ho2.size; simp at this; omega) _, hgz, hz⟩)
  have d2 := HS2.out.reader.cell 0 _ rfl
  clear hg hs2 ho2
  go_wp2_with fail
  refine (num_hid g (some xs) st 4 c _ HS2.out.scan HT.out HC.out).mono ?_
  rintro e w3 ⟨rfl, hs3, ho3⟩
  have HS3 : Hid (Stage w (w3.alloc (.cells #[.int .i64 c, .int .i64 0, .int .i64 0, .slice none 0 0] 26)) g w2.heap.size st) := Lib.hid ((HS2.out.only ho3 hs3).alloc _)
  have HH3 := Lib.hid (Blk.new w3 26 [.int .i64 c, .int .i64 0, .int .i64 0, .slice none 0 0])
  have d3 := HS3.out.reader.cell 0 _ rfl
  have hd3 : w2.heap.size < w3.heap.size := by have := (HS2.out.only ho3 hs3).reader.lt; exact this
  clear hs3 ho3 d2
  go_wp2_with fail
  refine (bad_st g st _ HS3.out.scan).mono ?_
  rintro e w4 ⟨rfl, rfl⟩
  have r0 := HS3.out.result.cell 0 _ rfl
  have r1 := HS3.out.result.cell 1 _ rfl
  have r2 := HS3.out.result.cell 2 _ rfl
  have r3 := HS3.out.result.cell 3 _ rfl
  have fr0 := HS3.out.result.frozen 0
  have fr1 := HS3.out.result.frozen 1
  have fr2 := HS3.out.result.frozen 2
  have fr3 := HS3.out.result.frozen 3
  cases st with
  | none =>
    have hb : badB none = true := rfl
    rw [hb]
    obtain ⟨hk, ha⟩ := done_hello 0 0 0 4 [] none 0 0 rfl HS3.out.below HS3.out.result (fun _ _ hp => by simp [prE] at hp)
    have q0 := hk.cell 0 _ rfl
    have q1 := hk.cell 1 _ rfl
    have q2 := hk.cell 2 _ rfl
    have q3 := hk.cell 3 _ rfl
    have HA := Lib.hid ha
    have HQ := Lib.hid (And.intro q0 (And.intro q1 (And.intro q2 q3)))
    clear hk ha q0 q1 q2 q3
    go_wp2
    obtain ⟨q0, q1, q2, q3⟩ := HQ.out
    exact bodyPost_ret (v := .tuple #[.agg #[.int .i64 0, .int .i64 0, .int .i64 0, .slice none 0 0], .int .i64 4]) (by simp [results, Try.results10, go_sem, q0, q1, q2, q3]) rfl HA.out
  | some r =>
    have hb : badB (some r) = false := rfl
    rw [hb]
    clear hb
    have h0 := HH3.out.cell 0 _ rfl
    by_cases hv : c = 196608
    · subst hv
      have hgd := HS3.out.2.2.2.2.2
      clear r0 r1 r2 r3 fr0 fr1 fr2 fr3 h0
      go_wp2_with fail
      refine (pairs_any g (some r) s l _ HS3.out.scan HP.out HLs.out).mono ?_
      rintro e w5 ⟨v, rfl, hown, hs5, ho5⟩
      obtain ⟨n, HN⟩ : ∃ n, Hid (l.length = n) := ⟨_, rfl⟩
      have HO5 := Lib.hid hown
      obtain ⟨a5, c5, rfl, _⟩ := hown.form
      rw [prE_length, HN.out] at HO5 ⊢
      have HS5 := Lib.hid (HS3.out.only ho5 hs5)
      have HH5 := Lib.hid (HH3.out.only ho5 (by omega))
      have s3 := HH5.out.cell 3 _ rfl
      have sf3 := HH5.out.frozen 3
      have HS6 := Lib.hid (HS5.out.set w3.heap.size hd3 3 (.slice a5 n c5))
      have HH6 := Lib.hid (HH5.out.set 3 (.slice a5 n c5))
      have HO6 : Hid (OwnE 55 2 (w5.setCell ⟨w3.heap.size, 3, none⟩ (.slice a5 n c5)) (w3.heap.size + 1) (.slice a5 n c5) (prE l)) := Lib.hid ((HO5.out.rebase (by simp)).only ((Only.refl w3.heap.size w5).set 3 _) (Nat.lt_succ_self _))
      have d6 := HS6.out.reader.cell 0 _ rfl
      clear hown hs5 ho5
      go_wp2_with fail
      refine (done_st g s _ HS6.out.scan).mono ?_
      rintro e w7 ⟨rfl, rfl⟩
      have r0 := HS6.out.result.cell 0 _ rfl
      have fr0 := HS6.out.result.frozen 0
      have h0 := HH6.out.cell 0 _ rfl
      have r1 := HS6.out.result.cell 1 _ rfl
      have fr1 := HS6.out.result.frozen 1
      have h1 := HH6.out.cell 1 _ rfl
      have r2 := HS6.out.result.cell 2 _ rfl
      have fr2 := HS6.out.result.frozen 2
      have h2 := HH6.out.cell 2 _ rfl
      have r3 := HS6.out.result.cell 3 _ rfl
      have fr3 := HS6.out.result.frozen 3
      have h3 := HH6.out.cell 3 _ rfl
      cases hd : doneB s with
      | false =>
        obtain ⟨hk, ha⟩ := done_hello 0 0 0 4 [] none 0 0 rfl HS6.out.below HS6.out.result (fun _ _ hp => by simp [prE] at hp)
        have q0 := hk.cell 0 _ rfl
        have q1 := hk.cell 1 _ rfl
        have q2 := hk.cell 2 _ rfl
        have q3 := hk.cell 3 _ rfl
        have HA := Lib.hid ha
        have HQ := Lib.hid (And.intro q0 (And.intro q1 (And.intro q2 q3)))
        clear hk ha q0 q1 q2 q3
        go_wp2
        obtain ⟨q0, q1, q2, q3⟩ := HQ.out
        refine bodyPost_ret (v := .tuple #[.agg #[.int .i64 0, .int .i64 0, .int .i64 0, .slice none 0 0], .int .i64 4]) (by simp [results, Try.results10, go_sem, q0, q1, q2, q3]) rfl ?_
        rw [helloR, if_pos rfl, hd, if_neg (by simp)]
        exact HA.out
      | true =>
        have hE : ∀ W', Only w.heap.size (w5.setCell ⟨w3.heap.size, 3, none⟩ (.slice a5 n c5)) W' → Elems W' W'.heap.size a5 2 (prE l) := fun W' ho => by
          obtain ⟨a6, c6, e6, hE6, _⟩ := (HO6.out.only ho (by have := HS6.out.below.size; have := HS6.out.2.2.2.2; omega)).form
          injection e6 with e6
          subst e6
          exact hE6
        obtain ⟨hk, ha⟩ := done_hello 196608 0 0 0 l a5 n c5 HN.out HS6.out.below HS6.out.result hE
        have q0 := hk.cell 0 _ rfl
        have q1 := hk.cell 1 _ rfl
        have q2 := hk.cell 2 _ rfl
        have q3 := hk.cell 3 _ rfl
        have HA := Lib.hid ha
        have HQ := Lib.hid (And.intro q0 (And.intro q1 (And.intro q2 q3)))
        clear hk ha q0 q1 q2 q3
        go_wp2
        obtain ⟨q0, q1, q2, q3⟩ := HQ.out
        refine bodyPost_ret (v := .tuple #[.agg #[.int .i64 196608, .int .i64 0, .int .i64 0, .slice a5 n c5], .int .i64 0]) (by simp [results, Try.results10, go_sem, q0, q1, q2, q3]) rfl ?_
        rw [helloR, if_pos rfl, hd, if_pos rfl]
        exact HA.out
    · have e1 : (c == 196608) = false := by simpa using hv
      by_cases hv2 : c = 80877102
      · subst hv2
        have hgd := HS3.out.2.2.2.2.2
        obtain ⟨p, HPv⟩ : ∃ p, Hid (numV (some r) 4 = p) := ⟨_, rfl⟩
        obtain ⟨st1, HT1⟩ : ∃ p, Hid (numS (some r) 4 = p) := ⟨_, rfl⟩
        obtain ⟨q, HQv⟩ : ∃ p, Hid (numV st1 4 = p) := ⟨_, rfl⟩
        obtain ⟨st2, HT2⟩ : ∃ p, Hid (numS st1 4 = p) := ⟨_, rfl⟩
        clear r0 r1 r2 r3 fr0 fr1 fr2 fr3 h0
        have h0 := HH3.out.cell 0 _ rfl
        go_wp2_with fail
        refine (num_hid g (some r) st1 4 p _ HS3.out.scan HT1.out HPv.out).mono ?_
        rintro e w5 ⟨rfl, hs5, ho5⟩
        have HS5 := Lib.hid (HS3.out.only ho5 hs5)
        have HH5 := Lib.hid (HH3.out.only ho5 (by omega))
        have s1 := HH5.out.cell 1 _ rfl
        have sf1 := HH5.out.frozen 1
        have HS6 := Lib.hid (HS5.out.set w3.heap.size hd3 1 (.int .i64 p))
        have HH6 := Lib.hid (HH5.out.set 1 (.int .i64 p))
        have d6 := HS6.out.reader.cell 0 _ rfl
        clear hs5 ho5 h0
        go_wp2_with fail
        refine (num_hid g st1 st2 4 q _ HS6.out.scan HT2.out HQv.out).mono ?_
        rintro e w7 ⟨rfl, hs7, ho7⟩
        have HS7 := Lib.hid (HS6.out.only ho7 hs7)
        have HH7 := Lib.hid (HH6.out.only ho7 (by omega))
        have s2 := HH7.out.cell 2 _ rfl
        have sf2 := HH7.out.frozen 2
        have HS8 := Lib.hid (HS7.out.set w3.heap.size hd3 2 (.int .i64 q))
        have HH8 := Lib.hid (HH7.out.set 2 (.int .i64 q))
        have d8 := HS8.out.reader.cell 0 _ rfl
        clear hs7 ho7 d6
        go_wp2_with fail
        refine (done_st g st2 _ HS8.out.scan).mono ?_
        rintro e w9 ⟨rfl, rfl⟩
        have r0 := HS8.out.result.cell 0 _ rfl
        have fr0 := HS8.out.result.frozen 0
        have h0 := HH8.out.cell 0 _ rfl
        have r1 := HS8.out.result.cell 1 _ rfl
        have fr1 := HS8.out.result.frozen 1
        have h1 := HH8.out.cell 1 _ rfl
        have r2 := HS8.out.result.cell 2 _ rfl
        have fr2 := HS8.out.result.frozen 2
        have h2 := HH8.out.cell 2 _ rfl
        have r3 := HS8.out.result.cell 3 _ rfl
        have fr3 := HS8.out.result.frozen 3
        have h3 := HH8.out.cell 3 _ rfl
        cases hd : doneB st2 with
        | false =>
          obtain ⟨hk, ha⟩ := done_hello 0 0 0 4 [] none 0 0 rfl HS8.out.below HS8.out.result (fun _ _ hp => by simp [prE] at hp)
          have q0 := hk.cell 0 _ rfl
          have q1 := hk.cell 1 _ rfl
          have q2 := hk.cell 2 _ rfl
          have q3 := hk.cell 3 _ rfl
          have HA := Lib.hid ha
          have HQ := Lib.hid (And.intro q0 (And.intro q1 (And.intro q2 q3)))
          clear hk ha q0 q1 q2 q3
          go_wp2
          obtain ⟨q0, q1, q2, q3⟩ := HQ.out
          refine bodyPost_ret (v := .tuple #[.agg #[.int .i64 0, .int .i64 0, .int .i64 0, .slice none 0 0], .int .i64 4]) (by simp [results, Try.results10, go_sem, q0, q1, q2, q3]) rfl ?_
          rw [helloR, if_neg hv, if_pos rfl, HT1.out, HT2.out, hd, if_neg (by simp)]
          exact HA.out
        | true =>
          obtain ⟨hk, ha⟩ := done_hello 80877102 p q 0 [] none 0 0 rfl HS8.out.below HS8.out.result (fun _ _ hp => by simp [prE] at hp)
          have q0 := hk.cell 0 _ rfl
          have q1 := hk.cell 1 _ rfl
          have q2 := hk.cell 2 _ rfl
          have q3 := hk.cell 3 _ rfl
          have HA := Lib.hid ha
          have HQ := Lib.hid (And.intro q0 (And.intro q1 (And.intro q2 q3)))
          clear hk ha q0 q1 q2 q3
          go_wp2
          obtain ⟨q0, q1, q2, q3⟩ := HQ.out
          refine bodyPost_ret (v := .tuple #[.agg #[.int .i64 80877102, .int .i64 p, .int .i64 q, .slice none 0 0], .int .i64 0]) (by simp [results, Try.results10, go_sem, q0, q1, q2, q3]) rfl ?_
          rw [helloR, if_neg hv, if_pos rfl, HT1.out, HT2.out, HPv.out, HQv.out, hd, if_pos rfl]
          exact HA.out
      · have e2 : (c == 80877102) = false := by simpa using hv2
        by_cases hv3 : c = 80877103
        · subst hv3
          clear r0 r1 r2 r3 fr0 fr1 fr2 fr3 h0
          have h0 := HH3.out.cell 0 _ rfl
          have d8 := HS3.out.reader.cell 0 _ rfl
          go_wp2_with fail
          refine (done_st g (some r) _ HS3.out.scan).mono ?_
          rintro e w9 ⟨rfl, rfl⟩
          clear h0
          have r0 := HS3.out.result.cell 0 _ rfl
          have fr0 := HS3.out.result.frozen 0
          have h0 := HH3.out.cell 0 _ rfl
          have r1 := HS3.out.result.cell 1 _ rfl
          have fr1 := HS3.out.result.frozen 1
          have h1 := HH3.out.cell 1 _ rfl
          have r2 := HS3.out.result.cell 2 _ rfl
          have fr2 := HS3.out.result.frozen 2
          have h2 := HH3.out.cell 2 _ rfl
          have r3 := HS3.out.result.cell 3 _ rfl
          have fr3 := HS3.out.result.frozen 3
          have h3 := HH3.out.cell 3 _ rfl
          cases hd : doneB (some r) with
          | false =>
            obtain ⟨hk, ha⟩ := done_hello 0 0 0 4 [] none 0 0 rfl HS3.out.below HS3.out.result (fun _ _ hp => by simp [prE] at hp)
            have q0 := hk.cell 0 _ rfl
            have q1 := hk.cell 1 _ rfl
            have q2 := hk.cell 2 _ rfl
            have q3 := hk.cell 3 _ rfl
            have HA := Lib.hid ha
            have HQ := Lib.hid (And.intro q0 (And.intro q1 (And.intro q2 q3)))
            clear hk ha q0 q1 q2 q3
            go_wp2
            obtain ⟨q0, q1, q2, q3⟩ := HQ.out
            refine bodyPost_ret (v := .tuple #[.agg #[.int .i64 0, .int .i64 0, .int .i64 0, .slice none 0 0], .int .i64 4]) (by simp [results, Try.results10, go_sem, q0, q1, q2, q3]) rfl ?_
            rw [helloR, if_neg hv, if_neg hv2, if_pos rfl, hd, if_neg (by simp)]
            exact HA.out
          | true =>
            obtain ⟨hk, ha⟩ := done_hello 80877103 0 0 0 [] none 0 0 rfl HS3.out.below HS3.out.result (fun _ _ hp => by simp [prE] at hp)
            have q0 := hk.cell 0 _ rfl
            have q1 := hk.cell 1 _ rfl
            have q2 := hk.cell 2 _ rfl
            have q3 := hk.cell 3 _ rfl
            have HA := Lib.hid ha
            have HQ := Lib.hid (And.intro q0 (And.intro q1 (And.intro q2 q3)))
            clear hk ha q0 q1 q2 q3
            go_wp2
            obtain ⟨q0, q1, q2, q3⟩ := HQ.out
            refine bodyPost_ret (v := .tuple #[.agg #[.int .i64 80877103, .int .i64 0, .int .i64 0, .slice none 0 0], .int .i64 0]) (by simp [results, Try.results10, go_sem, q0, q1, q2, q3]) rfl ?_
            rw [helloR, if_neg hv, if_neg hv2, if_pos rfl, hd, if_pos rfl]
            exact HA.out
        · have e3 : (c == 80877103) = false := by simpa using hv3
          obtain ⟨hk, ha⟩ := done_hello 0 0 0 9 [] none 0 0 rfl HS3.out.below HS3.out.result (fun _ _ hp => by simp [prE] at hp)
          have q0 := hk.cell 0 _ rfl
          have q1 := hk.cell 1 _ rfl
          have q2 := hk.cell 2 _ rfl
          have q3 := hk.cell 3 _ rfl
          have HA := Lib.hid ha
          have HQ := Lib.hid (And.intro q0 (And.intro q1 (And.intro q2 q3)))
          clear hk ha q0 q1 q2 q3
          go_wp2
          obtain ⟨q0, q1, q2, q3⟩ := HQ.out
          refine bodyPost_ret (v := .tuple #[.agg #[.int .i64 0, .int .i64 0, .int .i64 0, .slice none 0 0], .int .i64 9]) (by simp [results, Try.results10, go_sem, q0, q1, q2, q3]) rfl ?_
          rw [helloR, if_neg hv, if_neg hv2, if_neg hv3]
          exact HA.out
end Go.Proofs.Ytngmfgdoopkkdaa.He
