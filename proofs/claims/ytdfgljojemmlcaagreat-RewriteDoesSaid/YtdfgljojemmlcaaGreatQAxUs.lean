import Derived.Test.YtdfgljojemmlcaaGreatQAxUq
set_option linter.unusedSimpArgs false
set_option linter.unusedVariables false
open Nat renaming le_refl -> Q0, zero_le -> Q9, sub_self -> Rj
open List renaming length_append -> Q1, mem_singleton -> Q2, getElem_append_left -> Q3, getElem?_append_left -> Q4, getElem_append_right -> Q5, takeWhile_cons -> Q6, take_of_length_le -> Q7, append_assoc -> Q8, length_take -> Ra, getElem?_eq_none -> Rb, mem_append -> Rc, getElem?_append_right -> Rd, getElem?_eq_getElem -> Re, getElem_take -> Rf, length_cons -> Rh, length_nil -> Ri
namespace Go.Proofs.YtdfgljojemmlcaaGreat.Ax
open Go.RowKit Go By Sc Dg
set_option maxRecDepth 10000
def eB (h : List (List AV)) : FO := ⟨cz (cM h ++ [[.sl 0 [] (some true) .exact, .v (.int .i64 0)]]) 40 ++ [[.sl 0 [] (some true) .exact, .v (.int .i64 40)]], ⟨h.length, h.length + 1, 0, []⟩, nP (cM h ++ [[.sl 0 [] (some true) .exact, .v (.int .i64 0)]]) 40, [], h.length + 7, h.length + 7⟩
theorem jP (h : List (List AV)) : (cM h).length = h.length + 3 := by unfold cM; simp
theorem rI (h : List (List AV)) (x : List AV) : (cM h ++ [x]).length = h.length + 4 := by rw [Q1, jP]; rfl
theorem Al {h : List (List AV)} (hh : aw h.length h) : (eB h).Ok h.length 0 := by
 have r0 := sz hh
 have r1 := r0.app [[.sl 0 [] (some true) .exact, .v (.int .i64 0)]] (by simp)
 have hl4 := rI h [.sl 0 [] (some true) .exact, .v (.int .i64 0)]
 have t0 := xu (h := cM h ++ [[.sl 0 [] (some true) .exact, .v (.int .i64 0)]]) r1.lt 40 h.length (by rw [hl4]; omega)
 rw [hl4] at t0
 have t1 := t0.app [[.sl 0 [] (some true) .exact, .v (.int .i64 40)]] (by simp)
 have hext : ∀ q < h.length + 4, (eB h).H[q]? = (cM h ++ [[.sl 0 [] (some true) .exact, .v (.int .i64 0)]])[q]? := fun q hq => by
  show (cz (cM h ++ [_]) 40 ++ [_])[q]? = _
  unfold cz
  rw [Q8, Q4 (by rw [hl4]; exact hq)]
 have hl : (eB h).H.length = h.length + 7 := by
  show (cz (cM h ++ [_]) 40 ++ [_]).length = _
  unfold cz; rw [Q1, Q1, hl4]; rfl
 have hlt : aw (eB h).H.length (eB h).H := t1.lt
 have e3 : (eB h).H[h.length + 3]? = some [.sl 0 [] (some true) .exact, .v (.int .i64 0)] := by
  rw [hext _ (by omega), Rd (by rw [jP]; omega), jP, Rj]; rfl
 have e6 : (eB h).H[h.length + 6]? = some [.sl 0 [] (some true) .exact, .v (.int .i64 40)] := by
  show (cz (cM h ++ [_]) 40 ++ [_])[h.length + 6]? = _
  have : (cz (cM h ++ [[.sl 0 [] (some true) .exact, .v (.int .i64 0)]]) 40).length = h.length + 6 := by unfold cz; rw [Q1, hl4]; rfl
  rw [Rd (by rw [this]; exact Q0 _), this, Rj]; rfl
 have hb := zU (cM h ++ [[.sl 0 [] (some true) .exact, .v (.int .i64 0)]]) (most := 40) (by omega) (by omega)
 refine ⟨r1.keep0 (fun k hk => hext k ?_) hlt, r9 h, ⟨e3, fun e => absurd rfl e, ⟨by omega, by show h.length <= h.length + 7; omega⟩, by show h.length + 3 ≠ h.length + 7; omega, hlt⟩, t1, hl4, rfl, ⟨e6, fun e => absurd rfl e, ⟨by omega, by show h.length <= h.length + 7; omega⟩, by show h.length + 6 ≠ h.length + 7; omega, hlt⟩, hb, fun k hk => ?_, fun e => absurd rfl e, fun e => absurd rfl e, by rw [hl]; exact Q0 _⟩
 ·unfold Rg.touch at hk
  simp at hk
  omega
 ·have hk : k ∈ (h.length + 2) :: h.length :: (h.length + 1) :: ([] : List Nat) := hk
  simp at hk
  omega
theorem xE (h : List (List AV)) : ∀ k < h.length, (eB h).H[k]? = h[k]? := fun k hk => by
 show (cz (cM h ++ [_]) 40 ++ [_])[k]? = _
 unfold cz cM
 rw [Q8, Q8, Q8, Q4 hk]
def iD (s : Sm) : Bool := decide (s.text.length <= 300) && decide (s.oids.length <= 20)
theorem kS {s : Sm} : iD s = true ↔ s.text.length <= 300 /\ s.oids.length <= 20 := by unfold iD; simp
def io (stmts : List Sm) : Nat := ((stmts.take 20).takeWhile iD).length
theorem n5 (stmts : List Sm) : io stmts <= stmts.length /\ io stmts <= 20 := by
 unfold io
 have h1 := (List.takeWhile_sublist (p := iD) (l := stmts.take 20)).length_le
 rw [Ra] at h1
 omega
theorem lJ {α : Type} (p : α -> Bool) : ∀ (l : List α) (j : Nat) (hj : j < l.length), j < (l.takeWhile p).length -> p l[j] = true
 | x :: l, 0, _, h => by
  by_cases hx : p x = true
  ·exact hx
  ·rw [Q6, if_neg hx] at h; cases h
 | x :: l, j + 1, hj, h => by
  by_cases hx : p x = true
  ·rw [Q6, if_pos hx] at h
   exact lJ p l j (by simpa using hj) (by simpa using h)
  ·rw [Q6, if_neg hx] at h; cases h
theorem kI {α : Type} (p : α -> Bool) : ∀ (l : List α) (hj : (l.takeWhile p).length < l.length), p l[(l.takeWhile p).length] = false
 | [], hj => by cases hj
 | x :: l, hj => by
  by_cases hx : p x = true
  ·simp only [Q6, if_pos hx, Rh] at hj ⊢
   exact kI p l (by omega)
  ·simp only [Q6, if_neg hx, Ri] at hj ⊢
   simpa using hx
theorem wX {stmts : List Sm} {j : Nat} (hj : j < io stmts) : ∃ hl : j < stmts.length, iD stmts[j] = true := by
 have h1 := n5 stmts
 refine ⟨by omega, ?_⟩
 have := lJ iD (stmts.take 20) j (by rw [Ra]; omega) hj
 rwa [Rf] at this
theorem zR {stmts : List Sm} (hl : io stmts < stmts.length) : io stmts = 20 \/ iD stmts[io stmts] = false := by
 have h1 := n5 stmts
 by_cases h2 : io stmts = 20
 ·exact .inl h2
 ·right
  have := kI iD (stmts.take 20) (by rw [Ra]; unfold io at *; omega)
  rwa [Rf] at this
structure StepK (B n : Nat) (s : Sm) (nm : Option (List UInt8)) (d d' : FO) : Prop where
 ex : ∃ d1, Step2 B (n + 1) { d with H := d.H ++ [db s] } d1 21 22 [.box (B + 2) 0, .agg (db s)] [.box (B + 3) 0, .agg (db s)] (.v (.int .i64 (d.R.putId s : Int))) (.v (.int .i64 (d.R.putId s : Int))) /\
  (∀ k, nm = some k -> k.length <= 300 -> StepT B (n + 1) d1 d' k (d.R.putId s)) /\ ((nm = none \/ ∃ k, nm = some k /\ ¬ k.length <= 300) -> d' = d1)
 ok : d'.Ok B (n + 1)
 lt : ∀ k < B, d'.H[k]? = d.H[k]?
theorem FO.Ok.stepK {B n : Nat} {d : FO} (hd : d.Ok B n) (hn : n <= 900) {s : Sm} (hs : iD s = true) (nm : Option (List UInt8)) : ∃ d', StepK B n s nm d d' := by
 obtain ⟨s1, s2⟩ := kS.1 hs
 have hd1 := hd.app [db s] (by simp)
 have hlen : (d.H ++ [db s]).length = d.H.length + 1 := by simp
 have hkb : (ce s).length <= 100000 := rX (by unfold xY; simp; omega)
 have hput := zJ hd1.reg hd1.ok (by omega) s (by omega) hkb
 obtain ⟨d1, hst, hR⟩ := hd1.step (f := 21) (fx := 22) (a := [.box (B + 2) 0, .agg (db s)]) (ax := [.box (B + 3) 0, .agg (db s)]) (r := .v (.int .i64 (d.R.putId s : Int))) (rx := .v (.int .i64 (d.R.putId s : Int))) (hd1.ok.put s ⟨by omega, by omega⟩ ((d.H ++ [db s]).length + 2))
  (by
   obtain ⟨h', a1, a2, a3, a4, a5⟩ := hput
   exact ⟨h', a1, a2, a3, a4⟩)
  (fun x hx => by
   rcases dO hx with h | h
   ·exact .inl h
   ·exact .inr (by rw [h]; show (d.H ++ [db s]).length <= _; omega))
  (fun H1 b1 hx _ hlt => by
   have := zu hx hd1.ok (by have := hd1.ok.len0; omega) (by omega) s (by omega) ((d.H ++ [db s]).length + 2)
   obtain ⟨h', b', a1, a2, a3, a4, a5, a6⟩ := this
   exact ⟨h', b', a1, a2, a3, a4, a5⟩)
 have hlow : ∀ k < B, d1.H[k]? = d.H[k]? := fun k hk => by
  obtain ⟨H1, b1, _, _, _, _, _, _, _, hg⟩ := hst.ex
  have hl := hd.len
  rw [hg k (by show k < (d.H ++ [db s]).length; omega) (fun h => by have := hd1.tch k h; omega) (by omega) (fun hne => by have := (hd1.bs hne).1; omega)]
  exact Q4 (by omega)
 by_cases hnm : ∃ k, nm = some k /\ k.length <= 300
 ·obtain ⟨k, rfl, hk⟩ := hnm
  obtain ⟨d', hT⟩ := hst.ok.stepT k (by omega) (d.R.putId s)
  refine ⟨d', ⟨d1, hst, fun k2 e _ => by injection e with e; subst e; exact hT, fun h => ?_⟩, hT.ok, fun q hq => ?_⟩
  ·rcases h with h | ⟨k2, h, h2⟩
   ·cases h
   ·injection h with h; subst h; exact absurd hk h2
  ·obtain ⟨H1, c1, r1, r2, _, _, q1, _, _, _, _, hg, _⟩ := hT.ex
   have hl := hst.ok.len
   rw [hg q (by omega) (by omega) (by omega) (fun hne => by have := (hst.ok.cs hne).1; omega)]
   exact hlow q hq
 ·refine ⟨d1, ⟨d1, hst, fun k e hk => absurd ⟨k, e, hk⟩ hnm, fun _ => rfl⟩, hst.ok, hlow⟩
theorem EJ {B : Nat} (stmts : List Sm) (named : List (List UInt8)) (d0 : FO) (h0 : d0.Ok B 0) : ∃ S : Nat -> FO, S 0 = d0 /\ (∀ j ≤ io stmts, (S j).Ok B j /\ ∀ k < B, (S j).H[k]? = d0.H[k]?) /\ ∀ j (hj : j < io stmts), ∃ hl : j < stmts.length, StepK B j stmts[j] named[j]? (S j) (S (j + 1)) := by
 have hN := n5 stmts
 have key : ∀ N, N <= io stmts -> ∃ S : Nat -> FO, S 0 = d0 /\ (∀ j ≤ N, (S j).Ok B j /\ ∀ k < B, (S j).H[k]? = d0.H[k]?) /\ ∀ j (hj : j < N), ∃ hl : j < stmts.length, StepK B j stmts[j] named[j]? (S j) (S (j + 1)) := fun N => by
  induction N with
  | zero =>
   intro _
   refine ⟨fun _ => d0, rfl, fun j hj => ?_, fun j hj => absurd hj (by omega)⟩
   have e : j = 0 := by omega
   rw [e]
   exact ⟨h0, fun _ _ => rfl⟩
  | succ N ih =>
   intro hNl
   obtain ⟨S, e0, e1, e2⟩ := ih (by omega)
   obtain ⟨hl, hs⟩ := wX (stmts := stmts) (j := N) (by omega)
   obtain ⟨d', hst⟩ := (e1 N (Q0 _)).1.stepK (by omega) hs named[N]?
   refine ⟨fun j => if j <= N then S j else d', (if_pos (Q9 _)).trans e0, fun j hj => ?_, fun j hj => ?_⟩
   ·by_cases h : j <= N
    ·simp only [if_pos h]; exact e1 j h
    ·have : j = N + 1 := by omega
     subst this
     simp only [if_neg h]
     exact ⟨hst.ok, fun k hk => by rw [hst.lt k hk]; exact (e1 N (Q0 _)).2 k hk⟩
   ·by_cases h : j < N
    ·simp only [if_pos (show j <= N by omega), if_pos (show j + 1 <= N by omega)]; exact e2 j h
    ·have : j = N := by omega
     subst this
     simp only [if_pos (Q0 _), if_neg (show ¬ j + 1 <= j by omega)]
     exact ⟨hl, hst⟩
 exact key _ (Q0 _)
set_option maxHeartbeats 4000000 in
theorem Ah (stmts : List Sm) (named : List (List UInt8)) {h : List (List AV)} (hh : aw h.length h) :
  ∃ d : FO, d.Ok h.length 20 /\ (∀ k < h.length, d.H[k]? = h[k]?) /\ Contract Tryz.prog 5 [.sl 2 (ai db stmts) none .no, .sl 1 (ai fS named) none .no] h (.tup [.box (h.length + 2) 0, .box (h.length + 5) 0, .box (h.length + 3) 0, .box (h.length + 6) 0]) d.H [] := by
 have hN := n5 stmts
 have h0 := Al hh
 obtain ⟨S, e0, e1, e2⟩ := EJ stmts named (eB h) h0
 refine ⟨S (io stmts), (e1 _ (Q0 _)).1.mono hN.2, fun k hk => by rw [(e1 _ (Q0 _)).2 k hk, xE h k hk], ?_⟩
 have hl4 := rI h [.sl 0 [] (some true) .exact, .v (.int .i64 0)]
 have hl3 := jP h
 have hlT : (cz (cM h ++ [[.sl 0 [] (some true) .exact, .v (.int .i64 0)]]) 40).length = h.length + 6 := by unfold cz; rw [Q1, hl4]; rfl
 have ctN := zO h
 have ctT := Av (most := 40) (by omega) (by omega) (cM h ++ [[.sl 0 [] (some true) .exact, .v (.int .i64 0)]])
 have ctL := Fy (most := 40) (by omega) (by omega) (cz (cM h ++ [[.sl 0 [] (some true) .exact, .v (.int .i64 0)]]) 40)
 rw [hl4] at ctT
 rw [hlT] at ctL
 have eN : cz (cM h ++ [[.sl 0 [] (some true) .exact, .v (.int .i64 0)]]) 40 ++ [[.sl 0 [] (some true) .exact, .v (.int .i64 ((40 : Nat) : Int))]] = (eB h).H := rfl
 rw [eN] at ctL
 have hSl : ∀ j ≤ io stmts, h.length + 7 <= (S j).H.length := fun j hj => (e1 j hj).1.len
 have hSt : ∀ j ≤ io stmts, aw (S j).H.length (S j).H := fun j hj => (e1 j hj).1.lt
 refine ab k5 mixed (by simp [c5]) fun hh' hargs => ?_
 simp [c5]
 refine aa (by simp) ctN ?_
 generalize hG1 : cM h = G1 at *
 simp [hl3]
 refine aa (by simp) ctT ?_
 generalize hG2 : cz (G1 ++ [[.sl 0 [] (some true) .exact, .v (.int .i64 0)]]) 40 = G2 at *
 simp [hl3]
 refine aa (by simp) ctL ?_
 simp [hl3]
 have htkS : ∀ j, (S j).H.take (S j).H.length = (S j).H := fun j => Q7 (Q0 _)
 refine am (D := Nat) (fun j => ⟨[(0, .sl 2 (ai db stmts) none .no), (1, .sl 1 (ai fS named) none .no), (8, .box (h.length + 2) 0), (9, .box (h.length + 3) 0), (10, .box (h.length + 5) 0), (12, .box (h.length + 6) 0), (28, .sl 2 (ai db stmts) none .no), (29, .v (.int .i64 stmts.length)), (30, .v (.int .i64 j))], [], (S j).H, []⟩) (fun j => j <= io stmts) (fun j => io stmts - j) 0 (by simp) ?_ ?_
 ·have hl0 := h0.len
  have ht0 := h0.lt
  have a2 : h.length + 2 < (eB h).H.length := by omega
  have a3 : h.length + 3 < (eB h).H.length := by omega
  have a5 : h.length + 5 < (eB h).H.length := by omega
  have a6 : h.length + 6 < (eB h).H.length := by omega
  have a0 : h.length <= (eB h).H.length := by omega
  have htk0 : (eB h).H.take (eB h).H.length = (eB h).H := Q7 (Q0 _)
  simp [Leq, e0, ht0, a0, a2, a3, a5, a6, htk0, ag]
  done
 ·intro j hj
  have hSlj := hSl j hj
  have hStj := hSt j hj
  have b0 : h.length <= (S j).H.length := by omega
  have b2 : h.length + 2 < (S j).H.length := by omega
  have b3 : h.length + 3 < (S j).H.length := by omega
  have b5 : h.length + 5 < (S j).H.length := by omega
  have b6 : h.length + 6 < (S j).H.length := by omega
  have htk1 : ∀ x : List AV, ((S j).H ++ [x]).take (S j).H.length = (S j).H := fun x => List.take_left
  by_cases hlt : j < stmts.length
  ·have h1000 : (j : Int) < 1000 := by omega
   by_cases hp : j < io stmts
   ·obtain ⟨_, hk⟩ := e2 j hp
    obtain ⟨_, hs⟩ := wX hp
    obtain ⟨s1, s2⟩ := kS.1 hs
    obtain ⟨d1, hst1, hnm1, hnm2⟩ := hk.ex
    obtain ⟨H1, c1, ct1, ct2, m1, m2, m3, m4, m5, m6⟩ := hst1.ex
    have ok1 := ((e1 j hj).1).app [db stmts[j]] (by simp)
    have q20 : ¬ (20 : Int) <= j := by omega
    have q300 : ¬ (300 : Int) < (stmts[j].text.length : Int) := by omega
    have qo : ¬ (20 : Int) < (stmts[j].oids.length : Int) := by omega
    have hg1 : H1[(S j).H.length]? = some (db stmts[j]) := by
     rw [m5 _ (by simp) (fun hq => by have := (e1 j hj).1.reg.touch_lt0 _ hq; omega)]
     simp
    have hw : IntKind.i64.wrap ((j : Int) + 1) = (j : Int) + 1 := wrap64 (by omega) (by omega)
    have hwr1 : ∀ q ∈ (S j).R.touch (h.length + 2), ¬ q < h.length := fun q hq => by have := (e1 j hj).1.tch q hq; omega
    have hS1l := hSl (j + 1) hp
    have hS1t := hSt (j + 1) hp
    have z0 : h.length <= (S (j + 1)).H.length := by omega
    have z2 : h.length + 2 < (S (j + 1)).H.length := by omega
    have z3 : h.length + 3 < (S (j + 1)).H.length := by omega
    have z5 : h.length + 5 < (S (j + 1)).H.length := by omega
    have z6 : h.length + 6 < (S (j + 1)).H.length := by omega
    simp [hlt, q20, q300, qo]
    refine aa (by simp) ct1 ?_
    simp [hg1]
    refine aa (by simp) ct2 ?_
    simp
    by_cases hn : j < named.length
    ·by_cases hn3 : named[j].length <= 300
     ·have hn4 : (named[j].length : Int) <= 300 := by omega
      have hT := hnm1 named[j] (Re hn) hn3
      obtain ⟨H3, cc3, r1, r2, ct3, ct4, t1, t2, t3, t4, t5, t6, t7, t8⟩ := hT.ex
      simp [hn, hn4, fS]
      refine aa (by simp) ct3 ?_
      simp [t7, fS, hn]
      refine aa (by simp) ct4 ?_
      simp [t8, hw]
      refine ⟨j + 1, by omega, by omega, ?_⟩
      simp [Leq, hS1t, z0, z2, z3, z5, z6, htkS, ag]
      exact ⟨by omega, by omega, fun a ha => by
       rcases ha with h | h
       ·have := hwr1 a h; omega
       ·omega⟩
     ·have hn4 : ¬ (named[j].length : Int) <= 300 := by omega
      have hd := hnm2 (.inr ⟨named[j], Re hn, hn3⟩)
      rw [<- hd]
      simp [hn, hn4, hw, fS]
      refine ⟨j + 1, by omega, by omega, ?_⟩
      simp [Leq, hS1t, z0, z2, z3, z5, z6, htkS, ag]
      exact ⟨by omega, fun a ha => by
       rcases ha with h | h
       ·have := hwr1 a h; omega
       ·omega⟩
    ·have hd := hnm2 (.inl (Rb (by omega)))
     rw [<- hd]
     simp [hn, hw]
     refine ⟨j + 1, by omega, by omega, ?_⟩
     simp [Leq, hS1t, z0, z2, z3, z5, z6, htkS, ag]
     exact ⟨by omega, fun a ha => by
      rcases ha with h | h
      ·have := hwr1 a h; omega
      ·omega⟩
   ·have hj2 : io stmts = j := by omega
    have hend := zR (stmts := stmts) (by omega)
    rw [hj2]
    simp only [hj2] at hend
    by_cases q20 : (20 : Int) <= j
    ·simp [hlt, q20, b0, b2, b3, b5, b6, htk1, hStj, ag]
     done
    by_cases q300 : (300 : Int) < (stmts[j].text.length : Int)
    ·simp [hlt, q20, q300, b0, b2, b3, b5, b6, htk1, hStj, ag]
     done
    have qo : (20 : Int) < (stmts[j].oids.length : Int) := by
     rcases hend with h | h
     ·omega
     ·have : ¬ (stmts[j].text.length <= 300 /\ stmts[j].oids.length <= 20) := fun hs => by rw [kS.2 hs] at h; cases h
      omega
    simp [hlt, q20, q300, qo, b0, b2, b3, b5, b6, htk1, hStj, ag]
    done
  ·have hj2 : io stmts = j := by omega
   rw [hj2]
   have : j = stmts.length := by omega
   have hnl : ¬ (j : Int) < (stmts.length : Int) := by omega
   simp [hlt, hnl, b0, b2, b3, b5, b6, htkS, hStj, ag]
   done
def a24 : Fm := ⟨80, 0, [97], [], [98, 101, 103, 105, 110], [], [], [], [], 0⟩
def wl : Fm := ⟨66, 0, [97], [], [], [], [], [], [], 0⟩
def La : En := dK a24 1 ⟨1, 1⟩
theorem sm : bb (cf a24) = true := by decide +kernel
theorem Hi : FmSh a24 := ⟨by decide, by decide, by decide, by decide, fun c hc => (by cases hc), by decide, by decide, by decide⟩
theorem GU : FmSh wl := ⟨by decide, by decide, by decide, by decide, fun c hc => (by cases hc), by decide, by decide, by decide⟩
theorem Cf (a b : Nat) : (⟨a, b, 0, []⟩ : Rg).putId (cf a24) = 1 := by unfold Rg.putId; rw [if_pos sm]; rfl
theorem wV (a b : Nat) : cG [] 2 ⟨a, b, 0, []⟩ none a24 = ([named a24 [95, 112, 49]], [La]) := by
 have hn : ey a24 = true := by decide
 have hr := j8 (pk 2)
 unfold cG
 rw [if_neg (by simp [hn]), if_pos (show a24.kind = 80 from rfl)]
 unfold dm
 rw [if_neg (fun h => by cases h.1), Cf, if_neg (by omega), if_neg (by simp), hr.1, hr.2]
 show ([named a24 (an 1)], [dK a24 1 ⟨1, 1⟩]) = _
 rw [pd]; rfl
def BI (a b nb : Nat) : Rg := ⟨a, b, 1, [⟨1, 2, cf a24, nb⟩]⟩
theorem DC (a b nb : Nat) : jf [] 2 ⟨a, b, 0, []⟩ none a24 nb = BI a b nb := by
 have hn : ey a24 = true := by decide
 have ho := wV a b
 unfold cG at ho
 rw [if_neg (by simp [hn]), if_pos (show a24.kind = 80 from rfl)] at ho
 unfold jf
 rw [if_neg (by simp [hn]), if_pos (show a24.kind = 80 from rfl), ho]
 have hp : gd ⟨a, b, 0, []⟩ none a24 nb = ⟨a, b, 1, [⟨1, 1, cf a24, nb⟩]⟩ := by
  unfold gd
  rw [if_neg (fun h => by cases h.1)]
  unfold Rg.put
  rw [if_pos sm]; rfl
 rw [hp]; rfl
theorem wF (a b nb : Nat) : cG [1] 2 (BI a b nb) (some 1) wl = ([named wl [95, 112, 49]], [gq wl 1]) := by
 have hn : ey wl = true := by decide
 have e1 : ∀ s, ba [1] 2 1 s = [] := fun s => by unfold ba; exact if_pos (by simp)
 have e2 : aI [1] 2 1 = [] := by unfold aI; exact if_pos (by simp)
 unfold cG
 rw [if_neg (by simp [hn]), if_neg (by decide), if_pos (show eC wl from .inl rfl)]
 show (ba [1] 2 1 _ ++ [named wl (an 1)], aI [1] 2 1 ++ [gq wl 1]) = _
 rw [e1, e2, pd]; rfl
theorem CH (a b nb nb2 : Nat) : jf [1] 2 (BI a b nb) (some 1) wl nb2 = BI a b nb := by
 have hn : ey wl = true := by decide
 have ho := wF a b nb
 unfold cG at ho
 rw [if_neg (by simp [hn]), if_neg (by decide), if_pos (show eC wl from .inl rfl)] at ho
 unfold jf
 rw [if_neg (by simp [hn]), if_neg (by decide), if_pos (show eC wl from .inl rfl), ho]; rfl
set_option maxHeartbeats 2000000 in
theorem tu {h : List (List AV)} (hh : aw h.length h) : Contract Tryz.prog 7 [] h (.v (.bool true)) h [] := by
 have r0 := sz hh
 have hl3 := jP h
 have t0 := xu (h := cM h) r0.lt 4 0 (Q9 _)
 rw [hl3] at t0
 have hHl : (cz (cM h) 4).length = h.length + 5 := by unfold cz; rw [Q1, hl3]; rfl
 have hHg : ∀ k < h.length + 3, (cz (cM h) 4)[k]? = (cM h)[k]? := fun k hk => by unfold cz; exact Q4 (by omega)
 have hHh : ∀ k < h.length, (cz (cM h) 4)[k]? = h[k]? := fun k hk => by rw [hHg k (by omega)]; unfold cM; exact Q4 hk
 have tch : ∀ k ∈ (⟨h.length, h.length + 1, 0, []⟩ : Rg).touch (h.length + 2), h.length <= k /\ k < h.length + 3 := fun k hk => by
  have hk : k ∈ (h.length + 2) :: h.length :: (h.length + 1) :: ([] : List Nat) := hk
  simp at hk
  omega
 have r1 : RegAt h.length (cz (cM h) 4) (h.length + 2) ⟨h.length, h.length + 1, 0, []⟩ := r0.keep0 (fun k hk => hHg k (by have := tch k hk; omega)) t0.lt
 have hget0 : (nP (cM h) 4).get [97] = none := rfl
 obtain ⟨h1, c1, p1, p2, p3, _, p5⟩ := zb r1 (n := 0) (r9 h) (by omega) t0 [] (by simp) (by simp) [] (by simp) 2 a24 Hi (o := none) (by show dj [97] ((nP (cM h) 4).get [97]) (opsOf []) = none; rw [hget0]; rfl)
 rw [wV] at c1
 rw [DC] at p1 p5
 rw [hHl] at p1 p2 p3 p5
 have ta : (nP (cM h) 4).a = h.length + 3 := hl3
 have t1 : TbAt 0 h1 (h.length + 4) (nP (cM h) 4) := t0.move (p3 _ (by omega) (fun hk => by have := tch _ hk; omega)) (by rw [ta]; exact p3 _ (by omega) (fun hk => by have := tch _ hk; omega)) p1.lt
 have hok1 : RgOk 2 (BI h.length (h.length + 1) (h.length + 5 + 5)) := by
  have h2 := (r9 h).put (cf a24) (by decide) (h.length + 5 + 5)
  have h3 := h2.ref 1
  have e : ((⟨h.length, h.length + 1, 0, []⟩ : Rg).put (cf a24) (h.length + 5 + 5)).ref 1 = BI h.length (h.length + 1) (h.length + 5 + 5) := by
   unfold Rg.put; rw [if_pos sm]; rfl
  rw [e] at h3; exact h3
 obtain ⟨h2, c2, q1, q2, q3, _, q5⟩ := zb p1 (n := 2) hok1 (by omega) t1 [La] (by simp) (by intro x hx; rw [Q2.1 hx]; show [_].length <= _; simp) [1] (by simp) 2 wl GU (o := some 1) (by show dj [97] ((nP (cM h) 4).get [97]) (opsOf [La]) = some 1; rw [hget0]; rfl)
 rw [wF] at c2
 rw [CH] at q1 q5
 have hrefs := wE q1 1
 have tch1 : ∀ k ∈ (BI h.length (h.length + 1) (h.length + 5 + 5)).touch (h.length + 2), h.length <= k := fun k hk => by
  rcases p5 k hk with h | h
  ·exact (tch k h).1
  ·omega
 have hfin : ∀ k < h.length, h2[k]? = h[k]? := fun k hk => by
  rw [q3 k (by omega) (fun hq => by have := tch1 k hq; omega), p3 k (by omega) (fun hq => by have := (tch k hq).1; omega), hHh k hk]
 have htk : h2.take h.length = h := List.ext_getElem? fun k => by
  by_cases hk : k < h.length
  ·rw [List.getElem?_take_of_lt hk]; exact hfin k hk
  ·rw [Rb (by rw [Ra]; omega), Rb (by omega)]
 have ctN := zO h
 have ctT := Av (most := 4) (by omega) (by omega) (cM h)
 rw [hl3] at ctT
 have hle : h.length <= h2.length := by omega
 have w1 : ∀ k ∈ (⟨h.length, h.length + 1, 0, []⟩ : Rg).touch (h.length + 2), ¬ k < h.length := fun k hk => by have := (tch k hk).1; omega
 have w2 : ∀ k ∈ (BI h.length (h.length + 1) (h.length + 5 + 5)).touch (h.length + 2), ¬ k < h.length := fun k hk => by have := tch1 k hk; omega
 generalize (⟨h.length, h.length + 1, 0, []⟩ : Rg).touch (h.length + 2) = W1 at *
 have hrf : refsOf ((BI h.length (h.length + 1) (h.length + 5 + 5)).find 1) = 2 := rfl
 rw [hrf] at hrefs
 generalize (BI h.length (h.length + 1) (h.length + 5 + 5)).touch (h.length + 2) = W2 at *
 refine ab k7 mixed (by simp [c7]) fun hh' hargs => ?_
 simp [c7]
 refine aa (by simp) ctN ?_
 simp
 refine aa (by simp) ctT ?_
 simp
 refine aj c1 (by simp [fy, a24]) (by simp) ?_
 simp
 refine aj c2 (by simp [fy, wl, ao]) (by simp) ?_
 simp [named, gq, La, dK, a24, wl, fy, aW]
 refine aa (by simp) hrefs ?_
 simp [htk, hle, ag, hh]
 exact fun i hi => by
  rcases hi with h | h
  ·have := w2 i h; omega
  ·have := w1 i h; omega
structure OwnOk (k : Int) (F : List Fm) (E : List En) : Prop where
 lenF : F.length <= 3
 lenE : E.length <= 3
 hide : ∀ i (hi : i < E.length), E[i].hide = !decide (i + 1 = E.length)
 pre : ∀ i (hi : i + 1 < E.length), ∃ hf : i < F.length, (F[i].kind = 67 /\ E[i].kind = 7) \/ (¬ F[i].kind = 67 /\ F[i].kind = 80 /\ E[i].kind = 2 /\ E.length <= i + 2)
 last : ∀ hf : 0 < F.length, F[F.length - 1].kind = k
theorem uf {k : Int} {F : List Fm} {E : List En} (hl : F.length = E.length) (h2 : E.length <= 2) (hh : ∀ i (hi : i < E.length), E[i].hide = true) (hp : ∀ i (hi : i < E.length), ∃ hf : i < F.length, (F[i].kind = 67 /\ E[i].kind = 7) \/ (¬ F[i].kind = 67 /\ F[i].kind = 80 /\ E[i].kind = 2 /\ E.length <= i + 1)) {f : Fm} {e : En} (hf : f.kind = k) (he : e.hide = false) : OwnOk k (F ++ [f]) (E ++ [e]) := by
 have eE : (E ++ [e]).length = E.length + 1 := by simp
 have eF : (F ++ [f]).length = F.length + 1 := by simp
 refine ⟨by omega, by omega, fun i hi => ?_, fun i hi => ?_, fun h0 => ?_⟩
 ·by_cases hlt : i < E.length
  ·rw [Q3 hlt, hh i hlt, eE]; simp; omega
  ·have : i = E.length := by omega
   subst this
   rw [Q5 (Q0 _)]
   simp [he]
 ·have hlt : i < E.length := by omega
  obtain ⟨h1, h3⟩ := hp i hlt
  refine ⟨by omega, ?_⟩
  rw [Q3 h1, Q3 hlt]
  rcases h3 with h | h
  ·exact .inl h
  ·exact .inr ⟨h.1, h.2.1, h.2.2.1, by omega⟩
 ·have e : (F ++ [f]).length - 1 = F.length := by simp
  simp only [e]
  rw [Q5 (Q0 _)]
  simp [hf]
theorem pe {k : Int} {F : List Fm} (h1 : F.length <= 3) (h2 : ∀ hf : 0 < F.length, F[F.length - 1].kind = k) : OwnOk k F [] := ⟨h1, by simp, fun i hi => (by cases hi), fun i hi => (by cases hi), h2⟩
theorem jX {k : Int} {F : List Fm} {e : En} (h1 : F.length <= 3) (h2 : ∀ hf : 0 < F.length, F[F.length - 1].kind = k) (he : e.hide = false) : OwnOk k F [e] := by
 refine ⟨h1, by simp, fun i hi => ?_, fun i hi => ?_, h2⟩
 ·have : i = 0 := by simpa using hi
  subst this; simp [he]
 ·simp at hi
theorem tF (spec : List Int) (most : Int) : (cA spec most).length = (roomE spec most).length /\ (roomE spec most).length <= 1 /\ (∀ i (hi : i < (roomE spec most).length), (roomE spec most)[i].hide = true) /\ ∀ i (hi : i < (roomE spec most).length), ∃ hf : i < (cA spec most).length, (cA spec most)[i].kind = 67 /\ (roomE spec most)[i].kind = 7 := by
 unfold cA roomE
 by_cases h : fA spec most = true
 ·simp only [if_pos h]
  refine ⟨rfl, Q0 _, fun i hi => ?_, fun i hi => ?_⟩
  ·have : i = 0 := by simpa using hi
   subst this; rfl
  ·have : i = 0 := by simpa using hi
   subst this; exact ⟨by simp, rfl, rfl⟩
 ·simp only [if_neg h]
  exact ⟨rfl, Q9 _, fun i hi => (by cases hi), fun i hi => (by cases hi)⟩
theorem xV (spec : List Int) (most id : Int) (s : Sm) : (ba spec most id s).length = (aI spec most id).length /\ (aI spec most id).length <= 2 /\ (∀ i (hi : i < (aI spec most id).length), (aI spec most id)[i].hide = true) /\
  ∀ i (hi : i < (aI spec most id).length), ∃ hf : i < (ba spec most id s).length, ((ba spec most id s)[i].kind = 67 /\ (aI spec most id)[i].kind = 7) \/ (¬ (ba spec most id s)[i].kind = 67 /\ (ba spec most id s)[i].kind = 80 /\ (aI spec most id)[i].kind = 2 /\ (aI spec most id).length <= i + 1) := by
 obtain ⟨r1, r2, r3, r4⟩ := tF spec most
 unfold ba aI
 by_cases h : spec.contains id = true
 ·simp only [if_pos h]
  exact ⟨rfl, Q9 _, fun i hi => (by cases hi), fun i hi => (by cases hi)⟩
 ·simp only [if_neg h]
  have eE : (roomE spec most ++ [cL 2 ⟨1, id⟩]).length = (roomE spec most).length + 1 := by simp
  have eF : (cA spec most ++ [cc (an id) s]).length = (cA spec most).length + 1 := by simp
  refine ⟨by omega, by omega, fun i hi => ?_, fun i hi => ?_⟩
  ·by_cases hlt : i < (roomE spec most).length
   ·rw [Q3 hlt]; exact r3 i hlt
   ·have : i = (roomE spec most).length := by omega
    subst this
    rw [Q5 (Q0 _)]; simp [cL]
  ·by_cases hlt : i < (roomE spec most).length
   ·obtain ⟨h1, h2⟩ := r4 i hlt
    refine ⟨by omega, .inl ?_⟩
    rw [Q3 h1, Q3 hlt]; exact h2
   ·have : i = (roomE spec most).length := by omega
    subst this
    refine ⟨by omega, .inr ?_⟩
    rw [Q5 (by omega), Q5 (Q0 _)]
    simp [cL, cc, r1]
theorem G5 (spec : List Int) (most : Int) (R : Rg) (o : Option Int) (m : Fm) : OwnOk m.kind (cG spec most R o m).1 (cG spec most R o m).2 := by
 have one : ∀ (f : Fm), f.kind = m.kind -> ∀ hf : 0 < [f].length, [f][[f].length - 1].kind = m.kind := fun f hf _ => hf
 unfold cG
 split
 ·exact pe (by simp) (fun h => by cases h)
 split
 ·unfold dm
  split
  ·exact jX (by simp) (one _ rfl) rfl
  split
  ·exact pe (by simp) (fun h => by cases h)
  split
  ·exact jX (by simp) (one _ rfl) rfl
  ·obtain ⟨r1, r2, r3, r4⟩ := tF spec most
   exact uf r1 (by omega) r3 (fun i hi => by obtain ⟨h1, h2⟩ := r4 i hi; exact ⟨h1, .inl h2⟩) rfl rfl
 split
 ·unfold dy
  split
  ·exact jX (by simp) (one _ rfl) rfl
  ·obtain ⟨r1, r2, r3, r4⟩ := xV spec most ‹Int› (mH (R.find ‹Int›))
   exact uf r1 r2 r3 r4 rfl rfl
 split
 ·exact jX (by simp) (fun h => by cases h) rfl
 ·unfold lX
  split
  ·exact pe (by simp) (one _ rfl)
  split
  ·exact jX (by simp) (one _ rfl) rfl
  ·exact jX (by simp) (one _ rfl) rfl
theorem fP {m : Fm} (hm : FmSh m) {nm : List UInt8} (h : nm.length <= 1000) : fi (named m nm) := by
 have h1 := hm.oids
 have h2 := hm.formats
 have h3 := hm.results
 have h4 := hm.params
 have h6 := hm.portal
 have h7 := hm.text
 refine ⟨?_, ?_, ?_, ?_, fun c hc => ?_, ?_, ?_, ?_⟩
 ·show m.oids.length <= _; omega
 ·show m.formats.length <= _; omega
 ·show m.results.length <= _; omega
 ·show m.params.length <= _; omega
 ·have := hm.cells c hc; omega
 ·show nm.length <= _; omega
 ·show m.portal.length <= _; omega
 ·show m.text.length <= _; omega
def cb (e : En) : Prop := fF e /\ e.good.length <= 1
theorem rG (m : Fm) (nm : List UInt8) : cb (dc m nm) := by unfold cb fF dc; simp
theorem rU (m : Fm) (id : Int) (c : Oc) : cb (dK m id c) := by
 unfold cb fF dK
 refine ⟨⟨by simp, ?_, by simp, by simp⟩, by simp⟩
 show (if m.name = [] then _ else _ : List To).length <= _
 split <;> simp
theorem xF (m : Fm) (id : Int) : cb (gq m id) := by unfold cb fF gq; simp
theorem r8 (k : Int) (op : Oc) : cb (cL k op) := by unfold cb fF cL; simp
theorem tQ (m : Fm) : cb (ly m) := by
 have := og.2.2
 unfold cb fF ly
 refine ⟨⟨by simp, by simp, by simp, ?_⟩, by simp⟩
 show (cT [uM]).length <= _
 omega
theorem yn (m : Fm) : ∀ e ∈ lX m, cb e := fun e he => by
 unfold lX at he
 split at he
 ·cases he
 ·split at he
  ·rw [Q2.1 he]; unfold cb fF; simp
  ·rw [Q2.1 he]; unfold cb fF; simp
theorem ox (spec : List Int) (most : Int) : ∀ e ∈ roomE spec most, cb e := fun e he => by
 unfold roomE at he
 split at he
 ·rw [Q2.1 he]; exact r8 _ _
 ·cases he
theorem tT (spec : List Int) (most id : Int) : ∀ e ∈ aI spec most id, cb e := fun e he => by
 unfold aI at he
 split at he
 ·cases he
 ·rcases Rc.1 he with h | h
  ·exact ox _ _ e h
  ·rw [Q2.1 h]; exact r8 _ _
structure OutOk (F : List Fm) (E : List En) : Prop where
 f : ∀ m ∈ F, fi m
 e : ∀ e ∈ E, cb e
 fl : F.length <= 3
 el : E.length <= 3
theorem sQ {m : Fm} {e : En} (hm : fi m) (he : cb e) : (∀ x ∈ [m], fi x) /\ ∀ x ∈ [e], cb x :=
 ⟨fun x hx => by rw [Q2.1 hx]; exact hm, fun x hx => by rw [Q2.1 hx]; exact he⟩
theorem uz {F : List Fm} {E : List En} {m : Fm} {e : En} (hF : ∀ x ∈ F, fi x) (hE : ∀ x ∈ E, cb x) (hm : fi m) (he : cb e) : (∀ x ∈ F ++ [m], fi x) /\ ∀ x ∈ E ++ [e], cb x :=
 ⟨fun x hx => by
  rcases Rc.1 hx with h | h
  ·exact hF x h
  ·rw [Q2.1 h]; exact hm, fun x hx => by
  rcases Rc.1 hx with h | h
  ·exact hE x h
  ·rw [Q2.1 h]; exact he⟩
theorem Bw (spec : List Int) (most : Int) {n : Nat} {R : Rg} (ho : RgOk n R) (o : Option Int) (m : Fm) (hm : FmSh m) : OutOk (cG spec most R o m).1 (cG spec most R o m).2 := by
 have hown := G5 spec most R o m
 have key : (∀ x ∈ (cG spec most R o m).1, fi x) /\ ∀ x ∈ (cG spec most R o m).2, cb x := by
  have none_ : (∀ x ∈ ([] : List Fm), fi x) /\ ∀ x ∈ ([] : List En), cb x := ⟨fun x h => (by cases h), fun x h => (by cases h)⟩
  have hd : dupN.length <= 1000 := by decide
  have hno : noneN.length <= 1000 := by decide
  have hs : ∀ id, (an id).length <= 1000 := fun id => by have := iQ id; omega
  unfold cG
  split
  ·exact none_
  split
  ·unfold dm
   split
   ·exact sQ (fP hm hd) (rG _ _)
   split
   ·exact none_
   split
   ·exact sQ (fP hm (by simp)) (rU _ _ _)
   ·exact uz (gX spec most).1 (ox spec most) (fP hm (hs _)) (rU _ _ _)
  split
  ·unfold dy
   split
   ·exact sQ (fP hm hno) (rG _ _)
   ·rename_i id
    have hss := qe ho id
    exact uz (mA spec most id _ hss.1 hss.2).1 (tT _ _ _) (fP hm (hs _)) (xF _ _)
  split
  ·exact ⟨fun x h => (by cases h), fun x hx => by rw [Q2.1 hx]; exact tQ m⟩
  ·exact ⟨fun x hx => by rw [Q2.1 hx]; exact fP (nm := m.name) hm (by have := hm.name; omega), yn m⟩
 exact ⟨key.1, key.2, hown.lenF, hown.lenE⟩
theorem sO : ∀ (ops : List Oc) {n : Nat} {R : Rg}, RgOk n R -> RgOk (n + ops.length) (kp R ops)
 | [], _, _, ho => ho
 | op :: ops, n, R, ho => by
  have e : kp R (op :: ops) = kp (if op.kind = 1 then R.ref op.id else R) ops := rfl
  rw [e, show n + (op :: ops).length = n + 1 + ops.length by simp; omega]
  split
  ·exact sO ops (ho.ref op.id)
  ·exact sO ops (ho.mono (Nat.le_succ n))
theorem xG (spec : List Int) (most : Int) {n : Nat} {R : Rg} (ho : RgOk n R) (o : Option Int) (m : Fm) (hm : FmSh m) (nb : Nat) : RgOk (n + 4) (jf spec most R o m nb) := by
 have hroom := py spec most
 unfold jf
 split
 ·exact ho.mono (by omega)
 split
 ·have hp : RgOk (n + 1) (gd R o m nb) := by
   unfold gd
   split
   ·exact ho.mono (by omega)
   ·exact ho.put (cf m) ⟨by have := hm.text; show m.text.length <= _; omega, by have := hm.oids; show m.oids.length <= _; omega⟩ nb
  have hle : (aE (dm spec most R o m).2).length <= 2 := by
   unfold dm
   split
   ·simp [aE, dc]
   split
   ·simp [aE]
   split
   ·simp [aE, dK]
   ·rw [ew, Q1]
    have : (aE [dK m (R.putId (cf m)) ⟨1, R.putId (cf m)⟩]).length = 1 := by simp [aE, dK]
    omega
  exact (sO _ hp).mono (by omega)
 split
 ·have hle : (aE (dy spec most R o m).2).length <= 3 := by
   unfold dy
   split
   ·simp [aE, dc]
   ·rename_i id
    have := rH spec most id
    rw [ew, Q1]
    have : (aE [gq m id]).length = 1 := by simp [aE, gq]
    omega
  exact (sO _ ho).mono (by omega)
 ·exact ho.mono (by omega)
def pK (a b : Nat) (l : List En) (spec : List Int) (most : Int) (f : Fm) : List AV := [.box a 0, .box b 0, .sl 8 (ai aK l) none .no, .sl 1 (ai ao spec) none .no, .v (.int .i64 most), .agg (aG f)]
def y5 (F : List Fm) (E : List En) : AV := .tup [.sl 10 (ai aG F) none .no, .sl 8 (ai aK E) none .no]
structure StepG (n : Nat) (spec : List Int) (most : Int) (f : Fm) (d d' : FO) (l l' : List En) : Prop where
 ex : ∃ F E, Step2 0 n { d with H := d.H ++ [aG f] } d' 8 9 (pK 2 5 l spec most f) (pK 3 6 l spec most f) (y5 F E) (y5 F E) /\ OutOk F E /\ l' = l ++ E
theorem rb : ∀ (l : List En), (∀ x ∈ l, x.good.length <= 1) -> (opsOf l).length <= l.length
 | [], _ => by simp [opsOf]
 | e :: r, h => by
  have h1 := rb r fun x hx => h x (List.mem_cons_of_mem _ hx)
  have h2 := h e (by simp)
  unfold opsOf at h1 ⊢
  rw [List.flatMap_cons, Q1, Rh]; omega
theorem FO.Ok.stepG {n : Nat} {d : FO} (hd : d.Ok 0 n) (hn : n + 10 <= 1000) {f : Fm} (hf : FmSh f) {l : List En} (hl : l.length <= 1000) (hg : ∀ x ∈ l, x.good.length <= 1) (spec : List Int) (hsp : spec.length <= 1000000) (most : Int) :
  ∃ d' l', StepG (n + 4) spec most f d d' l l' /\ l'.length <= l.length + 3 /\ ∀ x ∈ l', x.good.length <= 1 := by
 have hd1 := hd.app [aG f] (by simp)
 have hg2 : ∀ x ∈ l, x.good.length <= 1000000 := fun x hx => by have := hg x hx; omega
 have hol := rb l hg
 obtain ⟨o, hoo⟩ : ∃ o, dj f.name (d.T.get f.name) (opsOf l) = o := ⟨_, rfl⟩
 have hoo2 : dj f.name (Nm.get f.name d.L) (opsOf l) = o := by rw [hd.both.get]; exact hoo
 have hout := Bw spec most hd.ok o f hf
 have hfew := hd.both.few
 obtain ⟨h', a1, a2, a3, a4, _, a6⟩ := zb hd1.reg hd1.ok hn hd1.tb l (by omega) hg2 spec hsp most f hf hoo
 obtain ⟨d', hst, _⟩ := hd1.step (f := 8) (fx := 9) (a := pK 2 5 l spec most f) (ax := pK 3 6 l spec most f) (r := y5 (cG spec most d.R o f).1 (cG spec most d.R o f).2) (rx := y5 (cG spec most d.R o f).1 (cG spec most d.R o f).2) (xG spec most hd.ok o f hf ((d.H ++ [aG f]).length + 5)) ⟨h', a1, a2, a3, a4⟩ a6
  (fun H1 b1 hx hnl hlt => by
   obtain ⟨h2, b2, q1, q2, q3, q4, q5, _⟩ := Jr (L := d.L) hx hd.ok hn hnl hd.both.rise l (by omega) hg2 (by omega) spec hsp most f hf hoo2 ((d.H ++ [aG f]).length + 5)
   exact ⟨h2, b2, q1, q2, q3, q4, q5⟩)
 refine ⟨d', l ++ (cG spec most d.R o f).2, ⟨_, _, hst, hout, rfl⟩, by rw [Q1]; have := hout.el; omega, fun x hx => ?_⟩
 rcases Rc.1 hx with h | h
 ·exact hg x h
 ·exact (hout.e x h).2
theorem GD (spec : List Int) (hsp : spec.length <= 1000000) (most : Int) (fs : List Fm) (hfs : ∀ f ∈ fs, FmSh f) (hl : fs.length <= 20) (d0 : FO) (h0 : d0.Ok 0 20) :
  ∃ (S : Nat -> FO) (A : Nat -> List En), S 0 = d0 /\ A 0 = [] /\ (∀ j ≤ fs.length, (S j).Ok 0 (20 + 4 * j) /\ (A j).length <= 3 * j /\ ∀ x ∈ A j, x.good.length <= 1) /\ ∀ j (hj : j < fs.length), StepG (20 + 4 * (j + 1)) spec most fs[j] (S j) (S (j + 1)) (A j) (A (j + 1)) := by
 have key : ∀ N, N <= fs.length -> ∃ (S : Nat -> FO) (A : Nat -> List En), S 0 = d0 /\ A 0 = [] /\ (∀ j ≤ N, (S j).Ok 0 (20 + 4 * j) /\ (A j).length <= 3 * j /\ ∀ x ∈ A j, x.good.length <= 1) /\ ∀ j (hj : j < N) (hj2 : j < fs.length), StepG (20 + 4 * (j + 1)) spec most fs[j] (S j) (S (j + 1)) (A j) (A (j + 1)) := fun N => by
  induction N with
  | zero =>
   intro _
   refine ⟨fun _ => d0, fun _ => [], rfl, rfl, fun j hj => ?_, fun j hj => absurd hj (by omega)⟩
   have e : j = 0 := by omega
   rw [e]
   exact ⟨h0, by simp, fun x hx => (by cases hx)⟩
  | succ N ih =>
   intro hNl
   obtain ⟨S, A, e0, e1, e2, e3⟩ := ih (by omega)
   obtain ⟨k1, k2, k3⟩ := e2 N (Q0 _)
   obtain ⟨d', l', hst, hl2, hg2⟩ := k1.stepG (by omega) (hfs fs[N] (List.getElem_mem _)) (by omega) k3 spec hsp most
   have hok : d'.Ok 0 (20 + 4 * (N + 1)) := by
    obtain ⟨F, E, hs2, _⟩ := hst.ex
    exact hs2.ok
   refine ⟨fun j => if j <= N then S j else d', fun j => if j <= N then A j else l', (if_pos (Q9 _)).trans e0, (if_pos (Q9 _)).trans e1, fun j hj => ?_, fun j hj hj2 => ?_⟩
   ·by_cases h : j <= N
    ·simp only [if_pos h]; exact e2 j h
    ·have : j = N + 1 := by omega
     subst this
     simp only [if_neg h]
     exact ⟨hok, by omega, hg2⟩
   ·by_cases h : j < N
    ·simp only [if_pos (show j <= N by omega), if_pos (show j + 1 <= N by omega)]; exact e3 j h hj2
    ·have : j = N := by omega
     subst this
     simp only [if_pos (Q0 _), if_neg (show ¬ j + 1 <= j by omega)]
     exact hst
 obtain ⟨S, A, e0, e1, e2, e3⟩ := key _ (Q0 _)
 exact ⟨S, A, e0, e1, e2, fun j hj => e3 j hj hj⟩
theorem BZ (f : List Fm) (hl : f.length <= 1000000) (hf : ∀ m ∈ f, fi m) (h : List (List AV)) : Contract Tryz.prog 10 [.sl 10 (ai aG f) none .no, .sl 10 (ai aG f) none .no] h (.v (.bool true)) h [] := by
 refine ab PX mixed (by simp [OC]) fun hh hargs => ?_
 have e : ko ol f f = true := (eA _ f f).2 ⟨rfl, fun i h1 h2 => by rw [zG]; simp⟩
 simp [OC]
 refine aa (by simp) (v6 mixed Qc (by rfl) ol aG (by simp) (by simp) f f h (fun x hx y h => CG x y (hf x hx) h) (by omega)) ?_
 rw [e]
 simp [hh]
 done
set_option maxHeartbeats 4000000 in
theorem rdoes_c (stmts : List Sm) (named : List (List UInt8)) (spec : List Int) (most : Int) (fs : List Fm) : Contract Tryz.prog 3 [.sl 2 (ai db stmts) none .no, .sl 1 (ai fS named) none .no, .sl 1 (ai ao spec) none .no, .v (.int .i64 most), .sl 10 (ai aG fs) none .no] [] (.v (.bool true)) [] [] := by
 refine ab k3 mixed (by simp [c3]) fun hh hargs => ?_
 obtain ⟨d, hd, _, ctK⟩ := Ah stmts named (h := []) (by simp)
 have hd : d.Ok 0 20 := hd
 simp only [Ri, Nat.zero_add] at ctK
 have hlt := hd.lt
 have haw := tu hlt
 simp [c3]
 refine aa (by simp) ctK ?_
 simp
 refine aa (by simp) (zV fs _) ?_
 cases hp : gC fs with
 | false =>
  simp
  refine aa (by simp) haw ?_
  simp
  done
 | true =>
 by_cases h40 : (40 : Int) < (spec.length : Int)
 ·simp [h40]
  refine aa (by simp) haw ?_
  simp
  done
 have hfl : fs.length <= 20 := by unfold gC at hp; simp at hp; omega
 have hfs : ∀ f ∈ fs, FmSh f := fun f hf => by unfold gC at hp; simp at hp; exact Cs (hp.2 f hf)
 obtain ⟨S, A, e0, e1, e2, e3⟩ := GD spec (by omega) most fs hfs hfl d hd
 have htkS : ∀ j, (S j).H.take (S j).H.length = (S j).H := fun j => Q7 (Q0 _)
 simp [h40]
 refine am (D := Nat) (fun j => ⟨[(2, .sl 1 (ai ao spec) none .no), (3, .v (.int .i64 most)), (11, .box 2 0), (12, .box 5 0), (13, .box 3 0), (14, .box 6 0), (57, .sl 10 (ai aG fs) none .no), (58, .v (.int .i64 fs.length)), (59, .v (.int .i64 j))], [(15, .sl 8 (ai aK (A j)) none (.own (.slot 15))), (16, .sl 8 (ai aK (A j)) none (.own (.slot 16)))], (S j).H, []⟩) (fun j => j <= fs.length) (fun j => fs.length - j) 0 (by simp) ?_ ?_
 ·have hl0 := hd.len
  have a2 : 2 < d.H.length := by omega
  have a3 : 3 < d.H.length := by omega
  have a5 : 5 < d.H.length := by omega
  have a6 : 6 < d.H.length := by omega
  have htk0 : d.H.take d.H.length = d.H := Q7 (Q0 _)
  simp [Leq, e0, e1, hlt, a2, a3, a5, a6, htk0, ag]
  done
 ·intro j hj
  obtain ⟨hok, hAl, hAg⟩ := e2 j hj
  have hSl := hok.len
  have hSt := hok.lt
  by_cases hlt2 : j < fs.length
  ·obtain ⟨F, E, hst, hout, hA⟩ := (e3 j hlt2).ex
   obtain ⟨H1, b1, ct1, ct2, m1, m2, m3, m4, m5, m6⟩ := hst.ex
   have hw : IntKind.i64.wrap ((j : Int) + 1) = (j : Int) + 1 := wrap64 (by omega) (by omega)
   unfold pK y5 at ct1 ct2
   obtain ⟨hok2, hAl2, hAg2⟩ := e2 (j + 1) (by omega)
   have hSl2 := hok2.len
   have hSt2 := hok2.lt
   obtain ⟨f, hf⟩ : ∃ f, fs[j] = f := ⟨_, rfl⟩
   have htl : (S j).H.length ∉ (S j).R.touch 2 := fun hq => by have := hok.reg.touch_lt0 _ hq; omega
   have hg1 : H1[(S j).H.length]? = some (aG f) := by
    rw [m5 _ (by simp) htl, <- hf]; simp
   have hg2 : (S (j + 1)).H[(S j).H.length]? = some (aG f) := by
    rw [m6 _ (by simp) htl (by omega) (fun hne => by have := (List.getElem?_eq_some_iff.1 (hok.x.list hne)).1; show _ ≠ (S j).b; omega), <- hf]; simp
   rw [hf] at ct1 ct2
   have hlL : (S j).H.length < (S (j + 1)).H.length := by
    have h1 : ((S j).H ++ [aG fs[j]]).length <= H1.length := m1
    rw [Q1, List.length_singleton] at h1
    omega
   have b2 : 2 < (S (j + 1)).H.length := by omega
   have b3 : 3 < (S (j + 1)).H.length := by omega
   have b5 : 5 < (S (j + 1)).H.length := by omega
   have b6 : 6 < (S (j + 1)).H.length := by omega
   have hls : (S (j + 1)).R.l.length <= 1000 := by have := hok2.ok.len0; omega
   simp [hlt2, hf]
   refine aj ct1 (by simp) (by simp) ?_
   simp [hg1]
   refine aj ct2 (by simp) (by simp) ?_
   simp
   refine aa (by simp) (BZ F (by have := hout.fl; omega) hout.f _) ?_
   simp
   refine aa (by simp) (GO E E (by have := hout.el; omega) (fun e he => (hout.e e he).1) (fun e he => (hout.e e he).1) _) ?_
   simp [hg2]
   refine aa (by simp) (sy f _) ?_
   simp [hg2]
   refine aa (by simp) (pL f _) ?_
   have hEl := hout.el
   simp
   refine ⟨by omega, by omega, by omega, by omega, ?_⟩
   refine am (D := Nat) (fun q => ⟨[(2, .sl 1 (ai ao spec) none .no), (3, .v (.int .i64 most)), (11, .box 2 0), (12, .box 5 0), (13, .box 3 0), (14, .box 6 0), (57, .sl 10 (ai aG fs) none .no), (58, .v (.int .i64 fs.length)), (59, .v (.int .i64 j)), (106, .v (.int .i64 q))], [(15, .sl 8 (ai aK (A (j + 1))) none (.own (.slot 15))), (16, .sl 8 (ai aK (A (j + 1))) none (.own (.slot 16)))], (S (j + 1)).H, []⟩) (fun q => q <= 25) (fun q => 25 - q) 0 (by simp) ?_ ?_
   ·simp [Leq, hSt2, b2, b3, b5, b6, htkS, ag, hA]
    done
   ·intro q hq
    by_cases hq2 : q < 25
    ·have hq3 : (q : Int) < 25 := by omega
     have hwq : IntKind.i64.wrap ((q : Int) + 1) = (q : Int) + 1 := wrap64 (by omega) (by omega)
     simp [hq3]
     refine aa (by simp) (wE hok2.reg _) ?_
     simp
     refine aa (by simp) (B9 hok2.x hok2.ok hls _) ?_
     simp [hwq]
     refine ⟨q + 1, by omega, by omega, ?_⟩
     simp [Leq, hSt2, b2, b3, b5, b6, htkS, ag]
     done
    ·have hq3 : ¬ (q : Int) < 25 := by omega
     simp [hq3, hw]
     refine ⟨j + 1, by omega, by omega, ?_⟩
     simp [Leq, hSt2, b2, b3, b5, b6, htkS, ag]
     done
  ·have : j = fs.length := by omega
   subst this
   have hls : (S fs.length).R.l.length <= 1000 := by have := hok.ok.len0; omega
   have haw2 := tu hSt
   have htop := hok.x.top
   have hgl := Fu hok.reg
   have b3 : 3 < (S fs.length).H.length := by omega
   unfold fD at htop
   by_cases hL : (S fs.length).R.l = []
   ·rw [if_pos hL] at htop
    have hL0 : (S fs.length).R.l.length = 0 := by rw [hL]; rfl
    rw [hL0] at hgl
    simp [htop]
    refine aa (by simp) hgl ?_
    simp
    refine aa (by simp) haw2 ?_
    simp
    done
   ·rw [if_neg hL] at htop
    simp [htop]
    refine aa (by simp) hgl ?_
    simp
    refine aa (by simp) haw2 ?_
    simp
    done
end Go.Proofs.YtdfgljojemmlcaaGreat.Ax
