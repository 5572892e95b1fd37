/- nothing is told of an entry twice: what was there ended, failed, was dropped, or is still there, in its order -/
import Derived.Test.YtpogpofmakcodaaQAxZa
import Derived.Test.YtpogpofmakcodaaQAxTz
import Derived.Test.YtpogpofmakcodaaQAxZc
import Derived.Test.YtpogpofmakcodaaQAxWb
import Derived.Test.YtpogpofmakcodaaRows
import Derived.Test.YtpogpofmakcodaaQElems
import Derived.Test.YtpogpofmakcodaaQAxX
import Derived.WalkKit
import Derived.ProofKit
import Derived.OpenShut
import Derived.ShutString
import Derived.ChangeOld
import Derived.Below
/- Layer 21's statement: a queue lives as the document's does. -/
namespace Go.Proofs.Ytpogpofmakcodaa.Ax
open Go.RowKit Go By
set_option linter.unusedSimpArgs false
set_option linter.unusedVariables false
set_option maxRecDepth 10000

/-- A call. -/
structure Dq where
  op : Int
  l : List En
structure QL where
  H : List (List AV)
  o : Option (Nat × Nat)
  o2 : Option (Nat × Nat)
  L : List En
  j : Nat
structure QL.Ok (n most : Nat) (d : QL) : Prop where
  le : d.j ≤ n
  two : Two d.H d.o d.o2 most d.L
end Go.Proofs.Ytpogpofmakcodaa.Ax
/- Layer 22's statements: a fault drops what is behind; two results; few replies; a fault of what is hidden, over values without memory. -/
namespace Go.Proofs.Ytpogpofmakcodaa.Ax
open Go.RowKit Go By
set_option linter.unusedSimpArgs false
set_option linter.unusedVariables false
set_option maxRecDepth 10000

/-! ### Two results -/
structure RsFit (r : Rs) : Prop where
  name : EnFit r.name
  el : r.ended.length ≤ 1000000
  ef : ∀ e ∈ r.ended, EnFit e
  fl : r.failed.length ≤ 1000000
  ff : ∀ e ∈ r.failed, EnFit e
  dl : r.dropped.length ≤ 1000000
  df : ∀ e ∈ r.dropped, EnFit e
section
variable {h : List (List AV)} {v1 v2 v3 w1 w2 w3 : AV}
end
/-! ### Few replies -/
theorem bkC_ll (n : Nat) : ∀ l : List Bk, ltLL n (enc bkC l)
  | [] => trivial
  | d :: l => ⟨by simp [bkC], bkC_ll n l⟩
def fewB (l : List Bk) : Bool := decide (l.length ≤ 40) && l.all plainBW
theorem fewB_len {l : List Bk} (h : fewB l = true) : l.length ≤ 40 := by
  unfold fewB at h
  rw [Bool.and_eq_true] at h
  exact of_decide_eq_true h.1
theorem few22_c (l : List Bk) (h : List (List AV)) : Contract Try.prog 32 [.sl 11 (enc bkC l) none .no] h (.v (.bool (fewB l))) h [] := by
  refine contract_of k32 mixed (by simp [c32]) fun hh hargs => ?_
  simp [c32]
  refine xloop_ok (D := Nat) (fun j => ⟨[(5, .sl 11 (enc bkC l) none .no), (6, .v (.int .i64 l.length)), (7, .v (.int .i64 j))], [], h, []⟩) (fun j => j ≤ l.length ∧ j ≤ 40 ∧ ∀ d ∈ l.take j, plainBW d = true) (fun j => l.length - j) 0 ⟨by omega, by omega, by simp⟩ ?_ ?_
  · simp [Leq, hh, leqH_take, bkC_ll]
    done
  · rintro j ⟨hj, hj40, hp⟩
    by_cases hlt : j < l.length
    · have hw : IntKind.i64.wrap ((j : Int) + 1) = (j : Int) + 1 := wrap64 (by omega) (by omega)
      by_cases h40 : j = 40
      · subst h40
        have hF : fewB l = false := by unfold fewB; rw [decide_eq_false (by omega)]; rfl
        have hlt4 : (40 : Int) < l.length := by omega
        simp [hlt, hlt4, hF, hh, leqH_take]
        done
      · have h41 : ¬ (40 : Int) ≤ j := by omega
        simp [hlt, h41]
        refine xcall_self (by simp) (bplainw_c l[j] _) ?_
        cases hE : plainBW l[j] with
        | false =>
          have hF : fewB l = false := by
            cases hx : fewB l with
            | false => rfl
            | true =>
              unfold fewB at hx
              rw [Bool.and_eq_true] at hx
              have := List.all_eq_true.1 hx.2 _ (List.getElem_mem hlt)
              rw [hE] at this; cases this
          simp [hF, hh, leqH_take]
          done
        | true =>
          simp [hw]
          refine ⟨j + 1, ⟨by omega, by omega, fun d hd => ?_⟩, by omega, ?_⟩
          · rw [List.take_succ_eq_append_getElem hlt] at hd
            rcases List.mem_append.1 hd with hd | hd
            · exact hp d hd
            · rw [List.mem_singleton.1 hd]; exact hE
          · simp [Leq, hh, leqH_take, bkC_ll]
            done
    · have : j = l.length := by omega
      subst this
      have hF : fewB l = true := by
        unfold fewB
        rw [decide_eq_true (by omega)]
        rw [List.take_length] at hp
        rw [Bool.true_and]
        exact List.all_eq_true.2 hp
      simp [hF, hh]
      done
/-! ### A fault drops what is behind -/
def fE : Bk := ⟨69, 0, [], [], [], 0, 0, [], [], [], []⟩
theorem take_got {h : List (List AV)} {most : Nat} (l : List En) (hne : l ≠ []) (n : Nat) (more : List (List AV)) : List.take h.length (qH (pushH (h ++ [qC none 0 most]) h.length none most [] l) h.length (some (h.length + 1, 0)) n l.length most ++ more) = h := by
  have hpl := pushH_len (h ++ [qC none 0 most]) h.length none most [] l
  simp at hpl
  exact take_of (by rw [qH_len]; omega) (fun q hq => by rw [qH_get (by omega), qmade_get l hq]) more
theorem awake22_c (h : List (List AV)) : Contract Try.prog 33 [] h (.v (.bool true)) h [] := by
  refine contract_of k33 mixed (by simp [c33]) fun hh hargs => ?_
  obtain ⟨l, hl⟩ : ∃ l, l = [aE 2, aE 3, aE 8] := ⟨_, rfl⟩
  have hfit : ∀ e ∈ l, EnFit e := by rw [hl]; intro e he; simp at he; rcases he with rfl | rfl | rfl <;> exact aE_fit _
  have hlen : l.length = 3 := by rw [hl]; rfl
  have hne : l ≠ [] := by rw [hl]; simp
  have t1 := newQ_at hh 4
  have t2 := qmade_at hh 4 l hne
  have hp := qpush_c t1 l hfit (by omega) (by omega) (by simp [hlen])
  have haw : apWr none l [] = [] := by unfold apWr; split <;> rfl
  rw [haw] at hp
  have htk := fun n more => take_got (h := h) (most := 4) l hne n more
  have hpl := pushH_len (h ++ [qC none 0 4]) h.length none 4 [] l
  simp at hpl
  have hn : Contract Try.prog 11 [.v (.int .i64 4)] h (.tup [.box h.length 0, .v (.int .i64 0)]) (h ++ [qC none 0 4]) [] := qnew_c (most := 4) (by omega) (by omega) h
  generalize pushH (h ++ [qC none 0 4]) h.length none 4 [] l = H2 at *
  obtain ⟨v1, v2, v3, wr, hg, hwr, ev1, ev2, ev3, of1, of2, of3⟩ := mgot_c t2 (by omega) hfit fE
  have hG : gotR l fE.kind fE.status = (0, ⟨true, aE 2, [], [aE 2], [aE 3], 0⟩, [aE 8]) := by rw [hl]; decide +kernel
  have hK : gotK l fE.kind = 2 := by rw [hl]; decide +kernel
  have t3 := t2.cut 2 (by omega)
  change QAt (qH H2 h.length (some (h.length + 1, 0)) 2 l.length 4) _ _ _ _ at t3
  have hd : l.drop 2 = [aE 8] := by rw [hl]; rfl
  rw [hd] at t3
  rw [hG, hK] at hg ev1 ev2 ev3
  dsimp only at hg ev1 ev2 ev3
  have htk2 := htk 2
  have hl3 := qH_len H2 h.length (some (h.length + 1, 0)) 2 l.length 4
  generalize qH H2 h.length (some (h.length + 1, 0)) 2 l.length 4 = H3 at *
  have i1 := ev1.id
  have i2 := ev2.id
  have i3 := ev3.id
  have n1 := ev1.len
  have n2 := ev2.len
  have n3 := ev3.len
  have u1 := ev1.unown
  have u2 := ev2.unown
  have u3 := ev3.unown
  have t4 := t3.app [resC true (aE 2) v1 v2 v3 0] (by simp [resC]; exact ⟨ev1.lt (by omega), ev2.lt (by omega), ev3.lt (by omega)⟩)
  have hle := qlen_c t4
  have hlt3 := t3.lt
  simp only [resC] at hg hle t4
  simp [c33]
  refine xcall_self (by simp) hn ?_
  simp
  refine xcall_of hp (by simp [hl, aE, zE, enC_mk]) (by simp) ?_
  simp
  refine xcall_of hg (by simp [bkC, fE]) (by simp) ?_
  simp [i1, i2, i3, n1, n2, n3, u1, u2, u3, -vLenL]
  refine xcall_self (by simp) hle ?_
  simp [hh, htk2]
  refine ⟨by omega, by omega, fun a ha => ?_⟩
  rcases ha with ha | ha
  · have := hwr a ha; omega
  · omega
end Go.Proofs.Ytpogpofmakcodaa.Ax
/- Layer 22's statement: nothing is told of an entry twice, over values without memory. -/
namespace Go.Proofs.Ytpogpofmakcodaa.Ax
open Go.RowKit Go By
set_option linter.unusedSimpArgs false
set_option linter.unusedVariables false
set_option maxRecDepth 10000

/-- What a reply takes: refused, ended, or failed. -/
theorem gotR_once (L : List En) (k st : Int) : ∃ g r, gotR L k st = (g, r, L.drop (gotK L k)) ∧
    ((g = 10 ∧ gotK L k = 0) ∨ (g = 0 ∧ r.failed = [] ∧ r.ended = L.take (gotK L k)) ∨
      (g = 0 ∧ r.failed.length = 1 ∧ r.failed ++ r.dropped ++ r.ended = L.take (gotK L k) ∧ failsB r.name.kind k = true)) := by
  cases L with
  | nil => exact ⟨10, zRs, rfl, .inl ⟨rfl, rfl⟩⟩
  | cons e l =>
    unfold gotR gotK
    dsimp only
    by_cases h1 : takesB e.kind k = false
    · rw [if_pos h1, if_pos h1]; exact ⟨_, _, rfl, .inl ⟨rfl, rfl⟩⟩
    rw [if_neg h1, if_neg h1]
    by_cases h2 : endsB e.kind k = true
    · rw [if_pos h2, if_pos h2, Nat.add_comm, List.drop_succ_cons]; exact ⟨_, _, rfl, .inr (.inl ⟨rfl, rfl, by rw [List.take_succ_cons]⟩)⟩
    rw [if_neg h2, if_neg h2]
    by_cases h3 : failsB e.kind k = true
    · rw [if_pos h3, if_pos h3, Nat.add_comm, List.drop_succ_cons, List.drop_drop]
      refine ⟨_, _, rfl, .inr (.inr ⟨rfl, rfl, ?_, ?_⟩)⟩
      · show [e] ++ l.take (skN l) ++ (l.drop (skN l)).take (flN (l.drop (skN l))) = _
        rw [List.take_succ_cons, List.take_add]; rfl
      · show failsB (if sw l e k = true then l.headD zE else e).kind k = true
        cases hs : sw l e k with
        | false => exact h3
        | true =>
          unfold sw at hs
          simp only [Bool.and_eq_true] at hs
          exact hs.2.2.2
    rw [if_neg h3, if_neg h3]; exact ⟨_, _, rfl, .inr (.inl ⟨rfl, rfl, rfl⟩)⟩
theorem EAt.rows {h : List (List AV)} {v : AV} {l : List En} (hv : EAt h v l) : IsRowsE h v l := by
  rcases hv with rfl | ⟨rfl, rfl⟩ | ⟨b, off, rfl, hr⟩
  · exact isRowsE_sl l none .no
  · exact .inr ⟨rfl, rfl⟩
  · exact isRowsE_all hr
/-- A queue, and a list beside it that grows. -/
structure GQ (A : List (List AV)) (o go : Option (Nat × Nat)) (G L : List En) : Prop where
  q : QAt A 0 o 60 L
  emp : go = none → G = []
  row : ∀ g, go = some g → g.1 ≠ 0 ∧ g.2 = 0 ∧ A[g.1]? = some (enc enC G).flatten ∧ G ≠ []
  off : ∀ p g, o = some p → go = some g → p.1 ≠ g.1
section
variable {A : List (List AV)} {o go : Option (Nat × Nat)} {G L : List En}
theorem GQ.gl (x : GQ A o go G L) {g : Nat × Nat} (hg : go = some g) : g.1 < A.length := (List.getElem?_eq_some_iff.1 (x.row g hg).2.2.1).1
theorem GQ.app (x : GQ A o go G L) (more : List (List AV)) (hm : ltLL (A.length + more.length) more) : GQ (A ++ more) o go G L :=
  ⟨x.q.app more hm, x.emp, fun g hg => by
    obtain ⟨h1, h2, h3, h4⟩ := x.row g hg
    exact ⟨h1, h2, by rw [List.getElem?_append_left (x.gl hg)]; exact h3, h4⟩, x.off⟩
theorem GQ.hrow (x : GQ A o go G L) : ∀ p, go = some p → ∃ D : List En, p.2 = D.length * 8 ∧ A[p.1]? = some (enc enC (D ++ G)).flatten ∧ D ++ G ≠ [] := fun p hp => by
  obtain ⟨h1, h2, h3, h4⟩ := x.row p hp
  exact ⟨[], h2, h3, h4⟩
theorem GQ.eat (x : GQ A o go G L) : EAt A (qV go G.length) G := by
  cases go with
  | none => rw [x.emp rfl]; exact .inr (.inl ⟨rfl, rfl⟩)
  | some g =>
    obtain ⟨h1, h2, h3, h4⟩ := x.row g rfl
    exact .inr (.inr ⟨g.1, g.2, rfl, [], [], h2.symm, by rw [h3]; simp⟩)
theorem GQ.cut (x : GQ A o go G L) (n : Nat) (hn : n ≤ L.length) : GQ (qH A 0 o n L.length 60) (cutO o n) go G (L.drop n) :=
  ⟨qH_cut x.q n hn, x.emp, fun g hg => by
    obtain ⟨h1, h2, h3, h4⟩ := x.row g hg
    exact ⟨h1, h2, by rw [qH_get h1]; exact h3, h4⟩, fun p g hp hg => by
    obtain ⟨p0, h1, h2⟩ := cutO_fst hp
    rw [h2]; exact x.off p0 g h1 hg⟩
theorem GQ.add (x : GQ A o go G L) (l : List En) : GQ (apQ A go G l) o (apO A go l) (G ++ l) L := by
  have hlen := apQ_len A go G l
  refine ⟨x.q.move (apQ_get x.q.il (fun g hg => ((x.row g hg).1).symm) l) (fun p hp => apQ_get (x.q.bl hp) (fun g hg => x.off p g hp hg) l) (apQ_lt x.q.lt l), fun e => ?_, fun g hg => ?_, fun p g hp hg => ?_⟩
  · unfold apO at e
    by_cases hl : l = []
    · rw [if_pos hl] at e; rw [x.emp e, hl]; rfl
    · rw [if_neg hl] at e; cases e
  · unfold apO at hg
    by_cases hl : l = []
    · rw [if_pos hl] at hg
      subst hl
      have e : apQ A go G [] = A := if_pos rfl
      rw [e, List.append_nil]; exact x.row g hg
    · rw [if_neg hl] at hg
      injection hg with hg
      subst hg
      have hA : 0 < A.length := x.q.il
      refine ⟨by show A.length ≠ 0; omega, rfl, ?_, fun e => hl (List.append_eq_nil_iff.1 e).2⟩
      show (apQ A go G l)[A.length]? = _
      unfold apQ
      rw [if_neg hl]
      cases hgo : go with
      | none => rw [x.emp hgo]; simp
      | some p => show (A.set p.1 [] ++ [_])[A.length]? = _; rw [List.getElem?_append_right (by rw [List.length_set]; exact Nat.le_refl _), List.length_set, Nat.sub_self]; rfl
  · rcases apO_ge hg with h1 | h1
    · exact x.off p g hp h1
    · have := x.q.bl hp; omega
theorem GQ.keep (x : GQ A o go G L) {v : AV} {M : List En} (hv : EAt A v M) (ho : OfO o v) (l : List En) : EAt (apQ A go G l) v M :=
  hv.stay fun b off e => by
    obtain ⟨p, h1, h2⟩ := ho _ _ _ _ e
    rw [h2]; exact apQ_get (x.q.bl h1) (fun g hg => x.off p g h1 hg) l
end
theorem OfO.cut {o : Option (Nat × Nat)} {v : AV} (h : OfO o v) (n : Nat) : OfO (cutO o n) v := fun b off k m e => by
  obtain ⟨p, h1, h2⟩ := h _ _ _ _ e
  exact ⟨(p.1, p.2 + n * 8), by rw [h1]; rfl, h2⟩
structure MO where
  H : List (List AV)
  o : Option (Nat × Nat)
  go : Option (Nat × Nat)
  G : List En
  L : List En
  j : Nat
structure MO.Ok (l : List En) (n : Nat) (d : MO) : Prop where
  le : d.j ≤ n
  gq : GQ d.H d.o d.go d.G d.L
  cat : d.G ++ d.L = l
set_option maxHeartbeats 4000000 in
theorem monce_c (l : List En) (bs : List Bk) (hbk : ∀ b ∈ bs, 0 ≤ b.kind ∧ b.kind < 256) : Contract Try.prog 8 [.sl 8 (enc enC l) none .no, .sl 11 (enc bkC bs) none .no] [] (.v (.bool true)) [] [] := by
  refine contract_of k8 mixed (by simp [c8]) fun hh hargs => ?_
  have hcast : ((30 : Nat) : Int) = 30 := rfl
  have hent := entries_n l 30 (by omega) []
  rw [hcast] at hent
  simp [c8]
  refine xcall_self (by simp) hent ?_
  cases hF : fewEL l 30 with
  | false =>
    simp
    refine xcall_self (by simp) (awake22_c _) ?_
    simp
    done
  | true =>
  obtain ⟨hl30, hfit⟩ := fewEL_iff hF
  simp
  refine xcall_self (by simp) (few22_c bs _) ?_
  cases hB : fewB bs with
  | false =>
    simp
    refine xcall_self (by simp) (awake22_c _) ?_
    simp
    done
  | true =>
  have hb40 := fewB_len hB
  have hn : Contract Try.prog 11 [.v (.int .i64 60)] [] (.tup [.box 0 0, .v (.int .i64 0)]) ([] ++ [qC none 0 60]) [] := qnew_c (most := 60) (by omega) (by omega) _
  have t1 : QAt [qC none 0 60] 0 none 60 [] := newQ_at (h := []) (by simp) 60
  have hp1 := qpush_c t1 l hfit (by omega) (by omega) (by simp; omega)
  have t2 := t1.push l
  have haw : apWr none l [] = [] := by unfold apWr; split <;> rfl
  rw [haw] at hp1
  rw [List.nil_append] at t2
  generalize pushH [qC none 0 60] 0 none 60 [] l = H1 at *
  generalize apO [qC none 0 60] none l = o1 at *
  have hlt1 := t2.lt
  have hil1 := t2.il
  have g0 : GQ H1 o1 none [] l := ⟨t2, fun _ => rfl, fun g hg => (by cases hg), fun p g _ hg => (by cases hg)⟩
  have hq0 : qV none 0 = .sl 0 [] (some true) .exact := rfl
  simp
  refine xcall_self (by simp) hn ?_
  simp
  refine xcall_self (by simp) hp1 ?_
  simp
  refine xloop_ok (D := MO) (fun d => ⟨[(0, .sl 8 (enc enC l) none .no), (5, .box 0 0), (7, qV d.go d.G.length), (37, .sl 11 (enc bkC bs) none .no), (38, .v (.int .i64 bs.length)), (39, .v (.int .i64 d.j))], [], d.H, []⟩) (MO.Ok l bs.length) (fun d => bs.length - d.j) ⟨H1, o1, none, [], l, 0⟩ ⟨Nat.zero_le _, g0, rfl⟩ ?_ ?_
  · simp [Leq, hlt1, hil1, leqH_take, bkC_ll, hq0]
    done
  · rintro ⟨H, o, go, G, L, j⟩ ⟨hj, hgq, hcat⟩
    dsimp only at hj hgq hcat
    have hGL : G.length + L.length = l.length := by rw [← hcat, List.length_append]
    have hfL : ∀ e ∈ L, EnFit e := fun e he => hfit e (by rw [← hcat]; exact List.mem_append_right _ he)
    have hqi := qV_id go G.length
    have hqu := qV_unown go G.length
    have hqc := qV_cells go G.length
    have hlt := hgq.q.lt
    have hil := hgq.q.il
    by_cases hjl : j < bs.length
    · have hw : IntKind.i64.wrap ((j : Int) + 1) = (j : Int) + 1 := wrap64 (by omega) (by omega)
      have hnext : j + 1 ≤ bs.length := hjl
      have hmu : bs.length - (j + 1) < bs.length - j := by omega
      obtain ⟨hb0, hb1⟩ := hbk bs[j] (List.getElem_mem hjl)
      have gA := hgq.app [bkC bs[j]] (by simp [bkC])
      obtain ⟨v1, v2, v3, wr, hg, hwr, ev1, ev2, ev3, of1, of2, of3⟩ := mgot_c gA.q (by omega) hfL bs[j]
      have gB := gA.cut (gotK L bs[j].kind) (gotK_le _ _)
      have hl3 := qH_len (H ++ [bkC bs[j]]) 0 o (gotK L bs[j].kind) L.length 60
      have hk3 : (qH (H ++ [bkC bs[j]]) 0 o (gotK L bs[j].kind) L.length 60)[H.length]? = some (bkC bs[j]) := by rw [qH_get (by omega)]; simp
      obtain ⟨g, r, hG, hcase⟩ := gotR_once L bs[j].kind bs[j].status
      rw [hG] at hg ev1 ev2 ev3
      dsimp only at hg ev1 ev2 ev3
      generalize qH (H ++ [bkC bs[j]]) 0 o (gotK L bs[j].kind) L.length 60 = H3 at *
      have of1 := of1.cut (gotK L bs[j].kind)
      have of2 := of2.cut (gotK L bs[j].kind)
      have of3 := of3.cut (gotK L bs[j].kind)
      generalize cutO o (gotK L bs[j].kind) = o3 at *
      have hlen3 : H3.length = H.length + 1 := by rw [hl3]; simp
      have i1 := ev1.id
      have i2 := ev2.id
      have i3 := ev3.id
      have u1 := ev1.unown
      have u2 := ev2.unown
      have u3 := ev3.unown
      have n1 := ev1.len
      have n2 := ev2.len
      have n3 := ev3.len
      obtain ⟨R, hR⟩ : ∃ R, R = resC r.show_ r.name v1 v2 v3 r.ready := ⟨_, rfl⟩
      have gC := gB.app [R] (by rw [hR]; simp [resC]; exact ⟨ev1.lt (by omega), ev2.lt (by omega), ev3.lt (by omega)⟩)
      have ev1 := ev1.app [R]
      have ev2 := ev2.app [R]
      have ev3 := ev3.app [R]
      have hkR : (H3 ++ [R])[H3.length]? = some R := by simp
      have hkb : (H3 ++ [R])[H.length]? = some (bkC bs[j]) := by rw [List.getElem?_append_left (by omega)]; exact hk3
      have hCl : (H3 ++ [R]).length = H3.length + 1 := by simp
      rw [← hR] at hg
      have e13 : R.length = 13 := by rw [hR]; rfl
      have uR : R.map AV.unown = R := by rw [hR]; simp [resC, u1, u2, u3]
      have a1 : R[1]? = some (.v (.int .i64 r.name.kind)) := by rw [hR]; rfl
      have a9 : R[9]? = some v1 := by rw [hR]; rfl
      have a10 : R[10]? = some v2 := by rw [hR]; rfl
      have a11 : R[11]? = some v3 := by rw [hR]; rfl
      have ga1 : ∀ hx : 1 < R.length, R[1]'hx = .v (.int .i64 r.name.kind) := by rw [hR]; exact fun _ => rfl
      have ga9 : ∀ hx : 9 < R.length, R[9]'hx = v1 := by rw [hR]; exact fun _ => rfl
      have ga10 : ∀ hx : 10 < R.length, R[10]'hx = v2 := by rw [hR]; exact fun _ => rfl
      have ga11 : ∀ hx : 11 < R.length, R[11]'hx = v3 := by rw [hR]; exact fun _ => rfl
      have hRlt := gC.q.lt
      simp [hjl]
      refine xcall_self (by simp) hg ?_
      simp [uR, e13]
      rcases hcase with ⟨rfl, hk0⟩ | ⟨rfl, hf0, hend⟩ | ⟨rfl, hf1, hend, hfk⟩
      · rw [hk0] at gC
        have hil2 := gC.q.il
        simp [hw]
        refine ⟨⟨H3 ++ [R], o3, go, G, L, j + 1⟩, ⟨hnext, by simpa using gC, hcat⟩, hmu, ?_⟩
        simp at hRlt
        simp [Leq, hRlt, leqH_take, bkC_ll, hqi]
        exact gC.eat.lt (by simp)
      · have n2 : vLenL v2 = ⟨True, .v (.int .i64 0), false, []⟩ := by rw [ev2.len, hf0]; rfl
        have gD := gC.add r.ended
        have hGr : (G ++ r.ended).length = G.length + r.ended.length := List.length_append
        have hcat2 : (G ++ r.ended) ++ L.drop (gotK L bs[j].kind) = l := by rw [hend, List.append_assoc, List.take_append_drop, hcat]
        have hb60 : G.length + r.ended.length ≤ l.length := by rw [← hcat2, List.length_append, hGr]; omega
        have hDlt := gD.q.lt
        have hDil := gD.q.il
        have hbb : ((0 : Int) != 0) = false := rfl
        have hkR4 : (apQ (H3 ++ [R]) go G r.ended)[H3.length]? = some R := by rw [apQ_get (by simp) (fun g hg => ?_)]; exact hkR; exact fun e => absurd (gB.gl hg) (by omega)
        simp [hbb, ga10, e13, i2, u2, n2, -vLenL]
        simp [ga9, e13, i1, u1, -vLenL]
        refine qap_runX gC.emp gC.hrow ev1.rows (by omega) ?_
        rw [← hGr]
        generalize apWr go r.ended _ = W2
        have hD := gD.eat
        generalize apQ (H3 ++ [R]) go G r.ended = H4 at *
        generalize apO (H3 ++ [R]) go r.ended = go4 at *
        have hqi4 := qV_id go4 (G ++ r.ended).length
        obtain ⟨hk4, hg4⟩ := List.getElem?_eq_some_iff.1 hkR4
        simp [-vLenL, hqi4, hkR4, hk4, hg4, ga10, e13, i2, u2, n2, hw]
        refine ⟨⟨H4, o3, go4, G ++ r.ended, L.drop (gotK L bs[j].kind), j + 1⟩, ⟨hnext, gD, hcat2⟩, hmu, ?_⟩
        simp [Leq, hDlt, leqH_take, bkC_ll]
        exact ⟨hDil, by rw [← hGr]; exact hqi4, by rw [← hGr]; exact hD.lt (Nat.le_refl _)⟩
      · have n2 : vLenL v2 = ⟨True, .v (.int .i64 1), false, []⟩ := by rw [ev2.len, hf1]; rfl
        have hbb : ((0 : Int) != 0) = false := rfl
        have hGf : (G ++ r.failed).length = G.length + 1 := by rw [List.length_append, hf1]
        have hGd : (G ++ r.failed ++ r.dropped).length = (G ++ r.failed).length + r.dropped.length := List.length_append
        have hGe : (G ++ r.failed ++ r.dropped ++ r.ended).length = (G ++ r.failed ++ r.dropped).length + r.ended.length := List.length_append
        have hcat2 : (G ++ r.failed ++ r.dropped ++ r.ended) ++ L.drop (gotK L bs[j].kind) = l := by
          have e : G ++ r.failed ++ r.dropped ++ r.ended = G ++ (r.failed ++ r.dropped ++ r.ended) := by simp only [List.append_assoc]
          rw [e, hend, List.append_assoc, List.take_append_drop, hcat]
        have hb60 : (G ++ r.failed ++ r.dropped ++ r.ended).length ≤ l.length := by rw [← hcat2]; simp only [List.length_append]; omega
        have key : ∀ (H4 : List (List AV)) (go4 : Option (Nat × Nat)) (G4 : List En), (∀ q, q < (H3 ++ [R]).length → (∀ g, go4 = some g → q ≠ g.1) → H4[q]? = (H3 ++ [R])[q]?) → True := fun _ _ _ _ => trivial
        have gD := gC.add r.failed
        have ev3D := gC.keep ev3 of3 r.failed
        have ev1D := gC.keep ev1 of1 r.failed
        have hl4 := apQ_len (H3 ++ [R]) go G r.failed
        have hkRD : (apQ (H3 ++ [R]) go G r.failed)[H3.length]? = some R := by rw [apQ_get (by simp) (fun g hg => ?_)]; exact hkR; exact fun e => absurd (gB.gl hg) (by omega)
        have hkbD : (apQ (H3 ++ [R]) go G r.failed)[H.length]? = some (bkC bs[j]) := by rw [apQ_get (by omega) (fun g hg => ?_)]; exact hkb; exact fun e => absurd (hgq.gl hg) (by omega)
        have hgoD : ∀ g, apO (H3 ++ [R]) go r.failed = some g → g.1 ≠ H3.length ∧ g.1 ≠ H.length := fun g hg => by
          rcases apO_ge hg with h1 | h1
          · have h2 := gB.gl h1; have h3 := hgq.gl h1; omega
          · omega
        simp [hbb, ga10, e13, i2, u2, n2, -vLenL]
        refine qap_runX gC.emp gC.hrow ev2.rows (by rw [hf1]; omega) ?_
        rw [show G.length + r.failed.length = (G ++ r.failed).length by rw [List.length_append]]
        generalize apWr go r.failed _ = W2
        generalize apQ (H3 ++ [R]) go G r.failed = H4 at *
        generalize apO (H3 ++ [R]) go r.failed = go4 at *
        generalize G ++ r.failed = G4 at *
        have hqi4 := qV_id go4 G4.length
        have hqu4 := qV_unown go4 G4.length
        obtain ⟨hk4, hg4⟩ := List.getElem?_eq_some_iff.1 hkRD
        have gE := gD.add r.dropped
        have ev1E := gD.keep ev1D of1 r.dropped
        have hl5 := apQ_len H4 go4 G4 r.dropped
        have hkRE : (apQ H4 go4 G4 r.dropped)[H3.length]? = some R := by rw [apQ_get hk4 (fun g hg => (hgoD g hg).1.symm)]; exact hkRD
        have hkbE : (apQ H4 go4 G4 r.dropped)[H.length]? = some (bkC bs[j]) := by rw [apQ_get (by omega) (fun g hg => (hgoD g hg).2.symm)]; exact hkbD
        have hgoE : ∀ g, apO H4 go4 r.dropped = some g → g.1 ≠ H3.length ∧ g.1 ≠ H.length := fun g hg => by
          rcases apO_ge hg with h1 | h1
          · exact hgoD g h1
          · omega
        simp [-vLenL, hqi4, hk4, hg4, ga11, e13, i3, u3]
        refine qap_runX gD.emp gD.hrow ev3D.rows (by omega) ?_
        rw [show G4.length + r.dropped.length = (G4 ++ r.dropped).length by rw [List.length_append]]
        generalize apWr go4 r.dropped _ = W3
        generalize apQ H4 go4 G4 r.dropped = H5 at *
        generalize apO H4 go4 r.dropped = go5 at *
        generalize G4 ++ r.dropped = G5 at *
        have hqi5 := qV_id go5 G5.length
        obtain ⟨hk5, hg5⟩ := List.getElem?_eq_some_iff.1 hkRE
        have gF := gE.add r.ended
        have hl6 := apQ_len H5 go5 G5 r.ended
        have hkRF : (apQ H5 go5 G5 r.ended)[H3.length]? = some R := by rw [apQ_get hk5 (fun g hg => (hgoE g hg).1.symm)]; exact hkRE
        have hkbF : (apQ H5 go5 G5 r.ended)[H.length]? = some (bkC bs[j]) := by rw [apQ_get (by omega) (fun g hg => (hgoE g hg).2.symm)]; exact hkbE
        simp [-vLenL, hqi5, hk5, hg5, ga9, e13, i1, u1]
        refine qap_runX gE.emp gE.hrow ev1E.rows (by omega) ?_
        rw [show G5.length + r.ended.length = (G5 ++ r.ended).length by rw [List.length_append]]
        generalize apWr go5 r.ended _ = W4
        generalize apQ H5 go5 G5 r.ended = H6 at *
        generalize apO H5 go5 r.ended = go6 at *
        generalize G5 ++ r.ended = G6 at *
        have hD := gF.eat
        have hDlt := gF.q.lt
        have hDil := gF.q.il
        have hqi6 := qV_id go6 G6.length
        obtain ⟨hk6, hg6⟩ := List.getElem?_eq_some_iff.1 hkRF
        obtain ⟨hm6, hn6⟩ := List.getElem?_eq_some_iff.1 hkbF
        simp [-vLenL, hqi6, hk6, hg6, ga10, ga1, e13, i2, u2, n2, hm6, hn6]
        refine xcall_self (by simp) (rfails_c r.name.kind bs[j].kind hb0 hb1 _) ?_
        simp [hfk, hw]
        refine ⟨⟨H6, o3, go6, G6, L.drop (gotK L bs[j].kind), j + 1⟩, ⟨hnext, gF, hcat2⟩, hmu, ?_⟩
        simp [Leq, hDlt, leqH_take, bkC_ll]
        exact ⟨hDil, hqi6, hD.lt (Nat.le_refl _)⟩
    · have : j = bs.length := by omega
      subst this
      have hlist := qlist_c hgq.q (by omega) hfL
      have gD := hgq.add L
      rw [hcat] at gD
      have hD := gD.eat
      have hDlt := gD.q.lt
      simp
      refine xcall_self (by simp) hlist ?_
      simp [-vLenL, hqi]
      refine qap_run hgq.emp hgq.hrow (by omega) ?_
      rw [hGL]
      generalize apWr go L _ = W2
      generalize apQ H go G L = H4 at *
      generalize apO H go L = go4 at *
      have hqi4 := qV_id go4 l.length
      simp [-vLenL, hqi4]
      refine xall hD (EAt.sl _ _) (by omega) hfit hfit ?_
      simp
      refine xcall_self (by simp) (awake22_c _) ?_
      simp [hDlt]
      trace_state
      done
theorem monce_l (l : List En) (bs : List Bk) (h : bs.length ≤ maxLen ∧ ∀ x ∈ bs, OkBk x) : Contract Try.prog 8 [.sl 8 (enc enC l) none .no, .sl 11 (enc bkC bs) none .no] [] (.v (.bool true)) [] [] := monce_c l bs fun b hb => (h.2 b hb).1
end Go.Proofs.Ytpogpofmakcodaa.Ax
namespace Go.Proofs.Ytpogpofmakcodaa.matchOnce
open Go.ChangeShapes Go.WideShapes Go.ChangeAt Go.RowKit
open Go.ChangeMaps (open_string shut_string)
set_option linter.unusedVariables false

theorem own : ownKnob Try.prog.godebug = none := by kernel_rfl
theorem laidOut : laidOutB Try.prog = true := by kernel_rfl

set_option maxRecDepth 100000 in
theorem lifted (os : Os) (started : os.Started) (H : Type) (enc : TypeId × Value → H) :
    ReturnsInHanded {} Try.checked os 8 .any (Rows.matchOnceSpec.pre6 enc Try.prog Try.f8 Rows.matchOnceRow.domain false) (Rows.matchOnceSpec.post enc Try.prog Try.f8 false true false false) := by
  refine returnsInHanded_of_change (C := Try.checked) own started (by kernel_rfl) Try.func8
    (ChangeSpec.witness6 (enc := enc) (C := Try.checked) false ⟨#[], #[.slice none 0 0, .slice none 0 0], []⟩ 8 (by kernel_rfl) (by kernel_rfl) (by kernel_rfl) (by kernel_rfl)) ?_
  intro W base args ds gs before hval0 hW hcnd _
  have hval : ∀ (j : Nat) t v, Try.f8.params[j]? = some t → args[j]? = some v → Value.okWide Try.prog W .any base t v := hval0
  have hW' := hW
  obtain ⟨p, q, hA0, hV, rfl, hfz, hnd⟩ := hW
  have hA : DataW.TrodAll enc Try.prog W 0 (fun _ => true) true Try.f8.params.toList args.toList ds p := hA0
  rw [Try.params8] at hA hval
  obtain ⟨v0, vs0, d0, ds0, p0, q0, hargs, rfl, rfl, h0, r0⟩ := trodAll_cons hA
  obtain ⟨v1, vs1, d1, ds1, p1, q1, rfl, rfl, rfl, h1, r1⟩ := trodAll_cons r0
  obtain ⟨rfl, rfl, rfl⟩ := trodAll_nil r1
  obtain rfl : args = #[v0, v1] := by cases args; simp_all
  obtain ⟨rfl, rfl⟩ := trodVars_none hV
  have k0 := h0
  have lt0 : ∀ x ∈ p0, x.block < W.heap.size := by obtain ⟨m, hm⟩ := k0; exact DataW.trod_lt m _ _ _ hm
  obtain ⟨a0, ok0, s0⟩ := Ax.arg_slice Try.underlying32 Ax.sh_enCL (hval 0 32 v0 rfl rfl) h0
  have k1 := h1
  have lt1 : ∀ x ∈ p1, x.block < W.heap.size := by obtain ⟨m, hm⟩ := k1; exact DataW.trod_lt m _ _ _ hm
  obtain ⟨a1, ok1, s1⟩ := Ax.arg_slice Try.underlying61 Ax.sh_bkCL (hval 1 61 v1 rfl rfl) h1
  clear hA0 hval0
  refine (Ax.law_walk (w := W) (Ax.dom_any W) (Ax.monce_l a0 a1 ok1) (by simp) (.cons s0 (.cons s1 .nil))).mono fun e W' ⟨he, bel⟩ => ?_
  subst he
  exact ⟨_, rfl, _, _, _, [], _, [], hW', trodAll_mk1 (shut_bool Try.underlying4 _), (trodAll_cons_mk (Below.trod laidOut (by kernel_rfl) (of_decide_eq_true (by kernel_rfl)) k0 bel lt0) (trodAll_cons_mk (Below.trod laidOut (by kernel_rfl) (of_decide_eq_true (by kernel_rfl)) k1 bel lt1) trodAll_mk0)), rfl, bel.frame _, fun h => by cases h⟩

theorem over : Rows.matchOnceRow.holds Try.pinned (OpenSpec.ofChange Rows.matchOnceSpec) :=
  OpenClaim.holds_of_wide 8 Try.f8 rfl rfl rfl rfl rfl rfl rfl ⟨rfl, rfl, rfl, rfl, rfl⟩ rfl rfl rfl rfl rfl (by kernel_rfl) Try.func8 (by kernel_rfl)
    (of_decide_eq_true (by kernel_rfl)) (by unfold Func.isWrapper; first | (rw [if_pos (by decide +kernel)]; kernel_rfl) | (rw [if_neg (by decide +kernel)]; exact ⟨rfl, rfl⟩))
    (fun os started H enc _ => lifted os started H enc)

theorem proved : Rows.MatchOnceSaid := over
#print axioms proved
end Go.Proofs.Ytpogpofmakcodaa.matchOnce
