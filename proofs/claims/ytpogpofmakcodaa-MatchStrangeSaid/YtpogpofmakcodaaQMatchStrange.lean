/- a reply that does not belong there is refused, and nothing changes -/
import Derived.Test.YtpogpofmakcodaaQAxZa
import Derived.Test.YtpogpofmakcodaaQAxTz
import Derived.Test.YtpogpofmakcodaaQAxZc
import Derived.Test.YtpogpofmakcodaaQAxWb
import Derived.Test.YtpogpofmakcodaaRows
import Derived.Test.YtpogpofmakcodaaQElems
import Derived.Test.YtpogpofmakcodaaQAxX
import Derived.WalkKit
import Derived.ProofKit
import Derived.OpenShut
import Derived.ShutString
import Derived.ChangeOld
import Derived.Below
/- Layer 21's statement: a queue lives as the document's does. -/
namespace Go.Proofs.Ytpogpofmakcodaa.Ax
open Go.RowKit Go By
set_option linter.unusedSimpArgs false
set_option linter.unusedVariables false
set_option maxRecDepth 10000

/-- A call. -/
structure Dq where
  op : Int
  l : List En
structure QL where
  H : List (List AV)
  o : Option (Nat × Nat)
  o2 : Option (Nat × Nat)
  L : List En
  j : Nat
structure QL.Ok (n most : Nat) (d : QL) : Prop where
  le : d.j ≤ n
  two : Two d.H d.o d.o2 most d.L
end Go.Proofs.Ytpogpofmakcodaa.Ax
/- Layer 22's statements: a fault drops what is behind; two results; few replies; a fault of what is hidden, over values without memory. -/
namespace Go.Proofs.Ytpogpofmakcodaa.Ax
open Go.RowKit Go By
set_option linter.unusedSimpArgs false
set_option linter.unusedVariables false
set_option maxRecDepth 10000

/-! ### Two results -/
theorem rs_eq (a b : Rs) : decide (a = b) = (a.show_ == b.show_ && (a.ready == b.ready && (decide (a.name = b.name) && (decide (a.ended = b.ended) && (decide (a.failed = b.failed) && decide (a.dropped = b.dropped)))))) := by
  obtain ⟨a1, a2, a3, a4, a5, a6⟩ := a
  obtain ⟨b1, b2, b3, b4, b5, b6⟩ := b
  rw [Bool.eq_iff_iff]
  simp
  rintro rfl
  constructor
  · rintro ⟨rfl, rfl, rfl, rfl, rfl⟩; simp
  · rintro ⟨rfl, rfl, rfl, rfl, rfl⟩; simp
structure RsFit (r : Rs) : Prop where
  name : EnFit r.name
  el : r.ended.length ≤ 1000000
  ef : ∀ e ∈ r.ended, EnFit e
  fl : r.failed.length ≤ 1000000
  ff : ∀ e ∈ r.failed, EnFit e
  dl : r.dropped.length ≤ 1000000
  df : ∀ e ∈ r.dropped, EnFit e
section
variable {h : List (List AV)} {v1 v2 v3 w1 w2 w3 : AV}
theorem same22_c (a b : Rs) (ha : RsFit a) (hb : RsFit b) (hv1 : EAt h v1 a.ended) (hv2 : EAt h v2 a.failed) (hv3 : EAt h v3 a.dropped) (hw1 : EAt h w1 b.ended) (hw2 : EAt h w2 b.failed) (hw3 : EAt h w3 b.dropped) :
    Contract Try.prog 38 [.agg (resC a.show_ a.name v1 v2 v3 a.ready), .agg (resC b.show_ b.name w1 w2 w3 b.ready)] h (.v (.bool (decide (a = b)))) h [] := by
  obtain ⟨q1, q2, q3, q4, q5, q6, q7⟩ := ha
  obtain ⟨p1, p2, p3, p4, p5, p6, p7⟩ := hb
  have i1 := hv1.id
  have i2 := hv2.id
  have i3 := hv3.id
  have j1 := hw1.id
  have j2 := hw2.id
  have j3 := hw3.id
  have u1 := hv1.unown
  have u2 := hv2.unown
  have u3 := hv3.unown
  have x1 := hw1.unown
  have x2 := hw2.unown
  have x3 := hw3.unown
  obtain ⟨ra, hra⟩ : ∃ ra, ra = resC a.show_ a.name v1 v2 v3 a.ready := ⟨_, rfl⟩
  obtain ⟨rb, hrb⟩ : ∃ rb, rb = resC b.show_ b.name w1 w2 w3 b.ready := ⟨_, rfl⟩
  have hv1' := hv1.app [ra, rb]
  have hv2' := hv2.app [ra, rb]
  have hv3' := hv3.app [ra, rb]
  have hw1' := hw1.app [ra, rb]
  have hw2' := hw2.app [ra, rb]
  have hw3' := hw3.app [ra, rb]
  have e1 : ra.length = 13 := by rw [hra]; rfl
  have e2 : rb.length = 13 := by rw [hrb]; rfl
  have a0 : ra[0]? = some (.v (.bool a.show_)) := by rw [hra]; rfl
  have b0 : rb[0]? = some (.v (.bool b.show_)) := by rw [hrb]; rfl
  have aN : List.take 8 ra.tail = enC a.name := by rw [hra]; rfl
  have bN : List.take 8 rb.tail = enC b.name := by rw [hrb]; rfl
  have a9 : ra[9]? = some v1 := by rw [hra]; rfl
  have b9 : rb[9]? = some w1 := by rw [hrb]; rfl
  have a10 : ra[10]? = some v2 := by rw [hra]; rfl
  have b10 : rb[10]? = some w2 := by rw [hrb]; rfl
  have a11 : ra[11]? = some v3 := by rw [hra]; rfl
  have b11 : rb[11]? = some w3 := by rw [hrb]; rfl
  have a12 : ra[12]? = some (.v (.int .u8 a.ready)) := by rw [hra]; rfl
  have b12 : rb[12]? = some (.v (.int .u8 b.ready)) := by rw [hrb]; rfl
  have ga0 : ∀ hx : 0 < ra.length, ra[0]'hx = .v (.bool a.show_) := by rw [hra]; exact fun _ => rfl
  have gb0 : ∀ hx : 0 < rb.length, rb[0]'hx = .v (.bool b.show_) := by rw [hrb]; exact fun _ => rfl
  have ga9 : ∀ hx : 9 < ra.length, ra[9]'hx = v1 := by rw [hra]; exact fun _ => rfl
  have gb9 : ∀ hx : 9 < rb.length, rb[9]'hx = w1 := by rw [hrb]; exact fun _ => rfl
  have ga10 : ∀ hx : 10 < ra.length, ra[10]'hx = v2 := by rw [hra]; exact fun _ => rfl
  have gb10 : ∀ hx : 10 < rb.length, rb[10]'hx = w2 := by rw [hrb]; exact fun _ => rfl
  have ga11 : ∀ hx : 11 < ra.length, ra[11]'hx = v3 := by rw [hra]; exact fun _ => rfl
  have gb11 : ∀ hx : 11 < rb.length, rb[11]'hx = w3 := by rw [hrb]; exact fun _ => rfl
  have ga12 : ∀ hx : 12 < ra.length, ra[12]'hx = .v (.int .u8 a.ready) := by rw [hra]; exact fun _ => rfl
  have gb12 : ∀ hx : 12 < rb.length, rb[12]'hx = .v (.int .u8 b.ready) := by rw [hrb]; exact fun _ => rfl
  have ua : ra.map AV.unown = ra := by rw [hra]; simp [resC, u1, u2, u3]
  have ub : rb.map AV.unown = rb := by rw [hrb]; simp [resC, x1, x2, x3]
  rw [← hra, ← hrb]
  refine contract_of k38 mixed (by simp [c38]) fun hh hargs => ?_
  simp at hargs
  have hl2 := ltLL_mono (Nat.le_add_right h.length 2) hh
  have hla : ltL (h.length + 2) ra := ltL_mono (Nat.le_add_right _ _) hargs.1
  have hlb : ltL (h.length + 2) rb := ltL_mono (Nat.le_add_right _ _) hargs.2
  rw [rs_eq]
  simp [c38, e1, e2, ga0, gb0, ua, ub, hla, hlb]
  cases s1 : a.show_ == b.show_ with
  | false => simp [hh, hl2, hla, hlb, leqH_take]
  | true =>
  simp [e1, e2, ga12, gb12]
  cases s2 : a.ready == b.ready with
  | false => simp [hh, hl2, hla, hlb, leqH_take]
  | true =>
  simp [e1, e2, ua, ub, aN, bN]
  refine xcall_self (by simp) (rsame21_c a.name b.name q1 p1 _) ?_
  cases s3 : decide (a.name = b.name) with
  | false => simp [hh, hl2, hla, hlb, leqH_take]
  | true =>
  simp [e1, e2, ga9, gb9, i1, j1, u1, x1]
  refine xall hv1' hw1' q2 q3 p3 ?_
  cases s4 : decide (a.ended = b.ended) with
  | false => simp [hh, hl2, hla, hlb, leqH_take]
  | true =>
  simp [e1, e2, ga10, gb10, i2, j2, u2, x2]
  refine xall hv2' hw2' q4 q5 p5 ?_
  cases s5 : decide (a.failed = b.failed) with
  | false => simp [hh, hl2, hla, hlb, leqH_take]
  | true =>
  simp [e1, e2, ga11, gb11, i3, j3, u3, x3]
  refine xall hv3' hw3' q6 q7 p7 ?_
  simp [hh, hl2, hla, hlb, leqH_take]
  trace_state
  done
end
/-! ### Few replies -/
/-! ### A fault drops what is behind -/
def fE : Bk := ⟨69, 0, [], [], [], 0, 0, [], [], [], []⟩
theorem take_got {h : List (List AV)} {most : Nat} (l : List En) (hne : l ≠ []) (n : Nat) (more : List (List AV)) : List.take h.length (qH (pushH (h ++ [qC none 0 most]) h.length none most [] l) h.length (some (h.length + 1, 0)) n l.length most ++ more) = h := by
  have hpl := pushH_len (h ++ [qC none 0 most]) h.length none most [] l
  simp at hpl
  exact take_of (by rw [qH_len]; omega) (fun q hq => by rw [qH_get (by omega), qmade_get l hq]) more
theorem awake22_c (h : List (List AV)) : Contract Try.prog 33 [] h (.v (.bool true)) h [] := by
  refine contract_of k33 mixed (by simp [c33]) fun hh hargs => ?_
  obtain ⟨l, hl⟩ : ∃ l, l = [aE 2, aE 3, aE 8] := ⟨_, rfl⟩
  have hfit : ∀ e ∈ l, EnFit e := by rw [hl]; intro e he; simp at he; rcases he with rfl | rfl | rfl <;> exact aE_fit _
  have hlen : l.length = 3 := by rw [hl]; rfl
  have hne : l ≠ [] := by rw [hl]; simp
  have t1 := newQ_at hh 4
  have t2 := qmade_at hh 4 l hne
  have hp := qpush_c t1 l hfit (by omega) (by omega) (by simp [hlen])
  have haw : apWr none l [] = [] := by unfold apWr; split <;> rfl
  rw [haw] at hp
  have htk := fun n more => take_got (h := h) (most := 4) l hne n more
  have hpl := pushH_len (h ++ [qC none 0 4]) h.length none 4 [] l
  simp at hpl
  have hn : Contract Try.prog 11 [.v (.int .i64 4)] h (.tup [.box h.length 0, .v (.int .i64 0)]) (h ++ [qC none 0 4]) [] := qnew_c (most := 4) (by omega) (by omega) h
  generalize pushH (h ++ [qC none 0 4]) h.length none 4 [] l = H2 at *
  obtain ⟨v1, v2, v3, wr, hg, hwr, ev1, ev2, ev3, of1, of2, of3⟩ := mgot_c t2 (by omega) hfit fE
  have hG : gotR l fE.kind fE.status = (0, ⟨true, aE 2, [], [aE 2], [aE 3], 0⟩, [aE 8]) := by rw [hl]; decide +kernel
  have hK : gotK l fE.kind = 2 := by rw [hl]; decide +kernel
  have t3 := t2.cut 2 (by omega)
  change QAt (qH H2 h.length (some (h.length + 1, 0)) 2 l.length 4) _ _ _ _ at t3
  have hd : l.drop 2 = [aE 8] := by rw [hl]; rfl
  rw [hd] at t3
  rw [hG, hK] at hg ev1 ev2 ev3
  dsimp only at hg ev1 ev2 ev3
  have htk2 := htk 2
  have hl3 := qH_len H2 h.length (some (h.length + 1, 0)) 2 l.length 4
  generalize qH H2 h.length (some (h.length + 1, 0)) 2 l.length 4 = H3 at *
  have i1 := ev1.id
  have i2 := ev2.id
  have i3 := ev3.id
  have n1 := ev1.len
  have n2 := ev2.len
  have n3 := ev3.len
  have u1 := ev1.unown
  have u2 := ev2.unown
  have u3 := ev3.unown
  have t4 := t3.app [resC true (aE 2) v1 v2 v3 0] (by simp [resC]; exact ⟨ev1.lt (by omega), ev2.lt (by omega), ev3.lt (by omega)⟩)
  have hle := qlen_c t4
  have hlt3 := t3.lt
  simp only [resC] at hg hle t4
  simp [c33]
  refine xcall_self (by simp) hn ?_
  simp
  refine xcall_of hp (by simp [hl, aE, zE, enC_mk]) (by simp) ?_
  simp
  refine xcall_of hg (by simp [bkC, fE]) (by simp) ?_
  simp [i1, i2, i3, n1, n2, n3, u1, u2, u3, -vLenL]
  refine xcall_self (by simp) hle ?_
  simp [hh, htk2]
  refine ⟨by omega, by omega, fun a ha => ?_⟩
  rcases ha with ha | ha
  · have := hwr a ha; omega
  · omega
end Go.Proofs.Ytpogpofmakcodaa.Ax
/- Layer 22's statement: a reply that does not belong there is refused, over values without memory. -/
namespace Go.Proofs.Ytpogpofmakcodaa.Ax
open Go.RowKit Go By
set_option linter.unusedSimpArgs false
set_option linter.unusedVariables false
set_option maxRecDepth 10000

theorem gotR_took {x : En} {l : List En} {k st : Int} (h : takesB x.kind k = true) : (gotR (x :: l) k st).1 = 0 := by
  unfold gotR
  dsimp only
  rw [if_neg (by rw [h]; simp)]
  split
  · rfl
  split <;> rfl
theorem gotR_no {x : En} {l : List En} {k st : Int} (h : takesB x.kind k = false) : gotR (x :: l) k st = (10, zRs, x :: l) ∧ gotK (x :: l) k = 0 := ⟨if_pos h, if_pos h⟩
theorem zRs_fit : RsFit zRs := ⟨by simp [EnFit, zRs, zE], by simp [zRs], by simp [zRs], by simp [zRs], by simp [zRs], by simp [zRs], by simp [zRs]⟩
set_option maxHeartbeats 1000000 in
theorem mstrange_c (l : List En) (b : Bk) (hb0 : 0 ≤ b.kind) (hb1 : b.kind < 256) : Contract Try.prog 10 [.sl 8 (enc enC l) none .no, .agg (bkC b)] [] (.v (.bool true)) [] [] := by
  refine contract_of k10 mixed (by simp [c10]) fun hh hargs => ?_
  have hcast : ((30 : Nat) : Int) = 30 := rfl
  have hent := entries_n l 30 (by omega) [bkC b]
  rw [hcast] at hent
  simp [c10]
  refine xcall_self (by simp) hent ?_
  cases hF : fewEL l 30 with
  | false =>
    simp
    refine xcall_self (by simp) (awake22_c _) ?_
    simp [bkC]
    done
  | true =>
  obtain ⟨hl30, hfit⟩ := fewEL_iff hF
  simp
  refine xcall_self (by simp) (bplainw_c b _) ?_
  cases hB : plainBW b with
  | false =>
    simp
    refine xcall_self (by simp) (awake22_c _) ?_
    simp [bkC]
    done
  | true =>
  have hn : Contract Try.prog 11 [.v (.int .i64 60)] [bkC b] (.tup [.box 1 0, .v (.int .i64 0)]) ([bkC b] ++ [qC none 0 60]) [] := qnew_c (most := 60) (by omega) (by omega) _
  have t1 : QAt [bkC b, qC none 0 60] 1 none 60 [] := newQ_at (h := [bkC b]) (by simp [bkC]) 60
  have hp1 := qpush_c t1 l hfit (by omega) (by omega) (by simp; omega)
  have t2 := t1.push l
  have haw : apWr none l [] = [] := by unfold apWr; split <;> rfl
  rw [haw] at hp1
  rw [List.nil_append] at t2
  have hb2 : (pushH [bkC b, qC none 0 60] 1 none 60 [] l)[0]? = some (bkC b) := by rw [pushH_get l (by simp) (by omega) (fun p hp => by cases hp)]; rfl
  generalize pushH [bkC b, qC none 0 60] 1 none 60 [] l = H1 at *
  generalize apO [bkC b, qC none 0 60] none l = o1 at *
  obtain ⟨v1, v2, v3, wr, hg, hwr, ev1, ev2, ev3, _, _, _⟩ := mgot_c t2 (by omega) hfit b
  have t3 := qH_cut t2 (gotK l b.kind) (gotK_le _ _)
  have hb3 : (qH H1 1 o1 (gotK l b.kind) l.length 60)[0]? = some (bkC b) := by rw [qH_get (by omega)]; exact hb2
  have i1 := ev1.id
  have i2 := ev2.id
  have i3 := ev3.id
  have u1 := ev1.unown
  have u2 := ev2.unown
  have u3 := ev3.unown
  simp
  refine xcall_self (by simp) hn ?_
  simp
  refine xcall_self (by simp) hp1 ?_
  simp [hb2]
  cases l with
  | nil =>
    have hG : gotR [] b.kind b.status = (10, zRs, []) := rfl
    have hK : gotK [] b.kind = 0 := rfl
    rw [hG] at hg ev1 ev2 ev3
    rw [hK] at hg ev1 ev2 ev3 t3 hb3
    dsimp only at hg ev1 ev2 ev3
    generalize qH H1 1 o1 0 ([] : List En).length 60 = H3 at *
    have hsm : Contract Try.prog 38 _ (H3 ++ [resC zRs.show_ zRs.name v1 v2 v3 zRs.ready]) (.v (.bool true)) _ [] := same22_c zRs zRs zRs_fit zRs_fit (ev1.app _) (ev2.app _) (ev3.app _) (.inr (.inl ⟨rfl, rfl⟩)) (.inr (.inl ⟨rfl, rfl⟩)) (.inr (.inl ⟨rfl, rfl⟩))
    simp [resC, zRs, zE] at hg hsm
    have t4 := t3.app [resC zRs.show_ zRs.name v1 v2 v3 zRs.ready] (by simp [resC]; exact ⟨ev1.lt (by omega), ev2.lt (by omega), ev3.lt (by omega)⟩)
    have hlist := qlist_c t4 (by simp) (by simp)
    have hal := rall_c [] [] (by simp) (by simp) (by simp) (H3 ++ [resC zRs.show_ zRs.name v1 v2 v3 zRs.ready])
    have hlt4 := t4.lt
    simp [resC, zRs, zE] at hlist hal hlt4
    refine xcall_of hg (by simp) (by simp) ?_
    simp [i1, i2, i3, u1, u2, u3]
    refine xcall_of hsm (by simp [u1, u2, u3, weak_refl]) (by simp [i1, i2, i3]) ?_
    simp
    refine xcall_self (by simp) hlist ?_
    simp
    refine xcall_self (by simp) hal ?_
    simp
    refine xcall_self (by simp) (awake22_c _) ?_
    simp [hlt4]
    trace_state
    done
  | cons x l =>
    cases hT : takesB x.kind b.kind with
    | true =>
      have h0 := gotR_took (x := x) (l := l) (st := b.status) hT
      rw [h0] at hg
      generalize (gotR (x :: l) b.kind b.status).2.1 = r at *
      generalize qH H1 1 o1 (gotK (x :: l) b.kind) (x :: l).length 60 = H3 at *
      have hb3l := (List.getElem?_eq_some_iff.1 hb3).1
      have hb4 : ∀ X hx, (H3 ++ X)[0]'hx = bkC b := fun X hx => by rw [List.getElem_append_left hb3l]; exact (List.getElem?_eq_some_iff.1 hb3).2
      have t4 := t3.app [resC r.show_ r.name v1 v2 v3 r.ready] (by simp [resC]; exact ⟨ev1.lt (by omega), ev2.lt (by omega), ev3.lt (by omega)⟩)
      have hlt4 := t4.lt
      simp only [resC] at hg hlt4
      refine xcall_self (by simp) hg ?_
      simp [i1, i2, i3, u1, u2, u3, -vLenL, vLenL_sl, enC_mk x, hb4]
      refine xcall_self (by simp) (rtakes_c x.kind b.kind hb0 hb1 _) ?_
      simp [hT]
      refine xcall_self (by simp) (awake22_c _) ?_
      simp at hlt4
      simp [hlt4]
      trace_state
      done
    | false =>
      obtain ⟨hG, hK⟩ := gotR_no (l := l) (st := b.status) hT
      rw [hG] at hg ev1 ev2 ev3
      rw [hK] at hg ev1 ev2 ev3 t3 hb3
      dsimp only at hg ev1 ev2 ev3
      generalize qH H1 1 o1 0 (x :: l).length 60 = H3 at *
      have hsm : Contract Try.prog 38 _ (H3 ++ [resC zRs.show_ zRs.name v1 v2 v3 zRs.ready]) (.v (.bool true)) _ [] := same22_c zRs zRs zRs_fit zRs_fit (ev1.app _) (ev2.app _) (ev3.app _) (.inr (.inl ⟨rfl, rfl⟩)) (.inr (.inl ⟨rfl, rfl⟩)) (.inr (.inl ⟨rfl, rfl⟩))
      have hb3l := (List.getElem?_eq_some_iff.1 hb3).1
      have hb4 : ∀ X hx, (H3 ++ X)[0]'hx = bkC b := fun X hx => by rw [List.getElem_append_left hb3l]; exact (List.getElem?_eq_some_iff.1 hb3).2
      simp [resC, zRs, zE] at hg hsm
      have t4 := t3.app [resC zRs.show_ zRs.name v1 v2 v3 zRs.ready] (by simp [resC]; exact ⟨ev1.lt (by omega), ev2.lt (by omega), ev3.lt (by omega)⟩)
      rw [List.drop_zero] at t4
      have hlist := qlist_c t4 (by omega) hfit
      have hal := rall_c (x :: l) (x :: l) (by omega) hfit hfit (H3 ++ [resC zRs.show_ zRs.name v1 v2 v3 zRs.ready])
      have hlt4 := t4.lt
      simp [resC, zRs, zE] at hlist hal hlt4
      simp only [enC_mk x] at hlist hal
      refine xcall_of hg (by simp) (by simp) ?_
      simp [i1, i2, i3, u1, u2, u3, -vLenL, vLenL_sl, enC_mk x, hb4]
      refine xcall_self (by simp) (rtakes_c x.kind b.kind hb0 hb1 _) ?_
      simp [hT]
      refine xcall_of hsm (by simp [u1, u2, u3, weak_refl]) (by simp [i1, i2, i3]) ?_
      simp
      refine xcall_self (by simp) hlist ?_
      simp
      refine xcall_self (by simp) hal ?_
      simp
      refine xcall_self (by simp) (awake22_c _) ?_
      simp [hlt4]
      trace_state
      done
theorem mstrange_l (l : List En) (b : Bk) (h : OkBk b) : Contract Try.prog 10 [.sl 8 (enc enC l) none .no, .agg (bkC b)] [] (.v (.bool true)) [] [] := mstrange_c l b h.1.1 h.1.2
end Go.Proofs.Ytpogpofmakcodaa.Ax
namespace Go.Proofs.Ytpogpofmakcodaa.matchStrange
open Go.ChangeShapes Go.WideShapes Go.ChangeAt Go.RowKit
open Go.ChangeMaps (open_string shut_string)
set_option linter.unusedVariables false

theorem own : ownKnob Try.prog.godebug = none := by kernel_rfl
theorem laidOut : laidOutB Try.prog = true := by kernel_rfl

set_option maxRecDepth 100000 in
theorem lifted (os : Os) (started : os.Started) (H : Type) (enc : TypeId × Value → H) :
    ReturnsInHanded {} Try.checked os 10 .any (Rows.matchStrangeSpec.pre6 enc Try.prog Try.f10 Rows.matchStrangeRow.domain false) (Rows.matchStrangeSpec.post enc Try.prog Try.f10 false true false false) := by
  refine returnsInHanded_of_change (C := Try.checked) own started (by kernel_rfl) Try.func10
    (ChangeSpec.witness6 (enc := enc) (C := Try.checked) false ⟨#[], #[.slice none 0 0, .agg #[.int .u8 0, .int .u8 0, .string ByteArray.empty, .string ByteArray.empty, .string ByteArray.empty, .int .i64 0, .int .i64 0, .slice none 0 0, .slice none 0 0, .slice none 0 0, .slice none 0 0]], []⟩ 8 (by kernel_rfl) (by kernel_rfl) (by kernel_rfl) (by kernel_rfl)) ?_
  intro W base args ds gs before hval0 hW hcnd _
  have hval : ∀ (j : Nat) t v, Try.f10.params[j]? = some t → args[j]? = some v → Value.okWide Try.prog W .any base t v := hval0
  have hW' := hW
  obtain ⟨p, q, hA0, hV, rfl, hfz, hnd⟩ := hW
  have hA : DataW.TrodAll enc Try.prog W 0 (fun _ => true) true Try.f10.params.toList args.toList ds p := hA0
  rw [Try.params10] at hA hval
  obtain ⟨v0, vs0, d0, ds0, p0, q0, hargs, rfl, rfl, h0, r0⟩ := trodAll_cons hA
  obtain ⟨v1, vs1, d1, ds1, p1, q1, rfl, rfl, rfl, h1, r1⟩ := trodAll_cons r0
  obtain ⟨rfl, rfl, rfl⟩ := trodAll_nil r1
  obtain rfl : args = #[v0, v1] := by cases args; simp_all
  obtain ⟨rfl, rfl⟩ := trodVars_none hV
  have k0 := h0
  have lt0 : ∀ x ∈ p0, x.block < W.heap.size := by obtain ⟨m, hm⟩ := k0; exact DataW.trod_lt m _ _ _ hm
  obtain ⟨a0, ok0, s0⟩ := Ax.arg_slice Try.underlying32 Ax.sh_enCL (hval 0 32 v0 rfl rfl) h0
  have k1 := h1
  have lt1 : ∀ x ∈ p1, x.block < W.heap.size := by obtain ⟨m, hm⟩ := k1; exact DataW.trod_lt m _ _ _ hm
  obtain ⟨a1, ok1, s1⟩ := Ax.arg_struct Try.underlying69 Ax.sh_bkC (hval 1 69 v1 rfl rfl) h1
  clear hA0 hval0
  refine (Ax.law_walk (w := W) (Ax.dom_any W) (Ax.mstrange_l a0 a1 ok1) (by simp) (.cons s0 (.cons s1 .nil))).mono fun e W' ⟨he, bel⟩ => ?_
  subst he
  exact ⟨_, rfl, _, _, _, [], _, [], hW', trodAll_mk1 (shut_bool Try.underlying4 _), (trodAll_cons_mk (Below.trod laidOut (by kernel_rfl) (of_decide_eq_true (by kernel_rfl)) k0 bel lt0) (trodAll_cons_mk (Below.trod laidOut (by kernel_rfl) (of_decide_eq_true (by kernel_rfl)) k1 bel lt1) trodAll_mk0)), rfl, bel.frame _, fun h => by cases h⟩

theorem over : Rows.matchStrangeRow.holds Try.pinned (OpenSpec.ofChange Rows.matchStrangeSpec) :=
  OpenClaim.holds_of_wide 10 Try.f10 rfl rfl rfl rfl rfl rfl rfl ⟨rfl, rfl, rfl, rfl, rfl⟩ rfl rfl rfl rfl rfl (by kernel_rfl) Try.func10 (by kernel_rfl)
    (of_decide_eq_true (by kernel_rfl)) (by unfold Func.isWrapper; first | (rw [if_pos (by decide +kernel)]; kernel_rfl) | (rw [if_neg (by decide +kernel)]; exact ⟨rfl, rfl⟩))
    (fun os started H enc _ => lifted os started H enc)

theorem proved : Rows.MatchStrangeSaid := over
#print axioms proved
end Go.Proofs.Ytpogpofmakcodaa.matchStrange
