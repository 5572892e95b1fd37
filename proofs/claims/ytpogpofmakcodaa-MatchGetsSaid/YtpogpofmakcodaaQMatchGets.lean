/- what becomes of any replies, held against any entries, is what the document says -/
import Derived.Test.YtpogpofmakcodaaQAxZa
import Derived.Test.YtpogpofmakcodaaQAxTz
import Derived.Test.YtpogpofmakcodaaQAxZd
import Derived.Test.YtpogpofmakcodaaQAxWb
import Derived.Test.YtpogpofmakcodaaRows
import Derived.Test.YtpogpofmakcodaaQElems
import Derived.Test.YtpogpofmakcodaaQAxX
import Derived.WalkKit
import Derived.ProofKit
import Derived.OpenShut
import Derived.ShutString
import Derived.ChangeOld
import Derived.Below
/- Layer 21's statement: a queue lives as the document's does. -/
namespace Go.Proofs.Ytpogpofmakcodaa.Ax
open Go.RowKit Go By
set_option linter.unusedSimpArgs false
set_option linter.unusedVariables false
set_option maxRecDepth 10000

/-- A call. -/
structure Dq where
  op : Int
  l : List En
theorem QAt.eat {h : List (List AV)} {i most : Nat} {o : Option (Nat × Nat)} {L : List En} (ht : QAt h i o most L) : EAt h (qV o L.length) L := by
  cases o with
  | none => exact .inr (.inl ⟨ht.emp rfl, by rw [ht.emp rfl]; rfl⟩)
  | some p => exact .inr (.inr ⟨p.1, p.2, rfl, ht.rows rfl⟩)
structure QL where
  H : List (List AV)
  o : Option (Nat × Nat)
  o2 : Option (Nat × Nat)
  L : List En
  j : Nat
structure QL.Ok (n most : Nat) (d : QL) : Prop where
  le : d.j ≤ n
  two : Two d.H d.o d.o2 most d.L
end Go.Proofs.Ytpogpofmakcodaa.Ax
/- Layer 22's statements: a fault drops what is behind; two results; few replies; a fault of what is hidden, over values without memory. -/
namespace Go.Proofs.Ytpogpofmakcodaa.Ax
open Go.RowKit Go By
set_option linter.unusedSimpArgs false
set_option linter.unusedVariables false
set_option maxRecDepth 10000

/-! ### Two results -/
theorem rs_eq (a b : Rs) : decide (a = b) = (a.show_ == b.show_ && (a.ready == b.ready && (decide (a.name = b.name) && (decide (a.ended = b.ended) && (decide (a.failed = b.failed) && decide (a.dropped = b.dropped)))))) := by
  obtain ⟨a1, a2, a3, a4, a5, a6⟩ := a
  obtain ⟨b1, b2, b3, b4, b5, b6⟩ := b
  rw [Bool.eq_iff_iff]
  simp
  rintro rfl
  constructor
  · rintro ⟨rfl, rfl, rfl, rfl, rfl⟩; simp
  · rintro ⟨rfl, rfl, rfl, rfl, rfl⟩; simp
structure RsFit (r : Rs) : Prop where
  name : EnFit r.name
  el : r.ended.length ≤ 1000000
  ef : ∀ e ∈ r.ended, EnFit e
  fl : r.failed.length ≤ 1000000
  ff : ∀ e ∈ r.failed, EnFit e
  dl : r.dropped.length ≤ 1000000
  df : ∀ e ∈ r.dropped, EnFit e
section
variable {h : List (List AV)} {v1 v2 v3 w1 w2 w3 : AV}
theorem same22_c (a b : Rs) (ha : RsFit a) (hb : RsFit b) (hv1 : EAt h v1 a.ended) (hv2 : EAt h v2 a.failed) (hv3 : EAt h v3 a.dropped) (hw1 : EAt h w1 b.ended) (hw2 : EAt h w2 b.failed) (hw3 : EAt h w3 b.dropped) :
    Contract Try.prog 38 [.agg (resC a.show_ a.name v1 v2 v3 a.ready), .agg (resC b.show_ b.name w1 w2 w3 b.ready)] h (.v (.bool (decide (a = b)))) h [] := by
  obtain ⟨q1, q2, q3, q4, q5, q6, q7⟩ := ha
  obtain ⟨p1, p2, p3, p4, p5, p6, p7⟩ := hb
  have i1 := hv1.id
  have i2 := hv2.id
  have i3 := hv3.id
  have j1 := hw1.id
  have j2 := hw2.id
  have j3 := hw3.id
  have u1 := hv1.unown
  have u2 := hv2.unown
  have u3 := hv3.unown
  have x1 := hw1.unown
  have x2 := hw2.unown
  have x3 := hw3.unown
  obtain ⟨ra, hra⟩ : ∃ ra, ra = resC a.show_ a.name v1 v2 v3 a.ready := ⟨_, rfl⟩
  obtain ⟨rb, hrb⟩ : ∃ rb, rb = resC b.show_ b.name w1 w2 w3 b.ready := ⟨_, rfl⟩
  have hv1' := hv1.app [ra, rb]
  have hv2' := hv2.app [ra, rb]
  have hv3' := hv3.app [ra, rb]
  have hw1' := hw1.app [ra, rb]
  have hw2' := hw2.app [ra, rb]
  have hw3' := hw3.app [ra, rb]
  have e1 : ra.length = 13 := by rw [hra]; rfl
  have e2 : rb.length = 13 := by rw [hrb]; rfl
  have a0 : ra[0]? = some (.v (.bool a.show_)) := by rw [hra]; rfl
  have b0 : rb[0]? = some (.v (.bool b.show_)) := by rw [hrb]; rfl
  have aN : List.take 8 ra.tail = enC a.name := by rw [hra]; rfl
  have bN : List.take 8 rb.tail = enC b.name := by rw [hrb]; rfl
  have a9 : ra[9]? = some v1 := by rw [hra]; rfl
  have b9 : rb[9]? = some w1 := by rw [hrb]; rfl
  have a10 : ra[10]? = some v2 := by rw [hra]; rfl
  have b10 : rb[10]? = some w2 := by rw [hrb]; rfl
  have a11 : ra[11]? = some v3 := by rw [hra]; rfl
  have b11 : rb[11]? = some w3 := by rw [hrb]; rfl
  have a12 : ra[12]? = some (.v (.int .u8 a.ready)) := by rw [hra]; rfl
  have b12 : rb[12]? = some (.v (.int .u8 b.ready)) := by rw [hrb]; rfl
  have ga0 : ∀ hx : 0 < ra.length, ra[0]'hx = .v (.bool a.show_) := by rw [hra]; exact fun _ => rfl
  have gb0 : ∀ hx : 0 < rb.length, rb[0]'hx = .v (.bool b.show_) := by rw [hrb]; exact fun _ => rfl
  have ga9 : ∀ hx : 9 < ra.length, ra[9]'hx = v1 := by rw [hra]; exact fun _ => rfl
  have gb9 : ∀ hx : 9 < rb.length, rb[9]'hx = w1 := by rw [hrb]; exact fun _ => rfl
  have ga10 : ∀ hx : 10 < ra.length, ra[10]'hx = v2 := by rw [hra]; exact fun _ => rfl
  have gb10 : ∀ hx : 10 < rb.length, rb[10]'hx = w2 := by rw [hrb]; exact fun _ => rfl
  have ga11 : ∀ hx : 11 < ra.length, ra[11]'hx = v3 := by rw [hra]; exact fun _ => rfl
  have gb11 : ∀ hx : 11 < rb.length, rb[11]'hx = w3 := by rw [hrb]; exact fun _ => rfl
  have ga12 : ∀ hx : 12 < ra.length, ra[12]'hx = .v (.int .u8 a.ready) := by rw [hra]; exact fun _ => rfl
  have gb12 : ∀ hx : 12 < rb.length, rb[12]'hx = .v (.int .u8 b.ready) := by rw [hrb]; exact fun _ => rfl
  have ua : ra.map AV.unown = ra := by rw [hra]; simp [resC, u1, u2, u3]
  have ub : rb.map AV.unown = rb := by rw [hrb]; simp [resC, x1, x2, x3]
  rw [← hra, ← hrb]
  refine contract_of k38 mixed (by simp [c38]) fun hh hargs => ?_
  simp at hargs
  have hl2 := ltLL_mono (Nat.le_add_right h.length 2) hh
  have hla : ltL (h.length + 2) ra := ltL_mono (Nat.le_add_right _ _) hargs.1
  have hlb : ltL (h.length + 2) rb := ltL_mono (Nat.le_add_right _ _) hargs.2
  rw [rs_eq]
  simp [c38, e1, e2, ga0, gb0, ua, ub, hla, hlb]
  cases s1 : a.show_ == b.show_ with
  | false => simp [hh, hl2, hla, hlb, leqH_take]
  | true =>
  simp [e1, e2, ga12, gb12]
  cases s2 : a.ready == b.ready with
  | false => simp [hh, hl2, hla, hlb, leqH_take]
  | true =>
  simp [e1, e2, ua, ub, aN, bN]
  refine xcall_self (by simp) (rsame21_c a.name b.name q1 p1 _) ?_
  cases s3 : decide (a.name = b.name) with
  | false => simp [hh, hl2, hla, hlb, leqH_take]
  | true =>
  simp [e1, e2, ga9, gb9, i1, j1, u1, x1]
  refine xall hv1' hw1' q2 q3 p3 ?_
  cases s4 : decide (a.ended = b.ended) with
  | false => simp [hh, hl2, hla, hlb, leqH_take]
  | true =>
  simp [e1, e2, ga10, gb10, i2, j2, u2, x2]
  refine xall hv2' hw2' q4 q5 p5 ?_
  cases s5 : decide (a.failed = b.failed) with
  | false => simp [hh, hl2, hla, hlb, leqH_take]
  | true =>
  simp [e1, e2, ga11, gb11, i3, j3, u3, x3]
  refine xall hv3' hw3' q6 q7 p7 ?_
  simp [hh, hl2, hla, hlb, leqH_take]
  trace_state
  done
end
/-! ### Few replies -/
theorem bkC_ll (n : Nat) : ∀ l : List Bk, ltLL n (enc bkC l)
  | [] => trivial
  | d :: l => ⟨by simp [bkC], bkC_ll n l⟩
def fewB (l : List Bk) : Bool := decide (l.length ≤ 40) && l.all plainBW
theorem fewB_len {l : List Bk} (h : fewB l = true) : l.length ≤ 40 := by
  unfold fewB at h
  rw [Bool.and_eq_true] at h
  exact of_decide_eq_true h.1
theorem few22_c (l : List Bk) (h : List (List AV)) : Contract Try.prog 32 [.sl 11 (enc bkC l) none .no] h (.v (.bool (fewB l))) h [] := by
  refine contract_of k32 mixed (by simp [c32]) fun hh hargs => ?_
  simp [c32]
  refine xloop_ok (D := Nat) (fun j => ⟨[(5, .sl 11 (enc bkC l) none .no), (6, .v (.int .i64 l.length)), (7, .v (.int .i64 j))], [], h, []⟩) (fun j => j ≤ l.length ∧ j ≤ 40 ∧ ∀ d ∈ l.take j, plainBW d = true) (fun j => l.length - j) 0 ⟨by omega, by omega, by simp⟩ ?_ ?_
  · simp [Leq, hh, leqH_take, bkC_ll]
    done
  · rintro j ⟨hj, hj40, hp⟩
    by_cases hlt : j < l.length
    · have hw : IntKind.i64.wrap ((j : Int) + 1) = (j : Int) + 1 := wrap64 (by omega) (by omega)
      by_cases h40 : j = 40
      · subst h40
        have hF : fewB l = false := by unfold fewB; rw [decide_eq_false (by omega)]; rfl
        have hlt4 : (40 : Int) < l.length := by omega
        simp [hlt, hlt4, hF, hh, leqH_take]
        done
      · have h41 : ¬ (40 : Int) ≤ j := by omega
        simp [hlt, h41]
        refine xcall_self (by simp) (bplainw_c l[j] _) ?_
        cases hE : plainBW l[j] with
        | false =>
          have hF : fewB l = false := by
            cases hx : fewB l with
            | false => rfl
            | true =>
              unfold fewB at hx
              rw [Bool.and_eq_true] at hx
              have := List.all_eq_true.1 hx.2 _ (List.getElem_mem hlt)
              rw [hE] at this; cases this
          simp [hF, hh, leqH_take]
          done
        | true =>
          simp [hw]
          refine ⟨j + 1, ⟨by omega, by omega, fun d hd => ?_⟩, by omega, ?_⟩
          · rw [List.take_succ_eq_append_getElem hlt] at hd
            rcases List.mem_append.1 hd with hd | hd
            · exact hp d hd
            · rw [List.mem_singleton.1 hd]; exact hE
          · simp [Leq, hh, leqH_take, bkC_ll]
            done
    · have : j = l.length := by omega
      subst this
      have hF : fewB l = true := by
        unfold fewB
        rw [decide_eq_true (by omega)]
        rw [List.take_length] at hp
        rw [Bool.true_and]
        exact List.all_eq_true.2 hp
      simp [hF, hh]
      done
/-! ### A fault drops what is behind -/
def fE : Bk := ⟨69, 0, [], [], [], 0, 0, [], [], [], []⟩
theorem take_got {h : List (List AV)} {most : Nat} (l : List En) (hne : l ≠ []) (n : Nat) (more : List (List AV)) : List.take h.length (qH (pushH (h ++ [qC none 0 most]) h.length none most [] l) h.length (some (h.length + 1, 0)) n l.length most ++ more) = h := by
  have hpl := pushH_len (h ++ [qC none 0 most]) h.length none most [] l
  simp at hpl
  exact take_of (by rw [qH_len]; omega) (fun q hq => by rw [qH_get (by omega), qmade_get l hq]) more
theorem awake22_c (h : List (List AV)) : Contract Try.prog 33 [] h (.v (.bool true)) h [] := by
  refine contract_of k33 mixed (by simp [c33]) fun hh hargs => ?_
  obtain ⟨l, hl⟩ : ∃ l, l = [aE 2, aE 3, aE 8] := ⟨_, rfl⟩
  have hfit : ∀ e ∈ l, EnFit e := by rw [hl]; intro e he; simp at he; rcases he with rfl | rfl | rfl <;> exact aE_fit _
  have hlen : l.length = 3 := by rw [hl]; rfl
  have hne : l ≠ [] := by rw [hl]; simp
  have t1 := newQ_at hh 4
  have t2 := qmade_at hh 4 l hne
  have hp := qpush_c t1 l hfit (by omega) (by omega) (by simp [hlen])
  have haw : apWr none l [] = [] := by unfold apWr; split <;> rfl
  rw [haw] at hp
  have htk := fun n more => take_got (h := h) (most := 4) l hne n more
  have hpl := pushH_len (h ++ [qC none 0 4]) h.length none 4 [] l
  simp at hpl
  have hn : Contract Try.prog 11 [.v (.int .i64 4)] h (.tup [.box h.length 0, .v (.int .i64 0)]) (h ++ [qC none 0 4]) [] := qnew_c (most := 4) (by omega) (by omega) h
  generalize pushH (h ++ [qC none 0 4]) h.length none 4 [] l = H2 at *
  obtain ⟨v1, v2, v3, wr, hg, hwr, ev1, ev2, ev3, of1, of2, of3⟩ := mgot_c t2 (by omega) hfit fE
  have hG : gotR l fE.kind fE.status = (0, ⟨true, aE 2, [], [aE 2], [aE 3], 0⟩, [aE 8]) := by rw [hl]; decide +kernel
  have hK : gotK l fE.kind = 2 := by rw [hl]; decide +kernel
  have t3 := t2.cut 2 (by omega)
  change QAt (qH H2 h.length (some (h.length + 1, 0)) 2 l.length 4) _ _ _ _ at t3
  have hd : l.drop 2 = [aE 8] := by rw [hl]; rfl
  rw [hd] at t3
  rw [hG, hK] at hg ev1 ev2 ev3
  dsimp only at hg ev1 ev2 ev3
  have htk2 := htk 2
  have hl3 := qH_len H2 h.length (some (h.length + 1, 0)) 2 l.length 4
  generalize qH H2 h.length (some (h.length + 1, 0)) 2 l.length 4 = H3 at *
  have i1 := ev1.id
  have i2 := ev2.id
  have i3 := ev3.id
  have n1 := ev1.len
  have n2 := ev2.len
  have n3 := ev3.len
  have u1 := ev1.unown
  have u2 := ev2.unown
  have u3 := ev3.unown
  have t4 := t3.app [resC true (aE 2) v1 v2 v3 0] (by simp [resC]; exact ⟨ev1.lt (by omega), ev2.lt (by omega), ev3.lt (by omega)⟩)
  have hle := qlen_c t4
  have hlt3 := t3.lt
  simp only [resC] at hg hle t4
  simp [c33]
  refine xcall_self (by simp) hn ?_
  simp
  refine xcall_of hp (by simp [hl, aE, zE, enC_mk]) (by simp) ?_
  simp
  refine xcall_of hg (by simp [bkC, fE]) (by simp) ?_
  simp [i1, i2, i3, n1, n2, n3, u1, u2, u3, -vLenL]
  refine xcall_self (by simp) hle ?_
  simp [hh, htk2]
  refine ⟨by omega, by omega, fun a ha => ?_⟩
  rcases ha with ha | ha
  · have := hwr a ha; omega
  · omega
end Go.Proofs.Ytpogpofmakcodaa.Ax
/- Layer 22's statement: a server's replies and the document's, side by side, over values without memory. -/
namespace Go.Proofs.Ytpogpofmakcodaa.Ax
open Go.RowKit Go By
set_option linter.unusedSimpArgs false
set_option linter.unusedVariables false
set_option maxRecDepth 10000

theorem gotR_fit (L : List En) (k st : Int) (hl : L.length ≤ 1000) (hf : ∀ e ∈ L, EnFit e) : RsFit (gotR L k st).2.1 := by
  have hz : EnFit zE := by simp [EnFit, zE]
  have hzr : RsFit zRs := ⟨hz, by simp [zRs], by simp [zRs], by simp [zRs], by simp [zRs], by simp [zRs], by simp [zRs]⟩
  cases L with
  | nil => exact hzr
  | cons e l =>
    have he : EnFit e := hf e (by simp)
    have hfl : ∀ x ∈ l, EnFit x := fun x hx => hf x (List.mem_cons_of_mem _ hx)
    have hll : l.length ≤ 1000 := by simp at hl; omega
    unfold gotR
    dsimp only
    by_cases h1 : takesB e.kind k = false
    · rw [if_pos h1]; exact hzr
    rw [if_neg h1]
    by_cases h2 : endsB e.kind k = true
    · rw [if_pos h2]
      refine ⟨he, ?_, fun x hx => ?_, by simp, by simp, by simp, by simp⟩
      · show (e :: l.take (flN l)).length ≤ _; rw [List.length_cons, List.length_take]; omega
      · rcases List.mem_cons.1 hx with rfl | hx
        · exact he
        · exact hfl x (List.mem_of_mem_take hx)
    rw [if_neg h2]
    by_cases h3 : failsB e.kind k = true
    · rw [if_pos h3]
      refine ⟨?_, ?_, fun x hx => ?_, by simp, fun x hx => ?_, ?_, fun x hx => ?_⟩
      · show EnFit (if sw l e k = true then l.headD zE else e)
        split
        · cases l with
          | nil => exact hz
          | cons y l => exact hfl y (by simp)
        · exact he
      · show ((l.drop (skN l)).take (flN (l.drop (skN l)))).length ≤ _; rw [List.length_take, List.length_drop]; omega
      · exact hfl x (List.mem_of_mem_drop (List.mem_of_mem_take hx))
      · rw [List.mem_singleton.1 hx]; exact he
      · show (l.take (skN l)).length ≤ _; rw [List.length_take]; omega
      · exact hfl x (List.mem_of_mem_take hx)
    rw [if_neg h3]
    exact ⟨he, by simp, by simp, by simp, by simp, by simp, by simp⟩
section
variable {H : List (List AV)} {o o2 : Option (Nat × Nat)} {most : Nat} {L : List En}
theorem two_flush (ht : Two H o o2 most L) (hm2 : most ≤ 1000) :
    ∃ H1 H2 o' o2', Contract Try.prog 34 [.box 0 0] H (.sl 8 (enc enC (L.take (flN L))) none .no) H1 [0] ∧ Contract Try.prog 35 [.box 1 0] H1 (.sl 8 (enc enC (L.take (flN L))) none .no) H2 [1] ∧
      Two H2 o' o2' most (L.drop (flN L)) ∧ H.length ≤ H2.length := by
  have hlen := ht.len
  have c1 := mflush_c ht.q (by omega) ht.fit
  have q1 := qH_cut ht.q (flN L) (flN_le L)
  have hl1 := qH_len H 0 o (flN L) L.length most
  have hg1 := fun q (hq : q ≠ 0) => qH_get (h := H) (i := 0) (o := o) (n := flN L) (len := L.length) (most := most) hq
  generalize qH H 0 o (flN L) L.length most = H1 at *
  have x1 : QAt H1 1 o2 most L := ht.x.move (hg1 1 (by omega)) (fun p hp => hg1 p.1 (by have := ht.b p hp; omega)) q1.lt
  obtain ⟨H2, o2', c2, x2, l2, g2, b2⟩ := rflush_c x1 (by omega)
  have hcut : ∀ p, cutO o (flN L) = some p → ∃ p0, o = some p0 ∧ p.1 = p0.1 := fun p hp => cutO_fst hp
  have hbl : ∀ p, o = some p → p.1 < H.length := fun p hp => ht.q.bl hp
  refine ⟨H1, H2, cutO o (flN L), o2', c1, c2, ⟨?_, x2, fun p hp => ?_, fun p hp => ?_, fun p p2 hp hp2 => ?_, by rw [List.length_drop]; omega, fun e he => ht.fit e (List.mem_of_mem_drop he)⟩, by omega⟩
  · refine q1.move (g2 0 (q1.il) (by omega)) (fun p hp => ?_) x2.lt
    obtain ⟨p0, h1, h2⟩ := hcut p hp
    have h3 := hbl p0 h1
    have h4 := ht.a p0 h1
    exact g2 p.1 (by omega) (by omega)
  · obtain ⟨p0, h1, h2⟩ := hcut p hp
    rw [h2]; exact ht.a p0 h1
  · rcases b2 p hp with h1 | h1
    · exact ht.b p h1
    · have := q1.il
      have := x1.il
      omega
  · obtain ⟨p0, h1, h2⟩ := hcut p hp
    rcases b2 p2 hp2 with h3 | h3
    · rw [h2]; exact ht.ap p0 p2 h1 h3
    · have := hbl p0 h1; omega
theorem two_got (ht : Two H o o2 most L) (hm2 : most ≤ 1000) (b : Bk) (hb0 : 0 ≤ b.kind) (hb1 : b.kind < 256) :
    ∃ H1 H2 o' o2' v1 v2 v3 w1 w2 w3 g r wr wr2, Contract Try.prog 36 [.box 0 0, .agg (bkC b)] H (.tup [.agg (resC r.show_ r.name v1 v2 v3 r.ready), .v (.int .i64 g)]) H1 wr ∧
      Contract Try.prog 37 [.box 1 0, .agg (bkC b)] (H1 ++ [resC r.show_ r.name v1 v2 v3 r.ready]) (.tup [.agg (resC r.show_ r.name w1 w2 w3 r.ready), .v (.int .i64 g)]) H2 wr2 ∧
      Two H2 o' o2' most (L.drop (gotK L b.kind)) ∧ (∀ q ∈ wr, q = 0) ∧ (∀ q ∈ wr2, q = 1) ∧ RsFit r ∧
      EAt H2 v1 r.ended ∧ EAt H2 v2 r.failed ∧ EAt H2 v3 r.dropped ∧ EAt H2 w1 r.ended ∧ EAt H2 w2 r.failed ∧ EAt H2 w3 r.dropped ∧
      H1.length = H.length ∧ H.length + 1 ≤ H2.length ∧ (∀ q, q < H.length → q ≠ 0 → q ≠ 1 → H2[q]? = H[q]?) ∧ H2[H.length]? = some (resC r.show_ r.name v1 v2 v3 r.ready) ∧ (∀ q, q ≠ 0 → H1[q]? = H[q]?) ∧ EAt H1 v1 r.ended ∧ EAt H1 v2 r.failed ∧ EAt H1 v3 r.dropped := by
  have hlen := ht.len
  have hrf := gotR_fit L b.kind b.status (by omega) ht.fit
  obtain ⟨v1, v2, v3, wr, c1, hwr, ev1, ev2, ev3, of1, of2, of3⟩ := mgot_c ht.q (by omega) ht.fit b
  have hK := gotK_le L b.kind
  have q1 := qH_cut ht.q (gotK L b.kind) hK
  have hl1 := qH_len H 0 o (gotK L b.kind) L.length most
  have hg1 := fun q (hq : q ≠ 0) => qH_get (h := H) (i := 0) (o := o) (n := gotK L b.kind) (len := L.length) (most := most) hq
  generalize qH H 0 o (gotK L b.kind) L.length most = H1 at *
  have x1 : QAt H1 1 o2 most L := ht.x.move (hg1 1 (by omega)) (fun p hp => hg1 p.1 (by have := ht.b p hp; omega)) q1.lt
  obtain ⟨R, hR⟩ : ∃ R, R = resC (gotR L b.kind b.status).2.1.show_ (gotR L b.kind b.status).2.1.name v1 v2 v3 (gotR L b.kind b.status).2.1.ready := ⟨_, rfl⟩
  have hRl : ltLL (H1.length + 1) [R] := by
    rw [hR]; simp [resC]
    exact ⟨ev1.lt (by omega), ev2.lt (by omega), ev3.lt (by omega)⟩
  have x2 := x1.app [R] hRl
  obtain ⟨H2, o2', w1, w2, w3, wr2, c2, hwr2, fw1, fw2, fw3, x3, l3, g3, b3⟩ := rgot_c x2 (by omega) b hb0 hb1
  have hcut : ∀ p, cutO o (gotK L b.kind) = some p → ∃ p0, o = some p0 ∧ p.1 = p0.1 := fun p hp => cutO_fst hp
  have hbl : ∀ p, o = some p → p.1 < H.length := fun p hp => ht.q.bl hp
  have hAl : (H1 ++ [R]).length = H.length + 1 := by simp; omega
  have hst : ∀ q, q < H.length → q ≠ 1 → H2[q]? = H1[q]? := fun q h1 h2 => by rw [g3 q (by omega) h2, List.getElem?_append_left (by omega)]
  have keep : ∀ v M, EAt H1 v M → OfO o v → EAt H2 v M := fun v M hv ho => hv.stay fun bb off e => by
    obtain ⟨p, h1, h2⟩ := ho _ _ _ _ e
    have h3 := hbl p h1
    have h4 := ht.a p h1
    exact hst bb (by omega) (by omega)
  refine ⟨H1, H2, cutO o (gotK L b.kind), o2', v1, v2, v3, w1, w2, w3, _, _, wr, wr2, c1, by rw [← hR]; exact c2, ⟨?_, x3, fun p hp => ?_, fun p hp => ?_, fun p p2 hp hp2 => ?_, by rw [List.length_drop]; omega, fun e he => ht.fit e (List.mem_of_mem_drop he)⟩, hwr, hwr2, hrf,
    keep _ _ ev1 of1, keep _ _ ev2 of2, keep _ _ ev3 of3, fw1, fw2, fw3, hl1, by omega, fun q h1 h2 h3 => ?_, ?_, hg1, ev1, ev2, ev3⟩
  · refine q1.move (hst 0 ht.q.il (by omega)) (fun p hp => ?_) x3.lt
    obtain ⟨p0, h1, h2⟩ := hcut p hp
    have h3 := hbl p0 h1
    have h4 := ht.a p0 h1
    exact hst p.1 (by omega) (by omega)
  · obtain ⟨p0, h1, h2⟩ := hcut p hp
    rw [h2]; exact ht.a p0 h1
  · rcases b3 p hp with h1 | h1
    · exact ht.b p h1
    · have := q1.il
      have := x1.il
      omega
  · obtain ⟨p0, h1, h2⟩ := hcut p hp
    rcases b3 p2 hp2 with h3 | h3
    · rw [h2]; exact ht.ap p0 p2 h1 h3
    · have := hbl p0 h1; omega
  · rw [hst q h1 h3, hg1 q h2]
  · have hil := ht.x.il
    rw [g3 H.length (by omega) (by omega), ← hR, ← hl1]; simp
end
structure ML where
  H : List (List AV)
  o : Option (Nat × Nat)
  o2 : Option (Nat × Nat)
  L : List En
  j : Nat
structure ML.Ok (n : Nat) (d : ML) : Prop where
  le : d.j ≤ n
  two : Two d.H d.o d.o2 60 d.L
set_option maxHeartbeats 4000000 in
theorem mgets_c (l : List En) (bs : List Bk) (hbk : ∀ b ∈ bs, 0 ≤ b.kind ∧ b.kind < 256) : Contract Try.prog 7 [.sl 8 (enc enC l) none .no, .sl 11 (enc bkC bs) none .no] [] (.v (.bool true)) [] [] := by
  refine contract_of k7 mixed (by simp [c7]) fun hh hargs => ?_
  have hcast : ((30 : Nat) : Int) = 30 := rfl
  have hent := entries_n l 30 (by omega) []
  rw [hcast] at hent
  simp [c7]
  refine xcall_self (by simp) hent ?_
  cases hF : fewEL l 30 with
  | false =>
    simp
    refine xcall_self (by simp) (awake22_c _) ?_
    simp
    done
  | true =>
  obtain ⟨hl30, hfit⟩ := fewEL_iff hF
  simp
  refine xcall_self (by simp) (few22_c bs _) ?_
  cases hB : fewB bs with
  | false =>
    simp
    refine xcall_self (by simp) (awake22_c _) ?_
    simp
    done
  | true =>
  have hb40 := fewB_len hB
  have hn1 : Contract Try.prog 11 [.v (.int .i64 60)] [] (.tup [.box 0 0, .v (.int .i64 0)]) [qC none 0 60] [] := qnew_c (most := 60) (by omega) (by omega) []
  have hn2 : Contract Try.prog 12 [.v (.int .i64 60)] [qC none 0 60] (.tup [.box 1 0, .v (.int .i64 0)]) [qC none 0 60, qC none 0 60] [] := rqnew_c (most := 60) (by omega) (by omega) [qC none 0 60]
  have q0 : QAt [qC none 0 60] 0 none 60 [] := newQ_at (h := []) (by simp) 60
  have q1 : QAt [qC none 0 60, qC none 0 60] 0 none 60 [] := q0.app [qC none 0 60] (by simp [qC, qV])
  have x1 : QAt [qC none 0 60, qC none 0 60] 1 none 60 [] := newQ_at (h := [qC none 0 60]) q0.lt 60
  have t0 : Two [qC none 0 60, qC none 0 60] none none 60 [] := ⟨q1, x1, fun p hp => (by cases hp), fun p hp => (by cases hp), fun p p2 hp => (by cases hp), by simp, fun e he => by cases he⟩
  obtain ⟨H1, H2, o1, o2, L1, n, wr1, wr2, k1, k2, t1, hwr1, hwr2, hl2⟩ := two_push t0 l hfit (by omega) (by omega)
  obtain ⟨H3, H4, o3, o4, f1, f2, t2, hl4⟩ := two_flush t1 (by omega)
  have hfl : ∀ h, Contract Try.prog 20 [.sl 8 (enc enC (L1.take (flN L1))) none .no, .sl 8 (enc enC (L1.take (flN L1))) none .no] h (.v (.bool (decide (L1.take (flN L1) = L1.take (flN L1))))) h [] := fun h => rall_c _ _ (by rw [List.length_take]; have := t1.len; omega) (fun e he => t1.fit e (List.mem_of_mem_take he)) (fun e he => t1.fit e (List.mem_of_mem_take he)) h
  rw [decide_eq_true rfl] at hfl
  have hlt4 := t2.q.lt
  have hil4 := t2.q.il
  have hix4 := t2.x.il
  simp
  refine xcall_self (by simp) hn1 ?_
  simp
  refine xcall_self (by simp) hn2 ?_
  simp
  refine xcall_self (by simp) k1 ?_
  simp
  refine xcall_self (by simp) k2 ?_
  simp
  refine xcall_self (by simp) f1 ?_
  simp
  refine xcall_self (by simp) f2 ?_
  simp
  refine xcall_self (by simp) (hfl _) ?_
  simp
  refine xloop_ok (D := ML) (fun d => ⟨[(5, .box 0 0), (7, .box 1 0), (57, .sl 11 (enc bkC bs) none .no), (58, .v (.int .i64 bs.length)), (59, .v (.int .i64 d.j))], [], d.H, []⟩) (ML.Ok bs.length) (fun d => bs.length - d.j) ⟨H4, o3, o4, L1.drop (flN L1), 0⟩ ⟨Nat.zero_le _, t2⟩ ?_ ?_
  · simp [Leq, hlt4, hil4, hix4, leqH_take, bkC_ll]
    trace_state
    done
  · rintro ⟨H, o, o2, L, j⟩ ⟨hj, ht⟩
    dsimp only at hj ht
    have hlt := ht.q.lt
    have hil := ht.q.il
    have hix := ht.x.il
    by_cases hjl : j < bs.length
    · have hw : IntKind.i64.wrap ((j : Int) + 1) = (j : Int) + 1 := wrap64 (by omega) (by omega)
      have hnext : j + 1 ≤ bs.length := hjl
      have hmu : bs.length - (j + 1) < bs.length - j := by omega
      obtain ⟨hb0, hb1⟩ := hbk bs[j] (List.getElem_mem hjl)
      have tA := ht.app [bkC bs[j]] (by simp [bkC])
      obtain ⟨H1, H2, o', o2', v1, v2, v3, w1, w2, w3, g, r, wr, wr2, c1, c2, t2, hwr, hwr2, hrf, ev1, ev2, ev3, fw1, fw2, fw3, hl1, hl2, hg2, hR2, hg1, e1, e2, e3⟩ := two_got tA (by omega) bs[j] hb0 hb1
      have hAl : (H ++ [bkC bs[j]]).length = H.length + 1 := by simp
      rw [hAl] at hl1 hl2 hg2 hR2
      obtain ⟨R, hR⟩ : ∃ R, R = resC r.show_ r.name v1 v2 v3 r.ready := ⟨_, rfl⟩
      obtain ⟨R', hR'⟩ : ∃ R', R' = resC r.show_ r.name w1 w2 w3 r.ready := ⟨_, rfl⟩
      rw [← hR] at c1 c2 hR2
      rw [← hR'] at c2
      have hk1 : H1[H.length]? = some (bkC bs[j]) := by rw [hg1 _ (by omega)]; simp
      have hk2 : H2[H.length]? = some (bkC bs[j]) := by rw [hg2 _ (by omega) (by omega) (by omega)]; simp
      have hka : (H1 ++ [R])[H.length]? = some (bkC bs[j]) := by rw [List.getElem?_append_left (by omega)]; exact hk1
      have hkR : (H2 ++ [R'])[H1.length]? = some R := by rw [List.getElem?_append_left (by omega), hl1]; exact hR2
      have hkR' : (H2 ++ [R'])[H2.length]? = some R' := by simp
      have e13 : R.length = 13 := by rw [hR]; rfl
      have e13' : R'.length = 13 := by rw [hR']; rfl
      have uR : R.map AV.unown = R := by rw [hR]; simp [resC, e1.unown, e2.unown, e3.unown]
      have uR' : R'.map AV.unown = R' := by rw [hR']; simp [resC, fw1.unown, fw2.unown, fw3.unown]
      have tB := t2.app [R'] (by rw [hR']; simp [resC]; exact ⟨fw1.lt (by omega), fw2.lt (by omega), fw3.lt (by omega)⟩)
      have hsm : Contract Try.prog 38 [.agg R, .agg R'] (H2 ++ [R']) (.v (.bool (decide (r = r)))) (H2 ++ [R']) [] := by rw [hR]; rw [hR'] at *; exact same22_c r r hrf hrf (ev1.app _) (ev2.app _) (ev3.app _) (fw1.app _) (fw2.app _) (fw3.app _)
      rw [decide_eq_true rfl] at hsm
      have hlist := qlist_c tB.q (by have := tB.len; omega) tB.fit
      have heat := tB.x.eat
      have hxt := tB.x.top
      have hBl := tB.q.lt
      have hB0 := tB.q.il
      have hB1 := tB.x.il
      have hLm := tB.len
      have hxi := qV_id o2' (L.drop (gotK L bs[j].kind)).length
      have hxu := qV_unown o2' (L.drop (gotK L bs[j].kind)).length
      simp only [qC] at hxt
      have hfitL := tB.fit
      generalize L.drop (gotK L bs[j].kind) = L' at *
      have hbn : (g != g) = false := bne_self_eq_false g
      simp [hjl]
      refine xcall_self (by simp) c1 ?_
      simp [uR, e13, hka]
      refine xcall_self (by simp) c2 ?_
      have htR : R.take 13 = R := List.take_of_length_le (by omega)
      have htR' : R'.take 13 = R' := List.take_of_length_le (by omega)
      simp [uR', e13', hbn, hkR, hkR', uR, e13, htR, htR']
      refine xcall_self (by simp) hsm ?_
      simp [-vLenL, hxt, hxi, hxu]
      refine xcall_self (by simp) hlist ?_
      simp [-vLenL]
      refine xall (EAt.sl _ _) heat (by omega) hfitL hfitL ?_
      simp [-vLenL, hw]
      refine ⟨⟨_, o', o2', L', j + 1⟩, ⟨hnext, tB⟩, hmu, ?_⟩
      simp at hBl hB0 hB1
      simp [Leq, hBl, hB0, hB1, leqH_take, bkC_ll]
      trace_state
      done
    · have : j = bs.length := by omega
      subst this
      simp
      refine xcall_self (by simp) (awake22_c _) ?_
      simp [hlt]
      trace_state
      done
theorem mgets_l (l : List En) (bs : List Bk) (h : bs.length ≤ maxLen ∧ ∀ x ∈ bs, OkBk x) : Contract Try.prog 7 [.sl 8 (enc enC l) none .no, .sl 11 (enc bkC bs) none .no] [] (.v (.bool true)) [] [] := mgets_c l bs fun b hb => (h.2 b hb).1
end Go.Proofs.Ytpogpofmakcodaa.Ax
namespace Go.Proofs.Ytpogpofmakcodaa.matchGets
open Go.ChangeShapes Go.WideShapes Go.ChangeAt Go.RowKit
open Go.ChangeMaps (open_string shut_string)
set_option linter.unusedVariables false

theorem own : ownKnob Try.prog.godebug = none := by kernel_rfl
theorem laidOut : laidOutB Try.prog = true := by kernel_rfl

set_option maxRecDepth 100000 in
theorem lifted (os : Os) (started : os.Started) (H : Type) (enc : TypeId × Value → H) :
    ReturnsInHanded {} Try.checked os 7 .any (Rows.matchGetsSpec.pre6 enc Try.prog Try.f7 Rows.matchGetsRow.domain false) (Rows.matchGetsSpec.post enc Try.prog Try.f7 false true false false) := by
  refine returnsInHanded_of_change (C := Try.checked) own started (by kernel_rfl) Try.func7
    (ChangeSpec.witness6 (enc := enc) (C := Try.checked) false ⟨#[], #[.slice none 0 0, .slice none 0 0], []⟩ 8 (by kernel_rfl) (by kernel_rfl) (by kernel_rfl) (by kernel_rfl)) ?_
  intro W base args ds gs before hval0 hW hcnd _
  have hval : ∀ (j : Nat) t v, Try.f7.params[j]? = some t → args[j]? = some v → Value.okWide Try.prog W .any base t v := hval0
  have hW' := hW
  obtain ⟨p, q, hA0, hV, rfl, hfz, hnd⟩ := hW
  have hA : DataW.TrodAll enc Try.prog W 0 (fun _ => true) true Try.f7.params.toList args.toList ds p := hA0
  rw [Try.params7] at hA hval
  obtain ⟨v0, vs0, d0, ds0, p0, q0, hargs, rfl, rfl, h0, r0⟩ := trodAll_cons hA
  obtain ⟨v1, vs1, d1, ds1, p1, q1, rfl, rfl, rfl, h1, r1⟩ := trodAll_cons r0
  obtain ⟨rfl, rfl, rfl⟩ := trodAll_nil r1
  obtain rfl : args = #[v0, v1] := by cases args; simp_all
  obtain ⟨rfl, rfl⟩ := trodVars_none hV
  have k0 := h0
  have lt0 : ∀ x ∈ p0, x.block < W.heap.size := by obtain ⟨m, hm⟩ := k0; exact DataW.trod_lt m _ _ _ hm
  obtain ⟨a0, ok0, s0⟩ := Ax.arg_slice Try.underlying32 Ax.sh_enCL (hval 0 32 v0 rfl rfl) h0
  have k1 := h1
  have lt1 : ∀ x ∈ p1, x.block < W.heap.size := by obtain ⟨m, hm⟩ := k1; exact DataW.trod_lt m _ _ _ hm
  obtain ⟨a1, ok1, s1⟩ := Ax.arg_slice Try.underlying61 Ax.sh_bkCL (hval 1 61 v1 rfl rfl) h1
  clear hA0 hval0
  refine (Ax.law_walk (w := W) (Ax.dom_any W) (Ax.mgets_l a0 a1 ok1) (by simp) (.cons s0 (.cons s1 .nil))).mono fun e W' ⟨he, bel⟩ => ?_
  subst he
  exact ⟨_, rfl, _, _, _, [], _, [], hW', trodAll_mk1 (shut_bool Try.underlying4 _), (trodAll_cons_mk (Below.trod laidOut (by kernel_rfl) (of_decide_eq_true (by kernel_rfl)) k0 bel lt0) (trodAll_cons_mk (Below.trod laidOut (by kernel_rfl) (of_decide_eq_true (by kernel_rfl)) k1 bel lt1) trodAll_mk0)), rfl, bel.frame _, fun h => by cases h⟩

theorem over : Rows.matchGetsRow.holds Try.pinned (OpenSpec.ofChange Rows.matchGetsSpec) :=
  OpenClaim.holds_of_wide 7 Try.f7 rfl rfl rfl rfl rfl rfl rfl ⟨rfl, rfl, rfl, rfl, rfl⟩ rfl rfl rfl rfl rfl (by kernel_rfl) Try.func7 (by kernel_rfl)
    (of_decide_eq_true (by kernel_rfl)) (by unfold Func.isWrapper; first | (rw [if_pos (by decide +kernel)]; kernel_rfl) | (rw [if_neg (by decide +kernel)]; exact ⟨rfl, rfl⟩))
    (fun os started H enc _ => lifted os started H enc)

theorem proved : Rows.MatchGetsSaid := over
#print axioms proved
end Go.Proofs.Ytpogpofmakcodaa.matchGets
