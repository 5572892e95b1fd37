/- whatever message comes, back's Decode answers as the document's -/
import Derived.Test.YthilellmckhejaaGreatQAxBy
import Derived.Test.YthilellmckhejaaGreatRows
import Derived.Test.YthilellmckhejaaGreatQElems
import Derived.Test.YthilellmckhejaaGreatQAxX
import Derived.WalkKit
import Derived.ProofKit
import Derived.OpenShut
import Derived.ShutString
import Derived.ChangeOld
import Derived.Below
/- The statement of back there and back. -/
namespace Go.Proofs.YthilellmckhejaaGreat.Ax
open Go.RowKit Go By Nm Sc Dg
open He (textL)
set_option linter.unusedSimpArgs false
set_option linter.unusedVariables false
set_option maxRecDepth 10000

def awB : Bk := ⟨90, 73, [], [], [], 0, 0, [], [], [], []⟩
theorem awB_check : checkB awB = 0 := by decide
theorem awB_fit : BkFit awB := by unfold BkFit awB; simp
theorem awB_ok : BkOk awB := by unfold BkOk awB; simp
theorem awB_body : (bodyB awB).length ≤ 100000 := by decide
theorem awB_bytes : bytesB [awB] = [90, 0, 0, 0, 5, 73] := by decide
theorem bawake_c (h : List (List AV)) : Contract Tryz.prog 7 [] h (.v (.bool true)) h [] := by
  refine contract_of k7 mixed (by simp [c7]) fun hh hargs => ?_
  have e2 := dec_enc awB_check (by intro f hf; cases hf)
  simp [c7]
  refine xcall_of (bencode_c awB awB_fit awB_ok (Nat.le_trans awB_body (by omega)) _) (by simp [bkC_mk, awB, intC]) (by simp) ?_
  have e1 := encB_ok awB_check
  rw [e1] at e2 ⊢
  simp only at e2
  simp
  refine xcall_self (by simp) (bdecode_c ⟨awB.kind, bodyB awB⟩ (Nat.le_trans awB_body (by omega)) _) ?_
  rw [e2]
  have a1 : awB.status = 73 := rfl
  simp [a1]
  refine xcall_of (bbytes_c [awB] (by intro m hm; rw [List.mem_singleton.1 hm]; exact ⟨awB_fit, awB_ok, Nat.le_trans awB_body (by omega)⟩) (by rw [awB_bytes]; simp) (by simp) _) (by simp) (by simp) ?_
  rw [awB_bytes]
  simp
  refine xcall_of (equal_c [90, 0, 0, 0, 5, 73] [90, 0, 0, 0, 5, 73] _) (by simp) (by simp) ?_
  simp [hh]
theorem noBk_fit : BkFit noBk := by unfold BkFit noBk; simp
end Go.Proofs.YthilellmckhejaaGreat.Ax
/- The statement of back's messages as bytes. -/
namespace Go.Proofs.YthilellmckhejaaGreat.Ax
open Go.RowKit Go By Nm Sc Dg
open He (textL)
set_option linter.unusedSimpArgs false
set_option linter.unusedVariables false
set_option maxRecDepth 10000

theorem short_of_plainB {m : Bk} (h : plainB m = true) : BkShort m := by
  unfold plainB manyB longB at h
  simp only [Bool.and_eq_true, Bool.not_eq_true', Bool.or_eq_false_iff, decide_eq_false_iff_not, decide_eq_true_eq] at h
  obtain ⟨⟨h1, h2, h3, h4⟩, ⟨h5, h6, h7⟩, h8, h9, h10⟩ := h
  refine ⟨⟨by omega, by omega, by omega⟩, fun c hc => ?_, fun c hc => ?_⟩
  · have := List.any_eq_false.1 h5 c hc
    simp [longCo] at this; omega
  · have := List.any_eq_false.1 h7 c hc
    simp [longFi] at this; omega
theorem oneB_le {m : Bk} (h : (bodyB m).length ≤ 100000) : (oneB m).length ≤ 100005 := by
  unfold oneB
  split
  · have := numE_len 4 (((bodyB m).length : Int) + 4) (by omega)
    rw [List.length_cons, List.length_append]; omega
  · simp
theorem two_le {f g : Bk} (h1 : (bodyB f).length ≤ 100000) (h2 : (bodyB g).length ≤ 100000) : (bytesB [f, g]).length ≤ 200010 := by
  have a := oneB_le h1
  have b := oneB_le h2
  unfold bytesB
  rw [List.flatMap_cons, List.flatMap_cons, List.flatMap_nil, List.append_nil, List.length_append]
  omega
theorem bbytes2_c (f g : Bk) (hf : BkFit f ∧ BkOk f ∧ (bodyB f).length ≤ 100000) (hg : BkFit g ∧ BkOk g ∧ (bodyB g).length ≤ 100000) (h : List (List AV)) : Contract Tryz.prog 15 [.sl 11 [bkC f, bkC g] none .no] h (.sl 1 (bytesE (bytesB [f, g])) none (.own .res)) h [] := by
  have h3 := two_le hf.2.2 hg.2.2
  have := bbytes_c [f, g] (fun m hm => by
    rcases List.mem_cons.1 hm with rfl | hm
    · exact ⟨hf.1, hf.2.1, by omega⟩
    · rw [List.mem_singleton.1 hm]; exact ⟨hg.1, hg.2.1, by omega⟩) (by omega) (by simp) h
  simpa using this
theorem rbbytes2_c (f g : Bk) (hf : BkFit f ∧ BkOk f ∧ (bodyB f).length ≤ 100000) (sf : BkShort f) (hg : BkFit g ∧ BkOk g ∧ (bodyB g).length ≤ 100000) (sg : BkShort g) (h : List (List AV)) : Contract Tryz.prog 16 [.sl 11 [bkC f, bkC g] none .no] h (.sl 1 (bytesE (bytesB [f, g])) none (.own .res)) h [] := by
  have h3 := two_le hf.2.2 hg.2.2
  have := rbbytes_c [f, g] (fun m hm => by
    rcases List.mem_cons.1 hm with rfl | hm
    · exact ⟨hf.1, sf, hf.2.1, by omega⟩
    · rw [List.mem_singleton.1 hm]; exact ⟨hg.1, sg, hg.2.1, by omega⟩) (by omega) (by simp) h
  simpa using this
theorem two_lay (z : List AV) (f g : Bk) (hz : z.length = 22) : lay (lay z 0 (bkC f)) 11 (bkC g) = bkC f ++ bkC g := by
  apply List.ext_getElem?
  intro j
  have l1 : (lay z 0 (bkC f)).length = 22 := by rw [lay_length, hz]
  rw [lay_get (bkC g) (lay z 0 (bkC f)) 11 j (by rw [l1]; simp), lay_get (bkC f) z 0 j (by rw [hz]; simp)]
  simp only [bkC_len]
  by_cases h1 : j < 11
  · rw [if_neg (by omega), if_pos (by omega), List.getElem?_append_left (by simpa using h1), Nat.sub_zero]
  · rw [List.getElem?_append_right (by simpa using h1), bkC_len]
    by_cases h2 : j < 22
    · rw [if_pos (by omega)]
    · rw [if_neg (by omega), if_neg (by omega), List.getElem?_eq_none (by omega), List.getElem?_eq_none (by simp; omega)]
theorem two_len (z : List AV) (f : Bk) (hz : z.length = 22) : (lay z 0 (bkC f)).length = 22 := by rw [lay_length, hz]
theorem two_chunk (f g : Bk) : chunk 11 2 (bkC f ++ bkC g) = [bkC f, bkC g] := by
  have e1 : List.take 11 (bkC f ++ bkC g) = bkC f := List.take_left' (by simp)
  have e2 : List.drop 11 (bkC f ++ bkC g) = bkC g := List.drop_left' (by simp)
  rw [r_chunk_succ, e1, e2, r_chunk_one, bkC_take]
theorem bencodes_c (f g : Bk) (hf : OkBk f) (hg : OkBk g) : Contract Tryz.prog 3 [.agg (bkC f), .agg (bkC g)] [] (.v (.bool true)) [] [] := by
  refine contract_cut (XCode.cuts [false, true, true, true] c3.code) k3 rfl mixed (by simp [c3]) fun hh hargs => ?_
  simp [c3]
  by_cases hp : plainB f = true ∧ plainB g = true
  · obtain ⟨pf, pg⟩ := hp
    have hfi : ∀ x ∈ f.fields, FiOk x := fun x hx => (hf.2.2.2.2.2.2.2.2.2.2.2 x hx).1
    have hgi : ∀ x ∈ g.fields, FiOk x := fun x hx => (hg.2.2.2.2.2.2.2.2.2.2.2 x hx).1
    have Q := fit_of_plainB hf.2.1 hfi pf
    have R := fit_of_plainB hg.2.1 hgi pg
    have sf := short_of_plainB pf
    have sg := short_of_plainB pg
    have B1 := fun h => bbytes2_c f g Q R h
    have B2 := fun h => rbbytes2_c f g Q sf R sg h
    obtain ⟨q1, q2, q3⟩ := Q
    refine xseq_cut ⟨[(2, .box 0 0), (3, .box 1 0)], [], [bkC f, bkC g], []⟩ ?_ ?_
    · simp
      refine xcall_self (by simp) (bplain_c f _) ?_
      simp [pf]
      refine xcall_self (by simp) (bplain_c g _) ?_
      simp [pg, Leq]
    refine xseq_cut ⟨[(2, .box 0 0), (3, .box 1 0), (5, .box 2 0), (6, .v (.int .i64 (encB f).2))], [], [bkC f, bkC g, msC (encB f).1], []⟩ ?_ ?_
    · simp
      refine xcall_self (by simp) (bencode_c f q1 q2 (by omega) _) ?_
      simp [Leq]
    refine xseq_cut ⟨[(2, .box 0 0), (3, .box 1 0), (5, .box 2 0), (6, .v (.int .i64 (encB f).2)), (7, .box 3 0), (8, .v (.int .i64 (encB f).2))], [], [bkC f, bkC g, msC (encB f).1, msC (encB f).1], []⟩ ?_ ?_
    · simp
      refine xcall_self (by simp) (rbencode_c f q1 sf q2 (by omega) _) ?_
      rw [← enc_eqB]
      simp [Leq]
    simp
    refine xcall_self (by simp) (equal_c _ _ _) ?_
    simp
    refine xcall_self (by simp) (bcheck_c f q1 _) ?_
    simp
    refine xcall_self (by simp) (rbcheck_c f q1 sf _) ?_
    rw [← check_eqB]
    simp
    refine xcall_self (by simp) (bsame_c f g q1 _) ?_
    simp
    refine xcall_self (by simp) (rbsame_c f g q1 _) ?_
    simp
    simp [two_lay, two_len, two_chunk]
    refine ⟨⟨?_, ?_⟩, ?_⟩
    all_goals
      refine xcall_of (B1 _) (by simp) (by simp) ?_
      simp [two_lay, two_len, two_chunk]
      refine xcall_of (B2 _) (by simp) (by simp) ?_
      simp
      refine xcall_of (equal_c (bytesB [f, g]) (bytesB [f, g]) _) (by simp) (by simp) ?_
      simp
      refine xcall_self (by simp) (bawake_c _) ?_
      simp
  · refine xmark ?_
    simp
    refine xcall_self (by simp) (bplain_c f _) ?_
    cases pf : plainB f with
    | false =>
      simp
      refine xcall_self (by simp) (bawake_c _) ?_
      simp
    | true =>
      have pg : plainB g = false := by cases h : plainB g with
        | false => rfl
        | true => exact absurd ⟨pf, h⟩ hp
      simp
      refine xcall_self (by simp) (bplain_c g _) ?_
      simp [pg]
      refine xcall_self (by simp) (bawake_c _) ?_
      simp
end Go.Proofs.YthilellmckhejaaGreat.Ax
/- The document's messages of back out of bytes, over values without memory; the statement of bytes as messages. -/
namespace Go.Proofs.YthilellmckhejaaGreat.Ax
open Go.RowKit Go By Nm Sc Dg
open He (textL)
set_option linter.unusedSimpArgs false
set_option linter.unusedVariables false
set_option maxRecDepth 10000

def rcol1 (r : Rs) : Rs := rstep textS r
def rcol2 (r : Rs) : Rs := rstep (numS · 4) (rcol1 r)
def rcol3 (r : Rs) : Rs := rstep (numS · 2) (rcol2 r)
def rcol4 (r : Rs) : Rs := rstep (numS · 4) (rcol3 r)
def rcol5 (r : Rs) : Rs := rstep (numS · 2) (rcol4 r)
def rcol6 (r : Rs) : Rs := rstep (numS · 4) (rcol5 r)
theorem rcolQ_eq (r : Rs) : rcolQ r = rstep (numS · 2) (rcol6 r) := rfl
theorem rcol1_abs (r : Rs) : rabs (rcol1 r) = colS1 (rabs r) := by rw [rcol1, rabs_step]; rfl
theorem rcol2_abs (r : Rs) : rabs (rcol2 r) = colS2 (rabs r) := by rw [rcol2, rabs_step, rcol1_abs]; rfl
theorem rcol3_abs (r : Rs) : rabs (rcol3 r) = colS3 (rabs r) := by rw [rcol3, rabs_step, rcol2_abs]; rfl
theorem rcol4_abs (r : Rs) : rabs (rcol4 r) = colS4 (rabs r) := by rw [rcol4, rabs_step, rcol3_abs]; rfl
theorem rcol5_abs (r : Rs) : rabs (rcol5 r) = colS5 (rabs r) := by rw [rcol5, rabs_step, rcol4_abs]; rfl
theorem rcol6_abs (r : Rs) : rabs (rcol6 r) = colS6 (rabs r) := by rw [rcol6, rabs_step, rcol5_abs]; rfl
theorem rbcolumn_c (i : Nat) (h : List (List AV)) (r : Rs) (hi : h[i]? = some (rsC r)) (hl : He.lenS (rabs r) ≤ 140737488355328) : Contract Tryz.prog 115 [.box i 0] h (.agg (coC (colV (rabs r)))) (h.set i (rsC (rcolQ r))) [i] := by
  have hil := heap_lt hi
  refine contract_of k115 mixed (by simp [c115]) fun hh hargs => ?_
  simp [c115]
  refine xcall_self (by simp) (rtext_c i _ r (app_get hi _) hl) ?_
  simp [app_set hil]
  refine xcall_self (by simp) (rnum_c i _ (rcol1 r) (app_set_get hil _ _) 4) ?_
  simp [app_set_set hil]
  refine xcall_self (by simp) (rnum_c i _ (rcol2 r) (app_set_get hil _ _) 2) ?_
  simp [app_set_set hil]
  refine xcall_self (by simp) (rnum_c i _ (rcol3 r) (app_set_get hil _ _) 4) ?_
  simp [app_set_set hil]
  refine xcall_self (by simp) (rnum_c i _ (rcol4 r) (app_set_get hil _ _) 2) ?_
  simp [app_set_set hil]
  refine xcall_self (by simp) (rsigned_c _ 2 _) ?_
  simp
  refine xcall_self (by simp) (rnum_c i _ (rcol5 r) (app_set_get hil _ _) 4) ?_
  simp [app_set_set hil]
  refine xcall_self (by simp) (rsigned_c _ 4 _) ?_
  simp
  refine xcall_self (by simp) (rnum_c i _ (rcol6 r) (app_set_get hil _ _) 2) ?_
  simp [app_set_set hil, hh, rsC_lt, coC_mk, colV, rcolQ_eq, rcol1_abs, rcol2_abs, rcol3_abs, rcol4_abs, rcol5_abs, rcol6_abs]
structure FldD where
  a : List Fi
  r : Rs
  k : Nat
theorem rbsome_c (i : Nat) (h : List (List AV)) (r : Rs) (hi : h[i]? = some (rsC r)) (hl : He.lenS (rabs r) ≤ 1000000000000) : Contract Tryz.prog 117 [.box i 0] h (.sl 2 (enc fiC (fldV (rabs r))) none .no) (h.set i (rsC (rfldQ r))) [i] := by
  have hil := heap_lt hi
  refine contract_of k117 mixed (by simp [c117]) fun hh hargs => ?_
  simp [c117]
  refine xloop_ok (D := FldD) (fun d => ⟨[(0, .box i 0)], [(3, .sl 2 (enc fiC d.a) none (.own (.slot 3)))], h.set i (rsC d.r), [i]⟩)
    (fun d => fldV (rabs r) = d.a ++ (fldR d.k (rabs d.r)).1 ∧ rfldQ r = rfldN d.k d.r ∧ He.lenS (rabs d.r) < d.k ∧ d.a.length + He.lenS (rabs d.r) ≤ He.lenS (rabs r)) (fun d => d.k) ⟨[], r, He.lenS (rabs r) + 1⟩ ⟨rfl, rfl, by simp, by simp⟩ ?_ ?_
  · simp [Leq, hh, hil, rsC_lt, set_same hi]
  · rintro ⟨acc, s, k⟩ ⟨e1, e2, e3, e4⟩
    dsimp only at e1 e2 e3 e4
    obtain ⟨k, rfl⟩ : ∃ n, k = n + 1 := ⟨k - 1, by omega⟩
    have hg := set_get hi (rsC s)
    have hg' := hg
    conv at hg' => rhs; rw [rsC_eq]
    by_cases hbad : rabs s = none
    · have hz : numV (rabs s) 1 = 0 := by rw [hbad]; rfl
      rw [fldR, if_pos hz, List.append_nil] at e1
      rw [rfldN_bad _ hbad] at e2
      have e3 := rabs_none hbad
      simp [hg', e3, hh, hil, e1, e2, rsC_lt, rsC_eq]
    · have e3' := rabs_some hbad
      simp [hg', e3']
      refine xcall_self (by simp) (rnum_c i _ s hg 1) ?_
      have hwr := wrap_u8 (num1_range (rabs s))
      rw [fldR] at e1
      rw [rfldN] at e2
      by_cases hz : numV (rabs s) 1 = 0
      · rw [if_pos hz, List.append_nil] at e1
        rw [if_pos hz] at e2
        have hw0 : IntKind.u8.wrap 0 = 0 := wrap_u8 (by omega)
        simp [hwr, hz, hw0, hh, hil, e1, e2, rsC_lt]
      · rw [if_neg hz] at e1 e2
        have hless := num1_less hz
        have hlt := He.textS_len (numS (rabs s) 1)
        have hb : (acc.length + 1) * 24 ≤ 140737488355328 := by omega
        have hb2 : acc.length + 1 ≤ 140737488355328 := by omega
        simp [hwr, hz]
        refine xcall_self (by simp) (rtext_c i _ (rstep (numS · 1) s) (set_get hi _) (by rw [rabs_step]; omega)) ?_
        simp [hb, hb2]
        refine ⟨⟨acc ++ [⟨numV (rabs s) 1, He.textL (numS (rabs s) 1)⟩], rstep textS (rstep (numS · 1) s), k⟩, ⟨?_, e2, ?_, ?_⟩, by show k < k + 1; omega, ?_⟩
        · rw [e1]; show _ = _ ++ (fldR k (rabs (rstep textS (rstep (numS · 1) s)))).1; rw [rabs_step, rabs_step]; simp
        · show He.lenS (rabs (rstep textS (rstep (numS · 1) s))) < k; rw [rabs_step, rabs_step]; omega
        · show (acc ++ [_]).length + He.lenS (rabs (rstep textS (rstep (numS · 1) s))) ≤ _; rw [rabs_step, rabs_step]; simp; omega
        · simp [Leq, hh, hil, rsC_lt, fiC_mk, rabs_step]
end Go.Proofs.YthilellmckhejaaGreat.Ax
/- The document's Decode of back; the statement of bytes as messages. -/
namespace Go.Proofs.YthilellmckhejaaGreat.Ax
open Go.RowKit Go By Nm Sc Dg
open He (textL)
set_option linter.unusedSimpArgs false
set_option linter.unusedVariables false
set_option maxRecDepth 10000

theorem rread_k (k : Int) (r : Rs) (h84 : k ≠ 84) (h68 : k ≠ 68) (h116 : k ≠ 116) : rreadB k r = (readB k (rabs r)).1 := by
  unfold rreadB; rw [if_neg h84, if_neg h68, if_neg h116]
def okB (k : Int) (r : Rs) : Bk × Rs := (rreadB k r, rreadBQ k r)
theorem leqH_app {a b : List (List AV)} : ∀ (h : List (List AV)) (k : Nat), leqH (k + h.length) a b → leqH k (h ++ a) (h ++ b)
  | [], k, hh => by simpa using hh
  | c :: r, k, hh => ⟨.inl rfl, leqH_app r (k + 1) (by simp only [List.length_cons] at hh; rw [show k + 1 + r.length = k + (r.length + 1) by omega]; exact hh)⟩
/-- A message of columns that is being read. -/
def colsC (b : Nat) (l : List Co) : List AV := [.v (.int .u8 84), .v (.int .u8 0), .v (.string (strB [])), .v (.string (strB [])), .v (.string (strB [])), .v (.int .i64 0), .v (.int .i64 0), .sl 1 [] none .no, .sl 7 (enc coC l) none (.own (.cell b 8)), .sl 2 [] none .no, .sl 2 [] none .no]
theorem colsC_8 (b : Nat) (l : List Co) : (colsC b l)[8]? = some (.sl 7 (enc coC l) none (.own (.cell b 8))) := of_eq_true (eq_self _)
theorem colsC_len (b : Nat) (l : List Co) : (colsC b l).length = 11 := of_eq_true (eq_self _)
theorem colsC_set (b : Nat) (l : List Co) (x : AV) : (colsC b l).set 8 x = [.v (.int .u8 84), .v (.int .u8 0), .v (.string (strB [])), .v (.string (strB [])), .v (.string (strB [])), .v (.int .i64 0), .v (.int .i64 0), .sl 1 [] none .no, x, .sl 2 [] none .no, .sl 2 [] none .no] := of_eq_true (eq_self _)
set_option maxHeartbeats 4000000 in
theorem rbread_c (i : Nat) (h : List (List AV)) (r : Rs) (hi : h[i]? = some (rsC r)) (hl : He.lenS (rabs r) ≤ 1000000000000) (k : Int) :
    Contract Tryz.prog 71 [.box i 0, .v (.int .u8 k)] h (.agg (bkC (rreadB k r))) (h.set i (rsC (rreadBQ k r))) [i] := by
  have hil := heap_lt hi
  refine contract_of k71 mixed (by simp [c71]) fun hh hargs => ?_
  by_cases h82 : k = 82
  · subst h82
    have e1 : rreadB 82 r = ⟨82, 0, [], [], [], 0, 0, [], [], [], []⟩ := rfl
    have e2 : rreadBQ 82 r = if numV (rabs r) 4 = 0 then rstep (numS · 4) r else ((rstep (numS · 4) r).1, true) := rfl
    rw [e1, e2]
    simp [c71]
    refine xcall_self (by simp) (rnum_c i _ r (app_get hi _) 4) ?_
    simp [app_set hil]
    by_cases hz : numV (rabs r) 4 = 0
    · simp [hz, hh, hil, rsC_lt, bkC_mk]
    · have hne : (numV (rabs r) 4 != 0) = true := by simpa using hz
      have hg := app_set_get hil (rsC (rstep (numS · 4) r)) [bkC ⟨82, 0, [], [], [], 0, 0, [], [], [], []⟩]
      simp [hz, hne, app_set_get hil, app_set_set hil, rsC_eq, hh, hil, rsC_lt, bkC_mk]
  by_cases h83 : k = 83
  · subst h83
    simp [c71]
    refine xcall_self (by simp) (rtext_c i _ r (app_get hi _) (by omega)) ?_
    simp [app_set hil]
    refine xcall_self (by simp) (rtext_c i _ (rstep textS r) (app_set_get hil _ _) (by rw [rabs_step]; have := He.textS_len (rabs r); omega)) ?_
    simp [app_set_set hil, hh, hil, rsC_lt, bkC_mk, rabs_step, rreadB, rreadBQ, readB]
  by_cases h75 : k = 75
  · subst h75
    simp [c71]
    refine xcall_self (by simp) (rnum_c i _ r (app_get hi _) 4) ?_
    simp [app_set hil]
    refine xcall_self (by simp) (rnum_c i _ (rstep (numS · 4) r) (app_set_get hil _ _) 4) ?_
    simp [app_set_set hil, hh, hil, rsC_lt, bkC_mk, rabs_step, rreadB, rreadBQ, readB]
  by_cases h90 : k = 90
  · subst h90
    have hwr := wrap_u8 (num1_range (rabs r))
    simp [c71]
    refine xcall_self (by simp) (rnum_c i _ r (app_get hi _) 1) ?_
    simp [app_set hil, hwr, hh, hil, rsC_lt, bkC_mk, rreadB, rreadBQ, readB]
  by_cases h67 : k = 67
  · subst h67
    simp [c71]
    refine xcall_self (by simp) (rtext_c i _ r (app_get hi _) (by omega)) ?_
    simp [app_set hil, hh, hil, rsC_lt, bkC_mk, rreadB, rreadBQ, readB]
  by_cases h68 : k = 68
  · subst h68
    simp [c71]
    refine xcall_self (by simp) (row_c i _ r (app_get hi _) (by omega)) ?_
    simp [app_set hil, hh, hil, rsC_lt, bkC_mk, rreadB, rreadBQ]
  by_cases h84 : k = 84
  · subst h84
    have e1 : rreadB 84 r = ⟨84, 0, [], [], [], 0, 0, [], listU colV colS (rabs r), [], []⟩ := rfl
    have e2 : rreadBQ 84 r = listRs rcolQ r := rfl
    rw [e1, e2]
    obtain ⟨hn0, hn1⟩ := num2_range (rabs r)
    obtain ⟨n, hn⟩ : ∃ n : Nat, numV (rabs r) 2 = n := ⟨(numV (rabs r) 2).toNat, by omega⟩
    simp [c71]
    refine xcall_self (by simp) (rnum_c i _ r (app_get hi _) 2) ?_
    simp [app_set hil, hn]
    refine xloop_ok (D := Nat) (fun j => ⟨[(0, .box i 0), (4, .box h.length 0), (5, .box (h.length + 1) 0), (6, .v (.int .i64 ((n : Int) - j)))], [], h.set i (rsC (rsN rcolQ j (rstep (numS · 2) r))) ++ [bkC noBk, colsC (h.length + 1) (readR colV colS j (numS (rabs r) 2)).1], [i]⟩)
      (fun j => j ≤ n ∧ ∀ t, t < j → rabs (rsN rcolQ t (rstep (numS · 2) r)) ≠ none) (fun j => n - j) 0 (by simp) ?_ ?_
    · simp [Leq, hh, hil, readR, rsN, rsC_lt, noBk, bkC_mk, colsC]
      exact ⟨leqH_app _ _ (by simp), by omega⟩
    · rintro j ⟨hj, hj2⟩
      have hend := list_end colV colS rcolQ rcol_abs r n hn (fun r h => rcol_bad h) j hj hj2
      have habs : rabs (rsN rcolQ j (rstep (numS · 2) r)) = (readR colV colS j (numS (rabs r) 2)).2 := by
        rw [rsN_abs colV rcol_abs, rabs_step]
      by_cases hlt : j < n
      · have hlt' : (0 : Int) < n - j := by omega
        by_cases hbad : rabs (rsN rcolQ j (rstep (numS · 2) r)) = none
        · obtain ⟨e1, e2⟩ := hend (.inr hbad)
          have e3 := rabs_none hbad
          rw [e1, e2]
          generalize hR : rsN rcolQ j (rstep (numS · 2) r) = R at *
          simp [hlt', hlt, app_set_get hil, rsC_eq, e3, hh, hil, rsC_lt, colsC, bkC_mk]
        · have e3 := rabs_some hbad
          have hw : IntKind.i64.wrap ((n : Int) - j - 1) = (n : Int) - (j + 1 : Nat) := by rw [wrap64 (by omega) (by omega)]; omega
          have hx := readR_next colV colS j (numS (rabs r) 2)
          have hy := rsN_next rcolQ j (rstep (numS · 2) r)
          have hb1 : (j + 1) * 64 ≤ 140737488355328 := by omega
          have hb2 : (j + 1) ≤ 140737488355328 := by omega
          have hlen : He.lenS (rabs (rsN rcolQ j (rstep (numS · 2) r))) ≤ 140737488355328 := by
            rw [habs]
            have := readR_lenS colV colS colS_len j (numS (rabs r) 2)
            have := numS_len (rabs r) 2
            omega
          have hnb : ∀ t, t < j + 1 → rabs (rsN rcolQ t (rstep (numS · 2) r)) ≠ none := fun t ht => by
            by_cases htj : t < j
            · exact hj2 t htj
            · have : t = j := by omega
              subst this; exact hbad
          generalize hR : rsN rcolQ j (rstep (numS · 2) r) = R at *
          have hg := app_set_get hil (rsC R) [bkC noBk, colsC (h.length + 1) (readR colV colS j (numS (rabs r) 2)).1]
          have hg' := hg
          conv at hg' => rhs; rw [rsC_eq]
          simp [hlt', hlt, hg', e3, colsC_8]
          refine xcallU_self (by simp) (rbcolumn_c i _ R (unownH_get (app_set_get hil _ _) (by simp [rsC_eq])) hlen) (keepsH_set _ _ _) ?_
          have hne : ¬ h.length + 1 = i := by omega
          simp [app_set_set hil, hw, hb1, hb2, unownAt, colsC_8, colsC_len, colsC_set, hne]
          refine ⟨j + 1, ⟨by omega, hnb⟩, by omega, ?_⟩
          rw [hy, hx]
          simp [Leq, hh, hil, habs, rsC_lt, colsC]
          omega
      · have hlt' : ¬ (0 : Int) < n - j := by omega
        obtain ⟨e1, e2⟩ := hend (.inl (by omega))
        rw [e1, e2]
        simp [hlt', hlt, hh, hil, rsC_lt, colsC, bkC_mk]
  by_cases h116 : k = 116
  · subst h116
    simp [c71]
    refine xcall_self (by simp) (nums_c i _ r (app_get hi _) 4) ?_
    simp [app_set hil, hh, hil, rsC_lt, bkC_mk, rreadB, rreadBQ]
  by_cases h69 : k = 69 ∨ k = 78
  · rcases h69 with rfl | rfl
    all_goals
      simp [c71]
      refine xcall_self (by simp) (rbsome_c i _ r (app_get hi _) hl) ?_
      simp [app_set hil, hh, hil, rsC_lt, bkC_mk, rreadB, rreadBQ, readB]
  have h69' : ¬ k = 69 := fun h => h69 (.inl h)
  have h78' : ¬ k = 78 := fun h => h69 (.inr h)
  simp [c71, h82, h83, h75, h90, h67, h68, h84, h116, h69', h78', hh, hil, rsC_lt, bkC_mk, set_same hi, rreadB, rreadBQ, readB]
end Go.Proofs.YthilellmckhejaaGreat.Ax
/- The statement of messages as back's bytes are read. -/
namespace Go.Proofs.YthilellmckhejaaGreat.Ax
open Go.RowKit Go By Nm Sc Dg
open He (textL)
set_option linter.unusedSimpArgs false
set_option linter.unusedVariables false
set_option maxRecDepth 10000

theorem fld_text {l : List Fi} {c : Fi} (h : c ∈ l) : c.text.length ≤ (fieldsE l).length := by
  have h1 := mem_flat fieldE h
  unfold fieldsE
  rw [List.length_append]
  have h2 : (fieldE c).length = c.text.length + 2 := by simp [fieldE, textsL, He.encT]
  omega
theorem len_83 (A B : List UInt8) : (bodyB ⟨83, 0, [], A, B, 0, 0, [], [], [], []⟩).length = A.length + B.length + 2 := by
  have : bodyB ⟨83, 0, [], A, B, 0, 0, [], [], [], []⟩ = textsL [A, B] := rfl
  rw [this]; simp [textsL, He.encT]; omega
theorem len_67 (A : List UInt8) : (bodyB ⟨67, 0, A, [], [], 0, 0, [], [], [], []⟩).length = A.length + 1 := by
  have : bodyB ⟨67, 0, A, [], [], 0, 0, [], [], [], []⟩ = textsL [A] := rfl
  rw [this]; simp [textsL, He.encT]
theorem short_read {k : Int} (hk : kindB k = true) {xs : List UInt8} (hx : xs.length ≤ 2000) (hb : bodyB (readB k (some xs)).1 = xs) : BkShort (readB k (some xs)).1 := by
  have hl := congrArg List.length hb
  rcases kinds_of hk with rfl | rfl | rfl | rfl | rfl | rfl | rfl | rfl | e | e
  · exact ⟨⟨by simp [readB], by simp [readB], by simp [readB]⟩, by simp [readB], by simp [readB]⟩
  · have e : (readB 83 (some xs)).1 = ⟨83, 0, [], He.textL (some xs), He.textL (textS (some xs)), 0, 0, [], [], [], []⟩ := rfl
    rw [e, len_83] at hl
    rw [e]
    exact ⟨⟨by simp, by show (He.textL (some xs)).length ≤ _; omega, by show (He.textL (textS (some xs))).length ≤ _; omega⟩, none_of, none_of⟩
  · exact ⟨⟨by simp [readB], by simp [readB], by simp [readB]⟩, by simp [readB], by simp [readB]⟩
  · exact ⟨⟨by simp [readB], by simp [readB], by simp [readB]⟩, by simp [readB], by simp [readB]⟩
  · have e : (readB 67 (some xs)).1 = ⟨67, 0, He.textL (some xs), [], [], 0, 0, [], [], [], []⟩ := rfl
    rw [e, len_67] at hl
    rw [e]
    exact ⟨⟨by show (He.textL (some xs)).length ≤ _; omega, by simp, by simp⟩, none_of, none_of⟩
  · exact ⟨⟨by simp [readB], by simp [readB], by simp [readB]⟩, by simp [readB], by simp [readB]⟩
  · have e : (readB 84 (some xs)).1 = ⟨84, 0, [], [], [], 0, 0, [], listV colV colS (some xs), [], []⟩ := rfl
    rw [e] at hl
    rw [e]
    refine ⟨⟨by simp, by simp, by simp⟩, fun c hc => ?_, none_of⟩
    have h1 : c.name.length ≤ (listL colE (listV colV colS (some xs))).length := col_name hc
    have h2 : (listL colE (listV colV colS (some xs))).length = xs.length := hl
    omega
  · exact ⟨⟨by simp [readB], by simp [readB], by simp [readB]⟩, by simp [readB], by simp [readB]⟩
  · have e' : (readB k (some xs)).1 = ⟨k, 0, [], [], [], 0, 0, [], [], [], fldV (some xs)⟩ := by rw [(readB_fld (some xs) e).1]
    rw [e'] at hl
    rw [e']
    refine ⟨⟨by simp, by simp, by simp⟩, none_of, fun c hc => ?_⟩
    have h1 : c.text.length ≤ (fieldsE (fldV (some xs))).length := fld_text hc
    have h2 : (fieldsE (fldV (some xs))).length = xs.length := by
      rcases e with rfl | rfl
      · exact hl
      · exact hl
    omega
  · rcases e with rfl | rfl | rfl | rfl | rfl | rfl
    all_goals exact ⟨⟨by simp [readB], by simp [readB], by simp [readB]⟩, by simp [readB], by simp [readB]⟩
theorem fit_rreadB {k : Int} (hk : kindB k = true) {xs : List UInt8} (hx : xs.length ≤ 2000) (hd : doneB (rabs (rreadBQ k (xs, false))) = true) : BkFit (rreadB k (xs, false)) ∧ BkShort (rreadB k (xs, false)) := by
  have h82 : ¬ (k = 82 ∧ numV (rabs (xs, false)) 4 ≠ 0) := by
    rintro ⟨h1, h2⟩
    have : doneB (rabs (rreadBQ k (xs, false))) = false := by
      unfold rreadBQ
      rw [if_pos h1, if_neg h2, rabs_true]; rfl
    rw [this] at hd; cases hd
  rw [rreadB_abs k (xs, false) h82, rabs_false] at hd
  have hs := done_nil hd
  rw [rreadB_eq hs]
  cases hw : (readB k (some xs)).2 with
  | true =>
    obtain ⟨h1, _, h2, _⟩ := read_backB hk (by omega) hs hw
    exact ⟨h2, short_read hk hx h1⟩
  | false =>
    have h90 : k = 90 := Decidable.byContradiction fun h90 => by
      by_cases h1 : k = 82
      · apply h82
        refine ⟨h1, ?_⟩
        rw [h1] at hw
        rw [rabs_false]
        simpa [readB] using hw
      · rw [readB_true (some xs) h1 h90] at hw; cases hw
    subst h90
    have e : (readB 90 (some xs)).1 = ⟨90, numV (some xs) 1, [], [], [], 0, 0, [], [], [], []⟩ := rfl
    rw [e]
    exact ⟨by unfold BkFit; simp, ⟨by simp, by simp, by simp⟩, none_of, none_of⟩
theorem rbdecode_c (m : Ms) (hx : m.body.length ≤ 2000) (h : List (List AV)) : Contract Tryz.prog 18 [.agg (msC m)] h (.tup [.agg (bkC (rdecB m).1), .v (.int .i64 (rdecB m).2)]) h [] := by
  refine contract_of k18 mixed (by simp [c18]) fun hh hargs => ?_
  simp [c18]
  refine xcall_self (by simp) (rbkind_c _ _) ?_
  cases hk : kindB m.type with
  | false => simp [hh, rdecB, hk, noBk, bkC_mk]
  | true =>
  simp
  refine xcall_self (by simp) (rnew_c _ (by omega) _) ?_
  simp
  refine xcall_self (by simp) (rbread_c (h.length + 2) _ (m.body, false) (by simp) (by rw [rabs_false]; show m.body.length ≤ _; omega) _) ?_
  simp
  refine xcall_self (by simp) (rdone_c (h.length + 2) _ (rreadBQ m.type (m.body, false)) (by simp)) ?_
  have e : rdecB m = if doneB (rabs (rreadBQ m.type (m.body, false))) && rcheckB (rreadB m.type (m.body, false)) == 0 then (rreadB m.type (m.body, false), 0) else (noBk, 4) := by unfold rdecB; rw [if_neg (by rw [hk]; simp)]
  rw [e]
  cases p1 : doneB (rabs (rreadBQ m.type (m.body, false))) with
  | false => simp [hh, noBk, bkC_mk]
  | true =>
  obtain ⟨f1, f2⟩ := fit_rreadB hk hx p1
  simp
  refine xcall_self (by simp) (rbcheck_c _ f1 f2 _) ?_
  by_cases p2 : rcheckB (rreadB m.type (m.body, false)) = 0
  · simp [hh, p2]
  · simp [hh, p2, noBk, bkC_mk]
theorem dec_fitB {m : Ms} (hx : m.body.length ≤ 2000) : BkFit (decB m).1 := by
  by_cases he : (decB m).2 = 0
  · obtain ⟨_, g1, _⟩ := enc_dec he (by omega)
    exact g1
  · rw [decB_no he]; exact noBk_fit
theorem bdecodes_c (m : Ms) : Contract Tryz.prog 4 [.agg (msC m)] [] (.v (.bool true)) [] [] := by
  refine contract_of k4 mixed (by simp [c4]) fun hh hargs => ?_
  by_cases hx : (2000 : Int) < m.body.length
  · simp [c4, hx]
    refine xcall_self (by simp) (bawake_c _) ?_
    simp
  · have hx' : m.body.length ≤ 2000 := by omega
    simp [c4, hx]
    refine xcall_self (by simp) (bdecode_c m (by omega) _) ?_
    simp
    refine xcall_self (by simp) (rbdecode_c m hx' _) ?_
    rw [← dec_eqB hx']
    simp
    refine xcall_self (by simp) (rbsame_c _ _ (dec_fitB hx') _) ?_
    rw [sameB_refl]
    simp
    refine xcall_self (by simp) (bawake_c _) ?_
    simp
end Go.Proofs.YthilellmckhejaaGreat.Ax
namespace Go.Proofs.YthilellmckhejaaGreat.backDecodes
open Go.ChangeShapes Go.WideShapes Go.ChangeAt Go.RowKit
open Go.ChangeMaps (open_string shut_string)
set_option linter.unusedVariables false

theorem own : ownKnob Tryz.prog.godebug = none := by kernel_rfl
theorem laidOut : laidOutB Tryz.prog = true := by kernel_rfl

set_option maxRecDepth 100000 in
theorem lifted (os : Os) (started : os.Started) (H : Type) (enc : TypeId × Value → H) :
    ReturnsInHanded {} Tryz.checked os 4 .any (Rows.backDecodesSpec.pre6 enc Tryz.prog Tryz.f4 Rows.backDecodesRow.domain false) (Rows.backDecodesSpec.post enc Tryz.prog Tryz.f4 false true false false) := by
  refine returnsInHanded_of_change (C := Tryz.checked) own started (by kernel_rfl) Tryz.func4
    (ChangeSpec.witness6 (enc := enc) (C := Tryz.checked) false ⟨#[], #[.agg #[.int .u8 0, .slice none 0 0]], []⟩ 8 (by kernel_rfl) (by kernel_rfl) (by kernel_rfl) (by kernel_rfl)) ?_
  intro W base args ds gs before hval0 hW hcnd _
  have hval : ∀ (j : Nat) t v, Tryz.f4.params[j]? = some t → args[j]? = some v → Value.okWide Tryz.prog W .any base t v := hval0
  have hW' := hW
  obtain ⟨p, q, hA0, hV, rfl, hfz, hnd⟩ := hW
  have hA : DataW.TrodAll enc Tryz.prog W 0 (fun _ => true) true Tryz.f4.params.toList args.toList ds p := hA0
  rw [Tryz.params4] at hA hval
  obtain ⟨v0, vs0, d0, ds0, p0, q0, hargs, rfl, rfl, h0, r0⟩ := trodAll_cons hA
  obtain ⟨rfl, rfl, rfl⟩ := trodAll_nil r0
  obtain rfl : args = #[v0] := by cases args; simp_all
  obtain ⟨rfl, rfl⟩ := trodVars_none hV
  have k0 := h0
  have lt0 : ∀ x ∈ p0, x.block < W.heap.size := by obtain ⟨m, hm⟩ := k0; exact DataW.trod_lt m _ _ _ hm
  obtain ⟨a0, ok0, s0⟩ := Ax.arg_struct Tryz.underlying32 Ax.sh_msC (hval 0 32 v0 rfl rfl) h0
  clear hA0 hval0
  refine (Ax.law_walk (w := W) (Ax.dom_any W) (Ax.bdecodes_c a0) (by simp) (.cons s0 .nil)).mono fun e W' ⟨he, bel⟩ => ?_
  subst he
  exact ⟨_, rfl, _, _, _, [], _, [], hW', trodAll_mk1 (shut_bool Tryz.underlying4 _), (trodAll_cons_mk (Below.trod laidOut (by kernel_rfl) (of_decide_eq_true (by kernel_rfl)) k0 bel lt0) trodAll_mk0), rfl, bel.frame _, fun h => by cases h⟩

theorem over : Rows.backDecodesRow.holds Tryz.pinned (OpenSpec.ofChange Rows.backDecodesSpec) :=
  OpenClaim.holds_of_wide 4 Tryz.f4 rfl rfl rfl rfl rfl rfl rfl ⟨rfl, rfl, rfl, rfl, rfl⟩ rfl rfl rfl rfl rfl (by kernel_rfl) Tryz.func4 (by kernel_rfl)
    (of_decide_eq_true (by kernel_rfl)) (by unfold Func.isWrapper; first | (rw [if_pos (by decide +kernel)]; kernel_rfl) | (rw [if_neg (by decide +kernel)]; exact ⟨rfl, rfl⟩))
    (fun os started H enc _ => lifted os started H enc)

theorem proved : Rows.BackDecodesSaid := over
#print axioms proved
end Go.Proofs.YthilellmckhejaaGreat.backDecodes
