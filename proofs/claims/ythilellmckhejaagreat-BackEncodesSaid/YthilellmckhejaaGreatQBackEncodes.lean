/- BackEncodes: any message's bytes, and whether it may be, is what the document says, or refused: for every input, no condition. -/
import Derived.Test.YthilellmckhejaaGreatQAxBy
import Derived.Test.YthilellmckhejaaGreatRows
import Derived.Test.YthilellmckhejaaGreatQElems
import Derived.Test.YthilellmckhejaaGreatQAxX
import Derived.WalkKit
import Derived.ProofKit
import Derived.OpenShut
import Derived.ShutString
import Derived.ChangeOld
import Derived.Below
/- The statement of back there and back. -/
namespace Go.Proofs.YthilellmckhejaaGreat.Ax
open Go.RowKit Go By Nm Sc Dg
open He (textL)
set_option linter.unusedSimpArgs false
set_option linter.unusedVariables false
set_option maxRecDepth 10000

def awB : Bk := ⟨90, 73, [], [], [], 0, 0, [], [], [], []⟩
theorem awB_check : checkB awB = 0 := by decide
theorem awB_fit : BkFit awB := by unfold BkFit awB; simp
theorem awB_ok : BkOk awB := by unfold BkOk awB; simp
theorem awB_body : (bodyB awB).length ≤ 100000 := by decide
theorem awB_bytes : bytesB [awB] = [90, 0, 0, 0, 5, 73] := by decide
theorem bawake_c (h : List (List AV)) : Contract Tryz.prog 7 [] h (.v (.bool true)) h [] := by
  refine contract_of k7 mixed (by simp [c7]) fun hh hargs => ?_
  have e2 := dec_enc awB_check (by intro f hf; cases hf)
  simp [c7]
  refine xcall_of (bencode_c awB awB_fit awB_ok (Nat.le_trans awB_body (by omega)) _) (by simp [bkC_mk, awB, intC]) (by simp) ?_
  have e1 := encB_ok awB_check
  rw [e1] at e2 ⊢
  simp only at e2
  simp
  refine xcall_self (by simp) (bdecode_c ⟨awB.kind, bodyB awB⟩ (Nat.le_trans awB_body (by omega)) _) ?_
  rw [e2]
  have a1 : awB.status = 73 := rfl
  simp [a1]
  refine xcall_of (bbytes_c [awB] (by intro m hm; rw [List.mem_singleton.1 hm]; exact ⟨awB_fit, awB_ok, Nat.le_trans awB_body (by omega)⟩) (by rw [awB_bytes]; simp) (by simp) _) (by simp) (by simp) ?_
  rw [awB_bytes]
  simp
  refine xcall_of (equal_c [90, 0, 0, 0, 5, 73] [90, 0, 0, 0, 5, 73] _) (by simp) (by simp) ?_
  simp [hh]
theorem noBk_fit : BkFit noBk := by unfold BkFit noBk; simp
end Go.Proofs.YthilellmckhejaaGreat.Ax
/- The statement of back's messages as bytes. -/
namespace Go.Proofs.YthilellmckhejaaGreat.Ax
open Go.RowKit Go By Nm Sc Dg
open He (textL)
set_option linter.unusedSimpArgs false
set_option linter.unusedVariables false
set_option maxRecDepth 10000

theorem short_of_plainB {m : Bk} (h : plainB m = true) : BkShort m := by
  unfold plainB manyB longB at h
  simp only [Bool.and_eq_true, Bool.not_eq_true', Bool.or_eq_false_iff, decide_eq_false_iff_not, decide_eq_true_eq] at h
  obtain ⟨⟨h1, h2, h3, h4⟩, ⟨h5, h6, h7⟩, h8, h9, h10⟩ := h
  refine ⟨⟨by omega, by omega, by omega⟩, fun c hc => ?_, fun c hc => ?_⟩
  · have := List.any_eq_false.1 h5 c hc
    simp [longCo] at this; omega
  · have := List.any_eq_false.1 h7 c hc
    simp [longFi] at this; omega
theorem oneB_le {m : Bk} (h : (bodyB m).length ≤ 100000) : (oneB m).length ≤ 100005 := by
  unfold oneB
  split
  · have := numE_len 4 (((bodyB m).length : Int) + 4) (by omega)
    rw [List.length_cons, List.length_append]; omega
  · simp
theorem two_le {f g : Bk} (h1 : (bodyB f).length ≤ 100000) (h2 : (bodyB g).length ≤ 100000) : (bytesB [f, g]).length ≤ 200010 := by
  have a := oneB_le h1
  have b := oneB_le h2
  unfold bytesB
  rw [List.flatMap_cons, List.flatMap_cons, List.flatMap_nil, List.append_nil, List.length_append]
  omega
theorem bbytes2_c (f g : Bk) (hf : BkFit f ∧ BkOk f ∧ (bodyB f).length ≤ 100000) (hg : BkFit g ∧ BkOk g ∧ (bodyB g).length ≤ 100000) (h : List (List AV)) : Contract Tryz.prog 15 [.sl 11 [bkC f, bkC g] none .no] h (.sl 1 (bytesE (bytesB [f, g])) none (.own .res)) h [] := by
  have h3 := two_le hf.2.2 hg.2.2
  have := bbytes_c [f, g] (fun m hm => by
    rcases List.mem_cons.1 hm with rfl | hm
    · exact ⟨hf.1, hf.2.1, by omega⟩
    · rw [List.mem_singleton.1 hm]; exact ⟨hg.1, hg.2.1, by omega⟩) (by omega) (by simp) h
  simpa using this
theorem rbbytes2_c (f g : Bk) (hf : BkFit f ∧ BkOk f ∧ (bodyB f).length ≤ 100000) (sf : BkShort f) (hg : BkFit g ∧ BkOk g ∧ (bodyB g).length ≤ 100000) (sg : BkShort g) (h : List (List AV)) : Contract Tryz.prog 16 [.sl 11 [bkC f, bkC g] none .no] h (.sl 1 (bytesE (bytesB [f, g])) none (.own .res)) h [] := by
  have h3 := two_le hf.2.2 hg.2.2
  have := rbbytes_c [f, g] (fun m hm => by
    rcases List.mem_cons.1 hm with rfl | hm
    · exact ⟨hf.1, sf, hf.2.1, by omega⟩
    · rw [List.mem_singleton.1 hm]; exact ⟨hg.1, sg, hg.2.1, by omega⟩) (by omega) (by simp) h
  simpa using this
theorem two_lay (z : List AV) (f g : Bk) (hz : z.length = 22) : lay (lay z 0 (bkC f)) 11 (bkC g) = bkC f ++ bkC g := by
  apply List.ext_getElem?
  intro j
  have l1 : (lay z 0 (bkC f)).length = 22 := by rw [lay_length, hz]
  rw [lay_get (bkC g) (lay z 0 (bkC f)) 11 j (by rw [l1]; simp), lay_get (bkC f) z 0 j (by rw [hz]; simp)]
  simp only [bkC_len]
  by_cases h1 : j < 11
  · rw [if_neg (by omega), if_pos (by omega), List.getElem?_append_left (by simpa using h1), Nat.sub_zero]
  · rw [List.getElem?_append_right (by simpa using h1), bkC_len]
    by_cases h2 : j < 22
    · rw [if_pos (by omega)]
    · rw [if_neg (by omega), if_neg (by omega), List.getElem?_eq_none (by omega), List.getElem?_eq_none (by simp; omega)]
theorem two_len (z : List AV) (f : Bk) (hz : z.length = 22) : (lay z 0 (bkC f)).length = 22 := by rw [lay_length, hz]
theorem two_chunk (f g : Bk) : chunk 11 2 (bkC f ++ bkC g) = [bkC f, bkC g] := by
  have e1 : List.take 11 (bkC f ++ bkC g) = bkC f := List.take_left' (by simp)
  have e2 : List.drop 11 (bkC f ++ bkC g) = bkC g := List.drop_left' (by simp)
  rw [r_chunk_succ, e1, e2, r_chunk_one, bkC_take]
theorem bencodes_c (f g : Bk) (hf : OkBk f) (hg : OkBk g) : Contract Tryz.prog 3 [.agg (bkC f), .agg (bkC g)] [] (.v (.bool true)) [] [] := by
  refine contract_cut (XCode.cuts [false, true, true, true] c3.code) k3 rfl mixed (by simp [c3]) fun hh hargs => ?_
  simp [c3]
  by_cases hp : plainB f = true ∧ plainB g = true
  · obtain ⟨pf, pg⟩ := hp
    have hfi : ∀ x ∈ f.fields, FiOk x := fun x hx => (hf.2.2.2.2.2.2.2.2.2.2.2 x hx).1
    have hgi : ∀ x ∈ g.fields, FiOk x := fun x hx => (hg.2.2.2.2.2.2.2.2.2.2.2 x hx).1
    have Q := fit_of_plainB hf.2.1 hfi pf
    have R := fit_of_plainB hg.2.1 hgi pg
    have sf := short_of_plainB pf
    have sg := short_of_plainB pg
    have B1 := fun h => bbytes2_c f g Q R h
    have B2 := fun h => rbbytes2_c f g Q sf R sg h
    obtain ⟨q1, q2, q3⟩ := Q
    refine xseq_cut ⟨[(2, .box 0 0), (3, .box 1 0)], [], [bkC f, bkC g], []⟩ ?_ ?_
    · simp
      refine xcall_self (by simp) (bplain_c f _) ?_
      simp [pf]
      refine xcall_self (by simp) (bplain_c g _) ?_
      simp [pg, Leq]
    refine xseq_cut ⟨[(2, .box 0 0), (3, .box 1 0), (5, .box 2 0), (6, .v (.int .i64 (encB f).2))], [], [bkC f, bkC g, msC (encB f).1], []⟩ ?_ ?_
    · simp
      refine xcall_self (by simp) (bencode_c f q1 q2 (by omega) _) ?_
      simp [Leq]
    refine xseq_cut ⟨[(2, .box 0 0), (3, .box 1 0), (5, .box 2 0), (6, .v (.int .i64 (encB f).2)), (7, .box 3 0), (8, .v (.int .i64 (encB f).2))], [], [bkC f, bkC g, msC (encB f).1, msC (encB f).1], []⟩ ?_ ?_
    · simp
      refine xcall_self (by simp) (rbencode_c f q1 sf q2 (by omega) _) ?_
      rw [← enc_eqB]
      simp [Leq]
    simp
    refine xcall_self (by simp) (equal_c _ _ _) ?_
    simp
    refine xcall_self (by simp) (bcheck_c f q1 _) ?_
    simp
    refine xcall_self (by simp) (rbcheck_c f q1 sf _) ?_
    rw [← check_eqB]
    simp
    refine xcall_self (by simp) (bsame_c f g q1 _) ?_
    simp
    refine xcall_self (by simp) (rbsame_c f g q1 _) ?_
    simp
    simp [two_lay, two_len, two_chunk]
    refine ⟨⟨?_, ?_⟩, ?_⟩
    all_goals
      refine xcall_of (B1 _) (by simp) (by simp) ?_
      simp [two_lay, two_len, two_chunk]
      refine xcall_of (B2 _) (by simp) (by simp) ?_
      simp
      refine xcall_of (equal_c (bytesB [f, g]) (bytesB [f, g]) _) (by simp) (by simp) ?_
      simp
      refine xcall_self (by simp) (bawake_c _) ?_
      simp
  · refine xmark ?_
    simp
    refine xcall_self (by simp) (bplain_c f _) ?_
    cases pf : plainB f with
    | false =>
      simp
      refine xcall_self (by simp) (bawake_c _) ?_
      simp
    | true =>
      have pg : plainB g = false := by cases h : plainB g with
        | false => rfl
        | true => exact absurd ⟨pf, h⟩ hp
      simp
      refine xcall_self (by simp) (bplain_c g _) ?_
      simp [pg]
      refine xcall_self (by simp) (bawake_c _) ?_
      simp
end Go.Proofs.YthilellmckhejaaGreat.Ax
namespace Go.Proofs.YthilellmckhejaaGreat.backEncodes
open Go.ChangeShapes Go.WideShapes Go.ChangeAt Go.RowKit
open Go.ChangeMaps (open_string shut_string)
set_option linter.unusedVariables false

theorem own : ownKnob Tryz.prog.godebug = none := by kernel_rfl
theorem laidOut : laidOutB Tryz.prog = true := by kernel_rfl

set_option maxRecDepth 100000 in
theorem lifted (os : Os) (started : os.Started) (H : Type) (enc : TypeId × Value → H) :
    ReturnsInHanded {} Tryz.checked os 3 .any (Rows.backEncodesSpec.pre6 enc Tryz.prog Tryz.f3 Rows.backEncodesRow.domain false) (Rows.backEncodesSpec.post enc Tryz.prog Tryz.f3 false true false false) := by
  refine returnsInHanded_of_change (C := Tryz.checked) own started (by kernel_rfl) Tryz.func3
    (ChangeSpec.witness6 (enc := enc) (C := Tryz.checked) false ⟨#[], #[.agg #[.int .u8 0, .int .u8 0, .string ByteArray.empty, .string ByteArray.empty, .string ByteArray.empty, .int .i64 0, .int .i64 0, .slice none 0 0, .slice none 0 0, .slice none 0 0, .slice none 0 0], .agg #[.int .u8 0, .int .u8 0, .string ByteArray.empty, .string ByteArray.empty, .string ByteArray.empty, .int .i64 0, .int .i64 0, .slice none 0 0, .slice none 0 0, .slice none 0 0, .slice none 0 0]], []⟩ 8 (by kernel_rfl) (by kernel_rfl) (by kernel_rfl) (by kernel_rfl)) ?_
  intro W base args ds gs before hval0 hW hcnd _
  have hval : ∀ (j : Nat) t v, Tryz.f3.params[j]? = some t → args[j]? = some v → Value.okWide Tryz.prog W .any base t v := hval0
  have hW' := hW
  obtain ⟨p, q, hA0, hV, rfl, hfz, hnd⟩ := hW
  have hA : DataW.TrodAll enc Tryz.prog W 0 (fun _ => true) true Tryz.f3.params.toList args.toList ds p := hA0
  rw [Tryz.params3] at hA hval
  obtain ⟨v0, vs0, d0, ds0, p0, q0, hargs, rfl, rfl, h0, r0⟩ := trodAll_cons hA
  obtain ⟨v1, vs1, d1, ds1, p1, q1, rfl, rfl, rfl, h1, r1⟩ := trodAll_cons r0
  obtain ⟨rfl, rfl, rfl⟩ := trodAll_nil r1
  obtain rfl : args = #[v0, v1] := by cases args; simp_all
  obtain ⟨rfl, rfl⟩ := trodVars_none hV
  have k0 := h0
  have lt0 : ∀ x ∈ p0, x.block < W.heap.size := by obtain ⟨m, hm⟩ := k0; exact DataW.trod_lt m _ _ _ hm
  obtain ⟨a0, ok0, s0⟩ := Ax.arg_struct Tryz.underlying27 Ax.sh_bkC (hval 0 27 v0 rfl rfl) h0
  have k1 := h1
  have lt1 : ∀ x ∈ p1, x.block < W.heap.size := by obtain ⟨m, hm⟩ := k1; exact DataW.trod_lt m _ _ _ hm
  obtain ⟨a1, ok1, s1⟩ := Ax.arg_struct Tryz.underlying27 Ax.sh_bkC (hval 1 27 v1 rfl rfl) h1
  clear hA0 hval0
  refine (Ax.law_walk (w := W) (Ax.bencodes_c a0 a1 ok0 ok1) (by simp) (.cons s0 (.cons s1 .nil))).mono fun e W' ⟨he, bel⟩ => ?_
  subst he
  exact ⟨_, rfl, _, _, _, [], _, [], hW', trodAll_mk1 (shut_bool Tryz.underlying4 _), (trodAll_cons_mk (Below.trod laidOut (by kernel_rfl) (of_decide_eq_true (by kernel_rfl)) k0 bel lt0) (trodAll_cons_mk (Below.trod laidOut (by kernel_rfl) (of_decide_eq_true (by kernel_rfl)) k1 bel lt1) trodAll_mk0)), rfl, bel.frame _, fun h => by cases h⟩

theorem over : Rows.backEncodesRow.holds Tryz.pinned (OpenSpec.ofChange Rows.backEncodesSpec) :=
  OpenClaim.holds_of_wide 3 Tryz.f3 rfl rfl rfl rfl rfl rfl rfl ⟨rfl, rfl, rfl, rfl, rfl⟩ rfl rfl rfl rfl rfl (by kernel_rfl) Tryz.func3 (by kernel_rfl)
    (of_decide_eq_true (by kernel_rfl)) (by unfold Func.isWrapper; first | (rw [if_pos (by decide +kernel)]; kernel_rfl) | (rw [if_neg (by decide +kernel)]; exact ⟨rfl, rfl⟩))
    (fun os started H enc _ => lifted os started H enc)

theorem proved : Rows.BackEncodesSaid := over
#print axioms proved
end Go.Proofs.YthilellmckhejaaGreat.backEncodes
