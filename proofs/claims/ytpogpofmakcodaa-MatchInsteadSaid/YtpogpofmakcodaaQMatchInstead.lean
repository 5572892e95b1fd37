/- a fault of what is hidden is told in the place of what stands right behind it, if that is not hidden and could fail so; else it is not told -/
import Derived.Test.YtpogpofmakcodaaQAxZa
import Derived.Test.YtpogpofmakcodaaQAxTz
import Derived.Test.YtpogpofmakcodaaQAxZc
import Derived.Test.YtpogpofmakcodaaQAxWb
import Derived.Test.YtpogpofmakcodaaRows
import Derived.Test.YtpogpofmakcodaaQElems
import Derived.Test.YtpogpofmakcodaaQAxX
import Derived.WalkKit
import Derived.ProofKit
import Derived.OpenShut
import Derived.ShutString
import Derived.ChangeOld
import Derived.Below
/- Layer 21's statement: a queue lives as the document's does. -/
namespace Go.Proofs.Ytpogpofmakcodaa.Ax
open Go.RowKit Go By
set_option linter.unusedSimpArgs false
set_option linter.unusedVariables false
set_option maxRecDepth 10000

/-- A call. -/
structure Dq where
  op : Int
  l : List En
structure QL where
  H : List (List AV)
  o : Option (Nat × Nat)
  o2 : Option (Nat × Nat)
  L : List En
  j : Nat
structure QL.Ok (n most : Nat) (d : QL) : Prop where
  le : d.j ≤ n
  two : Two d.H d.o d.o2 most d.L
end Go.Proofs.Ytpogpofmakcodaa.Ax
/- Layer 22's statements: a fault drops what is behind; two results; few replies; a fault of what is hidden, over values without memory. -/
namespace Go.Proofs.Ytpogpofmakcodaa.Ax
open Go.RowKit Go By
set_option linter.unusedSimpArgs false
set_option linter.unusedVariables false
set_option maxRecDepth 10000

/-! ### Two results -/
structure RsFit (r : Rs) : Prop where
  name : EnFit r.name
  el : r.ended.length ≤ 1000000
  ef : ∀ e ∈ r.ended, EnFit e
  fl : r.failed.length ≤ 1000000
  ff : ∀ e ∈ r.failed, EnFit e
  dl : r.dropped.length ≤ 1000000
  df : ∀ e ∈ r.dropped, EnFit e
section
variable {h : List (List AV)} {v1 v2 v3 w1 w2 w3 : AV}
end
/-! ### Few replies -/
/-! ### A fault drops what is behind -/
def fE : Bk := ⟨69, 0, [], [], [], 0, 0, [], [], [], []⟩
theorem take_got {h : List (List AV)} {most : Nat} (l : List En) (hne : l ≠ []) (n : Nat) (more : List (List AV)) : List.take h.length (qH (pushH (h ++ [qC none 0 most]) h.length none most [] l) h.length (some (h.length + 1, 0)) n l.length most ++ more) = h := by
  have hpl := pushH_len (h ++ [qC none 0 most]) h.length none most [] l
  simp at hpl
  exact take_of (by rw [qH_len]; omega) (fun q hq => by rw [qH_get (by omega), qmade_get l hq]) more
theorem awake22_c (h : List (List AV)) : Contract Try.prog 33 [] h (.v (.bool true)) h [] := by
  refine contract_of k33 mixed (by simp [c33]) fun hh hargs => ?_
  obtain ⟨l, hl⟩ : ∃ l, l = [aE 2, aE 3, aE 8] := ⟨_, rfl⟩
  have hfit : ∀ e ∈ l, EnFit e := by rw [hl]; intro e he; simp at he; rcases he with rfl | rfl | rfl <;> exact aE_fit _
  have hlen : l.length = 3 := by rw [hl]; rfl
  have hne : l ≠ [] := by rw [hl]; simp
  have t1 := newQ_at hh 4
  have t2 := qmade_at hh 4 l hne
  have hp := qpush_c t1 l hfit (by omega) (by omega) (by simp [hlen])
  have haw : apWr none l [] = [] := by unfold apWr; split <;> rfl
  rw [haw] at hp
  have htk := fun n more => take_got (h := h) (most := 4) l hne n more
  have hpl := pushH_len (h ++ [qC none 0 4]) h.length none 4 [] l
  simp at hpl
  have hn : Contract Try.prog 11 [.v (.int .i64 4)] h (.tup [.box h.length 0, .v (.int .i64 0)]) (h ++ [qC none 0 4]) [] := qnew_c (most := 4) (by omega) (by omega) h
  generalize pushH (h ++ [qC none 0 4]) h.length none 4 [] l = H2 at *
  obtain ⟨v1, v2, v3, wr, hg, hwr, ev1, ev2, ev3⟩ := mgot_c t2 (by omega) hfit fE
  have hG : gotR l fE.kind fE.status = (0, ⟨true, aE 2, [], [aE 2], [aE 3], 0⟩, [aE 8]) := by rw [hl]; decide +kernel
  have hK : gotK l fE.kind = 2 := by rw [hl]; decide +kernel
  have t3 := t2.cut 2 (by omega)
  change QAt (qH H2 h.length (some (h.length + 1, 0)) 2 l.length 4) _ _ _ _ at t3
  have hd : l.drop 2 = [aE 8] := by rw [hl]; rfl
  rw [hd] at t3
  rw [hG, hK] at hg ev1 ev2 ev3
  dsimp only at hg ev1 ev2 ev3
  have htk2 := htk 2
  have hl3 := qH_len H2 h.length (some (h.length + 1, 0)) 2 l.length 4
  generalize qH H2 h.length (some (h.length + 1, 0)) 2 l.length 4 = H3 at *
  have i1 := ev1.id
  have i2 := ev2.id
  have i3 := ev3.id
  have n1 := ev1.len
  have n2 := ev2.len
  have n3 := ev3.len
  have u1 := ev1.unown
  have u2 := ev2.unown
  have u3 := ev3.unown
  have t4 := t3.app [resC true (aE 2) v1 v2 v3 0] (by simp [resC]; exact ⟨ev1.lt (by omega), ev2.lt (by omega), ev3.lt (by omega)⟩)
  have hle := qlen_c t4
  have hlt3 := t3.lt
  simp only [resC] at hg hle t4
  simp [c33]
  refine xcall_self (by simp) hn ?_
  simp
  refine xcall_of hp (by simp [hl, aE, zE, enC_mk]) (by simp) ?_
  simp
  refine xcall_of hg (by simp [bkC, fE]) (by simp) ?_
  simp [i1, i2, i3, n1, n2, n3, u1, u2, u3, -vLenL]
  refine xcall_self (by simp) hle ?_
  simp [hh, htk2]
  refine ⟨by omega, by omega, fun a ha => ?_⟩
  rcases ha with ha | ha
  · have := hwr a ha; omega
  · omega
end Go.Proofs.Ytpogpofmakcodaa.Ax
/- Layer 22's statement: a fault of what is hidden is told in the place of what stands behind it, over values without memory. -/
namespace Go.Proofs.Ytpogpofmakcodaa.Ax
open Go.RowKit Go By
set_option linter.unusedSimpArgs false
set_option linter.unusedVariables false
set_option maxRecDepth 10000

def hE2 : En := { zE with kind := 2, hide := true }
theorem hE2_fit : EnFit hE2 := by simp [EnFit, hE2, zE]
theorem sw_nil (e : En) (k : Int) : sw [] e k = false := by unfold sw; simp [skN]
theorem sw_cons (x : En) (l : List En) : sw (x :: l) hE2 69 = (!decide (x.kind = 8) && (!x.hide && failsB x.kind 69)) := by
  unfold sw
  rw [skN_cons]
  by_cases h8 : x.kind = 8
  · simp [h8, hE2]
  · simp [h8, hE2]
theorem got_instead (l : List En) : ∃ D, gotR (hE2 :: l) fE.kind fE.status = (0, ⟨sw l hE2 69, if sw l hE2 69 = true then l.headD zE else hE2, D, [hE2], l.take (skN l), 0⟩, l.drop (skN l + flN (l.drop (skN l)))) := by
  have t1 : takesB hE2.kind fE.kind = true := by decide +kernel
  have t2 : endsB hE2.kind fE.kind = false := by decide +kernel
  have t3 : failsB hE2.kind fE.kind = true := by decide +kernel
  have n90 : ¬ fE.kind = 90 := by decide
  refine ⟨(l.drop (skN l)).take (flN (l.drop (skN l))), ?_⟩
  unfold gotR
  dsimp only
  rw [if_neg (by rw [t1]; simp), if_neg (by rw [t2]; simp), if_pos t3, if_neg n90, List.drop_drop]
  have hs : (if sw l hE2 fE.kind = true then true else !hE2.hide) = sw l hE2 69 := by
    show (if sw l hE2 69 = true then true else !hE2.hide) = sw l hE2 69
    cases sw l hE2 69 <;> rfl
  rw [hs]
  rfl
set_option maxHeartbeats 1000000 in
theorem minstead_c (l : List En) : Contract Try.prog 9 [.sl 8 (enc enC l) none .no] [] (.v (.bool true)) [] [] := by
  refine contract_of k9 mixed (by simp [c9]) fun hh hargs => ?_
  have hcast : ((30 : Nat) : Int) = 30 := rfl
  have hent := entries_n l 30 (by omega) []
  rw [hcast] at hent
  simp [c9]
  refine xcall_self (by simp) hent ?_
  cases hF : fewEL l 30 with
  | false =>
    simp
    refine xcall_self (by simp) (awake22_c _) ?_
    simp
    done
  | true =>
  obtain ⟨hl30, hfit⟩ := fewEL_iff hF
  have hn : Contract Try.prog 11 [.v (.int .i64 60)] [] (.tup [.box 0 0, .v (.int .i64 0)]) ([] ++ [qC none 0 60]) [] := qnew_c (most := 60) (by omega) (by omega) _
  have t1 : QAt [qC none 0 60] 0 none 60 [] := newQ_at (h := []) (by simp) 60
  have hp1 := qpush_c t1 [hE2] (by intro e he; rw [List.mem_singleton.1 he]; exact hE2_fit) (by omega) (by omega) (by simp)
  have t2 := t1.push [hE2]
  have haw : apWr none [hE2] [] = [] := rfl
  rw [haw] at hp1
  rw [List.nil_append] at t2
  generalize pushH [qC none 0 60] 0 none 60 [] [hE2] = H1 at *
  generalize apO [qC none 0 60] none [hE2] = o1 at *
  have hp2 := qpush_c t2 l hfit (by omega) (by omega) (by simp; omega)
  have t3 := t2.push l
  generalize pushH H1 0 o1 60 [hE2] l = H2 at *
  generalize apO H1 o1 l = o2 at *
  generalize apWr o1 l [] = W1 at *
  rw [show [hE2] ++ l = hE2 :: l from rfl] at t3
  have hfit3 : ∀ e ∈ hE2 :: l, EnFit e := fun e he => by
    rcases List.mem_cons.1 he with rfl | he
    · exact hE2_fit
    · exact hfit e he
  obtain ⟨v1, v2, v3, wr, hg, hwr, ev1, ev2, ev3⟩ := mgot_c t3 (by simp; omega) hfit3 fE
  obtain ⟨D, hG⟩ := got_instead l
  rw [hG] at hg ev1 ev2 ev3
  dsimp only at hg ev1 ev2 ev3
  have t4 := qH_cut t3 (gotK (hE2 :: l) fE.kind) (gotK_le _ _)
  generalize qH H2 0 o2 (gotK (hE2 :: l) fE.kind) (hE2 :: l).length 60 = H3 at *
  have hlt3 := t4.lt
  have i1 := ev1.id
  have i2 := ev2.id
  have i3 := ev3.id
  have n1 := ev1.len
  have n2 := ev2.len
  have n3 := ev3.len
  have u1 := ev1.unown
  have u2 := ev2.unown
  have u3 := ev3.unown
  have e2 : enc enC [hE2] = [enC hE2] := rfl
  simp
  refine xcall_self (by simp) hn ?_
  simp
  refine xcall_of hp1 (by simp [e2, hE2, zE, enC_mk]) (by simp) ?_
  simp
  refine xcall_self (by simp) hp2 ?_
  simp
  cases l with
  | nil =>
    simp only [sw_nil] at hg
    simp [resC] at hg
    refine xcall_of hg (by simp [bkC, fE]) (by simp) ?_
    simp [i1, i2, i3, n1, n2, n3, u1, u2, u3, -vLenL, vLenL_sl]
    have hh2 : hE2.hide = true := rfl
    simp [hh2]
    refine xcall_self (by simp) (awake22_c _) ?_
    simp [hlt3]
    trace_state
    done
  | cons x l =>
    rw [sw_cons] at hg
    by_cases h8 : x.kind = 8
    · have hs : (!decide (x.kind = 8) && (!x.hide && failsB x.kind 69)) = false := by simp [h8]
      simp only [hs] at hg
      simp [resC] at hg
      refine xcall_of hg (by simp [bkC, fE]) (by simp) ?_
      have hh2 : hE2.hide = true := rfl
      simp [i1, i2, i3, n1, n2, n3, u1, u2, u3, -vLenL, vLenL_sl, enC_mk x, h8, hh2]
      refine xcall_self (by simp) (awake22_c _) ?_
      simp [hlt3]
      trace_state
      done
    · have h8b : (x.kind != 8) = true := by simpa using h8
      cases hx : x.hide with
      | true =>
        have hs : (!decide (x.kind = 8) && (!x.hide && failsB x.kind 69)) = false := by simp [hx]
        simp only [hs] at hg
        simp [resC] at hg
        refine xcall_of hg (by simp [bkC, fE]) (by simp) ?_
        have hh2 : hE2.hide = true := rfl
        simp [i1, i2, i3, n1, n2, n3, u1, u2, u3, -vLenL, vLenL_sl, enC_mk x, h8, h8b, hh2, hx]
        refine xcall_self (by simp) (awake22_c _) ?_
        simp [hlt3]
        trace_state
        done
      | false =>
        have hs : (!decide (x.kind = 8) && (!x.hide && failsB x.kind 69)) = failsB x.kind 69 := by simp [h8, hx]
        rw [hs] at hg
        cases hf : failsB x.kind 69 with
        | false =>
          rw [hf] at hg
          simp [resC] at hg
          refine xcall_of hg (by simp [bkC, fE]) (by simp) ?_
          have hh2 : hE2.hide = true := rfl
          simp [i1, i2, i3, n1, n2, n3, u1, u2, u3, -vLenL, vLenL_sl, enC_mk x, h8, h8b, hh2, hx]
          refine xcall_self (by simp) (rfails_c x.kind 69 (by omega) (by omega) _) ?_
          simp [hf, hh2, h8b]
          refine xcall_self (by simp) (awake22_c _) ?_
          simp [hlt3]
          trace_state
          done
        | true =>
          rw [hf] at hg
          simp [resC] at hg
          refine xcall_of hg (by simp [bkC, fE]) (by simp) ?_
          have hh2 : hE2.hide = true := rfl
          have hfx := hfit x (by simp)
          simp [i1, i2, i3, n1, n2, n3, u1, u2, u3, -vLenL, vLenL_sl, enC_mk x, h8, h8b, hh2, hx]
          refine xcall_self (by simp) (rfails_c x.kind 69 (by omega) (by omega) _) ?_
          simp [hf, hh2, h8b]
          have hs2 := fun H => rsame21_c x x hfx hfx H
          simp only [enC_mk, hx] at hs2
          refine xcall_self (by simp) (hs2 _) ?_
          simp
          refine xcall_self (by simp) (awake22_c _) ?_
          simp [hlt3]
          trace_state
          done
end Go.Proofs.Ytpogpofmakcodaa.Ax
namespace Go.Proofs.Ytpogpofmakcodaa.matchInstead
open Go.ChangeShapes Go.WideShapes Go.ChangeAt Go.RowKit
open Go.ChangeMaps (open_string shut_string)
set_option linter.unusedVariables false

theorem own : ownKnob Try.prog.godebug = none := by kernel_rfl
theorem laidOut : laidOutB Try.prog = true := by kernel_rfl

set_option maxRecDepth 100000 in
theorem lifted (os : Os) (started : os.Started) (H : Type) (enc : TypeId × Value → H) :
    ReturnsInHanded {} Try.checked os 9 .any (Rows.matchInsteadSpec.pre6 enc Try.prog Try.f9 Rows.matchInsteadRow.domain false) (Rows.matchInsteadSpec.post enc Try.prog Try.f9 false true false false) := by
  refine returnsInHanded_of_change (C := Try.checked) own started (by kernel_rfl) Try.func9
    (ChangeSpec.witness6 (enc := enc) (C := Try.checked) false ⟨#[], #[.slice none 0 0], []⟩ 8 (by kernel_rfl) (by kernel_rfl) (by kernel_rfl) (by kernel_rfl)) ?_
  intro W base args ds gs before hval0 hW hcnd _
  have hval : ∀ (j : Nat) t v, Try.f9.params[j]? = some t → args[j]? = some v → Value.okWide Try.prog W .any base t v := hval0
  have hW' := hW
  obtain ⟨p, q, hA0, hV, rfl, hfz, hnd⟩ := hW
  have hA : DataW.TrodAll enc Try.prog W 0 (fun _ => true) true Try.f9.params.toList args.toList ds p := hA0
  rw [Try.params9] at hA hval
  obtain ⟨v0, vs0, d0, ds0, p0, q0, hargs, rfl, rfl, h0, r0⟩ := trodAll_cons hA
  obtain ⟨rfl, rfl, rfl⟩ := trodAll_nil r0
  obtain rfl : args = #[v0] := by cases args; simp_all
  obtain ⟨rfl, rfl⟩ := trodVars_none hV
  have k0 := h0
  have lt0 : ∀ x ∈ p0, x.block < W.heap.size := by obtain ⟨m, hm⟩ := k0; exact DataW.trod_lt m _ _ _ hm
  obtain ⟨a0, ok0, s0⟩ := Ax.arg_slice Try.underlying32 Ax.sh_enCL (hval 0 32 v0 rfl rfl) h0
  clear hA0 hval0
  refine (Ax.law_walk (w := W) (Ax.dom_any W) (Ax.minstead_c a0) (by simp) (.cons s0 .nil)).mono fun e W' ⟨he, bel⟩ => ?_
  subst he
  exact ⟨_, rfl, _, _, _, [], _, [], hW', trodAll_mk1 (shut_bool Try.underlying4 _), (trodAll_cons_mk (Below.trod laidOut (by kernel_rfl) (of_decide_eq_true (by kernel_rfl)) k0 bel lt0) trodAll_mk0), rfl, bel.frame _, fun h => by cases h⟩

theorem over : Rows.matchInsteadRow.holds Try.pinned (OpenSpec.ofChange Rows.matchInsteadSpec) :=
  OpenClaim.holds_of_wide 9 Try.f9 rfl rfl rfl rfl rfl rfl rfl ⟨rfl, rfl, rfl, rfl, rfl⟩ rfl rfl rfl rfl rfl (by kernel_rfl) Try.func9 (by kernel_rfl)
    (of_decide_eq_true (by kernel_rfl)) (by unfold Func.isWrapper; first | (rw [if_pos (by decide +kernel)]; kernel_rfl) | (rw [if_neg (by decide +kernel)]; exact ⟨rfl, rfl⟩))
    (fun os started H enc _ => lifted os started H enc)

theorem proved : Rows.MatchInsteadSaid := over
#print axioms proved
end Go.Proofs.Ytpogpofmakcodaa.matchInstead
