/- a queue that no call made, or that is nil, has nothing and takes nothing, whatever entry is pushed -/
import Derived.Test.YtpogpofmakcodaaQAxTz
import Derived.Test.YtpogpofmakcodaaQAxBa
import Derived.Test.YtpogpofmakcodaaQAxIb
import Derived.Test.YtpogpofmakcodaaQAxQf
import Derived.Test.YtpogpofmakcodaaQCodeA
import Derived.Test.YtpogpofmakcodaaRows
import Derived.Test.YtpogpofmakcodaaQElems
import Derived.Test.YtpogpofmakcodaaQAxX
import Derived.WalkKit
import Derived.ProofKit
import Derived.OpenShut
import Derived.ShutString
import Derived.ChangeOld
import Derived.Below
/- Entries that are few, over values without memory. -/
namespace Go.Proofs.Ytpogpofmakcodaa.Ax
open Go.RowKit Go By
set_option linter.unusedSimpArgs false
set_option linter.unusedVariables false
set_option maxRecDepth 10000

/-! ### Entries that are few -/
end Go.Proofs.Ytpogpofmakcodaa.Ax
/- Layer 21's statements: a queue that no call made, and two entries, over values without memory. -/
namespace Go.Proofs.Ytpogpofmakcodaa.Ax
open Go.RowKit Go By
set_option linter.unusedSimpArgs false
set_option linter.unusedVariables false
set_option maxRecDepth 10000

theorem take_of {h H : List (List AV)} (hl : h.length ≤ H.length) (hq : ∀ q, q < h.length → H[q]? = h[q]?) (more : List (List AV)) : List.take h.length (H ++ more) = h := by
  refine List.ext_getElem? fun q => ?_
  rw [List.getElem?_take]
  by_cases hlt : q < h.length
  · rw [if_pos hlt, List.getElem?_append_left (by omega), hq q hlt]
  · rw [if_neg hlt, List.getElem?_eq_none (by omega)]
def aE (k : Int) : En := { zE with kind := k }
theorem aE_fit (k : Int) : EnFit (aE k) := by simp [EnFit, aE, zE]
theorem pushH_len (h : List (List AV)) (i : Nat) (o : Option (Nat × Nat)) (most : Nat) (L l : List En) : h.length ≤ (pushH h i o most L l).length := by
  unfold pushH; rw [List.length_set]; exact apQ_len h o L l
theorem pushH_get {h : List (List AV)} {i : Nat} {o : Option (Nat × Nat)} {most : Nat} {L : List En} (l : List En) {q : Nat} (hq : q < h.length) (hi : q ≠ i) (hp : ∀ p, o = some p → q ≠ p.1) : (pushH h i o most L l)[q]? = h[q]? := by
  unfold pushH
  rw [List.getElem?_set_ne (Ne.symm hi), apQ_get hq hp]
theorem qH_len (h : List (List AV)) (i : Nat) (o : Option (Nat × Nat)) (n len most : Nat) : (qH h i o n len most).length = h.length := by unfold qH; rw [List.length_set]
theorem qH_get {h : List (List AV)} {i : Nat} {o : Option (Nat × Nat)} {n len most : Nat} {q : Nat} (hi : q ≠ i) : (qH h i o n len most)[q]? = h[q]? := by
  unfold qH; rw [List.getElem?_set_ne (Ne.symm hi)]
/-- A queue that was made and pushed to. -/
theorem qmade_at {h : List (List AV)} (hh : ltLL h.length h) (most : Nat) (l : List En) (hne : l ≠ []) : QAt (pushH (h ++ [qC none 0 most]) h.length none most [] l) h.length (some (h.length + 1, 0)) most l := by
  have h1 := (newQ_at hh most).push l
  have e : apO (h ++ [qC none 0 most]) none l = some (h.length + 1, 0) := by unfold apO; rw [if_neg hne]; simp
  rw [e] at h1
  simpa using h1
theorem qmade_get {h : List (List AV)} {most : Nat} (l : List En) {q : Nat} (hq : q < h.length) : (pushH (h ++ [qC none 0 most]) h.length none most [] l)[q]? = h[q]? := by
  rw [pushH_get l (by simp; omega) (by omega) (fun p hp => by cases hp), List.getElem?_append_left hq]
theorem qawake_c (h : List (List AV)) : Contract Try.prog 14 [] h (.v (.bool true)) h [] := by
  refine contract_of k14 mixed (by simp [c14]) fun hh hargs => ?_
  obtain ⟨l, hl⟩ : ∃ l, l = [aE 2, aE 8] := ⟨_, rfl⟩
  have hfit : ∀ e ∈ l, EnFit e := by rw [hl]; intro e he; simp at he; rcases he with rfl | rfl <;> exact aE_fit _
  have hs1 : skN l = 1 := by rw [hl]; rfl
  have hlen : l.length = 2 := by rw [hl]; rfl
  have t1 := newQ_at hh 3
  have t2 := qmade_at hh 3 l (by rw [hl]; simp)
  have hp := qpush_c t1 l hfit (by omega) (by omega) (by simp [hlen])
  have haw : apWr none l [] = [] := by unfold apWr; split <;> rfl
  rw [haw] at hp
  have hpl := pushH_len (h ++ [qC none 0 3]) h.length none 3 [] l
  have hg2 := fun q hq => qmade_get (h := h) (most := 3) l (q := q) hq
  generalize hH2 : pushH (h ++ [qC none 0 3]) h.length none 3 [] l = H2 at *
  have hsk := qskip_c t2 (by omega) rfl (by rw [hl]; simp)
  have t3 := t2.cut 1 (by omega)
  rw [hs1] at hsk
  have hH3l := qH_len H2 h.length (some (h.length + 1, 0)) 1 l.length 3
  have hg3 := fun q (hq : q ≠ h.length) => qH_get (h := H2) (i := h.length) (o := some (h.length + 1, 0)) (n := 1) (len := l.length) (most := 3) hq
  simp at hpl
  have hn : Contract Try.prog 11 [.v (.int .i64 3)] h (.tup [.box h.length 0, .v (.int .i64 0)]) (h ++ [qC none 0 3]) [] := qnew_c (most := 3) (by omega) (by omega) h
  have hd : l.drop 1 = [aE 8] := by rw [hl]; rfl
  rw [hd] at t3
  have hhd := qhead_c t3 (by intro e he; simp at he; subst he; exact aE_fit _)
  have hle := qlen_c (t3.app [enC (aE 8)] (by simp))
  have hrow : RowsAt H2 (h.length + 1) 0 l := t2.rows rfl
  have hrow3 : RowsAt (qH H2 h.length (some (h.length + 1, 0)) 1 l.length 3) (h.length + 1) 0 l := hrow.stay (hg3 _ (by omega))
  have htk : ∀ more, List.take h.length (qH H2 h.length (some (h.length + 1, 0)) 1 l.length 3 ++ more) = h := fun more => take_of (by omega) (fun q hq => by rw [hg3 q (by omega), hg2 q hq]) more
  have hlt3 := t3.lt
  change ltLL (qH H2 h.length (some (h.length + 1, 0)) 1 l.length 3).length (qH H2 h.length (some (h.length + 1, 0)) 1 l.length 3) at hlt3
  change Contract _ _ _ (qH H2 h.length (some (h.length + 1, 0)) 1 l.length 3) _ (qH H2 h.length (some (h.length + 1, 0)) 1 l.length 3) _ at hhd
  change Contract _ _ _ (qH H2 h.length (some (h.length + 1, 0)) 1 l.length 3 ++ _) _ (qH H2 h.length (some (h.length + 1, 0)) 1 l.length 3 ++ _) _ at hle
  generalize qH H2 h.length (some (h.length + 1, 0)) 1 l.length 3 = H3 at *
  obtain ⟨cs, hb, hrd⟩ := hrow3.reads
  have hfit0 := hrd.fit 0 (by omega)
  have hat0 := hrd.at_ (j := 0) (by omega) 0 (by omega)
  have e0 : l[0] = aE 2 := by simp [hl]
  rw [e0, enC_0] at hat0
  have hbm : ∀ more : List (List AV), (H3 ++ more)[h.length + 1]? = some cs := fun more => by rw [List.getElem?_append_left (List.getElem?_eq_some_iff.1 hb).1]; exact hb
  simp [aE] at hat0 hhd hle
  simp [c14]
  refine xcall_self (by simp) hn ?_
  simp
  refine xcall_of hp (by simp [hl, aE, zE, enC_mk]) (by simp) ?_
  simp
  refine xcall_self (by simp) hsk ?_
  simp
  refine xcall_self (by simp) hhd ?_
  simp [hbm, hat0]
  refine xcall_self (by simp) hle ?_
  simp [hh, htk]
  omega
/-! ### A queue that no call made -/
section
variable {h : List (List AV)}
theorem nlen_c (h : List (List AV)) : Contract Try.prog 28 [.v (.pointer none)] h (.v (.int .i64 0)) h [] := by
  refine contract_of k28 mixed (by simp [c28]) fun hh hargs => ?_
  simp [c28, hh]
  done
theorem nhead_c (h : List (List AV)) : Contract Try.prog 26 [.v (.pointer none)] h (.tup [.agg (enC zE), .v (.bool false)]) h [] := by
  refine contract_of k26 mixed (by simp [c26]) fun hh hargs => ?_
  have hl2 := ltLL_mono (Nat.le_add_right h.length 1) hh
  simp [c26]
  refine xcall_self (by simp) (nlen_c _) ?_
  simp [hh, hl2, leqH_take, enC_mk, zE]
  done
theorem nskip_c (h : List (List AV)) : Contract Try.prog 21 [.v (.pointer none)] h (.sl 0 [] (some true) .exact) h [] := by
  refine contract_of k21 mixed (by simp [c21]) fun hh hargs => ?_
  simp [c21]
  refine xcall_self (by simp) (nlen_c _) ?_
  simp [hh]
  done
theorem npush_c (e : En) (h : List (List AV)) : Contract Try.prog 15 [.v (.pointer none), .sl 8 (enc enC [e]) none .no] h (.v (.int .i64 2)) h [] := by
  refine contract_of k15 mixed (by simp [c15]) fun hh hargs => ?_
  simp [c15, hh]
  done
theorem zpush_c {i : Nat} (ht : QAt h i none 0 []) (e : En) : Contract Try.prog 15 [.box i 0, .sl 8 (enc enC [e]) none .no] h (.v (.int .i64 2)) h [] := by
  have hil := ht.il
  have hig := ht.ig
  refine contract_of k15 mixed (by simp [c15]) fun hh hargs => ?_
  simp [c15, hil, hig, qC, qV, hh]
  done
theorem zhide_c {i : Nat} (ht : QAt h i none 0 []) : Contract Try.prog 24 [.box i 0] h (.sl 1 [] none .no) h [] := by
  have hil := ht.il
  have hig := ht.ig
  refine contract_of k24 mixed (by simp [c24]) fun hh hargs => ?_
  simp [c24, hil, hig, qC, qV]
  refine xloop_ok (D := Nat) (fun j => ⟨[(3, .sl 0 [] (some true) .exact), (12, .v (.int .i64 0)), (13, .v (.int .i64 0))], [], h, []⟩) (fun j => True) (fun j => 0) 0 trivial ?_ ?_
  · simp [Leq, hh, leqH_take]
    done
  · intro j hj
    simp [hh]
    done
end
/-- A variable more, or a cell that turned, and a queue that was not made is as it was. -/
theorem zQ_at {h : List (List AV)} {i : Nat} (hi : h[i]? = some [.sl 0 [] (some true) .exact, .v (.int .i64 0)]) (hh : ltLL h.length h) : QAt h i none 0 [] := ⟨hi, hh, fun _ => rfl, fun p hp => by cases hp⟩
theorem qnobody_c (a : En) : Contract Try.prog 6 [.agg (enC a)] [] (.v (.bool true)) [] [] := by
  refine contract_of k6 mixed (by simp [c6]) fun hh hargs => ?_
  have z1 : QAt [enC a, [.sl 0 [] (some true) .exact, .v (.int .i64 0)], enC zE] 1 none 0 [] := zQ_at rfl (by simp)
  have z2 : QAt [enC a, [.sl 0 [] (some true) .exact, .v (.int .i64 0)], enC zE, enC zE] 1 none 0 [] := zQ_at rfl (by simp)
  have e1 : enc enC [a] = [enC a] := rfl
  simp [c6]
  refine xcall_self (by simp) (nhead_c _) ?_
  simp
  refine xcall_self (by simp) (qpop_no z1) ?_
  simp
  refine xcall_of (npush_c a _) (by simp [e1]) (by simp) ?_
  simp
  refine xcall_of (zpush_c z2 a) (by simp [e1]) (by simp) ?_
  simp
  refine xcall_self (by simp) (nskip_c _) ?_
  simp
  refine xcall_self (by simp) (zhide_c z2) ?_
  simp
  refine xcall_self (by simp) (nlen_c _) ?_
  simp
  refine xcall_self (by simp) (qlist_c z2 (by simp) (by simp)) ?_
  simp
  refine xcall_self (by simp) (qawake_c _) ?_
  simp
  trace_state
  done
end Go.Proofs.Ytpogpofmakcodaa.Ax
namespace Go.Proofs.Ytpogpofmakcodaa.queueNobody
open Go.ChangeShapes Go.WideShapes Go.ChangeAt Go.RowKit
open Go.ChangeMaps (open_string shut_string)
set_option linter.unusedVariables false

theorem own : ownKnob Try.prog.godebug = none := by kernel_rfl
theorem laidOut : laidOutB Try.prog = true := by kernel_rfl

set_option maxRecDepth 100000 in
theorem lifted (os : Os) (started : os.Started) (H : Type) (enc : TypeId × Value → H) :
    ReturnsInHanded {} Try.checked os 6 .any (Rows.queueNobodySpec.pre6 enc Try.prog Try.f6 Rows.queueNobodyRow.domain false) (Rows.queueNobodySpec.post enc Try.prog Try.f6 false true false false) := by
  refine returnsInHanded_of_change (C := Try.checked) own started (by kernel_rfl) Try.func6
    (ChangeSpec.witness6 (enc := enc) (C := Try.checked) false ⟨#[], #[.agg #[.int .i64 0, .bool false, .string ByteArray.empty, .string ByteArray.empty, .slice none 0 0, .slice none 0 0, .slice none 0 0, .slice none 0 0]], []⟩ 8 (by kernel_rfl) (by kernel_rfl) (by kernel_rfl) (by kernel_rfl)) ?_
  intro W base args ds gs before hval0 hW hcnd _
  have hval : ∀ (j : Nat) t v, Try.f6.params[j]? = some t → args[j]? = some v → Value.okWide Try.prog W .any base t v := hval0
  have hW' := hW
  obtain ⟨p, q, hA0, hV, rfl, hfz, hnd⟩ := hW
  have hA : DataW.TrodAll enc Try.prog W 0 (fun _ => true) true Try.f6.params.toList args.toList ds p := hA0
  rw [Try.params6] at hA hval
  obtain ⟨v0, vs0, d0, ds0, p0, q0, hargs, rfl, rfl, h0, r0⟩ := trodAll_cons hA
  obtain ⟨rfl, rfl, rfl⟩ := trodAll_nil r0
  obtain rfl : args = #[v0] := by cases args; simp_all
  obtain ⟨rfl, rfl⟩ := trodVars_none hV
  have k0 := h0
  have lt0 : ∀ x ∈ p0, x.block < W.heap.size := by obtain ⟨m, hm⟩ := k0; exact DataW.trod_lt m _ _ _ hm
  obtain ⟨a0, ok0, s0⟩ := Ax.arg_struct Try.underlying41 Ax.sh_enC (hval 0 41 v0 rfl rfl) h0
  clear hA0 hval0
  refine (Ax.law_walk (w := W) (Ax.dom_any W) (Ax.qnobody_c a0) (by simp) (.cons s0 .nil)).mono fun e W' ⟨he, bel⟩ => ?_
  subst he
  exact ⟨_, rfl, _, _, _, [], _, [], hW', trodAll_mk1 (shut_bool Try.underlying4 _), (trodAll_cons_mk (Below.trod laidOut (by kernel_rfl) (of_decide_eq_true (by kernel_rfl)) k0 bel lt0) trodAll_mk0), rfl, bel.frame _, fun h => by cases h⟩

theorem over : Rows.queueNobodyRow.holds Try.pinned (OpenSpec.ofChange Rows.queueNobodySpec) :=
  OpenClaim.holds_of_wide 6 Try.f6 rfl rfl rfl rfl rfl rfl rfl ⟨rfl, rfl, rfl, rfl, rfl⟩ rfl rfl rfl rfl rfl (by kernel_rfl) Try.func6 (by kernel_rfl)
    (of_decide_eq_true (by kernel_rfl)) (by unfold Func.isWrapper; first | (rw [if_pos (by decide +kernel)]; kernel_rfl) | (rw [if_neg (by decide +kernel)]; exact ⟨rfl, rfl⟩))
    (fun os started H enc _ => lifted os started H enc)

theorem proved : Rows.QueueNobodySaid := over
#print axioms proved
end Go.Proofs.Ytpogpofmakcodaa.queueNobody
