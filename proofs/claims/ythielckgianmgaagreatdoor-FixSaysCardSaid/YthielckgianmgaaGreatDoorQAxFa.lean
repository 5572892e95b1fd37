/- Package fault over values without memory: Make, Get, With, Fatal; the statement of what was put. -/
import Derived.Test.YthielckgianmgaaGreatDoorQAxFm
import Derived.Test.YthielckgianmgaaGreatDoorQAxKc0
import Derived.Test.YthielckgianmgaaGreatDoorQAxPl
import Derived.Test.YthielckgianmgaaGreatDoorQCodeA
import Derived.Test.YthielckgianmgaaGreatDoorQAxTz
import Derived.Test.YthielckgianmgaaGreatDoorQAxBs
import Derived.Test.YthielckgianmgaaGreatDoorQAxIb
/- remudaplain.Front, .Fronts: messages that are short enough to be tried, over values without memory. -/
namespace Go.Proofs.YthielckgianmgaaGreatDoor.Ax
open Go.RowKit Go By Nm Sc Dg
set_option linter.unusedSimpArgs false
set_option linter.unusedVariables false
set_option maxRecDepth 10000

end Go.Proofs.YthielckgianmgaaGreatDoor.Ax
/- The statements of layer 6 (front) as contracts. -/
namespace Go.Proofs.YthielckgianmgaaGreatDoor.Ax
open Go.RowKit Go By Nm Sc Dg
open He (textL)
set_option linter.unusedSimpArgs false
set_option linter.unusedVariables false
set_option maxRecDepth 10000

/-! ### Sizes -/
/-! ### What Decode answers on both sides is one -/
/-! ### The statements -/
end Go.Proofs.YthielckgianmgaaGreatDoor.Ax
/- The statements of layer 7 (back) as contracts. -/
namespace Go.Proofs.YthielckgianmgaaGreatDoor.Ax
open Go.RowKit Go By Nm Sc Dg
open He (textL)
set_option linter.unusedSimpArgs false
set_option linter.unusedVariables false
set_option maxRecDepth 10000

/-! ### Messages that are short enough -/
theorem flat_le {α : Type} (e : α → List UInt8) (K : Nat) : ∀ l : List α, (∀ x ∈ l, (e x).length ≤ K) → (l.flatMap e).length ≤ K * l.length
  | [], _ => by simp
  | x :: l, hl => by
    have h1 := flat_le e K l fun c hc => hl c (List.mem_cons_of_mem _ hc)
    have h2 := hl x (List.mem_cons_self ..)
    rw [List.flatMap_cons, List.length_append, List.length_cons, Nat.mul_add, Nat.mul_one]
    omega
end Go.Proofs.YthielckgianmgaaGreatDoor.Ax
/- The statement of back there and back. -/
namespace Go.Proofs.YthielckgianmgaaGreatDoor.Ax
open Go.RowKit Go By Nm Sc Dg
open He (textL)
set_option linter.unusedSimpArgs false
set_option linter.unusedVariables false
set_option maxRecDepth 10000

end Go.Proofs.YthielckgianmgaaGreatDoor.Ax
namespace Go.Proofs.YthielckgianmgaaGreatDoor.Ax
open Go.RowKit Go By Nm Sc Dg
set_option linter.unusedSimpArgs false
set_option linter.unusedVariables false
set_option maxRecDepth 10000

def isCode (c : Int) (f : Fi) : Bool := f.code == c
theorem ffirst1_c (f : Fi) (c : Int) (b : Nat) (h : List (List AV)) (hb : h[b]? = some [.v (.int .u8 c)]) : Contract Tryz.prog 66 [.agg (fiC f), .box b 0] h (.v (.bool (isCode c f))) h [] := by
  refine contract_of k66 mixed (by simp [c66]) fun hh hargs => ?_
  simp [c66, hh, isCode, app_get hb]
/-- Where the first field with that code stands. -/
theorem ffirst_c (l : List Fi) (c : Int) (hl : l.length ≤ 140737488355328) (h : List (List AV)) : Contract Tryz.prog 42 [.sl 2 (enc fiC l) none .no, .v (.int .u8 c)] h (.v (.int .i64 (idxI (isCode c) l))) h [] := by
  refine contract_of k42 mixed (by simp [c42]) fun hh hargs => ?_
  simp [c42]
  refine xcall_self (by simp) (indexN_any mixed k50 fiC (isCode c) l [.box h.length 0] _ (by simp) (by simp) (by simp) (fun f _ => ffirst1_c f c h.length _ (by simp)) hl) ?_
  simp [hh]
theorem ffirstB_c (l : List Fi) (c : Int) (b : Nat) (hl : l.length ≤ 140737488355328) (h : List (List AV)) (hb : h[b]? = some (enc fiC l).flatten) : Contract Tryz.prog 42 [.bsl b 0 2 l.length, .v (.int .u8 c)] h (.v (.int .i64 (idxI (isCode c) l))) h [] := by
  have hbl := heap_lt hb
  refine contract_of k42 mixed (by simp [c42]) fun hh hargs => ?_
  simp [c42]
  refine xcall_self (by simp) (indexB_any mixed k50 fiC (isCode c) l [.box h.length 0] b _ (app_get hb _) (by simp) (by simp) (by simp) (fun f _ => ffirst1_c f c h.length _ (by simp)) hl) ?_
  simp [hh]
/-- The first field with that code. -/
def getF (l : List Fi) (c : Int) : List UInt8 × Bool := match l.find? (isCode c) with | some f => (f.text, true) | none => ([], false)
theorem idx_some {l : List Fi} {c : Int} {i : Nat} (h : l.findIdx? (isCode c) = some i) : ∃ hi : i < l.length, idxI (isCode c) l = i ∧ isCode c l[i] = true ∧ ∀ j (hj : j < i), isCode c (l[j]'(by omega)) = false := by
  obtain ⟨hi, h1, h2⟩ := List.findIdx?_eq_some_iff_getElem.1 h
  exact ⟨hi, by unfold idxI; rw [h], h1, fun j hj => by simpa using h2 j hj⟩
theorem idx_none {l : List Fi} {c : Int} (h : l.findIdx? (isCode c) = none) : idxI (isCode c) l = -1 := by unfold idxI; rw [h]
theorem getF_some {l : List Fi} {c : Int} {i : Nat} (h : l.findIdx? (isCode c) = some i) (hi : i < l.length) : getF l c = (l[i].text, true) := by
  have : l.find? (isCode c) = some l[i] := by
    obtain ⟨_, h1, h2⟩ := List.findIdx?_eq_some_iff_getElem.1 h
    rw [List.find?_eq_some_iff_getElem]
    exact ⟨h1, i, hi, rfl, fun j hj => by simpa using h2 j hj⟩
  unfold getF; rw [this]
theorem getF_none {l : List Fi} {c : Int} (h : l.findIdx? (isCode c) = none) : getF l c = ([], false) := by
  have : l.find? (isCode c) = none := by
    rw [List.find?_eq_none]
    intro x hx
    rw [List.findIdx?_eq_none_iff.1 h x hx]; simp
  unfold getF; rw [this]
theorem fget_c (l : List Fi) (c : Int) (hl : l.length ≤ 140737488355328) (h : List (List AV)) : Contract Tryz.prog 16 [.sl 2 (enc fiC l) none .no, .v (.int .u8 c)] h (.tup [.v (.string (strB (getF l c).1)), .v (.bool (getF l c).2)]) h [] := by
  refine contract_of k16 mixed (by simp [c16]) fun hh hargs => ?_
  simp [c16]
  refine xcall_self (by simp) (ffirst_c l c hl _) ?_
  cases hx : l.findIdx? (isCode c) with
  | none =>
    rw [idx_none hx, getF_none hx]
    simp [hh]
  | some i =>
    obtain ⟨hi, e1, _⟩ := idx_some hx
    rw [e1, getF_some hx hi]
    have h0 : ¬ (i : Int) < 0 := by omega
    obtain ⟨cd, tx, hli⟩ : ∃ cd tx, l[i] = ⟨cd, tx⟩ := ⟨_, _, rfl⟩
    simp [hh, h0, hi, hli, fiC_mk]
/-- With another text in the first field with that code. -/
def withF (l : List Fi) (c : Int) (t : List UInt8) : List Fi := match l.findIdx? (isCode c) with | some i => l.set i ⟨c, t⟩ | none => l
theorem flat_set : ∀ (l : List Fi) (i : Nat) (hi : i < l.length) (t : List UInt8), (enc fiC l).flatten.set (i * 2 + 1) (.v (.string (strB t))) = (enc fiC (l.set i ⟨l[i].code, t⟩)).flatten
  | x :: l, 0, _, t => by simp [fiC]
  | x :: l, i + 1, hi, t => by
    have hi' : i < l.length := by simpa using hi
    have ih := flat_set l i hi' t
    rw [List.set_cons_succ, enc_cons, enc_cons, List.flatten_cons, List.flatten_cons]
    rw [List.set_append_right _ _ (by simp; omega), show (i + 1) * 2 + 1 - (fiC x).length = i * 2 + 1 by simp; omega, ih]
    rfl
theorem fwith_c (l : List Fi) (c : Int) (t : List UInt8) (hl : l.length ≤ 1000000) (h : List (List AV)) : Contract Tryz.prog 57 [.sl 2 (enc fiC l) none .no, .v (.int .u8 c), .v (.string (strB t))] h (.sl 2 (enc fiC (withF l c t)) none .no) h [] := by
  by_cases hne : l = []
  · subst hne
    refine contract_of k57 mixed (by simp [c57]) fun hh hargs => ?_
    simp [c57]
    refine xcall_self (by simp) (clone_fi0_c _) ?_
    simp
    refine xcall_of (ffirst_c [] c (by simp) _) (by simp) (by simp) ?_
    have e1 : idxI (isCode c) [] = -1 := rfl
    have e2 : withF [] c t = [] := rfl
    rw [e1, e2]
    simp [hh]
  refine contract_cut (XCode.cuts [false, false, false, true] c57.code) k57 rfl mixed (by simp [c57]) fun hh hargs => ?_
  have hfz : ∀ l : List Fi, l ≠ [] → frzOk (enc fiC l).flatten := fun l hl => by
    cases l with
    | nil => exact absurd rfl hl
    | cons x r => exact trivial
  have hflat : (enc fiC l).flatten ≠ [] := fun e => hne (by
    have := flat_len2 (c := fiC) (k := 2) (by simp) l
    rw [e] at this
    exact List.eq_nil_of_length_eq_zero (by simp at this; omega))
  simp [c57]
  refine xcall_self (by simp) (clone_fi_c l hne (by omega) _) ?_
  simp
  refine xcall_self (by simp) (ffirstB_c l c h.length (by omega) _ (by simp)) ?_
  cases hx : l.findIdx? (isCode c) with
  | none =>
    rw [idx_none hx]
    have e : withF l c t = l := by unfold withF; rw [hx]
    rw [e]
    simp
    refine xseq_frz h.length (enc fiC l).flatten ⟨[(6, .sl 2 (enc fiC l) none .no)], [], h, []⟩ (Nat.le_refl _) (hfz l hne) ?_ ?_
    · have hz := frz_all (c := fiC) (k := 2) (by simp) l h.length l.length rfl
      generalize (enc fiC l).flatten = F at *
      simp [Leq, hh, hz]
    · simp [hh]
  | some i =>
    obtain ⟨hi, e1, e2, _⟩ := idx_some hx
    rw [e1]
    have e : withF l c t = l.set i ⟨c, t⟩ := by unfold withF; rw [hx]
    have hci : l[i].code = c := by simpa [isCode] using e2
    have hset := flat_set l i hi t
    rw [hci] at hset
    have hfit := flat_fit (c := fiC) (k := 2) (by simp) l hi
    have hz := frz_all (c := fiC) (k := 2) (by simp) (l.set i ⟨c, t⟩) h.length l.length (by simp)
    have hflat2 : frzOk (enc fiC (l.set i ⟨c, t⟩)).flatten := hfz _ (by simpa using hne)
    rw [e]
    generalize (enc fiC (l.set i ⟨c, t⟩)).flatten = F2 at *
    generalize (enc fiC l).flatten = F at *
    have h0 : (0 : Int) ≤ i := by omega
    have hlt : i * 2 + 1 + 1 ≤ F.length := by omega
    simp [h0, hi, hlt, hset]
    refine xseq_frz h.length F2 ⟨[(6, .sl 2 (enc fiC (l.set i ⟨c, t⟩)) none .no)], [], h, []⟩ (Nat.le_refl _) hflat2 ?_ ?_
    · simp [Leq, hh, hz]
    · simp [hh]

/-! ### What was put is got -/
theorem with_cons (x : Fi) (l : List Fi) (c : Int) (t : List UInt8) : withF (x :: l) c t = if isCode c x = true then ⟨c, t⟩ :: l else x :: withF l c t := by
  unfold withF
  rw [List.findIdx?_cons]
  by_cases h : isCode c x = true
  · rw [if_pos h, if_pos h]; rfl
  · rw [if_neg h, if_neg h]
    cases hx : l.findIdx? (isCode c) <;> simp
theorem get_cons (x : Fi) (l : List Fi) (c : Int) : getF (x :: l) c = if isCode c x = true then (x.text, true) else getF l c := by
  unfold getF
  rw [List.find?_cons]
  by_cases h : isCode c x = true
  · rw [if_pos h, h]
  · have h' : isCode c x = false := by simpa using h
    rw [if_neg h, h']
theorem with_len (c : Int) (t : List UInt8) : ∀ l : List Fi, (withF l c t).length = l.length
  | [] => rfl
  | x :: l => by
    rw [with_cons]
    split
    · rfl
    · rw [List.length_cons, with_len c t l, List.length_cons]
theorem get_with (c : Int) (t : List UInt8) : ∀ l : List Fi, getF (withF l c t) c = if (getF l c).2 = true then (t, true) else ([], false)
  | [] => rfl
  | x :: l => by
    rw [with_cons, get_cons]
    by_cases h : isCode c x = true
    · rw [if_pos h, if_pos h, get_cons]
      have : isCode c ⟨c, t⟩ = true := by simp [isCode]
      rw [if_pos this]; rfl
    · rw [if_neg h, if_neg h, get_cons, if_neg h, get_with c t l]
/-! ### A fault -/
def makeF (sev code text : List UInt8) : List Fi := [⟨83, sev⟩, ⟨86, sev⟩, ⟨67, code⟩, ⟨77, text⟩]
def toldF (sev code text : List UInt8) : Bk := ⟨69, 0, [], [], [], 0, 0, [], [], [], makeF sev code text⟩
theorem fmake_c (sev code text : List UInt8) (h : List (List AV)) : Contract Tryz.prog 67 [.v (.string (strB sev)), .v (.string (strB code)), .v (.string (strB text))] h (.sl 2 (enc fiC (makeF sev code text)) none .no) h [] := by
  refine contract_of k67 mixed (by simp [c67]) fun hh hargs => ?_
  simp [c67, hh, makeF, fiC_mk]
theorem ftold_c (sev code text : List UInt8) (h : List (List AV)) : Contract Tryz.prog 43 [.v (.string (strB sev)), .v (.string (strB code)), .v (.string (strB text))] h (.agg (bkC (toldF sev code text))) h [] := by
  refine contract_of k43 mixed (by simp [c43]) fun hh hargs => ?_
  simp [c43]
  refine xcall_self (by simp) (fmake_c _ _ _ _) ?_
  simp [hh, toldF, bkC_mk]
theorem told_fit (sev code text : List UInt8) (h1 : sev.length ≤ 1000) (h2 : code.length ≤ 1000) (h3 : text.length ≤ 1000) : BkFit (toldF sev code text) ∧ BkOk (toldF sev code text) ∧ (bodyB (toldF sev code text)).length ≤ 100000 := by
  refine ⟨⟨by simp [toldF], by simp [toldF], by simp [toldF], by simp [toldF, makeF], by simp [toldF]⟩, ⟨by simp [toldF], by simp [toldF], by simp [toldF], by simp [toldF, makeF]⟩, ?_⟩
  have e : bodyB (toldF sev code text) = fieldsE (makeF sev code text) := rfl
  rw [e]
  simp [fieldsE, makeF, fieldE, textsL, He.encT]
  omega
end Go.Proofs.YthielckgianmgaaGreatDoor.Ax
