/- Package fault over values without memory: Make, Get, With, Fatal; the statement of what was put. -/
import Derived.Test.YthielckgianmgaaGreatDoorQAxFm
import Derived.Test.YthielckgianmgaaGreatDoorQAxKc0
import Derived.Test.YthielckgianmgaaGreatDoorQAxPl
import Derived.Test.YthielckgianmgaaGreatDoorQCodeA
import Derived.Test.YthielckgianmgaaGreatDoorQAxTz
import Derived.Test.YthielckgianmgaaGreatDoorQAxBs
import Derived.Test.YthielckgianmgaaGreatDoorQAxIb
/- remudaplain.Front, .Fronts: messages that are short enough to be tried, over values without memory. -/
namespace Go.Proofs.YthielckgianmgaaGreatDoor.Ax
open Go.RowKit Go By Nm Sc Dg
set_option linter.unusedSimpArgs false
set_option linter.unusedVariables false
set_option maxRecDepth 10000

def longC (c : Cl) : Bool := decide (300 < (c.2.length : Int))
end Go.Proofs.YthielckgianmgaaGreatDoor.Ax
/- The statements of layer 6 (front) as contracts. -/
namespace Go.Proofs.YthielckgianmgaaGreatDoor.Ax
open Go.RowKit Go By Nm Sc Dg
open He (textL)
set_option linter.unusedSimpArgs false
set_option linter.unusedVariables false
set_option maxRecDepth 10000

/-! ### Sizes -/
/-! ### What Decode answers on both sides is one -/
/-! ### The statements -/
end Go.Proofs.YthielckgianmgaaGreatDoor.Ax
/- The statements of layer 7 (back) as contracts. -/
namespace Go.Proofs.YthielckgianmgaaGreatDoor.Ax
open Go.RowKit Go By Nm Sc Dg
open He (textL)
set_option linter.unusedSimpArgs false
set_option linter.unusedVariables false
set_option maxRecDepth 10000

/-! ### Messages that are short enough -/
def manyB (m : Bk) : Bool := decide (50 < (m.oids.length : Int)) || (decide (50 < (m.cols.length : Int)) || (decide (50 < (m.row.length : Int)) || decide (50 < (m.fields.length : Int))))
def longCo (c : Co) : Bool := decide (300 < (c.name.length : Int))
def longFi (c : Fi) : Bool := decide (1000 < (c.text.length : Int))
def longB (m : Bk) : Bool := m.cols.any longCo || (m.row.any longC || m.fields.any longFi)
def plainB (m : Bk) : Bool := !manyB m && (!longB m && (decide ((m.tag.length : Int) ≤ 300) && (decide ((m.name.length : Int) ≤ 300) && decide ((m.value.length : Int) ≤ 300))))
theorem bplain1_c (c : Co) (h : List (List AV)) : Contract Tryz.prog 24 [.agg (coC c)] h (.v (.bool (longCo c))) h [] := by
  refine contract_of k24 mixed (by simp [c24]) fun hh hargs => ?_
  simp [c24, hh, longCo]
theorem bplain2_c (c : Cl) (h : List (List AV)) : Contract Tryz.prog 26 [.agg (cellC c)] h (.v (.bool (longC c))) h [] := by
  refine contract_of k26 mixed (by simp [c26]) fun hh hargs => ?_
  simp [c26, hh, longC]
theorem bplain3_c (c : Fi) (h : List (List AV)) : Contract Tryz.prog 28 [.agg (fiC c)] h (.v (.bool (longFi c))) h [] := by
  refine contract_of k28 mixed (by simp [c28]) fun hh hargs => ?_
  simp [c28, hh, longFi]
theorem bplain_c (m : Bk) (h : List (List AV)) : Contract Tryz.prog 7 [.agg (bkC m)] h (.v (.bool (plainB m))) h [] := by
  refine contract_cut (XCode.cuts [false, true] c7.code) k7 rfl mixed (by simp [c7]) fun hh hargs => ?_
  have plain_no : manyB m = true → plainB m = false := fun h => by unfold plainB; rw [h]; rfl
  simp [c7]
  by_cases hm : manyB m = true
  · rw [plain_no hm]
    refine xmark ?_
    unfold manyB at hm
    by_cases h1 : 50 < (m.oids.length : Int)
    · simp [h1, hh]
    by_cases h2 : 50 < (m.cols.length : Int)
    · simp [h1, h2, hh]
    by_cases h3 : 50 < (m.row.length : Int)
    · simp [h1, h2, h3, hh]
    by_cases h4 : 50 < (m.fields.length : Int)
    · simp [h1, h2, h3, h4, hh]
    simp [h1, h2, h3, h4] at hm
  · have hm' : manyB m = false := by simpa using hm
    have hp : plainB m = (!longB m && (decide ((m.tag.length : Int) ≤ 300) && (decide ((m.name.length : Int) ≤ 300) && decide ((m.value.length : Int) ≤ 300)))) := by unfold plainB; rw [hm']; rfl
    rw [hp]
    unfold manyB at hm'
    simp only [Bool.or_eq_false_iff, decide_eq_false_iff_not] at hm'
    obtain ⟨h1, h2, h3, h4⟩ := hm'
    unfold longB
    refine xseq_cut ⟨[(1, .box h.length 0)], [], h ++ [bkC m], []⟩ ?_ ?_
    · simp [h1, h2, h3, h4, Leq, hh]
    · simp
      refine xcall_self (by simp) (containsN_any mixed k23 k48 coC longCo m.cols [] _ (by simp) (by simp) (by simp) (fun c hm => bplain1_c c _) (by omega)) ?_
      cases p1 : m.cols.any longCo with
      | true => simp [hh]
      | false =>
      simp
      refine xcall_self (by simp) (containsN_any mixed k25 k49 cellC longC m.row [] _ (by simp) (by simp) (by simp) (fun c hm => bplain2_c c _) (by omega)) ?_
      cases p2 : m.row.any longC with
      | true => simp [hh]
      | false =>
      simp
      refine xcall_self (by simp) (containsN_any mixed k27 k50 fiC longFi m.fields [] _ (by simp) (by simp) (by simp) (fun c hm => bplain3_c c _) (by omega)) ?_
      cases p3 : m.fields.any longFi with
      | true => simp [hh]
      | false =>
      simp
      by_cases p4 : (m.tag.length : Int) ≤ 300
      · by_cases p5 : (m.name.length : Int) ≤ 300
        · simp [p4, p5, hh]
        · simp [p4, p5, hh]
      · simp [p4, hh]
theorem flat_le {α : Type} (e : α → List UInt8) (K : Nat) : ∀ l : List α, (∀ x ∈ l, (e x).length ≤ K) → (l.flatMap e).length ≤ K * l.length
  | [], _ => by simp
  | x :: l, hl => by
    have h1 := flat_le e K l fun c hc => hl c (List.mem_cons_of_mem _ hc)
    have h2 := hl x (List.mem_cons_self ..)
    rw [List.flatMap_cons, List.length_append, List.length_cons, Nat.mul_add, Nat.mul_one]
    omega
theorem listL_le {α : Type} (e : α → List UInt8) (K : Nat) (l : List α) (h : ∀ x ∈ l, (e x).length ≤ K) : (listL e l).length ≤ 4 + K * l.length := by
  have h1 := flat_le e K l h
  have h2 := put_len (l.length : Int) 2 (by omega) []
  rw [listL_eq, List.length_append]
  simp only [List.length_nil] at h2
  omega
/-- Its size then. -/
theorem fit_of_plainB {m : Bk} (hs : 0 ≤ m.status ∧ m.status < 256) (hf : ∀ f ∈ m.fields, FiOk f) (h : plainB m = true) : BkFit m ∧ BkOk m ∧ (bodyB m).length ≤ 100000 := by
  unfold plainB manyB longB at h
  simp only [Bool.and_eq_true, Bool.not_eq_true', Bool.or_eq_false_iff, decide_eq_false_iff_not, decide_eq_true_eq] at h
  obtain ⟨⟨h1, h2, h3, h4⟩, ⟨h5, h6, h7⟩, h8, h9, h10⟩ := h
  have hco : ∀ c ∈ m.cols, c.name.length ≤ 300 := fun c hc => by
    have := List.any_eq_false.1 h5 c hc
    simp [longCo] at this; omega
  have hcl : ∀ c ∈ m.row, c.2.length ≤ 300 := fun c hc => by
    have := List.any_eq_false.1 h6 c hc
    simp [longC] at this; omega
  have hfi : ∀ c ∈ m.fields, c.text.length ≤ 1000 := fun c hc => by
    have := List.any_eq_false.1 h7 c hc
    simp [longFi] at this; omega
  have t : ∀ (l : List UInt8), (He.encT l).length = l.length + 1 := encT_len
  refine ⟨⟨by omega, by omega, by omega, by omega, fun c h => by have := hcl c h; omega⟩, ⟨hs, fun c h => by have := hcl c h; omega, fun c h => by have := hco c h; omega, hf⟩, ?_⟩
  have c1 := listL_le cellE 304 m.row fun c hc => by
    have h2 := hcl c hc
    obtain ⟨n, b⟩ := c
    have h2' : b.length ≤ 300 := h2
    cases n with
    | true =>
      have := put_len 4294967295 4 (by omega) []
      rw [cellE_null]; simp only [List.length_nil] at this; omega
    | false =>
      have := put_len (b.length : Int) 4 (by omega) []
      rw [cellE_bytes, List.length_append]; simp only [List.length_nil] at this; omega
  have c2 := listL_le colE 325 m.cols fun c hc => by
    have h2 := hco c hc
    have l1 := numE_len 4 c.table (by omega)
    have l2 := numE_len 2 c.attr (by omega)
    have l3 := numE_len 4 c.oid (by omega)
    have l4 := numE_len 2 c.size (by omega)
    have l5 := numE_len 4 c.mod (by omega)
    have l6 := numE_len 2 c.format (by omega)
    unfold colE
    simp only [textsL_one, List.length_append, t]
    omega
  have c3 := listL_le (numE 4) 4 m.oids fun n _ => numE_len 4 n (by omega)
  have c4 : (fieldsE m.fields).length ≤ 1002 * m.fields.length + 1 := by
    have := flat_le fieldE 1002 m.fields fun f hf => by
      have := hfi f hf
      unfold fieldE
      simp only [textsL_one, List.length_cons, t]
      omega
    unfold fieldsE
    rw [List.length_append, List.length_singleton]
    omega
  have n1 := numE_len 4 m.n (by omega)
  have n2 := numE_len 4 m.m (by omega)
  have n3 := numE_len 4 0 (by omega)
  unfold bodyB
  repeat' split
  all_goals simp only [textsL, List.flatMap_cons, List.flatMap_nil, List.length_append, List.length_cons, List.length_nil, t, List.append_nil] at *
  all_goals omega
end Go.Proofs.YthielckgianmgaaGreatDoor.Ax
/- The statement of back there and back. -/
namespace Go.Proofs.YthielckgianmgaaGreatDoor.Ax
open Go.RowKit Go By Nm Sc Dg
open He (textL)
set_option linter.unusedSimpArgs false
set_option linter.unusedVariables false
set_option maxRecDepth 10000

end Go.Proofs.YthielckgianmgaaGreatDoor.Ax
namespace Go.Proofs.YthielckgianmgaaGreatDoor.Ax
open Go.RowKit Go By Nm Sc Dg
set_option linter.unusedSimpArgs false
set_option linter.unusedVariables false
set_option maxRecDepth 10000

def isCode (c : Int) (f : Fi) : Bool := f.code == c
theorem ffirst1_c (f : Fi) (c : Int) (b : Nat) (h : List (List AV)) (hb : h[b]? = some [.v (.int .u8 c)]) : Contract Tryz.prog 66 [.agg (fiC f), .box b 0] h (.v (.bool (isCode c f))) h [] := by
  refine contract_of k66 mixed (by simp [c66]) fun hh hargs => ?_
  simp [c66, hh, isCode, app_get hb]
/-- Where the first field with that code stands. -/
theorem ffirst_c (l : List Fi) (c : Int) (hl : l.length ≤ 140737488355328) (h : List (List AV)) : Contract Tryz.prog 42 [.sl 2 (enc fiC l) none .no, .v (.int .u8 c)] h (.v (.int .i64 (idxI (isCode c) l))) h [] := by
  refine contract_of k42 mixed (by simp [c42]) fun hh hargs => ?_
  simp [c42]
  refine xcall_self (by simp) (indexN_any mixed k50 fiC (isCode c) l [.box h.length 0] _ (by simp) (by simp) (by simp) (fun f _ => ffirst1_c f c h.length _ (by simp)) hl) ?_
  simp [hh]
theorem ffirstB_c (l : List Fi) (c : Int) (b : Nat) (hl : l.length ≤ 140737488355328) (h : List (List AV)) (hb : h[b]? = some (enc fiC l).flatten) : Contract Tryz.prog 42 [.bsl b 0 2 l.length, .v (.int .u8 c)] h (.v (.int .i64 (idxI (isCode c) l))) h [] := by
  have hbl := heap_lt hb
  refine contract_of k42 mixed (by simp [c42]) fun hh hargs => ?_
  simp [c42]
  refine xcall_self (by simp) (indexB_any mixed k50 fiC (isCode c) l [.box h.length 0] b _ (app_get hb _) (by simp) (by simp) (by simp) (fun f _ => ffirst1_c f c h.length _ (by simp)) hl) ?_
  simp [hh]
/-- The first field with that code. -/
def getF (l : List Fi) (c : Int) : List UInt8 × Bool := match l.find? (isCode c) with | some f => (f.text, true) | none => ([], false)
theorem idx_some {l : List Fi} {c : Int} {i : Nat} (h : l.findIdx? (isCode c) = some i) : ∃ hi : i < l.length, idxI (isCode c) l = i ∧ isCode c l[i] = true ∧ ∀ j (hj : j < i), isCode c (l[j]'(by omega)) = false := by
  obtain ⟨hi, h1, h2⟩ := List.findIdx?_eq_some_iff_getElem.1 h
  exact ⟨hi, by unfold idxI; rw [h], h1, fun j hj => by simpa using h2 j hj⟩
theorem idx_none {l : List Fi} {c : Int} (h : l.findIdx? (isCode c) = none) : idxI (isCode c) l = -1 := by unfold idxI; rw [h]
theorem getF_some {l : List Fi} {c : Int} {i : Nat} (h : l.findIdx? (isCode c) = some i) (hi : i < l.length) : getF l c = (l[i].text, true) := by
  have : l.find? (isCode c) = some l[i] := by
    obtain ⟨_, h1, h2⟩ := List.findIdx?_eq_some_iff_getElem.1 h
    rw [List.find?_eq_some_iff_getElem]
    exact ⟨h1, i, hi, rfl, fun j hj => by simpa using h2 j hj⟩
  unfold getF; rw [this]
theorem getF_none {l : List Fi} {c : Int} (h : l.findIdx? (isCode c) = none) : getF l c = ([], false) := by
  have : l.find? (isCode c) = none := by
    rw [List.find?_eq_none]
    intro x hx
    rw [List.findIdx?_eq_none_iff.1 h x hx]; simp
  unfold getF; rw [this]
theorem fget_c (l : List Fi) (c : Int) (hl : l.length ≤ 140737488355328) (h : List (List AV)) : Contract Tryz.prog 16 [.sl 2 (enc fiC l) none .no, .v (.int .u8 c)] h (.tup [.v (.string (strB (getF l c).1)), .v (.bool (getF l c).2)]) h [] := by
  refine contract_of k16 mixed (by simp [c16]) fun hh hargs => ?_
  simp [c16]
  refine xcall_self (by simp) (ffirst_c l c hl _) ?_
  cases hx : l.findIdx? (isCode c) with
  | none =>
    rw [idx_none hx, getF_none hx]
    simp [hh]
  | some i =>
    obtain ⟨hi, e1, _⟩ := idx_some hx
    rw [e1, getF_some hx hi]
    have h0 : ¬ (i : Int) < 0 := by omega
    obtain ⟨cd, tx, hli⟩ : ∃ cd tx, l[i] = ⟨cd, tx⟩ := ⟨_, _, rfl⟩
    simp [hh, h0, hi, hli, fiC_mk]
/-- With another text in the first field with that code. -/
def withF (l : List Fi) (c : Int) (t : List UInt8) : List Fi := match l.findIdx? (isCode c) with | some i => l.set i ⟨c, t⟩ | none => l
theorem flat_set : ∀ (l : List Fi) (i : Nat) (hi : i < l.length) (t : List UInt8), (enc fiC l).flatten.set (i * 2 + 1) (.v (.string (strB t))) = (enc fiC (l.set i ⟨l[i].code, t⟩)).flatten
  | x :: l, 0, _, t => by simp [fiC]
  | x :: l, i + 1, hi, t => by
    have hi' : i < l.length := by simpa using hi
    have ih := flat_set l i hi' t
    rw [List.set_cons_succ, enc_cons, enc_cons, List.flatten_cons, List.flatten_cons]
    rw [List.set_append_right _ _ (by simp; omega), show (i + 1) * 2 + 1 - (fiC x).length = i * 2 + 1 by simp; omega, ih]
    rfl
theorem fwith_c (l : List Fi) (c : Int) (t : List UInt8) (hl : l.length ≤ 1000000) (h : List (List AV)) : Contract Tryz.prog 57 [.sl 2 (enc fiC l) none .no, .v (.int .u8 c), .v (.string (strB t))] h (.sl 2 (enc fiC (withF l c t)) none .no) h [] := by
  by_cases hne : l = []
  · subst hne
    refine contract_of k57 mixed (by simp [c57]) fun hh hargs => ?_
    simp [c57]
    refine xcall_self (by simp) (clone_fi0_c _) ?_
    simp
    refine xcall_of (ffirst_c [] c (by simp) _) (by simp) (by simp) ?_
    have e1 : idxI (isCode c) [] = -1 := rfl
    have e2 : withF [] c t = [] := rfl
    rw [e1, e2]
    simp [hh]
  refine contract_cut (XCode.cuts [false, false, false, true] c57.code) k57 rfl mixed (by simp [c57]) fun hh hargs => ?_
  have hfz : ∀ l : List Fi, l ≠ [] → frzOk (enc fiC l).flatten := fun l hl => by
    cases l with
    | nil => exact absurd rfl hl
    | cons x r => exact trivial
  have hflat : (enc fiC l).flatten ≠ [] := fun e => hne (by
    have := flat_len2 (c := fiC) (k := 2) (by simp) l
    rw [e] at this
    exact List.eq_nil_of_length_eq_zero (by simp at this; omega))
  simp [c57]
  refine xcall_self (by simp) (clone_fi_c l hne (by omega) _) ?_
  simp
  refine xcall_self (by simp) (ffirstB_c l c h.length (by omega) _ (by simp)) ?_
  cases hx : l.findIdx? (isCode c) with
  | none =>
    rw [idx_none hx]
    have e : withF l c t = l := by unfold withF; rw [hx]
    rw [e]
    simp
    refine xseq_frz h.length (enc fiC l).flatten ⟨[(6, .sl 2 (enc fiC l) none .no)], [], h, []⟩ (Nat.le_refl _) (hfz l hne) ?_ ?_
    · have hz := frz_all (c := fiC) (k := 2) (by simp) l h.length l.length rfl
      generalize (enc fiC l).flatten = F at *
      simp [Leq, hh, hz]
    · simp [hh]
  | some i =>
    obtain ⟨hi, e1, e2, _⟩ := idx_some hx
    rw [e1]
    have e : withF l c t = l.set i ⟨c, t⟩ := by unfold withF; rw [hx]
    have hci : l[i].code = c := by simpa [isCode] using e2
    have hset := flat_set l i hi t
    rw [hci] at hset
    have hfit := flat_fit (c := fiC) (k := 2) (by simp) l hi
    have hz := frz_all (c := fiC) (k := 2) (by simp) (l.set i ⟨c, t⟩) h.length l.length (by simp)
    have hflat2 : frzOk (enc fiC (l.set i ⟨c, t⟩)).flatten := hfz _ (by simpa using hne)
    rw [e]
    generalize (enc fiC (l.set i ⟨c, t⟩)).flatten = F2 at *
    generalize (enc fiC l).flatten = F at *
    have h0 : (0 : Int) ≤ i := by omega
    have hlt : i * 2 + 1 + 1 ≤ F.length := by omega
    simp [h0, hi, hlt, hset]
    refine xseq_frz h.length F2 ⟨[(6, .sl 2 (enc fiC (l.set i ⟨c, t⟩)) none .no)], [], h, []⟩ (Nat.le_refl _) hflat2 ?_ ?_
    · simp [Leq, hh, hz]
    · simp [hh]

/-! ### What was put is got -/
theorem with_cons (x : Fi) (l : List Fi) (c : Int) (t : List UInt8) : withF (x :: l) c t = if isCode c x = true then ⟨c, t⟩ :: l else x :: withF l c t := by
  unfold withF
  rw [List.findIdx?_cons]
  by_cases h : isCode c x = true
  · rw [if_pos h, if_pos h]; rfl
  · rw [if_neg h, if_neg h]
    cases hx : l.findIdx? (isCode c) <;> simp
theorem get_cons (x : Fi) (l : List Fi) (c : Int) : getF (x :: l) c = if isCode c x = true then (x.text, true) else getF l c := by
  unfold getF
  rw [List.find?_cons]
  by_cases h : isCode c x = true
  · rw [if_pos h, h]
  · have h' : isCode c x = false := by simpa using h
    rw [if_neg h, h']
theorem with_len (c : Int) (t : List UInt8) : ∀ l : List Fi, (withF l c t).length = l.length
  | [] => rfl
  | x :: l => by
    rw [with_cons]
    split
    · rfl
    · rw [List.length_cons, with_len c t l, List.length_cons]
/-! ### A fault -/
def makeF (sev code text : List UInt8) : List Fi := [⟨83, sev⟩, ⟨86, sev⟩, ⟨67, code⟩, ⟨77, text⟩]
def toldF (sev code text : List UInt8) : Bk := ⟨69, 0, [], [], [], 0, 0, [], [], [], makeF sev code text⟩
theorem fmake_c (sev code text : List UInt8) (h : List (List AV)) : Contract Tryz.prog 67 [.v (.string (strB sev)), .v (.string (strB code)), .v (.string (strB text))] h (.sl 2 (enc fiC (makeF sev code text)) none .no) h [] := by
  refine contract_of k67 mixed (by simp [c67]) fun hh hargs => ?_
  simp [c67, hh, makeF, fiC_mk]
theorem ftold_c (sev code text : List UInt8) (h : List (List AV)) : Contract Tryz.prog 43 [.v (.string (strB sev)), .v (.string (strB code)), .v (.string (strB text))] h (.agg (bkC (toldF sev code text))) h [] := by
  refine contract_of k43 mixed (by simp [c43]) fun hh hargs => ?_
  simp [c43]
  refine xcall_self (by simp) (fmake_c _ _ _ _) ?_
  simp [hh, toldF, bkC_mk]
theorem told_fit (sev code text : List UInt8) (h1 : sev.length ≤ 1000) (h2 : code.length ≤ 1000) (h3 : text.length ≤ 1000) : BkFit (toldF sev code text) ∧ BkOk (toldF sev code text) ∧ (bodyB (toldF sev code text)).length ≤ 100000 := by
  refine ⟨⟨by simp [toldF], by simp [toldF], by simp [toldF], by simp [toldF, makeF], by simp [toldF]⟩, ⟨by simp [toldF], by simp [toldF], by simp [toldF], by simp [toldF, makeF]⟩, ?_⟩
  have e : bodyB (toldF sev code text) = fieldsE (makeF sev code text) := rfl
  rw [e]
  simp [fieldsE, makeF, fieldE, textsL, He.encT]
  omega
end Go.Proofs.YthielckgianmgaaGreatDoor.Ax
