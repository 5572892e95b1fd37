/- Replies as clients get them: Back and Shown, the document's answer, over values without memory. -/
import Derived.Test.YthielckgianmgaaGreatDoorQAxFt
import Derived.Test.YthielckgianmgaaGreatDoorQAxFa
import Derived.Test.YthielckgianmgaaGreatDoorQAxFx
/- The statement of back's messages as bytes. -/
namespace Go.Proofs.YthielckgianmgaaGreatDoor.Ax
open Go.RowKit Go By YthielckgianmgaaGreatDoor.Nm Sc Dg
open He (textL)
set_option linter.unusedSimpArgs false
set_option linter.unusedVariables false
set_option maxRecDepth 10000

end Go.Proofs.YthielckgianmgaaGreatDoor.Ax
namespace Go.Proofs.YthielckgianmgaaGreatDoor.Ax
open Go.RowKit Go By Sc Dg
set_option linter.unusedSimpArgs false
set_option linter.unusedVariables false
set_option maxRecDepth 10000

def fixB (e : En) (b : Bk) : Bk := if b.kind = 69 ∧ ¬ e.from_ = e.to then { b with fields := renF b.fields e.from_ e.to } else b
theorem bkC_set (b : Bk) (l : List Fi) : (bkC b).set 10 (.sl 2 (enc fiC l) none .no) = bkC { b with fields := l } := rfl
theorem fixback_c (e : En) (b : Bk) (hm : BkMid b) (he : e.from_.length ≤ 1000 ∧ e.to.length ≤ 1000) (h : List (List AV)) : Contract Tryz.prog 10 [.agg (enC e), .agg (bkC b)] h (.agg (bkC (fixB e b))) h [] := by
  refine contract_of k10 mixed (by simp [c10]) fun hh hargs => ?_
  simp [c10]
  refine xcall_self (by simp) (fixcopied_c b hm _) ?_
  unfold fixB
  obtain ⟨m1, m2, m3, m4, m5, m6⟩ := hm
  have hs : shortF b.fields 10000 := fun f hf => by have := m6 f hf; omega
  by_cases k : b.kind = 69
  · by_cases n : e.from_ = e.to
    · simp [k, n, hh, leqH_take]
    · have n2 : (e.from_ != e.to) = true := by simpa using n
      simp [k, n, n2]
      refine xcall_self (by simp) (fixrenamed_c b.fields e.from_ e.to (by omega) hs (by omega) (by omega) _) ?_
      simp [hh, leqH_take, bkC_set, k]
  · have k2 : (b.kind == 69) = false := by simpa using k
    simp [k, k2, hh, leqH_take]
/-! ### Their size -/
def OkNames (e : En) : Prop := e.from_.length ≤ 1000 ∧ e.to.length ≤ 1000
/-- What is told may be told. -/
def Tellable (m : Bk) : Prop := BkFit m ∧ BkShort m ∧ BkOk m ∧ (bodyB m).length ≤ 10000000
theorem fields_le {l : List Fi} {n : Nat} (h : shortF l n) : (fieldsE l).length ≤ (n + 2) * l.length + 1 := by
  have := flat_le fieldE (n + 2) l fun f hf => by
    have := h f hf
    unfold fieldE
    simp only [textsL_one, List.length_cons, encT_len]
    omega
  unfold fieldsE
  rw [List.length_append, List.length_singleton]
  omega
theorem renF_short {l : List Fi} {a b : List UInt8} {n m : Nat} (h : shortF l n) (hb : b.length ≤ m) : shortF (renF l a b) (n + m + 100) := fun f hf => by
  unfold renF at hf
  split at hf
  · rcases withF_mem hf with h1 | rfl
    · have := h f h1; omega
    · have h2 := renQ_len (getF l 67).1 (getF l 77).1 a b
      have h3 := getF_len h 77
      show (renQ _ _ _ _).length ≤ _
      omega
  · have := h f hf; omega
theorem renF_len (l : List Fi) (a b : List UInt8) : (renF l a b).length = l.length := by
  unfold renF
  split
  · exact with_len _ _ _
  · rfl
theorem renF_code {l : List Fi} {a b : List UInt8} (h : ∀ f ∈ l, 0 ≤ f.code ∧ f.code < 256) : ∀ f ∈ renF l a b, 0 ≤ f.code ∧ f.code < 256 := fun f hf => by
  unfold renF at hf
  split at hf
  · rcases withF_mem hf with h1 | rfl
    · exact h f h1
    · exact ⟨show (0 : Int) ≤ 77 by decide, show (77 : Int) < 256 by decide⟩
  · exact h f hf
theorem fix_tell {e : En} {b : Bk} (hb : Tellable b) (hm : BkMid b) (he : OkNames e) : Tellable (fixB e b) := by
  unfold fixB
  split
  · rename_i hk
    obtain ⟨⟨q1, q2, q3, q4, q5⟩, ⟨s1, s2, s3⟩, ⟨o1, o2, o3, o4⟩, hl⟩ := hb
    obtain ⟨m1, m2, m3, m4, m5, m6⟩ := hm
    have hs := renF_short (a := e.from_) m6 he.2
    have hn := renF_len b.fields e.from_ e.to
    refine ⟨⟨q1, q2, q3, by show (renF _ _ _).length ≤ _; omega, q5⟩, ⟨s1, s2, fun f hf => by have := hs f hf; omega⟩, ⟨o1, o2, o3, renF_code o4⟩, ?_⟩
    have : bodyB { b with fields := renF b.fields e.from_ e.to } = fieldsE (renF b.fields e.from_ e.to) := by
      unfold bodyB
      simp [hk.1]
    rw [this]
    have h1 := fields_le hs
    have h2 : (3000 + 1000 + 100 + 2) * (renF b.fields e.from_ e.to).length ≤ (3000 + 1000 + 100 + 2) * 1000 := Nat.mul_le_mul (Nat.le_refl _) (by omega)
    omega
  · exact hb
theorem one_le {m : Bk} (h : (bodyB m).length ≤ 10000000) : (bytesB [m]).length ≤ 10000005 := by
  unfold bytesB
  rw [List.flatMap_cons, List.flatMap_nil, List.append_nil]
  unfold oneB
  split
  · have := numE_len 4 (((bodyB m).length : Int) + 4) (by omega)
    rw [List.length_cons, List.length_append]; omega
  · simp
def shownB (e : En) (b : Bk) : List UInt8 := if e.hide = true then [] else bytesB [fixB e b]
theorem fixshown_c (e : En) (b : Bk) (hb : Tellable b) (hm : BkMid b) (he : OkNames e) (h : List (List AV)) : Contract Tryz.prog 13 [.agg (enC e), .agg (bkC b)] h (.sl 1 (bytesE (shownB e b)) none .no) h [] := by
  have ht := fix_tell hb hm he
  have hk := fun h => fixback_c e b hm he h
  refine contract_of k13 mixed (by simp [c13]) fun hh hargs => ?_
  unfold shownB
  cases p : e.hide with
  | true => simp [c13, p, hh]
  | false =>
    simp [c13, p]
    refine xcall_self (by simp) (hk _) ?_
    generalize fixB e b = m at ht ⊢
    have h1 := one_le ht.2.2.2
    simp
    refine xcall_of (bbytes_c [m] (by intro x hx; rw [List.mem_singleton.1 hx]; exact ⟨ht.1, ht.2.2.1, Nat.le_trans ht.2.2.2 (by omega)⟩) (by omega) (by simp) _) (by simp) (by simp) ?_
    simp [hh]
end Go.Proofs.YthielckgianmgaaGreatDoor.Ax
